/-
  MERGED: my texts Shape, Shape2, KindsR, Rename, Same, RuleSpec, AnyR, RuleImpl, RankSpec, Dice, DrawSig, DrawTerm, DrawAny, DrawX, Stk, PartsSpec, KboLink, AnyJ, TabR, Inside, Plain, PlainOf, MatchSpec, Whole, KboOft, WOftenIn, one behind the other, as they are. By an AI agent.
-/
import Derived.Test.YtiimbmkofpnebaaMFnExactOftenIn1
import Derived.Deep.RegionHeld3
import Derived.Deep.QuietTactic
import Derived.BigQuiet
import Derived.Shelf.Abstract
import Derived.Deep.LoopGhost
import Derived.Deep.AppendLies
import Derived.Deep.RegionLaw
import Derived.Deep.Onto
import Derived.Deep.DeepMust
import Derived.Laws.Rows
import Derived.Laws.ResultCell
namespace Go.Proofs.Ytiimbmkofpnebaa
section
namespace shape
open Go.RowKit base ints sig cursor marks app sym appAt segs segsHelp segsMark kinds
inductive Sh where
 | num : Sh
 | bit : Sh
 | row : TypeId → Sh → Sh
 | cat : Sh → Sh → Sh
@[reducible] def Dat : Sh → Type
 | .num => Int
 | .bit => Bool
 | .row _ s => List (Dat s)
 | .cat a b => Dat a × Dat b
def nc : Sh → Nat
 | .num => 1
 | .bit => 1
 | .row _ _ => 1
 | .cat a b => nc a + nc b
def dft : (s : Sh) → Dat s
 | .num => (0 : Int)
 | .bit => false
 | .row _ _ => []
 | .cat a b => (dft a, dft b)
def Piece (w : World) (b off : Nat) (es : List Value) : Prop := ∀ i, i < es.length → w.cell? ⟨b, off + i, none⟩ = es[i]?
def Rd (w : World) (B : Nat) : (s : Sh) → List Value → Dat s → Prop
 | .num, cs, (x : Int) => cs = [.int .i64 x]
 | .bit, cs, (x : Bool) => cs = [.bool x]
 | .row _ s, cs, (d : List (Dat s)) => ∃ A n c, cs = [.slice A n c] ∧ Cap A n c ∧ d.length = n ∧
   (0 < n → ∃ b off, A = some ⟨b, off, none⟩ ∧ b < B ∧ ∀ j, j < n → ∃ es, es.length = nc s ∧ Piece w b (off + j * nc s) es ∧ Rd w B s es (d.getD j (dft s)))
 | .cat a b, cs, d => ∃ ca cb, cs = ca ++ cb ∧ Rd w B a ca d.1 ∧ Rd w B b cb d.2
def Ow (w : World) : (s : Sh) → List Value → Dat s → List Nat → Prop
 | .num, cs, (x : Int), F => cs = [.int .i64 x] ∧ F = []
 | .bit, cs, (x : Bool), F => cs = [.bool x] ∧ F = []
 | .row e s, cs, (d : List (Dat s)), F => ∃ A n c, cs = [.slice A n c] ∧ d.length = n ∧
   ((A = none ∧ n = 0 ∧ c = 0 ∧ F = []) ∨ ∃ (g : Nat) (cur : Array Value) (E : Nat → List Value) (G : Nat → List Nat), A = some ⟨g, 0, none⟩ ∧ Row w g e cur ∧ n ≤ c ∧ c ≤ 9223372036854775807 ∧ cur.size = c * nc s ∧
    F = g :: (List.range n).flatMap G ∧ ∀ j, j < n → (E j).length = nc s ∧ (∀ i, i < nc s → cur[j * nc s + i]? = (E j)[i]?) ∧ Ow w s (E j) (d.getD j (dft s)) (G j))
 | .cat a b, cs, d, F => ∃ ca cb Fa Fb, cs = ca ++ cb ∧ F = Fa ++ Fb ∧ Ow w a ca d.1 Fa ∧ Ow w b cb d.2 Fb
section
variable {w w' : World} {B B' : Nat}
theorem Rd.len : ∀ {s : Sh} {cs : List Value} {d : Dat s}, Rd w B s cs d → cs.length = nc s
 | .num, _, _, h => by have h : _ = _ := h; rw [h]; rfl
 | .bit, _, _, h => by have h : _ = _ := h; rw [h]; rfl
 | .row _ _, _, _, h => by obtain ⟨A, n, c, e, _⟩ := h; rw [e]; rfl
 | .cat a b, _, _, h => by
  obtain ⟨ca, cb, e, h1, h2⟩ := h
  rw [e, List.length_append, h1.len, h2.len]; rfl
theorem Piece.keep {b off : Nat} {es : List Value} (h : Piece w b off es) (hk : ∀ p : Addr, p.block = b → w'.cell? p = w.cell? p) : Piece w' b off es := fun i hi => (hk _ rfl).trans (h i hi)
theorem Rd.keep (hk : ∀ p : Addr, p.block < B → w'.cell? p = w.cell? p) : ∀ {s : Sh} {cs : List Value} {d : Dat s}, Rd w B s cs d → Rd w' B s cs d
 | .num, _, _, h => h
 | .bit, _, _, h => h
 | .row _ s, _, _, h => by
  obtain ⟨A, n, c, e, hc, hl, h1⟩ := h
  refine ⟨A, n, c, e, hc, hl, fun hn => ?_⟩
  obtain ⟨b, off, e2, hb, h2⟩ := h1 hn
  refine ⟨b, off, e2, hb, fun j hj => ?_⟩
  obtain ⟨es, he, hp, hr⟩ := h2 j hj
  exact ⟨es, he, hp.keep (fun p hp => hk p (by rw [hp]; exact hb)), hr.keep hk⟩
 | .cat a b, _, _, h => by
  obtain ⟨ca, cb, e, h1, h2⟩ := h
  exact ⟨ca, cb, e, h1.keep hk, h2.keep hk⟩
theorem Rd.more (hB : B ≤ B') : ∀ {s : Sh} {cs : List Value} {d : Dat s}, Rd w B s cs d → Rd w B' s cs d
 | .num, _, _, h => h
 | .bit, _, _, h => h
 | .row _ s, _, _, h => by
  obtain ⟨A, n, c, e, hc, hl, h1⟩ := h
  refine ⟨A, n, c, e, hc, hl, fun hn => ?_⟩
  obtain ⟨b, off, e2, hb, h2⟩ := h1 hn
  refine ⟨b, off, e2, by omega, fun j hj => ?_⟩
  obtain ⟨es, he, hp, hr⟩ := h2 j hj
  exact ⟨es, he, hp, hr.more hB⟩
 | .cat a b, _, _, h => by
  obtain ⟨ca, cb, e, h1, h2⟩ := h
  exact ⟨ca, cb, e, h1.more hB, h2.more hB⟩
theorem Rd.below {s : Sh} {cs : List Value} {d : Dat s} (h : Rd w B s cs d) (hb : Below B w w') : Rd w' B s cs d := h.keep fun _ hp => hb.cell hp
theorem Rd.next {s : Sh} {cs : List Value} {d : Dat s} (h : Rd w w.heap.size s cs d) (hb : Below w.heap.size w w') : Rd w' w'.heap.size s cs d := (h.below hb).more hb.size
theorem Ow.len : ∀ {s : Sh} {cs : List Value} {d : Dat s} {F : List Nat}, Ow w s cs d F → cs.length = nc s
 | .num, _, _, _, h => by obtain ⟨e, _⟩ := h; rw [e]; rfl
 | .bit, _, _, _, h => by obtain ⟨e, _⟩ := h; rw [e]; rfl
 | .row _ _, _, _, _, h => by obtain ⟨A, n, c, e, _⟩ := h; rw [e]; rfl
 | .cat a b, _, _, _, h => by
  obtain ⟨ca, cb, Fa, Fb, e, _, h1, h2⟩ := h
  rw [e, List.length_append, h1.len, h2.len]; rfl
theorem Ow.keep : ∀ {s : Sh} {cs : List Value} {d : Dat s} {F : List Nat}, Ow w s cs d F → (∀ k ∈ F, w'.heap[k]? = w.heap[k]?) → Ow w' s cs d F
 | .num, _, _, _, h, _ => h
 | .bit, _, _, _, h, _ => h
 | .row e s, _, _, F, h, hk => by
  obtain ⟨A, n, c, e1, hl, h1⟩ := h
  refine ⟨A, n, c, e1, hl, ?_⟩
  rcases h1 with h1 | ⟨g, cur, E, G, e2, hr, h2, h3, h4, h5, h6⟩
  ·exact .inl h1
  ·subst h5
   refine .inr ⟨g, cur, E, G, e2, (hk g (List.mem_cons_self ..)).trans hr, h2, h3, h4, rfl, fun j hj => ?_⟩
   obtain ⟨q1, q2, q3⟩ := h6 j hj
   exact ⟨q1, q2, q3.keep fun k hkG => hk k (List.mem_cons_of_mem _ (List.mem_flatMap.2 ⟨j, List.mem_range.2 hj, hkG⟩))⟩
 | .cat a b, _, _, F, h, hk => by
  obtain ⟨ca, cb, Fa, Fb, e, e2, h1, h2⟩ := h
  subst e2
  exact ⟨ca, cb, Fa, Fb, e, rfl, h1.keep fun k h => hk k (List.mem_append_left _ h), h2.keep fun k h => hk k (List.mem_append_right _ h)⟩
theorem Ow.lt : ∀ {s : Sh} {cs : List Value} {d : Dat s} {F : List Nat}, Ow w s cs d F → ∀ k ∈ F, k < w.heap.size
 | .num, _, _, _, h, k, hk => by obtain ⟨_, e⟩ := h; rw [e] at hk; cases hk
 | .bit, _, _, _, h, k, hk => by obtain ⟨_, e⟩ := h; rw [e] at hk; cases hk
 | .row e s, _, _, F, h, k, hk => by
  obtain ⟨A, n, c, e1, hl, h1⟩ := h
  rcases h1 with ⟨_, _, _, h1⟩ | ⟨g, cur, E, G, e2, hr, h2, h3, h4, h5, h6⟩
  ·rw [h1] at hk; cases hk
  ·rw [h5] at hk
   rcases List.mem_cons.1 hk with hk | hk
   ·rw [hk]; exact hr.lt
   ·obtain ⟨j, hj, hk⟩ := List.mem_flatMap.1 hk
    exact (h6 j (List.mem_range.1 hj)).2.2.lt k hk
 | .cat a b, _, _, F, h, k, hk => by
  obtain ⟨ca, cb, Fa, Fb, e, e2, h1, h2⟩ := h
  rw [e2] at hk
  rcases List.mem_append.1 hk with hk | hk
  ·exact h1.lt k hk
  ·exact h2.lt k hk
theorem Ow.next {s : Sh} {cs : List Value} {d : Dat s} {F : List Nat} (h : Ow w s cs d F) (hb : Below w.heap.size w w') : Ow w' s cs d F := h.keep fun k hk => hb.block k (h.lt k hk)
def Owned (w : World) (lo hi : Nat) (s : Sh) (cs : List Value) (d : Dat s) : Prop := ∃ F, Ow w s cs d F ∧ F.Nodup ∧ ∀ k ∈ F, lo ≤ k ∧ k < hi
variable {lo hi : Nat} {s : Sh} {cs : List Value} {d : Dat s}
theorem Owned.next (h : Owned w lo hi s cs d) (hb : Below w.heap.size w w') : Owned w' lo hi s cs d := by obtain ⟨F, h, h2⟩ := h; exact ⟨F, h.next hb, h2⟩
theorem Owned.cat {mid mid' : Nat} {a b : Sh} {ca cb : List Value} {da : Dat a} {db : Dat b} (h1 : Owned w lo mid a ca da) (h2 : Owned w mid' hi b cb db) (hm : mid ≤ mid') (hl : lo ≤ mid') (hh : mid ≤ hi) : Owned w lo hi (.cat a b) (ca ++ cb) (da, db) := by
 obtain ⟨F, h1, n1, b1⟩ := h1
 obtain ⟨G, h2, n2, b2⟩ := h2
 refine ⟨F ++ G, ⟨ca, cb, F, G, rfl, rfl, h1, h2⟩, List.nodup_append.2 ⟨n1, n2, fun x hx y hy e => ?_⟩, fun k hk => ?_⟩
 ·have := b1 x hx; have := b2 y hy; omega
 ·rcases List.mem_append.1 hk with hk | hk
  ·have := b1 k hk; omega
  ·have := b2 k hk; omega
end
abbrev sI : Sh := .row 2 .num
section
variable {w w' : World} {B : Nat}
end
def sz : (s : Sh) → Dat s → Nat
 | .num, _ => 0
 | .bit, _ => 0
 | .row _ s, (d : List (Dat s)) => d.length + (d.map (sz s)).sum
 | .cat a b, d => sz a d.1 + sz b d.2
def cnt : (s : Sh) → Dat s → Nat
 | .num, _ => 1
 | .bit, _ => 1
 | .row _ s, (d : List (Dat s)) => (d.map (cnt s)).sum
 | .cat a b, d => cnt a d.1 + cnt b d.2
def wd : Sh → Nat
 | .num => 1
 | .bit => 1
 | .row _ s => wd s
 | .cat a b => wd a + wd b
theorem sum_le {α : Type} {f g : α → Nat} {C : Nat} : ∀ {l : List α}, (∀ x ∈ l, f x ≤ C * (1 + g x)) → (l.map f).sum ≤ C * (l.length + (l.map g).sum)
 | [], _ => Nat.zero_le _
 | x :: l, h => by
  have h1 := h x (List.mem_cons_self ..)
  have h2 := sum_le (l := l) fun y hy => h y (List.mem_cons_of_mem _ hy)
  simp only [List.map_cons, List.sum_cons, List.length_cons]
  have e : C * (l.length + 1 + (g x + (l.map g).sum)) = C * (1 + g x) + C * (l.length + (l.map g).sum) := by rw [← Nat.mul_add]; congr 1; omega
  omega
theorem cnt_le : ∀ (s : Sh) (d : Dat s), cnt s d ≤ wd s * (1 + sz s d)
 | .num, _ => by simp [cnt, wd]
 | .bit, _ => by simp [cnt, wd]
 | .row _ s, (d : List (Dat s)) => by
  have h := sum_le (f := cnt s) (g := sz s) (C := wd s) (l := d) fun x _ => cnt_le s x
  show (d.map (cnt s)).sum ≤ wd s * (1 + (d.length + (d.map (sz s)).sum))
  have : wd s * (d.length + (d.map (sz s)).sum) ≤ wd s * (1 + (d.length + (d.map (sz s)).sum)) := Nat.mul_le_mul_left _ (by omega)
  omega
 | .cat a b, d => by
  have h1 := cnt_le a d.1
  have h2 := cnt_le b d.2
  show cnt a d.1 + cnt b d.2 ≤ (wd a + wd b) * (1 + (sz a d.1 + sz b d.2))
  have h3 : wd a * (1 + sz a d.1) ≤ wd a * (1 + (sz a d.1 + sz b d.2)) := Nat.mul_le_mul_left _ (by omega)
  have h4 : wd b * (1 + sz b d.2) ≤ wd b * (1 + (sz a d.1 + sz b d.2)) := Nat.mul_le_mul_left _ (by omega)
  rw [Nat.add_mul]
  omega
end shape
end
section
namespace shape
open Go.RowKit base ints sig cursor marks app sym appAt segs segsHelp segsMark kinds
structure Only (F : List Nat) (w w' : World) : Prop where
 os : w'.os = w.os
 tape : w'.tape = w.tape
 output : w'.output = w.output
 size : w.heap.size ≤ w'.heap.size
 block : ∀ k, k < w.heap.size → k ∉ F → w'.heap[k]? = w.heap[k]?
section
variable {w w' w2 : World} {B : Nat} {s : Sh} {e : TypeId} {v : Value} {F G : List Nat}
theorem Ow.only {cs : List Value} {d : Dat s} (h : Ow w s cs d F) (ho : Only G w w') (hd : ∀ k ∈ F, k ∉ G) : Ow w' s cs d F := h.keep fun k hk => ho.block k (h.lt k hk) (hd k hk)
end
section
variable {s : Sh} {e : TypeId}
end
theorem Rd.split {w : World} {B : Nat} {a b : Sh} {ca cb : List Value} {d : Dat (.cat a b)} (h : Rd w B (.cat a b) (ca ++ cb) d) (hl : ca.length = nc a) : Rd w B a ca d.1 ∧ Rd w B b cb d.2 := by
 obtain ⟨ca', cb', e, h1, h2⟩ := h
 obtain ⟨rfl, rfl⟩ := List.append_inj e (by rw [hl, h1.len])
 exact ⟨h1, h2⟩
theorem Ow.split {w : World} {a b : Sh} {ca cb : List Value} {d : Dat (.cat a b)} {F : List Nat} (h : Ow w (.cat a b) (ca ++ cb) d F) (hl : ca.length = nc a) : ∃ Fa Fb, F = Fa ++ Fb ∧ Ow w a ca d.1 Fa ∧ Ow w b cb d.2 Fb := by
 obtain ⟨ca', cb', Fa, Fb, e, e2, h1, h2⟩ := h
 obtain ⟨rfl, rfl⟩ := List.append_inj e (by rw [hl, h1.len])
 exact ⟨Fa, Fb, e2, h1, h2⟩
theorem Row.only {w w' : World} {g : Nat} {t : TypeId} {cs : Array Value} {F : List Nat} (h : Row w g t cs) (ho : Only F w w') (hg : g ∉ F) : Row w' g t cs := (ho.block g h.lt hg).trans h
section
variable {s : Sh} {e : TypeId}
end
structure CpS (w : World) (tL tI : TypeId) (cs zs part : Array Value) (wr : World) : Prop where
 box : Row wr w.heap.size tL cs
 res : Row wr (w.heap.size + 1) tI zs
 cur : Row wr (w.heap.size + 1 + 1) tI part
 bel : Below w.heap.size w wr
 size : w.heap.size + 1 + 1 + 1 ≤ wr.heap.size
section
variable {w wr w1 : World} {tL tI : TypeId} {cs zs part : Array Value}
theorem CpS.zero (w : World) (tL tI : TypeId) (cs zs : Array Value) : CpS w tL tI cs zs zs (((w.alloc (.cells cs tL)).alloc (.cells zs tI)).alloc (.cells zs tI)) where
 box := by have := ((Row.new w tL cs).alloc (.cells zs tI)).alloc (.cells zs tI); simpa using this
 res := by have := (Row.new (w.alloc (.cells cs tL)) tI zs).alloc (.cells zs tI); simpa using this
 cur := by have := Row.new ((w.alloc (.cells cs tL)).alloc (.cells zs tI)) tI zs; simpa using this
 bel := (((Below.refl _ _).alloc (Nat.le_refl _) _).alloc (by simp) _).alloc (by simp; omega) _
 size := by simp
theorem CpS.next (h : CpS w tL tI cs zs part wr) (bb : Below wr.heap.size wr w1) : CpS w tL tI cs zs part w1 :=
 ⟨h.box.next bb, h.res.next bb, h.cur.next bb, h.bel.trans (bb.mono h.bel.size), Nat.le_trans h.size bb.size⟩
end
end shape
end
section
namespace kindsR
open Go.RowKit base ints sig cursor marks app sym appAt segs segsHelp segsMark kinds shape
set_option maxRecDepth 100000
abbrev sSig : Sh := sI
def CopySig (w : World) (d : Dat sSig) (e : Ending) (w' : World) : Prop := ∃ A0 n0 c0, e = .returned (.agg #[.slice A0 n0 c0]) ∧ Owned w' w.heap.size w'.heap.size sSig [.slice A0 n0 c0] d ∧ Below w.heap.size w w'
end kindsR
end
section
namespace rename
open Go.RowKit base ints sig term termOk marks app sym segs termFacts varsMath varsOf renMath
set_option maxRecDepth 100000
end rename
end
section
namespace same
open Go.RowKit base ints
end same
end
section
namespace ruleSpec
open Go.RowKit renMath base ints sig term termOk marks app sym segs termFacts varsMath varsOf rename same count linear shape kindsR ruleMath
set_option maxRecDepth 100000
theorem box1 (w : World) (t : TypeId) (cs : Array Value) : ∃ W, W = w.alloc (.cells cs t) ∧ Row W w.heap.size t cs ∧ Below w.heap.size w W :=
 ⟨_, rfl, Row.new _ _ _, (Below.refl _ _).alloc (Nat.le_refl _) _⟩
end ruleSpec
end
section
namespace anyR
open Go.RowKit base ints sig segs varsOf shape kindsR ruleMath
set_option maxRecDepth 100000
theorem any_of {α : Type} [Inhabited α] {f : α → Bool} {xs : List α} {k : Nat} {x z : α} (hk : k < xs.length) (ex : xs.getD k z = x) (h : f x = true) : xs.any f = true := by
 rw [List.any_eq_true]
 refine ⟨xs[k], List.getElem_mem hk, ?_⟩
 have : xs.getD k z = xs[k] := by simp [List.getD, hk]
 rw [← this, ex]; exact h
theorem none_of {α : Type} {f : α → Bool} {xs : List α} {z : α} (h : ∀ j, j < xs.length → f (xs.getD j z) = false) : xs.any f = false := by
 rw [List.any_eq_false]
 intro x hx
 obtain ⟨i, hi, rfl⟩ := List.getElem_of_mem hx
 have := h i hi
 simpa [List.getD, hi] using this
theorem mem_at {α : Type} {xs : List α} {k : Nat} {x z : α} (hk : k < xs.length) (ex : xs.getD k z = x) : x ∈ xs := by
 have : xs.getD k z = xs[k] := by simp [List.getD, hk]
 rw [← ex, this]; exact List.getElem_mem hk
end anyR
end
section
namespace ruleImpl
open Go.RowKit base ints sig term termOk marks app sym segs termFacts varsMath varsOf rename same count linear shape kindsR ruleMath ruleSpec anyR
set_option maxRecDepth 100000
end ruleImpl
end
section
namespace rankSpec
open Go.RowKit base ints sig term rankMath shape kindsR ruleMath ruleSpec ruleImpl
set_option maxRecDepth 100000
end rankSpec
end
section
namespace dice
open Go.RowKit base ints cursor
def SegB (w : World) (B : Nat) (A : Option Addr) (n : Nat) : Prop :=
 0 < n → ∃ b off, A = some ⟨b, off, none⟩ ∧ b < B ∧ ∀ j, j < n → ∃ x : Int, 0 ≤ x ∧ x ≤ 255 ∧ w.cell? ⟨b, off + j, none⟩ = some (.int .u8 x)
theorem SegB.keep {w w' : World} {B : Nat} {A : Option Addr} {n : Nat} (h : SegB w B A n) (hk : ∀ p : Addr, p.block < B → w'.cell? p = w.cell? p) : SegB w' B A n := fun hn => by
 obtain ⟨b, off, e, hb, hc⟩ := h hn
 refine ⟨b, off, e, hb, fun j hj => ?_⟩
 obtain ⟨x, h0, h1, h2⟩ := hc j hj
 exact ⟨x, h0, h1, (hk ⟨b, off + j, none⟩ hb).trans h2⟩
structure DiceAt (w : World) (p : Nat) (A : Option Addr) (n c i : Nat) (h : Int) : Prop where
 row : Row w p 152 #[.slice A n c, .int .i64 i, .int .i64 h]
 le : i ≤ n
 s : SegB w p A n
 hn : n ≤ 4096
def Dice (w : World) (p : Nat) (A : Option Addr) (n c : Nat) : Prop := ∃ i h, DiceAt w p A n c i h
section
variable {w w' : World} {p : Nat} {A : Option Addr} {n c i : Nat} {h : Int}
theorem Dice.next (d : Dice w p A n c) (hb : Below w.heap.size w w') : Dice w' p A n c := by
 obtain ⟨i, h, d⟩ := d
 have hp := d.row.lt
 exact ⟨i, h, d.row.next hb, d.le, d.s.keep fun q hq => hb.cell (Nat.lt_trans hq hp), d.hn⟩
end
end dice
end
section
namespace drawSig
open Go.RowKit base ints sig cursor marks app sym dice
set_option maxRecDepth 100000
section
variable {w : World} {p : Nat} {A : Option Addr} {n c v : Nat} {wr : World} {O : Option Addr} {on oc : Nat} {xs : List Int}
end
def Short (xs : List Int) : Prop := xs.length ≤ 9
end drawSig
end
section
namespace drawTerm
open Go.RowKit base ints sig term cursor marks app sym dice drawSig
set_option maxRecDepth 100000
def Rd (w : World) (p B : Nat) (A : Option Addr) (n : Nat) (xs : List Int) : Prop :=
 xs.length = n ∧ (0 < n → ∃ b off, A = some ⟨b, off, none⟩ ∧ b < B ∧ b ≠ p ∧ ∀ j, j < n → w.cell? ⟨b, off + j, none⟩ = some (.int .i64 (xs.getD j 0)))
theorem Rd.more {w : World} {p B B' : Nat} {A : Option Addr} {n : Nat} {xs : List Int} (h : Rd w p B A n xs) (hB : B ≤ B') : Rd w p B' A n xs :=
 ⟨h.1, fun hn => by obtain ⟨b, off, e, hb, hne, hc⟩ := h.2 hn; exact ⟨b, off, e, by omega, hne, hc⟩⟩
theorem Rd.keep {w w' : World} {p B : Nat} {A : Option Addr} {n : Nat} {xs : List Int} (h : Rd w p B A n xs) (hk : ∀ q : Addr, q.block < B → q.block ≠ p → w'.cell? q = w.cell? q) : Rd w' p B A n xs :=
 ⟨h.1, fun hn => by obtain ⟨b, off, e, hb, hne, hc⟩ := h.2 hn; exact ⟨b, off, e, hb, hne, fun j hj => (hk ⟨b, off + j, none⟩ hb hne).trans (hc j hj)⟩⟩
theorem Rd.below {w w' : World} {p B B' : Nat} {A : Option Addr} {n : Nat} {xs : List Int} (h : Rd w p B A n xs) (hb : Below B' w w') (hB : B ≤ B') : Rd w' p B A n xs :=
 h.keep fun q hq _ => hb.cell (by omega)
structure DT (w : World) (p : Nat) (A : Option Addr) (n c : Nat) (S : Option Addr) (sn sc : Nat) (sg : List Int) (wr : World) : Prop where
 d : Dice wr p A n c
 r : Row wr w.heap.size 29 #[.slice S sn sc]
 s : Rd wr p w.heap.size S sn sg
 g : w.grownBy wr (some p)
 hp : p < w.heap.size
section
variable {w : World} {p : Nat} {A : Option Addr} {n c : Nat} {S : Option Addr} {sn sc : Nat} {sg : List Int} {wr w' : World}
end
def HeadT (w : World) (p : Nat) (A : Option Addr) (n c : Nat) (S : Option Addr) (sn sc : Nat) (sg : List Int) (M : Nat) (out k : Value) (wr : World) : Prop :=
 ∃ (q : Nat) (O : Option Addr) (on oc : Nat) (xs : List Int), k = .int .i64 q ∧ q ≤ 3 ∧ out = .slice O on oc ∧ Own wr (w.heap.size + 1) (.slice O on oc) xs ∧ 1 ≤ on ∧ on + q * M ≤ 1 + 3 * M ∧ DT w p A n c S sn sc sg wr
end drawTerm
end
section
namespace drawAny
open Go.RowKit base ints sig term cursor termOk marks app sym dice drawSig drawTerm
set_option maxRecDepth 100000
theorem Own.cap {w : World} {base : Nat} {O : Option Addr} {on oc : Nat} {xs : List Int} (h : Own w base (.slice O on oc) xs) : on ≤ oc ∧ oc ≤ 9223372036854775807 := by
 rcases h.2 with ⟨e, _⟩ | ⟨g, cap, cur, e, _, _, h1, h2, _⟩
 ·injection e with _ e1 e2; omega
 ·injection e with _ e1 e2
  have := Own.len h
  unfold maxLen at h2
  omega
end drawAny
end
section
namespace drawX
open Go.RowKit base ints sig cursor marks app appAt sym segs shape dice
def RdQ (w : World) (Q : Nat → Prop) : (s : Sh) → List Value → Dat s → Prop
 | .num, cs, (x : Int) => cs = [.int .i64 x]
 | .bit, cs, (x : Bool) => cs = [.bool x]
 | .row _ s, cs, (d : List (Dat s)) => ∃ A n c, cs = [.slice A n c] ∧ Cap A n c ∧ d.length = n ∧
   (0 < n → ∃ b off, A = some ⟨b, off, none⟩ ∧ Q b ∧ ∀ j, j < n → ∃ es, es.length = nc s ∧ Piece w b (off + j * nc s) es ∧ RdQ w Q s es (d.getD j (dft s)))
 | .cat a b, cs, d => ∃ ca cb, cs = ca ++ cb ∧ RdQ w Q a ca d.1 ∧ RdQ w Q b cb d.2
section
variable {w w' : World} {Q Q' : Nat → Prop} {B : Nat}
theorem RdQ.keep (hk : ∀ b, Q b → w'.heap[b]? = w.heap[b]?) : ∀ {s : Sh} {cs : List Value} {d : Dat s}, RdQ w Q s cs d → RdQ w' Q s cs d
 | .num, _, _, h => h
 | .bit, _, _, h => h
 | .row _ s, _, _, h => by
  obtain ⟨A, n, c, e, hc, hl, h1⟩ := h
  refine ⟨A, n, c, e, hc, hl, fun hn => ?_⟩
  obtain ⟨b, off, e2, hb, h2⟩ := h1 hn
  refine ⟨b, off, e2, hb, fun j hj => ?_⟩
  obtain ⟨es, he, hp, hr⟩ := h2 j hj
  exact ⟨es, he, hp.keep (fun p hp => World.cell?_of_block (by rw [hp]; exact hk b hb)), hr.keep hk⟩
 | .cat a b, _, _, h => by
  obtain ⟨ca, cb, e, h1, h2⟩ := h
  exact ⟨ca, cb, e, h1.keep hk, h2.keep hk⟩
theorem RdQ.len : ∀ {s : Sh} {cs : List Value} {d : Dat s}, RdQ w Q s cs d → cs.length = nc s
 | .num, _, _, h => by have h : _ = _ := h; rw [h]; rfl
 | .bit, _, _, h => by have h : _ = _ := h; rw [h]; rfl
 | .row _ _, _, _, h => by obtain ⟨A, n, c, e, _⟩ := h; rw [e]; rfl
 | .cat a b, _, _, h => by
  obtain ⟨ca, cb, e, h1, h2⟩ := h
  rw [e, List.length_append, h1.len, h2.len]; rfl
theorem RdQ.cat {a b : Sh} {ca cb : List Value} {x : Dat a} {y : Dat b} (h1 : RdQ w Q a ca x) (h2 : RdQ w Q b cb y) : RdQ w Q (.cat a b) (ca ++ cb) (x, y) := ⟨ca, cb, rfl, h1, h2⟩
end
def OutR (w : World) (p : Nat) (r : Option Nat) (b : Nat) : Prop := b < w.heap.size ∧ b ≠ p ∧ some b ≠ r
section
variable {w w' : World} {p : Nat} {r : Option Nat} {s : Sh} {cs : List Value} {d : Dat s}
end
def cellsOf (k : Nat) (vs : List Value) (j : Nat) : List Value := (vs.drop (j * k)).take k
def OwnQ (w : World) (p lo : Nat) (e : TypeId) (s : Sh) (A : Option Addr) (n c : Nat) (D : List (Dat s)) : Prop :=
 D.length = n ∧ ∃ vs : List Value, w.ownsRow lo e (nc s) (.slice A n c) n vs ∧ ∀ j, j < n → RdQ w (OutR w p (blk A)) s (cellsOf (nc s) vs j) (D.getD j (dft s))
section
variable {w w' : World} {p lo n c : Nat} {e : TypeId} {s : Sh} {A : Option Addr} {D : List (Dat s)}
theorem OwnQ.nil (w : World) (p lo : Nat) (e : TypeId) (s : Sh) : OwnQ w p lo e s none 0 0 [] := ⟨rfl, [], ⟨by simp, .inl ⟨rfl, rfl⟩⟩, fun j hj => absurd hj (Nat.not_lt_zero _)⟩
end
end drawX
end
section
namespace stk
open Go.RowKit base ints marks app sym appAt segs segsMark kinds shape drawX
set_option maxRecDepth 100000
def Stk (w : World) (Q : Nat → Prop) (lo : Nat) (A : Option Addr) (n c : Nat) (D : List (List Int)) : Prop :=
 D.length = n ∧ ∃ vs : List Value, w.ownsRow lo 27 1 (.slice A n c) n vs ∧ ∀ j, j < n → RdQ w Q sI [vs.getD j undef] (D.getD j [])
def Keep (Q : Nat → Prop) (w w' : World) : Prop := ∀ b, Q b → w'.heap[b]? = w.heap[b]?
section
variable {w w' : World} {Q Q' : Nat → Prop} {lo n c : Nat} {A : Option Addr} {D : List (List Int)}
theorem Keep.below {B : Nat} (h : Below B w w') (hQ : ∀ b, Q b → b < B) : Keep Q w w' := fun b hb => h.block b (hQ b hb)
theorem Stk.nil (w : World) (Q : Nat → Prop) (lo : Nat) : Stk w Q lo none 0 0 [] := ⟨rfl, [], World.ownsRow_nil w lo _ _, fun j hj => absurd hj (Nat.not_lt_zero j)⟩
theorem Stk.keep {r : Option Nat} (h : Stk w Q lo A n c D) (hg : w.grownBy w' r) (hne : blk A = none ∨ blk A ≠ r) (hk : Keep Q w w') : Stk w' Q lo A n c D := by
 obtain ⟨h1, vs, h2, h3⟩ := h
 exact ⟨h1, vs, World.ownsRow.kept h2 hg (by rw [blk_own]; exact hne), fun j hj => (h3 j hj).keep hk⟩
theorem Stk.next (h : Stk w Q lo A n c D) (hb : Below w.heap.size w w') (hQ : ∀ b, Q b → b < w.heap.size) : Stk w' Q lo A n c D :=
 h.keep (r := none) ⟨hb.os, hb.tape, hb.output, hb.size, fun k hk _ => hb.block k hk⟩ (by cases blk A <;> simp) (Keep.below hb hQ)
end
end stk
end
section
namespace partsSpec
open Go.RowKit base ints sig term arity endOf marks app segs kinds shape drawX forest stk
set_option maxRecDepth 100000
theorem Fo.le {sg : List Int} {q : Nat} {l : List Int} (h : Fo sg q l) : q ≤ l.length := by
 induction h with
 | nil => exact Nat.zero_le _
 | var x r q h h1 ih => simp; exact ih
 | app x r q h h2 h1 ih => simp; omega
end partsSpec
end
section
namespace kboLink
open sig term termOk forest partsSpec lpoMath lpoLink rankMath rankSpec kboMath
variable {sg sy rk : List Int} {v : Int}
theorem getD_get {l : List Int} {k : Nat} (h : k < l.length) : l.getD k 0 = l[k] := by simp [h]
end kboLink
end
section
open Go.Lib (hid)
namespace anyJ
open Go.RowKit base ints sig anyR
set_option maxRecDepth 100000
def TestsJ (g : Nat) (lb : Array Value) (J : World → Prop) (xs : List Int) (f : Int → Bool) : Prop := ∀ (W : World) (x : Int), J W → x ∈ xs → Calls Try.prog g (#[.int .i64 x] ++ lb) W fun e w' => e = .returned (.bool (f x)) ∧ J w'
def FstJ (f : Int → Bool) (xs : List Int) (z : Int) : Prop := (z = -1 ∧ ∀ j, j < xs.length → f (xs.getD j 0) = false) ∨ ∃ k : Nat, z = (k : Int) ∧ k < xs.length ∧ f (xs.getD k 0) = true ∧ ∀ j, j < k → f (xs.getD j 0) = false
def AnsJx (J : World → Prop) (f : Int → Bool) (xs : List Int) (e : Ending) (w' : World) : Prop := ∃ z : Int, e = .returned (.int .i64 z) ∧ FstJ f xs z ∧ J w'
def HeadJx (J : World → Prop) (n : Nat) (f : Int → Bool) (xs : List Int) (i : Value) (wr : World) : Prop := ∃ k : Nat, k ≤ n ∧ i = .int .i64 k ∧ (∀ j, j < k → f (xs.getD j 0) = false) ∧ J wr
set_option maxHeartbeats 2000000 in
theorem indexFuncJ (g : Nat) (lb : Array Value) (eg : ∀ args w, (callFunc g args).run Try.prog w = .ok (.enter g args) w) (J : World → Prop) (f : Int → Bool) (A : Option Addr) (n c : Nat) (xs : List Int) (w : World) (hT : TestsJ g lb J xs f)
  (hR : ∀ W, J W → Seg W W.heap.size A n xs) (hJ : J w) (hl : xs.length = n) (hn : n ≤ 1048576) :
  Calls Try.prog 145 #[.slice A n c, .func (.func g) #[] lb] w (AnsJx J f xs) := by
 have HL := hid hl
 have HK := hid hT
 have HR := hid hR
 have HH : Hid (HeadJx J n f xs (.int .i64 0) w) := hid ⟨0, Nat.zero_le _, rfl, fun j hj => absurd hj (Nat.not_lt_zero _), hJ⟩
 clear hT hR hl hJ
 go_enter Try.func145, Try.ntmps145
 go_wp2_with fail
 go_loopw [8] (fun i wr => HeadJx J n f xs i wr) (fun i _ => n - (intOf i).toNat)
 case atStart => exact HH.out
 case round =>
  obtain ⟨k, hk, rfl, hlow, hJ⟩ := hrel
  have HLOW := hid hlow
  have HJ := hid hJ
  clear hlow HH hJ
  by_cases hlt : k < n
  ·have hkD : k < xs.length := by rw [HL.out]; exact hlt
   obtain ⟨b, off, x, rfl, hbB, hx, ex⟩ := (HR.out wr HJ.out).spot hlt
   have hcall := HK.out wr x HJ.out (mem_at hkD ex.out)
   obtain ⟨v, hv⟩ : ∃ v, f x = v := ⟨_, rfl⟩
   rw [hv] at hcall
   have HV := hid hv
   have HC := hid hcall
   have i0 : (0 : Int) ≤ (k : Int) := by omega
   have i1 : (k : Int) < (n : Int) := by omega
   clear hv hcall
   cases v with
   | true =>
    go_wp2_with (first
     | (go_at_fn g; refine HC.out.mono ?_; rintro e w1 ⟨rfl, jj⟩))
    have F : AnsJx J f xs (.returned (.int .i64 (k : Int))) w1 := ⟨k, rfl, .inr ⟨k, rfl, hkD, by rw [ex.out]; exact HV.out, HLOW.out⟩, jj⟩
    have HF := hid F
    clear F jj HC
    go_wp2
    go_ret
    exact HF.out
   | false =>
    go_wp2_with (first
     | (go_at_fn g; refine HC.out.mono ?_; rintro e w1 ⟨rfl, jj⟩))
    have S1 : HeadJx J n f xs (.int .i64 ((k : Int) + 1)) w1 := ⟨k + 1, hlt, by simp, fun j hj => by
     by_cases e : j = k
     ·rw [e, ex.out]; exact HV.out
     ·exact HLOW.out j (by omega), jj⟩
    have HS1 := hid S1
    clear S1 jj HC
    go_wp2
    go_roundw
    case rel => exact HS1.out
    case measure => simp [intOf]; omega
  ·have F : AnsJx J f xs (.returned (.int .i64 (-1))) wr := ⟨-1, rfl, .inl ⟨rfl, fun j hj => HLOW.out j (by rw [HL.out] at hj; omega)⟩, HJ.out⟩
   have HF := hid F
   clear F
   go_wp2
   go_ret
   exact HF.out
theorem fstJ_any {f : Int → Bool} {xs : List Int} {z : Int} (h : FstJ f xs z) : decide (0 ≤ z) = xs.any f := by
 rcases h with ⟨rfl, h⟩ | ⟨k, rfl, hk, h, -⟩
 ·rw [decide_eq_false (by omega)]
  exact (none_of h).symm
 ·rw [decide_eq_true (by omega)]
  exact (any_of hk rfl h).symm
theorem fstJ_bd {f : Int → Bool} {xs : List Int} {z : Int} (h : FstJ f xs z) (hn : xs.length ≤ 1048576) : -1 ≤ z ∧ z ≤ 1048576 := by
 rcases h with ⟨rfl, -⟩ | ⟨k, rfl, hk, -⟩ <;> omega
theorem containsFuncJ (g : Nat) (lb : Array Value) (eg : ∀ args w, (callFunc g args).run Try.prog w = .ok (.enter g args) w) (J : World → Prop) (f : Int → Bool) (A : Option Addr) (n c : Nat) (xs : List Int) (w : World) (hT : TestsJ g lb J xs f)
  (hR : ∀ W, J W → Seg W W.heap.size A n xs) (hJ : J w) (hl : xs.length = n) (hn : n ≤ 1048576) :
  Calls Try.prog 116 #[.slice A n c, .func (.func g) #[] lb] w (fun e w' => e = .returned (.bool (xs.any f)) ∧ J w') := by
 have L := hid (indexFuncJ g lb eg J f A n c xs w hT hR hJ hl hn)
 have hlen : xs.length ≤ 1048576 := by rw [hl]; exact hn
 clear hl hT hR hJ
 go_enter Try.func116, Try.ntmps116
 go_wp2_with fail
 refine L.out.mono ?_
 rintro e w' ⟨z, rfl, hz, jj⟩
 obtain ⟨h1, h2⟩ := fstJ_bd hz hlen
 have HZ := hid (fstJ_any hz)
 have HB := hid jj
 clear hz L jj hlen
 go_wp2
 go_ret
 exact ⟨by rw [← HZ.out]; rfl, HB.out⟩
end anyJ
end
section
namespace whole
open Go.RowKit base segs matchMath
set_option maxRecDepth 100000
section
variable {w w' : World} {B B' g : Nat} {cs : Array Value} {s : List (List Int)} {t : TypeId}
end
end whole
end
section
namespace inside
open Go.RowKit base ints sig term arity endOf cursor termOk endAt
set_option maxRecDepth 100000
structure Fr (w wr : World) (A : Option Addr) (n c : Nat) (sg : List Int) (A' : Option Addr) (m : Nat) (t : List Int) : Prop where
 r : Row wr w.heap.size 29 #[.slice A n c]
 s : Seg wr w.heap.size A n sg
 s' : Seg wr w.heap.size A' m t
 b : Below w.heap.size w wr
section
variable {w wr w' : World} {A : Option Addr} {n c : Nat} {sg : List Int} {A' : Option Addr} {m : Nat} {t : List Int}
theorem Fr.next (f : Fr w wr A n c sg A' m t) (hb : Below wr.heap.size wr w') : Fr w w' A n c sg A' m t :=
 have b : Below w.heap.size wr w' := hb.mono (Nat.le_of_lt f.r.lt)
 ⟨f.r.next hb, f.s.below b, f.s'.below b, f.b.trans b⟩
theorem Fr.over (f : Fr w wr A n c sg A' m t) (hb : Below (w.heap.size + 1) wr w') : Fr w w' A n c sg A' m t :=
 have b : Below w.heap.size wr w' := hb.mono (Nat.le_succ _)
 ⟨f.r.below hb (Nat.lt_succ_self _), f.s.below b, f.s'.below b, f.b.trans b⟩
theorem Fr.s1 (f : Fr w wr A n c sg A' m t) : Seg wr wr.heap.size A n sg := f.s.more (Nat.le_of_lt f.r.lt)
theorem Fr.size (f : Fr w wr A n c sg A' m t) : w.heap.size < wr.heap.size := f.r.lt
end
end inside
end
section
namespace plain
open Go.RowKit base ints cursor same marks app appAt sym sub segs segsHelp kinds fillMath Go.Proofs.Ytiimbmkofpnebaa.look plainMath
set_option maxRecDepth 100000
end plain
end
section
namespace plainOf
open Go.RowKit base ints sig cursor marks app appAt sym sub segs segsHelp kinds varsOf fillMath Go.Proofs.Ytiimbmkofpnebaa.look substOk gives plainMath plain
set_option maxRecDepth 100000
end plainOf
end
section
namespace matchSpec
open Go.RowKit base ints sig same term termOk endAt inside marks app sym sub segs segsHelp termFacts termMath posMath plainMath plain plainOf gives cursor matchMath
set_option maxRecDepth 100000
structure Tab (w : World) (T : Nat) (s : List (List Int)) : Prop where
 len : s.length = 24
 row : ∃ cs, Row w T 27 cs ∧ cs.size = 24 ∧ ∀ j, j < 24 → ∃ A n c, cs[j]? = some (.slice A n c) ∧ Own w (T + 1) (.slice A n c) (s.getD j [])
section
variable {w w' : World} {T : Nat} {s : List (List Int)}
theorem Tab.next (h : Tab w T s) (hb : Below w.heap.size w w') : Tab w' T s := by
 obtain ⟨cs, hr, hs, hc⟩ := h.row
 exact ⟨h.len, cs, hr.next hb, hs, fun j hj => by obtain ⟨A, n, c, e, ho⟩ := hc j hj; exact ⟨A, n, c, e, Own.next ho hb⟩⟩
theorem Tab.at (h : Tab w T s) {j : Nat} (hj : j < 24) : ∃ A n c, w.cell? ⟨T, j, none⟩ = some (.slice A n c) ∧ Own w (T + 1) (.slice A n c) (s.getD j []) := by
 obtain ⟨cs, hr, hs, hc⟩ := h.row
 obtain ⟨A, n, c, e, ho⟩ := hc j hj
 exact ⟨A, n, c, by rw [hr.cell j, e], ho⟩
end
structure Mt (w wr : World) (A : Option Addr) (n c : Nat) (sg : List Int) (P : Option Addr) (pn : Nat) (p : List Int) (Q : Option Addr) (m : Nat) (t : List Int) (s : List (List Int)) : Prop where
 r0 : Row wr w.heap.size 29 #[.slice A n c]
 r1 : Row wr (w.heap.size + 1) 37 #[.slice none 0 0]
 r3 : Row wr (w.heap.size + 1 + 1 + 1) 37 #[.slice (some ⟨w.heap.size + 1 + 1, 0, none⟩) 24 24]
 tb : Tab wr (w.heap.size + 1 + 1) s
 ss : Seg wr w.heap.size A n sg
 sp : Seg wr w.heap.size P pn p
 st : Seg wr w.heap.size Q m t
 b : Below w.heap.size w wr
section
variable {w wr w' : World} {A : Option Addr} {n c : Nat} {sg : List Int} {P : Option Addr} {pn : Nat} {p : List Int} {Q : Option Addr} {m : Nat} {t : List Int} {s : List (List Int)}
theorem Mt.next (h : Mt w wr A n c sg P pn p Q m t s) (hb : Below wr.heap.size wr w') : Mt w w' A n c sg P pn p Q m t s :=
 have b : Below w.heap.size wr w' := hb.mono h.b.size
 ⟨h.r0.next hb, h.r1.next hb, h.r3.next hb, h.tb.next hb, h.ss.below b, h.sp.below b, h.st.below b, h.b.trans b⟩
end
structure Mr (w wr : World) (A : Option Addr) (n c : Nat) (sg : List Int) (P : Option Addr) (pn : Nat) (p : List Int) (Q : Option Addr) (m : Nat) (t : List Int) : Prop where
 r0 : Row wr w.heap.size 29 #[.slice A n c]
 r1 : Row wr (w.heap.size + 1) 37 #[.slice none 0 0]
 ss : Seg wr wr.heap.size A n sg
 sp : Seg wr wr.heap.size P pn p
 st : Seg wr wr.heap.size Q m t
 b : Below w.heap.size w wr
section
variable {w wr w' : World} {A : Option Addr} {n c : Nat} {sg : List Int} {P : Option Addr} {pn : Nat} {p : List Int} {Q : Option Addr} {m : Nat} {t : List Int}
theorem Mr.next (h : Mr w wr A n c sg P pn p Q m t) (hb : Below wr.heap.size wr w') : Mr w w' A n c sg P pn p Q m t :=
 ⟨h.r0.next hb, h.r1.next hb, h.ss.next hb, h.sp.next hb, h.st.next hb, next_trans h.b hb⟩
end
end matchSpec
end
section
namespace whole
open Go.RowKit base cursor marks app sym segs matchMath matchSpec
set_option maxRecDepth 100000
section
variable {P : Program} {ops : Array Oper} {rest : List Oper} {o : Oper} {a : Act} {w : World} {Q : Exit → Act → World → Prop}
theorem rowAlloc (hgd : o.guard = none) (t : TypeId) (ho : o.op = .alloc t) (z : Array Value) (hz : ∀ w, (zeroValue t).run P w = .ok (.agg z) w)
  (h : wpList P ops Q rest (a.put o.dst (.pointer (some ⟨w.heap.size, 0, none⟩))) (w.alloc (.cells z t))) : wpList P ops Q (o :: rest) a w :=
 wpList_plain hgd fun _ hK => by
  unfold Oper.wp execOp
  simp only [ho, Instr.alloc, Sem.run_bind, hz, Result.andThen_ok, newVar, Value.cells]
  exact hK _ _ h
end
section
variable {w w' : World} {B B' g : Nat} {cs : Array Value} {s : List (List Int)} {t : TypeId}
end
end whole
end
section
open Go.Lib (hid)
namespace kboOft
open Go.RowKit base ints sig term termOk termFacts marks sym count varsOf ruleSpec anyJ whole kboMath kboLink
set_option maxRecDepth 100000
theorem cnt_all (t : List Int) (x : Int) : cnt t x t.length = t.count x := by unfold cnt; rw [List.take_length]
set_option maxHeartbeats 400000 in
theorem l14Count (A : Option Addr) (m c : Nat) (t : List Int) (x : Int) (w : World) (h : Seg w w.heap.size A m t) (hm : m ≤ 1048576) :
  Calls Try.prog 120 #[.slice A m c, .int .i64 x] w fun e w' => w = w' ∧ e = .returned (.int .i64 (t.count x : Nat)) := by
 rw [← cnt_all]
 have HL := hid h.1
 go_enter Try.func120, Try.ntmps120
 go_wp2
 go_loop [5, 6] (fun many i => HeadCnt m t x many i) (fun _ i => m - (intOf i).toNat)
 case atStart => exact ⟨0, Nat.zero_le _, rfl, rfl⟩
 case round =>
  obtain ⟨k, hk, rfl, rfl⟩ := hrel
  have hle := cnt_le t x k
  by_cases hlt : k < m
  ·obtain ⟨b, off, y, rfl, -, hy, ey⟩ := h.spot hlt
   by_cases he : y = x
   ·subst he
    have S := hid (headCnt_yes HL.out hlt ey)
    have e1 : (y == y) = true := by simp
    clear h ey
    generalize cnt t y k = z at *
    go_wp2
    go_round
    case rel => exact S.out
    case measure => simp [intOf]; omega
   ·have S := hid (headCnt_no HL.out hlt ey he)
    have e1 : (y == x) = false := by simp [he]
    clear h ey
    generalize cnt t x k = z at *
    go_wp2
    go_round
    case rel => exact S.out
    case measure => simp [intOf]; omega
  ·have e : cnt t x k = cnt t x t.length := by rw [HL.out, show k = m by omega]
   have E := hid e
   clear h e
   generalize cnt t x k = z at *
   go_wp2
   go_ret
   exact ⟨rfl, by rw [← E.out]; rfl⟩
def goodAt (s t : List Int) (x : Int) : Bool := !decide (x < 0) || decide (s.count x ≤ t.count x)
theorem oft_bad {s t : List Int} {k : Nat} {x : Int} (hk : k < s.length) (ex : s.getD k 0 = x) (h : goodAt s t x = false) : oft s t = false := by
 unfold oft
 rw [List.all_eq_false]
 refine ⟨x, ?_, by unfold goodAt at h; rw [h]; decide⟩
 rw [← ex, getD_get hk]
 exact List.getElem_mem _
theorem oft_good {s t : List Int} (h : ∀ j, j < s.length → goodAt s t (s.getD j 0) = true) : oft s t = true := by
 unfold oft
 rw [List.all_eq_true]
 intro x hx
 obtain ⟨k, hk, rfl⟩ := List.getElem_of_mem hx
 have := h k hk
 rw [getD_get hk] at this
 exact this
def HeadOf (w : World) (n : Nat) (s t : List Int) (i : Value) (wr : World) : Prop := ∃ k : Nat, k ≤ n ∧ i = .int .i64 k ∧ (∀ j, j < k → goodAt s t (s.getD j 0) = true) ∧ Below w.heap.size w wr
theorem headOf_step {w wr : World} {n k : Nat} {s t : List Int} {x : Int} (hk : k < n) (hlow : ∀ j, j < k → goodAt s t (s.getD j 0) = true) (ex : Hid (s.getD k 0 = x)) (h : goodAt s t x = true) (hb : Below w.heap.size w wr) : HeadOf w n s t (.int .i64 ((k : Int) + 1)) wr :=
 ⟨k + 1, hk, by simp, fun j hj => by
  by_cases e : j = k
  ·subst e; rw [ex.out]; exact h
  ·exact hlow j (by omega), hb⟩
set_option maxHeartbeats 4000000 in
theorem l14Often (S T : Option Addr) (m mc k kc : Nat) (s t : List Int) (w : World) (hS : Seg w w.heap.size S m s) (hT : Seg w w.heap.size T k t) (hm : m ≤ 1048576) (hk : k ≤ 1048576) :
  Calls Try.prog 87 #[.slice S m mc, .slice T k kc] w (AnsB w (oft s t)) := by
 have HL := hid hS.1
 have H0 : Hid (HeadOf w m s t (.int .i64 0) w) := hid ⟨0, Nat.zero_le _, rfl, fun j hj => absurd hj (Nat.not_lt_zero _), Below.refl _ _⟩
 go_enter Try.func87, Try.ntmps87
 go_wp2
 go_loopw [5] (fun i wr => HeadOf w m s t i wr) (fun i _ => m - (intOf i).toNat)
 case atStart => exact H0.out
 case round =>
  obtain ⟨j, hj, rfl, hlow, hb⟩ := hrel
  have HLOW := hid hlow
  clear hlow H0
  by_cases hlt : j < m
  ·obtain ⟨b, off, y, rfl, hbB, hy0, ey⟩ := hS.spot hlt
   have hy : wr.cell? ⟨b, off + j, none⟩ = some (.int .i64 y) := (hb.cell (p := ⟨b, off + j, none⟩) hbB).trans hy0
   have i0 : (0 : Int) ≤ (j : Int) := by omega
   have i1 : (j : Int) < (m : Int) := by omega
   have LC2 := hid (fun d' : Nat => l14Count T k kc t y (wr.drewN d') ((hT.next hb).drewN d') hk)
   have LC1 := hid (fun d' : Nat => l14Count (some ⟨b, off, none⟩) m mc s y (wr.drewN d') ((hS.next hb).drewN d') hm)
   by_cases hyn : y < 0
   ·have hdy : decide (y < 0) = true := decide_eq_true hyn
    obtain ⟨p, hp⟩ : ∃ p, s.count y = p := ⟨_, rfl⟩
    obtain ⟨q, hq⟩ : ∃ q, t.count y = q := ⟨_, rfl⟩
    rw [hp] at LC1
    rw [hq] at LC2
    by_cases hpq : q < p
    ·have M := hid (show goodAt s t y = false by unfold goodAt; rw [hdy, hp, hq, decide_eq_false (by omega)]; rfl)
     have F := hid (fun d' : Nat => ansB (w' := wr.drewN d') (b := oft s t) (a := false) (by rw [oft_bad (by rw [HL.out]; exact hlt) ey.out M.out]) (below_drewN hb d'))
     have hpd : decide ((q : Int) < (p : Int)) = true := decide_eq_true (by omega)
     clear hS hT hb hy0 ey hp hq
     go_wp2_with fail
     go_quiet (first
      | (go_at_call_of 120 (Value.slice (some ⟨b, off, none⟩) m mc); exact Calls.quiet_of_same (v := .int .i64 p) ((LC1.out _).mono fun _ _ ⟨h1, h2⟩ => ⟨h2, h1.symm⟩))
      | (go_at_call_of 120 (Value.slice T k kc); exact Calls.quiet_of_same (v := .int .i64 q) ((LC2.out _).mono fun _ _ ⟨h1, h2⟩ => ⟨h2, h1.symm⟩)))
     go_wp2
     go_ret
     exact F.out _
    ·have M := hid (show goodAt s t y = true by unfold goodAt; rw [hdy, hp, hq, decide_eq_true (show p ≤ q by omega)]; rfl)
     have S1 := hid (fun d' : Nat => headOf_step (w := w) (wr := wr.drewN d') hlt HLOW.out ey M.out (below_drewN hb d'))
     have hpd : decide ((q : Int) < (p : Int)) = false := decide_eq_false (by omega)
     clear hS hT hb hy0 ey hp hq
     go_wp2_with fail
     go_quiet (first
      | (go_at_call_of 120 (Value.slice (some ⟨b, off, none⟩) m mc); exact Calls.quiet_of_same (v := .int .i64 p) ((LC1.out _).mono fun _ _ ⟨h1, h2⟩ => ⟨h2, h1.symm⟩))
      | (go_at_call_of 120 (Value.slice T k kc); exact Calls.quiet_of_same (v := .int .i64 q) ((LC2.out _).mono fun _ _ ⟨h1, h2⟩ => ⟨h2, h1.symm⟩)))
     go_wp2
     go_roundw
     case rel => exact S1.out _
     case measure => simp [intOf]; omega
   ·have hdy : decide (y < 0) = false := decide_eq_false hyn
    have M := hid (show goodAt s t y = true by unfold goodAt; rw [hdy]; rfl)
    have S1 := hid (fun d' : Nat => headOf_step (w := w) (wr := wr.drewN d') hlt HLOW.out ey M.out (below_drewN hb d'))
    clear hS hT hb hy0 ey LC1 LC2
    go_wp2_with fail
    go_quiet (fail)
    go_wp2
    go_roundw
    case rel => exact S1.out _
    case measure => simp [intOf]; omega
  ·have F := hid (ansB (b := oft s t) (a := true) (by rw [oft_good (fun i hi => HLOW.out i (by have := HL.out; omega))]) hb)
   clear hS hT hb
   go_wp2
   go_ret
   exact F.out
def z24i : Array Value := Array.replicate 24 (.int .i64 0)
theorem info_a : (Try.prog.info? 137).map (fun i => (i.zero, i.size)) = some (some (.agg z24i), 24) := by kernel_rfl
theorem zero_a : ∀ w, (zeroValue 137).run Try.prog w = .ok (.agg z24i) w := by
 intro w
 cases hq : Try.prog.info? 137 with
 | none => have h := info_a; simp [hq] at h
 | some i => have h := info_a; simp [hq] at h; simp [zeroValue, typeInfo, hq, h.1]
structure Arr (w : World) (g : Nat) (f : Nat → Int) : Prop where
 ex : ∃ cs : Array Value, cs.size = 24 ∧ Row w g 137 cs ∧ ∀ j, j < 24 → cs[j]? = some (.int .i64 (f j))
theorem Arr.lt {w : World} {g : Nat} {f : Nat → Int} (h : Arr w g f) : g < w.heap.size := by obtain ⟨cs, -, r, -⟩ := h.ex; exact r.lt
theorem Arr.cell {w : World} {g : Nat} {f : Nat → Int} (h : Arr w g f) {j : Nat} (hj : j < 24) : w.cell? ⟨g, j, none⟩ = some (.int .i64 (f j)) := by obtain ⟨cs, -, r, hc⟩ := h.ex; exact (r.cell j).trans (hc j hj)
theorem Arr.free {w : World} {g : Nat} {f : Nat → Int} (h : Arr w g f) (j : Nat) : w.frozen? ⟨g, j, none⟩ = false := by obtain ⟨cs, -, r, -⟩ := h.ex; exact r.free j
theorem Arr.put {w : World} {g : Nat} {f f' : Nat → Int} (h : Arr w g f) {j : Nat} (hj : j < 24) (x : Int) (h1 : f' j = x) (h2 : ∀ i, i ≠ j → f' i = f i) : Arr (w.setCell ⟨g, j, none⟩ (.int .i64 x)) g f' := by
 obtain ⟨cs, hs, r, hc⟩ := h.ex
 refine ⟨cs.setIfInBounds j (.int .i64 x), by simp [hs], r.put j _, ?_⟩
 intro i hi
 by_cases e : i = j
 ·subst e
  rw [Array.getElem?_setIfInBounds_self_of_lt (by omega), h1]
 ·rw [Array.getElem?_setIfInBounds_ne (fun e' => e e'.symm), hc i hi, h2 i e]
theorem Arr.new (w : World) : Arr (w.alloc (.cells z24i 137)) w.heap.size (fun _ => 0) :=
 ⟨z24i, by simp [z24i], Row.new _ _ _, fun j hj => by simp [z24i, hj]⟩
def bal (t s : List Int) (j : Nat) : Int := (t.count (-1 - (j : Int)) : Int) - (s.count (-1 - (j : Int)) : Int)
theorem bal_t {t : List Int} {k : Nat} {x : Int} {i : Nat} (hk : k < t.length) (ex : t.getD k 0 = x) : bal (t.take (k + 1)) [] i = bal (t.take k) [] i + (if x = -1 - (i : Int) then 1 else 0) := by
 have := cnt_step (x := -1 - (i : Int)) hk ex
 unfold cnt at this
 unfold bal
 rw [this]
 split <;> simp
theorem bal_s {t s : List Int} {k : Nat} {x : Int} {i : Nat} (hk : k < s.length) (ex : s.getD k 0 = x) : bal t (s.take (k + 1)) i = bal t (s.take k) i - (if x = -1 - (i : Int) then 1 else 0) := by
 have := cnt_step (x := -1 - (i : Int)) hk ex
 unfold cnt at this
 unfold bal
 rw [this]
 split <;> simp
 omega
theorem bal_bd {t s : List Int} {i : Nat} : -(s.length : Int) ≤ bal t s i ∧ bal t s i ≤ (t.length : Int) := by
 unfold bal
 have h1 := List.count_le_length (a := -1 - (i : Int)) (l := t)
 have h2 := List.count_le_length (a := -1 - (i : Int)) (l := s)
 omega
theorem any_bal {t s : List Int} (hs : ∀ x ∈ s, -24 ≤ x) : (((List.range 24).map (bal t s)).any fun c => decide (c < 0)) = !(oft s t) := by
 cases h : oft s t with
 | true =>
  show _ = false
  rw [List.any_eq_false]
  intro c hc
  obtain ⟨j, -, rfl⟩ := List.mem_map.1 hc
  have := oft_iff.1 h (-1 - (j : Int)) (by omega)
  unfold bal
  simp
  omega
 | false =>
  show _ = true
  rw [List.any_eq_true]
  unfold oft at h
  rw [List.all_eq_false] at h
  obtain ⟨x, hx, h⟩ := h
  have hx0 : x < 0 := by
   by_cases h0 : x < 0
   ·exact h0
   ·simp [h0] at h
  have hx1 := hs x hx
  refine ⟨bal t s (-1 - x).toNat, List.mem_map.2 ⟨_, List.mem_range.2 (by omega), rfl⟩, ?_⟩
  have e : -1 - (((-1 - x).toNat : Nat) : Int) = x := by omega
  unfold bal
  rw [e]
  rw [decide_eq_true hx0] at h
  simp at h
  simp
  omega
theorem isMissing (x : Int) (w : World) : Calls Try.prog 115 #[.int .i64 x] w fun e w' => e = .returned (.bool (decide (x < 0))) ∧ w' = w := by
 go_enter Try.func115, Try.ntmps115
 go_wp2
 go_ret
 exact ⟨rfl, rfl⟩
def HeadT (w : World) (n : Nat) (t : List Int) (i : Value) (wr : World) : Prop := ∃ j : Nat, j ≤ n ∧ i = .int .i64 j ∧ Arr wr w.heap.size (bal (t.take j) []) ∧ Below w.heap.size w wr
def HeadS (w : World) (n : Nat) (t s : List Int) (i : Value) (wr : World) : Prop := ∃ j : Nat, j ≤ n ∧ i = .int .i64 j ∧ Arr wr w.heap.size (bal t (s.take j)) ∧ Below w.heap.size w wr
theorem Arr.same {w : World} {g : Nat} {f f' : Nat → Int} (h : Arr w g f) (he : ∀ i, f i = f' i) : Arr w g f' := by
 have : f = f' := funext he
 rw [← this]; exact h
theorem Arr.seg {w : World} {g : Nat} {f : Nat → Int} (h : Arr w g f) : Seg w w.heap.size (some ⟨g, 0, none⟩) 24 ((List.range 24).map f) := by
 obtain ⟨cs, hs, r, hc⟩ := h.ex
 refine r.seg (by simp) h.lt ?_
 intro j hj
 rw [hc j hj]
 simp [hj]
set_option maxHeartbeats 4000000 in
theorem hasAsOften (T S : Option Addr) (k kc m mc : Nat) (t s : List Int) (w : World) (hT : Seg w w.heap.size T k t) (hS : Seg w w.heap.size S m s) (hk : k ≤ 1048576) (hm : m ≤ 1048576) (vT : ∀ x ∈ t, -24 ≤ x) (vS : ∀ x ∈ s, -24 ≤ x) :
  Calls Try.prog 74 #[.slice T k kc, .slice S m mc] w (AnsB w (oft s t)) := by
 have HL := hid hT.1
 have HM := hid hS.1
 have VT := hid vT
 have VS := hid vS
 obtain ⟨W, hW⟩ : ∃ W, W = w.alloc (.cells z24i 137) := ⟨_, rfl⟩
 have a0 : Arr W w.heap.size (fun _ => 0) := by rw [hW]; exact Arr.new w
 have b0 : Below w.heap.size w W := by rw [hW]; exact (Below.refl _ _).alloc (Nat.le_refl _) _
 have H0 : Hid (HeadT w k t (.int .i64 0) W) := hid ⟨0, Nat.zero_le _, rfl, a0.same fun i => by simp [bal], b0⟩
 have HW := hid hW
 have LC := hid (fun (W1 : World) (ha : Arr W1 w.heap.size (bal t s)) (hb : Below w.heap.size w W1) => containsFuncJ 115 #[] (enters_of Try.func115 (by kernel_rfl) rfl) (fun W2 => Arr W2 w.heap.size (bal t s) ∧ Below w.heap.size w W2) (fun c => decide (c < 0)) (some ⟨w.heap.size, 0, none⟩) 24 24 ((List.range 24).map (bal t s)) W1 (fun W2 x hJ _ => (isMissing x W2).mono fun e w' ⟨h1, h2⟩ => ⟨h1, by rw [h2]; exact hJ⟩) (fun W2 hJ => hJ.1.seg) ⟨ha, hb⟩ (by simp) (by omega))
 clear hW a0 b0 vT vS
 go_enter Try.func74, Try.ntmps74
 go_wp2_with (first
  | (refine rowAlloc rfl 137 rfl z24i zero_a ?_))
 rw [← HW.out]
 go_loopw [13] (fun i wr => HeadT w k t i wr) (fun i _ => k - (intOf i).toNat)
 case atStart => exact H0.out
 case round =>
  clear H0
  obtain ⟨j, hj, rfl, ar, hb⟩ := hrel
  by_cases hlt : j < k
  ·obtain ⟨b, off, x, rfl, hbB, hx0, ex⟩ := hT.spot hlt
   have hx : wr.cell? ⟨b, off + j, none⟩ = some (.int .i64 x) := (hb.cell (p := ⟨b, off + j, none⟩) hbB).trans hx0
   have i0 : (0 : Int) ≤ (j : Int) := by omega
   have i1 : (j : Int) < (k : Int) := by omega
   have hjl : j < t.length := by rw [HL.out]; exact hlt
   have hv := VT.out x (by rw [← ex.out, getD_get hjl]; exact List.getElem_mem _)
   by_cases hneg : x < 0
   ·obtain ⟨v, hv⟩ : ∃ v : Nat, x = -1 - (v : Int) := ⟨(-1 - x).toNat, by omega⟩
    subst hv
    have hv24 : v < 24 := by omega
    have ev : -1 - (-1 - (v : Int)) = (v : Int) := by omega
    have hd : decide (-1 - (v : Int) < 0) = true := decide_eq_true hneg
    obtain ⟨z, hz⟩ : ∃ z, bal (t.take j) [] v = z := ⟨_, rfl⟩
    have hzb := bal_bd (t := t.take j) (s := []) (i := v)
    have hzl : (t.take j).length ≤ 1048576 := by rw [List.length_take]; omega
    have cA := ar.cell hv24
    have fA := ar.free v
    rw [hz] at cA hzb
    simp only [List.length_nil] at hzb
    have S1 := hid (show HeadT w k t (.int .i64 ((j : Int) + 1)) (wr.setCell ⟨w.heap.size, v, none⟩ (.int .i64 (z + 1))) from ⟨j + 1, hlt, by simp, ar.put hv24 (z + 1) (by rw [bal_t hjl ex.out, hz, if_pos rfl]) (fun i hi => by rw [bal_t hjl ex.out, if_neg (by omega)]; omega), hb.setCell (Nat.le_refl _) _⟩)
    clear ar hb hx0 ex hz
    go_wp2
    go_roundw
    case rel => exact S1.out
    case measure => simp [intOf]; omega
   ·have hd : decide (x < 0) = false := decide_eq_false hneg
    have S1 := hid (show HeadT w k t (.int .i64 ((j : Int) + 1)) wr from ⟨j + 1, hlt, by simp, ar.same fun i => by rw [bal_t hjl ex.out, if_neg (by omega)]; omega, hb⟩)
    clear ar hb hx0 ex
    go_wp2
    go_roundw
    case rel => exact S1.out
    case measure => simp [intOf]; omega
  ·have ej : t.take j = t := by rw [List.take_of_length_le (by rw [HL.out]; omega)]
   rw [ej] at ar
   have H1 : Hid (HeadS w m t s (.int .i64 0) wr) := hid ⟨0, Nat.zero_le _, rfl, ar.same fun i => by simp, hb⟩
   clear ar hb ej
   go_wp2
   go_loopw [28] (fun i wr => HeadS w m t s i wr) (fun i _ => m - (intOf i).toNat)
   case atStart => exact H1.out
   case round =>
    clear H1
    obtain ⟨j, hj, rfl, ar, hb⟩ := hrel
    by_cases hlt : j < m
    ·obtain ⟨b, off, x, rfl, hbB, hx0, ex⟩ := hS.spot hlt
     have hx : wr.cell? ⟨b, off + j, none⟩ = some (.int .i64 x) := (hb.cell (p := ⟨b, off + j, none⟩) hbB).trans hx0
     have i0 : (0 : Int) ≤ (j : Int) := by omega
     have i1 : (j : Int) < (m : Int) := by omega
     have hjl : j < s.length := by rw [HM.out]; exact hlt
     have hv := VS.out x (by rw [← ex.out, getD_get hjl]; exact List.getElem_mem _)
     by_cases hneg : x < 0
     ·obtain ⟨v, hv⟩ : ∃ v : Nat, x = -1 - (v : Int) := ⟨(-1 - x).toNat, by omega⟩
      subst hv
      have hv24 : v < 24 := by omega
      have ev : -1 - (-1 - (v : Int)) = (v : Int) := by omega
      have hd : decide (-1 - (v : Int) < 0) = true := decide_eq_true hneg
      obtain ⟨z, hz⟩ : ∃ z, bal t (s.take j) v = z := ⟨_, rfl⟩
      have hzb := bal_bd (t := t) (s := s.take j) (i := v)
      have hzl : (s.take j).length ≤ 1048576 := by rw [List.length_take]; omega
      have htl : t.length ≤ 1048576 := by rw [HL.out]; exact hk
      have cA := ar.cell hv24
      have fA := ar.free v
      rw [hz] at cA hzb
      have S1 := hid (show HeadS w m t s (.int .i64 ((j : Int) + 1)) (wr.setCell ⟨w.heap.size, v, none⟩ (.int .i64 (z - 1))) from ⟨j + 1, hlt, by simp, ar.put hv24 (z - 1) (by rw [bal_s hjl ex.out, hz, if_pos rfl]) (fun i hi => by rw [bal_s hjl ex.out, if_neg (by omega)]; omega), hb.setCell (Nat.le_refl _) _⟩)
      clear ar hb hx0 ex hz
      go_wp2
      go_roundw
      case rel => exact S1.out
      case measure => simp [intOf]; omega
     ·have hd : decide (x < 0) = false := decide_eq_false hneg
      have S1 := hid (show HeadS w m t s (.int .i64 ((j : Int) + 1)) wr from ⟨j + 1, hlt, by simp, ar.same fun i => by rw [bal_s hjl ex.out, if_neg (by omega)]; omega, hb⟩)
      clear ar hb hx0 ex
      go_wp2
      go_roundw
      case rel => exact S1.out
      case measure => simp [intOf]; omega
    ·have ej : s.take j = s := by rw [List.take_of_length_le (by rw [HM.out]; omega)]
     rw [ej] at ar
     have L1 := hid (LC.out wr ar hb)
     have EA := hid (any_bal (t := t) VS.out)
     obtain ⟨u, hu⟩ : ∃ u, ((List.range 24).map (bal t s)).any (fun c => decide (c < 0)) = u := ⟨_, rfl⟩
     rw [hu] at L1 EA
     clear ar hb ej hu
     go_wp2_with fail
     refine L1.out.mono ?_
     rintro e w3 ⟨rfl, -, hb⟩
     have F := hid (ansB (b := oft s t) (a := !u) (by rw [EA.out]; simp) hb)
     clear hb L1
     go_wp2
     go_ret
     exact F.out
def oftB (sg s t : List Int) : Bool := termOkB sg s && (termOkB sg t && oft s t)
theorem oft_one {sg s t : List Int} (h : termOkB sg s = false) : oftB sg s t = false := by unfold oftB; rw [h]; rfl
theorem oft_two {sg s t : List Int} (h : termOkB sg s = true) (h2 : termOkB sg t = false) : oftB sg s t = false := by unfold oftB; rw [h, h2]; rfl
theorem oft_yes {sg s t : List Int} (h : termOkB sg s = true) (h2 : termOkB sg t = true) : oftB sg s t = oft s t := by unfold oftB; rw [h, h2]; rfl
set_option maxHeartbeats 4000000 in
theorem specOftenIn (A S T : Option Addr) (n c m mc k kc : Nat) (sg s t : List Int) (w : World) (hA : Seg w w.heap.size A n sg) (hS : Seg w w.heap.size S m s) (hT : Seg w w.heap.size T k t) (hn : n ≤ 1048576) (hm : m ≤ 1048576) (hk : k ≤ 1048576) :
  Calls Try.prog 45 #[.agg #[.slice A n c], .slice S m mc, .slice T k kc] w (AnsB w (oftB sg s t)) := by
 obtain ⟨W, hW, rA, bel⟩ := box1 w 29 #[.slice A n c]
 have k0 : W.cell? ⟨w.heap.size, 0, none⟩ = some (.slice A n c) := rA.cell 0
 rw [hW] at k0
 have HW := hid hW
 have L1 := hid (specTermOk A S n c m mc sg s W (hA.next bel) (hS.next bel) hn hm)
 have L2 := hid (fun (w1 : World) (bb : Below w.heap.size w w1) => specTermOk A T n c k kc sg t w1 (hA.next bb) (hT.next bb) hn hk)
 have L3 := hid (fun (w1 : World) (bb : Below w.heap.size w w1) (h1 : termOkB sg s = true) (h2 : termOkB sg t = true) => l14Often S T m mc k kc s t w1 (hS.next bb) (hT.next bb) hm hk)
 clear hW hA hS hT
 cases h1 : termOkB sg s with
 | false =>
  have HR := hid h1
  clear h1
  go_enter Try.func45, Try.ntmps45
  go_wp2_with fail
  rw [← HW.out]
  refine L1.out.mono ?_
  rintro e w1 ⟨he, bb⟩
  rw [HR.out] at he
  subst he
  have F := hid (ansB (b := oftB sg s t) (a := false) (by rw [oft_one HR.out]) (next_trans bel bb))
  clear bb bel rA
  go_wp2
  go_ret
  exact F.out
 | true =>
  have HR := hid h1
  clear h1
  cases h2 : termOkB sg t with
  | false =>
   have HS := hid h2
   clear h2
   go_enter Try.func45, Try.ntmps45
   go_wp2_with fail
   rw [← HW.out]
   refine L1.out.mono ?_
   rintro e w1 ⟨he, bb⟩
   rw [HR.out] at he
   subst he
   have b1 := next_trans bel bb
   have k1 : w1.cell? ⟨w.heap.size, 0, none⟩ = some (.slice A n c) := (rA.next bb).cell 0
   have L4 := hid (L2.out w1 b1)
   have B1 := hid b1
   clear bb bel rA b1
   go_wp2_with fail
   refine L4.out.mono ?_
   rintro e w2 ⟨he, b2⟩
   rw [HS.out] at he
   subst he
   have F := hid (ansB (b := oftB sg s t) (a := false) (by rw [oft_two HR.out HS.out]) (next_trans B1.out b2))
   clear b2 k1
   go_wp2
   go_ret
   exact F.out
  | true =>
   have HS := hid h2
   clear h2
   go_enter Try.func45, Try.ntmps45
   go_wp2_with fail
   rw [← HW.out]
   refine L1.out.mono ?_
   rintro e w1 ⟨he, bb⟩
   rw [HR.out] at he
   subst he
   have b1 := next_trans bel bb
   have r1 := rA.next bb
   have k1 : w1.cell? ⟨w.heap.size, 0, none⟩ = some (.slice A n c) := r1.cell 0
   have L4 := hid (L2.out w1 b1)
   have B1 := hid b1
   clear bb bel rA b1
   go_wp2_with fail
   refine L4.out.mono ?_
   rintro e w2 ⟨he, b2⟩
   rw [HS.out] at he
   subst he
   have b3 := next_trans B1.out b2
   have L5 := hid (L3.out w2 b3 HR.out HS.out)
   have B3 := hid b3
   clear b2 k1 b3 r1
   go_wp2_with fail
   refine L5.out.mono ?_
   rintro e w3 ⟨rfl, b4⟩
   have F := hid (ansB (b := oftB sg s t) (a := oft s t) (by rw [oft_yes HR.out HS.out]) (next_trans B3.out b4))
   obtain ⟨u, hu⟩ : ∃ u, oft s t = u := ⟨_, rfl⟩
   rw [hu] at F ⊢
   clear b4 hu
   go_wp2
   go_ret
   exact F.out
set_option maxHeartbeats 4000000 in
theorem implOftenIn (A S T : Option Addr) (n c m mc k kc : Nat) (sg s t : List Int) (w : World) (hA : Seg w w.heap.size A n sg) (hS : Seg w w.heap.size S m s) (hT : Seg w w.heap.size T k t) (hn : n ≤ 1048576) (hm : m ≤ 1048576) (hk : k ≤ 1048576) :
  Calls Try.prog 26 #[.agg #[.slice A n c], .slice S m mc, .slice T k kc] w (AnsB w (oftB sg s t)) := by
 obtain ⟨W, hW, rA, bel⟩ := box1 w 29 #[.slice A n c]
 have k0 : W.cell? ⟨w.heap.size, 0, none⟩ = some (.slice A n c) := rA.cell 0
 rw [hW] at k0
 have HW := hid hW
 have L1 := hid (implTermOk A S n c m mc sg s W (hA.next bel) (hS.next bel) hn hm)
 have L2 := hid (fun (w1 : World) (bb : Below w.heap.size w w1) => implTermOk A T n c k kc sg t w1 (hA.next bb) (hT.next bb) hn hk)
 have L3 := hid (fun (w1 : World) (bb : Below w.heap.size w w1) (h1 : termOkB sg s = true) (h2 : termOkB sg t = true) => hasAsOften T S k kc m mc t s w1 (hT.next bb) (hS.next bb) hk hm (fun x hx => (term_mem h2 hx).1) (fun x hx => (term_mem h1 hx).1))
 clear hW hA hS hT
 cases h1 : termOkB sg s with
 | false =>
  have HR := hid h1
  clear h1
  go_enter Try.func26, Try.ntmps26
  go_wp2_with fail
  rw [← HW.out]
  refine L1.out.mono ?_
  rintro e w1 ⟨he, bb⟩
  rw [HR.out] at he
  subst he
  have F := hid (ansB (b := oftB sg s t) (a := false) (by rw [oft_one HR.out]) (next_trans bel bb))
  clear bb bel rA
  go_wp2
  go_ret
  exact F.out
 | true =>
  have HR := hid h1
  clear h1
  cases h2 : termOkB sg t with
  | false =>
   have HS := hid h2
   clear h2
   go_enter Try.func26, Try.ntmps26
   go_wp2_with fail
   rw [← HW.out]
   refine L1.out.mono ?_
   rintro e w1 ⟨he, bb⟩
   rw [HR.out] at he
   subst he
   have b1 := next_trans bel bb
   have k1 : w1.cell? ⟨w.heap.size, 0, none⟩ = some (.slice A n c) := (rA.next bb).cell 0
   have L4 := hid (L2.out w1 b1)
   have B1 := hid b1
   clear bb bel rA b1
   go_wp2_with fail
   refine L4.out.mono ?_
   rintro e w2 ⟨he, b2⟩
   rw [HS.out] at he
   subst he
   have F := hid (ansB (b := oftB sg s t) (a := false) (by rw [oft_two HR.out HS.out]) (next_trans B1.out b2))
   clear b2 k1
   go_wp2
   go_ret
   exact F.out
  | true =>
   have HS := hid h2
   clear h2
   go_enter Try.func26, Try.ntmps26
   go_wp2_with fail
   rw [← HW.out]
   refine L1.out.mono ?_
   rintro e w1 ⟨he, bb⟩
   rw [HR.out] at he
   subst he
   have b1 := next_trans bel bb
   have r1 := rA.next bb
   have k1 : w1.cell? ⟨w.heap.size, 0, none⟩ = some (.slice A n c) := r1.cell 0
   have L4 := hid (L2.out w1 b1)
   have B1 := hid b1
   clear bb bel rA b1
   go_wp2_with fail
   refine L4.out.mono ?_
   rintro e w2 ⟨he, b2⟩
   rw [HS.out] at he
   subst he
   have b3 := next_trans B1.out b2
   have L5 := hid (L3.out w2 b3 HR.out HS.out)
   have B3 := hid b3
   clear b2 k1 b3 r1
   go_wp2_with fail
   refine L5.out.mono ?_
   rintro e w3 ⟨rfl, b4⟩
   have F := hid (ansB (b := oftB sg s t) (a := oft s t) (by rw [oft_yes HR.out HS.out]) (next_trans B3.out b4))
   obtain ⟨u, hu⟩ : ∃ u, oft s t = u := ⟨_, rfl⟩
   rw [hu] at F ⊢
   clear b4 hu
   go_wp2
   go_ret
   exact F.out
end kboOft
end
section
namespace wOftenIn
open Go.RowKit base ints sig cursor marks app sym appAt segs segsHelp segsMark kinds kboOft
set_option maxRecDepth 100000
set_option maxHeartbeats 8000000 in
theorem law (a0 : Option Addr) (n0 c0 : Nat) (xs0 : List Int) (a1 : Option Addr) (n1 c1 : Nat) (xs1 : List Int) (a2 : Option Addr) (n2 c2 : Nat) (xs2 : List Int) (w : World) (s0 : Seg w w.heap.size a0 n0 xs0) (hN0 : n0 ≤ 9223372036854775807) (s1 : Seg w w.heap.size a1 n1 xs1) (hN1 : n1 ≤ 9223372036854775807) (s2 : Seg w w.heap.size a2 n2 xs2) (hN2 : n2 ≤ 9223372036854775807) :
  Calls Try.prog 8 #[.agg #[.slice a0 n0 c0], .slice a1 n1 c1, .slice a2 n2 c2] w (Fine w) := by
 obtain ⟨W, hW⟩ : ∃ W, W = w.alloc (.cells #[.slice a0 n0 c0] 58) := ⟨_, rfl⟩
 have rA0 : Row W (w.heap.size) 58 #[.slice a0 n0 c0] := by rw [hW]; have := Row.new (w) 58 #[.slice a0 n0 c0]; simpa using this
 have bW : Below w.heap.size w W := by rw [hW]; exact (Below.refl w.heap.size w).alloc (by simp) (.cells #[.slice a0 n0 c0] 58)
 have zA0 := rA0.lt
 replace s0 := s0.next bW
 have Hl0 := Lib.hid s0.1
 replace s1 := s1.next bW
 have Hl1 := Lib.hid s1.1
 replace s2 := s2.next bW
 have Hl2 := Lib.hid s2.1
 have HW := Lib.hid hW
 clear hW
 obtain ⟨v, hv⟩ : ∃ v, oftB xs0 xs1 xs2 = v := ⟨_, rfl⟩
 have HV := Lib.hid hv
 clear hv
 have ev : (v != v) = false := by simp
 by_cases h1 : n1 ≤ 1048576
 case neg =>
  go_enter Try.func8, Try.ntmps8
  go_wp2_with fail
  rw [← HW.out]
  go_ret
  exact ⟨rfl, bW⟩
 by_cases h2 : n2 ≤ 1048576
 case neg =>
  go_enter Try.func8, Try.ntmps8
  go_wp2_with fail
  rw [← HW.out]
  go_ret
  exact ⟨rfl, bW⟩
 go_enter Try.func8, Try.ntmps8
 go_wp2_with fail
 rw [← HW.out]
 clear HW
 have bel := Below.refl W.heap.size W
 have cA0 : W.cell? ⟨w.heap.size, 0, none⟩ = some (.slice a0 n0 c0) := (rA0.next bel).cell 0
 refine (szSig _ _ _ (1048576) _ hN0 (by omega) (by omega)).mono ?_
 rintro e w1 ⟨he, bb⟩
 replace bel := next_trans bel bb
 have zw1 := bb.size
 clear bb
 by_cases q0 : n0 ≤ 1048576
 case neg =>
  rw [if_pos (by omega)] at he
  subst he
  have F := Lib.hid (bW.trans (bel.mono bW.size))
  clear bel bW cA0
  go_wp2
  go_ret
  exact ⟨rfl, F.out⟩
 rw [if_neg (by omega)] at he
 subst he
 have h0 : n0 ≤ 1048576 := by omega
 clear cA0
 have cA0 : w1.cell? ⟨w.heap.size, 0, none⟩ = some (.slice a0 n0 c0) := (rA0.next bel).cell 0
 go_wp2_with fail
 refine (sigTo _ _ _ xs0 _ (s0.next bel) h0).mono ?_
 rintro e w2 ⟨gp0, rfl, op0, yp0, bb⟩
 replace bel := next_trans bel bb
 have zw2 := bb.size
 clear bb
 clear cA0
 have cA0 : w2.cell? ⟨w.heap.size, 0, none⟩ = some (.slice a0 n0 c0) := (rA0.next bel).cell 0
 go_wp2_with fail
 refine (intsTo _ _ _ xs1 _ (s1.next bel) h1).mono ?_
 rintro e w3 ⟨gp1, rfl, op1, yp1, bb⟩
 replace op0 := op0.next bb
 replace bel := next_trans bel bb
 have zw3 := bb.size
 clear bb
 clear cA0
 have cA0 : w3.cell? ⟨w.heap.size, 0, none⟩ = some (.slice a0 n0 c0) := (rA0.next bel).cell 0
 go_wp2_with fail
 refine (intsTo _ _ _ xs2 _ (s2.next bel) h2).mono ?_
 rintro e w4 ⟨gp2, rfl, op2, yp2, bb⟩
 replace op0 := op0.next bb
 replace op1 := op1.next bb
 replace bel := next_trans bel bb
 have zw4 := bb.size
 clear bb
 clear cA0
 have cA0 : w4.cell? ⟨w.heap.size, 0, none⟩ = some (.slice a0 n0 c0) := (rA0.next bel).cell 0
 go_wp2_with fail
 refine (specOftenIn _ _ _ _ _ _ _ _ _ xs0 xs1 xs2 _ op0.rd op1.rd op2.rd h0 h1 h2).mono ?_
 rintro e w5 ⟨he, bb⟩
 rw [HV.out] at he
 subst he
 replace op0 := op0.next bb
 replace op1 := op1.next bb
 replace op2 := op2.next bb
 replace bel := next_trans bel bb
 have zw5 := bb.size
 clear bb
 clear op0 op1 op2
 clear cA0
 have cA0 : w5.cell? ⟨w.heap.size, 0, none⟩ = some (.slice a0 n0 c0) := (rA0.next bel).cell 0
 clear cA0
 have cA0 : w5.cell? ⟨w.heap.size, 0, none⟩ = some (.slice a0 n0 c0) := (rA0.next bel).cell 0
 go_wp2_with fail
 refine (sigTo _ _ _ xs0 _ (s0.next bel) h0).mono ?_
 rintro e w6 ⟨gx0, rfl, ox0, yx0, bb⟩
 replace bel := next_trans bel bb
 have zw6 := bb.size
 clear bb
 clear cA0
 have cA0 : w6.cell? ⟨w.heap.size, 0, none⟩ = some (.slice a0 n0 c0) := (rA0.next bel).cell 0
 have dA0 : (w6.alloc (.cells #[.slice (some ⟨gx0, 0, none⟩) n0 n0] 29)).cell? ⟨w.heap.size, 0, none⟩ = some (.slice a0 n0 c0) := ((rA0.next bel).alloc _).cell 0
 go_wp2_with fail
 obtain ⟨w7, hw⟩ : ∃ W, W = w6.alloc (.cells #[.slice (some ⟨gx0, 0, none⟩) n0 n0] 29) := ⟨_, rfl⟩
 rw [← hw]
 have rx0 : Row w7 w6.heap.size 29 #[.slice (some ⟨gx0, 0, none⟩) n0 n0] := by rw [hw]; exact Row.new _ _ _
 have bb : Below w6.heap.size w6 w7 := by rw [hw]; exact (Below.refl _ _).alloc (Nat.le_refl _) _
 have yrx0 : w6.heap.size < w7.heap.size := by rw [hw]; simp
 clear hw
 replace ox0 := ox0.next bb
 replace bel := next_trans bel bb
 have zw7 := bb.size
 clear bb
 clear dA0
 clear cA0
 have cA0 : w7.cell? ⟨w.heap.size, 0, none⟩ = some (.slice a0 n0 c0) := (rA0.next bel).cell 0
 have cx0 : w7.cell? ⟨w6.heap.size, 0, none⟩ = some (.slice (some ⟨gx0, 0, none⟩) n0 n0) := (rx0).cell 0
 refine (intsTo _ _ _ xs1 _ (s1.next bel) h1).mono ?_
 rintro e w8 ⟨gx1, rfl, ox1, yx1, bb⟩
 replace ox0 := ox0.next bb
 replace rx0 := rx0.next bb
 replace bel := next_trans bel bb
 have zw8 := bb.size
 clear bb
 clear cA0 cx0
 have cA0 : w8.cell? ⟨w.heap.size, 0, none⟩ = some (.slice a0 n0 c0) := (rA0.next bel).cell 0
 have cx0 : w8.cell? ⟨w6.heap.size, 0, none⟩ = some (.slice (some ⟨gx0, 0, none⟩) n0 n0) := (rx0).cell 0
 go_wp2_with fail
 refine (intsTo _ _ _ xs2 _ (s2.next bel) h2).mono ?_
 rintro e w9 ⟨gx2, rfl, ox2, yx2, bb⟩
 replace ox0 := ox0.next bb
 replace rx0 := rx0.next bb
 replace ox1 := ox1.next bb
 replace bel := next_trans bel bb
 have zw9 := bb.size
 clear bb
 clear cA0 cx0
 have cA0 : w9.cell? ⟨w.heap.size, 0, none⟩ = some (.slice a0 n0 c0) := (rA0.next bel).cell 0
 have cx0 : w9.cell? ⟨w6.heap.size, 0, none⟩ = some (.slice (some ⟨gx0, 0, none⟩) n0 n0) := (rx0).cell 0
 go_wp2_with fail
 refine (implOftenIn _ _ _ _ _ _ _ _ _ xs0 xs1 xs2 _ ox0.rd ox1.rd ox2.rd h0 h1 h2).mono ?_
 rintro e w10 ⟨he, bb⟩
 rw [HV.out] at he
 subst he
 replace ox0 := ox0.next bb
 replace rx0 := rx0.next bb
 replace ox1 := ox1.next bb
 replace ox2 := ox2.next bb
 replace bel := next_trans bel bb
 have zw10 := bb.size
 clear bb
 clear cA0 cx0
 have cA0 : w10.cell? ⟨w.heap.size, 0, none⟩ = some (.slice a0 n0 c0) := (rA0.next bel).cell 0
 have cx0 : w10.cell? ⟨w6.heap.size, 0, none⟩ = some (.slice (some ⟨gx0, 0, none⟩) n0 n0) := (rx0).cell 0
 go_wp2_with fail
 replace ox0 := ox0.drew
 replace rx0 := rx0.drew
 replace ox1 := ox1.drew
 replace ox2 := ox2.drew
 replace bel := bel.drew
 have zdw10 := (drew_below w10).size
 go_region_held3 (fun w' => w'.cell? ⟨w6.heap.size, 0, none⟩ = some (.slice (some ⟨gx0, 0, none⟩) n0 n0) ∧ w'.cell? ⟨w.heap.size, 0, none⟩ = some (.slice a0 n0 c0))
  (go_keep)
  (first
   | (go_at_call 38; refine (sigTo _ _ _ xs0 _ (s0.next bel) h0).mono ?_; rintro e w11 ⟨gt0, rfl, ot, yt0, bb⟩; replace ox0 := ox0.next bb; replace rx0 := rx0.next bb; replace ox1 := ox1.next bb; replace ox2 := ox2.next bb; replace bel := next_trans bel bb; have k0w11 : w11.cell? ⟨w.heap.size, 0, none⟩ = some (.slice a0 n0 c0) := (rA0.next bel).cell 0; have l0w11 : w11.cell? ⟨w6.heap.size, 0, none⟩ = some (.slice (some ⟨gx0, 0, none⟩) n0 n0) := rx0.cell 0; have zqw11 := bb.size; clear bb)
   | (go_at_call 40; refine (sigEq _ _ _ _ _ _ xs0 _ ox0.rd ot.rd h0).mono ?_; rintro e w12 ⟨rfl, bb⟩; replace ox0 := ox0.next bb; replace rx0 := rx0.next bb; replace ox1 := ox1.next bb; replace ox2 := ox2.next bb; replace bel := next_trans bel bb; have k0w12 : w12.cell? ⟨w.heap.size, 0, none⟩ = some (.slice a0 n0 c0) := (rA0.next bel).cell 0; have l0w12 : w12.cell? ⟨w6.heap.size, 0, none⟩ = some (.slice (some ⟨gx0, 0, none⟩) n0 n0) := rx0.cell 0; have zqw12 := bb.size; clear bb ot))
 clear k0w11 l0w11 k0w12 l0w12
 clear ox0 rx0
 clear cA0 cx0
 have cA0 : w12.cell? ⟨w.heap.size, 0, none⟩ = some (.slice a0 n0 c0) := (rA0.next bel).cell 0
 go_wp2_with fail
 refine (intsTo _ _ _ xs1 _ (s1.next bel) h1).mono ?_
 rintro e w13 ⟨gt1, rfl, ot1, yt1, bb⟩
 replace ox1 := ox1.next bb
 replace ox2 := ox2.next bb
 replace bel := next_trans bel bb
 have zw13 := bb.size
 clear bb
 clear cA0
 have cA0 : w13.cell? ⟨w.heap.size, 0, none⟩ = some (.slice a0 n0 c0) := (rA0.next bel).cell 0
 go_wp2_with fail
 refine (intsEq _ _ _ _ _ _ xs1 _ ox1.rd ot1.rd h1).mono ?_
 rintro e w14 ⟨rfl, bb⟩
 replace ox1 := ox1.next bb
 replace ox2 := ox2.next bb
 replace ot1 := ot1.next bb
 replace bel := next_trans bel bb
 have zw14 := bb.size
 clear bb
 clear ot1 ox1
 clear cA0
 have cA0 : w14.cell? ⟨w.heap.size, 0, none⟩ = some (.slice a0 n0 c0) := (rA0.next bel).cell 0
 go_wp2_with fail
 refine (intsTo _ _ _ xs2 _ (s2.next bel) h2).mono ?_
 rintro e w15 ⟨gt2, rfl, ot2, yt2, bb⟩
 replace ox2 := ox2.next bb
 replace bel := next_trans bel bb
 have zw15 := bb.size
 clear bb
 clear cA0
 have cA0 : w15.cell? ⟨w.heap.size, 0, none⟩ = some (.slice a0 n0 c0) := (rA0.next bel).cell 0
 go_wp2_with fail
 refine (intsEq _ _ _ _ _ _ xs2 _ ox2.rd ot2.rd h2).mono ?_
 rintro e w16 ⟨rfl, bb⟩
 replace ox2 := ox2.next bb
 replace ot2 := ot2.next bb
 replace bel := next_trans bel bb
 have zw16 := bb.size
 clear bb
 clear ot2 ox2
 clear cA0
 have cA0 : w16.cell? ⟨w.heap.size, 0, none⟩ = some (.slice a0 n0 c0) := (rA0.next bel).cell 0
 have F := Lib.hid (bW.trans (bel.mono bW.size))
 clear bel bW cA0
 go_wp2
 go_ret
 exact ⟨rfl, F.out⟩
end wOftenIn
end
end Go.Proofs.Ytiimbmkofpnebaa
