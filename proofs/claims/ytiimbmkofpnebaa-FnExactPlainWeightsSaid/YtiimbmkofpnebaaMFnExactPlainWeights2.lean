/-
  MERGED: my texts Rename, Same, RuleSpec, AnyR, RuleImpl, RankSpec, Dice, DrawSig, DrawTerm, DrawAny, DrawX, Stk, PartsSpec, KboLink, AnyJ, TabR, Inside, Plain, PlainOf, MatchSpec, Whole, KboOft, KboWt, LpoPrec, KboOk, KboScale, KboFun, Shape3, KindsK, KboX, KboLight, PathSpec, KboPlain, KboXB, WPlainWeights, OpenX, one behind the other, as they are. By an AI agent.
-/
import Derived.Test.YtiimbmkofpnebaaMFnExactPlainWeights1
import Derived.Deep.QuietTactic
import Derived.BigQuiet
import Derived.Deep.RegionHeld3
import Derived.Shelf.Abstract
import Derived.Deep.LoopGhost
import Derived.Deep.AppendLies
import Derived.Deep.RegionLaw
import Derived.Deep.Onto
import Derived.Deep.DeepMust
import Derived.Laws.Rows
import Derived.Laws.ResultCell
import Derived.Deep.WholeRow
import Derived.ProofKit
import Derived.OpenShut
import Derived.Lib.SmallJoins
import Derived.Deep.Slices
import Derived.Deep.Fields
namespace Go.Proofs.Ytiimbmkofpnebaa
section
namespace rename
open Go.RowKit base ints sig term termOk marks app sym segs termFacts varsMath varsOf renMath
set_option maxRecDepth 100000
def upTo (o : List Int) (x : Int) (q : Nat) : Int := if idx o x < q then -1 - (idx o x : Int) else x
end rename
end
section
namespace same
open Go.RowKit base ints
end same
end
section
namespace ruleSpec
open Go.RowKit renMath base ints sig term termOk marks app sym segs termFacts varsMath varsOf rename same count linear shape kindsR ruleMath
set_option maxRecDepth 100000
theorem box1 (w : World) (t : TypeId) (cs : Array Value) : ∃ W, W = w.alloc (.cells cs t) ∧ Row W w.heap.size t cs ∧ Below w.heap.size w W :=
 ⟨_, rfl, Row.new _ _ _, (Below.refl _ _).alloc (Nat.le_refl _) _⟩
theorem box2 (w : World) (t t' : TypeId) (cs cs' : Array Value) : ∃ W, W = (w.alloc (.cells cs t)).alloc (.cells cs' t') ∧ Row W w.heap.size t cs ∧ Row W (w.heap.size + 1) t' cs' ∧ Below w.heap.size w W := by
 refine ⟨_, rfl, ?_, ?_, ?_⟩
 ·have := (Row.new w t cs).alloc (.cells cs' t'); simpa using this
 ·have := Row.new (w.alloc (.cells cs t)) t' cs'; simpa using this
 ·exact ((Below.refl _ _).alloc (Nat.le_refl _) _).alloc (by simp) _
end ruleSpec
end
section
namespace anyR
open Go.RowKit base ints sig segs varsOf shape kindsR ruleMath
set_option maxRecDepth 100000
end anyR
end
section
namespace ruleImpl
open Go.RowKit base ints sig term termOk marks app sym segs termFacts varsMath varsOf rename same count linear shape kindsR ruleMath ruleSpec anyR
set_option maxRecDepth 100000
end ruleImpl
end
section
namespace rankSpec
open Go.RowKit base ints sig term rankMath shape kindsR ruleMath ruleSpec ruleImpl
set_option maxRecDepth 100000
end rankSpec
end
section
namespace dice
open Go.RowKit base ints cursor
section
variable {w w' : World} {p : Nat} {A : Option Addr} {n c i : Nat} {h : Int}
end
end dice
end
section
namespace drawSig
open Go.RowKit base ints sig cursor marks app sym dice
set_option maxRecDepth 100000
section
variable {w : World} {p : Nat} {A : Option Addr} {n c v : Nat} {wr : World} {O : Option Addr} {on oc : Nat} {xs : List Int}
end
def Short (xs : List Int) : Prop := xs.length ≤ 9
end drawSig
end
section
namespace drawTerm
open Go.RowKit base ints sig term cursor marks app sym dice drawSig
set_option maxRecDepth 100000
def Rd (w : World) (p B : Nat) (A : Option Addr) (n : Nat) (xs : List Int) : Prop :=
 xs.length = n ∧ (0 < n → ∃ b off, A = some ⟨b, off, none⟩ ∧ b < B ∧ b ≠ p ∧ ∀ j, j < n → w.cell? ⟨b, off + j, none⟩ = some (.int .i64 (xs.getD j 0)))
theorem Rd.more {w : World} {p B B' : Nat} {A : Option Addr} {n : Nat} {xs : List Int} (h : Rd w p B A n xs) (hB : B ≤ B') : Rd w p B' A n xs :=
 ⟨h.1, fun hn => by obtain ⟨b, off, e, hb, hne, hc⟩ := h.2 hn; exact ⟨b, off, e, by omega, hne, hc⟩⟩
theorem Rd.keep {w w' : World} {p B : Nat} {A : Option Addr} {n : Nat} {xs : List Int} (h : Rd w p B A n xs) (hk : ∀ q : Addr, q.block < B → q.block ≠ p → w'.cell? q = w.cell? q) : Rd w' p B A n xs :=
 ⟨h.1, fun hn => by obtain ⟨b, off, e, hb, hne, hc⟩ := h.2 hn; exact ⟨b, off, e, hb, hne, fun j hj => (hk ⟨b, off + j, none⟩ hb hne).trans (hc j hj)⟩⟩
theorem Rd.below {w w' : World} {p B B' : Nat} {A : Option Addr} {n : Nat} {xs : List Int} (h : Rd w p B A n xs) (hb : Below B' w w') (hB : B ≤ B') : Rd w' p B A n xs :=
 h.keep fun q hq _ => hb.cell (by omega)
section
variable {w : World} {p : Nat} {A : Option Addr} {n c : Nat} {S : Option Addr} {sn sc : Nat} {sg : List Int} {wr w' : World}
end
end drawTerm
end
section
namespace drawAny
open Go.RowKit base ints sig term cursor termOk marks app sym dice drawSig drawTerm
set_option maxRecDepth 100000
theorem Own.cap {w : World} {base : Nat} {O : Option Addr} {on oc : Nat} {xs : List Int} (h : Own w base (.slice O on oc) xs) : on ≤ oc ∧ oc ≤ 9223372036854775807 := by
 rcases h.2 with ⟨e, _⟩ | ⟨g, cap, cur, e, _, _, h1, h2, _⟩
 ·injection e with _ e1 e2; omega
 ·injection e with _ e1 e2
  have := Own.len h
  unfold maxLen at h2
  omega
end drawAny
end
section
namespace drawX
open Go.RowKit base ints sig cursor marks app appAt sym segs shape dice
def RdQ (w : World) (Q : Nat → Prop) : (s : Sh) → List Value → Dat s → Prop
 | .num, cs, (x : Int) => cs = [.int .i64 x]
 | .bit, cs, (x : Bool) => cs = [.bool x]
 | .row _ s, cs, (d : List (Dat s)) => ∃ A n c, cs = [.slice A n c] ∧ Cap A n c ∧ d.length = n ∧
   (0 < n → ∃ b off, A = some ⟨b, off, none⟩ ∧ Q b ∧ ∀ j, j < n → ∃ es, es.length = nc s ∧ Piece w b (off + j * nc s) es ∧ RdQ w Q s es (d.getD j (dft s)))
 | .cat a b, cs, d => ∃ ca cb, cs = ca ++ cb ∧ RdQ w Q a ca d.1 ∧ RdQ w Q b cb d.2
section
variable {w w' : World} {Q Q' : Nat → Prop} {B : Nat}
theorem RdQ.keep (hk : ∀ b, Q b → w'.heap[b]? = w.heap[b]?) : ∀ {s : Sh} {cs : List Value} {d : Dat s}, RdQ w Q s cs d → RdQ w' Q s cs d
 | .num, _, _, h => h
 | .bit, _, _, h => h
 | .row _ s, _, _, h => by
  obtain ⟨A, n, c, e, hc, hl, h1⟩ := h
  refine ⟨A, n, c, e, hc, hl, fun hn => ?_⟩
  obtain ⟨b, off, e2, hb, h2⟩ := h1 hn
  refine ⟨b, off, e2, hb, fun j hj => ?_⟩
  obtain ⟨es, he, hp, hr⟩ := h2 j hj
  exact ⟨es, he, hp.keep (fun p hp => World.cell?_of_block (by rw [hp]; exact hk b hb)), hr.keep hk⟩
 | .cat a b, _, _, h => by
  obtain ⟨ca, cb, e, h1, h2⟩ := h
  exact ⟨ca, cb, e, h1.keep hk, h2.keep hk⟩
theorem RdQ.len : ∀ {s : Sh} {cs : List Value} {d : Dat s}, RdQ w Q s cs d → cs.length = nc s
 | .num, _, _, h => by have h : _ = _ := h; rw [h]; rfl
 | .bit, _, _, h => by have h : _ = _ := h; rw [h]; rfl
 | .row _ _, _, _, h => by obtain ⟨A, n, c, e, _⟩ := h; rw [e]; rfl
 | .cat a b, _, _, h => by
  obtain ⟨ca, cb, e, h1, h2⟩ := h
  rw [e, List.length_append, h1.len, h2.len]; rfl
theorem RdQ.cat {a b : Sh} {ca cb : List Value} {x : Dat a} {y : Dat b} (h1 : RdQ w Q a ca x) (h2 : RdQ w Q b cb y) : RdQ w Q (.cat a b) (ca ++ cb) (x, y) := ⟨ca, cb, rfl, h1, h2⟩
end
def OutR (w : World) (p : Nat) (r : Option Nat) (b : Nat) : Prop := b < w.heap.size ∧ b ≠ p ∧ some b ≠ r
section
variable {w w' : World} {p : Nat} {r : Option Nat} {s : Sh} {cs : List Value} {d : Dat s}
end
def cellsOf (k : Nat) (vs : List Value) (j : Nat) : List Value := (vs.drop (j * k)).take k
def OwnQ (w : World) (p lo : Nat) (e : TypeId) (s : Sh) (A : Option Addr) (n c : Nat) (D : List (Dat s)) : Prop :=
 D.length = n ∧ ∃ vs : List Value, w.ownsRow lo e (nc s) (.slice A n c) n vs ∧ ∀ j, j < n → RdQ w (OutR w p (blk A)) s (cellsOf (nc s) vs j) (D.getD j (dft s))
section
variable {w w' : World} {p lo n c : Nat} {e : TypeId} {s : Sh} {A : Option Addr} {D : List (Dat s)}
theorem OwnQ.nil (w : World) (p lo : Nat) (e : TypeId) (s : Sh) : OwnQ w p lo e s none 0 0 [] := ⟨rfl, [], ⟨by simp, .inl ⟨rfl, rfl⟩⟩, fun j hj => absurd hj (Nat.not_lt_zero _)⟩
end
end drawX
end
section
namespace stk
open Go.RowKit base ints marks app sym appAt segs segsMark kinds shape drawX
set_option maxRecDepth 100000
def Stk (w : World) (Q : Nat → Prop) (lo : Nat) (A : Option Addr) (n c : Nat) (D : List (List Int)) : Prop :=
 D.length = n ∧ ∃ vs : List Value, w.ownsRow lo 27 1 (.slice A n c) n vs ∧ ∀ j, j < n → RdQ w Q sI [vs.getD j undef] (D.getD j [])
section
variable {w w' : World} {Q Q' : Nat → Prop} {lo n c : Nat} {A : Option Addr} {D : List (List Int)}
theorem Stk.nil (w : World) (Q : Nat → Prop) (lo : Nat) : Stk w Q lo none 0 0 [] := ⟨rfl, [], World.ownsRow_nil w lo _ _, fun j hj => absurd hj (Nat.not_lt_zero j)⟩
end
end stk
end
section
namespace partsSpec
open Go.RowKit base ints sig term arity endOf marks app segs kinds shape drawX forest stk
set_option maxRecDepth 100000
theorem Fo.le {sg : List Int} {q : Nat} {l : List Int} (h : Fo sg q l) : q ≤ l.length := by
 induction h with
 | nil => exact Nat.zero_le _
 | var x r q h h1 ih => simp; exact ih
 | app x r q h h2 h1 ih => simp; omega
end partsSpec
end
section
namespace kboLink
open sig term termOk forest partsSpec lpoMath lpoLink rankMath rankSpec kboMath
variable {sg sy rk : List Int} {v : Int}
end kboLink
end
section
namespace anyJ
open Go.RowKit base ints sig anyR
set_option maxRecDepth 100000
end anyJ
end
section
namespace whole
open Go.RowKit base segs matchMath
set_option maxRecDepth 100000
section
variable {w w' : World} {B B' g : Nat} {cs : Array Value} {s : List (List Int)} {t : TypeId}
end
end whole
end
section
namespace inside
open Go.RowKit base ints sig term arity endOf cursor termOk endAt
set_option maxRecDepth 100000
structure Fr (w wr : World) (A : Option Addr) (n c : Nat) (sg : List Int) (A' : Option Addr) (m : Nat) (t : List Int) : Prop where
 r : Row wr w.heap.size 29 #[.slice A n c]
 s : Seg wr w.heap.size A n sg
 s' : Seg wr w.heap.size A' m t
 b : Below w.heap.size w wr
section
variable {w wr w' : World} {A : Option Addr} {n c : Nat} {sg : List Int} {A' : Option Addr} {m : Nat} {t : List Int}
theorem Fr.over (f : Fr w wr A n c sg A' m t) (hb : Below (w.heap.size + 1) wr w') : Fr w w' A n c sg A' m t :=
 have b : Below w.heap.size wr w' := hb.mono (Nat.le_succ _)
 ⟨f.r.below hb (Nat.lt_succ_self _), f.s.below b, f.s'.below b, f.b.trans b⟩
theorem Fr.s1 (f : Fr w wr A n c sg A' m t) : Seg wr wr.heap.size A n sg := f.s.more (Nat.le_of_lt f.r.lt)
theorem Fr.t1 (f : Fr w wr A n c sg A' m t) : Seg wr wr.heap.size A' m t := f.s'.more (Nat.le_of_lt f.r.lt)
theorem Fr.size (f : Fr w wr A n c sg A' m t) : w.heap.size < wr.heap.size := f.r.lt
end
end inside
end
section
namespace plain
open Go.RowKit base ints cursor same marks app appAt sym sub segs segsHelp kinds fillMath Go.Proofs.Ytiimbmkofpnebaa.look plainMath
set_option maxRecDepth 100000
end plain
end
section
namespace plainOf
open Go.RowKit base ints sig cursor marks app appAt sym sub segs segsHelp kinds varsOf fillMath Go.Proofs.Ytiimbmkofpnebaa.look substOk gives plainMath plain
set_option maxRecDepth 100000
def plainI (sg : List Int) (ss : List (List Int)) : List (List Int) := if substOkB sg ss = true then plainL (givesL ss) ss.length else []
theorem plain_yes {sg : List Int} {ss : List (List Int)} (h : substOkB sg ss = true) : plainI sg ss = plainL (givesL ss) ss.length := by unfold plainI; rw [if_pos h]
theorem plain_no {sg : List Int} {ss : List (List Int)} (h : substOkB sg ss = false) : plainI sg ss = [] := by unfold plainI; rw [if_neg (by rw [h]; simp)]
end plainOf
end
section
namespace matchSpec
open Go.RowKit base ints sig same term termOk endAt inside marks app sym sub segs segsHelp termFacts termMath posMath plainMath plain plainOf gives cursor matchMath
set_option maxRecDepth 100000
structure Tab (w : World) (T : Nat) (s : List (List Int)) : Prop where
 len : s.length = 24
 row : ∃ cs, Row w T 27 cs ∧ cs.size = 24 ∧ ∀ j, j < 24 → ∃ A n c, cs[j]? = some (.slice A n c) ∧ Own w (T + 1) (.slice A n c) (s.getD j [])
section
variable {w w' : World} {T : Nat} {s : List (List Int)}
theorem Tab.at (h : Tab w T s) {j : Nat} (hj : j < 24) : ∃ A n c, w.cell? ⟨T, j, none⟩ = some (.slice A n c) ∧ Own w (T + 1) (.slice A n c) (s.getD j []) := by
 obtain ⟨cs, hr, hs, hc⟩ := h.row
 obtain ⟨A, n, c, e, ho⟩ := hc j hj
 exact ⟨A, n, c, by rw [hr.cell j, e], ho⟩
end
section
variable {w wr w' : World} {A : Option Addr} {n c : Nat} {sg : List Int} {P : Option Addr} {pn : Nat} {p : List Int} {Q : Option Addr} {m : Nat} {t : List Int} {s : List (List Int)}
end
section
variable {w wr w' : World} {A : Option Addr} {n c : Nat} {sg : List Int} {P : Option Addr} {pn : Nat} {p : List Int} {Q : Option Addr} {m : Nat} {t : List Int}
end
end matchSpec
end
section
namespace whole
open Go.RowKit base cursor marks app sym segs matchMath matchSpec
set_option maxRecDepth 100000
section
variable {P : Program} {ops : Array Oper} {rest : List Oper} {o : Oper} {a : Act} {w : World} {Q : Exit → Act → World → Prop}
theorem rowStore (hgd : o.guard = none) (ty : TypeId) (x y : Operand) (ho : o.op = .store ty x y) (g : Nat) (cells old : Array Value) (t : TypeId) (hx : a.eval x = .pointer (some ⟨g, 0, none⟩)) (hy : a.eval y = .agg cells)
  (hg : w.heap[g]? = some (.cells old t (0, 0))) (hi : (P.info? ty).map (·.size) = some cells.size) (hs : old.size = cells.size) (h1 : cells.all (·.oneCell') = true)
  (h : wpList P ops Q rest (a.put o.dst undef) (w.setRow g cells)) : wpList P ops Q (o :: rest) a w :=
 wpList_plain hgd fun _ hK => by
  unfold Oper.wp execOp
  simp only [ho, hx, hy, Instr.storeAt, Instr.sureAddr, Sem.run_bind, Sem.run_pure, Result.andThen_ok, run_storeVar_row w g t ty old cells hg hi hs h1]
  exact hK _ _ h
end
section
variable {w w' : World} {B B' g : Nat} {cs : Array Value} {s : List (List Int)} {t : TypeId}
theorem Row.setRow (h : Row w g t cs) (c' : Array Value) : Row (w.setRow g c') g t c' := setRow_heap w g cs c' t (0, 0) h
theorem grown_setRow (w : World) (g : Nat) (c' : Array Value) : w.grownBy (w.setRow g c') (some g) :=
 ⟨rfl, rfl, rfl, by simp, fun k _ hk => setRow_other w g k c' (fun e => hk (by rw [e]))⟩
end
end whole
end
section
namespace kboOft
open Go.RowKit base ints sig term termOk termFacts marks sym count varsOf ruleSpec anyJ whole kboMath kboLink
set_option maxRecDepth 100000
end kboOft
end
section
namespace kboWt
open Go.RowKit base ints sig term termOk termFacts marks sym ruleSpec lpoLink kboMath kboLink kboOft
set_option maxRecDepth 100000
end kboWt
end
section
namespace lpoPrec
open Go.RowKit base ints sig term marks app sym shape rankMath rankSpec ruleSpec
set_option maxRecDepth 100000
end lpoPrec
end
section
namespace kboOk
open Go.RowKit base ints sig term termOk termFacts marks sym varsOf ruleSpec rankMath rankSpec lpoLink lpoPrec kboMath kboLink kboOft kboWt
set_option maxRecDepth 100000
end kboOk
end
section
namespace kboScale
open Go.RowKit base ints sig term termOk termFacts marks sym varsOf ruleSpec rankMath rankSpec lpoLink lpoPrec kboMath kboLink kboOft kboWt kboOk whole
set_option maxRecDepth 100000
theorem below_setRow {w wr : World} {B g : Nat} {cs : Array Value} (h : Below B w wr) (hg : B ≤ g) (hB : B ≤ wr.heap.size) : Below B w (wr.setRow g cs) := h.grown (grown_setRow wr g cs) hB (fun k e => by injection e; omega)
theorem box_one (w : World) (t : TypeId) (cs : Array Value) : ∃ W, W = w.alloc (.cells cs t) ∧ Row W w.heap.size t cs ∧ Below w.heap.size w W := box1 w t cs
end kboScale
end
section
namespace kboFun
open Go.RowKit base ints sig term termOk termFacts marks sym varsOf ruleSpec forest rankMath rankSpec lpoLink lpoPrec kboMath kboLink kboOft kboWt kboOk kboScale whole
set_option maxRecDepth 100000
end kboFun
end
section
namespace shape
open Go.RowKit base ints sig cursor marks app sym appAt segs segsHelp segsMark kinds
theorem Owned.num (w : World) (lo hi : Nat) (x : Int) : Owned w lo hi .num [.int .i64 x] x := ⟨[], ⟨rfl, rfl⟩, List.nodup_nil, fun k hk => by cases hk⟩
theorem Ow.num {w w' : World} {cs : List Value} {x : Int} {F : List Nat} (h : Ow w .num cs x F) (y : Int) : Ow w' .num [.int .i64 y] y F := ⟨rfl, h.2⟩
theorem CpS.init (w : World) (tL tI : TypeId) (cs zs ps : Array Value) : CpS w tL tI cs zs ps (((w.alloc (.cells cs tL)).alloc (.cells zs tI)).alloc (.cells ps tI)) where
 box := by have := ((Row.new w tL cs).alloc (.cells zs tI)).alloc (.cells ps tI); simpa using this
 res := by have := (Row.new (w.alloc (.cells cs tL)) tI zs).alloc (.cells ps tI); simpa using this
 cur := by have := Row.new ((w.alloc (.cells cs tL)).alloc (.cells zs tI)) tI ps; simpa using this
 bel := (((Below.refl _ _).alloc (Nat.le_refl _) _).alloc (by simp) _).alloc (by simp; omega) _
 size := by simp
end shape
end
section
open Go.Lib (hid)
namespace kindsK
open Go.RowKit base ints sig cursor marks app sym appAt segs segsHelp segsMark kinds shape
set_option maxRecDepth 100000
abbrev sWeights : Sh := .cat .num (.cat sI sI)
theorem parts_Weights {w : World} {B : Nat} {v0 v1 : Value} {d : Dat sWeights} (h : Rd w B sWeights [.int .i64 d.1, v0, v1] d) : Rd w B .num [.int .i64 d.1] d.1 ∧ Rd w B sI [v0] d.2.1 ∧ Rd w B sI [v1] d.2.2 := by
 obtain ⟨p0, q0⟩ := Rd.split (ca := [.int .i64 d.1]) (cb := [v0, v1]) h rfl
 obtain ⟨p1, q1⟩ := Rd.split (ca := [v0]) (cb := [v1]) q0 rfl
 exact ⟨p0, p1, q1⟩
theorem join_Weights {w : World} {lo hi : Nat} {v0 v1 : Value} {d : Dat sWeights} {m0 m1 m2 m3 : Nat} (o0 : Owned w m0 m1 .num [.int .i64 d.1] d.1) (o1 : Owned w m1 m2 sI [v0] d.2.1) (o2 : Owned w m2 m3 sI [v1] d.2.2) (l0 : m0 ≤ m1) (l1 : m1 ≤ m2) (l2 : m2 ≤ m3) (hl : lo ≤ m0) (hh : m3 ≤ hi) : Owned w lo hi sWeights [.int .i64 d.1, v0, v1] d := by
 exact ((Owned.cat o0 (Owned.cat o1 o2 (Nat.le_refl _) (by omega) (by omega)) (Nat.le_refl _) (by omega) (by omega)) : Owned w m0 m3 sWeights [.int .i64 d.1, v0, v1] d).wider hl hh
set_option maxHeartbeats 2000000 in
theorem szK_Weights (v0 v1 : Value) (d : Dat sWeights) (left : Int) (w : World) (h : Rd w w.heap.size sWeights [.int .i64 d.1, v0, v1] d) (h0 : 0 ≤ left) (h1 : left ≤ 1048576) :
  Calls Try.prog 36 #[.agg #[.int .i64 d.1, v0, v1], .int .i64 left] w (AnsSzK w left (sz sWeights d)) := by
 obtain ⟨g0, g1, g2⟩ := parts_Weights h
 obtain ⟨t0, ht0⟩ : ∃ t, sz sI d.2.1 = t := ⟨_, rfl⟩
 obtain ⟨t1, ht1⟩ : ∃ t, sz sI d.2.2 = t := ⟨_, rfl⟩
 have HE : Hid (sz sWeights d = t0 + t1) := hid (by rw [← ht0, ← ht1]; simp only [sz]; try omega)
 have HT0 := hid ht0
 have G0 := hid g1
 have HT1 := hid ht1
 have G1 := hid g2
 obtain ⟨W, hW⟩ : ∃ W, W = w.alloc (.cells #[.int .i64 d.1, v0, v1] 59) := ⟨_, rfl⟩
 have r : Row W w.heap.size 59 #[.int .i64 d.1, v0, v1] := by rw [hW]; exact Row.new _ _ _
 have bel : Below w.heap.size w W := by rw [hW]; exact (Below.refl _ _).alloc (Nat.le_refl _) _
 have HW := hid hW
 clear hW h g0 g1 g2 ht0 ht1
 go_enter Try.func36, Try.ntmps36
 go_wp2_with fail
 rw [← HW.out]
 refine (szK_ints _ _ left W (G0.out.next bel) h0 h1).mono ?_
 rintro e w1 ⟨he, bb⟩
 rw [HT0.out] at he
 replace r := r.next bb
 replace bel := next_trans bel bb
 clear bb
 by_cases q0 : left - (t0 : Int) < 0
 ·rw [if_pos q0] at he
  subst he
  have F : AnsSzK w left (sz sWeights d) (.returned (.int .i64 (-1))) w1 := ⟨by rw [HE.out, if_pos (by omega)], bel⟩
  have HF := hid F
  clear F bel r
  go_wp2
  go_ret
  exact HF.out
 rw [if_neg q0] at he
 obtain ⟨l0, hl0⟩ : ∃ l, left - (t0 : Int) = l := ⟨_, rfl⟩
 rw [hl0] at he
 have a0 : 0 ≤ l0 := by omega
 have b0 : l0 ≤ 1048576 := by omega
 have HL0 := hid hl0
 clear hl0 q0
 subst he
 have c0_0 : w1.cell? ⟨w.heap.size, 2, none⟩ = some (v1) := r.cell 2
 go_wp2_with fail
 refine (szK_ints _ _ l0 w1 (G1.out.next bel) a0 b0).mono ?_
 rintro e w2 ⟨he, bb⟩
 rw [HT1.out] at he
 replace r := r.next bb
 replace bel := next_trans bel bb
 clear bb
 by_cases q1 : l0 - (t1 : Int) < 0
 ·rw [if_pos q1] at he
  subst he
  have F : AnsSzK w left (sz sWeights d) (.returned (.int .i64 (-1))) w2 := ⟨by have := HL0.out; rw [HE.out, if_pos (by omega)], bel⟩
  have HF := hid F
  clear F bel r
  go_wp2
  go_ret
  exact HF.out
 rw [if_neg q1] at he
 obtain ⟨l1, hl1⟩ : ∃ l, l0 - (t1 : Int) = l := ⟨_, rfl⟩
 rw [hl1] at he
 have a1 : 0 ≤ l1 := by omega
 have b1 : l1 ≤ 1048576 := by omega
 have HL1 := hid hl1
 clear hl1 q1
 subst he
 have F : AnsSzK w left (sz sWeights d) (.returned (.int .i64 l1)) w2 := ⟨by have := HL0.out; have := HL1.out; rw [HE.out, if_neg (by omega)]; exact congrArg (fun z => Ending.returned (.int .i64 z)) (by omega), bel⟩
 have HF := hid F
 clear F bel r
 go_wp2
 go_ret
 exact HF.out
def CopyWeights (w : World) (d : Dat sWeights) (e : Ending) (w' : World) : Prop := ∃ A0 n0 c0 A1 n1 c1, e = .returned (.agg #[.int .i64 d.1, .slice A0 n0 c0, .slice A1 n1 c1]) ∧ Owned w' w.heap.size w'.heap.size sWeights [.int .i64 d.1, .slice A0 n0 c0, .slice A1 n1 c1] d ∧ Below w.heap.size w w'
set_option maxHeartbeats 2000000 in
theorem toK_Weights (v0 v1 : Value) (d : Dat sWeights) (w : World) (h : Rd w w.heap.size sWeights [.int .i64 d.1, v0, v1] d) (hz : sz sWeights d ≤ 1048576) :
  Calls Try.prog 39 #[.agg #[.int .i64 d.1, v0, v1]] w (CopyWeights w d) := by
 obtain ⟨g0, g1, g2⟩ := parts_Weights h
 have cp0 := CpS.init w 59 32 #[.int .i64 d.1, v0, v1] #[.int .i64 0, .slice none 0 0, .slice none 0 0] #[.int .i64 d.1, .slice none 0 0, .slice none 0 0]
 obtain ⟨W, hW⟩ : ∃ W, W = ((w.alloc (.cells #[.int .i64 d.1, v0, v1] 59)).alloc (.cells #[.int .i64 0, .slice none 0 0, .slice none 0 0] 32)).alloc (.cells #[.int .i64 d.1, .slice none 0 0, .slice none 0 0] 32) := ⟨_, rfl⟩
 rw [← hW] at cp0
 have HW := hid hW
 have G1 := hid g1
 have Z1 : Hid (sz sI d.2.1 ≤ 1048576) := hid (by have := hz; simp only [sz] at this ⊢; omega)
 have G2 := hid g2
 have Z2 : Hid (sz sI d.2.2 ≤ 1048576) := hid (by have := hz; simp only [sz] at this ⊢; omega)
 clear hW hz h g0 g1 g2
 go_enter Try.func39, Try.ntmps39
 go_wp2_with fail
 rw [← HW.out]
 refine (toK_ints _ _ _ ((G1.out.below cp0.bel).more cp0.bel.size) Z1.out).mono ?_
 rintro e w1 ⟨x1A0, x1n0, x1c0, rfl, o1, bb⟩
 have zb1 := bb.size
 have zc1 := cp0.size
 replace cp0 := cp0.next bb
 clear bb
 have f1_0 : w1.frozen? ⟨w.heap.size + 1 + 1, 1, none⟩ = false := cp0.cur.free 1
 have k1_0 : w1.cell? ⟨w.heap.size + 1 + 1, 1, none⟩ = some (.slice none 0 0) := cp0.cur.cell 1
 obtain ⟨w2, hw1⟩ : ∃ x, x = (w1.setCell ⟨w.heap.size + 1 + 1, 1, none⟩ (.slice x1A0 x1n0 x1c0)) := ⟨_, rfl⟩
 replace o1 := o1.put (g := w.heap.size + 1 + 1) (i := 1) (u := .slice x1A0 x1n0 x1c0) (by omega)
 rw [← hw1] at o1
 replace cp0 : CpS w 59 32 #[.int .i64 d.1, v0, v1] #[.int .i64 0, .slice none 0 0, .slice none 0 0] #[.int .i64 d.1, .slice x1A0 x1n0 x1c0, .slice none 0 0] w2 := by rw [hw1]; exact (CpS.put cp0 1 (.slice x1A0 x1n0 x1c0))
 have zw1 : w2.heap.size = w1.heap.size := by rw [hw1]; simp
 have HW1 := hid hw1
 clear hw1
 have d2_0 : w2.cell? ⟨w.heap.size, 2, none⟩ = some (v1) := cp0.box.cell 2
 rw [HW1.out] at d2_0
 go_wp2_with fail
 rw [← HW1.out]
 clear d2_0
 refine (toK_ints _ _ _ ((G2.out.below cp0.bel).more cp0.bel.size) Z2.out).mono ?_
 rintro e w3 ⟨x2A0, x2n0, x2c0, rfl, o2, bb⟩
 replace o1 := o1.next bb
 have zb2 := bb.size
 have zc2 := cp0.size
 replace cp0 := cp0.next bb
 clear bb
 have f2_0 : w3.frozen? ⟨w.heap.size + 1 + 1, 2, none⟩ = false := cp0.cur.free 2
 have k2_0 : w3.cell? ⟨w.heap.size + 1 + 1, 2, none⟩ = some (.slice none 0 0) := cp0.cur.cell 2
 obtain ⟨w4, hw2⟩ : ∃ x, x = (w3.setCell ⟨w.heap.size + 1 + 1, 2, none⟩ (.slice x2A0 x2n0 x2c0)) := ⟨_, rfl⟩
 replace o1 := o1.put (g := w.heap.size + 1 + 1) (i := 2) (u := .slice x2A0 x2n0 x2c0) (by omega)
 rw [← hw2] at o1
 replace o2 := o2.put (g := w.heap.size + 1 + 1) (i := 2) (u := .slice x2A0 x2n0 x2c0) (by omega)
 rw [← hw2] at o2
 replace cp0 : CpS w 59 32 #[.int .i64 d.1, v0, v1] #[.int .i64 0, .slice none 0 0, .slice none 0 0] #[.int .i64 d.1, .slice x1A0 x1n0 x1c0, .slice x2A0 x2n0 x2c0] w4 := by rw [hw2]; exact (CpS.put cp0 2 (.slice x2A0 x2n0 x2c0))
 have zw2 : w4.heap.size = w3.heap.size := by rw [hw2]; simp
 have HW2 := hid hw2
 clear hw2
 have y0 : w4.cell? ⟨w.heap.size + 1 + 1, 0, none⟩ = some (.int .i64 d.1) := cp0.cur.cell 0
 rw [HW2.out] at y0
 have y1 : w4.cell? ⟨w.heap.size + 1 + 1, 1, none⟩ = some (.slice x1A0 x1n0 x1c0) := cp0.cur.cell 1
 rw [HW2.out] at y1
 have y2 : w4.cell? ⟨w.heap.size + 1 + 1, 2, none⟩ = some (.slice x2A0 x2n0 x2c0) := cp0.cur.cell 2
 rw [HW2.out] at y2
 have s0 : (w4).cell? ⟨w.heap.size + 1, 0, none⟩ = some (.int .i64 0) := cp0.res.cell 0
 rw [HW2.out] at s0
 have r0 : (w4).frozen? ⟨w.heap.size + 1, 0, none⟩ = false := cp0.res.free 0
 rw [HW2.out] at r0
 have s1 : ((w4.setCell ⟨w.heap.size + 1, 0, none⟩ (.int .i64 d.1))).cell? ⟨w.heap.size + 1, 1, none⟩ = some (.slice none 0 0) := (CpS.fin cp0 0 (.int .i64 d.1)).res.cell 1
 rw [HW2.out] at s1
 have r1 : ((w4.setCell ⟨w.heap.size + 1, 0, none⟩ (.int .i64 d.1))).frozen? ⟨w.heap.size + 1, 1, none⟩ = false := (CpS.fin cp0 0 (.int .i64 d.1)).res.free 1
 rw [HW2.out] at r1
 have s2 : (((w4.setCell ⟨w.heap.size + 1, 0, none⟩ (.int .i64 d.1)).setCell ⟨w.heap.size + 1, 1, none⟩ (.slice x1A0 x1n0 x1c0))).cell? ⟨w.heap.size + 1, 2, none⟩ = some (.slice none 0 0) := (CpS.fin (CpS.fin cp0 0 (.int .i64 d.1)) 1 (.slice x1A0 x1n0 x1c0)).res.cell 2
 rw [HW2.out] at s2
 have r2 : (((w4.setCell ⟨w.heap.size + 1, 0, none⟩ (.int .i64 d.1)).setCell ⟨w.heap.size + 1, 1, none⟩ (.slice x1A0 x1n0 x1c0))).frozen? ⟨w.heap.size + 1, 2, none⟩ = false := (CpS.fin (CpS.fin cp0 0 (.int .i64 d.1)) 1 (.slice x1A0 x1n0 x1c0)).res.free 2
 rw [HW2.out] at r2
 have o0 := Owned.num w4 (W.heap.size) (W.heap.size) d.1
 have oo : Owned w4 (w.heap.size + 1 + 1 + 1) w4.heap.size sWeights [.int .i64 d.1, .slice x1A0 x1n0 x1c0, .slice x2A0 x2n0 x2c0] d := join_Weights (m0 := W.heap.size) (m1 := W.heap.size) (m2 := w2.heap.size) (m3 := w4.heap.size) o0 (o1.wider (Nat.le_refl _) (by omega)) (o2.wider (Nat.le_refl _) (by omega)) (by omega) (by omega) (by omega) (by omega) (by omega)
 have F : CopyWeights w d (.returned (.agg #[.int .i64 d.1, .slice x1A0 x1n0 x1c0, .slice x2A0 x2n0 x2c0])) (((w4.setCell ⟨w.heap.size + 1, 0, none⟩ (.int .i64 d.1)).setCell ⟨w.heap.size + 1, 1, none⟩ (.slice x1A0 x1n0 x1c0)).setCell ⟨w.heap.size + 1, 2, none⟩ (.slice x2A0 x2n0 x2c0)) := ⟨x1A0, x1n0, x1c0, x2A0, x2n0, x2c0, rfl, Owned.wider ((((oo.put (g := w.heap.size + 1) (i := 0) (u := .int .i64 d.1) (by omega)).put (g := w.heap.size + 1) (i := 1) (u := .slice x1A0 x1n0 x1c0) (by omega)).put (g := w.heap.size + 1) (i := 2) (u := .slice x2A0 x2n0 x2c0) (by omega))) (by omega) (by simp), ((CpS.fin (CpS.fin (CpS.fin cp0 0 (.int .i64 d.1)) 1 (.slice x1A0 x1n0 x1c0)) 2 (.slice x2A0 x2n0 x2c0))).bel⟩
 have u0 : ((((w4.setCell ⟨w.heap.size + 1, 0, none⟩ (.int .i64 d.1)).setCell ⟨w.heap.size + 1, 1, none⟩ (.slice x1A0 x1n0 x1c0)).setCell ⟨w.heap.size + 1, 2, none⟩ (.slice x2A0 x2n0 x2c0))).cell? ⟨w.heap.size + 1, 0, none⟩ = some (.int .i64 d.1) := (CpS.fin (CpS.fin (CpS.fin cp0 0 (.int .i64 d.1)) 1 (.slice x1A0 x1n0 x1c0)) 2 (.slice x2A0 x2n0 x2c0)).res.cell 0
 rw [HW2.out] at u0
 have u1 : ((((w4.setCell ⟨w.heap.size + 1, 0, none⟩ (.int .i64 d.1)).setCell ⟨w.heap.size + 1, 1, none⟩ (.slice x1A0 x1n0 x1c0)).setCell ⟨w.heap.size + 1, 2, none⟩ (.slice x2A0 x2n0 x2c0))).cell? ⟨w.heap.size + 1, 1, none⟩ = some (.slice x1A0 x1n0 x1c0) := (CpS.fin (CpS.fin (CpS.fin cp0 0 (.int .i64 d.1)) 1 (.slice x1A0 x1n0 x1c0)) 2 (.slice x2A0 x2n0 x2c0)).res.cell 1
 rw [HW2.out] at u1
 have u2 : ((((w4.setCell ⟨w.heap.size + 1, 0, none⟩ (.int .i64 d.1)).setCell ⟨w.heap.size + 1, 1, none⟩ (.slice x1A0 x1n0 x1c0)).setCell ⟨w.heap.size + 1, 2, none⟩ (.slice x2A0 x2n0 x2c0))).cell? ⟨w.heap.size + 1, 2, none⟩ = some (.slice x2A0 x2n0 x2c0) := (CpS.fin (CpS.fin (CpS.fin cp0 0 (.int .i64 d.1)) 1 (.slice x1A0 x1n0 x1c0)) 2 (.slice x2A0 x2n0 x2c0)).res.cell 2
 rw [HW2.out] at u2
 rw [HW2.out] at F
 have HF := hid F
 clear F oo cp0 o1 o2
 go_wp2
 exact bodyPost_ret (v := .agg #[.int .i64 d.1, .slice x1A0 x1n0 x1c0, .slice x2A0 x2n0 x2c0]) (by simp [results, Try.results39, go_sem, u0, u1, u2]) rfl HF.out
set_option maxHeartbeats 2000000 in
theorem eqK_Weights (v0 v1 u0 u1 : Value) (d : Dat sWeights) (w : World) (h : Rd w w.heap.size sWeights [.int .i64 d.1, v0, v1] d) (h' : Rd w w.heap.size sWeights [.int .i64 d.1, u0, u1] d) (hz : sz sWeights d ≤ 1048576) :
  Calls Try.prog 41 #[.agg #[.int .i64 d.1, v0, v1], .agg #[.int .i64 d.1, u0, u1]] w (Yes w) := by
 obtain ⟨g0, g1, g2⟩ := parts_Weights h
 obtain ⟨g0', g1', g2'⟩ := parts_Weights h'
 obtain ⟨W, hW⟩ : ∃ W, W = (w.alloc (.cells #[.int .i64 d.1, v0, v1] 32)).alloc (.cells #[.int .i64 d.1, u0, u1] 32) := ⟨_, rfl⟩
 have ra : Row W w.heap.size 32 #[.int .i64 d.1, v0, v1] := by rw [hW]; exact (Row.new w 32 #[.int .i64 d.1, v0, v1]).alloc _
 have rb : Row W (w.heap.size + 1) 32 #[.int .i64 d.1, u0, u1] := by rw [hW]; have := Row.new (w.alloc (.cells #[.int .i64 d.1, v0, v1] 32)) 32 #[.int .i64 d.1, u0, u1]; simpa using this
 have bel : Below w.heap.size w W := by rw [hW]; exact ((Below.refl _ _).alloc (Nat.le_refl _) _).alloc (by simp) _
 have HW := hid hW
 have G1 := hid g1
 have G1' := hid g1'
 have Z1 : Hid (sz sI d.2.1 ≤ 1048576) := hid (by have := hz; simp only [sz] at this ⊢; omega)
 have G2 := hid g2
 have G2' := hid g2'
 have Z2 : Hid (sz sI d.2.2 ≤ 1048576) := hid (by have := hz; simp only [sz] at this ⊢; omega)
 clear hW hz h h' g0 g0' g1 g1' g2 g2'
 go_enter Try.func41, Try.ntmps41
 go_wp2_with fail
 rw [← HW.out]
 refine (eqK_ints _ _ _ W (G1.out.next bel) (G1'.out.next bel) Z1.out).mono ?_
 rintro e w1 ⟨rfl, bb⟩
 replace ra := ra.next bb
 replace rb := rb.next bb
 replace bel := next_trans bel bb
 clear bb
 have a2_0 : w1.cell? ⟨w.heap.size, 2, none⟩ = some (v1) := ra.cell 2
 have b2_0 : w1.cell? ⟨w.heap.size + 1, 2, none⟩ = some (u1) := rb.cell 2
 go_wp2_with fail
 clear a2_0 b2_0
 refine (eqK_ints _ _ _ w1 (G2.out.next bel) (G2'.out.next bel) Z2.out).mono ?_
 rintro e w2 ⟨rfl, bb⟩
 replace ra := ra.next bb
 replace rb := rb.next bb
 replace bel := next_trans bel bb
 clear bb
 have F : Yes w (.returned (.bool true)) w2 := ⟨rfl, bel⟩
 have HF := hid F
 clear F ra rb bel
 go_wp2
 go_ret
 exact HF.out
set_option maxHeartbeats 2000000 in
theorem markK_Weights (v0 v1 : Value) (d : Dat sWeights) (k : Int) (F : List Nat) (w : World) (h : Ow w sWeights [.int .i64 d.1, v0, v1] d F) (hF : F.Nodup) (hz : sz sWeights d ≤ 1048576) (hk0 : 0 ≤ k) (hk : k + (cntv sWeights d : Int) ≤ 1099511627776) :
  Calls Try.prog 54 #[.agg #[.int .i64 d.1, v0, v1], .int .i64 k] w (AnsMarkF w sWeights [.int .i64 d.1, v0, v1] d k F) := by
 have hlt := h.lt
 obtain ⟨F0, R0, eF0, o0, q0⟩ := Ow.split (ca := [.int .i64 d.1]) (cb := [v0, v1]) h rfl
 obtain ⟨F1, R1, eF1, o1, o2⟩ := Ow.split (ca := [v0]) (cb := [v1]) q0 rfl
 rw [eF0] at hF
 obtain ⟨n0, nr0, x0, y0⟩ := dis_app hF
 rw [eF1] at nr0
 obtain ⟨n1, nr1, x1, y1⟩ := dis_app nr0
 rw [eF1] at x0 y0
 obtain ⟨x0_1, x0_1r⟩ := dis_l x0
 obtain ⟨y0_1, y0_1r⟩ := dis_r y0
 obtain ⟨z1, hz1⟩ : ∃ z, cntv sI d.2.1 = z := ⟨_, rfl⟩
 obtain ⟨z2, hz2⟩ : ∃ z, cntv sI d.2.2 = z := ⟨_, rfl⟩
 have hc : (cntv sWeights d : Int) = (z1 : Int) + (z2 : Int) := by rw [← hz1, ← hz2]; first | done | (simp only [cntv]; try omega)
 have Z1 : Hid (sz sI d.2.1 ≤ 1048576) := hid (by have := hz; simp only [sz] at this ⊢; omega)
 have HZ1 := hid hz1
 have Z2 : Hid (sz sI d.2.2 ≤ 1048576) := hid (by have := hz; simp only [sz] at this ⊢; omega)
 have HZ2 := hid hz2
 have HC := hid hc
 rw [hc] at hk
 obtain ⟨W, hW⟩ : ∃ W, W = w.alloc (.cells #[.int .i64 d.1, v0, v1] 32) := ⟨_, rfl⟩
 have r : Row W w.heap.size 32 #[.int .i64 d.1, v0, v1] := by rw [hW]; exact Row.new _ _ _
 have bel : Below w.heap.size w W := by rw [hW]; exact (Below.refl _ _).alloc (Nat.le_refl _) _
 replace o0 := o0.next bel
 replace o1 := o1.next bel
 replace o2 := o2.next bel
 have nb0 : w.heap.size ∉ F0 := fun hb => by have := hlt _ (by rw [eF0]; exact List.mem_append_left _ hb); omega
 have nb1 : w.heap.size ∉ F1 := fun hb => by have := hlt _ (by rw [eF0, eF1]; exact (List.mem_append_right _ (List.mem_append_left _ hb))); omega
 have nb2 : w.heap.size ∉ R1 := fun hb => by have := hlt _ (by rw [eF0, eF1]; exact (List.mem_append_right _ (List.mem_append_right _ hb))); omega
 have sub0 : ∀ x ∈ F0, x ∈ F := fun x hb => by rw [eF0]; exact List.mem_append_left _ hb
 have sub1 : ∀ x ∈ F1, x ∈ F := fun x hb => by rw [eF0, eF1]; exact (List.mem_append_right _ (List.mem_append_left _ hb))
 have sub2 : ∀ x ∈ R1, x ∈ F := fun x hb => by rw [eF0, eF1]; exact (List.mem_append_right _ (List.mem_append_right _ hb))
 have on : Only F w W := Only.of_below bel
 have HW := hid hW
 have HEF : Hid (F = (F0 ++ (F1 ++ R1))) := hid (by rw [eF0, eF1])
 clear hW h hz hc bel hlt hz1 hz2 eF0 eF1
 go_enter Try.func54, Try.ntmps54
 go_wp2_with fail
 rw [← HW.out]
 refine (markK_ints _ _ k F1 _ o1 Z1.out (by omega) (by omega)).mono ?_
 rintro e w1 ⟨he, o1, on1⟩
 rw [HZ1.out] at he
 replace o0 := o0.only on1 x0_1
 replace o2 := o2.only on1 y1
 replace r := Row.only r on1 nb1
 replace on := on.trans (on1.wider sub1)
 clear on1
 obtain ⟨k1, hk1⟩ : ∃ l, k + (z1 : Int) = l := ⟨_, rfl⟩
 rw [hk1] at he
 have l1 : 0 ≤ k1 := by omega
 have u1 : k1  + (z2 : Int) ≤ 1099511627776 := by omega
 subst he
 have HK1 := hid hk1
 clear hk1
 have c2_0 : w1.cell? ⟨w.heap.size, 2, none⟩ = some (v1) := r.cell 2
 go_wp2_with fail
 clear c2_0
 refine (markK_ints _ _ k1 R1 _ o2 Z2.out (by omega) (by omega)).mono ?_
 rintro e w2 ⟨he, o2, on2⟩
 rw [HZ2.out] at he
 replace o0 := o0.only on2 x0_1r
 replace o1 := o1.only on2 x1
 replace r := Row.only r on2 nb2
 replace on := on.trans (on2.wider sub2)
 clear on2
 obtain ⟨k2, hk2⟩ : ∃ l, k1 + (z2 : Int) = l := ⟨_, rfl⟩
 rw [hk2] at he
 have l2 : 0 ≤ k2 := by omega
 have u2 : k2  ≤ 1099511627776 := by omega
 subst he
 have HK2 := hid hk2
 clear hk2
 have F1 : AnsMarkF w sWeights [.int .i64 d.1, v0, v1] d k F (.returned (.int .i64 k2)) w2 := by
  refine ⟨congrArg (fun z => Ending.returned (.int .i64 z)) ?_, ?_, on⟩
  ·rw [HC.out]; have := HK1.out; have := HK2.out; omega
  ·rw [HEF.out]
   have e1 : k1 = k + (cntv sI d.2.1 : Int) := by have := HK1.out; have := HZ1.out; omega
   rw [e1] at o2
   have eK : k + ((0 : Nat) : Int) = k := by simp
   show Ow _ (.cat .num (.cat sI sI)) _ (d.1, mkv (.cat sI sI) (k + ((0 : Nat) : Int)) d.2) _
   rw [eK]
   exact (Ow.join o0 (Ow.join o1 o2))
 have HF := hid F1
 clear F1 on r o0 o1 o2
 go_wp2
 go_ret
 exact HF.out
set_option maxHeartbeats 2000000 in
theorem heldK_Weights (v0 v1 : Value) (d : Dat sWeights) (k : Int) (w : World) (h : Rd w w.heap.size sWeights [.int .i64 d.1, v0, v1] (mkv sWeights k d)) (hz : sz sWeights d ≤ 1048576) (hk0 : 0 ≤ k) (hk : k + (cntv sWeights d : Int) ≤ 1099511627776) :
  Calls Try.prog 55 #[.agg #[.int .i64 d.1, v0, v1], .int .i64 k] w (AnsHeld w (k + (cntv sWeights d : Int))) := by
 obtain ⟨g0, g1, g2⟩ := parts_Weights (d := mkv sWeights k d) h
 have eK : k + ((0 : Nat) : Int) = k := by simp
 have g1' : Rd w w.heap.size sI [v0] (mkv sI (k + ((0 : Nat) : Int)) d.2.1) := g1
 have g2' : Rd w w.heap.size sI [v1] (mkv sI (k + ((0 : Nat) : Int) + (cntv sI d.2.1 : Int)) d.2.2) := g2
 rw [eK] at g1' g2'
 have G1 : Hid (Rd w w.heap.size sI [v0] (mkv sI k d.2.1)) := hid g1'
 obtain ⟨z1, hz1⟩ : ∃ z, cntv sI d.2.1 = z := ⟨_, rfl⟩
 have G2 : Hid (Rd w w.heap.size sI [v1] (mkv sI (k + (cntv sI d.2.1 : Int)) d.2.2)) := hid g2'
 obtain ⟨z2, hz2⟩ : ∃ z, cntv sI d.2.2 = z := ⟨_, rfl⟩
 have hc : (cntv sWeights d : Int) = (z1 : Int) + (z2 : Int) := by rw [← hz1, ← hz2]; first | done | (simp only [cntv]; try omega)
 have Z1 : Hid (sz sI d.2.1 ≤ 1048576) := hid (by have := hz; simp only [sz] at this ⊢; omega)
 have HZ1 := hid hz1
 rw [hz1] at G2
 have Z2 : Hid (sz sI d.2.2 ≤ 1048576) := hid (by have := hz; simp only [sz] at this ⊢; omega)
 have HZ2 := hid hz2
 rw [hc] at hk ⊢
 have r := Row.new w 32 #[.int .i64 d.1, v0, v1]
 have bel : Below w.heap.size w (w.alloc (.cells #[.int .i64 d.1, v0, v1] 32)) := (Below.refl _ _).alloc (Nat.le_refl _) _
 obtain ⟨W, hW⟩ : ∃ W, W = w.alloc (.cells #[.int .i64 d.1, v0, v1] 32) := ⟨_, rfl⟩
 rw [← hW] at r bel
 have HW := hid hW
 clear hW h hz hc g0 g1 g2 hz1 hz2
 go_enter Try.func55, Try.ntmps55
 go_wp2_with fail
 rw [← HW.out]
 refine (heldK_ints _ d.2.1 k W (by refine (G1.out.next bel)) Z1.out (by omega) (by omega)).mono ?_
 rintro e w1 ⟨he, bb⟩
 rw [HZ1.out] at he
 replace r := r.next bb
 replace bel := next_trans bel bb
 clear bb
 obtain ⟨k1, hk1⟩ : ∃ l, k + (z1 : Int) = l := ⟨_, rfl⟩
 have he2 : e = .returned (.int .i64 k1) := by rw [he]; exact congrArg (fun z => Ending.returned (.int .i64 z)) (by omega)
 clear he
 have l1 : 0 ≤ k1 := by omega
 have u1 : k1  + (z2 : Int) ≤ 1099511627776 := by omega
 subst he2
 have HK1 := hid hk1
 clear hk1
 have c2_0 : w1.cell? ⟨w.heap.size, 2, none⟩ = some (v1) := r.cell 2
 go_wp2_with fail
 clear c2_0
 refine (heldK_ints _ d.2.2 k1 w1 (by rw [← HK1.out]; refine (G2.out.next bel)) Z2.out (by omega) (by omega)).mono ?_
 rintro e w2 ⟨he, bb⟩
 rw [HZ2.out] at he
 replace r := r.next bb
 replace bel := next_trans bel bb
 clear bb
 obtain ⟨k2, hk2⟩ : ∃ l, k + (z1 : Int) + (z2 : Int) = l := ⟨_, rfl⟩
 have he2 : e = .returned (.int .i64 k2) := by rw [he]; exact congrArg (fun z => Ending.returned (.int .i64 z)) (by have := HK1.out; omega)
 clear he
 have l2 : 0 ≤ k2 := by omega
 have u2 : k2  ≤ 1099511627776 := by omega
 subst he2
 have HK2 := hid hk2
 clear hk2
 have F : AnsHeld w (k + ((z1 : Int) + (z2 : Int))) (.returned (.int .i64 k2)) w2 := ⟨congrArg (fun z => Ending.returned (.int .i64 z)) (by have := HK2.out; omega), bel⟩
 have HF := hid F
 clear F r bel
 go_wp2
 go_ret
 exact HF.out
end kindsK
end
section
namespace kboX
open Go.RowKit base ints sig term termOk termFacts marks sym segs kinds varsOf shape kindsR kindsK ruleMath ruleSpec kboMath kboLink kboOft kboWt kboOk kboScale kboFun
set_option maxRecDepth 100000
theorem rd_s {w : World} {B : Nat} {a : Value} {d : List Int} (h : Rd w B sI [a] d) (hz : sz sI d ≤ 1048576) : ∃ A n c, a = .slice A n c ∧ Seg w B A n d ∧ n ≤ 1048576 ∧ Cap A n c := by
 obtain ⟨A, n, c, rfl, hA, cA⟩ := rd_ints.1 h
 have l := hA.1
 rw [sz_ints] at hz
 exact ⟨A, n, c, rfl, hA, by omega, cA⟩
end kboX
end
section
namespace kboLight
open Go.RowKit base ints sig term termOk termFacts marks sym varsOf ruleSpec forest rankMath rankSpec lpoLink lpoPrec kboMath kboLink kboOft kboWt kboOk kboScale whole kboFun
set_option maxRecDepth 100000
end kboLight
end
section
namespace pathSpec
open Go.RowKit base ints sig term arity endOf cursor termOk endAt inside marks app appAt sym args posMath
set_option maxRecDepth 100000
theorem own_lt {w : World} {base : Nat} {A : Option Addr} {n c : Nat} {xs : List Int} (h : Own w base (.slice A n c) xs) : ∀ k, blk A = some k → base ≤ k ∧ k < w.heap.size := fun k hk => World.ownsRow.lt h k (by rw [blk_own]; exact hk)
def PathIs (sg t : List Int) (x : Int) (pa : List Int) : Prop := (thereB sg t x = true ∧ ∃ ab, Trail sg t x.toNat 0 ab pa) ∨ (thereB sg t x = false ∧ pa = [])
theorem PathIs.len {sg t : List Int} {x : Int} {pa : List Int} (h : PathIs sg t x pa) : pa.length ≤ 60 := by
 rcases h with ⟨e, ab, hw⟩ | ⟨e, rfl⟩
 ·obtain ⟨hok, h0, h1⟩ := there_parts e
  have := hw.le
  have := (termOk_parts hok).2.1
  omega
 ·simp
theorem up_len {sg t : List Int} {a : Nat} : ∀ n p, (upTo sg t a p n).length ≤ n
 | 0, _ => by simp [upTo]
 | n + 1, p => by
  have := up_len (sg := sg) (t := t) (a := a) n (p + 1)
  simp only [upTo, List.length_append]
  split <;> simp <;> omega
theorem app1At {w : World} {ops : Array Oper} {rest : List Oper} {o : Oper} {a : Act} {Q : Exit → Act → World → Prop} (hgd : o.guard = none) (s x : Operand)
  (ho : o.op = .call { callee := .builtin .append, args := #[s, x], argTypes := #[27, 27] })
  (base : Nat) (A : Option Addr) (n c : Nat) (xs : List Int) (hs : a.eval s = .slice A n c) (hown : Own w base (.slice A n c) xs)
  (g c2 : Nat) (y : Int) (hx : a.eval x = .slice (some ⟨g, 0, none⟩) 1 c2) (hy : w.cell? ⟨g, 0, none⟩ = some (.int .i64 y)) (hn : n ≤ 2097152) (hbase : base ≤ w.heap.size)
  (h : ∀ A' c' w', Own w' base (.slice A' (n + 1) c') (xs ++ [y]) → w.grownBy w' (blk A) → (blk A' = blk A ∨ blk A' = some w.heap.size) → wpList Try.prog ops Q rest (a.put o.dst (.slice A' (n + 1) c')) w') : wpList Try.prog ops Q (o :: rest) a w :=
 appAllAt hgd s x ho base A n c xs hs hown (some ⟨g, 0, none⟩) 1 c2 (g + 1) [y] hx ⟨rfl, fun _ => ⟨g, 0, rfl, Nat.lt_succ_self _, fun j hj => by
  obtain rfl : j = 0 := by omega
  exact hy⟩⟩ (Nat.le_refl _) hn (by omega) hbase h
theorem Trail.split {sg t : List Int} {a q : Nat} {ab pa : List Int} (h : Trail sg t a q ab pa) (hne : q ≠ a) : ∃ (k : Nat) (ab' pa' : List Int), ab = (q : Int) :: ab' ∧ pa = (k : Int) :: pa' ∧ q < a ∧ k < arN sg t q ∧ argP sg t k (q + 1) ≤ a ∧ a < argP sg t k (q + 1) + len1 sg t (argP sg t k (q + 1)) ∧ q < argP sg t k (q + 1) ∧ Trail sg t a (argP sg t k (q + 1)) ab' pa' := by
 cases h with
 | here => exact absurd rfl hne
 | @down _ k ab' pa' h1 h2 h3 h4 h5 h6 hw => exact ⟨k, ab', pa', rfl, rfl, h1, h2, h3, h4, h5, hw⟩
end pathSpec
end
section
open Go.Lib (hid)
namespace kboPlain
open Go.RowKit base ints sig term termOk termFacts marks sym varsOf ruleSpec forest rankMath rankSpec lpoLink lpoPrec kboMath kboLink kboOft kboWt kboOk kboScale whole kboFun shape kindsR kindsK app appAt cursor pathSpec
set_option maxRecDepth 100000
def plainW (sg : List Int) : Dat sWeights := if sigOkB sg = true then (1, List.replicate sg.length 1, upI sg.length) else (0, [], [])
theorem plain_no {sg : List Int} (h : sigOkB sg = false) : plainW sg = (0, [], []) := by unfold plainW; rw [h]; rfl
theorem plain_yes {sg : List Int} (h : sigOkB sg = true) : plainW sg = (1, List.replicate sg.length 1, upI sg.length) := by unfold plainW; rw [h]; rfl
def AnsPw (w : World) (d : Dat sWeights) (e : Ending) (w' : World) : Prop := ∃ A0 n0 c0 A1 n1 c1, e = .returned (.agg #[.int .i64 d.1, .slice A0 n0 c0, .slice A1 n1 c1]) ∧ Owned w' w.heap.size w'.heap.size sWeights [.int .i64 d.1, .slice A0 n0 c0, .slice A1 n1 c1] d ∧ Below w.heap.size w w'
theorem size_w : (Try.prog.info? 32).map (·.size) = some 3 := by kernel_rfl
theorem up_snoc (k : Nat) : upI (k + 1) = upI k ++ [(k : Int)] := by unfold upI; rw [List.range_succ, List.map_append]; rfl
theorem rep_snoc (k : Nat) : List.replicate (k + 1) (1 : Int) = List.replicate k 1 ++ [1] := by rw [List.replicate_succ']
structure Py (w wr : World) (P : Nat) (A : Option Addr) (n c : Nat) (S : Option Addr) (n1 c1 : Nat) (x1 : List Int) (R : Option Addr) (n2 c2 : Nat) (x2 : List Int) : Prop where
 rs : Row wr w.heap.size 29 #[.slice A n c]
 rz : Row wr (w.heap.size + 1) 32 #[.int .i64 0, .slice none 0 0, .slice none 0 0]
 rw : Row wr P 32 #[.int .i64 1, .slice S n1 c1, .slice R n2 c2]
 o1 : Own wr (P + 1) (.slice S n1 c1) x1
 o2 : Own wr (P + 1) (.slice R n2 c2) x2
 dj : blk S = none ∨ blk S ≠ blk R
 b : Below w.heap.size w wr
 hP : w.heap.size + 1 < P
section
variable {w wr w' : World} {P : Nat} {A : Option Addr} {n c : Nat} {S : Option Addr} {n1 c1 : Nat} {x1 : List Int} {R : Option Addr} {n2 c2 : Nat} {x2 : List Int}
theorem Py.lt (y : Py w wr P A n c S n1 c1 x1 R n2 c2 x2) : P < wr.heap.size := y.rw.lt
theorem Py.over (y : Py w wr P A n c S n1 c1 x1 R n2 c2 x2) {o : Obj} {r : Option Nat} (hg : (wr.alloc o).grownBy w' r) (hr : ∀ j, r = some j → P + 1 ≤ j) : Below (P + 1) wr w' :=
 ((Below.refl (P + 1) wr).alloc y.lt _).grown hg (by have := y.lt; simp; omega) hr
theorem Py.app1 (y : Py w wr P A n c S n1 c1 x1 R n2 c2 x2) {o : Obj} {S' : Option Addr} {n1' c1' : Nat} {zs : List Int} (ho : Own w' (P + 1) (.slice S' n1' c1') zs) (hg : (wr.alloc o).grownBy w' (blk S)) (hb : blk S' = blk S ∨ blk S' = some (wr.alloc o).heap.size) :
  Py w (w'.setCell ⟨P, 1, none⟩ (.slice S' n1' c1')) P A n c S' n1' c1' zs R n2 c2 x2 ∧ w'.cell? ⟨P, 1, none⟩ = some (.slice S n1 c1) ∧ w'.frozen? ⟨P, 1, none⟩ = false := by
 have hov := y.over hg (fun j hj => (own_lt y.o1 j hj).1)
 have hP := y.hP
 have rw' : Row w' P 32 #[.int .i64 1, .slice S n1 c1, .slice R n2 c2] := y.rw.below hov (by omega)
 refine ⟨⟨((y.rs.below hov (by omega)).far (by show ¬ _ = P; omega) _), ((y.rz.below hov (by omega)).far (by show ¬ _ = P; omega) _), rw'.put 1 _, Own.far ho (grown_put (World.grownBy.refl _ _) _ _) (fun j hj => by injection hj; omega), Own.far (Own.kept (Own.alloc y.o2 _) hg ?_) (grown_put (World.grownBy.refl _ _) _ _) (fun j hj => by injection hj; omega), ?_, (y.b.trans (hov.mono (by omega))).setCell (by show _ ≤ P; omega) _, hP⟩, rw'.cell 1, rw'.free 1⟩
 ·cases h2 : blk R with
  | none => exact .inl rfl
  | some z =>
   refine .inr (fun e => ?_)
   rcases y.dj with h | h
   ·rw [h] at e; cases e
   ·exact h (by rw [← e, h2])
 ·rcases hb with e | e
  ·rw [e]; exact y.dj
  ·refine .inr (fun h => ?_)
   rw [e] at h
   have := (own_lt y.o2 _ h.symm).2
   simp at this
   omega
theorem Py.app2 (y : Py w wr P A n c S n1 c1 x1 R n2 c2 x2) {o : Obj} {R' : Option Addr} {n2' c2' : Nat} {zs : List Int} (ho : Own w' (P + 1) (.slice R' n2' c2') zs) (hg : (wr.alloc o).grownBy w' (blk R)) (hb : blk R' = blk R ∨ blk R' = some (wr.alloc o).heap.size) :
  Py w (w'.setCell ⟨P, 2, none⟩ (.slice R' n2' c2')) P A n c S n1 c1 x1 R' n2' c2' zs ∧ w'.cell? ⟨P, 2, none⟩ = some (.slice R n2 c2) ∧ w'.frozen? ⟨P, 2, none⟩ = false := by
 have hov := y.over hg (fun j hj => (own_lt y.o2 j hj).1)
 have hP := y.hP
 have rw' : Row w' P 32 #[.int .i64 1, .slice S n1 c1, .slice R n2 c2] := y.rw.below hov (by omega)
 refine ⟨⟨((y.rs.below hov (by omega)).far (by show ¬ _ = P; omega) _), ((y.rz.below hov (by omega)).far (by show ¬ _ = P; omega) _), rw'.put 2 _, Own.far (Own.kept (Own.alloc y.o1 _) hg y.dj) (grown_put (World.grownBy.refl _ _) _ _) (fun j hj => by injection hj; omega), Own.far ho (grown_put (World.grownBy.refl _ _) _ _) (fun j hj => by injection hj; omega), ?_, (y.b.trans (hov.mono (by omega))).setCell (by show _ ≤ P; omega) _, hP⟩, rw'.cell 2, rw'.free 2⟩
 rcases hb with e | e
 ·rw [e]; exact y.dj
 ·refine .inr (fun h => ?_)
  rw [e] at h
  have := (own_lt y.o1 _ h).2
  simp at this
  omega
theorem low_own {w : World} {base : Nat} {v : Value} {xs : List Int} (h : Own w base v xs) : Own w 0 v xs := by
 rcases h.form with ⟨rfl, rfl⟩ | h'
 ·exact Own.nil w 0
 ·exact World.ownsRow.mono h (Nat.zero_le _)
theorem ow_num (w : World) (x : Int) : Ow w .num [.int .i64 x] x [] := ⟨rfl, rfl⟩
theorem blk_cases (A : Option Addr) : blk A = none ∨ ∃ g, blk A = some g := by cases A <;> simp [blk]
theorem Py.ans (y : Py w wr P A n c S n1 c1 x1 R n2 c2 x2) (d : Dat sWeights) (hd : d = (1, x1, x2)) : AnsPw w d (.returned (.agg #[.int .i64 1, .slice S n1 c1, .slice R n2 c2])) (wr.setRow (w.heap.size + 1) #[.int .i64 1, .slice S n1 c1, .slice R n2 c2]) := by
 have hP := y.hP
 have hg := grown_setRow wr (w.heap.size + 1) #[.int .i64 1, .slice S n1 c1, .slice R n2 c2]
 have o1 : Own (wr.setRow (w.heap.size + 1) #[.int .i64 1, .slice S n1 c1, .slice R n2 c2]) (P + 1) (.slice S n1 c1) x1 := Own.far y.o1 hg (fun j hj => by injection hj; omega)
 have o2 : Own (wr.setRow (w.heap.size + 1) #[.int .i64 1, .slice S n1 c1, .slice R n2 c2]) (P + 1) (.slice R n2 c2) x2 := Own.far y.o2 hg (fun j hj => by injection hj; omega)
 subst hd
 refine ⟨S, n1, c1, R, n2, c2, rfl, ?_, below_setRow y.b (by omega) y.b.size⟩
 rcases blk_cases S with e1 | ⟨g1, e1⟩ <;> rcases blk_cases R with e2 | ⟨g2, e2⟩
 ·exact ⟨[] ++ ([] ++ []), Ow.join (ow_num _ _) (Ow.join (ow_of (low_own o1) (.inl ⟨e1, rfl⟩)) (ow_of (low_own o2) (.inl ⟨e2, rfl⟩))), by simp, by simp⟩
 ·have h2 := own_lt o2 g2 e2
  exact ⟨[] ++ ([] ++ [g2]), Ow.join (ow_num _ _) (Ow.join (ow_of (low_own o1) (.inl ⟨e1, rfl⟩)) (ow_of (low_own o2) (.inr ⟨g2, e2, rfl⟩))), by simp, fun k hk => by rw [show k = g2 from by simpa using hk]; exact ⟨by omega, h2.2⟩⟩
 ·have h1 := own_lt o1 g1 e1
  exact ⟨[] ++ ([g1] ++ []), Ow.join (ow_num _ _) (Ow.join (ow_of (low_own o1) (.inr ⟨g1, e1, rfl⟩)) (ow_of (low_own o2) (.inl ⟨e2, rfl⟩))), by simp, fun k hk => by rw [show k = g1 from by simpa using hk]; exact ⟨by omega, h1.2⟩⟩
 ·have h1 := own_lt o1 g1 e1
  have h2 := own_lt o2 g2 e2
  have hne : g1 ≠ g2 := by
   rcases y.dj with h | h
   ·rw [h] at e1; cases e1
   ·intro e; apply h; rw [e1, e2, e]
  refine ⟨[] ++ ([g1] ++ [g2]), Ow.join (ow_num _ _) (Ow.join (ow_of (low_own o1) (.inr ⟨g1, e1, rfl⟩)) (ow_of (low_own o2) (.inr ⟨g2, e2, rfl⟩))), by simp [hne], fun k hk => ?_⟩
  simp at hk
  rcases hk with rfl | rfl
  ·exact ⟨by omega, h1.2⟩
  ·exact ⟨by omega, h2.2⟩
end
def HeadPl (w : World) (P : Nat) (A : Option Addr) (n c : Nat) (i : Value) (wr : World) : Prop := ∃ (k : Nat) (S : Option Addr) (c1 : Nat) (R : Option Addr) (c2 : Nat), k ≤ n ∧ i = .int .i64 k ∧ Py w wr P A n c S k c1 (List.replicate k 1) R k c2 (upI k)
theorem pz (w : World) {wr : World} (B : Below w.heap.size w wr) (r : Row wr (w.heap.size + 1) 32 #[.int .i64 0, .slice none 0 0, .slice none 0 0]) : AnsPw w (0, [], []) (.returned (.agg #[.int .i64 0, .slice none 0 0, .slice none 0 0])) (wr.setRow (w.heap.size + 1) #[.int .i64 0, .slice none 0 0, .slice none 0 0]) :=
 ⟨none, 0, 0, none, 0, 0, rfl, ⟨[] ++ ([] ++ []), Ow.join (ow_num _ _) (Ow.join (ow_of (Own.nil _ 0) (.inl ⟨rfl, rfl⟩)) (ow_of (Own.nil _ 0) (.inl ⟨rfl, rfl⟩))), by simp, by simp⟩, below_setRow B (by omega) B.size⟩
set_option maxHeartbeats 4000000 in
theorem specPlainWeights (A : Option Addr) (n c : Nat) (sg : List Int) (w : World) (hA : Seg w w.heap.size A n sg) (hn : n ≤ 1048576) :
  Calls Try.prog 52 #[.agg #[.slice A n c]] w (AnsPw w (plainW sg)) := by
 obtain ⟨W, hW, rA, rR, bel⟩ := box2 w 29 32 #[.slice A n c] #[.int .i64 0, .slice none 0 0, .slice none 0 0]
 have HW := hid hW
 have HL := hid hA.1
 have k0 : W.cell? ⟨w.heap.size, 0, none⟩ = some (.slice A n c) := rA.cell 0
 rw [hW] at k0
 have L1 := hid (specSigOk A n c sg W (hA.next bel) hn)
 clear hW hA
 cases hb : sigOkB sg with
 | false =>
  have HB := hid hb
  clear hb
  go_enter Try.func52, Try.ntmps52
  go_wp2_with fail
  rw [← HW.out]
  clear k0
  refine L1.out.mono ?_
  rintro e w1 ⟨he, bb⟩
  rw [HB.out] at he
  subst he
  replace rA := rA.next bb
  replace rR := rR.next bb
  replace bel := next_trans bel bb
  clear bb L1
  have F := hid (show AnsPw w (plainW sg) (.returned (.agg #[.int .i64 0, .slice none 0 0, .slice none 0 0])) (w1.setRow (w.heap.size + 1) #[.int .i64 0, .slice none 0 0, .slice none 0 0]) from by rw [plain_no HB.out]; exact pz w bel rR)
  have hz := rR
  have h3 := Row.setRow rR #[.int .i64 0, .slice none 0 0, .slice none 0 0]
  unfold Row at hz
  have HZ := hid hz
  have H3 := hid h3
  clear hz h3 rA rR bel
  go_wp2_with (first
   | (refine rowStore rfl 32 _ _ rfl (w.heap.size + 1) #[.int .i64 0, .slice none 0 0, .slice none 0 0] #[.int .i64 0, .slice none 0 0, .slice none 0 0] 32 rfl rfl HZ.out size_w rfl (by simp [Value.oneCell']) ?_))
  (try simp only [Exit.inBlock, Exit.then])
  have u0 := Row.cell H3.out 0
  have u1 := Row.cell H3.out 1
  have u2 := Row.cell H3.out 2
  simp at u0 u1 u2
  exact bodyPost_ret (v := .agg #[.int .i64 0, .slice none 0 0, .slice none 0 0]) (by simp [results, Try.results52, go_sem, u0, u1, u2]) rfl F.out
 | true =>
  have HB := hid hb
  clear hb
  go_enter Try.func52, Try.ntmps52
  go_wp2_with fail
  rw [← HW.out]
  clear k0
  refine L1.out.mono ?_
  rintro e w1 ⟨he, bb⟩
  rw [HB.out] at he
  subst he
  replace rA := rA.next bb
  replace rR := rR.next bb
  replace bel := next_trans bel bb
  clear bb L1
  have hn8 : n ≤ 8 := by
   have h8 := HB.out
   unfold sigOkB at h8
   rw [Bool.and_eq_true, decide_eq_true_iff] at h8
   have := HL.out
   omega
  obtain ⟨w2, hw2, rw2, bb⟩ := box_one w1 32 #[.int .i64 1, .slice none 0 0, .slice none 0 0]
  have H2 := hid hw2
  have zP := rR.lt
  have Y0 := hid (show Py w w2 w1.heap.size A n c none 0 0 [] none 0 0 [] from ⟨rA.next bb, rR.next bb, rw2, Own.nil _ _, Own.nil _ _, .inl rfl, next_trans bel bb, zP⟩)
  have k0 : w2.cell? ⟨w.heap.size, 0, none⟩ = some (.slice A n c) := Y0.out.rs.cell 0
  have H0 := hid (show HeadPl w w1.heap.size A n c (.int .i64 0) w2 from ⟨0, none, 0, none, 0, Nat.zero_le _, rfl, Y0.out⟩)
  clear hw2 bb rA rR rw2 bel Y0
  go_wp2_with (first
   | (refine rowStore rfl 32 _ _ rfl w1.heap.size #[.int .i64 1, .slice none 0 0, .slice none 0 0] #[.int .i64 0, .slice none 0 0, .slice none 0 0] 32 rfl rfl (heap_alloc_new w1 _) size_w rfl (by simp [Value.oneCell']) ?_; rw [World.setRow_alloc_new]; rw [← H2.out]; refine (?_ : Hid _).out))
  refine hid ?_
  clear H2
  go_wp2
  go_loopw [4] (fun i wr => HeadPl w w1.heap.size A n c i wr) (fun i _ => n - (intOf i).toNat)
  case atStart => exact H0.out
  case round =>
   clear H0 k0
   obtain ⟨k, S, c1, R, c2, hk, rfl, y⟩ := hrel
   have k0 : wr.cell? ⟨w.heap.size, 0, none⟩ = some (.slice A n c) := y.rs.cell 0
   have k1 : wr.cell? ⟨w1.heap.size, 1, none⟩ = some (.slice S k c1) := y.rw.cell 1
   by_cases hlt : k < n
   case neg =>
    have k2 : wr.cell? ⟨w1.heap.size, 2, none⟩ = some (.slice R k c2) := y.rw.cell 2
    have k3 : wr.cell? ⟨w1.heap.size, 0, none⟩ = some (.int .i64 1) := y.rw.cell 0
    have F := hid (show AnsPw w (plainW sg) (.returned (.agg #[.int .i64 1, .slice S k c1, .slice R k c2])) (wr.setRow (w.heap.size + 1) #[.int .i64 1, .slice S k c1, .slice R k c2]) from y.ans _ (by rw [plain_yes HB.out, HL.out, show n = k by omega]))
    have hz := y.rz
    have h3 := Row.setRow y.rz #[.int .i64 1, .slice S k c1, .slice R k c2]
    unfold Row at hz
    have HZ := hid hz
    have H3 := hid h3
    clear hz h3 y
    go_wp2_with (first
     | (refine rowStore rfl 32 _ _ rfl (w.heap.size + 1) #[.int .i64 1, .slice S k c1, .slice R k c2] #[.int .i64 0, .slice none 0 0, .slice none 0 0] 32 rfl rfl HZ.out size_w rfl (by simp [Value.oneCell']) ?_))
    (try simp only [Exit.inBlock, Exit.then])
    have u0 := Row.cell H3.out 0
    have u1 := Row.cell H3.out 1
    have u2 := Row.cell H3.out 2
    simp at u0 u1 u2
    exact bodyPost_ret (v := .agg #[.int .i64 1, .slice S k c1, .slice R k c2]) (by simp [results, Try.results52, go_sem, u0, u1, u2]) rfl F.out
   have hbw : w1.heap.size + 1 ≤ wr.heap.size := y.lt
   go_wp2_with (at_builtin; refine app1At rfl _ _ rfl (w1.heap.size + 1) S k c1 (List.replicate k 1) rfl (Own.alloc y.o1 _) wr.heap.size 1 1 rfl ((Row.new _ _ _).cell 0) (by omega) (by simp; omega) ?_; intro S' c1' w3 ho3 hg3 hb3; obtain ⟨y3, m0, m1⟩ := y.app1 ho3 hg3 hb3; have m2 : (w3.setCell ⟨w1.heap.size, 1, none⟩ (.slice S' (k + 1) c1')).cell? ⟨w1.heap.size, 2, none⟩ = some (.slice R k c2) := y3.rw.cell 2; clear ho3 hg3 hb3 y; refine (?_ : Hid _).out)
   refine hid ?_
   have hbx : w1.heap.size + 1 ≤ (w3.setCell ⟨w1.heap.size, 1, none⟩ (.slice S' (k + 1) c1')).heap.size := y3.lt
   have hsz : (w3.setCell ⟨w1.heap.size, 1, none⟩ (.slice S' (k + 1) c1')).heap.size = w3.heap.size := by simp
   go_wp2_with (at_builtin; refine app1At rfl _ _ rfl (w1.heap.size + 1) R k c2 (upI k) rfl (Own.alloc y3.o2 _) _ 1 (k : Int) rfl (by rw [← hsz]; exact (Row.new _ _ _).cell 0) (by omega) (by simp at hbx ⊢; omega) ?_; intro R' c2' w4 ho4 hg4 hb4; obtain ⟨y4, n0, n1⟩ := y3.app2 ho4 hg4 hb4; clear ho4 hg4 hb4 y3 m0 m1 m2 hsz hbx)
   have S1 := hid (show HeadPl w w1.heap.size A n c (.int .i64 ((k : Int) + 1)) (w4.setCell ⟨w1.heap.size, 2, none⟩ (.slice R' (k + 1) c2')) from ⟨k + 1, S', c1', R', c2', hlt, by simp, by rw [rep_snoc, up_snoc]; exact y4⟩)
   clear y4
   go_wp2
   go_roundw
   case rel => exact S1.out
   case measure => simp [intOf]; omega
set_option maxHeartbeats 4000000 in
theorem implPlainWeights (A : Option Addr) (n c : Nat) (sg : List Int) (w : World) (hA : Seg w w.heap.size A n sg) (hn : n ≤ 1048576) :
  Calls Try.prog 30 #[.agg #[.slice A n c]] w (AnsPw w (plainW sg)) := by
 obtain ⟨W, hW, rA, rR, bel⟩ := box2 w 29 32 #[.slice A n c] #[.int .i64 0, .slice none 0 0, .slice none 0 0]
 have HW := hid hW
 have HL := hid hA.1
 have k0 : W.cell? ⟨w.heap.size, 0, none⟩ = some (.slice A n c) := rA.cell 0
 rw [hW] at k0
 have L1 := hid (implSigOk A n c sg W (hA.next bel) hn)
 clear hW hA
 cases hb : sigOkB sg with
 | false =>
  have HB := hid hb
  clear hb
  go_enter Try.func30, Try.ntmps30
  go_wp2_with fail
  rw [← HW.out]
  clear k0
  refine L1.out.mono ?_
  rintro e w1 ⟨he, bb⟩
  rw [HB.out] at he
  subst he
  replace rA := rA.next bb
  replace rR := rR.next bb
  replace bel := next_trans bel bb
  clear bb L1
  have F := hid (show AnsPw w (plainW sg) (.returned (.agg #[.int .i64 0, .slice none 0 0, .slice none 0 0])) (w1.setRow (w.heap.size + 1) #[.int .i64 0, .slice none 0 0, .slice none 0 0]) from by rw [plain_no HB.out]; exact pz w bel rR)
  have hz := rR
  have h3 := Row.setRow rR #[.int .i64 0, .slice none 0 0, .slice none 0 0]
  unfold Row at hz
  have HZ := hid hz
  have H3 := hid h3
  clear hz h3 rA rR bel
  go_wp2_with (first
   | (refine rowStore rfl 32 _ _ rfl (w.heap.size + 1) #[.int .i64 0, .slice none 0 0, .slice none 0 0] #[.int .i64 0, .slice none 0 0, .slice none 0 0] 32 rfl rfl HZ.out size_w rfl (by simp [Value.oneCell']) ?_))
  (try simp only [Exit.inBlock, Exit.then])
  have u0 := Row.cell H3.out 0
  have u1 := Row.cell H3.out 1
  have u2 := Row.cell H3.out 2
  simp at u0 u1 u2
  exact bodyPost_ret (v := .agg #[.int .i64 0, .slice none 0 0, .slice none 0 0]) (by simp [results, Try.results30, go_sem, u0, u1, u2]) rfl F.out
 | true =>
  have HB := hid hb
  clear hb
  go_enter Try.func30, Try.ntmps30
  go_wp2_with fail
  rw [← HW.out]
  clear k0
  refine L1.out.mono ?_
  rintro e w1 ⟨he, bb⟩
  rw [HB.out] at he
  subst he
  replace rA := rA.next bb
  replace rR := rR.next bb
  replace bel := next_trans bel bb
  clear bb L1
  have hn8 : n ≤ 8 := by
   have h8 := HB.out
   unfold sigOkB at h8
   rw [Bool.and_eq_true, decide_eq_true_iff] at h8
   have := HL.out
   omega
  obtain ⟨w2, hw2, rw2, bb⟩ := box_one w1 32 #[.int .i64 1, .slice none 0 0, .slice none 0 0]
  have H2 := hid hw2
  have zP := rR.lt
  have Y0 := hid (show Py w w2 w1.heap.size A n c none 0 0 [] none 0 0 [] from ⟨rA.next bb, rR.next bb, rw2, Own.nil _ _, Own.nil _ _, .inl rfl, next_trans bel bb, zP⟩)
  have k0 : w2.cell? ⟨w.heap.size, 0, none⟩ = some (.slice A n c) := Y0.out.rs.cell 0
  have H0 := hid (show HeadPl w w1.heap.size A n c (.int .i64 0) w2 from ⟨0, none, 0, none, 0, Nat.zero_le _, rfl, Y0.out⟩)
  clear hw2 bb rA rR rw2 bel Y0
  go_wp2_with (first
   | (refine rowStore rfl 32 _ _ rfl w1.heap.size #[.int .i64 1, .slice none 0 0, .slice none 0 0] #[.int .i64 0, .slice none 0 0, .slice none 0 0] 32 rfl rfl (heap_alloc_new w1 _) size_w rfl (by simp [Value.oneCell']) ?_; rw [World.setRow_alloc_new]; rw [← H2.out]; refine (?_ : Hid _).out))
  refine hid ?_
  clear H2
  go_wp2
  go_loopw [13] (fun i wr => HeadPl w w1.heap.size A n c i wr) (fun i _ => n - (intOf i).toNat)
  case atStart => exact H0.out
  case round =>
   clear H0 k0
   obtain ⟨k, S, c1, R, c2, hk, rfl, y⟩ := hrel
   have k0 : wr.cell? ⟨w.heap.size, 0, none⟩ = some (.slice A n c) := y.rs.cell 0
   have k1 : wr.cell? ⟨w1.heap.size, 1, none⟩ = some (.slice S k c1) := y.rw.cell 1
   by_cases hlt : k < n
   case neg =>
    have k2 : wr.cell? ⟨w1.heap.size, 2, none⟩ = some (.slice R k c2) := y.rw.cell 2
    have k3 : wr.cell? ⟨w1.heap.size, 0, none⟩ = some (.int .i64 1) := y.rw.cell 0
    have F := hid (show AnsPw w (plainW sg) (.returned (.agg #[.int .i64 1, .slice S k c1, .slice R k c2])) (wr.setRow (w.heap.size + 1) #[.int .i64 1, .slice S k c1, .slice R k c2]) from y.ans _ (by rw [plain_yes HB.out, HL.out, show n = k by omega]))
    have hz := y.rz
    have h3 := Row.setRow y.rz #[.int .i64 1, .slice S k c1, .slice R k c2]
    unfold Row at hz
    have HZ := hid hz
    have H3 := hid h3
    clear hz h3 y
    go_wp2_with (first
     | (refine rowStore rfl 32 _ _ rfl (w.heap.size + 1) #[.int .i64 1, .slice S k c1, .slice R k c2] #[.int .i64 0, .slice none 0 0, .slice none 0 0] 32 rfl rfl HZ.out size_w rfl (by simp [Value.oneCell']) ?_))
    (try simp only [Exit.inBlock, Exit.then])
    have u0 := Row.cell H3.out 0
    have u1 := Row.cell H3.out 1
    have u2 := Row.cell H3.out 2
    simp at u0 u1 u2
    exact bodyPost_ret (v := .agg #[.int .i64 1, .slice S k c1, .slice R k c2]) (by simp [results, Try.results30, go_sem, u0, u1, u2]) rfl F.out
   have hbw : w1.heap.size + 1 ≤ wr.heap.size := y.lt
   go_wp2_with (at_builtin; refine app1At rfl _ _ rfl (w1.heap.size + 1) S k c1 (List.replicate k 1) rfl (Own.alloc y.o1 _) wr.heap.size 1 1 rfl ((Row.new _ _ _).cell 0) (by omega) (by simp; omega) ?_; intro S' c1' w3 ho3 hg3 hb3; obtain ⟨y3, m0, m1⟩ := y.app1 ho3 hg3 hb3; have m2 : (w3.setCell ⟨w1.heap.size, 1, none⟩ (.slice S' (k + 1) c1')).cell? ⟨w1.heap.size, 2, none⟩ = some (.slice R k c2) := y3.rw.cell 2; clear ho3 hg3 hb3 y; refine (?_ : Hid _).out)
   refine hid ?_
   have hbx : w1.heap.size + 1 ≤ (w3.setCell ⟨w1.heap.size, 1, none⟩ (.slice S' (k + 1) c1')).heap.size := y3.lt
   have hsz : (w3.setCell ⟨w1.heap.size, 1, none⟩ (.slice S' (k + 1) c1')).heap.size = w3.heap.size := by simp
   go_wp2_with (at_builtin; refine app1At rfl _ _ rfl (w1.heap.size + 1) R k c2 (upI k) rfl (Own.alloc y3.o2 _) _ 1 (k : Int) rfl (by rw [← hsz]; exact (Row.new _ _ _).cell 0) (by omega) (by simp at hbx ⊢; omega) ?_; intro R' c2' w4 ho4 hg4 hb4; obtain ⟨y4, n0, n1⟩ := y3.app2 ho4 hg4 hb4; clear ho4 hg4 hb4 y3 m0 m1 m2 hsz hbx)
   have S1 := hid (show HeadPl w w1.heap.size A n c (.int .i64 ((k : Int) + 1)) (w4.setCell ⟨w1.heap.size, 2, none⟩ (.slice R' (k + 1) c2')) from ⟨k + 1, S', c1', R', c2', hlt, by simp, by rw [rep_snoc, up_snoc]; exact y4⟩)
   clear y4
   go_wp2
   go_roundw
   case rel => exact S1.out
   case measure => simp [intOf]; omega
end kboPlain
end
section
namespace kboXB
open Go.RowKit base ints sig term termOk marks sym segs kinds shape kindsR kindsK kboLink rankMath kboWt kboLight kboPlain kboX
set_option maxRecDepth 100000
theorem specPlainWeightsX (a : Value) (d0 : Dat sSig) (w : World) (h0 : Rd w w.heap.size sSig [a] d0) (z0 : sz sSig d0 ≤ 1048576) :
  Calls Try.prog 52 #[.agg #[a]] w (AnsPw w (plainW d0)) := by
 obtain ⟨A, n, c, rfl, hA, hn, -⟩ := rd_s h0 z0
 exact specPlainWeights A n c d0 w hA hn
theorem implPlainWeightsX (a : Value) (d0 : Dat sSig) (w : World) (h0 : Rd w w.heap.size sSig [a] d0) (z0 : sz sSig d0 ≤ 1048576) :
  Calls Try.prog 30 #[.agg #[a]] w (AnsPw w (plainW d0)) := by
 obtain ⟨A, n, c, rfl, hA, hn, -⟩ := rd_s h0 z0
 exact implPlainWeights A n c d0 w hA hn
theorem plain_sz {d : Dat sSig} : sz sWeights (plainW d) ≤ 1048576 := by
 unfold plainW
 split
 ·rename_i h
  unfold sigOkB at h
  rw [Bool.and_eq_true, decide_eq_true_iff] at h
  have l1 := sz_ints (List.replicate (List.length (d : List Int)) 1)
  have l2 := sz_ints (upI (List.length (d : List Int)))
  rw [List.length_replicate] at l1
  rw [up_len] at l2
  have h8 : List.length (d : List Int) ≤ 8 := h.1.2
  show sz .num (1 : Int) + (sz sI (List.replicate (List.length (d : List Int)) 1) + sz sI (upI (List.length (d : List Int)))) ≤ 1048576
  have l0 : sz .num (1 : Int) ≤ 1 := by simp [sz]
  omega
 ·show sz .num (0 : Int) + (sz sI ([] : List Int) + sz sI ([] : List Int)) ≤ 1048576
  have l1 := sz_ints []
  have l0 : sz .num (0 : Int) ≤ 1 := by simp [sz]
  simp at l1
  omega
end kboXB
end
section
open Go.Lib (hid)
namespace wPlainWeights
open Go.RowKit base ints sig cursor marks app sym appAt segs segsHelp segsMark kinds shape varsOf kindsR kindsK kboLink kboLight kboPlain kboX kboXB
set_option maxRecDepth 100000
set_option maxHeartbeats 8000000 in
theorem law (v0_0 : Value) (d0 : Dat sSig) (w : World) (s0 : Rd w w.heap.size sSig [v0_0] d0) :
  Calls Try.prog 13 #[.agg #[v0_0]] w (Fine w) := by
 obtain ⟨W, hW⟩ : ∃ W, W = w.alloc (.cells #[v0_0] 58) := ⟨_, rfl⟩
 have rA0 : Row W (w.heap.size) 58 #[v0_0] := by rw [hW]; have := Row.new (w) 58 #[v0_0]; simpa using this
 have bW : Below w.heap.size w W := by rw [hW]; exact (Below.refl w.heap.size w).alloc (by simp) (.cells #[v0_0] 58)
 have zA0 := rA0.lt
 replace s0 := s0.next bW
 have HW := hid hW
 clear hW
 obtain ⟨t0, ht0⟩ : ∃ z, sz sSig d0 = z := ⟨_, rfl⟩
 have HT0 := hid ht0
 clear ht0
 go_enter Try.func13, Try.ntmps13
 go_wp2_with fail
 rw [← HW.out]
 clear HW
 have bel := Below.refl W.heap.size W
 have cA0_0 : W.cell? ⟨w.heap.size, 0, none⟩ = some (v0_0) := (rA0.next bel).cell 0
 refine (szK_Sig _ d0 (1048576) _ (s0.next bel) (by omega) (by omega)).mono ?_
 rintro e w1 ⟨he, bb⟩
 rw [HT0.out] at he
 replace bel := next_trans bel bb
 have zw1 := bb.size
 clear bb
 by_cases q0 : t0 ≤ 1048576
 case neg =>
  rw [if_pos (by omega)] at he
  subst he
  have F := hid (bW.trans (bel.mono bW.size))
  clear bel bW cA0_0
  go_wp2
  go_ret
  exact ⟨rfl, F.out⟩
 rw [if_neg (by omega)] at he
 subst he
 have h0 : Hid (sz sSig d0 ≤ 1048576) := hid (by rw [HT0.out]; omega)
 clear cA0_0
 have cA0_0 : w1.cell? ⟨w.heap.size, 0, none⟩ = some (v0_0) := (rA0.next bel).cell 0
 have hlen : sz sWeights (plainW d0) ≤ 1048576 := plain_sz
 obtain ⟨ys, hys⟩ : ∃ ys, plainW d0 = ys := ⟨_, rfl⟩
 rw [hys] at hlen
 have HY := hid hys
 clear hys
 replace hlen := hid hlen
 obtain ⟨cg, hcg⟩ : ∃ z, cntv sWeights ys = z := ⟨_, rfl⟩
 have hcG : cg ≤ 3 * 1048576 := by have j1 := cntv_le sWeights ys; have j2 := hlen.out; have j3 : wd sWeights = 3 := rfl; rw [hcg, j3] at j1; omega
 have HCG := hid hcg
 clear hcg
 obtain ⟨k0, hk0⟩ : ∃ z, cntv sSig d0 = z := ⟨_, rfl⟩
 have hK0 : k0 ≤ 1 * 1048576 := by have j1 := cntv_le sSig d0; have j2 := h0.out; have j3 : wd sSig = 1 := rfl; rw [hk0, j3] at j1; omega
 have HK0 := hid hk0
 clear hk0
 go_wp2_with fail
 refine (toK_Sig _ d0 _ (s0.next bel) h0.out).mono ?_
 rintro e w2 ⟨p0A0, p0n0, p0c0, rfl, op0, bb⟩
 replace bel := next_trans bel bb
 have zw2 := bb.size
 clear bb
 clear cA0_0
 have cA0_0 : w2.cell? ⟨w.heap.size, 0, none⟩ = some (v0_0) := (rA0.next bel).cell 0
 go_wp2_with fail
 refine (specPlainWeightsX _ d0 _ op0.rd h0.out).mono ?_
 rintro e w3 ⟨wA0, wn0, wc0, wA1, wn1, wc1, he, o0, bb⟩
 rw [HY.out] at o0 he
 subst he
 replace op0 := op0.next bb
 replace bel := next_trans bel bb
 have zw3 := bb.size
 clear bb
 have sw := o0.rd
 clear o0
 clear op0
 clear cA0_0
 have cA0_0 : w3.cell? ⟨w.heap.size, 0, none⟩ = some (v0_0) := (rA0.next bel).cell 0
 have dA0_0 : (w3.alloc (.cells #[.int .i64 ys.1, .slice wA0 wn0 wc0, .slice wA1 wn1 wc1] 32)).cell? ⟨w.heap.size, 0, none⟩ = some (v0_0) := ((rA0.next bel).alloc _).cell 0
 go_wp2_with fail
 obtain ⟨w4, hw⟩ : ∃ W, W = w3.alloc (.cells #[.int .i64 ys.1, .slice wA0 wn0 wc0, .slice wA1 wn1 wc1] 32) := ⟨_, rfl⟩
 rw [← hw]
 have rw : Row w4 w3.heap.size 32 #[.int .i64 ys.1, .slice wA0 wn0 wc0, .slice wA1 wn1 wc1] := by rw [hw]; exact Row.new _ _ _
 have bb : Below w3.heap.size w3 w4 := by rw [hw]; exact (Below.refl _ _).alloc (Nat.le_refl _) _
 have yrw : w3.heap.size < w4.heap.size := by rw [hw]; simp
 clear hw
 replace sw := sw.next bb
 replace bel := next_trans bel bb
 have zw4 := bb.size
 clear bb
 clear dA0_0
 have belw := Below.refl w4.heap.size w4
 clear cA0_0
 have cA0_0 : w4.cell? ⟨w.heap.size, 0, none⟩ = some (v0_0) := (rA0.next bel).cell 0
 have cw_0 : w4.cell? ⟨w3.heap.size, 0, none⟩ = some (.int .i64 ys.1) := (rw.next belw).cell 0
 have cw_1 : w4.cell? ⟨w3.heap.size, 1, none⟩ = some (.slice wA0 wn0 wc0) := (rw.next belw).cell 1
 have cw_2 : w4.cell? ⟨w3.heap.size, 2, none⟩ = some (.slice wA1 wn1 wc1) := (rw.next belw).cell 2
 refine (toK_Sig _ d0 _ (s0.next bel) h0.out).mono ?_
 rintro e w5 ⟨x0A0, x0n0, x0c0, rfl, ox0, bb⟩
 replace bel := next_trans bel bb
 replace belw := next_trans belw bb
 have zw5 := bb.size
 clear bb
 clear cA0_0 cw_0 cw_1 cw_2
 have cA0_0 : w5.cell? ⟨w.heap.size, 0, none⟩ = some (v0_0) := (rA0.next bel).cell 0
 have cw_0 : w5.cell? ⟨w3.heap.size, 0, none⟩ = some (.int .i64 ys.1) := (rw.next belw).cell 0
 have cw_1 : w5.cell? ⟨w3.heap.size, 1, none⟩ = some (.slice wA0 wn0 wc0) := (rw.next belw).cell 1
 have cw_2 : w5.cell? ⟨w3.heap.size, 2, none⟩ = some (.slice wA1 wn1 wc1) := (rw.next belw).cell 2
 have dA0_0 : (w5.alloc (.cells #[.slice x0A0 x0n0 x0c0] 29)).cell? ⟨w.heap.size, 0, none⟩ = some (v0_0) := ((rA0.next bel).alloc _).cell 0
 have dw_0 : (w5.alloc (.cells #[.slice x0A0 x0n0 x0c0] 29)).cell? ⟨w3.heap.size, 0, none⟩ = some (.int .i64 ys.1) := ((rw.next belw).alloc _).cell 0
 have dw_1 : (w5.alloc (.cells #[.slice x0A0 x0n0 x0c0] 29)).cell? ⟨w3.heap.size, 1, none⟩ = some (.slice wA0 wn0 wc0) := ((rw.next belw).alloc _).cell 1
 have dw_2 : (w5.alloc (.cells #[.slice x0A0 x0n0 x0c0] 29)).cell? ⟨w3.heap.size, 2, none⟩ = some (.slice wA1 wn1 wc1) := ((rw.next belw).alloc _).cell 2
 go_wp2_with fail
 obtain ⟨w6, hw⟩ : ∃ W, W = w5.alloc (.cells #[.slice x0A0 x0n0 x0c0] 29) := ⟨_, rfl⟩
 rw [← hw]
 have rx0 : Row w6 w5.heap.size 29 #[.slice x0A0 x0n0 x0c0] := by rw [hw]; exact Row.new _ _ _
 have bb : Below w5.heap.size w5 w6 := by rw [hw]; exact (Below.refl _ _).alloc (Nat.le_refl _) _
 have yrx0 : w5.heap.size < w6.heap.size := by rw [hw]; simp
 clear hw
 replace ox0 := ox0.next bb
 replace bel := next_trans bel bb
 replace belw := next_trans belw bb
 have zw6 := bb.size
 clear bb
 clear dA0_0 dw_0 dw_1 dw_2
 clear cA0_0 cw_0 cw_1 cw_2
 have cA0_0 : w6.cell? ⟨w.heap.size, 0, none⟩ = some (v0_0) := (rA0.next bel).cell 0
 have cw_0 : w6.cell? ⟨w3.heap.size, 0, none⟩ = some (.int .i64 ys.1) := (rw.next belw).cell 0
 have cw_1 : w6.cell? ⟨w3.heap.size, 1, none⟩ = some (.slice wA0 wn0 wc0) := (rw.next belw).cell 1
 have cw_2 : w6.cell? ⟨w3.heap.size, 2, none⟩ = some (.slice wA1 wn1 wc1) := (rw.next belw).cell 2
 have cx0_0 : w6.cell? ⟨w5.heap.size, 0, none⟩ = some (.slice x0A0 x0n0 x0c0) := (rx0).cell 0
 refine (implPlainWeightsX _ d0 _ ox0.rd h0.out).mono ?_
 rintro e w7 ⟨gA0, gn0, gc0, gA1, gn1, gc1, he, o0, bb⟩
 rw [HY.out] at o0 he
 subst he
 replace ox0 := ox0.next bb
 replace rx0 := rx0.next bb
 replace bel := next_trans bel bb
 replace belw := next_trans belw bb
 have zw7 := bb.size
 clear bb
 have og := o0
 clear o0
 clear cA0_0 cw_0 cw_1 cw_2 cx0_0
 have cA0_0 : w7.cell? ⟨w.heap.size, 0, none⟩ = some (v0_0) := (rA0.next bel).cell 0
 have cw_0 : w7.cell? ⟨w3.heap.size, 0, none⟩ = some (.int .i64 ys.1) := (rw.next belw).cell 0
 have cw_1 : w7.cell? ⟨w3.heap.size, 1, none⟩ = some (.slice wA0 wn0 wc0) := (rw.next belw).cell 1
 have cw_2 : w7.cell? ⟨w3.heap.size, 2, none⟩ = some (.slice wA1 wn1 wc1) := (rw.next belw).cell 2
 have cx0_0 : w7.cell? ⟨w5.heap.size, 0, none⟩ = some (.slice x0A0 x0n0 x0c0) := (rx0).cell 0
 have dA0_0 : (w7.alloc (.cells #[.int .i64 ys.1, .slice gA0 gn0 gc0, .slice gA1 gn1 gc1] 32)).cell? ⟨w.heap.size, 0, none⟩ = some (v0_0) := ((rA0.next bel).alloc _).cell 0
 have dw_0 : (w7.alloc (.cells #[.int .i64 ys.1, .slice gA0 gn0 gc0, .slice gA1 gn1 gc1] 32)).cell? ⟨w3.heap.size, 0, none⟩ = some (.int .i64 ys.1) := ((rw.next belw).alloc _).cell 0
 have dw_1 : (w7.alloc (.cells #[.int .i64 ys.1, .slice gA0 gn0 gc0, .slice gA1 gn1 gc1] 32)).cell? ⟨w3.heap.size, 1, none⟩ = some (.slice wA0 wn0 wc0) := ((rw.next belw).alloc _).cell 1
 have dw_2 : (w7.alloc (.cells #[.int .i64 ys.1, .slice gA0 gn0 gc0, .slice gA1 gn1 gc1] 32)).cell? ⟨w3.heap.size, 2, none⟩ = some (.slice wA1 wn1 wc1) := ((rw.next belw).alloc _).cell 2
 have dx0_0 : (w7.alloc (.cells #[.int .i64 ys.1, .slice gA0 gn0 gc0, .slice gA1 gn1 gc1] 32)).cell? ⟨w5.heap.size, 0, none⟩ = some (.slice x0A0 x0n0 x0c0) := ((rx0).alloc _).cell 0
 go_wp2_with fail
 obtain ⟨w8, hw⟩ : ∃ W, W = w7.alloc (.cells #[.int .i64 ys.1, .slice gA0 gn0 gc0, .slice gA1 gn1 gc1] 32) := ⟨_, rfl⟩
 rw [← hw]
 have rg : Row w8 w7.heap.size 32 #[.int .i64 ys.1, .slice gA0 gn0 gc0, .slice gA1 gn1 gc1] := by rw [hw]; exact Row.new _ _ _
 have bb : Below w7.heap.size w7 w8 := by rw [hw]; exact (Below.refl _ _).alloc (Nat.le_refl _) _
 have yrg : w7.heap.size < w8.heap.size := by rw [hw]; simp
 clear hw
 replace ox0 := ox0.next bb
 replace rx0 := rx0.next bb
 replace og := og.next bb
 replace bel := next_trans bel bb
 replace belw := next_trans belw bb
 have zw8 := bb.size
 clear bb
 clear dA0_0 dw_0 dw_1 dw_2 dx0_0
 clear cA0_0 cw_0 cw_1 cw_2 cx0_0
 have cA0_0 : w8.cell? ⟨w.heap.size, 0, none⟩ = some (v0_0) := (rA0.next bel).cell 0
 have cw_0 : w8.cell? ⟨w3.heap.size, 0, none⟩ = some (.int .i64 ys.1) := (rw.next belw).cell 0
 have cw_1 : w8.cell? ⟨w3.heap.size, 1, none⟩ = some (.slice wA0 wn0 wc0) := (rw.next belw).cell 1
 have cw_2 : w8.cell? ⟨w3.heap.size, 2, none⟩ = some (.slice wA1 wn1 wc1) := (rw.next belw).cell 2
 have cx0_0 : w8.cell? ⟨w5.heap.size, 0, none⟩ = some (.slice x0A0 x0n0 x0c0) := (rx0).cell 0
 have cg_0 : w8.cell? ⟨w7.heap.size, 0, none⟩ = some (.int .i64 ys.1) := (rg).cell 0
 have cg_1 : w8.cell? ⟨w7.heap.size, 1, none⟩ = some (.slice gA0 gn0 gc0) := (rg).cell 1
 have cg_2 : w8.cell? ⟨w7.heap.size, 2, none⟩ = some (.slice gA1 gn1 gc1) := (rg).cell 2
 refine (eqK_Weights _ _ _ _ ys _ og.rd (sw.next belw) hlen.out).mono ?_
 rintro e w9 ⟨rfl, bb⟩
 replace ox0 := ox0.next bb
 replace rx0 := rx0.next bb
 replace og := og.next bb
 replace rg := rg.next bb
 replace bel := next_trans bel bb
 replace belw := next_trans belw bb
 have zw9 := bb.size
 clear bb
 clear cA0_0 cw_0 cw_1 cw_2 cx0_0 cg_0 cg_1 cg_2
 have cA0_0 : w9.cell? ⟨w.heap.size, 0, none⟩ = some (v0_0) := (rA0.next bel).cell 0
 have cw_0 : w9.cell? ⟨w3.heap.size, 0, none⟩ = some (.int .i64 ys.1) := (rw.next belw).cell 0
 have cw_1 : w9.cell? ⟨w3.heap.size, 1, none⟩ = some (.slice wA0 wn0 wc0) := (rw.next belw).cell 1
 have cw_2 : w9.cell? ⟨w3.heap.size, 2, none⟩ = some (.slice wA1 wn1 wc1) := (rw.next belw).cell 2
 have cx0_0 : w9.cell? ⟨w5.heap.size, 0, none⟩ = some (.slice x0A0 x0n0 x0c0) := (rx0).cell 0
 have cg_0 : w9.cell? ⟨w7.heap.size, 0, none⟩ = some (.int .i64 ys.1) := (rg).cell 0
 have cg_1 : w9.cell? ⟨w7.heap.size, 1, none⟩ = some (.slice gA0 gn0 gc0) := (rg).cell 1
 have cg_2 : w9.cell? ⟨w7.heap.size, 2, none⟩ = some (.slice gA1 gn1 gc1) := (rg).cell 2
 go_wp2_with fail
 replace ox0 := ox0.drew
 replace rx0 := rx0.drew
 replace og := og.drew
 replace rg := rg.drew
 replace bel := bel.drew
 replace belw := belw.drew
 have zdw9 := (drew_below w9).size
 go_region_held3 (fun w' => w'.cell? ⟨w5.heap.size, 0, none⟩ = some (.slice x0A0 x0n0 x0c0) ∧ w'.cell? ⟨w.heap.size, 0, none⟩ = some (v0_0))
  (go_keep)
  (first
   | (go_at_call 38; refine (toK_Sig _ d0 _ (s0.next bel) h0.out).mono ?_; rintro e w10 ⟨t0A0, t0n0, t0c0, rfl, ot, bb⟩; replace ox0 := ox0.next bb; replace rx0 := rx0.next bb; replace og := og.next bb; replace rg := rg.next bb; replace bel := next_trans bel bb; replace belw := next_trans belw bb; have k0_0w10 : w10.cell? ⟨w.heap.size, 0, none⟩ = some (v0_0) := (rA0.next bel).cell 0; have l0_0w10 : w10.cell? ⟨w5.heap.size, 0, none⟩ = some (.slice x0A0 x0n0 x0c0) := rx0.cell 0; have zqw10 := bb.size; clear bb)
   | (go_at_call 40; refine (eqK_Sig _ _ d0 _ ox0.rd ot.rd h0.out).mono ?_; rintro e w11 ⟨rfl, bb⟩; replace ox0 := ox0.next bb; replace rx0 := rx0.next bb; replace og := og.next bb; replace rg := rg.next bb; replace bel := next_trans bel bb; replace belw := next_trans belw bb; have k0_0w11 : w11.cell? ⟨w.heap.size, 0, none⟩ = some (v0_0) := (rA0.next bel).cell 0; have l0_0w11 : w11.cell? ⟨w5.heap.size, 0, none⟩ = some (.slice x0A0 x0n0 x0c0) := rx0.cell 0; have zqw11 := bb.size; clear bb ot))
 clear k0_0w10 l0_0w10 k0_0w11 l0_0w11
 clear cA0_0 cw_0 cw_1 cw_2 cx0_0 cg_0 cg_1 cg_2
 have cA0_0 : w11.cell? ⟨w.heap.size, 0, none⟩ = some (v0_0) := (rA0.next bel).cell 0
 have cw_0 : w11.cell? ⟨w3.heap.size, 0, none⟩ = some (.int .i64 ys.1) := (rw.next belw).cell 0
 have cw_1 : w11.cell? ⟨w3.heap.size, 1, none⟩ = some (.slice wA0 wn0 wc0) := (rw.next belw).cell 1
 have cw_2 : w11.cell? ⟨w3.heap.size, 2, none⟩ = some (.slice wA1 wn1 wc1) := (rw.next belw).cell 2
 have cx0_0 : w11.cell? ⟨w5.heap.size, 0, none⟩ = some (.slice x0A0 x0n0 x0c0) := (rx0).cell 0
 have cg_0 : w11.cell? ⟨w7.heap.size, 0, none⟩ = some (.int .i64 ys.1) := (rg).cell 0
 have cg_1 : w11.cell? ⟨w7.heap.size, 1, none⟩ = some (.slice gA0 gn0 gc0) := (rg).cell 1
 have cg_2 : w11.cell? ⟨w7.heap.size, 2, none⟩ = some (.slice gA1 gn1 gc1) := (rg).cell 2
 obtain ⟨Fox0, fox0, nox0, box0⟩ := ox0
 go_wp2_with fail
 refine (markK_Sig _ d0 (1) Fox0 _ fox0 nox0 h0.out (by omega) (by rw [HK0.out]; omega)).mono ?_
 rintro e w12 ⟨he, omox0, onox0⟩
 rw [HK0.out] at he
 have bt := onox0.btw box0
 clear onox0
 clear omox0 fox0 nox0 box0
 subst he
 replace rx0 := Row.btw rx0 bt (by omega)
 replace og := og.btw bt (by omega)
 replace rg := Row.btw rg bt (by omega)
 replace bel := Below.btw bel bt (by omega) bel.size
 replace belw := Below.btw belw bt (by omega) belw.size
 have zw12 := bt.size
 clear bt
 clear cA0_0 cw_0 cw_1 cw_2 cx0_0 cg_0 cg_1 cg_2
 have cA0_0 : w12.cell? ⟨w.heap.size, 0, none⟩ = some (v0_0) := (rA0.next bel).cell 0
 have cw_0 : w12.cell? ⟨w3.heap.size, 0, none⟩ = some (.int .i64 ys.1) := (rw.next belw).cell 0
 have cw_1 : w12.cell? ⟨w3.heap.size, 1, none⟩ = some (.slice wA0 wn0 wc0) := (rw.next belw).cell 1
 have cw_2 : w12.cell? ⟨w3.heap.size, 2, none⟩ = some (.slice wA1 wn1 wc1) := (rw.next belw).cell 2
 have cx0_0 : w12.cell? ⟨w5.heap.size, 0, none⟩ = some (.slice x0A0 x0n0 x0c0) := (rx0).cell 0
 have cg_0 : w12.cell? ⟨w7.heap.size, 0, none⟩ = some (.int .i64 ys.1) := (rg).cell 0
 have cg_1 : w12.cell? ⟨w7.heap.size, 1, none⟩ = some (.slice gA0 gn0 gc0) := (rg).cell 1
 have cg_2 : w12.cell? ⟨w7.heap.size, 2, none⟩ = some (.slice gA1 gn1 gc1) := (rg).cell 2
 clear rx0
 clear cA0_0 cw_0 cw_1 cw_2 cx0_0 cg_0 cg_1 cg_2
 have cA0_0 : w12.cell? ⟨w.heap.size, 0, none⟩ = some (v0_0) := (rA0.next bel).cell 0
 have cw_0 : w12.cell? ⟨w3.heap.size, 0, none⟩ = some (.int .i64 ys.1) := (rw.next belw).cell 0
 have cw_1 : w12.cell? ⟨w3.heap.size, 1, none⟩ = some (.slice wA0 wn0 wc0) := (rw.next belw).cell 1
 have cw_2 : w12.cell? ⟨w3.heap.size, 2, none⟩ = some (.slice wA1 wn1 wc1) := (rw.next belw).cell 2
 have cg_0 : w12.cell? ⟨w7.heap.size, 0, none⟩ = some (.int .i64 ys.1) := (rg).cell 0
 have cg_1 : w12.cell? ⟨w7.heap.size, 1, none⟩ = some (.slice gA0 gn0 gc0) := (rg).cell 1
 have cg_2 : w12.cell? ⟨w7.heap.size, 2, none⟩ = some (.slice gA1 gn1 gc1) := (rg).cell 2
 go_wp2_with fail
 refine (eqK_Weights _ _ _ _ ys _ og.rd (sw.next belw) hlen.out).mono ?_
 rintro e w13 ⟨rfl, bb⟩
 replace og := og.next bb
 replace rg := rg.next bb
 replace bel := next_trans bel bb
 replace belw := next_trans belw bb
 have zw13 := bb.size
 clear bb
 clear cA0_0 cw_0 cw_1 cw_2 cg_0 cg_1 cg_2
 have cA0_0 : w13.cell? ⟨w.heap.size, 0, none⟩ = some (v0_0) := (rA0.next bel).cell 0
 have cw_0 : w13.cell? ⟨w3.heap.size, 0, none⟩ = some (.int .i64 ys.1) := (rw.next belw).cell 0
 have cw_1 : w13.cell? ⟨w3.heap.size, 1, none⟩ = some (.slice wA0 wn0 wc0) := (rw.next belw).cell 1
 have cw_2 : w13.cell? ⟨w3.heap.size, 2, none⟩ = some (.slice wA1 wn1 wc1) := (rw.next belw).cell 2
 have cg_0 : w13.cell? ⟨w7.heap.size, 0, none⟩ = some (.int .i64 ys.1) := (rg).cell 0
 have cg_1 : w13.cell? ⟨w7.heap.size, 1, none⟩ = some (.slice gA0 gn0 gc0) := (rg).cell 1
 have cg_2 : w13.cell? ⟨w7.heap.size, 2, none⟩ = some (.slice gA1 gn1 gc1) := (rg).cell 2
 obtain ⟨Fog, fog, nog, bog⟩ := og
 go_wp2_with fail
 refine (markK_Weights _ _ ys (1) Fog _ fog nog hlen.out (by omega) (by rw [HCG.out]; omega)).mono ?_
 rintro e w14 ⟨he, omog, onog⟩
 rw [HCG.out] at he
 have bt := onog.btw bog
 clear onog
 have om : Owned w14 (w6.heap.size) (w7.heap.size) sWeights [.int .i64 ys.1, .slice gA0 gn0 gc0, .slice gA1 gn1 gc1] (mkv sWeights 1 ys) := ⟨Fog, omog, nog, bog⟩
 clear omog fog nog bog
 subst he
 replace rg := Row.btw rg bt (by omega)
 replace bel := Below.btw bel bt (by omega) bel.size
 replace belw := Below.btw belw bt (by omega) belw.size
 have zw14 := bt.size
 clear bt
 clear cA0_0 cw_0 cw_1 cw_2 cg_0 cg_1 cg_2
 have cA0_0 : w14.cell? ⟨w.heap.size, 0, none⟩ = some (v0_0) := (rA0.next bel).cell 0
 have cw_0 : w14.cell? ⟨w3.heap.size, 0, none⟩ = some (.int .i64 ys.1) := (rw.next belw).cell 0
 have cw_1 : w14.cell? ⟨w3.heap.size, 1, none⟩ = some (.slice wA0 wn0 wc0) := (rw.next belw).cell 1
 have cw_2 : w14.cell? ⟨w3.heap.size, 2, none⟩ = some (.slice wA1 wn1 wc1) := (rw.next belw).cell 2
 have cg_0 : w14.cell? ⟨w7.heap.size, 0, none⟩ = some (.int .i64 ys.1) := (rg).cell 0
 have cg_1 : w14.cell? ⟨w7.heap.size, 1, none⟩ = some (.slice gA0 gn0 gc0) := (rg).cell 1
 have cg_2 : w14.cell? ⟨w7.heap.size, 2, none⟩ = some (.slice gA1 gn1 gc1) := (rg).cell 2
 go_wp2_with fail
 refine (heldK_Weights _ _ ys 1 _ om.rd hlen.out (by omega) (by rw [HCG.out]; omega)).mono ?_
 rintro e w15 ⟨he, bb⟩
 rw [HCG.out] at he
 subst he
 replace rg := rg.next bb
 replace om := om.next bb
 replace bel := next_trans bel bb
 replace belw := next_trans belw bb
 have zw15 := bb.size
 clear bb
 clear cA0_0 cw_0 cw_1 cw_2 cg_0 cg_1 cg_2
 have cA0_0 : w15.cell? ⟨w.heap.size, 0, none⟩ = some (v0_0) := (rA0.next bel).cell 0
 have cw_0 : w15.cell? ⟨w3.heap.size, 0, none⟩ = some (.int .i64 ys.1) := (rw.next belw).cell 0
 have cw_1 : w15.cell? ⟨w3.heap.size, 1, none⟩ = some (.slice wA0 wn0 wc0) := (rw.next belw).cell 1
 have cw_2 : w15.cell? ⟨w3.heap.size, 2, none⟩ = some (.slice wA1 wn1 wc1) := (rw.next belw).cell 2
 have cg_0 : w15.cell? ⟨w7.heap.size, 0, none⟩ = some (.int .i64 ys.1) := (rg).cell 0
 have cg_1 : w15.cell? ⟨w7.heap.size, 1, none⟩ = some (.slice gA0 gn0 gc0) := (rg).cell 1
 have cg_2 : w15.cell? ⟨w7.heap.size, 2, none⟩ = some (.slice gA1 gn1 gc1) := (rg).cell 2
 go_wp2_with fail
 refine (toK_Sig _ d0 _ (s0.next bel) h0.out).mono ?_
 rintro e w16 ⟨p0A0, p0n0, p0c0, rfl, op0, bb⟩
 replace rg := rg.next bb
 replace om := om.next bb
 replace bel := next_trans bel bb
 replace belw := next_trans belw bb
 have zw16 := bb.size
 clear bb
 clear cA0_0 cw_0 cw_1 cw_2 cg_0 cg_1 cg_2
 have cA0_0 : w16.cell? ⟨w.heap.size, 0, none⟩ = some (v0_0) := (rA0.next bel).cell 0
 have cw_0 : w16.cell? ⟨w3.heap.size, 0, none⟩ = some (.int .i64 ys.1) := (rw.next belw).cell 0
 have cw_1 : w16.cell? ⟨w3.heap.size, 1, none⟩ = some (.slice wA0 wn0 wc0) := (rw.next belw).cell 1
 have cw_2 : w16.cell? ⟨w3.heap.size, 2, none⟩ = some (.slice wA1 wn1 wc1) := (rw.next belw).cell 2
 have cg_0 : w16.cell? ⟨w7.heap.size, 0, none⟩ = some (.int .i64 ys.1) := (rg).cell 0
 have cg_1 : w16.cell? ⟨w7.heap.size, 1, none⟩ = some (.slice gA0 gn0 gc0) := (rg).cell 1
 have cg_2 : w16.cell? ⟨w7.heap.size, 2, none⟩ = some (.slice gA1 gn1 gc1) := (rg).cell 2
 go_wp2_with fail
 refine (implPlainWeightsX _ d0 _ op0.rd h0.out).mono ?_
 rintro e w17 ⟨hA0, hn0, hc0, hA1, hn1, hc1, he, o0, bb⟩
 rw [HY.out] at o0 he
 subst he
 replace rg := rg.next bb
 replace om := om.next bb
 replace op0 := op0.next bb
 replace bel := next_trans bel bb
 replace belw := next_trans belw bb
 have zw17 := bb.size
 clear bb
 have sh := o0.rd
 clear o0
 clear op0
 clear cA0_0 cw_0 cw_1 cw_2 cg_0 cg_1 cg_2
 have cA0_0 : w17.cell? ⟨w.heap.size, 0, none⟩ = some (v0_0) := (rA0.next bel).cell 0
 have cw_0 : w17.cell? ⟨w3.heap.size, 0, none⟩ = some (.int .i64 ys.1) := (rw.next belw).cell 0
 have cw_1 : w17.cell? ⟨w3.heap.size, 1, none⟩ = some (.slice wA0 wn0 wc0) := (rw.next belw).cell 1
 have cw_2 : w17.cell? ⟨w3.heap.size, 2, none⟩ = some (.slice wA1 wn1 wc1) := (rw.next belw).cell 2
 have cg_0 : w17.cell? ⟨w7.heap.size, 0, none⟩ = some (.int .i64 ys.1) := (rg).cell 0
 have cg_1 : w17.cell? ⟨w7.heap.size, 1, none⟩ = some (.slice gA0 gn0 gc0) := (rg).cell 1
 have cg_2 : w17.cell? ⟨w7.heap.size, 2, none⟩ = some (.slice gA1 gn1 gc1) := (rg).cell 2
 have dA0_0 : (w17.alloc (.cells #[.int .i64 ys.1, .slice hA0 hn0 hc0, .slice hA1 hn1 hc1] 32)).cell? ⟨w.heap.size, 0, none⟩ = some (v0_0) := ((rA0.next bel).alloc _).cell 0
 have dw_0 : (w17.alloc (.cells #[.int .i64 ys.1, .slice hA0 hn0 hc0, .slice hA1 hn1 hc1] 32)).cell? ⟨w3.heap.size, 0, none⟩ = some (.int .i64 ys.1) := ((rw.next belw).alloc _).cell 0
 have dw_1 : (w17.alloc (.cells #[.int .i64 ys.1, .slice hA0 hn0 hc0, .slice hA1 hn1 hc1] 32)).cell? ⟨w3.heap.size, 1, none⟩ = some (.slice wA0 wn0 wc0) := ((rw.next belw).alloc _).cell 1
 have dw_2 : (w17.alloc (.cells #[.int .i64 ys.1, .slice hA0 hn0 hc0, .slice hA1 hn1 hc1] 32)).cell? ⟨w3.heap.size, 2, none⟩ = some (.slice wA1 wn1 wc1) := ((rw.next belw).alloc _).cell 2
 have dg_0 : (w17.alloc (.cells #[.int .i64 ys.1, .slice hA0 hn0 hc0, .slice hA1 hn1 hc1] 32)).cell? ⟨w7.heap.size, 0, none⟩ = some (.int .i64 ys.1) := ((rg).alloc _).cell 0
 have dg_1 : (w17.alloc (.cells #[.int .i64 ys.1, .slice hA0 hn0 hc0, .slice hA1 hn1 hc1] 32)).cell? ⟨w7.heap.size, 1, none⟩ = some (.slice gA0 gn0 gc0) := ((rg).alloc _).cell 1
 have dg_2 : (w17.alloc (.cells #[.int .i64 ys.1, .slice hA0 hn0 hc0, .slice hA1 hn1 hc1] 32)).cell? ⟨w7.heap.size, 2, none⟩ = some (.slice gA1 gn1 gc1) := ((rg).alloc _).cell 2
 go_wp2_with fail
 obtain ⟨w18, hw⟩ : ∃ W, W = w17.alloc (.cells #[.int .i64 ys.1, .slice hA0 hn0 hc0, .slice hA1 hn1 hc1] 32) := ⟨_, rfl⟩
 rw [← hw]
 have rh : Row w18 w17.heap.size 32 #[.int .i64 ys.1, .slice hA0 hn0 hc0, .slice hA1 hn1 hc1] := by rw [hw]; exact Row.new _ _ _
 have bb : Below w17.heap.size w17 w18 := by rw [hw]; exact (Below.refl _ _).alloc (Nat.le_refl _) _
 have yrh : w17.heap.size < w18.heap.size := by rw [hw]; simp
 clear hw
 replace rg := rg.next bb
 replace om := om.next bb
 replace sh := sh.next bb
 replace bel := next_trans bel bb
 replace belw := next_trans belw bb
 have zw18 := bb.size
 clear bb
 clear dA0_0 dw_0 dw_1 dw_2 dg_0 dg_1 dg_2
 have belh := Below.refl w18.heap.size w18
 clear cA0_0 cw_0 cw_1 cw_2 cg_0 cg_1 cg_2
 have cA0_0 : w18.cell? ⟨w.heap.size, 0, none⟩ = some (v0_0) := (rA0.next bel).cell 0
 have cw_0 : w18.cell? ⟨w3.heap.size, 0, none⟩ = some (.int .i64 ys.1) := (rw.next belw).cell 0
 have cw_1 : w18.cell? ⟨w3.heap.size, 1, none⟩ = some (.slice wA0 wn0 wc0) := (rw.next belw).cell 1
 have cw_2 : w18.cell? ⟨w3.heap.size, 2, none⟩ = some (.slice wA1 wn1 wc1) := (rw.next belw).cell 2
 have cg_0 : w18.cell? ⟨w7.heap.size, 0, none⟩ = some (.int .i64 ys.1) := (rg).cell 0
 have cg_1 : w18.cell? ⟨w7.heap.size, 1, none⟩ = some (.slice gA0 gn0 gc0) := (rg).cell 1
 have cg_2 : w18.cell? ⟨w7.heap.size, 2, none⟩ = some (.slice gA1 gn1 gc1) := (rg).cell 2
 have ch_0 : w18.cell? ⟨w17.heap.size, 0, none⟩ = some (.int .i64 ys.1) := (rh.next belh).cell 0
 have ch_1 : w18.cell? ⟨w17.heap.size, 1, none⟩ = some (.slice hA0 hn0 hc0) := (rh.next belh).cell 1
 have ch_2 : w18.cell? ⟨w17.heap.size, 2, none⟩ = some (.slice hA1 hn1 hc1) := (rh.next belh).cell 2
 refine (eqK_Weights _ _ _ _ ys _ (sh.next belh) (sw.next belw) hlen.out).mono ?_
 rintro e w19 ⟨rfl, bb⟩
 replace rg := rg.next bb
 replace om := om.next bb
 replace bel := next_trans bel bb
 replace belw := next_trans belw bb
 replace belh := next_trans belh bb
 have zw19 := bb.size
 clear bb
 clear cA0_0 cw_0 cw_1 cw_2 cg_0 cg_1 cg_2 ch_0 ch_1 ch_2
 have cA0_0 : w19.cell? ⟨w.heap.size, 0, none⟩ = some (v0_0) := (rA0.next bel).cell 0
 have cw_0 : w19.cell? ⟨w3.heap.size, 0, none⟩ = some (.int .i64 ys.1) := (rw.next belw).cell 0
 have cw_1 : w19.cell? ⟨w3.heap.size, 1, none⟩ = some (.slice wA0 wn0 wc0) := (rw.next belw).cell 1
 have cw_2 : w19.cell? ⟨w3.heap.size, 2, none⟩ = some (.slice wA1 wn1 wc1) := (rw.next belw).cell 2
 have cg_0 : w19.cell? ⟨w7.heap.size, 0, none⟩ = some (.int .i64 ys.1) := (rg).cell 0
 have cg_1 : w19.cell? ⟨w7.heap.size, 1, none⟩ = some (.slice gA0 gn0 gc0) := (rg).cell 1
 have cg_2 : w19.cell? ⟨w7.heap.size, 2, none⟩ = some (.slice gA1 gn1 gc1) := (rg).cell 2
 have ch_0 : w19.cell? ⟨w17.heap.size, 0, none⟩ = some (.int .i64 ys.1) := (rh.next belh).cell 0
 have ch_1 : w19.cell? ⟨w17.heap.size, 1, none⟩ = some (.slice hA0 hn0 hc0) := (rh.next belh).cell 1
 have ch_2 : w19.cell? ⟨w17.heap.size, 2, none⟩ = some (.slice hA1 hn1 hc1) := (rh.next belh).cell 2
 go_wp2_with fail
 refine (heldK_Weights _ _ ys 1 _ om.rd hlen.out (by omega) (by rw [HCG.out]; omega)).mono ?_
 rintro e w20 ⟨he, bb⟩
 rw [HCG.out] at he
 subst he
 replace rg := rg.next bb
 replace om := om.next bb
 replace bel := next_trans bel bb
 replace belw := next_trans belw bb
 replace belh := next_trans belh bb
 have zw20 := bb.size
 clear bb
 clear cA0_0 cw_0 cw_1 cw_2 cg_0 cg_1 cg_2 ch_0 ch_1 ch_2
 have cA0_0 : w20.cell? ⟨w.heap.size, 0, none⟩ = some (v0_0) := (rA0.next bel).cell 0
 have cw_0 : w20.cell? ⟨w3.heap.size, 0, none⟩ = some (.int .i64 ys.1) := (rw.next belw).cell 0
 have cw_1 : w20.cell? ⟨w3.heap.size, 1, none⟩ = some (.slice wA0 wn0 wc0) := (rw.next belw).cell 1
 have cw_2 : w20.cell? ⟨w3.heap.size, 2, none⟩ = some (.slice wA1 wn1 wc1) := (rw.next belw).cell 2
 have cg_0 : w20.cell? ⟨w7.heap.size, 0, none⟩ = some (.int .i64 ys.1) := (rg).cell 0
 have cg_1 : w20.cell? ⟨w7.heap.size, 1, none⟩ = some (.slice gA0 gn0 gc0) := (rg).cell 1
 have cg_2 : w20.cell? ⟨w7.heap.size, 2, none⟩ = some (.slice gA1 gn1 gc1) := (rg).cell 2
 have ch_0 : w20.cell? ⟨w17.heap.size, 0, none⟩ = some (.int .i64 ys.1) := (rh.next belh).cell 0
 have ch_1 : w20.cell? ⟨w17.heap.size, 1, none⟩ = some (.slice hA0 hn0 hc0) := (rh.next belh).cell 1
 have ch_2 : w20.cell? ⟨w17.heap.size, 2, none⟩ = some (.slice hA1 hn1 hc1) := (rh.next belh).cell 2
 have F := hid (bW.trans (bel.mono bW.size))
 clear bel belw belh rg om bW cA0_0 cw_0 cw_1 cw_2 cg_0 cg_1 cg_2 ch_0 ch_1 ch_2
 go_wp2
 go_ret
 exact ⟨rfl, F.out⟩
end wPlainWeights
end
section
namespace openX
open Go.ChangeShapes Go.WideShapes Go.ChangeAt Go.RowKit base segs shape
def Wf : (s : Sh) → Dat s → Prop
 | .num, (x : Int) => -9223372036854775808 ≤ x ∧ x ≤ 9223372036854775807
 | .bit, _ => True
 | .row _ s, (d : List (Dat s)) => ∀ j, j < d.length → Wf s (d.getD j (dft s))
 | .cat a b, d => Wf a d.1 ∧ Wf b d.2
mutual
def fitsB (P : Program) : Nat → Sh → TypeId → Bool
 | 0, _, _ => false
 | n + 1, s, t => match P.underlying t with
  | some (.struct fs) => P.cellsOf t == nc s && fitsL P n fs.toList 0 s
  | some (.int .i64) => match s with | .num => true | _ => false
  | some .bool => match s with | .bit => true | _ => false
  | some (.slice e) => match s with | .row _ s' => P.cellsOf e == nc s' && fitsB P n s' e | _ => false
  | _ => false
def fitsL (P : Program) : Nat → List Field → Nat → Sh → Bool
 | 0, _, _, _ => false
 | _ + 1, [], _, _ => false
 | n + 1, [f], k, s => f.offset == k && (P.cellsOf f.type == nc s && fitsB P n s f.type)
 | n + 1, f :: g :: fs, k, s => match s with | .cat a b => f.offset == k && (P.cellsOf f.type == nc a && (fitsB P n a f.type && fitsL P n (g :: fs) (k + nc a) b)) | _ => false
end
section
variable {H : Type} {enc : TypeId × Value → H} {P : Program} {w : World} {held : Bool}
theorem addr_add {b off i : Nat} : (⟨b, off, none⟩ : Addr).add i = ⟨b, off + i, none⟩ := by unfold Addr.add; split <;> simp_all
theorem rd_trod : ∀ n : Nat, (∀ (s : Sh) (t : TypeId) (fuel : Nat) (cs : List Value) (x : DataW H × List MemPlace), fitsB P n s t = true → DataW.trod enc P w 0 (fun _ => true) held fuel t cs = some x → ∃ d, Rd w w.heap.size s cs d ∧ Wf s d) ∧
  (∀ (fs : List Field) (k : Nat) (s : Sh) (cs : List Value) (m : Nat), fitsL P n fs k s = true → (∀ (i : Nat) (f : Field), fs[i]? = some f → ∃ x, DataW.trod enc P w 0 (fun _ => true) held m f.type ((cs.drop f.offset).take (P.cellsOf f.type)) = some x) →
   ∃ d, Rd w w.heap.size s ((cs.drop k).take (nc s)) d ∧ Wf s d) := by
 intro n
 induction n with
 | zero => exact ⟨fun _ _ _ _ _ h => by simp [fitsB] at h, fun _ _ _ _ _ h => by simp [fitsL] at h⟩
 | succ n ih =>
  refine ⟨fun s t fuel cs x hf h => ?_, fun fs k s cs m hf h => ?_⟩
  ·unfold fitsB at hf
   split at hf
   ·rename_i fs hu
    simp only [Bool.and_eq_true, beq_iff_eq] at hf
    obtain ⟨xs, n', hfu, hx, hlen, hxl, hg⟩ := DataW.trod_struct hu h
    obtain ⟨d, hr, hw⟩ := ih.2 fs.toList 0 s cs n' hf.2 (fun i f hi => by
     have hi' : fs[i]? = some f := by simpa using hi
     have h1 := hg i f hi'
     have hlt : i < fs.size := (Array.getElem?_eq_some_iff.1 hi').1
     exact ⟨xs[i]'(by omega), by rw [h1]; exact List.getElem?_eq_getElem (by omega)⟩)
    rw [List.drop_zero, List.take_of_length_le (by omega)] at hr
    exact ⟨d, hr, hw⟩
   ·rename_i hu
    split at hf
    ·obtain ⟨z, e1, _, hw⟩ := DataW.trod_int hu h
     refine ⟨z, e1, ?_⟩
     show -9223372036854775808 ≤ z ∧ z ≤ 9223372036854775807
     simpa [Lit.wf, IntKind.min, IntKind.max, IntKind.signed, IntKind.bits] using hw
    ·cases hf
   ·rename_i hu
    split at hf
    ·obtain ⟨z, e1, _⟩ := DataW.trod_bool hu h
     exact ⟨z, e1, trivial⟩
    ·cases hf
   ·rename_i e hu
    split at hf
    ·rename_i e0 s'
     simp only [Bool.and_eq_true, beq_iff_eq] at hf
     rcases Go.Deep.open_slice hu h with ⟨hcs, _⟩ | ⟨a, len, cap, m, n', D, Pl, hcs, _, hl, hm, hmm, _, hi⟩
     ·exact ⟨[], ⟨none, 0, 0, hcs, ⟨by omega, by omega, fun _ => rfl⟩, rfl, fun h => absurd h (by omega)⟩, fun j hj => absurd hj (Nat.not_lt_zero _)⟩
     ·have hmc : m = cap := by simpa using hmm
      subst hmc
      have hd : ∀ j, j < len → ∃ (es : List Value) (dj : Dat s'), es.length = nc s' ∧ (∀ i, i < nc s' → w.cell? ((a.add (j * nc s')).add i) = es[i]?) ∧ Rd w w.heap.size s' es dj ∧ Wf s' dj := fun j hj => by
       obtain ⟨cs', hc, ht⟩ := hi j (by omega)
       obtain ⟨dj, hr, hw⟩ := ih.1 s' e n' cs' _ hf.2 ht
       rw [hf.1] at hc
       obtain ⟨_, hcl, hat⟩ := World.cells?_some hc
       exact ⟨cs', dj, hcl, hat, hr, hw⟩
      have hspot : 0 < len → a.spot = none := fun h0 => by
       obtain ⟨es, dj, h1, h2, _⟩ := hd 0 h0
       have hp := nc_pos s'
       have h3 := h2 0 (by omega)
       rw [List.getElem?_eq_getElem (by omega)] at h3
       have := World.cell?_spot h3
       simpa [Addr.add] using this
      obtain ⟨ds, hdl, hds⟩ : ∃ ds : List (Dat s'), ds.length = len ∧ ∀ j, j < len → ∃ es : List Value, es.length = nc s' ∧ (∀ i, i < nc s' → w.cell? ((a.add (j * nc s')).add i) = es[i]?) ∧ Rd w w.heap.size s' es (ds.getD j (dft s')) ∧ Wf s' (ds.getD j (dft s')) := by
       refine ⟨(List.range len).map fun j => if hj : j < len then Classical.choose (Classical.choose_spec (hd j hj)) else dft s', by simp, fun j hj => ?_⟩
       refine ⟨Classical.choose (hd j hj), ?_⟩
       have h1 := Classical.choose_spec (Classical.choose_spec (hd j hj))
       have e1 : ((List.range len).map fun j => if hj : j < len then Classical.choose (Classical.choose_spec (hd j hj)) else dft s').getD j (dft s') = Classical.choose (Classical.choose_spec (hd j hj)) := by simp [List.getD, hj]
       rw [e1]
       exact h1
      refine ⟨ds, ⟨some a, len, m, hcs, ⟨hl, by unfold maxLen at hm; omega, fun e => by cases e⟩, hdl, fun h0 => ?_⟩, fun j hj => by
       obtain ⟨es, _, _, _, hw⟩ := hds j (by rw [← hdl]; exact hj)
       exact hw⟩
      obtain ⟨b, off, spot⟩ := a
      have hs := hspot h0
      simp only at hs
      subst hs
      refine ⟨b, off, rfl, ?_, fun j hj => ?_⟩
      ·obtain ⟨es, h1, h2, _⟩ := hds 0 h0
       have hp := nc_pos s'
       have h3 := h2 0 (by omega)
       rw [List.getElem?_eq_getElem (by omega)] at h3
       have h4 := World.block_lt_of_cell? _ _ h3
       simpa [addr_add] using h4
      ·obtain ⟨es, h1, h2, h3, _⟩ := hds j hj
       refine ⟨es, h1, fun i hi2 => ?_, h3⟩
       have := h2 i (by omega)
       rw [addr_add, addr_add] at this
       exact this
    ·cases hf
   ·cases hf
  ·match fs, hf, h with
   | [], hf, _ => simp [fitsL] at hf
   | [f], hf, h =>
    unfold fitsL at hf
    simp only [Bool.and_eq_true, beq_iff_eq] at hf
    obtain ⟨h1, h2, h3⟩ := hf
    obtain ⟨x, hx⟩ := h 0 f rfl
    rw [h1, h2] at hx
    exact ih.1 s f.type m _ x h3 hx
   | f :: g :: fs, hf, h =>
    cases s with
    | cat a b =>
     unfold fitsL at hf
     simp only [Bool.and_eq_true, beq_iff_eq] at hf
     obtain ⟨h1, h2, h3, h4⟩ := hf
     obtain ⟨x, hx⟩ := h 0 f rfl
     rw [h1, h2] at hx
     obtain ⟨d1, r1, w1⟩ := ih.1 a f.type m _ x h3 hx
     obtain ⟨d2, r2, w2⟩ := ih.2 (g :: fs) (k + nc a) b cs m h4 (fun i f' hi => h (i + 1) f' hi)
     refine ⟨(d1, d2), ⟨_, _, ?_, r1, r2⟩, w1, w2⟩
     show List.take (nc a + nc b) (List.drop k cs) = _
     rw [List.take_add, List.drop_drop]
    | num => simp [fitsL] at hf
    | bit => simp [fitsL] at hf
    | row e s' => simp [fitsL] at hf
theorem open_val {s : Sh} {t : TypeId} {v : Value} {d : DataW H} {p : List MemPlace} {n : Nat} (hf : fitsB P n s t = true) (h : DataW.Trod enc P w 0 (fun _ => true) held t v d p) : ∃ x, Rd w w.heap.size s v.cells.toList x ∧ Wf s x := by
 obtain ⟨fuel, hfu⟩ := h
 exact (rd_trod n).1 s t fuel _ _ hf hfu
end
end openX
end
end Go.Proofs.Ytiimbmkofpnebaa
