/-
  MERGED: my texts UnifMath, Forest, Nodes, PutMath, Look, SubstOk, Gives, StepMath, WalkMath, ParMath, LpoLink, KboMath, RankSpec, Dice, DrawSig, DrawTerm, DrawAny, DrawX, Stk, PartsSpec, KboLink, AnyJ, TabR, Inside, Plain, PlainOf, MatchSpec, Whole, KboOft, DupNew, WDuplicatingIn, OpenX, one behind the other, as they are. By an AI agent.
-/
import Derived.Test.YtiimbmkofpnebaaMFnExactDuplicatingIn2
import Derived.Shelf.Abstract
import Derived.Deep.RegionHeld3
import Derived.Deep.QuietTactic
import Derived.BigQuiet
import Derived.Deep.LoopGhost
import Derived.Deep.AppendLies
import Derived.Deep.RegionLaw
import Derived.Deep.Onto
import Derived.Deep.DeepMust
import Derived.Laws.Rows
import Derived.Laws.ResultCell
import Derived.ProofKit
import Derived.OpenShut
import Derived.Lib.SmallJoins
import Derived.Deep.Slices
import Derived.Deep.Fields
namespace Go.Proofs.Ytiimbmkofpnebaa
section
namespace unifMath
open sig term termOk termFacts endAt sub termMath fillMath posMath renMath matchMath plainMath
def Trm (sg t : List Int) : Prop := scan sg 1 t = some t.length
theorem scan_ar {sg : List Int} : ∀ {l : List Int} {q : Nat}, scan sg q l = some l.length → ∀ x ∈ l, ¬ ar sg x < 0 := by
 intro l
 induction l with
 | nil => intro q _ x hx; exact absurd hx (List.not_mem_nil)
 | cons y r ih =>
  intro q h x hx
  cases q with
  | zero => rw [scan_zero] at h; injection h with h; simp at h
  | succ q =>
   by_cases hy : ar sg y < 0
   ·rw [scan_bad hy] at h; cases h
   ·rw [scan_step hy, Option.map_eq_some_iff] at h
    obtain ⟨a, e1, e2⟩ := h
    rcases List.mem_cons.1 hx with rfl | hx
    ·exact hy
    ·exact ih (q := q + (ar sg y).toNat) (by rw [e1]; congr 1; simp at e2; omega) x hx
theorem Trm.mem {sg t : List Int} (h : Trm sg t) {x : Int} (hx : x ∈ t) : -24 ≤ x := by
 have h1 := scan_ar h x hx
 by_cases h2 : -24 ≤ x
 ·exact h2
 ·rw [ar_no (by omega) (by omega)] at h1; omega
theorem Trm.pos {sg t : List Int} (h : Trm sg t) : 1 ≤ t.length := scan_pos (q := 0) h
theorem Trm.vt {sg : List Int} {i : Nat} (hi : i < 24) : Trm sg (vt i) := scan_one (y := -1 - (i : Int)) (by omega)
structure Sub (sg : List Int) (L : Nat → List Int) : Prop where
 trm : ∀ i, i < 24 → Trm sg (L i)
 out : ∀ i, 24 ≤ i → L i = vt i
theorem Sub.pos {sg : List Int} {L : Nat → List Int} (h : Sub sg L) (i : Nat) : 1 ≤ (L i).length := by
 by_cases hi : i < 24
 ·exact (h.trm i hi).pos
 ·rw [h.out i (by omega)]; simp [vt]
theorem Sub.vt (sg : List Int) : Sub sg vt := ⟨fun _ hi => Trm.vt hi, fun _ _ => rfl⟩
theorem Sub.fill {sg : List Int} {L : Nat → List Int} (h : Sub sg L) {t : List Int} (ht : Trm sg t) : Trm sg (fillL L t) :=
 scan_fill ht (fun x hx h0 => h.trm _ (by have := ht.mem hx; omega))
structure Uni (sg a b : List Int) (L : Nat → List Int) : Prop where
 sub : Sub sg L
 eq : fillL L a = fillL L b
structure Part (sg a b : List Int) (L : Nat → List Int) : Prop where
 sub : Sub sg L
 gen : ∀ M, Uni sg a b M → ∀ i, fillL M (L i) = M i
 ide : ∀ i x, x ∈ L i → x < 0 → L (vr x) = [x]
 ord : ∀ i j, L i = vt j → j ≤ i
structure Mg (sg a b : List Int) (L : Nat → List Int) : Prop extends Part sg a b L where
 eq : fillL L a = fillL L b
theorem fill_drop {L : Nat → List Int} {x y : List Int} {k : Nat} (e : x.take k = y.take k) (h : fillL L x = fillL L y) : fillL L (x.drop k) = fillL L (y.drop k) := by
 rw [← List.take_append_drop k x, ← List.take_append_drop k y, fill_append, fill_append, e] at h
 exact List.append_cancel_left h
theorem sub_trm {sg x : List Int} (hx : Trm sg x) {k : Nat} (hk : k < x.length) : Trm sg (subL sg x k) ∧ x.drop k = subL sg x k ++ x.drop (k + (subL sg x k).length) := by
 obtain ⟨j, h1, h2, h3⟩ := scan_at hx hk
 have hl : subL sg x k = (x.drop k).take j := by unfold subL; rw [len1_eq h1]
 have hlen : (subL sg x k).length = j := by rw [hl, List.length_take, List.length_drop]; omega
 refine ⟨?_, ?_⟩
 ·unfold Trm
  rw [hlen, hl]
  exact scan_take h1
 ·rw [hlen, hl, ← List.drop_drop]
  exact (List.take_append_drop _ _).symm
theorem uni_sub {sg x y : List Int} {M : Nat → List Int} (hx : Trm sg x) (hy : Trm sg y) (hM : Sub sg M) (h : fillL M x = fillL M y) {k : Nat} (e : x.take k = y.take k) (hkx : k < x.length) (hky : k < y.length) : fillL M (subL sg x k) = fillL M (subL sg y k) := by
 have h1 := fill_drop e h
 obtain ⟨tx, ex⟩ := sub_trm hx hkx
 obtain ⟨ty, ey⟩ := sub_trm hy hky
 rw [ex, ey, fill_append, fill_append] at h1
 have s1 := scan_append (r := fillL M (x.drop (k + (subL sg x k).length))) (hM.fill tx)
 have s2 := scan_append (r := fillL M (y.drop (k + (subL sg y k).length))) (hM.fill ty)
 rw [h1, s2] at s1
 injection s1 with s1
 have := congrArg (List.take (fillL M (subL sg x k)).length) h1
 rw [List.take_left' rfl, List.take_left' s1] at this
 exact this
structure Spot (sg a b : List Int) (L : Nat → List Int) (k : Nat) : Prop where
 ta : Trm sg a
 tb : Trm sg b
 pre : (fillL L a).take k = (fillL L b).take k
 kx : k < (fillL L a).length
 ky : k < (fillL L b).length
 ne : (fillL L a).getD k 0 ≠ (fillL L b).getD k 0
theorem part_uni {sg a b : List Int} {L M : Nat → List Int} (h : Part sg a b L) (hM : Uni sg a b M) (z : List Int) : fillL M (fillL L z) = fillL M z := by
 rw [fill_fill]
 exact fill_ext (fun x _ _ => h.gen M hM _)
theorem Spot.sub {sg a b : List Int} {L M : Nat → List Int} {k : Nat} (s : Spot sg a b L k) (h : Part sg a b L) (hM : Uni sg a b M) : fillL M (subL sg (fillL L a) k) = fillL M (subL sg (fillL L b) k) :=
 uni_sub (h.sub.fill s.ta) (h.sub.fill s.tb) hM.sub (by rw [part_uni h hM, part_uni h hM, hM.eq]) s.pre s.kx s.ky
theorem Part.done {sg a b : List Int} {L : Nat → List Int} (h : Part sg a b L) (he : fillL L a = fillL L b) : Mg sg a b L := ⟨h, he⟩
structure Short (sg a b : List Int) (M : Nat → List Int) : Prop extends Uni sg a b M where
 each : ∀ i, (M i).length ≤ 60
 all : (fillL M a).length ≤ 60
theorem Part.each {sg a b : List Int} {L M : Nat → List Int} (h : Part sg a b L) (hM : Short sg a b M) (i : Nat) : (L i).length ≤ 60 := by
 have h1 := fill_ge hM.sub.pos (L i)
 rw [h.gen M hM.toUni] at h1
 exact Nat.le_trans h1 (hM.each i)
theorem Part.len {sg a b : List Int} {L M : Nat → List Int} (h : Part sg a b L) (hM : Short sg a b M) : (fillL L a).length ≤ 60 ∧ (fillL L b).length ≤ 60 := by
 have h1 := fill_ge hM.sub.pos (fillL L a)
 have h2 := fill_ge hM.sub.pos (fillL L b)
 rw [part_uni h hM.toUni] at h1 h2
 rw [← hM.eq] at h2
 exact ⟨Nat.le_trans h1 hM.all, Nat.le_trans h2 hM.all⟩
end unifMath
end
section
namespace forest
open sig term termOk termFacts fillMath renMath matchMath unifMath
inductive Fo (sg : List Int) : Nat → List Int → Prop
 | nil : Fo sg 0 []
 | var (x : Int) (r : List Int) (q : Nat) (h : x < 0) (h1 : Fo sg q r) : Fo sg (q + 1) (x :: r)
 | app (x : Int) (r : List Int) (q : Nat) (h : 0 ≤ x) (h2 : 0 ≤ ar sg x) (h1 : Fo sg ((ar sg x).toNat + q) r) : Fo sg (q + 1) (x :: r)
variable {sg : List Int}
theorem Fo.zero {l : List Int} (h : Fo sg 0 l) : l = [] := by cases h; rfl
theorem Fo.none {q : Nat} (h : Fo sg q []) : q = 0 := by cases h; rfl
theorem Fo.inv {n : Nat} {x : Int} {r : List Int} (h : Fo sg n (x :: r)) : ∃ q, n = q + 1 ∧ ((x < 0 ∧ Fo sg q r) ∨ (0 ≤ x ∧ 0 ≤ ar sg x ∧ Fo sg ((ar sg x).toNat + q) r)) := by
 cases h with
 | var x r q h h1 => exact ⟨q, rfl, .inl ⟨h, h1⟩⟩
 | app x r q h h2 h1 => exact ⟨q, rfl, .inr ⟨h, h2, h1⟩⟩
theorem Fo.split : ∀ {l : List Int} {p q : Nat}, Fo sg (p + q) l → ∃ a b, l = a ++ b ∧ Fo sg p a ∧ Fo sg q b
 | [], p, q, h => by
  have h0 := h.none
  have h1 : p = 0 := by omega
  have h2 : q = 0 := by omega
  subst h1 h2
  exact ⟨[], [], rfl, .nil, .nil⟩
 | x :: r, 0, q, h => by
  rw [Nat.zero_add] at h
  exact ⟨[], x :: r, rfl, .nil, h⟩
 | x :: r, p + 1, q, h => by
  obtain ⟨k, e, h⟩ := h.inv
  have e1 : k = p + q := by omega
  subst e1
  rcases h with ⟨h0, h1⟩ | ⟨h0, h2, h1⟩
  ·obtain ⟨a, b, rfl, ha, hb⟩ := Fo.split h1
   exact ⟨x :: a, b, rfl, .var x a p h0 ha, hb⟩
  ·rw [← Nat.add_assoc] at h1
   obtain ⟨a, b, rfl, ha, hb⟩ := Fo.split h1
   exact ⟨x :: a, b, rfl, .app x a p h0 h2 ha, hb⟩
theorem Fo.vt (i : Nat) : Fo sg 1 (vt i) := Fo.var _ _ 0 (by omega) .nil
def Prt (sg u : List Int) (ps : List (List Int)) : Prop := (∃ x, 0 ≤ x ∧ 0 ≤ ar sg x ∧ u = x :: ps.flatten ∧ ps.length = (ar sg x).toNat) ∧ ∀ p ∈ ps, Fo sg 1 p
theorem Prt.len {u : List Int} {ps : List (List Int)} (h : Prt sg u ps) : u.length = (ps.map List.length).sum + 1 := by
 obtain ⟨⟨x, -, -, rfl, -⟩, -⟩ := h
 rw [List.length_cons, List.length_flatten]
end forest
end
section
namespace nodes
open sig term termOk termFacts depth args fillMath matchMath unifMath forest
def chN (sg t : List Int) (p : Nat) : List Nat := (argsL sg t p).map Int.toNat
variable {sg t t' : List Int}
end nodes
end
section
namespace putMath
open sig term termOk termFacts endAt sub args depth termMath posMath
section
variable {sg t u : List Int} {a : Nat}
end
end putMath
end
section
namespace look
open Go.RowKit base ints marks app sym segs fillMath
set_option maxRecDepth 100000
def AnsLook (B : Nat) (w : World) (ys : List Int) (e : Ending) (w' : World) : Prop := ∃ A n c, e = .returned (.slice A n c) ∧ Seg w' w'.heap.size A n ys ∧ Cap A n c ∧ (∀ k, blk A = some k → k < B ∨ w.heap.size ≤ k) ∧ Below w.heap.size w w'
def Looks (g : Nat) (lb : Array Value) (w : World) (L : Nat → List Int) (N : Nat) : Prop :=
 ∀ (W : World) (i : Nat), Below w.heap.size w W → i < N → Calls Try.prog g (#[.int .i64 (i : Int)] ++ lb) W (AnsLook w.heap.size W (L i))
theorem Looks.next {g : Nat} {lb : Array Value} {w w' : World} {L : Nat → List Int} {N : Nat} (h : Looks g lb w L N) (hb : Below w.heap.size w w') : Looks g lb w' L N :=
 fun W i hW hi => (h W i (next_trans hb hW) hi).mono fun _ _ ⟨A, n, c, he, h1, h2, h3, h4⟩ => ⟨A, n, c, he, h1, h2, fun k hk => by have := h3 k hk; have := hb.size; omega, h4⟩
end look
end
section
namespace substOk
open Go.RowKit base ints sig term termOk marks app sym sub segs segsHelp termFacts varsMath varsOf fillMath Go.Proofs.Ytiimbmkofpnebaa.look
set_option maxRecDepth 100000
def goodB (sg t : List Int) : Bool := decide (t.length = 0) || termOkB sg t
def HeadSO (w : World) (A : Option Addr) (n c : Nat) (S : Option Addr) (m c' : Nat) (sg : List Int) (ss : List (List Int)) (i : Value) (wr : World) : Prop :=
 ∃ k : Nat, k ≤ m ∧ i = .int .i64 k ∧ (∀ j, j < k → goodB sg (ss.getD j []) = true) ∧ Row wr w.heap.size 29 #[.slice A n c] ∧ Row wr (w.heap.size + 1) 37 #[.slice S m c'] ∧ Below w.heap.size w wr
theorem headSO_step {w wr : World} {A : Option Addr} {n c : Nat} {S : Option Addr} {m c' : Nat} {sg : List Int} {ss : List (List Int)} {k : Nat} (hk : k < m) (hlow : ∀ j, j < k → goodB sg (ss.getD j []) = true) (hg : goodB sg (ss.getD k []) = true)
  (r1 : Row wr w.heap.size 29 #[.slice A n c]) (r2 : Row wr (w.heap.size + 1) 37 #[.slice S m c']) (hb : Below w.heap.size w wr) : HeadSO w A n c S m c' sg ss (.int .i64 ((k : Int) + 1)) wr :=
 ⟨k + 1, hk, by simp, fun j hj => by
  by_cases e : j = k
  ·subst e; exact hg
  ·exact hlow j (by omega), r1, r2, hb⟩
end substOk
end
section
namespace gives
open Go.RowKit base ints sig term termOk marks app sym sub segs segsHelp termFacts varsMath varsOf fillMath Go.Proofs.Ytiimbmkofpnebaa.look substOk
set_option maxRecDepth 100000
end gives
end
section
namespace stepMath
open sig term termOk termFacts fillMath gives endAt sub matchMath termMath posMath putMath ruleMath
end stepMath
end
section
namespace walkMath
open sig term termOk termFacts fillMath gives sub matchMath putMath ruleMath stepMath
end walkMath
end
section
namespace parMath
open sig term termOk termFacts fillMath ruleMath stepMath walkMath forest
variable {sg : List Int} {rs : List Rl} {a b : List Int}
end parMath
end
section
namespace lpoLink
open sig term termOk termFacts endAt depth args sub fillMath posMath matchMath unifMath forest nodes parMath lpoMath rankMath
set_option maxRecDepth 100000
open Classical in
noncomputable def ptsC (sg u : List Int) : List (List Int) := if h : ∃ ps, Prt sg u ps then h.choose else []
def rkL (rk : List Int) (x : Int) : Int := rk.getD x.toNat 0
section
variable {sg t s : List Int} {a b : Nat}
end
noncomputable def gtP (bag : Bool) (sg rk t s : List Int) (i j : Nat) : Bool := gt bag (ptsC sg) (rkL rk) (subL sg t i) (subL sg s j)
def sameP (sg t s : List Int) (i j : Nat) : Bool := decide (subL sg t i = subL sg s j)
noncomputable def argP (bag : Bool) (sg rk t s : List Int) (i j : Nat) : Bool := (chN sg t i).any fun p => sameP sg t s p j || gtP bag sg rk t s p j
end lpoLink
end
section
namespace kboMath
open sig term fillMath forest lpoMath lpoLink
def wt (v : Int) (sy : List Int) : Tm → Int
 | [] => 0
 | x :: r => (if x < 0 then v else rkL sy x) + wt v sy r
def oft (s t : Tm) : Bool := s.all fun x => !decide (x < 0) || decide (s.count x ≤ t.count x)
variable {sg sy rk : List Int} {v : Int}
theorem oft_iff {s t : Tm} : oft s t = true ↔ ∀ x, x < 0 → s.count x ≤ t.count x := by
 unfold oft
 rw [List.all_eq_true]
 constructor
 ·intro h x hx
  by_cases hm : x ∈ s
  ·have := h x hm
   rw [decide_eq_true hx] at this
   simpa using this
  ·rw [List.count_eq_zero.2 hm]; exact Nat.zero_le _
 ·intro h x _
  by_cases hx : x < 0
  ·rw [decide_eq_true (h x hx)]; simp
  ·simp [hx]
def sumN (f : Int → Nat) : Tm → Nat
 | [] => 0
 | x :: r => f x + sumN f r
theorem sum_erase {f : Int → Nat} : ∀ {t : Tm} {x : Int}, x ∈ t → sumN f t = f x + sumN f (t.erase x)
 | [], _, h => absurd h (by simp)
 | y :: r, x, h => by
  by_cases e : y = x
  ·subst e
   rw [List.erase_cons_head]
   rfl
  ·rw [List.erase_cons_tail (by simpa using e)]
   have h' : x ∈ r := by
    rcases List.mem_cons.1 h with rfl | h
    ·exact absurd rfl e
    ·exact h
   simp only [sumN, sum_erase h']
   omega
theorem sum_le {f : Int → Nat} (hf : ∀ x, 0 ≤ x → f x = 0) : ∀ {s t : Tm}, (∀ x, x < 0 → s.count x ≤ t.count x) → sumN f s ≤ sumN f t
 | [], _, _ => by simp [sumN]
 | x :: s, t, h => by
  by_cases hx : x < 0
  ·have hm : x ∈ t := by
    have := h x hx
    rw [List.count_cons_self] at this
    exact List.count_pos_iff.1 (by omega)
   have ih := sum_le hf (s := s) (t := t.erase x) (by
    intro y hy
    have i1 := h y hy
    rw [List.count_erase, ]
    rw [List.count_cons] at i1
    by_cases e : x = y
    ·subst e; simp at i1 ⊢; omega
    ·have e2 : (x == y) = false := by simpa using e
     have e3 : (y == x) = false := by simpa using (Ne.symm e)
     rw [e2] at i1
     simp [e2] at i1 ⊢
     exact i1)
   rw [sum_erase hm]
   simp only [sumN]
   omega
  ·simp only [sumN, hf x (by omega)]
   have := sum_le hf (s := s) (t := t) (fun y hy => by
    have i1 := h y hy
    rw [List.count_cons] at i1
    omega)
   omega
section
variable {L : Nat → List Int}
end
end kboMath
end
section
namespace rankSpec
open Go.RowKit base ints sig term rankMath shape kindsR ruleMath ruleSpec ruleImpl
set_option maxRecDepth 100000
end rankSpec
end
section
namespace dice
open Go.RowKit base ints cursor
def SegB (w : World) (B : Nat) (A : Option Addr) (n : Nat) : Prop :=
 0 < n → ∃ b off, A = some ⟨b, off, none⟩ ∧ b < B ∧ ∀ j, j < n → ∃ x : Int, 0 ≤ x ∧ x ≤ 255 ∧ w.cell? ⟨b, off + j, none⟩ = some (.int .u8 x)
theorem SegB.keep {w w' : World} {B : Nat} {A : Option Addr} {n : Nat} (h : SegB w B A n) (hk : ∀ p : Addr, p.block < B → w'.cell? p = w.cell? p) : SegB w' B A n := fun hn => by
 obtain ⟨b, off, e, hb, hc⟩ := h hn
 refine ⟨b, off, e, hb, fun j hj => ?_⟩
 obtain ⟨x, h0, h1, h2⟩ := hc j hj
 exact ⟨x, h0, h1, (hk ⟨b, off + j, none⟩ hb).trans h2⟩
structure DiceAt (w : World) (p : Nat) (A : Option Addr) (n c i : Nat) (h : Int) : Prop where
 row : Row w p 152 #[.slice A n c, .int .i64 i, .int .i64 h]
 le : i ≤ n
 s : SegB w p A n
 hn : n ≤ 4096
def Dice (w : World) (p : Nat) (A : Option Addr) (n c : Nat) : Prop := ∃ i h, DiceAt w p A n c i h
section
variable {w w' : World} {p : Nat} {A : Option Addr} {n c i : Nat} {h : Int}
theorem Dice.next (d : Dice w p A n c) (hb : Below w.heap.size w w') : Dice w' p A n c := by
 obtain ⟨i, h, d⟩ := d
 have hp := d.row.lt
 exact ⟨i, h, d.row.next hb, d.le, d.s.keep fun q hq => hb.cell (Nat.lt_trans hq hp), d.hn⟩
end
end dice
end
section
namespace drawSig
open Go.RowKit base ints sig cursor marks app sym dice
set_option maxRecDepth 100000
section
variable {w : World} {p : Nat} {A : Option Addr} {n c v : Nat} {wr : World} {O : Option Addr} {on oc : Nat} {xs : List Int}
end
def Short (xs : List Int) : Prop := xs.length ≤ 9
end drawSig
end
section
namespace drawTerm
open Go.RowKit base ints sig term cursor marks app sym dice drawSig
set_option maxRecDepth 100000
def Rd (w : World) (p B : Nat) (A : Option Addr) (n : Nat) (xs : List Int) : Prop :=
 xs.length = n ∧ (0 < n → ∃ b off, A = some ⟨b, off, none⟩ ∧ b < B ∧ b ≠ p ∧ ∀ j, j < n → w.cell? ⟨b, off + j, none⟩ = some (.int .i64 (xs.getD j 0)))
theorem Rd.more {w : World} {p B B' : Nat} {A : Option Addr} {n : Nat} {xs : List Int} (h : Rd w p B A n xs) (hB : B ≤ B') : Rd w p B' A n xs :=
 ⟨h.1, fun hn => by obtain ⟨b, off, e, hb, hne, hc⟩ := h.2 hn; exact ⟨b, off, e, by omega, hne, hc⟩⟩
theorem Rd.keep {w w' : World} {p B : Nat} {A : Option Addr} {n : Nat} {xs : List Int} (h : Rd w p B A n xs) (hk : ∀ q : Addr, q.block < B → q.block ≠ p → w'.cell? q = w.cell? q) : Rd w' p B A n xs :=
 ⟨h.1, fun hn => by obtain ⟨b, off, e, hb, hne, hc⟩ := h.2 hn; exact ⟨b, off, e, hb, hne, fun j hj => (hk ⟨b, off + j, none⟩ hb hne).trans (hc j hj)⟩⟩
theorem Rd.below {w w' : World} {p B B' : Nat} {A : Option Addr} {n : Nat} {xs : List Int} (h : Rd w p B A n xs) (hb : Below B' w w') (hB : B ≤ B') : Rd w' p B A n xs :=
 h.keep fun q hq _ => hb.cell (by omega)
theorem Rd.seg {w : World} {p B : Nat} {A : Option Addr} {n : Nat} {xs : List Int} (h : Rd w p B A n xs) : Seg w B A n xs :=
 ⟨h.1, fun hn => by obtain ⟨b, off, e, hb, _, hc⟩ := h.2 hn; exact ⟨b, off, e, hb, hc⟩⟩
structure DT (w : World) (p : Nat) (A : Option Addr) (n c : Nat) (S : Option Addr) (sn sc : Nat) (sg : List Int) (wr : World) : Prop where
 d : Dice wr p A n c
 r : Row wr w.heap.size 29 #[.slice S sn sc]
 s : Rd wr p w.heap.size S sn sg
 g : w.grownBy wr (some p)
 hp : p < w.heap.size
section
variable {w : World} {p : Nat} {A : Option Addr} {n c : Nat} {S : Option Addr} {sn sc : Nat} {sg : List Int} {wr w' : World}
end
def HeadT (w : World) (p : Nat) (A : Option Addr) (n c : Nat) (S : Option Addr) (sn sc : Nat) (sg : List Int) (M : Nat) (out k : Value) (wr : World) : Prop :=
 ∃ (q : Nat) (O : Option Addr) (on oc : Nat) (xs : List Int), k = .int .i64 q ∧ q ≤ 3 ∧ out = .slice O on oc ∧ Own wr (w.heap.size + 1) (.slice O on oc) xs ∧ 1 ≤ on ∧ on + q * M ≤ 1 + 3 * M ∧ DT w p A n c S sn sc sg wr
end drawTerm
end
section
namespace drawAny
open Go.RowKit base ints sig term cursor termOk marks app sym dice drawSig drawTerm
set_option maxRecDepth 100000
theorem Own.cap {w : World} {base : Nat} {O : Option Addr} {on oc : Nat} {xs : List Int} (h : Own w base (.slice O on oc) xs) : on ≤ oc ∧ oc ≤ 9223372036854775807 := by
 rcases h.2 with ⟨e, _⟩ | ⟨g, cap, cur, e, _, _, h1, h2, _⟩
 ·injection e with _ e1 e2; omega
 ·injection e with _ e1 e2
  have := Own.len h
  unfold maxLen at h2
  omega
theorem Own.some_ {w : World} {base : Nat} {O : Option Addr} {on oc : Nat} {xs : List Int} (h : Own w base (.slice O on oc) xs) (h1 : 1 ≤ on) : ∃ g, O = some ⟨g, 0, none⟩ := by
 rcases h.2 with ⟨e, _⟩ | ⟨g, cap, cur, e, _⟩
 ·injection e with _ e1 e2; omega
 ·injection e with e _ _; exact ⟨g, e⟩
end drawAny
end
section
namespace drawX
open Go.RowKit base ints sig cursor marks app appAt sym segs shape dice
def RdQ (w : World) (Q : Nat → Prop) : (s : Sh) → List Value → Dat s → Prop
 | .num, cs, (x : Int) => cs = [.int .i64 x]
 | .bit, cs, (x : Bool) => cs = [.bool x]
 | .row _ s, cs, (d : List (Dat s)) => ∃ A n c, cs = [.slice A n c] ∧ Cap A n c ∧ d.length = n ∧
   (0 < n → ∃ b off, A = some ⟨b, off, none⟩ ∧ Q b ∧ ∀ j, j < n → ∃ es, es.length = nc s ∧ Piece w b (off + j * nc s) es ∧ RdQ w Q s es (d.getD j (dft s)))
 | .cat a b, cs, d => ∃ ca cb, cs = ca ++ cb ∧ RdQ w Q a ca d.1 ∧ RdQ w Q b cb d.2
section
variable {w w' : World} {Q Q' : Nat → Prop} {B : Nat}
theorem RdQ.keep (hk : ∀ b, Q b → w'.heap[b]? = w.heap[b]?) : ∀ {s : Sh} {cs : List Value} {d : Dat s}, RdQ w Q s cs d → RdQ w' Q s cs d
 | .num, _, _, h => h
 | .bit, _, _, h => h
 | .row _ s, _, _, h => by
  obtain ⟨A, n, c, e, hc, hl, h1⟩ := h
  refine ⟨A, n, c, e, hc, hl, fun hn => ?_⟩
  obtain ⟨b, off, e2, hb, h2⟩ := h1 hn
  refine ⟨b, off, e2, hb, fun j hj => ?_⟩
  obtain ⟨es, he, hp, hr⟩ := h2 j hj
  exact ⟨es, he, hp.keep (fun p hp => World.cell?_of_block (by rw [hp]; exact hk b hb)), hr.keep hk⟩
 | .cat a b, _, _, h => by
  obtain ⟨ca, cb, e, h1, h2⟩ := h
  exact ⟨ca, cb, e, h1.keep hk, h2.keep hk⟩
theorem RdQ.rd (hk : ∀ b, Q b → b < B) : ∀ {s : Sh} {cs : List Value} {d : Dat s}, RdQ w Q s cs d → Rd w B s cs d
 | .num, _, _, h => h
 | .bit, _, _, h => h
 | .row _ s, _, _, h => by
  obtain ⟨A, n, c, e, hc, hl, h1⟩ := h
  refine ⟨A, n, c, e, hc, hl, fun hn => ?_⟩
  obtain ⟨b, off, e2, hb, h2⟩ := h1 hn
  refine ⟨b, off, e2, hk b hb, fun j hj => ?_⟩
  obtain ⟨es, he, hp, hr⟩ := h2 j hj
  exact ⟨es, he, hp, hr.rd hk⟩
 | .cat a b, _, _, h => by
  obtain ⟨ca, cb, e, h1, h2⟩ := h
  exact ⟨ca, cb, e, h1.rd hk, h2.rd hk⟩
theorem RdQ.len : ∀ {s : Sh} {cs : List Value} {d : Dat s}, RdQ w Q s cs d → cs.length = nc s
 | .num, _, _, h => by have h : _ = _ := h; rw [h]; rfl
 | .bit, _, _, h => by have h : _ = _ := h; rw [h]; rfl
 | .row _ _, _, _, h => by obtain ⟨A, n, c, e, _⟩ := h; rw [e]; rfl
 | .cat a b, _, _, h => by
  obtain ⟨ca, cb, e, h1, h2⟩ := h
  rw [e, List.length_append, h1.len, h2.len]; rfl
theorem RdQ.cat {a b : Sh} {ca cb : List Value} {x : Dat a} {y : Dat b} (h1 : RdQ w Q a ca x) (h2 : RdQ w Q b cb y) : RdQ w Q (.cat a b) (ca ++ cb) (x, y) := ⟨ca, cb, rfl, h1, h2⟩
end
def OutR (w : World) (p : Nat) (r : Option Nat) (b : Nat) : Prop := b < w.heap.size ∧ b ≠ p ∧ some b ≠ r
section
variable {w w' : World} {p : Nat} {r : Option Nat} {s : Sh} {cs : List Value} {d : Dat s}
end
def cellsOf (k : Nat) (vs : List Value) (j : Nat) : List Value := (vs.drop (j * k)).take k
def OwnQ (w : World) (p lo : Nat) (e : TypeId) (s : Sh) (A : Option Addr) (n c : Nat) (D : List (Dat s)) : Prop :=
 D.length = n ∧ ∃ vs : List Value, w.ownsRow lo e (nc s) (.slice A n c) n vs ∧ ∀ j, j < n → RdQ w (OutR w p (blk A)) s (cellsOf (nc s) vs j) (D.getD j (dft s))
section
variable {w w' : World} {p lo n c : Nat} {e : TypeId} {s : Sh} {A : Option Addr} {D : List (Dat s)}
theorem OwnQ.nil (w : World) (p lo : Nat) (e : TypeId) (s : Sh) : OwnQ w p lo e s none 0 0 [] := ⟨rfl, [], ⟨by simp, .inl ⟨rfl, rfl⟩⟩, fun j hj => absurd hj (Nat.not_lt_zero _)⟩
end
end drawX
end
section
namespace stk
open Go.RowKit base ints marks app sym appAt segs segsMark kinds shape drawX
set_option maxRecDepth 100000
def Stk (w : World) (Q : Nat → Prop) (lo : Nat) (A : Option Addr) (n c : Nat) (D : List (List Int)) : Prop :=
 D.length = n ∧ ∃ vs : List Value, w.ownsRow lo 27 1 (.slice A n c) n vs ∧ ∀ j, j < n → RdQ w Q sI [vs.getD j undef] (D.getD j [])
def Keep (Q : Nat → Prop) (w w' : World) : Prop := ∀ b, Q b → w'.heap[b]? = w.heap[b]?
section
variable {w w' : World} {Q Q' : Nat → Prop} {lo n c : Nat} {A : Option Addr} {D : List (List Int)}
theorem Keep.below {B : Nat} (h : Below B w w') (hQ : ∀ b, Q b → b < B) : Keep Q w w' := fun b hb => h.block b (hQ b hb)
theorem Stk.nil (w : World) (Q : Nat → Prop) (lo : Nat) : Stk w Q lo none 0 0 [] := ⟨rfl, [], World.ownsRow_nil w lo _ _, fun j hj => absurd hj (Nat.not_lt_zero j)⟩
theorem Stk.keep {r : Option Nat} (h : Stk w Q lo A n c D) (hg : w.grownBy w' r) (hne : blk A = none ∨ blk A ≠ r) (hk : Keep Q w w') : Stk w' Q lo A n c D := by
 obtain ⟨h1, vs, h2, h3⟩ := h
 exact ⟨h1, vs, World.ownsRow.kept h2 hg (by rw [blk_own]; exact hne), fun j hj => (h3 j hj).keep hk⟩
theorem Stk.next (h : Stk w Q lo A n c D) (hb : Below w.heap.size w w') (hQ : ∀ b, Q b → b < w.heap.size) : Stk w' Q lo A n c D :=
 h.keep (r := none) ⟨hb.os, hb.tape, hb.output, hb.size, fun k hk _ => hb.block k hk⟩ (by cases blk A <;> simp) (Keep.below hb hQ)
end
end stk
end
section
namespace partsSpec
open Go.RowKit base ints sig term arity endOf marks app segs kinds shape drawX forest stk
set_option maxRecDepth 100000
theorem Fo.le {sg : List Int} {q : Nat} {l : List Int} (h : Fo sg q l) : q ≤ l.length := by
 induction h with
 | nil => exact Nat.zero_le _
 | var x r q h h1 ih => simp; exact ih
 | app x r q h h2 h1 ih => simp; omega
end partsSpec
end
section
namespace kboLink
open sig term termOk forest partsSpec lpoMath lpoLink rankMath rankSpec kboMath
variable {sg sy rk : List Int} {v : Int}
theorem getD_get {l : List Int} {k : Nat} (h : k < l.length) : l.getD k 0 = l[k] := by simp [h]
end kboLink
end
section
open Go.Lib (hid)
namespace anyJ
open Go.RowKit base ints sig anyR
set_option maxRecDepth 100000
def TestsJ (g : Nat) (lb : Array Value) (J : World → Prop) (xs : List Int) (f : Int → Bool) : Prop := ∀ (W : World) (x : Int), J W → x ∈ xs → Calls Try.prog g (#[.int .i64 x] ++ lb) W fun e w' => e = .returned (.bool (f x)) ∧ J w'
def FstJ (f : Int → Bool) (xs : List Int) (z : Int) : Prop := (z = -1 ∧ ∀ j, j < xs.length → f (xs.getD j 0) = false) ∨ ∃ k : Nat, z = (k : Int) ∧ k < xs.length ∧ f (xs.getD k 0) = true ∧ ∀ j, j < k → f (xs.getD j 0) = false
def AnsJx (J : World → Prop) (f : Int → Bool) (xs : List Int) (e : Ending) (w' : World) : Prop := ∃ z : Int, e = .returned (.int .i64 z) ∧ FstJ f xs z ∧ J w'
def HeadJx (J : World → Prop) (n : Nat) (f : Int → Bool) (xs : List Int) (i : Value) (wr : World) : Prop := ∃ k : Nat, k ≤ n ∧ i = .int .i64 k ∧ (∀ j, j < k → f (xs.getD j 0) = false) ∧ J wr
set_option maxHeartbeats 2000000 in
theorem indexFuncJ (g : Nat) (lb : Array Value) (eg : ∀ args w, (callFunc g args).run Try.prog w = .ok (.enter g args) w) (J : World → Prop) (f : Int → Bool) (A : Option Addr) (n c : Nat) (xs : List Int) (w : World) (hT : TestsJ g lb J xs f)
  (hR : ∀ W, J W → Seg W W.heap.size A n xs) (hJ : J w) (hl : xs.length = n) (hn : n ≤ 1048576) :
  Calls Try.prog 145 #[.slice A n c, .func (.func g) #[] lb] w (AnsJx J f xs) := by
 have HL := hid hl
 have HK := hid hT
 have HR := hid hR
 have HH : Hid (HeadJx J n f xs (.int .i64 0) w) := hid ⟨0, Nat.zero_le _, rfl, fun j hj => absurd hj (Nat.not_lt_zero _), hJ⟩
 clear hT hR hl hJ
 go_enter Try.func145, Try.ntmps145
 go_wp2_with fail
 go_loopw [8] (fun i wr => HeadJx J n f xs i wr) (fun i _ => n - (intOf i).toNat)
 case atStart => exact HH.out
 case round =>
  obtain ⟨k, hk, rfl, hlow, hJ⟩ := hrel
  have HLOW := hid hlow
  have HJ := hid hJ
  clear hlow HH hJ
  by_cases hlt : k < n
  ·have hkD : k < xs.length := by rw [HL.out]; exact hlt
   obtain ⟨b, off, x, rfl, hbB, hx, ex⟩ := (HR.out wr HJ.out).spot hlt
   have hcall := HK.out wr x HJ.out (mem_at hkD ex.out)
   obtain ⟨v, hv⟩ : ∃ v, f x = v := ⟨_, rfl⟩
   rw [hv] at hcall
   have HV := hid hv
   have HC := hid hcall
   have i0 : (0 : Int) ≤ (k : Int) := by omega
   have i1 : (k : Int) < (n : Int) := by omega
   clear hv hcall
   cases v with
   | true =>
    go_wp2_with (first
     | (go_at_fn g; refine HC.out.mono ?_; rintro e w1 ⟨rfl, jj⟩))
    have F : AnsJx J f xs (.returned (.int .i64 (k : Int))) w1 := ⟨k, rfl, .inr ⟨k, rfl, hkD, by rw [ex.out]; exact HV.out, HLOW.out⟩, jj⟩
    have HF := hid F
    clear F jj HC
    go_wp2
    go_ret
    exact HF.out
   | false =>
    go_wp2_with (first
     | (go_at_fn g; refine HC.out.mono ?_; rintro e w1 ⟨rfl, jj⟩))
    have S1 : HeadJx J n f xs (.int .i64 ((k : Int) + 1)) w1 := ⟨k + 1, hlt, by simp, fun j hj => by
     by_cases e : j = k
     ·rw [e, ex.out]; exact HV.out
     ·exact HLOW.out j (by omega), jj⟩
    have HS1 := hid S1
    clear S1 jj HC
    go_wp2
    go_roundw
    case rel => exact HS1.out
    case measure => simp [intOf]; omega
  ·have F : AnsJx J f xs (.returned (.int .i64 (-1))) wr := ⟨-1, rfl, .inl ⟨rfl, fun j hj => HLOW.out j (by rw [HL.out] at hj; omega)⟩, HJ.out⟩
   have HF := hid F
   clear F
   go_wp2
   go_ret
   exact HF.out
theorem fstJ_any {f : Int → Bool} {xs : List Int} {z : Int} (h : FstJ f xs z) : decide (0 ≤ z) = xs.any f := by
 rcases h with ⟨rfl, h⟩ | ⟨k, rfl, hk, h, -⟩
 ·rw [decide_eq_false (by omega)]
  exact (none_of h).symm
 ·rw [decide_eq_true (by omega)]
  exact (any_of hk rfl h).symm
theorem fstJ_bd {f : Int → Bool} {xs : List Int} {z : Int} (h : FstJ f xs z) (hn : xs.length ≤ 1048576) : -1 ≤ z ∧ z ≤ 1048576 := by
 rcases h with ⟨rfl, -⟩ | ⟨k, rfl, hk, -⟩ <;> omega
theorem containsFuncJ (g : Nat) (lb : Array Value) (eg : ∀ args w, (callFunc g args).run Try.prog w = .ok (.enter g args) w) (J : World → Prop) (f : Int → Bool) (A : Option Addr) (n c : Nat) (xs : List Int) (w : World) (hT : TestsJ g lb J xs f)
  (hR : ∀ W, J W → Seg W W.heap.size A n xs) (hJ : J w) (hl : xs.length = n) (hn : n ≤ 1048576) :
  Calls Try.prog 116 #[.slice A n c, .func (.func g) #[] lb] w (fun e w' => e = .returned (.bool (xs.any f)) ∧ J w') := by
 have L := hid (indexFuncJ g lb eg J f A n c xs w hT hR hJ hl hn)
 have hlen : xs.length ≤ 1048576 := by rw [hl]; exact hn
 clear hl hT hR hJ
 go_enter Try.func116, Try.ntmps116
 go_wp2_with fail
 refine L.out.mono ?_
 rintro e w' ⟨z, rfl, hz, jj⟩
 obtain ⟨h1, h2⟩ := fstJ_bd hz hlen
 have HZ := hid (fstJ_any hz)
 have HB := hid jj
 clear hz L jj hlen
 go_wp2
 go_ret
 exact ⟨by rw [← HZ.out]; rfl, HB.out⟩
end anyJ
end
section
namespace whole
open Go.RowKit base segs matchMath
set_option maxRecDepth 100000
section
variable {w w' : World} {B B' g : Nat} {cs : Array Value} {s : List (List Int)} {t : TypeId}
end
end whole
end
section
namespace inside
open Go.RowKit base ints sig term arity endOf cursor termOk endAt
set_option maxRecDepth 100000
structure Fr (w wr : World) (A : Option Addr) (n c : Nat) (sg : List Int) (A' : Option Addr) (m : Nat) (t : List Int) : Prop where
 r : Row wr w.heap.size 29 #[.slice A n c]
 s : Seg wr w.heap.size A n sg
 s' : Seg wr w.heap.size A' m t
 b : Below w.heap.size w wr
section
variable {w wr w' : World} {A : Option Addr} {n c : Nat} {sg : List Int} {A' : Option Addr} {m : Nat} {t : List Int}
theorem Fr.next (f : Fr w wr A n c sg A' m t) (hb : Below wr.heap.size wr w') : Fr w w' A n c sg A' m t :=
 have b : Below w.heap.size wr w' := hb.mono (Nat.le_of_lt f.r.lt)
 ⟨f.r.next hb, f.s.below b, f.s'.below b, f.b.trans b⟩
theorem Fr.over (f : Fr w wr A n c sg A' m t) (hb : Below (w.heap.size + 1) wr w') : Fr w w' A n c sg A' m t :=
 have b : Below w.heap.size wr w' := hb.mono (Nat.le_succ _)
 ⟨f.r.below hb (Nat.lt_succ_self _), f.s.below b, f.s'.below b, f.b.trans b⟩
theorem Fr.s1 (f : Fr w wr A n c sg A' m t) : Seg wr wr.heap.size A n sg := f.s.more (Nat.le_of_lt f.r.lt)
theorem Fr.t1 (f : Fr w wr A n c sg A' m t) : Seg wr wr.heap.size A' m t := f.s'.more (Nat.le_of_lt f.r.lt)
theorem Fr.size (f : Fr w wr A n c sg A' m t) : w.heap.size < wr.heap.size := f.r.lt
end
end inside
end
section
namespace plain
open Go.RowKit base ints cursor same marks app appAt sym sub segs segsHelp kinds fillMath Go.Proofs.Ytiimbmkofpnebaa.look plainMath
set_option maxRecDepth 100000
end plain
end
section
namespace plainOf
open Go.RowKit base ints sig cursor marks app appAt sym sub segs segsHelp kinds varsOf fillMath Go.Proofs.Ytiimbmkofpnebaa.look substOk gives plainMath plain
set_option maxRecDepth 100000
end plainOf
end
section
namespace matchSpec
open Go.RowKit base ints sig same term termOk endAt inside marks app sym sub segs segsHelp termFacts termMath posMath plainMath plain plainOf gives cursor matchMath
set_option maxRecDepth 100000
structure Tab (w : World) (T : Nat) (s : List (List Int)) : Prop where
 len : s.length = 24
 row : ∃ cs, Row w T 27 cs ∧ cs.size = 24 ∧ ∀ j, j < 24 → ∃ A n c, cs[j]? = some (.slice A n c) ∧ Own w (T + 1) (.slice A n c) (s.getD j [])
section
variable {w w' : World} {T : Nat} {s : List (List Int)}
theorem Tab.next (h : Tab w T s) (hb : Below w.heap.size w w') : Tab w' T s := by
 obtain ⟨cs, hr, hs, hc⟩ := h.row
 exact ⟨h.len, cs, hr.next hb, hs, fun j hj => by obtain ⟨A, n, c, e, ho⟩ := hc j hj; exact ⟨A, n, c, e, Own.next ho hb⟩⟩
theorem Tab.at (h : Tab w T s) {j : Nat} (hj : j < 24) : ∃ A n c, w.cell? ⟨T, j, none⟩ = some (.slice A n c) ∧ Own w (T + 1) (.slice A n c) (s.getD j []) := by
 obtain ⟨cs, hr, hs, hc⟩ := h.row
 obtain ⟨A, n, c, e, ho⟩ := hc j hj
 exact ⟨A, n, c, by rw [hr.cell j, e], ho⟩
end
structure Mt (w wr : World) (A : Option Addr) (n c : Nat) (sg : List Int) (P : Option Addr) (pn : Nat) (p : List Int) (Q : Option Addr) (m : Nat) (t : List Int) (s : List (List Int)) : Prop where
 r0 : Row wr w.heap.size 29 #[.slice A n c]
 r1 : Row wr (w.heap.size + 1) 37 #[.slice none 0 0]
 r3 : Row wr (w.heap.size + 1 + 1 + 1) 37 #[.slice (some ⟨w.heap.size + 1 + 1, 0, none⟩) 24 24]
 tb : Tab wr (w.heap.size + 1 + 1) s
 ss : Seg wr w.heap.size A n sg
 sp : Seg wr w.heap.size P pn p
 st : Seg wr w.heap.size Q m t
 b : Below w.heap.size w wr
section
variable {w wr w' : World} {A : Option Addr} {n c : Nat} {sg : List Int} {P : Option Addr} {pn : Nat} {p : List Int} {Q : Option Addr} {m : Nat} {t : List Int} {s : List (List Int)}
theorem Mt.next (h : Mt w wr A n c sg P pn p Q m t s) (hb : Below wr.heap.size wr w') : Mt w w' A n c sg P pn p Q m t s :=
 have b : Below w.heap.size wr w' := hb.mono h.b.size
 ⟨h.r0.next hb, h.r1.next hb, h.r3.next hb, h.tb.next hb, h.ss.below b, h.sp.below b, h.st.below b, h.b.trans b⟩
end
structure Mr (w wr : World) (A : Option Addr) (n c : Nat) (sg : List Int) (P : Option Addr) (pn : Nat) (p : List Int) (Q : Option Addr) (m : Nat) (t : List Int) : Prop where
 r0 : Row wr w.heap.size 29 #[.slice A n c]
 r1 : Row wr (w.heap.size + 1) 37 #[.slice none 0 0]
 ss : Seg wr wr.heap.size A n sg
 sp : Seg wr wr.heap.size P pn p
 st : Seg wr wr.heap.size Q m t
 b : Below w.heap.size w wr
section
variable {w wr w' : World} {A : Option Addr} {n c : Nat} {sg : List Int} {P : Option Addr} {pn : Nat} {p : List Int} {Q : Option Addr} {m : Nat} {t : List Int}
theorem Mr.next (h : Mr w wr A n c sg P pn p Q m t) (hb : Below wr.heap.size wr w') : Mr w w' A n c sg P pn p Q m t :=
 ⟨h.r0.next hb, h.r1.next hb, h.ss.next hb, h.sp.next hb, h.st.next hb, next_trans h.b hb⟩
end
end matchSpec
end
section
namespace whole
open Go.RowKit base cursor marks app sym segs matchMath matchSpec
set_option maxRecDepth 100000
section
variable {P : Program} {ops : Array Oper} {rest : List Oper} {o : Oper} {a : Act} {w : World} {Q : Exit → Act → World → Prop}
theorem rowAlloc (hgd : o.guard = none) (t : TypeId) (ho : o.op = .alloc t) (z : Array Value) (hz : ∀ w, (zeroValue t).run P w = .ok (.agg z) w)
  (h : wpList P ops Q rest (a.put o.dst (.pointer (some ⟨w.heap.size, 0, none⟩))) (w.alloc (.cells z t))) : wpList P ops Q (o :: rest) a w :=
 wpList_plain hgd fun _ hK => by
  unfold Oper.wp execOp
  simp only [ho, Instr.alloc, Sem.run_bind, hz, Result.andThen_ok, newVar, Value.cells]
  exact hK _ _ h
end
section
variable {w w' : World} {B B' g : Nat} {cs : Array Value} {s : List (List Int)} {t : TypeId}
end
end whole
end
section
open Go.Lib (hid)
namespace kboOft
open Go.RowKit base ints sig term termOk termFacts marks sym count varsOf ruleSpec anyJ whole kboMath kboLink
set_option maxRecDepth 100000
theorem cnt_all (t : List Int) (x : Int) : cnt t x t.length = t.count x := by unfold cnt; rw [List.take_length]
set_option maxHeartbeats 400000 in
theorem l14Count (A : Option Addr) (m c : Nat) (t : List Int) (x : Int) (w : World) (h : Seg w w.heap.size A m t) (hm : m ≤ 1048576) :
  Calls Try.prog 120 #[.slice A m c, .int .i64 x] w fun e w' => w = w' ∧ e = .returned (.int .i64 (t.count x : Nat)) := by
 rw [← cnt_all]
 have HL := hid h.1
 go_enter Try.func120, Try.ntmps120
 go_wp2
 go_loop [5, 6] (fun many i => HeadCnt m t x many i) (fun _ i => m - (intOf i).toNat)
 case atStart => exact ⟨0, Nat.zero_le _, rfl, rfl⟩
 case round =>
  obtain ⟨k, hk, rfl, rfl⟩ := hrel
  have hle := cnt_le t x k
  by_cases hlt : k < m
  ·obtain ⟨b, off, y, rfl, -, hy, ey⟩ := h.spot hlt
   by_cases he : y = x
   ·subst he
    have S := hid (headCnt_yes HL.out hlt ey)
    have e1 : (y == y) = true := by simp
    clear h ey
    generalize cnt t y k = z at *
    go_wp2
    go_round
    case rel => exact S.out
    case measure => simp [intOf]; omega
   ·have S := hid (headCnt_no HL.out hlt ey he)
    have e1 : (y == x) = false := by simp [he]
    clear h ey
    generalize cnt t x k = z at *
    go_wp2
    go_round
    case rel => exact S.out
    case measure => simp [intOf]; omega
  ·have e : cnt t x k = cnt t x t.length := by rw [HL.out, show k = m by omega]
   have E := hid e
   clear h e
   generalize cnt t x k = z at *
   go_wp2
   go_ret
   exact ⟨rfl, by rw [← E.out]; rfl⟩
def goodAt (s t : List Int) (x : Int) : Bool := !decide (x < 0) || decide (s.count x ≤ t.count x)
theorem oft_bad {s t : List Int} {k : Nat} {x : Int} (hk : k < s.length) (ex : s.getD k 0 = x) (h : goodAt s t x = false) : oft s t = false := by
 unfold oft
 rw [List.all_eq_false]
 refine ⟨x, ?_, by unfold goodAt at h; rw [h]; decide⟩
 rw [← ex, getD_get hk]
 exact List.getElem_mem _
theorem oft_good {s t : List Int} (h : ∀ j, j < s.length → goodAt s t (s.getD j 0) = true) : oft s t = true := by
 unfold oft
 rw [List.all_eq_true]
 intro x hx
 obtain ⟨k, hk, rfl⟩ := List.getElem_of_mem hx
 have := h k hk
 rw [getD_get hk] at this
 exact this
def HeadOf (w : World) (n : Nat) (s t : List Int) (i : Value) (wr : World) : Prop := ∃ k : Nat, k ≤ n ∧ i = .int .i64 k ∧ (∀ j, j < k → goodAt s t (s.getD j 0) = true) ∧ Below w.heap.size w wr
theorem headOf_step {w wr : World} {n k : Nat} {s t : List Int} {x : Int} (hk : k < n) (hlow : ∀ j, j < k → goodAt s t (s.getD j 0) = true) (ex : Hid (s.getD k 0 = x)) (h : goodAt s t x = true) (hb : Below w.heap.size w wr) : HeadOf w n s t (.int .i64 ((k : Int) + 1)) wr :=
 ⟨k + 1, hk, by simp, fun j hj => by
  by_cases e : j = k
  ·subst e; rw [ex.out]; exact h
  ·exact hlow j (by omega), hb⟩
set_option maxHeartbeats 4000000 in
theorem l14Often (S T : Option Addr) (m mc k kc : Nat) (s t : List Int) (w : World) (hS : Seg w w.heap.size S m s) (hT : Seg w w.heap.size T k t) (hm : m ≤ 1048576) (hk : k ≤ 1048576) :
  Calls Try.prog 87 #[.slice S m mc, .slice T k kc] w (AnsB w (oft s t)) := by
 have HL := hid hS.1
 have H0 : Hid (HeadOf w m s t (.int .i64 0) w) := hid ⟨0, Nat.zero_le _, rfl, fun j hj => absurd hj (Nat.not_lt_zero _), Below.refl _ _⟩
 go_enter Try.func87, Try.ntmps87
 go_wp2
 go_loopw [5] (fun i wr => HeadOf w m s t i wr) (fun i _ => m - (intOf i).toNat)
 case atStart => exact H0.out
 case round =>
  obtain ⟨j, hj, rfl, hlow, hb⟩ := hrel
  have HLOW := hid hlow
  clear hlow H0
  by_cases hlt : j < m
  ·obtain ⟨b, off, y, rfl, hbB, hy0, ey⟩ := hS.spot hlt
   have hy : wr.cell? ⟨b, off + j, none⟩ = some (.int .i64 y) := (hb.cell (p := ⟨b, off + j, none⟩) hbB).trans hy0
   have i0 : (0 : Int) ≤ (j : Int) := by omega
   have i1 : (j : Int) < (m : Int) := by omega
   have LC2 := hid (fun d' : Nat => l14Count T k kc t y (wr.drewN d') ((hT.next hb).drewN d') hk)
   have LC1 := hid (fun d' : Nat => l14Count (some ⟨b, off, none⟩) m mc s y (wr.drewN d') ((hS.next hb).drewN d') hm)
   by_cases hyn : y < 0
   ·have hdy : decide (y < 0) = true := decide_eq_true hyn
    obtain ⟨p, hp⟩ : ∃ p, s.count y = p := ⟨_, rfl⟩
    obtain ⟨q, hq⟩ : ∃ q, t.count y = q := ⟨_, rfl⟩
    rw [hp] at LC1
    rw [hq] at LC2
    by_cases hpq : q < p
    ·have M := hid (show goodAt s t y = false by unfold goodAt; rw [hdy, hp, hq, decide_eq_false (by omega)]; rfl)
     have F := hid (fun d' : Nat => ansB (w' := wr.drewN d') (b := oft s t) (a := false) (by rw [oft_bad (by rw [HL.out]; exact hlt) ey.out M.out]) (below_drewN hb d'))
     have hpd : decide ((q : Int) < (p : Int)) = true := decide_eq_true (by omega)
     clear hS hT hb hy0 ey hp hq
     go_wp2_with fail
     go_quiet (first
      | (go_at_call_of 120 (Value.slice (some ⟨b, off, none⟩) m mc); exact Calls.quiet_of_same (v := .int .i64 p) ((LC1.out _).mono fun _ _ ⟨h1, h2⟩ => ⟨h2, h1.symm⟩))
      | (go_at_call_of 120 (Value.slice T k kc); exact Calls.quiet_of_same (v := .int .i64 q) ((LC2.out _).mono fun _ _ ⟨h1, h2⟩ => ⟨h2, h1.symm⟩)))
     go_wp2
     go_ret
     exact F.out _
    ·have M := hid (show goodAt s t y = true by unfold goodAt; rw [hdy, hp, hq, decide_eq_true (show p ≤ q by omega)]; rfl)
     have S1 := hid (fun d' : Nat => headOf_step (w := w) (wr := wr.drewN d') hlt HLOW.out ey M.out (below_drewN hb d'))
     have hpd : decide ((q : Int) < (p : Int)) = false := decide_eq_false (by omega)
     clear hS hT hb hy0 ey hp hq
     go_wp2_with fail
     go_quiet (first
      | (go_at_call_of 120 (Value.slice (some ⟨b, off, none⟩) m mc); exact Calls.quiet_of_same (v := .int .i64 p) ((LC1.out _).mono fun _ _ ⟨h1, h2⟩ => ⟨h2, h1.symm⟩))
      | (go_at_call_of 120 (Value.slice T k kc); exact Calls.quiet_of_same (v := .int .i64 q) ((LC2.out _).mono fun _ _ ⟨h1, h2⟩ => ⟨h2, h1.symm⟩)))
     go_wp2
     go_roundw
     case rel => exact S1.out _
     case measure => simp [intOf]; omega
   ·have hdy : decide (y < 0) = false := decide_eq_false hyn
    have M := hid (show goodAt s t y = true by unfold goodAt; rw [hdy]; rfl)
    have S1 := hid (fun d' : Nat => headOf_step (w := w) (wr := wr.drewN d') hlt HLOW.out ey M.out (below_drewN hb d'))
    clear hS hT hb hy0 ey LC1 LC2
    go_wp2_with fail
    go_quiet (fail)
    go_wp2
    go_roundw
    case rel => exact S1.out _
    case measure => simp [intOf]; omega
  ·have F := hid (ansB (b := oft s t) (a := true) (by rw [oft_good (fun i hi => HLOW.out i (by have := HL.out; omega))]) hb)
   clear hS hT hb
   go_wp2
   go_ret
   exact F.out
def z24i : Array Value := Array.replicate 24 (.int .i64 0)
theorem info_a : (Try.prog.info? 137).map (fun i => (i.zero, i.size)) = some (some (.agg z24i), 24) := by kernel_rfl
theorem zero_a : ∀ w, (zeroValue 137).run Try.prog w = .ok (.agg z24i) w := by
 intro w
 cases hq : Try.prog.info? 137 with
 | none => have h := info_a; simp [hq] at h
 | some i => have h := info_a; simp [hq] at h; simp [zeroValue, typeInfo, hq, h.1]
structure Arr (w : World) (g : Nat) (f : Nat → Int) : Prop where
 ex : ∃ cs : Array Value, cs.size = 24 ∧ Row w g 137 cs ∧ ∀ j, j < 24 → cs[j]? = some (.int .i64 (f j))
theorem Arr.lt {w : World} {g : Nat} {f : Nat → Int} (h : Arr w g f) : g < w.heap.size := by obtain ⟨cs, -, r, -⟩ := h.ex; exact r.lt
theorem Arr.cell {w : World} {g : Nat} {f : Nat → Int} (h : Arr w g f) {j : Nat} (hj : j < 24) : w.cell? ⟨g, j, none⟩ = some (.int .i64 (f j)) := by obtain ⟨cs, -, r, hc⟩ := h.ex; exact (r.cell j).trans (hc j hj)
theorem Arr.free {w : World} {g : Nat} {f : Nat → Int} (h : Arr w g f) (j : Nat) : w.frozen? ⟨g, j, none⟩ = false := by obtain ⟨cs, -, r, -⟩ := h.ex; exact r.free j
theorem Arr.put {w : World} {g : Nat} {f f' : Nat → Int} (h : Arr w g f) {j : Nat} (hj : j < 24) (x : Int) (h1 : f' j = x) (h2 : ∀ i, i ≠ j → f' i = f i) : Arr (w.setCell ⟨g, j, none⟩ (.int .i64 x)) g f' := by
 obtain ⟨cs, hs, r, hc⟩ := h.ex
 refine ⟨cs.setIfInBounds j (.int .i64 x), by simp [hs], r.put j _, ?_⟩
 intro i hi
 by_cases e : i = j
 ·subst e
  rw [Array.getElem?_setIfInBounds_self_of_lt (by omega), h1]
 ·rw [Array.getElem?_setIfInBounds_ne (fun e' => e e'.symm), hc i hi, h2 i e]
theorem Arr.new (w : World) : Arr (w.alloc (.cells z24i 137)) w.heap.size (fun _ => 0) :=
 ⟨z24i, by simp [z24i], Row.new _ _ _, fun j hj => by simp [z24i, hj]⟩
def bal (t s : List Int) (j : Nat) : Int := (t.count (-1 - (j : Int)) : Int) - (s.count (-1 - (j : Int)) : Int)
theorem bal_t {t : List Int} {k : Nat} {x : Int} {i : Nat} (hk : k < t.length) (ex : t.getD k 0 = x) : bal (t.take (k + 1)) [] i = bal (t.take k) [] i + (if x = -1 - (i : Int) then 1 else 0) := by
 have := cnt_step (x := -1 - (i : Int)) hk ex
 unfold cnt at this
 unfold bal
 rw [this]
 split <;> simp
theorem bal_s {t s : List Int} {k : Nat} {x : Int} {i : Nat} (hk : k < s.length) (ex : s.getD k 0 = x) : bal t (s.take (k + 1)) i = bal t (s.take k) i - (if x = -1 - (i : Int) then 1 else 0) := by
 have := cnt_step (x := -1 - (i : Int)) hk ex
 unfold cnt at this
 unfold bal
 rw [this]
 split <;> simp
 omega
theorem bal_bd {t s : List Int} {i : Nat} : -(s.length : Int) ≤ bal t s i ∧ bal t s i ≤ (t.length : Int) := by
 unfold bal
 have h1 := List.count_le_length (a := -1 - (i : Int)) (l := t)
 have h2 := List.count_le_length (a := -1 - (i : Int)) (l := s)
 omega
theorem any_bal {t s : List Int} (hs : ∀ x ∈ s, -24 ≤ x) : (((List.range 24).map (bal t s)).any fun c => decide (c < 0)) = !(oft s t) := by
 cases h : oft s t with
 | true =>
  show _ = false
  rw [List.any_eq_false]
  intro c hc
  obtain ⟨j, -, rfl⟩ := List.mem_map.1 hc
  have := oft_iff.1 h (-1 - (j : Int)) (by omega)
  unfold bal
  simp
  omega
 | false =>
  show _ = true
  rw [List.any_eq_true]
  unfold oft at h
  rw [List.all_eq_false] at h
  obtain ⟨x, hx, h⟩ := h
  have hx0 : x < 0 := by
   by_cases h0 : x < 0
   ·exact h0
   ·simp [h0] at h
  have hx1 := hs x hx
  refine ⟨bal t s (-1 - x).toNat, List.mem_map.2 ⟨_, List.mem_range.2 (by omega), rfl⟩, ?_⟩
  have e : -1 - (((-1 - x).toNat : Nat) : Int) = x := by omega
  unfold bal
  rw [e]
  rw [decide_eq_true hx0] at h
  simp at h
  simp
  omega
theorem isMissing (x : Int) (w : World) : Calls Try.prog 115 #[.int .i64 x] w fun e w' => e = .returned (.bool (decide (x < 0))) ∧ w' = w := by
 go_enter Try.func115, Try.ntmps115
 go_wp2
 go_ret
 exact ⟨rfl, rfl⟩
def HeadT (w : World) (n : Nat) (t : List Int) (i : Value) (wr : World) : Prop := ∃ j : Nat, j ≤ n ∧ i = .int .i64 j ∧ Arr wr w.heap.size (bal (t.take j) []) ∧ Below w.heap.size w wr
def HeadS (w : World) (n : Nat) (t s : List Int) (i : Value) (wr : World) : Prop := ∃ j : Nat, j ≤ n ∧ i = .int .i64 j ∧ Arr wr w.heap.size (bal t (s.take j)) ∧ Below w.heap.size w wr
theorem Arr.same {w : World} {g : Nat} {f f' : Nat → Int} (h : Arr w g f) (he : ∀ i, f i = f' i) : Arr w g f' := by
 have : f = f' := funext he
 rw [← this]; exact h
theorem Arr.seg {w : World} {g : Nat} {f : Nat → Int} (h : Arr w g f) : Seg w w.heap.size (some ⟨g, 0, none⟩) 24 ((List.range 24).map f) := by
 obtain ⟨cs, hs, r, hc⟩ := h.ex
 refine r.seg (by simp) h.lt ?_
 intro j hj
 rw [hc j hj]
 simp [hj]
set_option maxHeartbeats 4000000 in
theorem hasAsOften (T S : Option Addr) (k kc m mc : Nat) (t s : List Int) (w : World) (hT : Seg w w.heap.size T k t) (hS : Seg w w.heap.size S m s) (hk : k ≤ 1048576) (hm : m ≤ 1048576) (vT : ∀ x ∈ t, -24 ≤ x) (vS : ∀ x ∈ s, -24 ≤ x) :
  Calls Try.prog 74 #[.slice T k kc, .slice S m mc] w (AnsB w (oft s t)) := by
 have HL := hid hT.1
 have HM := hid hS.1
 have VT := hid vT
 have VS := hid vS
 obtain ⟨W, hW⟩ : ∃ W, W = w.alloc (.cells z24i 137) := ⟨_, rfl⟩
 have a0 : Arr W w.heap.size (fun _ => 0) := by rw [hW]; exact Arr.new w
 have b0 : Below w.heap.size w W := by rw [hW]; exact (Below.refl _ _).alloc (Nat.le_refl _) _
 have H0 : Hid (HeadT w k t (.int .i64 0) W) := hid ⟨0, Nat.zero_le _, rfl, a0.same fun i => by simp [bal], b0⟩
 have HW := hid hW
 have LC := hid (fun (W1 : World) (ha : Arr W1 w.heap.size (bal t s)) (hb : Below w.heap.size w W1) => containsFuncJ 115 #[] (enters_of Try.func115 (by kernel_rfl) rfl) (fun W2 => Arr W2 w.heap.size (bal t s) ∧ Below w.heap.size w W2) (fun c => decide (c < 0)) (some ⟨w.heap.size, 0, none⟩) 24 24 ((List.range 24).map (bal t s)) W1 (fun W2 x hJ _ => (isMissing x W2).mono fun e w' ⟨h1, h2⟩ => ⟨h1, by rw [h2]; exact hJ⟩) (fun W2 hJ => hJ.1.seg) ⟨ha, hb⟩ (by simp) (by omega))
 clear hW a0 b0 vT vS
 go_enter Try.func74, Try.ntmps74
 go_wp2_with (first
  | (refine rowAlloc rfl 137 rfl z24i zero_a ?_))
 rw [← HW.out]
 go_loopw [13] (fun i wr => HeadT w k t i wr) (fun i _ => k - (intOf i).toNat)
 case atStart => exact H0.out
 case round =>
  clear H0
  obtain ⟨j, hj, rfl, ar, hb⟩ := hrel
  by_cases hlt : j < k
  ·obtain ⟨b, off, x, rfl, hbB, hx0, ex⟩ := hT.spot hlt
   have hx : wr.cell? ⟨b, off + j, none⟩ = some (.int .i64 x) := (hb.cell (p := ⟨b, off + j, none⟩) hbB).trans hx0
   have i0 : (0 : Int) ≤ (j : Int) := by omega
   have i1 : (j : Int) < (k : Int) := by omega
   have hjl : j < t.length := by rw [HL.out]; exact hlt
   have hv := VT.out x (by rw [← ex.out, getD_get hjl]; exact List.getElem_mem _)
   by_cases hneg : x < 0
   ·obtain ⟨v, hv⟩ : ∃ v : Nat, x = -1 - (v : Int) := ⟨(-1 - x).toNat, by omega⟩
    subst hv
    have hv24 : v < 24 := by omega
    have ev : -1 - (-1 - (v : Int)) = (v : Int) := by omega
    have hd : decide (-1 - (v : Int) < 0) = true := decide_eq_true hneg
    obtain ⟨z, hz⟩ : ∃ z, bal (t.take j) [] v = z := ⟨_, rfl⟩
    have hzb := bal_bd (t := t.take j) (s := []) (i := v)
    have hzl : (t.take j).length ≤ 1048576 := by rw [List.length_take]; omega
    have cA := ar.cell hv24
    have fA := ar.free v
    rw [hz] at cA hzb
    simp only [List.length_nil] at hzb
    have S1 := hid (show HeadT w k t (.int .i64 ((j : Int) + 1)) (wr.setCell ⟨w.heap.size, v, none⟩ (.int .i64 (z + 1))) from ⟨j + 1, hlt, by simp, ar.put hv24 (z + 1) (by rw [bal_t hjl ex.out, hz, if_pos rfl]) (fun i hi => by rw [bal_t hjl ex.out, if_neg (by omega)]; omega), hb.setCell (Nat.le_refl _) _⟩)
    clear ar hb hx0 ex hz
    go_wp2
    go_roundw
    case rel => exact S1.out
    case measure => simp [intOf]; omega
   ·have hd : decide (x < 0) = false := decide_eq_false hneg
    have S1 := hid (show HeadT w k t (.int .i64 ((j : Int) + 1)) wr from ⟨j + 1, hlt, by simp, ar.same fun i => by rw [bal_t hjl ex.out, if_neg (by omega)]; omega, hb⟩)
    clear ar hb hx0 ex
    go_wp2
    go_roundw
    case rel => exact S1.out
    case measure => simp [intOf]; omega
  ·have ej : t.take j = t := by rw [List.take_of_length_le (by rw [HL.out]; omega)]
   rw [ej] at ar
   have H1 : Hid (HeadS w m t s (.int .i64 0) wr) := hid ⟨0, Nat.zero_le _, rfl, ar.same fun i => by simp, hb⟩
   clear ar hb ej
   go_wp2
   go_loopw [28] (fun i wr => HeadS w m t s i wr) (fun i _ => m - (intOf i).toNat)
   case atStart => exact H1.out
   case round =>
    clear H1
    obtain ⟨j, hj, rfl, ar, hb⟩ := hrel
    by_cases hlt : j < m
    ·obtain ⟨b, off, x, rfl, hbB, hx0, ex⟩ := hS.spot hlt
     have hx : wr.cell? ⟨b, off + j, none⟩ = some (.int .i64 x) := (hb.cell (p := ⟨b, off + j, none⟩) hbB).trans hx0
     have i0 : (0 : Int) ≤ (j : Int) := by omega
     have i1 : (j : Int) < (m : Int) := by omega
     have hjl : j < s.length := by rw [HM.out]; exact hlt
     have hv := VS.out x (by rw [← ex.out, getD_get hjl]; exact List.getElem_mem _)
     by_cases hneg : x < 0
     ·obtain ⟨v, hv⟩ : ∃ v : Nat, x = -1 - (v : Int) := ⟨(-1 - x).toNat, by omega⟩
      subst hv
      have hv24 : v < 24 := by omega
      have ev : -1 - (-1 - (v : Int)) = (v : Int) := by omega
      have hd : decide (-1 - (v : Int) < 0) = true := decide_eq_true hneg
      obtain ⟨z, hz⟩ : ∃ z, bal t (s.take j) v = z := ⟨_, rfl⟩
      have hzb := bal_bd (t := t) (s := s.take j) (i := v)
      have hzl : (s.take j).length ≤ 1048576 := by rw [List.length_take]; omega
      have htl : t.length ≤ 1048576 := by rw [HL.out]; exact hk
      have cA := ar.cell hv24
      have fA := ar.free v
      rw [hz] at cA hzb
      have S1 := hid (show HeadS w m t s (.int .i64 ((j : Int) + 1)) (wr.setCell ⟨w.heap.size, v, none⟩ (.int .i64 (z - 1))) from ⟨j + 1, hlt, by simp, ar.put hv24 (z - 1) (by rw [bal_s hjl ex.out, hz, if_pos rfl]) (fun i hi => by rw [bal_s hjl ex.out, if_neg (by omega)]; omega), hb.setCell (Nat.le_refl _) _⟩)
      clear ar hb hx0 ex hz
      go_wp2
      go_roundw
      case rel => exact S1.out
      case measure => simp [intOf]; omega
     ·have hd : decide (x < 0) = false := decide_eq_false hneg
      have S1 := hid (show HeadS w m t s (.int .i64 ((j : Int) + 1)) wr from ⟨j + 1, hlt, by simp, ar.same fun i => by rw [bal_s hjl ex.out, if_neg (by omega)]; omega, hb⟩)
      clear ar hb hx0 ex
      go_wp2
      go_roundw
      case rel => exact S1.out
      case measure => simp [intOf]; omega
    ·have ej : s.take j = s := by rw [List.take_of_length_le (by rw [HM.out]; omega)]
     rw [ej] at ar
     have L1 := hid (LC.out wr ar hb)
     have EA := hid (any_bal (t := t) VS.out)
     obtain ⟨u, hu⟩ : ∃ u, ((List.range 24).map (bal t s)).any (fun c => decide (c < 0)) = u := ⟨_, rfl⟩
     rw [hu] at L1 EA
     clear ar hb ej hu
     go_wp2_with fail
     refine L1.out.mono ?_
     rintro e w3 ⟨rfl, -, hb⟩
     have F := hid (ansB (b := oft s t) (a := !u) (by rw [EA.out]; simp) hb)
     clear hb L1
     go_wp2
     go_ret
     exact F.out
end kboOft
end
section
open Go.Lib (hid)
namespace ruleImpl
open Go.RowKit base ints sig term termOk marks app appAt sym segs termFacts varsMath varsOf rename same count linear shape kindsR ruleMath ruleSpec anyR
set_option maxRecDepth 100000
theorem dbl_oft (x : Rl) : dblB x = !Go.Proofs.Ytiimbmkofpnebaa.kboMath.oft x.2 x.1 := by
 cases h : Go.Proofs.Ytiimbmkofpnebaa.kboMath.oft x.2 x.1 with
 | true =>
  unfold dblB
  rw [List.any_eq_false.2]
  ·rfl
  ·intro y _
   unfold moreB many
   rw [Go.Proofs.Ytiimbmkofpnebaa.kboOft.cnt_all, Go.Proofs.Ytiimbmkofpnebaa.kboOft.cnt_all]
   have := Go.Proofs.Ytiimbmkofpnebaa.kboMath.oft_iff.1 h y
   intro hh
   have h2 := of_decide_eq_true hh
   have := this h2.1
   omega
 | false =>
  unfold dblB
  unfold Go.Proofs.Ytiimbmkofpnebaa.kboMath.oft at h
  rw [List.all_eq_false] at h
  obtain ⟨y, hy, h⟩ := h
  rw [List.any_eq_true.2 ⟨y, hy, ?_⟩]
  ·rfl
  ·unfold moreB many
   rw [Go.Proofs.Ytiimbmkofpnebaa.kboOft.cnt_all, Go.Proofs.Ytiimbmkofpnebaa.kboOft.cnt_all]
   by_cases h0 : y < 0
   ·rw [decide_eq_true h0] at h
    simp at h
    exact decide_eq_true ⟨h0, by omega⟩
   ·simp [h0] at h
set_option maxHeartbeats 2000000 in
theorem dupl (l r : Value) (x : Dat sRule) (w : World) (h : Rd w w.heap.size sRule [l, r] x) (hz : sz sRule x ≤ 1048576) (v1 : ∀ y ∈ (x.1 : List Int), -24 ≤ y) (v2 : ∀ y ∈ (x.2 : List Int), -24 ≤ y) :
  Calls Try.prog 98 #[.agg #[l, r]] w (AnsB w (!Go.Proofs.Ytiimbmkofpnebaa.kboMath.oft x.2 x.1)) := by
 obtain ⟨A1, n1, c1, A2, n2, c2, rfl, rfl, s1, k1, s2, k2, hn1, hn2⟩ := rd_rule h hz
 obtain ⟨W, hW, rA, bel⟩ := box1 w 85 #[.slice A1 n1 c1, .slice A2 n2 c2]
 have HW := hid hW
 have L := hid (Go.Proofs.Ytiimbmkofpnebaa.kboOft.hasAsOften A1 A2 n1 c1 n2 c2 x.1 x.2 W (s1.next bel) (s2.next bel) hn1 hn2 v1 v2)
 have a0 : W.cell? ⟨w.heap.size, 0, none⟩ = some (.slice A1 n1 c1) := rA.cell 0
 have a1 : W.cell? ⟨w.heap.size, 1, none⟩ = some (.slice A2 n2 c2) := rA.cell 1
 rw [hW] at a0 a1
 clear hW h hz k1 k2 v1 v2 s1 s2
 go_enter Try.func98, Try.ntmps98
 go_wp2_with fail
 rw [← HW.out]
 refine L.out.mono ?_
 rintro e w1 ⟨rfl, bb⟩
 have F := hid (next_trans bel bb)
 clear bel bb rA L a0 a1
 generalize Go.Proofs.Ytiimbmkofpnebaa.kboMath.oft x.2 x.1 = z at *
 go_wp2
 go_ret
 exact ⟨rfl, F.out⟩
theorem fin_DuplicatingNew_no {sg : List Int} {rs : List Rl} (h : sysOkB sg rs = false) : dupB sg rs = false := by unfold dupB; rw [h]; rfl
theorem fin_DuplicatingNew_yes {sg : List Int} {rs : List Rl} (h : sysOkB sg rs = true) : dupB sg rs = rs.any (fun x => !Go.Proofs.Ytiimbmkofpnebaa.kboMath.oft x.2 x.1) := by
 unfold dupB; rw [h, Bool.true_and]
 exact any_congr fun x hx => dbl_oft x
set_option maxHeartbeats 4000000 in
theorem implDuplicatingIn (a v : Value) (d : Dat sSystem) (w : World) (h : Rd w w.heap.size sSystem [a, v] d) (hz : sz sSystem d ≤ 1048576) :
  Calls Try.prog 57 #[.agg #[a, v]] w (AnsB w (dupB d.1 d.2)) := by
 have hzs := sys_szs hz
 have hsg := (parts_System h).1
 have SO := fun (w1 : World) (bb : Below w.heap.size w w1) => systemOf a v d w1 (h.next bb) hz
 have LT := fun (ok : sysOkB d.1 d.2 = true) (w1 : World) (bb : Below w.heap.size w w1) => some_ 98 #[] #[] (enters_of Try.func98 (by kernel_rfl) rfl) (fun x => !Go.Proofs.Ytiimbmkofpnebaa.kboMath.oft x.2 x.1) a v d w1
  (fun W' l r (x : Rl) hW' hx hr => dupl l r x W' hr (sz_mem hzs.2 hx) (fun y hy => (term_mem (rule_parts ((sys_parts ok).2.2 x hx)).1 hy).1) (fun y hy => (term_mem (rule_parts ((sys_parts ok).2.2 x hx)).2.1 hy).1)) (h.next bb) hz
 obtain ⟨A, n, c, V, m, cv, rfl, rfl, -⟩ := rd_sys h hz
 obtain ⟨W, hW, rA, bel⟩ := box1 w 51 #[.slice A n c, .slice V m cv]
 have HW := hid hW
 have L := hid (SO W bel)
 have HLT := hid LT
 have hmf := makeFn
 clear hW h hz SO LT hzs hsg
 go_enter Try.func57, Try.ntmps57
 go_wp2_with fail
 rw [← HW.out]
 refine L.out.mono ?_
 cases ok : sysOkB d.1 d.2 with
 | false =>
  have HO := hid ok
  rintro e w1 ⟨rfl, bb⟩
  have F := hid (boxN (T := 114) (cs := #[.slice none 0 0, .slice none 0 0]) (next_trans bel bb)).2.1
  simp only [sysV, if_true, Bool.false_eq_true, if_false]
  clear bel bb rA L HLT ok
  go_wp2
  go_ret
  exact ⟨by rw [fin_DuplicatingNew_no HO.out]; rfl, F.out⟩
 | true =>
  have HO := hid ok
  rintro e w1 ⟨rfl, bb⟩
  obtain ⟨rS, belS, bS⟩ := boxN (T := 114) (cs := #[.slice A n c, .slice V m cv]) (next_trans bel bb)
  have L2 := hid (HLT.out ok _ belS)
  have c0 := rS.cell 0
  have c1 := rS.cell 1
  have E := hid (fin_DuplicatingNew_yes HO.out)
  simp only [sysV, if_true]
  clear bel bb rA L HLT ok rS bS
  go_wp2_with fail
  refine L2.out.mono ?_
  rintro e w2 ⟨he, bb⟩
  obtain ⟨z, hzz⟩ : ∃ z, d.2.any (fun x => !Go.Proofs.Ytiimbmkofpnebaa.kboMath.oft x.2 x.1) = z := ⟨_, rfl⟩
  rw [hzz] at E
  rw [show (List.any d.2 fun x => !Go.Proofs.Ytiimbmkofpnebaa.kboMath.oft x.2 x.1) = z from hzz] at he
  subst he
  have F := hid (next_trans belS bb)
  clear bb belS L2 c0 c1 hzz
  go_wp2
  go_ret
  exact ⟨by rw [E.out]; rfl, F.out⟩
end ruleImpl
end
section
namespace wDuplicatingIn
open Go.RowKit base ints sig cursor marks app sym appAt segs segsHelp segsMark kinds shape varsOf kindsR ruleMath ruleSpec ruleImpl
set_option maxRecDepth 100000
set_option maxHeartbeats 8000000 in
theorem law (v0_0 v0_1 : Value) (d0 : Dat sSystem) (w : World) (s0 : Rd w w.heap.size sSystem [v0_0, v0_1] d0) :
  Calls Try.prog 14 #[.agg #[v0_0, v0_1]] w (Fine w) := by
 obtain ⟨W, hW⟩ : ∃ W, W = w.alloc (.cells #[v0_0, v0_1] 73) := ⟨_, rfl⟩
 have rA0 : Row W (w.heap.size) 73 #[v0_0, v0_1] := by rw [hW]; have := Row.new (w) 73 #[v0_0, v0_1]; simpa using this
 have bW : Below w.heap.size w W := by rw [hW]; exact (Below.refl w.heap.size w).alloc (by simp) (.cells #[v0_0, v0_1] 73)
 have zA0 := rA0.lt
 replace s0 := s0.next bW
 have HW := Lib.hid hW
 clear hW
 obtain ⟨t0, ht0⟩ : ∃ z, sz sSystem d0 = z := ⟨_, rfl⟩
 have HT0 := Lib.hid ht0
 clear ht0
 obtain ⟨v, hv⟩ : ∃ v, dupB d0.1 d0.2 = v := ⟨_, rfl⟩
 have HV := Lib.hid hv
 clear hv
 have ev : (v != v) = false := by simp
 go_enter Try.func14, Try.ntmps14
 go_wp2_with fail
 rw [← HW.out]
 clear HW
 have bel := Below.refl W.heap.size W
 have cA0_0 : W.cell? ⟨w.heap.size, 0, none⟩ = some (v0_0) := (rA0.next bel).cell 0
 have cA0_1 : W.cell? ⟨w.heap.size, 1, none⟩ = some (v0_1) := (rA0.next bel).cell 1
 refine (szK_System _ _ d0 (1048576) _ (s0.next bel) (by omega) (by omega)).mono ?_
 rintro e w1 ⟨he, bb⟩
 rw [HT0.out] at he
 replace bel := next_trans bel bb
 have zw1 := bb.size
 clear bb
 by_cases q0 : t0 ≤ 1048576
 case neg =>
  rw [if_pos (by omega)] at he
  subst he
  have F := Lib.hid (bW.trans (bel.mono bW.size))
  clear bel bW cA0_0 cA0_1
  go_wp2
  go_ret
  exact ⟨rfl, F.out⟩
 rw [if_neg (by omega)] at he
 subst he
 have h0 : Hid (sz sSystem d0 ≤ 1048576) := Lib.hid (by rw [HT0.out]; omega)
 clear cA0_0 cA0_1
 have cA0_0 : w1.cell? ⟨w.heap.size, 0, none⟩ = some (v0_0) := (rA0.next bel).cell 0
 have cA0_1 : w1.cell? ⟨w.heap.size, 1, none⟩ = some (v0_1) := (rA0.next bel).cell 1
 go_wp2_with fail
 refine (toK_System _ _ d0 _ (s0.next bel) h0.out).mono ?_
 rintro e w2 ⟨p0A0, p0n0, p0c0, p0A1, p0n1, p0c1, rfl, op0, bb⟩
 replace bel := next_trans bel bb
 have zw2 := bb.size
 clear bb
 clear cA0_0 cA0_1
 have cA0_0 : w2.cell? ⟨w.heap.size, 0, none⟩ = some (v0_0) := (rA0.next bel).cell 0
 have cA0_1 : w2.cell? ⟨w.heap.size, 1, none⟩ = some (v0_1) := (rA0.next bel).cell 1
 go_wp2_with fail
 refine (specDuplicatingIn _ _ d0 _ op0.rd h0.out).mono ?_
 rintro e w3 ⟨he, bb⟩
 rw [HV.out] at he
 subst he
 replace op0 := op0.next bb
 replace bel := next_trans bel bb
 have zw3 := bb.size
 clear bb
 clear op0
 clear cA0_0 cA0_1
 have cA0_0 : w3.cell? ⟨w.heap.size, 0, none⟩ = some (v0_0) := (rA0.next bel).cell 0
 have cA0_1 : w3.cell? ⟨w.heap.size, 1, none⟩ = some (v0_1) := (rA0.next bel).cell 1
 clear cA0_0 cA0_1
 have cA0_0 : w3.cell? ⟨w.heap.size, 0, none⟩ = some (v0_0) := (rA0.next bel).cell 0
 have cA0_1 : w3.cell? ⟨w.heap.size, 1, none⟩ = some (v0_1) := (rA0.next bel).cell 1
 go_wp2_with fail
 refine (toK_System _ _ d0 _ (s0.next bel) h0.out).mono ?_
 rintro e w4 ⟨x0A0, x0n0, x0c0, x0A1, x0n1, x0c1, rfl, ox0, bb⟩
 replace bel := next_trans bel bb
 have zw4 := bb.size
 clear bb
 clear cA0_0 cA0_1
 have cA0_0 : w4.cell? ⟨w.heap.size, 0, none⟩ = some (v0_0) := (rA0.next bel).cell 0
 have cA0_1 : w4.cell? ⟨w.heap.size, 1, none⟩ = some (v0_1) := (rA0.next bel).cell 1
 have dA0_0 : (w4.alloc (.cells #[.slice x0A0 x0n0 x0c0, .slice x0A1 x0n1 x0c1] 51)).cell? ⟨w.heap.size, 0, none⟩ = some (v0_0) := ((rA0.next bel).alloc _).cell 0
 have dA0_1 : (w4.alloc (.cells #[.slice x0A0 x0n0 x0c0, .slice x0A1 x0n1 x0c1] 51)).cell? ⟨w.heap.size, 1, none⟩ = some (v0_1) := ((rA0.next bel).alloc _).cell 1
 go_wp2_with fail
 obtain ⟨w5, hw⟩ : ∃ W, W = w4.alloc (.cells #[.slice x0A0 x0n0 x0c0, .slice x0A1 x0n1 x0c1] 51) := ⟨_, rfl⟩
 rw [← hw]
 have rx0 : Row w5 w4.heap.size 51 #[.slice x0A0 x0n0 x0c0, .slice x0A1 x0n1 x0c1] := by rw [hw]; exact Row.new _ _ _
 have bb : Below w4.heap.size w4 w5 := by rw [hw]; exact (Below.refl _ _).alloc (Nat.le_refl _) _
 have yrx0 : w4.heap.size < w5.heap.size := by rw [hw]; simp
 clear hw
 replace ox0 := ox0.next bb
 replace bel := next_trans bel bb
 have zw5 := bb.size
 clear bb
 clear dA0_0 dA0_1
 clear cA0_0 cA0_1
 have cA0_0 : w5.cell? ⟨w.heap.size, 0, none⟩ = some (v0_0) := (rA0.next bel).cell 0
 have cA0_1 : w5.cell? ⟨w.heap.size, 1, none⟩ = some (v0_1) := (rA0.next bel).cell 1
 have cx0_0 : w5.cell? ⟨w4.heap.size, 0, none⟩ = some (.slice x0A0 x0n0 x0c0) := (rx0).cell 0
 have cx0_1 : w5.cell? ⟨w4.heap.size, 1, none⟩ = some (.slice x0A1 x0n1 x0c1) := (rx0).cell 1
 refine (implDuplicatingIn _ _ d0 _ ox0.rd h0.out).mono ?_
 rintro e w6 ⟨he, bb⟩
 rw [HV.out] at he
 subst he
 replace ox0 := ox0.next bb
 replace rx0 := rx0.next bb
 replace bel := next_trans bel bb
 have zw6 := bb.size
 clear bb
 clear cA0_0 cA0_1 cx0_0 cx0_1
 have cA0_0 : w6.cell? ⟨w.heap.size, 0, none⟩ = some (v0_0) := (rA0.next bel).cell 0
 have cA0_1 : w6.cell? ⟨w.heap.size, 1, none⟩ = some (v0_1) := (rA0.next bel).cell 1
 have cx0_0 : w6.cell? ⟨w4.heap.size, 0, none⟩ = some (.slice x0A0 x0n0 x0c0) := (rx0).cell 0
 have cx0_1 : w6.cell? ⟨w4.heap.size, 1, none⟩ = some (.slice x0A1 x0n1 x0c1) := (rx0).cell 1
 go_wp2_with fail
 replace ox0 := ox0.drew
 replace rx0 := rx0.drew
 replace bel := bel.drew
 have zdw6 := (drew_below w6).size
 go_region_held3 (fun w' => w'.cell? ⟨w4.heap.size, 0, none⟩ = some (.slice x0A0 x0n0 x0c0) ∧ w'.cell? ⟨w4.heap.size, 1, none⟩ = some (.slice x0A1 x0n1 x0c1) ∧ w'.cell? ⟨w.heap.size, 0, none⟩ = some (v0_0) ∧ w'.cell? ⟨w.heap.size, 1, none⟩ = some (v0_1))
  (go_keep)
  (first
   | (go_at_call 49; refine (toK_System _ _ d0 _ (s0.next bel) h0.out).mono ?_; rintro e w7 ⟨t0A0, t0n0, t0c0, t0A1, t0n1, t0c1, rfl, ot, bb⟩; replace ox0 := ox0.next bb; replace rx0 := rx0.next bb; replace bel := next_trans bel bb; have k0_0w7 : w7.cell? ⟨w.heap.size, 0, none⟩ = some (v0_0) := (rA0.next bel).cell 0; have k0_1w7 : w7.cell? ⟨w.heap.size, 1, none⟩ = some (v0_1) := (rA0.next bel).cell 1; have l0_0w7 : w7.cell? ⟨w4.heap.size, 0, none⟩ = some (.slice x0A0 x0n0 x0c0) := rx0.cell 0; have l0_1w7 : w7.cell? ⟨w4.heap.size, 1, none⟩ = some (.slice x0A1 x0n1 x0c1) := rx0.cell 1; have zqw7 := bb.size; clear bb)
   | (go_at_call 50; refine (eqK_System _ _ _ _ d0 _ ox0.rd ot.rd h0.out).mono ?_; rintro e w8 ⟨rfl, bb⟩; replace ox0 := ox0.next bb; replace rx0 := rx0.next bb; replace bel := next_trans bel bb; have k0_0w8 : w8.cell? ⟨w.heap.size, 0, none⟩ = some (v0_0) := (rA0.next bel).cell 0; have k0_1w8 : w8.cell? ⟨w.heap.size, 1, none⟩ = some (v0_1) := (rA0.next bel).cell 1; have l0_0w8 : w8.cell? ⟨w4.heap.size, 0, none⟩ = some (.slice x0A0 x0n0 x0c0) := rx0.cell 0; have l0_1w8 : w8.cell? ⟨w4.heap.size, 1, none⟩ = some (.slice x0A1 x0n1 x0c1) := rx0.cell 1; have zqw8 := bb.size; clear bb ot))
 clear k0_0w7 l0_0w7 k0_1w7 l0_1w7 k0_0w8 l0_0w8 k0_1w8 l0_1w8
 clear ox0 rx0
 clear cA0_0 cA0_1 cx0_0 cx0_1
 have cA0_0 : w8.cell? ⟨w.heap.size, 0, none⟩ = some (v0_0) := (rA0.next bel).cell 0
 have cA0_1 : w8.cell? ⟨w.heap.size, 1, none⟩ = some (v0_1) := (rA0.next bel).cell 1
 have F := Lib.hid (bW.trans (bel.mono bW.size))
 clear bel bW cA0_0 cA0_1
 go_wp2
 go_ret
 exact ⟨rfl, F.out⟩
end wDuplicatingIn
end
section
namespace openX
open Go.ChangeShapes Go.WideShapes Go.ChangeAt Go.RowKit base segs shape
def Wf : (s : Sh) → Dat s → Prop
 | .num, (x : Int) => -9223372036854775808 ≤ x ∧ x ≤ 9223372036854775807
 | .bit, _ => True
 | .row _ s, (d : List (Dat s)) => ∀ j, j < d.length → Wf s (d.getD j (dft s))
 | .cat a b, d => Wf a d.1 ∧ Wf b d.2
mutual
def fitsB (P : Program) : Nat → Sh → TypeId → Bool
 | 0, _, _ => false
 | n + 1, s, t => match P.underlying t with
  | some (.struct fs) => P.cellsOf t == nc s && fitsL P n fs.toList 0 s
  | some (.int .i64) => match s with | .num => true | _ => false
  | some .bool => match s with | .bit => true | _ => false
  | some (.slice e) => match s with | .row _ s' => P.cellsOf e == nc s' && fitsB P n s' e | _ => false
  | _ => false
def fitsL (P : Program) : Nat → List Field → Nat → Sh → Bool
 | 0, _, _, _ => false
 | _ + 1, [], _, _ => false
 | n + 1, [f], k, s => f.offset == k && (P.cellsOf f.type == nc s && fitsB P n s f.type)
 | n + 1, f :: g :: fs, k, s => match s with | .cat a b => f.offset == k && (P.cellsOf f.type == nc a && (fitsB P n a f.type && fitsL P n (g :: fs) (k + nc a) b)) | _ => false
end
section
variable {H : Type} {enc : TypeId × Value → H} {P : Program} {w : World} {held : Bool}
theorem addr_add {b off i : Nat} : (⟨b, off, none⟩ : Addr).add i = ⟨b, off + i, none⟩ := by unfold Addr.add; split <;> simp_all
theorem rd_trod : ∀ n : Nat, (∀ (s : Sh) (t : TypeId) (fuel : Nat) (cs : List Value) (x : DataW H × List MemPlace), fitsB P n s t = true → DataW.trod enc P w 0 (fun _ => true) held fuel t cs = some x → ∃ d, Rd w w.heap.size s cs d ∧ Wf s d) ∧
  (∀ (fs : List Field) (k : Nat) (s : Sh) (cs : List Value) (m : Nat), fitsL P n fs k s = true → (∀ (i : Nat) (f : Field), fs[i]? = some f → ∃ x, DataW.trod enc P w 0 (fun _ => true) held m f.type ((cs.drop f.offset).take (P.cellsOf f.type)) = some x) →
   ∃ d, Rd w w.heap.size s ((cs.drop k).take (nc s)) d ∧ Wf s d) := by
 intro n
 induction n with
 | zero => exact ⟨fun _ _ _ _ _ h => by simp [fitsB] at h, fun _ _ _ _ _ h => by simp [fitsL] at h⟩
 | succ n ih =>
  refine ⟨fun s t fuel cs x hf h => ?_, fun fs k s cs m hf h => ?_⟩
  ·unfold fitsB at hf
   split at hf
   ·rename_i fs hu
    simp only [Bool.and_eq_true, beq_iff_eq] at hf
    obtain ⟨xs, n', hfu, hx, hlen, hxl, hg⟩ := DataW.trod_struct hu h
    obtain ⟨d, hr, hw⟩ := ih.2 fs.toList 0 s cs n' hf.2 (fun i f hi => by
     have hi' : fs[i]? = some f := by simpa using hi
     have h1 := hg i f hi'
     have hlt : i < fs.size := (Array.getElem?_eq_some_iff.1 hi').1
     exact ⟨xs[i]'(by omega), by rw [h1]; exact List.getElem?_eq_getElem (by omega)⟩)
    rw [List.drop_zero, List.take_of_length_le (by omega)] at hr
    exact ⟨d, hr, hw⟩
   ·rename_i hu
    split at hf
    ·obtain ⟨z, e1, _, hw⟩ := DataW.trod_int hu h
     refine ⟨z, e1, ?_⟩
     show -9223372036854775808 ≤ z ∧ z ≤ 9223372036854775807
     simpa [Lit.wf, IntKind.min, IntKind.max, IntKind.signed, IntKind.bits] using hw
    ·cases hf
   ·rename_i hu
    split at hf
    ·obtain ⟨z, e1, _⟩ := DataW.trod_bool hu h
     exact ⟨z, e1, trivial⟩
    ·cases hf
   ·rename_i e hu
    split at hf
    ·rename_i e0 s'
     simp only [Bool.and_eq_true, beq_iff_eq] at hf
     rcases Go.Deep.open_slice hu h with ⟨hcs, _⟩ | ⟨a, len, cap, m, n', D, Pl, hcs, _, hl, hm, hmm, _, hi⟩
     ·exact ⟨[], ⟨none, 0, 0, hcs, ⟨by omega, by omega, fun _ => rfl⟩, rfl, fun h => absurd h (by omega)⟩, fun j hj => absurd hj (Nat.not_lt_zero _)⟩
     ·have hmc : m = cap := by simpa using hmm
      subst hmc
      have hd : ∀ j, j < len → ∃ (es : List Value) (dj : Dat s'), es.length = nc s' ∧ (∀ i, i < nc s' → w.cell? ((a.add (j * nc s')).add i) = es[i]?) ∧ Rd w w.heap.size s' es dj ∧ Wf s' dj := fun j hj => by
       obtain ⟨cs', hc, ht⟩ := hi j (by omega)
       obtain ⟨dj, hr, hw⟩ := ih.1 s' e n' cs' _ hf.2 ht
       rw [hf.1] at hc
       obtain ⟨_, hcl, hat⟩ := World.cells?_some hc
       exact ⟨cs', dj, hcl, hat, hr, hw⟩
      have hspot : 0 < len → a.spot = none := fun h0 => by
       obtain ⟨es, dj, h1, h2, _⟩ := hd 0 h0
       have hp := nc_pos s'
       have h3 := h2 0 (by omega)
       rw [List.getElem?_eq_getElem (by omega)] at h3
       have := World.cell?_spot h3
       simpa [Addr.add] using this
      obtain ⟨ds, hdl, hds⟩ : ∃ ds : List (Dat s'), ds.length = len ∧ ∀ j, j < len → ∃ es : List Value, es.length = nc s' ∧ (∀ i, i < nc s' → w.cell? ((a.add (j * nc s')).add i) = es[i]?) ∧ Rd w w.heap.size s' es (ds.getD j (dft s')) ∧ Wf s' (ds.getD j (dft s')) := by
       refine ⟨(List.range len).map fun j => if hj : j < len then Classical.choose (Classical.choose_spec (hd j hj)) else dft s', by simp, fun j hj => ?_⟩
       refine ⟨Classical.choose (hd j hj), ?_⟩
       have h1 := Classical.choose_spec (Classical.choose_spec (hd j hj))
       have e1 : ((List.range len).map fun j => if hj : j < len then Classical.choose (Classical.choose_spec (hd j hj)) else dft s').getD j (dft s') = Classical.choose (Classical.choose_spec (hd j hj)) := by simp [List.getD, hj]
       rw [e1]
       exact h1
      refine ⟨ds, ⟨some a, len, m, hcs, ⟨hl, by unfold maxLen at hm; omega, fun e => by cases e⟩, hdl, fun h0 => ?_⟩, fun j hj => by
       obtain ⟨es, _, _, _, hw⟩ := hds j (by rw [← hdl]; exact hj)
       exact hw⟩
      obtain ⟨b, off, spot⟩ := a
      have hs := hspot h0
      simp only at hs
      subst hs
      refine ⟨b, off, rfl, ?_, fun j hj => ?_⟩
      ·obtain ⟨es, h1, h2, _⟩ := hds 0 h0
       have hp := nc_pos s'
       have h3 := h2 0 (by omega)
       rw [List.getElem?_eq_getElem (by omega)] at h3
       have h4 := World.block_lt_of_cell? _ _ h3
       simpa [addr_add] using h4
      ·obtain ⟨es, h1, h2, h3, _⟩ := hds j hj
       refine ⟨es, h1, fun i hi2 => ?_, h3⟩
       have := h2 i (by omega)
       rw [addr_add, addr_add] at this
       exact this
    ·cases hf
   ·cases hf
  ·match fs, hf, h with
   | [], hf, _ => simp [fitsL] at hf
   | [f], hf, h =>
    unfold fitsL at hf
    simp only [Bool.and_eq_true, beq_iff_eq] at hf
    obtain ⟨h1, h2, h3⟩ := hf
    obtain ⟨x, hx⟩ := h 0 f rfl
    rw [h1, h2] at hx
    exact ih.1 s f.type m _ x h3 hx
   | f :: g :: fs, hf, h =>
    cases s with
    | cat a b =>
     unfold fitsL at hf
     simp only [Bool.and_eq_true, beq_iff_eq] at hf
     obtain ⟨h1, h2, h3, h4⟩ := hf
     obtain ⟨x, hx⟩ := h 0 f rfl
     rw [h1, h2] at hx
     obtain ⟨d1, r1, w1⟩ := ih.1 a f.type m _ x h3 hx
     obtain ⟨d2, r2, w2⟩ := ih.2 (g :: fs) (k + nc a) b cs m h4 (fun i f' hi => h (i + 1) f' hi)
     refine ⟨(d1, d2), ⟨_, _, ?_, r1, r2⟩, w1, w2⟩
     show List.take (nc a + nc b) (List.drop k cs) = _
     rw [List.take_add, List.drop_drop]
    | num => simp [fitsL] at hf
    | bit => simp [fitsL] at hf
    | row e s' => simp [fitsL] at hf
theorem open_val {s : Sh} {t : TypeId} {v : Value} {d : DataW H} {p : List MemPlace} {n : Nat} (hf : fitsB P n s t = true) (h : DataW.Trod enc P w 0 (fun _ => true) held t v d p) : ∃ x, Rd w w.heap.size s v.cells.toList x ∧ Wf s x := by
 obtain ⟨fuel, hfu⟩ := h
 exact (rd_trod n).1 s t fuel _ _ hf hfu
end
end openX
end
end Go.Proofs.Ytiimbmkofpnebaa
