/-
  MERGED: my texts DrawNew, DrawPairL, DrawOne, PlainMath, Look, Plain, DrawSub, DrawS, DrawRule, SubstOk, Gives, PlainOf, CompMath, Shifted, Filled, Max, CompSpec, Then, CompImpl, DrawKnown, DrawSys, DrawSysAny, DrawSysD, RuleSpecB, RuleSpecC, RuleSpecD, LawY, one behind the other, as they are. By an AI agent.
-/
import Derived.Test.YtiimbmkofpnebaaMFnForms2
import Derived.Shelf.Abstract
import Derived.Deep.AppendLies
import Derived.Deep.DeepCutAuto
import Derived.Deep.RegionHeld3
import Derived.Deep.QuietTactic
import Derived.BigQuiet
import Derived.Deep.DeepMust
import Derived.Laws.NewBlocks
import Derived.Laws.EntriesVeiled
import Derived.Deep.LoopGhost
namespace Go.Proofs.Ytiimbmkofpnebaa
section
namespace drawTwo
open Go.RowKit base ints sig term cursor termOk marks app sym dice drawSig drawTerm drawAny
set_option maxRecDepth 100000
def AnsNew (w : World) (A : Option Addr) (n c : Nat) (e : Ending) (w' : World) : Prop := ∃ p, e = .returned (.pointer (some ⟨p, 0, none⟩)) ∧ w.heap.size ≤ p ∧ Dice w' p A n c ∧ Below w.heap.size w w'
set_option maxHeartbeats 1000000 in
theorem new_ (A : Option Addr) (n c : Nat) (w : World) (h : SegB w w.heap.size A n) (hn : n ≤ 4096) :
  Calls Try.prog 99 #[.slice A n c] w (AnsNew w A n c) := by
 go_enter Try.func99, Try.ntmps99
 go_wp2_with fail
 go_loop [3, 4] (fun hh i => ∃ (k : Nat) (h0 : Int), k ≤ n ∧ i = .int .i64 k ∧ hh = .int .i64 h0) (fun _ i => n - (intOf i).toNat)
 case atStart => exact ⟨0, _, Nat.zero_le _, rfl, rfl⟩
 case round =>
  obtain ⟨k, h0, hk, rfl, rfl⟩ := hrel
  by_cases hlt : k < n
  ·obtain ⟨b, off, rfl, hb, hc⟩ := h (by omega)
   obtain ⟨y, hy0, hy1, hy⟩ := hc k hlt
   clear hc h
   go_wp2
   go_round
   case rel => exact ⟨k + 1, _, hlt, by go_num, rfl⟩
   case measure => simp [intOf]; omega
  ·have F : AnsNew w A n c (.returned (.pointer (some ⟨w.heap.size, 0, none⟩))) (w.alloc (.cells #[.slice A n c, .int .i64 0, .int .i64 h0] 152)) :=
    ⟨_, rfl, Nat.le_refl _, ⟨0, h0, Row.new _ _ _, Nat.zero_le _, h.keep (fun q hq => World.cell?_alloc_lt w _ q hq), hn⟩, (Below.refl _ _).alloc (Nat.le_refl _) _⟩
   have HF := Lib.hid F
   clear F h
   go_wp2
   go_ret
   exact HF.out
end drawTwo
end
section
namespace drawPair
open Go.RowKit base ints sig term cursor termOk marks app sym dice drawSig drawTerm drawAny drawTwo
set_option maxRecDepth 100000
end drawPair
end
section
namespace drawOne
open Go.RowKit base ints sig term cursor termOk marks app sym dice drawSig drawTerm drawAny drawPair
end drawOne
end
section
namespace plainMath
open fillMath
end plainMath
end
section
namespace look
open Go.RowKit base ints marks app sym segs fillMath
set_option maxRecDepth 100000
def AnsLook (B : Nat) (w : World) (ys : List Int) (e : Ending) (w' : World) : Prop := ∃ A n c, e = .returned (.slice A n c) ∧ Seg w' w'.heap.size A n ys ∧ Cap A n c ∧ (∀ k, blk A = some k → k < B ∨ w.heap.size ≤ k) ∧ Below w.heap.size w w'
def Looks (g : Nat) (lb : Array Value) (w : World) (L : Nat → List Int) (N : Nat) : Prop :=
 ∀ (W : World) (i : Nat), Below w.heap.size w W → i < N → Calls Try.prog g (#[.int .i64 (i : Int)] ++ lb) W (AnsLook w.heap.size W (L i))
theorem Looks.next {g : Nat} {lb : Array Value} {w w' : World} {L : Nat → List Int} {N : Nat} (h : Looks g lb w L N) (hb : Below w.heap.size w w') : Looks g lb w' L N :=
 fun W i hW hi => (h W i (next_trans hb hW) hi).mono fun _ _ ⟨A, n, c, he, h1, h2, h3, h4⟩ => ⟨A, n, c, he, h1, h2, fun k hk => by have := h3 k hk; have := hb.size; omega, h4⟩
end look
end
section
namespace plain
open Go.RowKit base ints cursor same marks app appAt sym sub segs segsHelp kinds fillMath Go.Proofs.Ytiimbmkofpnebaa.look plainMath
set_option maxRecDepth 100000
end plain
end
section
namespace drawSub
open Go.RowKit base ints sig cursor marks app appAt sym segs segsHelp dice drawSig drawTerm drawAny drawPair drawOne
def Elem (w : World) (p : Nat) (r : Option Nat) (v : Value) (ys : List Int) : Prop :=
 ∃ A' n' c', v = .slice A' n' c' ∧ Rd w p w.heap.size A' n' ys ∧ Cap A' n' c' ∧ (0 < n' → blk A' ≠ r)
def OwnR (w : World) (p lo : Nat) (A : Option Addr) (n c : Nat) (xss : List (List Int)) : Prop :=
 xss.length = n ∧ ∃ vs : List Value, w.ownsRow lo 27 1 (.slice A n c) n vs ∧ ∀ j, j < n → Elem w p (blk A) (vs.getD j undef) (xss.getD j [])
section
variable {w w' : World} {p lo n c : Nat} {A : Option Addr} {xss : List (List Int)} {r : Option Nat} {v : Value} {ys : List Int}
theorem Elem.below (h : Elem w p r v ys) (hb : Below w.heap.size w w') : Elem w' p r v ys := by
 obtain ⟨A', n', c', e, hr, hc, hne⟩ := h
 exact ⟨A', n', c', e, (hr.below hb (Nat.le_refl _)).more hb.size, hc, hne⟩
theorem OwnR.nil (w : World) (p lo : Nat) : OwnR w p lo none 0 0 [] := ⟨rfl, [], ⟨rfl, .inl ⟨rfl, rfl⟩⟩, fun j hj => absurd hj (Nat.not_lt_zero _)⟩
theorem OwnR.below (h : OwnR w p lo A n c xss) (hb : Below w.heap.size w w') : OwnR w' p lo A n c xss := by
 obtain ⟨h1, vs, h2, h3⟩ := h
 exact ⟨h1, vs, World.ownsRow.kept h2 ⟨hb.os, hb.tape, hb.output, hb.size, fun k hk _ => hb.block k hk⟩ (row := none) (by cases (Value.slice A n c).ownBlock <;> simp), fun j hj => (h3 j hj).below hb⟩
theorem OwnR.cap (h : OwnR w p lo A n c xss) : Cap A n c := by
 obtain ⟨_, vs, hr, _⟩ := h
 rcases own_form hr with ⟨rfl, h1, rfl, _⟩ | ⟨g, cur, rfl, _, _, h1, h2, h3, _⟩
 ·exact ⟨by omega, by omega, fun _ => rfl⟩
 ·exact ⟨h1, h3, fun e => by cases e⟩
end
def Small (M L m : Nat) (xss : List (List Int)) : Prop := m ≤ M ∧ ∀ j, (xss.getD j []).length ≤ L
theorem small_nil (M L : Nat) : Small M L 0 [] := ⟨Nat.zero_le _, fun j => by simp⟩
theorem small_app {M M' L m : Nat} {xss : List (List Int)} {ys : List Int} (h : Small M L m xss) (hl : xss.length = m) (hy : ys.length ≤ L) (hM : m + 1 ≤ M') : Small M' L (m + 1) (xss ++ [ys]) :=
 ⟨hM, fun j => by
  rcases Nat.lt_trichotomy j m with h1 | h1 | h1
  ·have := h.2 j
   simpa [List.getD, List.getElem?_append_left (show j < xss.length by omega)] using this
  ·subst h1
   simpa [List.getD, ← hl] using hy
  ·simp [List.getD, show xss.length + 1 ≤ j by omega]⟩
theorem small_wider {M L M' L' m : Nat} {xss : List (List Int)} (h : Small M L m xss) (h1 : M ≤ M') (h2 : L ≤ L') : Small M' L' m xss := ⟨Nat.le_trans h.1 h1, fun j => Nat.le_trans (h.2 j) h2⟩
end drawSub
end
section
namespace drawS
open Go.RowKit base ints sig term cursor termOk marks app appAt sym segs segsHelp dice drawSig drawTerm drawAny drawPair drawOne drawSub
set_option maxRecDepth 100000
theorem grown_over {w a b : World} {B : Nat} {r : Option Nat} (g : w.grownBy a r) (hb : Below B a b) (hB : w.heap.size ≤ B) : w.grownBy b r :=
 ⟨hb.os.trans g.os, hb.tape.trans g.tape, hb.output.trans g.output, Nat.le_trans g.size hb.size, fun k hk hne => (hb.block k (by omega)).trans (g.block k hk hne)⟩
structure DD (w : World) (p : Nat) (A : Option Addr) (n c : Nat) (S : Option Addr) (sn sc : Nat) (sg : List Int) (o : Nat) (B : Option Addr) (m cB : Nat) (xss : List (List Int)) (wr : World) : Prop where
 d : Dice wr p A n c
 rS : Row wr w.heap.size 29 #[.slice S sn sc]
 rR : Row wr (w.heap.size + 1) 37 #[.slice none 0 0]
 rO : Row wr o 37 #[.slice B m cB]
 own : OwnR wr p (o + 1) B m cB xss
 s : Rd wr p w.heap.size S sn sg
 g : w.grownBy wr (some p)
 hp : p < w.heap.size
 ho : w.heap.size + 1 < o
section
variable {w : World} {p : Nat} {A : Option Addr} {n c : Nat} {S : Option Addr} {sn sc : Nat} {sg : List Int} {o : Nat} {B : Option Addr} {m cB : Nat} {xss : List (List Int)} {wr w' : World}
theorem DD.next (t : DD w p A n c S sn sc sg o B m cB xss wr) (hb : Below wr.heap.size wr w') : DD w p A n c S sn sc sg o B m cB xss w' :=
 ⟨t.d.next hb, t.rS.next hb, t.rR.next hb, t.rO.next hb, t.own.below hb, t.s.below hb t.g.size, grown_over t.g hb t.g.size, t.hp, t.ho⟩
end
end drawS
end
section
open Go.Lib (hid)
namespace drawRule
open Go.RowKit base ints sig term cursor marks app appAt sym sub rename renMath dice drawSig drawTerm drawTermW drawAny drawPair drawOne drawSub drawS drawX
open shape (Sh Dat nc dft sI sz)
open kindsR (sRule)
set_option maxRecDepth 100000
def AnsRule (w : World) (p : Nat) (A : Option Addr) (n c : Nat) (e : Ending) (w' : World) : Prop :=
 ∃ a1 n1 c1 a2 n2 c2 xs ys, e = .returned (.agg #[.slice a1 n1 c1, .slice a2 n2 c2]) ∧ RdQ w' (fun b => w.heap.size ≤ b ∧ b < w'.heap.size) sRule [.slice a1 n1 c1, .slice a2 n2 c2] ((xs, ys) : List Int × List Int) ∧ xs.length ≤ 16 ∧ ys.length ≤ 16 ∧ Dice w' p A n c ∧ w.grownBy w' (some p)
structure R0 (w : World) (p : Nat) (A : Option Addr) (n c : Nat) (S : Option Addr) (sn sc : Nat) (sg : List Int) (wr : World) : Prop where
 d : Dice wr p A n c
 rS : Row wr w.heap.size 29 #[.slice S sn sc]
 rR : Row wr (w.heap.size + 1) 85 #[.slice none 0 0, .slice none 0 0]
 s : Rd wr p w.heap.size S sn sg
 g : w.grownBy wr (some p)
 hp : p < w.heap.size
structure RL (w : World) (p : Nat) (A : Option Addr) (n c : Nat) (S : Option Addr) (sn sc : Nat) (sg : List Int) (O : Option Addr) (on oc : Nat) (xs : List Int) (wr : World) : Prop where
 z : R0 w p A n c S sn sc sg wr
 l : Own wr (w.heap.size + 2) (.slice O on oc) xs
 sc : scan sg 1 xs = some xs.length
 h1 : 1 ≤ on
 h2 : on ≤ 16
structure RR (w : World) (p : Nat) (A : Option Addr) (n c : Nat) (S : Option Addr) (sn sc : Nat) (sg : List Int) (O : Option Addr) (on oc : Nat) (xs : List Int) (P : Option Addr) (pn pc : Nat) (ys : List Int) (wr : World) : Prop where
 z : RL w p A n c S sn sc sg O on oc xs wr
 r : ∃ B, Own wr B (.slice P pn pc) ys ∧ w.heap.size + 2 ≤ B ∧ ∀ k, blk O = some k → k < B
 h3 : pn ≤ 16
section
variable {w : World} {p : Nat} {A : Option Addr} {n c : Nat} {S : Option Addr} {sn sc : Nat} {sg : List Int} {O : Option Addr} {on oc : Nat} {xs : List Int} {P : Option Addr} {pn pc : Nat} {ys : List Int} {wr w' : World}
theorem R0.dice (t : R0 w p A n c S sn sc sg wr) (d : Dice w' p A n c) (hg : wr.grownBy w' (some p)) : R0 w p A n c S sn sc sg w' :=
 ⟨d, Row.away t.rS hg (fun e => by injection e; have := t.hp; omega), Row.away t.rR hg (fun e => by injection e; have := t.hp; omega), t.s.grown hg t.g.size, grown_trans t.g hg, t.hp⟩
theorem R0.over (t : R0 w p A n c S sn sc sg wr) (hb : Below (w.heap.size + 2) wr w') : R0 w p A n c S sn sc sg w' :=
 ⟨t.d.keep (hb.mono (by have := t.hp; omega)), t.rS.below hb (by omega), t.rR.below hb (by omega), t.s.below hb (by omega), grown_over t.g hb (by omega), t.hp⟩
theorem R0.drew (t : R0 w p A n c S sn sc sg wr) : R0 w p A n c S sn sc sg wr.drew := t.over ⟨rfl, rfl, rfl, Nat.le_refl _, fun _ _ => rfl⟩
theorem RL.dice (t : RL w p A n c S sn sc sg O on oc xs wr) (d : Dice w' p A n c) (hg : wr.grownBy w' (some p)) : RL w p A n c S sn sc sg O on oc xs w' :=
 ⟨t.z.dice d hg, Own.far t.l hg (fun k hk => by injection hk; have := t.z.hp; omega), t.sc, t.h1, t.h2⟩
theorem RL.drew (t : RL w p A n c S sn sc sg O on oc xs wr) : RL w p A n c S sn sc sg O on oc xs wr.drew := ⟨t.z.drew, Own.next t.l ⟨rfl, rfl, rfl, Nat.le_refl _, fun _ _ => rfl⟩, t.sc, t.h1, t.h2⟩
theorem RR.next (t : RR w p A n c S sn sc sg O on oc xs P pn pc ys wr) (hb : Below wr.heap.size wr w') : RR w p A n c S sn sc sg O on oc xs P pn pc ys w' := by
 obtain ⟨B, h1, h2, h3⟩ := t.r
 have hz := t.z.z.rR.lt
 exact ⟨⟨t.z.z.over (hb.mono (by omega)), Own.next t.z.l hb, t.z.sc, t.z.h1, t.z.h2⟩, ⟨B, Own.next h1 hb, h2, h3⟩, t.h3⟩
theorem RR.put {gp : Nat} (t : RR w p A n c S sn sc sg O on oc xs (some ⟨gp, 0, none⟩) pn pc ys wr) (k : Nat) (y : Int) : RR w p A n c S sn sc sg O on oc xs (some ⟨gp, 0, none⟩) pn pc (ys.set k y) (wr.setCell ⟨gp, k, none⟩ (.int .i64 y)) := by
 obtain ⟨B, h1, h2, h3⟩ := t.r
 have hge := Own.ge h1 gp rfl
 have hb : Below (w.heap.size + 2) wr (wr.setCell ⟨gp, k, none⟩ (.int .i64 y)) := (Below.refl _ _).setCell (p := ⟨gp, k, none⟩) (by show w.heap.size + 2 ≤ gp; omega) _
 have hl : Own (wr.setCell ⟨gp, k, none⟩ (.int .i64 y)) (w.heap.size + 2) (.slice O on oc) xs := by
  have hg : wr.grownBy (wr.setCell ⟨gp, k, none⟩ (.int .i64 y)) (some gp) := grown_put (World.grownBy.refl wr _) k _
  refine World.ownsRow.kept t.z.l hg ?_
  cases e : (Value.slice O on oc).ownBlock with
  | none => exact .inl rfl
  | some q =>
   refine .inr (fun e2 => ?_)
   injection e2 with e2
   have := h3 q (by rw [← blk_own (n := on) (c := oc)]; exact e)
   omega
 exact ⟨⟨t.z.z.over hb, hl, t.z.sc, t.z.h1, t.z.h2⟩, ⟨B, Own.put h1 k y, h2, h3⟩, t.h3⟩
theorem rule_result {w : World} {p B : Nat} (h0 : w.grownBy wr (some p)) (hd : Dice wr p A n c) (hp : p < w.heap.size) (hl : Own wr (w.heap.size + 2) (.slice O on oc) xs) (hr : Own wr B (.slice P pn pc) ys) (hB : w.heap.size + 2 ≤ B) (h2 : on ≤ 16) (h3 : pn ≤ 16) :
  AnsRule w p A n c (.returned (.agg #[.slice O on oc, .slice P pn pc])) ((wr.setCell ⟨w.heap.size + 1, 0, none⟩ (.slice O on oc)).setCell ⟨w.heap.size + 1, 1, none⟩ (.slice P pn pc)) := by
 have hS : Below (w.heap.size + 1) wr ((wr.setCell ⟨w.heap.size + 1, 0, none⟩ (.slice O on oc)).setCell ⟨w.heap.size + 1, 1, none⟩ (.slice P pn pc)) := ((Below.refl _ wr).setCell (p := ⟨w.heap.size + 1, 0, none⟩) (Nat.le_refl _) _).setCell (p := ⟨w.heap.size + 1, 1, none⟩) (Nat.le_refl _) _
 have hG : wr.grownBy ((wr.setCell ⟨w.heap.size + 1, 0, none⟩ (.slice O on oc)).setCell ⟨w.heap.size + 1, 1, none⟩ (.slice P pn pc)) (some (w.heap.size + 1)) := grown_put (grown_put (World.grownBy.refl wr _) 0 _) 1 _
 have l' := Own.far hl hG (fun k hk => by injection hk; omega)
 have r' := Own.far hr hG (fun k hk => by injection hk; omega)
 refine ⟨_, _, _, _, _, _, xs, ys, rfl, RdQ.cat (ca := [_]) (cb := [_]) (rdq_own l' fun b h1 h2 _ => ⟨by omega, h2⟩) (rdq_own r' fun b h1 h2 _ => ⟨by omega, h2⟩), by rw [← Own.len hl]; exact h2, by rw [← Own.len hr]; exact h3, hd.keep (hS.mono (by omega)), grown_over h0 hS (by omega)⟩
end
def HeadL (w : World) (p : Nat) (A : Option Addr) (n c : Nat) (S : Option Addr) (sn sc : Nat) (sg : List Int) (out k : Value) (wr : World) : Prop :=
 ∃ (q : Nat) (O : Option Addr) (on oc : Nat) (xs : List Int), k = .int .i64 q ∧ q ≤ 3 ∧ out = .slice O on oc ∧ Own wr (w.heap.size + 2) (.slice O on oc) xs ∧ 1 ≤ on ∧ on + q ≤ 4 ∧ PartT sg xs q ∧ R0 w p A n c S sn sc sg wr
def HeadR (w : World) (p : Nat) (A : Option Addr) (n c : Nat) (S : Option Addr) (sn sc : Nat) (sg : List Int) (O : Option Addr) (on oc : Nat) (xs : List Int) (P : Option Addr) (pn pc : Nat) (i : Value) (wr : World) : Prop :=
 ∃ (k : Nat) (ys : List Int), i = .int .i64 k ∧ k ≤ pn ∧ RR w p A n c S sn sc sg O on oc xs P pn pc ys wr
set_option maxHeartbeats 2000000 in
theorem drawRule (p : Nat) (A : Option Addr) (n c : Nat) (S : Option Addr) (sn sc : Nat) (sg : List Int) (w : World) (hd : Dice w p A n c) (hr : Rd w p w.heap.size S sn sg) (hs : Arities sg) (hn1 : 1 ≤ sn) (hn2 : sn ≤ 256) :
  Calls Try.prog 156 #[.pointer (some ⟨p, 0, none⟩), .agg #[.slice S sn sc]] w (AnsRule w p A n c) := by
 obtain ⟨W, hW, rS, rR, b1⟩ := Go.Proofs.Ytiimbmkofpnebaa.ruleSpec.box2 w 29 85 #[.slice S sn sc] #[.slice none 0 0, .slice none 0 0]
 have T : R0 w p A n c S sn sc sg W := ⟨hd.next b1, rS, rR, hr.below b1 (Nat.le_refl _), grown_below b1 _, hd.lt⟩
 have HW := hid hW
 have hp := hd.lt
 have hsl := hid hr.1
 clear hW hd hr rS rR b1
 have cS : W.cell? ⟨w.heap.size, 0, none⟩ = some (.slice S sn sc) := T.rS.cell 0
 go_enter Try.func156, Try.ntmps156
 go_wp2_with fail
 rw [← HW.out]
 go_region_held3 (fun w' => w'.cell? ⟨w.heap.size, 0, none⟩ = some (.slice S sn sc))
  (go_keep)
  (first
   | (go_at_call 132; refine (below p A n c 2 _ T.drew.d (by omega) (by omega)).mono ?_; rintro e u1 ⟨x, rfl, x0, x1, d1, g1⟩; have T1 := T.drew.dice d1 g1; have cS1 : u1.cell? ⟨w.heap.size, 0, none⟩ = some (.slice S sn sc) := T1.rS.cell 0; have hw : IntKind.i64.wrap (2 + x) = 2 + x := by rw [IntKind.wrap_i64]; omega)
   | (go_at_call 159; refine (drawTermW p A n c S sn sc sg 2 hs (by omega) (by omega) (by omega) (by omega) 2 (2 + x) u1 T1.d (T1.s.more T1.g.size) (by omega) (by clear hw; omega) (by clear hw; omega)).mono ?_; rintro e u2 ⟨O, on, oc, xs, rfl, o2, h1, h2, sx, d2, g2⟩; have T2 := T1.dice d2 g2; have cS2 : u2.cell? ⟨w.heap.size, 0, none⟩ = some (.slice S sn sc) := T2.rS.cell 0))
 have z1 := T1.rR.lt
 have o3 : Own u2 (w.heap.size + 2) (.slice O on oc) xs := Own.lower o2 (by omega)
 have TL : RL w p A n c S sn sc sg O on oc xs u2 := ⟨T2, o3, sx, h1, h2⟩
 clear hw T T1 T2 o2 o3 d1 g1 d2 g2 cS cS1 cS2 h2 sx x0 x1
 obtain ⟨b, off, y, rfl, hb, hy, ey⟩ := (Own.seg TL.l).spot h1
 have EY := hid ey
 clear ey
 have hy0 : u2.cell? ⟨b, off, none⟩ = some (.int .i64 y) := hy
 go_upto_if 20 with fail
 go_cut [5] (fun s5 wx => ∃ O on oc xs, s5 = .slice O on oc ∧ RL w p A n c S sn sc sg O on oc xs wx)
 case first =>
  by_cases hneg : y < 0
  ·have hD := hid (below p A n c (sn : Int) _ TL.z.d (by omega) (by omega))
   have cS : u2.cell? ⟨w.heap.size, 0, none⟩ = some (.slice S sn sc) := TL.z.rS.cell 0
   go_wp2_with fail
   refine hD.out.mono ?_
   rintro e u3 ⟨x, rfl, x0, x1, d3, g3⟩
   obtain ⟨k, rfl⟩ := Int.eq_ofNat_of_zero_le x0
   have T3 := TL.z.dice d3 g3
   have hks : k < sn := by omega
   have HSL := hsl.out
   obtain ⟨bs, os, y2, rfl, hbs, hys, eys⟩ := T3.s.seg.spot hks
   have hyb := hs k (by omega)
   rw [eys.out] at hyb
   obtain ⟨q, rfl⟩ := Int.eq_ofNat_of_zero_le hyb.1
   have hq3 : q ≤ 3 := by omega
   have z3 := T3.rR.lt
   have H0 : HeadL w p A n c (some ⟨bs, os, none⟩) sn sc sg (.slice (some ⟨u3.heap.size, 0, none⟩) 1 1) (.int .i64 (q : Int)) (u3.alloc (.cells #[.int .i64 (k : Int)] 2)) :=
    ⟨q, _, _, _, [(k : Int)], rfl, hq3, rfl, Own.of_row (Row.new _ _ _) rfl rfl (Nat.le_refl _) (by omega) (by omega) (fun j hj => by match j, hj with | 0, _ => rfl), Nat.le_refl _, by omega, part_one (by rw [ar_sym (by omega) (by omega)]; simpa using eys.out), T3.over ((Below.refl _ _).alloc (by omega) _)⟩
   have HH := hid H0
   have cS1 : u3.cell? ⟨w.heap.size, 0, none⟩ = some (.slice (some ⟨bs, os, none⟩) sn sc) := T3.rS.cell 0
   have zN : w.heap.size < u3.heap.size := T3.rS.lt
   have zb : bs < u3.heap.size := by omega
   have i1 : (k : Int) < (sn : Int) := by omega
   clear H0 T3 TL d3 g3 cS eys HSL hyb hD hy hy0 EY hneg
   go_wp2_with fail
   go_loopw [5, 7] (fun out kk wr => HeadL w p A n c (some ⟨bs, os, none⟩) sn sc sg out kk wr) (fun _ kk _ => (intOf kk).toNat)
   case atStart => exact HH.out
   case round =>
    obtain ⟨q, O, on, oc, xs, rfl, hq3, rfl, ho, ho1, hoM, PT, T⟩ := hrel
    have PP := hid PT
    clear PT HH
    have cS : wr.cell? ⟨w.heap.size, 0, none⟩ = some (.slice (some ⟨bs, os, none⟩) sn sc) := T.rS.cell 0
    cases q with
    | zero =>
     have F := hid (show RL w p A n c (some ⟨bs, os, none⟩) sn sc sg O on oc xs wr from ⟨T, ho, PP.out.done, ho1, by omega⟩)
     clear T ho
     go_wp2_with fail
     go_meet
     exact ⟨_, _, _, _, rfl, F.out⟩
    | succ q =>
     have e0 : (0 : Int) < ((q + 1 : Nat) : Int) := by omega
     have hD2 := hid (drawTermW p A n c (some ⟨bs, os, none⟩) sn sc sg 2 hs (by omega) (by omega) (by omega) (by omega) 0 1 wr T.d (T.s.more T.g.size) (by omega) (by omega) (by omega))
     go_wp2_with fail
     refine hD2.out.mono ?_
     rintro e u2 ⟨O2, on2, oc2, ys, rfl, o2, h1, h2, sc2, d2, g2⟩
     have PP2 := hid (PP.out.step sc2)
     clear sc2
     have T2 := T.dice d2 g2
     have ho2 := Own.far ho g2 (fun k hk => by injection hk; omega)
     have z2 := T2.rR.lt
     have h2' : on2 ≤ 1 := h2
     clear ho T d2 g2 cS hD2 h2
     go_wp2_with (at_builtin; refine appAll rfl _ _ rfl (w.heap.size + 2) O on oc xs rfl ho2 O2 on2 oc2 u2.heap.size ys rfl (Own.seg o2) (Own.none_cap o2) (by omega) (by omega) (by omega) ?_; intro O3 oc3 u3 ho3 b3)
     have F : HeadL w p A n c (some ⟨bs, os, none⟩) sn sc sg (.slice O3 (on + on2) oc3) (.int .i64 (q : Int)) u3 := ⟨q, O3, on + on2, oc3, _, rfl, by omega, rfl, ho3, by omega, by omega, PP2.out, T2.over b3⟩
     have HF := hid F
     clear F ho3 b3 T2 ho2 o2
     go_wp2
     go_roundw
     case rel => first | exact HF.out | simpa using HF.out
     case measure => simp [intOf]
  ·go_wp2_with fail
   go_meet
   exact ⟨_, _, _, _, rfl, TL⟩
 case rest =>
  rename World => wc
  clear TL hy hy0 EY hb
  obtain ⟨O, on, oc, xs, rfl, TL⟩ := hcut
  have cS : wc.cell? ⟨w.heap.size, 0, none⟩ = some (.slice S sn sc) := TL.z.rS.cell 0
  go_wp2_with fail
  go_region_held3 (fun w' => w'.cell? ⟨w.heap.size, 0, none⟩ = some (.slice S sn sc))
   (go_keep)
   (first
    | (go_at_call 132; refine (below p A n c 3 _ TL.drew.z.d (by omega) (by omega)).mono ?_; rintro e u1 ⟨x, rfl, x0, x1, d1, g1⟩; have T1 := TL.drew.dice d1 g1; have cS1 : u1.cell? ⟨w.heap.size, 0, none⟩ = some (.slice S sn sc) := T1.z.rS.cell 0; have hw : IntKind.i64.wrap (1 + x) = 1 + x := by rw [IntKind.wrap_i64]; omega)
    | (go_at_call 159; refine (drawTermW p A n c S sn sc sg 2 hs (by omega) (by omega) (by omega) (by omega) 2 (1 + x) u1 T1.z.d (T1.z.s.more T1.z.g.size) (by omega) (by clear hw; omega) (by clear hw; omega)).mono ?_; rintro e u2 ⟨P, pn, pc, ys, rfl, o2, h1, h2, sx, d2, g2⟩; have T2 := T1.dice d2 g2; have zl := fun k hk => (Own.blk_lt T1.l k hk); have cS2 : u2.cell? ⟨w.heap.size, 0, none⟩ = some (.slice S sn sc) := T2.z.rS.cell 0))
  have z1 := TL.z.rR.lt
  have z2 := g1.size
  have TR : RR w p A n c S sn sc sg O on oc xs P pn pc ys u2 := ⟨T2, ⟨u1.heap.size, o2, by have z3 : wc.heap.size ≤ u1.heap.size := z2; omega, zl⟩, h2⟩
  obtain ⟨gp, rfl⟩ := Own.some_ o2 h1
  have hgp := fun k hk => Own.ge o2 k hk
  have H0 : HeadR w p A n c S sn sc sg O on oc xs (some ⟨gp, 0, none⟩) pn pc (.int .i64 0) u2 := ⟨0, ys, rfl, by omega, TR⟩
  have HH := hid H0
  have hp16 : pn ≤ 16 := h2
  clear H0 TR hw TL T1 T2 o2 zl d1 g1 d2 g2 cS cS1 cS2 h2 sx x0 x1 z1 z2
  go_wp2_with fail
  go_loopw [9] (fun i wr => HeadR w p A n c S sn sc sg O on oc xs (some ⟨gp, 0, none⟩) pn pc i wr) (fun i _ => pn - (intOf i).toNat)
  case atStart => exact HH.out
  case round =>
   obtain ⟨k, ys, rfl, hk, T⟩ := hrel
   clear HH
   have cR : wr.cell? ⟨w.heap.size + 1, 0, none⟩ = some (.slice none 0 0) := T.z.z.rR.cell 0
   have cR1 : wr.cell? ⟨w.heap.size + 1, 1, none⟩ = some (.slice none 0 0) := T.z.z.rR.cell 1
   have fR : wr.frozen? ⟨w.heap.size + 1, 0, none⟩ = false := T.z.z.rR.free 0
   have fR1 : wr.frozen? ⟨w.heap.size + 1, 1, none⟩ = false := T.z.z.rR.free 1
   by_cases hlt : k < pn
   ·obtain ⟨B, hO, hB, hl⟩ := T.r
    obtain ⟨b2, off2, y, eP, hb2, hy2, ey2⟩ := (Own.seg hO).spot hlt
    injection eP with eP
    injection eP with eP1 eP2
    subst eP1 eP2
    have hy2' : wr.cell? ⟨gp, k, none⟩ = some (.int .i64 y) := by simpa using hy2
    have i1 : (k : Int) < (pn : Int) := by omega
    have zR := T.z.z.rR.lt
    have hge := Own.ge hO gp rfl
    by_cases hneg : y < 0
    ·have L := hid (l1Has O on oc xs y wr (Own.seg T.z.l) (by have := T.z.h2; omega))
     by_cases hin : y ∈ xs
     ·rw [decide_eq_true hin] at L
      have F := hid (show HeadR w p A n c S sn sc sg O on oc xs (some ⟨gp, 0, none⟩) pn pc (.int .i64 ((k : Int) + 1)) wr from ⟨k + 1, ys, by simp, by omega, T⟩)
      clear T hO
      go_wp2_with fail
      refine L.out.mono ?_
      rintro e w' ⟨rfl, rfl⟩
      clear L
      go_wp2
      go_roundw
      case rel => exact F.out
      case measure => first | (simp [intOf]; done) | (simp [intOf]; omega)
     ·rw [decide_eq_false hin] at L
      have L2 := hid (l2Order O on oc xs wr (Own.seg T.z.l) (by have := T.z.h2; omega))
      go_wp2_with fail
      refine L.out.mono ?_
      rintro e w' ⟨rfl, rfl⟩
      clear L
      go_wp2_with fail
      refine L2.out.mono ?_
      rintro e w2 ⟨V, vn, vc, rfl, ov, b3⟩
      replace T := T.next b3
      have cR : w2.cell? ⟨w.heap.size + 1, 0, none⟩ = some (.slice none 0 0) := T.z.z.rR.cell 0
      have cR1 : w2.cell? ⟨w.heap.size + 1, 1, none⟩ = some (.slice none 0 0) := T.z.z.rR.cell 1
      have fR : w2.frozen? ⟨w.heap.size + 1, 0, none⟩ = false := T.z.z.rR.free 0
      have fR1 : w2.frozen? ⟨w.heap.size + 1, 1, none⟩ = false := T.z.z.rR.free 1
      have cS : w2.cell? ⟨w.heap.size, 0, none⟩ = some (.slice S sn sc) := T.z.z.rS.cell 0
      by_cases hv0 : vn = 0
      ·subst hv0
       have hon := hid (Own.len T.z.l)
       have ho1 := T.z.h1
       obtain ⟨a, rfl⟩ : ∃ a, on = a + 1 := ⟨on - 1, by omega⟩
       obtain ⟨j, hj, hj1, hj2⟩ := scan_at T.z.sc (show a < xs.length by have := hon.out; omega)
       have hcap := Own.cap T.z.l
       have L3 := hid (l1Sub S O sn sc (a + 1) oc sg xs a j w2 (T.z.z.s.more T.z.z.g.size).seg (Own.seg T.z.l) (by omega) (by have := T.z.h2; omega) hcap.1 hcap.2 hs (by omega) hj hj1 (by have := hon.out; omega))
       clear L2 hO hj hj2 cR cR1 fR fR1
       go_wp2_with fail
       refine L3.out.mono ?_
       rintro e w3 ⟨D, dn, dc, rfl, od, b4⟩
       replace T := T.next b4
       have cR : w3.cell? ⟨w.heap.size + 1, 0, none⟩ = some (.slice none 0 0) := T.z.z.rR.cell 0
       have cR1 : w3.cell? ⟨w.heap.size + 1, 1, none⟩ = some (.slice none 0 0) := T.z.z.rR.cell 1
       have fR : w3.frozen? ⟨w.heap.size + 1, 0, none⟩ = false := T.z.z.rR.free 0
       have fR1 : w3.frozen? ⟨w.heap.size + 1, 1, none⟩ = false := T.z.z.rR.free 1
       have hdn : dn ≤ 16 := by
        rw [Own.len od]
        have := T.z.h2
        unfold subL
        rw [List.length_take, List.length_drop]
        have := hon.out
        omega
       have z5 := b3.size
       have F := hid (rule_result T.z.z.g T.z.z.d hp T.z.l od (by omega) T.z.h2 hdn)
       clear T od L3 b3 b4 cS ov
       go_wp2
       exact bodyPost_ret (v := .agg #[.slice O (a + 1) oc, .slice D dn dc]) (by simp [results, Try.results156, go_sem, cR, cR1]) rfl F.out
      ·obtain ⟨b4, off4, v, rfl, hb4, hv4, ev4⟩ := (Own.seg ov).spot (show 0 < vn by omega)
       have hv4' : w2.cell? ⟨b4, off4, none⟩ = some (.int .i64 v) := hv4
       have T2 := T.put k v
       have F := hid (show HeadR w p A n c S sn sc sg O on oc xs (some ⟨gp, 0, none⟩) pn pc (.int .i64 ((k : Int) + 1)) (w2.setCell ⟨gp, k, none⟩ (.int .i64 v)) from ⟨k + 1, _, by simp, by omega, T2⟩)
       have hy3 : w2.cell? ⟨gp, k, none⟩ = some (.int .i64 y) := (b3.cell (p := ⟨gp, k, none⟩) (by show gp < wr.heap.size; omega)).trans hy2'
       have f3 : w2.frozen? ⟨gp, k, none⟩ = false := by
        obtain ⟨B', hO', _⟩ := T.r
        exact Own.frozenAt hO' k
       have e0 : (0 : Int) < (vn : Int) := by omega
       clear T2 T hO L2 ov b3 ev4 cR cR1 fR fR1 hv4
       go_wp2
       go_roundw
       case rel => exact F.out
       case measure => first | (simp [intOf]; done) | (simp [intOf]; omega)
    ·have F := hid (show HeadR w p A n c S sn sc sg O on oc xs (some ⟨gp, 0, none⟩) pn pc (.int .i64 ((k : Int) + 1)) wr from ⟨k + 1, ys, by simp, by omega, T⟩)
     clear T hO
     go_wp2
     go_roundw
     case rel => exact F.out
     case measure => first | (simp [intOf]; done) | (simp [intOf]; omega)
   ·have e1 : k = pn := by omega
    subst e1
    obtain ⟨B, hO, hB, hl⟩ := T.r
    have F := hid (rule_result T.z.z.g T.z.z.d hp T.z.l hO hB T.z.h2 T.h3)
    clear T hO hgp
    go_wp2
    exact bodyPost_ret (v := .agg #[.slice O on oc, .slice (some ⟨gp, 0, none⟩) k pc]) (by simp [results, Try.results156, go_sem, cR, cR1]) rfl F.out
end drawRule
end
section
namespace substOk
open Go.RowKit base ints sig term termOk marks app sym sub segs segsHelp termFacts varsMath varsOf fillMath Go.Proofs.Ytiimbmkofpnebaa.look
set_option maxRecDepth 100000
def goodB (sg t : List Int) : Bool := decide (t.length = 0) || termOkB sg t
def HeadSO (w : World) (A : Option Addr) (n c : Nat) (S : Option Addr) (m c' : Nat) (sg : List Int) (ss : List (List Int)) (i : Value) (wr : World) : Prop :=
 ∃ k : Nat, k ≤ m ∧ i = .int .i64 k ∧ (∀ j, j < k → goodB sg (ss.getD j []) = true) ∧ Row wr w.heap.size 29 #[.slice A n c] ∧ Row wr (w.heap.size + 1) 37 #[.slice S m c'] ∧ Below w.heap.size w wr
theorem headSO_step {w wr : World} {A : Option Addr} {n c : Nat} {S : Option Addr} {m c' : Nat} {sg : List Int} {ss : List (List Int)} {k : Nat} (hk : k < m) (hlow : ∀ j, j < k → goodB sg (ss.getD j []) = true) (hg : goodB sg (ss.getD k []) = true)
  (r1 : Row wr w.heap.size 29 #[.slice A n c]) (r2 : Row wr (w.heap.size + 1) 37 #[.slice S m c']) (hb : Below w.heap.size w wr) : HeadSO w A n c S m c' sg ss (.int .i64 ((k : Int) + 1)) wr :=
 ⟨k + 1, hk, by simp, fun j hj => by
  by_cases e : j = k
  ·subst e; exact hg
  ·exact hlow j (by omega), r1, r2, hb⟩
end substOk
end
section
namespace gives
open Go.RowKit base ints sig term termOk marks app sym sub segs segsHelp termFacts varsMath varsOf fillMath Go.Proofs.Ytiimbmkofpnebaa.look substOk
set_option maxRecDepth 100000
end gives
end
section
namespace plainOf
open Go.RowKit base ints sig cursor marks app appAt sym sub segs segsHelp kinds varsOf fillMath Go.Proofs.Ytiimbmkofpnebaa.look substOk gives plainMath plain
set_option maxRecDepth 100000
end plainOf
end
section
namespace compMath
open term termOk termFacts segsHelp fillMath substOk gives plainMath plainOf
end compMath
end
section
namespace shifted
open Go.RowKit base ints sig term termOk marks app sym segs termFacts varsMath fillMath Go.Proofs.Ytiimbmkofpnebaa.look
set_option maxRecDepth 100000
end shifted
end
section
namespace filled
open Go.RowKit base ints sig cursor term termOk marks app appAt sym sub segs segsHelp termFacts varsMath varsOf fillMath Go.Proofs.Ytiimbmkofpnebaa.look shifted substOk gives
set_option maxRecDepth 100000
end filled
end
section
namespace maxi
open Go.RowKit base
end maxi
end
section
namespace compSpec
open Go.RowKit base ints sig cursor marks app appAt sym segs segsHelp kinds termFacts fillMath substOk gives shifted filled plainMath plain plainOf compMath maxi
set_option maxRecDepth 100000
end compSpec
end
section
namespace thn
open Go.RowKit base ints cursor marks app sym segs fillMath Go.Proofs.Ytiimbmkofpnebaa.look
set_option maxRecDepth 100000
def LooksE (x : Option Nat) (g : Nat) (lb : Array Value) (w : World) (L : Nat → List Int) (N : Nat) : Prop :=
 ∀ (W : World) (i : Nat), w.grownBy W x → i < N → Calls Try.prog g (#[.int .i64 (i : Int)] ++ lb) W (AnsLook w.heap.size W (L i))
section
variable {x : Option Nat} {g : Nat} {lb : Array Value} {w w' : World} {L L' : Nat → List Int} {N : Nat}
theorem LooksE.next (h : LooksE x g lb w L N) (hg : w.grownBy w' x) : LooksE x g lb w' L N :=
 fun W i hW hi => (h W i (grown_trans hg hW) hi).mono fun _ _ ⟨A, n, c, he, h1, h2, h3, h4⟩ => ⟨A, n, c, he, h1, h2, fun k hk => by have := h3 k hk; have := hg.size; omega, h4⟩
theorem LooksE.ext (h : LooksE x g lb w L N) (e : ∀ i, i < N → L i = L' i) : LooksE x g lb w L' N := fun W i hW hi => by rw [← e i hi]; exact h W i hW hi
end
end thn
end
section
namespace compImpl
open Go.RowKit base ints sig cursor marks app appAt sym segs segsHelp kinds termFacts fillMath Go.Proofs.Ytiimbmkofpnebaa.look substOk gives shifted filled plainMath plain plainOf compMath compSpec thn
set_option maxRecDepth 100000
theorem sz_alloc (w : World) (o : Obj) : (w.alloc o).heap.size = w.heap.size + 1 := by simp
theorem row_top {w : World} {t : TypeId} {cs : Array Value} {n : Nat} (hn : n = w.heap.size) : Row (w.alloc (.cells cs t)) n t cs := by subst hn; exact Row.new _ _ _
theorem row_alloc {w : World} {o : Obj} {t : TypeId} {cs : Array Value} {n : Nat} (h : Row w n t cs) : Row (w.alloc o) n t cs := h.alloc o
end compImpl
end
section
namespace drawKnown
open Go.RowKit base ints sig term cursor marks app appAt sym segs dice drawSig drawTerm drawAny drawSub drawS drawX drawRule compImpl
open shape (Sh Dat nc dft sI sz)
open kindsR (sRule)
set_option maxRecDepth 100000
def SmallD (M : Nat) (D : List (Dat sRule)) : Prop := D.length ≤ M ∧ ∀ j, ((D.getD j (dft sRule)).1 : List Int).length ≤ 65 ∧ ((D.getD j (dft sRule)).2 : List Int).length ≤ 65
def AnsKnown (w : World) (e : Ending) (w' : World) : Prop :=
 ∃ S sn sc R rn rc D, e = .returned (.agg #[.slice S sn sc, .slice R rn rc]) ∧ Own w' w.heap.size (.slice S sn sc) [2, 1, 0] ∧ blk S ≠ blk R ∧ (∀ p, p < w.heap.size → OwnQ w' p w.heap.size 85 sRule R rn rc D) ∧ SmallD 3 D ∧ Below w.heap.size w w'
abbrev Lit := (Nat × List Int) × (Nat × List Int)
def vsOf : List Lit → List Value
 | [] => []
 | r :: rs => .slice (some ⟨r.1.1, 0, none⟩) r.1.2.length r.1.2.length :: .slice (some ⟨r.2.1, 0, none⟩) r.2.2.length r.2.2.length :: vsOf rs
def dOf (RS : List Lit) : List (Dat sRule) := RS.map fun r => ((r.1.2, r.2.2) : List Int × List Int)
def nums (xs : List Int) : Array Value := (xs.map (Value.int .i64)).toArray
theorem vs_len : ∀ RS : List Lit, (vsOf RS).length = RS.length * 2
 | [] => rfl
 | _ :: rs => by simp only [vsOf, List.length_cons, vs_len rs]; omega
theorem cells_vs : ∀ {RS : List Lit} {j : Nat} {r : Lit}, RS[j]? = some r → cellsOf 2 (vsOf RS) j = [.slice (some ⟨r.1.1, 0, none⟩) r.1.2.length r.1.2.length, .slice (some ⟨r.2.1, 0, none⟩) r.2.2.length r.2.2.length]
 | [], j, _, h => by simp at h
 | _ :: _, 0, _, h => by simp at h; subst h; rfl
 | _ :: rs, j + 1, r, h => by
  have h1 : rs[j]? = some r := by simpa using h
  have h2 := cells_vs h1
  unfold cellsOf at h2 ⊢
  rw [show (j + 1) * 2 = (j * 2 + 1) + 1 by omega]
  exact h2
theorem lit_seg {w : World} {Q : Nat → Prop} {g : Nat} {xs : List Int} (h : Row w g 2 (nums xs)) (hl : xs.length ≤ 65) (hQ : Q g) : RdQ w Q sI [.slice (some ⟨g, 0, none⟩) xs.length xs.length] xs :=
 rdq_seg rfl ⟨Nat.le_refl _, by omega, fun e => by cases e⟩ fun _ => ⟨g, 0, rfl, hQ, fun j hj => by
  rw [Nat.zero_add, Row.cell (t := 2) (cs := nums xs) h]
  simp [nums, List.getD, hj]⟩
theorem known_of {w W : World} (gR : Nat) (RS : List Lit) (hS : Row W (w.heap.size + 1) 2 (nums [2, 1, 0])) (hR : Row W gR 85 (vsOf RS).toArray) (hg : w.heap.size + 1 < gR) (hn : RS.length ≤ 3) (hn0 : RS ≠ [])
  (h : ∀ r ∈ RS, Row W r.1.1 2 (nums r.1.2) ∧ Row W r.2.1 2 (nums r.2.2) ∧ w.heap.size < r.1.1 ∧ r.1.1 < gR ∧ w.heap.size < r.2.1 ∧ r.2.1 < gR ∧ r.1.2.length ≤ 65 ∧ r.2.2.length ≤ 65) (hb : Below w.heap.size w W) :
  AnsKnown w (.returned (.agg #[.slice (some ⟨w.heap.size + 1, 0, none⟩) 3 3, .slice (some ⟨gR, 0, none⟩) RS.length RS.length])) W := by
 have hz := hR.lt
 refine ⟨_, _, _, _, _, _, dOf RS, rfl, Own.of_row hS rfl rfl (Nat.le_refl _) (by omega) (by omega) (fun j hj => ?_), fun e => ?_, fun p hp => ⟨by simp [dOf], vsOf RS, ?_, fun j hj => ?_⟩, ⟨by simpa [dOf] using hn, fun j => ?_⟩, hb⟩
 ·match j, hj with
  | 0, _ => rfl
  | 1, _ => rfl
  | 2, _ => rfl
 ·injection e with e
  have e : w.heap.size + 1 = gR := e
  omega
 ·refine ⟨by rw [vs_len]; rfl, .inr ⟨gR, RS.length, _, rfl, by omega, hR, Nat.le_refl _, by unfold maxLen; omega, by rw [List.size_toArray, vs_len]; rfl, ?_⟩⟩
  rw [List.take_of_length_le (by rw [vs_len]; exact Nat.le_refl _)]
 ·obtain ⟨r, hr⟩ : ∃ r, RS[j]? = some r := ⟨RS[j], by simp [hj]⟩
  obtain ⟨h1, h2, h3, h4, h5, h6, h7, h8⟩ := h r (List.mem_of_getElem? hr)
  rw [show nc sRule = 2 from rfl, cells_vs hr]
  have e : (dOf RS).getD j (dft sRule) = ((r.1.2, r.2.2) : List Int × List Int) := by simp [dOf, List.getD, hr]
  rw [e]
  have ne : ∀ g, g < gR → some g ≠ blk (some ⟨gR, 0, none⟩) := fun g hg e => by injection e with e; have e : g = gR := e; omega
  exact RdQ.cat (ca := [_]) (cb := [_]) (lit_seg h1 h7 ⟨by omega, by omega, ne _ h4⟩) (lit_seg h2 h8 ⟨by omega, by omega, ne _ h6⟩)
 ·cases hr : RS[j]? with
  | none =>
   have e : (dOf RS).getD j (dft sRule) = dft sRule := by simp [dOf, List.getD, hr]
   rw [e]
   exact ⟨Nat.zero_le _, Nat.zero_le _⟩
  | some r =>
   have e : (dOf RS).getD j (dft sRule) = ((r.1.2, r.2.2) : List Int × List Int) := by simp [dOf, List.getD, hr]
   obtain ⟨h1, h2, h3, h4, h5, h6, h7, h8⟩ := h r (List.mem_of_getElem? hr)
   rw [e]
   exact ⟨h7, h8⟩
set_option maxHeartbeats 2000000 in
theorem known (k : Int) (w : World) :
  Calls Try.prog 154 #[.int .i64 k] w (AnsKnown w) := by
 by_cases h0 : k = 0
 ·subst h0
  go_enter Try.func154, Try.ntmps154
  go_wp2
  refine bodyPost_ret (v := .agg #[.slice (some ⟨w.heap.size + 1, 0, none⟩) 3 3, .slice (some ⟨w.heap.size + 7, 0, none⟩) 2 2]) (by simp [results, Try.results154, go_sem]) rfl ?_
  refine known_of (w.heap.size + 7) [((w.heap.size + 3, [0, 2, -1]), (w.heap.size + 4, [-1])), ((w.heap.size + 5, [0, 1, -1, -2]), (w.heap.size + 6, [1, 0, -1, -2]))] (by repeat (first | ((refine row_top ?_); ((try simp only [sz_alloc]) <;> omega); done) | (refine row_alloc ?_))) (by repeat (first | ((refine row_top ?_); ((try simp only [sz_alloc]) <;> omega); done) | (refine row_alloc ?_))) (by omega) (by simp) (by simp) ?_ (by repeat (first | (exact Below.refl _ _) | (refine Below.alloc ?_ (by simp; try omega) _)))
  intro r hr
  simp only [List.mem_cons, List.not_mem_nil, or_false] at hr
  rcases hr with rfl | rfl
  all_goals exact ⟨(by repeat (first | ((refine row_top ?_); ((try simp only [sz_alloc]) <;> omega); done) | (refine row_alloc ?_))), (by repeat (first | ((refine row_top ?_); ((try simp only [sz_alloc]) <;> omega); done) | (refine row_alloc ?_))), by simp, by simp, by simp, by simp, by simp, by simp⟩
 by_cases h1 : k = 1
 ·subst h1
  clear h0
  go_enter Try.func154, Try.ntmps154
  go_wp2
  refine bodyPost_ret (v := .agg #[.slice (some ⟨w.heap.size + 1, 0, none⟩) 3 3, .slice (some ⟨w.heap.size + 5, 0, none⟩) 1 1]) (by simp [results, Try.results154, go_sem]) rfl ?_
  refine known_of (w.heap.size + 5) [((w.heap.size + 3, [0, 0, -1, -2, -3]), (w.heap.size + 4, [0, -1, 0, -2, -3]))] (by repeat (first | ((refine row_top ?_); ((try simp only [sz_alloc]) <;> omega); done) | (refine row_alloc ?_))) (by repeat (first | ((refine row_top ?_); ((try simp only [sz_alloc]) <;> omega); done) | (refine row_alloc ?_))) (by omega) (by simp) (by simp) ?_ (by repeat (first | (exact Below.refl _ _) | (refine Below.alloc ?_ (by simp; try omega) _)))
  intro r hr
  simp only [List.mem_cons, List.not_mem_nil, or_false] at hr
  subst hr
  all_goals exact ⟨(by repeat (first | ((refine row_top ?_); ((try simp only [sz_alloc]) <;> omega); done) | (refine row_alloc ?_))), (by repeat (first | ((refine row_top ?_); ((try simp only [sz_alloc]) <;> omega); done) | (refine row_alloc ?_))), by simp, by simp, by simp, by simp, by simp, by simp⟩
 by_cases h2 : k = 2
 ·subst h2
  clear h0 h1
  go_enter Try.func154, Try.ntmps154
  go_wp2
  refine bodyPost_ret (v := .agg #[.slice (some ⟨w.heap.size + 1, 0, none⟩) 3 3, .slice (some ⟨w.heap.size + 5, 0, none⟩) 1 1]) (by simp [results, Try.results154, go_sem]) rfl ?_
  refine known_of (w.heap.size + 5) [((w.heap.size + 3, [1, 1, -1]), (w.heap.size + 4, [-1]))] (by repeat (first | ((refine row_top ?_); ((try simp only [sz_alloc]) <;> omega); done) | (refine row_alloc ?_))) (by repeat (first | ((refine row_top ?_); ((try simp only [sz_alloc]) <;> omega); done) | (refine row_alloc ?_))) (by omega) (by simp) (by simp) ?_ (by repeat (first | (exact Below.refl _ _) | (refine Below.alloc ?_ (by simp; try omega) _)))
  intro r hr
  simp only [List.mem_cons, List.not_mem_nil, or_false] at hr
  subst hr
  all_goals exact ⟨(by repeat (first | ((refine row_top ?_); ((try simp only [sz_alloc]) <;> omega); done) | (refine row_alloc ?_))), (by repeat (first | ((refine row_top ?_); ((try simp only [sz_alloc]) <;> omega); done) | (refine row_alloc ?_))), by simp, by simp, by simp, by simp, by simp, by simp⟩
 by_cases h3 : k = 3
 ·subst h3
  clear h0 h1 h2
  go_enter Try.func154, Try.ntmps154
  go_wp2
  refine bodyPost_ret (v := .agg #[.slice (some ⟨w.heap.size + 1, 0, none⟩) 3 3, .slice (some ⟨w.heap.size + 5, 0, none⟩) 1 1]) (by simp [results, Try.results154, go_sem]) rfl ?_
  refine known_of (w.heap.size + 5) [((w.heap.size + 3, [1, -1]), (w.heap.size + 4, [1, 1, -1]))] (by repeat (first | ((refine row_top ?_); ((try simp only [sz_alloc]) <;> omega); done) | (refine row_alloc ?_))) (by repeat (first | ((refine row_top ?_); ((try simp only [sz_alloc]) <;> omega); done) | (refine row_alloc ?_))) (by omega) (by simp) (by simp) ?_ (by repeat (first | (exact Below.refl _ _) | (refine Below.alloc ?_ (by simp; try omega) _)))
  intro r hr
  simp only [List.mem_cons, List.not_mem_nil, or_false] at hr
  subst hr
  all_goals exact ⟨(by repeat (first | ((refine row_top ?_); ((try simp only [sz_alloc]) <;> omega); done) | (refine row_alloc ?_))), (by repeat (first | ((refine row_top ?_); ((try simp only [sz_alloc]) <;> omega); done) | (refine row_alloc ?_))), by simp, by simp, by simp, by simp, by simp, by simp⟩
 by_cases h4 : k = 4
 ·subst h4
  clear h0 h1 h2 h3
  go_enter Try.func154, Try.ntmps154
  go_wp2
  refine bodyPost_ret (v := .agg #[.slice (some ⟨w.heap.size + 1, 0, none⟩) 3 3, .slice (some ⟨w.heap.size + 7, 0, none⟩) 2 2]) (by simp [results, Try.results154, go_sem]) rfl ?_
  refine known_of (w.heap.size + 7) [((w.heap.size + 3, [0, -1, -2]), (w.heap.size + 4, [-1])), ((w.heap.size + 5, [0, -1, -2]), (w.heap.size + 6, [-2]))] (by repeat (first | ((refine row_top ?_); ((try simp only [sz_alloc]) <;> omega); done) | (refine row_alloc ?_))) (by repeat (first | ((refine row_top ?_); ((try simp only [sz_alloc]) <;> omega); done) | (refine row_alloc ?_))) (by omega) (by simp) (by simp) ?_ (by repeat (first | (exact Below.refl _ _) | (refine Below.alloc ?_ (by simp; try omega) _)))
  intro r hr
  simp only [List.mem_cons, List.not_mem_nil, or_false] at hr
  rcases hr with rfl | rfl
  all_goals exact ⟨(by repeat (first | ((refine row_top ?_); ((try simp only [sz_alloc]) <;> omega); done) | (refine row_alloc ?_))), (by repeat (first | ((refine row_top ?_); ((try simp only [sz_alloc]) <;> omega); done) | (refine row_alloc ?_))), by simp, by simp, by simp, by simp, by simp, by simp⟩
 by_cases h5 : k = 5
 ·subst h5
  clear h0 h1 h2 h3 h4
  go_enter Try.func154, Try.ntmps154
  go_wp2
  refine bodyPost_ret (v := .agg #[.slice (some ⟨w.heap.size + 1, 0, none⟩) 3 3, .slice (some ⟨w.heap.size + 5, 0, none⟩) 1 1]) (by simp [results, Try.results154, go_sem]) rfl ?_
  refine known_of (w.heap.size + 5) [((w.heap.size + 3, [0, -1, -2]), (w.heap.size + 4, [0, -2, -1]))] (by repeat (first | ((refine row_top ?_); ((try simp only [sz_alloc]) <;> omega); done) | (refine row_alloc ?_))) (by repeat (first | ((refine row_top ?_); ((try simp only [sz_alloc]) <;> omega); done) | (refine row_alloc ?_))) (by omega) (by simp) (by simp) ?_ (by repeat (first | (exact Below.refl _ _) | (refine Below.alloc ?_ (by simp; try omega) _)))
  intro r hr
  simp only [List.mem_cons, List.not_mem_nil, or_false] at hr
  subst hr
  all_goals exact ⟨(by repeat (first | ((refine row_top ?_); ((try simp only [sz_alloc]) <;> omega); done) | (refine row_alloc ?_))), (by repeat (first | ((refine row_top ?_); ((try simp only [sz_alloc]) <;> omega); done) | (refine row_alloc ?_))), by simp, by simp, by simp, by simp, by simp, by simp⟩
 go_enter Try.func154, Try.ntmps154
 go_wp2
 refine bodyPost_ret (v := .agg #[.slice (some ⟨w.heap.size + 1, 0, none⟩) 3 3, .slice (some ⟨w.heap.size + 9, 0, none⟩) 3 3]) (by simp [results, Try.results154, go_sem]) rfl ?_
 refine known_of (w.heap.size + 9) [((w.heap.size + 3, [0, 2, -1]), (w.heap.size + 4, [-1])), ((w.heap.size + 5, [0, 1, -1, -1]), (w.heap.size + 6, [2])), ((w.heap.size + 7, [0, 0, -1, -2, -3]), (w.heap.size + 8, [0, -1, 0, -2, -3]))] (by repeat (first | ((refine row_top ?_); ((try simp only [sz_alloc]) <;> omega); done) | (refine row_alloc ?_))) (by repeat (first | ((refine row_top ?_); ((try simp only [sz_alloc]) <;> omega); done) | (refine row_alloc ?_))) (by omega) (by simp) (by simp) ?_ (by repeat (first | (exact Below.refl _ _) | (refine Below.alloc ?_ (by simp; try omega) _)))
 intro r hr
 simp only [List.mem_cons, List.not_mem_nil, or_false] at hr
 rcases hr with rfl | rfl | rfl
 all_goals exact ⟨(by repeat (first | ((refine row_top ?_); ((try simp only [sz_alloc]) <;> omega); done) | (refine row_alloc ?_))), (by repeat (first | ((refine row_top ?_); ((try simp only [sz_alloc]) <;> omega); done) | (refine row_alloc ?_))), by simp, by simp, by simp, by simp, by simp, by simp⟩
end drawKnown
end
section
open Go.Lib (hid)
namespace drawSys
open Go.RowKit base ints sig term cursor marks app appAt sym dice drawSig drawTerm drawAny drawSub drawS drawX drawRule drawKnown
open shape (Sh Dat nc dft sI sz)
open kindsR (sRule info_RuleS)
set_option maxRecDepth 100000
theorem ints_ne {w : World} {Q : Nat → Prop} {N : Nat} {t : TypeId} {cs : List Value} {xs : List Int} {a1 a2 : Option Addr} {l1 k1 l2 k2 : Nat} (h : RdQ w Q sI cs xs) (hN : Row w N t #[.slice a1 l1 k1, .slice a2 l2 k2]) : RdQ w (fun b => Q b ∧ b ≠ N) sI cs xs := by
 obtain ⟨A, n, c, e, hc, hl, h1⟩ := h
 refine ⟨A, n, c, e, hc, hl, fun hn => ?_⟩
 obtain ⟨b, off, e2, hb, h2⟩ := h1 hn
 refine ⟨b, off, e2, ⟨hb, fun e3 => ?_⟩, h2⟩
 subst e3
 obtain ⟨es, he, hp, hr⟩ := h2 0 hn
 have hr : es = [.int .i64 (xs.getD 0 0)] := hr
 subst hr
 have h3 := hp 0 (by simp)
 rw [show off + 0 * nc .num + 0 = off by simp] at h3
 rw [Row.cell (t := t) (cs := #[.slice a1 l1 k1, .slice a2 l2 k2]) hN] at h3
 match off, h3 with
 | 0, h3 => simp at h3
 | 1, h3 => simp at h3
 | off + 2, h3 => simp at h3
theorem rule_ne {w : World} {Q : Nat → Prop} {N : Nat} {t : TypeId} {cs : List Value} {d : Dat sRule} {a1 a2 : Option Addr} {l1 k1 l2 k2 : Nat} (h : RdQ w Q sRule cs d) (hN : Row w N t #[.slice a1 l1 k1, .slice a2 l2 k2]) : RdQ w (fun b => Q b ∧ b ≠ N) sRule cs d := by
 obtain ⟨ca, cb, e, h1, h2⟩ := h
 exact ⟨ca, cb, e, ints_ne h1 hN, ints_ne h2 hN⟩
theorem ints_put {w : World} {p : Nat} {r : Option Nat} {N : Nat} {t : TypeId} {cs : List Value} {xs : List Int} {a1 a2 : Option Addr} {l1 k1 l2 k2 : Nat} (h : RdQ w (OutR w p r) sI cs xs) (hN : Row w N t #[.slice a1 l1 k1, .slice a2 l2 k2]) (i : Nat) (u : Value) : RdQ (w.setCell ⟨N, i, none⟩ u) (OutR (w.setCell ⟨N, i, none⟩ u) p r) sI cs xs :=
 ((ints_ne h hN).keep fun b hb => Below.heap_setCell w _ u b hb.2).mono fun b hb => ⟨by simpa using hb.1.1, hb.1.2⟩
theorem ownQ_put {w : World} {p lo : Nat} {e : TypeId} {A : Option Addr} {n c : Nat} {D : List (Dat sRule)} {N : Nat} {t : TypeId} {a1 a2 : Option Addr} {l1 k1 l2 k2 : Nat} (h : OwnQ w p lo e sRule A n c D) (hN : Row w N t #[.slice a1 l1 k1, .slice a2 l2 k2]) (hA : blk A ≠ some N) (i : Nat) (u : Value) : OwnQ (w.setCell ⟨N, i, none⟩ u) p lo e sRule A n c D := by
 obtain ⟨h1, vs, h2, h3⟩ := h
 refine ⟨h1, vs, World.ownsRow.kept h2 (grown_put (World.grownBy.refl w _) i u) (.inr (by rw [blk_own]; exact hA)), fun j hj => ?_⟩
 exact ((rule_ne (h3 j hj) hN).keep fun b hb => Below.heap_setCell w _ u b hb.2).mono fun b hb => ⟨by simpa using hb.1.1, hb.1.2⟩
theorem rd_of {w : World} {p : Nat} {r : Option Nat} {S : Option Addr} {sn sc : Nat} {sg : List Int} (h : RdQ w (OutR w p r) sI [.slice S sn sc] sg) : Go.Proofs.Ytiimbmkofpnebaa.drawTerm.Rd w p w.heap.size S sn sg := by
 obtain ⟨A, n, c, e, hc, hl, h1⟩ := h
 injection e with e _
 injection e with e1 e2 e3
 subst e1 e2 e3
 refine ⟨hl, fun hn => ?_⟩
 obtain ⟨b, off, e2, hb, h2⟩ := h1 hn
 refine ⟨b, off, e2, hb.1, hb.2.1, fun j hj => ?_⟩
 obtain ⟨es, he, hp, hr⟩ := h2 j hj
 have hr : es = [.int .i64 (sg.getD j 0)] := hr
 subst hr
 have h3 := hp 0 (by simp)
 simpa [nc] using h3
def AnsSys (w : World) (p : Nat) (A : Option Addr) (n c M : Nat) (e : Ending) (w' : World) : Prop :=
 ∃ S sn sc sg R rn rc D, e = .returned (.agg #[.slice S sn sc, .slice R rn rc]) ∧ RdQ w' (OutR w' p (blk R)) sI [.slice S sn sc] (sg : List Int) ∧ sg.length ≤ 9 ∧ OwnQ w' p w.heap.size 85 sRule R rn rc D ∧ SmallD M D ∧ Dice w' p A n c ∧ w.grownBy w' (some p)
structure Y0 (w : World) (p : Nat) (A : Option Addr) (n c : Nat) (wr : World) : Prop where
 d : Dice wr p A n c
 rN : Row wr w.heap.size 51 #[.slice none 0 0, .slice none 0 0]
 g : w.grownBy wr (some p)
 hp : p < w.heap.size
structure YA (w : World) (p : Nat) (A : Option Addr) (n c : Nat) (o : Nat) (S : Option Addr) (sn sc : Nat) (sg : List Int) (R : Option Addr) (rn rc : Nat) (D : List (Dat sRule)) (wr : World) : Prop where
 z : Y0 w p A n c wr
 rO : Row wr o 51 #[.slice S sn sc, .slice R rn rc]
 s : RdQ wr (OutR wr p (blk R)) sI [.slice S sn sc] sg
 own : OwnQ wr p (w.heap.size + 1) 85 sRule R rn rc D
 hR : blk R ≠ some o
 ho : w.heap.size < o
section
variable {w : World} {p : Nat} {A : Option Addr} {n c : Nat} {o : Nat} {S : Option Addr} {sn sc : Nat} {sg : List Int} {R : Option Addr} {rn rc : Nat} {D : List (Dat sRule)} {wr w' : World}
theorem Y0.dice (t : Y0 w p A n c wr) (d : Dice w' p A n c) (hg : wr.grownBy w' (some p)) : Y0 w p A n c w' :=
 ⟨d, Row.away t.rN hg (fun e => by injection e; have := t.hp; omega), grown_trans t.g hg, t.hp⟩
theorem Y0.over (t : Y0 w p A n c wr) (hb : Below (w.heap.size + 1) wr w') : Y0 w p A n c w' :=
 ⟨t.d.keep (hb.mono (by have := t.hp; omega)), t.rN.below hb (by omega), grown_over t.g hb (by omega), t.hp⟩
theorem YA.dice (t : YA w p A n c o S sn sc sg R rn rc D wr) (d : Dice w' p A n c) (hg : wr.grownBy w' (some p)) : YA w p A n c o S sn sc sg R rn rc D w' :=
 ⟨t.z.dice d hg, Row.away t.rO hg (fun e => by injection e; have := t.z.hp; have := t.ho; omega), outR_dice t.s hg, t.own.dice hg (by have := t.z.hp; omega), t.hR, t.ho⟩
theorem YA.next (t : YA w p A n c o S sn sc sg R rn rc D wr) (hb : Below wr.heap.size wr w') : YA w p A n c o S sn sc sg R rn rc D w' :=
 ⟨t.z.over (hb.mono (by have := t.z.rN.lt; omega)), t.rO.next hb, outR_below t.s hb, t.own.below hb, t.hR, t.ho⟩
theorem YA.alloc (t : YA w p A n c o S sn sc sg R rn rc D wr) (x : Obj) : YA w p A n c o S sn sc sg R rn rc D (wr.alloc x) := t.next ((Below.refl _ _).alloc (Nat.le_refl _) _)
theorem YA.drew (t : YA w p A n c o S sn sc sg R rn rc D wr) : YA w p A n c o S sn sc sg R rn rc D wr.drew := t.next ⟨rfl, rfl, rfl, Nat.le_refl _, fun _ _ => rfl⟩
theorem YA.put {g' rc' : Nat} {x : Dat sRule} (t : YA w p A n c o S sn sc sg R rn rc D wr) (hown : OwnQ w' p (w.heap.size + 1) 85 sRule (some ⟨g', 0, none⟩) (rn + 1) rc' (D ++ [x])) (hg : wr.grownBy w' (blk R)) (hat : blk R = some g' ∨ g' = wr.heap.size) :
  YA w p A n c o S sn sc sg (some ⟨g', 0, none⟩) (rn + 1) rc' (D ++ [x]) (w'.setCell ⟨o, 1, none⟩ (.slice (some ⟨g', 0, none⟩) (rn + 1) rc')) := by
 have h2 := t.ho
 have hz := t.rO.lt
 have hge := t.own.ge
 have hO := Row.away t.rO hg t.hR
 have hb : Below (w.heap.size + 1) wr w' := (Below.refl _ _).grown hg (by omega) (fun k hk => (hge k hk).1)
 have hb2 : Below (w.heap.size + 1) wr (w'.setCell ⟨o, 1, none⟩ (.slice (some ⟨g', 0, none⟩) (rn + 1) rc')) := hb.setCell (p := ⟨o, 1, none⟩) (by show w.heap.size + 1 ≤ o; omega) _
 have hne : blk (some (⟨g', 0, none⟩ : Addr)) ≠ some o := by
  intro e
  have e : g' = o := by injection e
  subst e
  rcases hat with e | e
  ·exact t.hR e
  ·omega
 have hs : RdQ w' (OutR w' p (blk (some ⟨g', 0, none⟩))) sI [.slice S sn sc] sg :=
  (t.s.keep fun b hb => hg.block b hb.1 (fun e => hb.2.2 e)).mono fun b hb => ⟨Nat.lt_of_lt_of_le hb.1 hg.size, hb.2.1, fun e => by
   have e : b = g' := by injection e
   subst e
   rcases hat with e | e
   ·exact hb.2.2 e.symm
   ·have := hb.1; omega⟩
 exact ⟨t.z.over hb2, hO.put 1 _, ints_put hs hO 1 _, ownQ_put hown hO hne 1 _, hne, h2⟩
theorem sys_result {M : Nat} (z : Y0 w p A n c wr) (s : RdQ wr (OutR wr p (blk R)) sI [.slice S sn sc] sg) (own : OwnQ wr p (w.heap.size + 1) 85 sRule R rn rc D) (h9 : sg.length ≤ 9) (hM : SmallD M D) :
  AnsSys w p A n c M (.returned (.agg #[.slice S sn sc, .slice R rn rc])) ((wr.setCell ⟨w.heap.size, 0, none⟩ (.slice S sn sc)).setCell ⟨w.heap.size, 1, none⟩ (.slice R rn rc)) := by
 have h1 := z.hp
 have hne : blk R ≠ some w.heap.size := fun e => by have := (own.ge _ e).1; omega
 have r1 := z.rN.put 0 (.slice S sn sc)
 have o1 := ownQ_put own z.rN hne 0 (.slice S sn sc)
 have s1 := ints_put s z.rN 0 (.slice S sn sc)
 have o2 := ownQ_put o1 r1 hne 1 (.slice R rn rc)
 have s2 := ints_put s1 r1 1 (.slice R rn rc)
 have hS : Below w.heap.size wr ((wr.setCell ⟨w.heap.size, 0, none⟩ (.slice S sn sc)).setCell ⟨w.heap.size, 1, none⟩ (.slice R rn rc)) := ((Below.refl _ wr).setCell (p := ⟨w.heap.size, 0, none⟩) (Nat.le_refl _) _).setCell (p := ⟨w.heap.size, 1, none⟩) (Nat.le_refl _) _
 exact ⟨S, sn, sc, sg, R, rn, rc, D, rfl, s2, h9, o2.lower (by omega), hM, z.d.keep (hS.mono (by omega)), grown_over z.g hS (by omega)⟩
end
theorem small_nil (M : Nat) : SmallD M [] := ⟨Nat.zero_le _, fun j => ⟨Nat.zero_le _, Nat.zero_le _⟩⟩
theorem small_app {M : Nat} {D : List (Dat sRule)} {xs ys : List Int} (h : SmallD M D) (h1 : xs.length ≤ 65) (h2 : ys.length ≤ 65) : SmallD (M + 1) (D ++ [((xs, ys) : List Int × List Int)]) := by
 refine ⟨by have := h.1; simpa using this, fun j => ?_⟩
 by_cases hj : j < D.length
 ·rw [show (D ++ [((xs, ys) : List Int × List Int)]).getD j (dft sRule) = D.getD j (dft sRule) by simp [List.getD, List.getElem?_append_left hj]]
  exact h.2 j
 ·by_cases ej : j = D.length
  ·subst ej
   rw [show (D ++ [((xs, ys) : List Int × List Int)]).getD D.length (dft sRule) = ((xs, ys) : List Int × List Int) by simp [List.getD]]
   exact ⟨h1, h2⟩
  ·rw [show (D ++ [((xs, ys) : List Int × List Int)]).getD j (dft sRule) = dft sRule by rw [List.getD_eq_getElem?_getD, List.getElem?_eq_none (by simp; omega)]; rfl]
   exact ⟨Nat.zero_le _, Nat.zero_le _⟩
theorem small_wider {M M' : Nat} {D : List (Dat sRule)} (h : SmallD M D) (hM : M ≤ M') : SmallD M' D := ⟨Nat.le_trans h.1 hM, h.2⟩
theorem good_arities {xs : List Int} (h : Go.Proofs.Ytiimbmkofpnebaa.drawSig.Good xs) : Arities xs := fun j hj => by have := h.2.2 j hj; omega
def HeadY (w : World) (p : Nat) (A : Option Addr) (n c : Nat) (o : Nat) (S : Option Addr) (sn sc : Nat) (sg : List Int) (k : Value) (wr : World) : Prop :=
 ∃ (q : Nat) (R : Option Addr) (rn rc : Nat) (D : List (Dat sRule)), k = .int .i64 q ∧ rn + q ≤ 3 ∧ SmallD rn D ∧ YA w p A n c o S sn sc sg R rn rc D wr
set_option maxHeartbeats 2000000 in
theorem drawSys (p : Nat) (A : Option Addr) (n c : Nat) (w : World) (hd : Dice w p A n c) :
  Calls Try.prog 130 #[.pointer (some ⟨p, 0, none⟩)] w (AnsSys w p A n c 3) := by
 obtain ⟨W, hW⟩ : ∃ W, W = w.alloc (.cells #[.slice none 0 0, .slice none 0 0] 51) := ⟨_, rfl⟩
 have T : Y0 w p A n c W := by rw [hW]; exact ⟨hd.alloc _, Row.new _ _ _, World.grownBy_alloc _ _ _, hd.lt⟩
 have HW := hid hW
 have hp := hd.lt
 clear hW hd
 have L1 := hid (once p A n c 2 W T.d (by omega) (by omega))
 go_enter Try.func130, Try.ntmps130
 go_wp2_with fail
 rw [← HW.out]
 refine L1.out.mono ?_
 rintro e u1 ⟨b, rfl, d1, g1⟩
 have T1 := T.dice d1 g1
 clear L1 T d1 g1 HW
 cases b with
 | true =>
  have L2 := hid (below p A n c 7 u1 T1.d (by omega) (by omega))
  go_wp2_with fail
  refine L2.out.mono ?_
  rintro e u2 ⟨x, rfl, x0, x1, d2, g2⟩
  have T2 := T1.dice d2 g2
  clear L2 T1 d2 g2
  go_wp2_with fail
  refine (known x u2).mono ?_
  rintro e u3 ⟨S, sn, sc, R, rn, rc, D, rfl, oS, hne, hO, hM, b3⟩
  have z2 := T2.rN.lt
  have T3 := T2.over (b3.mono (by omega))
  have own := (hO p (by omega)).lower (show w.heap.size + 1 ≤ u2.heap.size by omega)
  have sS : RdQ u3 (OutR u3 p (blk R)) sI [.slice S sn sc] ([2, 1, 0] : List Int) := rdq_own oS fun b h1 h2 h3 => ⟨h2, by omega, fun e => hne (by rw [h3]; exact e)⟩
  have cN : u3.cell? ⟨w.heap.size, 0, none⟩ = some (.slice none 0 0) := T3.rN.cell 0
  have cN1 : u3.cell? ⟨w.heap.size, 1, none⟩ = some (.slice none 0 0) := T3.rN.cell 1
  have fN : u3.frozen? ⟨w.heap.size, 0, none⟩ = false := T3.rN.free 0
  have fN1 : u3.frozen? ⟨w.heap.size, 1, none⟩ = false := T3.rN.free 1
  have F := hid (sys_result T3 sS own (by simp) hM)
  clear T3 T2 b3 hO own sS oS
  go_wp2
  exact bodyPost_ret (v := .agg #[.slice S sn sc, .slice R rn rc]) (by simp [results, Try.results130, go_sem, cN, cN1]) rfl F.out
 | false =>
  have L2 := hid (drawSig p A n c u1 T1.d)
  go_wp2_with fail
  refine L2.out.mono ?_
  rintro e u2 ⟨S, sn, sc, sg, rfl, oS, hG, d2, g2⟩
  have T2 := T1.dice d2 g2
  have hars := good_arities hG
  have hsl := Own.len oS
  have hn1 : 1 ≤ sn := by have := hG.1; omega
  have hn4 : sn ≤ 4 := by have := hG.2.1; omega
  have h9 : sg.length ≤ 9 := by omega
  have z1 := T1.rN.lt
  have z2 := T2.rN.lt
  obtain ⟨o, ho⟩ : ∃ o, u2.heap.size = o := ⟨_, rfl⟩
  obtain ⟨W3, hW3⟩ : ∃ W3, W3 = u2.alloc (.cells #[.slice S sn sc, .slice none 0 0] 51) := ⟨_, rfl⟩
  have T3 : YA w p A n c o S sn sc sg none 0 0 [] W3 := by
   have bb : Below u2.heap.size u2 W3 := by rw [hW3]; exact (Below.refl _ _).alloc (Nat.le_refl _) _
   have hSS : RdQ u2 (OutR u2 p (blk none)) sI [.slice S sn sc] sg := rdq_own oS fun b h1 h2 _ => ⟨h2, by omega, fun e => by cases e⟩
   exact ⟨T2.over (bb.mono (by omega)), by rw [hW3, ← ho]; exact Row.new _ _ _, outR_below hSS bb, OwnQ.nil _ _ _ _ _, (fun e => by cases e), by omega⟩
  have HW3 := hid hW3
  have HO := hid ho
  have L3 := hid (below p A n c 4 W3 T3.z.d (by omega) (by omega))
  clear L2 T1 T2 d2 g2 oS hG hW3 ho hsl
  go_wp2_with fail
  rw [← HW3.out, HO.out]
  refine L3.out.mono ?_
  rintro e u4 ⟨x, rfl, x0, x1, d4, g4⟩
  have T4 := T3.dice d4 g4
  obtain ⟨q, rfl⟩ := Int.eq_ofNat_of_zero_le x0
  have HH := hid (show HeadY w p A n c o S sn sc sg (.int .i64 (q : Int)) u4 from ⟨q, none, 0, 0, [], rfl, by omega, small_nil _, T4⟩)
  clear T3 T4 d4 g4 L3 HW3 HO x0 x1
  go_wp2_with fail
  go_loopw [4] (fun k wr => HeadY w p A n c o S sn sc sg k wr) (fun k _ => (intOf k).toNat)
  case atStart => exact HH.out
  case round =>
   obtain ⟨q, R, rn, rc, D, rfl, hq, hD, T⟩ := hrel
   clear HH
   have cV : wr.cell? ⟨o, 0, none⟩ = some (.slice S sn sc) := T.rO.cell 0
   have cR : wr.cell? ⟨o, 1, none⟩ = some (.slice R rn rc) := T.rO.cell 1
   cases q with
   | zero =>
    have cN : wr.cell? ⟨w.heap.size, 0, none⟩ = some (.slice none 0 0) := T.z.rN.cell 0
    have cN1 : wr.cell? ⟨w.heap.size, 1, none⟩ = some (.slice none 0 0) := T.z.rN.cell 1
    have fN : wr.frozen? ⟨w.heap.size, 0, none⟩ = false := T.z.rN.free 0
    have fN1 : wr.frozen? ⟨w.heap.size, 1, none⟩ = false := T.z.rN.free 1
    have F := hid (sys_result T.z T.s T.own h9 (small_wider hD (show rn ≤ 3 by omega)))
    clear T
    go_wp2
    exact bodyPost_ret (v := .agg #[.slice S sn sc, .slice R rn rc]) (by simp [results, Try.results130, go_sem, cN, cN1]) rfl F.out
   | succ q =>
    have e0 : (0 : Int) < ((q + 1 : Nat) : Int) := by omega
    have T6 := T.drew
    clear T
    go_wp2_with fail
    go_region_law (first
     | (refine stepQ1 rfl _ _ 49 85 sRule _ 48 Try.underlying49 info_RuleS rfl (by omega) rfl p (w.heap.size + 1) R rn rc D (by simp [Act.eval, Act.put]) (T7.alloc _).own w7.heap.size 1 [.slice a1 n1 c1, .slice a2 n2 c2] ((xs, ys) : List Int × List Int) (by simp [Act.eval, Act.put]) (fun i hi => by match i, hi with | 0, _ => exact (Row.new _ _ _).cell 0 | 1, _ => exact (Row.new _ _ _).cell 1) (outR_below RX ((Below.refl _ _).alloc (Nat.le_refl _) _)) (by omega) (by simp; omega) ?_; intro O' oc' w8 ho8 hg8 hat8 hlt8; have r8 := Row.away (T7.alloc _).rO hg8 T7.hR; have cV8 : w8.cell? ⟨o, 0, none⟩ = some (.slice S sn sc) := r8.cell 0; have cR8 : w8.cell? ⟨o, 1, none⟩ = some (.slice R rn rc) := r8.cell 1; have fV8 : w8.frozen? ⟨o, 1, none⟩ = false := r8.free 1)
     | (go_simp; go_at_call 156; refine (drawRule p A n c S sn sc sg _ T6.z.d (rd_of T6.s) hars hn1 (by omega)).mono ?_; rintro e w7 ⟨a1, n1, c1, a2, n2, c2, xs, ys, rfl, rx, hx1, hx2, d7, g7⟩; have T7 := T6.dice d7 g7; have RX : RdQ w7 (OutR w7 p (blk R)) sRule [.slice a1 n1 c1, .slice a2 n2 c2] ((xs, ys) : List Int × List Int) := (rx.mono fun b hb => ⟨hb.2, (by have h5 := hb.1; have h6 := T6.z.rN.lt; omega), fun e => by have h5 := hb.1; have h6 := (T6.own.ge b e.symm).2; omega⟩); have cV7 : w7.cell? ⟨o, 0, none⟩ = some (.slice S sn sc) := T7.rO.cell 0; have cR7 : w7.cell? ⟨o, 1, none⟩ = some (.slice R rn rc) := T7.rO.cell 1; have zV7 : o < w7.heap.size := T7.rO.lt; have zW7 : w.heap.size < w7.heap.size := T7.z.rN.lt))
    all_goals
     have T8 := YA.put (T7.alloc _) ho8 hg8 hat8
     have F := hid (show HeadY w p A n c o S sn sc sg (.int .i64 (q : Int)) _ from ⟨q, _, _, _, _, rfl, by omega, small_app hD (by omega) (by omega), T8⟩)
     clear T8 T7 T6 ho8 hg8 hat8 hlt8 r8 d7 g7 cV7 cR7 RX rx
     go_wp2
     go_roundw
     case rel => first | exact F.out | simpa using F.out
     case measure => simp [intOf]
end drawSys
end
section
open Go.Lib (hid)
namespace drawSysAny
open Go.RowKit base ints sig term cursor marks app appAt sym segs dice drawSig drawTerm drawAny drawSub drawS drawX drawRule drawKnown drawSys compImpl
open shape (Sh Dat nc dft sI sz)
open kindsR (sRule info_RuleS)
set_option maxRecDepth 100000
section
variable {w : World} {p : Nat} {A : Option Addr} {n c : Nat} {o : Nat} {S : Option Addr} {sn sc : Nat} {sg : List Int} {R : Option Addr} {rn rc : Nat} {D : List (Dat sRule)} {wr w' : World}
theorem YA.sig {S' : Option Addr} {sn' sc' : Nat} {xs : List Int} {base : Nat} (t : YA w p A n c o S sn sc sg R rn rc D wr) (h : Own wr base (.slice S' sn' sc') xs) (hb : ∀ k, blk R = some k → k < base) (hp : p < base) :
  YA w p A n c o S' sn' sc' xs R rn rc D (wr.setCell ⟨o, 0, none⟩ (.slice S' sn' sc')) := by
 have h1 := t.ho
 have hS : RdQ wr (OutR wr p (blk R)) sI [.slice S' sn' sc'] xs := rdq_own h fun b h1 h2 _ => ⟨h2, by omega, fun e => by have := hb b e.symm; omega⟩
 have hbb : Below (w.heap.size + 1) wr (wr.setCell ⟨o, 0, none⟩ (.slice S' sn' sc')) := (Below.refl _ _).setCell (p := ⟨o, 0, none⟩) (by show w.heap.size + 1 ≤ o; omega) _
 exact ⟨t.z.over hbb, t.rO.put 0 _, ints_put hS t.rO 0 _, ownQ_put t.own t.rO t.hR 0 _, t.hR, t.ho⟩
theorem lit_rule (x y : Int) (t : YA w p A n c o S sn sc sg R rn rc D wr) : RdQ ((wr.alloc (.cells #[.int .i64 x] 2)).alloc (.cells #[.int .i64 y] 2)) (OutR ((wr.alloc (.cells #[.int .i64 x] 2)).alloc (.cells #[.int .i64 y] 2)) p (blk R)) sRule [.slice (some ⟨wr.heap.size, 0, none⟩) 1 1, .slice (some ⟨wr.heap.size + 1, 0, none⟩) 1 1] (([x], [y]) : List Int × List Int) := by
 have hp := t.z.hp
 have hz := t.z.rN.lt
 have hne : ∀ g, wr.heap.size ≤ g → some g ≠ blk R := fun g hg e => by have := (t.own.ge g e.symm).2; omega
 refine RdQ.cat (ca := [_]) (cb := [_]) ?_ ?_
 ·refine lit_seg (xs := [x]) (g := wr.heap.size) ?_ (by simp) ⟨by simp only [sz_alloc]; omega, by omega, hne _ (Nat.le_refl _)⟩
  exact row_alloc (row_top rfl)
 ·refine lit_seg (xs := [y]) (g := wr.heap.size + 1) ?_ (by simp) ⟨by simp only [sz_alloc]; omega, by omega, hne _ (Nat.le_succ _)⟩
  exact row_top (by simp only [sz_alloc])
theorem ownQ_some {lo : Nat} {e : TypeId} (h : OwnQ wr p lo e sRule R rn rc D) (h1 : 1 ≤ rn) : ∃ g, R = some ⟨g, 0, none⟩ := by
 obtain ⟨_, vs, ho, _⟩ := h
 rcases ho.2 with ⟨e1, h0⟩ | ⟨g, cap, cur, e1, _⟩
 ·omega
 ·injection e1 with e1 _ _; exact ⟨g, e1⟩
theorem put_any {A' : Option Addr} {rc' : Nat} {x : Dat sRule} (t : YA w p A n c o S sn sc sg R rn rc D wr) (hown : OwnQ w' p (w.heap.size + 1) 85 sRule A' (rn + 1) rc' (D ++ [x])) (hg : wr.grownBy w' (blk R)) (hat : blk A' = blk R ∨ blk A' = some wr.heap.size) :
  w'.cell? ⟨o, 0, none⟩ = some (.slice S sn sc) ∧ w'.cell? ⟨o, 1, none⟩ = some (.slice R rn rc) ∧ w'.frozen? ⟨o, 1, none⟩ = false ∧ Row w' w.heap.size 51 #[.slice none 0 0, .slice none 0 0] ∧ YA w p A n c o S sn sc sg A' (rn + 1) rc' (D ++ [x]) (w'.setCell ⟨o, 1, none⟩ (.slice A' (rn + 1) rc')) := by
 obtain ⟨g', rfl⟩ := ownQ_some hown (by omega)
 have hO := Row.away t.rO hg t.hR
 refine ⟨hO.cell 0, hO.cell 1, hO.free 1, Row.away t.z.rN hg (fun e => by have := (t.own.ge _ e).1; omega), YA.put t hown hg ?_⟩
 rcases hat with e | e
 ·exact .inl e.symm
 ·have e : some g' = some wr.heap.size := e
  injection e with e
  exact .inr e
end
theorem rule_two {u v : World} {p N : Nat} {r : Option Nat} {O P : Option Addr} {on oc pn pc : Nat} {xs ys : List Int} (ra : Go.Proofs.Ytiimbmkofpnebaa.drawTerm.Rd u p u.heap.size O on xs) (rb : Go.Proofs.Ytiimbmkofpnebaa.drawTerm.Rd v p v.heap.size P pn ys) (h1 : on ≤ oc) (h2 : oc ≤ 9223372036854775807) (h3 : O = none → oc = 0) (k1 : pn ≤ pc) (k2 : pc ≤ 9223372036854775807) (k3 : P = none → pc = 0)
  (g : u.grownBy v (some p)) (hr : ∀ k, r = some k → k < N) (hNu : N ≤ u.heap.size) (hO : ∀ k, blk O = some k → N ≤ k) (hP : ∀ k, blk P = some k → u.heap.size ≤ k) : RdQ v (OutR v p r) sRule [.slice O on oc, .slice P pn pc] ((xs, ys) : List Int × List Int) := by
 have ra' := (ra.grown g (Nat.le_refl _)).more g.size
 have one : ∀ {Z : Option Addr} {zn zc : Nat} {zs : List Int}, Go.Proofs.Ytiimbmkofpnebaa.drawTerm.Rd v p v.heap.size Z zn zs → Cap Z zn zc → (∀ k, blk Z = some k → N ≤ k) → RdQ v (OutR v p r) sI [.slice Z zn zc] zs := fun {Z zn zc zs} h hc hz =>
  rdq_seg h.1 hc fun hn => by
   obtain ⟨b, off, e, hb, hp, hcell⟩ := h.2 hn
   exact ⟨b, off, e, ⟨hb, hp, fun e2 => by have := hz b (by rw [e]; rfl); have := hr b e2.symm; omega⟩, hcell⟩
 exact RdQ.cat (ca := [_]) (cb := [_]) (one ra' ⟨h1, h2, h3⟩ hO) (one rb ⟨k1, k2, k3⟩ (fun k hk => Nat.le_trans hNu (hP k hk)))
def HeadM (w : World) (p : Nat) (A : Option Addr) (n c : Nat) (o : Nat) (S : Option Addr) (sn sc : Nat) (sg : List Int) (g : Nat) (wr : World) : Prop :=
 ∃ (R : Option Addr) (rn rc : Nat) (D : List (Dat sRule)), rn + g = 13 ∧ SmallD 13 D ∧ YA w p A n c o S sn sc sg R rn rc D wr
set_option maxHeartbeats 4000000 in
theorem drawSysAny (p : Nat) (A : Option Addr) (n c : Nat) (w : World) (hd : Dice w p A n c) :
  Calls Try.prog 100 #[.pointer (some ⟨p, 0, none⟩)] w (AnsSys w p A n c 13) := by
 obtain ⟨W, hW⟩ : ∃ W, W = w.alloc (.cells #[.slice none 0 0, .slice none 0 0] 51) := ⟨_, rfl⟩
 have T : Y0 w p A n c W := by rw [hW]; exact ⟨hd.alloc _, Row.new _ _ _, World.grownBy_alloc _ _ _, hd.lt⟩
 have zW : W.heap.size = w.heap.size + 1 := by rw [hW]; simp
 have HW := hid hW
 have hp := hd.lt
 clear hW hd
 have L1 := hid (drawSys p A n c W T.d)
 go_enter Try.func100, Try.ntmps100
 go_wp2_with fail
 rw [← HW.out]
 refine L1.out.mono ?_
 rintro e u2 ⟨S, sn, sc, sg, R, rn, rc, D, rfl, sS, h9, own, hM, d1, g1⟩
 rw [zW] at own
 have T2 := T.dice d1 g1
 have z2 := T2.rN.lt
 obtain ⟨o, ho⟩ : ∃ o, u2.heap.size = o := ⟨_, rfl⟩
 obtain ⟨W3, hW3⟩ : ∃ W3, W3 = u2.alloc (.cells #[.slice S sn sc, .slice R rn rc] 51) := ⟨_, rfl⟩
 have T3 : YA w p A n c o S sn sc sg R rn rc D W3 := by
  have bb : Below u2.heap.size u2 W3 := by rw [hW3]; exact (Below.refl _ _).alloc (Nat.le_refl _) _
  exact ⟨T2.over (bb.mono (by omega)), by rw [hW3, ← ho]; exact Row.new _ _ _, outR_below sS bb, own.below bb, (fun e => by have := (own.ge _ e).2; omega), by omega⟩
 have HW3 := hid hW3
 have HO := hid ho
 have L3 := hid (once p A n c 15 W3 T3.z.d (by omega) (by omega))
 have hDl := hid own.1
 have hrn : rn ≤ 3 := by have := own.1; have := hM.1; omega
 clear L1 T T2 d1 g1 sS own hW3 ho HW zW
 go_wp2_with fail
 rw [← HW3.out, HO.out]
 refine L3.out.mono ?_
 rintro e u4 ⟨b, rfl, d4, g4⟩
 have T4 := T3.dice d4 g4
 clear T3 d4 g4 L3 HW3 HO
 cases b with
 | false =>
  have cN : u4.cell? ⟨w.heap.size, 0, none⟩ = some (.slice none 0 0) := T4.z.rN.cell 0
  have cN1 : u4.cell? ⟨w.heap.size, 1, none⟩ = some (.slice none 0 0) := T4.z.rN.cell 1
  have fN : u4.frozen? ⟨w.heap.size, 0, none⟩ = false := T4.z.rN.free 0
  have fN1 : u4.frozen? ⟨w.heap.size, 1, none⟩ = false := T4.z.rN.free 1
  have cV : u4.cell? ⟨o, 0, none⟩ = some (.slice S sn sc) := T4.rO.cell 0
  have cR : u4.cell? ⟨o, 1, none⟩ = some (.slice R rn rc) := T4.rO.cell 1
  have F := hid (sys_result T4.z T4.s T4.own h9 (small_wider hM (show 3 ≤ 13 by omega)))
  clear T4
  go_wp2
  exact bodyPost_ret (v := .agg #[.slice S sn sc, .slice R rn rc]) (by simp [results, Try.results100, go_sem, cN, cN1]) rfl F.out
 | true =>
  have L4 := hid (below p A n c 4 u4 T4.z.d (by omega) (by omega))
  go_wp2_with fail
  refine L4.out.mono ?_
  rintro e u5 ⟨x, rfl, x0, x1, d5, g5⟩
  have T5 := T4.dice d5 g5
  clear T4 d5 g5 L4
  have cV : u5.cell? ⟨o, 0, none⟩ = some (.slice S sn sc) := T5.rO.cell 0
  have cR : u5.cell? ⟨o, 1, none⟩ = some (.slice R rn rc) := T5.rO.cell 1
  have zne : ¬ o = w.heap.size := by have := T5.ho; omega
  by_cases hx0 : x = 0
  ·subst hx0
   have T6 := T5.drew
   clear x0 x1 T5
   go_wp2_with fail
   go_region_law (first
    | (refine stepQ1 rfl _ _ 49 85 sRule _ 48 Try.underlying49 info_RuleS rfl (by omega) rfl p (w.heap.size + 1) R rn rc D (by simp [Act.eval, Act.put]) (T8.alloc _).own w8.heap.size 1 [.slice O on oc, .slice P pn pc] ((xs, ys) : List Int × List Int) (by simp [Act.eval, Act.put]) (fun i hi => by match i, hi with | 0, _ => exact (Row.new _ _ _).cell 0 | 1, _ => exact (Row.new _ _ _).cell 1) (outR_below RX ((Below.refl _ _).alloc (Nat.le_refl _) _)) (by omega) (by simp; omega) ?_; intro O' oc' w9 ho9 hg9 hat9 hlt9; have r9 := Row.away (T8.alloc _).rO hg9 T8.hR; have cV9 : w9.cell? ⟨o, 0, none⟩ = some (.slice S sn sc) := r9.cell 0; have cR9 : w9.cell? ⟨o, 1, none⟩ = some (.slice R rn rc) := r9.cell 1; have fV9 : w9.frozen? ⟨o, 1, none⟩ = false := r9.free 1)
    | (go_simp; go_at_call 133; refine (drawAnyN p A n c S sn sc sg _ T7.z.d (rd_of T7.s) (by have := (rd_of T7.s).1; omega)).mono ?_; rintro e w8 ⟨P, pn, pc, ys, rfl, rb, k1, k2, k3, k4, d8, g8, hnew8⟩; have T8 := T7.dice d8 g8; have RX := rule_two (pc := pc) ra rb h1 h2 h3 k1 k2 k3 g8 (fun k hk => (T6.own.ge k hk).2) g7.size hnew7 hnew8; have cV8 : w8.cell? ⟨o, 0, none⟩ = some (.slice S sn sc) := T8.rO.cell 0; have cR8 : w8.cell? ⟨o, 1, none⟩ = some (.slice R rn rc) := T8.rO.cell 1; have zV8 : o < w8.heap.size := T8.rO.lt; have zW8 : w.heap.size < w8.heap.size := T8.z.rN.lt)
    | (go_simp; go_at_call 133; refine (drawAnyN p A n c S sn sc sg _ T6.z.d (rd_of T6.s) (by have := (rd_of T6.s).1; omega)).mono ?_; rintro e w7 ⟨O, on, oc, xs, rfl, ra, h1, h2, h3, h4, d7, g7, hnew7⟩; have T7 := T6.dice d7 g7; have cV7 : w7.cell? ⟨o, 0, none⟩ = some (.slice S sn sc) := T7.rO.cell 0; have cR7 : w7.cell? ⟨o, 1, none⟩ = some (.slice R rn rc) := T7.rO.cell 1; have zV7 : o < w7.heap.size := T7.rO.lt; have zW7 : w.heap.size < w7.heap.size := T7.z.rN.lt))
   all_goals
    have T9 := YA.put (T8.alloc _) ho9 hg9 hat9
    have cN9 : (w9.setCell ⟨o, 1, none⟩ (.slice (some ⟨O', 0, none⟩) (rn + 1) oc')).cell? ⟨w.heap.size, 0, none⟩ = some (.slice none 0 0) := T9.z.rN.cell 0
    have cN91 : (w9.setCell ⟨o, 1, none⟩ (.slice (some ⟨O', 0, none⟩) (rn + 1) oc')).cell? ⟨w.heap.size, 1, none⟩ = some (.slice none 0 0) := T9.z.rN.cell 1
    have fN9 : (w9.setCell ⟨o, 1, none⟩ (.slice (some ⟨O', 0, none⟩) (rn + 1) oc')).frozen? ⟨w.heap.size, 0, none⟩ = false := T9.z.rN.free 0
    have fN91 : (w9.setCell ⟨o, 1, none⟩ (.slice (some ⟨O', 0, none⟩) (rn + 1) oc')).frozen? ⟨w.heap.size, 1, none⟩ = false := T9.z.rN.free 1
    have cW9 : (w9.setCell ⟨o, 1, none⟩ (.slice (some ⟨O', 0, none⟩) (rn + 1) oc')).cell? ⟨o, 0, none⟩ = some (.slice S sn sc) := T9.rO.cell 0
    have cW91 : (w9.setCell ⟨o, 1, none⟩ (.slice (some ⟨O', 0, none⟩) (rn + 1) oc')).cell? ⟨o, 1, none⟩ = some (.slice (some ⟨O', 0, none⟩) (rn + 1) oc') := T9.rO.cell 1
    have F := hid (sys_result T9.z T9.s T9.own h9 (small_wider (small_app hM (by rw [ra.1]; exact h4) (by rw [rb.1]; exact k4)) (show 3 + 1 ≤ 13 by omega)))
    clear T9 T8 T7 T6 ho9 hg9 hat9 hlt9 r9 d7 g7 d8 g8 cV7 cR7 cV8 cR8 RX ra rb
    go_wp2
    exact bodyPost_ret (v := .agg #[.slice S sn sc, .slice (some ⟨O', 0, none⟩) (rn + 1) oc']) (by simp [results, Try.results100, go_sem, cN9, cN91]) rfl F.out
  ·by_cases hx1 : x = 1
   ·subst hx1
    have L6 := hid (drawSigAny p A n c u5 T5.z.d)
    go_wp2_with fail
    refine L6.out.mono ?_
    rintro e u6 ⟨S', sn', sc', xs, rfl, oS, hsh, d6, g6⟩
    have T6 := T5.dice d6 g6
    have T8 := YA.sig T6 oS (fun k hk => (T5.own.ge k hk).2) (by have := T5.z.rN.lt; omega)
    have cV6 : u6.cell? ⟨o, 0, none⟩ = some (.slice S sn sc) := T6.rO.cell 0
    have cR6 : u6.cell? ⟨o, 1, none⟩ = some (.slice R rn rc) := T6.rO.cell 1
    have fV6 : u6.frozen? ⟨o, 0, none⟩ = false := T6.rO.free 0
    have cN8 : (u6.setCell ⟨o, 0, none⟩ (.slice S' sn' sc')).cell? ⟨w.heap.size, 0, none⟩ = some (.slice none 0 0) := T8.z.rN.cell 0
    have cN81 : (u6.setCell ⟨o, 0, none⟩ (.slice S' sn' sc')).cell? ⟨w.heap.size, 1, none⟩ = some (.slice none 0 0) := T8.z.rN.cell 1
    have fN8 : (u6.setCell ⟨o, 0, none⟩ (.slice S' sn' sc')).frozen? ⟨w.heap.size, 0, none⟩ = false := T8.z.rN.free 0
    have fN81 : (u6.setCell ⟨o, 0, none⟩ (.slice S' sn' sc')).frozen? ⟨w.heap.size, 1, none⟩ = false := T8.z.rN.free 1
    have cW8 : (u6.setCell ⟨o, 0, none⟩ (.slice S' sn' sc')).cell? ⟨o, 0, none⟩ = some (.slice S' sn' sc') := T8.rO.cell 0
    have cW81 : (u6.setCell ⟨o, 0, none⟩ (.slice S' sn' sc')).cell? ⟨o, 1, none⟩ = some (.slice R rn rc) := T8.rO.cell 1
    have F := hid (sys_result T8.z T8.s T8.own hsh (small_wider hM (show 3 ≤ 13 by omega)))
    clear T8 T6 T5 d6 g6 L6 oS
    go_wp2
    exact bodyPost_ret (v := .agg #[.slice S' sn' sc', .slice R rn rc]) (by simp [results, Try.results100, go_sem, cN8, cN81]) rfl F.out
   ·by_cases hx2 : x = 2
    ·subst hx2
     clear x0 x1 hx0 hx1 cV cR
     have HH := hid (show HeadM w p A n c o S sn sc sg (13 - rn) u5 from ⟨R, rn, rc, D, by omega, small_wider hM (by omega), T5⟩)
     clear T5 hM hDl
     go_wp2_with fail
     go_loopg [] (13 - rn) (fun g wr => HeadM w p A n c o S sn sc sg g wr)
     case atStart => exact HH.out
     case round =>
      clear HH hrn
      obtain ⟨R, rn, rc, D, hg13, hM, T⟩ := hrel
      have HG := hid hg13
      have hDl := hid T.own.1
      have cV : wr.cell? ⟨o, 0, none⟩ = some (.slice S sn sc) := T.rO.cell 0
      have cR : wr.cell? ⟨o, 1, none⟩ = some (.slice R rn rc) := T.rO.cell 1
      clear hg13
      by_cases hlt : rn < 13
      ·have i1 : (rn : Int) < 13 := by omega
       have hgk := hid (show gk - 1 < gk ∧ rn + 1 + (gk - 1) = 13 by have := HG.out; omega)
       have LR := hid (lit_rule 2 2 T)
       have TA := ((T.alloc (.cells #[.int .i64 2] 2)).alloc (.cells #[.int .i64 2] 2)).alloc (.cells #[.slice (some ⟨wr.heap.size, 0, none⟩) 1 1, .slice (some ⟨wr.heap.size + 1, 0, none⟩) 1 1] 85)
       have zu := T.z.rN.lt
       have hM1 := hid (show SmallD 13 (D ++ [(([2], [2]) : List Int × List Int)]) from small_wider (small_app (M := rn) ⟨Nat.le_of_eq hDl.out, hM.2⟩ (by simp) (by simp)) (by omega))
       go_wp2_with (at_builtin; refine appQ1 rfl _ _ 49 85 sRule _ 48 Try.underlying49 info_RuleS rfl (by omega) rfl p (w.heap.size + 1) R rn rc D rfl TA.own (wr.heap.size + 1 + 1) 1 [.slice (some ⟨wr.heap.size, 0, none⟩) 1 1, .slice (some ⟨wr.heap.size + 1, 0, none⟩) 1 1] (([2], [2]) : List Int × List Int) rfl (fun i hi => by match i, hi with | 0, _ => exact (row_top (by simp only [sz_alloc])).cell 0 | 1, _ => exact (row_top (by simp only [sz_alloc])).cell 1) (outR_below LR.out ((Below.refl _ _).alloc (Nat.le_refl _) _)) (by omega) (by simp only [sz_alloc]; omega) ?_; intro A' c' w8 ho8 hg8 hat8 hb8; obtain ⟨cV8, cR8, fV8, rN8, T8⟩ := put_any TA ho8 hg8 hat8)
       have F := hid (show HeadM w p A n c o S sn sc sg (gk - 1) _ from ⟨A', rn + 1, c', _, hgk.out.2, hM1.out, T8⟩)
       clear T8 TA T ho8 hg8 hat8 hb8 LR hM1 hM
       go_wp2
       go_roundg (gk - 1)
       case measure => exact hgk.out.1
       case rel => exact F.out
      ·have i1 : ¬ (rn : Int) < 13 := by omega
       have cN : wr.cell? ⟨w.heap.size, 0, none⟩ = some (.slice none 0 0) := T.z.rN.cell 0
       have cN1 : wr.cell? ⟨w.heap.size, 1, none⟩ = some (.slice none 0 0) := T.z.rN.cell 1
       have fN : wr.frozen? ⟨w.heap.size, 0, none⟩ = false := T.z.rN.free 0
       have fN1 : wr.frozen? ⟨w.heap.size, 1, none⟩ = false := T.z.rN.free 1
       have F := hid (sys_result T.z T.s T.own h9 hM)
       clear T hM
       go_wp2
       exact bodyPost_ret (v := .agg #[.slice S sn sc, .slice R rn rc]) (by simp [results, Try.results100, go_sem, cN, cN1]) rfl F.out
    ·have e3 : x = 3 := by omega
     subst e3
     clear x0 x1 hx0 hx1 hx2
     have LR := hid (lit_rule (-1) (-1) T5)
     have TA := ((T5.alloc (.cells #[.int .i64 (-1)] 2)).alloc (.cells #[.int .i64 (-1)] 2)).alloc (.cells #[.slice (some ⟨u5.heap.size, 0, none⟩) 1 1, .slice (some ⟨u5.heap.size + 1, 0, none⟩) 1 1] 85)
     have zu := T5.z.rN.lt
     go_wp2_with (at_builtin; refine appQ1 rfl _ _ 49 85 sRule _ 48 Try.underlying49 info_RuleS rfl (by omega) rfl p (w.heap.size + 1) R rn rc D rfl TA.own (u5.heap.size + 1 + 1) 1 [.slice (some ⟨u5.heap.size, 0, none⟩) 1 1, .slice (some ⟨u5.heap.size + 1, 0, none⟩) 1 1] (([-1], [-1]) : List Int × List Int) rfl (fun i hi => by match i, hi with | 0, _ => exact (row_top (by simp only [sz_alloc])).cell 0 | 1, _ => exact (row_top (by simp only [sz_alloc])).cell 1) (outR_below LR.out ((Below.refl _ _).alloc (Nat.le_refl _) _)) (by omega) (by simp only [sz_alloc]; omega) ?_; intro A' c' w8 ho8 hg8 hat8 hb8; obtain ⟨cV8, cR8, fV8, rN8, T8⟩ := put_any TA ho8 hg8 hat8; have dN8 : w8.cell? ⟨w.heap.size, 0, none⟩ = some (.slice none 0 0) := rN8.cell 0; have dN81 : w8.cell? ⟨w.heap.size, 1, none⟩ = some (.slice none 0 0) := rN8.cell 1; have eN8 : w8.frozen? ⟨w.heap.size, 0, none⟩ = false := rN8.free 0; have eN81 : w8.frozen? ⟨w.heap.size, 1, none⟩ = false := rN8.free 1)
     have cN8 : (w8.setCell ⟨o, 1, none⟩ (.slice A' (rn + 1) c')).cell? ⟨w.heap.size, 0, none⟩ = some (.slice none 0 0) := T8.z.rN.cell 0
     have cN81 : (w8.setCell ⟨o, 1, none⟩ (.slice A' (rn + 1) c')).cell? ⟨w.heap.size, 1, none⟩ = some (.slice none 0 0) := T8.z.rN.cell 1
     have fN8 : (w8.setCell ⟨o, 1, none⟩ (.slice A' (rn + 1) c')).frozen? ⟨w.heap.size, 0, none⟩ = false := T8.z.rN.free 0
     have fN81 : (w8.setCell ⟨o, 1, none⟩ (.slice A' (rn + 1) c')).frozen? ⟨w.heap.size, 1, none⟩ = false := T8.z.rN.free 1
     have cW8 : (w8.setCell ⟨o, 1, none⟩ (.slice A' (rn + 1) c')).cell? ⟨o, 0, none⟩ = some (.slice S sn sc) := T8.rO.cell 0
     have cW81 : (w8.setCell ⟨o, 1, none⟩ (.slice A' (rn + 1) c')).cell? ⟨o, 1, none⟩ = some (.slice A' (rn + 1) c') := T8.rO.cell 1
     have F := hid (sys_result T8.z T8.s T8.own h9 (small_wider (small_app hM (by simp) (by simp)) (show 3 + 1 ≤ 13 by omega)))
     clear T8 TA T5 ho8 hg8 hat8 hb8 LR
     try go_wp2
     exact bodyPost_ret (v := .agg #[.slice S sn sc, .slice A' (rn + 1) c']) (by simp [results, Try.results100, go_sem, cN8, cN81, dN8, dN81, zne]) rfl F.out
end drawSysAny
end
section
namespace drawSysD
open Go.RowKit base ints sig term cursor marks app appAt sym segs dice drawTwo drawX drawRule drawKnown drawSys drawSysAny
open shape (Sh Dat nc dft sI sz)
open kindsR (sRule sSystem sRuleS)
set_option maxRecDepth 100000
def AnsSysD (w : World) (e : Ending) (w' : World) : Prop :=
 ∃ S sn sc R rn rc d, e = .returned (.agg #[.slice S sn sc, .slice R rn rc]) ∧ Go.Proofs.Ytiimbmkofpnebaa.shape.Rd w' w'.heap.size sSystem [.slice S sn sc, .slice R rn rc] d ∧ sz sSystem d ≤ 2000 ∧ Below w.heap.size w w'
theorem sz_small {M : Nat} {D : List (Dat sRule)} (h : SmallD M D) : sz sRuleS D ≤ M + M * 130 := by
 have h1 : ∀ x ∈ D, sz sRule x ≤ 130 := fun x hx => by
  obtain ⟨j, hj, rfl⟩ := List.mem_iff_getElem.1 hx
  obtain ⟨h2, h3⟩ := h.2 j
  rw [List.getD_eq_getElem?_getD, List.getElem?_eq_getElem hj] at h2 h3
  have h2 : ((D[j]).1 : List Int).length ≤ 65 := h2
  have h3 : ((D[j]).2 : List Int).length ≤ 65 := h3
  show sz sI (D[j]).1 + sz sI (D[j]).2 ≤ 130
  rw [Go.Proofs.Ytiimbmkofpnebaa.shape.sz_ints, Go.Proofs.Ytiimbmkofpnebaa.shape.sz_ints]
  omega
 have h2 : ∀ l : List (Dat sRule), (∀ x ∈ l, sz sRule x ≤ 130) → (l.map (sz sRule)).sum ≤ l.length * 130 := fun l => by
  induction l with
  | nil => intro _; exact Nat.le_refl _
  | cons x l ih =>
   intro hx
   have a := hx x (List.mem_cons_self ..)
   have b := ih fun y hy => hx y (List.mem_cons_of_mem _ hy)
   rw [List.map_cons, List.sum_cons, List.length_cons, Nat.add_mul]
   omega
 have h3 := h2 D h1
 have h4 := Nat.mul_le_mul_right 130 h.1
 show D.length + (D.map (sz sRule)).sum ≤ _
 have := h.1
 omega
theorem ansD {w wr : World} {p lo : Nat} {N : Nat} {S : Option Addr} {sn sc : Nat} {sg : List Int} {R : Option Addr} {rn rc : Nat} {D : List (Dat sRule)} (rN : Row wr N 51 #[.slice none 0 0, .slice none 0 0]) (s : RdQ wr (OutR wr p (blk R)) sI [.slice S sn sc] sg) (own : OwnQ wr p lo 85 sRule R rn rc D) (h9 : sg.length ≤ 9) (hM : SmallD 13 D) (hp : p < lo) (hN : N < lo) (hw : w.heap.size ≤ N) (hb : Below w.heap.size w wr) :
  AnsSysD w (.returned (.agg #[.slice S sn sc, .slice R rn rc])) ((wr.setCell ⟨N, 0, none⟩ (.slice S sn sc)).setCell ⟨N, 1, none⟩ (.slice R rn rc)) := by
 have hne : blk R ≠ some N := fun e => by have := (own.ge _ e).1; omega
 have r1 := rN.put 0 (.slice S sn sc)
 have o2 := ownQ_put (ownQ_put own rN hne 0 (.slice S sn sc)) r1 hne 1 (.slice R rn rc)
 have s2 := ints_put (ints_put s rN 0 (.slice S sn sc)) r1 1 (.slice R rn rc)
 refine ⟨S, sn, sc, R, rn, rc, ((sg, D) : List Int × List (Dat sRule)), rfl, ?_, ?_, (hb.setCell (p := ⟨N, 0, none⟩) hw _).setCell (p := ⟨N, 1, none⟩) hw _⟩
 ·exact RdQ.rd (Q := Out _ p) (fun b hb => hb.1) (RdQ.cat (ca := [_]) (cb := [_]) (s2.mono fun b hb => ⟨hb.1, hb.2.1⟩) (o2.rdq hp))
 ·have h1 := sz_small hM
  show sz sI sg + sz sRuleS D ≤ 2000
  rw [Go.Proofs.Ytiimbmkofpnebaa.shape.sz_ints]
  omega
set_option maxHeartbeats 1000000 in
theorem drawLeftLinearIn (A : Option Addr) (n c : Nat) (w : World) (h : SegB w w.heap.size A n) (hn : n ≤ 4096) :
  Calls Try.prog 58 #[.slice A n c] w (AnsSysD w) := by
 obtain ⟨W, hW⟩ : ∃ W, W = w.alloc (.cells #[.slice none 0 0, .slice none 0 0] 51) := ⟨_, rfl⟩
 have rN : Row W w.heap.size 51 #[.slice none 0 0, .slice none 0 0] := by rw [hW]; exact Row.new _ _ _
 have b0 : Below w.heap.size w W := by rw [hW]; exact (Below.refl _ _).alloc (Nat.le_refl _) _
 have h0 : SegB W W.heap.size A n := fun hp => by
  obtain ⟨b, off, e, hb, hc⟩ := h hp
  refine ⟨b, off, e, Nat.lt_of_lt_of_le hb b0.size, fun j hj => ?_⟩
  obtain ⟨x, x0, x1, hx⟩ := hc j hj
  exact ⟨x, x0, x1, (b0.cell (p := ⟨b, off + j, none⟩) hb).trans hx⟩
 have L := Lib.hid (new_ A n c W h0 hn)
 have HW := Lib.hid hW
 clear h h0 hW
 go_enter Try.func58, Try.ntmps58
 go_wp2_with fail
 rw [← HW.out]
 refine L.out.mono ?_
 rintro e w1 ⟨p, rfl, hp, d1, bb⟩
 have hNp : w.heap.size < p := Nat.lt_of_lt_of_le rN.lt hp
 replace rN := rN.next bb
 have bel := next_trans b0 bb
 have L2 := Lib.hid (drawSysAny p A n c w1 d1)
 have hp1 := d1.lt
 clear d1 bb b0 L HW
 go_wp2_with fail
 refine L2.out.mono ?_
 rintro e w2 ⟨S, sn, sc, sg, R, rn, rc, D, rfl, s2, h9, o2, hM, d2, g2⟩
 have hz := rN.lt
 replace rN := Row.away rN g2 (fun e => by injection e; omega)
 have bel2 : Below w.heap.size w w2 := bel.grown g2 bel.size (fun k hk => by injection hk; omega)
 have cN : w2.cell? ⟨w.heap.size, 0, none⟩ = some (.slice none 0 0) := rN.cell 0
 have cN1 : w2.cell? ⟨w.heap.size, 1, none⟩ = some (.slice none 0 0) := rN.cell 1
 have fN : w2.frozen? ⟨w.heap.size, 0, none⟩ = false := rN.free 0
 have fN1 : w2.frozen? ⟨w.heap.size, 1, none⟩ = false := rN.free 1
 have F := Lib.hid (ansD rN s2 o2 h9 hM hp1 (by omega) (Nat.le_refl _) bel2)
 clear rN s2 o2 d2 g2 L2 bel bel2
 go_wp2
 exact bodyPost_ret (v := .agg #[.slice S sn sc, .slice R rn rc]) (by simp [results, Try.results58, go_sem, cN, cN1]) rfl F.out
end drawSysD
end
section
open Go.Lib (hid)
namespace ruleSpec
open Go.RowKit base ints sig term termOk marks app sym segs termFacts varsMath varsOf rename same count linear shape kindsR ruleMath
set_option maxRecDepth 100000
theorem ll_no {sg : List Int} {rs : List Rl} (h : sysOkB sg rs = false) : leftLinB sg rs = false := by unfold leftLinB; rw [h]; rfl
theorem ll_bad {sg : List Int} {rs : List Rl} {k : Nat} {x : Rl} (hk : k < rs.length) (ex : rs.getD k ([], []) = x) (h : linB x.1 = false) : leftLinB sg rs = false := by
 unfold leftLinB leftB
 rw [any_round hk (f := fun r => !linB r.1) (by rw [ex, h]; rfl)]; simp
theorem ll_yes {sg : List Int} {rs : List Rl} (h : sysOkB sg rs = true) (hl : ∀ j, j < rs.length → linB (rs.getD j ([], [])).1 = true) : leftLinB sg rs = true := by
 unfold leftLinB leftB
 rw [h, any_rounds (f := fun r => !linB r.1) (fun j hj => by rw [hl j hj]; rfl)]; rfl
set_option maxHeartbeats 4000000 in
theorem specLeftLinearIn (a v : Value) (d : Dat sSystem) (w : World) (h : Rd w w.heap.size sSystem [a, v] d) (hz : sz sSystem d ≤ 1048576) :
  Calls Try.prog 61 #[.agg #[a, v]] w (AnsB w (leftLinB d.1 d.2)) := by
 have S1 := fun (w1 : World) (bb : Below w.heap.size w w1) => specSystemOk a v d w1 (h.next bb) hz
 obtain ⟨A, n, c, V, m, cv, rfl, rfl, hs, hc, hcv, hm, hn, hm1, hrs, hsg, hE⟩ := rd_sys h hz
 obtain ⟨W, hW, rA, bel⟩ := box1 w 51 #[.slice A n c, .slice V m cv]
 have HW := hid hW
 have HM := hid hm
 have HE := hid hE
 have HR := hid hrs
 have LS1 := hid (S1 W bel)
 clear hW h hz hs hc hcv hm hE hrs hsg S1
 cases ok1 : sysOkB d.1 d.2 with
 | false =>
  have HS := hid ok1
  clear ok1
  go_enter Try.func61, Try.ntmps61
  go_wp2_with fail
  rw [← HW.out]
  refine LS1.out.mono ?_
  rintro e w1 ⟨he, bb⟩
  rw [HS.out] at he
  subst he
  have F := hid (ansB (b := leftLinB d.1 d.2) (a := false) (by rw [ll_no HS.out]) (next_trans bel bb))
  clear bel rA bb
  go_wp2
  go_ret
  exact F.out
 | true =>
  have HS := hid ok1
  clear ok1
  go_enter Try.func61, Try.ntmps61
  go_wp2_with fail
  rw [← HW.out]
  refine LS1.out.mono ?_
  rintro e w1 ⟨he, bb⟩
  rw [HS.out] at he
  subst he
  have H0 : Hid (HeadSy w 51 #[.slice A n c, .slice V m cv] m (fun x => linB x.1) d.2 (.int .i64 0) w1) := hid ⟨0, Nat.zero_le _, rfl, fun j hj => absurd hj (Nat.not_lt_zero _), rA.next bb, next_trans bel bb⟩
  clear rA bel bb LS1
  go_wp2_with fail
  go_loopw [3] (fun i wr => HeadSy w 51 #[.slice A n c, .slice V m cv] m (fun x => linB x.1) d.2 i wr) (fun i _ => m - (intOf i).toNat)
  case atStart => exact H0.out
  case round =>
   obtain ⟨k, hk, rfl, hlow, rr, hb⟩ := hrel
   have HLOW := hid hlow
   clear hlow H0
   by_cases hlt : k < m
   ·obtain ⟨b, off, l, r, x, rfl, hbB, ex, hc0, hc1, hx⟩ := rd_at HR.out hb HM.out hlt
    have a1 : wr.cell? ⟨w.heap.size, 1, none⟩ = some (.slice (some ⟨b, off, none⟩) m cv) := rr.cell 1
    have hzx : sz sRule x ≤ 1048576 := by have := HE.out k hlt; rw [ex.out] at this; exact this
    obtain ⟨A1, n1, c1, A2, n2, c2, rfl, rfl, s1, k1, s2, k2, hn1, hn2⟩ := rd_rule hx hzx
    have L := hid (l2Linear A1 n1 c1 x.1 wr (s1.more hb.size) hn1)
    have i0 : (0 : Int) ≤ (k : Int) := by omega
    have i1 : (k : Int) < (m : Int) := by omega
    clear hx hzx s1 s2 k1 k2
    cases ok : linB x.1 with
    | false =>
     have HO := hid ok
     clear ok
     have F := hid (ansB (b := leftLinB d.1 d.2) (a := false) (by rw [ll_bad (by rw [HM.out]; exact hlt) ex.out HO.out]) hb)
     clear rr hb
     go_wp2_with fail
     refine L.out.mono ?_
     rintro e w2 ⟨rfl, he⟩
     rw [HO.out] at he
     subst he
     clear L
     go_wp2
     go_ret
     exact F.out
    | true =>
     have HO := hid ok
     clear ok
     have F := hid (headSy_step (f := fun x => linB x.1) (w := w) hlt HLOW.out ex HO.out rr hb)
     clear rr hb
     go_wp2_with fail
     refine L.out.mono ?_
     rintro e w2 ⟨rfl, he⟩
     rw [HO.out] at he
     subst he
     clear L
     go_wp2
     go_roundw
     case rel => exact F.out
     case measure => simp [intOf]; omega
   ·have a1 : wr.cell? ⟨w.heap.size, 1, none⟩ = some (.slice V m cv) := rr.cell 1
    have F := hid (ansB (b := leftLinB d.1 d.2) (a := true) (by rw [ll_yes HS.out (fun j hj => HLOW.out j (by rw [HM.out] at hj; omega))]) hb)
    clear rr hb
    go_wp2
    go_ret
    exact F.out
theorem cl_no {sg : List Int} {rs : List Rl} (h : sysOkB sg rs = false) : collB sg rs = false := by unfold collB; rw [h]; rfl
theorem cl_bad {sg : List Int} {rs : List Rl} {k : Nat} {x : Rl} (h : sysOkB sg rs = true) (hk : k < rs.length) (ex : rs.getD k ([], []) = x) (h2 : fallsB x = true) : collB sg rs = true := by
 unfold collB
 rw [h, any_round hk (f := fallsB) (by rw [ex, h2])]; rfl
theorem cl_yes {sg : List Int} {rs : List Rl} (hl : ∀ j, j < rs.length → fallsB (rs.getD j ([], [])) = false) : collB sg rs = false := by
 unfold collB
 rw [any_rounds (f := fallsB) hl]; simp
set_option maxHeartbeats 4000000 in
theorem specCollapsingIn (a v : Value) (d : Dat sSystem) (w : World) (h : Rd w w.heap.size sSystem [a, v] d) (hz : sz sSystem d ≤ 1048576) :
  Calls Try.prog 62 #[.agg #[a, v]] w (AnsB w (collB d.1 d.2)) := by
 have S1 := fun (w1 : World) (bb : Below w.heap.size w w1) => specSystemOk a v d w1 (h.next bb) hz
 obtain ⟨A, n, c, V, m, cv, rfl, rfl, hs, hc, hcv, hm, hn, hm1, hrs, hsg, hE⟩ := rd_sys h hz
 obtain ⟨W, hW, rA, bel⟩ := box1 w 51 #[.slice A n c, .slice V m cv]
 have HW := hid hW
 have HM := hid hm
 have HE := hid hE
 have HR := hid hrs
 have LS := hid S1
 have H0 : Hid (HeadSy w 51 #[.slice A n c, .slice V m cv] m (fun x => !fallsB x) d.2 (.int .i64 0) W) := hid ⟨0, Nat.zero_le _, rfl, fun j hj => absurd hj (Nat.not_lt_zero _), rA, bel⟩
 clear hW h hz hs hc hcv hm hE hrs hsg S1 rA bel
 go_enter Try.func62, Try.ntmps62
 go_wp2_with fail
 rw [← HW.out]
 go_loopw [3] (fun i wr => HeadSy w 51 #[.slice A n c, .slice V m cv] m (fun x => !fallsB x) d.2 i wr) (fun i _ => m - (intOf i).toNat)
 case atStart => exact H0.out
 case round =>
  obtain ⟨k, hk, rfl, hlow, rr, hb⟩ := hrel
  have HLOW := hid hlow
  clear hlow H0
  have a0 : wr.cell? ⟨w.heap.size, 0, none⟩ = some (.slice A n c) := rr.cell 0
  have a1 : wr.cell? ⟨w.heap.size, 1, none⟩ = some (.slice V m cv) := rr.cell 1
  by_cases hlt : k < m
  ·have i1 : (k : Int) < (m : Int) := by omega
   cases ok : sysOkB d.1 d.2 with
   | false =>
    have HO := hid ok
    clear ok
    go_wp2_with fail
    refine (LS.out wr hb).mono ?_
    rintro e w2 ⟨he, bb⟩
    rw [HO.out] at he
    subst he
    have F := hid (ansB (b := collB d.1 d.2) (a := false) (by rw [cl_no HO.out]) (next_trans hb bb))
    clear rr hb bb a0 a1
    go_wp2
    go_ret
    exact F.out
   | true =>
    have HO := hid ok
    have HZ := hid ((sys_parts ok).2.2)
    clear ok
    go_wp2_with fail
    refine (LS.out wr hb).mono ?_
    rintro e w2 ⟨he, bb⟩
    rw [HO.out] at he
    subst he
    replace rr := rr.next bb
    replace hb := next_trans hb bb
    obtain ⟨b, off, l, r, x, rfl, hbB, ex, hc0, hc1, hx⟩ := rd_at HR.out hb HM.out hlt
    have a1' : w2.cell? ⟨w.heap.size, 1, none⟩ = some (.slice (some ⟨b, off, none⟩) m cv) := rr.cell 1
    have hzx : sz sRule x ≤ 1048576 := by have := HE.out k hlt; rw [ex.out] at this; exact this
    have hrx : ruleOkB d.1 x = true := HZ.out x (by rw [← ex.out]; exact rl_mem (by rw [HM.out]; exact hlt))
    obtain ⟨A1, n1, c1, A2, n2, c2, rfl, rfl, s1, k1, s2, k2, hn1, hn2⟩ := rd_rule hx hzx
    have hp := (term_len (rule_parts hrx).2.1).1
    rw [s2.1] at hp
    obtain ⟨b2, off2, y, rfl, hbB2, hy, ey⟩ := s2.spot (k := 0) (by omega)
    have hy0 : w2.cell? ⟨b2, off2, none⟩ = some (.int .i64 y) := by simpa using hy
    have i2 : (0 : Int) < (n2 : Int) := by omega
    have i0 : (0 : Int) ≤ (k : Int) := by omega
    by_cases hyn : y < 0
    ·have hd : decide (y < 0) = true := decide_eq_true hyn
     have F := hid (ansB (b := collB d.1 d.2) (a := true) (by rw [cl_bad HO.out (by rw [HM.out]; exact hlt) ex.out (by unfold fallsB ruleMath.hd; rw [ey.out]; exact hd)]) hb)
     clear hx hzx s1 s2 k1 k2 rr hb bb a0 a1 hrx hy ey hc0 LS
     go_wp2
     go_ret
     exact F.out
    ·have hd : decide (y < 0) = false := decide_eq_false hyn
     have F := hid (headSy_step (f := fun x => !fallsB x) (w := w) hlt HLOW.out ex (by unfold fallsB ruleMath.hd; rw [ey.out, hd]; rfl) rr hb)
     clear hx hzx s1 s2 k1 k2 rr hb bb a0 a1 hrx hy ey hc0 LS
     go_wp2
     go_roundw
     case rel => exact F.out
     case measure => simp [intOf]; omega
  ·have F := hid (ansB (b := collB d.1 d.2) (a := false) (by rw [cl_yes (fun j hj => by have := HLOW.out j (by rw [HM.out] at hj; omega); simpa using this)]) hb)
   clear rr hb
   go_wp2
   go_ret
   exact F.out
end ruleSpec
end
section
open Go.Lib (hid)
namespace ruleSpec
open Go.RowKit base ints sig term termOk marks app sym segs termFacts varsMath varsOf rename renMath same count linear shape kindsR ruleMath appAt kinds
set_option maxRecDepth 100000
def HeadDb (w : World) (T : TypeId) (cs : Array Value) (n : Nat) (d : Rl) (i : Value) (wr : World) : Prop :=
 ∃ k : Nat, k ≤ n ∧ i = .int .i64 k ∧ (∀ j, j < k → moreB d (d.2.getD j 0) = false) ∧ Row wr w.heap.size T cs ∧ Below w.heap.size w wr
theorem headDb_step {w wr : World} {T : TypeId} {cs : Array Value} {n k : Nat} {d : Rl} {x : Int} (hk : k < n) (hlow : ∀ j, j < k → moreB d (d.2.getD j 0) = false) (ex : Hid (d.2.getD k 0 = x)) (h : moreB d x = false) (hr : Row wr w.heap.size T cs) (hb : Below w.heap.size w wr) : HeadDb w T cs n d (.int .i64 ((k : Int) + 1)) wr :=
 ⟨k + 1, hk, by simp, fun j hj => by
  by_cases e : j = k
  ·subst e; rw [ex.out]; exact h
  ·exact hlow j (by omega), hr, hb⟩
theorem db_yes {d : Rl} {x : Int} (hx : x ∈ d.2) (h : moreB d x = true) : dblB d = true := List.any_eq_true.2 ⟨x, hx, h⟩
theorem db_no {d : Rl} {n : Nat} (hl : d.2.length = n) (h : ∀ j, j < n → moreB d (d.2.getD j 0) = false) : dblB d = false := by
 unfold dblB
 rw [List.any_eq_false]
 intro x hx
 obtain ⟨i, hi, rfl⟩ := List.getElem_of_mem hx
 have := h i (by omega)
 have e : d.2.getD i 0 = d.2[i] := by simp [List.getD, hi]
 rw [e] at this; simp [this]
set_option maxHeartbeats 4000000 in
theorem l6Doubles (l r : Value) (d : Dat sRule) (w : World) (h : Rd w w.heap.size sRule [l, r] d) (hz : sz sRule d ≤ 1048576) :
  Calls Try.prog 95 #[.agg #[l, r]] w (AnsB w (dblB d)) := by
 obtain ⟨A1, n1, c1, A2, n2, c2, rfl, rfl, s1, k1, s2, k2, hn1, hn2⟩ := rd_rule h hz
 obtain ⟨W, hW, rA, bel⟩ := box1 w 85 #[.slice A1 n1 c1, .slice A2 n2 c2]
 have HW := hid hW
 have HL2 := hid s2.1
 have H0 : Hid (HeadDb w 85 #[.slice A1 n1 c1, .slice A2 n2 c2] n2 d (.int .i64 0) W) := hid ⟨0, Nat.zero_le _, rfl, fun j hj => absurd hj (Nat.not_lt_zero _), rA, bel⟩
 clear hW h hz k1 k2 rA bel
 go_enter Try.func95, Try.ntmps95
 go_wp2_with fail
 rw [← HW.out]
 go_loopw [3] (fun i wr => HeadDb w 85 #[.slice A1 n1 c1, .slice A2 n2 c2] n2 d i wr) (fun i _ => n2 - (intOf i).toNat)
 case atStart => exact H0.out
 case round =>
  obtain ⟨k, hk, rfl, hlow, rr, hb⟩ := hrel
  have HLOW := hid hlow
  clear hlow H0
  have a0 : wr.cell? ⟨w.heap.size, 0, none⟩ = some (.slice A1 n1 c1) := rr.cell 0
  have a1 : wr.cell? ⟨w.heap.size, 1, none⟩ = some (.slice A2 n2 c2) := rr.cell 1
  by_cases hlt : k < n2
  ·obtain ⟨b, off, y, rfl, hbB, hy0, ey⟩ := s2.spot hlt
   have hy : wr.cell? ⟨b, off + k, none⟩ = some (.int .i64 y) := (hb.cell (p := ⟨b, off + k, none⟩) hbB).trans hy0
   have hmem := mem_of_get (by rw [HL2.out]; exact hlt) ey.out
   have i0 : (0 : Int) ≤ (k : Int) := by omega
   have i1 : (k : Int) < (n2 : Int) := by omega
   have LC2 := hid (fun d' : Nat => l1Count (some ⟨b, off, none⟩) n2 c2 d.2 y (wr.drewN d') ((s2.next hb).drewN d') hn2)
   have LC1 := hid (fun d' : Nat => l1Count A1 n1 c1 d.1 y (wr.drewN d') ((s1.next hb).drewN d') hn1)
   by_cases hyn : y < 0
   ·have hdy : decide (y < 0) = true := decide_eq_true hyn
    obtain ⟨p, hp⟩ : ∃ p, cnt d.2 y d.2.length = p := ⟨_, rfl⟩
    obtain ⟨q, hq⟩ : ∃ q, cnt d.1 y d.1.length = q := ⟨_, rfl⟩
    rw [hp] at LC2
    rw [hq] at LC1
    by_cases hpq : q < p
    ·have M := hid (show moreB d y = true by unfold moreB many; rw [hp, hq]; exact decide_eq_true ⟨hyn, hpq⟩)
     have F := hid (fun d' : Nat => ansB (w' := wr.drewN d') (b := dblB d) (a := true) (by rw [db_yes hmem M.out]) (below_drewN hb d'))
     have hpd : decide ((q : Int) < (p : Int)) = true := decide_eq_true (by omega)
     clear s1 s2 rr hb hmem hy0 ey hp hq
     go_wp2_with fail
     go_quiet (first
      | (go_at_call_of 127 (Value.slice (some ⟨b, off, none⟩) n2 c2); exact Calls.quiet_of_same (v := .int .i64 p) ((LC2.out _).mono fun _ _ ⟨h1, h2⟩ => ⟨h2, h1.symm⟩))
      | (go_at_call_of 127 (Value.slice A1 n1 c1); exact Calls.quiet_of_same (v := .int .i64 q) ((LC1.out _).mono fun _ _ ⟨h1, h2⟩ => ⟨h2, h1.symm⟩)))
     go_wp2
     go_ret
     exact F.out _
    ·have M := hid (show moreB d y = false by unfold moreB many; rw [hp, hq]; exact decide_eq_false (fun hh => hpq hh.2))
     have S := hid (fun d' : Nat => headDb_step (w := w) (wr := wr.drewN d') hlt HLOW.out ey M.out (rr.drewN d') (below_drewN hb d'))
     have hpd : decide ((q : Int) < (p : Int)) = false := decide_eq_false (by omega)
     clear s1 s2 rr hb hmem hy0 ey hp hq
     go_wp2_with fail
     go_quiet (first
      | (go_at_call_of 127 (Value.slice (some ⟨b, off, none⟩) n2 c2); exact Calls.quiet_of_same (v := .int .i64 p) ((LC2.out _).mono fun _ _ ⟨h1, h2⟩ => ⟨h2, h1.symm⟩))
      | (go_at_call_of 127 (Value.slice A1 n1 c1); exact Calls.quiet_of_same (v := .int .i64 q) ((LC1.out _).mono fun _ _ ⟨h1, h2⟩ => ⟨h2, h1.symm⟩)))
     go_wp2
     go_roundw
     case rel => exact S.out _
     case measure => simp [intOf]; omega
   ·have hdy : decide (y < 0) = false := decide_eq_false hyn
    have M := hid (show moreB d y = false by unfold moreB; exact decide_eq_false (fun hh => hyn hh.1))
    have S := hid (fun d' : Nat => headDb_step (w := w) (wr := wr.drewN d') hlt HLOW.out ey M.out (rr.drewN d') (below_drewN hb d'))
    clear s1 s2 rr hb hmem hy0 ey LC1 LC2
    go_wp2_with fail
    go_quiet (fail)
    go_wp2
    go_roundw
    case rel => exact S.out _
    case measure => simp [intOf]; omega
  ·have F := hid (ansB (b := dblB d) (a := false) (by rw [db_no HL2.out (fun j hj => HLOW.out j (by omega))]) hb)
   clear s1 s2 rr hb
   go_wp2
   go_ret
   exact F.out
theorem du_no {sg : List Int} {rs : List Rl} (h : sysOkB sg rs = false) : dupB sg rs = false := by unfold dupB; rw [h]; rfl
theorem du_bad {sg : List Int} {rs : List Rl} {k : Nat} {x : Rl} (h : sysOkB sg rs = true) (hk : k < rs.length) (ex : rs.getD k ([], []) = x) (h2 : dblB x = true) : dupB sg rs = true := by
 unfold dupB
 rw [h, any_round hk (f := dblB) (by rw [ex, h2])]; rfl
theorem du_yes {sg : List Int} {rs : List Rl} (hl : ∀ j, j < rs.length → dblB (rs.getD j ([], [])) = false) : dupB sg rs = false := by
 unfold dupB
 rw [any_rounds (f := dblB) hl]; simp
set_option maxHeartbeats 4000000 in
theorem specDuplicatingIn (a v : Value) (d : Dat sSystem) (w : World) (h : Rd w w.heap.size sSystem [a, v] d) (hz : sz sSystem d ≤ 1048576) :
  Calls Try.prog 56 #[.agg #[a, v]] w (AnsB w (dupB d.1 d.2)) := by
 have S1 := fun (w1 : World) (bb : Below w.heap.size w w1) => specSystemOk a v d w1 (h.next bb) hz
 obtain ⟨A, n, c, V, m, cv, rfl, rfl, hs, hc, hcv, hm, hn, hm1, hrs, hsg, hE⟩ := rd_sys h hz
 obtain ⟨W, hW, rA, bel⟩ := box1 w 51 #[.slice A n c, .slice V m cv]
 have HW := hid hW
 have HM := hid hm
 have HE := hid hE
 have HR := hid hrs
 have LS := hid S1
 have H0 : Hid (HeadSy w 51 #[.slice A n c, .slice V m cv] m (fun x => !dblB x) d.2 (.int .i64 0) W) := hid ⟨0, Nat.zero_le _, rfl, fun j hj => absurd hj (Nat.not_lt_zero _), rA, bel⟩
 clear hW h hz hs hc hcv hm hE hrs hsg S1 rA bel
 go_enter Try.func56, Try.ntmps56
 go_wp2_with fail
 rw [← HW.out]
 go_loopw [3] (fun i wr => HeadSy w 51 #[.slice A n c, .slice V m cv] m (fun x => !dblB x) d.2 i wr) (fun i _ => m - (intOf i).toNat)
 case atStart => exact H0.out
 case round =>
  obtain ⟨k, hk, rfl, hlow, rr, hb⟩ := hrel
  have HLOW := hid hlow
  clear hlow H0
  have a0 : wr.cell? ⟨w.heap.size, 0, none⟩ = some (.slice A n c) := rr.cell 0
  have a1 : wr.cell? ⟨w.heap.size, 1, none⟩ = some (.slice V m cv) := rr.cell 1
  by_cases hlt : k < m
  ·have i1 : (k : Int) < (m : Int) := by omega
   cases ok : sysOkB d.1 d.2 with
   | false =>
    have HO := hid ok
    clear ok
    go_wp2_with fail
    refine (LS.out wr hb).mono ?_
    rintro e w2 ⟨he, bb⟩
    rw [HO.out] at he
    subst he
    have F := hid (ansB (b := dupB d.1 d.2) (a := false) (by rw [du_no HO.out]) (next_trans hb bb))
    clear rr hb bb a0 a1
    go_wp2
    go_ret
    exact F.out
   | true =>
    have HO := hid ok
    clear ok
    go_wp2_with fail
    refine (LS.out wr hb).mono ?_
    rintro e w2 ⟨he, bb⟩
    rw [HO.out] at he
    subst he
    replace rr := rr.next bb
    replace hb := next_trans hb bb
    obtain ⟨b, off, l, r, x, rfl, hbB, ex, hc0, hc1, hx⟩ := rd_at HR.out hb HM.out hlt
    have a1' : w2.cell? ⟨w.heap.size, 1, none⟩ = some (.slice (some ⟨b, off, none⟩) m cv) := rr.cell 1
    have hzx : sz sRule x ≤ 1048576 := by have := HE.out k hlt; rw [ex.out] at this; exact this
    have L := hid (l6Doubles l r x w2 (hx.more hb.size) hzx)
    have i0 : (0 : Int) ≤ (k : Int) := by omega
    clear hx hzx bb a0 a1 LS
    cases ok : dblB x with
    | true =>
     have HB := hid ok
     clear ok
     go_wp2_with fail
     refine L.out.mono ?_
     rintro e w3 ⟨he, bb⟩
     rw [HB.out] at he
     subst he
     have F := hid (ansB (b := dupB d.1 d.2) (a := true) (by rw [du_bad HO.out (by rw [HM.out]; exact hlt) ex.out HB.out]) (next_trans hb bb))
     clear rr hb bb L
     go_wp2
     go_ret
     exact F.out
    | false =>
     have HB := hid ok
     clear ok
     go_wp2_with fail
     refine L.out.mono ?_
     rintro e w3 ⟨he, bb⟩
     rw [HB.out] at he
     subst he
     have F := hid (headSy_step (f := fun x => !dblB x) (w := w) hlt HLOW.out ex (by rw [HB.out]; rfl) (rr.next bb) (next_trans hb bb))
     clear rr hb bb L
     go_wp2
     go_roundw
     case rel => exact F.out
     case measure => simp [intOf]; omega
  ·have F := hid (ansB (b := dupB d.1 d.2) (a := false) (by rw [du_yes (fun j hj => by have := HLOW.out j (by rw [HM.out] at hj; omega); simpa using this)]) hb)
   clear rr hb
   go_wp2
   go_ret
   exact F.out
def HeadDf (w : World) (T : TypeId) (cs : Array Value) (m : Nat) (rs : List Rl) (out i : Value) (wr : World) : Prop :=
 ∃ (k : Nat) (b off n c : Nat), k ≤ m ∧ i = .int .i64 k ∧ out = .slice (some ⟨b, off, none⟩) n c ∧ Seg wr wr.heap.size (some ⟨b, off, none⟩) n (defL (rs.take k)) ∧ n ≤ c ∧ c ≤ 9223372036854775807 ∧ Row wr w.heap.size T cs ∧ Below w.heap.size w wr
set_option maxHeartbeats 4000000 in
theorem l6Defined (a v : Value) (d : Dat sSystem) (w : World) (h : Rd w w.heap.size sSystem [a, v] d) (hz : sz sSystem d ≤ 1048576) (hok : sysOkB d.1 d.2 = true) :
  Calls Try.prog 105 #[.agg #[a, v]] w (AnsInto w (defL d.2)) := by
 obtain ⟨A, n, c, V, m, cv, rfl, rfl, hs, hc, hcv, hm, hn, hm1, hrs, hsg, hE⟩ := rd_sys h hz
 have bel : Below w.heap.size w ((w.alloc (.cells #[.slice A n c, .slice V m cv] 51)).alloc (.cells #[] 2)) := ((Below.refl _ _).alloc (Nat.le_refl _) _).alloc (by simp) _
 have rA := (Row.new w 51 #[.slice A n c, .slice V m cv]).alloc (.cells #[] 2)
 have HM := hid hm
 have HE := hid hE
 have HR := hid hrs
 have HZ := hid ((sys_parts hok).2.2)
 have H0 : Hid (HeadDf w 51 #[.slice A n c, .slice V m cv] m d.2 (.slice (some ⟨w.heap.size + 1, 0, none⟩) 0 0) (.int .i64 0) ((w.alloc (.cells #[.slice A n c, .slice V m cv] 51)).alloc (.cells #[] 2))) :=
  hid ⟨0, _, _, 0, 0, Nat.zero_le _, rfl, rfl, Seg.empty, Nat.le_refl _, by omega, rA, bel⟩
 clear h hz hs hc hcv hm hE hrs hsg rA bel hok
 go_enter Try.func105, Try.ntmps105
 go_wp2_with fail
 go_loopw [3, 4] (fun out i wr => HeadDf w 51 #[.slice A n c, .slice V m cv] m d.2 out i wr) (fun _ i _ => m - (intOf i).toNat)
 case atStart => exact H0.out
 case round =>
  obtain ⟨k, ob, oo, on, oc, hk, rfl, rfl, hseg, ho1, ho2, rr, hb⟩ := hrel
  clear H0
  have a1 : wr.cell? ⟨w.heap.size, 1, none⟩ = some (.slice V m cv) := rr.cell 1
  by_cases hlt : k < m
  ·obtain ⟨b, off, l, r, x, rfl, hbB, ex, hc0, hc1, hx⟩ := rd_at HR.out hb HM.out hlt
   have hzx : sz sRule x ≤ 1048576 := by have := HE.out k hlt; rw [ex.out] at this; exact this
   have hrx := HZ.out x (by rw [← ex.out]; exact rl_mem (by rw [HM.out]; exact hlt))
   obtain ⟨A1, n1, c1, A2, n2, c2, rfl, rfl, s1, k1, s2, k2, hn1, hn2⟩ := rd_rule hx hzx
   have hp := (term_len (rule_parts hrx).1).1
   rw [s1.1] at hp
   obtain ⟨b2, off2, y, rfl, hbB2, hy, ey⟩ := s1.spot (k := 0) (by omega)
   have hy0 : wr.cell? ⟨b2, off2, none⟩ = some (.int .i64 y) := by simpa using hy
   have i2 : (0 : Int) < (n1 : Int) := by omega
   have i0 : (0 : Int) ≤ (k : Int) := by omega
   have i1 : (k : Int) < (m : Int) := by omega
   have hon : on ≤ 1048576 := by have h1 := hseg.1; have h2 := def_len (d.2.take k); rw [List.length_take] at h2; omega
   have L := hid (l1Into ob oo on oc (defL (d.2.take k)) y wr hseg ho1 ho2 hon)
   have E := hid (show defL (d.2.take (k + 1)) = into (defL (d.2.take k)) y by rw [def_take (by rw [HM.out]; exact hlt), ex.out]; unfold ruleMath.hd; rw [ey.out])
   clear hx hzx hrx s1 s2 k1 k2 hy ey ex hseg hc1
   go_wp2_with fail
   refine L.out.mono ?_
   rintro e w2 ⟨ob', oo', on', oc', rfl, hseg', h1', h2', bb⟩
   have F : HeadDf w 51 #[.slice A n c, .slice (some ⟨b, off, none⟩) m cv] m d.2 (.slice (some ⟨ob', oo', none⟩) on' oc') (.int .i64 ((k : Int) + 1)) w2 :=
    ⟨k + 1, ob', oo', on', oc', hlt, by simp, rfl, by rw [E.out]; exact hseg', h1', h2', rr.next bb, next_trans hb bb⟩
   have HF := hid F
   clear F hseg' bb rr hb L E
   go_wp2
   go_roundw
   case rel => exact HF.out
   case measure => simp [intOf]; omega
  ·have F : AnsInto w (defL d.2) (.returned (.slice (some ⟨ob, oo, none⟩) on oc)) wr := ⟨ob, oo, on, oc, rfl, by rw [List.take_of_length_le (by rw [HM.out]; omega)] at hseg; exact hseg, ho1, ho2, hb⟩
   have HF := hid F
   clear F hseg rr hb
   go_wp2
   go_ret
   exact HF.out
theorem nest_yes {rs : List Rl} {x : Rl} {j : Nat} {y : Int} (h1 : 1 ≤ j) (h2 : j < x.1.length) (e : x.1.getD j 0 = y) (h : isDef rs y = true) : nestB rs x = true := by
 unfold nestB
 rw [List.any_eq_true]
 refine ⟨y, ?_, h⟩
 rw [← e]
 obtain ⟨q, rfl⟩ : ∃ q, j = 1 + q := ⟨j - 1, by omega⟩
 have : x.1.getD (1 + q) 0 = (x.1.drop 1)[q]'(by rw [List.length_drop]; omega) := by rw [List.getElem_drop]; simp only [List.getD, List.getElem?_eq_getElem h2, Option.getD_some]
 rw [this]
 exact List.getElem_mem _
theorem nest_no {rs : List Rl} {x : Rl} (h : ∀ j, 1 ≤ j → j < x.1.length → isDef rs (x.1.getD j 0) = false) : nestB rs x = false := by
 unfold nestB
 rw [List.any_eq_false]
 intro y hy
 obtain ⟨q, hq, rfl⟩ := List.getElem_of_mem hy
 rw [List.length_drop] at hq
 have := h (1 + q) (by omega) (by omega)
 simp only [List.getElem_drop]
 have e : x.1.getD (1 + q) 0 = x.1[1 + q]'(by omega) := by simp [List.getD, show 1 + q < x.1.length by omega]
 rw [e] at this
 simp [this]
theorem cs_no {sg : List Int} {rs : List Rl} (h : sysOkB sg rs = false) : consB sg rs = false := by unfold consB; rw [h]; rfl
theorem cs_bad {sg : List Int} {rs : List Rl} {k : Nat} {x : Rl} (hk : k < rs.length) (ex : rs.getD k ([], []) = x) (h : nestB rs x = true) : consB sg rs = false := by
 unfold consB
 rw [any_round hk (f := nestB rs) (by rw [ex, h])]; simp
theorem cs_yes {sg : List Int} {rs : List Rl} (h : sysOkB sg rs = true) (hl : ∀ j, j < rs.length → nestB rs (rs.getD j ([], [])) = false) : consB sg rs = true := by
 unfold consB
 rw [h, any_rounds (f := nestB rs) hl]; rfl
set_option maxHeartbeats 8000000 in
theorem specConstructorSystem (a v : Value) (d : Dat sSystem) (w : World) (h : Rd w w.heap.size sSystem [a, v] d) (hz : sz sSystem d ≤ 1048576) :
  Calls Try.prog 64 #[.agg #[a, v]] w (AnsB w (consB d.1 d.2)) := by
 have S1 := fun (w1 : World) (bb : Below w.heap.size w w1) => specSystemOk a v d w1 (h.next bb) hz
 have S2 := fun (w1 : World) (bb : Below w.heap.size w w1) => l6Defined a v d w1 (h.next bb) hz
 obtain ⟨A, n, c, V, m, cv, rfl, rfl, hs, hc, hcv, hm, hn, hm1, hrs, hsg, hE⟩ := rd_sys h hz
 obtain ⟨W, hW, rA, bel⟩ := box1 w 51 #[.slice A n c, .slice V m cv]
 have HW := hid hW
 have HM := hid hm
 have HE := hid hE
 have HR := hid hrs
 have L1 := hid (S1 W bel)
 have L2 := hid S2
 clear hW h hz hs hc hcv hm hE hrs hsg S1 S2
 cases ok : sysOkB d.1 d.2 with
 | false =>
  have HS := hid ok
  clear ok
  go_enter Try.func64, Try.ntmps64
  go_wp2_with fail
  rw [← HW.out]
  refine L1.out.mono ?_
  rintro e w1 ⟨he, bb⟩
  rw [HS.out] at he
  subst he
  have F := hid (ansB (b := consB d.1 d.2) (a := false) (by rw [cs_no HS.out]) (next_trans bel bb))
  clear bel rA bb
  go_wp2
  go_ret
  exact F.out
 | true =>
  have HS := hid ok
  clear ok
  go_enter Try.func64, Try.ntmps64
  go_wp2_with fail
  rw [← HW.out]
  refine L1.out.mono ?_
  rintro e w1 ⟨he, bb⟩
  rw [HS.out] at he
  subst he
  replace rA := rA.next bb
  replace bel := next_trans bel bb
  have a0 : w1.cell? ⟨w.heap.size, 0, none⟩ = some (.slice A n c) := rA.cell 0
  have a1 : w1.cell? ⟨w.heap.size, 1, none⟩ = some (.slice V m cv) := rA.cell 1
  clear bb L1
  go_wp2_with fail
  refine (L2.out w1 bel HS.out).mono ?_
  rintro e w2 ⟨db, dx, dn, dc, rfl, hseg, hd1, hd2, bb⟩
  replace rA := rA.next bb
  replace bel := next_trans bel bb
  have hdn : dn ≤ 1048576 := by have h1 := hseg.1; have h2 := def_len d.2; have h3 := (sys_parts HS.out).2.1; omega
  have b1 : w2.cell? ⟨w.heap.size, 1, none⟩ = some (.slice V m cv) := rA.cell 1
  have LH := hid (fun y : Int => l1Has (some ⟨db, dx, none⟩) dn dc (defL d.2) y w2 hseg hdn)
  clear bb L2 rA hseg a0 a1 hd1 hd2
  go_wp2_with fail
  go_loopw [4] (fun i wr => ∃ k : Nat, k ≤ m ∧ i = .int .i64 k ∧ (∀ j, j < k → nestB d.2 (d.2.getD j ([], [])) = false) ∧ wr = w2) (fun i _ => m - (intOf i).toNat)
  case atStart => exact ⟨0, Nat.zero_le _, rfl, fun j hj => absurd hj (Nat.not_lt_zero _), rfl⟩
  case round =>
   obtain ⟨k, hk, rfl, hlow, hw⟩ := hrel
   subst hw
   have HLOW := hid hlow
   clear hlow
   by_cases hlt : k < m
   ·obtain ⟨b, off, l, r, x, rfl, hbB, ex, hc0, hc1, hx⟩ := rd_at HR.out bel HM.out hlt
    have hzx : sz sRule x ≤ 1048576 := by have := HE.out k hlt; rw [ex.out] at this; exact this
    have hrx := (sys_parts HS.out).2.2 x (by rw [← ex.out]; exact rl_mem (by rw [HM.out]; exact hlt))
    obtain ⟨A1, n1, c1, A2, n2, c2, rfl, rfl, s1, k1, s2, k2, hn1, hn2⟩ := rd_rule hx hzx
    have hp := (term_len (rule_parts hrx).1).1
    rw [s1.1] at hp
    have HL1 := hid s1.1
    have i0 : (0 : Int) ≤ (k : Int) := by omega
    have i1 : (k : Int) < (m : Int) := by omega
    clear hx hzx hrx s2 k1 k2 hc1
    go_wp2_with fail
    go_loopw [5] (fun q wi => ∃ p : Nat, 1 ≤ p ∧ p ≤ n1 ∧ q = .int .i64 p ∧ (∀ j, 1 ≤ j → j < p → isDef d.2 (x.1.getD j 0) = false) ∧ wi = wr) (fun q _ => n1 - (intOf q).toNat)
    case atStart => exact ⟨1, Nat.le_refl _, hp, rfl, fun j h1 h2 => absurd h2 (by omega), rfl⟩
    case round =>
     obtain ⟨p, hp1, hp2, rfl, hlow2, hw2⟩ := hrel
     subst hw2
     have HLOW2 := hid hlow2
     clear hlow2
     by_cases hlt2 : p < n1
     ·obtain ⟨b2, off2, y, rfl, hbB2, hy, ey⟩ := s1.spot hlt2
      have j0 : (0 : Int) ≤ (p : Int) := by omega
      have j1 : (p : Int) < (n1 : Int) := by omega
      have L := hid (LH.out y)
      cases hdf : isDef d.2 y with
      | true =>
       have E := hid (show decide (y ∈ defL d.2) = true by rw [← isDef_mem]; exact hdf)
       have F := hid (ansB (b := consB d.1 d.2) (a := false) (by rw [cs_bad (by rw [HM.out]; exact hlt) ex.out (nest_yes hp1 (by rw [HL1.out]; exact hlt2) ey.out hdf)]) bel)
       clear s1 ey hdf bel
       go_wp2_with fail
       refine L.out.mono ?_
       rintro e w4 ⟨rfl, he⟩
       rw [E.out] at he
       subst he
       clear L LH
       go_wp2
       go_ret
       exact F.out
      | false =>
       have E := hid (show decide (y ∈ defL d.2) = false by rw [← isDef_mem]; exact hdf)
       have S : Hid (∀ j, 1 ≤ j → j < p + 1 → isDef d.2 (x.1.getD j 0) = false) := hid fun j h1 h2 => by
        by_cases e : j = p
        ·subst e; rw [ey.out]; exact hdf
        ·exact HLOW2.out j h1 (by omega)
       clear s1 ey hdf
       go_wp2_with fail
       refine L.out.mono ?_
       rintro e w4 ⟨rfl, he⟩
       rw [E.out] at he
       subst he
       clear L LH
       go_wp2
       go_roundw
       case rel => exact ⟨p + 1, by omega, hlt2, by simp, S.out, by trivial⟩
       case measure => simp [intOf]; omega
     ·have S : Hid (∀ j, j < k + 1 → nestB d.2 (d.2.getD j ([], [])) = false) := hid fun j hj => by
       by_cases e : j = k
       ·subst e; rw [ex.out]; exact nest_no (fun j h1 h2 => HLOW2.out j h1 (by rw [HL1.out] at h2; omega))
       ·exact HLOW.out j (by omega)
      clear s1
      go_wp2
      go_roundw
      case rel => exact ⟨k + 1, hlt, by simp, S.out, by trivial⟩
      case measure => simp [intOf]; omega
   ·have F := hid (ansB (b := consB d.1 d.2) (a := true) (by rw [cs_yes HS.out (fun j hj => HLOW.out j (by rw [HM.out] at hj; omega))]) bel)
    clear bel
    go_wp2
    go_ret
    exact F.out
end ruleSpec
end
section
namespace ruleSpec
open Go.RowKit base ints sig term termOk marks app sym segs termFacts varsMath varsOf rename renMath same count linear shape kindsR ruleMath kinds
set_option maxRecDepth 100000
def AnsRule (w : World) (d : Rl) (e : Ending) (w' : World) : Prop := ∃ A n c A' n' c', e = .returned (.agg #[.slice A n c, .slice A' n' c']) ∧ Owned w' w.heap.size w'.heap.size sRule [.slice A n c, .slice A' n' c'] d ∧ Below w.heap.size w w'
end ruleSpec
end
section
namespace lawY
open Go.RowKit base ints sig term termOk segs termFacts varsMath renMath linear shape kindsR ruleMath ruleSpec
set_option maxRecDepth 100000
structure Ts (w : World) (o : Nat) (S : Option Addr) (sn sc : Nat) (R : Option Addr) (rn rc : Nat) (d : Dat sSystem) (wr : World) : Prop where
 s : Rd wr wr.heap.size sSystem [.slice S sn sc, .slice R rn rc] d
 r : Row wr o 51 #[.slice S sn sc, .slice R rn rc]
 bel : Below w.heap.size w wr
section
variable {w : World} {o : Nat} {S : Option Addr} {sn sc : Nat} {R : Option Addr} {rn rc : Nat} {d : Dat sSystem} {wr w' : World}
theorem Ts.next (t : Ts w o S sn sc R rn rc d wr) (hb : Below wr.heap.size wr w') : Ts w o S sn sc R rn rc d w' := ⟨t.s.next hb, t.r.next hb, next_trans t.bel hb⟩
theorem Ts.drew (t : Ts w o S sn sc R rn rc d wr) : Ts w o S sn sc R rn rc d wr.drew := t.next ⟨rfl, rfl, rfl, Nat.le_refl _, fun _ _ => rfl⟩
theorem Ts.rule (t : Ts w o S sn sc R rn rc d wr) {k : Nat} (hk : k < rn) : ∃ b off l ln lc r qn qc, R = some ⟨b, off, none⟩ ∧ b < wr.heap.size ∧ wr.cell? ⟨b, off + k * 2, none⟩ = some (.slice l ln lc) ∧ wr.cell? ⟨b, off + k * 2 + 1, none⟩ = some (.slice r qn qc) ∧ Rd wr wr.heap.size sRule [.slice l ln lc, .slice r qn qc] (d.2.getD k ([], [])) ∧ rn ≤ rc := by
 obtain ⟨g0, g1⟩ := parts_System t.s
 have hl : d.2.length = rn := by
  obtain ⟨A, n, c, e, hc, hl, _⟩ := g1
  injection e with e _
  injection e with _ e2 _
  omega
 obtain ⟨b, off, n, c, es, e, hn, hc, hb, he, hp, hr⟩ := Rd.elem g1 (show k < d.2.length by omega)
 injection e with e1 e2 e3
 obtain ⟨u, v, rfl⟩ : ∃ u v, es = [u, v] := by
  match es, he with
  | [u, v], _ => exact ⟨u, v, rfl⟩
 obtain ⟨p0, p1⟩ := parts_Rule hr
 obtain ⟨l, ln, lc, q1, _, _⟩ := rd_ints.1 p0
 obtain ⟨r, qn, qc, q2, _, _⟩ := rd_ints.1 p1
 subst q1 q2
 rw [show nc sRule = 2 from rfl] at hp
 have h0 := hp 0 (by simp)
 have h1 := hp 1 (by simp)
 exact ⟨b, off, l, ln, lc, r, qn, qc, e1, hb, by simpa using h0, by simpa using h1, hr, by omega⟩
theorem Ts.len (t : Ts w o S sn sc R rn rc d wr) : d.2.length = rn := by
 obtain ⟨g0, A, n, c, e, hc, hl, _⟩ := parts_System t.s
 injection e with e _
 injection e with _ e2 _
 omega
end
theorem rd_one {w : World} {S : Option Addr} {sn sc g : Nat} {u v : Value} {sg : List Int} {x : Dat sRule} (hs : Rd w w.heap.size sSig [.slice S sn sc] sg) (hg : Row w g 85 #[u, v]) (hx : Rd w w.heap.size sRule [u, v] x) :
  Rd w w.heap.size sSystem [.slice S sn sc, .slice (some ⟨g, 0, none⟩) 1 1] ((sg, [x]) : List Int × List Rl) := by
 refine ⟨[_], [_], rfl, hs, some ⟨g, 0, none⟩, 1, 1, rfl, ⟨Nat.le_refl _, by omega, fun e => by cases e⟩, rfl, fun _ => ⟨g, 0, rfl, hg.lt, fun j hj => ?_⟩⟩
 have ej : j = 0 := by omega
 subst ej
 refine ⟨[u, v], rfl, fun i hi => ?_, hx⟩
 match i, hi with
 | 0, _ => exact hg.cell 0
 | 1, _ => exact hg.cell 1
theorem one_ok {sg : List Int} {rs : List Rl} (h : sysOkB sg rs = true) {k : Nat} (hk : k < rs.length) : sysOkB sg [rs.getD k ([], [])] = true := by
 obtain ⟨h1, h2, h3⟩ := sys_parts h
 exact sys_mk h1 (by simp) (fun r hr => by rw [List.mem_singleton.1 hr]; exact h3 _ (rl_mem hk))
theorem take_any {f : Rl → Bool} {rs : List Rl} {k : Nat} (hk : k < rs.length) : (rs.take (k + 1)).any f = ((rs.take k).any f || f (rs.getD k ([], []))) := by
 rw [List.take_succ_eq_append_getElem hk, List.any_append]
 simp [List.getD, hk]
theorem one_left {sg : List Int} {rs : List Rl} (h : sysOkB sg rs = true) {k : Nat} (hk : k < rs.length) : leftLinB sg [rs.getD k ([], [])] = linB (rs.getD k ([], [])).1 := by
 unfold leftLinB leftB; rw [one_ok h hk]; simp
theorem one_coll {sg : List Int} {rs : List Rl} (h : sysOkB sg rs = true) {k : Nat} (hk : k < rs.length) : collB sg [rs.getD k ([], [])] = fallsB (rs.getD k ([], [])) := by
 unfold collB; rw [one_ok h hk]; simp
theorem one_dup {sg : List Int} {rs : List Rl} (h : sysOkB sg rs = true) {k : Nat} (hk : k < rs.length) : dupB sg [rs.getD k ([], [])] = dblB (rs.getD k ([], [])) := by
 unfold dupB; rw [one_ok h hk]; simp
theorem left_step {rs : List Rl} {k : Nat} (hk : k < rs.length) : leftB (rs.take (k + 1)) = (leftB (rs.take k) && linB (rs.getD k ([], [])).1) := by
 unfold leftB; rw [take_any hk]; simp
theorem forms_end {sg : List Int} {rs : List Rl} (h : sysOkB sg rs = true) : leftLinB sg rs = leftB rs ∧ dupB sg rs = rs.any dblB ∧ collB sg rs = rs.any fallsB := by
 unfold leftLinB dupB collB; rw [h]; simp
theorem forms_no {sg : List Int} {rs : List Rl} (h : sysOkB sg rs = false) : leftLinB sg rs = false ∧ dupB sg rs = false ∧ collB sg rs = false := by
 unfold leftLinB dupB collB; rw [h]; simp
end lawY
end
end Go.Proofs.Ytiimbmkofpnebaa
