/-
  MERGED: my texts EndOf, Sym, CurO, Sub, DrawNew, DrawPairL, DrawOne, PlainMath, Look, Plain, DrawSub, DrawS, DrawRule, SubstOk, Gives, PlainOf, CompMath, Shifted, Filled, Max, CompSpec, Then, CompImpl, one behind the other, as they are. By an AI agent.
-/
import Derived.Test.YtmoidijngeijkaaGreatMFnOrders2
import Derived.WalkSpells
import Derived.Shelf.Abstract
import Derived.Deep.AppendLies
import Derived.Deep.DeepCutAuto
import Derived.Deep.RegionHeld3
import Derived.Deep.QuietTactic
import Derived.BigQuiet
import Derived.Deep.DeepMust
import Derived.Laws.NewBlocks
import Derived.Laws.EntriesVeiled
namespace Go.Proofs.YtmoidijngeijkaaGreat
section
open Go.Lib (hid)
namespace endAt
open Go.RowKit base ints sig term arity endOf cursor termOk
def inB (t : List Int) (x : Int) : Bool := decide (0 ≤ x ∧ x < t.length)
def thereB (sg t : List Int) (x : Int) : Bool := termOkB sg t && inB t x
def endOfI (sg t : List Int) (x : Int) : Int := if thereB sg t x = true then endI sg t x.toNat else -1
theorem termOk_parts {sg t : List Int} (h : termOkB sg t = true) : sigOkB sg = true ∧ t.length ≤ 60 ∧ scan sg 1 t = some t.length := by
 unfold termOkB termB at h
 simp only [Bool.and_eq_true, decide_eq_true_eq] at h
 exact h
theorem there_parts {sg t : List Int} {x : Int} (h : thereB sg t x = true) : termOkB sg t = true ∧ 0 ≤ x ∧ x < t.length := by
 unfold thereB inB at h
 simp only [Bool.and_eq_true, decide_eq_true_eq] at h
 exact h
theorem there_no {sg t : List Int} {x : Int} (h : termOkB sg t = false ∨ x < 0 ∨ (t.length : Int) ≤ x) : thereB sg t x = false := by
 unfold thereB inB
 rcases h with h | h | h
 ·rw [h, Bool.false_and]
 ·rw [decide_eq_false (by omega), Bool.and_false]
 ·rw [decide_eq_false (by omega), Bool.and_false]
theorem there_yes {sg t : List Int} {x : Int} (h : termOkB sg t = true) (h0 : 0 ≤ x) (h1 : x < t.length) : thereB sg t x = true := by
 unfold thereB inB
 rw [h, decide_eq_true ⟨h0, h1⟩]
 rfl
theorem there (A : Option Addr) (m c : Nat) (x : Int) (b : Bool) (w : World) (hm : m ≤ 1048576) (hb : decide (0 ≤ x ∧ x < m) = b) :
  Calls Tryz.prog 60 #[.slice A m c, .int .i64 x] w fun e w' => w = w' ∧ e = .returned (.bool b) := by
 by_cases h : 0 ≤ x ∧ x ≤ (m : Int) - 1
 ·have hbt : b = true := by rw [← hb]; simp; omega
  subst hbt
  clear hb
  go_enter Tryz.func60, Tryz.ntmps60
  go_wp2_with fail
  refine (inYes _ _ _ _ h).mono ?_
  rintro e w' ⟨rfl, rfl⟩
  go_wp2
  go_ret
  exact ⟨rfl, rfl⟩
 ·have hbt : b = false := by rw [← hb]; simp; omega
  subst hbt
  clear hb
  go_enter Tryz.func60, Tryz.ntmps60
  go_wp2_with fail
  refine (inNo _ _ _ _ h).mono ?_
  rintro e w' ⟨rfl, rfl⟩
  go_wp2
  go_ret
  exact ⟨rfl, rfl⟩
def AnsEndOf (w : World) (sg t : List Int) (x : Int) (e : Ending) (w' : World) : Prop := e = .returned (.int .i64 (endOfI sg t x)) ∧ Below w.heap.size w w'
theorem endOf_no {w w' : World} {sg t : List Int} {x : Int} (h : thereB sg t x = false) (hb : Below w.heap.size w w') : AnsEndOf w sg t x (.returned (.int .i64 (-1))) w' :=
 ⟨by unfold endOfI; rw [if_neg (by rw [h]; simp)], hb⟩
theorem endOf_yes {w w' : World} {sg t : List Int} {x : Int} (h : thereB sg t x = true) (hb : Below w.heap.size w w') : AnsEndOf w sg t x (.returned (.int .i64 (endI sg t x.toNat))) w' :=
 ⟨by unfold endOfI; rw [if_pos h], hb⟩
def AnsAt (w : World) (A : Option Addr) (n c : Nat) (A' : Option Addr) (m c' : Nat) (sg t : List Int) (x : Int) (e : Ending) (w' : World) : Prop :=
 Below w.heap.size w w' ∧ ((thereB sg t x = true ∧ ∃ p, e = .returned (.pointer (some ⟨p, 0, none⟩)) ∧ w.heap.size ≤ p ∧ Cur w' p A n c A' m c' sg t x.toNat) ∨ (thereB sg t x = false ∧ e = .returned (.pointer none)))
theorem at_no {w w' : World} {A A' : Option Addr} {n c m c' : Nat} {sg t : List Int} {x : Int} (h : thereB sg t x = false) (hb : Below w.heap.size w w') : AnsAt w A n c A' m c' sg t x (.returned (.pointer none)) w' := ⟨hb, .inr ⟨h, rfl⟩⟩
set_option maxHeartbeats 1000000 in
theorem cursorAt (A A' : Option Addr) (n c m c' : Nat) (sg t : List Int) (x : Int) (w : World) (h : Seg w w.heap.size A n sg) (h' : Seg w w.heap.size A' m t) (hn : n ≤ 1048576) (hm : m ≤ 1048576) :
  Calls Tryz.prog 64 #[.agg #[.slice A n c], .slice A' m c', .int .i64 x] w (AnsAt w A n c A' m c' sg t x) := by
 obtain ⟨W, hW⟩ : ∃ W, W = w.alloc (.cells #[.slice A n c] 26) := ⟨_, rfl⟩
 have rA : Row W w.heap.size 26 #[.slice A n c] := by rw [hW]; exact Row.new _ _ _
 have bel : Below w.heap.size w W := by rw [hW]; exact (Below.refl _ _).alloc (Nat.le_refl _) _
 replace h := (h.below bel).more bel.size
 replace h' := (h'.below bel).more bel.size
 have HW := hid hW
 have HL := hid h'.1
 clear hW
 have L := hid (implTermOk A A' n c m c' sg t W h h' hn hm)
 cases hok : termOkB sg t with
 | false =>
  have HS := hid hok
  clear hok h h'
  go_enter Tryz.func64, Tryz.ntmps64
  go_wp2_with fail
  rw [← HW.out]
  refine L.out.mono ?_
  rintro e w1 ⟨he, bb⟩
  rw [HS.out] at he
  subst he
  have F := hid (fun A n c A' m c' => at_no (A := A) (n := n) (c := c) (A' := A') (m := m) (c' := c') (x := x) (there_no (.inl HS.out)) (next_trans bel bb))
  clear bb bel rA
  go_wp2
  go_ret
  exact F.out _ _ _ _ _ _
 | true =>
  have HS := hid hok
  clear hok
  by_cases hin : 0 ≤ x ∧ x < (m : Int)
  ·have hars := (sig_arities (termOk_parts HS.out).1).1
   have HT := hid (there_yes HS.out hin.1 (by rw [HL.out]; exact hin.2))
   obtain ⟨k, rfl⟩ := Int.eq_ofNat_of_zero_le hin.1
   obtain ⟨i0, i1⟩ := hin
   go_enter Tryz.func64, Tryz.ntmps64
   go_wp2_with fail
   rw [← HW.out]
   refine L.out.mono ?_
   rintro e w1 ⟨he, bb⟩
   rw [HS.out] at he
   subst he
   replace h := h.next bb
   replace h' := h'.next bb
   replace rA := rA.next bb
   replace bel := next_trans bel bb
   have cA : w1.cell? ⟨w.heap.size, 0, none⟩ = some (.slice A n c) := rA.cell 0
   have CN := cur_new (c := c) (c' := c') h h' hn hm hars k (by omega)
   have F : AnsAt w A n c A' m c' sg t (k : Int) (.returned (.pointer (some ⟨w1.heap.size, 0, none⟩))) (w1.alloc (.cells #[.slice A n c, .slice A' m c', .int .i64 k] 133)) :=
    ⟨bel.alloc (Nat.le_of_lt rA.lt) _, .inl ⟨HT.out, _, rfl, Nat.le_of_lt rA.lt, by rw [Int.toNat_natCast]; exact CN⟩⟩
   have HF := hid F
   clear F CN bb bel rA h h' hars HT
   go_wp2
   go_ret
   exact HF.out
  ·have HT := hid (there_no (sg := sg) (t := t) (x := x) (by rw [HL.out]; omega))
   by_cases hx0 : x < 0
   ·clear hin
    go_enter Tryz.func64, Tryz.ntmps64
    go_wp2_with fail
    rw [← HW.out]
    refine L.out.mono ?_
    rintro e w1 ⟨he, bb⟩
    rw [HS.out] at he
    subst he
    have F := hid (fun A n c A' m c' => at_no (A := A) (n := n) (c := c) (A' := A') (m := m) (c' := c') HT.out (next_trans bel bb))
    clear bb bel rA h h'
    go_wp2
    go_ret
    exact F.out _ _ _ _ _ _
   ·have hx1 : (m : Int) ≤ x := by omega
    clear hin
    go_enter Tryz.func64, Tryz.ntmps64
    go_wp2_with fail
    rw [← HW.out]
    refine L.out.mono ?_
    rintro e w1 ⟨he, bb⟩
    rw [HS.out] at he
    subst he
    have F := hid (fun A n c A' m c' => at_no (A := A) (n := n) (c := c) (A' := A') (m := m) (c' := c') HT.out (next_trans bel bb))
    clear bb bel rA h h'
    go_wp2
    go_ret
    exact F.out _ _ _ _ _ _
set_option maxHeartbeats 1000000 in
theorem implEndOf (A A' : Option Addr) (n c m c' : Nat) (sg t : List Int) (x : Int) (w : World) (h : Seg w w.heap.size A n sg) (h' : Seg w w.heap.size A' m t) (hn : n ≤ 1048576) (hm : m ≤ 1048576) (_ : -9223372036854775808 ≤ x) (_ : x ≤ 9223372036854775807) :
  Calls Tryz.prog 111 #[.agg #[.slice A n c], .slice A' m c', .int .i64 x] w (AnsEndOf w sg t x) := by
 obtain ⟨W, hW⟩ : ∃ W, W = w.alloc (.cells #[.slice A n c] 26) := ⟨_, rfl⟩
 have bel : Below w.heap.size w W := by rw [hW]; exact (Below.refl _ _).alloc (Nat.le_refl _) _
 replace h := (h.below bel).more bel.size
 replace h' := (h'.below bel).more bel.size
 have HW := hid hW
 have HL := hid h'.1
 clear hW
 have L := hid (cursorAt A A' n c m c' sg t x W h h' hn hm)
 clear h h'
 go_enter Tryz.func111, Tryz.ntmps111
 go_wp2_with fail
 rw [← HW.out]
 refine L.out.mono ?_
 rintro e w1 ⟨bb, ⟨ht, p, rfl, hp, hc⟩ | ⟨ht, rfl⟩⟩
 ·replace bel := next_trans bel bb
  have HT := hid ht
  have hsz : W.heap.size < w1.heap.size := Nat.lt_of_le_of_lt hp hc.row.lt
  have hwp : w.heap.size ≤ p := by rw [HW.out] at hp; simp at hp; omega
  clear ht bb
  go_wp2_with fail
  refine (pass p A n c A' m c' sg t x.toNat _ hc).mono ?_
  obtain ⟨hok, h0, h1⟩ := there_parts HT.out
  obtain ⟨j, hj, hj1, hj2⟩ := scan_at (termOk_parts hok).2.2 (a := x.toNat) (by omega)
  rintro e w2 ⟨hg, ⟨j', hj', rfl, hc2⟩ | ⟨hj', rfl, -⟩⟩
  ·have c2 : w2.cell? ⟨p, 2, none⟩ = some (.int .i64 ((x.toNat + j' : Nat) : Int)) := hc2.row.cell 2
   have b2 : Below w.heap.size w w2 := bel.grown hg (by have := bel.size; omega) (fun k hk => by injection hk; omega)
   have F := endOf_yes HT.out b2
   rw [endI_some hj'] at F
   rw [show ((x.toNat : Int) + (j' : Int)) = ((x.toNat + j' : Nat) : Int) by simp] at F
   have HF := hid F
   clear F b2 hg hc2 hj hj1 hj2 hj' h0 h1 hok hc bel HT
   generalize x.toNat + j' = z at *
   go_wp2
   go_ret
   exact HF.out
  ·rw [hj] at hj'
   cases hj'
 ·have F := hid (endOf_no ht (next_trans bel bb))
  clear bb bel ht
  go_wp2
  go_ret
  exact F.out
end endAt
end
section
namespace sym
open Go.RowKit base ints sig term termOk marks app
end sym
end
section
open Go.Lib (hid)
namespace curO
open Go.RowKit base ints sig term arity cursor sub
set_option maxRecDepth 100000
structure CurO (w : World) (p o : Nat) (ty : TypeId) (cs : Array Value) (A : Option Addr) (n c : Nat) (A' : Option Addr) (m c' : Nat) (sg t : List Int) (k : Nat) : Prop where
 row : Row w p ty (cs.setIfInBounds (o + 2) (.int .i64 k))
 h0 : cs[o]? = some (.slice A n c)
 h1 : cs[o + 1]? = some (.slice A' m c')
 sz : o + 2 < cs.size
 s : Seg w p A n sg
 s' : Seg w p A' m t
 le : k ≤ m
 hn : n ≤ 1048576
 hm : m ≤ 1048576
 ars : Arities sg
section
variable {w w' : World} {p o : Nat} {ty : TypeId} {cs : Array Value} {A : Option Addr} {n c : Nat} {A' : Option Addr} {m c' : Nat} {sg t : List Int} {k : Nat}
theorem CurO.c0 (h : CurO w p o ty cs A n c A' m c' sg t k) : w.cell? ⟨p, o, none⟩ = some (.slice A n c) := by
 rw [h.row.cell o, Array.getElem?_setIfInBounds_ne (by omega)]; exact h.h0
theorem CurO.c1 (h : CurO w p o ty cs A n c A' m c' sg t k) : w.cell? ⟨p, o + 1, none⟩ = some (.slice A' m c') := by
 rw [h.row.cell (o + 1), Array.getElem?_setIfInBounds_ne (by omega)]; exact h.h1
theorem CurO.c2 (h : CurO w p o ty cs A n c A' m c' sg t k) : w.cell? ⟨p, o + 2, none⟩ = some (.int .i64 k) := by
 rw [h.row.cell (o + 2), Array.getElem?_setIfInBounds_self_of_lt h.sz]
theorem CurO.below (h : CurO w p o ty cs A n c A' m c' sg t k) (hb : Below w.heap.size w w') : CurO w' p o ty cs A n c A' m c' sg t k :=
 have hp := h.row.lt
 ⟨h.row.next hb, h.h0, h.h1, h.sz, h.s.below (hb.mono (Nat.le_of_lt hp)), h.s'.below (hb.mono (Nat.le_of_lt hp)), h.le, h.hn, h.hm, h.ars⟩
theorem CurO.drewN (h : CurO w p o ty cs A n c A' m c' sg t k) (d : Nat) : CurO (w.drewN d) p o ty cs A n c A' m c' sg t k :=
 ⟨h.row, h.h0, h.h1, h.sz, h.s, h.s', h.le, h.hn, h.hm, h.ars⟩
theorem CurO.step (h : CurO w p o ty cs A n c A' m c' sg t k) (hk : k < m) (d : Nat) :
  CurO ((w.drewN d).setCell ⟨p, o + 2, none⟩ (.int .i64 ((k : Int) + 1))) p o ty cs A n c A' m c' sg t (k + 1) := by
 have r := (h.row.drewN d).put (o + 2) (.int .i64 ((k : Int) + 1))
 rw [Array.setIfInBounds_setIfInBounds] at r
 refine ⟨?_, h.h0, h.h1, h.sz, (h.s.drewN d).put (p := ⟨p, o + 2, none⟩) (Nat.le_refl _) _, (h.s'.drewN d).put (p := ⟨p, o + 2, none⟩) (Nat.le_refl _) _, hk, h.hn, h.hm, h.ars⟩
 have e : (.int .i64 ((k : Int) + 1) : Value) = .int .i64 ((k + 1 : Nat) : Int) := by simp
 rw [← e]
 exact r
end
def NextO (w : World) (p o : Nat) (ty : TypeId) (cs : Array Value) (A : Option Addr) (n c : Nat) (A' : Option Addr) (m c' : Nat) (sg t : List Int) (k : Nat) (e : Ending) (w' : World) : Prop :=
 w.grownBy w' (some p) ∧ ((k < m ∧ e = .returned (.int .i64 (ar sg (t.getD k 0))) ∧ CurO w' p o ty cs A n c A' m c' sg t (k + 1)) ∨ (k = m ∧ e = .returned (.int .i64 (-1)) ∧ CurO w' p o ty cs A n c A' m c' sg t k))
set_option maxHeartbeats 1000000 in
theorem nextO (p o : Nat) (ty : TypeId) (cs : Array Value) (A : Option Addr) (n c : Nat) (A' : Option Addr) (m c' : Nat) (sg t : List Int) (k : Nat) (w : World) (h : CurO w p o ty cs A n c A' m c' sg t k) :
  Calls Tryz.prog 140 #[.pointer (some ⟨p, o, none⟩)] w (NextO w p o ty cs A n c A' m c' sg t k) := by
 have hk := h.le
 have hm := h.hm
 have c0 := h.c0
 have c1 := h.c1
 have c2 := h.c2
 have f2 : w.frozen? ⟨p, o + 2, none⟩ = false := h.row.free (o + 2)
 by_cases hlt : k < m
 ·obtain ⟨b, off, x, rfl, hbb, hx, ex⟩ := h.s'.spot hlt
  have i0 : (0 : Int) ≤ (k : Int) := by omega
  have i1 : (k : Int) < (m : Int) := by omega
  have HS := hid (fun d => h.step hlt d)
  have HG := hid (fun d => grown_put (grown_drewN (World.grownBy.refl w (some p)) d) (o + 2) (.int .i64 ((k : Int) + 1)))
  clear h
  go_enter Tryz.func140, Tryz.ntmps140
  go_wp2
  go_quiet (fail)
  go_wp2
  go_quiet (fail)
  go_wp2_with fail
  refine (implArity A n c sg x _ ((HS.out _).s.more (Nat.le_of_lt (HS.out _).row.lt)) (HS.out 0).hn).mono ?_
  rintro e w' ⟨rfl, bb⟩
  have F : NextO w p o ty cs A n c (some ⟨b, off, none⟩) m c' sg t k (.returned (.int .i64 (ar sg x))) w' :=
   ⟨grown_trans (HG.out _) (grown_below bb _), .inl ⟨hlt, by rw [ex.out], (HS.out _).below bb⟩⟩
  have HF := hid F
  clear F HG HS bb ex
  go_wp2
  go_ret
  exact HF.out
 ·have e : k = m := by omega
  have HS := hid (fun d => h.drewN d)
  have HE := hid e
  have i2 : decide (m ≤ k) = true := by simp; omega
  clear e h
  go_enter Tryz.func140, Tryz.ntmps140
  go_wp2
  go_quiet (fail)
  go_wp2
  go_ret
  exact ⟨grown_drewN (World.grownBy.refl w (some p)) _, .inr ⟨HE.out, rfl, HS.out _⟩⟩
def PassO (w : World) (p o : Nat) (ty : TypeId) (cs : Array Value) (A : Option Addr) (n c : Nat) (A' : Option Addr) (m c' : Nat) (sg t : List Int) (k : Nat) (e : Ending) (w' : World) : Prop :=
 w.grownBy w' (some p) ∧ ((∃ j, scan sg 1 (t.drop k) = some j ∧ e = .returned (.bool true) ∧ CurO w' p o ty cs A n c A' m c' sg t (k + j)) ∨ (scan sg 1 (t.drop k) = none ∧ e = .returned (.bool false) ∧ ∃ k', CurO w' p o ty cs A n c A' m c' sg t k'))
def HeadO (w : World) (p o : Nat) (ty : TypeId) (cs : Array Value) (A : Option Addr) (n c : Nat) (A' : Option Addr) (m c' : Nat) (sg t : List Int) (a : Nat) (q : Value) (wr : World) : Prop :=
 ∃ k q' : Nat, q = .int .i64 q' ∧ q' ≤ 3 * k + 1 ∧ Scn sg t a k q' ∧ CurO wr p o ty cs A n c A' m c' sg t k ∧ w.grownBy wr (some p)
def atO (p o : Nat) (wr : World) : Nat := (intOf ((wr.cell? ⟨p, o + 2, none⟩).getD undef)).toNat
theorem atO_cur {w : World} {p o : Nat} {ty : TypeId} {cs : Array Value} {A : Option Addr} {n c : Nat} {A' : Option Addr} {m c' : Nat} {sg t : List Int} {k : Nat} (h : CurO w p o ty cs A n c A' m c' sg t k) : atO p o w = k := by
 unfold atO
 rw [h.c2]
 simp [intOf]
set_option maxHeartbeats 1000000 in
theorem passO (p o : Nat) (ty : TypeId) (cs : Array Value) (A : Option Addr) (n c : Nat) (A' : Option Addr) (m c' : Nat) (sg t : List Int) (a : Nat) (w : World) (h : CurO w p o ty cs A n c A' m c' sg t a) :
  Calls Tryz.prog 98 #[.pointer (some ⟨p, o, none⟩)] w (PassO w p o ty cs A n c A' m c' sg t a) := by
 have hm := h.hm
 have HL := hid h.s'.1
 have hs := h.ars
 have H0 : HeadO w p o ty cs A n c A' m c' sg t a (.int .i64 1) w := ⟨a, 1, rfl, by omega, Scn.start (by rw [HL.out]; exact h.le), h, World.grownBy.refl _ _⟩
 have HH := hid H0
 clear H0 h
 go_enter Tryz.func98, Tryz.ntmps98
 go_wp2_with fail
 go_loopw [3, 4] (fun q _ wr => HeadO w p o ty cs A n c A' m c' sg t a q wr) (fun _ _ wr => m - atO p o wr)
 case atStart => exact HH.out
 case round =>
  obtain ⟨k, q, rfl, hq, hl, hc, hg⟩ := hrel
  clear HH
  have hk := hc.le
  by_cases h0 : q = 0
  ·subst h0
   have S : PassO w p o ty cs A n c A' m c' sg t a (.returned (.bool true)) wr := ⟨hg, .inl ⟨k - a, hl.done, rfl, by rw [show a + (k - a) = k by have := hl.1; omega]; exact hc⟩⟩
   have HS := hid S
   clear S hl hc hg
   go_wp2
   go_ret
   exact HS.out
  ·obtain ⟨q1, rfl⟩ : ∃ q1, q = q1 + 1 := ⟨q - 1, by omega⟩
   have hq0 : (0 : Int) < ((q1 + 1 : Nat) : Int) := by omega
   go_wp2_with fail
   refine (nextO p o ty cs A n c A' m c' sg t k wr hc).mono ?_
   rintro e w2 ⟨g2, ⟨hlt, rfl, hc2⟩ | ⟨hk', rfl, hc2⟩⟩
   ·obtain ⟨z, hz⟩ : ∃ z, ar sg (t.getD k 0) = z := ⟨_, rfl⟩
    have hzb := ar_bd hs (t.getD k 0)
    rw [hz] at hzb ⊢
    by_cases hneg : z < 0
    ·have S : PassO w p o ty cs A n c A' m c' sg t a (.returned (.bool false)) w2 := ⟨grown_trans hg g2, .inr ⟨hl.bad (by rw [HL.out]; exact hlt) rfl (by rw [hz]; exact hneg), rfl, _, hc2⟩⟩
     have HS := hid S
     clear S hl hc hg hc2 g2 hz
     go_wp2
     go_ret
     exact HS.out
    ·have hl' := hl.step (by rw [HL.out]; exact hlt) rfl (by rw [hz]; exact hneg)
     rw [hz] at hl'
     have S : HeadO w p o ty cs A n c A' m c' sg t a (.int .i64 ((q1 : Int) + z)) w2 := ⟨k + 1, q1 + z.toNat, by congr 1; omega, by omega, hl', hc2, grown_trans hg g2⟩
     have HS := hid S
     have M := hid (show m - atO p o w2 < m - atO p o wr by rw [atO_cur hc, atO_cur hc2]; omega)
     have hz1 := hzb.1
     have hz2 := hzb.2
     have hq2 : (q1 : Int) ≤ 3145728 := by omega
     clear S hl hc hg hc2 g2 hz hl' hzb
     go_wp2
     go_roundw
     case rel => rw [show (q1 : Int) + 1 + z - 1 = (q1 : Int) + z by omega]; exact HS.out
     case measure => exact M.out
   ·have S : PassO w p o ty cs A n c A' m c' sg t a (.returned (.bool false)) w2 := ⟨grown_trans hg g2, .inr ⟨hl.out (by rw [HL.out]; omega), rfl, _, hc2⟩⟩
    have HS := hid S
    clear S hl hc hg hc2 g2
    go_wp2
    go_ret
    exact HS.out
def PartO (w : World) (p o : Nat) (ty : TypeId) (cs : Array Value) (A : Option Addr) (n c : Nat) (b off m c' : Nat) (sg t : List Int) (k j : Nat) (e : Ending) (w' : World) : Prop :=
 e = .returned (.slice (some ⟨b, off + k, none⟩) j (c' - k)) ∧ w.grownBy w' (some p) ∧ CurO w' p o ty cs A n c (some ⟨b, off, none⟩) m c' sg t (k + j)
set_option maxHeartbeats 1000000 in
theorem partO (p o : Nat) (ty : TypeId) (cs : Array Value) (A : Option Addr) (n c b off m c' : Nat) (sg t : List Int) (k j : Nat) (w : World) (h : CurO w p o ty cs A n c (some ⟨b, off, none⟩) m c' sg t k) (hj : scan sg 1 (t.drop k) = some j) (hkj : k + j ≤ m) (h1 : 1 ≤ j) (hmc : m ≤ c') (hc : c' ≤ 9223372036854775807) :
  Calls Tryz.prog 65 #[.pointer (some ⟨p, o, none⟩)] w (PartO w p o ty cs A n c b off m c' sg t k j) := by
 have hm := h.hm
 have c2 := h.c2
 have L := hid (passO p o ty cs A n c (some ⟨b, off, none⟩) m c' sg t k w h)
 have HJ := hid hj
 have a1 : (k : Int) ≤ (k : Int) + (j : Int) := by omega
 have a2 : (k : Int) + (j : Int) ≤ (c' : Int) := by omega
 have a3 : ¬ c' = k := by omega
 have a4 : k + j ≤ c' := by omega
 have a5 : k + j - k = j := by omega
 clear hj h
 go_enter Tryz.func65, Tryz.ntmps65
 go_wp2_with fail
 refine L.out.mono ?_
 rintro e w1 ⟨hg, ⟨j', hj', rfl, hc1⟩ | ⟨hj', rfl, -⟩⟩
 ·obtain rfl : j = j' := by rw [HJ.out] at hj'; injection hj'
  have d1 := hc1.c1
  have d2 := hc1.c2
  have HF := hid (fun d => (show PartO w p o ty cs A n c b off m c' sg t k j (.returned (.slice (some ⟨b, off + k, none⟩) (k + j - k) (c' - k))) (w1.drewN d) from ⟨by rw [a5], grown_drewN hg d, hc1.drewN d⟩))
  clear hc1 hg hj' L
  go_wp2
  go_quiet (fail)
  go_wp2
  go_ret
  exact HF.out _
 ·rw [HJ.out] at hj'
  cases hj'
theorem ofCur {w : World} {p : Nat} {A : Option Addr} {n c : Nat} {A' : Option Addr} {m c' : Nat} {sg t : List Int} {k : Nat} (h : Cur w p A n c A' m c' sg t k) (u : Value) :
  CurO w p 0 133 #[.slice A n c, .slice A' m c', u] A n c A' m c' sg t k :=
 ⟨by have r := h.row; simpa using r, by simp, by simp, by simp, h.s, h.s', h.le, h.hn, h.hm, h.ars⟩
theorem toCur {w : World} {p : Nat} {A : Option Addr} {n c : Nat} {A' : Option Addr} {m c' : Nat} {sg t : List Int} {k : Nat} {u : Value} (h : CurO w p 0 133 #[.slice A n c, .slice A' m c', u] A n c A' m c' sg t k) :
  Cur w p A n c A' m c' sg t k :=
 ⟨by have r := h.row; simpa using r, h.s, h.s', h.le, h.hn, h.hm, h.ars⟩
theorem partC (p : Nat) (A : Option Addr) (n c b off m c' : Nat) (sg t : List Int) (k j : Nat) (w : World) (h : Cur w p A n c (some ⟨b, off, none⟩) m c' sg t k) (hj : scan sg 1 (t.drop k) = some j) (hkj : k + j ≤ m) (h1 : 1 ≤ j) (hmc : m ≤ c') (hc : c' ≤ 9223372036854775807) :
  Calls Tryz.prog 65 #[.pointer (some ⟨p, 0, none⟩)] w fun e w' => e = .returned (.slice (some ⟨b, off + k, none⟩) j (c' - k)) ∧ w.grownBy w' (some p) ∧ Cur w' p A n c (some ⟨b, off, none⟩) m c' sg t (k + j) :=
 (partO p 0 _ _ A n c b off m c' sg t k j w (ofCur h undef) hj hkj h1 hmc hc).mono fun _ _ ⟨e1, e2, e3⟩ => ⟨e1, e2, toCur e3⟩
end curO
end
section
namespace sub
open Go.RowKit base ints sig term arity endOf cursor termOk endAt marks app sym curO
def subL (sg t : List Int) (a : Nat) : List Int := (t.drop a).take (len1 sg t a)
set_option maxHeartbeats 1000000 in
theorem l1Sub (A A' : Option Addr) (n c m c' : Nat) (sg t : List Int) (a j : Nat) (w : World) (h : Seg w w.heap.size A n sg) (h' : Seg w w.heap.size A' m t) (hn : n ≤ 1048576) (hm : m ≤ 1048576) (hc' : m ≤ c') (hc2 : c' ≤ 9223372036854775807)
  (hs : Arities sg) (ha : a < m) (hj : scan sg 1 (t.drop a) = some j) (hj1 : 1 ≤ j) (hj2 : a + j ≤ m) :
  Calls Tryz.prog 94 #[.agg #[.slice A n c], .slice A' m c', .int .i64 (a : Int)] w (AnsList w (subL sg t a)) := by
 obtain ⟨b, off, x, rfl, -, -, -⟩ := h'.spot ha
 obtain ⟨W, hW⟩ : ∃ W, W = w.alloc (.cells #[.slice A n c] 26) := ⟨_, rfl⟩
 have bel : Below w.heap.size w W := by rw [hW]; exact (Below.refl _ _).alloc (Nat.le_refl _) _
 have zW : w.heap.size < W.heap.size := by rw [hW]; simp
 replace h := (h.below bel).more bel.size
 replace h' := (h'.below bel).more bel.size
 have HW := Lib.hid hW
 clear hW
 have L := Lib.hid (specEnd A _ n c m c' sg t (a : Int) W h h' hn hm hs (by omega) (by omega))
 have HE := Lib.hid (endI_some hj)
 have HL := Lib.hid (len1_eq hj)
 have hcut := Seg.cut (a := a) (j := j) h' hj2
 clear h h' hj hs
 have i0 : (0 : Int) ≤ (a : Int) := by omega
 have i1 : (a : Int) ≤ (a : Int) + (j : Int) := by omega
 have i2 : (a : Int) + (j : Int) ≤ (c' : Int) := by omega
 have i3 : ¬ c' = a := by omega
 go_enter Tryz.func94, Tryz.ntmps94
 go_wp2_with fail
 rw [← HW.out]
 refine L.out.mono ?_
 rintro e w1 ⟨he, bb⟩
 rw [Int.toNat_natCast, HE.out] at he
 subst he
 replace hcut := hcut.next bb
 replace bel := next_trans bel bb
 clear bb L
 go_wp2_with fail
 refine (copyInts _ j _ _ w1 hcut (fun e => by cases e) (by omega)).mono ?_
 rintro e w2 ⟨A2, n2, c2, rfl, o2, bb⟩
 have F : AnsList w (subL sg t a) (.returned (.slice A2 n2 c2)) w2 := ⟨A2, n2, c2, rfl, by unfold subL; rw [HL.out]; exact Own.lower o2 bel.size, next_trans bel bb⟩
 have HF := Lib.hid F
 clear F o2 bb bel hcut
 go_wp2
 go_ret
 exact HF.out
end sub
end
section
namespace drawTwo
open Go.RowKit base ints sig term cursor termOk marks app sym dice drawSig drawTerm drawAny
set_option maxRecDepth 100000
def AnsNew (w : World) (A : Option Addr) (n c : Nat) (e : Ending) (w' : World) : Prop := ∃ p, e = .returned (.pointer (some ⟨p, 0, none⟩)) ∧ w.heap.size ≤ p ∧ Dice w' p A n c ∧ Below w.heap.size w w'
set_option maxHeartbeats 1000000 in
theorem new_ (A : Option Addr) (n c : Nat) (w : World) (h : SegB w w.heap.size A n) (hn : n ≤ 4096) :
  Calls Tryz.prog 33 #[.slice A n c] w (AnsNew w A n c) := by
 go_enter Tryz.func33, Tryz.ntmps33
 go_wp2_with fail
 go_loop [3, 4] (fun hh i => ∃ (k : Nat) (h0 : Int), k ≤ n ∧ i = .int .i64 k ∧ hh = .int .i64 h0) (fun _ i => n - (intOf i).toNat)
 case atStart => exact ⟨0, _, Nat.zero_le _, rfl, rfl⟩
 case round =>
  obtain ⟨k, h0, hk, rfl, rfl⟩ := hrel
  by_cases hlt : k < n
  ·obtain ⟨b, off, rfl, hb, hc⟩ := h (by omega)
   obtain ⟨y, hy0, hy1, hy⟩ := hc k hlt
   clear hc h
   go_wp2
   go_round
   case rel => exact ⟨k + 1, _, hlt, by go_num, rfl⟩
   case measure => simp [intOf]; omega
  ·have F : AnsNew w A n c (.returned (.pointer (some ⟨w.heap.size, 0, none⟩))) (w.alloc (.cells #[.slice A n c, .int .i64 0, .int .i64 h0] 118)) :=
    ⟨_, rfl, Nat.le_refl _, ⟨0, h0, Row.new _ _ _, Nat.zero_le _, h.keep (fun q hq => World.cell?_alloc_lt w _ q hq), hn⟩, (Below.refl _ _).alloc (Nat.le_refl _) _⟩
   have HF := Lib.hid F
   clear F h
   go_wp2
   go_ret
   exact HF.out
end drawTwo
end
section
namespace drawPair
open Go.RowKit base ints sig term cursor termOk marks app sym dice drawSig drawTerm drawAny drawTwo
set_option maxRecDepth 100000
theorem Rd.other {w : World} {p B N : Nat} {O : Option Addr} {on : Nat} {xs : List Int} {a : Option Addr} {l k : Nat} (h : Rd w p B O on xs) (hN : w.cell? ⟨N, 0, none⟩ = some (.slice a l k)) (u : Value) : Rd (w.setCell ⟨N, 0, none⟩ u) p B O on xs :=
 ⟨h.1, fun hn => by
  obtain ⟨b, off, e, hb, hne, hc⟩ := h.2 hn
  refine ⟨b, off, e, hb, hne, fun j hj => ?_⟩
  rw [World.cell?_setCell_other w _ _ _ (fun e => by rw [e] at hN; rw [hc j hj] at hN; cases hN)]
  exact hc j hj⟩
end drawPair
end
section
namespace drawOne
open Go.RowKit base ints sig term cursor termOk marks app sym dice drawSig drawTerm drawAny drawPair
theorem grown_set {a b : World} {r : Option Nat} (h : a.grownBy b r) {q : Nat} (hq : a.heap.size ≤ q) (i : Nat) (u : Value) : a.grownBy (b.setCell ⟨q, i, none⟩ u) r :=
 ⟨h.os, h.tape, h.output, by simpa [World.setCell] using h.size, fun k hk hn => (Below.heap_setCell _ _ _ _ (by show k ≠ q; omega)).trans (h.block k hk hn)⟩
end drawOne
end
section
namespace plainMath
open fillMath
def strip : List (List Int) → List (List Int)
 | [] => []
 | x :: r => if strip r = [] then (if x = [] then [] else [x]) else x :: strip r
theorem strip_snoc : ∀ (l : List (List Int)) (x : List Int), strip (l ++ [x]) = if x = [] then strip l else l ++ [x]
 | [], x => by
  show strip [x] = _
  by_cases h : x = [] <;> simp [strip, h]
 | y :: r, x => by
  rw [List.cons_append, strip, strip_snoc r x]
  by_cases h : x = []
  ·simp [h, strip]
  ·simp [h]
theorem strip_len : ∀ l : List (List Int), (strip l).length ≤ l.length
 | [] => by simp [strip]
 | x :: r => by
  have h := strip_len r
  rw [strip]
  split
  ·split <;> simp
  ·simp; omega
theorem strip_pad : ∀ l : List (List Int), strip l ++ List.replicate (l.length - (strip l).length) [] = l
 | [] => by simp [strip]
 | x :: r => by
  have h := strip_pad r
  rw [strip]
  by_cases h1 : strip r = []
  ·rw [h1] at h
   rw [if_pos h1]
   have h2 : List.replicate r.length ([] : List Int) = r := by simpa using h
   by_cases h3 : x = []
   ·rw [if_pos h3]
    subst h3
    simp only [List.length_cons, List.length_nil, Nat.sub_zero, List.nil_append]
    rw [List.replicate_succ, h2]
   ·rw [if_neg h3]
    simp only [List.length_cons, List.length_nil]
    rw [show r.length + 1 - (0 + 1) = r.length by omega, h2]
    rfl
  ·rw [if_neg h1]
   simp only [List.length_cons, List.cons_append]
   rw [show r.length + 1 - ((strip r).length + 1) = r.length - (strip r).length by omega, h]
theorem strip_last {l : List (List Int)} {q : Nat} (hq : q < l.length) (h : l.getD q [] ≠ []) : strip (l.take (q + 1)) = l.take (q + 1) := by
 have e : l.take (q + 1) = l.take q ++ [l.getD q []] := by
  rw [List.take_succ_eq_append_getElem hq]
  simp [List.getD, hq]
 rw [e, strip_snoc, if_neg h]
theorem strip_drop {l : List (List Int)} {q : Nat} (hq : q < l.length) (h : l.getD q [] = []) : strip (l.take (q + 1)) = strip (l.take q) := by
 have e : l.take (q + 1) = l.take q ++ [l.getD q []] := by
  rw [List.take_succ_eq_append_getElem hq]
  simp [List.getD, hq]
 rw [e, strip_snoc, if_pos h]
def bare (L : Nat → List Int) (i : Nat) : List Int := if L i = vt i then [] else L i
def rowsL (L : Nat → List Int) (m : Nat) : List (List Int) := (List.range m).map (bare L)
def plainL (L : Nat → List Int) (m : Nat) : List (List Int) := strip (rowsL L m)
theorem rows_len (L : Nat → List Int) (m : Nat) : (rowsL L m).length = m := by simp [rowsL]
theorem rows_get {L : Nat → List Int} {m i : Nat} (h : i < m) : (rowsL L m).getD i [] = bare L i := by simp [rowsL, List.getD, h]
theorem rows_succ (L : Nat → List Int) (m : Nat) : rowsL L (m + 1) = rowsL L m ++ [bare L m] := by simp [rowsL, List.range_succ]
theorem plain_len (L : Nat → List Int) (m : Nat) : (plainL L m).length ≤ m := by have := strip_len (rowsL L m); rw [rows_len] at this; exact this
theorem plain_pad (L : Nat → List Int) (m : Nat) : plainL L m ++ List.replicate (m - (plainL L m).length) [] = rowsL L m := by
 have := strip_pad (rowsL L m)
 rw [rows_len] at this
 exact this
theorem plain_get (L : Nat → List Int) (m i : Nat) : (plainL L m).getD i [] = (rowsL L m).getD i [] := by
 have h := plain_pad L m
 rw [← h]
 by_cases hi : i < (plainL L m).length
 ·simp [List.getD, List.getElem?_append_left hi]
 ·have e1 : (plainL L m)[i]? = none := List.getElem?_eq_none (by omega)
  simp only [List.getD, e1, Option.getD_none]
  rw [List.getElem?_append_right (by omega)]
  by_cases h2 : i - (plainL L m).length < m - (plainL L m).length
  ·simp [List.getElem?_replicate, h2]
  ·simp [List.getElem?_replicate, h2]
theorem rows_each {L : Nat → List Int} {m M : Nat} (hM : ∀ i, (L i).length ≤ M) (i : Nat) : ((rowsL L m).getD i []).length ≤ M := by
 by_cases h : i < m
 ·rw [rows_get h]
  unfold bare
  split
  ·simp
  ·exact hM i
 ·rw [show (rowsL L m).getD i [] = [] by simp [List.getD, rows_len, h]]
  simp
theorem plain_each {L : Nat → List Int} {m M : Nat} (hM : ∀ i, (L i).length ≤ M) (i : Nat) : ((plainL L m).getD i []).length ≤ M := by rw [plain_get]; exact rows_each hM i
end plainMath
end
section
open Go.Lib (hid)
namespace look
open Go.RowKit base ints marks app sym segs fillMath
set_option maxRecDepth 100000
theorem varTerm (i : Int) (w : World) (h0 : 0 ≤ i) (h1 : i ≤ 1000) :
  Calls Tryz.prog 120 #[.int .i64 i] w (AnsList w [-1 - i]) := by
 have F : AnsList w [-1 - i] (.returned (.slice (some ⟨w.heap.size, 0, none⟩) 1 1)) (w.alloc (.cells #[.int .i64 (-1 - i)] 2)) :=
  ⟨_, 1, 1, rfl, Own.of_row (Row.new _ _ _) rfl rfl (Nat.le_refl _) (by omega) (Nat.le_refl _) (fun j hj => by
   have e : j = 0 := by omega
   subst e
   rfl), (Below.refl _ _).alloc (Nat.le_refl _) _⟩
 have HF := hid F
 clear F
 go_enter Tryz.func120, Tryz.ntmps120
 go_wp2
 go_ret
 exact HF.out
def AnsLook (B : Nat) (w : World) (ys : List Int) (e : Ending) (w' : World) : Prop := ∃ A n c, e = .returned (.slice A n c) ∧ Seg w' w'.heap.size A n ys ∧ Cap A n c ∧ (∀ k, blk A = some k → k < B ∨ w.heap.size ≤ k) ∧ Below w.heap.size w w'
def Looks (g : Nat) (lb : Array Value) (w : World) (L : Nat → List Int) (N : Nat) : Prop :=
 ∀ (W : World) (i : Nat), Below w.heap.size w W → i < N → Calls Tryz.prog g (#[.int .i64 (i : Int)] ++ lb) W (AnsLook w.heap.size W (L i))
theorem Looks.next {g : Nat} {lb : Array Value} {w w' : World} {L : Nat → List Int} {N : Nat} (h : Looks g lb w L N) (hb : Below w.heap.size w w') : Looks g lb w' L N :=
 fun W i hW hi => (h W i (next_trans hb hW) hi).mono fun _ _ ⟨A, n, c, he, h1, h2, h3, h4⟩ => ⟨A, n, c, he, h1, h2, fun k hk => by have := h3 k hk; have := hb.size; omega, h4⟩
theorem own_cap {w : World} {base : Nat} {A : Option Addr} {n c : Nat} {xs : List Int} (h : Own w base (.slice A n c) xs) : Cap A n c := by
 have hl := Own.len h
 rcases own_form (n := n) (vs := xs.map (Value.int .i64)) (by rw [hl]; rw [hl] at h; exact h) with ⟨rfl, h1, rfl, _⟩ | ⟨g, cur, rfl, _, _, h1, h2, h3, _⟩
 ·exact ⟨by omega, by omega, fun _ => rfl⟩
 ·exact ⟨h1, h3, fun e => by cases e⟩
theorem look_new {w w' : World} {B : Nat} {ys : List Int} {A : Option Addr} {n c : Nat} (ho : Own w' w.heap.size (.slice A n c) ys) (hb : Below w.heap.size w w') : AnsLook B w ys (.returned (.slice A n c)) w' :=
 ⟨A, n, c, rfl, Own.seg ho, own_cap ho, fun k hk => .inr (World.ownsRow.lt ho k (by cases A with | none => cases hk | some a => exact hk)).1, hb⟩
def HeadFill (w : World) (m : Nat) (t : List Int) (L : Nat → List Int) (out i : Value) (wr : World) : Prop :=
 ∃ (k : Nat) (O : Option Addr) (on oc : Nat), k ≤ m ∧ i = .int .i64 k ∧ out = .slice O on oc ∧ Own wr w.heap.size (.slice O on oc) (fillL L (t.take k)) ∧ Below w.heap.size w wr
theorem fill_bound {L : Nat → List Int} {t : List Int} {m k : Nat} (hM : ∀ i, (L i).length ≤ 4096) (hm : t.length = m) (h60 : m ≤ 60) : (fillL L (t.take k)).length ≤ 245760 := by
 have h := fill_len (M := 4096) (by omega) hM (t.take k)
 have h2 : (t.take k).length ≤ 60 := by simp; omega
 have h3 : (t.take k).length * 4096 ≤ 60 * 4096 := Nat.mul_le_mul_right _ h2
 omega
set_option maxHeartbeats 2000000 in
theorem fill (g : Nat) (lb : Array Value) (eg : ∀ args w, (callFunc g args).run Tryz.prog w = .ok (.enter g args) w) (A : Option Addr) (m c : Nat) (t : List Int) (L : Nat → List Int) (w : World)
  (hL : Looks g lb w L 24) (h : Seg w w.heap.size A m t) (hm : m ≤ 60) (hv : ∀ x ∈ t, -24 ≤ x) (hM : ∀ i, (L i).length ≤ 4096) :
  Calls Tryz.prog 71 #[.func (.func g) #[] lb, .slice A m c] w (AnsList w (fillL L t)) := by
 have HL := hid h.1
 have HV := hid hv
 have HM := hid hM
 have HK := hid hL
 have S0 : HeadFill w m t L (.slice none 0 0) (.int .i64 0) w := ⟨0, _, _, _, Nat.zero_le _, rfl, rfl, by simpa [fillL] using Own.nil w w.heap.size, Below.refl _ _⟩
 have HS0 := hid S0
 clear S0 hv hM hL
 go_enter Tryz.func71, Tryz.ntmps71
 go_wp2
 go_loopw [5, 10] (fun out i wr => HeadFill w m t L out i wr) (fun _ i _ => m - (intOf i).toNat)
 case atStart => exact HS0.out
 case round =>
  obtain ⟨k, O, on, oc, hk, rfl, rfl, ho, hb⟩ := hrel
  clear HS0
  have hon : on ≤ 245760 := by rw [Own.len ho]; exact fill_bound HM.out HL.out hm
  by_cases hlt : k < m
  ·obtain ⟨b, off, x, rfl, hbb, hx, ex⟩ := h.spot hlt
   have hx1 : wr.cell? ⟨b, off + k, none⟩ = some (.int .i64 x) := (hb.cell (p := ⟨b, off + k, none⟩) hbb).trans hx
   have hmem : x ∈ t := by
    have hkl : k < t.length := by rw [HL.out]; exact hlt
    have := ex.out
    rw [← this]
    simp [List.getD, hkl]
   have hx24 : -24 ≤ x := HV.out x hmem
   have E := hid (fill_take (L := L) (t := t) (k := k) (by rw [HL.out]; exact hlt) ex.out)
   have hsz := hb.size
   clear hmem hx h ex
   by_cases hpos : 0 ≤ x
   ·have R := hid (rep_sym (L := L) hpos)
    go_wp2_with (at_builtin; refine app1 rfl _ _ rfl w.heap.size O on oc (fillL L (t.take k)) rfl (Own.alloc ho _) wr.heap.size 1 x rfl ((Row.new _ _ _).cell 0) (by omega) (by simp; omega) ?_; intro O' oc' w2 ho2 b2)
    have S : HeadFill w m t L (.slice O' (on + 1) oc') (.int .i64 ((k : Int) + 1)) w2 := ⟨k + 1, O', on + 1, oc', hlt, by simp, rfl, by rw [E.out, R.out]; exact ho2, (hb.alloc hsz _).trans b2⟩
    replace S := hid S
    clear ho2 b2 ho hb R E
    go_wp2
    go_roundw
    case rel => exact S.out
    case measure => simp [intOf]; omega
   ·have hneg : x < 0 := by omega
    have R := hid (rep_var (L := L) hneg)
    have hcall := HK.out wr (-1 - x).toNat hb (by omega)
    rw [show (((-1 - x).toNat : Nat) : Int) = -1 - x by omega] at hcall
    have hLM : (L (-1 - x).toNat).length ≤ 4096 := HM.out _
    generalize hys : L (-1 - x).toNat = ys at hcall R hLM
    replace hcall := hid hcall
    clear hys
    go_wp2_with (first
     | (go_at_fn g; refine hcall.out.mono ?_; rintro e w1 ⟨A', n', c', rfl, s', cap', -, bb⟩; have hn' : n' ≤ 4096 := (by rw [← s'.1]; exact hLM); have ho1 := ho.next bb; have hb1 := hb.trans (bb.mono hb.size))
     | (at_builtin; refine appAll rfl _ _ rfl w.heap.size O on oc (fillL L (t.take k)) rfl ho1 A' n' c' w1.heap.size ys rfl s' cap'.2.2 (by omega) (by omega) hb1.size ?_; intro O' oc' w2 ho2 b2))
    have S : HeadFill w m t L (.slice O' (on + n') oc') (.int .i64 ((k : Int) + 1)) w2 := ⟨k + 1, O', on + n', oc', hlt, by simp, rfl, by rw [E.out, R.out]; exact ho2, hb1.trans b2⟩
    replace S := hid S
    clear ho2 b2 ho hb R E ho1 hb1 s' cap' bb hcall
    go_wp2
    go_roundw
    case rel => exact S.out
    case measure => simp [intOf]; omega
  ·have F : AnsList w (fillL L t) (.returned (.slice O on oc)) wr := by
    rw [List.take_of_length_le (by rw [HL.out]; omega)] at ho
    exact ⟨O, on, oc, rfl, ho, hb⟩
   have HF := hid F
   clear F ho hb h
   go_wp2
   go_ret
   exact HF.out
end look
end
section
namespace plain
open Go.RowKit base ints cursor same marks app appAt sym sub segs segsHelp kinds fillMath Go.Proofs.YtmoidijngeijkaaGreat.look plainMath
set_option maxRecDepth 100000
theorem inn_own {w : World} {lo : Nat} {A : Option Addr} {n c : Nat} {xs : List Int} (h : Own w lo (.slice A n c) xs) : Inn w lo w.heap.size (.slice A n c) xs := by
 have hl := Own.len h
 subst hl
 exact ⟨A, c, rfl, h, fun k hk => (World.ownsRow.lt h k (by rw [blk_own]; exact hk)).2⟩
set_option maxHeartbeats 1000000 in
theorem appS1 {w : World} {ops : Array Oper} {rest : List Oper} {o : Oper} {a : Act} {Q : Exit → Act → World → Prop} (hgd : o.guard = none) (s x : Operand)
  (ho : o.op = .call { callee := .builtin .append, args := #[s, x], argTypes := #[49, 49] })
  (lo mid : Nat) (A : Option Addr) (n c : Nat) (xss : List (List Int)) (hs : a.eval s = .slice A n c) (hown : Owns w lo mid A n c xss)
  (g c2 : Nat) (v : Value) (ys : List Int) (hx : a.eval x = .slice (some ⟨g, 0, none⟩) 1 c2) (hy : w.cell? ⟨g, 0, none⟩ = some v) (hv : Inn w mid w.heap.size v ys) (hn : n ≤ 1048576) (hlo : lo ≤ mid) (hmid : mid ≤ w.heap.size)
  (h : ∀ A' c' w', Owns w' lo w'.heap.size A' (n + 1) c' (xss ++ [ys]) → w.grownBy w' (blk A) → (blk A' = blk A ∨ blk A' = some w.heap.size) → Below lo w w' → wpList Tryz.prog ops Q rest (a.put o.dst (.slice A' (n + 1) c')) w') : wpList Tryz.prog ops Q (o :: rest) a w := by
 obtain ⟨i0, hi, hz0, hz1, hz2⟩ := info_parts info_list
 obtain ⟨hlen, ⟨vs, hr, hin, hap⟩, htop⟩ := hown
 have hvl : vs.length = n := by have := hr.1; omega
 have hvc : v.oneCell' = true := by obtain ⟨A1, c1, rfl, _⟩ := hv; rfl
 refine wpList_append_own_at w hgd s x 49 ho lo 24 i0 (.slice none 0 0) 1 24 Tryz.underlying49 hi hz0 hz1 hz2 rfl (by decide) (.slice A n c) n vs hs hr
  ⟨g, 0, none⟩ 1 c2 [v] hx rfl (fun j u hj => ?_) (fun u hu => ?_) (by unfold maxLen; omega) (by omega) (by omega) ?_
 ·match j, hj with
  | 0, hj => simp at hj; subst hj; simpa [Addr.add] using hy
 ·simp at hu; subst hu; exact hvc
 ·intro v' w' hown' hg _ hat
  have hform : ∃ A' c', v' = .slice A' (n + 1) c' := by
   rcases hown'.2 with ⟨_, h0⟩ | ⟨g', cap, cur, e, _⟩
   ·omega
   ·exact ⟨_, _, e⟩
  obtain ⟨A', c', rfl⟩ := hform
  rw [blk_own] at hg
  rw [blk_own, blk_own] at hat
  have hsz := hg.size
  have hne : ∀ {u : Value} {zs : List Int} {l2 h2 : Nat}, Inn w l2 h2 u zs → u.ownBlock = none ∨ u.ownBlock ≠ blk A := fun {u zs l2 h2} hu => by
   rcases own_form hr with ⟨rfl, _⟩ | ⟨g', cur, rfl, _, hrow, _⟩
   ·cases e : u.ownBlock with
    | none => exact .inl rfl
    | some z => exact .inr (fun e2 => by cases e2)
   ·exact .inr (hu.ne hrow)
  have hget : ∀ j, j < n → (vs ++ [v]).getD j undef = vs.getD j undef := fun j hj => by simp [List.getD, List.getElem?_append_left (show j < vs.length by omega)]
  have hget2 : ∀ j, j < n → (xss ++ [ys]).getD j [] = xss.getD j [] := fun j hj => by simp [List.getD, List.getElem?_append_left (show j < xss.length by omega)]
  have hnew : (vs ++ [v]).getD n undef = v := by simp [List.getD, ← hvl]
  have hnew2 : (xss ++ [ys]).getD n [] = ys := by simp [List.getD, ← hlen]
  refine h A' c' w' ⟨by simp [hlen], ⟨vs ++ [v], hown', fun j hj => ?_, fun i j k hij hj e1 e2 => ?_⟩, fun k hk => (World.ownsRow.lt hown' k (by rw [blk_own]; exact hk)).2⟩ hg hat ?_
  ·by_cases e : j = n
   ·subst e
    rw [hnew, hnew2]
    exact (hv.kept hg (hne hv)).wider (by omega) (by omega)
   ·rw [hget j (by omega), hget2 j (by omega)]
    exact ((hin j (by omega)).kept hg (hne (hin j (by omega)))).wider (Nat.le_refl _) (by omega)
  ·by_cases e : j = n
   ·subst e
    rw [hget i hij] at e1
    rw [hnew] at e2
    have h1 := ((hin i hij).blk k e1).2.1
    have h2 := (hv.blk k e2).1
    omega
   ·rw [hget i (by omega)] at e1
    rw [hget j (by omega)] at e2
    exact hap i j k hij (by omega) e1 e2
  ·refine (Below.refl lo w).grown hg (by omega) (fun k hk => ?_)
   exact (World.ownsRow.lt hr k (by rw [blk_own]; exact hk)).1
def AnsSubst (w : World) (xss : List (List Int)) (e : Ending) (w' : World) : Prop := ∃ A n c, e = .returned (.agg #[.slice A n c]) ∧ Owns w' w.heap.size w'.heap.size A n c xss ∧ Below w.heap.size w w'
end plain
end
section
namespace drawSub
open Go.RowKit base ints sig cursor marks app appAt sym segs segsHelp dice drawSig drawTerm drawAny drawPair drawOne
def Elem (w : World) (p : Nat) (r : Option Nat) (v : Value) (ys : List Int) : Prop :=
 ∃ A' n' c', v = .slice A' n' c' ∧ Rd w p w.heap.size A' n' ys ∧ Cap A' n' c' ∧ (0 < n' → blk A' ≠ r)
def OwnR (w : World) (p lo : Nat) (A : Option Addr) (n c : Nat) (xss : List (List Int)) : Prop :=
 xss.length = n ∧ ∃ vs : List Value, w.ownsRow lo 24 1 (.slice A n c) n vs ∧ ∀ j, j < n → Elem w p (blk A) (vs.getD j undef) (xss.getD j [])
section
variable {w w' : World} {p lo n c : Nat} {A : Option Addr} {xss : List (List Int)} {r : Option Nat} {v : Value} {ys : List Int}
theorem Elem.below (h : Elem w p r v ys) (hb : Below w.heap.size w w') : Elem w' p r v ys := by
 obtain ⟨A', n', c', e, hr, hc, hne⟩ := h
 exact ⟨A', n', c', e, (hr.below hb (Nat.le_refl _)).more hb.size, hc, hne⟩
theorem Elem.dice (h : Elem w p r v ys) (hg : w.grownBy w' (some p)) : Elem w' p r v ys := by
 obtain ⟨A', n', c', e, hr, hc, hne⟩ := h
 exact ⟨A', n', c', e, (hr.grown hg (Nat.le_refl _)).more hg.size, hc, hne⟩
theorem OwnR.nil (w : World) (p lo : Nat) : OwnR w p lo none 0 0 [] := ⟨rfl, [], ⟨rfl, .inl ⟨rfl, rfl⟩⟩, fun j hj => absurd hj (Nat.not_lt_zero _)⟩
theorem OwnR.below (h : OwnR w p lo A n c xss) (hb : Below w.heap.size w w') : OwnR w' p lo A n c xss := by
 obtain ⟨h1, vs, h2, h3⟩ := h
 exact ⟨h1, vs, World.ownsRow.kept h2 ⟨hb.os, hb.tape, hb.output, hb.size, fun k hk _ => hb.block k hk⟩ (row := none) (by cases (Value.slice A n c).ownBlock <;> simp), fun j hj => (h3 j hj).below hb⟩
theorem OwnR.dice (h : OwnR w p lo A n c xss) (hg : w.grownBy w' (some p)) (hp : p < lo) : OwnR w' p lo A n c xss := by
 obtain ⟨h1, vs, h2, h3⟩ := h
 refine ⟨h1, vs, World.ownsRow.kept h2 hg ?_, fun j hj => (h3 j hj).dice hg⟩
 cases e : (Value.slice A n c).ownBlock with
 | none => exact .inl rfl
 | some k =>
  refine .inr (fun e2 => ?_)
  have := (World.ownsRow.lt h2 k e).1
  injection e2 with e2
  omega
theorem OwnR.lower {lo' : Nat} (h : OwnR w p lo A n c xss) (h1 : lo' ≤ lo) : OwnR w p lo' A n c xss := by
 obtain ⟨h3, vs, ho, h4⟩ := h
 refine ⟨h3, vs, ⟨ho.1, ?_⟩, h4⟩
 rcases ho.2 with q2 | ⟨g, cap, cur, hv, hg, q⟩
 ·exact .inl q2
 ·exact .inr ⟨g, cap, cur, hv, by omega, q⟩
theorem OwnR.ge (h : OwnR w p lo A n c xss) : ∀ k, blk A = some k → lo ≤ k ∧ k < w.heap.size := fun k hk => by
 obtain ⟨_, vs, ho, _⟩ := h
 exact World.ownsRow.lt ho k (by rw [blk_own]; exact hk)
theorem OwnR.cap (h : OwnR w p lo A n c xss) : Cap A n c := by
 obtain ⟨_, vs, hr, _⟩ := h
 rcases own_form hr with ⟨rfl, h1, rfl, _⟩ | ⟨g, cur, rfl, _, _, h1, h2, h3, _⟩
 ·exact ⟨by omega, by omega, fun _ => rfl⟩
 ·exact ⟨h1, h3, fun e => by cases e⟩
theorem ownR_app {vs : List Value} {A' : Option Addr} {c' : Nat} (hl : xss.length = n) (hr : w.ownsRow lo 24 1 (.slice A n c) n vs) (hin : ∀ j, j < n → Elem w p (blk A) (vs.getD j undef) (xss.getD j [])) (hv : Elem w p (blk A) v ys)
  (hown' : w'.ownsRow lo 24 1 (.slice A' (n + 1) c') (n + 1) (vs ++ [v])) (hg : w.grownBy w' (blk A)) (hat : blk A' = blk A ∨ blk A' = some w.heap.size) : OwnR w' p lo A' (n + 1) c' (xss ++ [ys]) := by
 have hvl : vs.length = n := by have := hr.1; omega
 have keep : ∀ {u : Value} {zs : List Int}, Elem w p (blk A) u zs → Elem w' p (blk A') u zs := fun {u zs} hu => by
  obtain ⟨B, m, q, e, hrd, hc, hne⟩ := hu
  refine ⟨B, m, q, e, ⟨hrd.1, fun hm => ?_⟩, hc, fun hm => ?_⟩
  ·obtain ⟨b, off, e1, hb, hbp, hcell⟩ := hrd.2 hm
   have h1 := hne hm
   rw [e1] at h1
   refine ⟨b, off, e1, Nat.lt_of_lt_of_le hb hg.size, hbp, fun j hj => ?_⟩
   rw [World.cell?_of_block (a := ⟨b, off + j, none⟩) (hg.block b hb h1)]
   exact hcell j hj
  ·obtain ⟨b, off, e1, hb, hbp, _⟩ := hrd.2 hm
   rcases hat with e2 | e2
   ·rw [e2]; exact hne hm
   ·rw [e2, e1]
    intro e3
    have e4 : b = w.heap.size := by injection e3
    omega
 refine ⟨by simp [hl], vs ++ [v], hown', fun j hj => ?_⟩
 by_cases e : j = n
 ·subst e
  rw [show (vs ++ [v]).getD j undef = v by simp [List.getD, ← hvl], show (xss ++ [ys]).getD j [] = ys by simp [List.getD, ← hl]]
  exact keep hv
 ·rw [show (vs ++ [v]).getD j undef = vs.getD j undef by simp [List.getD, List.getElem?_append_left (show j < vs.length by omega)], show (xss ++ [ys]).getD j [] = xss.getD j [] by simp [List.getD, List.getElem?_append_left (show j < xss.length by omega)]]
  exact keep (hin j (by omega))
end
theorem appR1 {w : World} {ops : Array Oper} {rest : List Oper} {o : Oper} {a : Act} {Q : Exit → Act → World → Prop} (hgd : o.guard = none) (s x : Operand)
  (ho : o.op = .call { callee := .builtin .append, args := #[s, x], argTypes := #[49, 49] })
  (p lo : Nat) (A : Option Addr) (n c : Nat) (xss : List (List Int)) (hs : a.eval s = .slice A n c) (hown : OwnR w p lo A n c xss)
  (g c2 : Nat) (v : Value) (ys : List Int) (hx : a.eval x = .slice (some ⟨g, 0, none⟩) 1 c2) (hy : w.cell? ⟨g, 0, none⟩ = some v) (hv : Elem w p (blk A) v ys) (hn : n ≤ 1048576) (hlo : lo ≤ w.heap.size)
  (h : ∀ A' c' w', OwnR w' p lo A' (n + 1) c' (xss ++ [ys]) → w.grownBy w' (blk A) → (blk A' = blk A ∨ blk A' = some w.heap.size) → Below lo w w' → wpList Tryz.prog ops Q rest (a.put o.dst (.slice A' (n + 1) c')) w') : wpList Tryz.prog ops Q (o :: rest) a w := by
 obtain ⟨i0, hi, hz0, hz1, hz2⟩ := info_parts info_list
 obtain ⟨hlen, vs, hr, hin⟩ := hown
 have hvl : vs.length = n := by have := hr.1; omega
 have hvc : v.oneCell' = true := by obtain ⟨A1, n1, c1, rfl, _⟩ := hv; rfl
 refine wpList_append_own_at w hgd s x 49 ho lo 24 i0 (.slice none 0 0) 1 24 Tryz.underlying49 hi hz0 hz1 hz2 rfl (by decide) (.slice A n c) n vs hs hr
  ⟨g, 0, none⟩ 1 c2 [v] hx rfl (fun j u hj => ?_) (fun u hu => ?_) (by unfold maxLen; omega) (by omega) hlo ?_
 ·match j, hj with
  | 0, hj => simp at hj; subst hj; simpa [Addr.add] using hy
 ·simp at hu; subst hu; exact hvc
 ·intro v' w' hown' hg _ hat
  have hform : ∃ A' c', v' = .slice A' (n + 1) c' := by
   rcases hown'.2 with ⟨_, h0⟩ | ⟨g', cap, cur, e, _⟩
   ·omega
   ·exact ⟨_, _, e⟩
  obtain ⟨A', c', rfl⟩ := hform
  rw [blk_own] at hg
  rw [blk_own, blk_own] at hat
  exact h A' c' w' (ownR_app hlen hr hin hv hown' hg hat) hg hat ((Below.refl lo w).grown hg hlo (fun k hk => (World.ownsRow.lt hr k (by rw [blk_own]; exact hk)).1))
def Small (M L m : Nat) (xss : List (List Int)) : Prop := m ≤ M ∧ ∀ j, (xss.getD j []).length ≤ L
theorem small_nil (M L : Nat) : Small M L 0 [] := ⟨Nat.zero_le _, fun j => by simp⟩
theorem small_app {M M' L m : Nat} {xss : List (List Int)} {ys : List Int} (h : Small M L m xss) (hl : xss.length = m) (hy : ys.length ≤ L) (hM : m + 1 ≤ M') : Small M' L (m + 1) (xss ++ [ys]) :=
 ⟨hM, fun j => by
  rcases Nat.lt_trichotomy j m with h1 | h1 | h1
  ·have := h.2 j
   simpa [List.getD, List.getElem?_append_left (show j < xss.length by omega)] using this
  ·subst h1
   simpa [List.getD, ← hl] using hy
  ·simp [List.getD, show xss.length + 1 ≤ j by omega]⟩
theorem small_wider {M L M' L' m : Nat} {xss : List (List Int)} (h : Small M L m xss) (h1 : M ≤ M') (h2 : L ≤ L') : Small M' L' m xss := ⟨Nat.le_trans h.1 h1, fun j => Nat.le_trans (h.2 j) h2⟩
theorem small_tot {M L m : Nat} {xss : List (List Int)} (h : Small M L m xss) (hl : xss.length = m) (hb : M + M * L ≤ 1048576) : tot xss ≤ 1048576 := by
 have h1 : ∀ k, sumL xss k ≤ k * L := fun k => by
  induction k with
  | zero => simp [sumL]
  | succ k ih =>
   by_cases hk : k < xss.length
   ·rw [sumL_succ hk, Nat.add_mul]
    have := h.2 k
    omega
   ·have e : sumL xss (k + 1) = sumL xss k := by
     unfold sumL
     rw [List.take_of_length_le (show xss.length ≤ k + 1 by omega), List.take_of_length_le (show xss.length ≤ k by omega)]
    rw [e, Nat.add_mul]
    omega
 unfold tot
 have h2 := h1 xss.length
 have h3 : xss.length * L ≤ M * L := Nat.mul_le_mul_right _ (by rw [hl]; exact h.1)
 have h4 := h.1
 omega
def AnsSub (w : World) (p : Nat) (A : Option Addr) (n c M L : Nat) (e : Ending) (w' : World) : Prop :=
 ∃ B m cB xss, e = .returned (.agg #[.slice B m cB]) ∧ OwnR w' p w.heap.size B m cB xss ∧ Small M L m xss ∧ Dice w' p A n c ∧ w.grownBy w' (some p)
end drawSub
end
section
namespace drawS
open Go.RowKit base ints sig term cursor termOk marks app appAt sym segs segsHelp dice drawSig drawTerm drawAny drawPair drawOne drawSub
set_option maxRecDepth 100000
theorem grown_over {w a b : World} {B : Nat} {r : Option Nat} (g : w.grownBy a r) (hb : Below B a b) (hB : w.heap.size ≤ B) : w.grownBy b r :=
 ⟨hb.os.trans g.os, hb.tape.trans g.tape, hb.output.trans g.output, Nat.le_trans g.size hb.size, fun k hk hne => (hb.block k (by omega)).trans (g.block k hk hne)⟩
theorem OwnR.set {w : World} {p lo N n c : Nat} {A : Option Addr} {xss : List (List Int)} {a : Option Addr} {l k : Nat} (h : OwnR w p lo A n c xss) (hN : N < lo) (hc : w.cell? ⟨N, 0, none⟩ = some (.slice a l k)) (u : Value) : OwnR (w.setCell ⟨N, 0, none⟩ u) p lo A n c xss := by
 obtain ⟨h1, vs, h2, h3⟩ := h
 refine ⟨h1, vs, World.ownsRow.kept h2 (grown_put (World.grownBy.refl w _) 0 u) ?_, fun j hj => ?_⟩
 ·cases e : (Value.slice A n c).ownBlock with
  | none => exact .inl rfl
  | some z =>
   refine .inr (fun e2 => ?_)
   have := (World.ownsRow.lt h2 z e).1
   injection e2 with e2
   omega
 ·obtain ⟨A', n', c', e, hr, hcap, hne⟩ := h3 j hj
  exact ⟨A', n', c', e, (Rd.other hr hc u).more (by simp), hcap, hne⟩
structure DD (w : World) (p : Nat) (A : Option Addr) (n c : Nat) (S : Option Addr) (sn sc : Nat) (sg : List Int) (o : Nat) (B : Option Addr) (m cB : Nat) (xss : List (List Int)) (wr : World) : Prop where
 d : Dice wr p A n c
 rS : Row wr w.heap.size 26 #[.slice S sn sc]
 rR : Row wr (w.heap.size + 1) 51 #[.slice none 0 0]
 rO : Row wr o 51 #[.slice B m cB]
 own : OwnR wr p (o + 1) B m cB xss
 s : Rd wr p w.heap.size S sn sg
 g : w.grownBy wr (some p)
 hp : p < w.heap.size
 ho : w.heap.size + 1 < o
section
variable {w : World} {p : Nat} {A : Option Addr} {n c : Nat} {S : Option Addr} {sn sc : Nat} {sg : List Int} {o : Nat} {B : Option Addr} {m cB : Nat} {xss : List (List Int)} {wr w' : World}
theorem DD.dice (t : DD w p A n c S sn sc sg o B m cB xss wr) (d : Dice w' p A n c) (hg : wr.grownBy w' (some p)) : DD w p A n c S sn sc sg o B m cB xss w' :=
 ⟨d, Row.away t.rS hg (fun e => by injection e; have := t.hp; omega), Row.away t.rR hg (fun e => by injection e; have := t.hp; omega), Row.away t.rO hg (fun e => by injection e; have := t.hp; have := t.ho; omega), t.own.dice hg (by have := t.hp; have := t.ho; omega), t.s.grown hg t.g.size, grown_trans t.g hg, t.hp, t.ho⟩
theorem DD.next (t : DD w p A n c S sn sc sg o B m cB xss wr) (hb : Below wr.heap.size wr w') : DD w p A n c S sn sc sg o B m cB xss w' :=
 ⟨t.d.next hb, t.rS.next hb, t.rR.next hb, t.rO.next hb, t.own.below hb, t.s.below hb t.g.size, grown_over t.g hb t.g.size, t.hp, t.ho⟩
theorem DD.drew (t : DD w p A n c S sn sc sg o B m cB xss wr) : DD w p A n c S sn sc sg o B m cB xss wr.drew := t.next ⟨rfl, rfl, rfl, Nat.le_refl _, fun _ _ => rfl⟩
theorem DD.put {B' : Option Addr} {m' cB' : Nat} {yss : List (List Int)} (t : DD w p A n c S sn sc sg o B m cB xss wr) (hb : Below (o + 1) wr w') (ho : OwnR w' p (o + 1) B' m' cB' yss) : DD w p A n c S sn sc sg o B' m' cB' yss (w'.setCell ⟨o, 0, none⟩ (.slice B' m' cB')) := by
 have h1 := t.hp
 have h2 := t.ho
 have hO := t.rO.below hb (Nat.lt_succ_self _)
 have hS := Below.setCell (Below.refl o w') (p := ⟨o, 0, none⟩) (Nat.le_refl _) (.slice B' m' cB')
 have hb2 : Below o wr (w'.setCell ⟨o, 0, none⟩ (.slice B' m' cB')) := (hb.mono (Nat.le_succ _)).trans hS
 exact ⟨t.d.keep (hb2.mono (by omega)), t.rS.below hb2 (by omega), t.rR.below hb2 (by omega), hO.put 0 _, OwnR.set ho (Nat.lt_succ_self _) (hO.cell 0) _, t.s.below hb2 (by omega), grown_over t.g hb2 (by omega), h1, h2⟩
theorem DD.result {M L : Nat} (t : DD w p A n c S sn sc sg o B m cB xss wr) (hs : Small M L m xss) : AnsSub w p A n c M L (.returned (.agg #[.slice B m cB])) (wr.setCell ⟨w.heap.size + 1, 0, none⟩ (.slice B m cB)) := by
 have h1 := t.hp
 have h2 := t.ho
 have hS := Below.setCell (Below.refl (w.heap.size + 1) wr) (p := ⟨w.heap.size + 1, 0, none⟩) (Nat.le_refl _) (.slice B m cB)
 exact ⟨B, m, cB, xss, rfl, (OwnR.set t.own (by omega) (t.rR.cell 0) _).lower (by omega), hs, t.d.keep (hS.mono (by omega)), grown_over t.g hS (by omega)⟩
end
def HeadD (w : World) (p : Nat) (A : Option Addr) (n c : Nat) (S : Option Addr) (sn sc : Nat) (sg : List Int) (o : Nat) (num : Value) (wr : World) : Prop :=
 ∃ (k : Nat) (B : Option Addr) (m cB : Nat) (xss : List (List Int)), num = .int .i64 k ∧ m + k ≤ 3 ∧ Small 3 16 m xss ∧ DD w p A n c S sn sc sg o B m cB xss wr
theorem elem_nil {w : World} {p : Nat} {r : Option Nat} {g : Nat} : Elem w p r (.slice (some ⟨g, 0, none⟩) 0 0) [] := ⟨_, 0, 0, rfl, Rd.none_, ⟨Nat.le_refl _, by omega, fun e => by cases e⟩, fun h => absurd h (by omega)⟩
set_option maxHeartbeats 4000000 in
theorem draw (p : Nat) (A : Option Addr) (n c : Nat) (S : Option Addr) (sn sc : Nat) (sg : List Int) (w : World) (hd : Dice w p A n c) (hr : Rd w p w.heap.size S sn sg) (hs : Arities sg) (hn1 : 1 ≤ sn) (hn2 : sn ≤ 256) :
  Calls Tryz.prog 117 #[.pointer (some ⟨p, 0, none⟩), .agg #[.slice S sn sc]] w (AnsSub w p A n c 3 16) := by
 obtain ⟨W, hW⟩ : ∃ W, W = ((w.alloc (.cells #[.slice S sn sc] 26)).alloc (.cells #[.slice none 0 0] 51)).alloc (.cells #[.slice none 0 0] 51) := ⟨_, rfl⟩
 have T : DD w p A n c S sn sc sg (w.heap.size + 2) none 0 0 [] W := by
  have b1 : Below w.heap.size w W := by rw [hW]; exact (((Below.refl _ _).alloc (Nat.le_refl _) _).alloc (by simp) _).alloc (by simp; omega) _
  refine ⟨hd.next b1, ?_, ?_, ?_, OwnR.nil _ _ _, hr.below b1 (Nat.le_refl _), grown_below b1 _, hd.lt, by omega⟩
  ·rw [hW]; exact ((Row.new _ _ _).alloc _).alloc _
  ·rw [hW]; have := (Row.new (w.alloc (.cells #[.slice S sn sc] 26)) 51 #[.slice none 0 0]).alloc (.cells #[.slice none 0 0] 51); simpa using this
  ·rw [hW]; have := Row.new ((w.alloc (.cells #[.slice S sn sc] 26)).alloc (.cells #[.slice none 0 0] 51)) 51 #[.slice none 0 0]; simpa using this
 have HW := Lib.hid hW
 have hp := hd.lt
 have L1 := Lib.hid (below p A n c 4 W T.d (by omega) (by omega))
 clear hW hd hr
 go_enter Tryz.func117, Tryz.ntmps117
 go_wp2_with fail
 rw [← HW.out]
 refine L1.out.mono ?_
 rintro e w1 ⟨x, rfl, x0, x1, d1, g1⟩
 obtain ⟨k0, rfl⟩ := Int.eq_ofNat_of_zero_le x0
 have H0 : HeadD w p A n c S sn sc sg (w.heap.size + 2) (.int .i64 (k0 : Int)) w1 := ⟨k0, none, 0, 0, [], rfl, by omega, small_nil _ _, T.dice d1 g1⟩
 have HH := Lib.hid H0
 clear H0 T d1 g1 L1 HW
 go_wp2_with fail
 go_loopw [6] (fun num wr => HeadD w p A n c S sn sc sg (w.heap.size + 2) num wr) (fun num _ => (intOf num).toNat)
 case atStart => exact HH.out
 case round =>
  obtain ⟨k, B, m, cB, xss, rfl, hmk, hsm, T⟩ := hrel
  clear HH
  have ze1 : ¬ w.heap.size + 2 = w.heap.size + 1 := by omega
  by_cases hk : 0 < k
  ·have i0 : (0 : Int) < (k : Int) := by omega
   have B1 : Below wr.heap.size wr (wr.alloc (.cells #[] 2)) := (Below.refl _ _).alloc (Nat.le_refl _) _
   have T1 := T.next B1
   have zwr := T.g.size
   clear T B1
   go_wp2_with fail
   refine (once p A n c 3 _ T1.d (by omega) (by omega)).mono ?_
   rintro e w2 ⟨b, rfl, d2, g2⟩
   have T2 := T1.dice d2 g2
   clear T1 d2 g2
   have finish : ∀ (wz : World) (v : Value) (ys : List Int), DD w p A n c S sn sc sg (w.heap.size + 2) B m cB xss wz → Elem wz p (blk B) v ys → ys.length ≤ 16 → ∀ (wt : World) (B' : Option Addr) (cB' : Nat), OwnR wt p (w.heap.size + 3) B' (m + 1) cB' (xss ++ [ys]) → Below (w.heap.size + 3) wz wt → HeadD w p A n c S sn sc sg (w.heap.size + 2) (.int .i64 ((k : Int) - 1)) (wt.setCell ⟨w.heap.size + 2, 0, none⟩ (.slice B' (m + 1) cB')) :=
    fun wz v ys t el hy wt B' cB' ho hb => ⟨k - 1, B', m + 1, cB', xss ++ [ys], by rw [show ((k - 1 : Nat) : Int) = (k : Int) - 1 by omega], by omega, small_app hsm t.own.1 hy (by omega), t.put hb ho⟩
   have FIN := Lib.hid finish
   clear finish
   cases b with
   | true =>
    have B3 : Below w2.heap.size w2 (w2.alloc (.cells #[.slice (some ⟨wr.heap.size, 0, none⟩) 0 0] 24)) := (Below.refl _ _).alloc (Nat.le_refl _) _
    have T3 := T2.next B3
    have cO : w2.cell? ⟨w.heap.size + 2, 0, none⟩ = some (.slice B m cB) := T2.rO.cell 0
    have zlt := T2.rO.lt
    clear B3
    go_wp2_with (at_builtin; go_must (refine appR1 rfl _ _ rfl p (w.heap.size + 3) B m cB xss rfl T3.own _ 1 (.slice (some ⟨wr.heap.size, 0, none⟩) 0 0) [] rfl ((Row.new _ _ _).cell 0) elem_nil (by omega) (by simp; omega) ?_; intro A' cA' w6 ho6 hg6 hat6 b6; have q2 := T3.rO.below b6 (by omega); have c6 : w6.cell? ⟨w.heap.size + 2, 0, none⟩ = some (.slice B m cB) := q2.cell 0; have f6 : w6.frozen? ⟨w.heap.size + 2, 0, none⟩ = false := q2.free 0))
    have S1 := Lib.hid (FIN.out _ (.slice (some ⟨wr.heap.size, 0, none⟩) 0 0) [] T3 elem_nil (by simp) w6 A' cA' ho6 b6)
    clear ho6 hg6 hat6 b6 T3 T2 q2 cO FIN
    go_wp2
    go_roundw
    case rel => exact S1.out
    case measure => simp [intOf]; omega
   | false =>
    have T3 := T2.drew
    have cS : w2.cell? ⟨w.heap.size, 0, none⟩ = some (.slice S sn sc) := T2.rS.cell 0
    clear T2
    go_wp2_with fail
    go_region_held3 (fun w' => w'.cell? ⟨w.heap.size, 0, none⟩ = some (.slice S sn sc))
     (go_keep)
     (first
      | (go_at_call 104; refine (below p A n c 3 _ T3.d (by omega) (by omega)).mono ?_; rintro e u1 ⟨x, rfl, x0, x1, d1, g1⟩; have T4 := T3.dice d1 g1; have cS2 : u1.cell? ⟨w.heap.size, 0, none⟩ = some (.slice S sn sc) := T4.rS.cell 0; have hw : IntKind.i64.wrap (1 + x) = 1 + x := by rw [IntKind.wrap_i64]; omega)
      | (go_at_call 109; refine (drawTerm p A n c S sn sc sg 3 hs (by omega) (by omega) (by omega) (by omega) 2 (1 + x) u1 T4.d (T4.s.more T4.g.size) (by omega) (by clear hw; omega) (by clear hw; omega)).mono ?_; rintro e u2 ⟨O, on, oc, ys, rfl, o2, h1, h2, d2, g2⟩; have T5 := T4.dice d2 g2; have cS3 : u2.cell? ⟨w.heap.size, 0, none⟩ = some (.slice S sn sc) := T5.rS.cell 0))
    have hyl : ys.length ≤ 16 := by rw [← Own.len o2]; exact h2
    have zu1 := T4.rO.lt
    have cO : u2.cell? ⟨w.heap.size + 2, 0, none⟩ = some (.slice B m cB) := T5.rO.cell 0
    have zlt := T5.rO.lt
    have EL : Elem u2 p (blk B) (.slice O on oc) ys := ⟨O, on, oc, rfl, Rd.of_own o2 (by omega), ⟨(Own.cap o2).1, (Own.cap o2).2, Own.none_cap o2⟩, fun _ e => by
     obtain ⟨gg, rfl⟩ := Own.some_ o2 h1
     have h3 := Own.ge o2 gg rfl
     have h4 := (T4.own.ge gg (by rw [← e]; rfl)).2
     omega⟩
    have B3 : Below u2.heap.size u2 (u2.alloc (.cells #[.slice O on oc] 24)) := (Below.refl _ _).alloc (Nat.le_refl _) _
    have T6 := T5.next B3
    have EL2 := EL.below B3
    clear hw T3 T4 T5 EL B3 d1 g1 d2 g2 cS cS2 cS3 o2 x0 x1
    go_wp2_with (at_builtin; go_must (refine appR1 rfl _ _ rfl p (w.heap.size + 3) B m cB xss rfl T6.own _ 1 (.slice O on oc) ys rfl ((Row.new _ _ _).cell 0) EL2 (by omega) (by simp; omega) ?_; intro A' cA' w6 ho6 hg6 hat6 b6; have q2 := T6.rO.below b6 (by omega); have c6 : w6.cell? ⟨w.heap.size + 2, 0, none⟩ = some (.slice B m cB) := q2.cell 0; have f6 : w6.frozen? ⟨w.heap.size + 2, 0, none⟩ = false := q2.free 0))
    have S1 := Lib.hid (FIN.out _ _ ys T6 EL2 hyl w6 A' cA' ho6 b6)
    clear ho6 hg6 hat6 b6 T6 EL2 q2 cO FIN
    go_wp2
    go_roundw
    case rel => exact S1.out
    case measure => simp [intOf]; omega
  ·have i1 : ¬ (0 : Int) < (k : Int) := by omega
   have cO : wr.cell? ⟨w.heap.size + 2, 0, none⟩ = some (.slice B m cB) := T.rO.cell 0
   have cR : wr.cell? ⟨w.heap.size + 1, 0, none⟩ = some (.slice none 0 0) := T.rR.cell 0
   have fR : wr.frozen? ⟨w.heap.size + 1, 0, none⟩ = false := T.rR.free 0
   have F := Lib.hid (T.result hsm)
   clear T
   go_wp2
   exact bodyPost_ret (v := .agg #[.slice B m cB]) (by simp [results, Tryz.results117, go_sem, cR]) rfl F.out
end drawS
end
section
open Go.Lib (hid)
namespace drawRule
open Go.RowKit base ints sig term cursor marks app appAt sym sub rename renMath dice drawSig drawTerm drawTermW drawAny drawPair drawOne drawSub drawS drawX
open shape (Sh Dat nc dft sI sz)
open kindsR (sRule)
set_option maxRecDepth 100000
def AnsRule (w : World) (p : Nat) (A : Option Addr) (n c : Nat) (e : Ending) (w' : World) : Prop :=
 ∃ a1 n1 c1 a2 n2 c2 xs ys, e = .returned (.agg #[.slice a1 n1 c1, .slice a2 n2 c2]) ∧ RdQ w' (fun b => w.heap.size ≤ b ∧ b < w'.heap.size) sRule [.slice a1 n1 c1, .slice a2 n2 c2] ((xs, ys) : List Int × List Int) ∧ xs.length ≤ 16 ∧ ys.length ≤ 16 ∧ Dice w' p A n c ∧ w.grownBy w' (some p)
structure R0 (w : World) (p : Nat) (A : Option Addr) (n c : Nat) (S : Option Addr) (sn sc : Nat) (sg : List Int) (wr : World) : Prop where
 d : Dice wr p A n c
 rS : Row wr w.heap.size 26 #[.slice S sn sc]
 rR : Row wr (w.heap.size + 1) 126 #[.slice none 0 0, .slice none 0 0]
 s : Rd wr p w.heap.size S sn sg
 g : w.grownBy wr (some p)
 hp : p < w.heap.size
structure RL (w : World) (p : Nat) (A : Option Addr) (n c : Nat) (S : Option Addr) (sn sc : Nat) (sg : List Int) (O : Option Addr) (on oc : Nat) (xs : List Int) (wr : World) : Prop where
 z : R0 w p A n c S sn sc sg wr
 l : Own wr (w.heap.size + 2) (.slice O on oc) xs
 sc : scan sg 1 xs = some xs.length
 h1 : 1 ≤ on
 h2 : on ≤ 16
structure RR (w : World) (p : Nat) (A : Option Addr) (n c : Nat) (S : Option Addr) (sn sc : Nat) (sg : List Int) (O : Option Addr) (on oc : Nat) (xs : List Int) (P : Option Addr) (pn pc : Nat) (ys : List Int) (wr : World) : Prop where
 z : RL w p A n c S sn sc sg O on oc xs wr
 r : ∃ B, Own wr B (.slice P pn pc) ys ∧ w.heap.size + 2 ≤ B ∧ ∀ k, blk O = some k → k < B
 h3 : pn ≤ 16
section
variable {w : World} {p : Nat} {A : Option Addr} {n c : Nat} {S : Option Addr} {sn sc : Nat} {sg : List Int} {O : Option Addr} {on oc : Nat} {xs : List Int} {P : Option Addr} {pn pc : Nat} {ys : List Int} {wr w' : World}
theorem R0.dice (t : R0 w p A n c S sn sc sg wr) (d : Dice w' p A n c) (hg : wr.grownBy w' (some p)) : R0 w p A n c S sn sc sg w' :=
 ⟨d, Row.away t.rS hg (fun e => by injection e; have := t.hp; omega), Row.away t.rR hg (fun e => by injection e; have := t.hp; omega), t.s.grown hg t.g.size, grown_trans t.g hg, t.hp⟩
theorem R0.over (t : R0 w p A n c S sn sc sg wr) (hb : Below (w.heap.size + 2) wr w') : R0 w p A n c S sn sc sg w' :=
 ⟨t.d.keep (hb.mono (by have := t.hp; omega)), t.rS.below hb (by omega), t.rR.below hb (by omega), t.s.below hb (by omega), grown_over t.g hb (by omega), t.hp⟩
theorem R0.drew (t : R0 w p A n c S sn sc sg wr) : R0 w p A n c S sn sc sg wr.drew := t.over ⟨rfl, rfl, rfl, Nat.le_refl _, fun _ _ => rfl⟩
theorem RL.dice (t : RL w p A n c S sn sc sg O on oc xs wr) (d : Dice w' p A n c) (hg : wr.grownBy w' (some p)) : RL w p A n c S sn sc sg O on oc xs w' :=
 ⟨t.z.dice d hg, Own.far t.l hg (fun k hk => by injection hk; have := t.z.hp; omega), t.sc, t.h1, t.h2⟩
theorem RL.drew (t : RL w p A n c S sn sc sg O on oc xs wr) : RL w p A n c S sn sc sg O on oc xs wr.drew := ⟨t.z.drew, Own.next t.l ⟨rfl, rfl, rfl, Nat.le_refl _, fun _ _ => rfl⟩, t.sc, t.h1, t.h2⟩
theorem RR.next (t : RR w p A n c S sn sc sg O on oc xs P pn pc ys wr) (hb : Below wr.heap.size wr w') : RR w p A n c S sn sc sg O on oc xs P pn pc ys w' := by
 obtain ⟨B, h1, h2, h3⟩ := t.r
 have hz := t.z.z.rR.lt
 exact ⟨⟨t.z.z.over (hb.mono (by omega)), Own.next t.z.l hb, t.z.sc, t.z.h1, t.z.h2⟩, ⟨B, Own.next h1 hb, h2, h3⟩, t.h3⟩
theorem RR.put {gp : Nat} (t : RR w p A n c S sn sc sg O on oc xs (some ⟨gp, 0, none⟩) pn pc ys wr) (k : Nat) (y : Int) : RR w p A n c S sn sc sg O on oc xs (some ⟨gp, 0, none⟩) pn pc (ys.set k y) (wr.setCell ⟨gp, k, none⟩ (.int .i64 y)) := by
 obtain ⟨B, h1, h2, h3⟩ := t.r
 have hge := Own.ge h1 gp rfl
 have hb : Below (w.heap.size + 2) wr (wr.setCell ⟨gp, k, none⟩ (.int .i64 y)) := (Below.refl _ _).setCell (p := ⟨gp, k, none⟩) (by show w.heap.size + 2 ≤ gp; omega) _
 have hl : Own (wr.setCell ⟨gp, k, none⟩ (.int .i64 y)) (w.heap.size + 2) (.slice O on oc) xs := by
  have hg : wr.grownBy (wr.setCell ⟨gp, k, none⟩ (.int .i64 y)) (some gp) := grown_put (World.grownBy.refl wr _) k _
  refine World.ownsRow.kept t.z.l hg ?_
  cases e : (Value.slice O on oc).ownBlock with
  | none => exact .inl rfl
  | some q =>
   refine .inr (fun e2 => ?_)
   injection e2 with e2
   have := h3 q (by rw [← blk_own (n := on) (c := oc)]; exact e)
   omega
 exact ⟨⟨t.z.z.over hb, hl, t.z.sc, t.z.h1, t.z.h2⟩, ⟨B, Own.put h1 k y, h2, h3⟩, t.h3⟩
theorem rule_result {w : World} {p B : Nat} (h0 : w.grownBy wr (some p)) (hd : Dice wr p A n c) (hp : p < w.heap.size) (hl : Own wr (w.heap.size + 2) (.slice O on oc) xs) (hr : Own wr B (.slice P pn pc) ys) (hB : w.heap.size + 2 ≤ B) (h2 : on ≤ 16) (h3 : pn ≤ 16) :
  AnsRule w p A n c (.returned (.agg #[.slice O on oc, .slice P pn pc])) ((wr.setCell ⟨w.heap.size + 1, 0, none⟩ (.slice O on oc)).setCell ⟨w.heap.size + 1, 1, none⟩ (.slice P pn pc)) := by
 have hS : Below (w.heap.size + 1) wr ((wr.setCell ⟨w.heap.size + 1, 0, none⟩ (.slice O on oc)).setCell ⟨w.heap.size + 1, 1, none⟩ (.slice P pn pc)) := ((Below.refl _ wr).setCell (p := ⟨w.heap.size + 1, 0, none⟩) (Nat.le_refl _) _).setCell (p := ⟨w.heap.size + 1, 1, none⟩) (Nat.le_refl _) _
 have hG : wr.grownBy ((wr.setCell ⟨w.heap.size + 1, 0, none⟩ (.slice O on oc)).setCell ⟨w.heap.size + 1, 1, none⟩ (.slice P pn pc)) (some (w.heap.size + 1)) := grown_put (grown_put (World.grownBy.refl wr _) 0 _) 1 _
 have l' := Own.far hl hG (fun k hk => by injection hk; omega)
 have r' := Own.far hr hG (fun k hk => by injection hk; omega)
 refine ⟨_, _, _, _, _, _, xs, ys, rfl, RdQ.cat (ca := [_]) (cb := [_]) (rdq_own l' fun b h1 h2 _ => ⟨by omega, h2⟩) (rdq_own r' fun b h1 h2 _ => ⟨by omega, h2⟩), by rw [← Own.len hl]; exact h2, by rw [← Own.len hr]; exact h3, hd.keep (hS.mono (by omega)), grown_over h0 hS (by omega)⟩
end
def HeadL (w : World) (p : Nat) (A : Option Addr) (n c : Nat) (S : Option Addr) (sn sc : Nat) (sg : List Int) (out k : Value) (wr : World) : Prop :=
 ∃ (q : Nat) (O : Option Addr) (on oc : Nat) (xs : List Int), k = .int .i64 q ∧ q ≤ 3 ∧ out = .slice O on oc ∧ Own wr (w.heap.size + 2) (.slice O on oc) xs ∧ 1 ≤ on ∧ on + q ≤ 4 ∧ PartT sg xs q ∧ R0 w p A n c S sn sc sg wr
def HeadR (w : World) (p : Nat) (A : Option Addr) (n c : Nat) (S : Option Addr) (sn sc : Nat) (sg : List Int) (O : Option Addr) (on oc : Nat) (xs : List Int) (P : Option Addr) (pn pc : Nat) (i : Value) (wr : World) : Prop :=
 ∃ (k : Nat) (ys : List Int), i = .int .i64 k ∧ k ≤ pn ∧ RR w p A n c S sn sc sg O on oc xs P pn pc ys wr
set_option maxHeartbeats 2000000 in
theorem drawRule (p : Nat) (A : Option Addr) (n c : Nat) (S : Option Addr) (sn sc : Nat) (sg : List Int) (w : World) (hd : Dice w p A n c) (hr : Rd w p w.heap.size S sn sg) (hs : Arities sg) (hn1 : 1 ≤ sn) (hn2 : sn ≤ 256) :
  Calls Tryz.prog 145 #[.pointer (some ⟨p, 0, none⟩), .agg #[.slice S sn sc]] w (AnsRule w p A n c) := by
 obtain ⟨W, hW, rS, rR, b1⟩ := Go.Proofs.YtmoidijngeijkaaGreat.ruleSpec.box2 w 26 126 #[.slice S sn sc] #[.slice none 0 0, .slice none 0 0]
 have T : R0 w p A n c S sn sc sg W := ⟨hd.next b1, rS, rR, hr.below b1 (Nat.le_refl _), grown_below b1 _, hd.lt⟩
 have HW := hid hW
 have hp := hd.lt
 have hsl := hid hr.1
 clear hW hd hr rS rR b1
 have cS : W.cell? ⟨w.heap.size, 0, none⟩ = some (.slice S sn sc) := T.rS.cell 0
 go_enter Tryz.func145, Tryz.ntmps145
 go_wp2_with fail
 rw [← HW.out]
 go_region_held3 (fun w' => w'.cell? ⟨w.heap.size, 0, none⟩ = some (.slice S sn sc))
  (go_keep)
  (first
   | (go_at_call 104; refine (below p A n c 2 _ T.drew.d (by omega) (by omega)).mono ?_; rintro e u1 ⟨x, rfl, x0, x1, d1, g1⟩; have T1 := T.drew.dice d1 g1; have cS1 : u1.cell? ⟨w.heap.size, 0, none⟩ = some (.slice S sn sc) := T1.rS.cell 0; have hw : IntKind.i64.wrap (2 + x) = 2 + x := by rw [IntKind.wrap_i64]; omega)
   | (go_at_call 109; refine (drawTermW p A n c S sn sc sg 2 hs (by omega) (by omega) (by omega) (by omega) 2 (2 + x) u1 T1.d (T1.s.more T1.g.size) (by omega) (by clear hw; omega) (by clear hw; omega)).mono ?_; rintro e u2 ⟨O, on, oc, xs, rfl, o2, h1, h2, sx, d2, g2⟩; have T2 := T1.dice d2 g2; have cS2 : u2.cell? ⟨w.heap.size, 0, none⟩ = some (.slice S sn sc) := T2.rS.cell 0))
 have z1 := T1.rR.lt
 have o3 : Own u2 (w.heap.size + 2) (.slice O on oc) xs := Own.lower o2 (by omega)
 have TL : RL w p A n c S sn sc sg O on oc xs u2 := ⟨T2, o3, sx, h1, h2⟩
 clear hw T T1 T2 o2 o3 d1 g1 d2 g2 cS cS1 cS2 h2 sx x0 x1
 obtain ⟨b, off, y, rfl, hb, hy, ey⟩ := (Own.seg TL.l).spot h1
 have EY := hid ey
 clear ey
 have hy0 : u2.cell? ⟨b, off, none⟩ = some (.int .i64 y) := hy
 go_upto_if 20 with fail
 go_cut [5] (fun s5 wx => ∃ O on oc xs, s5 = .slice O on oc ∧ RL w p A n c S sn sc sg O on oc xs wx)
 case first =>
  by_cases hneg : y < 0
  ·have hD := hid (below p A n c (sn : Int) _ TL.z.d (by omega) (by omega))
   have cS : u2.cell? ⟨w.heap.size, 0, none⟩ = some (.slice S sn sc) := TL.z.rS.cell 0
   go_wp2_with fail
   refine hD.out.mono ?_
   rintro e u3 ⟨x, rfl, x0, x1, d3, g3⟩
   obtain ⟨k, rfl⟩ := Int.eq_ofNat_of_zero_le x0
   have T3 := TL.z.dice d3 g3
   have hks : k < sn := by omega
   have HSL := hsl.out
   obtain ⟨bs, os, y2, rfl, hbs, hys, eys⟩ := T3.s.seg.spot hks
   have hyb := hs k (by omega)
   rw [eys.out] at hyb
   obtain ⟨q, rfl⟩ := Int.eq_ofNat_of_zero_le hyb.1
   have hq3 : q ≤ 3 := by omega
   have z3 := T3.rR.lt
   have H0 : HeadL w p A n c (some ⟨bs, os, none⟩) sn sc sg (.slice (some ⟨u3.heap.size, 0, none⟩) 1 1) (.int .i64 (q : Int)) (u3.alloc (.cells #[.int .i64 (k : Int)] 2)) :=
    ⟨q, _, _, _, [(k : Int)], rfl, hq3, rfl, Own.of_row (Row.new _ _ _) rfl rfl (Nat.le_refl _) (by omega) (by omega) (fun j hj => by match j, hj with | 0, _ => rfl), Nat.le_refl _, by omega, part_one (by rw [ar_sym (by omega) (by omega)]; simpa using eys.out), T3.over ((Below.refl _ _).alloc (by omega) _)⟩
   have HH := hid H0
   have cS1 : u3.cell? ⟨w.heap.size, 0, none⟩ = some (.slice (some ⟨bs, os, none⟩) sn sc) := T3.rS.cell 0
   have zN : w.heap.size < u3.heap.size := T3.rS.lt
   have zb : bs < u3.heap.size := by omega
   have i1 : (k : Int) < (sn : Int) := by omega
   clear H0 T3 TL d3 g3 cS eys HSL hyb hD hy hy0 EY hneg
   go_wp2_with fail
   go_loopw [5, 7] (fun out kk wr => HeadL w p A n c (some ⟨bs, os, none⟩) sn sc sg out kk wr) (fun _ kk _ => (intOf kk).toNat)
   case atStart => exact HH.out
   case round =>
    obtain ⟨q, O, on, oc, xs, rfl, hq3, rfl, ho, ho1, hoM, PT, T⟩ := hrel
    have PP := hid PT
    clear PT HH
    have cS : wr.cell? ⟨w.heap.size, 0, none⟩ = some (.slice (some ⟨bs, os, none⟩) sn sc) := T.rS.cell 0
    cases q with
    | zero =>
     have F := hid (show RL w p A n c (some ⟨bs, os, none⟩) sn sc sg O on oc xs wr from ⟨T, ho, PP.out.done, ho1, by omega⟩)
     clear T ho
     go_wp2_with fail
     go_meet
     exact ⟨_, _, _, _, rfl, F.out⟩
    | succ q =>
     have e0 : (0 : Int) < ((q + 1 : Nat) : Int) := by omega
     have hD2 := hid (drawTermW p A n c (some ⟨bs, os, none⟩) sn sc sg 2 hs (by omega) (by omega) (by omega) (by omega) 0 1 wr T.d (T.s.more T.g.size) (by omega) (by omega) (by omega))
     go_wp2_with fail
     refine hD2.out.mono ?_
     rintro e u2 ⟨O2, on2, oc2, ys, rfl, o2, h1, h2, sc2, d2, g2⟩
     have PP2 := hid (PP.out.step sc2)
     clear sc2
     have T2 := T.dice d2 g2
     have ho2 := Own.far ho g2 (fun k hk => by injection hk; omega)
     have z2 := T2.rR.lt
     have h2' : on2 ≤ 1 := h2
     clear ho T d2 g2 cS hD2 h2
     go_wp2_with (at_builtin; refine appAll rfl _ _ rfl (w.heap.size + 2) O on oc xs rfl ho2 O2 on2 oc2 u2.heap.size ys rfl (Own.seg o2) (Own.none_cap o2) (by omega) (by omega) (by omega) ?_; intro O3 oc3 u3 ho3 b3)
     have F : HeadL w p A n c (some ⟨bs, os, none⟩) sn sc sg (.slice O3 (on + on2) oc3) (.int .i64 (q : Int)) u3 := ⟨q, O3, on + on2, oc3, _, rfl, by omega, rfl, ho3, by omega, by omega, PP2.out, T2.over b3⟩
     have HF := hid F
     clear F ho3 b3 T2 ho2 o2
     go_wp2
     go_roundw
     case rel => first | exact HF.out | simpa using HF.out
     case measure => simp [intOf]
  ·go_wp2_with fail
   go_meet
   exact ⟨_, _, _, _, rfl, TL⟩
 case rest =>
  rename World => wc
  clear TL hy hy0 EY hb
  obtain ⟨O, on, oc, xs, rfl, TL⟩ := hcut
  have cS : wc.cell? ⟨w.heap.size, 0, none⟩ = some (.slice S sn sc) := TL.z.rS.cell 0
  go_wp2_with fail
  go_region_held3 (fun w' => w'.cell? ⟨w.heap.size, 0, none⟩ = some (.slice S sn sc))
   (go_keep)
   (first
    | (go_at_call 104; refine (below p A n c 3 _ TL.drew.z.d (by omega) (by omega)).mono ?_; rintro e u1 ⟨x, rfl, x0, x1, d1, g1⟩; have T1 := TL.drew.dice d1 g1; have cS1 : u1.cell? ⟨w.heap.size, 0, none⟩ = some (.slice S sn sc) := T1.z.rS.cell 0; have hw : IntKind.i64.wrap (1 + x) = 1 + x := by rw [IntKind.wrap_i64]; omega)
    | (go_at_call 109; refine (drawTermW p A n c S sn sc sg 2 hs (by omega) (by omega) (by omega) (by omega) 2 (1 + x) u1 T1.z.d (T1.z.s.more T1.z.g.size) (by omega) (by clear hw; omega) (by clear hw; omega)).mono ?_; rintro e u2 ⟨P, pn, pc, ys, rfl, o2, h1, h2, sx, d2, g2⟩; have T2 := T1.dice d2 g2; have zl := fun k hk => (Own.blk_lt T1.l k hk); have cS2 : u2.cell? ⟨w.heap.size, 0, none⟩ = some (.slice S sn sc) := T2.z.rS.cell 0))
  have z1 := TL.z.rR.lt
  have z2 := g1.size
  have TR : RR w p A n c S sn sc sg O on oc xs P pn pc ys u2 := ⟨T2, ⟨u1.heap.size, o2, by have z3 : wc.heap.size ≤ u1.heap.size := z2; omega, zl⟩, h2⟩
  obtain ⟨gp, rfl⟩ := Own.some_ o2 h1
  have hgp := fun k hk => Own.ge o2 k hk
  have H0 : HeadR w p A n c S sn sc sg O on oc xs (some ⟨gp, 0, none⟩) pn pc (.int .i64 0) u2 := ⟨0, ys, rfl, by omega, TR⟩
  have HH := hid H0
  have hp16 : pn ≤ 16 := h2
  clear H0 TR hw TL T1 T2 o2 zl d1 g1 d2 g2 cS cS1 cS2 h2 sx x0 x1 z1 z2
  go_wp2_with fail
  go_loopw [9] (fun i wr => HeadR w p A n c S sn sc sg O on oc xs (some ⟨gp, 0, none⟩) pn pc i wr) (fun i _ => pn - (intOf i).toNat)
  case atStart => exact HH.out
  case round =>
   obtain ⟨k, ys, rfl, hk, T⟩ := hrel
   clear HH
   have cR : wr.cell? ⟨w.heap.size + 1, 0, none⟩ = some (.slice none 0 0) := T.z.z.rR.cell 0
   have cR1 : wr.cell? ⟨w.heap.size + 1, 1, none⟩ = some (.slice none 0 0) := T.z.z.rR.cell 1
   have fR : wr.frozen? ⟨w.heap.size + 1, 0, none⟩ = false := T.z.z.rR.free 0
   have fR1 : wr.frozen? ⟨w.heap.size + 1, 1, none⟩ = false := T.z.z.rR.free 1
   by_cases hlt : k < pn
   ·obtain ⟨B, hO, hB, hl⟩ := T.r
    obtain ⟨b2, off2, y, eP, hb2, hy2, ey2⟩ := (Own.seg hO).spot hlt
    injection eP with eP
    injection eP with eP1 eP2
    subst eP1 eP2
    have hy2' : wr.cell? ⟨gp, k, none⟩ = some (.int .i64 y) := by simpa using hy2
    have i1 : (k : Int) < (pn : Int) := by omega
    have zR := T.z.z.rR.lt
    have hge := Own.ge hO gp rfl
    by_cases hneg : y < 0
    ·have L := hid (l1Has O on oc xs y wr (Own.seg T.z.l) (by have := T.z.h2; omega))
     by_cases hin : y ∈ xs
     ·rw [decide_eq_true hin] at L
      have F := hid (show HeadR w p A n c S sn sc sg O on oc xs (some ⟨gp, 0, none⟩) pn pc (.int .i64 ((k : Int) + 1)) wr from ⟨k + 1, ys, by simp, by omega, T⟩)
      clear T hO
      go_wp2_with fail
      refine L.out.mono ?_
      rintro e w' ⟨rfl, rfl⟩
      clear L
      go_wp2
      go_roundw
      case rel => exact F.out
      case measure => first | (simp [intOf]; done) | (simp [intOf]; omega)
     ·rw [decide_eq_false hin] at L
      have L2 := hid (l2Order O on oc xs wr (Own.seg T.z.l) (by have := T.z.h2; omega))
      go_wp2_with fail
      refine L.out.mono ?_
      rintro e w' ⟨rfl, rfl⟩
      clear L
      go_wp2_with fail
      refine L2.out.mono ?_
      rintro e w2 ⟨V, vn, vc, rfl, ov, b3⟩
      replace T := T.next b3
      have cR : w2.cell? ⟨w.heap.size + 1, 0, none⟩ = some (.slice none 0 0) := T.z.z.rR.cell 0
      have cR1 : w2.cell? ⟨w.heap.size + 1, 1, none⟩ = some (.slice none 0 0) := T.z.z.rR.cell 1
      have fR : w2.frozen? ⟨w.heap.size + 1, 0, none⟩ = false := T.z.z.rR.free 0
      have fR1 : w2.frozen? ⟨w.heap.size + 1, 1, none⟩ = false := T.z.z.rR.free 1
      have cS : w2.cell? ⟨w.heap.size, 0, none⟩ = some (.slice S sn sc) := T.z.z.rS.cell 0
      by_cases hv0 : vn = 0
      ·subst hv0
       have hon := hid (Own.len T.z.l)
       have ho1 := T.z.h1
       obtain ⟨a, rfl⟩ : ∃ a, on = a + 1 := ⟨on - 1, by omega⟩
       obtain ⟨j, hj, hj1, hj2⟩ := scan_at T.z.sc (show a < xs.length by have := hon.out; omega)
       have hcap := Own.cap T.z.l
       have L3 := hid (l1Sub S O sn sc (a + 1) oc sg xs a j w2 (T.z.z.s.more T.z.z.g.size).seg (Own.seg T.z.l) (by omega) (by have := T.z.h2; omega) hcap.1 hcap.2 hs (by omega) hj hj1 (by have := hon.out; omega))
       clear L2 hO hj hj2 cR cR1 fR fR1
       go_wp2_with fail
       refine L3.out.mono ?_
       rintro e w3 ⟨D, dn, dc, rfl, od, b4⟩
       replace T := T.next b4
       have cR : w3.cell? ⟨w.heap.size + 1, 0, none⟩ = some (.slice none 0 0) := T.z.z.rR.cell 0
       have cR1 : w3.cell? ⟨w.heap.size + 1, 1, none⟩ = some (.slice none 0 0) := T.z.z.rR.cell 1
       have fR : w3.frozen? ⟨w.heap.size + 1, 0, none⟩ = false := T.z.z.rR.free 0
       have fR1 : w3.frozen? ⟨w.heap.size + 1, 1, none⟩ = false := T.z.z.rR.free 1
       have hdn : dn ≤ 16 := by
        rw [Own.len od]
        have := T.z.h2
        unfold subL
        rw [List.length_take, List.length_drop]
        have := hon.out
        omega
       have z5 := b3.size
       have F := hid (rule_result T.z.z.g T.z.z.d hp T.z.l od (by omega) T.z.h2 hdn)
       clear T od L3 b3 b4 cS ov
       go_wp2
       exact bodyPost_ret (v := .agg #[.slice O (a + 1) oc, .slice D dn dc]) (by simp [results, Tryz.results145, go_sem, cR, cR1]) rfl F.out
      ·obtain ⟨b4, off4, v, rfl, hb4, hv4, ev4⟩ := (Own.seg ov).spot (show 0 < vn by omega)
       have hv4' : w2.cell? ⟨b4, off4, none⟩ = some (.int .i64 v) := hv4
       have T2 := T.put k v
       have F := hid (show HeadR w p A n c S sn sc sg O on oc xs (some ⟨gp, 0, none⟩) pn pc (.int .i64 ((k : Int) + 1)) (w2.setCell ⟨gp, k, none⟩ (.int .i64 v)) from ⟨k + 1, _, by simp, by omega, T2⟩)
       have hy3 : w2.cell? ⟨gp, k, none⟩ = some (.int .i64 y) := (b3.cell (p := ⟨gp, k, none⟩) (by show gp < wr.heap.size; omega)).trans hy2'
       have f3 : w2.frozen? ⟨gp, k, none⟩ = false := by
        obtain ⟨B', hO', _⟩ := T.r
        exact Own.frozenAt hO' k
       have e0 : (0 : Int) < (vn : Int) := by omega
       clear T2 T hO L2 ov b3 ev4 cR cR1 fR fR1 hv4
       go_wp2
       go_roundw
       case rel => exact F.out
       case measure => first | (simp [intOf]; done) | (simp [intOf]; omega)
    ·have F := hid (show HeadR w p A n c S sn sc sg O on oc xs (some ⟨gp, 0, none⟩) pn pc (.int .i64 ((k : Int) + 1)) wr from ⟨k + 1, ys, by simp, by omega, T⟩)
     clear T hO
     go_wp2
     go_roundw
     case rel => exact F.out
     case measure => first | (simp [intOf]; done) | (simp [intOf]; omega)
   ·have e1 : k = pn := by omega
    subst e1
    obtain ⟨B, hO, hB, hl⟩ := T.r
    have F := hid (rule_result T.z.z.g T.z.z.d hp T.z.l hO hB T.z.h2 T.h3)
    clear T hO hgp
    go_wp2
    exact bodyPost_ret (v := .agg #[.slice O on oc, .slice (some ⟨gp, 0, none⟩) k pc]) (by simp [results, Tryz.results145, go_sem, cR, cR1]) rfl F.out
end drawRule
end
section
namespace substOk
open Go.RowKit base ints sig term termOk marks app sym sub segs segsHelp termFacts varsMath varsOf fillMath Go.Proofs.YtmoidijngeijkaaGreat.look
set_option maxRecDepth 100000
def goodB (sg t : List Int) : Bool := decide (t.length = 0) || termOkB sg t
def HeadSO (w : World) (A : Option Addr) (n c : Nat) (S : Option Addr) (m c' : Nat) (sg : List Int) (ss : List (List Int)) (i : Value) (wr : World) : Prop :=
 ∃ k : Nat, k ≤ m ∧ i = .int .i64 k ∧ (∀ j, j < k → goodB sg (ss.getD j []) = true) ∧ Row wr w.heap.size 26 #[.slice A n c] ∧ Row wr (w.heap.size + 1) 51 #[.slice S m c'] ∧ Below w.heap.size w wr
theorem headSO_step {w wr : World} {A : Option Addr} {n c : Nat} {S : Option Addr} {m c' : Nat} {sg : List Int} {ss : List (List Int)} {k : Nat} (hk : k < m) (hlow : ∀ j, j < k → goodB sg (ss.getD j []) = true) (hg : goodB sg (ss.getD k []) = true)
  (r1 : Row wr w.heap.size 26 #[.slice A n c]) (r2 : Row wr (w.heap.size + 1) 51 #[.slice S m c']) (hb : Below w.heap.size w wr) : HeadSO w A n c S m c' sg ss (.int .i64 ((k : Int) + 1)) wr :=
 ⟨k + 1, hk, by simp, fun j hj => by
  by_cases e : j = k
  ·subst e; exact hg
  ·exact hlow j (by omega), r1, r2, hb⟩
end substOk
end
section
open Go.Lib (hid)
namespace gives
open Go.RowKit base ints sig term termOk marks app sym sub segs segsHelp termFacts varsMath varsOf fillMath Go.Proofs.YtmoidijngeijkaaGreat.look substOk
set_option maxRecDepth 100000
def givesL (ss : List (List Int)) (i : Nat) : List Int := if (ss.getD i []).length = 0 then vt i else ss.getD i []
theorem gives_var {ss : List (List Int)} {i : Nat} (h : (ss.getD i []).length = 0) : givesL ss i = vt i := by unfold givesL; rw [if_pos h]
theorem gives_term {ss : List (List Int)} {i : Nat} (h : ¬ (ss.getD i []).length = 0) : givesL ss i = ss.getD i [] := by unfold givesL; rw [if_neg h]
theorem gives_out {ss : List (List Int)} {i : Nat} (h : ¬ i < ss.length) : givesL ss i = vt i := gives_var (by simp [List.getD, h])
theorem gives_pos (ss : List (List Int)) (i : Nat) : 1 ≤ (givesL ss i).length := by
 unfold givesL
 split
 ·simp [vt]
 ·omega
set_option maxHeartbeats 2000000 in
theorem l2Gives (S : Option Addr) (m c : Nat) (ss : List (List Int)) (i : Nat) (w : World) (h : Segs w w.heap.size S m ss) (ht : tot ss ≤ 1048576) (hi : i ≤ 1048576) :
  Calls Tryz.prog 121 #[.agg #[.slice S m c], .int .i64 (i : Int)] w (AnsList w (givesL ss i)) := by
 have hm : m ≤ 1048576 := tot_len h.1 ht
 have HT := hid (tot_each ht)
 have HL := hid h.1
 clear ht
 have bel : Below w.heap.size w (w.alloc (.cells #[.slice S m c] 51)) := (Below.refl _ _).alloc (Nat.le_refl _) _
 have i0 : (0 : Int) ≤ (i : Int) := by omega
 have var : ∀ (hv : givesL ss i = vt i), AnsList w (givesL ss i) (.returned (.slice (some ⟨w.heap.size + 1, 0, none⟩) 1 1)) ((w.alloc (.cells #[.slice S m c] 51)).alloc (.cells #[.int .i64 (-1 - (i : Int))] 2)) := fun hv => by
  refine ⟨_, 1, 1, rfl, ?_, bel.alloc (by simp) _⟩
  rw [hv]
  have := Own.of_row (base := w.heap.size) (n := 1) (c := 1) (xs := vt i) (Row.new (w.alloc (.cells #[.slice S m c] 51)) 2 #[.int .i64 (-1 - (i : Int))]) rfl rfl (Nat.le_refl _) (by omega) (by simp) (fun j hj => by
   have e : j = 0 := by omega
   subst e
   rfl)
  simpa using this
 have VAR := hid var
 clear var
 by_cases hlt : i < m
 ·obtain ⟨b, off, A', n', cc, rfl, hbB, hx, hseg, hcap⟩ := h.spot hlt
  have hx1 : (w.alloc (.cells #[.slice (some ⟨b, off, none⟩) m c] 51)).cell? ⟨b, off + i, none⟩ = some (.slice A' n' cc) := (bel.cell (p := ⟨b, off + i, none⟩) hbB).trans hx
  by_cases hz : n' = 0
  ·subst hz
   have F := hid (VAR.out (gives_var hseg.1))
   clear h hseg hcap hx bel VAR
   go_enter Tryz.func121, Tryz.ntmps121
   go_wp2
   go_ret
   exact F.out
  ·have hpos : 0 < n' := by omega
   have E := hid (gives_term (ss := ss) (i := i) (by rw [hseg.1]; exact hz))
   have L := hid (copyInts A' n' cc _ _ ((hseg.below bel).more bel.size) hcap.2.2 (by rw [← hseg.1]; exact HT.out i))
   clear h hseg hcap hx VAR
   go_enter Tryz.func121, Tryz.ntmps121
   go_wp2_with fail
   refine L.out.mono ?_
   rintro e w1 ⟨D, dn, dc, rfl, o1, b1⟩
   have F : AnsList w (givesL ss i) (.returned (.slice D dn dc)) w1 := ⟨D, dn, dc, rfl, by rw [E.out]; exact Own.lower o1 bel.size, next_trans bel b1⟩
   have HF := hid F
   clear F o1 b1 bel L
   go_wp2
   go_ret
   exact HF.out
 ·have hge : ¬ (i : Int) < (m : Int) := by omega
  have F := hid (VAR.out (gives_out (by rw [HL.out]; exact hlt)))
  clear h bel VAR
  go_enter Tryz.func121, Tryz.ntmps121
  go_wp2
  go_ret
  exact F.out
theorem lookupIn (S : Option Addr) (m c : Nat) (w : World) :
  Calls Tryz.prog 70 #[.agg #[.slice S m c]] w fun e w' => e = .returned (.func (.func 119) #[] #[.pointer (some ⟨w.heap.size, 0, none⟩)]) ∧ w' = w.alloc (.cells #[.slice S m c] 51) := by
 have hmf : ∀ (fn : Fn) (first cap : Array Value) (w : World), (Instr.makeFunc fn first cap).run Tryz.prog w = .ok (.func fn first cap) w := fun _ _ _ _ => rfl
 go_enter Tryz.func70, Tryz.ntmps70
 go_wp2
 go_ret
 exact ⟨rfl, rfl⟩
set_option maxHeartbeats 2000000 in
theorem lookSubstC (B : Nat) (S : Option Addr) (m c : Nat) (ss : List (List Int)) (w : World) (hB : B < w.heap.size) (hc : w.cell? ⟨B, 0, none⟩ = some (.slice S m c)) (h : Segs w w.heap.size S m ss) (hm : m ≤ 1048576) :
  Looks 119 #[.pointer (some ⟨B, 0, none⟩)] w (givesL ss) 24 := by
 intro W i hb hi
 have cB : W.cell? ⟨B, 0, none⟩ = some (.slice S m c) := (hb.cell (p := ⟨B, 0, none⟩) hB).trans hc
 have h1 := h.below hb
 have HL := hid h.1
 have i0 : (0 : Int) ≤ (i : Int) := by omega
 have LV := hid (varTerm (i : Int) W (by omega) (by omega))
 have hws := hb.size
 clear hB hc h hb
 show Calls Tryz.prog 119 #[.int .i64 (i : Int), .pointer (some ⟨B, 0, none⟩)] W _
 by_cases hlt : i < m
 ·obtain ⟨b, off, A', n', cc, rfl, hbB, hx, hseg0, hcap⟩ := h1.spot hlt
  have hseg := hseg0.more hws
  by_cases hz : n' = 0
  ·subst hz
   have E := hid (gives_var (ss := ss) (i := i) hseg.1)
   clear h1 hseg hseg0 hcap
   go_enter Tryz.func119, Tryz.ntmps119
   go_wp2_with fail
   refine LV.out.mono ?_
   rintro e w1 ⟨D, dn, dc, rfl, o1, b1⟩
   have F : AnsLook w.heap.size W (givesL ss i) (.returned (.slice D dn dc)) w1 := by rw [E.out]; exact look_new o1 b1
   have HF := hid F
   clear F o1 b1 LV
   go_wp2
   go_ret
   exact HF.out
  ·have hpos : 0 < n' := by omega
   have F : AnsLook w.heap.size W (givesL ss i) (.returned (.slice A' n' cc)) W := ⟨A', n', cc, rfl, by rw [gives_term (by rw [hseg.1]; exact hz)]; exact hseg, hcap, fun k hk => .inl (by obtain ⟨b2, off2, e2, hb2, _⟩ := hseg0.2 hpos; rw [e2] at hk; have : b2 = k := Option.some.inj hk; omega), Below.refl _ _⟩
   have HF := hid F
   clear F h1 hseg hseg0 hcap LV
   go_enter Tryz.func119, Tryz.ntmps119
   go_wp2
   go_ret
   exact HF.out
 ·have hge : ¬ (i : Int) < (m : Int) := by omega
  have E := hid (gives_out (ss := ss) (i := i) (by rw [HL.out]; exact hlt))
  clear h1
  go_enter Tryz.func119, Tryz.ntmps119
  go_wp2_with fail
  refine LV.out.mono ?_
  rintro e w1 ⟨D, dn, dc, rfl, o1, b1⟩
  have F : AnsLook w.heap.size W (givesL ss i) (.returned (.slice D dn dc)) w1 := by rw [E.out]; exact look_new o1 b1
  have HF := hid F
  clear F o1 b1 LV
  go_wp2
  go_ret
  exact HF.out
theorem lookSubst (B : Nat) (S : Option Addr) (m c : Nat) (ss : List (List Int)) (w : World) (hr : Row w B 51 #[.slice S m c]) (h : Segs w w.heap.size S m ss) (hm : m ≤ 1048576) :
  Looks 119 #[.pointer (some ⟨B, 0, none⟩)] w (givesL ss) 24 := lookSubstC B S m c ss w hr.lt (hr.cell 0) h hm
theorem tooLong (A : Option Addr) (n c : Nat) (w : World) (hn : n ≤ 9223372036854775807) :
  Calls Tryz.prog 113 #[.slice A n c] w fun e w' => w = w' ∧ e = .returned (.bool (decide (60 < n))) := by
 have E : decide ((60 : Int) < (n : Int)) = decide (60 < n) := decide_eq_decide.2 (by omega)
 rw [← E]
 have HE := hid E
 clear E
 generalize hz : decide ((60 : Int) < (n : Int)) = z
 have HZ := hid hz
 clear hz
 go_enter Tryz.func113, Tryz.ntmps113
 go_wp2
 go_ret
 exact ⟨rfl, by rw [← HZ.out]; rfl⟩
end gives
end
section
open Go.Lib (hid)
namespace plainOf
open Go.RowKit base ints sig cursor marks app appAt sym sub segs segsHelp kinds varsOf fillMath Go.Proofs.YtmoidijngeijkaaGreat.look substOk gives plainMath plain
set_option maxRecDepth 100000
theorem own_one {w : World} {base : Nat} {D : Option Addr} {c : Nat} {x : Int} (h : Own w base (.slice D 1 c) [x]) : ∃ g, D = some ⟨g, 0, none⟩ ∧ w.cell? ⟨g, 0, none⟩ = some (.int .i64 x) := by
 rcases own_form (n := 1) (vs := [x].map (Value.int .i64)) h with ⟨_, h1, _⟩ | ⟨g, cur, e, _, hr, _, _, _, _, hc⟩
 ·omega
 ·refine ⟨g, e, ?_⟩
  rw [hr.cell 0, hc 0 (by omega)]
  rfl
theorem Owns.shrink {w : World} {lo hi m n c : Nat} {A : Option Addr} {xss : List (List Int)} (h : Owns w lo hi A m c xss) (hn : n ≤ m) : Owns w lo hi A n c (xss.take n) := by
 obtain ⟨h1, ⟨vs, hr, hin, hap⟩, h3⟩ := h
 rcases own_form hr with ⟨rfl, h0, rfl, rfl⟩ | ⟨g, cur, rfl, hlo, hrow, hmc, hsz, hmax, hlen, hc⟩
 ·obtain rfl : n = 0 := by omega
  simpa using Owns.nil w lo hi
 ·have e1 : ∀ j, j < n → (cur.toList.take n).getD j undef = vs.getD j undef := fun j hj => by
   have := hc j (by omega)
   simp [List.getD, List.getElem?_take, hj, this]
  have e2 : ∀ j, j < n → (xss.take n).getD j [] = xss.getD j [] := fun j hj => by simp [List.getD, List.getElem?_take, hj]
  refine ⟨by rw [List.length_take, h1]; omega, ⟨_, rowsOf hrow hsz (by omega) hmax hlo, fun j hj => ?_, fun i j k hij hj a b => ?_⟩, h3⟩
  ·rw [e1 j hj, e2 j hj]
   exact hin j (by omega)
  ·rw [e1 i (by omega)] at a
   rw [e1 j hj] at b
   exact hap i j k hij (by omega) a b
def HeadL1 (w : World) (S : Option Addr) (m c : Nat) (ss : List (List Int)) (i : Value) (wr : World) : Prop :=
 ∃ (k : Nat) (A : Option Addr) (cA : Nat), k ≤ m ∧ i = .int .i64 k ∧ Owns wr (w.heap.size + 3) wr.heap.size A k cA (rowsL (givesL ss) k) ∧ Row wr w.heap.size 51 #[.slice S m c] ∧ Row wr (w.heap.size + 1) 51 #[.slice none 0 0] ∧
  Row wr (w.heap.size + 2) 51 #[.slice A k cA] ∧ Below w.heap.size w wr
theorem headL1_step {w wr w1 w5 w6 : World} {S A A' : Option Addr} {m c k cA c' : Nat} {ss : List (List Int)} (hk : k < m) (ho : Owns w6 (w.heap.size + 3) w6.heap.size A' (k + 1) c' (rowsL (givesL ss) (k + 1)))
  (r0 : Row wr w.heap.size 51 #[.slice S m c]) (r1 : Row wr (w.heap.size + 1) 51 #[.slice none 0 0]) (r2 : Row wr (w.heap.size + 2) 51 #[.slice A k cA]) (hb : Below w.heap.size w wr)
  (b1 : Below wr.heap.size wr w1) (b5 : Below w1.heap.size w1 w5) (hg : w5.grownBy w6 (blk A)) (hA : ∀ z, blk A = some z → w.heap.size + 3 ≤ z) :
  HeadL1 w S m c ss (.int .i64 ((k : Int) + 1)) (w6.setCell ⟨w.heap.size + 2, 0, none⟩ (.slice A' (k + 1) c')) := by
 have bb := next_trans b1 b5
 have q0 := Row.away (r0.next bb) hg (fun e => by have := hA _ e; omega)
 have q1 := Row.away (r1.next bb) hg (fun e => by have := hA _ e; omega)
 have q2 := Row.away (r2.next bb) hg (fun e => by have := hA _ e; omega)
 have hbb : Below w.heap.size w w6 := (hb.trans (bb.mono hb.size)).grown hg (by have := hb.size; have := bb.size; omega) (fun z hz => by have := hA z hz; omega)
 refine ⟨k + 1, A', c', hk, by simp, ?_, q0.far (by simp) _, q1.far (by simp) _, ?_, hbb.setCell (by simp) _⟩
 ·have := owns_put ho q2 (by omega) 0 (.slice A' (k + 1) c')
  simpa using this
 ·have := q2.put 0 (.slice A' (k + 1) c')
  simpa using this
def HeadL2 (w : World) (L : Nat → List Int) (m : Nat) (A : Option Addr) (cA : Nat) (p : Value) (wr : World) : Prop :=
 ∃ n : Nat, n ≤ m ∧ p = .pointer (some ⟨w.heap.size + 2, 0, none⟩) ∧ strip ((rowsL L m).take n) = plainL L m ∧ Owns wr (w.heap.size + 3) wr.heap.size A m cA (rowsL L m) ∧ Row wr (w.heap.size + 1) 51 #[.slice none 0 0] ∧
  Row wr (w.heap.size + 2) 51 #[.slice A n cA] ∧ Below w.heap.size w wr
def lenAt (w : World) (p : Addr) : Nat := match w.cell? p with
 | some (.slice _ n _) => n
 | _ => 0
theorem headL2_end {w wr : World} {L : Nat → List Int} {m n cA : Nat} {A : Option Addr} (hn : n ≤ m) (hs : strip ((rowsL L m).take n) = plainL L m) (ho : Owns wr (w.heap.size + 3) wr.heap.size A m cA (rowsL L m))
  (r1 : Row wr (w.heap.size + 1) 51 #[.slice none 0 0]) (hb : Below w.heap.size w wr) (hend : n = 0 ∨ (rowsL L m).getD (n - 1) [] ≠ []) :
  AnsSubst w (plainL L m) (.returned (.agg #[.slice A n cA])) (wr.setCell ⟨w.heap.size + 1, 0, none⟩ (.slice A n cA)) := by
 have e : (rowsL L m).take n = plainL L m := by
  rw [← hs]
  rcases hend with rfl | h
  ·simp [strip]
  ·by_cases h0 : n = 0
   ·subst h0; simp [strip]
   ·have := strip_last (l := rowsL L m) (q := n - 1) (by rw [rows_len]; omega) h
    rw [show n - 1 + 1 = n by omega] at this
    exact this.symm
 have h1 := Owns.shrink (owns_put ho r1 (by omega) 0 (.slice A n cA)) hn
 rw [e] at h1
 exact ⟨A, n, cA, rfl, h1.wider (by omega) (by simp), hb.setCell (by simp) _⟩
set_option maxHeartbeats 8000000 in
theorem l2Plain (S : Option Addr) (m c : Nat) (ss : List (List Int)) (w : World) (h : Segs w w.heap.size S m ss) (ht : tot ss ≤ 1048576) :
  Calls Tryz.prog 136 #[.agg #[.slice S m c]] w (AnsSubst w (plainL (givesL ss) m)) := by
 have HT := hid ht
 have hm : m ≤ 1048576 := tot_len h.1 ht
 have HE := hid (tot_each ht)
 clear ht
 go_enter Tryz.func136, Tryz.ntmps136
 go_wp2_with fail
 go_loopw [4] (fun i wr => HeadL1 w S m c ss i wr) (fun i _ => m - (intOf i).toNat)
 case atStart =>
  have b0 : Below w.heap.size w (((w.alloc (.cells #[.slice S m c] 51)).alloc (.cells #[.slice none 0 0] 51)).alloc (.cells #[.slice none 0 0] 51)) := (((Below.refl _ _).alloc (Nat.le_refl _) _).alloc (by simp) _).alloc (by simp; omega) _
  have q1 := Row.new (w.alloc (.cells #[.slice S m c] 51)) 51 #[.slice none 0 0]
  have q2 := Row.new ((w.alloc (.cells #[.slice S m c] 51)).alloc (.cells #[.slice none 0 0] 51)) 51 #[.slice none 0 0]
  refine ⟨0, none, 0, Nat.zero_le _, rfl, by simpa [rowsL] using Owns.nil _ _ _, ((Row.new w 51 #[.slice S m c]).alloc _).alloc _, ?_, ?_, b0⟩
  ·have := q1.alloc (.cells #[.slice none 0 0] 51); simpa using this
  ·simpa using q2
 case round =>
  obtain ⟨k, A, cA, hk, rfl, ho, r0, r1, r2, hb⟩ := hrel
  have c0 : wr.cell? ⟨w.heap.size, 0, none⟩ = some (.slice S m c) := r0.cell 0
  have cO : wr.cell? ⟨w.heap.size + 2, 0, none⟩ = some (.slice A k cA) := r2.cell 0
  have i0 : (0 : Int) ≤ (k : Int) := by omega
  by_cases hlt : k < m
  ·have i1 : (k : Int) < (m : Int) := by omega
   have LG := hid (l2Gives S m c ss k wr ((h.below hb).more hb.size) HT.out (by omega))
   have HA : Hid (∀ z, blk A = some z → w.heap.size + 3 ≤ z) := hid (fun z hz => by
    obtain ⟨vs, hown, _⟩ := ho.row
    exact (World.ownsRow.lt hown z (by rw [blk_own]; exact hz)).1)
   have hw1 : IntKind.i64.wrap (-1 - (k : Int)) = -1 - (k : Int) := by rw [IntKind.wrap_i64]; omega
   have hrl := r2.lt
   obtain ⟨ys, hys⟩ : ∃ ys, givesL ss k = ys := ⟨_, rfl⟩
   rw [hys] at LG
   have hlen : ys.length ≤ 1048576 := by
    rw [← hys]
    unfold givesL
    split
    ·simp [vt]
    ·exact HE.out k
   have RS := hid (rows_succ (givesL ss) k)
   by_cases h1 : ys.length = 1
   ·obtain ⟨x, rfl⟩ : ∃ x, ys = [x] := by
     match ys, h1 with
     | [x], _ => exact ⟨x, rfl⟩
    by_cases hx : x = -1 - (k : Int)
    ·have RB := hid (show bare (givesL ss) k = [] by unfold bare; rw [if_pos (by rw [hys, hx]; rfl)])
     have DX : (x == -1 - (k : Int)) = true := by simp [hx]
     clear hx hys
     go_wp2_with (first
      | (go_at_call 121; go_must (refine LG.out.mono ?_; rintro e w1 ⟨D, dn, dc, rfl, od, bb⟩; obtain rfl : dn = 1 := Own.len od; obtain ⟨gD, rfl, cD⟩ := own_one od; have cO1 : w1.cell? ⟨w.heap.size + 2, 0, none⟩ = some (.slice A k cA) := (r2.next bb).cell 0; have e5 : ((w1.alloc (.cells #[] 2)).alloc (.cells #[.slice (some ⟨w1.heap.size, 0, none⟩) 0 0] 24)).cell? ⟨w1.heap.size + 1, 0, none⟩ = some (.slice (some ⟨w1.heap.size, 0, none⟩) 0 0) := (by simp); have c15 : (w1.alloc (.cells #[] 2)).cell? ⟨w.heap.size + 2, 0, none⟩ = some (.slice A k cA) := ((r2.next bb).alloc (.cells #[] 2)).cell 0; have B5 : Below w1.heap.size w1 ((w1.alloc (.cells #[] 2)).alloc (.cells #[.slice (some ⟨w1.heap.size, 0, none⟩) 0 0] 24)) := ((Below.refl _ _).alloc (Nat.le_refl _) _).alloc (by simp) _; have hz5 := B5.size; have hz1 := bb.size; have ho5 := (ho.next bb).next B5; have i5 : Inn ((w1.alloc (.cells #[] 2)).alloc (.cells #[.slice (some ⟨w1.heap.size, 0, none⟩) 0 0] 24)) wr.heap.size ((w1.alloc (.cells #[] 2)).alloc (.cells #[.slice (some ⟨w1.heap.size, 0, none⟩) 0 0] 24)).heap.size (.slice (some ⟨w1.heap.size, 0, none⟩) 0 0) [] := Inn.wider ((inn_own (own_empty w1 wr.heap.size bb.size)).next ((Below.refl _ _).alloc (Nat.le_refl _) _)) (Nat.le_refl _) (by simp); have r25 := (r2.next bb).next B5; have c25 : ((w1.alloc (.cells #[] 2)).alloc (.cells #[.slice (some ⟨w1.heap.size, 0, none⟩) 0 0] 24)).cell? ⟨w.heap.size + 2, 0, none⟩ = some (.slice A k cA) := r25.cell 0))
      | (at_builtin; go_must (refine appS1 rfl _ _ rfl (w.heap.size + 3) wr.heap.size A k cA (rowsL (givesL ss) k) rfl ho5 _ 1 (.slice (some ⟨w1.heap.size, 0, none⟩) 0 0) [] rfl e5 i5 (by omega) (by omega) (by omega) ?_; intro A' c' w6 ho6 hg6 hat6 b6; have q2 := Row.away r25 hg6 (fun e => by have := HA.out _ e; omega); have c26 : w6.cell? ⟨w.heap.size + 2, 0, none⟩ = some (.slice A k cA) := q2.cell 0; have f26 : w6.frozen? ⟨w.heap.size + 2, 0, none⟩ = false := q2.free 0)))
     have S := hid (headL1_step (ss := ss) hlt (by rw [RS.out, RB.out]; exact ho6) r0 r1 r2 hb bb B5 hg6 HA.out)
     clear ho6 hg6 hat6 b6 ho5 i5 r25 c25 c15 q2 od bb B5 r0 r1 r2 hb ho RS RB LG cO1
     go_wp2
     go_roundw
     case rel => exact S.out
     case measure => simp [intOf]; omega
    ·have RB := hid (show bare (givesL ss) k = [x] by unfold bare; rw [if_neg (by rw [hys]; unfold vt; intro e; injection e with e; exact hx e), hys])
     have DX : (x == -1 - (k : Int)) = false := by simp [hx]
     clear hx hys
     go_wp2_with (first
      | (go_at_call 121; refine LG.out.mono ?_; rintro e w1 ⟨D, dn, dc, rfl, od, bb⟩; obtain rfl : dn = 1 := Own.len od; obtain ⟨gD, rfl, cD⟩ := own_one od; have cO1 : w1.cell? ⟨w.heap.size + 2, 0, none⟩ = some (.slice A k cA) := (r2.next bb).cell 0; have B5 : Below w1.heap.size w1 (w1.alloc (.cells #[.slice (some ⟨gD, 0, none⟩) 1 dc] 24)) := (Below.refl _ _).alloc (Nat.le_refl _) _; have hz5 := B5.size; have hz1 := bb.size; have ho5 := (ho.next bb).next B5; have i5 : Inn (w1.alloc (.cells #[.slice (some ⟨gD, 0, none⟩) 1 dc] 24)) wr.heap.size (w1.alloc (.cells #[.slice (some ⟨gD, 0, none⟩) 1 dc] 24)).heap.size (.slice (some ⟨gD, 0, none⟩) 1 dc) [x] := Inn.wider ((inn_own od).next ((Below.refl _ _).alloc (Nat.le_refl _) _)) (Nat.le_refl _) (by simp); have r25 := (r2.next bb).next B5; have c25 : (w1.alloc (.cells #[.slice (some ⟨gD, 0, none⟩) 1 dc] 24)).cell? ⟨w.heap.size + 2, 0, none⟩ = some (.slice A k cA) := r25.cell 0)
      | (at_builtin; refine appS1 rfl _ _ rfl (w.heap.size + 3) wr.heap.size A k cA (rowsL (givesL ss) k) rfl ho5 _ 1 (.slice (some ⟨gD, 0, none⟩) 1 dc) [x] rfl ((Row.new _ _ _).cell 0) i5 (by omega) (by omega) (by omega) ?_; intro A' c' w6 ho6 hg6 hat6 b6; have q2 := Row.away r25 hg6 (fun e => by have := HA.out _ e; omega); have c26 : w6.cell? ⟨w.heap.size + 2, 0, none⟩ = some (.slice A k cA) := q2.cell 0; have f26 : w6.frozen? ⟨w.heap.size + 2, 0, none⟩ = false := q2.free 0))
     have S := hid (headL1_step (ss := ss) hlt (by rw [RS.out, RB.out]; exact ho6) r0 r1 r2 hb bb B5 hg6 HA.out)
     clear ho6 hg6 hat6 b6 ho5 i5 r25 c25 q2 od bb B5 r0 r1 r2 hb ho RS RB LG cO1
     go_wp2
     go_roundw
     case rel => exact S.out
     case measure => simp [intOf]; omega
   ·have RB := hid (show bare (givesL ss) k = ys by unfold bare; rw [if_neg (by rw [hys]; unfold vt; intro e; rw [e] at h1; exact h1 rfl), hys])
    clear hys
    go_wp2_with (first
     | (go_at_call 121; refine LG.out.mono ?_; rintro e w1 ⟨D, dn, dc, rfl, od, bb⟩; have hdn : ¬ dn = 1 := (by rw [Own.len od]; exact h1); have hdz : ¬ (dn : Int) = 1 := (by omega); have hdb : (((dn : Nat) : Int) == 1) = false := (by simp; omega); have cO1 : w1.cell? ⟨w.heap.size + 2, 0, none⟩ = some (.slice A k cA) := (r2.next bb).cell 0; have B5 : Below w1.heap.size w1 (w1.alloc (.cells #[.slice D dn dc] 24)) := (Below.refl _ _).alloc (Nat.le_refl _) _; have hz5 := B5.size; have hz1 := bb.size; have ho5 := (ho.next bb).next B5; have i5 : Inn (w1.alloc (.cells #[.slice D dn dc] 24)) wr.heap.size (w1.alloc (.cells #[.slice D dn dc] 24)).heap.size (.slice D dn dc) ys := Inn.wider ((inn_own od).next ((Below.refl _ _).alloc (Nat.le_refl _) _)) (Nat.le_refl _) (by simp); have r25 := (r2.next bb).next B5; have c25 : (w1.alloc (.cells #[.slice D dn dc] 24)).cell? ⟨w.heap.size + 2, 0, none⟩ = some (.slice A k cA) := r25.cell 0)
     | (at_builtin; refine appS1 rfl _ _ rfl (w.heap.size + 3) wr.heap.size A k cA (rowsL (givesL ss) k) rfl ho5 _ 1 (.slice D dn dc) ys rfl ((Row.new _ _ _).cell 0) i5 (by omega) (by omega) (by omega) ?_; intro A' c' w6 ho6 hg6 hat6 b6; have q2 := Row.away r25 hg6 (fun e => by have := HA.out _ e; omega); have c26 : w6.cell? ⟨w.heap.size + 2, 0, none⟩ = some (.slice A k cA) := q2.cell 0; have f26 : w6.frozen? ⟨w.heap.size + 2, 0, none⟩ = false := q2.free 0))
    have S := hid (headL1_step (ss := ss) hlt (by rw [RS.out, RB.out]; exact ho6) r0 r1 r2 hb bb B5 hg6 HA.out)
    clear ho6 hg6 hat6 b6 ho5 i5 r25 c25 q2 od bb B5 r0 r1 r2 hb ho RS RB LG cO1
    go_wp2
    go_roundw
    case rel => exact S.out
    case measure => simp [intOf]; omega
  ·obtain rfl : k = m := by omega
   have HC := hid ho.cap
   have H2 : HeadL2 w (givesL ss) k A cA (.pointer (some ⟨w.heap.size + 2, 0, none⟩)) wr := ⟨k, Nat.le_refl _, rfl, by rw [List.take_of_length_le (by rw [rows_len]; exact Nat.le_refl _)]; rfl, ho, r1, r2, hb⟩
   have HH2 := hid H2
   have hc1 : cA ≤ 9223372036854775807 := ho.cap.2.1
   have hc0 : k ≤ cA := ho.cap.1
   clear H2 ho r0 r1 r2 hb cO h
   go_wp2_with fail
   go_loopw [] (fun wr => HeadL2 w (givesL ss) k A cA (.pointer (some ⟨w.heap.size + 2, 0, none⟩)) wr) (fun wr => lenAt wr ⟨w.heap.size + 2, 0, none⟩)
   case atStart => exact HH2.out
   case round =>
    obtain ⟨n, hn, -, hs, ho, r1, r2, hb⟩ := hrel
    clear HH2
    have cO : wr.cell? ⟨w.heap.size + 2, 0, none⟩ = some (.slice A n cA) := r2.cell 0
    have fO : wr.frozen? ⟨w.heap.size + 2, 0, none⟩ = false := r2.free 0
    have cR : wr.cell? ⟨w.heap.size + 1, 0, none⟩ = some (.slice none 0 0) := r1.cell 0
    have fR : wr.frozen? ⟨w.heap.size + 1, 0, none⟩ = false := r1.free 0
    by_cases h0 : n = 0
    ·subst h0
     have F := hid (headL2_end hn hs ho r1 hb (.inl rfl))
     clear hs ho r1 r2 hb
     go_wp2
     exact bodyPost_ret (v := .agg #[.slice A 0 cA]) (by simp [results, Tryz.results136, go_sem, cR]) rfl F.out
    ·obtain ⟨p, rfl⟩ : ∃ p, n = p + 1 := ⟨n - 1, by omega⟩
     obtain ⟨b, off, A', q, cq, rfl, hbb, hx, hseg, hcap⟩ := ho.segs.spot (k := p) (by omega)
     have p0 : (0 : Int) ≤ (p : Int) := by omega
     have p1 : ((p + 1 : Nat) : Int) - 1 = (p : Int) := by omega
     have p2 : (p : Int) ≤ (cA : Int) := by omega
     have p3 : (p : Int) < ((p + 1 : Nat) : Int) := by omega
     have p4 : (0 : Int) < ((p + 1 : Nat) : Int) := by omega
     have hw2 : IntKind.i64.wrap (p : Int) = (p : Int) := by rw [IntKind.wrap_i64]; omega
     by_cases hq : q = 0
     ·subst hq
      have hnil : (rowsL (givesL ss) k).getD p [] = [] := List.eq_nil_of_length_eq_zero hseg.1
      have S1 : HeadL2 w (givesL ss) k (some ⟨b, off, none⟩) cA (.pointer (some ⟨w.heap.size + 2, 0, none⟩)) (wr.setCell ⟨w.heap.size + 2, 0, none⟩ (.slice (some ⟨b, off, none⟩) p cA)) := by
       refine ⟨p, by omega, rfl, by rw [← strip_drop (by rw [rows_len]; omega) hnil]; exact hs, ?_, r1.far (by simp) _, ?_, hb.setCell (by simp) _⟩
       ·have := owns_put ho r2 (by omega) 0 (.slice (some ⟨b, off, none⟩) p cA)
        simpa using this
       ·have := r2.put 0 (.slice (some ⟨b, off, none⟩) p cA)
        simpa using this
      have HS1 := hid S1
      have E1 : (wr.setCell ⟨w.heap.size + 2, 0, none⟩ (.slice (some ⟨b, off, none⟩) p cA)).cell? ⟨w.heap.size + 2, 0, none⟩ = some (.slice (some ⟨b, off, none⟩) p cA) := by have := (r2.put 0 (.slice (some ⟨b, off, none⟩) p cA)).cell 0; simpa using this
      have HLT := hid (show lenAt (wr.setCell ⟨w.heap.size + 2, 0, none⟩ (.slice (some ⟨b, off, none⟩) p cA)) ⟨w.heap.size + 2, 0, none⟩ < lenAt wr ⟨w.heap.size + 2, 0, none⟩ by simp only [lenAt, E1, cO]; omega)
      clear S1 E1 hs ho r1 r2 hb hseg hcap hnil
      go_wp2
      go_roundw
      case rel => exact HS1.out
      case measure => exact HLT.out
     ·have hq1 : (0 : Int) < (q : Int) := by omega
      have F := hid (headL2_end hn hs ho r1 hb (.inr (fun e => by rw [show p + 1 - 1 = p by omega] at e; rw [e] at hseg; exact hq hseg.1.symm)))
      clear hs ho r1 r2 hb hseg hcap
      go_wp2
      exact bodyPost_ret (v := .agg #[.slice (some ⟨b, off, none⟩) (p + 1) cA]) (by simp [results, Tryz.results136, go_sem, cR]) rfl F.out
theorem tot_le {xss : List (List Int)} {M : Nat} (h : ∀ j, (xss.getD j []).length ≤ M) : tot xss ≤ xss.length + xss.length * M := by
 have : ∀ k, k ≤ xss.length → sumL xss k ≤ k * M := fun k => by
  induction k with
  | zero => intro _; simp [sumL]
  | succ k ih =>
   intro hk
   rw [sumL_succ (by omega)]
   have h1 := ih (by omega)
   have h2 := h k
   rw [Nat.succ_mul]
   omega
 unfold tot
 have := this xss.length (Nat.le_refl _)
 omega
end plainOf
end
section
namespace compMath
open term termOk termFacts segsHelp fillMath substOk gives plainMath plainOf
def compL (us ss : List (List Int)) (i : Nat) : List Int := fillL (givesL us) (givesL ss i)
def outL (us ss : List (List Int)) (k : Nat) : List (List Int) := (List.range k).map (compL us ss)
theorem out_len (us ss : List (List Int)) (k : Nat) : (outL us ss k).length = k := by simp [outL]
end compMath
end
section
namespace shifted
open Go.RowKit base ints sig term termOk marks app sym segs termFacts varsMath fillMath Go.Proofs.YtmoidijngeijkaaGreat.look
set_option maxRecDepth 100000
def AnsPairO (w : World) (ys : List Int) (b : Bool) (e : Ending) (w' : World) : Prop := ∃ A n c, e = .returned (.tuple #[.slice A n c, .bool b]) ∧ Own w' w.heap.size (.slice A n c) ys ∧ Below w.heap.size w w'
end shifted
end
section
open Go.Lib (hid)
namespace filled
open Go.RowKit base ints sig cursor term termOk marks app appAt sym sub segs segsHelp termFacts varsMath varsOf fillMath Go.Proofs.YtmoidijngeijkaaGreat.look shifted substOk gives
set_option maxRecDepth 100000
theorem stepAppAll {w : World} {ops : Array Oper} {o : Oper} {a : Act} {K : Act → World → Prop} {Q : Exit → Act → World → Prop} {E : Prop} (hgd : o.guard = none) (s x : Operand)
  (ho : o.op = .call { callee := .builtin .append, args := #[s, x], argTypes := #[24, 24] })
  (base : Nat) (A : Option Addr) (n c : Nat) (xs : List Int) (hs : a.eval s = .slice A n c) (hown : Own w base (.slice A n c) xs)
  (S : Option Addr) (m c2 B : Nat) (ys : List Int) (hx : a.eval x = .slice S m c2) (hseg : Seg w B S m ys) (hm1 : 1 ≤ m) (hn : n ≤ 2097152) (hm : m ≤ 2097152) (hbase : base ≤ w.heap.size)
  (h : ∀ g' c' w', Own w' base (.slice (some ⟨g', 0, none⟩) (n + m) c') (xs ++ ys) → w.grownBy w' (blk A) → (blk A = some g' ∨ g' = w.heap.size) → g' < w'.heap.size → K (a.put o.dst (.slice (some ⟨g', 0, none⟩) (n + m) c')) w') :
  if Region.wanted o (yielded ops a.tmps) = true then Oper.wp Tryz.prog o a w K Q else E := by
 obtain ⟨i0, hi, hz0, hz1, hz2⟩ := info_parts info_i64
 have hl : xs.length = n := by
  obtain ⟨A', c', e⟩ := hown.slice
  exact (Value.slice.inj e).2.1.symm
 have hob : (Value.slice A n c).ownBlock = blk A := by cases A <;> rfl
 obtain ⟨b, off, e, _, hc⟩ := hseg.2 (by omega)
 subst e
 refine step_append_lies w hgd s x 24 ho base 2 i0 (.int .i64 0) 1 8 Tryz.underlying24 hi hz0 hz1 hz2 rfl (by decide) (.slice A n c) n (xs.map (Value.int .i64)) hs (by rw [← hl]; rw [← hl] at hown; exact hown)
  ⟨b, off, none⟩ m c2 (ys.map (Value.int .i64)) hx (by simp [hseg.1]) (fun j u hj => ?_) (fun u hu => ?_) (by omega) (by unfold maxLen; omega) (by omega) hbase w.heap.size rfl ?_
 ·have hjl : j < m := by
   have := (List.getElem?_eq_some_iff.1 hj).1
   simp at this
   have := hseg.1
   omega
  have hcj := hc j hjl
  have e2 : (⟨b, off, none⟩ : Addr).add j = ⟨b, off + j, none⟩ := by unfold Addr.add; split <;> simp_all
  rw [e2, hcj, ← hj]
  have := hseg.1
  simp [List.getD, show j < ys.length by omega]
 ·obtain ⟨y, _, rfl⟩ := List.mem_map.1 hu
  rfl
 ·intro g' c' w' hown' hg hat hlt
  rw [← List.map_append] at hown'
  rw [hob] at hg hat
  refine h g' c' w' ?_ hg hat hlt
  have hl2 : (xs ++ ys).length = n + m := by simp [hl, hseg.1]
  unfold Own
  rw [hl2]
  exact hown'
def fitsB (ss : List (List Int)) (t : List Int) : Bool := decide ((fillL (givesL ss) t).length ≤ 60)
def fitL (ss : List (List Int)) (t : List Int) : List Int := if fitsB ss t = true then fillL (givesL ss) t else []
theorem fits_no {ss : List (List Int)} {t : List Int} {k : Nat} (h : 60 < (fillL (givesL ss) (t.take k)).length) : fitsB ss t = false := by
 have e : fillL (givesL ss) t = fillL (givesL ss) (t.take k) ++ fillL (givesL ss) (t.drop k) := by rw [← fill_append, List.take_append_drop]
 unfold fitsB
 rw [e, List.length_append]
 simp
 omega
def HeadF (w : World) (S : Option Addr) (m c mt : Nat) (ss : List (List Int)) (t : List Int) (out i : Value) (wr : World) : Prop :=
 ∃ (k : Nat) (O : Option Addr) (on oc : Nat), k ≤ mt ∧ i = .int .i64 k ∧ out = .slice O on oc ∧ on ≤ 60 ∧ Own wr (w.heap.size + 1) (.slice O on oc) (fillL (givesL ss) (t.take k)) ∧ Row wr w.heap.size 51 #[.slice S m c] ∧ Below w.heap.size w wr
theorem pairF_no {w wr : World} {ss : List (List Int)} {t : List Int} (h : fitsB ss t = false) (hb : Below w.heap.size w wr) : AnsPairO w (fitL ss t) (fitsB ss t) (.returned (.tuple #[.slice (some ⟨wr.heap.size, 0, none⟩) 0 0, .bool false])) (wr.alloc (.cells #[] 2)) :=
 ⟨_, 0, 0, by rw [h], by unfold fitL; rw [if_neg (by rw [h]; simp)]; exact own_empty wr w.heap.size hb.size, hb.alloc hb.size _⟩
set_option maxHeartbeats 8000000 in
theorem l2Filled (S A : Option Addr) (m c mt ct : Nat) (ss : List (List Int)) (t : List Int) (w : World) (h : Segs w w.heap.size S m ss) (h' : Seg w w.heap.size A mt t) (ht : tot ss ≤ 1048576) (hmt : mt ≤ 60) (hv : ∀ x ∈ t, -24 ≤ x) (hM : ∀ i, (givesL ss i).length ≤ 60) :
  Calls Tryz.prog 73 #[.agg #[.slice S m c], .slice A mt ct] w (AnsPairO w (fitL ss t) (fitsB ss t)) := by
 have HL := hid h'.1
 have HV := hid hv
 have HM := hid hM
 have HT := hid ht
 have S0 : HeadF w S m c mt ss t (.slice (some ⟨w.heap.size + 1, 0, none⟩) 0 0) (.int .i64 0) ((w.alloc (.cells #[.slice S m c] 51)).alloc (.cells #[] 2)) :=
  ⟨0, _, _, _, Nat.zero_le _, rfl, rfl, by omega, by have := own_empty (w.alloc (.cells #[.slice S m c] 51)) (w.heap.size + 1) (by simp); simpa [fillL] using this, (Row.new _ _ _).alloc _, ((Below.refl _ _).alloc (Nat.le_refl _) _).alloc (by simp) _⟩
 have HS0 := hid S0
 clear S0 hv hM ht
 go_enter Tryz.func73, Tryz.ntmps73
 go_wp2_with fail
 go_loopw [6, 7] (fun out i wr => HeadF w S m c mt ss t out i wr) (fun _ i _ => mt - (intOf i).toNat)
 case atStart => exact HS0.out
 case round =>
  obtain ⟨k, O, on, oc, hk, rfl, rfl, hon, ho, hr, hb⟩ := hrel
  clear HS0
  have hsz := hr.lt
  by_cases hlt : k < mt
  ·obtain ⟨b, off, x, rfl, hbb, hx, ex⟩ := h'.spot hlt
   have hx1 : wr.cell? ⟨b, off + k, none⟩ = some (.int .i64 x) := (hb.cell (p := ⟨b, off + k, none⟩) hbb).trans hx
   have hbr : b < wr.heap.size := Nat.lt_of_lt_of_le hbb hb.size
   have cS : wr.cell? ⟨w.heap.size, 0, none⟩ = some (.slice S m c) := hr.cell 0
   have hmem : x ∈ t := by
    have hkl : k < t.length := by rw [HL.out]; exact hlt
    have := ex.out
    rw [← this]
    simp [List.getD, hkl]
   have hx24 : -24 ≤ x := HV.out x hmem
   have E := hid (fill_take (L := givesL ss) (t := t) (k := k) (by rw [HL.out]; exact hlt) ex.out)
   have i0 : (0 : Int) ≤ (k : Int) := by omega
   have i1 : (k : Int) < (mt : Int) := by omega
   have HN := hid (Own.len ho)
   have hx0 := hx
   clear hmem hx h' ex
   by_cases hpos : 0 ≤ x
   ·have R := hid (rep_sym (L := givesL ss) hpos)
    have d1 : decide (x < 0) = false := by simp; omega
    by_cases h60 : on + 1 ≤ 60
    ·go_wp2_with (at_builtin; refine app1 rfl _ _ rfl (w.heap.size + 1) O on oc (fillL (givesL ss) (t.take k)) rfl (Own.alloc ho _) wr.heap.size 1 x rfl ((Row.new _ _ _).cell 0) (by omega) (by simp; omega) ?_; intro O' oc' w2 ho2 b2)
     have S1 : HeadF w S m c mt ss t (.slice O' (on + 1) oc') (.int .i64 ((k : Int) + 1)) w2 := ⟨k + 1, O', on + 1, oc', hlt, by simp, rfl, h60, by rw [E.out, R.out]; exact ho2, (hr.alloc _).below b2 (Nat.lt_succ_self _), (hb.alloc (Nat.le_of_lt hsz) _).trans (b2.mono (Nat.le_succ _))⟩
     have HS1 := hid S1
     clear S1 ho2 b2 ho hr hb R E cS
     go_wp2
     go_roundw
     case rel => exact HS1.out
     case measure => simp [intOf]; omega
    ·have NO := hid (fits_no (ss := ss) (t := t) (k := k + 1) (by rw [E.out, R.out, List.length_append, ← HN.out]; simp; omega))
     go_wp2_with (at_builtin; refine app1 rfl _ _ rfl (w.heap.size + 1) O on oc (fillL (givesL ss) (t.take k)) rfl (Own.alloc ho _) wr.heap.size 1 x rfl ((Row.new _ _ _).cell 0) (by omega) (by simp; omega) ?_; intro O' oc' w2 ho2 b2)
     have F := hid (pairF_no NO.out ((hb.alloc (Nat.le_of_lt hsz) _).trans (b2.mono (Nat.le_succ _))))
     clear ho2 b2 ho hr hb R E cS
     go_wp2
     go_ret2
     exact F.out
   ·have hneg : x < 0 := by omega
    have R := hid (rep_var (L := givesL ss) hneg)
    obtain ⟨i, hi⟩ : ∃ i : Nat, (-1 - x).toNat = i := ⟨_, rfl⟩
    rw [hi] at R
    have hix : (i : Int) = -1 - x := by omega
    have LG := hid (l2Gives S m c ss i wr.drew (((h.below hb).more hb.size).drew) HT.out (by omega))
    rw [hix] at LG
    have hlen : (givesL ss i).length ≤ 60 := HM.out i
    have hlen1 : 1 ≤ (givesL ss i).length := gives_pos ss i
    obtain ⟨q, hq⟩ : ∃ q, (givesL ss i).length = q := ⟨_, rfl⟩
    rw [hq] at hlen hlen1
    have HQ := hid hq
    have hw1 : IntKind.i64.wrap (-1 - x) = -1 - x := by rw [IntKind.wrap_i64]; omega
    have hod := Own.drew ho
    have hrd := hr.drew
    have hbd := hb.drew
    clear hix hi hq h
    go_wp2_with fail
    go_region_held3 (fun w' => w'.cell? ⟨w.heap.size, 0, none⟩ = some (.slice S m c) ∧ w'.cell? ⟨b, off + k, none⟩ = some (.int .i64 x))
     (go_keep)
     (first
      | (go_at_call 121; refine LG.out.mono ?_; rintro e w1 ⟨D, dn, dc, rfl, od, bb⟩; obtain rfl : dn = q := (by rw [Own.len od]; exact HQ.out); have ho1 := Own.next hod bb; have hr1 := hrd.next bb; have hb1 := next_trans hbd bb; have cS1 : w1.cell? ⟨w.heap.size, 0, none⟩ = some (.slice S m c) := hr1.cell 0; have cX1 : w1.cell? ⟨b, off + k, none⟩ = some (.int .i64 x) := (bb.cell (p := ⟨b, off + k, none⟩) hbr).trans hx1)
      | (refine stepAppAll rfl _ _ rfl (w.heap.size + 1) O on oc (fillL (givesL ss) (t.take k)) (by rfl) ho1 D _ dc w1.heap.size (givesL ss i) (by rfl) (Own.seg od) (by omega) (by omega) (by omega) (by have := hr1.lt; omega) ?_; intro O' oc' w2 ho2 hg2 hat2 hlt2; have hr2 := Row.away hr1 hg2 (fun e => by have := (World.ownsRow.lt ho1 w.heap.size (by rw [blk_own]; exact e)).1; omega); have hb2 : Below w.heap.size w w2 := hb1.grown hg2 hb1.size (fun z hz => by have := (World.ownsRow.lt ho1 z (by rw [blk_own]; exact hz)).1; omega); have cS2 : w2.cell? ⟨w.heap.size, 0, none⟩ = some (.slice S m c) := hr2.cell 0; have cX2 : w2.cell? ⟨b, off + k, none⟩ = some (.int .i64 x) := (hb2.cell (p := ⟨b, off + k, none⟩) hbb).trans hx0))
    have hsum : (fillL (givesL ss) (t.take k) ++ givesL ss i).length = on + dn := by rw [List.length_append, ← HN.out, HQ.out]
    clear cS1 cX1 ho1 hr1 hb1 od bb hod hrd hbd LG ho hr hb cS hx1 hg2 hat2 HM HV
    by_cases h60 : on + dn ≤ 60
    ·have S1 : HeadF w S m c mt ss t (.slice (some ⟨O', 0, none⟩) (on + dn) oc') (.int .i64 ((k : Int) + 1)) w2 := ⟨k + 1, _, on + dn, oc', hlt, by simp, rfl, h60, by rw [E.out, R.out]; exact ho2, hr2, hb2⟩
     have HS1 := hid S1
     clear S1 ho2 hr2 hb2 R E HQ hsum
     go_wp2
     go_roundw
     case rel => exact HS1.out
     case measure => simp [intOf]; omega
    ·have NO := hid (fits_no (ss := ss) (t := t) (k := k + 1) (by rw [E.out, R.out, hsum]; omega))
     have F := hid (pairF_no NO.out hb2)
     clear ho2 hr2 hb2 R E HQ hsum
     go_wp2
     go_ret2
     exact F.out
  ·have F : AnsPairO w (fitL ss t) (fitsB ss t) (.returned (.tuple #[.slice O on oc, .bool true])) wr := by
    rw [List.take_of_length_le (by rw [HL.out]; omega)] at ho
    have hB : fitsB ss t = true := by unfold fitsB; rw [← Own.len ho]; simp; omega
    exact ⟨O, on, oc, by rw [hB], by unfold fitL; rw [if_pos hB]; exact Own.lower ho (Nat.le_succ _), hb⟩
   have HF := hid F
   clear F ho hr hb h h'
   go_wp2
   go_ret2
   exact HF.out
end filled
end
section
namespace maxi
open Go.RowKit base
end maxi
end
section
namespace compSpec
open Go.RowKit base ints sig cursor marks app appAt sym segs segsHelp kinds termFacts fillMath substOk gives shifted filled plainMath plain plainOf compMath maxi
set_option maxRecDepth 100000
end compSpec
end
section
namespace thn
open Go.RowKit base ints cursor marks app sym segs fillMath Go.Proofs.YtmoidijngeijkaaGreat.look
set_option maxRecDepth 100000
def LooksE (x : Option Nat) (g : Nat) (lb : Array Value) (w : World) (L : Nat → List Int) (N : Nat) : Prop :=
 ∀ (W : World) (i : Nat), w.grownBy W x → i < N → Calls Tryz.prog g (#[.int .i64 (i : Int)] ++ lb) W (AnsLook w.heap.size W (L i))
section
variable {x : Option Nat} {g : Nat} {lb : Array Value} {w w' : World} {L L' : Nat → List Int} {N : Nat}
theorem LooksE.next (h : LooksE x g lb w L N) (hg : w.grownBy w' x) : LooksE x g lb w' L N :=
 fun W i hW hi => (h W i (grown_trans hg hW) hi).mono fun _ _ ⟨A, n, c, he, h1, h2, h3, h4⟩ => ⟨A, n, c, he, h1, h2, fun k hk => by have := h3 k hk; have := hg.size; omega, h4⟩
theorem LooksE.ext (h : LooksE x g lb w L N) (e : ∀ i, i < N → L i = L' i) : LooksE x g lb w L' N := fun W i hW hi => by rw [← e i hi]; exact h W i hW hi
end
end thn
end
section
namespace compImpl
open Go.RowKit base ints sig cursor marks app appAt sym segs segsHelp kinds termFacts fillMath Go.Proofs.YtmoidijngeijkaaGreat.look substOk gives shifted filled plainMath plain plainOf compMath compSpec thn
set_option maxRecDepth 100000
theorem sz_alloc (w : World) (o : Obj) : (w.alloc o).heap.size = w.heap.size + 1 := by simp
theorem row_top {w : World} {t : TypeId} {cs : Array Value} {n : Nat} (hn : n = w.heap.size) : Row (w.alloc (.cells cs t)) n t cs := by subst hn; exact Row.new _ _ _
theorem row_alloc {w : World} {o : Obj} {t : TypeId} {cs : Array Value} {n : Nat} (h : Row w n t cs) : Row (w.alloc o) n t cs := h.alloc o
end compImpl
end
end Go.Proofs.YtmoidijngeijkaaGreat
