/-
  MERGED: my texts CurO, Sub, Args, Depth, TermMath, TermFacts, PosMath, VarsMath, FillMath, RenMath, MatchMath, TabR, Inside, PlainMath, Look, Same, Plain, AnsB, SubstOk, Gives, PlainOf, MatchSpec, Whole, one behind the other, as they are. By an AI agent.
-/
import Derived.Test.YtobedfmagjgdcaaMFnExactMostGeneral1
import Derived.WalkSpells
import Derived.Shelf.Abstract
import Derived.Deep.RegionHeld3
import Derived.Deep.QuietTactic
import Derived.BigQuiet
import Derived.Deep.DeepMust
import Derived.Deep.LoopGhost
import Derived.Laws.Rows
import Derived.Laws.ResultCell
namespace Go.Proofs.Ytobedfmagjgdcaa
section
open Go.Lib (hid)
namespace curO
open Go.RowKit base ints sig term arity cursor sub
set_option maxRecDepth 100000
structure CurO (w : World) (p o : Nat) (ty : TypeId) (cs : Array Value) (A : Option Addr) (n c : Nat) (A' : Option Addr) (m c' : Nat) (sg t : List Int) (k : Nat) : Prop where
 row : Row w p ty (cs.setIfInBounds (o + 2) (.int .i64 k))
 h0 : cs[o]? = some (.slice A n c)
 h1 : cs[o + 1]? = some (.slice A' m c')
 sz : o + 2 < cs.size
 s : Seg w p A n sg
 s' : Seg w p A' m t
 le : k ≤ m
 hn : n ≤ 1048576
 hm : m ≤ 1048576
 ars : Arities sg
section
variable {w w' : World} {p o : Nat} {ty : TypeId} {cs : Array Value} {A : Option Addr} {n c : Nat} {A' : Option Addr} {m c' : Nat} {sg t : List Int} {k : Nat}
theorem CurO.c0 (h : CurO w p o ty cs A n c A' m c' sg t k) : w.cell? ⟨p, o, none⟩ = some (.slice A n c) := by
 rw [h.row.cell o, Array.getElem?_setIfInBounds_ne (by omega)]; exact h.h0
theorem CurO.c1 (h : CurO w p o ty cs A n c A' m c' sg t k) : w.cell? ⟨p, o + 1, none⟩ = some (.slice A' m c') := by
 rw [h.row.cell (o + 1), Array.getElem?_setIfInBounds_ne (by omega)]; exact h.h1
theorem CurO.c2 (h : CurO w p o ty cs A n c A' m c' sg t k) : w.cell? ⟨p, o + 2, none⟩ = some (.int .i64 k) := by
 rw [h.row.cell (o + 2), Array.getElem?_setIfInBounds_self_of_lt h.sz]
theorem CurO.below (h : CurO w p o ty cs A n c A' m c' sg t k) (hb : Below w.heap.size w w') : CurO w' p o ty cs A n c A' m c' sg t k :=
 have hp := h.row.lt
 ⟨h.row.next hb, h.h0, h.h1, h.sz, h.s.below (hb.mono (Nat.le_of_lt hp)), h.s'.below (hb.mono (Nat.le_of_lt hp)), h.le, h.hn, h.hm, h.ars⟩
theorem CurO.drewN (h : CurO w p o ty cs A n c A' m c' sg t k) (d : Nat) : CurO (w.drewN d) p o ty cs A n c A' m c' sg t k :=
 ⟨h.row, h.h0, h.h1, h.sz, h.s, h.s', h.le, h.hn, h.hm, h.ars⟩
theorem CurO.step (h : CurO w p o ty cs A n c A' m c' sg t k) (hk : k < m) (d : Nat) :
  CurO ((w.drewN d).setCell ⟨p, o + 2, none⟩ (.int .i64 ((k : Int) + 1))) p o ty cs A n c A' m c' sg t (k + 1) := by
 have r := (h.row.drewN d).put (o + 2) (.int .i64 ((k : Int) + 1))
 rw [Array.setIfInBounds_setIfInBounds] at r
 refine ⟨?_, h.h0, h.h1, h.sz, (h.s.drewN d).put (p := ⟨p, o + 2, none⟩) (Nat.le_refl _) _, (h.s'.drewN d).put (p := ⟨p, o + 2, none⟩) (Nat.le_refl _) _, hk, h.hn, h.hm, h.ars⟩
 have e : (.int .i64 ((k : Int) + 1) : Value) = .int .i64 ((k + 1 : Nat) : Int) := by simp
 rw [← e]
 exact r
end
def NextO (w : World) (p o : Nat) (ty : TypeId) (cs : Array Value) (A : Option Addr) (n c : Nat) (A' : Option Addr) (m c' : Nat) (sg t : List Int) (k : Nat) (e : Ending) (w' : World) : Prop :=
 w.grownBy w' (some p) ∧ ((k < m ∧ e = .returned (.int .i64 (ar sg (t.getD k 0))) ∧ CurO w' p o ty cs A n c A' m c' sg t (k + 1)) ∨ (k = m ∧ e = .returned (.int .i64 (-1)) ∧ CurO w' p o ty cs A n c A' m c' sg t k))
set_option maxHeartbeats 1000000 in
theorem nextO (p o : Nat) (ty : TypeId) (cs : Array Value) (A : Option Addr) (n c : Nat) (A' : Option Addr) (m c' : Nat) (sg t : List Int) (k : Nat) (w : World) (h : CurO w p o ty cs A n c A' m c' sg t k) :
  Calls Try.prog 116 #[.pointer (some ⟨p, o, none⟩)] w (NextO w p o ty cs A n c A' m c' sg t k) := by
 have hk := h.le
 have hm := h.hm
 have c0 := h.c0
 have c1 := h.c1
 have c2 := h.c2
 have f2 : w.frozen? ⟨p, o + 2, none⟩ = false := h.row.free (o + 2)
 by_cases hlt : k < m
 ·obtain ⟨b, off, x, rfl, hbb, hx, ex⟩ := h.s'.spot hlt
  have i0 : (0 : Int) ≤ (k : Int) := by omega
  have i1 : (k : Int) < (m : Int) := by omega
  have HS := hid (fun d => h.step hlt d)
  have HG := hid (fun d => grown_put (grown_drewN (World.grownBy.refl w (some p)) d) (o + 2) (.int .i64 ((k : Int) + 1)))
  clear h
  go_enter Try.func116, Try.ntmps116
  go_wp2
  go_quiet (fail)
  go_wp2
  go_quiet (fail)
  go_wp2_with fail
  refine (implArity A n c sg x _ ((HS.out _).s.more (Nat.le_of_lt (HS.out _).row.lt)) (HS.out 0).hn).mono ?_
  rintro e w' ⟨rfl, bb⟩
  have F : NextO w p o ty cs A n c (some ⟨b, off, none⟩) m c' sg t k (.returned (.int .i64 (ar sg x))) w' :=
   ⟨grown_trans (HG.out _) (grown_below bb _), .inl ⟨hlt, by rw [ex.out], (HS.out _).below bb⟩⟩
  have HF := hid F
  clear F HG HS bb ex
  go_wp2
  go_ret
  exact HF.out
 ·have e : k = m := by omega
  have HS := hid (fun d => h.drewN d)
  have HE := hid e
  have i2 : decide (m ≤ k) = true := by simp; omega
  clear e h
  go_enter Try.func116, Try.ntmps116
  go_wp2
  go_quiet (fail)
  go_wp2
  go_ret
  exact ⟨grown_drewN (World.grownBy.refl w (some p)) _, .inr ⟨HE.out, rfl, HS.out _⟩⟩
def PassO (w : World) (p o : Nat) (ty : TypeId) (cs : Array Value) (A : Option Addr) (n c : Nat) (A' : Option Addr) (m c' : Nat) (sg t : List Int) (k : Nat) (e : Ending) (w' : World) : Prop :=
 w.grownBy w' (some p) ∧ ((∃ j, scan sg 1 (t.drop k) = some j ∧ e = .returned (.bool true) ∧ CurO w' p o ty cs A n c A' m c' sg t (k + j)) ∨ (scan sg 1 (t.drop k) = none ∧ e = .returned (.bool false) ∧ ∃ k', CurO w' p o ty cs A n c A' m c' sg t k'))
def HeadO (w : World) (p o : Nat) (ty : TypeId) (cs : Array Value) (A : Option Addr) (n c : Nat) (A' : Option Addr) (m c' : Nat) (sg t : List Int) (a : Nat) (q : Value) (wr : World) : Prop :=
 ∃ k q' : Nat, q = .int .i64 q' ∧ q' ≤ 3 * k + 1 ∧ Scn sg t a k q' ∧ CurO wr p o ty cs A n c A' m c' sg t k ∧ w.grownBy wr (some p)
def atO (p o : Nat) (wr : World) : Nat := (intOf ((wr.cell? ⟨p, o + 2, none⟩).getD undef)).toNat
theorem atO_cur {w : World} {p o : Nat} {ty : TypeId} {cs : Array Value} {A : Option Addr} {n c : Nat} {A' : Option Addr} {m c' : Nat} {sg t : List Int} {k : Nat} (h : CurO w p o ty cs A n c A' m c' sg t k) : atO p o w = k := by
 unfold atO
 rw [h.c2]
 simp [intOf]
set_option maxHeartbeats 1000000 in
theorem passO (p o : Nat) (ty : TypeId) (cs : Array Value) (A : Option Addr) (n c : Nat) (A' : Option Addr) (m c' : Nat) (sg t : List Int) (a : Nat) (w : World) (h : CurO w p o ty cs A n c A' m c' sg t a) :
  Calls Try.prog 93 #[.pointer (some ⟨p, o, none⟩)] w (PassO w p o ty cs A n c A' m c' sg t a) := by
 have hm := h.hm
 have HL := hid h.s'.1
 have hs := h.ars
 have H0 : HeadO w p o ty cs A n c A' m c' sg t a (.int .i64 1) w := ⟨a, 1, rfl, by omega, Scn.start (by rw [HL.out]; exact h.le), h, World.grownBy.refl _ _⟩
 have HH := hid H0
 clear H0 h
 go_enter Try.func93, Try.ntmps93
 go_wp2_with fail
 go_loopw [3, 4] (fun q _ wr => HeadO w p o ty cs A n c A' m c' sg t a q wr) (fun _ _ wr => m - atO p o wr)
 case atStart => exact HH.out
 case round =>
  obtain ⟨k, q, rfl, hq, hl, hc, hg⟩ := hrel
  clear HH
  have hk := hc.le
  by_cases h0 : q = 0
  ·subst h0
   have S : PassO w p o ty cs A n c A' m c' sg t a (.returned (.bool true)) wr := ⟨hg, .inl ⟨k - a, hl.done, rfl, by rw [show a + (k - a) = k by have := hl.1; omega]; exact hc⟩⟩
   have HS := hid S
   clear S hl hc hg
   go_wp2
   go_ret
   exact HS.out
  ·obtain ⟨q1, rfl⟩ : ∃ q1, q = q1 + 1 := ⟨q - 1, by omega⟩
   have hq0 : (0 : Int) < ((q1 + 1 : Nat) : Int) := by omega
   go_wp2_with fail
   refine (nextO p o ty cs A n c A' m c' sg t k wr hc).mono ?_
   rintro e w2 ⟨g2, ⟨hlt, rfl, hc2⟩ | ⟨hk', rfl, hc2⟩⟩
   ·obtain ⟨z, hz⟩ : ∃ z, ar sg (t.getD k 0) = z := ⟨_, rfl⟩
    have hzb := ar_bd hs (t.getD k 0)
    rw [hz] at hzb ⊢
    by_cases hneg : z < 0
    ·have S : PassO w p o ty cs A n c A' m c' sg t a (.returned (.bool false)) w2 := ⟨grown_trans hg g2, .inr ⟨hl.bad (by rw [HL.out]; exact hlt) rfl (by rw [hz]; exact hneg), rfl, _, hc2⟩⟩
     have HS := hid S
     clear S hl hc hg hc2 g2 hz
     go_wp2
     go_ret
     exact HS.out
    ·have hl' := hl.step (by rw [HL.out]; exact hlt) rfl (by rw [hz]; exact hneg)
     rw [hz] at hl'
     have S : HeadO w p o ty cs A n c A' m c' sg t a (.int .i64 ((q1 : Int) + z)) w2 := ⟨k + 1, q1 + z.toNat, by congr 1; omega, by omega, hl', hc2, grown_trans hg g2⟩
     have HS := hid S
     have M := hid (show m - atO p o w2 < m - atO p o wr by rw [atO_cur hc, atO_cur hc2]; omega)
     have hz1 := hzb.1
     have hz2 := hzb.2
     have hq2 : (q1 : Int) ≤ 3145728 := by omega
     clear S hl hc hg hc2 g2 hz hl' hzb
     go_wp2
     go_roundw
     case rel => rw [show (q1 : Int) + 1 + z - 1 = (q1 : Int) + z by omega]; exact HS.out
     case measure => exact M.out
   ·have S : PassO w p o ty cs A n c A' m c' sg t a (.returned (.bool false)) w2 := ⟨grown_trans hg g2, .inr ⟨hl.out (by rw [HL.out]; omega), rfl, _, hc2⟩⟩
    have HS := hid S
    clear S hl hc hg hc2 g2
    go_wp2
    go_ret
    exact HS.out
def PartO (w : World) (p o : Nat) (ty : TypeId) (cs : Array Value) (A : Option Addr) (n c : Nat) (b off m c' : Nat) (sg t : List Int) (k j : Nat) (e : Ending) (w' : World) : Prop :=
 e = .returned (.slice (some ⟨b, off + k, none⟩) j (c' - k)) ∧ w.grownBy w' (some p) ∧ CurO w' p o ty cs A n c (some ⟨b, off, none⟩) m c' sg t (k + j)
set_option maxHeartbeats 1000000 in
theorem partO (p o : Nat) (ty : TypeId) (cs : Array Value) (A : Option Addr) (n c b off m c' : Nat) (sg t : List Int) (k j : Nat) (w : World) (h : CurO w p o ty cs A n c (some ⟨b, off, none⟩) m c' sg t k) (hj : scan sg 1 (t.drop k) = some j) (hkj : k + j ≤ m) (h1 : 1 ≤ j) (hmc : m ≤ c') (hc : c' ≤ 9223372036854775807) :
  Calls Try.prog 132 #[.pointer (some ⟨p, o, none⟩)] w (PartO w p o ty cs A n c b off m c' sg t k j) := by
 have hm := h.hm
 have c2 := h.c2
 have L := hid (passO p o ty cs A n c (some ⟨b, off, none⟩) m c' sg t k w h)
 have HJ := hid hj
 have a1 : (k : Int) ≤ (k : Int) + (j : Int) := by omega
 have a2 : (k : Int) + (j : Int) ≤ (c' : Int) := by omega
 have a3 : ¬ c' = k := by omega
 have a4 : k + j ≤ c' := by omega
 have a5 : k + j - k = j := by omega
 clear hj h
 go_enter Try.func132, Try.ntmps132
 go_wp2_with fail
 refine L.out.mono ?_
 rintro e w1 ⟨hg, ⟨j', hj', rfl, hc1⟩ | ⟨hj', rfl, -⟩⟩
 ·obtain rfl : j = j' := by rw [HJ.out] at hj'; injection hj'
  have d1 := hc1.c1
  have d2 := hc1.c2
  have HF := hid (fun d => (show PartO w p o ty cs A n c b off m c' sg t k j (.returned (.slice (some ⟨b, off + k, none⟩) (k + j - k) (c' - k))) (w1.drewN d) from ⟨by rw [a5], grown_drewN hg d, hc1.drewN d⟩))
  clear hc1 hg hj' L
  go_wp2
  go_quiet (fail)
  go_wp2
  go_ret
  exact HF.out _
 ·rw [HJ.out] at hj'
  cases hj'
theorem ofCur {w : World} {p : Nat} {A : Option Addr} {n c : Nat} {A' : Option Addr} {m c' : Nat} {sg t : List Int} {k : Nat} (h : Cur w p A n c A' m c' sg t k) (u : Value) :
  CurO w p 0 92 #[.slice A n c, .slice A' m c', u] A n c A' m c' sg t k :=
 ⟨by have r := h.row; simpa using r, by simp, by simp, by simp, h.s, h.s', h.le, h.hn, h.hm, h.ars⟩
theorem toCur {w : World} {p : Nat} {A : Option Addr} {n c : Nat} {A' : Option Addr} {m c' : Nat} {sg t : List Int} {k : Nat} {u : Value} (h : CurO w p 0 92 #[.slice A n c, .slice A' m c', u] A n c A' m c' sg t k) :
  Cur w p A n c A' m c' sg t k :=
 ⟨by have r := h.row; simpa using r, h.s, h.s', h.le, h.hn, h.hm, h.ars⟩
theorem partC (p : Nat) (A : Option Addr) (n c b off m c' : Nat) (sg t : List Int) (k j : Nat) (w : World) (h : Cur w p A n c (some ⟨b, off, none⟩) m c' sg t k) (hj : scan sg 1 (t.drop k) = some j) (hkj : k + j ≤ m) (h1 : 1 ≤ j) (hmc : m ≤ c') (hc : c' ≤ 9223372036854775807) :
  Calls Try.prog 132 #[.pointer (some ⟨p, 0, none⟩)] w fun e w' => e = .returned (.slice (some ⟨b, off + k, none⟩) j (c' - k)) ∧ w.grownBy w' (some p) ∧ Cur w' p A n c (some ⟨b, off, none⟩) m c' sg t (k + j) :=
 (partO p 0 _ _ A n c b off m c' sg t k j w (ofCur h undef) hj hkj h1 hmc hc).mono fun _ _ ⟨e1, e2, e3⟩ => ⟨e1, e2, toCur e3⟩
end curO
end
section
namespace sub
open Go.RowKit base ints sig term arity endOf cursor termOk endAt marks app sym curO
def subL (sg t : List Int) (a : Nat) : List Int := (t.drop a).take (len1 sg t a)
set_option maxHeartbeats 1000000 in
theorem l1Sub (A A' : Option Addr) (n c m c' : Nat) (sg t : List Int) (a j : Nat) (w : World) (h : Seg w w.heap.size A n sg) (h' : Seg w w.heap.size A' m t) (hn : n ≤ 1048576) (hm : m ≤ 1048576) (hc' : m ≤ c') (hc2 : c' ≤ 9223372036854775807)
  (hs : Arities sg) (ha : a < m) (hj : scan sg 1 (t.drop a) = some j) (hj1 : 1 ≤ j) (hj2 : a + j ≤ m) :
  Calls Try.prog 89 #[.agg #[.slice A n c], .slice A' m c', .int .i64 (a : Int)] w (AnsList w (subL sg t a)) := by
 obtain ⟨b, off, x, rfl, -, -, -⟩ := h'.spot ha
 obtain ⟨W, hW⟩ : ∃ W, W = w.alloc (.cells #[.slice A n c] 29) := ⟨_, rfl⟩
 have bel : Below w.heap.size w W := by rw [hW]; exact (Below.refl _ _).alloc (Nat.le_refl _) _
 have zW : w.heap.size < W.heap.size := by rw [hW]; simp
 replace h := (h.below bel).more bel.size
 replace h' := (h'.below bel).more bel.size
 have HW := Lib.hid hW
 clear hW
 have L := Lib.hid (specEnd A _ n c m c' sg t (a : Int) W h h' hn hm hs (by omega) (by omega))
 have HE := Lib.hid (endI_some hj)
 have HL := Lib.hid (len1_eq hj)
 have hcut := Seg.cut (a := a) (j := j) h' hj2
 clear h h' hj hs
 have i0 : (0 : Int) ≤ (a : Int) := by omega
 have i1 : (a : Int) ≤ (a : Int) + (j : Int) := by omega
 have i2 : (a : Int) + (j : Int) ≤ (c' : Int) := by omega
 have i3 : ¬ c' = a := by omega
 go_enter Try.func89, Try.ntmps89
 go_wp2_with fail
 rw [← HW.out]
 refine L.out.mono ?_
 rintro e w1 ⟨he, bb⟩
 rw [Int.toNat_natCast, HE.out] at he
 subst he
 replace hcut := hcut.next bb
 replace bel := next_trans bel bb
 clear bb L
 go_wp2_with fail
 refine (copyInts _ j _ _ w1 hcut (fun e => by cases e) (by omega)).mono ?_
 rintro e w2 ⟨A2, n2, c2, rfl, o2, bb⟩
 have F : AnsList w (subL sg t a) (.returned (.slice A2 n2 c2)) w2 := ⟨A2, n2, c2, rfl, by unfold subL; rw [HL.out]; exact Own.lower o2 bel.size, next_trans bel bb⟩
 have HF := Lib.hid F
 clear F o2 bb bel hcut
 go_wp2
 go_ret
 exact HF.out
end sub
end
section
namespace args
open Go.RowKit base ints sig term arity endOf cursor termOk endAt marks app sym
def Coll (sg t : List Int) (m : Nat) (L ys : List Int) (q p : Nat) : Prop := ys ++ places sg t q p = L ∧ ∃ i, scan sg q (t.drop p) = some i ∧ p + i ≤ m
theorem Coll.first {sg t : List Int} {m : Nat} {L ys : List Int} {q p : Nat} (h : Coll sg t m L ys (q + 1) p) : ∃ j, scan sg 1 (t.drop p) = some j ∧ p + j ≤ m ∧ p < t.length ∧ Coll sg t m L (ys ++ [(p : Int)]) q (p + j) := by
 obtain ⟨h1, i, h2, h3⟩ := h
 obtain ⟨j, e1, e2, e3, e4⟩ := scan_first h2
 have e5 := scan_le h2
 refine ⟨j, e1, by omega, ?_, ?_, i - j, e4, by omega⟩
 ·simp only [List.length_drop] at e5; omega
 ·rw [← h1, List.append_assoc]
  congr 1
  simp only [places, len1_eq e1, List.singleton_append]
theorem Coll.len {sg t : List Int} {m : Nat} {L ys : List Int} {q p : Nat} (h : Coll sg t m L ys q p) : ys.length ≤ L.length := by
 rw [← h.1]; simp
end args
end
section
namespace depth
open Go.RowKit base ints sig term arity endOf cursor termOk endAt marks app sym args
def Deep (sg t : List Int) (f : Nat) (M d : Int) (q p : Nat) : Prop := max d (maxOver sg t (dep sg t f) q p) = M ∧ 0 ≤ d ∧ d ≤ f ∧ ∃ i, scan sg q (t.drop p) = some i ∧ i ≤ f ∧ p + i ≤ t.length
theorem Deep.first {sg t : List Int} {f : Nat} {M d : Int} {q p : Nat} (h : Deep sg t f M d (q + 1) p) : ∃ j, scan sg 1 (t.drop p) = some j ∧ j ≤ f ∧ p < t.length ∧ p + j ≤ t.length ∧ Deep sg t f M (max d (dep sg t f p)) q (p + j) := by
 obtain ⟨h1, h2, h3, i, h4, h5, h6⟩ := h
 obtain ⟨j, e1, e2, e3, e4⟩ := scan_first h4
 have hb := dep_bd (sg := sg) (t := t) f p
 refine ⟨j, e1, by omega, by omega, by omega, ?_, by omega, by omega, i - j, e4, by omega, by omega⟩
 simp only [maxOver, len1_eq e1] at h1
 omega
def depthI (sg t : List Int) : Int := if termOkB sg t = true then dep sg t t.length 0 else 0
end depth
end
section
namespace termMath
open term termOk endAt sub args depth sig
theorem scan_append {sg : List Int} : ∀ {l r : List Int} {q j : Nat}, scan sg q l = some j → scan sg q (l ++ r) = some j := by
 intro l
 induction l with
 | nil =>
  intro r q j h
  cases q with
  | zero => rw [scan_zero] at h ⊢; exact h
  | succ q => rw [scan_nil] at h; cases h
 | cons x l ih =>
  intro r q j h
  cases q with
  | zero => rw [scan_zero] at h ⊢; exact h
  | succ q =>
   by_cases ha : ar sg x < 0
   ·rw [scan_bad ha] at h; cases h
   ·rw [scan_step ha] at h
    rw [List.cons_append, scan_step ha]
    obtain ⟨j', hj', rfl⟩ := Option.map_eq_some_iff.1 h
    rw [ih hj']
    rfl
theorem scan_take {sg : List Int} : ∀ {l : List Int} {q j : Nat}, scan sg q l = some j → scan sg q (l.take j) = some j := by
 intro l
 induction l with
 | nil => intro q j h; simpa using h
 | cons x l ih =>
  intro q j h
  cases q with
  | zero => rw [scan_zero] at h ⊢; exact h
  | succ q =>
   by_cases ha : ar sg x < 0
   ·rw [scan_bad ha] at h; cases h
   ·rw [scan_step ha] at h
    obtain ⟨j', hj', rfl⟩ := Option.map_eq_some_iff.1 h
    rw [List.take_succ_cons, scan_step ha, ih hj']
    rfl
theorem scan_same {sg l l' : List Int} {q j : Nat} (h : scan sg q l = some j) (e : l.take j = l'.take j) : scan sg q l' = some j := by
 have h1 := scan_take h
 rw [e] at h1
 have h2 := scan_append (r := l'.drop j) h1
 rwa [List.take_append_drop] at h2
theorem take_less {l l' : List Int} {i j : Nat} (e : l.take i = l'.take i) (h : j ≤ i) : l.take j = l'.take j := by
 have : (l.take i).take j = (l'.take i).take j := by rw [e]
 rwa [List.take_take, List.take_take, Nat.min_eq_left h] at this
theorem drop_same {l l' : List Int} {i j : Nat} (e : l.take i = l'.take i) : (l.drop j).take (i - j) = (l'.drop j).take (i - j) := by
 rw [← List.drop_take, ← List.drop_take, e]
theorem get_same {t t' : List Int} {a a' i : Nat} (e : (t.drop a).take i = (t'.drop a').take i) (h : 1 ≤ i) : t.getD a 0 = t'.getD a' 0 := by
 have : ((t.drop a).take i)[0]? = ((t'.drop a').take i)[0]? := by rw [e]
 rw [List.getElem?_take, List.getElem?_take, if_pos (by omega), if_pos (by omega), List.getElem?_drop, List.getElem?_drop] at this
 simpa [List.getD] using congrArg (fun o => o.getD 0) this
theorem max_same {sg t t' : List Int} {f f' : Nat} (hd : ∀ a a' j, (t.drop a).take j = (t'.drop a').take j → scan sg 1 (t.drop a) = some j → j ≤ f → j ≤ f' → dep sg t f a = dep sg t' f' a') :
  ∀ q p p' i, (t.drop p).take i = (t'.drop p').take i → scan sg q (t.drop p) = some i → i ≤ f → i ≤ f' → maxOver sg t (dep sg t f) q p = maxOver sg t' (dep sg t' f') q p'
 | 0, _, _, _, _, _, _, _ => rfl
 | q + 1, p, p', i, e, h, h1, h2 => by
  obtain ⟨j, e1, e2, e3, e4⟩ := scan_first h
  have e5 := scan_same e1 (take_less e e3)
  have hdr : (t.drop (p + j)).take (i - j) = (t'.drop (p' + j)).take (i - j) := by
   have := drop_same (j := j) e
   rwa [List.drop_drop, List.drop_drop] at this
  simp only [maxOver, len1_eq e1, len1_eq e5]
  rw [hd p p' j (take_less e e3) e1 (by omega) (by omega), max_same hd q (p + j) (p' + j) (i - j) hdr e4 (by omega) (by omega)]
theorem dep_same {sg : List Int} : ∀ (f f' : Nat) (t t' : List Int) (a a' j : Nat), (t.drop a).take j = (t'.drop a').take j → scan sg 1 (t.drop a) = some j → j ≤ f → j ≤ f' → dep sg t f a = dep sg t' f' a'
 | 0, _, _, _, _, _, _, _, h, h1, _ => by have := scan_pos (q := 0) h; omega
 | _ + 1, 0, _, _, _, _, _, _, h, _, h2 => by have := scan_pos (q := 0) h; omega
 | f + 1, f' + 1, t, t', a, a', j, e, h, h1, h2 => by
  have hj := scan_pos (q := 0) h
  have hg := get_same e hj
  obtain ⟨i, e1, _, _, e2⟩ := scan_args h
  have hdr : (t.drop (a + 1)).take i = (t'.drop (a' + 1)).take i := by
   have := drop_same (j := 1) e
   rw [List.drop_drop, List.drop_drop] at this
   have e3 : j - 1 = i := by omega
   rwa [e3] at this
  simp only [dep]
  rw [← hg, max_same (fun a a' j e h h1 h2 => dep_same f f' t t' a a' j e h h1 h2) _ (a + 1) (a' + 1) i hdr e2 (by omega) (by omega)]
theorem sub_term {sg t : List Int} {a : Nat} (hok : termOkB sg t = true) (ha : a < t.length) : termOkB sg (subL sg t a) = true ∧ depthI sg (subL sg t a) = dep sg t (t.length + 1) a ∧ endI sg t a = (a : Int) + ((subL sg t a).length : Int) ∧ 1 ≤ (subL sg t a).length := by
 have hp := termOk_parts hok
 obtain ⟨j, hj, hj1, hj2⟩ := scan_at hp.2.2 ha
 have hl : len1 sg t a = j := len1_eq hj
 have hs : subL sg t a = (t.drop a).take j := by unfold subL; rw [hl]
 have hlen : (subL sg t a).length = j := by rw [hs]; simp; omega
 have hsc : scan sg 1 (subL sg t a) = some (subL sg t a).length := by rw [hlen, hs]; exact scan_take hj
 have hok2 : termOkB sg (subL sg t a) = true := by
  unfold termOkB termB
  rw [hp.1, hsc]
  simp
  omega
 refine ⟨hok2, ?_, by rw [endI_some hj, hlen], by omega⟩
 unfold depthI
 rw [if_pos hok2, hlen]
 refine (dep_same _ _ _ _ _ _ j ?_ ?_ (Nat.le_refl _) (by omega))
 ·rw [List.drop_zero, hs, List.take_take, Nat.min_self]
 ·rw [List.drop_zero, hsc, hlen]
end termMath
end
section
namespace termFacts
open sig term termOk
theorem term_parts {sg t : List Int} (h : termOkB sg t = true) : sigOkB sg = true ∧ t.length ≤ 60 ∧ scan sg 1 t = some t.length := by
 unfold termOkB termB at h
 simp only [Bool.and_eq_true, decide_eq_true_eq] at h
 exact h
theorem term_len {sg t : List Int} (h : termOkB sg t = true) : 1 ≤ t.length ∧ t.length ≤ 60 := ⟨scan_pos (q := 0) (term_parts h).2.2, (term_parts h).2.1⟩
theorem term_ar {sg t : List Int} (h : termOkB sg t = true) {j : Nat} (hj : j < t.length) : ¬ ar sg (t.getD j 0) < 0 := by
 obtain ⟨i, h1, _, _⟩ := scan_at (term_parts h).2.2 hj
 obtain ⟨_, _, _, h2, _⟩ := scan_args h1
 exact h2
theorem term_num {sg t : List Int} (h : termOkB sg t = true) {j : Nat} (hj : j < t.length) : -24 ≤ t.getD j 0 ∧ t.getD j 0 < 8 := by
 have h1 := term_ar h hj
 have h2 := (sig_arities (term_parts h).1).2
 unfold ar at h1
 split at h1
 ·omega
 ·split at h1
  ·omega
  ·omega
theorem term_mem {sg t : List Int} (h : termOkB sg t = true) {x : Int} (hx : x ∈ t) : -24 ≤ x ∧ x < 8 := by
 obtain ⟨j, hj, rfl⟩ := List.getElem_of_mem hx
 have := term_num h hj
 simpa [List.getD, hj] using this
end termFacts
end
section
namespace posMath
open sig term termOk termFacts endAt sub args depth termMath
theorem term_at {sg t : List Int} (h : termOkB sg t = true) {a : Nat} (ha : a < t.length) : scan sg 1 (t.drop a) = some (len1 sg t a) ∧ 1 ≤ len1 sg t a ∧ a + len1 sg t a ≤ t.length := by
 obtain ⟨j, e, h1, h2⟩ := scan_at (term_parts h).2.2 ha
 rw [len1_eq e]
 exact ⟨e, h1, h2⟩
def argP (sg t : List Int) : Nat → Nat → Nat
 | 0, p => p
 | k + 1, p => argP sg t k (p + len1 sg t p)
theorem argP_succ {sg t : List Int} : ∀ k p, argP sg t (k + 1) p = argP sg t k p + len1 sg t (argP sg t k p)
 | 0, _ => rfl
 | k + 1, p => by
  show argP sg t (k + 1) (p + len1 sg t p) = _
  rw [argP_succ k]
  rfl
theorem argP_mono {sg t : List Int} {p k : Nat} : ∀ {k' : Nat}, k ≤ k' → argP sg t k p ≤ argP sg t k' p := by
 intro k' h
 induction k' with
 | zero => rw [Nat.le_zero.1 h]; exact Nat.le_refl _
 | succ k' ih =>
  by_cases e : k = k' + 1
  ·rw [e]; exact Nat.le_refl _
  ·have := ih (by omega)
   rw [argP_succ]
   omega
def arN (sg t : List Int) (p : Nat) : Nat := (ar sg (t.getD p 0)).toNat
inductive Trail (sg t : List Int) (at_ : Nat) : Nat → List Int → List Int → Prop
 | here : Trail sg t at_ at_ [] []
 | down {p k : Nat} {ab pa : List Int} (h1 : p < at_) (h2 : k < arN sg t p) (h3 : argP sg t k (p + 1) ≤ at_) (h4 : at_ < argP sg t k (p + 1) + len1 sg t (argP sg t k (p + 1))) (h5 : p < argP sg t k (p + 1)) (h6 : at_ < p + len1 sg t p) (hw : Trail sg t at_ (argP sg t k (p + 1)) ab pa) : Trail sg t at_ p ((p : Int) :: ab) ((k : Int) :: pa)
theorem Trail.here_eq {sg t : List Int} {at_ : Nat} {ab pa : List Int} (h : Trail sg t at_ at_ ab pa) : ab = [] ∧ pa = [] := by
 cases h with
 | here => exact ⟨rfl, rfl⟩
 | down h1 => omega
theorem arg_one {sg t : List Int} {p at_ k k' : Nat} (h3 : argP sg t k p ≤ at_) (h4 : at_ < argP sg t k p + len1 sg t (argP sg t k p)) (h3' : argP sg t k' p ≤ at_) (h4' : at_ < argP sg t k' p + len1 sg t (argP sg t k' p)) : k = k' := by
 rcases Nat.lt_trichotomy k k' with h | h | h
 ·have := argP_mono (sg := sg) (t := t) (p := p) (show k + 1 ≤ k' by omega)
  rw [argP_succ] at this
  omega
 ·exact h
 ·have := argP_mono (sg := sg) (t := t) (p := p) (show k' + 1 ≤ k by omega)
  rw [argP_succ] at this
  omega
theorem Trail.one {sg t : List Int} {at_ p : Nat} {ab pa : List Int} (h : Trail sg t at_ p ab pa) : ∀ {ab' pa' : List Int}, Trail sg t at_ p ab' pa' → ab = ab' ∧ pa = pa' := by
 induction h with
 | here => intro ab' pa' h'; obtain ⟨rfl, rfl⟩ := h'.here_eq; exact ⟨rfl, rfl⟩
 | @down p k ab pa h1 h2 h3 h4 h5 h6 hw ih =>
  intro ab' pa' h'
  cases h' with
  | here => omega
  | @down _ k' ab' pa' g1 g2 g3 g4 g5 g6 gw =>
   obtain rfl := arg_one h3 h4 g3 g4
   obtain ⟨rfl, rfl⟩ := ih gw
   exact ⟨rfl, rfl⟩
theorem Trail.len {sg t : List Int} {at_ p : Nat} {ab pa : List Int} (h : Trail sg t at_ p ab pa) : ab.length = pa.length := by
 induction h with
 | here => rfl
 | down _ _ _ _ _ _ _ ih => simp [ih]
theorem Trail.le {sg t : List Int} {at_ p : Nat} {ab pa : List Int} (h : Trail sg t at_ p ab pa) : p ≤ at_ ∧ pa.length ≤ at_ - p := by
 induction h with
 | here => simp
 | down h1 _ _ _ h5 _ _ ih => simp only [List.length_cons]; omega
def upTo (sg t : List Int) (at_ : Nat) : Nat → Nat → List Int
 | _, 0 => []
 | p, n + 1 => (if at_ < p + len1 sg t p then [(p : Int)] else []) ++ upTo sg t at_ (p + 1) n
end posMath
end
section
namespace varsMath
open term termOk
theorem take_snoc {t : List Int} {k : Nat} (hk : k < t.length) {x : Int} (hx : t.getD k 0 = x) : t.take (k + 1) = t.take k ++ [x] := by
 rw [List.take_succ_eq_append_getElem hk, ← hx]
 simp [List.getD, hk]
end varsMath
end
section
namespace fillMath
open sig term termOk termFacts varsMath
def vt (i : Nat) : List Int := [-1 - (i : Int)]
def sh (k x : Int) : Int := if x < 0 then x - k else x
end fillMath
end
section
namespace renMath
open sig term termOk termFacts varsMath fillMath
def idx : List Int → Int → Nat
 | [], _ => 0
 | y :: r, x => if y = x then 0 else idx r x + 1
theorem idx_lt : ∀ {o : List Int} {x : Int}, x ∈ o → idx o x < o.length
 | y :: r, x, h => by
  rw [idx]
  split
  ·simp
  ·rename_i h1
   rcases List.mem_cons.1 h with e | e
   ·exact absurd e.symm h1
   ·have := idx_lt e; simp; omega
theorem idx_not : ∀ {o : List Int} {x : Int}, x ∉ o → idx o x = o.length
 | [], _, _ => rfl
 | y :: r, x, h => by
  have h1 : ¬ y = x := fun e => h (by rw [e]; exact List.mem_cons_self ..)
  rw [idx, if_neg h1, idx_not (fun e => h (List.mem_cons_of_mem _ e))]
  rfl
theorem idx_get : ∀ {o : List Int} {x : Int}, x ∈ o → o.getD (idx o x) 0 = x
 | y :: r, x, h => by
  rw [idx]
  split
  ·rename_i h1; simpa using h1
  ·rename_i h1
   rcases List.mem_cons.1 h with e | e
   ·exact absurd e.symm h1
   ·simpa using idx_get e
theorem idx_first : ∀ {o : List Int} {x : Int} {k : Nat}, k < o.length → (∀ j, j < k → o.getD j 0 ≠ x) → o.getD k 0 = x → idx o x = k
 | y :: r, x, 0, _, _, h => by
  have h : y = x := by simpa using h
  rw [idx, if_pos h]
 | y :: r, x, k + 1, hk, hl, h => by
  have h0 : ¬ y = x := by simpa using hl 0 (by omega)
  rw [idx, if_neg h0, idx_first (k := k) (by simpa using hk) (fun j hj => by simpa using hl (j + 1) (by omega)) (by simpa using h)]
theorem idx_app_mem : ∀ {o q : List Int} {x : Int}, x ∈ o → idx (o ++ q) x = idx o x
 | y :: r, q, x, h => by
  rw [List.cons_append, idx, idx]
  split
  ·rfl
  ·rename_i h1
   rcases List.mem_cons.1 h with e | e
   ·exact absurd e.symm h1
   ·rw [idx_app_mem e]
theorem idx_app_new {o : List Int} {x : Int} (h : x ∉ o) : idx (o ++ [x]) x = o.length := by
 refine idx_first (by simp) (fun j hj => ?_) (by simp)
 have e : (o ++ [x]).getD j 0 = o[j] := by simp [List.getD, List.getElem?_append_left hj, hj]
 rw [e]
 exact fun e2 => h (by rw [← e2]; exact List.getElem_mem hj)
theorem idx_map {f : Int → Int} (hf : ∀ a b, f a = f b → a = b) : ∀ (o : List Int) (x : Int), idx (o.map f) (f x) = idx o x
 | [], _ => rfl
 | y :: r, x => by
  rw [List.map_cons, idx, idx]
  by_cases h : y = x
  ·rw [if_pos h, if_pos (by rw [h])]
  ·rw [if_neg h, if_neg (fun e => h (hf _ _ e)), idx_map hf r x]
theorem mem_map_inj {f : Int → Int} (hf : ∀ a b, f a = f b → a = b) {o : List Int} {x : Int} : f x ∈ o.map f ↔ x ∈ o := by
 rw [List.mem_map]
 exact ⟨fun ⟨y, hy, e⟩ => by rw [← hf _ _ e]; exact hy, fun h => ⟨x, h, rfl⟩⟩
def ext (o : List Int) (x : Int) : List Int := if x ∈ o then o else o ++ [x]
def extV (o : List Int) (x : Int) : List Int := if x < 0 then ext o x else o
def orderL (t : List Int) : List Int := t.foldl extV []
theorem order_take {t : List Int} {k : Nat} {x : Int} (hk : k < t.length) (hx : t.getD k 0 = x) : orderL (t.take (k + 1)) = extV (orderL (t.take k)) x := by
 unfold orderL
 rw [take_snoc hk hx, List.foldl_append]
 rfl
theorem ext_mem {o : List Int} {x y : Int} : y ∈ ext o x ↔ y = x ∨ y ∈ o := by
 unfold ext
 split
 ·rename_i h
  exact ⟨fun e => .inr e, fun e => by rcases e with e | e; exact e ▸ h; exact e⟩
 ·rw [List.mem_append, List.mem_singleton, or_comm]
theorem extV_mem {o : List Int} {x y : Int} : y ∈ extV o x ↔ (y = x ∧ x < 0) ∨ y ∈ o := by
 unfold extV
 split
 ·rename_i h
  rw [ext_mem]
  exact ⟨fun e => by rcases e with e | e; exact .inl ⟨e, h⟩; exact .inr e, fun e => by rcases e with e | e; exact .inl e.1; exact .inr e⟩
 ·rename_i h
  exact ⟨fun e => .inr e, fun e => by rcases e with e | e; exact absurd e.2 h; exact e⟩
theorem fold_ext_mem {y : Int} : ∀ {l o : List Int}, y ∈ l.foldl extV o ↔ (y ∈ l ∧ y < 0) ∨ y ∈ o
 | [], o => by simp
 | x :: l, o => by
  rw [List.foldl_cons, fold_ext_mem, extV_mem, List.mem_cons]
  constructor
  ·rintro (⟨h, h0⟩ | ⟨rfl, h0⟩ | h)
   ·exact .inl ⟨.inr h, h0⟩
   ·exact .inl ⟨.inl rfl, h0⟩
   ·exact .inr h
  ·rintro (⟨rfl | h, h0⟩ | h)
   ·exact .inr (.inl ⟨rfl, h0⟩)
   ·exact .inl ⟨h, h0⟩
   ·exact .inr (.inr h)
theorem order_mem {t : List Int} {y : Int} : y ∈ orderL t ↔ y ∈ t ∧ y < 0 := by unfold orderL; rw [fold_ext_mem]; simp
theorem ext_nodup {o : List Int} {x : Int} (h : o.Nodup) : (ext o x).Nodup := by
 unfold ext
 split
 ·exact h
 ·rename_i hx
  rw [List.nodup_append]
  exact ⟨h, by simp, fun a ha b hb => by simp at hb; subst hb; exact fun e => hx (e ▸ ha)⟩
theorem fold_nodup : ∀ {l o : List Int}, o.Nodup → (l.foldl extV o).Nodup
 | [], _, h => h
 | x :: l, o, h => by
  rw [List.foldl_cons]
  refine fold_nodup ?_
  unfold extV
  split
  ·exact ext_nodup h
  ·exact h
theorem order_nodup (t : List Int) : (orderL t).Nodup := fold_nodup List.nodup_nil
theorem ext_len (o : List Int) (x : Int) : (ext o x).length ≤ o.length + 1 := by unfold ext; split <;> simp
theorem fold_ext_len : ∀ (l o : List Int), (l.foldl extV o).length ≤ o.length + l.length
 | [], _ => by simp
 | x :: l, o => by
  have h1 := fold_ext_len l (extV o x)
  have h2 : (extV o x).length ≤ o.length + 1 := by unfold extV; split; exact ext_len o x; simp
  simp
  omega
theorem order_len (t : List Int) : (orderL t).length ≤ t.length := by have := fold_ext_len t []; simpa [orderL] using this
def ren (o : List Int) (n : Int) : Int := if n < 0 then -1 - (idx o n : Int) else n
def renL (t : List Int) : List Int := t.map (ren (orderL t))
theorem ren_ext {o : List Int} {x n : Int} (h : n < 0 → n ∈ o) : ren (extV o x) n = ren o n := by
 unfold ren
 split
 ·rename_i h0
  unfold extV ext
  split
  ·split
   ·rfl
   ·rw [idx_app_mem (h h0)]
  ·rfl
 ·rfl
theorem ren_len (t : List Int) : (renL t).length = t.length := by simp [renL]
def renI (sg t : List Int) : List Int := if termOkB sg t = true then renL t else []
theorem renI_len {sg t : List Int} {m : Nat} (h : t.length = m) (hm : m ≤ 1048576) : (renI sg t).length ≤ 1048576 := by
 unfold renI
 split
 ·rw [ren_len]; omega
 ·simp
theorem idx_nodup {o : List Int} (h : o.Nodup) {k : Nat} (hk : k < o.length) {x : Int} (hx : o.getD k 0 = x) : idx o x = k := by
 refine idx_first hk (fun j hj e => ?_) hx
 have h1 : o[j]'(by omega) = o[k] := by
  have a : o.getD j 0 = o[j]'(by omega) := by simp [List.getD, show j < o.length by omega]
  have b : o.getD k 0 = o[k] := by simp [List.getD, hk]
  rw [← a, ← b, e, hx]
 exact (List.pairwise_iff_getElem.1 h) j k (by omega) hk hj h1
end renMath
end
section
namespace matchMath
open sig term termOk termFacts endAt sub termMath fillMath posMath renMath
def vr (x : Int) : Nat := (-1 - x).toNat
def mst (sg t : List Int) : List Int → Nat → List (List Int) → Option (List (List Int))
 | [], _, s => some s
 | x :: r, k, s =>
  if t.length ≤ k then none
  else if 0 ≤ x then (if x = t.getD k 0 then mst sg t r (k + 1) s else none)
  else if (s.getD (vr x) []).length ≠ 0 ∧ s.getD (vr x) [] ≠ subL sg t k then none
  else mst sg t r (k + (subL sg t k).length) (s.set (vr x) (subL sg t k))
section
variable {sg t : List Int} {r : List Int} {x : Int} {k : Nat} {s : List (List Int)}
theorem mst_out (h : t.length ≤ k) : mst sg t (x :: r) k s = none := by simp only [mst]; rw [if_pos h]
theorem mst_sym (h : ¬ t.length ≤ k) (hx : 0 ≤ x) (he : x = t.getD k 0) : mst sg t (x :: r) k s = mst sg t r (k + 1) s := by simp only [mst]; rw [if_neg h, if_pos hx, if_pos he]
theorem mst_symNo (h : ¬ t.length ≤ k) (hx : 0 ≤ x) (he : ¬ x = t.getD k 0) : mst sg t (x :: r) k s = none := by simp only [mst]; rw [if_neg h, if_pos hx, if_neg he]
theorem mst_var (h : ¬ t.length ≤ k) (hx : ¬ 0 ≤ x) (he : ¬ ((s.getD (vr x) []).length ≠ 0 ∧ s.getD (vr x) [] ≠ subL sg t k)) : mst sg t (x :: r) k s = mst sg t r (k + (subL sg t k).length) (s.set (vr x) (subL sg t k)) := by simp only [mst]; rw [if_neg h, if_neg hx, if_neg he]
theorem mst_varNo (h : ¬ t.length ≤ k) (hx : ¬ 0 ≤ x) (he : (s.getD (vr x) []).length ≠ 0 ∧ s.getD (vr x) [] ≠ subL sg t k) : mst sg t (x :: r) k s = none := by simp only [mst]; rw [if_neg h, if_neg hx, if_pos he]
end
theorem set_get {s : List (List Int)} {i j : Nat} {v : List Int} : (s.set i v).getD j [] = if i = j ∧ i < s.length then v else s.getD j [] := by
 simp only [List.getD_eq_getElem?_getD, List.getElem?_set]
 by_cases h : i = j
 ·subst h
  by_cases h2 : i < s.length
  ·simp [h2]
  ·simp [h2]
 ·simp [h]
theorem sub_len1 {sg t : List Int} (hok : termOkB sg t = true) {k : Nat} (hk : k < t.length) : (subL sg t k).length = len1 sg t k ∧ t.drop k = subL sg t k ++ t.drop (k + (subL sg t k).length) ∧ scan sg 1 (subL sg t k) = some (subL sg t k).length := by
 have h := term_at hok hk
 have hl : (subL sg t k).length = len1 sg t k := by unfold subL; rw [List.length_take, List.length_drop]; omega
 refine ⟨hl, ?_, (term_parts (sub_term hok hk).1).2.2⟩
 rw [hl, ← List.drop_drop]
 exact (List.take_append_drop _ _).symm
def s0 : List (List Int) := List.replicate 24 []
theorem s0_get (i : Nat) : s0.getD i [] = [] := by
 unfold s0
 rw [List.getD_eq_getElem?_getD, List.getElem?_replicate]
 split <;> rfl
def matchO (sg p t : List Int) : Option (List (List Int)) := if (termOkB sg p && termOkB sg t) = true then mst sg t p 0 s0 else none
def instB (sg p t : List Int) : Bool := (matchO sg p t).isSome
theorem match_yes {sg p t : List Int} (h1 : termOkB sg p = true) (h2 : termOkB sg t = true) : matchO sg p t = mst sg t p 0 s0 := by unfold matchO; rw [if_pos (by rw [h1, h2]; rfl)]
theorem match_no {sg p t : List Int} (h : termOkB sg p = false ∨ termOkB sg t = false) : matchO sg p t = none := by
 unfold matchO
 rw [if_neg]
 rcases h with h | h <;> rw [h] <;> simp
def moreB (sg a b : List Int) : Bool := instB sg a b && !instB sg b a
def bestB (sg : List Int) (ps : List (List Int)) (i : Nat) : Bool := (List.range ps.length).all fun k => !(moreB sg (ps.getD k []) (ps.getD i []) || (decide (k < i) && (termOkB sg (ps.getD k []) && (termOkB sg (ps.getD i []) && decide (renL (ps.getD k []) = renL (ps.getD i []))))))
end matchMath
end
section
namespace whole
open Go.RowKit base segs matchMath
set_option maxRecDepth 100000
def z24 : Array Value := Array.replicate 24 (.slice none 0 0)
theorem z24_size : z24.size = 24 := by simp [z24]
section
variable {w w' : World} {B B' g : Nat} {cs : Array Value} {s : List (List Int)} {t : TypeId}
def TabR (w : World) (B : Nat) (cs : Array Value) (s : List (List Int)) : Prop :=
 cs.size = 24 ∧ s.length = 24 ∧ ∀ j, j < 24 → ∃ A n c, cs[j]? = some (.slice A n c) ∧ Seg w B A n (s.getD j []) ∧ Cap A n c
theorem TabR.new (w : World) (B : Nat) : TabR w B z24 s0 :=
 ⟨z24_size, rfl, fun j hj => ⟨none, 0, 0, by simp [z24, hj], by rw [s0_get]; exact Seg.empty, ⟨Nat.le_refl _, by omega, fun _ => rfl⟩⟩⟩
theorem TabR.keep (h : TabR w B cs s) (hk : ∀ p : Addr, p.block < B → w'.cell? p = w.cell? p) : TabR w' B cs s :=
 ⟨h.1, h.2.1, fun j hj => by obtain ⟨A, n, c, e, hs, hc⟩ := h.2.2 j hj; exact ⟨A, n, c, e, hs.keep hk, hc⟩⟩
theorem TabR.more (h : TabR w B cs s) (hB : B ≤ B') : TabR w B' cs s :=
 ⟨h.1, h.2.1, fun j hj => by obtain ⟨A, n, c, e, hs, hc⟩ := h.2.2 j hj; exact ⟨A, n, c, e, hs.more hB, hc⟩⟩
theorem TabR.below (h : TabR w B cs s) (hb : Below B w w') : TabR w' B cs s := h.keep fun _ hp => hb.cell hp
theorem TabR.put (h : TabR w B cs s) {j : Nat} (hj : j < 24) {A : Option Addr} {n c : Nat} {ys : List Int} (hs : Seg w B A n ys) (hc : Cap A n c) : TabR w B (cs.setIfInBounds j (.slice A n c)) (s.set j ys) := by
 refine ⟨by rw [Array.size_setIfInBounds]; exact h.1, by rw [List.length_set]; exact h.2.1, fun i hi => ?_⟩
 by_cases e : j = i
 ·subst e
  exact ⟨A, n, c, by rw [Array.getElem?_setIfInBounds_self_of_lt (by rw [h.1]; exact hj)], by rw [set_get, if_pos ⟨rfl, by rw [h.2.1]; exact hj⟩]; exact hs, hc⟩
 ·obtain ⟨A', n', c', e', hs', hc'⟩ := h.2.2 i hi
  exact ⟨A', n', c', by rw [Array.getElem?_setIfInBounds_ne e]; exact e', by rw [set_get, if_neg (fun hh => e hh.1)]; exact hs', hc'⟩
theorem TabR.one (h : TabR w B cs s) : cs.all (·.oneCell') = true := by
 rw [Array.all_eq_true]
 intro i hi
 obtain ⟨A, n, c, e, _⟩ := h.2.2 i (by rw [← h.1]; exact hi)
 rw [Array.getElem?_eq_getElem hi] at e
 injection e with e
 rw [e]; rfl
theorem TabR.segs (h : TabR w B cs s) (hr : Row w g t cs) (hB : B ≤ w.heap.size) : Segs w w.heap.size (some ⟨g, 0, none⟩) 24 s := by
 refine ⟨h.2.1, fun _ => ⟨g, 0, rfl, hr.lt, fun j hj => ?_⟩⟩
 obtain ⟨A, n, c, e, hs, hc⟩ := h.2.2 j hj
 exact ⟨A, n, c, by rw [Nat.zero_add, hr.cell j, e], hs.more hB, hc⟩
end
end whole
end
section
open Go.Lib (hid)
namespace inside
open Go.RowKit base ints sig term arity endOf cursor termOk endAt
set_option maxRecDepth 100000
def Tells (w : World) (b : Bool) (e : Ending) (w' : World) : Prop := e = .returned (.bool b) ∧ Below w.heap.size w w'
structure Fr (w wr : World) (A : Option Addr) (n c : Nat) (sg : List Int) (A' : Option Addr) (m : Nat) (t : List Int) : Prop where
 r : Row wr w.heap.size 29 #[.slice A n c]
 s : Seg wr w.heap.size A n sg
 s' : Seg wr w.heap.size A' m t
 b : Below w.heap.size w wr
section
variable {w wr w' : World} {A : Option Addr} {n c : Nat} {sg : List Int} {A' : Option Addr} {m : Nat} {t : List Int}
theorem Fr.start (h : Seg w w.heap.size A n sg) (h' : Seg w w.heap.size A' m t) : Fr w (w.alloc (.cells #[.slice A n c] 29)) A n c sg A' m t :=
 have b : Below w.heap.size w (w.alloc (.cells #[.slice A n c] 29)) := (Below.refl _ _).alloc (Nat.le_refl _) _
 ⟨Row.new _ _ _, h.below b, h'.below b, b⟩
theorem Fr.next (f : Fr w wr A n c sg A' m t) (hb : Below wr.heap.size wr w') : Fr w w' A n c sg A' m t :=
 have b : Below w.heap.size wr w' := hb.mono (Nat.le_of_lt f.r.lt)
 ⟨f.r.next hb, f.s.below b, f.s'.below b, f.b.trans b⟩
theorem Fr.over (f : Fr w wr A n c sg A' m t) (hb : Below (w.heap.size + 1) wr w') : Fr w w' A n c sg A' m t :=
 have b : Below w.heap.size wr w' := hb.mono (Nat.le_succ _)
 ⟨f.r.below hb (Nat.lt_succ_self _), f.s.below b, f.s'.below b, f.b.trans b⟩
theorem Fr.cell (f : Fr w wr A n c sg A' m t) : wr.cell? ⟨w.heap.size, 0, none⟩ = some (.slice A n c) := f.r.cell 0
theorem Fr.s1 (f : Fr w wr A n c sg A' m t) : Seg wr wr.heap.size A n sg := f.s.more (Nat.le_of_lt f.r.lt)
theorem Fr.t1 (f : Fr w wr A n c sg A' m t) : Seg wr wr.heap.size A' m t := f.s'.more (Nat.le_of_lt f.r.lt)
theorem Fr.size (f : Fr w wr A n c sg A' m t) : w.heap.size < wr.heap.size := f.r.lt
end
set_option maxHeartbeats 1000000 in
theorem right (A A' : Option Addr) (n c m c' : Nat) (sg t : List Int) (x : Int) (w : World) (h : Seg w w.heap.size A n sg) (h' : Seg w w.heap.size A' m t) (hn : n ≤ 1048576) (hm : m ≤ 1048576) :
  Calls Try.prog 124 #[.agg #[.slice A n c], .slice A' m c', .int .i64 x] w (Tells w (thereB sg t x)) := by
 obtain ⟨W, hW⟩ : ∃ W, W = w.alloc (.cells #[.slice A n c] 29) := ⟨_, rfl⟩
 have f : Fr w W A n c sg A' m t := by rw [hW]; exact Fr.start h h'
 have HW := hid hW
 have HL := hid h'.1
 have L := hid (specTermOk A A' n c m c' sg t W f.s1 f.t1 hn hm)
 clear hW h h'
 cases hok : termOkB sg t with
 | false =>
  have HS := hid hok
  have HT := hid (there_no (x := x) (.inl hok))
  clear hok
  go_enter Try.func124, Try.ntmps124
  go_wp2_with fail
  rw [← HW.out]
  refine L.out.mono ?_
  rintro e w1 ⟨he, bb⟩
  rw [HS.out] at he
  subst he
  have F := hid (show Tells w (thereB sg t x) (.returned (.bool false)) w1 from ⟨by rw [HT.out], (f.next bb).b⟩)
  clear f L bb HT
  go_wp2
  go_ret
  exact F.out
 | true =>
  have HS := hid hok
  obtain ⟨b, hb⟩ : ∃ b, decide (0 ≤ x ∧ x < (m : Int)) = b := ⟨_, rfl⟩
  have HD := hid hb
  have HT : thereB sg t x = b := by unfold thereB inB; rw [hok, HL.out, hb]; rfl
  replace HT := hid HT
  clear hok hb
  go_enter Try.func124, Try.ntmps124
  go_wp2_with fail
  rw [← HW.out]
  refine L.out.mono ?_
  rintro e w1 ⟨he, bb⟩
  rw [HS.out] at he
  subst he
  have F := hid (show Tells w (thereB sg t x) (.returned (.bool b)) w1 from ⟨by rw [HT.out], (f.next bb).b⟩)
  clear f L bb HT
  go_wp2_with fail
  refine (there _ _ _ x b _ hm HD.out).mono ?_
  rintro e w2 ⟨rfl, rfl⟩
  go_wp2
  go_ret
  exact F.out
end inside
end
section
namespace plainMath
open fillMath
def strip : List (List Int) → List (List Int)
 | [] => []
 | x :: r => if strip r = [] then (if x = [] then [] else [x]) else x :: strip r
theorem strip_snoc : ∀ (l : List (List Int)) (x : List Int), strip (l ++ [x]) = if x = [] then strip l else l ++ [x]
 | [], x => by
  show strip [x] = _
  by_cases h : x = [] <;> simp [strip, h]
 | y :: r, x => by
  rw [List.cons_append, strip, strip_snoc r x]
  by_cases h : x = []
  ·simp [h, strip]
  ·simp [h]
theorem strip_len : ∀ l : List (List Int), (strip l).length ≤ l.length
 | [] => by simp [strip]
 | x :: r => by
  have h := strip_len r
  rw [strip]
  split
  ·split <;> simp
  ·simp; omega
theorem strip_pad : ∀ l : List (List Int), strip l ++ List.replicate (l.length - (strip l).length) [] = l
 | [] => by simp [strip]
 | x :: r => by
  have h := strip_pad r
  rw [strip]
  by_cases h1 : strip r = []
  ·rw [h1] at h
   rw [if_pos h1]
   have h2 : List.replicate r.length ([] : List Int) = r := by simpa using h
   by_cases h3 : x = []
   ·rw [if_pos h3]
    subst h3
    simp only [List.length_cons, List.length_nil, Nat.sub_zero, List.nil_append]
    rw [List.replicate_succ, h2]
   ·rw [if_neg h3]
    simp only [List.length_cons, List.length_nil]
    rw [show r.length + 1 - (0 + 1) = r.length by omega, h2]
    rfl
  ·rw [if_neg h1]
   simp only [List.length_cons, List.cons_append]
   rw [show r.length + 1 - ((strip r).length + 1) = r.length - (strip r).length by omega, h]
theorem strip_last {l : List (List Int)} {q : Nat} (hq : q < l.length) (h : l.getD q [] ≠ []) : strip (l.take (q + 1)) = l.take (q + 1) := by
 have e : l.take (q + 1) = l.take q ++ [l.getD q []] := by
  rw [List.take_succ_eq_append_getElem hq]
  simp [List.getD, hq]
 rw [e, strip_snoc, if_neg h]
theorem strip_drop {l : List (List Int)} {q : Nat} (hq : q < l.length) (h : l.getD q [] = []) : strip (l.take (q + 1)) = strip (l.take q) := by
 have e : l.take (q + 1) = l.take q ++ [l.getD q []] := by
  rw [List.take_succ_eq_append_getElem hq]
  simp [List.getD, hq]
 rw [e, strip_snoc, if_pos h]
def bare (L : Nat → List Int) (i : Nat) : List Int := if L i = vt i then [] else L i
def rowsL (L : Nat → List Int) (m : Nat) : List (List Int) := (List.range m).map (bare L)
def plainL (L : Nat → List Int) (m : Nat) : List (List Int) := strip (rowsL L m)
theorem rows_len (L : Nat → List Int) (m : Nat) : (rowsL L m).length = m := by simp [rowsL]
theorem rows_succ (L : Nat → List Int) (m : Nat) : rowsL L (m + 1) = rowsL L m ++ [bare L m] := by simp [rowsL, List.range_succ]
theorem plain_same {L : Nat → List Int} {m : Nat} (h : L m = vt m) : plainL L (m + 1) = plainL L m := by
 unfold plainL
 rw [rows_succ, strip_snoc, if_pos (by unfold bare; rw [if_pos h])]
theorem plain_new {L : Nat → List Int} {m : Nat} (h : L m ≠ vt m) (hne : 1 ≤ (L m).length) : plainL L (m + 1) = rowsL L m ++ [L m] := by
 unfold plainL
 have hb : bare L m = L m := by unfold bare; rw [if_neg h]
 rw [rows_succ, strip_snoc, hb, if_neg (fun e => by rw [e] at hne; simp at hne)]
theorem plain_pad (L : Nat → List Int) (m : Nat) : plainL L m ++ List.replicate (m - (plainL L m).length) [] = rowsL L m := by
 have := strip_pad (rowsL L m)
 rw [rows_len] at this
 exact this
theorem plain_more {L : Nat → List Int} {m : Nat} : ∀ {k : Nat}, (∀ i, m ≤ i → L i = vt i) → plainL L (m + k) = plainL L m
 | 0, _ => rfl
 | k + 1, h => by rw [← Nat.add_assoc, plain_same (h _ (by omega)), plain_more h]
theorem plain_24 {L : Nat → List Int} {m : Nat} (hm : m ≤ 24) (h : ∀ i, m ≤ i → L i = vt i) : plainL L 24 = plainL L m := by
 have := plain_more (k := 24 - m) h
 rwa [show m + (24 - m) = 24 by omega] at this
end plainMath
end
section
namespace look
open Go.RowKit base ints marks app sym segs fillMath
set_option maxRecDepth 100000
theorem varTerm (i : Int) (w : World) (h0 : 0 ≤ i) (h1 : i ≤ 1000) :
  Calls Try.prog 59 #[.int .i64 i] w (AnsList w [-1 - i]) := by
 have F : AnsList w [-1 - i] (.returned (.slice (some ⟨w.heap.size, 0, none⟩) 1 1)) (w.alloc (.cells #[.int .i64 (-1 - i)] 2)) :=
  ⟨_, 1, 1, rfl, Own.of_row (Row.new _ _ _) rfl rfl (Nat.le_refl _) (by omega) (Nat.le_refl _) (fun j hj => by
   have e : j = 0 := by omega
   subst e
   rfl), (Below.refl _ _).alloc (Nat.le_refl _) _⟩
 have HF := Lib.hid F
 clear F
 go_enter Try.func59, Try.ntmps59
 go_wp2
 go_ret
 exact HF.out
def AnsLook (B : Nat) (w : World) (ys : List Int) (e : Ending) (w' : World) : Prop := ∃ A n c, e = .returned (.slice A n c) ∧ Seg w' w'.heap.size A n ys ∧ Cap A n c ∧ (∀ k, blk A = some k → k < B ∨ w.heap.size ≤ k) ∧ Below w.heap.size w w'
def Looks (g : Nat) (lb : Array Value) (w : World) (L : Nat → List Int) (N : Nat) : Prop :=
 ∀ (W : World) (i : Nat), Below w.heap.size w W → i < N → Calls Try.prog g (#[.int .i64 (i : Int)] ++ lb) W (AnsLook w.heap.size W (L i))
theorem Looks.next {g : Nat} {lb : Array Value} {w w' : World} {L : Nat → List Int} {N : Nat} (h : Looks g lb w L N) (hb : Below w.heap.size w w') : Looks g lb w' L N :=
 fun W i hW hi => (h W i (next_trans hb hW) hi).mono fun _ _ ⟨A, n, c, he, h1, h2, h3, h4⟩ => ⟨A, n, c, he, h1, h2, fun k hk => by have := h3 k hk; have := hb.size; omega, h4⟩
theorem own_cap {w : World} {base : Nat} {A : Option Addr} {n c : Nat} {xs : List Int} (h : Own w base (.slice A n c) xs) : Cap A n c := by
 have hl := Own.len h
 rcases own_form (n := n) (vs := xs.map (Value.int .i64)) (by rw [hl]; rw [hl] at h; exact h) with ⟨rfl, h1, rfl, _⟩ | ⟨g, cur, rfl, _, _, h1, h2, h3, _⟩
 ·exact ⟨by omega, by omega, fun _ => rfl⟩
 ·exact ⟨h1, h3, fun e => by cases e⟩
theorem look_new {w w' : World} {B : Nat} {ys : List Int} {A : Option Addr} {n c : Nat} (ho : Own w' w.heap.size (.slice A n c) ys) (hb : Below w.heap.size w w') : AnsLook B w ys (.returned (.slice A n c)) w' :=
 ⟨A, n, c, rfl, Own.seg ho, own_cap ho, fun k hk => .inr (World.ownsRow.lt ho k (by cases A with | none => cases hk | some a => exact hk)).1, hb⟩
end look
end
section
open Go.Lib (hid)
namespace same
open Go.RowKit base ints
set_option maxHeartbeats 400000 in
theorem specSame (A A' : Option Addr) (n m c c' : Nat) (xs ys : List Int) (w : World) (h : Seg w w.heap.size A n xs) (h' : Seg w w.heap.size A' m ys) (hn : n ≤ 1048576) (hm : m ≤ 1048576) :
  Calls Try.prog 39 #[.slice A n c, .slice A' m c'] w (AnsSame w xs ys) := by
 by_cases hnm : n = m
 ·subst hnm
  go_enter Try.func39, Try.ntmps39
  go_wp2
  go_loopw [5] (fun i wr => HeadSame w n xs ys i wr) (fun i _ => n - (intOf i).toNat)
  case atStart => exact ⟨0, 0, Nat.zero_le _, rfl, rfl, fun j h => absurd h (Nat.not_lt_zero _)⟩
  case round =>
   obtain ⟨k, d, hk, rfl, rfl, hc⟩ := hrel
   by_cases hlt : k < n
   ·obtain ⟨b, off, x, rfl, -, hx, ex⟩ := h.spot hlt
    obtain ⟨b', off', y, rfl, -, hx', ey⟩ := h'.spot hlt
    by_cases he : x = y
    ·subst he
     have S := hid (alike_step (w := w) hlt hc ex ey)
     clear hc h h' ex ey
     go_wp2
     go_quiet (fail)
     go_wp2
     go_roundw
     case rel => exact S.out _
     case measure => simp [intOf]; omega
    ·have S := hid (same_not (w := w) ex ey he)
     have hne : (x != y) = true := by simp [he]
     clear hc h h' ex ey he
     go_wp2
     go_quiet (fail)
     go_wp2
     go_ret
     rw [World.drewN_drewN]
     exact S.out _
   ·have S := hid (same_yes (w := w) h.1 h'.1 hlt hc)
    clear hc h h'
    go_wp2
    go_ret
    exact S.out _
 ·have S := hid (same_len (w := w) h.1 h'.1 hnm)
  have hne : ((n : Int) != (m : Int)) = true := by simp; omega
  clear h h'
  go_enter Try.func39, Try.ntmps39
  go_wp2
  go_ret
  exact S.out
set_option maxHeartbeats 400000 in
theorem libEqual (A A' : Option Addr) (n m c c' : Nat) (xs ys : List Int) (w : World) (h : Seg w w.heap.size A n xs) (h' : Seg w w.heap.size A' m ys) (hn : n ≤ 1048576) (hm : m ≤ 1048576) :
  Calls Try.prog 82 #[.slice A n c, .slice A' m c'] w (AnsSame w xs ys) := by
 by_cases hnm : n = m
 ·subst hnm
  go_enter Try.func82, Try.ntmps82
  go_wp2
  go_loopw [13] (fun i wr => HeadSame w n xs ys i wr) (fun i _ => n - (intOf i).toNat)
  case atStart => exact ⟨0, 0, Nat.zero_le _, rfl, rfl, fun j h => absurd h (Nat.not_lt_zero _)⟩
  case round =>
   obtain ⟨k, d, hk, rfl, rfl, hc⟩ := hrel
   by_cases hlt : k < n
   ·obtain ⟨b, off, x, rfl, -, hx, ex⟩ := h.spot hlt
    obtain ⟨b', off', y, rfl, -, hx', ey⟩ := h'.spot hlt
    by_cases he : x = y
    ·subst he
     have S := hid (alike_step (w := w) hlt hc ex ey)
     clear hc h h' ex ey
     go_wp2
     go_quiet (fail)
     go_wp2
     go_roundw
     case rel => exact S.out _
     case measure => simp [intOf]; omega
    ·have S := hid (same_not (w := w) ex ey he)
     have hne : (x != y) = true := by simp [he]
     clear hc h h' ex ey he
     go_wp2
     go_quiet (fail)
     go_wp2
     go_ret
     rw [World.drewN_drewN]
     exact S.out _
   ·have S := hid (same_yes (w := w) h.1 h'.1 hlt hc)
    clear hc h h'
    go_wp2
    go_ret
    exact S.out _
 ·have S := hid (same_len (w := w) h.1 h'.1 hnm)
  have hne : ((n : Int) != (m : Int)) = true := by simp; omega
  clear h h'
  go_enter Try.func82, Try.ntmps82
  go_wp2
  go_ret
  exact S.out
theorem implSame (A A' : Option Addr) (n m c c' : Nat) (xs ys : List Int) (w : World) (h : Seg w w.heap.size A n xs) (h' : Seg w w.heap.size A' m ys) (hn : n ≤ 1048576) (hm : m ≤ 1048576) :
  Calls Try.prog 42 #[.slice A n c, .slice A' m c'] w (AnsSame w xs ys) := by
 have L := hid (libEqual A A' n m c c' xs ys w h h' hn hm)
 clear h h'
 go_enter Try.func42, Try.ntmps42
 go_wp2_with fail
 refine L.out.mono ?_
 rintro e w' ⟨rfl, d, rfl⟩
 go_wp2
 go_ret
 exact ⟨rfl, d, rfl⟩
end same
end
section
open Go.Lib (hid)
namespace plain
open Go.RowKit base ints cursor same marks app appAt sym sub segs segsHelp kinds fillMath Go.Proofs.Ytobedfmagjgdcaa.look plainMath
set_option maxRecDepth 100000
theorem Inn.none_ (w : World) (lo hi : Nat) : Inn w lo hi (.slice none 0 0) [] := ⟨none, 0, rfl, Own.nil _ _, fun k hk => by cases hk⟩
theorem inn_own {w : World} {lo : Nat} {A : Option Addr} {n c : Nat} {xs : List Int} (h : Own w lo (.slice A n c) xs) : Inn w lo w.heap.size (.slice A n c) xs := by
 have hl := Own.len h
 subst hl
 exact ⟨A, c, rfl, h, fun k hk => (World.ownsRow.lt h k (by rw [blk_own]; exact hk)).2⟩
set_option maxHeartbeats 1000000 in
theorem appS1 {w : World} {ops : Array Oper} {rest : List Oper} {o : Oper} {a : Act} {Q : Exit → Act → World → Prop} (hgd : o.guard = none) (s x : Operand)
  (ho : o.op = .call { callee := .builtin .append, args := #[s, x], argTypes := #[25, 25] })
  (lo mid : Nat) (A : Option Addr) (n c : Nat) (xss : List (List Int)) (hs : a.eval s = .slice A n c) (hown : Owns w lo mid A n c xss)
  (g c2 : Nat) (v : Value) (ys : List Int) (hx : a.eval x = .slice (some ⟨g, 0, none⟩) 1 c2) (hy : w.cell? ⟨g, 0, none⟩ = some v) (hv : Inn w mid w.heap.size v ys) (hn : n ≤ 1048576) (hlo : lo ≤ mid) (hmid : mid ≤ w.heap.size)
  (h : ∀ A' c' w', Owns w' lo w'.heap.size A' (n + 1) c' (xss ++ [ys]) → w.grownBy w' (blk A) → (blk A' = blk A ∨ blk A' = some w.heap.size) → Below lo w w' → wpList Try.prog ops Q rest (a.put o.dst (.slice A' (n + 1) c')) w') : wpList Try.prog ops Q (o :: rest) a w := by
 obtain ⟨i0, hi, hz0, hz1, hz2⟩ := info_parts info_list
 obtain ⟨hlen, ⟨vs, hr, hin, hap⟩, htop⟩ := hown
 have hvl : vs.length = n := by have := hr.1; omega
 have hvc : v.oneCell' = true := by obtain ⟨A1, c1, rfl, _⟩ := hv; rfl
 refine wpList_append_own_at w hgd s x 25 ho lo 22 i0 (.slice none 0 0) 1 24 Try.underlying25 hi hz0 hz1 hz2 rfl (by decide) (.slice A n c) n vs hs hr
  ⟨g, 0, none⟩ 1 c2 [v] hx rfl (fun j u hj => ?_) (fun u hu => ?_) (by unfold maxLen; omega) (by omega) (by omega) ?_
 ·match j, hj with
  | 0, hj => simp at hj; subst hj; simpa [Addr.add] using hy
 ·simp at hu; subst hu; exact hvc
 ·intro v' w' hown' hg _ hat
  have hform : ∃ A' c', v' = .slice A' (n + 1) c' := by
   rcases hown'.2 with ⟨_, h0⟩ | ⟨g', cap, cur, e, _⟩
   ·omega
   ·exact ⟨_, _, e⟩
  obtain ⟨A', c', rfl⟩ := hform
  rw [blk_own] at hg
  rw [blk_own, blk_own] at hat
  have hsz := hg.size
  have hne : ∀ {u : Value} {zs : List Int} {l2 h2 : Nat}, Inn w l2 h2 u zs → u.ownBlock = none ∨ u.ownBlock ≠ blk A := fun {u zs l2 h2} hu => by
   rcases own_form hr with ⟨rfl, _⟩ | ⟨g', cur, rfl, _, hrow, _⟩
   ·cases e : u.ownBlock with
    | none => exact .inl rfl
    | some z => exact .inr (fun e2 => by cases e2)
   ·exact .inr (hu.ne hrow)
  have hget : ∀ j, j < n → (vs ++ [v]).getD j undef = vs.getD j undef := fun j hj => by simp [List.getD, List.getElem?_append_left (show j < vs.length by omega)]
  have hget2 : ∀ j, j < n → (xss ++ [ys]).getD j [] = xss.getD j [] := fun j hj => by simp [List.getD, List.getElem?_append_left (show j < xss.length by omega)]
  have hnew : (vs ++ [v]).getD n undef = v := by simp [List.getD, ← hvl]
  have hnew2 : (xss ++ [ys]).getD n [] = ys := by simp [List.getD, ← hlen]
  refine h A' c' w' ⟨by simp [hlen], ⟨vs ++ [v], hown', fun j hj => ?_, fun i j k hij hj e1 e2 => ?_⟩, fun k hk => (World.ownsRow.lt hown' k (by rw [blk_own]; exact hk)).2⟩ hg hat ?_
  ·by_cases e : j = n
   ·subst e
    rw [hnew, hnew2]
    exact (hv.kept hg (hne hv)).wider (by omega) (by omega)
   ·rw [hget j (by omega), hget2 j (by omega)]
    exact ((hin j (by omega)).kept hg (hne (hin j (by omega)))).wider (Nat.le_refl _) (by omega)
  ·by_cases e : j = n
   ·subst e
    rw [hget i hij] at e1
    rw [hnew] at e2
    have h1 := ((hin i hij).blk k e1).2.1
    have h2 := (hv.blk k e2).1
    omega
   ·rw [hget i (by omega)] at e1
    rw [hget j (by omega)] at e2
    exact hap i j k hij (by omega) e1 e2
  ·refine (Below.refl lo w).grown hg (by omega) (fun k hk => ?_)
   exact (World.ownsRow.lt hr k (by rw [blk_own]; exact hk)).1
def AnsSubst (w : World) (xss : List (List Int)) (e : Ending) (w' : World) : Prop := ∃ A n c, e = .returned (.agg #[.slice A n c]) ∧ Owns w' w.heap.size w'.heap.size A n c xss ∧ Below w.heap.size w w'
def HeadP (w : World) (L : Nat → List Int) (terms i : Value) (wr : World) : Prop :=
 ∃ (k : Nat) (A : Option Addr) (n c : Nat), k ≤ 24 ∧ i = .int .i64 k ∧ terms = .slice A n c ∧ n ≤ k ∧ Owns wr (w.heap.size + 1) wr.heap.size A n c (plainL L k) ∧ Row wr w.heap.size 39 #[.slice none 0 0] ∧ Below w.heap.size w wr
theorem Seg.away {w w' : World} {A : Option Addr} {n : Nat} {xs : List Int} {r : Option Nat} (h : Seg w w.heap.size A n xs) (hg : w.grownBy w' r) (hne : ∀ k, blk A = some k → r ≠ some k) : Seg w' w'.heap.size A n xs :=
 ⟨h.1, fun hn => by
  obtain ⟨b, off, e, hb, hc⟩ := h.2 hn
  refine ⟨b, off, e, Nat.lt_of_lt_of_le hb hg.size, fun j hj => ?_⟩
  exact (World.cell?_of_block (hg.block b hb (fun e2 => hne b (by rw [e]; rfl) e2.symm))).trans (hc j hj)⟩
def HeadQ (w : World) (mid top : Nat) (L : Nat → List Int) (k : Nat) (A1 : Option Addr) (n1 : Nat) (ys : List Int) (terms : Value) (wr : World) : Prop :=
 ∃ (A : Option Addr) (n c : Nat), terms = .slice A n c ∧ n ≤ k ∧ (plainL L k).length ≤ n ∧ Owns wr (w.heap.size + 1) wr.heap.size A n c (plainL L k ++ List.replicate (n - (plainL L k).length) []) ∧ (∀ q, blk A = some q → q < mid ∨ top ≤ q) ∧
  Seg wr wr.heap.size A1 n1 ys ∧ Row wr w.heap.size 39 #[.slice none 0 0] ∧ Below w.heap.size w wr ∧ top ≤ wr.heap.size
def lenOf (v : Value) : Nat := match v with
 | .slice _ n _ => n
 | _ => 0
set_option maxHeartbeats 16000000 in
theorem plain (g : Nat) (lb : Array Value) (eg : ∀ args w, (callFunc g args).run Try.prog w = .ok (.enter g args) w) (L : Nat → List Int) (w : World)
  (hL : Looks g lb w L 24) (h1 : ∀ i, 1 ≤ (L i).length) (hM : ∀ i, (L i).length ≤ 4096) :
  Calls Try.prog 61 #[.func (.func g) #[] lb] w (AnsSubst w (plainL L 24)) := by
 have H1 := hid h1
 have HM := hid hM
 have HK := hid hL
 have S0 : HeadP w L (.slice none 0 0) (.int .i64 0) (w.alloc (.cells #[.slice none 0 0] 39)) :=
  ⟨0, none, 0, 0, by omega, rfl, rfl, Nat.le_refl _, by simpa [plainL, rowsL, strip] using Owns.nil (w.alloc (.cells #[.slice none 0 0] 39)) (w.heap.size + 1) (w.alloc (.cells #[.slice none 0 0] 39)).heap.size, Row.new _ _ _, (Below.refl _ _).alloc (Nat.le_refl _) _⟩
 have HS0 := hid S0
 clear S0 h1 hM hL
 go_enter Try.func61, Try.ntmps61
 go_wp2
 go_loopw [3, 6] (fun terms i wr => HeadP w L terms i wr) (fun _ i _ => 24 - (intOf i).toNat)
 case atStart => exact HS0.out
 case round =>
  obtain ⟨k, A, n, c, hk, rfl, rfl, hnk, ho, hr, hb⟩ := hrel
  clear HS0
  obtain ⟨wo, rfl⟩ : ∃ wo : World, wo = wr := ⟨_, rfl⟩
  by_cases hlt : k < 24
  ·have hcall := HK.out wo k hb hlt
   have hLk : (L k).length ≤ 4096 := HM.out k
   have hL1 : 1 ≤ (L k).length := H1.out k
   obtain ⟨ys, hys⟩ : ∃ ys, L k = ys := ⟨_, rfl⟩
   rw [hys] at hcall hLk hL1
   have HY := hid hys
   have HC := hid hcall
   clear hys hcall
   have hsz := hb.size
   have hrlt := hr.lt
   by_cases hsame : ys = [-1 - (k : Int)]
   ·have DS := hid (decide_eq_true hsame)
    go_wp2_with (first
     | (go_at_fn g; refine HC.out.mono ?_; rintro e w1 ⟨A1, n1, c1, rfl, s1, cap1, far1, bb1⟩; have hn1 : n1 ≤ 4096 := (by rw [← s1.1]; exact hLk))
     | (go_at_call 59; refine (varTerm (k : Int) _ (by omega) (by omega)).mono ?_; rintro e w2 ⟨A2, n2, c2, rfl, o2, bb2⟩; have hn2 : n2 ≤ 1048576 := (by rw [Own.len o2]; simp))
     | (go_at_call 42; refine (implSame A1 A2 n1 n2 c1 c2 ys [-1 - (k : Int)] w2 (s1.next bb2) (Own.seg o2) (by omega) hn2).mono ?_; rintro e w3 ⟨he, d, rfl⟩; rw [DS.out] at he; subst he))
    have bb3 : Below wo.heap.size wo (w2.drewN d) := below_drewN (next_trans bb1 bb2) d
    have hs3 := bb3.size
    have S : HeadP w L (.slice A n c) (.int .i64 ((k : Int) + 1)) (w2.drewN d) := ⟨k + 1, A, n, c, hlt, by simp, rfl, by omega, by rw [plain_same (HY.out.trans hsame)]; exact (ho.next bb3).wider (Nat.le_refl _) hs3, hr.next bb3, hb.trans (bb3.mono hsz)⟩
    have HS := hid S
    clear S bb3 hs3 s1 cap1 far1 bb1 o2 bb2 ho hr hb HC HY hsame DS
    go_wp2
    go_roundw
    case rel => exact HS.out
    case measure => simp [intOf]; omega
   ·have DS := hid (decide_eq_false hsame)
    have HNE := hid hsame
    clear hsame
    go_wp2_with (first
     | (go_at_fn g; refine HC.out.mono ?_; rintro e w1 ⟨A1, n1, c1, rfl, s1, cap1, far1, bb1⟩; have hn1 : n1 ≤ 4096 := (by rw [← s1.1]; exact hLk))
     | (go_at_call 59; refine (varTerm (k : Int) _ (by omega) (by omega)).mono ?_; rintro e w2 ⟨A2, n2, c2, rfl, o2, bb2⟩; have hn2 : n2 ≤ 1048576 := (by rw [Own.len o2]; simp))
     | (go_at_call 42; refine (implSame A1 A2 n1 n2 c1 c2 ys [-1 - (k : Int)] w2 (s1.next bb2) (Own.seg o2) (by omega) hn2).mono ?_; rintro e w3 ⟨he, hd⟩; rw [DS.out] at he; subst he; have bb3 : Below w2.heap.size w2 w3 := (by obtain ⟨d, rfl⟩ := hd; exact drewN_below _ _)))
    have bbo := next_trans (next_trans bb1 bb2) bb3
    have s3 := (s1.next bb2).next bb3
    have hs3 := bbo.size
    have h12 := bb2.size
    have h23 := bb3.size
    have hn1' : 1 ≤ n1 := by rw [← s1.1]; exact hL1
    have hA1 : ∀ q, blk A1 = some q → q < w.heap.size ∨ (wo.heap.size ≤ q ∧ q < w3.heap.size) := fun q hq => by
     rcases far1 q hq with h | h
     ·exact .inl h
     ·refine .inr ⟨h, ?_⟩
      obtain ⟨b, off, e, hb', _⟩ := s1.2 (by omega)
      rw [e] at hq
      have : b = q := Option.some.inj hq
      omega
    have Q0 : HeadQ w wo.heap.size w3.heap.size L k A1 n1 ys (.slice A n c) w3 := by
     have hl := ho.len
     refine ⟨A, n, c, rfl, hnk, by omega, ?_, fun q hq => .inl (ho.top q hq), s3, hr.next bbo, hb.trans (bbo.mono hsz), Nat.le_refl _⟩
     rw [show n - (plainL L k).length = 0 by omega, List.replicate_zero, List.append_nil]
     exact (ho.next bbo).wider (Nat.le_refl _) hs3
    have HQ0 := hid Q0
    have HA1 := hid hA1
    clear Q0 hA1 bbo s3 s1 cap1 far1 bb1 o2 bb2 bb3 ho hr hb HC DS hd
    go_loopw [3] (fun terms wr => HeadQ w wo.heap.size w3.heap.size L k A1 n1 ys terms wr) (fun terms _ => k - lenOf terms)
    case atStart => exact HQ0.out
    case round =>
     obtain ⟨A, n, c, rfl, hnk, hpn, ho, hloc, s1, hr, hb, htop⟩ := hrel
     clear HQ0
     have hrl := hr.lt
     have hne : ∀ q, blk A1 = some q → blk A ≠ some q := fun q hq e => by
      have h1 := HA1.out q hq
      have h2 := hloc q e
      obtain ⟨vs, hown, _⟩ := ho.row
      have h3 := (World.ownsRow.lt hown q (by rw [blk_own]; exact e)).1
      omega
     have hneB : blk A ≠ some w.heap.size := fun e => by
      obtain ⟨vs, hown, _⟩ := ho.row
      have h3 := (World.ownsRow.lt hown _ (by rw [blk_own]; exact e)).1
      omega
     by_cases hlt2 : n < k
     ·have ho1 := ho.next (w' := wr.alloc (.cells #[.slice none 0 0] 22)) ((Below.refl _ _).alloc (Nat.le_refl _) _)
      have hr1 := hr.alloc (.cells #[.slice none 0 0] 22)
      have s1a := s1.next (w' := wr.alloc (.cells #[.slice none 0 0] 22)) ((Below.refl _ _).alloc (Nat.le_refl _) _)
      go_wp2_with (at_builtin; refine appS1 rfl _ _ rfl (w.heap.size + 1) wr.heap.size A n c _ rfl ho1 wr.heap.size 1 (.slice none 0 0) [] rfl ((Row.new _ _ _).cell 0) (Inn.none_ _ _ _) (by omega) (by omega) (by simp) ?_; intro A' c' w5 ho5 hg5 hat5 b5)
      have S : HeadQ w wo.heap.size w3.heap.size L k A1 n1 ys (.slice A' (n + 1) c') w5 := by
       refine ⟨A', n + 1, c', rfl, hlt2, by omega, ?_, fun q hq => ?_, Seg.away s1a hg5 hne, Row.away hr1 hg5 hneB, (hb.alloc (by omega) _).trans (b5.mono (by omega)), ?_⟩
       ·rw [show n + 1 - (plainL L k).length = (n - (plainL L k).length) + 1 by omega, List.replicate_succ', ← List.append_assoc]
        exact ho5
       ·rcases hat5 with h | h
        ·exact hloc q (by rw [← h]; exact hq)
        ·rw [h] at hq
         injection hq with hq
         simp at hq
         omega
       ·have := hg5.size; simp at this; omega
      have HS := hid S
      clear S ho5 hg5 hat5 b5 ho1 hr1 s1a ho hloc s1 hr hb hne hneB
      go_wp2
      go_roundw
      case rel => exact HS.out
      case measure => simp [lenOf]; omega
     ·have hkn : n = k := by omega
      subst hkn
      obtain ⟨b1, off1, e1, _, _⟩ := s1.2 (by omega)
      subst e1
      rw [plain_pad] at ho
      have LC := hid (cloneInts b1 off1 n1 c1 ys wr s1 (by omega))
      go_wp2_with (first
       | (go_at_call 95; refine LC.out.mono ?_; rintro e w5 ⟨A5, n5, c5, rfl, o5, bb5⟩; have z5 := bb5.size; have ho5 := (ho.next bb5).next (w' := w5.alloc (.cells #[.slice A5 n5 c5] 22)) ((Below.refl _ _).alloc (Nat.le_refl _) _); have i5 := (inn_own o5).next (w' := w5.alloc (.cells #[.slice A5 n5 c5] 22)) ((Below.refl _ _).alloc (Nat.le_refl _) _); have i6 := Inn.wider i5 (Nat.le_refl _) (show w5.heap.size ≤ (w5.alloc (.cells #[.slice A5 n5 c5] 22)).heap.size by simp); have r5 := (hr.next bb5).alloc (.cells #[.slice A5 n5 c5] 22))
       | (at_builtin; refine appS1 rfl _ _ rfl (w.heap.size + 1) wr.heap.size A n c _ rfl ho5 w5.heap.size 1 (.slice A5 n5 c5) ys rfl ((Row.new _ _ _).cell 0) i6 (by omega) (by omega) (by simp; omega) ?_; intro A' c' w6 ho6 hg6 hat6 b6))
      have S : HeadP w L (.slice A' (n + 1) c') (.int .i64 ((n : Int) + 1)) w6 := by
       refine ⟨n + 1, A', n + 1, c', hlt, by simp, rfl, Nat.le_refl _, ?_, Row.away r5 hg6 hneB, ((hb.trans (bb5.mono (by omega))).alloc (by omega) _).trans (b6.mono (by omega))⟩
       rw [plain_new (by rw [HY.out]; exact HNE.out) (by rw [HY.out]; exact hL1), HY.out]
       exact ho6
      have HS := hid S
      clear S ho6 hg6 hat6 b6 ho5 i5 i6 r5 o5 bb5 ho hloc s1 hr hb hne hneB LC
      go_wp2
      go_roundw
      case rel => exact HS.out
      case measure => simp [intOf]; omega
  ·have hk24 : k = 24 := by omega
   subst hk24
   have hcell : wo.cell? ⟨w.heap.size, 0, none⟩ = some (.slice none 0 0) := hr.cell 0
   have hfr : wo.frozen? ⟨w.heap.size, 0, none⟩ = false := hr.free 0
   have F : AnsSubst w (plainL L 24) (.returned (.agg #[.slice A n c])) (wo.setCell ⟨w.heap.size, 0, none⟩ (.slice A n c)) :=
    ⟨A, n, c, rfl, (owns_put ho hr (Nat.lt_succ_self _) 0 _).wider (by omega) (by simp), hb.setCell (Nat.le_refl _) _⟩
   have HF := hid F
   clear F ho hr hb
   go_wp2
   exact bodyPost_ret (v := .agg #[.slice A n c]) (by simp [results, Try.results61, go_sem, hcell]) rfl HF.out
end plain
end
section
namespace varsOf
open Go.RowKit base
def AnsB (w : World) (b : Bool) (e : Ending) (w' : World) : Prop := e = .returned (.bool b) ∧ Below w.heap.size w w'
theorem ansB {w w' : World} {a b : Bool} (h : a = b) (hb : Below w.heap.size w w') : AnsB w b (.returned (.bool a)) w' := ⟨by rw [h], hb⟩
end varsOf
end
section
namespace substOk
open Go.RowKit base ints sig term termOk marks app sym sub segs segsHelp termFacts varsMath varsOf fillMath Go.Proofs.Ytobedfmagjgdcaa.look
set_option maxRecDepth 100000
end substOk
end
section
open Go.Lib (hid)
namespace gives
open Go.RowKit base ints sig term termOk marks app sym sub segs segsHelp termFacts varsMath varsOf fillMath Go.Proofs.Ytobedfmagjgdcaa.look substOk
set_option maxRecDepth 100000
def givesL (ss : List (List Int)) (i : Nat) : List Int := if (ss.getD i []).length = 0 then vt i else ss.getD i []
theorem gives_var {ss : List (List Int)} {i : Nat} (h : (ss.getD i []).length = 0) : givesL ss i = vt i := by unfold givesL; rw [if_pos h]
theorem gives_term {ss : List (List Int)} {i : Nat} (h : ¬ (ss.getD i []).length = 0) : givesL ss i = ss.getD i [] := by unfold givesL; rw [if_neg h]
theorem gives_out {ss : List (List Int)} {i : Nat} (h : ¬ i < ss.length) : givesL ss i = vt i := gives_var (by simp [List.getD, h])
theorem gives_pos (ss : List (List Int)) (i : Nat) : 1 ≤ (givesL ss i).length := by
 unfold givesL
 split
 ·simp [vt]
 ·omega
set_option maxHeartbeats 2000000 in
theorem l2Gives (S : Option Addr) (m c : Nat) (ss : List (List Int)) (i : Nat) (w : World) (h : Segs w w.heap.size S m ss) (ht : tot ss ≤ 1048576) (hi : i ≤ 1048576) :
  Calls Try.prog 73 #[.agg #[.slice S m c], .int .i64 (i : Int)] w (AnsList w (givesL ss i)) := by
 have hm : m ≤ 1048576 := tot_len h.1 ht
 have HT := hid (tot_each ht)
 have HL := hid h.1
 clear ht
 have bel : Below w.heap.size w (w.alloc (.cells #[.slice S m c] 39)) := (Below.refl _ _).alloc (Nat.le_refl _) _
 have i0 : (0 : Int) ≤ (i : Int) := by omega
 have var : ∀ (hv : givesL ss i = vt i), AnsList w (givesL ss i) (.returned (.slice (some ⟨w.heap.size + 1, 0, none⟩) 1 1)) ((w.alloc (.cells #[.slice S m c] 39)).alloc (.cells #[.int .i64 (-1 - (i : Int))] 2)) := fun hv => by
  refine ⟨_, 1, 1, rfl, ?_, bel.alloc (by simp) _⟩
  rw [hv]
  have := Own.of_row (base := w.heap.size) (n := 1) (c := 1) (xs := vt i) (Row.new (w.alloc (.cells #[.slice S m c] 39)) 2 #[.int .i64 (-1 - (i : Int))]) rfl rfl (Nat.le_refl _) (by omega) (by simp) (fun j hj => by
   have e : j = 0 := by omega
   subst e
   rfl)
  simpa using this
 have VAR := hid var
 clear var
 by_cases hlt : i < m
 ·obtain ⟨b, off, A', n', cc, rfl, hbB, hx, hseg, hcap⟩ := h.spot hlt
  have hx1 : (w.alloc (.cells #[.slice (some ⟨b, off, none⟩) m c] 39)).cell? ⟨b, off + i, none⟩ = some (.slice A' n' cc) := (bel.cell (p := ⟨b, off + i, none⟩) hbB).trans hx
  by_cases hz : n' = 0
  ·subst hz
   have F := hid (VAR.out (gives_var hseg.1))
   clear h hseg hcap hx bel VAR
   go_enter Try.func73, Try.ntmps73
   go_wp2
   go_ret
   exact F.out
  ·have hpos : 0 < n' := by omega
   have E := hid (gives_term (ss := ss) (i := i) (by rw [hseg.1]; exact hz))
   have L := hid (copyInts A' n' cc _ _ ((hseg.below bel).more bel.size) hcap.2.2 (by rw [← hseg.1]; exact HT.out i))
   clear h hseg hcap hx VAR
   go_enter Try.func73, Try.ntmps73
   go_wp2_with fail
   refine L.out.mono ?_
   rintro e w1 ⟨D, dn, dc, rfl, o1, b1⟩
   have F : AnsList w (givesL ss i) (.returned (.slice D dn dc)) w1 := ⟨D, dn, dc, rfl, by rw [E.out]; exact Own.lower o1 bel.size, next_trans bel b1⟩
   have HF := hid F
   clear F o1 b1 bel L
   go_wp2
   go_ret
   exact HF.out
 ·have hge : ¬ (i : Int) < (m : Int) := by omega
  have F := hid (VAR.out (gives_out (by rw [HL.out]; exact hlt)))
  clear h bel VAR
  go_enter Try.func73, Try.ntmps73
  go_wp2
  go_ret
  exact F.out
theorem lookupIn (S : Option Addr) (m c : Nat) (w : World) :
  Calls Try.prog 78 #[.agg #[.slice S m c]] w fun e w' => e = .returned (.func (.func 111) #[] #[.pointer (some ⟨w.heap.size, 0, none⟩)]) ∧ w' = w.alloc (.cells #[.slice S m c] 39) := by
 have hmf : ∀ (fn : Fn) (first cap : Array Value) (w : World), (Instr.makeFunc fn first cap).run Try.prog w = .ok (.func fn first cap) w := fun _ _ _ _ => rfl
 go_enter Try.func78, Try.ntmps78
 go_wp2
 go_ret
 exact ⟨rfl, rfl⟩
set_option maxHeartbeats 2000000 in
theorem lookSubstC (B : Nat) (S : Option Addr) (m c : Nat) (ss : List (List Int)) (w : World) (hB : B < w.heap.size) (hc : w.cell? ⟨B, 0, none⟩ = some (.slice S m c)) (h : Segs w w.heap.size S m ss) (hm : m ≤ 1048576) :
  Looks 111 #[.pointer (some ⟨B, 0, none⟩)] w (givesL ss) 24 := by
 intro W i hb hi
 have cB : W.cell? ⟨B, 0, none⟩ = some (.slice S m c) := (hb.cell (p := ⟨B, 0, none⟩) hB).trans hc
 have h1 := h.below hb
 have HL := hid h.1
 have i0 : (0 : Int) ≤ (i : Int) := by omega
 have LV := hid (varTerm (i : Int) W (by omega) (by omega))
 have hws := hb.size
 clear hB hc h hb
 show Calls Try.prog 111 #[.int .i64 (i : Int), .pointer (some ⟨B, 0, none⟩)] W _
 by_cases hlt : i < m
 ·obtain ⟨b, off, A', n', cc, rfl, hbB, hx, hseg0, hcap⟩ := h1.spot hlt
  have hseg := hseg0.more hws
  by_cases hz : n' = 0
  ·subst hz
   have E := hid (gives_var (ss := ss) (i := i) hseg.1)
   clear h1 hseg hseg0 hcap
   go_enter Try.func111, Try.ntmps111
   go_wp2_with fail
   refine LV.out.mono ?_
   rintro e w1 ⟨D, dn, dc, rfl, o1, b1⟩
   have F : AnsLook w.heap.size W (givesL ss i) (.returned (.slice D dn dc)) w1 := by rw [E.out]; exact look_new o1 b1
   have HF := hid F
   clear F o1 b1 LV
   go_wp2
   go_ret
   exact HF.out
  ·have hpos : 0 < n' := by omega
   have F : AnsLook w.heap.size W (givesL ss i) (.returned (.slice A' n' cc)) W := ⟨A', n', cc, rfl, by rw [gives_term (by rw [hseg.1]; exact hz)]; exact hseg, hcap, fun k hk => .inl (by obtain ⟨b2, off2, e2, hb2, _⟩ := hseg0.2 hpos; rw [e2] at hk; have : b2 = k := Option.some.inj hk; omega), Below.refl _ _⟩
   have HF := hid F
   clear F h1 hseg hseg0 hcap LV
   go_enter Try.func111, Try.ntmps111
   go_wp2
   go_ret
   exact HF.out
 ·have hge : ¬ (i : Int) < (m : Int) := by omega
  have E := hid (gives_out (ss := ss) (i := i) (by rw [HL.out]; exact hlt))
  clear h1
  go_enter Try.func111, Try.ntmps111
  go_wp2_with fail
  refine LV.out.mono ?_
  rintro e w1 ⟨D, dn, dc, rfl, o1, b1⟩
  have F : AnsLook w.heap.size W (givesL ss i) (.returned (.slice D dn dc)) w1 := by rw [E.out]; exact look_new o1 b1
  have HF := hid F
  clear F o1 b1 LV
  go_wp2
  go_ret
  exact HF.out
theorem lookSubst (B : Nat) (S : Option Addr) (m c : Nat) (ss : List (List Int)) (w : World) (hr : Row w B 39 #[.slice S m c]) (h : Segs w w.heap.size S m ss) (hm : m ≤ 1048576) :
  Looks 111 #[.pointer (some ⟨B, 0, none⟩)] w (givesL ss) 24 := lookSubstC B S m c ss w hr.lt (hr.cell 0) h hm
end gives
end
section
open Go.Lib (hid)
namespace plainOf
open Go.RowKit base ints sig cursor marks app appAt sym sub segs segsHelp kinds varsOf fillMath Go.Proofs.Ytobedfmagjgdcaa.look substOk gives plainMath plain
set_option maxRecDepth 100000
theorem own_one {w : World} {base : Nat} {D : Option Addr} {c : Nat} {x : Int} (h : Own w base (.slice D 1 c) [x]) : ∃ g, D = some ⟨g, 0, none⟩ ∧ w.cell? ⟨g, 0, none⟩ = some (.int .i64 x) := by
 rcases own_form (n := 1) (vs := [x].map (Value.int .i64)) h with ⟨_, h1, _⟩ | ⟨g, cur, e, _, hr, _, _, _, _, hc⟩
 ·omega
 ·refine ⟨g, e, ?_⟩
  rw [hr.cell 0, hc 0 (by omega)]
  rfl
theorem Owns.shrink {w : World} {lo hi m n c : Nat} {A : Option Addr} {xss : List (List Int)} (h : Owns w lo hi A m c xss) (hn : n ≤ m) : Owns w lo hi A n c (xss.take n) := by
 obtain ⟨h1, ⟨vs, hr, hin, hap⟩, h3⟩ := h
 rcases own_form hr with ⟨rfl, h0, rfl, rfl⟩ | ⟨g, cur, rfl, hlo, hrow, hmc, hsz, hmax, hlen, hc⟩
 ·obtain rfl : n = 0 := by omega
  simpa using Owns.nil w lo hi
 ·have e1 : ∀ j, j < n → (cur.toList.take n).getD j undef = vs.getD j undef := fun j hj => by
   have := hc j (by omega)
   simp [List.getD, List.getElem?_take, hj, this]
  have e2 : ∀ j, j < n → (xss.take n).getD j [] = xss.getD j [] := fun j hj => by simp [List.getD, List.getElem?_take, hj]
  refine ⟨by rw [List.length_take, h1]; omega, ⟨_, rowsOf hrow hsz (by omega) hmax hlo, fun j hj => ?_, fun i j k hij hj a b => ?_⟩, h3⟩
  ·rw [e1 j hj, e2 j hj]
   exact hin j (by omega)
  ·rw [e1 i (by omega)] at a
   rw [e1 j hj] at b
   exact hap i j k hij (by omega) a b
def HeadL1 (w : World) (S : Option Addr) (m c : Nat) (ss : List (List Int)) (i : Value) (wr : World) : Prop :=
 ∃ (k : Nat) (A : Option Addr) (cA : Nat), k ≤ m ∧ i = .int .i64 k ∧ Owns wr (w.heap.size + 3) wr.heap.size A k cA (rowsL (givesL ss) k) ∧ Row wr w.heap.size 39 #[.slice S m c] ∧ Row wr (w.heap.size + 1) 39 #[.slice none 0 0] ∧
  Row wr (w.heap.size + 2) 39 #[.slice A k cA] ∧ Below w.heap.size w wr
theorem headL1_step {w wr w1 w5 w6 : World} {S A A' : Option Addr} {m c k cA c' : Nat} {ss : List (List Int)} (hk : k < m) (ho : Owns w6 (w.heap.size + 3) w6.heap.size A' (k + 1) c' (rowsL (givesL ss) (k + 1)))
  (r0 : Row wr w.heap.size 39 #[.slice S m c]) (r1 : Row wr (w.heap.size + 1) 39 #[.slice none 0 0]) (r2 : Row wr (w.heap.size + 2) 39 #[.slice A k cA]) (hb : Below w.heap.size w wr)
  (b1 : Below wr.heap.size wr w1) (b5 : Below w1.heap.size w1 w5) (hg : w5.grownBy w6 (blk A)) (hA : ∀ z, blk A = some z → w.heap.size + 3 ≤ z) :
  HeadL1 w S m c ss (.int .i64 ((k : Int) + 1)) (w6.setCell ⟨w.heap.size + 2, 0, none⟩ (.slice A' (k + 1) c')) := by
 have bb := next_trans b1 b5
 have q0 := Row.away (r0.next bb) hg (fun e => by have := hA _ e; omega)
 have q1 := Row.away (r1.next bb) hg (fun e => by have := hA _ e; omega)
 have q2 := Row.away (r2.next bb) hg (fun e => by have := hA _ e; omega)
 have hbb : Below w.heap.size w w6 := (hb.trans (bb.mono hb.size)).grown hg (by have := hb.size; have := bb.size; omega) (fun z hz => by have := hA z hz; omega)
 refine ⟨k + 1, A', c', hk, by simp, ?_, q0.far (by simp) _, q1.far (by simp) _, ?_, hbb.setCell (by simp) _⟩
 ·have := owns_put ho q2 (by omega) 0 (.slice A' (k + 1) c')
  simpa using this
 ·have := q2.put 0 (.slice A' (k + 1) c')
  simpa using this
def HeadL2 (w : World) (L : Nat → List Int) (m : Nat) (A : Option Addr) (cA : Nat) (p : Value) (wr : World) : Prop :=
 ∃ n : Nat, n ≤ m ∧ p = .pointer (some ⟨w.heap.size + 2, 0, none⟩) ∧ strip ((rowsL L m).take n) = plainL L m ∧ Owns wr (w.heap.size + 3) wr.heap.size A m cA (rowsL L m) ∧ Row wr (w.heap.size + 1) 39 #[.slice none 0 0] ∧
  Row wr (w.heap.size + 2) 39 #[.slice A n cA] ∧ Below w.heap.size w wr
def lenAt (w : World) (p : Addr) : Nat := match w.cell? p with
 | some (.slice _ n _) => n
 | _ => 0
theorem headL2_end {w wr : World} {L : Nat → List Int} {m n cA : Nat} {A : Option Addr} (hn : n ≤ m) (hs : strip ((rowsL L m).take n) = plainL L m) (ho : Owns wr (w.heap.size + 3) wr.heap.size A m cA (rowsL L m))
  (r1 : Row wr (w.heap.size + 1) 39 #[.slice none 0 0]) (hb : Below w.heap.size w wr) (hend : n = 0 ∨ (rowsL L m).getD (n - 1) [] ≠ []) :
  AnsSubst w (plainL L m) (.returned (.agg #[.slice A n cA])) (wr.setCell ⟨w.heap.size + 1, 0, none⟩ (.slice A n cA)) := by
 have e : (rowsL L m).take n = plainL L m := by
  rw [← hs]
  rcases hend with rfl | h
  ·simp [strip]
  ·by_cases h0 : n = 0
   ·subst h0; simp [strip]
   ·have := strip_last (l := rowsL L m) (q := n - 1) (by rw [rows_len]; omega) h
    rw [show n - 1 + 1 = n by omega] at this
    exact this.symm
 have h1 := Owns.shrink (owns_put ho r1 (by omega) 0 (.slice A n cA)) hn
 rw [e] at h1
 exact ⟨A, n, cA, rfl, h1.wider (by omega) (by simp), hb.setCell (by simp) _⟩
set_option maxHeartbeats 8000000 in
theorem l2Plain (S : Option Addr) (m c : Nat) (ss : List (List Int)) (w : World) (h : Segs w w.heap.size S m ss) (ht : tot ss ≤ 1048576) :
  Calls Try.prog 56 #[.agg #[.slice S m c]] w (AnsSubst w (plainL (givesL ss) m)) := by
 have HT := hid ht
 have hm : m ≤ 1048576 := tot_len h.1 ht
 have HE := hid (tot_each ht)
 clear ht
 go_enter Try.func56, Try.ntmps56
 go_wp2_with fail
 go_loopw [4] (fun i wr => HeadL1 w S m c ss i wr) (fun i _ => m - (intOf i).toNat)
 case atStart =>
  have b0 : Below w.heap.size w (((w.alloc (.cells #[.slice S m c] 39)).alloc (.cells #[.slice none 0 0] 39)).alloc (.cells #[.slice none 0 0] 39)) := (((Below.refl _ _).alloc (Nat.le_refl _) _).alloc (by simp) _).alloc (by simp; omega) _
  have q1 := Row.new (w.alloc (.cells #[.slice S m c] 39)) 39 #[.slice none 0 0]
  have q2 := Row.new ((w.alloc (.cells #[.slice S m c] 39)).alloc (.cells #[.slice none 0 0] 39)) 39 #[.slice none 0 0]
  refine ⟨0, none, 0, Nat.zero_le _, rfl, by simpa [rowsL] using Owns.nil _ _ _, ((Row.new w 39 #[.slice S m c]).alloc _).alloc _, ?_, ?_, b0⟩
  ·have := q1.alloc (.cells #[.slice none 0 0] 39); simpa using this
  ·simpa using q2
 case round =>
  obtain ⟨k, A, cA, hk, rfl, ho, r0, r1, r2, hb⟩ := hrel
  have c0 : wr.cell? ⟨w.heap.size, 0, none⟩ = some (.slice S m c) := r0.cell 0
  have cO : wr.cell? ⟨w.heap.size + 2, 0, none⟩ = some (.slice A k cA) := r2.cell 0
  have i0 : (0 : Int) ≤ (k : Int) := by omega
  by_cases hlt : k < m
  ·have i1 : (k : Int) < (m : Int) := by omega
   have LG := hid (l2Gives S m c ss k wr ((h.below hb).more hb.size) HT.out (by omega))
   have HA : Hid (∀ z, blk A = some z → w.heap.size + 3 ≤ z) := hid (fun z hz => by
    obtain ⟨vs, hown, _⟩ := ho.row
    exact (World.ownsRow.lt hown z (by rw [blk_own]; exact hz)).1)
   have hw1 : IntKind.i64.wrap (-1 - (k : Int)) = -1 - (k : Int) := by rw [IntKind.wrap_i64]; omega
   have hrl := r2.lt
   obtain ⟨ys, hys⟩ : ∃ ys, givesL ss k = ys := ⟨_, rfl⟩
   rw [hys] at LG
   have hlen : ys.length ≤ 1048576 := by
    rw [← hys]
    unfold givesL
    split
    ·simp [vt]
    ·exact HE.out k
   have RS := hid (rows_succ (givesL ss) k)
   by_cases h1 : ys.length = 1
   ·obtain ⟨x, rfl⟩ : ∃ x, ys = [x] := by
     match ys, h1 with
     | [x], _ => exact ⟨x, rfl⟩
    by_cases hx : x = -1 - (k : Int)
    ·have RB := hid (show bare (givesL ss) k = [] by unfold bare; rw [if_pos (by rw [hys, hx]; rfl)])
     have DX : (x == -1 - (k : Int)) = true := by simp [hx]
     clear hx hys
     go_wp2_with (first
      | (go_at_call 73; go_must (refine LG.out.mono ?_; rintro e w1 ⟨D, dn, dc, rfl, od, bb⟩; obtain rfl : dn = 1 := Own.len od; obtain ⟨gD, rfl, cD⟩ := own_one od; have cO1 : w1.cell? ⟨w.heap.size + 2, 0, none⟩ = some (.slice A k cA) := (r2.next bb).cell 0; have e5 : ((w1.alloc (.cells #[] 2)).alloc (.cells #[.slice (some ⟨w1.heap.size, 0, none⟩) 0 0] 22)).cell? ⟨w1.heap.size + 1, 0, none⟩ = some (.slice (some ⟨w1.heap.size, 0, none⟩) 0 0) := (by simp); have c15 : (w1.alloc (.cells #[] 2)).cell? ⟨w.heap.size + 2, 0, none⟩ = some (.slice A k cA) := ((r2.next bb).alloc (.cells #[] 2)).cell 0; have B5 : Below w1.heap.size w1 ((w1.alloc (.cells #[] 2)).alloc (.cells #[.slice (some ⟨w1.heap.size, 0, none⟩) 0 0] 22)) := ((Below.refl _ _).alloc (Nat.le_refl _) _).alloc (by simp) _; have hz5 := B5.size; have hz1 := bb.size; have ho5 := (ho.next bb).next B5; have i5 : Inn ((w1.alloc (.cells #[] 2)).alloc (.cells #[.slice (some ⟨w1.heap.size, 0, none⟩) 0 0] 22)) wr.heap.size ((w1.alloc (.cells #[] 2)).alloc (.cells #[.slice (some ⟨w1.heap.size, 0, none⟩) 0 0] 22)).heap.size (.slice (some ⟨w1.heap.size, 0, none⟩) 0 0) [] := Inn.wider ((inn_own (own_empty w1 wr.heap.size bb.size)).next ((Below.refl _ _).alloc (Nat.le_refl _) _)) (Nat.le_refl _) (by simp); have r25 := (r2.next bb).next B5; have c25 : ((w1.alloc (.cells #[] 2)).alloc (.cells #[.slice (some ⟨w1.heap.size, 0, none⟩) 0 0] 22)).cell? ⟨w.heap.size + 2, 0, none⟩ = some (.slice A k cA) := r25.cell 0))
      | (at_builtin; go_must (refine appS1 rfl _ _ rfl (w.heap.size + 3) wr.heap.size A k cA (rowsL (givesL ss) k) rfl ho5 _ 1 (.slice (some ⟨w1.heap.size, 0, none⟩) 0 0) [] rfl e5 i5 (by omega) (by omega) (by omega) ?_; intro A' c' w6 ho6 hg6 hat6 b6; have q2 := Row.away r25 hg6 (fun e => by have := HA.out _ e; omega); have c26 : w6.cell? ⟨w.heap.size + 2, 0, none⟩ = some (.slice A k cA) := q2.cell 0; have f26 : w6.frozen? ⟨w.heap.size + 2, 0, none⟩ = false := q2.free 0)))
     have S := hid (headL1_step (ss := ss) hlt (by rw [RS.out, RB.out]; exact ho6) r0 r1 r2 hb bb B5 hg6 HA.out)
     clear ho6 hg6 hat6 b6 ho5 i5 r25 c25 c15 q2 od bb B5 r0 r1 r2 hb ho RS RB LG cO1
     go_wp2
     go_roundw
     case rel => exact S.out
     case measure => simp [intOf]; omega
    ·have RB := hid (show bare (givesL ss) k = [x] by unfold bare; rw [if_neg (by rw [hys]; unfold vt; intro e; injection e with e; exact hx e), hys])
     have DX : (x == -1 - (k : Int)) = false := by simp [hx]
     clear hx hys
     go_wp2_with (first
      | (go_at_call 73; refine LG.out.mono ?_; rintro e w1 ⟨D, dn, dc, rfl, od, bb⟩; obtain rfl : dn = 1 := Own.len od; obtain ⟨gD, rfl, cD⟩ := own_one od; have cO1 : w1.cell? ⟨w.heap.size + 2, 0, none⟩ = some (.slice A k cA) := (r2.next bb).cell 0; have B5 : Below w1.heap.size w1 (w1.alloc (.cells #[.slice (some ⟨gD, 0, none⟩) 1 dc] 22)) := (Below.refl _ _).alloc (Nat.le_refl _) _; have hz5 := B5.size; have hz1 := bb.size; have ho5 := (ho.next bb).next B5; have i5 : Inn (w1.alloc (.cells #[.slice (some ⟨gD, 0, none⟩) 1 dc] 22)) wr.heap.size (w1.alloc (.cells #[.slice (some ⟨gD, 0, none⟩) 1 dc] 22)).heap.size (.slice (some ⟨gD, 0, none⟩) 1 dc) [x] := Inn.wider ((inn_own od).next ((Below.refl _ _).alloc (Nat.le_refl _) _)) (Nat.le_refl _) (by simp); have r25 := (r2.next bb).next B5; have c25 : (w1.alloc (.cells #[.slice (some ⟨gD, 0, none⟩) 1 dc] 22)).cell? ⟨w.heap.size + 2, 0, none⟩ = some (.slice A k cA) := r25.cell 0)
      | (at_builtin; refine appS1 rfl _ _ rfl (w.heap.size + 3) wr.heap.size A k cA (rowsL (givesL ss) k) rfl ho5 _ 1 (.slice (some ⟨gD, 0, none⟩) 1 dc) [x] rfl ((Row.new _ _ _).cell 0) i5 (by omega) (by omega) (by omega) ?_; intro A' c' w6 ho6 hg6 hat6 b6; have q2 := Row.away r25 hg6 (fun e => by have := HA.out _ e; omega); have c26 : w6.cell? ⟨w.heap.size + 2, 0, none⟩ = some (.slice A k cA) := q2.cell 0; have f26 : w6.frozen? ⟨w.heap.size + 2, 0, none⟩ = false := q2.free 0))
     have S := hid (headL1_step (ss := ss) hlt (by rw [RS.out, RB.out]; exact ho6) r0 r1 r2 hb bb B5 hg6 HA.out)
     clear ho6 hg6 hat6 b6 ho5 i5 r25 c25 q2 od bb B5 r0 r1 r2 hb ho RS RB LG cO1
     go_wp2
     go_roundw
     case rel => exact S.out
     case measure => simp [intOf]; omega
   ·have RB := hid (show bare (givesL ss) k = ys by unfold bare; rw [if_neg (by rw [hys]; unfold vt; intro e; rw [e] at h1; exact h1 rfl), hys])
    clear hys
    go_wp2_with (first
     | (go_at_call 73; refine LG.out.mono ?_; rintro e w1 ⟨D, dn, dc, rfl, od, bb⟩; have hdn : ¬ dn = 1 := (by rw [Own.len od]; exact h1); have hdz : ¬ (dn : Int) = 1 := (by omega); have hdb : (((dn : Nat) : Int) == 1) = false := (by simp; omega); have cO1 : w1.cell? ⟨w.heap.size + 2, 0, none⟩ = some (.slice A k cA) := (r2.next bb).cell 0; have B5 : Below w1.heap.size w1 (w1.alloc (.cells #[.slice D dn dc] 22)) := (Below.refl _ _).alloc (Nat.le_refl _) _; have hz5 := B5.size; have hz1 := bb.size; have ho5 := (ho.next bb).next B5; have i5 : Inn (w1.alloc (.cells #[.slice D dn dc] 22)) wr.heap.size (w1.alloc (.cells #[.slice D dn dc] 22)).heap.size (.slice D dn dc) ys := Inn.wider ((inn_own od).next ((Below.refl _ _).alloc (Nat.le_refl _) _)) (Nat.le_refl _) (by simp); have r25 := (r2.next bb).next B5; have c25 : (w1.alloc (.cells #[.slice D dn dc] 22)).cell? ⟨w.heap.size + 2, 0, none⟩ = some (.slice A k cA) := r25.cell 0)
     | (at_builtin; refine appS1 rfl _ _ rfl (w.heap.size + 3) wr.heap.size A k cA (rowsL (givesL ss) k) rfl ho5 _ 1 (.slice D dn dc) ys rfl ((Row.new _ _ _).cell 0) i5 (by omega) (by omega) (by omega) ?_; intro A' c' w6 ho6 hg6 hat6 b6; have q2 := Row.away r25 hg6 (fun e => by have := HA.out _ e; omega); have c26 : w6.cell? ⟨w.heap.size + 2, 0, none⟩ = some (.slice A k cA) := q2.cell 0; have f26 : w6.frozen? ⟨w.heap.size + 2, 0, none⟩ = false := q2.free 0))
    have S := hid (headL1_step (ss := ss) hlt (by rw [RS.out, RB.out]; exact ho6) r0 r1 r2 hb bb B5 hg6 HA.out)
    clear ho6 hg6 hat6 b6 ho5 i5 r25 c25 q2 od bb B5 r0 r1 r2 hb ho RS RB LG cO1
    go_wp2
    go_roundw
    case rel => exact S.out
    case measure => simp [intOf]; omega
  ·obtain rfl : k = m := by omega
   have HC := hid ho.cap
   have H2 : HeadL2 w (givesL ss) k A cA (.pointer (some ⟨w.heap.size + 2, 0, none⟩)) wr := ⟨k, Nat.le_refl _, rfl, by rw [List.take_of_length_le (by rw [rows_len]; exact Nat.le_refl _)]; rfl, ho, r1, r2, hb⟩
   have HH2 := hid H2
   have hc1 : cA ≤ 9223372036854775807 := ho.cap.2.1
   have hc0 : k ≤ cA := ho.cap.1
   clear H2 ho r0 r1 r2 hb cO h
   go_wp2_with fail
   go_loopw [] (fun wr => HeadL2 w (givesL ss) k A cA (.pointer (some ⟨w.heap.size + 2, 0, none⟩)) wr) (fun wr => lenAt wr ⟨w.heap.size + 2, 0, none⟩)
   case atStart => exact HH2.out
   case round =>
    obtain ⟨n, hn, -, hs, ho, r1, r2, hb⟩ := hrel
    clear HH2
    have cO : wr.cell? ⟨w.heap.size + 2, 0, none⟩ = some (.slice A n cA) := r2.cell 0
    have fO : wr.frozen? ⟨w.heap.size + 2, 0, none⟩ = false := r2.free 0
    have cR : wr.cell? ⟨w.heap.size + 1, 0, none⟩ = some (.slice none 0 0) := r1.cell 0
    have fR : wr.frozen? ⟨w.heap.size + 1, 0, none⟩ = false := r1.free 0
    by_cases h0 : n = 0
    ·subst h0
     have F := hid (headL2_end hn hs ho r1 hb (.inl rfl))
     clear hs ho r1 r2 hb
     go_wp2
     exact bodyPost_ret (v := .agg #[.slice A 0 cA]) (by simp [results, Try.results56, go_sem, cR]) rfl F.out
    ·obtain ⟨p, rfl⟩ : ∃ p, n = p + 1 := ⟨n - 1, by omega⟩
     obtain ⟨b, off, A', q, cq, rfl, hbb, hx, hseg, hcap⟩ := ho.segs.spot (k := p) (by omega)
     have p0 : (0 : Int) ≤ (p : Int) := by omega
     have p1 : ((p + 1 : Nat) : Int) - 1 = (p : Int) := by omega
     have p2 : (p : Int) ≤ (cA : Int) := by omega
     have p3 : (p : Int) < ((p + 1 : Nat) : Int) := by omega
     have p4 : (0 : Int) < ((p + 1 : Nat) : Int) := by omega
     have hw2 : IntKind.i64.wrap (p : Int) = (p : Int) := by rw [IntKind.wrap_i64]; omega
     by_cases hq : q = 0
     ·subst hq
      have hnil : (rowsL (givesL ss) k).getD p [] = [] := List.eq_nil_of_length_eq_zero hseg.1
      have S1 : HeadL2 w (givesL ss) k (some ⟨b, off, none⟩) cA (.pointer (some ⟨w.heap.size + 2, 0, none⟩)) (wr.setCell ⟨w.heap.size + 2, 0, none⟩ (.slice (some ⟨b, off, none⟩) p cA)) := by
       refine ⟨p, by omega, rfl, by rw [← strip_drop (by rw [rows_len]; omega) hnil]; exact hs, ?_, r1.far (by simp) _, ?_, hb.setCell (by simp) _⟩
       ·have := owns_put ho r2 (by omega) 0 (.slice (some ⟨b, off, none⟩) p cA)
        simpa using this
       ·have := r2.put 0 (.slice (some ⟨b, off, none⟩) p cA)
        simpa using this
      have HS1 := hid S1
      have E1 : (wr.setCell ⟨w.heap.size + 2, 0, none⟩ (.slice (some ⟨b, off, none⟩) p cA)).cell? ⟨w.heap.size + 2, 0, none⟩ = some (.slice (some ⟨b, off, none⟩) p cA) := by have := (r2.put 0 (.slice (some ⟨b, off, none⟩) p cA)).cell 0; simpa using this
      have HLT := hid (show lenAt (wr.setCell ⟨w.heap.size + 2, 0, none⟩ (.slice (some ⟨b, off, none⟩) p cA)) ⟨w.heap.size + 2, 0, none⟩ < lenAt wr ⟨w.heap.size + 2, 0, none⟩ by simp only [lenAt, E1, cO]; omega)
      clear S1 E1 hs ho r1 r2 hb hseg hcap hnil
      go_wp2
      go_roundw
      case rel => exact HS1.out
      case measure => exact HLT.out
     ·have hq1 : (0 : Int) < (q : Int) := by omega
      have F := hid (headL2_end hn hs ho r1 hb (.inr (fun e => by rw [show p + 1 - 1 = p by omega] at e; rw [e] at hseg; exact hq hseg.1.symm)))
      clear hs ho r1 r2 hb hseg hcap
      go_wp2
      exact bodyPost_ret (v := .agg #[.slice (some ⟨b, off, none⟩) (p + 1) cA]) (by simp [results, Try.results56, go_sem, cR]) rfl F.out
theorem tot_le {xss : List (List Int)} {M : Nat} (h : ∀ j, (xss.getD j []).length ≤ M) : tot xss ≤ xss.length + xss.length * M := by
 have : ∀ k, k ≤ xss.length → sumL xss k ≤ k * M := fun k => by
  induction k with
  | zero => intro _; simp [sumL]
  | succ k ih =>
   intro hk
   rw [sumL_succ (by omega)]
   have h1 := ih (by omega)
   have h2 := h k
   rw [Nat.succ_mul]
   omega
 unfold tot
 have := this xss.length (Nat.le_refl _)
 omega
end plainOf
end
section
open Go.Lib (hid)
namespace matchSpec
open Go.RowKit base ints sig same term termOk endAt inside marks app sym sub segs segsHelp termFacts termMath posMath plainMath plain plainOf gives cursor matchMath
set_option maxRecDepth 100000
structure Tab (w : World) (T : Nat) (s : List (List Int)) : Prop where
 len : s.length = 24
 row : ∃ cs, Row w T 22 cs ∧ cs.size = 24 ∧ ∀ j, j < 24 → ∃ A n c, cs[j]? = some (.slice A n c) ∧ Own w (T + 1) (.slice A n c) (s.getD j [])
section
variable {w w' : World} {T : Nat} {s : List (List Int)}
theorem Tab.next (h : Tab w T s) (hb : Below w.heap.size w w') : Tab w' T s := by
 obtain ⟨cs, hr, hs, hc⟩ := h.row
 exact ⟨h.len, cs, hr.next hb, hs, fun j hj => by obtain ⟨A, n, c, e, ho⟩ := hc j hj; exact ⟨A, n, c, e, Own.next ho hb⟩⟩
theorem Tab.at (h : Tab w T s) {j : Nat} (hj : j < 24) : ∃ A n c, w.cell? ⟨T, j, none⟩ = some (.slice A n c) ∧ Own w (T + 1) (.slice A n c) (s.getD j []) := by
 obtain ⟨cs, hr, hs, hc⟩ := h.row
 obtain ⟨A, n, c, e, ho⟩ := hc j hj
 exact ⟨A, n, c, by rw [hr.cell j, e], ho⟩
theorem Tab.free (h : Tab w T s) (j : Nat) : w.frozen? ⟨T, j, none⟩ = false := by obtain ⟨cs, hr, _⟩ := h.row; exact hr.free j
theorem Tab.put (h : Tab w T s) {j : Nat} (hj : j < 24) {A : Option Addr} {n c : Nat} {ys : List Int} (ho : Own w (T + 1) (.slice A n c) ys) : Tab (w.setCell ⟨T, j, none⟩ (.slice A n c)) T (s.set j ys) := by
 obtain ⟨cs, hr, hs, hc⟩ := h.row
 have hg : w.grownBy (w.setCell ⟨T, j, none⟩ (.slice A n c)) (some T) := grown_put (World.grownBy.refl _ _) _ _
 have far : ∀ {A' : Option Addr} {n' c' : Nat} {zs : List Int}, Own w (T + 1) (.slice A' n' c') zs → Own (w.setCell ⟨T, j, none⟩ (.slice A n c)) (T + 1) (.slice A' n' c') zs := fun h => Own.far h hg (fun k hk => by injection hk; omega)
 refine ⟨by rw [List.length_set]; exact h.len, cs.setIfInBounds j (.slice A n c), hr.put j _, by rw [Array.size_setIfInBounds]; exact hs, fun i hi => ?_⟩
 by_cases e : j = i
 ·subst e
  exact ⟨A, n, c, by rw [Array.getElem?_setIfInBounds_self_of_lt (by omega)], by rw [set_get, if_pos ⟨rfl, by rw [h.len]; exact hj⟩]; exact far ho⟩
 ·obtain ⟨A', n', c', e', ho'⟩ := hc i hi
  exact ⟨A', n', c', by rw [Array.getElem?_setIfInBounds_ne e]; exact e', by rw [set_get, if_neg (fun hh => e hh.1)]; exact far ho'⟩
theorem Tab.segs (h : Tab w T s) : Segs w w.heap.size (some ⟨T, 0, none⟩) 24 s := by
 obtain ⟨cs, hr, hs, hc⟩ := h.row
 refine ⟨h.len, fun _ => ⟨T, 0, rfl, hr.lt, fun j hj => ?_⟩⟩
 obtain ⟨A, n, c, e, ho⟩ := hc j hj
 refine ⟨A, n, c, by rw [Nat.zero_add, hr.cell j, e], ?_, ?_⟩
 ·have := Own.len ho; exact Own.seg ho
 ·rcases ho.form with ⟨e1, _⟩ | ⟨g, c', cur, e1, _, _, _, _⟩
  ·injection e1 with e1 e2 e3; subst e1 e2 e3; exact ⟨Nat.le_refl _, by omega, fun _ => rfl⟩
  ·exact look.own_cap ho
end
theorem Tab.new (w : World) : Tab (w.alloc (.cells (madeCells #[.slice none 0 0] 24) 22)) w.heap.size s0 := by
 refine ⟨rfl, _, Row.new _ _ _, size_madeCells _ _, fun j hj => ⟨none, 0, 0, ?_, by rw [s0_get]; exact Own.nil _ _⟩⟩
 simp [madeCells, hj, Nat.mod_one]
def resL (R : Option (List (List Int))) : List (List Int) := match R with
 | some s => plainL (givesL s) 24
 | none => []
def AnsM (w : World) (xss : List (List Int)) (b : Bool) (e : Ending) (w' : World) : Prop := ∃ A n c, e = .returned (.tuple #[.agg #[.slice A n c], .bool b]) ∧ Owns w' w.heap.size w'.heap.size A n c xss ∧ Below w.heap.size w w'
theorem ansM_no {w w' : World} {R : Option (List (List Int))} (h : R = none) (hb : Below w.heap.size w w') : AnsM w (resL R) R.isSome (.returned (.tuple #[.agg #[.slice none 0 0], .bool false])) w' :=
 ⟨none, 0, 0, by rw [h]; rfl, by rw [h]; exact Owns.nil _ _ _, hb⟩
structure Mt (w wr : World) (A : Option Addr) (n c : Nat) (sg : List Int) (P : Option Addr) (pn : Nat) (p : List Int) (Q : Option Addr) (m : Nat) (t : List Int) (s : List (List Int)) : Prop where
 r0 : Row wr w.heap.size 29 #[.slice A n c]
 r1 : Row wr (w.heap.size + 1) 39 #[.slice none 0 0]
 r3 : Row wr (w.heap.size + 1 + 1 + 1) 39 #[.slice (some ⟨w.heap.size + 1 + 1, 0, none⟩) 24 24]
 tb : Tab wr (w.heap.size + 1 + 1) s
 ss : Seg wr w.heap.size A n sg
 sp : Seg wr w.heap.size P pn p
 st : Seg wr w.heap.size Q m t
 b : Below w.heap.size w wr
section
variable {w wr w' : World} {A : Option Addr} {n c : Nat} {sg : List Int} {P : Option Addr} {pn : Nat} {p : List Int} {Q : Option Addr} {m : Nat} {t : List Int} {s : List (List Int)}
theorem Mt.next (h : Mt w wr A n c sg P pn p Q m t s) (hb : Below wr.heap.size wr w') : Mt w w' A n c sg P pn p Q m t s :=
 have b : Below w.heap.size wr w' := hb.mono h.b.size
 ⟨h.r0.next hb, h.r1.next hb, h.r3.next hb, h.tb.next hb, h.ss.below b, h.sp.below b, h.st.below b, h.b.trans b⟩
theorem Mt.put (h : Mt w wr A n c sg P pn p Q m t s) {j : Nat} (hj : j < 24) {D : Option Addr} {dn dc : Nat} {ys : List Int} (ho : Own wr (w.heap.size + 1 + 1 + 1) (.slice D dn dc) ys) : Mt w (wr.setCell ⟨w.heap.size + 1 + 1, j, none⟩ (.slice D dn dc)) A n c sg P pn p Q m t (s.set j ys) :=
 ⟨h.r0.far (show w.heap.size ≠ w.heap.size + 1 + 1 by omega) _, h.r1.far (show w.heap.size + 1 ≠ w.heap.size + 1 + 1 by omega) _, h.r3.far (show w.heap.size + 1 + 1 + 1 ≠ w.heap.size + 1 + 1 by omega) _, h.tb.put hj ho, h.ss.put (show w.heap.size ≤ w.heap.size + 1 + 1 by omega) _, h.sp.put (show w.heap.size ≤ w.heap.size + 1 + 1 by omega) _, h.st.put (show w.heap.size ≤ w.heap.size + 1 + 1 by omega) _, h.b.setCell (show w.heap.size ≤ w.heap.size + 1 + 1 by omega) _⟩
end
set_option maxHeartbeats 1000000 in
theorem l4Match (A P Q : Option Addr) (n c pn pc m mc : Nat) (sg p t : List Int) (w : World) (h : Seg w w.heap.size A n sg) (hp : Seg w w.heap.size P pn p) (ht : Seg w w.heap.size Q m t) (hn : n ≤ 1048576) (hpn : pn ≤ 60) (hm : m ≤ 60) (hmc : m ≤ mc) (hmc2 : mc ≤ 9223372036854775807)
  (hokp : termOkB sg p = true) (hokt : termOkB sg t = true) :
  Calls Try.prog 127 #[.agg #[.slice A n c], .slice P pn pc, .slice Q m mc] w (AnsM w (resL (mst sg t p 0 s0)) (mst sg t p 0 s0).isSome) := by
 obtain ⟨W0, hW0⟩ : ∃ W, W = (w.alloc (.cells #[.slice A n c] 29)).alloc (.cells #[.slice none 0 0] 39) := ⟨_, rfl⟩
 have z0 : W0.heap.size = w.heap.size + 1 + 1 := by rw [hW0]; simp
 obtain ⟨W, hW⟩ : ∃ W, W = (W0.alloc (.cells (madeCells #[.slice none 0 0] 24) 22)).alloc (.cells #[.slice (some ⟨w.heap.size + 1 + 1, 0, none⟩) 24 24] 39) := ⟨_, rfl⟩
 have b0 : Below w.heap.size w W0 := by rw [hW0]; exact ((Below.refl _ _).alloc (Nat.le_refl _) _).alloc (by simp) _
 have b1 : Below w.heap.size w W := by rw [hW]; exact (b0.alloc b0.size _).alloc (by simp; omega) _
 have hmk : ∀ W : World, (Instr.makeSlice 25 (.int .i64 24) (.int .i64 24)).run Try.prog W = .ok (.slice (some ⟨W.heap.size, 0, none⟩) 24 24) (W.alloc (.cells (madeCells #[.slice none 0 0] 24) 22)) := fun W => run_make_lists 24 (by omega) W
 have M0 : Mt w W A n c sg P pn p Q m t s0 := by
  refine ⟨?_, ?_, ?_, ?_, h.below b1, hp.below b1, ht.below b1, b1⟩
  ·rw [hW, hW0]; exact (((Row.new w _ _).alloc _).alloc _).alloc _
  ·rw [hW, hW0]
   have := (((Row.new (w.alloc (.cells #[.slice A n c] 29)) 39 #[.slice none 0 0]).alloc (.cells (madeCells #[.slice none 0 0] 24) 22)).alloc (.cells #[.slice (some ⟨w.heap.size + 1 + 1, 0, none⟩) 24 24] 39))
   simpa using this
  ·rw [hW]
   have := Row.new (W0.alloc (.cells (madeCells #[.slice none 0 0] 24) 22)) 39 #[.slice (some ⟨w.heap.size + 1 + 1, 0, none⟩) 24 24]
   have e : (W0.alloc (.cells (madeCells #[.slice none 0 0] 24) 22)).heap.size = w.heap.size + 1 + 1 + 1 := by simp; omega
   rwa [e] at this
  ·rw [hW]
   have := (Tab.new W0).next ((Below.refl _ _).alloc (Nat.le_refl _) (.cells #[.slice (some ⟨w.heap.size + 1 + 1, 0, none⟩) 24 24] 39))
   rwa [z0] at this
 have HW := hid hW
 have HW0 := hid hW0
 have HLP := hid hp.1
 have HLT := hid ht.1
 have HT := hid hokt
 have HPM : Hid (∀ i, i < pn → -24 ≤ p.getD i 0) := hid (fun i hi => (term_num hokp (by rw [hp.1]; exact hi)).1)
 have hars := (sig_arities (termOk_parts hokt).1).1
 obtain ⟨R, hR⟩ : ∃ R, mst sg t p 0 s0 = R := ⟨_, rfl⟩
 rw [hR]
 have HR := hid hR
 have HM0 := hid M0
 clear hW hW0 h hp ht b0 b1 M0 hokp hokt hR z0
 go_enter Try.func127, Try.ntmps127
 go_wp2_with fail
 clear hmk
 go_loopg [9, 10] pn (fun g k i wr => ∃ (k' i' : Nat) (s : List (List Int)), k = .int .i64 k' ∧ i = .int .i64 i' ∧ i' + g = pn ∧ k' ≤ m ∧ mst sg t (p.drop i') k' s = R ∧ (∀ j, (s.getD j []).length ≤ 60) ∧ Mt w wr A n c sg P pn p Q m t s)
 case atStart =>
  have hM := HM0.out
  rw [HW.out, HW0.out] at hM
  exact ⟨0, 0, s0, rfl, rfl, by omega, Nat.zero_le _, HR.out, fun j => by rw [s0_get]; simp, hM⟩
 case round =>
  obtain ⟨k, i, s, rfl, rfl, hi, hk, hmst, hs60, M⟩ := hrel
  clear HM0 HW HW0
  have HI := hid hi
  have HMS := hid hmst
  have HS60 := hid hs60
  clear hi hmst hs60
  by_cases hip : i < pn
  ·have hgk := hid (show gk - 1 < gk ∧ i + 1 + (gk - 1) = pn by have := HI.out; omega)
   obtain ⟨bp, op, x, rfl, hbp, hx, ex⟩ := M.sp.spot hip
   have hx24 := HPM.out i hip
   rw [ex.out] at hx24
   have HD := hid (show p.drop i = x :: p.drop (i + 1) by rw [drop_cons (by rw [HLP.out]; exact hip), ex.out])
   have cR : wr.cell? ⟨w.heap.size + 1, 0, none⟩ = some (.slice none 0 0) := M.r1.cell 0
   have fR : wr.frozen? ⟨w.heap.size + 1, 0, none⟩ = false := M.r1.free 0
   by_cases hkm : k < m
   ·obtain ⟨bt, ot, y, rfl, hbt, hy, ey⟩ := M.st.spot hkm
    have hkl : ¬ t.length ≤ k := by rw [HLT.out]; omega
    by_cases hx0 : 0 ≤ x
    ·by_cases hxy : x = y
     ·subst hxy
      have S := hid (show mst sg t (p.drop (i + 1)) (k + 1) s = R by rw [← HMS.out, HD.out, mst_sym hkl hx0 ey.out.symm])
      have HM := hid (fun d => M.next (below_drewN (Below.refl _ _) d))
      have hd : (x != x) = false := by simp
      clear M ex ey HD
      go_wp2
      go_quiet (fail)
      go_wp2
      go_roundg (gk - 1)
      case measure => exact hgk.out.1
      case rel => exact ⟨k + 1, i + 1, s, by simp, by simp, hgk.out.2, by omega, S.out, HS60.out, HM.out _⟩
     ·have HN := hid (show R = none by rw [← HMS.out, HD.out, mst_symNo hkl hx0 (by rw [ey.out]; exact hxy)])
      have HM := hid (fun d => M.next (below_drewN (Below.refl _ _) d))
      have hd : (x != y) = true := by simp [hxy]
      have F1 := hid (fun d => ansM_no (w := w) HN.out (below_drewN M.b d))
      have F2 := hid (fun d => ansM_no (w := w) HN.out ((below_drewN M.b d).setCell (p := ⟨w.heap.size + 1, 0, none⟩) (show w.heap.size ≤ w.heap.size + 1 by omega) (.slice none 0 0)))
      clear M ex ey HD HM
      go_wp2
      go_quiet (fail)
      go_wp2
      first
       | exact bodyPost_ret (v := .tuple #[.agg #[.slice none 0 0], .bool false]) (by simp [results, Try.results127, go_sem, cR]) rfl (F1.out _)
       | exact bodyPost_ret (v := .tuple #[.agg #[.slice none 0 0], .bool false]) (by simp [results, Try.results127, go_sem, cR]) rfl (F2.out _)
    ·obtain ⟨v, hv⟩ : ∃ v : Nat, x = -1 - (v : Int) := ⟨(-1 - x).toNat, by omega⟩
     subst hv
     have hv24 : v < 24 := by omega
     have hvr : vr (-1 - (v : Int)) = v := by unfold vr; omega
     obtain ⟨t1, t2, t3⟩ := term_at HT.out (show k < t.length by rw [HLT.out]; exact hkm)
     rw [HLT.out] at t3
     have hsl := (sub_len1 HT.out (show k < t.length by rw [HLT.out]; exact hkm)).1
     have cA : wr.cell? ⟨w.heap.size, 0, none⟩ = some (.slice A n c) := M.r0.cell 0
     have LS := hid (l1Sub A (some ⟨bt, ot, none⟩) n c m mc sg t k (len1 sg t k) wr (M.ss.more M.b.size) (M.st.more M.b.size) hn (by omega) hmc hmc2 hars hkm t1 t2 t3)
     obtain ⟨ys, hys⟩ : ∃ ys, subL sg t k = ys := ⟨_, rfl⟩
     rw [hys] at LS hsl
     have HYS := hid hys
     have hyl : k + ys.length ≤ m := by rw [hsl]; exact t3
     have hyl60 : ys.length ≤ 60 := by omega
     have hwr := M.b.size
     have hw3 := M.r3.lt
     clear hys t1 t2 t3 hsl hy ey cR fR
     go_wp2_with fail
     refine LS.out.mono ?_
     rintro e w1 ⟨D, dn, dc, rfl, od, bb⟩
     replace M := M.next bb
     have hx1 : w1.cell? ⟨bp, op + i, none⟩ = some (.int .i64 (-1 - (v : Int))) := (bb.cell (p := ⟨bp, op + i, none⟩) (show bp < wr.heap.size by omega)).trans hx
     obtain rfl : dn = ys.length := Own.len od
     replace od := Own.lower (base' := w.heap.size + 1 + 1 + 1) od (by omega)
     obtain ⟨Ao, no, co, hc, oo⟩ := M.tb.at hv24
     obtain ⟨os, hos⟩ : ∃ os, s.getD v [] = os := ⟨_, rfl⟩
     rw [hos] at oo
     have HOS := hid hos
     have HNO := hid (Own.len oo)
     have hno60 : no ≤ 60 := by rw [HNO.out, ← hos]; exact HS60.out v
     have c3 : w1.cell? ⟨w.heap.size + 1 + 1 + 1, 0, none⟩ = some (.slice (some ⟨w.heap.size + 1 + 1, 0, none⟩) 24 24) := M.r3.cell 0
     have hw1 : IntKind.i64.wrap (-1 - (-1 - (v : Int))) = (v : Int) := by rw [IntKind.wrap_i64]; omega
     have hw2 : IntKind.i64.wrap (v : Int) = (v : Int) := by rw [IntKind.wrap_i64]; omega
     have j0 : (0 : Int) ≤ (v : Int) := by omega
     have j1 : (v : Int) < 24 := by omega
     have HMD := hid (fun d => M.next (below_drewN (Below.refl _ _) d))
     have HOD := hid (fun d => Own.drewN od d)
     have HOO := hid (fun d => Own.drewN oo d)
     have HC := hid hc
     have HX1 := hid hx1
     have HVR := hid hvr
     clear bb hx LS M od oo hos hvr
     go_wp2
     go_quiet (fail)
     generalize hd1 : w1.drewN _ = w2
     have M : Mt w w2 A n c sg (some ⟨bp, op, none⟩) pn p (some ⟨bt, ot, none⟩) m t s := by rw [← hd1]; exact HMD.out _
     have od : Own w2 (w.heap.size + 1 + 1 + 1) (.slice D ys.length dc) ys := by rw [← hd1]; exact HOD.out _
     have oo : Own w2 (w.heap.size + 1 + 1 + 1) (.slice Ao no co) os := by rw [← hd1]; exact HOO.out _
     clear hd1 HMD HOD HOO hx1 c3 hc
     have cR : w2.cell? ⟨w.heap.size + 1, 0, none⟩ = some (.slice none 0 0) := M.r1.cell 0
     have fR : w2.frozen? ⟨w.heap.size + 1, 0, none⟩ = false := M.r1.free 0
     by_cases hn0 : no = 0
     ·have hno2 : ¬ ((s.getD (vr (-1 - (v : Int))) []).length ≠ 0 ∧ s.getD (vr (-1 - (v : Int))) [] ≠ subL sg t k) := by
       rw [HVR.out, HOS.out]
       intro h
       exact h.1 (by rw [← HNO.out]; exact hn0)
      subst hn0
      have S := hid (show mst sg t (p.drop (i + 1)) (k + ys.length) (s.set v ys) = R by rw [← HMS.out, HD.out, mst_var hkl (show ¬ 0 ≤ -1 - (v : Int) by omega) hno2, HVR.out, HYS.out])
      have hs2 := hid (show ∀ j, ((s.set v ys).getD j []).length ≤ 60 from fun j => by rw [set_get]; split; exact hyl60; exact HS60.out j)
      have hxq : w2.cell? ⟨bp, op + i, none⟩ = some (.int .i64 (-1 - (v : Int))) := by
       obtain ⟨b', o', x', e', -, hq, ex'⟩ := M.sp.spot hip
       injection e' with e'
       injection e' with e1 e2
       subst e1 e2
       rw [hq, ← ex'.out, ex.out]
      have c3q : w2.cell? ⟨w.heap.size + 1 + 1 + 1, 0, none⟩ = some (.slice (some ⟨w.heap.size + 1 + 1, 0, none⟩) 24 24) := M.r3.cell 0
      have fT : w2.frozen? ⟨w.heap.size + 1 + 1, v, none⟩ = false := M.tb.free v
      obtain ⟨A9, n9, c9, hcq, -⟩ := M.tb.at hv24
      have HM2 := hid (fun d => (M.next (below_drewN (Below.refl _ _) d)).put hv24 (Own.drewN od d))
      clear M od
      go_wp2
      go_region
      go_wp2
      go_roundg (gk - 1)
      case measure => exact hgk.out.1
      case rel => exact ⟨k + ys.length, i + 1, s.set v ys, by simp, by simp, hgk.out.2, hyl, S.out, hs2.out, HM2.out _⟩
     ·have hpos : (0 : Int) < (no : Int) := by omega
      go_wp2_with fail
      refine (specSame Ao D no ys.length co dc os ys w2 (Own.seg oo) (Own.seg od) (by omega) (by omega)).mono ?_
      rintro e w3 ⟨he, d3, rfl⟩
      replace M := M.next (below_drewN (Below.refl _ _) d3)
      replace od := Own.drewN od d3
      clear oo cR fR
      generalize w2.drewN d3 = w3 at *
      have cR : w3.cell? ⟨w.heap.size + 1, 0, none⟩ = some (.slice none 0 0) := M.r1.cell 0
      have fR : w3.frozen? ⟨w.heap.size + 1, 0, none⟩ = false := M.r1.free 0
      by_cases hoy : os = ys
      ·rw [decide_eq_true hoy] at he
       subst he
       have hno2 : ¬ ((s.getD (vr (-1 - (v : Int))) []).length ≠ 0 ∧ s.getD (vr (-1 - (v : Int))) [] ≠ subL sg t k) := by
        rw [HVR.out, HOS.out, HYS.out]
        intro h
        exact h.2 hoy
       have S := hid (show mst sg t (p.drop (i + 1)) (k + ys.length) (s.set v ys) = R by rw [← HMS.out, HD.out, mst_var hkl (show ¬ 0 ≤ -1 - (v : Int) by omega) hno2, HVR.out, HYS.out])
       have hs2 := hid (show ∀ j, ((s.set v ys).getD j []).length ≤ 60 from fun j => by rw [set_get]; split; exact hyl60; exact HS60.out j)
       have hxq : w3.cell? ⟨bp, op + i, none⟩ = some (.int .i64 (-1 - (v : Int))) := by
        obtain ⟨b', o', x', e', -, hq, ex'⟩ := M.sp.spot hip
        injection e' with e'
        injection e' with e1 e2
        subst e1 e2
        rw [hq, ← ex'.out, ex.out]
       have c3q : w3.cell? ⟨w.heap.size + 1 + 1 + 1, 0, none⟩ = some (.slice (some ⟨w.heap.size + 1 + 1, 0, none⟩) 24 24) := M.r3.cell 0
       have fT : w3.frozen? ⟨w.heap.size + 1 + 1, v, none⟩ = false := M.tb.free v
       obtain ⟨A9, n9, c9, hcq, -⟩ := M.tb.at hv24
       have HM2 := hid (fun d => (M.next (below_drewN (Below.refl _ _) d)).put hv24 (Own.drewN od d))
       clear M od
       go_wp2
       go_region
       go_wp2
       go_roundg (gk - 1)
       case measure => exact hgk.out.1
       case rel => exact ⟨k + ys.length, i + 1, s.set v ys, by simp, by simp, hgk.out.2, hyl, S.out, hs2.out, HM2.out _⟩
      ·rw [decide_eq_false hoy] at he
       subst he
       have HN := hid (show R = none by
        rw [← HMS.out, HD.out, mst_varNo hkl (show ¬ 0 ≤ -1 - (v : Int) by omega) (by
         rw [HVR.out, HOS.out, HYS.out]
         exact ⟨by rw [← HNO.out]; exact hn0, hoy⟩)])
       have F1 := hid (ansM_no (w := w) HN.out M.b)
       have F2 := hid (ansM_no (w := w) HN.out ((M.b).setCell (p := ⟨w.heap.size + 1, 0, none⟩) (show w.heap.size ≤ w.heap.size + 1 by omega) (.slice none 0 0)))
       clear M od ex HD
       go_wp2
       first
        | exact bodyPost_ret (v := .tuple #[.agg #[.slice none 0 0], .bool false]) (by simp [results, Try.results127, go_sem, cR]) rfl F1.out
        | exact bodyPost_ret (v := .tuple #[.agg #[.slice none 0 0], .bool false]) (by simp [results, Try.results127, go_sem, cR]) rfl F2.out
   ·have HN := hid (show R = none by rw [← HMS.out, HD.out, mst_out (by rw [HLT.out]; omega)])
    have hge : (m : Int) ≤ (k : Int) := by omega
    have F1 := hid (ansM_no (w := w) HN.out M.b)
    have F2 := hid (ansM_no (w := w) HN.out ((M.b).setCell (p := ⟨w.heap.size + 1, 0, none⟩) (show w.heap.size ≤ w.heap.size + 1 by omega) (.slice none 0 0)))
    clear M ex HD
    go_wp2
    first
     | exact bodyPost_ret (v := .tuple #[.agg #[.slice none 0 0], .bool false]) (by simp [results, Try.results127, go_sem, cR]) rfl F1.out
     | exact bodyPost_ret (v := .tuple #[.agg #[.slice none 0 0], .bool false]) (by simp [results, Try.results127, go_sem, cR]) rfl F2.out
  ·have hipn : i = pn := by have := HI.out; omega
   have hRs : R = some s := by rw [← HMS.out, hipn, List.drop_eq_nil_of_le (by rw [HLP.out]; exact Nat.le_refl _)]; rfl
   have HRS := hid hRs
   have hlen := M.tb.len
   have htot : tot s ≤ 1048576 := by have := tot_le (M := 60) HS60.out; rw [hlen] at this; omega
   have LP := hid (l2Plain _ 24 24 s _ M.tb.segs htot)
   have c3 : wr.cell? ⟨w.heap.size + 1 + 1 + 1, 0, none⟩ = some (.slice (some ⟨w.heap.size + 1 + 1, 0, none⟩) 24 24) := M.r3.cell 0
   have z1 := M.b.size
   have r1 := M.r1
   have hb := M.b
   have zr := M.r3.lt
   clear hRs hlen htot M hipn
   go_wp2_with fail
   refine LP.out.mono ?_
   rintro e w2 ⟨D, dn, dc, rfl, od, bb⟩
   replace r1 := r1.next bb
   replace hb := next_trans hb bb
   have cR : w2.cell? ⟨w.heap.size + 1, 0, none⟩ = some (.slice none 0 0) := r1.cell 0
   have fR : w2.frozen? ⟨w.heap.size + 1, 0, none⟩ = false := r1.free 0
   have F : AnsM w (resL R) R.isSome (.returned (.tuple #[.agg #[.slice D dn dc], .bool true])) (w2.setCell ⟨w.heap.size + 1, 0, none⟩ (.slice D dn dc)) := by
    have hbt : Btw (w.heap.size + 1) (w.heap.size + 2) w2 (w2.setCell ⟨w.heap.size + 1, 0, none⟩ (.slice D dn dc)) := Btw.of_grown (grown_put (World.grownBy.refl _ _) _ _) (fun k hk => by injection hk; omega)
    have o2 := od.btw hbt (.inr (by omega))
    refine ⟨D, dn, dc, by rw [HRS.out]; rfl, ?_, hb.setCell (p := ⟨w.heap.size + 1, 0, none⟩) (show w.heap.size ≤ w.heap.size + 1 by omega) _⟩
    rw [HRS.out]
    exact o2.wider z1 (by simp)
   have HF := hid F
   clear F od bb hb r1 LP
   go_wp2
   exact bodyPost_ret (v := .tuple #[.agg #[.slice D dn dc], .bool true]) (by simp [results, Try.results127, go_sem, cR]) rfl HF.out
structure Mr (w wr : World) (A : Option Addr) (n c : Nat) (sg : List Int) (P : Option Addr) (pn : Nat) (p : List Int) (Q : Option Addr) (m : Nat) (t : List Int) : Prop where
 r0 : Row wr w.heap.size 29 #[.slice A n c]
 r1 : Row wr (w.heap.size + 1) 39 #[.slice none 0 0]
 ss : Seg wr wr.heap.size A n sg
 sp : Seg wr wr.heap.size P pn p
 st : Seg wr wr.heap.size Q m t
 b : Below w.heap.size w wr
section
variable {w wr w' : World} {A : Option Addr} {n c : Nat} {sg : List Int} {P : Option Addr} {pn : Nat} {p : List Int} {Q : Option Addr} {m : Nat} {t : List Int}
theorem Mr.start (h : Seg w w.heap.size A n sg) (hp : Seg w w.heap.size P pn p) (ht : Seg w w.heap.size Q m t) : Mr w ((w.alloc (.cells #[.slice A n c] 29)).alloc (.cells #[.slice none 0 0] 39)) A n c sg P pn p Q m t :=
 have b : Below w.heap.size w ((w.alloc (.cells #[.slice A n c] 29)).alloc (.cells #[.slice none 0 0] 39)) := ((Below.refl _ _).alloc (Nat.le_refl _) _).alloc (by simp) _
 ⟨(Row.new w _ _).alloc _, by have := Row.new (w.alloc (.cells #[.slice A n c] 29)) 39 #[.slice none 0 0]; simpa using this, h.next b, hp.next b, ht.next b, b⟩
theorem Mr.next (h : Mr w wr A n c sg P pn p Q m t) (hb : Below wr.heap.size wr w') : Mr w w' A n c sg P pn p Q m t :=
 ⟨h.r0.next hb, h.r1.next hb, h.ss.next hb, h.sp.next hb, h.st.next hb, next_trans h.b hb⟩
end
theorem ansM_off {w w' : World} {sg p t : List Int} (h : termOkB sg p = false ∨ termOkB sg t = false) (hb : Below w.heap.size w w') : AnsM w (resL (matchO sg p t)) (instB sg p t) (.returned (.tuple #[.agg #[.slice none 0 0], .bool false])) w' := by
 have := match_no h
 unfold instB
 exact ansM_no this hb
set_option maxHeartbeats 1000000 in
theorem specMatched (A P Q : Option Addr) (n c pn pc m mc : Nat) (sg p t : List Int) (w : World) (h : Seg w w.heap.size A n sg) (hp : Seg w w.heap.size P pn p) (ht : Seg w w.heap.size Q m t) (hn : n ≤ 1048576) (hpn : pn ≤ 1048576) (hm : m ≤ 1048576) (hmc : m ≤ mc) (hmc2 : mc ≤ 9223372036854775807) :
  Calls Try.prog 113 #[.agg #[.slice A n c], .slice P pn pc, .slice Q m mc] w (AnsM w (resL (matchO sg p t)) (instB sg p t)) := by
 obtain ⟨W, hW⟩ : ∃ W, W = (w.alloc (.cells #[.slice A n c] 29)).alloc (.cells #[.slice none 0 0] 39) := ⟨_, rfl⟩
 have M : Mr w W A n c sg P pn p Q m t := by rw [hW]; exact Mr.start h hp ht
 have HW := hid hW
 have L := hid (specTermOk A P n c pn pc sg p W M.ss M.sp hn hpn)
 have c0 : W.cell? ⟨w.heap.size, 0, none⟩ = some (.slice A n c) := M.r0.cell 0
 have c00 : ((w.alloc (.cells #[.slice A n c] 29)).alloc (.cells #[.slice none 0 0] 39)).cell? ⟨w.heap.size, 0, none⟩ = some (.slice A n c) := by rw [← hW]; exact c0
 clear hW h hp ht
 cases hokp : termOkB sg p with
 | false =>
  have HS := hid hokp
  clear hokp
  go_enter Try.func113, Try.ntmps113
  go_wp2_with fail
  rw [← HW.out]
  refine L.out.mono ?_
  rintro e w1 ⟨he, bb⟩
  rw [HS.out] at he
  subst he
  replace M := M.next bb
  have cR : w1.cell? ⟨w.heap.size + 1, 0, none⟩ = some (.slice none 0 0) := M.r1.cell 0
  have fR : w1.frozen? ⟨w.heap.size + 1, 0, none⟩ = false := M.r1.free 0
  have F1 := hid (ansM_off (w := w) (t := t) (.inl HS.out) M.b)
  have F2 := hid (ansM_off (w := w) (t := t) (.inl HS.out) ((M.b).setCell (p := ⟨w.heap.size + 1, 0, none⟩) (show w.heap.size ≤ w.heap.size + 1 by omega) (.slice none 0 0)))
  clear M L bb c0 c00
  go_wp2
  first
   | exact bodyPost_ret (v := .tuple #[.agg #[.slice none 0 0], .bool false]) (by simp [results, Try.results113, go_sem, cR]) rfl F1.out
   | exact bodyPost_ret (v := .tuple #[.agg #[.slice none 0 0], .bool false]) (by simp [results, Try.results113, go_sem, cR]) rfl F2.out
 | true =>
  have HSP := hid hokp
  have hp60 : pn ≤ 60 := by have h1 := (termOk_parts hokp).2.1; rw [M.sp.1] at h1; exact h1
  clear hokp
  cases hokt : termOkB sg t with
  | false =>
   have HS := hid hokt
   clear hokt
   go_enter Try.func113, Try.ntmps113
   go_wp2_with fail
   rw [← HW.out]
   refine L.out.mono ?_
   rintro e w1 ⟨he, bb⟩
   rw [HSP.out] at he
   subst he
   replace M := M.next bb
   clear bb L c0 c00
   have c0 : w1.cell? ⟨w.heap.size, 0, none⟩ = some (.slice A n c) := M.r0.cell 0
   go_wp2_with fail
   refine (specTermOk A Q n c m mc sg t _ M.ss M.st hn hm).mono ?_
   rintro e w2 ⟨he, bb⟩
   rw [HS.out] at he
   subst he
   replace M := M.next bb
   have cR : w2.cell? ⟨w.heap.size + 1, 0, none⟩ = some (.slice none 0 0) := M.r1.cell 0
   have fR : w2.frozen? ⟨w.heap.size + 1, 0, none⟩ = false := M.r1.free 0
   have F1 := hid (ansM_off (w := w) (p := p) (.inr HS.out) M.b)
   have F2 := hid (ansM_off (w := w) (p := p) (.inr HS.out) ((M.b).setCell (p := ⟨w.heap.size + 1, 0, none⟩) (show w.heap.size ≤ w.heap.size + 1 by omega) (.slice none 0 0)))
   clear M bb c0
   go_wp2
   first
    | exact bodyPost_ret (v := .tuple #[.agg #[.slice none 0 0], .bool false]) (by simp [results, Try.results113, go_sem, cR]) rfl F1.out
    | exact bodyPost_ret (v := .tuple #[.agg #[.slice none 0 0], .bool false]) (by simp [results, Try.results113, go_sem, cR]) rfl F2.out
  | true =>
   have HST := hid hokt
   have hm60 : m ≤ 60 := by have h1 := (termOk_parts hokt).2.1; rw [M.st.1] at h1; exact h1
   have HMO := hid (match_yes HSP.out hokt)
   have HIO := hid (show instB sg p t = (mst sg t p 0 s0).isSome by unfold instB; rw [HMO.out])
   clear hokt
   go_enter Try.func113, Try.ntmps113
   go_wp2_with fail
   rw [← HW.out]
   refine L.out.mono ?_
   rintro e w1 ⟨he, bb⟩
   rw [HSP.out] at he
   subst he
   replace M := M.next bb
   clear bb L c0 c00
   have c0 : w1.cell? ⟨w.heap.size, 0, none⟩ = some (.slice A n c) := M.r0.cell 0
   go_wp2_with fail
   refine (specTermOk A Q n c m mc sg t _ M.ss M.st hn hm).mono ?_
   rintro e w2 ⟨he, bb⟩
   rw [HST.out] at he
   subst he
   replace M := M.next bb
   clear bb c0
   have c0 : w2.cell? ⟨w.heap.size, 0, none⟩ = some (.slice A n c) := M.r0.cell 0
   go_wp2_with fail
   refine (l4Match A P Q n c pn pc m mc sg p t _ M.ss M.sp M.st hn hp60 hm60 hmc hmc2 HSP.out HST.out).mono ?_
   rintro e w3 ⟨D, dn, dc, rfl, od, bb⟩
   have zw := M.r1.lt
   replace M := M.next bb
   rw [← HIO.out]
   have cR : w3.cell? ⟨w.heap.size + 1, 0, none⟩ = some (.slice none 0 0) := M.r1.cell 0
   have fR : w3.frozen? ⟨w.heap.size + 1, 0, none⟩ = false := M.r1.free 0
   obtain ⟨b, hb⟩ : ∃ b, instB sg p t = b := ⟨_, rfl⟩
   rw [hb]
   have F : AnsM w (resL (matchO sg p t)) (instB sg p t) (.returned (.tuple #[.agg #[.slice D dn dc], .bool b])) (w3.setCell ⟨w.heap.size + 1, 0, none⟩ (.slice D dn dc)) := by
    have hbt : Btw (w.heap.size + 1) (w.heap.size + 2) w3 (w3.setCell ⟨w.heap.size + 1, 0, none⟩ (.slice D dn dc)) := Btw.of_grown (grown_put (World.grownBy.refl _ _) _ _) (fun k hk => by injection hk; omega)
    have o2 := od.btw hbt (.inr (by omega))
    refine ⟨D, dn, dc, by rw [hb], ?_, (M.b).setCell (p := ⟨w.heap.size + 1, 0, none⟩) (show w.heap.size ≤ w.heap.size + 1 by omega) _⟩
    rw [HMO.out]
    exact o2.wider (by omega) (by simp)
   have F1 := hid F
   clear F od bb M c0 HIO hb
   go_wp2
   exact bodyPost_ret (v := .tuple #[.agg #[.slice D dn dc], .bool b]) (by simp [results, Try.results113, go_sem, cR]) rfl F1.out
set_option maxHeartbeats 1000000 in
theorem specInstanceIn (A P Q : Option Addr) (n c pn pc m mc : Nat) (sg p t : List Int) (w : World) (h : Seg w w.heap.size A n sg) (hp : Seg w w.heap.size P pn p) (ht : Seg w w.heap.size Q m t) (hn : n ≤ 1048576) (hpn : pn ≤ 1048576) (hm : m ≤ 1048576) (hmc : m ≤ mc) (hmc2 : mc ≤ 9223372036854775807) :
  Calls Try.prog 84 #[.agg #[.slice A n c], .slice P pn pc, .slice Q m mc] w (Tells w (instB sg p t)) := by
 obtain ⟨W, hW⟩ : ∃ W, W = w.alloc (.cells #[.slice A n c] 29) := ⟨_, rfl⟩
 have bW : Below w.heap.size w W := by rw [hW]; exact (Below.refl _ _).alloc (Nat.le_refl _) _
 have HW := hid hW
 have L := hid (specMatched A P Q n c pn pc m mc sg p t W (h.next bW) (hp.next bW) (ht.next bW) hn hpn hm hmc hmc2)
 clear hW h hp ht
 generalize instB sg p t = b at *
 go_enter Try.func84, Try.ntmps84
 go_wp2_with fail
 rw [← HW.out]
 refine L.out.mono ?_
 rintro e w1 ⟨D, dn, dc, rfl, od, bb⟩
 have F := hid (fun o => (show Tells w b (.returned (.bool b)) (w1.alloc o) from ⟨rfl, (next_trans bW bb).alloc (next_trans bW bb).size _⟩))
 clear od bb L bW
 go_wp2
 go_ret
 exact F.out _
end matchSpec
end
section
namespace whole
open Go.RowKit base cursor marks app sym segs matchMath matchSpec
set_option maxRecDepth 100000
section
variable {P : Program} {ops : Array Oper} {rest : List Oper} {o : Oper} {a : Act} {w : World} {Q : Exit → Act → World → Prop}
theorem rowAlloc (hgd : o.guard = none) (t : TypeId) (ho : o.op = .alloc t) (z : Array Value) (hz : ∀ w, (zeroValue t).run P w = .ok (.agg z) w)
  (h : wpList P ops Q rest (a.put o.dst (.pointer (some ⟨w.heap.size, 0, none⟩))) (w.alloc (.cells z t))) : wpList P ops Q (o :: rest) a w :=
 wpList_plain hgd fun _ hK => by
  unfold Oper.wp execOp
  simp only [ho, Instr.alloc, Sem.run_bind, hz, Result.andThen_ok, newVar, Value.cells]
  exact hK _ _ h
theorem rowBox (hgd : o.guard = none) (t : TypeId) (x : Operand) (ho : o.op = .box t x) (z : Array Value) (hx : a.eval x = .agg z)
  (h : wpList P ops Q rest (a.put o.dst (.pointer (some ⟨w.heap.size, 0, none⟩))) (w.alloc (.cells z t))) : wpList P ops Q (o :: rest) a w :=
 wpList_plain hgd fun _ hK => by
  unfold Oper.wp execOp
  simp only [ho, hx, Instr.box, Sem.run_bind, Result.andThen_ok, newVar, Value.cells]
  exact hK _ _ h
theorem rowBuild (hgd : o.guard = none) (t : TypeId) (ho : o.op = .build t #[]) (z : Array Value) (hz : P.built t [] = some z)
  (h : wpList P ops Q rest (a.put o.dst (.agg z)) w) : wpList P ops Q (o :: rest) a w :=
 wpList_plain hgd fun _ hK => by
  refine wp_build t #[] ho (by simp [hz]) ?_
  simp only [List.map_toArray, List.map_nil, hz, Option.getD_some]
  exact hK _ _ h
theorem rowStore (hgd : o.guard = none) (ty : TypeId) (x y : Operand) (ho : o.op = .store ty x y) (g : Nat) (cells old : Array Value) (t : TypeId) (hx : a.eval x = .pointer (some ⟨g, 0, none⟩)) (hy : a.eval y = .agg cells)
  (hg : w.heap[g]? = some (.cells old t (0, 0))) (hi : (P.info? ty).map (·.size) = some cells.size) (hs : old.size = cells.size) (h1 : cells.all (·.oneCell') = true)
  (h : wpList P ops Q rest (a.put o.dst undef) (w.setRow g cells)) : wpList P ops Q (o :: rest) a w :=
 wpList_plain hgd fun _ hK => by
  unfold Oper.wp execOp
  simp only [ho, hx, hy, Instr.storeAt, Instr.sureAddr, Sem.run_bind, Sem.run_pure, Result.andThen_ok, run_storeVar_row w g t ty old cells hg hi hs h1]
  exact hK _ _ h
theorem results_row_tmp {fn : Func} {p u : Tmp} {ty : TypeId} (h : fn.results = #[.cell p ty, .tmp u]) (tmps : Array Value) (g : Nat) (t : TypeId) (cs : Array Value) (d : TypeDesc)
  (hp : tmps.getD p undef = .pointer (some ⟨g, 0, none⟩)) (hg : w.heap[g]? = some (.cells cs t (0, 0)))
  (hu : P.underlying ty = some d) (hd : (match d with | .struct _ | .array _ _ => true | _ => false) = true) (hi : (P.info? ty).map (·.size) = some cs.size) :
  (results fn tmps).run P w = .ok (.tuple #[.agg cs, tmps.getD u undef]) w := by
 rw [results_cell_tmp h, hp]
 simp [asAddr, Result.andThen, run_loadVar_row w g t ty cs (0, 0) d hg hu hd hi]
end
theorem z24_one : z24.all (·.oneCell') = true := by kernel_rfl
theorem info_b : (Try.prog.info? 114).map (fun i => (i.zero, i.size)) = some (some (.agg z24), 24) := by kernel_rfl
theorem zero_b : ∀ w, (zeroValue 114).run Try.prog w = .ok (.agg z24) w := by
 intro w
 cases hq : Try.prog.info? 114 with
 | none => have h := info_b; simp [hq] at h
 | some i => have h := info_b; simp [hq] at h; simp [zeroValue, typeInfo, hq, h.1]
theorem size_b : (Try.prog.info? 114).map (·.size) = some 24 := by kernel_rfl
theorem built_b : Try.prog.built 114 [] = some z24 := by kernel_rfl
section
variable {w w' : World} {B B' g : Nat} {cs : Array Value} {s : List (List Int)} {t : TypeId}
theorem Row.setRow (h : Row w g t cs) (c' : Array Value) : Row (w.setRow g c') g t c' := setRow_heap w g cs c' t (0, 0) h
theorem grown_setRow (w : World) (g : Nat) (c' : Array Value) : w.grownBy (w.setRow g c') (some g) :=
 ⟨rfl, rfl, rfl, by simp, fun k _ hk => setRow_other w g k c' (fun e => hk (by rw [e]))⟩
end
end whole
end
end Go.Proofs.Ytobedfmagjgdcaa
