/-
  MERGED: my texts Term2, EndOf, Sym, Args, Depth, TermFacts, TermText, TermTextB, TermTextC, VarsMath, Copy, Vars, VarsOf, CountL, Linear, FillMath, RenMath, RuleMath, Rename, Same, RuleSpec, AnyR, RuleImpl, RuleText, WRuleText, OpenX, one behind the other, as they are. By an AI agent.
-/
import Derived.Test.YtlaloakegajheabDoorMFnExactRuleText1
import Derived.Deep.RegionHeld3
import Derived.WalkSpells
import Derived.Deep.QuietTactic
import Derived.BigQuiet
import Derived.Shelf.Abstract
import Derived.ProofKit
import Derived.OpenShut
import Derived.Lib.SmallJoins
import Derived.Deep.Slices
import Derived.Deep.Fields
namespace Go.Proofs.YtlaloakegajheabDoor
section
namespace term
theorem scan_split {sg : List Int} : ∀ {l : List Int} {p q j : Nat}, scan sg (p + q) l = some j → ∃ i, i ≤ j ∧ scan sg p l = some i ∧ scan sg q (l.drop i) = some (j - i) := by
 intro l
 induction l with
 | nil =>
  intro p q j h
  cases p with
  | zero => exact ⟨0, Nat.zero_le _, rfl, by simpa using h⟩
  | succ p => rw [show p + 1 + q = (p + q) + 1 by omega, scan_nil] at h; cases h
 | cons x r ih =>
  intro p q j h
  cases p with
  | zero => exact ⟨0, Nat.zero_le _, rfl, by simpa using h⟩
  | succ p =>
   rw [show p + 1 + q = (p + q) + 1 by omega] at h
   by_cases ha : ar sg x < 0
   ·rw [scan_bad ha] at h; cases h
   ·rw [scan_step ha] at h
    obtain ⟨j', hj', rfl⟩ := Option.map_eq_some_iff.1 h
    rw [show p + q + (ar sg x).toNat = (p + (ar sg x).toNat) + q by omega] at hj'
    obtain ⟨i, h1, h2, h3⟩ := ih hj'
    refine ⟨i + 1, by omega, by rw [scan_step ha, h2]; rfl, ?_⟩
    rw [List.drop_succ_cons, h3]
    congr 1
    omega
theorem scan_tail {sg : List Int} : ∀ {l : List Int} {q j a : Nat}, scan sg q l = some j → a < j → ∃ q', scan sg (q' + 1) (l.drop a) = some (j - a) := by
 intro l
 induction l with
 | nil =>
  intro q j a h ha
  cases q with
  | zero => rw [scan_zero] at h; injection h; omega
  | succ q => rw [scan_nil] at h; cases h
 | cons x r ih =>
  intro q j a h ha
  cases q with
  | zero => rw [scan_zero] at h; injection h; omega
  | succ q =>
   cases a with
   | zero => exact ⟨q, h⟩
   | succ a =>
    by_cases hx : ar sg x < 0
    ·rw [scan_bad hx] at h; cases h
    ·rw [scan_step hx] at h
     obtain ⟨j', hj', rfl⟩ := Option.map_eq_some_iff.1 h
     obtain ⟨q', h'⟩ := ih (a := a) hj' (by omega)
     exact ⟨q', by rw [List.drop_succ_cons, h']; congr 1; omega⟩
theorem scan_pos {sg : List Int} {l : List Int} {q j : Nat} (h : scan sg (q + 1) l = some j) : 1 ≤ j := by
 cases l with
 | nil => rw [scan_nil] at h; cases h
 | cons x r =>
  by_cases hx : ar sg x < 0
  ·rw [scan_bad hx] at h; cases h
  ·rw [scan_step hx] at h
   obtain ⟨j', _, rfl⟩ := Option.map_eq_some_iff.1 h
   omega
theorem scan_le {sg : List Int} : ∀ {l : List Int} {q j : Nat}, scan sg q l = some j → j ≤ l.length := by
 intro l
 induction l with
 | nil =>
  intro q j h
  cases q with
  | zero => rw [scan_zero] at h; injection h; omega
  | succ q => rw [scan_nil] at h; cases h
 | cons x r ih =>
  intro q j h
  cases q with
  | zero => rw [scan_zero] at h; injection h; omega
  | succ q =>
   by_cases hx : ar sg x < 0
   ·rw [scan_bad hx] at h; cases h
   ·rw [scan_step hx] at h
    obtain ⟨j', hj', rfl⟩ := Option.map_eq_some_iff.1 h
    have := ih hj'
    simp
    omega
theorem scan_at {sg t : List Int} (h : scan sg 1 t = some t.length) {a : Nat} (ha : a < t.length) : ∃ j, scan sg 1 (t.drop a) = some j ∧ 1 ≤ j ∧ a + j ≤ t.length := by
 obtain ⟨q', h'⟩ := scan_tail h ha
 rw [Nat.add_comm] at h'
 obtain ⟨i, h1, h2, _⟩ := scan_split h'
 have h3 := scan_pos (q := 0) h2
 exact ⟨i, h2, h3, by omega⟩
theorem scan_args {sg t : List Int} {a j : Nat} (h : scan sg 1 (t.drop a) = some j) : ∃ i, j = i + 1 ∧ a < t.length ∧ ¬ ar sg (t.getD a 0) < 0 ∧ scan sg (ar sg (t.getD a 0)).toNat (t.drop (a + 1)) = some i := by
 by_cases ha : a < t.length
 ·rw [drop_cons ha] at h
  by_cases hx : ar sg (t.getD a 0) < 0
  ·rw [scan_bad hx] at h; cases h
  ·rw [scan_step hx, Nat.zero_add] at h
   obtain ⟨i, hi, rfl⟩ := Option.map_eq_some_iff.1 h
   exact ⟨i, rfl, ha, hx, hi⟩
 ·rw [List.drop_eq_nil_of_le (by omega), scan_nil] at h; cases h
theorem scan_first {sg t : List Int} {q a i : Nat} (h : scan sg (q + 1) (t.drop a) = some i) : ∃ j, scan sg 1 (t.drop a) = some j ∧ 1 ≤ j ∧ j ≤ i ∧ scan sg q (t.drop (a + j)) = some (i - j) := by
 rw [Nat.add_comm] at h
 obtain ⟨j, h1, h2, h3⟩ := scan_split h
 rw [List.drop_drop] at h3
 exact ⟨j, h2, scan_pos (q := 0) h2, h1, h3⟩
def len1 (sg t : List Int) (a : Nat) : Nat := (scan sg 1 (t.drop a)).getD 0
theorem len1_eq {sg t : List Int} {a j : Nat} (h : scan sg 1 (t.drop a) = some j) : len1 sg t a = j := by unfold len1; rw [h]; rfl
def places (sg t : List Int) : Nat → Nat → List Int
 | 0, _ => []
 | k + 1, p => (p : Int) :: places sg t k (p + len1 sg t p)
def maxOver (sg t : List Int) (g : Nat → Int) : Nat → Nat → Int
 | 0, _ => 0
 | k + 1, p => max (g p) (maxOver sg t g k (p + len1 sg t p))
def dep (sg t : List Int) : Nat → Nat → Int
 | 0, _ => 0
 | f + 1, a => maxOver sg t (dep sg t f) (ar sg (t.getD a 0)).toNat (a + 1) + 1
theorem maxOver_bd {sg t : List Int} {g : Nat → Int} {B : Int} (hB : 0 ≤ B) (hg : ∀ p, 0 ≤ g p ∧ g p ≤ B) : ∀ k p, 0 ≤ maxOver sg t g k p ∧ maxOver sg t g k p ≤ B
 | 0, _ => by simp [maxOver, hB]
 | k + 1, p => by
  have h1 := hg p
  have h2 := maxOver_bd (sg := sg) (t := t) hB hg k (p + len1 sg t p)
  simp only [maxOver]
  omega
theorem dep_bd {sg t : List Int} : ∀ f a, 0 ≤ dep sg t f a ∧ dep sg t f a ≤ f
 | 0, _ => by simp [dep]
 | f + 1, a => by
  have := maxOver_bd (sg := sg) (t := t) (g := dep sg t f) (B := f) (by omega) (fun p => dep_bd (sg := sg) (t := t) f p) (ar sg (t.getD a 0)).toNat (a + 1)
  simp only [dep]
  omega
theorem places_len {sg t : List Int} : ∀ k p, (places sg t k p).length = k
 | 0, _ => rfl
 | k + 1, p => by simp [places, places_len]
end term
end
section
open Go.Lib (hid)
namespace endAt
open Go.RowKit base ints sig term arity endOf cursor termOk
def inB (t : List Int) (x : Int) : Bool := decide (0 ≤ x ∧ x < t.length)
def thereB (sg t : List Int) (x : Int) : Bool := termOkB sg t && inB t x
theorem termOk_parts {sg t : List Int} (h : termOkB sg t = true) : sigOkB sg = true ∧ t.length ≤ 60 ∧ scan sg 1 t = some t.length := by
 unfold termOkB termB at h
 simp only [Bool.and_eq_true, decide_eq_true_eq] at h
 exact h
theorem there_parts {sg t : List Int} {x : Int} (h : thereB sg t x = true) : termOkB sg t = true ∧ 0 ≤ x ∧ x < t.length := by
 unfold thereB inB at h
 simp only [Bool.and_eq_true, decide_eq_true_eq] at h
 exact h
theorem there_no {sg t : List Int} {x : Int} (h : termOkB sg t = false ∨ x < 0 ∨ (t.length : Int) ≤ x) : thereB sg t x = false := by
 unfold thereB inB
 rcases h with h | h | h
 ·rw [h, Bool.false_and]
 ·rw [decide_eq_false (by omega), Bool.and_false]
 ·rw [decide_eq_false (by omega), Bool.and_false]
theorem there_yes {sg t : List Int} {x : Int} (h : termOkB sg t = true) (h0 : 0 ≤ x) (h1 : x < t.length) : thereB sg t x = true := by
 unfold thereB inB
 rw [h, decide_eq_true ⟨h0, h1⟩]
 rfl
def AnsAt (w : World) (A : Option Addr) (n c : Nat) (A' : Option Addr) (m c' : Nat) (sg t : List Int) (x : Int) (e : Ending) (w' : World) : Prop :=
 Below w.heap.size w w' ∧ ((thereB sg t x = true ∧ ∃ p, e = .returned (.pointer (some ⟨p, 0, none⟩)) ∧ w.heap.size ≤ p ∧ Cur w' p A n c A' m c' sg t x.toNat) ∨ (thereB sg t x = false ∧ e = .returned (.pointer none)))
theorem at_no {w w' : World} {A A' : Option Addr} {n c m c' : Nat} {sg t : List Int} {x : Int} (h : thereB sg t x = false) (hb : Below w.heap.size w w') : AnsAt w A n c A' m c' sg t x (.returned (.pointer none)) w' := ⟨hb, .inr ⟨h, rfl⟩⟩
set_option maxHeartbeats 1000000 in
theorem cursorAt (A A' : Option Addr) (n c m c' : Nat) (sg t : List Int) (x : Int) (w : World) (h : Seg w w.heap.size A n sg) (h' : Seg w w.heap.size A' m t) (hn : n ≤ 1048576) (hm : m ≤ 1048576) :
  Calls Tryd.prog 70 #[.agg #[.slice A n c], .slice A' m c', .int .i64 x] w (AnsAt w A n c A' m c' sg t x) := by
 obtain ⟨W, hW⟩ : ∃ W, W = w.alloc (.cells #[.slice A n c] 28) := ⟨_, rfl⟩
 have rA : Row W w.heap.size 28 #[.slice A n c] := by rw [hW]; exact Row.new _ _ _
 have bel : Below w.heap.size w W := by rw [hW]; exact (Below.refl _ _).alloc (Nat.le_refl _) _
 replace h := (h.below bel).more bel.size
 replace h' := (h'.below bel).more bel.size
 have HW := hid hW
 have HL := hid h'.1
 clear hW
 have L := hid (implTermOk A A' n c m c' sg t W h h' hn hm)
 cases hok : termOkB sg t with
 | false =>
  have HS := hid hok
  clear hok h h'
  go_enter Tryd.func70, Tryd.ntmps70
  go_wp2_with fail
  rw [← HW.out]
  refine L.out.mono ?_
  rintro e w1 ⟨he, bb⟩
  rw [HS.out] at he
  subst he
  have F := hid (fun A n c A' m c' => at_no (A := A) (n := n) (c := c) (A' := A') (m := m) (c' := c') (x := x) (there_no (.inl HS.out)) (next_trans bel bb))
  clear bb bel rA
  go_wp2
  go_ret
  exact F.out _ _ _ _ _ _
 | true =>
  have HS := hid hok
  clear hok
  by_cases hin : 0 ≤ x ∧ x < (m : Int)
  ·have hars := (sig_arities (termOk_parts HS.out).1).1
   have HT := hid (there_yes HS.out hin.1 (by rw [HL.out]; exact hin.2))
   obtain ⟨k, rfl⟩ := Int.eq_ofNat_of_zero_le hin.1
   obtain ⟨i0, i1⟩ := hin
   go_enter Tryd.func70, Tryd.ntmps70
   go_wp2_with fail
   rw [← HW.out]
   refine L.out.mono ?_
   rintro e w1 ⟨he, bb⟩
   rw [HS.out] at he
   subst he
   replace h := h.next bb
   replace h' := h'.next bb
   replace rA := rA.next bb
   replace bel := next_trans bel bb
   have cA : w1.cell? ⟨w.heap.size, 0, none⟩ = some (.slice A n c) := rA.cell 0
   have CN := cur_new (c := c) (c' := c') h h' hn hm hars k (by omega)
   have F : AnsAt w A n c A' m c' sg t (k : Int) (.returned (.pointer (some ⟨w1.heap.size, 0, none⟩))) (w1.alloc (.cells #[.slice A n c, .slice A' m c', .int .i64 k] 90)) :=
    ⟨bel.alloc (Nat.le_of_lt rA.lt) _, .inl ⟨HT.out, _, rfl, Nat.le_of_lt rA.lt, by rw [Int.toNat_natCast]; exact CN⟩⟩
   have HF := hid F
   clear F CN bb bel rA h h' hars HT
   go_wp2
   go_ret
   exact HF.out
  ·have HT := hid (there_no (sg := sg) (t := t) (x := x) (by rw [HL.out]; omega))
   by_cases hx0 : x < 0
   ·clear hin
    go_enter Tryd.func70, Tryd.ntmps70
    go_wp2_with fail
    rw [← HW.out]
    refine L.out.mono ?_
    rintro e w1 ⟨he, bb⟩
    rw [HS.out] at he
    subst he
    have F := hid (fun A n c A' m c' => at_no (A := A) (n := n) (c := c) (A' := A') (m := m) (c' := c') HT.out (next_trans bel bb))
    clear bb bel rA h h'
    go_wp2
    go_ret
    exact F.out _ _ _ _ _ _
   ·have hx1 : (m : Int) ≤ x := by omega
    clear hin
    go_enter Tryd.func70, Tryd.ntmps70
    go_wp2_with fail
    rw [← HW.out]
    refine L.out.mono ?_
    rintro e w1 ⟨he, bb⟩
    rw [HS.out] at he
    subst he
    have F := hid (fun A n c A' m c' => at_no (A := A) (n := n) (c := c) (A' := A') (m := m) (c' := c') HT.out (next_trans bel bb))
    clear bb bel rA h h'
    go_wp2
    go_ret
    exact F.out _ _ _ _ _ _
end endAt
end
section
namespace sym
open Go.RowKit base ints sig term termOk marks app
end sym
end
section
open Go.Lib (hid)
namespace args
open Go.RowKit base ints sig term arity endOf cursor termOk endAt marks app sym
def argsL (sg t : List Int) (a : Nat) : List Int := places sg t (ar sg (t.getD a 0)).toNat (a + 1)
def Coll (sg t : List Int) (m : Nat) (L ys : List Int) (q p : Nat) : Prop := ys ++ places sg t q p = L ∧ ∃ i, scan sg q (t.drop p) = some i ∧ p + i ≤ m
theorem Coll.first {sg t : List Int} {m : Nat} {L ys : List Int} {q p : Nat} (h : Coll sg t m L ys (q + 1) p) : ∃ j, scan sg 1 (t.drop p) = some j ∧ p + j ≤ m ∧ p < t.length ∧ Coll sg t m L (ys ++ [(p : Int)]) q (p + j) := by
 obtain ⟨h1, i, h2, h3⟩ := h
 obtain ⟨j, e1, e2, e3, e4⟩ := scan_first h2
 have e5 := scan_le h2
 refine ⟨j, e1, by omega, ?_, ?_, i - j, e4, by omega⟩
 ·simp only [List.length_drop] at e5; omega
 ·rw [← h1, List.append_assoc]
  congr 1
  simp only [places, len1_eq e1, List.singleton_append]
theorem Coll.done {sg t : List Int} {m : Nat} {L ys : List Int} {p : Nat} (h : Coll sg t m L ys 0 p) : ys = L := by
 have := h.1
 simpa [places] using this
theorem Coll.len {sg t : List Int} {m : Nat} {L ys : List Int} {q p : Nat} (h : Coll sg t m L ys q p) : ys.length ≤ L.length := by
 rw [← h.1]; simp
theorem Coll.start {sg t : List Int} {m a j : Nat} (hm : t.length = m) (h : scan sg 1 (t.drop a) = some j) (hj : a + j ≤ m) : ¬ ar sg (t.getD a 0) < 0 ∧ Coll sg t m (argsL sg t a) [] (ar sg (t.getD a 0)).toNat (a + 1) := by
 obtain ⟨i, rfl, _, h2, h3⟩ := scan_args h
 exact ⟨h2, rfl, i, h3, by omega⟩
theorem argsL_len {sg t : List Int} (hs : Arities sg) (a : Nat) : (argsL sg t a).length ≤ 3 := by
 unfold argsL
 rw [places_len]
 have := ar_bd hs (t.getD a 0)
 omega
def HeadArgs (w : World) (A : Option Addr) (n c m : Nat) (sg t : List Int) (L : List Int) (out p k : Value) (wr : World) : Prop :=
 ∃ (q pp : Nat) (O : Option Addr) (on oc : Nat) (ys : List Int), k = .int .i64 q ∧ p = .int .i64 pp ∧ out = .slice O on oc ∧ Own wr (w.heap.size + 1) (.slice O on oc) ys ∧ Coll sg t m L ys q pp ∧ q ≤ 3 ∧ Row wr w.heap.size 28 #[.slice A n c] ∧ Below w.heap.size w wr
set_option maxHeartbeats 1000000 in
theorem l1Args (A A' : Option Addr) (n c m c' : Nat) (sg t : List Int) (a j : Nat) (w : World) (h : Seg w w.heap.size A n sg) (h' : Seg w w.heap.size A' m t) (hn : n ≤ 1048576) (hm : m ≤ 1048576)
  (hs : Arities sg) (ha : a < m) (hj : scan sg 1 (t.drop a) = some j) (hj2 : a + j ≤ m) :
  Calls Tryd.prog 86 #[.agg #[.slice A n c], .slice A' m c', .int .i64 (a : Int)] w (AnsList w (argsL sg t a)) := by
 have HL := hid h'.1
 obtain ⟨hneg, hcoll⟩ := Coll.start HL.out hj hj2
 have h3 := argsL_len (t := t) hs a
 obtain ⟨b, off, x, rfl, hbb, hx, ex⟩ := h'.spot ha
 rw [ex.out] at hneg hcoll
 have hzb := ar_bd hs x
 obtain ⟨z, hz⟩ : ∃ z, ar sg x = z := ⟨_, rfl⟩
 rw [hz] at hneg hcoll hzb
 obtain ⟨T, rfl⟩ := Int.eq_ofNat_of_zero_le (show 0 ≤ z by omega)
 rw [Int.toNat_natCast] at hcoll
 have HZ := hid hz
 obtain ⟨L, hL⟩ : ∃ L, argsL sg t a = L := ⟨_, rfl⟩
 rw [hL] at hcoll h3 ⊢
 obtain ⟨W, hW⟩ : ∃ W, W = (w.alloc (.cells #[.slice A n c] 28)).alloc (.cells #[] 2) := ⟨_, rfl⟩
 have rA : Row W w.heap.size 28 #[.slice A n c] := by rw [hW]; exact (Row.new _ _ _).alloc _
 have bel : Below w.heap.size w W := by rw [hW]; exact ((Below.refl _ _).alloc (Nat.le_refl _) _).alloc (by simp) _
 have ow : Own W (w.heap.size + 1) (.slice (some ⟨w.heap.size + 1, 0, none⟩) 0 0) [] := by
  rw [hW]
  have := own_empty (w.alloc (.cells #[.slice A n c] 28)) (w.heap.size + 1) (by simp)
  simpa using this
 have s : Seg W.drew W.heap.size A n sg := ((h.below bel).more bel.size).drew
 have hx1 : W.cell? ⟨b, off + a, none⟩ = some (.int .i64 x) := (bel.cell (p := ⟨b, off + a, none⟩) hbb).trans hx
 have cA : W.cell? ⟨w.heap.size, 0, none⟩ = some (.slice A n c) := rA.cell 0
 have i0 : (0 : Int) ≤ (a : Int) := by omega
 have i1 : (a : Int) < (m : Int) := by omega
 have HW := hid hW
 have HS0 := hid hs
 clear hW hx hL hz hj ex hs
 go_enter Tryd.func86, Tryd.ntmps86
 go_wp2_with fail
 rw [← HW.out]
 replace rA := rA.drew
 replace bel := bel.drew
 replace ow := Own.drew ow
 go_region_held3 (fun w' => w'.cell? ⟨w.heap.size, 0, none⟩ = some (.slice A n c) ∧ w'.cell? ⟨b, off + a, none⟩ = some (.int .i64 x))
  (go_keep)
  (first
   | (go_at_call 85; refine (specArity _ _ _ sg x _ s hn).mono ?_; rintro e w2 ⟨he, bb⟩; rw [HZ.out] at he; subst he; replace cA : w2.cell? ⟨w.heap.size, 0, none⟩ = some (.slice A n c) := (rA.next bb).cell 0; have cx' : w2.cell? ⟨b, off + a, none⟩ = some (.int .i64 x) := (bb.cell (p := ⟨b, off + a, none⟩) (Nat.lt_trans hbb rA.lt)).trans hx1))
 have S0 : HeadArgs w A n c m sg t L (.slice (some ⟨w.heap.size + 1, 0, none⟩) 0 0) (.int .i64 ((a + 1 : Nat) : Int)) (.int .i64 (T : Int)) w2 :=
  ⟨T, a + 1, _, _, _, [], rfl, rfl, rfl, Own.next ow bb, hcoll, by omega, rA.next bb, bel.trans (bb.mono (Nat.le_of_lt rA.lt))⟩
 have HS := hid S0
 clear S0 bb rA bel ow s hx1 cA cx' hcoll
 go_wp2_with fail
 go_loopw [7, 8, 9] (fun out p k wr => HeadArgs w A n c m sg t L out p k wr) (fun _ _ k _ => (intOf k).toNat)
 case atStart => simpa using HS.out
 case round =>
  obtain ⟨q, pp, O, on, oc, ys, rfl, rfl, rfl, ho, hc, hq, hr, hb⟩ := hrel
  clear HS
  have hon : on ≤ 3 := by have := Own.len ho; have := hc.len; omega
  cases q with
  | zero =>
   have F : AnsList w L (.returned (.slice O on oc)) wr := ⟨O, on, oc, rfl, by rw [← hc.done]; exact Own.lower ho (Nat.le_succ _), hb⟩
   have HF := hid F
   clear F ho hc hr hb h h'
   go_wp2
   go_ret
   exact HF.out
  | succ q =>
   obtain ⟨jj, hj, hj2', hlt, hc'⟩ := hc.first
   have HE := hid (endI_some hj)
   have hsz := hr.lt
   have e0 : (0 : Int) < ((q + 1 : Nat) : Int) := by omega
   have hpp : pp ≤ 1048576 := by omega
   clear hc hj
   go_wp2_with (at_builtin; refine app1 rfl _ _ rfl (w.heap.size + 1) O on oc ys rfl (Own.alloc ho _) wr.heap.size 1 (pp : Int) rfl ((Row.new _ _ _).cell 0) (by omega) (by simp; omega) ?_; intro O' oc' w2 ho2 b2; have r2 : Row w2 w.heap.size 28 #[.slice A n c] := (hr.alloc _).below b2 (Nat.lt_succ_self _); have bel2 : Below w.heap.size w w2 := (hb.alloc (Nat.le_of_lt hsz) _).trans (b2.mono (Nat.le_succ _)); have cA2 : w2.cell? ⟨w.heap.size, 0, none⟩ = some (.slice A n c) := r2.cell 0)
   have s2 : Seg w2 w2.heap.size A n sg := (h.below bel2).more bel2.size
   have s2' : Seg w2 w2.heap.size (some ⟨b, off, none⟩) m t := (h'.below bel2).more bel2.size
   clear ho b2 hr hb
   refine (specEnd A _ n c m c' sg t (pp : Int) _ s2 s2' hn hm HS0.out (by omega) (by omega)).mono ?_
   rintro e w3 ⟨he, bb⟩
   rw [Int.toNat_natCast, HE.out] at he
   subst he
   have S : HeadArgs w A n c m sg t L (.slice O' (on + 1) oc') (.int .i64 ((pp : Int) + jj)) (.int .i64 (q : Int)) w3 :=
    ⟨q, pp + jj, O', on + 1, oc', _, rfl, by simp, rfl, Own.next ho2 bb, hc', by omega, r2.next bb, next_trans bel2 bb⟩
   have HSS := hid S
   clear S bb ho2 r2 bel2 cA2 s2 s2' hc'
   go_wp2
   go_roundw
   case rel => first | exact HSS.out | simpa using HSS.out
   case measure => simp [intOf]
theorem Cur.keep {w w' : World} {p : Nat} {A : Option Addr} {n c : Nat} {A' : Option Addr} {m c' : Nat} {sg t : List Int} {k : Nat} (h : Cur w p A n c A' m c' sg t k) (hb : Below (p + 1) w w') : Cur w' p A n c A' m c' sg t k :=
 ⟨h.row.below hb (Nat.lt_succ_self _), h.s.below (hb.mono (Nat.le_succ _)), h.s'.below (hb.mono (Nat.le_succ _)), h.le, h.hn, h.hm, h.ars⟩
theorem Cur.alloc {w : World} {p : Nat} {A : Option Addr} {n c : Nat} {A' : Option Addr} {m c' : Nat} {sg t : List Int} {k : Nat} (h : Cur w p A n c A' m c' sg t k) (o : Obj) : Cur (w.alloc o) p A n c A' m c' sg t k :=
 h.below ((Below.refl _ _).alloc (Nat.le_refl _) _)
theorem args_over {w a b : World} {B : Nat} {r : Option Nat} (g : w.grownBy a r) (hb : Below B a b) (hB : w.heap.size ≤ B) : w.grownBy b r :=
 ⟨hb.os.trans g.os, hb.tape.trans g.tape, hb.output.trans g.output, Nat.le_trans g.size hb.size, fun k hk hne => (hb.block k (by omega)).trans (g.block k hk hne)⟩
end args
end
section
namespace depth
open Go.RowKit base ints sig term arity endOf cursor termOk endAt marks app sym args
def Deep (sg t : List Int) (f : Nat) (M d : Int) (q p : Nat) : Prop := max d (maxOver sg t (dep sg t f) q p) = M ∧ 0 ≤ d ∧ d ≤ f ∧ ∃ i, scan sg q (t.drop p) = some i ∧ i ≤ f ∧ p + i ≤ t.length
theorem Deep.first {sg t : List Int} {f : Nat} {M d : Int} {q p : Nat} (h : Deep sg t f M d (q + 1) p) : ∃ j, scan sg 1 (t.drop p) = some j ∧ j ≤ f ∧ p < t.length ∧ p + j ≤ t.length ∧ Deep sg t f M (max d (dep sg t f p)) q (p + j) := by
 obtain ⟨h1, h2, h3, i, h4, h5, h6⟩ := h
 obtain ⟨j, e1, e2, e3, e4⟩ := scan_first h4
 have hb := dep_bd (sg := sg) (t := t) f p
 refine ⟨j, e1, by omega, by omega, by omega, ?_, by omega, by omega, i - j, e4, by omega, by omega⟩
 simp only [maxOver, len1_eq e1] at h1
 omega
theorem Deep.done {sg t : List Int} {f : Nat} {M d : Int} {p : Nat} (h : Deep sg t f M d 0 p) : d = M := by
 have h1 := h.1
 have h2 := h.2.1
 simp only [maxOver] at h1
 omega
theorem termOk_pos {sg t : List Int} (h : termOkB sg t = true) : 0 < t.length := by
 have := scan_pos (q := 0) (termOk_parts h).2.2
 exact this
end depth
end
section
namespace termFacts
open sig term termOk
theorem term_parts {sg t : List Int} (h : termOkB sg t = true) : sigOkB sg = true ∧ t.length ≤ 60 ∧ scan sg 1 t = some t.length := by
 unfold termOkB termB at h
 simp only [Bool.and_eq_true, decide_eq_true_eq] at h
 exact h
theorem term_len {sg t : List Int} (h : termOkB sg t = true) : 1 ≤ t.length ∧ t.length ≤ 60 := ⟨scan_pos (q := 0) (term_parts h).2.2, (term_parts h).2.1⟩
theorem term_ar {sg t : List Int} (h : termOkB sg t = true) {j : Nat} (hj : j < t.length) : ¬ ar sg (t.getD j 0) < 0 := by
 obtain ⟨i, h1, _, _⟩ := scan_at (term_parts h).2.2 hj
 obtain ⟨_, _, _, h2, _⟩ := scan_args h1
 exact h2
theorem term_num {sg t : List Int} (h : termOkB sg t = true) {j : Nat} (hj : j < t.length) : -24 ≤ t.getD j 0 ∧ t.getD j 0 < 8 := by
 have h1 := term_ar h hj
 have h2 := (sig_arities (term_parts h).1).2
 unfold ar at h1
 split at h1
 ·omega
 ·split at h1
  ·omega
  ·omega
theorem term_mem {sg t : List Int} (h : termOkB sg t = true) {x : Int} (hx : x ∈ t) : -24 ≤ x ∧ x < 8 := by
 obtain ⟨j, hj, rfl⟩ := List.getElem_of_mem hx
 have := term_num h hj
 simpa [List.getD, hj] using this
end termFacts
end
section
namespace termText
open Go.RowKit base ints sig term arity endOf cursor termOk endAt marks app sym args depth termFacts text textL
set_option maxRecDepth 100000
def hdT (n : Int) : List UInt8 := if n < 0 then 120 :: dg (-1 - n).toNat else 102 :: dg n.toNat
def wordsOf (sg t : List Int) (g : Nat → List UInt8) : Nat → Nat → List (List UInt8)
 | 0, _ => []
 | k + 1, p => g p :: wordsOf sg t g k (p + len1 sg t p)
def open_ (ws : List (List UInt8)) : List UInt8 := if ws = [] then [] else 40 :: Lib.join ws [44]
def shut_ (ws : List (List UInt8)) : List UInt8 := if ws = [] then [] else [41]
def txt (sg t : List Int) : Nat → Nat → List UInt8
 | 0, _ => []
 | f + 1, a => hdT (t.getD a 0) ++ open_ (wordsOf sg t (txt sg t f) (ar sg (t.getD a 0)).toNat (a + 1)) ++ shut_ (wordsOf sg t (txt sg t f) (ar sg (t.getD a 0)).toNat (a + 1))
def Small (t : List Int) : Prop := ∀ p, p < t.length → -24 ≤ t.getD p 0 ∧ t.getD p 0 < 100
theorem hdT_len {n : Int} (h : -24 ≤ n ∧ n < 100) : (hdT n).length ≤ 3 := by
 unfold hdT
 split
 ·have := dg_len (n := (-1 - n).toNat) (by omega); simp; omega
 ·have := dg_len (n := n.toNat) (by omega); simp; omega
theorem words_count (sg t : List Int) (g : Nat → List UInt8) : ∀ k p, (wordsOf sg t g k p).length = k
 | 0, _ => rfl
 | k + 1, p => by simp [wordsOf, words_count sg t g k]
def lens (ws : List (List UInt8)) : Nat := (ws.map List.length).sum
theorem join_lens (ws : List (List UInt8)) (hne : ws ≠ []) : (Lib.join ws [44]).length + 1 ≤ lens ws + ws.length := by
 cases ws with
 | nil => exact absurd rfl hne
 | cons x r =>
  rw [Lib.join_cons]
  have h : ∀ r : List (List UInt8), (Lib.joinTail [44] r).length = lens r + r.length := by
   intro r
   induction r with
   | nil => simp [Lib.joinTail, lens]
   | cons y r ih =>
    have e : Lib.joinTail [44] (y :: r) = [44] ++ y ++ Lib.joinTail [44] r := by simp [Lib.joinTail]
    rw [e]
    simp only [List.length_append, ih, lens, List.map_cons, List.sum_cons, List.length_cons, List.length_nil]
    omega
  simp only [List.length_append, h, lens, List.map_cons, List.sum_cons, List.length_cons]
  omega
theorem txt_len {sg t : List Int} (hs : Arities sg) (hsm : Small t) : ∀ f a j, scan sg 1 (t.drop a) = some j → j ≤ f → (txt sg t f a).length ≤ 7 * j
 | 0, a, j, hj, hf => by have := scan_pos (q := 0) hj; omega
 | f + 1, a, j, hj, hf => by
  obtain ⟨r, rfl, hat, hneg, hr⟩ := scan_args hj
  have hw : ∀ q p r, scan sg q (t.drop p) = some r → r ≤ f → lens (wordsOf sg t (txt sg t f) q p) ≤ 7 * r := by
   intro q
   induction q with
   | zero => intro p r _ _; simp [wordsOf, lens]
   | succ q ih =>
    intro p r hr hf
    obtain ⟨j, e1, e2, e3, e4⟩ := scan_first hr
    have h1 := txt_len hs hsm f p j e1 (by omega)
    have h2 := ih (p + j) (r - j) e4 (by omega)
    simp only [wordsOf, len1_eq e1, lens, List.map_cons, List.sum_cons] at h2 ⊢
    omega
  have h1 := hw _ _ _ hr (by omega)
  have h2 := hdT_len (hsm a hat)
  have h3 := ar_bd hs (t.getD a 0)
  have h4 := words_count sg t (txt sg t f) (ar sg (t.getD a 0)).toNat (a + 1)
  have h5 := join_lens (wordsOf sg t (txt sg t f) (ar sg (t.getD a 0)).toNat (a + 1))
  obtain ⟨H, hH⟩ : ∃ H, hdT (t.getD a 0) = H := ⟨_, rfl⟩
  rw [hH] at h2
  show (hdT (t.getD a 0) ++ open_ _ ++ shut_ _).length ≤ _
  rw [hH]
  obtain ⟨ws, hws⟩ : ∃ ws, wordsOf sg t (txt sg t f) (ar sg (t.getD a 0)).toNat (a + 1) = ws := ⟨_, rfl⟩
  rw [hws] at h1 h4 h5 ⊢
  unfold open_ shut_
  by_cases hn : ws = []
  ·rw [if_pos hn, if_pos hn]; simp; omega
  ·have h6 := h5 hn
   rw [if_neg hn, if_neg hn]; simp only [List.length_append, List.length_cons, List.length_nil]; omega
theorem words_le {sg t : List Int} (hs : Arities sg) (hsm : Small t) {f : Nat} (hf60 : f ≤ 500) : ∀ q p r, scan sg q (t.drop p) = some r → r ≤ f → ∀ x ∈ wordsOf sg t (txt sg t f) q p, x.length ≤ 4096
 | 0, p, r, _, _ => by intro x hx; cases hx
 | q + 1, p, r, hr, hf => by
  intro x hx
  obtain ⟨j, e1, e2, e3, e4⟩ := scan_first hr
  rcases List.mem_cons.1 hx with rfl | hx
  ·have := txt_len hs hsm f p j e1 (by omega); omega
  ·rw [len1_eq e1] at hx
   exact words_le hs hsm hf60 q (p + j) (r - j) e4 (by omega) x hx
set_option maxHeartbeats 1000000 in
theorem headText (n : Int) (w : World) (h : -24 ≤ n ∧ n < 100) :
  Calls Tryd.prog 62 #[.int .i64 n] w fun e w' => e = .returned (.string (bs (hdT n))) ∧ w' = w := by
 by_cases h0 : n < 0
 ·obtain ⟨m, hm⟩ : ∃ m : Nat, -1 - n = (m : Int) := ⟨(-1 - n).toNat, by omega⟩
  have LN := Lib.hid (numberText m w (by omega))
  have e : bs [120] ++ bs (dg m) = bs (hdT n) := by
   rw [bs_app]
   unfold hdT
   rw [if_pos h0, hm, Int.toNat_natCast]
   rfl
  have E := Lib.hid e
  have h1 : -1 - n = (m : Int) := hm
  have h2 : (m : Int) < 100 := by omega
  have ho : ¬ 9223372036854775807 < (⟨#[120]⟩ : ByteArray).size + (bs (dg m)).size := by rw [bs_size]; have := dg_len (n := m) (by omega); show ¬ _ < 1 + _; omega
  clear e hm
  go_enter Tryd.func62, Tryd.ntmps62
  go_wp2_with fail
  refine LN.out.mono ?_
  rintro e w' ⟨rfl, hw⟩
  obtain rfl : w = w' := hw.symm
  clear h1
  go_wp2
  go_ret
  exact ⟨by rw [← E.out]; rfl, rfl⟩
 ·obtain ⟨m, rfl⟩ := Int.eq_ofNat_of_zero_le (Int.not_lt.1 h0)
  have LN := Lib.hid (numberText m w (by omega))
  have e : bs [102] ++ bs (dg m) = bs (hdT (m : Int)) := by
   rw [bs_app]
   unfold hdT
   rw [if_neg h0, Int.toNat_natCast]
   rfl
  have E := Lib.hid e
  have ho : ¬ 9223372036854775807 < (⟨#[102]⟩ : ByteArray).size + (bs (dg m)).size := by rw [bs_size]; have := dg_len (n := m) (by omega); show ¬ _ < 1 + _; omega
  clear e
  go_enter Tryd.func62, Tryd.ntmps62
  go_wp2_with fail
  refine LN.out.mono ?_
  rintro e w' ⟨rfl, hw⟩
  obtain rfl : w = w' := hw.symm
  go_wp2
  go_ret
  exact ⟨by rw [← E.out]; rfl, rfl⟩
end termText
end
section
open Go.Lib (hid)
namespace termText
open Go.RowKit base ints sig term arity endOf cursor termOk endAt marks app sym args depth termFacts text textL
set_option maxRecDepth 100000
def HeadTx (w : World) (A : Option Addr) (n c : Nat) (O : Option Addr) (T oc : Nat) (ys : List Int) (sg t : List Int) (f m : Nat) (H : List UInt8) (Wd : List (List UInt8)) (s i : Value) (wr : World) : Prop :=
 ∃ (k q pp r : Nat) (ws : List (List UInt8)), i = .int .i64 k ∧ k + q = T ∧ ws.length = k ∧ ws ++ wordsOf sg t (txt sg t f) q pp = Wd ∧ ys.drop k = places sg t q pp ∧ scan sg q (t.drop pp) = some r ∧ pp + r ≤ m ∧ r ≤ f ∧ s = .string (bs (H ++ open_ ws)) ∧ Own wr (w.heap.size + 1) (.slice O T oc) ys ∧ Row wr w.heap.size 28 #[.slice A n c] ∧ Below w.heap.size w wr
theorem open_len {ws : List (List UInt8)} (h3 : ws.length ≤ 3) (h : ∀ x ∈ ws, x.length ≤ 4096) : (open_ ws).length ≤ 20000 := by
 unfold open_
 split
 ·simp
 ·have := join_bd (M := 4096) [44] ws h
  have h4 : ws.length * (4096 + [(44 : UInt8)].length) ≤ 3 * 4097 := Nat.mul_le_mul h3 (by simp)
  rw [List.length_cons]
  omega
theorem open_one (w : List UInt8) : open_ ([] ++ [w]) = [40] ++ w := by unfold open_; rw [if_neg (by simp)]; rw [List.nil_append, Lib.join_one]; rfl
theorem open_more {ws : List (List UInt8)} (w : List UInt8) (h : ws ≠ []) : open_ (ws ++ [w]) = open_ ws ++ [44] ++ w := by
 unfold open_
 rw [if_neg (by simp), if_neg h, join_snoc _ _ h]
 simp
set_option maxHeartbeats 4000000 in
theorem specTxt (A A' : Option Addr) (n c m c' : Nat) (sg t : List Int) (hn : n ≤ 1048576) (hm : m ≤ 1048576) (hs : Arities sg) (hsm : Small t) : ∀ (f a j : Nat) (x : Int) (w : World), Seg w w.heap.size A n sg → Seg w w.heap.size A' m t →
  x = (a : Int) → a < m → scan sg 1 (t.drop a) = some j → a + j ≤ m → j ≤ f → f ≤ 500 →
  Calls Tryd.prog 66 #[.agg #[.slice A n c], .slice A' m c', .int .i64 x] w fun e w' => e = .returned (.string (bs (txt sg t f a))) ∧ Below w.heap.size w w' := by
 intro f
 induction f with
 | zero =>
  intro a j x w _ _ _ _ hj _ hf _
  have := scan_pos (q := 0) hj
  omega
 | succ f ih =>
  intro a j x w h h' hx ha hj hl hf hff
  subst hx
  have IH := hid ih
  clear ih
  have HL := hid h'.1
  have HSM := hid hsm
  have HWL := hid (fun q p r h1 h2 => words_le hs hsm (f := f) (by omega) q p r h1 h2)
  have HTL := hid (fun p j h1 h2 => txt_len hs hsm f p j h1 h2)
  obtain ⟨r0, hjr, hat, hneg, hr0⟩ := scan_args hj
  have hsa := hsm a hat
  have hzb := ar_bd hs (t.getD a 0)
  have e2 : argsL sg t a = places sg t (ar sg (t.getD a 0)).toNat (a + 1) := rfl
  obtain ⟨T, hT⟩ : ∃ T, (ar sg (t.getD a 0)).toNat = T := ⟨_, rfl⟩
  have e1 : txt sg t (f + 1) a = hdT (t.getD a 0) ++ open_ (wordsOf sg t (txt sg t f) T (a + 1)) ++ shut_ (wordsOf sg t (txt sg t f) T (a + 1)) := by rw [← hT]; rfl
  rw [hT] at e2 hr0
  have hT3 : T ≤ 3 := by omega
  obtain ⟨W, hW⟩ : ∃ W, W = w.alloc (.cells #[.slice A n c] 28) := ⟨_, rfl⟩
  have rA : Row W w.heap.size 28 #[.slice A n c] := by rw [hW]; exact Row.new _ _ _
  have bel : Below w.heap.size w W := by rw [hW]; exact (Below.refl _ _).alloc (Nat.le_refl _) _
  have zW : W.heap.size = w.heap.size + 1 := by rw [hW]; simp
  obtain ⟨b, off, x, hA', hbb, hcx0, ex⟩ := h'.spot ha
  have cx : (w.alloc (.cells #[.slice A n c] 28)).cell? ⟨b, off + a, none⟩ = some (.int .i64 x) := by rw [← hW]; exact (bel.cell (p := ⟨b, off + a, none⟩) hbb).trans hcx0
  have i0 : (0 : Int) ≤ (a : Int) := by omega
  have i1 : (a : Int) < (m : Int) := by omega
  rw [ex.out] at hsa e1 hT hzb
  have HW := hid hW
  clear hW hcx0
  subst hA'
  by_cases hx0 : x < 0
  ·obtain ⟨m0, hm0⟩ : ∃ z : Nat, -1 - x = (z : Int) := ⟨(-1 - x).toNat, by omega⟩
   have hT0 : T = 0 := by rw [← hT, ar_var (by omega)]; rfl
   have LI := hid (l1Int m0 W (by omega))
   have E := hid (show bs [120] ++ bs (dg m0) = bs (txt sg t (f + 1) a) by
    rw [bs_app, e1, hT0]
    unfold hdT open_ shut_ wordsOf
    rw [if_pos hx0, hm0, Int.toNat_natCast]
    simp)
   have ho : ¬ 9223372036854775807 < (⟨#[120]⟩ : ByteArray).size + (bs (dg m0)).size := by rw [bs_size]; have := dg_len (n := m0) (by omega); show ¬ _ < 1 + _; omega
   clear hj hr0 hT e1 e2 hneg hzb hat h h' HWL HTL IH
   go_enter Tryd.func66, Tryd.ntmps66
   go_wp2_with fail
   rw [← HW.out]
   refine LI.out.mono ?_
   rintro e w1 ⟨rfl, bb⟩
   have F := hid (next_trans bel bb)
   clear bb bel rA LI cx hm0
   go_wp2
   go_ret
   exact ⟨by rw [← E.out]; rfl, F.out⟩
  ·obtain ⟨x0, rfl⟩ := Int.eq_ofNat_of_zero_le (Int.not_lt.1 hx0)
   have HH := hid (show hdT (x0 : Int) = [102] ++ dg x0 by unfold hdT; rw [if_neg hx0, Int.toNat_natCast]; rfl)
   have LI := hid (l1Int x0 W (by omega))
   have hdl := dg_len (n := x0) (by omega)
   obtain ⟨Hd, hHd⟩ : ∃ z, hdT (x0 : Int) = z := ⟨_, rfl⟩
   have hHl : Hd.length ≤ 3 := by rw [← hHd]; exact hdT_len (by omega)
   rw [hHd] at HH e1
   have E0 := hid (show bs [102] ++ bs (dg x0) = bs Hd by rw [bs_app, HH.out])
   have ho : ¬ 9223372036854775807 < (⟨#[102]⟩ : ByteArray).size + (bs (dg x0)).size := by rw [bs_size]; show ¬ _ < 1 + _; omega
   obtain ⟨ys, hys⟩ : ∃ ys, argsL sg t a = ys := ⟨_, rfl⟩
   have hylen : ys.length = T := by rw [← hys, e2, places_len]
   have hpl : ys.drop 0 = places sg t T (a + 1) := by rw [← hys, e2]; rfl
   have LA := hid (fun (w1 : World) (bb : Below w.heap.size w w1) => l1Args A (some ⟨b, off, none⟩) n c m c' sg t a j w1 (h.next bb) (h'.next bb) hn hm hs ha hj hl)
   simp only [hys] at LA
   obtain ⟨Wd, hWd⟩ : ∃ z, wordsOf sg t (txt sg t f) T (a + 1) = z := ⟨_, rfl⟩
   rw [hWd] at e1
   have HE := hid e1
   have HWc := hid (show Wd.length = T by rw [← hWd]; exact words_count _ _ _ _ _)
   have HWb := hid (show ∀ x ∈ Wd, x.length ≤ 4096 by rw [← hWd]; exact HWL.out _ _ _ hr0 (by omega))
   have HST := hid (show scan sg T (t.drop (a + 1)) = some r0 ∧ a + 1 + r0 ≤ m ∧ r0 ≤ f ∧ wordsOf sg t (txt sg t f) T (a + 1) = Wd from ⟨hr0, by omega, by omega, hWd⟩)
   have HYS := hid (show ys.length = T ∧ ys.drop 0 = places sg t T (a + 1) from ⟨hylen, hpl⟩)
   have H := hid h
   have H' := hid h'
   clear hj hr0 hT e1 e2 hneg hzb hat hHd hys hWd hylen hpl hdl h h' HWL
   go_enter Tryd.func66, Tryd.ntmps66
   go_wp2_with fail
   rw [← HW.out]
   refine LI.out.mono ?_
   rintro e w1 ⟨rfl, bb⟩
   replace rA := rA.next bb
   replace bel := next_trans bel bb
   have cA : w1.cell? ⟨w.heap.size, 0, none⟩ = some (.slice A n c) := rA.cell 0
   have zw1 : w.heap.size + 1 ≤ w1.heap.size := by have := bb.size; omega
   have LA1 := hid (LA.out w1 bel)
   clear bb LI LA zW cx
   go_wp2_with fail
   refine LA1.out.mono ?_
   rintro e w2 ⟨O, on, oc, rfl, ho2, bb⟩
   have hon := Own.len ho2
   rw [HYS.out.1] at hon
   subst hon
   have S0 : HeadTx w A n c O on oc ys sg t f m Hd Wd (.string (bs Hd)) (.int .i64 0) w2 := ⟨0, on, a + 1, r0, [], rfl, by omega, rfl, by rw [List.nil_append]; exact HST.out.2.2.2, HYS.out.2, HST.out.1, HST.out.2.1, HST.out.2.2.1, by unfold open_; rw [if_pos rfl, List.append_nil], Own.lower ho2 zw1, rA.next bb, next_trans bel bb⟩
   have HS := hid S0
   clear S0 ho2 bb bel rA cA LA1
   have E1 : (⟨#[102]⟩ : ByteArray) ++ bs (dg x0) = bs Hd := E0.out
   go_wp2_with fail
   go_loopw [7, 9] (fun s i wr => HeadTx w A n c O on oc ys sg t f m Hd Wd s i wr) (fun _ i _ => on - (intOf i).toNat)
   case atStart => first | exact HS.out | (rw [E1]; exact HS.out)
   case round =>
    clear E1
    obtain ⟨k, q, pp, r, ws, rfl, hkq, hwl, hwd, hpl, hsc, hpr, hrf, rfl, ho, hr, hb⟩ := hrel
    clear HS
    have hwb : ∀ x ∈ ws, x.length ≤ 4096 := fun x hx => HWb.out x (by rw [← hwd]; exact List.mem_append_left _ hx)
    have hol := open_len (ws := ws) (by omega) hwb
    obtain ⟨V, hV⟩ : ∃ z, Hd ++ open_ ws = z := ⟨_, rfl⟩
    have hVl : V.length ≤ 20003 := by rw [← hV, List.length_append]; omega
    rw [hV]
    cases q with
    | zero =>
     have hk : k = on := by omega
     subst hk
     have hws : ws = Wd := by rw [← hwd]; simp [wordsOf]
     subst hws
     by_cases h0 : k = 0
     ·have hz : ws = [] := List.length_eq_zero_iff.1 (by omega)
      have F := hid (show bs V = bs (txt sg t (f + 1) a) ∧ Below w.heap.size w wr from ⟨by rw [HE.out, ← hV, hz]; unfold open_ shut_; simp, hb⟩)
      have hk0 : ¬ (0 : Int) < (k : Int) := by omega
      clear ho hr hb hpl hkq h0 hV hwd hz hwl
      go_wp2
      go_ret
      exact ⟨by rw [F.out.1]; rfl, F.out.2⟩
     ·have hz : ws ≠ [] := fun e => h0 (by rw [← hwl, e]; rfl)
      have F := hid (show bs V ++ bs [41] = bs (txt sg t (f + 1) a) ∧ Below w.heap.size w wr from ⟨by rw [bs_app, HE.out, ← hV]; unfold shut_; rw [if_neg hz], hb⟩)
      have hk0 : (0 : Int) < (k : Int) := by omega
      have ho3 : ¬ 9223372036854775807 < (bs V).size + (⟨#[41]⟩ : ByteArray).size := by rw [bs_size]; show ¬ _ < _ + 1; omega
      clear ho hr hb hpl hkq h0 hV hwd hz hwl
      go_wp2
      go_ret
      exact ⟨by rw [← F.out.1]; rfl, F.out.2⟩
    | succ q =>
     obtain ⟨jj, hj, hjr, hle, hsc'⟩ := scan_first hsc
     have hkT : k < on := by omega
     have hplt : pp < t.length := by have := scan_args hj; obtain ⟨_, _, h2, _⟩ := this; exact h2
     have hyk : ys.getD k 0 = (pp : Int) := by
      have : (ys.drop k)[0]? = (places sg t (q + 1) pp)[0]? := by rw [hpl]
      simp [places] at this
      simp [List.getD, this]
     have hpl' : ys.drop (k + 1) = places sg t q (pp + jj) := by
      have : (ys.drop k).drop 1 = (places sg t (q + 1) pp).drop 1 := by rw [hpl]
      rw [List.drop_drop] at this
      simpa [places, len1_eq hj] using this
     have so := Own.seg ho
     obtain ⟨bo, oo, y, rfl, hbo, hy, ey⟩ := so.spot hkT
     have hyy : y = (pp : Int) := by rw [← ey.out]; exact hyk
     subst hyy
     have cA : wr.cell? ⟨w.heap.size, 0, none⟩ = some (.slice A n c) := hr.cell 0
     have s : Seg wr.drew wr.heap.size A n sg := ((H.out.below hb).more hb.size).drew
     have s' : Seg wr.drew wr.heap.size (some ⟨b, off, none⟩) m t := ((H'.out.below hb).more hb.size).drew
     obtain ⟨X, hX⟩ : ∃ z, txt sg t f pp = z := ⟨_, rfl⟩
     have hXl : X.length ≤ 4096 := by rw [← hX]; have := HTL.out pp jj hj (by omega); omega
     have hws' : (ws ++ [X]) ++ wordsOf sg t (txt sg t f) q (pp + jj) = Wd := by
      rw [← hwd]
      simp only [wordsOf, len1_eq hj, hX, List.append_assoc, List.singleton_append]
     have HX := hid hX
     have HWS := hid hws'
     have HJ := hid hj
     have HKQ := hid hkq
     have HSC := hid (show scan sg q (t.drop (pp + jj)) = some (r - jj) ∧ pp + jj + (r - jj) ≤ m ∧ r - jj ≤ f from ⟨hsc', by omega, by omega⟩)
     have HWN := hid hwl
     have i0 : (0 : Int) ≤ (k : Int) := by omega
     have i1 : (k : Int) < (on : Int) := by omega
     have hplt' : pp < m := by rw [← HL.out]; exact hplt
     have hpj' : pp + jj ≤ m := by omega
     have hjf : jj ≤ f := by omega
     replace ho := Own.drew ho
     replace hr := hr.drew
     replace hb := hb.drew
     have HPL := hid hpl'
     have HV := hid hV
     clear hpl hpl' hyk ey so hj hkq hX hws' hwd hsc hsc' hplt hV hwb hol hle hjr hpr hrf
     by_cases h0 : k = 0
     case pos =>
      have oS1 : ¬ 9223372036854775807 < (bs V).size + (⟨#[40]⟩ : ByteArray).size := by rw [bs_size]; show ¬ _ < _ + 1; omega
      have eV : bs V ++ (⟨#[40]⟩ : ByteArray) = bs (V ++ [40]) := bs_app V [40]
      have oS2 : ¬ 9223372036854775807 < (bs V ++ (⟨#[40]⟩ : ByteArray)).size + (bs X).size := by rw [eV, bs_size, bs_size, List.length_append]; show ¬ _ < _ + 1 + _; omega
      have oS3 : ¬ 9223372036854775807 < (bs V).size + (⟨#[40]⟩ : ByteArray).size + (bs X).size := by rw [bs_size, bs_size]; show ¬ _ < _ + 1 + _; omega
      have oS4 : ¬ 9223372036854775807 < (bs V).size + 1 + (bs X).size := oS3
      have oS5 : (bs V).size + 1 + (bs X).size ≤ 9223372036854775807 := by omega
      have hrun : ∀ (v : World), (Op.stringOp .add (bs V ++ (⟨#[40]⟩ : ByteArray)) (bs X)).run Tryd.prog v = .ok (.string (bs V ++ (⟨#[40]⟩ : ByteArray) ++ bs X)) v := fun v => run_string_add_sum v _ _ (by omega)
      have EE := hid (show bs V ++ (⟨#[40]⟩ : ByteArray) ++ bs X = bs (Hd ++ open_ (ws ++ [X])) by rw [eV, bs_app, ← HV.out, List.length_eq_zero_iff.1 (show ws.length = 0 by have := HWN.out; omega), open_one]; unfold open_; simp)
      have EK : ((k : Int) == 0) = true := by rw [h0]; rfl
      clear eV h0
      go_wp2_with fail
      go_region_held3 (fun w' => w'.cell? ⟨w.heap.size, 0, none⟩ = some (.slice A n c) ∧ w'.cell? ⟨bo, oo + k, none⟩ = some (.int .i64 (pp : Int)))
       (go_keep)
       (first
        | (go_at_call 66; refine (IH.out pp jj _ _ s s' rfl hplt' HJ.out hpj' hjf (by omega)).mono ?_; rintro e w4 ⟨he, bb⟩; rw [HX.out] at he; subst he; replace hr := hr.next bb; replace ho := Own.next ho bb; replace hb := next_trans hb bb; replace cA : w4.cell? ⟨w.heap.size, 0, none⟩ = some (.slice A n c) := hr.cell 0; replace hy : w4.cell? ⟨bo, oo + k, none⟩ = some (.int .i64 (pp : Int)) := (bb.cell (p := ⟨bo, oo + k, none⟩) hbo).trans hy))
      have S : HeadTx w A n c (some ⟨bo, oo, none⟩) on oc ys sg t f m Hd Wd (.string (bs V ++ (⟨#[40]⟩ : ByteArray) ++ bs X)) (.int .i64 ((k : Int) + 1)) w4 :=
       ⟨k + 1, q, pp + jj, r - jj, ws ++ [X], by simp, by have := HKQ.out; omega, by rw [List.length_append, HWN.out]; rfl, HWS.out, HPL.out, HSC.out.1, HSC.out.2.1, HSC.out.2.2, by rw [EE.out], ho, hr, hb⟩
      have HSS := hid S
      clear S ho hr hb bb cA hy s s'
      go_wp2
      go_roundw
      case rel => exact HSS.out
      case measure => simp [intOf]; omega
     have oS1 : ¬ 9223372036854775807 < (bs V).size + (⟨#[44]⟩ : ByteArray).size := by rw [bs_size]; show ¬ _ < _ + 1; omega
     have eV : bs V ++ (⟨#[44]⟩ : ByteArray) = bs (V ++ [44]) := bs_app V [44]
     have oS2 : ¬ 9223372036854775807 < (bs V ++ (⟨#[44]⟩ : ByteArray)).size + (bs X).size := by rw [eV, bs_size, bs_size, List.length_append]; show ¬ _ < _ + 1 + _; omega
     have oS3 : ¬ 9223372036854775807 < (bs V).size + (⟨#[44]⟩ : ByteArray).size + (bs X).size := by rw [bs_size, bs_size]; show ¬ _ < _ + 1 + _; omega
     have oS4 : ¬ 9223372036854775807 < (bs V).size + 1 + (bs X).size := oS3
     have oS5 : (bs V).size + 1 + (bs X).size ≤ 9223372036854775807 := by omega
     have hrun : ∀ (v : World), (Op.stringOp .add (bs V ++ (⟨#[44]⟩ : ByteArray)) (bs X)).run Tryd.prog v = .ok (.string (bs V ++ (⟨#[44]⟩ : ByteArray) ++ bs X)) v := fun v => run_string_add_sum v _ _ (by omega)
     have EE := hid (show bs V ++ (⟨#[44]⟩ : ByteArray) ++ bs X = bs (Hd ++ open_ (ws ++ [X])) by rw [eV, bs_app, ← HV.out, open_more X (fun e => h0 (by have := HWN.out; rw [e] at this; exact this.symm))]; simp)
     have EK : ((k : Int) == 0) = false := by simp; omega
     clear eV h0
     go_wp2_with fail
     go_region_held3 (fun w' => w'.cell? ⟨w.heap.size, 0, none⟩ = some (.slice A n c) ∧ w'.cell? ⟨bo, oo + k, none⟩ = some (.int .i64 (pp : Int)))
      (go_keep)
      (first
       | (go_at_call 66; refine (IH.out pp jj _ _ s s' rfl hplt' HJ.out hpj' hjf (by omega)).mono ?_; rintro e w4 ⟨he, bb⟩; rw [HX.out] at he; subst he; replace hr := hr.next bb; replace ho := Own.next ho bb; replace hb := next_trans hb bb; replace cA : w4.cell? ⟨w.heap.size, 0, none⟩ = some (.slice A n c) := hr.cell 0; replace hy : w4.cell? ⟨bo, oo + k, none⟩ = some (.int .i64 (pp : Int)) := (bb.cell (p := ⟨bo, oo + k, none⟩) hbo).trans hy))
     have S : HeadTx w A n c (some ⟨bo, oo, none⟩) on oc ys sg t f m Hd Wd (.string (bs V ++ (⟨#[44]⟩ : ByteArray) ++ bs X)) (.int .i64 ((k : Int) + 1)) w4 :=
      ⟨k + 1, q, pp + jj, r - jj, ws ++ [X], by simp, by have := HKQ.out; omega, by rw [List.length_append, HWN.out]; rfl, HWS.out, HPL.out, HSC.out.1, HSC.out.2.1, HSC.out.2.2, by rw [EE.out], ho, hr, hb⟩
     have HSS := hid S
     clear S ho hr hb bb cA hy s s'
     go_wp2
     go_roundw
     case rel => exact HSS.out
     case measure => simp [intOf]; omega
def termT (sg t : List Int) : List UInt8 := if termOkB sg t = true then txt sg t t.length 0 else []
theorem small_of {sg t : List Int} (h : termOkB sg t = true) : Small t := fun p hp => by
 have hm : t.getD p 0 ∈ t := by simp only [List.getD, List.getElem?_eq_getElem hp, Option.getD_some]; exact List.getElem_mem hp
 have h1 := term_mem h hm
 have h2 := (sig_arities (termOk_parts h).1).2.2
 omega
set_option maxHeartbeats 2000000 in
theorem specTermText0 (A A' : Option Addr) (n c m c' : Nat) (sg t : List Int) (w : World) (h : Seg w w.heap.size A n sg) (h' : Seg w w.heap.size A' m t) (hn : n ≤ 1048576) (hm : m ≤ 1048576) :
  Calls Tryd.prog 35 #[.agg #[.slice A n c], .slice A' m c'] w fun e w' => e = .returned (.string (bs (termT sg t))) ∧ Below w.heap.size w w' := by
 obtain ⟨W, hW⟩ : ∃ W, W = w.alloc (.cells #[.slice A n c] 28) := ⟨_, rfl⟩
 have rA : Row W w.heap.size 28 #[.slice A n c] := by rw [hW]; exact Row.new _ _ _
 have bel : Below w.heap.size w W := by rw [hW]; exact (Below.refl _ _).alloc (Nat.le_refl _) _
 replace h := (h.below bel).more bel.size
 replace h' := (h'.below bel).more bel.size
 have HW := hid hW
 have HL := hid h'.1
 clear hW
 have L := hid (specTermOk A A' n c m c' sg t W h h' hn hm)
 cases hok : termOkB sg t with
 | false =>
  have HS := hid hok
  have HT := hid (show termT sg t = [] by unfold termT; rw [if_neg (by rw [hok]; simp)])
  clear hok h h'
  go_enter Tryd.func35, Tryd.ntmps35
  go_wp2_with fail
  rw [← HW.out]
  refine L.out.mono ?_
  rintro e w1 ⟨he, bb⟩
  rw [HS.out] at he
  subst he
  have F := hid (next_trans bel bb)
  clear bb bel rA L
  go_wp2
  go_ret
  exact ⟨by rw [HT.out]; rfl, F.out⟩
 | true =>
  have HS := hid hok
  have HT := hid (show termT sg t = txt sg t m 0 by unfold termT; rw [if_pos hok, HL.out])
  have hars := (sig_arities (termOk_parts HS.out).1).1
  have hsmall := small_of hok
  have hpos : 0 < m := by have := termOk_pos HS.out; rw [HL.out] at this; exact this
  have h60 : m ≤ 60 := by rw [← HL.out]; exact (term_len hok).2
  have HJ := hid (show scan sg 1 (t.drop 0) = some m by rw [← HL.out]; exact (termOk_parts HS.out).2.2)
  clear hok
  have LX := hid (fun (w1 : World) (bb : Below W.heap.size W w1) => specTxt A A' n c m c' sg t hn hm hars hsmall m 0 m 0 w1 (h.next bb) (h'.next bb) rfl hpos HJ.out (by omega) (Nat.le_refl _) (by omega))
  go_enter Tryd.func35, Tryd.ntmps35
  go_wp2_with fail
  rw [← HW.out]
  refine L.out.mono ?_
  rintro e w1 ⟨he, bb⟩
  rw [HS.out] at he
  subst he
  have LX1 := hid (LX.out w1 bb)
  replace rA := rA.next bb
  replace bel := next_trans bel bb
  have cA : w1.cell? ⟨w.heap.size, 0, none⟩ = some (.slice A n c) := rA.cell 0
  clear bb LX L h h'
  go_wp2_with fail
  refine LX1.out.mono ?_
  rintro e w2 ⟨rfl, bb⟩
  have F := hid (next_trans bel bb)
  clear bb bel rA cA LX1
  go_wp2
  go_ret
  exact ⟨by rw [HT.out]; rfl, F.out⟩
end termText
end
section
open Go.Lib (hid)
namespace termText
open Go.RowKit base ints sig term arity endOf cursor termOk endAt marks app sym args depth termFacts text textL
set_option maxRecDepth 100000
def AnsTx (w : World) (p : Nat) (A : Option Addr) (n c : Nat) (A' : Option Addr) (m c' : Nat) (sg t : List Int) (k : Nat) (X : List UInt8) (e : Ending) (w' : World) : Prop :=
 e = .returned (.string (bs X)) ∧ w.grownBy w' (some p) ∧ Cur w' p A n c A' m c' sg t k
def HeadTi (w : World) (p : Nat) (A : Option Addr) (n c : Nat) (A' : Option Addr) (m c' : Nat) (sg t : List Int) (T f last : Nat) (Wd : List (List UInt8)) (out i : Value) (wr : World) : Prop :=
 ∃ (k q pp r : Nat) (ws : List (List UInt8)) (O : Option Addr) (oc : Nat), i = .int .i64 k ∧ out = .slice O k oc ∧ k + q = T ∧ ws ++ wordsOf sg t (txt sg t f) q pp = Wd ∧ scan sg q (t.drop pp) = some r ∧ pp + r = last ∧ r ≤ f ∧ OwnS wr w.heap.size (.slice O k oc) ws ∧ Cur wr p A n c A' m c' sg t pp ∧ w.grownBy wr (some p)
set_option maxHeartbeats 4000000 in
theorem implTxt (p : Nat) (A : Option Addr) (n c : Nat) (A' : Option Addr) (m c' : Nat) (sg t : List Int) (hsm : Small t) : ∀ (f a j : Nat) (w : World), Cur w p A n c A' m c' sg t a → scan sg 1 (t.drop a) = some j → j ≤ f → f ≤ 500 →
  Calls Tryd.prog 71 #[.pointer (some ⟨p, 0, none⟩)] w (AnsTx w p A n c A' m c' sg t (a + j) (txt sg t f a)) := by
 intro f
 induction f with
 | zero =>
  intro a j w _ hj hf _
  have := scan_pos (q := 0) hj
  omega
 | succ f ih =>
  intro a j w h hj hf hff
  have IH := hid ih
  clear ih
  have HL := hid h.s'.1
  have hs := h.ars
  have hp : p < w.heap.size := h.row.lt
  obtain ⟨r, hjr, hat, hneg, hr⟩ := scan_args hj
  have ham : a < m := by rw [← HL.out]; exact hat
  have hzb := ar_bd hs (t.getD a 0)
  have hsa := hsm a hat
  have hHl := hdT_len hsa
  obtain ⟨z, hz⟩ : ∃ z, ar sg (t.getD a 0) = z := ⟨_, rfl⟩
  have e1 : txt sg t (f + 1) a = hdT (t.getD a 0) ++ open_ (wordsOf sg t (txt sg t f) z.toNat (a + 1)) ++ shut_ (wordsOf sg t (txt sg t f) z.toNat (a + 1)) := by rw [← hz]; rfl
  rw [hz] at hneg hzb hr
  obtain ⟨T, rfl⟩ := Int.eq_ofNat_of_zero_le (show 0 ≤ z by omega)
  rw [Int.toNat_natCast] at e1 hr
  have hwb := words_le hs hsm (f := f) (by omega) _ _ _ hr (by omega)
  obtain ⟨Wd, hWd⟩ : ∃ z, wordsOf sg t (txt sg t f) T (a + 1) = z := ⟨_, rfl⟩
  rw [hWd] at e1 hwb
  have HWD := hid hWd
  have HWB := hid hwb
  have HTL := hid (fun p j h1 h2 => txt_len hs hsm f p j h1 h2)
  obtain ⟨b, off, x, rfl, hbb, hcx, ex⟩ := h.s'.spot ham
  rw [ex.out] at hsa hHl e1
  have HZ := hid (show ar sg (t.getD a 0) = (T : Int) from hz)
  have HE := hid e1
  have HR := hid hr
  have HJR := hid (show a + 1 + r = a + j ∧ r ≤ f by omega)
  have LH := hid (headText x w.drew hsa)
  have LN := hid (next p A n c (some ⟨b, off, none⟩) m c' sg t a w.drew (h.drewN 1))
  have c1 : w.cell? ⟨p, 1, none⟩ = some (.slice (some ⟨b, off, none⟩) m c') := h.row.cell 1
  have c2 : w.cell? ⟨p, 2, none⟩ = some (.int .i64 (a : Int)) := h.row.cell 2
  have i0 : (0 : Int) ≤ (a : Int) := by omega
  have i1 : (a : Int) < (m : Int) := by omega
  obtain ⟨Hd, hHd⟩ : ∃ z, hdT x = z := ⟨_, rfl⟩
  rw [hHd] at LH HE hHl
  clear hz e1 hj hs hneg hr hjr hat hWd hwb ex hHd h
  go_enter Tryd.func71, Tryd.ntmps71
  go_wp2_with fail
  go_region_held3 (fun w' => w'.cell? ⟨p, 1, none⟩ = some (.slice (some ⟨b, off, none⟩) m c') ∧ w'.cell? ⟨p, 2, none⟩ = some (.int .i64 (a : Int)) ∧ w'.cell? ⟨b, off + a, none⟩ = some (.int .i64 x))
   (go_keep)
   (first
    | (go_at_call 62; refine LH.out.mono ?_; rintro e w9 ⟨rfl, hw9⟩; subst hw9))
  clear c1 c2 hcx LH
  go_wp2_with fail
  refine LN.out.mono ?_
  rintro e w1 ⟨hg, ⟨-, he, hc⟩ | ⟨hk', -, -⟩⟩
  ·rw [HZ.out] at he
   subst he
   have hg0 : w.grownBy w1 (some p) := grown_trans (grown_below (Below.refl w.heap.size w).drew _) hg
   have S0 : HeadTi w p A n c (some ⟨b, off, none⟩) m c' sg t T f (a + j) Wd (.slice none 0 0) (.int .i64 0) w1 := ⟨0, T, a + 1, r, [], none, 0, rfl, rfl, by omega, by rw [List.nil_append]; exact HWD.out, HR.out, HJR.out.1, HJR.out.2, OwnS.nil _ _, hc, hg0⟩
   have HS := hid S0
   clear S0 hc hg hg0 LN
   go_wp2_with fail
   go_loopw [4, 18] (fun out i wr => HeadTi w p A n c (some ⟨b, off, none⟩) m c' sg t T f (a + j) Wd out i wr) (fun _ i _ => T - (intOf i).toNat)
   case atStart => exact HS.out
   case round =>
    obtain ⟨k, q, pp, r', ws, O, oc, rfl, rfl, hkq, hwd, hsc, hlast, hrf, ho, hcu, hgr⟩ := hrel
    clear HS
    cases q with
    | zero =>
     have hk : k = T := by omega
     subst hk
     rw [scan_zero] at hsc
     have hr0 : r' = 0 := by injection hsc with hsc; omega
     have hws : ws = Wd := by rw [← hwd]; simp [wordsOf]
     subst hws
     have hwl : ws.length = k := ho.at.1
     have hcl : Cur wr p A n c (some ⟨b, off, none⟩) m c' sg t (a + j) := by rw [← hlast, hr0]; exact hcu
     by_cases h0 : k = 0
     ·have hz : ws = [] := List.length_eq_zero_iff.1 (by omega)
      have F := hid (show AnsTx w p A n c (some ⟨b, off, none⟩) m c' sg t (a + j) (txt sg t (f + 1) a) (.returned (.string (bs Hd))) wr from ⟨by rw [HE.out, hz]; unfold open_ shut_; simp, hgr, hcl⟩)
      have EK : ((k : Int) == 0) = true := by rw [h0]; rfl
      clear ho hcu hgr hcl hwd hlast hkq h0 hz hwl
      go_wp2
      go_ret
      exact F.out
     ·have hz : ws ≠ [] := fun e => h0 (by rw [← hwl, e]; rfl)
      have hjl := join_bd (M := 4096) [44] ws HWB.out
      have h4 : ws.length * (4096 + [(44 : UInt8)].length) ≤ 3 * 4097 := Nat.mul_le_mul (by omega) (by simp)
      have LJ := hid (joinOwn O k oc ws [44] wr ho (by omega) HWB.out (by simp))
      obtain ⟨J, hJ⟩ : ∃ z, Lib.join ws [44] = z := ⟨_, rfl⟩
      rw [hJ] at LJ hjl
      have E := hid (show bs Hd ++ bs [40] ++ bs J ++ bs [41] = bs (txt sg t (f + 1) a) by
       rw [bs_app, bs_app, bs_app, HE.out]
       unfold open_ shut_
       rw [if_neg hz, if_neg hz, hJ]
       simp)
      have EK : ((k : Int) == 0) = false := by simp; omega
      have hHb : (bs Hd).size ≤ 3 := by rw [bs_size]; exact hHl
      have hJb : (bs J).size ≤ 20000 := by rw [bs_size]; omega
      have o1 : ¬ 9223372036854775807 < (bs Hd).size + 1 := by omega
      have o2 : ¬ 9223372036854775807 < (bs Hd).size + 1 + (bs J).size := by omega
      have o3 : ¬ 9223372036854775807 < (bs Hd).size + 1 + (bs J).size + 1 := by omega
      clear ho hwd hlast hkq h0 hz hwl hJ hjl h4 hcu
      go_wp2_with fail
      refine LJ.out.mono ?_
      rintro e w2 ⟨rfl, bb⟩
      have F := hid (show AnsTx w p A n c (some ⟨b, off, none⟩) m c' sg t (a + j) (txt sg t (f + 1) a) (.returned (.string (bs (txt sg t (f + 1) a)))) w2 from ⟨rfl, args_over hgr bb hgr.size, hcl.below bb⟩)
      clear bb hgr hcl LJ EK
      go_wp2
      go_ret
      have F2 := F.out
      rw [← E.out] at F2
      exact F2
    | succ q =>
     obtain ⟨jj, hj, hjp, hle, hsc'⟩ := scan_first hsc
     have hkT : k < T := by omega
     obtain ⟨X, hX⟩ : ∃ z, txt sg t f pp = z := ⟨_, rfl⟩
     have HX := hid hX
     have HJ := hid hj
     have HKQ := hid hkq
     have HWS := hid (show (ws ++ [X]) ++ wordsOf sg t (txt sg t f) q (pp + jj) = Wd by
      rw [← hwd]
      simp only [wordsOf, len1_eq hj, hX, List.append_assoc, List.singleton_append])
     have HSC := hid (show scan sg q (t.drop (pp + jj)) = some (r' - jj) ∧ pp + jj + (r' - jj) = a + j ∧ r' - jj ≤ f from ⟨hsc', by omega, by omega⟩)
     have hjf : jj ≤ f := by omega
     have hsz := hgr.size
     clear hX hj hkq hwd hsc hsc' hlast hle hjp
     go_wp2_with fail
     refine (IH.out pp jj _ hcu HJ.out hjf (by omega)).mono ?_
     rintro e w2 ⟨he, hg2, hc2⟩
     rw [HX.out] at he
     subst he
     have ho2 : OwnS w2 w.heap.size (.slice O k oc) ws := ho.far hg2 (fun g hgg => by injection hgg; omega)
     have hgr2 := grown_trans hgr hg2
     have hz2 := hgr2.size
     clear ho hg2 hgr hcu
     go_wp2_with (at_builtin; refine app1S rfl _ _ rfl w.heap.size O k oc ws rfl (ho2.next ((Below.refl _ _).alloc (Nat.le_refl _) _)) w2.heap.size 1 X rfl ((Row.new _ _ _).cell 0) (by omega) (by simp; omega) ?_; intro O' oc' w3 ho3 b3)
     have hcu3 : Cur w3 p A n c (some ⟨b, off, none⟩) m c' sg t (pp + jj) := Cur.keep (Cur.alloc hc2 _) (b3.mono hp)
     have hgr3 : w.grownBy w3 (some p) := args_over (args_over hgr2 ((Below.refl _ _).alloc (Nat.le_refl _) _) hz2) b3 (Nat.le_refl _)
     have S : HeadTi w p A n c (some ⟨b, off, none⟩) m c' sg t T f (a + j) Wd (.slice O' (k + 1) oc') (.int .i64 ((k : Int) + 1)) w3 :=
      ⟨k + 1, q, pp + jj, r' - jj, ws ++ [X], O', oc', by simp, rfl, by have := HKQ.out; omega, HWS.out, HSC.out.1, HSC.out.2.1, HSC.out.2.2, ho3, hcu3, hgr3⟩
     have HSS := hid S
     clear S ho2 ho3 hc2 hgr2 b3 hcu3 hgr3
     go_wp2
     go_roundw
     case rel => exact HSS.out
     case measure => simp [intOf]; omega
  ·omega
set_option maxHeartbeats 2000000 in
theorem implTermText0 (A A' : Option Addr) (n c m c' : Nat) (sg t : List Int) (w : World) (h : Seg w w.heap.size A n sg) (h' : Seg w w.heap.size A' m t) (hn : n ≤ 1048576) (hm : m ≤ 1048576) :
  Calls Tryd.prog 42 #[.agg #[.slice A n c], .slice A' m c'] w fun e w' => e = .returned (.string (bs (termT sg t))) ∧ Below w.heap.size w w' := by
 obtain ⟨W, hW⟩ : ∃ W, W = w.alloc (.cells #[.slice A n c] 28) := ⟨_, rfl⟩
 have bel : Below w.heap.size w W := by rw [hW]; exact (Below.refl _ _).alloc (Nat.le_refl _) _
 have zW := bel.size
 replace h := (h.below bel).more bel.size
 replace h' := (h'.below bel).more bel.size
 have HW := hid hW
 have HL := hid h'.1
 clear hW
 have L := hid (cursorAt A A' n c m c' sg t 0 W h h' hn hm)
 clear h h'
 go_enter Tryd.func42, Tryd.ntmps42
 go_wp2_with fail
 rw [← HW.out]
 refine L.out.mono ?_
 rintro e w1 ⟨bb, ⟨ht, p, rfl, hp, hc⟩ | ⟨ht, rfl⟩⟩
 ·replace bel := next_trans bel bb
  obtain ⟨hok, -, -⟩ := there_parts ht
  have HT := hid (show termT sg t = txt sg t m 0 by unfold termT; rw [if_pos hok, HL.out])
  have h60 : m ≤ 60 := by rw [← HL.out]; exact (term_len hok).2
  have hsc : scan sg 1 (t.drop 0) = some m := by rw [← HL.out]; exact (termOk_parts hok).2.2
  have LT := hid (implTxt p A n c A' m c' sg t (small_of hok) m 0 m w1 hc hsc (Nat.le_refl _) (by omega))
  clear ht bb L hok hsc hc
  go_wp2_with fail
  refine LT.out.mono ?_
  rintro e w2 ⟨rfl, hg, -⟩
  have F := hid (bel.grown hg bel.size (fun k hk => by injection hk; omega))
  clear hg bel LT
  go_wp2
  go_ret
  exact ⟨by rw [HT.out]; rfl, F.out⟩
 ·have hnok : termOkB sg t = false := by
   cases e : termOkB sg t with
   | false => rfl
   | true =>
    have h1 := (term_len e).1
    have h2 : thereB sg t 0 = true := there_yes e (by omega) (by omega)
    rw [h2] at ht
    cases ht
  have F := hid (show termT sg t = [] ∧ Below w.heap.size w w1 from ⟨by unfold termT; rw [if_neg (by rw [hnok]; simp)], next_trans bel bb⟩)
  clear bb bel ht L hnok
  go_wp2
  go_ret
  exact ⟨by rw [F.out.1]; rfl, F.out.2⟩
end termText
end
section
namespace varsMath
open term termOk
end varsMath
end
section
namespace sub
open Go.RowKit base ints marks app sym
end sub
end
section
namespace varsOf
open Go.RowKit base ints sig term termOk marks app sym sub segs varsMath termFacts
set_option maxRecDepth 100000
end varsOf
end
section
namespace varsOf
open Go.RowKit base ints sig term termOk marks app sym sub segs varsMath termFacts
set_option maxRecDepth 100000
end varsOf
end
section
namespace count
open Go.RowKit base ints sig term termOk
def cnt (t : List Int) (x : Int) (k : Nat) : Nat := (t.take k).count x
end count
end
section
namespace linear
open Go.RowKit base ints sig term termOk marks sym count varsMath termFacts varsOf
set_option maxRecDepth 100000
end linear
end
section
namespace fillMath
open sig term termOk termFacts varsMath
end fillMath
end
section
namespace renMath
open sig term termOk termFacts varsMath fillMath
def idx : List Int → Int → Nat
 | [], _ => 0
 | y :: r, x => if y = x then 0 else idx r x + 1
theorem idx_first : ∀ {o : List Int} {x : Int} {k : Nat}, k < o.length → (∀ j, j < k → o.getD j 0 ≠ x) → o.getD k 0 = x → idx o x = k
 | y :: r, x, 0, _, _, h => by
  have h : y = x := by simpa using h
  rw [idx, if_pos h]
 | y :: r, x, k + 1, hk, hl, h => by
  have h0 : ¬ y = x := by simpa using hl 0 (by omega)
  rw [idx, if_neg h0, idx_first (k := k) (by simpa using hk) (fun j hj => by simpa using hl (j + 1) (by omega)) (by simpa using h)]
end renMath
end
section
namespace ruleMath
open sig term termOk termFacts varsMath count linear renMath
abbrev Rl := List Int × List Int
def hd (t : List Int) : Int := t.getD 0 0
def newB (l : List Int) (x : Int) : Bool := decide (x < 0 ∧ x ∉ l)
def ruleOkB (sg : List Int) (r : Rl) : Bool := termOkB sg r.1 && (termOkB sg r.2 && (!decide (hd r.1 < 0) && !r.2.any (newB r.1)))
theorem rule_parts {sg : List Int} {r : Rl} (h : ruleOkB sg r = true) : termOkB sg r.1 = true ∧ termOkB sg r.2 = true ∧ 0 ≤ hd r.1 ∧ ∀ x, x ∈ r.2 → x < 0 → x ∈ r.1 := by
 unfold ruleOkB at h
 simp only [Bool.and_eq_true, Bool.not_eq_true', decide_eq_false_iff_not] at h
 refine ⟨h.1, h.2.1, by omega, fun x hx h0 => ?_⟩
 have h1 := h.2.2.2
 rw [List.any_eq_false] at h1
 have h2 := h1 x hx
 unfold newB at h2
 simp only [decide_eq_true_eq] at h2
 exact Classical.byContradiction fun hn => h2 ⟨h0, hn⟩
theorem lists_eq {rs rs' : List Rl} (hl : rs.length = rs'.length) (h : ∀ j, j < rs.length → rs.getD j ([], []) = rs'.getD j ([], [])) : rs = rs' :=
 List.ext_getElem hl fun j h1 h2 => by
  have := h j h1
  simpa [List.getD, h1, h2] using this
end ruleMath
end
section
open Go.Lib (hid)
namespace rename
open Go.RowKit base ints sig term termOk marks app sym segs termFacts varsMath varsOf renMath
set_option maxRecDepth 100000
theorem mem_of_get {t : List Int} {k : Nat} {x : Int} (hk : k < t.length) (hx : t.getD k 0 = x) : x ∈ t := by
 rw [← hx]
 simp [List.getD, hk]
theorem not_mem_of {t : List Int} {x : Int} (h : ∀ j, j < t.length → t.getD j 0 ≠ x) : x ∉ t := fun hx => by
 obtain ⟨j, hj, e⟩ := List.getElem_of_mem hx
 exact h j hj (by simp [List.getD, hj, e])
def HeadNo (n : Nat) (xs : List Int) (x : Int) (i : Value) : Prop := ∃ k : Nat, k ≤ n ∧ i = .int .i64 k ∧ ∀ j, j < k → xs.getD j 0 ≠ x
theorem headNo_step {n k : Nat} {xs : List Int} {x y : Int} (hk : k < n) (h : ∀ j, j < k → xs.getD j 0 ≠ x) (hy : Hid (xs.getD k 0 = y)) (hne : ¬ y = x) : HeadNo n xs x (.int .i64 ((k : Int) + 1)) :=
 ⟨k + 1, hk, by simp, fun j hj => by
  by_cases e : j = k
  ·subst e; rw [hy.out]; exact hne
  ·exact h j (by omega)⟩
set_option maxHeartbeats 1000000 in
theorem l1Has (A : Option Addr) (n c : Nat) (xs : List Int) (x : Int) (w : World) (h : Seg w w.heap.size A n xs) (hn : n ≤ 1048576) :
  Calls Tryd.prog 72 #[.slice A n c, .int .i64 x] w fun e w' => w = w' ∧ e = .returned (.bool (decide (x ∈ xs))) := by
 have HX := hid h.1
 go_enter Tryd.func72, Tryd.ntmps72
 go_wp2
 go_loop [5] (fun i => HeadNo n xs x i) (fun i => n - (intOf i).toNat)
 case atStart => exact ⟨0, Nat.zero_le _, rfl, fun j hj => absurd hj (Nat.not_lt_zero _)⟩
 case round =>
  obtain ⟨k, hk, rfl, hlow⟩ := hrel
  by_cases hlt : k < n
  ·obtain ⟨b, off, y, rfl, -, hy, ey⟩ := h.spot hlt
   by_cases he : y = x
   ·subst he
    have F := hid (show y ∈ xs from mem_of_get (by rw [HX.out]; exact hlt) ey.out)
    have e1 : (y == y) = true := by simp
    clear h ey hlow
    go_wp2
    go_ret
    exact ⟨rfl, by rw [decide_eq_true F.out]; rfl⟩
   ·have S := hid (headNo_step hlt hlow ey he)
    have e1 : (y == x) = false := by simp [he]
    clear h ey hlow
    go_wp2
    go_round
    case rel => exact S.out
    case measure => simp [intOf]; omega
  ·have F := hid (not_mem_of (t := xs) (x := x) (fun j hj => hlow j (by rw [HX.out] at hj; omega)))
   clear h hlow
   go_wp2
   go_ret
   exact ⟨rfl, by rw [decide_eq_false F.out]; rfl⟩
def indexI (xs : List Int) (x : Int) : Int := if x ∈ xs then (idx xs x : Int) else -1
set_option maxHeartbeats 1000000 in
theorem indexOf (A : Option Addr) (n c : Nat) (xs : List Int) (x : Int) (w : World) (h : Seg w w.heap.size A n xs) (hn : n ≤ 1048576) :
  Calls Tryd.prog 90 #[.slice A n c, .int .i64 x] w fun e w' => w = w' ∧ e = .returned (.int .i64 (indexI xs x)) := by
 have HX := hid h.1
 go_enter Tryd.func90, Tryd.ntmps90
 go_wp2
 go_loop [8] (fun i => HeadNo n xs x i) (fun i => n - (intOf i).toNat)
 case atStart => exact ⟨0, Nat.zero_le _, rfl, fun j hj => absurd hj (Nat.not_lt_zero _)⟩
 case round =>
  obtain ⟨k, hk, rfl, hlow⟩ := hrel
  by_cases hlt : k < n
  ·obtain ⟨b, off, y, rfl, -, hy, ey⟩ := h.spot hlt
   by_cases he : y = x
   ·subst he
    have F := hid (show indexI xs y = (k : Int) by
     have hkl : k < xs.length := by rw [HX.out]; exact hlt
     unfold indexI
     rw [if_pos (mem_of_get hkl ey.out), idx_first hkl hlow ey.out])
    have e1 : (y == y) = true := by simp
    clear h ey hlow
    go_wp2
    go_ret
    exact ⟨rfl, by rw [F.out]; rfl⟩
   ·have S := hid (headNo_step hlt hlow ey he)
    have e1 : (x == y) = false := by simp; exact fun e => he e.symm
    clear h ey hlow
    go_wp2
    go_round
    case rel => exact S.out
    case measure => simp [intOf]; omega
  ·have F := hid (show indexI xs x = -1 by unfold indexI; rw [if_neg (not_mem_of (fun j hj => hlow j (by rw [HX.out] at hj; omega)))])
   clear h hlow
   go_wp2
   go_ret
   exact ⟨rfl, by rw [F.out]; rfl⟩
end rename
end
section
namespace same
open Go.RowKit base ints
end same
end
section
open Go.Lib (hid)
namespace ruleSpec
open Go.RowKit renMath base ints sig term termOk marks app sym segs termFacts varsMath varsOf rename same count linear shape kindsR ruleMath
set_option maxRecDepth 100000
theorem box2 (w : World) (t t' : TypeId) (cs cs' : Array Value) : ∃ W, W = (w.alloc (.cells cs t)).alloc (.cells cs' t') ∧ Row W w.heap.size t cs ∧ Row W (w.heap.size + 1) t' cs' ∧ Below w.heap.size w W := by
 refine ⟨_, rfl, ?_, ?_, ?_⟩
 ·have := (Row.new w t cs).alloc (.cells cs' t'); simpa using this
 ·have := Row.new (w.alloc (.cells cs t)) t' cs'; simpa using this
 ·exact ((Below.refl _ _).alloc (Nat.le_refl _) _).alloc (by simp) _
theorem len_ints {xs : List Int} {n : Nat} (hl : xs.length = n) (h : sz sI xs ≤ 1048576) : n ≤ 1048576 := by rw [sz_ints, hl] at h; exact h
theorem rule_szs {d : Dat sRule} (h : sz sRule d ≤ 1048576) : sz sI d.1 ≤ 1048576 ∧ sz sI d.2 ≤ 1048576 := by
 simp only [sz] at h ⊢
 omega
theorem rd_rule {w : World} {B : Nat} {l r : Value} {d : Dat sRule} (h : Rd w B sRule [l, r] d) (hz : sz sRule d ≤ 1048576) : ∃ A n c A' n' c', l = .slice A n c ∧ r = .slice A' n' c' ∧ Seg w B A n d.1 ∧ Cap A n c ∧ Seg w B A' n' d.2 ∧ Cap A' n' c' ∧ n ≤ 1048576 ∧ n' ≤ 1048576 := by
 obtain ⟨g0, g1⟩ := parts_Rule h
 obtain ⟨z0, z1⟩ := rule_szs hz
 obtain ⟨A, n, c, e, h1, h2⟩ := rd_ints.1 g0
 obtain ⟨A', n', c', e', h3, h4⟩ := rd_ints.1 g1
 exact ⟨A, n, c, A', n', c', e, e', h1, h2, h3, h4, len_ints h1.1 z0, len_ints h3.1 z1⟩
theorem rule_noL {sg : List Int} {d : Rl} (h : termOkB sg d.1 = false) : ruleOkB sg d = false := by unfold ruleOkB; rw [h]; rfl
theorem rule_noR {sg : List Int} {d : Rl} (h : termOkB sg d.2 = false) : ruleOkB sg d = false := by unfold ruleOkB; rw [h]; simp
theorem rule_var {sg : List Int} {d : Rl} (h : hd d.1 < 0) : ruleOkB sg d = false := by unfold ruleOkB; rw [decide_eq_true h]; simp
theorem rule_new {sg : List Int} {d : Rl} {x : Int} (hx : x ∈ d.2) (h0 : x < 0) (hn : x ∉ d.1) : ruleOkB sg d = false := by
 unfold ruleOkB
 have : d.2.any (newB d.1) = true := List.any_eq_true.2 ⟨x, hx, by unfold newB; exact decide_eq_true ⟨h0, hn⟩⟩
 rw [this]; simp
theorem rule_yes {sg : List Int} {d : Rl} {n : Nat} (h1 : termOkB sg d.1 = true) (h2 : termOkB sg d.2 = true) (h0 : ¬ hd d.1 < 0) (hl : d.2.length = n) (h : ∀ j, j < n → newB d.1 (d.2.getD j 0) = false) : ruleOkB sg d = true := by
 unfold ruleOkB
 have : d.2.any (newB d.1) = false := by
  rw [List.any_eq_false]
  intro x hx
  obtain ⟨i, hi, rfl⟩ := List.getElem_of_mem hx
  have := h i (by omega)
  have e : d.2.getD i 0 = d.2[i] := by simp [List.getD, hi]
  rw [e] at this; simp [this]
 rw [this, h1, h2, decide_eq_false h0]; rfl
def HeadRu (w : World) (T : TypeId) (cs : Array Value) (n : Nat) (d : Rl) (i : Value) (wr : World) : Prop :=
 ∃ k : Nat, k ≤ n ∧ i = .int .i64 k ∧ (∀ j, j < k → newB d.1 (d.2.getD j 0) = false) ∧ Row wr (w.heap.size + 1) T cs ∧ Below w.heap.size w wr
theorem headRu_step {w wr : World} {T : TypeId} {cs : Array Value} {n k : Nat} {d : Rl} {x : Int} (hk : k < n) (hlow : ∀ j, j < k → newB d.1 (d.2.getD j 0) = false) (ex : Hid (d.2.getD k 0 = x)) (h : ¬ x < 0 ∨ x ∈ d.1) (hr : Row wr (w.heap.size + 1) T cs) (hb : Below w.heap.size w wr) : HeadRu w T cs n d (.int .i64 ((k : Int) + 1)) wr :=
 ⟨k + 1, hk, by simp, fun j hj => by
  by_cases e : j = k
  ·subst e
   rw [ex.out]; unfold newB
   exact decide_eq_false fun hh => by rcases h with h | h; exact h hh.1; exact hh.2 h
  ·exact hlow j (by omega), hr, hb⟩
set_option maxHeartbeats 4000000 in
theorem specRuleOk (a l r : Value) (sg : List Int) (d : Dat sRule) (w : World) (h : Rd w w.heap.size sI [a] sg) (h' : Rd w w.heap.size sRule [l, r] d) (hz : sz sI sg ≤ 1048576) (hz' : sz sRule d ≤ 1048576) :
  Calls Tryd.prog 43 #[.agg #[a], .agg #[l, r]] w (AnsB w (ruleOkB sg d)) := by
 obtain ⟨A, n, c, rfl, hs, hc⟩ := rd_ints.1 h
 have hn := len_ints hs.1 hz
 obtain ⟨A1, n1, c1, A2, n2, c2, rfl, rfl, s1, k1, s2, k2, hn1, hn2⟩ := rd_rule h' hz'
 obtain ⟨W, hW, rA, rR, bel⟩ := box2 w 28 39 #[.slice A n c] #[.slice A1 n1 c1, .slice A2 n2 c2]
 have HW := hid hW
 have HL1 := hid s1.1
 have HL2 := hid s2.1
 have L1 := hid (specTermOk A A1 n c n1 c1 sg d.1 W (hs.next bel) (s1.next bel) hn hn1)
 have L2 := hid (fun (w1 : World) (bb : Below w.heap.size w w1) => specTermOk A A2 n c n2 c2 sg d.2 w1 (hs.next bb) (s2.next bb) hn hn2)
 clear hW h h' hz hz' hs hc k1 k2
 cases ok1 : termOkB sg d.1 with
 | false =>
  have HS := hid ok1
  clear ok1 s1 s2
  go_enter Tryd.func43, Tryd.ntmps43
  go_wp2_with fail
  rw [← HW.out]
  refine L1.out.mono ?_
  rintro e w1 ⟨he, bb⟩
  rw [HS.out] at he
  subst he
  have F := hid (ansB (b := ruleOkB sg d) (a := false) (by rw [rule_noL HS.out]) (next_trans bel bb))
  clear bb bel rA rR
  go_wp2
  go_ret
  exact F.out
 | true =>
  have hp1 := (term_len ok1).1
  rw [s1.1] at hp1
  obtain ⟨b, off, x, rfl, hbB, hx, ex⟩ := s1.spot (k := 0) (by omega)
  have HS := hid ok1
  have EX := hid (show hd d.1 = x from ex.out)
  have i0 : (0 : Int) < (n1 : Int) := by omega
  clear ok1 ex
  go_enter Tryd.func43, Tryd.ntmps43
  go_wp2_with fail
  rw [← HW.out]
  refine L1.out.mono ?_
  rintro e w1 ⟨he, bb⟩
  rw [HS.out] at he
  subst he
  replace rA := rA.next bb
  replace rR := rR.next bb
  replace bel := next_trans bel bb
  have cA : w1.cell? ⟨w.heap.size, 0, none⟩ = some (.slice A n c) := rA.cell 0
  have cR : w1.cell? ⟨w.heap.size + 1, 1, none⟩ = some (.slice A2 n2 c2) := rR.cell 1
  clear bb L1
  go_wp2_with fail
  refine (L2.out w1 bel).mono ?_
  cases ok2 : termOkB sg d.2 with
  | false =>
   have HS2 := hid ok2
   clear ok2
   rintro e w2 ⟨he, bb⟩
   rw [HS2.out] at he
   subst he
   have F := hid (ansB (b := ruleOkB sg d) (a := false) (by rw [rule_noR HS2.out]) (next_trans bel bb))
   clear bb bel rA rR cA cR s1 s2
   go_wp2
   go_ret
   exact F.out
  | true =>
   have HS2 := hid ok2
   clear ok2
   rintro e w2 ⟨he, bb⟩
   rw [HS2.out] at he
   subst he
   replace rR := rR.next bb
   replace bel := next_trans bel bb
   have cR0 : w2.cell? ⟨w.heap.size + 1, 0, none⟩ = some (.slice (some ⟨b, off, none⟩) n1 c1) := rR.cell 0
   have cX : w2.cell? ⟨b, off, none⟩ = some (.int .i64 x) := by have := (bel.cell (p := ⟨b, off + 0, none⟩) hbB).trans hx; simpa using this
   clear bb rA cA cR L2
   by_cases hneg : x < 0
   ·have F := hid (ansB (b := ruleOkB sg d) (a := false) (by rw [rule_var (by rw [EX.out]; exact hneg)]) bel)
    have hdx : decide (x < 0) = true := decide_eq_true hneg
    clear bel rR s1 s2
    go_wp2
    go_ret
    exact F.out
   ·have hdx : decide (x < 0) = false := decide_eq_false hneg
    have H0 : Hid (HeadRu w 39 #[.slice (some ⟨b, off, none⟩) n1 c1, .slice A2 n2 c2] n2 d (.int .i64 0) w2) := hid ⟨0, Nat.zero_le _, rfl, fun j hj => absurd hj (Nat.not_lt_zero _), rR, bel⟩
    clear bel rR
    go_wp2_with fail
    go_loopw [5] (fun i wr => HeadRu w 39 #[.slice (some ⟨b, off, none⟩) n1 c1, .slice A2 n2 c2] n2 d i wr) (fun i _ => n2 - (intOf i).toNat)
    case atStart => exact H0.out
    case round =>
     obtain ⟨k, hk, rfl, hlow, rr, hb⟩ := hrel
     have HLOW := hid hlow
     clear hlow H0
     have cR0 : wr.cell? ⟨w.heap.size + 1, 0, none⟩ = some (.slice (some ⟨b, off, none⟩) n1 c1) := rr.cell 0
     have cR1 : wr.cell? ⟨w.heap.size + 1, 1, none⟩ = some (.slice A2 n2 c2) := rr.cell 1
     by_cases hlt : k < n2
     ·obtain ⟨b2, off2, y, rfl, hbB2, hy, ey⟩ := s2.spot hlt
      have hy1 : wr.cell? ⟨b2, off2 + k, none⟩ = some (.int .i64 y) := (hb.cell (p := ⟨b2, off2 + k, none⟩) hbB2).trans hy
      have hmem := mem_of_get (by rw [HL2.out]; exact hlt) ey.out
      have j0 : (0 : Int) ≤ (k : Int) := by omega
      have j1 : (k : Int) < (n2 : Int) := by omega
      have LH := hid (fun d' : Nat => l1Has (some ⟨b, off, none⟩) n1 c1 d.1 y (wr.drewN d') (((s1.next hb).drewN d')) hn1)
      by_cases hyn : y < 0
      ·have hdy : decide (y < 0) = true := decide_eq_true hyn
       by_cases hin : y ∈ d.1
       ·have E := hid (decide_eq_true hin)
        have S := hid (fun d' : Nat => headRu_step (w := w) (wr := wr.drewN d') hlt HLOW.out ey (.inr hin) (rr.drewN d') (below_drewN hb d'))
        clear s1 s2 rr hb hmem hin hy ey
        go_wp2_with fail
        go_quiet ((go_at_call 72; exact Calls.quiet_of_same (v := .bool true) ((LH.out _).mono fun _ _ ⟨h1, h2⟩ => ⟨by rw [h2, E.out], h1.symm⟩)))
        go_wp2
        go_roundw
        case rel => exact S.out _
        case measure => simp [intOf]; omega
       ·have E := hid (decide_eq_false hin)
        have F := hid (fun d' : Nat => ansB (w' := wr.drewN d') (b := ruleOkB sg d) (a := false) (by rw [rule_new hmem hyn hin]) (below_drewN hb d'))
        clear s1 s2 rr hb hmem hin hy ey
        go_wp2_with fail
        go_quiet ((go_at_call 72; exact Calls.quiet_of_same (v := .bool false) ((LH.out _).mono fun _ _ ⟨h1, h2⟩ => ⟨by rw [h2, E.out], h1.symm⟩)))
        go_wp2
        go_ret
        exact F.out _
      ·have S := hid (fun d' : Nat => headRu_step (w := w) (wr := wr.drewN d') hlt HLOW.out ey (.inl hyn) (rr.drewN d') (below_drewN hb d'))
       have hdy : decide (y < 0) = false := decide_eq_false hyn
       clear s1 s2 rr hb hmem hy ey
       go_wp2_with fail
       go_quiet (fail)
       go_wp2
       go_roundw
       case rel => exact S.out _
       case measure => simp [intOf]; omega
     ·have F := hid (ansB (b := ruleOkB sg d) (a := true) (by rw [rule_yes HS.out HS2.out (by rw [EX.out]; omega) HL2.out (fun j hj => HLOW.out j (by omega))]) hb)
      clear s1 s2 rr hb
      go_wp2
      go_ret
      exact F.out
end ruleSpec
end
section
open Go.Lib (hid)
namespace anyR
open Go.RowKit base ints sig segs varsOf shape kindsR ruleMath
set_option maxRecDepth 100000
theorem any_of {α : Type} [Inhabited α] {f : α → Bool} {xs : List α} {k : Nat} {x z : α} (hk : k < xs.length) (ex : xs.getD k z = x) (h : f x = true) : xs.any f = true := by
 rw [List.any_eq_true]
 refine ⟨xs[k], List.getElem_mem hk, ?_⟩
 have : xs.getD k z = xs[k] := by simp [List.getD, hk]
 rw [← this, ex]; exact h
theorem none_of {α : Type} {f : α → Bool} {xs : List α} {z : α} (h : ∀ j, j < xs.length → f (xs.getD j z) = false) : xs.any f = false := by
 rw [List.any_eq_false]
 intro x hx
 obtain ⟨i, hi, rfl⟩ := List.getElem_of_mem hx
 have := h i hi
 simpa [List.getD, hi] using this
theorem mem_at {α : Type} {xs : List α} {k : Nat} {x z : α} (hk : k < xs.length) (ex : xs.getD k z = x) : x ∈ xs := by
 have : xs.getD k z = xs[k] := by simp [List.getD, hk]
 rw [← ex, this]; exact List.getElem_mem hk
def TestsI (g : Nat) (fa lb : Array Value) (w : World) (xs : List Int) (f : Int → Bool) : Prop := ∀ (W : World) (x : Int), Below w.heap.size w W → x ∈ xs → Calls Tryd.prog g (fa ++ #[.int .i64 x] ++ lb) W (AnsB W (f x))
def AnsIxI (w : World) (f : Int → Bool) (xs : List Int) (e : Ending) (w' : World) : Prop := ∃ z : Int, e = .returned (.int .i64 z) ∧ -1 ≤ z ∧ z ≤ 1048576 ∧ decide (0 ≤ z) = xs.any f ∧ Below w.heap.size w w'
def HeadIxI (w : World) (n : Nat) (f : Int → Bool) (xs : List Int) (i : Value) (wr : World) : Prop := ∃ k : Nat, k ≤ n ∧ i = .int .i64 k ∧ (∀ j, j < k → f (xs.getD j 0) = false) ∧ Below w.heap.size w wr
set_option maxHeartbeats 2000000 in
theorem indexFuncI (g : Nat) (fa lb : Array Value) (eg : ∀ args w, (callFunc g args).run Tryd.prog w = .ok (.enter g args) w) (f : Int → Bool) (A : Option Addr) (n c : Nat) (xs : List Int) (w : World) (hT : TestsI g fa lb w xs f)
  (h : Rd w w.heap.size sI [.slice A n c] xs) (hl : xs.length = n) (hn : n ≤ 1048576) :
  Calls Tryd.prog 91 #[.slice A n c, .func (.func g) fa lb] w (AnsIxI w f xs) := by
 have HL := hid hl
 have HK := hid hT
 have HR := hid h
 have HH : Hid (HeadIxI w n f xs (.int .i64 0) w) := hid ⟨0, Nat.zero_le _, rfl, fun j hj => absurd hj (Nat.not_lt_zero _), Below.refl _ _⟩
 clear hT h hl
 go_enter Tryd.func91, Tryd.ntmps91
 go_wp2_with fail
 go_loopw [8] (fun i wr => HeadIxI w n f xs i wr) (fun i _ => n - (intOf i).toNat)
 case atStart => exact HH.out
 case round =>
  obtain ⟨k, hk, rfl, hlow, hb⟩ := hrel
  have HLOW := hid hlow
  clear hlow HH
  by_cases hlt : k < n
  ·have hkD : k < xs.length := by rw [HL.out]; exact hlt
   obtain ⟨b, off, x, rfl, hbB, hx0, ex⟩ := HR.out.seg.spot hlt
   have hx : wr.cell? ⟨b, off + k, none⟩ = some (.int .i64 x) := (hb.cell (p := ⟨b, off + k, none⟩) hbB).trans hx0
   have hcall := HK.out wr x hb (mem_at hkD ex.out)
   obtain ⟨v, hv⟩ : ∃ v, f x = v := ⟨_, rfl⟩
   rw [hv] at hcall
   have HV := hid hv
   have HC := hid hcall
   have i0 : (0 : Int) ≤ (k : Int) := by omega
   have i1 : (k : Int) < (n : Int) := by omega
   clear hv hcall
   cases v with
   | true =>
    go_wp2_with (first
     | (go_at_fn g; refine HC.out.mono ?_; rintro e w1 ⟨rfl, bb⟩))
    have F : AnsIxI w f xs (.returned (.int .i64 (k : Int))) w1 := ⟨k, rfl, by omega, by omega, by rw [decide_eq_true (by omega)]; exact (any_of hkD ex.out HV.out).symm, next_trans hb bb⟩
    have HF := hid F
    clear F bb hb HC
    go_wp2
    go_ret
    exact HF.out
   | false =>
    go_wp2_with (first
     | (go_at_fn g; refine HC.out.mono ?_; rintro e w1 ⟨rfl, bb⟩))
    have S1 : HeadIxI w n f xs (.int .i64 ((k : Int) + 1)) w1 := ⟨k + 1, hlt, by simp, fun j hj => by
     by_cases e : j = k
     ·rw [e, ex.out]; exact HV.out
     ·exact HLOW.out j (by omega), next_trans hb bb⟩
    have HS1 := hid S1
    clear S1 bb hb HC
    go_wp2
    go_roundw
    case rel => exact HS1.out
    case measure => simp [intOf]; omega
  ·have F : AnsIxI w f xs (.returned (.int .i64 (-1))) wr := ⟨-1, rfl, by omega, by omega, (none_of (fun j hj => HLOW.out j (by rw [HL.out] at hj; omega))).symm, hb⟩
   have HF := hid F
   clear F hb
   go_wp2
   go_ret
   exact HF.out
theorem containsFuncI (g : Nat) (fa lb : Array Value) (eg : ∀ args w, (callFunc g args).run Tryd.prog w = .ok (.enter g args) w) (f : Int → Bool) (A : Option Addr) (n c : Nat) (xs : List Int) (w : World) (hT : TestsI g fa lb w xs f)
  (h : Rd w w.heap.size sI [.slice A n c] xs) (hl : xs.length = n) (hn : n ≤ 1048576) :
  Calls Tryd.prog 75 #[.slice A n c, .func (.func g) fa lb] w (AnsB w (xs.any f)) := by
 have L := hid (indexFuncI g fa lb eg f A n c xs w hT h hl hn)
 clear h hl hT
 go_enter Tryd.func75, Tryd.ntmps75
 go_wp2_with fail
 refine L.out.mono ?_
 rintro e w' ⟨z, rfl, h1, h2, hz, bb⟩
 have HZ := hid hz
 have HB := hid bb
 clear hz L bb
 go_wp2
 go_ret
 exact ⟨by rw [← HZ.out]; rfl, HB.out⟩
end anyR
end
section
open Go.Lib (hid)
namespace ruleImpl
open Go.RowKit base ints sig term termOk marks app sym segs termFacts varsMath varsOf rename same count linear shape kindsR ruleMath ruleSpec anyR
set_option maxRecDepth 100000
theorem containsI (A : Option Addr) (n c : Nat) (xs : List Int) (x : Int) (w : World) (h : Seg w w.heap.size A n xs) (hn : n ≤ 1048576) :
  Calls Tryd.prog 74 #[.slice A n c, .int .i64 x] w fun e w' => w = w' ∧ e = .returned (.bool (decide (x ∈ xs))) := by
 have L := hid (indexOf A n c xs x w h hn)
 clear h
 go_enter Tryd.func74, Tryd.ntmps74
 go_wp2_with fail
 refine L.out.mono ?_
 rintro e w' ⟨rfl, rfl⟩
 have E : decide (0 ≤ indexI xs x) = decide (x ∈ xs) := decide_eq_decide.2 (by unfold indexI; split <;> simp_all)
 have HE := hid E
 clear L E
 generalize indexI xs x = z at *
 go_wp2
 go_ret
 exact ⟨rfl, by rw [← HE.out]; rfl⟩
set_option maxHeartbeats 1000000 in
theorem ruleNew (g : Nat) (A1 : Option Addr) (n1 c1 : Nat) (r : Value) (t : List Int) (x : Int) (W : World) (hr : Row W g 39 #[.slice A1 n1 c1, r]) (h : Seg W W.heap.size A1 n1 t) (hn : n1 ≤ 1048576) :
  Calls Tryd.prog 73 #[.int .i64 x, .pointer (some ⟨g, 0, none⟩)] W (AnsB W (newB t x)) := by
 have L := hid (containsI A1 n1 c1 t x W h hn)
 have c0 : W.cell? ⟨g, 0, none⟩ = some (.slice A1 n1 c1) := hr.cell 0
 clear h hr
 by_cases hx : x < 0
 ·have hd : decide (x < 0) = true := decide_eq_true hx
  have E : (!decide (x ∈ t)) = newB t x := by unfold newB; by_cases h : x ∈ t <;> simp [h, hx]
  have HE := hid E
  clear E
  go_enter Tryd.func73, Tryd.ntmps73
  go_wp2_with fail
  refine L.out.mono ?_
  rintro e w' ⟨rfl, rfl⟩
  have F : AnsB W (newB t x) (.returned (.bool (!decide (x ∈ t)))) W := ⟨by rw [HE.out], Below.refl _ _⟩
  have HF := hid F
  clear L F
  generalize decide (x ∈ t) = z at *
  go_wp2
  go_ret
  exact HF.out
 ·have hd : decide (x < 0) = false := decide_eq_false hx
  have F : AnsB W (newB t x) (.returned (.bool false)) W := ⟨by unfold newB; rw [decide_eq_false (fun h => hx h.1)], Below.refl _ _⟩
  have HF := hid F
  clear F L
  go_enter Tryd.func73, Tryd.ntmps73
  go_wp2
  go_ret
  exact HF.out
theorem rule_all {sg : List Int} {d : Rl} (h1 : termOkB sg d.1 = true) (h2 : termOkB sg d.2 = true) (h0 : ¬ hd d.1 < 0) : ruleOkB sg d = !d.2.any (newB d.1) := by
 unfold ruleOkB; rw [h1, h2, decide_eq_false h0]; rfl
set_option maxHeartbeats 4000000 in
theorem implRuleOk (a l r : Value) (sg : List Int) (d : Dat sRule) (w : World) (h : Rd w w.heap.size sI [a] sg) (h' : Rd w w.heap.size sRule [l, r] d) (hz : sz sI sg ≤ 1048576) (hz' : sz sRule d ≤ 1048576) :
  Calls Tryd.prog 44 #[.agg #[a], .agg #[l, r]] w (AnsB w (ruleOkB sg d)) := by
 have g1 := (parts_Rule h').2
 obtain ⟨A, n, c, rfl, hs, hc⟩ := rd_ints.1 h
 have hn := len_ints hs.1 hz
 obtain ⟨A1, n1, c1, A2, n2, c2, rfl, rfl, s1, k1, s2, k2, hn1, hn2⟩ := rd_rule h' hz'
 obtain ⟨W, hW, rA, rR, bel⟩ := box2 w 28 39 #[.slice A n c] #[.slice A1 n1 c1, .slice A2 n2 c2]
 have HW := hid hW
 have HL1 := hid s1.1
 have HL2 := hid s2.1
 have L1 := hid (implTermOk A A1 n c n1 c1 sg d.1 W (hs.next bel) (s1.next bel) hn hn1)
 have L2 := hid (fun (w1 : World) (bb : Below w.heap.size w w1) => implTermOk A A2 n c n2 c2 sg d.2 w1 (hs.next bb) (s2.next bb) hn hn2)
 have LC := hid (fun (w1 : World) (bb : Below w.heap.size w w1) (hr : Row w1 (w.heap.size + 1) 39 #[.slice A1 n1 c1, .slice A2 n2 c2]) => containsFuncI 73 #[] #[.pointer (some ⟨w.heap.size + 1, 0, none⟩)] (fun _ _ => rfl) (newB d.1) A2 n2 c2 d.2 w1
  (fun W x hW _ => ruleNew (w.heap.size + 1) A1 n1 c1 (.slice A2 n2 c2) d.1 x W (hr.next hW) (s1.next (next_trans bb hW)) hn1) (g1.next bb) s2.1 hn2)
 clear hW h h' hz hz' hs hc k1 k2 g1
 cases ok1 : termOkB sg d.1 with
 | false =>
  have HS := hid ok1
  clear ok1 s1 s2
  go_enter Tryd.func44, Tryd.ntmps44
  go_wp2_with fail
  rw [← HW.out]
  refine L1.out.mono ?_
  rintro e w1 ⟨he, bb⟩
  rw [HS.out] at he
  subst he
  have F := hid (ansB (b := ruleOkB sg d) (a := false) (by rw [rule_noL HS.out]) (next_trans bel bb))
  clear bb bel rA rR
  go_wp2
  go_ret
  exact F.out
 | true =>
  have hp1 := (term_len ok1).1
  rw [s1.1] at hp1
  obtain ⟨b, off, x, rfl, hbB, hx, ex⟩ := s1.spot (k := 0) (by omega)
  have HS := hid ok1
  have EX := hid (show hd d.1 = x from ex.out)
  have i0 : (0 : Int) < (n1 : Int) := by omega
  clear ok1 ex
  go_enter Tryd.func44, Tryd.ntmps44
  go_wp2_with fail
  rw [← HW.out]
  refine L1.out.mono ?_
  rintro e w1 ⟨he, bb⟩
  rw [HS.out] at he
  subst he
  replace rA := rA.next bb
  replace rR := rR.next bb
  replace bel := next_trans bel bb
  have cA : w1.cell? ⟨w.heap.size, 0, none⟩ = some (.slice A n c) := rA.cell 0
  have cR : w1.cell? ⟨w.heap.size + 1, 1, none⟩ = some (.slice A2 n2 c2) := rR.cell 1
  clear bb L1
  go_wp2_with fail
  refine (L2.out w1 bel).mono ?_
  cases ok2 : termOkB sg d.2 with
  | false =>
   have HS2 := hid ok2
   clear ok2
   rintro e w2 ⟨he, bb⟩
   rw [HS2.out] at he
   subst he
   have F := hid (ansB (b := ruleOkB sg d) (a := false) (by rw [rule_noR HS2.out]) (next_trans bel bb))
   clear bb bel rA rR cA cR s1 s2
   go_wp2
   go_ret
   exact F.out
  | true =>
   have HS2 := hid ok2
   clear ok2
   rintro e w2 ⟨he, bb⟩
   rw [HS2.out] at he
   subst he
   replace rR := rR.next bb
   replace bel := next_trans bel bb
   have cR0 : w2.cell? ⟨w.heap.size + 1, 0, none⟩ = some (.slice (some ⟨b, off, none⟩) n1 c1) := rR.cell 0
   have cX : w2.cell? ⟨b, off, none⟩ = some (.int .i64 x) := by have := (bel.cell (p := ⟨b, off + 0, none⟩) hbB).trans hx; simpa using this
   clear bb rA cA cR L2
   by_cases hneg : x < 0
   ·have F := hid (ansB (b := ruleOkB sg d) (a := false) (by rw [rule_var (by rw [EX.out]; exact hneg)]) bel)
    have hdx : decide (x < 0) = true := decide_eq_true hneg
    clear bel rR s1 s2 LC
    go_wp2
    go_ret
    exact F.out
   ·have hdx : decide (x < 0) = false := decide_eq_false hneg
    have cR1 : w2.cell? ⟨w.heap.size + 1, 1, none⟩ = some (.slice A2 n2 c2) := rR.cell 1
    have LC2 := hid (LC.out w2 bel rR)
    have hmf : ∀ (fn : Fn) (first cap : Array Value) (w : World), (Instr.makeFunc fn first cap).run Tryd.prog w = .ok (.func fn first cap) w := fun _ _ _ _ => rfl
    have E := hid (rule_all HS.out HS2.out (by rw [EX.out]; exact hneg))
    clear LC s1 s2
    go_wp2_with fail
    refine LC2.out.mono ?_
    obtain ⟨z, hzz⟩ : ∃ z, d.2.any (newB d.1) = z := ⟨_, rfl⟩
    rw [hzz] at E
    rintro e w3 ⟨he, bb⟩
    rw [hzz] at he
    subst he
    have F := hid (ansB (b := ruleOkB sg d) (a := !z) E.out.symm (next_trans bel bb))
    clear bb bel rR cR0 cR1 cX LC2 E hzz
    go_wp2
    go_ret
    exact F.out
end ruleImpl
end
section
open Go.Lib (hid)
namespace ruleText
open Go.RowKit base ints sig term endOf termOk endAt marks app sym kinds termFacts shape kindsR varsOf text textL termText ruleMath ruleSpec ruleImpl
set_option maxRecDepth 100000
theorem termT_len (sg t : List Int) : (termT sg t).length ≤ 420 := by
 unfold termT
 split
 ·rename_i h
  have h1 := (term_len h).2
  have h2 := txt_len (sig_arities (termOk_parts h).1).1 (small_of h) t.length 0 t.length (termOk_parts h).2.2 (Nat.le_refl _)
  omega
 ·simp
def ruleT (sg : List Int) (d : Rl) : List UInt8 := if ruleOkB sg d = true then termT sg d.1 ++ [32, 45, 62, 32] ++ termT sg d.2 else []
set_option maxHeartbeats 2000000 in
theorem specRuleText (a l r : Value) (sg : Dat sSig) (d : Dat sRule) (w : World) (h : Rd w w.heap.size sSig [a] sg) (h' : Rd w w.heap.size sRule [l, r] d) (hz : sz sSig sg ≤ 1048576) (hz' : sz sRule d ≤ 1048576) :
  Calls Tryd.prog 18 #[.agg #[a], .agg #[l, r]] w fun e w' => e = .returned (.string (bs (ruleT sg d))) ∧ Below w.heap.size w w' := by
 have h0 : Rd w w.heap.size sI [a] sg := h
 have hz0 : sz sI sg ≤ 1048576 := hz
 obtain ⟨A, n, c, rfl, hA, -⟩ := rd_ints.1 h0
 have hn : n ≤ 1048576 := by have h1 := hA.1; rw [sz_ints] at hz0; omega
 obtain ⟨W, hW, rA, rR, bel⟩ := box2 w 28 39 #[.slice A n c] #[l, r]
 have LO := hid (specRuleOk (.slice A n c) l r sg d W (h0.next bel) (h'.next bel) hz0 hz')
 obtain ⟨A1, n1, c1, A2, n2, c2, rfl, rfl, s1, k1, s2, k2, hn1, hn2⟩ := rd_rule h' hz'
 have HW := hid hW
 clear hW h h' hz hz' h0 k1 k2
 cases ok : ruleOkB sg d with
 | false =>
  have HS := hid ok
  have HT := hid (show ruleT sg d = [] by unfold ruleT; rw [if_neg (by rw [ok]; simp)])
  clear ok hA s1 s2
  go_enter Tryd.func18, Tryd.ntmps18
  go_wp2_with fail
  rw [← HW.out]
  refine LO.out.mono ?_
  rintro e w1 ⟨he, bb⟩
  rw [HS.out] at he
  subst he
  have F := hid (next_trans bel bb)
  clear bb bel rA rR LO
  go_wp2
  go_ret
  exact ⟨by rw [HT.out]; rfl, F.out⟩
 | true =>
  have HS := hid ok
  obtain ⟨p1, p2, -, -⟩ := rule_parts ok
  have HT := hid (show ruleT sg d = termT sg d.1 ++ [32, 45, 62, 32] ++ termT sg d.2 by unfold ruleT; rw [if_pos ok])
  obtain ⟨X, hX⟩ : ∃ z, termT sg d.1 = z := ⟨_, rfl⟩
  obtain ⟨Y, hY⟩ : ∃ z, termT sg d.2 = z := ⟨_, rfl⟩
  have hXl : X.length ≤ 420 := by rw [← hX]; exact termT_len sg d.1
  have hYl : Y.length ≤ 420 := by rw [← hY]; exact termT_len sg d.2
  rw [hX, hY] at HT
  have LT1 := hid (fun (w1 : World) (bb : Below w.heap.size w w1) => specTermText0 A A1 n c n1 c1 sg d.1 w1 (hA.next bb) (s1.next bb) hn hn1)
  have LT2 := hid (fun (w1 : World) (bb : Below w.heap.size w w1) => specTermText0 A A2 n c n2 c2 sg d.2 w1 (hA.next bb) (s2.next bb) hn hn2)
  simp only [hX] at LT1
  simp only [hY] at LT2
  have E := hid (show bs X ++ bs [32, 45, 62, 32] ++ bs Y = bs (ruleT sg d) by rw [bs_app, bs_app, HT.out])
  have hXb : (bs X).size ≤ 420 := by rw [bs_size]; exact hXl
  have hYb : (bs Y).size ≤ 420 := by rw [bs_size]; exact hYl
  have o1 : ¬ 9223372036854775807 < (bs X).size + 4 := by omega
  have o2 : ¬ 9223372036854775807 < (bs X).size + 4 + (bs Y).size := by omega
  have eq4 : (⟨#[32, 45, 62, 32]⟩ : ByteArray).size = 4 := rfl
  have hr1 : ∀ (v : World), (Op.stringOp .add (bs X) (⟨#[32, 45, 62, 32]⟩ : ByteArray)).run Tryd.prog v = .ok (.string (bs X ++ (⟨#[32, 45, 62, 32]⟩ : ByteArray))) v := fun v => run_string_add_sum v _ _ (by rw [eq4]; omega)
  have hr2 : ∀ (v : World), (Op.stringOp .add (bs X ++ (⟨#[32, 45, 62, 32]⟩ : ByteArray)) (bs Y)).run Tryd.prog v = .ok (.string (bs X ++ (⟨#[32, 45, 62, 32]⟩ : ByteArray) ++ bs Y)) v := fun v => run_string_add_sum v _ _ (by rw [ByteArray.size_append', eq4]; omega)
  clear ok hX hY hA s1 s2 p1 p2 eq4
  go_enter Tryd.func18, Tryd.ntmps18
  go_wp2_with fail
  rw [← HW.out]
  refine LO.out.mono ?_
  rintro e w1 ⟨he, bb⟩
  rw [HS.out] at he
  subst he
  replace rA := rA.next bb
  replace rR := rR.next bb
  replace bel := next_trans bel bb
  have zA : w.heap.size < w1.heap.size := rA.lt
  have zR : w.heap.size + 1 < w1.heap.size := rR.lt
  have K0 : w1.cell? ⟨w.heap.size, 0, none⟩ = some (.slice A n c) := rA.cell 0
  have K1 : w1.cell? ⟨w.heap.size + 1, 0, none⟩ = some (.slice A1 n1 c1) := rR.cell 0
  have K2 : w1.cell? ⟨w.heap.size + 1, 1, none⟩ = some (.slice A2 n2 c2) := rR.cell 1
  have LX := hid (LT1.out w1.drew bel.drew)
  clear bb LO LT1
  go_wp2_with fail
  go_region_held3 (fun w' => w'.cell? ⟨w.heap.size, 0, none⟩ = some (.slice A n c) ∧ w'.cell? ⟨w.heap.size + 1, 0, none⟩ = some (.slice A1 n1 c1) ∧ w'.cell? ⟨w.heap.size + 1, 1, none⟩ = some (.slice A2 n2 c2))
   (go_keep)
   (first
    | (go_at_call 35; with_reducible refine (LT2.out w4 (next_trans bel B4)).mono ?_; rintro e w5 ⟨rfl, b5⟩; have B5 : Below w1.heap.size w1 w5 := next_trans B4 b5; have m0 : w5.cell? ⟨w.heap.size, 0, none⟩ = some (.slice A n c) := (B5.cell (p := ⟨w.heap.size, 0, none⟩) zA).trans K0; have m1 : w5.cell? ⟨w.heap.size + 1, 0, none⟩ = some (.slice A1 n1 c1) := (B5.cell (p := ⟨w.heap.size + 1, 0, none⟩) zR).trans K1; have m2 : w5.cell? ⟨w.heap.size + 1, 1, none⟩ = some (.slice A2 n2 c2) := (B5.cell (p := ⟨w.heap.size + 1, 1, none⟩) zR).trans K2)
    | (go_at_call 35; with_reducible refine LX.out.mono ?_; rintro e w4 ⟨rfl, b4⟩; have B4 : Below w1.heap.size w1 w4 := next_trans (Below.refl w1.heap.size w1).drew b4; have j0 : w4.cell? ⟨w.heap.size, 0, none⟩ = some (.slice A n c) := (B4.cell (p := ⟨w.heap.size, 0, none⟩) zA).trans K0; have j1 : w4.cell? ⟨w.heap.size + 1, 0, none⟩ = some (.slice A1 n1 c1) := (B4.cell (p := ⟨w.heap.size + 1, 0, none⟩) zR).trans K1; have j2 : w4.cell? ⟨w.heap.size + 1, 1, none⟩ = some (.slice A2 n2 c2) := (B4.cell (p := ⟨w.heap.size + 1, 1, none⟩) zR).trans K2))
  have F := hid (next_trans bel B5)
  clear bel B4 B5 b4 b5 rA rR LX LT2 K0 K1 K2 j0 j1 j2 m0 m1 m2
  go_wp2
  go_ret
  exact ⟨by rw [← E.out]; rfl, F.out⟩
set_option maxHeartbeats 2000000 in
theorem implRuleText (a l r : Value) (sg : Dat sSig) (d : Dat sRule) (w : World) (h : Rd w w.heap.size sSig [a] sg) (h' : Rd w w.heap.size sRule [l, r] d) (hz : sz sSig sg ≤ 1048576) (hz' : sz sRule d ≤ 1048576) :
  Calls Tryd.prog 20 #[.agg #[a], .agg #[l, r]] w fun e w' => e = .returned (.string (bs (ruleT sg d))) ∧ Below w.heap.size w w' := by
 have h0 : Rd w w.heap.size sI [a] sg := h
 have hz0 : sz sI sg ≤ 1048576 := hz
 obtain ⟨A, n, c, rfl, hA, -⟩ := rd_ints.1 h0
 have hn : n ≤ 1048576 := by have h1 := hA.1; rw [sz_ints] at hz0; omega
 obtain ⟨W, hW, rA, rR, bel⟩ := box2 w 28 39 #[.slice A n c] #[l, r]
 have LO := hid (implRuleOk (.slice A n c) l r sg d W (h0.next bel) (h'.next bel) hz0 hz')
 obtain ⟨A1, n1, c1, A2, n2, c2, rfl, rfl, s1, k1, s2, k2, hn1, hn2⟩ := rd_rule h' hz'
 have HW := hid hW
 clear hW h h' hz hz' h0 k1 k2
 cases ok : ruleOkB sg d with
 | false =>
  have HS := hid ok
  have HT := hid (show ruleT sg d = [] by unfold ruleT; rw [if_neg (by rw [ok]; simp)])
  clear ok hA s1 s2
  go_enter Tryd.func20, Tryd.ntmps20
  go_wp2_with fail
  rw [← HW.out]
  refine LO.out.mono ?_
  rintro e w1 ⟨he, bb⟩
  rw [HS.out] at he
  subst he
  have F := hid (next_trans bel bb)
  clear bb bel rA rR LO
  go_wp2
  go_ret
  exact ⟨by rw [HT.out]; rfl, F.out⟩
 | true =>
  have HS := hid ok
  obtain ⟨p1, p2, -, -⟩ := rule_parts ok
  have HT := hid (show ruleT sg d = termT sg d.1 ++ [32, 45, 62, 32] ++ termT sg d.2 by unfold ruleT; rw [if_pos ok])
  obtain ⟨X, hX⟩ : ∃ z, termT sg d.1 = z := ⟨_, rfl⟩
  obtain ⟨Y, hY⟩ : ∃ z, termT sg d.2 = z := ⟨_, rfl⟩
  have hXl : X.length ≤ 420 := by rw [← hX]; exact termT_len sg d.1
  have hYl : Y.length ≤ 420 := by rw [← hY]; exact termT_len sg d.2
  rw [hX, hY] at HT
  have LT1 := hid (fun (w1 : World) (bb : Below w.heap.size w w1) => implTermText0 A A1 n c n1 c1 sg d.1 w1 (hA.next bb) (s1.next bb) hn hn1)
  have LT2 := hid (fun (w1 : World) (bb : Below w.heap.size w w1) => implTermText0 A A2 n c n2 c2 sg d.2 w1 (hA.next bb) (s2.next bb) hn hn2)
  simp only [hX] at LT1
  simp only [hY] at LT2
  have E := hid (show bs X ++ bs [32, 45, 62, 32] ++ bs Y = bs (ruleT sg d) by rw [bs_app, bs_app, HT.out])
  have hXb : (bs X).size ≤ 420 := by rw [bs_size]; exact hXl
  have hYb : (bs Y).size ≤ 420 := by rw [bs_size]; exact hYl
  have o1 : ¬ 9223372036854775807 < (bs X).size + 4 := by omega
  have o2 : ¬ 9223372036854775807 < (bs X).size + 4 + (bs Y).size := by omega
  have eq4 : (⟨#[32, 45, 62, 32]⟩ : ByteArray).size = 4 := rfl
  have hr1 : ∀ (v : World), (Op.stringOp .add (bs X) (⟨#[32, 45, 62, 32]⟩ : ByteArray)).run Tryd.prog v = .ok (.string (bs X ++ (⟨#[32, 45, 62, 32]⟩ : ByteArray))) v := fun v => run_string_add_sum v _ _ (by rw [eq4]; omega)
  have hr2 : ∀ (v : World), (Op.stringOp .add (bs X ++ (⟨#[32, 45, 62, 32]⟩ : ByteArray)) (bs Y)).run Tryd.prog v = .ok (.string (bs X ++ (⟨#[32, 45, 62, 32]⟩ : ByteArray) ++ bs Y)) v := fun v => run_string_add_sum v _ _ (by rw [ByteArray.size_append', eq4]; omega)
  clear ok hX hY hA s1 s2 p1 p2 eq4
  go_enter Tryd.func20, Tryd.ntmps20
  go_wp2_with fail
  rw [← HW.out]
  refine LO.out.mono ?_
  rintro e w1 ⟨he, bb⟩
  rw [HS.out] at he
  subst he
  replace rA := rA.next bb
  replace rR := rR.next bb
  replace bel := next_trans bel bb
  have zA : w.heap.size < w1.heap.size := rA.lt
  have zR : w.heap.size + 1 < w1.heap.size := rR.lt
  have K0 : w1.cell? ⟨w.heap.size, 0, none⟩ = some (.slice A n c) := rA.cell 0
  have K1 : w1.cell? ⟨w.heap.size + 1, 0, none⟩ = some (.slice A1 n1 c1) := rR.cell 0
  have K2 : w1.cell? ⟨w.heap.size + 1, 1, none⟩ = some (.slice A2 n2 c2) := rR.cell 1
  have LX := hid (LT1.out w1.drew bel.drew)
  clear bb LO LT1
  go_wp2_with fail
  go_region_held3 (fun w' => w'.cell? ⟨w.heap.size, 0, none⟩ = some (.slice A n c) ∧ w'.cell? ⟨w.heap.size + 1, 0, none⟩ = some (.slice A1 n1 c1) ∧ w'.cell? ⟨w.heap.size + 1, 1, none⟩ = some (.slice A2 n2 c2))
   (go_keep)
   (first
    | (go_at_call 42; with_reducible refine (LT2.out w4 (next_trans bel B4)).mono ?_; rintro e w5 ⟨rfl, b5⟩; have B5 : Below w1.heap.size w1 w5 := next_trans B4 b5; have m0 : w5.cell? ⟨w.heap.size, 0, none⟩ = some (.slice A n c) := (B5.cell (p := ⟨w.heap.size, 0, none⟩) zA).trans K0; have m1 : w5.cell? ⟨w.heap.size + 1, 0, none⟩ = some (.slice A1 n1 c1) := (B5.cell (p := ⟨w.heap.size + 1, 0, none⟩) zR).trans K1; have m2 : w5.cell? ⟨w.heap.size + 1, 1, none⟩ = some (.slice A2 n2 c2) := (B5.cell (p := ⟨w.heap.size + 1, 1, none⟩) zR).trans K2)
    | (go_at_call 42; with_reducible refine LX.out.mono ?_; rintro e w4 ⟨rfl, b4⟩; have B4 : Below w1.heap.size w1 w4 := next_trans (Below.refl w1.heap.size w1).drew b4; have j0 : w4.cell? ⟨w.heap.size, 0, none⟩ = some (.slice A n c) := (B4.cell (p := ⟨w.heap.size, 0, none⟩) zA).trans K0; have j1 : w4.cell? ⟨w.heap.size + 1, 0, none⟩ = some (.slice A1 n1 c1) := (B4.cell (p := ⟨w.heap.size + 1, 0, none⟩) zR).trans K1; have j2 : w4.cell? ⟨w.heap.size + 1, 1, none⟩ = some (.slice A2 n2 c2) := (B4.cell (p := ⟨w.heap.size + 1, 1, none⟩) zR).trans K2))
  have F := hid (next_trans bel B5)
  clear bel B4 B5 b4 b5 rA rR LX LT2 K0 K1 K2 j0 j1 j2 m0 m1 m2
  go_wp2
  go_ret
  exact ⟨by rw [← E.out]; rfl, F.out⟩
end ruleText
end
section
open Go.Lib (hid)
namespace wRuleText
open Go.RowKit base ints sig cursor marks app sym appAt segs segsHelp segsMark kinds shape kindsR text textL termText ruleText
set_option maxRecDepth 100000
set_option maxHeartbeats 8000000 in
theorem law (v0_0 : Value) (d0 : Dat sSig) (v1_0 v1_1 : Value) (d1 : Dat sRule) (w : World) (s0 : Rd w w.heap.size sSig [v0_0] d0) (s1 : Rd w w.heap.size sRule [v1_0, v1_1] d1) :
  Calls Tryd.prog 4 #[.agg #[v0_0], .agg #[v1_0, v1_1]] w (Fine w) := by
 obtain ⟨W, hW⟩ : ∃ W, W = (w.alloc (.cells #[v0_0] 24)).alloc (.cells #[v1_0, v1_1] 36) := ⟨_, rfl⟩
 have rA0 : Row W (w.heap.size) 24 #[v0_0] := by rw [hW]; have := (Row.new (w) 24 #[v0_0]).alloc (.cells #[v1_0, v1_1] 36); simpa using this
 have rA1 : Row W (w.heap.size + 1) 36 #[v1_0, v1_1] := by rw [hW]; have := Row.new (w.alloc (.cells #[v0_0] 24)) 36 #[v1_0, v1_1]; simpa using this
 have bW : Below w.heap.size w W := by rw [hW]; exact ((Below.refl w.heap.size w).alloc (by simp) (.cells #[v0_0] 24)).alloc (by simp) (.cells #[v1_0, v1_1] 36)
 have zA0 := rA0.lt
 have zA1 := rA1.lt
 replace s0 := s0.next bW
 replace s1 := s1.next bW
 have HW := hid hW
 clear hW
 obtain ⟨t0, ht0⟩ : ∃ z, sz sSig d0 = z := ⟨_, rfl⟩
 have HT0 := hid ht0
 clear ht0
 obtain ⟨t1, ht1⟩ : ∃ z, sz sRule d1 = z := ⟨_, rfl⟩
 have HT1 := hid ht1
 clear ht1
 obtain ⟨v, hv⟩ : ∃ v, bs (ruleT d0 d1) = v := ⟨_, rfl⟩
 have HV := hid hv
 clear hv
 have ev : (v != v) = false := Go.Proofs.YtlaloakegajheabDoor.text.str_ne _
 go_enter Tryd.func4, Tryd.ntmps4
 go_wp2_with fail
 rw [← HW.out]
 clear HW
 have bel := Below.refl W.heap.size W
 have cA0_0 : W.cell? ⟨w.heap.size, 0, none⟩ = some (v0_0) := (rA0.next bel).cell 0
 have cA1_0 : W.cell? ⟨w.heap.size + 1, 0, none⟩ = some (v1_0) := (rA1.next bel).cell 0
 have cA1_1 : W.cell? ⟨w.heap.size + 1, 1, none⟩ = some (v1_1) := (rA1.next bel).cell 1
 refine (szK_Sig _ d0 (1048576) _ (s0.next bel) (by omega) (by omega)).mono ?_
 rintro e w1 ⟨he, bb⟩
 rw [HT0.out] at he
 replace bel := next_trans bel bb
 have zw1 := bb.size
 clear bb
 by_cases q0 : t0 ≤ 1048576
 case neg =>
  rw [if_pos (by omega)] at he
  subst he
  have F := hid (bW.trans (bel.mono bW.size))
  clear bel bW cA0_0 cA1_0 cA1_1
  go_wp2
  go_ret
  exact ⟨rfl, F.out⟩
 rw [if_neg (by omega)] at he
 subst he
 have h0 : Hid (sz sSig d0 ≤ 1048576) := hid (by rw [HT0.out]; omega)
 clear cA0_0 cA1_0 cA1_1
 have cA0_0 : w1.cell? ⟨w.heap.size, 0, none⟩ = some (v0_0) := (rA0.next bel).cell 0
 have cA1_0 : w1.cell? ⟨w.heap.size + 1, 0, none⟩ = some (v1_0) := (rA1.next bel).cell 0
 have cA1_1 : w1.cell? ⟨w.heap.size + 1, 1, none⟩ = some (v1_1) := (rA1.next bel).cell 1
 go_wp2_with fail
 refine (szK_Rule _ _ d1 (1048576 - (t0 : Int)) _ (s1.next bel) (by omega) (by omega)).mono ?_
 rintro e w2 ⟨he, bb⟩
 rw [HT1.out] at he
 replace bel := next_trans bel bb
 have zw2 := bb.size
 clear bb
 by_cases q1 : t0 + t1 ≤ 1048576
 case neg =>
  rw [if_pos (by omega)] at he
  subst he
  have F := hid (bW.trans (bel.mono bW.size))
  clear bel bW cA0_0 cA1_0 cA1_1
  go_wp2
  go_ret
  exact ⟨rfl, F.out⟩
 rw [if_neg (by omega)] at he
 subst he
 have h1 : Hid (sz sRule d1 ≤ 1048576) := hid (by rw [HT1.out]; omega)
 clear cA0_0 cA1_0 cA1_1
 have cA0_0 : w2.cell? ⟨w.heap.size, 0, none⟩ = some (v0_0) := (rA0.next bel).cell 0
 have cA1_0 : w2.cell? ⟨w.heap.size + 1, 0, none⟩ = some (v1_0) := (rA1.next bel).cell 0
 have cA1_1 : w2.cell? ⟨w.heap.size + 1, 1, none⟩ = some (v1_1) := (rA1.next bel).cell 1
 go_wp2_with fail
 replace bel := bel.drew
 have zdw2 := (drew_below w2).size
 go_region_held3 (fun w' => w'.cell? ⟨w.heap.size, 0, none⟩ = some (v0_0) ∧ w'.cell? ⟨w.heap.size + 1, 0, none⟩ = some (v1_0) ∧ w'.cell? ⟨w.heap.size + 1, 1, none⟩ = some (v1_1))
  (go_keep)
  (first
   | (go_at_call_of 10 (Value.agg #[v0_0]); refine (toK_Sig _ d0 _ (s0.next bel) h0.out).mono ?_; rintro e w3 ⟨p0A0, p0n0, p0c0, rfl, op0, bb⟩; replace bel := next_trans bel bb; have cA0_0w3 : w3.cell? ⟨w.heap.size, 0, none⟩ = some (v0_0) := (rA0.next bel).cell 0; have cA1_0w3 : w3.cell? ⟨w.heap.size + 1, 0, none⟩ = some (v1_0) := (rA1.next bel).cell 0; have cA1_1w3 : w3.cell? ⟨w.heap.size + 1, 1, none⟩ = some (v1_1) := (rA1.next bel).cell 1; have zqw3 := bb.size; clear bb)
   | (go_at_call_of 19 (Value.agg #[v1_0, v1_1]); refine (toK_Rule _ _ d1 _ (s1.next bel) h1.out).mono ?_; rintro e w4 ⟨p1A0, p1n0, p1c0, p1A1, p1n1, p1c1, rfl, op1, bb⟩; replace op0 := op0.next bb; replace bel := next_trans bel bb; have cA0_0w4 : w4.cell? ⟨w.heap.size, 0, none⟩ = some (v0_0) := (rA0.next bel).cell 0; have cA1_0w4 : w4.cell? ⟨w.heap.size + 1, 0, none⟩ = some (v1_0) := (rA1.next bel).cell 0; have cA1_1w4 : w4.cell? ⟨w.heap.size + 1, 1, none⟩ = some (v1_1) := (rA1.next bel).cell 1; have zqw4 := bb.size; clear bb)
   | (go_at_call 18; refine (specRuleText _ _ _ d0 d1 _ op0.rd op1.rd h0.out h1.out).mono ?_; rintro e w5 ⟨he, bb⟩; rw [HV.out] at he; subst he; replace bel := next_trans bel bb; have cA0_0w5 : w5.cell? ⟨w.heap.size, 0, none⟩ = some (v0_0) := (rA0.next bel).cell 0; have cA1_0w5 : w5.cell? ⟨w.heap.size + 1, 0, none⟩ = some (v1_0) := (rA1.next bel).cell 0; have cA1_1w5 : w5.cell? ⟨w.heap.size + 1, 1, none⟩ = some (v1_1) := (rA1.next bel).cell 1; have zqw5 := bb.size; clear bb op0 op1))
 clear cA0_0 cA1_0 cA1_1 cA0_0w5 cA1_0w5 cA1_1w5
 have cA0_0 : w5.cell? ⟨w.heap.size, 0, none⟩ = some (v0_0) := (rA0.next bel).cell 0
 have cA1_0 : w5.cell? ⟨w.heap.size + 1, 0, none⟩ = some (v1_0) := (rA1.next bel).cell 0
 have cA1_1 : w5.cell? ⟨w.heap.size + 1, 1, none⟩ = some (v1_1) := (rA1.next bel).cell 1
 go_wp2_with fail
 refine (toK_Sig _ d0 _ (s0.next bel) h0.out).mono ?_
 rintro e w6 ⟨x0A0, x0n0, x0c0, rfl, ox0, bb⟩
 replace bel := next_trans bel bb
 have zw6 := bb.size
 clear bb
 clear cA0_0 cA1_0 cA1_1
 have cA0_0 : w6.cell? ⟨w.heap.size, 0, none⟩ = some (v0_0) := (rA0.next bel).cell 0
 have cA1_0 : w6.cell? ⟨w.heap.size + 1, 0, none⟩ = some (v1_0) := (rA1.next bel).cell 0
 have cA1_1 : w6.cell? ⟨w.heap.size + 1, 1, none⟩ = some (v1_1) := (rA1.next bel).cell 1
 have dA0_0 : (w6.alloc (.cells #[.slice x0A0 x0n0 x0c0] 28)).cell? ⟨w.heap.size, 0, none⟩ = some (v0_0) := ((rA0.next bel).alloc _).cell 0
 have dA1_0 : (w6.alloc (.cells #[.slice x0A0 x0n0 x0c0] 28)).cell? ⟨w.heap.size + 1, 0, none⟩ = some (v1_0) := ((rA1.next bel).alloc _).cell 0
 have dA1_1 : (w6.alloc (.cells #[.slice x0A0 x0n0 x0c0] 28)).cell? ⟨w.heap.size + 1, 1, none⟩ = some (v1_1) := ((rA1.next bel).alloc _).cell 1
 go_wp2_with fail
 obtain ⟨w7, hw⟩ : ∃ W, W = w6.alloc (.cells #[.slice x0A0 x0n0 x0c0] 28) := ⟨_, rfl⟩
 rw [← hw]
 have rx0 : Row w7 w6.heap.size 28 #[.slice x0A0 x0n0 x0c0] := by rw [hw]; exact Row.new _ _ _
 have bb : Below w6.heap.size w6 w7 := by rw [hw]; exact (Below.refl _ _).alloc (Nat.le_refl _) _
 have yrx0 : w6.heap.size < w7.heap.size := by rw [hw]; simp
 clear hw
 replace ox0 := ox0.next bb
 replace bel := next_trans bel bb
 have zw7 := bb.size
 clear bb
 clear dA0_0 dA1_0 dA1_1
 clear cA0_0 cA1_0 cA1_1
 have cA0_0 : w7.cell? ⟨w.heap.size, 0, none⟩ = some (v0_0) := (rA0.next bel).cell 0
 have cA1_0 : w7.cell? ⟨w.heap.size + 1, 0, none⟩ = some (v1_0) := (rA1.next bel).cell 0
 have cA1_1 : w7.cell? ⟨w.heap.size + 1, 1, none⟩ = some (v1_1) := (rA1.next bel).cell 1
 have cx0_0 : w7.cell? ⟨w6.heap.size, 0, none⟩ = some (.slice x0A0 x0n0 x0c0) := (rx0).cell 0
 refine (toK_Rule _ _ d1 _ (s1.next bel) h1.out).mono ?_
 rintro e w8 ⟨x1A0, x1n0, x1c0, x1A1, x1n1, x1c1, rfl, ox1, bb⟩
 replace ox0 := ox0.next bb
 replace rx0 := rx0.next bb
 replace bel := next_trans bel bb
 have zw8 := bb.size
 clear bb
 clear cA0_0 cA1_0 cA1_1 cx0_0
 have cA0_0 : w8.cell? ⟨w.heap.size, 0, none⟩ = some (v0_0) := (rA0.next bel).cell 0
 have cA1_0 : w8.cell? ⟨w.heap.size + 1, 0, none⟩ = some (v1_0) := (rA1.next bel).cell 0
 have cA1_1 : w8.cell? ⟨w.heap.size + 1, 1, none⟩ = some (v1_1) := (rA1.next bel).cell 1
 have cx0_0 : w8.cell? ⟨w6.heap.size, 0, none⟩ = some (.slice x0A0 x0n0 x0c0) := (rx0).cell 0
 have dA0_0 : (w8.alloc (.cells #[.slice x1A0 x1n0 x1c0, .slice x1A1 x1n1 x1c1] 39)).cell? ⟨w.heap.size, 0, none⟩ = some (v0_0) := ((rA0.next bel).alloc _).cell 0
 have dA1_0 : (w8.alloc (.cells #[.slice x1A0 x1n0 x1c0, .slice x1A1 x1n1 x1c1] 39)).cell? ⟨w.heap.size + 1, 0, none⟩ = some (v1_0) := ((rA1.next bel).alloc _).cell 0
 have dA1_1 : (w8.alloc (.cells #[.slice x1A0 x1n0 x1c0, .slice x1A1 x1n1 x1c1] 39)).cell? ⟨w.heap.size + 1, 1, none⟩ = some (v1_1) := ((rA1.next bel).alloc _).cell 1
 have dx0_0 : (w8.alloc (.cells #[.slice x1A0 x1n0 x1c0, .slice x1A1 x1n1 x1c1] 39)).cell? ⟨w6.heap.size, 0, none⟩ = some (.slice x0A0 x0n0 x0c0) := ((rx0).alloc _).cell 0
 go_wp2_with fail
 obtain ⟨w9, hw⟩ : ∃ W, W = w8.alloc (.cells #[.slice x1A0 x1n0 x1c0, .slice x1A1 x1n1 x1c1] 39) := ⟨_, rfl⟩
 rw [← hw]
 have rx1 : Row w9 w8.heap.size 39 #[.slice x1A0 x1n0 x1c0, .slice x1A1 x1n1 x1c1] := by rw [hw]; exact Row.new _ _ _
 have bb : Below w8.heap.size w8 w9 := by rw [hw]; exact (Below.refl _ _).alloc (Nat.le_refl _) _
 have yrx1 : w8.heap.size < w9.heap.size := by rw [hw]; simp
 clear hw
 replace ox0 := ox0.next bb
 replace rx0 := rx0.next bb
 replace ox1 := ox1.next bb
 replace bel := next_trans bel bb
 have zw9 := bb.size
 clear bb
 clear dA0_0 dA1_0 dA1_1 dx0_0
 clear cA0_0 cA1_0 cA1_1 cx0_0
 have cA0_0 : w9.cell? ⟨w.heap.size, 0, none⟩ = some (v0_0) := (rA0.next bel).cell 0
 have cA1_0 : w9.cell? ⟨w.heap.size + 1, 0, none⟩ = some (v1_0) := (rA1.next bel).cell 0
 have cA1_1 : w9.cell? ⟨w.heap.size + 1, 1, none⟩ = some (v1_1) := (rA1.next bel).cell 1
 have cx0_0 : w9.cell? ⟨w6.heap.size, 0, none⟩ = some (.slice x0A0 x0n0 x0c0) := (rx0).cell 0
 have cx1_0 : w9.cell? ⟨w8.heap.size, 0, none⟩ = some (.slice x1A0 x1n0 x1c0) := (rx1).cell 0
 have cx1_1 : w9.cell? ⟨w8.heap.size, 1, none⟩ = some (.slice x1A1 x1n1 x1c1) := (rx1).cell 1
 refine (implRuleText _ _ _ d0 d1 _ ox0.rd ox1.rd h0.out h1.out).mono ?_
 rintro e w10 ⟨he, bb⟩
 rw [HV.out] at he
 subst he
 replace ox0 := ox0.next bb
 replace rx0 := rx0.next bb
 replace ox1 := ox1.next bb
 replace rx1 := rx1.next bb
 replace bel := next_trans bel bb
 have zw10 := bb.size
 clear bb
 clear cA0_0 cA1_0 cA1_1 cx0_0 cx1_0 cx1_1
 have cA0_0 : w10.cell? ⟨w.heap.size, 0, none⟩ = some (v0_0) := (rA0.next bel).cell 0
 have cA1_0 : w10.cell? ⟨w.heap.size + 1, 0, none⟩ = some (v1_0) := (rA1.next bel).cell 0
 have cA1_1 : w10.cell? ⟨w.heap.size + 1, 1, none⟩ = some (v1_1) := (rA1.next bel).cell 1
 have cx0_0 : w10.cell? ⟨w6.heap.size, 0, none⟩ = some (.slice x0A0 x0n0 x0c0) := (rx0).cell 0
 have cx1_0 : w10.cell? ⟨w8.heap.size, 0, none⟩ = some (.slice x1A0 x1n0 x1c0) := (rx1).cell 0
 have cx1_1 : w10.cell? ⟨w8.heap.size, 1, none⟩ = some (.slice x1A1 x1n1 x1c1) := (rx1).cell 1
 go_wp2_with fail
 replace ox0 := ox0.drew
 replace rx0 := rx0.drew
 replace ox1 := ox1.drew
 replace rx1 := rx1.drew
 replace bel := bel.drew
 have zdw10 := (drew_below w10).size
 go_region_held3 (fun w' => w'.cell? ⟨w6.heap.size, 0, none⟩ = some (.slice x0A0 x0n0 x0c0) ∧ w'.cell? ⟨w.heap.size, 0, none⟩ = some (v0_0))
  (go_keep)
  (first
   | (go_at_call 10; refine (toK_Sig _ d0 _ (s0.next bel) h0.out).mono ?_; rintro e w11 ⟨t0A0, t0n0, t0c0, rfl, ot, bb⟩; replace ox0 := ox0.next bb; replace rx0 := rx0.next bb; replace ox1 := ox1.next bb; replace rx1 := rx1.next bb; replace bel := next_trans bel bb; have k0_0w11 : w11.cell? ⟨w.heap.size, 0, none⟩ = some (v0_0) := (rA0.next bel).cell 0; have l0_0w11 : w11.cell? ⟨w6.heap.size, 0, none⟩ = some (.slice x0A0 x0n0 x0c0) := rx0.cell 0; have zqw11 := bb.size; clear bb)
   | (go_at_call 13; refine (eqK_Sig _ _ d0 _ ox0.rd ot.rd h0.out).mono ?_; rintro e w12 ⟨rfl, bb⟩; replace ox0 := ox0.next bb; replace rx0 := rx0.next bb; replace ox1 := ox1.next bb; replace rx1 := rx1.next bb; replace bel := next_trans bel bb; have k0_0w12 : w12.cell? ⟨w.heap.size, 0, none⟩ = some (v0_0) := (rA0.next bel).cell 0; have l0_0w12 : w12.cell? ⟨w6.heap.size, 0, none⟩ = some (.slice x0A0 x0n0 x0c0) := rx0.cell 0; have zqw12 := bb.size; clear bb ot))
 clear k0_0w11 l0_0w11 k0_0w12 l0_0w12
 clear ox0 rx0
 clear cA0_0 cA1_0 cA1_1 cx0_0 cx1_0 cx1_1
 have cA0_0 : w12.cell? ⟨w.heap.size, 0, none⟩ = some (v0_0) := (rA0.next bel).cell 0
 have cA1_0 : w12.cell? ⟨w.heap.size + 1, 0, none⟩ = some (v1_0) := (rA1.next bel).cell 0
 have cA1_1 : w12.cell? ⟨w.heap.size + 1, 1, none⟩ = some (v1_1) := (rA1.next bel).cell 1
 have cx1_0 : w12.cell? ⟨w8.heap.size, 0, none⟩ = some (.slice x1A0 x1n0 x1c0) := (rx1).cell 0
 have cx1_1 : w12.cell? ⟨w8.heap.size, 1, none⟩ = some (.slice x1A1 x1n1 x1c1) := (rx1).cell 1
 go_wp2_with fail
 replace ox1 := ox1.drew
 replace rx1 := rx1.drew
 replace bel := bel.drew
 have zdw12 := (drew_below w12).size
 go_region_held3 (fun w' => w'.cell? ⟨w8.heap.size, 0, none⟩ = some (.slice x1A0 x1n0 x1c0) ∧ w'.cell? ⟨w8.heap.size, 1, none⟩ = some (.slice x1A1 x1n1 x1c1) ∧ w'.cell? ⟨w.heap.size + 1, 0, none⟩ = some (v1_0) ∧ w'.cell? ⟨w.heap.size + 1, 1, none⟩ = some (v1_1))
  (go_keep)
  (first
   | (go_at_call 19; refine (toK_Rule _ _ d1 _ (s1.next bel) h1.out).mono ?_; rintro e w13 ⟨t1A0, t1n0, t1c0, t1A1, t1n1, t1c1, rfl, ot, bb⟩; replace ox1 := ox1.next bb; replace rx1 := rx1.next bb; replace bel := next_trans bel bb; have k1_0w13 : w13.cell? ⟨w.heap.size + 1, 0, none⟩ = some (v1_0) := (rA1.next bel).cell 0; have k1_1w13 : w13.cell? ⟨w.heap.size + 1, 1, none⟩ = some (v1_1) := (rA1.next bel).cell 1; have l1_0w13 : w13.cell? ⟨w8.heap.size, 0, none⟩ = some (.slice x1A0 x1n0 x1c0) := rx1.cell 0; have l1_1w13 : w13.cell? ⟨w8.heap.size, 1, none⟩ = some (.slice x1A1 x1n1 x1c1) := rx1.cell 1; have zqw13 := bb.size; clear bb)
   | (go_at_call 21; refine (eqK_Rule _ _ _ _ d1 _ ox1.rd ot.rd h1.out).mono ?_; rintro e w14 ⟨rfl, bb⟩; replace ox1 := ox1.next bb; replace rx1 := rx1.next bb; replace bel := next_trans bel bb; have k1_0w14 : w14.cell? ⟨w.heap.size + 1, 0, none⟩ = some (v1_0) := (rA1.next bel).cell 0; have k1_1w14 : w14.cell? ⟨w.heap.size + 1, 1, none⟩ = some (v1_1) := (rA1.next bel).cell 1; have l1_0w14 : w14.cell? ⟨w8.heap.size, 0, none⟩ = some (.slice x1A0 x1n0 x1c0) := rx1.cell 0; have l1_1w14 : w14.cell? ⟨w8.heap.size, 1, none⟩ = some (.slice x1A1 x1n1 x1c1) := rx1.cell 1; have zqw14 := bb.size; clear bb ot))
 clear k1_0w13 l1_0w13 k1_1w13 l1_1w13 k1_0w14 l1_0w14 k1_1w14 l1_1w14
 clear ox1 rx1
 clear cA0_0 cA1_0 cA1_1 cx1_0 cx1_1
 have cA0_0 : w14.cell? ⟨w.heap.size, 0, none⟩ = some (v0_0) := (rA0.next bel).cell 0
 have cA1_0 : w14.cell? ⟨w.heap.size + 1, 0, none⟩ = some (v1_0) := (rA1.next bel).cell 0
 have cA1_1 : w14.cell? ⟨w.heap.size + 1, 1, none⟩ = some (v1_1) := (rA1.next bel).cell 1
 have F := hid (bW.trans (bel.mono bW.size))
 clear bel bW cA0_0 cA1_0 cA1_1
 go_wp2
 go_ret
 exact ⟨rfl, F.out⟩
end wRuleText
end
section
namespace openX
open Go.ChangeShapes Go.WideShapes Go.ChangeAt Go.RowKit base segs shape
def Wf : (s : Sh) → Dat s → Prop
 | .num, (x : Int) => -9223372036854775808 ≤ x ∧ x ≤ 9223372036854775807
 | .bit, _ => True
 | .row _ s, (d : List (Dat s)) => ∀ j, j < d.length → Wf s (d.getD j (dft s))
 | .cat a b, d => Wf a d.1 ∧ Wf b d.2
mutual
def fitsB (P : Program) : Nat → Sh → TypeId → Bool
 | 0, _, _ => false
 | n + 1, s, t => match P.underlying t with
  | some (.struct fs) => P.cellsOf t == nc s && fitsL P n fs.toList 0 s
  | some (.int .i64) => match s with | .num => true | _ => false
  | some .bool => match s with | .bit => true | _ => false
  | some (.slice e) => match s with | .row _ s' => P.cellsOf e == nc s' && fitsB P n s' e | _ => false
  | _ => false
def fitsL (P : Program) : Nat → List Field → Nat → Sh → Bool
 | 0, _, _, _ => false
 | _ + 1, [], _, _ => false
 | n + 1, [f], k, s => f.offset == k && (P.cellsOf f.type == nc s && fitsB P n s f.type)
 | n + 1, f :: g :: fs, k, s => match s with | .cat a b => f.offset == k && (P.cellsOf f.type == nc a && (fitsB P n a f.type && fitsL P n (g :: fs) (k + nc a) b)) | _ => false
end
section
variable {H : Type} {enc : TypeId × Value → H} {P : Program} {w : World} {held : Bool}
theorem addr_add {b off i : Nat} : (⟨b, off, none⟩ : Addr).add i = ⟨b, off + i, none⟩ := by unfold Addr.add; split <;> simp_all
theorem rd_trod : ∀ n : Nat, (∀ (s : Sh) (t : TypeId) (fuel : Nat) (cs : List Value) (x : DataW H × List MemPlace), fitsB P n s t = true → DataW.trod enc P w 0 (fun _ => true) held fuel t cs = some x → ∃ d, Rd w w.heap.size s cs d ∧ Wf s d) ∧
  (∀ (fs : List Field) (k : Nat) (s : Sh) (cs : List Value) (m : Nat), fitsL P n fs k s = true → (∀ (i : Nat) (f : Field), fs[i]? = some f → ∃ x, DataW.trod enc P w 0 (fun _ => true) held m f.type ((cs.drop f.offset).take (P.cellsOf f.type)) = some x) →
   ∃ d, Rd w w.heap.size s ((cs.drop k).take (nc s)) d ∧ Wf s d) := by
 intro n
 induction n with
 | zero => exact ⟨fun _ _ _ _ _ h => by simp [fitsB] at h, fun _ _ _ _ _ h => by simp [fitsL] at h⟩
 | succ n ih =>
  refine ⟨fun s t fuel cs x hf h => ?_, fun fs k s cs m hf h => ?_⟩
  ·unfold fitsB at hf
   split at hf
   ·rename_i fs hu
    simp only [Bool.and_eq_true, beq_iff_eq] at hf
    obtain ⟨xs, n', hfu, hx, hlen, hxl, hg⟩ := DataW.trod_struct hu h
    obtain ⟨d, hr, hw⟩ := ih.2 fs.toList 0 s cs n' hf.2 (fun i f hi => by
     have hi' : fs[i]? = some f := by simpa using hi
     have h1 := hg i f hi'
     have hlt : i < fs.size := (Array.getElem?_eq_some_iff.1 hi').1
     exact ⟨xs[i]'(by omega), by rw [h1]; exact List.getElem?_eq_getElem (by omega)⟩)
    rw [List.drop_zero, List.take_of_length_le (by omega)] at hr
    exact ⟨d, hr, hw⟩
   ·rename_i hu
    split at hf
    ·obtain ⟨z, e1, _, hw⟩ := DataW.trod_int hu h
     refine ⟨z, e1, ?_⟩
     show -9223372036854775808 ≤ z ∧ z ≤ 9223372036854775807
     simpa [Lit.wf, IntKind.min, IntKind.max, IntKind.signed, IntKind.bits] using hw
    ·cases hf
   ·rename_i hu
    split at hf
    ·obtain ⟨z, e1, _⟩ := DataW.trod_bool hu h
     exact ⟨z, e1, trivial⟩
    ·cases hf
   ·rename_i e hu
    split at hf
    ·rename_i e0 s'
     simp only [Bool.and_eq_true, beq_iff_eq] at hf
     rcases Go.Deep.open_slice hu h with ⟨hcs, _⟩ | ⟨a, len, cap, m, n', D, Pl, hcs, _, hl, hm, hmm, _, hi⟩
     ·exact ⟨[], ⟨none, 0, 0, hcs, ⟨by omega, by omega, fun _ => rfl⟩, rfl, fun h => absurd h (by omega)⟩, fun j hj => absurd hj (Nat.not_lt_zero _)⟩
     ·have hmc : m = cap := by simpa using hmm
      subst hmc
      have hd : ∀ j, j < len → ∃ (es : List Value) (dj : Dat s'), es.length = nc s' ∧ (∀ i, i < nc s' → w.cell? ((a.add (j * nc s')).add i) = es[i]?) ∧ Rd w w.heap.size s' es dj ∧ Wf s' dj := fun j hj => by
       obtain ⟨cs', hc, ht⟩ := hi j (by omega)
       obtain ⟨dj, hr, hw⟩ := ih.1 s' e n' cs' _ hf.2 ht
       rw [hf.1] at hc
       obtain ⟨_, hcl, hat⟩ := World.cells?_some hc
       exact ⟨cs', dj, hcl, hat, hr, hw⟩
      have hspot : 0 < len → a.spot = none := fun h0 => by
       obtain ⟨es, dj, h1, h2, _⟩ := hd 0 h0
       have hp := nc_pos s'
       have h3 := h2 0 (by omega)
       rw [List.getElem?_eq_getElem (by omega)] at h3
       have := World.cell?_spot h3
       simpa [Addr.add] using this
      obtain ⟨ds, hdl, hds⟩ : ∃ ds : List (Dat s'), ds.length = len ∧ ∀ j, j < len → ∃ es : List Value, es.length = nc s' ∧ (∀ i, i < nc s' → w.cell? ((a.add (j * nc s')).add i) = es[i]?) ∧ Rd w w.heap.size s' es (ds.getD j (dft s')) ∧ Wf s' (ds.getD j (dft s')) := by
       refine ⟨(List.range len).map fun j => if hj : j < len then Classical.choose (Classical.choose_spec (hd j hj)) else dft s', by simp, fun j hj => ?_⟩
       refine ⟨Classical.choose (hd j hj), ?_⟩
       have h1 := Classical.choose_spec (Classical.choose_spec (hd j hj))
       have e1 : ((List.range len).map fun j => if hj : j < len then Classical.choose (Classical.choose_spec (hd j hj)) else dft s').getD j (dft s') = Classical.choose (Classical.choose_spec (hd j hj)) := by simp [List.getD, hj]
       rw [e1]
       exact h1
      refine ⟨ds, ⟨some a, len, m, hcs, ⟨hl, by unfold maxLen at hm; omega, fun e => by cases e⟩, hdl, fun h0 => ?_⟩, fun j hj => by
       obtain ⟨es, _, _, _, hw⟩ := hds j (by rw [← hdl]; exact hj)
       exact hw⟩
      obtain ⟨b, off, spot⟩ := a
      have hs := hspot h0
      simp only at hs
      subst hs
      refine ⟨b, off, rfl, ?_, fun j hj => ?_⟩
      ·obtain ⟨es, h1, h2, _⟩ := hds 0 h0
       have hp := nc_pos s'
       have h3 := h2 0 (by omega)
       rw [List.getElem?_eq_getElem (by omega)] at h3
       have h4 := World.block_lt_of_cell? _ _ h3
       simpa [addr_add] using h4
      ·obtain ⟨es, h1, h2, h3, _⟩ := hds j hj
       refine ⟨es, h1, fun i hi2 => ?_, h3⟩
       have := h2 i (by omega)
       rw [addr_add, addr_add] at this
       exact this
    ·cases hf
   ·cases hf
  ·match fs, hf, h with
   | [], hf, _ => simp [fitsL] at hf
   | [f], hf, h =>
    unfold fitsL at hf
    simp only [Bool.and_eq_true, beq_iff_eq] at hf
    obtain ⟨h1, h2, h3⟩ := hf
    obtain ⟨x, hx⟩ := h 0 f rfl
    rw [h1, h2] at hx
    exact ih.1 s f.type m _ x h3 hx
   | f :: g :: fs, hf, h =>
    cases s with
    | cat a b =>
     unfold fitsL at hf
     simp only [Bool.and_eq_true, beq_iff_eq] at hf
     obtain ⟨h1, h2, h3, h4⟩ := hf
     obtain ⟨x, hx⟩ := h 0 f rfl
     rw [h1, h2] at hx
     obtain ⟨d1, r1, w1⟩ := ih.1 a f.type m _ x h3 hx
     obtain ⟨d2, r2, w2⟩ := ih.2 (g :: fs) (k + nc a) b cs m h4 (fun i f' hi => h (i + 1) f' hi)
     refine ⟨(d1, d2), ⟨_, _, ?_, r1, r2⟩, w1, w2⟩
     show List.take (nc a + nc b) (List.drop k cs) = _
     rw [List.take_add, List.drop_drop]
    | num => simp [fitsL] at hf
    | bit => simp [fitsL] at hf
    | row e s' => simp [fitsL] at hf
theorem open_val {s : Sh} {t : TypeId} {v : Value} {d : DataW H} {p : List MemPlace} {n : Nat} (hf : fitsB P n s t = true) (h : DataW.Trod enc P w 0 (fun _ => true) held t v d p) : ∃ x, Rd w w.heap.size s v.cells.toList x ∧ Wf s x := by
 obtain ⟨fuel, hfu⟩ := h
 exact (rd_trod n).1 s t fuel _ _ hf hfu
end
end openX
end
end Go.Proofs.YtlaloakegajheabDoor
