/-
  MERGED: my texts Put, Shifted, Filled, SameSubst, CompMath, PlainFacts, MatchTot, MatchFacts, Shape3, KindsW, StepSpec, StepsMath, Dice, DrawSig, DrawTerm, DrawAny, DrawX, OwnL, StepSpecB, StepSpecC, OrderMath, OrderSpec, one behind the other, as they are. By an AI agent.
-/
import Derived.Test.YtblhmplpcdcejaaMFnExactNormalBy3
import Derived.Deep.AppendLies
import Derived.Deep.RegionHeld3
import Derived.Deep.DeepCutAuto
import Derived.Deep.RegionLaw
namespace Go.Proofs.Ytblhmplpcdcejaa
section
open Go.Lib (hid)
namespace put
open Go.RowKit segsHelp base ints sig term arity endOf cursor termOk endAt inside marks app sym sub segs posMath putMath concat
set_option maxRecDepth 100000
theorem Seg.front {w : World} {B b off m a : Nat} {t : List Int} (h : Seg w B (some ⟨b, off, none⟩) m t) (ha : a ≤ m) : Seg w B (some ⟨b, off, none⟩) a (t.take a) := by
 have := Seg.cut (a := 0) (j := a) h (by omega)
 simpa using this
theorem Seg.back {w : World} {B b off m e : Nat} {t : List Int} (h : Seg w B (some ⟨b, off, none⟩) m t) (he : e ≤ m) : Seg w B (some ⟨b, off + e, none⟩) (m - e) (t.drop e) := by
 have := Seg.cut (a := e) (j := m - e) h (by omega)
 rwa [List.take_of_length_le (by simp [h.1])] at this
theorem Seg.none_any {w : World} {B : Nat} {A : Option Addr} {t : List Int} (h : t = []) : Seg w B A 0 t := ⟨by rw [h]; rfl, fun h => absurd h (Nat.lt_irrefl _)⟩
def putI (sg t u : List Int) (a : Nat) : List Int := putL t a (len1 sg t a) u
def AnsPut (w : World) (ys : List Int) (b : Bool) (e : Ending) (w' : World) : Prop := ∃ A n c, e = .returned (.tuple #[.slice A n c, .bool b]) ∧ Own w' w.heap.size (.slice A n c) ys ∧ Below w.heap.size w w'
def fitB (sg t u : List Int) (a : Nat) : Bool := decide ((putI sg t u a).length ≤ 60)
def fitL (sg t u : List Int) (a : Nat) : List Int := if fitB sg t u a = true then putI sg t u a else []
set_option maxHeartbeats 1000000 in
theorem l3Put (A A' U : Option Addr) (n c m c' un uc : Nat) (sg t u : List Int) (a : Nat) (w : World) (h : Seg w w.heap.size A n sg) (h' : Seg w w.heap.size A' m t) (hu : Seg w w.heap.size U un u) (hcu : U = none → uc = 0) (hn : n ≤ 1048576) (hm : m ≤ 1048576) (hun : un ≤ 60) (hc' : m ≤ c') (hc2 : c' ≤ 9223372036854775807)
  (hok : termOkB sg t = true) (hat : a < t.length) :
  Calls Try.prog 99 #[.agg #[.slice A n c], .slice A' m c', .int .i64 (a : Int), .slice U un uc] w (AnsPut w (fitL sg t u a) (fitB sg t u a)) := by
 have ham : a < m := by rw [h'.1] at hat; exact hat
 obtain ⟨b, off, x, rfl, -, -, -⟩ := h'.spot ham
 obtain ⟨W, hW⟩ : ∃ W, W = w.alloc (.cells #[.slice A n c] 31) := ⟨_, rfl⟩
 have f : Fr w W A n c sg (some ⟨b, off, none⟩) m t := by rw [hW]; exact Fr.start h h'
 have hU : Seg W w.heap.size U un u := hu.below f.b
 have HW := hid hW
 obtain ⟨j, hj⟩ : ∃ j, len1 sg t a = j := ⟨_, rfl⟩
 obtain ⟨t1, t2, t3⟩ := term_at hok hat
 have hars := (sig_arities (termOk_parts hok).1).1
 rw [hj] at t1 t2 t3
 rw [h'.1] at t3
 have h60 : m ≤ 60 := by have := (termOk_parts hok).2.1; rw [h'.1] at this; exact this
 have HE := hid (endI_some t1)
 have HTL := hid hat
 have HPI := hid (show putI sg t u a = t.take a ++ u ++ t.drop (a + j) by unfold putI putL; rw [hj, List.append_assoc])
 have hpl : (putI sg t u a).length = a + un + (m - (a + j)) := by rw [HPI.out]; simp [h'.1, hu.1]; omega
 have HPL := hid hpl
 have LC := hid (copyInts (some ⟨b, off, none⟩) a c' (t.take a) W ((Seg.front f.t1 (by omega))) (fun e => by cases e) (by omega))
 have HCU := hid hcu
 have i0 : (0 : Int) ≤ (a : Int) := by omega
 have i1 : (a : Int) ≤ (c' : Int) := by omega
 have i2 : (a : Int) + (j : Int) ≤ (c' : Int) := by omega
 have i3 : (a : Int) + (j : Int) ≤ (m : Int) := by omega
 clear hW h h' hu hj t1 hok hat hcu hpl
 go_enter Try.func99, Try.ntmps99
 go_wp2_with fail
 rw [← HW.out]
 refine LC.out.mono ?_
 rintro e w1 ⟨O1, n1, c1, rfl, o1, bb⟩
 have hta : (t.take a).length = a := by rw [List.length_take]; have := HTL.out; omega
 obtain rfl : n1 = a := by rw [Own.len o1, hta]
 replace hU := hU.below (bb.mono (Nat.le_of_lt f.size))
 replace o1 := Own.lower (base' := w.heap.size + 1) o1 f.size
 replace f := f.next bb
 have z1 : w.heap.size + 1 ≤ w1.heap.size := f.size
 clear bb hta LC
 go_wp2_with (at_builtin; refine appAll rfl _ _ rfl (w.heap.size + 1) O1 n1 c1 _ rfl o1 U un uc w.heap.size u rfl hU HCU.out (by omega) (by omega) z1 ?_; intro O2 c2 w2 o2 b2; have f2 := f.over b2; have cA2 : w2.cell? ⟨w.heap.size, 0, none⟩ = some (.slice A n c) := f2.cell)
 clear o1 b2 f hU z1 cA2
 replace f := f2
 clear f2
 have cA := f.cell
 obtain ⟨k, hk⟩ : ∃ k, n1 + j = k := ⟨_, rfl⟩
 rw [hk] at HPI HPL t3
 have HEK := hid (show endI sg t n1 = (k : Int) by rw [HE.out, ← hk]; omega)
 have hn1k : n1 ≤ k := by omega
 clear HE hk i2 i3 t2
 refine (specEnd A _ n c m c' sg t (n1 : Int) _ f.s1 f.t1 hn hm hars i0 (by omega)).mono ?_
 rintro e w3 ⟨he, bb⟩
 rw [Int.toNat_natCast, HEK.out] at he
 subst he
 replace f := f.next bb
 replace o2 := Own.next o2 bb
 clear bb cA
 have i2 : (k : Int) ≤ (c' : Int) := by omega
 have i4 : (k : Int) ≤ (m : Int) := by omega
 have z1 : w.heap.size + 1 ≤ w3.heap.size := f.size
 by_cases hce : c' = k
 ·subst hce
  have hmk : m - c' = 0 := by omega
  have HSG := hid (show Seg w3 w.heap.size (some ⟨b, off, none⟩) 0 [] from Seg.none_any rfl)
  have HPI2 := hid (show putI sg t u n1 = t.take n1 ++ u ++ [] by rw [HPI.out, List.drop_eq_nil_of_le (by rw [f.t1.1]; omega)])
  have HPL2 := hid (show (putI sg t u n1).length = n1 + un by rw [HPL.out, hmk]; rfl)
  clear hmk HPL HPI
  by_cases h6 : n1 + un ≤ 60
  ·have h7 : ¬ (60 : Int) < (n1 : Int) + (un : Int) := by omega
   go_wp2_with (at_builtin; refine appAll rfl _ _ rfl (w.heap.size + 1) O2 (n1 + un) c2 _ rfl o2 (some ⟨b, off, none⟩) 0 0 w.heap.size [] rfl HSG.out (fun e => by cases e) (by omega) (by omega) z1 ?_; intro O4 c4 w4 o4 b4)
   replace f := f.over b4
   have F : AnsPut w (fitL sg t u n1) (fitB sg t u n1) (.returned (.tuple #[.slice O4 (n1 + un) c4, .bool true])) w4 := ⟨O4, _, c4, by rw [show fitB sg t u n1 = true by unfold fitB; rw [HPL2.out]; exact decide_eq_true h6], by unfold fitL; rw [if_pos (by unfold fitB; rw [HPL2.out]; exact decide_eq_true h6), HPI2.out]; exact Own.lower o4 (Nat.le_succ _), f.b⟩
   have HF := hid F
   clear F o4 f
   go_ret2
   exact HF.out
  ·have h7 : (60 : Int) < (n1 : Int) + (un : Int) := by omega
   go_wp2_with (at_builtin; refine appAll rfl _ _ rfl (w.heap.size + 1) O2 (n1 + un) c2 _ rfl o2 (some ⟨b, off, none⟩) 0 0 w.heap.size [] rfl HSG.out (fun e => by cases e) (by omega) (by omega) z1 ?_; intro O4 c4 w4 o4 b4)
   replace f := f.over b4
   have F : AnsPut w (fitL sg t u n1) (fitB sg t u n1) (.returned (.tuple #[.slice (some ⟨w4.heap.size, 0, none⟩) 0 0, .bool false])) (w4.alloc (.cells #[] 2)) := ⟨_, 0, 0, by rw [show fitB sg t u n1 = false by unfold fitB; rw [HPL2.out]; exact decide_eq_false h6], by unfold fitL; rw [if_neg (by unfold fitB; rw [HPL2.out, decide_eq_false h6]; simp)]; exact own_empty w4 w.heap.size (Nat.le_of_lt f.size), (f.alloc _).b⟩
   have HF := hid F
   clear F o4 f
   go_ret2
   exact HF.out
 ·have HSG := hid (Seg.back f.s' (e := k) t3)
  obtain ⟨r, hr⟩ : ∃ r, m - k = r := ⟨_, rfl⟩
  rw [hr] at HPL HSG
  have hr60 : r ≤ 60 := by omega
  by_cases h6 : n1 + un + r ≤ 60
  ·have h7 : ¬ (60 : Int) < (n1 : Int) + (un : Int) + (r : Int) := by omega
   go_wp2_with (at_builtin; refine appAll rfl _ _ rfl (w.heap.size + 1) O2 (n1 + un) c2 _ rfl o2 (some ⟨b, off + k, none⟩) r (c' - k) w.heap.size (t.drop k) rfl HSG.out (fun e => by cases e) (by omega) (by omega) z1 ?_; intro O4 c4 w4 o4 b4)
   replace f := f.over b4
   have F : AnsPut w (fitL sg t u n1) (fitB sg t u n1) (.returned (.tuple #[.slice O4 (n1 + un + r) c4, .bool true])) w4 := ⟨O4, _, c4, by rw [show fitB sg t u n1 = true by unfold fitB; rw [HPL.out]; exact decide_eq_true h6], by unfold fitL; rw [if_pos (by unfold fitB; rw [HPL.out]; exact decide_eq_true h6), HPI.out]; exact Own.lower o4 (Nat.le_succ _), f.b⟩
   have HF := hid F
   clear F o4 f
   go_ret2
   exact HF.out
  ·have h7 : (60 : Int) < (n1 : Int) + (un : Int) + (r : Int) := by omega
   go_wp2_with (at_builtin; refine appAll rfl _ _ rfl (w.heap.size + 1) O2 (n1 + un) c2 _ rfl o2 (some ⟨b, off + k, none⟩) r (c' - k) w.heap.size (t.drop k) rfl HSG.out (fun e => by cases e) (by omega) (by omega) z1 ?_; intro O4 c4 w4 o4 b4)
   replace f := f.over b4
   have F : AnsPut w (fitL sg t u n1) (fitB sg t u n1) (.returned (.tuple #[.slice (some ⟨w4.heap.size, 0, none⟩) 0 0, .bool false])) (w4.alloc (.cells #[] 2)) := ⟨_, 0, 0, by rw [show fitB sg t u n1 = false by unfold fitB; rw [HPL.out]; exact decide_eq_false h6], by unfold fitL; rw [if_neg (by unfold fitB; rw [HPL.out, decide_eq_false h6]; simp)]; exact own_empty w4 w.heap.size (Nat.le_of_lt f.size), (f.alloc _).b⟩
   have HF := hid F
   clear F o4 f
   go_ret2
   exact HF.out
def putB (sg t u : List Int) (x : Int) : Bool := (thereB sg t x && termOkB sg u) && fitB sg t u x.toNat
def putR (sg t u : List Int) (x : Int) : List Int := if putB sg t u x = true then putI sg t u x.toNat else []
theorem put_no {sg t u : List Int} {x : Int} (h : thereB sg t x = false ∨ termOkB sg u = false) : putB sg t u x = false ∧ putR sg t u x = [] := by
 have e : putB sg t u x = false := by
  unfold putB
  rcases h with h | h <;> rw [h] <;> simp
 exact ⟨e, by unfold putR; rw [if_neg (by rw [e]; simp)]⟩
theorem put_yes {sg t u : List Int} {a : Nat} (h1 : thereB sg t (a : Int) = true) (h2 : termOkB sg u = true) : putB sg t u (a : Int) = fitB sg t u a ∧ putR sg t u (a : Int) = fitL sg t u a := by
 have e : putB sg t u (a : Int) = fitB sg t u a := by unfold putB; rw [h1, h2, Int.toNat_natCast]; rfl
 exact ⟨e, by unfold putR fitL; rw [e, Int.toNat_natCast]⟩
theorem ansPut_no {w w' : World} {sg t u : List Int} {x : Int} {A : Option Addr} {c : Nat} (h : thereB sg t x = false ∨ termOkB sg u = false) (ho : Own w' w.heap.size (.slice A 0 c) []) (hb : Below w.heap.size w w') : AnsPut w (putR sg t u x) (putB sg t u x) (.returned (.tuple #[.slice A 0 c, .bool false])) w' := by
 obtain ⟨e1, e2⟩ := put_no h
 exact ⟨A, 0, c, by rw [e1], by rw [e2]; exact ho, hb⟩
set_option maxHeartbeats 400000 in
theorem tooLong (A : Option Addr) (n c : Nat) (w : World) (hn : n ≤ 9223372036854775807) :
  Calls Try.prog 130 #[.slice A n c] w fun e w' => w = w' ∧ e = .returned (.bool (decide (60 < n))) := by
 have E : decide ((60 : Int) < (n : Int)) = decide (60 < n) := decide_eq_decide.2 (by omega)
 rw [← E]
 have HE := hid E
 clear E
 generalize hz : decide ((60 : Int) < (n : Int)) = z
 have HZ := hid hz
 clear hz
 go_enter Try.func130, Try.ntmps130
 go_wp2
 go_ret
 exact ⟨rfl, by rw [← HZ.out]; rfl⟩
theorem segs3 {w : World} {t : TypeId} {A1 A2 A3 : Option Addr} {n1 c1 n2 c2 n3 c3 : Nat} {x1 x2 x3 : List Int} (h1 : Seg w w.heap.size A1 n1 x1) (h2 : Seg w w.heap.size A2 n2 x2) (h3 : Seg w w.heap.size A3 n3 x3) (k1 : Cap A1 n1 c1) (k2 : Cap A2 n2 c2) (k3 : Cap A3 n3 c3) :
  Segs (w.alloc (.cells #[.slice A1 n1 c1, .slice A2 n2 c2, .slice A3 n3 c3] t)) (w.alloc (.cells #[.slice A1 n1 c1, .slice A2 n2 c2, .slice A3 n3 c3] t)).heap.size (some ⟨w.heap.size, 0, none⟩) 3 [x1, x2, x3] := by
 have r := Row.new w t #[.slice A1 n1 c1, .slice A2 n2 c2, .slice A3 n3 c3]
 have b : Below w.heap.size w (w.alloc (.cells #[.slice A1 n1 c1, .slice A2 n2 c2, .slice A3 n3 c3] t)) := (Below.refl _ _).alloc (Nat.le_refl _) _
 refine ⟨rfl, fun _ => ⟨w.heap.size, 0, rfl, r.lt, fun j hj => ?_⟩⟩
 rw [Nat.zero_add, r.cell j]
 rcases (show j = 0 ∨ j = 1 ∨ j = 2 by omega) with rfl | rfl | rfl
 ·exact ⟨A1, n1, c1, rfl, h1.next b, k1⟩
 ·exact ⟨A2, n2, c2, rfl, h2.next b, k2⟩
 ·exact ⟨A3, n3, c3, rfl, h3.next b, k3⟩
set_option maxHeartbeats 1000000 in
theorem implPutAt (A A' U : Option Addr) (n c m c' un uc : Nat) (sg t : List Int) (x : Int) (u : List Int) (w : World) (h : Seg w w.heap.size A n sg) (h' : Seg w w.heap.size A' m t) (hu : Seg w w.heap.size U un u) (hn : n ≤ 1048576) (hm : m ≤ 1048576) (hun : un ≤ 1048576) (hx1 : -9223372036854775808 ≤ x) (hx2 : x ≤ 9223372036854775807)
  (hcu : Cap U un uc) (hc' : m ≤ c') (hc2 : c' ≤ 9223372036854775807) :
  Calls Try.prog 119 #[.agg #[.slice A n c], .slice A' m c', .int .i64 x, .slice U un uc] w (AnsPut w (putR sg t u x) (putB sg t u x)) := by
 obtain ⟨W, hW⟩ : ∃ W, W = w.alloc (.cells #[.slice A n c] 31) := ⟨_, rfl⟩
 have f : Fr w W A n c sg A' m t := by rw [hW]; exact Fr.start h h'
 have hU : Seg W W.heap.size U un u := (hu.below f.b).more (Nat.le_of_lt f.size)
 have HW := hid hW
 have HLM := hid h'.1
 have L := hid (implEndOf A A' n c m c' sg t x W f.s1 f.t1 hn hm hx1 hx2)
 clear hW h h' hu
 cases hx : thereB sg t x with
 | false =>
  have HX := hid hx
  have HE := hid (show endOfI sg t x = -1 by unfold endOfI; rw [if_neg (by rw [hx]; simp)])
  clear hx
  go_enter Try.func119, Try.ntmps119
  go_wp2_with fail
  rw [← HW.out]
  refine L.out.mono ?_
  rintro e w1 ⟨he, bb⟩
  rw [HE.out] at he
  subst he
  have F := hid (ansPut_no (w := w) (u := u) (.inl HX.out) (Own.nil w1 w.heap.size) (f.next bb).b)
  clear f L bb hU
  go_wp2
  go_ret2
  exact F.out
 | true =>
  have HX := hid hx
  obtain ⟨hok, i0, i1⟩ := there_parts hx
  obtain ⟨a, rfl⟩ := Int.eq_ofNat_of_zero_le i0
  have hal : a < t.length := by omega
  obtain ⟨k, hk⟩ : ∃ k, a + len1 sg t a = k := ⟨_, rfl⟩
  have HE := hid (show endOfI sg t (a : Int) = (k : Int) by unfold endOfI; rw [if_pos hx, Int.toNat_natCast, end_at hok hal, hk])
  have HK := hid hk
  have hkm : k ≤ m := by have h3 := (term_at hok hal).2.2; rw [HLM.out] at h3; omega
  have hak : a < k := by have h3 := (term_at hok hal).2.1; omega
  have h60 : m ≤ 60 := by have h3 := (termOk_parts hok).2.1; rw [HLM.out] at h3; exact h3
  have hneg : ¬ (k : Int) < 0 := by omega
  clear hx hok i0 i1 hk
  cases hku : termOkB sg u with
  | false =>
   have HU := hid hku
   clear hku
   go_enter Try.func119, Try.ntmps119
   go_wp2_with fail
   rw [← HW.out]
   refine L.out.mono ?_
   rintro e w1 ⟨he, bb⟩
   rw [HE.out] at he
   subst he
   replace f := f.next bb
   replace hU := hU.next bb
   have cA := f.cell
   clear bb L
   go_wp2_with fail
   refine (implTermOk A U n c un uc sg u _ f.s1 hU hn hun).mono ?_
   rintro e w2 ⟨he, bb⟩
   rw [HU.out] at he
   subst he
   have F := hid (ansPut_no (w := w) (t := t) (x := (a : Int)) (.inr HU.out) (Own.nil w2 w.heap.size) (f.next bb).b)
   clear f bb hU cA
   go_wp2
   go_ret2
   exact F.out
  | true =>
   have HU := hid hku
   have hu60 : un ≤ 60 := by have h1 := (termOk_parts hku).2.1; rw [hU.1] at h1; exact h1
   have HP := hid (put_yes HX.out hku)
   have HUL := hid hU.1
   have HPI := hid (show [t.take a, u, t.drop k].flatten = putI sg t u a by unfold putI putL; rw [HK.out]; simp)
   have HPL := hid (show (putI sg t u a).length = a + un + (m - k) by rw [← HPI.out]; simp [HUL.out, HLM.out]; omega)
   have HT := hid (show tot [t.take a, u, t.drop k] ≤ 1048576 by unfold tot sumL; simp [HUL.out, HLM.out]; omega)
   clear hku
   go_enter Try.func119, Try.ntmps119
   go_wp2_with fail
   rw [← HW.out]
   refine L.out.mono ?_
   rintro e w1 ⟨he, bb⟩
   rw [HE.out] at he
   subst he
   replace f := f.next bb
   replace hU := hU.next bb
   have cA := f.cell
   clear bb L
   go_wp2_with fail
   refine (implTermOk A U n c un uc sg u _ f.s1 hU hn hun).mono ?_
   rintro e w2 ⟨he, bb⟩
   rw [HU.out] at he
   subst he
   replace f := f.next bb
   replace hU := hU.next bb
   clear bb cA
   obtain ⟨b, off, y, rfl, -, -, -⟩ := f.t1.spot (show a < m by omega)
   have i0 : (0 : Int) ≤ (a : Int) := by omega
   have i1 : (a : Int) ≤ (c' : Int) := by omega
   have i2 : (k : Int) ≤ (c' : Int) := by omega
   have i3 : (k : Int) ≤ (m : Int) := by omega
   have i4 : (0 : Int) ≤ (k : Int) := by omega
   have SF := Seg.front f.t1 (show a ≤ m by omega)
   by_cases hce : c' = k
   ·subst hce
    have hmk : m - c' = 0 := by omega
    have S3 := hid (segs3 (t := 22) (A3 := some ⟨b, off, none⟩) (c3 := 0) SF hU (Seg.none_any (show t.drop c' = [] from List.drop_eq_nil_of_le (by rw [f.t1.1]; omega))) ⟨show a ≤ c' by omega, hc2, fun e => by cases e⟩ hcu ⟨Nat.le_refl _, by omega, fun _ => rfl⟩).drew
    rw [hmk] at HPL
    clear SF hmk
    go_wp2_with fail
    go_region_held3 (fun _ => True)
     (trivial)
     (first
      | (go_at_call 129; refine (concat _ _ _ _ _ S3.out HT.out).mono ?_; rintro e w4 ⟨O4, n4, c4, rfl, o4, b4⟩))
    have hn4 : n4 = a + un + 0 := by rw [Own.len o4, HPI.out]; exact HPL.out
    have bf := (((Below.refl w2.heap.size w2).alloc (Nat.le_refl _) (.cells #[.slice (some ⟨b, off, none⟩) a c', .slice U un uc, .slice (some ⟨b, off, none⟩) 0 0] 22)).drew).trans (b4.mono (by simp))
    have hsz := f.size
    replace f := f.next bf
    replace o4 := Own.lower (base' := w.heap.size) o4 (by simp; omega)
    obtain ⟨z, hz⟩ : ∃ z, fitB sg t u a = z := ⟨_, rfl⟩
    have F : AnsPut w (putR sg t u (a : Int)) (putB sg t u (a : Int)) (.returned (.tuple #[if z = true then .slice O4 n4 c4 else .slice none 0 0, .bool z])) w4 := by
     refine ⟨if z = true then O4 else none, if z = true then n4 else 0, if z = true then c4 else 0, ?_, ?_, f.b⟩
     ·rw [HP.out.1, hz]; cases z <;> rfl
     ·rw [HP.out.2]
      unfold fitL
      rw [hz]
      cases z with
      | false => exact Own.nil _ _
      | true => rw [HPI.out] at o4; exact o4
    have HF := hid F
    have HTL := hid (show decide (60 < n4) = !z by
     rw [← hz]
     unfold fitB
     rw [HPL.out, hn4]
     by_cases e : a + un + 0 ≤ 60
     ·rw [decide_eq_true e, decide_eq_false (by omega)]; rfl
     ·rw [decide_eq_false e, decide_eq_true (by omega)]; rfl)
    have h463 : n4 ≤ 9223372036854775807 := by omega
    clear F o4 b4 f hz hn4 bf S3 hU
    go_wp2_with fail
    refine (tooLong O4 n4 c4 w4 h463).mono ?_
    rintro e w5 ⟨rfl, rfl⟩
    rw [HTL.out]
    cases z with
    | false =>
     go_wp2
     go_ret2
     exact HF.out
    | true =>
     go_wp2
     go_ret2
     exact HF.out
   ·obtain ⟨r, hr⟩ : ∃ r, m - k = r := ⟨_, rfl⟩
    have SB := Seg.back f.t1 hkm
    rw [hr] at SB HPL
    have hr60 : r ≤ 60 := by omega
    have S3 := hid (segs3 (t := 22) SF hU SB ⟨show a ≤ c' by omega, hc2, fun e => by cases e⟩ hcu ⟨show r ≤ c' - k by omega, by omega, fun e => by cases e⟩).drew
    clear SF SB
    go_wp2_with fail
    go_region_held3 (fun _ => True)
     (trivial)
     (first
      | (go_at_call 129; refine (concat _ _ _ _ _ S3.out HT.out).mono ?_; rintro e w4 ⟨O4, n4, c4, rfl, o4, b4⟩))
    have hn4 : n4 = a + un + r := by rw [Own.len o4, HPI.out]; exact HPL.out
    have bf := (((Below.refl w2.heap.size w2).alloc (Nat.le_refl _) (.cells #[.slice (some ⟨b, off, none⟩) a c', .slice U un uc, .slice (some ⟨b, off + k, none⟩) r (c' - k)] 22)).drew).trans (b4.mono (by simp))
    have hsz := f.size
    replace f := f.next bf
    replace o4 := Own.lower (base' := w.heap.size) o4 (by simp; omega)
    obtain ⟨z, hz⟩ : ∃ z, fitB sg t u a = z := ⟨_, rfl⟩
    have F : AnsPut w (putR sg t u (a : Int)) (putB sg t u (a : Int)) (.returned (.tuple #[if z = true then .slice O4 n4 c4 else .slice none 0 0, .bool z])) w4 := by
     refine ⟨if z = true then O4 else none, if z = true then n4 else 0, if z = true then c4 else 0, ?_, ?_, f.b⟩
     ·rw [HP.out.1, hz]; cases z <;> rfl
     ·rw [HP.out.2]
      unfold fitL
      rw [hz]
      cases z with
      | false => exact Own.nil _ _
      | true => rw [HPI.out] at o4; exact o4
    have HF := hid F
    have HTL := hid (show decide (60 < n4) = !z by
     rw [← hz]
     unfold fitB
     rw [HPL.out, hn4]
     by_cases e : a + un + r ≤ 60
     ·rw [decide_eq_true e, decide_eq_false (by omega)]; rfl
     ·rw [decide_eq_false e, decide_eq_true (by omega)]; rfl)
    have h463 : n4 ≤ 9223372036854775807 := by omega
    clear F o4 b4 f hz hn4 bf S3 hU
    go_wp2_with fail
    refine (tooLong O4 n4 c4 w4 h463).mono ?_
    rintro e w5 ⟨rfl, rfl⟩
    rw [HTL.out]
    cases z with
    | false =>
     go_wp2
     go_ret2
     exact HF.out
    | true =>
     go_wp2
     go_ret2
     exact HF.out
end put
end
section
namespace shifted
open Go.RowKit base ints sig term termOk marks app sym segs termFacts varsMath fillMath Go.Proofs.Ytblhmplpcdcejaa.look
set_option maxRecDepth 100000
def AnsPairO (w : World) (ys : List Int) (b : Bool) (e : Ending) (w' : World) : Prop := ∃ A n c, e = .returned (.tuple #[.slice A n c, .bool b]) ∧ Own w' w.heap.size (.slice A n c) ys ∧ Below w.heap.size w w'
end shifted
end
section
open Go.Lib (hid)
namespace filled
open Go.RowKit base ints sig cursor term termOk marks app appAt sym sub segs segsHelp termFacts varsMath varsOf fillMath Go.Proofs.Ytblhmplpcdcejaa.look shifted substOk gives
set_option maxRecDepth 100000
theorem stepAppAll {w : World} {ops : Array Oper} {o : Oper} {a : Act} {K : Act → World → Prop} {Q : Exit → Act → World → Prop} {E : Prop} (hgd : o.guard = none) (s x : Operand)
  (ho : o.op = .call { callee := .builtin .append, args := #[s, x], argTypes := #[22, 22] })
  (base : Nat) (A : Option Addr) (n c : Nat) (xs : List Int) (hs : a.eval s = .slice A n c) (hown : Own w base (.slice A n c) xs)
  (S : Option Addr) (m c2 B : Nat) (ys : List Int) (hx : a.eval x = .slice S m c2) (hseg : Seg w B S m ys) (hm1 : 1 ≤ m) (hn : n ≤ 2097152) (hm : m ≤ 2097152) (hbase : base ≤ w.heap.size)
  (h : ∀ g' c' w', Own w' base (.slice (some ⟨g', 0, none⟩) (n + m) c') (xs ++ ys) → w.grownBy w' (blk A) → (blk A = some g' ∨ g' = w.heap.size) → g' < w'.heap.size → K (a.put o.dst (.slice (some ⟨g', 0, none⟩) (n + m) c')) w') :
  if Region.wanted o (yielded ops a.tmps) = true then Oper.wp Try.prog o a w K Q else E := by
 obtain ⟨i0, hi, hz0, hz1, hz2⟩ := info_parts info_i64
 have hl : xs.length = n := by
  obtain ⟨A', c', e⟩ := hown.slice
  exact (Value.slice.inj e).2.1.symm
 have hob : (Value.slice A n c).ownBlock = blk A := by cases A <;> rfl
 obtain ⟨b, off, e, _, hc⟩ := hseg.2 (by omega)
 subst e
 refine step_append_lies w hgd s x 22 ho base 2 i0 (.int .i64 0) 1 8 Try.underlying22 hi hz0 hz1 hz2 rfl (by decide) (.slice A n c) n (xs.map (Value.int .i64)) hs (by rw [← hl]; rw [← hl] at hown; exact hown)
  ⟨b, off, none⟩ m c2 (ys.map (Value.int .i64)) hx (by simp [hseg.1]) (fun j u hj => ?_) (fun u hu => ?_) (by omega) (by unfold maxLen; omega) (by omega) hbase w.heap.size rfl ?_
 ·have hjl : j < m := by
   have := (List.getElem?_eq_some_iff.1 hj).1
   simp at this
   have := hseg.1
   omega
  have hcj := hc j hjl
  have e2 : (⟨b, off, none⟩ : Addr).add j = ⟨b, off + j, none⟩ := by unfold Addr.add; split <;> simp_all
  rw [e2, hcj, ← hj]
  have := hseg.1
  simp [List.getD, show j < ys.length by omega]
 ·obtain ⟨y, _, rfl⟩ := List.mem_map.1 hu
  rfl
 ·intro g' c' w' hown' hg hat hlt
  rw [← List.map_append] at hown'
  rw [hob] at hg hat
  refine h g' c' w' ?_ hg hat hlt
  have hl2 : (xs ++ ys).length = n + m := by simp [hl, hseg.1]
  unfold Own
  rw [hl2]
  exact hown'
def fitsB (ss : List (List Int)) (t : List Int) : Bool := decide ((fillL (givesL ss) t).length ≤ 60)
def fitL (ss : List (List Int)) (t : List Int) : List Int := if fitsB ss t = true then fillL (givesL ss) t else []
theorem fits_no {ss : List (List Int)} {t : List Int} {k : Nat} (h : 60 < (fillL (givesL ss) (t.take k)).length) : fitsB ss t = false := by
 have e : fillL (givesL ss) t = fillL (givesL ss) (t.take k) ++ fillL (givesL ss) (t.drop k) := by rw [← fill_append, List.take_append_drop]
 unfold fitsB
 rw [e, List.length_append]
 simp
 omega
def HeadF (w : World) (S : Option Addr) (m c mt : Nat) (ss : List (List Int)) (t : List Int) (out i : Value) (wr : World) : Prop :=
 ∃ (k : Nat) (O : Option Addr) (on oc : Nat), k ≤ mt ∧ i = .int .i64 k ∧ out = .slice O on oc ∧ on ≤ 60 ∧ Own wr (w.heap.size + 1) (.slice O on oc) (fillL (givesL ss) (t.take k)) ∧ Row wr w.heap.size 106 #[.slice S m c] ∧ Below w.heap.size w wr
theorem pairF_no {w wr : World} {ss : List (List Int)} {t : List Int} (h : fitsB ss t = false) (hb : Below w.heap.size w wr) : AnsPairO w (fitL ss t) (fitsB ss t) (.returned (.tuple #[.slice (some ⟨wr.heap.size, 0, none⟩) 0 0, .bool false])) (wr.alloc (.cells #[] 2)) :=
 ⟨_, 0, 0, by rw [h], by unfold fitL; rw [if_neg (by rw [h]; simp)]; exact own_empty wr w.heap.size hb.size, hb.alloc hb.size _⟩
set_option maxHeartbeats 8000000 in
theorem l2Filled (S A : Option Addr) (m c mt ct : Nat) (ss : List (List Int)) (t : List Int) (w : World) (h : Segs w w.heap.size S m ss) (h' : Seg w w.heap.size A mt t) (ht : tot ss ≤ 1048576) (hmt : mt ≤ 60) (hv : ∀ x ∈ t, -24 ≤ x) (hM : ∀ i, (givesL ss i).length ≤ 60) :
  Calls Try.prog 98 #[.agg #[.slice S m c], .slice A mt ct] w (AnsPairO w (fitL ss t) (fitsB ss t)) := by
 have HL := hid h'.1
 have HV := hid hv
 have HM := hid hM
 have HT := hid ht
 have S0 : HeadF w S m c mt ss t (.slice (some ⟨w.heap.size + 1, 0, none⟩) 0 0) (.int .i64 0) ((w.alloc (.cells #[.slice S m c] 106)).alloc (.cells #[] 2)) :=
  ⟨0, _, _, _, Nat.zero_le _, rfl, rfl, by omega, by have := own_empty (w.alloc (.cells #[.slice S m c] 106)) (w.heap.size + 1) (by simp); simpa [fillL] using this, (Row.new _ _ _).alloc _, ((Below.refl _ _).alloc (Nat.le_refl _) _).alloc (by simp) _⟩
 have HS0 := hid S0
 clear S0 hv hM ht
 go_enter Try.func98, Try.ntmps98
 go_wp2_with fail
 go_loopw [6, 7] (fun out i wr => HeadF w S m c mt ss t out i wr) (fun _ i _ => mt - (intOf i).toNat)
 case atStart => exact HS0.out
 case round =>
  obtain ⟨k, O, on, oc, hk, rfl, rfl, hon, ho, hr, hb⟩ := hrel
  clear HS0
  have hsz := hr.lt
  by_cases hlt : k < mt
  ·obtain ⟨b, off, x, rfl, hbb, hx, ex⟩ := h'.spot hlt
   have hx1 : wr.cell? ⟨b, off + k, none⟩ = some (.int .i64 x) := (hb.cell (p := ⟨b, off + k, none⟩) hbb).trans hx
   have hbr : b < wr.heap.size := Nat.lt_of_lt_of_le hbb hb.size
   have cS : wr.cell? ⟨w.heap.size, 0, none⟩ = some (.slice S m c) := hr.cell 0
   have hmem : x ∈ t := by
    have hkl : k < t.length := by rw [HL.out]; exact hlt
    have := ex.out
    rw [← this]
    simp [List.getD, hkl]
   have hx24 : -24 ≤ x := HV.out x hmem
   have E := hid (fill_take (L := givesL ss) (t := t) (k := k) (by rw [HL.out]; exact hlt) ex.out)
   have i0 : (0 : Int) ≤ (k : Int) := by omega
   have i1 : (k : Int) < (mt : Int) := by omega
   have HN := hid (Own.len ho)
   have hx0 := hx
   clear hmem hx h' ex
   by_cases hpos : 0 ≤ x
   ·have R := hid (rep_sym (L := givesL ss) hpos)
    have d1 : decide (x < 0) = false := by simp; omega
    by_cases h60 : on + 1 ≤ 60
    ·go_wp2_with (at_builtin; refine app1 rfl _ _ rfl (w.heap.size + 1) O on oc (fillL (givesL ss) (t.take k)) rfl (Own.alloc ho _) wr.heap.size 1 x rfl ((Row.new _ _ _).cell 0) (by omega) (by simp; omega) ?_; intro O' oc' w2 ho2 b2)
     have S1 : HeadF w S m c mt ss t (.slice O' (on + 1) oc') (.int .i64 ((k : Int) + 1)) w2 := ⟨k + 1, O', on + 1, oc', hlt, by simp, rfl, h60, by rw [E.out, R.out]; exact ho2, (hr.alloc _).below b2 (Nat.lt_succ_self _), (hb.alloc (Nat.le_of_lt hsz) _).trans (b2.mono (Nat.le_succ _))⟩
     have HS1 := hid S1
     clear S1 ho2 b2 ho hr hb R E cS
     go_wp2
     go_roundw
     case rel => exact HS1.out
     case measure => simp [intOf]; omega
    ·have NO := hid (fits_no (ss := ss) (t := t) (k := k + 1) (by rw [E.out, R.out, List.length_append, ← HN.out]; simp; omega))
     go_wp2_with (at_builtin; refine app1 rfl _ _ rfl (w.heap.size + 1) O on oc (fillL (givesL ss) (t.take k)) rfl (Own.alloc ho _) wr.heap.size 1 x rfl ((Row.new _ _ _).cell 0) (by omega) (by simp; omega) ?_; intro O' oc' w2 ho2 b2)
     have F := hid (pairF_no NO.out ((hb.alloc (Nat.le_of_lt hsz) _).trans (b2.mono (Nat.le_succ _))))
     clear ho2 b2 ho hr hb R E cS
     go_wp2
     go_ret2
     exact F.out
   ·have hneg : x < 0 := by omega
    have R := hid (rep_var (L := givesL ss) hneg)
    obtain ⟨i, hi⟩ : ∃ i : Nat, (-1 - x).toNat = i := ⟨_, rfl⟩
    rw [hi] at R
    have hix : (i : Int) = -1 - x := by omega
    have LG := hid (l2Gives S m c ss i wr.drew (((h.below hb).more hb.size).drew) HT.out (by omega))
    rw [hix] at LG
    have hlen : (givesL ss i).length ≤ 60 := HM.out i
    have hlen1 : 1 ≤ (givesL ss i).length := gives_pos ss i
    obtain ⟨q, hq⟩ : ∃ q, (givesL ss i).length = q := ⟨_, rfl⟩
    rw [hq] at hlen hlen1
    have HQ := hid hq
    have hw1 : IntKind.i64.wrap (-1 - x) = -1 - x := by rw [IntKind.wrap_i64]; omega
    have hod := Own.drew ho
    have hrd := hr.drew
    have hbd := hb.drew
    clear hix hi hq h
    go_wp2_with fail
    go_region_held3 (fun w' => w'.cell? ⟨w.heap.size, 0, none⟩ = some (.slice S m c) ∧ w'.cell? ⟨b, off + k, none⟩ = some (.int .i64 x))
     (go_keep)
     (first
      | (go_at_call 109; refine LG.out.mono ?_; rintro e w1 ⟨D, dn, dc, rfl, od, bb⟩; obtain rfl : dn = q := (by rw [Own.len od]; exact HQ.out); have ho1 := Own.next hod bb; have hr1 := hrd.next bb; have hb1 := next_trans hbd bb; have cS1 : w1.cell? ⟨w.heap.size, 0, none⟩ = some (.slice S m c) := hr1.cell 0; have cX1 : w1.cell? ⟨b, off + k, none⟩ = some (.int .i64 x) := (bb.cell (p := ⟨b, off + k, none⟩) hbr).trans hx1)
      | (refine stepAppAll rfl _ _ rfl (w.heap.size + 1) O on oc (fillL (givesL ss) (t.take k)) (by rfl) ho1 D _ dc w1.heap.size (givesL ss i) (by rfl) (Own.seg od) (by omega) (by omega) (by omega) (by have := hr1.lt; omega) ?_; intro O' oc' w2 ho2 hg2 hat2 hlt2; have hr2 := Row.away hr1 hg2 (fun e => by have := (World.ownsRow.lt ho1 w.heap.size (by rw [blk_own]; exact e)).1; omega); have hb2 : Below w.heap.size w w2 := hb1.grown hg2 hb1.size (fun z hz => by have := (World.ownsRow.lt ho1 z (by rw [blk_own]; exact hz)).1; omega); have cS2 : w2.cell? ⟨w.heap.size, 0, none⟩ = some (.slice S m c) := hr2.cell 0; have cX2 : w2.cell? ⟨b, off + k, none⟩ = some (.int .i64 x) := (hb2.cell (p := ⟨b, off + k, none⟩) hbb).trans hx0))
    have hsum : (fillL (givesL ss) (t.take k) ++ givesL ss i).length = on + dn := by rw [List.length_append, ← HN.out, HQ.out]
    clear cS1 cX1 ho1 hr1 hb1 od bb hod hrd hbd LG ho hr hb cS hx1 hg2 hat2 HM HV
    by_cases h60 : on + dn ≤ 60
    ·have S1 : HeadF w S m c mt ss t (.slice (some ⟨O', 0, none⟩) (on + dn) oc') (.int .i64 ((k : Int) + 1)) w2 := ⟨k + 1, _, on + dn, oc', hlt, by simp, rfl, h60, by rw [E.out, R.out]; exact ho2, hr2, hb2⟩
     have HS1 := hid S1
     clear S1 ho2 hr2 hb2 R E HQ hsum
     go_wp2
     go_roundw
     case rel => exact HS1.out
     case measure => simp [intOf]; omega
    ·have NO := hid (fits_no (ss := ss) (t := t) (k := k + 1) (by rw [E.out, R.out, hsum]; omega))
     have F := hid (pairF_no NO.out hb2)
     clear ho2 hr2 hb2 R E HQ hsum
     go_wp2
     go_ret2
     exact F.out
  ·have F : AnsPairO w (fitL ss t) (fitsB ss t) (.returned (.tuple #[.slice O on oc, .bool true])) wr := by
    rw [List.take_of_length_le (by rw [HL.out]; omega)] at ho
    have hB : fitsB ss t = true := by unfold fitsB; rw [← Own.len ho]; simp; omega
    exact ⟨O, on, oc, by rw [hB], by unfold fitL; rw [if_pos hB]; exact Own.lower ho (Nat.le_succ _), hb⟩
   have HF := hid F
   clear F ho hr hb h h'
   go_wp2
   go_ret2
   exact HF.out
end filled
end
section
namespace sameSubst
open Go.RowKit base ints sig same marks sym segs segsHelp kinds varsOf fillMath Go.Proofs.Ytblhmplpcdcejaa.look substOk gives
set_option maxRecDepth 100000
end sameSubst
end
section
namespace compMath
open term termOk termFacts segsHelp fillMath substOk gives plainMath plainOf
def compL (us ss : List (List Int)) (i : Nat) : List Int := fillL (givesL us) (givesL ss i)
def outL (us ss : List (List Int)) (k : Nat) : List (List Int) := (List.range k).map (compL us ss)
theorem out_len (us ss : List (List Int)) (k : Nat) : (outL us ss k).length = k := by simp [outL]
end compMath
end
section
namespace plainFacts
open Go.RowKit base ints sig term termOk termFacts fillMath plainMath plainOf substOk gives sameSubst compMath filled
theorem gives_plain {L : Nat → List Int} {m i : Nat} (hpos : ∀ i, 1 ≤ (L i).length) (hout : ∀ i, m ≤ i → L i = vt i) : givesL (plainL L m) i = L i := by
 have e := plain_get L m i
 by_cases h : i < m
 ·rw [rows_get h] at e
  unfold bare at e
  by_cases h2 : L i = vt i
  ·rw [if_pos h2] at e
   rw [gives_var (by rw [e]; rfl), h2]
  ·rw [if_neg h2] at e
   rw [gives_term (by rw [e]; have := hpos i; omega), e]
 ·have e0 : (rowsL L m).getD i [] = [] := by simp [List.getD, rows_len, h]
  rw [e0] at e
  rw [gives_var (by rw [e]; rfl), hout i (by omega)]
end plainFacts
end
section
namespace matchTot
open Go.RowKit base ints sig term termOk app sym sub segs segsHelp plainMath gives plainOf fillMath termFacts matchMath matchSpec
theorem mst_short {sg t : List Int} : ∀ {p : List Int} {k : Nat} {s s' : List (List Int)}, mst sg t p k s = some s' → (∀ i, (s.getD i []).length ≤ t.length) → ∀ i, (s'.getD i []).length ≤ t.length := by
 intro p
 induction p with
 | nil => intro k s s' h hs; injection h with h; subst h; exact hs
 | cons x r ih =>
  intro k s s' h hs
  by_cases h1 : t.length ≤ k
  ·rw [mst_out h1] at h; cases h
  ·by_cases h2 : 0 ≤ x
   ·by_cases h3 : x = t.getD k 0
    ·rw [mst_sym h1 h2 h3] at h; exact ih h hs
    ·rw [mst_symNo h1 h2 h3] at h; cases h
   ·by_cases h3 : (s.getD (vr x) []).length ≠ 0 ∧ s.getD (vr x) [] ≠ subL sg t k
    ·rw [mst_varNo h1 h2 h3] at h; cases h
    ·rw [mst_var h1 h2 h3] at h
     refine ih h (fun i => ?_)
     rw [set_get]
     split
     ·unfold subL; rw [List.length_take, List.length_drop]; omega
     ·exact hs i
theorem match_tot {sg p t : List Int} : tot (resL (matchO sg p t)) ≤ 1048576 := by
 cases h1 : termOkB sg t with
 | false => rw [match_no (.inr h1)]; simp [resL, tot, sumL]
 | true =>
  cases h : matchO sg p t with
  | none => simp [resL, tot, sumL]
  | some s =>
   have ht := (term_len h1).2
   have hs : ∀ i, (s.getD i []).length ≤ t.length := by
    unfold matchO at h
    split at h
    ·exact mst_short h (fun i => by rw [s0_get]; simp)
    ·cases h
   have hg : ∀ i, (givesL s i).length ≤ 60 := fun i => by
    by_cases e : (s.getD i []).length = 0
    ·rw [gives_var e]; simp [vt]
    ·rw [gives_term e]; have := hs i; omega
   have h3 := tot_le (plain_each (L := givesL s) (m := 24) hg)
   have h4 := plain_len (givesL s) 24
   have h5 : (plainL (givesL s) 24).length * 60 ≤ 24 * 60 := Nat.mul_le_mul_right _ h4
   show tot (plainL (givesL s) 24) ≤ 1048576
   omega
end matchTot
end
section
namespace matchFacts
open sig term termOk termFacts endAt sub termMath fillMath posMath segsHelp substOk gives plainMath plainFacts filled sameSubst matchMath matchSpec
theorem mst_terms {sg t : List Int} (hok : termOkB sg t = true) : ∀ {p : List Int} {k : Nat} {s s' : List (List Int)}, mst sg t p k s = some s' → (∀ i, (s.getD i []).length = 0 ∨ termOkB sg (s.getD i []) = true) → ∀ i, (s'.getD i []).length = 0 ∨ termOkB sg (s'.getD i []) = true := by
 intro p
 induction p with
 | nil => intro k s s' h hs; injection h with h; subst h; exact hs
 | cons x r ih =>
  intro k s s' h hs
  by_cases h1 : t.length ≤ k
  ·rw [mst_out h1] at h; cases h
  ·by_cases h2 : 0 ≤ x
   ·by_cases h3 : x = t.getD k 0
    ·rw [mst_sym h1 h2 h3] at h; exact ih h hs
    ·rw [mst_symNo h1 h2 h3] at h; cases h
   ·by_cases h3 : (s.getD (vr x) []).length ≠ 0 ∧ s.getD (vr x) [] ≠ subL sg t k
    ·rw [mst_varNo h1 h2 h3] at h; cases h
    ·rw [mst_var h1 h2 h3] at h
     refine ih h (fun i => ?_)
     rw [set_get]
     split
     ·exact .inr (sub_term hok (by omega)).1
     ·exact hs i
theorem match_terms {sg p t : List Int} {s : List (List Int)} (h : matchO sg p t = some s) : termOkB sg p = true ∧ termOkB sg t = true ∧ s.length = 24 ∧ ∀ i, (s.getD i []).length = 0 ∨ termOkB sg (s.getD i []) = true := by
 obtain ⟨h1, h2⟩ := inst_ok (show instB sg p t = true by unfold instB; rw [h]; rfl)
 refine ⟨h1, h2, (match_turns h).1, ?_⟩
 rw [match_yes h1 h2] at h
 exact mst_terms h2 h (fun i => .inl (by rw [s0_get]; rfl))
theorem res_gives {s : List (List Int)} (h : s.length = 24) (i : Nat) : givesL (resL (some s)) i = givesL s i :=
 gives_plain (gives_pos s) (fun j hj => gives_out (by omega))
end matchFacts
end
section
namespace shape
open Go.RowKit base ints sig cursor marks app sym appAt segs segsHelp segsMark kinds
theorem Owned.num (w : World) (lo hi : Nat) (x : Int) : Owned w lo hi .num [.int .i64 x] x := ⟨[], ⟨rfl, rfl⟩, List.nodup_nil, fun k hk => by cases hk⟩
theorem Ow.num {w w' : World} {cs : List Value} {x : Int} {F : List Nat} (h : Ow w .num cs x F) (y : Int) : Ow w' .num [.int .i64 y] y F := ⟨rfl, h.2⟩
end shape
end
section
namespace kindsW
open Go.RowKit base ints sig cursor marks app sym appAt segs segsHelp segsMark kinds shape
set_option maxRecDepth 100000
abbrev sStep : Sh := .cat .num (.cat .num sI)
theorem parts_Step {w : World} {B : Nat} {v0 : Value} {d : Dat sStep} (h : Rd w B sStep [.int .i64 d.1, .int .i64 d.2.1, v0] d) : Rd w B .num [.int .i64 d.1] d.1 ∧ Rd w B .num [.int .i64 d.2.1] d.2.1 ∧ Rd w B sI [v0] d.2.2 := by
 obtain ⟨p0, q0⟩ := Rd.split (ca := [.int .i64 d.1]) (cb := [.int .i64 d.2.1, v0]) h rfl
 obtain ⟨p1, q1⟩ := Rd.split (ca := [.int .i64 d.2.1]) (cb := [v0]) q0 rfl
 exact ⟨p0, p1, q1⟩
theorem cells_Step {w : World} {B : Nat} {es : List Value} {d : Dat sStep} (h : Rd w B sStep es d) : ∃ (v0 : Value), es = [.int .i64 d.1, .int .i64 d.2.1, v0] := by
 obtain ⟨ca0, cb0, e0, p0, q0⟩ := h
 obtain ⟨ca1, cb1, e1, p1, q1⟩ := q0
 obtain ⟨A2, n2, c2, z2, -⟩ := q1
 exact ⟨.slice A2 n2 c2, by rw [e0, (show _ = _ from p0), e1, (show _ = _ from p1), z2] <;> rfl⟩
abbrev sStepS : Sh := .row 92 sStep
theorem info_StepS : (Try.prog.info? 92).map (fun i => (i.zero, i.size, i.bytes)) = some (some (.agg #[.int .i64 0, .int .i64 0, .slice none 0 0]), 3, 40) := by kernel_rfl
abbrev sWalk : Sh := .cat sI sStepS
theorem parts_Walk {w : World} {B : Nat} {v0 v1 : Value} {d : Dat sWalk} (h : Rd w B sWalk [v0, v1] d) : Rd w B sI [v0] d.1 ∧ Rd w B sStepS [v1] d.2 := by
 obtain ⟨p0, q0⟩ := Rd.split (ca := [v0]) (cb := [v1]) h rfl
 exact ⟨p0, q0⟩
end kindsW
end
section
open Go.Lib (hid)
namespace stepSpec
open Go.RowKit base ints sig term termOk endAt endOf marks app sym sub segs segsHelp kinds termFacts termMath posMath plainMath plainFacts plain gives fillMath shifted matchMath matchSpec putMath varsOf shape kindsR kindsW ruleMath ruleSpec stepMath walkMath
set_option maxRecDepth 100000
theorem right_sys {sg : List Int} {rs : List Rl} {t : List Int} (h : sysOkB sg rs = false) : rightB sg rs t = false := by unfold rightB; rw [h]; rfl
theorem right_parts {sg : List Int} {rs : List Rl} {t : List Int} (h : rightB sg rs t = true) : sysOkB sg rs = true ∧ termOkB sg t = true := by unfold rightB at h; rw [Bool.and_eq_true] at h; exact h
theorem redex_no {sg : List Int} {rs : List Rl} {t : List Int} {a r : Int} (h : thereR sg rs t a r = false) : redexB sg rs t a r = false := by unfold redexB; rw [h]; rfl
theorem redex_yes {sg : List Int} {rs : List Rl} {t : List Int} {a r : Int} (h : thereR sg rs t a r = true) : redexB sg rs t a r = redB sg (rl rs r) t a.toNat := by unfold redexB; rw [h]; rfl
theorem at_no {sg : List Int} {rs : List Rl} {t : List Int} {a r : Int} (h : thereR sg rs t a r = false) : stepAtO sg rs t a r = none := by unfold stepAtO; rw [if_neg (by rw [h]; simp)]
theorem sys_rule {sg : List Int} {rs : List Rl} (h : sysOkB sg rs = true) {r : Nat} (hr : r < rs.length) : ruleOkB sg (rs.getD r ([], [])) = true := by
 have := rl_ok (r := (r : Int)) h (by omega)
 unfold rl at this
 simpa using this
def AnsStep (w : World) (o : Option (List Int)) (e : Ending) (w' : World) : Prop := AnsPairO w (o.getD []) o.isSome e w'
theorem ansStep_no {w w' : World} {o : Option (List Int)} (h : o = none) (hb : Below w.heap.size w w') : AnsStep w o (.returned (.tuple #[.slice (some ⟨w'.heap.size, 0, none⟩) 0 0, .bool false])) (w'.alloc (.cells #[] 2)) :=
 ⟨_, 0, 0, by rw [h]; rfl, by rw [h]; exact own_empty w' w.heap.size hb.size, hb.alloc hb.size _⟩
set_option maxHeartbeats 2000000 in
theorem l7Right (a v : Value) (d : Dat sSystem) (T : Option Addr) (m c : Nat) (t : List Int) (w : World) (h : Rd w w.heap.size sSystem [a, v] d) (hz : sz sSystem d ≤ 1048576) (ht : Seg w w.heap.size T m t) (hm : m ≤ 1048576) :
  Calls Try.prog 61 #[.agg #[a, v], .slice T m c] w (AnsB w (rightB d.1 d.2 t)) := by
 obtain ⟨A, n, cs, V, q, cv, rfl, rfl, hs, hc, hcv, hq, hn, hq1, hrs, hsg, hE⟩ := rd_sys h hz
 obtain ⟨W, hW, rA, bel⟩ := box1 w 34 #[.slice A n cs, .slice V q cv]
 have HW := hid hW
 have L1 := hid (specSystemOk _ _ d W (h.next bel) hz)
 have L2 := hid (fun (w1 : World) (bb : Below w.heap.size w w1) => specTermOk A T n cs m c d.1 t w1 (hs.next bb) (ht.next bb) hn hm)
 clear hW h hz hs hc hcv hq hrs hsg hE ht
 cases ok1 : sysOkB d.1 d.2 with
 | false =>
  have HS := hid ok1
  clear ok1
  go_enter Try.func61, Try.ntmps61
  go_wp2_with fail
  rw [← HW.out]
  refine L1.out.mono ?_
  rintro e w1 ⟨he, bb⟩
  rw [HS.out] at he
  subst he
  have F := hid (ansB (b := rightB d.1 d.2 t) (a := false) (by rw [right_sys HS.out]) (next_trans bel bb))
  clear bb bel rA
  go_wp2
  go_ret
  exact F.out
 | true =>
  obtain ⟨bt, hbt⟩ : ∃ b, termOkB d.1 t = b := ⟨_, rfl⟩
  have HS := hid (show rightB d.1 d.2 t = bt by unfold rightB; rw [ok1, hbt]; rfl)
  have HB := hid hbt
  have H1 := hid ok1
  clear ok1 hbt
  go_enter Try.func61, Try.ntmps61
  go_wp2_with fail
  rw [← HW.out]
  refine L1.out.mono ?_
  rintro e w1 ⟨he, bb⟩
  rw [H1.out] at he
  subst he
  replace rA := rA.next bb
  replace bel := next_trans bel bb
  have cA : w1.cell? ⟨w.heap.size, 0, none⟩ = some (.slice A n cs) := rA.cell 0
  clear bb L1
  go_wp2_with fail
  refine (L2.out _ bel).mono ?_
  rintro e w2 ⟨he, bb⟩
  rw [HB.out] at he
  subst he
  have F := hid (ansB (b := rightB d.1 d.2 t) (a := bt) (by rw [HS.out]) (next_trans bel bb))
  clear bb bel rA cA
  cases bt <;> (go_wp2; go_ret; exact F.out)
-- REST
def SubIn (W : World) (A : Option Addr) (n cs : Nat) (T : Option Addr) (m c : Nat) (x : Int) (ys : List Int) : Prop := ∀ X, Below W.heap.size W X → Calls Try.prog 65 #[.agg #[.slice A n cs], .slice T m c, .int .i64 x] X fun e w' => ∃ D dn dc, e = .returned (.slice D dn dc) ∧ Own w' W.heap.size (.slice D dn dc) ys ∧ Below W.heap.size W w' ∧ Below X.heap.size X w'
def MatchIn (W : World) (A : Option Addr) (n cs : Nat) (P : Option Addr) (pn pc : Nat) (ys : List Int) (R : Option (List (List Int))) : Prop := ∀ X D dn dc, Below W.heap.size W X → Own X W.heap.size (.slice D dn dc) ys → Calls Try.prog 66 #[.agg #[.slice A n cs], .slice P pn pc, .slice D dn dc] X fun e w' => ∃ G gn gc, e = .returned (.tuple #[.agg #[.slice G gn gc], .bool R.isSome]) ∧ Owns w' X.heap.size w'.heap.size G gn gc (resL R) ∧ Below W.heap.size W w' ∧ Below X.heap.size X w'
theorem subIn {W : World} {A : Option Addr} {n cs : Nat} {T : Option Addr} {m c : Nat} {sg t : List Int} {a : Nat} (h : Seg W W.heap.size A n sg) (h' : Seg W W.heap.size T m t) (hn : n ≤ 1048576) (hm : m ≤ 1048576) (hc : m ≤ c) (hc2 : c ≤ 9223372036854775807) (ht : termOkB sg t = true) (ha : a < t.length) : SubIn W A n cs T m c (a : Int) (subL sg t a) := fun X hX => by
 obtain ⟨t1, t2, t3⟩ := term_at ht ha
 have hl := h'.1
 refine (l1Sub A T n cs m c sg t a (len1 sg t a) X (h.next hX) (h'.next hX) hn hm hc hc2 (sig_arities (termOk_parts ht).1).1 (by omega) t1 t2 (by omega)).mono ?_
 rintro e w3 ⟨D, dn, dc, rfl, od, b3⟩
 exact ⟨D, dn, dc, rfl, Own.lower od hX.size, next_trans hX b3, b3⟩
theorem matchIn {W : World} {A : Option Addr} {n cs : Nat} {P : Option Addr} {pn pc : Nat} {sg p ys : List Int} (h : Seg W W.heap.size A n sg) (h' : Seg W W.heap.size P pn p) (hn : n ≤ 1048576) (hp : termOkB sg p = true) (ht : termOkB sg ys = true) : MatchIn W A n cs P pn pc ys (mst sg ys p 0 s0) := fun X D dn dc hX ho => by
 have hpn : pn ≤ 60 := by have := (term_len hp).2; have := h'.1; omega
 have hdn : dn ≤ 60 := by have := (term_len ht).2; have := Own.len ho; omega
 have hcd := look.own_cap ho
 refine (l4Match A P D n cs pn pc dn dc sg p ys X (h.next hX) (h'.next hX) (Own.seg ho) hn hpn hdn hcd.1 hcd.2.1 hp ht).mono ?_
 rintro e w4 ⟨G, gn, gc, rfl, og, b4⟩
 exact ⟨G, gn, gc, rfl, og, next_trans hX b4, b4⟩
theorem box_a {W w : World} {v : Bool} {o : Obj} (h : Below W.heap.size W w) : Value.bool v = .bool v ∧ Below W.heap.size W (w.alloc o) := ⟨rfl, h.alloc h.size _⟩
theorem box_b {W w : World} {v : Bool} {g i : Nat} {u : Value} (h : Below W.heap.size W w) (hg : W.heap.size ≤ g) : Value.bool v = .bool v ∧ Below W.heap.size W (w.setCell ⟨g, i, none⟩ u) := ⟨rfl, h.setCell hg _⟩
theorem step_none {sg : List Int} {x : Rl} {t : List Int} {a : Nat} (h : mst sg (subL sg t a) x.1 0 s0 = none) : stepO sg x t a = none := by unfold stepO; rw [h]
theorem fill_res {s : List (List Int)} (hl : s.length = 24) (p : List Int) : fillL (givesL (resL (some s))) p = fillL (givesL s) p := fill_ext fun _ _ _ => matchFacts.res_gives hl _
theorem step_long {sg : List Int} {x : Rl} {t : List Int} {a : Nat} {s : List (List Int)} (h : mst sg (subL sg t a) x.1 0 s0 = some s) (hl : s.length = 24) (hf : filled.fitsB (resL (some s)) x.2 = false) : stepO sg x t a = none := by
 unfold filled.fitsB at hf
 rw [fill_res hl] at hf
 have := of_decide_eq_false hf
 unfold stepO
 rw [h]
 dsimp only
 rw [if_neg (fun hh => this hh.1)]
theorem step_fits {sg : List Int} {x : Rl} {t : List Int} {a : Nat} {s : List (List Int)} (h : mst sg (subL sg t a) x.1 0 s0 = some s) (hl : s.length = 24) (hf : filled.fitsB (resL (some s)) x.2 = true) : (stepO sg x t a).getD [] = put.fitL sg t (filled.fitL (resL (some s)) x.2) a ∧ (stepO sg x t a).isSome = put.fitB sg t (filled.fitL (resL (some s)) x.2) a := by
 have e0 : filled.fitL (resL (some s)) x.2 = fillL (givesL s) x.2 := by unfold filled.fitL; rw [if_pos hf, fill_res hl]
 unfold filled.fitsB at hf
 rw [fill_res hl] at hf
 have hf := of_decide_eq_true hf
 rw [e0]
 unfold stepO
 rw [h]
 dsimp only
 unfold put.fitL put.fitB
 have e1 : put.putI sg t (fillL (givesL s) x.2) a = putAt sg t (fillL (givesL s) x.2) a := rfl
 rw [e1]
 by_cases hh : (putAt sg t (fillL (givesL s) x.2) a).length ≤ 60
 ·rw [if_pos ⟨hf, hh⟩, if_pos (decide_eq_true hh), decide_eq_true hh]; exact ⟨rfl, rfl⟩
 ·rw [if_neg (fun h => hh h.2), if_neg (by rw [decide_eq_false hh]; simp), decide_eq_false hh]; exact ⟨rfl, rfl⟩
theorem sz_lt (w : World) (o : Obj) : w.heap.size < (w.alloc o).heap.size := by simp
def StepBox (W : World) (bo : Bool) (xss : List (List Int)) (s11 s12 : Value) (wx : World) : Prop := ∃ g G gn gc, s11 = .pointer (some ⟨g, 0, none⟩) ∧ s12 = .bool bo ∧ Row wx g 106 #[.slice G gn gc] ∧ Segs wx wx.heap.size G gn xss ∧ Below W.heap.size W wx
theorem sbox_a {W w : World} {bo : Bool} {xss : List (List Int)} {lo : Nat} {G : Option Addr} {gn gc : Nat} (h : Owns w lo w.heap.size G gn gc xss) (hb : Below W.heap.size W w) : StepBox W bo xss (.pointer (some ⟨w.heap.size, 0, none⟩)) (.bool bo) (w.alloc (.cells #[.slice G gn gc] 106)) :=
 ⟨_, _, _, _, rfl, rfl, Row.new _ _ _, (h.segs.alloc (Nat.le_refl _) _).more (by simp), hb.alloc hb.size _⟩
theorem sbox_b {W w : World} {bo : Bool} {xss : List (List Int)} {lo g : Nat} {G : Option Addr} {gn gc : Nat} (h : Owns w lo w.heap.size G gn gc xss) (hr : Row w g 106 #[.slice none 0 0]) (hg : g < lo) (hW : W.heap.size ≤ g) (hb : Below W.heap.size W w) : StepBox W bo xss (.pointer (some ⟨g, 0, none⟩)) (.bool bo) (w.setCell ⟨g, 0, none⟩ (.slice G gn gc)) := by
 have h2 : Owns (w.setCell ⟨g, 0, none⟩ (.slice G gn gc)) lo w.heap.size G gn gc xss := h.btw (lo' := g) (hi' := g + 1) ⟨rfl, rfl, rfl, by simp, fun k hk ho => Below.heap_setCell w _ _ k (by show k ≠ g; omega)⟩ (.inr (by omega))
 exact ⟨_, _, _, _, rfl, rfl, hr.put 0 _, h2.segs, hb.setCell hW _⟩
set_option maxHeartbeats 4000000 in
theorem l7Step (a v u : Value) (d : Dat sSystem) (t : List Int) (x k : Nat) (w : World) (h : Rd w w.heap.size sSystem [a, v] d) (ht : Rd w w.heap.size sI [u] t) (hz : sz sSystem d ≤ 1048576) (hok : rightB d.1 d.2 t = true) (hx : x < t.length) (hk : k < d.2.length) :
  Calls Try.prog 74 #[.agg #[a, v], u, .int .i64 (x : Int), .int .i64 (k : Int)] w (AnsStep w (stepO d.1 (d.2.getD k ([], [])) t x)) := by
 obtain ⟨T, m, c, rfl, hT, hcT⟩ := rd_ints.1 ht
 obtain ⟨oks, okt⟩ := right_parts hok
 have hm : m ≤ 60 := by have := (term_len okt).2; have := hT.1; omega
 obtain ⟨A, n, cs, V, q, cv, rfl, rfl, hs, hc, hcv, hq, hn, hq1, hrs, hsg, hE⟩ := rd_sys h hz
 rw [hq] at hk
 obtain ⟨b, off, l, rr, y, rfl, hb, ey, cl, cr, hry⟩ := rd_at hrs (Below.refl _ _) hq hk
 have hzy : sz sRule y ≤ 1048576 := by rw [← ey.out]; exact hE k hk
 have okr : ruleOkB d.1 y = true := by rw [← ey.out]; exact sys_rule oks (by rw [hq]; exact hk)
 obtain ⟨P, pn, pc, P', pn', pc', rfl, rfl, sP, kP, sP', kP', hpn, hpn'⟩ := rd_rule hry hzy
 rw [ey.out]
 obtain ⟨W, hW, rA, rR, bel⟩ := box2 w 34 109 #[.slice A n cs, .slice (some ⟨b, off, none⟩) q cv] #[.slice P pn pc, .slice P' pn' pc']
 have HW := hid hW
 have zA : w.heap.size < W.heap.size := rA.lt
 have zR : w.heap.size + 1 < W.heap.size := rR.lt
 have LS := hid (subIn (cs := cs) (c := c) (hs.next bel) (hT.next bel) hn (by omega) hcT.1 hcT.2.1 okt hx)
 have LM := hid (matchIn (cs := cs) (pc := pc) (hs.next bel) (sP.next bel) hn (rule_parts okr).1 (sub_ok okt hx))
 obtain ⟨R, hR⟩ : ∃ R, mst d.1 (subL d.1 t x) y.1 0 s0 = R := ⟨_, rfl⟩
 rw [hR] at LM
 have HRE := hid hR
 obtain ⟨bo, hbo⟩ : ∃ bo, R.isSome = bo := ⟨_, rfl⟩
 have HR := hid hbo
 have HOK := hid (show ruleOkB d.1 y = true ∧ termOkB d.1 t = true ∧ x < t.length from ⟨okr, okt, hx⟩)
 have SS := hid (show Seg w w.heap.size A n d.1 ∧ Seg w w.heap.size T m t ∧ Seg w w.heap.size P' pn' y.2 ∧ m ≤ c ∧ c ≤ 9223372036854775807 from ⟨hs, hT, sP', hcT.1, hcT.2.1⟩)
 have c0 : (w.alloc (.cells #[.slice A n cs, .slice (some ⟨b, off, none⟩) q cv] 34)).cell? ⟨b, off + k * 2, none⟩ = some (.slice P pn pc) := (((Below.refl w.heap.size w).alloc (Nat.le_refl _) _).cell (p := ⟨b, off + k * 2, none⟩) hb).trans cl
 have c1 : (w.alloc (.cells #[.slice A n cs, .slice (some ⟨b, off, none⟩) q cv] 34)).cell? ⟨b, off + k * 2 + 1, none⟩ = some (.slice P' pn' pc') := (((Below.refl w.heap.size w).alloc (Nat.le_refl _) _).cell (p := ⟨b, off + k * 2 + 1, none⟩) hb).trans cr
 have i0 : (0 : Int) ≤ (k : Int) := by omega
 have i1 : (k : Int) < (q : Int) := by omega
 have K0 : W.cell? ⟨w.heap.size, 0, none⟩ = some (.slice A n cs) := rA.cell 0
 have K1 : W.cell? ⟨w.heap.size + 1, 0, none⟩ = some (.slice P pn pc) := rR.cell 0
 have hneA : ¬ w.heap.size = W.heap.size := by omega
 have hnfA : ¬ W.heap.size = w.heap.size := by omega
 have hneR : ¬ w.heap.size + 1 = W.heap.size := by omega
 have hnfR : ¬ W.heap.size = w.heap.size + 1 := by omega
 have BEL := hid bel
 have RA := hid rA
 have RR := hid rR
 have B0 := Below.refl W.heap.size W
 clear hW h hs hc hcv hq hrs hsg hE ht hT hcT oks okt okr sP kP sP' kP' hry hzy hR hbo hx hok hz ey bel rA rR cl cr
 go_enter Try.func74, Try.ntmps74
 go_upto_region 2 with fail
 rw [← HW.out]
 clear c0 c1 i0 i1
 go_cut [11, 12] (fun s11 s12 wx => StepBox W bo (resL R) s11 s12 wx)
 case first =>
  go_region_held3 (fun w' => w'.cell? ⟨w.heap.size, 0, none⟩ = some (.slice A n cs) ∧ w'.cell? ⟨w.heap.size + 1, 0, none⟩ = some (.slice P pn pc))
   (go_keep)
   (first
    | (go_at_call 65; refine (LS.out _ ?_).mono ?_; (first | exact B0 | exact B0.drew | exact (B0.alloc B0.size _) | exact (B0.alloc B0.size _).drew | exact (B0.drew.alloc B0.drew.size _)); rintro e w3 ⟨D, dn, dc, rfl, od, B3, b3⟩; have z3 := B3.size; (first | have r8 := Row.next (Row.drew (Row.new W 106 #[.slice none 0 0])) b3 | have r8 := Row.next (Row.new W.drew 106 #[.slice none 0 0]) b3 | skip); have ne30 : ¬ w.heap.size = w3.heap.size := Nat.ne_of_lt (Nat.lt_of_lt_of_le zA B3.size); have nf30 : ¬ w3.heap.size = w.heap.size := Nat.ne_of_gt (Nat.lt_of_lt_of_le zA B3.size); have ne31 : ¬ (w.heap.size + 1) = w3.heap.size := Nat.ne_of_lt (Nat.lt_of_lt_of_le zR B3.size); have nf31 : ¬ w3.heap.size = (w.heap.size + 1) := Nat.ne_of_gt (Nat.lt_of_lt_of_le zR B3.size); have k0_3 : w3.cell? ⟨w.heap.size, 0, none⟩ = some (.slice A n cs) := (B3.cell (p := ⟨w.heap.size, 0, none⟩) zA).trans K0; have k1_3 : w3.cell? ⟨w.heap.size + 1, 0, none⟩ = some (.slice P pn pc) := (B3.cell (p := ⟨w.heap.size + 1, 0, none⟩) zR).trans K1)
    | (go_at_call 66; refine (LM.out _ _ _ _ ?_ ?_).mono ?_; (first | exact B3 | exact B3.alloc B3.size _); (first | exact od | exact Own.alloc od _); rintro e w4 ⟨G, gn, gc, rfl, og, B4, b4⟩; rw [HR.out]; have z4 := B4.size; (first | have r9 := Row.next r8 b4 | have r9 := Row.next (Row.new w3 106 #[.slice none 0 0]) b4 | skip); (first | (have c9 : _ = some (Value.slice none 0 0) := r9.cell 0; have f9 := r9.free 0) | skip); have ne40 : ¬ w.heap.size = w4.heap.size := Nat.ne_of_lt (Nat.lt_of_lt_of_le zA B4.size); have nf40 : ¬ w4.heap.size = w.heap.size := Nat.ne_of_gt (Nat.lt_of_lt_of_le zA B4.size); have ne41 : ¬ (w.heap.size + 1) = w4.heap.size := Nat.ne_of_lt (Nat.lt_of_lt_of_le zR B4.size); have nf41 : ¬ w4.heap.size = (w.heap.size + 1) := Nat.ne_of_gt (Nat.lt_of_lt_of_le zR B4.size); have k0_4 : w4.cell? ⟨w.heap.size, 0, none⟩ = some (.slice A n cs) := (B4.cell (p := ⟨w.heap.size, 0, none⟩) zA).trans K0; have k1_4 : w4.cell? ⟨w.heap.size + 1, 0, none⟩ = some (.slice P pn pc) := (B4.cell (p := ⟨w.heap.size + 1, 0, none⟩) zR).trans K1))
  all_goals
   go_wp2_with fail
   go_meet
   first | (with_reducible exact sbox_a og B4) | (with_reducible exact sbox_b og r9 (sz_lt _ _) z3 B4) | (with_reducible exact sbox_b og r9 r8.lt (Nat.le_refl _) B4)
 case rest =>
  rename World => wc
  obtain ⟨g, G, gn, gc, rfl, rfl, rS, sg, bx⟩ := hcut
  have bel := BEL.out.trans (bx.mono BEL.out.size)
  replace rA := RA.out.next bx
  replace rR := RR.out.next bx
  clear K0 K1 B0 hneA hnfA hneR hnfR
  cases R with
  | none =>
   obtain rfl : bo = false := HR.out.symm
   have F := hid (ansStep_no (o := stepO d.1 y t x) (step_none HRE.out) bel)
   clear bx bel rA rR rS sg
   go_wp2
   go_ret2
   exact F.out
  | some s =>
   obtain rfl : bo = true := HR.out.symm
   have hmo : matchO d.1 y.1 (subL d.1 t x) = some s := by rw [match_yes (rule_parts HOK.out.1).1 (sub_ok HOK.out.2.1 HOK.out.2.2)]; exact HRE.out
   have hl24 := (match_turns hmo).1
   have hmt := matchFacts.match_terms hmo
   have HGV := hid (fun i => (show (givesL (resL (some s)) i).length ≤ 60 by
    rw [matchFacts.res_gives hl24]
    unfold givesL
    split
    ·simp [vt]
    ·rcases hmt.2.2.2 i with e | e
     ·omega
     ·exact (term_len e).2))
   have HTT := hid (show tot (resL (some s)) ≤ 1048576 by rw [← hmo]; exact matchTot.match_tot)
   have HL24 := hid hl24
   have hv := (rule_parts HOK.out.1).2.1
   have hpn60 : pn' ≤ 60 := by have := (term_len hv).2; have := SS.out.2.2.1.1; omega
   have LF := hid (filled.l2Filled G P' gn gc pn' pc' (resL (some s)) y.2 wc sg (SS.out.2.2.1.next bel) HTT.out hpn60 (fun z hz => (term_mem hv hz).1) HGV.out)
   obtain ⟨bf, hbf⟩ : ∃ bf, filled.fitsB (resL (some s)) y.2 = bf := ⟨_, rfl⟩
   have HBF := hid hbf
   have k0 : wc.cell? ⟨g, 0, none⟩ = some (.slice G gn gc) := rS.cell 0
   have k1 : wc.cell? ⟨w.heap.size + 1, 1, none⟩ = some (.slice P' pn' pc') := rR.cell 1
   clear hmo hl24 hmt hv hbf bx sg LS LM
   go_wp2_with fail
   refine LF.out.mono ?_
   rintro e w5 ⟨O, on, oc, rfl, oO, bb⟩
   rw [HBF.out]
   replace rA := rA.next bb
   replace bel := next_trans bel bb
   clear k0 k1 LF rS rR bb
   cases bf with
   | false =>
    have F := hid (ansStep_no (o := stepO d.1 y t x) (step_long HRE.out HL24.out HBF.out) bel)
    clear bel rA oO
    go_wp2
    go_ret2
    exact F.out
   | true =>
    have E := hid (step_fits HRE.out HL24.out HBF.out)
    have hon : on ≤ 60 := by
     have h1 := Own.len oO
     have h2 : (filled.fitL (resL (some s)) y.2).length ≤ 60 := by
      unfold filled.fitL
      rw [if_pos HBF.out]
      have := HBF.out
      unfold filled.fitsB at this
      exact of_decide_eq_true this
     omega
    have hco := look.own_cap oO
    have LP := hid (put.l3Put A T O n cs m c on oc d.1 t (filled.fitL (resL (some s)) y.2) x w5 (SS.out.1.next bel) (SS.out.2.1.next bel) (Own.seg oO) hco.2.2 hn (by omega) hon SS.out.2.2.2.1 SS.out.2.2.2.2 HOK.out.2.1 HOK.out.2.2)
    have k0 : w5.cell? ⟨w.heap.size, 0, none⟩ = some (.slice A n cs) := rA.cell 0
    clear oO hco rA
    go_wp2_with fail
    refine LP.out.mono ?_
    rintro e w6 ⟨X, xn, xc, rfl, oX, bb⟩
    have F : AnsStep w (stepO d.1 y t x) (.returned (.tuple #[.slice X xn xc, .bool (put.fitB d.1 t (filled.fitL (resL (some s)) y.2) x)])) w6 := ⟨X, xn, xc, by rw [E.out.2], by rw [E.out.1]; exact Own.lower oX bel.size, next_trans bel bb⟩
    have HF := hid F
    clear F oX bb bel k0 LP
    go_wp2
    go_ret2
    exact HF.out
end stepSpec
end
section
namespace stepsMath
open sig term termOk termFacts ruleMath stepMath walkMath
section
variable {sg : List Int} {rs : List Rl} {t : List Int} {i k : Nat}
end
def rdN (sg : List Int) (rs : List Rl) (t : List Int) (i k : Nat) : Nat := ((List.range i).map fun a => rs.countP fun x => redB sg x t a).sum + (rs.take k).countP fun x => redB sg x t i
section
variable {sg : List Int} {rs : List Rl} {t : List Int} {i k : Nat}
theorem rd_zero : rdN sg rs t 0 0 = 0 := rfl
theorem rd_row : rdN sg rs t i rs.length = rdN sg rs t (i + 1) 0 := by
 unfold rdN
 rw [List.take_of_length_le (Nat.le_refl _), List.range_succ, List.map_append, List.sum_append]
 simp
theorem rd_step (h : k < rs.length) : rdN sg rs t i (k + 1) = rdN sg rs t i k + if redB sg (rs.getD k ([], [])) t i = true then 1 else 0 := by
 unfold rdN
 rw [List.take_succ_eq_append_getElem h, List.countP_append]
 have : rs.getD k ([], []) = rs[k] := by simp [List.getD, h]
 rw [this, List.countP_cons, List.countP_nil]
 omega
theorem rd_le : rdN sg rs t i k ≤ i * rs.length + k := by
 unfold rdN
 have h1 : (rs.take k).countP (fun x => redB sg x t i) ≤ k := Nat.le_trans (List.countP_le_length) (by rw [List.length_take]; omega)
 have h2 : ∀ i : Nat, ((List.range i).map fun a => rs.countP fun x => redB sg x t a).sum ≤ i * rs.length := fun i => by
  induction i with
  | zero => simp
  | succ i ih =>
   rw [List.range_succ, List.map_append, List.sum_append, Nat.add_mul]
   have : rs.countP (fun x => redB sg x t i) ≤ rs.length := List.countP_le_length
   simp only [List.map_cons, List.map_nil, List.sum_cons, List.sum_nil]
   omega
 have := h2 i
 omega
theorem rd_none : (rdN sg rs t t.length 0 = 0) ↔ ((List.range t.length).all fun a => rs.all fun x => !redB sg x t a) = true := by
 unfold rdN
 rw [List.take_zero, List.countP_nil, Nat.add_zero, List.sum_eq_zero_iff_forall_eq_nat]
 constructor
 ·intro h
  rw [List.all_eq_true]
  intro a ha
  rw [List.all_eq_true]
  intro x hx
  have h1 := h _ (List.mem_map.2 ⟨a, ha, rfl⟩)
  rw [List.countP_eq_zero] at h1
  have := h1 x hx
  simpa using this
 ·intro h y hy
  obtain ⟨a, ha, rfl⟩ := List.mem_map.1 hy
  rw [List.all_eq_true] at h
  have h1 := h a ha
  rw [List.all_eq_true] at h1
  rw [List.countP_eq_zero]
  intro x hx
  have := h1 x hx
  simpa using this
theorem normal_eq (h : rightB sg rs t = true) : normalB sg rs t = decide (rdN sg rs t t.length 0 = 0) := by
 unfold normalB
 rw [h, Bool.true_and, Bool.eq_iff_iff, decide_eq_true_iff, rd_none]
end
end stepsMath
end
section
namespace dice
open Go.RowKit base ints cursor
section
variable {w w' : World} {p : Nat} {A : Option Addr} {n c i : Nat} {h : Int}
end
end dice
end
section
namespace drawSig
open Go.RowKit base ints sig cursor marks app sym dice
set_option maxRecDepth 100000
section
variable {w : World} {p : Nat} {A : Option Addr} {n c v : Nat} {wr : World} {O : Option Addr} {on oc : Nat} {xs : List Int}
end
end drawSig
end
section
namespace drawTerm
open Go.RowKit base ints sig term cursor marks app sym dice drawSig
set_option maxRecDepth 100000
def Rd (w : World) (p B : Nat) (A : Option Addr) (n : Nat) (xs : List Int) : Prop :=
 xs.length = n ∧ (0 < n → ∃ b off, A = some ⟨b, off, none⟩ ∧ b < B ∧ b ≠ p ∧ ∀ j, j < n → w.cell? ⟨b, off + j, none⟩ = some (.int .i64 (xs.getD j 0)))
theorem Rd.more {w : World} {p B B' : Nat} {A : Option Addr} {n : Nat} {xs : List Int} (h : Rd w p B A n xs) (hB : B ≤ B') : Rd w p B' A n xs :=
 ⟨h.1, fun hn => by obtain ⟨b, off, e, hb, hne, hc⟩ := h.2 hn; exact ⟨b, off, e, by omega, hne, hc⟩⟩
theorem Rd.keep {w w' : World} {p B : Nat} {A : Option Addr} {n : Nat} {xs : List Int} (h : Rd w p B A n xs) (hk : ∀ q : Addr, q.block < B → q.block ≠ p → w'.cell? q = w.cell? q) : Rd w' p B A n xs :=
 ⟨h.1, fun hn => by obtain ⟨b, off, e, hb, hne, hc⟩ := h.2 hn; exact ⟨b, off, e, hb, hne, fun j hj => (hk ⟨b, off + j, none⟩ hb hne).trans (hc j hj)⟩⟩
theorem Rd.below {w w' : World} {p B B' : Nat} {A : Option Addr} {n : Nat} {xs : List Int} (h : Rd w p B A n xs) (hb : Below B' w w') (hB : B ≤ B') : Rd w' p B A n xs :=
 h.keep fun q hq _ => hb.cell (by omega)
theorem Rd.seg {w : World} {p B : Nat} {A : Option Addr} {n : Nat} {xs : List Int} (h : Rd w p B A n xs) : Seg w B A n xs :=
 ⟨h.1, fun hn => by obtain ⟨b, off, e, hb, _, hc⟩ := h.2 hn; exact ⟨b, off, e, hb, hc⟩⟩
section
variable {w : World} {p : Nat} {A : Option Addr} {n c : Nat} {S : Option Addr} {sn sc : Nat} {sg : List Int} {wr w' : World}
end
end drawTerm
end
section
namespace drawAny
open Go.RowKit base ints sig term cursor termOk marks app sym dice drawSig drawTerm
set_option maxRecDepth 100000
theorem Own.cap {w : World} {base : Nat} {O : Option Addr} {on oc : Nat} {xs : List Int} (h : Own w base (.slice O on oc) xs) : on ≤ oc ∧ oc ≤ 9223372036854775807 := by
 rcases h.2 with ⟨e, _⟩ | ⟨g, cap, cur, e, _, _, h1, h2, _⟩
 ·injection e with _ e1 e2; omega
 ·injection e with _ e1 e2
  have := Own.len h
  unfold maxLen at h2
  omega
end drawAny
end
section
namespace drawX
open Go.RowKit base ints sig cursor marks app appAt sym segs shape dice
def RdQ (w : World) (Q : Nat → Prop) : (s : Sh) → List Value → Dat s → Prop
 | .num, cs, (x : Int) => cs = [.int .i64 x]
 | .bit, cs, (x : Bool) => cs = [.bool x]
 | .row _ s, cs, (d : List (Dat s)) => ∃ A n c, cs = [.slice A n c] ∧ Cap A n c ∧ d.length = n ∧
   (0 < n → ∃ b off, A = some ⟨b, off, none⟩ ∧ Q b ∧ ∀ j, j < n → ∃ es, es.length = nc s ∧ Piece w b (off + j * nc s) es ∧ RdQ w Q s es (d.getD j (dft s)))
 | .cat a b, cs, d => ∃ ca cb, cs = ca ++ cb ∧ RdQ w Q a ca d.1 ∧ RdQ w Q b cb d.2
section
variable {w w' : World} {Q Q' : Nat → Prop} {B : Nat}
theorem RdQ.keep (hk : ∀ b, Q b → w'.heap[b]? = w.heap[b]?) : ∀ {s : Sh} {cs : List Value} {d : Dat s}, RdQ w Q s cs d → RdQ w' Q s cs d
 | .num, _, _, h => h
 | .bit, _, _, h => h
 | .row _ s, _, _, h => by
  obtain ⟨A, n, c, e, hc, hl, h1⟩ := h
  refine ⟨A, n, c, e, hc, hl, fun hn => ?_⟩
  obtain ⟨b, off, e2, hb, h2⟩ := h1 hn
  refine ⟨b, off, e2, hb, fun j hj => ?_⟩
  obtain ⟨es, he, hp, hr⟩ := h2 j hj
  exact ⟨es, he, hp.keep (fun p hp => World.cell?_of_block (by rw [hp]; exact hk b hb)), hr.keep hk⟩
 | .cat a b, _, _, h => by
  obtain ⟨ca, cb, e, h1, h2⟩ := h
  exact ⟨ca, cb, e, h1.keep hk, h2.keep hk⟩
theorem RdQ.rd (hk : ∀ b, Q b → b < B) : ∀ {s : Sh} {cs : List Value} {d : Dat s}, RdQ w Q s cs d → Rd w B s cs d
 | .num, _, _, h => h
 | .bit, _, _, h => h
 | .row _ s, _, _, h => by
  obtain ⟨A, n, c, e, hc, hl, h1⟩ := h
  refine ⟨A, n, c, e, hc, hl, fun hn => ?_⟩
  obtain ⟨b, off, e2, hb, h2⟩ := h1 hn
  refine ⟨b, off, e2, hk b hb, fun j hj => ?_⟩
  obtain ⟨es, he, hp, hr⟩ := h2 j hj
  exact ⟨es, he, hp, hr.rd hk⟩
 | .cat a b, _, _, h => by
  obtain ⟨ca, cb, e, h1, h2⟩ := h
  exact ⟨ca, cb, e, h1.rd hk, h2.rd hk⟩
theorem RdQ.len : ∀ {s : Sh} {cs : List Value} {d : Dat s}, RdQ w Q s cs d → cs.length = nc s
 | .num, _, _, h => by have h : _ = _ := h; rw [h]; rfl
 | .bit, _, _, h => by have h : _ = _ := h; rw [h]; rfl
 | .row _ _, _, _, h => by obtain ⟨A, n, c, e, _⟩ := h; rw [e]; rfl
 | .cat a b, _, _, h => by
  obtain ⟨ca, cb, e, h1, h2⟩ := h
  rw [e, List.length_append, h1.len, h2.len]; rfl
theorem RdQ.cat {a b : Sh} {ca cb : List Value} {x : Dat a} {y : Dat b} (h1 : RdQ w Q a ca x) (h2 : RdQ w Q b cb y) : RdQ w Q (.cat a b) (ca ++ cb) (x, y) := ⟨ca, cb, rfl, h1, h2⟩
theorem RdQ.one : ∀ {s : Sh} {cs : List Value} {d : Dat s}, RdQ w Q s cs d → ∀ u ∈ cs, u.oneCell' = true
 | .num, _, _, h, u, hu => by have h : _ = _ := h; rw [h] at hu; rw [List.mem_singleton.1 hu]; rfl
 | .bit, _, _, h, u, hu => by have h : _ = _ := h; rw [h] at hu; rw [List.mem_singleton.1 hu]; rfl
 | .row _ _, _, _, h, u, hu => by obtain ⟨A, n, c, e, _⟩ := h; rw [e] at hu; rw [List.mem_singleton.1 hu]; rfl
 | .cat a b, _, _, h, u, hu => by
  obtain ⟨ca, cb, e, h1, h2⟩ := h
  rw [e] at hu
  rcases List.mem_append.1 hu with hu | hu
  ·exact h1.one u hu
  ·exact h2.one u hu
end
def OutR (w : World) (p : Nat) (r : Option Nat) (b : Nat) : Prop := b < w.heap.size ∧ b ≠ p ∧ some b ≠ r
section
variable {w w' : World} {p : Nat} {r : Option Nat} {s : Sh} {cs : List Value} {d : Dat s}
end
def cellsOf (k : Nat) (vs : List Value) (j : Nat) : List Value := (vs.drop (j * k)).take k
def OwnQ (w : World) (p lo : Nat) (e : TypeId) (s : Sh) (A : Option Addr) (n c : Nat) (D : List (Dat s)) : Prop :=
 D.length = n ∧ ∃ vs : List Value, w.ownsRow lo e (nc s) (.slice A n c) n vs ∧ ∀ j, j < n → RdQ w (OutR w p (blk A)) s (cellsOf (nc s) vs j) (D.getD j (dft s))
section
variable {w w' : World} {p lo n c : Nat} {e : TypeId} {s : Sh} {A : Option Addr} {D : List (Dat s)}
theorem OwnQ.nil (w : World) (p lo : Nat) (e : TypeId) (s : Sh) : OwnQ w p lo e s none 0 0 [] := ⟨rfl, [], ⟨by simp, .inl ⟨rfl, rfl⟩⟩, fun j hj => absurd hj (Nat.not_lt_zero _)⟩
end
end drawX
end
section
namespace ownL
open Go.RowKit base ints sig cursor marks app appAt sym segs shape drawX
set_option maxRecDepth 100000
theorem Ow.one {w : World} : ∀ {s : Sh} {cs : List Value} {d : Dat s} {F : List Nat}, Ow w s cs d F → ∀ u ∈ cs, u.oneCell' = true
 | .num, _, _, _, h, u, hu => by have h : _ = _ ∧ _ := h; rw [h.1] at hu; rw [List.mem_singleton.1 hu]; rfl
 | .bit, _, _, _, h, u, hu => by have h : _ = _ ∧ _ := h; rw [h.1] at hu; rw [List.mem_singleton.1 hu]; rfl
 | .row _ _, _, _, _, h, u, hu => by obtain ⟨A, n, c, e, _⟩ := h; rw [e] at hu; rw [List.mem_singleton.1 hu]; rfl
 | .cat a b, _, _, _, h, u, hu => by
  obtain ⟨ca, cb, Fa, Fb, e, _, h1, h2⟩ := h
  rw [e] at hu
  rcases List.mem_append.1 hu with hu | hu
  ·exact Ow.one h1 u hu
  ·exact Ow.one h2 u hu
def OwnL (w : World) (lo hi : Nat) (e : TypeId) (s : Sh) (A : Option Addr) (n c : Nat) (D : List (Dat s)) : Prop :=
 D.length = n ∧ (∀ k, blk A = some k → k < hi) ∧ ∃ (vs : List Value) (G : Nat → List Nat), w.ownsRow lo e (nc s) (.slice A n c) n vs ∧ (A = none → c = 0) ∧ ((List.range n).flatMap G).Nodup ∧
  ∀ j, j < n → Ow w s (cellsOf (nc s) vs j) (D.getD j (dft s)) (G j) ∧ ∀ q ∈ G j, lo ≤ q ∧ q < hi ∧ some q ≠ blk A
section
variable {w w' : World} {lo hi n c : Nat} {e : TypeId} {s : Sh} {A : Option Addr} {D : List (Dat s)}
theorem OwnL.nil (w : World) (lo hi : Nat) (e : TypeId) (s : Sh) : OwnL w lo hi e s none 0 0 [] := ⟨rfl, (fun k hk => by cases hk), [], fun _ => [], ⟨by simp, .inl ⟨rfl, rfl⟩⟩, fun _ => rfl, by simp, fun j hj => absurd hj (Nat.not_lt_zero _)⟩
theorem OwnL.keep (h : OwnL w lo hi e s A n c D) (hk : ∀ k, lo ≤ k → k < hi → k < w.heap.size → w'.heap[k]? = w.heap[k]?) (hs : w.heap.size ≤ w'.heap.size) : OwnL w' lo hi e s A n c D := by
 obtain ⟨h1, h2, vs, G, h3, h4, h5, h6⟩ := h
 refine ⟨h1, h2, vs, G, ?_, h4, h5, fun j hj => ⟨(h6 j hj).1.keep fun q hq => ?_, (h6 j hj).2⟩⟩
 ·refine ⟨h3.1, ?_⟩
  rcases h3.2 with q | ⟨g, cap, cur, e1, hg, hr, q⟩
  ·exact .inl q
  ·have hlt := (Array.getElem?_eq_some_iff.1 hr).1
   injection e1 with e2 e3 e4
   exact .inr ⟨g, cap, cur, by rw [e2, e4], hg, (hk g hg (h2 g (by rw [e2]; rfl)) hlt).trans hr, q⟩
 ·have := (h6 j hj).2 q hq
  exact hk q this.1 this.2.1 ((h6 j hj).1.lt q hq)
theorem OwnL.next (h : OwnL w lo hi e s A n c D) (hb : Below w.heap.size w w') : OwnL w' lo hi e s A n c D := h.keep (fun k _ _ hk => hb.block k hk) hb.size
theorem OwnL.btw {lo' hi' : Nat} (h : OwnL w lo hi e s A n c D) (hb : Btw lo' hi' w w') (ho : hi ≤ lo' ∨ hi' ≤ lo) : OwnL w' lo hi e s A n c D := h.keep (fun k h1 h2 hk => hb.block k hk (by omega)) hb.size
theorem OwnL.wider {lo' hi' : Nat} (h : OwnL w lo hi e s A n c D) (h1 : lo' ≤ lo) (h2 : hi ≤ hi') : OwnL w lo' hi' e s A n c D := by
 obtain ⟨q1, q2, vs, G, q3, q4, q5, q6⟩ := h
 refine ⟨q1, fun k hk => Nat.lt_of_lt_of_le (q2 k hk) h2, vs, G, ⟨q3.1, ?_⟩, q4, q5, fun j hj => ⟨(q6 j hj).1, fun q hq => ?_⟩⟩
 ·rcases q3.2 with q | ⟨g, cap, cur, e1, hg, q⟩
  ·exact .inl q
  ·exact .inr ⟨g, cap, cur, e1, by omega, q⟩
 ·have := (q6 j hj).2 q hq
  exact ⟨by omega, by omega, this.2.2⟩
theorem OwnL.ge (h : OwnL w lo hi e s A n c D) : ∀ k, blk A = some k → lo ≤ k ∧ k < w.heap.size := fun k hk => by
 obtain ⟨_, _, vs, G, ho, _⟩ := h
 exact World.ownsRow.lt ho k (by rw [blk_own]; exact hk)
theorem OwnL.owned (h : OwnL w lo hi e s A n c D) : Owned w lo hi (.row e s) [.slice A n c] D := by
 obtain ⟨h1, h2, vs, G, h3, h4, h5, h6⟩ := h
 rcases h3.2 with ⟨e1, h0⟩ | ⟨g, cap, cur, e1, hg, hrow, hn, hm, hs, ht⟩
 ·injection e1 with a1 a2 a3
  subst a1 a2 a3
  exact ⟨[], ⟨none, 0, 0, rfl, h1, .inl ⟨rfl, rfl, rfl, rfl⟩⟩, by simp, fun k hk => by cases hk⟩
 ·injection e1 with a1 a2 a3
  subst a1 a3
  have hl : vs.length = n * nc s := h3.1
  refine ⟨g :: (List.range n).flatMap G, ⟨_, n, c, rfl, h1, .inr ⟨g, cur, cellsOf (nc s) vs, G, rfl, hrow, hn, by unfold maxLen at hm; omega, hs, rfl, fun j hj => ?_⟩⟩, List.nodup_cons.2 ⟨fun hb => ?_, h5⟩, fun k hk => ?_⟩
  ·have hjn : j * nc s + nc s ≤ n * nc s := by
    have := Nat.mul_le_mul_right (nc s) (show j + 1 ≤ n by omega)
    rw [Nat.add_mul] at this
    omega
   refine ⟨(h6 j hj).1.len, fun i hi => ?_, (h6 j hj).1⟩
   have h7 : cur.toList[j * nc s + i]? = vs[j * nc s + i]? := by rw [← ht, List.getElem?_take, if_pos (by omega)]
   rw [← Array.getElem?_toList, h7]
   unfold cellsOf
   rw [List.getElem?_take, if_pos hi, List.getElem?_drop]
  ·obtain ⟨j, hj, hb⟩ := List.mem_flatMap.1 hb
   exact ((h6 j (List.mem_range.1 hj)).2 g hb).2.2 rfl
  ·rcases List.mem_cons.1 hk with hk | hk
   ·rw [hk]; exact ⟨hg, h2 g rfl⟩
   ·obtain ⟨j, hj, hb⟩ := List.mem_flatMap.1 hk
    have := (h6 j (List.mem_range.1 hj)).2 k hb
    exact ⟨this.1, this.2.1⟩
theorem OwnL.rd (h : OwnL w lo hi e s A n c D) : Rd w w.heap.size (.row e s) [.slice A n c] D := h.owned.rd
theorem cells_left {k n j : Nat} {vs es : List Value} (hl : vs.length = n * k) (hj : j < n) : cellsOf k (vs ++ es) j = cellsOf k vs j := by
 have hjn : j * k + k ≤ n * k := by
  have := Nat.mul_le_mul_right k (show j + 1 ≤ n by omega)
  rw [Nat.add_mul] at this
  omega
 unfold cellsOf
 rw [List.drop_append_of_le_length (by omega), List.take_append_of_le_length (by rw [List.length_drop]; omega)]
theorem cells_right {k n j : Nat} {vs es : List Value} (hl : vs.length = n * k) : cellsOf k (vs ++ es) (n + j) = cellsOf k es j := by
 unfold cellsOf
 rw [show (n + j) * k = vs.length + j * k by rw [hl, Nat.add_mul], ← List.drop_drop, List.drop_left]
theorem flat_range {G H : Nat → List Nat} : ∀ {n m : Nat}, (List.range (n + m)).flatMap (fun j => if j < n then G j else H (j - n)) = (List.range n).flatMap G ++ (List.range m).flatMap H
 | n, 0 => by
  simp only [Nat.add_zero, List.range_zero, List.flatMap_nil, List.append_nil]
  rw [List.flatMap_def, List.flatMap_def]
  congr 1
  exact List.map_congr_left fun j hj => if_pos (List.mem_range.1 hj)
 | n, m + 1 => by
  rw [← Nat.add_assoc, List.range_succ, List.flatMap_append, flat_range, List.range_succ, List.flatMap_append]
  simp
  intro h; omega
theorem ownL_app {mid hi2 m : Nat} {vs es : List Value} {G : Nat → List Nat} {E : List (Dat s)} {H : Nat → List Nat} {A' : Option Addr} {c' : Nat} (h1 : D.length = n) (h2 : ∀ k, blk A = some k → k < hi) (h3 : w.ownsRow lo e (nc s) (.slice A n c) n vs) (h5 : ((List.range n).flatMap G).Nodup)
  (h6 : ∀ j, j < n → Ow w s (cellsOf (nc s) vs j) (D.getD j (dft s)) (G j) ∧ ∀ q ∈ G j, lo ≤ q ∧ q < hi ∧ some q ≠ blk A) (hmid : hi ≤ mid) (hlo : lo ≤ mid)
  (hE : E.length = m) (hn : ((List.range m).flatMap H).Nodup) (hin : ∀ j, j < m → Ow w s (cellsOf (nc s) es j) (E.getD j (dft s)) (H j) ∧ ∀ q ∈ H j, mid ≤ q ∧ q < hi2)
  (hown : w'.ownsRow lo e (nc s) (.slice A' (n + m) c') (n + m) (vs ++ es)) (hg : w.grownBy w' (blk A)) (hat : blk A' = blk A ∨ blk A' = some w.heap.size) (hc' : A' = none → c' = 0) : OwnL w' lo w'.heap.size e s A' (n + m) c' (D ++ E) := by
 have hvl : vs.length = n * nc s := h3.1
 have hA' : ∀ k, blk A' = some k → k < w'.heap.size := fun k hk => (World.ownsRow.lt hown k (by rw [blk_own]; exact hk)).2
 refine ⟨by simp [h1, hE], hA', vs ++ es, fun j => if j < n then G j else H (j - n), hown, hc', ?_, fun j hj => ?_⟩
 ·rw [flat_range]
  refine List.nodup_append.2 ⟨h5, hn, fun x hx y hy e => ?_⟩
  obtain ⟨i, hi', hx⟩ := List.mem_flatMap.1 hx
  obtain ⟨j, hj', hy⟩ := List.mem_flatMap.1 hy
  have q1 := (h6 i (List.mem_range.1 hi')).2 x hx
  have q2 := (hin j (List.mem_range.1 hj')).2 y hy
  omega
 ·dsimp only
  by_cases ej : j < n
  ·rw [if_pos ej, cells_left hvl ej, show (D ++ E).getD j (dft s) = D.getD j (dft s) by simp [List.getD, List.getElem?_append_left (show j < D.length by omega)]]
   obtain ⟨o1, o2⟩ := h6 j ej
   refine ⟨o1.keep fun q hq => hg.block q (o1.lt q hq) (fun e => (o2 q hq).2.2 e), fun q hq => ?_⟩
   have q3 := o2 q hq
   refine ⟨q3.1, Nat.lt_of_lt_of_le (o1.lt q hq) hg.size, ?_⟩
   rcases hat with e2 | e2
   ·rw [e2]; exact q3.2.2
   ·rw [e2]; intro e3; injection e3 with e3; have := o1.lt q hq; omega
  ·obtain ⟨i, rfl⟩ : ∃ i, j = n + i := ⟨j - n, by omega⟩
   have hi' : i < m := by omega
   rw [if_neg ej, cells_right hvl, show n + i - n = i by omega, show (D ++ E).getD (n + i) (dft s) = E.getD i (dft s) by simp [List.getD, List.getElem?_append_right (show D.length ≤ n + i by omega), h1]]
   obtain ⟨o1, o2⟩ := hin i hi'
   have hne : ∀ q ∈ H i, some q ≠ blk A := fun q hq e => by
    have := h2 q e.symm
    have := o2 q hq
    omega
   refine ⟨o1.keep fun q hq => hg.block q (o1.lt q hq) (fun e => hne q hq e), fun q hq => ?_⟩
   have q3 := o2 q hq
   refine ⟨by omega, Nat.lt_of_lt_of_le (o1.lt q hq) hg.size, ?_⟩
   rcases hat with e2 | e2
   ·rw [e2]; exact hne q hq
   ·rw [e2]; intro e3; injection e3 with e3; have := o1.lt q hq; omega
end
theorem OwnL.single {w : World} {lo hi g : Nat} {e : TypeId} {s : Sh} {es : List Value} {y : Dat s} (hr : Row w g e es.toArray) (ho : Owned w lo hi s es y) (hg : hi ≤ g) (hlo : lo ≤ g) : OwnL w lo (g + 1) e s (some ⟨g, 0, none⟩) 1 1 [y] := by
 obtain ⟨F, hF, hFn, hFb⟩ := ho
 have hel := hF.len
 refine ⟨rfl, fun k hk => by injection hk with hk; have hk : g = k := hk; omega, es, fun _ => F, ⟨by rw [hel]; simp, .inr ⟨g, 1, es.toArray, rfl, hlo, hr, Nat.le_refl _, by unfold maxLen; omega, by simp [hel], by simp [← hel]⟩⟩, (fun e => by cases e), by simpa using hFn, fun j hj => ?_⟩
 obtain rfl : j = 0 := by omega
 refine ⟨?_, fun q hq => ?_⟩
 ·have : cellsOf (nc s) es 0 = es := by unfold cellsOf; rw [Nat.zero_mul, List.drop_zero, List.take_of_length_le (by omega)]
  rw [this]; exact hF
 ·have := hFb q hq
  refine ⟨this.1, by omega, fun e => ?_⟩
  injection e with e
  have e : q = g := e
  omega
theorem run_appL {w : World} (ty T e : TypeId) (s : Sh) (z : Value) (bytes : Nat) (hT : Try.prog.underlying T = some (.slice e))
  (hI : (Try.prog.info? e).map (fun i => (i.zero, i.size, i.bytes)) = some (some z, nc s, bytes)) (hzc : z.cells.size = nc s) (hby : bytes ≤ 4096)
  (lo hi mid hi2 : Nat) (A : Option Addr) (n c g m c2 : Nat) (D E : List (Dat s)) (hown : OwnL w lo hi e s A n c D) (hx : OwnL w mid hi2 e s (some ⟨g, 0, none⟩) m c2 E) (hmid : hi ≤ mid) (hlm : lo ≤ mid) (hn : n ≤ 1048576) (hm : m ≤ 1048576) (hlo : lo ≤ w.heap.size) :
  ∃ A' c' w', (Builtin.append_ #[T, T] ty #[.slice A n c, .slice (some ⟨g, 0, none⟩) m c2]).run Try.prog w = .ok (.slice A' (n + m) c') w' ∧ OwnL w' lo w'.heap.size e s A' (n + m) c' (D ++ E) ∧ w.grownBy w' (blk A) ∧ (blk A' = blk A ∨ blk A' = some w.heap.size) ∧ Below lo w w' ∧ (A ≠ none ∨ 0 < m → ∃ g', A' = some ⟨g', 0, none⟩) := by
 obtain ⟨i0, hi', hz0, hz1, hz2⟩ := info_parts hI
 obtain ⟨h1, h2, vs, G, hr, h4, h5, h6⟩ := hown
 obtain ⟨k1, k2, us, H, kr, k4, k5, k6⟩ := hx
 have hul : us.length = m * nc s := kr.1
 have hone : ∀ u ∈ us, u.oneCell' = true := fun u hu => by
  obtain ⟨i, hi2, rfl⟩ := List.getElem_of_mem hu
  have hnp := nc_pos s
  have hj : i / nc s < m := by rw [Nat.div_lt_iff_lt_mul hnp]; omega
  refine Ow.one (k6 (i / nc s) hj).1 _ ?_
  unfold cellsOf
  have hdm : i / nc s * nc s + i % nc s = i := by rw [Nat.mul_comm]; exact Nat.div_add_mod i (nc s)
  have hmod := Nat.mod_lt i hnp
  refine List.mem_of_getElem? (i := i % nc s) ?_
  rw [List.getElem?_take, if_pos hmod, List.getElem?_drop, hdm]
  exact List.getElem?_eq_getElem hi2
 have hcells : ∀ j u, us[j]? = some u → w.cell? ((⟨g, 0, none⟩ : Addr).add j) = some u := fun j u hj => by
  have e2 : (⟨g, 0, none⟩ : Addr).add j = ⟨g, j, none⟩ := by unfold Addr.add; split <;> simp_all
  rw [e2]
  rcases kr.2 with ⟨e1, _⟩ | ⟨g', cap, cur, e1, _, hrow, _, _, _, ht⟩
  ·cases e1
  ·injection e1 with a1 a2 a3
   injection a1 with a1
   injection a1 with a1
   subst a1
   rw [Row.cell (t := e) (cs := cur) hrow, ← Array.getElem?_toList]
   have hjl := (List.getElem?_eq_some_iff.1 hj).1
   rw [← ht, List.getElem?_take, if_pos (by omega)] at hj
   exact hj
 obtain ⟨v', w', hrun, hown', hg, hnn, hat⟩ := run_append_own_at (P := Try.prog) w lo T ty e i0 z (nc s) bytes hT hi' hz0 hz1 hz2 hzc (nc_pos s) (.slice A n c) n vs hr ⟨g, 0, none⟩ m c2 us hul hcells hone (by unfold maxLen; omega) (by have h1 : (n + m) * bytes ≤ 2097152 * 4096 := Nat.mul_le_mul (by omega) hby; omega) hlo
 rw [blk_own] at hg
 have hform : ∃ A' c', v' = .slice A' (n + m) c' ∧ (A' = none → c' = 0) ∧ (A ≠ none ∨ 0 < m → ∃ g', A' = some ⟨g', 0, none⟩) := by
  rcases hown'.2 with ⟨e1, h0⟩ | ⟨g', cap, cur, e1, _⟩
  ·refine ⟨none, 0, by rw [e1, h0], fun _ => rfl, fun hh => ?_⟩
   have := (hnn.1 e1)
   rcases hh with hh | hh
   ·exact absurd (by have := this.1; injection this) hh
   ·omega
  ·exact ⟨_, _, e1, (fun e => by cases e), fun _ => ⟨g', rfl⟩⟩
 obtain ⟨A', c', rfl, hc', hf⟩ := hform
 rw [blk_own, blk_own] at hat
 exact ⟨A', c', w', hrun, ownL_app (hi2 := hi2) (H := H) h1 h2 hr h5 h6 hmid hlm k1 k5 (fun j hj => ⟨(k6 j hj).1, fun q hq => ⟨((k6 j hj).2 q hq).1, ((k6 j hj).2 q hq).2.1⟩⟩) hown' hg hat hc', hg, hat, (Below.refl lo w).grown hg hlo (fun k hk => (World.ownsRow.lt hr k (by rw [blk_own]; exact hk)).1), hf⟩
theorem wp_appL {w : World} {o : Oper} {a : Act} {K : Act → World → Prop} {Q : Exit → Act → World → Prop} (sx x : Operand) (T e : TypeId) (s : Sh) (z : Value) (bytes : Nat) (hT : Try.prog.underlying T = some (.slice e))
  (hI : (Try.prog.info? e).map (fun i => (i.zero, i.size, i.bytes)) = some (some z, nc s, bytes)) (hzc : z.cells.size = nc s) (hby : bytes ≤ 4096)
  (ho : o.op = .call { callee := .builtin .append, args := #[sx, x], argTypes := #[T, T] })
  (lo hi mid hi2 : Nat) (A : Option Addr) (n c g m c2 : Nat) (D E : List (Dat s)) (hs : a.eval sx = .slice A n c) (hown : OwnL w lo hi e s A n c D) (hxv : a.eval x = .slice (some ⟨g, 0, none⟩) m c2) (hx : OwnL w mid hi2 e s (some ⟨g, 0, none⟩) m c2 E) (hmid : hi ≤ mid) (hlm : lo ≤ mid) (hn : n ≤ 1048576) (hm : m ≤ 1048576) (hlo : lo ≤ w.heap.size)
  (h : ∀ A' c' w', OwnL w' lo w'.heap.size e s A' (n + m) c' (D ++ E) → w.grownBy w' (blk A) → (blk A' = blk A ∨ blk A' = some w.heap.size) → Below lo w w' → (A ≠ none ∨ 0 < m → ∃ g', A' = some ⟨g', 0, none⟩) → K (a.put o.dst (.slice A' (n + m) c')) w') : o.wp Try.prog a w K Q := by
 obtain ⟨A', c', w', hr, h2, h3, h4, h5, h6⟩ := run_appL o.type T e s z bytes hT hI hzc hby lo hi mid hi2 A n c g m c2 D E hown hx hmid hlm hn hm hlo
 unfold Oper.wp execOp
 simp only [ho, resolve, invoke, builtin, Sem.run_bind, Sem.run_pure, Result.andThen_ok, List.map_toArray, List.map_cons, List.map_nil, hs, hxv, hr]
 exact h A' c' w' h2 h3 h4 h5 h6
theorem appLm {w : World} {ops : Array Oper} {rest : List Oper} {o : Oper} {a : Act} {Q : Exit → Act → World → Prop} (hgd : o.guard = none) (sx x : Operand) (T e : TypeId) (s : Sh) (z : Value) (bytes : Nat) (hT : Try.prog.underlying T = some (.slice e))
  (hI : (Try.prog.info? e).map (fun i => (i.zero, i.size, i.bytes)) = some (some z, nc s, bytes)) (hzc : z.cells.size = nc s) (hby : bytes ≤ 4096)
  (ho : o.op = .call { callee := .builtin .append, args := #[sx, x], argTypes := #[T, T] })
  (lo hi mid hi2 : Nat) (A : Option Addr) (n c g m c2 : Nat) (D E : List (Dat s)) (hs : a.eval sx = .slice A n c) (hown : OwnL w lo hi e s A n c D) (hxv : a.eval x = .slice (some ⟨g, 0, none⟩) m c2) (hx : OwnL w mid hi2 e s (some ⟨g, 0, none⟩) m c2 E) (hmid : hi ≤ mid) (hlm : lo ≤ mid) (hn : n ≤ 1048576) (hm : m ≤ 1048576) (hlo : lo ≤ w.heap.size)
  (h : ∀ A' c' w', OwnL w' lo w'.heap.size e s A' (n + m) c' (D ++ E) → w.grownBy w' (blk A) → (blk A' = blk A ∨ blk A' = some w.heap.size) → Below lo w w' → (A ≠ none ∨ 0 < m → ∃ g', A' = some ⟨g', 0, none⟩) → wpList Try.prog ops Q rest (a.put o.dst (.slice A' (n + m) c')) w') : wpList Try.prog ops Q (o :: rest) a w :=
 wpList_plain hgd fun _ hK => wp_appL sx x T e s z bytes hT hI hzc hby ho lo hi mid hi2 A n c g m c2 D E hs hown hxv hx hmid hlm hn hm hlo fun A' c' w' h1 h2 h3 h4 h5 => hK _ _ (h A' c' w' h1 h2 h3 h4 h5)
end ownL
end
section
namespace stepSpec
open Go.RowKit base ints sig term termOk endAt endOf marks app sym sub segs segsHelp kinds termFacts shifted matchMath matchSpec shape kindsR kindsW ruleMath ruleSpec stepMath walkMath stepsMath ownL
set_option maxRecDepth 100000
theorem owned_step {w : World} {lo : Nat} {A : Option Addr} {n c : Nat} {v : List Int} (h : Own w lo (.slice A n c) v) (a b : Int) : Owned w lo w.heap.size sStep [.int .i64 a, .int .i64 b, .slice A n c] (a, b, v) := by
 obtain ⟨F, h1, h2, h3⟩ := (ow_ints (lo := lo) (hi := w.heap.size)).2 (Ownd.of_own h)
 exact ⟨F, ⟨[.int .i64 a], [.int .i64 b, .slice A n c], [], F, rfl, rfl, ⟨rfl, rfl⟩, ⟨[.int .i64 b], [.slice A n c], [], F, rfl, rfl, ⟨rfl, rfl⟩, h1⟩⟩, h2, h3⟩
structure Sn (w : World) (A V : Option Addr) (n cs q cv : Nat) (L : List St) (O : Option Addr) (on oc : Nat) (wr : World) : Prop where
 r : Row wr w.heap.size 34 #[.slice A n cs, .slice V q cv]
 o : OwnL wr (w.heap.size + 1) wr.heap.size 92 sStep O on oc L
 b : Below w.heap.size w wr
theorem Sn.len {w wr : World} {A V : Option Addr} {n cs q cv : Nat} {L : List St} {O : Option Addr} {on oc : Nat} (h : Sn w A V n cs q cv L O on oc wr) : L.length = on := h.o.1
end stepSpec
end
section
open Go.Lib (hid)
namespace stepSpec
open Go.RowKit base ints sig term termOk endAt endOf marks app sym sub segs segsHelp kinds termFacts shifted matchMath matchSpec shape kindsR kindsW ruleMath ruleSpec stepMath walkMath stepsMath ownL varsOf
set_option maxRecDepth 100000
def RowB (w : World) (T : TypeId) (cs : Array Value) (wr : World) : Prop := Row wr w.heap.size T cs ∧ Below w.heap.size w wr
set_option maxHeartbeats 4000000 in
theorem l7Redexes (a v u : Value) (d : Dat sSystem) (t : List Int) (w : World) (h : Rd w w.heap.size sSystem [a, v] d) (ht : Rd w w.heap.size sI [u] t) (hz : sz sSystem d ≤ 1048576) (hok : rightB d.1 d.2 t = true) :
  Calls Try.prog 100 #[.agg #[a, v], u] w fun e w' => e = .returned (.int .i64 (rdN d.1 d.2 t t.length 0 : Nat)) ∧ Below w.heap.size w w' := by
 obtain ⟨T, m, c, rfl, hT, hcT⟩ := rd_ints.1 ht
 have h0 := h
 obtain ⟨A, n, cs, V, q, cv, rfl, rfl, hs, hc, hcv, hq, hn, hq1, hrs, hsg, hE⟩ := rd_sys h hz
 have HQ := hid hq
 have HTL := hid hT.1
 have HT := hid hT
 have HS := hid hs
 have HRS := hid hrs
 have HE := hid hE
 have HOK := hid (right_parts hok)
 have hcT1 := hcT.1
 have hcT2 := hcT.2.1
 have hm : m ≤ 60 := by have := (term_len (right_parts hok).2).2; have := hT.1; omega
 have hq12 : q ≤ 12 := by have := (sys_parts (right_parts hok).1).2.1; omega
 have HLEN := hid (fun i k (hi : i ≤ m) (hk : k ≤ q) => (show rdN d.1 d.2 t i k ≤ 1000 by
  have h1 := rd_le (sg := d.1) (rs := d.2) (t := t) (i := i) (k := k)
  have h2 : i * d.2.length ≤ 60 * 12 := Nat.mul_le_mul (by omega) (by rw [hq]; omega)
  omega))
 have HS0 := hid (show RowB w 34 #[.slice A n cs, .slice V q cv] (w.alloc (.cells #[.slice A n cs, .slice V q cv] 34)) from ⟨Row.new _ _ _, (Below.refl _ _).alloc (Nat.le_refl _) _⟩)
 clear h h0 ht hz hok hs hc hcv hq hrs hsg hE hT hcT
 go_enter Try.func100, Try.ntmps100
 go_wp2_with fail
 go_loopg [5, 6] m (fun G many at_ wr => ∃ i : Nat, at_ = .int .i64 i ∧ i + G = m ∧ many = .int .i64 (rdN d.1 d.2 t i 0 : Nat) ∧ RowB w 34 #[.slice A n cs, .slice V q cv] wr)
 case atStart => exact ⟨0, rfl, by omega, by rw [rd_zero]; rfl, HS0.out⟩
 case round =>
  clear HS0
  obtain ⟨i, rfl, hiG, rfl, S⟩ := hrel
  obtain ⟨G, hG⟩ : ∃ G, G = gk := ⟨_, rfl⟩
  subst hG
  by_cases him : i < m
  ·have HI := hid hiG
   have HSS := hid S
   clear hiG S
   generalize hz0 : (rdN d.1 d.2 t i 0 : Nat) = z0
   have HZ0 := hid hz0
   clear hz0
   go_wp2_with fail
   go_loopg [5, 7] q (fun g many r wr => ∃ k : Nat, r = .int .i64 k ∧ k + g = q ∧ many = .int .i64 (rdN d.1 d.2 t i k : Nat) ∧ RowB w 34 #[.slice A n cs, .slice V q cv] wr)
   case atStart => exact ⟨0, rfl, by omega, by rw [HZ0.out], HSS.out⟩
   case round =>
    clear HSS HZ0
    obtain ⟨k, rfl, hkg, rfl, S⟩ := hrel
    have K0 : wr.cell? ⟨w.heap.size, 0, none⟩ = some (.slice A n cs) := S.1.cell 0
    have K1 : wr.cell? ⟨w.heap.size, 1, none⟩ = some (.slice V q cv) := S.1.cell 1
    generalize hzk : (rdN d.1 d.2 t i k : Nat) = zk
    have HZK := hid hzk
    have hzk1 : zk ≤ 1000 := by rw [← hzk]; exact HLEN.out i k (by omega) (by omega)
    clear hzk
    by_cases hkq : k < q
    ·have HK := hid hkg
     obtain ⟨b, off, l, rr, y, hV, hb, ey, cl, cr, hry⟩ := rd_at HRS.out S.2 HQ.out hkq
     subst hV
     have hzy : sz sRule y ≤ 1048576 := by rw [← ey.out]; exact HE.out k hkq
     obtain ⟨P, pn, pc, P', pn', pc', rfl, rfl, sP, kP, sP', kP', hpn, hpn'⟩ := rd_rule hry hzy
     have okr : ruleOkB d.1 y = true := by rw [← ey.out]; exact sys_rule HOK.out.1 (by rw [HQ.out]; exact hkq)
     have hat : i < t.length := by rw [HTL.out]; exact him
     have zA : w.heap.size < wr.heap.size := S.1.lt
     have zB : b < wr.heap.size := by omega
     have K2 : wr.cell? ⟨b, off + k * 2, none⟩ = some (.slice P pn pc) := cl
     have LS := hid (subIn (cs := cs) (c := c) (HS.out.next S.2) (HT.out.next S.2) hn (by omega) hcT1 hcT2 HOK.out.2 hat)
     have LM := hid (matchIn (cs := cs) (pc := pc) (HS.out.next S.2) (sP.more (Nat.le_of_lt zA)) hn (rule_parts okr).1 (sub_ok HOK.out.2 hat))
     obtain ⟨R, hR⟩ : ∃ R, mst d.1 (subL d.1 t i) y.1 0 s0 = R := ⟨_, rfl⟩
     rw [hR] at LM
     obtain ⟨bo, hbo⟩ : ∃ bo, R.isSome = bo := ⟨_, rfl⟩
     have HR := hid hbo
     have HRE := hid (show redB d.1 (d.2.getD k ([], [])) t i = bo by unfold redB; rw [ey.out, hR, hbo])
     have B0 := Below.refl wr.heap.size wr
     have i0 : (0 : Int) ≤ (k : Int) := by omega
     have i1 : (k : Int) < (q : Int) := by omega
     have hneA : ¬ w.heap.size = wr.heap.size := by omega
     have hneB : ¬ b = wr.heap.size := by omega
     have hnfA : ¬ wr.heap.size = w.heap.size := by omega
     have hnfB : ¬ wr.heap.size = b := by omega
     have SS := hid S
     clear sP kP sP' kP' hpn hpn' okr hat ey hry hzy cl cr hR hbo S hkg
     go_upto_region 8 with fail
     go_cut [9] (fun s9 wx => s9 = .bool bo ∧ Below wr.heap.size wr wx)
     case first =>
      go_region_held3 (fun w' => w'.cell? ⟨w.heap.size, 0, none⟩ = some (.slice A n cs) ∧ w'.cell? ⟨w.heap.size, 1, none⟩ = some (.slice (some ⟨b, off, none⟩) q cv) ∧ w'.cell? ⟨b, off + k * 2, none⟩ = some (.slice P pn pc))
       (go_keep)
       (first
        | (go_at_call 65; refine (LS.out _ ?_).mono ?_; (first | exact B0 | exact B0.drew | exact (B0.alloc B0.size _) | exact (B0.alloc B0.size _).drew | exact (B0.drew.alloc B0.drew.size _)); rintro e w3 ⟨D, dn, dc, rfl, od, B3, b3⟩; have z3 := B3.size; (first | have r8 := Row.next (Row.drew (Row.new wr 106 #[.slice none 0 0])) b3 | have r8 := Row.next (Row.new wr.drew 106 #[.slice none 0 0]) b3 | skip); have ne30 : ¬ w.heap.size = w3.heap.size := Nat.ne_of_lt (Nat.lt_of_lt_of_le zA B3.size); have nf30 : ¬ w3.heap.size = w.heap.size := Nat.ne_of_gt (Nat.lt_of_lt_of_le zA B3.size); have ne31 : ¬ b = w3.heap.size := Nat.ne_of_lt (Nat.lt_of_lt_of_le zB B3.size); have nf31 : ¬ w3.heap.size = b := Nat.ne_of_gt (Nat.lt_of_lt_of_le zB B3.size); have k0_3 : w3.cell? ⟨w.heap.size, 0, none⟩ = some (.slice A n cs) := (B3.cell (p := ⟨w.heap.size, 0, none⟩) zA).trans K0; have k1_3 : w3.cell? ⟨w.heap.size, 1, none⟩ = some (.slice (some ⟨b, off, none⟩) q cv) := (B3.cell (p := ⟨w.heap.size, 1, none⟩) zA).trans K1; have k2_3 : w3.cell? ⟨b, off + k * 2, none⟩ = some (.slice P pn pc) := (B3.cell (p := ⟨b, off + k * 2, none⟩) zB).trans K2)
        | (go_at_call 66; refine (LM.out _ _ _ _ ?_ ?_).mono ?_; (first | exact B3 | exact B3.alloc B3.size _); (first | exact od | exact Own.alloc od _); rintro e w4 ⟨G, gn, gc, rfl, og, B4, b4⟩; rw [HR.out]; have z4 := B4.size; (first | have r9 := Row.next r8 b4 | have r9 := Row.next (Row.new w3 106 #[.slice none 0 0]) b4 | skip); (first | (have c9 : _ = some (Value.slice none 0 0) := r9.cell 0; have f9 := r9.free 0) | skip); have ne40 : ¬ w.heap.size = w4.heap.size := Nat.ne_of_lt (Nat.lt_of_lt_of_le zA B4.size); have nf40 : ¬ w4.heap.size = w.heap.size := Nat.ne_of_gt (Nat.lt_of_lt_of_le zA B4.size); have ne41 : ¬ b = w4.heap.size := Nat.ne_of_lt (Nat.lt_of_lt_of_le zB B4.size); have nf41 : ¬ w4.heap.size = b := Nat.ne_of_gt (Nat.lt_of_lt_of_le zB B4.size); have k0_4 : w4.cell? ⟨w.heap.size, 0, none⟩ = some (.slice A n cs) := (B4.cell (p := ⟨w.heap.size, 0, none⟩) zA).trans K0; have k1_4 : w4.cell? ⟨w.heap.size, 1, none⟩ = some (.slice (some ⟨b, off, none⟩) q cv) := (B4.cell (p := ⟨w.heap.size, 1, none⟩) zA).trans K1; have k2_4 : w4.cell? ⟨b, off + k * 2, none⟩ = some (.slice P pn pc) := (B4.cell (p := ⟨b, off + k * 2, none⟩) zB).trans K2))
      all_goals
       go_wp2_with fail
       go_meet
       first | (with_reducible exact box_a B4) | (with_reducible exact box_b B4 (Nat.le_refl _)) | (with_reducible exact box_b B4 z3)
     case rest =>
      rename World => wc
      obtain ⟨rfl, bx⟩ := hcut
      have ST := rd_step (sg := d.1) (rs := d.2) (t := t) (i := i) (k := k) (by rw [HQ.out]; exact hkq)
      rw [HRE.out, HZK.out] at ST
      have HST := hid ST
      have F := hid (show RowB w 34 #[.slice A n cs, .slice (some ⟨b, off, none⟩) q cv] wc from ⟨SS.out.1.next bx, SS.out.2.trans (bx.mono SS.out.2.size)⟩)
      clear bx ST SS K0 K1 K2 LS LM HR HRE
      cases bo with
      | false =>
       go_wp2
       go_roundg (gk - 1)
       case measure => have := HK.out; omega
       case rel => exact ⟨k + 1, by simp, by have := HK.out; omega, by rw [HST.out]; simp, F.out⟩
      | true =>
       go_wp2
       go_roundg (gk - 1)
       case measure => have := HK.out; omega
       case rel => exact ⟨k + 1, by simp, by have := HK.out; omega, by rw [HST.out]; simp, F.out⟩
    ·have e1 : k = q := by omega
     subst e1
     have HZR := hid (show rdN d.1 d.2 t (i + 1) 0 = zk by rw [← rd_row, HQ.out]; exact HZK.out)
     have F := hid S
     clear S
     go_wp2
     go_roundg (G - 1)
     case measure => have := HI.out; omega
     case rel => exact ⟨i + 1, by simp, by have := HI.out; omega, by rw [HZR.out], F.out⟩
  ·have e1 : i = m := by omega
   subst e1
   have hF : (Ending.returned (.int .i64 (rdN d.1 d.2 t i 0 : Nat))) = .returned (.int .i64 (rdN d.1 d.2 t t.length 0 : Nat)) ∧ Below w.heap.size w wr := ⟨by rw [HTL.out], S.2⟩
   have HF := hid hF
   clear hF S
   generalize (rdN d.1 d.2 t i 0 : Nat) = z at *
   go_wp2
   go_ret
   exact HF.out
set_option maxHeartbeats 2000000 in
theorem specNormalIn (a v u : Value) (d : Dat sSystem) (t : List Int) (w : World) (h : Rd w w.heap.size sSystem [a, v] d) (ht : Rd w w.heap.size sI [u] t) (hz : sz sSystem d ≤ 1048576) (hz' : sz sI t ≤ 1048576) :
  Calls Try.prog 75 #[.agg #[a, v], u] w (AnsB w (normalB d.1 d.2 t)) := by
 have htv := ht
 obtain ⟨T, m, c, rfl, hT, hcT⟩ := rd_ints.1 ht
 have hm := len_ints hT.1 hz'
 obtain ⟨W, hW, rA, bel⟩ := box1 w 34 #[a, v]
 have HW := hid hW
 have L1 := hid (l7Right _ _ d T m c t W (h.next bel) hz (hT.next bel) hm)
 have L2 := hid (fun (w1 : World) (bb : Below w.heap.size w w1) hok => l7Redexes _ _ _ d t w1 (h.next bb) (htv.next bb) hz hok)
 clear hW h ht htv hz hz' hT hcT
 cases ok : rightB d.1 d.2 t with
 | false =>
  have HR := hid ok
  clear ok
  go_enter Try.func75, Try.ntmps75
  go_wp2_with fail
  rw [← HW.out]
  refine L1.out.mono ?_
  rintro e w1 ⟨he, bb⟩
  rw [HR.out] at he
  subst he
  have F := hid (ansB (b := normalB d.1 d.2 t) (a := false) (by unfold normalB; rw [HR.out]; rfl) (next_trans bel bb))
  clear bb bel rA L2
  go_wp2
  go_ret
  exact F.out
 | true =>
  have HR := hid ok
  clear ok
  go_enter Try.func75, Try.ntmps75
  go_wp2_with fail
  rw [← HW.out]
  refine L1.out.mono ?_
  rintro e w1 ⟨he, bb⟩
  rw [HR.out] at he
  subst he
  replace rA := rA.next bb
  replace bel := next_trans bel bb
  have K0 : w1.cell? ⟨w.heap.size, 0, none⟩ = some a := rA.cell 0
  have K1 : w1.cell? ⟨w.heap.size, 1, none⟩ = some v := rA.cell 1
  clear bb L1 rA
  go_wp2_with fail
  refine (L2.out w1 bel HR.out).mono ?_
  rintro e w2 ⟨rfl, bb⟩
  generalize hz : (rdN d.1 d.2 t t.length 0 : Nat) = z
  have hd : normalB d.1 d.2 t = ((z : Int) == 0) := by
   rw [normal_eq HR.out, hz, Bool.eq_iff_iff, decide_eq_true_iff, beq_iff_eq]
   omega
  have F := hid (show AnsB w (normalB d.1 d.2 t) (.returned (.bool ((z : Int) == 0))) w2 from ⟨by rw [hd], next_trans bel bb⟩)
  clear hd hz bb bel L2 K0 K1
  go_wp2
  go_ret
  exact F.out
end stepSpec
end
section
namespace orderMath
open sig term termOk termFacts ruleMath stepMath walkMath stepsMath
def hasR (sg : List Int) (rs : List Rl) (t : List Int) (a : Nat) : Bool := rs.any fun x => redB sg x t a
def ruleF (sg : List Int) (rs : List Rl) (t : List Int) (a : Nat) : Int := match rs.findIdx? (fun x => redB sg x t a) with
 | some r => (r : Int)
 | none => -1
def plN (sg : List Int) (rs : List Rl) (t : List Int) (n : Nat) : List Int := ((List.range n).filter (hasR sg rs t)).map fun a : Nat => (a : Int)
def placesL (sg : List Int) (rs : List Rl) (t : List Int) : List Int := plN sg rs t t.length
def placesI (sg : List Int) (rs : List Rl) (t : List Int) : List Int := if rightB sg rs t = true then placesL sg rs t else []
def inN (E : Int → Int) (l : List Int) (i : Nat) : List Int := ((List.range i).filter fun k => decide (k + 1 = l.length ∨ E (l.getD k 0) ≤ l.getD (k + 1) 0)).map fun k => l.getD k 0
def outN (E : Int → Int) (l : List Int) : Nat → List Int × Int
 | 0 => ([], 0)
 | i + 1 => if (outN E l i).2 ≤ l.getD i 0 then ((outN E l i).1 ++ [l.getD i 0], E (l.getD i 0)) else outN E l i
def inL (E : Int → Int) (l : List Int) : List Int := inN E l l.length
def outL (E : Int → Int) (l : List Int) : List Int := (outN E l l.length).1
def endR (sg t : List Int) (a : Int) : Int := endI sg t a.toNat
def inmostI (sg : List Int) (rs : List Rl) (t : List Int) : List Int := inL (endR sg t) (placesI sg rs t)
def outmostI (sg : List Int) (rs : List Rl) (t : List Int) : List Int := outL (endR sg t) (placesI sg rs t)
def selL (sg : List Int) (rs : List Rl) (t : List Int) (s : Int) : List Int := if s = 1 then inL (endR sg t) (placesL sg rs t) else if s = 2 then placesL sg rs t else (placesL sg rs t).reverse
def stratB (s : Int) : Bool := decide (1 ≤ s ∧ s ≤ 3)
def fuelB (f : Int) : Bool := decide (0 ≤ f ∧ f ≤ 60)
def pickL (sg : List Int) (rs : List Rl) (t : List Int) (s : Int) : Option (Int × Int) := (selL sg rs t s).head?.map fun a => (a, ruleF sg rs t a.toNat)
def pickO (sg : List Int) (rs : List Rl) (t : List Int) (s : Int) : Option (Int × Int) := if rightB sg rs t = true ∧ stratB s = true then pickL sg rs t s else none
def runS (sg : List Int) (rs : List Rl) (s : Int) : Nat → List Int → List St
 | 0, _ => []
 | f + 1, t => match pickL sg rs t s with
  | none => []
  | some p => match stepAtO sg rs t p.1 p.2 with
   | none => []
   | some v => (p.1, p.2, v) :: runS sg rs s f v
def byB (sg : List Int) (rs : List Rl) (t : List Int) (s f : Int) : Bool := rightB sg rs t && (stratB s && fuelB f)
def byW (sg : List Int) (rs : List Rl) (t : List Int) (s f : Int) : Wk := if byB sg rs t s f = true then (t, runS sg rs s f.toNat t) else ([], [])
def byD (sg : List Int) (rs : List Rl) (t : List Int) (s f : Int) : Bool := byB sg rs t s f && normalB sg rs (endL (t, runS sg rs s f.toNat t))
def byN (sg : List Int) (rs : List Rl) (t : List Int) (s f : Int) : List Int := if byD sg rs t s f = true then endL (byW sg rs t s f) else []
section
variable {sg : List Int} {rs : List Rl} {t : List Int}
theorem rule_none {a : Nat} (h : ∀ k, k < rs.length → redB sg (rs.getD k ([], [])) t a = false) : ruleF sg rs t a = -1 ∧ hasR sg rs t a = false := by
 have h1 : ∀ x ∈ rs, redB sg x t a = false := fun x hx => by
  obtain ⟨k, hk, e⟩ := List.mem_iff_getElem.1 hx
  have := h k hk
  rw [List.getD_eq_getElem?_getD, List.getElem?_eq_getElem hk, Option.getD_some, e] at this
  exact this
 have h2 : rs.findIdx? (fun x => redB sg x t a) = none := List.findIdx?_eq_none_iff.2 h1
 refine ⟨by unfold ruleF; rw [h2], ?_⟩
 unfold hasR
 rw [List.any_eq_false]
 exact fun x hx => by rw [h1 x hx]; simp
theorem rule_some {a k : Nat} (hk : k < rs.length) (h : ∀ j, j < k → redB sg (rs.getD j ([], [])) t a = false) (hy : redB sg (rs.getD k ([], [])) t a = true) : ruleF sg rs t a = (k : Int) ∧ hasR sg rs t a = true := by
 have e : ∀ j (hj : j < rs.length), rs.getD j ([], []) = rs[j] := fun j hj => by rw [List.getD_eq_getElem?_getD, List.getElem?_eq_getElem hj, Option.getD_some]
 have h2 : rs.findIdx? (fun x => redB sg x t a) = some k := by
  rw [List.findIdx?_eq_some_iff_getElem]
  exact ⟨hk, by rw [← e k hk]; exact hy, fun j hj => by rw [← e j (by omega)]; rw [h j hj]; simp⟩
 refine ⟨by unfold ruleF; rw [h2], ?_⟩
 unfold hasR
 rw [List.any_eq_true]
 exact ⟨rs[k], List.getElem_mem hk, by rw [← e k hk]; exact hy⟩
theorem has_rule {a : Nat} (h : hasR sg rs t a = true) : ∃ k, k < rs.length ∧ ruleF sg rs t a = (k : Int) ∧ redB sg (rs.getD k ([], [])) t a = true ∧ ∀ j, j < k → redB sg (rs.getD j ([], [])) t a = false := by
 have e : ∀ j (hj : j < rs.length), rs.getD j ([], []) = rs[j] := fun j hj => by rw [List.getD_eq_getElem?_getD, List.getElem?_eq_getElem hj, Option.getD_some]
 cases h2 : rs.findIdx? (fun x => redB sg x t a) with
 | none =>
  have h1 := List.findIdx?_eq_none_iff.1 h2
  unfold hasR at h
  rw [List.any_eq_true] at h
  obtain ⟨x, hx, hr⟩ := h
  rw [h1 x hx] at hr
  cases hr
 | some k =>
  obtain ⟨hk, hy, hn⟩ := List.findIdx?_eq_some_iff_getElem.1 h2
  exact ⟨k, hk, by unfold ruleF; rw [h2], by rw [e k hk]; exact hy, fun j hj => by rw [e j (by omega)]; have := hn j hj; simpa using this⟩
theorem pl_yes {n : Nat} (h : hasR sg rs t n = true) : plN sg rs t (n + 1) = plN sg rs t n ++ [(n : Int)] := by unfold plN; rw [List.range_succ, List.filter_append, List.map_append]; simp [h]
theorem pl_no {n : Nat} (h : hasR sg rs t n = false) : plN sg rs t (n + 1) = plN sg rs t n := by unfold plN; rw [List.range_succ, List.filter_append, List.map_append]; simp [h]
theorem pl_len (n : Nat) : (plN sg rs t n).length ≤ n := by
 unfold plN
 rw [List.length_map]
 exact Nat.le_trans (List.length_filter_le _ _) (by simp)
theorem pl_mem {n : Nat} {x : Int} : x ∈ plN sg rs t n ↔ ∃ a : Nat, a < n ∧ hasR sg rs t a = true ∧ x = (a : Int) := by
 unfold plN
 rw [List.mem_map]
 constructor
 ·rintro ⟨a, ha, rfl⟩
  rw [List.mem_filter, List.mem_range] at ha
  exact ⟨a, ha.1, ha.2, rfl⟩
 ·rintro ⟨a, h1, h2, rfl⟩
  exact ⟨a, by rw [List.mem_filter, List.mem_range]; exact ⟨h1, h2⟩, rfl⟩
theorem pl_sorted (n : Nat) : (plN sg rs t n).Pairwise (· < ·) := by
 unfold plN
 rw [List.pairwise_map]
 refine List.Pairwise.filter _ ?_
 exact List.Pairwise.imp (fun h => by omega) List.pairwise_lt_range
theorem places_empty (h : rightB sg rs t = true) : normalB sg rs t = decide (placesL sg rs t = []) := by
 unfold normalB
 rw [h, Bool.true_and]
 cases hb : (List.range t.length).all fun a => rs.all fun x => !redB sg x t a with
 | true =>
  symm
  rw [decide_eq_true_iff]
  cases hp : placesL sg rs t with
  | nil => rfl
  | cons y l =>
   obtain ⟨a, ha, hr, -⟩ := pl_mem.1 (show y ∈ plN sg rs t t.length by unfold placesL at hp; rw [hp]; exact List.mem_cons_self ..)
   rw [List.all_eq_true] at hb
   have h1 := hb a (List.mem_range.2 ha)
   rw [List.all_eq_true] at h1
   unfold hasR at hr
   rw [List.any_eq_true] at hr
   obtain ⟨x, hx, hr⟩ := hr
   have h2 := h1 x hx
   rw [hr] at h2
   cases h2
 | false =>
  symm
  rw [decide_eq_false_iff_not]
  intro hp
  rw [List.all_eq_false] at hb
  obtain ⟨a, ha, hb⟩ := hb
  have hh : hasR sg rs t a = true := by
   unfold hasR
   rw [List.any_eq_true]
   have hf : (rs.all fun x => !redB sg x t a) = false := by simpa using hb
   rw [List.all_eq_false] at hf
   obtain ⟨x, hx, hr⟩ := hf
   exact ⟨x, hx, by simpa using hr⟩
  have : (a : Int) ∈ plN sg rs t t.length := pl_mem.2 ⟨a, List.mem_range.1 ha, hh, rfl⟩
  unfold placesL at hp
  rw [hp] at this
  cases this
theorem in_yes {E : Int → Int} {l : List Int} {i : Nat} (h : i + 1 = l.length ∨ E (l.getD i 0) ≤ l.getD (i + 1) 0) : inN E l (i + 1) = inN E l i ++ [l.getD i 0] := by unfold inN; rw [List.range_succ, List.filter_append, List.map_append]; simp only [List.filter_cons, List.filter_nil, decide_eq_true h, if_true, List.map_cons, List.map_nil]
theorem in_no {E : Int → Int} {l : List Int} {i : Nat} (h : ¬ (i + 1 = l.length ∨ E (l.getD i 0) ≤ l.getD (i + 1) 0)) : inN E l (i + 1) = inN E l i := by unfold inN; rw [List.range_succ, List.filter_append, List.map_append]; simp only [List.filter_cons, List.filter_nil, decide_eq_false h, List.map_nil, List.append_nil]; simp
theorem in_len (E : Int → Int) (l : List Int) (i : Nat) : (inN E l i).length ≤ i := by
 unfold inN
 rw [List.length_map]
 exact Nat.le_trans (List.length_filter_le _ _) (by simp)
theorem out_yes {E : Int → Int} {l : List Int} {i : Nat} (h : (outN E l i).2 ≤ l.getD i 0) : outN E l (i + 1) = ((outN E l i).1 ++ [l.getD i 0], E (l.getD i 0)) := by rw [outN, if_pos h]
theorem out_no {E : Int → Int} {l : List Int} {i : Nat} (h : ¬ (outN E l i).2 ≤ l.getD i 0) : outN E l (i + 1) = outN E l i := by rw [outN, if_neg h]
theorem out_len (E : Int → Int) (l : List Int) : ∀ i : Nat, (outN E l i).1.length ≤ i
 | 0 => Nat.le_refl _
 | i + 1 => by
  have := out_len E l i
  by_cases h : (outN E l i).2 ≤ l.getD i 0
  ·rw [out_yes h, List.length_append, List.length_singleton]; omega
  ·rw [out_no h]; omega
theorem in_last {E : Int → Int} {l : List Int} (h : l ≠ []) : inL E l ≠ [] := by
 unfold inL
 obtain ⟨i, hi⟩ : ∃ i, l.length = i + 1 := ⟨l.length - 1, by have := List.length_pos_iff.2 h; omega⟩
 rw [hi, in_yes (.inl hi.symm)]
 simp
theorem sel_empty (s : Int) : selL sg rs t s = [] ↔ placesL sg rs t = [] := by
 unfold selL
 split
 ·constructor
  ·intro h
   cases hp : placesL sg rs t with
   | nil => rfl
   | cons y l => rw [hp] at h; exact absurd h (in_last (by simp))
  ·intro h; rw [h]; rfl
 ·split
  ·exact Iff.rfl
  ·rw [List.reverse_eq_nil_iff]
theorem in_mem {E : Int → Int} {l : List Int} {i : Nat} {x : Int} (hi : i ≤ l.length) (h : x ∈ inN E l i) : x ∈ l := by
 unfold inN at h
 obtain ⟨k, hk, rfl⟩ := List.mem_map.1 h
 have hk := List.mem_range.1 (List.mem_filter.1 hk).1
 rw [List.getD_eq_getElem?_getD, List.getElem?_eq_getElem (by omega), Option.getD_some]
 exact List.getElem_mem _
theorem sel_mem {s x : Int} (h : x ∈ selL sg rs t s) : x ∈ placesL sg rs t := by
 unfold selL at h
 split at h
 ·exact in_mem (Nat.le_refl _) h
 ·split at h
  ·exact h
  ·exact List.mem_reverse.1 h
theorem pick_none {s : Int} : pickL sg rs t s = none ↔ placesL sg rs t = [] := by
 unfold pickL
 rw [← sel_empty s]
 cases selL sg rs t s <;> simp
theorem pick_some {s : Int} {p : Int × Int} (h : pickL sg rs t s = some p) : ∃ a k : Nat, p = ((a : Int), (k : Int)) ∧ a < t.length ∧ k < rs.length ∧ redB sg (rs.getD k ([], [])) t a = true ∧ ∀ j, j < k → redB sg (rs.getD j ([], [])) t a = false := by
 unfold pickL at h
 cases hs : selL sg rs t s with
 | nil => rw [hs] at h; cases h
 | cons x l =>
  rw [hs] at h
  injection h with h
  obtain ⟨a, ha, hr, e⟩ := pl_mem.1 (sel_mem (s := s) (by rw [hs]; exact List.mem_cons_self ..) : x ∈ plN sg rs t t.length)
  obtain ⟨k, hk, e2, h3, h4⟩ := has_rule hr
  subst e
  exact ⟨a, k, by rw [← h]; simp [e2], ha, hk, h3, h4⟩
theorem run_none {s : Int} {f : Nat} (h : pickL sg rs t s = none) : runS sg rs s f t = [] := by
 cases f with
 | zero => rfl
 | succ f => rw [runS, h]
theorem run_stop {s : Int} {f : Nat} {p : Int × Int} (h : pickL sg rs t s = some p) (hs : stepAtO sg rs t p.1 p.2 = none) : runS sg rs s f t = [] := by
 cases f with
 | zero => rfl
 | succ f => rw [runS, h]; simp only [hs]
theorem run_go {s : Int} {f : Nat} {p : Int × Int} {v : List Int} (h : pickL sg rs t s = some p) (hs : stepAtO sg rs t p.1 p.2 = some v) : runS sg rs s (f + 1) t = (p.1, p.2, v) :: runS sg rs s f v := by rw [runS, h]; simp only [hs]
theorem end_snoc (L : List St) (a r : Int) (v : List Int) : endL (t, L ++ [(a, r, v)]) = v := by unfold endL; simp
end
theorem run_len (sg : List Int) (rs : List Rl) (s : Int) : ∀ (f : Nat) (t : List Int), (runS sg rs s f t).length ≤ f
 | 0, _ => Nat.le_refl _
 | f + 1, t => by
  rw [runS]
  split
  ·exact Nat.zero_le _
  ·split
   ·exact Nat.zero_le _
   ·rw [List.length_cons]; have := run_len sg rs s f; rename_i v _; have := this v; omega
theorem run_walk {sg : List Int} {rs : List Rl} {s : Int} : ∀ {f : Nat} {t : List Int}, goOn sg rs t (runS sg rs s f t) = some (endL (t, runS sg rs s f t))
 | 0, t => rfl
 | f + 1, t => by
  cases hp : pickL sg rs t s with
  | none => rw [run_none hp]; rfl
  | some p =>
   cases hs : stepAtO sg rs t p.1 p.2 with
   | none => rw [run_stop hp hs]; rfl
   | some v =>
    rw [run_go hp hs, end_cons]
    exact go_cons.2 ⟨hs, run_walk⟩
end orderMath
end
section
open Go.Lib (hid)
namespace orderSpec
open Go.RowKit base ints sig term termOk endAt endOf marks app sym sub segs segsHelp kinds termFacts shifted matchMath matchSpec shape kindsR kindsW ruleMath ruleSpec stepMath walkMath stepsMath varsOf stepSpec orderMath appAt
set_option maxRecDepth 100000
def MatchOn (W : World) (A : Option Addr) (n cs : Nat) (P : Option Addr) (pn pc : Nat) (D : Option Addr) (dn dc : Nat) (R : Option (List (List Int))) : Prop := ∀ X, Below W.heap.size W X → Calls Try.prog 66 #[.agg #[.slice A n cs], .slice P pn pc, .slice D dn dc] X fun e w' => ∃ G gn gc, e = .returned (.tuple #[.agg #[.slice G gn gc], .bool R.isSome]) ∧ Owns w' X.heap.size w'.heap.size G gn gc (resL R) ∧ Below W.heap.size W w' ∧ Below X.heap.size X w'
theorem matchOn {W : World} {A : Option Addr} {n cs : Nat} {P : Option Addr} {pn pc : Nat} {D : Option Addr} {dn dc B : Nat} {sg p ys : List Int} (h : Seg W W.heap.size A n sg) (h' : Seg W W.heap.size P pn p) (ho : Own W B (.slice D dn dc) ys) (hn : n ≤ 1048576) (hp : termOkB sg p = true) (ht : termOkB sg ys = true) : MatchOn W A n cs P pn pc D dn dc (mst sg ys p 0 s0) := fun X hX => by
 have hpn : pn ≤ 60 := by have := (term_len hp).2; have := h'.1; omega
 have hdn : dn ≤ 60 := by have := (term_len ht).2; have := Own.len ho; omega
 have hcd := look.own_cap ho
 refine (l4Match A P D n cs pn pc dn dc sg p ys X (h.next hX) (h'.next hX) (Own.seg (Own.next ho hX)) hn hpn hdn hcd.1 hcd.2.1 hp ht).mono ?_
 rintro e w4 ⟨G, gn, gc, rfl, og, b4⟩
 exact ⟨G, gn, gc, rfl, og, next_trans hX b4, b4⟩
set_option maxHeartbeats 4000000 in
theorem l8Redex (a v u : Value) (d : Dat sSystem) (t : List Int) (x : Nat) (w : World) (h : Rd w w.heap.size sSystem [a, v] d) (ht : Rd w w.heap.size sI [u] t) (hz : sz sSystem d ≤ 1048576) (hok : rightB d.1 d.2 t = true) (hx : x < t.length) :
  Calls Try.prog 36 #[.agg #[a, v], u, .int .i64 (x : Int)] w fun e w' => e = .returned (.int .i64 (ruleF d.1 d.2 t x)) ∧ Below w.heap.size w w' := by
 obtain ⟨T, m, c, rfl, hT, hcT⟩ := rd_ints.1 ht
 obtain ⟨A, n, cs, V, q, cv, rfl, rfl, hs, hc, hcv, hq, hn, hq1, hrs, hsg, hE⟩ := rd_sys h hz
 have HQ := hid hq
 have HTL := hid hT.1
 have HS := hid hs
 have HRS := hid hrs
 have HE := hid hE
 have HOK := hid (right_parts hok)
 have hcT1 := hcT.1
 have hcT2 := hcT.2.1
 have hm : m ≤ 60 := by have := (term_len (right_parts hok).2).2; have := hT.1; omega
 have hq12 : q ≤ 12 := by have := (sys_parts (right_parts hok).1).2.1; omega
 have HX := hid hx
 have HS0 := hid (show RowB w 34 #[.slice A n cs, .slice V q cv] (w.alloc (.cells #[.slice A n cs, .slice V q cv] 34)) from ⟨Row.new _ _ _, (Below.refl _ _).alloc (Nat.le_refl _) _⟩)
 have LS := hid (subIn (cs := cs) (c := c) (hs.next HS0.out.2) (hT.next HS0.out.2) hn (by omega) hcT1 hcT2 HOK.out.2 hx)
 clear h ht hz hok hs hc hcv hq hrs hsg hE hT hcT hx
 go_enter Try.func36, Try.ntmps36
 go_wp2_with fail
 refine (LS.out _ (Below.refl _ _)).mono ?_
 rintro e w1 ⟨D, dn, dc, rfl, od, B1, b1⟩
 have HS1 := hid (show RowB w 34 #[.slice A n cs, .slice V q cv] w1 from ⟨HS0.out.1.next b1, next_trans HS0.out.2 b1⟩)
 have HD := hid od
 have hw1 : w.heap.size < w1.heap.size := by have := b1.size; simp at this; omega
 clear b1 B1 od LS HS0
 go_wp2_with fail
 go_loopg [8] q (fun g r wr => ∃ k : Nat, r = .int .i64 k ∧ k + g = q ∧ (∀ j, j < k → redB d.1 (d.2.getD j ([], [])) t x = false) ∧ RowB w 34 #[.slice A n cs, .slice V q cv] wr ∧ Own wr (w.heap.size + 1) (.slice D dn dc) (subL d.1 t x))
 case atStart => exact ⟨0, rfl, by omega, fun j hj => absurd hj (Nat.not_lt_zero _), HS1.out, Own.lower HD.out (by simp)⟩
 case round =>
  clear HS1 HD
  obtain ⟨k, rfl, hkg, hlow, S, oD⟩ := hrel
  have K0 : wr.cell? ⟨w.heap.size, 0, none⟩ = some (.slice A n cs) := S.1.cell 0
  have K1 : wr.cell? ⟨w.heap.size, 1, none⟩ = some (.slice V q cv) := S.1.cell 1
  have HLOW := hid hlow
  have HK := hid hkg
  clear hlow hkg
  by_cases hkq : k < q
  ·obtain ⟨b, off, l, rr, y, hV, hb, ey, cl, cr, hry⟩ := rd_at HRS.out S.2 HQ.out hkq
   subst hV
   have hzy : sz sRule y ≤ 1048576 := by rw [← ey.out]; exact HE.out k hkq
   obtain ⟨P, pn, pc, P', pn', pc', rfl, rfl, sP, kP, sP', kP', hpn, hpn'⟩ := rd_rule hry hzy
   have okr : ruleOkB d.1 y = true := by rw [← ey.out]; exact sys_rule HOK.out.1 (by rw [HQ.out]; exact hkq)
   have zA : w.heap.size < wr.heap.size := S.1.lt
   have zB : b < wr.heap.size := by omega
   have K2 : wr.cell? ⟨b, off + k * 2, none⟩ = some (.slice P pn pc) := cl
   have LM := hid (matchOn (W := wr) (cs := cs) (pc := pc) (HS.out.next S.2) (sP.more (Nat.le_of_lt zA)) oD hn (rule_parts okr).1 (sub_ok HOK.out.2 HX.out))
   obtain ⟨R, hR⟩ : ∃ R, mst d.1 (subL d.1 t x) y.1 0 s0 = R := ⟨_, rfl⟩
   rw [hR] at LM
   obtain ⟨bo, hbo⟩ : ∃ bo, R.isSome = bo := ⟨_, rfl⟩
   have HR := hid hbo
   have HRE := hid (show redB d.1 (d.2.getD k ([], [])) t x = bo by unfold redB; rw [ey.out, hR, hbo])
   have B0 := Below.refl wr.heap.size wr
   have i0 : (0 : Int) ≤ (k : Int) := by omega
   have i1 : (k : Int) < (q : Int) := by omega
   have hneA : ¬ w.heap.size = wr.heap.size := by omega
   have hneB : ¬ b = wr.heap.size := by omega
   have hnfA : ¬ wr.heap.size = w.heap.size := by omega
   have hnfB : ¬ wr.heap.size = b := by omega
   have SS := hid S
   have OD := hid oD
   clear sP kP sP' kP' hpn hpn' okr ey hry hzy cl cr hR hbo S oD
   go_upto_region 5 with fail
   go_cut [10] (fun s9 wx => s9 = .bool bo ∧ Below wr.heap.size wr wx)
   case first =>
    go_region_held3 (fun w' => w'.cell? ⟨w.heap.size, 0, none⟩ = some (.slice A n cs) ∧ w'.cell? ⟨w.heap.size, 1, none⟩ = some (.slice (some ⟨b, off, none⟩) q cv) ∧ w'.cell? ⟨b, off + k * 2, none⟩ = some (.slice P pn pc))
     (go_keep)
     (first | (go_at_call 66; refine (LM.out _ ?_).mono ?_; (first | exact B0 | exact B0.drew | exact (B0.alloc B0.size _) | exact (B0.alloc B0.size _).drew | exact (B0.drew.alloc B0.drew.size _)); rintro e w4 ⟨G, gn, gc, rfl, og, B4, b4⟩; rw [HR.out]; have z4 := B4.size; (first | have r9 := Row.next (Row.drew (Row.new wr 106 #[.slice none 0 0])) b4 | have r9 := Row.next (Row.new wr.drew 106 #[.slice none 0 0]) b4 | skip); (first | (have c9 : _ = some (Value.slice none 0 0) := r9.cell 0; have f9 := r9.free 0) | skip); have ne40 : ¬ w.heap.size = w4.heap.size := Nat.ne_of_lt (Nat.lt_of_lt_of_le zA B4.size); have nf40 : ¬ w4.heap.size = w.heap.size := Nat.ne_of_gt (Nat.lt_of_lt_of_le zA B4.size); have ne41 : ¬ b = w4.heap.size := Nat.ne_of_lt (Nat.lt_of_lt_of_le zB B4.size); have nf41 : ¬ w4.heap.size = b := Nat.ne_of_gt (Nat.lt_of_lt_of_le zB B4.size); have k0_4 : w4.cell? ⟨w.heap.size, 0, none⟩ = some (.slice A n cs) := (B4.cell (p := ⟨w.heap.size, 0, none⟩) zA).trans K0; have k1_4 : w4.cell? ⟨w.heap.size, 1, none⟩ = some (.slice (some ⟨b, off, none⟩) q cv) := (B4.cell (p := ⟨w.heap.size, 1, none⟩) zA).trans K1; have k2_4 : w4.cell? ⟨b, off + k * 2, none⟩ = some (.slice P pn pc) := (B4.cell (p := ⟨b, off + k * 2, none⟩) zB).trans K2))
    all_goals
     go_wp2_with fail
     go_meet
     first | (with_reducible exact box_a B4) | (with_reducible exact box_b B4 (Nat.le_refl _)) | (with_reducible exact box_b B4 z4)
   case rest =>
    rename World => wc
    obtain ⟨rfl, bx⟩ := hcut
    have FS := hid (show RowB w 34 #[.slice A n cs, .slice (some ⟨b, off, none⟩) q cv] wc from ⟨SS.out.1.next bx, SS.out.2.trans (bx.mono SS.out.2.size)⟩)
    have FO := hid (Own.next OD.out bx)
    clear bx SS OD K0 K1 K2 LM HR
    cases bo with
    | false =>
     have HL2 := hid (show ∀ j, j < k + 1 → redB d.1 (d.2.getD j ([], [])) t x = false from fun j hj => by
      by_cases e : j = k
      ·subst e; exact HRE.out
      ·exact HLOW.out j (by omega))
     clear HRE
     go_wp2
     go_roundg (gk - 1)
     case measure => have := HK.out; omega
     case rel => exact ⟨k + 1, by simp, by have := HK.out; omega, HL2.out, FS.out, FO.out⟩
    | true =>
     have HF := hid (show (Ending.returned (.int .i64 (k : Int))) = .returned (.int .i64 (ruleF d.1 d.2 t x)) ∧ Below w.heap.size w wc from ⟨by rw [(rule_some (by rw [HQ.out]; exact hkq) HLOW.out HRE.out).1], FS.out.2⟩)
     clear FS FO
     go_wp2
     go_ret
     exact HF.out
  ·have e1 : k = q := by have := HK.out; omega
   subst e1
   have HF := hid (show (Ending.returned (.int .i64 (-1))) = .returned (.int .i64 (ruleF d.1 d.2 t x)) ∧ Below w.heap.size w wr from ⟨by rw [(rule_none (fun j hj => HLOW.out j (by rw [← HQ.out]; exact hj))).1], S.2⟩)
   clear S oD
   go_wp2
   go_ret
   exact HF.out
theorem app1Q {w : World} {ops : Array Oper} {rest : List Oper} {o : Oper} {a : Act} {Q : Exit → Act → World → Prop} (hgd : o.guard = none) (s x : Operand)
  (ho : o.op = .call { callee := .builtin .append, args := #[s, x], argTypes := #[22, 22] })
  (base : Nat) (A : Option Addr) (n c : Nat) (xs : List Int) (hs : a.eval s = .slice A n c) (hown : Own w base (.slice A n c) xs)
  (g c2 : Nat) (y : Int) (hx : a.eval x = .slice (some ⟨g, 0, none⟩) 1 c2) (hy : w.cell? ⟨g, 0, none⟩ = some (.int .i64 y)) (hn : n ≤ 2097152) (hbase : base ≤ w.heap.size)
  (h : ∀ A' c' w', Own w' base (.slice A' (n + 1) c') (xs ++ [y]) → w.grownBy w' (blk A) → (blk A' = blk A ∨ blk A' = some w.heap.size) → wpList Try.prog ops Q rest (a.put o.dst (.slice A' (n + 1) c')) w') : wpList Try.prog ops Q (o :: rest) a w :=
 appAllAt hgd s x ho base A n c xs hs hown (some ⟨g, 0, none⟩) 1 c2 (g + 1) [y] hx ⟨rfl, fun _ => ⟨g, 0, rfl, Nat.lt_succ_self _, fun j hj => by
  obtain rfl : j = 0 := by omega
  exact hy⟩⟩ (Nat.le_refl _) hn (by omega) hbase h
structure Lo (w : World) (a v : Value) (O : Option Addr) (on oc : Nat) (L : List Int) (wr : World) : Prop where
 r : Row wr w.heap.size 34 #[a, v]
 o : Own wr (w.heap.size + 1) (.slice O on oc) L
 b : Below w.heap.size w wr
section
variable {w wr w' : World} {a v : Value} {O : Option Addr} {on oc : Nat} {L : List Int}
theorem Lo.next (h : Lo w a v O on oc L wr) (hb : Below wr.heap.size wr w') : Lo w a v O on oc L w' := ⟨h.r.next hb, Own.next h.o hb, next_trans h.b hb⟩
theorem Lo.over {O' : Option Addr} {on' oc' : Nat} {L' : List Int} (h : Lo w a v O on oc L wr) (ho : Own w' (w.heap.size + 1) (.slice O' on' oc') L') (hb : Below (w.heap.size + 1) wr w') : Lo w a v O' on' oc' L' w' := ⟨h.r.below hb (Nat.lt_succ_self _), ho, h.b.trans (hb.mono (Nat.le_succ _))⟩
theorem Lo.list (h : Lo w a v O on oc L wr) {L' : List Int} (e : L = L') : AnsList w L' (.returned (.slice O on oc)) wr := ⟨O, on, oc, rfl, by rw [← e]; exact Own.lower h.o (Nat.le_succ _), h.b⟩
end
theorem places_has {sg : List Int} {rs : List Rl} {t : List Int} {a k : Nat} (hk : k < rs.length) (h : redB sg (rs.getD k ([], [])) t a = true) : hasR sg rs t a = true := by
 unfold hasR
 rw [List.any_eq_true]
 have e : rs.getD k ([], []) = rs[k] := by rw [List.getD_eq_getElem?_getD, List.getElem?_eq_getElem hk, Option.getD_some]
 rw [e] at h
 exact ⟨rs[k], List.getElem_mem hk, h⟩
theorem places_no {sg : List Int} {rs : List Rl} {t : List Int} (h : rightB sg rs t = false) : ([] : List Int) = placesI sg rs t := by unfold placesI; rw [if_neg (by rw [h]; simp)]
theorem places_yes {sg : List Int} {rs : List Rl} {t : List Int} (h : rightB sg rs t = true) : plN sg rs t t.length = placesI sg rs t := by unfold placesI; rw [if_pos h]; rfl
set_option maxHeartbeats 4000000 in
theorem specRedexesIn (a v u : Value) (d : Dat sSystem) (t : List Int) (w : World) (h : Rd w w.heap.size sSystem [a, v] d) (ht : Rd w w.heap.size sI [u] t) (hz : sz sSystem d ≤ 1048576) (hz' : sz sI t ≤ 1048576) :
  Calls Try.prog 64 #[.agg #[a, v], u] w (AnsList w (placesI d.1 d.2 t)) := by
 have htv := ht
 obtain ⟨T, m, c, rfl, hT, hcT⟩ := rd_ints.1 ht
 have hm := len_ints hT.1 hz'
 have HTL := hid hT.1
 obtain ⟨W, hW⟩ : ∃ W, W = (w.alloc (.cells #[a, v] 34)).alloc (.cells #[] 2) := ⟨_, rfl⟩
 have T0 : Lo w a v (some ⟨w.heap.size + 1, 0, none⟩) 0 0 [] W := by
  rw [hW]
  refine ⟨(Row.new _ _ _).alloc _, ?_, ((Below.refl _ _).alloc (Nat.le_refl _) _).alloc (by simp) _⟩
  have := own_empty (w.alloc (.cells #[a, v] 34)) (w.heap.size + 1) (by simp)
  simpa using this
 have HW := hid hW
 have LR := hid (fun (w1 : World) (bb : Below w.heap.size w w1) => l7Right a v d T m c t w1 (h.next bb) hz (hT.next bb) hm)
 have LX := hid (fun (w1 : World) (bb : Below w.heap.size w w1) x hok hx => l8Redex a v _ d t x w1 (h.next bb) (htv.next bb) hz hok hx)
 have H0 := hid T0
 clear hW h ht htv hT hcT T0
 cases ok : rightB d.1 d.2 t with
 | false =>
  have HR := hid ok
  rw [ok] at LR
  clear ok LX
  go_enter Try.func64, Try.ntmps64
  go_wp2_with fail
  rw [← HW.out]
  go_loopg [5, 6] 0 (fun g out at_ wr => at_ = .int .i64 0 ∧ out = .slice (some ⟨w.heap.size + 1, 0, none⟩) 0 0 ∧ Lo w a v (some ⟨w.heap.size + 1, 0, none⟩) 0 0 [] wr)
  case atStart => exact ⟨rfl, rfl, H0.out⟩
  case round =>
   clear H0
   obtain ⟨rfl, rfl, S⟩ := hrel
   have SS := hid S
   have K0 : wr.cell? ⟨w.heap.size, 0, none⟩ = some a := S.r.cell 0
   have K1 : wr.cell? ⟨w.heap.size, 1, none⟩ = some v := S.r.cell 1
   have LR1 := hid (LR.out wr S.b)
   clear S LR
   by_cases h0 : 0 < m
   ·have h1 : (0 : Int) < (m : Int) := by omega
    go_wp2_with (fail)
    refine LR1.out.mono ?_
    rintro e w2 ⟨rfl, bb⟩
    have F := hid ((SS.out.next bb).list (places_no HR.out))
    clear bb K0 K1 SS
    go_wp2
    go_ret
    exact F.out
   ·have h1 : ¬ (0 : Int) < (m : Int) := by omega
    have F := hid (SS.out.list (places_no HR.out))
    clear SS
    go_wp2
    go_ret
    exact F.out
 | true =>
  have HR := hid ok
  have hm60 : m ≤ 60 := by have := (term_len (right_parts ok).2).2; have := HTL.out; omega
  rw [ok] at LR
  clear ok
  go_enter Try.func64, Try.ntmps64
  go_wp2_with fail
  rw [← HW.out]
  go_loopg [5, 6] m (fun g out at_ wr => ∃ (i on oc : Nat) (O : Option Addr), at_ = .int .i64 i ∧ i + g = m ∧ out = .slice O on oc ∧ on ≤ i ∧ Lo w a v O on oc (plN d.1 d.2 t i) wr)
  case atStart => exact ⟨0, 0, 0, _, rfl, by omega, rfl, Nat.le_refl _, H0.out⟩
  case round =>
   clear H0
   obtain ⟨i, on, oc, O, rfl, hig, rfl, hon, S⟩ := hrel
   have HI := hid hig
   have SS := hid S
   have K0 : wr.cell? ⟨w.heap.size, 0, none⟩ = some a := S.r.cell 0
   have K1 : wr.cell? ⟨w.heap.size, 1, none⟩ = some v := S.r.cell 1
   have LR1 := hid (LR.out wr S.b)
   clear S LR hig
   by_cases h0 : i < m
   ·have h1 : (i : Int) < (m : Int) := by omega
    have LX1 := hid (fun w1 (bb : Below w.heap.size w w1) => LX.out w1 bb i HR.out (by rw [HTL.out]; exact h0))
    clear LX
    go_wp2_with (fail)
    refine LR1.out.mono ?_
    rintro e w2 ⟨rfl, bb⟩
    have S2 := SS.out.next bb
    have SS2 := hid S2
    have k0 : w2.cell? ⟨w.heap.size, 0, none⟩ = some a := S2.r.cell 0
    have k1 : w2.cell? ⟨w.heap.size, 1, none⟩ = some v := S2.r.cell 1
    have LX2 := hid (LX1.out w2 S2.b)
    clear bb K0 K1 SS S2 LX1 LR1
    go_wp2_with (fail)
    refine LX2.out.mono ?_
    rintro e w3 ⟨rfl, bb⟩
    have S3 := SS2.out.next bb
    have HS3 := hid S3
    cases hb : hasR d.1 d.2 t i with
    | false =>
     have hrf : ruleF d.1 d.2 t i = -1 := by
      refine (rule_none fun k hk => ?_).1
      cases hh : redB d.1 (d.2.getD k ([], [])) t i with
      | false => rfl
      | true => rw [places_has hk hh] at hb; cases hb
     have F := hid (show Lo w a v O on oc (plN d.1 d.2 t (i + 1)) w3 by rw [pl_no hb]; exact S3)
     rw [hrf]
     clear bb k0 k1 SS2 S3 HS3 LX2 hb hrf
     go_wp2
     go_roundg (gk - 1)
     case measure => have := HI.out; omega
     case rel => exact ⟨i + 1, on, oc, O, by simp, by have := HI.out; omega, rfl, by omega, F.out⟩
    | true =>
     obtain ⟨k, hk, hrf, -, -⟩ := has_rule hb
     have HB := hid hb
     have hkk : (0 : Int) ≤ (k : Int) := by omega
     rw [hrf]
     clear bb k0 k1 SS2 S3 LX2 hb hrf hk
     have ho : Own w3 (w.heap.size + 1) (.slice O on oc) (plN d.1 d.2 t i) := HS3.out.o
     have hsz : w.heap.size < w3.heap.size := HS3.out.r.lt
     go_wp2_with (at_builtin; refine app1 rfl _ _ rfl (w.heap.size + 1) O on oc _ rfl (Own.alloc ho _) w3.heap.size 1 (i : Int) rfl ((Row.new _ _ _).cell 0) (by omega) (by simp; omega) ?_; intro O' oc' w4 ho4 b4)
     have F := hid (show Lo w a v O' (on + 1) oc' (plN d.1 d.2 t (i + 1)) w4 from by
      have hb3 : Below (w.heap.size + 1) w3 w4 := ((Below.refl _ _).alloc (show w.heap.size + 1 ≤ w3.heap.size by omega) _).trans b4
      rw [pl_yes HB.out]
      exact HS3.out.over ho4 hb3)
     clear ho4 b4 ho HS3 HB
     go_wp2
     go_roundg (gk - 1)
     case measure => have := HI.out; omega
     case rel => exact ⟨i + 1, on + 1, oc', O', by simp, by have := HI.out; omega, rfl, by omega, F.out⟩
   ·have e1 : i = m := by have := HI.out; omega
    subst e1
    have h1 : ¬ (i : Int) < (i : Int) := by omega
    have F := hid (SS.out.list (show _ = placesI d.1 d.2 t by rw [← places_yes HR.out, HTL.out]))
    clear SS LR1 LX K0 K1
    go_wp2
    go_ret
    exact F.out
end orderSpec
end
end Go.Proofs.Ytblhmplpcdcejaa
