/-
  MERGED: my texts Put, Shifted, Filled, SameSubst, CompMath, PlainFacts, MatchTot, MatchFacts, StepSpec, StepSpecB, FindSpecA, FindSpec, one behind the other, as they are. By an AI agent.
-/
import Derived.Test.YtblhmplpcdcejaaMFnExactWalkTo4
import Derived.Deep.AppendLies
import Derived.Deep.RegionHeld3
import Derived.Deep.DeepCutAuto
namespace Go.Proofs.Ytblhmplpcdcejaa
section
open Go.Lib (hid)
namespace put
open Go.RowKit segsHelp base ints sig term arity endOf cursor termOk endAt inside marks app sym sub segs posMath putMath concat
set_option maxRecDepth 100000
theorem Seg.front {w : World} {B b off m a : Nat} {t : List Int} (h : Seg w B (some ⟨b, off, none⟩) m t) (ha : a ≤ m) : Seg w B (some ⟨b, off, none⟩) a (t.take a) := by
 have := Seg.cut (a := 0) (j := a) h (by omega)
 simpa using this
theorem Seg.back {w : World} {B b off m e : Nat} {t : List Int} (h : Seg w B (some ⟨b, off, none⟩) m t) (he : e ≤ m) : Seg w B (some ⟨b, off + e, none⟩) (m - e) (t.drop e) := by
 have := Seg.cut (a := e) (j := m - e) h (by omega)
 rwa [List.take_of_length_le (by simp [h.1])] at this
theorem Seg.none_any {w : World} {B : Nat} {A : Option Addr} {t : List Int} (h : t = []) : Seg w B A 0 t := ⟨by rw [h]; rfl, fun h => absurd h (Nat.lt_irrefl _)⟩
def putI (sg t u : List Int) (a : Nat) : List Int := putL t a (len1 sg t a) u
def AnsPut (w : World) (ys : List Int) (b : Bool) (e : Ending) (w' : World) : Prop := ∃ A n c, e = .returned (.tuple #[.slice A n c, .bool b]) ∧ Own w' w.heap.size (.slice A n c) ys ∧ Below w.heap.size w w'
def fitB (sg t u : List Int) (a : Nat) : Bool := decide ((putI sg t u a).length ≤ 60)
def fitL (sg t u : List Int) (a : Nat) : List Int := if fitB sg t u a = true then putI sg t u a else []
set_option maxHeartbeats 1000000 in
theorem l3Put (A A' U : Option Addr) (n c m c' un uc : Nat) (sg t u : List Int) (a : Nat) (w : World) (h : Seg w w.heap.size A n sg) (h' : Seg w w.heap.size A' m t) (hu : Seg w w.heap.size U un u) (hcu : U = none → uc = 0) (hn : n ≤ 1048576) (hm : m ≤ 1048576) (hun : un ≤ 60) (hc' : m ≤ c') (hc2 : c' ≤ 9223372036854775807)
  (hok : termOkB sg t = true) (hat : a < t.length) :
  Calls Try.prog 99 #[.agg #[.slice A n c], .slice A' m c', .int .i64 (a : Int), .slice U un uc] w (AnsPut w (fitL sg t u a) (fitB sg t u a)) := by
 have ham : a < m := by rw [h'.1] at hat; exact hat
 obtain ⟨b, off, x, rfl, -, -, -⟩ := h'.spot ham
 obtain ⟨W, hW⟩ : ∃ W, W = w.alloc (.cells #[.slice A n c] 31) := ⟨_, rfl⟩
 have f : Fr w W A n c sg (some ⟨b, off, none⟩) m t := by rw [hW]; exact Fr.start h h'
 have hU : Seg W w.heap.size U un u := hu.below f.b
 have HW := hid hW
 obtain ⟨j, hj⟩ : ∃ j, len1 sg t a = j := ⟨_, rfl⟩
 obtain ⟨t1, t2, t3⟩ := term_at hok hat
 have hars := (sig_arities (termOk_parts hok).1).1
 rw [hj] at t1 t2 t3
 rw [h'.1] at t3
 have h60 : m ≤ 60 := by have := (termOk_parts hok).2.1; rw [h'.1] at this; exact this
 have HE := hid (endI_some t1)
 have HTL := hid hat
 have HPI := hid (show putI sg t u a = t.take a ++ u ++ t.drop (a + j) by unfold putI putL; rw [hj, List.append_assoc])
 have hpl : (putI sg t u a).length = a + un + (m - (a + j)) := by rw [HPI.out]; simp [h'.1, hu.1]; omega
 have HPL := hid hpl
 have LC := hid (copyInts (some ⟨b, off, none⟩) a c' (t.take a) W ((Seg.front f.t1 (by omega))) (fun e => by cases e) (by omega))
 have HCU := hid hcu
 have i0 : (0 : Int) ≤ (a : Int) := by omega
 have i1 : (a : Int) ≤ (c' : Int) := by omega
 have i2 : (a : Int) + (j : Int) ≤ (c' : Int) := by omega
 have i3 : (a : Int) + (j : Int) ≤ (m : Int) := by omega
 clear hW h h' hu hj t1 hok hat hcu hpl
 go_enter Try.func99, Try.ntmps99
 go_wp2_with fail
 rw [← HW.out]
 refine LC.out.mono ?_
 rintro e w1 ⟨O1, n1, c1, rfl, o1, bb⟩
 have hta : (t.take a).length = a := by rw [List.length_take]; have := HTL.out; omega
 obtain rfl : n1 = a := by rw [Own.len o1, hta]
 replace hU := hU.below (bb.mono (Nat.le_of_lt f.size))
 replace o1 := Own.lower (base' := w.heap.size + 1) o1 f.size
 replace f := f.next bb
 have z1 : w.heap.size + 1 ≤ w1.heap.size := f.size
 clear bb hta LC
 go_wp2_with (at_builtin; refine appAll rfl _ _ rfl (w.heap.size + 1) O1 n1 c1 _ rfl o1 U un uc w.heap.size u rfl hU HCU.out (by omega) (by omega) z1 ?_; intro O2 c2 w2 o2 b2; have f2 := f.over b2; have cA2 : w2.cell? ⟨w.heap.size, 0, none⟩ = some (.slice A n c) := f2.cell)
 clear o1 b2 f hU z1 cA2
 replace f := f2
 clear f2
 have cA := f.cell
 obtain ⟨k, hk⟩ : ∃ k, n1 + j = k := ⟨_, rfl⟩
 rw [hk] at HPI HPL t3
 have HEK := hid (show endI sg t n1 = (k : Int) by rw [HE.out, ← hk]; omega)
 have hn1k : n1 ≤ k := by omega
 clear HE hk i2 i3 t2
 refine (specEnd A _ n c m c' sg t (n1 : Int) _ f.s1 f.t1 hn hm hars i0 (by omega)).mono ?_
 rintro e w3 ⟨he, bb⟩
 rw [Int.toNat_natCast, HEK.out] at he
 subst he
 replace f := f.next bb
 replace o2 := Own.next o2 bb
 clear bb cA
 have i2 : (k : Int) ≤ (c' : Int) := by omega
 have i4 : (k : Int) ≤ (m : Int) := by omega
 have z1 : w.heap.size + 1 ≤ w3.heap.size := f.size
 by_cases hce : c' = k
 ·subst hce
  have hmk : m - c' = 0 := by omega
  have HSG := hid (show Seg w3 w.heap.size (some ⟨b, off, none⟩) 0 [] from Seg.none_any rfl)
  have HPI2 := hid (show putI sg t u n1 = t.take n1 ++ u ++ [] by rw [HPI.out, List.drop_eq_nil_of_le (by rw [f.t1.1]; omega)])
  have HPL2 := hid (show (putI sg t u n1).length = n1 + un by rw [HPL.out, hmk]; rfl)
  clear hmk HPL HPI
  by_cases h6 : n1 + un ≤ 60
  ·have h7 : ¬ (60 : Int) < (n1 : Int) + (un : Int) := by omega
   go_wp2_with (at_builtin; refine appAll rfl _ _ rfl (w.heap.size + 1) O2 (n1 + un) c2 _ rfl o2 (some ⟨b, off, none⟩) 0 0 w.heap.size [] rfl HSG.out (fun e => by cases e) (by omega) (by omega) z1 ?_; intro O4 c4 w4 o4 b4)
   replace f := f.over b4
   have F : AnsPut w (fitL sg t u n1) (fitB sg t u n1) (.returned (.tuple #[.slice O4 (n1 + un) c4, .bool true])) w4 := ⟨O4, _, c4, by rw [show fitB sg t u n1 = true by unfold fitB; rw [HPL2.out]; exact decide_eq_true h6], by unfold fitL; rw [if_pos (by unfold fitB; rw [HPL2.out]; exact decide_eq_true h6), HPI2.out]; exact Own.lower o4 (Nat.le_succ _), f.b⟩
   have HF := hid F
   clear F o4 f
   go_ret2
   exact HF.out
  ·have h7 : (60 : Int) < (n1 : Int) + (un : Int) := by omega
   go_wp2_with (at_builtin; refine appAll rfl _ _ rfl (w.heap.size + 1) O2 (n1 + un) c2 _ rfl o2 (some ⟨b, off, none⟩) 0 0 w.heap.size [] rfl HSG.out (fun e => by cases e) (by omega) (by omega) z1 ?_; intro O4 c4 w4 o4 b4)
   replace f := f.over b4
   have F : AnsPut w (fitL sg t u n1) (fitB sg t u n1) (.returned (.tuple #[.slice (some ⟨w4.heap.size, 0, none⟩) 0 0, .bool false])) (w4.alloc (.cells #[] 2)) := ⟨_, 0, 0, by rw [show fitB sg t u n1 = false by unfold fitB; rw [HPL2.out]; exact decide_eq_false h6], by unfold fitL; rw [if_neg (by unfold fitB; rw [HPL2.out, decide_eq_false h6]; simp)]; exact own_empty w4 w.heap.size (Nat.le_of_lt f.size), (f.alloc _).b⟩
   have HF := hid F
   clear F o4 f
   go_ret2
   exact HF.out
 ·have HSG := hid (Seg.back f.s' (e := k) t3)
  obtain ⟨r, hr⟩ : ∃ r, m - k = r := ⟨_, rfl⟩
  rw [hr] at HPL HSG
  have hr60 : r ≤ 60 := by omega
  by_cases h6 : n1 + un + r ≤ 60
  ·have h7 : ¬ (60 : Int) < (n1 : Int) + (un : Int) + (r : Int) := by omega
   go_wp2_with (at_builtin; refine appAll rfl _ _ rfl (w.heap.size + 1) O2 (n1 + un) c2 _ rfl o2 (some ⟨b, off + k, none⟩) r (c' - k) w.heap.size (t.drop k) rfl HSG.out (fun e => by cases e) (by omega) (by omega) z1 ?_; intro O4 c4 w4 o4 b4)
   replace f := f.over b4
   have F : AnsPut w (fitL sg t u n1) (fitB sg t u n1) (.returned (.tuple #[.slice O4 (n1 + un + r) c4, .bool true])) w4 := ⟨O4, _, c4, by rw [show fitB sg t u n1 = true by unfold fitB; rw [HPL.out]; exact decide_eq_true h6], by unfold fitL; rw [if_pos (by unfold fitB; rw [HPL.out]; exact decide_eq_true h6), HPI.out]; exact Own.lower o4 (Nat.le_succ _), f.b⟩
   have HF := hid F
   clear F o4 f
   go_ret2
   exact HF.out
  ·have h7 : (60 : Int) < (n1 : Int) + (un : Int) + (r : Int) := by omega
   go_wp2_with (at_builtin; refine appAll rfl _ _ rfl (w.heap.size + 1) O2 (n1 + un) c2 _ rfl o2 (some ⟨b, off + k, none⟩) r (c' - k) w.heap.size (t.drop k) rfl HSG.out (fun e => by cases e) (by omega) (by omega) z1 ?_; intro O4 c4 w4 o4 b4)
   replace f := f.over b4
   have F : AnsPut w (fitL sg t u n1) (fitB sg t u n1) (.returned (.tuple #[.slice (some ⟨w4.heap.size, 0, none⟩) 0 0, .bool false])) (w4.alloc (.cells #[] 2)) := ⟨_, 0, 0, by rw [show fitB sg t u n1 = false by unfold fitB; rw [HPL.out]; exact decide_eq_false h6], by unfold fitL; rw [if_neg (by unfold fitB; rw [HPL.out, decide_eq_false h6]; simp)]; exact own_empty w4 w.heap.size (Nat.le_of_lt f.size), (f.alloc _).b⟩
   have HF := hid F
   clear F o4 f
   go_ret2
   exact HF.out
def putB (sg t u : List Int) (x : Int) : Bool := (thereB sg t x && termOkB sg u) && fitB sg t u x.toNat
def putR (sg t u : List Int) (x : Int) : List Int := if putB sg t u x = true then putI sg t u x.toNat else []
theorem put_no {sg t u : List Int} {x : Int} (h : thereB sg t x = false ∨ termOkB sg u = false) : putB sg t u x = false ∧ putR sg t u x = [] := by
 have e : putB sg t u x = false := by
  unfold putB
  rcases h with h | h <;> rw [h] <;> simp
 exact ⟨e, by unfold putR; rw [if_neg (by rw [e]; simp)]⟩
theorem put_yes {sg t u : List Int} {a : Nat} (h1 : thereB sg t (a : Int) = true) (h2 : termOkB sg u = true) : putB sg t u (a : Int) = fitB sg t u a ∧ putR sg t u (a : Int) = fitL sg t u a := by
 have e : putB sg t u (a : Int) = fitB sg t u a := by unfold putB; rw [h1, h2, Int.toNat_natCast]; rfl
 exact ⟨e, by unfold putR fitL; rw [e, Int.toNat_natCast]⟩
theorem ansPut_no {w w' : World} {sg t u : List Int} {x : Int} {A : Option Addr} {c : Nat} (h : thereB sg t x = false ∨ termOkB sg u = false) (ho : Own w' w.heap.size (.slice A 0 c) []) (hb : Below w.heap.size w w') : AnsPut w (putR sg t u x) (putB sg t u x) (.returned (.tuple #[.slice A 0 c, .bool false])) w' := by
 obtain ⟨e1, e2⟩ := put_no h
 exact ⟨A, 0, c, by rw [e1], by rw [e2]; exact ho, hb⟩
set_option maxHeartbeats 400000 in
theorem tooLong (A : Option Addr) (n c : Nat) (w : World) (hn : n ≤ 9223372036854775807) :
  Calls Try.prog 130 #[.slice A n c] w fun e w' => w = w' ∧ e = .returned (.bool (decide (60 < n))) := by
 have E : decide ((60 : Int) < (n : Int)) = decide (60 < n) := decide_eq_decide.2 (by omega)
 rw [← E]
 have HE := hid E
 clear E
 generalize hz : decide ((60 : Int) < (n : Int)) = z
 have HZ := hid hz
 clear hz
 go_enter Try.func130, Try.ntmps130
 go_wp2
 go_ret
 exact ⟨rfl, by rw [← HZ.out]; rfl⟩
theorem segs3 {w : World} {t : TypeId} {A1 A2 A3 : Option Addr} {n1 c1 n2 c2 n3 c3 : Nat} {x1 x2 x3 : List Int} (h1 : Seg w w.heap.size A1 n1 x1) (h2 : Seg w w.heap.size A2 n2 x2) (h3 : Seg w w.heap.size A3 n3 x3) (k1 : Cap A1 n1 c1) (k2 : Cap A2 n2 c2) (k3 : Cap A3 n3 c3) :
  Segs (w.alloc (.cells #[.slice A1 n1 c1, .slice A2 n2 c2, .slice A3 n3 c3] t)) (w.alloc (.cells #[.slice A1 n1 c1, .slice A2 n2 c2, .slice A3 n3 c3] t)).heap.size (some ⟨w.heap.size, 0, none⟩) 3 [x1, x2, x3] := by
 have r := Row.new w t #[.slice A1 n1 c1, .slice A2 n2 c2, .slice A3 n3 c3]
 have b : Below w.heap.size w (w.alloc (.cells #[.slice A1 n1 c1, .slice A2 n2 c2, .slice A3 n3 c3] t)) := (Below.refl _ _).alloc (Nat.le_refl _) _
 refine ⟨rfl, fun _ => ⟨w.heap.size, 0, rfl, r.lt, fun j hj => ?_⟩⟩
 rw [Nat.zero_add, r.cell j]
 rcases (show j = 0 ∨ j = 1 ∨ j = 2 by omega) with rfl | rfl | rfl
 ·exact ⟨A1, n1, c1, rfl, h1.next b, k1⟩
 ·exact ⟨A2, n2, c2, rfl, h2.next b, k2⟩
 ·exact ⟨A3, n3, c3, rfl, h3.next b, k3⟩
set_option maxHeartbeats 1000000 in
theorem implPutAt (A A' U : Option Addr) (n c m c' un uc : Nat) (sg t : List Int) (x : Int) (u : List Int) (w : World) (h : Seg w w.heap.size A n sg) (h' : Seg w w.heap.size A' m t) (hu : Seg w w.heap.size U un u) (hn : n ≤ 1048576) (hm : m ≤ 1048576) (hun : un ≤ 1048576) (hx1 : -9223372036854775808 ≤ x) (hx2 : x ≤ 9223372036854775807)
  (hcu : Cap U un uc) (hc' : m ≤ c') (hc2 : c' ≤ 9223372036854775807) :
  Calls Try.prog 119 #[.agg #[.slice A n c], .slice A' m c', .int .i64 x, .slice U un uc] w (AnsPut w (putR sg t u x) (putB sg t u x)) := by
 obtain ⟨W, hW⟩ : ∃ W, W = w.alloc (.cells #[.slice A n c] 31) := ⟨_, rfl⟩
 have f : Fr w W A n c sg A' m t := by rw [hW]; exact Fr.start h h'
 have hU : Seg W W.heap.size U un u := (hu.below f.b).more (Nat.le_of_lt f.size)
 have HW := hid hW
 have HLM := hid h'.1
 have L := hid (implEndOf A A' n c m c' sg t x W f.s1 f.t1 hn hm hx1 hx2)
 clear hW h h' hu
 cases hx : thereB sg t x with
 | false =>
  have HX := hid hx
  have HE := hid (show endOfI sg t x = -1 by unfold endOfI; rw [if_neg (by rw [hx]; simp)])
  clear hx
  go_enter Try.func119, Try.ntmps119
  go_wp2_with fail
  rw [← HW.out]
  refine L.out.mono ?_
  rintro e w1 ⟨he, bb⟩
  rw [HE.out] at he
  subst he
  have F := hid (ansPut_no (w := w) (u := u) (.inl HX.out) (Own.nil w1 w.heap.size) (f.next bb).b)
  clear f L bb hU
  go_wp2
  go_ret2
  exact F.out
 | true =>
  have HX := hid hx
  obtain ⟨hok, i0, i1⟩ := there_parts hx
  obtain ⟨a, rfl⟩ := Int.eq_ofNat_of_zero_le i0
  have hal : a < t.length := by omega
  obtain ⟨k, hk⟩ : ∃ k, a + len1 sg t a = k := ⟨_, rfl⟩
  have HE := hid (show endOfI sg t (a : Int) = (k : Int) by unfold endOfI; rw [if_pos hx, Int.toNat_natCast, end_at hok hal, hk])
  have HK := hid hk
  have hkm : k ≤ m := by have h3 := (term_at hok hal).2.2; rw [HLM.out] at h3; omega
  have hak : a < k := by have h3 := (term_at hok hal).2.1; omega
  have h60 : m ≤ 60 := by have h3 := (termOk_parts hok).2.1; rw [HLM.out] at h3; exact h3
  have hneg : ¬ (k : Int) < 0 := by omega
  clear hx hok i0 i1 hk
  cases hku : termOkB sg u with
  | false =>
   have HU := hid hku
   clear hku
   go_enter Try.func119, Try.ntmps119
   go_wp2_with fail
   rw [← HW.out]
   refine L.out.mono ?_
   rintro e w1 ⟨he, bb⟩
   rw [HE.out] at he
   subst he
   replace f := f.next bb
   replace hU := hU.next bb
   have cA := f.cell
   clear bb L
   go_wp2_with fail
   refine (implTermOk A U n c un uc sg u _ f.s1 hU hn hun).mono ?_
   rintro e w2 ⟨he, bb⟩
   rw [HU.out] at he
   subst he
   have F := hid (ansPut_no (w := w) (t := t) (x := (a : Int)) (.inr HU.out) (Own.nil w2 w.heap.size) (f.next bb).b)
   clear f bb hU cA
   go_wp2
   go_ret2
   exact F.out
  | true =>
   have HU := hid hku
   have hu60 : un ≤ 60 := by have h1 := (termOk_parts hku).2.1; rw [hU.1] at h1; exact h1
   have HP := hid (put_yes HX.out hku)
   have HUL := hid hU.1
   have HPI := hid (show [t.take a, u, t.drop k].flatten = putI sg t u a by unfold putI putL; rw [HK.out]; simp)
   have HPL := hid (show (putI sg t u a).length = a + un + (m - k) by rw [← HPI.out]; simp [HUL.out, HLM.out]; omega)
   have HT := hid (show tot [t.take a, u, t.drop k] ≤ 1048576 by unfold tot sumL; simp [HUL.out, HLM.out]; omega)
   clear hku
   go_enter Try.func119, Try.ntmps119
   go_wp2_with fail
   rw [← HW.out]
   refine L.out.mono ?_
   rintro e w1 ⟨he, bb⟩
   rw [HE.out] at he
   subst he
   replace f := f.next bb
   replace hU := hU.next bb
   have cA := f.cell
   clear bb L
   go_wp2_with fail
   refine (implTermOk A U n c un uc sg u _ f.s1 hU hn hun).mono ?_
   rintro e w2 ⟨he, bb⟩
   rw [HU.out] at he
   subst he
   replace f := f.next bb
   replace hU := hU.next bb
   clear bb cA
   obtain ⟨b, off, y, rfl, -, -, -⟩ := f.t1.spot (show a < m by omega)
   have i0 : (0 : Int) ≤ (a : Int) := by omega
   have i1 : (a : Int) ≤ (c' : Int) := by omega
   have i2 : (k : Int) ≤ (c' : Int) := by omega
   have i3 : (k : Int) ≤ (m : Int) := by omega
   have i4 : (0 : Int) ≤ (k : Int) := by omega
   have SF := Seg.front f.t1 (show a ≤ m by omega)
   by_cases hce : c' = k
   ·subst hce
    have hmk : m - c' = 0 := by omega
    have S3 := hid (segs3 (t := 22) (A3 := some ⟨b, off, none⟩) (c3 := 0) SF hU (Seg.none_any (show t.drop c' = [] from List.drop_eq_nil_of_le (by rw [f.t1.1]; omega))) ⟨show a ≤ c' by omega, hc2, fun e => by cases e⟩ hcu ⟨Nat.le_refl _, by omega, fun _ => rfl⟩).drew
    rw [hmk] at HPL
    clear SF hmk
    go_wp2_with fail
    go_region_held3 (fun _ => True)
     (trivial)
     (first
      | (go_at_call 129; refine (concat _ _ _ _ _ S3.out HT.out).mono ?_; rintro e w4 ⟨O4, n4, c4, rfl, o4, b4⟩))
    have hn4 : n4 = a + un + 0 := by rw [Own.len o4, HPI.out]; exact HPL.out
    have bf := (((Below.refl w2.heap.size w2).alloc (Nat.le_refl _) (.cells #[.slice (some ⟨b, off, none⟩) a c', .slice U un uc, .slice (some ⟨b, off, none⟩) 0 0] 22)).drew).trans (b4.mono (by simp))
    have hsz := f.size
    replace f := f.next bf
    replace o4 := Own.lower (base' := w.heap.size) o4 (by simp; omega)
    obtain ⟨z, hz⟩ : ∃ z, fitB sg t u a = z := ⟨_, rfl⟩
    have F : AnsPut w (putR sg t u (a : Int)) (putB sg t u (a : Int)) (.returned (.tuple #[if z = true then .slice O4 n4 c4 else .slice none 0 0, .bool z])) w4 := by
     refine ⟨if z = true then O4 else none, if z = true then n4 else 0, if z = true then c4 else 0, ?_, ?_, f.b⟩
     ·rw [HP.out.1, hz]; cases z <;> rfl
     ·rw [HP.out.2]
      unfold fitL
      rw [hz]
      cases z with
      | false => exact Own.nil _ _
      | true => rw [HPI.out] at o4; exact o4
    have HF := hid F
    have HTL := hid (show decide (60 < n4) = !z by
     rw [← hz]
     unfold fitB
     rw [HPL.out, hn4]
     by_cases e : a + un + 0 ≤ 60
     ·rw [decide_eq_true e, decide_eq_false (by omega)]; rfl
     ·rw [decide_eq_false e, decide_eq_true (by omega)]; rfl)
    have h463 : n4 ≤ 9223372036854775807 := by omega
    clear F o4 b4 f hz hn4 bf S3 hU
    go_wp2_with fail
    refine (tooLong O4 n4 c4 w4 h463).mono ?_
    rintro e w5 ⟨rfl, rfl⟩
    rw [HTL.out]
    cases z with
    | false =>
     go_wp2
     go_ret2
     exact HF.out
    | true =>
     go_wp2
     go_ret2
     exact HF.out
   ·obtain ⟨r, hr⟩ : ∃ r, m - k = r := ⟨_, rfl⟩
    have SB := Seg.back f.t1 hkm
    rw [hr] at SB HPL
    have hr60 : r ≤ 60 := by omega
    have S3 := hid (segs3 (t := 22) SF hU SB ⟨show a ≤ c' by omega, hc2, fun e => by cases e⟩ hcu ⟨show r ≤ c' - k by omega, by omega, fun e => by cases e⟩).drew
    clear SF SB
    go_wp2_with fail
    go_region_held3 (fun _ => True)
     (trivial)
     (first
      | (go_at_call 129; refine (concat _ _ _ _ _ S3.out HT.out).mono ?_; rintro e w4 ⟨O4, n4, c4, rfl, o4, b4⟩))
    have hn4 : n4 = a + un + r := by rw [Own.len o4, HPI.out]; exact HPL.out
    have bf := (((Below.refl w2.heap.size w2).alloc (Nat.le_refl _) (.cells #[.slice (some ⟨b, off, none⟩) a c', .slice U un uc, .slice (some ⟨b, off + k, none⟩) r (c' - k)] 22)).drew).trans (b4.mono (by simp))
    have hsz := f.size
    replace f := f.next bf
    replace o4 := Own.lower (base' := w.heap.size) o4 (by simp; omega)
    obtain ⟨z, hz⟩ : ∃ z, fitB sg t u a = z := ⟨_, rfl⟩
    have F : AnsPut w (putR sg t u (a : Int)) (putB sg t u (a : Int)) (.returned (.tuple #[if z = true then .slice O4 n4 c4 else .slice none 0 0, .bool z])) w4 := by
     refine ⟨if z = true then O4 else none, if z = true then n4 else 0, if z = true then c4 else 0, ?_, ?_, f.b⟩
     ·rw [HP.out.1, hz]; cases z <;> rfl
     ·rw [HP.out.2]
      unfold fitL
      rw [hz]
      cases z with
      | false => exact Own.nil _ _
      | true => rw [HPI.out] at o4; exact o4
    have HF := hid F
    have HTL := hid (show decide (60 < n4) = !z by
     rw [← hz]
     unfold fitB
     rw [HPL.out, hn4]
     by_cases e : a + un + r ≤ 60
     ·rw [decide_eq_true e, decide_eq_false (by omega)]; rfl
     ·rw [decide_eq_false e, decide_eq_true (by omega)]; rfl)
    have h463 : n4 ≤ 9223372036854775807 := by omega
    clear F o4 b4 f hz hn4 bf S3 hU
    go_wp2_with fail
    refine (tooLong O4 n4 c4 w4 h463).mono ?_
    rintro e w5 ⟨rfl, rfl⟩
    rw [HTL.out]
    cases z with
    | false =>
     go_wp2
     go_ret2
     exact HF.out
    | true =>
     go_wp2
     go_ret2
     exact HF.out
end put
end
section
namespace shifted
open Go.RowKit base ints sig term termOk marks app sym segs termFacts varsMath fillMath Go.Proofs.Ytblhmplpcdcejaa.look
set_option maxRecDepth 100000
def AnsPairO (w : World) (ys : List Int) (b : Bool) (e : Ending) (w' : World) : Prop := ∃ A n c, e = .returned (.tuple #[.slice A n c, .bool b]) ∧ Own w' w.heap.size (.slice A n c) ys ∧ Below w.heap.size w w'
end shifted
end
section
open Go.Lib (hid)
namespace filled
open Go.RowKit base ints sig cursor term termOk marks app appAt sym sub segs segsHelp termFacts varsMath varsOf fillMath Go.Proofs.Ytblhmplpcdcejaa.look shifted substOk gives
set_option maxRecDepth 100000
theorem stepAppAll {w : World} {ops : Array Oper} {o : Oper} {a : Act} {K : Act → World → Prop} {Q : Exit → Act → World → Prop} {E : Prop} (hgd : o.guard = none) (s x : Operand)
  (ho : o.op = .call { callee := .builtin .append, args := #[s, x], argTypes := #[22, 22] })
  (base : Nat) (A : Option Addr) (n c : Nat) (xs : List Int) (hs : a.eval s = .slice A n c) (hown : Own w base (.slice A n c) xs)
  (S : Option Addr) (m c2 B : Nat) (ys : List Int) (hx : a.eval x = .slice S m c2) (hseg : Seg w B S m ys) (hm1 : 1 ≤ m) (hn : n ≤ 2097152) (hm : m ≤ 2097152) (hbase : base ≤ w.heap.size)
  (h : ∀ g' c' w', Own w' base (.slice (some ⟨g', 0, none⟩) (n + m) c') (xs ++ ys) → w.grownBy w' (blk A) → (blk A = some g' ∨ g' = w.heap.size) → g' < w'.heap.size → K (a.put o.dst (.slice (some ⟨g', 0, none⟩) (n + m) c')) w') :
  if Region.wanted o (yielded ops a.tmps) = true then Oper.wp Try.prog o a w K Q else E := by
 obtain ⟨i0, hi, hz0, hz1, hz2⟩ := info_parts info_i64
 have hl : xs.length = n := by
  obtain ⟨A', c', e⟩ := hown.slice
  exact (Value.slice.inj e).2.1.symm
 have hob : (Value.slice A n c).ownBlock = blk A := by cases A <;> rfl
 obtain ⟨b, off, e, _, hc⟩ := hseg.2 (by omega)
 subst e
 refine step_append_lies w hgd s x 22 ho base 2 i0 (.int .i64 0) 1 8 Try.underlying22 hi hz0 hz1 hz2 rfl (by decide) (.slice A n c) n (xs.map (Value.int .i64)) hs (by rw [← hl]; rw [← hl] at hown; exact hown)
  ⟨b, off, none⟩ m c2 (ys.map (Value.int .i64)) hx (by simp [hseg.1]) (fun j u hj => ?_) (fun u hu => ?_) (by omega) (by unfold maxLen; omega) (by omega) hbase w.heap.size rfl ?_
 ·have hjl : j < m := by
   have := (List.getElem?_eq_some_iff.1 hj).1
   simp at this
   have := hseg.1
   omega
  have hcj := hc j hjl
  have e2 : (⟨b, off, none⟩ : Addr).add j = ⟨b, off + j, none⟩ := by unfold Addr.add; split <;> simp_all
  rw [e2, hcj, ← hj]
  have := hseg.1
  simp [List.getD, show j < ys.length by omega]
 ·obtain ⟨y, _, rfl⟩ := List.mem_map.1 hu
  rfl
 ·intro g' c' w' hown' hg hat hlt
  rw [← List.map_append] at hown'
  rw [hob] at hg hat
  refine h g' c' w' ?_ hg hat hlt
  have hl2 : (xs ++ ys).length = n + m := by simp [hl, hseg.1]
  unfold Own
  rw [hl2]
  exact hown'
def fitsB (ss : List (List Int)) (t : List Int) : Bool := decide ((fillL (givesL ss) t).length ≤ 60)
def fitL (ss : List (List Int)) (t : List Int) : List Int := if fitsB ss t = true then fillL (givesL ss) t else []
theorem fits_no {ss : List (List Int)} {t : List Int} {k : Nat} (h : 60 < (fillL (givesL ss) (t.take k)).length) : fitsB ss t = false := by
 have e : fillL (givesL ss) t = fillL (givesL ss) (t.take k) ++ fillL (givesL ss) (t.drop k) := by rw [← fill_append, List.take_append_drop]
 unfold fitsB
 rw [e, List.length_append]
 simp
 omega
def HeadF (w : World) (S : Option Addr) (m c mt : Nat) (ss : List (List Int)) (t : List Int) (out i : Value) (wr : World) : Prop :=
 ∃ (k : Nat) (O : Option Addr) (on oc : Nat), k ≤ mt ∧ i = .int .i64 k ∧ out = .slice O on oc ∧ on ≤ 60 ∧ Own wr (w.heap.size + 1) (.slice O on oc) (fillL (givesL ss) (t.take k)) ∧ Row wr w.heap.size 106 #[.slice S m c] ∧ Below w.heap.size w wr
theorem pairF_no {w wr : World} {ss : List (List Int)} {t : List Int} (h : fitsB ss t = false) (hb : Below w.heap.size w wr) : AnsPairO w (fitL ss t) (fitsB ss t) (.returned (.tuple #[.slice (some ⟨wr.heap.size, 0, none⟩) 0 0, .bool false])) (wr.alloc (.cells #[] 2)) :=
 ⟨_, 0, 0, by rw [h], by unfold fitL; rw [if_neg (by rw [h]; simp)]; exact own_empty wr w.heap.size hb.size, hb.alloc hb.size _⟩
set_option maxHeartbeats 8000000 in
theorem l2Filled (S A : Option Addr) (m c mt ct : Nat) (ss : List (List Int)) (t : List Int) (w : World) (h : Segs w w.heap.size S m ss) (h' : Seg w w.heap.size A mt t) (ht : tot ss ≤ 1048576) (hmt : mt ≤ 60) (hv : ∀ x ∈ t, -24 ≤ x) (hM : ∀ i, (givesL ss i).length ≤ 60) :
  Calls Try.prog 98 #[.agg #[.slice S m c], .slice A mt ct] w (AnsPairO w (fitL ss t) (fitsB ss t)) := by
 have HL := hid h'.1
 have HV := hid hv
 have HM := hid hM
 have HT := hid ht
 have S0 : HeadF w S m c mt ss t (.slice (some ⟨w.heap.size + 1, 0, none⟩) 0 0) (.int .i64 0) ((w.alloc (.cells #[.slice S m c] 106)).alloc (.cells #[] 2)) :=
  ⟨0, _, _, _, Nat.zero_le _, rfl, rfl, by omega, by have := own_empty (w.alloc (.cells #[.slice S m c] 106)) (w.heap.size + 1) (by simp); simpa [fillL] using this, (Row.new _ _ _).alloc _, ((Below.refl _ _).alloc (Nat.le_refl _) _).alloc (by simp) _⟩
 have HS0 := hid S0
 clear S0 hv hM ht
 go_enter Try.func98, Try.ntmps98
 go_wp2_with fail
 go_loopw [6, 7] (fun out i wr => HeadF w S m c mt ss t out i wr) (fun _ i _ => mt - (intOf i).toNat)
 case atStart => exact HS0.out
 case round =>
  obtain ⟨k, O, on, oc, hk, rfl, rfl, hon, ho, hr, hb⟩ := hrel
  clear HS0
  have hsz := hr.lt
  by_cases hlt : k < mt
  ·obtain ⟨b, off, x, rfl, hbb, hx, ex⟩ := h'.spot hlt
   have hx1 : wr.cell? ⟨b, off + k, none⟩ = some (.int .i64 x) := (hb.cell (p := ⟨b, off + k, none⟩) hbb).trans hx
   have hbr : b < wr.heap.size := Nat.lt_of_lt_of_le hbb hb.size
   have cS : wr.cell? ⟨w.heap.size, 0, none⟩ = some (.slice S m c) := hr.cell 0
   have hmem : x ∈ t := by
    have hkl : k < t.length := by rw [HL.out]; exact hlt
    have := ex.out
    rw [← this]
    simp [List.getD, hkl]
   have hx24 : -24 ≤ x := HV.out x hmem
   have E := hid (fill_take (L := givesL ss) (t := t) (k := k) (by rw [HL.out]; exact hlt) ex.out)
   have i0 : (0 : Int) ≤ (k : Int) := by omega
   have i1 : (k : Int) < (mt : Int) := by omega
   have HN := hid (Own.len ho)
   have hx0 := hx
   clear hmem hx h' ex
   by_cases hpos : 0 ≤ x
   ·have R := hid (rep_sym (L := givesL ss) hpos)
    have d1 : decide (x < 0) = false := by simp; omega
    by_cases h60 : on + 1 ≤ 60
    ·go_wp2_with (at_builtin; refine app1 rfl _ _ rfl (w.heap.size + 1) O on oc (fillL (givesL ss) (t.take k)) rfl (Own.alloc ho _) wr.heap.size 1 x rfl ((Row.new _ _ _).cell 0) (by omega) (by simp; omega) ?_; intro O' oc' w2 ho2 b2)
     have S1 : HeadF w S m c mt ss t (.slice O' (on + 1) oc') (.int .i64 ((k : Int) + 1)) w2 := ⟨k + 1, O', on + 1, oc', hlt, by simp, rfl, h60, by rw [E.out, R.out]; exact ho2, (hr.alloc _).below b2 (Nat.lt_succ_self _), (hb.alloc (Nat.le_of_lt hsz) _).trans (b2.mono (Nat.le_succ _))⟩
     have HS1 := hid S1
     clear S1 ho2 b2 ho hr hb R E cS
     go_wp2
     go_roundw
     case rel => exact HS1.out
     case measure => simp [intOf]; omega
    ·have NO := hid (fits_no (ss := ss) (t := t) (k := k + 1) (by rw [E.out, R.out, List.length_append, ← HN.out]; simp; omega))
     go_wp2_with (at_builtin; refine app1 rfl _ _ rfl (w.heap.size + 1) O on oc (fillL (givesL ss) (t.take k)) rfl (Own.alloc ho _) wr.heap.size 1 x rfl ((Row.new _ _ _).cell 0) (by omega) (by simp; omega) ?_; intro O' oc' w2 ho2 b2)
     have F := hid (pairF_no NO.out ((hb.alloc (Nat.le_of_lt hsz) _).trans (b2.mono (Nat.le_succ _))))
     clear ho2 b2 ho hr hb R E cS
     go_wp2
     go_ret2
     exact F.out
   ·have hneg : x < 0 := by omega
    have R := hid (rep_var (L := givesL ss) hneg)
    obtain ⟨i, hi⟩ : ∃ i : Nat, (-1 - x).toNat = i := ⟨_, rfl⟩
    rw [hi] at R
    have hix : (i : Int) = -1 - x := by omega
    have LG := hid (l2Gives S m c ss i wr.drew (((h.below hb).more hb.size).drew) HT.out (by omega))
    rw [hix] at LG
    have hlen : (givesL ss i).length ≤ 60 := HM.out i
    have hlen1 : 1 ≤ (givesL ss i).length := gives_pos ss i
    obtain ⟨q, hq⟩ : ∃ q, (givesL ss i).length = q := ⟨_, rfl⟩
    rw [hq] at hlen hlen1
    have HQ := hid hq
    have hw1 : IntKind.i64.wrap (-1 - x) = -1 - x := by rw [IntKind.wrap_i64]; omega
    have hod := Own.drew ho
    have hrd := hr.drew
    have hbd := hb.drew
    clear hix hi hq h
    go_wp2_with fail
    go_region_held3 (fun w' => w'.cell? ⟨w.heap.size, 0, none⟩ = some (.slice S m c) ∧ w'.cell? ⟨b, off + k, none⟩ = some (.int .i64 x))
     (go_keep)
     (first
      | (go_at_call 109; refine LG.out.mono ?_; rintro e w1 ⟨D, dn, dc, rfl, od, bb⟩; obtain rfl : dn = q := (by rw [Own.len od]; exact HQ.out); have ho1 := Own.next hod bb; have hr1 := hrd.next bb; have hb1 := next_trans hbd bb; have cS1 : w1.cell? ⟨w.heap.size, 0, none⟩ = some (.slice S m c) := hr1.cell 0; have cX1 : w1.cell? ⟨b, off + k, none⟩ = some (.int .i64 x) := (bb.cell (p := ⟨b, off + k, none⟩) hbr).trans hx1)
      | (refine stepAppAll rfl _ _ rfl (w.heap.size + 1) O on oc (fillL (givesL ss) (t.take k)) (by rfl) ho1 D _ dc w1.heap.size (givesL ss i) (by rfl) (Own.seg od) (by omega) (by omega) (by omega) (by have := hr1.lt; omega) ?_; intro O' oc' w2 ho2 hg2 hat2 hlt2; have hr2 := Row.away hr1 hg2 (fun e => by have := (World.ownsRow.lt ho1 w.heap.size (by rw [blk_own]; exact e)).1; omega); have hb2 : Below w.heap.size w w2 := hb1.grown hg2 hb1.size (fun z hz => by have := (World.ownsRow.lt ho1 z (by rw [blk_own]; exact hz)).1; omega); have cS2 : w2.cell? ⟨w.heap.size, 0, none⟩ = some (.slice S m c) := hr2.cell 0; have cX2 : w2.cell? ⟨b, off + k, none⟩ = some (.int .i64 x) := (hb2.cell (p := ⟨b, off + k, none⟩) hbb).trans hx0))
    have hsum : (fillL (givesL ss) (t.take k) ++ givesL ss i).length = on + dn := by rw [List.length_append, ← HN.out, HQ.out]
    clear cS1 cX1 ho1 hr1 hb1 od bb hod hrd hbd LG ho hr hb cS hx1 hg2 hat2 HM HV
    by_cases h60 : on + dn ≤ 60
    ·have S1 : HeadF w S m c mt ss t (.slice (some ⟨O', 0, none⟩) (on + dn) oc') (.int .i64 ((k : Int) + 1)) w2 := ⟨k + 1, _, on + dn, oc', hlt, by simp, rfl, h60, by rw [E.out, R.out]; exact ho2, hr2, hb2⟩
     have HS1 := hid S1
     clear S1 ho2 hr2 hb2 R E HQ hsum
     go_wp2
     go_roundw
     case rel => exact HS1.out
     case measure => simp [intOf]; omega
    ·have NO := hid (fits_no (ss := ss) (t := t) (k := k + 1) (by rw [E.out, R.out, hsum]; omega))
     have F := hid (pairF_no NO.out hb2)
     clear ho2 hr2 hb2 R E HQ hsum
     go_wp2
     go_ret2
     exact F.out
  ·have F : AnsPairO w (fitL ss t) (fitsB ss t) (.returned (.tuple #[.slice O on oc, .bool true])) wr := by
    rw [List.take_of_length_le (by rw [HL.out]; omega)] at ho
    have hB : fitsB ss t = true := by unfold fitsB; rw [← Own.len ho]; simp; omega
    exact ⟨O, on, oc, by rw [hB], by unfold fitL; rw [if_pos hB]; exact Own.lower ho (Nat.le_succ _), hb⟩
   have HF := hid F
   clear F ho hr hb h h'
   go_wp2
   go_ret2
   exact HF.out
end filled
end
section
namespace sameSubst
open Go.RowKit base ints sig same marks sym segs segsHelp kinds varsOf fillMath Go.Proofs.Ytblhmplpcdcejaa.look substOk gives
set_option maxRecDepth 100000
end sameSubst
end
section
namespace compMath
open term termOk termFacts segsHelp fillMath substOk gives plainMath plainOf
end compMath
end
section
namespace plainFacts
open Go.RowKit base ints sig term termOk termFacts fillMath plainMath plainOf substOk gives sameSubst compMath filled
theorem gives_plain {L : Nat → List Int} {m i : Nat} (hpos : ∀ i, 1 ≤ (L i).length) (hout : ∀ i, m ≤ i → L i = vt i) : givesL (plainL L m) i = L i := by
 have e := plain_get L m i
 by_cases h : i < m
 ·rw [rows_get h] at e
  unfold bare at e
  by_cases h2 : L i = vt i
  ·rw [if_pos h2] at e
   rw [gives_var (by rw [e]; rfl), h2]
  ·rw [if_neg h2] at e
   rw [gives_term (by rw [e]; have := hpos i; omega), e]
 ·have e0 : (rowsL L m).getD i [] = [] := by simp [List.getD, rows_len, h]
  rw [e0] at e
  rw [gives_var (by rw [e]; rfl), hout i (by omega)]
end plainFacts
end
section
namespace matchTot
open Go.RowKit base ints sig term termOk app sym sub segs segsHelp plainMath gives plainOf fillMath termFacts matchMath matchSpec
theorem mst_short {sg t : List Int} : ∀ {p : List Int} {k : Nat} {s s' : List (List Int)}, mst sg t p k s = some s' → (∀ i, (s.getD i []).length ≤ t.length) → ∀ i, (s'.getD i []).length ≤ t.length := by
 intro p
 induction p with
 | nil => intro k s s' h hs; injection h with h; subst h; exact hs
 | cons x r ih =>
  intro k s s' h hs
  by_cases h1 : t.length ≤ k
  ·rw [mst_out h1] at h; cases h
  ·by_cases h2 : 0 ≤ x
   ·by_cases h3 : x = t.getD k 0
    ·rw [mst_sym h1 h2 h3] at h; exact ih h hs
    ·rw [mst_symNo h1 h2 h3] at h; cases h
   ·by_cases h3 : (s.getD (vr x) []).length ≠ 0 ∧ s.getD (vr x) [] ≠ subL sg t k
    ·rw [mst_varNo h1 h2 h3] at h; cases h
    ·rw [mst_var h1 h2 h3] at h
     refine ih h (fun i => ?_)
     rw [set_get]
     split
     ·unfold subL; rw [List.length_take, List.length_drop]; omega
     ·exact hs i
theorem match_tot {sg p t : List Int} : tot (resL (matchO sg p t)) ≤ 1048576 := by
 cases h1 : termOkB sg t with
 | false => rw [match_no (.inr h1)]; simp [resL, tot, sumL]
 | true =>
  cases h : matchO sg p t with
  | none => simp [resL, tot, sumL]
  | some s =>
   have ht := (term_len h1).2
   have hs : ∀ i, (s.getD i []).length ≤ t.length := by
    unfold matchO at h
    split at h
    ·exact mst_short h (fun i => by rw [s0_get]; simp)
    ·cases h
   have hg : ∀ i, (givesL s i).length ≤ 60 := fun i => by
    by_cases e : (s.getD i []).length = 0
    ·rw [gives_var e]; simp [vt]
    ·rw [gives_term e]; have := hs i; omega
   have h3 := tot_le (plain_each (L := givesL s) (m := 24) hg)
   have h4 := plain_len (givesL s) 24
   have h5 : (plainL (givesL s) 24).length * 60 ≤ 24 * 60 := Nat.mul_le_mul_right _ h4
   show tot (plainL (givesL s) 24) ≤ 1048576
   omega
end matchTot
end
section
namespace matchFacts
open sig term termOk termFacts endAt sub termMath fillMath posMath segsHelp substOk gives plainMath plainFacts filled sameSubst matchMath matchSpec
theorem mst_terms {sg t : List Int} (hok : termOkB sg t = true) : ∀ {p : List Int} {k : Nat} {s s' : List (List Int)}, mst sg t p k s = some s' → (∀ i, (s.getD i []).length = 0 ∨ termOkB sg (s.getD i []) = true) → ∀ i, (s'.getD i []).length = 0 ∨ termOkB sg (s'.getD i []) = true := by
 intro p
 induction p with
 | nil => intro k s s' h hs; injection h with h; subst h; exact hs
 | cons x r ih =>
  intro k s s' h hs
  by_cases h1 : t.length ≤ k
  ·rw [mst_out h1] at h; cases h
  ·by_cases h2 : 0 ≤ x
   ·by_cases h3 : x = t.getD k 0
    ·rw [mst_sym h1 h2 h3] at h; exact ih h hs
    ·rw [mst_symNo h1 h2 h3] at h; cases h
   ·by_cases h3 : (s.getD (vr x) []).length ≠ 0 ∧ s.getD (vr x) [] ≠ subL sg t k
    ·rw [mst_varNo h1 h2 h3] at h; cases h
    ·rw [mst_var h1 h2 h3] at h
     refine ih h (fun i => ?_)
     rw [set_get]
     split
     ·exact .inr (sub_term hok (by omega)).1
     ·exact hs i
theorem match_terms {sg p t : List Int} {s : List (List Int)} (h : matchO sg p t = some s) : termOkB sg p = true ∧ termOkB sg t = true ∧ s.length = 24 ∧ ∀ i, (s.getD i []).length = 0 ∨ termOkB sg (s.getD i []) = true := by
 obtain ⟨h1, h2⟩ := inst_ok (show instB sg p t = true by unfold instB; rw [h]; rfl)
 refine ⟨h1, h2, (match_turns h).1, ?_⟩
 rw [match_yes h1 h2] at h
 exact mst_terms h2 h (fun i => .inl (by rw [s0_get]; rfl))
theorem res_gives {s : List (List Int)} (h : s.length = 24) (i : Nat) : givesL (resL (some s)) i = givesL s i :=
 gives_plain (gives_pos s) (fun j hj => gives_out (by omega))
end matchFacts
end
section
open Go.Lib (hid)
namespace stepSpec
open Go.RowKit base ints sig term termOk endAt endOf marks app sym sub segs segsHelp kinds termFacts termMath posMath plainMath plainFacts plain gives fillMath shifted matchMath matchSpec putMath varsOf shape kindsR kindsW ruleMath ruleSpec stepMath walkMath
set_option maxRecDepth 100000
theorem right_sys {sg : List Int} {rs : List Rl} {t : List Int} (h : sysOkB sg rs = false) : rightB sg rs t = false := by unfold rightB; rw [h]; rfl
theorem right_parts {sg : List Int} {rs : List Rl} {t : List Int} (h : rightB sg rs t = true) : sysOkB sg rs = true ∧ termOkB sg t = true := by unfold rightB at h; rw [Bool.and_eq_true] at h; exact h
theorem at_no {sg : List Int} {rs : List Rl} {t : List Int} {a r : Int} (h : thereR sg rs t a r = false) : stepAtO sg rs t a r = none := by unfold stepAtO; rw [if_neg (by rw [h]; simp)]
theorem sys_rule {sg : List Int} {rs : List Rl} (h : sysOkB sg rs = true) {r : Nat} (hr : r < rs.length) : ruleOkB sg (rs.getD r ([], [])) = true := by
 have := rl_ok (r := (r : Int)) h (by omega)
 unfold rl at this
 simpa using this
def AnsStep (w : World) (o : Option (List Int)) (e : Ending) (w' : World) : Prop := AnsPairO w (o.getD []) o.isSome e w'
theorem ansStep_no {w w' : World} {o : Option (List Int)} (h : o = none) (hb : Below w.heap.size w w') : AnsStep w o (.returned (.tuple #[.slice (some ⟨w'.heap.size, 0, none⟩) 0 0, .bool false])) (w'.alloc (.cells #[] 2)) :=
 ⟨_, 0, 0, by rw [h]; rfl, by rw [h]; exact own_empty w' w.heap.size hb.size, hb.alloc hb.size _⟩
set_option maxHeartbeats 2000000 in
theorem l7Right (a v : Value) (d : Dat sSystem) (T : Option Addr) (m c : Nat) (t : List Int) (w : World) (h : Rd w w.heap.size sSystem [a, v] d) (hz : sz sSystem d ≤ 1048576) (ht : Seg w w.heap.size T m t) (hm : m ≤ 1048576) :
  Calls Try.prog 61 #[.agg #[a, v], .slice T m c] w (AnsB w (rightB d.1 d.2 t)) := by
 obtain ⟨A, n, cs, V, q, cv, rfl, rfl, hs, hc, hcv, hq, hn, hq1, hrs, hsg, hE⟩ := rd_sys h hz
 obtain ⟨W, hW, rA, bel⟩ := box1 w 34 #[.slice A n cs, .slice V q cv]
 have HW := hid hW
 have L1 := hid (specSystemOk _ _ d W (h.next bel) hz)
 have L2 := hid (fun (w1 : World) (bb : Below w.heap.size w w1) => specTermOk A T n cs m c d.1 t w1 (hs.next bb) (ht.next bb) hn hm)
 clear hW h hz hs hc hcv hq hrs hsg hE ht
 cases ok1 : sysOkB d.1 d.2 with
 | false =>
  have HS := hid ok1
  clear ok1
  go_enter Try.func61, Try.ntmps61
  go_wp2_with fail
  rw [← HW.out]
  refine L1.out.mono ?_
  rintro e w1 ⟨he, bb⟩
  rw [HS.out] at he
  subst he
  have F := hid (ansB (b := rightB d.1 d.2 t) (a := false) (by rw [right_sys HS.out]) (next_trans bel bb))
  clear bb bel rA
  go_wp2
  go_ret
  exact F.out
 | true =>
  obtain ⟨bt, hbt⟩ : ∃ b, termOkB d.1 t = b := ⟨_, rfl⟩
  have HS := hid (show rightB d.1 d.2 t = bt by unfold rightB; rw [ok1, hbt]; rfl)
  have HB := hid hbt
  have H1 := hid ok1
  clear ok1 hbt
  go_enter Try.func61, Try.ntmps61
  go_wp2_with fail
  rw [← HW.out]
  refine L1.out.mono ?_
  rintro e w1 ⟨he, bb⟩
  rw [H1.out] at he
  subst he
  replace rA := rA.next bb
  replace bel := next_trans bel bb
  have cA : w1.cell? ⟨w.heap.size, 0, none⟩ = some (.slice A n cs) := rA.cell 0
  clear bb L1
  go_wp2_with fail
  refine (L2.out _ bel).mono ?_
  rintro e w2 ⟨he, bb⟩
  rw [HB.out] at he
  subst he
  have F := hid (ansB (b := rightB d.1 d.2 t) (a := bt) (by rw [HS.out]) (next_trans bel bb))
  clear bb bel rA cA
  cases bt <;> (go_wp2; go_ret; exact F.out)
-- REST
def SubIn (W : World) (A : Option Addr) (n cs : Nat) (T : Option Addr) (m c : Nat) (x : Int) (ys : List Int) : Prop := ∀ X, Below W.heap.size W X → Calls Try.prog 65 #[.agg #[.slice A n cs], .slice T m c, .int .i64 x] X fun e w' => ∃ D dn dc, e = .returned (.slice D dn dc) ∧ Own w' W.heap.size (.slice D dn dc) ys ∧ Below W.heap.size W w' ∧ Below X.heap.size X w'
def MatchIn (W : World) (A : Option Addr) (n cs : Nat) (P : Option Addr) (pn pc : Nat) (ys : List Int) (R : Option (List (List Int))) : Prop := ∀ X D dn dc, Below W.heap.size W X → Own X W.heap.size (.slice D dn dc) ys → Calls Try.prog 66 #[.agg #[.slice A n cs], .slice P pn pc, .slice D dn dc] X fun e w' => ∃ G gn gc, e = .returned (.tuple #[.agg #[.slice G gn gc], .bool R.isSome]) ∧ Owns w' X.heap.size w'.heap.size G gn gc (resL R) ∧ Below W.heap.size W w' ∧ Below X.heap.size X w'
theorem subIn {W : World} {A : Option Addr} {n cs : Nat} {T : Option Addr} {m c : Nat} {sg t : List Int} {a : Nat} (h : Seg W W.heap.size A n sg) (h' : Seg W W.heap.size T m t) (hn : n ≤ 1048576) (hm : m ≤ 1048576) (hc : m ≤ c) (hc2 : c ≤ 9223372036854775807) (ht : termOkB sg t = true) (ha : a < t.length) : SubIn W A n cs T m c (a : Int) (subL sg t a) := fun X hX => by
 obtain ⟨t1, t2, t3⟩ := term_at ht ha
 have hl := h'.1
 refine (l1Sub A T n cs m c sg t a (len1 sg t a) X (h.next hX) (h'.next hX) hn hm hc hc2 (sig_arities (termOk_parts ht).1).1 (by omega) t1 t2 (by omega)).mono ?_
 rintro e w3 ⟨D, dn, dc, rfl, od, b3⟩
 exact ⟨D, dn, dc, rfl, Own.lower od hX.size, next_trans hX b3, b3⟩
theorem matchIn {W : World} {A : Option Addr} {n cs : Nat} {P : Option Addr} {pn pc : Nat} {sg p ys : List Int} (h : Seg W W.heap.size A n sg) (h' : Seg W W.heap.size P pn p) (hn : n ≤ 1048576) (hp : termOkB sg p = true) (ht : termOkB sg ys = true) : MatchIn W A n cs P pn pc ys (mst sg ys p 0 s0) := fun X D dn dc hX ho => by
 have hpn : pn ≤ 60 := by have := (term_len hp).2; have := h'.1; omega
 have hdn : dn ≤ 60 := by have := (term_len ht).2; have := Own.len ho; omega
 have hcd := look.own_cap ho
 refine (l4Match A P D n cs pn pc dn dc sg p ys X (h.next hX) (h'.next hX) (Own.seg ho) hn hpn hdn hcd.1 hcd.2.1 hp ht).mono ?_
 rintro e w4 ⟨G, gn, gc, rfl, og, b4⟩
 exact ⟨G, gn, gc, rfl, og, next_trans hX b4, b4⟩
theorem step_none {sg : List Int} {x : Rl} {t : List Int} {a : Nat} (h : mst sg (subL sg t a) x.1 0 s0 = none) : stepO sg x t a = none := by unfold stepO; rw [h]
theorem fill_res {s : List (List Int)} (hl : s.length = 24) (p : List Int) : fillL (givesL (resL (some s))) p = fillL (givesL s) p := fill_ext fun _ _ _ => matchFacts.res_gives hl _
theorem step_long {sg : List Int} {x : Rl} {t : List Int} {a : Nat} {s : List (List Int)} (h : mst sg (subL sg t a) x.1 0 s0 = some s) (hl : s.length = 24) (hf : filled.fitsB (resL (some s)) x.2 = false) : stepO sg x t a = none := by
 unfold filled.fitsB at hf
 rw [fill_res hl] at hf
 have := of_decide_eq_false hf
 unfold stepO
 rw [h]
 dsimp only
 rw [if_neg (fun hh => this hh.1)]
theorem step_fits {sg : List Int} {x : Rl} {t : List Int} {a : Nat} {s : List (List Int)} (h : mst sg (subL sg t a) x.1 0 s0 = some s) (hl : s.length = 24) (hf : filled.fitsB (resL (some s)) x.2 = true) : (stepO sg x t a).getD [] = put.fitL sg t (filled.fitL (resL (some s)) x.2) a ∧ (stepO sg x t a).isSome = put.fitB sg t (filled.fitL (resL (some s)) x.2) a := by
 have e0 : filled.fitL (resL (some s)) x.2 = fillL (givesL s) x.2 := by unfold filled.fitL; rw [if_pos hf, fill_res hl]
 unfold filled.fitsB at hf
 rw [fill_res hl] at hf
 have hf := of_decide_eq_true hf
 rw [e0]
 unfold stepO
 rw [h]
 dsimp only
 unfold put.fitL put.fitB
 have e1 : put.putI sg t (fillL (givesL s) x.2) a = putAt sg t (fillL (givesL s) x.2) a := rfl
 rw [e1]
 by_cases hh : (putAt sg t (fillL (givesL s) x.2) a).length ≤ 60
 ·rw [if_pos ⟨hf, hh⟩, if_pos (decide_eq_true hh), decide_eq_true hh]; exact ⟨rfl, rfl⟩
 ·rw [if_neg (fun h => hh h.2), if_neg (by rw [decide_eq_false hh]; simp), decide_eq_false hh]; exact ⟨rfl, rfl⟩
theorem sz_lt (w : World) (o : Obj) : w.heap.size < (w.alloc o).heap.size := by simp
def StepBox (W : World) (bo : Bool) (xss : List (List Int)) (s11 s12 : Value) (wx : World) : Prop := ∃ g G gn gc, s11 = .pointer (some ⟨g, 0, none⟩) ∧ s12 = .bool bo ∧ Row wx g 106 #[.slice G gn gc] ∧ Segs wx wx.heap.size G gn xss ∧ Below W.heap.size W wx
theorem sbox_a {W w : World} {bo : Bool} {xss : List (List Int)} {lo : Nat} {G : Option Addr} {gn gc : Nat} (h : Owns w lo w.heap.size G gn gc xss) (hb : Below W.heap.size W w) : StepBox W bo xss (.pointer (some ⟨w.heap.size, 0, none⟩)) (.bool bo) (w.alloc (.cells #[.slice G gn gc] 106)) :=
 ⟨_, _, _, _, rfl, rfl, Row.new _ _ _, (h.segs.alloc (Nat.le_refl _) _).more (by simp), hb.alloc hb.size _⟩
theorem sbox_b {W w : World} {bo : Bool} {xss : List (List Int)} {lo g : Nat} {G : Option Addr} {gn gc : Nat} (h : Owns w lo w.heap.size G gn gc xss) (hr : Row w g 106 #[.slice none 0 0]) (hg : g < lo) (hW : W.heap.size ≤ g) (hb : Below W.heap.size W w) : StepBox W bo xss (.pointer (some ⟨g, 0, none⟩)) (.bool bo) (w.setCell ⟨g, 0, none⟩ (.slice G gn gc)) := by
 have h2 : Owns (w.setCell ⟨g, 0, none⟩ (.slice G gn gc)) lo w.heap.size G gn gc xss := h.btw (lo' := g) (hi' := g + 1) ⟨rfl, rfl, rfl, by simp, fun k hk ho => Below.heap_setCell w _ _ k (by show k ≠ g; omega)⟩ (.inr (by omega))
 exact ⟨_, _, _, _, rfl, rfl, hr.put 0 _, h2.segs, hb.setCell hW _⟩
set_option maxHeartbeats 4000000 in
theorem l7Step (a v u : Value) (d : Dat sSystem) (t : List Int) (x k : Nat) (w : World) (h : Rd w w.heap.size sSystem [a, v] d) (ht : Rd w w.heap.size sI [u] t) (hz : sz sSystem d ≤ 1048576) (hok : rightB d.1 d.2 t = true) (hx : x < t.length) (hk : k < d.2.length) :
  Calls Try.prog 74 #[.agg #[a, v], u, .int .i64 (x : Int), .int .i64 (k : Int)] w (AnsStep w (stepO d.1 (d.2.getD k ([], [])) t x)) := by
 obtain ⟨T, m, c, rfl, hT, hcT⟩ := rd_ints.1 ht
 obtain ⟨oks, okt⟩ := right_parts hok
 have hm : m ≤ 60 := by have := (term_len okt).2; have := hT.1; omega
 obtain ⟨A, n, cs, V, q, cv, rfl, rfl, hs, hc, hcv, hq, hn, hq1, hrs, hsg, hE⟩ := rd_sys h hz
 rw [hq] at hk
 obtain ⟨b, off, l, rr, y, rfl, hb, ey, cl, cr, hry⟩ := rd_at hrs (Below.refl _ _) hq hk
 have hzy : sz sRule y ≤ 1048576 := by rw [← ey.out]; exact hE k hk
 have okr : ruleOkB d.1 y = true := by rw [← ey.out]; exact sys_rule oks (by rw [hq]; exact hk)
 obtain ⟨P, pn, pc, P', pn', pc', rfl, rfl, sP, kP, sP', kP', hpn, hpn'⟩ := rd_rule hry hzy
 rw [ey.out]
 obtain ⟨W, hW, rA, rR, bel⟩ := box2 w 34 109 #[.slice A n cs, .slice (some ⟨b, off, none⟩) q cv] #[.slice P pn pc, .slice P' pn' pc']
 have HW := hid hW
 have zA : w.heap.size < W.heap.size := rA.lt
 have zR : w.heap.size + 1 < W.heap.size := rR.lt
 have LS := hid (subIn (cs := cs) (c := c) (hs.next bel) (hT.next bel) hn (by omega) hcT.1 hcT.2.1 okt hx)
 have LM := hid (matchIn (cs := cs) (pc := pc) (hs.next bel) (sP.next bel) hn (rule_parts okr).1 (sub_ok okt hx))
 obtain ⟨R, hR⟩ : ∃ R, mst d.1 (subL d.1 t x) y.1 0 s0 = R := ⟨_, rfl⟩
 rw [hR] at LM
 have HRE := hid hR
 obtain ⟨bo, hbo⟩ : ∃ bo, R.isSome = bo := ⟨_, rfl⟩
 have HR := hid hbo
 have HOK := hid (show ruleOkB d.1 y = true ∧ termOkB d.1 t = true ∧ x < t.length from ⟨okr, okt, hx⟩)
 have SS := hid (show Seg w w.heap.size A n d.1 ∧ Seg w w.heap.size T m t ∧ Seg w w.heap.size P' pn' y.2 ∧ m ≤ c ∧ c ≤ 9223372036854775807 from ⟨hs, hT, sP', hcT.1, hcT.2.1⟩)
 have c0 : (w.alloc (.cells #[.slice A n cs, .slice (some ⟨b, off, none⟩) q cv] 34)).cell? ⟨b, off + k * 2, none⟩ = some (.slice P pn pc) := (((Below.refl w.heap.size w).alloc (Nat.le_refl _) _).cell (p := ⟨b, off + k * 2, none⟩) hb).trans cl
 have c1 : (w.alloc (.cells #[.slice A n cs, .slice (some ⟨b, off, none⟩) q cv] 34)).cell? ⟨b, off + k * 2 + 1, none⟩ = some (.slice P' pn' pc') := (((Below.refl w.heap.size w).alloc (Nat.le_refl _) _).cell (p := ⟨b, off + k * 2 + 1, none⟩) hb).trans cr
 have i0 : (0 : Int) ≤ (k : Int) := by omega
 have i1 : (k : Int) < (q : Int) := by omega
 have K0 : W.cell? ⟨w.heap.size, 0, none⟩ = some (.slice A n cs) := rA.cell 0
 have K1 : W.cell? ⟨w.heap.size + 1, 0, none⟩ = some (.slice P pn pc) := rR.cell 0
 have hneA : ¬ w.heap.size = W.heap.size := by omega
 have hnfA : ¬ W.heap.size = w.heap.size := by omega
 have hneR : ¬ w.heap.size + 1 = W.heap.size := by omega
 have hnfR : ¬ W.heap.size = w.heap.size + 1 := by omega
 have BEL := hid bel
 have RA := hid rA
 have RR := hid rR
 have B0 := Below.refl W.heap.size W
 clear hW h hs hc hcv hq hrs hsg hE ht hT hcT oks okt okr sP kP sP' kP' hry hzy hR hbo hx hok hz ey bel rA rR cl cr
 go_enter Try.func74, Try.ntmps74
 go_upto_region 2 with fail
 rw [← HW.out]
 clear c0 c1 i0 i1
 go_cut [11, 12] (fun s11 s12 wx => StepBox W bo (resL R) s11 s12 wx)
 case first =>
  go_region_held3 (fun w' => w'.cell? ⟨w.heap.size, 0, none⟩ = some (.slice A n cs) ∧ w'.cell? ⟨w.heap.size + 1, 0, none⟩ = some (.slice P pn pc))
   (go_keep)
   (first
    | (go_at_call 65; refine (LS.out _ ?_).mono ?_; (first | exact B0 | exact B0.drew | exact (B0.alloc B0.size _) | exact (B0.alloc B0.size _).drew | exact (B0.drew.alloc B0.drew.size _)); rintro e w3 ⟨D, dn, dc, rfl, od, B3, b3⟩; have z3 := B3.size; (first | have r8 := Row.next (Row.drew (Row.new W 106 #[.slice none 0 0])) b3 | have r8 := Row.next (Row.new W.drew 106 #[.slice none 0 0]) b3 | skip); have ne30 : ¬ w.heap.size = w3.heap.size := Nat.ne_of_lt (Nat.lt_of_lt_of_le zA B3.size); have nf30 : ¬ w3.heap.size = w.heap.size := Nat.ne_of_gt (Nat.lt_of_lt_of_le zA B3.size); have ne31 : ¬ (w.heap.size + 1) = w3.heap.size := Nat.ne_of_lt (Nat.lt_of_lt_of_le zR B3.size); have nf31 : ¬ w3.heap.size = (w.heap.size + 1) := Nat.ne_of_gt (Nat.lt_of_lt_of_le zR B3.size); have k0_3 : w3.cell? ⟨w.heap.size, 0, none⟩ = some (.slice A n cs) := (B3.cell (p := ⟨w.heap.size, 0, none⟩) zA).trans K0; have k1_3 : w3.cell? ⟨w.heap.size + 1, 0, none⟩ = some (.slice P pn pc) := (B3.cell (p := ⟨w.heap.size + 1, 0, none⟩) zR).trans K1)
    | (go_at_call 66; refine (LM.out _ _ _ _ ?_ ?_).mono ?_; (first | exact B3 | exact B3.alloc B3.size _); (first | exact od | exact Own.alloc od _); rintro e w4 ⟨G, gn, gc, rfl, og, B4, b4⟩; rw [HR.out]; have z4 := B4.size; (first | have r9 := Row.next r8 b4 | have r9 := Row.next (Row.new w3 106 #[.slice none 0 0]) b4 | skip); (first | (have c9 : _ = some (Value.slice none 0 0) := r9.cell 0; have f9 := r9.free 0) | skip); have ne40 : ¬ w.heap.size = w4.heap.size := Nat.ne_of_lt (Nat.lt_of_lt_of_le zA B4.size); have nf40 : ¬ w4.heap.size = w.heap.size := Nat.ne_of_gt (Nat.lt_of_lt_of_le zA B4.size); have ne41 : ¬ (w.heap.size + 1) = w4.heap.size := Nat.ne_of_lt (Nat.lt_of_lt_of_le zR B4.size); have nf41 : ¬ w4.heap.size = (w.heap.size + 1) := Nat.ne_of_gt (Nat.lt_of_lt_of_le zR B4.size); have k0_4 : w4.cell? ⟨w.heap.size, 0, none⟩ = some (.slice A n cs) := (B4.cell (p := ⟨w.heap.size, 0, none⟩) zA).trans K0; have k1_4 : w4.cell? ⟨w.heap.size + 1, 0, none⟩ = some (.slice P pn pc) := (B4.cell (p := ⟨w.heap.size + 1, 0, none⟩) zR).trans K1))
  all_goals
   go_wp2_with fail
   go_meet
   first | (with_reducible exact sbox_a og B4) | (with_reducible exact sbox_b og r9 (sz_lt _ _) z3 B4) | (with_reducible exact sbox_b og r9 r8.lt (Nat.le_refl _) B4)
 case rest =>
  rename World => wc
  obtain ⟨g, G, gn, gc, rfl, rfl, rS, sg, bx⟩ := hcut
  have bel := BEL.out.trans (bx.mono BEL.out.size)
  replace rA := RA.out.next bx
  replace rR := RR.out.next bx
  clear K0 K1 B0 hneA hnfA hneR hnfR
  cases R with
  | none =>
   obtain rfl : bo = false := HR.out.symm
   have F := hid (ansStep_no (o := stepO d.1 y t x) (step_none HRE.out) bel)
   clear bx bel rA rR rS sg
   go_wp2
   go_ret2
   exact F.out
  | some s =>
   obtain rfl : bo = true := HR.out.symm
   have hmo : matchO d.1 y.1 (subL d.1 t x) = some s := by rw [match_yes (rule_parts HOK.out.1).1 (sub_ok HOK.out.2.1 HOK.out.2.2)]; exact HRE.out
   have hl24 := (match_turns hmo).1
   have hmt := matchFacts.match_terms hmo
   have HGV := hid (fun i => (show (givesL (resL (some s)) i).length ≤ 60 by
    rw [matchFacts.res_gives hl24]
    unfold givesL
    split
    ·simp [vt]
    ·rcases hmt.2.2.2 i with e | e
     ·omega
     ·exact (term_len e).2))
   have HTT := hid (show tot (resL (some s)) ≤ 1048576 by rw [← hmo]; exact matchTot.match_tot)
   have HL24 := hid hl24
   have hv := (rule_parts HOK.out.1).2.1
   have hpn60 : pn' ≤ 60 := by have := (term_len hv).2; have := SS.out.2.2.1.1; omega
   have LF := hid (filled.l2Filled G P' gn gc pn' pc' (resL (some s)) y.2 wc sg (SS.out.2.2.1.next bel) HTT.out hpn60 (fun z hz => (term_mem hv hz).1) HGV.out)
   obtain ⟨bf, hbf⟩ : ∃ bf, filled.fitsB (resL (some s)) y.2 = bf := ⟨_, rfl⟩
   have HBF := hid hbf
   have k0 : wc.cell? ⟨g, 0, none⟩ = some (.slice G gn gc) := rS.cell 0
   have k1 : wc.cell? ⟨w.heap.size + 1, 1, none⟩ = some (.slice P' pn' pc') := rR.cell 1
   clear hmo hl24 hmt hv hbf bx sg LS LM
   go_wp2_with fail
   refine LF.out.mono ?_
   rintro e w5 ⟨O, on, oc, rfl, oO, bb⟩
   rw [HBF.out]
   replace rA := rA.next bb
   replace bel := next_trans bel bb
   clear k0 k1 LF rS rR bb
   cases bf with
   | false =>
    have F := hid (ansStep_no (o := stepO d.1 y t x) (step_long HRE.out HL24.out HBF.out) bel)
    clear bel rA oO
    go_wp2
    go_ret2
    exact F.out
   | true =>
    have E := hid (step_fits HRE.out HL24.out HBF.out)
    have hon : on ≤ 60 := by
     have h1 := Own.len oO
     have h2 : (filled.fitL (resL (some s)) y.2).length ≤ 60 := by
      unfold filled.fitL
      rw [if_pos HBF.out]
      have := HBF.out
      unfold filled.fitsB at this
      exact of_decide_eq_true this
     omega
    have hco := look.own_cap oO
    have LP := hid (put.l3Put A T O n cs m c on oc d.1 t (filled.fitL (resL (some s)) y.2) x w5 (SS.out.1.next bel) (SS.out.2.1.next bel) (Own.seg oO) hco.2.2 hn (by omega) hon SS.out.2.2.2.1 SS.out.2.2.2.2 HOK.out.2.1 HOK.out.2.2)
    have k0 : w5.cell? ⟨w.heap.size, 0, none⟩ = some (.slice A n cs) := rA.cell 0
    clear oO hco rA
    go_wp2_with fail
    refine LP.out.mono ?_
    rintro e w6 ⟨X, xn, xc, rfl, oX, bb⟩
    have F : AnsStep w (stepO d.1 y t x) (.returned (.tuple #[.slice X xn xc, .bool (put.fitB d.1 t (filled.fitL (resL (some s)) y.2) x)])) w6 := ⟨X, xn, xc, by rw [E.out.2], by rw [E.out.1]; exact Own.lower oX bel.size, next_trans bel bb⟩
    have HF := hid F
    clear F oX bb bel k0 LP
    go_wp2
    go_ret2
    exact HF.out
end stepSpec
end
section
open Go.Lib (hid)
namespace stepSpec
open Go.RowKit base ints sig term termOk endAt endOf marks app sym sub segs segsHelp kinds termFacts shifted matchMath matchSpec shape kindsR kindsW ruleMath ruleSpec stepMath walkMath stepsMath ownL
set_option maxRecDepth 100000
theorem owned_step {w : World} {lo : Nat} {A : Option Addr} {n c : Nat} {v : List Int} (h : Own w lo (.slice A n c) v) (a b : Int) : Owned w lo w.heap.size sStep [.int .i64 a, .int .i64 b, .slice A n c] (a, b, v) := by
 obtain ⟨F, h1, h2, h3⟩ := (ow_ints (lo := lo) (hi := w.heap.size)).2 (Ownd.of_own h)
 exact ⟨F, ⟨[.int .i64 a], [.int .i64 b, .slice A n c], [], F, rfl, rfl, ⟨rfl, rfl⟩, ⟨[.int .i64 b], [.slice A n c], [], F, rfl, rfl, ⟨rfl, rfl⟩, h1⟩⟩, h2, h3⟩
def AnsSteps (w : World) (L : List St) (e : Ending) (w' : World) : Prop := ∃ A n c, e = .returned (.slice A n c) ∧ OwnL w' w.heap.size w'.heap.size 92 sStep A n c L ∧ Below w.heap.size w w'
structure Sn (w : World) (A V : Option Addr) (n cs q cv : Nat) (L : List St) (O : Option Addr) (on oc : Nat) (wr : World) : Prop where
 r : Row wr w.heap.size 34 #[.slice A n cs, .slice V q cv]
 o : OwnL wr (w.heap.size + 1) wr.heap.size 92 sStep O on oc L
 b : Below w.heap.size w wr
theorem Sn.below {w wr w' : World} {A V : Option Addr} {n cs q cv : Nat} {L : List St} {O : Option Addr} {on oc : Nat} (h : Sn w A V n cs q cv L O on oc wr) (hb : Below wr.heap.size wr w') : Sn w A V n cs q cv L O on oc w' :=
 ⟨h.r.next hb, (h.o.next hb).wider (Nat.le_refl _) hb.size, next_trans h.b hb⟩
theorem Sn.len {w wr : World} {A V : Option Addr} {n cs q cv : Nat} {L : List St} {O : Option Addr} {on oc : Nat} (h : Sn w A V n cs q cv L O on oc wr) : L.length = on := h.o.1
set_option maxHeartbeats 4000000 in
theorem l7Steps (a v u : Value) (d : Dat sSystem) (t : List Int) (w : World) (h : Rd w w.heap.size sSystem [a, v] d) (ht : Rd w w.heap.size sI [u] t) (hz : sz sSystem d ≤ 1048576) (hok : rightB d.1 d.2 t = true) :
  Calls Try.prog 77 #[.agg #[a, v], u] w (AnsSteps w (stepsL d.1 d.2 t)) := by
 have htv := ht
 obtain ⟨T, m, c, rfl, hT, hcT⟩ := rd_ints.1 ht
 have h0 := h
 obtain ⟨A, n, cs, V, q, cv, rfl, rfl, hs, hc, hcv, hq, hn, hq1, hrs, hsg, hE⟩ := rd_sys h hz
 have HQ := hid hq
 have HTL := hid hT.1
 have LST := hid (fun (w1 : World) (bb : Below w.heap.size w w1) (x k : Nat) hx hk => l7Step _ _ _ d t x k w1 (h0.next bb) (htv.next bb) hz hok hx hk)
 have hm : m ≤ 60 := by have := (term_len (right_parts hok).2).2; have := hT.1; omega
 have hq12 : q ≤ 12 := by have := (sys_parts (right_parts hok).1).2.1; omega
 have HLEN := hid (fun i k (hi : i ≤ m) (hk : k ≤ q) => (show (stN d.1 d.2 t i k).length ≤ 1000 by
  have h1 := st_len (sg := d.1) (rs := d.2) (t := t) (i := i) (k := k)
  have h2 : i * d.2.length ≤ 60 * 12 := Nat.mul_le_mul (by omega) (by rw [hq]; omega)
  omega))
 have S0 : Sn w A V n cs q cv (stN d.1 d.2 t 0 0) (some ⟨w.heap.size + 1, 0, none⟩) 0 0 ((w.alloc (.cells #[.slice A n cs, .slice V q cv] 34)).alloc (.cells #[] 92)) :=
  ⟨(Row.new _ _ _).alloc _, by have := OwnL.empty (w.alloc (.cells #[.slice A n cs, .slice V q cv] 34)) (lo := w.heap.size + 1) (hi := w.heap.size + 1 + 1) 92 sStep (by simp) (by simp); simpa [st_zero] using this, ((Below.refl _ _).alloc (Nat.le_refl _) _).alloc (by simp) _⟩
 have HS0 := hid S0
 clear S0 h h0 ht htv hz hok hs hc hcv hq hrs hsg hE hT hcT
 go_enter Try.func77, Try.ntmps77
 go_wp2_with fail
 go_loopg [5, 6] m (fun G out at_ wr => ∃ (i on oc : Nat) (O : Option Addr), at_ = .int .i64 i ∧ i + G = m ∧ out = .slice O on oc ∧ Sn w A V n cs q cv (stN d.1 d.2 t i 0) O on oc wr)
 case atStart => exact ⟨0, 0, 0, _, rfl, by omega, rfl, HS0.out⟩
 case round =>
  clear HS0
  obtain ⟨i, on, oc, O, rfl, hiG, rfl, S⟩ := hrel
  obtain ⟨G, hG⟩ : ∃ G, G = gk := ⟨_, rfl⟩
  subst hG
  by_cases him : i < m
  ·have HI := hid hiG
   have HS := hid S
   clear hiG S
   go_wp2_with fail
   go_loopg [5, 7] q (fun g out r wr => ∃ (k on oc : Nat) (O : Option Addr), r = .int .i64 k ∧ k + g = q ∧ out = .slice O on oc ∧ Sn w A V n cs q cv (stN d.1 d.2 t i k) O on oc wr)
   case atStart => exact ⟨0, _, _, _, rfl, by omega, rfl, HS.out⟩
   case round =>
    clear HS
    obtain ⟨k, on, oc, O, rfl, hkg, rfl, S⟩ := hrel
    have K0 : wr.cell? ⟨w.heap.size, 0, none⟩ = some (.slice A n cs) := S.r.cell 0
    have K1 : wr.cell? ⟨w.heap.size, 1, none⟩ = some (.slice V q cv) := S.r.cell 1
    by_cases hkq : k < q
    ·have LS := hid (LST.out wr S.b i k (by rw [HTL.out]; exact him) (by rw [HQ.out]; exact hkq))
     obtain ⟨o, ho⟩ : ∃ o, stepO d.1 (d.2.getD k ([], [])) t i = o := ⟨_, rfl⟩
     rw [ho] at LS
     have HO := hid ho
     have HK := hid hkg
     have hon : on ≤ 1000 := by rw [← S.len]; exact HLEN.out i k (by omega) (by omega)
     clear ho hkg
     cases o with
     | none =>
      go_wp2_with fail
      refine LS.out.mono ?_
      rintro e w2 ⟨X, xn, xc, he, oX, bb⟩
      have he : e = .returned (.tuple #[.slice X xn xc, .bool false]) := he
      subst he
      have F := hid (show Sn w A V n cs q cv (stN d.1 d.2 t i (k + 1)) O on oc w2 by rw [st_none HO.out]; exact S.below bb)
      clear S oX bb LS K0 K1
      go_wp2
      go_roundg (gk - 1)
      case measure => have := HK.out; omega
      case rel => exact ⟨k + 1, on, oc, O, by simp, by have := HK.out; omega, rfl, F.out⟩
     | some x =>
      go_wp2_with fail
      refine LS.out.mono ?_
      rintro e w2 ⟨X, xn, xc, he, oX, bb⟩
      have he : e = .returned (.tuple #[.slice X xn xc, .bool true]) := he
      subst he
      have S2 := S.below bb
      have hX : Own w2 wr.heap.size (.slice X xn xc) x := oX
      have b3 : Below w2.heap.size w2 (w2.alloc (.cells #[.int .i64 (i : Int), .int .i64 (k : Int), .slice X xn xc] 92)) := (Below.refl _ _).alloc (Nat.le_refl _) _
      have oS := OwnL.single (e := 92) (s := sStep) (Row.new w2 92 #[.int .i64 (i : Int), .int .i64 (k : Int), .slice X xn xc]) ((owned_step hX (i : Int) (k : Int)).next b3) (Nat.le_refl _) bb.size
      have oL := (S.o.next bb).next b3
      have z1 : w.heap.size + 1 ≤ wr.heap.size := S.r.lt
      have z2 := bb.size
      have HAPP := hid (show OwnL (w2.alloc (.cells #[.int .i64 (i : Int), .int .i64 (k : Int), .slice X xn xc] 92)) (w.heap.size + 1) wr.heap.size 92 sStep O on oc (stN d.1 d.2 t i k) ∧ OwnL (w2.alloc (.cells #[.int .i64 (i : Int), .int .i64 (k : Int), .slice X xn xc] 92)) wr.heap.size (w2.heap.size + 1) 92 sStep (some ⟨w2.heap.size, 0, none⟩) 1 1 [((i : Int), (k : Int), x)] from ⟨oL, oS⟩)
      have HR2 := hid (S2.below b3)
      clear S S2 oX hX bb oS oL b3 LS K0 K1
      go_wp2_with (at_builtin; refine appLm rfl _ _ 48 92 sStep _ _ Try.underlying48 info_StepS rfl (by decide) rfl (w.heap.size + 1) wr.heap.size wr.heap.size (w2.heap.size + 1) O on oc w2.heap.size 1 1 _ _ rfl HAPP.out.1 rfl HAPP.out.2 (Nat.le_refl _) z1 (by omega) (by omega) (by simp; omega) ?_; intro O' oc' w4 oL4 hg4 hat4 b4 hf4)
      have F := hid (show Sn w A V n cs q cv (stN d.1 d.2 t i (k + 1)) O' (on + 1) oc' w4 from ⟨HR2.out.r.below b4 (by omega), by rw [st_some HO.out]; exact oL4, HR2.out.b.trans (b4.mono (by omega))⟩)
      clear oL4 hg4 hat4 b4 hf4 HAPP HR2
      go_wp2
      go_roundg (gk - 1)
      case measure => have := HK.out; omega
      case rel => exact ⟨k + 1, on + 1, oc', O', by simp, by have := HK.out; omega, rfl, F.out⟩
    ·have e1 : k = q := by omega
     subst e1
     have S2 : Sn w A V n cs k cv (stN d.1 d.2 t (i + 1) 0) O on oc wr := by rw [← st_row, HQ.out]; exact S
     have F := hid S2
     clear S S2
     go_wp2
     go_roundg (G - 1)
     case measure => have := HI.out; omega
     case rel => exact ⟨i + 1, on, oc, O, by simp, by have := HI.out; omega, rfl, F.out⟩
  ·have e1 : i = m := by omega
   subst e1
   have F : AnsSteps w (stepsL d.1 d.2 t) (.returned (.slice O on oc)) wr := ⟨O, on, oc, rfl, by rw [← st_all, HTL.out]; exact S.o.wider (by omega) (Nat.le_refl _), S.b⟩
   have HF := hid F
   clear F S
   go_wp2
   go_ret
   exact HF.out
end stepSpec
end
section
open Go.Lib (hid)
namespace findSpec
open Go.RowKit base ints sig term termOk marks app sub varsOf appAt sym segs segsHelp kinds same shifted shape kindsR kindsW ruleMath ruleSpec stepMath stepSpec ownL drawX walkMath reachMath findW
set_option maxRecDepth 100000
theorem rd_term {w wr : World} {B : Nat} {A : Option Addr} {n c : Nat} {D : List (List Int)} {k : Nat} (h : Rd w B sTs [.slice A n c] D) (hb : Below B w wr) (hk : k < n) : ∃ b off T m tc, A = some ⟨b, off, none⟩ ∧ b < B ∧ wr.cell? ⟨b, off + k, none⟩ = some (.slice T m tc) ∧ Seg wr B T m (D.getD k []) ∧ Cap T m tc := by
 obtain ⟨A', n', c', e, hc, hl, h1⟩ := h
 injection e with e
 injection e with e1 e2 e3
 subst e1 e2 e3
 obtain ⟨b, off, e2, hb2, h2⟩ := h1 (by omega)
 obtain ⟨es, he, hp, hr⟩ := h2 k hk
 obtain ⟨v, rfl⟩ : ∃ v, es = [v] := List.length_eq_one_iff.1 he
 obtain ⟨T, m, tc, rfl, hT, hcT⟩ := rd_ints.1 hr
 refine ⟨b, off, T, m, tc, e2, hb2, ?_, hT.below hb, hcT⟩
 have := hp 0 (by simp)
 rw [hb.cell (p := ⟨b, off + k, none⟩) hb2]
 simpa [nc] using this
theorem rd_ts {w : World} {B : Nat} {A : Option Addr} {n c : Nat} {D : List (List Int)} (h : Rd w B sTs [.slice A n c] D) : D.length = n := by
 obtain ⟨A', n', c', e, hc, hl, h1⟩ := h
 injection e with e
 injection e with e1 e2 e3
 omega
def plcI (o : Option Nat) : Int := match o with
 | some i => (i : Int)
 | none => -1
def plcO (D : List (List Int)) (u : List Int) : Option Nat := D.findIdx? fun x => decide (x = u)
theorem plc_at {D : List (List Int)} {u : List Int} {i : Nat} (hi : i < D.length) (h : ∀ j, j < i → D.getD j [] ≠ u) (e : D.getD i [] = u) : plcO D u = some i := by
 unfold plcO
 rw [List.findIdx?_eq_some_iff_getElem]
 refine ⟨hi, by simpa [List.getD, hi] using e, fun j hj => ?_⟩
 have := h j hj
 simpa [List.getD, show j < D.length by omega] using this
theorem plc_none {D : List (List Int)} {u : List Int} (h : ∀ j, j < D.length → D.getD j [] ≠ u) : plcO D u = none := by
 unfold plcO
 rw [List.findIdx?_eq_none_iff]
 intro x hx
 obtain ⟨j, hj, rfl⟩ := List.getElem_of_mem hx
 have := h j hj
 simpa [List.getD, hj] using this
theorem plc_mem {D : List (List Int)} {u : List Int} : (plcO D u).isSome = true ↔ u ∈ D := by
 unfold plcO
 rw [List.findIdx?_isSome, List.any_eq_true]
 constructor
 ·rintro ⟨x, hx, e⟩
  rw [← of_decide_eq_true e]; exact hx
 ·intro h
  exact ⟨u, h, by simp⟩
theorem plc_spot {D : List (List Int)} {u : List Int} {i : Nat} (h : plcO D u = some i) : i < D.length ∧ D.getD i [] = u := by
 unfold plcO at h
 rw [List.findIdx?_eq_some_iff_getElem] at h
 obtain ⟨h1, h2, _⟩ := h
 exact ⟨h1, by simpa [List.getD, h1] using h2⟩
theorem plc_ge {D : List (List Int)} {u : List Int} : 0 ≤ plcI (plcO D u) ↔ u ∈ D := by
 rw [← plc_mem]
 cases plcO D u with
 | none => simp [plcI]
 | some i => simp [plcI]
def AnsPlc (w : World) (D : List (List Int)) (u : List Int) (e : Ending) (w' : World) : Prop := e = .returned (.int .i64 (plcI (plcO D u))) ∧ Below w.heap.size w w'
set_option maxHeartbeats 2000000 in
theorem termPlace (A U : Option Addr) (n c m uc : Nat) (D : List (List Int)) (u : List Int) (w : World) (h : Rd w w.heap.size sTs [.slice A n c] D) (hu : Seg w w.heap.size U m u) (hn : n ≤ 1048576) (hm : m ≤ 1048576) (hD : ∀ k, (D.getD k []).length ≤ 1048576) :
  Calls Try.prog 51 #[.slice A n c, .slice U m uc] w (AnsPlc w D u) := by
 have HL := hid (rd_ts h)
 have H := hid h
 have HU := hid hu
 clear h hu
 go_enter Try.func51, Try.ntmps51
 go_wp2_with fail
 go_loopg [5] n (fun g i_ wr => ∃ i : Nat, i_ = .int .i64 i ∧ i + g = n ∧ (∀ j, j < i → D.getD j [] ≠ u) ∧ Below w.heap.size w wr)
 case atStart => exact ⟨0, rfl, by omega, fun j hj => absurd hj (Nat.not_lt_zero _), Below.refl _ _⟩
 case round =>
  obtain ⟨i, rfl, hg, hne, bel⟩ := hrel
  by_cases hi : i < n
  ·obtain ⟨b, off, T, tn, tc, rfl, hb, cT, sT, hcT⟩ := rd_term H.out bel hi
   have htn : tn ≤ 1048576 := by rw [← sT.1]; exact hD i
   have LS := hid (specSame T U tn m tc uc (D.getD i []) u wr (sT.more bel.size) (HU.out.next bel) htn hm)
   have HG := hid hg
   have HN := hid hne
   have BEL := hid bel
   have i0 : (0 : Int) ≤ (i : Int) := by omega
   have i1 : (i : Int) < (n : Int) := by omega
   clear hg hne bel sT hcT
   by_cases he : D.getD i [] = u
   ·have HE := hid he
    clear he
    go_wp2_with fail
    refine LS.out.mono ?_
    rintro e w1 ⟨rfl, dd, rfl⟩
    rw [decide_eq_true HE.out]
    have F := hid (show AnsPlc w D u (.returned (.int .i64 (i : Int))) (wr.drewN dd) from ⟨by rw [plc_at (by rw [HL.out]; exact hi) HN.out HE.out]; rfl, below_drewN BEL.out dd⟩)
    clear LS
    go_wp2
    go_ret
    exact F.out
   ·have HE := hid he
    clear he
    go_wp2_with fail
    refine LS.out.mono ?_
    rintro e w1 ⟨rfl, dd, rfl⟩
    rw [decide_eq_false HE.out]
    have F := hid (show (∀ j, j < i + 1 → D.getD j [] ≠ u) ∧ Below w.heap.size w (wr.drewN dd) from ⟨fun j hj => by
     by_cases e : j = i
     ·rw [e]; exact HE.out
     ·exact HN.out j (by omega), below_drewN BEL.out dd⟩)
    clear LS
    go_wp2
    go_roundg (gk - 1)
    case measure => have := HG.out; omega
    case rel => exact ⟨i + 1, by simp, by have := HG.out; omega, F.out.1, F.out.2⟩
  ·have F := hid (show AnsPlc w D u (.returned (.int .i64 (-1))) wr from ⟨by rw [plc_none fun j hj => hne j (by rw [HL.out] at hj; omega)]; rfl, bel⟩)
   have hi2 : ¬ (i : Int) < (n : Int) := by omega
   clear hne bel
   go_wp2
   go_ret
   exact F.out
theorem steps_in {x : Int} (h : 0 ≤ x ∧ x ≤ 20) : stepsB x = true := decide_eq_true h
theorem steps_out {x : Int} (h : ¬ (0 ≤ x ∧ x ≤ 20)) : stepsB x = false := decide_eq_false h
set_option maxHeartbeats 2000000 in
theorem l9Right (a v : Value) (d : Dat sSystem) (T : Option Addr) (m c : Nat) (t : List Int) (x : Int) (w : World) (h : Rd w w.heap.size sSystem [a, v] d) (hz : sz sSystem d ≤ 1048576) (ht : Seg w w.heap.size T m t) (hm : m ≤ 1048576) :
  Calls Try.prog 49 #[.agg #[a, v], .slice T m c, .int .i64 x] w (AnsB w (right9 d.1 d.2 t x)) := by
 obtain ⟨W, hW, rA, bel⟩ := box1 w 34 #[a, v]
 have HW := hid hW
 have L1 := hid (l7Right a v d T m c t W (h.next bel) hz (ht.next bel) hm)
 clear hW h hz ht
 cases ok : rightB d.1 d.2 t with
 | false =>
  have HR := hid ok
  clear ok
  go_enter Try.func49, Try.ntmps49
  go_wp2_with fail
  rw [← HW.out]
  refine L1.out.mono ?_
  rintro e w1 ⟨he, bb⟩
  rw [HR.out] at he
  subst he
  have F := hid (ansB (b := right9 d.1 d.2 t x) (a := false) (by unfold right9; rw [HR.out]; rfl) (next_trans bel bb))
  clear bb bel rA
  go_wp2
  go_ret
  exact F.out
 | true =>
  have HR := hid ok
  clear ok
  by_cases hx : 0 ≤ x ∧ x ≤ 20
  ·have LI := hid (fun W => inYes x 0 20 W hx)
   have HX := hid (steps_in hx)
   clear hx
   go_enter Try.func49, Try.ntmps49
   go_wp2_with fail
   rw [← HW.out]
   refine L1.out.mono ?_
   rintro e w1 ⟨he, bb⟩
   rw [HR.out] at he
   subst he
   have F := hid (ansB (b := right9 d.1 d.2 t x) (a := true) (by unfold right9; rw [HR.out, HX.out]; rfl) (next_trans bel bb))
   clear bb bel rA
   go_wp2_with fail
   refine (LI.out w1).mono ?_
   rintro e w2 ⟨rfl, rfl⟩
   go_wp2
   go_ret
   exact F.out
  ·have LI := hid (fun W => inNo x 0 20 W hx)
   have HX := hid (steps_out hx)
   clear hx
   go_enter Try.func49, Try.ntmps49
   go_wp2_with fail
   rw [← HW.out]
   refine L1.out.mono ?_
   rintro e w1 ⟨he, bb⟩
   rw [HR.out] at he
   subst he
   have F := hid (ansB (b := right9 d.1 d.2 t x) (a := false) (by unfold right9; rw [HR.out, HX.out]; rfl) (next_trans bel bb))
   clear bb bel rA
   go_wp2_with fail
   refine (LI.out w1).mono ?_
   rintro e w2 ⟨rfl, rfl⟩
   go_wp2
   go_ret
   exact F.out
end findSpec
end
section
namespace findSpec
open Go.RowKit base ints sig term termOk termFacts marks app sub varsOf appAt sym segs segsHelp kinds same shifted shape kindsR kindsW ruleMath ruleSpec stepMath stepSpec ownL drawX walkMath stepsMath reachMath findW heldT
set_option maxRecDepth 100000
theorem keep_alloc {w : World} {a : Addr} {v : Value} {o : Obj} (h : w.cell? a = some v) : (w.alloc o).cell? a = some v := (World.cell?_alloc_some w a o (by rw [h]; rfl)).trans h
def fromD (L : List Fi) : List Int := -1 :: (L.drop 1).map fun f => (f.2.1 : Int)
def byD (L : List Fi) : List St := (0, 0, []) :: (L.drop 1).map fun f => f.1
def deepD (L : List Fi) : List Int := L.map fun f => (f.2.2 : Int)
def fdD (S : Fs) : Dat sFound := (termsF S.1, fromD S.1, byD S.1, deepD S.1, S.2)
section
variable {w : World} {bad : Nat → Prop} {lo g n c k : Nat} {e : TypeId}
theorem drop_snoc {α : Type} {L : List α} {f : α} (h : 1 ≤ L.length) : (L ++ [f]).drop 1 = L.drop 1 ++ [f] := List.drop_append_of_le_length h
theorem fromD_app {L : List Fi} {f : Fi} (h : 1 ≤ L.length) : fromD (L ++ [f]) = fromD L ++ [(f.2.1 : Int)] := by unfold fromD; rw [drop_snoc h, List.map_append]; rfl
theorem byD_app {L : List Fi} {f : Fi} (h : 1 ≤ L.length) : byD (L ++ [f]) = byD L ++ [f.1] := by unfold byD; rw [drop_snoc h, List.map_append]; rfl
theorem deepD_app {L : List Fi} {f : Fi} : deepD (L ++ [f]) = deepD L ++ [(f.2.2 : Int)] := by unfold deepD; rw [List.map_append]; rfl
theorem termsF_app {L : List Fi} {f : Fi} : termsF (L ++ [f]) = termsF L ++ [termF f] := by unfold termsF; rw [List.map_append]; rfl
theorem deep_get {L : List Fi} {f : Fi} (h : L[k]? = some f) : (deepD L).getD k 0 = (f.2.2 : Int) := by unfold deepD; simp [List.getD, h]
theorem term_get {L : List Fi} {f : Fi} (h : L[k]? = some f) : (termsF L).getD k [] = termF f := by unfold termsF; simp [List.getD, h]
theorem XS.num {D : List Int} (h : XS w bad lo e .num g n c D) (hk : k < n) : w.cell? ⟨g, k, none⟩ = some (.int .i64 (D.getD k 0)) := by
 have h1 := h.rd (e0 := 2)
 obtain ⟨A, n', c', e1, hS, -⟩ := rd_ints.1 h1
 injection e1 with a1 a2 a3
 subst a1 a2
 obtain ⟨b, off, e2, -, hc⟩ := Seg.round hS hk
 injection e2 with e2
 injection e2 with q1 q2
 subst q1 q2
 simpa using hc
theorem XS.spot {s : Sh} {D : List (Dat s)} (h : XS w bad lo e s g n c D) (hk : k < n) : ∃ es, es.length = nc s ∧ RdQ w (NotIn w bad) s es (D.getD k (dft s)) ∧ ∀ i, i < nc s → w.cell? ⟨g, k * nc s + i, none⟩ = es[i]? := by
 obtain ⟨h1, vs, ho, h3⟩ := h
 refine ⟨_, (h3 k hk).len, h3 k hk, fun i hi => ?_⟩
 rcases ho.2 with ⟨e1, h0⟩ | ⟨g', cap, cur, e1, hg, hrow, hn, hm, hs, ht⟩
 ·injection e1 with a1 a2 a3
  cases a1
 ·injection e1 with a1 a2 a3
  injection a1 with a1
  injection a1 with a1
  subst a1 a3
  have hjn : k * nc s + nc s ≤ n * nc s := by
   have := Nat.mul_le_mul_right (nc s) (show k + 1 ≤ n by omega)
   rw [Nat.add_mul] at this
   omega
  rw [Row.cell (t := e) (cs := cur) hrow]
  have h5 : cur.toList[k * nc s + i]? = vs[k * nc s + i]? := by
   rw [← ht, List.getElem?_take, if_pos (by omega)]
  rw [← Array.getElem?_toList, h5]
  unfold cellsOf
  rw [List.getElem?_take, if_pos hi, List.getElem?_drop]
theorem rdq_seg0 {Q : Nat → Prop} {T : Option Addr} {m tc B : Nat} {x : List Int} (h : RdQ w Q sI [.slice T m tc] x) (hQ : ∀ b, Q b → b < B) : Seg w B T m x ∧ Cap T m tc := by
 obtain ⟨T', m', tc', e, hS, hc⟩ := rd_ints.1 (h.rd hQ)
 injection e with a1 a2 a3
 subst a1 a2 a3
 exact ⟨hS, hc⟩
theorem XS.term {D : List (List Int)} (h : XS w bad lo e sI g n c D) (hk : k < n) : ∃ T m tc, w.cell? ⟨g, k, none⟩ = some (.slice T m tc) ∧ Seg w w.heap.size T m (D.getD k []) ∧ Cap T m tc := by
 obtain ⟨es, he, hr, hc⟩ := XS.spot h hk
 obtain ⟨v, rfl⟩ : ∃ v, es = [v] := List.length_eq_one_iff.1 he
 have hr2 := notIn_rd hr
 obtain ⟨T, m, tc, rfl, hT, hcT⟩ := rd_ints.1 hr2
 have := hc 0 (by decide)
 exact ⟨T, m, tc, by simpa [nc] using this, hT, hcT⟩
theorem rdq_step {A : Option Addr} {L : List St} (h : RdQ w (NotIn w bad) sStepS [.slice A n c] L) (hk : k < n) : ∃ b off U un uc, A = some ⟨b, off, none⟩ ∧ NotIn w bad b ∧ w.cell? ⟨b, off + k * 3, none⟩ = some (.int .i64 (L.getD k (0, 0, [])).1) ∧ w.cell? ⟨b, off + k * 3 + 1, none⟩ = some (.int .i64 (L.getD k (0, 0, [])).2.1) ∧ w.cell? ⟨b, off + k * 3 + 2, none⟩ = some (.slice U un uc) ∧
  RdQ w (NotIn w bad) sI [.slice U un uc] (L.getD k (0, 0, [])).2.2 ∧ RdQ w (NotIn w bad) sStep [.int .i64 (L.getD k (0, 0, [])).1, .int .i64 (L.getD k (0, 0, [])).2.1, .slice U un uc] (L.getD k (0, 0, [])) := by
 obtain ⟨A', n', c', e, hc, hl, h1⟩ := h
 injection e with e
 injection e with e1 e2 e3
 subst e1 e2 e3
 obtain ⟨b, off, e2, hb, h2⟩ := h1 (by omega)
 obtain ⟨es, he, hp, hr⟩ := h2 k hk
 have hr : RdQ w (NotIn w bad) sStep es (L.getD k (0, 0, [])) := hr
 have hr0 := hr
 obtain ⟨v0, rfl⟩ := cells_Step (notIn_rd hr)
 obtain ⟨ca, cb, e3, h3, h4⟩ := hr
 obtain ⟨cb1, cb2, e4, h5, h6⟩ := h4
 have h3 : ca = [_] := h3
 have h5 : cb1 = [_] := h5
 subst h3 h5
 have e5 : cb2 = [v0] := by
  rw [e4] at e3
  simp at e3
  exact e3.symm
 subst e5
 have h6' := h6
 obtain ⟨U, un, uc, e6, -⟩ := h6'
 injection e6 with e6
 subst e6
 refine ⟨b, off, U, un, uc, e2, hb, ?_, ?_, ?_, h6, hr0⟩
 ·have := hp 0 (by simp); simpa [nc] using this
 ·have := hp 1 (by simp); simpa [nc] using this
 ·have := hp 2 (by simp); simpa [nc] using this
end
structure SF (w : World) (a v : Value) (B g1 n1 c1 g2 n2 c2 g3 n3 c3 g4 n4 c4 : Nat) (D1 : List (List Int)) (D2 : List Int) (D3 : List St) (D4 : List Int) (wr : World) : Prop where
 fo : Fo wr (w.heap.size + 1 + 1) B g1 n1 c1 g2 n2 c2 g3 n3 c3 g4 n4 c4 D1 D2 D3 D4 true
 sys : Row wr w.heap.size 34 #[a, v]
 res : Row wr (w.heap.size + 1) 79 #[.slice none 0 0, .slice none 0 0, .slice none 0 0, .slice none 0 0, .bool false]
 far : w.heap.size + 1 < B
 bel : Below w.heap.size w wr
section
variable {w wr w' : World} {a v : Value} {B g1 n1 c1 g2 n2 c2 g3 n3 c3 g4 n4 c4 g' c' : Nat} {D1 : List (List Int)} {D2 : List Int} {D3 : List St} {D4 : List Int}
theorem SF.below (h : SF w a v B g1 n1 c1 g2 n2 c2 g3 n3 c3 g4 n4 c4 D1 D2 D3 D4 wr) (hb : Below wr.heap.size wr w') : SF w a v B g1 n1 c1 g2 n2 c2 g3 n3 c3 g4 n4 c4 D1 D2 D3 D4 w' := ⟨h.fo.below hb, h.sys.next hb, h.res.next hb, h.far, next_trans h.bel hb⟩
theorem SF.drew (h : SF w a v B g1 n1 c1 g2 n2 c2 g3 n3 c3 g4 n4 c4 D1 D2 D3 D4 wr) : SF w a v B g1 n1 c1 g2 n2 c2 g3 n3 c3 g4 n4 c4 D1 D2 D3 D4 wr.drew := h.below (drew_below wr)
theorem rdq_app {bad bad' : Nat → Prop} {g i : Nat} {u : Value} (hg : wr.grownBy w' (some g)) (hb : bad g) (hm : ∀ b, b < wr.heap.size → bad' b → bad b) (hB : bad' B) {s : Sh} {cs : List Value} {d : Dat s} (hL : RdQ wr (NotIn wr bad) s cs d) : RdQ (w'.setCell ⟨B, i, none⟩ u) (NotIn (w'.setCell ⟨B, i, none⟩ u) bad') s cs d :=
 notIn_kept (notIn_kept hL hg (fun k e => by injection e with e; rw [← e]; exact hb) hm) (grown_set w' B i u) (fun k e => by injection e with e; rw [← e]; exact hB) (fun _ _ q => q)
theorem SF.app1 (h : SF w a v B g1 n1 c1 g2 n2 c2 g3 n3 c3 g4 n4 c4 D1 D2 D3 D4 wr) {x : List Int} (hx : ∀ bad' : Nat → Prop, (∀ b, b < wr.heap.size → bad' b → bad5 (w.heap.size + 1 + 1) B g1 g2 g3 g4 b) → XS w' bad' (w.heap.size + 1 + 1) 22 sI g' (n1 + 1) c' (D1 ++ [x])) (hg : wr.grownBy w' (some g1)) (hat : g' = g1 ∨ g' = wr.heap.size) (hb : Below (w.heap.size + 1 + 1) wr w') :
  SF w a v B g' (n1 + 1) c' g2 n2 c2 g3 n3 c3 g4 n4 c4 (D1 ++ [x]) D2 D3 D4 (w'.setCell ⟨B, 0, none⟩ (.slice (some ⟨g', 0, none⟩) (n1 + 1) c')) ∧ ∀ {s : Sh} {cs : List Value} {d : Dat s}, RdQ wr (NotIn wr (bad5 (w.heap.size + 1 + 1) B g1 g2 g3 g4)) s cs d → RdQ (w'.setCell ⟨B, 0, none⟩ (.slice (some ⟨g', 0, none⟩) (n1 + 1) c')) (NotIn (w'.setCell ⟨B, 0, none⟩ (.slice (some ⟨g', 0, none⟩) (n1 + 1) c')) (bad5 (w.heap.size + 1 + 1) B g' g2 g3 g4)) s cs d := by
 have l0 := h.fo.row.lt
 have l1 := h.fo.x1.ge
 have l2 := h.far
 have l3 := hb.size
 refine ⟨⟨h.fo.app1 hx hg hat, Row.far (h.sys.below hb (by omega)) (by show _ ≠ B; omega) _, Row.far (h.res.below hb (by omega)) (by show _ ≠ B; omega) _, h.far, (h.bel.trans (hb.mono (by omega))).setCell (by show _ ≤ B; omega) _⟩, fun hL => rdq_app hg (by unfold bad5; omega) (fun b hb q => by unfold bad5 at q ⊢; omega) (by unfold bad5; omega) hL⟩
theorem SF.app2 (h : SF w a v B g1 n1 c1 g2 n2 c2 g3 n3 c3 g4 n4 c4 D1 D2 D3 D4 wr) {x : Int} (hx : ∀ bad' : Nat → Prop, (∀ b, b < wr.heap.size → bad' b → bad5 (w.heap.size + 1 + 1) B g1 g2 g3 g4 b) → XS w' bad' (w.heap.size + 1 + 1) 2 .num g' (n2 + 1) c' (D2 ++ [x])) (hg : wr.grownBy w' (some g2)) (hat : g' = g2 ∨ g' = wr.heap.size) (hb : Below (w.heap.size + 1 + 1) wr w') :
  SF w a v B g1 n1 c1 g' (n2 + 1) c' g3 n3 c3 g4 n4 c4 D1 (D2 ++ [x]) D3 D4 (w'.setCell ⟨B, 1, none⟩ (.slice (some ⟨g', 0, none⟩) (n2 + 1) c')) ∧ ∀ {s : Sh} {cs : List Value} {d : Dat s}, RdQ wr (NotIn wr (bad5 (w.heap.size + 1 + 1) B g1 g2 g3 g4)) s cs d → RdQ (w'.setCell ⟨B, 1, none⟩ (.slice (some ⟨g', 0, none⟩) (n2 + 1) c')) (NotIn (w'.setCell ⟨B, 1, none⟩ (.slice (some ⟨g', 0, none⟩) (n2 + 1) c')) (bad5 (w.heap.size + 1 + 1) B g1 g' g3 g4)) s cs d := by
 have l0 := h.fo.row.lt
 have l1 := h.fo.x2.ge
 have l2 := h.far
 have l3 := hb.size
 refine ⟨⟨h.fo.app2 hx hg hat, Row.far (h.sys.below hb (by omega)) (by show _ ≠ B; omega) _, Row.far (h.res.below hb (by omega)) (by show _ ≠ B; omega) _, h.far, (h.bel.trans (hb.mono (by omega))).setCell (by show _ ≤ B; omega) _⟩, fun hL => rdq_app hg (by unfold bad5; omega) (fun b hb q => by unfold bad5 at q ⊢; omega) (by unfold bad5; omega) hL⟩
theorem SF.app3 (h : SF w a v B g1 n1 c1 g2 n2 c2 g3 n3 c3 g4 n4 c4 D1 D2 D3 D4 wr) {x : St} (hx : ∀ bad' : Nat → Prop, (∀ b, b < wr.heap.size → bad' b → bad5 (w.heap.size + 1 + 1) B g1 g2 g3 g4 b) → XS w' bad' (w.heap.size + 1 + 1) 92 sStep g' (n3 + 1) c' (D3 ++ [x])) (hg : wr.grownBy w' (some g3)) (hat : g' = g3 ∨ g' = wr.heap.size) (hb : Below (w.heap.size + 1 + 1) wr w') :
  SF w a v B g1 n1 c1 g2 n2 c2 g' (n3 + 1) c' g4 n4 c4 D1 D2 (D3 ++ [x]) D4 (w'.setCell ⟨B, 2, none⟩ (.slice (some ⟨g', 0, none⟩) (n3 + 1) c')) ∧ ∀ {s : Sh} {cs : List Value} {d : Dat s}, RdQ wr (NotIn wr (bad5 (w.heap.size + 1 + 1) B g1 g2 g3 g4)) s cs d → RdQ (w'.setCell ⟨B, 2, none⟩ (.slice (some ⟨g', 0, none⟩) (n3 + 1) c')) (NotIn (w'.setCell ⟨B, 2, none⟩ (.slice (some ⟨g', 0, none⟩) (n3 + 1) c')) (bad5 (w.heap.size + 1 + 1) B g1 g2 g' g4)) s cs d := by
 have l0 := h.fo.row.lt
 have l1 := h.fo.x3.ge
 have l2 := h.far
 have l3 := hb.size
 refine ⟨⟨h.fo.app3 hx hg hat, Row.far (h.sys.below hb (by omega)) (by show _ ≠ B; omega) _, Row.far (h.res.below hb (by omega)) (by show _ ≠ B; omega) _, h.far, (h.bel.trans (hb.mono (by omega))).setCell (by show _ ≤ B; omega) _⟩, fun hL => rdq_app hg (by unfold bad5; omega) (fun b hb q => by unfold bad5 at q ⊢; omega) (by unfold bad5; omega) hL⟩
theorem SF.app4 (h : SF w a v B g1 n1 c1 g2 n2 c2 g3 n3 c3 g4 n4 c4 D1 D2 D3 D4 wr) {x : Int} (hx : ∀ bad' : Nat → Prop, (∀ b, b < wr.heap.size → bad' b → bad5 (w.heap.size + 1 + 1) B g1 g2 g3 g4 b) → XS w' bad' (w.heap.size + 1 + 1) 2 .num g' (n4 + 1) c' (D4 ++ [x])) (hg : wr.grownBy w' (some g4)) (hat : g' = g4 ∨ g' = wr.heap.size) (hb : Below (w.heap.size + 1 + 1) wr w') :
  SF w a v B g1 n1 c1 g2 n2 c2 g3 n3 c3 g' (n4 + 1) c' D1 D2 D3 (D4 ++ [x]) (w'.setCell ⟨B, 3, none⟩ (.slice (some ⟨g', 0, none⟩) (n4 + 1) c')) ∧ ∀ {s : Sh} {cs : List Value} {d : Dat s}, RdQ wr (NotIn wr (bad5 (w.heap.size + 1 + 1) B g1 g2 g3 g4)) s cs d → RdQ (w'.setCell ⟨B, 3, none⟩ (.slice (some ⟨g', 0, none⟩) (n4 + 1) c')) (NotIn (w'.setCell ⟨B, 3, none⟩ (.slice (some ⟨g', 0, none⟩) (n4 + 1) c')) (bad5 (w.heap.size + 1 + 1) B g1 g2 g3 g')) s cs d := by
 have l0 := h.fo.row.lt
 have l1 := h.fo.x4.ge
 have l2 := h.far
 have l3 := hb.size
 refine ⟨⟨h.fo.app4 hx hg hat, Row.far (h.sys.below hb (by omega)) (by show _ ≠ B; omega) _, Row.far (h.res.below hb (by omega)) (by show _ ≠ B; omega) _, h.far, (h.bel.trans (hb.mono (by omega))).setCell (by show _ ≤ B; omega) _⟩, fun hL => rdq_app hg (by unfold bad5; omega) (fun b hb q => by unfold bad5 at q ⊢; omega) (by unfold bad5; omega) hL⟩
theorem fo_start {w w1 : World} {a v : Value} {t : List Int} {X : Option Addr} {xn xc : Nat} (sys : Row w1 w.heap.size 34 #[a, v]) (res : Row w1 (w.heap.size + 1) 79 #[.slice none 0 0, .slice none 0 0, .slice none 0 0, .slice none 0 0, .bool false]) (hs : w.heap.size + 1 + 1 ≤ w1.heap.size) (bel : Below w.heap.size w w1)
  (oX : Own w1 (w.heap.size + 1 + 1) (.slice X xn xc) t) :
  SF w a v (w1.heap.size + 1 + 1 + 1 + 1) w1.heap.size 1 1 (w1.heap.size + 1) 1 1 (w1.heap.size + 1 + 1) 1 1 (w1.heap.size + 1 + 1 + 1) 1 1 (termsF [startF t]) (fromD [startF t]) (byD [startF t]) (deepD [startF t])
   (((((w1.alloc (.cells #[.slice X xn xc] 22)).alloc (.cells #[.int .i64 (-1)] 2)).alloc (.cells #[.int .i64 0, .int .i64 0, .slice none 0 0] 92)).alloc (.cells #[.int .i64 0] 2)).alloc
    (.cells #[.slice (some ⟨w1.heap.size, 0, none⟩) 1 1, .slice (some ⟨w1.heap.size + 1, 0, none⟩) 1 1, .slice (some ⟨w1.heap.size + 1 + 1, 0, none⟩) 1 1, .slice (some ⟨w1.heap.size + 1 + 1 + 1, 0, none⟩) 1 1, .bool true] 79)) := by
 obtain ⟨V1, e1⟩ : ∃ V, V = w1.alloc (.cells #[.slice X xn xc] 22) := ⟨_, rfl⟩
 obtain ⟨V2, e2⟩ : ∃ V, V = V1.alloc (.cells #[.int .i64 (-1)] 2) := ⟨_, rfl⟩
 obtain ⟨V3, e3⟩ : ∃ V, V = V2.alloc (.cells #[.int .i64 0, .int .i64 0, .slice none 0 0] 92) := ⟨_, rfl⟩
 obtain ⟨V4, e4⟩ : ∃ V, V = V3.alloc (.cells #[.int .i64 0] 2) := ⟨_, rfl⟩
 obtain ⟨V5, e5⟩ : ∃ V, V = V4.alloc (.cells #[.slice (some ⟨w1.heap.size, 0, none⟩) 1 1, .slice (some ⟨w1.heap.size + 1, 0, none⟩) 1 1, .slice (some ⟨w1.heap.size + 1 + 1, 0, none⟩) 1 1, .slice (some ⟨w1.heap.size + 1 + 1 + 1, 0, none⟩) 1 1, .bool true] 79) := ⟨_, rfl⟩
 have s1 : V1.heap.size = w1.heap.size + 1 := by rw [e1]; simp
 have s2 : V2.heap.size = w1.heap.size + 1 + 1 := by rw [e2]; simp [s1]
 have s3 : V3.heap.size = w1.heap.size + 1 + 1 + 1 := by rw [e3]; simp [s2]
 have s4 : V4.heap.size = w1.heap.size + 1 + 1 + 1 + 1 := by rw [e4]; simp [s3]
 have s5 : V5.heap.size = w1.heap.size + 1 + 1 + 1 + 1 + 1 := by rw [e5]; simp [s4]
 have r1 : Row V1 w1.heap.size 22 #[.slice X xn xc] := by rw [e1]; exact Row.new _ _ _
 have r2 : Row V2 (w1.heap.size + 1) 2 #[.int .i64 (-1)] := by have := Row.new V1 2 #[.int .i64 (-1)]; rw [← e2, s1] at this; exact this
 have r3 : Row V3 (w1.heap.size + 1 + 1) 92 #[.int .i64 0, .int .i64 0, .slice none 0 0] := by have := Row.new V2 92 #[.int .i64 0, .int .i64 0, .slice none 0 0]; rw [← e3, s2] at this; exact this
 have r4 : Row V4 (w1.heap.size + 1 + 1 + 1) 2 #[.int .i64 0] := by have := Row.new V3 2 #[.int .i64 0]; rw [← e4, s3] at this; exact this
 have r5 : Row V5 (w1.heap.size + 1 + 1 + 1 + 1) 79 #[.slice (some ⟨w1.heap.size, 0, none⟩) 1 1, .slice (some ⟨w1.heap.size + 1, 0, none⟩) 1 1, .slice (some ⟨w1.heap.size + 1 + 1, 0, none⟩) 1 1, .slice (some ⟨w1.heap.size + 1 + 1 + 1, 0, none⟩) 1 1, .bool true] := by rw [e5, ← s4]; exact Row.new _ _ _
 have b1 : Below w1.heap.size w1 V1 := by rw [e1]; exact (Below.refl _ _).alloc (Nat.le_refl _) _
 have b2 : Below V1.heap.size V1 V2 := by rw [e2]; exact (Below.refl _ _).alloc (Nat.le_refl _) _
 have b3 : Below V2.heap.size V2 V3 := by rw [e3]; exact (Below.refl _ _).alloc (Nat.le_refl _) _
 have b4 : Below V3.heap.size V3 V4 := by rw [e4]; exact (Below.refl _ _).alloc (Nat.le_refl _) _
 have b5 : Below V4.heap.size V4 V5 := by rw [e5]; exact (Below.refl _ _).alloc (Nat.le_refl _) _
 have b15 := next_trans b1 (next_trans b2 (next_trans b3 (next_trans b4 b5)))
 rw [← e1, ← e2, ← e3, ← e4, ← e5]
 have nb : ∀ k, w.heap.size + 1 + 1 ≤ k → k < w1.heap.size → ¬ bad5 (w.heap.size + 1 + 1) (w1.heap.size + 1 + 1 + 1 + 1) w1.heap.size (w1.heap.size + 1) (w1.heap.size + 1 + 1) (w1.heap.size + 1 + 1 + 1) k := fun k hl hk q => by unfold bad5 at q; omega
 have hX : RdQ V5 (NotIn V5 (bad5 (w.heap.size + 1 + 1) (w1.heap.size + 1 + 1 + 1 + 1) w1.heap.size (w1.heap.size + 1) (w1.heap.size + 1 + 1) (w1.heap.size + 1 + 1 + 1))) sI [.slice X xn xc] t :=
  (rdq_own (Q := NotIn w1 (bad5 (w.heap.size + 1 + 1) (w1.heap.size + 1 + 1 + 1 + 1) w1.heap.size (w1.heap.size + 1) (w1.heap.size + 1 + 1) (w1.heap.size + 1 + 1 + 1))) oX (fun b hl hb _ => ⟨hb, nb b hl hb⟩)).keep (fun b q => b15.block b q.1) |>.mono fun b q => ⟨Nat.lt_of_lt_of_le q.1 b15.size, q.2⟩
 refine ⟨⟨r5, XS.single ((r1.next (next_trans b2 (next_trans b3 (next_trans b4 b5))))) hX hs, XS.single (s := .num) ((r2.next (next_trans b3 (next_trans b4 b5)))) rfl (by omega), XS.single (s := sStep) ((r3.next (next_trans b4 b5))) ?_ (by omega), XS.single (s := .num) (r4.next b5) rfl (by omega), by omega⟩, sys.next b15, res.next b15, by omega, next_trans bel b15⟩
 exact ⟨[.int .i64 0], [.int .i64 0, .slice none 0 0], rfl, rfl, [.int .i64 0], [.slice none 0 0], rfl, rfl, none, 0, 0, rfl, ⟨Nat.le_refl _, by omega, fun _ => rfl⟩, rfl, fun h => absurd h (by omega)⟩
end
end findSpec
end
end Go.Proofs.Ytblhmplpcdcejaa
