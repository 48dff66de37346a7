/-
  MERGED: my texts Put, Shifted, Filled, SameSubst, CompMath, PlainFacts, MatchTot, MatchFacts, Shape3, KindsW, StepSpec, StepsMath, Dice, DrawSig, DrawTerm, DrawAny, DrawX, one behind the other, as they are. By an AI agent.
-/
import Derived.Test.YtblhmplpcdcejaaGreatMFnExactWalkBy3
import Derived.Deep.AppendLies
import Derived.Deep.RegionHeld3
import Derived.Deep.DeepCutAuto
import Derived.Deep.RegionLaw
namespace Go.Proofs.YtblhmplpcdcejaaGreat
section
open Go.Lib (hid)
namespace put
open Go.RowKit segsHelp base ints sig term arity endOf cursor termOk endAt inside marks app sym sub segs posMath putMath concat
set_option maxRecDepth 100000
theorem Seg.front {w : World} {B b off m a : Nat} {t : List Int} (h : Seg w B (some ⟨b, off, none⟩) m t) (ha : a ≤ m) : Seg w B (some ⟨b, off, none⟩) a (t.take a) := by
 have := Seg.cut (a := 0) (j := a) h (by omega)
 simpa using this
theorem Seg.back {w : World} {B b off m e : Nat} {t : List Int} (h : Seg w B (some ⟨b, off, none⟩) m t) (he : e ≤ m) : Seg w B (some ⟨b, off + e, none⟩) (m - e) (t.drop e) := by
 have := Seg.cut (a := e) (j := m - e) h (by omega)
 rwa [List.take_of_length_le (by simp [h.1])] at this
theorem Seg.none_any {w : World} {B : Nat} {A : Option Addr} {t : List Int} (h : t = []) : Seg w B A 0 t := ⟨by rw [h]; rfl, fun h => absurd h (Nat.lt_irrefl _)⟩
def putI (sg t u : List Int) (a : Nat) : List Int := putL t a (len1 sg t a) u
def AnsPut (w : World) (ys : List Int) (b : Bool) (e : Ending) (w' : World) : Prop := ∃ A n c, e = .returned (.tuple #[.slice A n c, .bool b]) ∧ Own w' w.heap.size (.slice A n c) ys ∧ Below w.heap.size w w'
def fitB (sg t u : List Int) (a : Nat) : Bool := decide ((putI sg t u a).length ≤ 60)
def fitL (sg t u : List Int) (a : Nat) : List Int := if fitB sg t u a = true then putI sg t u a else []
set_option maxHeartbeats 1000000 in
theorem l3Put (A A' U : Option Addr) (n c m c' un uc : Nat) (sg t u : List Int) (a : Nat) (w : World) (h : Seg w w.heap.size A n sg) (h' : Seg w w.heap.size A' m t) (hu : Seg w w.heap.size U un u) (hcu : U = none → uc = 0) (hn : n ≤ 1048576) (hm : m ≤ 1048576) (hun : un ≤ 60) (hc' : m ≤ c') (hc2 : c' ≤ 9223372036854775807)
  (hok : termOkB sg t = true) (hat : a < t.length) :
  Calls Tryz.prog 86 #[.agg #[.slice A n c], .slice A' m c', .int .i64 (a : Int), .slice U un uc] w (AnsPut w (fitL sg t u a) (fitB sg t u a)) := by
 have ham : a < m := by rw [h'.1] at hat; exact hat
 obtain ⟨b, off, x, rfl, -, -, -⟩ := h'.spot ham
 obtain ⟨W, hW⟩ : ∃ W, W = w.alloc (.cells #[.slice A n c] 42) := ⟨_, rfl⟩
 have f : Fr w W A n c sg (some ⟨b, off, none⟩) m t := by rw [hW]; exact Fr.start h h'
 have hU : Seg W w.heap.size U un u := hu.below f.b
 have HW := hid hW
 obtain ⟨j, hj⟩ : ∃ j, len1 sg t a = j := ⟨_, rfl⟩
 obtain ⟨t1, t2, t3⟩ := term_at hok hat
 have hars := (sig_arities (termOk_parts hok).1).1
 rw [hj] at t1 t2 t3
 rw [h'.1] at t3
 have h60 : m ≤ 60 := by have := (termOk_parts hok).2.1; rw [h'.1] at this; exact this
 have HE := hid (endI_some t1)
 have HTL := hid hat
 have HPI := hid (show putI sg t u a = t.take a ++ u ++ t.drop (a + j) by unfold putI putL; rw [hj, List.append_assoc])
 have hpl : (putI sg t u a).length = a + un + (m - (a + j)) := by rw [HPI.out]; simp [h'.1, hu.1]; omega
 have HPL := hid hpl
 have LC := hid (copyInts (some ⟨b, off, none⟩) a c' (t.take a) W ((Seg.front f.t1 (by omega))) (fun e => by cases e) (by omega))
 have HCU := hid hcu
 have i0 : (0 : Int) ≤ (a : Int) := by omega
 have i1 : (a : Int) ≤ (c' : Int) := by omega
 have i2 : (a : Int) + (j : Int) ≤ (c' : Int) := by omega
 have i3 : (a : Int) + (j : Int) ≤ (m : Int) := by omega
 clear hW h h' hu hj t1 hok hat hcu hpl
 go_enter Tryz.func86, Tryz.ntmps86
 go_wp2_with fail
 rw [← HW.out]
 refine LC.out.mono ?_
 rintro e w1 ⟨O1, n1, c1, rfl, o1, bb⟩
 have hta : (t.take a).length = a := by rw [List.length_take]; have := HTL.out; omega
 obtain rfl : n1 = a := by rw [Own.len o1, hta]
 replace hU := hU.below (bb.mono (Nat.le_of_lt f.size))
 replace o1 := Own.lower (base' := w.heap.size + 1) o1 f.size
 replace f := f.next bb
 have z1 : w.heap.size + 1 ≤ w1.heap.size := f.size
 clear bb hta LC
 go_wp2_with (at_builtin; refine appAll rfl _ _ rfl (w.heap.size + 1) O1 n1 c1 _ rfl o1 U un uc w.heap.size u rfl hU HCU.out (by omega) (by omega) z1 ?_; intro O2 c2 w2 o2 b2; have f2 := f.over b2; have cA2 : w2.cell? ⟨w.heap.size, 0, none⟩ = some (.slice A n c) := f2.cell)
 clear o1 b2 f hU z1 cA2
 replace f := f2
 clear f2
 have cA := f.cell
 obtain ⟨k, hk⟩ : ∃ k, n1 + j = k := ⟨_, rfl⟩
 rw [hk] at HPI HPL t3
 have HEK := hid (show endI sg t n1 = (k : Int) by rw [HE.out, ← hk]; omega)
 have hn1k : n1 ≤ k := by omega
 clear HE hk i2 i3 t2
 refine (specEnd A _ n c m c' sg t (n1 : Int) _ f.s1 f.t1 hn hm hars i0 (by omega)).mono ?_
 rintro e w3 ⟨he, bb⟩
 rw [Int.toNat_natCast, HEK.out] at he
 subst he
 replace f := f.next bb
 replace o2 := Own.next o2 bb
 clear bb cA
 have i2 : (k : Int) ≤ (c' : Int) := by omega
 have i4 : (k : Int) ≤ (m : Int) := by omega
 have z1 : w.heap.size + 1 ≤ w3.heap.size := f.size
 by_cases hce : c' = k
 ·subst hce
  have hmk : m - c' = 0 := by omega
  have HSG := hid (show Seg w3 w.heap.size (some ⟨b, off, none⟩) 0 [] from Seg.none_any rfl)
  have HPI2 := hid (show putI sg t u n1 = t.take n1 ++ u ++ [] by rw [HPI.out, List.drop_eq_nil_of_le (by rw [f.t1.1]; omega)])
  have HPL2 := hid (show (putI sg t u n1).length = n1 + un by rw [HPL.out, hmk]; rfl)
  clear hmk HPL HPI
  by_cases h6 : n1 + un ≤ 60
  ·have h7 : ¬ (60 : Int) < (n1 : Int) + (un : Int) := by omega
   go_wp2_with (at_builtin; refine appAll rfl _ _ rfl (w.heap.size + 1) O2 (n1 + un) c2 _ rfl o2 (some ⟨b, off, none⟩) 0 0 w.heap.size [] rfl HSG.out (fun e => by cases e) (by omega) (by omega) z1 ?_; intro O4 c4 w4 o4 b4)
   replace f := f.over b4
   have F : AnsPut w (fitL sg t u n1) (fitB sg t u n1) (.returned (.tuple #[.slice O4 (n1 + un) c4, .bool true])) w4 := ⟨O4, _, c4, by rw [show fitB sg t u n1 = true by unfold fitB; rw [HPL2.out]; exact decide_eq_true h6], by unfold fitL; rw [if_pos (by unfold fitB; rw [HPL2.out]; exact decide_eq_true h6), HPI2.out]; exact Own.lower o4 (Nat.le_succ _), f.b⟩
   have HF := hid F
   clear F o4 f
   go_ret2
   exact HF.out
  ·have h7 : (60 : Int) < (n1 : Int) + (un : Int) := by omega
   go_wp2_with (at_builtin; refine appAll rfl _ _ rfl (w.heap.size + 1) O2 (n1 + un) c2 _ rfl o2 (some ⟨b, off, none⟩) 0 0 w.heap.size [] rfl HSG.out (fun e => by cases e) (by omega) (by omega) z1 ?_; intro O4 c4 w4 o4 b4)
   replace f := f.over b4
   have F : AnsPut w (fitL sg t u n1) (fitB sg t u n1) (.returned (.tuple #[.slice (some ⟨w4.heap.size, 0, none⟩) 0 0, .bool false])) (w4.alloc (.cells #[] 2)) := ⟨_, 0, 0, by rw [show fitB sg t u n1 = false by unfold fitB; rw [HPL2.out]; exact decide_eq_false h6], by unfold fitL; rw [if_neg (by unfold fitB; rw [HPL2.out, decide_eq_false h6]; simp)]; exact own_empty w4 w.heap.size (Nat.le_of_lt f.size), (f.alloc _).b⟩
   have HF := hid F
   clear F o4 f
   go_ret2
   exact HF.out
 ·have HSG := hid (Seg.back f.s' (e := k) t3)
  obtain ⟨r, hr⟩ : ∃ r, m - k = r := ⟨_, rfl⟩
  rw [hr] at HPL HSG
  have hr60 : r ≤ 60 := by omega
  by_cases h6 : n1 + un + r ≤ 60
  ·have h7 : ¬ (60 : Int) < (n1 : Int) + (un : Int) + (r : Int) := by omega
   go_wp2_with (at_builtin; refine appAll rfl _ _ rfl (w.heap.size + 1) O2 (n1 + un) c2 _ rfl o2 (some ⟨b, off + k, none⟩) r (c' - k) w.heap.size (t.drop k) rfl HSG.out (fun e => by cases e) (by omega) (by omega) z1 ?_; intro O4 c4 w4 o4 b4)
   replace f := f.over b4
   have F : AnsPut w (fitL sg t u n1) (fitB sg t u n1) (.returned (.tuple #[.slice O4 (n1 + un + r) c4, .bool true])) w4 := ⟨O4, _, c4, by rw [show fitB sg t u n1 = true by unfold fitB; rw [HPL.out]; exact decide_eq_true h6], by unfold fitL; rw [if_pos (by unfold fitB; rw [HPL.out]; exact decide_eq_true h6), HPI.out]; exact Own.lower o4 (Nat.le_succ _), f.b⟩
   have HF := hid F
   clear F o4 f
   go_ret2
   exact HF.out
  ·have h7 : (60 : Int) < (n1 : Int) + (un : Int) + (r : Int) := by omega
   go_wp2_with (at_builtin; refine appAll rfl _ _ rfl (w.heap.size + 1) O2 (n1 + un) c2 _ rfl o2 (some ⟨b, off + k, none⟩) r (c' - k) w.heap.size (t.drop k) rfl HSG.out (fun e => by cases e) (by omega) (by omega) z1 ?_; intro O4 c4 w4 o4 b4)
   replace f := f.over b4
   have F : AnsPut w (fitL sg t u n1) (fitB sg t u n1) (.returned (.tuple #[.slice (some ⟨w4.heap.size, 0, none⟩) 0 0, .bool false])) (w4.alloc (.cells #[] 2)) := ⟨_, 0, 0, by rw [show fitB sg t u n1 = false by unfold fitB; rw [HPL.out]; exact decide_eq_false h6], by unfold fitL; rw [if_neg (by unfold fitB; rw [HPL.out, decide_eq_false h6]; simp)]; exact own_empty w4 w.heap.size (Nat.le_of_lt f.size), (f.alloc _).b⟩
   have HF := hid F
   clear F o4 f
   go_ret2
   exact HF.out
def putB (sg t u : List Int) (x : Int) : Bool := (thereB sg t x && termOkB sg u) && fitB sg t u x.toNat
def putR (sg t u : List Int) (x : Int) : List Int := if putB sg t u x = true then putI sg t u x.toNat else []
theorem put_no {sg t u : List Int} {x : Int} (h : thereB sg t x = false ∨ termOkB sg u = false) : putB sg t u x = false ∧ putR sg t u x = [] := by
 have e : putB sg t u x = false := by
  unfold putB
  rcases h with h | h <;> rw [h] <;> simp
 exact ⟨e, by unfold putR; rw [if_neg (by rw [e]; simp)]⟩
theorem put_yes {sg t u : List Int} {a : Nat} (h1 : thereB sg t (a : Int) = true) (h2 : termOkB sg u = true) : putB sg t u (a : Int) = fitB sg t u a ∧ putR sg t u (a : Int) = fitL sg t u a := by
 have e : putB sg t u (a : Int) = fitB sg t u a := by unfold putB; rw [h1, h2, Int.toNat_natCast]; rfl
 exact ⟨e, by unfold putR fitL; rw [e, Int.toNat_natCast]⟩
theorem ansPut_no {w w' : World} {sg t u : List Int} {x : Int} {A : Option Addr} {c : Nat} (h : thereB sg t x = false ∨ termOkB sg u = false) (ho : Own w' w.heap.size (.slice A 0 c) []) (hb : Below w.heap.size w w') : AnsPut w (putR sg t u x) (putB sg t u x) (.returned (.tuple #[.slice A 0 c, .bool false])) w' := by
 obtain ⟨e1, e2⟩ := put_no h
 exact ⟨A, 0, c, by rw [e1], by rw [e2]; exact ho, hb⟩
set_option maxHeartbeats 400000 in
theorem tooLong (A : Option Addr) (n c : Nat) (w : World) (hn : n ≤ 9223372036854775807) :
  Calls Tryz.prog 77 #[.slice A n c] w fun e w' => w = w' ∧ e = .returned (.bool (decide (60 < n))) := by
 have E : decide ((60 : Int) < (n : Int)) = decide (60 < n) := decide_eq_decide.2 (by omega)
 rw [← E]
 have HE := hid E
 clear E
 generalize hz : decide ((60 : Int) < (n : Int)) = z
 have HZ := hid hz
 clear hz
 go_enter Tryz.func77, Tryz.ntmps77
 go_wp2
 go_ret
 exact ⟨rfl, by rw [← HZ.out]; rfl⟩
theorem segs3 {w : World} {t : TypeId} {A1 A2 A3 : Option Addr} {n1 c1 n2 c2 n3 c3 : Nat} {x1 x2 x3 : List Int} (h1 : Seg w w.heap.size A1 n1 x1) (h2 : Seg w w.heap.size A2 n2 x2) (h3 : Seg w w.heap.size A3 n3 x3) (k1 : Cap A1 n1 c1) (k2 : Cap A2 n2 c2) (k3 : Cap A3 n3 c3) :
  Segs (w.alloc (.cells #[.slice A1 n1 c1, .slice A2 n2 c2, .slice A3 n3 c3] t)) (w.alloc (.cells #[.slice A1 n1 c1, .slice A2 n2 c2, .slice A3 n3 c3] t)).heap.size (some ⟨w.heap.size, 0, none⟩) 3 [x1, x2, x3] := by
 have r := Row.new w t #[.slice A1 n1 c1, .slice A2 n2 c2, .slice A3 n3 c3]
 have b : Below w.heap.size w (w.alloc (.cells #[.slice A1 n1 c1, .slice A2 n2 c2, .slice A3 n3 c3] t)) := (Below.refl _ _).alloc (Nat.le_refl _) _
 refine ⟨rfl, fun _ => ⟨w.heap.size, 0, rfl, r.lt, fun j hj => ?_⟩⟩
 rw [Nat.zero_add, r.cell j]
 rcases (show j = 0 ∨ j = 1 ∨ j = 2 by omega) with rfl | rfl | rfl
 ·exact ⟨A1, n1, c1, rfl, h1.next b, k1⟩
 ·exact ⟨A2, n2, c2, rfl, h2.next b, k2⟩
 ·exact ⟨A3, n3, c3, rfl, h3.next b, k3⟩
set_option maxHeartbeats 1000000 in
theorem implPutAt (A A' U : Option Addr) (n c m c' un uc : Nat) (sg t : List Int) (x : Int) (u : List Int) (w : World) (h : Seg w w.heap.size A n sg) (h' : Seg w w.heap.size A' m t) (hu : Seg w w.heap.size U un u) (hn : n ≤ 1048576) (hm : m ≤ 1048576) (hun : un ≤ 1048576) (hx1 : -9223372036854775808 ≤ x) (hx2 : x ≤ 9223372036854775807)
  (hcu : Cap U un uc) (hc' : m ≤ c') (hc2 : c' ≤ 9223372036854775807) :
  Calls Tryz.prog 108 #[.agg #[.slice A n c], .slice A' m c', .int .i64 x, .slice U un uc] w (AnsPut w (putR sg t u x) (putB sg t u x)) := by
 obtain ⟨W, hW⟩ : ∃ W, W = w.alloc (.cells #[.slice A n c] 42) := ⟨_, rfl⟩
 have f : Fr w W A n c sg A' m t := by rw [hW]; exact Fr.start h h'
 have hU : Seg W W.heap.size U un u := (hu.below f.b).more (Nat.le_of_lt f.size)
 have HW := hid hW
 have HLM := hid h'.1
 have L := hid (implEndOf A A' n c m c' sg t x W f.s1 f.t1 hn hm hx1 hx2)
 clear hW h h' hu
 cases hx : thereB sg t x with
 | false =>
  have HX := hid hx
  have HE := hid (show endOfI sg t x = -1 by unfold endOfI; rw [if_neg (by rw [hx]; simp)])
  clear hx
  go_enter Tryz.func108, Tryz.ntmps108
  go_wp2_with fail
  rw [← HW.out]
  refine L.out.mono ?_
  rintro e w1 ⟨he, bb⟩
  rw [HE.out] at he
  subst he
  have F := hid (ansPut_no (w := w) (u := u) (.inl HX.out) (Own.nil w1 w.heap.size) (f.next bb).b)
  clear f L bb hU
  go_wp2
  go_ret2
  exact F.out
 | true =>
  have HX := hid hx
  obtain ⟨hok, i0, i1⟩ := there_parts hx
  obtain ⟨a, rfl⟩ := Int.eq_ofNat_of_zero_le i0
  have hal : a < t.length := by omega
  obtain ⟨k, hk⟩ : ∃ k, a + len1 sg t a = k := ⟨_, rfl⟩
  have HE := hid (show endOfI sg t (a : Int) = (k : Int) by unfold endOfI; rw [if_pos hx, Int.toNat_natCast, end_at hok hal, hk])
  have HK := hid hk
  have hkm : k ≤ m := by have h3 := (term_at hok hal).2.2; rw [HLM.out] at h3; omega
  have hak : a < k := by have h3 := (term_at hok hal).2.1; omega
  have h60 : m ≤ 60 := by have h3 := (termOk_parts hok).2.1; rw [HLM.out] at h3; exact h3
  have hneg : ¬ (k : Int) < 0 := by omega
  clear hx hok i0 i1 hk
  cases hku : termOkB sg u with
  | false =>
   have HU := hid hku
   clear hku
   go_enter Tryz.func108, Tryz.ntmps108
   go_wp2_with fail
   rw [← HW.out]
   refine L.out.mono ?_
   rintro e w1 ⟨he, bb⟩
   rw [HE.out] at he
   subst he
   replace f := f.next bb
   replace hU := hU.next bb
   have cA := f.cell
   clear bb L
   go_wp2_with fail
   refine (implTermOk A U n c un uc sg u _ f.s1 hU hn hun).mono ?_
   rintro e w2 ⟨he, bb⟩
   rw [HU.out] at he
   subst he
   have F := hid (ansPut_no (w := w) (t := t) (x := (a : Int)) (.inr HU.out) (Own.nil w2 w.heap.size) (f.next bb).b)
   clear f bb hU cA
   go_wp2
   go_ret2
   exact F.out
  | true =>
   have HU := hid hku
   have hu60 : un ≤ 60 := by have h1 := (termOk_parts hku).2.1; rw [hU.1] at h1; exact h1
   have HP := hid (put_yes HX.out hku)
   have HUL := hid hU.1
   have HPI := hid (show [t.take a, u, t.drop k].flatten = putI sg t u a by unfold putI putL; rw [HK.out]; simp)
   have HPL := hid (show (putI sg t u a).length = a + un + (m - k) by rw [← HPI.out]; simp [HUL.out, HLM.out]; omega)
   have HT := hid (show tot [t.take a, u, t.drop k] ≤ 1048576 by unfold tot sumL; simp [HUL.out, HLM.out]; omega)
   clear hku
   go_enter Tryz.func108, Tryz.ntmps108
   go_wp2_with fail
   rw [← HW.out]
   refine L.out.mono ?_
   rintro e w1 ⟨he, bb⟩
   rw [HE.out] at he
   subst he
   replace f := f.next bb
   replace hU := hU.next bb
   have cA := f.cell
   clear bb L
   go_wp2_with fail
   refine (implTermOk A U n c un uc sg u _ f.s1 hU hn hun).mono ?_
   rintro e w2 ⟨he, bb⟩
   rw [HU.out] at he
   subst he
   replace f := f.next bb
   replace hU := hU.next bb
   clear bb cA
   obtain ⟨b, off, y, rfl, -, -, -⟩ := f.t1.spot (show a < m by omega)
   have i0 : (0 : Int) ≤ (a : Int) := by omega
   have i1 : (a : Int) ≤ (c' : Int) := by omega
   have i2 : (k : Int) ≤ (c' : Int) := by omega
   have i3 : (k : Int) ≤ (m : Int) := by omega
   have i4 : (0 : Int) ≤ (k : Int) := by omega
   have SF := Seg.front f.t1 (show a ≤ m by omega)
   by_cases hce : c' = k
   ·subst hce
    have hmk : m - c' = 0 := by omega
    have S3 := hid (segs3 (t := 22) (A3 := some ⟨b, off, none⟩) (c3 := 0) SF hU (Seg.none_any (show t.drop c' = [] from List.drop_eq_nil_of_le (by rw [f.t1.1]; omega))) ⟨show a ≤ c' by omega, hc2, fun e => by cases e⟩ hcu ⟨Nat.le_refl _, by omega, fun _ => rfl⟩).drew
    rw [hmk] at HPL
    clear SF hmk
    go_wp2_with fail
    go_region_held3 (fun _ => True)
     (trivial)
     (first
      | (go_at_call 124; refine (concat _ _ _ _ _ S3.out HT.out).mono ?_; rintro e w4 ⟨O4, n4, c4, rfl, o4, b4⟩))
    have hn4 : n4 = a + un + 0 := by rw [Own.len o4, HPI.out]; exact HPL.out
    have bf := (((Below.refl w2.heap.size w2).alloc (Nat.le_refl _) (.cells #[.slice (some ⟨b, off, none⟩) a c', .slice U un uc, .slice (some ⟨b, off, none⟩) 0 0] 22)).drew).trans (b4.mono (by simp))
    have hsz := f.size
    replace f := f.next bf
    replace o4 := Own.lower (base' := w.heap.size) o4 (by simp; omega)
    obtain ⟨z, hz⟩ : ∃ z, fitB sg t u a = z := ⟨_, rfl⟩
    have F : AnsPut w (putR sg t u (a : Int)) (putB sg t u (a : Int)) (.returned (.tuple #[if z = true then .slice O4 n4 c4 else .slice none 0 0, .bool z])) w4 := by
     refine ⟨if z = true then O4 else none, if z = true then n4 else 0, if z = true then c4 else 0, ?_, ?_, f.b⟩
     ·rw [HP.out.1, hz]; cases z <;> rfl
     ·rw [HP.out.2]
      unfold fitL
      rw [hz]
      cases z with
      | false => exact Own.nil _ _
      | true => rw [HPI.out] at o4; exact o4
    have HF := hid F
    have HTL := hid (show decide (60 < n4) = !z by
     rw [← hz]
     unfold fitB
     rw [HPL.out, hn4]
     by_cases e : a + un + 0 ≤ 60
     ·rw [decide_eq_true e, decide_eq_false (by omega)]; rfl
     ·rw [decide_eq_false e, decide_eq_true (by omega)]; rfl)
    have h463 : n4 ≤ 9223372036854775807 := by omega
    clear F o4 b4 f hz hn4 bf S3 hU
    go_wp2_with fail
    refine (tooLong O4 n4 c4 w4 h463).mono ?_
    rintro e w5 ⟨rfl, rfl⟩
    rw [HTL.out]
    cases z with
    | false =>
     go_wp2
     go_ret2
     exact HF.out
    | true =>
     go_wp2
     go_ret2
     exact HF.out
   ·obtain ⟨r, hr⟩ : ∃ r, m - k = r := ⟨_, rfl⟩
    have SB := Seg.back f.t1 hkm
    rw [hr] at SB HPL
    have hr60 : r ≤ 60 := by omega
    have S3 := hid (segs3 (t := 22) SF hU SB ⟨show a ≤ c' by omega, hc2, fun e => by cases e⟩ hcu ⟨show r ≤ c' - k by omega, by omega, fun e => by cases e⟩).drew
    clear SF SB
    go_wp2_with fail
    go_region_held3 (fun _ => True)
     (trivial)
     (first
      | (go_at_call 124; refine (concat _ _ _ _ _ S3.out HT.out).mono ?_; rintro e w4 ⟨O4, n4, c4, rfl, o4, b4⟩))
    have hn4 : n4 = a + un + r := by rw [Own.len o4, HPI.out]; exact HPL.out
    have bf := (((Below.refl w2.heap.size w2).alloc (Nat.le_refl _) (.cells #[.slice (some ⟨b, off, none⟩) a c', .slice U un uc, .slice (some ⟨b, off + k, none⟩) r (c' - k)] 22)).drew).trans (b4.mono (by simp))
    have hsz := f.size
    replace f := f.next bf
    replace o4 := Own.lower (base' := w.heap.size) o4 (by simp; omega)
    obtain ⟨z, hz⟩ : ∃ z, fitB sg t u a = z := ⟨_, rfl⟩
    have F : AnsPut w (putR sg t u (a : Int)) (putB sg t u (a : Int)) (.returned (.tuple #[if z = true then .slice O4 n4 c4 else .slice none 0 0, .bool z])) w4 := by
     refine ⟨if z = true then O4 else none, if z = true then n4 else 0, if z = true then c4 else 0, ?_, ?_, f.b⟩
     ·rw [HP.out.1, hz]; cases z <;> rfl
     ·rw [HP.out.2]
      unfold fitL
      rw [hz]
      cases z with
      | false => exact Own.nil _ _
      | true => rw [HPI.out] at o4; exact o4
    have HF := hid F
    have HTL := hid (show decide (60 < n4) = !z by
     rw [← hz]
     unfold fitB
     rw [HPL.out, hn4]
     by_cases e : a + un + r ≤ 60
     ·rw [decide_eq_true e, decide_eq_false (by omega)]; rfl
     ·rw [decide_eq_false e, decide_eq_true (by omega)]; rfl)
    have h463 : n4 ≤ 9223372036854775807 := by omega
    clear F o4 b4 f hz hn4 bf S3 hU
    go_wp2_with fail
    refine (tooLong O4 n4 c4 w4 h463).mono ?_
    rintro e w5 ⟨rfl, rfl⟩
    rw [HTL.out]
    cases z with
    | false =>
     go_wp2
     go_ret2
     exact HF.out
    | true =>
     go_wp2
     go_ret2
     exact HF.out
end put
end
section
namespace shifted
open Go.RowKit base ints sig term termOk marks app sym segs termFacts varsMath fillMath Go.Proofs.YtblhmplpcdcejaaGreat.look
set_option maxRecDepth 100000
def AnsPairO (w : World) (ys : List Int) (b : Bool) (e : Ending) (w' : World) : Prop := ∃ A n c, e = .returned (.tuple #[.slice A n c, .bool b]) ∧ Own w' w.heap.size (.slice A n c) ys ∧ Below w.heap.size w w'
end shifted
end
section
open Go.Lib (hid)
namespace filled
open Go.RowKit base ints sig cursor term termOk marks app appAt sym sub segs segsHelp termFacts varsMath varsOf fillMath Go.Proofs.YtblhmplpcdcejaaGreat.look shifted substOk gives
set_option maxRecDepth 100000
theorem stepAppAll {w : World} {ops : Array Oper} {o : Oper} {a : Act} {K : Act → World → Prop} {Q : Exit → Act → World → Prop} {E : Prop} (hgd : o.guard = none) (s x : Operand)
  (ho : o.op = .call { callee := .builtin .append, args := #[s, x], argTypes := #[22, 22] })
  (base : Nat) (A : Option Addr) (n c : Nat) (xs : List Int) (hs : a.eval s = .slice A n c) (hown : Own w base (.slice A n c) xs)
  (S : Option Addr) (m c2 B : Nat) (ys : List Int) (hx : a.eval x = .slice S m c2) (hseg : Seg w B S m ys) (hm1 : 1 ≤ m) (hn : n ≤ 2097152) (hm : m ≤ 2097152) (hbase : base ≤ w.heap.size)
  (h : ∀ g' c' w', Own w' base (.slice (some ⟨g', 0, none⟩) (n + m) c') (xs ++ ys) → w.grownBy w' (blk A) → (blk A = some g' ∨ g' = w.heap.size) → g' < w'.heap.size → K (a.put o.dst (.slice (some ⟨g', 0, none⟩) (n + m) c')) w') :
  if Region.wanted o (yielded ops a.tmps) = true then Oper.wp Tryz.prog o a w K Q else E := by
 obtain ⟨i0, hi, hz0, hz1, hz2⟩ := info_parts info_i64
 have hl : xs.length = n := by
  obtain ⟨A', c', e⟩ := hown.slice
  exact (Value.slice.inj e).2.1.symm
 have hob : (Value.slice A n c).ownBlock = blk A := by cases A <;> rfl
 obtain ⟨b, off, e, _, hc⟩ := hseg.2 (by omega)
 subst e
 refine step_append_lies w hgd s x 22 ho base 2 i0 (.int .i64 0) 1 8 Tryz.underlying22 hi hz0 hz1 hz2 rfl (by decide) (.slice A n c) n (xs.map (Value.int .i64)) hs (by rw [← hl]; rw [← hl] at hown; exact hown)
  ⟨b, off, none⟩ m c2 (ys.map (Value.int .i64)) hx (by simp [hseg.1]) (fun j u hj => ?_) (fun u hu => ?_) (by omega) (by unfold maxLen; omega) (by omega) hbase w.heap.size rfl ?_
 ·have hjl : j < m := by
   have := (List.getElem?_eq_some_iff.1 hj).1
   simp at this
   have := hseg.1
   omega
  have hcj := hc j hjl
  have e2 : (⟨b, off, none⟩ : Addr).add j = ⟨b, off + j, none⟩ := by unfold Addr.add; split <;> simp_all
  rw [e2, hcj, ← hj]
  have := hseg.1
  simp [List.getD, show j < ys.length by omega]
 ·obtain ⟨y, _, rfl⟩ := List.mem_map.1 hu
  rfl
 ·intro g' c' w' hown' hg hat hlt
  rw [← List.map_append] at hown'
  rw [hob] at hg hat
  refine h g' c' w' ?_ hg hat hlt
  have hl2 : (xs ++ ys).length = n + m := by simp [hl, hseg.1]
  unfold Own
  rw [hl2]
  exact hown'
def fitsB (ss : List (List Int)) (t : List Int) : Bool := decide ((fillL (givesL ss) t).length ≤ 60)
def fitL (ss : List (List Int)) (t : List Int) : List Int := if fitsB ss t = true then fillL (givesL ss) t else []
theorem fits_no {ss : List (List Int)} {t : List Int} {k : Nat} (h : 60 < (fillL (givesL ss) (t.take k)).length) : fitsB ss t = false := by
 have e : fillL (givesL ss) t = fillL (givesL ss) (t.take k) ++ fillL (givesL ss) (t.drop k) := by rw [← fill_append, List.take_append_drop]
 unfold fitsB
 rw [e, List.length_append]
 simp
 omega
def HeadF (w : World) (S : Option Addr) (m c mt : Nat) (ss : List (List Int)) (t : List Int) (out i : Value) (wr : World) : Prop :=
 ∃ (k : Nat) (O : Option Addr) (on oc : Nat), k ≤ mt ∧ i = .int .i64 k ∧ out = .slice O on oc ∧ on ≤ 60 ∧ Own wr (w.heap.size + 1) (.slice O on oc) (fillL (givesL ss) (t.take k)) ∧ Row wr w.heap.size 48 #[.slice S m c] ∧ Below w.heap.size w wr
theorem pairF_no {w wr : World} {ss : List (List Int)} {t : List Int} (h : fitsB ss t = false) (hb : Below w.heap.size w wr) : AnsPairO w (fitL ss t) (fitsB ss t) (.returned (.tuple #[.slice (some ⟨wr.heap.size, 0, none⟩) 0 0, .bool false])) (wr.alloc (.cells #[] 2)) :=
 ⟨_, 0, 0, by rw [h], by unfold fitL; rw [if_neg (by rw [h]; simp)]; exact own_empty wr w.heap.size hb.size, hb.alloc hb.size _⟩
set_option maxHeartbeats 8000000 in
theorem l2Filled (S A : Option Addr) (m c mt ct : Nat) (ss : List (List Int)) (t : List Int) (w : World) (h : Segs w w.heap.size S m ss) (h' : Seg w w.heap.size A mt t) (ht : tot ss ≤ 1048576) (hmt : mt ≤ 60) (hv : ∀ x ∈ t, -24 ≤ x) (hM : ∀ i, (givesL ss i).length ≤ 60) :
  Calls Tryz.prog 32 #[.agg #[.slice S m c], .slice A mt ct] w (AnsPairO w (fitL ss t) (fitsB ss t)) := by
 have HL := hid h'.1
 have HV := hid hv
 have HM := hid hM
 have HT := hid ht
 have S0 : HeadF w S m c mt ss t (.slice (some ⟨w.heap.size + 1, 0, none⟩) 0 0) (.int .i64 0) ((w.alloc (.cells #[.slice S m c] 48)).alloc (.cells #[] 2)) :=
  ⟨0, _, _, _, Nat.zero_le _, rfl, rfl, by omega, by have := own_empty (w.alloc (.cells #[.slice S m c] 48)) (w.heap.size + 1) (by simp); simpa [fillL] using this, (Row.new _ _ _).alloc _, ((Below.refl _ _).alloc (Nat.le_refl _) _).alloc (by simp) _⟩
 have HS0 := hid S0
 clear S0 hv hM ht
 go_enter Tryz.func32, Tryz.ntmps32
 go_wp2_with fail
 go_loopw [6, 7] (fun out i wr => HeadF w S m c mt ss t out i wr) (fun _ i _ => mt - (intOf i).toNat)
 case atStart => exact HS0.out
 case round =>
  obtain ⟨k, O, on, oc, hk, rfl, rfl, hon, ho, hr, hb⟩ := hrel
  clear HS0
  have hsz := hr.lt
  by_cases hlt : k < mt
  ·obtain ⟨b, off, x, rfl, hbb, hx, ex⟩ := h'.spot hlt
   have hx1 : wr.cell? ⟨b, off + k, none⟩ = some (.int .i64 x) := (hb.cell (p := ⟨b, off + k, none⟩) hbb).trans hx
   have hbr : b < wr.heap.size := Nat.lt_of_lt_of_le hbb hb.size
   have cS : wr.cell? ⟨w.heap.size, 0, none⟩ = some (.slice S m c) := hr.cell 0
   have hmem : x ∈ t := by
    have hkl : k < t.length := by rw [HL.out]; exact hlt
    have := ex.out
    rw [← this]
    simp [List.getD, hkl]
   have hx24 : -24 ≤ x := HV.out x hmem
   have E := hid (fill_take (L := givesL ss) (t := t) (k := k) (by rw [HL.out]; exact hlt) ex.out)
   have i0 : (0 : Int) ≤ (k : Int) := by omega
   have i1 : (k : Int) < (mt : Int) := by omega
   have HN := hid (Own.len ho)
   have hx0 := hx
   clear hmem hx h' ex
   by_cases hpos : 0 ≤ x
   ·have R := hid (rep_sym (L := givesL ss) hpos)
    have d1 : decide (x < 0) = false := by simp; omega
    by_cases h60 : on + 1 ≤ 60
    ·go_wp2_with (at_builtin; refine app1 rfl _ _ rfl (w.heap.size + 1) O on oc (fillL (givesL ss) (t.take k)) rfl (Own.alloc ho _) wr.heap.size 1 x rfl ((Row.new _ _ _).cell 0) (by omega) (by simp; omega) ?_; intro O' oc' w2 ho2 b2)
     have S1 : HeadF w S m c mt ss t (.slice O' (on + 1) oc') (.int .i64 ((k : Int) + 1)) w2 := ⟨k + 1, O', on + 1, oc', hlt, by simp, rfl, h60, by rw [E.out, R.out]; exact ho2, (hr.alloc _).below b2 (Nat.lt_succ_self _), (hb.alloc (Nat.le_of_lt hsz) _).trans (b2.mono (Nat.le_succ _))⟩
     have HS1 := hid S1
     clear S1 ho2 b2 ho hr hb R E cS
     go_wp2
     go_roundw
     case rel => exact HS1.out
     case measure => simp [intOf]; omega
    ·have NO := hid (fits_no (ss := ss) (t := t) (k := k + 1) (by rw [E.out, R.out, List.length_append, ← HN.out]; simp; omega))
     go_wp2_with (at_builtin; refine app1 rfl _ _ rfl (w.heap.size + 1) O on oc (fillL (givesL ss) (t.take k)) rfl (Own.alloc ho _) wr.heap.size 1 x rfl ((Row.new _ _ _).cell 0) (by omega) (by simp; omega) ?_; intro O' oc' w2 ho2 b2)
     have F := hid (pairF_no NO.out ((hb.alloc (Nat.le_of_lt hsz) _).trans (b2.mono (Nat.le_succ _))))
     clear ho2 b2 ho hr hb R E cS
     go_wp2
     go_ret2
     exact F.out
   ·have hneg : x < 0 := by omega
    have R := hid (rep_var (L := givesL ss) hneg)
    obtain ⟨i, hi⟩ : ∃ i : Nat, (-1 - x).toNat = i := ⟨_, rfl⟩
    rw [hi] at R
    have hix : (i : Int) = -1 - x := by omega
    have LG := hid (l2Gives S m c ss i wr.drew (((h.below hb).more hb.size).drew) HT.out (by omega))
    rw [hix] at LG
    have hlen : (givesL ss i).length ≤ 60 := HM.out i
    have hlen1 : 1 ≤ (givesL ss i).length := gives_pos ss i
    obtain ⟨q, hq⟩ : ∃ q, (givesL ss i).length = q := ⟨_, rfl⟩
    rw [hq] at hlen hlen1
    have HQ := hid hq
    have hw1 : IntKind.i64.wrap (-1 - x) = -1 - x := by rw [IntKind.wrap_i64]; omega
    have hod := Own.drew ho
    have hrd := hr.drew
    have hbd := hb.drew
    clear hix hi hq h
    go_wp2_with fail
    go_region_held3 (fun w' => w'.cell? ⟨w.heap.size, 0, none⟩ = some (.slice S m c) ∧ w'.cell? ⟨b, off + k, none⟩ = some (.int .i64 x))
     (go_keep)
     (first
      | (go_at_call 70; refine LG.out.mono ?_; rintro e w1 ⟨D, dn, dc, rfl, od, bb⟩; obtain rfl : dn = q := (by rw [Own.len od]; exact HQ.out); have ho1 := Own.next hod bb; have hr1 := hrd.next bb; have hb1 := next_trans hbd bb; have cS1 : w1.cell? ⟨w.heap.size, 0, none⟩ = some (.slice S m c) := hr1.cell 0; have cX1 : w1.cell? ⟨b, off + k, none⟩ = some (.int .i64 x) := (bb.cell (p := ⟨b, off + k, none⟩) hbr).trans hx1)
      | (refine stepAppAll rfl _ _ rfl (w.heap.size + 1) O on oc (fillL (givesL ss) (t.take k)) (by rfl) ho1 D _ dc w1.heap.size (givesL ss i) (by rfl) (Own.seg od) (by omega) (by omega) (by omega) (by have := hr1.lt; omega) ?_; intro O' oc' w2 ho2 hg2 hat2 hlt2; have hr2 := Row.away hr1 hg2 (fun e => by have := (World.ownsRow.lt ho1 w.heap.size (by rw [blk_own]; exact e)).1; omega); have hb2 : Below w.heap.size w w2 := hb1.grown hg2 hb1.size (fun z hz => by have := (World.ownsRow.lt ho1 z (by rw [blk_own]; exact hz)).1; omega); have cS2 : w2.cell? ⟨w.heap.size, 0, none⟩ = some (.slice S m c) := hr2.cell 0; have cX2 : w2.cell? ⟨b, off + k, none⟩ = some (.int .i64 x) := (hb2.cell (p := ⟨b, off + k, none⟩) hbb).trans hx0))
    have hsum : (fillL (givesL ss) (t.take k) ++ givesL ss i).length = on + dn := by rw [List.length_append, ← HN.out, HQ.out]
    clear cS1 cX1 ho1 hr1 hb1 od bb hod hrd hbd LG ho hr hb cS hx1 hg2 hat2 HM HV
    by_cases h60 : on + dn ≤ 60
    ·have S1 : HeadF w S m c mt ss t (.slice (some ⟨O', 0, none⟩) (on + dn) oc') (.int .i64 ((k : Int) + 1)) w2 := ⟨k + 1, _, on + dn, oc', hlt, by simp, rfl, h60, by rw [E.out, R.out]; exact ho2, hr2, hb2⟩
     have HS1 := hid S1
     clear S1 ho2 hr2 hb2 R E HQ hsum
     go_wp2
     go_roundw
     case rel => exact HS1.out
     case measure => simp [intOf]; omega
    ·have NO := hid (fits_no (ss := ss) (t := t) (k := k + 1) (by rw [E.out, R.out, hsum]; omega))
     have F := hid (pairF_no NO.out hb2)
     clear ho2 hr2 hb2 R E HQ hsum
     go_wp2
     go_ret2
     exact F.out
  ·have F : AnsPairO w (fitL ss t) (fitsB ss t) (.returned (.tuple #[.slice O on oc, .bool true])) wr := by
    rw [List.take_of_length_le (by rw [HL.out]; omega)] at ho
    have hB : fitsB ss t = true := by unfold fitsB; rw [← Own.len ho]; simp; omega
    exact ⟨O, on, oc, by rw [hB], by unfold fitL; rw [if_pos hB]; exact Own.lower ho (Nat.le_succ _), hb⟩
   have HF := hid F
   clear F ho hr hb h h'
   go_wp2
   go_ret2
   exact HF.out
end filled
end
section
namespace sameSubst
open Go.RowKit base ints sig same marks sym segs segsHelp kinds varsOf fillMath Go.Proofs.YtblhmplpcdcejaaGreat.look substOk gives
set_option maxRecDepth 100000
end sameSubst
end
section
namespace compMath
open term termOk termFacts segsHelp fillMath substOk gives plainMath plainOf
def compL (us ss : List (List Int)) (i : Nat) : List Int := fillL (givesL us) (givesL ss i)
def outL (us ss : List (List Int)) (k : Nat) : List (List Int) := (List.range k).map (compL us ss)
theorem out_len (us ss : List (List Int)) (k : Nat) : (outL us ss k).length = k := by simp [outL]
end compMath
end
section
namespace plainFacts
open Go.RowKit base ints sig term termOk termFacts fillMath plainMath plainOf substOk gives sameSubst compMath filled
theorem gives_plain {L : Nat → List Int} {m i : Nat} (hpos : ∀ i, 1 ≤ (L i).length) (hout : ∀ i, m ≤ i → L i = vt i) : givesL (plainL L m) i = L i := by
 have e := plain_get L m i
 by_cases h : i < m
 ·rw [rows_get h] at e
  unfold bare at e
  by_cases h2 : L i = vt i
  ·rw [if_pos h2] at e
   rw [gives_var (by rw [e]; rfl), h2]
  ·rw [if_neg h2] at e
   rw [gives_term (by rw [e]; have := hpos i; omega), e]
 ·have e0 : (rowsL L m).getD i [] = [] := by simp [List.getD, rows_len, h]
  rw [e0] at e
  rw [gives_var (by rw [e]; rfl), hout i (by omega)]
end plainFacts
end
section
namespace matchTot
open Go.RowKit base ints sig term termOk app sym sub segs segsHelp plainMath gives plainOf fillMath termFacts matchMath matchSpec
theorem mst_short {sg t : List Int} : ∀ {p : List Int} {k : Nat} {s s' : List (List Int)}, mst sg t p k s = some s' → (∀ i, (s.getD i []).length ≤ t.length) → ∀ i, (s'.getD i []).length ≤ t.length := by
 intro p
 induction p with
 | nil => intro k s s' h hs; injection h with h; subst h; exact hs
 | cons x r ih =>
  intro k s s' h hs
  by_cases h1 : t.length ≤ k
  ·rw [mst_out h1] at h; cases h
  ·by_cases h2 : 0 ≤ x
   ·by_cases h3 : x = t.getD k 0
    ·rw [mst_sym h1 h2 h3] at h; exact ih h hs
    ·rw [mst_symNo h1 h2 h3] at h; cases h
   ·by_cases h3 : (s.getD (vr x) []).length ≠ 0 ∧ s.getD (vr x) [] ≠ subL sg t k
    ·rw [mst_varNo h1 h2 h3] at h; cases h
    ·rw [mst_var h1 h2 h3] at h
     refine ih h (fun i => ?_)
     rw [set_get]
     split
     ·unfold subL; rw [List.length_take, List.length_drop]; omega
     ·exact hs i
theorem match_tot {sg p t : List Int} : tot (resL (matchO sg p t)) ≤ 1048576 := by
 cases h1 : termOkB sg t with
 | false => rw [match_no (.inr h1)]; simp [resL, tot, sumL]
 | true =>
  cases h : matchO sg p t with
  | none => simp [resL, tot, sumL]
  | some s =>
   have ht := (term_len h1).2
   have hs : ∀ i, (s.getD i []).length ≤ t.length := by
    unfold matchO at h
    split at h
    ·exact mst_short h (fun i => by rw [s0_get]; simp)
    ·cases h
   have hg : ∀ i, (givesL s i).length ≤ 60 := fun i => by
    by_cases e : (s.getD i []).length = 0
    ·rw [gives_var e]; simp [vt]
    ·rw [gives_term e]; have := hs i; omega
   have h3 := tot_le (plain_each (L := givesL s) (m := 24) hg)
   have h4 := plain_len (givesL s) 24
   have h5 : (plainL (givesL s) 24).length * 60 ≤ 24 * 60 := Nat.mul_le_mul_right _ h4
   show tot (plainL (givesL s) 24) ≤ 1048576
   omega
end matchTot
end
section
namespace matchFacts
open sig term termOk termFacts endAt sub termMath fillMath posMath segsHelp substOk gives plainMath plainFacts filled sameSubst matchMath matchSpec
theorem mst_terms {sg t : List Int} (hok : termOkB sg t = true) : ∀ {p : List Int} {k : Nat} {s s' : List (List Int)}, mst sg t p k s = some s' → (∀ i, (s.getD i []).length = 0 ∨ termOkB sg (s.getD i []) = true) → ∀ i, (s'.getD i []).length = 0 ∨ termOkB sg (s'.getD i []) = true := by
 intro p
 induction p with
 | nil => intro k s s' h hs; injection h with h; subst h; exact hs
 | cons x r ih =>
  intro k s s' h hs
  by_cases h1 : t.length ≤ k
  ·rw [mst_out h1] at h; cases h
  ·by_cases h2 : 0 ≤ x
   ·by_cases h3 : x = t.getD k 0
    ·rw [mst_sym h1 h2 h3] at h; exact ih h hs
    ·rw [mst_symNo h1 h2 h3] at h; cases h
   ·by_cases h3 : (s.getD (vr x) []).length ≠ 0 ∧ s.getD (vr x) [] ≠ subL sg t k
    ·rw [mst_varNo h1 h2 h3] at h; cases h
    ·rw [mst_var h1 h2 h3] at h
     refine ih h (fun i => ?_)
     rw [set_get]
     split
     ·exact .inr (sub_term hok (by omega)).1
     ·exact hs i
theorem match_terms {sg p t : List Int} {s : List (List Int)} (h : matchO sg p t = some s) : termOkB sg p = true ∧ termOkB sg t = true ∧ s.length = 24 ∧ ∀ i, (s.getD i []).length = 0 ∨ termOkB sg (s.getD i []) = true := by
 obtain ⟨h1, h2⟩ := inst_ok (show instB sg p t = true by unfold instB; rw [h]; rfl)
 refine ⟨h1, h2, (match_turns h).1, ?_⟩
 rw [match_yes h1 h2] at h
 exact mst_terms h2 h (fun i => .inl (by rw [s0_get]; rfl))
theorem res_gives {s : List (List Int)} (h : s.length = 24) (i : Nat) : givesL (resL (some s)) i = givesL s i :=
 gives_plain (gives_pos s) (fun j hj => gives_out (by omega))
end matchFacts
end
section
namespace shape
open Go.RowKit base ints sig cursor marks app sym appAt segs segsHelp segsMark kinds
theorem Owned.num (w : World) (lo hi : Nat) (x : Int) : Owned w lo hi .num [.int .i64 x] x := ⟨[], ⟨rfl, rfl⟩, List.nodup_nil, fun k hk => by cases hk⟩
theorem Ow.num {w w' : World} {cs : List Value} {x : Int} {F : List Nat} (h : Ow w .num cs x F) (y : Int) : Ow w' .num [.int .i64 y] y F := ⟨rfl, h.2⟩
theorem CpS.init (w : World) (tL tI : TypeId) (cs zs ps : Array Value) : CpS w tL tI cs zs ps (((w.alloc (.cells cs tL)).alloc (.cells zs tI)).alloc (.cells ps tI)) where
 box := by have := ((Row.new w tL cs).alloc (.cells zs tI)).alloc (.cells ps tI); simpa using this
 res := by have := (Row.new (w.alloc (.cells cs tL)) tI zs).alloc (.cells ps tI); simpa using this
 cur := by have := Row.new ((w.alloc (.cells cs tL)).alloc (.cells zs tI)) tI ps; simpa using this
 bel := (((Below.refl _ _).alloc (Nat.le_refl _) _).alloc (by simp) _).alloc (by simp; omega) _
 size := by simp
theorem Only.setCell {F : List Nat} {w w' : World} {g i : Nat} (h : Only F w w') (hg : g ∈ F) (u : Value) : Only F w (w'.setCell ⟨g, i, none⟩ u) := h.trans (Only.put hg)
theorem Ow.elemR {w : World} {s : Sh} {e : TypeId} {v : Value} {F : List Nat} {D : List (Dat s)} {j : Nat} (h : Ow w (.row e s) [v] D F) (hF : F.Nodup) (hj : j < D.length) :
  ∃ g n c cur es Gj, v = .slice (some ⟨g, 0, none⟩) n c ∧ D.length = n ∧ Row w g e cur ∧ j * nc s + nc s ≤ cur.size ∧ es.length = nc s ∧ (∀ i, i < nc s → cur[j * nc s + i]? = es[i]?) ∧ Ow w s es (D.getD j (dft s)) Gj ∧ Gj.Nodup ∧ g ∉ Gj ∧ (∀ k ∈ g :: Gj, k ∈ F) ∧
   ∀ (w2 : World) (es2 : List Value) (d2 : Dat s) (cur2 : Array Value), es2.length = nc s → Row w2 g e cur2 → cur2.size = cur.size → (∀ i, i < nc s → cur2[j * nc s + i]? = es2[i]?) → (∀ q, (q < j * nc s ∨ j * nc s + nc s ≤ q) → cur2[q]? = cur[q]?) → Ow w2 s es2 d2 Gj → Only (g :: Gj) w w2 →
    Ow w2 (.row e s) [v] (D.set j d2) F := by
 obtain ⟨A, n, c, e1, hl, h1⟩ := h
 injection e1 with e1
 rcases h1 with ⟨_, e2, _⟩ | ⟨g, cur, E, G, e2, hr, h2, h3, h4, h5, h6⟩
 ·omega
 subst e1 e2 h5
 rw [List.nodup_cons] at hF
 obtain ⟨q1, q2, q3⟩ := h6 j (by omega)
 have hsz : j * nc s + nc s ≤ cur.size := by
  have := Nat.mul_le_mul_right (nc s) (show j + 1 ≤ c by omega)
  rw [Nat.add_mul] at this
  omega
 refine ⟨g, n, c, cur, E j, G j, rfl, hl, hr, hsz, q1, q2, q3, nodup_part hF.2 (by omega), fun hg => hF.1 (List.mem_flatMap.2 ⟨j, List.mem_range.2 (by omega), hg⟩),
  fun k hk => ?_, fun w2 es2 d2 cur2 hl2 hr2 hs2 hp2 hc2 ho2 hon => ?_⟩
 ·rcases List.mem_cons.1 hk with hk | hk
  ·rw [hk]; exact List.mem_cons_self ..
  ·exact List.mem_cons_of_mem _ (List.mem_flatMap.2 ⟨j, List.mem_range.2 (by omega), hk⟩)
 refine ⟨_, n, c, rfl, by simpa using hl, .inr ⟨g, cur2, fun i => if i = j then es2 else E i, G, rfl, hr2, h2, h3, by rw [hs2]; exact h4, rfl, fun i hi => ?_⟩⟩
 by_cases ei : i = j
 ·subst ei
  dsimp only
  rw [if_pos rfl]
  refine ⟨hl2, hp2, ?_⟩
  have : (D.set i d2).getD i (dft s) = d2 := by simp [List.getD, hj]
  rw [this]; exact ho2
 ·dsimp only
  rw [if_neg ei]
  obtain ⟨p1, p2, p3⟩ := h6 i hi
  refine ⟨p1, fun q hq => ?_, ?_⟩
  ·have : i * nc s + q < j * nc s ∨ j * nc s + nc s ≤ i * nc s + q := by
    rcases Nat.lt_or_ge i j with h | h
    ·left
     have := Nat.mul_le_mul_right (nc s) (show i + 1 ≤ j by omega)
     rw [Nat.add_mul] at this
     omega
    ·right
     have := Nat.mul_le_mul_right (nc s) (show j + 1 ≤ i by omega)
     rw [Nat.add_mul] at this
     omega
   rw [hc2 _ this]
   exact p2 q hq
  ·have : (D.set j d2).getD i (dft s) = D.getD i (dft s) := by simp [List.getD, List.getElem?_set_ne (show j ≠ i by omega)]
   rw [this]
   refine p3.only hon fun k hk hk2 => ?_
   rcases List.mem_cons.1 hk2 with hk2 | hk2
   ·subst hk2
    exact hF.1 (List.mem_flatMap.2 ⟨i, List.mem_range.2 hi, hk⟩)
   ·exact nodup_flat hF.2 hi (by omega) ei hk hk2
def HeadHd (w : World) (s : Sh) (D : List (Dat s)) (k : Int) (kk i : Value) (wr : World) : Prop := ∃ j : Nat, j ≤ D.length ∧ i = .int .i64 j ∧ kk = .int .i64 (k + (cnts s D j : Int)) ∧ Below w.heap.size w wr
theorem headHd_zero {w : World} {s : Sh} {D : List (Dat s)} {k : Int} : HeadHd w s D k (.int .i64 k) (.int .i64 0) w := ⟨0, Nat.zero_le _, rfl, by simp [cnts], Below.refl _ _⟩
theorem headHd_step {w w2 : World} {s : Sh} {D : List (Dat s)} {k kc : Int} {j : Nat} (hj : j < D.length) (hb : Below w.heap.size w w2) (hk : k + (cnts s D j : Int) + (cnt s (D.getD j (dft s)) : Int) = kc) : HeadHd w s D k (.int .i64 kc) (.int .i64 ((j : Int) + 1)) w2 :=
 ⟨j + 1, hj, by simp, by rw [cnts_succ hj]; exact congrArg (Value.int .i64) (by omega), hb⟩
theorem headHd_end {w wr : World} {s : Sh} {e : TypeId} {D : List (Dat s)} {k : Int} {j : Nat} (hj : ¬ j < D.length) (hj' : j ≤ D.length) (hb : Below w.heap.size w wr) : AnsHeld w (k + (cntv (.row e s) D : Int)) (.returned (.int .i64 (k + (cnts s D j : Int)))) wr := by
 have e1 : j = D.length := by omega
 subst e1
 exact ⟨by rw [cnts_all rfl]; rfl, hb⟩
end shape
end
section
open Go.Lib (hid)
namespace kindsW
open Go.RowKit base ints sig cursor marks app sym appAt segs segsHelp segsMark kinds shape
set_option maxRecDepth 100000
abbrev sStep : Sh := .cat .num (.cat .num sI)
theorem parts_Step {w : World} {B : Nat} {v0 : Value} {d : Dat sStep} (h : Rd w B sStep [.int .i64 d.1, .int .i64 d.2.1, v0] d) : Rd w B .num [.int .i64 d.1] d.1 ∧ Rd w B .num [.int .i64 d.2.1] d.2.1 ∧ Rd w B sI [v0] d.2.2 := by
 obtain ⟨p0, q0⟩ := Rd.split (ca := [.int .i64 d.1]) (cb := [.int .i64 d.2.1, v0]) h rfl
 obtain ⟨p1, q1⟩ := Rd.split (ca := [.int .i64 d.2.1]) (cb := [v0]) q0 rfl
 exact ⟨p0, p1, q1⟩
theorem join_Step {w : World} {lo hi : Nat} {v0 : Value} {d : Dat sStep} {m0 m1 m2 m3 : Nat} (o0 : Owned w m0 m1 .num [.int .i64 d.1] d.1) (o1 : Owned w m1 m2 .num [.int .i64 d.2.1] d.2.1) (o2 : Owned w m2 m3 sI [v0] d.2.2) (l0 : m0 ≤ m1) (l1 : m1 ≤ m2) (l2 : m2 ≤ m3) (hl : lo ≤ m0) (hh : m3 ≤ hi) : Owned w lo hi sStep [.int .i64 d.1, .int .i64 d.2.1, v0] d := by
 exact ((Owned.cat o0 (Owned.cat o1 o2 (Nat.le_refl _) (by omega) (by omega)) (Nat.le_refl _) (by omega) (by omega)) : Owned w m0 m3 sStep [.int .i64 d.1, .int .i64 d.2.1, v0] d).wider hl hh
theorem cells_Step {w : World} {B : Nat} {es : List Value} {d : Dat sStep} (h : Rd w B sStep es d) : ∃ (v0 : Value), es = [.int .i64 d.1, .int .i64 d.2.1, v0] := by
 obtain ⟨ca0, cb0, e0, p0, q0⟩ := h
 obtain ⟨ca1, cb1, e1, p1, q1⟩ := q0
 obtain ⟨A2, n2, c2, z2, -⟩ := q1
 exact ⟨.slice A2 n2 c2, by rw [e0, (show _ = _ from p0), e1, (show _ = _ from p1), z2] <;> rfl⟩
set_option maxHeartbeats 2000000 in
theorem szK_Step (v0 : Value) (d : Dat sStep) (left : Int) (w : World) (h : Rd w w.heap.size sStep [.int .i64 d.1, .int .i64 d.2.1, v0] d) (h0 : 0 ≤ left) (h1 : left ≤ 1048576) :
  Calls Tryz.prog 64 #[.agg #[.int .i64 d.1, .int .i64 d.2.1, v0], .int .i64 left] w (AnsSzK w left (sz sStep d)) := by
 obtain ⟨g0, g1, g2⟩ := parts_Step h
 obtain ⟨t0, ht0⟩ : ∃ t, sz sI d.2.2 = t := ⟨_, rfl⟩
 have HE : Hid (sz sStep d = t0) := hid (by rw [← ht0]; simp only [sz]; try omega)
 have HT0 := hid ht0
 have G0 := hid g2
 obtain ⟨W, hW⟩ : ∃ W, W = w.alloc (.cells #[.int .i64 d.1, .int .i64 d.2.1, v0] 107) := ⟨_, rfl⟩
 have r : Row W w.heap.size 107 #[.int .i64 d.1, .int .i64 d.2.1, v0] := by rw [hW]; exact Row.new _ _ _
 have bel : Below w.heap.size w W := by rw [hW]; exact (Below.refl _ _).alloc (Nat.le_refl _) _
 have HW := hid hW
 clear hW h g0 g1 g2 ht0
 go_enter Tryz.func64, Tryz.ntmps64
 go_wp2_with fail
 rw [← HW.out]
 refine (szK_ints _ _ left W (G0.out.next bel) h0 h1).mono ?_
 rintro e w1 ⟨he, bb⟩
 rw [HT0.out] at he
 replace r := r.next bb
 replace bel := next_trans bel bb
 clear bb
 by_cases q0 : left - (t0 : Int) < 0
 ·rw [if_pos q0] at he
  subst he
  have F : AnsSzK w left (sz sStep d) (.returned (.int .i64 (-1))) w1 := ⟨by rw [HE.out, if_pos (by omega)], bel⟩
  have HF := hid F
  clear F bel r
  go_wp2
  go_ret
  exact HF.out
 rw [if_neg q0] at he
 obtain ⟨l0, hl0⟩ : ∃ l, left - (t0 : Int) = l := ⟨_, rfl⟩
 rw [hl0] at he
 have a0 : 0 ≤ l0 := by omega
 have b0 : l0 ≤ 1048576 := by omega
 have HL0 := hid hl0
 clear hl0 q0
 subst he
 have F : AnsSzK w left (sz sStep d) (.returned (.int .i64 l0)) w1 := ⟨by have := HL0.out; rw [HE.out, if_neg (by omega)]; exact congrArg (fun z => Ending.returned (.int .i64 z)) (by omega), bel⟩
 have HF := hid F
 clear F bel r
 go_wp2
 go_ret
 exact HF.out
def CopyStep (w : World) (d : Dat sStep) (e : Ending) (w' : World) : Prop := ∃ A0 n0 c0, e = .returned (.agg #[.int .i64 d.1, .int .i64 d.2.1, .slice A0 n0 c0]) ∧ Owned w' w.heap.size w'.heap.size sStep [.int .i64 d.1, .int .i64 d.2.1, .slice A0 n0 c0] d ∧ Below w.heap.size w w'
set_option maxHeartbeats 2000000 in
theorem toK_Step (v0 : Value) (d : Dat sStep) (w : World) (h : Rd w w.heap.size sStep [.int .i64 d.1, .int .i64 d.2.1, v0] d) (hz : sz sStep d ≤ 1048576) :
  Calls Tryz.prog 72 #[.agg #[.int .i64 d.1, .int .i64 d.2.1, v0]] w (CopyStep w d) := by
 obtain ⟨g0, g1, g2⟩ := parts_Step h
 have cp0 := CpS.init w 107 71 #[.int .i64 d.1, .int .i64 d.2.1, v0] #[.int .i64 0, .int .i64 0, .slice none 0 0] #[.int .i64 d.1, .int .i64 d.2.1, .slice none 0 0]
 obtain ⟨W, hW⟩ : ∃ W, W = ((w.alloc (.cells #[.int .i64 d.1, .int .i64 d.2.1, v0] 107)).alloc (.cells #[.int .i64 0, .int .i64 0, .slice none 0 0] 71)).alloc (.cells #[.int .i64 d.1, .int .i64 d.2.1, .slice none 0 0] 71) := ⟨_, rfl⟩
 rw [← hW] at cp0
 have HW := hid hW
 have G2 := hid g2
 have Z2 : Hid (sz sI d.2.2 ≤ 1048576) := hid (by have := hz; simp only [sz] at this ⊢; omega)
 clear hW hz h g0 g1 g2
 go_enter Tryz.func72, Tryz.ntmps72
 go_wp2_with fail
 rw [← HW.out]
 refine (toK_ints _ _ _ ((G2.out.below cp0.bel).more cp0.bel.size) Z2.out).mono ?_
 rintro e w1 ⟨x2A0, x2n0, x2c0, rfl, o2, bb⟩
 have zb2 := bb.size
 have zc2 := cp0.size
 replace cp0 := cp0.next bb
 clear bb
 have f2_0 : w1.frozen? ⟨w.heap.size + 1 + 1, 2, none⟩ = false := cp0.cur.free 2
 have k2_0 : w1.cell? ⟨w.heap.size + 1 + 1, 2, none⟩ = some (.slice none 0 0) := cp0.cur.cell 2
 obtain ⟨w2, hw2⟩ : ∃ x, x = (w1.setCell ⟨w.heap.size + 1 + 1, 2, none⟩ (.slice x2A0 x2n0 x2c0)) := ⟨_, rfl⟩
 replace o2 := o2.put (g := w.heap.size + 1 + 1) (i := 2) (u := .slice x2A0 x2n0 x2c0) (by omega)
 rw [← hw2] at o2
 replace cp0 : CpS w 107 71 #[.int .i64 d.1, .int .i64 d.2.1, v0] #[.int .i64 0, .int .i64 0, .slice none 0 0] #[.int .i64 d.1, .int .i64 d.2.1, .slice x2A0 x2n0 x2c0] w2 := by rw [hw2]; exact (CpS.put cp0 2 (.slice x2A0 x2n0 x2c0))
 have zw2 : w2.heap.size = w1.heap.size := by rw [hw2]; simp
 have HW2 := hid hw2
 clear hw2
 have y0 : w2.cell? ⟨w.heap.size + 1 + 1, 0, none⟩ = some (.int .i64 d.1) := cp0.cur.cell 0
 rw [HW2.out] at y0
 have y1 : w2.cell? ⟨w.heap.size + 1 + 1, 1, none⟩ = some (.int .i64 d.2.1) := cp0.cur.cell 1
 rw [HW2.out] at y1
 have y2 : w2.cell? ⟨w.heap.size + 1 + 1, 2, none⟩ = some (.slice x2A0 x2n0 x2c0) := cp0.cur.cell 2
 rw [HW2.out] at y2
 have s0 : (w2).cell? ⟨w.heap.size + 1, 0, none⟩ = some (.int .i64 0) := cp0.res.cell 0
 rw [HW2.out] at s0
 have r0 : (w2).frozen? ⟨w.heap.size + 1, 0, none⟩ = false := cp0.res.free 0
 rw [HW2.out] at r0
 have s1 : ((w2.setCell ⟨w.heap.size + 1, 0, none⟩ (.int .i64 d.1))).cell? ⟨w.heap.size + 1, 1, none⟩ = some (.int .i64 0) := (CpS.fin cp0 0 (.int .i64 d.1)).res.cell 1
 rw [HW2.out] at s1
 have r1 : ((w2.setCell ⟨w.heap.size + 1, 0, none⟩ (.int .i64 d.1))).frozen? ⟨w.heap.size + 1, 1, none⟩ = false := (CpS.fin cp0 0 (.int .i64 d.1)).res.free 1
 rw [HW2.out] at r1
 have s2 : (((w2.setCell ⟨w.heap.size + 1, 0, none⟩ (.int .i64 d.1)).setCell ⟨w.heap.size + 1, 1, none⟩ (.int .i64 d.2.1))).cell? ⟨w.heap.size + 1, 2, none⟩ = some (.slice none 0 0) := (CpS.fin (CpS.fin cp0 0 (.int .i64 d.1)) 1 (.int .i64 d.2.1)).res.cell 2
 rw [HW2.out] at s2
 have r2 : (((w2.setCell ⟨w.heap.size + 1, 0, none⟩ (.int .i64 d.1)).setCell ⟨w.heap.size + 1, 1, none⟩ (.int .i64 d.2.1))).frozen? ⟨w.heap.size + 1, 2, none⟩ = false := (CpS.fin (CpS.fin cp0 0 (.int .i64 d.1)) 1 (.int .i64 d.2.1)).res.free 2
 rw [HW2.out] at r2
 have o0 := Owned.num w2 (W.heap.size) (W.heap.size) d.1
 have o1 := Owned.num w2 (W.heap.size) (W.heap.size) d.2.1
 have oo : Owned w2 (w.heap.size + 1 + 1 + 1) w2.heap.size sStep [.int .i64 d.1, .int .i64 d.2.1, .slice x2A0 x2n0 x2c0] d := join_Step (m0 := W.heap.size) (m1 := W.heap.size) (m2 := W.heap.size) (m3 := w2.heap.size) o0 o1 (o2.wider (Nat.le_refl _) (by omega)) (by omega) (by omega) (by omega) (by omega) (by omega)
 have F : CopyStep w d (.returned (.agg #[.int .i64 d.1, .int .i64 d.2.1, .slice x2A0 x2n0 x2c0])) (((w2.setCell ⟨w.heap.size + 1, 0, none⟩ (.int .i64 d.1)).setCell ⟨w.heap.size + 1, 1, none⟩ (.int .i64 d.2.1)).setCell ⟨w.heap.size + 1, 2, none⟩ (.slice x2A0 x2n0 x2c0)) := ⟨x2A0, x2n0, x2c0, rfl, Owned.wider ((((oo.put (g := w.heap.size + 1) (i := 0) (u := .int .i64 d.1) (by omega)).put (g := w.heap.size + 1) (i := 1) (u := .int .i64 d.2.1) (by omega)).put (g := w.heap.size + 1) (i := 2) (u := .slice x2A0 x2n0 x2c0) (by omega))) (by omega) (by simp), ((CpS.fin (CpS.fin (CpS.fin cp0 0 (.int .i64 d.1)) 1 (.int .i64 d.2.1)) 2 (.slice x2A0 x2n0 x2c0))).bel⟩
 have u0 : ((((w2.setCell ⟨w.heap.size + 1, 0, none⟩ (.int .i64 d.1)).setCell ⟨w.heap.size + 1, 1, none⟩ (.int .i64 d.2.1)).setCell ⟨w.heap.size + 1, 2, none⟩ (.slice x2A0 x2n0 x2c0))).cell? ⟨w.heap.size + 1, 0, none⟩ = some (.int .i64 d.1) := (CpS.fin (CpS.fin (CpS.fin cp0 0 (.int .i64 d.1)) 1 (.int .i64 d.2.1)) 2 (.slice x2A0 x2n0 x2c0)).res.cell 0
 rw [HW2.out] at u0
 have u1 : ((((w2.setCell ⟨w.heap.size + 1, 0, none⟩ (.int .i64 d.1)).setCell ⟨w.heap.size + 1, 1, none⟩ (.int .i64 d.2.1)).setCell ⟨w.heap.size + 1, 2, none⟩ (.slice x2A0 x2n0 x2c0))).cell? ⟨w.heap.size + 1, 1, none⟩ = some (.int .i64 d.2.1) := (CpS.fin (CpS.fin (CpS.fin cp0 0 (.int .i64 d.1)) 1 (.int .i64 d.2.1)) 2 (.slice x2A0 x2n0 x2c0)).res.cell 1
 rw [HW2.out] at u1
 have u2 : ((((w2.setCell ⟨w.heap.size + 1, 0, none⟩ (.int .i64 d.1)).setCell ⟨w.heap.size + 1, 1, none⟩ (.int .i64 d.2.1)).setCell ⟨w.heap.size + 1, 2, none⟩ (.slice x2A0 x2n0 x2c0))).cell? ⟨w.heap.size + 1, 2, none⟩ = some (.slice x2A0 x2n0 x2c0) := (CpS.fin (CpS.fin (CpS.fin cp0 0 (.int .i64 d.1)) 1 (.int .i64 d.2.1)) 2 (.slice x2A0 x2n0 x2c0)).res.cell 2
 rw [HW2.out] at u2
 rw [HW2.out] at F
 have HF := hid F
 clear F oo cp0 o2
 go_wp2
 exact bodyPost_ret (v := .agg #[.int .i64 d.1, .int .i64 d.2.1, .slice x2A0 x2n0 x2c0]) (by simp [results, Tryz.results72, go_sem, u0, u1, u2]) rfl HF.out
set_option maxHeartbeats 2000000 in
theorem eqK_Step (v0 u0 : Value) (d : Dat sStep) (w : World) (h : Rd w w.heap.size sStep [.int .i64 d.1, .int .i64 d.2.1, v0] d) (h' : Rd w w.heap.size sStep [.int .i64 d.1, .int .i64 d.2.1, u0] d) (hz : sz sStep d ≤ 1048576) :
  Calls Tryz.prog 80 #[.agg #[.int .i64 d.1, .int .i64 d.2.1, v0], .agg #[.int .i64 d.1, .int .i64 d.2.1, u0]] w (Yes w) := by
 obtain ⟨g0, g1, g2⟩ := parts_Step h
 obtain ⟨g0', g1', g2'⟩ := parts_Step h'
 obtain ⟨W, hW⟩ : ∃ W, W = (w.alloc (.cells #[.int .i64 d.1, .int .i64 d.2.1, v0] 71)).alloc (.cells #[.int .i64 d.1, .int .i64 d.2.1, u0] 71) := ⟨_, rfl⟩
 have ra : Row W w.heap.size 71 #[.int .i64 d.1, .int .i64 d.2.1, v0] := by rw [hW]; exact (Row.new w 71 #[.int .i64 d.1, .int .i64 d.2.1, v0]).alloc _
 have rb : Row W (w.heap.size + 1) 71 #[.int .i64 d.1, .int .i64 d.2.1, u0] := by rw [hW]; have := Row.new (w.alloc (.cells #[.int .i64 d.1, .int .i64 d.2.1, v0] 71)) 71 #[.int .i64 d.1, .int .i64 d.2.1, u0]; simpa using this
 have bel : Below w.heap.size w W := by rw [hW]; exact ((Below.refl _ _).alloc (Nat.le_refl _) _).alloc (by simp) _
 have HW := hid hW
 have G2 := hid g2
 have G2' := hid g2'
 have Z2 : Hid (sz sI d.2.2 ≤ 1048576) := hid (by have := hz; simp only [sz] at this ⊢; omega)
 clear hW hz h h' g0 g0' g1 g1' g2 g2'
 go_enter Tryz.func80, Tryz.ntmps80
 go_wp2_with fail
 rw [← HW.out]
 refine (eqK_ints _ _ _ W (G2.out.next bel) (G2'.out.next bel) Z2.out).mono ?_
 rintro e w1 ⟨rfl, bb⟩
 replace ra := ra.next bb
 replace rb := rb.next bb
 replace bel := next_trans bel bb
 clear bb
 have F : Yes w (.returned (.bool true)) w1 := ⟨rfl, bel⟩
 have HF := hid F
 clear F ra rb bel
 go_wp2
 go_ret
 exact HF.out
abbrev sStepS : Sh := .row 71 sStep
theorem info_StepS : (Tryz.prog.info? 71).map (fun i => (i.zero, i.size, i.bytes)) = some (some (.agg #[.int .i64 0, .int .i64 0, .slice none 0 0]), 3, 40) := by kernel_rfl
theorem make_StepS (n : Nat) (hn : n ≤ 1048576) (W : World) : (Instr.makeSlice 37 (.int .i64 (n : Int)) (.int .i64 (n : Int))).run Tryz.prog W =
  .ok (.slice (some ⟨W.heap.size, 0, none⟩) n n) (W.alloc (.cells (madeCells #[.int .i64 0, .int .i64 0, .slice none 0 0] (n * 3)) 71)) := by
 obtain ⟨i0, hi, hz0, hz1, hz2⟩ := info_parts info_StepS
 have hr := run_make (P := Tryz.prog) W 37 71 i0 _ Tryz.underlying37 hi hz0 .i64 .i64 n n (by omega) (by omega) (by rw [hz2]; omega) (by omega)
 simpa [hz1, Value.cells] using hr
set_option maxHeartbeats 2000000 in
theorem toK_StepS (v : Value) (D : List (Dat sStep)) (w : World) (h : Rd w w.heap.size sStepS [v] D) (hz : sz sStepS D ≤ 1048576) :
  Calls Tryz.prog 36 #[v] w (Copy1 w sStepS D) := by
 obtain ⟨A, c, rfl, hcap⟩ := h.slice
 obtain ⟨n, hn⟩ : ∃ n, D.length = n := ⟨_, rfl⟩
 have hn1 : n ≤ 1048576 := by rw [← hn]; exact sz_len hz
 rw [hn] at h hcap ⊢
 have HN := hid hn
 have H := hid h
 have HZ := hid hz
 clear hcap hn h hz
 have hmk := make_StepS n hn1
 have S0 := hid (headCp_zero (s := sStep) (e := 71) (w := w) (n := n) (D := D) (cs := madeCells #[.int .i64 0, .int .i64 0, .slice none 0 0] (n * 3)) (size_madeCells _ _))
 go_enter Tryz.func36, Tryz.ntmps36
 go_wp2
 clear hmk
 go_loopw [4] (fun i wr => HeadCp w 71 sStep n D i wr) (fun i _ => n - (intOf i).toNat)
 case atStart => exact S0.out
 case round =>
  obtain ⟨k, ks, E, G, hk, rfl, hr, hs, hnd, hi, hb⟩ := hrel
  clear S0
  by_cases hlt : k < n
  ·have hkD : k < D.length := by rw [HN.out]; exact hlt
   obtain ⟨b, off, n2, c2, es, ev, -, -, hbB, hel, hp, hrd⟩ := H.out.elem hkD
   injection ev with e1 e2 e3
   subst e1 e2 e3
   obtain ⟨y, hy⟩ : ∃ y, D.getD k (dft sStep) = y := ⟨_, rfl⟩
   rw [hy] at hrd
   have HY := hid hy
   clear hy
   obtain ⟨v0, rfl⟩ := cells_Step hrd
   have hpw := hp.keep (w' := wr) (fun p hp => hb.cell (p := p) (by rw [hp]; exact hbB))
   have c0 : wr.cell? ⟨b, off + k * 3, none⟩ = some (.int .i64 y.1) := hpw 0 (by simp)
   have c1 : wr.cell? ⟨b, off + k * 3 + 1, none⟩ = some (.int .i64 y.2.1) := hpw 1 (by simp)
   have c2 : wr.cell? ⟨b, off + k * 3 + 2, none⟩ = some (v0) := hpw 2 (by simp)
   have L := hid (toK_Step _ y wr ((hrd.below hb).more hb.size) (by rw [← HY.out]; exact sz_each HZ.out hkD))
   have R := hid (fun w1 xA0 xn0 xc0 (ho : Owned w1 wr.heap.size w1.heap.size sStep [.int .i64 y.1, .int .i64 y.2.1, .slice xA0 xn0 xc0] y) bb => headCp_step (w1 := w1) (es := [.int .i64 y.1, .int .i64 y.2.1, .slice xA0 xn0 xc0]) hlt hr hs hnd hi hb (by rw [HY.out]; exact ho) bb)
   have rr := hr
   have hsz : ks.size = n * 3 := hs
   have HS := hid hsz
   clear hr hs hnd hi hb hrd hel hp hpw hsz
   go_wp2_with fail
   refine L.out.mono ?_
   rintro e w1 ⟨xA0, xn0, xc0, rfl, ho, bb⟩
   have S := hid (R.out w1 xA0 xn0 xc0 ho bb)
   have rr1 := rr.next bb
   obtain ⟨u0, hu0⟩ : ∃ u, w1.cell? ⟨w.heap.size, k * 3, none⟩ = some u := ⟨_, (rr1.cell _).trans (Array.getElem?_eq_getElem (by rw [HS.out]; omega))⟩
   have hf0 : w1.frozen? ⟨w.heap.size, k * 3, none⟩ = false := rr1.free _
   obtain ⟨u1, hu1⟩ : ∃ u, w1.cell? ⟨w.heap.size, k * 3 + 1, none⟩ = some u := ⟨_, (rr1.cell _).trans (Array.getElem?_eq_getElem (by rw [HS.out]; omega))⟩
   have hf1 : w1.frozen? ⟨w.heap.size, k * 3 + 1, none⟩ = false := rr1.free _
   obtain ⟨u2, hu2⟩ : ∃ u, w1.cell? ⟨w.heap.size, k * 3 + 2, none⟩ = some u := ⟨_, (rr1.cell _).trans (Array.getElem?_eq_getElem (by rw [HS.out]; omega))⟩
   have hf2 : w1.frozen? ⟨w.heap.size, k * 3 + 2, none⟩ = false := rr1.free _
   clear ho bb rr rr1 L R
   go_wp2
   go_roundw
   case rel => exact S.out
   case measure => simp [intOf]; omega
  ·have e1 : k = n := by omega
   subst e1
   have F := hid (headCp_end HN.out hn1 hr hs hnd hi hb)
   clear hr hs hnd hi hb
   go_wp2
   go_ret
   exact F.out
set_option maxHeartbeats 2000000 in
theorem eqK_StepS (v u : Value) (D : List (Dat sStep)) (w : World) (h : Rd w w.heap.size sStepS [v] D) (h' : Rd w w.heap.size sStepS [u] D) (hz : sz sStepS D ≤ 1048576) :
  Calls Tryz.prog 45 #[v, u] w (Yes w) := by
 obtain ⟨A, c, rfl, hcap⟩ := h.slice
 obtain ⟨A', c', rfl, hcap'⟩ := h'.slice
 obtain ⟨n, hn⟩ : ∃ n, D.length = n := ⟨_, rfl⟩
 have hn1 : n ≤ 1048576 := by rw [← hn]; exact sz_len hz
 rw [hn] at h h' hcap hcap' ⊢
 have HN := hid hn
 have H := hid h
 have H' := hid h'
 have HZ := hid hz
 clear hcap hcap' hn h h' hz
 go_enter Tryz.func45, Tryz.ntmps45
 go_wp2
 go_loopw [5] (fun i wr => ∃ k : Nat, k ≤ n ∧ i = .int .i64 k ∧ Below w.heap.size w wr) (fun i _ => n - (intOf i).toNat)
 case atStart => exact ⟨0, Nat.zero_le _, rfl, Below.refl _ _⟩
 case round =>
  obtain ⟨k, hk, rfl, hb⟩ := hrel
  by_cases hlt : k < n
  ·have hkD : k < D.length := by rw [HN.out]; exact hlt
   obtain ⟨b, off, n2, c2, es, ev, -, -, hbB, hel, hp, hrd⟩ := H.out.elem hkD
   injection ev with e1 e2 e3
   subst e1 e2 e3
   obtain ⟨b', off', n2, c2, es', ev, -, -, hbB', hel', hp', hrd'⟩ := H'.out.elem hkD
   injection ev with e1 e2 e3
   subst e1 e2 e3
   obtain ⟨y, hy⟩ : ∃ y, D.getD k (dft sStep) = y := ⟨_, rfl⟩
   rw [hy] at hrd hrd'
   have HY := hid hy
   clear hy
   obtain ⟨v0, rfl⟩ := cells_Step hrd
   obtain ⟨u0, rfl⟩ := cells_Step hrd'
   replace hb := hb.drew
   have hpw := hp.keep (w' := wr.drew) (fun p hp => hb.cell (p := p) (by rw [hp]; exact hbB))
   have hpw' := hp'.keep (w' := wr.drew) (fun p hp => hb.cell (p := p) (by rw [hp]; exact hbB'))
   have c0 : wr.drew.cell? ⟨b, off + k * 3, none⟩ = some (.int .i64 y.1) := hpw 0 (by simp)
   have c0' : wr.drew.cell? ⟨b', off' + k * 3, none⟩ = some (.int .i64 y.1) := hpw' 0 (by simp)
   have c1 : wr.drew.cell? ⟨b, off + k * 3 + 1, none⟩ = some (.int .i64 y.2.1) := hpw 1 (by simp)
   have c1' : wr.drew.cell? ⟨b', off' + k * 3 + 1, none⟩ = some (.int .i64 y.2.1) := hpw' 1 (by simp)
   have c2 : wr.drew.cell? ⟨b, off + k * 3 + 2, none⟩ = some (v0) := hpw 2 (by simp)
   have c2' : wr.drew.cell? ⟨b', off' + k * 3 + 2, none⟩ = some (u0) := hpw' 2 (by simp)
   have L := hid (eqK_Step _ _ y wr.drew ((hrd.below hb).more hb.size) ((hrd'.below hb).more hb.size) (by rw [← HY.out]; exact sz_each HZ.out hkD))
   have HB := hid hb
   have hlb : b < wr.drew.heap.size := Nat.lt_of_lt_of_le hbB hb.size
   have hlb' : b' < wr.drew.heap.size := Nat.lt_of_lt_of_le hbB' hb.size
   clear hrd hrd' hel hel' hp hp' hpw hpw' hb
   go_wp2_with fail
   go_region_held3 (fun w' => w'.cell? ⟨b, off + k * 3, none⟩ = some (.int .i64 y.1) ∧ w'.cell? ⟨b', off' + k * 3, none⟩ = some (.int .i64 y.1) ∧ w'.cell? ⟨b, off + k * 3 + 1, none⟩ = some (.int .i64 y.2.1) ∧ w'.cell? ⟨b', off' + k * 3 + 1, none⟩ = some (.int .i64 y.2.1) ∧ w'.cell? ⟨b, off + k * 3 + 2, none⟩ = some (v0) ∧ w'.cell? ⟨b', off' + k * 3 + 2, none⟩ = some (u0))
    (go_keep)
    (first | (go_at_call 80; refine L.out.mono ?_; rintro e w1 ⟨rfl, bb⟩; have m0 := (bb.cell (p := ⟨b, off + k * 3, none⟩) hlb).trans c0; have m1 := (bb.cell (p := ⟨b', off' + k * 3, none⟩) hlb').trans c0'; have m2 := (bb.cell (p := ⟨b, off + k * 3 + 1, none⟩) hlb).trans c1; have m3 := (bb.cell (p := ⟨b', off' + k * 3 + 1, none⟩) hlb').trans c1'; have m4 := (bb.cell (p := ⟨b, off + k * 3 + 2, none⟩) hlb).trans c2; have m5 := (bb.cell (p := ⟨b', off' + k * 3 + 2, none⟩) hlb').trans c2'))
   have HB1 := hid (next_trans HB.out bb)
   clear bb L c0 c0' c1 c1' c2 c2' m0 m1 m2 m3 m4 m5
   go_wp2
   go_roundw
   case rel => exact ⟨k + 1, hlt, by simp, HB1.out⟩
   case measure => simp [intOf]; omega
  ·have HB := hid hb
   clear hb
   go_wp2
   go_ret
   exact ⟨rfl, HB.out⟩
set_option maxHeartbeats 2000000 in
theorem markK_StepS (v : Value) (D : List (Dat sStep)) (k : Int) (F : List Nat) (w : World) (h : Ow w sStepS [v] D F) (hF : F.Nodup) (hz : sz sStepS D ≤ 1048576) (hk0 : 0 ≤ k) (hk : k + (cntv sStepS D : Int) ≤ 1099511627776) :
  Calls Tryz.prog 51 #[v, .int .i64 k] w (AnsMarkF w sStepS [v] D k F) := by
 obtain ⟨A, c, rfl, hcap⟩ := h.rd.slice
 have hn1 := sz_len hz
 obtain ⟨n, hn⟩ : ∃ n, D.length = n := ⟨_, rfl⟩
 rw [hn] at h hcap hn1 ⊢
 have HN := hid hn
 have HZ := hid hz
 have S0 := hid (headMk_zero (k := k) h)
 clear h hcap hn hz
 go_enter Tryz.func51, Tryz.ntmps51
 go_wp2
 go_loopw [1, 5] (fun kk i wr => HeadMk w 71 sStep (.slice A n c) D k F kk i wr) (fun _ i _ => n - (intOf i).toNat)
 case atStart => exact S0.out
 case round =>
  obtain ⟨j, hj, rfl, rfl, ho, hb⟩ := hrel
  clear S0
  rw [HN.out] at hj
  by_cases hlt : j < n
  ·have hjD : j < D.length := by rw [HN.out]; exact hlt
   obtain ⟨g, n2, c2, cur, es, Gj, ev, -, hr, hsz, hel, hcur, oe, ng, gG, sub, R⟩ := ho.elemR hF (j := j) (by rw [mixed_len]; exact hjD)
   injection ev with e1 e2 e3
   subst e1 e2 e3
   obtain ⟨y, hy⟩ : ∃ y, D.getD j (dft sStep) = y := ⟨_, rfl⟩
   rw [mixed_get hjD, hy] at oe
   have HY := hid hy
   clear hy
   obtain ⟨v0, rfl⟩ := cells_Step oe.rd
   obtain ⟨F0, R0, eF0, o0, q0⟩ := Ow.split (ca := [.int .i64 y.1]) (cb := [.int .i64 y.2.1, v0]) oe rfl
   obtain ⟨F1, R1, eF1, o1, o2⟩ := Ow.split (ca := [.int .i64 y.2.1]) (cb := [v0]) q0 rfl
   rw [eF0] at ng
   obtain ⟨n0, nr0, x0, y0⟩ := dis_app ng
   rw [eF1] at nr0
   obtain ⟨n1, nr1, x1, y1⟩ := dis_app nr0
   rw [eF1] at x0 y0
   obtain ⟨x0_1, x0_1r⟩ := dis_l x0
   obtain ⟨y0_1, y0_1r⟩ := dis_r y0
   have g2 : g ∉ R1 := fun hb => gG (by rw [eF0, eF1]; exact (List.mem_append_right _ (List.mem_append_right _ hb)))
   have sub2 : ∀ x ∈ R1, x ∈ g :: Gj := fun x hb => List.mem_cons_of_mem _ (by rw [eF0, eF1]; exact (List.mem_append_right _ (List.mem_append_right _ hb)))
   have hgs : g ∈ g :: Gj := List.mem_cons_self ..
   obtain ⟨z0, hz0⟩ : ∃ z : Nat, 1 = z := ⟨_, rfl⟩
   obtain ⟨z1, hz1⟩ : ∃ z : Nat, 1 = z := ⟨_, rfl⟩
   obtain ⟨z2, hz2⟩ : ∃ z, cntv sI y.2.2 = z := ⟨_, rfl⟩
   have hzz : cnt sStep y = 1 + (1 + (z2)) := by rw [← hz2]; rfl
   have hcn := headMk_cnt (e := 71) hjD
   rw [HY.out, hzz] at hcn
   obtain ⟨q, hq⟩ : ∃ q, k + (cnts sStep D j : Int) = q := ⟨_, rfl⟩
   have q0 : 0 ≤ q := by omega
   have q1 : q + 2 + (z2 : Int) ≤ 1099511627776 := by have : (cntv sStepS D : Int) = (cntv (.row 71 sStep) D : Nat) := rfl; omega
   have Z2 : Hid (sz sI y.2.2 ≤ 1048576) := hid (by have := sz_each HZ.out hjD; rw [HY.out] at this; simp only [sz] at this ⊢; omega)
   have HZ2 := hid hz2
   rw [hq]
   have HEF : Hid (Gj = F0 ++ (F1 ++ R1)) := hid (by rw [eF0, eF1])
   have HR := hid R
   have HB := hid hb
   have HQ := hid hq
   have HZZ := hid hzz
   have SUB := hid sub
   have HCUR := hid hcur
   have HSZ := hid hsz
   have hs0 : j * 3 + 3 ≤ cur.size := HSZ.out
   have c0 : wr.cell? ⟨g, j * 3, none⟩ = some (.int .i64 y.1) := by rw [hr.cell]; simpa [nc] using hcur 0 (by simp [nc])
   have c1 : wr.cell? ⟨g, j * 3 + 1, none⟩ = some (.int .i64 y.2.1) := by rw [hr.cell]; simpa [nc] using hcur 1 (by simp [nc])
   have c2 : wr.cell? ⟨g, j * 3 + 2, none⟩ = some (v0) := by rw [hr.cell]; simpa [nc] using hcur 2 (by simp [nc])
   have fz : wr.frozen? ⟨g, j * 3, none⟩ = false := hr.free _
   have c1_s : ((wr.setCell ⟨g, j * 3, none⟩ (.int .i64 q))).cell? ⟨g, j * 3 + 1, none⟩ = some (.int .i64 y.2.1) := by rw [((Row.put hr (j * 3) (.int .i64 q))).cell]; simp only [Array.getElem?_setIfInBounds]; rw [if_neg (by omega)]; rw [← hr.cell]; exact c1
   have fz1 : ((wr.setCell ⟨g, j * 3, none⟩ (.int .i64 q))).frozen? ⟨g, j * 3 + 1, none⟩ = false := ((Row.put hr (j * 3) (.int .i64 q))).free _
   have c2_r : (((wr.setCell ⟨g, j * 3, none⟩ (.int .i64 q)).setCell ⟨g, j * 3 + 1, none⟩ (.int .i64 (q + 1)))).cell? ⟨g, j * 3 + 2, none⟩ = some (v0) := by rw [((Row.put (Row.put hr (j * 3) (.int .i64 q)) (j * 3 + 1) (.int .i64 (q + 1)))).cell]; simp only [Array.getElem?_setIfInBounds]; rw [if_neg (by omega), if_neg (by omega)]; rw [← hr.cell]; exact c2
   obtain ⟨ws, hws⟩ : ∃ x, x = ((wr.setCell ⟨g, j * 3, none⟩ (.int .i64 q)).setCell ⟨g, j * 3 + 1, none⟩ (.int .i64 (q + 1))) := ⟨_, rfl⟩
   have r : Row ws g 71 ((cur.setIfInBounds (j * 3) (.int .i64 q)).setIfInBounds (j * 3 + 1) (.int .i64 (q + 1))) := by rw [hws]; exact (Row.put (Row.put hr (j * 3) (.int .i64 q)) (j * 3 + 1) (.int .i64 (q + 1)))
   have on : Only (g :: Gj) wr ws := by rw [hws]; exact (Only.setCell (Only.setCell (Only.refl (g :: Gj) wr) hgs (.int .i64 q)) hgs (.int .i64 (q + 1)))
   replace o2 : Ow ws sI [v0] y.2.2 R1 := by rw [hws]; exact o2.keep fun y hy => by have hyg : y ≠ g := fun e => g2 (e ▸ hy); rw [Below.heap_setCell _ _ _ y hyg, Below.heap_setCell _ _ _ y hyg]
   have HWS := hid hws
   clear R hb hq hzz hcn ho oe sub hel gG hws hcur hsz hr hz0 hz1 hz2 eF0 eF1
   go_wp2_with fail
   rw [← HWS.out]
   clear c0 c1 c2 fz c1_s fz1 c2_r
   refine (markK_ints _ _ (q + 1 + 1) R1 _ o2 Z2.out (by omega) (by omega)).mono ?_
   rintro e w3 ⟨he, o2, on2⟩
   rw [HZ2.out] at he
   replace r := Row.only r on2 g2
   replace on := on.trans (on2.wider sub2)
   clear on2
   obtain ⟨k2, hk2⟩ : ∃ l, q + 1 + 1 + (z2 : Int) = l := ⟨_, rfl⟩
   rw [hk2] at he
   have l2 : 0 ≤ k2 := by omega
   have u2 : k2  ≤ 1099511627776 := by omega
   subst he
   have HK2 := hid hk2
   clear hk2
   have S : HeadMk w 71 sStep (.slice (some ⟨g, 0, none⟩) n c) D k F (.int .i64 k2) (.int .i64 ((j : Int) + 1)) w3 := by
    have h1 := HR.out w3 [.int .i64 q, .int .i64 (q + 1), v0] (mkc sStep q y) ((cur.setIfInBounds (j * 3) (.int .i64 q)).setIfInBounds (j * 3 + 1) (.int .i64 (q + 1))) rfl r (by simp) (fun i hi => ?_) (fun i hi => ?_) (by rw [HEF.out]; exact (Ow.join (o0.num (w' := w3) (q)) (Ow.join (o1.num (w' := w3) (q + 1)) o2))) on
    rotate_left
    ·have hi : i < 3 := hi
     have h0 := HCUR.out i hi
     have hn : nc sStep = 3 := rfl
     rw [hn] at h0 ⊢
     have hcases : i = 0 ∨ i = 1 ∨ i = 2 := by omega
     rcases hcases with rfl | rfl | rfl
     all_goals simp only [Array.getElem?_setIfInBounds, Array.size_setIfInBounds]
     ·rw [if_neg (show ¬ (j * 3 + 1 = j * 3 + 0) by omega), if_pos (show j * 3 = j * 3 + 0 by omega), if_pos (show j * 3 < cur.size by omega)]; rfl
     ·rw [if_pos True.intro, if_pos (show j * 3 + 1 < cur.size by omega)]; rfl
     ·rw [if_neg (by omega), if_neg (by omega)]; exact h0
    ·have hi : i < j * 3 ∨ j * 3 + 3 ≤ i := hi
     simp only [Array.getElem?_setIfInBounds]
     rw [if_neg (by omega), if_neg (by omega)]
    have h2 := headMk_step (z := 1 + (1 + (z2))) hjD HB.out (on.wider SUB.out) (by rw [HY.out]; exact HZZ.out) (by rw [HQ.out, HY.out]) h1
    have h3 : k + (cnts sStep D j : Int) + ((1 + (1 + (z2)) : Nat) : Int) = k2 := by have := HQ.out; have := HK2.out; omega
    rw [h3] at h2
    exact h2
   have HS := hid S
   clear S on r o0 o1 o2 
   go_wp2
   go_roundw
   case rel => exact HS.out
   case measure => simp [intOf]; omega
  ·have F1 := hid (headMk_end (by rw [HN.out]; exact hlt) (by rw [HN.out]; exact hj) ho hb)
   clear ho hb
   generalize cnts sStep D j = z at *
   go_wp2
   go_ret
   exact F1.out
set_option maxHeartbeats 2000000 in
theorem heldK_StepS (v : Value) (D : List (Dat sStep)) (k : Int) (w : World) (h : Rd w w.heap.size sStepS [v] (mkv sStepS k D)) (hz : sz sStepS D ≤ 1048576) (hk0 : 0 ≤ k) (hk : k + (cntv sStepS D : Int) ≤ 1099511627776) :
  Calls Tryz.prog 54 #[v, .int .i64 k] w (AnsHeld w (k + (cntv sStepS D : Int))) := by
 obtain ⟨A, c, rfl, hcap⟩ := h.slice
 have hn1 := sz_len hz
 have hml : List.length (mkv sStepS k D : List (Dat sStep)) = D.length := mk_len
 rw [hml] at h hcap ⊢
 have HML := hid hml
 clear hml
 obtain ⟨n, hn⟩ : ∃ n, D.length = n := ⟨_, rfl⟩
 rw [hn] at h hcap hn1 ⊢
 have HN := hid hn
 have HZ := hid hz
 have H := hid h
 clear h hcap hn hz
 go_enter Tryz.func54, Tryz.ntmps54
 go_wp2
 go_loopw [1, 5] (fun kk i wr => HeadHd w sStep D k kk i wr) (fun _ i _ => n - (intOf i).toNat)
 case atStart => exact headHd_zero
 case round =>
  obtain ⟨j, hj, rfl, rfl, hb⟩ := hrel
  rw [HN.out] at hj
  by_cases hlt : j < n
  ·have hjD : j < D.length := by rw [HN.out]; exact hlt
   obtain ⟨b, off, n2, c2, es, ev, -, -, hbB, hel, hp, hr⟩ := H.out.elem (j := j) (by rw [HML.out]; exact hjD)
   injection ev with e1 e2 e3
   subst e1 e2 e3
   have hmg := mk_get (e := 71) (s := sStep) (k := k) hjD
   obtain ⟨y, hy⟩ : ∃ y, D.getD j (dft sStep) = y := ⟨_, rfl⟩
   rw [hmg, hy] at hr
   have HY := hid hy
   clear hmg hy
   obtain ⟨q, hq⟩ : ∃ q, k + (cnts sStep D j : Int) = q := ⟨_, rfl⟩
   rw [hq] at hr ⊢
   obtain ⟨v0, rfl⟩ := cells_Step hr
   have hpw := hp.keep (w' := wr) (fun p hp => hb.cell (p := p) (by rw [hp]; exact hbB))
   have c0 : wr.cell? ⟨b, off + j * 3, none⟩ = some (.int .i64 q) := hpw 0 (by simp)
   have c1 : wr.cell? ⟨b, off + j * 3 + 1, none⟩ = some (.int .i64 (q + 1)) := hpw 1 (by simp)
   have c2 : wr.cell? ⟨b, off + j * 3 + 2, none⟩ = some (v0) := hpw 2 (by simp)
   obtain ⟨g0, g1, g2⟩ := parts_Step hr
   obtain ⟨z2, hz2⟩ : ∃ z, cntv sI y.2.2 = z := ⟨_, rfl⟩
   have hzz : cnt sStep y = 1 + (1 + (z2)) := by rw [← hz2]; rfl
   have hcn := headMk_cnt (e := 71) hjD
   rw [HY.out, hzz] at hcn
   have q0 : 0 ≤ q := by omega
   have q1 : q + 2 + (z2 : Int) ≤ 1099511627776 := by have : (cntv sStepS D : Int) = (cntv (.row 71 sStep) D : Nat) := rfl; omega
   have Z2 : Hid (sz sI y.2.2 ≤ 1048576) := hid (by have := sz_each HZ.out hjD; rw [HY.out] at this; simp only [sz] at this ⊢; omega)
   have G2 : Hid (Rd w w.heap.size sI [v0] (mkv sI (q + 1 + 1) y.2.2)) := hid g2
   have HZ2 := hid hz2
   have HB := hid hb
   have HZZ := hid hzz
   have HQ := hid hq
   have hlb : b < wr.heap.size := Nat.lt_of_lt_of_le hbB hb.size
   clear hr hel hp hpw hq hzz hcn hb g0 g1 g2 hz2
   go_wp2_with fail
   refine (heldK_ints _ y.2.2 (q + 1 + 1) wr ((G2.out.below HB.out).more HB.out.size) Z2.out (by omega) (by omega)).mono ?_
   rintro e w3 ⟨he, bb⟩
   rw [HZ2.out] at he
   obtain ⟨k2, hk2⟩ : ∃ l, q + 1 + 1 + (z2 : Int) = l := ⟨_, rfl⟩
   rw [hk2] at he
   have l2 : 0 ≤ k2 := by omega
   have u2 : k2  ≤ 1099511627776 := by omega
   subst he
   replace HB := hid (next_trans HB.out bb)
   clear bb
   have HK2 := hid hk2
   clear hk2
   have HS := hid (headHd_step (D := D) (k := k) (kc := k2) hjD HB.out (by rw [HQ.out, HY.out, HZZ.out]; have := HK2.out; omega))
   clear c0 c1 c2
   go_wp2
   go_roundw
   case rel => exact HS.out
   case measure => simp [intOf]; omega
  ·have F1 := hid (headHd_end (e := 71) (D := D) (k := k) (by rw [HN.out]; exact hlt) (by rw [HN.out]; exact hj) hb)
   clear hb
   generalize cnts sStep D j = z at *
   go_wp2
   go_ret
   exact F1.out
abbrev sWalk : Sh := .cat sI sStepS
theorem parts_Walk {w : World} {B : Nat} {v0 v1 : Value} {d : Dat sWalk} (h : Rd w B sWalk [v0, v1] d) : Rd w B sI [v0] d.1 ∧ Rd w B sStepS [v1] d.2 := by
 obtain ⟨p0, q0⟩ := Rd.split (ca := [v0]) (cb := [v1]) h rfl
 exact ⟨p0, q0⟩
theorem join_Walk {w : World} {lo hi : Nat} {v0 v1 : Value} {d : Dat sWalk} {m0 m1 m2 : Nat} (o0 : Owned w m0 m1 sI [v0] d.1) (o1 : Owned w m1 m2 sStepS [v1] d.2) (l0 : m0 ≤ m1) (l1 : m1 ≤ m2) (hl : lo ≤ m0) (hh : m2 ≤ hi) : Owned w lo hi sWalk [v0, v1] d := by
 exact ((Owned.cat o0 o1 (Nat.le_refl _) (by omega) (by omega)) : Owned w m0 m2 sWalk [v0, v1] d).wider hl hh
def CopyWalk (w : World) (d : Dat sWalk) (e : Ending) (w' : World) : Prop := ∃ A0 n0 c0 A1 n1 c1, e = .returned (.agg #[.slice A0 n0 c0, .slice A1 n1 c1]) ∧ Owned w' w.heap.size w'.heap.size sWalk [.slice A0 n0 c0, .slice A1 n1 c1] d ∧ Below w.heap.size w w'
set_option maxHeartbeats 2000000 in
theorem toK_Walk (v0 v1 : Value) (d : Dat sWalk) (w : World) (h : Rd w w.heap.size sWalk [v0, v1] d) (hz : sz sWalk d ≤ 1048576) :
  Calls Tryz.prog 10 #[.agg #[v0, v1]] w (CopyWalk w d) := by
 obtain ⟨g0, g1⟩ := parts_Walk h
 have cp0 := CpS.zero w 30 39 #[v0, v1] #[.slice none 0 0, .slice none 0 0]
 obtain ⟨W, hW⟩ : ∃ W, W = ((w.alloc (.cells #[v0, v1] 30)).alloc (.cells #[.slice none 0 0, .slice none 0 0] 39)).alloc (.cells #[.slice none 0 0, .slice none 0 0] 39) := ⟨_, rfl⟩
 rw [← hW] at cp0
 have HW := hid hW
 have G0 := hid g0
 have Z0 : Hid (sz sI d.1 ≤ 1048576) := hid (by have := hz; simp only [sz] at this ⊢; omega)
 have G1 := hid g1
 have Z1 : Hid (sz sStepS d.2 ≤ 1048576) := hid (by have := hz; simp only [sz] at this ⊢; omega)
 clear hW hz h g0 g1
 go_enter Tryz.func10, Tryz.ntmps10
 go_wp2_with fail
 rw [← HW.out]
 refine (toK_ints _ _ _ ((G0.out.below cp0.bel).more cp0.bel.size) Z0.out).mono ?_
 rintro e w1 ⟨x0A0, x0n0, x0c0, rfl, o0, bb⟩
 have zb0 := bb.size
 have zc0 := cp0.size
 replace cp0 := cp0.next bb
 clear bb
 have f0_0 : w1.frozen? ⟨w.heap.size + 1 + 1, 0, none⟩ = false := cp0.cur.free 0
 have k0_0 : w1.cell? ⟨w.heap.size + 1 + 1, 0, none⟩ = some (.slice none 0 0) := cp0.cur.cell 0
 obtain ⟨w2, hw0⟩ : ∃ x, x = (w1.setCell ⟨w.heap.size + 1 + 1, 0, none⟩ (.slice x0A0 x0n0 x0c0)) := ⟨_, rfl⟩
 replace o0 := o0.put (g := w.heap.size + 1 + 1) (i := 0) (u := .slice x0A0 x0n0 x0c0) (by omega)
 rw [← hw0] at o0
 replace cp0 : CpS w 30 39 #[v0, v1] #[.slice none 0 0, .slice none 0 0] #[.slice x0A0 x0n0 x0c0, .slice none 0 0] w2 := by rw [hw0]; exact (CpS.put cp0 0 (.slice x0A0 x0n0 x0c0))
 have zw0 : w2.heap.size = w1.heap.size := by rw [hw0]; simp
 have HW0 := hid hw0
 clear hw0
 have d1_0 : w2.cell? ⟨w.heap.size, 1, none⟩ = some (v1) := cp0.box.cell 1
 rw [HW0.out] at d1_0
 go_wp2_with fail
 rw [← HW0.out]
 clear d1_0
 refine (toK_StepS _ _ _ ((G1.out.below cp0.bel).more cp0.bel.size) Z1.out).mono ?_
 rintro e w3 ⟨x1A0, x1n0, x1c0, rfl, o1, bb⟩
 replace o0 := o0.next bb
 have zb1 := bb.size
 have zc1 := cp0.size
 replace cp0 := cp0.next bb
 clear bb
 have f1_0 : w3.frozen? ⟨w.heap.size + 1 + 1, 1, none⟩ = false := cp0.cur.free 1
 have k1_0 : w3.cell? ⟨w.heap.size + 1 + 1, 1, none⟩ = some (.slice none 0 0) := cp0.cur.cell 1
 obtain ⟨w4, hw1⟩ : ∃ x, x = (w3.setCell ⟨w.heap.size + 1 + 1, 1, none⟩ (.slice x1A0 x1n0 x1c0)) := ⟨_, rfl⟩
 replace o0 := o0.put (g := w.heap.size + 1 + 1) (i := 1) (u := .slice x1A0 x1n0 x1c0) (by omega)
 rw [← hw1] at o0
 replace o1 := o1.put (g := w.heap.size + 1 + 1) (i := 1) (u := .slice x1A0 x1n0 x1c0) (by omega)
 rw [← hw1] at o1
 replace cp0 : CpS w 30 39 #[v0, v1] #[.slice none 0 0, .slice none 0 0] #[.slice x0A0 x0n0 x0c0, .slice x1A0 x1n0 x1c0] w4 := by rw [hw1]; exact (CpS.put cp0 1 (.slice x1A0 x1n0 x1c0))
 have zw1 : w4.heap.size = w3.heap.size := by rw [hw1]; simp
 have HW1 := hid hw1
 clear hw1
 have y0 : w4.cell? ⟨w.heap.size + 1 + 1, 0, none⟩ = some (.slice x0A0 x0n0 x0c0) := cp0.cur.cell 0
 rw [HW1.out] at y0
 have y1 : w4.cell? ⟨w.heap.size + 1 + 1, 1, none⟩ = some (.slice x1A0 x1n0 x1c0) := cp0.cur.cell 1
 rw [HW1.out] at y1
 have s0 : (w4).cell? ⟨w.heap.size + 1, 0, none⟩ = some (.slice none 0 0) := cp0.res.cell 0
 rw [HW1.out] at s0
 have r0 : (w4).frozen? ⟨w.heap.size + 1, 0, none⟩ = false := cp0.res.free 0
 rw [HW1.out] at r0
 have s1 : ((w4.setCell ⟨w.heap.size + 1, 0, none⟩ (.slice x0A0 x0n0 x0c0))).cell? ⟨w.heap.size + 1, 1, none⟩ = some (.slice none 0 0) := (CpS.fin cp0 0 (.slice x0A0 x0n0 x0c0)).res.cell 1
 rw [HW1.out] at s1
 have r1 : ((w4.setCell ⟨w.heap.size + 1, 0, none⟩ (.slice x0A0 x0n0 x0c0))).frozen? ⟨w.heap.size + 1, 1, none⟩ = false := (CpS.fin cp0 0 (.slice x0A0 x0n0 x0c0)).res.free 1
 rw [HW1.out] at r1
 have oo : Owned w4 (w.heap.size + 1 + 1 + 1) w4.heap.size sWalk [.slice x0A0 x0n0 x0c0, .slice x1A0 x1n0 x1c0] d := join_Walk (m0 := W.heap.size) (m1 := w2.heap.size) (m2 := w4.heap.size) (o0.wider (Nat.le_refl _) (by omega)) (o1.wider (Nat.le_refl _) (by omega)) (by omega) (by omega) (by omega) (by omega)
 have F : CopyWalk w d (.returned (.agg #[.slice x0A0 x0n0 x0c0, .slice x1A0 x1n0 x1c0])) ((w4.setCell ⟨w.heap.size + 1, 0, none⟩ (.slice x0A0 x0n0 x0c0)).setCell ⟨w.heap.size + 1, 1, none⟩ (.slice x1A0 x1n0 x1c0)) := ⟨x0A0, x0n0, x0c0, x1A0, x1n0, x1c0, rfl, Owned.wider (((oo.put (g := w.heap.size + 1) (i := 0) (u := .slice x0A0 x0n0 x0c0) (by omega)).put (g := w.heap.size + 1) (i := 1) (u := .slice x1A0 x1n0 x1c0) (by omega))) (by omega) (by simp), ((CpS.fin (CpS.fin cp0 0 (.slice x0A0 x0n0 x0c0)) 1 (.slice x1A0 x1n0 x1c0))).bel⟩
 have u0 : (((w4.setCell ⟨w.heap.size + 1, 0, none⟩ (.slice x0A0 x0n0 x0c0)).setCell ⟨w.heap.size + 1, 1, none⟩ (.slice x1A0 x1n0 x1c0))).cell? ⟨w.heap.size + 1, 0, none⟩ = some (.slice x0A0 x0n0 x0c0) := (CpS.fin (CpS.fin cp0 0 (.slice x0A0 x0n0 x0c0)) 1 (.slice x1A0 x1n0 x1c0)).res.cell 0
 rw [HW1.out] at u0
 have u1 : (((w4.setCell ⟨w.heap.size + 1, 0, none⟩ (.slice x0A0 x0n0 x0c0)).setCell ⟨w.heap.size + 1, 1, none⟩ (.slice x1A0 x1n0 x1c0))).cell? ⟨w.heap.size + 1, 1, none⟩ = some (.slice x1A0 x1n0 x1c0) := (CpS.fin (CpS.fin cp0 0 (.slice x0A0 x0n0 x0c0)) 1 (.slice x1A0 x1n0 x1c0)).res.cell 1
 rw [HW1.out] at u1
 rw [HW1.out] at F
 have HF := hid F
 clear F oo cp0 o0 o1
 go_wp2
 exact bodyPost_ret (v := .agg #[.slice x0A0 x0n0 x0c0, .slice x1A0 x1n0 x1c0]) (by simp [results, Tryz.results10, go_sem, u0, u1]) rfl HF.out
set_option maxHeartbeats 2000000 in
theorem eqK_Walk (v0 v1 u0 u1 : Value) (d : Dat sWalk) (w : World) (h : Rd w w.heap.size sWalk [v0, v1] d) (h' : Rd w w.heap.size sWalk [u0, u1] d) (hz : sz sWalk d ≤ 1048576) :
  Calls Tryz.prog 13 #[.agg #[v0, v1], .agg #[u0, u1]] w (Yes w) := by
 obtain ⟨g0, g1⟩ := parts_Walk h
 obtain ⟨g0', g1'⟩ := parts_Walk h'
 obtain ⟨W, hW⟩ : ∃ W, W = (w.alloc (.cells #[v0, v1] 39)).alloc (.cells #[u0, u1] 39) := ⟨_, rfl⟩
 have ra : Row W w.heap.size 39 #[v0, v1] := by rw [hW]; exact (Row.new w 39 #[v0, v1]).alloc _
 have rb : Row W (w.heap.size + 1) 39 #[u0, u1] := by rw [hW]; have := Row.new (w.alloc (.cells #[v0, v1] 39)) 39 #[u0, u1]; simpa using this
 have bel : Below w.heap.size w W := by rw [hW]; exact ((Below.refl _ _).alloc (Nat.le_refl _) _).alloc (by simp) _
 have HW := hid hW
 have G0 := hid g0
 have G0' := hid g0'
 have Z0 : Hid (sz sI d.1 ≤ 1048576) := hid (by have := hz; simp only [sz] at this ⊢; omega)
 have G1 := hid g1
 have G1' := hid g1'
 have Z1 : Hid (sz sStepS d.2 ≤ 1048576) := hid (by have := hz; simp only [sz] at this ⊢; omega)
 clear hW hz h h' g0 g0' g1 g1'
 go_enter Tryz.func13, Tryz.ntmps13
 go_wp2_with fail
 rw [← HW.out]
 refine (eqK_ints _ _ _ W (G0.out.next bel) (G0'.out.next bel) Z0.out).mono ?_
 rintro e w1 ⟨rfl, bb⟩
 replace ra := ra.next bb
 replace rb := rb.next bb
 replace bel := next_trans bel bb
 clear bb
 have a1_0 : w1.cell? ⟨w.heap.size, 1, none⟩ = some (v1) := ra.cell 1
 have b1_0 : w1.cell? ⟨w.heap.size + 1, 1, none⟩ = some (u1) := rb.cell 1
 go_wp2_with fail
 clear a1_0 b1_0
 refine (eqK_StepS _ _ _ w1 (G1.out.next bel) (G1'.out.next bel) Z1.out).mono ?_
 rintro e w2 ⟨rfl, bb⟩
 replace ra := ra.next bb
 replace rb := rb.next bb
 replace bel := next_trans bel bb
 clear bb
 have F : Yes w (.returned (.bool true)) w2 := ⟨rfl, bel⟩
 have HF := hid F
 clear F ra rb bel
 go_wp2
 go_ret
 exact HF.out
set_option maxHeartbeats 2000000 in
theorem markK_Walk (v0 v1 : Value) (d : Dat sWalk) (k : Int) (F : List Nat) (w : World) (h : Ow w sWalk [v0, v1] d F) (hF : F.Nodup) (hz : sz sWalk d ≤ 1048576) (hk0 : 0 ≤ k) (hk : k + (cntv sWalk d : Int) ≤ 1099511627776) :
  Calls Tryz.prog 17 #[.agg #[v0, v1], .int .i64 k] w (AnsMarkF w sWalk [v0, v1] d k F) := by
 have hlt := h.lt
 obtain ⟨F0, R0, eF0, o0, o1⟩ := Ow.split (ca := [v0]) (cb := [v1]) h rfl
 rw [eF0] at hF
 obtain ⟨n0, nr0, x0, y0⟩ := dis_app hF
 obtain ⟨z0, hz0⟩ : ∃ z, cntv sI d.1 = z := ⟨_, rfl⟩
 obtain ⟨z1, hz1⟩ : ∃ z, cntv sStepS d.2 = z := ⟨_, rfl⟩
 have hc : (cntv sWalk d : Int) = (z0 : Int) + (z1 : Int) := by rw [← hz0, ← hz1]; first | done | (simp only [cntv]; try omega)
 have Z0 : Hid (sz sI d.1 ≤ 1048576) := hid (by have := hz; simp only [sz] at this ⊢; omega)
 have HZ0 := hid hz0
 have Z1 : Hid (sz sStepS d.2 ≤ 1048576) := hid (by have := hz; simp only [sz] at this ⊢; omega)
 have HZ1 := hid hz1
 have HC := hid hc
 rw [hc] at hk
 obtain ⟨W, hW⟩ : ∃ W, W = w.alloc (.cells #[v0, v1] 39) := ⟨_, rfl⟩
 have r : Row W w.heap.size 39 #[v0, v1] := by rw [hW]; exact Row.new _ _ _
 have bel : Below w.heap.size w W := by rw [hW]; exact (Below.refl _ _).alloc (Nat.le_refl _) _
 replace o0 := o0.next bel
 replace o1 := o1.next bel
 have nb0 : w.heap.size ∉ F0 := fun hb => by have := hlt _ (by rw [eF0]; exact List.mem_append_left _ hb); omega
 have nb1 : w.heap.size ∉ R0 := fun hb => by have := hlt _ (by rw [eF0]; exact (List.mem_append_right _ hb)); omega
 have sub0 : ∀ x ∈ F0, x ∈ F := fun x hb => by rw [eF0]; exact List.mem_append_left _ hb
 have sub1 : ∀ x ∈ R0, x ∈ F := fun x hb => by rw [eF0]; exact (List.mem_append_right _ hb)
 have on : Only F w W := Only.of_below bel
 have HW := hid hW
 have HEF : Hid (F = (F0 ++ R0)) := hid (by rw [eF0])
 clear hW h hz hc bel hlt hz0 hz1 eF0
 go_enter Tryz.func17, Tryz.ntmps17
 go_wp2_with fail
 rw [← HW.out]
 refine (markK_ints _ _ k F0 _ o0 Z0.out (by omega) (by omega)).mono ?_
 rintro e w1 ⟨he, o0, on0⟩
 rw [HZ0.out] at he
 replace o1 := o1.only on0 y0
 replace r := Row.only r on0 nb0
 replace on := on.trans (on0.wider sub0)
 clear on0
 obtain ⟨k0, hk0⟩ : ∃ l, k + (z0 : Int) = l := ⟨_, rfl⟩
 rw [hk0] at he
 have l0 : 0 ≤ k0 := by omega
 have u0 : k0  + (z1 : Int) ≤ 1099511627776 := by omega
 subst he
 have HK0 := hid hk0
 clear hk0
 have c1_0 : w1.cell? ⟨w.heap.size, 1, none⟩ = some (v1) := r.cell 1
 go_wp2_with fail
 clear c1_0
 refine (markK_StepS _ _ k0 R0 _ o1 nr0 Z1.out (by omega) (by rw [HZ1.out]; omega)).mono ?_
 rintro e w2 ⟨he, o1, on1⟩
 rw [HZ1.out] at he
 replace o0 := o0.only on1 x0
 replace r := Row.only r on1 nb1
 replace on := on.trans (on1.wider sub1)
 clear on1
 obtain ⟨k1, hk1⟩ : ∃ l, k0 + (z1 : Int) = l := ⟨_, rfl⟩
 rw [hk1] at he
 have l1 : 0 ≤ k1 := by omega
 have u1 : k1  ≤ 1099511627776 := by omega
 subst he
 have HK1 := hid hk1
 clear hk1
 have F1 : AnsMarkF w sWalk [v0, v1] d k F (.returned (.int .i64 k1)) w2 := by
  refine ⟨congrArg (fun z => Ending.returned (.int .i64 z)) ?_, ?_, on⟩
  ·rw [HC.out]; have := HK0.out; have := HK1.out; omega
  ·rw [HEF.out]
   have e0 : k0 = k + (cntv sI d.1 : Int) := by have := HK0.out; have := HZ0.out; omega
   rw [e0] at o1
   exact (Ow.join o0 o1)
 have HF := hid F1
 clear F1 on r o0 o1
 go_wp2
 go_ret
 exact HF.out
set_option maxHeartbeats 2000000 in
theorem heldK_Walk (v0 v1 : Value) (d : Dat sWalk) (k : Int) (w : World) (h : Rd w w.heap.size sWalk [v0, v1] (mkv sWalk k d)) (hz : sz sWalk d ≤ 1048576) (hk0 : 0 ≤ k) (hk : k + (cntv sWalk d : Int) ≤ 1099511627776) :
  Calls Tryz.prog 19 #[.agg #[v0, v1], .int .i64 k] w (AnsHeld w (k + (cntv sWalk d : Int))) := by
 obtain ⟨g0, g1⟩ := parts_Walk h
 have G0 : Hid (Rd w w.heap.size sI [v0] (mkv sI k d.1)) := hid g0
 obtain ⟨z0, hz0⟩ : ∃ z, cntv sI d.1 = z := ⟨_, rfl⟩
 have G1 : Hid (Rd w w.heap.size sStepS [v1] (mkv sStepS (k + (cntv sI d.1 : Int)) d.2)) := hid g1
 obtain ⟨z1, hz1⟩ : ∃ z, cntv sStepS d.2 = z := ⟨_, rfl⟩
 have hc : (cntv sWalk d : Int) = (z0 : Int) + (z1 : Int) := by rw [← hz0, ← hz1]; first | done | (simp only [cntv]; try omega)
 have Z0 : Hid (sz sI d.1 ≤ 1048576) := hid (by have := hz; simp only [sz] at this ⊢; omega)
 have HZ0 := hid hz0
 rw [hz0] at G1
 have Z1 : Hid (sz sStepS d.2 ≤ 1048576) := hid (by have := hz; simp only [sz] at this ⊢; omega)
 have HZ1 := hid hz1
 rw [hc] at hk ⊢
 have r := Row.new w 39 #[v0, v1]
 have bel : Below w.heap.size w (w.alloc (.cells #[v0, v1] 39)) := (Below.refl _ _).alloc (Nat.le_refl _) _
 obtain ⟨W, hW⟩ : ∃ W, W = w.alloc (.cells #[v0, v1] 39) := ⟨_, rfl⟩
 rw [← hW] at r bel
 have HW := hid hW
 clear hW h hz hc g0 g1 hz0 hz1
 go_enter Tryz.func19, Tryz.ntmps19
 go_wp2_with fail
 rw [← HW.out]
 refine (heldK_ints _ d.1 k W (by refine (G0.out.next bel)) Z0.out (by omega) (by omega)).mono ?_
 rintro e w1 ⟨he, bb⟩
 rw [HZ0.out] at he
 replace r := r.next bb
 replace bel := next_trans bel bb
 clear bb
 obtain ⟨k0, hk0⟩ : ∃ l, k + (z0 : Int) = l := ⟨_, rfl⟩
 have he2 : e = .returned (.int .i64 k0) := by rw [he]; exact congrArg (fun z => Ending.returned (.int .i64 z)) (by omega)
 clear he
 have l0 : 0 ≤ k0 := by omega
 have u0 : k0  + (z1 : Int) ≤ 1099511627776 := by omega
 subst he2
 have HK0 := hid hk0
 clear hk0
 have c1_0 : w1.cell? ⟨w.heap.size, 1, none⟩ = some (v1) := r.cell 1
 go_wp2_with fail
 clear c1_0
 refine (heldK_StepS _ d.2 k0 w1 (by rw [← HK0.out]; refine (G1.out.next bel)) Z1.out (by omega) (by rw [HZ1.out]; omega)).mono ?_
 rintro e w2 ⟨he, bb⟩
 rw [HZ1.out] at he
 replace r := r.next bb
 replace bel := next_trans bel bb
 clear bb
 obtain ⟨k1, hk1⟩ : ∃ l, k + (z0 : Int) + (z1 : Int) = l := ⟨_, rfl⟩
 have he2 : e = .returned (.int .i64 k1) := by rw [he]; exact congrArg (fun z => Ending.returned (.int .i64 z)) (by have := HK0.out; omega)
 clear he
 have l1 : 0 ≤ k1 := by omega
 have u1 : k1  ≤ 1099511627776 := by omega
 subst he2
 have HK1 := hid hk1
 clear hk1
 have F : AnsHeld w (k + ((z0 : Int) + (z1 : Int))) (.returned (.int .i64 k1)) w2 := ⟨congrArg (fun z => Ending.returned (.int .i64 z)) (by have := HK1.out; omega), bel⟩
 have HF := hid F
 clear F r bel
 go_wp2
 go_ret
 exact HF.out
end kindsW
end
section
open Go.Lib (hid)
namespace stepSpec
open Go.RowKit base ints sig term termOk endAt endOf marks app sym sub segs segsHelp kinds termFacts termMath posMath plainMath plainFacts plain gives fillMath shifted matchMath matchSpec putMath varsOf shape kindsR kindsW ruleMath ruleSpec stepMath walkMath
set_option maxRecDepth 100000
theorem right_sys {sg : List Int} {rs : List Rl} {t : List Int} (h : sysOkB sg rs = false) : rightB sg rs t = false := by unfold rightB; rw [h]; rfl
theorem right_parts {sg : List Int} {rs : List Rl} {t : List Int} (h : rightB sg rs t = true) : sysOkB sg rs = true ∧ termOkB sg t = true := by unfold rightB at h; rw [Bool.and_eq_true] at h; exact h
theorem redex_no {sg : List Int} {rs : List Rl} {t : List Int} {a r : Int} (h : thereR sg rs t a r = false) : redexB sg rs t a r = false := by unfold redexB; rw [h]; rfl
theorem redex_yes {sg : List Int} {rs : List Rl} {t : List Int} {a r : Int} (h : thereR sg rs t a r = true) : redexB sg rs t a r = redB sg (rl rs r) t a.toNat := by unfold redexB; rw [h]; rfl
theorem at_no {sg : List Int} {rs : List Rl} {t : List Int} {a r : Int} (h : thereR sg rs t a r = false) : stepAtO sg rs t a r = none := by unfold stepAtO; rw [if_neg (by rw [h]; simp)]
theorem sys_rule {sg : List Int} {rs : List Rl} (h : sysOkB sg rs = true) {r : Nat} (hr : r < rs.length) : ruleOkB sg (rs.getD r ([], [])) = true := by
 have := rl_ok (r := (r : Int)) h (by omega)
 unfold rl at this
 simpa using this
def AnsStep (w : World) (o : Option (List Int)) (e : Ending) (w' : World) : Prop := AnsPairO w (o.getD []) o.isSome e w'
theorem ansStep_no {w w' : World} {o : Option (List Int)} (h : o = none) (hb : Below w.heap.size w w') : AnsStep w o (.returned (.tuple #[.slice (some ⟨w'.heap.size, 0, none⟩) 0 0, .bool false])) (w'.alloc (.cells #[] 2)) :=
 ⟨_, 0, 0, by rw [h]; rfl, by rw [h]; exact own_empty w' w.heap.size hb.size, hb.alloc hb.size _⟩
set_option maxHeartbeats 2000000 in
theorem l7Right (a v : Value) (d : Dat sSystem) (T : Option Addr) (m c : Nat) (t : List Int) (w : World) (h : Rd w w.heap.size sSystem [a, v] d) (hz : sz sSystem d ≤ 1048576) (ht : Seg w w.heap.size T m t) (hm : m ≤ 1048576) :
  Calls Tryz.prog 65 #[.agg #[a, v], .slice T m c] w (AnsB w (rightB d.1 d.2 t)) := by
 obtain ⟨A, n, cs, V, q, cv, rfl, rfl, hs, hc, hcv, hq, hn, hq1, hrs, hsg, hE⟩ := rd_sys h hz
 obtain ⟨W, hW, rA, bel⟩ := box1 w 45 #[.slice A n cs, .slice V q cv]
 have HW := hid hW
 have L1 := hid (specSystemOk _ _ d W (h.next bel) hz)
 have L2 := hid (fun (w1 : World) (bb : Below w.heap.size w w1) => specTermOk A T n cs m c d.1 t w1 (hs.next bb) (ht.next bb) hn hm)
 clear hW h hz hs hc hcv hq hrs hsg hE ht
 cases ok1 : sysOkB d.1 d.2 with
 | false =>
  have HS := hid ok1
  clear ok1
  go_enter Tryz.func65, Tryz.ntmps65
  go_wp2_with fail
  rw [← HW.out]
  refine L1.out.mono ?_
  rintro e w1 ⟨he, bb⟩
  rw [HS.out] at he
  subst he
  have F := hid (ansB (b := rightB d.1 d.2 t) (a := false) (by rw [right_sys HS.out]) (next_trans bel bb))
  clear bb bel rA
  go_wp2
  go_ret
  exact F.out
 | true =>
  obtain ⟨bt, hbt⟩ : ∃ b, termOkB d.1 t = b := ⟨_, rfl⟩
  have HS := hid (show rightB d.1 d.2 t = bt by unfold rightB; rw [ok1, hbt]; rfl)
  have HB := hid hbt
  have H1 := hid ok1
  clear ok1 hbt
  go_enter Tryz.func65, Tryz.ntmps65
  go_wp2_with fail
  rw [← HW.out]
  refine L1.out.mono ?_
  rintro e w1 ⟨he, bb⟩
  rw [H1.out] at he
  subst he
  replace rA := rA.next bb
  replace bel := next_trans bel bb
  have cA : w1.cell? ⟨w.heap.size, 0, none⟩ = some (.slice A n cs) := rA.cell 0
  clear bb L1
  go_wp2_with fail
  refine (L2.out _ bel).mono ?_
  rintro e w2 ⟨he, bb⟩
  rw [HB.out] at he
  subst he
  have F := hid (ansB (b := rightB d.1 d.2 t) (a := bt) (by rw [HS.out]) (next_trans bel bb))
  clear bb bel rA cA
  cases bt <;> (go_wp2; go_ret; exact F.out)
-- REST
def SubIn (W : World) (A : Option Addr) (n cs : Nat) (T : Option Addr) (m c : Nat) (x : Int) (ys : List Int) : Prop := ∀ X, Below W.heap.size W X → Calls Tryz.prog 85 #[.agg #[.slice A n cs], .slice T m c, .int .i64 x] X fun e w' => ∃ D dn dc, e = .returned (.slice D dn dc) ∧ Own w' W.heap.size (.slice D dn dc) ys ∧ Below W.heap.size W w' ∧ Below X.heap.size X w'
def MatchIn (W : World) (A : Option Addr) (n cs : Nat) (P : Option Addr) (pn pc : Nat) (ys : List Int) (R : Option (List (List Int))) : Prop := ∀ X D dn dc, Below W.heap.size W X → Own X W.heap.size (.slice D dn dc) ys → Calls Tryz.prog 84 #[.agg #[.slice A n cs], .slice P pn pc, .slice D dn dc] X fun e w' => ∃ G gn gc, e = .returned (.tuple #[.agg #[.slice G gn gc], .bool R.isSome]) ∧ Owns w' X.heap.size w'.heap.size G gn gc (resL R) ∧ Below W.heap.size W w' ∧ Below X.heap.size X w'
theorem subIn {W : World} {A : Option Addr} {n cs : Nat} {T : Option Addr} {m c : Nat} {sg t : List Int} {a : Nat} (h : Seg W W.heap.size A n sg) (h' : Seg W W.heap.size T m t) (hn : n ≤ 1048576) (hm : m ≤ 1048576) (hc : m ≤ c) (hc2 : c ≤ 9223372036854775807) (ht : termOkB sg t = true) (ha : a < t.length) : SubIn W A n cs T m c (a : Int) (subL sg t a) := fun X hX => by
 obtain ⟨t1, t2, t3⟩ := term_at ht ha
 have hl := h'.1
 refine (l1Sub A T n cs m c sg t a (len1 sg t a) X (h.next hX) (h'.next hX) hn hm hc hc2 (sig_arities (termOk_parts ht).1).1 (by omega) t1 t2 (by omega)).mono ?_
 rintro e w3 ⟨D, dn, dc, rfl, od, b3⟩
 exact ⟨D, dn, dc, rfl, Own.lower od hX.size, next_trans hX b3, b3⟩
theorem matchIn {W : World} {A : Option Addr} {n cs : Nat} {P : Option Addr} {pn pc : Nat} {sg p ys : List Int} (h : Seg W W.heap.size A n sg) (h' : Seg W W.heap.size P pn p) (hn : n ≤ 1048576) (hp : termOkB sg p = true) (ht : termOkB sg ys = true) : MatchIn W A n cs P pn pc ys (mst sg ys p 0 s0) := fun X D dn dc hX ho => by
 have hpn : pn ≤ 60 := by have := (term_len hp).2; have := h'.1; omega
 have hdn : dn ≤ 60 := by have := (term_len ht).2; have := Own.len ho; omega
 have hcd := look.own_cap ho
 refine (l4Match A P D n cs pn pc dn dc sg p ys X (h.next hX) (h'.next hX) (Own.seg ho) hn hpn hdn hcd.1 hcd.2.1 hp ht).mono ?_
 rintro e w4 ⟨G, gn, gc, rfl, og, b4⟩
 exact ⟨G, gn, gc, rfl, og, next_trans hX b4, b4⟩
theorem box_a {W w : World} {v : Bool} {o : Obj} (h : Below W.heap.size W w) : Value.bool v = .bool v ∧ Below W.heap.size W (w.alloc o) := ⟨rfl, h.alloc h.size _⟩
theorem box_b {W w : World} {v : Bool} {g i : Nat} {u : Value} (h : Below W.heap.size W w) (hg : W.heap.size ≤ g) : Value.bool v = .bool v ∧ Below W.heap.size W (w.setCell ⟨g, i, none⟩ u) := ⟨rfl, h.setCell hg _⟩
theorem step_none {sg : List Int} {x : Rl} {t : List Int} {a : Nat} (h : mst sg (subL sg t a) x.1 0 s0 = none) : stepO sg x t a = none := by unfold stepO; rw [h]
theorem fill_res {s : List (List Int)} (hl : s.length = 24) (p : List Int) : fillL (givesL (resL (some s))) p = fillL (givesL s) p := fill_ext fun _ _ _ => matchFacts.res_gives hl _
theorem step_long {sg : List Int} {x : Rl} {t : List Int} {a : Nat} {s : List (List Int)} (h : mst sg (subL sg t a) x.1 0 s0 = some s) (hl : s.length = 24) (hf : filled.fitsB (resL (some s)) x.2 = false) : stepO sg x t a = none := by
 unfold filled.fitsB at hf
 rw [fill_res hl] at hf
 have := of_decide_eq_false hf
 unfold stepO
 rw [h]
 dsimp only
 rw [if_neg (fun hh => this hh.1)]
theorem step_fits {sg : List Int} {x : Rl} {t : List Int} {a : Nat} {s : List (List Int)} (h : mst sg (subL sg t a) x.1 0 s0 = some s) (hl : s.length = 24) (hf : filled.fitsB (resL (some s)) x.2 = true) : (stepO sg x t a).getD [] = put.fitL sg t (filled.fitL (resL (some s)) x.2) a ∧ (stepO sg x t a).isSome = put.fitB sg t (filled.fitL (resL (some s)) x.2) a := by
 have e0 : filled.fitL (resL (some s)) x.2 = fillL (givesL s) x.2 := by unfold filled.fitL; rw [if_pos hf, fill_res hl]
 unfold filled.fitsB at hf
 rw [fill_res hl] at hf
 have hf := of_decide_eq_true hf
 rw [e0]
 unfold stepO
 rw [h]
 dsimp only
 unfold put.fitL put.fitB
 have e1 : put.putI sg t (fillL (givesL s) x.2) a = putAt sg t (fillL (givesL s) x.2) a := rfl
 rw [e1]
 by_cases hh : (putAt sg t (fillL (givesL s) x.2) a).length ≤ 60
 ·rw [if_pos ⟨hf, hh⟩, if_pos (decide_eq_true hh), decide_eq_true hh]; exact ⟨rfl, rfl⟩
 ·rw [if_neg (fun h => hh h.2), if_neg (by rw [decide_eq_false hh]; simp), decide_eq_false hh]; exact ⟨rfl, rfl⟩
theorem sz_lt (w : World) (o : Obj) : w.heap.size < (w.alloc o).heap.size := by simp
def StepBox (W : World) (bo : Bool) (xss : List (List Int)) (s11 s12 : Value) (wx : World) : Prop := ∃ g G gn gc, s11 = .pointer (some ⟨g, 0, none⟩) ∧ s12 = .bool bo ∧ Row wx g 48 #[.slice G gn gc] ∧ Segs wx wx.heap.size G gn xss ∧ Below W.heap.size W wx
theorem sbox_a {W w : World} {bo : Bool} {xss : List (List Int)} {lo : Nat} {G : Option Addr} {gn gc : Nat} (h : Owns w lo w.heap.size G gn gc xss) (hb : Below W.heap.size W w) : StepBox W bo xss (.pointer (some ⟨w.heap.size, 0, none⟩)) (.bool bo) (w.alloc (.cells #[.slice G gn gc] 48)) :=
 ⟨_, _, _, _, rfl, rfl, Row.new _ _ _, (h.segs.alloc (Nat.le_refl _) _).more (by simp), hb.alloc hb.size _⟩
theorem sbox_b {W w : World} {bo : Bool} {xss : List (List Int)} {lo g : Nat} {G : Option Addr} {gn gc : Nat} (h : Owns w lo w.heap.size G gn gc xss) (hr : Row w g 48 #[.slice none 0 0]) (hg : g < lo) (hW : W.heap.size ≤ g) (hb : Below W.heap.size W w) : StepBox W bo xss (.pointer (some ⟨g, 0, none⟩)) (.bool bo) (w.setCell ⟨g, 0, none⟩ (.slice G gn gc)) := by
 have h2 : Owns (w.setCell ⟨g, 0, none⟩ (.slice G gn gc)) lo w.heap.size G gn gc xss := h.btw (lo' := g) (hi' := g + 1) ⟨rfl, rfl, rfl, by simp, fun k hk ho => Below.heap_setCell w _ _ k (by show k ≠ g; omega)⟩ (.inr (by omega))
 exact ⟨_, _, _, _, rfl, rfl, hr.put 0 _, h2.segs, hb.setCell hW _⟩
set_option maxHeartbeats 4000000 in
theorem l7Step (a v u : Value) (d : Dat sSystem) (t : List Int) (x k : Nat) (w : World) (h : Rd w w.heap.size sSystem [a, v] d) (ht : Rd w w.heap.size sI [u] t) (hz : sz sSystem d ≤ 1048576) (hok : rightB d.1 d.2 t = true) (hx : x < t.length) (hk : k < d.2.length) :
  Calls Tryz.prog 59 #[.agg #[a, v], u, .int .i64 (x : Int), .int .i64 (k : Int)] w (AnsStep w (stepO d.1 (d.2.getD k ([], [])) t x)) := by
 obtain ⟨T, m, c, rfl, hT, hcT⟩ := rd_ints.1 ht
 obtain ⟨oks, okt⟩ := right_parts hok
 have hm : m ≤ 60 := by have := (term_len okt).2; have := hT.1; omega
 obtain ⟨A, n, cs, V, q, cv, rfl, rfl, hs, hc, hcv, hq, hn, hq1, hrs, hsg, hE⟩ := rd_sys h hz
 rw [hq] at hk
 obtain ⟨b, off, l, rr, y, rfl, hb, ey, cl, cr, hry⟩ := rd_at hrs (Below.refl _ _) hq hk
 have hzy : sz sRule y ≤ 1048576 := by rw [← ey.out]; exact hE k hk
 have okr : ruleOkB d.1 y = true := by rw [← ey.out]; exact sys_rule oks (by rw [hq]; exact hk)
 obtain ⟨P, pn, pc, P', pn', pc', rfl, rfl, sP, kP, sP', kP', hpn, hpn'⟩ := rd_rule hry hzy
 rw [ey.out]
 obtain ⟨W, hW, rA, rR, bel⟩ := box2 w 45 111 #[.slice A n cs, .slice (some ⟨b, off, none⟩) q cv] #[.slice P pn pc, .slice P' pn' pc']
 have HW := hid hW
 have zA : w.heap.size < W.heap.size := rA.lt
 have zR : w.heap.size + 1 < W.heap.size := rR.lt
 have LS := hid (subIn (cs := cs) (c := c) (hs.next bel) (hT.next bel) hn (by omega) hcT.1 hcT.2.1 okt hx)
 have LM := hid (matchIn (cs := cs) (pc := pc) (hs.next bel) (sP.next bel) hn (rule_parts okr).1 (sub_ok okt hx))
 obtain ⟨R, hR⟩ : ∃ R, mst d.1 (subL d.1 t x) y.1 0 s0 = R := ⟨_, rfl⟩
 rw [hR] at LM
 have HRE := hid hR
 obtain ⟨bo, hbo⟩ : ∃ bo, R.isSome = bo := ⟨_, rfl⟩
 have HR := hid hbo
 have HOK := hid (show ruleOkB d.1 y = true ∧ termOkB d.1 t = true ∧ x < t.length from ⟨okr, okt, hx⟩)
 have SS := hid (show Seg w w.heap.size A n d.1 ∧ Seg w w.heap.size T m t ∧ Seg w w.heap.size P' pn' y.2 ∧ m ≤ c ∧ c ≤ 9223372036854775807 from ⟨hs, hT, sP', hcT.1, hcT.2.1⟩)
 have c0 : (w.alloc (.cells #[.slice A n cs, .slice (some ⟨b, off, none⟩) q cv] 45)).cell? ⟨b, off + k * 2, none⟩ = some (.slice P pn pc) := (((Below.refl w.heap.size w).alloc (Nat.le_refl _) _).cell (p := ⟨b, off + k * 2, none⟩) hb).trans cl
 have c1 : (w.alloc (.cells #[.slice A n cs, .slice (some ⟨b, off, none⟩) q cv] 45)).cell? ⟨b, off + k * 2 + 1, none⟩ = some (.slice P' pn' pc') := (((Below.refl w.heap.size w).alloc (Nat.le_refl _) _).cell (p := ⟨b, off + k * 2 + 1, none⟩) hb).trans cr
 have i0 : (0 : Int) ≤ (k : Int) := by omega
 have i1 : (k : Int) < (q : Int) := by omega
 have K0 : W.cell? ⟨w.heap.size, 0, none⟩ = some (.slice A n cs) := rA.cell 0
 have K1 : W.cell? ⟨w.heap.size + 1, 0, none⟩ = some (.slice P pn pc) := rR.cell 0
 have hneA : ¬ w.heap.size = W.heap.size := by omega
 have hnfA : ¬ W.heap.size = w.heap.size := by omega
 have hneR : ¬ w.heap.size + 1 = W.heap.size := by omega
 have hnfR : ¬ W.heap.size = w.heap.size + 1 := by omega
 have BEL := hid bel
 have RA := hid rA
 have RR := hid rR
 have B0 := Below.refl W.heap.size W
 clear hW h hs hc hcv hq hrs hsg hE ht hT hcT oks okt okr sP kP sP' kP' hry hzy hR hbo hx hok hz ey bel rA rR cl cr
 go_enter Tryz.func59, Tryz.ntmps59
 go_upto_region 2 with fail
 rw [← HW.out]
 clear c0 c1 i0 i1
 go_cut [11, 12] (fun s11 s12 wx => StepBox W bo (resL R) s11 s12 wx)
 case first =>
  go_region_held3 (fun w' => w'.cell? ⟨w.heap.size, 0, none⟩ = some (.slice A n cs) ∧ w'.cell? ⟨w.heap.size + 1, 0, none⟩ = some (.slice P pn pc))
   (go_keep)
   (first
    | (go_at_call 85; refine (LS.out _ ?_).mono ?_; (first | exact B0 | exact B0.drew | exact (B0.alloc B0.size _) | exact (B0.alloc B0.size _).drew | exact (B0.drew.alloc B0.drew.size _)); rintro e w3 ⟨D, dn, dc, rfl, od, B3, b3⟩; have z3 := B3.size; (first | have r8 := Row.next (Row.drew (Row.new W 48 #[.slice none 0 0])) b3 | have r8 := Row.next (Row.new W.drew 48 #[.slice none 0 0]) b3 | skip); have ne30 : ¬ w.heap.size = w3.heap.size := Nat.ne_of_lt (Nat.lt_of_lt_of_le zA B3.size); have nf30 : ¬ w3.heap.size = w.heap.size := Nat.ne_of_gt (Nat.lt_of_lt_of_le zA B3.size); have ne31 : ¬ (w.heap.size + 1) = w3.heap.size := Nat.ne_of_lt (Nat.lt_of_lt_of_le zR B3.size); have nf31 : ¬ w3.heap.size = (w.heap.size + 1) := Nat.ne_of_gt (Nat.lt_of_lt_of_le zR B3.size); have k0_3 : w3.cell? ⟨w.heap.size, 0, none⟩ = some (.slice A n cs) := (B3.cell (p := ⟨w.heap.size, 0, none⟩) zA).trans K0; have k1_3 : w3.cell? ⟨w.heap.size + 1, 0, none⟩ = some (.slice P pn pc) := (B3.cell (p := ⟨w.heap.size + 1, 0, none⟩) zR).trans K1)
    | (go_at_call 84; refine (LM.out _ _ _ _ ?_ ?_).mono ?_; (first | exact B3 | exact B3.alloc B3.size _); (first | exact od | exact Own.alloc od _); rintro e w4 ⟨G, gn, gc, rfl, og, B4, b4⟩; rw [HR.out]; have z4 := B4.size; (first | have r9 := Row.next r8 b4 | have r9 := Row.next (Row.new w3 48 #[.slice none 0 0]) b4 | skip); (first | (have c9 : _ = some (Value.slice none 0 0) := r9.cell 0; have f9 := r9.free 0) | skip); have ne40 : ¬ w.heap.size = w4.heap.size := Nat.ne_of_lt (Nat.lt_of_lt_of_le zA B4.size); have nf40 : ¬ w4.heap.size = w.heap.size := Nat.ne_of_gt (Nat.lt_of_lt_of_le zA B4.size); have ne41 : ¬ (w.heap.size + 1) = w4.heap.size := Nat.ne_of_lt (Nat.lt_of_lt_of_le zR B4.size); have nf41 : ¬ w4.heap.size = (w.heap.size + 1) := Nat.ne_of_gt (Nat.lt_of_lt_of_le zR B4.size); have k0_4 : w4.cell? ⟨w.heap.size, 0, none⟩ = some (.slice A n cs) := (B4.cell (p := ⟨w.heap.size, 0, none⟩) zA).trans K0; have k1_4 : w4.cell? ⟨w.heap.size + 1, 0, none⟩ = some (.slice P pn pc) := (B4.cell (p := ⟨w.heap.size + 1, 0, none⟩) zR).trans K1))
  all_goals
   go_wp2_with fail
   go_meet
   first | (with_reducible exact sbox_a og B4) | (with_reducible exact sbox_b og r9 (sz_lt _ _) z3 B4) | (with_reducible exact sbox_b og r9 r8.lt (Nat.le_refl _) B4)
 case rest =>
  rename World => wc
  obtain ⟨g, G, gn, gc, rfl, rfl, rS, sg, bx⟩ := hcut
  have bel := BEL.out.trans (bx.mono BEL.out.size)
  replace rA := RA.out.next bx
  replace rR := RR.out.next bx
  clear K0 K1 B0 hneA hnfA hneR hnfR
  cases R with
  | none =>
   obtain rfl : bo = false := HR.out.symm
   have F := hid (ansStep_no (o := stepO d.1 y t x) (step_none HRE.out) bel)
   clear bx bel rA rR rS sg
   go_wp2
   go_ret2
   exact F.out
  | some s =>
   obtain rfl : bo = true := HR.out.symm
   have hmo : matchO d.1 y.1 (subL d.1 t x) = some s := by rw [match_yes (rule_parts HOK.out.1).1 (sub_ok HOK.out.2.1 HOK.out.2.2)]; exact HRE.out
   have hl24 := (match_turns hmo).1
   have hmt := matchFacts.match_terms hmo
   have HGV := hid (fun i => (show (givesL (resL (some s)) i).length ≤ 60 by
    rw [matchFacts.res_gives hl24]
    unfold givesL
    split
    ·simp [vt]
    ·rcases hmt.2.2.2 i with e | e
     ·omega
     ·exact (term_len e).2))
   have HTT := hid (show tot (resL (some s)) ≤ 1048576 by rw [← hmo]; exact matchTot.match_tot)
   have HL24 := hid hl24
   have hv := (rule_parts HOK.out.1).2.1
   have hpn60 : pn' ≤ 60 := by have := (term_len hv).2; have := SS.out.2.2.1.1; omega
   have LF := hid (filled.l2Filled G P' gn gc pn' pc' (resL (some s)) y.2 wc sg (SS.out.2.2.1.next bel) HTT.out hpn60 (fun z hz => (term_mem hv hz).1) HGV.out)
   obtain ⟨bf, hbf⟩ : ∃ bf, filled.fitsB (resL (some s)) y.2 = bf := ⟨_, rfl⟩
   have HBF := hid hbf
   have k0 : wc.cell? ⟨g, 0, none⟩ = some (.slice G gn gc) := rS.cell 0
   have k1 : wc.cell? ⟨w.heap.size + 1, 1, none⟩ = some (.slice P' pn' pc') := rR.cell 1
   clear hmo hl24 hmt hv hbf bx sg LS LM
   go_wp2_with fail
   refine LF.out.mono ?_
   rintro e w5 ⟨O, on, oc, rfl, oO, bb⟩
   rw [HBF.out]
   replace rA := rA.next bb
   replace bel := next_trans bel bb
   clear k0 k1 LF rS rR bb
   cases bf with
   | false =>
    have F := hid (ansStep_no (o := stepO d.1 y t x) (step_long HRE.out HL24.out HBF.out) bel)
    clear bel rA oO
    go_wp2
    go_ret2
    exact F.out
   | true =>
    have E := hid (step_fits HRE.out HL24.out HBF.out)
    have hon : on ≤ 60 := by
     have h1 := Own.len oO
     have h2 : (filled.fitL (resL (some s)) y.2).length ≤ 60 := by
      unfold filled.fitL
      rw [if_pos HBF.out]
      have := HBF.out
      unfold filled.fitsB at this
      exact of_decide_eq_true this
     omega
    have hco := look.own_cap oO
    have LP := hid (put.l3Put A T O n cs m c on oc d.1 t (filled.fitL (resL (some s)) y.2) x w5 (SS.out.1.next bel) (SS.out.2.1.next bel) (Own.seg oO) hco.2.2 hn (by omega) hon SS.out.2.2.2.1 SS.out.2.2.2.2 HOK.out.2.1 HOK.out.2.2)
    have k0 : w5.cell? ⟨w.heap.size, 0, none⟩ = some (.slice A n cs) := rA.cell 0
    clear oO hco rA
    go_wp2_with fail
    refine LP.out.mono ?_
    rintro e w6 ⟨X, xn, xc, rfl, oX, bb⟩
    have F : AnsStep w (stepO d.1 y t x) (.returned (.tuple #[.slice X xn xc, .bool (put.fitB d.1 t (filled.fitL (resL (some s)) y.2) x)])) w6 := ⟨X, xn, xc, by rw [E.out.2], by rw [E.out.1]; exact Own.lower oX bel.size, next_trans bel bb⟩
    have HF := hid F
    clear F oX bb bel k0 LP
    go_wp2
    go_ret2
    exact HF.out
end stepSpec
end
section
namespace stepsMath
open sig term termOk termFacts ruleMath stepMath walkMath
section
variable {sg : List Int} {rs : List Rl} {t : List Int} {i k : Nat}
end
def rdN (sg : List Int) (rs : List Rl) (t : List Int) (i k : Nat) : Nat := ((List.range i).map fun a => rs.countP fun x => redB sg x t a).sum + (rs.take k).countP fun x => redB sg x t i
section
variable {sg : List Int} {rs : List Rl} {t : List Int} {i k : Nat}
theorem rd_zero : rdN sg rs t 0 0 = 0 := rfl
theorem rd_row : rdN sg rs t i rs.length = rdN sg rs t (i + 1) 0 := by
 unfold rdN
 rw [List.take_of_length_le (Nat.le_refl _), List.range_succ, List.map_append, List.sum_append]
 simp
theorem rd_step (h : k < rs.length) : rdN sg rs t i (k + 1) = rdN sg rs t i k + if redB sg (rs.getD k ([], [])) t i = true then 1 else 0 := by
 unfold rdN
 rw [List.take_succ_eq_append_getElem h, List.countP_append]
 have : rs.getD k ([], []) = rs[k] := by simp [List.getD, h]
 rw [this, List.countP_cons, List.countP_nil]
 omega
theorem rd_le : rdN sg rs t i k ≤ i * rs.length + k := by
 unfold rdN
 have h1 : (rs.take k).countP (fun x => redB sg x t i) ≤ k := Nat.le_trans (List.countP_le_length) (by rw [List.length_take]; omega)
 have h2 : ∀ i : Nat, ((List.range i).map fun a => rs.countP fun x => redB sg x t a).sum ≤ i * rs.length := fun i => by
  induction i with
  | zero => simp
  | succ i ih =>
   rw [List.range_succ, List.map_append, List.sum_append, Nat.add_mul]
   have : rs.countP (fun x => redB sg x t i) ≤ rs.length := List.countP_le_length
   simp only [List.map_cons, List.map_nil, List.sum_cons, List.sum_nil]
   omega
 have := h2 i
 omega
theorem rd_none : (rdN sg rs t t.length 0 = 0) ↔ ((List.range t.length).all fun a => rs.all fun x => !redB sg x t a) = true := by
 unfold rdN
 rw [List.take_zero, List.countP_nil, Nat.add_zero, List.sum_eq_zero_iff_forall_eq_nat]
 constructor
 ·intro h
  rw [List.all_eq_true]
  intro a ha
  rw [List.all_eq_true]
  intro x hx
  have h1 := h _ (List.mem_map.2 ⟨a, ha, rfl⟩)
  rw [List.countP_eq_zero] at h1
  have := h1 x hx
  simpa using this
 ·intro h y hy
  obtain ⟨a, ha, rfl⟩ := List.mem_map.1 hy
  rw [List.all_eq_true] at h
  have h1 := h a ha
  rw [List.all_eq_true] at h1
  rw [List.countP_eq_zero]
  intro x hx
  have := h1 x hx
  simpa using this
theorem normal_eq (h : rightB sg rs t = true) : normalB sg rs t = decide (rdN sg rs t t.length 0 = 0) := by
 unfold normalB
 rw [h, Bool.true_and, Bool.eq_iff_iff, decide_eq_true_iff, rd_none]
end
end stepsMath
end
section
namespace dice
open Go.RowKit base ints cursor
section
variable {w w' : World} {p : Nat} {A : Option Addr} {n c i : Nat} {h : Int}
end
end dice
end
section
namespace drawSig
open Go.RowKit base ints sig cursor marks app sym dice
set_option maxRecDepth 100000
section
variable {w : World} {p : Nat} {A : Option Addr} {n c v : Nat} {wr : World} {O : Option Addr} {on oc : Nat} {xs : List Int}
end
end drawSig
end
section
namespace drawTerm
open Go.RowKit base ints sig term cursor marks app sym dice drawSig
set_option maxRecDepth 100000
def Rd (w : World) (p B : Nat) (A : Option Addr) (n : Nat) (xs : List Int) : Prop :=
 xs.length = n ∧ (0 < n → ∃ b off, A = some ⟨b, off, none⟩ ∧ b < B ∧ b ≠ p ∧ ∀ j, j < n → w.cell? ⟨b, off + j, none⟩ = some (.int .i64 (xs.getD j 0)))
theorem Rd.more {w : World} {p B B' : Nat} {A : Option Addr} {n : Nat} {xs : List Int} (h : Rd w p B A n xs) (hB : B ≤ B') : Rd w p B' A n xs :=
 ⟨h.1, fun hn => by obtain ⟨b, off, e, hb, hne, hc⟩ := h.2 hn; exact ⟨b, off, e, by omega, hne, hc⟩⟩
theorem Rd.keep {w w' : World} {p B : Nat} {A : Option Addr} {n : Nat} {xs : List Int} (h : Rd w p B A n xs) (hk : ∀ q : Addr, q.block < B → q.block ≠ p → w'.cell? q = w.cell? q) : Rd w' p B A n xs :=
 ⟨h.1, fun hn => by obtain ⟨b, off, e, hb, hne, hc⟩ := h.2 hn; exact ⟨b, off, e, hb, hne, fun j hj => (hk ⟨b, off + j, none⟩ hb hne).trans (hc j hj)⟩⟩
theorem Rd.below {w w' : World} {p B B' : Nat} {A : Option Addr} {n : Nat} {xs : List Int} (h : Rd w p B A n xs) (hb : Below B' w w') (hB : B ≤ B') : Rd w' p B A n xs :=
 h.keep fun q hq _ => hb.cell (by omega)
theorem Rd.seg {w : World} {p B : Nat} {A : Option Addr} {n : Nat} {xs : List Int} (h : Rd w p B A n xs) : Seg w B A n xs :=
 ⟨h.1, fun hn => by obtain ⟨b, off, e, hb, _, hc⟩ := h.2 hn; exact ⟨b, off, e, hb, hc⟩⟩
section
variable {w : World} {p : Nat} {A : Option Addr} {n c : Nat} {S : Option Addr} {sn sc : Nat} {sg : List Int} {wr w' : World}
end
end drawTerm
end
section
namespace drawAny
open Go.RowKit base ints sig term cursor termOk marks app sym dice drawSig drawTerm
set_option maxRecDepth 100000
theorem Own.cap {w : World} {base : Nat} {O : Option Addr} {on oc : Nat} {xs : List Int} (h : Own w base (.slice O on oc) xs) : on ≤ oc ∧ oc ≤ 9223372036854775807 := by
 rcases h.2 with ⟨e, _⟩ | ⟨g, cap, cur, e, _, _, h1, h2, _⟩
 ·injection e with _ e1 e2; omega
 ·injection e with _ e1 e2
  have := Own.len h
  unfold maxLen at h2
  omega
end drawAny
end
section
namespace drawX
open Go.RowKit base ints sig cursor marks app appAt sym segs shape dice
def RdQ (w : World) (Q : Nat → Prop) : (s : Sh) → List Value → Dat s → Prop
 | .num, cs, (x : Int) => cs = [.int .i64 x]
 | .bit, cs, (x : Bool) => cs = [.bool x]
 | .row _ s, cs, (d : List (Dat s)) => ∃ A n c, cs = [.slice A n c] ∧ Cap A n c ∧ d.length = n ∧
   (0 < n → ∃ b off, A = some ⟨b, off, none⟩ ∧ Q b ∧ ∀ j, j < n → ∃ es, es.length = nc s ∧ Piece w b (off + j * nc s) es ∧ RdQ w Q s es (d.getD j (dft s)))
 | .cat a b, cs, d => ∃ ca cb, cs = ca ++ cb ∧ RdQ w Q a ca d.1 ∧ RdQ w Q b cb d.2
section
variable {w w' : World} {Q Q' : Nat → Prop} {B : Nat}
theorem RdQ.keep (hk : ∀ b, Q b → w'.heap[b]? = w.heap[b]?) : ∀ {s : Sh} {cs : List Value} {d : Dat s}, RdQ w Q s cs d → RdQ w' Q s cs d
 | .num, _, _, h => h
 | .bit, _, _, h => h
 | .row _ s, _, _, h => by
  obtain ⟨A, n, c, e, hc, hl, h1⟩ := h
  refine ⟨A, n, c, e, hc, hl, fun hn => ?_⟩
  obtain ⟨b, off, e2, hb, h2⟩ := h1 hn
  refine ⟨b, off, e2, hb, fun j hj => ?_⟩
  obtain ⟨es, he, hp, hr⟩ := h2 j hj
  exact ⟨es, he, hp.keep (fun p hp => World.cell?_of_block (by rw [hp]; exact hk b hb)), hr.keep hk⟩
 | .cat a b, _, _, h => by
  obtain ⟨ca, cb, e, h1, h2⟩ := h
  exact ⟨ca, cb, e, h1.keep hk, h2.keep hk⟩
theorem RdQ.rd (hk : ∀ b, Q b → b < B) : ∀ {s : Sh} {cs : List Value} {d : Dat s}, RdQ w Q s cs d → Rd w B s cs d
 | .num, _, _, h => h
 | .bit, _, _, h => h
 | .row _ s, _, _, h => by
  obtain ⟨A, n, c, e, hc, hl, h1⟩ := h
  refine ⟨A, n, c, e, hc, hl, fun hn => ?_⟩
  obtain ⟨b, off, e2, hb, h2⟩ := h1 hn
  refine ⟨b, off, e2, hk b hb, fun j hj => ?_⟩
  obtain ⟨es, he, hp, hr⟩ := h2 j hj
  exact ⟨es, he, hp, hr.rd hk⟩
 | .cat a b, _, _, h => by
  obtain ⟨ca, cb, e, h1, h2⟩ := h
  exact ⟨ca, cb, e, h1.rd hk, h2.rd hk⟩
theorem RdQ.len : ∀ {s : Sh} {cs : List Value} {d : Dat s}, RdQ w Q s cs d → cs.length = nc s
 | .num, _, _, h => by have h : _ = _ := h; rw [h]; rfl
 | .bit, _, _, h => by have h : _ = _ := h; rw [h]; rfl
 | .row _ _, _, _, h => by obtain ⟨A, n, c, e, _⟩ := h; rw [e]; rfl
 | .cat a b, _, _, h => by
  obtain ⟨ca, cb, e, h1, h2⟩ := h
  rw [e, List.length_append, h1.len, h2.len]; rfl
theorem RdQ.cat {a b : Sh} {ca cb : List Value} {x : Dat a} {y : Dat b} (h1 : RdQ w Q a ca x) (h2 : RdQ w Q b cb y) : RdQ w Q (.cat a b) (ca ++ cb) (x, y) := ⟨ca, cb, rfl, h1, h2⟩
theorem RdQ.one : ∀ {s : Sh} {cs : List Value} {d : Dat s}, RdQ w Q s cs d → ∀ u ∈ cs, u.oneCell' = true
 | .num, _, _, h, u, hu => by have h : _ = _ := h; rw [h] at hu; rw [List.mem_singleton.1 hu]; rfl
 | .bit, _, _, h, u, hu => by have h : _ = _ := h; rw [h] at hu; rw [List.mem_singleton.1 hu]; rfl
 | .row _ _, _, _, h, u, hu => by obtain ⟨A, n, c, e, _⟩ := h; rw [e] at hu; rw [List.mem_singleton.1 hu]; rfl
 | .cat a b, _, _, h, u, hu => by
  obtain ⟨ca, cb, e, h1, h2⟩ := h
  rw [e] at hu
  rcases List.mem_append.1 hu with hu | hu
  ·exact h1.one u hu
  ·exact h2.one u hu
end
def OutR (w : World) (p : Nat) (r : Option Nat) (b : Nat) : Prop := b < w.heap.size ∧ b ≠ p ∧ some b ≠ r
section
variable {w w' : World} {p : Nat} {r : Option Nat} {s : Sh} {cs : List Value} {d : Dat s}
end
def cellsOf (k : Nat) (vs : List Value) (j : Nat) : List Value := (vs.drop (j * k)).take k
def OwnQ (w : World) (p lo : Nat) (e : TypeId) (s : Sh) (A : Option Addr) (n c : Nat) (D : List (Dat s)) : Prop :=
 D.length = n ∧ ∃ vs : List Value, w.ownsRow lo e (nc s) (.slice A n c) n vs ∧ ∀ j, j < n → RdQ w (OutR w p (blk A)) s (cellsOf (nc s) vs j) (D.getD j (dft s))
section
variable {w w' : World} {p lo n c : Nat} {e : TypeId} {s : Sh} {A : Option Addr} {D : List (Dat s)}
theorem OwnQ.nil (w : World) (p lo : Nat) (e : TypeId) (s : Sh) : OwnQ w p lo e s none 0 0 [] := ⟨rfl, [], ⟨by simp, .inl ⟨rfl, rfl⟩⟩, fun j hj => absurd hj (Nat.not_lt_zero _)⟩
end
end drawX
end
end Go.Proofs.YtblhmplpcdcejaaGreat
