/-
  MERGED: my texts Put, HeldT, MatchMath, StepMath, WalkMath, DrawL7, DrawL7B, LawS, MatchSpec, SameSubst, PlainFacts, MatchTot, MatchFacts, Shape3, KindsW, one behind the other, as they are. By an AI agent.
-/
import Derived.Test.YtpcnjcgglonifaaGreatMFnWalksGoOn4
import Derived.OrdersHeld
import Derived.Deep.RegionHeld
import Derived.Deep.LoopGhost
import Derived.Deep.RegionHeld3
section
namespace Go.Proofs.YtpcnjcgglonifaaGreat.put
open Go.RowKit segsHelp base ints sig term arity endOf cursor termOk endAt inside marks app sym sub segs posMath putMath concat
set_option maxRecDepth 100000

theorem Seg.front {w : World} {B b off m a : Nat} {t : List Int} (h : Seg w B (some ⟨b, off, none⟩) m t) (ha : a ≤ m) : Seg w B (some ⟨b, off, none⟩) a (t.take a) := by
  have := Seg.cut (a := 0) (j := a) h (by omega)
  simpa using this
theorem Seg.back {w : World} {B b off m e : Nat} {t : List Int} (h : Seg w B (some ⟨b, off, none⟩) m t) (he : e ≤ m) : Seg w B (some ⟨b, off + e, none⟩) (m - e) (t.drop e) := by
  have := Seg.cut (a := e) (j := m - e) h (by omega)
  rwa [List.take_of_length_le (by simp [h.1])] at this
theorem Seg.none_any {w : World} {B : Nat} {A : Option Addr} {t : List Int} (h : t = []) : Seg w B A 0 t := ⟨by rw [h]; rfl, fun h => absurd h (Nat.lt_irrefl _)⟩

def putI (sg t u : List Int) (a : Nat) : List Int := putL t a (len1 sg t a) u
def AnsPut (w : World) (ys : List Int) (b : Bool) (e : Ending) (w' : World) : Prop := ∃ A n c, e = .returned (.tuple #[.slice A n c, .bool b]) ∧ Own w' w.heap.size (.slice A n c) ys ∧ Below w.heap.size w w'
def fitB (sg t u : List Int) (a : Nat) : Bool := decide ((putI sg t u a).length ≤ 60)
def fitL (sg t u : List Int) (a : Nat) : List Int := if fitB sg t u a = true then putI sg t u a else []

set_option maxHeartbeats 1000000 in
theorem l3Put (A A' U : Option Addr) (n c m c' un uc : Nat) (sg t u : List Int) (a : Nat) (w : World) (h : Seg w w.heap.size A n sg) (h' : Seg w w.heap.size A' m t) (hu : Seg w w.heap.size U un u) (hcu : U = none → uc = 0) (hn : n ≤ 1048576) (hm : m ≤ 1048576) (hun : un ≤ 60) (hc' : m ≤ c') (hc2 : c' ≤ 9223372036854775807)
    (hok : termOkB sg t = true) (hat : a < t.length) :
    Calls Tryz.prog 71 #[.agg #[.slice A n c], .slice A' m c', .int .i64 (a : Int), .slice U un uc] w (AnsPut w (fitL sg t u a) (fitB sg t u a)) := by
  have ham : a < m := by rw [h'.1] at hat; exact hat
  obtain ⟨b, off, x, rfl, -, -, -⟩ := h'.spot ham
  obtain ⟨W, hW⟩ : ∃ W, W = w.alloc (.cells #[.slice A n c] 26) := ⟨_, rfl⟩
  have f : Fr w W A n c sg (some ⟨b, off, none⟩) m t := by rw [hW]; exact Fr.start h h'
  have hU : Seg W w.heap.size U un u := hu.below f.b
  have HW := Lib.hid hW
  obtain ⟨j, hj⟩ : ∃ j, len1 sg t a = j := ⟨_, rfl⟩
  obtain ⟨t1, t2, t3⟩ := term_at hok hat
  have hars := (sig_arities (termOk_parts hok).1).1
  rw [hj] at t1 t2 t3
  rw [h'.1] at t3
  have h60 : m ≤ 60 := by have := (termOk_parts hok).2.1; rw [h'.1] at this; exact this
  have HE := Lib.hid (endI_some t1)
  have HTL := Lib.hid hat
  have HPI := Lib.hid (show putI sg t u a = t.take a ++ u ++ t.drop (a + j) by unfold putI putL; rw [hj, List.append_assoc])
  have hpl : (putI sg t u a).length = a + un + (m - (a + j)) := by rw [HPI.out]; simp [h'.1, hu.1]; omega
  have HPL := Lib.hid hpl
  have LC := Lib.hid (copyInts (some ⟨b, off, none⟩) a c' (t.take a) W ((Seg.front f.t1 (by omega))) (fun e => by cases e) (by omega))
  have HCU := Lib.hid hcu
  have i0 : (0 : Int) ≤ (a : Int) := by omega
  have i1 : (a : Int) ≤ (c' : Int) := by omega
  have i2 : (a : Int) + (j : Int) ≤ (c' : Int) := by omega
  have i3 : (a : Int) + (j : Int) ≤ (m : Int) := by omega
  clear hW h h' hu hj t1 hok hat hcu hpl
  go_enter Tryz.func71, Tryz.ntmps71
  go_wp2_with fail
  rw [← HW.out]
  refine LC.out.mono ?_
  rintro e w1 ⟨O1, n1, c1, rfl, o1, bb⟩
  have hta : (t.take a).length = a := by rw [List.length_take]; have := HTL.out; omega
  obtain rfl : n1 = a := by rw [Own.len o1, hta]
  replace hU := hU.below (bb.mono (Nat.le_of_lt f.size))
  replace o1 := Own.lower (base' := w.heap.size + 1) o1 f.size
  replace f := f.next bb
  have z1 : w.heap.size + 1 ≤ w1.heap.size := f.size
  clear bb hta LC
  go_wp2_with (at_builtin; refine appAll rfl _ _ rfl (w.heap.size + 1) O1 n1 c1 _ rfl o1 U un uc w.heap.size u rfl hU HCU.out (by omega) (by omega) z1 ?_; intro O2 c2 w2 o2 b2; have f2 := f.over b2; have cA2 : w2.cell? ⟨w.heap.size, 0, none⟩ = some (.slice A n c) := f2.cell)
  clear o1 b2 f hU z1 cA2
  replace f := f2
  clear f2
  have cA := f.cell
  obtain ⟨k, hk⟩ : ∃ k, n1 + j = k := ⟨_, rfl⟩
  rw [hk] at HPI HPL t3
  have HEK := Lib.hid (show endI sg t n1 = (k : Int) by rw [HE.out, ← hk]; omega)
  have hn1k : n1 ≤ k := by omega
  clear HE hk i2 i3 t2
  refine (specEnd A _ n c m c' sg t (n1 : Int) _ f.s1 f.t1 hn hm hars i0 (by omega)).mono ?_
  rintro e w3 ⟨he, bb⟩
  rw [Int.toNat_natCast, HEK.out] at he
  subst he
  replace f := f.next bb
  replace o2 := Own.next o2 bb
  clear bb cA
  have i2 : (k : Int) ≤ (c' : Int) := by omega
  have i4 : (k : Int) ≤ (m : Int) := by omega
  have z1 : w.heap.size + 1 ≤ w3.heap.size := f.size
  by_cases hce : c' = k
  · subst hce
    have hmk : m - c' = 0 := by omega
    have HSG := Lib.hid (show Seg w3 w.heap.size (some ⟨b, off, none⟩) 0 [] from Seg.none_any rfl)
    have HPI2 := Lib.hid (show putI sg t u n1 = t.take n1 ++ u ++ [] by rw [HPI.out, List.drop_eq_nil_of_le (by rw [f.t1.1]; omega)])
    have HPL2 := Lib.hid (show (putI sg t u n1).length = n1 + un by rw [HPL.out, hmk]; rfl)
    clear hmk HPL HPI
    by_cases h6 : n1 + un ≤ 60
    · have h7 : ¬ (60 : Int) < (n1 : Int) + (un : Int) := by omega
      go_wp2_with (at_builtin; refine appAll rfl _ _ rfl (w.heap.size + 1) O2 (n1 + un) c2 _ rfl o2 (some ⟨b, off, none⟩) 0 0 w.heap.size [] rfl HSG.out (fun e => by cases e) (by omega) (by omega) z1 ?_; intro O4 c4 w4 o4 b4)
      replace f := f.over b4
      have F : AnsPut w (fitL sg t u n1) (fitB sg t u n1) (.returned (.tuple #[.slice O4 (n1 + un) c4, .bool true])) w4 := ⟨O4, _, c4, by rw [show fitB sg t u n1 = true by unfold fitB; rw [HPL2.out]; exact decide_eq_true h6], by unfold fitL; rw [if_pos (by unfold fitB; rw [HPL2.out]; exact decide_eq_true h6), HPI2.out]; exact Own.lower o4 (Nat.le_succ _), f.b⟩
      have HF := Lib.hid F
      clear F o4 f
      go_ret2
      exact HF.out
    · have h7 : (60 : Int) < (n1 : Int) + (un : Int) := by omega
      go_wp2_with (at_builtin; refine appAll rfl _ _ rfl (w.heap.size + 1) O2 (n1 + un) c2 _ rfl o2 (some ⟨b, off, none⟩) 0 0 w.heap.size [] rfl HSG.out (fun e => by cases e) (by omega) (by omega) z1 ?_; intro O4 c4 w4 o4 b4)
      replace f := f.over b4
      have F : AnsPut w (fitL sg t u n1) (fitB sg t u n1) (.returned (.tuple #[.slice (some ⟨w4.heap.size, 0, none⟩) 0 0, .bool false])) (w4.alloc (.cells #[] 2)) := ⟨_, 0, 0, by rw [show fitB sg t u n1 = false by unfold fitB; rw [HPL2.out]; exact decide_eq_false h6], by unfold fitL; rw [if_neg (by unfold fitB; rw [HPL2.out, decide_eq_false h6]; simp)]; exact own_empty w4 w.heap.size (Nat.le_of_lt f.size), (f.alloc _).b⟩
      have HF := Lib.hid F
      clear F o4 f
      go_ret2
      exact HF.out
  · have HSG := Lib.hid (Seg.back f.s' (e := k) t3)
    obtain ⟨r, hr⟩ : ∃ r, m - k = r := ⟨_, rfl⟩
    rw [hr] at HPL HSG
    have hr60 : r ≤ 60 := by omega
    by_cases h6 : n1 + un + r ≤ 60
    · have h7 : ¬ (60 : Int) < (n1 : Int) + (un : Int) + (r : Int) := by omega
      go_wp2_with (at_builtin; refine appAll rfl _ _ rfl (w.heap.size + 1) O2 (n1 + un) c2 _ rfl o2 (some ⟨b, off + k, none⟩) r (c' - k) w.heap.size (t.drop k) rfl HSG.out (fun e => by cases e) (by omega) (by omega) z1 ?_; intro O4 c4 w4 o4 b4)
      replace f := f.over b4
      have F : AnsPut w (fitL sg t u n1) (fitB sg t u n1) (.returned (.tuple #[.slice O4 (n1 + un + r) c4, .bool true])) w4 := ⟨O4, _, c4, by rw [show fitB sg t u n1 = true by unfold fitB; rw [HPL.out]; exact decide_eq_true h6], by unfold fitL; rw [if_pos (by unfold fitB; rw [HPL.out]; exact decide_eq_true h6), HPI.out]; exact Own.lower o4 (Nat.le_succ _), f.b⟩
      have HF := Lib.hid F
      clear F o4 f
      go_ret2
      exact HF.out
    · have h7 : (60 : Int) < (n1 : Int) + (un : Int) + (r : Int) := by omega
      go_wp2_with (at_builtin; refine appAll rfl _ _ rfl (w.heap.size + 1) O2 (n1 + un) c2 _ rfl o2 (some ⟨b, off + k, none⟩) r (c' - k) w.heap.size (t.drop k) rfl HSG.out (fun e => by cases e) (by omega) (by omega) z1 ?_; intro O4 c4 w4 o4 b4)
      replace f := f.over b4
      have F : AnsPut w (fitL sg t u n1) (fitB sg t u n1) (.returned (.tuple #[.slice (some ⟨w4.heap.size, 0, none⟩) 0 0, .bool false])) (w4.alloc (.cells #[] 2)) := ⟨_, 0, 0, by rw [show fitB sg t u n1 = false by unfold fitB; rw [HPL.out]; exact decide_eq_false h6], by unfold fitL; rw [if_neg (by unfold fitB; rw [HPL.out, decide_eq_false h6]; simp)]; exact own_empty w4 w.heap.size (Nat.le_of_lt f.size), (f.alloc _).b⟩
      have HF := Lib.hid F
      clear F o4 f
      go_ret2
      exact HF.out
def putB (sg t u : List Int) (x : Int) : Bool := (thereB sg t x && termOkB sg u) && fitB sg t u x.toNat
def putR (sg t u : List Int) (x : Int) : List Int := if putB sg t u x = true then putI sg t u x.toNat else []
theorem put_no {sg t u : List Int} {x : Int} (h : thereB sg t x = false ∨ termOkB sg u = false) : putB sg t u x = false ∧ putR sg t u x = [] := by
  have e : putB sg t u x = false := by
    unfold putB
    rcases h with h | h <;> rw [h] <;> simp
  exact ⟨e, by unfold putR; rw [if_neg (by rw [e]; simp)]⟩
theorem put_yes {sg t u : List Int} {a : Nat} (h1 : thereB sg t (a : Int) = true) (h2 : termOkB sg u = true) : putB sg t u (a : Int) = fitB sg t u a ∧ putR sg t u (a : Int) = fitL sg t u a := by
  have e : putB sg t u (a : Int) = fitB sg t u a := by unfold putB; rw [h1, h2, Int.toNat_natCast]; rfl
  exact ⟨e, by unfold putR fitL; rw [e, Int.toNat_natCast]⟩
theorem ansPut_no {w w' : World} {sg t u : List Int} {x : Int} {A : Option Addr} {c : Nat} (h : thereB sg t x = false ∨ termOkB sg u = false) (ho : Own w' w.heap.size (.slice A 0 c) []) (hb : Below w.heap.size w w') : AnsPut w (putR sg t u x) (putB sg t u x) (.returned (.tuple #[.slice A 0 c, .bool false])) w' := by
  obtain ⟨e1, e2⟩ := put_no h
  exact ⟨A, 0, c, by rw [e1], by rw [e2]; exact ho, hb⟩

set_option maxHeartbeats 400000 in
theorem tooLong (A : Option Addr) (n c : Nat) (w : World) (hn : n ≤ 9223372036854775807) :
    Calls Tryz.prog 118 #[.slice A n c] w fun e w' => w = w' ∧ e = .returned (.bool (decide (60 < n))) := by
  have E : decide ((60 : Int) < (n : Int)) = decide (60 < n) := decide_eq_decide.2 (by omega)
  rw [← E]
  have HE := Lib.hid E
  clear E
  generalize hz : decide ((60 : Int) < (n : Int)) = z
  have HZ := Lib.hid hz
  clear hz
  go_enter Tryz.func118, Tryz.ntmps118
  go_wp2
  go_ret
  exact ⟨rfl, by rw [← HZ.out]; rfl⟩
theorem segs3 {w : World} {t : TypeId} {A1 A2 A3 : Option Addr} {n1 c1 n2 c2 n3 c3 : Nat} {x1 x2 x3 : List Int} (h1 : Seg w w.heap.size A1 n1 x1) (h2 : Seg w w.heap.size A2 n2 x2) (h3 : Seg w w.heap.size A3 n3 x3) (k1 : Cap A1 n1 c1) (k2 : Cap A2 n2 c2) (k3 : Cap A3 n3 c3) :
    Segs (w.alloc (.cells #[.slice A1 n1 c1, .slice A2 n2 c2, .slice A3 n3 c3] t)) (w.alloc (.cells #[.slice A1 n1 c1, .slice A2 n2 c2, .slice A3 n3 c3] t)).heap.size (some ⟨w.heap.size, 0, none⟩) 3 [x1, x2, x3] := by
  have r := Row.new w t #[.slice A1 n1 c1, .slice A2 n2 c2, .slice A3 n3 c3]
  have b : Below w.heap.size w (w.alloc (.cells #[.slice A1 n1 c1, .slice A2 n2 c2, .slice A3 n3 c3] t)) := (Below.refl _ _).alloc (Nat.le_refl _) _
  refine ⟨rfl, fun _ => ⟨w.heap.size, 0, rfl, r.lt, fun j hj => ?_⟩⟩
  rw [Nat.zero_add, r.cell j]
  rcases (show j = 0 ∨ j = 1 ∨ j = 2 by omega) with rfl | rfl | rfl
  · exact ⟨A1, n1, c1, rfl, h1.next b, k1⟩
  · exact ⟨A2, n2, c2, rfl, h2.next b, k2⟩
  · exact ⟨A3, n3, c3, rfl, h3.next b, k3⟩
set_option maxHeartbeats 1000000 in
theorem implPutAt (A A' U : Option Addr) (n c m c' un uc : Nat) (sg t : List Int) (x : Int) (u : List Int) (w : World) (h : Seg w w.heap.size A n sg) (h' : Seg w w.heap.size A' m t) (hu : Seg w w.heap.size U un u) (hn : n ≤ 1048576) (hm : m ≤ 1048576) (hun : un ≤ 1048576) (hx1 : -9223372036854775808 ≤ x) (hx2 : x ≤ 9223372036854775807)
    (hcu : Cap U un uc) (hc' : m ≤ c') (hc2 : c' ≤ 9223372036854775807) :
    Calls Tryz.prog 66 #[.agg #[.slice A n c], .slice A' m c', .int .i64 x, .slice U un uc] w (AnsPut w (putR sg t u x) (putB sg t u x)) := by
  obtain ⟨W, hW⟩ : ∃ W, W = w.alloc (.cells #[.slice A n c] 26) := ⟨_, rfl⟩
  have f : Fr w W A n c sg A' m t := by rw [hW]; exact Fr.start h h'
  have hU : Seg W W.heap.size U un u := (hu.below f.b).more (Nat.le_of_lt f.size)
  have HW := Lib.hid hW
  have HLM := Lib.hid h'.1
  have L := Lib.hid (implEndOf A A' n c m c' sg t x W f.s1 f.t1 hn hm hx1 hx2)
  clear hW h h' hu
  cases hx : thereB sg t x with
  | false =>
    have HX := Lib.hid hx
    have HE := Lib.hid (show endOfI sg t x = -1 by unfold endOfI; rw [if_neg (by rw [hx]; simp)])
    clear hx
    go_enter Tryz.func66, Tryz.ntmps66
    go_wp2_with fail
    rw [← HW.out]
    refine L.out.mono ?_
    rintro e w1 ⟨he, bb⟩
    rw [HE.out] at he
    subst he
    have F := Lib.hid (ansPut_no (w := w) (u := u) (.inl HX.out) (Own.nil w1 w.heap.size) (f.next bb).b)
    clear f L bb hU
    go_wp2
    go_ret2
    exact F.out
  | true =>
    have HX := Lib.hid hx
    obtain ⟨hok, i0, i1⟩ := there_parts hx
    obtain ⟨a, rfl⟩ := Int.eq_ofNat_of_zero_le i0
    have hal : a < t.length := by omega
    obtain ⟨k, hk⟩ : ∃ k, a + len1 sg t a = k := ⟨_, rfl⟩
    have HE := Lib.hid (show endOfI sg t (a : Int) = (k : Int) by unfold endOfI; rw [if_pos hx, Int.toNat_natCast, end_at hok hal, hk])
    have HK := Lib.hid hk
    have hkm : k ≤ m := by have h3 := (term_at hok hal).2.2; rw [HLM.out] at h3; omega
    have hak : a < k := by have h3 := (term_at hok hal).2.1; omega
    have h60 : m ≤ 60 := by have h3 := (termOk_parts hok).2.1; rw [HLM.out] at h3; exact h3
    have hneg : ¬ (k : Int) < 0 := by omega
    clear hx hok i0 i1 hk
    cases hku : termOkB sg u with
    | false =>
      have HU := Lib.hid hku
      clear hku
      go_enter Tryz.func66, Tryz.ntmps66
      go_wp2_with fail
      rw [← HW.out]
      refine L.out.mono ?_
      rintro e w1 ⟨he, bb⟩
      rw [HE.out] at he
      subst he
      replace f := f.next bb
      replace hU := hU.next bb
      have cA := f.cell
      clear bb L
      go_wp2_with fail
      refine (implTermOk A U n c un uc sg u _ f.s1 hU hn hun).mono ?_
      rintro e w2 ⟨he, bb⟩
      rw [HU.out] at he
      subst he
      have F := Lib.hid (ansPut_no (w := w) (t := t) (x := (a : Int)) (.inr HU.out) (Own.nil w2 w.heap.size) (f.next bb).b)
      clear f bb hU cA
      go_wp2
      go_ret2
      exact F.out
    | true =>
      have HU := Lib.hid hku
      have hu60 : un ≤ 60 := by have h1 := (termOk_parts hku).2.1; rw [hU.1] at h1; exact h1
      have HP := Lib.hid (put_yes HX.out hku)
      have HUL := Lib.hid hU.1
      have HPI := Lib.hid (show [t.take a, u, t.drop k].flatten = putI sg t u a by unfold putI putL; rw [HK.out]; simp)
      have HPL := Lib.hid (show (putI sg t u a).length = a + un + (m - k) by rw [← HPI.out]; simp [HUL.out, HLM.out]; omega)
      have HT := Lib.hid (show tot [t.take a, u, t.drop k] ≤ 1048576 by unfold tot sumL; simp [HUL.out, HLM.out]; omega)
      clear hku
      go_enter Tryz.func66, Tryz.ntmps66
      go_wp2_with fail
      rw [← HW.out]
      refine L.out.mono ?_
      rintro e w1 ⟨he, bb⟩
      rw [HE.out] at he
      subst he
      replace f := f.next bb
      replace hU := hU.next bb
      have cA := f.cell
      clear bb L
      go_wp2_with fail
      refine (implTermOk A U n c un uc sg u _ f.s1 hU hn hun).mono ?_
      rintro e w2 ⟨he, bb⟩
      rw [HU.out] at he
      subst he
      replace f := f.next bb
      replace hU := hU.next bb
      clear bb cA
      obtain ⟨b, off, y, rfl, -, -, -⟩ := f.t1.spot (show a < m by omega)
      have i0 : (0 : Int) ≤ (a : Int) := by omega
      have i1 : (a : Int) ≤ (c' : Int) := by omega
      have i2 : (k : Int) ≤ (c' : Int) := by omega
      have i3 : (k : Int) ≤ (m : Int) := by omega
      have i4 : (0 : Int) ≤ (k : Int) := by omega
      have SF := Seg.front f.t1 (show a ≤ m by omega)
      by_cases hce : c' = k
      · subst hce
        have hmk : m - c' = 0 := by omega
        have S3 := Lib.hid (segs3 (t := 24) (A3 := some ⟨b, off, none⟩) (c3 := 0) SF hU (Seg.none_any (show t.drop c' = [] from List.drop_eq_nil_of_le (by rw [f.t1.1]; omega))) ⟨show a ≤ c' by omega, hc2, fun e => by cases e⟩ hcu ⟨Nat.le_refl _, by omega, fun _ => rfl⟩).drew
        rw [hmk] at HPL
        clear SF hmk
        go_wp2_with fail
        go_region_held3 (fun _ => True)
          (trivial)
          (first
            | (go_at_call 117; refine (concat _ _ _ _ _ S3.out HT.out).mono ?_; rintro e w4 ⟨O4, n4, c4, rfl, o4, b4⟩))
        have hn4 : n4 = a + un + 0 := by rw [Own.len o4, HPI.out]; exact HPL.out
        have bf := (((Below.refl w2.heap.size w2).alloc (Nat.le_refl _) (.cells #[.slice (some ⟨b, off, none⟩) a c', .slice U un uc, .slice (some ⟨b, off, none⟩) 0 0] 24)).drew).trans (b4.mono (by simp))
        have hsz := f.size
        replace f := f.next bf
        replace o4 := Own.lower (base' := w.heap.size) o4 (by simp; omega)
        obtain ⟨z, hz⟩ : ∃ z, fitB sg t u a = z := ⟨_, rfl⟩
        have F : AnsPut w (putR sg t u (a : Int)) (putB sg t u (a : Int)) (.returned (.tuple #[if z = true then .slice O4 n4 c4 else .slice none 0 0, .bool z])) w4 := by
          refine ⟨if z = true then O4 else none, if z = true then n4 else 0, if z = true then c4 else 0, ?_, ?_, f.b⟩
          · rw [HP.out.1, hz]; cases z <;> rfl
          · rw [HP.out.2]
            unfold fitL
            rw [hz]
            cases z with
            | false => exact Own.nil _ _
            | true => rw [HPI.out] at o4; exact o4
        have HF := Lib.hid F
        have HTL := Lib.hid (show decide (60 < n4) = !z by
          rw [← hz]
          unfold fitB
          rw [HPL.out, hn4]
          by_cases e : a + un + 0 ≤ 60
          · rw [decide_eq_true e, decide_eq_false (by omega)]; rfl
          · rw [decide_eq_false e, decide_eq_true (by omega)]; rfl)
        have h463 : n4 ≤ 9223372036854775807 := by omega
        clear F o4 b4 f hz hn4 bf S3 hU
        go_wp2_with fail
        refine (tooLong O4 n4 c4 w4 h463).mono ?_
        rintro e w5 ⟨rfl, rfl⟩
        rw [HTL.out]
        cases z with
        | false =>
          go_wp2
          go_ret2
          exact HF.out
        | true =>
          go_wp2
          go_ret2
          exact HF.out
      · obtain ⟨r, hr⟩ : ∃ r, m - k = r := ⟨_, rfl⟩
        have SB := Seg.back f.t1 hkm
        rw [hr] at SB HPL
        have hr60 : r ≤ 60 := by omega
        have S3 := Lib.hid (segs3 (t := 24) SF hU SB ⟨show a ≤ c' by omega, hc2, fun e => by cases e⟩ hcu ⟨show r ≤ c' - k by omega, by omega, fun e => by cases e⟩).drew
        clear SF SB
        go_wp2_with fail
        go_region_held3 (fun _ => True)
          (trivial)
          (first
            | (go_at_call 117; refine (concat _ _ _ _ _ S3.out HT.out).mono ?_; rintro e w4 ⟨O4, n4, c4, rfl, o4, b4⟩))
        have hn4 : n4 = a + un + r := by rw [Own.len o4, HPI.out]; exact HPL.out
        have bf := (((Below.refl w2.heap.size w2).alloc (Nat.le_refl _) (.cells #[.slice (some ⟨b, off, none⟩) a c', .slice U un uc, .slice (some ⟨b, off + k, none⟩) r (c' - k)] 24)).drew).trans (b4.mono (by simp))
        have hsz := f.size
        replace f := f.next bf
        replace o4 := Own.lower (base' := w.heap.size) o4 (by simp; omega)
        obtain ⟨z, hz⟩ : ∃ z, fitB sg t u a = z := ⟨_, rfl⟩
        have F : AnsPut w (putR sg t u (a : Int)) (putB sg t u (a : Int)) (.returned (.tuple #[if z = true then .slice O4 n4 c4 else .slice none 0 0, .bool z])) w4 := by
          refine ⟨if z = true then O4 else none, if z = true then n4 else 0, if z = true then c4 else 0, ?_, ?_, f.b⟩
          · rw [HP.out.1, hz]; cases z <;> rfl
          · rw [HP.out.2]
            unfold fitL
            rw [hz]
            cases z with
            | false => exact Own.nil _ _
            | true => rw [HPI.out] at o4; exact o4
        have HF := Lib.hid F
        have HTL := Lib.hid (show decide (60 < n4) = !z by
          rw [← hz]
          unfold fitB
          rw [HPL.out, hn4]
          by_cases e : a + un + r ≤ 60
          · rw [decide_eq_true e, decide_eq_false (by omega)]; rfl
          · rw [decide_eq_false e, decide_eq_true (by omega)]; rfl)
        have h463 : n4 ≤ 9223372036854775807 := by omega
        clear F o4 b4 f hz hn4 bf S3 hU
        go_wp2_with fail
        refine (tooLong O4 n4 c4 w4 h463).mono ?_
        rintro e w5 ⟨rfl, rfl⟩
        rw [HTL.out]
        cases z with
        | false =>
          go_wp2
          go_ret2
          exact HF.out
        | true =>
          go_wp2
          go_ret2
          exact HF.out
end Go.Proofs.YtpcnjcgglonifaaGreat.put
end

section
namespace Go.Proofs.YtpcnjcgglonifaaGreat.heldT
section
variable {P : Program} {md : Region.Mode} {ops : Array Oper} {Q : Exit → Act → World → Prop} {S : World → Prop} {late : Nat → Bool}

def AnyT (P : Program) (md : Region.Mode) (ops : Array Oper) (Q : Exit → Act → World → Prop) (S : World → Prop) (late : Nat → Bool) : Nat → Array Bool → Act → World → Prop
  | 0, listed, a, w => Region.ready md ops listed = [] ∧ Q .normal a w
  | fuel + 1, listed, a, w => (Region.ready md ops listed = [] → Q .normal a w) ∧
    ∀ i ∈ Region.ready md ops listed, wpOp P ops Q i (fun a' w' => (late i = false → S w → S w') ∧ AnyT P md ops Q S late fuel (listed.setIfInBounds i true) a' w') a w
theorem AnyT.any : ∀ (fuel : Nat) (listed : Array Bool) (a : Act) (w : World), AnyT P md ops Q S late fuel listed a w → wpAny P md ops Q fuel listed a w
  | 0, _, _, _, h => h
  | fuel + 1, _, _, _, h => ⟨h.1, fun i hi => wpOp_mono (fun a' w' h' => AnyT.any fuel _ a' w' h'.2) (h.2 i hi)⟩

def Waits (md : Region.Mode) (ops : Array Oper) (late : Nat → Bool) (listed : Array Bool) (i : Nat) : Prop :=
  ∀ j o, ops[j]? = some o → late j = true → listed.getD j true = false → ∃ e ∈ o.after, Region.binds md e = true ∧ e.on = i
def waitsB (md : Region.Mode) (ops : Array Oper) (late : Nat → Bool) (listed : Array Bool) (i : Nat) : Bool :=
  (List.range ops.size).all fun j => !late j || listed.getD j true || ((ops[j]?).map fun o => o.after.any fun e => Region.binds md e && e.on == i).getD false
theorem waits_of {listed : Array Bool} {i : Nat} (h : waitsB md ops late listed i = true) : Waits md ops late listed i := by
  intro j o ho hl hu
  have hj : j < ops.size := by
    rcases Nat.lt_or_ge j ops.size with h' | h'
    · exact h'
    · rw [Array.getElem?_eq_none h'] at ho; cases ho
  have := List.all_eq_true.1 h j (List.mem_range.2 hj)
  rw [hl, hu, ho] at this
  simp only [Bool.not_true, Bool.false_or, Option.map_some, Option.getD_some, Array.any_eq_true', Bool.and_eq_true, beq_iff_eq] at this
  exact this
theorem AnyT.first {i : Nat} {oi : Oper} {v : Value} (hi : ops[i]? = some oi) (hsel : ∀ (j : Nat) (o : Oper) cs b, ops[j]? = some o → o.op ≠ .select cs b) (hQ : ∀ c a w, Q (.panic c) (a.put oi.dst v) w → Q (.panic c) a w) :
    ∀ (fuel : Nat) (listed : Array Bool) (a : Act) (w : World),
      (∀ j oj, ops[j]? = some oj → j ≠ i → listed.getD j true = false → (∀ e ∈ oj.after, Region.binds md e = true → e.on ≠ i) → oi.apart ops oj = true) → Waits md ops late listed i →
      i ∈ Region.ready md ops listed → YieldsIf P ops S oi v a → S w → AnyT P md ops Q S late fuel (listed.setIfInBounds i true) (a.put oi.dst v) w → AnyT P md ops Q S late (fuel + 1) listed a w := by
  intro fuel
  induction fuel with
  | zero =>
    intro listed a w _ _ hr hy hS H
    refine ⟨fun h => (by rw [h] at hr; cases hr), fun j hj => ?_⟩
    rcases Classical.em (j = i) with e | e
    · subst e; exact hy.wpOp hi hS ⟨fun _ h => h, H⟩
    · have := ready_mono hj e
      rw [H.1] at this
      cases this
  | succ fuel ih =>
    intro listed a w hfree hwait hr hy hS H
    refine ⟨fun h => (by rw [h] at hr; cases hr), fun j hj => ?_⟩
    rcases Classical.em (j = i) with e | hji
    · subst e; exact hy.wpOp hi hS ⟨fun _ h => h, H⟩
    have h1 := H.2 j (ready_mono hj hji)
    obtain ⟨hjun, oj, hoj, hall⟩ := mem_ready.1 hj
    have h0 := (mem_ready.1 hr).1
    have hnot : ∀ e ∈ oj.after, Region.binds md e = true → e.on ≠ i := fun e he hb heq => by
      have h1 := hall e he hb
      rw [heq] at h1
      rcases Nat.lt_or_ge i listed.size with h' | h'
      · simp [h'] at h0 h1; rw [h0] at h1; cases h1
      · simp [Array.getElem?_eq_none h'] at h1
    have hlj : late j = false := by
      cases e : late j with
      | false => rfl
      | true =>
        obtain ⟨x, hx, hb, ho⟩ := hwait j oj hoj e hjun
        exact absurd ho (hnot x hx hb)
    have far : ∀ {k : Nat}, j ≠ k → (listed.setIfInBounds j true).getD k true = false → listed.getD k true = false := fun hjk h => by rwa [getD_set_ne true hjk] at h
    have same : ∀ {k : Nat}, k = j → listed.getD k true = false := fun e => by rw [e]; exact hjun
    have un : ∀ (k : Nat), (listed.setIfInBounds j true).getD k true = false → listed.getD k true = false := fun k h => by
      rcases Classical.em (k = j) with e | e
      · exact same e
      · exact far (fun e' => e e'.symm) h
    have h2 := wpOp_putIf hoj (hfree j oj hoj hji hjun hnot) (fun cs b => hsel i oi cs b hi) (fun cs b => hsel j oj cs b hoj) hQ hy h1
    refine wpOp_mono (fun a' w' h3 => ⟨h3.2.1, ih (listed.setIfInBounds j true) a' w' (fun k ok hk hki hun hno => hfree k ok hk hki (un k hun) hno) (fun k o hk hl hu => hwait k o hk hl (un k hu)) (ready_mono hr (Ne.symm hji)) h3.1 (h3.2.1 hlj hS) ?_⟩) h2
    rw [Array.setIfInBounds_comm _ _ hji]
    exact h3.2.2
theorem AnyT.take {i : Nat} {oi : Oper} {v : Value} {fuel : Nat} {listed : Array Bool} {a : Act} {w : World} (hi : ops[i]? = some oi) (hs : Region.noSelect ops = true) (hf : Region.free md ops listed i = true) (hw : waitsB md ops late listed i = true) (hr : (Region.ready md ops listed).contains i = true)
    (hQ : ∀ c a w, Q (.panic c) (a.put oi.dst v) w → Q (.panic c) a w) (hy : YieldsIf P ops S oi v a) (hS : S w) (h : AnyT P md ops Q S late fuel (listed.setIfInBounds i true) (a.put oi.dst v) w) : AnyT P md ops Q S late (fuel + 1) listed a w :=
  AnyT.first hi (Region.noSelect_spec hs) hQ fuel listed a w (Region.free_spec hi hf) (waits_of hw) (by simpa using hr) hy hS h
theorem AnyT.firstA {i : Nat} {oi : Oper} {v : Value} (hi : ops[i]? = some oi) (hsel : ∀ (j : Nat) (o : Oper) cs b, ops[j]? = some o → o.op ≠ .select cs b) (hQ : ∀ c a w, Q (.panic c) (a.put oi.dst v) w → Q (.panic c) a w) :
    ∀ (fuel : Nat) (listed : Array Bool) (a : Act) (w : World),
      (∀ j oj, ops[j]? = some oj → j ≠ i → listed.getD j true = false → (∀ e ∈ oj.after, Region.binds md e = true → e.on ≠ i) → oi.apart ops oj = true) →
      i ∈ Region.ready md ops listed → YieldsIf P ops (fun _ => True) oi v a → AnyT P md ops Q S late fuel (listed.setIfInBounds i true) (a.put oi.dst v) w → AnyT P md ops Q S late (fuel + 1) listed a w := by
  intro fuel
  induction fuel with
  | zero =>
    intro listed a w _ hr hy H
    refine ⟨fun h => (by rw [h] at hr; cases hr), fun j hj => ?_⟩
    rcases Classical.em (j = i) with e | e
    · subst e; exact hy.wpOp hi trivial ⟨fun _ h => h, H⟩
    · have := ready_mono hj e
      rw [H.1] at this
      cases this
  | succ fuel ih =>
    intro listed a w hfree hr hy H
    refine ⟨fun h => (by rw [h] at hr; cases hr), fun j hj => ?_⟩
    rcases Classical.em (j = i) with e | hji
    · subst e; exact hy.wpOp hi trivial ⟨fun _ h => h, H⟩
    have h1 := H.2 j (ready_mono hj hji)
    obtain ⟨hjun, oj, hoj, hall⟩ := mem_ready.1 hj
    have h0 := (mem_ready.1 hr).1
    have hnot : ∀ e ∈ oj.after, Region.binds md e = true → e.on ≠ i := fun e he hb heq => by
      have h1 := hall e he hb
      rw [heq] at h1
      rcases Nat.lt_or_ge i listed.size with h' | h'
      · simp [h'] at h0 h1; rw [h0] at h1; cases h1
      · simp [Array.getElem?_eq_none h'] at h1
    have un : ∀ (k : Nat), (listed.setIfInBounds j true).getD k true = false → listed.getD k true = false := fun k h => by
      rcases Classical.em (k = j) with e | e
      · rw [e]; exact hjun
      · rwa [getD_set_ne true (fun e' => e e'.symm)] at h
    have h2 := wpOp_putIf hoj (hfree j oj hoj hji hjun hnot) (fun cs b => hsel i oi cs b hi) (fun cs b => hsel j oj cs b hoj) hQ hy h1
    refine wpOp_mono (fun a' w' h3 => ⟨h3.2.1, ih (listed.setIfInBounds j true) a' w' (fun k ok hk hki hun hno => hfree k ok hk hki (un k hun) hno) (ready_mono hr (Ne.symm hji)) h3.1 ?_⟩) h2
    rw [Array.setIfInBounds_comm _ _ hji]
    exact h3.2.2
theorem AnyT.takeA {i : Nat} {oi : Oper} {v : Value} {fuel : Nat} {listed : Array Bool} {a : Act} {w : World} (hi : ops[i]? = some oi) (hs : Region.noSelect ops = true) (hf : Region.free md ops listed i = true) (hr : (Region.ready md ops listed).contains i = true)
    (hQ : ∀ c a w, Q (.panic c) (a.put oi.dst v) w → Q (.panic c) a w) (hy : YieldsIf P ops (fun _ => True) oi v a) (h : AnyT P md ops Q S late fuel (listed.setIfInBounds i true) (a.put oi.dst v) w) : AnyT P md ops Q S late (fuel + 1) listed a w :=
  AnyT.firstA hi (Region.noSelect_spec hs) hQ fuel listed a w (Region.free_spec hi hf) (by simpa using hr) hy h
theorem AnyT.call {i : Nat} {o : Oper} {fuel : Nat} {listed : Array Bool} {a : Act} {w : World} (hr : Region.ready md ops listed = [i]) (ho : ops[i]? = some o)
    (h : ∀ K' : Act → World → Prop, Shut (∀ a w', (late i = false → S w → S w') → ((late i = false → S w → S w') → AnyT P md ops Q S late fuel (listed.setIfInBounds i true) a w') → K' a w') → if Region.wanted o (yielded ops a.tmps) = true then Oper.wp P o a w K' Q else K' (a.put o.dst undef) w) : AnyT P md ops Q S late (fuel + 1) listed a w :=
  ⟨fun h0 => absurd (hr ▸ h0) (by simp), fun j hj => by
    rw [hr, List.mem_singleton] at hj
    subst hj
    exact wpOp_step ho (fun K' hK => h K' (fun a w' hS hW => hK a w' ⟨hS, hW hS⟩))⟩
theorem AnyT.done {listed : Array Bool} {a : Act} {w : World} (hr : Region.ready md ops listed = []) (h : Q .normal a w) : ∀ fuel, AnyT P md ops Q S late fuel listed a w
  | 0 => ⟨hr, h⟩
  | _ + 1 => ⟨fun _ => h, by rw [hr]; simp⟩
theorem AnyT.start {id : Nat} {a : Act} {w : World} (late : Nat → Bool) (hm : P.follows .mixedOrders = true) (hS : S w.drew) (h : S w.drew → AnyT P .any ops Q S late ops.size (Array.replicate ops.size false) a w.drew) : (Code.region id ops true).wp P Q a w :=
  wp_region_any hm (AnyT.any _ _ _ _ (h hS))
end
end Go.Proofs.YtpcnjcgglonifaaGreat.heldT
end

section
namespace Go.Proofs.YtpcnjcgglonifaaGreat.matchMath
open sig term termOk termFacts endAt sub termMath fillMath posMath renMath

def vr (x : Int) : Nat := (-1 - x).toNat
def mst (sg t : List Int) : List Int → Nat → List (List Int) → Option (List (List Int))
  | [], _, s => some s
  | x :: r, k, s =>
    if t.length ≤ k then none
    else if 0 ≤ x then (if x = t.getD k 0 then mst sg t r (k + 1) s else none)
    else if (s.getD (vr x) []).length ≠ 0 ∧ s.getD (vr x) [] ≠ subL sg t k then none
    else mst sg t r (k + (subL sg t k).length) (s.set (vr x) (subL sg t k))
section
variable {sg t : List Int} {r : List Int} {x : Int} {k : Nat} {s : List (List Int)}
theorem mst_out (h : t.length ≤ k) : mst sg t (x :: r) k s = none := by simp only [mst]; rw [if_pos h]
theorem mst_sym (h : ¬ t.length ≤ k) (hx : 0 ≤ x) (he : x = t.getD k 0) : mst sg t (x :: r) k s = mst sg t r (k + 1) s := by simp only [mst]; rw [if_neg h, if_pos hx, if_pos he]
theorem mst_symNo (h : ¬ t.length ≤ k) (hx : 0 ≤ x) (he : ¬ x = t.getD k 0) : mst sg t (x :: r) k s = none := by simp only [mst]; rw [if_neg h, if_pos hx, if_neg he]
theorem mst_var (h : ¬ t.length ≤ k) (hx : ¬ 0 ≤ x) (he : ¬ ((s.getD (vr x) []).length ≠ 0 ∧ s.getD (vr x) [] ≠ subL sg t k)) : mst sg t (x :: r) k s = mst sg t r (k + (subL sg t k).length) (s.set (vr x) (subL sg t k)) := by simp only [mst]; rw [if_neg h, if_neg hx, if_neg he]
theorem mst_varNo (h : ¬ t.length ≤ k) (hx : ¬ 0 ≤ x) (he : (s.getD (vr x) []).length ≠ 0 ∧ s.getD (vr x) [] ≠ subL sg t k) : mst sg t (x :: r) k s = none := by simp only [mst]; rw [if_neg h, if_neg hx, if_pos he]
end
theorem set_get {s : List (List Int)} {i j : Nat} {v : List Int} : (s.set i v).getD j [] = if i = j ∧ i < s.length then v else s.getD j [] := by
  simp only [List.getD_eq_getElem?_getD, List.getElem?_set]
  by_cases h : i = j
  · subst h
    by_cases h2 : i < s.length
    · simp [h2]
    · simp [h2]
  · simp [h]
theorem vr_lt {x : Int} (h0 : ¬ 0 ≤ x) (h : -24 ≤ x) : vr x < 24 := by unfold vr; omega
theorem mst_ext {sg t : List Int} : ∀ {p : List Int} {k : Nat} {s s' : List (List Int)}, mst sg t p k s = some s' → s.length = 24 → (∀ x ∈ p, -24 ≤ x) → s'.length = 24 ∧ ∀ i, (s.getD i []).length ≠ 0 → s'.getD i [] = s.getD i [] := by
  intro p
  induction p with
  | nil => intro k s s' h hl _; injection h with h; subst h; exact ⟨hl, fun _ _ => rfl⟩
  | cons x r ih =>
    intro k s s' h hl hx
    have hr : ∀ y ∈ r, -24 ≤ y := fun y hy => hx y (List.mem_cons_of_mem _ hy)
    by_cases h1 : t.length ≤ k
    · rw [mst_out h1] at h; cases h
    · by_cases h2 : 0 ≤ x
      · by_cases h3 : x = t.getD k 0
        · rw [mst_sym h1 h2 h3] at h; exact ih h hl hr
        · rw [mst_symNo h1 h2 h3] at h; cases h
      · by_cases h3 : (s.getD (vr x) []).length ≠ 0 ∧ s.getD (vr x) [] ≠ subL sg t k
        · rw [mst_varNo h1 h2 h3] at h; cases h
        · rw [mst_var h1 h2 h3] at h
          obtain ⟨e1, e2⟩ := ih h (by rw [List.length_set]; exact hl) hr
          refine ⟨e1, fun i hi => ?_⟩
          have hs : (s.set (vr x) (subL sg t k)).getD i [] = s.getD i [] := by
            rw [set_get]
            split
            · rename_i hc
              obtain ⟨rfl, _⟩ := hc
              by_cases e : s.getD (vr x) [] = subL sg t k
              · exact e.symm
              · exact absurd ⟨hi, e⟩ h3
            · rfl
          rw [← hs] at hi ⊢
          exact e2 i hi
theorem sub_len1 {sg t : List Int} (hok : termOkB sg t = true) {k : Nat} (hk : k < t.length) : (subL sg t k).length = len1 sg t k ∧ t.drop k = subL sg t k ++ t.drop (k + (subL sg t k).length) ∧ scan sg 1 (subL sg t k) = some (subL sg t k).length := by
  have h := term_at hok hk
  have hl : (subL sg t k).length = len1 sg t k := by unfold subL; rw [List.length_take, List.length_drop]; omega
  refine ⟨hl, ?_, (term_parts (sub_term hok hk).1).2.2⟩
  rw [hl, ← List.drop_drop]
  exact (List.take_append_drop _ _).symm
theorem mst_sound {sg t : List Int} (hok : termOkB sg t = true) : ∀ {p : List Int} {k : Nat} {s s' : List (List Int)}, mst sg t p k s = some s' → s.length = 24 → (∀ x ∈ p, -24 ≤ x) →
    (∃ rest, t.drop k = fillL (fun i => s'.getD i []) p ++ rest) ∧ ∀ x ∈ p, x < 0 → scan sg 1 (s'.getD (vr x) []) = some (s'.getD (vr x) []).length := by
  intro p
  induction p with
  | nil => intro k s s' _ _ _; exact ⟨⟨t.drop k, by rw [fill_nil, List.nil_append]⟩, fun x hx => absurd hx (List.not_mem_nil)⟩
  | cons x r ih =>
    intro k s s' h hl hx
    have hr : ∀ y ∈ r, -24 ≤ y := fun y hy => hx y (List.mem_cons_of_mem _ hy)
    have hx0 : -24 ≤ x := hx x (List.mem_cons_self ..)
    by_cases h1 : t.length ≤ k
    · rw [mst_out h1] at h; cases h
    · by_cases h2 : 0 ≤ x
      · by_cases h3 : x = t.getD k 0
        · rw [mst_sym h1 h2 h3] at h
          obtain ⟨⟨rest, e⟩, hv⟩ := ih h hl hr
          refine ⟨⟨rest, ?_⟩, fun y hy h0 => ?_⟩
          · rw [drop_cons (by omega), e, ← h3, fill_cons, rep_sym h2]; rfl
          · rcases List.mem_cons.1 hy with rfl | hy
            · omega
            · exact hv y hy h0
        · rw [mst_symNo h1 h2 h3] at h; cases h
      · by_cases h3 : (s.getD (vr x) []).length ≠ 0 ∧ s.getD (vr x) [] ≠ subL sg t k
        · rw [mst_varNo h1 h2 h3] at h; cases h
        · rw [mst_var h1 h2 h3] at h
          have hl' : (s.set (vr x) (subL sg t k)).length = 24 := by rw [List.length_set]; exact hl
          obtain ⟨⟨rest, e⟩, hv⟩ := ih h hl' hr
          obtain ⟨_, e2⟩ := mst_ext h hl' hr
          obtain ⟨l1, l2, l3⟩ := sub_len1 hok (show k < t.length by omega)
          have hpos := (sub_term hok (show k < t.length by omega)).2.2.2
          have hg : (s.set (vr x) (subL sg t k)).getD (vr x) [] = subL sg t k := by rw [set_get, if_pos ⟨rfl, by rw [hl]; exact vr_lt h2 hx0⟩]
          have hgx : s'.getD (vr x) [] = subL sg t k := by rw [e2 (vr x) (by rw [hg]; omega), hg]
          refine ⟨⟨rest, ?_⟩, fun y hy h0 => ?_⟩
          · rw [l2, e, fill_cons, rep_var (by omega), List.append_assoc]
            congr 1
            exact hgx.symm
          · rcases List.mem_cons.1 hy with rfl | hy
            · rw [hgx]; exact l3
            · exact hv y hy h0
theorem mst_full {sg t : List Int} {L : Nat → List Int} : ∀ {p : List Int} {k : Nat} {s : List (List Int)} {rest : List Int}, t.drop k = fillL L p ++ rest → s.length = 24 → (∀ x ∈ p, -24 ≤ x) → (∀ x ∈ p, x < 0 → scan sg 1 (L (vr x)) = some (L (vr x)).length) → (∀ i, (s.getD i []).length ≠ 0 → s.getD i [] = L i) →
    ∃ s', mst sg t p k s = some s' ∧ (∀ i, (s'.getD i []).length ≠ 0 → s'.getD i [] = L i) ∧ ∀ x ∈ p, x < 0 → s'.getD (vr x) [] = L (vr x) := by
  intro p
  induction p with
  | nil => intro k s rest _ _ _ _ hc; exact ⟨s, rfl, hc, fun x hx => absurd hx (List.not_mem_nil)⟩
  | cons x r ih =>
    intro k s rest h hl hx hL hc
    have hr : ∀ y ∈ r, -24 ≤ y := fun y hy => hx y (List.mem_cons_of_mem _ hy)
    have hLr : ∀ y ∈ r, y < 0 → scan sg 1 (L (vr y)) = some (L (vr y)).length := fun y hy => hL y (List.mem_cons_of_mem _ hy)
    have hx0 : -24 ≤ x := hx x (List.mem_cons_self ..)
    rw [fill_cons, List.append_assoc] at h
    by_cases h2 : 0 ≤ x
    · rw [rep_sym h2] at h
      have hk : k < t.length := by
        by_cases hk : k < t.length
        · exact hk
        · rw [List.drop_eq_nil_of_le (by omega)] at h; cases h
      rw [drop_cons hk] at h
      injection h with e1 e2
      obtain ⟨s', m1, m2, m3⟩ := ih e2 hl hr hLr hc
      exact ⟨s', by rw [mst_sym (by omega) h2 e1.symm]; exact m1, m2, fun y hy h0 => by
        rcases List.mem_cons.1 hy with rfl | hy
        · omega
        · exact m3 y hy h0⟩
    · rw [rep_var (by omega)] at h
      change t.drop k = L (vr x) ++ (fillL L r ++ rest) at h
      have hsc := hL x (List.mem_cons_self ..) (by omega)
      have hpos := scan_pos (q := 0) hsc
      have hk : k < t.length := by
        by_cases hk : k < t.length
        · exact hk
        · rw [List.drop_eq_nil_of_le (by omega)] at h
          have := congrArg List.length h
          simp only [List.length_nil, List.length_append] at this
          omega
      have hsub : subL sg t k = L (vr x) := by
        unfold subL
        have e : len1 sg t k = (L (vr x)).length := len1_eq (by rw [h]; exact scan_append hsc)
        rw [e, h, List.take_left' rfl]
      have hnext : t.drop (k + (subL sg t k).length) = fillL L r ++ rest := by rw [← List.drop_drop, h, hsub, List.drop_left' rfl]
      have hno : ¬ ((s.getD (vr x) []).length ≠ 0 ∧ s.getD (vr x) [] ≠ subL sg t k) := fun ⟨g1, g2⟩ => g2 (by rw [hsub]; exact hc _ g1)
      have hl' : (s.set (vr x) (subL sg t k)).length = 24 := by rw [List.length_set]; exact hl
      obtain ⟨s', m1, m2, m3⟩ := ih hnext hl' hr hLr (fun i hi => by
        rw [set_get] at hi ⊢
        split
        · rename_i hcc; rw [hsub, ← hcc.1]
        · rename_i hcc; rw [if_neg hcc] at hi; exact hc i hi)
      refine ⟨s', by rw [mst_var (by omega) h2 hno]; exact m1, m2, fun y hy h0 => ?_⟩
      rcases List.mem_cons.1 hy with rfl | hy
      · have hg : (s.set (vr y) (subL sg t k)).getD (vr y) [] = L (vr y) := by rw [set_get, if_pos ⟨rfl, by rw [hl]; exact vr_lt h2 hx0⟩, hsub]
        rw [(mst_ext m1 hl' hr).2 (vr y) (by rw [hg]; omega), hg]
      · exact m3 y hy h0

def s0 : List (List Int) := List.replicate 24 []
theorem s0_get (i : Nat) : s0.getD i [] = [] := by
  unfold s0
  rw [List.getD_eq_getElem?_getD, List.getElem?_replicate]
  split <;> rfl
def matchO (sg p t : List Int) : Option (List (List Int)) := if (termOkB sg p && termOkB sg t) = true then mst sg t p 0 s0 else none
def instB (sg p t : List Int) : Bool := (matchO sg p t).isSome
theorem match_yes {sg p t : List Int} (h1 : termOkB sg p = true) (h2 : termOkB sg t = true) : matchO sg p t = mst sg t p 0 s0 := by unfold matchO; rw [if_pos (by rw [h1, h2]; rfl)]
theorem match_no {sg p t : List Int} (h : termOkB sg p = false ∨ termOkB sg t = false) : matchO sg p t = none := by
  unfold matchO
  rw [if_neg]
  rcases h with h | h <;> rw [h] <;> simp
theorem inst_no {sg p t : List Int} (h : termOkB sg p = false ∨ termOkB sg t = false) : instB sg p t = false := by unfold instB; rw [match_no h]; rfl
theorem inst_ok {sg p t : List Int} (h : instB sg p t = true) : termOkB sg p = true ∧ termOkB sg t = true := by
  cases h1 : termOkB sg p with
  | false => rw [inst_no (.inl h1)] at h; cases h
  | true =>
    cases h2 : termOkB sg t with
    | false => rw [inst_no (.inr h2)] at h; cases h
    | true => exact ⟨rfl, rfl⟩
def Turns (sg p t : List Int) (L : Nat → List Int) : Prop := fillL L p = t ∧ ∀ x ∈ p, x < 0 → scan sg 1 (L (vr x)) = some (L (vr x)).length
theorem match_turns {sg p t : List Int} {s' : List (List Int)} (h : matchO sg p t = some s') : s'.length = 24 ∧ Turns sg p t (fun i => s'.getD i []) := by
  have h12 : termOkB sg p = true ∧ termOkB sg t = true := inst_ok (by unfold instB; rw [h]; rfl)
  obtain ⟨h1, h2⟩ := h12
  rw [match_yes h1 h2] at h
  have hx : ∀ x ∈ p, -24 ≤ x := fun x hx => (term_mem h1 hx).1
  obtain ⟨⟨rest, e⟩, hv⟩ := mst_sound h2 h (by rfl) hx
  refine ⟨(mst_ext h (by rfl) hx).1, ?_, hv⟩
  rw [List.drop_zero] at e
  have hs := scan_fill (L := fun i => s'.getD i []) (term_parts h1).2.2 hv
  have hs2 := scan_append (r := rest) hs
  rw [← e, (term_parts h2).2.2] at hs2
  injection hs2 with hs2
  have hl := congrArg List.length e
  rw [List.length_append] at hl
  have hr : rest = [] := List.eq_nil_of_length_eq_zero (by omega)
  rw [e, hr, List.append_nil]
theorem turns_match {sg p t : List Int} {L : Nat → List Int} (h1 : termOkB sg p = true) (h2 : termOkB sg t = true) (h : Turns sg p t L) : ∃ s', matchO sg p t = some s' ∧ ∀ x ∈ p, x < 0 → s'.getD (vr x) [] = L (vr x) := by
  rw [match_yes h1 h2]
  obtain ⟨s', m1, _, m3⟩ := mst_full (sg := sg) (t := t) (L := L) (p := p) (k := 0) (s := s0) (rest := []) (by rw [List.drop_zero, List.append_nil, h.1]) (by rfl) (fun x hx => (term_mem h1 hx).1) h.2 (fun i hi => by rw [s0_get] at hi; exact absurd rfl hi)
  exact ⟨s', m1, m3⟩
theorem inst_iff {sg p t : List Int} (h1 : termOkB sg p = true) (h2 : termOkB sg t = true) : instB sg p t = true ↔ ∃ L, Turns sg p t L := by
  constructor
  · intro h
    unfold instB at h
    obtain ⟨s', hs⟩ := Option.isSome_iff_exists.1 h
    exact ⟨_, (match_turns hs).2⟩
  · rintro ⟨L, h⟩
    obtain ⟨s', hs, _⟩ := turns_match h1 h2 h
    unfold instB
    rw [hs]; rfl
theorem rep_mem {L : Nat → List Int} : ∀ {p : List Int} {x y : Int}, x ∈ p → x < 0 → y ∈ L (vr x) → y ∈ fillL L p
  | z :: r, x, y, hx, h0, hy => by
    rw [fill_cons]
    rcases List.mem_cons.1 hx with rfl | hx
    · exact List.mem_append_left _ (by rw [rep_var h0]; exact hy)
    · exact List.mem_append_right _ (rep_mem hx h0 hy)
theorem turns_trans {sg p q t : List Int} {L M : Nat → List Int} (h : Turns sg p q L) (h' : Turns sg q t M) : Turns sg p t (fun i => fillL M (L i)) := by
  refine ⟨by rw [← fill_fill, h.1, h'.1], fun x hx h0 => ?_⟩
  refine scan_fill (h.2 x hx h0) (fun y hy hy0 => ?_)
  exact h'.2 y (by rw [← h.1]; exact rep_mem hx h0 hy) hy0
end Go.Proofs.YtpcnjcgglonifaaGreat.matchMath
end

section
namespace Go.Proofs.YtpcnjcgglonifaaGreat.stepMath
open sig term termOk termFacts fillMath gives endAt sub matchMath termMath posMath putMath ruleMath

def putAt (sg t u : List Int) (a : Nat) : List Int := putL t a (len1 sg t a) u
def stepO (sg : List Int) (x : Rl) (t : List Int) (a : Nat) : Option (List Int) :=
  match mst sg (subL sg t a) x.1 0 s0 with
  | none => none
  | some ss => if (fillL (givesL ss) x.2).length ≤ 60 ∧ (putAt sg t (fillL (givesL ss) x.2) a).length ≤ 60 then some (putAt sg t (fillL (givesL ss) x.2) a) else none
def redB (sg : List Int) (x : Rl) (t : List Int) (a : Nat) : Bool := (mst sg (subL sg t a) x.1 0 s0).isSome

theorem sub_ok {sg t : List Int} (h : termOkB sg t = true) {a : Nat} (ha : a < t.length) : termOkB sg (subL sg t a) = true := by
  obtain ⟨h1, h2, h3⟩ := term_parts h
  obtain ⟨e1, e2, e3⟩ := sub_len1 h ha
  have h4 := term_at h ha
  exact term_mk h1 (by omega) e3
theorem gives_of {sg l s : List Int} {ss : List (List Int)} (h1 : termOkB sg l = true) (h2 : termOkB sg s = true) (h : mst sg s l 0 s0 = some ss) : Turns sg l s (givesL ss) ∧ ∀ x ∈ l, x < 0 → givesL ss (vr x) = ss.getD (vr x) [] := by
  have hm : matchO sg l s = some ss := by rw [match_yes h1 h2]; exact h
  obtain ⟨e, t1, t2⟩ := match_turns hm
  have hg : ∀ x ∈ l, x < 0 → givesL ss (vr x) = ss.getD (vr x) [] := fun x hx h0 => by
    have this : scan sg 1 (ss.getD (vr x) []) = some (ss.getD (vr x) []).length := t2 x hx h0
    unfold givesL
    rw [if_neg ?_]
    intro e0
    have e1 : ss.getD (vr x) [] = [] := List.length_eq_zero_iff.1 e0
    rw [e1] at this
    exact absurd this (by simp [scan])
  refine ⟨⟨?_, fun x hx h0 => by rw [hg x hx h0]; exact t2 x hx h0⟩, hg⟩
  rw [fill_ext (L' := fun i => ss.getD i []) (fun x hx h0 => hg x hx h0)]
  exact t1
theorem step_iff {sg : List Int} {x : Rl} {t v : List Int} {a : Nat} (hx : ruleOkB sg x = true) (ht : termOkB sg t = true) (ha : a < t.length) :
    stepO sg x t a = some v ↔ ∃ L, Turns sg x.1 (subL sg t a) L ∧ v = putAt sg t (fillL L x.2) a ∧ (fillL L x.2).length ≤ 60 ∧ v.length ≤ 60 := by
  obtain ⟨h1, h2, h3, h4⟩ := rule_parts hx
  have hs := sub_ok ht ha
  constructor
  · intro h
    unfold stepO at h
    cases hm : mst sg (subL sg t a) x.1 0 s0 with
    | none => rw [hm] at h; cases h
    | some ss =>
      rw [hm] at h
      dsimp only at h
      split at h
      · rename_i hf
        injection h with h
        subst h
        exact ⟨_, (gives_of h1 hs hm).1, rfl, hf.1, hf.2⟩
      · cases h
  · rintro ⟨L, hL, rfl, hf, hv⟩
    obtain ⟨ss, hm, hg⟩ := turns_match h1 hs hL
    rw [match_yes h1 hs] at hm
    have g := gives_of h1 hs hm
    have e : fillL (givesL ss) x.2 = fillL L x.2 := fill_ext (fun y hy h0 => by
      have hy1 := h4 y hy h0
      show givesL ss (vr y) = L (vr y)
      rw [g.2 y hy1 h0]
      exact hg y hy1 h0)
    unfold stepO
    rw [hm]
    dsimp only
    rw [e, if_pos ⟨hf, hv⟩]
theorem step_ok {sg : List Int} {x : Rl} {t v : List Int} {a : Nat} (hx : ruleOkB sg x = true) (ht : termOkB sg t = true) (ha : a < t.length) (h : stepO sg x t a = some v) : termOkB sg v = true := by
  obtain ⟨L, hL, rfl, hf, hv⟩ := (step_iff hx ht ha).1 h
  obtain ⟨h1, h2, h3, h4⟩ := rule_parts hx
  obtain ⟨s1, s2, s3⟩ := term_parts ht
  exact put_term ht (term_mk s1 hf (scan_fill (term_parts h2).2.2 (fun y hy h0 => hL.2 y (h4 y hy h0) h0))) ha hv
theorem sub_in {sg A x B : List Int} (h : termOkB sg x = true) {a : Nat} (ha : a < x.length) : len1 sg (A ++ (x ++ B)) (A.length + a) = len1 sg x a ∧ subL sg (A ++ (x ++ B)) (A.length + a) = subL sg x a := by
  obtain ⟨h1, h2, h3⟩ := term_at h ha
  have e : (A ++ (x ++ B)).drop (A.length + a) = x.drop a ++ B := by
    rw [← List.drop_drop, List.drop_left, List.drop_append_of_le_length (by omega)]
  have e1 : len1 sg (A ++ (x ++ B)) (A.length + a) = len1 sg x a := len1_eq (by rw [e]; exact scan_append h1)
  refine ⟨e1, ?_⟩
  unfold subL
  rw [e1, e, List.take_append_of_le_length (by rw [List.length_drop]; omega)]
theorem put_in {A x B u : List Int} {a i : Nat} (h : a + i ≤ x.length) : putL (A ++ (x ++ B)) (A.length + a) i u = A ++ (putL x a i u ++ B) := by
  unfold putL
  rw [List.take_append, List.take_of_length_le (by omega), show A.length + a - A.length = a by omega, List.take_append_of_le_length (by omega)]
  rw [show A.length + a + i = A.length + (a + i) by omega, ← List.drop_drop, List.drop_left, List.drop_append_of_le_length (by omega)]
  simp only [List.append_assoc]
theorem put_form {sg C x : List Int} {p : Nat} (hp : p ≤ C.length) : ∃ B, (∀ y, putAt sg C y p = C.take p ++ (y ++ B)) ∧ (C.take p).length = p := ⟨C.drop (p + len1 sg C p), fun _ => rfl, by rw [List.length_take]; omega⟩
theorem step_inside {sg : List Int} {x : Rl} {t v C : List Int} {a p : Nat} (hx : ruleOkB sg x = true) (ht : termOkB sg t = true) (ha : a < t.length) (h : stepO sg x t a = some v) (hC : termOkB sg C = true) (hp : p < C.length) (h1 : (putAt sg C t p).length ≤ 60) (h2 : (putAt sg C v p).length ≤ 60) :
    stepO sg x (putAt sg C t p) (p + a) = some (putAt sg C v p) ∧ p + a < (putAt sg C t p).length := by
  obtain ⟨L, hL, rfl, hf, hv⟩ := (step_iff hx ht ha).1 h
  have hT : termOkB sg (putAt sg C t p) = true := put_term hC ht hp h1
  obtain ⟨B, hB, hl⟩ := put_form (sg := sg) (x := x.1) (show p ≤ C.length by omega)
  obtain ⟨s1, s2⟩ := sub_in (A := C.take p) (B := B) ht ha
  rw [hl] at s1 s2
  rw [← hB t] at s1 s2
  have h3 := term_at ht ha
  have hpl : p + a < (putAt sg C t p).length := by rw [hB t, List.length_append, List.length_append, hl]; omega
  refine ⟨(step_iff hx hT hpl).2 ⟨L, by rw [s2]; exact hL, ?_, hf, h2⟩, hpl⟩
  have e := put_in (A := C.take p) (B := B) (u := fillL L x.2) (show a + len1 sg t a ≤ t.length from h3.2.2)
  rw [hl, ← hB t] at e
  show putAt sg C (putAt sg t (fillL L x.2) a) p = putL (putAt sg C t p) (p + a) (len1 sg (putAt sg C t p) (p + a)) (fillL L x.2)
  rw [s1, e, hB]
  rfl
theorem put_read {sg C t : List Int} {p : Nat} (ht : termOkB sg t = true) (hp : p ≤ C.length) : subL sg (putAt sg C t p) p = t := (put_sub ht hp _).2
theorem step_under {sg : List Int} {x : Rl} {t v : List Int} {a : Nat} {M : Nat → List Int} (hx : ruleOkB sg x = true) (ht : termOkB sg t = true) (ha : a < t.length) (h : stepO sg x t a = some v) (hM : ∀ y ∈ t, y < 0 → termOkB sg (M (vr y)) = true) (h1 : (fillL M t).length ≤ 60) (h2 : (fillL M v).length ≤ 60) :
    stepO sg x (fillL M t) (fillL M (t.take a)).length = some (fillL M v) ∧ (fillL M (t.take a)).length < (fillL M t).length := by
  obtain ⟨L, hL, rfl, hf, hv⟩ := (step_iff hx ht ha).1 h
  obtain ⟨e1, e2, e3⟩ := sub_len1 ht ha
  have hT := fill_term ht hM h1
  have hspl : t = t.take a ++ (subL sg t a ++ t.drop (a + (subL sg t a).length)) := by rw [← e2, List.take_append_drop]
  have hmem : ∀ y ∈ subL sg t a, y ∈ t := fun y hy => by rw [hspl]; simp [hy]
  have hsub := sub_ok ht ha
  have hscan : scan sg 1 (fillL M (subL sg t a)) = some (fillL M (subL sg t a)).length := scan_fill e3 (fun y hy h0 => (term_parts (hM y (hmem y hy) h0)).2.2)
  have hft : fillL M t = fillL M (t.take a) ++ (fillL M (subL sg t a) ++ fillL M (t.drop (a + (subL sg t a).length))) := by
    rw [← fill_append, ← fill_append]
    exact congrArg (fillL M) hspl
  have hpos : 1 ≤ (fillL M (subL sg t a)).length := scan_pos (q := 0) hscan
  have hlt : (fillL M (t.take a)).length < (fillL M t).length := by rw [hft, List.length_append, List.length_append]; omega
  have hdrop : (fillL M t).drop (fillL M (t.take a)).length = fillL M (subL sg t a) ++ fillL M (t.drop (a + (subL sg t a).length)) := by rw [hft, List.drop_left]
  have hl1 : len1 sg (fillL M t) (fillL M (t.take a)).length = (fillL M (subL sg t a)).length := len1_eq (by rw [hdrop]; exact scan_append hscan)
  have hs2 : subL sg (fillL M t) (fillL M (t.take a)).length = fillL M (subL sg t a) := by
    unfold subL
    rw [hl1, hdrop]
    exact List.take_left
  have hput : putAt sg (fillL M t) (fillL M (fillL L x.2)) (fillL M (t.take a)).length = fillL M (putAt sg t (fillL L x.2) a) := by
    have hd2 : (fillL M t).drop ((fillL M (t.take a)).length + (fillL M (subL sg t a)).length) = fillL M (t.drop (a + len1 sg t a)) := by rw [← List.drop_drop, hdrop, List.drop_left, e1]
    have ht2 : (fillL M t).take (fillL M (t.take a)).length = fillL M (t.take a) := by rw [hft, List.take_left]
    unfold putAt putL
    rw [hl1, fill_append, fill_append, hd2, ht2]
  refine ⟨(step_iff hx hT hlt).2 ⟨fun i => fillL M (L i), ?_, ?_, ?_, h2⟩, hlt⟩
  · rw [hs2]
    exact turns_trans hL ⟨rfl, fun y hy h0 => (term_parts (hM y (hmem y hy) h0)).2.2⟩
  · rw [← fill_fill, hput]
  · rw [← fill_fill]
    have h3 : (fillL M (putAt sg t (fillL L x.2) a)).length ≤ 60 := h2
    rw [← hput] at h3
    unfold putAt putL at h3
    rw [List.length_append, List.length_append] at h3
    omega
end Go.Proofs.YtpcnjcgglonifaaGreat.stepMath
end

section
namespace Go.Proofs.YtpcnjcgglonifaaGreat.walkMath
open sig term termOk termFacts fillMath gives sub matchMath putMath ruleMath stepMath

abbrev St := Int × Int × List Int
abbrev Wk := List Int × List St
def inB (x : Int) (n : Nat) : Bool := decide (0 ≤ x ∧ x < n)
def rightB (sg : List Int) (rs : List Rl) (t : List Int) : Bool := sysOkB sg rs && termOkB sg t
def thereR (sg : List Int) (rs : List Rl) (t : List Int) (a r : Int) : Bool := rightB sg rs t && (inB a t.length && inB r rs.length)
def rl (rs : List Rl) (r : Int) : Rl := rs.getD r.toNat ([], [])
def redexB (sg : List Int) (rs : List Rl) (t : List Int) (a r : Int) : Bool := thereR sg rs t a r && redB sg (rl rs r) t a.toNat
def stepAtO (sg : List Int) (rs : List Rl) (t : List Int) (a r : Int) : Option (List Int) := if thereR sg rs t a r = true then stepO sg (rl rs r) t a.toNat else none
def stepsL (sg : List Int) (rs : List Rl) (t : List Int) : List St := (List.range t.length).flatMap fun a => (List.range rs.length).filterMap fun r => (stepO sg (rs.getD r ([], [])) t a).map fun v => ((a : Int), (r : Int), v)
def stepsI (sg : List Int) (rs : List Rl) (t : List Int) : List St := if rightB sg rs t = true then stepsL sg rs t else []
def goOn (sg : List Int) (rs : List Rl) : List Int → List St → Option (List Int)
  | t, [] => some t
  | t, s :: ss => match stepAtO sg rs t s.1 s.2.1 with
    | some v => if v = s.2.2 then goOn sg rs v ss else none
    | none => none
def walkB (sg : List Int) (rs : List Rl) (w : Wk) : Bool := rightB sg rs w.1 && (decide (w.2.length ≤ 60) && (goOn sg rs w.1 w.2).isSome)
def endL (w : Wk) : List Int := match w.2.getLast? with
  | some s => s.2.2
  | none => w.1

theorem there_parts {sg : List Int} {rs : List Rl} {t : List Int} {a r : Int} (h : thereR sg rs t a r = true) : sysOkB sg rs = true ∧ termOkB sg t = true ∧ (0 ≤ a ∧ a < t.length) ∧ (0 ≤ r ∧ r < rs.length) := by
  unfold thereR rightB inB at h
  simp only [Bool.and_eq_true, decide_eq_true_eq] at h
  exact ⟨h.1.1, h.1.2, h.2.1, h.2.2⟩
theorem there_mk {sg : List Int} {rs : List Rl} {t : List Int} {a r : Int} (h1 : sysOkB sg rs = true) (h2 : termOkB sg t = true) (h3 : 0 ≤ a ∧ a < t.length) (h4 : 0 ≤ r ∧ r < rs.length) : thereR sg rs t a r = true := by
  unfold thereR rightB inB
  rw [h1, h2, decide_eq_true h3, decide_eq_true h4]
  rfl
theorem rl_ok {sg : List Int} {rs : List Rl} {r : Int} (h : sysOkB sg rs = true) (hr : 0 ≤ r ∧ r < rs.length) : ruleOkB sg (rl rs r) = true := (sys_parts h).2.2 _ (rl_mem (by omega))
theorem stepAt_parts {sg : List Int} {rs : List Rl} {t v : List Int} {a r : Int} (h : stepAtO sg rs t a r = some v) : thereR sg rs t a r = true ∧ stepO sg (rl rs r) t a.toNat = some v := by
  unfold stepAtO at h
  split at h
  · exact ⟨by assumption, h⟩
  · cases h
theorem stepAt_ok {sg : List Int} {rs : List Rl} {t v : List Int} {a r : Int} (h : stepAtO sg rs t a r = some v) : termOkB sg v = true := by
  obtain ⟨h1, h2⟩ := stepAt_parts h
  obtain ⟨q1, q2, q3, q4⟩ := there_parts h1
  exact step_ok (rl_ok q1 q4) q2 (by omega) h2
theorem stepAt_redex {sg : List Int} {rs : List Rl} {t v : List Int} {a r : Int} (h : stepAtO sg rs t a r = some v) : redexB sg rs t a r = true := by
  obtain ⟨h1, h2⟩ := stepAt_parts h
  unfold redexB
  rw [h1, Bool.true_and]
  unfold stepO at h2
  unfold redB
  cases hm : mst sg (subL sg t a.toNat) (rl rs r).1 0 s0 with
  | none => rw [hm] at h2; cases h2
  | some ss => rfl
theorem go_cons {sg : List Int} {rs : List Rl} {t v : List Int} {s : St} {ss : List St} : goOn sg rs t (s :: ss) = some v ↔ stepAtO sg rs t s.1 s.2.1 = some s.2.2 ∧ goOn sg rs s.2.2 ss = some v := by
  rw [goOn]
  cases h : stepAtO sg rs t s.1 s.2.1 with
  | none => simp
  | some u =>
    dsimp only
    split
    · rename_i e
      subst e
      simp
    · rename_i e
      constructor
      · intro h; cases h
      · rintro ⟨h, _⟩
        injection h with h
        exact absurd h e
theorem go_append {sg : List Int} {rs : List Rl} : ∀ {a b : List St} {t : List Int}, goOn sg rs t (a ++ b) = (goOn sg rs t a).bind fun v => goOn sg rs v b
  | [], b, t => rfl
  | s :: a, b, t => by
    show goOn sg rs t (s :: (a ++ b)) = _
    rw [goOn, goOn]
    cases h : stepAtO sg rs t s.1 s.2.1 with
    | none => rfl
    | some u =>
      dsimp only
      split
      · exact go_append
      · rfl
theorem end_cons (t : List Int) (s : St) (ss : List St) : endL (t, s :: ss) = endL (s.2.2, ss) := by
  unfold endL
  cases ss with
  | nil => rfl
  | cons u r =>
    rw [List.getLast?_cons_cons]
    cases h : (u :: r).getLast? with
    | none => simp at h
    | some z => rfl
theorem go_end {sg : List Int} {rs : List Rl} : ∀ {ss : List St} {t v : List Int}, goOn sg rs t ss = some v → v = endL (t, ss)
  | [], t, v, h => by injection h with h; exact h.symm
  | s :: ss, t, v, h => by
    obtain ⟨_, h2⟩ := go_cons.1 h
    rw [end_cons]
    exact go_end h2
theorem go_ok {sg : List Int} {rs : List Rl} : ∀ {ss : List St} {t v : List Int}, termOkB sg t = true → goOn sg rs t ss = some v → termOkB sg v = true ∧ ∀ s ∈ ss, termOkB sg s.2.2 = true
  | [], t, v, ht, h => by injection h with h; subst h; exact ⟨ht, fun s hs => by cases hs⟩
  | s :: ss, t, v, _, h => by
    obtain ⟨h1, h2⟩ := go_cons.1 h
    have h3 := stepAt_ok h1
    obtain ⟨h4, h5⟩ := go_ok h3 h2
    refine ⟨h4, fun u hu => ?_⟩
    rcases List.mem_cons.1 hu with rfl | hu
    · exact h3
    · exact h5 u hu
theorem walk_parts {sg : List Int} {rs : List Rl} {w : Wk} (h : walkB sg rs w = true) : sysOkB sg rs = true ∧ termOkB sg w.1 = true ∧ w.2.length ≤ 60 ∧ goOn sg rs w.1 w.2 = some (endL w) := by
  unfold walkB rightB at h
  simp only [Bool.and_eq_true, decide_eq_true_eq] at h
  obtain ⟨⟨h1, h2⟩, h3, h4⟩ := h
  obtain ⟨v, hv⟩ := Option.isSome_iff_exists.1 h4
  exact ⟨h1, h2, h3, by rw [hv, go_end hv]⟩
theorem walk_mk {sg : List Int} {rs : List Rl} {w : Wk} {v : List Int} (h1 : sysOkB sg rs = true) (h2 : termOkB sg w.1 = true) (h3 : w.2.length ≤ 60) (h4 : goOn sg rs w.1 w.2 = some v) : walkB sg rs w = true := by
  unfold walkB rightB
  rw [h1, h2, decide_eq_true h3, h4]
  rfl
theorem walk_cut {sg : List Int} {rs : List Rl} {w : Wk} (h : walkB sg rs w = true) (k : Nat) : walkB sg rs (w.1, w.2.take k) = true ∧ walkB sg rs (endL (w.1, w.2.take k), w.2.drop k) = true := by
  obtain ⟨h1, h2, h3, h4⟩ := walk_parts h
  have e : goOn sg rs w.1 (w.2.take k ++ w.2.drop k) = some (endL w) := by rw [List.take_append_drop]; exact h4
  rw [go_append] at e
  cases hv : goOn sg rs w.1 (w.2.take k) with
  | none => rw [hv] at e; cases e
  | some v =>
    rw [hv] at e
    have e : goOn sg rs v (w.2.drop k) = some (endL w) := e
    have hve := go_end hv
    refine ⟨walk_mk (w := (w.1, w.2.take k)) h1 h2 (by rw [List.length_take]; omega) hv, ?_⟩
    rw [← hve]
    exact walk_mk (w := (v, w.2.drop k)) h1 (go_ok h2 hv).1 (by rw [List.length_drop]; omega) e
def insS (sg C : List Int) (p : Nat) (ss : List St) : List St := ss.map fun s => ((p : Int) + s.1, s.2.1, putAt sg C s.2.2 p)
theorem go_inside {sg : List Int} {rs : List Rl} {C : List Int} {p : Nat} (hC : termOkB sg C = true) (hp : p < C.length) : ∀ {ss : List St} {t v : List Int}, goOn sg rs t ss = some v → (putAt sg C t p).length ≤ 60 → (∀ s ∈ ss, (putAt sg C s.2.2 p).length ≤ 60) → goOn sg rs (putAt sg C t p) (insS sg C p ss) = some (putAt sg C v p)
  | [], t, v, h, _, _ => by injection h with h; subst h; rfl
  | s :: ss, t, v, h, h60, hs => by
    obtain ⟨h1, h2⟩ := go_cons.1 h
    obtain ⟨q1, q2⟩ := stepAt_parts h1
    obtain ⟨r1, r2, r3, r4⟩ := there_parts q1
    have g60 := hs s (List.mem_cons_self ..)
    obtain ⟨e1, e2⟩ := step_inside (rl_ok r1 r4) r2 (show s.1.toNat < t.length by omega) q2 hC hp h60 g60
    refine go_cons.2 ⟨?_, go_inside hC hp h2 g60 fun u hu => hs u (List.mem_cons_of_mem _ hu)⟩
    show stepAtO sg rs (putAt sg C t p) ((p : Int) + s.1) s.2.1 = some (putAt sg C s.2.2 p)
    have ok2 : termOkB sg (putAt sg C t p) = true := put_term hC r2 hp h60
    unfold stepAtO
    rw [if_pos (there_mk r1 ok2 (by omega) r4), show ((p : Int) + s.1).toNat = p + s.1.toNat by omega]
    exact e1
def undS (M : Nat → List Int) : List Int → List St → List St
  | _, [] => []
  | t, s :: ss => (((fillL M (t.take s.1.toNat)).length : Int), s.2.1, fillL M s.2.2) :: undS M s.2.2 ss
theorem steps_mem {sg : List Int} {rs : List Rl} {t : List Int} {s : St} : s ∈ stepsL sg rs t ↔ ∃ a r : Nat, a < t.length ∧ r < rs.length ∧ s.1 = (a : Int) ∧ s.2.1 = (r : Int) ∧ stepO sg (rs.getD r ([], [])) t a = some s.2.2 := by
  unfold stepsL
  rw [List.mem_flatMap]
  constructor
  · rintro ⟨a, ha, h⟩
    obtain ⟨r, hr, h⟩ := List.mem_filterMap.1 h
    obtain ⟨v, hv, rfl⟩ := Option.map_eq_some_iff.1 h
    exact ⟨a, r, List.mem_range.1 ha, List.mem_range.1 hr, rfl, rfl, hv⟩
  · rintro ⟨a, r, ha, hr, e1, e2, h⟩
    refine ⟨a, List.mem_range.2 ha, List.mem_filterMap.2 ⟨r, List.mem_range.2 hr, ?_⟩⟩
    rw [h, Option.map_some, ← e1, ← e2]
theorem steps_at {sg : List Int} {rs : List Rl} {t : List Int} {s : St} (h1 : sysOkB sg rs = true) (h2 : termOkB sg t = true) (h : s ∈ stepsL sg rs t) : stepAtO sg rs t s.1 s.2.1 = some s.2.2 := by
  obtain ⟨a, r, ha, hr, e1, e2, e3⟩ := steps_mem.1 h
  unfold stepAtO
  rw [if_pos (there_mk h1 h2 (by omega) (by omega)), e1, e2, Int.toNat_natCast]
  unfold rl
  rw [Int.toNat_natCast]
  exact e3
end Go.Proofs.YtpcnjcgglonifaaGreat.walkMath
end

section
namespace Go.Proofs.YtpcnjcgglonifaaGreat.drawL7
open Go.RowKit base ints sig term termOk termFacts cursor marks app appAt sym segs segsHelp kinds dice drawTerm drawAny drawSub drawTermW drawX drawKnown drawSys drawSysAny drawSysD ruleMath ruleSpec gives heldT
open shape (Sh Dat nc dft sI sz sz_ints rd_ints)
open kindsR (sRule sSystem sRuleS sSig)
set_option maxRecDepth 100000

structure Dy (w : World) (p : Nat) (A : Option Addr) (n c : Nat) (S : Option Addr) (sn sc : Nat) (R : Option Addr) (rn rc : Nat) (d : Dat sSystem) (wr : World) : Prop where
  di : Dice wr p A n c
  r : Row wr w.heap.size 29 #[.slice S sn sc, .slice R rn rc]
  s : RdQ wr (Out wr p) sSystem [.slice S sn sc, .slice R rn rc] d
  g : w.grownBy wr (some p)
  hp : p < w.heap.size
section
variable {w : World} {p : Nat} {A : Option Addr} {n c : Nat} {S : Option Addr} {sn sc : Nat} {R : Option Addr} {rn rc : Nat} {d : Dat sSystem} {wr w' : World}
theorem Dy.dice (t : Dy w p A n c S sn sc R rn rc d wr) (h : Dice w' p A n c) (hg : wr.grownBy w' (some p)) : Dy w p A n c S sn sc R rn rc d w' :=
  ⟨h, Row.away t.r hg (fun e => by injection e with e; have := t.hp; omega), out_dice t.s hg, t.g.trans hg, t.hp⟩
theorem grown_of_below (hb : Below w.heap.size w w') (r : Option Nat) : w.grownBy w' r := ⟨hb.os, hb.tape, hb.output, hb.size, fun k hk _ => hb.block k hk⟩
theorem Dy.next (t : Dy w p A n c S sn sc R rn rc d wr) (hb : Below wr.heap.size wr w') : Dy w p A n c S sn sc R rn rc d w' :=
  ⟨t.di.next hb, t.r.next hb, out_below t.s hb, t.g.trans (grown_of_below hb _), t.hp⟩
theorem rdq_sig (h : RdQ wr (Out wr p) sSystem [.slice S sn sc, .slice R rn rc] d) : Go.Proofs.YtpcnjcgglonifaaGreat.drawTerm.Rd wr p wr.heap.size S sn d.1 := by
  obtain ⟨ca, cb, e, h1, h2⟩ := h
  have l1 := h1.len
  have l1 : ca.length = 1 := l1
  obtain ⟨x, rfl⟩ : ∃ x, ca = [x] := by
    cases ca with
    | nil => cases l1
    | cons x r => cases r with
      | nil => exact ⟨x, rfl⟩
      | cons y z => simp at l1
  rw [List.singleton_append, List.cons.injEq] at e
  obtain ⟨rfl, -⟩ := e
  obtain ⟨A, n, c, e, hc, hl, h1⟩ := h1
  injection e with e _
  injection e with e1 e2 e3
  subst e1 e2 e3
  refine ⟨hl, fun hn => ?_⟩
  obtain ⟨b, off, e2, hb, h2⟩ := h1 hn
  refine ⟨b, off, e2, hb.1, hb.2, fun j hj => ?_⟩
  obtain ⟨es, hel, hp, hr⟩ := h2 j hj
  have hr : es = [.int .i64 (d.1.getD j 0)] := hr
  subst hr
  have := hp 0 (by simp)
  simpa [nc] using this
theorem Dy.sg (t : Dy w p A n c S sn sc R rn rc d wr) : Go.Proofs.YtpcnjcgglonifaaGreat.drawTerm.Rd wr p wr.heap.size S sn d.1 := rdq_sig t.s
theorem Dy.rd (t : Dy w p A n c S sn sc R rn rc d wr) : Go.Proofs.YtpcnjcgglonifaaGreat.shape.Rd wr wr.heap.size sSystem [.slice S sn sc, .slice R rn rc] d := out_rd t.s
theorem Dy.len (t : Dy w p A n c S sn sc R rn rc d wr) (hz : sz sSystem d ≤ 1048576) : List.length d.2 = rn ∧ rn ≤ rc ∧ rc ≤ 9223372036854775807 := by
  obtain ⟨A1, n1, c1, A2, n2, c2, e1, e2, -, -, h5, h6, -⟩ := rd_sys t.rd hz
  injection e2 with e3 e4 e5
  subst e3 e4 e5
  exact ⟨h6, h5.1, h5.2.1⟩
theorem Dy.rule (t : Dy w p A n c S sn sc R rn rc d wr) (hz : sz sSystem d ≤ 1048576) {k : Nat} (hk : k < rn) : ∃ b off l ln lc, R = some ⟨b, off, none⟩ ∧ b < wr.heap.size ∧ wr.cell? ⟨b, off + k * 2, none⟩ = some (.slice l ln lc) ∧ Seg wr wr.heap.size l ln (d.2.getD k ([], [])).1 ∧ Cap l ln lc := by
  obtain ⟨A1, n1, c1, A2, n2, c2, e1, e2, -, -, -, h6, -, -, h9, -, h11⟩ := rd_sys t.rd hz
  injection e2 with e3 e4 e5
  subst e3 e4 e5
  obtain ⟨b, off, l, r, x, e, hb, ex, cl, -, hx⟩ := rd_at h9 (Below.refl wr.heap.size wr) h6 hk
  have hzx : sz sRule x ≤ 1048576 := by rw [← ex.out]; exact h11 k hk
  obtain ⟨L, ln, lc, L', ln', lc', rfl, rfl, s1, q1, -, -, -, -⟩ := rd_rule hx hzx
  exact ⟨b, off, L, ln, lc, e, hb, cl, by rw [ex.out]; exact s1, q1⟩
theorem ansR_from {w1 : World} {L : Nat} {e : Ending} (hg : w.grownBy w1 (some p)) (h : AnsR w1 p A n c L e w') : AnsR w p A n c L e w' := by
  obtain ⟨O, on, oc, xs, he, h1, h2, h3, h4, h5, h6, h7⟩ := h
  exact ⟨O, on, oc, xs, he, h1, h2, h3, h4, h5, h6, hg.trans h7⟩
theorem gives_each60 {ss : List (List Int)} (h : ∀ j, (ss.getD j []).length ≤ 60) (i : Nat) : (givesL ss i).length ≤ 60 := by
  unfold givesL
  split
  · simp [Go.Proofs.YtpcnjcgglonifaaGreat.fillMath.vt]
  · exact h i
theorem ansR_at {L base on oc : Nat} {O : Option Addr} {xs : List Int} (t : Dy w p A n c S sn sc R rn rc d wr) (h : Own wr base (.slice O on oc) xs) (hb : w.heap.size ≤ base) (hL : on ≤ L) : AnsR w p A n c L (.returned (.slice O on oc)) wr :=
  ansR_own h (Nat.lt_of_lt_of_le t.hp hb) hL t.di t.g
theorem fit_len {ss : List (List Int)} {t : List Int} (h : Go.Proofs.YtpcnjcgglonifaaGreat.filled.fitsB ss t = true) : (Go.Proofs.YtpcnjcgglonifaaGreat.filled.fitL ss t).length ≤ 60 := by
  unfold Go.Proofs.YtpcnjcgglonifaaGreat.filled.fitL
  rw [if_pos h]
  exact of_decide_eq_true h
theorem sys_rule2 {sg : List Int} {rs : List Rl} (h : sysOkB sg rs = true) {r : Nat} (hr : r < rs.length) : ruleOkB sg (rs.getD r ([], [])) = true := by
  have := Go.Proofs.YtpcnjcgglonifaaGreat.walkMath.rl_ok (r := (r : Int)) h (by omega)
  unfold Go.Proofs.YtpcnjcgglonifaaGreat.walkMath.rl at this
  simpa using this
theorem put_len {sg t u : List Int} {a : Nat} (h : Go.Proofs.YtpcnjcgglonifaaGreat.put.fitB sg t u a = true) : (Go.Proofs.YtpcnjcgglonifaaGreat.put.fitL sg t u a).length ≤ 60 := by
  unfold Go.Proofs.YtpcnjcgglonifaaGreat.put.fitL
  rw [if_pos h]
  exact of_decide_eq_true h
end

set_option maxHeartbeats 8000000 in
theorem l7DrawTerm (p : Nat) (A : Option Addr) (n c : Nat) (S : Option Addr) (sn sc : Nat) (R : Option Addr) (rn rc : Nat) (d : Dat sSystem) (w : World) (hd : Dice w p A n c) (hs : RdQ w (Out w p) sSystem [.slice S sn sc, .slice R rn rc] d) (hz : sz sSystem d ≤ 2000) :
    Calls Tryz.prog 87 #[.pointer (some ⟨p, 0, none⟩), .agg #[.slice S sn sc, .slice R rn rc]] w (AnsR w p A n c 65) := by
  obtain ⟨W, hW, rA, bel⟩ := box1 w 29 #[.slice S sn sc, .slice R rn rc]
  have T : Dy w p A n c S sn sc R rn rc d W := ⟨hd.next bel, rA, out_below hs bel, grown_of_below bel _, hd.lt⟩
  have hz1 : sz sSystem d ≤ 1048576 := by omega
  have hlr := T.len hz1
  have hsn : sn ≤ 1048576 := by
    have h1 := (sys_szs hz1).1
    rw [sz_ints] at h1
    have := T.sg.1
    omega
  have LS := Lib.hid (specSystemOk _ _ d W T.rd hz1)
  have HW := Lib.hid hW
  have HT := Lib.hid T
  have K0 : W.cell? ⟨w.heap.size, 0, none⟩ = some (.slice S sn sc) := T.r.cell 0
  have K1 : W.cell? ⟨w.heap.size, 1, none⟩ = some (.slice R rn rc) := T.r.cell 1
  have HLR := Lib.hid hlr.1
  have hrc := hlr.2
  clear hW hd hs bel rA T hlr
  have LA := Lib.hid (fun (w1 : World) (T : Dy w p A n c S sn sc R rn rc d w1) => (drawAny p A n c S sn sc d.1 w1 T.di T.sg hsn).mono fun _ _ h => ansR_from T.g h)
  cases ok : sysOkB d.1 d.2 with
  | false =>
    have HO := Lib.hid ok
    clear ok
    go_enter Tryz.func87, Tryz.ntmps87
    go_wp2_with fail
    rw [← HW.out]
    go_wp2_with fail
    refine LS.out.mono ?_
    rintro e w1 ⟨he, bb⟩
    rw [HO.out] at he
    subst he
    have HT1 := Lib.hid (HT.out.next bb)
    have k0 : w1.cell? ⟨w.heap.size, 0, none⟩ = some (.slice S sn sc) := HT1.out.r.cell 0
    clear bb K0 K1 HT LS HW
    have LAX := Lib.hid (LA.out w1 HT1.out)
    go_wp2_with fail
    refine LAX.out.mono ?_
    rintro e w9 ⟨O9, on9, oc9, xs9, rfl, z1, z2, z3, z4, z5, z6, z7⟩
    have F := Lib.hid (show AnsR w p A n c 65 (.returned (.slice O9 on9 oc9)) w9 from ⟨O9, on9, oc9, xs9, rfl, z1, z2, z3, z4, z5, z6, z7⟩)
    clear z1 z2 z3 z4 z5 z6 z7 LAX HT1
    go_wp2
    go_ret
    exact F.out
  | true =>
    have HO := Lib.hid ok
    have hsp := sys_parts ok
    have hars := Lib.hid (sig_arities hsp.1).1
    have hsl : 1 ≤ sn ∧ sn ≤ 8 := by have h1 := (sig_arities hsp.1).2; have h2 := HT.out.sg.1; omega
    have hrn : rn ≤ 12 := by have h1 := hsp.2.1; have h2 := HLR.out; omega
    clear ok hsp
    by_cases h0 : rn = 0
    · have h0' : ¬ (0 : Int) < (rn : Int) := by omega
      have h0d : decide ((0 : Int) < (rn : Int)) = false := decide_eq_false h0'
      clear h0
      go_enter Tryz.func87, Tryz.ntmps87
      go_wp2_with fail
      rw [← HW.out]
      go_wp2_with fail
      refine LS.out.mono ?_
      rintro e w1 ⟨he, bb⟩
      rw [HO.out] at he
      subst he
      have HT1 := Lib.hid (HT.out.next bb)
      have k0 : w1.cell? ⟨w.heap.size, 0, none⟩ = some (.slice S sn sc) := HT1.out.r.cell 0
      have k1 : w1.cell? ⟨w.heap.size, 1, none⟩ = some (.slice R rn rc) := HT1.out.r.cell 1
      clear bb K0 K1 HT LS HW
      have LAX := Lib.hid (LA.out w1 HT1.out)
      go_wp2_with fail
      refine LAX.out.mono ?_
      rintro e w9 ⟨O9, on9, oc9, xs9, rfl, z1, z2, z3, z4, z5, z6, z7⟩
      have F := Lib.hid (show AnsR w p A n c 65 (.returned (.slice O9 on9 oc9)) w9 from ⟨O9, on9, oc9, xs9, rfl, z1, z2, z3, z4, z5, z6, z7⟩)
      clear z1 z2 z3 z4 z5 z6 z7 LAX HT1
      go_wp2
      go_ret
      exact F.out
    · have h0' : (0 : Int) < (rn : Int) := by omega
      have h0d : decide ((0 : Int) < (rn : Int)) = true := decide_eq_true h0'
      have h0n : 0 < rn := by omega
      clear h0
      go_enter Tryz.func87, Tryz.ntmps87
      go_wp2_with fail
      rw [← HW.out]
      go_wp2_with fail
      refine LS.out.mono ?_
      rintro e w1 ⟨he, bb⟩
      rw [HO.out] at he
      subst he
      have HT1 := Lib.hid (HT.out.next bb)
      have k0 : w1.cell? ⟨w.heap.size, 0, none⟩ = some (.slice S sn sc) := HT1.out.r.cell 0
      have k1 : w1.cell? ⟨w.heap.size, 1, none⟩ = some (.slice R rn rc) := HT1.out.r.cell 1
      have LO := Lib.hid (once p A n c 2 w1 HT1.out.di (by omega) (by omega))
      clear bb K0 K1 HT LS HW
      go_wp2_with fail
      refine LO.out.mono ?_
      rintro e w2 ⟨b1, rfl, d2, g2⟩
      have HT2 := Lib.hid (HT1.out.dice d2 g2)
      clear d2 g2 k0 k1 HT1 LO
      cases b1 with
      | false =>
        have k0 : w2.cell? ⟨w.heap.size, 0, none⟩ = some (.slice S sn sc) := HT2.out.r.cell 0
        have LAX := Lib.hid (LA.out w2 HT2.out)
        go_wp2_with fail
        refine LAX.out.mono ?_
        rintro e w9 ⟨O9, on9, oc9, xs9, rfl, z1, z2, z3, z4, z5, z6, z7⟩
        have F := Lib.hid (show AnsR w p A n c 65 (.returned (.slice O9 on9 oc9)) w9 from ⟨O9, on9, oc9, xs9, rfl, z1, z2, z3, z4, z5, z6, z7⟩)
        clear z1 z2 z3 z4 z5 z6 z7 LAX HT2
        go_wp2
        go_ret
        exact F.out
      | true =>
        have T := HT2.out.next (drew_below w2)
        have c0 : w2.drew.cell? ⟨w.heap.size, 0, none⟩ = some (.slice S sn sc) := T.r.cell 0
        have c1 : w2.drew.cell? ⟨w.heap.size, 1, none⟩ = some (.slice R rn rc) := T.r.cell 1
        have hpw : p < w.heap.size := T.hp
        clear HT2
        go_wp2_with fail
        have hpw2 : p < w2.drew.heap.size := Nat.lt_of_lt_of_le hpw T.g.size
        refine AnyT.start (S := (fun w' => w'.cell? ⟨w.heap.size, 0, none⟩ = some (.slice S sn sc) ∧ w'.cell? ⟨w.heap.size, 1, none⟩ = some (.slice R rn rc))) (fun _ => false) (by kernel_rfl) ⟨c0, c1⟩ (fun hHeld => ?_)
        refine AnyT.takeA (i := 0) (v := ?_) rfl (by kernel_rfl) (by kernel_rfl) (by kernel_rfl) (fun _ _ _ h => h) (Or.inl ⟨by rfl, ?_⟩) ?_
        rotate_left 1
        · (intro w0 _; go_simp; try with_reducible rfl)
        try simp only [Act.put, List.setIfInBounds_toArray, List.set_cons_zero, List.set_cons_succ, List.getElem_toArray, List.getElem_cons_zero, List.getElem_cons_succ]
        refine AnyT.takeA (i := 1) (v := ?_) rfl (by kernel_rfl) (by kernel_rfl) (by kernel_rfl) (fun _ _ _ h => h) (Or.inl ⟨by rfl, ?_⟩) ?_
        rotate_left 1
        · (intro w0 _; go_simp; try with_reducible rfl)
        try simp only [Act.put, List.setIfInBounds_toArray, List.set_cons_zero, List.set_cons_succ, List.getElem_toArray, List.getElem_cons_zero, List.getElem_cons_succ]
        refine AnyT.take (i := 2) (v := ?_) rfl (by kernel_rfl) (by kernel_rfl) (by kernel_rfl) (by kernel_rfl) (fun _ _ _ h => h) (Or.inl ⟨by rfl, ?_⟩) (by assumption) ?_
        rotate_left 1
        · (intro w0 hSw; (try dsimp only at hSw); go_simp; try with_reducible rfl)
        try simp only [Act.put, List.setIfInBounds_toArray, List.set_cons_zero, List.set_cons_succ, List.getElem_toArray, List.getElem_cons_zero, List.getElem_cons_succ]
        refine AnyT.takeA (i := 4) (v := ?_) rfl (by kernel_rfl) (by kernel_rfl) (by kernel_rfl) (fun _ _ _ h => h) (Or.inl ⟨by rfl, ?_⟩) ?_
        rotate_left 1
        · (intro w0 _; go_simp; try with_reducible rfl)
        try simp only [Act.put, List.setIfInBounds_toArray, List.set_cons_zero, List.set_cons_succ, List.getElem_toArray, List.getElem_cons_zero, List.getElem_cons_succ]
        refine AnyT.take (i := 5) (v := ?_) rfl (by kernel_rfl) (by kernel_rfl) (by kernel_rfl) (by kernel_rfl) (fun _ _ _ h => h) (Or.inl ⟨by rfl, ?_⟩) (by assumption) ?_
        rotate_left 1
        · (intro w0 hSw; (try dsimp only at hSw); go_simp; try with_reducible rfl)
        try simp only [Act.put, List.setIfInBounds_toArray, List.set_cons_zero, List.set_cons_succ, List.getElem_toArray, List.getElem_cons_zero, List.getElem_cons_succ]
        refine AnyT.takeA (i := 6) (v := ?_) rfl (by kernel_rfl) (by kernel_rfl) (by kernel_rfl) (fun _ _ _ h => h) (Or.inl ⟨by rfl, ?_⟩) ?_
        rotate_left 1
        · (intro w0 _; go_simp; try with_reducible rfl)
        try simp only [Act.put, List.setIfInBounds_toArray, List.set_cons_zero, List.set_cons_succ, List.getElem_toArray, List.getElem_cons_zero, List.getElem_cons_succ]
        refine AnyT.takeA (i := 7) (v := ?_) rfl (by kernel_rfl) (by kernel_rfl) (by kernel_rfl) (fun _ _ _ h => h) (Or.inl ⟨by rfl, ?_⟩) ?_
        rotate_left 1
        · (intro w0 _; go_simp; try with_reducible rfl)
        try simp only [Act.put, List.setIfInBounds_toArray, List.set_cons_zero, List.set_cons_succ, List.getElem_toArray, List.getElem_cons_zero, List.getElem_cons_succ]
        refine AnyT.take (i := 8) (v := ?_) rfl (by kernel_rfl) (by kernel_rfl) (by kernel_rfl) (by kernel_rfl) (fun _ _ _ h => h) (Or.inl ⟨by rfl, ?_⟩) (by assumption) ?_
        rotate_left 1
        · (intro w0 hSw; (try dsimp only at hSw); go_simp; try with_reducible rfl)
        try simp only [Act.put, List.setIfInBounds_toArray, List.set_cons_zero, List.set_cons_succ, List.getElem_toArray, List.getElem_cons_zero, List.getElem_cons_succ]
        refine AnyT.takeA (i := 9) (v := ?_) rfl (by kernel_rfl) (by kernel_rfl) (by kernel_rfl) (fun _ _ _ h => h) (Or.inl ⟨by rfl, ?_⟩) ?_
        rotate_left 1
        · (intro w0 _; go_simp; try with_reducible rfl)
        try simp only [Act.put, List.setIfInBounds_toArray, List.set_cons_zero, List.set_cons_succ, List.getElem_toArray, List.getElem_cons_zero, List.getElem_cons_succ]
        refine AnyT.call (i := 3) (by kernel_rfl) rfl (fun K hK => ?_)
        try simp only [Act.put, List.setIfInBounds_toArray, List.set_cons_zero, List.set_cons_succ, List.getElem_toArray, List.getElem_cons_zero, List.getElem_cons_succ]
        rw [if_pos (by rfl)]
        go_simp
        (go_at_call 123; refine (Go.Proofs.YtpcnjcgglonifaaGreat.drawS.draw p A n c S sn sc d.1 _ T.di T.sg hars.out (by omega) (by omega)).mono ?_; rintro e u1 ⟨B, m, cB, xss, rfl, oB, hB, d1, g1⟩; replace T := T.dice d1 g1; have e0u1 : u1.cell? ⟨w.heap.size, 0, none⟩ = some (.slice S sn sc) := T.r.cell 0; have e1u1 : u1.cell? ⟨w.heap.size, 1, none⟩ = some (.slice R rn rc) := T.r.cell 1; go_wp2_with fail)
        refine hK.out _ _ (fun _ _ => ?_) (fun hKeep => ?_)
        · exact ⟨e0u1, e1u1⟩
        replace hHeld := hKeep (by first | rfl | trivial) hHeld
        clear hK K hKeep
        try simp only [Act.put, List.setIfInBounds_toArray, List.set_cons_zero, List.set_cons_succ, List.getElem_toArray, List.getElem_cons_zero, List.getElem_cons_succ]
        refine AnyT.call (i := 10) (by kernel_rfl) rfl (fun K hK => ?_)
        try simp only [Act.put, List.setIfInBounds_toArray, List.set_cons_zero, List.set_cons_succ, List.getElem_toArray, List.getElem_cons_zero, List.getElem_cons_succ]
        rw [if_pos (by rfl)]
        go_simp
        (go_at_call 90; refine (below p A n c (rn : Int) _ T.di (by omega) (by omega)).mono ?_; rintro e u2 ⟨x, rfl, hx0, hx1, d2, g2⟩; replace T := T.dice d2 g2; obtain ⟨k, rfl⟩ := Int.eq_ofNat_of_zero_le hx0; have hk : k < rn := (by omega); have oB2 := oB.dice g2 hpw2; have e0u2 : u2.cell? ⟨w.heap.size, 0, none⟩ = some (.slice S sn sc) := T.r.cell 0; have e1u2 : u2.cell? ⟨w.heap.size, 1, none⟩ = some (.slice R rn rc) := T.r.cell 1; go_wp2_with fail)
        refine hK.out _ _ (fun _ _ => ?_) (fun hKeep => ?_)
        · exact ⟨e0u2, e1u2⟩
        replace hHeld := hKeep (by first | rfl | trivial) hHeld
        clear hK K hKeep
        try simp only [Act.put, List.setIfInBounds_toArray, List.set_cons_zero, List.set_cons_succ, List.getElem_toArray, List.getElem_cons_zero, List.getElem_cons_succ]
        obtain ⟨rb, roff, lA, ln, lc, hR, hrb, cl, sL, qL⟩ := T.rule hz1 hk
        subst hR
        have hl60 : ln ≤ 60 := by have h1 := (rule_parts (sys_rule2 HO.out (show k < d.2.length by rw [HLR.out]; exact hk))).1; have h2 := (term_len h1).2; have h3 := sL.1; omega
        have hvars := Lib.hid (fun (x : Int) hx => (term_mem (rule_parts (sys_rule2 HO.out (show k < d.2.length by rw [HLR.out]; exact hk))).1 (x := x) hx).1)
        obtain ⟨ls, hls⟩ : ∃ l, (d.2.getD k ([], [])).1 = l := ⟨_, rfl⟩
        rw [hls] at sL hvars
        clear hls
        have i0 : (0 : Int) ≤ (k : Int) := by omega
        have i1 : (k : Int) < (rn : Int) := by omega
        have HSL := Lib.hid sL
        have HSB := Lib.hid (Go.Proofs.YtpcnjcgglonifaaGreat.drawSS.OwnR.segs oB2)
        have hT1 := Lib.hid (small_tot hB oB2.1 (by omega))
        have hG1 := Lib.hid (gives_each60 (fun j => Nat.le_trans (hB.2 j) (by omega)))
        clear sL d1 g1 d2 g2 oB hx0 hx1
        refine AnyT.call (i := 11) (by kernel_rfl) rfl (fun K hK => ?_)
        try simp only [Act.put, List.setIfInBounds_toArray, List.set_cons_zero, List.set_cons_succ, List.getElem_toArray, List.getElem_cons_zero, List.getElem_cons_succ]
        rw [if_pos (by rfl)]
        go_simp
        refine hK.out _ _ (fun _ _ => ?_) (fun hKeep => ?_)
        · exact ⟨e0u2, e1u2⟩
        replace hHeld := hKeep (by first | rfl | trivial) hHeld
        clear hK K hKeep
        try simp only [Act.put, List.setIfInBounds_toArray, List.set_cons_zero, List.set_cons_succ, List.getElem_toArray, List.getElem_cons_zero, List.getElem_cons_succ]
        refine AnyT.call (i := 12) (by kernel_rfl) rfl (fun K hK => ?_)
        try simp only [Act.put, List.setIfInBounds_toArray, List.set_cons_zero, List.set_cons_succ, List.getElem_toArray, List.getElem_cons_zero, List.getElem_cons_succ]
        rw [if_pos (by rfl)]
        go_simp
        refine hK.out _ _ (fun _ _ => ?_) (fun hKeep => ?_)
        · exact ⟨e0u2, e1u2⟩
        replace hHeld := hKeep (by first | rfl | trivial) hHeld
        clear hK K hKeep
        try simp only [Act.put, List.setIfInBounds_toArray, List.set_cons_zero, List.set_cons_succ, List.getElem_toArray, List.getElem_cons_zero, List.getElem_cons_succ]
        refine AnyT.call (i := 13) (by kernel_rfl) rfl (fun K hK => ?_)
        try simp only [Act.put, List.setIfInBounds_toArray, List.set_cons_zero, List.set_cons_succ, List.getElem_toArray, List.getElem_cons_zero, List.getElem_cons_succ]
        rw [if_pos (by rfl)]
        go_simp
        refine hK.out _ _ (fun _ _ => ?_) (fun hKeep => ?_)
        · exact ⟨e0u2, e1u2⟩
        replace hHeld := hKeep (by first | rfl | trivial) hHeld
        clear hK K hKeep
        try simp only [Act.put, List.setIfInBounds_toArray, List.set_cons_zero, List.set_cons_succ, List.getElem_toArray, List.getElem_cons_zero, List.getElem_cons_succ]
        refine AnyT.call (i := 14) (by kernel_rfl) rfl (fun K hK => ?_)
        try simp only [Act.put, List.setIfInBounds_toArray, List.set_cons_zero, List.set_cons_succ, List.getElem_toArray, List.getElem_cons_zero, List.getElem_cons_succ]
        rw [if_pos (by rfl)]
        go_simp
        (go_at_call 83; refine (Go.Proofs.YtpcnjcgglonifaaGreat.filled.l2Filled B lA m cB ln lc xss ls u2 HSB.out HSL.out hT1.out hl60 hvars.out hG1.out).mono ?_; rintro e u3 ⟨O, on, oc, rfl, oO, b3⟩; have zu2 : w.heap.size ≤ u2.heap.size := T.g.size; replace T := T.next b3; have zu3 := b3.size; have e0u3 : u3.cell? ⟨w.heap.size, 0, none⟩ = some (.slice S sn sc) := T.r.cell 0; have e1u3 : u3.cell? ⟨w.heap.size, 1, none⟩ = some (.slice (some ⟨rb, roff, none⟩) rn rc) := T.r.cell 1; go_wp2_with fail)
        refine hK.out _ _ (fun _ _ => ?_) (fun hKeep => ?_)
        · exact ⟨e0u3, e1u3⟩
        replace hHeld := hKeep (by first | rfl | trivial) hHeld
        clear hK K hKeep
        try simp only [Act.put, List.setIfInBounds_toArray, List.set_cons_zero, List.set_cons_succ, List.getElem_toArray, List.getElem_cons_zero, List.getElem_cons_succ]
        refine AnyT.takeA (i := 15) (v := ?_) rfl (by kernel_rfl) (by kernel_rfl) (by kernel_rfl) (fun _ _ _ h => h) (Or.inl ⟨by rfl, ?_⟩) ?_
        rotate_left 1
        · (intro w0 _; go_simp; try with_reducible rfl)
        try simp only [Act.put, List.setIfInBounds_toArray, List.set_cons_zero, List.set_cons_succ, List.getElem_toArray, List.getElem_cons_zero, List.getElem_cons_succ]
        refine AnyT.takeA (i := 16) (v := ?_) rfl (by kernel_rfl) (by kernel_rfl) (by kernel_rfl) (fun _ _ _ h => h) (Or.inl ⟨by rfl, ?_⟩) ?_
        rotate_left 1
        · (intro w0 _; go_simp; try with_reducible rfl)
        try simp only [Act.put, List.setIfInBounds_toArray, List.set_cons_zero, List.set_cons_succ, List.getElem_toArray, List.getElem_cons_zero, List.getElem_cons_succ]
        refine AnyT.takeA (i := 17) (v := ?_) rfl (by kernel_rfl) (by kernel_rfl) (by kernel_rfl) (fun _ _ _ h => h) (Or.inl ⟨by rfl, ?_⟩) ?_
        rotate_left 1
        · (intro w0 _; go_simp; try with_reducible rfl)
        try simp only [Act.put, List.setIfInBounds_toArray, List.set_cons_zero, List.set_cons_succ, List.getElem_toArray, List.getElem_cons_zero, List.getElem_cons_succ]
        refine AnyT.takeA (i := 18) (v := ?_) rfl (by kernel_rfl) (by kernel_rfl) (by kernel_rfl) (fun _ _ _ h => h) (Or.inl ⟨by rfl, ?_⟩) ?_
        rotate_left 1
        · (intro w0 _; go_simp; try with_reducible rfl)
        try simp only [Act.put, List.setIfInBounds_toArray, List.set_cons_zero, List.set_cons_succ, List.getElem_toArray, List.getElem_cons_zero, List.getElem_cons_succ]
        refine AnyT.takeA (i := 19) (v := ?_) rfl (by kernel_rfl) (by kernel_rfl) (by kernel_rfl) (fun _ _ _ h => h) (Or.inl ⟨by rfl, ?_⟩) ?_
        rotate_left 1
        · (intro w0 _; go_simp; try with_reducible rfl)
        try simp only [Act.put, List.setIfInBounds_toArray, List.set_cons_zero, List.set_cons_succ, List.getElem_toArray, List.getElem_cons_zero, List.getElem_cons_succ]
        refine AnyT.done (by kernel_rfl) ?_ _
        clear e0u1 e1u1 e0u2 e1u2 e0u3 e1u3 cl
        have HT5 := Lib.hid T
        have HOO := Lib.hid oO
        clear T oO b3
        obtain ⟨bf, hbf⟩ : ∃ b, Go.Proofs.YtpcnjcgglonifaaGreat.filled.fitsB xss ls = b := ⟨_, rfl⟩
        obtain ⟨ys, hys⟩ : ∃ y, Go.Proofs.YtpcnjcgglonifaaGreat.filled.fitL xss ls = y := ⟨_, rfl⟩
        rw [hys] at HOO
        rw [hbf]
        have HYS := Lib.hid (show bf = true → ys.length ≤ 60 from fun e => by rw [← hys]; exact fit_len (hbf.trans e))
        clear hbf hys c0 c1
        cases bf with
        | false =>
          have k0 : u3.cell? ⟨w.heap.size, 0, none⟩ = some (.slice S sn sc) := HT5.out.r.cell 0
          have LAX := Lib.hid (LA.out u3 HT5.out)
          go_wp2_with fail
          refine LAX.out.mono ?_
          rintro e w9 ⟨O9, on9, oc9, xs9, rfl, z1, z2, z3, z4, z5, z6, z7⟩
          have F := Lib.hid (show AnsR w p A n c 65 (.returned (.slice O9 on9 oc9)) w9 from ⟨O9, on9, oc9, xs9, rfl, z1, z2, z3, z4, z5, z6, z7⟩)
          clear z1 z2 z3 z4 z5 z6 z7 LAX HT5
          go_wp2
          go_ret
          exact F.out
        | true =>
          have hon60 : on ≤ 60 := by have h1 := HYS.out rfl; have h2 := Own.len HOO.out; omega
          have LO := Lib.hid (once p A n c 2 u3 HT5.out.di (by omega) (by omega))
          go_wp2_with fail
          refine LO.out.mono ?_
          rintro e w6 ⟨b2, rfl, d6, g6⟩
          have HT6 := Lib.hid (HT5.out.dice d6 g6)
          have HO6 := Lib.hid (Go.Proofs.YtpcnjcgglonifaaGreat.drawSig.Own.away HOO.out g6 (fun k e => by injection e with e; omega))
          clear d6 g6 HT5 HOO LO
          cases b2 with
          | true =>
            have F := Lib.hid (ansR_at (L := 65) HT6.out HO6.out (by omega) (by omega))
            clear HT6 HO6
            go_wp2
            go_ret
            exact F.out
          | false =>
            have k0 : w6.cell? ⟨w.heap.size, 0, none⟩ = some (.slice S sn sc) := HT6.out.r.cell 0
            have LU := Lib.hid (drawTermW p A n c S sn sc d.1 2 hars.out (by omega) (by omega) (by omega) (by omega) 2 3 w6 HT6.out.di HT6.out.sg (by omega) (by omega) (by omega))
            go_wp2_with fail
            refine LU.out.mono ?_
            rintro e w7 ⟨U, un, uc, us, rfl, oU, hu1, hu2, husc, d7, g7⟩
            have hw67 : w6.heap.size ≤ w7.heap.size := g7.size
            have HT7 := Lib.hid (HT6.out.dice d7 g7)
            have HO7 := Lib.hid (Go.Proofs.YtpcnjcgglonifaaGreat.drawSig.Own.away HO6.out g7 (fun k e => by injection e with e; omega))
            have hu16 : un ≤ 16 := by have : (4 : Nat) ^ 2 = 16 := rfl; omega
            have HUT := Lib.hid (show termOkB d.1 us = true from term_mk (sys_parts HO.out).1 (by have := Own.len oU; omega) husc)
            have hpw7 : p < w7.heap.size := Nat.lt_of_lt_of_le hpw HT7.out.g.size
            have hw6 : w.heap.size ≤ w6.heap.size := HT6.out.g.size
            have T := HT7.out.next (drew_below w7)
            have oU1 := oU.next (drew_below w7)
            have oY1 := HO7.out.next (drew_below w7)
            have c0 : w7.drew.cell? ⟨w.heap.size, 0, none⟩ = some (.slice S sn sc) := T.r.cell 0
            clear k0 d7 g7 HT6 HO6 LU husc oU HT7 HO7
            go_wp2_with fail
            refine AnyT.start (S := (fun w' => w'.cell? ⟨w.heap.size, 0, none⟩ = some (.slice S sn sc))) (fun _ => false) (by kernel_rfl) c0 (fun hHeld => ?_)
            refine AnyT.takeA (i := 0) (v := ?_) rfl (by kernel_rfl) (by kernel_rfl) (by kernel_rfl) (fun _ _ _ h => h) (Or.inl ⟨by rfl, ?_⟩) ?_
            rotate_left 1
            · (intro w0 _; go_simp; try with_reducible rfl)
            try simp only [Act.put, List.setIfInBounds_toArray, List.set_cons_zero, List.set_cons_succ, List.getElem_toArray, List.getElem_cons_zero, List.getElem_cons_succ]
            refine AnyT.take (i := 1) (v := ?_) rfl (by kernel_rfl) (by kernel_rfl) (by kernel_rfl) (by kernel_rfl) (fun _ _ _ h => h) (Or.inl ⟨by rfl, ?_⟩) (by assumption) ?_
            rotate_left 1
            · (intro w0 hSw; (try dsimp only at hSw); go_simp; try with_reducible rfl)
            try simp only [Act.put, List.setIfInBounds_toArray, List.set_cons_zero, List.set_cons_succ, List.getElem_toArray, List.getElem_cons_zero, List.getElem_cons_succ]
            refine AnyT.takeA (i := 2) (v := ?_) rfl (by kernel_rfl) (by kernel_rfl) (by kernel_rfl) (fun _ _ _ h => h) (Or.inl ⟨by rfl, ?_⟩) ?_
            rotate_left 1
            · (intro w0 _; go_simp; try with_reducible rfl)
            try simp only [Act.put, List.setIfInBounds_toArray, List.set_cons_zero, List.set_cons_succ, List.getElem_toArray, List.getElem_cons_zero, List.getElem_cons_succ]
            refine AnyT.takeA (i := 3) (v := ?_) rfl (by kernel_rfl) (by kernel_rfl) (by kernel_rfl) (fun _ _ _ h => h) (Or.inl ⟨by rfl, ?_⟩) ?_
            rotate_left 1
            · (intro w0 _; go_simp; try with_reducible rfl)
            try simp only [Act.put, List.setIfInBounds_toArray, List.set_cons_zero, List.set_cons_succ, List.getElem_toArray, List.getElem_cons_zero, List.getElem_cons_succ]
            refine AnyT.takeA (i := 4) (v := ?_) rfl (by kernel_rfl) (by kernel_rfl) (by kernel_rfl) (fun _ _ _ h => h) (Or.inl ⟨by rfl, ?_⟩) ?_
            rotate_left 1
            · (intro w0 _; go_simp; try with_reducible rfl)
            try simp only [Act.put, List.setIfInBounds_toArray, List.set_cons_zero, List.set_cons_succ, List.getElem_toArray, List.getElem_cons_zero, List.getElem_cons_succ]
            refine AnyT.takeA (i := 5) (v := ?_) rfl (by kernel_rfl) (by kernel_rfl) (by kernel_rfl) (fun _ _ _ h => h) (Or.inl ⟨by rfl, ?_⟩) ?_
            rotate_left 1
            · (intro w0 _; go_simp; try with_reducible rfl)
            try simp only [Act.put, List.setIfInBounds_toArray, List.set_cons_zero, List.set_cons_succ, List.getElem_toArray, List.getElem_cons_zero, List.getElem_cons_succ]
            refine AnyT.takeA (i := 7) (v := ?_) rfl (by kernel_rfl) (by kernel_rfl) (by kernel_rfl) (fun _ _ _ h => h) (Or.inl ⟨by rfl, ?_⟩) ?_
            rotate_left 1
            · (intro w0 _; go_simp; try with_reducible rfl)
            try simp only [Act.put, List.setIfInBounds_toArray, List.set_cons_zero, List.set_cons_succ, List.getElem_toArray, List.getElem_cons_zero, List.getElem_cons_succ]
            refine AnyT.call (i := 6) (by kernel_rfl) rfl (fun K hK => ?_)
            try simp only [Act.put, List.setIfInBounds_toArray, List.set_cons_zero, List.set_cons_succ, List.getElem_toArray, List.getElem_cons_zero, List.getElem_cons_succ]
            rw [if_pos (by rfl)]
            go_simp
            (go_at_call 90; refine (below p A n c (un : Int) _ T.di (by omega) (by omega)).mono ?_; rintro e u9 ⟨x, rfl, hx0, hx1, d9, g9⟩; replace T := T.dice d9 g9; obtain ⟨a, rfl⟩ := Int.eq_ofNat_of_zero_le hx0; have ha : a < un := (by omega); have oU2 := Go.Proofs.YtpcnjcgglonifaaGreat.drawSig.Own.away oU1 g9 (fun k e => by injection e with e; omega); have oY2 := Go.Proofs.YtpcnjcgglonifaaGreat.drawSig.Own.away oY1 g9 (fun k e => by injection e with e; omega); have e0u9 : u9.cell? ⟨w.heap.size, 0, none⟩ = some (.slice S sn sc) := T.r.cell 0; go_wp2_with fail)
            refine hK.out _ _ (fun _ _ => ?_) (fun hKeep => ?_)
            · exact e0u9
            replace hHeld := hKeep (by first | rfl | trivial) hHeld
            clear hK K hKeep
            try simp only [Act.put, List.setIfInBounds_toArray, List.set_cons_zero, List.set_cons_succ, List.getElem_toArray, List.getElem_cons_zero, List.getElem_cons_succ]
            have haU : a < us.length := by have := Own.len oU2; omega
            have LP := Lib.hid (Go.Proofs.YtpcnjcgglonifaaGreat.put.l3Put S U O sn sc un uc on oc d.1 us ys a u9 T.sg.seg (Own.seg oU2) (Own.seg oY2) (look.own_cap oY2).2.2 (by omega) (by omega) hon60 (look.own_cap oU2).1 (look.own_cap oU2).2.1 HUT.out haU)
            clear d9 g9 oU1 oY1 oU2 oY2 hx0 hx1 haU
            refine AnyT.call (i := 8) (by kernel_rfl) rfl (fun K hK => ?_)
            try simp only [Act.put, List.setIfInBounds_toArray, List.set_cons_zero, List.set_cons_succ, List.getElem_toArray, List.getElem_cons_zero, List.getElem_cons_succ]
            rw [if_pos (by rfl)]
            go_simp
            (go_at_call 71; refine LP.out.mono ?_; rintro e u10 ⟨X, xn, xc, rfl, oX, b10⟩; have zu9 : w.heap.size ≤ u9.heap.size := T.g.size; replace T := T.next b10; have e0u10 : u10.cell? ⟨w.heap.size, 0, none⟩ = some (.slice S sn sc) := T.r.cell 0; go_wp2_with fail)
            refine hK.out _ _ (fun _ _ => ?_) (fun hKeep => ?_)
            · exact e0u10
            replace hHeld := hKeep (by first | rfl | trivial) hHeld
            clear hK K hKeep
            try simp only [Act.put, List.setIfInBounds_toArray, List.set_cons_zero, List.set_cons_succ, List.getElem_toArray, List.getElem_cons_zero, List.getElem_cons_succ]
            refine AnyT.takeA (i := 9) (v := ?_) rfl (by kernel_rfl) (by kernel_rfl) (by kernel_rfl) (fun _ _ _ h => h) (Or.inl ⟨by rfl, ?_⟩) ?_
            rotate_left 1
            · (intro w0 _; go_simp; try with_reducible rfl)
            try simp only [Act.put, List.setIfInBounds_toArray, List.set_cons_zero, List.set_cons_succ, List.getElem_toArray, List.getElem_cons_zero, List.getElem_cons_succ]
            refine AnyT.takeA (i := 10) (v := ?_) rfl (by kernel_rfl) (by kernel_rfl) (by kernel_rfl) (fun _ _ _ h => h) (Or.inl ⟨by rfl, ?_⟩) ?_
            rotate_left 1
            · (intro w0 _; go_simp; try with_reducible rfl)
            try simp only [Act.put, List.setIfInBounds_toArray, List.set_cons_zero, List.set_cons_succ, List.getElem_toArray, List.getElem_cons_zero, List.getElem_cons_succ]
            refine AnyT.takeA (i := 11) (v := ?_) rfl (by kernel_rfl) (by kernel_rfl) (by kernel_rfl) (fun _ _ _ h => h) (Or.inl ⟨by rfl, ?_⟩) ?_
            rotate_left 1
            · (intro w0 _; go_simp; try with_reducible rfl)
            try simp only [Act.put, List.setIfInBounds_toArray, List.set_cons_zero, List.set_cons_succ, List.getElem_toArray, List.getElem_cons_zero, List.getElem_cons_succ]
            refine AnyT.takeA (i := 12) (v := ?_) rfl (by kernel_rfl) (by kernel_rfl) (by kernel_rfl) (fun _ _ _ h => h) (Or.inl ⟨by rfl, ?_⟩) ?_
            rotate_left 1
            · (intro w0 _; go_simp; try with_reducible rfl)
            try simp only [Act.put, List.setIfInBounds_toArray, List.set_cons_zero, List.set_cons_succ, List.getElem_toArray, List.getElem_cons_zero, List.getElem_cons_succ]
            refine AnyT.takeA (i := 13) (v := ?_) rfl (by kernel_rfl) (by kernel_rfl) (by kernel_rfl) (fun _ _ _ h => h) (Or.inl ⟨by rfl, ?_⟩) ?_
            rotate_left 1
            · (intro w0 _; go_simp; try with_reducible rfl)
            try simp only [Act.put, List.setIfInBounds_toArray, List.set_cons_zero, List.set_cons_succ, List.getElem_toArray, List.getElem_cons_zero, List.getElem_cons_succ]
            refine AnyT.done (by kernel_rfl) ?_ _
            clear e0u9 e0u10
            have HT10 := Lib.hid T
            have HOX := Lib.hid oX
            clear T oX b10 c0
            obtain ⟨bf, hbf⟩ : ∃ b, Go.Proofs.YtpcnjcgglonifaaGreat.put.fitB d.1 us ys a = b := ⟨_, rfl⟩
            obtain ⟨zs, hzs⟩ : ∃ y, Go.Proofs.YtpcnjcgglonifaaGreat.put.fitL d.1 us ys a = y := ⟨_, rfl⟩
            rw [hzs] at HOX
            rw [hbf]
            have HZ := Lib.hid (show bf = true → zs.length ≤ 60 from fun e => by rw [← hzs]; exact put_len (hbf.trans e))
            clear hbf hzs
            cases bf with
            | true =>
              have hxn : xn ≤ 65 := by have h1 := HZ.out rfl; have h2 := Own.len HOX.out; omega
              have F := Lib.hid (ansR_at (L := 65) HT10.out HOX.out (by have := HT10.out.g.size; omega) hxn)
              clear HT10 HOX
              go_wp2
              go_ret
              exact F.out
            | false =>
              have k0 : u10.cell? ⟨w.heap.size, 0, none⟩ = some (.slice S sn sc) := HT10.out.r.cell 0
              have LAX := Lib.hid (LA.out u10 HT10.out)
              go_wp2_with fail
              refine LAX.out.mono ?_
              rintro e w9 ⟨O9, on9, oc9, xs9, rfl, z1, z2, z3, z4, z5, z6, z7⟩
              have F := Lib.hid (show AnsR w p A n c 65 (.returned (.slice O9 on9 oc9)) w9 from ⟨O9, on9, oc9, xs9, rfl, z1, z2, z3, z4, z5, z6, z7⟩)
              clear z1 z2 z3 z4 z5 z6 z7 LAX HT10
              go_wp2
              go_ret
              exact F.out
end Go.Proofs.YtpcnjcgglonifaaGreat.drawL7
end

section
namespace Go.Proofs.YtpcnjcgglonifaaGreat.drawL7
open Go.RowKit base ints sig term termOk termFacts cursor marks app appAt sym segs segsHelp kinds dice drawTerm drawAny drawSub drawTwo drawTermW drawX drawRule drawKnown drawSys drawSysAny drawSysD ruleMath ruleSpec gives heldT
open shape (Sh Dat nc dft sI sz sz_ints rd_ints)
open kindsR (sRule sSystem sRuleS sSig)
set_option maxRecDepth 100000

structure St (w : World) (p lo : Nat) (A : Option Addr) (n c : Nat) (S : Option Addr) (sn sc : Nat) (sg : List Int) (R : Option Addr) (rn rc : Nat) (D : List (Dat sRule)) (O : Option Addr) (on oc : Nat) (t : List Int) (wr : World) : Prop where
  s : RdQ wr (OutR wr p (blk R)) sI [.slice S sn sc] sg
  h9 : sg.length ≤ 9
  own : OwnQ wr p lo 145 sRule R rn rc D
  hM : SmallD 13 D
  t : Go.Proofs.YtpcnjcgglonifaaGreat.drawTerm.Rd wr p wr.heap.size O on t
  ct : Cap O on oc
  h65 : on ≤ 65
  di : Dice wr p A n c
  g : w.grownBy wr (some p)
section
variable {w : World} {p lo : Nat} {A : Option Addr} {n c : Nat} {S : Option Addr} {sn sc : Nat} {sg : List Int} {R : Option Addr} {rn rc : Nat} {D : List (Dat sRule)} {O : Option Addr} {on oc : Nat} {t : List Int} {wr w' : World}
theorem rdT_put {N i : Nat} {T : TypeId} {a1 a2 : Option Addr} {l1 k1 l2 k2 : Nat} {u : Value} (h : Go.Proofs.YtpcnjcgglonifaaGreat.drawTerm.Rd wr p wr.heap.size O on t) (hN : Row wr N T #[.slice a1 l1 k1, .slice a2 l2 k2]) : Go.Proofs.YtpcnjcgglonifaaGreat.drawTerm.Rd (wr.setCell ⟨N, i, none⟩ u) p (wr.setCell ⟨N, i, none⟩ u).heap.size O on t := by
  refine ⟨h.1, fun hn => ?_⟩
  obtain ⟨b, off, e, hb, hne, hc⟩ := h.2 hn
  refine ⟨b, off, e, by simpa using hb, hne, fun j hj => ?_⟩
  have hbN : b ≠ N := fun e => by
    subst e
    have h1 := hc j hj
    rw [hN.cell] at h1
    have hlt : off + j = 0 ∨ off + j = 1 ∨ 2 ≤ off + j := by omega
    rcases hlt with e2 | e2 | e2
    · rw [e2] at h1; cases h1
    · rw [e2] at h1; cases h1
    · rw [Array.getElem?_eq_none (by simpa using e2)] at h1; cases h1
  exact (World.cell?_of_block (Below.heap_setCell wr _ u b (by show b ≠ N; exact hbN))).trans (hc j hj)
theorem St.from {w0 : World} (h : St w p lo A n c S sn sc sg R rn rc D O on oc t wr) (hg : w0.grownBy w (some p)) : St w0 p lo A n c S sn sc sg R rn rc D O on oc t wr := ⟨h.s, h.h9, h.own, h.hM, h.t, h.ct, h.h65, h.di, hg.trans h.g⟩
theorem St.next (h : St w p lo A n c S sn sc sg R rn rc D O on oc t wr) (hb : Below wr.heap.size wr w') : St w p lo A n c S sn sc sg R rn rc D O on oc t w' :=
  ⟨outR_below h.s hb, h.h9, h.own.below hb, h.hM, by
    refine ⟨h.t.1, fun hn => ?_⟩
    obtain ⟨b, off, e, hb2, hne, hc⟩ := h.t.2 hn
    exact ⟨b, off, e, Nat.lt_of_lt_of_le hb2 hb.size, hne, fun j hj => (hb.cell (p := ⟨b, off + j, none⟩) hb2).trans (hc j hj)⟩, h.ct, h.h65, h.di.next hb, h.g.trans (grown_of_below hb _)⟩
theorem St.sz (h : St w p lo A n c S sn sc sg R rn rc D O on oc t wr) : sz sSystem ((sg, D) : List Int × List (Dat sRule)) ≤ 2000 := by
  have h1 := sz_small h.hM
  have h2 := h.h9
  show Go.Proofs.YtpcnjcgglonifaaGreat.shape.sz sI sg + Go.Proofs.YtpcnjcgglonifaaGreat.shape.sz sRuleS D ≤ 2000
  rw [Go.Proofs.YtpcnjcgglonifaaGreat.shape.sz_ints]
  omega
end
end Go.Proofs.YtpcnjcgglonifaaGreat.drawL7
end

section
namespace Go.Proofs.YtpcnjcgglonifaaGreat.lawS
open Go.RowKit base ints sig term marks app sym segs kinds shape kindsR same ruleSpec
set_option maxRecDepth 100000
structure Sy (w : World) (o : Nat) (S : Option Addr) (sn sc : Nat) (R : Option Addr) (rn rc : Nat) (d : Dat sSystem) (u : Value) (t : List Int) (wr : World) : Prop where
  s : Rd wr wr.heap.size sSystem [.slice S sn sc, .slice R rn rc] d
  t : Rd wr wr.heap.size sI [u] t
  r : Row wr o 29 #[.slice S sn sc, .slice R rn rc]
  b : Below w.heap.size w wr
section
variable {w : World} {o : Nat} {S : Option Addr} {sn sc : Nat} {R : Option Addr} {rn rc : Nat} {d : Dat sSystem} {u : Value} {t : List Int} {wr w' : World}
theorem Sy.next (h : Sy w o S sn sc R rn rc d u t wr) (hb : Below wr.heap.size wr w') : Sy w o S sn sc R rn rc d u t w' := ⟨h.s.next hb, h.t.next hb, h.r.next hb, next_trans h.b hb⟩
theorem Sy.drew (h : Sy w o S sn sc R rn rc d u t wr) : Sy w o S sn sc R rn rc d u t wr.drew := h.next (drew_below wr)
theorem Sy.c0 (h : Sy w o S sn sc R rn rc d u t wr) : wr.cell? ⟨o, 0, none⟩ = some (.slice S sn sc) := h.r.cell 0
theorem Sy.c1 (h : Sy w o S sn sc R rn rc d u t wr) : wr.cell? ⟨o, 1, none⟩ = some (.slice R rn rc) := h.r.cell 1
end
end Go.Proofs.YtpcnjcgglonifaaGreat.lawS
end

section
namespace Go.Proofs.YtpcnjcgglonifaaGreat.matchSpec
open Go.RowKit base ints sig same term termOk endAt inside marks app sym sub segs segsHelp termFacts termMath posMath plainMath plain plainOf gives cursor matchMath
set_option maxRecDepth 100000

structure Tab (w : World) (T : Nat) (s : List (List Int)) : Prop where
  len : s.length = 24
  row : ∃ cs, Row w T 24 cs ∧ cs.size = 24 ∧ ∀ j, j < 24 → ∃ A n c, cs[j]? = some (.slice A n c) ∧ Own w (T + 1) (.slice A n c) (s.getD j [])
section
variable {w w' : World} {T : Nat} {s : List (List Int)}
theorem Tab.next (h : Tab w T s) (hb : Below w.heap.size w w') : Tab w' T s := by
  obtain ⟨cs, hr, hs, hc⟩ := h.row
  exact ⟨h.len, cs, hr.next hb, hs, fun j hj => by obtain ⟨A, n, c, e, ho⟩ := hc j hj; exact ⟨A, n, c, e, Own.next ho hb⟩⟩
theorem Tab.at (h : Tab w T s) {j : Nat} (hj : j < 24) : ∃ A n c, w.cell? ⟨T, j, none⟩ = some (.slice A n c) ∧ Own w (T + 1) (.slice A n c) (s.getD j []) := by
  obtain ⟨cs, hr, hs, hc⟩ := h.row
  obtain ⟨A, n, c, e, ho⟩ := hc j hj
  exact ⟨A, n, c, by rw [hr.cell j, e], ho⟩
theorem Tab.free (h : Tab w T s) (j : Nat) : w.frozen? ⟨T, j, none⟩ = false := by obtain ⟨cs, hr, _⟩ := h.row; exact hr.free j
theorem Tab.put (h : Tab w T s) {j : Nat} (hj : j < 24) {A : Option Addr} {n c : Nat} {ys : List Int} (ho : Own w (T + 1) (.slice A n c) ys) : Tab (w.setCell ⟨T, j, none⟩ (.slice A n c)) T (s.set j ys) := by
  obtain ⟨cs, hr, hs, hc⟩ := h.row
  have hg : w.grownBy (w.setCell ⟨T, j, none⟩ (.slice A n c)) (some T) := grown_put (World.grownBy.refl _ _) _ _
  have far : ∀ {A' : Option Addr} {n' c' : Nat} {zs : List Int}, Own w (T + 1) (.slice A' n' c') zs → Own (w.setCell ⟨T, j, none⟩ (.slice A n c)) (T + 1) (.slice A' n' c') zs := fun h => Own.far h hg (fun k hk => by injection hk; omega)
  refine ⟨by rw [List.length_set]; exact h.len, cs.setIfInBounds j (.slice A n c), hr.put j _, by rw [Array.size_setIfInBounds]; exact hs, fun i hi => ?_⟩
  by_cases e : j = i
  · subst e
    exact ⟨A, n, c, by rw [Array.getElem?_setIfInBounds_self_of_lt (by omega)], by rw [set_get, if_pos ⟨rfl, by rw [h.len]; exact hj⟩]; exact far ho⟩
  · obtain ⟨A', n', c', e', ho'⟩ := hc i hi
    exact ⟨A', n', c', by rw [Array.getElem?_setIfInBounds_ne e]; exact e', by rw [set_get, if_neg (fun hh => e hh.1)]; exact far ho'⟩
theorem Tab.segs (h : Tab w T s) : Segs w w.heap.size (some ⟨T, 0, none⟩) 24 s := by
  obtain ⟨cs, hr, hs, hc⟩ := h.row
  refine ⟨h.len, fun _ => ⟨T, 0, rfl, hr.lt, fun j hj => ?_⟩⟩
  obtain ⟨A, n, c, e, ho⟩ := hc j hj
  refine ⟨A, n, c, by rw [Nat.zero_add, hr.cell j, e], ?_, ?_⟩
  · have := Own.len ho; exact Own.seg ho
  · rcases ho.form with ⟨e1, _⟩ | ⟨g, c', cur, e1, _, _, _, _⟩
    · injection e1 with e1 e2 e3; subst e1 e2 e3; exact ⟨Nat.le_refl _, by omega, fun _ => rfl⟩
    · exact look.own_cap ho
end
theorem Tab.new (w : World) : Tab (w.alloc (.cells (madeCells #[.slice none 0 0] 24) 24)) w.heap.size s0 := by
  refine ⟨rfl, _, Row.new _ _ _, size_madeCells _ _, fun j hj => ⟨none, 0, 0, ?_, by rw [s0_get]; exact Own.nil _ _⟩⟩
  simp [madeCells, hj, Nat.mod_one]

def resL (R : Option (List (List Int))) : List (List Int) := match R with
  | some s => plainL (givesL s) 24
  | none => []
def AnsM (w : World) (xss : List (List Int)) (b : Bool) (e : Ending) (w' : World) : Prop := ∃ A n c, e = .returned (.tuple #[.agg #[.slice A n c], .bool b]) ∧ Owns w' w.heap.size w'.heap.size A n c xss ∧ Below w.heap.size w w'
theorem ansM_no {w w' : World} {R : Option (List (List Int))} (h : R = none) (hb : Below w.heap.size w w') : AnsM w (resL R) R.isSome (.returned (.tuple #[.agg #[.slice none 0 0], .bool false])) w' :=
  ⟨none, 0, 0, by rw [h]; rfl, by rw [h]; exact Owns.nil _ _ _, hb⟩

structure Mt (w wr : World) (A : Option Addr) (n c : Nat) (sg : List Int) (P : Option Addr) (pn : Nat) (p : List Int) (Q : Option Addr) (m : Nat) (t : List Int) (s : List (List Int)) : Prop where
  r0 : Row wr w.heap.size 26 #[.slice A n c]
  r1 : Row wr (w.heap.size + 1) 59 #[.slice none 0 0]
  r3 : Row wr (w.heap.size + 1 + 1 + 1) 59 #[.slice (some ⟨w.heap.size + 1 + 1, 0, none⟩) 24 24]
  tb : Tab wr (w.heap.size + 1 + 1) s
  ss : Seg wr w.heap.size A n sg
  sp : Seg wr w.heap.size P pn p
  st : Seg wr w.heap.size Q m t
  b : Below w.heap.size w wr
section
variable {w wr w' : World} {A : Option Addr} {n c : Nat} {sg : List Int} {P : Option Addr} {pn : Nat} {p : List Int} {Q : Option Addr} {m : Nat} {t : List Int} {s : List (List Int)}
theorem Mt.next (h : Mt w wr A n c sg P pn p Q m t s) (hb : Below wr.heap.size wr w') : Mt w w' A n c sg P pn p Q m t s :=
  have b : Below w.heap.size wr w' := hb.mono h.b.size
  ⟨h.r0.next hb, h.r1.next hb, h.r3.next hb, h.tb.next hb, h.ss.below b, h.sp.below b, h.st.below b, h.b.trans b⟩
theorem Mt.put (h : Mt w wr A n c sg P pn p Q m t s) {j : Nat} (hj : j < 24) {D : Option Addr} {dn dc : Nat} {ys : List Int} (ho : Own wr (w.heap.size + 1 + 1 + 1) (.slice D dn dc) ys) : Mt w (wr.setCell ⟨w.heap.size + 1 + 1, j, none⟩ (.slice D dn dc)) A n c sg P pn p Q m t (s.set j ys) :=
  ⟨h.r0.far (show w.heap.size ≠ w.heap.size + 1 + 1 by omega) _, h.r1.far (show w.heap.size + 1 ≠ w.heap.size + 1 + 1 by omega) _, h.r3.far (show w.heap.size + 1 + 1 + 1 ≠ w.heap.size + 1 + 1 by omega) _, h.tb.put hj ho, h.ss.put (show w.heap.size ≤ w.heap.size + 1 + 1 by omega) _, h.sp.put (show w.heap.size ≤ w.heap.size + 1 + 1 by omega) _, h.st.put (show w.heap.size ≤ w.heap.size + 1 + 1 by omega) _, h.b.setCell (show w.heap.size ≤ w.heap.size + 1 + 1 by omega) _⟩
end

set_option maxHeartbeats 1000000 in
theorem l4Match (A P Q : Option Addr) (n c pn pc m mc : Nat) (sg p t : List Int) (w : World) (h : Seg w w.heap.size A n sg) (hp : Seg w w.heap.size P pn p) (ht : Seg w w.heap.size Q m t) (hn : n ≤ 1048576) (hpn : pn ≤ 60) (hm : m ≤ 60) (hmc : m ≤ mc) (hmc2 : mc ≤ 9223372036854775807)
    (hokp : termOkB sg p = true) (hokt : termOkB sg t = true) :
    Calls Tryz.prog 139 #[.agg #[.slice A n c], .slice P pn pc, .slice Q m mc] w (AnsM w (resL (mst sg t p 0 s0)) (mst sg t p 0 s0).isSome) := by
  obtain ⟨W0, hW0⟩ : ∃ W, W = (w.alloc (.cells #[.slice A n c] 26)).alloc (.cells #[.slice none 0 0] 59) := ⟨_, rfl⟩
  have z0 : W0.heap.size = w.heap.size + 1 + 1 := by rw [hW0]; simp
  obtain ⟨W, hW⟩ : ∃ W, W = (W0.alloc (.cells (madeCells #[.slice none 0 0] 24) 24)).alloc (.cells #[.slice (some ⟨w.heap.size + 1 + 1, 0, none⟩) 24 24] 59) := ⟨_, rfl⟩
  have b0 : Below w.heap.size w W0 := by rw [hW0]; exact ((Below.refl _ _).alloc (Nat.le_refl _) _).alloc (by simp) _
  have b1 : Below w.heap.size w W := by rw [hW]; exact (b0.alloc b0.size _).alloc (by simp; omega) _
  have hmk : ∀ W : World, (Instr.makeSlice 32 (.int .i64 24) (.int .i64 24)).run Tryz.prog W = .ok (.slice (some ⟨W.heap.size, 0, none⟩) 24 24) (W.alloc (.cells (madeCells #[.slice none 0 0] 24) 24)) := fun W => run_make_lists 24 (by omega) W
  have M0 : Mt w W A n c sg P pn p Q m t s0 := by
    refine ⟨?_, ?_, ?_, ?_, h.below b1, hp.below b1, ht.below b1, b1⟩
    · rw [hW, hW0]; exact (((Row.new w _ _).alloc _).alloc _).alloc _
    · rw [hW, hW0]
      have := (((Row.new (w.alloc (.cells #[.slice A n c] 26)) 59 #[.slice none 0 0]).alloc (.cells (madeCells #[.slice none 0 0] 24) 24)).alloc (.cells #[.slice (some ⟨w.heap.size + 1 + 1, 0, none⟩) 24 24] 59))
      simpa using this
    · rw [hW]
      have := Row.new (W0.alloc (.cells (madeCells #[.slice none 0 0] 24) 24)) 59 #[.slice (some ⟨w.heap.size + 1 + 1, 0, none⟩) 24 24]
      have e : (W0.alloc (.cells (madeCells #[.slice none 0 0] 24) 24)).heap.size = w.heap.size + 1 + 1 + 1 := by simp; omega
      rwa [e] at this
    · rw [hW]
      have := (Tab.new W0).next ((Below.refl _ _).alloc (Nat.le_refl _) (.cells #[.slice (some ⟨w.heap.size + 1 + 1, 0, none⟩) 24 24] 59))
      rwa [z0] at this
  have HW := Lib.hid hW
  have HW0 := Lib.hid hW0
  have HLP := Lib.hid hp.1
  have HLT := Lib.hid ht.1
  have HT := Lib.hid hokt
  have HPM : Hid (∀ i, i < pn → -24 ≤ p.getD i 0) := Lib.hid (fun i hi => (term_num hokp (by rw [hp.1]; exact hi)).1)
  have hars := (sig_arities (termOk_parts hokt).1).1
  obtain ⟨R, hR⟩ : ∃ R, mst sg t p 0 s0 = R := ⟨_, rfl⟩
  rw [hR]
  have HR := Lib.hid hR
  have HM0 := Lib.hid M0
  clear hW hW0 h hp ht b0 b1 M0 hokp hokt hR z0
  go_enter Tryz.func139, Tryz.ntmps139
  go_wp2_with fail
  clear hmk
  go_loopg [9, 10] pn (fun g k i wr => ∃ (k' i' : Nat) (s : List (List Int)), k = .int .i64 k' ∧ i = .int .i64 i' ∧ i' + g = pn ∧ k' ≤ m ∧ mst sg t (p.drop i') k' s = R ∧ (∀ j, (s.getD j []).length ≤ 60) ∧ Mt w wr A n c sg P pn p Q m t s)
  case atStart =>
    have hM := HM0.out
    rw [HW.out, HW0.out] at hM
    exact ⟨0, 0, s0, rfl, rfl, by omega, Nat.zero_le _, HR.out, fun j => by rw [s0_get]; simp, hM⟩
  case round =>
    obtain ⟨k, i, s, rfl, rfl, hi, hk, hmst, hs60, M⟩ := hrel
    clear HM0 HW HW0
    have HI := Lib.hid hi
    have HMS := Lib.hid hmst
    have HS60 := Lib.hid hs60
    clear hi hmst hs60
    by_cases hip : i < pn
    · have hgk := Lib.hid (show gk - 1 < gk ∧ i + 1 + (gk - 1) = pn by have := HI.out; omega)
      obtain ⟨bp, op, x, rfl, hbp, hx, ex⟩ := M.sp.spot hip
      have hx24 := HPM.out i hip
      rw [ex.out] at hx24
      have HD := Lib.hid (show p.drop i = x :: p.drop (i + 1) by rw [drop_cons (by rw [HLP.out]; exact hip), ex.out])
      have cR : wr.cell? ⟨w.heap.size + 1, 0, none⟩ = some (.slice none 0 0) := M.r1.cell 0
      have fR : wr.frozen? ⟨w.heap.size + 1, 0, none⟩ = false := M.r1.free 0
      by_cases hkm : k < m
      · obtain ⟨bt, ot, y, rfl, hbt, hy, ey⟩ := M.st.spot hkm
        have hkl : ¬ t.length ≤ k := by rw [HLT.out]; omega
        by_cases hx0 : 0 ≤ x
        · by_cases hxy : x = y
          · subst hxy
            have S := Lib.hid (show mst sg t (p.drop (i + 1)) (k + 1) s = R by rw [← HMS.out, HD.out, mst_sym hkl hx0 ey.out.symm])
            have HM := Lib.hid (fun d => M.next (below_drewN (Below.refl _ _) d))
            have hd : (x != x) = false := by simp
            clear M ex ey HD
            go_wp2
            go_quiet (fail)
            go_wp2
            go_roundg (gk - 1)
            case measure => exact hgk.out.1
            case rel => exact ⟨k + 1, i + 1, s, by simp, by simp, hgk.out.2, by omega, S.out, HS60.out, HM.out _⟩
          · have HN := Lib.hid (show R = none by rw [← HMS.out, HD.out, mst_symNo hkl hx0 (by rw [ey.out]; exact hxy)])
            have HM := Lib.hid (fun d => M.next (below_drewN (Below.refl _ _) d))
            have hd : (x != y) = true := by simp [hxy]
            have F1 := Lib.hid (fun d => ansM_no (w := w) HN.out (below_drewN M.b d))
            have F2 := Lib.hid (fun d => ansM_no (w := w) HN.out ((below_drewN M.b d).setCell (p := ⟨w.heap.size + 1, 0, none⟩) (show w.heap.size ≤ w.heap.size + 1 by omega) (.slice none 0 0)))
            clear M ex ey HD HM
            go_wp2
            go_quiet (fail)
            go_wp2
            first
              | exact bodyPost_ret (v := .tuple #[.agg #[.slice none 0 0], .bool false]) (by simp [results, Tryz.results139, go_sem, cR]) rfl (F1.out _)
              | exact bodyPost_ret (v := .tuple #[.agg #[.slice none 0 0], .bool false]) (by simp [results, Tryz.results139, go_sem, cR]) rfl (F2.out _)
        · obtain ⟨v, hv⟩ : ∃ v : Nat, x = -1 - (v : Int) := ⟨(-1 - x).toNat, by omega⟩
          subst hv
          have hv24 : v < 24 := by omega
          have hvr : vr (-1 - (v : Int)) = v := by unfold vr; omega
          obtain ⟨t1, t2, t3⟩ := term_at HT.out (show k < t.length by rw [HLT.out]; exact hkm)
          rw [HLT.out] at t3
          have hsl := (sub_len1 HT.out (show k < t.length by rw [HLT.out]; exact hkm)).1
          have cA : wr.cell? ⟨w.heap.size, 0, none⟩ = some (.slice A n c) := M.r0.cell 0
          have LS := Lib.hid (l1Sub A (some ⟨bt, ot, none⟩) n c m mc sg t k (len1 sg t k) wr (M.ss.more M.b.size) (M.st.more M.b.size) hn (by omega) hmc hmc2 hars hkm t1 t2 t3)
          obtain ⟨ys, hys⟩ : ∃ ys, subL sg t k = ys := ⟨_, rfl⟩
          rw [hys] at LS hsl
          have HYS := Lib.hid hys
          have hyl : k + ys.length ≤ m := by rw [hsl]; exact t3
          have hyl60 : ys.length ≤ 60 := by omega
          have hwr := M.b.size
          have hw3 := M.r3.lt
          clear hys t1 t2 t3 hsl hy ey cR fR
          go_wp2_with fail
          refine LS.out.mono ?_
          rintro e w1 ⟨D, dn, dc, rfl, od, bb⟩
          replace M := M.next bb
          have hx1 : w1.cell? ⟨bp, op + i, none⟩ = some (.int .i64 (-1 - (v : Int))) := (bb.cell (p := ⟨bp, op + i, none⟩) (show bp < wr.heap.size by omega)).trans hx
          obtain rfl : dn = ys.length := Own.len od
          replace od := Own.lower (base' := w.heap.size + 1 + 1 + 1) od (by omega)
          obtain ⟨Ao, no, co, hc, oo⟩ := M.tb.at hv24
          obtain ⟨os, hos⟩ : ∃ os, s.getD v [] = os := ⟨_, rfl⟩
          rw [hos] at oo
          have HOS := Lib.hid hos
          have HNO := Lib.hid (Own.len oo)
          have hno60 : no ≤ 60 := by rw [HNO.out, ← hos]; exact HS60.out v
          have c3 : w1.cell? ⟨w.heap.size + 1 + 1 + 1, 0, none⟩ = some (.slice (some ⟨w.heap.size + 1 + 1, 0, none⟩) 24 24) := M.r3.cell 0
          have hw1 : IntKind.i64.wrap (-1 - (-1 - (v : Int))) = (v : Int) := by rw [IntKind.wrap_i64]; omega
          have hw2 : IntKind.i64.wrap (v : Int) = (v : Int) := by rw [IntKind.wrap_i64]; omega
          have j0 : (0 : Int) ≤ (v : Int) := by omega
          have j1 : (v : Int) < 24 := by omega
          have HMD := Lib.hid (fun d => M.next (below_drewN (Below.refl _ _) d))
          have HOD := Lib.hid (fun d => Own.drewN od d)
          have HOO := Lib.hid (fun d => Own.drewN oo d)
          have HC := Lib.hid hc
          have HX1 := Lib.hid hx1
          have HVR := Lib.hid hvr
          clear bb hx LS M od oo hos hvr
          go_wp2
          go_quiet (fail)
          generalize hd1 : w1.drewN _ = w2
          have M : Mt w w2 A n c sg (some ⟨bp, op, none⟩) pn p (some ⟨bt, ot, none⟩) m t s := by rw [← hd1]; exact HMD.out _
          have od : Own w2 (w.heap.size + 1 + 1 + 1) (.slice D ys.length dc) ys := by rw [← hd1]; exact HOD.out _
          have oo : Own w2 (w.heap.size + 1 + 1 + 1) (.slice Ao no co) os := by rw [← hd1]; exact HOO.out _
          clear hd1 HMD HOD HOO hx1 c3 hc
          have cR : w2.cell? ⟨w.heap.size + 1, 0, none⟩ = some (.slice none 0 0) := M.r1.cell 0
          have fR : w2.frozen? ⟨w.heap.size + 1, 0, none⟩ = false := M.r1.free 0
          by_cases hn0 : no = 0
          · have hno2 : ¬ ((s.getD (vr (-1 - (v : Int))) []).length ≠ 0 ∧ s.getD (vr (-1 - (v : Int))) [] ≠ subL sg t k) := by
              rw [HVR.out, HOS.out]
              intro h
              exact h.1 (by rw [← HNO.out]; exact hn0)
            subst hn0
            have S := Lib.hid (show mst sg t (p.drop (i + 1)) (k + ys.length) (s.set v ys) = R by rw [← HMS.out, HD.out, mst_var hkl (show ¬ 0 ≤ -1 - (v : Int) by omega) hno2, HVR.out, HYS.out])
            have hs2 := Lib.hid (show ∀ j, ((s.set v ys).getD j []).length ≤ 60 from fun j => by rw [set_get]; split; exact hyl60; exact HS60.out j)
            have hxq : w2.cell? ⟨bp, op + i, none⟩ = some (.int .i64 (-1 - (v : Int))) := by
              obtain ⟨b', o', x', e', -, hq, ex'⟩ := M.sp.spot hip
              injection e' with e'
              injection e' with e1 e2
              subst e1 e2
              rw [hq, ← ex'.out, ex.out]
            have c3q : w2.cell? ⟨w.heap.size + 1 + 1 + 1, 0, none⟩ = some (.slice (some ⟨w.heap.size + 1 + 1, 0, none⟩) 24 24) := M.r3.cell 0
            have fT : w2.frozen? ⟨w.heap.size + 1 + 1, v, none⟩ = false := M.tb.free v
            obtain ⟨A9, n9, c9, hcq, -⟩ := M.tb.at hv24
            have HM2 := Lib.hid (fun d => (M.next (below_drewN (Below.refl _ _) d)).put hv24 (Own.drewN od d))
            clear M od
            go_wp2
            go_region
            go_wp2
            go_roundg (gk - 1)
            case measure => exact hgk.out.1
            case rel => exact ⟨k + ys.length, i + 1, s.set v ys, by simp, by simp, hgk.out.2, hyl, S.out, hs2.out, HM2.out _⟩
          · have hpos : (0 : Int) < (no : Int) := by omega
            go_wp2_with fail
            refine (specSame Ao D no ys.length co dc os ys w2 (Own.seg oo) (Own.seg od) (by omega) (by omega)).mono ?_
            rintro e w3 ⟨he, d3, rfl⟩
            replace M := M.next (below_drewN (Below.refl _ _) d3)
            replace od := Own.drewN od d3
            clear oo cR fR
            generalize w2.drewN d3 = w3 at *
            have cR : w3.cell? ⟨w.heap.size + 1, 0, none⟩ = some (.slice none 0 0) := M.r1.cell 0
            have fR : w3.frozen? ⟨w.heap.size + 1, 0, none⟩ = false := M.r1.free 0
            by_cases hoy : os = ys
            · rw [decide_eq_true hoy] at he
              subst he
              have hno2 : ¬ ((s.getD (vr (-1 - (v : Int))) []).length ≠ 0 ∧ s.getD (vr (-1 - (v : Int))) [] ≠ subL sg t k) := by
                rw [HVR.out, HOS.out, HYS.out]
                intro h
                exact h.2 hoy
              have S := Lib.hid (show mst sg t (p.drop (i + 1)) (k + ys.length) (s.set v ys) = R by rw [← HMS.out, HD.out, mst_var hkl (show ¬ 0 ≤ -1 - (v : Int) by omega) hno2, HVR.out, HYS.out])
              have hs2 := Lib.hid (show ∀ j, ((s.set v ys).getD j []).length ≤ 60 from fun j => by rw [set_get]; split; exact hyl60; exact HS60.out j)
              have hxq : w3.cell? ⟨bp, op + i, none⟩ = some (.int .i64 (-1 - (v : Int))) := by
                obtain ⟨b', o', x', e', -, hq, ex'⟩ := M.sp.spot hip
                injection e' with e'
                injection e' with e1 e2
                subst e1 e2
                rw [hq, ← ex'.out, ex.out]
              have c3q : w3.cell? ⟨w.heap.size + 1 + 1 + 1, 0, none⟩ = some (.slice (some ⟨w.heap.size + 1 + 1, 0, none⟩) 24 24) := M.r3.cell 0
              have fT : w3.frozen? ⟨w.heap.size + 1 + 1, v, none⟩ = false := M.tb.free v
              obtain ⟨A9, n9, c9, hcq, -⟩ := M.tb.at hv24
              have HM2 := Lib.hid (fun d => (M.next (below_drewN (Below.refl _ _) d)).put hv24 (Own.drewN od d))
              clear M od
              go_wp2
              go_region
              go_wp2
              go_roundg (gk - 1)
              case measure => exact hgk.out.1
              case rel => exact ⟨k + ys.length, i + 1, s.set v ys, by simp, by simp, hgk.out.2, hyl, S.out, hs2.out, HM2.out _⟩
            · rw [decide_eq_false hoy] at he
              subst he
              have HN := Lib.hid (show R = none by
                rw [← HMS.out, HD.out, mst_varNo hkl (show ¬ 0 ≤ -1 - (v : Int) by omega) (by
                  rw [HVR.out, HOS.out, HYS.out]
                  exact ⟨by rw [← HNO.out]; exact hn0, hoy⟩)])
              have F1 := Lib.hid (ansM_no (w := w) HN.out M.b)
              have F2 := Lib.hid (ansM_no (w := w) HN.out ((M.b).setCell (p := ⟨w.heap.size + 1, 0, none⟩) (show w.heap.size ≤ w.heap.size + 1 by omega) (.slice none 0 0)))
              clear M od ex HD
              go_wp2
              first
                | exact bodyPost_ret (v := .tuple #[.agg #[.slice none 0 0], .bool false]) (by simp [results, Tryz.results139, go_sem, cR]) rfl F1.out
                | exact bodyPost_ret (v := .tuple #[.agg #[.slice none 0 0], .bool false]) (by simp [results, Tryz.results139, go_sem, cR]) rfl F2.out
      · have HN := Lib.hid (show R = none by rw [← HMS.out, HD.out, mst_out (by rw [HLT.out]; omega)])
        have hge : (m : Int) ≤ (k : Int) := by omega
        have F1 := Lib.hid (ansM_no (w := w) HN.out M.b)
        have F2 := Lib.hid (ansM_no (w := w) HN.out ((M.b).setCell (p := ⟨w.heap.size + 1, 0, none⟩) (show w.heap.size ≤ w.heap.size + 1 by omega) (.slice none 0 0)))
        clear M ex HD
        go_wp2
        first
          | exact bodyPost_ret (v := .tuple #[.agg #[.slice none 0 0], .bool false]) (by simp [results, Tryz.results139, go_sem, cR]) rfl F1.out
          | exact bodyPost_ret (v := .tuple #[.agg #[.slice none 0 0], .bool false]) (by simp [results, Tryz.results139, go_sem, cR]) rfl F2.out
    · have hipn : i = pn := by have := HI.out; omega
      have hRs : R = some s := by rw [← HMS.out, hipn, List.drop_eq_nil_of_le (by rw [HLP.out]; exact Nat.le_refl _)]; rfl
      have HRS := Lib.hid hRs
      have hlen := M.tb.len
      have htot : tot s ≤ 1048576 := by have := tot_le (M := 60) HS60.out; rw [hlen] at this; omega
      have LP := Lib.hid (l2Plain _ 24 24 s _ M.tb.segs htot)
      have c3 : wr.cell? ⟨w.heap.size + 1 + 1 + 1, 0, none⟩ = some (.slice (some ⟨w.heap.size + 1 + 1, 0, none⟩) 24 24) := M.r3.cell 0
      have z1 := M.b.size
      have r1 := M.r1
      have hb := M.b
      have zr := M.r3.lt
      clear hRs hlen htot M hipn
      go_wp2_with fail
      refine LP.out.mono ?_
      rintro e w2 ⟨D, dn, dc, rfl, od, bb⟩
      replace r1 := r1.next bb
      replace hb := next_trans hb bb
      have cR : w2.cell? ⟨w.heap.size + 1, 0, none⟩ = some (.slice none 0 0) := r1.cell 0
      have fR : w2.frozen? ⟨w.heap.size + 1, 0, none⟩ = false := r1.free 0
      have F : AnsM w (resL R) R.isSome (.returned (.tuple #[.agg #[.slice D dn dc], .bool true])) (w2.setCell ⟨w.heap.size + 1, 0, none⟩ (.slice D dn dc)) := by
        have hbt : Btw (w.heap.size + 1) (w.heap.size + 2) w2 (w2.setCell ⟨w.heap.size + 1, 0, none⟩ (.slice D dn dc)) := Btw.of_grown (grown_put (World.grownBy.refl _ _) _ _) (fun k hk => by injection hk; omega)
        have o2 := od.btw hbt (.inr (by omega))
        refine ⟨D, dn, dc, by rw [HRS.out]; rfl, ?_, hb.setCell (p := ⟨w.heap.size + 1, 0, none⟩) (show w.heap.size ≤ w.heap.size + 1 by omega) _⟩
        rw [HRS.out]
        exact o2.wider z1 (by simp)
      have HF := Lib.hid F
      clear F od bb hb r1 LP
      go_wp2
      exact bodyPost_ret (v := .tuple #[.agg #[.slice D dn dc], .bool true]) (by simp [results, Tryz.results139, go_sem, cR]) rfl HF.out
structure Mr (w wr : World) (A : Option Addr) (n c : Nat) (sg : List Int) (P : Option Addr) (pn : Nat) (p : List Int) (Q : Option Addr) (m : Nat) (t : List Int) : Prop where
  r0 : Row wr w.heap.size 26 #[.slice A n c]
  r1 : Row wr (w.heap.size + 1) 59 #[.slice none 0 0]
  ss : Seg wr wr.heap.size A n sg
  sp : Seg wr wr.heap.size P pn p
  st : Seg wr wr.heap.size Q m t
  b : Below w.heap.size w wr
section
variable {w wr w' : World} {A : Option Addr} {n c : Nat} {sg : List Int} {P : Option Addr} {pn : Nat} {p : List Int} {Q : Option Addr} {m : Nat} {t : List Int}
theorem Mr.next (h : Mr w wr A n c sg P pn p Q m t) (hb : Below wr.heap.size wr w') : Mr w w' A n c sg P pn p Q m t :=
  ⟨h.r0.next hb, h.r1.next hb, h.ss.next hb, h.sp.next hb, h.st.next hb, next_trans h.b hb⟩
end
end Go.Proofs.YtpcnjcgglonifaaGreat.matchSpec
end

section
namespace Go.Proofs.YtpcnjcgglonifaaGreat.sameSubst
open Go.RowKit base ints sig same marks sym segs segsHelp kinds varsOf fillMath Go.Proofs.YtpcnjcgglonifaaGreat.look substOk gives
set_option maxRecDepth 100000

end Go.Proofs.YtpcnjcgglonifaaGreat.sameSubst
end

section
namespace Go.Proofs.YtpcnjcgglonifaaGreat.plainFacts
open Go.RowKit base ints sig term termOk termFacts fillMath plainMath plainOf substOk gives sameSubst compMath filled

theorem gives_plain {L : Nat → List Int} {m i : Nat} (hpos : ∀ i, 1 ≤ (L i).length) (hout : ∀ i, m ≤ i → L i = vt i) : givesL (plainL L m) i = L i := by
  have e := plain_get L m i
  by_cases h : i < m
  · rw [rows_get h] at e
    unfold bare at e
    by_cases h2 : L i = vt i
    · rw [if_pos h2] at e
      rw [gives_var (by rw [e]; rfl), h2]
    · rw [if_neg h2] at e
      rw [gives_term (by rw [e]; have := hpos i; omega), e]
  · have e0 : (rowsL L m).getD i [] = [] := by simp [List.getD, rows_len, h]
    rw [e0] at e
    rw [gives_var (by rw [e]; rfl), hout i (by omega)]
end Go.Proofs.YtpcnjcgglonifaaGreat.plainFacts
end

section
namespace Go.Proofs.YtpcnjcgglonifaaGreat.matchTot
open Go.RowKit base ints sig term termOk app sym sub segs segsHelp plainMath gives plainOf fillMath termFacts matchMath matchSpec

theorem mst_short {sg t : List Int} : ∀ {p : List Int} {k : Nat} {s s' : List (List Int)}, mst sg t p k s = some s' → (∀ i, (s.getD i []).length ≤ t.length) → ∀ i, (s'.getD i []).length ≤ t.length := by
  intro p
  induction p with
  | nil => intro k s s' h hs; injection h with h; subst h; exact hs
  | cons x r ih =>
    intro k s s' h hs
    by_cases h1 : t.length ≤ k
    · rw [mst_out h1] at h; cases h
    · by_cases h2 : 0 ≤ x
      · by_cases h3 : x = t.getD k 0
        · rw [mst_sym h1 h2 h3] at h; exact ih h hs
        · rw [mst_symNo h1 h2 h3] at h; cases h
      · by_cases h3 : (s.getD (vr x) []).length ≠ 0 ∧ s.getD (vr x) [] ≠ subL sg t k
        · rw [mst_varNo h1 h2 h3] at h; cases h
        · rw [mst_var h1 h2 h3] at h
          refine ih h (fun i => ?_)
          rw [set_get]
          split
          · unfold subL; rw [List.length_take, List.length_drop]; omega
          · exact hs i
theorem match_tot {sg p t : List Int} : tot (resL (matchO sg p t)) ≤ 1048576 := by
  cases h1 : termOkB sg t with
  | false => rw [match_no (.inr h1)]; simp [resL, tot, sumL]
  | true =>
    cases h : matchO sg p t with
    | none => simp [resL, tot, sumL]
    | some s =>
      have ht := (term_len h1).2
      have hs : ∀ i, (s.getD i []).length ≤ t.length := by
        unfold matchO at h
        split at h
        · exact mst_short h (fun i => by rw [s0_get]; simp)
        · cases h
      have hg : ∀ i, (givesL s i).length ≤ 60 := fun i => by
        by_cases e : (s.getD i []).length = 0
        · rw [gives_var e]; simp [vt]
        · rw [gives_term e]; have := hs i; omega
      have h3 := tot_le (plain_each (L := givesL s) (m := 24) hg)
      have h4 := plain_len (givesL s) 24
      have h5 : (plainL (givesL s) 24).length * 60 ≤ 24 * 60 := Nat.mul_le_mul_right _ h4
      show tot (plainL (givesL s) 24) ≤ 1048576
      omega
end Go.Proofs.YtpcnjcgglonifaaGreat.matchTot
end

section
namespace Go.Proofs.YtpcnjcgglonifaaGreat.matchFacts
open sig term termOk termFacts endAt sub termMath fillMath posMath segsHelp substOk gives plainMath plainFacts filled sameSubst matchMath matchSpec

theorem mst_terms {sg t : List Int} (hok : termOkB sg t = true) : ∀ {p : List Int} {k : Nat} {s s' : List (List Int)}, mst sg t p k s = some s' → (∀ i, (s.getD i []).length = 0 ∨ termOkB sg (s.getD i []) = true) → ∀ i, (s'.getD i []).length = 0 ∨ termOkB sg (s'.getD i []) = true := by
  intro p
  induction p with
  | nil => intro k s s' h hs; injection h with h; subst h; exact hs
  | cons x r ih =>
    intro k s s' h hs
    by_cases h1 : t.length ≤ k
    · rw [mst_out h1] at h; cases h
    · by_cases h2 : 0 ≤ x
      · by_cases h3 : x = t.getD k 0
        · rw [mst_sym h1 h2 h3] at h; exact ih h hs
        · rw [mst_symNo h1 h2 h3] at h; cases h
      · by_cases h3 : (s.getD (vr x) []).length ≠ 0 ∧ s.getD (vr x) [] ≠ subL sg t k
        · rw [mst_varNo h1 h2 h3] at h; cases h
        · rw [mst_var h1 h2 h3] at h
          refine ih h (fun i => ?_)
          rw [set_get]
          split
          · exact .inr (sub_term hok (by omega)).1
          · exact hs i
theorem match_terms {sg p t : List Int} {s : List (List Int)} (h : matchO sg p t = some s) : termOkB sg p = true ∧ termOkB sg t = true ∧ s.length = 24 ∧ ∀ i, (s.getD i []).length = 0 ∨ termOkB sg (s.getD i []) = true := by
  obtain ⟨h1, h2⟩ := inst_ok (show instB sg p t = true by unfold instB; rw [h]; rfl)
  refine ⟨h1, h2, (match_turns h).1, ?_⟩
  rw [match_yes h1 h2] at h
  exact mst_terms h2 h (fun i => .inl (by rw [s0_get]; rfl))
theorem res_gives {s : List (List Int)} (h : s.length = 24) (i : Nat) : givesL (resL (some s)) i = givesL s i :=
  gives_plain (gives_pos s) (fun j hj => gives_out (by omega))
end Go.Proofs.YtpcnjcgglonifaaGreat.matchFacts
end

section
namespace Go.Proofs.YtpcnjcgglonifaaGreat.shape
open Go.RowKit base ints sig cursor marks app sym appAt segs segsHelp segsMark kinds

theorem Owned.num (w : World) (lo hi : Nat) (x : Int) : Owned w lo hi .num [.int .i64 x] x := ⟨[], ⟨rfl, rfl⟩, List.nodup_nil, fun k hk => by cases hk⟩
theorem Ow.num {w w' : World} {cs : List Value} {x : Int} {F : List Nat} (h : Ow w .num cs x F) (y : Int) : Ow w' .num [.int .i64 y] y F := ⟨rfl, h.2⟩
end Go.Proofs.YtpcnjcgglonifaaGreat.shape
end

section
namespace Go.Proofs.YtpcnjcgglonifaaGreat.kindsW
open Go.RowKit base ints sig cursor marks app sym appAt segs segsHelp segsMark kinds shape
set_option maxRecDepth 100000

abbrev sStep : Sh := .cat .num (.cat .num sI)
theorem parts_Step {w : World} {B : Nat} {v0 : Value} {d : Dat sStep} (h : Rd w B sStep [.int .i64 d.1, .int .i64 d.2.1, v0] d) : Rd w B .num [.int .i64 d.1] d.1 ∧ Rd w B .num [.int .i64 d.2.1] d.2.1 ∧ Rd w B sI [v0] d.2.2 := by
  obtain ⟨p0, q0⟩ := Rd.split (ca := [.int .i64 d.1]) (cb := [.int .i64 d.2.1, v0]) h rfl
  obtain ⟨p1, q1⟩ := Rd.split (ca := [.int .i64 d.2.1]) (cb := [v0]) q0 rfl
  exact ⟨p0, p1, q1⟩
theorem cells_Step {w : World} {B : Nat} {es : List Value} {d : Dat sStep} (h : Rd w B sStep es d) : ∃ (v0 : Value), es = [.int .i64 d.1, .int .i64 d.2.1, v0] := by
  obtain ⟨ca0, cb0, e0, p0, q0⟩ := h
  obtain ⟨ca1, cb1, e1, p1, q1⟩ := q0
  obtain ⟨A2, n2, c2, z2, -⟩ := q1
  exact ⟨.slice A2 n2 c2, by rw [e0, (show _ = _ from p0), e1, (show _ = _ from p1), z2] <;> rfl⟩

abbrev sStepS : Sh := .row 81 sStep
theorem info_StepS : (Tryz.prog.info? 81).map (fun i => (i.zero, i.size, i.bytes)) = some (some (.agg #[.int .i64 0, .int .i64 0, .slice none 0 0]), 3, 40) := by kernel_rfl
abbrev sWalk : Sh := .cat sI sStepS
theorem parts_Walk {w : World} {B : Nat} {v0 v1 : Value} {d : Dat sWalk} (h : Rd w B sWalk [v0, v1] d) : Rd w B sI [v0] d.1 ∧ Rd w B sStepS [v1] d.2 := by
  obtain ⟨p0, q0⟩ := Rd.split (ca := [v0]) (cb := [v1]) h rfl
  exact ⟨p0, q0⟩
end Go.Proofs.YtpcnjcgglonifaaGreat.kindsW
end
