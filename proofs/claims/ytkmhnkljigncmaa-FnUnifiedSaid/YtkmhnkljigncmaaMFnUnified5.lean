/-
  MERGED: my texts Put, DrawL5, DrawMatched, DrawUni, RenMath, MatchMath, UnifMath, UnifDom, Then, HeldT, one behind the other, as they are. By an AI agent.
-/
import Derived.Test.YtkmhnkljigncmaaMFnUnified4
import Derived.Deep.DeepCutAuto
import Derived.Laws.NewBlocks
import Derived.Laws.EntriesVeiled
import Derived.OrdersHeld
import Derived.Deep.RegionHeld
section
/-
  CONTRACTS: spec.l3Put, spec.PutAt, impl.PutAt. Conditions: the slices read as lists ('Seg'), at most 1048576 numbers; the place is an int64; a nil slice has no capacity. By an AI agent.
-/
namespace Go.Proofs.Ytkmhnkljigncmaa.put
open Go.RowKit Go.Proofs.Ytkmhnkljigncmaa.segsHelp Go.Proofs.Ytkmhnkljigncmaa.base Go.Proofs.Ytkmhnkljigncmaa.ints Go.Proofs.Ytkmhnkljigncmaa.sig Go.Proofs.Ytkmhnkljigncmaa.term Go.Proofs.Ytkmhnkljigncmaa.arity Go.Proofs.Ytkmhnkljigncmaa.endOf Go.Proofs.Ytkmhnkljigncmaa.cursor Go.Proofs.Ytkmhnkljigncmaa.termOk Go.Proofs.Ytkmhnkljigncmaa.endAt Go.Proofs.Ytkmhnkljigncmaa.inside Go.Proofs.Ytkmhnkljigncmaa.marks Go.Proofs.Ytkmhnkljigncmaa.app Go.Proofs.Ytkmhnkljigncmaa.sym Go.Proofs.Ytkmhnkljigncmaa.sub Go.Proofs.Ytkmhnkljigncmaa.segs Go.Proofs.Ytkmhnkljigncmaa.posMath Go.Proofs.Ytkmhnkljigncmaa.putMath Go.Proofs.Ytkmhnkljigncmaa.concat
set_option maxRecDepth 100000

theorem Seg.front {w : World} {B b off m a : Nat} {t : List Int} (h : Seg w B (some ⟨b, off, none⟩) m t) (ha : a ≤ m) : Seg w B (some ⟨b, off, none⟩) a (t.take a) := by
  have := Seg.cut (a := 0) (j := a) h (by omega)
  simpa using this
theorem Seg.back {w : World} {B b off m e : Nat} {t : List Int} (h : Seg w B (some ⟨b, off, none⟩) m t) (he : e ≤ m) : Seg w B (some ⟨b, off + e, none⟩) (m - e) (t.drop e) := by
  have := Seg.cut (a := e) (j := m - e) h (by omega)
  rwa [List.take_of_length_le (by simp [h.1])] at this
theorem Seg.none_any {w : World} {B : Nat} {A : Option Addr} {t : List Int} (h : t = []) : Seg w B A 0 t := ⟨by rw [h]; rfl, fun h => absurd h (Nat.lt_irrefl _)⟩

def putI (sg t u : List Int) (a : Nat) : List Int := putL t a (len1 sg t a) u
def AnsPut (w : World) (ys : List Int) (b : Bool) (e : Ending) (w' : World) : Prop := ∃ A n c, e = .returned (.tuple #[.slice A n c, .bool b]) ∧ Own w' w.heap.size (.slice A n c) ys ∧ Below w.heap.size w w'
def fitB (sg t u : List Int) (a : Nat) : Bool := decide ((putI sg t u a).length ≤ 60)
def fitL (sg t u : List Int) (a : Nat) : List Int := if fitB sg t u a = true then putI sg t u a else []

set_option maxHeartbeats 1000000 in
theorem l3Put (A A' U : Option Addr) (n c m c' un uc : Nat) (sg t u : List Int) (a : Nat) (w : World) (h : Seg w w.heap.size A n sg) (h' : Seg w w.heap.size A' m t) (hu : Seg w w.heap.size U un u) (hcu : U = none → uc = 0) (hn : n ≤ 1048576) (hm : m ≤ 1048576) (hun : un ≤ 60) (hc' : m ≤ c') (hc2 : c' ≤ 9223372036854775807)
    (hok : termOkB sg t = true) (hat : a < t.length) :
    Calls Try.prog 131 #[.agg #[.slice A n c], .slice A' m c', .int .i64 (a : Int), .slice U un uc] w (AnsPut w (fitL sg t u a) (fitB sg t u a)) := by
  have ham : a < m := by rw [h'.1] at hat; exact hat
  obtain ⟨b, off, x, rfl, -, -, -⟩ := h'.spot ham
  obtain ⟨W, hW⟩ : ∃ W, W = w.alloc (.cells #[.slice A n c] 26) := ⟨_, rfl⟩
  have f : Fr w W A n c sg (some ⟨b, off, none⟩) m t := by rw [hW]; exact Fr.start h h'
  have hU : Seg W w.heap.size U un u := hu.below f.b
  have HW := Lib.hid hW
  obtain ⟨j, hj⟩ : ∃ j, len1 sg t a = j := ⟨_, rfl⟩
  obtain ⟨t1, t2, t3⟩ := term_at hok hat
  have hars := (sig_arities (termOk_parts hok).1).1
  rw [hj] at t1 t2 t3
  rw [h'.1] at t3
  have h60 : m ≤ 60 := by have := (termOk_parts hok).2.1; rw [h'.1] at this; exact this
  have HE := Lib.hid (endI_some t1)
  have HTL := Lib.hid hat
  have HPI := Lib.hid (show putI sg t u a = t.take a ++ u ++ t.drop (a + j) by unfold putI putL; rw [hj, List.append_assoc])
  have hpl : (putI sg t u a).length = a + un + (m - (a + j)) := by rw [HPI.out]; simp [h'.1, hu.1]; omega
  have HPL := Lib.hid hpl
  have LC := Lib.hid (copyInts (some ⟨b, off, none⟩) a c' (t.take a) W ((Seg.front f.t1 (by omega))) (fun e => by cases e) (by omega))
  have HCU := Lib.hid hcu
  have i0 : (0 : Int) ≤ (a : Int) := by omega
  have i1 : (a : Int) ≤ (c' : Int) := by omega
  have i2 : (a : Int) + (j : Int) ≤ (c' : Int) := by omega
  have i3 : (a : Int) + (j : Int) ≤ (m : Int) := by omega
  clear hW h h' hu hj t1 hok hat hcu hpl
  go_enter Try.func131, Try.ntmps131
  go_wp2_with fail
  rw [← HW.out]
  refine LC.out.mono ?_
  rintro e w1 ⟨O1, n1, c1, rfl, o1, bb⟩
  have hta : (t.take a).length = a := by rw [List.length_take]; have := HTL.out; omega
  obtain rfl : n1 = a := by rw [Own.len o1, hta]
  replace hU := hU.below (bb.mono (Nat.le_of_lt f.size))
  replace o1 := Own.lower (base' := w.heap.size + 1) o1 f.size
  replace f := f.next bb
  have z1 : w.heap.size + 1 ≤ w1.heap.size := f.size
  clear bb hta LC
  go_wp2_with (at_builtin; refine appAll rfl _ _ rfl (w.heap.size + 1) O1 n1 c1 _ rfl o1 U un uc w.heap.size u rfl hU HCU.out (by omega) (by omega) z1 ?_; intro O2 c2 w2 o2 b2; have f2 := f.over b2; have cA2 : w2.cell? ⟨w.heap.size, 0, none⟩ = some (.slice A n c) := f2.cell)
  clear o1 b2 f hU z1 cA2
  replace f := f2
  clear f2
  have cA := f.cell
  obtain ⟨k, hk⟩ : ∃ k, n1 + j = k := ⟨_, rfl⟩
  rw [hk] at HPI HPL t3
  have HEK := Lib.hid (show endI sg t n1 = (k : Int) by rw [HE.out, ← hk]; omega)
  have hn1k : n1 ≤ k := by omega
  clear HE hk i2 i3 t2
  refine (specEnd A _ n c m c' sg t (n1 : Int) _ f.s1 f.t1 hn hm hars i0 (by omega)).mono ?_
  rintro e w3 ⟨he, bb⟩
  rw [Int.toNat_natCast, HEK.out] at he
  subst he
  replace f := f.next bb
  replace o2 := Own.next o2 bb
  clear bb cA
  have i2 : (k : Int) ≤ (c' : Int) := by omega
  have i4 : (k : Int) ≤ (m : Int) := by omega
  have z1 : w.heap.size + 1 ≤ w3.heap.size := f.size
  by_cases hce : c' = k
  · subst hce
    have hmk : m - c' = 0 := by omega
    have HSG := Lib.hid (show Seg w3 w.heap.size (some ⟨b, off, none⟩) 0 [] from Seg.none_any rfl)
    have HPI2 := Lib.hid (show putI sg t u n1 = t.take n1 ++ u ++ [] by rw [HPI.out, List.drop_eq_nil_of_le (by rw [f.t1.1]; omega)])
    have HPL2 := Lib.hid (show (putI sg t u n1).length = n1 + un by rw [HPL.out, hmk]; rfl)
    clear hmk HPL HPI
    by_cases h6 : n1 + un ≤ 60
    · have h7 : ¬ (60 : Int) < (n1 : Int) + (un : Int) := by omega
      go_wp2_with (at_builtin; refine appAll rfl _ _ rfl (w.heap.size + 1) O2 (n1 + un) c2 _ rfl o2 (some ⟨b, off, none⟩) 0 0 w.heap.size [] rfl HSG.out (fun e => by cases e) (by omega) (by omega) z1 ?_; intro O4 c4 w4 o4 b4)
      replace f := f.over b4
      have F : AnsPut w (fitL sg t u n1) (fitB sg t u n1) (.returned (.tuple #[.slice O4 (n1 + un) c4, .bool true])) w4 := ⟨O4, _, c4, by rw [show fitB sg t u n1 = true by unfold fitB; rw [HPL2.out]; exact decide_eq_true h6], by unfold fitL; rw [if_pos (by unfold fitB; rw [HPL2.out]; exact decide_eq_true h6), HPI2.out]; exact Own.lower o4 (Nat.le_succ _), f.b⟩
      have HF := Lib.hid F
      clear F o4 f
      go_ret2
      exact HF.out
    · have h7 : (60 : Int) < (n1 : Int) + (un : Int) := by omega
      go_wp2_with (at_builtin; refine appAll rfl _ _ rfl (w.heap.size + 1) O2 (n1 + un) c2 _ rfl o2 (some ⟨b, off, none⟩) 0 0 w.heap.size [] rfl HSG.out (fun e => by cases e) (by omega) (by omega) z1 ?_; intro O4 c4 w4 o4 b4)
      replace f := f.over b4
      have F : AnsPut w (fitL sg t u n1) (fitB sg t u n1) (.returned (.tuple #[.slice (some ⟨w4.heap.size, 0, none⟩) 0 0, .bool false])) (w4.alloc (.cells #[] 2)) := ⟨_, 0, 0, by rw [show fitB sg t u n1 = false by unfold fitB; rw [HPL2.out]; exact decide_eq_false h6], by unfold fitL; rw [if_neg (by unfold fitB; rw [HPL2.out, decide_eq_false h6]; simp)]; exact own_empty w4 w.heap.size (Nat.le_of_lt f.size), (f.alloc _).b⟩
      have HF := Lib.hid F
      clear F o4 f
      go_ret2
      exact HF.out
  · have HSG := Lib.hid (Seg.back f.s' (e := k) t3)
    obtain ⟨r, hr⟩ : ∃ r, m - k = r := ⟨_, rfl⟩
    rw [hr] at HPL HSG
    have hr60 : r ≤ 60 := by omega
    by_cases h6 : n1 + un + r ≤ 60
    · have h7 : ¬ (60 : Int) < (n1 : Int) + (un : Int) + (r : Int) := by omega
      go_wp2_with (at_builtin; refine appAll rfl _ _ rfl (w.heap.size + 1) O2 (n1 + un) c2 _ rfl o2 (some ⟨b, off + k, none⟩) r (c' - k) w.heap.size (t.drop k) rfl HSG.out (fun e => by cases e) (by omega) (by omega) z1 ?_; intro O4 c4 w4 o4 b4)
      replace f := f.over b4
      have F : AnsPut w (fitL sg t u n1) (fitB sg t u n1) (.returned (.tuple #[.slice O4 (n1 + un + r) c4, .bool true])) w4 := ⟨O4, _, c4, by rw [show fitB sg t u n1 = true by unfold fitB; rw [HPL.out]; exact decide_eq_true h6], by unfold fitL; rw [if_pos (by unfold fitB; rw [HPL.out]; exact decide_eq_true h6), HPI.out]; exact Own.lower o4 (Nat.le_succ _), f.b⟩
      have HF := Lib.hid F
      clear F o4 f
      go_ret2
      exact HF.out
    · have h7 : (60 : Int) < (n1 : Int) + (un : Int) + (r : Int) := by omega
      go_wp2_with (at_builtin; refine appAll rfl _ _ rfl (w.heap.size + 1) O2 (n1 + un) c2 _ rfl o2 (some ⟨b, off + k, none⟩) r (c' - k) w.heap.size (t.drop k) rfl HSG.out (fun e => by cases e) (by omega) (by omega) z1 ?_; intro O4 c4 w4 o4 b4)
      replace f := f.over b4
      have F : AnsPut w (fitL sg t u n1) (fitB sg t u n1) (.returned (.tuple #[.slice (some ⟨w4.heap.size, 0, none⟩) 0 0, .bool false])) (w4.alloc (.cells #[] 2)) := ⟨_, 0, 0, by rw [show fitB sg t u n1 = false by unfold fitB; rw [HPL.out]; exact decide_eq_false h6], by unfold fitL; rw [if_neg (by unfold fitB; rw [HPL.out, decide_eq_false h6]; simp)]; exact own_empty w4 w.heap.size (Nat.le_of_lt f.size), (f.alloc _).b⟩
      have HF := Lib.hid F
      clear F o4 f
      go_ret2
      exact HF.out
def putB (sg t u : List Int) (x : Int) : Bool := (thereB sg t x && termOkB sg u) && fitB sg t u x.toNat
def putR (sg t u : List Int) (x : Int) : List Int := if putB sg t u x = true then putI sg t u x.toNat else []
theorem put_no {sg t u : List Int} {x : Int} (h : thereB sg t x = false ∨ termOkB sg u = false) : putB sg t u x = false ∧ putR sg t u x = [] := by
  have e : putB sg t u x = false := by
    unfold putB
    rcases h with h | h <;> rw [h] <;> simp
  exact ⟨e, by unfold putR; rw [if_neg (by rw [e]; simp)]⟩
theorem put_yes {sg t u : List Int} {a : Nat} (h1 : thereB sg t (a : Int) = true) (h2 : termOkB sg u = true) : putB sg t u (a : Int) = fitB sg t u a ∧ putR sg t u (a : Int) = fitL sg t u a := by
  have e : putB sg t u (a : Int) = fitB sg t u a := by unfold putB; rw [h1, h2, Int.toNat_natCast]; rfl
  exact ⟨e, by unfold putR fitL; rw [e, Int.toNat_natCast]⟩
theorem putR_len {sg t u : List Int} {x : Int} : (putR sg t u x).length ≤ 60 := by
  unfold putR
  split
  · rename_i h
    unfold putB fitB at h
    simp only [Bool.and_eq_true, decide_eq_true_eq] at h
    exact h.2
  · simp
theorem ansPut_no {w w' : World} {sg t u : List Int} {x : Int} {A : Option Addr} {c : Nat} (h : thereB sg t x = false ∨ termOkB sg u = false) (ho : Own w' w.heap.size (.slice A 0 c) []) (hb : Below w.heap.size w w') : AnsPut w (putR sg t u x) (putB sg t u x) (.returned (.tuple #[.slice A 0 c, .bool false])) w' := by
  obtain ⟨e1, e2⟩ := put_no h
  exact ⟨A, 0, c, by rw [e1], by rw [e2]; exact ho, hb⟩

set_option maxHeartbeats 1000000 in
theorem specPutAt (A A' U : Option Addr) (n c m c' un uc : Nat) (sg t : List Int) (x : Int) (u : List Int) (w : World) (h : Seg w w.heap.size A n sg) (h' : Seg w w.heap.size A' m t) (hu : Seg w w.heap.size U un u) (hn : n ≤ 1048576) (hm : m ≤ 1048576) (hun : un ≤ 1048576)
    (hcu : U = none → uc = 0) (hc' : m ≤ c') (hc2 : c' ≤ 9223372036854775807) :
    Calls Try.prog 94 #[.agg #[.slice A n c], .slice A' m c', .int .i64 x, .slice U un uc] w (AnsPut w (putR sg t u x) (putB sg t u x)) := by
  obtain ⟨W, hW⟩ : ∃ W, W = w.alloc (.cells #[.slice A n c] 26) := ⟨_, rfl⟩
  have f : Fr w W A n c sg A' m t := by rw [hW]; exact Fr.start h h'
  have hU : Seg W W.heap.size U un u := (hu.below f.b).more (Nat.le_of_lt f.size)
  have HW := Lib.hid hW
  have L := Lib.hid (right A A' n c m c' sg t x W f.s1 f.t1 hn hm)
  clear hW h h' hu
  cases hx : thereB sg t x with
  | false =>
    have HX := Lib.hid hx
    clear hx
    go_enter Try.func94, Try.ntmps94
    go_wp2_with fail
    rw [← HW.out]
    refine L.out.mono ?_
    rintro e w1 ⟨he, bb⟩
    rw [HX.out] at he
    subst he
    have F := Lib.hid (ansPut_no (w := w) (u := u) (.inl HX.out) (own_empty w1 w.heap.size (f.next bb).b.size) ((f.next bb).alloc _).b)
    clear f L bb hU
    go_wp2
    go_ret2
    exact F.out
  | true =>
    have HX := Lib.hid hx
    obtain ⟨hok, i0, i1⟩ := there_parts hx
    obtain ⟨a, rfl⟩ := Int.eq_ofNat_of_zero_le i0
    have HOK := Lib.hid hok
    have HAL := Lib.hid (show a < t.length by omega)
    clear hx hok i0 i1
    cases hku : termOkB sg u with
    | false =>
      have HU := Lib.hid hku
      clear hku
      go_enter Try.func94, Try.ntmps94
      go_wp2_with fail
      rw [← HW.out]
      refine L.out.mono ?_
      rintro e w1 ⟨he, bb⟩
      rw [HX.out] at he
      subst he
      replace f := f.next bb
      replace hU := hU.next bb
      have cA := f.cell
      clear bb L
      go_wp2_with fail
      refine (specTermOk A U n c un uc sg u _ f.s1 hU hn hun).mono ?_
      rintro e w2 ⟨he, bb⟩
      rw [HU.out] at he
      subst he
      have F := Lib.hid (ansPut_no (w := w) (t := t) (x := (a : Int)) (.inr HU.out) (own_empty w2 w.heap.size (f.next bb).b.size) ((f.next bb).alloc _).b)
      clear f bb hU cA
      go_wp2
      go_ret2
      exact F.out
    | true =>
      have HU := Lib.hid hku
      have hu60 : un ≤ 60 := by have h1 := (termOk_parts hku).2.1; rw [hU.1] at h1; exact h1
      have HP := Lib.hid (put_yes HX.out hku)
      clear hku
      go_enter Try.func94, Try.ntmps94
      go_wp2_with fail
      rw [← HW.out]
      refine L.out.mono ?_
      rintro e w1 ⟨he, bb⟩
      rw [HX.out] at he
      subst he
      replace f := f.next bb
      replace hU := hU.next bb
      have cA := f.cell
      clear bb L
      go_wp2_with fail
      refine (specTermOk A U n c un uc sg u _ f.s1 hU hn hun).mono ?_
      rintro e w2 ⟨he, bb⟩
      rw [HU.out] at he
      subst he
      replace f := f.next bb
      replace hU := hU.next bb
      clear bb cA
      have cA := f.cell
      go_wp2_with fail
      refine (l3Put A A' U n c m c' un uc sg t u a _ f.s1 f.t1 hU hcu hn hm hu60 hc' hc2 HOK.out HAL.out).mono ?_
      rintro e w3 ⟨A2, n2, c2, rfl, o2, bb⟩
      have F : AnsPut w (putR sg t u (a : Int)) (putB sg t u (a : Int)) (.returned (.tuple #[.slice A2 n2 c2, .bool (fitB sg t u a)])) w3 := ⟨A2, n2, c2, by rw [HP.out.1], by rw [HP.out.2]; exact Own.lower o2 (Nat.le_of_lt f.size), (f.next bb).b⟩
      replace F := Lib.hid F
      clear f bb hU cA o2 HP
      generalize fitB sg t u a = b at *
      go_wp2
      go_ret2
      exact F.out

set_option maxHeartbeats 400000 in
theorem tooLong (A : Option Addr) (n c : Nat) (w : World) (hn : n ≤ 9223372036854775807) :
    Calls Try.prog 74 #[.slice A n c] w fun e w' => w = w' ∧ e = .returned (.bool (decide (60 < n))) := by
  have E : decide ((60 : Int) < (n : Int)) = decide (60 < n) := decide_eq_decide.2 (by omega)
  rw [← E]
  have HE := Lib.hid E
  clear E
  generalize hz : decide ((60 : Int) < (n : Int)) = z
  have HZ := Lib.hid hz
  clear hz
  go_enter Try.func74, Try.ntmps74
  go_wp2
  go_ret
  exact ⟨rfl, by rw [← HZ.out]; rfl⟩
theorem segs3 {w : World} {t : TypeId} {A1 A2 A3 : Option Addr} {n1 c1 n2 c2 n3 c3 : Nat} {x1 x2 x3 : List Int} (h1 : Seg w w.heap.size A1 n1 x1) (h2 : Seg w w.heap.size A2 n2 x2) (h3 : Seg w w.heap.size A3 n3 x3) (k1 : Cap A1 n1 c1) (k2 : Cap A2 n2 c2) (k3 : Cap A3 n3 c3) :
    Segs (w.alloc (.cells #[.slice A1 n1 c1, .slice A2 n2 c2, .slice A3 n3 c3] t)) (w.alloc (.cells #[.slice A1 n1 c1, .slice A2 n2 c2, .slice A3 n3 c3] t)).heap.size (some ⟨w.heap.size, 0, none⟩) 3 [x1, x2, x3] := by
  have r := Row.new w t #[.slice A1 n1 c1, .slice A2 n2 c2, .slice A3 n3 c3]
  have b : Below w.heap.size w (w.alloc (.cells #[.slice A1 n1 c1, .slice A2 n2 c2, .slice A3 n3 c3] t)) := (Below.refl _ _).alloc (Nat.le_refl _) _
  refine ⟨rfl, fun _ => ⟨w.heap.size, 0, rfl, r.lt, fun j hj => ?_⟩⟩
  rw [Nat.zero_add, r.cell j]
  rcases (show j = 0 ∨ j = 1 ∨ j = 2 by omega) with rfl | rfl | rfl
  · exact ⟨A1, n1, c1, rfl, h1.next b, k1⟩
  · exact ⟨A2, n2, c2, rfl, h2.next b, k2⟩
  · exact ⟨A3, n3, c3, rfl, h3.next b, k3⟩
theorem specPutX (A A' U : Option Addr) (n c m c' un uc : Nat) (sg t : List Int) (x : Int) (u : List Int) (w : World) (h : Seg w w.heap.size A n sg) (h' : Seg w w.heap.size A' m t) (hu : Seg w w.heap.size U un u) (hn : n ≤ 1048576) (hm : m ≤ 1048576) (hun : un ≤ 1048576) (_ : -9223372036854775808 ≤ x) (_ : x ≤ 9223372036854775807)
    (hcu : Cap U un uc) (hc' : m ≤ c') (hc2 : c' ≤ 9223372036854775807) :
    Calls Try.prog 94 #[.agg #[.slice A n c], .slice A' m c', .int .i64 x, .slice U un uc] w (AnsPut w (putR sg t u x) (putB sg t u x)) := specPutAt A A' U n c m c' un uc sg t x u w h h' hu hn hm hun hcu.2.2 hc' hc2
theorem putR_len' {sg t u : List Int} {x : Int} : (putR sg t u x).length ≤ 1048576 := by have := putR_len (sg := sg) (t := t) (u := u) (x := x); omega
end Go.Proofs.Ytkmhnkljigncmaa.put
end

section
/-
  CONTRACT: spec.l5Draw: a drawn signature and two drawn terms. Conditions: a cursor ('Dice'). By an AI agent.
-/
namespace Go.Proofs.Ytkmhnkljigncmaa.drawL5
open Go.RowKit Go.Proofs.Ytkmhnkljigncmaa.base Go.Proofs.Ytkmhnkljigncmaa.ints Go.Proofs.Ytkmhnkljigncmaa.sig Go.Proofs.Ytkmhnkljigncmaa.term Go.Proofs.Ytkmhnkljigncmaa.cursor Go.Proofs.Ytkmhnkljigncmaa.termOk Go.Proofs.Ytkmhnkljigncmaa.marks Go.Proofs.Ytkmhnkljigncmaa.app Go.Proofs.Ytkmhnkljigncmaa.sym Go.Proofs.Ytkmhnkljigncmaa.segs Go.Proofs.Ytkmhnkljigncmaa.segsHelp Go.Proofs.Ytkmhnkljigncmaa.dice Go.Proofs.Ytkmhnkljigncmaa.drawSig Go.Proofs.Ytkmhnkljigncmaa.drawTerm Go.Proofs.Ytkmhnkljigncmaa.drawAny Go.Proofs.Ytkmhnkljigncmaa.drawTwo Go.Proofs.Ytkmhnkljigncmaa.drawPair Go.Proofs.Ytkmhnkljigncmaa.drawOne Go.Proofs.Ytkmhnkljigncmaa.drawSub Go.Proofs.Ytkmhnkljigncmaa.drawSA Go.Proofs.Ytkmhnkljigncmaa.drawSS Go.Proofs.Ytkmhnkljigncmaa.drawS Go.Proofs.Ytkmhnkljigncmaa.fillMath Go.Proofs.Ytkmhnkljigncmaa.shifted Go.Proofs.Ytkmhnkljigncmaa.filled Go.Proofs.Ytkmhnkljigncmaa.drawMatch Go.Proofs.Ytkmhnkljigncmaa.put
set_option maxRecDepth 100000

theorem lit_seg (w : World) (x : Int) : Seg (w.alloc (.cells #[.int .i64 x] 2)) (w.alloc (.cells #[.int .i64 x] 2)).heap.size (some ⟨w.heap.size, 0, none⟩) 1 [x] :=
  ⟨rfl, fun _ => ⟨w.heap.size, 0, rfl, by simp, fun j hj => by
    obtain rfl : j = 0 := by omega
    exact (Row.new w 2 #[.int .i64 x]).cell 0⟩⟩
set_option maxHeartbeats 1000000 in
/-- a number from 0 to 256, whatever the bound -/
theorem belowLen (p : Nat) (A : Option Addr) (n c : Nat) (N : Int) (w : World) (hd : Dice w p A n c) (h1 : 0 ≤ N) (h2 : N ≤ 256) :
    Calls Try.prog 95 #[.pointer (some ⟨p, 0, none⟩), .int .i64 N] w (AnsDraw w p A n c 0 256) := by
  by_cases h0 : N = 0
  · subst h0
    have F : AnsDraw w p A n c 0 256 (.returned (.int .i64 0)) w := ⟨_, rfl, by omega, by omega, hd, World.grownBy.refl w (some p)⟩
    have HF := Lib.hid F
    clear F hd
    go_enter Try.func95, Try.ntmps95
    go_wp2_with fail
    go_ret
    exact HF.out
  · exact (below p A n c N w hd (by omega) h2).mono fun _ _ ⟨x, h3, h4, h5, h6⟩ => ⟨x, h3, h4, by omega, h6⟩
theorem alloc_below (w : World) (o : Obj) : Below w.heap.size w (w.alloc o) := (Below.refl _ _).alloc (Nat.le_refl _) _
/-- a cut of a drawn term is drawn -/
theorem put_small {w w' : World} {p : Nat} {sg t u : List Int} {x : Int} {e : Ending} (hp : p < w.heap.size) (h : AnsPut w (putR sg t u x) (putB sg t u x) e w') : ∃ Q qn qc ys b, e = .returned (.tuple #[.slice Q qn qc, .bool b]) ∧ Rd w' p w'.heap.size Q qn ys ∧ (qn ≤ 65 ∧ Cap Q qn qc) ∧ Below w.heap.size w w' := by
  obtain ⟨Q, qn, qc, rfl, oq, hb⟩ := h
  exact ⟨Q, qn, qc, _, _, rfl, Rd.of_own oq hp, ⟨by have e1 := Own.len oq; have e2 := @putR_len sg t u x; omega, (Own.cap oq).1, (Own.cap oq).2, Own.none_cap oq⟩, hb⟩

set_option maxHeartbeats 16000000 in
theorem l5Draw (p : Nat) (A : Option Addr) (n c : Nat) (w : World) (hd : Dice w p A n c) :
    Calls Try.prog 56 #[.pointer (some ⟨p, 0, none⟩)] w (AnsM4 w p A n c) := by
  have hp := hd.lt
  obtain ⟨W0, hW0⟩ : ∃ W0, W0 = w.alloc (.cells #[.slice none 0 0] 26) := ⟨_, rfl⟩
  have rN : Row W0 w.heap.size 26 #[.slice none 0 0] := by rw [hW0]; exact Row.new _ _ _
  have d0 : Dice W0 p A n c := by rw [hW0]; exact hd.alloc _
  have g0 : w.grownBy W0 (some p) := by rw [hW0]; exact World.grownBy_alloc _ _ _
  have L2 := Lib.hid (drawSigAny p A n c W0 d0)
  have hp1 := d0.lt
  have HW0 := Lib.hid hW0
  clear hd d0 hW0
  go_enter Try.func56, Try.ntmps56
  go_wp2_with fail
  rw [← HW0.out]
  refine L2.out.mono ?_
  rintro e w2 ⟨S, sn, sc, sg, rfl, o2, hshort, d2, g2⟩
  have hsn : sn ≤ 9 := by rw [Own.len o2]; exact hshort
  have z0 := rN.lt
  have z2 := g2.size
  replace rN := Row.away rN g2 (fun e => by injection e; omega)
  have G2 := grown_trans g0 g2
  obtain ⟨W, hW⟩ : ∃ W, W = w2.alloc (.cells #[.slice S sn sc] 26) := ⟨_, rfl⟩
  obtain ⟨v, hv⟩ : ∃ v, w2.heap.size = v := ⟨_, rfl⟩
  have bb : Below w2.heap.size w2 W := by rw [hW]; exact (Below.refl _ _).alloc (Nat.le_refl _) _
  have T0 : M4 w p A n c v S sn sc sg none 0 [] W :=
    ⟨d2.next bb, rN.next bb, by rw [hW, ← hv]; exact Row.new _ _ _, ((Rd.of_own o2 hp1).below bb (Nat.le_refl _)).more bb.size, ⟨rfl, fun h => absurd h (by omega)⟩, grown_over G2 bb G2.size, hp, by omega⟩
  have HV := Lib.hid hv
  have HW := Lib.hid hW
  have cV : W.cell? ⟨v, 0, none⟩ = some (.slice S sn sc) := T0.rV.cell 0
  have L3 := Lib.hid (drawAny p A n c S sn sc sg W T0.d T0.s (by omega))
  have zNv : w.heap.size < v := T0.hv
  have zne1 : ¬ v = w.heap.size := by omega
  have zne2 : ¬ w.heap.size = v := by omega
  clear o2 hshort d2 g2 g0 hW hv L2 rN bb G2 z2
  go_wp2_with fail
  rw [← HW.out, HV.out]
  refine L3.out.mono ?_
  rintro e w3 ⟨O, on, oc, xs, rfl, ro, h1, h2, h3, h4, d4, g4⟩
  have hO : on ≤ 65 ∧ Cap O on oc := ⟨h4, h1, h2, h3⟩
  replace T0 := T0.dice d4 g4
  have T : M4 w p A n c v S sn sc sg O on xs w3 := ⟨T0.d, T0.rN, T0.rV, T0.s, ro, T0.g, T0.hp, T0.hv⟩
  have cV3 : w3.cell? ⟨v, 0, none⟩ = some (.slice S sn sc) := T.rV.cell 0
  have L4 := Lib.hid (drawAny p A n c S sn sc sg w3 T.d T.s (by omega))
  clear T0 ro d4 g4 cV L3 h1 h2 h3 h4
  go_wp2_with fail
  refine L4.out.mono ?_
  rintro e w4 ⟨R, rn, rc, zs, rfl, rr, h1, h2, h3, h4, d4, g4⟩
  have hR : rn ≤ 65 ∧ Cap R rn rc := ⟨h4, h1, h2, h3⟩
  replace T := T.dice d4 g4
  have cV4 : w4.cell? ⟨v, 0, none⟩ = some (.slice S sn sc) := T.rV.cell 0
  have L5 := Lib.hid (once p A n c 2 w4 T.d (by omega) (by omega))
  clear d4 g4 cV3 L4 h1 h2 h3 h4
  go_wp2_with fail
  refine L5.out.mono ?_
  rintro e w5 ⟨b, rfl, d5, g5⟩
  replace T := T.dice d5 g5
  replace rr := (rr.grown g5 (Nat.le_refl _)).more g5.size
  have cV5 : w5.cell? ⟨v, 0, none⟩ = some (.slice S sn sc) := T.rV.cell 0
  clear d5 g5 cV4 L5
  cases b with
  | false =>
    have cN : w5.cell? ⟨w.heap.size, 0, none⟩ = some (.slice none 0 0) := T.rN.cell 0
    have fN : w5.frozen? ⟨w.heap.size, 0, none⟩ = false := T.rN.free 0
    have F := Lib.hid (m4_of (oc := oc) (qc := rc) T rr hsn hO hR)
    clear T rr
    go_wp2
    exact bodyPost_ret (v := .tuple #[.agg #[.slice S sn sc], .slice O on oc, .slice R rn rc]) (by simp [results, Try.results56, go_sem, cN]) rfl F.out
  | true =>
    have L6 := Lib.hid (specTermOk S O sn sc on oc sg xs w5 T.s.seg T.o.seg (by omega) (by omega))
    go_wp2_with fail
    refine L6.out.mono ?_
    rintro e w6 ⟨rfl, bb⟩
    generalize termOkB sg xs = ok
    replace T := T.next bb
    replace rr := (rr.below bb (Nat.le_refl _)).more bb.size
    have cV6 : w6.cell? ⟨v, 0, none⟩ = some (.slice S sn sc) := T.rV.cell 0
    clear bb cV5 L6
    cases ok with
    | false =>
      have cN : w6.cell? ⟨w.heap.size, 0, none⟩ = some (.slice none 0 0) := T.rN.cell 0
      have fN : w6.frozen? ⟨w.heap.size, 0, none⟩ = false := T.rN.free 0
      have F := Lib.hid (m4_of (oc := oc) (qc := rc) T rr hsn hO hR)
      clear T rr
      go_wp2
      exact bodyPost_ret (v := .tuple #[.agg #[.slice S sn sc], .slice O on oc, .slice R rn rc]) (by simp [results, Try.results56, go_sem, cN]) rfl F.out
    | true =>
      have T1 := T.drew
      replace rr : Rd w6.drew p w6.drew.heap.size R rn zs := rr
      have zp6 : p < w6.drew.heap.size := T1.d.lt
      clear T
      go_wp2_with fail
      go_region_held3 (fun w' => w'.cell? ⟨v, 0, none⟩ = some (.slice S sn sc))
        (go_keep)
        (first
          | (go_at_call 68; refine (drawAnyS p A n c S sn sc sg w6.drew T1.d T1.s (by omega)).mono ?_; rintro e w7 ⟨B, m, cB, xss, rfl, own7, hsm7, d7, g7⟩; have hxt := small_tot hsm7 own7.1 (by omega); have rr2 := (rr.grown g7 (Nat.le_refl _)).more g7.size; have T2 := T1.dice d7 g7; have cV7 : w7.cell? ⟨v, 0, none⟩ = some (.slice S sn sc) := T2.rV.cell 0)
          | (go_at_call 18; refine (specFilledO S B O sn sc m cB on oc sg xss xs w7 T2.s.seg (OwnR.segs own7) T2.o.seg (by omega) hxt (by omega)).mono ?_; rintro e w8 ⟨Q, qn, qc, rfl, oq, b8⟩; have rr3 := (rr2.below b8 (Nat.le_refl _)).more b8.size; have T3 := T2.next b8; have cV8 : w8.cell? ⟨v, 0, none⟩ = some (.slice S sn sc) := T3.rV.cell 0))
      have hqn : qn ≤ 65 := by have e1 := Own.len oq; have e2 := filled_len sg xss xs; omega
      have hQ : qn ≤ 65 ∧ Cap Q qn qc := ⟨hqn, (Own.cap oq).1, (Own.cap oq).2, Own.none_cap oq⟩
      have rq : Rd w8 p w8.heap.size Q qn (filledL sg xss xs) := Rd.of_own oq T2.d.lt
      generalize filledL sg xss xs = ys at rq
      generalize filledB sg xss xs = z at *
      have L9 := Lib.hid (once p A n c 2 w8 T3.d (by omega) (by omega))
      clear oq b8 own7 d7 g7 cV7 cV6 T1 T2 hxt hsm7 rr rr2 zp6
      cases z with
      | false =>
        clear rq
        go_wp2_with fail
        refine L9.out.mono ?_
        rintro e w9 ⟨b, rfl, d9, g9⟩
        replace T3 := T3.dice d9 g9
        replace rr3 := (rr3.grown g9 (Nat.le_refl _)).more g9.size
        have cV9 : w9.cell? ⟨v, 0, none⟩ = some (.slice S sn sc) := T3.rV.cell 0
        clear d9 g9 cV8 L9
        cases b with
        | false =>
          have cN : w9.cell? ⟨w.heap.size, 0, none⟩ = some (.slice none 0 0) := T3.rN.cell 0
          have fN : w9.frozen? ⟨w.heap.size, 0, none⟩ = false := T3.rN.free 0
          have F := Lib.hid (m4_of (oc := oc) (qc := rc) T3 rr3 hsn hO hR)
          clear T3 rr3
          go_wp2
          exact bodyPost_ret (v := .tuple #[.agg #[.slice S sn sc], .slice O on oc, .slice R rn rc]) (by simp [results, Try.results56, go_sem, cN]) rfl F.out
        | true =>
          have T4 := T3.drew
          replace rr3 : Rd w9.drew p w9.drew.heap.size R rn zs := rr3
          clear T3
          go_wp2_with fail
          go_region_held3 (fun w' => w'.cell? ⟨v, 0, none⟩ = some (.slice S sn sc))
            (go_keep)
            (first
              | (go_at_call 95; refine (belowLen p A n c 3 w10 T5.d (by omega) (by omega)).mono ?_; rintro e w11 ⟨y, rfl, hy0, hy1, d11, g11⟩; have T6 := T5.dice d11 g11; have r11 := (r10.grown g11 (Nat.le_refl _)).more g11.size; have cV11 : w11.cell? ⟨v, 0, none⟩ = some (.slice S sn sc) := T6.rV.cell 0)
              | (go_at_call 95; refine (belowLen p A n c (rn : Int) w9.drew T4.d (by omega) (by omega)).mono ?_; rintro e w10 ⟨x, rfl, hx0, hx1, d10, g10⟩; have T5 := T4.dice d10 g10; have r10 := (rr3.grown g10 (Nat.le_refl _)).more g10.size; have cV10 : w10.cell? ⟨v, 0, none⟩ = some (.slice S sn sc) := T5.rV.cell 0)
              | (go_at_call 94; refine (specPutAt S R (some ⟨w11.heap.size, 0, none⟩) sn sc rn rc 1 1 sg zs x [IntKind.i64.wrap (-1 - y)] (w11.alloc (.cells #[.int .i64 (IntKind.i64.wrap (-1 - y))] 2)) (T6.next (alloc_below w11 _)).s.seg ((r11.below (alloc_below w11 _) (Nat.le_refl _)).more (alloc_below w11 _).size).seg (lit_seg w11 _) (by omega) (by omega) (by omega) (by simp) hR.2.1 hR.2.2.1).mono ?_; intro e w12 h12; obtain ⟨D, dn, dc, us, too, rfl, rd, hD, b12⟩ := put_small ((T6.next (alloc_below w11 _)).d.lt) h12; have T7 := (T6.next (alloc_below w11 (.cells #[.int .i64 (IntKind.i64.wrap (-1 - y))] 2))).next b12; have r12 := ((((r11.below (alloc_below w11 (.cells #[.int .i64 (IntKind.i64.wrap (-1 - y))] 2)) (Nat.le_refl _)).more (alloc_below w11 _).size).below b12 (Nat.le_refl _)).more b12.size); have cV12 : w12.cell? ⟨v, 0, none⟩ = some (.slice S sn sc) := T7.rV.cell 0))
          have cN : w12.cell? ⟨w.heap.size, 0, none⟩ = some (.slice none 0 0) := T7.rN.cell 0
          have fN : w12.frozen? ⟨w.heap.size, 0, none⟩ = false := T7.rN.free 0
          have F := Lib.hid (m4_of (oc := oc) (qc := dc) T7 rd hsn hO hD)
          have F2 := Lib.hid (m4_of (oc := oc) (qc := rc) T7 r12 hsn hO hR)
          clear T7 T6 T5 T4 rd r12 r11 r10 h12 b12 d10 g10 d11 g11 cV9 cV10 cV11 rr3
          cases too with
          | false =>
            go_wp2
            exact bodyPost_ret (v := .tuple #[.agg #[.slice S sn sc], .slice O on oc, .slice R rn rc]) (by simp [results, Try.results56, go_sem, cN]) rfl F2.out
          | true =>
            go_wp2
            exact bodyPost_ret (v := .tuple #[.agg #[.slice S sn sc], .slice O on oc, .slice D dn dc]) (by simp [results, Try.results56, go_sem, cN]) rfl F.out
      | true =>
        clear rr3
        go_wp2_with fail
        refine L9.out.mono ?_
        rintro e w9 ⟨b, rfl, d9, g9⟩
        replace T3 := T3.dice d9 g9
        replace rq := (rq.grown g9 (Nat.le_refl _)).more g9.size
        have cV9 : w9.cell? ⟨v, 0, none⟩ = some (.slice S sn sc) := T3.rV.cell 0
        clear d9 g9 cV8 L9
        cases b with
        | false =>
          have cN : w9.cell? ⟨w.heap.size, 0, none⟩ = some (.slice none 0 0) := T3.rN.cell 0
          have fN : w9.frozen? ⟨w.heap.size, 0, none⟩ = false := T3.rN.free 0
          have F := Lib.hid (m4_of (oc := oc) (qc := qc) T3 rq hsn hO hQ)
          clear T3 rq
          go_wp2
          exact bodyPost_ret (v := .tuple #[.agg #[.slice S sn sc], .slice O on oc, .slice Q qn qc]) (by simp [results, Try.results56, go_sem, cN]) rfl F.out
        | true =>
          have T4 := T3.drew
          replace rq : Rd w9.drew p w9.drew.heap.size Q qn ys := rq
          clear T3
          go_wp2_with fail
          go_region_held3 (fun w' => w'.cell? ⟨v, 0, none⟩ = some (.slice S sn sc))
            (go_keep)
            (first
              | (go_at_call 95; refine (belowLen p A n c 3 w10 T5.d (by omega) (by omega)).mono ?_; rintro e w11 ⟨y, rfl, hy0, hy1, d11, g11⟩; have T6 := T5.dice d11 g11; have r11 := (r10.grown g11 (Nat.le_refl _)).more g11.size; have cV11 : w11.cell? ⟨v, 0, none⟩ = some (.slice S sn sc) := T6.rV.cell 0)
              | (go_at_call 95; refine (belowLen p A n c (qn : Int) w9.drew T4.d (by omega) (by omega)).mono ?_; rintro e w10 ⟨x, rfl, hx0, hx1, d10, g10⟩; have T5 := T4.dice d10 g10; have r10 := (rq.grown g10 (Nat.le_refl _)).more g10.size; have cV10 : w10.cell? ⟨v, 0, none⟩ = some (.slice S sn sc) := T5.rV.cell 0)
              | (go_at_call 94; refine (specPutAt S Q (some ⟨w11.heap.size, 0, none⟩) sn sc qn qc 1 1 sg ys x [IntKind.i64.wrap (-1 - y)] (w11.alloc (.cells #[.int .i64 (IntKind.i64.wrap (-1 - y))] 2)) (T6.next (alloc_below w11 _)).s.seg ((r11.below (alloc_below w11 _) (Nat.le_refl _)).more (alloc_below w11 _).size).seg (lit_seg w11 _) (by omega) (by omega) (by omega) (by simp) hQ.2.1 hQ.2.2.1).mono ?_; intro e w12 h12; obtain ⟨D, dn, dc, us, too, rfl, rd, hD, b12⟩ := put_small ((T6.next (alloc_below w11 _)).d.lt) h12; have T7 := (T6.next (alloc_below w11 (.cells #[.int .i64 (IntKind.i64.wrap (-1 - y))] 2))).next b12; have r12 := ((((r11.below (alloc_below w11 (.cells #[.int .i64 (IntKind.i64.wrap (-1 - y))] 2)) (Nat.le_refl _)).more (alloc_below w11 _).size).below b12 (Nat.le_refl _)).more b12.size); have cV12 : w12.cell? ⟨v, 0, none⟩ = some (.slice S sn sc) := T7.rV.cell 0))
          have cN : w12.cell? ⟨w.heap.size, 0, none⟩ = some (.slice none 0 0) := T7.rN.cell 0
          have fN : w12.frozen? ⟨w.heap.size, 0, none⟩ = false := T7.rN.free 0
          have F := Lib.hid (m4_of (oc := oc) (qc := dc) T7 rd hsn hO hD)
          have F2 := Lib.hid (m4_of (oc := oc) (qc := qc) T7 r12 hsn hO hQ)
          clear T7 T6 T5 T4 rd r12 r11 r10 h12 b12 d10 g10 d11 g11 cV9 cV10 cV11 rq
          cases too with
          | false =>
            go_wp2
            exact bodyPost_ret (v := .tuple #[.agg #[.slice S sn sc], .slice O on oc, .slice Q qn qc]) (by simp [results, Try.results56, go_sem, cN]) rfl F2.out
          | true =>
            go_wp2
            exact bodyPost_ret (v := .tuple #[.agg #[.slice S sn sc], .slice O on oc, .slice D dn dc]) (by simp [results, Try.results56, go_sem, cN]) rfl F.out
end Go.Proofs.Ytkmhnkljigncmaa.drawL5
end

section
/-
  CONTRACT: spec.DrawMatched: a drawn signature, a pattern, a term. Conditions: at most 4096 bytes. By an AI agent.
-/
namespace Go.Proofs.Ytkmhnkljigncmaa.drawMatched
open Go.RowKit Go.Proofs.Ytkmhnkljigncmaa.base Go.Proofs.Ytkmhnkljigncmaa.ints Go.Proofs.Ytkmhnkljigncmaa.sig Go.Proofs.Ytkmhnkljigncmaa.term Go.Proofs.Ytkmhnkljigncmaa.cursor Go.Proofs.Ytkmhnkljigncmaa.termOk Go.Proofs.Ytkmhnkljigncmaa.marks Go.Proofs.Ytkmhnkljigncmaa.app Go.Proofs.Ytkmhnkljigncmaa.sym Go.Proofs.Ytkmhnkljigncmaa.segs Go.Proofs.Ytkmhnkljigncmaa.dice Go.Proofs.Ytkmhnkljigncmaa.drawSig Go.Proofs.Ytkmhnkljigncmaa.drawTerm Go.Proofs.Ytkmhnkljigncmaa.drawAny Go.Proofs.Ytkmhnkljigncmaa.drawTwo Go.Proofs.Ytkmhnkljigncmaa.drawPair Go.Proofs.Ytkmhnkljigncmaa.drawOne Go.Proofs.Ytkmhnkljigncmaa.drawVar Go.Proofs.Ytkmhnkljigncmaa.drawMatch

/-- a drawn signature and two drawn lists, with their capacities -/
def AnsT3 (w : World) (e : Ending) (w' : World) : Prop :=
  ∃ S sn sc sg O on oc xs Q qn qc ys, e = .returned (.tuple #[.agg #[.slice S sn sc], .slice O on oc, .slice Q qn qc]) ∧ Seg w' w'.heap.size S sn sg ∧ Seg w' w'.heap.size O on xs ∧ Seg w' w'.heap.size Q qn ys ∧ sn ≤ 9 ∧ (on ≤ 65 ∧ Cap O on oc) ∧ (qn ≤ 65 ∧ Cap Q qn qc) ∧ Below w.heap.size w w'
theorem t3_of {w u : World} {p : Nat} {S : Option Addr} {sn sc : Nat} {sg : List Int} {O : Option Addr} {on oc : Nat} {xs : List Int} {Q : Option Addr} {qn qc : Nat} {ys : List Int} {a : Option Addr} {l k : Nat} (hs : Rd u p u.heap.size S sn sg) (ho : Rd u p u.heap.size O on xs) (hq : Rd u p u.heap.size Q qn ys)
    (h1 : sn ≤ 9) (h2 : on ≤ 65 ∧ Cap O on oc) (h3 : qn ≤ 65 ∧ Cap Q qn qc) (hb : Below w.heap.size w u) (hN : u.cell? ⟨w.heap.size, 0, none⟩ = some (.slice a l k)) :
    AnsT3 w (.returned (.tuple #[.agg #[.slice S sn sc], .slice O on oc, .slice Q qn qc])) (u.setCell ⟨w.heap.size, 0, none⟩ (.slice S sn sc)) :=
  ⟨S, sn, sc, sg, O, on, oc, xs, Q, qn, qc, ys, rfl, (Rd.seg (Rd.other hs hN _)).more (by simp), (Rd.seg (Rd.other ho hN _)).more (by simp), (Rd.seg (Rd.other hq hN _)).more (by simp), h1, h2, h3, hb.setCell (Nat.le_refl _) _⟩

set_option maxHeartbeats 2000000 in
theorem drawMatched (A : Option Addr) (n c : Nat) (w : World) (h : SegB w w.heap.size A n) (hn : n ≤ 4096) :
    Calls Try.prog 28 #[.slice A n c] w (AnsT3 w) := by
  obtain ⟨W0, hW0⟩ : ∃ W0, W0 = w.alloc (.cells #[.slice none 0 0] 26) := ⟨_, rfl⟩
  have rN : Row W0 w.heap.size 26 #[.slice none 0 0] := by rw [hW0]; exact Row.new _ _ _
  have b0 : Below w.heap.size w W0 := by rw [hW0]; exact (Below.refl _ _).alloc (Nat.le_refl _) _
  have L := Lib.hid (new_ A n c W0 (segB_below h b0) hn)
  have HW0 := Lib.hid hW0
  clear h hW0
  go_enter Try.func28, Try.ntmps28
  go_wp2_with fail
  rw [← HW0.out]
  refine L.out.mono ?_
  rintro e w1 ⟨p, rfl, hp, d1, bb⟩
  have hNp : w.heap.size < p := Nat.lt_of_lt_of_le rN.lt hp
  replace rN := rN.next bb
  have bel := next_trans b0 bb
  have L2 := Lib.hid (l4Draw p A n c w1 d1)
  clear d1 bb b0 L
  go_wp2_with fail
  refine L2.out.mono ?_
  rintro e w2 ⟨S, sn, sc, sg, O, on, oc, xs, Q, qn, qc, ys, rfl, rs, ro, rq, h1, h2, h3, d2, g2⟩
  replace rN := Row.away rN g2 (fun e => by injection e; omega)
  have bel2 : Below w.heap.size w w2 := bel.grown g2 bel.size (fun k hk => by injection hk; omega)
  have cN : w2.cell? ⟨w.heap.size, 0, none⟩ = some (.slice none 0 0) := rN.cell 0
  have fN : w2.frozen? ⟨w.heap.size, 0, none⟩ = false := rN.free 0
  have F := Lib.hid (t3_of (sc := sc) rs ro rq h1 h2 h3 bel2 cN)
  clear bel2 bel rs ro rq d2 g2 rN L2
  go_wp2
  exact bodyPost_ret (v := .tuple #[.agg #[.slice S sn sc], .slice O on oc, .slice Q qn qc]) (by simp [results, Try.results28, go_sem, cN]) rfl F.out
end Go.Proofs.Ytkmhnkljigncmaa.drawMatched
end

section
/-
  CONTRACT: spec.DrawUnified: a drawn signature, two terms. Conditions: at most 4096 bytes. By an AI agent.
-/
namespace Go.Proofs.Ytkmhnkljigncmaa.drawUni
open Go.RowKit Go.Proofs.Ytkmhnkljigncmaa.base Go.Proofs.Ytkmhnkljigncmaa.ints Go.Proofs.Ytkmhnkljigncmaa.sig Go.Proofs.Ytkmhnkljigncmaa.term Go.Proofs.Ytkmhnkljigncmaa.cursor Go.Proofs.Ytkmhnkljigncmaa.termOk Go.Proofs.Ytkmhnkljigncmaa.marks Go.Proofs.Ytkmhnkljigncmaa.app Go.Proofs.Ytkmhnkljigncmaa.sym Go.Proofs.Ytkmhnkljigncmaa.segs Go.Proofs.Ytkmhnkljigncmaa.dice Go.Proofs.Ytkmhnkljigncmaa.drawSig Go.Proofs.Ytkmhnkljigncmaa.drawTerm Go.Proofs.Ytkmhnkljigncmaa.drawAny Go.Proofs.Ytkmhnkljigncmaa.drawTwo Go.Proofs.Ytkmhnkljigncmaa.drawPair Go.Proofs.Ytkmhnkljigncmaa.drawOne Go.Proofs.Ytkmhnkljigncmaa.drawVar Go.Proofs.Ytkmhnkljigncmaa.drawMatch Go.Proofs.Ytkmhnkljigncmaa.drawMatched Go.Proofs.Ytkmhnkljigncmaa.drawL5

set_option maxHeartbeats 2000000 in
theorem drawUnified (A : Option Addr) (n c : Nat) (w : World) (h : SegB w w.heap.size A n) (hn : n ≤ 4096) :
    Calls Try.prog 13 #[.slice A n c] w (AnsT3 w) := by
  obtain ⟨W0, hW0⟩ : ∃ W0, W0 = w.alloc (.cells #[.slice none 0 0] 26) := ⟨_, rfl⟩
  have rN : Row W0 w.heap.size 26 #[.slice none 0 0] := by rw [hW0]; exact Row.new _ _ _
  have b0 : Below w.heap.size w W0 := by rw [hW0]; exact (Below.refl _ _).alloc (Nat.le_refl _) _
  have L := Lib.hid (new_ A n c W0 (segB_below h b0) hn)
  have HW0 := Lib.hid hW0
  clear h hW0
  go_enter Try.func13, Try.ntmps13
  go_wp2_with fail
  rw [← HW0.out]
  refine L.out.mono ?_
  rintro e w1 ⟨p, rfl, hp, d1, bb⟩
  have hNp : w.heap.size < p := Nat.lt_of_lt_of_le rN.lt hp
  replace rN := rN.next bb
  have bel := next_trans b0 bb
  have L2 := Lib.hid (l5Draw p A n c w1 d1)
  clear d1 bb b0 L
  go_wp2_with fail
  refine L2.out.mono ?_
  rintro e w2 ⟨S, sn, sc, sg, O, on, oc, xs, Q, qn, qc, ys, rfl, rs, ro, rq, h1, h2, h3, d2, g2⟩
  replace rN := Row.away rN g2 (fun e => by injection e; omega)
  have bel2 : Below w.heap.size w w2 := bel.grown g2 bel.size (fun k hk => by injection hk; omega)
  have cN : w2.cell? ⟨w.heap.size, 0, none⟩ = some (.slice none 0 0) := rN.cell 0
  have fN : w2.frozen? ⟨w.heap.size, 0, none⟩ = false := rN.free 0
  have F := Lib.hid (t3_of (sc := sc) rs ro rq h1 h2 h3 bel2 cN)
  clear bel2 bel rs ro rq d2 g2 rN L2
  go_wp2
  exact bodyPost_ret (v := .tuple #[.agg #[.slice S sn sc], .slice O on oc, .slice Q qn qc]) (by simp [results, Try.results13, go_sem, cN]) rfl F.out
end Go.Proofs.Ytkmhnkljigncmaa.drawUni
end

section
/-
  PLAIN MATHEMATICS of renaming: the order in which variables stand first ('orderL'), the place in it ('idx'), a term renamed ('renL'). Conditions: none. By an AI agent.
-/
namespace Go.Proofs.Ytkmhnkljigncmaa.renMath
open Go.Proofs.Ytkmhnkljigncmaa.sig Go.Proofs.Ytkmhnkljigncmaa.term Go.Proofs.Ytkmhnkljigncmaa.termOk Go.Proofs.Ytkmhnkljigncmaa.termFacts Go.Proofs.Ytkmhnkljigncmaa.varsMath Go.Proofs.Ytkmhnkljigncmaa.fillMath

/-- the first place of a number -/
def idx : List Int → Int → Nat
  | [], _ => 0
  | y :: r, x => if y = x then 0 else idx r x + 1
theorem idx_lt : ∀ {o : List Int} {x : Int}, x ∈ o → idx o x < o.length
  | y :: r, x, h => by
    rw [idx]
    split
    · simp
    · rename_i h1
      rcases List.mem_cons.1 h with e | e
      · exact absurd e.symm h1
      · have := idx_lt e; simp; omega
theorem idx_not : ∀ {o : List Int} {x : Int}, x ∉ o → idx o x = o.length
  | [], _, _ => rfl
  | y :: r, x, h => by
    have h1 : ¬ y = x := fun e => h (by rw [e]; exact List.mem_cons_self ..)
    rw [idx, if_neg h1, idx_not (fun e => h (List.mem_cons_of_mem _ e))]
    rfl
theorem idx_get : ∀ {o : List Int} {x : Int}, x ∈ o → o.getD (idx o x) 0 = x
  | y :: r, x, h => by
    rw [idx]
    split
    · rename_i h1; simpa using h1
    · rename_i h1
      rcases List.mem_cons.1 h with e | e
      · exact absurd e.symm h1
      · simpa using idx_get e
theorem idx_first : ∀ {o : List Int} {x : Int} {k : Nat}, k < o.length → (∀ j, j < k → o.getD j 0 ≠ x) → o.getD k 0 = x → idx o x = k
  | y :: r, x, 0, _, _, h => by
    have h : y = x := by simpa using h
    rw [idx, if_pos h]
  | y :: r, x, k + 1, hk, hl, h => by
    have h0 : ¬ y = x := by simpa using hl 0 (by omega)
    rw [idx, if_neg h0, idx_first (k := k) (by simpa using hk) (fun j hj => by simpa using hl (j + 1) (by omega)) (by simpa using h)]
theorem idx_app_mem : ∀ {o q : List Int} {x : Int}, x ∈ o → idx (o ++ q) x = idx o x
  | y :: r, q, x, h => by
    rw [List.cons_append, idx, idx]
    split
    · rfl
    · rename_i h1
      rcases List.mem_cons.1 h with e | e
      · exact absurd e.symm h1
      · rw [idx_app_mem e]
theorem idx_app_new {o : List Int} {x : Int} (h : x ∉ o) : idx (o ++ [x]) x = o.length := by
  refine idx_first (by simp) (fun j hj => ?_) (by simp)
  have e : (o ++ [x]).getD j 0 = o[j] := by simp [List.getD, List.getElem?_append_left hj, hj]
  rw [e]
  exact fun e2 => h (by rw [← e2]; exact List.getElem_mem hj)
theorem idx_map {f : Int → Int} (hf : ∀ a b, f a = f b → a = b) : ∀ (o : List Int) (x : Int), idx (o.map f) (f x) = idx o x
  | [], _ => rfl
  | y :: r, x => by
    rw [List.map_cons, idx, idx]
    by_cases h : y = x
    · rw [if_pos h, if_pos (by rw [h])]
    · rw [if_neg h, if_neg (fun e => h (hf _ _ e)), idx_map hf r x]
theorem mem_map_inj {f : Int → Int} (hf : ∀ a b, f a = f b → a = b) {o : List Int} {x : Int} : f x ∈ o.map f ↔ x ∈ o := by
  rw [List.mem_map]
  exact ⟨fun ⟨y, hy, e⟩ => by rw [← hf _ _ e]; exact hy, fun h => ⟨x, h, rfl⟩⟩

/-- with one more, unless it is there -/
def ext (o : List Int) (x : Int) : List Int := if x ∈ o then o else o ++ [x]
/-- with a number's variable, if it is one -/
def extV (o : List Int) (x : Int) : List Int := if x < 0 then ext o x else o
/-- the variables in the order in which they stand first -/
def orderL (t : List Int) : List Int := t.foldl extV []
theorem order_take {t : List Int} {k : Nat} {x : Int} (hk : k < t.length) (hx : t.getD k 0 = x) : orderL (t.take (k + 1)) = extV (orderL (t.take k)) x := by
  unfold orderL
  rw [take_snoc hk hx, List.foldl_append]
  rfl
theorem ext_mem {o : List Int} {x y : Int} : y ∈ ext o x ↔ y = x ∨ y ∈ o := by
  unfold ext
  split
  · rename_i h
    exact ⟨fun e => .inr e, fun e => by rcases e with e | e; exact e ▸ h; exact e⟩
  · rw [List.mem_append, List.mem_singleton, or_comm]
theorem extV_mem {o : List Int} {x y : Int} : y ∈ extV o x ↔ (y = x ∧ x < 0) ∨ y ∈ o := by
  unfold extV
  split
  · rename_i h
    rw [ext_mem]
    exact ⟨fun e => by rcases e with e | e; exact .inl ⟨e, h⟩; exact .inr e, fun e => by rcases e with e | e; exact .inl e.1; exact .inr e⟩
  · rename_i h
    exact ⟨fun e => .inr e, fun e => by rcases e with e | e; exact absurd e.2 h; exact e⟩
theorem fold_ext_mem {y : Int} : ∀ {l o : List Int}, y ∈ l.foldl extV o ↔ (y ∈ l ∧ y < 0) ∨ y ∈ o
  | [], o => by simp
  | x :: l, o => by
    rw [List.foldl_cons, fold_ext_mem, extV_mem, List.mem_cons]
    constructor
    · rintro (⟨h, h0⟩ | ⟨rfl, h0⟩ | h)
      · exact .inl ⟨.inr h, h0⟩
      · exact .inl ⟨.inl rfl, h0⟩
      · exact .inr h
    · rintro (⟨rfl | h, h0⟩ | h)
      · exact .inr (.inl ⟨rfl, h0⟩)
      · exact .inl ⟨h, h0⟩
      · exact .inr (.inr h)
theorem order_mem {t : List Int} {y : Int} : y ∈ orderL t ↔ y ∈ t ∧ y < 0 := by unfold orderL; rw [fold_ext_mem]; simp
theorem ext_nodup {o : List Int} {x : Int} (h : o.Nodup) : (ext o x).Nodup := by
  unfold ext
  split
  · exact h
  · rename_i hx
    rw [List.nodup_append]
    exact ⟨h, by simp, fun a ha b hb => by simp at hb; subst hb; exact fun e => hx (e ▸ ha)⟩
theorem fold_nodup : ∀ {l o : List Int}, o.Nodup → (l.foldl extV o).Nodup
  | [], _, h => h
  | x :: l, o, h => by
    rw [List.foldl_cons]
    refine fold_nodup ?_
    unfold extV
    split
    · exact ext_nodup h
    · exact h
theorem order_nodup (t : List Int) : (orderL t).Nodup := fold_nodup List.nodup_nil
theorem ext_len (o : List Int) (x : Int) : (ext o x).length ≤ o.length + 1 := by unfold ext; split <;> simp
theorem fold_ext_len : ∀ (l o : List Int), (l.foldl extV o).length ≤ o.length + l.length
  | [], _ => by simp
  | x :: l, o => by
    have h1 := fold_ext_len l (extV o x)
    have h2 : (extV o x).length ≤ o.length + 1 := by unfold extV; split; exact ext_len o x; simp
    simp
    omega
theorem order_len (t : List Int) : (orderL t).length ≤ t.length := by have := fold_ext_len t []; simpa [orderL] using this

/-- a number by an order -/
def ren (o : List Int) (n : Int) : Int := if n < 0 then -1 - (idx o n : Int) else n
/-- a term renamed -/
def renL (t : List Int) : List Int := t.map (ren (orderL t))
theorem ren_ext {o : List Int} {x n : Int} (h : n < 0 → n ∈ o) : ren (extV o x) n = ren o n := by
  unfold ren
  split
  · rename_i h0
    unfold extV ext
    split
    · split
      · rfl
      · rw [idx_app_mem (h h0)]
    · rfl
  · rfl
theorem ren_take {t : List Int} {k : Nat} {x : Int} (hk : k < t.length) (hx : t.getD k 0 = x) : renL (t.take (k + 1)) = renL (t.take k) ++ [ren (extV (orderL (t.take k)) x) x] := by
  unfold renL
  rw [order_take hk hx, take_snoc hk hx, List.map_append]
  congr 1
  refine List.map_congr_left (fun n hn => ren_ext (fun h0 => order_mem.2 ⟨hn, h0⟩))
theorem ren_len (t : List Int) : (renL t).length = t.length := by simp [renL]
/-- what Renamed answers -/
def renI (sg t : List Int) : List Int := if termOkB sg t = true then renL t else []
theorem renI_len {sg t : List Int} {m : Nat} (h : t.length = m) (hm : m ≤ 1048576) : (renI sg t).length ≤ 1048576 := by
  unfold renI
  split
  · rw [ren_len]; omega
  · simp
/-- a place of an order without a number twice -/
theorem idx_nodup {o : List Int} (h : o.Nodup) {k : Nat} (hk : k < o.length) {x : Int} (hx : o.getD k 0 = x) : idx o x = k := by
  refine idx_first hk (fun j hj e => ?_) hx
  have h1 : o[j]'(by omega) = o[k] := by
    have a : o.getD j 0 = o[j]'(by omega) := by simp [List.getD, show j < o.length by omega]
    have b : o.getD k 0 = o[k] := by simp [List.getD, hk]
    rw [← a, ← b, e, hx]
  exact (List.pairwise_iff_getElem.1 h) j k (by omega) hk hj h1
end Go.Proofs.Ytkmhnkljigncmaa.renMath
end

section
/-
  PLAIN MATHEMATICS of matching (chapter 4): the walk along a pattern and a term finds the substitution that turns the one into the other, if there is one; being an instance is transitive, variants are instances of each other, every pattern is an instance of one of the most general ones. Conditions: none. By an AI agent.
-/
namespace Go.Proofs.Ytkmhnkljigncmaa.matchMath
open Go.Proofs.Ytkmhnkljigncmaa.sig Go.Proofs.Ytkmhnkljigncmaa.term Go.Proofs.Ytkmhnkljigncmaa.termOk Go.Proofs.Ytkmhnkljigncmaa.termFacts Go.Proofs.Ytkmhnkljigncmaa.endAt Go.Proofs.Ytkmhnkljigncmaa.sub Go.Proofs.Ytkmhnkljigncmaa.termMath Go.Proofs.Ytkmhnkljigncmaa.fillMath Go.Proofs.Ytkmhnkljigncmaa.posMath Go.Proofs.Ytkmhnkljigncmaa.renMath

/-- what a list of 24 places holds for a variable -/
def vr (x : Int) : Nat := (-1 - x).toNat
/-- the walk: the pattern's numbers, the place in the term, what each variable must give so far -/
def mst (sg t : List Int) : List Int → Nat → List (List Int) → Option (List (List Int))
  | [], _, s => some s
  | x :: r, k, s =>
    if t.length ≤ k then none
    else if 0 ≤ x then (if x = t.getD k 0 then mst sg t r (k + 1) s else none)
    else if (s.getD (vr x) []).length ≠ 0 ∧ s.getD (vr x) [] ≠ subL sg t k then none
    else mst sg t r (k + (subL sg t k).length) (s.set (vr x) (subL sg t k))
section
variable {sg t : List Int} {r : List Int} {x : Int} {k : Nat} {s : List (List Int)}
theorem mst_out (h : t.length ≤ k) : mst sg t (x :: r) k s = none := by simp only [mst]; rw [if_pos h]
theorem mst_sym (h : ¬ t.length ≤ k) (hx : 0 ≤ x) (he : x = t.getD k 0) : mst sg t (x :: r) k s = mst sg t r (k + 1) s := by simp only [mst]; rw [if_neg h, if_pos hx, if_pos he]
theorem mst_symNo (h : ¬ t.length ≤ k) (hx : 0 ≤ x) (he : ¬ x = t.getD k 0) : mst sg t (x :: r) k s = none := by simp only [mst]; rw [if_neg h, if_pos hx, if_neg he]
theorem mst_var (h : ¬ t.length ≤ k) (hx : ¬ 0 ≤ x) (he : ¬ ((s.getD (vr x) []).length ≠ 0 ∧ s.getD (vr x) [] ≠ subL sg t k)) : mst sg t (x :: r) k s = mst sg t r (k + (subL sg t k).length) (s.set (vr x) (subL sg t k)) := by simp only [mst]; rw [if_neg h, if_neg hx, if_neg he]
theorem mst_varNo (h : ¬ t.length ≤ k) (hx : ¬ 0 ≤ x) (he : (s.getD (vr x) []).length ≠ 0 ∧ s.getD (vr x) [] ≠ subL sg t k) : mst sg t (x :: r) k s = none := by simp only [mst]; rw [if_neg h, if_neg hx, if_pos he]
end
theorem set_get {s : List (List Int)} {i j : Nat} {v : List Int} : (s.set i v).getD j [] = if i = j ∧ i < s.length then v else s.getD j [] := by
  simp only [List.getD_eq_getElem?_getD, List.getElem?_set]
  by_cases h : i = j
  · subst h
    by_cases h2 : i < s.length
    · simp [h2]
    · simp [h2]
  · simp [h]
theorem vr_lt {x : Int} (h0 : ¬ 0 ≤ x) (h : -24 ≤ x) : vr x < 24 := by unfold vr; omega
/-- what is known of a variable stays -/
theorem mst_ext {sg t : List Int} : ∀ {p : List Int} {k : Nat} {s s' : List (List Int)}, mst sg t p k s = some s' → s.length = 24 → (∀ x ∈ p, -24 ≤ x) → s'.length = 24 ∧ ∀ i, (s.getD i []).length ≠ 0 → s'.getD i [] = s.getD i [] := by
  intro p
  induction p with
  | nil => intro k s s' h hl _; injection h with h; subst h; exact ⟨hl, fun _ _ => rfl⟩
  | cons x r ih =>
    intro k s s' h hl hx
    have hr : ∀ y ∈ r, -24 ≤ y := fun y hy => hx y (List.mem_cons_of_mem _ hy)
    by_cases h1 : t.length ≤ k
    · rw [mst_out h1] at h; cases h
    · by_cases h2 : 0 ≤ x
      · by_cases h3 : x = t.getD k 0
        · rw [mst_sym h1 h2 h3] at h; exact ih h hl hr
        · rw [mst_symNo h1 h2 h3] at h; cases h
      · by_cases h3 : (s.getD (vr x) []).length ≠ 0 ∧ s.getD (vr x) [] ≠ subL sg t k
        · rw [mst_varNo h1 h2 h3] at h; cases h
        · rw [mst_var h1 h2 h3] at h
          obtain ⟨e1, e2⟩ := ih h (by rw [List.length_set]; exact hl) hr
          refine ⟨e1, fun i hi => ?_⟩
          have hs : (s.set (vr x) (subL sg t k)).getD i [] = s.getD i [] := by
            rw [set_get]
            split
            · rename_i hc
              obtain ⟨rfl, _⟩ := hc
              by_cases e : s.getD (vr x) [] = subL sg t k
              · exact e.symm
              · exact absurd ⟨hi, e⟩ h3
            · rfl
          rw [← hs] at hi ⊢
          exact e2 i hi
theorem sub_len1 {sg t : List Int} (hok : termOkB sg t = true) {k : Nat} (hk : k < t.length) : (subL sg t k).length = len1 sg t k ∧ t.drop k = subL sg t k ++ t.drop (k + (subL sg t k).length) ∧ scan sg 1 (subL sg t k) = some (subL sg t k).length := by
  have h := term_at hok hk
  have hl : (subL sg t k).length = len1 sg t k := by unfold subL; rw [List.length_take, List.length_drop]; omega
  refine ⟨hl, ?_, (term_parts (sub_term hok hk).1).2.2⟩
  rw [hl, ← List.drop_drop]
  exact (List.take_append_drop _ _).symm
/-- what is found turns the pattern into what the term goes on with -/
theorem mst_sound {sg t : List Int} (hok : termOkB sg t = true) : ∀ {p : List Int} {k : Nat} {s s' : List (List Int)}, mst sg t p k s = some s' → s.length = 24 → (∀ x ∈ p, -24 ≤ x) →
    (∃ rest, t.drop k = fillL (fun i => s'.getD i []) p ++ rest) ∧ ∀ x ∈ p, x < 0 → scan sg 1 (s'.getD (vr x) []) = some (s'.getD (vr x) []).length := by
  intro p
  induction p with
  | nil => intro k s s' _ _ _; exact ⟨⟨t.drop k, by rw [fill_nil, List.nil_append]⟩, fun x hx => absurd hx (List.not_mem_nil)⟩
  | cons x r ih =>
    intro k s s' h hl hx
    have hr : ∀ y ∈ r, -24 ≤ y := fun y hy => hx y (List.mem_cons_of_mem _ hy)
    have hx0 : -24 ≤ x := hx x (List.mem_cons_self ..)
    by_cases h1 : t.length ≤ k
    · rw [mst_out h1] at h; cases h
    · by_cases h2 : 0 ≤ x
      · by_cases h3 : x = t.getD k 0
        · rw [mst_sym h1 h2 h3] at h
          obtain ⟨⟨rest, e⟩, hv⟩ := ih h hl hr
          refine ⟨⟨rest, ?_⟩, fun y hy h0 => ?_⟩
          · rw [drop_cons (by omega), e, ← h3, fill_cons, rep_sym h2]; rfl
          · rcases List.mem_cons.1 hy with rfl | hy
            · omega
            · exact hv y hy h0
        · rw [mst_symNo h1 h2 h3] at h; cases h
      · by_cases h3 : (s.getD (vr x) []).length ≠ 0 ∧ s.getD (vr x) [] ≠ subL sg t k
        · rw [mst_varNo h1 h2 h3] at h; cases h
        · rw [mst_var h1 h2 h3] at h
          have hl' : (s.set (vr x) (subL sg t k)).length = 24 := by rw [List.length_set]; exact hl
          obtain ⟨⟨rest, e⟩, hv⟩ := ih h hl' hr
          obtain ⟨_, e2⟩ := mst_ext h hl' hr
          obtain ⟨l1, l2, l3⟩ := sub_len1 hok (show k < t.length by omega)
          have hpos := (sub_term hok (show k < t.length by omega)).2.2.2
          have hg : (s.set (vr x) (subL sg t k)).getD (vr x) [] = subL sg t k := by rw [set_get, if_pos ⟨rfl, by rw [hl]; exact vr_lt h2 hx0⟩]
          have hgx : s'.getD (vr x) [] = subL sg t k := by rw [e2 (vr x) (by rw [hg]; omega), hg]
          refine ⟨⟨rest, ?_⟩, fun y hy h0 => ?_⟩
          · rw [l2, e, fill_cons, rep_var (by omega), List.append_assoc]
            congr 1
            exact hgx.symm
          · rcases List.mem_cons.1 hy with rfl | hy
            · rw [hgx]; exact l3
            · exact hv y hy h0
/-- where a substitution turns the pattern into what the term goes on with, the walk finds it -/
theorem mst_full {sg t : List Int} {L : Nat → List Int} : ∀ {p : List Int} {k : Nat} {s : List (List Int)} {rest : List Int}, t.drop k = fillL L p ++ rest → s.length = 24 → (∀ x ∈ p, -24 ≤ x) → (∀ x ∈ p, x < 0 → scan sg 1 (L (vr x)) = some (L (vr x)).length) → (∀ i, (s.getD i []).length ≠ 0 → s.getD i [] = L i) →
    ∃ s', mst sg t p k s = some s' ∧ (∀ i, (s'.getD i []).length ≠ 0 → s'.getD i [] = L i) ∧ ∀ x ∈ p, x < 0 → s'.getD (vr x) [] = L (vr x) := by
  intro p
  induction p with
  | nil => intro k s rest _ _ _ _ hc; exact ⟨s, rfl, hc, fun x hx => absurd hx (List.not_mem_nil)⟩
  | cons x r ih =>
    intro k s rest h hl hx hL hc
    have hr : ∀ y ∈ r, -24 ≤ y := fun y hy => hx y (List.mem_cons_of_mem _ hy)
    have hLr : ∀ y ∈ r, y < 0 → scan sg 1 (L (vr y)) = some (L (vr y)).length := fun y hy => hL y (List.mem_cons_of_mem _ hy)
    have hx0 : -24 ≤ x := hx x (List.mem_cons_self ..)
    rw [fill_cons, List.append_assoc] at h
    by_cases h2 : 0 ≤ x
    · rw [rep_sym h2] at h
      have hk : k < t.length := by
        by_cases hk : k < t.length
        · exact hk
        · rw [List.drop_eq_nil_of_le (by omega)] at h; cases h
      rw [drop_cons hk] at h
      injection h with e1 e2
      obtain ⟨s', m1, m2, m3⟩ := ih e2 hl hr hLr hc
      exact ⟨s', by rw [mst_sym (by omega) h2 e1.symm]; exact m1, m2, fun y hy h0 => by
        rcases List.mem_cons.1 hy with rfl | hy
        · omega
        · exact m3 y hy h0⟩
    · rw [rep_var (by omega)] at h
      change t.drop k = L (vr x) ++ (fillL L r ++ rest) at h
      have hsc := hL x (List.mem_cons_self ..) (by omega)
      have hpos := scan_pos (q := 0) hsc
      have hk : k < t.length := by
        by_cases hk : k < t.length
        · exact hk
        · rw [List.drop_eq_nil_of_le (by omega)] at h
          have := congrArg List.length h
          simp only [List.length_nil, List.length_append] at this
          omega
      have hsub : subL sg t k = L (vr x) := by
        unfold subL
        have e : len1 sg t k = (L (vr x)).length := len1_eq (by rw [h]; exact scan_append hsc)
        rw [e, h, List.take_left' rfl]
      have hnext : t.drop (k + (subL sg t k).length) = fillL L r ++ rest := by rw [← List.drop_drop, h, hsub, List.drop_left' rfl]
      have hno : ¬ ((s.getD (vr x) []).length ≠ 0 ∧ s.getD (vr x) [] ≠ subL sg t k) := fun ⟨g1, g2⟩ => g2 (by rw [hsub]; exact hc _ g1)
      have hl' : (s.set (vr x) (subL sg t k)).length = 24 := by rw [List.length_set]; exact hl
      obtain ⟨s', m1, m2, m3⟩ := ih hnext hl' hr hLr (fun i hi => by
        rw [set_get] at hi ⊢
        split
        · rename_i hcc; rw [hsub, ← hcc.1]
        · rename_i hcc; rw [if_neg hcc] at hi; exact hc i hi)
      refine ⟨s', by rw [mst_var (by omega) h2 hno]; exact m1, m2, fun y hy h0 => ?_⟩
      rcases List.mem_cons.1 hy with rfl | hy
      · have hg : (s.set (vr y) (subL sg t k)).getD (vr y) [] = L (vr y) := by rw [set_get, if_pos ⟨rfl, by rw [hl]; exact vr_lt h2 hx0⟩, hsub]
        rw [(mst_ext m1 hl' hr).2 (vr y) (by rw [hg]; omega), hg]
      · exact m3 y hy h0

def s0 : List (List Int) := List.replicate 24 []
theorem s0_get (i : Nat) : s0.getD i [] = [] := by
  unfold s0
  rw [List.getD_eq_getElem?_getD, List.getElem?_replicate]
  split <;> rfl
def matchO (sg p t : List Int) : Option (List (List Int)) := if (termOkB sg p && termOkB sg t) = true then mst sg t p 0 s0 else none
def instB (sg p t : List Int) : Bool := (matchO sg p t).isSome
theorem match_yes {sg p t : List Int} (h1 : termOkB sg p = true) (h2 : termOkB sg t = true) : matchO sg p t = mst sg t p 0 s0 := by unfold matchO; rw [if_pos (by rw [h1, h2]; rfl)]
theorem match_no {sg p t : List Int} (h : termOkB sg p = false ∨ termOkB sg t = false) : matchO sg p t = none := by
  unfold matchO
  rw [if_neg]
  rcases h with h | h <;> rw [h] <;> simp
theorem inst_no {sg p t : List Int} (h : termOkB sg p = false ∨ termOkB sg t = false) : instB sg p t = false := by unfold instB; rw [match_no h]; rfl
theorem inst_ok {sg p t : List Int} (h : instB sg p t = true) : termOkB sg p = true ∧ termOkB sg t = true := by
  cases h1 : termOkB sg p with
  | false => rw [inst_no (.inl h1)] at h; cases h
  | true =>
    cases h2 : termOkB sg t with
    | false => rw [inst_no (.inr h2)] at h; cases h
    | true => exact ⟨rfl, rfl⟩
/-- a substitution that turns p into t -/
def Turns (sg p t : List Int) (L : Nat → List Int) : Prop := fillL L p = t ∧ ∀ x ∈ p, x < 0 → scan sg 1 (L (vr x)) = some (L (vr x)).length
theorem match_turns {sg p t : List Int} {s' : List (List Int)} (h : matchO sg p t = some s') : s'.length = 24 ∧ Turns sg p t (fun i => s'.getD i []) := by
  have h12 : termOkB sg p = true ∧ termOkB sg t = true := inst_ok (by unfold instB; rw [h]; rfl)
  obtain ⟨h1, h2⟩ := h12
  rw [match_yes h1 h2] at h
  have hx : ∀ x ∈ p, -24 ≤ x := fun x hx => (term_mem h1 hx).1
  obtain ⟨⟨rest, e⟩, hv⟩ := mst_sound h2 h (by rfl) hx
  refine ⟨(mst_ext h (by rfl) hx).1, ?_, hv⟩
  rw [List.drop_zero] at e
  have hs := scan_fill (L := fun i => s'.getD i []) (term_parts h1).2.2 hv
  have hs2 := scan_append (r := rest) hs
  rw [← e, (term_parts h2).2.2] at hs2
  injection hs2 with hs2
  have hl := congrArg List.length e
  rw [List.length_append] at hl
  have hr : rest = [] := List.eq_nil_of_length_eq_zero (by omega)
  rw [e, hr, List.append_nil]
theorem turns_match {sg p t : List Int} {L : Nat → List Int} (h1 : termOkB sg p = true) (h2 : termOkB sg t = true) (h : Turns sg p t L) : ∃ s', matchO sg p t = some s' ∧ ∀ x ∈ p, x < 0 → s'.getD (vr x) [] = L (vr x) := by
  rw [match_yes h1 h2]
  obtain ⟨s', m1, _, m3⟩ := mst_full (sg := sg) (t := t) (L := L) (p := p) (k := 0) (s := s0) (rest := []) (by rw [List.drop_zero, List.append_nil, h.1]) (by rfl) (fun x hx => (term_mem h1 hx).1) h.2 (fun i hi => by rw [s0_get] at hi; exact absurd rfl hi)
  exact ⟨s', m1, m3⟩
theorem inst_iff {sg p t : List Int} (h1 : termOkB sg p = true) (h2 : termOkB sg t = true) : instB sg p t = true ↔ ∃ L, Turns sg p t L := by
  constructor
  · intro h
    unfold instB at h
    obtain ⟨s', hs⟩ := Option.isSome_iff_exists.1 h
    exact ⟨_, (match_turns hs).2⟩
  · rintro ⟨L, h⟩
    obtain ⟨s', hs, _⟩ := turns_match h1 h2 h
    unfold instB
    rw [hs]; rfl
theorem rep_mem {L : Nat → List Int} : ∀ {p : List Int} {x y : Int}, x ∈ p → x < 0 → y ∈ L (vr x) → y ∈ fillL L p
  | z :: r, x, y, hx, h0, hy => by
    rw [fill_cons]
    rcases List.mem_cons.1 hx with rfl | hx
    · exact List.mem_append_left _ (by rw [rep_var h0]; exact hy)
    · exact List.mem_append_right _ (rep_mem hx h0 hy)
theorem turns_trans {sg p q t : List Int} {L M : Nat → List Int} (h : Turns sg p q L) (h' : Turns sg q t M) : Turns sg p t (fun i => fillL M (L i)) := by
  refine ⟨by rw [← fill_fill, h.1, h'.1], fun x hx h0 => ?_⟩
  refine scan_fill (h.2 x hx h0) (fun y hy hy0 => ?_)
  exact h'.2 y (by rw [← h.1]; exact rep_mem hx h0 hy) hy0
theorem inst_trans {sg p q t : List Int} (h : instB sg p q = true) (h' : instB sg q t = true) : instB sg p t = true := by
  obtain ⟨h1, h2⟩ := inst_ok h
  obtain ⟨_, h3⟩ := inst_ok h'
  obtain ⟨L, hL⟩ := (inst_iff h1 h2).1 h
  obtain ⟨M, hM⟩ := (inst_iff h2 h3).1 h'
  exact (inst_iff h1 h3).2 ⟨_, turns_trans hL hM⟩
theorem fill_vt : ∀ p : List Int, fillL vt p = p
  | [] => rfl
  | x :: r => by
    rw [fill_cons, fill_vt r]
    by_cases h : 0 ≤ x
    · rw [rep_sym h]; rfl
    · rw [rep_var (by omega)]
      show [-1 - (((-1 - x).toNat : Nat) : Int)] ++ r = x :: r
      rw [show (-1 - (((-1 - x).toNat : Nat) : Int) : Int) = x by omega]
      rfl
theorem scan_one {sg : List Int} {y : Int} (h : -24 ≤ y ∧ y ≤ -1) : scan sg 1 [y] = some [y].length := by
  rw [scan_step (by rw [ar_var h]; omega), ar_var h]
  rfl
theorem inst_refl {sg p : List Int} (h : termOkB sg p = true) : instB sg p p = true :=
  (inst_iff h h).2 ⟨vt, fill_vt p, fun x hx h0 => by
    have := (term_mem h hx).1
    exact scan_one (by unfold vr; omega)⟩
/-- variants: the one's variables in the place of the other one's -/
theorem ren_pair {oa ob : List Int} : ∀ {l l' : List Int}, l.map (ren oa) = l'.map (ren ob) → (∀ y ∈ l', y < 0 → y ∈ ob) → fillL (fun i => [ob.getD (idx oa (-1 - (i : Int))) 0]) l = l' ∧ ∀ x ∈ l, x < 0 → ∃ y ∈ l', y < 0 ∧ ob.getD (idx oa x) 0 = y
  | [], [], _, _ => ⟨rfl, fun _ h => absurd h (List.not_mem_nil)⟩
  | [], _ :: _, h, _ => by cases h
  | _ :: _, [], h, _ => by cases h
  | x :: l, y :: l', h, hm => by
    rw [List.map_cons, List.map_cons] at h
    injection h with e1 e2
    obtain ⟨f1, f2⟩ := ren_pair e2 (fun z hz => hm z (List.mem_cons_of_mem _ hz))
    by_cases hx : x < 0
    · have hy : y < 0 := by
        by_cases hy : y < 0
        · exact hy
        · unfold ren at e1; rw [if_pos hx, if_neg hy] at e1; omega
      have hi : idx oa x = idx ob y := by unfold ren at e1; rw [if_pos hx, if_pos hy] at e1; omega
      have hg : ob.getD (idx oa x) 0 = y := by rw [hi]; exact idx_get (hm y (List.mem_cons_self ..) hy)
      refine ⟨?_, fun z hz h0 => ?_⟩
      · rw [fill_cons, f1, rep_var hx]
        show [ob.getD (idx oa (-1 - ((-1 - x).toNat : Int))) 0] ++ l' = y :: l'
        rw [show (-1 - ((-1 - x).toNat : Int) : Int) = x by omega, hg]
        rfl
      · rcases List.mem_cons.1 hz with rfl | hz
        · exact ⟨y, List.mem_cons_self .., hy, hg⟩
        · obtain ⟨y', g1, g2⟩ := f2 z hz h0
          exact ⟨y', List.mem_cons_of_mem _ g1, g2⟩
    · have hy : ¬ y < 0 := by
        intro hy
        unfold ren at e1; rw [if_neg hx, if_pos hy] at e1; omega
      have e : x = y := by unfold ren at e1; rwa [if_neg hx, if_neg hy] at e1
      refine ⟨?_, fun z hz h0 => ?_⟩
      · rw [fill_cons, f1, rep_sym (by omega), e]; rfl
      · rcases List.mem_cons.1 hz with rfl | hz
        · exact absurd h0 hx
        · obtain ⟨y', g1, g2⟩ := f2 z hz h0
          exact ⟨y', List.mem_cons_of_mem _ g1, g2⟩
theorem inst_variant {sg a b : List Int} (h1 : termOkB sg a = true) (h2 : termOkB sg b = true) (h : renL a = renL b) : instB sg a b = true := by
  unfold renL at h
  obtain ⟨f1, f2⟩ := ren_pair h (fun y hy h0 => order_mem.2 ⟨hy, h0⟩)
  refine (inst_iff h1 h2).2 ⟨_, f1, fun x hx h0 => ?_⟩
  obtain ⟨y, g1, g2, g3⟩ := f2 x hx h0
  show scan sg 1 [(orderL b).getD (idx (orderL a) (-1 - ((vr x : Nat) : Int))) 0] = some _
  rw [show (-1 - ((vr x : Nat) : Int) : Int) = x by unfold vr; omega, g3]
  exact scan_one ⟨(term_mem h2 g1).1, by omega⟩

/-- more general -/
def moreB (sg a b : List Int) : Bool := instB sg a b && !instB sg b a
theorem more_parts {sg a b : List Int} (h : moreB sg a b = true) : instB sg a b = true ∧ instB sg b a = false := by
  unfold moreB at h
  simpa using h
theorem more_trans {sg a b c : List Int} (h : instB sg a b = true) (h' : moreB sg b c = true) : moreB sg a c = true := by
  obtain ⟨g1, g2⟩ := more_parts h'
  have e1 := inst_trans h g1
  have e2 : instB sg c a = false := by
    cases e : instB sg c a with
    | false => rfl
    | true => rw [inst_trans e h] at g2; cases g2
  unfold moreB
  rw [e1, e2]; rfl
theorem more_irrefl {sg a : List Int} : moreB sg a a = false := by
  unfold moreB
  cases instB sg a a <;> rfl
/-- nothing in the list is more general than i, and no earlier one is a variant -/
def bestB (sg : List Int) (ps : List (List Int)) (i : Nat) : Bool := (List.range ps.length).all fun k => !(moreB sg (ps.getD k []) (ps.getD i []) || (decide (k < i) && (termOkB sg (ps.getD k []) && (termOkB sg (ps.getD i []) && decide (renL (ps.getD k []) = renL (ps.getD i []))))))
theorem best_yes {sg : List Int} {ps : List (List Int)} {i : Nat} (h : ∀ k, k < ps.length → moreB sg (ps.getD k []) (ps.getD i []) = false ∧ (k < i → renL (ps.getD k []) ≠ renL (ps.getD i []))) : bestB sg ps i = true := by
  unfold bestB
  rw [List.all_eq_true]
  intro k hk
  rw [List.mem_range] at hk
  obtain ⟨h1, h2⟩ := h k hk
  rw [h1]
  by_cases hki : k < i
  · rw [decide_eq_false (h2 hki)]; simp
  · rw [decide_eq_false hki]; simp
/-- how many are more general -/
def manyMore (sg : List Int) (ps : List (List Int)) (i : Nat) : Nat := (List.range ps.length).countP fun k => moreB sg (ps.getD k []) (ps.getD i [])
theorem count_less {l : List Nat} {f g : Nat → Bool} (h : ∀ x ∈ l, f x = true → g x = true) {y : Nat} (hy : y ∈ l) (h1 : f y = false) (h2 : g y = true) : l.countP f < l.countP g := by
  induction l with
  | nil => exact absurd hy (List.not_mem_nil)
  | cons a r ih =>
    have hr : ∀ x ∈ r, f x = true → g x = true := fun x hx => h x (List.mem_cons_of_mem _ hx)
    have hle : r.countP f ≤ r.countP g := List.countP_mono_left hr
    rw [List.countP_cons, List.countP_cons]
    rcases List.mem_cons.1 hy with rfl | hy
    · rw [h1, h2]; simp; omega
    · have := ih hr hy
      have ha := h a (List.mem_cons_self ..)
      cases hf : f a with
      | false => cases hg : g a <;> simp <;> omega
      | true => rw [ha hf]; simp; omega
/-- every pattern is an instance of one of the most general ones -/
theorem best_ex {sg : List Int} {ps : List (List Int)} (hok : ∀ k, k < ps.length → termOkB sg (ps.getD k []) = true) : ∀ (n i : Nat), manyMore sg ps i ≤ n → i < ps.length → ∃ k, k < ps.length ∧ bestB sg ps k = true ∧ instB sg (ps.getD k []) (ps.getD i []) = true := by
  intro n
  induction n with
  | zero =>
    intro i hn hi
    have hno : ∀ k, k < ps.length → moreB sg (ps.getD k []) (ps.getD i []) = false := fun k hk => by
      cases e : moreB sg (ps.getD k []) (ps.getD i []) with
      | false => rfl
      | true =>
        have : 0 < manyMore sg ps i := List.countP_pos_iff.2 ⟨k, List.mem_range.2 hk, e⟩
        omega
    -- the first variant of i
    have hfirst : ∀ m, m ≤ i → renL (ps.getD m []) = renL (ps.getD i []) → ∃ k, k ≤ i ∧ renL (ps.getD k []) = renL (ps.getD i []) ∧ ∀ j, j < k → renL (ps.getD j []) ≠ renL (ps.getD i []) := by
      intro m
      induction m using Nat.strongRecOn with
      | ind m ihm =>
        intro hm he
        by_cases hx : ∃ j, j < m ∧ renL (ps.getD j []) = renL (ps.getD i [])
        · obtain ⟨j, j1, j2⟩ := hx
          exact ihm j j1 (by omega) j2
        · exact ⟨m, hm, he, fun j hj e => hx ⟨j, hj, e⟩⟩
    obtain ⟨k, k1, k2, k3⟩ := hfirst i (Nat.le_refl _) rfl
    have hkn : k < ps.length := by omega
    have hki := inst_variant (hok k hkn) (hok i hi) k2
    refine ⟨k, hkn, best_yes (fun j hj => ⟨?_, fun hjk e => k3 j hjk (e.trans k2)⟩), hki⟩
    cases e : moreB sg (ps.getD j []) (ps.getD k []) with
    | false => rfl
    | true =>
      obtain ⟨g1, g2⟩ := more_parts e
      have hik := inst_variant (hok i hi) (hok k hkn) k2.symm
      have := hno j hj
      have e2 : moreB sg (ps.getD j []) (ps.getD i []) = true := by
        have a1 := inst_trans g1 hki
        have a2 : instB sg (ps.getD i []) (ps.getD j []) = false := by
          cases e3 : instB sg (ps.getD i []) (ps.getD j []) with
          | false => rfl
          | true => rw [inst_trans hki e3] at g2; cases g2
        unfold moreB
        rw [a1, a2]; rfl
      rw [this] at e2; cases e2
  | succ n ih =>
    intro i hn hi
    by_cases hx : ∃ k, k < ps.length ∧ moreB sg (ps.getD k []) (ps.getD i []) = true
    · obtain ⟨k, k1, k2⟩ := hx
      have hlt : manyMore sg ps k < manyMore sg ps i := count_less (fun j _ hj => more_trans (more_parts hj).1 k2) (List.mem_range.2 k1) more_irrefl k2
      obtain ⟨m, m1, m2, m3⟩ := ih k (by omega) k1
      exact ⟨m, m1, m2, inst_trans m3 (more_parts k2).1⟩
    · refine ih i ?_ hi
      have : manyMore sg ps i = 0 := by
        unfold manyMore
        rw [List.countP_eq_zero]
        intro k hk e
        exact hx ⟨k, List.mem_range.1 hk, e⟩
      omega
end Go.Proofs.Ytkmhnkljigncmaa.matchMath
end

section
/-
  PLAIN MATHEMATICS of unification (chapter 5): what is most general, idempotent and keeps the smallest variables is unique ('Mg', 'mg_uniq'); what one step from a place where two terms differ does ('Part'); a step that is barred means that there is no unifier, or none that is short. Conditions: none. By an AI agent.
-/
namespace Go.Proofs.Ytkmhnkljigncmaa.unifMath
open Go.Proofs.Ytkmhnkljigncmaa.sig Go.Proofs.Ytkmhnkljigncmaa.term Go.Proofs.Ytkmhnkljigncmaa.termOk Go.Proofs.Ytkmhnkljigncmaa.termFacts Go.Proofs.Ytkmhnkljigncmaa.endAt Go.Proofs.Ytkmhnkljigncmaa.sub Go.Proofs.Ytkmhnkljigncmaa.termMath Go.Proofs.Ytkmhnkljigncmaa.fillMath Go.Proofs.Ytkmhnkljigncmaa.posMath Go.Proofs.Ytkmhnkljigncmaa.renMath Go.Proofs.Ytkmhnkljigncmaa.matchMath Go.Proofs.Ytkmhnkljigncmaa.plainMath

/-- a term of whatever length -/
def Trm (sg t : List Int) : Prop := scan sg 1 t = some t.length
theorem scan_ar {sg : List Int} : ∀ {l : List Int} {q : Nat}, scan sg q l = some l.length → ∀ x ∈ l, ¬ ar sg x < 0 := by
  intro l
  induction l with
  | nil => intro q _ x hx; exact absurd hx (List.not_mem_nil)
  | cons y r ih =>
    intro q h x hx
    cases q with
    | zero => rw [scan_zero] at h; injection h with h; simp at h
    | succ q =>
      by_cases hy : ar sg y < 0
      · rw [scan_bad hy] at h; cases h
      · rw [scan_step hy, Option.map_eq_some_iff] at h
        obtain ⟨a, e1, e2⟩ := h
        rcases List.mem_cons.1 hx with rfl | hx
        · exact hy
        · exact ih (q := q + (ar sg y).toNat) (by rw [e1]; congr 1; simp at e2; omega) x hx
theorem Trm.mem {sg t : List Int} (h : Trm sg t) {x : Int} (hx : x ∈ t) : -24 ≤ x := by
  have h1 := scan_ar h x hx
  by_cases h2 : -24 ≤ x
  · exact h2
  · rw [ar_no (by omega) (by omega)] at h1; omega
theorem Trm.pos {sg t : List Int} (h : Trm sg t) : 1 ≤ t.length := scan_pos (q := 0) h
theorem Trm.vt {sg : List Int} {i : Nat} (hi : i < 24) : Trm sg (vt i) := scan_one (y := -1 - (i : Int)) (by omega)
theorem vr_neg {x : Int} (h : x < 0) : -1 - ((vr x : Nat) : Int) = x := by unfold vr; omega
theorem vt_vr {x : Int} (h : x < 0) : vt (vr x) = [x] := by unfold vt; rw [vr_neg h]
theorem vr_vt (i : Nat) : vr (-1 - (i : Int)) = i := by unfold vr; omega
theorem vt_inj {i j : Nat} (h : vt i = vt j) : i = j := by
  unfold vt at h
  injection h with h
  omega
theorem rep_vr {L : Nat → List Int} {x : Int} (h : x < 0) : rep L x = L (vr x) := rep_var h
theorem fill_one (L : Nat → List Int) (x : Int) : fillL L [x] = rep L x := by rw [fill_cons, fill_nil, List.append_nil]
theorem fill_vti (L : Nat → List Int) (i : Nat) : fillL L (vt i) = L i := by
  unfold vt
  rw [fill_one, rep_vr (by omega), vr_vt]
/-- look-ups whose values are terms below 24, and the variable itself beyond -/
structure Sub (sg : List Int) (L : Nat → List Int) : Prop where
  trm : ∀ i, i < 24 → Trm sg (L i)
  out : ∀ i, 24 ≤ i → L i = vt i
theorem Sub.pos {sg : List Int} {L : Nat → List Int} (h : Sub sg L) (i : Nat) : 1 ≤ (L i).length := by
  by_cases hi : i < 24
  · exact (h.trm i hi).pos
  · rw [h.out i (by omega)]; simp [vt]
theorem Sub.vt (sg : List Int) : Sub sg vt := ⟨fun _ hi => Trm.vt hi, fun _ _ => rfl⟩
theorem Sub.fill {sg : List Int} {L : Nat → List Int} (h : Sub sg L) {t : List Int} (ht : Trm sg t) : Trm sg (fillL L t) :=
  scan_fill ht (fun x hx h0 => h.trm _ (by have := ht.mem hx; omega))
theorem Sub.comp {sg : List Int} {L M : Nat → List Int} (h : Sub sg L) (h' : Sub sg M) : Sub sg (fun i => fillL M (L i)) :=
  ⟨fun i hi => h'.fill (h.trm i hi), fun i hi => by show fillL M (L i) = _; rw [h.out i hi, fill_vti]; exact h'.out i hi⟩
/-- a unifier -/
structure Uni (sg a b : List Int) (L : Nat → List Int) : Prop where
  sub : Sub sg L
  eq : fillL L a = fillL L b
theorem Uni.symm {sg a b : List Int} {L : Nat → List Int} (h : Uni sg a b L) : Uni sg b a L := ⟨h.sub, h.eq.symm⟩
/-- on the way: each unifier is an instance; what remains is fixed, and is the smallest -/
structure Part (sg a b : List Int) (L : Nat → List Int) : Prop where
  sub : Sub sg L
  gen : ∀ M, Uni sg a b M → ∀ i, fillL M (L i) = M i
  ide : ∀ i x, x ∈ L i → x < 0 → L (vr x) = [x]
  ord : ∀ i j, L i = vt j → j ≤ i
/-- most general -/
structure Mg (sg a b : List Int) (L : Nat → List Int) : Prop extends Part sg a b L where
  eq : fillL L a = fillL L b
theorem Mg.uni {sg a b : List Int} {L : Nat → List Int} (h : Mg sg a b L) : Uni sg a b L := ⟨h.sub, h.eq⟩
theorem Part.symm {sg a b : List Int} {L : Nat → List Int} (h : Part sg a b L) : Part sg b a L := ⟨h.sub, fun M hM => h.gen M hM.symm, h.ide, h.ord⟩
theorem Mg.symm {sg a b : List Int} {L : Nat → List Int} (h : Mg sg a b L) : Mg sg b a L := ⟨h.toPart.symm, h.eq.symm⟩
theorem Part.start (sg a b : List Int) : Part sg a b vt :=
  ⟨Sub.vt sg, fun M _ i => fill_vti M i, fun i x hx h0 => vt_vr h0, fun i j h => by rw [vt_inj h]; exact Nat.le_refl _⟩

theorem fill_fix {L : Nat → List Int} (hp : ∀ i, 1 ≤ (L i).length) : ∀ {t : List Int}, fillL L t = t → ∀ x ∈ t, x < 0 → L (vr x) = [x]
  | [], _, x, hx, _ => absurd hx (List.not_mem_nil)
  | y :: r, h, x, hx, h0 => by
    rw [fill_cons] at h
    have h1 : 1 ≤ (rep L y).length := by
      unfold rep
      split
      · simp
      · exact hp _
    have h2 := fill_ge hp r
    have h3 := congrArg List.length h
    rw [List.length_append, List.length_cons] at h3
    obtain ⟨z, hz⟩ : ∃ z, rep L y = [z] := List.length_eq_one_iff.1 (by omega)
    rw [hz] at h
    injection h with e1 e2
    rcases List.mem_cons.1 hx with rfl | hx
    · rw [← rep_vr (L := L) h0, hz, e1]
    · exact fill_fix hp e2 x hx h0
theorem fill_same {L : Nat → List Int} {t : List Int} (h : ∀ x ∈ t, x < 0 → L (vr x) = [x]) : fillL L t = t := by
  have := fill_ext (L := L) (L' := vt) (t := t) (fun x hx h0 => by rw [show (-1 - x).toNat = vr x from rfl, h x hx h0, vt_vr h0])
  rw [this, fill_vt]
/-- there is only one -/
theorem mg_uniq {sg a b : List Int} {S T : Nat → List Int} (hS : Mg sg a b S) (hT : Mg sg a b T) (i : Nat) : S i = T i := by
  have e1 := hS.gen T hT.uni
  have e2 := hT.gen S hS.uni
  have key : ∀ x ∈ S i, x < 0 → T (vr x) = [x] := by
    intro x hx h0
    have hfix : fillL (fun j => fillL S (T j)) (S i) = S i := by rw [← fill_fill, e1, e2]
    have h1 : fillL S (T (vr x)) = [x] := fill_fix (L := fun j => fillL S (T j)) (fun j => by
      have := fill_ge hS.sub.pos (T j); have := hT.sub.pos j; omega) hfix x hx h0
    have h2 := fill_ge hS.sub.pos (T (vr x))
    have h3 := hT.sub.pos (vr x)
    rw [h1] at h2
    obtain ⟨z, hz⟩ : ∃ z, T (vr x) = [z] := List.length_eq_one_iff.1 (by simp at h2; omega)
    rw [hz, fill_one] at h1
    by_cases hz0 : 0 ≤ z
    · rw [rep_sym hz0] at h1
      injection h1 with h1
      omega
    · rw [rep_vr (by omega)] at h1
      have o1 := hS.ord (vr z) (vr x) (by rw [h1, vt_vr h0])
      have o2 := hT.ord (vr x) (vr z) (by rw [hz, vt_vr (by omega)])
      have hv : vr x = vr z := by omega
      have : x = z := by unfold vr at hv; omega
      rw [hz, this]
  rw [← e1 i, fill_same key]

/-! ### where two terms differ -/
theorem fill_drop {L : Nat → List Int} {x y : List Int} {k : Nat} (e : x.take k = y.take k) (h : fillL L x = fillL L y) : fillL L (x.drop k) = fillL L (y.drop k) := by
  rw [← List.take_append_drop k x, ← List.take_append_drop k y, fill_append, fill_append, e] at h
  exact List.append_cancel_left h
/-- the subterm at a place -/
theorem sub_trm {sg x : List Int} (hx : Trm sg x) {k : Nat} (hk : k < x.length) : Trm sg (subL sg x k) ∧ x.drop k = subL sg x k ++ x.drop (k + (subL sg x k).length) := by
  obtain ⟨j, h1, h2, h3⟩ := scan_at hx hk
  have hl : subL sg x k = (x.drop k).take j := by unfold subL; rw [len1_eq h1]
  have hlen : (subL sg x k).length = j := by rw [hl, List.length_take, List.length_drop]; omega
  refine ⟨?_, ?_⟩
  · unfold Trm
    rw [hlen, hl]
    exact scan_take h1
  · rw [hlen, hl, ← List.drop_drop]
    exact (List.take_append_drop _ _).symm
theorem sub_head {sg x : List Int} (hx : Trm sg x) {k : Nat} (hk : k < x.length) : ∃ r, subL sg x k = x.getD k 0 :: r := by
  obtain ⟨h1, h2⟩ := sub_trm hx hk
  have h3 := h1.pos
  obtain ⟨y, r, hyr⟩ : ∃ y r, subL sg x k = y :: r := by
    cases h : subL sg x k with
    | nil => rw [h] at h3; simp at h3
    | cons y r => exact ⟨y, r, rfl⟩
  refine ⟨r, ?_⟩
  rw [hyr, drop_cons hk] at h2
  injection h2 with h2 _
  rw [hyr, h2]
/-- a variable is a term by itself -/
theorem sub_var {sg x : List Int} (hx : Trm sg x) {k : Nat} (hk : k < x.length) (h0 : x.getD k 0 < 0) : subL sg x k = [x.getD k 0] := by
  have hm : x.getD k 0 ∈ x := by simp [List.getD, hk]
  have h24 := hx.mem hm
  have : scan sg 1 (x.drop k) = some 1 := by
    rw [drop_cons hk, scan_step (by rw [ar_var (by omega)]; omega), ar_var (by omega)]
    show (scan sg 0 _).map (· + 1) = some 1
    rw [scan_zero]
    rfl
  unfold subL
  rw [len1_eq this, drop_cons hk]
  rfl
/-- a unifier unifies the subterms where two terms begin to differ -/
theorem uni_sub {sg x y : List Int} {M : Nat → List Int} (hx : Trm sg x) (hy : Trm sg y) (hM : Sub sg M) (h : fillL M x = fillL M y) {k : Nat} (e : x.take k = y.take k) (hkx : k < x.length) (hky : k < y.length) : fillL M (subL sg x k) = fillL M (subL sg y k) := by
  have h1 := fill_drop e h
  obtain ⟨tx, ex⟩ := sub_trm hx hkx
  obtain ⟨ty, ey⟩ := sub_trm hy hky
  rw [ex, ey, fill_append, fill_append] at h1
  have s1 := scan_append (r := fillL M (x.drop (k + (subL sg x k).length))) (hM.fill tx)
  have s2 := scan_append (r := fillL M (y.drop (k + (subL sg y k).length))) (hM.fill ty)
  rw [h1, s2] at s1
  injection s1 with s1
  have := congrArg (List.take (fillL M (subL sg x k)).length) h1
  rw [List.take_left' rfl, List.take_left' s1] at this
  exact this
/-- neither of two different terms begins the other one -/
theorem differ {sg x y : List Int} (hx : Trm sg x) (hy : Trm sg y) {k : Nat} (e : x.take k = y.take k) (hk : k ≤ x.length) (hk' : k ≤ y.length) (hend : k = x.length ∨ k = y.length) : x = y := by
  have key : ∀ {u v : List Int}, Trm sg u → Trm sg v → u.take k = v.take k → k = u.length → k ≤ v.length → u = v := by
    intro u v hu hv e hk hv'
    have h1 : v = u ++ v.drop k := by
      have := (List.take_append_drop k v).symm
      rwa [← e, hk, List.take_length, ← hk] at this
    have h2 := scan_append (r := v.drop k) hu
    rw [← h1, hv] at h2
    injection h2 with h2
    rw [h1, List.drop_eq_nil_of_le (by omega), List.append_nil]
  rcases hend with h | h
  · exact key hx hy e h hk'
  · exact (key hy hx e.symm h hk).symm

/-! ### a step -/
/-- one variable replaced -/
def ones (i : Nat) (t : List Int) (k : Nat) : List Int := if k = i then t else vt k
theorem one_sub {sg : List Int} {i : Nat} {t : List Int} (ht : Trm sg t) (hi : i < 24) : Sub sg (ones i t) :=
  ⟨fun k hk => by unfold ones; split; exact ht; exact Trm.vt hk, fun k hk => by unfold ones; rw [if_neg (by omega)]⟩
theorem one_no {i : Nat} {t z : List Int} (h : ∀ x ∈ z, x < 0 → vr x ≠ i) : fillL (ones i t) z = z :=
  fill_same (fun x hx h0 => by unfold ones; rw [if_neg (h x hx h0), vt_vr h0])
theorem one_uni {i : Nat} {t : List Int} {M : Nat → List Int} (h : M i = fillL M t) (z : List Int) : fillL M (fillL (ones i t) z) = fillL M z := by
  rw [fill_fill]
  refine fill_ext (fun x _ _ => ?_)
  show fillL M (ones i t _) = _
  unfold ones
  split
  · rename_i e; rw [e, h]
  · exact fill_vti M _
/-- what is found where x = fillL L a and y = fillL L b differ -/
structure Spot (sg a b : List Int) (L : Nat → List Int) (k : Nat) : Prop where
  ta : Trm sg a
  tb : Trm sg b
  pre : (fillL L a).take k = (fillL L b).take k
  kx : k < (fillL L a).length
  ky : k < (fillL L b).length
  ne : (fillL L a).getD k 0 ≠ (fillL L b).getD k 0
theorem Spot.symm {sg a b : List Int} {L : Nat → List Int} {k : Nat} (h : Spot sg a b L k) : Spot sg b a L k := ⟨h.tb, h.ta, h.pre.symm, h.ky, h.kx, fun e => h.ne e.symm⟩
theorem part_uni {sg a b : List Int} {L M : Nat → List Int} (h : Part sg a b L) (hM : Uni sg a b M) (z : List Int) : fillL M (fillL L z) = fillL M z := by
  rw [fill_fill]
  exact fill_ext (fun x _ _ => h.gen M hM _)
theorem Spot.sub {sg a b : List Int} {L M : Nat → List Int} {k : Nat} (s : Spot sg a b L k) (h : Part sg a b L) (hM : Uni sg a b M) : fillL M (subL sg (fillL L a) k) = fillL M (subL sg (fillL L b) k) :=
  uni_sub (h.sub.fill s.ta) (h.sub.fill s.tb) hM.sub (by rw [part_uni h hM, part_uni h hM, hM.eq]) s.pre s.kx s.ky
/-- two symbols -/
theorem Spot.clash {sg a b : List Int} {L : Nat → List Int} {k : Nat} (s : Spot sg a b L k) (h : Part sg a b L) (h1 : 0 ≤ (fillL L a).getD k 0) (h2 : 0 ≤ (fillL L b).getD k 0) : ∀ M, ¬ Uni sg a b M := fun M hM => by
  have e := s.sub h hM
  obtain ⟨r, e1⟩ := sub_head (h.sub.fill s.ta) s.kx
  obtain ⟨r', e2⟩ := sub_head (h.sub.fill s.tb) s.ky
  rw [e1, e2, fill_cons, fill_cons, rep_sym h1, rep_sym h2] at e
  injection e with e _
  exact s.ne e
theorem mem_rep {M : Nat → List Int} {z : List Int} {x : Int} (hp : ∀ i, 1 ≤ (M i).length) (hx : x ∈ z) (h0 : x < 0) (hl : z ≠ [x]) : (M (vr x)).length < (fillL M z).length := by
  obtain ⟨u, v, rfl⟩ := List.append_of_mem hx
  rw [fill_append, fill_cons, rep_vr h0, List.length_append, List.length_append]
  have h1 := fill_ge hp u
  have h2 := fill_ge hp v
  by_cases hu : u.length = 0
  · by_cases hv : v.length = 0
    · rw [List.eq_nil_of_length_eq_zero hu, List.eq_nil_of_length_eq_zero hv] at hl
      exact absurd rfl hl
    · omega
  · omega
/-- a variable in the other term -/
theorem Spot.occurs {sg a b : List Int} {L : Nat → List Int} {k : Nat} (s : Spot sg a b L k) (h : Part sg a b L) (h1 : (fillL L a).getD k 0 < 0) (h2 : (fillL L a).getD k 0 ∈ subL sg (fillL L b) k) : ∀ M, ¬ Uni sg a b M := fun M hM => by
  have e := s.sub h hM
  rw [sub_var (h.sub.fill s.ta) s.kx h1, fill_one, rep_vr h1] at e
  obtain ⟨r, e2⟩ := sub_head (h.sub.fill s.tb) s.ky
  have := mem_rep hM.sub.pos h2 h1 (fun e3 => by rw [e2] at e3; injection e3 with e3 _; exact s.ne e3.symm)
  rw [e] at this
  exact Nat.lt_irrefl _ this
theorem mem_drop {x : Int} {l : List Int} {k : Nat} (h : x ∈ l.drop k) : x ∈ l := List.mem_of_mem_drop h
theorem sub_mem {sg t : List Int} {k : Nat} {x : Int} (h : x ∈ subL sg t k) : x ∈ t := by
  unfold subL at h
  exact mem_drop (List.mem_of_mem_take h)
theorem fill_mem {L : Nat → List Int} : ∀ {t : List Int} {x : Int}, x ∈ fillL L t → x < 0 → ∃ y ∈ t, y < 0 ∧ x ∈ L (vr y)
  | [], x, h, _ => absurd h (List.not_mem_nil)
  | z :: r, x, h, h0 => by
    rw [fill_cons] at h
    rcases List.mem_append.1 h with h | h
    · by_cases hz : 0 ≤ z
      · rw [rep_sym hz, List.mem_singleton] at h; omega
      · rw [rep_vr (by omega)] at h
        exact ⟨z, List.mem_cons_self .., by omega, h⟩
    · obtain ⟨y, h1, h2⟩ := fill_mem h h0
      exact ⟨y, List.mem_cons_of_mem _ h1, h2⟩
/-- what is left in a filled term stays -/
theorem Part.fix {sg a b : List Int} {L : Nat → List Int} (h : Part sg a b L) {t : List Int} {x : Int} (hx : x ∈ fillL L t) (h0 : x < 0) : L (vr x) = [x] := by
  obtain ⟨y, _, _, hy⟩ := fill_mem hx h0
  exact h.ide _ x hy h0
/-- a variable becomes a term in which it isn't; of two variables the larger one -/
theorem Spot.bind {sg a b : List Int} {L : Nat → List Int} {k : Nat} (s : Spot sg a b L k) (h : Part sg a b L) (h1 : (fillL L a).getD k 0 < 0) (h2 : (fillL L a).getD k 0 ∉ subL sg (fillL L b) k) (h3 : 0 ≤ (fillL L b).getD k 0 ∨ (fillL L a).getD k 0 < (fillL L b).getD k 0) :
    Part sg a b (fun m => fillL (ones (vr ((fillL L a).getD k 0)) (subL sg (fillL L b) k)) (L m)) := by
  obtain ⟨p, hp⟩ : ∃ p, (fillL L a).getD k 0 = p := ⟨_, rfl⟩
  obtain ⟨t, ht⟩ : ∃ t, subL sg (fillL L b) k = t := ⟨_, rfl⟩
  have hpm : p ∈ fillL L a := by rw [← hp]; have := s.kx; simp [List.getD, this]
  have hp24 := (h.sub.fill s.ta).mem hpm
  have htt : Trm sg t := by rw [← ht]; exact (sub_trm (h.sub.fill s.tb) s.ky).1
  have hpx : L (vr p) = [p] := h.fix hpm (by omega)
  rw [hp] at h1 h2 h3 ⊢
  rw [ht] at h2 ⊢
  have hi : vr p < 24 := by unfold vr; omega
  have hone := one_sub htt hi
  have tfix : ∀ x ∈ t, x < 0 → L (vr x) = [x] := fun x hx h0 => h.fix (t := b) (by rw [← ht] at hx; exact sub_mem hx) h0
  have hhead := sub_head (h.sub.fill s.tb) s.ky
  rw [ht] at hhead
  refine ⟨h.sub.comp hone, fun M hM i => ?_, fun i x hx h0 => ?_, fun i j hj => ?_⟩
  · show fillL M (fillL _ (L i)) = M i
    rw [one_uni ?_, h.gen M hM]
    have e := s.sub h hM
    rw [sub_var (h.sub.fill s.ta) s.kx (by rw [hp]; exact h1), hp, ht, fill_one, rep_vr h1] at e
    exact e
  · show fillL (ones (vr p) t) (L (vr x)) = [x]
    change x ∈ fillL (ones (vr p) t) (L i) at hx
    obtain ⟨y, g1, g2, g3⟩ := fill_mem hx h0
    have hxp : vr x ≠ vr p ∧ L (vr x) = [x] := by
      unfold ones at g3
      split at g3
      · refine ⟨fun e => h2 ?_, tfix x g3 h0⟩
        have : x = p := by unfold vr at e; omega
        rw [← this]; exact g3
      · rename_i hne
        rw [vt_vr g2, List.mem_singleton] at g3
        rw [g3]
        exact ⟨hne, h.ide i y g1 g2⟩
    rw [hxp.2, fill_one, rep_vr h0]
    unfold ones
    rw [if_neg hxp.1, vt_vr h0]
  · change fillL (ones (vr p) t) (L i) = vt j at hj
    have hl1 := fill_ge hone.pos (L i)
    have hl2 := h.sub.pos i
    rw [hj] at hl1
    obtain ⟨z, hz⟩ : ∃ z, L i = [z] := List.length_eq_one_iff.1 (by simp [vt] at hl1; omega)
    rw [hz, fill_one] at hj
    by_cases hz0 : 0 ≤ z
    · rw [rep_sym hz0] at hj
      unfold vt at hj
      injection hj with hj
      omega
    · rw [rep_vr (by omega)] at hj
      have o := h.ord i (vr z) (by rw [hz, vt_vr (by omega)])
      unfold ones at hj
      split at hj
      · rename_i e
        obtain ⟨r, hr⟩ := hhead
        rw [hr] at hj
        unfold vt at hj
        injection hj with hj _
        rcases h3 with h3 | h3
        · omega
        · unfold vr at e o; omega
      · rw [vt_inj hj] at o; exact o
/-- at the end -/
theorem Part.done {sg a b : List Int} {L : Nat → List Int} (h : Part sg a b L) (he : fillL L a = fillL L b) : Mg sg a b L := ⟨h, he⟩

/-! ### lengths -/
/-- a unifier of which nothing is too long -/
structure Short (sg a b : List Int) (M : Nat → List Int) : Prop extends Uni sg a b M where
  each : ∀ i, (M i).length ≤ 60
  all : (fillL M a).length ≤ 60
theorem Short.symm {sg a b : List Int} {M : Nat → List Int} (h : Short sg a b M) : Short sg b a M := ⟨h.toUni.symm, h.each, by rw [← h.eq]; exact h.all⟩
theorem Part.each {sg a b : List Int} {L M : Nat → List Int} (h : Part sg a b L) (hM : Short sg a b M) (i : Nat) : (L i).length ≤ 60 := by
  have h1 := fill_ge hM.sub.pos (L i)
  rw [h.gen M hM.toUni] at h1
  exact Nat.le_trans h1 (hM.each i)
theorem Part.len {sg a b : List Int} {L M : Nat → List Int} (h : Part sg a b L) (hM : Short sg a b M) : (fillL L a).length ≤ 60 ∧ (fillL L b).length ≤ 60 := by
  have h1 := fill_ge hM.sub.pos (fillL L a)
  have h2 := fill_ge hM.sub.pos (fillL L b)
  rw [part_uni h hM.toUni] at h1 h2
  rw [← hM.eq] at h2
  exact ⟨Nat.le_trans h1 hM.all, Nat.le_trans h2 hM.all⟩

/-! ### how many variables are free -/
def free (L : Nat → List Int) : Nat := (List.range 24).countP fun i => decide (L i = vt i)
theorem free_le (L : Nat → List Int) : free L ≤ 24 := by
  unfold free
  exact Nat.le_trans List.countP_le_length (by simp)
theorem free_bind {sg a b : List Int} {L : Nat → List Int} {k : Nat} (s : Spot sg a b L k) (h : Part sg a b L) (h1 : (fillL L a).getD k 0 < 0) (h2 : (fillL L a).getD k 0 ∉ subL sg (fillL L b) k) :
    free (fun m => fillL (ones (vr ((fillL L a).getD k 0)) (subL sg (fillL L b) k)) (L m)) < free L := by
  obtain ⟨p, hp⟩ : ∃ p, (fillL L a).getD k 0 = p := ⟨_, rfl⟩
  obtain ⟨t, ht⟩ : ∃ t, subL sg (fillL L b) k = t := ⟨_, rfl⟩
  have hpm : p ∈ fillL L a := by rw [← hp]; have := s.kx; simp [List.getD, this]
  have hp24 := (h.sub.fill s.ta).mem hpm
  rw [hp] at h1 h2 ⊢
  rw [ht] at h2 ⊢
  have hpx : L (vr p) = [p] := h.fix hpm h1
  have htt : Trm sg t := by rw [← ht]; exact (sub_trm (h.sub.fill s.tb) s.ky).1
  have hone := one_sub (i := vr p) htt (by unfold vr; omega)
  have tfix : ∀ x ∈ t, x < 0 → L (vr x) = [x] := fun x hx h0 => h.fix (t := b) (by rw [← ht] at hx; exact sub_mem hx) h0
  unfold free
  refine count_less (y := vr p) (fun i hi hf => ?_) (List.mem_range.2 (by unfold vr; omega)) ?_ ?_
  · rw [decide_eq_true_eq] at hf ⊢
    change fillL (ones (vr p) t) (L i) = vt i at hf
    have hl1 := fill_ge hone.pos (L i)
    have hl2 := h.sub.pos i
    rw [hf] at hl1
    obtain ⟨z, hz⟩ : ∃ z, L i = [z] := List.length_eq_one_iff.1 (by simp [vt] at hl1; omega)
    rw [hz, fill_one] at hf
    by_cases hz0 : 0 ≤ z
    · rw [rep_sym hz0] at hf
      unfold vt at hf
      injection hf with hf
      omega
    · rw [rep_vr (by omega)] at hf
      unfold ones at hf
      split at hf
      · rename_i e
        have hm : (-1 - (i : Int)) ∈ t := by rw [hf]; simp [vt]
        have := tfix _ hm (by omega)
        rw [vr_vt] at this
        exact this
      · rw [hz, ← vt_vr (by omega : z < 0)]
        exact hf
  · rw [decide_eq_false_iff_not]
    intro e
    change fillL (ones (vr p) t) (L (vr p)) = vt (vr p) at e
    rw [hpx, fill_one, rep_vr h1, vt_vr h1] at e
    unfold ones at e
    rw [if_pos rfl] at e
    exact h2 (by rw [e]; exact List.mem_singleton.2 rfl)
  · rw [decide_eq_true_eq, hpx, vt_vr h1]

/-! ### what is told -/
/-- from what is known on the way a most general one is reached, if there is a short one -/
theorem reach {sg a b : List Int} {M : Nat → List Int} (ta : Trm sg a) (tb : Trm sg b) (hM : Short sg a b M) : ∀ (n : Nat) (L : Nat → List Int), free L ≤ n → Part sg a b L → ∃ L', Mg sg a b L' := by
  have spot : ∀ {L : Nat → List Int}, Part sg a b L → fillL L a ≠ fillL L b → ∃ k, Spot sg a b L k := by
    intro L h hne
    have tx := h.sub.fill ta
    have ty := h.sub.fill tb
    have key : ∀ n k, (fillL L a).length - k ≤ n → k ≤ (fillL L a).length → k ≤ (fillL L b).length → (fillL L a).take k = (fillL L b).take k → ∃ k, Spot sg a b L k := by
      intro n
      induction n with
      | zero =>
        intro k hn h1 h2 e
        exact absurd (differ tx ty e h1 h2 (.inl (by omega))) hne
      | succ n ih =>
        intro k hn h1 h2 e
        by_cases hx : k = (fillL L a).length
        · exact absurd (differ tx ty e h1 h2 (.inl hx)) hne
        · by_cases hy : k = (fillL L b).length
          · exact absurd (differ tx ty e h1 h2 (.inr hy)) hne
          · have kx : k < (fillL L a).length := by omega
            have ky : k < (fillL L b).length := by omega
            by_cases hg : (fillL L a).getD k 0 = (fillL L b).getD k 0
            · refine ih (k + 1) (by omega) kx ky ?_
              rw [List.take_succ_eq_append_getElem kx, List.take_succ_eq_append_getElem ky, e]
              simp [List.getD, kx, ky] at hg
              rw [hg]
            · exact ⟨k, ta, tb, e, kx, ky, hg⟩
    exact key _ 0 (Nat.le_refl _) (Nat.zero_le _) (Nat.zero_le _) rfl
  intro n
  induction n with
  | zero =>
    intro L hn h
    by_cases he : fillL L a = fillL L b
    · exact ⟨L, h.done he⟩
    · obtain ⟨k, s⟩ := spot h he
      by_cases h1 : (fillL L a).getD k 0 < 0
      · by_cases h2 : (fillL L a).getD k 0 ∈ subL sg (fillL L b) k
        · exact absurd hM.toUni (s.occurs h h1 h2 M)
        · have := free_bind s h h1 h2; omega
      · by_cases h1' : (fillL L b).getD k 0 < 0
        · by_cases h2 : (fillL L b).getD k 0 ∈ subL sg (fillL L a) k
          · exact absurd hM.toUni.symm (s.symm.occurs h.symm h1' h2 M)
          · have := free_bind s.symm h.symm h1' h2; omega
        · exact absurd hM.toUni (s.clash h (by omega) (by omega) M)
  | succ n ih =>
    intro L hn h
    by_cases he : fillL L a = fillL L b
    · exact ⟨L, h.done he⟩
    · obtain ⟨k, s⟩ := spot h he
      by_cases h3 : (fillL L a).getD k 0 < 0 ∧ (0 ≤ (fillL L b).getD k 0 ∨ (fillL L a).getD k 0 < (fillL L b).getD k 0)
      · by_cases h2 : (fillL L a).getD k 0 ∈ subL sg (fillL L b) k
        · exact absurd hM.toUni (s.occurs h h3.1 h2 M)
        · exact ih _ (by have := free_bind s h h3.1 h2; omega) (s.bind h h3.1 h2 h3.2)
      · by_cases h1' : (fillL L b).getD k 0 < 0
        · by_cases h2 : (fillL L b).getD k 0 ∈ subL sg (fillL L a) k
          · exact absurd hM.toUni.symm (s.symm.occurs h.symm h1' h2 M)
          · obtain ⟨L', hL'⟩ := ih _ (by have := free_bind s.symm h.symm h1' h2; omega) (s.symm.bind h.symm h1' h2 (by have := s.ne; omega)).symm
            exact ⟨L', hL'⟩
        · exact absurd hM.toUni (s.clash h (by omega) (by omega) M)
/-- what is told of two lists: whether there is a short unifier, and the plain form of the most general one -/
def IsU (sg a b : List Int) (v : Bool) (F : List (List Int)) : Prop :=
  (v = true ∧ termOkB sg a = true ∧ termOkB sg b = true ∧ ∃ L, Mg sg a b L ∧ Short sg a b L ∧ F = plainL L 24) ∨ (v = false ∧ F = [] ∧ (termOkB sg a = false ∨ termOkB sg b = false ∨ ∀ M, ¬ Short sg a b M))
theorem isU_ex (sg a b : List Int) : ∃ v F, IsU sg a b v F := by
  cases h1 : termOkB sg a with
  | false => exact ⟨false, [], .inr ⟨rfl, rfl, .inl h1⟩⟩
  | true =>
    cases h2 : termOkB sg b with
    | false => exact ⟨false, [], .inr ⟨rfl, rfl, .inr (.inl h2)⟩⟩
    | true =>
      by_cases h : ∃ M, Short sg a b M
      · obtain ⟨M, hM⟩ := h
        obtain ⟨L, hL⟩ := reach (term_parts h1).2.2 (term_parts h2).2.2 hM _ vt (free_le _) (Part.start sg a b)
        exact ⟨true, _, .inl ⟨rfl, h1, h2, L, hL, ⟨hL.uni, hL.toPart.each hM, (hL.toPart.len hM).1⟩, rfl⟩⟩
      · exact ⟨false, [], .inr ⟨rfl, rfl, .inr (.inr (fun M hM => h ⟨M, hM⟩))⟩⟩
theorem isU_one {sg a b : List Int} {v v' : Bool} {F F' : List (List Int)} (h : IsU sg a b v F) (h' : IsU sg a b v' F') : v = v' ∧ F = F' := by
  rcases h with ⟨rfl, a1, a2, L, m, s, rfl⟩ | ⟨rfl, rfl, h⟩
  · rcases h' with ⟨rfl, _, _, L', m', _, rfl⟩ | ⟨rfl, rfl, h'⟩
    · exact ⟨rfl, plain_ext (fun i _ => mg_uniq m m' i)⟩
    · rcases h' with h' | h' | h'
      · rw [a1] at h'; cases h'
      · rw [a2] at h'; cases h'
      · exact absurd s (h' L)
  · rcases h' with ⟨rfl, a1, a2, L, m, s, rfl⟩ | ⟨rfl, rfl, _⟩
    · rcases h with h | h | h
      · rw [a1] at h; cases h
      · rw [a2] at h; cases h
      · exact absurd s (h L)
    · exact ⟨rfl, rfl⟩
/-- told true: by any most general one of which nothing is too long -/
theorem isU_mg {sg a b : List Int} {L : Nat → List Int} (h1 : termOkB sg a = true) (h2 : termOkB sg b = true) (h : Mg sg a b L) (he : ∀ i, (L i).length ≤ 60) (ha : (fillL L a).length ≤ 60) : IsU sg a b true (plainL L 24) :=
  .inl ⟨rfl, h1, h2, L, h, ⟨h.uni, he, ha⟩, rfl⟩
theorem isU_no {sg a b : List Int} (h : ∀ M, ¬ Short sg a b M) : IsU sg a b false [] := .inr ⟨rfl, rfl, .inr (.inr h)⟩
theorem isU_off {sg a b : List Int} (h : termOkB sg a = false ∨ termOkB sg b = false) : IsU sg a b false [] := .inr ⟨rfl, rfl, by rcases h with h | h; exact .inl h; exact .inr (.inl h)⟩
end Go.Proofs.Ytkmhnkljigncmaa.unifMath
end

section
/-
  PLAIN MATHEMATICS of unification: only variables of the two terms are replaced, and by terms of such variables ('Dom'); so nothing is longer than the two terms, filled; one step ('Go'). Conditions: none. By an AI agent.
-/
namespace Go.Proofs.Ytkmhnkljigncmaa.unifDom
open Go.Proofs.Ytkmhnkljigncmaa.sig Go.Proofs.Ytkmhnkljigncmaa.term Go.Proofs.Ytkmhnkljigncmaa.termOk Go.Proofs.Ytkmhnkljigncmaa.termFacts Go.Proofs.Ytkmhnkljigncmaa.endAt Go.Proofs.Ytkmhnkljigncmaa.sub Go.Proofs.Ytkmhnkljigncmaa.termMath Go.Proofs.Ytkmhnkljigncmaa.fillMath Go.Proofs.Ytkmhnkljigncmaa.posMath Go.Proofs.Ytkmhnkljigncmaa.renMath Go.Proofs.Ytkmhnkljigncmaa.matchMath Go.Proofs.Ytkmhnkljigncmaa.plainMath Go.Proofs.Ytkmhnkljigncmaa.unifMath

def InTwo (a b : List Int) (z : Int) : Prop := z ∈ a ∨ z ∈ b
structure Dom (a b : List Int) (L : Nat → List Int) : Prop where
  rng : ∀ z, InTwo a b z → z < 0 → ∀ y ∈ L (vr z), y < 0 → InTwo a b y
  out : ∀ i : Nat, ¬ InTwo a b (-1 - (i : Int)) → L i = vt i
section
variable {sg a b : List Int} {L : Nat → List Int}
theorem Dom.start (a b : List Int) : Dom a b vt := ⟨fun z hz h0 y hy _ => by rw [vt_vr h0, List.mem_singleton] at hy; rw [hy]; exact hz, fun _ _ => rfl⟩
theorem Dom.symm (h : Dom a b L) : Dom b a L := ⟨fun z hz h0 y hy h1 => (h.rng z hz.symm h0 y hy h1).symm, fun i hi => h.out i (fun e => hi e.symm)⟩
theorem Dom.fill (h : Dom a b L) {y : Int} (hy : y ∈ fillL L a ∨ y ∈ fillL L b) (h0 : y < 0) : InTwo a b y := by
  rcases hy with hy | hy
  · obtain ⟨z, h1, h2, h3⟩ := fill_mem hy h0
    exact h.rng z (.inl h1) h2 y h3 h0
  · obtain ⟨z, h1, h2, h3⟩ := fill_mem hy h0
    exact h.rng z (.inr h1) h2 y h3 h0
theorem Dom.bind (h : Dom a b L) {p : Int} {t : List Int} (hp : InTwo a b p) (h0 : p < 0) (ht : ∀ y ∈ t, y < 0 → InTwo a b y) : Dom a b (fun m => fillL (ones (vr p) t) (L m)) := by
  refine ⟨fun z hz hz0 y hy hy0 => ?_, fun i hi => ?_⟩
  · change y ∈ fillL (ones (vr p) t) (L (vr z)) at hy
    obtain ⟨q, h1, h2, h3⟩ := fill_mem hy hy0
    unfold ones at h3
    split at h3
    · exact ht y h3 hy0
    · rw [vt_vr h2, List.mem_singleton] at h3
      rw [h3]
      exact h.rng z hz hz0 q h1 h2
  · show fillL (ones (vr p) t) (L i) = vt i
    rw [h.out i hi, fill_vti]
    unfold ones
    rw [if_neg]
    intro e
    subst e
    exact hi (by rw [vr_neg h0]; exact hp)
theorem mem_len {x : Int} : ∀ {t : List Int}, x ∈ t → x < 0 → (L (vr x)).length ≤ (fillL L t).length
  | [], hx, _ => absurd hx (List.not_mem_nil)
  | y :: r, hx, h0 => by
    rw [fill_cons, List.length_append]
    rcases List.mem_cons.1 hx with rfl | hx
    · rw [rep_vr h0]; omega
    · have := mem_len hx h0; omega
theorem Dom.each (h : Dom a b L) (ha : (fillL L a).length ≤ 60) (hb : (fillL L b).length ≤ 60) (i : Nat) : (L i).length ≤ 60 := by
  by_cases hi : InTwo a b (-1 - (i : Int))
  · rcases hi with hi | hi
    · have := mem_len (L := L) hi (by omega)
      rw [vr_vt] at this
      omega
    · have := mem_len (L := L) hi (by omega)
      rw [vr_vt] at this
      omega
  · rw [h.out i hi]; simp [vt]
end

/-- what is known on the way: x and y are the two terms, filled -/
structure Wy (sg a b : List Int) (L : Nat → List Int) (x y : List Int) : Prop where
  ta : termOkB sg a = true
  tb : termOkB sg b = true
  part : Part sg a b L
  dom : Dom a b L
  ex : x = fillL L a
  ey : y = fillL L b
  lx : x.length ≤ 60
  ly : y.length ≤ 60
section
variable {sg a b x y : List Int} {L : Nat → List Int}
theorem Wy.symm (h : Wy sg a b L x y) : Wy sg b a L y x := ⟨h.tb, h.ta, h.part.symm, h.dom.symm, h.ey, h.ex, h.ly, h.lx⟩
theorem Wy.start (ha : termOkB sg a = true) (hb : termOkB sg b = true) : Wy sg a b vt a b :=
  ⟨ha, hb, Part.start sg a b, Dom.start a b, (fill_vt a).symm, (fill_vt b).symm, (term_len ha).2, (term_len hb).2⟩
theorem Wy.tx (h : Wy sg a b L x y) : Trm sg x := by rw [h.ex]; exact h.part.sub.fill (term_parts h.ta).2.2
theorem Wy.okx (h : Wy sg a b L x y) : termOkB sg x = true := term_mk (term_parts h.ta).1 h.lx h.tx
theorem Wy.each (h : Wy sg a b L x y) (i : Nat) : (L i).length ≤ 60 := h.dom.each (by rw [← h.ex]; exact h.lx) (by rw [← h.ey]; exact h.ly) i
theorem Wy.done (h : Wy sg a b L x y) (e : x = y) : IsU sg a b true (plainL L 24) :=
  isU_mg h.ta h.tb (h.part.done (by rw [← h.ex, ← h.ey]; exact e)) h.each (by rw [← h.ex]; exact h.lx)
/-- the first index at which they differ -/
theorem Wy.spot (h : Wy sg a b L x y) {k : Nat} (e : x.take k = y.take k) (kx : k < x.length) (ky : k < y.length) (ne : x.getD k 0 ≠ y.getD k 0) : Spot sg a b L k :=
  ⟨(term_parts h.ta).2.2, (term_parts h.tb).2.2, by rw [← h.ex, ← h.ey]; exact e, by rw [← h.ex]; exact kx, by rw [← h.ey]; exact ky, by rw [← h.ex, ← h.ey]; exact ne⟩
theorem Wy.clash (h : Wy sg a b L x y) {k : Nat} (s : Spot sg a b L k) (h1 : 0 ≤ x.getD k 0) (h2 : 0 ≤ y.getD k 0) : ∀ M, ¬ Short sg a b M := fun M hM =>
  s.clash h.part (by rw [← h.ex]; exact h1) (by rw [← h.ey]; exact h2) M hM.toUni
theorem Wy.occurs (h : Wy sg a b L x y) {k : Nat} (s : Spot sg a b L k) (h1 : x.getD k 0 < 0) (h2 : x.getD k 0 ∈ subL sg y k) : ∀ M, ¬ Short sg a b M := fun M hM =>
  s.occurs h.part (by rw [← h.ex]; exact h1) (by rw [← h.ex, ← h.ey]; exact h2) M hM.toUni
/-- a step: the variable at k becomes the other side's subterm -/
theorem Wy.step (h : Wy sg a b L x y) {k : Nat} (s : Spot sg a b L k) (h1 : x.getD k 0 < 0) (h2 : x.getD k 0 ∉ subL sg y k) (h3 : 0 ≤ y.getD k 0 ∨ x.getD k 0 < y.getD k 0) :
    (fillL (ones (vr (x.getD k 0)) (subL sg y k)) x).length ≤ 60 → (fillL (ones (vr (x.getD k 0)) (subL sg y k)) y).length ≤ 60 →
      Wy sg a b (fun m => fillL (ones (vr (x.getD k 0)) (subL sg y k)) (L m)) (fillL (ones (vr (x.getD k 0)) (subL sg y k)) x) (fillL (ones (vr (x.getD k 0)) (subL sg y k)) y) ∧
      free (fun m => fillL (ones (vr (x.getD k 0)) (subL sg y k)) (L m)) < free L := fun l1 l2 => by
  have hx := h.ex
  have hy := h.ey
  subst hx
  subst hy
  have hm : (fillL L a).getD k 0 ∈ fillL L a := by have := s.kx; simp [List.getD, this]
  exact ⟨⟨h.ta, h.tb, s.bind h.part h1 h2 h3, h.dom.bind (h.dom.fill (.inl hm) h1) h1 (fun z hz h0 => h.dom.fill (.inr (sub_mem hz)) h0), fill_fill _, fill_fill _, l1, l2⟩, free_bind s h.part h1 h2⟩
/-- where one becomes too long there is no short unifier -/
theorem Wy.long (h : Wy sg a b L x y) {k : Nat} (s : Spot sg a b L k) (h1 : x.getD k 0 < 0) (h2 : x.getD k 0 ∉ subL sg y k) (h3 : 0 ≤ y.getD k 0 ∨ x.getD k 0 < y.getD k 0)
    (hl : ¬ ((fillL (ones (vr (x.getD k 0)) (subL sg y k)) x).length ≤ 60 ∧ (fillL (ones (vr (x.getD k 0)) (subL sg y k)) y).length ≤ 60)) : ∀ M, ¬ Short sg a b M := fun M hM => by
  have hx := h.ex
  have hy := h.ey
  subst hx
  subst hy
  have hl2 := (s.bind h.part h1 h2 h3).len hM
  rw [← fill_fill, ← fill_fill] at hl2
  exact hl hl2
end
end Go.Proofs.Ytkmhnkljigncmaa.unifDom
end

section
/-
  CONTRACTS: impl.lookup.then and what it returns, impl.varTerm as a look-up. 'LooksE x': a look-up that goes on as it does whatever is written into block x. Conditions: the values of the first look-up are terms of at most 60 numbers. (The closure's region by wip/tools/reg.py.) By an AI agent.
-/
namespace Go.Proofs.Ytkmhnkljigncmaa.thn
open Go.RowKit Go.Proofs.Ytkmhnkljigncmaa.base Go.Proofs.Ytkmhnkljigncmaa.ints Go.Proofs.Ytkmhnkljigncmaa.cursor Go.Proofs.Ytkmhnkljigncmaa.marks Go.Proofs.Ytkmhnkljigncmaa.app Go.Proofs.Ytkmhnkljigncmaa.sym Go.Proofs.Ytkmhnkljigncmaa.segs Go.Proofs.Ytkmhnkljigncmaa.fillMath Go.Proofs.Ytkmhnkljigncmaa.look
set_option maxRecDepth 100000

/-- as 'Looks', and whatever is written into block x -/
def LooksE (x : Option Nat) (g : Nat) (lb : Array Value) (w : World) (L : Nat → List Int) (N : Nat) : Prop :=
  ∀ (W : World) (i : Nat), w.grownBy W x → i < N → Calls Try.prog g (#[.int .i64 (i : Int)] ++ lb) W (AnsLook w.heap.size W (L i))
section
variable {x : Option Nat} {g : Nat} {lb : Array Value} {w w' : World} {L L' : Nat → List Int} {N : Nat}
theorem LooksE.next (h : LooksE x g lb w L N) (hg : w.grownBy w' x) : LooksE x g lb w' L N :=
  fun W i hW hi => (h W i (grown_trans hg hW) hi).mono fun _ _ ⟨A, n, c, he, h1, h2, h3, h4⟩ => ⟨A, n, c, he, h1, h2, fun k hk => by have := h3 k hk; have := hg.size; omega, h4⟩
theorem LooksE.looks (h : LooksE x g lb w L N) : Looks g lb w L N := fun W i hW hi => h W i (grown_below hW x) hi
theorem LooksE.ext (h : LooksE x g lb w L N) (e : ∀ i, i < N → L i = L' i) : LooksE x g lb w L' N := fun W i hW hi => by rw [← e i hi]; exact h W i hW hi
theorem grown_drew {a b : World} {r : Option Nat} (h : a.grownBy b r) : a.grownBy b.drew r := ⟨h.os, h.tape, h.output, h.size, h.block⟩
theorem lookVar (x : Option Nat) (w : World) : LooksE x 59 #[] w vt 24 := fun W i _ hi =>
  (varTerm (i : Int) W (by omega) (by omega)).mono fun _ _ ⟨A, n, c, he, ho, hb⟩ => by subst he; exact look_new ho hb
end
/-- what then returns: first the one, and what the other makes of it -/
theorem lookThen (x : Option Nat) (b1 b2 g1 g2 : Nat) (lb1 lb2 : Array Value) (e1 : ∀ args w, (callFunc g1 args).run Try.prog w = .ok (.enter g1 args) w) (e2 : ∀ args w, (callFunc g2 args).run Try.prog w = .ok (.enter g2 args) w) (L1 L2 : Nat → List Int) (w : World)
    (z1 : b1 < w.heap.size) (z2 : b2 < w.heap.size) (n1 : x ≠ some b1) (n2 : x ≠ some b2) (c1 : w.cell? ⟨b1, 0, none⟩ = some (.func (.func g1) #[] lb1)) (c2 : w.cell? ⟨b2, 0, none⟩ = some (.func (.func g2) #[] lb2))
    (h1 : LooksE x g1 lb1 w L1 24) (h2 : LooksE x g2 lb2 w L2 24) (hl1 : ∀ i, i < 24 → (L1 i).length ≤ 60) (hv : ∀ i, i < 24 → ∀ y ∈ L1 i, -24 ≤ y) (hl2 : ∀ i, (L2 i).length ≤ 4096) :
    LooksE x 113 #[.pointer (some ⟨b2, 0, none⟩), .pointer (some ⟨b1, 0, none⟩)] w (fun i => fillL L2 (L1 i)) 24 := by
  intro W i hb hi
  have hsz := hb.size
  have p1 : W.cell? ⟨b1, 0, none⟩ = some (.func (.func g1) #[] lb1) := hb.cell c1 (fun e => n1 e.symm)
  have p2 : W.cell? ⟨b2, 0, none⟩ = some (.func (.func g2) #[] lb2) := hb.cell c2 (fun e => n2 e.symm)
  have HL1 := Lib.hid (h1 W.drew i (grown_drew hb) hi)
  have LU := (h2.next (grown_drew hb)).looks
  have h60 := Lib.hid (hl1 i hi)
  have HV := Lib.hid (hv i hi)
  have hM2 := Lib.hid hl2
  clear hb z1 z2 c1 c2 h1 h2 hl1 hv hl2
  show Calls Try.prog 113 #[.int .i64 (i : Int), .pointer (some ⟨b2, 0, none⟩), .pointer (some ⟨b1, 0, none⟩)] W _
  go_enter Try.func113, Try.ntmps113
  go_wp2_with fail
  refine wp_region_held_drew (S := (fun w' => w'.cell? ⟨b1, 0, none⟩ = some (.func (.func g1) #[] lb1) ∧ w'.cell? ⟨b2, 0, none⟩ = some (.func (.func g2) #[] lb2))) (by kernel_rfl) ⟨p1, p2⟩ (fun hHeld => ?_)
  refine wpAnyH_take (i := 0) (v := ?_) rfl (by kernel_rfl) (by kernel_rfl) (by kernel_rfl) (fun _ _ _ h => h) (Or.inl ⟨by rfl, ?_⟩) (by assumption) ?_
  rotate_left 1
  · (intro w0 hSw; (try dsimp only at hSw); go_simp; try with_reducible rfl)
  try simp only [Act.put, List.setIfInBounds_toArray, List.set_cons_zero, List.set_cons_succ, List.getElem_toArray, List.getElem_cons_zero, List.getElem_cons_succ]
  refine wpAnyH_take (i := 1) (v := ?_) rfl (by kernel_rfl) (by kernel_rfl) (by kernel_rfl) (fun _ _ _ h => h) (Or.inl ⟨by rfl, ?_⟩) (by assumption) ?_
  rotate_left 1
  · (intro w0 hSw; (try dsimp only at hSw); go_simp; try with_reducible rfl)
  try simp only [Act.put, List.setIfInBounds_toArray, List.set_cons_zero, List.set_cons_succ, List.getElem_toArray, List.getElem_cons_zero, List.getElem_cons_succ]
  refine wpAnyH_take (i := 2) (v := ?_) rfl (by kernel_rfl) (by kernel_rfl) (by kernel_rfl) (fun _ _ _ h => h) (Or.inl ⟨by rfl, ?_⟩) (by assumption) ?_
  rotate_left 1
  · (intro w0 hSw; (try dsimp only at hSw); go_simp; try with_reducible rfl)
  try simp only [Act.put, List.setIfInBounds_toArray, List.set_cons_zero, List.set_cons_succ, List.getElem_toArray, List.getElem_cons_zero, List.getElem_cons_succ]
  refine wpAnyH_ready (rs := [3]) (by kernel_rfl) (by simp) (AllReadyH.cons rfl (fun K hK => ?_) AllReadyH.nil)
  go_simp
  refine HL1.out.mono ?_; rintro e w3 ⟨X, xn, xc, rfl, s1, -, -, b1'⟩; have x1 : w3.cell? ⟨b1, 0, none⟩ = some (.func (.func g1) #[] lb1) := (b1'.cell (p := ⟨b1, 0, none⟩) (World.block_lt_of_cell? _ _ p1)).trans p1; have x2 : w3.cell? ⟨b2, 0, none⟩ = some (.func (.func g2) #[] lb2) := (b1'.cell (p := ⟨b2, 0, none⟩) (World.block_lt_of_cell? _ _ p2)).trans p2; go_wp2_with fail
  refine hK.out _ _ ?_ (fun hHeld => ?_)
  · first | assumption | (dsimp only; assumption) | exact ⟨by assumption, by assumption⟩
  clear hK K
  try simp only [Act.put, List.setIfInBounds_toArray, List.set_cons_zero, List.set_cons_succ, List.getElem_toArray, List.getElem_cons_zero, List.getElem_cons_succ]
  refine wpAnyH_ready (rs := [4]) (by kernel_rfl) (by simp) (AllReadyH.cons rfl (fun K hK => ?_) AllReadyH.nil)
  go_simp
  refine (fill g2 lb2 e2 X xn xc (L1 i) L2 w3 (LU.next b1') s1 (by rw [← s1.1]; exact h60.out) HV.out hM2.out).mono ?_; rintro e w4 ⟨Y, yn, yc, rfl, oy, b2'⟩; have y1 := (b2'.cell (p := ⟨b1, 0, none⟩) (World.block_lt_of_cell? _ _ x1)).trans x1; have y2 := (b2'.cell (p := ⟨b2, 0, none⟩) (World.block_lt_of_cell? _ _ x2)).trans x2; go_wp2_with fail
  refine hK.out _ _ ?_ (fun hHeld => ?_)
  · first | assumption | (dsimp only; assumption) | exact ⟨by assumption, by assumption⟩
  clear hK K
  try simp only [Act.put, List.setIfInBounds_toArray, List.set_cons_zero, List.set_cons_succ, List.getElem_toArray, List.getElem_cons_zero, List.getElem_cons_succ]
  refine wpAnyH_take (i := 5) (v := ?_) rfl (by kernel_rfl) (by kernel_rfl) (by kernel_rfl) (fun _ _ _ h => h) (Or.inl ⟨by rfl, ?_⟩) (by assumption) ?_
  rotate_left 1
  · (intro w0 hSw; (try dsimp only at hSw); go_simp; try with_reducible rfl)
  try simp only [Act.put, List.setIfInBounds_toArray, List.set_cons_zero, List.set_cons_succ, List.getElem_toArray, List.getElem_cons_zero, List.getElem_cons_succ]
  refine wpAnyH_done (by kernel_rfl) ?_ _
  have F : AnsLook w.heap.size W (fillL L2 (L1 i)) (.returned (.slice Y yn yc)) w4 :=
    look_new (w := W) (Own.lower oy (show W.drew.heap.size ≤ w3.heap.size from b1'.size)) (next_trans ((Below.refl _ _).drew : Below W.heap.size W W.drew) (next_trans b1' b2'))
  have HF := Lib.hid F
  clear F oy s1 b1' b2' HL1 LU p1 p2 x1 x2
  go_wp2
  go_ret
  exact HF.out

/-- then: two new variables hold the look-ups -/
theorem thenC (g1 g2 : Nat) (lb1 lb2 : Array Value) (w : World) :
    Calls Try.prog 75 #[.func (.func g1) #[] lb1, .func (.func g2) #[] lb2] w fun e w' => e = .returned (.func (.func 113) #[] #[.pointer (some ⟨w.heap.size + 1, 0, none⟩), .pointer (some ⟨w.heap.size, 0, none⟩)]) ∧ w' = (w.alloc (.cells #[.func (.func g1) #[] lb1] 66)).alloc (.cells #[.func (.func g2) #[] lb2] 66) := by
  have hmf : ∀ (fn : Fn) (first cap : Array Value) (w : World), (Instr.makeFunc fn first cap).run Try.prog w = .ok (.func fn first cap) w := fun _ _ _ _ => rfl
  go_enter Try.func75, Try.ntmps75
  go_wp2
  go_ret
  exact ⟨rfl, rfl⟩
/-- the same, without the addresses -/
def AnsThen (w : World) (g1 g2 : Nat) (lb1 lb2 : Array Value) (e : Ending) (w' : World) : Prop :=
  ∃ b1 b2, e = .returned (.func (.func 113) #[] #[.pointer (some ⟨b2, 0, none⟩), .pointer (some ⟨b1, 0, none⟩)]) ∧ w.heap.size ≤ b1 ∧ w.heap.size ≤ b2 ∧ w'.cell? ⟨b1, 0, none⟩ = some (.func (.func g1) #[] lb1) ∧ w'.cell? ⟨b2, 0, none⟩ = some (.func (.func g2) #[] lb2) ∧ Below w.heap.size w w'
theorem thenB (g1 g2 : Nat) (lb1 lb2 : Array Value) (w : World) :
    Calls Try.prog 75 #[.func (.func g1) #[] lb1, .func (.func g2) #[] lb2] w (AnsThen w g1 g2 lb1 lb2) :=
  (thenC g1 g2 lb1 lb2 w).mono fun e w' ⟨h1, h2⟩ => by
    subst h2
    refine ⟨_, _, h1, Nat.le_refl _, Nat.le_succ _, ((Row.new w _ _).alloc _).cell 0, ?_, ((Below.refl _ _).alloc (Nat.le_refl _) _).alloc (by simp) _⟩
    simp
end Go.Proofs.Ytkmhnkljigncmaa.thn
end

section
/-
  A REGION THAT DRAWS ITS ORDER AND ENDS IN STORES TO CELLS THAT IT LOADS ('u.a, u.b = f(u.a), f(u.b)'): what is held of the world (S) is asked behind each operation but the late ones (the stores), and a load may be taken first where every late operation waits for it. Over any program. By an AI agent.
-/
namespace Go.Proofs.Ytkmhnkljigncmaa.heldT
section
variable {P : Program} {md : Region.Mode} {ops : Array Oper} {Q : Exit → Act → World → Prop} {S : World → Prop} {late : Nat → Bool}

/-- whatever order is picked from here on; each operation that is not late keeps S -/
def AnyT (P : Program) (md : Region.Mode) (ops : Array Oper) (Q : Exit → Act → World → Prop) (S : World → Prop) (late : Nat → Bool) : Nat → Array Bool → Act → World → Prop
  | 0, listed, a, w => Region.ready md ops listed = [] ∧ Q .normal a w
  | fuel + 1, listed, a, w => (Region.ready md ops listed = [] → Q .normal a w) ∧
    ∀ i ∈ Region.ready md ops listed, wpOp P ops Q i (fun a' w' => (late i = false → S w → S w') ∧ AnyT P md ops Q S late fuel (listed.setIfInBounds i true) a' w') a w
theorem AnyT.any : ∀ (fuel : Nat) (listed : Array Bool) (a : Act) (w : World), AnyT P md ops Q S late fuel listed a w → wpAny P md ops Q fuel listed a w
  | 0, _, _, _, h => h
  | fuel + 1, _, _, _, h => ⟨h.1, fun i hi => wpOp_mono (fun a' w' h' => AnyT.any fuel _ a' w' h'.2) (h.2 i hi)⟩

/-- every late operation that has not come up waits for number i -/
def Waits (md : Region.Mode) (ops : Array Oper) (late : Nat → Bool) (listed : Array Bool) (i : Nat) : Prop :=
  ∀ j o, ops[j]? = some o → late j = true → listed.getD j true = false → ∃ e ∈ o.after, Region.binds md e = true ∧ e.on = i
def waitsB (md : Region.Mode) (ops : Array Oper) (late : Nat → Bool) (listed : Array Bool) (i : Nat) : Bool :=
  (List.range ops.size).all fun j => !late j || listed.getD j true || ((ops[j]?).map fun o => o.after.any fun e => Region.binds md e && e.on == i).getD false
theorem waits_of {listed : Array Bool} {i : Nat} (h : waitsB md ops late listed i = true) : Waits md ops late listed i := by
  intro j o ho hl hu
  have hj : j < ops.size := by
    rcases Nat.lt_or_ge j ops.size with h' | h'
    · exact h'
    · rw [Array.getElem?_eq_none h'] at ho; cases ho
  have := List.all_eq_true.1 h j (List.mem_range.2 hj)
  rw [hl, hu, ho] at this
  simp only [Bool.not_true, Bool.false_or, Option.map_some, Option.getD_some, Array.any_eq_true', Bool.and_eq_true, beq_iff_eq] at this
  exact this
theorem AnyT.first {i : Nat} {oi : Oper} {v : Value} (hi : ops[i]? = some oi) (hsel : ∀ (j : Nat) (o : Oper) cs b, ops[j]? = some o → o.op ≠ .select cs b) (hQ : ∀ c a w, Q (.panic c) (a.put oi.dst v) w → Q (.panic c) a w) :
    ∀ (fuel : Nat) (listed : Array Bool) (a : Act) (w : World),
      (∀ j oj, ops[j]? = some oj → j ≠ i → listed.getD j true = false → (∀ e ∈ oj.after, Region.binds md e = true → e.on ≠ i) → oi.apart ops oj = true) → Waits md ops late listed i →
      i ∈ Region.ready md ops listed → YieldsIf P ops S oi v a → S w → AnyT P md ops Q S late fuel (listed.setIfInBounds i true) (a.put oi.dst v) w → AnyT P md ops Q S late (fuel + 1) listed a w := by
  intro fuel
  induction fuel with
  | zero =>
    intro listed a w _ _ hr hy hS H
    refine ⟨fun h => (by rw [h] at hr; cases hr), fun j hj => ?_⟩
    rcases Classical.em (j = i) with e | e
    · subst e; exact hy.wpOp hi hS ⟨fun _ h => h, H⟩
    · have := ready_mono hj e
      rw [H.1] at this
      cases this
  | succ fuel ih =>
    intro listed a w hfree hwait hr hy hS H
    refine ⟨fun h => (by rw [h] at hr; cases hr), fun j hj => ?_⟩
    rcases Classical.em (j = i) with e | hji
    · subst e; exact hy.wpOp hi hS ⟨fun _ h => h, H⟩
    have h1 := H.2 j (ready_mono hj hji)
    obtain ⟨hjun, oj, hoj, hall⟩ := mem_ready.1 hj
    have h0 := (mem_ready.1 hr).1
    have hnot : ∀ e ∈ oj.after, Region.binds md e = true → e.on ≠ i := fun e he hb heq => by
      have h1 := hall e he hb
      rw [heq] at h1
      rcases Nat.lt_or_ge i listed.size with h' | h'
      · simp [h'] at h0 h1; rw [h0] at h1; cases h1
      · simp [Array.getElem?_eq_none h'] at h1
    have hlj : late j = false := by
      cases e : late j with
      | false => rfl
      | true =>
        obtain ⟨x, hx, hb, ho⟩ := hwait j oj hoj e hjun
        exact absurd ho (hnot x hx hb)
    have far : ∀ {k : Nat}, j ≠ k → (listed.setIfInBounds j true).getD k true = false → listed.getD k true = false := fun hjk h => by rwa [getD_set_ne true hjk] at h
    have same : ∀ {k : Nat}, k = j → listed.getD k true = false := fun e => by rw [e]; exact hjun
    have un : ∀ (k : Nat), (listed.setIfInBounds j true).getD k true = false → listed.getD k true = false := fun k h => by
      rcases Classical.em (k = j) with e | e
      · exact same e
      · exact far (fun e' => e e'.symm) h
    have h2 := wpOp_putIf hoj (hfree j oj hoj hji hjun hnot) (fun cs b => hsel i oi cs b hi) (fun cs b => hsel j oj cs b hoj) hQ hy h1
    refine wpOp_mono (fun a' w' h3 => ⟨h3.2.1, ih (listed.setIfInBounds j true) a' w' (fun k ok hk hki hun hno => hfree k ok hk hki (un k hun) hno) (fun k o hk hl hu => hwait k o hk hl (un k hu)) (ready_mono hr (Ne.symm hji)) h3.1 (h3.2.1 hlj hS) ?_⟩) h2
    rw [Array.setIfInBounds_comm _ _ hji]
    exact h3.2.2
/-- take number i first: it yields v in every world that meets S, and every late one waits for it -/
theorem AnyT.take {i : Nat} {oi : Oper} {v : Value} {fuel : Nat} {listed : Array Bool} {a : Act} {w : World} (hi : ops[i]? = some oi) (hs : Region.noSelect ops = true) (hf : Region.free md ops listed i = true) (hw : waitsB md ops late listed i = true) (hr : (Region.ready md ops listed).contains i = true)
    (hQ : ∀ c a w, Q (.panic c) (a.put oi.dst v) w → Q (.panic c) a w) (hy : YieldsIf P ops S oi v a) (hS : S w) (h : AnyT P md ops Q S late fuel (listed.setIfInBounds i true) (a.put oi.dst v) w) : AnyT P md ops Q S late (fuel + 1) listed a w :=
  AnyT.first hi (Region.noSelect_spec hs) hQ fuel listed a w (Region.free_spec hi hf) (waits_of hw) (by simpa using hr) hy hS h
theorem AnyT.firstA {i : Nat} {oi : Oper} {v : Value} (hi : ops[i]? = some oi) (hsel : ∀ (j : Nat) (o : Oper) cs b, ops[j]? = some o → o.op ≠ .select cs b) (hQ : ∀ c a w, Q (.panic c) (a.put oi.dst v) w → Q (.panic c) a w) :
    ∀ (fuel : Nat) (listed : Array Bool) (a : Act) (w : World),
      (∀ j oj, ops[j]? = some oj → j ≠ i → listed.getD j true = false → (∀ e ∈ oj.after, Region.binds md e = true → e.on ≠ i) → oi.apart ops oj = true) →
      i ∈ Region.ready md ops listed → YieldsIf P ops (fun _ => True) oi v a → AnyT P md ops Q S late fuel (listed.setIfInBounds i true) (a.put oi.dst v) w → AnyT P md ops Q S late (fuel + 1) listed a w := by
  intro fuel
  induction fuel with
  | zero =>
    intro listed a w _ hr hy H
    refine ⟨fun h => (by rw [h] at hr; cases hr), fun j hj => ?_⟩
    rcases Classical.em (j = i) with e | e
    · subst e; exact hy.wpOp hi trivial ⟨fun _ h => h, H⟩
    · have := ready_mono hj e
      rw [H.1] at this
      cases this
  | succ fuel ih =>
    intro listed a w hfree hr hy H
    refine ⟨fun h => (by rw [h] at hr; cases hr), fun j hj => ?_⟩
    rcases Classical.em (j = i) with e | hji
    · subst e; exact hy.wpOp hi trivial ⟨fun _ h => h, H⟩
    have h1 := H.2 j (ready_mono hj hji)
    obtain ⟨hjun, oj, hoj, hall⟩ := mem_ready.1 hj
    have h0 := (mem_ready.1 hr).1
    have hnot : ∀ e ∈ oj.after, Region.binds md e = true → e.on ≠ i := fun e he hb heq => by
      have h1 := hall e he hb
      rw [heq] at h1
      rcases Nat.lt_or_ge i listed.size with h' | h'
      · simp [h'] at h0 h1; rw [h0] at h1; cases h1
      · simp [Array.getElem?_eq_none h'] at h1
    have un : ∀ (k : Nat), (listed.setIfInBounds j true).getD k true = false → listed.getD k true = false := fun k h => by
      rcases Classical.em (k = j) with e | e
      · rw [e]; exact hjun
      · rwa [getD_set_ne true (fun e' => e e'.symm)] at h
    have h2 := wpOp_putIf hoj (hfree j oj hoj hji hjun hnot) (fun cs b => hsel i oi cs b hi) (fun cs b => hsel j oj cs b hoj) hQ hy h1
    refine wpOp_mono (fun a' w' h3 => ⟨h3.2.1, ih (listed.setIfInBounds j true) a' w' (fun k ok hk hki hun hno => hfree k ok hk hki (un k hun) hno) (ready_mono hr (Ne.symm hji)) h3.1 ?_⟩) h2
    rw [Array.setIfInBounds_comm _ _ hji]
    exact h3.2.2
/-- take number i first: it yields v in whatever world -/
theorem AnyT.takeA {i : Nat} {oi : Oper} {v : Value} {fuel : Nat} {listed : Array Bool} {a : Act} {w : World} (hi : ops[i]? = some oi) (hs : Region.noSelect ops = true) (hf : Region.free md ops listed i = true) (hr : (Region.ready md ops listed).contains i = true)
    (hQ : ∀ c a w, Q (.panic c) (a.put oi.dst v) w → Q (.panic c) a w) (hy : YieldsIf P ops (fun _ => True) oi v a) (h : AnyT P md ops Q S late fuel (listed.setIfInBounds i true) (a.put oi.dst v) w) : AnyT P md ops Q S late (fuel + 1) listed a w :=
  AnyT.firstA hi (Region.noSelect_spec hs) hQ fuel listed a w (Region.free_spec hi hf) (by simpa using hr) hy h
/-- number i alone may come up: the way back is hidden behind K' -/
theorem AnyT.call {i : Nat} {o : Oper} {fuel : Nat} {listed : Array Bool} {a : Act} {w : World} (hr : Region.ready md ops listed = [i]) (ho : ops[i]? = some o)
    (h : ∀ K' : Act → World → Prop, Shut (∀ a w', (late i = false → S w → S w') → ((late i = false → S w → S w') → AnyT P md ops Q S late fuel (listed.setIfInBounds i true) a w') → K' a w') → if Region.wanted o (yielded ops a.tmps) = true then Oper.wp P o a w K' Q else K' (a.put o.dst undef) w) : AnyT P md ops Q S late (fuel + 1) listed a w :=
  ⟨fun h0 => absurd (hr ▸ h0) (by simp), fun j hj => by
    rw [hr, List.mem_singleton] at hj
    subst hj
    exact wpOp_step ho (fun K' hK => h K' (fun a w' hS hW => hK a w' ⟨hS, hW hS⟩))⟩
theorem AnyT.done {listed : Array Bool} {a : Act} {w : World} (hr : Region.ready md ops listed = []) (h : Q .normal a w) : ∀ fuel, AnyT P md ops Q S late fuel listed a w
  | 0 => ⟨hr, h⟩
  | _ + 1 => ⟨fun _ => h, by rw [hr]; simp⟩
theorem AnyT.start {id : Nat} {a : Act} {w : World} (late : Nat → Bool) (hm : P.follows .mixedOrders = true) (hS : S w.drew) (h : S w.drew → AnyT P .any ops Q S late ops.size (Array.replicate ops.size false) a w.drew) : (Code.region id ops true).wp P Q a w :=
  wp_region_any hm (AnyT.any _ _ _ _ (h hS))
end
end Go.Proofs.Ytkmhnkljigncmaa.heldT
end
