/-
  CONTRACTS: spec.l1Args, spec.ArgsAt, impl.ArgsAt. Conditions: the slices read as lists ('Seg'), at most 1048576 numbers. By an AI agent.
-/
import Derived.Test.YtadajlchoongcaaEndOf
import Derived.Test.YtadajlchoongcaaSym
namespace Go.Proofs.Ytadajlchoongcaa.args
open Go.RowKit Go.Proofs.Ytadajlchoongcaa.base Go.Proofs.Ytadajlchoongcaa.ints Go.Proofs.Ytadajlchoongcaa.sig Go.Proofs.Ytadajlchoongcaa.term Go.Proofs.Ytadajlchoongcaa.arity Go.Proofs.Ytadajlchoongcaa.endOf Go.Proofs.Ytadajlchoongcaa.cursor Go.Proofs.Ytadajlchoongcaa.termOk Go.Proofs.Ytadajlchoongcaa.endAt Go.Proofs.Ytadajlchoongcaa.marks Go.Proofs.Ytadajlchoongcaa.app Go.Proofs.Ytadajlchoongcaa.sym

/-- the places of the arguments of what begins at a place -/
def argsL (sg t : List Int) (a : Nat) : List Int := places sg t (ar sg (t.getD a 0)).toNat (a + 1)
def argsI (sg t : List Int) (x : Int) : List Int := if thereB sg t x = true then argsL sg t x.toNat else []

/-- so many terms from place p on are still to come; ys is what has been collected of L -/
def Coll (sg t : List Int) (m : Nat) (L ys : List Int) (q p : Nat) : Prop := ys ++ places sg t q p = L ∧ ∃ i, scan sg q (t.drop p) = some i ∧ p + i ≤ m
theorem Coll.first {sg t : List Int} {m : Nat} {L ys : List Int} {q p : Nat} (h : Coll sg t m L ys (q + 1) p) : ∃ j, scan sg 1 (t.drop p) = some j ∧ p + j ≤ m ∧ p < t.length ∧ Coll sg t m L (ys ++ [(p : Int)]) q (p + j) := by
  obtain ⟨h1, i, h2, h3⟩ := h
  obtain ⟨j, e1, e2, e3, e4⟩ := scan_first h2
  have e5 := scan_le h2
  refine ⟨j, e1, by omega, ?_, ?_, i - j, e4, by omega⟩
  · simp only [List.length_drop] at e5; omega
  · rw [← h1, List.append_assoc]
    congr 1
    simp only [places, len1_eq e1, List.singleton_append]
theorem Coll.done {sg t : List Int} {m : Nat} {L ys : List Int} {p : Nat} (h : Coll sg t m L ys 0 p) : ys = L := by
  have := h.1
  simpa [places] using this
theorem Coll.len {sg t : List Int} {m : Nat} {L ys : List Int} {q p : Nat} (h : Coll sg t m L ys q p) : ys.length ≤ L.length := by
  rw [← h.1]; simp
theorem Coll.start {sg t : List Int} {m a j : Nat} (hm : t.length = m) (h : scan sg 1 (t.drop a) = some j) (hj : a + j ≤ m) : ¬ ar sg (t.getD a 0) < 0 ∧ Coll sg t m (argsL sg t a) [] (ar sg (t.getD a 0)).toNat (a + 1) := by
  obtain ⟨i, rfl, _, h2, h3⟩ := scan_args h
  exact ⟨h2, rfl, i, h3, by omega⟩
theorem argsL_len {sg t : List Int} (hs : Arities sg) (a : Nat) : (argsL sg t a).length ≤ 3 := by
  unfold argsL
  rw [places_len]
  have := ar_bd hs (t.getD a 0)
  omega

def HeadArgs (w : World) (A : Option Addr) (n c m : Nat) (sg t : List Int) (L : List Int) (out p k : Value) (wr : World) : Prop :=
  ∃ (q pp : Nat) (O : Option Addr) (on oc : Nat) (ys : List Int), k = .int .i64 q ∧ p = .int .i64 pp ∧ out = .slice O on oc ∧ Own wr (w.heap.size + 1) (.slice O on oc) ys ∧ Coll sg t m L ys q pp ∧ q ≤ 3 ∧ Row wr w.heap.size 26 #[.slice A n c] ∧ Below w.heap.size w wr

set_option maxHeartbeats 1000000 in
theorem l1Args (A A' : Option Addr) (n c m c' : Nat) (sg t : List Int) (a j : Nat) (w : World) (h : Seg w w.heap.size A n sg) (h' : Seg w w.heap.size A' m t) (hn : n ≤ 1048576) (hm : m ≤ 1048576)
    (hs : Arities sg) (ha : a < m) (hj : scan sg 1 (t.drop a) = some j) (hj2 : a + j ≤ m) :
    Calls Try.prog 67 #[.agg #[.slice A n c], .slice A' m c', .int .i64 (a : Int)] w (AnsList w (argsL sg t a)) := by
  have HL := Lib.hid h'.1
  obtain ⟨hneg, hcoll⟩ := Coll.start HL.out hj hj2
  have h3 := argsL_len (t := t) hs a
  obtain ⟨b, off, x, rfl, hbb, hx, ex⟩ := h'.spot ha
  rw [ex.out] at hneg hcoll
  have hzb := ar_bd hs x
  obtain ⟨z, hz⟩ : ∃ z, ar sg x = z := ⟨_, rfl⟩
  rw [hz] at hneg hcoll hzb
  obtain ⟨T, rfl⟩ := Int.eq_ofNat_of_zero_le (show 0 ≤ z by omega)
  rw [Int.toNat_natCast] at hcoll
  have HZ := Lib.hid hz
  obtain ⟨L, hL⟩ : ∃ L, argsL sg t a = L := ⟨_, rfl⟩
  rw [hL] at hcoll h3 ⊢
  obtain ⟨W, hW⟩ : ∃ W, W = (w.alloc (.cells #[.slice A n c] 26)).alloc (.cells #[] 2) := ⟨_, rfl⟩
  have rA : Row W w.heap.size 26 #[.slice A n c] := by rw [hW]; exact (Row.new _ _ _).alloc _
  have bel : Below w.heap.size w W := by rw [hW]; exact ((Below.refl _ _).alloc (Nat.le_refl _) _).alloc (by simp) _
  have ow : Own W (w.heap.size + 1) (.slice (some ⟨w.heap.size + 1, 0, none⟩) 0 0) [] := by
    rw [hW]
    have := own_empty (w.alloc (.cells #[.slice A n c] 26)) (w.heap.size + 1) (by simp)
    simpa using this
  have s : Seg W.drew W.heap.size A n sg := ((h.below bel).more bel.size).drew
  have hx1 : W.cell? ⟨b, off + a, none⟩ = some (.int .i64 x) := (bel.cell (p := ⟨b, off + a, none⟩) hbb).trans hx
  have cA : W.cell? ⟨w.heap.size, 0, none⟩ = some (.slice A n c) := rA.cell 0
  have i0 : (0 : Int) ≤ (a : Int) := by omega
  have i1 : (a : Int) < (m : Int) := by omega
  have HW := Lib.hid hW
  have HS0 := Lib.hid hs
  clear hW hx hL hz hj ex hs
  go_enter Try.func67, Try.ntmps67
  go_wp2_with fail
  rw [← HW.out]
  replace rA := rA.drew
  replace bel := bel.drew
  replace ow := Own.drew ow
  go_region_held3 (fun w' => w'.cell? ⟨w.heap.size, 0, none⟩ = some (.slice A n c) ∧ w'.cell? ⟨b, off + a, none⟩ = some (.int .i64 x))
    (go_keep)
    (first
      | (go_at_call 75; refine (specArity _ _ _ sg x _ s hn).mono ?_; rintro e w2 ⟨he, bb⟩; rw [HZ.out] at he; subst he; replace cA : w2.cell? ⟨w.heap.size, 0, none⟩ = some (.slice A n c) := (rA.next bb).cell 0; have cx' : w2.cell? ⟨b, off + a, none⟩ = some (.int .i64 x) := (bb.cell (p := ⟨b, off + a, none⟩) (Nat.lt_trans hbb rA.lt)).trans hx1))
  have S0 : HeadArgs w A n c m sg t L (.slice (some ⟨w.heap.size + 1, 0, none⟩) 0 0) (.int .i64 ((a + 1 : Nat) : Int)) (.int .i64 (T : Int)) w2 :=
    ⟨T, a + 1, _, _, _, [], rfl, rfl, rfl, Own.next ow bb, hcoll, by omega, rA.next bb, bel.trans (bb.mono (Nat.le_of_lt rA.lt))⟩
  have HS := Lib.hid S0
  clear S0 bb rA bel ow s hx1 cA cx' hcoll
  go_wp2_with fail
  go_loopw [7, 8, 9] (fun out p k wr => HeadArgs w A n c m sg t L out p k wr) (fun _ _ k _ => (intOf k).toNat)
  case atStart => simpa using HS.out
  case round =>
    obtain ⟨q, pp, O, on, oc, ys, rfl, rfl, rfl, ho, hc, hq, hr, hb⟩ := hrel
    clear HS
    have hon : on ≤ 3 := by have := Own.len ho; have := hc.len; omega
    cases q with
    | zero =>
      have F : AnsList w L (.returned (.slice O on oc)) wr := ⟨O, on, oc, rfl, by rw [← hc.done]; exact Own.lower ho (Nat.le_succ _), hb⟩
      have HF := Lib.hid F
      clear F ho hc hr hb h h'
      go_wp2
      go_ret
      exact HF.out
    | succ q =>
      obtain ⟨jj, hj, hj2', hlt, hc'⟩ := hc.first
      have HE := Lib.hid (endI_some hj)
      have hsz := hr.lt
      have e0 : (0 : Int) < ((q + 1 : Nat) : Int) := by omega
      have hpp : pp ≤ 1048576 := by omega
      clear hc hj
      go_wp2_with (at_builtin; refine app1 rfl _ _ rfl (w.heap.size + 1) O on oc ys rfl (Own.alloc ho _) wr.heap.size 1 (pp : Int) rfl ((Row.new _ _ _).cell 0) (by omega) (by simp; omega) ?_; intro O' oc' w2 ho2 b2; have r2 : Row w2 w.heap.size 26 #[.slice A n c] := (hr.alloc _).below b2 (Nat.lt_succ_self _); have bel2 : Below w.heap.size w w2 := (hb.alloc (Nat.le_of_lt hsz) _).trans (b2.mono (Nat.le_succ _)); have cA2 : w2.cell? ⟨w.heap.size, 0, none⟩ = some (.slice A n c) := r2.cell 0)
      have s2 : Seg w2 w2.heap.size A n sg := (h.below bel2).more bel2.size
      have s2' : Seg w2 w2.heap.size (some ⟨b, off, none⟩) m t := (h'.below bel2).more bel2.size
      clear ho b2 hr hb
      refine (specEnd A _ n c m c' sg t (pp : Int) _ s2 s2' hn hm HS0.out (by omega) (by omega)).mono ?_
      rintro e w3 ⟨he, bb⟩
      rw [Int.toNat_natCast, HE.out] at he
      subst he
      have S : HeadArgs w A n c m sg t L (.slice O' (on + 1) oc') (.int .i64 ((pp : Int) + jj)) (.int .i64 (q : Int)) w3 :=
        ⟨q, pp + jj, O', on + 1, oc', _, rfl, by simp, rfl, Own.next ho2 bb, hc', by omega, r2.next bb, next_trans bel2 bb⟩
      have HSS := Lib.hid S
      clear S bb ho2 r2 bel2 cA2 s2 s2' hc'
      go_wp2
      go_roundw
      case rel => first | exact HSS.out | simpa using HSS.out
      case measure => simp [intOf]

theorem args_no {w w' : World} {sg t : List Int} {x : Int} {A : Option Addr} {c : Nat} (h : thereB sg t x = false) (ho : Own w' w.heap.size (.slice A 0 c) []) (hb : Below w.heap.size w w') : AnsList w (argsI sg t x) (.returned (.slice A 0 c)) w' :=
  ⟨A, 0, c, rfl, by unfold argsI; rw [if_neg (by rw [h]; simp)]; exact ho, hb⟩

set_option maxHeartbeats 1000000 in
theorem specArgsAt (A A' : Option Addr) (n c m c' : Nat) (sg t : List Int) (x : Int) (w : World) (h : Seg w w.heap.size A n sg) (h' : Seg w w.heap.size A' m t) (hn : n ≤ 1048576) (hm : m ≤ 1048576) (_ : -9223372036854775808 ≤ x) (_ : x ≤ 9223372036854775807) :
    Calls Try.prog 45 #[.agg #[.slice A n c], .slice A' m c', .int .i64 x] w (AnsList w (argsI sg t x)) := by
  obtain ⟨W, hW⟩ : ∃ W, W = w.alloc (.cells #[.slice A n c] 26) := ⟨_, rfl⟩
  have rA : Row W w.heap.size 26 #[.slice A n c] := by rw [hW]; exact Row.new _ _ _
  have bel : Below w.heap.size w W := by rw [hW]; exact (Below.refl _ _).alloc (Nat.le_refl _) _
  replace h := (h.below bel).more bel.size
  replace h' := (h'.below bel).more bel.size
  have HW := Lib.hid hW
  have HL := Lib.hid h'.1
  clear hW
  have L := Lib.hid (specTermOk A A' n c m c' sg t W h h' hn hm)
  cases hok : termOkB sg t with
  | false =>
    have HS := Lib.hid hok
    clear hok h h'
    go_enter Try.func45, Try.ntmps45
    go_wp2_with fail
    rw [← HW.out]
    refine L.out.mono ?_
    rintro e w1 ⟨he, bb⟩
    rw [HS.out] at he
    subst he
    replace bel := next_trans bel bb
    have F := Lib.hid (args_no (x := x) (there_no (.inl HS.out)) (own_empty w1 w.heap.size bel.size) (bel.alloc bel.size _))
    clear bb bel rA
    go_wp2
    go_ret
    exact F.out
  | true =>
    have HS := Lib.hid hok
    clear hok
    by_cases hin : 0 ≤ x ∧ x < (m : Int)
    · have hd : decide (0 ≤ x ∧ x < (m : Int)) = true := by simp [hin]
      have HD := Lib.hid hd
      clear hd
      have hars := (sig_arities (termOk_parts HS.out).1).1
      have HT := Lib.hid (there_yes HS.out hin.1 (by rw [HL.out]; exact hin.2))
      obtain ⟨a, rfl⟩ := Int.eq_ofNat_of_zero_le hin.1
      have ham : a < m := by omega
      obtain ⟨j, hj, hj1, hj2⟩ := scan_at (termOk_parts HS.out).2.2 (a := a) (by rw [HL.out]; exact ham)
      have HJ := Lib.hid hj
      replace hj2 : a + j ≤ m := by rw [HL.out] at hj2; exact hj2
      clear hj
      go_enter Try.func45, Try.ntmps45
      go_wp2_with fail
      rw [← HW.out]
      refine L.out.mono ?_
      rintro e w1 ⟨he, bb⟩
      rw [HS.out] at he
      subst he
      replace h := h.next bb
      replace h' := h'.next bb
      replace rA := rA.next bb
      replace bel := next_trans bel bb
      have cA : w1.cell? ⟨w.heap.size, 0, none⟩ = some (.slice A n c) := rA.cell 0
      clear bb
      go_wp2_with fail
      refine (there _ _ _ (a : Int) true _ hm HD.out).mono ?_
      rintro e w2 ⟨rfl, rfl⟩
      go_wp2_with fail
      refine (l1Args A A' n c m c' sg t a j _ h h' hn hm hars ham HJ.out hj2).mono ?_
      rintro e w2 ⟨A2, n2, c2, rfl, o2, bb⟩
      have F : AnsList w (argsI sg t (a : Int)) (.returned (.slice A2 n2 c2)) w2 := ⟨A2, n2, c2, rfl, by unfold argsI; rw [if_pos HT.out, Int.toNat_natCast]; exact Own.lower o2 bel.size, next_trans bel bb⟩
      have HF := Lib.hid F
      clear F o2 bb bel rA cA h h' hars HT
      go_wp2
      go_ret
      exact HF.out
    · have hd : decide (0 ≤ x ∧ x < (m : Int)) = false := by simp; omega
      have HD := Lib.hid hd
      have HT := Lib.hid (there_no (sg := sg) (t := t) (x := x) (by rw [HL.out]; omega))
      clear hd hin
      go_enter Try.func45, Try.ntmps45
      go_wp2_with fail
      rw [← HW.out]
      refine L.out.mono ?_
      rintro e w1 ⟨he, bb⟩
      rw [HS.out] at he
      subst he
      replace bel := next_trans bel bb
      have F := Lib.hid (args_no HT.out (own_empty w1 w.heap.size bel.size) (bel.alloc bel.size _))
      clear bb bel rA h h'
      go_wp2_with fail
      refine (there _ _ _ x false _ hm HD.out).mono ?_
      rintro e w2 ⟨rfl, rfl⟩
      go_wp2
      go_ret
      exact F.out

theorem Cur.keep {w w' : World} {p : Nat} {A : Option Addr} {n c : Nat} {A' : Option Addr} {m c' : Nat} {sg t : List Int} {k : Nat} (h : Cur w p A n c A' m c' sg t k) (hb : Below (p + 1) w w') : Cur w' p A n c A' m c' sg t k :=
  ⟨h.row.below hb (Nat.lt_succ_self _), h.s.below (hb.mono (Nat.le_succ _)), h.s'.below (hb.mono (Nat.le_succ _)), h.le, h.hn, h.hm, h.ars⟩
theorem Cur.alloc {w : World} {p : Nat} {A : Option Addr} {n c : Nat} {A' : Option Addr} {m c' : Nat} {sg t : List Int} {k : Nat} (h : Cur w p A n c A' m c' sg t k) (o : Obj) : Cur (w.alloc o) p A n c A' m c' sg t k :=
  h.below ((Below.refl _ _).alloc (Nat.le_refl _) _)

def HeadImpl (w : World) (p : Nat) (A : Option Addr) (n c : Nat) (A' : Option Addr) (m c' : Nat) (sg t : List Int) (T : Nat) (L : List Int) (out i : Value) (wr : World) : Prop :=
  ∃ (k q pp : Nat) (O : Option Addr) (on oc : Nat) (ys : List Int), i = .int .i64 k ∧ k + q = T ∧ out = .slice O on oc ∧ Own wr (p + 1) (.slice O on oc) ys ∧ Coll sg t m L ys q pp ∧ Cur wr p A n c A' m c' sg t pp ∧ Below w.heap.size w wr

set_option maxHeartbeats 2000000 in
theorem implArgsAt (A A' : Option Addr) (n c m c' : Nat) (sg t : List Int) (x : Int) (w : World) (h : Seg w w.heap.size A n sg) (h' : Seg w w.heap.size A' m t) (hn : n ≤ 1048576) (hm : m ≤ 1048576) (_ : -9223372036854775808 ≤ x) (_ : x ≤ 9223372036854775807) :
    Calls Try.prog 24 #[.agg #[.slice A n c], .slice A' m c', .int .i64 x] w (AnsList w (argsI sg t x)) := by
  obtain ⟨W, hW⟩ : ∃ W, W = w.alloc (.cells #[.slice A n c] 26) := ⟨_, rfl⟩
  have bel : Below w.heap.size w W := by rw [hW]; exact (Below.refl _ _).alloc (Nat.le_refl _) _
  have zW : w.heap.size < W.heap.size := by rw [hW]; simp
  replace h := (h.below bel).more bel.size
  replace h' := (h'.below bel).more bel.size
  have HW := Lib.hid hW
  have HL := Lib.hid h'.1
  clear hW
  have L := Lib.hid (cursorAt A A' n c m c' sg t x W h h' hn hm)
  clear h h'
  go_enter Try.func24, Try.ntmps24
  go_wp2_with fail
  rw [← HW.out]
  refine L.out.mono ?_
  rintro e w1 ⟨bb, ⟨ht, p, rfl, hp, hc⟩ | ⟨ht, rfl⟩⟩
  · replace bel := next_trans bel bb
    have HT := Lib.hid ht
    clear ht bb L
    obtain ⟨hok, h0, h1⟩ := there_parts HT.out
    have ht := (termOk_parts hok).2.2
    have hars := hc.ars
    obtain ⟨a, rfl⟩ := Int.eq_ofNat_of_zero_le h0
    rw [Int.toNat_natCast] at hc
    have ham : a < m := by rw [HL.out] at h1; omega
    obtain ⟨j, hj, hj1, hj2⟩ := scan_at ht (a := a) (by rw [HL.out]; exact ham)
    rw [HL.out] at hj2
    obtain ⟨hneg, hcoll⟩ := Coll.start HL.out hj hj2
    have h3 := argsL_len (t := t) hars a
    have hzb := ar_bd hars (t.getD a 0)
    obtain ⟨z, hz⟩ : ∃ z, ar sg (t.getD a 0) = z := ⟨_, rfl⟩
    rw [hz] at hneg hcoll hzb
    obtain ⟨T, rfl⟩ := Int.eq_ofNat_of_zero_le (show 0 ≤ z by omega)
    rw [Int.toNat_natCast] at hcoll
    have HZ := Lib.hid hz
    obtain ⟨L, hLL⟩ : ∃ L, argsL sg t a = L := ⟨_, rfl⟩
    rw [hLL] at hcoll h3
    have HF0 := Lib.hid (show argsI sg t (a : Int) = L by unfold argsI; rw [if_pos HT.out, Int.toNat_natCast, hLL])
    clear hj ht hok h1 hz hLL hars
    go_wp2_with fail
    refine (next p A n c A' m c' sg t a _ hc).mono ?_
    rintro e w2 ⟨hg, ⟨-, he, hc2⟩ | ⟨hk', -, -⟩⟩
    · rw [HZ.out] at he
      subst he
      have b2 : Below w.heap.size w w2 := bel.grown hg bel.size (fun k hk => by injection hk; omega)
      have S0 : HeadImpl w p A n c A' m c' sg t T L (.slice none 0 0) (.int .i64 0) w2 := ⟨0, T, a + 1, none, 0, 0, [], rfl, by omega, rfl, Own.nil _ _, hcoll, hc2, b2⟩
      have HS := Lib.hid S0
      clear S0 hc2 hg hc bel hcoll b2
      go_wp2_with fail
      go_loopw [8, 17] (fun out i wr => HeadImpl w p A n c A' m c' sg t T L out i wr) (fun _ i _ => T - (intOf i).toNat)
      case atStart => exact HS.out
      case round =>
        obtain ⟨k, q, pp, O, on, oc, ys, rfl, hkq, rfl, ho, hcl, hcu, hb⟩ := hrel
        clear HS
        have hon : on ≤ 3 := by have := Own.len ho; have := hcl.len; omega
        cases q with
        | zero =>
          have F : AnsList w (argsI sg t (a : Int)) (.returned (.slice O on oc)) wr := ⟨O, on, oc, rfl, by rw [HF0.out, ← hcl.done]; exact Own.lower ho (by omega), hb⟩
          have HF := Lib.hid F
          have hkT : k = T := by omega
          subst hkT
          clear F ho hcl hcu hb
          go_wp2
          go_ret
          exact HF.out
        | succ q =>
          obtain ⟨jj, hj, hj2', hlt, hc'⟩ := hcl.first
          have HJ := Lib.hid hj
          have hkT : k < T := by omega
          have HKQ := Lib.hid hkq
          have cp : wr.cell? ⟨p, 2, none⟩ = some (.int .i64 (pp : Int)) := hcu.row.cell 2
          have hsz := hcu.row.lt
          clear hcl hj hkq
          go_wp2_with (at_builtin; refine app1 rfl _ _ rfl (p + 1) O on oc ys rfl (Own.alloc ho _) wr.heap.size 1 (pp : Int) rfl ((Row.new _ _ _).cell 0) (by omega) (by simp; omega) ?_; intro O' oc' w3 ho3 b3)
          have cu3 : Cur w3 p A n c A' m c' sg t pp := Cur.keep (Cur.alloc hcu _) b3
          have bel3 : Below w.heap.size w w3 := (hb.alloc hb.size _).trans (b3.mono (by omega))
          clear ho b3 hb hcu cp
          go_wp2_with fail
          refine (pass p A n c A' m c' sg t pp _ cu3).mono ?_
          rintro e w4 ⟨hg4, ⟨j', hj', rfl, hc4⟩ | ⟨hj', -, -⟩⟩
          · obtain rfl : jj = j' := by rw [HJ.out] at hj'; injection hj'
            have S : HeadImpl w p A n c A' m c' sg t T L (.slice O' (on + 1) oc') (.int .i64 ((k : Int) + 1)) w4 :=
              ⟨k + 1, q, pp + jj, O', on + 1, oc', _, by simp, by have := HKQ.out; omega, rfl, Own.far ho3 hg4 (fun g hgg => by injection hgg; omega), hc', hc4, bel3.grown hg4 bel3.size (fun g hgg => by injection hgg; omega)⟩
            have HSS := Lib.hid S
            clear S ho3 hg4 hc4 cu3 bel3 hc' hj'
            go_wp2
            go_roundw
            case rel => exact HSS.out
            case measure => simp [intOf]; omega
          · rw [HJ.out] at hj'
            cases hj'
    · omega
  · have F := Lib.hid (args_no ht (Own.nil w1 w.heap.size) (next_trans bel bb))
    clear bb bel ht L
    go_wp2
    go_ret
    exact F.out
theorem argsI_len {sg t : List Int} {x : Int} : (argsI sg t x).length ≤ 1048576 := by
  unfold argsI
  split
  · rename_i h
    have := argsL_len (t := t) (sig_arities (termOk_parts (there_parts h).1).1).1 x.toNat
    omega
  · simp
end Go.Proofs.Ytadajlchoongcaa.args
