/-
  CONTRACTS: spec.l1Copy, slices.Clone at []int64, spec.l1Sub, spec.SubAt, impl.SubAt. Conditions: the slices read as lists ('Seg'), at most 1048576 numbers, a length is at most the capacity. By an AI agent.
-/
import Derived.Test.YtadajlchoongcaaEndOf
import Derived.Test.YtadajlchoongcaaSym
import Derived.WalkSpells
namespace Go.Proofs.Ytadajlchoongcaa.sub
open Go.RowKit Go.Proofs.Ytadajlchoongcaa.base Go.Proofs.Ytadajlchoongcaa.ints Go.Proofs.Ytadajlchoongcaa.sig Go.Proofs.Ytadajlchoongcaa.term Go.Proofs.Ytadajlchoongcaa.arity Go.Proofs.Ytadajlchoongcaa.endOf Go.Proofs.Ytadajlchoongcaa.cursor Go.Proofs.Ytadajlchoongcaa.termOk Go.Proofs.Ytadajlchoongcaa.endAt Go.Proofs.Ytadajlchoongcaa.marks Go.Proofs.Ytadajlchoongcaa.app Go.Proofs.Ytadajlchoongcaa.sym

theorem Seg.cut {w : World} {B b off m a j : Nat} {t : List Int} (h : Seg w B (some ⟨b, off, none⟩) m t) (hj : a + j ≤ m) : Seg w B (some ⟨b, off + a, none⟩) j ((t.drop a).take j) := by
  refine ⟨by have := h.1; simp; omega, fun hn => ?_⟩
  obtain ⟨b', off', e, hb, hc⟩ := h.2 (by omega)
  injection e with e
  injection e with e1 e2
  subst e1 e2
  refine ⟨_, _, rfl, hb, fun q hq => ?_⟩
  rw [Nat.add_assoc, hc (a + q) (by omega)]
  simp [List.getD, List.getElem?_take, hq]

set_option maxHeartbeats 400000 in
theorem copyInts (S : Option Addr) (m c : Nat) (ys : List Int) (w : World) (h : Seg w w.heap.size S m ys) (hnone : S = none → c = 0) (hm : m ≤ 1048576) :
    Calls Try.prog 77 #[.slice S m c] w (AnsList w ys) := by
  have ho := own_empty w w.heap.size (Nat.le_refl _)
  have bb : Below w.heap.size w (w.alloc (.cells #[] 2)) := (Below.refl _ _).alloc (Nat.le_refl _) _
  have hs := h.alloc (Nat.le_refl _) (.cells #[] 2)
  have HN := Lib.hid hnone
  clear hnone h
  go_enter Try.func77, Try.ntmps77
  go_wp2_with (at_builtin; refine appAll rfl _ _ rfl w.heap.size (some ⟨w.heap.size, 0, none⟩) 0 0 [] rfl ho S m c w.heap.size ys rfl hs HN.out (by omega) (by omega) (by simp) ?_; intro A' c' w' ho' b')
  simp only [Nat.zero_add, List.nil_append] at ho'
  have F : AnsList w ys (.returned (.slice A' m c')) w' := ⟨A', m, c', rfl, ho', bb.trans b'⟩
  have HF := Lib.hid F
  clear F ho' b' bb hs ho
  go_wp2
  go_ret
  exact HF.out

set_option maxHeartbeats 400000 in
theorem cloneInts (b off m c : Nat) (ys : List Int) (w : World) (h : Seg w w.heap.size (some ⟨b, off, none⟩) m ys) (hm : m ≤ 1048576) :
    Calls Try.prog 60 #[.slice (some ⟨b, off, none⟩) m c] w (AnsList w ys) := by
  have ho := own_empty w w.heap.size (Nat.le_refl _)
  have bb : Below w.heap.size w (w.alloc (.cells #[] 2)) := (Below.refl _ _).alloc (Nat.le_refl _) _
  have hs := h.alloc (Nat.le_refl _) (.cells #[] 2)
  clear h
  have hnil : ∀ (w : World) (a : Option Addr) (n c n' c' : Nat), (binOp .eql 24 (.slice a n c) (.slice none n' c')).run Try.prog w = .ok (.bool a.isNone) w := fun w a n c n' c' => Lib.run_eql_slice_nil w _ _ a n c n' c' Try.underlying24
  go_enter Try.func60, Try.ntmps60
  go_wp2_with (at_builtin; refine appAll rfl _ _ rfl w.heap.size (some ⟨w.heap.size, 0, none⟩) 0 0 [] rfl ho (some ⟨b, off, none⟩) m c w.heap.size ys rfl hs (fun e => by cases e) (by omega) (by omega) (by simp) ?_; intro A' c' w' ho' b')
  simp only [Nat.zero_add, List.nil_append] at ho'
  have F : AnsList w ys (.returned (.slice A' m c')) w' := ⟨A', m, c', rfl, ho', bb.trans b'⟩
  have HF := Lib.hid F
  clear F ho' b' bb hs ho hnil
  go_wp2
  go_ret
  exact HF.out

def subL (sg t : List Int) (a : Nat) : List Int := (t.drop a).take (len1 sg t a)
def subI (sg t : List Int) (x : Int) : List Int := if thereB sg t x = true then subL sg t x.toNat else []

set_option maxHeartbeats 1000000 in
theorem l1Sub (A A' : Option Addr) (n c m c' : Nat) (sg t : List Int) (a j : Nat) (w : World) (h : Seg w w.heap.size A n sg) (h' : Seg w w.heap.size A' m t) (hn : n ≤ 1048576) (hm : m ≤ 1048576) (hc' : m ≤ c') (hc2 : c' ≤ 9223372036854775807)
    (hs : Arities sg) (ha : a < m) (hj : scan sg 1 (t.drop a) = some j) (hj1 : 1 ≤ j) (hj2 : a + j ≤ m) :
    Calls Try.prog 66 #[.agg #[.slice A n c], .slice A' m c', .int .i64 (a : Int)] w (AnsList w (subL sg t a)) := by
  obtain ⟨b, off, x, rfl, -, -, -⟩ := h'.spot ha
  obtain ⟨W, hW⟩ : ∃ W, W = w.alloc (.cells #[.slice A n c] 26) := ⟨_, rfl⟩
  have bel : Below w.heap.size w W := by rw [hW]; exact (Below.refl _ _).alloc (Nat.le_refl _) _
  have zW : w.heap.size < W.heap.size := by rw [hW]; simp
  replace h := (h.below bel).more bel.size
  replace h' := (h'.below bel).more bel.size
  have HW := Lib.hid hW
  clear hW
  have L := Lib.hid (specEnd A _ n c m c' sg t (a : Int) W h h' hn hm hs (by omega) (by omega))
  have HE := Lib.hid (endI_some hj)
  have HL := Lib.hid (len1_eq hj)
  have hcut := Seg.cut (a := a) (j := j) h' hj2
  clear h h' hj hs
  have i0 : (0 : Int) ≤ (a : Int) := by omega
  have i1 : (a : Int) ≤ (a : Int) + (j : Int) := by omega
  have i2 : (a : Int) + (j : Int) ≤ (c' : Int) := by omega
  have i3 : ¬ c' = a := by omega
  go_enter Try.func66, Try.ntmps66
  go_wp2_with fail
  rw [← HW.out]
  refine L.out.mono ?_
  rintro e w1 ⟨he, bb⟩
  rw [Int.toNat_natCast, HE.out] at he
  subst he
  replace hcut := hcut.next bb
  replace bel := next_trans bel bb
  clear bb L
  go_wp2_with fail
  refine (copyInts _ j _ _ w1 hcut (fun e => by cases e) (by omega)).mono ?_
  rintro e w2 ⟨A2, n2, c2, rfl, o2, bb⟩
  have F : AnsList w (subL sg t a) (.returned (.slice A2 n2 c2)) w2 := ⟨A2, n2, c2, rfl, by unfold subL; rw [HL.out]; exact Own.lower o2 bel.size, next_trans bel bb⟩
  have HF := Lib.hid F
  clear F o2 bb bel hcut
  go_wp2
  go_ret
  exact HF.out

theorem sub_no {w w' : World} {sg t : List Int} {x : Int} {A : Option Addr} {c : Nat} (h : thereB sg t x = false) (ho : Own w' w.heap.size (.slice A 0 c) []) (hb : Below w.heap.size w w') : AnsList w (subI sg t x) (.returned (.slice A 0 c)) w' :=
  ⟨A, 0, c, rfl, by unfold subI; rw [if_neg (by rw [h]; simp)]; exact ho, hb⟩

set_option maxHeartbeats 1000000 in
theorem specSubAt (A A' : Option Addr) (n c m c' : Nat) (sg t : List Int) (x : Int) (w : World) (h : Seg w w.heap.size A n sg) (h' : Seg w w.heap.size A' m t) (hn : n ≤ 1048576) (hm : m ≤ 1048576) (_ : -9223372036854775808 ≤ x) (_ : x ≤ 9223372036854775807) (hc' : m ≤ c') (hc2 : c' ≤ 9223372036854775807) :
    Calls Try.prog 41 #[.agg #[.slice A n c], .slice A' m c', .int .i64 x] w (AnsList w (subI sg t x)) := by
  obtain ⟨W, hW⟩ : ∃ W, W = w.alloc (.cells #[.slice A n c] 26) := ⟨_, rfl⟩
  have rA : Row W w.heap.size 26 #[.slice A n c] := by rw [hW]; exact Row.new _ _ _
  have bel : Below w.heap.size w W := by rw [hW]; exact (Below.refl _ _).alloc (Nat.le_refl _) _
  replace h := (h.below bel).more bel.size
  replace h' := (h'.below bel).more bel.size
  have HW := Lib.hid hW
  have HL := Lib.hid h'.1
  clear hW
  have L := Lib.hid (specTermOk A A' n c m c' sg t W h h' hn hm)
  cases hok : termOkB sg t with
  | false =>
    have HS := Lib.hid hok
    clear hok h h'
    go_enter Try.func41, Try.ntmps41
    go_wp2_with fail
    rw [← HW.out]
    refine L.out.mono ?_
    rintro e w1 ⟨he, bb⟩
    rw [HS.out] at he
    subst he
    replace bel := next_trans bel bb
    have F := Lib.hid (sub_no (x := x) (there_no (.inl HS.out)) (own_empty w1 w.heap.size bel.size) (bel.alloc bel.size _))
    clear bb bel rA
    go_wp2
    go_ret
    exact F.out
  | true =>
    have HS := Lib.hid hok
    clear hok
    by_cases hin : 0 ≤ x ∧ x < (m : Int)
    · have hd : decide (0 ≤ x ∧ x < (m : Int)) = true := by simp [hin]
      have HD := Lib.hid hd
      clear hd
      have hars := (sig_arities (termOk_parts HS.out).1).1
      have HT := Lib.hid (there_yes HS.out hin.1 (by rw [HL.out]; exact hin.2))
      obtain ⟨a, rfl⟩ := Int.eq_ofNat_of_zero_le hin.1
      have ham : a < m := by omega
      obtain ⟨j, hj, hj1, hj2⟩ := scan_at (termOk_parts HS.out).2.2 (a := a) (by rw [HL.out]; exact ham)
      have HJ := Lib.hid hj
      replace hj2 : a + j ≤ m := by rw [HL.out] at hj2; exact hj2
      clear hj
      go_enter Try.func41, Try.ntmps41
      go_wp2_with fail
      rw [← HW.out]
      refine L.out.mono ?_
      rintro e w1 ⟨he, bb⟩
      rw [HS.out] at he
      subst he
      replace h := h.next bb
      replace h' := h'.next bb
      replace rA := rA.next bb
      replace bel := next_trans bel bb
      have cA : w1.cell? ⟨w.heap.size, 0, none⟩ = some (.slice A n c) := rA.cell 0
      clear bb
      go_wp2_with fail
      refine (there _ _ _ (a : Int) true _ hm HD.out).mono ?_
      rintro e w2 ⟨rfl, rfl⟩
      go_wp2_with fail
      refine (l1Sub A A' n c m c' sg t a j _ h h' hn hm hc' hc2 hars ham HJ.out hj1 hj2).mono ?_
      rintro e w2 ⟨A2, n2, c2, rfl, o2, bb⟩
      have F : AnsList w (subI sg t (a : Int)) (.returned (.slice A2 n2 c2)) w2 := ⟨A2, n2, c2, rfl, by unfold subI; rw [if_pos HT.out, Int.toNat_natCast]; exact Own.lower o2 bel.size, next_trans bel bb⟩
      have HF := Lib.hid F
      clear F o2 bb bel rA cA h h' hars HT
      go_wp2
      go_ret
      exact HF.out
    · have hd : decide (0 ≤ x ∧ x < (m : Int)) = false := by simp; omega
      have HD := Lib.hid hd
      have HT := Lib.hid (there_no (sg := sg) (t := t) (x := x) (by rw [HL.out]; omega))
      clear hd hin
      go_enter Try.func41, Try.ntmps41
      go_wp2_with fail
      rw [← HW.out]
      refine L.out.mono ?_
      rintro e w1 ⟨he, bb⟩
      rw [HS.out] at he
      subst he
      replace bel := next_trans bel bb
      have F := Lib.hid (sub_no HT.out (own_empty w1 w.heap.size bel.size) (bel.alloc bel.size _))
      clear bb bel rA h h'
      go_wp2_with fail
      refine (there _ _ _ x false _ hm HD.out).mono ?_
      rintro e w2 ⟨rfl, rfl⟩
      go_wp2
      go_ret
      exact F.out

set_option maxHeartbeats 1000000 in
theorem implSubAt (A A' : Option Addr) (n c m c' : Nat) (sg t : List Int) (x : Int) (w : World) (h : Seg w w.heap.size A n sg) (h' : Seg w w.heap.size A' m t) (hn : n ≤ 1048576) (hm : m ≤ 1048576) (_ : -9223372036854775808 ≤ x) (_ : x ≤ 9223372036854775807) (hc' : m ≤ c') (hc2 : c' ≤ 9223372036854775807) :
    Calls Try.prog 25 #[.agg #[.slice A n c], .slice A' m c', .int .i64 x] w (AnsList w (subI sg t x)) := by
  obtain ⟨W, hW⟩ : ∃ W, W = w.alloc (.cells #[.slice A n c] 26) := ⟨_, rfl⟩
  have bel : Below w.heap.size w W := by rw [hW]; exact (Below.refl _ _).alloc (Nat.le_refl _) _
  have zW : w.heap.size < W.heap.size := by rw [hW]; simp
  replace h := (h.below bel).more bel.size
  replace h' := (h'.below bel).more bel.size
  have HW := Lib.hid hW
  have HL := Lib.hid h'.1
  clear hW
  have L := Lib.hid (cursorAt A A' n c m c' sg t x W h h' hn hm)
  clear h
  go_enter Try.func25, Try.ntmps25
  go_wp2_with fail
  rw [← HW.out]
  refine L.out.mono ?_
  rintro e w1 ⟨bb, ⟨ht, p, rfl, hp, hc⟩ | ⟨ht, rfl⟩⟩
  · replace h' := h'.next bb
    replace bel := next_trans bel bb
    have HT := Lib.hid ht
    clear ht bb
    obtain ⟨hok, h0, h1⟩ := there_parts HT.out
    have ht := (termOk_parts hok).2.2
    obtain ⟨a, rfl⟩ := Int.eq_ofNat_of_zero_le h0
    rw [Int.toNat_natCast] at hc
    have ham : a < m := by rw [HL.out] at h1; omega
    obtain ⟨j, hj, hj1, hj2⟩ := scan_at ht (a := a) (by rw [HL.out]; exact ham)
    rw [HL.out] at hj2
    obtain ⟨b, off, y, rfl, -, -, -⟩ := h'.spot ham
    have hcut := Seg.cut (a := a) (j := j) h' hj2
    have HJ := Lib.hid hj
    have HLen := Lib.hid (len1_eq hj)
    clear hj ht hok h1
    have i0 : (0 : Int) ≤ (a : Int) := by omega
    have i1 : (a : Int) ≤ (a : Int) + (j : Int) := by omega
    have i2 : (a : Int) + (j : Int) ≤ (c' : Int) := by omega
    have i3 : ¬ c' = a := by omega
    have i4 : a + j ≤ c' := by omega
    go_wp2_with fail
    refine (pass p A n c _ m c' sg t a _ hc).mono ?_
    rintro e w2 ⟨hg, ⟨j', hj', rfl, hc2'⟩ | ⟨hj', rfl, -⟩⟩
    · obtain rfl : j = j' := by rw [HJ.out] at hj'; injection hj'
      have cp : w2.cell? ⟨p, 2, none⟩ = some (.int .i64 ((a + j : Nat) : Int)) := hc2'.row.cell 2
      have b2 : Below w.heap.size w w2 := bel.grown hg bel.size (fun k hk => by injection hk; omega)
      have hcut2 : Seg w2 w2.heap.size (some ⟨b, off + a, none⟩) j ((t.drop a).take j) := (Seg.cut (a := a) (j := j) hc2'.s' hj2).more (Nat.le_of_lt hc2'.row.lt)
      clear hc2' hg hcut hc h' bel hj' L
      go_wp2_with fail
      refine (cloneInts b (off + a) j _ _ w2 hcut2 (by omega)).mono ?_
      rintro e w3 ⟨A2, n2, c2, rfl, o2, bb⟩
      have F : AnsList w (subI sg t (a : Int)) (.returned (.slice A2 n2 c2)) w3 := ⟨A2, n2, c2, rfl, by unfold subI; rw [if_pos HT.out, Int.toNat_natCast]; unfold subL; rw [HLen.out]; exact Own.lower o2 b2.size, next_trans b2 bb⟩
      have HF := Lib.hid F
      clear F o2 bb b2 hcut2 cp
      go_wp2
      go_ret
      exact HF.out
    · rw [HJ.out] at hj'
      cases hj'
  · have F := Lib.hid (sub_no ht (Own.nil w1 w.heap.size) (next_trans bel bb))
    clear bb bel ht h' L
    go_wp2
    go_ret
    exact F.out
theorem subI_len {sg t : List Int} {x : Int} {m : Nat} (h : t.length = m) (hm : m ≤ 1048576) : (subI sg t x).length ≤ 1048576 := by
  unfold subI subL
  split
  · simp only [List.length_take, List.length_drop]; omega
  · simp
end Go.Proofs.Ytadajlchoongcaa.sub
