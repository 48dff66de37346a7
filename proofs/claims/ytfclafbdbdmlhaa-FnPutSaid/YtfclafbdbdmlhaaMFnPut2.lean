/-
  MERGED: my texts Sub, Args, Depth, TermMath, PosMath, PutMath, Put, PathSpec, WayTo, Place, PutFacts, DrawSig, DrawTerm, one behind the other, as they are. By an AI agent.
-/
import Derived.Test.YtfclafbdbdmlhaaMFnPut1
import Derived.WalkSpells
import Derived.Deep.LoopGhost
import Derived.Deep.RegionHeld3
import Derived.Deep.AppendLies
import Derived.Deep.RegionLaw
namespace Go.Proofs.Ytfclafbdbdmlhaa
section
open Go.Lib (hid)
namespace sub
open Go.RowKit base ints sig term arity endOf cursor termOk endAt marks app sym curO
def subL (sg t : List Int) (a : Nat) : List Int := (t.drop a).take (len1 sg t a)
def subI (sg t : List Int) (x : Int) : List Int := if thereB sg t x = true then subL sg t x.toNat else []
set_option maxHeartbeats 1000000 in
theorem l1Sub (A A' : Option Addr) (n c m c' : Nat) (sg t : List Int) (a j : Nat) (w : World) (h : Seg w w.heap.size A n sg) (h' : Seg w w.heap.size A' m t) (hn : n ≤ 1048576) (hm : m ≤ 1048576) (hc' : m ≤ c') (hc2 : c' ≤ 9223372036854775807)
  (hs : Arities sg) (ha : a < m) (hj : scan sg 1 (t.drop a) = some j) (hj1 : 1 ≤ j) (hj2 : a + j ≤ m) :
  Calls Try.prog 93 #[.agg #[.slice A n c], .slice A' m c', .int .i64 (a : Int)] w (AnsList w (subL sg t a)) := by
 obtain ⟨b, off, x, rfl, -, -, -⟩ := h'.spot ha
 obtain ⟨W, hW⟩ : ∃ W, W = w.alloc (.cells #[.slice A n c] 26) := ⟨_, rfl⟩
 have bel : Below w.heap.size w W := by rw [hW]; exact (Below.refl _ _).alloc (Nat.le_refl _) _
 have zW : w.heap.size < W.heap.size := by rw [hW]; simp
 replace h := (h.below bel).more bel.size
 replace h' := (h'.below bel).more bel.size
 have HW := hid hW
 clear hW
 have L := hid (specEnd A _ n c m c' sg t (a : Int) W h h' hn hm hs (by omega) (by omega))
 have HE := hid (endI_some hj)
 have HL := hid (len1_eq hj)
 have hcut := Seg.cut (a := a) (j := j) h' hj2
 clear h h' hj hs
 have i0 : (0 : Int) ≤ (a : Int) := by omega
 have i1 : (a : Int) ≤ (a : Int) + (j : Int) := by omega
 have i2 : (a : Int) + (j : Int) ≤ (c' : Int) := by omega
 have i3 : ¬ c' = a := by omega
 go_enter Try.func93, Try.ntmps93
 go_wp2_with fail
 rw [← HW.out]
 refine L.out.mono ?_
 rintro e w1 ⟨he, bb⟩
 rw [Int.toNat_natCast, HE.out] at he
 subst he
 replace hcut := hcut.next bb
 replace bel := next_trans bel bb
 clear bb L
 go_wp2_with fail
 refine (copyInts _ j _ _ w1 hcut (fun e => by cases e) (by omega)).mono ?_
 rintro e w2 ⟨A2, n2, c2, rfl, o2, bb⟩
 have F : AnsList w (subL sg t a) (.returned (.slice A2 n2 c2)) w2 := ⟨A2, n2, c2, rfl, by unfold subL; rw [HL.out]; exact Own.lower o2 bel.size, next_trans bel bb⟩
 have HF := hid F
 clear F o2 bb bel hcut
 go_wp2
 go_ret
 exact HF.out
theorem sub_no {w w' : World} {sg t : List Int} {x : Int} {A : Option Addr} {c : Nat} (h : thereB sg t x = false) (ho : Own w' w.heap.size (.slice A 0 c) []) (hb : Below w.heap.size w w') : AnsList w (subI sg t x) (.returned (.slice A 0 c)) w' :=
 ⟨A, 0, c, rfl, by unfold subI; rw [if_neg (by rw [h]; simp)]; exact ho, hb⟩
set_option maxHeartbeats 1000000 in
theorem specSubAt (A A' : Option Addr) (n c m c' : Nat) (sg t : List Int) (x : Int) (w : World) (h : Seg w w.heap.size A n sg) (h' : Seg w w.heap.size A' m t) (hn : n ≤ 1048576) (hm : m ≤ 1048576) (_ : -9223372036854775808 ≤ x) (_ : x ≤ 9223372036854775807) (hc' : m ≤ c') (hc2 : c' ≤ 9223372036854775807) :
  Calls Try.prog 47 #[.agg #[.slice A n c], .slice A' m c', .int .i64 x] w (AnsList w (subI sg t x)) := by
 obtain ⟨W, hW⟩ : ∃ W, W = w.alloc (.cells #[.slice A n c] 26) := ⟨_, rfl⟩
 have rA : Row W w.heap.size 26 #[.slice A n c] := by rw [hW]; exact Row.new _ _ _
 have bel : Below w.heap.size w W := by rw [hW]; exact (Below.refl _ _).alloc (Nat.le_refl _) _
 replace h := (h.below bel).more bel.size
 replace h' := (h'.below bel).more bel.size
 have HW := hid hW
 have HL := hid h'.1
 clear hW
 have L := hid (specTermOk A A' n c m c' sg t W h h' hn hm)
 cases hok : termOkB sg t with
 | false =>
  have HS := hid hok
  clear hok h h'
  go_enter Try.func47, Try.ntmps47
  go_wp2_with fail
  rw [← HW.out]
  refine L.out.mono ?_
  rintro e w1 ⟨he, bb⟩
  rw [HS.out] at he
  subst he
  replace bel := next_trans bel bb
  have F := hid (sub_no (x := x) (there_no (.inl HS.out)) (own_empty w1 w.heap.size bel.size) (bel.alloc bel.size _))
  clear bb bel rA
  go_wp2
  go_ret
  exact F.out
 | true =>
  have HS := hid hok
  clear hok
  by_cases hin : 0 ≤ x ∧ x < (m : Int)
  ·have hd : decide (0 ≤ x ∧ x < (m : Int)) = true := by simp [hin]
   have HD := hid hd
   clear hd
   have hars := (sig_arities (termOk_parts HS.out).1).1
   have HT := hid (there_yes HS.out hin.1 (by rw [HL.out]; exact hin.2))
   obtain ⟨a, rfl⟩ := Int.eq_ofNat_of_zero_le hin.1
   have ham : a < m := by omega
   obtain ⟨j, hj, hj1, hj2⟩ := scan_at (termOk_parts HS.out).2.2 (a := a) (by rw [HL.out]; exact ham)
   have HJ := hid hj
   replace hj2 : a + j ≤ m := by rw [HL.out] at hj2; exact hj2
   clear hj
   go_enter Try.func47, Try.ntmps47
   go_wp2_with fail
   rw [← HW.out]
   refine L.out.mono ?_
   rintro e w1 ⟨he, bb⟩
   rw [HS.out] at he
   subst he
   replace h := h.next bb
   replace h' := h'.next bb
   replace rA := rA.next bb
   replace bel := next_trans bel bb
   have cA : w1.cell? ⟨w.heap.size, 0, none⟩ = some (.slice A n c) := rA.cell 0
   clear bb
   go_wp2_with fail
   refine (there _ _ _ (a : Int) true _ hm HD.out).mono ?_
   rintro e w2 ⟨rfl, rfl⟩
   go_wp2_with fail
   refine (l1Sub A A' n c m c' sg t a j _ h h' hn hm hc' hc2 hars ham HJ.out hj1 hj2).mono ?_
   rintro e w2 ⟨A2, n2, c2, rfl, o2, bb⟩
   have F : AnsList w (subI sg t (a : Int)) (.returned (.slice A2 n2 c2)) w2 := ⟨A2, n2, c2, rfl, by unfold subI; rw [if_pos HT.out, Int.toNat_natCast]; exact Own.lower o2 bel.size, next_trans bel bb⟩
   have HF := hid F
   clear F o2 bb bel rA cA h h' hars HT
   go_wp2
   go_ret
   exact HF.out
  ·have hd : decide (0 ≤ x ∧ x < (m : Int)) = false := by simp; omega
   have HD := hid hd
   have HT := hid (there_no (sg := sg) (t := t) (x := x) (by rw [HL.out]; omega))
   clear hd hin
   go_enter Try.func47, Try.ntmps47
   go_wp2_with fail
   rw [← HW.out]
   refine L.out.mono ?_
   rintro e w1 ⟨he, bb⟩
   rw [HS.out] at he
   subst he
   replace bel := next_trans bel bb
   have F := hid (sub_no HT.out (own_empty w1 w.heap.size bel.size) (bel.alloc bel.size _))
   clear bb bel rA h h'
   go_wp2_with fail
   refine (there _ _ _ x false _ hm HD.out).mono ?_
   rintro e w2 ⟨rfl, rfl⟩
   go_wp2
   go_ret
   exact F.out
set_option maxHeartbeats 1000000 in
theorem implSubAt (A A' : Option Addr) (n c m c' : Nat) (sg t : List Int) (x : Int) (w : World) (h : Seg w w.heap.size A n sg) (h' : Seg w w.heap.size A' m t) (hn : n ≤ 1048576) (hm : m ≤ 1048576) (_ : -9223372036854775808 ≤ x) (_ : x ≤ 9223372036854775807) (hc' : m ≤ c') (hc2 : c' ≤ 9223372036854775807) :
  Calls Try.prog 44 #[.agg #[.slice A n c], .slice A' m c', .int .i64 x] w (AnsList w (subI sg t x)) := by
 obtain ⟨W, hW⟩ : ∃ W, W = w.alloc (.cells #[.slice A n c] 26) := ⟨_, rfl⟩
 have bel : Below w.heap.size w W := by rw [hW]; exact (Below.refl _ _).alloc (Nat.le_refl _) _
 have zW : w.heap.size < W.heap.size := by rw [hW]; simp
 replace h := (h.below bel).more bel.size
 replace h' := (h'.below bel).more bel.size
 have HW := hid hW
 have HL := hid h'.1
 clear hW
 have L := hid (cursorAt A A' n c m c' sg t x W h h' hn hm)
 clear h
 go_enter Try.func44, Try.ntmps44
 go_wp2_with fail
 rw [← HW.out]
 refine L.out.mono ?_
 rintro e w1 ⟨bb, ⟨ht, p, rfl, hp, hc⟩ | ⟨ht, rfl⟩⟩
 ·replace h' := h'.next bb
  replace bel := next_trans bel bb
  have HT := hid ht
  clear ht bb
  obtain ⟨hok, h0, h1⟩ := there_parts HT.out
  have ht := (termOk_parts hok).2.2
  obtain ⟨a, rfl⟩ := Int.eq_ofNat_of_zero_le h0
  rw [Int.toNat_natCast] at hc
  have ham : a < m := by rw [HL.out] at h1; omega
  obtain ⟨j, hj, hj1, hj2⟩ := scan_at ht (a := a) (by rw [HL.out]; exact ham)
  rw [HL.out] at hj2
  obtain ⟨b, off, y, rfl, -, -, -⟩ := h'.spot ham
  have hcut := Seg.cut (a := a) (j := j) h' hj2
  have HJ := hid hj
  have HLen := hid (len1_eq hj)
  clear hj ht hok h1
  have i0 : (0 : Int) ≤ (a : Int) := by omega
  have i1 : (a : Int) ≤ (a : Int) + (j : Int) := by omega
  have i2 : (a : Int) + (j : Int) ≤ (c' : Int) := by omega
  have i3 : ¬ c' = a := by omega
  have i4 : a + j ≤ c' := by omega
  go_wp2_with fail
  refine (partC p A n c b off m c' sg t a j _ hc HJ.out hj2 hj1 hc' hc2).mono ?_
  rintro e w2 ⟨rfl, hg, hc2'⟩
  have b2 : Below w.heap.size w w2 := bel.grown hg bel.size (fun k hk => by injection hk; omega)
  have hcut2 : Seg w2 w2.heap.size (some ⟨b, off + a, none⟩) j ((t.drop a).take j) := (Seg.cut (a := a) (j := j) hc2'.s' hj2).more (Nat.le_of_lt hc2'.row.lt)
  clear hc2' hg hcut hc h' bel L
  go_wp2_with fail
  refine (cloneInts b (off + a) j _ _ w2 hcut2 (by omega)).mono ?_
  rintro e w3 ⟨A2, n2, c2, rfl, o2, bb⟩
  have F : AnsList w (subI sg t (a : Int)) (.returned (.slice A2 n2 c2)) w3 := ⟨A2, n2, c2, rfl, by unfold subI; rw [if_pos HT.out, Int.toNat_natCast]; unfold subL; rw [HLen.out]; exact Own.lower o2 b2.size, next_trans b2 bb⟩
  have HF := hid F
  clear F o2 bb b2 hcut2
  go_wp2
  go_ret
  exact HF.out
 ·have F := hid (sub_no ht (Own.nil w1 w.heap.size) (next_trans bel bb))
  clear bb bel ht h' L
  go_wp2
  go_ret
  exact F.out
theorem subI_len {sg t : List Int} {x : Int} {m : Nat} (h : t.length = m) (hm : m ≤ 1048576) : (subI sg t x).length ≤ 1048576 := by
 unfold subI subL
 split
 ·simp only [List.length_take, List.length_drop]; omega
 ·simp
end sub
end
section
namespace args
open Go.RowKit base ints sig term arity endOf cursor termOk endAt marks app sym
def Coll (sg t : List Int) (m : Nat) (L ys : List Int) (q p : Nat) : Prop := ys ++ places sg t q p = L ∧ ∃ i, scan sg q (t.drop p) = some i ∧ p + i ≤ m
theorem Coll.first {sg t : List Int} {m : Nat} {L ys : List Int} {q p : Nat} (h : Coll sg t m L ys (q + 1) p) : ∃ j, scan sg 1 (t.drop p) = some j ∧ p + j ≤ m ∧ p < t.length ∧ Coll sg t m L (ys ++ [(p : Int)]) q (p + j) := by
 obtain ⟨h1, i, h2, h3⟩ := h
 obtain ⟨j, e1, e2, e3, e4⟩ := scan_first h2
 have e5 := scan_le h2
 refine ⟨j, e1, by omega, ?_, ?_, i - j, e4, by omega⟩
 ·simp only [List.length_drop] at e5; omega
 ·rw [← h1, List.append_assoc]
  congr 1
  simp only [places, len1_eq e1, List.singleton_append]
theorem Coll.done {sg t : List Int} {m : Nat} {L ys : List Int} {p : Nat} (h : Coll sg t m L ys 0 p) : ys = L := by
 have := h.1
 simpa [places] using this
theorem Coll.len {sg t : List Int} {m : Nat} {L ys : List Int} {q p : Nat} (h : Coll sg t m L ys q p) : ys.length ≤ L.length := by
 rw [← h.1]; simp
theorem Cur.keep {w w' : World} {p : Nat} {A : Option Addr} {n c : Nat} {A' : Option Addr} {m c' : Nat} {sg t : List Int} {k : Nat} (h : Cur w p A n c A' m c' sg t k) (hb : Below (p + 1) w w') : Cur w' p A n c A' m c' sg t k :=
 ⟨h.row.below hb (Nat.lt_succ_self _), h.s.below (hb.mono (Nat.le_succ _)), h.s'.below (hb.mono (Nat.le_succ _)), h.le, h.hn, h.hm, h.ars⟩
end args
end
section
namespace depth
open Go.RowKit base ints sig term arity endOf cursor termOk endAt marks app sym args
def Deep (sg t : List Int) (f : Nat) (M d : Int) (q p : Nat) : Prop := max d (maxOver sg t (dep sg t f) q p) = M ∧ 0 ≤ d ∧ d ≤ f ∧ ∃ i, scan sg q (t.drop p) = some i ∧ i ≤ f ∧ p + i ≤ t.length
theorem Deep.first {sg t : List Int} {f : Nat} {M d : Int} {q p : Nat} (h : Deep sg t f M d (q + 1) p) : ∃ j, scan sg 1 (t.drop p) = some j ∧ j ≤ f ∧ p < t.length ∧ p + j ≤ t.length ∧ Deep sg t f M (max d (dep sg t f p)) q (p + j) := by
 obtain ⟨h1, h2, h3, i, h4, h5, h6⟩ := h
 obtain ⟨j, e1, e2, e3, e4⟩ := scan_first h4
 have hb := dep_bd (sg := sg) (t := t) f p
 refine ⟨j, e1, by omega, by omega, by omega, ?_, by omega, by omega, i - j, e4, by omega, by omega⟩
 simp only [maxOver, len1_eq e1] at h1
 omega
theorem Deep.done {sg t : List Int} {f : Nat} {M d : Int} {p : Nat} (h : Deep sg t f M d 0 p) : d = M := by
 have h1 := h.1
 have h2 := h.2.1
 simp only [maxOver] at h1
 omega
def depthI (sg t : List Int) : Int := if termOkB sg t = true then dep sg t t.length 0 else 0
end depth
end
section
namespace termMath
open term termOk endAt sub args depth sig
theorem scan_append {sg : List Int} : ∀ {l r : List Int} {q j : Nat}, scan sg q l = some j → scan sg q (l ++ r) = some j := by
 intro l
 induction l with
 | nil =>
  intro r q j h
  cases q with
  | zero => rw [scan_zero] at h ⊢; exact h
  | succ q => rw [scan_nil] at h; cases h
 | cons x l ih =>
  intro r q j h
  cases q with
  | zero => rw [scan_zero] at h ⊢; exact h
  | succ q =>
   by_cases ha : ar sg x < 0
   ·rw [scan_bad ha] at h; cases h
   ·rw [scan_step ha] at h
    rw [List.cons_append, scan_step ha]
    obtain ⟨j', hj', rfl⟩ := Option.map_eq_some_iff.1 h
    rw [ih hj']
    rfl
theorem scan_take {sg : List Int} : ∀ {l : List Int} {q j : Nat}, scan sg q l = some j → scan sg q (l.take j) = some j := by
 intro l
 induction l with
 | nil => intro q j h; simpa using h
 | cons x l ih =>
  intro q j h
  cases q with
  | zero => rw [scan_zero] at h ⊢; exact h
  | succ q =>
   by_cases ha : ar sg x < 0
   ·rw [scan_bad ha] at h; cases h
   ·rw [scan_step ha] at h
    obtain ⟨j', hj', rfl⟩ := Option.map_eq_some_iff.1 h
    rw [List.take_succ_cons, scan_step ha, ih hj']
    rfl
theorem scan_same {sg l l' : List Int} {q j : Nat} (h : scan sg q l = some j) (e : l.take j = l'.take j) : scan sg q l' = some j := by
 have h1 := scan_take h
 rw [e] at h1
 have h2 := scan_append (r := l'.drop j) h1
 rwa [List.take_append_drop] at h2
theorem take_less {l l' : List Int} {i j : Nat} (e : l.take i = l'.take i) (h : j ≤ i) : l.take j = l'.take j := by
 have : (l.take i).take j = (l'.take i).take j := by rw [e]
 rwa [List.take_take, List.take_take, Nat.min_eq_left h] at this
theorem drop_same {l l' : List Int} {i j : Nat} (e : l.take i = l'.take i) : (l.drop j).take (i - j) = (l'.drop j).take (i - j) := by
 rw [← List.drop_take, ← List.drop_take, e]
theorem get_same {t t' : List Int} {a a' i : Nat} (e : (t.drop a).take i = (t'.drop a').take i) (h : 1 ≤ i) : t.getD a 0 = t'.getD a' 0 := by
 have : ((t.drop a).take i)[0]? = ((t'.drop a').take i)[0]? := by rw [e]
 rw [List.getElem?_take, List.getElem?_take, if_pos (by omega), if_pos (by omega), List.getElem?_drop, List.getElem?_drop] at this
 simpa [List.getD] using congrArg (fun o => o.getD 0) this
theorem max_same {sg t t' : List Int} {f f' : Nat} (hd : ∀ a a' j, (t.drop a).take j = (t'.drop a').take j → scan sg 1 (t.drop a) = some j → j ≤ f → j ≤ f' → dep sg t f a = dep sg t' f' a') :
  ∀ q p p' i, (t.drop p).take i = (t'.drop p').take i → scan sg q (t.drop p) = some i → i ≤ f → i ≤ f' → maxOver sg t (dep sg t f) q p = maxOver sg t' (dep sg t' f') q p'
 | 0, _, _, _, _, _, _, _ => rfl
 | q + 1, p, p', i, e, h, h1, h2 => by
  obtain ⟨j, e1, e2, e3, e4⟩ := scan_first h
  have e5 := scan_same e1 (take_less e e3)
  have hdr : (t.drop (p + j)).take (i - j) = (t'.drop (p' + j)).take (i - j) := by
   have := drop_same (j := j) e
   rwa [List.drop_drop, List.drop_drop] at this
  simp only [maxOver, len1_eq e1, len1_eq e5]
  rw [hd p p' j (take_less e e3) e1 (by omega) (by omega), max_same hd q (p + j) (p' + j) (i - j) hdr e4 (by omega) (by omega)]
theorem dep_same {sg : List Int} : ∀ (f f' : Nat) (t t' : List Int) (a a' j : Nat), (t.drop a).take j = (t'.drop a').take j → scan sg 1 (t.drop a) = some j → j ≤ f → j ≤ f' → dep sg t f a = dep sg t' f' a'
 | 0, _, _, _, _, _, _, _, h, h1, _ => by have := scan_pos (q := 0) h; omega
 | _ + 1, 0, _, _, _, _, _, _, h, _, h2 => by have := scan_pos (q := 0) h; omega
 | f + 1, f' + 1, t, t', a, a', j, e, h, h1, h2 => by
  have hj := scan_pos (q := 0) h
  have hg := get_same e hj
  obtain ⟨i, e1, _, _, e2⟩ := scan_args h
  have hdr : (t.drop (a + 1)).take i = (t'.drop (a' + 1)).take i := by
   have := drop_same (j := 1) e
   rw [List.drop_drop, List.drop_drop] at this
   have e3 : j - 1 = i := by omega
   rwa [e3] at this
  simp only [dep]
  rw [← hg, max_same (fun a a' j e h h1 h2 => dep_same f f' t t' a a' j e h h1 h2) _ (a + 1) (a' + 1) i hdr e2 (by omega) (by omega)]
theorem sub_term {sg t : List Int} {a : Nat} (hok : termOkB sg t = true) (ha : a < t.length) : termOkB sg (subL sg t a) = true ∧ depthI sg (subL sg t a) = dep sg t (t.length + 1) a ∧ endI sg t a = (a : Int) + ((subL sg t a).length : Int) ∧ 1 ≤ (subL sg t a).length := by
 have hp := termOk_parts hok
 obtain ⟨j, hj, hj1, hj2⟩ := scan_at hp.2.2 ha
 have hl : len1 sg t a = j := len1_eq hj
 have hs : subL sg t a = (t.drop a).take j := by unfold subL; rw [hl]
 have hlen : (subL sg t a).length = j := by rw [hs]; simp; omega
 have hsc : scan sg 1 (subL sg t a) = some (subL sg t a).length := by rw [hlen, hs]; exact scan_take hj
 have hok2 : termOkB sg (subL sg t a) = true := by
  unfold termOkB termB
  rw [hp.1, hsc]
  simp
  omega
 refine ⟨hok2, ?_, by rw [endI_some hj, hlen], by omega⟩
 unfold depthI
 rw [if_pos hok2, hlen]
 refine (dep_same _ _ _ _ _ _ j ?_ ?_ (Nat.le_refl _) (by omega))
 ·rw [List.drop_zero, hs, List.take_take, Nat.min_self]
 ·rw [List.drop_zero, hsc, hlen]
def Loop (sg t : List Int) (a : Nat) (M : Int) (zs args : List Int) (d : Int) (k q pp : Nat) : Prop :=
 args.drop k = places sg t q pp ∧ max d (maxOver sg t (dep sg t t.length) q pp) = M ∧ 0 ≤ d ∧ d ≤ t.length ∧ ∃ i, scan sg q (t.drop pp) = some i ∧ pp + i ≤ t.length ∧ zs ++ (t.drop pp).take i = subL sg t a
theorem Loop.done {sg t : List Int} {a : Nat} {M : Int} {zs args : List Int} {d : Int} {k pp : Nat} (h : Loop sg t a M zs args d k 0 pp) : zs = subL sg t a ∧ d = M := by
 obtain ⟨_, h2, h3, _, i, h5, _, h7⟩ := h
 rw [scan_zero] at h5
 injection h5 with h5
 subst h5
 simp only [maxOver] at h2
 exact ⟨by simpa using h7, by omega⟩
end termMath
end
section
namespace posMath
open sig term termOk termFacts endAt sub args depth termMath
theorem scan_cat {sg : List Int} : ∀ {l l' : List Int} {q q' j : Nat}, scan sg q l = some l.length → scan sg q' l' = some j → scan sg (q + q') (l ++ l') = some (l.length + j)
 | [], l', q, q', j, h, h' => by
  cases q with
  | zero => simpa using h'
  | succ q => rw [scan_nil] at h; cases h
 | x :: r, l', q, q', j, h, h' => by
  cases q with
  | zero => rw [scan_zero] at h; simp at h
  | succ q =>
   by_cases ha : ar sg x < 0
   ·rw [scan_bad ha] at h; cases h
   ·rw [scan_step ha] at h
    obtain ⟨i, hi, e⟩ := Option.map_eq_some_iff.1 h
    have e2 : i = r.length := by simp at e; omega
    subst e2
    have h2 := scan_cat hi h'
    rw [show q + 1 + q' = (q + q') + 1 by omega, List.cons_append, scan_step ha, show q + q' + (ar sg x).toNat = q + (ar sg x).toNat + q' by omega, h2]
    simp
    omega
theorem term_at {sg t : List Int} (h : termOkB sg t = true) {a : Nat} (ha : a < t.length) : scan sg 1 (t.drop a) = some (len1 sg t a) ∧ 1 ≤ len1 sg t a ∧ a + len1 sg t a ≤ t.length := by
 obtain ⟨j, e, h1, h2⟩ := scan_at (term_parts h).2.2 ha
 rw [len1_eq e]
 exact ⟨e, h1, h2⟩
theorem end_at {sg t : List Int} (h : termOkB sg t = true) {a : Nat} (ha : a < t.length) : endI sg t a = ((a + len1 sg t a : Nat) : Int) := by
 rw [endI_some (term_at h ha).1]; omega
def argP (sg t : List Int) : Nat → Nat → Nat
 | 0, p => p
 | k + 1, p => argP sg t k (p + len1 sg t p)
theorem argP_succ {sg t : List Int} : ∀ k p, argP sg t (k + 1) p = argP sg t k p + len1 sg t (argP sg t k p)
 | 0, _ => rfl
 | k + 1, p => by
  show argP sg t (k + 1) (p + len1 sg t p) = _
  rw [argP_succ k]
  rfl
theorem argP_mono {sg t : List Int} {p k : Nat} : ∀ {k' : Nat}, k ≤ k' → argP sg t k p ≤ argP sg t k' p := by
 intro k' h
 induction k' with
 | zero => rw [Nat.le_zero.1 h]; exact Nat.le_refl _
 | succ k' ih =>
  by_cases e : k = k' + 1
  ·rw [e]; exact Nat.le_refl _
  ·have := ih (by omega)
   rw [argP_succ]
   omega
theorem argP_scan {sg t : List Int} : ∀ {k q p i : Nat}, scan sg q (t.drop p) = some i → k ≤ q → scan sg k (t.drop p) = some (argP sg t k p - p) ∧ p ≤ argP sg t k p ∧ argP sg t k p ≤ p + i := by
 intro k
 induction k with
 | zero => intro q p i _ _; exact ⟨by rw [scan_zero]; simp [argP], Nat.le_refl _, by simp [argP]⟩
 | succ k ih =>
  intro q p i h hk
  obtain ⟨q, rfl⟩ : ∃ q', q = q' + 1 := ⟨q - 1, by omega⟩
  obtain ⟨j, e1, e2, e3, e4⟩ := scan_first h
  have hj := len1_eq e1
  obtain ⟨a1, a2, a3⟩ := ih e4 (show k ≤ q by omega)
  have ea : argP sg t (k + 1) p = argP sg t k (p + j) := by show argP sg t k (p + len1 sg t p) = _; rw [hj]
  have hsc : scan sg (k + 1) (t.drop p) = some (argP sg t (k + 1) p - p) := by
   have hx := scan_cat (l := (t.drop p).take j) (l' := t.drop (p + j)) (q := 1) (q' := k) (j := argP sg t k (p + j) - (p + j))
    (by have := scan_take e1; rw [this]; have hl := scan_le this; have hl2 := scan_le e1; rw [List.length_take, Nat.min_eq_left hl2]) a1
   have hl2 := scan_le e1
   rw [← List.drop_drop, List.take_append_drop, List.length_take, Nat.min_eq_left hl2, Nat.add_comm 1 k] at hx
   rw [hx, ea]
   congr 1
   omega
  rw [ea] at hsc ⊢
  exact ⟨hsc, by omega, by omega⟩
theorem places_get {sg t : List Int} : ∀ {q p k : Nat}, k < q → (places sg t q p).getD k 0 = (argP sg t k p : Int) := by
 intro q
 induction q with
 | zero => intro p k h; omega
 | succ q ih =>
  intro p k h
  cases k with
  | zero => rfl
  | succ k =>
   show ((p : Int) :: places sg t q (p + len1 sg t p)).getD (k + 1) 0 = _
   rw [List.getD_cons_succ, ih (by omega)]
   rfl
theorem find_arg {sg t : List Int} {at_ : Nat} : ∀ {q p i : Nat}, scan sg q (t.drop p) = some i → p ≤ at_ → at_ < p + i → ∃ k, k < q ∧ argP sg t k p ≤ at_ ∧ at_ < argP sg t k p + len1 sg t (argP sg t k p) := by
 intro q
 induction q with
 | zero => intro p i h h1 h2; rw [scan_zero] at h; injection h; omega
 | succ q ih =>
  intro p i h h1 h2
  obtain ⟨j, e1, e2, e3, e4⟩ := scan_first h
  have hj := len1_eq e1
  by_cases hlt : at_ < p + j
  ·exact ⟨0, by omega, h1, by show at_ < p + len1 sg t p; omega⟩
  ·obtain ⟨k, k1, k2, k3⟩ := ih e4 (by omega) (by omega)
   have e : argP sg t (k + 1) p = argP sg t k (p + j) := by show argP sg t k (p + len1 sg t p) = _; rw [hj]
   exact ⟨k + 1, by omega, by rw [e]; exact k2, by rw [e]; exact k3⟩
def arN (sg t : List Int) (p : Nat) : Nat := (ar sg (t.getD p 0)).toNat
inductive Trail (sg t : List Int) (at_ : Nat) : Nat → List Int → List Int → Prop
 | here : Trail sg t at_ at_ [] []
 | down {p k : Nat} {ab pa : List Int} (h1 : p < at_) (h2 : k < arN sg t p) (h3 : argP sg t k (p + 1) ≤ at_) (h4 : at_ < argP sg t k (p + 1) + len1 sg t (argP sg t k (p + 1))) (h5 : p < argP sg t k (p + 1)) (h6 : at_ < p + len1 sg t p) (hw : Trail sg t at_ (argP sg t k (p + 1)) ab pa) : Trail sg t at_ p ((p : Int) :: ab) ((k : Int) :: pa)
theorem head_scan {sg t : List Int} (h : termOkB sg t = true) {p : Nat} (hp : p < t.length) : ¬ ar sg (t.getD p 0) < 0 ∧ ∃ i, len1 sg t p = i + 1 ∧ scan sg (arN sg t p) (t.drop (p + 1)) = some i := by
 obtain ⟨i, e, _, h1, h2⟩ := scan_args (term_at h hp).1
 exact ⟨h1, i, e, h2⟩
theorem arg_at {sg t : List Int} (h : termOkB sg t = true) {p : Nat} (hp : p < t.length) {k : Nat} (hk : k < arN sg t p) : p < argP sg t k (p + 1) ∧ argP sg t k (p + 1) + len1 sg t (argP sg t k (p + 1)) ≤ p + len1 sg t p ∧ argP sg t k (p + 1) < t.length := by
 obtain ⟨_, i, e, hs⟩ := head_scan h hp
 obtain ⟨_, a2, _⟩ := argP_scan hs (Nat.le_of_lt hk)
 obtain ⟨_, _, b3⟩ := argP_scan hs hk
 rw [argP_succ] at b3
 have hm := argP_scan hs (Nat.le_of_lt hk)
 have hl := (term_at h hp).2.2
 refine ⟨by omega, by omega, ?_⟩
 by_cases hx : argP sg t k (p + 1) < p + 1 + i
 ·omega
 ·exfalso
  have hsc := argP_scan hs hk
  have h0 := argP_succ (sg := sg) (t := t) k (p + 1)
  have hpos : scan sg (arN sg t p) (t.drop (p + 1)) = some (argP sg t k (p + 1) - (p + 1)) := by rw [hs]; congr 1; omega
  obtain ⟨i', _, s1, s2⟩ := scan_split (p := k) (q := arN sg t p - k - 1 + 1) (l := t.drop (p + 1)) (j := i) (by rw [← hs]; congr 1; omega)
  rw [hm.1] at s1
  injection s1 with s1
  have := scan_pos s2
  omega
theorem way_ex {sg t : List Int} (h : termOkB sg t = true) {at_ : Nat} (hat : at_ < t.length) : ∀ (n p : Nat), at_ - p ≤ n → p ≤ at_ → at_ < p + len1 sg t p → ∃ ab pa, Trail sg t at_ p ab pa := by
 intro n
 induction n with
 | zero =>
  intro p hn hp _
  obtain rfl : p = at_ := by omega
  exact ⟨[], [], .here⟩
 | succ n ih =>
  intro p hn hp hl
  by_cases he : p = at_
  ·subst he; exact ⟨[], [], .here⟩
  ·obtain ⟨_, i, e, hs⟩ := head_scan h (show p < t.length by omega)
   obtain ⟨k, k1, k2, k3⟩ := find_arg hs (show p + 1 ≤ at_ by omega) (by omega)
   have hlt := (arg_at h (show p < t.length by omega) k1).1
   obtain ⟨ab, pa, hw⟩ := ih _ (by omega) k2 k3
   exact ⟨_, _, .down (by omega) k1 k2 k3 hlt hl hw⟩
theorem root_len {sg t : List Int} (h : termOkB sg t = true) : len1 sg t 0 = t.length := by
 have := (term_parts h).2.2
 exact len1_eq (by simpa using this)
theorem way_root {sg t : List Int} (h : termOkB sg t = true) {at_ : Nat} (hat : at_ < t.length) : ∃ ab pa, Trail sg t at_ 0 ab pa :=
 way_ex h hat at_ 0 (by omega) (by omega) (by rw [root_len h]; omega)
theorem Trail.here_eq {sg t : List Int} {at_ : Nat} {ab pa : List Int} (h : Trail sg t at_ at_ ab pa) : ab = [] ∧ pa = [] := by
 cases h with
 | here => exact ⟨rfl, rfl⟩
 | down h1 => omega
theorem Trail.len {sg t : List Int} {at_ p : Nat} {ab pa : List Int} (h : Trail sg t at_ p ab pa) : ab.length = pa.length := by
 induction h with
 | here => rfl
 | down _ _ _ _ _ _ _ ih => simp [ih]
theorem Trail.le {sg t : List Int} {at_ p : Nat} {ab pa : List Int} (h : Trail sg t at_ p ab pa) : p ≤ at_ ∧ pa.length ≤ at_ - p := by
 induction h with
 | here => simp
 | down h1 _ _ _ h5 _ _ ih => simp only [List.length_cons]; omega
def walkI (sg t : List Int) : Nat → List Int → Int
 | p, [] => (p : Int)
 | p, s :: r => if 0 ≤ s ∧ s < ar sg (t.getD p 0) then walkI sg t (argP sg t s.toNat (p + 1)) r else -1
theorem walk_step {sg t : List Int} {p k : Nat} {r : List Int} (h : k < arN sg t p) : walkI sg t p ((k : Int) :: r) = walkI sg t (argP sg t k (p + 1)) r := by
 unfold arN at h
 simp only [walkI]
 rw [if_pos (by omega), Int.toNat_natCast]
theorem walk_no {sg t : List Int} {p : Nat} {s : Int} {r : List Int} (h : ¬ (0 ≤ s ∧ s < ar sg (t.getD p 0))) : walkI sg t p (s :: r) = -1 := by
 simp only [walkI]
 rw [if_neg h]
theorem over_ge {sg t : List Int} {g : Nat → Int} : ∀ {q k p : Nat}, k < q → g (argP sg t k p) ≤ maxOver sg t g q p := by
 intro q
 induction q with
 | zero => intro k p h; omega
 | succ q ih =>
  intro k p h
  cases k with
  | zero => simp only [maxOver, argP]; omega
  | succ k =>
   have := ih (k := k) (p := p + len1 sg t p) (by omega)
   simp only [maxOver, argP]
   omega
theorem over_nonneg {sg t : List Int} {g : Nat → Int} : ∀ (q p : Nat), 0 ≤ maxOver sg t g q p
 | 0, _ => by simp [maxOver]
 | q + 1, p => by
  have := over_nonneg (sg := sg) (t := t) (g := g) q (p + len1 sg t p)
  simp only [maxOver]
  omega
theorem Trail.depth {sg t : List Int} {at_ p : Nat} {ab pa : List Int} (h : Trail sg t at_ p ab pa) : ∀ f, pa.length < f → (pa.length : Int) + 1 ≤ dep sg t f p := by
 induction h with
 | here =>
  intro f hf
  obtain ⟨f, rfl⟩ : ∃ f', f = f' + 1 := ⟨f - 1, by simp at hf; omega⟩
  have := over_nonneg (sg := sg) (t := t) (g := dep sg t f) (ar sg (t.getD at_ 0)).toNat (at_ + 1)
  simp only [dep, List.length_nil]
  omega
 | @down p k ab pa h1 h2 h3 h4 h5 h6 hw ih =>
  intro f hf
  simp only [List.length_cons] at hf ⊢
  obtain ⟨f, rfl⟩ : ∃ f', f = f' + 1 := ⟨f - 1, by omega⟩
  have e := ih f (by omega)
  have e2 := over_ge (sg := sg) (t := t) (g := dep sg t f) (p := p + 1) h2
  unfold arN at e2
  simp only [dep]
  omega
end posMath
end
section
namespace putMath
open sig term termOk termFacts endAt sub args depth termMath posMath
def putL (t : List Int) (a i : Nat) (u : List Int) : List Int := t.take a ++ (u ++ t.drop (a + i))
theorem scan_put {sg u : List Int} (hu : scan sg 1 u = some u.length) : ∀ {a q j i : Nat} {l : List Int}, scan sg q l = some j → a < j → scan sg 1 (l.drop a) = some i → i ≤ j - a ∧ scan sg q (putL l a i u) = some (j - i + u.length) := by
 intro a
 induction a with
 | zero =>
  intro q j i l h ha hi
  cases q with
  | zero => rw [scan_zero] at h; injection h; omega
  | succ q =>
   obtain ⟨i', _, s1, s2⟩ := scan_split (p := 1) (q := q) (by rw [Nat.add_comm]; exact h)
   rw [List.drop_zero] at hi
   rw [hi] at s1
   injection s1 with s1
   subst s1
   have hx := scan_cat hu s2
   refine ⟨by omega, ?_⟩
   unfold putL
   rw [List.take_zero, List.nil_append, Nat.zero_add, Nat.add_comm q 1, hx]
   congr 1
   omega
 | succ a ih =>
  intro q j i l h ha hi
  cases q with
  | zero => rw [scan_zero] at h; injection h; omega
  | succ q =>
   cases l with
   | nil => rw [scan_nil] at h; cases h
   | cons x l =>
    by_cases hx : ar sg x < 0
    ·rw [scan_bad hx] at h; cases h
    ·rw [scan_step hx] at h
     obtain ⟨j', hj', rfl⟩ := Option.map_eq_some_iff.1 h
     rw [List.drop_succ_cons] at hi
     obtain ⟨e1, e2⟩ := ih hj' (by omega) hi
     refine ⟨by omega, ?_⟩
     have e3 : putL (x :: l) (a + 1) i u = x :: putL l a i u := by
      unfold putL
      rw [List.take_succ_cons, show a + 1 + i = (a + i) + 1 by omega, List.drop_succ_cons]
      rfl
     rw [e3, scan_step hx, e2]
     simp only [Option.map_some]
     congr 1
     omega
def mv (a i n r : Nat) : Nat := if r ≤ a then r else r - i + n
section
variable {sg t u : List Int} {a : Nat}
theorem put_len (hok : termOkB sg t = true) (ha : a < t.length) : (putL t a (len1 sg t a) u).length = t.length - len1 sg t a + u.length := by
 have := term_at hok ha
 unfold putL
 simp only [List.length_append, List.length_take, List.length_drop]
 omega
theorem put_term (hok : termOkB sg t = true) (hu : termOkB sg u = true) (ha : a < t.length) (h60 : (putL t a (len1 sg t a) u).length ≤ 60) : termOkB sg (putL t a (len1 sg t a) u) = true := by
 obtain ⟨h1, h2, h3⟩ := term_parts hok
 refine term_mk h1 h60 ?_
 have := (scan_put (term_parts hu).2.2 h3 ha (term_at hok ha).1).2
 rw [this, put_len hok ha]
theorem drop_at (ha : a ≤ t.length) (i : Nat) : (putL t a i u).drop a = u ++ t.drop (a + i) := by
 unfold putL
 rw [List.drop_append_of_le_length (by simp; omega), List.drop_of_length_le (by simp; omega), List.nil_append]
theorem put_sub (hu : termOkB sg u = true) (ha : a ≤ t.length) (i : Nat) : len1 sg (putL t a i u) a = u.length ∧ subL sg (putL t a i u) a = u := by
 have h : scan sg 1 ((putL t a i u).drop a) = some u.length := by rw [drop_at ha]; exact scan_append (term_parts hu).2.2
 have e := len1_eq h
 refine ⟨e, ?_⟩
 unfold subL
 rw [e, drop_at ha, List.take_left']
 rfl
theorem put_back (hok : termOkB sg t = true) (ha : a < t.length) : putL (putL t a (len1 sg t a) u) a u.length (subL sg t a) = t := by
 have h := term_at hok ha
 have e1 : (putL t a (len1 sg t a) u).take a = t.take a := by
  unfold putL
  rw [List.take_append_of_le_length (by simp; omega), List.take_take, Nat.min_self]
 have e2 : (putL t a (len1 sg t a) u).drop (a + u.length) = t.drop (a + len1 sg t a) := by
  rw [← List.drop_drop, drop_at (by omega), List.drop_left']
  rfl
 unfold putL at e1 e2 ⊢
 rw [e1, e2]
 unfold subL
 rw [← List.drop_drop, List.take_append_drop, List.take_append_drop]
theorem drop_low {p : Nat} (hp : p ≤ a) (ha : a ≤ t.length) (i : Nat) : (putL t a i u).drop p = putL (t.drop p) (a - p) i u := by
 unfold putL
 rw [List.drop_append_of_le_length (by simp; omega), List.drop_take, List.drop_drop, show p + (a - p + i) = a + i by omega]
theorem drop_high {p : Nat} (hp : a + len1 sg t a ≤ p) (hok : termOkB sg t = true) (ha : a < t.length) : (putL t a (len1 sg t a) u).drop (p - len1 sg t a + u.length) = t.drop p := by
 rw [show p - len1 sg t a + u.length = a + (u.length + (p - (a + len1 sg t a))) by omega, ← List.drop_drop, drop_at (by omega), ← List.drop_drop, List.drop_left' rfl, List.drop_drop]
 congr 1
 omega
def Out (sg t : List Int) (a r : Nat) : Prop := r ≤ a ∨ a + len1 sg t a ≤ r
theorem put_row (hok : termOkB sg t = true) (hu : termOkB sg u = true) (ha : a < t.length) {p j : Nat} (hp : Out sg t a p) (hs : scan sg 1 (t.drop p) = some j) :
  scan sg 1 ((putL t a (len1 sg t a) u).drop (mv a (len1 sg t a) u.length p)) = some (mv a (len1 sg t a) u.length (p + j) - mv a (len1 sg t a) u.length p) ∧ mv a (len1 sg t a) u.length p ≤ mv a (len1 sg t a) u.length (p + j) ∧ Out sg t a (p + j) := by
 have hA := term_at hok ha
 have hU := (term_parts hu).2.2
 have hj := scan_pos (q := 0) hs
 unfold Out at hp ⊢
 unfold mv
 rcases hp with hp | hp
 ·rcases Nat.lt_or_ge p a with hlt | hge
  ·rw [if_pos hp]
   by_cases hin : p + j ≤ a
   ·rw [if_pos hin, drop_low hp (by omega)]
    refine ⟨?_, by omega, .inl hin⟩
    rw [show p + j - p = j by omega]
    refine scan_same hs ?_
    unfold putL
    rw [List.take_append_of_le_length (by simp; have := scan_le hs; simp at this; omega), List.take_take, Nat.min_eq_left (by omega)]
   ·rw [if_neg hin, drop_low hp (by omega)]
    have hd : scan sg 1 ((t.drop p).drop (a - p)) = some (len1 sg t a) := by rw [List.drop_drop, show p + (a - p) = a by omega]; exact hA.1
    obtain ⟨e1, e2⟩ := scan_put hU hs (show a - p < j by omega) hd
    refine ⟨?_, by omega, .inr (by omega)⟩
    rw [e2]
    congr 1
    omega
  ·obtain rfl : p = a := by omega
   rw [hA.1] at hs
   injection hs with hs
   subst hs
   rw [if_pos (Nat.le_refl _), if_neg (by omega), drop_at (by omega)]
   refine ⟨?_, by omega, .inr (Nat.le_refl _)⟩
   rw [scan_append hU]
   congr 1
   omega
 ·rw [if_neg (by omega), if_neg (by omega), drop_high hp hok ha]
  refine ⟨?_, by omega, .inr (by omega)⟩
  rw [hs]
  congr 1
  omega
theorem put_args (hok : termOkB sg t = true) (hu : termOkB sg u = true) (ha : a < t.length) : ∀ {k q p i : Nat}, Out sg t a p → scan sg q (t.drop p) = some i → k ≤ q →
  argP sg (putL t a (len1 sg t a) u) k (mv a (len1 sg t a) u.length p) = mv a (len1 sg t a) u.length (argP sg t k p) ∧ Out sg t a (argP sg t k p) := by
 intro k
 induction k with
 | zero => intro q p i hp _ _; exact ⟨rfl, hp⟩
 | succ k ih =>
  intro q p i hp hs hk
  obtain ⟨q, rfl⟩ : ∃ q', q = q' + 1 := ⟨q - 1, by omega⟩
  obtain ⟨j, e1, e2, e3, e4⟩ := scan_first hs
  obtain ⟨r1, r2, r3⟩ := put_row (u := u) hok hu ha hp e1
  have hj := len1_eq e1
  have hl := len1_eq r1
  obtain ⟨g1, g2⟩ := ih r3 e4 (by omega)
  have ea : argP sg t (k + 1) p = argP sg t k (p + j) := by show argP sg t k (p + len1 sg t p) = _; rw [hj]
  rw [ea]
  refine ⟨?_, g2⟩
  rw [← g1]
  show argP sg _ k (mv a (len1 sg t a) u.length p + len1 sg _ (mv a (len1 sg t a) u.length p)) = _
  rw [hl]
  congr 1
  omega
theorem put_head (hok : termOkB sg t = true) (ha : a < t.length) {r : Nat} (hr : r < a ∨ a + len1 sg t a ≤ r) : (putL t a (len1 sg t a) u).getD (mv a (len1 sg t a) u.length r) 0 = t.getD r 0 := by
 have hA := term_at hok ha
 unfold mv
 rcases hr with hr | hr
 ·rw [if_pos (by omega)]
  unfold putL
  simp only [List.getD_eq_getElem?_getD]
  rw [List.getElem?_append_left (by simp; omega), List.getElem?_take, if_pos hr]
 ·rw [if_neg (by omega)]
  have h0 := congrArg (fun l => l[0]?) (drop_high (u := u) hr hok ha)
  simp only [List.getElem?_drop, Nat.add_zero] at h0
  simp only [List.getD_eq_getElem?_getD, h0]
theorem put_walk (hok : termOkB sg t = true) (hu : termOkB sg u = true) (ha : a < t.length) {p : Nat} (hp : p < a ∨ a + len1 sg t a ≤ p) (hpt : p < t.length) {r : Nat} {ab pa : List Int} (hw : Trail sg t p r ab pa) :
  Out sg t a r → walkI sg (putL t a (len1 sg t a) u) (mv a (len1 sg t a) u.length r) pa = (mv a (len1 sg t a) u.length p : Int) := by
 induction hw with
 | here => intro _; rfl
 | @down r k ab pa h1 h2 h3 h4 h5 h6 hw ih =>
  intro hr
  have hA := term_at hok ha
  unfold Out at hr
  have hr' : r < a ∨ a + len1 sg t a ≤ r := by
   rcases hr with hr | hr
   ·by_cases e : r = a
    ·subst e; exfalso; omega
    ·exact .inl (by omega)
   ·exact .inr hr
  have hh := put_head (u := u) hok ha hr'
  have hm : mv a (len1 sg t a) u.length (r + 1) = mv a (len1 sg t a) u.length r + 1 := by
   unfold mv
   rcases hr' with h | h
   ·rw [if_pos (by omega), if_pos (by omega)]
   ·rw [if_neg (by omega), if_neg (by omega)]; omega
  obtain ⟨_, i, e, hs⟩ := head_scan hok (show r < t.length by omega)
  obtain ⟨g1, g2⟩ := put_args (u := u) hok hu ha (p := r + 1) (by unfold Out; omega) hs (Nat.le_of_lt h2)
  rw [walk_step (by unfold arN at h2 ⊢; rw [hh]; exact h2), ← hm, g1]
  exact ih g2
theorem sub_drop {X : List Int} {q p : Nat} (e : X.drop q = t.drop p) : subL sg X q = subL sg t p := by
 unfold subL len1
 rw [e]
theorem put_apart (hok : termOkB sg t = true) (hu : termOkB sg u = true) (ha : a < t.length) {p : Nat} (hpt : p < t.length) (hp : p + len1 sg t p ≤ a ∨ a + len1 sg t a ≤ p) :
  subL sg (putL t a (len1 sg t a) u) (mv a (len1 sg t a) u.length p) = subL sg t p ∧ mv a (len1 sg t a) u.length p < (putL t a (len1 sg t a) u).length := by
 have hA := term_at hok ha
 have hP := term_at hok hpt
 have hU := term_len hu
 unfold mv
 rw [put_len hok ha]
 rcases hp with hp | hp
 ·rw [if_pos (by omega)]
  refine ⟨?_, by omega⟩
  have et : ((putL t a (len1 sg t a) u).drop p).take (len1 sg t p) = (t.drop p).take (len1 sg t p) := by
   rw [drop_low (by omega) (by omega)]
   unfold putL
   rw [List.take_append_of_le_length (by simp; omega), List.take_take, Nat.min_eq_left (by omega)]
  have hs := scan_same hP.1 et.symm
  unfold subL
  rw [len1_eq hs, et]
 ·rw [if_neg (by omega)]
  refine ⟨?_, by omega⟩
  exact sub_drop (drop_high (u := u) hp hok ha)
end
end putMath
end
section
open Go.Lib (hid)
namespace put
open Go.RowKit segsHelp base ints sig term arity endOf cursor termOk endAt inside marks app sym sub segs posMath putMath concat
set_option maxRecDepth 100000
theorem Seg.front {w : World} {B b off m a : Nat} {t : List Int} (h : Seg w B (some ⟨b, off, none⟩) m t) (ha : a ≤ m) : Seg w B (some ⟨b, off, none⟩) a (t.take a) := by
 have := Seg.cut (a := 0) (j := a) h (by omega)
 simpa using this
theorem Seg.back {w : World} {B b off m e : Nat} {t : List Int} (h : Seg w B (some ⟨b, off, none⟩) m t) (he : e ≤ m) : Seg w B (some ⟨b, off + e, none⟩) (m - e) (t.drop e) := by
 have := Seg.cut (a := e) (j := m - e) h (by omega)
 rwa [List.take_of_length_le (by simp [h.1])] at this
theorem Seg.none_any {w : World} {B : Nat} {A : Option Addr} {t : List Int} (h : t = []) : Seg w B A 0 t := ⟨by rw [h]; rfl, fun h => absurd h (Nat.lt_irrefl _)⟩
def putI (sg t u : List Int) (a : Nat) : List Int := putL t a (len1 sg t a) u
def AnsPut (w : World) (ys : List Int) (b : Bool) (e : Ending) (w' : World) : Prop := ∃ A n c, e = .returned (.tuple #[.slice A n c, .bool b]) ∧ Own w' w.heap.size (.slice A n c) ys ∧ Below w.heap.size w w'
def fitB (sg t u : List Int) (a : Nat) : Bool := decide ((putI sg t u a).length ≤ 60)
def fitL (sg t u : List Int) (a : Nat) : List Int := if fitB sg t u a = true then putI sg t u a else []
set_option maxHeartbeats 1000000 in
theorem l3Put (A A' U : Option Addr) (n c m c' un uc : Nat) (sg t u : List Int) (a : Nat) (w : World) (h : Seg w w.heap.size A n sg) (h' : Seg w w.heap.size A' m t) (hu : Seg w w.heap.size U un u) (hcu : U = none → uc = 0) (hn : n ≤ 1048576) (hm : m ≤ 1048576) (hun : un ≤ 60) (hc' : m ≤ c') (hc2 : c' ≤ 9223372036854775807)
  (hok : termOkB sg t = true) (hat : a < t.length) :
  Calls Try.prog 88 #[.agg #[.slice A n c], .slice A' m c', .int .i64 (a : Int), .slice U un uc] w (AnsPut w (fitL sg t u a) (fitB sg t u a)) := by
 have ham : a < m := by rw [h'.1] at hat; exact hat
 obtain ⟨b, off, x, rfl, -, -, -⟩ := h'.spot ham
 obtain ⟨W, hW⟩ : ∃ W, W = w.alloc (.cells #[.slice A n c] 26) := ⟨_, rfl⟩
 have f : Fr w W A n c sg (some ⟨b, off, none⟩) m t := by rw [hW]; exact Fr.start h h'
 have hU : Seg W w.heap.size U un u := hu.below f.b
 have HW := hid hW
 obtain ⟨j, hj⟩ : ∃ j, len1 sg t a = j := ⟨_, rfl⟩
 obtain ⟨t1, t2, t3⟩ := term_at hok hat
 have hars := (sig_arities (termOk_parts hok).1).1
 rw [hj] at t1 t2 t3
 rw [h'.1] at t3
 have h60 : m ≤ 60 := by have := (termOk_parts hok).2.1; rw [h'.1] at this; exact this
 have HE := hid (endI_some t1)
 have HTL := hid hat
 have HPI := hid (show putI sg t u a = t.take a ++ u ++ t.drop (a + j) by unfold putI putL; rw [hj, List.append_assoc])
 have hpl : (putI sg t u a).length = a + un + (m - (a + j)) := by rw [HPI.out]; simp [h'.1, hu.1]; omega
 have HPL := hid hpl
 have LC := hid (copyInts (some ⟨b, off, none⟩) a c' (t.take a) W ((Seg.front f.t1 (by omega))) (fun e => by cases e) (by omega))
 have HCU := hid hcu
 have i0 : (0 : Int) ≤ (a : Int) := by omega
 have i1 : (a : Int) ≤ (c' : Int) := by omega
 have i2 : (a : Int) + (j : Int) ≤ (c' : Int) := by omega
 have i3 : (a : Int) + (j : Int) ≤ (m : Int) := by omega
 clear hW h h' hu hj t1 hok hat hcu hpl
 go_enter Try.func88, Try.ntmps88
 go_wp2_with fail
 rw [← HW.out]
 refine LC.out.mono ?_
 rintro e w1 ⟨O1, n1, c1, rfl, o1, bb⟩
 have hta : (t.take a).length = a := by rw [List.length_take]; have := HTL.out; omega
 obtain rfl : n1 = a := by rw [Own.len o1, hta]
 replace hU := hU.below (bb.mono (Nat.le_of_lt f.size))
 replace o1 := Own.lower (base' := w.heap.size + 1) o1 f.size
 replace f := f.next bb
 have z1 : w.heap.size + 1 ≤ w1.heap.size := f.size
 clear bb hta LC
 go_wp2_with (at_builtin; refine appAll rfl _ _ rfl (w.heap.size + 1) O1 n1 c1 _ rfl o1 U un uc w.heap.size u rfl hU HCU.out (by omega) (by omega) z1 ?_; intro O2 c2 w2 o2 b2; have f2 := f.over b2; have cA2 : w2.cell? ⟨w.heap.size, 0, none⟩ = some (.slice A n c) := f2.cell)
 clear o1 b2 f hU z1 cA2
 replace f := f2
 clear f2
 have cA := f.cell
 obtain ⟨k, hk⟩ : ∃ k, n1 + j = k := ⟨_, rfl⟩
 rw [hk] at HPI HPL t3
 have HEK := hid (show endI sg t n1 = (k : Int) by rw [HE.out, ← hk]; omega)
 have hn1k : n1 ≤ k := by omega
 clear HE hk i2 i3 t2
 refine (specEnd A _ n c m c' sg t (n1 : Int) _ f.s1 f.t1 hn hm hars i0 (by omega)).mono ?_
 rintro e w3 ⟨he, bb⟩
 rw [Int.toNat_natCast, HEK.out] at he
 subst he
 replace f := f.next bb
 replace o2 := Own.next o2 bb
 clear bb cA
 have i2 : (k : Int) ≤ (c' : Int) := by omega
 have i4 : (k : Int) ≤ (m : Int) := by omega
 have z1 : w.heap.size + 1 ≤ w3.heap.size := f.size
 by_cases hce : c' = k
 ·subst hce
  have hmk : m - c' = 0 := by omega
  have HSG := hid (show Seg w3 w.heap.size (some ⟨b, off, none⟩) 0 [] from Seg.none_any rfl)
  have HPI2 := hid (show putI sg t u n1 = t.take n1 ++ u ++ [] by rw [HPI.out, List.drop_eq_nil_of_le (by rw [f.t1.1]; omega)])
  have HPL2 := hid (show (putI sg t u n1).length = n1 + un by rw [HPL.out, hmk]; rfl)
  clear hmk HPL HPI
  by_cases h6 : n1 + un ≤ 60
  ·have h7 : ¬ (60 : Int) < (n1 : Int) + (un : Int) := by omega
   go_wp2_with (at_builtin; refine appAll rfl _ _ rfl (w.heap.size + 1) O2 (n1 + un) c2 _ rfl o2 (some ⟨b, off, none⟩) 0 0 w.heap.size [] rfl HSG.out (fun e => by cases e) (by omega) (by omega) z1 ?_; intro O4 c4 w4 o4 b4)
   replace f := f.over b4
   have F : AnsPut w (fitL sg t u n1) (fitB sg t u n1) (.returned (.tuple #[.slice O4 (n1 + un) c4, .bool true])) w4 := ⟨O4, _, c4, by rw [show fitB sg t u n1 = true by unfold fitB; rw [HPL2.out]; exact decide_eq_true h6], by unfold fitL; rw [if_pos (by unfold fitB; rw [HPL2.out]; exact decide_eq_true h6), HPI2.out]; exact Own.lower o4 (Nat.le_succ _), f.b⟩
   have HF := hid F
   clear F o4 f
   go_ret2
   exact HF.out
  ·have h7 : (60 : Int) < (n1 : Int) + (un : Int) := by omega
   go_wp2_with (at_builtin; refine appAll rfl _ _ rfl (w.heap.size + 1) O2 (n1 + un) c2 _ rfl o2 (some ⟨b, off, none⟩) 0 0 w.heap.size [] rfl HSG.out (fun e => by cases e) (by omega) (by omega) z1 ?_; intro O4 c4 w4 o4 b4)
   replace f := f.over b4
   have F : AnsPut w (fitL sg t u n1) (fitB sg t u n1) (.returned (.tuple #[.slice (some ⟨w4.heap.size, 0, none⟩) 0 0, .bool false])) (w4.alloc (.cells #[] 2)) := ⟨_, 0, 0, by rw [show fitB sg t u n1 = false by unfold fitB; rw [HPL2.out]; exact decide_eq_false h6], by unfold fitL; rw [if_neg (by unfold fitB; rw [HPL2.out, decide_eq_false h6]; simp)]; exact own_empty w4 w.heap.size (Nat.le_of_lt f.size), (f.alloc _).b⟩
   have HF := hid F
   clear F o4 f
   go_ret2
   exact HF.out
 ·have HSG := hid (Seg.back f.s' (e := k) t3)
  obtain ⟨r, hr⟩ : ∃ r, m - k = r := ⟨_, rfl⟩
  rw [hr] at HPL HSG
  have hr60 : r ≤ 60 := by omega
  by_cases h6 : n1 + un + r ≤ 60
  ·have h7 : ¬ (60 : Int) < (n1 : Int) + (un : Int) + (r : Int) := by omega
   go_wp2_with (at_builtin; refine appAll rfl _ _ rfl (w.heap.size + 1) O2 (n1 + un) c2 _ rfl o2 (some ⟨b, off + k, none⟩) r (c' - k) w.heap.size (t.drop k) rfl HSG.out (fun e => by cases e) (by omega) (by omega) z1 ?_; intro O4 c4 w4 o4 b4)
   replace f := f.over b4
   have F : AnsPut w (fitL sg t u n1) (fitB sg t u n1) (.returned (.tuple #[.slice O4 (n1 + un + r) c4, .bool true])) w4 := ⟨O4, _, c4, by rw [show fitB sg t u n1 = true by unfold fitB; rw [HPL.out]; exact decide_eq_true h6], by unfold fitL; rw [if_pos (by unfold fitB; rw [HPL.out]; exact decide_eq_true h6), HPI.out]; exact Own.lower o4 (Nat.le_succ _), f.b⟩
   have HF := hid F
   clear F o4 f
   go_ret2
   exact HF.out
  ·have h7 : (60 : Int) < (n1 : Int) + (un : Int) + (r : Int) := by omega
   go_wp2_with (at_builtin; refine appAll rfl _ _ rfl (w.heap.size + 1) O2 (n1 + un) c2 _ rfl o2 (some ⟨b, off + k, none⟩) r (c' - k) w.heap.size (t.drop k) rfl HSG.out (fun e => by cases e) (by omega) (by omega) z1 ?_; intro O4 c4 w4 o4 b4)
   replace f := f.over b4
   have F : AnsPut w (fitL sg t u n1) (fitB sg t u n1) (.returned (.tuple #[.slice (some ⟨w4.heap.size, 0, none⟩) 0 0, .bool false])) (w4.alloc (.cells #[] 2)) := ⟨_, 0, 0, by rw [show fitB sg t u n1 = false by unfold fitB; rw [HPL.out]; exact decide_eq_false h6], by unfold fitL; rw [if_neg (by unfold fitB; rw [HPL.out, decide_eq_false h6]; simp)]; exact own_empty w4 w.heap.size (Nat.le_of_lt f.size), (f.alloc _).b⟩
   have HF := hid F
   clear F o4 f
   go_ret2
   exact HF.out
def putB (sg t u : List Int) (x : Int) : Bool := (thereB sg t x && termOkB sg u) && fitB sg t u x.toNat
def putR (sg t u : List Int) (x : Int) : List Int := if putB sg t u x = true then putI sg t u x.toNat else []
theorem put_no {sg t u : List Int} {x : Int} (h : thereB sg t x = false ∨ termOkB sg u = false) : putB sg t u x = false ∧ putR sg t u x = [] := by
 have e : putB sg t u x = false := by
  unfold putB
  rcases h with h | h <;> rw [h] <;> simp
 exact ⟨e, by unfold putR; rw [if_neg (by rw [e]; simp)]⟩
theorem put_yes {sg t u : List Int} {a : Nat} (h1 : thereB sg t (a : Int) = true) (h2 : termOkB sg u = true) : putB sg t u (a : Int) = fitB sg t u a ∧ putR sg t u (a : Int) = fitL sg t u a := by
 have e : putB sg t u (a : Int) = fitB sg t u a := by unfold putB; rw [h1, h2, Int.toNat_natCast]; rfl
 exact ⟨e, by unfold putR fitL; rw [e, Int.toNat_natCast]⟩
theorem putR_len {sg t u : List Int} {x : Int} : (putR sg t u x).length ≤ 60 := by
 unfold putR
 split
 ·rename_i h
  unfold putB fitB at h
  simp only [Bool.and_eq_true, decide_eq_true_eq] at h
  exact h.2
 ·simp
theorem ansPut_no {w w' : World} {sg t u : List Int} {x : Int} {A : Option Addr} {c : Nat} (h : thereB sg t x = false ∨ termOkB sg u = false) (ho : Own w' w.heap.size (.slice A 0 c) []) (hb : Below w.heap.size w w') : AnsPut w (putR sg t u x) (putB sg t u x) (.returned (.tuple #[.slice A 0 c, .bool false])) w' := by
 obtain ⟨e1, e2⟩ := put_no h
 exact ⟨A, 0, c, by rw [e1], by rw [e2]; exact ho, hb⟩
set_option maxHeartbeats 1000000 in
theorem specPutAt (A A' U : Option Addr) (n c m c' un uc : Nat) (sg t : List Int) (x : Int) (u : List Int) (w : World) (h : Seg w w.heap.size A n sg) (h' : Seg w w.heap.size A' m t) (hu : Seg w w.heap.size U un u) (hn : n ≤ 1048576) (hm : m ≤ 1048576) (hun : un ≤ 1048576)
  (hcu : U = none → uc = 0) (hc' : m ≤ c') (hc2 : c' ≤ 9223372036854775807) :
  Calls Try.prog 43 #[.agg #[.slice A n c], .slice A' m c', .int .i64 x, .slice U un uc] w (AnsPut w (putR sg t u x) (putB sg t u x)) := by
 obtain ⟨W, hW⟩ : ∃ W, W = w.alloc (.cells #[.slice A n c] 26) := ⟨_, rfl⟩
 have f : Fr w W A n c sg A' m t := by rw [hW]; exact Fr.start h h'
 have hU : Seg W W.heap.size U un u := (hu.below f.b).more (Nat.le_of_lt f.size)
 have HW := hid hW
 have L := hid (right A A' n c m c' sg t x W f.s1 f.t1 hn hm)
 clear hW h h' hu
 cases hx : thereB sg t x with
 | false =>
  have HX := hid hx
  clear hx
  go_enter Try.func43, Try.ntmps43
  go_wp2_with fail
  rw [← HW.out]
  refine L.out.mono ?_
  rintro e w1 ⟨he, bb⟩
  rw [HX.out] at he
  subst he
  have F := hid (ansPut_no (w := w) (u := u) (.inl HX.out) (own_empty w1 w.heap.size (f.next bb).b.size) ((f.next bb).alloc _).b)
  clear f L bb hU
  go_wp2
  go_ret2
  exact F.out
 | true =>
  have HX := hid hx
  obtain ⟨hok, i0, i1⟩ := there_parts hx
  obtain ⟨a, rfl⟩ := Int.eq_ofNat_of_zero_le i0
  have HOK := hid hok
  have HAL := hid (show a < t.length by omega)
  clear hx hok i0 i1
  cases hku : termOkB sg u with
  | false =>
   have HU := hid hku
   clear hku
   go_enter Try.func43, Try.ntmps43
   go_wp2_with fail
   rw [← HW.out]
   refine L.out.mono ?_
   rintro e w1 ⟨he, bb⟩
   rw [HX.out] at he
   subst he
   replace f := f.next bb
   replace hU := hU.next bb
   have cA := f.cell
   clear bb L
   go_wp2_with fail
   refine (specTermOk A U n c un uc sg u _ f.s1 hU hn hun).mono ?_
   rintro e w2 ⟨he, bb⟩
   rw [HU.out] at he
   subst he
   have F := hid (ansPut_no (w := w) (t := t) (x := (a : Int)) (.inr HU.out) (own_empty w2 w.heap.size (f.next bb).b.size) ((f.next bb).alloc _).b)
   clear f bb hU cA
   go_wp2
   go_ret2
   exact F.out
  | true =>
   have HU := hid hku
   have hu60 : un ≤ 60 := by have h1 := (termOk_parts hku).2.1; rw [hU.1] at h1; exact h1
   have HP := hid (put_yes HX.out hku)
   clear hku
   go_enter Try.func43, Try.ntmps43
   go_wp2_with fail
   rw [← HW.out]
   refine L.out.mono ?_
   rintro e w1 ⟨he, bb⟩
   rw [HX.out] at he
   subst he
   replace f := f.next bb
   replace hU := hU.next bb
   have cA := f.cell
   clear bb L
   go_wp2_with fail
   refine (specTermOk A U n c un uc sg u _ f.s1 hU hn hun).mono ?_
   rintro e w2 ⟨he, bb⟩
   rw [HU.out] at he
   subst he
   replace f := f.next bb
   replace hU := hU.next bb
   clear bb cA
   have cA := f.cell
   go_wp2_with fail
   refine (l3Put A A' U n c m c' un uc sg t u a _ f.s1 f.t1 hU hcu hn hm hu60 hc' hc2 HOK.out HAL.out).mono ?_
   rintro e w3 ⟨A2, n2, c2, rfl, o2, bb⟩
   have F : AnsPut w (putR sg t u (a : Int)) (putB sg t u (a : Int)) (.returned (.tuple #[.slice A2 n2 c2, .bool (fitB sg t u a)])) w3 := ⟨A2, n2, c2, by rw [HP.out.1], by rw [HP.out.2]; exact Own.lower o2 (Nat.le_of_lt f.size), (f.next bb).b⟩
   replace F := hid F
   clear f bb hU cA o2 HP
   generalize fitB sg t u a = b at *
   go_wp2
   go_ret2
   exact F.out
set_option maxHeartbeats 400000 in
theorem tooLong (A : Option Addr) (n c : Nat) (w : World) (hn : n ≤ 9223372036854775807) :
  Calls Try.prog 87 #[.slice A n c] w fun e w' => w = w' ∧ e = .returned (.bool (decide (60 < n))) := by
 have E : decide ((60 : Int) < (n : Int)) = decide (60 < n) := decide_eq_decide.2 (by omega)
 rw [← E]
 have HE := hid E
 clear E
 generalize hz : decide ((60 : Int) < (n : Int)) = z
 have HZ := hid hz
 clear hz
 go_enter Try.func87, Try.ntmps87
 go_wp2
 go_ret
 exact ⟨rfl, by rw [← HZ.out]; rfl⟩
theorem segs3 {w : World} {t : TypeId} {A1 A2 A3 : Option Addr} {n1 c1 n2 c2 n3 c3 : Nat} {x1 x2 x3 : List Int} (h1 : Seg w w.heap.size A1 n1 x1) (h2 : Seg w w.heap.size A2 n2 x2) (h3 : Seg w w.heap.size A3 n3 x3) (k1 : Cap A1 n1 c1) (k2 : Cap A2 n2 c2) (k3 : Cap A3 n3 c3) :
  Segs (w.alloc (.cells #[.slice A1 n1 c1, .slice A2 n2 c2, .slice A3 n3 c3] t)) (w.alloc (.cells #[.slice A1 n1 c1, .slice A2 n2 c2, .slice A3 n3 c3] t)).heap.size (some ⟨w.heap.size, 0, none⟩) 3 [x1, x2, x3] := by
 have r := Row.new w t #[.slice A1 n1 c1, .slice A2 n2 c2, .slice A3 n3 c3]
 have b : Below w.heap.size w (w.alloc (.cells #[.slice A1 n1 c1, .slice A2 n2 c2, .slice A3 n3 c3] t)) := (Below.refl _ _).alloc (Nat.le_refl _) _
 refine ⟨rfl, fun _ => ⟨w.heap.size, 0, rfl, r.lt, fun j hj => ?_⟩⟩
 rw [Nat.zero_add, r.cell j]
 rcases (show j = 0 ∨ j = 1 ∨ j = 2 by omega) with rfl | rfl | rfl
 ·exact ⟨A1, n1, c1, rfl, h1.next b, k1⟩
 ·exact ⟨A2, n2, c2, rfl, h2.next b, k2⟩
 ·exact ⟨A3, n3, c3, rfl, h3.next b, k3⟩
set_option maxHeartbeats 1000000 in
theorem implPutAt (A A' U : Option Addr) (n c m c' un uc : Nat) (sg t : List Int) (x : Int) (u : List Int) (w : World) (h : Seg w w.heap.size A n sg) (h' : Seg w w.heap.size A' m t) (hu : Seg w w.heap.size U un u) (hn : n ≤ 1048576) (hm : m ≤ 1048576) (hun : un ≤ 1048576) (hx1 : -9223372036854775808 ≤ x) (hx2 : x ≤ 9223372036854775807)
  (hcu : Cap U un uc) (hc' : m ≤ c') (hc2 : c' ≤ 9223372036854775807) :
  Calls Try.prog 42 #[.agg #[.slice A n c], .slice A' m c', .int .i64 x, .slice U un uc] w (AnsPut w (putR sg t u x) (putB sg t u x)) := by
 obtain ⟨W, hW⟩ : ∃ W, W = w.alloc (.cells #[.slice A n c] 26) := ⟨_, rfl⟩
 have f : Fr w W A n c sg A' m t := by rw [hW]; exact Fr.start h h'
 have hU : Seg W W.heap.size U un u := (hu.below f.b).more (Nat.le_of_lt f.size)
 have HW := hid hW
 have HLM := hid h'.1
 have L := hid (implEndOf A A' n c m c' sg t x W f.s1 f.t1 hn hm hx1 hx2)
 clear hW h h' hu
 cases hx : thereB sg t x with
 | false =>
  have HX := hid hx
  have HE := hid (show endOfI sg t x = -1 by unfold endOfI; rw [if_neg (by rw [hx]; simp)])
  clear hx
  go_enter Try.func42, Try.ntmps42
  go_wp2_with fail
  rw [← HW.out]
  refine L.out.mono ?_
  rintro e w1 ⟨he, bb⟩
  rw [HE.out] at he
  subst he
  have F := hid (ansPut_no (w := w) (u := u) (.inl HX.out) (Own.nil w1 w.heap.size) (f.next bb).b)
  clear f L bb hU
  go_wp2
  go_ret2
  exact F.out
 | true =>
  have HX := hid hx
  obtain ⟨hok, i0, i1⟩ := there_parts hx
  obtain ⟨a, rfl⟩ := Int.eq_ofNat_of_zero_le i0
  have hal : a < t.length := by omega
  obtain ⟨k, hk⟩ : ∃ k, a + len1 sg t a = k := ⟨_, rfl⟩
  have HE := hid (show endOfI sg t (a : Int) = (k : Int) by unfold endOfI; rw [if_pos hx, Int.toNat_natCast, end_at hok hal, hk])
  have HK := hid hk
  have hkm : k ≤ m := by have h3 := (term_at hok hal).2.2; rw [HLM.out] at h3; omega
  have hak : a < k := by have h3 := (term_at hok hal).2.1; omega
  have h60 : m ≤ 60 := by have h3 := (termOk_parts hok).2.1; rw [HLM.out] at h3; exact h3
  have hneg : ¬ (k : Int) < 0 := by omega
  clear hx hok i0 i1 hk
  cases hku : termOkB sg u with
  | false =>
   have HU := hid hku
   clear hku
   go_enter Try.func42, Try.ntmps42
   go_wp2_with fail
   rw [← HW.out]
   refine L.out.mono ?_
   rintro e w1 ⟨he, bb⟩
   rw [HE.out] at he
   subst he
   replace f := f.next bb
   replace hU := hU.next bb
   have cA := f.cell
   clear bb L
   go_wp2_with fail
   refine (implTermOk A U n c un uc sg u _ f.s1 hU hn hun).mono ?_
   rintro e w2 ⟨he, bb⟩
   rw [HU.out] at he
   subst he
   have F := hid (ansPut_no (w := w) (t := t) (x := (a : Int)) (.inr HU.out) (Own.nil w2 w.heap.size) (f.next bb).b)
   clear f bb hU cA
   go_wp2
   go_ret2
   exact F.out
  | true =>
   have HU := hid hku
   have hu60 : un ≤ 60 := by have h1 := (termOk_parts hku).2.1; rw [hU.1] at h1; exact h1
   have HP := hid (put_yes HX.out hku)
   have HUL := hid hU.1
   have HPI := hid (show [t.take a, u, t.drop k].flatten = putI sg t u a by unfold putI putL; rw [HK.out]; simp)
   have HPL := hid (show (putI sg t u a).length = a + un + (m - k) by rw [← HPI.out]; simp [HUL.out, HLM.out]; omega)
   have HT := hid (show tot [t.take a, u, t.drop k] ≤ 1048576 by unfold tot sumL; simp [HUL.out, HLM.out]; omega)
   clear hku
   go_enter Try.func42, Try.ntmps42
   go_wp2_with fail
   rw [← HW.out]
   refine L.out.mono ?_
   rintro e w1 ⟨he, bb⟩
   rw [HE.out] at he
   subst he
   replace f := f.next bb
   replace hU := hU.next bb
   have cA := f.cell
   clear bb L
   go_wp2_with fail
   refine (implTermOk A U n c un uc sg u _ f.s1 hU hn hun).mono ?_
   rintro e w2 ⟨he, bb⟩
   rw [HU.out] at he
   subst he
   replace f := f.next bb
   replace hU := hU.next bb
   clear bb cA
   obtain ⟨b, off, y, rfl, -, -, -⟩ := f.t1.spot (show a < m by omega)
   have i0 : (0 : Int) ≤ (a : Int) := by omega
   have i1 : (a : Int) ≤ (c' : Int) := by omega
   have i2 : (k : Int) ≤ (c' : Int) := by omega
   have i3 : (k : Int) ≤ (m : Int) := by omega
   have i4 : (0 : Int) ≤ (k : Int) := by omega
   have SF := Seg.front f.t1 (show a ≤ m by omega)
   by_cases hce : c' = k
   ·subst hce
    have hmk : m - c' = 0 := by omega
    have S3 := hid (segs3 (t := 24) (A3 := some ⟨b, off, none⟩) (c3 := 0) SF hU (Seg.none_any (show t.drop c' = [] from List.drop_eq_nil_of_le (by rw [f.t1.1]; omega))) ⟨show a ≤ c' by omega, hc2, fun e => by cases e⟩ hcu ⟨Nat.le_refl _, by omega, fun _ => rfl⟩).drew
    rw [hmk] at HPL
    clear SF hmk
    go_wp2_with fail
    go_region_held3 (fun _ => True)
     (trivial)
     (first
      | (go_at_call 86; refine (concat _ _ _ _ _ S3.out HT.out).mono ?_; rintro e w4 ⟨O4, n4, c4, rfl, o4, b4⟩))
    have hn4 : n4 = a + un + 0 := by rw [Own.len o4, HPI.out]; exact HPL.out
    have bf := (((Below.refl w2.heap.size w2).alloc (Nat.le_refl _) (.cells #[.slice (some ⟨b, off, none⟩) a c', .slice U un uc, .slice (some ⟨b, off, none⟩) 0 0] 24)).drew).trans (b4.mono (by simp))
    have hsz := f.size
    replace f := f.next bf
    replace o4 := Own.lower (base' := w.heap.size) o4 (by simp; omega)
    obtain ⟨z, hz⟩ : ∃ z, fitB sg t u a = z := ⟨_, rfl⟩
    have F : AnsPut w (putR sg t u (a : Int)) (putB sg t u (a : Int)) (.returned (.tuple #[if z = true then .slice O4 n4 c4 else .slice none 0 0, .bool z])) w4 := by
     refine ⟨if z = true then O4 else none, if z = true then n4 else 0, if z = true then c4 else 0, ?_, ?_, f.b⟩
     ·rw [HP.out.1, hz]; cases z <;> rfl
     ·rw [HP.out.2]
      unfold fitL
      rw [hz]
      cases z with
      | false => exact Own.nil _ _
      | true => rw [HPI.out] at o4; exact o4
    have HF := hid F
    have HTL := hid (show decide (60 < n4) = !z by
     rw [← hz]
     unfold fitB
     rw [HPL.out, hn4]
     by_cases e : a + un + 0 ≤ 60
     ·rw [decide_eq_true e, decide_eq_false (by omega)]; rfl
     ·rw [decide_eq_false e, decide_eq_true (by omega)]; rfl)
    have h463 : n4 ≤ 9223372036854775807 := by omega
    clear F o4 b4 f hz hn4 bf S3 hU
    go_wp2_with fail
    refine (tooLong O4 n4 c4 w4 h463).mono ?_
    rintro e w5 ⟨rfl, rfl⟩
    rw [HTL.out]
    cases z with
    | false =>
     go_wp2
     go_ret2
     exact HF.out
    | true =>
     go_wp2
     go_ret2
     exact HF.out
   ·obtain ⟨r, hr⟩ : ∃ r, m - k = r := ⟨_, rfl⟩
    have SB := Seg.back f.t1 hkm
    rw [hr] at SB HPL
    have hr60 : r ≤ 60 := by omega
    have S3 := hid (segs3 (t := 24) SF hU SB ⟨show a ≤ c' by omega, hc2, fun e => by cases e⟩ hcu ⟨show r ≤ c' - k by omega, by omega, fun e => by cases e⟩).drew
    clear SF SB
    go_wp2_with fail
    go_region_held3 (fun _ => True)
     (trivial)
     (first
      | (go_at_call 86; refine (concat _ _ _ _ _ S3.out HT.out).mono ?_; rintro e w4 ⟨O4, n4, c4, rfl, o4, b4⟩))
    have hn4 : n4 = a + un + r := by rw [Own.len o4, HPI.out]; exact HPL.out
    have bf := (((Below.refl w2.heap.size w2).alloc (Nat.le_refl _) (.cells #[.slice (some ⟨b, off, none⟩) a c', .slice U un uc, .slice (some ⟨b, off + k, none⟩) r (c' - k)] 24)).drew).trans (b4.mono (by simp))
    have hsz := f.size
    replace f := f.next bf
    replace o4 := Own.lower (base' := w.heap.size) o4 (by simp; omega)
    obtain ⟨z, hz⟩ : ∃ z, fitB sg t u a = z := ⟨_, rfl⟩
    have F : AnsPut w (putR sg t u (a : Int)) (putB sg t u (a : Int)) (.returned (.tuple #[if z = true then .slice O4 n4 c4 else .slice none 0 0, .bool z])) w4 := by
     refine ⟨if z = true then O4 else none, if z = true then n4 else 0, if z = true then c4 else 0, ?_, ?_, f.b⟩
     ·rw [HP.out.1, hz]; cases z <;> rfl
     ·rw [HP.out.2]
      unfold fitL
      rw [hz]
      cases z with
      | false => exact Own.nil _ _
      | true => rw [HPI.out] at o4; exact o4
    have HF := hid F
    have HTL := hid (show decide (60 < n4) = !z by
     rw [← hz]
     unfold fitB
     rw [HPL.out, hn4]
     by_cases e : a + un + r ≤ 60
     ·rw [decide_eq_true e, decide_eq_false (by omega)]; rfl
     ·rw [decide_eq_false e, decide_eq_true (by omega)]; rfl)
    have h463 : n4 ≤ 9223372036854775807 := by omega
    clear F o4 b4 f hz hn4 bf S3 hU
    go_wp2_with fail
    refine (tooLong O4 n4 c4 w4 h463).mono ?_
    rintro e w5 ⟨rfl, rfl⟩
    rw [HTL.out]
    cases z with
    | false =>
     go_wp2
     go_ret2
     exact HF.out
    | true =>
     go_wp2
     go_ret2
     exact HF.out
end put
end
section
namespace pathSpec
open Go.RowKit base ints sig term arity endOf cursor termOk endAt inside marks app appAt sym args posMath
set_option maxRecDepth 100000
theorem own_lt {w : World} {base : Nat} {A : Option Addr} {n c : Nat} {xs : List Int} (h : Own w base (.slice A n c) xs) : ∀ k, blk A = some k → base ≤ k ∧ k < w.heap.size := fun k hk => World.ownsRow.lt h k (by rw [blk_own]; exact hk)
def PathIs (sg t : List Int) (x : Int) (pa : List Int) : Prop := (thereB sg t x = true ∧ ∃ ab, Trail sg t x.toNat 0 ab pa) ∨ (thereB sg t x = false ∧ pa = [])
theorem path_ex (sg t : List Int) (x : Int) : ∃ pa, PathIs sg t x pa := by
 cases h : thereB sg t x with
 | false => exact ⟨[], .inr ⟨h, rfl⟩⟩
 | true =>
  obtain ⟨hok, h0, h1⟩ := there_parts h
  obtain ⟨ab, pa, hw⟩ := way_root hok (show x.toNat < t.length by omega)
  exact ⟨pa, .inl ⟨h, ab, hw⟩⟩
theorem PathIs.len {sg t : List Int} {x : Int} {pa : List Int} (h : PathIs sg t x pa) : pa.length ≤ 60 := by
 rcases h with ⟨e, ab, hw⟩ | ⟨e, rfl⟩
 ·obtain ⟨hok, h0, h1⟩ := there_parts e
  have := hw.le
  have := (termOk_parts hok).2.1
  omega
 ·simp
theorem ins_nat {sg t : List Int} (hok : termOkB sg t = true) {k a : Nat} (hk : k < t.length) : insI sg t (k : Int) (a : Int) = decide (k ≤ a ∧ a < k + len1 sg t k) := by
 unfold insI
 rw [Int.toNat_natCast, end_at hok hk]
 exact decide_eq_decide.2 ⟨fun h => ⟨by omega, by omega⟩, fun h => ⟨by omega, by omega⟩⟩
theorem list_of {w w' : World} {xs ys : List Int} {A : Option Addr} {n c base : Nat} (e : ys = xs) (ho : Own w' base (.slice A n c) xs) (hB : w.heap.size ≤ base) (hb : Below w.heap.size w w') : AnsList w ys (.returned (.slice A n c)) w' :=
 ⟨A, n, c, rfl, by rw [e]; exact Own.lower ho hB, hb⟩
theorem app1At {w : World} {ops : Array Oper} {rest : List Oper} {o : Oper} {a : Act} {Q : Exit → Act → World → Prop} (hgd : o.guard = none) (s x : Operand)
  (ho : o.op = .call { callee := .builtin .append, args := #[s, x], argTypes := #[24, 24] })
  (base : Nat) (A : Option Addr) (n c : Nat) (xs : List Int) (hs : a.eval s = .slice A n c) (hown : Own w base (.slice A n c) xs)
  (g c2 : Nat) (y : Int) (hx : a.eval x = .slice (some ⟨g, 0, none⟩) 1 c2) (hy : w.cell? ⟨g, 0, none⟩ = some (.int .i64 y)) (hn : n ≤ 2097152) (hbase : base ≤ w.heap.size)
  (h : ∀ A' c' w', Own w' base (.slice A' (n + 1) c') (xs ++ [y]) → w.grownBy w' (blk A) → (blk A' = blk A ∨ blk A' = some w.heap.size) → wpList Try.prog ops Q rest (a.put o.dst (.slice A' (n + 1) c')) w') : wpList Try.prog ops Q (o :: rest) a w :=
 appAllAt hgd s x ho base A n c xs hs hown (some ⟨g, 0, none⟩) 1 c2 (g + 1) [y] hx ⟨rfl, fun _ => ⟨g, 0, rfl, Nat.lt_succ_self _, fun j hj => by
  obtain rfl : j = 0 := by omega
  exact hy⟩⟩ (Nat.le_refl _) hn (by omega) hbase h
theorem Trail.split {sg t : List Int} {a q : Nat} {ab pa : List Int} (h : Trail sg t a q ab pa) (hne : q ≠ a) : ∃ (k : Nat) (ab' pa' : List Int), ab = (q : Int) :: ab' ∧ pa = (k : Int) :: pa' ∧ q < a ∧ k < arN sg t q ∧ argP sg t k (q + 1) ≤ a ∧ a < argP sg t k (q + 1) + len1 sg t (argP sg t k (q + 1)) ∧ q < argP sg t k (q + 1) ∧ Trail sg t a (argP sg t k (q + 1)) ab' pa' := by
 cases h with
 | here => exact absurd rfl hne
 | @down _ k ab' pa' h1 h2 h3 h4 h5 h6 hw => exact ⟨k, ab', pa', rfl, rfl, h1, h2, h3, h4, h5, hw⟩
end pathSpec
end
section
open Go.Lib (hid)
namespace wayTo
open Go.RowKit base ints sig term arity endOf cursor termOk endAt inside marks app appAt sym args posMath pathSpec
set_option maxRecDepth 100000
structure Wy (w wr : World) (P : Nat) (A : Option Addr) (n c : Nat) (A' : Option Addr) (m c' : Nat) (sg t : List Int) (k : Nat) (O1 : Option Addr) (n1 c1 : Nat) (ys1 : List Int) (O2 : Option Addr) (n2 c2 : Nat) (ys2 : List Int) : Prop where
 cu : Cur wr P A n c A' m c' sg t k
 b : Below w.heap.size w wr
 hP : w.heap.size ≤ P
 o1 : Own wr (P + 1) (.slice O1 n1 c1) ys1
 o2 : Own wr (P + 1) (.slice O2 n2 c2) ys2
 dj : blk O1 = none ∨ blk O1 ≠ blk O2
section
variable {w wr w' : World} {P : Nat} {A : Option Addr} {n c : Nat} {A' : Option Addr} {m c' : Nat} {sg t : List Int} {k k' : Nat} {O1 : Option Addr} {n1 c1 : Nat} {ys1 : List Int} {O2 : Option Addr} {n2 c2 : Nat} {ys2 : List Int}
theorem Wy.lt (y : Wy w wr P A n c A' m c' sg t k O1 n1 c1 ys1 O2 n2 c2 ys2) : P < wr.heap.size := y.cu.row.lt
theorem Wy.move (y : Wy w wr P A n c A' m c' sg t k O1 n1 c1 ys1 O2 n2 c2 ys2) (hg : wr.grownBy w' (some P)) (cu : Cur w' P A n c A' m c' sg t k') : Wy w w' P A n c A' m c' sg t k' O1 n1 c1 ys1 O2 n2 c2 ys2 :=
 ⟨cu, y.b.grown hg (Nat.le_trans y.hP (Nat.le_of_lt y.lt)) (fun j hj => by injection hj with hj; rw [← hj]; exact y.hP), y.hP, Own.far y.o1 hg (fun j hj => by injection hj; omega), Own.far y.o2 hg (fun j hj => by injection hj; omega), y.dj⟩
theorem Wy.over (y : Wy w wr P A n c A' m c' sg t k O1 n1 c1 ys1 O2 n2 c2 ys2) {o : Obj} {r : Option Nat} (hg : (wr.alloc o).grownBy w' r) (hr : ∀ j, r = some j → P + 1 ≤ j) : Below (P + 1) wr w' :=
 ((Below.refl (P + 1) wr).alloc y.lt _).grown hg (by have := y.lt; simp; omega) hr
theorem Wy.app1 (y : Wy w wr P A n c A' m c' sg t k O1 n1 c1 ys1 O2 n2 c2 ys2) {o : Obj} {O1' : Option Addr} {n1' c1' : Nat} {zs : List Int} (ho : Own w' (P + 1) (.slice O1' n1' c1') zs) (hg : (wr.alloc o).grownBy w' (blk O1)) (hb : blk O1' = blk O1 ∨ blk O1' = some (wr.alloc o).heap.size) :
  Wy w w' P A n c A' m c' sg t k O1' n1' c1' zs O2 n2 c2 ys2 := by
 have hov := y.over hg (fun j hj => (own_lt y.o1 j hj).1)
 refine ⟨Cur.keep y.cu hov, y.b.trans (hov.mono (Nat.le_succ_of_le y.hP)), y.hP, ho, Own.kept (Own.alloc y.o2 _) hg ?_, ?_⟩
 ·cases h2 : blk O2 with
  | none => exact .inl rfl
  | some z =>
   refine .inr (fun e => ?_)
   rcases y.dj with h | h
   ·rw [h] at e; cases e
   ·exact h (by rw [← e, h2])
 ·rcases hb with e | e
  ·rw [e]; exact y.dj
  ·refine .inr (fun h => ?_)
   rw [e] at h
   have := (own_lt y.o2 _ h.symm).2
   simp at this
   omega
theorem Wy.app2 (y : Wy w wr P A n c A' m c' sg t k O1 n1 c1 ys1 O2 n2 c2 ys2) {o : Obj} {O2' : Option Addr} {n2' c2' : Nat} {zs : List Int} (ho : Own w' (P + 1) (.slice O2' n2' c2') zs) (hg : (wr.alloc o).grownBy w' (blk O2)) (hb : blk O2' = blk O2 ∨ blk O2' = some (wr.alloc o).heap.size) :
  Wy w w' P A n c A' m c' sg t k O1 n1 c1 ys1 O2' n2' c2' zs := by
 have hov := y.over hg (fun j hj => (own_lt y.o2 j hj).1)
 refine ⟨Cur.keep y.cu hov, y.b.trans (hov.mono (Nat.le_succ_of_le y.hP)), y.hP, Own.kept (Own.alloc y.o1 _) hg y.dj, ho, ?_⟩
 rcases hb with e | e
 ·rw [e]; exact y.dj
 ·refine .inr (fun h => ?_)
  rw [e] at h
  have := (own_lt y.o1 _ h).2
  simp at this
  omega
theorem Cur.setAt {p : Nat} (h : Cur w p A n c A' m c' sg t k) (hk : k' ≤ m) : Cur (w.setCell ⟨p, 2, none⟩ (.int .i64 (k' : Int))) p A n c A' m c' sg t k' :=
 ⟨h.row.put 2 _, h.s.put (Nat.le_refl _) _, h.s'.put (Nat.le_refl _) _, hk, h.hn, h.hm, h.ars⟩
theorem Wy.set (y : Wy w wr P A n c A' m c' sg t k O1 n1 c1 ys1 O2 n2 c2 ys2) (hk : k' ≤ m) : Wy w (wr.setCell ⟨P, 2, none⟩ (.int .i64 (k' : Int))) P A n c A' m c' sg t k' O1 n1 c1 ys1 O2 n2 c2 ys2 :=
 y.move (grown_put (World.grownBy.refl _ _) _ _) (Cur.setAt y.cu hk)
end
def AnsTwo (w : World) (ab pa : List Int) (e : Ending) (w' : World) : Prop :=
 ∃ (O1 : Option Addr) (n1 c1 : Nat) (O2 : Option Addr) (n2 c2 : Nat), e = .returned (.tuple #[.slice O1 n1 c1, .slice O2 n2 c2]) ∧ Own w' w.heap.size (.slice O1 n1 c1) ab ∧ Own w' w.heap.size (.slice O2 n2 c2) pa ∧ Below w.heap.size w w'
def TrailIs (sg t : List Int) (x : Int) (ab pa : List Int) : Prop := (thereB sg t x = true ∧ Trail sg t x.toNat 0 ab pa) ∨ (thereB sg t x = false ∧ ab = [] ∧ pa = [])
theorem PathIs.trail {sg t : List Int} {x : Int} {pa : List Int} (h : PathIs sg t x pa) : ∃ ab, TrailIs sg t x ab pa := by
 rcases h with ⟨e, ab, hw⟩ | ⟨e, rfl⟩
 ·exact ⟨ab, .inl ⟨e, hw⟩⟩
 ·exact ⟨[], .inr ⟨e, rfl, rfl⟩⟩
theorem TrailIs.path {sg t : List Int} {x : Int} {ab pa : List Int} (h : TrailIs sg t x ab pa) : PathIs sg t x pa := by
 rcases h with ⟨e, hw⟩ | ⟨e, rfl, rfl⟩
 ·exact .inl ⟨e, ab, hw⟩
 ·exact .inr ⟨e, rfl⟩
def HeadWy (w : World) (P : Nat) (A : Option Addr) (n c : Nat) (A' : Option Addr) (m c' : Nat) (sg t : List Int) (a : Nat) (ab pa : List Int) (g : Nat) (s6 s7 : Value) (wr : World) : Prop :=
 ∃ (q : Nat) (O1 : Option Addr) (n1 c1 : Nat) (ys1 : List Int) (O2 : Option Addr) (n2 c2 : Nat) (ys2 ab' pa' : List Int), q + g = a ∧ s6 = .slice O1 n1 c1 ∧ s7 = .slice O2 n2 c2 ∧ Wy w wr P A n c A' m c' sg t q O1 n1 c1 ys1 O2 n2 c2 ys2 ∧ Trail sg t a q ab' pa' ∧ ys1 ++ ab' = ab ∧ ys2 ++ pa' = pa
set_option maxHeartbeats 4000000 in
theorem wayTo (A A' : Option Addr) (n c m c' : Nat) (sg t : List Int) (x : Int) (ab pa : List Int) (w : World) (h : Seg w w.heap.size A n sg) (h' : Seg w w.heap.size A' m t) (hn : n ≤ 1048576) (hm : m ≤ 1048576) (hw : TrailIs sg t x ab pa) :
  Calls Try.prog 76 #[.agg #[.slice A n c], .slice A' m c', .int .i64 x] w (AnsTwo w ab pa) := by
 obtain ⟨W, hW⟩ : ∃ W, W = w.alloc (.cells #[.slice A n c] 26) := ⟨_, rfl⟩
 have f : Fr w W A n c sg A' m t := by rw [hW]; exact Fr.start h h'
 have HW := hid hW
 have HL := hid h'.1
 have L := hid (placeIn A A' n c m c' sg t x W f.s1 f.t1 hn hm)
 clear hW h h'
 rcases hw with ⟨hx, hw⟩ | ⟨hx, rfl, rfl⟩
 ·obtain ⟨hok, i0, i1⟩ := there_parts hx
  obtain ⟨a, rfl⟩ := Int.eq_ofNat_of_zero_le i0
  rw [Int.toNat_natCast] at hw
  have hal : a < t.length := by omega
  have h60 := (termOk_parts hok).2.1
  have ha60 : a < 60 := by omega
  have hars := (sig_arities (termOk_parts hok).1).1
  have HX := hid hx
  have HOK := hid hok
  have HAL := hid hal
  have HLP := hid hw.le.2
  have HLA := hid hw.len
  have HTR := hid hw
  clear hx hok hal h60 i0 i1 hw
  go_enter Try.func76, Try.ntmps76
  go_wp2_with fail
  go_step3
  go_wp2_with fail
  rw [← HW.out]
  refine L.out.mono ?_
  rintro e w1 ⟨he, bb⟩
  rw [HX.out] at he
  subst he
  replace f := f.next bb
  have cA := f.cell
  clear bb L
  have y0 : Wy w (w1.alloc (.cells #[.slice A n c, .slice A' m c', .int .i64 (0 : Nat)] 84)) w1.heap.size A n c A' m c' sg t 0 none 0 0 [] none 0 0 [] :=
   ⟨cur_new f.s1 f.t1 hn hm hars 0 (Nat.zero_le _), (f.alloc _).b, Nat.le_of_lt f.size, Own.nil _ _, Own.nil _ _, .inl rfl⟩
  have S0 : HeadWy w w1.heap.size A n c A' m c' sg t a ab pa a (.slice none 0 0) (.slice none 0 0) (w1.alloc (.cells #[.slice A n c, .slice A' m c', .int .i64 0] 84)) := ⟨0, none, 0, 0, [], none, 0, 0, [], ab, pa, by omega, rfl, rfl, y0, HTR.out, rfl, rfl⟩
  have HS := hid S0
  clear S0 y0 f
  go_wp2
  go_step3
  go_wp2
  clear cA
  generalize w1.heap.size = P at *
  go_loopg [6, 7] a (fun g s6 s7 wr => HeadWy w P A n c A' m c' sg t a ab pa g s6 s7 wr)
  case atStart => exact HS.out
  case round =>
   obtain ⟨q, O1, n1, c1, ys1, O2, n2, c2, ys2, ab', pa', hq, rfl, rfl, y, htr, hab, hpa⟩ := hrel
   obtain ⟨G, hG⟩ : ∃ G, G = gk := ⟨_, rfl⟩
   subst hG
   clear HS
   have hn1 : n1 ≤ 60 := by
    rw [Own.len y.o1]
    have h1 := HLP.out
    have h2 := HLA.out
    rw [← hab] at h2
    simp only [List.length_append] at h2
    omega
   have hn2 : n2 ≤ 60 := by
    rw [Own.len y.o2]
    have h1 := HLP.out
    rw [← hpa] at h1
    simp only [List.length_append] at h1
    omega
   have HQ := hid hq
   have HPA := hid hpa
   have HAB := hid hab
   have cp : wr.cell? ⟨P, 2, none⟩ = some (.int .i64 (q : Int)) := y.cu.row.cell 2
   have hPw := y.lt
   clear hq hpa hab
   by_cases hqa : q = a
   ·subst hqa
    obtain ⟨rfl, rfl⟩ := htr.here_eq
    have F : AnsTwo w ab pa (.returned (.tuple #[.slice O1 n1 c1, .slice O2 n2 c2])) wr := ⟨O1, n1, c1, O2, n2, c2, rfl, by rw [← HAB.out, List.append_nil]; exact Own.lower y.o1 (Nat.le_succ_of_le y.hP), by rw [← HPA.out, List.append_nil]; exact Own.lower y.o2 (Nat.le_succ_of_le y.hP), y.b⟩
    have HF := hid F
    clear F y htr
    go_wp2
    try rw [Exit.noGoto_ret]
    go_ret2
    exact HF.out
   ·obtain ⟨k0, ab2, pa2, e1, e2, hqlt, hk0, h3, h4, h5, htr'⟩ := Trail.split htr hqa
    have HE1 := hid e1
    have HE2 := hid e2
    have hok := HOK.out
    have hal := HAL.out
    have hneg := (head_scan hok (show q < t.length by omega)).1
    have hzb := ar_bd hars (t.getD q 0)
    have HX2 : Hid (∀ j : Nat, j ≤ k0 → scan sg 1 (t.drop (argP sg t j (q + 1))) = some (len1 sg t (argP sg t j (q + 1))) ∧ decide (a < argP sg t (j + 1) (q + 1)) = decide (j = k0) ∧ argP sg t (j + 1) (q + 1) = argP sg t j (q + 1) + len1 sg t (argP sg t j (q + 1)) ∧ argP sg t j (q + 1) ≤ a) := hid (fun j hj => by
     obtain ⟨b1, b2, b3⟩ := arg_at hok (show q < t.length by omega) (show j < arN sg t q by omega)
     refine ⟨(term_at hok b3).1, ?_, argP_succ _ _, by have := argP_mono (sg := sg) (t := t) (p := q + 1) hj; omega⟩
     by_cases hjk : j = k0
     ·rw [decide_eq_true hjk, decide_eq_true (by subst hjk; rw [argP_succ]; exact h4)]
     ·have b5 := argP_mono (sg := sg) (t := t) (p := q + 1) (show j + 1 ≤ k0 by omega)
      rw [decide_eq_false hjk, decide_eq_false (by omega)])
    obtain ⟨z, hz⟩ : ∃ z, ar sg (t.getD q 0) = z := ⟨_, rfl⟩
    have hk0z : (k0 : Int) < z := by unfold arN at hk0; omega
    have HZ := hid hz
    have HTR := hid htr'
    have H3 := hid h3
    have H5 := hid h5
    have HA0 : Hid (argP sg t 0 (q + 1) = q + 1) := hid rfl
    rw [hz] at hzb hneg
    clear hok hal htr htr' h3 h4 h5 e1 e2 hz hk0
    go_wp2_with (at_builtin; refine app1At rfl _ _ rfl (P + 1) O1 n1 c1 ys1 rfl (Own.alloc y.o1 _) wr.heap.size 1 (q : Int) rfl ((Row.new _ _ _).cell 0) (by omega) (by simp; omega) ?_; intro O1' c1' w3 ho3 hg3 hb3)
    have y3 := y.app1 ho3 hg3 hb3
    clear y ho3 hg3 hb3 cp hPw
    refine (next P A n c A' m c' sg t q _ y3.cu).mono ?_
    rintro e w4 ⟨hg4, ⟨-, he, hc4⟩ | ⟨hk', -, -⟩⟩
    case inr => have := HAL.out; have := HL.out; omega
    rw [HZ.out] at he
    subst he
    have y4 := y3.move hg4 hc4
    clear y3 hg4 hc4
    have HS1 := hid y4
    clear y4
    go_wp2_with fail
    go_loopg [7, 29] k0 (fun g s7 s29 wr => s7 = .slice O2 n2 c2 ∧ ∃ j : Nat, s29 = .int .i64 j ∧ j + g = k0 ∧ Wy w wr P A n c A' m c' sg t (argP sg t j (q + 1)) O1' (n1 + 1) c1' (ys1 ++ [(q : Int)]) O2 n2 c2 ys2)
    case atStart => exact ⟨rfl, 0, rfl, by omega, by rw [HA0.out]; exact HS1.out⟩
    case round =>
     obtain ⟨rfl, j, rfl, hj, y⟩ := hrel
     clear HS1
     have HJ := hid hj
     have hjz : (j : Int) < z := by omega
     obtain ⟨i1, i2, i3, i4⟩ := HX2.out j (by omega)
     obtain ⟨r, hr⟩ : ∃ r, argP sg t j (q + 1) = r := ⟨_, rfl⟩
     rw [hr] at i1 i3 i4 y
     have HR := hid hr
     have I1 := hid i1
     have I3 := hid i3
     obtain ⟨bj, hbj⟩ : ∃ b, decide (j = k0) = b := ⟨_, rfl⟩
     rw [hbj] at i2
     have HBJ := hid hbj
     have I2 := hid i2
     have cp : wr.cell? ⟨P, 2, none⟩ = some (.int .i64 (r : Int)) := y.cu.row.cell 2
     have hj64 : j ≤ 60 := by have := hzb.2; omega
     clear hj hr i1 i2 i3 hbj
     go_wp2_with fail
     refine (pass P A n c A' m c' sg t r _ y.cu).mono ?_
     rintro e w5 ⟨hg5, ⟨j', hj', rfl, hc5⟩ | ⟨hj', -, -⟩⟩
     case inr => rw [I1.out] at hj'; cases hj'
     have hj2 : len1 sg t r = j' := len1_eq hj'
     have y5 := y.move hg5 hc5
     obtain ⟨s, hs⟩ : ∃ s, argP sg t (j + 1) (q + 1) = s := ⟨_, rfl⟩
     have hrs : r + j' = s := by rw [← hs, I3.out, hj2]
     rw [hrs] at y5
     have HS2 := hid hs
     have i2 := I2.out
     rw [hs] at i2
     clear y cp hg5 hc5 hj' hj2 hs hrs
     have cp : w5.cell? ⟨P, 2, none⟩ = some (.int .i64 (s : Int)) := y5.cu.row.cell 2
     have hPw := y5.lt
     cases bj with
     | false =>
      have hle : ¬ (a : Int) < (s : Int) := by have := of_decide_eq_false i2; omega
      have SS := hid (show Wy w w5 P A n c A' m c' sg t (argP sg t (j + 1) (q + 1)) O1' (n1 + 1) c1' (ys1 ++ [(q : Int)]) O2 n2 c2 ys2 by rw [HS2.out]; exact y5)
      have hgk : gk - 1 < gk ∧ j + 1 + (gk - 1) = k0 := by have h1 := HJ.out; have h2 := of_decide_eq_false HBJ.out; omega
      have HGK := hid hgk
      clear y5 i2 hgk i4
      go_wp2
      go_roundg (gk - 1)
      case measure => exact HGK.out.1
      case rel => exact ⟨rfl, j + 1, by simp, HGK.out.2, SS.out⟩
     | true =>
      have hlt : (a : Int) < (s : Int) := by have := of_decide_eq_true i2; omega
      have hjk := hid (show j = k0 from of_decide_eq_true HBJ.out)
      clear i2
      go_wp2_with (at_builtin; refine app1At rfl _ _ rfl (P + 1) O2 n2 c2 ys2 rfl (Own.alloc y5.o2 _) w5.heap.size 1 (j : Int) rfl ((Row.new _ _ _).cell 0) (by omega) (by simp; omega) ?_; intro O2' c2' w6 ho6 hg6 hb6; have y6 := y5.app2 ho6 hg6 hb6; have fr6 := y6.cu.row.free 2; have cp6 := y6.cu.row.cell 2)
      have hrm : r ≤ m := by have := HAL.out; have := HL.out; omega
      have y7 := y6.set (k' := r) hrm
      have S : HeadWy w P A n c A' m c' sg t a ab pa (a - r) (.slice O1' (n1 + 1) c1') (.slice O2' (n2 + 1) c2') (w6.setCell ⟨P, 2, none⟩ (.int .i64 (r : Int))) :=
       ⟨r, O1', n1 + 1, c1', ys1 ++ [(q : Int)], O2', n2 + 1, c2', ys2 ++ [(j : Int)], ab2, pa2, by omega, rfl, rfl, y7, by have h1 := HTR.out; rw [← hjk.out, HR.out] at h1; exact h1, by rw [← HAB.out, HE1.out]; simp, by rw [← HPA.out, HE2.out, hjk.out]; simp⟩
      have HSS := hid S
      have hgk := hid (show a - r < G by have h1 := HQ.out; have h5 := H5.out; rw [← hjk.out, HR.out] at h5; omega)
      clear S y7 y5 y6 cp ho6 hg6 hb6 hlt i4
      go_wp2
      go_roundg (a - r)
      case measure => exact hgk.out
      case rel => exact HSS.out
 ·have HX := hid hx
  clear hx
  go_enter Try.func76, Try.ntmps76
  go_wp2_with fail
  go_step3
  go_wp2_with fail
  rw [← HW.out]
  refine L.out.mono ?_
  rintro e w1 ⟨he, bb⟩
  rw [HX.out] at he
  subst he
  have F : AnsTwo w [] [] (.returned (.tuple #[.slice none 0 0, .slice none 0 0])) w1 := ⟨none, 0, 0, none, 0, 0, rfl, Own.nil _ _, Own.nil _ _, (f.next bb).b⟩
  replace F := hid F
  clear f bb L
  go_wp2
  try rw [Exit.noGoto_ret]
  go_ret2
  exact F.out
set_option maxHeartbeats 1000000 in
theorem implPathOf (A A' : Option Addr) (n c m c' : Nat) (sg t : List Int) (x : Int) (pa : List Int) (w : World) (h : Seg w w.heap.size A n sg) (h' : Seg w w.heap.size A' m t) (hn : n ≤ 1048576) (hm : m ≤ 1048576) (hpa : PathIs sg t x pa) :
  Calls Try.prog 32 #[.agg #[.slice A n c], .slice A' m c', .int .i64 x] w (AnsList w pa) := by
 obtain ⟨W, hW⟩ : ∃ W, W = w.alloc (.cells #[.slice A n c] 26) := ⟨_, rfl⟩
 have f : Fr w W A n c sg A' m t := by rw [hW]; exact Fr.start h h'
 have HW := hid hW
 obtain ⟨ab, htr⟩ := PathIs.trail hpa
 have L := hid (wayTo A A' n c m c' sg t x ab pa W f.s1 f.t1 hn hm htr)
 have z := f.size
 have b0 := f.b
 clear hW h h' hpa htr f
 go_enter Try.func32, Try.ntmps32
 go_wp2_with fail
 rw [← HW.out]
 refine L.out.mono ?_
 rintro e w1 ⟨O1, n1, c1, O2, n2, c2, rfl, o1, o2, bb⟩
 have F := hid (list_of (w := w) rfl o2 (Nat.le_of_lt z) (next_trans b0 bb))
 clear bb L o1 o2 b0
 go_wp2
 go_ret
 exact F.out
end wayTo
end
section
open Go.Lib (hid)
namespace place
open Go.RowKit base ints sig term arity endOf cursor termOk endAt inside marks app appAt sym args posMath pathSpec wayTo
set_option maxRecDepth 100000
def placeI (sg t path : List Int) : Int := if termOkB sg t = true then walkI sg t 0 path else -1
def GivesI (w : World) (v : Int) (e : Ending) (w' : World) : Prop := e = .returned (.int .i64 v) ∧ Below w.heap.size w w'
theorem drop_step {path : List Int} {i : Nat} (h : i < path.length) : path.drop i = path.getD i 0 :: path.drop (i + 1) := drop_cons h
def HeadPi (w : World) (P : Nat) (A : Option Addr) (n c : Nat) (A' : Option Addr) (m c' : Nat) (sg t : List Int) (Ap : Option Addr) (pn : Nat) (path : List Int) (R : Int) (g : Nat) (i : Value) (wr : World) : Prop :=
 ∃ (q k : Nat), i = .int .i64 k ∧ k + g = pn ∧ q < t.length ∧ walkI sg t q (path.drop k) = R ∧ Cur wr P A n c A' m c' sg t q ∧ Seg wr P Ap pn path ∧ Below w.heap.size w wr ∧ w.heap.size ≤ P
set_option maxHeartbeats 1000000 in
theorem implPlaceOf (A A' Ap : Option Addr) (n c m c' pn pc : Nat) (sg t path : List Int) (w : World) (h : Seg w w.heap.size A n sg) (h' : Seg w w.heap.size A' m t) (hp : Seg w w.heap.size Ap pn path) (hn : n ≤ 1048576) (hm : m ≤ 1048576) (hpn : pn ≤ 1048576) :
  Calls Try.prog 35 #[.agg #[.slice A n c], .slice A' m c', .slice Ap pn pc] w (GivesI w (placeI sg t path)) := by
 obtain ⟨W, hW⟩ : ∃ W, W = w.alloc (.cells #[.slice A n c] 26) := ⟨_, rfl⟩
 have f : Fr w W A n c sg A' m t := by rw [hW]; exact Fr.start h h'
 replace hp : Seg W W.heap.size Ap pn path := (hp.below f.b).more (Nat.le_of_lt f.size)
 have HW := hid hW
 have HL := hid h'.1
 have HLP := hid hp.1
 have L := hid (cursorAt A A' n c m c' sg t 0 W f.s1 f.t1 hn hm)
 have bel := f.b
 have hWs := f.size
 clear hW h h' f
 go_enter Try.func35, Try.ntmps35
 go_wp2_with fail
 go_step3
 go_wp2_with fail
 rw [← HW.out]
 refine L.out.mono ?_
 rintro e w1 ⟨bb, ⟨ht, P, rfl, hP, hc⟩ | ⟨ht, rfl⟩⟩
 ·obtain ⟨hok, -, hpos⟩ := there_parts ht
  have HS := hid hok
  obtain ⟨R, hR⟩ : ∃ R, walkI sg t 0 path = R := ⟨_, rfl⟩
  have HR := hid (show placeI sg t path = R by unfold placeI; rw [if_pos hok, hR])
  have hars := hc.ars
  have S0 : HeadPi w P A n c A' m c' sg t Ap pn path R pn (.int .i64 0) w1 := ⟨0, 0, rfl, by omega, by omega, hR, hc, (hp.below bb).more hP, next_trans bel bb, by omega⟩
  have HS0 := hid S0
  clear S0 bb hp hc hR ht hok hpos bel L hWs hP
  go_wp2
  go_step3
  go_wp2
  go_loopg [18] pn (fun g i wr => HeadPi w P A n c A' m c' sg t Ap pn path R g i wr)
  case atStart => exact HS0.out
  case round =>
   obtain ⟨q, k, rfl, hk, hq, hwk, hc, hp, hb, hwP⟩ := hrel
   obtain ⟨G, hG⟩ : ∃ G, G = gk := ⟨_, rfl⟩
   subst hG
   clear HS0
   have HK := hid hk
   have HWK := hid hwk
   clear hk hwk
   by_cases hlt : k < pn
   ·obtain ⟨b, off, s, rfl, hbb, hs, es⟩ := hp.spot hlt
    have hok := HS.out
    have hneg := (head_scan hok hq).1
    have hzb := ar_bd hars (t.getD q 0)
    obtain ⟨z, hz⟩ : ∃ z, arN sg t q = z := ⟨_, rfl⟩
    have hz0 : ar sg (t.getD q 0) = (z : Int) := by rw [← hz]; unfold arN; omega
    have HSTEP := hid (show path.drop k = s :: path.drop (k + 1) by rw [drop_step (by rw [HLP.out]; exact hlt), es.out])
    have HX : Hid (∀ j : Nat, j < z → scan sg 1 (t.drop (argP sg t j (q + 1))) = some (len1 sg t (argP sg t j (q + 1))) ∧ argP sg t (j + 1) (q + 1) = argP sg t j (q + 1) + len1 sg t (argP sg t j (q + 1)) ∧ argP sg t j (q + 1) < t.length) := hid (fun j hj => by
     obtain ⟨b1, b2, b3⟩ := arg_at hok hq (show j < arN sg t q by omega)
     exact ⟨(term_at hok b3).1, argP_succ _ _, b3⟩)
    have HZ := hid hz
    have HZ0 := hid hz0
    have hz3 : z ≤ 3 := by omega
    have HQL := hid hq
    have HA0 : Hid (argP sg t 0 (q + 1) = q + 1) := hid rfl
    clear hok hneg hzb hz hz0 es hq
    go_wp2_with fail
    refine (next P A n c A' m c' sg t q _ hc).mono ?_
    rintro e w2 ⟨hg, ⟨-, he, hc2⟩ | ⟨hk', -, -⟩⟩
    case inr => have := HQL.out; have := HL.out; omega
    rw [HZ0.out] at he
    subst he
    have hPw := hc.row.lt
    have hp2 := Seg.far hp hg (Nat.le_of_lt hPw) (fun j hj => by injection hj; omega)
    have hb2 := hb.grown hg (Nat.le_trans hwP (Nat.le_of_lt hPw)) (fun j hj => by injection hj; omega)
    clear hp hc hb hg hs hPw
    have HS1 := hid (show Cur w2 P A n c A' m c' sg t (argP sg t 0 (q + 1)) ∧ Seg w2 P (some ⟨b, off, none⟩) pn path ∧ Below w.heap.size w w2 from ⟨by rw [HA0.out]; exact hc2, hp2, hb2⟩)
    clear hc2 hp2 hb2
    go_wp2_with fail
    go_loopg [24] z (fun g i wr => ∃ j : Nat, i = .int .i64 j ∧ j + g = z ∧ (∀ j' : Nat, j' < j → (j' : Int) ≠ s) ∧ Cur wr P A n c A' m c' sg t (argP sg t j (q + 1)) ∧ Seg wr P (some ⟨b, off, none⟩) pn path ∧ Below w.heap.size w wr)
    case atStart => exact ⟨0, rfl, by omega, fun j' hj' => absurd hj' (Nat.not_lt_zero _), HS1.out⟩
    case round =>
     obtain ⟨j, rfl, hj, hne, hc, hp, hb⟩ := hrel
     clear HS1
     have HNE := hid hne
     have HJ := hid hj
     clear hne hj
     by_cases hjz : j < z
     ·obtain ⟨x1, x2, x3⟩ := HX.out j hjz
      have X2 := hid x2
      have X1 := hid x1
      have X3 := hid x3
      clear x1 x2 x3
      by_cases hjs : (j : Int) = s
      ·have S : HeadPi w P A n c A' m c' sg t (some ⟨b, off, none⟩) pn path R (G - 1) (.int .i64 ((k : Int) + 1)) wr :=
        ⟨argP sg t j (q + 1), k + 1, by simp, by have := HK.out; omega, X3.out, by rw [← HWK.out, HSTEP.out, ← hjs, walk_step (by rw [HZ.out]; exact hjz)], hc, hp, hb, hwP⟩
       have HSS := hid S
       have hgk := hid (show G - 1 < G by have := HK.out; omega)
       subst hjs
       clear S hc hp hb
       go_wp2
       go_roundg (G - 1)
       case measure => exact hgk.out
       case rel => exact HSS.out
      ·obtain ⟨r, hr⟩ : ∃ r, argP sg t j (q + 1) = r := ⟨_, rfl⟩
       rw [hr] at hc X1 X2
       have hd : ((j : Int) == s) = false := by simp [hjs]
       have HJS := hid hjs
       clear hjs hr
       go_wp2_with fail
       refine (pass P A n c A' m c' sg t r _ hc).mono ?_
       rintro e w5 ⟨hg5, ⟨j', hj', rfl, hc5⟩ | ⟨hj', -, -⟩⟩
       case inr => rw [X1.out] at hj'; cases hj'
       have hj2 : len1 sg t r = j' := len1_eq hj'
       have hPw := hc.row.lt
       have S := hid (show Cur w5 P A n c A' m c' sg t (argP sg t (j + 1) (q + 1)) ∧ Seg w5 P (some ⟨b, off, none⟩) pn path ∧ Below w.heap.size w w5 from ⟨by rw [X2.out, hj2]; exact hc5, Seg.far hp hg5 (Nat.le_of_lt hPw) (fun j hj => by injection hj; omega), hb.grown hg5 (Nat.le_trans hwP (Nat.le_of_lt hPw)) (fun j hj => by injection hj; omega)⟩)
       have hgk := hid (show gk - 1 < gk ∧ j + 1 + (gk - 1) = z by have := HJ.out; omega)
       clear hc hp hb hg5 hj' hc5 hj2 hPw
       go_wp2
       go_roundg (gk - 1)
       case measure => exact hgk.out.1
       case rel => exact ⟨j + 1, by simp, hgk.out.2, fun j' hj' => by
        by_cases e : j' = j
        ·subst e; exact HJS.out
        ·exact HNE.out j' (by omega), S.out⟩
     ·have F := hid (show GivesI w (placeI sg t path) (.returned (.int .i64 (-1))) wr from ⟨by
       rw [HR.out, ← HWK.out, HSTEP.out, walk_no]
       rintro ⟨e1, e2⟩
       rw [HZ0.out] at e2
       obtain ⟨jj, rfl⟩ := Int.eq_ofNat_of_zero_le e1
       exact HNE.out jj (by omega) rfl, hb⟩)
      clear hc hp hb
      go_wp2
      try rw [Exit.noGoto_ret]
      go_ret
      exact F.out
   ·have hkp : k = pn := by have := HK.out; omega
    have F := hid (show GivesI w (placeI sg t path) (.returned (.int .i64 (q : Int))) wr from ⟨by rw [HR.out, ← HWK.out, List.drop_eq_nil_of_le (by rw [HLP.out]; omega)]; rfl, hb⟩)
    have cp : wr.cell? ⟨P, 2, none⟩ = some (.int .i64 (q : Int)) := hc.row.cell 2
    clear hc hp hb hkp hq
    go_wp2
    try rw [Exit.noGoto_ret]
    go_ret
    exact F.out
 ·have hno : placeI sg t path = -1 := by
   unfold placeI
   cases hok : termOkB sg t with
   | false => rw [if_neg (by simp)]
   | true =>
    exfalso
    have h3 := (termOk_parts hok).2.2
    have h2 := scan_pos (q := 0) h3
    rw [there_yes hok (by omega) (by omega)] at ht
    cases ht
  have F := hid (show GivesI w (placeI sg t path) (.returned (.int .i64 (-1))) w1 from ⟨by rw [hno], next_trans bel bb⟩)
  clear bb L bel hp
  go_wp2
  try rw [Exit.noGoto_ret]
  go_ret
  exact F.out
end place
end
section
namespace putFacts
open sig term termOk termFacts endAt sub args depth termMath inside posMath pathSpec putMath put place
theorem putB_parts {sg t u : List Int} {x : Int} (h : putB sg t u x = true) : thereB sg t x = true ∧ termOkB sg u = true ∧ (putI sg t u x.toNat).length ≤ 60 := by
 unfold putB fitB at h
 simp only [Bool.and_eq_true, decide_eq_true_eq] at h
 exact ⟨h.1.1, h.1.2, h.2⟩
theorem put_facts {sg t u : List Int} {a : Nat} (h1 : thereB sg t (a : Int) = true) (h2 : termOkB sg u = true) (h3 : (putI sg t u a).length ≤ 60) :
  termOkB sg (putI sg t u a) = true ∧ a < (putI sg t u a).length ∧ subI sg (putI sg t u a) (a : Int) = u ∧ putB sg (putI sg t u a) (subL sg t a) (a : Int) = true ∧ putR sg (putI sg t u a) (subL sg t a) (a : Int) = t := by
 obtain ⟨hok, i0, i1⟩ := there_parts h1
 have hat : a < t.length := by omega
 have hY : termOkB sg (putI sg t u a) = true := put_term hok h2 hat h3
 have hl := put_len (u := u) hok hat
 have hA := term_at hok hat
 have hU := term_len h2
 have haY : a < (putI sg t u a).length := by unfold putI; omega
 have hth : thereB sg (putI sg t u a) (a : Int) = true := there_yes hY (by omega) (by omega)
 obtain ⟨e1, e2⟩ := put_sub (t := t) (a := a) h2 (by omega) (len1 sg t a)
 have hback : putI sg (putI sg t u a) (subL sg t a) a = t := by
  unfold putI
  rw [e1]
  exact put_back hok hat
 have hsub := (sub_term hok hat).1
 have hB : putB sg (putI sg t u a) (subL sg t a) (a : Int) = true := by
  unfold putB fitB
  rw [hth, hsub, Int.toNat_natCast, hback, decide_eq_true (term_parts hok).2.1]
  rfl
 refine ⟨hY, haY, ?_, hB, ?_⟩
 ·unfold subI
  rw [if_pos hth, Int.toNat_natCast]
  exact e2
 ·unfold putR
  rw [if_pos hB, Int.toNat_natCast, hback]
theorem apart_facts {sg t u : List Int} {a p : Nat} {pa : List Int} (h1 : thereB sg t (a : Int) = true) (h2 : termOkB sg u = true) (h3 : (putI sg t u a).length ≤ 60) (h4 : apartB sg t (a : Int) (p : Int) = true) (hp : PathIs sg t (p : Int) pa) :
  ∃ q : Nat, placeI sg (putI sg t u a) pa = (q : Int) ∧ q < (putI sg t u a).length ∧ subI sg (putI sg t u a) (q : Int) = subI sg t (p : Int) := by
 obtain ⟨hok, i0, i1⟩ := there_parts h1
 have hat : a < t.length := by omega
 unfold apartB at h4
 simp only [Bool.and_eq_true, Bool.not_eq_true'] at h4
 obtain ⟨⟨_, h5⟩, h6, h7⟩ := h4
 obtain ⟨_, j0, j1⟩ := there_parts h5
 have hpt : p < t.length := by omega
 rw [ins_nat hok hat, decide_eq_false_iff_not] at h6
 rw [ins_nat hok hpt, decide_eq_false_iff_not] at h7
 have hA := term_at hok hat
 have hP := term_at hok hpt
 have hcase : p + len1 sg t p ≤ a ∨ a + len1 sg t a ≤ p := by
  rcases Nat.lt_or_ge p a with h | h <;> omega
 obtain ⟨ab, hw⟩ : ∃ ab, Trail sg t p 0 ab pa := by
  rcases hp with ⟨_, ab, hw⟩ | ⟨e, _⟩
  ·rw [Int.toNat_natCast] at hw; exact ⟨ab, hw⟩
  ·rw [h5] at e; cases e
 have hY : termOkB sg (putI sg t u a) = true := put_term hok h2 hat h3
 have hwalk := put_walk (u := u) hok h2 hat (p := p) (by omega) hpt hw (Or.inl (Nat.zero_le _))
 obtain ⟨e1, e2⟩ := put_apart (u := u) hok h2 hat hpt hcase
 have hm0 : mv a (len1 sg t a) u.length 0 = 0 := by unfold mv; rw [if_pos (Nat.zero_le _)]
 rw [hm0] at hwalk
 refine ⟨mv a (len1 sg t a) u.length p, ?_, e2, ?_⟩
 ·unfold placeI
  rw [if_pos hY]
  exact hwalk
 ·unfold subI
  rw [if_pos (there_yes hY (by omega) (by unfold putI; omega)), if_pos h5, Int.toNat_natCast, Int.toNat_natCast]
  exact e1
end putFacts
end
section
open Go.Lib (hid)
namespace drawSig
open Go.RowKit base ints sig cursor marks app sym dice
set_option maxRecDepth 100000
theorem stepApp1 {w : World} {ops : Array Oper} {o : Oper} {a : Act} {K : Act → World → Prop} {Q : Exit → Act → World → Prop} {E : Prop} (hgd : o.guard = none) (s x : Operand)
  (ho : o.op = .call { callee := .builtin .append, args := #[s, x], argTypes := #[24, 24] })
  (base : Nat) (A : Option Addr) (n c : Nat) (xs : List Int) (hs : a.eval s = .slice A n c) (hown : Own w base (.slice A n c) xs)
  (g c2 : Nat) (y : Int) (hx : a.eval x = .slice (some ⟨g, 0, none⟩) 1 c2) (hy : w.cell? ⟨g, 0, none⟩ = some (.int .i64 y)) (hn : n ≤ 2097152) (hbase : base ≤ w.heap.size)
  (h : ∀ g' c' w', Own w' base (.slice (some ⟨g', 0, none⟩) (n + 1) c') (xs ++ [y]) → w.grownBy w' (blk A) → (blk A = some g' ∨ g' = w.heap.size) → g' < w'.heap.size → K (a.put o.dst (.slice (some ⟨g', 0, none⟩) (n + 1) c')) w') :
  if Region.wanted o (yielded ops a.tmps) = true then Oper.wp Try.prog o a w K Q else E := by
 obtain ⟨i0, hi, hz0, hz1, hz2⟩ := info_parts info_i64
 have hl : xs.length = n := by
  obtain ⟨A', c', e⟩ := hown.slice
  injection e with _ e _
  exact e.symm
 have hob : (Value.slice A n c).ownBlock = blk A := by cases A <;> rfl
 refine step_append_lies w hgd s x 24 ho base 2 i0 (.int .i64 0) 1 8 Try.underlying24 hi hz0 hz1 hz2 rfl (by decide) (.slice A n c) n (xs.map (Value.int .i64)) hs (by rw [← hl]; rw [← hl] at hown; exact hown)
  ⟨g, 0, none⟩ 1 c2 [.int .i64 y] hx rfl (fun j u hj => ?_) (fun u hu => ?_) (by omega) (by unfold maxLen; omega) (by omega) hbase w.heap.size rfl ?_
 ·match j, hj with
  | 0, hj => simp at hj; subst hj; simpa [Addr.add] using hy
 ·simp at hu; subst hu; rfl
 ·intro g' c' w' hown' hg hat hlt
  have e : xs.map (Value.int .i64) ++ [.int .i64 y] = (xs ++ [y]).map (Value.int .i64) := by simp
  rw [e] at hown'
  rw [hob] at hg hat
  refine h g' c' w' ?_ hg hat hlt
  have hl2 : (xs ++ [y]).length = n + 1 := by simp [hl]
  unfold Own
  rw [hl2]
  exact hown'
def AnsSigD (w : World) (p : Nat) (A : Option Addr) (n c : Nat) (P : List Int → Prop) (e : Ending) (w' : World) : Prop :=
 ∃ O on oc xs, e = .returned (.agg #[.slice O on oc]) ∧ Own w' w.heap.size (.slice O on oc) xs ∧ P xs ∧ Dice w' p A n c ∧ w.grownBy w' (some p)
def Good (xs : List Int) : Prop := 1 ≤ xs.length ∧ xs.length ≤ 4 ∧ ∀ j, j < xs.length → 0 ≤ xs.getD j 0 ∧ xs.getD j 0 ≤ 2
theorem good_snoc {xs : List Int} {x : Int} (h1 : 1 ≤ xs.length) (h2 : xs.length ≤ 3) (h : ∀ j, j < xs.length → 0 ≤ xs.getD j 0 ∧ xs.getD j 0 ≤ 2) (h0 : 0 ≤ x) (hx : x ≤ 2) : Good (xs ++ [x]) := by
 refine ⟨by simp, by simp; omega, fun j hj => ?_⟩
 by_cases e : j < xs.length
 ·have := h j e
  simpa [List.getD, e, List.getElem?_append_left e] using this
 ·have e2 : j = xs.length := by simp at hj; omega
  subst e2
  simp [List.getD]
  omega
structure SigSt (w : World) (p : Nat) (A : Option Addr) (n c : Nat) (v : Nat) (wr : World) (O : Option Addr) (on oc : Nat) (xs : List Int) : Prop where
 own : Own wr w.heap.size (.slice O on oc) xs
 rV : Row wr v 26 #[.slice O on oc]
 rN : Row wr w.heap.size 26 #[.slice none 0 0]
 nV : blk O ≠ some v
 nN : blk O ≠ some w.heap.size
 hv : w.heap.size < v
 d : Dice wr p A n c
 g : w.grownBy wr (some p)
 hp : p < w.heap.size
section
variable {w : World} {p : Nat} {A : Option Addr} {n c v : Nat} {wr : World} {O : Option Addr} {on oc : Nat} {xs : List Int}
theorem SigSt.dice {w' : World} (s : SigSt w p A n c v wr O on oc xs) (d : Dice w' p A n c) (hg : wr.grownBy w' (some p)) : SigSt w p A n c v w' O on oc xs :=
 ⟨Own.far s.own hg (fun k hk => by injection hk; have := s.hp; omega), Row.away s.rV hg (fun e => by injection e; have := s.hp; have := s.hv; omega), Row.away s.rN hg (fun e => by injection e; have := s.hp; omega), s.nV, s.nN, s.hv, d, grown_trans s.g hg, s.hp⟩
theorem SigSt.alloc (s : SigSt w p A n c v wr O on oc xs) (o : Obj) : SigSt w p A n c v (wr.alloc o) O on oc xs :=
 ⟨Own.alloc s.own o, s.rV.alloc o, s.rN.alloc o, s.nV, s.nN, s.hv, s.d.alloc o, grown_trans s.g (World.grownBy_alloc wr o _), s.hp⟩
theorem SigSt.drew (s : SigSt w p A n c v wr O on oc xs) : SigSt w p A n c v wr.drew O on oc xs :=
 ⟨Own.drew s.own, s.rV.drew, s.rN.drew, s.nV, s.nN, s.hv, s.d.drewN 1, grown_drewN s.g 1, s.hp⟩
theorem SigSt.put {w' : World} {O' : Option Addr} {on' oc' : Nat} {ys : List Int} (s : SigSt w p A n c v wr O on oc xs) (ho : Own w' w.heap.size (.slice O' on' oc') ys) (hg : wr.grownBy w' (blk O)) (hat : blk O' = blk O ∨ blk O' = some wr.heap.size) (hO : ∀ k, blk O = some k → w.heap.size ≤ k) :
  SigSt w p A n c v (w'.setCell ⟨v, 0, none⟩ (.slice O' on' oc')) O' on' oc' ys := by
 have hpk : ∀ k, blk O = some k → p + 1 ≤ k := fun k hk => by have := hO k hk; have := s.hp; omega
 have zw := s.rV.lt
 have zn := s.rN.lt
 have nV' : blk O' ≠ some v := by
  rcases hat with h | h
  ·rw [h]; exact s.nV
  ·rw [h]; intro e; injection e; omega
 have nN' : blk O' ≠ some w.heap.size := by
  rcases hat with h | h
  ·rw [h]; exact s.nN
  ·rw [h]; intro e; injection e; omega
 have r1 := Row.away s.rV hg s.nV
 have r2 := Row.away s.rN hg s.nN
 have b1 : Below (p + 1) wr w' := (Below.refl _ _).grown hg (by have := s.hp; omega) hpk
 have b0 : Below w.heap.size wr w' := (Below.refl _ _).grown hg (by have := s.g.size; omega) hO
 refine ⟨?_, r1.put 0 _, r2.far (p := ⟨v, 0, none⟩) (by have := s.hv; simp; omega) _, nV', nN', s.hv, ?_, ?_, s.hp⟩
 ·have hk : w'.grownBy (w'.setCell ⟨v, 0, none⟩ (.slice O' on' oc')) (some v) := grown_put (World.grownBy.refl _ _) 0 _
  refine World.ownsRow.kept ho hk ?_
  cases O' with
  | none => exact .inl rfl
  | some a => exact .inr (fun e => nV' (by simpa [Value.ownBlock, blk] using e))
 ·have d1 := s.d.keep b1
  obtain ⟨i, h, d1⟩ := d1
  have hvp : p < v := by have := s.hp; have := s.hv; omega
  exact ⟨i, h, d1.row.far (p := ⟨v, 0, none⟩) (by simp; omega) _, d1.le, d1.s.keep fun q hq => World.cell?_setCell_other w' _ q _ (fun e => by subst e; have hq : v < p := hq; omega), d1.hn⟩
 ·refine ⟨b0.os.trans s.g.os, b0.tape.trans s.g.tape, b0.output.trans s.g.output, by have := s.g.size; have := b0.size; simp only [World.size_setCell]; omega, fun k hk hne => ?_⟩
  rw [Below.heap_setCell _ _ _ _ (by have := s.hv; intro e; have e : k = v := e; omega), b0.block k hk]
  exact s.g.block k hk hne
theorem SigSt.result {P : List Int → Prop} (s : SigSt w p A n c v wr O on oc xs) (hP : P xs) (hO : blk O ≠ some w.heap.size) : AnsSigD w p A n c P (.returned (.agg #[.slice O on oc])) (wr.setCell ⟨w.heap.size, 0, none⟩ (.slice O on oc)) := by
 refine ⟨O, on, oc, xs, rfl, ?_, hP, ?_, ?_⟩
 ·have hk : wr.grownBy (wr.setCell ⟨w.heap.size, 0, none⟩ (.slice O on oc)) (some w.heap.size) := grown_put (World.grownBy.refl _ _) 0 _
  refine World.ownsRow.kept s.own hk ?_
  cases O with
  | none => exact .inl rfl
  | some a => exact .inr (fun e => hO (by simpa [Value.ownBlock, blk] using e))
 ·obtain ⟨i, h, d1⟩ := s.d
  have hp := s.hp
  exact ⟨i, h, d1.row.far (p := ⟨w.heap.size, 0, none⟩) (by simp; omega) _, d1.le, d1.s.keep fun q hq => World.cell?_setCell_other wr _ q _ (fun e => by subst e; have hq : w.heap.size < p := hq; omega), d1.hn⟩
 ·refine ⟨s.g.os, s.g.tape, s.g.output, by simpa using s.g.size, fun k hk hne => ?_⟩
  rw [Below.heap_setCell _ _ _ _ (by intro e; have e : k = w.heap.size := e; omega)]
  exact s.g.block k hk hne
end
def HeadSigD (w : World) (p : Nat) (A : Option Addr) (n c v : Nat) (i : Value) (wr : World) : Prop :=
 ∃ (k : Nat) (O : Option Addr) (on oc : Nat) (xs : List Int), i = .int .i64 k ∧ SigSt w p A n c v wr O on oc xs ∧ 1 ≤ xs.length ∧ xs.length + k ≤ 4 ∧ ∀ j, j < xs.length → 0 ≤ xs.getD j 0 ∧ xs.getD j 0 ≤ 2
set_option maxHeartbeats 4000000 in
theorem drawSig (p : Nat) (A : Option Addr) (n c : Nat) (w : World) (hd : Dice w p A n c) :
  Calls Try.prog 123 #[.pointer (some ⟨p, 0, none⟩)] w (AnsSigD w p A n c Good) := by
 have hp := hd.lt
 obtain ⟨W, hW⟩ : ∃ W, W = ((w.alloc (.cells #[.slice none 0 0] 26)).alloc (.cells #[.int .i64 2, .int .i64 1, .int .i64 0] 2)).alloc (.cells #[.slice (some ⟨w.heap.size + 1, 0, none⟩) 3 3] 26) := ⟨_, rfl⟩
 have S0 : SigSt w p A n c (w.heap.size + 1 + 1) W (some ⟨w.heap.size + 1, 0, none⟩) 3 3 [2, 1, 0] := by
  rw [hW]
  have r1 : Row (((w.alloc (.cells #[.slice none 0 0] 26)).alloc (.cells #[.int .i64 2, .int .i64 1, .int .i64 0] 2)).alloc (.cells #[.slice (some ⟨w.heap.size + 1, 0, none⟩) 3 3] 26)) (w.heap.size + 1) 2 #[.int .i64 2, .int .i64 1, .int .i64 0] := by
   have := (Row.new (w.alloc (.cells #[.slice none 0 0] 26)) 2 #[.int .i64 2, .int .i64 1, .int .i64 0]).alloc (.cells #[.slice (some ⟨w.heap.size + 1, 0, none⟩) 3 3] 26)
   simpa using this
  refine ⟨Own.of_row r1 rfl rfl (Nat.le_refl _) (by omega) (by omega) (fun j hj => ?_), ?_, ((Row.new _ _ _).alloc _).alloc _, by simp [blk], by simp [blk], by omega, ((hd.alloc _).alloc _).alloc _, grown_trans (grown_trans (World.grownBy_alloc _ _ _) (World.grownBy_alloc _ _ _)) (World.grownBy_alloc _ _ _), hp⟩
  ·match j, hj with
   | 0, _ => rfl
   | 1, _ => rfl
   | 2, _ => rfl
  ·have := Row.new ((w.alloc (.cells #[.slice none 0 0] 26)).alloc (.cells #[.int .i64 2, .int .i64 1, .int .i64 0] 2)) 26 #[.slice (some ⟨w.heap.size + 1, 0, none⟩) 3 3]
   simpa using this
 have HW := hid hW
 clear hW
 have L := hid (once p A n c 4 W S0.d (by omega) (by omega))
 clear hd
 go_enter Try.func123, Try.ntmps123
 go_wp2_with fail
 rw [← HW.out]
 refine L.out.mono ?_
 rintro e w1 ⟨b, rfl, d1, g1⟩
 have S1 := S0.dice d1 g1
 have cV : w1.cell? ⟨w.heap.size + 1 + 1, 0, none⟩ = some (.slice (some ⟨w.heap.size + 1, 0, none⟩) 3 3) := S1.rV.cell 0
 have cN : w1.cell? ⟨w.heap.size, 0, none⟩ = some (.slice none 0 0) := S1.rN.cell 0
 have fV : w1.frozen? ⟨w.heap.size + 1 + 1, 0, none⟩ = false := S1.rV.free 0
 have fN : w1.frozen? ⟨w.heap.size, 0, none⟩ = false := S1.rN.free 0
 clear d1 g1 S0 L
 cases b with
 | false =>
  have F := hid (S1.result (P := Good) ⟨by decide, by decide, fun j hj => by match j, hj with | 0, _ => decide | 1, _ => decide | 2, _ => decide⟩ S1.nN)
  clear S1
  go_wp2
  exact bodyPost_ret (v := .agg #[.slice (some ⟨w.heap.size + 1, 0, none⟩) 3 3]) (by simp [results, Try.results123, go_sem, cN]) rfl F.out
 | true =>
  have zV : w.heap.size + 1 + 1 < w1.heap.size := S1.rV.lt
  obtain ⟨W2, hW2⟩ : ∃ W2, W2 = (w1.setCell ⟨w.heap.size + 1 + 1, 0, none⟩ (.slice (some ⟨w1.heap.size, 0, none⟩) 1 1)).alloc (.cells #[.int .i64 0] 2) := ⟨_, rfl⟩
  have S2 : SigSt w p A n c (w.heap.size + 1 + 1) W2 (some ⟨w1.heap.size, 0, none⟩) 1 1 [0] := by
   rw [hW2, ← World.setCell_alloc_past (hn := zV)]
   exact S1.put (Own.of_row (Row.new _ _ _) rfl rfl (Nat.le_refl _) (by omega) (by omega) (fun j hj => by match j, hj with | 0, _ => rfl)) (World.grownBy_alloc _ _ _) (.inr rfl) (fun k hk => by have hk : w.heap.size + 1 = k := Option.some.inj hk; omega)
  have HW2 := hid hW2
  have L2 := hid (below p A n c 4 W2 S2.d (by omega) (by omega))
  clear hW2 S1
  go_wp2_with fail
  rw [← HW2.out]
  refine L2.out.mono ?_
  rintro e w3 ⟨x, rfl, x0, x1, d3, g3⟩
  obtain ⟨k0, rfl⟩ := Int.eq_ofNat_of_zero_le x0
  have S3 := S2.dice d3 g3
  have H0 : HeadSigD w p A n c (w.heap.size + 1 + 1) (.int .i64 (k0 : Int)) w3 := ⟨k0, _, _, _, _, rfl, S3, by decide, by simp; omega, fun j hj => by match j, hj with | 0, _ => decide⟩
  have HH := hid H0
  clear H0 S3 S2 d3 g3 L2 cV cN fV fN
  go_wp2_with fail
  go_loopw [4] (fun i wr => HeadSigD w p A n c (w.heap.size + 1 + 1) i wr) (fun i _ => (intOf i).toNat)
  case atStart => exact HH.out
  case round =>
   obtain ⟨k, O, on, oc, xs, rfl, S, hx1, hx2, hxs⟩ := hrel
   clear HH
   have cV : wr.cell? ⟨w.heap.size + 1 + 1, 0, none⟩ = some (.slice O on oc) := S.rV.cell 0
   have cN : wr.cell? ⟨w.heap.size, 0, none⟩ = some (.slice none 0 0) := S.rN.cell 0
   have fV : wr.frozen? ⟨w.heap.size + 1 + 1, 0, none⟩ = false := S.rV.free 0
   have fN : wr.frozen? ⟨w.heap.size, 0, none⟩ = false := S.rN.free 0
   have zV : w.heap.size + 1 + 1 < wr.heap.size := S.rV.lt
   by_cases hk : k = 0
   ·subst hk
    have F := hid (S.result (P := Good) ⟨hx1, by omega, hxs⟩ S.nN)
    clear S
    go_wp2
    exact bodyPost_ret (v := .agg #[.slice O on oc]) (by simp [results, Try.results123, go_sem, cN]) rfl F.out
   ·have k1 : (0 : Int) < (k : Int) := by omega
    have S' := S.drew
    clear S
    go_wp2_with fail
    go_region_law (first
     | (refine stepApp1 rfl _ _ rfl w.heap.size O on oc xs (by simp [Act.eval, Act.put]) (Own.alloc S5.own _) w5.heap.size 1 x (by simp [Act.eval, Act.put]) ((Row.new _ _ _).cell 0) (by omega) (by simp; omega) ?_; intro O' oc' w6 ho6 hg6 hat6 hlt6; have r6 := Row.away (S5.alloc _).rV hg6 S5.nV; have cV6 : w6.cell? ⟨w.heap.size + 1 + 1, 0, none⟩ = some (.slice O on oc) := r6.cell 0; have fV6 : w6.frozen? ⟨w.heap.size + 1 + 1, 0, none⟩ = false := r6.free 0)
     | (go_simp; go_at_call 61; refine (below p A n c 3 _ S'.d (by omega) (by omega)).mono ?_; rintro e w5 ⟨x, rfl, x0, x1, d5, g5⟩; have S5 := S'.dice d5 g5; have cV5 : w5.cell? ⟨w.heap.size + 1 + 1, 0, none⟩ = some (.slice O on oc) := S5.rV.cell 0; have zV5 : w.heap.size + 1 + 1 < w5.heap.size := S5.rV.lt; have hon : on ≤ 4 := by have := Own.len S5.own; omega))
    all_goals
     have S6 := SigSt.put (S5.alloc (.cells #[.int .i64 x] 2)) ho6 hg6 (hat6.elim (fun h => .inl h.symm) (fun h => .inr (by rw [h]; rfl))) (Own.ge S5.own)
     have G := good_snoc hx1 (by omega) hxs x0 (by omega)
     have F : HeadSigD w p A n c (w.heap.size + 1 + 1) (.int .i64 ((k : Int) - 1)) (w6.setCell ⟨w.heap.size + 1 + 1, 0, none⟩ (.slice (some ⟨O', 0, none⟩) (on + 1) oc')) :=
      ⟨k - 1, _, _, _, _, congrArg (Value.int .i64) (by omega), S6, G.1, by simp; omega, G.2.2⟩
     have HF := hid F
     clear F G S6 S5 S' ho6 hg6 hat6 hlt6 r6 cV6 fV6 d5 g5 cV5
     go_wp2
     go_roundw
     case rel => exact HF.out
     case measure => simp [intOf]; omega
def Short (xs : List Int) : Prop := xs.length ≤ 9
theorem Own.blk_lt {w : World} {base : Nat} {O : Option Addr} {on oc : Nat} {xs : List Int} (h : Own w base (.slice O on oc) xs) : ∀ k, blk O = some k → k < w.heap.size := fun k hk => by
 refine (World.ownsRow.lt h k ?_).2
 cases O with
 | none => cases hk
 | some a => exact hk
set_option maxHeartbeats 4000000 in
theorem drawSigAny (p : Nat) (A : Option Addr) (n c : Nat) (w : World) (hd : Dice w p A n c) :
  Calls Try.prog 100 #[.pointer (some ⟨p, 0, none⟩)] w (AnsSigD w p A n c Short) := by
 have hp := hd.lt
 obtain ⟨W, hW⟩ : ∃ W, W = w.alloc (.cells #[.slice none 0 0] 26) := ⟨_, rfl⟩
 have rN : Row W w.heap.size 26 #[.slice none 0 0] := by rw [hW]; exact Row.new _ _ _
 have g0 : w.grownBy W (some p) := by rw [hW]; exact World.grownBy_alloc _ _ _
 have d0 : Dice W p A n c := by rw [hW]; exact hd.alloc _
 have zW : W.heap.size = w.heap.size + 1 := by rw [hW]; simp
 have HW := hid hW
 have L := hid (drawSig p A n c W d0)
 clear hW hd d0
 go_enter Try.func100, Try.ntmps100
 go_wp2_with fail
 rw [← HW.out]
 refine L.out.mono ?_
 rintro e w2 ⟨O, on, oc, xs, rfl, ho, hgood, d2, g2⟩
 rw [zW] at ho
 have rN2 : Row w2 w.heap.size 26 #[.slice none 0 0] := Row.away rN g2 (fun e => by injection e; omega)
 have zN := rN2.lt
 have hxs := hgood.2.1
 have hx1 := hgood.1
 obtain ⟨W3, hW3⟩ : ∃ W3, W3 = w2.alloc (.cells #[.slice O on oc] 26) := ⟨_, rfl⟩
 have S3 : SigSt w p A n c w2.heap.size W3 O on oc xs := by
  rw [hW3]
  refine ⟨Own.alloc (Own.lower ho (Nat.le_succ _)) _, Row.new _ _ _, rN2.alloc _, fun e => ?_, fun e => ?_, zN, d2.alloc _, grown_trans (grown_trans g0 g2) (World.grownBy_alloc _ _ _), hp⟩
  ·have := Own.blk_lt ho _ e; omega
  ·have := Own.ge ho _ e; omega
 have HW3 := hid hW3
 have L3 := hid (once p A n c 15 W3 S3.d (by omega) (by omega))
 obtain ⟨v, hv⟩ : ∃ v, w2.heap.size = v := ⟨_, rfl⟩
 have HV := hid hv
 clear ho hgood d2 g2 rN rN2 g0 L hW3 hv
 go_wp2_with fail
 rw [← HW3.out]
 refine L3.out.mono ?_
 rintro e w4 ⟨b, rfl, d4, g4⟩
 have S4 := S3.dice d4 g4
 rw [HV.out] at S4 ⊢
 have cV : w4.cell? ⟨v, 0, none⟩ = some (.slice O on oc) := S4.rV.cell 0
 have cN : w4.cell? ⟨w.heap.size, 0, none⟩ = some (.slice none 0 0) := S4.rN.cell 0
 have fN : w4.frozen? ⟨w.heap.size, 0, none⟩ = false := S4.rN.free 0
 have zV : v < w4.heap.size := S4.rV.lt
 have zNv := S4.hv
 clear d4 g4 S3 L3
 cases b with
 | false =>
  have F := hid (S4.result (P := Short) (by unfold Short; omega) S4.nN)
  clear S4
  go_wp2
  exact bodyPost_ret (v := .agg #[.slice O on oc]) (by simp [results, Try.results100, go_sem, cN]) rfl F.out
 | true =>
  have L4 := hid (below p A n c 3 w4 S4.d (by omega) (by omega))
  go_wp2_with fail
  refine L4.out.mono ?_
  rintro e w5 ⟨x, rfl, x0, x1, d5, g5⟩
  have S5 := S4.dice d5 g5
  replace cV : w5.cell? ⟨v, 0, none⟩ = some (.slice O on oc) := S5.rV.cell 0
  replace cN : w5.cell? ⟨w.heap.size, 0, none⟩ = some (.slice none 0 0) := S5.rN.cell 0
  replace fN : w5.frozen? ⟨w.heap.size, 0, none⟩ = false := S5.rN.free 0
  have fV : w5.frozen? ⟨v, 0, none⟩ = false := S5.rV.free 0
  replace zV : v < w5.heap.size := S5.rV.lt
  clear d5 g5 S4 L4
  by_cases hx0 : x = 0
  ·subst hx0
   have S6 := S5.drew
   clear S5 x0 x1
   go_wp2_with fail
   go_region_law (first
    | (refine stepApp1 rfl _ _ rfl w.heap.size O on oc xs (by simp [Act.eval, Act.put]) (Own.alloc S7.own _) w7.heap.size 1 y (by simp [Act.eval, Act.put]) ((Row.new _ _ _).cell 0) (by omega) (by simp; omega) ?_; intro O' oc' w8 ho8 hg8 hat8 hlt8; have r8 := Row.away (S7.alloc _).rV hg8 S7.nV; have cV8 : w8.cell? ⟨v, 0, none⟩ = some (.slice O on oc) := r8.cell 0; have fV8 : w8.frozen? ⟨v, 0, none⟩ = false := r8.free 0)
    | (go_simp; go_at_call 101; refine (fromTo p A n c (-1) 4 _ S6.d (by omega) (by omega) (by omega) (by omega)).mono ?_; rintro e w7 ⟨y, rfl, y0, y1, d7, g7⟩; have S7 := S6.dice d7 g7; have cV7 : w7.cell? ⟨v, 0, none⟩ = some (.slice O on oc) := S7.rV.cell 0; have zV7 : v < w7.heap.size := S7.rV.lt; have hon : on ≤ 4 := by have := Own.len S7.own; omega))
   all_goals
    have S8 := SigSt.put (S7.alloc (.cells #[.int .i64 y] 2)) ho8 hg8 (hat8.elim (fun h => .inl h.symm) (fun h => .inr (by rw [h]; rfl))) (Own.ge S7.own)
    have F := hid (S8.result (P := Short) (by unfold Short; simp; omega) S8.nN)
    have cN8 : (w8.setCell ⟨v, 0, none⟩ (.slice (some ⟨O', 0, none⟩) (on + 1) oc')).cell? ⟨w.heap.size, 0, none⟩ = some (.slice none 0 0) := S8.rN.cell 0
    have fN8 : (w8.setCell ⟨v, 0, none⟩ (.slice (some ⟨O', 0, none⟩) (on + 1) oc')).frozen? ⟨w.heap.size, 0, none⟩ = false := S8.rN.free 0
    clear S8 S7 S6 ho8 hg8 hat8 hlt8 r8 d7 g7 cV7
    go_wp2
    exact bodyPost_ret (v := .agg #[.slice (some ⟨O', 0, none⟩) (on + 1) oc']) (by simp [results, Try.results100, go_sem, cN8]) rfl F.out
  ·by_cases hx1' : x = 1
   ·subst hx1'
    have S6 : SigSt w p A n c v ((w5.alloc (.cells #[] 2)).setCell ⟨v, 0, none⟩ (.slice (some ⟨w5.heap.size, 0, none⟩) 0 0)) (some ⟨w5.heap.size, 0, none⟩) 0 0 [] :=
     S5.put (own_empty w5 w.heap.size (by omega)) (World.grownBy_alloc _ _ _) (.inr rfl) (Own.ge S5.own)
    have F := S6.result (P := Short) (by unfold Short; simp) S6.nN
    rw [World.setCell_alloc_past (hn := zV), World.setCell_alloc_past (hn := by simp; omega)] at F
    have HF := hid F
    have zz : w.heap.size < w5.heap.size := by omega
    have znv : ¬ w.heap.size = v := by omega
    have zvn : ¬ v = w.heap.size := by omega
    clear F S6 S5 x0 x1 hx0
    go_wp2
    exact bodyPost_ret (v := .agg #[.slice (some ⟨w5.heap.size, 0, none⟩) 0 0]) (by simp [results, Try.results100, go_sem, cN, zz, znv, zvn]) rfl HF.out
   ·have e2 : x = 2 := by omega
    subst e2
    have L6 := hid (below p A n c 2 w5 S5.d (by omega) (by omega))
    clear x0 x1 hx0 hx1'
    go_wp2_with fail
    refine L6.out.mono ?_
    rintro e w7 ⟨y, rfl, y0, y1, d7, g7⟩
    have S7 := S5.dice d7 g7
    replace cV : w7.cell? ⟨v, 0, none⟩ = some (.slice O on oc) := S7.rV.cell 0
    replace cN : w7.cell? ⟨w.heap.size, 0, none⟩ = some (.slice none 0 0) := S7.rN.cell 0
    replace fN : w7.frozen? ⟨w.heap.size, 0, none⟩ = false := S7.rN.free 0
    replace fV : w7.frozen? ⟨v, 0, none⟩ = false := S7.rV.free 0
    replace zV : v < w7.heap.size := S7.rV.lt
    obtain ⟨k, rfl⟩ := Int.eq_ofNat_of_zero_le y0
    have hmk : ∀ W : World, (Instr.makeSlice 24 (.int .i64 (8 + (k : Int))) (.int .i64 (8 + (k : Int)))).run Try.prog W = .ok (.slice (some ⟨W.heap.size, 0, none⟩) (8 + k) (8 + k)) (W.alloc (.cells (madeCells #[.int .i64 0] (8 + k)) 2)) := fun W => by
     have := run_make_i64 (8 + k) (by omega) W
     rwa [show ((8 + k : Nat) : Int) = 8 + (k : Int) by simp] at this
    have hcells : ∀ j, j < 8 + k → (madeCells #[Value.int .i64 0] (8 + k))[j]? = some (.int .i64 ((List.replicate (8 + k) (0 : Int)).getD j 0)) := fun j hj => by
     simp [madeCells, List.getD, hj, Nat.mod_one]
    have S8 : SigSt w p A n c v ((w7.alloc (.cells (madeCells #[.int .i64 0] (8 + k)) 2)).setCell ⟨v, 0, none⟩ (.slice (some ⟨w7.heap.size, 0, none⟩) (8 + k) (8 + k))) (some ⟨w7.heap.size, 0, none⟩) (8 + k) (8 + k) (List.replicate (8 + k) 0) :=
     S7.put (Own.of_row (Row.new _ _ _) (by simp) (size_madeCells _ _) (Nat.le_refl _) (by omega) (by omega) hcells) (World.grownBy_alloc _ _ _) (.inr rfl) (Own.ge S7.own)
    have F := S8.result (P := Short) (by unfold Short; simp; omega) S8.nN
    rw [World.setCell_alloc_past (hn := zV), World.setCell_alloc_past (hn := by simp; omega)] at F
    have HF := hid F
    have zz : w.heap.size < w7.heap.size := by omega
    have znv : ¬ w.heap.size = v := by omega
    have zvn : ¬ v = w.heap.size := by omega
    clear F S8 S7 S5 d7 g7 hcells L6
    go_wp2
    exact bodyPost_ret (v := .agg #[.slice (some ⟨w7.heap.size, 0, none⟩) (8 + k) (8 + k)]) (by simp [results, Try.results100, go_sem, cN, zz, znv, zvn]) rfl HF.out
end drawSig
end
section
open Go.Lib (hid)
namespace drawTerm
open Go.RowKit base ints sig term cursor marks app sym dice drawSig
set_option maxRecDepth 100000
def Rd (w : World) (p B : Nat) (A : Option Addr) (n : Nat) (xs : List Int) : Prop :=
 xs.length = n ∧ (0 < n → ∃ b off, A = some ⟨b, off, none⟩ ∧ b < B ∧ b ≠ p ∧ ∀ j, j < n → w.cell? ⟨b, off + j, none⟩ = some (.int .i64 (xs.getD j 0)))
theorem Rd.more {w : World} {p B B' : Nat} {A : Option Addr} {n : Nat} {xs : List Int} (h : Rd w p B A n xs) (hB : B ≤ B') : Rd w p B' A n xs :=
 ⟨h.1, fun hn => by obtain ⟨b, off, e, hb, hne, hc⟩ := h.2 hn; exact ⟨b, off, e, by omega, hne, hc⟩⟩
theorem Rd.keep {w w' : World} {p B : Nat} {A : Option Addr} {n : Nat} {xs : List Int} (h : Rd w p B A n xs) (hk : ∀ q : Addr, q.block < B → q.block ≠ p → w'.cell? q = w.cell? q) : Rd w' p B A n xs :=
 ⟨h.1, fun hn => by obtain ⟨b, off, e, hb, hne, hc⟩ := h.2 hn; exact ⟨b, off, e, hb, hne, fun j hj => (hk ⟨b, off + j, none⟩ hb hne).trans (hc j hj)⟩⟩
theorem Rd.grown {w w' : World} {p B : Nat} {A : Option Addr} {n : Nat} {xs : List Int} (h : Rd w p B A n xs) (hg : w.grownBy w' (some p)) (hB : B ≤ w.heap.size) : Rd w' p B A n xs :=
 h.keep fun q hq hne => World.cell?_of_block (hg.block q.block (by omega) (fun e => hne (by injection e)))
theorem Rd.below {w w' : World} {p B B' : Nat} {A : Option Addr} {n : Nat} {xs : List Int} (h : Rd w p B A n xs) (hb : Below B' w w') (hB : B ≤ B') : Rd w' p B A n xs :=
 h.keep fun q hq _ => hb.cell (by omega)
theorem Rd.seg {w : World} {p B : Nat} {A : Option Addr} {n : Nat} {xs : List Int} (h : Rd w p B A n xs) : Seg w B A n xs :=
 ⟨h.1, fun hn => by obtain ⟨b, off, e, hb, _, hc⟩ := h.2 hn; exact ⟨b, off, e, hb, hc⟩⟩
theorem Rd.of_own {w : World} {p base : Nat} {A : Option Addr} {n c : Nat} {xs : List Int} (h : Own w base (.slice A n c) xs) (hp : p < base) : Rd w p w.heap.size A n xs := by
 have hs := Own.seg h
 refine ⟨hs.1, fun hn => ?_⟩
 obtain ⟨b, off, e, hb, hc⟩ := hs.2 hn
 subst e
 exact ⟨b, off, rfl, hb, by have := Own.ge h b rfl; omega, hc⟩
theorem Own.none_cap {w : World} {base : Nat} {A : Option Addr} {n c : Nat} {xs : List Int} (h : Own w base (.slice A n c) xs) : A = none → c = 0 := by
 rintro rfl
 rcases h.form with ⟨e, _⟩ | ⟨g, c', cur, e, _⟩
 ·injection e
 ·injection e with e _ _; cases e
structure DT (w : World) (p : Nat) (A : Option Addr) (n c : Nat) (S : Option Addr) (sn sc : Nat) (sg : List Int) (wr : World) : Prop where
 d : Dice wr p A n c
 r : Row wr w.heap.size 26 #[.slice S sn sc]
 s : Rd wr p w.heap.size S sn sg
 g : w.grownBy wr (some p)
 hp : p < w.heap.size
section
variable {w : World} {p : Nat} {A : Option Addr} {n c : Nat} {S : Option Addr} {sn sc : Nat} {sg : List Int} {wr w' : World}
theorem DT.dice (t : DT w p A n c S sn sc sg wr) (d : Dice w' p A n c) (hg : wr.grownBy w' (some p)) : DT w p A n c S sn sc sg w' :=
 ⟨d, Row.away t.r hg (fun e => by injection e; have := t.hp; omega), t.s.grown hg t.g.size, grown_trans t.g hg, t.hp⟩
theorem DT.below (t : DT w p A n c S sn sc sg wr) (hb : Below (w.heap.size + 1) wr w') : DT w p A n c S sn sc sg w' :=
 ⟨t.d.keep (hb.mono (by have := t.hp; omega)), t.r.below hb (Nat.lt_succ_self _), t.s.below hb (Nat.le_succ _), ⟨hb.os.trans t.g.os, hb.tape.trans t.g.tape, hb.output.trans t.g.output, Nat.le_trans t.g.size hb.size, fun k hk hne => (hb.block k (by omega)).trans (t.g.block k hk hne)⟩, t.hp⟩
theorem DT.drew (t : DT w p A n c S sn sc sg wr) : DT w p A n c S sn sc sg wr.drew := ⟨t.d.drewN 1, t.r.drew, t.s, grown_drewN t.g 1, t.hp⟩
theorem DT.start (hd : Dice w p A n c) (hs : Rd w p w.heap.size S sn sg) : DT w p A n c S sn sc sg (w.alloc (.cells #[.slice S sn sc] 26)) :=
 ⟨hd.alloc _, Row.new _ _ _, hs.below ((Below.refl _ _).alloc (Nat.le_refl _) _) (Nat.le_refl _), World.grownBy_alloc _ _ _, hd.lt⟩
end
def AnsT (w : World) (p : Nat) (A : Option Addr) (n c L : Nat) (e : Ending) (w' : World) : Prop :=
 ∃ O on oc xs, e = .returned (.slice O on oc) ∧ Own w' w.heap.size (.slice O on oc) xs ∧ 1 ≤ on ∧ on ≤ L ∧ Dice w' p A n c ∧ w.grownBy w' (some p)
theorem leaf {w : World} {p : Nat} {A : Option Addr} {n c L : Nat} {S : Option Addr} {sn sc : Nat} {sg : List Int} {u : World} (t : DT w p A n c S sn sc sg u) (hL : 1 ≤ L) (y : Int) :
  AnsT w p A n c L (.returned (.slice (some ⟨u.heap.size, 0, none⟩) 1 1)) (u.alloc (.cells #[.int .i64 y] 2)) :=
 ⟨_, _, _, [y], rfl, Own.of_row (Row.new _ _ _) rfl rfl (Nat.le_refl _) (by omega) t.g.size (fun j hj => by match j, hj with | 0, _ => rfl), Nat.le_refl _, hL, t.d.alloc _, grown_trans t.g (World.grownBy_alloc _ _ _)⟩
def HeadT (w : World) (p : Nat) (A : Option Addr) (n c : Nat) (S : Option Addr) (sn sc : Nat) (sg : List Int) (M : Nat) (out k : Value) (wr : World) : Prop :=
 ∃ (q : Nat) (O : Option Addr) (on oc : Nat) (xs : List Int), k = .int .i64 q ∧ q ≤ 3 ∧ out = .slice O on oc ∧ Own wr (w.heap.size + 1) (.slice O on oc) xs ∧ 1 ≤ on ∧ on + q * M ≤ 1 + 3 * M ∧ DT w p A n c S sn sc sg wr
theorem one_le_four (f : Nat) : 1 ≤ 4 ^ f := Nat.one_le_pow _ _ (by omega)
set_option maxHeartbeats 4000000 in
theorem drawTerm (p : Nat) (A : Option Addr) (n c : Nat) (S : Option Addr) (sn sc : Nat) (sg : List Int) (vars : Int) (hs : Arities sg) (hn1 : 1 ≤ sn) (hn2 : sn ≤ 256) (hv0 : 1 ≤ vars) (hv1 : vars ≤ 256) : ∀ (f0 : Nat) (depth : Int) (w : World),
  Dice w p A n c → Rd w p w.heap.size S sn sg → f0 ≤ 4 → -1000 ≤ depth → depth ≤ (f0 : Int) + 1 →
  Calls Try.prog 102 #[.pointer (some ⟨p, 0, none⟩), .agg #[.slice S sn sc], .int .i64 depth, .int .i64 vars] w (AnsT w p A n c (4 ^ f0)) := by
 intro f0
 induction f0 with
 | zero =>
  intro depth w hd hr hf hlo hdep
  obtain ⟨LL, hLe⟩ : ∃ LL, 4 ^ 0 = LL := ⟨_, rfl⟩
  have hLL : 1 ≤ LL := by rw [← hLe]; exact one_le_four 0
  rw [hLe]
  clear hLe
  have T0 := DT.start (sc := sc) hd hr
  have hz : depth ≤ 1 := by omega
  obtain ⟨W, hW⟩ : ∃ W, W = w.alloc (.cells #[.slice S sn sc] 26) := ⟨_, rfl⟩
  rw [← hW] at T0
  have HW := hid hW
  clear hd hr hW
  go_enter Try.func102, Try.ntmps102
  go_wp2_with fail
  rw [← HW.out]
  have cS : W.cell? ⟨w.heap.size, 0, none⟩ = some (.slice S sn sc) := T0.r.cell 0
  go_wp2_with fail
  refine (once p A n c 2 _ T0.d (by omega) (by omega)).mono ?_
  rintro e u1 ⟨b, rfl, d1, g1⟩
  have T1 := T0.dice d1 g1
  clear d1 g1 cS T0
  cases b with
  | true =>
   go_wp2_with fail
   refine (below p A n c vars _ T1.d hv0 hv1).mono ?_
   rintro e u2 ⟨x, rfl, x0, x1, d2, g2⟩
   have F := hid (leaf (T1.dice d2 g2) hLL (-1 - x))
   clear T1 d2 g2
   go_wp2
   go_ret
   exact F.out
  | false =>
   have cS1 : u1.cell? ⟨w.heap.size, 0, none⟩ = some (.slice S sn sc) := T1.r.cell 0
   go_wp2_with fail
   go_loop [9] (fun i => ∃ k : Nat, k ≤ sn ∧ i = .int .i64 ((k : Int) - 1)) (fun i => (intOf i + 1).toNat)
   case atStart => exact ⟨sn, Nat.le_refl _, rfl⟩
   case round =>
    obtain ⟨k, hk, rfl⟩ := hrel
    by_cases hk0 : k = 0
    ·subst hk0
     have F := hid (leaf T1 hLL (-1))
     clear T1
     go_wp2
     go_ret
     exact F.out
    ·obtain ⟨k1, rfl⟩ : ∃ k1, k = k1 + 1 := ⟨k - 1, by omega⟩
     obtain ⟨b, off, y, rfl, hb, hy, ey⟩ := T1.s.seg.spot (show k1 < sn by omega)
     by_cases hy0 : y = 0
     ·subst hy0
      have F := hid (leaf T1 hLL (k1 : Int))
      clear T1 ey
      go_wp2
      go_ret
      exact F.out
     ·have e2 : (y == 0) = false := by simp [hy0]
      clear T1 ey
      go_wp2
      go_round
      case rel => exact ⟨k1, by omega, congrArg (Value.int .i64) (by omega)⟩
      case measure => first | (simp [intOf]; done) | (simp [intOf]; omega)
 | succ f ih =>
  intro depth w hd hr hf hlo hdep
  have IH := hid ih
  clear ih
  obtain ⟨M, hM⟩ : ∃ M, 4 ^ f = M := ⟨_, rfl⟩
  have hM1 : 1 ≤ M := by rw [← hM]; exact one_le_four f
  have hM2 : M ≤ 64 := by rw [← hM]; exact Nat.pow_le_pow_right (n := 4) (by omega) (show f ≤ 3 by omega)
  obtain ⟨LL, hLe⟩ : ∃ LL, 4 ^ (f + 1) = LL := ⟨_, rfl⟩
  have hLM : LL = 4 * M := by rw [← hLe, ← hM, Nat.pow_succ, Nat.mul_comm]
  have hLL : 1 ≤ LL := by omega
  rw [hLe]
  rw [hM] at IH
  clear hLe hM
  have HLM := hid hLM
  clear hLM
  have T0 := DT.start (sc := sc) hd hr
  obtain ⟨W, hW⟩ : ∃ W, W = w.alloc (.cells #[.slice S sn sc] 26) := ⟨_, rfl⟩
  rw [← hW] at T0
  have HW := hid hW
  clear hd hr hW
  by_cases hz : depth ≤ 1
  ·go_enter Try.func102, Try.ntmps102
   go_wp2_with fail
   rw [← HW.out]
   have cS : W.cell? ⟨w.heap.size, 0, none⟩ = some (.slice S sn sc) := T0.r.cell 0
   go_wp2_with fail
   refine (once p A n c 2 _ T0.d (by omega) (by omega)).mono ?_
   rintro e u1 ⟨b, rfl, d1, g1⟩
   have T1 := T0.dice d1 g1
   clear d1 g1 cS T0
   cases b with
   | true =>
    go_wp2_with fail
    refine (below p A n c vars _ T1.d hv0 hv1).mono ?_
    rintro e u2 ⟨x, rfl, x0, x1, d2, g2⟩
    have F := hid (leaf (T1.dice d2 g2) hLL (-1 - x))
    clear T1 d2 g2
    go_wp2
    go_ret
    exact F.out
   | false =>
    have cS1 : u1.cell? ⟨w.heap.size, 0, none⟩ = some (.slice S sn sc) := T1.r.cell 0
    go_wp2_with fail
    go_loop [9] (fun i => ∃ k : Nat, k ≤ sn ∧ i = .int .i64 ((k : Int) - 1)) (fun i => (intOf i + 1).toNat)
    case atStart => exact ⟨sn, Nat.le_refl _, rfl⟩
    case round =>
     obtain ⟨k, hk, rfl⟩ := hrel
     by_cases hk0 : k = 0
     ·subst hk0
      have F := hid (leaf T1 hLL (-1))
      clear T1
      go_wp2
      go_ret
      exact F.out
     ·obtain ⟨k1, rfl⟩ : ∃ k1, k = k1 + 1 := ⟨k - 1, by omega⟩
      obtain ⟨b, off, y, rfl, hb, hy, ey⟩ := T1.s.seg.spot (show k1 < sn by omega)
      by_cases hy0 : y = 0
      ·subst hy0
       have F := hid (leaf T1 hLL (k1 : Int))
       clear T1 ey
       go_wp2
       go_ret
       exact F.out
      ·have e2 : (y == 0) = false := by simp [hy0]
       clear T1 ey
       go_wp2
       go_round
       case rel => exact ⟨k1, by omega, congrArg (Value.int .i64) (by omega)⟩
       case measure => first | (simp [intOf]; done) | (simp [intOf]; omega)
  ·have hz1 : (1 : Int) < depth := by omega
   go_enter Try.func102, Try.ntmps102
   go_wp2_with fail
   rw [← HW.out]
   refine (once p A n c 4 _ T0.d (by omega) (by omega)).mono ?_
   rintro e u0 ⟨b, rfl, d0, g0⟩
   have T2 := T0.dice d0 g0
   clear d0 g0 T0
   cases b with
   | true =>
    have cS : u0.cell? ⟨w.heap.size, 0, none⟩ = some (.slice S sn sc) := T2.r.cell 0
    go_wp2_with fail
    refine (once p A n c 2 _ T2.d (by omega) (by omega)).mono ?_
    rintro e u1 ⟨b, rfl, d1, g1⟩
    have T1 := T2.dice d1 g1
    clear d1 g1 cS T2
    cases b with
    | true =>
     go_wp2_with fail
     refine (below p A n c vars _ T1.d hv0 hv1).mono ?_
     rintro e u2 ⟨x, rfl, x0, x1, d2, g2⟩
     have F := hid (leaf (T1.dice d2 g2) hLL (-1 - x))
     clear T1 d2 g2
     go_wp2
     go_ret
     exact F.out
    | false =>
     have cS1 : u1.cell? ⟨w.heap.size, 0, none⟩ = some (.slice S sn sc) := T1.r.cell 0
     go_wp2_with fail
     go_loop [9] (fun i => ∃ k : Nat, k ≤ sn ∧ i = .int .i64 ((k : Int) - 1)) (fun i => (intOf i + 1).toNat)
     case atStart => exact ⟨sn, Nat.le_refl _, rfl⟩
     case round =>
      obtain ⟨k, hk, rfl⟩ := hrel
      by_cases hk0 : k = 0
      ·subst hk0
       have F := hid (leaf T1 hLL (-1))
       clear T1
       go_wp2
       go_ret
       exact F.out
      ·obtain ⟨k1, rfl⟩ : ∃ k1, k = k1 + 1 := ⟨k - 1, by omega⟩
       obtain ⟨b, off, y, rfl, hb, hy, ey⟩ := T1.s.seg.spot (show k1 < sn by omega)
       by_cases hy0 : y = 0
       ·subst hy0
        have F := hid (leaf T1 hLL (k1 : Int))
        clear T1 ey
        go_wp2
        go_ret
        exact F.out
       ·have e2 : (y == 0) = false := by simp [hy0]
        clear T1 ey
        go_wp2
        go_round
        case rel => exact ⟨k1, by omega, congrArg (Value.int .i64) (by omega)⟩
        case measure => first | (simp [intOf]; done) | (simp [intOf]; omega)
   | false =>
    have cS : u0.cell? ⟨w.heap.size, 0, none⟩ = some (.slice S sn sc) := T2.r.cell 0
    go_wp2_with fail
    refine (below p A n c (sn : Int) _ T2.d (by omega) (by omega)).mono ?_
    rintro e u1 ⟨x, rfl, x0, x1, d1, g1⟩
    obtain ⟨k, rfl⟩ := Int.eq_ofNat_of_zero_le x0
    have T3 := T2.dice d1 g1
    have hks : k < sn := by omega
    have hsl := T3.s.1
    obtain ⟨b, off, y, rfl, hb, hy, ey⟩ := T3.s.seg.spot hks
    have hyb := hs k (by omega)
    rw [ey.out] at hyb
    obtain ⟨q, rfl⟩ := Int.eq_ofNat_of_zero_le hyb.1
    have hq3 : q ≤ 3 := by omega
    have T4 : DT w p A n c (some ⟨b, off, none⟩) sn sc sg (u1.alloc (.cells #[.int .i64 (k : Int)] 2)) := T3.below ((Below.refl _ _).alloc (by have := T3.r.lt; omega) _)
    have O4 : Own (u1.alloc (.cells #[.int .i64 (k : Int)] 2)) (w.heap.size + 1) (.slice (some ⟨u1.heap.size, 0, none⟩) 1 1) [(k : Int)] :=
     Own.of_row (Row.new _ _ _) rfl rfl (Nat.le_refl _) (by omega) (by have := T3.r.lt; omega) (fun j hj => by match j, hj with | 0, _ => rfl)
    have H0 : HeadT w p A n c (some ⟨b, off, none⟩) sn sc sg M (.slice (some ⟨u1.heap.size, 0, none⟩) 1 1) (.int .i64 (q : Int)) (u1.alloc (.cells #[.int .i64 (k : Int)] 2)) :=
     ⟨q, _, _, _, _, rfl, hq3, rfl, O4, Nat.le_refl _, by have := Nat.mul_le_mul_right M hq3; omega, T4⟩
    have HH := hid H0
    have cS1 : u1.cell? ⟨w.heap.size, 0, none⟩ = some (.slice (some ⟨b, off, none⟩) sn sc) := T3.r.cell 0
    have zN : w.heap.size < u1.heap.size := T3.r.lt
    have zb : b < u1.heap.size := by omega
    have i1 : (k : Int) < (sn : Int) := by omega
    clear H0 T4 O4 T3 T2 d1 g1 cS ey hsl hyb
    go_wp2_with fail
    go_loopw [11, 12] (fun out kk wr => HeadT w p A n c (some ⟨b, off, none⟩) sn sc sg M out kk wr) (fun _ kk _ => (intOf kk).toNat)
    case atStart => exact HH.out
    case round =>
     obtain ⟨q, O, on, oc, xs, rfl, hq3, rfl, ho, ho1, hoM, T⟩ := hrel
     clear HH
     have cS : wr.cell? ⟨w.heap.size, 0, none⟩ = some (.slice (some ⟨b, off, none⟩) sn sc) := T.r.cell 0
     cases q with
     | zero =>
      have F : AnsT w p A n c LL (.returned (.slice O on oc)) wr := ⟨O, on, oc, xs, rfl, Own.lower ho (Nat.le_succ _), ho1, by have := HLM.out; omega, T.d, T.g⟩
      have HF := hid F
      clear F T ho
      go_wp2
      go_ret
      exact HF.out
     | succ q =>
      have e0 : (0 : Int) < ((q + 1 : Nat) : Int) := by omega
      have hoM' : on + q * M + M ≤ 1 + 3 * M := by have e : (q + 1) * M = q * M + M := Nat.succ_mul q M; omega
      have hon : on ≤ 193 := by have := Nat.zero_le (q * M); omega
      go_wp2_with fail
      refine (IH.out (depth - 1) wr T.d (T.s.more T.g.size) (by omega) (by omega) (by omega)).mono ?_
      rintro e u2 ⟨O2, on2, oc2, ys, rfl, o2, h1, h2, d2, g2⟩
      have T2 := T.dice d2 g2
      have ho2 := Own.far ho g2 (fun k hk => by injection hk; have := T.hp; omega)
      have z2 := T2.r.lt
      clear ho T d2 g2 cS
      go_wp2_with (at_builtin; refine appAll rfl _ _ rfl (w.heap.size + 1) O on oc xs rfl ho2 O2 on2 oc2 u2.heap.size ys rfl (Own.seg o2) (Own.none_cap o2) (by omega) (by omega) (by omega) ?_; intro O3 oc3 u3 ho3 b3)
      have F : HeadT w p A n c (some ⟨b, off, none⟩) sn sc sg M (.slice O3 (on + on2) oc3) (.int .i64 (q : Int)) u3 := ⟨q, O3, on + on2, oc3, _, rfl, by omega, rfl, ho3, by omega, by omega, T2.below b3⟩
      have HF := hid F
      clear F ho3 b3 T2 ho2 o2
      go_wp2
      go_roundw
      case rel => first | exact HF.out | simpa using HF.out
      case measure => simp [intOf]
end drawTerm
end
end Go.Proofs.Ytfclafbdbdmlhaa
