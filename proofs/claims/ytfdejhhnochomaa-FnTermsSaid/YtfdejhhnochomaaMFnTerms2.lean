/-
  MERGED: my texts EndOf, Sym, Copy, CurO, Sub, DrawTwo, DrawPairL, DrawPair, Less, CountL, Count, LessMath, Same, WFnLess, Args, Depth, TermMath, Roll, AppAt, WFnTerms, one behind the other, as they are. By an AI agent.
-/
import Derived.Test.YtfdejhhnochomaaMFnTerms1
import Derived.WalkSpells
import Derived.Maps.AppendAt
namespace Go.Proofs.Ytfdejhhnochomaa
section
open Go.Lib (hid)
namespace endAt
open Go.RowKit base ints sig term arity endOf cursor termOk
def inB (t : List Int) (x : Int) : Bool := decide (0 ≤ x ∧ x < t.length)
def thereB (sg t : List Int) (x : Int) : Bool := termOkB sg t && inB t x
def endOfI (sg t : List Int) (x : Int) : Int := if thereB sg t x = true then endI sg t x.toNat else -1
theorem termOk_parts {sg t : List Int} (h : termOkB sg t = true) : sigOkB sg = true ∧ t.length ≤ 60 ∧ scan sg 1 t = some t.length := by
 unfold termOkB termB at h
 simp only [Bool.and_eq_true, decide_eq_true_eq] at h
 exact h
theorem there_parts {sg t : List Int} {x : Int} (h : thereB sg t x = true) : termOkB sg t = true ∧ 0 ≤ x ∧ x < t.length := by
 unfold thereB inB at h
 simp only [Bool.and_eq_true, decide_eq_true_eq] at h
 exact h
theorem there_no {sg t : List Int} {x : Int} (h : termOkB sg t = false ∨ x < 0 ∨ (t.length : Int) ≤ x) : thereB sg t x = false := by
 unfold thereB inB
 rcases h with h | h | h
 ·rw [h, Bool.false_and]
 ·rw [decide_eq_false (by omega), Bool.and_false]
 ·rw [decide_eq_false (by omega), Bool.and_false]
theorem there_yes {sg t : List Int} {x : Int} (h : termOkB sg t = true) (h0 : 0 ≤ x) (h1 : x < t.length) : thereB sg t x = true := by
 unfold thereB inB
 rw [h, decide_eq_true ⟨h0, h1⟩]
 rfl
theorem there (A : Option Addr) (m c : Nat) (x : Int) (b : Bool) (w : World) (hm : m ≤ 1048576) (hb : decide (0 ≤ x ∧ x < m) = b) :
  Calls Try.prog 53 #[.slice A m c, .int .i64 x] w fun e w' => w = w' ∧ e = .returned (.bool b) := by
 by_cases h : 0 ≤ x ∧ x ≤ (m : Int) - 1
 ·have hbt : b = true := by rw [← hb]; simp; omega
  subst hbt
  clear hb
  go_enter Try.func53, Try.ntmps53
  go_wp2_with fail
  refine (inYes _ _ _ _ h).mono ?_
  rintro e w' ⟨rfl, rfl⟩
  go_wp2
  go_ret
  exact ⟨rfl, rfl⟩
 ·have hbt : b = false := by rw [← hb]; simp; omega
  subst hbt
  clear hb
  go_enter Try.func53, Try.ntmps53
  go_wp2_with fail
  refine (inNo _ _ _ _ h).mono ?_
  rintro e w' ⟨rfl, rfl⟩
  go_wp2
  go_ret
  exact ⟨rfl, rfl⟩
def AnsEndOf (w : World) (sg t : List Int) (x : Int) (e : Ending) (w' : World) : Prop := e = .returned (.int .i64 (endOfI sg t x)) ∧ Below w.heap.size w w'
theorem endOf_no {w w' : World} {sg t : List Int} {x : Int} (h : thereB sg t x = false) (hb : Below w.heap.size w w') : AnsEndOf w sg t x (.returned (.int .i64 (-1))) w' :=
 ⟨by unfold endOfI; rw [if_neg (by rw [h]; simp)], hb⟩
theorem endOf_yes {w w' : World} {sg t : List Int} {x : Int} (h : thereB sg t x = true) (hb : Below w.heap.size w w') : AnsEndOf w sg t x (.returned (.int .i64 (endI sg t x.toNat))) w' :=
 ⟨by unfold endOfI; rw [if_pos h], hb⟩
def AnsAt (w : World) (A : Option Addr) (n c : Nat) (A' : Option Addr) (m c' : Nat) (sg t : List Int) (x : Int) (e : Ending) (w' : World) : Prop :=
 Below w.heap.size w w' ∧ ((thereB sg t x = true ∧ ∃ p, e = .returned (.pointer (some ⟨p, 0, none⟩)) ∧ w.heap.size ≤ p ∧ Cur w' p A n c A' m c' sg t x.toNat) ∨ (thereB sg t x = false ∧ e = .returned (.pointer none)))
theorem at_no {w w' : World} {A A' : Option Addr} {n c m c' : Nat} {sg t : List Int} {x : Int} (h : thereB sg t x = false) (hb : Below w.heap.size w w') : AnsAt w A n c A' m c' sg t x (.returned (.pointer none)) w' := ⟨hb, .inr ⟨h, rfl⟩⟩
set_option maxHeartbeats 1000000 in
theorem cursorAt (A A' : Option Addr) (n c m c' : Nat) (sg t : List Int) (x : Int) (w : World) (h : Seg w w.heap.size A n sg) (h' : Seg w w.heap.size A' m t) (hn : n ≤ 1048576) (hm : m ≤ 1048576) :
  Calls Try.prog 55 #[.agg #[.slice A n c], .slice A' m c', .int .i64 x] w (AnsAt w A n c A' m c' sg t x) := by
 obtain ⟨W, hW⟩ : ∃ W, W = w.alloc (.cells #[.slice A n c] 27) := ⟨_, rfl⟩
 have rA : Row W w.heap.size 27 #[.slice A n c] := by rw [hW]; exact Row.new _ _ _
 have bel : Below w.heap.size w W := by rw [hW]; exact (Below.refl _ _).alloc (Nat.le_refl _) _
 replace h := (h.below bel).more bel.size
 replace h' := (h'.below bel).more bel.size
 have HW := hid hW
 have HL := hid h'.1
 clear hW
 have L := hid (implTermOk A A' n c m c' sg t W h h' hn hm)
 cases hok : termOkB sg t with
 | false =>
  have HS := hid hok
  clear hok h h'
  go_enter Try.func55, Try.ntmps55
  go_wp2_with fail
  rw [← HW.out]
  refine L.out.mono ?_
  rintro e w1 ⟨he, bb⟩
  rw [HS.out] at he
  subst he
  have F := hid (fun A n c A' m c' => at_no (A := A) (n := n) (c := c) (A' := A') (m := m) (c' := c') (x := x) (there_no (.inl HS.out)) (next_trans bel bb))
  clear bb bel rA
  go_wp2
  go_ret
  exact F.out _ _ _ _ _ _
 | true =>
  have HS := hid hok
  clear hok
  by_cases hin : 0 ≤ x ∧ x < (m : Int)
  ·have hars := (sig_arities (termOk_parts HS.out).1).1
   have HT := hid (there_yes HS.out hin.1 (by rw [HL.out]; exact hin.2))
   obtain ⟨k, rfl⟩ := Int.eq_ofNat_of_zero_le hin.1
   obtain ⟨i0, i1⟩ := hin
   go_enter Try.func55, Try.ntmps55
   go_wp2_with fail
   rw [← HW.out]
   refine L.out.mono ?_
   rintro e w1 ⟨he, bb⟩
   rw [HS.out] at he
   subst he
   replace h := h.next bb
   replace h' := h'.next bb
   replace rA := rA.next bb
   replace bel := next_trans bel bb
   have cA : w1.cell? ⟨w.heap.size, 0, none⟩ = some (.slice A n c) := rA.cell 0
   have CN := cur_new (c := c) (c' := c') h h' hn hm hars k (by omega)
   have F : AnsAt w A n c A' m c' sg t (k : Int) (.returned (.pointer (some ⟨w1.heap.size, 0, none⟩))) (w1.alloc (.cells #[.slice A n c, .slice A' m c', .int .i64 k] 120)) :=
    ⟨bel.alloc (Nat.le_of_lt rA.lt) _, .inl ⟨HT.out, _, rfl, Nat.le_of_lt rA.lt, by rw [Int.toNat_natCast]; exact CN⟩⟩
   have HF := hid F
   clear F CN bb bel rA h h' hars HT
   go_wp2
   go_ret
   exact HF.out
  ·have HT := hid (there_no (sg := sg) (t := t) (x := x) (by rw [HL.out]; omega))
   by_cases hx0 : x < 0
   ·clear hin
    go_enter Try.func55, Try.ntmps55
    go_wp2_with fail
    rw [← HW.out]
    refine L.out.mono ?_
    rintro e w1 ⟨he, bb⟩
    rw [HS.out] at he
    subst he
    have F := hid (fun A n c A' m c' => at_no (A := A) (n := n) (c := c) (A' := A') (m := m) (c' := c') HT.out (next_trans bel bb))
    clear bb bel rA h h'
    go_wp2
    go_ret
    exact F.out _ _ _ _ _ _
   ·have hx1 : (m : Int) ≤ x := by omega
    clear hin
    go_enter Try.func55, Try.ntmps55
    go_wp2_with fail
    rw [← HW.out]
    refine L.out.mono ?_
    rintro e w1 ⟨he, bb⟩
    rw [HS.out] at he
    subst he
    have F := hid (fun A n c A' m c' => at_no (A := A) (n := n) (c := c) (A' := A') (m := m) (c' := c') HT.out (next_trans bel bb))
    clear bb bel rA h h'
    go_wp2
    go_ret
    exact F.out _ _ _ _ _ _
set_option maxHeartbeats 1000000 in
theorem implEndOf (A A' : Option Addr) (n c m c' : Nat) (sg t : List Int) (x : Int) (w : World) (h : Seg w w.heap.size A n sg) (h' : Seg w w.heap.size A' m t) (hn : n ≤ 1048576) (hm : m ≤ 1048576) (_ : -9223372036854775808 ≤ x) (_ : x ≤ 9223372036854775807) :
  Calls Try.prog 45 #[.agg #[.slice A n c], .slice A' m c', .int .i64 x] w (AnsEndOf w sg t x) := by
 obtain ⟨W, hW⟩ : ∃ W, W = w.alloc (.cells #[.slice A n c] 27) := ⟨_, rfl⟩
 have bel : Below w.heap.size w W := by rw [hW]; exact (Below.refl _ _).alloc (Nat.le_refl _) _
 replace h := (h.below bel).more bel.size
 replace h' := (h'.below bel).more bel.size
 have HW := hid hW
 have HL := hid h'.1
 clear hW
 have L := hid (cursorAt A A' n c m c' sg t x W h h' hn hm)
 clear h h'
 go_enter Try.func45, Try.ntmps45
 go_wp2_with fail
 rw [← HW.out]
 refine L.out.mono ?_
 rintro e w1 ⟨bb, ⟨ht, p, rfl, hp, hc⟩ | ⟨ht, rfl⟩⟩
 ·replace bel := next_trans bel bb
  have HT := hid ht
  have hsz : W.heap.size < w1.heap.size := Nat.lt_of_le_of_lt hp hc.row.lt
  have hwp : w.heap.size ≤ p := by rw [HW.out] at hp; simp at hp; omega
  clear ht bb
  go_wp2_with fail
  refine (pass p A n c A' m c' sg t x.toNat _ hc).mono ?_
  obtain ⟨hok, h0, h1⟩ := there_parts HT.out
  obtain ⟨j, hj, hj1, hj2⟩ := scan_at (termOk_parts hok).2.2 (a := x.toNat) (by omega)
  rintro e w2 ⟨hg, ⟨j', hj', rfl, hc2⟩ | ⟨hj', rfl, -⟩⟩
  ·have c2 : w2.cell? ⟨p, 2, none⟩ = some (.int .i64 ((x.toNat + j' : Nat) : Int)) := hc2.row.cell 2
   have b2 : Below w.heap.size w w2 := bel.grown hg (by have := bel.size; omega) (fun k hk => by injection hk; omega)
   have F := endOf_yes HT.out b2
   rw [endI_some hj'] at F
   rw [show ((x.toNat : Int) + (j' : Int)) = ((x.toNat + j' : Nat) : Int) by simp] at F
   have HF := hid F
   clear F b2 hg hc2 hj hj1 hj2 hj' h0 h1 hok hc bel HT
   generalize x.toNat + j' = z at *
   go_wp2
   go_ret
   exact HF.out
  ·rw [hj] at hj'
   cases hj'
 ·have F := hid (endOf_no ht (next_trans bel bb))
  clear bb bel ht
  go_wp2
  go_ret
  exact F.out
end endAt
end
section
open Go.Lib (hid)
namespace sym
open Go.RowKit base ints sig term termOk marks app
def symP (t : List Int) (k : Nat) : List Int := ((List.range k).filter fun j => decide (0 ≤ t.getD j 0)).map fun (j : Nat) => (j : Int)
def symI (sg t : List Int) : List Int := if termOkB sg t = true then symP t t.length else []
theorem symP_yes {t : List Int} {k : Nat} {x : Int} (ex : Hid (t.getD k 0 = x)) (h : 0 ≤ x) : symP t (k + 1) = symP t k ++ [(k : Int)] := by
 unfold symP
 rw [List.range_succ, List.filter_append, List.map_append]
 simp only [List.filter_cons, List.filter_nil, ex.out, h, decide_true, if_true, List.map_cons, List.map_nil]
theorem symP_no {t : List Int} {k : Nat} {x : Int} (ex : Hid (t.getD k 0 = x)) (h : ¬ 0 ≤ x) : symP t (k + 1) = symP t k := by
 unfold symP
 rw [List.range_succ, List.filter_append, List.map_append]
 simp only [List.filter_cons, List.filter_nil, ex.out, h, decide_false, List.map_nil, List.append_nil]
 simp
theorem symP_len (t : List Int) (k : Nat) : (symP t k).length ≤ k := by
 unfold symP
 rw [List.length_map]
 exact Nat.le_trans (List.length_filter_le _ _) (by simp)
def HeadSym (w : World) (A : Option Addr) (n c m : Nat) (t : List Int) (out i : Value) (wr : World) : Prop :=
 ∃ (k : Nat) (O : Option Addr) (on oc : Nat), k ≤ m ∧ i = .int .i64 k ∧ out = .slice O on oc ∧ Own wr (w.heap.size + 1) (.slice O on oc) (symP t k) ∧ Row wr w.heap.size 27 #[.slice A n c] ∧ Below w.heap.size w wr
theorem headSym_yes {w w2 : World} {A : Option Addr} {n c m k : Nat} {t : List Int} {x : Int} {O : Option Addr} {on oc : Nat} (hk : k < m) (ex : Hid (t.getD k 0 = x)) (h0 : 0 ≤ x) (ho : Own w2 (w.heap.size + 1) (.slice O on oc) (symP t k ++ [(k : Int)]))
  (hr : Row w2 w.heap.size 27 #[.slice A n c]) (hb : Below w.heap.size w w2) : HeadSym w A n c m t (.slice O on oc) (.int .i64 ((k : Int) + 1)) w2 :=
 ⟨k + 1, O, on, oc, hk, by simp, rfl, by rw [symP_yes ex h0]; exact ho, hr, hb⟩
theorem headSym_no {w w2 : World} {A : Option Addr} {n c m k : Nat} {t : List Int} {x : Int} {O : Option Addr} {on oc : Nat} (hk : k < m) (ex : Hid (t.getD k 0 = x)) (h0 : ¬ 0 ≤ x) (ho : Own w2 (w.heap.size + 1) (.slice O on oc) (symP t k))
  (hr : Row w2 w.heap.size 27 #[.slice A n c]) (hb : Below w.heap.size w w2) : HeadSym w A n c m t (.slice O on oc) (.int .i64 ((k : Int) + 1)) w2 :=
 ⟨k + 1, O, on, oc, hk, by simp, rfl, by rw [symP_no ex h0]; exact ho, hr, hb⟩
set_option maxHeartbeats 1000000 in
theorem implSym (A A' : Option Addr) (n c m c' : Nat) (sg t : List Int) (w : World) (h : Seg w w.heap.size A n sg) (h' : Seg w w.heap.size A' m t) (hn : n ≤ 1048576) (hm : m ≤ 1048576) :
  Calls Try.prog 46 #[.agg #[.slice A n c], .slice A' m c'] w (AnsList w (symI sg t)) := by
 have HL := hid h'.1
 obtain ⟨W, hW⟩ : ∃ W, W = w.alloc (.cells #[.slice A n c] 27) := ⟨_, rfl⟩
 have rA : Row W w.heap.size 27 #[.slice A n c] := by rw [hW]; exact Row.new _ _ _
 have bel : Below w.heap.size w W := by rw [hW]; exact (Below.refl _ _).alloc (Nat.le_refl _) _
 have s := (h.below bel).more bel.size
 have s' := (h'.below bel).more bel.size
 have HW := hid hW
 clear hW
 have L := hid (implTermOk A A' n c m c' sg t W s s' hn hm)
 clear s s'
 cases hok : termOkB sg t with
 | false =>
  have HS := hid hok
  clear hok
  go_enter Try.func46, Try.ntmps46
  go_wp2_with fail
  rw [← HW.out]
  refine L.out.mono ?_
  rintro e w1 ⟨he, bb⟩
  rw [HS.out] at he
  subst he
  have F : AnsList w (symI sg t) (.returned (.slice none 0 0)) w1 := ⟨_, _, _, rfl, by unfold symI; rw [if_neg (by rw [HS.out]; simp)]; exact Own.nil _ _, next_trans bel bb⟩
  have HF := hid F
  clear F bb bel rA h h'
  go_wp2
  go_ret
  exact HF.out
 | true =>
  have HS := hid hok
  clear hok
  go_enter Try.func46, Try.ntmps46
  go_wp2_with fail
  rw [← HW.out]
  refine L.out.mono ?_
  rintro e w1 ⟨he, bb⟩
  rw [HS.out] at he
  subst he
  have S0 : HeadSym w A n c m t (.slice none 0 0) (.int .i64 0) w1 := ⟨0, _, _, _, Nat.zero_le _, rfl, rfl, by simpa [symP] using Own.nil w1 (w.heap.size + 1), rA.next bb, next_trans bel bb⟩
  have HS0 := hid S0
  clear S0 bb bel rA
  go_wp2_with fail
  go_loopw [5, 14] (fun out i wr => HeadSym w A n c m t out i wr) (fun _ i _ => m - (intOf i).toNat)
  case atStart => exact HS0.out
  case round =>
   obtain ⟨k, O, on, oc, hk, rfl, rfl, ho, hr, hb⟩ := hrel
   clear HS0
   have hon : on ≤ 1048576 := by have := Own.len ho; have := symP_len t k; omega
   by_cases hlt : k < m
   ·obtain ⟨b, off, x, rfl, hbb, hx, ex⟩ := h'.spot hlt
    have hx1 : wr.cell? ⟨b, off + k, none⟩ = some (.int .i64 x) := (hb.cell (p := ⟨b, off + k, none⟩) hbb).trans hx
    have hsz := hr.lt
    clear hx h h'
    by_cases h0 : 0 ≤ x
    ·go_wp2_with (at_builtin; refine app1 rfl _ _ rfl (w.heap.size + 1) O on oc (symP t k) rfl (Own.alloc ho _) wr.heap.size 1 (k : Int) rfl ((Row.new _ _ _).cell 0) (by omega) (by simp; omega) ?_; intro O' oc' w2 ho2 b2)
     have S := hid (headSym_yes (A := A) (n := n) (c := c) hlt ex h0 ho2 ((hr.alloc _).below b2 (Nat.lt_succ_self _)) ((hb.alloc (Nat.le_of_lt hsz) _).trans (b2.mono (Nat.le_succ _))))
     clear ho2 b2 ho hr hb ex
     go_wp2
     go_roundw
     case rel => exact S.out
     case measure => simp [intOf]; omega
    ·have S := hid (headSym_no (A := A) (n := n) (c := c) hlt ex h0 ho hr hb)
     clear ho hr hb ex
     go_wp2
     go_roundw
     case rel => exact S.out
     case measure => simp [intOf]; omega
   ·have F : AnsList w (symI sg t) (.returned (.slice O on oc)) wr := by
     refine ⟨O, on, oc, rfl, ?_, hb⟩
     unfold symI
     rw [if_pos HS.out, HL.out, ← show k = m by omega]
     exact Own.lower ho (Nat.le_succ _)
    have HF := hid F
    clear F ho hr hb h h'
    go_wp2
    go_ret
    exact HF.out
end sym
end
section
namespace sub
open Go.RowKit base ints marks app sym
theorem Seg.cut {w : World} {B b off m a j : Nat} {t : List Int} (h : Seg w B (some ⟨b, off, none⟩) m t) (hj : a + j ≤ m) : Seg w B (some ⟨b, off + a, none⟩) j ((t.drop a).take j) := by
 refine ⟨by have := h.1; simp; omega, fun hn => ?_⟩
 obtain ⟨b', off', e, hb, hc⟩ := h.2 (by omega)
 injection e with e
 injection e with e1 e2
 subst e1 e2
 refine ⟨_, _, rfl, hb, fun q hq => ?_⟩
 rw [Nat.add_assoc, hc (a + q) (by omega)]
 simp [List.getD, List.getElem?_take, hq]
set_option maxHeartbeats 400000 in
theorem copyInts (S : Option Addr) (m c : Nat) (ys : List Int) (w : World) (h : Seg w w.heap.size S m ys) (hnone : S = none → c = 0) (hm : m ≤ 1048576) :
  Calls Try.prog 101 #[.slice S m c] w (AnsList w ys) := by
 have ho := own_empty w w.heap.size (Nat.le_refl _)
 have bb : Below w.heap.size w (w.alloc (.cells #[] 2)) := (Below.refl _ _).alloc (Nat.le_refl _) _
 have hs := h.alloc (Nat.le_refl _) (.cells #[] 2)
 have HN := Lib.hid hnone
 clear hnone h
 go_enter Try.func101, Try.ntmps101
 go_wp2_with (at_builtin; refine appAll rfl _ _ rfl w.heap.size (some ⟨w.heap.size, 0, none⟩) 0 0 [] rfl ho S m c w.heap.size ys rfl hs HN.out (by omega) (by omega) (by simp) ?_; intro A' c' w' ho' b')
 simp only [Nat.zero_add, List.nil_append] at ho'
 have F : AnsList w ys (.returned (.slice A' m c')) w' := ⟨A', m, c', rfl, ho', bb.trans b'⟩
 have HF := Lib.hid F
 clear F ho' b' bb hs ho
 go_wp2
 go_ret
 exact HF.out
set_option maxHeartbeats 400000 in
theorem cloneInts (b off m c : Nat) (ys : List Int) (w : World) (h : Seg w w.heap.size (some ⟨b, off, none⟩) m ys) (hm : m ≤ 1048576) :
  Calls Try.prog 75 #[.slice (some ⟨b, off, none⟩) m c] w (AnsList w ys) := by
 have ho := own_empty w w.heap.size (Nat.le_refl _)
 have bb : Below w.heap.size w (w.alloc (.cells #[] 2)) := (Below.refl _ _).alloc (Nat.le_refl _) _
 have hs := h.alloc (Nat.le_refl _) (.cells #[] 2)
 clear h
 have hnil : ∀ (w : World) (a : Option Addr) (n c n' c' : Nat), (binOp .eql 22 (.slice a n c) (.slice none n' c')).run Try.prog w = .ok (.bool a.isNone) w := fun w a n c n' c' => Lib.run_eql_slice_nil w _ _ a n c n' c' Try.underlying22
 go_enter Try.func75, Try.ntmps75
 go_wp2_with (at_builtin; refine appAll rfl _ _ rfl w.heap.size (some ⟨w.heap.size, 0, none⟩) 0 0 [] rfl ho (some ⟨b, off, none⟩) m c w.heap.size ys rfl hs (fun e => by cases e) (by omega) (by omega) (by simp) ?_; intro A' c' w' ho' b')
 simp only [Nat.zero_add, List.nil_append] at ho'
 have F : AnsList w ys (.returned (.slice A' m c')) w' := ⟨A', m, c', rfl, ho', bb.trans b'⟩
 have HF := Lib.hid F
 clear F ho' b' bb hs ho hnil
 go_wp2
 go_ret
 exact HF.out
end sub
end
section
open Go.Lib (hid)
namespace curO
open Go.RowKit base ints sig term arity cursor sub
set_option maxRecDepth 100000
structure CurO (w : World) (p o : Nat) (ty : TypeId) (cs : Array Value) (A : Option Addr) (n c : Nat) (A' : Option Addr) (m c' : Nat) (sg t : List Int) (k : Nat) : Prop where
 row : Row w p ty (cs.setIfInBounds (o + 2) (.int .i64 k))
 h0 : cs[o]? = some (.slice A n c)
 h1 : cs[o + 1]? = some (.slice A' m c')
 sz : o + 2 < cs.size
 s : Seg w p A n sg
 s' : Seg w p A' m t
 le : k ≤ m
 hn : n ≤ 1048576
 hm : m ≤ 1048576
 ars : Arities sg
section
variable {w w' : World} {p o : Nat} {ty : TypeId} {cs : Array Value} {A : Option Addr} {n c : Nat} {A' : Option Addr} {m c' : Nat} {sg t : List Int} {k : Nat}
theorem CurO.c0 (h : CurO w p o ty cs A n c A' m c' sg t k) : w.cell? ⟨p, o, none⟩ = some (.slice A n c) := by
 rw [h.row.cell o, Array.getElem?_setIfInBounds_ne (by omega)]; exact h.h0
theorem CurO.c1 (h : CurO w p o ty cs A n c A' m c' sg t k) : w.cell? ⟨p, o + 1, none⟩ = some (.slice A' m c') := by
 rw [h.row.cell (o + 1), Array.getElem?_setIfInBounds_ne (by omega)]; exact h.h1
theorem CurO.c2 (h : CurO w p o ty cs A n c A' m c' sg t k) : w.cell? ⟨p, o + 2, none⟩ = some (.int .i64 k) := by
 rw [h.row.cell (o + 2), Array.getElem?_setIfInBounds_self_of_lt h.sz]
theorem CurO.below (h : CurO w p o ty cs A n c A' m c' sg t k) (hb : Below w.heap.size w w') : CurO w' p o ty cs A n c A' m c' sg t k :=
 have hp := h.row.lt
 ⟨h.row.next hb, h.h0, h.h1, h.sz, h.s.below (hb.mono (Nat.le_of_lt hp)), h.s'.below (hb.mono (Nat.le_of_lt hp)), h.le, h.hn, h.hm, h.ars⟩
theorem CurO.drewN (h : CurO w p o ty cs A n c A' m c' sg t k) (d : Nat) : CurO (w.drewN d) p o ty cs A n c A' m c' sg t k :=
 ⟨h.row, h.h0, h.h1, h.sz, h.s, h.s', h.le, h.hn, h.hm, h.ars⟩
theorem CurO.step (h : CurO w p o ty cs A n c A' m c' sg t k) (hk : k < m) (d : Nat) :
  CurO ((w.drewN d).setCell ⟨p, o + 2, none⟩ (.int .i64 ((k : Int) + 1))) p o ty cs A n c A' m c' sg t (k + 1) := by
 have r := (h.row.drewN d).put (o + 2) (.int .i64 ((k : Int) + 1))
 rw [Array.setIfInBounds_setIfInBounds] at r
 refine ⟨?_, h.h0, h.h1, h.sz, (h.s.drewN d).put (p := ⟨p, o + 2, none⟩) (Nat.le_refl _) _, (h.s'.drewN d).put (p := ⟨p, o + 2, none⟩) (Nat.le_refl _) _, hk, h.hn, h.hm, h.ars⟩
 have e : (.int .i64 ((k : Int) + 1) : Value) = .int .i64 ((k + 1 : Nat) : Int) := by simp
 rw [← e]
 exact r
end
def NextO (w : World) (p o : Nat) (ty : TypeId) (cs : Array Value) (A : Option Addr) (n c : Nat) (A' : Option Addr) (m c' : Nat) (sg t : List Int) (k : Nat) (e : Ending) (w' : World) : Prop :=
 w.grownBy w' (some p) ∧ ((k < m ∧ e = .returned (.int .i64 (ar sg (t.getD k 0))) ∧ CurO w' p o ty cs A n c A' m c' sg t (k + 1)) ∨ (k = m ∧ e = .returned (.int .i64 (-1)) ∧ CurO w' p o ty cs A n c A' m c' sg t k))
set_option maxHeartbeats 1000000 in
theorem nextO (p o : Nat) (ty : TypeId) (cs : Array Value) (A : Option Addr) (n c : Nat) (A' : Option Addr) (m c' : Nat) (sg t : List Int) (k : Nat) (w : World) (h : CurO w p o ty cs A n c A' m c' sg t k) :
  Calls Try.prog 97 #[.pointer (some ⟨p, o, none⟩)] w (NextO w p o ty cs A n c A' m c' sg t k) := by
 have hk := h.le
 have hm := h.hm
 have c0 := h.c0
 have c1 := h.c1
 have c2 := h.c2
 have f2 : w.frozen? ⟨p, o + 2, none⟩ = false := h.row.free (o + 2)
 by_cases hlt : k < m
 ·obtain ⟨b, off, x, rfl, hbb, hx, ex⟩ := h.s'.spot hlt
  have i0 : (0 : Int) ≤ (k : Int) := by omega
  have i1 : (k : Int) < (m : Int) := by omega
  have HS := hid (fun d => h.step hlt d)
  have HG := hid (fun d => grown_put (grown_drewN (World.grownBy.refl w (some p)) d) (o + 2) (.int .i64 ((k : Int) + 1)))
  clear h
  go_enter Try.func97, Try.ntmps97
  go_wp2
  go_quiet (fail)
  go_wp2
  go_quiet (fail)
  go_wp2_with fail
  refine (implArity A n c sg x _ ((HS.out _).s.more (Nat.le_of_lt (HS.out _).row.lt)) (HS.out 0).hn).mono ?_
  rintro e w' ⟨rfl, bb⟩
  have F : NextO w p o ty cs A n c (some ⟨b, off, none⟩) m c' sg t k (.returned (.int .i64 (ar sg x))) w' :=
   ⟨grown_trans (HG.out _) (grown_below bb _), .inl ⟨hlt, by rw [ex.out], (HS.out _).below bb⟩⟩
  have HF := hid F
  clear F HG HS bb ex
  go_wp2
  go_ret
  exact HF.out
 ·have e : k = m := by omega
  have HS := hid (fun d => h.drewN d)
  have HE := hid e
  have i2 : decide (m ≤ k) = true := by simp; omega
  clear e h
  go_enter Try.func97, Try.ntmps97
  go_wp2
  go_quiet (fail)
  go_wp2
  go_ret
  exact ⟨grown_drewN (World.grownBy.refl w (some p)) _, .inr ⟨HE.out, rfl, HS.out _⟩⟩
def PassO (w : World) (p o : Nat) (ty : TypeId) (cs : Array Value) (A : Option Addr) (n c : Nat) (A' : Option Addr) (m c' : Nat) (sg t : List Int) (k : Nat) (e : Ending) (w' : World) : Prop :=
 w.grownBy w' (some p) ∧ ((∃ j, scan sg 1 (t.drop k) = some j ∧ e = .returned (.bool true) ∧ CurO w' p o ty cs A n c A' m c' sg t (k + j)) ∨ (scan sg 1 (t.drop k) = none ∧ e = .returned (.bool false) ∧ ∃ k', CurO w' p o ty cs A n c A' m c' sg t k'))
def HeadO (w : World) (p o : Nat) (ty : TypeId) (cs : Array Value) (A : Option Addr) (n c : Nat) (A' : Option Addr) (m c' : Nat) (sg t : List Int) (a : Nat) (q : Value) (wr : World) : Prop :=
 ∃ k q' : Nat, q = .int .i64 q' ∧ q' ≤ 3 * k + 1 ∧ Scn sg t a k q' ∧ CurO wr p o ty cs A n c A' m c' sg t k ∧ w.grownBy wr (some p)
def atO (p o : Nat) (wr : World) : Nat := (intOf ((wr.cell? ⟨p, o + 2, none⟩).getD undef)).toNat
theorem atO_cur {w : World} {p o : Nat} {ty : TypeId} {cs : Array Value} {A : Option Addr} {n c : Nat} {A' : Option Addr} {m c' : Nat} {sg t : List Int} {k : Nat} (h : CurO w p o ty cs A n c A' m c' sg t k) : atO p o w = k := by
 unfold atO
 rw [h.c2]
 simp [intOf]
set_option maxHeartbeats 1000000 in
theorem passO (p o : Nat) (ty : TypeId) (cs : Array Value) (A : Option Addr) (n c : Nat) (A' : Option Addr) (m c' : Nat) (sg t : List Int) (a : Nat) (w : World) (h : CurO w p o ty cs A n c A' m c' sg t a) :
  Calls Try.prog 90 #[.pointer (some ⟨p, o, none⟩)] w (PassO w p o ty cs A n c A' m c' sg t a) := by
 have hm := h.hm
 have HL := hid h.s'.1
 have hs := h.ars
 have H0 : HeadO w p o ty cs A n c A' m c' sg t a (.int .i64 1) w := ⟨a, 1, rfl, by omega, Scn.start (by rw [HL.out]; exact h.le), h, World.grownBy.refl _ _⟩
 have HH := hid H0
 clear H0 h
 go_enter Try.func90, Try.ntmps90
 go_wp2_with fail
 go_loopw [3, 4] (fun q _ wr => HeadO w p o ty cs A n c A' m c' sg t a q wr) (fun _ _ wr => m - atO p o wr)
 case atStart => exact HH.out
 case round =>
  obtain ⟨k, q, rfl, hq, hl, hc, hg⟩ := hrel
  clear HH
  have hk := hc.le
  by_cases h0 : q = 0
  ·subst h0
   have S : PassO w p o ty cs A n c A' m c' sg t a (.returned (.bool true)) wr := ⟨hg, .inl ⟨k - a, hl.done, rfl, by rw [show a + (k - a) = k by have := hl.1; omega]; exact hc⟩⟩
   have HS := hid S
   clear S hl hc hg
   go_wp2
   go_ret
   exact HS.out
  ·obtain ⟨q1, rfl⟩ : ∃ q1, q = q1 + 1 := ⟨q - 1, by omega⟩
   have hq0 : (0 : Int) < ((q1 + 1 : Nat) : Int) := by omega
   go_wp2_with fail
   refine (nextO p o ty cs A n c A' m c' sg t k wr hc).mono ?_
   rintro e w2 ⟨g2, ⟨hlt, rfl, hc2⟩ | ⟨hk', rfl, hc2⟩⟩
   ·obtain ⟨z, hz⟩ : ∃ z, ar sg (t.getD k 0) = z := ⟨_, rfl⟩
    have hzb := ar_bd hs (t.getD k 0)
    rw [hz] at hzb ⊢
    by_cases hneg : z < 0
    ·have S : PassO w p o ty cs A n c A' m c' sg t a (.returned (.bool false)) w2 := ⟨grown_trans hg g2, .inr ⟨hl.bad (by rw [HL.out]; exact hlt) rfl (by rw [hz]; exact hneg), rfl, _, hc2⟩⟩
     have HS := hid S
     clear S hl hc hg hc2 g2 hz
     go_wp2
     go_ret
     exact HS.out
    ·have hl' := hl.step (by rw [HL.out]; exact hlt) rfl (by rw [hz]; exact hneg)
     rw [hz] at hl'
     have S : HeadO w p o ty cs A n c A' m c' sg t a (.int .i64 ((q1 : Int) + z)) w2 := ⟨k + 1, q1 + z.toNat, by congr 1; omega, by omega, hl', hc2, grown_trans hg g2⟩
     have HS := hid S
     have M := hid (show m - atO p o w2 < m - atO p o wr by rw [atO_cur hc, atO_cur hc2]; omega)
     have hz1 := hzb.1
     have hz2 := hzb.2
     have hq2 : (q1 : Int) ≤ 3145728 := by omega
     clear S hl hc hg hc2 g2 hz hl' hzb
     go_wp2
     go_roundw
     case rel => rw [show (q1 : Int) + 1 + z - 1 = (q1 : Int) + z by omega]; exact HS.out
     case measure => exact M.out
   ·have S : PassO w p o ty cs A n c A' m c' sg t a (.returned (.bool false)) w2 := ⟨grown_trans hg g2, .inr ⟨hl.out (by rw [HL.out]; omega), rfl, _, hc2⟩⟩
    have HS := hid S
    clear S hl hc hg hc2 g2
    go_wp2
    go_ret
    exact HS.out
def PartO (w : World) (p o : Nat) (ty : TypeId) (cs : Array Value) (A : Option Addr) (n c : Nat) (b off m c' : Nat) (sg t : List Int) (k j : Nat) (e : Ending) (w' : World) : Prop :=
 e = .returned (.slice (some ⟨b, off + k, none⟩) j (c' - k)) ∧ w.grownBy w' (some p) ∧ CurO w' p o ty cs A n c (some ⟨b, off, none⟩) m c' sg t (k + j)
set_option maxHeartbeats 1000000 in
theorem partO (p o : Nat) (ty : TypeId) (cs : Array Value) (A : Option Addr) (n c b off m c' : Nat) (sg t : List Int) (k j : Nat) (w : World) (h : CurO w p o ty cs A n c (some ⟨b, off, none⟩) m c' sg t k) (hj : scan sg 1 (t.drop k) = some j) (hkj : k + j ≤ m) (h1 : 1 ≤ j) (hmc : m ≤ c') (hc : c' ≤ 9223372036854775807) :
  Calls Try.prog 94 #[.pointer (some ⟨p, o, none⟩)] w (PartO w p o ty cs A n c b off m c' sg t k j) := by
 have hm := h.hm
 have c2 := h.c2
 have L := hid (passO p o ty cs A n c (some ⟨b, off, none⟩) m c' sg t k w h)
 have HJ := hid hj
 have a1 : (k : Int) ≤ (k : Int) + (j : Int) := by omega
 have a2 : (k : Int) + (j : Int) ≤ (c' : Int) := by omega
 have a3 : ¬ c' = k := by omega
 have a4 : k + j ≤ c' := by omega
 have a5 : k + j - k = j := by omega
 clear hj h
 go_enter Try.func94, Try.ntmps94
 go_wp2_with fail
 refine L.out.mono ?_
 rintro e w1 ⟨hg, ⟨j', hj', rfl, hc1⟩ | ⟨hj', rfl, -⟩⟩
 ·obtain rfl : j = j' := by rw [HJ.out] at hj'; injection hj'
  have d1 := hc1.c1
  have d2 := hc1.c2
  have HF := hid (fun d => (show PartO w p o ty cs A n c b off m c' sg t k j (.returned (.slice (some ⟨b, off + k, none⟩) (k + j - k) (c' - k))) (w1.drewN d) from ⟨by rw [a5], grown_drewN hg d, hc1.drewN d⟩))
  clear hc1 hg hj' L
  go_wp2
  go_quiet (fail)
  go_wp2
  go_ret
  exact HF.out _
 ·rw [HJ.out] at hj'
  cases hj'
theorem ofCur {w : World} {p : Nat} {A : Option Addr} {n c : Nat} {A' : Option Addr} {m c' : Nat} {sg t : List Int} {k : Nat} (h : Cur w p A n c A' m c' sg t k) (u : Value) :
  CurO w p 0 120 #[.slice A n c, .slice A' m c', u] A n c A' m c' sg t k :=
 ⟨by have r := h.row; simpa using r, by simp, by simp, by simp, h.s, h.s', h.le, h.hn, h.hm, h.ars⟩
theorem toCur {w : World} {p : Nat} {A : Option Addr} {n c : Nat} {A' : Option Addr} {m c' : Nat} {sg t : List Int} {k : Nat} {u : Value} (h : CurO w p 0 120 #[.slice A n c, .slice A' m c', u] A n c A' m c' sg t k) :
  Cur w p A n c A' m c' sg t k :=
 ⟨by have r := h.row; simpa using r, h.s, h.s', h.le, h.hn, h.hm, h.ars⟩
theorem partC (p : Nat) (A : Option Addr) (n c b off m c' : Nat) (sg t : List Int) (k j : Nat) (w : World) (h : Cur w p A n c (some ⟨b, off, none⟩) m c' sg t k) (hj : scan sg 1 (t.drop k) = some j) (hkj : k + j ≤ m) (h1 : 1 ≤ j) (hmc : m ≤ c') (hc : c' ≤ 9223372036854775807) :
  Calls Try.prog 94 #[.pointer (some ⟨p, 0, none⟩)] w fun e w' => e = .returned (.slice (some ⟨b, off + k, none⟩) j (c' - k)) ∧ w.grownBy w' (some p) ∧ Cur w' p A n c (some ⟨b, off, none⟩) m c' sg t (k + j) :=
 (partO p 0 _ _ A n c b off m c' sg t k j w (ofCur h undef) hj hkj h1 hmc hc).mono fun _ _ ⟨e1, e2, e3⟩ => ⟨e1, e2, toCur e3⟩
end curO
end
section
open Go.Lib (hid)
namespace sub
open Go.RowKit base ints sig term arity endOf cursor termOk endAt marks app sym curO
def subL (sg t : List Int) (a : Nat) : List Int := (t.drop a).take (len1 sg t a)
def subI (sg t : List Int) (x : Int) : List Int := if thereB sg t x = true then subL sg t x.toNat else []
theorem sub_no {w w' : World} {sg t : List Int} {x : Int} {A : Option Addr} {c : Nat} (h : thereB sg t x = false) (ho : Own w' w.heap.size (.slice A 0 c) []) (hb : Below w.heap.size w w') : AnsList w (subI sg t x) (.returned (.slice A 0 c)) w' :=
 ⟨A, 0, c, rfl, by unfold subI; rw [if_neg (by rw [h]; simp)]; exact ho, hb⟩
set_option maxHeartbeats 1000000 in
theorem implSubAt (A A' : Option Addr) (n c m c' : Nat) (sg t : List Int) (x : Int) (w : World) (h : Seg w w.heap.size A n sg) (h' : Seg w w.heap.size A' m t) (hn : n ≤ 1048576) (hm : m ≤ 1048576) (_ : -9223372036854775808 ≤ x) (_ : x ≤ 9223372036854775807) (hc' : m ≤ c') (hc2 : c' ≤ 9223372036854775807) :
  Calls Try.prog 49 #[.agg #[.slice A n c], .slice A' m c', .int .i64 x] w (AnsList w (subI sg t x)) := by
 obtain ⟨W, hW⟩ : ∃ W, W = w.alloc (.cells #[.slice A n c] 27) := ⟨_, rfl⟩
 have bel : Below w.heap.size w W := by rw [hW]; exact (Below.refl _ _).alloc (Nat.le_refl _) _
 have zW : w.heap.size < W.heap.size := by rw [hW]; simp
 replace h := (h.below bel).more bel.size
 replace h' := (h'.below bel).more bel.size
 have HW := hid hW
 have HL := hid h'.1
 clear hW
 have L := hid (cursorAt A A' n c m c' sg t x W h h' hn hm)
 clear h
 go_enter Try.func49, Try.ntmps49
 go_wp2_with fail
 rw [← HW.out]
 refine L.out.mono ?_
 rintro e w1 ⟨bb, ⟨ht, p, rfl, hp, hc⟩ | ⟨ht, rfl⟩⟩
 ·replace h' := h'.next bb
  replace bel := next_trans bel bb
  have HT := hid ht
  clear ht bb
  obtain ⟨hok, h0, h1⟩ := there_parts HT.out
  have ht := (termOk_parts hok).2.2
  obtain ⟨a, rfl⟩ := Int.eq_ofNat_of_zero_le h0
  rw [Int.toNat_natCast] at hc
  have ham : a < m := by rw [HL.out] at h1; omega
  obtain ⟨j, hj, hj1, hj2⟩ := scan_at ht (a := a) (by rw [HL.out]; exact ham)
  rw [HL.out] at hj2
  obtain ⟨b, off, y, rfl, -, -, -⟩ := h'.spot ham
  have hcut := Seg.cut (a := a) (j := j) h' hj2
  have HJ := hid hj
  have HLen := hid (len1_eq hj)
  clear hj ht hok h1
  have i0 : (0 : Int) ≤ (a : Int) := by omega
  have i1 : (a : Int) ≤ (a : Int) + (j : Int) := by omega
  have i2 : (a : Int) + (j : Int) ≤ (c' : Int) := by omega
  have i3 : ¬ c' = a := by omega
  have i4 : a + j ≤ c' := by omega
  go_wp2_with fail
  refine (partC p A n c b off m c' sg t a j _ hc HJ.out hj2 hj1 hc' hc2).mono ?_
  rintro e w2 ⟨rfl, hg, hc2'⟩
  have b2 : Below w.heap.size w w2 := bel.grown hg bel.size (fun k hk => by injection hk; omega)
  have hcut2 : Seg w2 w2.heap.size (some ⟨b, off + a, none⟩) j ((t.drop a).take j) := (Seg.cut (a := a) (j := j) hc2'.s' hj2).more (Nat.le_of_lt hc2'.row.lt)
  clear hc2' hg hcut hc h' bel L
  go_wp2_with fail
  refine (cloneInts b (off + a) j _ _ w2 hcut2 (by omega)).mono ?_
  rintro e w3 ⟨A2, n2, c2, rfl, o2, bb⟩
  have F : AnsList w (subI sg t (a : Int)) (.returned (.slice A2 n2 c2)) w3 := ⟨A2, n2, c2, rfl, by unfold subI; rw [if_pos HT.out, Int.toNat_natCast]; unfold subL; rw [HLen.out]; exact Own.lower o2 b2.size, next_trans b2 bb⟩
  have HF := hid F
  clear F o2 bb b2 hcut2
  go_wp2
  go_ret
  exact HF.out
 ·have F := hid (sub_no ht (Own.nil w1 w.heap.size) (next_trans bel bb))
  clear bb bel ht h' L
  go_wp2
  go_ret
  exact F.out
end sub
end
section
namespace drawTwo
open Go.RowKit base ints sig term cursor termOk marks app sym sub dice drawSig drawTerm drawAny
end drawTwo
end
section
namespace drawPair
open Go.RowKit base ints sig term cursor termOk marks app sym dice drawSig drawTerm drawAny drawTwo
set_option maxRecDepth 100000
theorem Rd.other {w : World} {p B N : Nat} {O : Option Addr} {on : Nat} {xs : List Int} {a : Option Addr} {l k : Nat} (h : Rd w p B O on xs) (hN : w.cell? ⟨N, 0, none⟩ = some (.slice a l k)) (u : Value) : Rd (w.setCell ⟨N, 0, none⟩ u) p B O on xs :=
 ⟨h.1, fun hn => by
  obtain ⟨b, off, e, hb, hne, hc⟩ := h.2 hn
  refine ⟨b, off, e, hb, hne, fun j hj => ?_⟩
  rw [World.cell?_setCell_other w _ _ _ (fun e => by rw [e] at hN; rw [hc j hj] at hN; cases hN)]
  exact hc j hj⟩
def AnsPair (w : World) (e : Ending) (w' : World) : Prop :=
 ∃ S sn sc sg O on oc xs, e = .returned (.tuple #[.agg #[.slice S sn sc], .slice O on oc]) ∧ Seg w' w'.heap.size S sn sg ∧ Seg w' w'.heap.size O on xs ∧ sn ≤ 9 ∧ on ≤ 65 ∧ on ≤ oc ∧ oc ≤ 9223372036854775807 ∧ Below w.heap.size w w'
theorem pair_of {w u : World} {p : Nat} {S : Option Addr} {sn sc : Nat} {sg : List Int} {O : Option Addr} {on oc : Nat} {xs : List Int} {B : Nat} {a : Option Addr} {l k : Nat} (hs : Rd u p B S sn sg) (hB : B ≤ u.heap.size) (ho : Rd u p u.heap.size O on xs)
  (h1 : sn ≤ 9) (h2 : on ≤ 65) (h3 : on ≤ oc) (h4 : oc ≤ 9223372036854775807) (hb : Below w.heap.size w u) (hN : u.cell? ⟨w.heap.size, 0, none⟩ = some (.slice a l k)) :
  AnsPair w (.returned (.tuple #[.agg #[.slice S sn sc], .slice O on oc])) (u.setCell ⟨w.heap.size, 0, none⟩ (.slice S sn sc)) :=
 ⟨S, sn, sc, sg, O, on, oc, xs, rfl, (Rd.other (Rd.more hs hB) hN _).seg.more (by simp), (Rd.other ho hN _).seg.more (by simp), h1, h2, h3, h4, hb.setCell (Nat.le_refl _) _⟩
theorem Dice.unN {w : World} {p : Nat} {A : Option Addr} {n c : Nat} (d : Dice w.drew p A n c) : Dice w p A n c := by
 obtain ⟨i, h, d⟩ := d
 exact ⟨i, h, d.row, d.le, d.s, d.hn⟩
end drawPair
end
section
open Go.Lib (hid)
namespace drawPair
open Go.RowKit base ints sig term cursor termOk marks app sym sub dice drawSig drawTerm drawAny drawTwo
set_option maxHeartbeats 4000000 in
theorem drawTermOk (A : Option Addr) (n c : Nat) (w : World) (h : SegB w w.heap.size A n) (hn : n ≤ 4096) :
  Calls Try.prog 41 #[.slice A n c] w (AnsPair w) := by
 obtain ⟨W0, hW0⟩ : ∃ W0, W0 = w.alloc (.cells #[.slice none 0 0] 27) := ⟨_, rfl⟩
 have rN : Row W0 w.heap.size 27 #[.slice none 0 0] := by rw [hW0]; exact Row.new _ _ _
 have b0 : Below w.heap.size w W0 := by rw [hW0]; exact (Below.refl _ _).alloc (Nat.le_refl _) _
 have h0 : SegB W0 W0.heap.size A n := fun hp => by
  obtain ⟨b, off, e, hb, hc⟩ := h hp
  refine ⟨b, off, e, Nat.lt_of_lt_of_le hb b0.size, fun j hj => ?_⟩
  obtain ⟨x, x0, x1, hx⟩ := hc j hj
  exact ⟨x, x0, x1, (b0.cell (p := ⟨b, off + j, none⟩) hb).trans hx⟩
 have L := hid (new_ A n c W0 h0 hn)
 have HW0 := hid hW0
 clear h h0 hW0
 go_enter Try.func41, Try.ntmps41
 go_wp2_with fail
 rw [← HW0.out]
 refine L.out.mono ?_
 rintro e w1 ⟨p, rfl, hp, d1, bb⟩
 have hNp : w.heap.size < p := Nat.lt_of_lt_of_le rN.lt hp
 replace rN := rN.next bb
 have bel := next_trans b0 bb
 have L2 := hid (drawSigAny p A n c w1 d1)
 have hp1 := d1.lt
 clear d1 bb b0 L
 go_wp2_with fail
 refine L2.out.mono ?_
 rintro e w2 ⟨S, sn, sc, sg, rfl, o2, hshort, d2, g2⟩
 have hsn : sn ≤ 9 := by rw [Own.len o2]; exact hshort
 replace rN := Row.away rN g2 (fun e => by injection e; omega)
 have bel2 : Below w.heap.size w w2 := bel.grown g2 bel.size (fun k hk => by injection hk; omega)
 have T0 := DT.start (sc := sc) d2 (Rd.of_own o2 hp1)
 obtain ⟨W, hW⟩ : ∃ W, W = w2.alloc (.cells #[.slice S sn sc] 27) := ⟨_, rfl⟩
 replace rN : Row W w.heap.size 27 #[.slice none 0 0] := by rw [hW]; exact rN.alloc _
 have bel3 : Below w.heap.size w W := by rw [hW]; exact bel2.alloc bel2.size _
 rw [← hW] at T0
 have HW := hid hW
 have cV : W.cell? ⟨w2.heap.size, 0, none⟩ = some (.slice S sn sc) := T0.r.cell 0
 have cN : W.cell? ⟨w.heap.size, 0, none⟩ = some (.slice none 0 0) := rN.cell 0
 have fN : W.frozen? ⟨w.heap.size, 0, none⟩ = false := rN.free 0
 have zNv : w.heap.size < w2.heap.size := by have := T0.hp; omega
 have zne1 : ¬ w2.heap.size = w.heap.size := by omega
 have zne2 : ¬ w.heap.size = w2.heap.size := by omega
 have T1 := T0.drew
 have rN1 := rN.drew
 have bel4 := bel3.drew
 clear bel bel2 o2 hshort d2 g2 T0 hW L2 bel3 rN
 go_wp2_with fail
 rw [← HW.out]
 replace T1 : DT w2 p A n c S sn sc sg W := ⟨Dice.unN T1.d, T1.r, T1.s, ⟨T1.g.os, T1.g.tape, T1.g.output, T1.g.size, T1.g.block⟩, T1.hp⟩
 replace rN1 : Row W w.heap.size 27 #[.slice none 0 0] := rN1
 replace bel4 : Below w.heap.size w W := ⟨bel4.os, bel4.tape, bel4.output, bel4.size, bel4.block⟩
 refine (drawAny p A n c S sn sc sg W T1.d (T1.s.more T1.g.size) (by omega)).mono ?_
 rintro e w3 ⟨O, on, oc, xs, rfl, ra, h1, h2, h3, h4, d3, g3⟩
 have T2 := T1.dice d3 g3
 replace rN1 := Row.away rN1 g3 (fun e => by injection e; omega)
 replace bel4 := bel4.grown g3 bel4.size (fun k hk => by injection hk; omega)
 clear T1 d3 g3 cV cN fN
 have L3 := hid (once p A n c 30 w3 T2.d (by omega) (by omega))
 go_wp2_with fail
 refine L3.out.mono ?_
 rintro e w4 ⟨b, rfl, d4, g4⟩
 have T3 := T2.dice d4 g4
 replace ra := (ra.grown g4 (Nat.le_refl _)).more g4.size
 replace rN1 := Row.away rN1 g4 (fun e => by injection e; omega)
 replace bel4 := bel4.grown g4 bel4.size (fun k hk => by injection hk; omega)
 clear T2 d4 g4 L3
 cases b with
 | false =>
  have cV4 : w4.cell? ⟨w2.heap.size, 0, none⟩ = some (.slice S sn sc) := T3.r.cell 0
  have cN4 : w4.cell? ⟨w.heap.size, 0, none⟩ = some (.slice none 0 0) := rN1.cell 0
  have fN4 : w4.frozen? ⟨w.heap.size, 0, none⟩ = false := rN1.free 0
  have F := hid (pair_of (sc := sc) (p := p) T3.s T3.g.size ra hsn h4 h1 h2 bel4 cN4)
  clear T3 ra rN1 bel4
  go_wp2
  exact bodyPost_ret (v := .tuple #[.agg #[.slice S sn sc], .slice O on oc]) (by simp [results, Try.results41, go_sem, cN4]) rfl F.out
 | true =>
  have L4 := hid (below p A n c 2 w4 T3.d (by omega) (by omega))
  go_wp2_with fail
  refine L4.out.mono ?_
  rintro e w5 ⟨y, rfl, y0, y1, d5, g5⟩
  have T4 := T3.dice d5 g5
  replace rN1 := Row.away rN1 g5 (fun e => by injection e; omega)
  replace bel4 := bel4.grown g5 bel4.size (fun k hk => by injection hk; omega)
  obtain ⟨k, rfl⟩ := Int.eq_ofNat_of_zero_le y0
  have hmk : ∀ W : World, (Instr.makeSlice 22 (.int .i64 (60 + (k : Int))) (.int .i64 (60 + (k : Int)))).run Try.prog W = .ok (.slice (some ⟨W.heap.size, 0, none⟩) (60 + k) (60 + k)) (W.alloc (.cells (madeCells #[.int .i64 0] (60 + k)) 2)) := fun W => by
   have := run_make_i64 (60 + k) (by omega) W
   rwa [show ((60 + k : Nat) : Int) = 60 + (k : Int) by simp] at this
  have hcells : ∀ j, j < 60 + k → (madeCells #[Value.int .i64 0] (60 + k))[j]? = some (.int .i64 ((List.replicate (60 + k) (0 : Int)).getD j 0)) := fun j hj => by
   simp [madeCells, List.getD, hj, Nat.mod_one]
  obtain ⟨W6, hW6⟩ : ∃ W6, W6 = w5.alloc (.cells (madeCells #[.int .i64 0] (60 + k)) 2) := ⟨_, rfl⟩
  have b6 : Below w5.heap.size w5 W6 := by rw [hW6]; exact (Below.refl _ _).alloc (Nat.le_refl _) _
  have T5 : DT w2 p A n c S sn sc sg W6 := T4.below (b6.mono (by have := T4.r.lt; omega))
  have o6 : Own W6 w5.heap.size (.slice (some ⟨w5.heap.size, 0, none⟩) (60 + k) (60 + k)) (List.replicate (60 + k) 0) := by
   rw [hW6]
   exact Own.of_row (Row.new _ _ _) (by simp) (size_madeCells _ _) (Nat.le_refl _) (by omega) (Nat.le_refl _) hcells
  have rN6 := rN1.next b6
  have bel6 := next_trans bel4 b6
  have cV6 : W6.cell? ⟨w2.heap.size, 0, none⟩ = some (.slice S sn sc) := T5.r.cell 0
  have cN6 : W6.cell? ⟨w.heap.size, 0, none⟩ = some (.slice none 0 0) := rN6.cell 0
  have fN6 : W6.frozen? ⟨w.heap.size, 0, none⟩ = false := rN6.free 0
  have F := hid (pair_of (sc := sc) (p := p) T5.s T5.g.size (Rd.of_own o6 T4.d.lt) hsn (by omega) (Nat.le_refl _) (by omega) bel6 cN6)
  have HW6 := hid hW6
  have cV5 : w5.cell? ⟨w2.heap.size, 0, none⟩ = some (.slice S sn sc) := T4.r.cell 0
  have cN5 : w5.cell? ⟨w.heap.size, 0, none⟩ = some (.slice none 0 0) := rN1.cell 0
  have fN5 : w5.frozen? ⟨w.heap.size, 0, none⟩ = false := rN1.free 0
  have z5 : w.heap.size < w5.heap.size := rN1.lt
  have z52 : w2.heap.size < w5.heap.size := T4.r.lt
  clear hW6 T5 T4 T3 o6 rN6 rN1 bel6 bel4 b6 ra hcells d5 g5 L4
  have F2 := F.out
  rw [HW6.out, World.setCell_alloc_past (hn := z5)] at F2
  have HF2 := hid F2
  clear F2 cV6 cN6 fN6
  go_wp2
  exact bodyPost_ret (v := .tuple #[.agg #[.slice S sn sc], .slice (some ⟨w5.heap.size, 0, none⟩) (60 + k) (60 + k)]) (by simp [results, Try.results41, go_sem, cN5, z5]) rfl HF2.out
end drawPair
end
section
namespace less
open Go.RowKit base ints
end less
end
section
namespace count
open Go.RowKit base ints sig term termOk
end count
end
section
namespace count
open Go.RowKit base ints sig term termOk
end count
end
section
namespace lessMath
open less count term termOk endAt sig
end lessMath
end
section
open Go.Lib (hid)
namespace same
open Go.RowKit base ints
set_option maxHeartbeats 400000 in
theorem specSame (A A' : Option Addr) (n m c c' : Nat) (xs ys : List Int) (w : World) (h : Seg w w.heap.size A n xs) (h' : Seg w w.heap.size A' m ys) (hn : n ≤ 1048576) (hm : m ≤ 1048576) :
  Calls Try.prog 70 #[.slice A n c, .slice A' m c'] w (AnsSame w xs ys) := by
 by_cases hnm : n = m
 ·subst hnm
  go_enter Try.func70, Try.ntmps70
  go_wp2
  go_loopw [5] (fun i wr => HeadSame w n xs ys i wr) (fun i _ => n - (intOf i).toNat)
  case atStart => exact ⟨0, 0, Nat.zero_le _, rfl, rfl, fun j h => absurd h (Nat.not_lt_zero _)⟩
  case round =>
   obtain ⟨k, d, hk, rfl, rfl, hc⟩ := hrel
   by_cases hlt : k < n
   ·obtain ⟨b, off, x, rfl, -, hx, ex⟩ := h.spot hlt
    obtain ⟨b', off', y, rfl, -, hx', ey⟩ := h'.spot hlt
    by_cases he : x = y
    ·subst he
     have S := hid (alike_step (w := w) hlt hc ex ey)
     clear hc h h' ex ey
     go_wp2
     go_quiet (fail)
     go_wp2
     go_roundw
     case rel => exact S.out _
     case measure => simp [intOf]; omega
    ·have S := hid (same_not (w := w) ex ey he)
     have hne : (x != y) = true := by simp [he]
     clear hc h h' ex ey he
     go_wp2
     go_quiet (fail)
     go_wp2
     go_ret
     rw [World.drewN_drewN]
     exact S.out _
   ·have S := hid (same_yes (w := w) h.1 h'.1 hlt hc)
    clear hc h h'
    go_wp2
    go_ret
    exact S.out _
 ·have S := hid (same_len (w := w) h.1 h'.1 hnm)
  have hne : ((n : Int) != (m : Int)) = true := by simp; omega
  clear h h'
  go_enter Try.func70, Try.ntmps70
  go_wp2
  go_ret
  exact S.out
set_option maxHeartbeats 400000 in
theorem libEqual (A A' : Option Addr) (n m c c' : Nat) (xs ys : List Int) (w : World) (h : Seg w w.heap.size A n xs) (h' : Seg w w.heap.size A' m ys) (hn : n ≤ 1048576) (hm : m ≤ 1048576) :
  Calls Try.prog 95 #[.slice A n c, .slice A' m c'] w (AnsSame w xs ys) := by
 by_cases hnm : n = m
 ·subst hnm
  go_enter Try.func95, Try.ntmps95
  go_wp2
  go_loopw [13] (fun i wr => HeadSame w n xs ys i wr) (fun i _ => n - (intOf i).toNat)
  case atStart => exact ⟨0, 0, Nat.zero_le _, rfl, rfl, fun j h => absurd h (Nat.not_lt_zero _)⟩
  case round =>
   obtain ⟨k, d, hk, rfl, rfl, hc⟩ := hrel
   by_cases hlt : k < n
   ·obtain ⟨b, off, x, rfl, -, hx, ex⟩ := h.spot hlt
    obtain ⟨b', off', y, rfl, -, hx', ey⟩ := h'.spot hlt
    by_cases he : x = y
    ·subst he
     have S := hid (alike_step (w := w) hlt hc ex ey)
     clear hc h h' ex ey
     go_wp2
     go_quiet (fail)
     go_wp2
     go_roundw
     case rel => exact S.out _
     case measure => simp [intOf]; omega
    ·have S := hid (same_not (w := w) ex ey he)
     have hne : (x != y) = true := by simp [he]
     clear hc h h' ex ey he
     go_wp2
     go_quiet (fail)
     go_wp2
     go_ret
     rw [World.drewN_drewN]
     exact S.out _
   ·have S := hid (same_yes (w := w) h.1 h'.1 hlt hc)
    clear hc h h'
    go_wp2
    go_ret
    exact S.out _
 ·have S := hid (same_len (w := w) h.1 h'.1 hnm)
  have hne : ((n : Int) != (m : Int)) = true := by simp; omega
  clear h h'
  go_enter Try.func95, Try.ntmps95
  go_wp2
  go_ret
  exact S.out
theorem implSame (A A' : Option Addr) (n m c c' : Nat) (xs ys : List Int) (w : World) (h : Seg w w.heap.size A n xs) (h' : Seg w w.heap.size A' m ys) (hn : n ≤ 1048576) (hm : m ≤ 1048576) :
  Calls Try.prog 50 #[.slice A n c, .slice A' m c'] w (AnsSame w xs ys) := by
 have L := hid (libEqual A A' n m c c' xs ys w h h' hn hm)
 clear h h'
 go_enter Try.func50, Try.ntmps50
 go_wp2_with fail
 refine L.out.mono ?_
 rintro e w' ⟨rfl, d, rfl⟩
 go_wp2
 go_ret
 exact ⟨rfl, d, rfl⟩
end same
end
section
namespace wFnLess
open Go.RowKit base ints sig same less count term termOk dice drawTwo drawPair lessMath
theorem bigAns (A : Option Addr) (n c : Nat) (b : Bool) (w : World) (hb : decide (4096 < n) = b) (hn : n ≤ 9223372036854775807) : Calls Try.prog 40 #[.slice A n c] w fun e w' => w = w' ∧ e = .returned (.bool b) := by
 cases b with
 | true =>
  have h : (4096 : Int) < (n : Int) := by have := of_decide_eq_true hb; omega
  clear hb
  go_enter Try.func40, Try.ntmps40
  go_wp2
  go_ret
  exact ⟨rfl, rfl⟩
 | false =>
  have h : ¬ (4096 : Int) < (n : Int) := by have := of_decide_eq_false hb; omega
  have h2 : decide (4096 < n) = false := hb
  clear hb
  go_enter Try.func40, Try.ntmps40
  go_wp2
  go_ret
  exact ⟨rfl, rfl⟩
structure St (w : World) (v : Nat) (O1 : Option Addr) (n1 : Nat) (xs : List Int) (O2 : Option Addr) (n2 : Nat) (ys : List Int) (S : Option Addr) (sn sc : Nat) (sg : List Int) (O3 : Option Addr) (n3 : Nat) (zs : List Int) (wr : World) : Prop where
 a : Seg wr wr.heap.size O1 n1 xs
 b : Seg wr wr.heap.size O2 n2 ys
 s : Seg wr wr.heap.size S sn sg
 c : Seg wr wr.heap.size O3 n3 zs
 r : Row wr v 27 #[.slice S sn sc]
 bel : Below w.heap.size w wr
section
variable {w : World} {v : Nat} {O1 : Option Addr} {n1 : Nat} {xs : List Int} {O2 : Option Addr} {n2 : Nat} {ys : List Int} {S : Option Addr} {sn sc : Nat} {sg : List Int} {O3 : Option Addr} {n3 : Nat} {zs : List Int} {wr w' : World}
theorem St.next (t : St w v O1 n1 xs O2 n2 ys S sn sc sg O3 n3 zs wr) (hb : Below wr.heap.size wr w') : St w v O1 n1 xs O2 n2 ys S sn sc sg O3 n3 zs w' :=
 ⟨t.a.next hb, t.b.next hb, t.s.next hb, t.c.next hb, t.r.next hb, next_trans t.bel hb⟩
end
end wFnLess
end
section
open Go.Lib (hid)
namespace args
open Go.RowKit base ints sig term arity endOf cursor termOk endAt marks app sym
def argsL (sg t : List Int) (a : Nat) : List Int := places sg t (ar sg (t.getD a 0)).toNat (a + 1)
def argsI (sg t : List Int) (x : Int) : List Int := if thereB sg t x = true then argsL sg t x.toNat else []
def Coll (sg t : List Int) (m : Nat) (L ys : List Int) (q p : Nat) : Prop := ys ++ places sg t q p = L ∧ ∃ i, scan sg q (t.drop p) = some i ∧ p + i ≤ m
theorem Coll.first {sg t : List Int} {m : Nat} {L ys : List Int} {q p : Nat} (h : Coll sg t m L ys (q + 1) p) : ∃ j, scan sg 1 (t.drop p) = some j ∧ p + j ≤ m ∧ p < t.length ∧ Coll sg t m L (ys ++ [(p : Int)]) q (p + j) := by
 obtain ⟨h1, i, h2, h3⟩ := h
 obtain ⟨j, e1, e2, e3, e4⟩ := scan_first h2
 have e5 := scan_le h2
 refine ⟨j, e1, by omega, ?_, ?_, i - j, e4, by omega⟩
 ·simp only [List.length_drop] at e5; omega
 ·rw [← h1, List.append_assoc]
  congr 1
  simp only [places, len1_eq e1, List.singleton_append]
theorem Coll.done {sg t : List Int} {m : Nat} {L ys : List Int} {p : Nat} (h : Coll sg t m L ys 0 p) : ys = L := by
 have := h.1
 simpa [places] using this
theorem Coll.len {sg t : List Int} {m : Nat} {L ys : List Int} {q p : Nat} (h : Coll sg t m L ys q p) : ys.length ≤ L.length := by
 rw [← h.1]; simp
theorem Coll.start {sg t : List Int} {m a j : Nat} (hm : t.length = m) (h : scan sg 1 (t.drop a) = some j) (hj : a + j ≤ m) : ¬ ar sg (t.getD a 0) < 0 ∧ Coll sg t m (argsL sg t a) [] (ar sg (t.getD a 0)).toNat (a + 1) := by
 obtain ⟨i, rfl, _, h2, h3⟩ := scan_args h
 exact ⟨h2, rfl, i, h3, by omega⟩
theorem argsL_len {sg t : List Int} (hs : Arities sg) (a : Nat) : (argsL sg t a).length ≤ 3 := by
 unfold argsL
 rw [places_len]
 have := ar_bd hs (t.getD a 0)
 omega
def HeadArgs (w : World) (A : Option Addr) (n c m : Nat) (sg t : List Int) (L : List Int) (out p k : Value) (wr : World) : Prop :=
 ∃ (q pp : Nat) (O : Option Addr) (on oc : Nat) (ys : List Int), k = .int .i64 q ∧ p = .int .i64 pp ∧ out = .slice O on oc ∧ Own wr (w.heap.size + 1) (.slice O on oc) ys ∧ Coll sg t m L ys q pp ∧ q ≤ 3 ∧ Row wr w.heap.size 27 #[.slice A n c] ∧ Below w.heap.size w wr
set_option maxHeartbeats 1000000 in
theorem l1Args (A A' : Option Addr) (n c m c' : Nat) (sg t : List Int) (a j : Nat) (w : World) (h : Seg w w.heap.size A n sg) (h' : Seg w w.heap.size A' m t) (hn : n ≤ 1048576) (hm : m ≤ 1048576)
  (hs : Arities sg) (ha : a < m) (hj : scan sg 1 (t.drop a) = some j) (hj2 : a + j ≤ m) :
  Calls Try.prog 54 #[.agg #[.slice A n c], .slice A' m c', .int .i64 (a : Int)] w (AnsList w (argsL sg t a)) := by
 have HL := hid h'.1
 obtain ⟨hneg, hcoll⟩ := Coll.start HL.out hj hj2
 have h3 := argsL_len (t := t) hs a
 obtain ⟨b, off, x, rfl, hbb, hx, ex⟩ := h'.spot ha
 rw [ex.out] at hneg hcoll
 have hzb := ar_bd hs x
 obtain ⟨z, hz⟩ : ∃ z, ar sg x = z := ⟨_, rfl⟩
 rw [hz] at hneg hcoll hzb
 obtain ⟨T, rfl⟩ := Int.eq_ofNat_of_zero_le (show 0 ≤ z by omega)
 rw [Int.toNat_natCast] at hcoll
 have HZ := hid hz
 obtain ⟨L, hL⟩ : ∃ L, argsL sg t a = L := ⟨_, rfl⟩
 rw [hL] at hcoll h3 ⊢
 obtain ⟨W, hW⟩ : ∃ W, W = (w.alloc (.cells #[.slice A n c] 27)).alloc (.cells #[] 2) := ⟨_, rfl⟩
 have rA : Row W w.heap.size 27 #[.slice A n c] := by rw [hW]; exact (Row.new _ _ _).alloc _
 have bel : Below w.heap.size w W := by rw [hW]; exact ((Below.refl _ _).alloc (Nat.le_refl _) _).alloc (by simp) _
 have ow : Own W (w.heap.size + 1) (.slice (some ⟨w.heap.size + 1, 0, none⟩) 0 0) [] := by
  rw [hW]
  have := own_empty (w.alloc (.cells #[.slice A n c] 27)) (w.heap.size + 1) (by simp)
  simpa using this
 have s : Seg W.drew W.heap.size A n sg := ((h.below bel).more bel.size).drew
 have hx1 : W.cell? ⟨b, off + a, none⟩ = some (.int .i64 x) := (bel.cell (p := ⟨b, off + a, none⟩) hbb).trans hx
 have cA : W.cell? ⟨w.heap.size, 0, none⟩ = some (.slice A n c) := rA.cell 0
 have i0 : (0 : Int) ≤ (a : Int) := by omega
 have i1 : (a : Int) < (m : Int) := by omega
 have HW := hid hW
 have HS0 := hid hs
 clear hW hx hL hz hj ex hs
 go_enter Try.func54, Try.ntmps54
 go_wp2_with fail
 rw [← HW.out]
 replace rA := rA.drew
 replace bel := bel.drew
 replace ow := Own.drew ow
 go_region_held3 (fun w' => w'.cell? ⟨w.heap.size, 0, none⟩ = some (.slice A n c) ∧ w'.cell? ⟨b, off + a, none⟩ = some (.int .i64 x))
  (go_keep)
  (first
   | (go_at_call 96; refine (specArity _ _ _ sg x _ s hn).mono ?_; rintro e w2 ⟨he, bb⟩; rw [HZ.out] at he; subst he; replace cA : w2.cell? ⟨w.heap.size, 0, none⟩ = some (.slice A n c) := (rA.next bb).cell 0; have cx' : w2.cell? ⟨b, off + a, none⟩ = some (.int .i64 x) := (bb.cell (p := ⟨b, off + a, none⟩) (Nat.lt_trans hbb rA.lt)).trans hx1))
 have S0 : HeadArgs w A n c m sg t L (.slice (some ⟨w.heap.size + 1, 0, none⟩) 0 0) (.int .i64 ((a + 1 : Nat) : Int)) (.int .i64 (T : Int)) w2 :=
  ⟨T, a + 1, _, _, _, [], rfl, rfl, rfl, Own.next ow bb, hcoll, by omega, rA.next bb, bel.trans (bb.mono (Nat.le_of_lt rA.lt))⟩
 have HS := hid S0
 clear S0 bb rA bel ow s hx1 cA cx' hcoll
 go_wp2_with fail
 go_loopw [7, 8, 9] (fun out p k wr => HeadArgs w A n c m sg t L out p k wr) (fun _ _ k _ => (intOf k).toNat)
 case atStart => simpa using HS.out
 case round =>
  obtain ⟨q, pp, O, on, oc, ys, rfl, rfl, rfl, ho, hc, hq, hr, hb⟩ := hrel
  clear HS
  have hon : on ≤ 3 := by have := Own.len ho; have := hc.len; omega
  cases q with
  | zero =>
   have F : AnsList w L (.returned (.slice O on oc)) wr := ⟨O, on, oc, rfl, by rw [← hc.done]; exact Own.lower ho (Nat.le_succ _), hb⟩
   have HF := hid F
   clear F ho hc hr hb h h'
   go_wp2
   go_ret
   exact HF.out
  | succ q =>
   obtain ⟨jj, hj, hj2', hlt, hc'⟩ := hc.first
   have HE := hid (endI_some hj)
   have hsz := hr.lt
   have e0 : (0 : Int) < ((q + 1 : Nat) : Int) := by omega
   have hpp : pp ≤ 1048576 := by omega
   clear hc hj
   go_wp2_with (at_builtin; refine app1 rfl _ _ rfl (w.heap.size + 1) O on oc ys rfl (Own.alloc ho _) wr.heap.size 1 (pp : Int) rfl ((Row.new _ _ _).cell 0) (by omega) (by simp; omega) ?_; intro O' oc' w2 ho2 b2; have r2 : Row w2 w.heap.size 27 #[.slice A n c] := (hr.alloc _).below b2 (Nat.lt_succ_self _); have bel2 : Below w.heap.size w w2 := (hb.alloc (Nat.le_of_lt hsz) _).trans (b2.mono (Nat.le_succ _)); have cA2 : w2.cell? ⟨w.heap.size, 0, none⟩ = some (.slice A n c) := r2.cell 0)
   have s2 : Seg w2 w2.heap.size A n sg := (h.below bel2).more bel2.size
   have s2' : Seg w2 w2.heap.size (some ⟨b, off, none⟩) m t := (h'.below bel2).more bel2.size
   clear ho b2 hr hb
   refine (specEnd A _ n c m c' sg t (pp : Int) _ s2 s2' hn hm HS0.out (by omega) (by omega)).mono ?_
   rintro e w3 ⟨he, bb⟩
   rw [Int.toNat_natCast, HE.out] at he
   subst he
   have S : HeadArgs w A n c m sg t L (.slice O' (on + 1) oc') (.int .i64 ((pp : Int) + jj)) (.int .i64 (q : Int)) w3 :=
    ⟨q, pp + jj, O', on + 1, oc', _, rfl, by simp, rfl, Own.next ho2 bb, hc', by omega, r2.next bb, next_trans bel2 bb⟩
   have HSS := hid S
   clear S bb ho2 r2 bel2 cA2 s2 s2' hc'
   go_wp2
   go_roundw
   case rel => first | exact HSS.out | simpa using HSS.out
   case measure => simp [intOf]
theorem args_no {w w' : World} {sg t : List Int} {x : Int} {A : Option Addr} {c : Nat} (h : thereB sg t x = false) (ho : Own w' w.heap.size (.slice A 0 c) []) (hb : Below w.heap.size w w') : AnsList w (argsI sg t x) (.returned (.slice A 0 c)) w' :=
 ⟨A, 0, c, rfl, by unfold argsI; rw [if_neg (by rw [h]; simp)]; exact ho, hb⟩
theorem Cur.keep {w w' : World} {p : Nat} {A : Option Addr} {n c : Nat} {A' : Option Addr} {m c' : Nat} {sg t : List Int} {k : Nat} (h : Cur w p A n c A' m c' sg t k) (hb : Below (p + 1) w w') : Cur w' p A n c A' m c' sg t k :=
 ⟨h.row.below hb (Nat.lt_succ_self _), h.s.below (hb.mono (Nat.le_succ _)), h.s'.below (hb.mono (Nat.le_succ _)), h.le, h.hn, h.hm, h.ars⟩
theorem Cur.alloc {w : World} {p : Nat} {A : Option Addr} {n c : Nat} {A' : Option Addr} {m c' : Nat} {sg t : List Int} {k : Nat} (h : Cur w p A n c A' m c' sg t k) (o : Obj) : Cur (w.alloc o) p A n c A' m c' sg t k :=
 h.below ((Below.refl _ _).alloc (Nat.le_refl _) _)
theorem args_over {w a b : World} {B : Nat} {r : Option Nat} (g : w.grownBy a r) (hb : Below B a b) (hB : w.heap.size ≤ B) : w.grownBy b r :=
 ⟨hb.os.trans g.os, hb.tape.trans g.tape, hb.output.trans g.output, Nat.le_trans g.size hb.size, fun k hk hne => (hb.block k (by omega)).trans (g.block k hk hne)⟩
def HeadImpl (w : World) (p : Nat) (A : Option Addr) (n c : Nat) (A' : Option Addr) (m c' : Nat) (sg t : List Int) (T : Nat) (L : List Int) (out i : Value) (wr : World) : Prop :=
 ∃ (k q pp : Nat) (O : Option Addr) (on oc : Nat) (ys : List Int), i = .int .i64 k ∧ k + q = T ∧ out = .slice O on oc ∧ Own wr w.heap.size (.slice O on oc) ys ∧ Coll sg t m L ys q pp ∧ Cur wr p A n c A' m c' sg t pp ∧ w.grownBy wr (some p)
def AnsArgs (w : World) (p : Nat) (L : List Int) (e : Ending) (w' : World) : Prop := ∃ (O : Option Addr) (on oc : Nat), e = .returned (.slice O on oc) ∧ Own w' w.heap.size (.slice O on oc) L ∧ w.grownBy w' (some p)
set_option maxHeartbeats 2000000 in
theorem cursorArgs (p : Nat) (A A' : Option Addr) (n c m c' : Nat) (sg t : List Int) (a j : Nat) (w : World) (hc : Cur w p A n c A' m c' sg t a) (hl : t.length = m) (ham : a < m) (hj : scan sg 1 (t.drop a) = some j) (hj2 : a + j ≤ m) :
  Calls Try.prog 56 #[.pointer (some ⟨p, 0, none⟩)] w (AnsArgs w p (argsL sg t a)) := by
 have hp : p < w.heap.size := hc.row.lt
 have hars := hc.ars
 obtain ⟨hneg, hcoll⟩ := Coll.start hl hj hj2
 have h3 := argsL_len (t := t) hars a
 have hzb := ar_bd hars (t.getD a 0)
 obtain ⟨z, hz⟩ : ∃ z, ar sg (t.getD a 0) = z := ⟨_, rfl⟩
 rw [hz] at hneg hcoll hzb
 obtain ⟨T, rfl⟩ := Int.eq_ofNat_of_zero_le (show 0 ≤ z by omega)
 rw [Int.toNat_natCast] at hcoll
 have HZ := hid hz
 obtain ⟨L, hLL⟩ : ∃ L, argsL sg t a = L := ⟨_, rfl⟩
 rw [hLL] at hcoll h3
 rw [hLL]
 have HLL := hid hLL
 clear hz hLL hars hj hj2 hl
 go_enter Try.func56, Try.ntmps56
 go_wp2_with fail
 refine (next p A n c A' m c' sg t a _ hc).mono ?_
 rintro e w2 ⟨hg, ⟨-, he, hc2⟩ | ⟨hk', -, -⟩⟩
 ·rw [HZ.out] at he
  subst he
  have S0 : HeadImpl w p A n c A' m c' sg t T L (.slice none 0 0) (.int .i64 0) w2 := ⟨0, T, a + 1, none, 0, 0, [], rfl, by omega, rfl, Own.nil _ _, hcoll, hc2, hg⟩
  have HS := hid S0
  clear S0 hc2 hg hc hcoll
  go_wp2_with fail
  go_loopw [3, 6] (fun out i wr => HeadImpl w p A n c A' m c' sg t T L out i wr) (fun _ i _ => T - (intOf i).toNat)
  case atStart => exact HS.out
  case round =>
   obtain ⟨k, q, pp, O, on, oc, ys, rfl, hkq, rfl, ho, hcl, hcu, hb⟩ := hrel
   clear HS
   have hon : on ≤ 3 := by have := Own.len ho; have := hcl.len; omega
   cases q with
   | zero =>
    have F : AnsArgs w p L (.returned (.slice O on oc)) wr := ⟨O, on, oc, rfl, by rw [← hcl.done]; exact ho, hb⟩
    have HF := hid F
    have hkT : k = T := by omega
    subst hkT
    clear F ho hcl hcu hb
    go_wp2
    go_ret
    exact HF.out
   | succ q =>
    obtain ⟨jj, hj, hj2', hlt, hc'⟩ := hcl.first
    have HJ := hid hj
    have hkT : k < T := by omega
    have HKQ := hid hkq
    have cp : wr.cell? ⟨p, 2, none⟩ = some (.int .i64 (pp : Int)) := hcu.row.cell 2
    have hsz := hcu.row.lt
    have hsw := hb.size
    clear hcl hj hkq
    go_wp2_with (at_builtin; refine app1 rfl _ _ rfl w.heap.size O on oc ys rfl (Own.alloc ho _) wr.heap.size 1 (pp : Int) rfl ((Row.new _ _ _).cell 0) (by omega) (by simp; omega) ?_; intro O' oc' w3 ho3 b3)
    have cu3 : Cur w3 p A n c A' m c' sg t pp := Cur.keep (Cur.alloc hcu _) (b3.mono hp)
    have bel3 : w.grownBy w3 (some p) := args_over (args_over hb ((Below.refl _ _).alloc (Nat.le_refl _) _) hsw) b3 (Nat.le_refl _)
    clear ho b3 hb hcu cp
    go_wp2_with fail
    refine (pass p A n c A' m c' sg t pp _ cu3).mono ?_
    rintro e w4 ⟨hg4, ⟨j', hj', rfl, hc4⟩ | ⟨hj', -, -⟩⟩
    ·obtain rfl : jj = j' := by rw [HJ.out] at hj'; injection hj'
     have S : HeadImpl w p A n c A' m c' sg t T L (.slice O' (on + 1) oc') (.int .i64 ((k : Int) + 1)) w4 :=
      ⟨k + 1, q, pp + jj, O', on + 1, oc', _, by simp, by have := HKQ.out; omega, rfl, Own.far ho3 hg4 (fun g hgg => by injection hgg; omega), hc', hc4, grown_trans bel3 hg4⟩
     have HSS := hid S
     clear S ho3 hg4 hc4 cu3 bel3 hc' hj'
     go_wp2
     go_roundw
     case rel => exact HSS.out
     case measure => simp [intOf]; omega
    ·rw [HJ.out] at hj'
     cases hj'
 ·omega
set_option maxHeartbeats 2000000 in
theorem implArgsAt (A A' : Option Addr) (n c m c' : Nat) (sg t : List Int) (x : Int) (w : World) (h : Seg w w.heap.size A n sg) (h' : Seg w w.heap.size A' m t) (hn : n ≤ 1048576) (hm : m ≤ 1048576) (_ : -9223372036854775808 ≤ x) (_ : x ≤ 9223372036854775807) :
  Calls Try.prog 15 #[.agg #[.slice A n c], .slice A' m c', .int .i64 x] w (AnsList w (argsI sg t x)) := by
 obtain ⟨W, hW⟩ : ∃ W, W = w.alloc (.cells #[.slice A n c] 27) := ⟨_, rfl⟩
 have bel : Below w.heap.size w W := by rw [hW]; exact (Below.refl _ _).alloc (Nat.le_refl _) _
 have zW : w.heap.size < W.heap.size := by rw [hW]; simp
 replace h := (h.below bel).more bel.size
 replace h' := (h'.below bel).more bel.size
 have HW := hid hW
 have HL := hid h'.1
 clear hW
 have L := hid (cursorAt A A' n c m c' sg t x W h h' hn hm)
 clear h h'
 go_enter Try.func15, Try.ntmps15
 go_wp2_with fail
 rw [← HW.out]
 refine L.out.mono ?_
 rintro e w1 ⟨bb, ⟨ht, p, rfl, hp, hc⟩ | ⟨ht, rfl⟩⟩
 ·replace bel := next_trans bel bb
  have HT := hid ht
  clear ht bb L
  obtain ⟨hok, h0, h1⟩ := there_parts HT.out
  have ht := (termOk_parts hok).2.2
  obtain ⟨a, rfl⟩ := Int.eq_ofNat_of_zero_le h0
  rw [Int.toNat_natCast] at hc
  have ham : a < m := by rw [HL.out] at h1; omega
  obtain ⟨j, hj, hj1, hj2⟩ := scan_at ht (a := a) (by rw [HL.out]; exact ham)
  rw [HL.out] at hj2
  have LA := hid (cursorArgs p A A' n c m c' sg t a j w1 hc HL.out ham hj hj2)
  have HF0 := hid (show argsI sg t (a : Int) = argsL sg t a by unfold argsI; rw [if_pos HT.out, Int.toNat_natCast])
  clear hj hj1 hj2 ht hok h1 hc
  go_wp2_with fail
  refine LA.out.mono ?_
  rintro e w2 ⟨O, on, oc, rfl, oO, hg⟩
  have F := hid (show AnsList w (argsI sg t (a : Int)) (.returned (.slice O on oc)) w2 from ⟨O, on, oc, rfl, by rw [HF0.out]; exact Own.lower oO bel.size, bel.grown hg bel.size (fun k hk => by injection hk; omega)⟩)
  clear oO hg bel LA
  go_wp2
  go_ret
  exact F.out
 ·have F := hid (args_no ht (Own.nil w1 w.heap.size) (next_trans bel bb))
  clear bb bel ht L
  go_wp2
  go_ret
  exact F.out
end args
end
section
open Go.Lib (hid)
namespace depth
open Go.RowKit base ints sig term arity endOf cursor termOk endAt marks app sym args
def Deep (sg t : List Int) (f : Nat) (M d : Int) (q p : Nat) : Prop := max d (maxOver sg t (dep sg t f) q p) = M ∧ 0 ≤ d ∧ d ≤ f ∧ ∃ i, scan sg q (t.drop p) = some i ∧ i ≤ f ∧ p + i ≤ t.length
theorem Deep.first {sg t : List Int} {f : Nat} {M d : Int} {q p : Nat} (h : Deep sg t f M d (q + 1) p) : ∃ j, scan sg 1 (t.drop p) = some j ∧ j ≤ f ∧ p < t.length ∧ p + j ≤ t.length ∧ Deep sg t f M (max d (dep sg t f p)) q (p + j) := by
 obtain ⟨h1, h2, h3, i, h4, h5, h6⟩ := h
 obtain ⟨j, e1, e2, e3, e4⟩ := scan_first h4
 have hb := dep_bd (sg := sg) (t := t) f p
 refine ⟨j, e1, by omega, by omega, by omega, ?_, by omega, by omega, i - j, e4, by omega, by omega⟩
 simp only [maxOver, len1_eq e1] at h1
 omega
theorem Deep.done {sg t : List Int} {f : Nat} {M d : Int} {p : Nat} (h : Deep sg t f M d 0 p) : d = M := by
 have h1 := h.1
 have h2 := h.2.1
 simp only [maxOver] at h1
 omega
theorem Deep.start {sg t : List Int} {f a j : Nat} (h : scan sg 1 (t.drop a) = some j) (hj : j ≤ f + 1) (hl : a + j ≤ t.length) :
  ¬ ar sg (t.getD a 0) < 0 ∧ Deep sg t f (maxOver sg t (dep sg t f) (ar sg (t.getD a 0)).toNat (a + 1)) 0 (ar sg (t.getD a 0)).toNat (a + 1) := by
 obtain ⟨i, rfl, _, h2, h3⟩ := scan_args h
 have hb := maxOver_bd (sg := sg) (t := t) (g := dep sg t f) (B := f) (by omega) (fun p => dep_bd f p) (ar sg (t.getD a 0)).toNat (a + 1)
 exact ⟨h2, by omega, by omega, by omega, i, h3, by omega, by omega⟩
def AnsCDep (w : World) (p : Nat) (A : Option Addr) (n c : Nat) (A' : Option Addr) (m c' : Nat) (sg t : List Int) (k : Nat) (z : Int) (e : Ending) (w' : World) : Prop :=
 e = .returned (.int .i64 z) ∧ w.grownBy w' (some p) ∧ Cur w' p A n c A' m c' sg t k
def HeadCDep (w : World) (p : Nat) (A : Option Addr) (n c : Nat) (A' : Option Addr) (m c' : Nat) (sg t : List Int) (T f last : Nat) (M : Int) (deep i : Value) (wr : World) : Prop :=
 ∃ (k q pp r : Nat) (d : Int), i = .int .i64 k ∧ deep = .int .i64 d ∧ k + q = T ∧ Deep sg t f M d q pp ∧ scan sg q (t.drop pp) = some r ∧ pp + r = last ∧ Cur wr p A n c A' m c' sg t pp ∧ w.grownBy wr (some p)
set_option maxHeartbeats 2000000 in
theorem implDepth (p : Nat) (A : Option Addr) (n c : Nat) (A' : Option Addr) (m c' : Nat) (sg t : List Int) : ∀ (f a j : Nat) (w : World), Cur w p A n c A' m c' sg t a → scan sg 1 (t.drop a) = some j → j ≤ f → f ≤ 1048576 →
  Calls Try.prog 93 #[.pointer (some ⟨p, 0, none⟩)] w (AnsCDep w p A n c A' m c' sg t (a + j) (dep sg t f a)) := by
 intro f
 induction f with
 | zero =>
  intro a j w _ hj hf _
  have := scan_pos (q := 0) hj
  omega
 | succ f ih =>
  intro a j w h hj hf hff
  have IH := hid ih
  clear ih
  have HL := hid h.s'.1
  have hs := h.ars
  have hl : a + j ≤ t.length := by have := scan_le hj; have := (scan_args hj); obtain ⟨_, _, h2, _⟩ := this; simp only [List.length_drop] at *; omega
  obtain ⟨hneg, hdeep⟩ := Deep.start (f := f) hj hf hl
  obtain ⟨r, hjr, hat, -, hr⟩ := scan_args hj
  have ham : a < m := by rw [HL.out] at hat; exact hat
  have hzb := ar_bd hs (t.getD a 0)
  have e1 : dep sg t (f + 1) a = maxOver sg t (dep sg t f) (ar sg (t.getD a 0)).toNat (a + 1) + 1 := rfl
  obtain ⟨M, hM⟩ : ∃ M, maxOver sg t (dep sg t f) (ar sg (t.getD a 0)).toNat (a + 1) = M := ⟨_, rfl⟩
  rw [hM] at hdeep e1
  obtain ⟨z, hz⟩ : ∃ z, ar sg (t.getD a 0) = z := ⟨_, rfl⟩
  rw [hz] at hdeep hneg hzb hr
  obtain ⟨T, rfl⟩ := Int.eq_ofNat_of_zero_le (show 0 ≤ z by omega)
  rw [Int.toNat_natCast] at hdeep hr
  have HZ := hid hz
  have HE := hid e1
  have HR := hid hr
  have HJR := hid (show a + 1 + r = a + j by omega)
  have HD := hid hdeep
  clear hM hz e1 hj hs hneg hr hdeep hjr hat
  go_enter Try.func93, Try.ntmps93
  go_wp2_with fail
  refine (next p A n c A' m c' sg t a _ h).mono ?_
  rintro e w1 ⟨hg, ⟨-, he, hc⟩ | ⟨hk', -, -⟩⟩
  ·rw [HZ.out] at he
   subst he
   have S0 : HeadCDep w p A n c A' m c' sg t T f (a + j) M (.int .i64 0) (.int .i64 0) w1 := ⟨0, T, a + 1, r, 0, rfl, rfl, by omega, HD.out, HR.out, HJR.out, hc, hg⟩
   have HS := hid S0
   clear S0 hc hg h
   go_wp2_with fail
   go_loopw [3, 6] (fun deep i wr => HeadCDep w p A n c A' m c' sg t T f (a + j) M deep i wr) (fun _ i _ => T - (intOf i).toNat)
   case atStart => exact HS.out
   case round =>
    obtain ⟨k, q, pp, r', d, rfl, rfl, hkq, hdp, hsc, hlast, hcu, hgr⟩ := hrel
    clear HS
    have hd0 := hdp.2.1
    have hd1 := hdp.2.2.1
    cases q with
    | zero =>
     have hk : k = T := by omega
     subst hk
     rw [scan_zero] at hsc
     have hr0 : r' = 0 := by injection hsc with hsc; omega
     have F : AnsCDep w p A n c A' m c' sg t (a + j) (dep sg t (f + 1) a) (.returned (.int .i64 (1 + d))) wr := ⟨by rw [HE.out, ← hdp.done, Int.add_comm], hgr, by rw [← hlast, hr0]; exact hcu⟩
     have HF := hid F
     clear F hdp hcu hgr hsc hlast hkq
     go_wp2
     go_ret
     exact HF.out
    | succ q =>
     obtain ⟨jj, hj, hjf, hplt, hpj, hdp'⟩ := hdp.first
     obtain ⟨j2, hj2, -, hle, hsc'⟩ := scan_first hsc
     obtain rfl : jj = j2 := by rw [hj] at hj2; injection hj2
     have hkT : k < T := by omega
     have HJ := hid hj
     have HKQ := hid hkq
     obtain ⟨z, hz⟩ : ∃ z, dep sg t f pp = z := ⟨_, rfl⟩
     have hzb2 := dep_bd (sg := sg) (t := t) f pp
     rw [hz] at hdp' hzb2
     have HZ2 := hid hz
     have HDP := hid hdp'
     have HSC := hid hsc'
     have HLA := hid (show pp + jj + (r' - jj) = a + j by omega)
     clear hdp hdp' hj hj2 hkq hz hsc hsc' hlast hplt hpj
     go_wp2_with fail
     refine (IH.out pp jj _ hcu HJ.out hjf (by omega)).mono ?_
     rintro e w2 ⟨he, hg2, hc2⟩
     rw [HZ2.out] at he
     subst he
     have S : HeadCDep w p A n c A' m c' sg t T f (a + j) M (.int .i64 (max d z)) (.int .i64 ((k : Int) + 1)) w2 :=
      ⟨k + 1, q, pp + jj, r' - jj, max d z, by simp, rfl, by have := HKQ.out; omega, HDP.out, HSC.out, HLA.out, hc2, grown_trans hgr hg2⟩
     have HSS := hid S
     clear S hg2 hc2 hgr hcu
     have emx : (if d < z then z else d) = max d z := by split <;> omega
     have EMX := hid emx
     clear emx
     go_wp2
     go_roundw
     case rel => rw [EMX.out]; exact HSS.out
     case measure => simp [intOf]; omega
  ·omega
def depthI (sg t : List Int) : Int := if termOkB sg t = true then dep sg t t.length 0 else 0
def AnsDepthOf (w : World) (sg t : List Int) (e : Ending) (w' : World) : Prop := e = .returned (.int .i64 (depthI sg t)) ∧ Below w.heap.size w w'
theorem depth_no {w w' : World} {sg t : List Int} (h : termOkB sg t = false) (hb : Below w.heap.size w w') : AnsDepthOf w sg t (.returned (.int .i64 0)) w' := ⟨by unfold depthI; rw [if_neg (by rw [h]; simp)], hb⟩
theorem depth_yes {w w' : World} {sg t : List Int} {m : Nat} (hm : t.length = m) (h : termOkB sg t = true) (hb : Below w.heap.size w w') : AnsDepthOf w sg t (.returned (.int .i64 (dep sg t m 0))) w' := ⟨by unfold depthI; rw [if_pos h, hm], hb⟩
theorem termOk_pos {sg t : List Int} (h : termOkB sg t = true) : 0 < t.length := by
 have := scan_pos (q := 0) (termOk_parts h).2.2
 exact this
set_option maxHeartbeats 1000000 in
theorem implDepthOf (A A' : Option Addr) (n c m c' : Nat) (sg t : List Int) (w : World) (h : Seg w w.heap.size A n sg) (h' : Seg w w.heap.size A' m t) (hn : n ≤ 1048576) (hm : m ≤ 1048576) :
  Calls Try.prog 44 #[.agg #[.slice A n c], .slice A' m c'] w (AnsDepthOf w sg t) := by
 obtain ⟨W, hW⟩ : ∃ W, W = w.alloc (.cells #[.slice A n c] 27) := ⟨_, rfl⟩
 have bel : Below w.heap.size w W := by rw [hW]; exact (Below.refl _ _).alloc (Nat.le_refl _) _
 have zW : w.heap.size < W.heap.size := by rw [hW]; simp
 replace h := (h.below bel).more bel.size
 replace h' := (h'.below bel).more bel.size
 have HW := hid hW
 have HL := hid h'.1
 clear hW
 have L := hid (cursorAt A A' n c m c' sg t 0 W h h' hn hm)
 clear h h'
 go_enter Try.func44, Try.ntmps44
 go_wp2_with fail
 rw [← HW.out]
 refine L.out.mono ?_
 rintro e w1 ⟨bb, ⟨ht, p, rfl, hp, hc⟩ | ⟨ht, rfl⟩⟩
 ·replace bel := next_trans bel bb
  have HS := hid (there_parts ht).1
  have HJ := hid (show scan sg 1 (t.drop 0) = some m by rw [← HL.out]; exact (termOk_parts HS.out).2.2)
  clear ht bb L
  go_wp2_with fail
  refine (implDepth p A n c A' m c' sg t m 0 m _ hc HJ.out (Nat.le_refl _) hm).mono ?_
  rintro e w2 ⟨rfl, hg, -⟩
  have F := hid (depth_yes HL.out HS.out (bel.grown hg bel.size (fun k hk => by injection hk; omega)))
  clear hg bel hc
  generalize dep sg t m 0 = z at *
  go_wp2
  go_ret
  exact F.out
 ·have hno : termOkB sg t = false := by
   cases hok : termOkB sg t with
   | false => rfl
   | true =>
    rw [there_yes hok (Int.le_refl 0) (by have := termOk_pos hok; omega)] at ht
    cases ht
  have F := hid (depth_no hno (next_trans bel bb))
  clear bb bel ht hno L
  go_wp2
  go_ret
  exact F.out
end depth
end
section
namespace termMath
open term termOk endAt sub args depth sig
theorem scan_append {sg : List Int} : ∀ {l r : List Int} {q j : Nat}, scan sg q l = some j → scan sg q (l ++ r) = some j := by
 intro l
 induction l with
 | nil =>
  intro r q j h
  cases q with
  | zero => rw [scan_zero] at h ⊢; exact h
  | succ q => rw [scan_nil] at h; cases h
 | cons x l ih =>
  intro r q j h
  cases q with
  | zero => rw [scan_zero] at h ⊢; exact h
  | succ q =>
   by_cases ha : ar sg x < 0
   ·rw [scan_bad ha] at h; cases h
   ·rw [scan_step ha] at h
    rw [List.cons_append, scan_step ha]
    obtain ⟨j', hj', rfl⟩ := Option.map_eq_some_iff.1 h
    rw [ih hj']
    rfl
theorem scan_take {sg : List Int} : ∀ {l : List Int} {q j : Nat}, scan sg q l = some j → scan sg q (l.take j) = some j := by
 intro l
 induction l with
 | nil => intro q j h; simpa using h
 | cons x l ih =>
  intro q j h
  cases q with
  | zero => rw [scan_zero] at h ⊢; exact h
  | succ q =>
   by_cases ha : ar sg x < 0
   ·rw [scan_bad ha] at h; cases h
   ·rw [scan_step ha] at h
    obtain ⟨j', hj', rfl⟩ := Option.map_eq_some_iff.1 h
    rw [List.take_succ_cons, scan_step ha, ih hj']
    rfl
theorem scan_same {sg l l' : List Int} {q j : Nat} (h : scan sg q l = some j) (e : l.take j = l'.take j) : scan sg q l' = some j := by
 have h1 := scan_take h
 rw [e] at h1
 have h2 := scan_append (r := l'.drop j) h1
 rwa [List.take_append_drop] at h2
theorem take_less {l l' : List Int} {i j : Nat} (e : l.take i = l'.take i) (h : j ≤ i) : l.take j = l'.take j := by
 have : (l.take i).take j = (l'.take i).take j := by rw [e]
 rwa [List.take_take, List.take_take, Nat.min_eq_left h] at this
theorem drop_same {l l' : List Int} {i j : Nat} (e : l.take i = l'.take i) : (l.drop j).take (i - j) = (l'.drop j).take (i - j) := by
 rw [← List.drop_take, ← List.drop_take, e]
theorem get_same {t t' : List Int} {a a' i : Nat} (e : (t.drop a).take i = (t'.drop a').take i) (h : 1 ≤ i) : t.getD a 0 = t'.getD a' 0 := by
 have : ((t.drop a).take i)[0]? = ((t'.drop a').take i)[0]? := by rw [e]
 rw [List.getElem?_take, List.getElem?_take, if_pos (by omega), if_pos (by omega), List.getElem?_drop, List.getElem?_drop] at this
 simpa [List.getD] using congrArg (fun o => o.getD 0) this
theorem max_same {sg t t' : List Int} {f f' : Nat} (hd : ∀ a a' j, (t.drop a).take j = (t'.drop a').take j → scan sg 1 (t.drop a) = some j → j ≤ f → j ≤ f' → dep sg t f a = dep sg t' f' a') :
  ∀ q p p' i, (t.drop p).take i = (t'.drop p').take i → scan sg q (t.drop p) = some i → i ≤ f → i ≤ f' → maxOver sg t (dep sg t f) q p = maxOver sg t' (dep sg t' f') q p'
 | 0, _, _, _, _, _, _, _ => rfl
 | q + 1, p, p', i, e, h, h1, h2 => by
  obtain ⟨j, e1, e2, e3, e4⟩ := scan_first h
  have e5 := scan_same e1 (take_less e e3)
  have hdr : (t.drop (p + j)).take (i - j) = (t'.drop (p' + j)).take (i - j) := by
   have := drop_same (j := j) e
   rwa [List.drop_drop, List.drop_drop] at this
  simp only [maxOver, len1_eq e1, len1_eq e5]
  rw [hd p p' j (take_less e e3) e1 (by omega) (by omega), max_same hd q (p + j) (p' + j) (i - j) hdr e4 (by omega) (by omega)]
theorem dep_same {sg : List Int} : ∀ (f f' : Nat) (t t' : List Int) (a a' j : Nat), (t.drop a).take j = (t'.drop a').take j → scan sg 1 (t.drop a) = some j → j ≤ f → j ≤ f' → dep sg t f a = dep sg t' f' a'
 | 0, _, _, _, _, _, _, _, h, h1, _ => by have := scan_pos (q := 0) h; omega
 | _ + 1, 0, _, _, _, _, _, _, h, _, h2 => by have := scan_pos (q := 0) h; omega
 | f + 1, f' + 1, t, t', a, a', j, e, h, h1, h2 => by
  have hj := scan_pos (q := 0) h
  have hg := get_same e hj
  obtain ⟨i, e1, _, _, e2⟩ := scan_args h
  have hdr : (t.drop (a + 1)).take i = (t'.drop (a' + 1)).take i := by
   have := drop_same (j := 1) e
   rw [List.drop_drop, List.drop_drop] at this
   have e3 : j - 1 = i := by omega
   rwa [e3] at this
  simp only [dep]
  rw [← hg, max_same (fun a a' j e h h1 h2 => dep_same f f' t t' a a' j e h h1 h2) _ (a + 1) (a' + 1) i hdr e2 (by omega) (by omega)]
theorem sub_term {sg t : List Int} {a : Nat} (hok : termOkB sg t = true) (ha : a < t.length) : termOkB sg (subL sg t a) = true ∧ depthI sg (subL sg t a) = dep sg t (t.length + 1) a ∧ endI sg t a = (a : Int) + ((subL sg t a).length : Int) ∧ 1 ≤ (subL sg t a).length := by
 have hp := termOk_parts hok
 obtain ⟨j, hj, hj1, hj2⟩ := scan_at hp.2.2 ha
 have hl : len1 sg t a = j := len1_eq hj
 have hs : subL sg t a = (t.drop a).take j := by unfold subL; rw [hl]
 have hlen : (subL sg t a).length = j := by rw [hs]; simp; omega
 have hsc : scan sg 1 (subL sg t a) = some (subL sg t a).length := by rw [hlen, hs]; exact scan_take hj
 have hok2 : termOkB sg (subL sg t a) = true := by
  unfold termOkB termB
  rw [hp.1, hsc]
  simp
  omega
 refine ⟨hok2, ?_, by rw [endI_some hj, hlen], by omega⟩
 unfold depthI
 rw [if_pos hok2, hlen]
 refine (dep_same _ _ _ _ _ _ j ?_ ?_ (Nat.le_refl _) (by omega))
 ·rw [List.drop_zero, hs, List.take_take, Nat.min_self]
 ·rw [List.drop_zero, hsc, hlen]
def Loop (sg t : List Int) (a : Nat) (M : Int) (zs args : List Int) (d : Int) (k q pp : Nat) : Prop :=
 args.drop k = places sg t q pp ∧ max d (maxOver sg t (dep sg t t.length) q pp) = M ∧ 0 ≤ d ∧ d ≤ t.length ∧ ∃ i, scan sg q (t.drop pp) = some i ∧ pp + i ≤ t.length ∧ zs ++ (t.drop pp).take i = subL sg t a
theorem Loop.start {sg t : List Int} {a : Nat} (hok : termOkB sg t = true) (ha : a < t.length) :
  Loop sg t a (maxOver sg t (dep sg t t.length) (ar sg (t.getD a 0)).toNat (a + 1)) [t.getD a 0] (argsL sg t a) 0 0 (ar sg (t.getD a 0)).toNat (a + 1) := by
 have hp := termOk_parts hok
 obtain ⟨j, hj, hj1, hj2⟩ := scan_at hp.2.2 ha
 obtain ⟨i, rfl, _, _, hi⟩ := scan_args hj
 have hb := maxOver_bd (sg := sg) (t := t) (g := dep sg t t.length) (B := t.length) (by omega) (fun p => dep_bd t.length p) (ar sg (t.getD a 0)).toNat (a + 1)
 refine ⟨rfl, by omega, by omega, by omega, i, hi, by omega, ?_⟩
 unfold subL
 rw [len1_eq hj, drop_cons ha, List.take_succ_cons]
 rfl
theorem Loop.done {sg t : List Int} {a : Nat} {M : Int} {zs args : List Int} {d : Int} {k pp : Nat} (h : Loop sg t a M zs args d k 0 pp) : zs = subL sg t a ∧ d = M := by
 obtain ⟨_, h2, h3, _, i, h5, _, h7⟩ := h
 rw [scan_zero] at h5
 injection h5 with h5
 subst h5
 simp only [maxOver] at h2
 exact ⟨by simpa using h7, by omega⟩
theorem Loop.step {sg t : List Int} {a : Nat} {M : Int} {zs args : List Int} {d : Int} {k q pp : Nat} (hok : termOkB sg t = true) (h : Loop sg t a M zs args d k (q + 1) pp) :
  pp < t.length ∧ args.getD k 0 = (pp : Int) ∧ ∃ jj, Loop sg t a M (zs ++ subL sg t pp) args (max d (depthI sg (subL sg t pp))) (k + 1) q (pp + jj) := by
 obtain ⟨h1, h2, h3, h4, i, h5, h6, h7⟩ := h
 obtain ⟨j, e1, e2, e3, e4⟩ := scan_first h5
 have hlt : pp < t.length := by omega
 refine ⟨hlt, ?_, j, ?_⟩
 ·have : (args.drop k)[0]? = (places sg t (q + 1) pp)[0]? := by rw [h1]
  simp [places] at this
  simp [List.getD, this]
 ·have hdep : depthI sg (subL sg t pp) = dep sg t t.length pp := by
   rw [(sub_term hok hlt).2.1]
   exact dep_same _ _ _ _ _ _ j rfl e1 (by omega) (by omega)
  have hb := dep_bd (sg := sg) (t := t) t.length pp
  refine ⟨?_, ?_, by omega, by rw [hdep]; omega, i - j, e4, by omega, ?_⟩
  ·have : (args.drop k).drop 1 = (places sg t (q + 1) pp).drop 1 := by rw [h1]
   rw [List.drop_drop] at this
   simpa [places, len1_eq e1] using this
  ·rw [hdep]
   simp only [maxOver, len1_eq e1] at h2
   omega
  ·rw [← h7, List.append_assoc]
   congr 1
   unfold subL
   rw [len1_eq e1, ← List.drop_drop, ← List.drop_take]
   have := List.take_append_drop j ((t.drop pp).take i)
   rwa [List.take_take, Nat.min_eq_left e3] at this
theorem depth_head {sg t : List Int} {a : Nat} (hok : termOkB sg t = true) (ha : a < t.length) : depthI sg (subL sg t a) = maxOver sg t (dep sg t t.length) (ar sg (t.getD a 0)).toNat (a + 1) + 1 := by
 rw [(sub_term hok ha).2.1]
 rfl
end termMath
end
section
namespace rolls
open Go.RowKit base ints cursor dice
structure RollAt (w : World) (p : Nat) (A : Option Addr) (n c i : Nat) (h : Int) : Prop where
 row : Row w p 124 #[.slice A n c, .int .i64 i, .int .u64 h]
 le : i ≤ n
 s : SegB w p A n
 hn : n ≤ 4096
section
variable {w w' : World} {p : Nat} {A : Option Addr} {n c i : Nat} {h : Int}
theorem RollAt.drew (d : RollAt w p A n c i h) : RollAt w.drew p A n c i h := ⟨d.row, d.le, d.s, d.hn⟩
theorem RollAt.setH (d : RollAt w p A n c i h) (h' : Int) : RollAt (w.setCell ⟨p, 2, none⟩ (.int .u64 h')) p A n c i h' :=
 ⟨d.row.put 2 _, d.le, d.s.keep fun q hq => World.cell?_setCell_other w _ q _ (fun e => by subst e; exact Nat.lt_irrefl _ hq), d.hn⟩
end
theorem and24 (n : Int) : 0 ≤ bits .and .u64 n 16777215 ∧ bits .and .u64 n 16777215 ≤ 16777215 := by
 have h255 : (BitVec.ofInt 64 16777215).toNat = 2 ^ 24 - 1 := by decide
 have key : (BitVec.ofInt 64 n &&& BitVec.ofInt 64 16777215).toNat = (n % ((2 ^ 64 : Nat) : Int)).toNat % 2 ^ 24 := by
  rw [BitVec.toNat_and, BitVec.toNat_ofInt, h255, Nat.and_two_pow_sub_one_eq_mod]
 have e : bits .and .u64 n 16777215 = IntKind.u64.wrap ((BitVec.ofInt 64 n &&& BitVec.ofInt 64 16777215).toNat : Nat) := rfl
 rw [e, key, IntKind.wrap_u64]
 omega
def AnsRoll (w : World) (A : Option Addr) (n c : Nat) (e : Ending) (w' : World) : Prop := ∃ p h, e = .returned (.pointer (some ⟨p, 0, none⟩)) ∧ w.heap.size ≤ p ∧ RollAt w' p A n c 0 h ∧ Below w.heap.size w w'
set_option maxHeartbeats 2000000 in
theorem roll (A : Option Addr) (n c : Nat) (w : World) (hs : SegB w w.heap.size A n) (hn : n ≤ 4096) :
  Calls Try.prog 47 #[.slice A n c, .int .u64 701] w (AnsRoll w A n c) := by
 go_enter Try.func47, Try.ntmps47
 go_wp2_with fail
 go_loopw [6] (fun i wr => ∃ (k : Nat) (h : Int), k ≤ n ∧ i = .int .i64 k ∧ RollAt wr w.heap.size A n c 0 h ∧ Below w.heap.size w wr) (fun i _ => n - (intOf i).toNat)
 case atStart => exact ⟨0, _, Nat.zero_le _, rfl, ⟨Row.new _ _ _, Nat.zero_le _, hs.keep (fun q hq => World.cell?_alloc_lt w _ q hq), hn⟩, (Below.refl _ _).alloc (Nat.le_refl _) _⟩
 case round =>
  obtain ⟨k, h, hk, rfl, R, B⟩ := hrel
  have c0 : wr.cell? ⟨w.heap.size, 0, none⟩ = some (.slice A n c) := R.row.cell 0
  have c1 : wr.cell? ⟨w.heap.size, 1, none⟩ = some (.int .i64 0) := R.row.cell 1
  have c2 : wr.cell? ⟨w.heap.size, 2, none⟩ = some (.int .u64 h) := R.row.cell 2
  have f2 : wr.frozen? ⟨w.heap.size, 2, none⟩ = false := R.row.free 2
  by_cases hlt : k < n
  ·obtain ⟨b, off, rfl, hb, hc⟩ := R.s (by omega)
   obtain ⟨y, hy0, hy1, hy⟩ := hc k hlt
   have hne : b ≠ w.heap.size := by omega
   have i0 : (0 : Int) ≤ (k : Int) := by omega
   have i1 : (k : Int) < (n : Int) := by omega
   have HR := Lib.hid R
   have HB := Lib.hid B
   clear hc R B
   go_wp2_with fail
   go_region
   all_goals
    go_wp2
    go_roundw
    case rel =>
     first
      | exact ⟨k + 1, _, hlt, by go_num, (HR.out.setH _).drew, (HB.out.setCell (p := ⟨w.heap.size, 2, none⟩) (Nat.le_refl _) _).drew⟩
      | exact ⟨k + 1, _, hlt, by go_num, HR.out.drew.setH _, HB.out.drew.setCell (p := ⟨w.heap.size, 2, none⟩) (Nat.le_refl _) _⟩
    case measure => simp [intOf]; omega
  ·have F : AnsRoll w A n c (.returned (.pointer (some ⟨w.heap.size, 0, none⟩))) wr := ⟨_, h, rfl, Nat.le_refl _, R, B⟩
   have HF := Lib.hid F
   clear F R B c0 c1 c2 f2
   go_wp2
   go_ret
   exact HF.out
def AnsBelow (w : World) (p : Nat) (N : Int) (e : Ending) (w' : World) : Prop := ∃ x : Int, e = .returned (.int .i64 x) ∧ 0 ≤ x ∧ x < N ∧ w.grownBy w' (some p)
set_option maxHeartbeats 2000000 in
theorem rollBelow (p : Nat) (A : Option Addr) (n c : Nat) (h N : Int) (w : World) (R : RollAt w p A n c 0 h) (h1 : 1 ≤ N) (h2 : N ≤ 256) :
  Calls Try.prog 48 #[.pointer (some ⟨p, 0, none⟩), .int .i64 N] w (AnsBelow w p N) := by
 have c0 : w.cell? ⟨p, 0, none⟩ = some (.slice A n c) := R.row.cell 0
 have c1 : w.cell? ⟨p, 1, none⟩ = some (.int .i64 0) := R.row.cell 1
 have c2 : w.cell? ⟨p, 2, none⟩ = some (.int .u64 h) := R.row.cell 2
 have f1 : w.frozen? ⟨p, 1, none⟩ = false := R.row.free 1
 have f2 : w.frozen? ⟨p, 2, none⟩ = false := R.row.free 2
 have HG := Lib.hid (World.grownBy.refl w (some p))
 by_cases hlt : 0 < n
 ·obtain ⟨b, off, rfl, hb, hc⟩ := R.s (by omega)
  obtain ⟨y, hy0, hy1, hy⟩ := hc 0 hlt
  rw [Nat.add_zero] at hy
  have hne : b ≠ p := by omega
  have i1 : (0 : Int) < (n : Int) := by omega
  clear hc R
  go_enter Try.func48, Try.ntmps48
  go_wp2_with fail
  have hz := and24 (IntKind.u64.wrap (IntKind.u64.wrap (h * 6364136223846793005) + 1442695040888963407) / 8589934592)
  generalize bits .and .u64 (IntKind.u64.wrap (IntKind.u64.wrap (h * 6364136223846793005) + 1442695040888963407) / 8589934592) 16777215 = Z at *
  rw [IntWalk.wrap64_in Z (by omega)]
  have hz0 := hz.1
  have hz1 := hz.2
  have HM := Lib.hid (fun d : Int => (show 0 ≤ d % N ∧ d % N < N from ⟨Int.emod_nonneg _ (by omega), Int.emod_lt_of_pos _ (by omega)⟩))
  clear hz
  go_quiet (fail)
  go_wp2_with fail
  go_quiet (fail)
  go_wp2
  go_ret
  exact ⟨_, rfl, (HM.out _).1, (HM.out _).2, grown_put (grown_drewN (grown_put HG.out _ _) _) _ _⟩
 ·have e0 : n = 0 := by omega
  subst e0
  clear R
  go_enter Try.func48, Try.ntmps48
  go_wp2_with fail
  have hz := and24 (IntKind.u64.wrap (IntKind.u64.wrap (h * 6364136223846793005) + 1442695040888963407) / 8589934592)
  generalize bits .and .u64 (IntKind.u64.wrap (IntKind.u64.wrap (h * 6364136223846793005) + 1442695040888963407) / 8589934592) 16777215 = Z at *
  rw [IntWalk.wrap64_in Z (by omega)]
  have hz0 := hz.1
  have hz1 := hz.2
  have HM := Lib.hid (fun d : Int => (show 0 ≤ d % N ∧ d % N < N from ⟨Int.emod_nonneg _ (by omega), Int.emod_lt_of_pos _ (by omega)⟩))
  clear hz
  go_quiet (fail)
  go_wp2
  go_ret
  exact ⟨_, rfl, (HM.out _).1, (HM.out _).2, grown_drewN (grown_put HG.out _ _) _⟩
end rolls
end
section
namespace appAt
open Go.RowKit base ints marks app
set_option maxRecDepth 100000
theorem blk_own (A : Option Addr) (n c : Nat) : (Value.slice A n c).ownBlock = blk A := by cases A <;> rfl
theorem appAllAt {w : World} {ops : Array Oper} {rest : List Oper} {o : Oper} {a : Act} {Q : Exit → Act → World → Prop} (hgd : o.guard = none) (s x : Operand)
  (ho : o.op = .call { callee := .builtin .append, args := #[s, x], argTypes := #[22, 22] })
  (base : Nat) (A : Option Addr) (n c : Nat) (xs : List Int) (hs : a.eval s = .slice A n c) (hown : Own w base (.slice A n c) xs)
  (S : Option Addr) (m c2 B : Nat) (ys : List Int) (hx : a.eval x = .slice S m c2) (hseg : Seg w B S m ys) (hm1 : 1 ≤ m) (hn : n ≤ 2097152) (hm : m ≤ 2097152) (hbase : base ≤ w.heap.size)
  (h : ∀ A' c' w', Own w' base (.slice A' (n + m) c') (xs ++ ys) → w.grownBy w' (blk A) → (blk A' = blk A ∨ blk A' = some w.heap.size) → wpList Try.prog ops Q rest (a.put o.dst (.slice A' (n + m) c')) w') : wpList Try.prog ops Q (o :: rest) a w := by
 obtain ⟨i0, hi, hz0, hz1, hz2⟩ := info_parts info_i64
 have hl : xs.length = n := by
  obtain ⟨A', c', e⟩ := hown.slice
  injection e with _ e _
  exact e.symm
 have ho1 : w.ownsRow base 2 1 (.slice A n c) n (xs.map (Value.int .i64)) := by rw [← hl]; rw [← hl] at hown; exact hown
 obtain ⟨b, off, e, _, hc⟩ := hseg.2 (by omega)
 subst e
 refine wpList_append_own_at w hgd s x 22 ho base 2 i0 (.int .i64 0) 1 8 Try.underlying22 hi hz0 hz1 hz2 rfl (by decide) (.slice A n c) n (xs.map (Value.int .i64)) hs ho1
  ⟨b, off, none⟩ m c2 (ys.map (Value.int .i64)) hx (by simp [hseg.1]) (fun j u hj => ?_) (fun u hu => ?_) (by unfold maxLen; omega) (by omega) hbase ?_
 ·have hjl : j < m := by
   have := (List.getElem?_eq_some_iff.1 hj).1
   simp at this
   have := hseg.1
   omega
  have hcj := hc j hjl
  have e2 : (⟨b, off, none⟩ : Addr).add j = ⟨b, off + j, none⟩ := by unfold Addr.add; split <;> simp_all
  rw [e2, hcj, ← hj]
  have := hseg.1
  simp [List.getD, show j < ys.length by omega]
 ·obtain ⟨y, _, rfl⟩ := List.mem_map.1 hu
  rfl
 ·intro v' w' hown' hg _ hat
  rw [← List.map_append] at hown'
  obtain ⟨A', c', rfl, ho'⟩ := own_of hown'
  rw [blk_own] at hg
  rw [blk_own, blk_own] at hat
  exact h A' c' w' ho' hg hat
theorem Own.kept {w w' : World} {base : Nat} {A : Option Addr} {n c : Nat} {xs : List Int} {r : Option Nat} (h : Own w base (.slice A n c) xs) (hg : w.grownBy w' r) (hne : blk A = none ∨ blk A ≠ r) : Own w' base (.slice A n c) xs :=
 World.ownsRow.kept h hg (by rw [blk_own]; exact hne)
end appAt
end
section
open Go.Lib (hid)
namespace wFnTerms
open Go.RowKit base ints sig same term termOk endAt marks sym sub args depth dice drawPair rolls appAt termMath
structure Tt (w : World) (v : Nat) (S : Option Addr) (sn sc : Nat) (sg : List Int) (O : Option Addr) (on : Nat) (xs : List Int) (wr : World) : Prop where
 s : Seg wr wr.heap.size S sn sg
 t : Seg wr wr.heap.size O on xs
 r : Row wr v 27 #[.slice S sn sc]
 bel : Below w.heap.size w wr
section
variable {w : World} {v : Nat} {S : Option Addr} {sn sc : Nat} {sg : List Int} {O : Option Addr} {on : Nat} {xs : List Int} {wr w' : World}
theorem Tt.next (t : Tt w v S sn sc sg O on xs wr) (hb : Below wr.heap.size wr w') : Tt w v S sn sc sg O on xs w' := ⟨t.s.next hb, t.t.next hb, t.r.next hb, next_trans t.bel hb⟩
theorem Tt.drew (t : Tt w v S sn sc sg O on xs wr) : Tt w v S sn sc sg O on xs wr.drew := ⟨t.s, t.t, t.r, t.bel.drew⟩
theorem Tt.drewN (t : Tt w v S sn sc sg O on xs wr) (d : Nat) : Tt w v S sn sc sg O on xs (wr.drewN d) := ⟨t.s, t.t, t.r, below_drewN t.bel d⟩
end
def HeadT (w1 : World) (Q : Option Addr) (qn qc : Nat) (sg xs : List Int) (a : Nat) (M : Int) (args : List Int) (again deep i : Value) (wr : World) : Prop :=
 ∃ (k q pp : Nat) (zs : List Int) (d : Int) (Z : Option Addr) (zn zc : Nat), again = .slice Z zn zc ∧ deep = .int .i64 d ∧ i = .int .i64 k ∧ termMath.Loop sg xs a M zs args d k q pp ∧ Own wr w1.heap.size (.slice Z zn zc) zs ∧ Own wr w1.heap.size (.slice Q qn qc) args ∧ (blk Q = none ∨ blk Q ≠ blk Z) ∧ Below w1.heap.size w1 wr
theorem blk_ne {w : World} {Q Z : Option Addr} {qn qc : Nat} {args : List Int} {base : Nat} (h : Own w base (.slice Q qn qc) args) (hz : ∀ k, blk Z = some k → k < base) : blk Q = none ∨ blk Q ≠ blk Z := by
 cases e : blk Q with
 | none => exact .inl rfl
 | some k =>
  refine .inr (fun e2 => ?_)
  have h1 := Own.ge h k e
  have h2 := hz k e2.symm
  omega
theorem loop_len {sg t : List Int} {a : Nat} {M : Int} {zs args : List Int} {d : Int} {k q pp : Nat} (h : termMath.Loop sg t a M zs args d k q pp) : args.length - k = q ∧ zs.length ≤ t.length ∧ 0 ≤ d ∧ d ≤ t.length := by
 obtain ⟨h1, _, h3, h4, i, _, _, h7⟩ := h
 refine ⟨?_, ?_, h3, h4⟩
 ·have := congrArg List.length h1
  rwa [List.length_drop, places_len] at this
 ·have h8 := congrArg List.length h7
  rw [List.length_append] at h8
  have h9 : (subL sg t a).length ≤ t.length := by
   unfold subL
   rw [List.length_take, List.length_drop]
   omega
  omega
set_option maxRecDepth 100000 in
set_option maxHeartbeats 8000000 in
theorem law (A : Option Addr) (n c : Nat) (_ : List Int) (w : World) (h : SegB w w.heap.size A n) (hN : n ≤ 9223372036854775807) :
  Calls Try.prog 9 #[.slice A n c] w (Fine w) := by
 by_cases hbig : n ≤ 4096
 ·have LB := hid (wFnLess.bigAns A n c false w (by simp; omega) hN)
  go_enter Try.func9, Try.ntmps9
  go_wp2_with fail
  refine LB.out.mono ?_
  rintro e w' ⟨rfl, rfl⟩
  clear LB
  go_wp2_with fail
  refine (drawTermOk A n c w h hbig).mono ?_
  rintro e w2 ⟨S, sn, sc, sg, O, on, oc, xs, rfl, ss, st, h3, h4, hc1, hc2, b2⟩
  have HB := hid (fun (wz : World) (bz : Below w.heap.size w wz) => (show SegB wz wz.heap.size A n from fun hp => by
   obtain ⟨b, off, e, hb, hc⟩ := h hp
   refine ⟨b, off, e, Nat.lt_of_lt_of_le hb bz.size, fun j hj => ?_⟩
   obtain ⟨x, x0, x1, hx⟩ := hc j hj
   exact ⟨x, x0, x1, (bz.cell (p := ⟨b, off + j, none⟩) hb).trans hx⟩))
  clear h
  obtain ⟨v, hv⟩ : ∃ v, w2.heap.size = v := ⟨_, rfl⟩
  have T0 : Tt w v S sn sc sg O on xs (w2.alloc (.cells #[.slice S sn sc] 27)) := by
   have bb : Below w2.heap.size w2 (w2.alloc (.cells #[.slice S sn sc] 27)) := (Below.refl _ _).alloc (Nat.le_refl _) _
   exact ⟨ss.next bb, st.next bb, by rw [← hv]; exact Row.new _ _ _, next_trans b2 bb⟩
  obtain ⟨W, hW⟩ : ∃ W, W = w2.alloc (.cells #[.slice S sn sc] 27) := ⟨_, rfl⟩
  rw [← hW] at T0
  have HW := hid hW
  have HV := hid hv
  have HX := hid st.1
  clear ss st b2 hW hv
  have T := T0.drew
  have cV : W.cell? ⟨v, 0, none⟩ = some (.slice S sn sc) := T.r.cell 0
  clear T0
  go_wp2_with fail
  rw [← HW.out, HV.out]
  cases hok : termOkB sg xs with
  | false =>
   have HOK := hid hok
   clear hok
   go_region_held3 (fun w' => w'.cell? ⟨v, 0, none⟩ = some (.slice S sn sc))
    (go_keep)
    (first
     | (go_at_call 42; refine (implTermOk S O sn sc on oc sg xs _ T.s T.t (by omega) (by omega)).mono ?_; rintro e w3 ⟨he, bb⟩; rw [HOK.out] at he; subst he; replace T := T.next bb; clear bb; replace cV : w3.cell? ⟨v, 0, none⟩ = some (.slice S sn sc) := T.r.cell 0)
     | (go_at_call 43; refine (specTermOk S O sn sc on oc sg xs _ T.s T.t (by omega) (by omega)).mono ?_; rintro e w4 ⟨he, bb⟩; rw [HOK.out] at he; subst he; replace T := T.next bb; clear bb; replace cV : w4.cell? ⟨v, 0, none⟩ = some (.slice S sn sc) := T.r.cell 0))
   go_wp2_with fail
   refine (specTermOk S O sn sc on oc sg xs _ T.s T.t (by omega) (by omega)).mono ?_
   rintro e w5 ⟨he, bb⟩
   rw [HOK.out] at he
   subst he
   replace T := T.next bb
   clear bb
   replace cV : w5.cell? ⟨v, 0, none⟩ = some (.slice S sn sc) := T.r.cell 0
   have HD0 : depthI sg xs = 0 := by unfold depthI; rw [if_neg (by rw [HOK.out]; simp)]
   have HE0 : endOfI sg xs 0 = -1 := by unfold endOfI; rw [if_neg (by rw [there_no (.inl HOK.out)]; simp)]
   have HS0 : symI sg xs = [] := by unfold symI; rw [if_neg (by rw [HOK.out]; simp)]
   replace HD0 := hid HD0
   replace HE0 := hid HE0
   replace HS0 := hid HS0
   go_wp2_with fail
   refine (implDepthOf S O sn sc on oc sg xs _ T.s T.t (by omega) (by omega)).mono ?_
   rintro e w6 ⟨he, bb⟩
   rw [HD0.out] at he
   subst he
   replace T := T.next bb
   clear bb
   replace cV : w6.cell? ⟨v, 0, none⟩ = some (.slice S sn sc) := T.r.cell 0
   go_wp2_with fail
   refine (implEndOf S O sn sc on oc sg xs 0 _ T.s T.t (by omega) (by omega) (by omega) (by omega)).mono ?_
   rintro e w7 ⟨he, bb⟩
   rw [HE0.out] at he
   subst he
   replace T := T.next bb
   clear bb
   replace cV : w7.cell? ⟨v, 0, none⟩ = some (.slice S sn sc) := T.r.cell 0
   go_wp2_with fail
   refine (implSym S O sn sc on oc sg xs _ T.s T.t (by omega) (by omega)).mono ?_
   rintro e w8 ⟨Z, zn, zc, rfl, oz, bb⟩
   rw [HS0.out] at oz
   have hz := Own.len oz
   simp only [List.length_nil] at hz
   subst hz
   replace T := T.next bb
   have TB := hid T.bel
   clear bb oz T cV
   go_wp2
   go_ret
   exact ⟨rfl, TB.out⟩
  | true =>
   have HOK := hid hok
   clear hok
   go_region_held3 (fun w' => w'.cell? ⟨v, 0, none⟩ = some (.slice S sn sc))
    (go_keep)
    (first
     | (go_at_call 42; refine (implTermOk S O sn sc on oc sg xs _ T.s T.t (by omega) (by omega)).mono ?_; rintro e w3 ⟨he, bb⟩; rw [HOK.out] at he; subst he; replace T := T.next bb; clear bb; replace cV : w3.cell? ⟨v, 0, none⟩ = some (.slice S sn sc) := T.r.cell 0)
     | (go_at_call 43; refine (specTermOk S O sn sc on oc sg xs _ T.s T.t (by omega) (by omega)).mono ?_; rintro e w4 ⟨he, bb⟩; rw [HOK.out] at he; subst he; replace T := T.next bb; clear bb; replace cV : w4.cell? ⟨v, 0, none⟩ = some (.slice S sn sc) := T.r.cell 0))
   go_wp2_with fail
   refine (specTermOk S O sn sc on oc sg xs _ T.s T.t (by omega) (by omega)).mono ?_
   rintro e w5 ⟨he, bb⟩
   rw [HOK.out] at he
   subst he
   replace T := T.next bb
   clear bb
   replace cV : w5.cell? ⟨v, 0, none⟩ = some (.slice S sn sc) := T.r.cell 0
   go_wp2_with fail
   have TB := hid T.bel
   have SB := HB.out _ T.bel
   have hon := termOk_pos HOK.out
   rw [HX.out] at hon
   refine (roll A n c _ SB hbig).mono ?_
   rintro e w6 ⟨p, hh, rfl, hp, R, b6⟩
   have T6 := T.next b6
   replace cV : w6.cell? ⟨v, 0, none⟩ = some (.slice S sn sc) := T6.r.cell 0
   clear SB TB T6
   go_wp2_with fail
   refine (rollBelow p A n c hh on w6 R (by omega) (by omega)).mono ?_
   rintro e w7 ⟨x, rfl, x0, x1, g7⟩
   have b7 : Below w5.heap.size w5 w7 := b6.grown g7 b6.size (fun k hk => by injection hk with hk; omega)
   replace T := T.next b7
   clear b6 b7 R g7 hp
   obtain ⟨a, rfl⟩ : ∃ a : Nat, x = (a : Int) := ⟨x.toNat, by omega⟩
   have ha : a < on := by omega
   obtain ⟨b, off, y, rfl, hb, hy, ey⟩ := T.t.spot ha
   have b8 : Below w7.heap.size w7 (w7.alloc (.cells #[.int .i64 y] 2)) := (Below.refl _ _).alloc (Nat.le_refl _) _
   have T8 := T.next b8
   replace cV : (w7.alloc (.cells #[.int .i64 y] 2)).cell? ⟨v, 0, none⟩ = some (.slice S sn sc) := T8.r.cell 0
   have oz : Own (w7.alloc (.cells #[.int .i64 y] 2)) w7.heap.size (.slice (some ⟨w7.heap.size, 0, none⟩) 1 1) [y] :=
    Own.of_row (Row.new _ _ _) rfl rfl (Nat.le_refl _) (by omega) (Nat.le_refl _) (fun j hj => by
     have : j = 0 := by omega
     subst this
     rfl)
   have hthere : thereB sg xs (a : Int) = true := there_yes HOK.out (by omega) (by rw [HX.out]; omega)
   have HA := hid (show argsI sg xs (a : Int) = argsL sg xs a by unfold argsI; rw [if_pos hthere]; rfl)
   have HS := hid (show subI sg xs (a : Int) = subL sg xs a by unfold subI; rw [if_pos hthere]; rfl)
   have HE := hid (show endOfI sg xs (a : Int) = (a : Int) + ((subL sg xs a).length : Int) by
    unfold endOfI
    rw [if_pos hthere]
    exact (sub_term HOK.out (by rw [HX.out]; exact ha)).2.2.1)
   clear hthere
   obtain ⟨M, hM⟩ : ∃ M, maxOver sg xs (dep sg xs xs.length) (ar sg (xs.getD a 0)).toNat (a + 1) = M := ⟨_, rfl⟩
   have HD := hid ((depth_head HOK.out (by rw [HX.out]; exact ha)).trans (by rw [hM] : _ = M + 1))
   have L0 := termMath.Loop.start HOK.out (show a < xs.length by rw [HX.out]; exact ha)
   rw [hM, ey.out] at L0
   have HL := hid L0
   clear L0 hM
   go_wp2_with fail
   refine (implArgsAt S _ sn sc on oc sg xs (a : Int) _ T8.s T8.t (by omega) (by omega) (by omega) (by omega)).mono ?_
   rintro e w9 ⟨Q, qn, qc, rfl, oq, b9⟩
   rw [HA.out] at oq
   have H0 : HeadT w7 Q qn qc sg xs a M (argsL sg xs a) (.slice (some ⟨w7.heap.size, 0, none⟩) 1 1) (.int .i64 0) (.int .i64 0) w9 :=
    ⟨0, _, _, _, 0, _, 1, 1, rfl, rfl, rfl, HL.out, Own.next oz b9, Own.lower oq (by simp), blk_ne oq (fun k hk => by cases hk; simp), b8.trans (b9.mono (by simp))⟩
   have HQ := hid (Own.len oq)
   have HH := hid H0
   clear H0 oq oz T8 cV b8 b9 HL HA hy hb ey
   go_wp2_with fail
   go_loopw [7, 9, 10] (fun again deep i wr => HeadT w7 Q qn qc sg xs a M (argsL sg xs a) again deep i wr) (fun _ _ i _ => qn - (intOf i).toNat)
   case atStart => exact HH.out
   case round =>
    obtain ⟨k, q, pp, zs, d, Z, zn, zc, rfl, rfl, rfl, hl, oz, oq, hne, bw⟩ := hrel
    clear HH
    obtain ⟨hkq, hzl, hd0, hd1⟩ := loop_len hl
    rw [← HQ.out] at hkq
    rw [HX.out] at hzl hd1
    rw [← Own.len oz] at hzl
    by_cases hk : k < qn
    ·obtain ⟨q', rfl⟩ : ∃ q', q = q' + 1 := ⟨q - 1, by omega⟩
     obtain ⟨hpp, hg, jj, hl'⟩ := hl.step HOK.out
     rw [HX.out] at hpp
     have T1 := (T.next bw).drew
     replace bw := bw.drew
     replace oz := Own.drew oz
     replace oq := Own.drew oq
     have cV : wr.drew.cell? ⟨v, 0, none⟩ = some (.slice S sn sc) := T1.r.cell 0
     obtain ⟨bq, offq, z, hQe, hbq, hz, ez⟩ := (Own.seg oq).spot hk
     rw [ez.out] at hg
     subst hg
     have hthere : thereB sg xs (pp : Int) = true := there_yes HOK.out (by omega) (by rw [HX.out]; omega)
     have HSU := hid (show subI sg xs (pp : Int) = subL sg xs pp by unfold subI; rw [if_pos hthere]; rfl)
     obtain ⟨D, hD⟩ : ∃ D, depthI sg (subL sg xs pp) = D := ⟨_, rfl⟩
     rw [hD] at hl'
     have HDP := hid hD
     have hy1 : 1 ≤ (subL sg xs pp).length := (sub_term HOK.out (by rw [HX.out]; exact hpp)).2.2.2
     have hy2 : (subL sg xs pp).length ≤ 60 := by
      have h9 : (subL sg xs pp).length ≤ xs.length := by
       unfold subL
       rw [List.length_take, List.length_drop]
       omega
      have h8 := (termOk_parts HOK.out).2.1
      omega
     obtain ⟨ys, hys⟩ : ∃ ys, subL sg xs pp = ys := ⟨_, rfl⟩
     rw [hys] at hl' HSU HDP hy1 hy2
     have HL' := hid hl'
     have i0 : (0 : Int) ≤ (k : Int) := by omega
     have i1 : (k : Int) < (qn : Int) := by omega
     have hk3 : k ≤ 1048576 := by
      have := argsL_len (t := xs) (sig_arities (termOk_parts HOK.out).1).1 a
      rw [← HQ.out] at this
      omega
     clear hthere hl hl' hD hys ez hkq
     have hQ := hQe
     subst hQ
     go_wp2_with fail
     go_region_held3 (fun w' => w'.cell? ⟨v, 0, none⟩ = some (.slice S sn sc) ∧ w'.cell? ⟨bq, offq + k, none⟩ = some (.int .i64 (pp : Int)))
      (go_keep)
      (first
       | (go_at_call 49; refine (implSubAt S (some ⟨b, off, none⟩) sn sc on oc sg xs (pp : Int) _ T1.s T1.t (by omega) (by omega) (by omega) (by omega) hc1 hc2).mono ?_; rintro e w10 ⟨U, un, uc, rfl, ou, bu⟩; replace cV : w10.cell? ⟨v, 0, none⟩ = some (.slice S sn sc) := (T1.r.next bu).cell 0; replace hz : w10.cell? ⟨bq, offq + k, none⟩ = some (.int .i64 (pp : Int)) := (bu.cell (p := ⟨bq, offq + k, none⟩) hbq).trans hz))
     replace T1 := T1.next bu
     have hsz := bw.size
     replace bw := bw.trans (bu.mono hsz)
     have hlt := drawSig.Own.blk_lt oz
     replace oz := Own.next oz bu
     replace oq := Own.next oq bu
     rw [HSU.out] at ou
     obtain ⟨un', hun'⟩ : ∃ un', ys.length = un' := ⟨_, rfl⟩
     have hul := (Own.len ou).trans hun'
     subst hul
     have HUN := hid hun'
     rw [hun'] at hy1 hy2
     clear hun'
     have hneU := blk_ne ou hlt
     clear hlt cV hz
     go_wp2_with (at_builtin; refine appAllAt rfl _ _ rfl w7.heap.size Z zn zc zs rfl oz U _ uc w10.heap.size ys rfl (Own.seg ou) (by omega) (by omega) (by omega) bw.size ?_; intro Z' zc' w11 oz' gz hat; have b11 : Below w7.heap.size w7 w11 := bw.grown gz bw.size (fun k hk => Own.ge oz k hk); have T2 := T.next b11; have cV : w11.cell? ⟨v, 0, none⟩ = some (.slice S sn sc) := T2.r.cell 0)
     have ou2 := appAt.Own.kept ou gz hneU
     have hneQ : blk (some ⟨bq, offq, none⟩) = none ∨ blk (some ⟨bq, offq, none⟩) ≠ blk Z' := by
      rcases hat with e | e
      ·rw [e]; exact hne
      ·refine .inr (fun e2 => ?_)
       exact absurd (drawSig.Own.blk_lt oq _ (e2.trans e)) (Nat.lt_irrefl _)
     have oq2 := appAt.Own.kept oq gz hne
     clear ou oq oz gz hat hneU hne bw
     refine (implDepthOf S U sn sc un uc sg ys _ T2.s (Own.seg ou2) (by omega) (by omega)).mono ?_
     rintro e w12 ⟨he, b12⟩
     rw [HDP.out] at he
     subst he
     have S0 : HeadT w7 (some ⟨bq, offq, none⟩) qn qc sg xs a M (argsL sg xs a) (.slice Z' (zn + un) zc') (.int .i64 (max d D)) (.int .i64 ((k : Int) + 1)) w12 :=
      ⟨k + 1, q', pp + jj, _, _, Z', _, zc', rfl, rfl, by simp, HL'.out, Own.next oz' b12, Own.next oq2 b12, hneQ, next_trans b11 b12⟩
     by_cases hd : d < D
     ·rw [show max d D = D by omega] at S0
      have HSS := hid S0
      clear S0 oz' oq2 ou2 b12 b11 T2 cV hneQ
      go_wp2
      go_roundw
      case rel => exact HSS.out
      case measure => simp [intOf]; omega
     ·rw [show max d D = d by omega] at S0
      have HSS := hid S0
      clear S0 oz' oq2 ou2 b12 b11 T2 cV hneQ
      go_wp2
      go_roundw
      case rel => exact HSS.out
      case measure => simp [intOf]; omega
    ·have hq0 : q = 0 := by omega
     subst hq0
     obtain ⟨rfl, rfl⟩ := hl.done
     have T1 := T.next bw
     have cV : wr.cell? ⟨v, 0, none⟩ = some (.slice S sn sc) := T1.r.cell 0
     have i1 : ¬ (k : Int) < (qn : Int) := by omega
     clear hl hkq hne oq hk
     go_wp2_with fail
     refine (implSubAt S (some ⟨b, off, none⟩) sn sc on oc sg xs (a : Int) _ T1.s T1.t (by omega) (by omega) (by omega) (by omega) hc1 hc2).mono ?_
     rintro e w10 ⟨U, un, uc, rfl, ou, bu⟩
     rw [HS.out] at ou
     have hul := Own.len ou
     have HUL := hid hul
     have htm := (sub_term HOK.out (show a < xs.length by rw [HX.out]; exact ha)).1
     have hun : un ≤ 60 := by
      rw [hul]
      exact (termOk_parts htm).2.1
     have HT := hid htm
     clear htm hul
     replace T1 := T1.next bu
     replace oz := Own.next oz bu
     replace cV : w10.cell? ⟨v, 0, none⟩ = some (.slice S sn sc) := T1.r.cell 0
     clear bu bw
     go_wp2_with fail
     refine (implSame Z U zn un zc uc (subL sg xs a) (subL sg xs a) _ (Own.seg oz) (Own.seg ou) (by omega) (by omega)).mono ?_
     rintro e w11 ⟨he, d1, rfl⟩
     rw [decide_eq_true rfl] at he
     subst he
     replace T1 := T1.drewN d1
     replace ou := Own.drewN ou d1
     clear oz cV
     generalize w10.drewN d1 = w11 at *
     have cV : w11.cell? ⟨v, 0, none⟩ = some (.slice S sn sc) := T1.r.cell 0
     go_wp2_with fail
     refine (implEndOf S (some ⟨b, off, none⟩) sn sc on oc sg xs (a : Int) _ T1.s T1.t (by omega) (by omega) (by omega) (by omega)).mono ?_
     rintro e w12 ⟨he, bb⟩
     rw [HE.out, ← HUL.out] at he
     subst he
     replace T1 := T1.next bb
     replace ou := Own.next ou bb
     clear bb
     replace cV : w12.cell? ⟨v, 0, none⟩ = some (.slice S sn sc) := T1.r.cell 0
     go_wp2_with fail
     refine (implDepthOf S U sn sc un uc sg (subL sg xs a) _ T1.s (Own.seg ou) (by omega) (by omega)).mono ?_
     rintro e w13 ⟨he, bb⟩
     rw [HD.out] at he
     subst he
     replace T1 := T1.next bb
     replace ou := Own.next ou bb
     clear bb
     replace cV : w13.cell? ⟨v, 0, none⟩ = some (.slice S sn sc) := T1.r.cell 0
     go_wp2_with fail
     refine (implTermOk S U sn sc un uc sg (subL sg xs a) _ T1.s (Own.seg ou) (by omega) (by omega)).mono ?_
     rintro e w14 ⟨he, bb⟩
     rw [HT.out] at he
     subst he
     replace T1 := T1.next bb
     have TB := hid T1.bel
     clear bb T1 ou cV
     go_wp2
     go_ret
     exact ⟨rfl, TB.out⟩
 ·have LB := hid (wFnLess.bigAns A n c true w (by simp; omega) hN)
  clear h
  go_enter Try.func9, Try.ntmps9
  go_wp2_with fail
  refine LB.out.mono ?_
  rintro e w' ⟨rfl, rfl⟩
  clear LB
  go_wp2
  go_ret
  exact ⟨rfl, Below.refl _ _⟩
end wFnTerms
end
end Go.Proofs.Ytfdejhhnochomaa
