/-
  MERGED: my texts Filled, TabR, Bind, UnifSpec, Inside, Unified, UnifImpl, Vars, VarsOf, CountL, Linear, Shelf, Sorted, VarsSort, VarsImpl, Max, one behind the other, as they are. By an AI agent.
-/
import Derived.Test.YtobedfmagjgdcaaMFnExactMetOf3
import Derived.Deep.AppendLies
import Derived.Deep.RegionHeld3
import Derived.Deep.LoopGhost
import Derived.Deep.QuietTactic
import Derived.BigQuiet
import Derived.Defers
import Derived.Recover
import Derived.Shelf.SlGeneric
import Derived.Ground.SlgnProg
import Derived.Shelf.SortG.Plain
import Derived.Shelf.SortG.SortNone
import Derived.Shelf.SlicesG.CompactI
import Derived.Test.YtobedfmagjgdcaaProg
namespace Go.Proofs.Ytobedfmagjgdcaa
section
open Go.Lib (hid)
namespace filled
open Go.RowKit base ints sig cursor term termOk marks app appAt sym sub segs segsHelp termFacts varsMath varsOf fillMath Go.Proofs.Ytobedfmagjgdcaa.look shifted substOk gives
set_option maxRecDepth 100000
theorem stepAppAll {w : World} {ops : Array Oper} {o : Oper} {a : Act} {K : Act → World → Prop} {Q : Exit → Act → World → Prop} {E : Prop} (hgd : o.guard = none) (s x : Operand)
  (ho : o.op = .call { callee := .builtin .append, args := #[s, x], argTypes := #[22, 22] })
  (base : Nat) (A : Option Addr) (n c : Nat) (xs : List Int) (hs : a.eval s = .slice A n c) (hown : Own w base (.slice A n c) xs)
  (S : Option Addr) (m c2 B : Nat) (ys : List Int) (hx : a.eval x = .slice S m c2) (hseg : Seg w B S m ys) (hm1 : 1 ≤ m) (hn : n ≤ 2097152) (hm : m ≤ 2097152) (hbase : base ≤ w.heap.size)
  (h : ∀ g' c' w', Own w' base (.slice (some ⟨g', 0, none⟩) (n + m) c') (xs ++ ys) → w.grownBy w' (blk A) → (blk A = some g' ∨ g' = w.heap.size) → g' < w'.heap.size → K (a.put o.dst (.slice (some ⟨g', 0, none⟩) (n + m) c')) w') :
  if Region.wanted o (yielded ops a.tmps) = true then Oper.wp Try.prog o a w K Q else E := by
 obtain ⟨i0, hi, hz0, hz1, hz2⟩ := info_parts info_i64
 have hl : xs.length = n := by
  obtain ⟨A', c', e⟩ := hown.slice
  exact (Value.slice.inj e).2.1.symm
 have hob : (Value.slice A n c).ownBlock = blk A := by cases A <;> rfl
 obtain ⟨b, off, e, _, hc⟩ := hseg.2 (by omega)
 subst e
 refine step_append_lies w hgd s x 22 ho base 2 i0 (.int .i64 0) 1 8 Try.underlying22 hi hz0 hz1 hz2 rfl (by decide) (.slice A n c) n (xs.map (Value.int .i64)) hs (by rw [← hl]; rw [← hl] at hown; exact hown)
  ⟨b, off, none⟩ m c2 (ys.map (Value.int .i64)) hx (by simp [hseg.1]) (fun j u hj => ?_) (fun u hu => ?_) (by omega) (by unfold maxLen; omega) (by omega) hbase w.heap.size rfl ?_
 ·have hjl : j < m := by
   have := (List.getElem?_eq_some_iff.1 hj).1
   simp at this
   have := hseg.1
   omega
  have hcj := hc j hjl
  have e2 : (⟨b, off, none⟩ : Addr).add j = ⟨b, off + j, none⟩ := by unfold Addr.add; split <;> simp_all
  rw [e2, hcj, ← hj]
  have := hseg.1
  simp [List.getD, show j < ys.length by omega]
 ·obtain ⟨y, _, rfl⟩ := List.mem_map.1 hu
  rfl
 ·intro g' c' w' hown' hg hat hlt
  rw [← List.map_append] at hown'
  rw [hob] at hg hat
  refine h g' c' w' ?_ hg hat hlt
  have hl2 : (xs ++ ys).length = n + m := by simp [hl, hseg.1]
  unfold Own
  rw [hl2]
  exact hown'
def fitsB (ss : List (List Int)) (t : List Int) : Bool := decide ((fillL (givesL ss) t).length ≤ 60)
def fitL (ss : List (List Int)) (t : List Int) : List Int := if fitsB ss t = true then fillL (givesL ss) t else []
theorem fits_no {ss : List (List Int)} {t : List Int} {k : Nat} (h : 60 < (fillL (givesL ss) (t.take k)).length) : fitsB ss t = false := by
 have e : fillL (givesL ss) t = fillL (givesL ss) (t.take k) ++ fillL (givesL ss) (t.drop k) := by rw [← fill_append, List.take_append_drop]
 unfold fitsB
 rw [e, List.length_append]
 simp
 omega
def HeadF (w : World) (S : Option Addr) (m c mt : Nat) (ss : List (List Int)) (t : List Int) (out i : Value) (wr : World) : Prop :=
 ∃ (k : Nat) (O : Option Addr) (on oc : Nat), k ≤ mt ∧ i = .int .i64 k ∧ out = .slice O on oc ∧ on ≤ 60 ∧ Own wr (w.heap.size + 1) (.slice O on oc) (fillL (givesL ss) (t.take k)) ∧ Row wr w.heap.size 39 #[.slice S m c] ∧ Below w.heap.size w wr
theorem pairF_no {w wr : World} {ss : List (List Int)} {t : List Int} (h : fitsB ss t = false) (hb : Below w.heap.size w wr) : AnsPairO w (fitL ss t) (fitsB ss t) (.returned (.tuple #[.slice (some ⟨wr.heap.size, 0, none⟩) 0 0, .bool false])) (wr.alloc (.cells #[] 2)) :=
 ⟨_, 0, 0, by rw [h], by unfold fitL; rw [if_neg (by rw [h]; simp)]; exact own_empty wr w.heap.size hb.size, hb.alloc hb.size _⟩
set_option maxHeartbeats 8000000 in
theorem l2Filled (S A : Option Addr) (m c mt ct : Nat) (ss : List (List Int)) (t : List Int) (w : World) (h : Segs w w.heap.size S m ss) (h' : Seg w w.heap.size A mt t) (ht : tot ss ≤ 1048576) (hmt : mt ≤ 60) (hv : ∀ x ∈ t, -24 ≤ x) (hM : ∀ i, (givesL ss i).length ≤ 60) :
  Calls Try.prog 67 #[.agg #[.slice S m c], .slice A mt ct] w (AnsPairO w (fitL ss t) (fitsB ss t)) := by
 have HL := hid h'.1
 have HV := hid hv
 have HM := hid hM
 have HT := hid ht
 have S0 : HeadF w S m c mt ss t (.slice (some ⟨w.heap.size + 1, 0, none⟩) 0 0) (.int .i64 0) ((w.alloc (.cells #[.slice S m c] 39)).alloc (.cells #[] 2)) :=
  ⟨0, _, _, _, Nat.zero_le _, rfl, rfl, by omega, by have := own_empty (w.alloc (.cells #[.slice S m c] 39)) (w.heap.size + 1) (by simp); simpa [fillL] using this, (Row.new _ _ _).alloc _, ((Below.refl _ _).alloc (Nat.le_refl _) _).alloc (by simp) _⟩
 have HS0 := hid S0
 clear S0 hv hM ht
 go_enter Try.func67, Try.ntmps67
 go_wp2_with fail
 go_loopw [6, 7] (fun out i wr => HeadF w S m c mt ss t out i wr) (fun _ i _ => mt - (intOf i).toNat)
 case atStart => exact HS0.out
 case round =>
  obtain ⟨k, O, on, oc, hk, rfl, rfl, hon, ho, hr, hb⟩ := hrel
  clear HS0
  have hsz := hr.lt
  by_cases hlt : k < mt
  ·obtain ⟨b, off, x, rfl, hbb, hx, ex⟩ := h'.spot hlt
   have hx1 : wr.cell? ⟨b, off + k, none⟩ = some (.int .i64 x) := (hb.cell (p := ⟨b, off + k, none⟩) hbb).trans hx
   have hbr : b < wr.heap.size := Nat.lt_of_lt_of_le hbb hb.size
   have cS : wr.cell? ⟨w.heap.size, 0, none⟩ = some (.slice S m c) := hr.cell 0
   have hmem : x ∈ t := by
    have hkl : k < t.length := by rw [HL.out]; exact hlt
    have := ex.out
    rw [← this]
    simp [List.getD, hkl]
   have hx24 : -24 ≤ x := HV.out x hmem
   have E := hid (fill_take (L := givesL ss) (t := t) (k := k) (by rw [HL.out]; exact hlt) ex.out)
   have i0 : (0 : Int) ≤ (k : Int) := by omega
   have i1 : (k : Int) < (mt : Int) := by omega
   have HN := hid (Own.len ho)
   have hx0 := hx
   clear hmem hx h' ex
   by_cases hpos : 0 ≤ x
   ·have R := hid (rep_sym (L := givesL ss) hpos)
    have d1 : decide (x < 0) = false := by simp; omega
    by_cases h60 : on + 1 ≤ 60
    ·go_wp2_with (at_builtin; refine app1 rfl _ _ rfl (w.heap.size + 1) O on oc (fillL (givesL ss) (t.take k)) rfl (Own.alloc ho _) wr.heap.size 1 x rfl ((Row.new _ _ _).cell 0) (by omega) (by simp; omega) ?_; intro O' oc' w2 ho2 b2)
     have S1 : HeadF w S m c mt ss t (.slice O' (on + 1) oc') (.int .i64 ((k : Int) + 1)) w2 := ⟨k + 1, O', on + 1, oc', hlt, by simp, rfl, h60, by rw [E.out, R.out]; exact ho2, (hr.alloc _).below b2 (Nat.lt_succ_self _), (hb.alloc (Nat.le_of_lt hsz) _).trans (b2.mono (Nat.le_succ _))⟩
     have HS1 := hid S1
     clear S1 ho2 b2 ho hr hb R E cS
     go_wp2
     go_roundw
     case rel => exact HS1.out
     case measure => simp [intOf]; omega
    ·have NO := hid (fits_no (ss := ss) (t := t) (k := k + 1) (by rw [E.out, R.out, List.length_append, ← HN.out]; simp; omega))
     go_wp2_with (at_builtin; refine app1 rfl _ _ rfl (w.heap.size + 1) O on oc (fillL (givesL ss) (t.take k)) rfl (Own.alloc ho _) wr.heap.size 1 x rfl ((Row.new _ _ _).cell 0) (by omega) (by simp; omega) ?_; intro O' oc' w2 ho2 b2)
     have F := hid (pairF_no NO.out ((hb.alloc (Nat.le_of_lt hsz) _).trans (b2.mono (Nat.le_succ _))))
     clear ho2 b2 ho hr hb R E cS
     go_wp2
     go_ret2
     exact F.out
   ·have hneg : x < 0 := by omega
    have R := hid (rep_var (L := givesL ss) hneg)
    obtain ⟨i, hi⟩ : ∃ i : Nat, (-1 - x).toNat = i := ⟨_, rfl⟩
    rw [hi] at R
    have hix : (i : Int) = -1 - x := by omega
    have LG := hid (l2Gives S m c ss i wr.drew (((h.below hb).more hb.size).drew) HT.out (by omega))
    rw [hix] at LG
    have hlen : (givesL ss i).length ≤ 60 := HM.out i
    have hlen1 : 1 ≤ (givesL ss i).length := gives_pos ss i
    obtain ⟨q, hq⟩ : ∃ q, (givesL ss i).length = q := ⟨_, rfl⟩
    rw [hq] at hlen hlen1
    have HQ := hid hq
    have hw1 : IntKind.i64.wrap (-1 - x) = -1 - x := by rw [IntKind.wrap_i64]; omega
    have hod := Own.drew ho
    have hrd := hr.drew
    have hbd := hb.drew
    clear hix hi hq h
    go_wp2_with fail
    go_region_held3 (fun w' => w'.cell? ⟨w.heap.size, 0, none⟩ = some (.slice S m c) ∧ w'.cell? ⟨b, off + k, none⟩ = some (.int .i64 x))
     (go_keep)
     (first
      | (go_at_call 73; refine LG.out.mono ?_; rintro e w1 ⟨D, dn, dc, rfl, od, bb⟩; obtain rfl : dn = q := (by rw [Own.len od]; exact HQ.out); have ho1 := Own.next hod bb; have hr1 := hrd.next bb; have hb1 := next_trans hbd bb; have cS1 : w1.cell? ⟨w.heap.size, 0, none⟩ = some (.slice S m c) := hr1.cell 0; have cX1 : w1.cell? ⟨b, off + k, none⟩ = some (.int .i64 x) := (bb.cell (p := ⟨b, off + k, none⟩) hbr).trans hx1)
      | (refine stepAppAll rfl _ _ rfl (w.heap.size + 1) O on oc (fillL (givesL ss) (t.take k)) (by rfl) ho1 D _ dc w1.heap.size (givesL ss i) (by rfl) (Own.seg od) (by omega) (by omega) (by omega) (by have := hr1.lt; omega) ?_; intro O' oc' w2 ho2 hg2 hat2 hlt2; have hr2 := Row.away hr1 hg2 (fun e => by have := (World.ownsRow.lt ho1 w.heap.size (by rw [blk_own]; exact e)).1; omega); have hb2 : Below w.heap.size w w2 := hb1.grown hg2 hb1.size (fun z hz => by have := (World.ownsRow.lt ho1 z (by rw [blk_own]; exact hz)).1; omega); have cS2 : w2.cell? ⟨w.heap.size, 0, none⟩ = some (.slice S m c) := hr2.cell 0; have cX2 : w2.cell? ⟨b, off + k, none⟩ = some (.int .i64 x) := (hb2.cell (p := ⟨b, off + k, none⟩) hbb).trans hx0))
    have hsum : (fillL (givesL ss) (t.take k) ++ givesL ss i).length = on + dn := by rw [List.length_append, ← HN.out, HQ.out]
    clear cS1 cX1 ho1 hr1 hb1 od bb hod hrd hbd LG ho hr hb cS hx1 hg2 hat2 HM HV
    by_cases h60 : on + dn ≤ 60
    ·have S1 : HeadF w S m c mt ss t (.slice (some ⟨O', 0, none⟩) (on + dn) oc') (.int .i64 ((k : Int) + 1)) w2 := ⟨k + 1, _, on + dn, oc', hlt, by simp, rfl, h60, by rw [E.out, R.out]; exact ho2, hr2, hb2⟩
     have HS1 := hid S1
     clear S1 ho2 hr2 hb2 R E HQ hsum
     go_wp2
     go_roundw
     case rel => exact HS1.out
     case measure => simp [intOf]; omega
    ·have NO := hid (fits_no (ss := ss) (t := t) (k := k + 1) (by rw [E.out, R.out, hsum]; omega))
     have F := hid (pairF_no NO.out hb2)
     clear ho2 hr2 hb2 R E HQ hsum
     go_wp2
     go_ret2
     exact F.out
  ·have F : AnsPairO w (fitL ss t) (fitsB ss t) (.returned (.tuple #[.slice O on oc, .bool true])) wr := by
    rw [List.take_of_length_le (by rw [HL.out]; omega)] at ho
    have hB : fitsB ss t = true := by unfold fitsB; rw [← Own.len ho]; simp; omega
    exact ⟨O, on, oc, by rw [hB], by unfold fitL; rw [if_pos hB]; exact Own.lower ho (Nat.le_succ _), hb⟩
   have HF := hid F
   clear F ho hr hb h h'
   go_wp2
   go_ret2
   exact HF.out
def filledB (sg : List Int) (ss : List (List Int)) (t : List Int) : Bool := substOkB sg ss && (termOkB sg t && fitsB ss t)
def filledL (sg : List Int) (ss : List (List Int)) (t : List Int) : List Int := if filledB sg ss t = true then fillL (givesL ss) t else []
theorem filled_s {sg : List Int} {ss : List (List Int)} {t : List Int} (h : substOkB sg ss = false) : filledB sg ss t = false := by unfold filledB; rw [h, Bool.false_and]
theorem filled_t {sg : List Int} {ss : List (List Int)} {t : List Int} (h : termOkB sg t = false) : filledB sg ss t = false := by unfold filledB; rw [h, Bool.false_and, Bool.and_false]
theorem filled_b {sg : List Int} {ss : List (List Int)} {t : List Int} (h : substOkB sg ss = true) (h' : termOkB sg t = true) : filledB sg ss t = fitsB ss t := by unfold filledB; rw [h, h', Bool.true_and, Bool.true_and]
theorem filled_len (sg : List Int) (ss : List (List Int)) (t : List Int) : (filledL sg ss t).length ≤ 60 := by
 unfold filledL filledB fitsB
 split
 ·rename_i h
  simp only [Bool.and_eq_true, decide_eq_true_eq] at h
  exact h.2.2
 ·simp
theorem pairOF_no {w w' : World} {sg : List Int} {ss : List (List Int)} {t : List Int} (h : filledB sg ss t = false) (hb : Below w.heap.size w w') : AnsPairO w (filledL sg ss t) (filledB sg ss t) (.returned (.tuple #[.slice none 0 0, .bool false])) w' :=
 ⟨none, 0, 0, by rw [h], by unfold filledL; rw [if_neg (by rw [h]; simp)]; exact Own.nil _ _, hb⟩
set_option maxHeartbeats 4000000 in
theorem implFilled (A S A' : Option Addr) (n c m c' q cq : Nat) (sg : List Int) (ss : List (List Int)) (t : List Int) (w : World) (h : Seg w w.heap.size A n sg) (h' : Segs w w.heap.size S m ss) (h2 : Seg w w.heap.size A' q t) (hn : n ≤ 1048576) (ht : tot ss ≤ 1048576) (hq : q ≤ 1048576) :
  Calls Try.prog 40 #[.agg #[.slice A n c], .agg #[.slice S m c'], .slice A' q cq] w (AnsPairO w (filledL sg ss t) (filledB sg ss t)) := by
 obtain ⟨W, hW, rA, rS, bel⟩ := boxes2 w A n c S m c'
 have HW := hid hW
 have HL := hid h2.1
 have hm : m ≤ 1048576 := tot_len h'.1 ht
 have s := h.next bel
 have s1 := h'.next bel
 have s2 := h2.next bel
 have L := hid (implSubstOk A S n c m c' sg ss W s s1 hn ht)
 clear hW h h' h2
 cases hok : substOkB sg ss with
 | false =>
  have HS := hid hok
  clear hok s s1 s2
  go_enter Try.func40, Try.ntmps40
  go_wp2_with fail
  rw [← HW.out]
  refine L.out.mono ?_
  rintro e w1 ⟨he, bb⟩
  rw [HS.out] at he
  subst he
  have F := hid (pairOF_no (filled_s (t := t) HS.out) (next_trans bel bb))
  clear bb bel rA rS
  go_wp2
  go_ret2
  exact F.out
 | true =>
  have HS := hid hok
  clear hok
  go_enter Try.func40, Try.ntmps40
  go_wp2_with fail
  rw [← HW.out]
  refine L.out.mono ?_
  rintro e w1 ⟨he, bb⟩
  rw [HS.out] at he
  subst he
  replace s := s.next bb
  replace s1 := s1.next bb
  replace s2 := s2.next bb
  replace rA := rA.next bb
  replace rS := rS.next bb
  replace bel := next_trans bel bb
  have cA : w1.cell? ⟨w.heap.size, 0, none⟩ = some (.slice A n c) := rA.cell 0
  have L2 := hid (implTermOk A A' n c q cq sg t w1 s s2 hn hq)
  clear bb L
  cases hok2 : termOkB sg t with
  | false =>
   have HS2 := hid hok2
   clear hok2 s s1 s2
   go_wp2_with fail
   refine L2.out.mono ?_
   rintro e w2 ⟨he, bb⟩
   rw [HS2.out] at he
   subst he
   have F := hid (pairOF_no (filled_t (ss := ss) HS2.out) (next_trans bel bb))
   clear bb bel rA rS cA L2
   go_wp2
   go_ret2
   exact F.out
  | true =>
   have HS2 := hid hok2
   have HV := hid (fun x hx => (term_mem (x := x) hok2 hx).1)
   have H60 : q ≤ 60 := by rw [← HL.out]; exact (term_len hok2).2
   have HG := hid (gives_len HS.out)
   clear hok2
   go_wp2_with fail
   refine L2.out.mono ?_
   rintro e w2 ⟨he, bb⟩
   rw [HS2.out] at he
   subst he
   replace s1 := s1.next bb
   replace s2 := s2.next bb
   replace bel := next_trans bel bb
   have cS : w2.cell? ⟨w.heap.size + 1, 0, none⟩ = some (.slice S m c') := (rS.next bb).cell 0
   clear bb L2 cA rA rS
   go_wp2_with fail
   refine (lookupIn S m c' w2).mono ?_
   rintro e w3 ⟨rfl, hw3⟩
   have b3 : Below w2.heap.size w2 w3 := by rw [hw3]; exact (Below.refl _ _).alloc (Nat.le_refl _) _
   have r3 : Row w3 w2.heap.size 39 #[.slice S m c'] := by rw [hw3]; exact Row.new _ _ _
   replace s1 := s1.next b3
   replace s2 := s2.next b3
   replace bel := next_trans bel b3
   have L3 := hid (fill 111 #[.pointer (some ⟨w2.heap.size, 0, none⟩)] (enters_of Try.func111 (by kernel_rfl) rfl) A' q cq t _ w3 (lookSubst w2.heap.size S m c' ss w3 r3 s1 hm) s2 H60 HV.out (fun i => Nat.le_trans (HG.out i) (by omega)))
   clear hw3 b3 r3 s1 s2 cS
   go_wp2_with fail
   refine L3.out.mono ?_
   rintro e w4 ⟨O, on, oc, rfl, ho, bb⟩
   have hsize := bel.size
   replace bel := next_trans bel bb
   have ho2 := Own.lower ho hsize
   have hlen := Own.len ho
   have hon : on ≤ 245760 := by rw [hlen]; have := fill_bound (L := givesL ss) (t := t) (k := t.length) (fun i => Nat.le_trans (HG.out i) (by omega)) HL.out H60; rwa [List.take_length] at this
   have F : ∀ z : Bool, z = decide (60 < on) → AnsPairO w (filledL sg ss t) (filledB sg ss t) (.returned (.tuple #[.slice (if z then none else O) (if z then 0 else on) (if z then 0 else oc), .bool !z])) w4 := fun z hz => by
    by_cases h60 : 60 < on
    ·rw [decide_eq_true h60] at hz
     subst hz
     exact pairOF_no (by rw [filled_b HS.out HS2.out]; unfold fitsB; rw [← hlen]; simp; omega) bel
    ·rw [decide_eq_false h60] at hz
     subst hz
     have hb : filledB sg ss t = true := by rw [filled_b HS.out HS2.out]; unfold fitsB; rw [← hlen]; simp; omega
     exact ⟨O, on, oc, by rw [hb]; rfl, by unfold filledL; rw [if_pos hb]; exact ho2, bel⟩
   have HF := hid F
   clear F ho ho2 bb bel L3 hlen
   go_wp2_with fail
   refine (tooLong O on oc w4 (by omega)).mono ?_
   rintro e w5 ⟨rfl, rfl⟩
   obtain ⟨z, hz⟩ : ∃ z, decide (60 < on) = z := ⟨_, rfl⟩
   have G := hid (HF.out z hz.symm)
   rw [hz]
   clear HF hz
   cases z
   ·go_wp2
    go_ret2
    exact G.out
   ·go_wp2
    go_ret2
    exact G.out
end filled
end
section
namespace whole
open Go.RowKit base segs matchMath
set_option maxRecDepth 100000
def z24 : Array Value := Array.replicate 24 (.slice none 0 0)
theorem z24_size : z24.size = 24 := by simp [z24]
section
variable {w w' : World} {B B' g : Nat} {cs : Array Value} {s : List (List Int)} {t : TypeId}
def TabR (w : World) (B : Nat) (cs : Array Value) (s : List (List Int)) : Prop :=
 cs.size = 24 ∧ s.length = 24 ∧ ∀ j, j < 24 → ∃ A n c, cs[j]? = some (.slice A n c) ∧ Seg w B A n (s.getD j []) ∧ Cap A n c
theorem TabR.new (w : World) (B : Nat) : TabR w B z24 s0 :=
 ⟨z24_size, rfl, fun j hj => ⟨none, 0, 0, by simp [z24, hj], by rw [s0_get]; exact Seg.empty, ⟨Nat.le_refl _, by omega, fun _ => rfl⟩⟩⟩
theorem TabR.put (h : TabR w B cs s) {j : Nat} (hj : j < 24) {A : Option Addr} {n c : Nat} {ys : List Int} (hs : Seg w B A n ys) (hc : Cap A n c) : TabR w B (cs.setIfInBounds j (.slice A n c)) (s.set j ys) := by
 refine ⟨by rw [Array.size_setIfInBounds]; exact h.1, by rw [List.length_set]; exact h.2.1, fun i hi => ?_⟩
 by_cases e : j = i
 ·subst e
  exact ⟨A, n, c, by rw [Array.getElem?_setIfInBounds_self_of_lt (by rw [h.1]; exact hj)], by rw [set_get, if_pos ⟨rfl, by rw [h.2.1]; exact hj⟩]; exact hs, hc⟩
 ·obtain ⟨A', n', c', e', hs', hc'⟩ := h.2.2 i hi
  exact ⟨A', n', c', by rw [Array.getElem?_setIfInBounds_ne e]; exact e', by rw [set_get, if_neg (fun hh => e hh.1)]; exact hs', hc'⟩
theorem TabR.made (w : World) (B : Nat) : TabR w B (madeCells #[.slice none 0 0] 24) s0 :=
 ⟨size_madeCells _ _, rfl, fun j hj => ⟨none, 0, 0, by simp [madeCells, hj, Nat.mod_one], by rw [s0_get]; exact Seg.empty, ⟨Nat.le_refl _, by omega, fun _ => rfl⟩⟩⟩
end
end whole
end
section
open Go.Lib (hid)
open List (setIfInBounds_toArray set_cons_zero set_cons_succ getElem_toArray getElem_cons_zero getElem_cons_succ)
namespace bind
open Go.RowKit base ints sig cursor marks app appAt sym segs segsHelp kinds termFacts fillMath substOk gives shifted filled plainMath plain plainOf compMath matchMath unifMath whole
set_option maxRecDepth 100000
def us1 (i : Nat) (t : List Int) : List (List Int) := s0.set i t
theorem us1_gives {i : Nat} {t : List Int} (hi : i < 24) (ht : 1 ≤ t.length) (k : Nat) : givesL (us1 i t) k = ones i t k := by
 unfold ones
 by_cases e : k = i
 ·subst e
  rw [if_pos rfl]
  have : (us1 k t).getD k [] = t := by unfold us1; rw [set_get, if_pos ⟨rfl, by simpa [s0] using hi⟩]
  rw [gives_term (by rw [this]; omega), this]
 ·rw [if_neg e]
  refine gives_var ?_
  unfold us1
  rw [set_get, if_neg (fun h => e h.1.symm), s0_get]
  rfl
def AnsBind (w : World) (us ss : List (List Int)) (e : Ending) (w' : World) : Prop :=
 Below w.heap.size w w' ∧ ((∃ A c, e = .returned (.tuple #[.agg #[.slice A 24 c], .bool true]) ∧ Owns w' w.heap.size w'.heap.size A 24 c (outL us ss 24) ∧ ∀ i, i < 24 → (compL us ss i).length ≤ 60) ∨
  (e = .returned (.tuple #[.agg #[.slice none 0 0], .bool false]) ∧ ∃ i, i < 24 ∧ 60 < (compL us ss i).length))
def HeadB (W3 : World) (o : Nat) (us ss : List (List Int)) (i : Value) (wr : World) : Prop :=
 ∃ (k : Nat) (A : Option Addr) (cA : Nat), k ≤ 24 ∧ i = .int .i64 k ∧ (∀ j, j < k → (compL us ss j).length ≤ 60) ∧ Owns wr (o + 1) wr.heap.size A k cA (outL us ss k) ∧ Row wr o 39 #[.slice A k cA] ∧ Below o W3 wr
set_option maxHeartbeats 8000000 in
theorem l5Bind (S X : Option Addr) (m c xn xc i : Nat) (ss : List (List Int)) (t : List Int) (w : World) (h : Segs w w.heap.size S m ss) (h' : Seg w w.heap.size X xn t) (hcap : Cap X xn xc) (ht : tot ss ≤ 1048576) (hi : i < 24) (h1 : 1 ≤ t.length) (h60 : t.length ≤ 60)
  (hg : ∀ k, (givesL ss k).length ≤ 60) (hv : ∀ k x, x ∈ givesL ss k → k < 24 → -24 ≤ x) :
  Calls Try.prog 91 #[.agg #[.slice S m c], .int .i64 (i : Int), .slice X xn xc] w (AnsBind w (us1 i t) ss) := by
 obtain ⟨us, hus⟩ : ∃ us, us1 i t = us := ⟨_, rfl⟩
 have hmk : ∀ W : World, (Instr.makeSlice 25 (.int .i64 24) (.int .i64 24)).run Try.prog W = .ok (.slice (some ⟨W.heap.size, 0, none⟩) 24 24) (W.alloc (.cells (madeCells #[.slice none 0 0] 24) 22)) := fun W => run_make_lists 24 (by omega) W
 obtain ⟨W2, hW2⟩ : ∃ W, W = (((w.alloc (.cells #[.slice S m c] 39)).alloc (.cells #[.slice none 0 0] 39)).alloc (.cells (madeCells #[.slice none 0 0] 24) 22)).alloc (.cells #[.slice (some ⟨w.heap.size + 1 + 1, 0, none⟩) 24 24] 39) := ⟨_, rfl⟩
 have qT : Row W2 (w.heap.size + 1 + 1) 22 (madeCells #[.slice none 0 0] 24) := by
  rw [hW2]
  have := (Row.new ((w.alloc (.cells #[.slice S m c] 39)).alloc (.cells #[.slice none 0 0] 39)) 22 (madeCells #[.slice none 0 0] 24)).alloc (.cells #[.slice (some ⟨w.heap.size + 1 + 1, 0, none⟩) 24 24] 39)
  simpa using this
 obtain ⟨W3, hW3⟩ : ∃ W, W = ((((w.alloc (.cells #[.slice S m c] 39)).alloc (.cells #[.slice none 0 0] 39)).alloc (.cells ((madeCells #[.slice none 0 0] 24).setIfInBounds i (.slice X xn xc)) 22)).alloc (.cells #[.slice (some ⟨w.heap.size + 1 + 1, 0, none⟩) 24 24] 39)).alloc (.cells #[.slice none 0 0] 39) := ⟨_, rfl⟩
 have z3 : W3.heap.size = w.heap.size + 1 + 1 + 1 + 1 + 1 := by rw [hW3]; simp
 have b3 : Below w.heap.size w W3 := by rw [hW3]; exact (((((Below.refl _ _).alloc (Nat.le_refl _) _).alloc (by simp) _).alloc (by simp; omega) _).alloc (by simp; omega) _).alloc (by simp; omega) _
 have p0 : Row W3 w.heap.size 39 #[.slice S m c] := by rw [hW3]; exact ((((Row.new w _ _).alloc _).alloc _).alloc _).alloc _
 have p1 : Row W3 (w.heap.size + 1) 39 #[.slice none 0 0] := by
  rw [hW3]
  have := (((Row.new (w.alloc (.cells #[.slice S m c] 39)) 39 #[.slice none 0 0]).alloc (.cells ((madeCells #[.slice none 0 0] 24).setIfInBounds i (.slice X xn xc)) 22)).alloc (.cells #[.slice (some ⟨w.heap.size + 1 + 1, 0, none⟩) 24 24] 39)).alloc (.cells #[.slice none 0 0] 39)
  simpa using this
 have pT : Row W3 (w.heap.size + 1 + 1) 22 ((madeCells #[.slice none 0 0] 24).setIfInBounds i (.slice X xn xc)) := by
  rw [hW3]
  have := ((Row.new ((w.alloc (.cells #[.slice S m c] 39)).alloc (.cells #[.slice none 0 0] 39)) 22 ((madeCells #[.slice none 0 0] 24).setIfInBounds i (.slice X xn xc))).alloc (.cells #[.slice (some ⟨w.heap.size + 1 + 1, 0, none⟩) 24 24] 39)).alloc (.cells #[.slice none 0 0] 39)
  simpa using this
 have p3 : Row W3 (w.heap.size + 1 + 1 + 1) 39 #[.slice (some ⟨w.heap.size + 1 + 1, 0, none⟩) 24 24] := by
  rw [hW3]
  have := (Row.new (((w.alloc (.cells #[.slice S m c] 39)).alloc (.cells #[.slice none 0 0] 39)).alloc (.cells ((madeCells #[.slice none 0 0] 24).setIfInBounds i (.slice X xn xc)) 22)) 39 #[.slice (some ⟨w.heap.size + 1 + 1, 0, none⟩) 24 24]).alloc (.cells #[.slice none 0 0] 39)
  simpa using this
 have po : Row W3 (w.heap.size + 1 + 1 + 1 + 1) 39 #[.slice none 0 0] := by
  rw [hW3]
  have := Row.new ((((w.alloc (.cells #[.slice S m c] 39)).alloc (.cells #[.slice none 0 0] 39)).alloc (.cells ((madeCells #[.slice none 0 0] 24).setIfInBounds i (.slice X xn xc)) 22)).alloc (.cells #[.slice (some ⟨w.heap.size + 1 + 1, 0, none⟩) 24 24] 39)) 39 #[.slice none 0 0]
  simpa using this
 have tabX : TabR W3 w.heap.size ((madeCells #[.slice none 0 0] 24).setIfInBounds i (.slice X xn xc)) us := by
  rw [← hus]
  exact (TabR.made W3 w.heap.size).put hi (h'.below b3) hcap
 have su : Segs W3 (w.heap.size + 1 + 1 + 1 + 1) (some ⟨w.heap.size + 1 + 1, 0, none⟩) 24 us := by
  refine ⟨tabX.2.1, fun _ => ⟨w.heap.size + 1 + 1, 0, rfl, by omega, fun j hj => ?_⟩⟩
  obtain ⟨A', n', c', e, hs, hc⟩ := tabX.2.2 j hj
  exact ⟨A', n', c', by rw [Nat.zero_add, pT.cell j, e], hs.more (by omega), hc⟩
 have ss3 : Segs W3 (w.heap.size + 1 + 1 + 1 + 1) S m ss := (h.below b3).more (by omega)
 have eg : ∀ k, givesL us k = ones i t k := fun k => by rw [← hus]; exact us1_gives hi h1 k
 have hgu : ∀ k, (givesL us k).length ≤ 60 := fun k => by rw [eg]; unfold ones; split; exact h60; simp [vt]
 have hul : ∀ k, 24 ≤ k → givesL us k = vt k := fun k hk => by rw [eg]; unfold ones; rw [if_neg (by omega)]
 have hut : tot us ≤ 1048576 := by
  have e1 : ∀ j, (us.getD j []).length ≤ 60 := fun j => by
   rw [← hus]
   unfold us1
   rw [set_get]
   split
   ·exact h60
   ·rw [s0_get]; simp
  have h1 := tot_le e1
  rw [tabX.2.1] at h1
  omega
 have H0 : HeadB W3 (w.heap.size + 1 + 1 + 1 + 1) us ss (.int .i64 0) W3 := ⟨0, none, 0, Nat.zero_le _, rfl, fun j hj => absurd hj (Nat.not_lt_zero _), by simpa [outL] using Owns.nil _ _ _, po, Below.refl _ _⟩
 have HH := hid H0
 have HW3 := hid hW3
 have HS := hid ss3
 have HU := hid su
 have HP0 := hid p0
 have HP1 := hid p1
 have HP3 := hid p3
 have HB3 := hid b3
 have HGS := hid hg
 have HV := hid hv
 have HGU := hid hgu
 have HUL := hid hul
 have HUT := hid hut
 have HTT := hid ht
 have HUS := hid hus
 have i0 : (0 : Int) ≤ (i : Int) := by omega
 have i1 : (i : Int) < 24 := by omega
 have cT : ((((w.alloc (.cells #[.slice S m c] 39)).alloc (.cells #[.slice none 0 0] 39)).alloc (.cells (madeCells #[.slice none 0 0] 24) 22)).alloc (.cells #[.slice (some ⟨w.heap.size + 1 + 1, 0, none⟩) 24 24] 39)).cell? ⟨w.heap.size + 1 + 1, i, none⟩ = some (.slice none 0 0) := by rw [← hW2, qT.cell i]; simp [madeCells, hi, Nat.mod_one]
 have fT : ((((w.alloc (.cells #[.slice S m c] 39)).alloc (.cells #[.slice none 0 0] 39)).alloc (.cells (madeCells #[.slice none 0 0] 24) 22)).alloc (.cells #[.slice (some ⟨w.heap.size + 1 + 1, 0, none⟩) 24 24] 39)).frozen? ⟨w.heap.size + 1 + 1, i, none⟩ = false := by rw [← hW2]; exact qT.free i
 rw [hus]
 clear b3 p0 p1 p3 pT po tabX su ss3 eg hgu hul hut H0 hW2 hW3 hg hv ht hus h h' hcap qT
 go_enter Try.func91, Try.ntmps91
 go_wp2_with fail
 clear hmk
 rw [← HW3.out]
 clear cT fT
 go_loopw [10] (fun i wr => HeadB W3 (w.heap.size + 1 + 1 + 1 + 1) us ss i wr) (fun i _ => 24 - (intOf i).toNat)
 case atStart => exact HH.out
 case round =>
  obtain ⟨k, O, cO, hk, rfl, hlow, ho, ro, hb⟩ := hrel
  clear HH
  have HLOW := hid hlow
  clear hlow
  have hz := hb.size
  have cOut : wr.cell? ⟨w.heap.size + 1 + 1 + 1 + 1, 0, none⟩ = some (.slice O k cO) := ro.cell 0
  have cS : wr.cell? ⟨w.heap.size, 0, none⟩ = some (.slice S m c) := (hb.cell (p := ⟨w.heap.size, 0, none⟩) (show w.heap.size < w.heap.size + 1 + 1 + 1 + 1 by omega)).trans (HP0.out.cell 0)
  have cT : wr.cell? ⟨w.heap.size + 1 + 1 + 1, 0, none⟩ = some (.slice (some ⟨w.heap.size + 1 + 1, 0, none⟩) 24 24) := (hb.cell (p := ⟨w.heap.size + 1 + 1 + 1, 0, none⟩) (show w.heap.size + 1 + 1 + 1 < w.heap.size + 1 + 1 + 1 + 1 by omega)).trans (HP3.out.cell 0)
  have p1 : Row wr (w.heap.size + 1) 39 #[.slice none 0 0] := (hb.block (w.heap.size + 1) (by omega)).trans HP1.out
  have hbw : Below w.heap.size w wr := HB3.out.trans (hb.mono (by omega))
  by_cases hlt : k < 24
  ·have i0 : (0 : Int) ≤ (k : Int) := by omega
   have i1 : (k : Int) < 24 := by omega
   have HA : Hid (∀ z, blk O = some z → w.heap.size + 1 + 1 + 1 + 1 + 1 ≤ z) := hid (fun z hz => by
    obtain ⟨vs, hown, _⟩ := ho.row
    exact (World.ownsRow.lt hown z (by rw [blk_own]; exact hz)).1)
   have hrl := ro.lt
   have LG := hid (l2Gives S m c ss k wr.drew (((HS.out.below hb).more (Nat.le_of_lt hrl)).drew) HTT.out (by omega))
   have t2 := (((HU.out.below hb).more (Nat.le_of_lt hrl)).drew)
   have hv := hid (fun x hx => HV.out k x hx hlt)
   have h60' := hid (HGS.out k)
   have OS := hid (out_succ us ss k)
   obtain ⟨z, hzf⟩ : ∃ z, fitsB us (givesL ss k) = z := ⟨_, rfl⟩
   obtain ⟨ys, hys⟩ : ∃ ys, fitL us (givesL ss k) = ys := ⟨_, rfl⟩
   have HZ := hid hzf
   have HY := hid hys
   clear hzf hys
   go_wp2_with fail
   refine wp_region_held_drew (S := (fun w' => w'.cell? ⟨w.heap.size, 0, none⟩ = some (.slice S m c) ∧ w'.cell? ⟨w.heap.size + 1 + 1 + 1, 0, none⟩ = some (.slice (some ⟨w.heap.size + 1 + 1, 0, none⟩) 24 24))) (by kernel_rfl) ⟨cS, cT⟩ (fun hHeld => ?_)
   refine wpAnyH_take (i := 0) (v := ?_) rfl (by kernel_rfl) (by kernel_rfl) (by kernel_rfl) (fun _ _ _ h => h) (Or.inl ⟨by rfl, ?_⟩) (by assumption) ?_
   rotate_left 1
   ·(intro w0 hSw; (try dsimp only at hSw); go_simp; try with_reducible rfl)
   try simp only [Act.put, setIfInBounds_toArray, set_cons_zero, set_cons_succ, getElem_toArray, getElem_cons_zero, getElem_cons_succ]
   refine wpAnyH_take (i := 1) (v := ?_) rfl (by kernel_rfl) (by kernel_rfl) (by kernel_rfl) (fun _ _ _ h => h) (Or.inl ⟨by rfl, ?_⟩) (by assumption) ?_
   rotate_left 1
   ·(intro w0 hSw; (try dsimp only at hSw); go_simp; try with_reducible rfl)
   try simp only [Act.put, setIfInBounds_toArray, set_cons_zero, set_cons_succ, getElem_toArray, getElem_cons_zero, getElem_cons_succ]
   refine wpAnyH_take (i := 2) (v := ?_) rfl (by kernel_rfl) (by kernel_rfl) (by kernel_rfl) (fun _ _ _ h => h) (Or.inl ⟨by rfl, ?_⟩) (by assumption) ?_
   rotate_left 1
   ·(intro w0 hSw; (try dsimp only at hSw); go_simp; try with_reducible rfl)
   try simp only [Act.put, setIfInBounds_toArray, set_cons_zero, set_cons_succ, getElem_toArray, getElem_cons_zero, getElem_cons_succ]
   refine wpAnyH_ready (rs := [3]) (by kernel_rfl) (by simp) (AllReadyH.cons rfl (fun K hK => ?_) AllReadyH.nil)
   go_simp
   refine LG.out.mono ?_; rintro e w3 ⟨Z, zn, zc, rfl, oa, b1⟩; have x1 : w3.cell? ⟨w.heap.size, 0, none⟩ = some (.slice S m c) := (b1.cell (p := ⟨w.heap.size, 0, none⟩) (World.block_lt_of_cell? _ _ cS)).trans cS; have x2 : w3.cell? ⟨w.heap.size + 1 + 1 + 1, 0, none⟩ = some (.slice (some ⟨w.heap.size + 1 + 1, 0, none⟩) 24 24) := (b1.cell (p := ⟨w.heap.size + 1 + 1 + 1, 0, none⟩) (World.block_lt_of_cell? _ _ cT)).trans cT; go_wp2_with fail
   refine hK.out _ _ ?_ (fun hHeld => ?_)
   ·first | assumption | (dsimp only; assumption) | exact ⟨by assumption, by assumption⟩
   clear hK K
   try simp only [Act.put, setIfInBounds_toArray, set_cons_zero, set_cons_succ, getElem_toArray, getElem_cons_zero, getElem_cons_succ]
   refine wpAnyH_ready (rs := [4]) (by kernel_rfl) (by simp) (AllReadyH.cons rfl (fun K hK => ?_) AllReadyH.nil)
   go_simp
   refine (l2Filled (some ⟨w.heap.size + 1 + 1, 0, none⟩) Z 24 24 zn zc us (givesL ss k) w3 (t2.next b1) (Own.seg oa) HUT.out (by rw [Own.len oa]; exact h60'.out) hv.out HGU.out).mono ?_; rintro e w4 ⟨Y, yn, yc, he, ob, b2⟩; rw [HZ.out] at he; subst he; rw [HY.out] at ob; have x1' : w4.cell? ⟨w.heap.size, 0, none⟩ = some (.slice S m c) := (b2.cell (p := ⟨w.heap.size, 0, none⟩) (World.block_lt_of_cell? _ _ x1)).trans x1; have x2' : w4.cell? ⟨w.heap.size + 1 + 1 + 1, 0, none⟩ = some (.slice (some ⟨w.heap.size + 1 + 1, 0, none⟩) 24 24) := (b2.cell (p := ⟨w.heap.size + 1 + 1 + 1, 0, none⟩) (World.block_lt_of_cell? _ _ x2)).trans x2; go_wp2_with fail
   refine hK.out _ _ ?_ (fun hHeld => ?_)
   ·first | assumption | (dsimp only; assumption) | exact ⟨by assumption, by assumption⟩
   clear hK K
   try simp only [Act.put, setIfInBounds_toArray, set_cons_zero, set_cons_succ, getElem_toArray, getElem_cons_zero, getElem_cons_succ]
   refine wpAnyH_take (i := 5) (v := ?_) rfl (by kernel_rfl) (by kernel_rfl) (by kernel_rfl) (fun _ _ _ h => h) (Or.inl ⟨by rfl, ?_⟩) (by assumption) ?_
   rotate_left 1
   ·(intro w0 hSw; (try dsimp only at hSw); go_simp; try with_reducible rfl)
   try simp only [Act.put, setIfInBounds_toArray, set_cons_zero, set_cons_succ, getElem_toArray, getElem_cons_zero, getElem_cons_succ]
   refine wpAnyH_take (i := 6) (v := ?_) rfl (by kernel_rfl) (by kernel_rfl) (by kernel_rfl) (fun _ _ _ h => h) (Or.inl ⟨by rfl, ?_⟩) (by assumption) ?_
   rotate_left 1
   ·(intro w0 hSw; (try dsimp only at hSw); go_simp; try with_reducible rfl)
   try simp only [Act.put, setIfInBounds_toArray, set_cons_zero, set_cons_succ, getElem_toArray, getElem_cons_zero, getElem_cons_succ]
   refine wpAnyH_take (i := 7) (v := ?_) rfl (by kernel_rfl) (by kernel_rfl) (by kernel_rfl) (fun _ _ _ h => h) (Or.inl ⟨by rfl, ?_⟩) (by assumption) ?_
   rotate_left 1
   ·(intro w0 hSw; (try dsimp only at hSw); go_simp; try with_reducible rfl)
   try simp only [Act.put, setIfInBounds_toArray, set_cons_zero, set_cons_succ, getElem_toArray, getElem_cons_zero, getElem_cons_succ]
   refine wpAnyH_take (i := 8) (v := ?_) rfl (by kernel_rfl) (by kernel_rfl) (by kernel_rfl) (fun _ _ _ h => h) (Or.inl ⟨by rfl, ?_⟩) (by assumption) ?_
   rotate_left 1
   ·(intro w0 hSw; (try dsimp only at hSw); go_simp; try with_reducible rfl)
   try simp only [Act.put, setIfInBounds_toArray, set_cons_zero, set_cons_succ, getElem_toArray, getElem_cons_zero, getElem_cons_succ]
   refine wpAnyH_take (i := 9) (v := ?_) rfl (by kernel_rfl) (by kernel_rfl) (by kernel_rfl) (fun _ _ _ h => h) (Or.inl ⟨by rfl, ?_⟩) (by assumption) ?_
   rotate_left 1
   ·(intro w0 hSw; (try dsimp only at hSw); go_simp; try with_reducible rfl)
   try simp only [Act.put, setIfInBounds_toArray, set_cons_zero, set_cons_succ, getElem_toArray, getElem_cons_zero, getElem_cons_succ]
   refine wpAnyH_done (by kernel_rfl) ?_ _
   have bb : Below wr.heap.size wr w4 := next_trans (drew_below wr) (next_trans b1 b2)
   have ob2 : Inn w4 wr.heap.size w4.heap.size (.slice Y yn yc) ys := Inn.wider (inn_own ob) (show wr.drew.heap.size ≤ w3.heap.size from b1.size) (Nat.le_refl _)
   clear b1 b2 oa ob x1 x2 x1' x2' cS cT t2 LG
   cases z with
   | true =>
    have hfit : ys = compL us ss k := by rw [← HY.out]; unfold fitL; rw [if_pos HZ.out]; rfl
    have hkk : (compL us ss k).length ≤ 60 := by have := HZ.out; unfold fitsB at this; exact of_decide_eq_true this
    have hz4 := bb.size
    have cO4 : w4.cell? ⟨w.heap.size + 1 + 1 + 1 + 1, 0, none⟩ = some (.slice O k cO) := (ro.next bb).cell 0
    have B5 : Below w4.heap.size w4 (w4.alloc (.cells #[.slice Y yn yc] 22)) := (Below.refl _ _).alloc (Nat.le_refl _) _
    have ho5 := (ho.next bb).next B5
    have i5 := Inn.wider (ob2.next B5) (Nat.le_refl _) (show w4.heap.size ≤ (w4.alloc (.cells #[.slice Y yn yc] 22)).heap.size by simp)
    have r5 := (ro.next bb).next B5
    have c5 : (w4.alloc (.cells #[.slice Y yn yc] 22)).cell? ⟨w.heap.size + 1 + 1 + 1 + 1, 0, none⟩ = some (.slice O k cO) := r5.cell 0
    go_wp2_with (at_builtin; go_must (refine appS1 rfl _ _ rfl (w.heap.size + 1 + 1 + 1 + 1 + 1) wr.heap.size O k cO (outL us ss k) rfl ho5 _ 1 (.slice Y yn yc) ys rfl ((Row.new _ _ _).cell 0) i5 (by omega) (by omega) (by simp; omega) ?_; intro A' cA' w6 ho6 hg6 hat6 b6; have q2 := Row.away r5 hg6 (fun e => by have := HA.out _ e; omega); have c6 : w6.cell? ⟨w.heap.size + 1 + 1 + 1 + 1, 0, none⟩ = some (.slice O k cO) := q2.cell 0; have f6 : w6.frozen? ⟨w.heap.size + 1 + 1 + 1 + 1, 0, none⟩ = false := q2.free 0))
    have S1 : HeadB W3 (w.heap.size + 1 + 1 + 1 + 1) us ss (.int .i64 ((k : Int) + 1)) (w6.setCell ⟨w.heap.size + 1 + 1 + 1 + 1, 0, none⟩ (.slice A' (k + 1) cA')) := by
     have hbb : Below (w.heap.size + 1 + 1 + 1 + 1) W3 w6 := (hb.trans ((next_trans bb B5).mono (Nat.le_of_lt hrl))).grown hg6 (by have := B5.size; omega) (fun z hz => by have := HA.out z hz; omega)
     refine ⟨k + 1, A', cA', hlt, by simp, fun j hj => ?_, ?_, ?_, hbb.setCell (p := ⟨w.heap.size + 1 + 1 + 1 + 1, 0, none⟩) (Nat.le_refl _) _⟩
     ·by_cases e : j = k
      ·rw [e]; exact hkk
      ·exact HLOW.out j (by omega)
     ·have ho7 : Owns w6 (w.heap.size + 1 + 1 + 1 + 1 + 1) w6.heap.size A' (k + 1) cA' (outL us ss (k + 1)) := by rw [OS.out, ← hfit]; exact ho6
      have := owns_put ho7 q2 (Nat.lt_succ_self _) 0 (.slice A' (k + 1) cA')
      simpa using this
     ·have := q2.put 0 (.slice A' (k + 1) cA')
      simpa using this
    have HS1 := hid S1
    clear S1 ho6 hg6 hat6 b6 ho5 i5 r5 c5 q2 ob2 bb B5 p1 ro hb hbw ho OS cO4 hfit hkk HY HZ
    go_wp2
    go_roundw
    case rel => exact HS1.out
    case measure => simp [intOf]; omega
   | false =>
    have hno : 60 < (compL us ss k).length := by
     have := HZ.out
     unfold fitsB at this
     have h2 := of_decide_eq_false this
     unfold compL
     omega
    have p1b := p1.next bb
    have hb4 := next_trans hbw bb
    have cR : w4.cell? ⟨w.heap.size + 1, 0, none⟩ = some (.slice none 0 0) := p1b.cell 0
    have fR : w4.frozen? ⟨w.heap.size + 1, 0, none⟩ = false := p1b.free 0
    have F1 := hid (show AnsBind w us ss (.returned (.tuple #[.agg #[.slice none 0 0], .bool false])) w4 from ⟨hb4, .inr ⟨rfl, k, hlt, hno⟩⟩)
    have F2 := hid (show AnsBind w us ss (.returned (.tuple #[.agg #[.slice none 0 0], .bool false])) (w4.setCell ⟨w.heap.size + 1, 0, none⟩ (.slice none 0 0)) from ⟨hb4.setCell (p := ⟨w.heap.size + 1, 0, none⟩) (by simp) _, .inr ⟨rfl, k, hlt, hno⟩⟩)
    clear bb hb hbw hb4 p1 p1b ro ho ob2 OS cOut hno
    go_wp2
    first
     | exact bodyPost_ret (v := .tuple #[.agg #[.slice none 0 0], .bool false]) (by simp [results, Try.results91, go_sem, cR]) rfl F1.out
     | exact bodyPost_ret (v := .tuple #[.agg #[.slice none 0 0], .bool false]) (by simp [results, Try.results91, go_sem, cR]) rfl F2.out
  ·obtain rfl : k = 24 := by omega
   have cR : wr.cell? ⟨w.heap.size + 1, 0, none⟩ = some (.slice none 0 0) := p1.cell 0
   have fR : wr.frozen? ⟨w.heap.size + 1, 0, none⟩ = false := p1.free 0
   have F : AnsBind w us ss (.returned (.tuple #[.agg #[.slice O 24 cO], .bool true])) (wr.setCell ⟨w.heap.size + 1, 0, none⟩ (.slice O 24 cO)) := by
    refine ⟨hbw.setCell (p := ⟨w.heap.size + 1, 0, none⟩) (by simp) _, .inl ⟨O, cO, rfl, ?_, HLOW.out⟩⟩
    exact (owns_put ho p1 (by omega) 0 _).wider (by omega) (by simp)
   have HF := hid F
   clear F ho ro hb hbw p1
   go_wp2
   exact bodyPost_ret (v := .tuple #[.agg #[.slice O 24 cO], .bool true]) (by simp [results, Try.results91, go_sem, cR]) rfl HF.out
end bind
end
section
open Go.Lib (hid)
namespace unifSpec
open Go.RowKit base ints sig term termOk endAt sub cursor marks app sym Go.Proofs.Ytobedfmagjgdcaa.look segs segsHelp kinds termFacts fillMath substOk gives shifted filled plainMath plain plainOf compMath rename matchMath unifMath bind
set_option maxRecDepth 100000
structure Good (sg a b : List Int) (ss : List (List Int)) : Prop where
 len : ss.length ≤ 24
 each : ∀ j, (ss.getD j []).length ≤ 60
 part : Part sg a b (givesL ss)
section
variable {sg a b : List Int} {ss : List (List Int)}
theorem Good.symm (h : Good sg a b ss) : Good sg b a ss := ⟨h.len, h.each, h.part.symm⟩
theorem Good.tot (h : Good sg a b ss) : tot ss ≤ 1048576 := by
 have h1 := tot_le h.each
 have h2 : ss.length * 60 ≤ 24 * 60 := Nat.mul_le_mul_right _ h.len
 have := h.len
 omega
theorem Good.g60 (h : Good sg a b ss) (k : Nat) : (givesL ss k).length ≤ 60 := by
 unfold givesL
 split
 ·simp [vt]
 ·exact h.each k
theorem Good.neg (h : Good sg a b ss) (k : Nat) (x : Int) (hx : x ∈ givesL ss k) (hk : k < 24) : -24 ≤ x := (h.part.sub.trm k hk).mem hx
theorem gives_nil : givesL [] = vt := by
 funext i
 exact gives_out (by simp)
theorem Good.start (sg a b : List Int) : Good sg a b [] := ⟨by simp, fun j => by simp, by rw [gives_nil]; exact Part.start sg a b⟩
theorem bound_gives {i : Nat} {t : List Int} (hi : i < 24) (ht : 1 ≤ t.length) (hl : ss.length ≤ 24) : givesL (outL (us1 i t) ss 24) = fun m => fillL (ones i t) (givesL ss m) := by
 have e : ∀ m, compL (us1 i t) ss m = fillL (ones i t) (givesL ss m) := fun m => by
  unfold compL
  exact fill_ext (fun x _ _ => us1_gives hi ht _)
 funext m
 by_cases hm : m < 24
 ·rw [out_gives hm, e]
 ·rw [gives_out (by rw [out_len]; omega), gives_out (by omega), fill_vti]
  unfold ones
  rw [if_neg (by omega)]
theorem Good.next {i : Nat} {t : List Int} (h : Good sg a b ss) (hi : i < 24) (ht : 1 ≤ t.length) (hp : Part sg a b (fun m => fillL (ones i t) (givesL ss m))) (hc : ∀ j, j < 24 → (compL (us1 i t) ss j).length ≤ 60) : Good sg a b (outL (us1 i t) ss 24) :=
 ⟨by rw [out_len]; omega, fun j => by
  by_cases hj : j < 24
  ·rw [out_get hj]; exact hc j hj
  ·simp [List.getD, out_len, hj], by rw [bound_gives hi ht h.len]; exact hp⟩
theorem fit_yes {t : List Int} (h : fitsB ss t = true) : fitL ss t = fillL (givesL ss) t ∧ (fillL (givesL ss) t).length ≤ 60 := by
 refine ⟨by unfold fitL; rw [if_pos h], ?_⟩
 unfold fitsB at h
 exact of_decide_eq_true h
end
def AnsUni (w : World) (sg a b : List Int) (e : Ending) (w' : World) : Prop :=
 Below w.heap.size w w' ∧ ((∃ S m c ss, e = .returned (.tuple #[.agg #[.slice S m c], .bool true]) ∧ Owns w' w.heap.size w'.heap.size S m c ss ∧ Good sg a b ss ∧ fillL (givesL ss) a = fillL (givesL ss) b ∧ (fillL (givesL ss) a).length ≤ 60) ∨ (e = .returned (.tuple #[.agg #[.slice none 0 0], .bool false]) ∧ ∀ M, ¬ Short sg a b M))
structure Uw (w wr : World) (A : Option Addr) (n c : Nat) (sg : List Int) (P : Option Addr) (pn : Nat) (a : List Int) (Q : Option Addr) (qn : Nat) (b : List Int) (S : Option Addr) (m cS : Nat) (ss : List (List Int)) : Prop where
 r0 : Row wr w.heap.size 29 #[.slice A n c]
 r1 : Row wr (w.heap.size + 1) 39 #[.slice S m cS]
 r2 : Row wr (w.heap.size + 1 + 1) 39 #[.slice none 0 0]
 s : Seg wr w.heap.size A n sg
 pa : Seg wr w.heap.size P pn a
 qb : Seg wr w.heap.size Q qn b
 sS : Owns wr (w.heap.size + 1 + 1 + 1) wr.heap.size S m cS ss
 bel : Below w.heap.size w wr
section
variable {w wr w' : World} {A : Option Addr} {n c : Nat} {sg : List Int} {P : Option Addr} {pn : Nat} {a : List Int} {Q : Option Addr} {qn : Nat} {b : List Int} {S : Option Addr} {m cS : Nat} {ss : List (List Int)}
theorem Uw.next (h : Uw w wr A n c sg P pn a Q qn b S m cS ss) (hb : Below wr.heap.size wr w') : Uw w w' A n c sg P pn a Q qn b S m cS ss :=
 have z := h.r0.lt
 have hw : Below w.heap.size wr w' := hb.mono (Nat.le_of_lt z)
 ⟨h.r0.next hb, h.r1.next hb, h.r2.next hb, h.s.below hw, h.pa.below hw, h.qb.below hw, (h.sS.next hb).wider (Nat.le_refl _) hb.size, h.bel.trans hw⟩
theorem Uw.c0 (h : Uw w wr A n c sg P pn a Q qn b S m cS ss) : wr.cell? ⟨w.heap.size, 0, none⟩ = some (.slice A n c) := h.r0.cell 0
theorem Uw.c1 (h : Uw w wr A n c sg P pn a Q qn b S m cS ss) : wr.cell? ⟨w.heap.size + 1, 0, none⟩ = some (.slice S m cS) := h.r1.cell 0
theorem Uw.c2 (h : Uw w wr A n c sg P pn a Q qn b S m cS ss) : wr.cell? ⟨w.heap.size + 1 + 1, 0, none⟩ = some (.slice none 0 0) := h.r2.cell 0
theorem Uw.f2 (h : Uw w wr A n c sg P pn a Q qn b S m cS ss) : wr.frozen? ⟨w.heap.size + 1 + 1, 0, none⟩ = false := h.r2.free 0
theorem Uw.size (h : Uw w wr A n c sg P pn a Q qn b S m cS ss) : w.heap.size + 1 + 1 < wr.heap.size := h.r2.lt
end
def HeadU (w : World) (A : Option Addr) (n c : Nat) (sg : List Int) (P : Option Addr) (pn : Nat) (a : List Int) (Q : Option Addr) (qn : Nat) (b : List Int) (g : Nat) (wr : World) : Prop :=
 ∃ S m cS ss, Uw w wr A n c sg P pn a Q qn b S m cS ss ∧ Good sg a b ss ∧ free (givesL ss) + 1 ≤ g
theorem uni_no {w w' : World} {sg a b : List Int} (h : ∀ M, ¬ Short sg a b M) (hb : Below w.heap.size w w') : AnsUni w sg a b (.returned (.tuple #[.agg #[.slice none 0 0], .bool false])) w' := ⟨hb, .inr ⟨rfl, h⟩⟩
theorem drew_below (w : World) (d : Nat) : Below w.heap.size w (w.drewN d) := ⟨rfl, rfl, rfl, Nat.le_refl _, fun _ _ => rfl⟩
theorem pre_step {x y : List Int} {k : Nat} (e : x.take k = y.take k) (hx : k < x.length) (hy : k < y.length) (h : x.getD k 0 = y.getD k 0) : x.take (k + 1) = y.take (k + 1) := by
 rw [List.take_succ_eq_append_getElem hx, List.take_succ_eq_append_getElem hy, e]
 simp [List.getD, hx, hy] at h
 rw [h]
theorem arm {sg a b xs ys : List Int} {ss : List (List Int)} {k : Nat} {p q : Int} (hx : xs = fillL (givesL ss) a) (hy : ys = fillL (givesL ss) b) (g : Good sg a b ss) (s : Spot sg a b (givesL ss) k) (ep : xs.getD k 0 = p) (eq : ys.getD k 0 = q) (h0 : p < 0) :
  (p ∈ subL sg ys k → ∀ M, ¬ Short sg a b M) ∧ vr p < 24 ∧ 1 ≤ (subL sg ys k).length ∧ (p ∉ subL sg ys k → (0 ≤ q ∨ p < q) →
   ((∀ j, j < 24 → (compL (us1 (vr p) (subL sg ys k)) ss j).length ≤ 60) → Good sg a b (outL (us1 (vr p) (subL sg ys k)) ss 24) ∧ free (givesL (outL (us1 (vr p) (subL sg ys k)) ss 24)) < free (givesL ss)) ∧
   ((∃ j, j < 24 ∧ 60 < (compL (us1 (vr p) (subL sg ys k)) ss j).length) → ∀ M, ¬ Short sg a b M)) := by
 subst hx
 subst hy
 subst ep
 subst eq
 have tx := g.part.sub.fill s.ta
 have ty := g.part.sub.fill s.tb
 have hm : (fillL (givesL ss) a).getD k 0 ∈ fillL (givesL ss) a := by have := s.kx; simp [List.getD, this]
 have hv : vr ((fillL (givesL ss) a).getD k 0) < 24 := by have := tx.mem hm; unfold vr; omega
 have h1 : 1 ≤ (subL sg (fillL (givesL ss) b) k).length := (sub_trm ty s.ky).1.pos
 refine ⟨fun hi M hM => s.occurs g.part h0 hi M hM.toUni, hv, h1, fun hi h3 => ?_⟩
 have hp := s.bind g.part h0 hi h3
 have hf := free_bind s g.part h0 hi
 refine ⟨fun hc => ⟨g.next hv h1 hp hc, by rw [bound_gives hv h1 g.len]; exact hf⟩, fun ⟨j, hj, hl⟩ M hM => ?_⟩
 have := hp.each hM j
 unfold compL at hl
 rw [fill_ext (L' := ones (vr ((fillL (givesL ss) a).getD k 0)) (subL sg (fillL (givesL ss) b) k)) (fun x _ _ => us1_gives hv h1 _)] at hl
 omega
theorem Uw.store {w wr : World} {A : Option Addr} {n c : Nat} {sg : List Int} {P : Option Addr} {pn : Nat} {a : List Int} {Q : Option Addr} {qn : Nat} {b : List Int} {S O : Option Addr} {m m' cS cO : Nat} {ss ss' : List (List Int)} (h : Uw w wr A n c sg P pn a Q qn b S m cS ss) (ho : Owns wr (w.heap.size + 1 + 1 + 1) wr.heap.size O m' cO ss') :
  Uw w (wr.setCell ⟨w.heap.size + 1, 0, none⟩ (.slice O m' cO)) A n c sg P pn a Q qn b O m' cO ss' := by
 refine ⟨h.r0.far (show w.heap.size ≠ w.heap.size + 1 by omega) _, ?_, h.r2.far (show w.heap.size + 1 + 1 ≠ w.heap.size + 1 by omega) _, h.s.put (p := ⟨w.heap.size + 1, 0, none⟩) (show w.heap.size ≤ w.heap.size + 1 by omega) _, h.pa.put (p := ⟨w.heap.size + 1, 0, none⟩) (show w.heap.size ≤ w.heap.size + 1 by omega) _, h.qb.put (p := ⟨w.heap.size + 1, 0, none⟩) (show w.heap.size ≤ w.heap.size + 1 by omega) _, ?_, h.bel.setCell (p := ⟨w.heap.size + 1, 0, none⟩) (show w.heap.size ≤ w.heap.size + 1 by omega) _⟩
 ·have := h.r1.put 0 (.slice O m' cO)
  simpa using this
 ·have := owns_put ho h.r1 (show w.heap.size + 1 < w.heap.size + 1 + 1 + 1 by omega) 0 (.slice O m' cO)
  simpa using this
set_option maxHeartbeats 1500000 in
theorem l5Unify (A P Q : Option Addr) (n c pn pc qn qc : Nat) (sg a b : List Int) (w : World) (h : Seg w w.heap.size A n sg) (hp : Seg w w.heap.size P pn a) (hq : Seg w w.heap.size Q qn b) (hn : n ≤ 1048576) (hpn : pn ≤ 60) (hqn : qn ≤ 60) (hoka : termOkB sg a = true) (hokb : termOkB sg b = true) :
  Calls Try.prog 55 #[.agg #[.slice A n c], .agg #[.slice none 0 0], .slice P pn pc, .slice Q qn qc] w (AnsUni w sg a b) := by
 obtain ⟨W, hW⟩ : ∃ W, W = ((w.alloc (.cells #[.slice A n c] 29)).alloc (.cells #[.slice none 0 0] 39)).alloc (.cells #[.slice none 0 0] 39) := ⟨_, rfl⟩
 have bW : Below w.heap.size w W := by rw [hW]; exact (((Below.refl _ _).alloc (Nat.le_refl _) _).alloc (by simp) _).alloc (by simp; omega) _
 have U0 : Uw w W A n c sg P pn a Q qn b none 0 0 [] := by
  refine ⟨?_, ?_, ?_, h.below bW, hp.below bW, hq.below bW, Owns.nil _ _ _, bW⟩
  ·rw [hW]; exact ((Row.new w _ _).alloc _).alloc _
  ·rw [hW]
   have := (Row.new (w.alloc (.cells #[.slice A n c] 29)) 39 #[.slice none 0 0]).alloc (.cells #[.slice none 0 0] 39)
   simpa using this
  ·rw [hW]
   have := Row.new ((w.alloc (.cells #[.slice A n c] 29)).alloc (.cells #[.slice none 0 0] 39)) 39 #[.slice none 0 0]
   simpa using this
 have HH := hid (show HeadU w A n c sg P pn a Q qn b 25 W from ⟨none, 0, 0, [], U0, Good.start sg a b, by have := free_le (givesL []); omega⟩)
 have HW := hid hW
 have HTA : Hid (Trm sg a) := hid (term_parts hoka).2.2
 have HTB : Hid (Trm sg b) := hid (term_parts hokb).2.2
 have hars := (sig_arities (termOk_parts hoka).1).1
 have hva := hid (fun x hx => (term_mem (x := x) hoka hx).1)
 have hvb := hid (fun x hx => (term_mem (x := x) hokb hx).1)
 clear U0 bW hW h hp hq hoka hokb
 go_enter Try.func55, Try.ntmps55
 go_wp2_with fail
 rw [← HW.out]
 go_loopg [] 25 (fun g wr => HeadU w A n c sg P pn a Q qn b g wr)
 case atStart => exact HH.out
 case round =>
  obtain ⟨S, m, cS, ss, U, hgood, hfree⟩ := hrel
  obtain ⟨G, hG⟩ : ∃ G, G = gk := ⟨_, rfl⟩
  subst hG
  clear HH
  have HG := hid hgood
  have HFR := hid hfree
  clear hgood hfree
  have c1 := U.c1
  obtain ⟨xs, hxs⟩ : ∃ x, fitL ss a = x := ⟨_, rfl⟩
  obtain ⟨ys, hys⟩ : ∃ x, fitL ss b = x := ⟨_, rfl⟩
  obtain ⟨fa, hfa⟩ : ∃ x, fitsB ss a = x := ⟨_, rfl⟩
  obtain ⟨fb, hfb⟩ : ∃ x, fitsB ss b = x := ⟨_, rfl⟩
  have HXS := hid hxs
  have HYS := hid hys
  have HFA := hid hfa
  have HFB := hid hfb
  clear hxs hys hfa hfb
  go_wp2_with fail
  refine (l2Filled S P m cS pn pc ss a wr U.sS.segs (U.pa.more (Nat.le_of_lt U.r0.lt)) HG.out.tot hpn hva.out HG.out.g60).mono ?_
  rintro e w1 ⟨X, xn, xc, he, ox, bb⟩
  rw [HFA.out] at he
  subst he
  rw [HXS.out] at ox
  have sx := Own.seg ox
  have kx := own_cap ox
  replace U := U.next bb
  clear ox bb c1
  have c1 := U.c1
  go_wp2_with fail
  refine (l2Filled S Q m cS qn qc ss b w1 U.sS.segs (U.qb.more (Nat.le_of_lt U.r0.lt)) HG.out.tot hqn hvb.out HG.out.g60).mono ?_
  rintro e w2 ⟨Y, yn, yc, he, oy, bb⟩
  rw [HFB.out] at he
  subst he
  rw [HYS.out] at oy
  have sy := Own.seg oy
  have ky := own_cap oy
  replace U := U.next bb
  replace sx := sx.next bb
  clear oy bb c1
  cases fa with
  | false =>
   have hno : ∀ M, ¬ Short sg a b M := fun M hM => by have h1 := HFA.out; unfold fitsB at h1; exact of_decide_eq_false h1 (HG.out.part.len hM).1
   have cR := U.c2
   have fR := U.f2
   have F1 := hid (uni_no (w := w) hno U.bel)
   have F2 := hid (uni_no (w := w) hno ((U.bel).setCell (p := ⟨w.heap.size + 1 + 1, 0, none⟩) (show w.heap.size ≤ w.heap.size + 1 + 1 by omega) (.slice none 0 0)))
   clear U hno sx sy
   go_wp2
   first
    | exact bodyPost_ret (v := .tuple #[.agg #[.slice none 0 0], .bool false]) (by simp [results, Try.results55, go_sem, cR]) rfl F1.out
    | exact bodyPost_ret (v := .tuple #[.agg #[.slice none 0 0], .bool false]) (by simp [results, Try.results55, go_sem, cR]) rfl F2.out
  | true =>
   cases fb with
   | false =>
    have hno : ∀ M, ¬ Short sg a b M := fun M hM => by have h1 := HFB.out; unfold fitsB at h1; exact of_decide_eq_false h1 (HG.out.part.len hM).2
    have cR := U.c2
    have fR := U.f2
    have F1 := hid (uni_no (w := w) hno U.bel)
    have F2 := hid (uni_no (w := w) hno ((U.bel).setCell (p := ⟨w.heap.size + 1 + 1, 0, none⟩) (show w.heap.size ≤ w.heap.size + 1 + 1 by omega) (.slice none 0 0)))
    clear U hno sx sy
    go_wp2
    first
     | exact bodyPost_ret (v := .tuple #[.agg #[.slice none 0 0], .bool false]) (by simp [results, Try.results55, go_sem, cR]) rfl F1.out
     | exact bodyPost_ret (v := .tuple #[.agg #[.slice none 0 0], .bool false]) (by simp [results, Try.results55, go_sem, cR]) rfl F2.out
   | true =>
    have HX := hid (HXS.out.symm.trans (fit_yes HFA.out).1)
    have HY := hid (HYS.out.symm.trans (fit_yes HFB.out).1)
    have hx60 : xn ≤ 60 := by rw [← sx.1, HX.out]; exact (fit_yes HFA.out).2
    have hy60 : yn ≤ 60 := by rw [← sy.1, HY.out]; exact (fit_yes HFB.out).2
    have HLX := hid sx.1
    have HLY := hid sy.1
    have HTX : Hid (Trm sg xs) := hid (by rw [HX.out]; exact HG.out.part.sub.fill HTA.out)
    have HTY : Hid (Trm sg ys) := hid (by rw [HY.out]; exact HG.out.part.sub.fill HTB.out)
    go_wp2_with fail
    go_loopg [14] xn (fun g k_ wr' => ∃ k d : Nat, k_ = .int .i64 k ∧ k + g = xn ∧ k ≤ yn ∧ xs.take k = ys.take k ∧ wr' = w2.drewN d)
    case atStart => exact ⟨0, 0, rfl, by omega, Nat.zero_le _, rfl, rfl⟩
    case round =>
     obtain ⟨k, d, rfl, hkg, hky, hpre, hwd⟩ := hrel
     have HKG := hid hkg
     have HPRE := hid hpre
     have i0 : (0 : Int) ≤ (k : Int) := by omega
     have bd : Below w2.heap.size w2 wr := by rw [hwd]; exact drew_below _ _
     have HWD := hid hwd
     replace U := U.next bd
     replace sx := sx.next bd
     replace sy := sy.next bd
     clear bd hwd hkg hpre
     by_cases hkx : k < xn
     ·have j1 : (k : Int) < (xn : Int) := by omega
      by_cases hky2 : k < yn
      ·have j2 : (k : Int) < (yn : Int) := by omega
       obtain ⟨b1, o1, p, rfl, hb1, hp, ep⟩ := sx.spot hkx
       obtain ⟨b2, o2, q, rfl, hb2, hq, eq⟩ := sy.spot hky2
       by_cases hpq : p = q
       ·subst hpq
        have S1 := hid (fun d' => (show ∃ k' d : Nat, (.int .i64 ((k : Int) + 1) : Value) = .int .i64 k' ∧ k' + (gk - 1) = xn ∧ k' ≤ yn ∧ xs.take k' = ys.take k' ∧ wr.drewN d' = w2.drewN d from ⟨k + 1, d + d', by simp, by have := HKG.out; omega, hky2, pre_step HPRE.out (by rw [HLX.out]; exact hkx) (by rw [HLY.out]; exact hky2) (by rw [ep.out, eq.out]), by rw [HWD.out, World.drewN_drewN]⟩))
        have hgk := hid (show gk - 1 < gk by have := HKG.out; omega)
        clear sx sy U ep eq
        go_wp2
        go_quiet (fail)
        go_wp2
        go_roundg (gk - 1)
        case measure => exact hgk.out
        case rel => exact S1.out _
       ·have HS := hid (show Spot sg a b (givesL ss) k from ⟨HTA.out, HTB.out, by rw [← HX.out, ← HY.out]; exact HPRE.out, by rw [← HX.out, HLX.out]; exact hkx, by rw [← HY.out, HLY.out]; exact hky2, by rw [← HX.out, ← HY.out, ep.out, eq.out]; exact hpq⟩)
        have HEP := hid ep.out
        have HEQ := hid eq.out
        have jx : ((k : Int) == (xn : Int)) = false := by simp; omega
        have hpd : (p == q) = false := by simp [hpq]
        have hp24 : -24 ≤ p := HTX.out.mem (by rw [← HEP.out]; have := HLX.out; simp [List.getD, show k < xs.length by omega])
        have hq24 : -24 ≤ q := HTY.out.mem (by rw [← HEQ.out]; have := HLY.out; simp [List.getD, show k < ys.length by omega])
        obtain ⟨jy, sy1, sy2, sy3⟩ := scan_at HTY.out (show k < ys.length by rw [HLY.out]; exact hky2)
        obtain ⟨jxx, sx1, sx2, sx3⟩ := scan_at HTX.out (show k < xs.length by rw [HLX.out]; exact hkx)
        rw [HLY.out] at sy3
        rw [HLX.out] at sx3
        have LX := hid (fun w' (hb : Below wr.heap.size wr w') => l1Sub A (some ⟨b1, o1, none⟩) n c xn xc sg xs k jxx w' ((U.next hb).s.more (Nat.le_of_lt (U.next hb).r0.lt)) (sx.next hb) hn (by omega) kx.1 kx.2.1 hars hkx sx1 sx2 sx3)
        have LY := hid (fun w' (hb : Below wr.heap.size wr w') => l1Sub A (some ⟨b2, o2, none⟩) n c yn yc sg ys k jy w' ((U.next hb).s.more (Nat.le_of_lt (U.next hb).r0.lt)) (sy.next hb) hn (by omega) ky.1 ky.2.1 hars hky2 sy1 sy2 sy3)
        have lenx : (subL sg xs k).length ≤ 60 := by unfold subL; rw [List.length_take, List.length_drop, HLX.out]; omega
        have leny : (subL sg ys k).length ≤ 60 := by unfold subL; rw [List.length_take, List.length_drop, HLY.out]; omega
        clear ep eq sy1 sy2 sy3 sx1 sx2 sx3
        go_wp2_with fail
        go_quiet (fail)
        have bd := drew_below wr nq
        replace U := U.next bd
        have p1 : (wr.drewN nq).cell? ⟨b1, o1 + k, none⟩ = some (.int .i64 p) := hp
        have q1 : (wr.drewN nq).cell? ⟨b2, o2 + k, none⟩ = some (.int .i64 q) := hq
        have LX := hid (fun w' (hb : Below (wr.drewN nq).heap.size (wr.drewN nq) w') => LX.out w' (next_trans bd hb))
        have LY := hid (fun w' (hb : Below (wr.drewN nq).heap.size (wr.drewN nq) w') => LY.out w' (next_trans bd hb))
        clear hp hq bd sx sy
        generalize wr.drewN nq = w3 at *
        have c0 := U.c0
        go_wp2_with fail
        refine (LY.out w3 (Below.refl _ _)).mono ?_
        rintro e w4 ⟨D, dn, dc, rfl, od, bb⟩
        have hdn : dn ≤ 60 := by rw [Own.len od]; exact leny
        have LX := hid (LX.out w4 bb)
        replace U := U.next bb
        clear LY bb c0 p1 q1
        by_cases hp0 : 0 ≤ p
        ·by_cases hq0 : 0 ≤ q
         ·have hno : ∀ M, ¬ Short sg a b M := fun M hM => HS.out.clash HG.out.part (by rw [← HX.out, HEP.out]; exact hp0) (by rw [← HY.out, HEQ.out]; exact hq0) M hM.toUni
          have cR := U.c2
          have fR := U.f2
          have F1 := hid (uni_no (w := w) hno U.bel)
          have F2 := hid (uni_no (w := w) hno ((U.bel).setCell (p := ⟨w.heap.size + 1 + 1, 0, none⟩) (show w.heap.size ≤ w.heap.size + 1 + 1 by omega) (.slice none 0 0)))
          clear U hno od LX
          go_wp2
          first
           | exact bodyPost_ret (v := .tuple #[.agg #[.slice none 0 0], .bool false]) (by simp [results, Try.results55, go_sem, cR]) rfl F1.out
           | exact bodyPost_ret (v := .tuple #[.agg #[.slice none 0 0], .bool false]) (by simp [results, Try.results55, go_sem, cR]) rfl F2.out
         ·have hq1 : q < 0 := by omega
          have HARM := hid (arm HY.out HX.out HG.out.symm HS.out.symm HEQ.out HEP.out (by omega))
          clear od hdn
          have c0 := U.c0
          go_wp2_with fail
          refine LX.out.mono ?_
          rintro e w5 ⟨D, dn, dc, rfl, od, bb⟩
          have hdn : dn ≤ 60 := by rw [Own.len od]; exact lenx
          replace U := U.next bb
          clear LX bb c0
          obtain ⟨v, hv⟩ : ∃ v : Nat, q = -1 - (v : Int) := ⟨(-1 - q).toNat, by omega⟩
          have HVR := hid (show vr q = v by unfold vr; omega)
          have HVV := hid hv
          clear hv
          have hv24 : v < 24 := by rw [← HVR.out]; exact HARM.out.2.1
          have HT1 := hid HARM.out.2.2.1
          have ht60 : (subL sg xs k).length ≤ 60 := by rw [← Own.len od]; exact hdn
          have sd := Own.seg od
          have kd := own_cap od
          obtain ⟨hm, ehm⟩ : ∃ z, decide (q ∈ subL sg xs k) = z := ⟨_, rfl⟩
          have HMM := hid ehm
          have LH := hid (l1Has D dn dc (subL sg xs k) q w5 sd (by omega))
          rw [ehm] at LH
          clear ehm
          cases hm with
          | true =>
           go_wp2_with fail
           refine LH.out.mono ?_
           rintro e w5 ⟨rfl, rfl⟩
           have hno : ∀ M, ¬ Short sg a b M := (fun M hM => (HARM.out.1 (of_decide_eq_true HMM.out)) M hM.symm)
           have cR := U.c2
           have fR := U.f2
           have F1 := hid (uni_no (w := w) hno U.bel)
           have F2 := hid (uni_no (w := w) hno ((U.bel).setCell (p := ⟨w.heap.size + 1 + 1, 0, none⟩) (show w.heap.size ≤ w.heap.size + 1 + 1 by omega) (.slice none 0 0)))
           clear U hno sd LH od
           go_wp2
           first
            | exact bodyPost_ret (v := .tuple #[.agg #[.slice none 0 0], .bool false]) (by simp [results, Try.results55, go_sem, cR]) rfl F1.out
            | exact bodyPost_ret (v := .tuple #[.agg #[.slice none 0 0], .bool false]) (by simp [results, Try.results55, go_sem, cR]) rfl F2.out
          | false =>
           have hwv : IntKind.i64.wrap (-1 - q) = (v : Int) := by have := HVV.out; rw [IntKind.wrap_i64]; omega
           have hwv2 := hid (show -1 - q = (v : Int) by have := HVV.out; omega)
           have HA4 := hid (HARM.out.2.2.2 (of_decide_eq_false HMM.out) (.inl hp0))
           rw [HVR.out] at HA4
           have c1 := U.c1
           have LB := hid (l5Bind S D m cS dn dc v ss (subL sg xs k) w5 U.sS.segs sd kd HG.out.tot hv24 HT1.out ht60 HG.out.g60 HG.out.neg)
           go_wp2_with fail
           refine LH.out.mono ?_
           rintro e w5 ⟨rfl, rfl⟩
           clear LH sd od
           go_wp2_with fail
           (try rw [hwv2.out])
           refine LB.out.mono ?_
           rintro e w6 ⟨bb, ⟨O, cO, rfl, oo, hall⟩ | ⟨rfl, hlong⟩⟩
           ·have hg2 := HA4.out.1 hall
            have hf2 := hg2.2
            have hz5 := U.size
            have hz6 := bb.size
            have U6 := U.next bb
            have B7 : Below w6.heap.size w6 (w6.alloc (.cells #[.slice O 24 cO] 39)) := (Below.refl _ _).alloc (Nat.le_refl _) _
            have U7 := U6.next B7
            have o7 : Owns (w6.alloc (.cells #[.slice O 24 cO] 39)) (w.heap.size + 1 + 1 + 1) (w6.alloc (.cells #[.slice O 24 cO] 39)).heap.size O 24 cO _ := (oo.next B7).wider (by omega) B7.size
            have HN := hid (show HeadU w A n c sg P pn a Q qn b (G - 1) ((w6.alloc (.cells #[.slice O 24 cO] 39)).setCell ⟨w.heap.size + 1, 0, none⟩ (.slice O 24 cO)) from ⟨O, 24, cO, _, U7.store o7, hg2.1.symm, by have := HFR.out; omega⟩)
            have hgk := hid (show G - 1 < G by have := HFR.out; omega)
            have c1 : (w6.alloc (.cells #[.slice O 24 cO] 39)).cell? ⟨w.heap.size + 1, 0, none⟩ = some (.slice S m cS) := U7.c1
            have f1 : (w6.alloc (.cells #[.slice O 24 cO] 39)).frozen? ⟨w.heap.size + 1, 0, none⟩ = false := U7.r1.free 0
            have d1 : w6.cell? ⟨w.heap.size + 1, 0, none⟩ = some (.slice S m cS) := U6.c1
            clear LB hg2 hf2 hz5 hz6 U6 U7 o7 oo bb B7 U hall
            go_wp2
            go_roundg (G - 1)
            case measure => exact hgk.out
            case rel => exact HN.out
           ·replace U := (U.next bb).next (w' := w6.alloc (.cells #[.slice none 0 0] 39)) ((Below.refl _ _).alloc (Nat.le_refl _) _)
            have hno : ∀ M, ¬ Short sg a b M := (fun M hM => (HA4.out.2 hlong) M hM.symm)
            have cR := U.c2
            have fR := U.f2
            have F1 := hid (uni_no (w := w) hno U.bel)
            have F2 := hid (uni_no (w := w) hno ((U.bel).setCell (p := ⟨w.heap.size + 1 + 1, 0, none⟩) (show w.heap.size ≤ w.heap.size + 1 + 1 by omega) (.slice none 0 0)))
            clear U hno LB bb c1
            go_wp2
            first
             | exact bodyPost_ret (v := .tuple #[.agg #[.slice none 0 0], .bool false]) (by simp [results, Try.results55, go_sem, cR]) rfl F1.out
             | exact bodyPost_ret (v := .tuple #[.agg #[.slice none 0 0], .bool false]) (by simp [results, Try.results55, go_sem, cR]) rfl F2.out
        ·have hp1 : p < 0 := by omega
         by_cases hq0 : q < 0
         ·by_cases hqp : q < p
          ·have HARM := hid (arm HY.out HX.out HG.out.symm HS.out.symm HEQ.out HEP.out (by omega))
           clear od hdn
           have c0 := U.c0
           go_wp2_with fail
           refine LX.out.mono ?_
           rintro e w5 ⟨D, dn, dc, rfl, od, bb⟩
           have hdn : dn ≤ 60 := by rw [Own.len od]; exact lenx
           replace U := U.next bb
           clear LX bb c0
           obtain ⟨v, hv⟩ : ∃ v : Nat, q = -1 - (v : Int) := ⟨(-1 - q).toNat, by omega⟩
           have HVR := hid (show vr q = v by unfold vr; omega)
           have HVV := hid hv
           clear hv
           have hv24 : v < 24 := by rw [← HVR.out]; exact HARM.out.2.1
           have HT1 := hid HARM.out.2.2.1
           have ht60 : (subL sg xs k).length ≤ 60 := by rw [← Own.len od]; exact hdn
           have sd := Own.seg od
           have kd := own_cap od
           obtain ⟨hm, ehm⟩ : ∃ z, decide (q ∈ subL sg xs k) = z := ⟨_, rfl⟩
           have HMM := hid ehm
           have LH := hid (l1Has D dn dc (subL sg xs k) q w5 sd (by omega))
           rw [ehm] at LH
           clear ehm
           cases hm with
           | true =>
            go_wp2_with fail
            refine LH.out.mono ?_
            rintro e w5 ⟨rfl, rfl⟩
            have hno : ∀ M, ¬ Short sg a b M := (fun M hM => (HARM.out.1 (of_decide_eq_true HMM.out)) M hM.symm)
            have cR := U.c2
            have fR := U.f2
            have F1 := hid (uni_no (w := w) hno U.bel)
            have F2 := hid (uni_no (w := w) hno ((U.bel).setCell (p := ⟨w.heap.size + 1 + 1, 0, none⟩) (show w.heap.size ≤ w.heap.size + 1 + 1 by omega) (.slice none 0 0)))
            clear U hno sd LH od
            go_wp2
            first
             | exact bodyPost_ret (v := .tuple #[.agg #[.slice none 0 0], .bool false]) (by simp [results, Try.results55, go_sem, cR]) rfl F1.out
             | exact bodyPost_ret (v := .tuple #[.agg #[.slice none 0 0], .bool false]) (by simp [results, Try.results55, go_sem, cR]) rfl F2.out
           | false =>
            have hwv : IntKind.i64.wrap (-1 - q) = (v : Int) := by have := HVV.out; rw [IntKind.wrap_i64]; omega
            have hwv2 := hid (show -1 - q = (v : Int) by have := HVV.out; omega)
            have HA4 := hid (HARM.out.2.2.2 (of_decide_eq_false HMM.out) (.inr hqp))
            rw [HVR.out] at HA4
            have c1 := U.c1
            have LB := hid (l5Bind S D m cS dn dc v ss (subL sg xs k) w5 U.sS.segs sd kd HG.out.tot hv24 HT1.out ht60 HG.out.g60 HG.out.neg)
            go_wp2_with fail
            refine LH.out.mono ?_
            rintro e w5 ⟨rfl, rfl⟩
            clear LH sd od
            go_wp2_with fail
            (try rw [hwv2.out])
            refine LB.out.mono ?_
            rintro e w6 ⟨bb, ⟨O, cO, rfl, oo, hall⟩ | ⟨rfl, hlong⟩⟩
            ·have hg2 := HA4.out.1 hall
             have hf2 := hg2.2
             have hz5 := U.size
             have hz6 := bb.size
             have U6 := U.next bb
             have B7 : Below w6.heap.size w6 (w6.alloc (.cells #[.slice O 24 cO] 39)) := (Below.refl _ _).alloc (Nat.le_refl _) _
             have U7 := U6.next B7
             have o7 : Owns (w6.alloc (.cells #[.slice O 24 cO] 39)) (w.heap.size + 1 + 1 + 1) (w6.alloc (.cells #[.slice O 24 cO] 39)).heap.size O 24 cO _ := (oo.next B7).wider (by omega) B7.size
             have HN := hid (show HeadU w A n c sg P pn a Q qn b (G - 1) ((w6.alloc (.cells #[.slice O 24 cO] 39)).setCell ⟨w.heap.size + 1, 0, none⟩ (.slice O 24 cO)) from ⟨O, 24, cO, _, U7.store o7, hg2.1.symm, by have := HFR.out; omega⟩)
             have hgk := hid (show G - 1 < G by have := HFR.out; omega)
             have c1 : (w6.alloc (.cells #[.slice O 24 cO] 39)).cell? ⟨w.heap.size + 1, 0, none⟩ = some (.slice S m cS) := U7.c1
             have f1 : (w6.alloc (.cells #[.slice O 24 cO] 39)).frozen? ⟨w.heap.size + 1, 0, none⟩ = false := U7.r1.free 0
             have d1 : w6.cell? ⟨w.heap.size + 1, 0, none⟩ = some (.slice S m cS) := U6.c1
             clear LB hg2 hf2 hz5 hz6 U6 U7 o7 oo bb B7 U hall
             go_wp2
             go_roundg (G - 1)
             case measure => exact hgk.out
             case rel => exact HN.out
            ·replace U := (U.next bb).next (w' := w6.alloc (.cells #[.slice none 0 0] 39)) ((Below.refl _ _).alloc (Nat.le_refl _) _)
             have hno : ∀ M, ¬ Short sg a b M := (fun M hM => (HA4.out.2 hlong) M hM.symm)
             have cR := U.c2
             have fR := U.f2
             have F1 := hid (uni_no (w := w) hno U.bel)
             have F2 := hid (uni_no (w := w) hno ((U.bel).setCell (p := ⟨w.heap.size + 1 + 1, 0, none⟩) (show w.heap.size ≤ w.heap.size + 1 + 1 by omega) (.slice none 0 0)))
             clear U hno LB bb c1
             go_wp2
             first
              | exact bodyPost_ret (v := .tuple #[.agg #[.slice none 0 0], .bool false]) (by simp [results, Try.results55, go_sem, cR]) rfl F1.out
              | exact bodyPost_ret (v := .tuple #[.agg #[.slice none 0 0], .bool false]) (by simp [results, Try.results55, go_sem, cR]) rfl F2.out
          ·have HARM := hid (arm HX.out HY.out HG.out HS.out HEP.out HEQ.out (by omega))
           clear LX
           obtain ⟨v, hv⟩ : ∃ v : Nat, p = -1 - (v : Int) := ⟨(-1 - p).toNat, by omega⟩
           have HVR := hid (show vr p = v by unfold vr; omega)
           have HVV := hid hv
           clear hv
           have hv24 : v < 24 := by rw [← HVR.out]; exact HARM.out.2.1
           have HT1 := hid HARM.out.2.2.1
           have ht60 : (subL sg ys k).length ≤ 60 := by rw [← Own.len od]; exact hdn
           have sd := Own.seg od
           have kd := own_cap od
           obtain ⟨hm, ehm⟩ : ∃ z, decide (p ∈ subL sg ys k) = z := ⟨_, rfl⟩
           have HMM := hid ehm
           have LH := hid (l1Has D dn dc (subL sg ys k) p w4 sd (by omega))
           rw [ehm] at LH
           clear ehm
           cases hm with
           | true =>
            go_wp2_with fail
            refine LH.out.mono ?_
            rintro e w5 ⟨rfl, rfl⟩
            have hno : ∀ M, ¬ Short sg a b M := HARM.out.1 (of_decide_eq_true HMM.out)
            have cR := U.c2
            have fR := U.f2
            have F1 := hid (uni_no (w := w) hno U.bel)
            have F2 := hid (uni_no (w := w) hno ((U.bel).setCell (p := ⟨w.heap.size + 1 + 1, 0, none⟩) (show w.heap.size ≤ w.heap.size + 1 + 1 by omega) (.slice none 0 0)))
            clear U hno sd LH od
            go_wp2
            first
             | exact bodyPost_ret (v := .tuple #[.agg #[.slice none 0 0], .bool false]) (by simp [results, Try.results55, go_sem, cR]) rfl F1.out
             | exact bodyPost_ret (v := .tuple #[.agg #[.slice none 0 0], .bool false]) (by simp [results, Try.results55, go_sem, cR]) rfl F2.out
           | false =>
            have hwv : IntKind.i64.wrap (-1 - p) = (v : Int) := by have := HVV.out; rw [IntKind.wrap_i64]; omega
            have hwv2 := hid (show -1 - p = (v : Int) by have := HVV.out; omega)
            have HA4 := hid (HARM.out.2.2.2 (of_decide_eq_false HMM.out) (.inr (by omega)))
            rw [HVR.out] at HA4
            have c1 := U.c1
            have LB := hid (l5Bind S D m cS dn dc v ss (subL sg ys k) w4 U.sS.segs sd kd HG.out.tot hv24 HT1.out ht60 HG.out.g60 HG.out.neg)
            go_wp2_with fail
            refine LH.out.mono ?_
            rintro e w5 ⟨rfl, rfl⟩
            clear LH sd od
            go_wp2_with fail
            (try rw [hwv2.out])
            refine LB.out.mono ?_
            rintro e w6 ⟨bb, ⟨O, cO, rfl, oo, hall⟩ | ⟨rfl, hlong⟩⟩
            ·have hg2 := HA4.out.1 hall
             have hf2 := hg2.2
             have hz5 := U.size
             have hz6 := bb.size
             have U6 := U.next bb
             have B7 : Below w6.heap.size w6 (w6.alloc (.cells #[.slice O 24 cO] 39)) := (Below.refl _ _).alloc (Nat.le_refl _) _
             have U7 := U6.next B7
             have o7 : Owns (w6.alloc (.cells #[.slice O 24 cO] 39)) (w.heap.size + 1 + 1 + 1) (w6.alloc (.cells #[.slice O 24 cO] 39)).heap.size O 24 cO _ := (oo.next B7).wider (by omega) B7.size
             have HN := hid (show HeadU w A n c sg P pn a Q qn b (G - 1) ((w6.alloc (.cells #[.slice O 24 cO] 39)).setCell ⟨w.heap.size + 1, 0, none⟩ (.slice O 24 cO)) from ⟨O, 24, cO, _, U7.store o7, hg2.1, by have := HFR.out; omega⟩)
             have hgk := hid (show G - 1 < G by have := HFR.out; omega)
             have c1 : (w6.alloc (.cells #[.slice O 24 cO] 39)).cell? ⟨w.heap.size + 1, 0, none⟩ = some (.slice S m cS) := U7.c1
             have f1 : (w6.alloc (.cells #[.slice O 24 cO] 39)).frozen? ⟨w.heap.size + 1, 0, none⟩ = false := U7.r1.free 0
             have d1 : w6.cell? ⟨w.heap.size + 1, 0, none⟩ = some (.slice S m cS) := U6.c1
             clear LB hg2 hf2 hz5 hz6 U6 U7 o7 oo bb B7 U hall
             go_wp2
             go_roundg (G - 1)
             case measure => exact hgk.out
             case rel => exact HN.out
            ·replace U := (U.next bb).next (w' := w6.alloc (.cells #[.slice none 0 0] 39)) ((Below.refl _ _).alloc (Nat.le_refl _) _)
             have hno : ∀ M, ¬ Short sg a b M := HA4.out.2 hlong
             have cR := U.c2
             have fR := U.f2
             have F1 := hid (uni_no (w := w) hno U.bel)
             have F2 := hid (uni_no (w := w) hno ((U.bel).setCell (p := ⟨w.heap.size + 1 + 1, 0, none⟩) (show w.heap.size ≤ w.heap.size + 1 + 1 by omega) (.slice none 0 0)))
             clear U hno LB bb c1
             go_wp2
             first
              | exact bodyPost_ret (v := .tuple #[.agg #[.slice none 0 0], .bool false]) (by simp [results, Try.results55, go_sem, cR]) rfl F1.out
              | exact bodyPost_ret (v := .tuple #[.agg #[.slice none 0 0], .bool false]) (by simp [results, Try.results55, go_sem, cR]) rfl F2.out
         ·have hq1 : 0 ≤ q := by omega
          have HARM := hid (arm HX.out HY.out HG.out HS.out HEP.out HEQ.out (by omega))
          clear LX
          obtain ⟨v, hv⟩ : ∃ v : Nat, p = -1 - (v : Int) := ⟨(-1 - p).toNat, by omega⟩
          have HVR := hid (show vr p = v by unfold vr; omega)
          have HVV := hid hv
          clear hv
          have hv24 : v < 24 := by rw [← HVR.out]; exact HARM.out.2.1
          have HT1 := hid HARM.out.2.2.1
          have ht60 : (subL sg ys k).length ≤ 60 := by rw [← Own.len od]; exact hdn
          have sd := Own.seg od
          have kd := own_cap od
          obtain ⟨hm, ehm⟩ : ∃ z, decide (p ∈ subL sg ys k) = z := ⟨_, rfl⟩
          have HMM := hid ehm
          have LH := hid (l1Has D dn dc (subL sg ys k) p w4 sd (by omega))
          rw [ehm] at LH
          clear ehm
          cases hm with
          | true =>
           go_wp2_with fail
           refine LH.out.mono ?_
           rintro e w5 ⟨rfl, rfl⟩
           have hno : ∀ M, ¬ Short sg a b M := HARM.out.1 (of_decide_eq_true HMM.out)
           have cR := U.c2
           have fR := U.f2
           have F1 := hid (uni_no (w := w) hno U.bel)
           have F2 := hid (uni_no (w := w) hno ((U.bel).setCell (p := ⟨w.heap.size + 1 + 1, 0, none⟩) (show w.heap.size ≤ w.heap.size + 1 + 1 by omega) (.slice none 0 0)))
           clear U hno sd LH od
           go_wp2
           first
            | exact bodyPost_ret (v := .tuple #[.agg #[.slice none 0 0], .bool false]) (by simp [results, Try.results55, go_sem, cR]) rfl F1.out
            | exact bodyPost_ret (v := .tuple #[.agg #[.slice none 0 0], .bool false]) (by simp [results, Try.results55, go_sem, cR]) rfl F2.out
          | false =>
           have hwv : IntKind.i64.wrap (-1 - p) = (v : Int) := by have := HVV.out; rw [IntKind.wrap_i64]; omega
           have hwv2 := hid (show -1 - p = (v : Int) by have := HVV.out; omega)
           have HA4 := hid (HARM.out.2.2.2 (of_decide_eq_false HMM.out) (.inl hq1))
           rw [HVR.out] at HA4
           have c1 := U.c1
           have LB := hid (l5Bind S D m cS dn dc v ss (subL sg ys k) w4 U.sS.segs sd kd HG.out.tot hv24 HT1.out ht60 HG.out.g60 HG.out.neg)
           go_wp2_with fail
           refine LH.out.mono ?_
           rintro e w5 ⟨rfl, rfl⟩
           clear LH sd od
           go_wp2_with fail
           (try rw [hwv2.out])
           refine LB.out.mono ?_
           rintro e w6 ⟨bb, ⟨O, cO, rfl, oo, hall⟩ | ⟨rfl, hlong⟩⟩
           ·have hg2 := HA4.out.1 hall
            have hf2 := hg2.2
            have hz5 := U.size
            have hz6 := bb.size
            have U6 := U.next bb
            have B7 : Below w6.heap.size w6 (w6.alloc (.cells #[.slice O 24 cO] 39)) := (Below.refl _ _).alloc (Nat.le_refl _) _
            have U7 := U6.next B7
            have o7 : Owns (w6.alloc (.cells #[.slice O 24 cO] 39)) (w.heap.size + 1 + 1 + 1) (w6.alloc (.cells #[.slice O 24 cO] 39)).heap.size O 24 cO _ := (oo.next B7).wider (by omega) B7.size
            have HN := hid (show HeadU w A n c sg P pn a Q qn b (G - 1) ((w6.alloc (.cells #[.slice O 24 cO] 39)).setCell ⟨w.heap.size + 1, 0, none⟩ (.slice O 24 cO)) from ⟨O, 24, cO, _, U7.store o7, hg2.1, by have := HFR.out; omega⟩)
            have hgk := hid (show G - 1 < G by have := HFR.out; omega)
            have c1 : (w6.alloc (.cells #[.slice O 24 cO] 39)).cell? ⟨w.heap.size + 1, 0, none⟩ = some (.slice S m cS) := U7.c1
            have f1 : (w6.alloc (.cells #[.slice O 24 cO] 39)).frozen? ⟨w.heap.size + 1, 0, none⟩ = false := U7.r1.free 0
            have d1 : w6.cell? ⟨w.heap.size + 1, 0, none⟩ = some (.slice S m cS) := U6.c1
            clear LB hg2 hf2 hz5 hz6 U6 U7 o7 oo bb B7 U hall
            go_wp2
            go_roundg (G - 1)
            case measure => exact hgk.out
            case rel => exact HN.out
           ·replace U := (U.next bb).next (w' := w6.alloc (.cells #[.slice none 0 0] 39)) ((Below.refl _ _).alloc (Nat.le_refl _) _)
            have hno : ∀ M, ¬ Short sg a b M := HA4.out.2 hlong
            have cR := U.c2
            have fR := U.f2
            have F1 := hid (uni_no (w := w) hno U.bel)
            have F2 := hid (uni_no (w := w) hno ((U.bel).setCell (p := ⟨w.heap.size + 1 + 1, 0, none⟩) (show w.heap.size ≤ w.heap.size + 1 + 1 by omega) (.slice none 0 0)))
            clear U hno LB bb c1
            go_wp2
            first
             | exact bodyPost_ret (v := .tuple #[.agg #[.slice none 0 0], .bool false]) (by simp [results, Try.results55, go_sem, cR]) rfl F1.out
             | exact bodyPost_ret (v := .tuple #[.agg #[.slice none 0 0], .bool false]) (by simp [results, Try.results55, go_sem, cR]) rfl F2.out
      ·have hyk : k = yn := by omega
       have := unifMath.differ HTX.out HTY.out HPRE.out (by rw [HLX.out]; omega) (by rw [HLY.out]; omega) (.inr (by rw [HLY.out]; exact hyk))
       have h1 := HLX.out
       rw [this, HLY.out] at h1
       omega
     ·have hxk : k = xn := by have := HKG.out; omega
      have he : fillL (givesL ss) a = fillL (givesL ss) b := by
       rw [← HX.out, ← HY.out]
       exact unifMath.differ HTX.out HTY.out HPRE.out (by rw [HLX.out]; omega) (by rw [HLY.out]; omega) (.inl (by rw [HLX.out]; exact hxk))
      have j1 : (xn : Int) ≤ (k : Int) := by omega
      have jj : ((k : Int) == (xn : Int)) = true := by simp [hxk]
      clear sx sy
      go_wp2_with fail
      go_quiet (fail)
      replace U := U.next (drew_below wr nq)
      generalize wr.drewN nq = w9 at *
      have cR := U.c2
      have fR := U.f2
      have c1 := U.c1
      have F : AnsUni w sg a b (.returned (.tuple #[.agg #[.slice S m cS], .bool true])) (w9.setCell ⟨w.heap.size + 1 + 1, 0, none⟩ (.slice S m cS)) :=
       ⟨(U.bel).setCell (p := ⟨w.heap.size + 1 + 1, 0, none⟩) (show w.heap.size ≤ w.heap.size + 1 + 1 by omega) _, .inl ⟨S, m, cS, ss, rfl, (owns_put U.sS U.r2 (Nat.lt_succ_self _) 0 _).wider (by omega) (by simp), HG.out, he, (fit_yes HFA.out).2⟩⟩
      have HF := hid F
      clear F U hxk he
      go_wp2
      exact bodyPost_ret (v := .tuple #[.agg #[.slice S m cS], .bool true]) (by simp [results, Try.results55, go_sem, cR]) rfl HF.out
end unifSpec
end
section
open Go.Lib (hid)
namespace inside
open Go.RowKit base ints sig term arity endOf cursor termOk endAt
set_option maxRecDepth 100000
def Tells (w : World) (b : Bool) (e : Ending) (w' : World) : Prop := e = .returned (.bool b) ∧ Below w.heap.size w w'
structure Fr (w wr : World) (A : Option Addr) (n c : Nat) (sg : List Int) (A' : Option Addr) (m : Nat) (t : List Int) : Prop where
 r : Row wr w.heap.size 29 #[.slice A n c]
 s : Seg wr w.heap.size A n sg
 s' : Seg wr w.heap.size A' m t
 b : Below w.heap.size w wr
section
variable {w wr w' : World} {A : Option Addr} {n c : Nat} {sg : List Int} {A' : Option Addr} {m : Nat} {t : List Int}
theorem Fr.start (h : Seg w w.heap.size A n sg) (h' : Seg w w.heap.size A' m t) : Fr w (w.alloc (.cells #[.slice A n c] 29)) A n c sg A' m t :=
 have b : Below w.heap.size w (w.alloc (.cells #[.slice A n c] 29)) := (Below.refl _ _).alloc (Nat.le_refl _) _
 ⟨Row.new _ _ _, h.below b, h'.below b, b⟩
theorem Fr.next (f : Fr w wr A n c sg A' m t) (hb : Below wr.heap.size wr w') : Fr w w' A n c sg A' m t :=
 have b : Below w.heap.size wr w' := hb.mono (Nat.le_of_lt f.r.lt)
 ⟨f.r.next hb, f.s.below b, f.s'.below b, f.b.trans b⟩
theorem Fr.over (f : Fr w wr A n c sg A' m t) (hb : Below (w.heap.size + 1) wr w') : Fr w w' A n c sg A' m t :=
 have b : Below w.heap.size wr w' := hb.mono (Nat.le_succ _)
 ⟨f.r.below hb (Nat.lt_succ_self _), f.s.below b, f.s'.below b, f.b.trans b⟩
theorem Fr.s1 (f : Fr w wr A n c sg A' m t) : Seg wr wr.heap.size A n sg := f.s.more (Nat.le_of_lt f.r.lt)
theorem Fr.t1 (f : Fr w wr A n c sg A' m t) : Seg wr wr.heap.size A' m t := f.s'.more (Nat.le_of_lt f.r.lt)
theorem Fr.size (f : Fr w wr A n c sg A' m t) : w.heap.size < wr.heap.size := f.r.lt
end
set_option maxHeartbeats 1000000 in
theorem right (A A' : Option Addr) (n c m c' : Nat) (sg t : List Int) (x : Int) (w : World) (h : Seg w w.heap.size A n sg) (h' : Seg w w.heap.size A' m t) (hn : n ≤ 1048576) (hm : m ≤ 1048576) :
  Calls Try.prog 124 #[.agg #[.slice A n c], .slice A' m c', .int .i64 x] w (Tells w (thereB sg t x)) := by
 obtain ⟨W, hW⟩ : ∃ W, W = w.alloc (.cells #[.slice A n c] 29) := ⟨_, rfl⟩
 have f : Fr w W A n c sg A' m t := by rw [hW]; exact Fr.start h h'
 have HW := hid hW
 have HL := hid h'.1
 have L := hid (specTermOk A A' n c m c' sg t W f.s1 f.t1 hn hm)
 clear hW h h'
 cases hok : termOkB sg t with
 | false =>
  have HS := hid hok
  have HT := hid (there_no (x := x) (.inl hok))
  clear hok
  go_enter Try.func124, Try.ntmps124
  go_wp2_with fail
  rw [← HW.out]
  refine L.out.mono ?_
  rintro e w1 ⟨he, bb⟩
  rw [HS.out] at he
  subst he
  have F := hid (show Tells w (thereB sg t x) (.returned (.bool false)) w1 from ⟨by rw [HT.out], (f.next bb).b⟩)
  clear f L bb HT
  go_wp2
  go_ret
  exact F.out
 | true =>
  have HS := hid hok
  obtain ⟨b, hb⟩ : ∃ b, decide (0 ≤ x ∧ x < (m : Int)) = b := ⟨_, rfl⟩
  have HD := hid hb
  have HT : thereB sg t x = b := by unfold thereB inB; rw [hok, HL.out, hb]; rfl
  replace HT := hid HT
  clear hok hb
  go_enter Try.func124, Try.ntmps124
  go_wp2_with fail
  rw [← HW.out]
  refine L.out.mono ?_
  rintro e w1 ⟨he, bb⟩
  rw [HS.out] at he
  subst he
  have F := hid (show Tells w (thereB sg t x) (.returned (.bool b)) w1 from ⟨by rw [HT.out], (f.next bb).b⟩)
  clear f L bb HT
  go_wp2_with fail
  refine (there _ _ _ x b _ hm HD.out).mono ?_
  rintro e w2 ⟨rfl, rfl⟩
  go_wp2
  go_ret
  exact F.out
end inside
end
section
open Go.Lib (hid)
namespace unified
open Go.RowKit base ints sig term termOk endAt sub cursor marks app sym Go.Proofs.Ytobedfmagjgdcaa.look segs segsHelp kinds termFacts fillMath substOk gives shifted filled plainMath plain plainOf compMath rename matchMath unifMath bind unifSpec inside
set_option maxRecDepth 100000
def AnsUB (w : World) (xss : List (List Int)) (b : Bool) (e : Ending) (w' : World) : Prop := ∃ A n c, e = .returned (.tuple #[.agg #[.slice A n c], .bool b]) ∧ Owns w' w.heap.size w'.heap.size A n c xss ∧ Below w.heap.size w w'
theorem ub_off {w w' : World} {sg a b : List Int} {v : Bool} {F : List (List Int)} (hU : IsU sg a b v F) (h : termOkB sg a = false ∨ termOkB sg b = false) (hb : Below w.heap.size w w') : AnsUB w F v (.returned (.tuple #[.agg #[.slice none 0 0], .bool false])) w' := by
 obtain ⟨rfl, rfl⟩ := isU_one hU (isU_off h)
 exact ⟨none, 0, 0, rfl, Owns.nil _ _ _, hb⟩
structure Mr (w wr : World) (A : Option Addr) (n c : Nat) (sg : List Int) (P : Option Addr) (pn : Nat) (p : List Int) (Q : Option Addr) (m : Nat) (t : List Int) : Prop where
 r0 : Row wr w.heap.size 29 #[.slice A n c]
 r1 : Row wr (w.heap.size + 1) 39 #[.slice none 0 0]
 ss : Seg wr wr.heap.size A n sg
 sp : Seg wr wr.heap.size P pn p
 st : Seg wr wr.heap.size Q m t
 b : Below w.heap.size w wr
section
variable {w wr w' : World} {A : Option Addr} {n c : Nat} {sg : List Int} {P : Option Addr} {pn : Nat} {p : List Int} {Q : Option Addr} {m : Nat} {t : List Int}
theorem Mr.start (h : Seg w w.heap.size A n sg) (hp : Seg w w.heap.size P pn p) (ht : Seg w w.heap.size Q m t) : Mr w ((w.alloc (.cells #[.slice A n c] 29)).alloc (.cells #[.slice none 0 0] 39)) A n c sg P pn p Q m t :=
 have b : Below w.heap.size w ((w.alloc (.cells #[.slice A n c] 29)).alloc (.cells #[.slice none 0 0] 39)) := ((Below.refl _ _).alloc (Nat.le_refl _) _).alloc (by simp) _
 ⟨(Row.new w _ _).alloc _, by have := Row.new (w.alloc (.cells #[.slice A n c] 29)) 39 #[.slice none 0 0]; simpa using this, h.next b, hp.next b, ht.next b, b⟩
theorem Mr.next (h : Mr w wr A n c sg P pn p Q m t) (hb : Below wr.heap.size wr w') : Mr w w' A n c sg P pn p Q m t :=
 ⟨h.r0.next hb, h.r1.next hb, h.ss.next hb, h.sp.next hb, h.st.next hb, next_trans h.b hb⟩
end
set_option maxHeartbeats 1000000 in
theorem specUnified (A P Q : Option Addr) (n c pn pc m mc : Nat) (sg p t : List Int) (w : World) (v : Bool) (F : List (List Int)) (hU : IsU sg p t v F) (h : Seg w w.heap.size A n sg) (hp : Seg w w.heap.size P pn p) (ht : Seg w w.heap.size Q m t) (hn : n ≤ 1048576) (hpn : pn ≤ 1048576) (hm : m ≤ 1048576) :
  Calls Try.prog 22 #[.agg #[.slice A n c], .slice P pn pc, .slice Q m mc] w (AnsUB w F v) := by
 obtain ⟨W, hW⟩ : ∃ W, W = (w.alloc (.cells #[.slice A n c] 29)).alloc (.cells #[.slice none 0 0] 39) := ⟨_, rfl⟩
 have M : Mr w W A n c sg P pn p Q m t := by rw [hW]; exact Mr.start h hp ht
 have HW := hid hW
 have L := hid (specTermOk A P n c pn pc sg p W M.ss M.sp hn hpn)
 have c0 : W.cell? ⟨w.heap.size, 0, none⟩ = some (.slice A n c) := M.r0.cell 0
 have c00 : ((w.alloc (.cells #[.slice A n c] 29)).alloc (.cells #[.slice none 0 0] 39)).cell? ⟨w.heap.size, 0, none⟩ = some (.slice A n c) := by rw [← hW]; exact c0
 have HU := hid hU
 clear hU hW h hp ht
 cases hokp : termOkB sg p with
 | false =>
  have HS := hid hokp
  clear hokp
  go_enter Try.func22, Try.ntmps22
  go_wp2_with fail
  rw [← HW.out]
  refine L.out.mono ?_
  rintro e w1 ⟨he, bb⟩
  rw [HS.out] at he
  subst he
  replace M := M.next bb
  have cR : w1.cell? ⟨w.heap.size + 1, 0, none⟩ = some (.slice none 0 0) := M.r1.cell 0
  have fR : w1.frozen? ⟨w.heap.size + 1, 0, none⟩ = false := M.r1.free 0
  have F1 := hid (ub_off (w := w) HU.out (.inl HS.out) M.b)
  have F2 := hid (ub_off (w := w) HU.out (.inl HS.out) ((M.b).setCell (p := ⟨w.heap.size + 1, 0, none⟩) (show w.heap.size ≤ w.heap.size + 1 by omega) (.slice none 0 0)))
  clear M L bb c0 c00
  go_wp2
  first
   | exact bodyPost_ret (v := .tuple #[.agg #[.slice none 0 0], .bool false]) (by simp [results, Try.results22, go_sem, cR]) rfl F1.out
   | exact bodyPost_ret (v := .tuple #[.agg #[.slice none 0 0], .bool false]) (by simp [results, Try.results22, go_sem, cR]) rfl F2.out
 | true =>
  have HSP := hid hokp
  have hp60 : pn ≤ 60 := by have h1 := (termOk_parts hokp).2.1; rw [M.sp.1] at h1; exact h1
  clear hokp
  cases hokt : termOkB sg t with
  | false =>
   have HS := hid hokt
   clear hokt
   go_enter Try.func22, Try.ntmps22
   go_wp2_with fail
   rw [← HW.out]
   refine L.out.mono ?_
   rintro e w1 ⟨he, bb⟩
   rw [HSP.out] at he
   subst he
   replace M := M.next bb
   clear bb L c0 c00
   have c0 : w1.cell? ⟨w.heap.size, 0, none⟩ = some (.slice A n c) := M.r0.cell 0
   go_wp2_with fail
   refine (specTermOk A Q n c m mc sg t _ M.ss M.st hn hm).mono ?_
   rintro e w2 ⟨he, bb⟩
   rw [HS.out] at he
   subst he
   replace M := M.next bb
   have cR : w2.cell? ⟨w.heap.size + 1, 0, none⟩ = some (.slice none 0 0) := M.r1.cell 0
   have fR : w2.frozen? ⟨w.heap.size + 1, 0, none⟩ = false := M.r1.free 0
   have F1 := hid (ub_off (w := w) HU.out (.inr HS.out) M.b)
   have F2 := hid (ub_off (w := w) HU.out (.inr HS.out) ((M.b).setCell (p := ⟨w.heap.size + 1, 0, none⟩) (show w.heap.size ≤ w.heap.size + 1 by omega) (.slice none 0 0)))
   clear M bb c0
   go_wp2
   first
    | exact bodyPost_ret (v := .tuple #[.agg #[.slice none 0 0], .bool false]) (by simp [results, Try.results22, go_sem, cR]) rfl F1.out
    | exact bodyPost_ret (v := .tuple #[.agg #[.slice none 0 0], .bool false]) (by simp [results, Try.results22, go_sem, cR]) rfl F2.out
  | true =>
   have HST := hid hokt
   have hm60 : m ≤ 60 := by have h1 := (termOk_parts hokt).2.1; rw [M.st.1] at h1; exact h1
   clear hokt
   go_enter Try.func22, Try.ntmps22
   go_wp2_with fail
   rw [← HW.out]
   refine L.out.mono ?_
   rintro e w1 ⟨he, bb⟩
   rw [HSP.out] at he
   subst he
   replace M := M.next bb
   clear bb L c0 c00
   have c0 : w1.cell? ⟨w.heap.size, 0, none⟩ = some (.slice A n c) := M.r0.cell 0
   go_wp2_with fail
   refine (specTermOk A Q n c m mc sg t _ M.ss M.st hn hm).mono ?_
   rintro e w2 ⟨he, bb⟩
   rw [HST.out] at he
   subst he
   replace M := M.next bb
   clear bb c0
   have c0 : w2.cell? ⟨w.heap.size, 0, none⟩ = some (.slice A n c) := M.r0.cell 0
   go_wp2_with fail
   refine (l5Unify A P Q n c pn pc m mc sg p t _ M.ss M.sp M.st hn hp60 hm60 HSP.out HST.out).mono ?_
   rintro e w3 ⟨bb, ⟨S, sm, cS, ss, rfl, os, hg, he, hl⟩ | ⟨rfl, hno⟩⟩
   ·obtain ⟨hv, hF⟩ := isU_one HU.out (isU_mg HSP.out HST.out (hg.part.done he) hg.g60 hl)
    have hsm : ss.length = sm := os.len
    have HF := hid (show plainL (givesL ss) sm = F by rw [hF]; exact (plain_24 (by rw [← hsm]; exact hg.len) (fun i hi => gives_out (by rw [hsm]; omega))).symm)
    have htot := hg.tot
    have B4 : Below w3.heap.size w3 (w3.alloc (.cells #[.slice S sm cS] 39)) := (Below.refl _ _).alloc (Nat.le_refl _) _
    have M4 := (M.next bb).next B4
    have LP := hid (l2Plain S sm cS ss (w3.alloc (.cells #[.slice S sm cS] 39)) (os.segs.next B4) htot)
    subst hv
    have z4 := M4.b.size
    have z5 := M4.r1.lt
    clear M bb os hg he hl hF hsm htot B4 c0
    go_wp2_with fail
    refine LP.out.mono ?_
    rintro e w5 ⟨D, dn, dc, rfl, od, bb⟩
    rw [HF.out] at od
    have M5 := M4.next bb
    have cR : w5.cell? ⟨w.heap.size + 1, 0, none⟩ = some (.slice none 0 0) := M5.r1.cell 0
    have fR : w5.frozen? ⟨w.heap.size + 1, 0, none⟩ = false := M5.r1.free 0
    have G : AnsUB w F true (.returned (.tuple #[.agg #[.slice D dn dc], .bool true])) (w5.setCell ⟨w.heap.size + 1, 0, none⟩ (.slice D dn dc)) := by
     have hbt : Btw (w.heap.size + 1) (w.heap.size + 2) w5 (w5.setCell ⟨w.heap.size + 1, 0, none⟩ (.slice D dn dc)) := Btw.of_grown (grown_put (World.grownBy.refl _ _) _ _) (fun k hk => by injection hk; omega)
     have o2 := od.btw hbt (.inr (by simp at z5 ⊢; omega))
     exact ⟨D, dn, dc, rfl, o2.wider (by simp at z4 ⊢; omega) (by simp), (M5.b).setCell (p := ⟨w.heap.size + 1, 0, none⟩) (show w.heap.size ≤ w.heap.size + 1 by omega) _⟩
    have HG := hid G
    clear G od bb M4 M5 LP
    go_wp2
    exact bodyPost_ret (v := .tuple #[.agg #[.slice D dn dc], .bool true]) (by simp [results, Try.results22, go_sem, cR]) rfl HG.out
   ·obtain ⟨hv, hF⟩ := isU_one HU.out (isU_no (a := p) (b := t) hno)
    subst hv
    subst hF
    have M3 := (M.next bb).next (w' := w3.alloc (.cells #[.slice none 0 0] 39)) ((Below.refl _ _).alloc (Nat.le_refl _) _)
    have cR : (w3.alloc (.cells #[.slice none 0 0] 39)).cell? ⟨w.heap.size + 1, 0, none⟩ = some (.slice none 0 0) := M3.r1.cell 0
    have fR : (w3.alloc (.cells #[.slice none 0 0] 39)).frozen? ⟨w.heap.size + 1, 0, none⟩ = false := M3.r1.free 0
    have F1 := hid (show AnsUB w [] false (.returned (.tuple #[.agg #[.slice none 0 0], .bool false])) _ from ⟨none, 0, 0, rfl, Owns.nil _ _ _, M3.b⟩)
    have F2 := hid (show AnsUB w [] false (.returned (.tuple #[.agg #[.slice none 0 0], .bool false])) ((w3.alloc (.cells #[.slice none 0 0] 39)).setCell ⟨w.heap.size + 1, 0, none⟩ (.slice none 0 0)) from ⟨none, 0, 0, rfl, Owns.nil _ _ _, (M3.b).setCell (p := ⟨w.heap.size + 1, 0, none⟩) (show w.heap.size ≤ w.heap.size + 1 by omega) _⟩)
    clear M M3 bb hno c0
    go_wp2
    first
     | exact bodyPost_ret (v := .tuple #[.agg #[.slice none 0 0], .bool false]) (by simp [results, Try.results22, go_sem, cR]) rfl F1.out
     | exact bodyPost_ret (v := .tuple #[.agg #[.slice none 0 0], .bool false]) (by simp [results, Try.results22, go_sem, cR]) rfl F2.out
end unified
end
section
open Go.Lib (hid)
namespace unifImpl
open Go.RowKit base ints sig term termOk endAt cursor marks segs segsHelp kinds fillMath Go.Proofs.Ytobedfmagjgdcaa.look plainMath plain unifMath unifDom thn unifRep unifStep unifRun unified inside
set_option maxRecDepth 100000
theorem catch_panicking (u : TypeId) (pv : Value) (older : List PanicEntry) (w : World) :
  CallsD Try.prog 58 #[] (.panicking ({ v := .iface u pv, recovered := false } :: older)) w fun e u' w' =>
   e = .returned (.tuple #[]) ∧ u' = .panicking ({ v := .iface u pv, recovered := true } :: older) ∧ w' = w := by
 refine callsD_of_wpS Try.func58 rfl fun c₀ cs hu => ?_
 apply wpS_region
 simp [wpOpsS, go_sem, recoverD, hu, Try.ntmps58, Exit.thenS, bodyPostS, results, Try.results58]
theorem catch_idle (w : World) :
  CallsD Try.prog 58 #[] .returning w fun e u' w' => e = .returned (.tuple #[]) ∧ u' = .returning ∧ w' = w := by
 refine callsD_of_wpS Try.func58 rfl fun c₀ cs hu => ?_
 apply wpS_region
 cases c₀
 simp_all [wpOpsS, go_sem, recoverD, Try.ntmps58, Exit.thenS, bodyPostS, results, Try.results58]
set_option maxHeartbeats 2000000 in
theorem implUnified (A P Q : Option Addr) (n c pn pc m mc : Nat) (sg p t : List Int) (w : World) (v : Bool) (F : List (List Int)) (hU : IsU sg p t v F) (h : Seg w w.heap.size A n sg) (hp : Seg w w.heap.size P pn p) (ht : Seg w w.heap.size Q m t) (hn : n ≤ 1048576) (hpn : pn ≤ 1048576) (hm : m ≤ 1048576) (kp : Cap P pn pc) (kq : Cap Q m mc) :
  Calls Try.prog 24 #[.agg #[.slice A n c], .slice P pn pc, .slice Q m mc] w (AnsUB w F v) := by
 obtain ⟨W, hW⟩ : ∃ W, W = (w.alloc (.cells #[.slice A n c] 29)).alloc (.cells #[.slice none 0 0] 39) := ⟨_, rfl⟩
 have M : Mr w W A n c sg P pn p Q m t := by rw [hW]; exact Mr.start h hp ht
 have HW := hid hW
 have L := hid (implTermOk A P n c pn pc sg p W M.ss M.sp hn hpn)
 have c0 : W.cell? ⟨w.heap.size, 0, none⟩ = some (.slice A n c) := M.r0.cell 0
 have c00 : ((w.alloc (.cells #[.slice A n c] 29)).alloc (.cells #[.slice none 0 0] 39)).cell? ⟨w.heap.size, 0, none⟩ = some (.slice A n c) := by rw [← hW]; exact c0
 have HU := hid hU
 have hmf : ∀ (fn : Fn) (first cap : Array Value) (w : World), (Instr.makeFunc fn first cap).run Try.prog w = .ok (.func fn first cap) w := fun _ _ _ _ => rfl
 clear hU hW h hp ht
 cases hokp : termOkB sg p with
 | false =>
  have HS := hid hokp
  clear hokp
  go_enter_defers Try.func24, Try.ntmps24
  go_wp2_with fail
  rw [← HW.out]
  refine L.out.mono ?_
  rintro e w1 ⟨he, bb⟩
  rw [HS.out] at he
  subst he
  replace M := M.next bb
  have cR : w1.cell? ⟨w.heap.size + 1, 0, none⟩ = some (.slice none 0 0) := M.r1.cell 0
  have fR : w1.frozen? ⟨w.heap.size + 1, 0, none⟩ = false := M.r1.free 0
  have F1 := hid (ub_off (w := w) HU.out (.inl HS.out) M.b)
  have F2 := hid (ub_off (w := w) HU.out (.inl HS.out) ((M.b).setCell (p := ⟨w.heap.size + 1, 0, none⟩) (show w.heap.size ≤ w.heap.size + 1 by omega) (.slice none 0 0)))
  clear M L bb c0 c00
  go_wp2
  first
   | exact ⟨.tuple #[.agg #[.slice none 0 0], .bool false], by simp [results, Try.results24, go_sem, cR], F1.out⟩
   | exact ⟨.tuple #[.agg #[.slice none 0 0], .bool false], by simp [results, Try.results24, go_sem, cR], F2.out⟩
 | true =>
  have HSP := hid hokp
  have hp60 : pn ≤ 60 := by have h1 := (termOk_parts hokp).2.1; rw [M.sp.1] at h1; exact h1
  clear hokp
  cases hokt : termOkB sg t with
  | false =>
   have HS := hid hokt
   clear hokt
   go_enter_defers Try.func24, Try.ntmps24
   go_wp2_with fail
   rw [← HW.out]
   refine L.out.mono ?_
   rintro e w1 ⟨he, bb⟩
   rw [HSP.out] at he
   subst he
   replace M := M.next bb
   clear bb L c0 c00
   have c0 : w1.cell? ⟨w.heap.size, 0, none⟩ = some (.slice A n c) := M.r0.cell 0
   go_wp2_with fail
   refine (implTermOk A Q n c m mc sg t _ M.ss M.st hn hm).mono ?_
   rintro e w2 ⟨he, bb⟩
   rw [HS.out] at he
   subst he
   replace M := M.next bb
   have cR : w2.cell? ⟨w.heap.size + 1, 0, none⟩ = some (.slice none 0 0) := M.r1.cell 0
   have fR : w2.frozen? ⟨w.heap.size + 1, 0, none⟩ = false := M.r1.free 0
   have F1 := hid (ub_off (w := w) HU.out (.inr HS.out) M.b)
   have F2 := hid (ub_off (w := w) HU.out (.inr HS.out) ((M.b).setCell (p := ⟨w.heap.size + 1, 0, none⟩) (show w.heap.size ≤ w.heap.size + 1 by omega) (.slice none 0 0)))
   clear M bb c0
   go_wp2
   first
    | exact ⟨.tuple #[.agg #[.slice none 0 0], .bool false], by simp [results, Try.results24, go_sem, cR], F1.out⟩
    | exact ⟨.tuple #[.agg #[.slice none 0 0], .bool false], by simp [results, Try.results24, go_sem, cR], F2.out⟩
  | true =>
   have HST := hid hokt
   have hm60 : m ≤ 60 := by have h1 := (termOk_parts hokt).2.1; rw [M.st.1] at h1; exact h1
   clear hokt
   go_enter_defers Try.func24, Try.ntmps24
   go_wp2_with fail
   rw [← HW.out]
   refine L.out.mono ?_
   rintro e w1 ⟨he, bb⟩
   rw [HSP.out] at he
   subst he
   replace M := M.next bb
   clear bb L c0 c00
   have c0 : w1.cell? ⟨w.heap.size, 0, none⟩ = some (.slice A n c) := M.r0.cell 0
   go_wp2_with fail
   refine (implTermOk A Q n c m mc sg t _ M.ss M.st hn hm).mono ?_
   rintro e w2 ⟨he, bb⟩
   rw [HST.out] at he
   subst he
   replace M := M.next bb
   clear bb c0
   have c0 : w2.cell? ⟨w.heap.size, 0, none⟩ = some (.slice A n c) := M.r0.cell 0
   obtain ⟨W3, hW3⟩ : ∃ W3, W3 = w2.alloc (.cells #[.slice A n c, .slice P pn pc, .slice Q m mc, .func (.func 59) #[] #[]] 67) := ⟨_, rfl⟩
   have b3 : Below w2.heap.size w2 W3 := by rw [hW3]; exact (Below.refl _ _).alloc (Nat.le_refl _) _
   have r3 : Row W3 w2.heap.size 67 #[.slice A n c, .slice P pn pc, .slice Q m mc, .func (.func 59) #[] #[]] := by rw [hW3]; exact Row.new _ _ _
   have M3 := M.next b3
   have LR := hid (run w2.heap.size A P Q n c pn pc m mc _ _ sg p t p t vt W3 ⟨r3, M3.ss, M3.sp, M3.st, kp, kq, enters_of Try.func59 (by kernel_rfl) rfl, lookVar _ _⟩ (Wy.start HSP.out HST.out) hn)
   have HW3 := hid hW3
   have hz : w.heap.size + 1 < w2.heap.size := M.r1.lt
   have HM3 := hid M3
   clear M b3 r3 M3 hW3
   go_wp2_with fail
   rw [← HW3.out]
   refine LR.out.mono ?_
   rintro e w4 ⟨hg, ⟨x, L', P', pn', pc', Q', qn', qc', gl', lb', rfl, U, WW⟩ | ⟨hno, u, pv, rfl⟩⟩
   ·have hs3 : W3.heap.size = w2.heap.size + 1 := by rw [HW3.out]; simp
    have b4 : Below w.heap.size w w4 := HM3.out.b.grown hg (by omega) (fun k hk => by injection hk; omega)
    have r4 := Row.away HM3.out.r1 hg (fun e => by injection e; omega)
    have c3 := U.c3
    have LP := hid (plain gl' lb' U.eg L' w4 U.lk.looks (fun i => WW.part.sub.pos i) (fun i => Nat.le_trans (WW.each i) (by omega)))
    obtain ⟨hv, hF⟩ := isU_one HU.out (WW.done rfl)
    subst hv
    subst hF
    have HB4 := hid b4
    have HR4 := hid r4
    clear U WW hg LR HM3 HU b4 r4 c0
    go_wp2_with fail
    refine LP.out.mono ?_
    rintro e w5 ⟨O, on, oc, rfl, ho, b5⟩
    have r5 := HR4.out.next b5
    have cR : w5.cell? ⟨w.heap.size + 1, 0, none⟩ = some (.slice none 0 0) := r5.cell 0
    have fR : w5.frozen? ⟨w.heap.size + 1, 0, none⟩ = false := r5.free 0
    have hs4 := HR4.out.lt
    have B5 := next_trans HB4.out b5
    have F := hid (show AnsUB w (plainL L' 24) true (.returned (.tuple #[.agg #[.slice O on oc], .bool true])) (w5.setCell ⟨w.heap.size + 1, 0, none⟩ (.slice O on oc)) from
     ⟨O, on, oc, rfl, (owns_put ho r5 hs4 0 _).wider (by have := HB4.out.size; omega) (by simp), B5.setCell (p := ⟨w.heap.size + 1, 0, none⟩) (show w.heap.size ≤ w.heap.size + 1 by omega) _⟩)
    clear LP ho b5 r5 HB4 HR4 B5 hs4
    go_wp2
    refine leaves_cons (f := 58) (args := #[]) (by simp) (by simp [go_sem]) ?_
    refine (catch_idle _).mono ?_
    rintro e u' w'' ⟨rfl, rfl, rfl⟩
    exact ⟨.tuple #[.agg #[.slice O on oc], .bool true], by simp [results, Try.results24, go_sem, cR], F.out⟩
   ·have hs3 : W3.heap.size = w2.heap.size + 1 := by rw [HW3.out]; simp
    have b4 : Below w.heap.size w w4 := HM3.out.b.grown hg (by omega) (fun k hk => by injection hk; omega)
    have r4 := Row.away HM3.out.r1 hg (fun e => by injection e; omega)
    have cR : w4.cell? ⟨w.heap.size + 1, 0, none⟩ = some (.slice none 0 0) := r4.cell 0
    obtain ⟨hv, hF⟩ := isU_one HU.out (isU_no hno)
    subst hv
    subst hF
    have F := hid (show AnsUB w [] false (.returned (.tuple #[.agg #[.slice none 0 0], .bool false])) w4 from ⟨none, 0, 0, rfl, Owns.nil _ _ _, b4⟩)
    refine leaves_cons (f := 58) (args := #[]) (by simp) (by simp [go_sem]) ?_
    refine (catch_panicking u pv [] w4).mono ?_
    rintro e u' w'' ⟨rfl, rfl, rfl⟩
    exact ⟨.tuple #[.agg #[.slice none 0 0], .bool false], by simp [results, Try.results24, go_sem, cR], F.out⟩
end unifImpl
end
section
namespace varsOf
open Go.RowKit base ints sig term termOk marks app sym sub segs varsMath termFacts
set_option maxRecDepth 100000
theorem Seg.pre {w : World} {B n k : Nat} {A : Option Addr} {xs : List Int} (h : Seg w B A n xs) (hk : k ≤ n) : Seg w B A k (xs.take k) := by
 refine ⟨by have := h.1; simp; omega, fun h0 => ?_⟩
 obtain ⟨b, off, e, hb, hc⟩ := h.2 (by omega)
 refine ⟨b, off, e, hb, fun j hj => ?_⟩
 rw [hc j (by omega)]
 simp [List.getD, List.getElem?_take, hj]
end varsOf
end
section
namespace varsOf
open Go.RowKit base ints sig term termOk marks app sym sub segs varsMath termFacts
set_option maxRecDepth 100000
end varsOf
end
section
namespace count
open Go.RowKit base ints sig term termOk
end count
end
section
namespace linear
open Go.RowKit base ints sig term termOk marks sym count varsMath termFacts varsOf
set_option maxRecDepth 100000
end linear
end
end Go.Proofs.Ytobedfmagjgdcaa
section
namespace Go.Proofs
open Go.Shelf
def Try.laysSlgn53_ren : Go.Shelf.Ren := ⟨fun | 53 => 120 | 64 => 135 | 63 => 134 | 78 => 148 | 79 => 149 | 70 => 139 | 71 => 140 | 72 => 141 | 73 => 142 | 74 => 143 | 75 => 144 | 59 => 145 | 76 => 146 | 77 => 147 | 88 => 150 | 89 => 151 | 90 => 152 | 91 => 153 | 92 => 154 | 68 => 155 | 96 => 156 | n => n, fun | 22 => 22 | 23 => 2 | 3 => 3 | 51 => 122 | 0 => 0 | 67 => 134 | 69 => 136 | 4 => 4 | 61 => 126 | 60 => 125 | 44 => 131 | 5 => 5 | 9 => 9 | 75 => 139 | 79 => 143 | 83 => 146 | 84 => 147 | n => n, fun | n => n⟩
theorem Try.laysSlgn53 : Go.Proofs.SlLaysN.n53 Try.prog Try.laysSlgn53_ren := {
 mixed := by kernel_rfl
 f53 := ⟨Try.f120.name, by decide, Try.func120.trans (congrArg some (by kernel_rfl))⟩
 f59 := ⟨Try.f145.name, by decide, Try.func145.trans (congrArg some (by kernel_rfl))⟩
 f63 := ⟨Try.f134.name, by decide, Try.func134.trans (congrArg some (by kernel_rfl))⟩
 f64 := Try.func135.trans (congrArg some (by kernel_rfl))
 f68 := ⟨Try.f155.name, by decide, Try.func155.trans (congrArg some (by kernel_rfl))⟩
 f70 := ⟨Try.f139.name, by decide, Try.func139.trans (congrArg some (by kernel_rfl))⟩
 f71 := ⟨Try.f140.name, by decide, Try.func140.trans (congrArg some (by kernel_rfl))⟩
 f72 := ⟨Try.f141.name, by decide, Try.func141.trans (congrArg some (by kernel_rfl))⟩
 f73 := ⟨Try.f142.name, by decide, Try.func142.trans (congrArg some (by kernel_rfl))⟩
 f74 := ⟨Try.f143.name, by decide, Try.func143.trans (congrArg some (by kernel_rfl))⟩
 f75 := ⟨Try.f144.name, by decide, Try.func144.trans (congrArg some (by kernel_rfl))⟩
 f76 := ⟨Try.f146.name, by decide, Try.func146.trans (congrArg some (by kernel_rfl))⟩
 f77 := ⟨Try.f147.name, by decide, Try.func147.trans (congrArg some (by kernel_rfl))⟩
 f78 := Try.func148.trans (congrArg some (by kernel_rfl))
 f79 := Try.func149.trans (congrArg some (by kernel_rfl))
 f88 := ⟨Try.f150.name, by decide, Try.func150.trans (congrArg some (by kernel_rfl))⟩
 f89 := Try.func151.trans (congrArg some (by kernel_rfl))
 f90 := Try.func152.trans (congrArg some (by kernel_rfl))
 f91 := ⟨Try.f153.name, by decide, Try.func153.trans (congrArg some (by kernel_rfl))⟩
 f92 := ⟨Try.f154.name, by decide, Try.func154.trans (congrArg some (by kernel_rfl))⟩
 f96 := ⟨Try.f156.name, by decide, Try.func156.trans (congrArg some (by kernel_rfl))⟩
 t0 := Try.underlying0
 a0 := Try.isAgg0
 z0 := Try.sizeOf0
 v0 := Try.zeroValue0
 t3 := Try.underlying3
 a3 := Try.isAgg3
 z3 := Try.sizeOf3
 v3 := Try.zeroValue3
 t4 := Try.underlying4
 a4 := Try.isAgg4
 z4 := Try.sizeOf4
 v4 := Try.zeroValue4
 t5 := Try.underlying5
 a5 := Try.isAgg5
 z5 := Try.sizeOf5
 v5 := Try.zeroValue5
 t9 := Try.underlying9
 a9 := Try.isAgg9
 z9 := Try.sizeOf9
 v9 := Try.zeroValue9
 t22 := Try.underlying22
 a22 := Try.isAgg22
 z22 := Try.sizeOf22
 v22 := Try.zeroValue22
 t23 := Try.underlying2
 a23 := Try.isAgg2
 z23 := Try.sizeOf2
 v23 := Try.zeroValue2
 t44 := Try.underlying131
 a44 := Try.isAgg131
 z44 := Try.sizeOf131
 v44 := Try.zeroValue131
 t51 := Try.underlying122
 a51 := Try.isAgg122
 z51 := Try.sizeOf122
 v51 := Try.zeroValue122
 t60 := Try.underlying125
 a60 := Try.isAgg125
 z60 := Try.sizeOf125
 v60 := Try.zeroValue125
 t61 := Try.underlying126
 a61 := Try.isAgg126
 z61 := Try.sizeOf126
 v61 := Try.zeroValue126
 t67 := Try.underlying134
 a67 := Try.isAgg134
 z67 := Try.sizeOf134
 v67 := Try.zeroValue134
 t69 := Try.underlying136
 a69 := Try.isAgg136
 z69 := Try.sizeOf136
 v69 := Try.zeroValue136
 t75 := Try.underlying139
 a75 := Try.isAgg139
 z75 := Try.sizeOf139
 v75 := Try.zeroValue139
 t79 := Try.underlying143
 a79 := Try.isAgg143
 z79 := Try.sizeOf143
 v79 := Try.zeroValue143
 t83 := Try.underlying146
 a83 := Try.isAgg146
 z83 := Try.sizeOf146
 v83 := Try.zeroValue146
 t84 := Try.underlying147
 a84 := Try.isAgg147
 z84 := Try.sizeOf147
 v84 := Try.zeroValue147 }
open Go.Sort Go.RowKit in
theorem Try.slices_Sort_int (blk off cap : Nat) (zs : List Int) (w : World) (hH : Holds (Value.int .i64) w blk off zs.toArray) (hblk : blk < w.heap.size) (hsz : zs.length < 4611686018427387904) :
  Calls Try.prog 120 #[.slice (some ⟨blk, off, none⟩) zs.length cap] w fun e w' => e = .returned (.tuple #[]) ∧ ∃ n os, w' = grow (putRow (Value.int .i64) (Sort.ahead w n) blk off (zs.mergeSort fun x y => decide (x ≤ y)).toArray) os := AnyG.slices_Sort_int Try.laysSlgn53 blk off cap zs w hH hblk hsz
open Go.Sort Go.RowKit in
theorem Try.slices_Sort_int_none (p : Option Addr) (cap : Nat) (w : World) :
  Calls Try.prog 120 #[.slice p 0 cap] w fun e w' => e = .returned (.tuple #[]) ∧ w' = w := AnyG.slices_Sort_int_none Try.laysSlgn53 p cap w
def Try.laysSlgn43_ren : Go.Shelf.Ren := ⟨fun | 43 => 121 | n => n, fun | 22 => 22 | 23 => 2 | 3 => 3 | 4 => 4 | 0 => 0 | n => n, fun | n => n⟩
theorem Try.laysSlgn43 : Go.Proofs.SlLaysN.n43 Try.prog Try.laysSlgn43_ren := {
 mixed := by kernel_rfl
 f43 := ⟨Try.f121.name, by decide, Try.func121.trans (congrArg some (by kernel_rfl))⟩
 t0 := Try.underlying0
 a0 := Try.isAgg0
 z0 := Try.sizeOf0
 v0 := Try.zeroValue0
 t3 := Try.underlying3
 a3 := Try.isAgg3
 z3 := Try.sizeOf3
 v3 := Try.zeroValue3
 t4 := Try.underlying4
 a4 := Try.isAgg4
 z4 := Try.sizeOf4
 v4 := Try.zeroValue4
 t22 := Try.underlying22
 a22 := Try.isAgg22
 z22 := Try.sizeOf22
 v22 := Try.zeroValue22
 t23 := Try.underlying2
 a23 := Try.isAgg2
 z23 := Try.sizeOf2
 v23 := Try.zeroValue2
 i23 := by kernel_rfl }
open Go.Sort Go.RowKit in
theorem Try.slices_Compact_int (blk off cap : Nat) (zs : List Int) (w : World) (hH : Holds (Value.int .i64) w blk off zs.toArray) (hsz : zs.length ≤ 9223372036854775807) (hcap : zs.length ≤ cap) :
  Calls Try.prog 121 #[.slice (some ⟨blk, off, none⟩) zs.length cap] w fun e w' => e = .returned (.slice (some ⟨blk, off, none⟩) (Lib.compact zs).length cap) ∧ ∃ q, w' = putRow (Value.int .i64) (Sort.ahead w q) blk off (Lib.compact zs ++ List.replicate (zs.length - (Lib.compact zs).length) 0).toArray := AnyG.slices_Compact_int Try.laysSlgn43 blk off cap zs w hH hsz hcap
open Go.Sort Go.RowKit in
theorem Try.slices_Compact_int_empty (a : Option Addr) (cap : Nat) (w : World) :
  Calls Try.prog 121 #[.slice a 0 cap] w fun e w' => e = .returned (.slice a 0 cap) ∧ w' = w := AnyG.slices_Compact_int_empty Try.laysSlgn43 a cap w
end Go.Proofs
end
namespace Go.Proofs.Ytobedfmagjgdcaa
section
namespace sorted
open Go.RowKit base marks app sym appAt segs
set_option maxRecDepth 100000
theorem row_put {w : World} {g : Nat} {t : TypeId} {cs : Array Value} (h : Row w g t cs) (d : Array Int) : Row (Sort.putRow (Value.int .i64) w g 0 d) g t (Sort.putCells (Value.int .i64) 0 d cs) := by
 unfold Row at h ⊢
 show (w.heap.modify g (Sort.onCells (Sort.putCells (Value.int .i64) 0 d)))[g]? = _
 rw [Array.getElem?_modify, if_pos rfl, h]
 rfl
theorem grown_putRow (w : World) (g q : Nat) (d : Array Int) : w.grownBy (Sort.putRow (Value.int .i64) (Sort.ahead w q) g 0 d) (some g) := by
 refine ⟨rfl, rfl, rfl, ?_, fun i hi hne => ?_⟩
 ·show w.heap.size ≤ (w.heap.modify g _).size
  simp
 ·show (w.heap.modify g _)[i]? = _
  rw [Array.getElem?_modify, if_neg (fun e => hne (by rw [e]))]
theorem grown_grow {w w' : World} {r : Option Nat} (h : w.grownBy w' r) (os : Array Obj) : w.grownBy (Sort.grow w' os) r := by
 refine ⟨h.os, h.tape, h.output, by rw [Sort.size_grow]; have := h.size; omega, fun i hi hne => ?_⟩
 rw [Sort.heap_grow_old w' os (Nat.lt_of_lt_of_le hi h.size)]
 exact h.block i hi hne
theorem holds_own {w : World} {g : Nat} {t : TypeId} {cs : Array Value} {xs : List Int} (h : Row w g t cs) (hc : ∀ j, j < xs.length → cs[j]? = some ((xs.map (Value.int .i64)).getD j undef)) : Sort.Holds (Value.int .i64) w g 0 xs.toArray := by
 intro j hj
 have hj' : j < xs.length := by simpa using hj
 refine ⟨?_, by rw [Nat.zero_add]; exact h.free j⟩
 rw [Nat.zero_add, h.cell j, hc j hj']
 simp [List.getD, hj']
theorem putCells_get {cs : Array Value} {d : List Int} {j : Nat} (hj : j < d.length) (hs : d.length ≤ cs.size) : (Sort.putCells (Value.int .i64) 0 d.toArray cs)[j]? = some (.int .i64 (d.getD j 0)) := by
 unfold Sort.putCells
 rw [Array.getElem?_mapIdx, Array.getElem?_eq_getElem (by omega)]
 simp [hj, List.getD]
def AnsSort (w : World) (base : Nat) (A : Option Addr) (n c : Nat) (ys : List Int) (e : Ending) (w' : World) : Prop := e = .returned (.tuple #[]) ∧ Own w' base (.slice A n c) ys ∧ w.grownBy w' (blk A)
def up (xs : List Int) : List Int := xs.mergeSort fun x y => decide (x ≤ y)
theorem sortOwn (base : Nat) (A : Option Addr) (n c : Nat) (xs : List Int) (w : World) (h : Own w base (.slice A n c) xs) (hn : n ≤ 1048576) :
  Calls Try.prog 120 #[.slice A n c] w (AnsSort w base A n c (up xs)) := by
 have hl := Own.len h
 subst hl
 rcases own_form (n := xs.length) h with ⟨rfl, h0, rfl, _⟩ | ⟨g, cs, rfl, hb, hr, hnc, hz, hmax, _, hc⟩
 ·have hx : xs = [] := List.eq_nil_of_length_eq_zero h0
  subst hx
  refine (Try.slices_Sort_int_none none 0 w).mono ?_
  rintro e w' ⟨rfl, rfl⟩
  exact ⟨rfl, by simpa [up] using h, World.grownBy.refl _ _⟩
 ·have hH := holds_own hr hc
  refine (Try.slices_Sort_int g 0 c xs w hH hr.lt (by omega)).mono ?_
  rintro e w' ⟨rfl, n, os, rfl⟩
  have hyl : (up xs).length = xs.length := List.length_mergeSort _
  refine ⟨rfl, ?_, grown_grow (grown_putRow w g n _) os⟩
  have r1 : Row (Sort.ahead w n) g 2 cs := hr
  have r2 := row_put r1 (up xs).toArray
  have r3 : Row (Sort.grow (Sort.putRow (Value.int .i64) (Sort.ahead w n) g 0 (up xs).toArray) os) g 2 _ := (Sort.heap_grow_old _ os r2.lt).trans r2
  exact Own.of_row r3 hyl (by simp [Sort.putCells, hz]) hnc hmax hb (fun j hj => putCells_get (by omega) (by omega))
theorem compact_le (zs : List Int) : (Lib.compact zs).length ≤ zs.length := by
 unfold Lib.compact Lib.compactUpTo
 rw [List.length_map]
 exact Nat.le_trans (List.length_filter_le _ _) (by simp)
def AnsCompact (w : World) (base : Nat) (A : Option Addr) (ys : List Int) (e : Ending) (w' : World) : Prop := ∃ c, e = .returned (.slice A ys.length c) ∧ Own w' base (.slice A ys.length c) ys ∧ w.grownBy w' (blk A)
theorem compactOwn (base : Nat) (A : Option Addr) (n c : Nat) (xs : List Int) (w : World) (h : Own w base (.slice A n c) xs) (hn : n ≤ 1048576) :
  Calls Try.prog 121 #[.slice A n c] w (AnsCompact w base A (Lib.compact xs)) := by
 have hl := Own.len h
 subst hl
 rcases own_form (n := xs.length) h with ⟨rfl, h0, rfl, _⟩ | ⟨g, cs, rfl, hb, hr, hnc, hz, hmax, _, hc⟩
 ·have hx : xs = [] := List.eq_nil_of_length_eq_zero h0
  subst hx
  refine (Try.slices_Compact_int_empty none 0 w).mono ?_
  rintro e w' ⟨rfl, rfl⟩
  exact ⟨0, rfl, h, World.grownBy.refl _ _⟩
 ·have hH := holds_own hr hc
  have hle : (Lib.compact xs).length ≤ xs.length := compact_le xs
  refine (Try.slices_Compact_int g 0 c xs w hH (by omega) hnc).mono ?_
  rintro e w' ⟨rfl, q, rfl⟩
  refine ⟨c, rfl, ?_, grown_putRow w g q _⟩
  have r1 : Row (Sort.ahead w q) g 2 cs := hr
  have r2 := row_put r1 (Lib.compact xs ++ List.replicate (xs.length - (Lib.compact xs).length) 0).toArray
  refine Own.of_row r2 rfl (by simp [Sort.putCells, hz]) (by omega) hmax hb (fun j hj => ?_)
  rw [putCells_get (by simp; omega) (by simp; omega)]
  simp [List.getD, List.getElem?_append_left hj]
end sorted
end
section
namespace varsMath
open term termOk sorted
theorem compact_cons_cons (x y : Int) (r : List Int) : Lib.compact (x :: y :: r) = if x = y then Lib.compact (y :: r) else x :: Lib.compact (y :: r) := by
 unfold Lib.compact Lib.compactUpTo
 have hr : List.range (x :: y :: r).length = 0 :: (List.range (y :: r).length).map (· + 1) := by
  rw [List.length_cons, List.range_succ_eq_map]
 have hr2 : List.range (y :: r).length = 0 :: (List.range r.length).map (· + 1) := by
  rw [List.length_cons, List.range_succ_eq_map]
 have k0 : Lib.keeps (x :: y :: r).toArray 0 = true := by simp [Lib.keeps]
 have k0' : Lib.keeps (y :: r).toArray 0 = true := by simp [Lib.keeps]
 have ks : ∀ j, Lib.keeps (x :: y :: r).toArray (j + 1 + 1) = Lib.keeps (y :: r).toArray (j + 1) := fun j => by
  simp [Lib.keeps]
 have gs : ∀ j, (x :: y :: r).toArray[j + 1]! = (y :: r).toArray[j]! := fun j => by simp
 rw [hr, hr2]
 simp only [List.map_cons, List.filter_cons, k0, k0', if_true, List.filter_map, List.map_map]
 have e1 : Lib.keeps (x :: y :: r).toArray ∘ (fun (j : Nat) => j + 1) ∘ (fun (j : Nat) => j + 1) = Lib.keeps (y :: r).toArray ∘ fun (j : Nat) => j + 1 := by
  funext j
  exact ks j
 have k1 : Lib.keeps (x :: y :: r).toArray (0 + 1) = decide (¬ x = y) := by
  simp [Lib.keeps, eq_comm]
 rw [e1, k1]
 have e2 : (fun j => (x :: y :: r).toArray[j]!) ∘ (fun (j : Nat) => j + 1) ∘ (fun (j : Nat) => j + 1) = (fun j => (y :: r).toArray[j]!) ∘ fun (j : Nat) => j + 1 := by
  funext j
  exact gs (j + 1)
 by_cases h : x = y
 ·subst h
  simp [List.map_map, e2]
 ·simp [h, List.map_map, e2]
theorem compact_one (x : Int) : Lib.compact [x] = [x] := by simp [Lib.compact, Lib.compactUpTo, Lib.keeps, List.range_succ]
theorem compact_nil : Lib.compact ([] : List Int) = [] := rfl
theorem compact_sorted : ∀ {l : List Int}, l.Pairwise (· ≤ ·) → Rises (Lib.compact l) ∧ (∀ x, x ∈ Lib.compact l ↔ x ∈ l)
 | [], _ => ⟨List.Pairwise.nil, fun x => by rw [compact_nil]⟩
 | [y], _ => ⟨by rw [compact_one]; simp [Rises], fun x => by rw [compact_one]⟩
 | x :: y :: r, h => by
  have h1 := List.pairwise_cons.1 h
  obtain ⟨h2, h3⟩ := compact_sorted h1.2
  rw [compact_cons_cons]
  by_cases e : x = y
  ·subst e
   rw [if_pos rfl]
   exact ⟨h2, fun z => by rw [h3]; simp⟩
  ·rw [if_neg e]
   refine ⟨List.pairwise_cons.2 ⟨fun z hz => ?_, h2⟩, fun z => by rw [List.mem_cons, h3, List.mem_cons (a := z) (b := x)]⟩
   have h4 := h1.1 y (List.mem_cons_self ..)
   rcases List.mem_cons.1 ((h3 z).1 hz) with e2 | e2
   ·omega
   ·have := (List.pairwise_cons.1 h1.2).1 z e2
    omega
theorem up_sorted (l : List Int) : (up l).Pairwise (· ≤ ·) := by
 have := List.pairwise_mergeSort (le := fun x y => decide (x ≤ y)) (fun a b c h1 h2 => by simp at *; omega) (fun a b => by simp; omega) l
 refine this.imp (fun h => ?_)
 simpa using h
theorem up_mem {l : List Int} {x : Int} : x ∈ up l ↔ x ∈ l := by unfold up; exact List.mem_mergeSort
theorem sorted_vars (t : List Int) : Lib.compact (up (negs t)) = vars t := by
 have h := compact_sorted (up_sorted (negs t))
 refine rises_unique h.1 (vars_rises t) (fun x => ?_)
 rw [h.2, up_mem, vars_mem]
end varsMath
end
end Go.Proofs.Ytobedfmagjgdcaa
section
open Go.Lib (hid)
namespace Go.Proofs.Ytobedfmagjgdcaa.varsOf
open Go.RowKit base ints sig term termOk marks app sym sub segs sorted varsMath termFacts
set_option maxRecDepth 100000
def HeadNegs (w : World) (A : Option Addr) (n c m : Nat) (t : List Int) (out i : Value) (wr : World) : Prop :=
 ∃ (k : Nat) (O : Option Addr) (on oc : Nat), k ≤ m ∧ i = .int .i64 k ∧ out = .slice O on oc ∧ Own wr (w.heap.size + 1) (.slice O on oc) (negs (t.take k)) ∧ Row wr w.heap.size 29 #[.slice A n c] ∧ Below w.heap.size w wr
set_option maxHeartbeats 2000000 in
theorem implVarsOf (A A' : Option Addr) (n c m c' : Nat) (sg t : List Int) (w : World) (h : Seg w w.heap.size A n sg) (h' : Seg w w.heap.size A' m t) (hn : n ≤ 1048576) (hm : m ≤ 1048576) :
  Calls Try.prog 98 #[.agg #[.slice A n c], .slice A' m c'] w (AnsList w (varsI sg t)) := by
 obtain ⟨W, hW⟩ : ∃ W, W = w.alloc (.cells #[.slice A n c] 29) := ⟨_, rfl⟩
 have rA : Row W w.heap.size 29 #[.slice A n c] := by rw [hW]; exact Row.new _ _ _
 have bel : Below w.heap.size w W := by rw [hW]; exact (Below.refl _ _).alloc (Nat.le_refl _) _
 have s := (h.below bel).more bel.size
 have s' := (h'.below bel).more bel.size
 have HW := hid hW
 have HL := hid h'.1
 have L := hid (implTermOk A A' n c m c' sg t W s s' hn hm)
 clear hW h s
 cases hok : termOkB sg t with
 | false =>
  have HS := hid hok
  clear hok s' h'
  go_enter Try.func98, Try.ntmps98
  go_wp2_with fail
  rw [← HW.out]
  refine L.out.mono ?_
  rintro e w1 ⟨he, bb⟩
  rw [HS.out] at he
  subst he
  have F : AnsList w (varsI sg t) (.returned (.slice none 0 0)) w1 := ⟨_, _, _, rfl, by unfold varsI; rw [if_neg (by rw [HS.out]; simp)]; exact Own.nil _ _, next_trans bel bb⟩
  have HF := hid F
  clear F bb bel rA
  go_wp2
  go_ret
  exact HF.out
 | true =>
  have HS := hid hok
  have HV := hid (fun x hx => (term_mem (x := x) hok hx).1)
  clear hok s'
  go_enter Try.func98, Try.ntmps98
  go_wp2_with fail
  rw [← HW.out]
  refine L.out.mono ?_
  rintro e w1 ⟨he, bb⟩
  rw [HS.out] at he
  subst he
  have S0 : HeadNegs w A n c m t (.slice none 0 0) (.int .i64 0) w1 := ⟨0, _, _, _, Nat.zero_le _, rfl, rfl, by simpa [negs] using Own.nil w1 (w.heap.size + 1), rA.next bb, next_trans bel bb⟩
  have HS0 := hid S0
  clear S0 bb bel rA L
  go_wp2_with fail
  go_loopw [5, 14] (fun out i wr => HeadNegs w A n c m t out i wr) (fun _ i _ => m - (intOf i).toNat)
  case atStart => exact HS0.out
  case round =>
   obtain ⟨k, O, on, oc, hk, rfl, rfl, ho, hr, hb⟩ := hrel
   clear HS0
   have hon : on ≤ m := by have h1 := Own.len ho; have h2 := negs_len (t.take k); simp at h2; have h3 := HL.out; omega
   by_cases hlt : k < m
   ·obtain ⟨b, off, x, rfl, hbb, hx, ex⟩ := h'.spot hlt
    have hx1 : wr.cell? ⟨b, off + k, none⟩ = some (.int .i64 x) := (hb.cell (p := ⟨b, off + k, none⟩) hbb).trans hx
    have hsz := hr.lt
    have hmem : x ∈ t := by
     have hkl : k < t.length := by rw [HL.out]; exact hlt
     have := ex.out
     rw [← this]
     simp [List.getD, hkl]
    have hx24 : -24 ≤ x := HV.out x hmem
    clear hmem hx h'
    by_cases hneg : x < 0
    ·have E := hid (negs_yes (t := t) (k := k) (by rw [HL.out]; exact hlt) ex.out hneg)
     clear ex
     go_wp2_with (at_builtin; refine app1 rfl _ _ rfl (w.heap.size + 1) O on oc (negs (t.take k)) rfl (Own.alloc ho _) wr.heap.size 1 (-1 - x) rfl ((Row.new _ _ _).cell 0) (by omega) (by simp; omega) ?_; intro O' oc' w2 ho2 b2)
     have S : HeadNegs w A n c m t (.slice O' (on + 1) oc') (.int .i64 ((k : Int) + 1)) w2 := ⟨k + 1, O', on + 1, oc', hlt, by simp, rfl, by rw [E.out]; exact ho2, ((hr.alloc _).below b2 (Nat.lt_succ_self _)), ((hb.alloc (Nat.le_of_lt hsz) _).trans (b2.mono (Nat.le_succ _)))⟩
     replace S := hid S
     clear ho2 b2 ho hr hb
     go_wp2
     go_roundw
     case rel => exact S.out
     case measure => simp [intOf]; omega
    ·rw [← negs_no (t := t) (k := k) (by rw [HL.out]; exact hlt) ex.out hneg] at ho
     have S : HeadNegs w A n c m t (.slice O on oc) (.int .i64 ((k : Int) + 1)) wr := ⟨k + 1, O, on, oc, hlt, by simp, rfl, ho, hr, hb⟩
     replace S := hid S
     clear ho hr hb ex
     go_wp2
     go_roundw
     case rel => exact S.out
     case measure => simp [intOf]; omega
   ·rw [List.take_of_length_le (by rw [HL.out]; omega)] at ho
    have hge := Own.ge ho
    have hsz := hr.lt
    have L2 := hid (sortOwn (w.heap.size + 1) O on oc (negs t) wr ho (by omega))
    clear ho hr h'
    go_wp2_with fail
    refine L2.out.mono ?_
    rintro e w2 ⟨rfl, o2, g2⟩
    have b2 := hb.grown g2 hb.size (fun k hk => by have := hge k hk; omega)
    have L3 := hid (compactOwn (w.heap.size + 1) O on oc (up (negs t)) w2 o2 (by omega))
    clear o2 g2 L2 hb
    go_wp2_with fail
    refine L3.out.mono ?_
    rintro e w3 ⟨c3, rfl, o3, g3⟩
    have b3 := b2.grown g3 b2.size (fun k hk => by have := hge k hk; omega)
    have F : AnsList w (varsI sg t) (.returned (.slice O (Lib.compact (up (negs t))).length c3)) w3 := ⟨O, _, c3, rfl, by unfold varsI; rw [if_pos HS.out, ← sorted_vars t]; exact Own.lower o3 (Nat.le_succ _), b3⟩
    have HF := hid F
    clear F o3 g3 b2 b3 L3 hge
    go_wp2
    go_ret
    exact HF.out
end Go.Proofs.Ytobedfmagjgdcaa.varsOf
namespace Go.Proofs.Ytobedfmagjgdcaa.linear
open Go.RowKit base ints sig term termOk marks sym count varsMath termFacts varsOf
end Go.Proofs.Ytobedfmagjgdcaa.linear
end
namespace Go.Proofs.Ytobedfmagjgdcaa
section
namespace maxi
open Go.RowKit base
theorem max_any (x y : Int) (w : World) : Calls Try.prog 96 #[.int .i64 x, .int .i64 y] w fun e w' => w = w' ∧ e = .returned (.int .i64 (max x y)) := by
 by_cases h : y < x
 ·have e : max x y = x := by omega
  rw [e]
  go_enter Try.func96, Try.ntmps96
  go_wp2
  go_ret
  exact ⟨rfl, rfl⟩
 ·have e : max x y = y := by omega
  rw [e]
  go_enter Try.func96, Try.ntmps96
  go_wp2
  go_ret
  exact ⟨rfl, rfl⟩
end maxi
end
end Go.Proofs.Ytobedfmagjgdcaa
