/-
  MERGED: my texts Filled, DrawMatch, EndOf, Inside, Concat, Sym, CurO, Sub, Args, Depth, TermMath, PosMath, PutMath, Put, DrawL5, DrawMatched, DrawGenr, RenMath, MatchMath, one behind the other, as they are. By an AI agent.
-/
import Derived.Test.YtgfgaeagbipobaaMFnGeneralised2
import Derived.Deep.AppendLies
import Derived.Lib.AppendZeros
import Derived.Deep.LoopGhost
import Derived.WalkSpells
namespace Go.Proofs.Ytgfgaeagbipobaa
section
open Go.Lib (hid)
namespace filled
open Go.RowKit base ints sig cursor term termOk marks app appAt sym sub segs segsHelp termFacts varsMath varsOf fillMath Go.Proofs.Ytgfgaeagbipobaa.look shifted substOk gives
set_option maxRecDepth 100000
theorem stepAppAll {w : World} {ops : Array Oper} {o : Oper} {a : Act} {K : Act → World → Prop} {Q : Exit → Act → World → Prop} {E : Prop} (hgd : o.guard = none) (s x : Operand)
  (ho : o.op = .call { callee := .builtin .append, args := #[s, x], argTypes := #[24, 24] })
  (base : Nat) (A : Option Addr) (n c : Nat) (xs : List Int) (hs : a.eval s = .slice A n c) (hown : Own w base (.slice A n c) xs)
  (S : Option Addr) (m c2 B : Nat) (ys : List Int) (hx : a.eval x = .slice S m c2) (hseg : Seg w B S m ys) (hm1 : 1 ≤ m) (hn : n ≤ 2097152) (hm : m ≤ 2097152) (hbase : base ≤ w.heap.size)
  (h : ∀ g' c' w', Own w' base (.slice (some ⟨g', 0, none⟩) (n + m) c') (xs ++ ys) → w.grownBy w' (blk A) → (blk A = some g' ∨ g' = w.heap.size) → g' < w'.heap.size → K (a.put o.dst (.slice (some ⟨g', 0, none⟩) (n + m) c')) w') :
  if Region.wanted o (yielded ops a.tmps) = true then Oper.wp Try.prog o a w K Q else E := by
 obtain ⟨i0, hi, hz0, hz1, hz2⟩ := info_parts info_i64
 have hl : xs.length = n := by
  obtain ⟨A', c', e⟩ := hown.slice
  exact (Value.slice.inj e).2.1.symm
 have hob : (Value.slice A n c).ownBlock = blk A := by cases A <;> rfl
 obtain ⟨b, off, e, _, hc⟩ := hseg.2 (by omega)
 subst e
 refine step_append_lies w hgd s x 24 ho base 2 i0 (.int .i64 0) 1 8 Try.underlying24 hi hz0 hz1 hz2 rfl (by decide) (.slice A n c) n (xs.map (Value.int .i64)) hs (by rw [← hl]; rw [← hl] at hown; exact hown)
  ⟨b, off, none⟩ m c2 (ys.map (Value.int .i64)) hx (by simp [hseg.1]) (fun j u hj => ?_) (fun u hu => ?_) (by omega) (by unfold maxLen; omega) (by omega) hbase w.heap.size rfl ?_
 ·have hjl : j < m := by
   have := (List.getElem?_eq_some_iff.1 hj).1
   simp at this
   have := hseg.1
   omega
  have hcj := hc j hjl
  have e2 : (⟨b, off, none⟩ : Addr).add j = ⟨b, off + j, none⟩ := by unfold Addr.add; split <;> simp_all
  rw [e2, hcj, ← hj]
  have := hseg.1
  simp [List.getD, show j < ys.length by omega]
 ·obtain ⟨y, _, rfl⟩ := List.mem_map.1 hu
  rfl
 ·intro g' c' w' hown' hg hat hlt
  rw [← List.map_append] at hown'
  rw [hob] at hg hat
  refine h g' c' w' ?_ hg hat hlt
  have hl2 : (xs ++ ys).length = n + m := by simp [hl, hseg.1]
  unfold Own
  rw [hl2]
  exact hown'
def fitsB (ss : List (List Int)) (t : List Int) : Bool := decide ((fillL (givesL ss) t).length ≤ 60)
def fitL (ss : List (List Int)) (t : List Int) : List Int := if fitsB ss t = true then fillL (givesL ss) t else []
theorem fits_no {ss : List (List Int)} {t : List Int} {k : Nat} (h : 60 < (fillL (givesL ss) (t.take k)).length) : fitsB ss t = false := by
 have e : fillL (givesL ss) t = fillL (givesL ss) (t.take k) ++ fillL (givesL ss) (t.drop k) := by rw [← fill_append, List.take_append_drop]
 unfold fitsB
 rw [e, List.length_append]
 simp
 omega
def HeadF (w : World) (S : Option Addr) (m c mt : Nat) (ss : List (List Int)) (t : List Int) (out i : Value) (wr : World) : Prop :=
 ∃ (k : Nat) (O : Option Addr) (on oc : Nat), k ≤ mt ∧ i = .int .i64 k ∧ out = .slice O on oc ∧ on ≤ 60 ∧ Own wr (w.heap.size + 1) (.slice O on oc) (fillL (givesL ss) (t.take k)) ∧ Row wr w.heap.size 31 #[.slice S m c] ∧ Below w.heap.size w wr
theorem pairF_no {w wr : World} {ss : List (List Int)} {t : List Int} (h : fitsB ss t = false) (hb : Below w.heap.size w wr) : AnsPairO w (fitL ss t) (fitsB ss t) (.returned (.tuple #[.slice (some ⟨wr.heap.size, 0, none⟩) 0 0, .bool false])) (wr.alloc (.cells #[] 2)) :=
 ⟨_, 0, 0, by rw [h], by unfold fitL; rw [if_neg (by rw [h]; simp)]; exact own_empty wr w.heap.size hb.size, hb.alloc hb.size _⟩
set_option maxHeartbeats 8000000 in
theorem l2Filled (S A : Option Addr) (m c mt ct : Nat) (ss : List (List Int)) (t : List Int) (w : World) (h : Segs w w.heap.size S m ss) (h' : Seg w w.heap.size A mt t) (ht : tot ss ≤ 1048576) (hmt : mt ≤ 60) (hv : ∀ x ∈ t, -24 ≤ x) (hM : ∀ i, (givesL ss i).length ≤ 60) :
  Calls Try.prog 45 #[.agg #[.slice S m c], .slice A mt ct] w (AnsPairO w (fitL ss t) (fitsB ss t)) := by
 have HL := hid h'.1
 have HV := hid hv
 have HM := hid hM
 have HT := hid ht
 have S0 : HeadF w S m c mt ss t (.slice (some ⟨w.heap.size + 1, 0, none⟩) 0 0) (.int .i64 0) ((w.alloc (.cells #[.slice S m c] 31)).alloc (.cells #[] 2)) :=
  ⟨0, _, _, _, Nat.zero_le _, rfl, rfl, by omega, by have := own_empty (w.alloc (.cells #[.slice S m c] 31)) (w.heap.size + 1) (by simp); simpa [fillL] using this, (Row.new _ _ _).alloc _, ((Below.refl _ _).alloc (Nat.le_refl _) _).alloc (by simp) _⟩
 have HS0 := hid S0
 clear S0 hv hM ht
 go_enter Try.func45, Try.ntmps45
 go_wp2_with fail
 go_loopw [6, 7] (fun out i wr => HeadF w S m c mt ss t out i wr) (fun _ i _ => mt - (intOf i).toNat)
 case atStart => exact HS0.out
 case round =>
  obtain ⟨k, O, on, oc, hk, rfl, rfl, hon, ho, hr, hb⟩ := hrel
  clear HS0
  have hsz := hr.lt
  by_cases hlt : k < mt
  ·obtain ⟨b, off, x, rfl, hbb, hx, ex⟩ := h'.spot hlt
   have hx1 : wr.cell? ⟨b, off + k, none⟩ = some (.int .i64 x) := (hb.cell (p := ⟨b, off + k, none⟩) hbb).trans hx
   have hbr : b < wr.heap.size := Nat.lt_of_lt_of_le hbb hb.size
   have cS : wr.cell? ⟨w.heap.size, 0, none⟩ = some (.slice S m c) := hr.cell 0
   have hmem : x ∈ t := by
    have hkl : k < t.length := by rw [HL.out]; exact hlt
    have := ex.out
    rw [← this]
    simp [List.getD, hkl]
   have hx24 : -24 ≤ x := HV.out x hmem
   have E := hid (fill_take (L := givesL ss) (t := t) (k := k) (by rw [HL.out]; exact hlt) ex.out)
   have i0 : (0 : Int) ≤ (k : Int) := by omega
   have i1 : (k : Int) < (mt : Int) := by omega
   have HN := hid (Own.len ho)
   have hx0 := hx
   clear hmem hx h' ex
   by_cases hpos : 0 ≤ x
   ·have R := hid (rep_sym (L := givesL ss) hpos)
    have d1 : decide (x < 0) = false := by simp; omega
    by_cases h60 : on + 1 ≤ 60
    ·go_wp2_with (at_builtin; refine app1 rfl _ _ rfl (w.heap.size + 1) O on oc (fillL (givesL ss) (t.take k)) rfl (Own.alloc ho _) wr.heap.size 1 x rfl ((Row.new _ _ _).cell 0) (by omega) (by simp; omega) ?_; intro O' oc' w2 ho2 b2)
     have S1 : HeadF w S m c mt ss t (.slice O' (on + 1) oc') (.int .i64 ((k : Int) + 1)) w2 := ⟨k + 1, O', on + 1, oc', hlt, by simp, rfl, h60, by rw [E.out, R.out]; exact ho2, (hr.alloc _).below b2 (Nat.lt_succ_self _), (hb.alloc (Nat.le_of_lt hsz) _).trans (b2.mono (Nat.le_succ _))⟩
     have HS1 := hid S1
     clear S1 ho2 b2 ho hr hb R E cS
     go_wp2
     go_roundw
     case rel => exact HS1.out
     case measure => simp [intOf]; omega
    ·have NO := hid (fits_no (ss := ss) (t := t) (k := k + 1) (by rw [E.out, R.out, List.length_append, ← HN.out]; simp; omega))
     go_wp2_with (at_builtin; refine app1 rfl _ _ rfl (w.heap.size + 1) O on oc (fillL (givesL ss) (t.take k)) rfl (Own.alloc ho _) wr.heap.size 1 x rfl ((Row.new _ _ _).cell 0) (by omega) (by simp; omega) ?_; intro O' oc' w2 ho2 b2)
     have F := hid (pairF_no NO.out ((hb.alloc (Nat.le_of_lt hsz) _).trans (b2.mono (Nat.le_succ _))))
     clear ho2 b2 ho hr hb R E cS
     go_wp2
     go_ret2
     exact F.out
   ·have hneg : x < 0 := by omega
    have R := hid (rep_var (L := givesL ss) hneg)
    obtain ⟨i, hi⟩ : ∃ i : Nat, (-1 - x).toNat = i := ⟨_, rfl⟩
    rw [hi] at R
    have hix : (i : Int) = -1 - x := by omega
    have LG := hid (l2Gives S m c ss i wr.drew (((h.below hb).more hb.size).drew) HT.out (by omega))
    rw [hix] at LG
    have hlen : (givesL ss i).length ≤ 60 := HM.out i
    have hlen1 : 1 ≤ (givesL ss i).length := gives_pos ss i
    obtain ⟨q, hq⟩ : ∃ q, (givesL ss i).length = q := ⟨_, rfl⟩
    rw [hq] at hlen hlen1
    have HQ := hid hq
    have hw1 : IntKind.i64.wrap (-1 - x) = -1 - x := by rw [IntKind.wrap_i64]; omega
    have hod := Own.drew ho
    have hrd := hr.drew
    have hbd := hb.drew
    clear hix hi hq h
    go_wp2_with fail
    go_region_held3 (fun w' => w'.cell? ⟨w.heap.size, 0, none⟩ = some (.slice S m c) ∧ w'.cell? ⟨b, off + k, none⟩ = some (.int .i64 x))
     (go_keep)
     (first
      | (go_at_call 41; refine LG.out.mono ?_; rintro e w1 ⟨D, dn, dc, rfl, od, bb⟩; obtain rfl : dn = q := (by rw [Own.len od]; exact HQ.out); have ho1 := Own.next hod bb; have hr1 := hrd.next bb; have hb1 := next_trans hbd bb; have cS1 : w1.cell? ⟨w.heap.size, 0, none⟩ = some (.slice S m c) := hr1.cell 0; have cX1 : w1.cell? ⟨b, off + k, none⟩ = some (.int .i64 x) := (bb.cell (p := ⟨b, off + k, none⟩) hbr).trans hx1)
      | (refine stepAppAll rfl _ _ rfl (w.heap.size + 1) O on oc (fillL (givesL ss) (t.take k)) (by rfl) ho1 D _ dc w1.heap.size (givesL ss i) (by rfl) (Own.seg od) (by omega) (by omega) (by omega) (by have := hr1.lt; omega) ?_; intro O' oc' w2 ho2 hg2 hat2 hlt2; have hr2 := Row.away hr1 hg2 (fun e => by have := (World.ownsRow.lt ho1 w.heap.size (by rw [blk_own]; exact e)).1; omega); have hb2 : Below w.heap.size w w2 := hb1.grown hg2 hb1.size (fun z hz => by have := (World.ownsRow.lt ho1 z (by rw [blk_own]; exact hz)).1; omega); have cS2 : w2.cell? ⟨w.heap.size, 0, none⟩ = some (.slice S m c) := hr2.cell 0; have cX2 : w2.cell? ⟨b, off + k, none⟩ = some (.int .i64 x) := (hb2.cell (p := ⟨b, off + k, none⟩) hbb).trans hx0))
    have hsum : (fillL (givesL ss) (t.take k) ++ givesL ss i).length = on + dn := by rw [List.length_append, ← HN.out, HQ.out]
    clear cS1 cX1 ho1 hr1 hb1 od bb hod hrd hbd LG ho hr hb cS hx1 hg2 hat2 HM HV
    by_cases h60 : on + dn ≤ 60
    ·have S1 : HeadF w S m c mt ss t (.slice (some ⟨O', 0, none⟩) (on + dn) oc') (.int .i64 ((k : Int) + 1)) w2 := ⟨k + 1, _, on + dn, oc', hlt, by simp, rfl, h60, by rw [E.out, R.out]; exact ho2, hr2, hb2⟩
     have HS1 := hid S1
     clear S1 ho2 hr2 hb2 R E HQ hsum
     go_wp2
     go_roundw
     case rel => exact HS1.out
     case measure => simp [intOf]; omega
    ·have NO := hid (fits_no (ss := ss) (t := t) (k := k + 1) (by rw [E.out, R.out, hsum]; omega))
     have F := hid (pairF_no NO.out hb2)
     clear ho2 hr2 hb2 R E HQ hsum
     go_wp2
     go_ret2
     exact F.out
  ·have F : AnsPairO w (fitL ss t) (fitsB ss t) (.returned (.tuple #[.slice O on oc, .bool true])) wr := by
    rw [List.take_of_length_le (by rw [HL.out]; omega)] at ho
    have hB : fitsB ss t = true := by unfold fitsB; rw [← Own.len ho]; simp; omega
    exact ⟨O, on, oc, by rw [hB], by unfold fitL; rw [if_pos hB]; exact Own.lower ho (Nat.le_succ _), hb⟩
   have HF := hid F
   clear F ho hr hb h h'
   go_wp2
   go_ret2
   exact HF.out
def filledB (sg : List Int) (ss : List (List Int)) (t : List Int) : Bool := substOkB sg ss && (termOkB sg t && fitsB ss t)
def filledL (sg : List Int) (ss : List (List Int)) (t : List Int) : List Int := if filledB sg ss t = true then fillL (givesL ss) t else []
theorem filled_s {sg : List Int} {ss : List (List Int)} {t : List Int} (h : substOkB sg ss = false) : filledB sg ss t = false := by unfold filledB; rw [h, Bool.false_and]
theorem filled_t {sg : List Int} {ss : List (List Int)} {t : List Int} (h : termOkB sg t = false) : filledB sg ss t = false := by unfold filledB; rw [h, Bool.false_and, Bool.and_false]
theorem filled_b {sg : List Int} {ss : List (List Int)} {t : List Int} (h : substOkB sg ss = true) (h' : termOkB sg t = true) : filledB sg ss t = fitsB ss t := by unfold filledB; rw [h, h', Bool.true_and, Bool.true_and]
theorem filled_l {sg : List Int} {ss : List (List Int)} {t : List Int} (h : substOkB sg ss = true) (h' : termOkB sg t = true) : filledL sg ss t = fitL ss t := by unfold filledL fitL; rw [filled_b h h']
theorem filled_len (sg : List Int) (ss : List (List Int)) (t : List Int) : (filledL sg ss t).length ≤ 60 := by
 unfold filledL filledB fitsB
 split
 ·rename_i h
  simp only [Bool.and_eq_true, decide_eq_true_eq] at h
  exact h.2.2
 ·simp
theorem pairSF_no {w wr : World} {sg : List Int} {ss : List (List Int)} {t : List Int} (h : filledB sg ss t = false) (hb : Below w.heap.size w wr) : AnsPairO w (filledL sg ss t) (filledB sg ss t) (.returned (.tuple #[.slice (some ⟨wr.heap.size, 0, none⟩) 0 0, .bool false])) (wr.alloc (.cells #[] 2)) :=
 ⟨_, 0, 0, by rw [h], by unfold filledL; rw [if_neg (by rw [h]; simp)]; exact own_empty wr w.heap.size hb.size, hb.alloc hb.size _⟩
set_option maxHeartbeats 2000000 in
theorem specFilledO (A S A' : Option Addr) (n c m c' q cq : Nat) (sg : List Int) (ss : List (List Int)) (t : List Int) (w : World) (h : Seg w w.heap.size A n sg) (h' : Segs w w.heap.size S m ss) (h2 : Seg w w.heap.size A' q t) (hn : n ≤ 1048576) (ht : tot ss ≤ 1048576) (hq : q ≤ 1048576) :
  Calls Try.prog 13 #[.agg #[.slice A n c], .agg #[.slice S m c'], .slice A' q cq] w (AnsPairO w (filledL sg ss t) (filledB sg ss t)) := by
 obtain ⟨W, hW, rA, rS, bel⟩ := boxes2 w A n c S m c'
 have HW := hid hW
 have HL := hid h2.1
 have s := h.next bel
 have s1 := h'.next bel
 have s2 := h2.next bel
 have L := hid (specSubstOk A S n c m c' sg ss W s s1 hn ht)
 clear hW h h' h2
 cases hok : substOkB sg ss with
 | false =>
  have HS := hid hok
  clear hok s s1 s2
  go_enter Try.func13, Try.ntmps13
  go_wp2_with fail
  rw [← HW.out]
  refine L.out.mono ?_
  rintro e w1 ⟨he, bb⟩
  rw [HS.out] at he
  subst he
  have bel1 := next_trans bel bb
  have F := hid (pairSF_no (filled_s (t := t) HS.out) bel1)
  clear bb bel bel1 rA rS
  go_wp2
  go_ret2
  exact F.out
 | true =>
  have HS := hid hok
  clear hok
  go_enter Try.func13, Try.ntmps13
  go_wp2_with fail
  rw [← HW.out]
  refine L.out.mono ?_
  rintro e w1 ⟨he, bb⟩
  rw [HS.out] at he
  subst he
  replace s := s.next bb
  replace s1 := s1.next bb
  replace s2 := s2.next bb
  replace rA := rA.next bb
  replace rS := rS.next bb
  replace bel := next_trans bel bb
  have cA : w1.cell? ⟨w.heap.size, 0, none⟩ = some (.slice A n c) := rA.cell 0
  have L2 := hid (specTermOk A A' n c q cq sg t w1 s s2 hn hq)
  clear bb L
  cases hok2 : termOkB sg t with
  | false =>
   have HS2 := hid hok2
   clear hok2 s s1 s2
   go_wp2_with fail
   refine L2.out.mono ?_
   rintro e w2 ⟨he, bb⟩
   rw [HS2.out] at he
   subst he
   have bel1 := next_trans bel bb
   have F := hid (pairSF_no (filled_t (ss := ss) HS2.out) bel1)
   clear bb bel bel1 rA rS cA L2
   go_wp2
   go_ret2
   exact F.out
  | true =>
   have HS2 := hid hok2
   have HV := hid (fun x hx => (term_mem (x := x) hok2 hx).1)
   have H60 : q ≤ 60 := by rw [← HL.out]; exact (term_len hok2).2
   clear hok2
   go_wp2_with fail
   refine L2.out.mono ?_
   rintro e w2 ⟨he, bb⟩
   rw [HS2.out] at he
   subst he
   replace s1 := s1.next bb
   replace s2 := s2.next bb
   replace bel := next_trans bel bb
   have cS : w2.cell? ⟨w.heap.size + 1, 0, none⟩ = some (.slice S m c') := (rS.next bb).cell 0
   have L3 := hid (l2Filled S A' m c' q cq ss t w2 s1 s2 ht H60 HV.out (gives_len HS.out))
   clear bb L2 s1 s2 cA rA rS
   go_wp2_with fail
   refine L3.out.mono ?_
   rintro e w3 ⟨O, on, oc, rfl, ho, bb⟩
   have hsz := bel.size
   have F : AnsPairO w (filledL sg ss t) (filledB sg ss t) (.returned (.tuple #[.slice O on oc, .bool (fitsB ss t)])) w3 :=
    ⟨O, on, oc, by rw [filled_b HS.out HS2.out], by rw [filled_l HS.out HS2.out]; exact Own.lower ho hsz, next_trans bel bb⟩
   have HF := hid F
   clear F ho bb bel L3 cS
   generalize fitsB ss t = z at *
   go_wp2
   go_ret2
   exact HF.out
end filled
end
section
open Go.Lib (hid)
namespace drawMatch
open Go.RowKit base ints sig term cursor termOk marks app sym segs segsHelp dice drawSig drawTerm drawAny drawTwo drawPair drawOne drawSub drawSA drawSS drawS fillMath shifted filled
set_option maxRecDepth 100000
structure M4 (w : World) (p : Nat) (A : Option Addr) (n c v : Nat) (S : Option Addr) (sn sc : Nat) (sg : List Int) (O : Option Addr) (on : Nat) (xs : List Int) (wr : World) : Prop where
 d : Dice wr p A n c
 rN : Row wr w.heap.size 26 #[.slice none 0 0]
 rV : Row wr v 26 #[.slice S sn sc]
 s : Rd wr p wr.heap.size S sn sg
 o : Rd wr p wr.heap.size O on xs
 g : w.grownBy wr (some p)
 hp : p < w.heap.size
 hv : w.heap.size < v
section
variable {w : World} {p : Nat} {A : Option Addr} {n c v : Nat} {S : Option Addr} {sn sc : Nat} {sg : List Int} {O : Option Addr} {on : Nat} {xs : List Int} {wr w' : World}
theorem M4.dice (t : M4 w p A n c v S sn sc sg O on xs wr) (d : Dice w' p A n c) (hg : wr.grownBy w' (some p)) : M4 w p A n c v S sn sc sg O on xs w' :=
 ⟨d, Row.away t.rN hg (fun e => by injection e; have := t.hp; omega), Row.away t.rV hg (fun e => by injection e; have := t.hp; have := t.hv; omega), (t.s.grown hg (Nat.le_refl _)).more hg.size, (t.o.grown hg (Nat.le_refl _)).more hg.size, grown_trans t.g hg, t.hp, t.hv⟩
theorem M4.next (t : M4 w p A n c v S sn sc sg O on xs wr) (hb : Below wr.heap.size wr w') : M4 w p A n c v S sn sc sg O on xs w' :=
 ⟨t.d.next hb, t.rN.next hb, t.rV.next hb, (t.s.below hb (Nat.le_refl _)).more hb.size, (t.o.below hb (Nat.le_refl _)).more hb.size, grown_over t.g hb t.g.size, t.hp, t.hv⟩
theorem M4.drew (t : M4 w p A n c v S sn sc sg O on xs wr) : M4 w p A n c v S sn sc sg O on xs wr.drew := t.next ⟨rfl, rfl, rfl, Nat.le_refl _, fun _ _ => rfl⟩
end
def AnsM4 (w : World) (p : Nat) (A : Option Addr) (n c : Nat) (e : Ending) (w' : World) : Prop :=
 ∃ S sn sc sg O on oc xs Q qn qc ys, e = .returned (.tuple #[.agg #[.slice S sn sc], .slice O on oc, .slice Q qn qc]) ∧ Rd w' p w'.heap.size S sn sg ∧ Rd w' p w'.heap.size O on xs ∧ Rd w' p w'.heap.size Q qn ys ∧ sn ≤ 9 ∧ (on ≤ 65 ∧ Cap O on oc) ∧ (qn ≤ 65 ∧ Cap Q qn qc) ∧ Dice w' p A n c ∧ w.grownBy w' (some p)
theorem m4_of {w u : World} {p : Nat} {A : Option Addr} {n c v : Nat} {S : Option Addr} {sn sc : Nat} {sg : List Int} {O : Option Addr} {on oc : Nat} {xs : List Int} {Q : Option Addr} {qn qc : Nat} {ys : List Int} (t : M4 w p A n c v S sn sc sg O on xs u) (hq : Rd u p u.heap.size Q qn ys)
  (h1 : sn ≤ 9) (h2 : on ≤ 65 ∧ Cap O on oc) (h3 : qn ≤ 65 ∧ Cap Q qn qc) : AnsM4 w p A n c (.returned (.tuple #[.agg #[.slice S sn sc], .slice O on oc, .slice Q qn qc])) (u.setCell ⟨w.heap.size, 0, none⟩ (.slice S sn sc)) :=
 ⟨S, sn, sc, sg, O, on, oc, xs, Q, qn, qc, ys, rfl, (Rd.other t.s (t.rN.cell 0) _).more (by simp), (Rd.other t.o (t.rN.cell 0) _).more (by simp), (Rd.other hq (t.rN.cell 0) _).more (by simp), h1, h2, h3, Dice.other t.d (t.rN.cell 0) (by have := t.hp; omega) _, grown_set t.g (Nat.le_refl _) _ _⟩
set_option maxHeartbeats 8000000 in
theorem l4Draw (p : Nat) (A : Option Addr) (n c : Nat) (w : World) (hd : Dice w p A n c) :
  Calls Try.prog 34 #[.pointer (some ⟨p, 0, none⟩)] w (AnsM4 w p A n c) := by
 have hp := hd.lt
 obtain ⟨W0, hW0⟩ : ∃ W0, W0 = w.alloc (.cells #[.slice none 0 0] 26) := ⟨_, rfl⟩
 have rN : Row W0 w.heap.size 26 #[.slice none 0 0] := by rw [hW0]; exact Row.new _ _ _
 have d0 : Dice W0 p A n c := by rw [hW0]; exact hd.alloc _
 have g0 : w.grownBy W0 (some p) := by rw [hW0]; exact World.grownBy_alloc _ _ _
 have L2 := hid (drawSigAny p A n c W0 d0)
 have hp1 := d0.lt
 have HW0 := hid hW0
 clear hd d0 hW0
 go_enter Try.func34, Try.ntmps34
 go_wp2_with fail
 rw [← HW0.out]
 refine L2.out.mono ?_
 rintro e w2 ⟨S, sn, sc, sg, rfl, o2, hshort, d2, g2⟩
 have hsn : sn ≤ 9 := by rw [Own.len o2]; exact hshort
 have z0 := rN.lt
 have z2 := g2.size
 replace rN := Row.away rN g2 (fun e => by injection e; omega)
 have G2 := grown_trans g0 g2
 obtain ⟨W, hW⟩ : ∃ W, W = w2.alloc (.cells #[.slice S sn sc] 26) := ⟨_, rfl⟩
 obtain ⟨v, hv⟩ : ∃ v, w2.heap.size = v := ⟨_, rfl⟩
 have bb : Below w2.heap.size w2 W := by rw [hW]; exact (Below.refl _ _).alloc (Nat.le_refl _) _
 have T0 : M4 w p A n c v S sn sc sg none 0 [] W :=
  ⟨d2.next bb, rN.next bb, by rw [hW, ← hv]; exact Row.new _ _ _, ((Rd.of_own o2 hp1).below bb (Nat.le_refl _)).more bb.size, ⟨rfl, fun h => absurd h (by omega)⟩, grown_over G2 bb G2.size, hp, by omega⟩
 have HV := hid hv
 have HW := hid hW
 have cV : W.cell? ⟨v, 0, none⟩ = some (.slice S sn sc) := T0.rV.cell 0
 have L3 := hid (drawAny p A n c S sn sc sg W T0.d T0.s (by omega))
 have zNv : w.heap.size < v := T0.hv
 have zne1 : ¬ v = w.heap.size := by omega
 have zne2 : ¬ w.heap.size = v := by omega
 clear o2 hshort d2 g2 g0 hW hv L2 rN bb G2 z2
 go_wp2_with fail
 rw [← HW.out, HV.out]
 refine L3.out.mono ?_
 rintro e w4 ⟨O, on, oc, xs, rfl, ro, h1, h2, h3, h4, d4, g4⟩
 have hO : on ≤ 65 ∧ Cap O on oc := ⟨h4, h1, h2, h3⟩
 replace T0 := T0.dice d4 g4
 have T : M4 w p A n c v S sn sc sg O on xs w4 := ⟨T0.d, T0.rN, T0.rV, T0.s, ro, T0.g, T0.hp, T0.hv⟩
 have T1 := T.drew
 have cV4 : w4.cell? ⟨v, 0, none⟩ = some (.slice S sn sc) := T.rV.cell 0
 clear T0 T ro d4 g4 cV L3 h1 h2 h3
 go_wp2_with fail
 go_region_held3 (fun w' => w'.cell? ⟨v, 0, none⟩ = some (.slice S sn sc))
  (go_keep)
  (first
   | (go_at_call 43; refine (drawAnyS p A n c S sn sc sg w4.drew T1.d T1.s (by omega)).mono ?_; rintro e w5 ⟨B, m, cB, xss, rfl, own5, hsm5, d5, g5⟩; have hxt := small_tot hsm5 own5.1 (by omega); have T2 := T1.dice d5 g5; have cV5 : w5.cell? ⟨v, 0, none⟩ = some (.slice S sn sc) := T2.rV.cell 0)
   | (go_at_call 13; refine (specFilledO S B O sn sc m cB on oc sg xss xs w5 T2.s.seg (OwnR.segs own5) T2.o.seg (by omega) hxt (by omega)).mono ?_; rintro e w6 ⟨Q, qn, qc, rfl, oq, b6⟩; have T3 := T2.next b6; have cV6 : w6.cell? ⟨v, 0, none⟩ = some (.slice S sn sc) := T3.rV.cell 0))
 have hqn : qn ≤ 65 := by have e1 := Own.len oq; have e2 := filled_len sg xss xs; omega
 have hQ : qn ≤ 65 ∧ Cap Q qn qc := ⟨hqn, (Own.cap oq).1, (Own.cap oq).2, Own.none_cap oq⟩
 have rq : Rd w6 p w6.heap.size Q qn (filledL sg xss xs) := Rd.of_own oq (by have := T2.g.size; have := T2.hp; omega)
 generalize filledL sg xss xs = ys at rq
 generalize filledB sg xss xs = z at *
 clear oq b6 own5 d5 g5 cV5 cV4 T1 T2 hxt hsm5
 cases z with
 | false =>
  go_wp2_with fail
  refine (drawAny p A n c S sn sc sg w6 T3.d T3.s (by omega)).mono ?_
  rintro e w9 ⟨R, rn, rc, zs, rfl, ra, h1, h2, h3, h4, d9, g9⟩
  have T9 := T3.dice d9 g9
  have cN : w9.cell? ⟨w.heap.size, 0, none⟩ = some (.slice none 0 0) := T9.rN.cell 0
  have fN : w9.frozen? ⟨w.heap.size, 0, none⟩ = false := T9.rN.free 0
  have cF : w9.cell? ⟨v, 0, none⟩ = some (.slice S sn sc) := T9.rV.cell 0
  have F := hid (m4_of (oc := oc) (qc := rc) T9 ra hsn hO ⟨h4, h1, h2, h3⟩)
  clear T9 T3 ra rq d9 g9 cV6
  go_wp2
  exact bodyPost_ret (v := .tuple #[.agg #[.slice S sn sc], .slice O on oc, .slice R rn rc]) (by simp [results, Try.results34, go_sem, cN]) rfl F.out
 | true =>
  go_wp2_with fail
  refine (once p A n c 3 w6 T3.d (by omega) (by omega)).mono ?_
  rintro e w7 ⟨b, rfl, d7, g7⟩
  have T4 := T3.dice d7 g7
  have rq4 : Rd w7 p w7.heap.size Q qn ys := (rq.grown g7 (Nat.le_refl _)).more g7.size
  have cV7 : w7.cell? ⟨v, 0, none⟩ = some (.slice S sn sc) := T4.rV.cell 0
  clear d7 g7 T3 rq cV6
  cases b with
  | true =>
   go_wp2_with fail
   refine (drawAny p A n c S sn sc sg w7 T4.d T4.s (by omega)).mono ?_
   rintro e w9 ⟨R, rn, rc, zs, rfl, ra, h1, h2, h3, h4, d9, g9⟩
   have T9 := T4.dice d9 g9
   have cN : w9.cell? ⟨w.heap.size, 0, none⟩ = some (.slice none 0 0) := T9.rN.cell 0
   have fN : w9.frozen? ⟨w.heap.size, 0, none⟩ = false := T9.rN.free 0
   have cF : w9.cell? ⟨v, 0, none⟩ = some (.slice S sn sc) := T9.rV.cell 0
   have F := hid (m4_of (oc := oc) (qc := rc) T9 ra hsn hO ⟨h4, h1, h2, h3⟩)
   clear T9 T4 ra rq4 d9 g9 cV7
   go_wp2
   exact bodyPost_ret (v := .tuple #[.agg #[.slice S sn sc], .slice O on oc, .slice R rn rc]) (by simp [results, Try.results34, go_sem, cN]) rfl F.out
  | false =>
   have cN : w7.cell? ⟨w.heap.size, 0, none⟩ = some (.slice none 0 0) := T4.rN.cell 0
   have fN : w7.frozen? ⟨w.heap.size, 0, none⟩ = false := T4.rN.free 0
   have cF : w7.cell? ⟨v, 0, none⟩ = some (.slice S sn sc) := T4.rV.cell 0
   have F := hid (m4_of (oc := oc) (qc := qc) T4 rq4 hsn hO hQ)
   clear T4 rq4 cV7
   go_wp2
   exact bodyPost_ret (v := .tuple #[.agg #[.slice S sn sc], .slice O on oc, .slice Q qn qc]) (by simp [results, Try.results34, go_sem, cN]) rfl F.out
end drawMatch
end
section
namespace endAt
open Go.RowKit base ints sig term arity endOf cursor termOk
def inB (t : List Int) (x : Int) : Bool := decide (0 ≤ x ∧ x < t.length)
def thereB (sg t : List Int) (x : Int) : Bool := termOkB sg t && inB t x
theorem termOk_parts {sg t : List Int} (h : termOkB sg t = true) : sigOkB sg = true ∧ t.length ≤ 60 ∧ scan sg 1 t = some t.length := by
 unfold termOkB termB at h
 simp only [Bool.and_eq_true, decide_eq_true_eq] at h
 exact h
theorem there_parts {sg t : List Int} {x : Int} (h : thereB sg t x = true) : termOkB sg t = true ∧ 0 ≤ x ∧ x < t.length := by
 unfold thereB inB at h
 simp only [Bool.and_eq_true, decide_eq_true_eq] at h
 exact h
theorem there_no {sg t : List Int} {x : Int} (h : termOkB sg t = false ∨ x < 0 ∨ (t.length : Int) ≤ x) : thereB sg t x = false := by
 unfold thereB inB
 rcases h with h | h | h
 ·rw [h, Bool.false_and]
 ·rw [decide_eq_false (by omega), Bool.and_false]
 ·rw [decide_eq_false (by omega), Bool.and_false]
theorem there (A : Option Addr) (m c : Nat) (x : Int) (b : Bool) (w : World) (hm : m ≤ 1048576) (hb : decide (0 ≤ x ∧ x < m) = b) :
  Calls Try.prog 69 #[.slice A m c, .int .i64 x] w fun e w' => w = w' ∧ e = .returned (.bool b) := by
 by_cases h : 0 ≤ x ∧ x ≤ (m : Int) - 1
 ·have hbt : b = true := by rw [← hb]; simp; omega
  subst hbt
  clear hb
  go_enter Try.func69, Try.ntmps69
  go_wp2_with fail
  refine (inYes _ _ _ _ h).mono ?_
  rintro e w' ⟨rfl, rfl⟩
  go_wp2
  go_ret
  exact ⟨rfl, rfl⟩
 ·have hbt : b = false := by rw [← hb]; simp; omega
  subst hbt
  clear hb
  go_enter Try.func69, Try.ntmps69
  go_wp2_with fail
  refine (inNo _ _ _ _ h).mono ?_
  rintro e w' ⟨rfl, rfl⟩
  go_wp2
  go_ret
  exact ⟨rfl, rfl⟩
end endAt
end
section
open Go.Lib (hid)
namespace inside
open Go.RowKit base ints sig term arity endOf cursor termOk endAt
set_option maxRecDepth 100000
def Tells (w : World) (b : Bool) (e : Ending) (w' : World) : Prop := e = .returned (.bool b) ∧ Below w.heap.size w w'
structure Fr (w wr : World) (A : Option Addr) (n c : Nat) (sg : List Int) (A' : Option Addr) (m : Nat) (t : List Int) : Prop where
 r : Row wr w.heap.size 26 #[.slice A n c]
 s : Seg wr w.heap.size A n sg
 s' : Seg wr w.heap.size A' m t
 b : Below w.heap.size w wr
section
variable {w wr w' : World} {A : Option Addr} {n c : Nat} {sg : List Int} {A' : Option Addr} {m : Nat} {t : List Int}
theorem Fr.start (h : Seg w w.heap.size A n sg) (h' : Seg w w.heap.size A' m t) : Fr w (w.alloc (.cells #[.slice A n c] 26)) A n c sg A' m t :=
 have b : Below w.heap.size w (w.alloc (.cells #[.slice A n c] 26)) := (Below.refl _ _).alloc (Nat.le_refl _) _
 ⟨Row.new _ _ _, h.below b, h'.below b, b⟩
theorem Fr.next (f : Fr w wr A n c sg A' m t) (hb : Below wr.heap.size wr w') : Fr w w' A n c sg A' m t :=
 have b : Below w.heap.size wr w' := hb.mono (Nat.le_of_lt f.r.lt)
 ⟨f.r.next hb, f.s.below b, f.s'.below b, f.b.trans b⟩
theorem Fr.over (f : Fr w wr A n c sg A' m t) (hb : Below (w.heap.size + 1) wr w') : Fr w w' A n c sg A' m t :=
 have b : Below w.heap.size wr w' := hb.mono (Nat.le_succ _)
 ⟨f.r.below hb (Nat.lt_succ_self _), f.s.below b, f.s'.below b, f.b.trans b⟩
theorem Fr.alloc (f : Fr w wr A n c sg A' m t) (o : Obj) : Fr w (wr.alloc o) A n c sg A' m t := f.next ((Below.refl _ _).alloc (Nat.le_refl _) _)
theorem Fr.cell (f : Fr w wr A n c sg A' m t) : wr.cell? ⟨w.heap.size, 0, none⟩ = some (.slice A n c) := f.r.cell 0
theorem Fr.s1 (f : Fr w wr A n c sg A' m t) : Seg wr wr.heap.size A n sg := f.s.more (Nat.le_of_lt f.r.lt)
theorem Fr.t1 (f : Fr w wr A n c sg A' m t) : Seg wr wr.heap.size A' m t := f.s'.more (Nat.le_of_lt f.r.lt)
theorem Fr.size (f : Fr w wr A n c sg A' m t) : w.heap.size < wr.heap.size := f.r.lt
end
set_option maxHeartbeats 1000000 in
theorem right (A A' : Option Addr) (n c m c' : Nat) (sg t : List Int) (x : Int) (w : World) (h : Seg w w.heap.size A n sg) (h' : Seg w w.heap.size A' m t) (hn : n ≤ 1048576) (hm : m ≤ 1048576) :
  Calls Try.prog 89 #[.agg #[.slice A n c], .slice A' m c', .int .i64 x] w (Tells w (thereB sg t x)) := by
 obtain ⟨W, hW⟩ : ∃ W, W = w.alloc (.cells #[.slice A n c] 26) := ⟨_, rfl⟩
 have f : Fr w W A n c sg A' m t := by rw [hW]; exact Fr.start h h'
 have HW := hid hW
 have HL := hid h'.1
 have L := hid (specTermOk A A' n c m c' sg t W f.s1 f.t1 hn hm)
 clear hW h h'
 cases hok : termOkB sg t with
 | false =>
  have HS := hid hok
  have HT := hid (there_no (x := x) (.inl hok))
  clear hok
  go_enter Try.func89, Try.ntmps89
  go_wp2_with fail
  rw [← HW.out]
  refine L.out.mono ?_
  rintro e w1 ⟨he, bb⟩
  rw [HS.out] at he
  subst he
  have F := hid (show Tells w (thereB sg t x) (.returned (.bool false)) w1 from ⟨by rw [HT.out], (f.next bb).b⟩)
  clear f L bb HT
  go_wp2
  go_ret
  exact F.out
 | true =>
  have HS := hid hok
  obtain ⟨b, hb⟩ : ∃ b, decide (0 ≤ x ∧ x < (m : Int)) = b := ⟨_, rfl⟩
  have HD := hid hb
  have HT : thereB sg t x = b := by unfold thereB inB; rw [hok, HL.out, hb]; rfl
  replace HT := hid HT
  clear hok hb
  go_enter Try.func89, Try.ntmps89
  go_wp2_with fail
  rw [← HW.out]
  refine L.out.mono ?_
  rintro e w1 ⟨he, bb⟩
  rw [HS.out] at he
  subst he
  have F := hid (show Tells w (thereB sg t x) (.returned (.bool b)) w1 from ⟨by rw [HT.out], (f.next bb).b⟩)
  clear f L bb HT
  go_wp2_with fail
  refine (there _ _ _ x b _ hm HD.out).mono ?_
  rintro e w2 ⟨rfl, rfl⟩
  go_wp2
  go_ret
  exact F.out
end inside
end
section
open Go.Lib (hid)
namespace concat
open Go.RowKit base ints marks app sym segs segsHelp
set_option maxRecDepth 100000
set_option maxHeartbeats 1000000 in
theorem growNil (s : Nat) (w : World) (hs : s ≤ 2097152) :
  Calls Try.prog 102 #[.slice none 0 0, .int .i64 (s : Int)] w (AnsList w []) := by
 by_cases h0 : s = 0
 ·subst h0
  go_enter Try.func102, Try.ntmps102
  go_wp2
  go_ret
  exact ⟨none, 0, 0, rfl, Own.nil _ _, Below.refl _ _⟩
 ·obtain ⟨i0, hi, hz0, hz1, hz2⟩ := info_parts info_i64
  obtain ⟨G, hG⟩ : ∃ G, G = grownCap w s 0 2 := ⟨_, rfl⟩
  have hge : s ≤ G := by rw [hG]; exact grownCap_ge w _ _ _
  have hcm : G ≤ maxLen := by rw [hG]; exact grownCap_le_maxLen w _ _ _ (by unfold maxLen; omega)
  obtain ⟨cs, hcs⟩ : ∃ cs, cs = Builtin.zeroCells (Value.int .i64 0).cells s ++ Builtin.zeroCells (Value.int .i64 0).cells (G - s) := ⟨_, rfl⟩
  have hsz : cs.size = G := by
   rw [hcs]
   have e : (Value.int .i64 0).cells.size = 1 := rfl
   simp only [Array.size_append, size_zeroCells, e]
   omega
  have hr : ∀ ty, (Builtin.append_ #[24, 3] ty #[.slice none 0 0, .int .i64 (s : Int)]).run Try.prog w = .ok (.slice (some ⟨w.heap.size, 0, none⟩) s G) (w.drew.alloc (.cells cs 2)) := fun ty => by
   rw [hG, hcs, hG]
   exact Lib.run_append_nil_zeros w 24 3 ty 2 i0 (.int .i64 0) .i64 .i64 Try.underlying24 Try.underlying3 hi hz0 s (by omega) (by rw [hz1]; omega) (by omega) (by rw [hz2]; omega)
  have hrow : Row (w.drew.alloc (.cells cs 2)) w.heap.size 2 cs := Row.new w.drew _ _
  have F : AnsList w [] (.returned (.slice (some ⟨w.heap.size, 0, none⟩) 0 G)) (w.drew.alloc (.cells cs 2)) :=
   ⟨_, _, _, rfl, Own.of_row hrow rfl hsz (Nat.zero_le _) (by unfold maxLen at hcm; omega) (Nat.le_refl _) (fun j hj => absurd hj (Nat.not_lt_zero _)), ((Below.refl _ _).drew).alloc (Nat.le_refl _) _⟩
  have HF := hid F
  have hG63 : G ≤ 9223372036854775807 := by unfold maxLen at hcm; omega
  clear F hrow hsz hcs hG hcm
  have h1 : (0 : Int) < (s : Int) := by omega
  go_enter Try.func102, Try.ntmps102
  go_wp2_with (at_builtin; refine Lib.wpList_append_run _ rfl _ _ _ _ rfl _ _ rfl rfl _ _ (hr _) ?_)
  go_wp2
  go_ret
  exact HF.out
def catL (xss : List (List Int)) (k : Nat) : List Int := (xss.take k).flatten
theorem cat_len {xss : List (List Int)} {k : Nat} : (catL xss k).length = sumL xss k := by unfold catL sumL; rw [List.length_flatten]
theorem cat_succ {xss : List (List Int)} {k : Nat} (h : k < xss.length) : catL xss (k + 1) = catL xss k ++ xss.getD k [] := by
 unfold catL
 rw [List.take_succ_eq_append_getElem h, List.flatten_append]
 simp [List.getD, h]
set_option maxHeartbeats 1000000 in
theorem concat (S : Option Addr) (k c : Nat) (xss : List (List Int)) (w : World) (h : Segs w w.heap.size S k xss) (ht : tot xss ≤ 1048576) :
  Calls Try.prog 93 #[.slice S k c] w (AnsList w xss.flatten) := by
 have HL := hid h.1
 have hk : k ≤ 1048576 := tot_len h.1 ht
 have hs1 : Hid (∀ j, j ≤ k → sumL xss j ≤ 1048576) := hid (fun j hj => by have := sumL_mono (xss := xss) (k := j) (m := xss.length) (by rw [h.1]; exact hj) (Nat.le_refl _); unfold tot at ht; omega)
 have HS : Hid (∀ j, j < k → sumL xss (j + 1) = sumL xss j + (xss.getD j []).length) := hid (fun j hj => sumL_succ (by rw [h.1]; exact hj))
 have HC : Hid (∀ j, j < k → catL xss (j + 1) = catL xss j ++ xss.getD j []) := hid (fun j hj => cat_succ (by rw [h.1]; exact hj))
 have HF := hid (show catL xss k = xss.flatten by unfold catL; rw [List.take_of_length_le (by rw [h.1]; exact Nat.le_refl _)])
 have HCL := hid (fun j => cat_len (xss := xss) (k := j))
 have HH := hid h
 have S0 := hid (show sumL xss 0 = 0 by simp [sumL])
 have C0 := hid (show catL xss 0 = [] by simp [catL])
 clear h ht
 go_enter Try.func93, Try.ntmps93
 go_wp2
 go_loopg [3, 11] k (fun g s i wr => w = wr ∧ ∃ j : Nat, i = .int .i64 j ∧ j + g = k ∧ s = .int .i64 (sumL xss j : Nat))
 case atStart => exact ⟨rfl, 0, rfl, by omega, by rw [S0.out]; rfl⟩
 case round =>
  obtain ⟨rfl, j, rfl, hj, rfl⟩ := hrel
  have HJ := hid hj
  clear hj
  by_cases hjk : j < k
  ·obtain ⟨b, off, A', n', c', rfl, hb, hc, hsg, hcap⟩ := HH.out.spot hjk
   have hl := hsg.1
   have hb1 := hs1.out j (by omega)
   have hb2 := hs1.out (j + 1) (by omega)
   have hsu := HS.out j hjk
   obtain ⟨s, hs⟩ : ∃ s, sumL xss j = s := ⟨_, rfl⟩
   have HSS := hid (show sumL xss (j + 1) = s + n' by rw [hsu, hs, hl])
   have hb3 : s + n' ≤ 1048576 := by rw [← HSS.out]; exact hb2
   rw [hs]
   clear hsg hcap hl hb1 hb2 hsu hs
   go_wp2
   go_roundg (gk - 1)
   case measure => have := HJ.out; omega
   case rel => exact ⟨rfl, j + 1, by simp, by have := HJ.out; omega, by rw [HSS.out]; simp⟩
  ·have hjk2 : j = k := by have := HJ.out; omega
   obtain ⟨s, hs⟩ : ∃ s, sumL xss j = s := ⟨_, rfl⟩
   have hs2 : s ≤ 2097152 := by rw [← hs]; have := hs1.out j (by omega); omega
   rw [hs]
   have LG := hid (growNil s w hs2)
   clear hs hs2 hjk2
   go_wp2_with fail
   refine LG.out.mono ?_
   rintro e w1 ⟨O, on, oc, rfl, o1, b1⟩
   have on0 : on = 0 := Own.len o1
   subst on0
   have P0 : Own w1 w.heap.size (.slice O 0 oc) (catL xss 0) := by rw [C0.out]; exact o1
   have HP := hid (And.intro P0 b1)
   clear P0 o1 b1 LG
   go_wp2
   go_loopg [6, 27] k (fun g s i wr => ∃ (j : Nat) (O : Option Addr) (on oc : Nat), i = .int .i64 j ∧ j + g = k ∧ s = .slice O on oc ∧ Own wr w.heap.size (.slice O on oc) (catL xss j) ∧ Below w.heap.size w wr)
   case atStart => exact ⟨0, O, 0, oc, rfl, by omega, rfl, HP.out.1, HP.out.2⟩
   case round =>
    obtain ⟨j, O, on, oc, rfl, hj, rfl, ho, hb⟩ := hrel
    clear HP
    have HJ := hid hj
    clear hj
    by_cases hjk : j < k
    ·have hsegs := (HH.out.below hb)
     obtain ⟨b, off, A', n', c', rfl, hbb, hc, hsg, hcap⟩ := hsegs.spot hjk
     have hon : on ≤ 1048576 := by rw [Own.len ho, HCL.out j]; exact hs1.out j (by omega)
     have hn' : n' ≤ 1048576 := by have h1 := hsg.1; have h2 := hs1.out (j + 1) (by omega); rw [HS.out j hjk, h1] at h2; omega
     have HCAP := hid hcap.2.2
     have hsz := hb.size
     clear hsegs hcap
     go_wp2_with (at_builtin; refine appAll rfl _ _ rfl w.heap.size O on oc (catL xss j) rfl ho A' n' c' w.heap.size (xss.getD j []) rfl hsg HCAP.out (by omega) (by omega) hsz ?_; intro O' oc' w3 ho3 b3)
     have S := hid (show Own w3 w.heap.size (.slice O' (on + n') oc') (catL xss (j + 1)) ∧ Below w.heap.size w w3 from ⟨by rw [HC.out j hjk]; exact ho3, hb.trans b3⟩)
     clear ho ho3 hb b3 hsg hc
     go_wp2
     go_roundg (gk - 1)
     case measure => have := HJ.out; omega
     case rel => exact ⟨j + 1, O', on + n', oc', by simp, by have := HJ.out; omega, rfl, S.out⟩
    ·have hjk2 : j = k := by have := HJ.out; omega
     have F : AnsList w xss.flatten (.returned (.slice O on oc)) wr := ⟨O, on, oc, rfl, by rw [← HF.out, ← hjk2]; exact ho, hb⟩
     have HFF := hid F
     clear F ho hb hjk2
     go_wp2
     go_ret
     exact HFF.out
end concat
end
section
namespace sym
open Go.RowKit base ints sig term termOk marks app
end sym
end
section
open Go.Lib (hid)
namespace curO
open Go.RowKit base ints sig term arity cursor sub
set_option maxRecDepth 100000
structure CurO (w : World) (p o : Nat) (ty : TypeId) (cs : Array Value) (A : Option Addr) (n c : Nat) (A' : Option Addr) (m c' : Nat) (sg t : List Int) (k : Nat) : Prop where
 row : Row w p ty (cs.setIfInBounds (o + 2) (.int .i64 k))
 h0 : cs[o]? = some (.slice A n c)
 h1 : cs[o + 1]? = some (.slice A' m c')
 sz : o + 2 < cs.size
 s : Seg w p A n sg
 s' : Seg w p A' m t
 le : k ≤ m
 hn : n ≤ 1048576
 hm : m ≤ 1048576
 ars : Arities sg
section
variable {w w' : World} {p o : Nat} {ty : TypeId} {cs : Array Value} {A : Option Addr} {n c : Nat} {A' : Option Addr} {m c' : Nat} {sg t : List Int} {k : Nat}
theorem CurO.c0 (h : CurO w p o ty cs A n c A' m c' sg t k) : w.cell? ⟨p, o, none⟩ = some (.slice A n c) := by
 rw [h.row.cell o, Array.getElem?_setIfInBounds_ne (by omega)]; exact h.h0
theorem CurO.c1 (h : CurO w p o ty cs A n c A' m c' sg t k) : w.cell? ⟨p, o + 1, none⟩ = some (.slice A' m c') := by
 rw [h.row.cell (o + 1), Array.getElem?_setIfInBounds_ne (by omega)]; exact h.h1
theorem CurO.c2 (h : CurO w p o ty cs A n c A' m c' sg t k) : w.cell? ⟨p, o + 2, none⟩ = some (.int .i64 k) := by
 rw [h.row.cell (o + 2), Array.getElem?_setIfInBounds_self_of_lt h.sz]
theorem CurO.below (h : CurO w p o ty cs A n c A' m c' sg t k) (hb : Below w.heap.size w w') : CurO w' p o ty cs A n c A' m c' sg t k :=
 have hp := h.row.lt
 ⟨h.row.next hb, h.h0, h.h1, h.sz, h.s.below (hb.mono (Nat.le_of_lt hp)), h.s'.below (hb.mono (Nat.le_of_lt hp)), h.le, h.hn, h.hm, h.ars⟩
theorem CurO.drewN (h : CurO w p o ty cs A n c A' m c' sg t k) (d : Nat) : CurO (w.drewN d) p o ty cs A n c A' m c' sg t k :=
 ⟨h.row, h.h0, h.h1, h.sz, h.s, h.s', h.le, h.hn, h.hm, h.ars⟩
theorem CurO.step (h : CurO w p o ty cs A n c A' m c' sg t k) (hk : k < m) (d : Nat) :
  CurO ((w.drewN d).setCell ⟨p, o + 2, none⟩ (.int .i64 ((k : Int) + 1))) p o ty cs A n c A' m c' sg t (k + 1) := by
 have r := (h.row.drewN d).put (o + 2) (.int .i64 ((k : Int) + 1))
 rw [Array.setIfInBounds_setIfInBounds] at r
 refine ⟨?_, h.h0, h.h1, h.sz, (h.s.drewN d).put (p := ⟨p, o + 2, none⟩) (Nat.le_refl _) _, (h.s'.drewN d).put (p := ⟨p, o + 2, none⟩) (Nat.le_refl _) _, hk, h.hn, h.hm, h.ars⟩
 have e : (.int .i64 ((k : Int) + 1) : Value) = .int .i64 ((k + 1 : Nat) : Int) := by simp
 rw [← e]
 exact r
end
def NextO (w : World) (p o : Nat) (ty : TypeId) (cs : Array Value) (A : Option Addr) (n c : Nat) (A' : Option Addr) (m c' : Nat) (sg t : List Int) (k : Nat) (e : Ending) (w' : World) : Prop :=
 w.grownBy w' (some p) ∧ ((k < m ∧ e = .returned (.int .i64 (ar sg (t.getD k 0))) ∧ CurO w' p o ty cs A n c A' m c' sg t (k + 1)) ∨ (k = m ∧ e = .returned (.int .i64 (-1)) ∧ CurO w' p o ty cs A n c A' m c' sg t k))
set_option maxHeartbeats 1000000 in
theorem nextO (p o : Nat) (ty : TypeId) (cs : Array Value) (A : Option Addr) (n c : Nat) (A' : Option Addr) (m c' : Nat) (sg t : List Int) (k : Nat) (w : World) (h : CurO w p o ty cs A n c A' m c' sg t k) :
  Calls Try.prog 100 #[.pointer (some ⟨p, o, none⟩)] w (NextO w p o ty cs A n c A' m c' sg t k) := by
 have hk := h.le
 have hm := h.hm
 have c0 := h.c0
 have c1 := h.c1
 have c2 := h.c2
 have f2 : w.frozen? ⟨p, o + 2, none⟩ = false := h.row.free (o + 2)
 by_cases hlt : k < m
 ·obtain ⟨b, off, x, rfl, hbb, hx, ex⟩ := h.s'.spot hlt
  have i0 : (0 : Int) ≤ (k : Int) := by omega
  have i1 : (k : Int) < (m : Int) := by omega
  have HS := hid (fun d => h.step hlt d)
  have HG := hid (fun d => grown_put (grown_drewN (World.grownBy.refl w (some p)) d) (o + 2) (.int .i64 ((k : Int) + 1)))
  clear h
  go_enter Try.func100, Try.ntmps100
  go_wp2
  go_quiet (fail)
  go_wp2
  go_quiet (fail)
  go_wp2_with fail
  refine (implArity A n c sg x _ ((HS.out _).s.more (Nat.le_of_lt (HS.out _).row.lt)) (HS.out 0).hn).mono ?_
  rintro e w' ⟨rfl, bb⟩
  have F : NextO w p o ty cs A n c (some ⟨b, off, none⟩) m c' sg t k (.returned (.int .i64 (ar sg x))) w' :=
   ⟨grown_trans (HG.out _) (grown_below bb _), .inl ⟨hlt, by rw [ex.out], (HS.out _).below bb⟩⟩
  have HF := hid F
  clear F HG HS bb ex
  go_wp2
  go_ret
  exact HF.out
 ·have e : k = m := by omega
  have HS := hid (fun d => h.drewN d)
  have HE := hid e
  have i2 : decide (m ≤ k) = true := by simp; omega
  clear e h
  go_enter Try.func100, Try.ntmps100
  go_wp2
  go_quiet (fail)
  go_wp2
  go_ret
  exact ⟨grown_drewN (World.grownBy.refl w (some p)) _, .inr ⟨HE.out, rfl, HS.out _⟩⟩
def PassO (w : World) (p o : Nat) (ty : TypeId) (cs : Array Value) (A : Option Addr) (n c : Nat) (A' : Option Addr) (m c' : Nat) (sg t : List Int) (k : Nat) (e : Ending) (w' : World) : Prop :=
 w.grownBy w' (some p) ∧ ((∃ j, scan sg 1 (t.drop k) = some j ∧ e = .returned (.bool true) ∧ CurO w' p o ty cs A n c A' m c' sg t (k + j)) ∨ (scan sg 1 (t.drop k) = none ∧ e = .returned (.bool false) ∧ ∃ k', CurO w' p o ty cs A n c A' m c' sg t k'))
def HeadO (w : World) (p o : Nat) (ty : TypeId) (cs : Array Value) (A : Option Addr) (n c : Nat) (A' : Option Addr) (m c' : Nat) (sg t : List Int) (a : Nat) (q : Value) (wr : World) : Prop :=
 ∃ k q' : Nat, q = .int .i64 q' ∧ q' ≤ 3 * k + 1 ∧ Scn sg t a k q' ∧ CurO wr p o ty cs A n c A' m c' sg t k ∧ w.grownBy wr (some p)
def atO (p o : Nat) (wr : World) : Nat := (intOf ((wr.cell? ⟨p, o + 2, none⟩).getD undef)).toNat
theorem atO_cur {w : World} {p o : Nat} {ty : TypeId} {cs : Array Value} {A : Option Addr} {n c : Nat} {A' : Option Addr} {m c' : Nat} {sg t : List Int} {k : Nat} (h : CurO w p o ty cs A n c A' m c' sg t k) : atO p o w = k := by
 unfold atO
 rw [h.c2]
 simp [intOf]
set_option maxHeartbeats 1000000 in
theorem passO (p o : Nat) (ty : TypeId) (cs : Array Value) (A : Option Addr) (n c : Nat) (A' : Option Addr) (m c' : Nat) (sg t : List Int) (a : Nat) (w : World) (h : CurO w p o ty cs A n c A' m c' sg t a) :
  Calls Try.prog 76 #[.pointer (some ⟨p, o, none⟩)] w (PassO w p o ty cs A n c A' m c' sg t a) := by
 have hm := h.hm
 have HL := hid h.s'.1
 have hs := h.ars
 have H0 : HeadO w p o ty cs A n c A' m c' sg t a (.int .i64 1) w := ⟨a, 1, rfl, by omega, Scn.start (by rw [HL.out]; exact h.le), h, World.grownBy.refl _ _⟩
 have HH := hid H0
 clear H0 h
 go_enter Try.func76, Try.ntmps76
 go_wp2_with fail
 go_loopw [3, 4] (fun q _ wr => HeadO w p o ty cs A n c A' m c' sg t a q wr) (fun _ _ wr => m - atO p o wr)
 case atStart => exact HH.out
 case round =>
  obtain ⟨k, q, rfl, hq, hl, hc, hg⟩ := hrel
  clear HH
  have hk := hc.le
  by_cases h0 : q = 0
  ·subst h0
   have S : PassO w p o ty cs A n c A' m c' sg t a (.returned (.bool true)) wr := ⟨hg, .inl ⟨k - a, hl.done, rfl, by rw [show a + (k - a) = k by have := hl.1; omega]; exact hc⟩⟩
   have HS := hid S
   clear S hl hc hg
   go_wp2
   go_ret
   exact HS.out
  ·obtain ⟨q1, rfl⟩ : ∃ q1, q = q1 + 1 := ⟨q - 1, by omega⟩
   have hq0 : (0 : Int) < ((q1 + 1 : Nat) : Int) := by omega
   go_wp2_with fail
   refine (nextO p o ty cs A n c A' m c' sg t k wr hc).mono ?_
   rintro e w2 ⟨g2, ⟨hlt, rfl, hc2⟩ | ⟨hk', rfl, hc2⟩⟩
   ·obtain ⟨z, hz⟩ : ∃ z, ar sg (t.getD k 0) = z := ⟨_, rfl⟩
    have hzb := ar_bd hs (t.getD k 0)
    rw [hz] at hzb ⊢
    by_cases hneg : z < 0
    ·have S : PassO w p o ty cs A n c A' m c' sg t a (.returned (.bool false)) w2 := ⟨grown_trans hg g2, .inr ⟨hl.bad (by rw [HL.out]; exact hlt) rfl (by rw [hz]; exact hneg), rfl, _, hc2⟩⟩
     have HS := hid S
     clear S hl hc hg hc2 g2 hz
     go_wp2
     go_ret
     exact HS.out
    ·have hl' := hl.step (by rw [HL.out]; exact hlt) rfl (by rw [hz]; exact hneg)
     rw [hz] at hl'
     have S : HeadO w p o ty cs A n c A' m c' sg t a (.int .i64 ((q1 : Int) + z)) w2 := ⟨k + 1, q1 + z.toNat, by congr 1; omega, by omega, hl', hc2, grown_trans hg g2⟩
     have HS := hid S
     have M := hid (show m - atO p o w2 < m - atO p o wr by rw [atO_cur hc, atO_cur hc2]; omega)
     have hz1 := hzb.1
     have hz2 := hzb.2
     have hq2 : (q1 : Int) ≤ 3145728 := by omega
     clear S hl hc hg hc2 g2 hz hl' hzb
     go_wp2
     go_roundw
     case rel => rw [show (q1 : Int) + 1 + z - 1 = (q1 : Int) + z by omega]; exact HS.out
     case measure => exact M.out
   ·have S : PassO w p o ty cs A n c A' m c' sg t a (.returned (.bool false)) w2 := ⟨grown_trans hg g2, .inr ⟨hl.out (by rw [HL.out]; omega), rfl, _, hc2⟩⟩
    have HS := hid S
    clear S hl hc hg hc2 g2
    go_wp2
    go_ret
    exact HS.out
def PartO (w : World) (p o : Nat) (ty : TypeId) (cs : Array Value) (A : Option Addr) (n c : Nat) (b off m c' : Nat) (sg t : List Int) (k j : Nat) (e : Ending) (w' : World) : Prop :=
 e = .returned (.slice (some ⟨b, off + k, none⟩) j (c' - k)) ∧ w.grownBy w' (some p) ∧ CurO w' p o ty cs A n c (some ⟨b, off, none⟩) m c' sg t (k + j)
set_option maxHeartbeats 1000000 in
theorem partO (p o : Nat) (ty : TypeId) (cs : Array Value) (A : Option Addr) (n c b off m c' : Nat) (sg t : List Int) (k j : Nat) (w : World) (h : CurO w p o ty cs A n c (some ⟨b, off, none⟩) m c' sg t k) (hj : scan sg 1 (t.drop k) = some j) (hkj : k + j ≤ m) (h1 : 1 ≤ j) (hmc : m ≤ c') (hc : c' ≤ 9223372036854775807) :
  Calls Try.prog 94 #[.pointer (some ⟨p, o, none⟩)] w (PartO w p o ty cs A n c b off m c' sg t k j) := by
 have hm := h.hm
 have c2 := h.c2
 have L := hid (passO p o ty cs A n c (some ⟨b, off, none⟩) m c' sg t k w h)
 have HJ := hid hj
 have a1 : (k : Int) ≤ (k : Int) + (j : Int) := by omega
 have a2 : (k : Int) + (j : Int) ≤ (c' : Int) := by omega
 have a3 : ¬ c' = k := by omega
 have a4 : k + j ≤ c' := by omega
 have a5 : k + j - k = j := by omega
 clear hj h
 go_enter Try.func94, Try.ntmps94
 go_wp2_with fail
 refine L.out.mono ?_
 rintro e w1 ⟨hg, ⟨j', hj', rfl, hc1⟩ | ⟨hj', rfl, -⟩⟩
 ·obtain rfl : j = j' := by rw [HJ.out] at hj'; injection hj'
  have d1 := hc1.c1
  have d2 := hc1.c2
  have HF := hid (fun d => (show PartO w p o ty cs A n c b off m c' sg t k j (.returned (.slice (some ⟨b, off + k, none⟩) (k + j - k) (c' - k))) (w1.drewN d) from ⟨by rw [a5], grown_drewN hg d, hc1.drewN d⟩))
  clear hc1 hg hj' L
  go_wp2
  go_quiet (fail)
  go_wp2
  go_ret
  exact HF.out _
 ·rw [HJ.out] at hj'
  cases hj'
theorem ofCur {w : World} {p : Nat} {A : Option Addr} {n c : Nat} {A' : Option Addr} {m c' : Nat} {sg t : List Int} {k : Nat} (h : Cur w p A n c A' m c' sg t k) (u : Value) :
  CurO w p 0 56 #[.slice A n c, .slice A' m c', u] A n c A' m c' sg t k :=
 ⟨by have r := h.row; simpa using r, by simp, by simp, by simp, h.s, h.s', h.le, h.hn, h.hm, h.ars⟩
theorem toCur {w : World} {p : Nat} {A : Option Addr} {n c : Nat} {A' : Option Addr} {m c' : Nat} {sg t : List Int} {k : Nat} {u : Value} (h : CurO w p 0 56 #[.slice A n c, .slice A' m c', u] A n c A' m c' sg t k) :
  Cur w p A n c A' m c' sg t k :=
 ⟨by have r := h.row; simpa using r, h.s, h.s', h.le, h.hn, h.hm, h.ars⟩
theorem partC (p : Nat) (A : Option Addr) (n c b off m c' : Nat) (sg t : List Int) (k j : Nat) (w : World) (h : Cur w p A n c (some ⟨b, off, none⟩) m c' sg t k) (hj : scan sg 1 (t.drop k) = some j) (hkj : k + j ≤ m) (h1 : 1 ≤ j) (hmc : m ≤ c') (hc : c' ≤ 9223372036854775807) :
  Calls Try.prog 94 #[.pointer (some ⟨p, 0, none⟩)] w fun e w' => e = .returned (.slice (some ⟨b, off + k, none⟩) j (c' - k)) ∧ w.grownBy w' (some p) ∧ Cur w' p A n c (some ⟨b, off, none⟩) m c' sg t (k + j) :=
 (partO p 0 _ _ A n c b off m c' sg t k j w (ofCur h undef) hj hkj h1 hmc hc).mono fun _ _ ⟨e1, e2, e3⟩ => ⟨e1, e2, toCur e3⟩
end curO
end
section
namespace sub
open Go.RowKit base ints sig term arity endOf cursor termOk endAt marks app sym curO
def subL (sg t : List Int) (a : Nat) : List Int := (t.drop a).take (len1 sg t a)
set_option maxHeartbeats 1000000 in
theorem l1Sub (A A' : Option Addr) (n c m c' : Nat) (sg t : List Int) (a j : Nat) (w : World) (h : Seg w w.heap.size A n sg) (h' : Seg w w.heap.size A' m t) (hn : n ≤ 1048576) (hm : m ≤ 1048576) (hc' : m ≤ c') (hc2 : c' ≤ 9223372036854775807)
  (hs : Arities sg) (ha : a < m) (hj : scan sg 1 (t.drop a) = some j) (hj1 : 1 ≤ j) (hj2 : a + j ≤ m) :
  Calls Try.prog 66 #[.agg #[.slice A n c], .slice A' m c', .int .i64 (a : Int)] w (AnsList w (subL sg t a)) := by
 obtain ⟨b, off, x, rfl, -, -, -⟩ := h'.spot ha
 obtain ⟨W, hW⟩ : ∃ W, W = w.alloc (.cells #[.slice A n c] 26) := ⟨_, rfl⟩
 have bel : Below w.heap.size w W := by rw [hW]; exact (Below.refl _ _).alloc (Nat.le_refl _) _
 have zW : w.heap.size < W.heap.size := by rw [hW]; simp
 replace h := (h.below bel).more bel.size
 replace h' := (h'.below bel).more bel.size
 have HW := Lib.hid hW
 clear hW
 have L := Lib.hid (specEnd A _ n c m c' sg t (a : Int) W h h' hn hm hs (by omega) (by omega))
 have HE := Lib.hid (endI_some hj)
 have HL := Lib.hid (len1_eq hj)
 have hcut := Seg.cut (a := a) (j := j) h' hj2
 clear h h' hj hs
 have i0 : (0 : Int) ≤ (a : Int) := by omega
 have i1 : (a : Int) ≤ (a : Int) + (j : Int) := by omega
 have i2 : (a : Int) + (j : Int) ≤ (c' : Int) := by omega
 have i3 : ¬ c' = a := by omega
 go_enter Try.func66, Try.ntmps66
 go_wp2_with fail
 rw [← HW.out]
 refine L.out.mono ?_
 rintro e w1 ⟨he, bb⟩
 rw [Int.toNat_natCast, HE.out] at he
 subst he
 replace hcut := hcut.next bb
 replace bel := next_trans bel bb
 clear bb L
 go_wp2_with fail
 refine (copyInts _ j _ _ w1 hcut (fun e => by cases e) (by omega)).mono ?_
 rintro e w2 ⟨A2, n2, c2, rfl, o2, bb⟩
 have F : AnsList w (subL sg t a) (.returned (.slice A2 n2 c2)) w2 := ⟨A2, n2, c2, rfl, by unfold subL; rw [HL.out]; exact Own.lower o2 bel.size, next_trans bel bb⟩
 have HF := Lib.hid F
 clear F o2 bb bel hcut
 go_wp2
 go_ret
 exact HF.out
end sub
end
section
open Go.Lib (hid)
namespace args
open Go.RowKit base ints sig term arity endOf cursor termOk endAt marks app sym
def argsL (sg t : List Int) (a : Nat) : List Int := places sg t (ar sg (t.getD a 0)).toNat (a + 1)
def Coll (sg t : List Int) (m : Nat) (L ys : List Int) (q p : Nat) : Prop := ys ++ places sg t q p = L ∧ ∃ i, scan sg q (t.drop p) = some i ∧ p + i ≤ m
theorem Coll.first {sg t : List Int} {m : Nat} {L ys : List Int} {q p : Nat} (h : Coll sg t m L ys (q + 1) p) : ∃ j, scan sg 1 (t.drop p) = some j ∧ p + j ≤ m ∧ p < t.length ∧ Coll sg t m L (ys ++ [(p : Int)]) q (p + j) := by
 obtain ⟨h1, i, h2, h3⟩ := h
 obtain ⟨j, e1, e2, e3, e4⟩ := scan_first h2
 have e5 := scan_le h2
 refine ⟨j, e1, by omega, ?_, ?_, i - j, e4, by omega⟩
 ·simp only [List.length_drop] at e5; omega
 ·rw [← h1, List.append_assoc]
  congr 1
  simp only [places, len1_eq e1, List.singleton_append]
theorem Coll.done {sg t : List Int} {m : Nat} {L ys : List Int} {p : Nat} (h : Coll sg t m L ys 0 p) : ys = L := by
 have := h.1
 simpa [places] using this
theorem Coll.len {sg t : List Int} {m : Nat} {L ys : List Int} {q p : Nat} (h : Coll sg t m L ys q p) : ys.length ≤ L.length := by
 rw [← h.1]; simp
theorem Coll.start {sg t : List Int} {m a j : Nat} (hm : t.length = m) (h : scan sg 1 (t.drop a) = some j) (hj : a + j ≤ m) : ¬ ar sg (t.getD a 0) < 0 ∧ Coll sg t m (argsL sg t a) [] (ar sg (t.getD a 0)).toNat (a + 1) := by
 obtain ⟨i, rfl, _, h2, h3⟩ := scan_args h
 exact ⟨h2, rfl, i, h3, by omega⟩
theorem argsL_len {sg t : List Int} (hs : Arities sg) (a : Nat) : (argsL sg t a).length ≤ 3 := by
 unfold argsL
 rw [places_len]
 have := ar_bd hs (t.getD a 0)
 omega
def HeadArgs (w : World) (A : Option Addr) (n c m : Nat) (sg t : List Int) (L : List Int) (out p k : Value) (wr : World) : Prop :=
 ∃ (q pp : Nat) (O : Option Addr) (on oc : Nat) (ys : List Int), k = .int .i64 q ∧ p = .int .i64 pp ∧ out = .slice O on oc ∧ Own wr (w.heap.size + 1) (.slice O on oc) ys ∧ Coll sg t m L ys q pp ∧ q ≤ 3 ∧ Row wr w.heap.size 26 #[.slice A n c] ∧ Below w.heap.size w wr
set_option maxHeartbeats 1000000 in
theorem l1Args (A A' : Option Addr) (n c m c' : Nat) (sg t : List Int) (a j : Nat) (w : World) (h : Seg w w.heap.size A n sg) (h' : Seg w w.heap.size A' m t) (hn : n ≤ 1048576) (hm : m ≤ 1048576)
  (hs : Arities sg) (ha : a < m) (hj : scan sg 1 (t.drop a) = some j) (hj2 : a + j ≤ m) :
  Calls Try.prog 103 #[.agg #[.slice A n c], .slice A' m c', .int .i64 (a : Int)] w (AnsList w (argsL sg t a)) := by
 have HL := hid h'.1
 obtain ⟨hneg, hcoll⟩ := Coll.start HL.out hj hj2
 have h3 := argsL_len (t := t) hs a
 obtain ⟨b, off, x, rfl, hbb, hx, ex⟩ := h'.spot ha
 rw [ex.out] at hneg hcoll
 have hzb := ar_bd hs x
 obtain ⟨z, hz⟩ : ∃ z, ar sg x = z := ⟨_, rfl⟩
 rw [hz] at hneg hcoll hzb
 obtain ⟨T, rfl⟩ := Int.eq_ofNat_of_zero_le (show 0 ≤ z by omega)
 rw [Int.toNat_natCast] at hcoll
 have HZ := hid hz
 obtain ⟨L, hL⟩ : ∃ L, argsL sg t a = L := ⟨_, rfl⟩
 rw [hL] at hcoll h3 ⊢
 obtain ⟨W, hW⟩ : ∃ W, W = (w.alloc (.cells #[.slice A n c] 26)).alloc (.cells #[] 2) := ⟨_, rfl⟩
 have rA : Row W w.heap.size 26 #[.slice A n c] := by rw [hW]; exact (Row.new _ _ _).alloc _
 have bel : Below w.heap.size w W := by rw [hW]; exact ((Below.refl _ _).alloc (Nat.le_refl _) _).alloc (by simp) _
 have ow : Own W (w.heap.size + 1) (.slice (some ⟨w.heap.size + 1, 0, none⟩) 0 0) [] := by
  rw [hW]
  have := own_empty (w.alloc (.cells #[.slice A n c] 26)) (w.heap.size + 1) (by simp)
  simpa using this
 have s : Seg W.drew W.heap.size A n sg := ((h.below bel).more bel.size).drew
 have hx1 : W.cell? ⟨b, off + a, none⟩ = some (.int .i64 x) := (bel.cell (p := ⟨b, off + a, none⟩) hbb).trans hx
 have cA : W.cell? ⟨w.heap.size, 0, none⟩ = some (.slice A n c) := rA.cell 0
 have i0 : (0 : Int) ≤ (a : Int) := by omega
 have i1 : (a : Int) < (m : Int) := by omega
 have HW := hid hW
 have HS0 := hid hs
 clear hW hx hL hz hj ex hs
 go_enter Try.func103, Try.ntmps103
 go_wp2_with fail
 rw [← HW.out]
 replace rA := rA.drew
 replace bel := bel.drew
 replace ow := Own.drew ow
 go_region_held3 (fun w' => w'.cell? ⟨w.heap.size, 0, none⟩ = some (.slice A n c) ∧ w'.cell? ⟨b, off + a, none⟩ = some (.int .i64 x))
  (go_keep)
  (first
   | (go_at_call 92; refine (specArity _ _ _ sg x _ s hn).mono ?_; rintro e w2 ⟨he, bb⟩; rw [HZ.out] at he; subst he; replace cA : w2.cell? ⟨w.heap.size, 0, none⟩ = some (.slice A n c) := (rA.next bb).cell 0; have cx' : w2.cell? ⟨b, off + a, none⟩ = some (.int .i64 x) := (bb.cell (p := ⟨b, off + a, none⟩) (Nat.lt_trans hbb rA.lt)).trans hx1))
 have S0 : HeadArgs w A n c m sg t L (.slice (some ⟨w.heap.size + 1, 0, none⟩) 0 0) (.int .i64 ((a + 1 : Nat) : Int)) (.int .i64 (T : Int)) w2 :=
  ⟨T, a + 1, _, _, _, [], rfl, rfl, rfl, Own.next ow bb, hcoll, by omega, rA.next bb, bel.trans (bb.mono (Nat.le_of_lt rA.lt))⟩
 have HS := hid S0
 clear S0 bb rA bel ow s hx1 cA cx' hcoll
 go_wp2_with fail
 go_loopw [7, 8, 9] (fun out p k wr => HeadArgs w A n c m sg t L out p k wr) (fun _ _ k _ => (intOf k).toNat)
 case atStart => simpa using HS.out
 case round =>
  obtain ⟨q, pp, O, on, oc, ys, rfl, rfl, rfl, ho, hc, hq, hr, hb⟩ := hrel
  clear HS
  have hon : on ≤ 3 := by have := Own.len ho; have := hc.len; omega
  cases q with
  | zero =>
   have F : AnsList w L (.returned (.slice O on oc)) wr := ⟨O, on, oc, rfl, by rw [← hc.done]; exact Own.lower ho (Nat.le_succ _), hb⟩
   have HF := hid F
   clear F ho hc hr hb h h'
   go_wp2
   go_ret
   exact HF.out
  | succ q =>
   obtain ⟨jj, hj, hj2', hlt, hc'⟩ := hc.first
   have HE := hid (endI_some hj)
   have hsz := hr.lt
   have e0 : (0 : Int) < ((q + 1 : Nat) : Int) := by omega
   have hpp : pp ≤ 1048576 := by omega
   clear hc hj
   go_wp2_with (at_builtin; refine app1 rfl _ _ rfl (w.heap.size + 1) O on oc ys rfl (Own.alloc ho _) wr.heap.size 1 (pp : Int) rfl ((Row.new _ _ _).cell 0) (by omega) (by simp; omega) ?_; intro O' oc' w2 ho2 b2; have r2 : Row w2 w.heap.size 26 #[.slice A n c] := (hr.alloc _).below b2 (Nat.lt_succ_self _); have bel2 : Below w.heap.size w w2 := (hb.alloc (Nat.le_of_lt hsz) _).trans (b2.mono (Nat.le_succ _)); have cA2 : w2.cell? ⟨w.heap.size, 0, none⟩ = some (.slice A n c) := r2.cell 0)
   have s2 : Seg w2 w2.heap.size A n sg := (h.below bel2).more bel2.size
   have s2' : Seg w2 w2.heap.size (some ⟨b, off, none⟩) m t := (h'.below bel2).more bel2.size
   clear ho b2 hr hb
   refine (specEnd A _ n c m c' sg t (pp : Int) _ s2 s2' hn hm HS0.out (by omega) (by omega)).mono ?_
   rintro e w3 ⟨he, bb⟩
   rw [Int.toNat_natCast, HE.out] at he
   subst he
   have S : HeadArgs w A n c m sg t L (.slice O' (on + 1) oc') (.int .i64 ((pp : Int) + jj)) (.int .i64 (q : Int)) w3 :=
    ⟨q, pp + jj, O', on + 1, oc', _, rfl, by simp, rfl, Own.next ho2 bb, hc', by omega, r2.next bb, next_trans bel2 bb⟩
   have HSS := hid S
   clear S bb ho2 r2 bel2 cA2 s2 s2' hc'
   go_wp2
   go_roundw
   case rel => first | exact HSS.out | simpa using HSS.out
   case measure => simp [intOf]
theorem Cur.keep {w w' : World} {p : Nat} {A : Option Addr} {n c : Nat} {A' : Option Addr} {m c' : Nat} {sg t : List Int} {k : Nat} (h : Cur w p A n c A' m c' sg t k) (hb : Below (p + 1) w w') : Cur w' p A n c A' m c' sg t k :=
 ⟨h.row.below hb (Nat.lt_succ_self _), h.s.below (hb.mono (Nat.le_succ _)), h.s'.below (hb.mono (Nat.le_succ _)), h.le, h.hn, h.hm, h.ars⟩
end args
end
section
namespace depth
open Go.RowKit base ints sig term arity endOf cursor termOk endAt marks app sym args
def Deep (sg t : List Int) (f : Nat) (M d : Int) (q p : Nat) : Prop := max d (maxOver sg t (dep sg t f) q p) = M ∧ 0 ≤ d ∧ d ≤ f ∧ ∃ i, scan sg q (t.drop p) = some i ∧ i ≤ f ∧ p + i ≤ t.length
theorem Deep.first {sg t : List Int} {f : Nat} {M d : Int} {q p : Nat} (h : Deep sg t f M d (q + 1) p) : ∃ j, scan sg 1 (t.drop p) = some j ∧ j ≤ f ∧ p < t.length ∧ p + j ≤ t.length ∧ Deep sg t f M (max d (dep sg t f p)) q (p + j) := by
 obtain ⟨h1, h2, h3, i, h4, h5, h6⟩ := h
 obtain ⟨j, e1, e2, e3, e4⟩ := scan_first h4
 have hb := dep_bd (sg := sg) (t := t) f p
 refine ⟨j, e1, by omega, by omega, by omega, ?_, by omega, by omega, i - j, e4, by omega, by omega⟩
 simp only [maxOver, len1_eq e1] at h1
 omega
theorem Deep.done {sg t : List Int} {f : Nat} {M d : Int} {p : Nat} (h : Deep sg t f M d 0 p) : d = M := by
 have h1 := h.1
 have h2 := h.2.1
 simp only [maxOver] at h1
 omega
def depthI (sg t : List Int) : Int := if termOkB sg t = true then dep sg t t.length 0 else 0
end depth
end
section
namespace termMath
open term termOk endAt sub args depth sig
theorem scan_append {sg : List Int} : ∀ {l r : List Int} {q j : Nat}, scan sg q l = some j → scan sg q (l ++ r) = some j := by
 intro l
 induction l with
 | nil =>
  intro r q j h
  cases q with
  | zero => rw [scan_zero] at h ⊢; exact h
  | succ q => rw [scan_nil] at h; cases h
 | cons x l ih =>
  intro r q j h
  cases q with
  | zero => rw [scan_zero] at h ⊢; exact h
  | succ q =>
   by_cases ha : ar sg x < 0
   ·rw [scan_bad ha] at h; cases h
   ·rw [scan_step ha] at h
    rw [List.cons_append, scan_step ha]
    obtain ⟨j', hj', rfl⟩ := Option.map_eq_some_iff.1 h
    rw [ih hj']
    rfl
theorem scan_take {sg : List Int} : ∀ {l : List Int} {q j : Nat}, scan sg q l = some j → scan sg q (l.take j) = some j := by
 intro l
 induction l with
 | nil => intro q j h; simpa using h
 | cons x l ih =>
  intro q j h
  cases q with
  | zero => rw [scan_zero] at h ⊢; exact h
  | succ q =>
   by_cases ha : ar sg x < 0
   ·rw [scan_bad ha] at h; cases h
   ·rw [scan_step ha] at h
    obtain ⟨j', hj', rfl⟩ := Option.map_eq_some_iff.1 h
    rw [List.take_succ_cons, scan_step ha, ih hj']
    rfl
theorem scan_same {sg l l' : List Int} {q j : Nat} (h : scan sg q l = some j) (e : l.take j = l'.take j) : scan sg q l' = some j := by
 have h1 := scan_take h
 rw [e] at h1
 have h2 := scan_append (r := l'.drop j) h1
 rwa [List.take_append_drop] at h2
theorem take_less {l l' : List Int} {i j : Nat} (e : l.take i = l'.take i) (h : j ≤ i) : l.take j = l'.take j := by
 have : (l.take i).take j = (l'.take i).take j := by rw [e]
 rwa [List.take_take, List.take_take, Nat.min_eq_left h] at this
theorem drop_same {l l' : List Int} {i j : Nat} (e : l.take i = l'.take i) : (l.drop j).take (i - j) = (l'.drop j).take (i - j) := by
 rw [← List.drop_take, ← List.drop_take, e]
theorem get_same {t t' : List Int} {a a' i : Nat} (e : (t.drop a).take i = (t'.drop a').take i) (h : 1 ≤ i) : t.getD a 0 = t'.getD a' 0 := by
 have : ((t.drop a).take i)[0]? = ((t'.drop a').take i)[0]? := by rw [e]
 rw [List.getElem?_take, List.getElem?_take, if_pos (by omega), if_pos (by omega), List.getElem?_drop, List.getElem?_drop] at this
 simpa [List.getD] using congrArg (fun o => o.getD 0) this
theorem max_same {sg t t' : List Int} {f f' : Nat} (hd : ∀ a a' j, (t.drop a).take j = (t'.drop a').take j → scan sg 1 (t.drop a) = some j → j ≤ f → j ≤ f' → dep sg t f a = dep sg t' f' a') :
  ∀ q p p' i, (t.drop p).take i = (t'.drop p').take i → scan sg q (t.drop p) = some i → i ≤ f → i ≤ f' → maxOver sg t (dep sg t f) q p = maxOver sg t' (dep sg t' f') q p'
 | 0, _, _, _, _, _, _, _ => rfl
 | q + 1, p, p', i, e, h, h1, h2 => by
  obtain ⟨j, e1, e2, e3, e4⟩ := scan_first h
  have e5 := scan_same e1 (take_less e e3)
  have hdr : (t.drop (p + j)).take (i - j) = (t'.drop (p' + j)).take (i - j) := by
   have := drop_same (j := j) e
   rwa [List.drop_drop, List.drop_drop] at this
  simp only [maxOver, len1_eq e1, len1_eq e5]
  rw [hd p p' j (take_less e e3) e1 (by omega) (by omega), max_same hd q (p + j) (p' + j) (i - j) hdr e4 (by omega) (by omega)]
theorem dep_same {sg : List Int} : ∀ (f f' : Nat) (t t' : List Int) (a a' j : Nat), (t.drop a).take j = (t'.drop a').take j → scan sg 1 (t.drop a) = some j → j ≤ f → j ≤ f' → dep sg t f a = dep sg t' f' a'
 | 0, _, _, _, _, _, _, _, h, h1, _ => by have := scan_pos (q := 0) h; omega
 | _ + 1, 0, _, _, _, _, _, _, h, _, h2 => by have := scan_pos (q := 0) h; omega
 | f + 1, f' + 1, t, t', a, a', j, e, h, h1, h2 => by
  have hj := scan_pos (q := 0) h
  have hg := get_same e hj
  obtain ⟨i, e1, _, _, e2⟩ := scan_args h
  have hdr : (t.drop (a + 1)).take i = (t'.drop (a' + 1)).take i := by
   have := drop_same (j := 1) e
   rw [List.drop_drop, List.drop_drop] at this
   have e3 : j - 1 = i := by omega
   rwa [e3] at this
  simp only [dep]
  rw [← hg, max_same (fun a a' j e h h1 h2 => dep_same f f' t t' a a' j e h h1 h2) _ (a + 1) (a' + 1) i hdr e2 (by omega) (by omega)]
theorem sub_term {sg t : List Int} {a : Nat} (hok : termOkB sg t = true) (ha : a < t.length) : termOkB sg (subL sg t a) = true ∧ depthI sg (subL sg t a) = dep sg t (t.length + 1) a ∧ endI sg t a = (a : Int) + ((subL sg t a).length : Int) ∧ 1 ≤ (subL sg t a).length := by
 have hp := termOk_parts hok
 obtain ⟨j, hj, hj1, hj2⟩ := scan_at hp.2.2 ha
 have hl : len1 sg t a = j := len1_eq hj
 have hs : subL sg t a = (t.drop a).take j := by unfold subL; rw [hl]
 have hlen : (subL sg t a).length = j := by rw [hs]; simp; omega
 have hsc : scan sg 1 (subL sg t a) = some (subL sg t a).length := by rw [hlen, hs]; exact scan_take hj
 have hok2 : termOkB sg (subL sg t a) = true := by
  unfold termOkB termB
  rw [hp.1, hsc]
  simp
  omega
 refine ⟨hok2, ?_, by rw [endI_some hj, hlen], by omega⟩
 unfold depthI
 rw [if_pos hok2, hlen]
 refine (dep_same _ _ _ _ _ _ j ?_ ?_ (Nat.le_refl _) (by omega))
 ·rw [List.drop_zero, hs, List.take_take, Nat.min_self]
 ·rw [List.drop_zero, hsc, hlen]
def Loop (sg t : List Int) (a : Nat) (M : Int) (zs args : List Int) (d : Int) (k q pp : Nat) : Prop :=
 args.drop k = places sg t q pp ∧ max d (maxOver sg t (dep sg t t.length) q pp) = M ∧ 0 ≤ d ∧ d ≤ t.length ∧ ∃ i, scan sg q (t.drop pp) = some i ∧ pp + i ≤ t.length ∧ zs ++ (t.drop pp).take i = subL sg t a
theorem Loop.done {sg t : List Int} {a : Nat} {M : Int} {zs args : List Int} {d : Int} {k pp : Nat} (h : Loop sg t a M zs args d k 0 pp) : zs = subL sg t a ∧ d = M := by
 obtain ⟨_, h2, h3, _, i, h5, _, h7⟩ := h
 rw [scan_zero] at h5
 injection h5 with h5
 subst h5
 simp only [maxOver] at h2
 exact ⟨by simpa using h7, by omega⟩
end termMath
end
section
namespace posMath
open sig term termOk termFacts endAt sub args depth termMath
theorem scan_cat {sg : List Int} : ∀ {l l' : List Int} {q q' j : Nat}, scan sg q l = some l.length → scan sg q' l' = some j → scan sg (q + q') (l ++ l') = some (l.length + j)
 | [], l', q, q', j, h, h' => by
  cases q with
  | zero => simpa using h'
  | succ q => rw [scan_nil] at h; cases h
 | x :: r, l', q, q', j, h, h' => by
  cases q with
  | zero => rw [scan_zero] at h; simp at h
  | succ q =>
   by_cases ha : ar sg x < 0
   ·rw [scan_bad ha] at h; cases h
   ·rw [scan_step ha] at h
    obtain ⟨i, hi, e⟩ := Option.map_eq_some_iff.1 h
    have e2 : i = r.length := by simp at e; omega
    subst e2
    have h2 := scan_cat hi h'
    rw [show q + 1 + q' = (q + q') + 1 by omega, List.cons_append, scan_step ha, show q + q' + (ar sg x).toNat = q + (ar sg x).toNat + q' by omega, h2]
    simp
    omega
theorem term_at {sg t : List Int} (h : termOkB sg t = true) {a : Nat} (ha : a < t.length) : scan sg 1 (t.drop a) = some (len1 sg t a) ∧ 1 ≤ len1 sg t a ∧ a + len1 sg t a ≤ t.length := by
 obtain ⟨j, e, h1, h2⟩ := scan_at (term_parts h).2.2 ha
 rw [len1_eq e]
 exact ⟨e, h1, h2⟩
def argP (sg t : List Int) : Nat → Nat → Nat
 | 0, p => p
 | k + 1, p => argP sg t k (p + len1 sg t p)
theorem argP_succ {sg t : List Int} : ∀ k p, argP sg t (k + 1) p = argP sg t k p + len1 sg t (argP sg t k p)
 | 0, _ => rfl
 | k + 1, p => by
  show argP sg t (k + 1) (p + len1 sg t p) = _
  rw [argP_succ k]
  rfl
theorem argP_mono {sg t : List Int} {p k : Nat} : ∀ {k' : Nat}, k ≤ k' → argP sg t k p ≤ argP sg t k' p := by
 intro k' h
 induction k' with
 | zero => rw [Nat.le_zero.1 h]; exact Nat.le_refl _
 | succ k' ih =>
  by_cases e : k = k' + 1
  ·rw [e]; exact Nat.le_refl _
  ·have := ih (by omega)
   rw [argP_succ]
   omega
theorem argP_scan {sg t : List Int} : ∀ {k q p i : Nat}, scan sg q (t.drop p) = some i → k ≤ q → scan sg k (t.drop p) = some (argP sg t k p - p) ∧ p ≤ argP sg t k p ∧ argP sg t k p ≤ p + i := by
 intro k
 induction k with
 | zero => intro q p i _ _; exact ⟨by rw [scan_zero]; simp [argP], Nat.le_refl _, by simp [argP]⟩
 | succ k ih =>
  intro q p i h hk
  obtain ⟨q, rfl⟩ : ∃ q', q = q' + 1 := ⟨q - 1, by omega⟩
  obtain ⟨j, e1, e2, e3, e4⟩ := scan_first h
  have hj := len1_eq e1
  obtain ⟨a1, a2, a3⟩ := ih e4 (show k ≤ q by omega)
  have ea : argP sg t (k + 1) p = argP sg t k (p + j) := by show argP sg t k (p + len1 sg t p) = _; rw [hj]
  have hsc : scan sg (k + 1) (t.drop p) = some (argP sg t (k + 1) p - p) := by
   have hx := scan_cat (l := (t.drop p).take j) (l' := t.drop (p + j)) (q := 1) (q' := k) (j := argP sg t k (p + j) - (p + j))
    (by have := scan_take e1; rw [this]; have hl := scan_le this; have hl2 := scan_le e1; rw [List.length_take, Nat.min_eq_left hl2]) a1
   have hl2 := scan_le e1
   rw [← List.drop_drop, List.take_append_drop, List.length_take, Nat.min_eq_left hl2, Nat.add_comm 1 k] at hx
   rw [hx, ea]
   congr 1
   omega
  rw [ea] at hsc ⊢
  exact ⟨hsc, by omega, by omega⟩
theorem places_get {sg t : List Int} : ∀ {q p k : Nat}, k < q → (places sg t q p).getD k 0 = (argP sg t k p : Int) := by
 intro q
 induction q with
 | zero => intro p k h; omega
 | succ q ih =>
  intro p k h
  cases k with
  | zero => rfl
  | succ k =>
   show ((p : Int) :: places sg t q (p + len1 sg t p)).getD (k + 1) 0 = _
   rw [List.getD_cons_succ, ih (by omega)]
   rfl
def arN (sg t : List Int) (p : Nat) : Nat := (ar sg (t.getD p 0)).toNat
inductive Trail (sg t : List Int) (at_ : Nat) : Nat → List Int → List Int → Prop
 | here : Trail sg t at_ at_ [] []
 | down {p k : Nat} {ab pa : List Int} (h1 : p < at_) (h2 : k < arN sg t p) (h3 : argP sg t k (p + 1) ≤ at_) (h4 : at_ < argP sg t k (p + 1) + len1 sg t (argP sg t k (p + 1))) (h5 : p < argP sg t k (p + 1)) (h6 : at_ < p + len1 sg t p) (hw : Trail sg t at_ (argP sg t k (p + 1)) ab pa) : Trail sg t at_ p ((p : Int) :: ab) ((k : Int) :: pa)
theorem Trail.here_eq {sg t : List Int} {at_ : Nat} {ab pa : List Int} (h : Trail sg t at_ at_ ab pa) : ab = [] ∧ pa = [] := by
 cases h with
 | here => exact ⟨rfl, rfl⟩
 | down h1 => omega
theorem arg_one {sg t : List Int} {p at_ k k' : Nat} (h3 : argP sg t k p ≤ at_) (h4 : at_ < argP sg t k p + len1 sg t (argP sg t k p)) (h3' : argP sg t k' p ≤ at_) (h4' : at_ < argP sg t k' p + len1 sg t (argP sg t k' p)) : k = k' := by
 rcases Nat.lt_trichotomy k k' with h | h | h
 ·have := argP_mono (sg := sg) (t := t) (p := p) (show k + 1 ≤ k' by omega)
  rw [argP_succ] at this
  omega
 ·exact h
 ·have := argP_mono (sg := sg) (t := t) (p := p) (show k' + 1 ≤ k by omega)
  rw [argP_succ] at this
  omega
theorem Trail.one {sg t : List Int} {at_ p : Nat} {ab pa : List Int} (h : Trail sg t at_ p ab pa) : ∀ {ab' pa' : List Int}, Trail sg t at_ p ab' pa' → ab = ab' ∧ pa = pa' := by
 induction h with
 | here => intro ab' pa' h'; obtain ⟨rfl, rfl⟩ := h'.here_eq; exact ⟨rfl, rfl⟩
 | @down p k ab pa h1 h2 h3 h4 h5 h6 hw ih =>
  intro ab' pa' h'
  cases h' with
  | here => omega
  | @down _ k' ab' pa' g1 g2 g3 g4 g5 g6 gw =>
   obtain rfl := arg_one h3 h4 g3 g4
   obtain ⟨rfl, rfl⟩ := ih gw
   exact ⟨rfl, rfl⟩
theorem Trail.len {sg t : List Int} {at_ p : Nat} {ab pa : List Int} (h : Trail sg t at_ p ab pa) : ab.length = pa.length := by
 induction h with
 | here => rfl
 | down _ _ _ _ _ _ _ ih => simp [ih]
theorem Trail.le {sg t : List Int} {at_ p : Nat} {ab pa : List Int} (h : Trail sg t at_ p ab pa) : p ≤ at_ ∧ pa.length ≤ at_ - p := by
 induction h with
 | here => simp
 | down h1 _ _ _ h5 _ _ ih => simp only [List.length_cons]; omega
def upTo (sg t : List Int) (at_ : Nat) : Nat → Nat → List Int
 | _, 0 => []
 | p, n + 1 => (if at_ < p + len1 sg t p then [(p : Int)] else []) ++ upTo sg t at_ (p + 1) n
theorem over_ge {sg t : List Int} {g : Nat → Int} : ∀ {q k p : Nat}, k < q → g (argP sg t k p) ≤ maxOver sg t g q p := by
 intro q
 induction q with
 | zero => intro k p h; omega
 | succ q ih =>
  intro k p h
  cases k with
  | zero => simp only [maxOver, argP]; omega
  | succ k =>
   have := ih (k := k) (p := p + len1 sg t p) (by omega)
   simp only [maxOver, argP]
   omega
theorem over_nonneg {sg t : List Int} {g : Nat → Int} : ∀ (q p : Nat), 0 ≤ maxOver sg t g q p
 | 0, _ => by simp [maxOver]
 | q + 1, p => by
  have := over_nonneg (sg := sg) (t := t) (g := g) q (p + len1 sg t p)
  simp only [maxOver]
  omega
theorem Trail.depth {sg t : List Int} {at_ p : Nat} {ab pa : List Int} (h : Trail sg t at_ p ab pa) : ∀ f, pa.length < f → (pa.length : Int) + 1 ≤ dep sg t f p := by
 induction h with
 | here =>
  intro f hf
  obtain ⟨f, rfl⟩ : ∃ f', f = f' + 1 := ⟨f - 1, by simp at hf; omega⟩
  have := over_nonneg (sg := sg) (t := t) (g := dep sg t f) (ar sg (t.getD at_ 0)).toNat (at_ + 1)
  simp only [dep, List.length_nil]
  omega
 | @down p k ab pa h1 h2 h3 h4 h5 h6 hw ih =>
  intro f hf
  simp only [List.length_cons] at hf ⊢
  obtain ⟨f, rfl⟩ : ∃ f', f = f' + 1 := ⟨f - 1, by omega⟩
  have e := ih f (by omega)
  have e2 := over_ge (sg := sg) (t := t) (g := dep sg t f) (p := p + 1) h2
  unfold arN at e2
  simp only [dep]
  omega
end posMath
end
section
namespace putMath
open sig term termOk termFacts endAt sub args depth termMath posMath
def putL (t : List Int) (a i : Nat) (u : List Int) : List Int := t.take a ++ (u ++ t.drop (a + i))
section
variable {sg t u : List Int} {a : Nat}
theorem drop_at (ha : a ≤ t.length) (i : Nat) : (putL t a i u).drop a = u ++ t.drop (a + i) := by
 unfold putL
 rw [List.drop_append_of_le_length (by simp; omega), List.drop_of_length_le (by simp; omega), List.nil_append]
end
end putMath
end
section
open Go.Lib (hid)
namespace put
open Go.RowKit segsHelp base ints sig term arity endOf cursor termOk endAt inside marks app sym sub segs posMath putMath concat
set_option maxRecDepth 100000
theorem Seg.front {w : World} {B b off m a : Nat} {t : List Int} (h : Seg w B (some ⟨b, off, none⟩) m t) (ha : a ≤ m) : Seg w B (some ⟨b, off, none⟩) a (t.take a) := by
 have := Seg.cut (a := 0) (j := a) h (by omega)
 simpa using this
theorem Seg.back {w : World} {B b off m e : Nat} {t : List Int} (h : Seg w B (some ⟨b, off, none⟩) m t) (he : e ≤ m) : Seg w B (some ⟨b, off + e, none⟩) (m - e) (t.drop e) := by
 have := Seg.cut (a := e) (j := m - e) h (by omega)
 rwa [List.take_of_length_le (by simp [h.1])] at this
theorem Seg.none_any {w : World} {B : Nat} {A : Option Addr} {t : List Int} (h : t = []) : Seg w B A 0 t := ⟨by rw [h]; rfl, fun h => absurd h (Nat.lt_irrefl _)⟩
def putI (sg t u : List Int) (a : Nat) : List Int := putL t a (len1 sg t a) u
def AnsPut (w : World) (ys : List Int) (b : Bool) (e : Ending) (w' : World) : Prop := ∃ A n c, e = .returned (.tuple #[.slice A n c, .bool b]) ∧ Own w' w.heap.size (.slice A n c) ys ∧ Below w.heap.size w w'
def fitB (sg t u : List Int) (a : Nat) : Bool := decide ((putI sg t u a).length ≤ 60)
def fitL (sg t u : List Int) (a : Nat) : List Int := if fitB sg t u a = true then putI sg t u a else []
set_option maxHeartbeats 1000000 in
theorem l3Put (A A' U : Option Addr) (n c m c' un uc : Nat) (sg t u : List Int) (a : Nat) (w : World) (h : Seg w w.heap.size A n sg) (h' : Seg w w.heap.size A' m t) (hu : Seg w w.heap.size U un u) (hcu : U = none → uc = 0) (hn : n ≤ 1048576) (hm : m ≤ 1048576) (hun : un ≤ 60) (hc' : m ≤ c') (hc2 : c' ≤ 9223372036854775807)
  (hok : termOkB sg t = true) (hat : a < t.length) :
  Calls Try.prog 90 #[.agg #[.slice A n c], .slice A' m c', .int .i64 (a : Int), .slice U un uc] w (AnsPut w (fitL sg t u a) (fitB sg t u a)) := by
 have ham : a < m := by rw [h'.1] at hat; exact hat
 obtain ⟨b, off, x, rfl, -, -, -⟩ := h'.spot ham
 obtain ⟨W, hW⟩ : ∃ W, W = w.alloc (.cells #[.slice A n c] 26) := ⟨_, rfl⟩
 have f : Fr w W A n c sg (some ⟨b, off, none⟩) m t := by rw [hW]; exact Fr.start h h'
 have hU : Seg W w.heap.size U un u := hu.below f.b
 have HW := hid hW
 obtain ⟨j, hj⟩ : ∃ j, len1 sg t a = j := ⟨_, rfl⟩
 obtain ⟨t1, t2, t3⟩ := term_at hok hat
 have hars := (sig_arities (termOk_parts hok).1).1
 rw [hj] at t1 t2 t3
 rw [h'.1] at t3
 have h60 : m ≤ 60 := by have := (termOk_parts hok).2.1; rw [h'.1] at this; exact this
 have HE := hid (endI_some t1)
 have HTL := hid hat
 have HPI := hid (show putI sg t u a = t.take a ++ u ++ t.drop (a + j) by unfold putI putL; rw [hj, List.append_assoc])
 have hpl : (putI sg t u a).length = a + un + (m - (a + j)) := by rw [HPI.out]; simp [h'.1, hu.1]; omega
 have HPL := hid hpl
 have LC := hid (copyInts (some ⟨b, off, none⟩) a c' (t.take a) W ((Seg.front f.t1 (by omega))) (fun e => by cases e) (by omega))
 have HCU := hid hcu
 have i0 : (0 : Int) ≤ (a : Int) := by omega
 have i1 : (a : Int) ≤ (c' : Int) := by omega
 have i2 : (a : Int) + (j : Int) ≤ (c' : Int) := by omega
 have i3 : (a : Int) + (j : Int) ≤ (m : Int) := by omega
 clear hW h h' hu hj t1 hok hat hcu hpl
 go_enter Try.func90, Try.ntmps90
 go_wp2_with fail
 rw [← HW.out]
 refine LC.out.mono ?_
 rintro e w1 ⟨O1, n1, c1, rfl, o1, bb⟩
 have hta : (t.take a).length = a := by rw [List.length_take]; have := HTL.out; omega
 obtain rfl : n1 = a := by rw [Own.len o1, hta]
 replace hU := hU.below (bb.mono (Nat.le_of_lt f.size))
 replace o1 := Own.lower (base' := w.heap.size + 1) o1 f.size
 replace f := f.next bb
 have z1 : w.heap.size + 1 ≤ w1.heap.size := f.size
 clear bb hta LC
 go_wp2_with (at_builtin; refine appAll rfl _ _ rfl (w.heap.size + 1) O1 n1 c1 _ rfl o1 U un uc w.heap.size u rfl hU HCU.out (by omega) (by omega) z1 ?_; intro O2 c2 w2 o2 b2; have f2 := f.over b2; have cA2 : w2.cell? ⟨w.heap.size, 0, none⟩ = some (.slice A n c) := f2.cell)
 clear o1 b2 f hU z1 cA2
 replace f := f2
 clear f2
 have cA := f.cell
 obtain ⟨k, hk⟩ : ∃ k, n1 + j = k := ⟨_, rfl⟩
 rw [hk] at HPI HPL t3
 have HEK := hid (show endI sg t n1 = (k : Int) by rw [HE.out, ← hk]; omega)
 have hn1k : n1 ≤ k := by omega
 clear HE hk i2 i3 t2
 refine (specEnd A _ n c m c' sg t (n1 : Int) _ f.s1 f.t1 hn hm hars i0 (by omega)).mono ?_
 rintro e w3 ⟨he, bb⟩
 rw [Int.toNat_natCast, HEK.out] at he
 subst he
 replace f := f.next bb
 replace o2 := Own.next o2 bb
 clear bb cA
 have i2 : (k : Int) ≤ (c' : Int) := by omega
 have i4 : (k : Int) ≤ (m : Int) := by omega
 have z1 : w.heap.size + 1 ≤ w3.heap.size := f.size
 by_cases hce : c' = k
 ·subst hce
  have hmk : m - c' = 0 := by omega
  have HSG := hid (show Seg w3 w.heap.size (some ⟨b, off, none⟩) 0 [] from Seg.none_any rfl)
  have HPI2 := hid (show putI sg t u n1 = t.take n1 ++ u ++ [] by rw [HPI.out, List.drop_eq_nil_of_le (by rw [f.t1.1]; omega)])
  have HPL2 := hid (show (putI sg t u n1).length = n1 + un by rw [HPL.out, hmk]; rfl)
  clear hmk HPL HPI
  by_cases h6 : n1 + un ≤ 60
  ·have h7 : ¬ (60 : Int) < (n1 : Int) + (un : Int) := by omega
   go_wp2_with (at_builtin; refine appAll rfl _ _ rfl (w.heap.size + 1) O2 (n1 + un) c2 _ rfl o2 (some ⟨b, off, none⟩) 0 0 w.heap.size [] rfl HSG.out (fun e => by cases e) (by omega) (by omega) z1 ?_; intro O4 c4 w4 o4 b4)
   replace f := f.over b4
   have F : AnsPut w (fitL sg t u n1) (fitB sg t u n1) (.returned (.tuple #[.slice O4 (n1 + un) c4, .bool true])) w4 := ⟨O4, _, c4, by rw [show fitB sg t u n1 = true by unfold fitB; rw [HPL2.out]; exact decide_eq_true h6], by unfold fitL; rw [if_pos (by unfold fitB; rw [HPL2.out]; exact decide_eq_true h6), HPI2.out]; exact Own.lower o4 (Nat.le_succ _), f.b⟩
   have HF := hid F
   clear F o4 f
   go_ret2
   exact HF.out
  ·have h7 : (60 : Int) < (n1 : Int) + (un : Int) := by omega
   go_wp2_with (at_builtin; refine appAll rfl _ _ rfl (w.heap.size + 1) O2 (n1 + un) c2 _ rfl o2 (some ⟨b, off, none⟩) 0 0 w.heap.size [] rfl HSG.out (fun e => by cases e) (by omega) (by omega) z1 ?_; intro O4 c4 w4 o4 b4)
   replace f := f.over b4
   have F : AnsPut w (fitL sg t u n1) (fitB sg t u n1) (.returned (.tuple #[.slice (some ⟨w4.heap.size, 0, none⟩) 0 0, .bool false])) (w4.alloc (.cells #[] 2)) := ⟨_, 0, 0, by rw [show fitB sg t u n1 = false by unfold fitB; rw [HPL2.out]; exact decide_eq_false h6], by unfold fitL; rw [if_neg (by unfold fitB; rw [HPL2.out, decide_eq_false h6]; simp)]; exact own_empty w4 w.heap.size (Nat.le_of_lt f.size), (f.alloc _).b⟩
   have HF := hid F
   clear F o4 f
   go_ret2
   exact HF.out
 ·have HSG := hid (Seg.back f.s' (e := k) t3)
  obtain ⟨r, hr⟩ : ∃ r, m - k = r := ⟨_, rfl⟩
  rw [hr] at HPL HSG
  have hr60 : r ≤ 60 := by omega
  by_cases h6 : n1 + un + r ≤ 60
  ·have h7 : ¬ (60 : Int) < (n1 : Int) + (un : Int) + (r : Int) := by omega
   go_wp2_with (at_builtin; refine appAll rfl _ _ rfl (w.heap.size + 1) O2 (n1 + un) c2 _ rfl o2 (some ⟨b, off + k, none⟩) r (c' - k) w.heap.size (t.drop k) rfl HSG.out (fun e => by cases e) (by omega) (by omega) z1 ?_; intro O4 c4 w4 o4 b4)
   replace f := f.over b4
   have F : AnsPut w (fitL sg t u n1) (fitB sg t u n1) (.returned (.tuple #[.slice O4 (n1 + un + r) c4, .bool true])) w4 := ⟨O4, _, c4, by rw [show fitB sg t u n1 = true by unfold fitB; rw [HPL.out]; exact decide_eq_true h6], by unfold fitL; rw [if_pos (by unfold fitB; rw [HPL.out]; exact decide_eq_true h6), HPI.out]; exact Own.lower o4 (Nat.le_succ _), f.b⟩
   have HF := hid F
   clear F o4 f
   go_ret2
   exact HF.out
  ·have h7 : (60 : Int) < (n1 : Int) + (un : Int) + (r : Int) := by omega
   go_wp2_with (at_builtin; refine appAll rfl _ _ rfl (w.heap.size + 1) O2 (n1 + un) c2 _ rfl o2 (some ⟨b, off + k, none⟩) r (c' - k) w.heap.size (t.drop k) rfl HSG.out (fun e => by cases e) (by omega) (by omega) z1 ?_; intro O4 c4 w4 o4 b4)
   replace f := f.over b4
   have F : AnsPut w (fitL sg t u n1) (fitB sg t u n1) (.returned (.tuple #[.slice (some ⟨w4.heap.size, 0, none⟩) 0 0, .bool false])) (w4.alloc (.cells #[] 2)) := ⟨_, 0, 0, by rw [show fitB sg t u n1 = false by unfold fitB; rw [HPL.out]; exact decide_eq_false h6], by unfold fitL; rw [if_neg (by unfold fitB; rw [HPL.out, decide_eq_false h6]; simp)]; exact own_empty w4 w.heap.size (Nat.le_of_lt f.size), (f.alloc _).b⟩
   have HF := hid F
   clear F o4 f
   go_ret2
   exact HF.out
def putB (sg t u : List Int) (x : Int) : Bool := (thereB sg t x && termOkB sg u) && fitB sg t u x.toNat
def putR (sg t u : List Int) (x : Int) : List Int := if putB sg t u x = true then putI sg t u x.toNat else []
theorem put_no {sg t u : List Int} {x : Int} (h : thereB sg t x = false ∨ termOkB sg u = false) : putB sg t u x = false ∧ putR sg t u x = [] := by
 have e : putB sg t u x = false := by
  unfold putB
  rcases h with h | h <;> rw [h] <;> simp
 exact ⟨e, by unfold putR; rw [if_neg (by rw [e]; simp)]⟩
theorem put_yes {sg t u : List Int} {a : Nat} (h1 : thereB sg t (a : Int) = true) (h2 : termOkB sg u = true) : putB sg t u (a : Int) = fitB sg t u a ∧ putR sg t u (a : Int) = fitL sg t u a := by
 have e : putB sg t u (a : Int) = fitB sg t u a := by unfold putB; rw [h1, h2, Int.toNat_natCast]; rfl
 exact ⟨e, by unfold putR fitL; rw [e, Int.toNat_natCast]⟩
theorem putR_len {sg t u : List Int} {x : Int} : (putR sg t u x).length ≤ 60 := by
 unfold putR
 split
 ·rename_i h
  unfold putB fitB at h
  simp only [Bool.and_eq_true, decide_eq_true_eq] at h
  exact h.2
 ·simp
theorem ansPut_no {w w' : World} {sg t u : List Int} {x : Int} {A : Option Addr} {c : Nat} (h : thereB sg t x = false ∨ termOkB sg u = false) (ho : Own w' w.heap.size (.slice A 0 c) []) (hb : Below w.heap.size w w') : AnsPut w (putR sg t u x) (putB sg t u x) (.returned (.tuple #[.slice A 0 c, .bool false])) w' := by
 obtain ⟨e1, e2⟩ := put_no h
 exact ⟨A, 0, c, by rw [e1], by rw [e2]; exact ho, hb⟩
set_option maxHeartbeats 1000000 in
theorem specPutAt (A A' U : Option Addr) (n c m c' un uc : Nat) (sg t : List Int) (x : Int) (u : List Int) (w : World) (h : Seg w w.heap.size A n sg) (h' : Seg w w.heap.size A' m t) (hu : Seg w w.heap.size U un u) (hn : n ≤ 1048576) (hm : m ≤ 1048576) (hun : un ≤ 1048576)
  (hcu : U = none → uc = 0) (hc' : m ≤ c') (hc2 : c' ≤ 9223372036854775807) :
  Calls Try.prog 63 #[.agg #[.slice A n c], .slice A' m c', .int .i64 x, .slice U un uc] w (AnsPut w (putR sg t u x) (putB sg t u x)) := by
 obtain ⟨W, hW⟩ : ∃ W, W = w.alloc (.cells #[.slice A n c] 26) := ⟨_, rfl⟩
 have f : Fr w W A n c sg A' m t := by rw [hW]; exact Fr.start h h'
 have hU : Seg W W.heap.size U un u := (hu.below f.b).more (Nat.le_of_lt f.size)
 have HW := hid hW
 have L := hid (right A A' n c m c' sg t x W f.s1 f.t1 hn hm)
 clear hW h h' hu
 cases hx : thereB sg t x with
 | false =>
  have HX := hid hx
  clear hx
  go_enter Try.func63, Try.ntmps63
  go_wp2_with fail
  rw [← HW.out]
  refine L.out.mono ?_
  rintro e w1 ⟨he, bb⟩
  rw [HX.out] at he
  subst he
  have F := hid (ansPut_no (w := w) (u := u) (.inl HX.out) (own_empty w1 w.heap.size (f.next bb).b.size) ((f.next bb).alloc _).b)
  clear f L bb hU
  go_wp2
  go_ret2
  exact F.out
 | true =>
  have HX := hid hx
  obtain ⟨hok, i0, i1⟩ := there_parts hx
  obtain ⟨a, rfl⟩ := Int.eq_ofNat_of_zero_le i0
  have HOK := hid hok
  have HAL := hid (show a < t.length by omega)
  clear hx hok i0 i1
  cases hku : termOkB sg u with
  | false =>
   have HU := hid hku
   clear hku
   go_enter Try.func63, Try.ntmps63
   go_wp2_with fail
   rw [← HW.out]
   refine L.out.mono ?_
   rintro e w1 ⟨he, bb⟩
   rw [HX.out] at he
   subst he
   replace f := f.next bb
   replace hU := hU.next bb
   have cA := f.cell
   clear bb L
   go_wp2_with fail
   refine (specTermOk A U n c un uc sg u _ f.s1 hU hn hun).mono ?_
   rintro e w2 ⟨he, bb⟩
   rw [HU.out] at he
   subst he
   have F := hid (ansPut_no (w := w) (t := t) (x := (a : Int)) (.inr HU.out) (own_empty w2 w.heap.size (f.next bb).b.size) ((f.next bb).alloc _).b)
   clear f bb hU cA
   go_wp2
   go_ret2
   exact F.out
  | true =>
   have HU := hid hku
   have hu60 : un ≤ 60 := by have h1 := (termOk_parts hku).2.1; rw [hU.1] at h1; exact h1
   have HP := hid (put_yes HX.out hku)
   clear hku
   go_enter Try.func63, Try.ntmps63
   go_wp2_with fail
   rw [← HW.out]
   refine L.out.mono ?_
   rintro e w1 ⟨he, bb⟩
   rw [HX.out] at he
   subst he
   replace f := f.next bb
   replace hU := hU.next bb
   have cA := f.cell
   clear bb L
   go_wp2_with fail
   refine (specTermOk A U n c un uc sg u _ f.s1 hU hn hun).mono ?_
   rintro e w2 ⟨he, bb⟩
   rw [HU.out] at he
   subst he
   replace f := f.next bb
   replace hU := hU.next bb
   clear bb cA
   have cA := f.cell
   go_wp2_with fail
   refine (l3Put A A' U n c m c' un uc sg t u a _ f.s1 f.t1 hU hcu hn hm hu60 hc' hc2 HOK.out HAL.out).mono ?_
   rintro e w3 ⟨A2, n2, c2, rfl, o2, bb⟩
   have F : AnsPut w (putR sg t u (a : Int)) (putB sg t u (a : Int)) (.returned (.tuple #[.slice A2 n2 c2, .bool (fitB sg t u a)])) w3 := ⟨A2, n2, c2, by rw [HP.out.1], by rw [HP.out.2]; exact Own.lower o2 (Nat.le_of_lt f.size), (f.next bb).b⟩
   replace F := hid F
   clear f bb hU cA o2 HP
   generalize fitB sg t u a = b at *
   go_wp2
   go_ret2
   exact F.out
end put
end
section
open Go.Lib (hid)
namespace drawL5
open Go.RowKit base ints sig term cursor termOk marks app sym segs segsHelp dice drawSig drawTerm drawAny drawTwo drawPair drawOne drawSub drawSA drawSS drawS fillMath shifted filled drawMatch put
set_option maxRecDepth 100000
theorem lit_seg (w : World) (x : Int) : Seg (w.alloc (.cells #[.int .i64 x] 2)) (w.alloc (.cells #[.int .i64 x] 2)).heap.size (some ⟨w.heap.size, 0, none⟩) 1 [x] :=
 ⟨rfl, fun _ => ⟨w.heap.size, 0, rfl, by simp, fun j hj => by
  obtain rfl : j = 0 := by omega
  exact (Row.new w 2 #[.int .i64 x]).cell 0⟩⟩
set_option maxHeartbeats 1000000 in
theorem belowLen (p : Nat) (A : Option Addr) (n c : Nat) (N : Int) (w : World) (hd : Dice w p A n c) (h1 : 0 ≤ N) (h2 : N ≤ 256) :
  Calls Try.prog 65 #[.pointer (some ⟨p, 0, none⟩), .int .i64 N] w (AnsDraw w p A n c 0 256) := by
 by_cases h0 : N = 0
 ·subst h0
  have F : AnsDraw w p A n c 0 256 (.returned (.int .i64 0)) w := ⟨_, rfl, by omega, by omega, hd, World.grownBy.refl w (some p)⟩
  have HF := hid F
  clear F hd
  go_enter Try.func65, Try.ntmps65
  go_wp2_with fail
  go_ret
  exact HF.out
 ·exact (below p A n c N w hd (by omega) h2).mono fun _ _ ⟨x, h3, h4, h5, h6⟩ => ⟨x, h3, h4, by omega, h6⟩
theorem alloc_below (w : World) (o : Obj) : Below w.heap.size w (w.alloc o) := (Below.refl _ _).alloc (Nat.le_refl _) _
theorem put_small {w w' : World} {p : Nat} {sg t u : List Int} {x : Int} {e : Ending} (hp : p < w.heap.size) (h : AnsPut w (putR sg t u x) (putB sg t u x) e w') : ∃ Q qn qc ys b, e = .returned (.tuple #[.slice Q qn qc, .bool b]) ∧ Rd w' p w'.heap.size Q qn ys ∧ (qn ≤ 65 ∧ Cap Q qn qc) ∧ Below w.heap.size w w' := by
 obtain ⟨Q, qn, qc, rfl, oq, hb⟩ := h
 exact ⟨Q, qn, qc, _, _, rfl, Rd.of_own oq hp, ⟨by have e1 := Own.len oq; have e2 := @putR_len sg t u x; omega, (Own.cap oq).1, (Own.cap oq).2, Own.none_cap oq⟩, hb⟩
set_option maxHeartbeats 16000000 in
theorem l5Draw (p : Nat) (A : Option Addr) (n c : Nat) (w : World) (hd : Dice w p A n c) :
  Calls Try.prog 70 #[.pointer (some ⟨p, 0, none⟩)] w (AnsM4 w p A n c) := by
 have hp := hd.lt
 obtain ⟨W0, hW0⟩ : ∃ W0, W0 = w.alloc (.cells #[.slice none 0 0] 26) := ⟨_, rfl⟩
 have rN : Row W0 w.heap.size 26 #[.slice none 0 0] := by rw [hW0]; exact Row.new _ _ _
 have d0 : Dice W0 p A n c := by rw [hW0]; exact hd.alloc _
 have g0 : w.grownBy W0 (some p) := by rw [hW0]; exact World.grownBy_alloc _ _ _
 have L2 := hid (drawSigAny p A n c W0 d0)
 have hp1 := d0.lt
 have HW0 := hid hW0
 clear hd d0 hW0
 go_enter Try.func70, Try.ntmps70
 go_wp2_with fail
 rw [← HW0.out]
 refine L2.out.mono ?_
 rintro e w2 ⟨S, sn, sc, sg, rfl, o2, hshort, d2, g2⟩
 have hsn : sn ≤ 9 := by rw [Own.len o2]; exact hshort
 have z0 := rN.lt
 have z2 := g2.size
 replace rN := Row.away rN g2 (fun e => by injection e; omega)
 have G2 := grown_trans g0 g2
 obtain ⟨W, hW⟩ : ∃ W, W = w2.alloc (.cells #[.slice S sn sc] 26) := ⟨_, rfl⟩
 obtain ⟨v, hv⟩ : ∃ v, w2.heap.size = v := ⟨_, rfl⟩
 have bb : Below w2.heap.size w2 W := by rw [hW]; exact (Below.refl _ _).alloc (Nat.le_refl _) _
 have T0 : M4 w p A n c v S sn sc sg none 0 [] W :=
  ⟨d2.next bb, rN.next bb, by rw [hW, ← hv]; exact Row.new _ _ _, ((Rd.of_own o2 hp1).below bb (Nat.le_refl _)).more bb.size, ⟨rfl, fun h => absurd h (by omega)⟩, grown_over G2 bb G2.size, hp, by omega⟩
 have HV := hid hv
 have HW := hid hW
 have cV : W.cell? ⟨v, 0, none⟩ = some (.slice S sn sc) := T0.rV.cell 0
 have L3 := hid (drawAny p A n c S sn sc sg W T0.d T0.s (by omega))
 have zNv : w.heap.size < v := T0.hv
 have zne1 : ¬ v = w.heap.size := by omega
 have zne2 : ¬ w.heap.size = v := by omega
 clear o2 hshort d2 g2 g0 hW hv L2 rN bb G2 z2
 go_wp2_with fail
 rw [← HW.out, HV.out]
 refine L3.out.mono ?_
 rintro e w3 ⟨O, on, oc, xs, rfl, ro, h1, h2, h3, h4, d4, g4⟩
 have hO : on ≤ 65 ∧ Cap O on oc := ⟨h4, h1, h2, h3⟩
 replace T0 := T0.dice d4 g4
 have T : M4 w p A n c v S sn sc sg O on xs w3 := ⟨T0.d, T0.rN, T0.rV, T0.s, ro, T0.g, T0.hp, T0.hv⟩
 have cV3 : w3.cell? ⟨v, 0, none⟩ = some (.slice S sn sc) := T.rV.cell 0
 have L4 := hid (drawAny p A n c S sn sc sg w3 T.d T.s (by omega))
 clear T0 ro d4 g4 cV L3 h1 h2 h3 h4
 go_wp2_with fail
 refine L4.out.mono ?_
 rintro e w4 ⟨R, rn, rc, zs, rfl, rr, h1, h2, h3, h4, d4, g4⟩
 have hR : rn ≤ 65 ∧ Cap R rn rc := ⟨h4, h1, h2, h3⟩
 replace T := T.dice d4 g4
 have cV4 : w4.cell? ⟨v, 0, none⟩ = some (.slice S sn sc) := T.rV.cell 0
 have L5 := hid (once p A n c 2 w4 T.d (by omega) (by omega))
 clear d4 g4 cV3 L4 h1 h2 h3 h4
 go_wp2_with fail
 refine L5.out.mono ?_
 rintro e w5 ⟨b, rfl, d5, g5⟩
 replace T := T.dice d5 g5
 replace rr := (rr.grown g5 (Nat.le_refl _)).more g5.size
 have cV5 : w5.cell? ⟨v, 0, none⟩ = some (.slice S sn sc) := T.rV.cell 0
 clear d5 g5 cV4 L5
 cases b with
 | false =>
  have cN : w5.cell? ⟨w.heap.size, 0, none⟩ = some (.slice none 0 0) := T.rN.cell 0
  have fN : w5.frozen? ⟨w.heap.size, 0, none⟩ = false := T.rN.free 0
  have F := hid (m4_of (oc := oc) (qc := rc) T rr hsn hO hR)
  clear T rr
  go_wp2
  exact bodyPost_ret (v := .tuple #[.agg #[.slice S sn sc], .slice O on oc, .slice R rn rc]) (by simp [results, Try.results70, go_sem, cN]) rfl F.out
 | true =>
  have L6 := hid (specTermOk S O sn sc on oc sg xs w5 T.s.seg T.o.seg (by omega) (by omega))
  go_wp2_with fail
  refine L6.out.mono ?_
  rintro e w6 ⟨rfl, bb⟩
  generalize termOkB sg xs = ok
  replace T := T.next bb
  replace rr := (rr.below bb (Nat.le_refl _)).more bb.size
  have cV6 : w6.cell? ⟨v, 0, none⟩ = some (.slice S sn sc) := T.rV.cell 0
  clear bb cV5 L6
  cases ok with
  | false =>
   have cN : w6.cell? ⟨w.heap.size, 0, none⟩ = some (.slice none 0 0) := T.rN.cell 0
   have fN : w6.frozen? ⟨w.heap.size, 0, none⟩ = false := T.rN.free 0
   have F := hid (m4_of (oc := oc) (qc := rc) T rr hsn hO hR)
   clear T rr
   go_wp2
   exact bodyPost_ret (v := .tuple #[.agg #[.slice S sn sc], .slice O on oc, .slice R rn rc]) (by simp [results, Try.results70, go_sem, cN]) rfl F.out
  | true =>
   have T1 := T.drew
   replace rr : Rd w6.drew p w6.drew.heap.size R rn zs := rr
   have zp6 : p < w6.drew.heap.size := T1.d.lt
   clear T
   go_wp2_with fail
   go_region_held3 (fun w' => w'.cell? ⟨v, 0, none⟩ = some (.slice S sn sc))
    (go_keep)
    (first
     | (go_at_call 43; refine (drawAnyS p A n c S sn sc sg w6.drew T1.d T1.s (by omega)).mono ?_; rintro e w7 ⟨B, m, cB, xss, rfl, own7, hsm7, d7, g7⟩; have hxt := small_tot hsm7 own7.1 (by omega); have rr2 := (rr.grown g7 (Nat.le_refl _)).more g7.size; have T2 := T1.dice d7 g7; have cV7 : w7.cell? ⟨v, 0, none⟩ = some (.slice S sn sc) := T2.rV.cell 0)
     | (go_at_call 13; refine (specFilledO S B O sn sc m cB on oc sg xss xs w7 T2.s.seg (OwnR.segs own7) T2.o.seg (by omega) hxt (by omega)).mono ?_; rintro e w8 ⟨Q, qn, qc, rfl, oq, b8⟩; have rr3 := (rr2.below b8 (Nat.le_refl _)).more b8.size; have T3 := T2.next b8; have cV8 : w8.cell? ⟨v, 0, none⟩ = some (.slice S sn sc) := T3.rV.cell 0))
   have hqn : qn ≤ 65 := by have e1 := Own.len oq; have e2 := filled_len sg xss xs; omega
   have hQ : qn ≤ 65 ∧ Cap Q qn qc := ⟨hqn, (Own.cap oq).1, (Own.cap oq).2, Own.none_cap oq⟩
   have rq : Rd w8 p w8.heap.size Q qn (filledL sg xss xs) := Rd.of_own oq T2.d.lt
   generalize filledL sg xss xs = ys at rq
   generalize filledB sg xss xs = z at *
   have L9 := hid (once p A n c 2 w8 T3.d (by omega) (by omega))
   clear oq b8 own7 d7 g7 cV7 cV6 T1 T2 hxt hsm7 rr rr2 zp6
   cases z with
   | false =>
    clear rq
    go_wp2_with fail
    refine L9.out.mono ?_
    rintro e w9 ⟨b, rfl, d9, g9⟩
    replace T3 := T3.dice d9 g9
    replace rr3 := (rr3.grown g9 (Nat.le_refl _)).more g9.size
    have cV9 : w9.cell? ⟨v, 0, none⟩ = some (.slice S sn sc) := T3.rV.cell 0
    clear d9 g9 cV8 L9
    cases b with
    | false =>
     have cN : w9.cell? ⟨w.heap.size, 0, none⟩ = some (.slice none 0 0) := T3.rN.cell 0
     have fN : w9.frozen? ⟨w.heap.size, 0, none⟩ = false := T3.rN.free 0
     have F := hid (m4_of (oc := oc) (qc := rc) T3 rr3 hsn hO hR)
     clear T3 rr3
     go_wp2
     exact bodyPost_ret (v := .tuple #[.agg #[.slice S sn sc], .slice O on oc, .slice R rn rc]) (by simp [results, Try.results70, go_sem, cN]) rfl F.out
    | true =>
     have T4 := T3.drew
     replace rr3 : Rd w9.drew p w9.drew.heap.size R rn zs := rr3
     clear T3
     go_wp2_with fail
     go_region_held3 (fun w' => w'.cell? ⟨v, 0, none⟩ = some (.slice S sn sc))
      (go_keep)
      (first
       | (go_at_call 65; refine (belowLen p A n c 3 w10 T5.d (by omega) (by omega)).mono ?_; rintro e w11 ⟨y, rfl, hy0, hy1, d11, g11⟩; have T6 := T5.dice d11 g11; have r11 := (r10.grown g11 (Nat.le_refl _)).more g11.size; have cV11 : w11.cell? ⟨v, 0, none⟩ = some (.slice S sn sc) := T6.rV.cell 0)
       | (go_at_call 65; refine (belowLen p A n c (rn : Int) w9.drew T4.d (by omega) (by omega)).mono ?_; rintro e w10 ⟨x, rfl, hx0, hx1, d10, g10⟩; have T5 := T4.dice d10 g10; have r10 := (rr3.grown g10 (Nat.le_refl _)).more g10.size; have cV10 : w10.cell? ⟨v, 0, none⟩ = some (.slice S sn sc) := T5.rV.cell 0)
       | (go_at_call 63; refine (specPutAt S R (some ⟨w11.heap.size, 0, none⟩) sn sc rn rc 1 1 sg zs x [IntKind.i64.wrap (-1 - y)] (w11.alloc (.cells #[.int .i64 (IntKind.i64.wrap (-1 - y))] 2)) (T6.next (alloc_below w11 _)).s.seg ((r11.below (alloc_below w11 _) (Nat.le_refl _)).more (alloc_below w11 _).size).seg (lit_seg w11 _) (by omega) (by omega) (by omega) (by simp) hR.2.1 hR.2.2.1).mono ?_; intro e w12 h12; obtain ⟨D, dn, dc, us, too, rfl, rd, hD, b12⟩ := put_small ((T6.next (alloc_below w11 _)).d.lt) h12; have T7 := (T6.next (alloc_below w11 (.cells #[.int .i64 (IntKind.i64.wrap (-1 - y))] 2))).next b12; have r12 := ((((r11.below (alloc_below w11 (.cells #[.int .i64 (IntKind.i64.wrap (-1 - y))] 2)) (Nat.le_refl _)).more (alloc_below w11 _).size).below b12 (Nat.le_refl _)).more b12.size); have cV12 : w12.cell? ⟨v, 0, none⟩ = some (.slice S sn sc) := T7.rV.cell 0))
     have cN : w12.cell? ⟨w.heap.size, 0, none⟩ = some (.slice none 0 0) := T7.rN.cell 0
     have fN : w12.frozen? ⟨w.heap.size, 0, none⟩ = false := T7.rN.free 0
     have F := hid (m4_of (oc := oc) (qc := dc) T7 rd hsn hO hD)
     have F2 := hid (m4_of (oc := oc) (qc := rc) T7 r12 hsn hO hR)
     clear T7 T6 T5 T4 rd r12 r11 r10 h12 b12 d10 g10 d11 g11 cV9 cV10 cV11 rr3
     cases too with
     | false =>
      go_wp2
      exact bodyPost_ret (v := .tuple #[.agg #[.slice S sn sc], .slice O on oc, .slice R rn rc]) (by simp [results, Try.results70, go_sem, cN]) rfl F2.out
     | true =>
      go_wp2
      exact bodyPost_ret (v := .tuple #[.agg #[.slice S sn sc], .slice O on oc, .slice D dn dc]) (by simp [results, Try.results70, go_sem, cN]) rfl F.out
   | true =>
    clear rr3
    go_wp2_with fail
    refine L9.out.mono ?_
    rintro e w9 ⟨b, rfl, d9, g9⟩
    replace T3 := T3.dice d9 g9
    replace rq := (rq.grown g9 (Nat.le_refl _)).more g9.size
    have cV9 : w9.cell? ⟨v, 0, none⟩ = some (.slice S sn sc) := T3.rV.cell 0
    clear d9 g9 cV8 L9
    cases b with
    | false =>
     have cN : w9.cell? ⟨w.heap.size, 0, none⟩ = some (.slice none 0 0) := T3.rN.cell 0
     have fN : w9.frozen? ⟨w.heap.size, 0, none⟩ = false := T3.rN.free 0
     have F := hid (m4_of (oc := oc) (qc := qc) T3 rq hsn hO hQ)
     clear T3 rq
     go_wp2
     exact bodyPost_ret (v := .tuple #[.agg #[.slice S sn sc], .slice O on oc, .slice Q qn qc]) (by simp [results, Try.results70, go_sem, cN]) rfl F.out
    | true =>
     have T4 := T3.drew
     replace rq : Rd w9.drew p w9.drew.heap.size Q qn ys := rq
     clear T3
     go_wp2_with fail
     go_region_held3 (fun w' => w'.cell? ⟨v, 0, none⟩ = some (.slice S sn sc))
      (go_keep)
      (first
       | (go_at_call 65; refine (belowLen p A n c 3 w10 T5.d (by omega) (by omega)).mono ?_; rintro e w11 ⟨y, rfl, hy0, hy1, d11, g11⟩; have T6 := T5.dice d11 g11; have r11 := (r10.grown g11 (Nat.le_refl _)).more g11.size; have cV11 : w11.cell? ⟨v, 0, none⟩ = some (.slice S sn sc) := T6.rV.cell 0)
       | (go_at_call 65; refine (belowLen p A n c (qn : Int) w9.drew T4.d (by omega) (by omega)).mono ?_; rintro e w10 ⟨x, rfl, hx0, hx1, d10, g10⟩; have T5 := T4.dice d10 g10; have r10 := (rq.grown g10 (Nat.le_refl _)).more g10.size; have cV10 : w10.cell? ⟨v, 0, none⟩ = some (.slice S sn sc) := T5.rV.cell 0)
       | (go_at_call 63; refine (specPutAt S Q (some ⟨w11.heap.size, 0, none⟩) sn sc qn qc 1 1 sg ys x [IntKind.i64.wrap (-1 - y)] (w11.alloc (.cells #[.int .i64 (IntKind.i64.wrap (-1 - y))] 2)) (T6.next (alloc_below w11 _)).s.seg ((r11.below (alloc_below w11 _) (Nat.le_refl _)).more (alloc_below w11 _).size).seg (lit_seg w11 _) (by omega) (by omega) (by omega) (by simp) hQ.2.1 hQ.2.2.1).mono ?_; intro e w12 h12; obtain ⟨D, dn, dc, us, too, rfl, rd, hD, b12⟩ := put_small ((T6.next (alloc_below w11 _)).d.lt) h12; have T7 := (T6.next (alloc_below w11 (.cells #[.int .i64 (IntKind.i64.wrap (-1 - y))] 2))).next b12; have r12 := ((((r11.below (alloc_below w11 (.cells #[.int .i64 (IntKind.i64.wrap (-1 - y))] 2)) (Nat.le_refl _)).more (alloc_below w11 _).size).below b12 (Nat.le_refl _)).more b12.size); have cV12 : w12.cell? ⟨v, 0, none⟩ = some (.slice S sn sc) := T7.rV.cell 0))
     have cN : w12.cell? ⟨w.heap.size, 0, none⟩ = some (.slice none 0 0) := T7.rN.cell 0
     have fN : w12.frozen? ⟨w.heap.size, 0, none⟩ = false := T7.rN.free 0
     have F := hid (m4_of (oc := oc) (qc := dc) T7 rd hsn hO hD)
     have F2 := hid (m4_of (oc := oc) (qc := qc) T7 r12 hsn hO hQ)
     clear T7 T6 T5 T4 rd r12 r11 r10 h12 b12 d10 g10 d11 g11 cV9 cV10 cV11 rq
     cases too with
     | false =>
      go_wp2
      exact bodyPost_ret (v := .tuple #[.agg #[.slice S sn sc], .slice O on oc, .slice Q qn qc]) (by simp [results, Try.results70, go_sem, cN]) rfl F2.out
     | true =>
      go_wp2
      exact bodyPost_ret (v := .tuple #[.agg #[.slice S sn sc], .slice O on oc, .slice D dn dc]) (by simp [results, Try.results70, go_sem, cN]) rfl F.out
end drawL5
end
section
namespace drawMatched
open Go.RowKit base ints sig term cursor termOk marks app sym segs dice drawSig drawTerm drawAny drawTwo drawPair drawOne drawVar drawMatch
def AnsT3 (w : World) (e : Ending) (w' : World) : Prop :=
 ∃ S sn sc sg O on oc xs Q qn qc ys, e = .returned (.tuple #[.agg #[.slice S sn sc], .slice O on oc, .slice Q qn qc]) ∧ Seg w' w'.heap.size S sn sg ∧ Seg w' w'.heap.size O on xs ∧ Seg w' w'.heap.size Q qn ys ∧ sn ≤ 9 ∧ (on ≤ 65 ∧ Cap O on oc) ∧ (qn ≤ 65 ∧ Cap Q qn qc) ∧ Below w.heap.size w w'
theorem t3_of {w u : World} {p : Nat} {S : Option Addr} {sn sc : Nat} {sg : List Int} {O : Option Addr} {on oc : Nat} {xs : List Int} {Q : Option Addr} {qn qc : Nat} {ys : List Int} {a : Option Addr} {l k : Nat} (hs : Rd u p u.heap.size S sn sg) (ho : Rd u p u.heap.size O on xs) (hq : Rd u p u.heap.size Q qn ys)
  (h1 : sn ≤ 9) (h2 : on ≤ 65 ∧ Cap O on oc) (h3 : qn ≤ 65 ∧ Cap Q qn qc) (hb : Below w.heap.size w u) (hN : u.cell? ⟨w.heap.size, 0, none⟩ = some (.slice a l k)) :
  AnsT3 w (.returned (.tuple #[.agg #[.slice S sn sc], .slice O on oc, .slice Q qn qc])) (u.setCell ⟨w.heap.size, 0, none⟩ (.slice S sn sc)) :=
 ⟨S, sn, sc, sg, O, on, oc, xs, Q, qn, qc, ys, rfl, (Rd.seg (Rd.other hs hN _)).more (by simp), (Rd.seg (Rd.other ho hN _)).more (by simp), (Rd.seg (Rd.other hq hN _)).more (by simp), h1, h2, h3, hb.setCell (Nat.le_refl _) _⟩
set_option maxHeartbeats 2000000 in
theorem drawMatched (A : Option Addr) (n c : Nat) (w : World) (h : SegB w w.heap.size A n) (hn : n ≤ 4096) :
  Calls Try.prog 8 #[.slice A n c] w (AnsT3 w) := by
 obtain ⟨W0, hW0⟩ : ∃ W0, W0 = w.alloc (.cells #[.slice none 0 0] 26) := ⟨_, rfl⟩
 have rN : Row W0 w.heap.size 26 #[.slice none 0 0] := by rw [hW0]; exact Row.new _ _ _
 have b0 : Below w.heap.size w W0 := by rw [hW0]; exact (Below.refl _ _).alloc (Nat.le_refl _) _
 have L := Lib.hid (new_ A n c W0 (segB_below h b0) hn)
 have HW0 := Lib.hid hW0
 clear h hW0
 go_enter Try.func8, Try.ntmps8
 go_wp2_with fail
 rw [← HW0.out]
 refine L.out.mono ?_
 rintro e w1 ⟨p, rfl, hp, d1, bb⟩
 have hNp : w.heap.size < p := Nat.lt_of_lt_of_le rN.lt hp
 replace rN := rN.next bb
 have bel := next_trans b0 bb
 have L2 := Lib.hid (l4Draw p A n c w1 d1)
 clear d1 bb b0 L
 go_wp2_with fail
 refine L2.out.mono ?_
 rintro e w2 ⟨S, sn, sc, sg, O, on, oc, xs, Q, qn, qc, ys, rfl, rs, ro, rq, h1, h2, h3, d2, g2⟩
 replace rN := Row.away rN g2 (fun e => by injection e; omega)
 have bel2 : Below w.heap.size w w2 := bel.grown g2 bel.size (fun k hk => by injection hk; omega)
 have cN : w2.cell? ⟨w.heap.size, 0, none⟩ = some (.slice none 0 0) := rN.cell 0
 have fN : w2.frozen? ⟨w.heap.size, 0, none⟩ = false := rN.free 0
 have F := Lib.hid (t3_of (sc := sc) rs ro rq h1 h2 h3 bel2 cN)
 clear bel2 bel rs ro rq d2 g2 rN L2
 go_wp2
 exact bodyPost_ret (v := .tuple #[.agg #[.slice S sn sc], .slice O on oc, .slice Q qn qc]) (by simp [results, Try.results8, go_sem, cN]) rfl F.out
end drawMatched
end
section
namespace drawGenr
open Go.RowKit base ints sig term cursor termOk marks app sym segs dice drawSig drawTerm drawAny drawTwo drawPair drawOne drawVar drawMatch drawMatched drawL5
set_option maxHeartbeats 2000000 in
theorem drawGeneralised (A : Option Addr) (n c : Nat) (w : World) (h : SegB w w.heap.size A n) (hn : n ≤ 4096) :
  Calls Try.prog 27 #[.slice A n c] w (AnsT3 w) := by
 obtain ⟨W0, hW0⟩ : ∃ W0, W0 = w.alloc (.cells #[.slice none 0 0] 26) := ⟨_, rfl⟩
 have rN : Row W0 w.heap.size 26 #[.slice none 0 0] := by rw [hW0]; exact Row.new _ _ _
 have b0 : Below w.heap.size w W0 := by rw [hW0]; exact (Below.refl _ _).alloc (Nat.le_refl _) _
 have L := Lib.hid (new_ A n c W0 (segB_below h b0) hn)
 have HW0 := Lib.hid hW0
 clear h hW0
 go_enter Try.func27, Try.ntmps27
 go_wp2_with fail
 rw [← HW0.out]
 refine L.out.mono ?_
 rintro e w1 ⟨p, rfl, hp, d1, bb⟩
 have hNp : w.heap.size < p := Nat.lt_of_lt_of_le rN.lt hp
 replace rN := rN.next bb
 have bel := next_trans b0 bb
 have L2 := Lib.hid (l5Draw p A n c w1 d1)
 clear d1 bb b0 L
 go_wp2_with fail
 refine L2.out.mono ?_
 rintro e w2 ⟨S, sn, sc, sg, O, on, oc, xs, Q, qn, qc, ys, rfl, rs, ro, rq, h1, h2, h3, d2, g2⟩
 replace rN := Row.away rN g2 (fun e => by injection e; omega)
 have bel2 : Below w.heap.size w w2 := bel.grown g2 bel.size (fun k hk => by injection hk; omega)
 have cN : w2.cell? ⟨w.heap.size, 0, none⟩ = some (.slice none 0 0) := rN.cell 0
 have fN : w2.frozen? ⟨w.heap.size, 0, none⟩ = false := rN.free 0
 have F := Lib.hid (t3_of (sc := sc) rs ro rq h1 h2 h3 bel2 cN)
 clear bel2 bel rs ro rq d2 g2 rN L2
 go_wp2
 exact bodyPost_ret (v := .tuple #[.agg #[.slice S sn sc], .slice O on oc, .slice Q qn qc]) (by simp [results, Try.results27, go_sem, cN]) rfl F.out
end drawGenr
end
section
namespace renMath
open sig term termOk termFacts varsMath fillMath
def idx : List Int → Int → Nat
 | [], _ => 0
 | y :: r, x => if y = x then 0 else idx r x + 1
theorem idx_lt : ∀ {o : List Int} {x : Int}, x ∈ o → idx o x < o.length
 | y :: r, x, h => by
  rw [idx]
  split
  ·simp
  ·rename_i h1
   rcases List.mem_cons.1 h with e | e
   ·exact absurd e.symm h1
   ·have := idx_lt e; simp; omega
theorem idx_not : ∀ {o : List Int} {x : Int}, x ∉ o → idx o x = o.length
 | [], _, _ => rfl
 | y :: r, x, h => by
  have h1 : ¬ y = x := fun e => h (by rw [e]; exact List.mem_cons_self ..)
  rw [idx, if_neg h1, idx_not (fun e => h (List.mem_cons_of_mem _ e))]
  rfl
theorem idx_get : ∀ {o : List Int} {x : Int}, x ∈ o → o.getD (idx o x) 0 = x
 | y :: r, x, h => by
  rw [idx]
  split
  ·rename_i h1; simpa using h1
  ·rename_i h1
   rcases List.mem_cons.1 h with e | e
   ·exact absurd e.symm h1
   ·simpa using idx_get e
theorem idx_first : ∀ {o : List Int} {x : Int} {k : Nat}, k < o.length → (∀ j, j < k → o.getD j 0 ≠ x) → o.getD k 0 = x → idx o x = k
 | y :: r, x, 0, _, _, h => by
  have h : y = x := by simpa using h
  rw [idx, if_pos h]
 | y :: r, x, k + 1, hk, hl, h => by
  have h0 : ¬ y = x := by simpa using hl 0 (by omega)
  rw [idx, if_neg h0, idx_first (k := k) (by simpa using hk) (fun j hj => by simpa using hl (j + 1) (by omega)) (by simpa using h)]
theorem idx_app_mem : ∀ {o q : List Int} {x : Int}, x ∈ o → idx (o ++ q) x = idx o x
 | y :: r, q, x, h => by
  rw [List.cons_append, idx, idx]
  split
  ·rfl
  ·rename_i h1
   rcases List.mem_cons.1 h with e | e
   ·exact absurd e.symm h1
   ·rw [idx_app_mem e]
theorem idx_app_new {o : List Int} {x : Int} (h : x ∉ o) : idx (o ++ [x]) x = o.length := by
 refine idx_first (by simp) (fun j hj => ?_) (by simp)
 have e : (o ++ [x]).getD j 0 = o[j] := by simp [List.getD, List.getElem?_append_left hj, hj]
 rw [e]
 exact fun e2 => h (by rw [← e2]; exact List.getElem_mem hj)
theorem idx_map {f : Int → Int} (hf : ∀ a b, f a = f b → a = b) : ∀ (o : List Int) (x : Int), idx (o.map f) (f x) = idx o x
 | [], _ => rfl
 | y :: r, x => by
  rw [List.map_cons, idx, idx]
  by_cases h : y = x
  ·rw [if_pos h, if_pos (by rw [h])]
  ·rw [if_neg h, if_neg (fun e => h (hf _ _ e)), idx_map hf r x]
theorem mem_map_inj {f : Int → Int} (hf : ∀ a b, f a = f b → a = b) {o : List Int} {x : Int} : f x ∈ o.map f ↔ x ∈ o := by
 rw [List.mem_map]
 exact ⟨fun ⟨y, hy, e⟩ => by rw [← hf _ _ e]; exact hy, fun h => ⟨x, h, rfl⟩⟩
def ext (o : List Int) (x : Int) : List Int := if x ∈ o then o else o ++ [x]
def extV (o : List Int) (x : Int) : List Int := if x < 0 then ext o x else o
def orderL (t : List Int) : List Int := t.foldl extV []
theorem order_take {t : List Int} {k : Nat} {x : Int} (hk : k < t.length) (hx : t.getD k 0 = x) : orderL (t.take (k + 1)) = extV (orderL (t.take k)) x := by
 unfold orderL
 rw [take_snoc hk hx, List.foldl_append]
 rfl
theorem ext_mem {o : List Int} {x y : Int} : y ∈ ext o x ↔ y = x ∨ y ∈ o := by
 unfold ext
 split
 ·rename_i h
  exact ⟨fun e => .inr e, fun e => by rcases e with e | e; exact e ▸ h; exact e⟩
 ·rw [List.mem_append, List.mem_singleton, or_comm]
theorem extV_mem {o : List Int} {x y : Int} : y ∈ extV o x ↔ (y = x ∧ x < 0) ∨ y ∈ o := by
 unfold extV
 split
 ·rename_i h
  rw [ext_mem]
  exact ⟨fun e => by rcases e with e | e; exact .inl ⟨e, h⟩; exact .inr e, fun e => by rcases e with e | e; exact .inl e.1; exact .inr e⟩
 ·rename_i h
  exact ⟨fun e => .inr e, fun e => by rcases e with e | e; exact absurd e.2 h; exact e⟩
theorem fold_ext_mem {y : Int} : ∀ {l o : List Int}, y ∈ l.foldl extV o ↔ (y ∈ l ∧ y < 0) ∨ y ∈ o
 | [], o => by simp
 | x :: l, o => by
  rw [List.foldl_cons, fold_ext_mem, extV_mem, List.mem_cons]
  constructor
  ·rintro (⟨h, h0⟩ | ⟨rfl, h0⟩ | h)
   ·exact .inl ⟨.inr h, h0⟩
   ·exact .inl ⟨.inl rfl, h0⟩
   ·exact .inr h
  ·rintro (⟨rfl | h, h0⟩ | h)
   ·exact .inr (.inl ⟨rfl, h0⟩)
   ·exact .inl ⟨h, h0⟩
   ·exact .inr (.inr h)
theorem order_mem {t : List Int} {y : Int} : y ∈ orderL t ↔ y ∈ t ∧ y < 0 := by unfold orderL; rw [fold_ext_mem]; simp
theorem ext_nodup {o : List Int} {x : Int} (h : o.Nodup) : (ext o x).Nodup := by
 unfold ext
 split
 ·exact h
 ·rename_i hx
  rw [List.nodup_append]
  exact ⟨h, by simp, fun a ha b hb => by simp at hb; subst hb; exact fun e => hx (e ▸ ha)⟩
theorem fold_nodup : ∀ {l o : List Int}, o.Nodup → (l.foldl extV o).Nodup
 | [], _, h => h
 | x :: l, o, h => by
  rw [List.foldl_cons]
  refine fold_nodup ?_
  unfold extV
  split
  ·exact ext_nodup h
  ·exact h
theorem order_nodup (t : List Int) : (orderL t).Nodup := fold_nodup List.nodup_nil
theorem ext_len (o : List Int) (x : Int) : (ext o x).length ≤ o.length + 1 := by unfold ext; split <;> simp
theorem fold_ext_len : ∀ (l o : List Int), (l.foldl extV o).length ≤ o.length + l.length
 | [], _ => by simp
 | x :: l, o => by
  have h1 := fold_ext_len l (extV o x)
  have h2 : (extV o x).length ≤ o.length + 1 := by unfold extV; split; exact ext_len o x; simp
  simp
  omega
theorem order_len (t : List Int) : (orderL t).length ≤ t.length := by have := fold_ext_len t []; simpa [orderL] using this
def ren (o : List Int) (n : Int) : Int := if n < 0 then -1 - (idx o n : Int) else n
def renL (t : List Int) : List Int := t.map (ren (orderL t))
theorem ren_ext {o : List Int} {x n : Int} (h : n < 0 → n ∈ o) : ren (extV o x) n = ren o n := by
 unfold ren
 split
 ·rename_i h0
  unfold extV ext
  split
  ·split
   ·rfl
   ·rw [idx_app_mem (h h0)]
  ·rfl
 ·rfl
theorem ren_len (t : List Int) : (renL t).length = t.length := by simp [renL]
def renI (sg t : List Int) : List Int := if termOkB sg t = true then renL t else []
theorem idx_nodup {o : List Int} (h : o.Nodup) {k : Nat} (hk : k < o.length) {x : Int} (hx : o.getD k 0 = x) : idx o x = k := by
 refine idx_first hk (fun j hj e => ?_) hx
 have h1 : o[j]'(by omega) = o[k] := by
  have a : o.getD j 0 = o[j]'(by omega) := by simp [List.getD, show j < o.length by omega]
  have b : o.getD k 0 = o[k] := by simp [List.getD, hk]
  rw [← a, ← b, e, hx]
 exact (List.pairwise_iff_getElem.1 h) j k (by omega) hk hj h1
end renMath
end
section
namespace matchMath
open sig term termOk termFacts endAt sub termMath fillMath posMath renMath
def vr (x : Int) : Nat := (-1 - x).toNat
def mst (sg t : List Int) : List Int → Nat → List (List Int) → Option (List (List Int))
 | [], _, s => some s
 | x :: r, k, s =>
  if t.length ≤ k then none
  else if 0 ≤ x then (if x = t.getD k 0 then mst sg t r (k + 1) s else none)
  else if (s.getD (vr x) []).length ≠ 0 ∧ s.getD (vr x) [] ≠ subL sg t k then none
  else mst sg t r (k + (subL sg t k).length) (s.set (vr x) (subL sg t k))
section
variable {sg t : List Int} {r : List Int} {x : Int} {k : Nat} {s : List (List Int)}
theorem mst_out (h : t.length ≤ k) : mst sg t (x :: r) k s = none := by simp only [mst]; rw [if_pos h]
theorem mst_sym (h : ¬ t.length ≤ k) (hx : 0 ≤ x) (he : x = t.getD k 0) : mst sg t (x :: r) k s = mst sg t r (k + 1) s := by simp only [mst]; rw [if_neg h, if_pos hx, if_pos he]
theorem mst_symNo (h : ¬ t.length ≤ k) (hx : 0 ≤ x) (he : ¬ x = t.getD k 0) : mst sg t (x :: r) k s = none := by simp only [mst]; rw [if_neg h, if_pos hx, if_neg he]
theorem mst_var (h : ¬ t.length ≤ k) (hx : ¬ 0 ≤ x) (he : ¬ ((s.getD (vr x) []).length ≠ 0 ∧ s.getD (vr x) [] ≠ subL sg t k)) : mst sg t (x :: r) k s = mst sg t r (k + (subL sg t k).length) (s.set (vr x) (subL sg t k)) := by simp only [mst]; rw [if_neg h, if_neg hx, if_neg he]
theorem mst_varNo (h : ¬ t.length ≤ k) (hx : ¬ 0 ≤ x) (he : (s.getD (vr x) []).length ≠ 0 ∧ s.getD (vr x) [] ≠ subL sg t k) : mst sg t (x :: r) k s = none := by simp only [mst]; rw [if_neg h, if_neg hx, if_pos he]
end
theorem set_get {s : List (List Int)} {i j : Nat} {v : List Int} : (s.set i v).getD j [] = if i = j ∧ i < s.length then v else s.getD j [] := by
 simp only [List.getD_eq_getElem?_getD, List.getElem?_set]
 by_cases h : i = j
 ·subst h
  by_cases h2 : i < s.length
  ·simp [h2]
  ·simp [h2]
 ·simp [h]
theorem vr_lt {x : Int} (h0 : ¬ 0 ≤ x) (h : -24 ≤ x) : vr x < 24 := by unfold vr; omega
theorem mst_ext {sg t : List Int} : ∀ {p : List Int} {k : Nat} {s s' : List (List Int)}, mst sg t p k s = some s' → s.length = 24 → (∀ x ∈ p, -24 ≤ x) → s'.length = 24 ∧ ∀ i, (s.getD i []).length ≠ 0 → s'.getD i [] = s.getD i [] := by
 intro p
 induction p with
 | nil => intro k s s' h hl _; injection h with h; subst h; exact ⟨hl, fun _ _ => rfl⟩
 | cons x r ih =>
  intro k s s' h hl hx
  have hr : ∀ y ∈ r, -24 ≤ y := fun y hy => hx y (List.mem_cons_of_mem _ hy)
  by_cases h1 : t.length ≤ k
  ·rw [mst_out h1] at h; cases h
  ·by_cases h2 : 0 ≤ x
   ·by_cases h3 : x = t.getD k 0
    ·rw [mst_sym h1 h2 h3] at h; exact ih h hl hr
    ·rw [mst_symNo h1 h2 h3] at h; cases h
   ·by_cases h3 : (s.getD (vr x) []).length ≠ 0 ∧ s.getD (vr x) [] ≠ subL sg t k
    ·rw [mst_varNo h1 h2 h3] at h; cases h
    ·rw [mst_var h1 h2 h3] at h
     obtain ⟨e1, e2⟩ := ih h (by rw [List.length_set]; exact hl) hr
     refine ⟨e1, fun i hi => ?_⟩
     have hs : (s.set (vr x) (subL sg t k)).getD i [] = s.getD i [] := by
      rw [set_get]
      split
      ·rename_i hc
       obtain ⟨rfl, _⟩ := hc
       by_cases e : s.getD (vr x) [] = subL sg t k
       ·exact e.symm
       ·exact absurd ⟨hi, e⟩ h3
      ·rfl
     rw [← hs] at hi ⊢
     exact e2 i hi
theorem sub_len1 {sg t : List Int} (hok : termOkB sg t = true) {k : Nat} (hk : k < t.length) : (subL sg t k).length = len1 sg t k ∧ t.drop k = subL sg t k ++ t.drop (k + (subL sg t k).length) ∧ scan sg 1 (subL sg t k) = some (subL sg t k).length := by
 have h := term_at hok hk
 have hl : (subL sg t k).length = len1 sg t k := by unfold subL; rw [List.length_take, List.length_drop]; omega
 refine ⟨hl, ?_, (term_parts (sub_term hok hk).1).2.2⟩
 rw [hl, ← List.drop_drop]
 exact (List.take_append_drop _ _).symm
theorem mst_sound {sg t : List Int} (hok : termOkB sg t = true) : ∀ {p : List Int} {k : Nat} {s s' : List (List Int)}, mst sg t p k s = some s' → s.length = 24 → (∀ x ∈ p, -24 ≤ x) →
  (∃ rest, t.drop k = fillL (fun i => s'.getD i []) p ++ rest) ∧ ∀ x ∈ p, x < 0 → scan sg 1 (s'.getD (vr x) []) = some (s'.getD (vr x) []).length := by
 intro p
 induction p with
 | nil => intro k s s' _ _ _; exact ⟨⟨t.drop k, by rw [fill_nil, List.nil_append]⟩, fun x hx => absurd hx (List.not_mem_nil)⟩
 | cons x r ih =>
  intro k s s' h hl hx
  have hr : ∀ y ∈ r, -24 ≤ y := fun y hy => hx y (List.mem_cons_of_mem _ hy)
  have hx0 : -24 ≤ x := hx x (List.mem_cons_self ..)
  by_cases h1 : t.length ≤ k
  ·rw [mst_out h1] at h; cases h
  ·by_cases h2 : 0 ≤ x
   ·by_cases h3 : x = t.getD k 0
    ·rw [mst_sym h1 h2 h3] at h
     obtain ⟨⟨rest, e⟩, hv⟩ := ih h hl hr
     refine ⟨⟨rest, ?_⟩, fun y hy h0 => ?_⟩
     ·rw [drop_cons (by omega), e, ← h3, fill_cons, rep_sym h2]; rfl
     ·rcases List.mem_cons.1 hy with rfl | hy
      ·omega
      ·exact hv y hy h0
    ·rw [mst_symNo h1 h2 h3] at h; cases h
   ·by_cases h3 : (s.getD (vr x) []).length ≠ 0 ∧ s.getD (vr x) [] ≠ subL sg t k
    ·rw [mst_varNo h1 h2 h3] at h; cases h
    ·rw [mst_var h1 h2 h3] at h
     have hl' : (s.set (vr x) (subL sg t k)).length = 24 := by rw [List.length_set]; exact hl
     obtain ⟨⟨rest, e⟩, hv⟩ := ih h hl' hr
     obtain ⟨_, e2⟩ := mst_ext h hl' hr
     obtain ⟨l1, l2, l3⟩ := sub_len1 hok (show k < t.length by omega)
     have hpos := (sub_term hok (show k < t.length by omega)).2.2.2
     have hg : (s.set (vr x) (subL sg t k)).getD (vr x) [] = subL sg t k := by rw [set_get, if_pos ⟨rfl, by rw [hl]; exact vr_lt h2 hx0⟩]
     have hgx : s'.getD (vr x) [] = subL sg t k := by rw [e2 (vr x) (by rw [hg]; omega), hg]
     refine ⟨⟨rest, ?_⟩, fun y hy h0 => ?_⟩
     ·rw [l2, e, fill_cons, rep_var (by omega), List.append_assoc]
      congr 1
      exact hgx.symm
     ·rcases List.mem_cons.1 hy with rfl | hy
      ·rw [hgx]; exact l3
      ·exact hv y hy h0
theorem mst_full {sg t : List Int} {L : Nat → List Int} : ∀ {p : List Int} {k : Nat} {s : List (List Int)} {rest : List Int}, t.drop k = fillL L p ++ rest → s.length = 24 → (∀ x ∈ p, -24 ≤ x) → (∀ x ∈ p, x < 0 → scan sg 1 (L (vr x)) = some (L (vr x)).length) → (∀ i, (s.getD i []).length ≠ 0 → s.getD i [] = L i) →
  ∃ s', mst sg t p k s = some s' ∧ (∀ i, (s'.getD i []).length ≠ 0 → s'.getD i [] = L i) ∧ ∀ x ∈ p, x < 0 → s'.getD (vr x) [] = L (vr x) := by
 intro p
 induction p with
 | nil => intro k s rest _ _ _ _ hc; exact ⟨s, rfl, hc, fun x hx => absurd hx (List.not_mem_nil)⟩
 | cons x r ih =>
  intro k s rest h hl hx hL hc
  have hr : ∀ y ∈ r, -24 ≤ y := fun y hy => hx y (List.mem_cons_of_mem _ hy)
  have hLr : ∀ y ∈ r, y < 0 → scan sg 1 (L (vr y)) = some (L (vr y)).length := fun y hy => hL y (List.mem_cons_of_mem _ hy)
  have hx0 : -24 ≤ x := hx x (List.mem_cons_self ..)
  rw [fill_cons, List.append_assoc] at h
  by_cases h2 : 0 ≤ x
  ·rw [rep_sym h2] at h
   have hk : k < t.length := by
    by_cases hk : k < t.length
    ·exact hk
    ·rw [List.drop_eq_nil_of_le (by omega)] at h; cases h
   rw [drop_cons hk] at h
   injection h with e1 e2
   obtain ⟨s', m1, m2, m3⟩ := ih e2 hl hr hLr hc
   exact ⟨s', by rw [mst_sym (by omega) h2 e1.symm]; exact m1, m2, fun y hy h0 => by
    rcases List.mem_cons.1 hy with rfl | hy
    ·omega
    ·exact m3 y hy h0⟩
  ·rw [rep_var (by omega)] at h
   change t.drop k = L (vr x) ++ (fillL L r ++ rest) at h
   have hsc := hL x (List.mem_cons_self ..) (by omega)
   have hpos := scan_pos (q := 0) hsc
   have hk : k < t.length := by
    by_cases hk : k < t.length
    ·exact hk
    ·rw [List.drop_eq_nil_of_le (by omega)] at h
     have := congrArg List.length h
     simp only [List.length_nil, List.length_append] at this
     omega
   have hsub : subL sg t k = L (vr x) := by
    unfold subL
    have e : len1 sg t k = (L (vr x)).length := len1_eq (by rw [h]; exact scan_append hsc)
    rw [e, h, List.take_left' rfl]
   have hnext : t.drop (k + (subL sg t k).length) = fillL L r ++ rest := by rw [← List.drop_drop, h, hsub, List.drop_left' rfl]
   have hno : ¬ ((s.getD (vr x) []).length ≠ 0 ∧ s.getD (vr x) [] ≠ subL sg t k) := fun ⟨g1, g2⟩ => g2 (by rw [hsub]; exact hc _ g1)
   have hl' : (s.set (vr x) (subL sg t k)).length = 24 := by rw [List.length_set]; exact hl
   obtain ⟨s', m1, m2, m3⟩ := ih hnext hl' hr hLr (fun i hi => by
    rw [set_get] at hi ⊢
    split
    ·rename_i hcc; rw [hsub, ← hcc.1]
    ·rename_i hcc; rw [if_neg hcc] at hi; exact hc i hi)
   refine ⟨s', by rw [mst_var (by omega) h2 hno]; exact m1, m2, fun y hy h0 => ?_⟩
   rcases List.mem_cons.1 hy with rfl | hy
   ·have hg : (s.set (vr y) (subL sg t k)).getD (vr y) [] = L (vr y) := by rw [set_get, if_pos ⟨rfl, by rw [hl]; exact vr_lt h2 hx0⟩, hsub]
    rw [(mst_ext m1 hl' hr).2 (vr y) (by rw [hg]; omega), hg]
   ·exact m3 y hy h0
def s0 : List (List Int) := List.replicate 24 []
theorem s0_get (i : Nat) : s0.getD i [] = [] := by
 unfold s0
 rw [List.getD_eq_getElem?_getD, List.getElem?_replicate]
 split <;> rfl
def matchO (sg p t : List Int) : Option (List (List Int)) := if (termOkB sg p && termOkB sg t) = true then mst sg t p 0 s0 else none
def instB (sg p t : List Int) : Bool := (matchO sg p t).isSome
theorem match_yes {sg p t : List Int} (h1 : termOkB sg p = true) (h2 : termOkB sg t = true) : matchO sg p t = mst sg t p 0 s0 := by unfold matchO; rw [if_pos (by rw [h1, h2]; rfl)]
theorem match_no {sg p t : List Int} (h : termOkB sg p = false ∨ termOkB sg t = false) : matchO sg p t = none := by
 unfold matchO
 rw [if_neg]
 rcases h with h | h <;> rw [h] <;> simp
theorem inst_no {sg p t : List Int} (h : termOkB sg p = false ∨ termOkB sg t = false) : instB sg p t = false := by unfold instB; rw [match_no h]; rfl
theorem inst_ok {sg p t : List Int} (h : instB sg p t = true) : termOkB sg p = true ∧ termOkB sg t = true := by
 cases h1 : termOkB sg p with
 | false => rw [inst_no (.inl h1)] at h; cases h
 | true =>
  cases h2 : termOkB sg t with
  | false => rw [inst_no (.inr h2)] at h; cases h
  | true => exact ⟨rfl, rfl⟩
def Turns (sg p t : List Int) (L : Nat → List Int) : Prop := fillL L p = t ∧ ∀ x ∈ p, x < 0 → scan sg 1 (L (vr x)) = some (L (vr x)).length
theorem match_turns {sg p t : List Int} {s' : List (List Int)} (h : matchO sg p t = some s') : s'.length = 24 ∧ Turns sg p t (fun i => s'.getD i []) := by
 have h12 : termOkB sg p = true ∧ termOkB sg t = true := inst_ok (by unfold instB; rw [h]; rfl)
 obtain ⟨h1, h2⟩ := h12
 rw [match_yes h1 h2] at h
 have hx : ∀ x ∈ p, -24 ≤ x := fun x hx => (term_mem h1 hx).1
 obtain ⟨⟨rest, e⟩, hv⟩ := mst_sound h2 h (by rfl) hx
 refine ⟨(mst_ext h (by rfl) hx).1, ?_, hv⟩
 rw [List.drop_zero] at e
 have hs := scan_fill (L := fun i => s'.getD i []) (term_parts h1).2.2 hv
 have hs2 := scan_append (r := rest) hs
 rw [← e, (term_parts h2).2.2] at hs2
 injection hs2 with hs2
 have hl := congrArg List.length e
 rw [List.length_append] at hl
 have hr : rest = [] := List.eq_nil_of_length_eq_zero (by omega)
 rw [e, hr, List.append_nil]
theorem turns_match {sg p t : List Int} {L : Nat → List Int} (h1 : termOkB sg p = true) (h2 : termOkB sg t = true) (h : Turns sg p t L) : ∃ s', matchO sg p t = some s' ∧ ∀ x ∈ p, x < 0 → s'.getD (vr x) [] = L (vr x) := by
 rw [match_yes h1 h2]
 obtain ⟨s', m1, _, m3⟩ := mst_full (sg := sg) (t := t) (L := L) (p := p) (k := 0) (s := s0) (rest := []) (by rw [List.drop_zero, List.append_nil, h.1]) (by rfl) (fun x hx => (term_mem h1 hx).1) h.2 (fun i hi => by rw [s0_get] at hi; exact absurd rfl hi)
 exact ⟨s', m1, m3⟩
theorem inst_iff {sg p t : List Int} (h1 : termOkB sg p = true) (h2 : termOkB sg t = true) : instB sg p t = true ↔ ∃ L, Turns sg p t L := by
 constructor
 ·intro h
  unfold instB at h
  obtain ⟨s', hs⟩ := Option.isSome_iff_exists.1 h
  exact ⟨_, (match_turns hs).2⟩
 ·rintro ⟨L, h⟩
  obtain ⟨s', hs, _⟩ := turns_match h1 h2 h
  unfold instB
  rw [hs]; rfl
theorem scan_one {sg : List Int} {y : Int} (h : -24 ≤ y ∧ y ≤ -1) : scan sg 1 [y] = some [y].length := by
 rw [scan_step (by rw [ar_var h]; omega), ar_var h]
 rfl
end matchMath
end
end Go.Proofs.Ytgfgaeagbipobaa
