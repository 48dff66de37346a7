/-
  MERGED: my texts Filled, Max, CompSpec, Then, CompImpl, DrawKnown, DrawSys, DrawSysAny, DrawSysD, DrawSA, DrawVar, DrawSS, RuleSpecB, Inside, Concat, Args, Depth, TermMath, PosMath, PutMath, one behind the other, as they are. By an AI agent.
-/
import Derived.Test.YtpcnjcgglonifaaGreatMFnWalksGoOn3
import Derived.Deep.AppendLies
import Derived.Deep.RegionHeld3
import Derived.Deep.DeepCutAuto
import Derived.Laws.NewBlocks
import Derived.Laws.EntriesVeiled
import Derived.Deep.LoopGhost
import Derived.Lib.AppendZeros
section
namespace Go.Proofs.YtpcnjcgglonifaaGreat.filled
open Go.RowKit base ints sig cursor term termOk marks app appAt sym sub segs segsHelp termFacts varsMath varsOf fillMath Go.Proofs.YtpcnjcgglonifaaGreat.look shifted substOk gives
set_option maxRecDepth 100000

theorem stepAppAll {w : World} {ops : Array Oper} {o : Oper} {a : Act} {K : Act → World → Prop} {Q : Exit → Act → World → Prop} {E : Prop} (hgd : o.guard = none) (s x : Operand)
    (ho : o.op = .call { callee := .builtin .append, args := #[s, x], argTypes := #[24, 24] })
    (base : Nat) (A : Option Addr) (n c : Nat) (xs : List Int) (hs : a.eval s = .slice A n c) (hown : Own w base (.slice A n c) xs)
    (S : Option Addr) (m c2 B : Nat) (ys : List Int) (hx : a.eval x = .slice S m c2) (hseg : Seg w B S m ys) (hm1 : 1 ≤ m) (hn : n ≤ 2097152) (hm : m ≤ 2097152) (hbase : base ≤ w.heap.size)
    (h : ∀ g' c' w', Own w' base (.slice (some ⟨g', 0, none⟩) (n + m) c') (xs ++ ys) → w.grownBy w' (blk A) → (blk A = some g' ∨ g' = w.heap.size) → g' < w'.heap.size → K (a.put o.dst (.slice (some ⟨g', 0, none⟩) (n + m) c')) w') :
    if Region.wanted o (yielded ops a.tmps) = true then Oper.wp Tryz.prog o a w K Q else E := by
  obtain ⟨i0, hi, hz0, hz1, hz2⟩ := info_parts info_i64
  have hl : xs.length = n := by
    obtain ⟨A', c', e⟩ := hown.slice
    exact (Value.slice.inj e).2.1.symm
  have hob : (Value.slice A n c).ownBlock = blk A := by cases A <;> rfl
  obtain ⟨b, off, e, _, hc⟩ := hseg.2 (by omega)
  subst e
  refine step_append_lies w hgd s x 24 ho base 2 i0 (.int .i64 0) 1 8 Tryz.underlying24 hi hz0 hz1 hz2 rfl (by decide) (.slice A n c) n (xs.map (Value.int .i64)) hs (by rw [← hl]; rw [← hl] at hown; exact hown)
    ⟨b, off, none⟩ m c2 (ys.map (Value.int .i64)) hx (by simp [hseg.1]) (fun j u hj => ?_) (fun u hu => ?_) (by omega) (by unfold maxLen; omega) (by omega) hbase w.heap.size rfl ?_
  · have hjl : j < m := by
      have := (List.getElem?_eq_some_iff.1 hj).1
      simp at this
      have := hseg.1
      omega
    have hcj := hc j hjl
    have e2 : (⟨b, off, none⟩ : Addr).add j = ⟨b, off + j, none⟩ := by unfold Addr.add; split <;> simp_all
    rw [e2, hcj, ← hj]
    have := hseg.1
    simp [List.getD, show j < ys.length by omega]
  · obtain ⟨y, _, rfl⟩ := List.mem_map.1 hu
    rfl
  · intro g' c' w' hown' hg hat hlt
    rw [← List.map_append] at hown'
    rw [hob] at hg hat
    refine h g' c' w' ?_ hg hat hlt
    have hl2 : (xs ++ ys).length = n + m := by simp [hl, hseg.1]
    unfold Own
    rw [hl2]
    exact hown'

def fitsB (ss : List (List Int)) (t : List Int) : Bool := decide ((fillL (givesL ss) t).length ≤ 60)
def fitL (ss : List (List Int)) (t : List Int) : List Int := if fitsB ss t = true then fillL (givesL ss) t else []
theorem fits_no {ss : List (List Int)} {t : List Int} {k : Nat} (h : 60 < (fillL (givesL ss) (t.take k)).length) : fitsB ss t = false := by
  have e : fillL (givesL ss) t = fillL (givesL ss) (t.take k) ++ fillL (givesL ss) (t.drop k) := by rw [← fill_append, List.take_append_drop]
  unfold fitsB
  rw [e, List.length_append]
  simp
  omega

def HeadF (w : World) (S : Option Addr) (m c mt : Nat) (ss : List (List Int)) (t : List Int) (out i : Value) (wr : World) : Prop :=
  ∃ (k : Nat) (O : Option Addr) (on oc : Nat), k ≤ mt ∧ i = .int .i64 k ∧ out = .slice O on oc ∧ on ≤ 60 ∧ Own wr (w.heap.size + 1) (.slice O on oc) (fillL (givesL ss) (t.take k)) ∧ Row wr w.heap.size 59 #[.slice S m c] ∧ Below w.heap.size w wr
theorem pairF_no {w wr : World} {ss : List (List Int)} {t : List Int} (h : fitsB ss t = false) (hb : Below w.heap.size w wr) : AnsPairO w (fitL ss t) (fitsB ss t) (.returned (.tuple #[.slice (some ⟨wr.heap.size, 0, none⟩) 0 0, .bool false])) (wr.alloc (.cells #[] 2)) :=
  ⟨_, 0, 0, by rw [h], by unfold fitL; rw [if_neg (by rw [h]; simp)]; exact own_empty wr w.heap.size hb.size, hb.alloc hb.size _⟩

set_option maxHeartbeats 8000000 in
theorem l2Filled (S A : Option Addr) (m c mt ct : Nat) (ss : List (List Int)) (t : List Int) (w : World) (h : Segs w w.heap.size S m ss) (h' : Seg w w.heap.size A mt t) (ht : tot ss ≤ 1048576) (hmt : mt ≤ 60) (hv : ∀ x ∈ t, -24 ≤ x) (hM : ∀ i, (givesL ss i).length ≤ 60) :
    Calls Tryz.prog 83 #[.agg #[.slice S m c], .slice A mt ct] w (AnsPairO w (fitL ss t) (fitsB ss t)) := by
  have HL := Lib.hid h'.1
  have HV := Lib.hid hv
  have HM := Lib.hid hM
  have HT := Lib.hid ht
  have S0 : HeadF w S m c mt ss t (.slice (some ⟨w.heap.size + 1, 0, none⟩) 0 0) (.int .i64 0) ((w.alloc (.cells #[.slice S m c] 59)).alloc (.cells #[] 2)) :=
    ⟨0, _, _, _, Nat.zero_le _, rfl, rfl, by omega, by have := own_empty (w.alloc (.cells #[.slice S m c] 59)) (w.heap.size + 1) (by simp); simpa [fillL] using this, (Row.new _ _ _).alloc _, ((Below.refl _ _).alloc (Nat.le_refl _) _).alloc (by simp) _⟩
  have HS0 := Lib.hid S0
  clear S0 hv hM ht
  go_enter Tryz.func83, Tryz.ntmps83
  go_wp2_with fail
  go_loopw [6, 7] (fun out i wr => HeadF w S m c mt ss t out i wr) (fun _ i _ => mt - (intOf i).toNat)
  case atStart => exact HS0.out
  case round =>
    obtain ⟨k, O, on, oc, hk, rfl, rfl, hon, ho, hr, hb⟩ := hrel
    clear HS0
    have hsz := hr.lt
    by_cases hlt : k < mt
    · obtain ⟨b, off, x, rfl, hbb, hx, ex⟩ := h'.spot hlt
      have hx1 : wr.cell? ⟨b, off + k, none⟩ = some (.int .i64 x) := (hb.cell (p := ⟨b, off + k, none⟩) hbb).trans hx
      have hbr : b < wr.heap.size := Nat.lt_of_lt_of_le hbb hb.size
      have cS : wr.cell? ⟨w.heap.size, 0, none⟩ = some (.slice S m c) := hr.cell 0
      have hmem : x ∈ t := by
        have hkl : k < t.length := by rw [HL.out]; exact hlt
        have := ex.out
        rw [← this]
        simp [List.getD, hkl]
      have hx24 : -24 ≤ x := HV.out x hmem
      have E := Lib.hid (fill_take (L := givesL ss) (t := t) (k := k) (by rw [HL.out]; exact hlt) ex.out)
      have i0 : (0 : Int) ≤ (k : Int) := by omega
      have i1 : (k : Int) < (mt : Int) := by omega
      have HN := Lib.hid (Own.len ho)
      have hx0 := hx
      clear hmem hx h' ex
      by_cases hpos : 0 ≤ x
      · have R := Lib.hid (rep_sym (L := givesL ss) hpos)
        have d1 : decide (x < 0) = false := by simp; omega
        by_cases h60 : on + 1 ≤ 60
        · go_wp2_with (at_builtin; refine app1 rfl _ _ rfl (w.heap.size + 1) O on oc (fillL (givesL ss) (t.take k)) rfl (Own.alloc ho _) wr.heap.size 1 x rfl ((Row.new _ _ _).cell 0) (by omega) (by simp; omega) ?_; intro O' oc' w2 ho2 b2)
          have S1 : HeadF w S m c mt ss t (.slice O' (on + 1) oc') (.int .i64 ((k : Int) + 1)) w2 := ⟨k + 1, O', on + 1, oc', hlt, by simp, rfl, h60, by rw [E.out, R.out]; exact ho2, (hr.alloc _).below b2 (Nat.lt_succ_self _), (hb.alloc (Nat.le_of_lt hsz) _).trans (b2.mono (Nat.le_succ _))⟩
          have HS1 := Lib.hid S1
          clear S1 ho2 b2 ho hr hb R E cS
          go_wp2
          go_roundw
          case rel => exact HS1.out
          case measure => simp [intOf]; omega
        · have NO := Lib.hid (fits_no (ss := ss) (t := t) (k := k + 1) (by rw [E.out, R.out, List.length_append, ← HN.out]; simp; omega))
          go_wp2_with (at_builtin; refine app1 rfl _ _ rfl (w.heap.size + 1) O on oc (fillL (givesL ss) (t.take k)) rfl (Own.alloc ho _) wr.heap.size 1 x rfl ((Row.new _ _ _).cell 0) (by omega) (by simp; omega) ?_; intro O' oc' w2 ho2 b2)
          have F := Lib.hid (pairF_no NO.out ((hb.alloc (Nat.le_of_lt hsz) _).trans (b2.mono (Nat.le_succ _))))
          clear ho2 b2 ho hr hb R E cS
          go_wp2
          go_ret2
          exact F.out
      · have hneg : x < 0 := by omega
        have R := Lib.hid (rep_var (L := givesL ss) hneg)
        obtain ⟨i, hi⟩ : ∃ i : Nat, (-1 - x).toNat = i := ⟨_, rfl⟩
        rw [hi] at R
        have hix : (i : Int) = -1 - x := by omega
        have LG := Lib.hid (l2Gives S m c ss i wr.drew (((h.below hb).more hb.size).drew) HT.out (by omega))
        rw [hix] at LG
        have hlen : (givesL ss i).length ≤ 60 := HM.out i
        have hlen1 : 1 ≤ (givesL ss i).length := gives_pos ss i
        obtain ⟨q, hq⟩ : ∃ q, (givesL ss i).length = q := ⟨_, rfl⟩
        rw [hq] at hlen hlen1
        have HQ := Lib.hid hq
        have hw1 : IntKind.i64.wrap (-1 - x) = -1 - x := by rw [IntKind.wrap_i64]; omega
        have hod := Own.drew ho
        have hrd := hr.drew
        have hbd := hb.drew
        clear hix hi hq h
        go_wp2_with fail
        go_region_held3 (fun w' => w'.cell? ⟨w.heap.size, 0, none⟩ = some (.slice S m c) ∧ w'.cell? ⟨b, off + k, none⟩ = some (.int .i64 x))
          (go_keep)
          (first
            | (go_at_call 127; refine LG.out.mono ?_; rintro e w1 ⟨D, dn, dc, rfl, od, bb⟩; obtain rfl : dn = q := (by rw [Own.len od]; exact HQ.out); have ho1 := Own.next hod bb; have hr1 := hrd.next bb; have hb1 := next_trans hbd bb; have cS1 : w1.cell? ⟨w.heap.size, 0, none⟩ = some (.slice S m c) := hr1.cell 0; have cX1 : w1.cell? ⟨b, off + k, none⟩ = some (.int .i64 x) := (bb.cell (p := ⟨b, off + k, none⟩) hbr).trans hx1)
            | (refine stepAppAll rfl _ _ rfl (w.heap.size + 1) O on oc (fillL (givesL ss) (t.take k)) (by rfl) ho1 D _ dc w1.heap.size (givesL ss i) (by rfl) (Own.seg od) (by omega) (by omega) (by omega) (by have := hr1.lt; omega) ?_; intro O' oc' w2 ho2 hg2 hat2 hlt2; have hr2 := Row.away hr1 hg2 (fun e => by have := (World.ownsRow.lt ho1 w.heap.size (by rw [blk_own]; exact e)).1; omega); have hb2 : Below w.heap.size w w2 := hb1.grown hg2 hb1.size (fun z hz => by have := (World.ownsRow.lt ho1 z (by rw [blk_own]; exact hz)).1; omega); have cS2 : w2.cell? ⟨w.heap.size, 0, none⟩ = some (.slice S m c) := hr2.cell 0; have cX2 : w2.cell? ⟨b, off + k, none⟩ = some (.int .i64 x) := (hb2.cell (p := ⟨b, off + k, none⟩) hbb).trans hx0))
        have hsum : (fillL (givesL ss) (t.take k) ++ givesL ss i).length = on + dn := by rw [List.length_append, ← HN.out, HQ.out]
        clear cS1 cX1 ho1 hr1 hb1 od bb hod hrd hbd LG ho hr hb cS hx1 hg2 hat2 HM HV
        by_cases h60 : on + dn ≤ 60
        · have S1 : HeadF w S m c mt ss t (.slice (some ⟨O', 0, none⟩) (on + dn) oc') (.int .i64 ((k : Int) + 1)) w2 := ⟨k + 1, _, on + dn, oc', hlt, by simp, rfl, h60, by rw [E.out, R.out]; exact ho2, hr2, hb2⟩
          have HS1 := Lib.hid S1
          clear S1 ho2 hr2 hb2 R E HQ hsum
          go_wp2
          go_roundw
          case rel => exact HS1.out
          case measure => simp [intOf]; omega
        · have NO := Lib.hid (fits_no (ss := ss) (t := t) (k := k + 1) (by rw [E.out, R.out, hsum]; omega))
          have F := Lib.hid (pairF_no NO.out hb2)
          clear ho2 hr2 hb2 R E HQ hsum
          go_wp2
          go_ret2
          exact F.out
    · have F : AnsPairO w (fitL ss t) (fitsB ss t) (.returned (.tuple #[.slice O on oc, .bool true])) wr := by
        rw [List.take_of_length_le (by rw [HL.out]; omega)] at ho
        have hB : fitsB ss t = true := by unfold fitsB; rw [← Own.len ho]; simp; omega
        exact ⟨O, on, oc, by rw [hB], by unfold fitL; rw [if_pos hB]; exact Own.lower ho (Nat.le_succ _), hb⟩
      have HF := Lib.hid F
      clear F ho hr hb h h'
      go_wp2
      go_ret2
      exact HF.out

def filledB (sg : List Int) (ss : List (List Int)) (t : List Int) : Bool := substOkB sg ss && (termOkB sg t && fitsB ss t)
def filledL (sg : List Int) (ss : List (List Int)) (t : List Int) : List Int := if filledB sg ss t = true then fillL (givesL ss) t else []
theorem filled_s {sg : List Int} {ss : List (List Int)} {t : List Int} (h : substOkB sg ss = false) : filledB sg ss t = false := by unfold filledB; rw [h, Bool.false_and]
theorem filled_t {sg : List Int} {ss : List (List Int)} {t : List Int} (h : termOkB sg t = false) : filledB sg ss t = false := by unfold filledB; rw [h, Bool.false_and, Bool.and_false]
theorem filled_b {sg : List Int} {ss : List (List Int)} {t : List Int} (h : substOkB sg ss = true) (h' : termOkB sg t = true) : filledB sg ss t = fitsB ss t := by unfold filledB; rw [h, h', Bool.true_and, Bool.true_and]
theorem pairOF_no {w w' : World} {sg : List Int} {ss : List (List Int)} {t : List Int} (h : filledB sg ss t = false) (hb : Below w.heap.size w w') : AnsPairO w (filledL sg ss t) (filledB sg ss t) (.returned (.tuple #[.slice none 0 0, .bool false])) w' :=
  ⟨none, 0, 0, by rw [h], by unfold filledL; rw [if_neg (by rw [h]; simp)]; exact Own.nil _ _, hb⟩

set_option maxHeartbeats 4000000 in
theorem implFilled (A S A' : Option Addr) (n c m c' q cq : Nat) (sg : List Int) (ss : List (List Int)) (t : List Int) (w : World) (h : Seg w w.heap.size A n sg) (h' : Segs w w.heap.size S m ss) (h2 : Seg w w.heap.size A' q t) (hn : n ≤ 1048576) (ht : tot ss ≤ 1048576) (hq : q ≤ 1048576) :
    Calls Tryz.prog 78 #[.agg #[.slice A n c], .agg #[.slice S m c'], .slice A' q cq] w (AnsPairO w (filledL sg ss t) (filledB sg ss t)) := by
  obtain ⟨W, hW, rA, rS, bel⟩ := boxes2 w A n c S m c'
  have HW := Lib.hid hW
  have HL := Lib.hid h2.1
  have hm : m ≤ 1048576 := tot_len h'.1 ht
  have s := h.next bel
  have s1 := h'.next bel
  have s2 := h2.next bel
  have L := Lib.hid (implSubstOk A S n c m c' sg ss W s s1 hn ht)
  clear hW h h' h2
  cases hok : substOkB sg ss with
  | false =>
    have HS := Lib.hid hok
    clear hok s s1 s2
    go_enter Tryz.func78, Tryz.ntmps78
    go_wp2_with fail
    rw [← HW.out]
    refine L.out.mono ?_
    rintro e w1 ⟨he, bb⟩
    rw [HS.out] at he
    subst he
    have F := Lib.hid (pairOF_no (filled_s (t := t) HS.out) (next_trans bel bb))
    clear bb bel rA rS
    go_wp2
    go_ret2
    exact F.out
  | true =>
    have HS := Lib.hid hok
    clear hok
    go_enter Tryz.func78, Tryz.ntmps78
    go_wp2_with fail
    rw [← HW.out]
    refine L.out.mono ?_
    rintro e w1 ⟨he, bb⟩
    rw [HS.out] at he
    subst he
    replace s := s.next bb
    replace s1 := s1.next bb
    replace s2 := s2.next bb
    replace rA := rA.next bb
    replace rS := rS.next bb
    replace bel := next_trans bel bb
    have cA : w1.cell? ⟨w.heap.size, 0, none⟩ = some (.slice A n c) := rA.cell 0
    have L2 := Lib.hid (implTermOk A A' n c q cq sg t w1 s s2 hn hq)
    clear bb L
    cases hok2 : termOkB sg t with
    | false =>
      have HS2 := Lib.hid hok2
      clear hok2 s s1 s2
      go_wp2_with fail
      refine L2.out.mono ?_
      rintro e w2 ⟨he, bb⟩
      rw [HS2.out] at he
      subst he
      have F := Lib.hid (pairOF_no (filled_t (ss := ss) HS2.out) (next_trans bel bb))
      clear bb bel rA rS cA L2
      go_wp2
      go_ret2
      exact F.out
    | true =>
      have HS2 := Lib.hid hok2
      have HV := Lib.hid (fun x hx => (term_mem (x := x) hok2 hx).1)
      have H60 : q ≤ 60 := by rw [← HL.out]; exact (term_len hok2).2
      have HG := Lib.hid (gives_len HS.out)
      clear hok2
      go_wp2_with fail
      refine L2.out.mono ?_
      rintro e w2 ⟨he, bb⟩
      rw [HS2.out] at he
      subst he
      replace s1 := s1.next bb
      replace s2 := s2.next bb
      replace bel := next_trans bel bb
      have cS : w2.cell? ⟨w.heap.size + 1, 0, none⟩ = some (.slice S m c') := (rS.next bb).cell 0
      clear bb L2 cA rA rS
      go_wp2_with fail
      refine (lookupIn S m c' w2).mono ?_
      rintro e w3 ⟨rfl, hw3⟩
      have b3 : Below w2.heap.size w2 w3 := by rw [hw3]; exact (Below.refl _ _).alloc (Nat.le_refl _) _
      have r3 : Row w3 w2.heap.size 59 #[.slice S m c'] := by rw [hw3]; exact Row.new _ _ _
      replace s1 := s1.next b3
      replace s2 := s2.next b3
      replace bel := next_trans bel b3
      have L3 := Lib.hid (fill 125 #[.pointer (some ⟨w2.heap.size, 0, none⟩)] (enters_of Tryz.func125 (by kernel_rfl) rfl) A' q cq t _ w3 (lookSubst w2.heap.size S m c' ss w3 r3 s1 hm) s2 H60 HV.out (fun i => Nat.le_trans (HG.out i) (by omega)))
      clear hw3 b3 r3 s1 s2 cS
      go_wp2_with fail
      refine L3.out.mono ?_
      rintro e w4 ⟨O, on, oc, rfl, ho, bb⟩
      have hsize := bel.size
      replace bel := next_trans bel bb
      have ho2 := Own.lower ho hsize
      have hlen := Own.len ho
      have hon : on ≤ 245760 := by rw [hlen]; have := fill_bound (L := givesL ss) (t := t) (k := t.length) (fun i => Nat.le_trans (HG.out i) (by omega)) HL.out H60; rwa [List.take_length] at this
      have F : ∀ z : Bool, z = decide (60 < on) → AnsPairO w (filledL sg ss t) (filledB sg ss t) (.returned (.tuple #[.slice (if z then none else O) (if z then 0 else on) (if z then 0 else oc), .bool !z])) w4 := fun z hz => by
        by_cases h60 : 60 < on
        · rw [decide_eq_true h60] at hz
          subst hz
          exact pairOF_no (by rw [filled_b HS.out HS2.out]; unfold fitsB; rw [← hlen]; simp; omega) bel
        · rw [decide_eq_false h60] at hz
          subst hz
          have hb : filledB sg ss t = true := by rw [filled_b HS.out HS2.out]; unfold fitsB; rw [← hlen]; simp; omega
          exact ⟨O, on, oc, by rw [hb]; rfl, by unfold filledL; rw [if_pos hb]; exact ho2, bel⟩
      have HF := Lib.hid F
      clear F ho ho2 bb bel L3 hlen
      go_wp2_with fail
      refine (tooLong O on oc w4 (by omega)).mono ?_
      rintro e w5 ⟨rfl, rfl⟩
      obtain ⟨z, hz⟩ : ∃ z, decide (60 < on) = z := ⟨_, rfl⟩
      have G := Lib.hid (HF.out z hz.symm)
      rw [hz]
      clear HF hz
      cases z
      · go_wp2
        go_ret2
        exact G.out
      · go_wp2
        go_ret2
        exact G.out
end Go.Proofs.YtpcnjcgglonifaaGreat.filled
end

section
namespace Go.Proofs.YtpcnjcgglonifaaGreat.maxi
open Go.RowKit base
end Go.Proofs.YtpcnjcgglonifaaGreat.maxi
end

section
namespace Go.Proofs.YtpcnjcgglonifaaGreat.compSpec
open Go.RowKit base ints sig cursor marks app appAt sym segs segsHelp kinds termFacts fillMath substOk gives shifted filled plainMath plain plainOf compMath maxi
set_option maxRecDepth 100000

end Go.Proofs.YtpcnjcgglonifaaGreat.compSpec
end

section
namespace Go.Proofs.YtpcnjcgglonifaaGreat.thn
open Go.RowKit base ints cursor marks app sym segs fillMath Go.Proofs.YtpcnjcgglonifaaGreat.look
set_option maxRecDepth 100000

def LooksE (x : Option Nat) (g : Nat) (lb : Array Value) (w : World) (L : Nat → List Int) (N : Nat) : Prop :=
  ∀ (W : World) (i : Nat), w.grownBy W x → i < N → Calls Tryz.prog g (#[.int .i64 (i : Int)] ++ lb) W (AnsLook w.heap.size W (L i))
section
variable {x : Option Nat} {g : Nat} {lb : Array Value} {w w' : World} {L L' : Nat → List Int} {N : Nat}
theorem LooksE.next (h : LooksE x g lb w L N) (hg : w.grownBy w' x) : LooksE x g lb w' L N :=
  fun W i hW hi => (h W i (grown_trans hg hW) hi).mono fun _ _ ⟨A, n, c, he, h1, h2, h3, h4⟩ => ⟨A, n, c, he, h1, h2, fun k hk => by have := h3 k hk; have := hg.size; omega, h4⟩
theorem LooksE.ext (h : LooksE x g lb w L N) (e : ∀ i, i < N → L i = L' i) : LooksE x g lb w L' N := fun W i hW hi => by rw [← e i hi]; exact h W i hW hi
end
end Go.Proofs.YtpcnjcgglonifaaGreat.thn
end

section
namespace Go.Proofs.YtpcnjcgglonifaaGreat.compImpl
open Go.RowKit base ints sig cursor marks app appAt sym segs segsHelp kinds termFacts fillMath Go.Proofs.YtpcnjcgglonifaaGreat.look substOk gives shifted filled plainMath plain plainOf compMath compSpec thn
set_option maxRecDepth 100000

theorem sz_alloc (w : World) (o : Obj) : (w.alloc o).heap.size = w.heap.size + 1 := by simp
theorem row_top {w : World} {t : TypeId} {cs : Array Value} {n : Nat} (hn : n = w.heap.size) : Row (w.alloc (.cells cs t)) n t cs := by subst hn; exact Row.new _ _ _
theorem row_alloc {w : World} {o : Obj} {t : TypeId} {cs : Array Value} {n : Nat} (h : Row w n t cs) : Row (w.alloc o) n t cs := h.alloc o
theorem keep_alloc {w : World} {a : Addr} {v : Value} {o : Obj} (h : w.cell? a = some v) : (w.alloc o).cell? a = some v := (World.cell?_alloc_some w a o (by rw [h]; rfl)).trans h
end Go.Proofs.YtpcnjcgglonifaaGreat.compImpl
end

section
namespace Go.Proofs.YtpcnjcgglonifaaGreat.drawKnown
open Go.RowKit base ints sig term cursor marks app appAt sym segs dice drawSig drawTerm drawAny drawSub drawS drawX drawRule compImpl
open shape (Sh Dat nc dft sI sz)
open kindsR (sRule)
set_option maxRecDepth 100000

def SmallD (M : Nat) (D : List (Dat sRule)) : Prop := D.length ≤ M ∧ ∀ j, ((D.getD j (dft sRule)).1 : List Int).length ≤ 65 ∧ ((D.getD j (dft sRule)).2 : List Int).length ≤ 65
def AnsKnown (w : World) (e : Ending) (w' : World) : Prop :=
  ∃ S sn sc R rn rc D, e = .returned (.agg #[.slice S sn sc, .slice R rn rc]) ∧ Own w' w.heap.size (.slice S sn sc) [2, 1, 0] ∧ blk S ≠ blk R ∧ (∀ p, p < w.heap.size → OwnQ w' p w.heap.size 145 sRule R rn rc D) ∧ SmallD 3 D ∧ Below w.heap.size w w'
abbrev Lit := (Nat × List Int) × (Nat × List Int)
def vsOf : List Lit → List Value
  | [] => []
  | r :: rs => .slice (some ⟨r.1.1, 0, none⟩) r.1.2.length r.1.2.length :: .slice (some ⟨r.2.1, 0, none⟩) r.2.2.length r.2.2.length :: vsOf rs
def dOf (RS : List Lit) : List (Dat sRule) := RS.map fun r => ((r.1.2, r.2.2) : List Int × List Int)
def nums (xs : List Int) : Array Value := (xs.map (Value.int .i64)).toArray
theorem vs_len : ∀ RS : List Lit, (vsOf RS).length = RS.length * 2
  | [] => rfl
  | _ :: rs => by simp only [vsOf, List.length_cons, vs_len rs]; omega
theorem cells_vs : ∀ {RS : List Lit} {j : Nat} {r : Lit}, RS[j]? = some r → cellsOf 2 (vsOf RS) j = [.slice (some ⟨r.1.1, 0, none⟩) r.1.2.length r.1.2.length, .slice (some ⟨r.2.1, 0, none⟩) r.2.2.length r.2.2.length]
  | [], j, _, h => by simp at h
  | _ :: _, 0, _, h => by simp at h; subst h; rfl
  | _ :: rs, j + 1, r, h => by
    have h1 : rs[j]? = some r := by simpa using h
    have h2 := cells_vs h1
    unfold cellsOf at h2 ⊢
    rw [show (j + 1) * 2 = (j * 2 + 1) + 1 by omega]
    exact h2
theorem lit_seg {w : World} {Q : Nat → Prop} {g : Nat} {xs : List Int} (h : Row w g 2 (nums xs)) (hl : xs.length ≤ 65) (hQ : Q g) : RdQ w Q sI [.slice (some ⟨g, 0, none⟩) xs.length xs.length] xs :=
  rdq_seg rfl ⟨Nat.le_refl _, by omega, fun e => by cases e⟩ fun _ => ⟨g, 0, rfl, hQ, fun j hj => by
    rw [Nat.zero_add, Row.cell (t := 2) (cs := nums xs) h]
    simp [nums, List.getD, hj]⟩
theorem known_of {w W : World} (gR : Nat) (RS : List Lit) (hS : Row W (w.heap.size + 1) 2 (nums [2, 1, 0])) (hR : Row W gR 145 (vsOf RS).toArray) (hg : w.heap.size + 1 < gR) (hn : RS.length ≤ 3) (hn0 : RS ≠ [])
    (h : ∀ r ∈ RS, Row W r.1.1 2 (nums r.1.2) ∧ Row W r.2.1 2 (nums r.2.2) ∧ w.heap.size < r.1.1 ∧ r.1.1 < gR ∧ w.heap.size < r.2.1 ∧ r.2.1 < gR ∧ r.1.2.length ≤ 65 ∧ r.2.2.length ≤ 65) (hb : Below w.heap.size w W) :
    AnsKnown w (.returned (.agg #[.slice (some ⟨w.heap.size + 1, 0, none⟩) 3 3, .slice (some ⟨gR, 0, none⟩) RS.length RS.length])) W := by
  have hz := hR.lt
  refine ⟨_, _, _, _, _, _, dOf RS, rfl, Own.of_row hS rfl rfl (Nat.le_refl _) (by omega) (by omega) (fun j hj => ?_), fun e => ?_, fun p hp => ⟨by simp [dOf], vsOf RS, ?_, fun j hj => ?_⟩, ⟨by simpa [dOf] using hn, fun j => ?_⟩, hb⟩
  · match j, hj with
    | 0, _ => rfl
    | 1, _ => rfl
    | 2, _ => rfl
  · injection e with e
    have e : w.heap.size + 1 = gR := e
    omega
  · refine ⟨by rw [vs_len]; rfl, .inr ⟨gR, RS.length, _, rfl, by omega, hR, Nat.le_refl _, by unfold maxLen; omega, by rw [List.size_toArray, vs_len]; rfl, ?_⟩⟩
    rw [List.take_of_length_le (by rw [vs_len]; exact Nat.le_refl _)]
  · obtain ⟨r, hr⟩ : ∃ r, RS[j]? = some r := ⟨RS[j], by simp [hj]⟩
    obtain ⟨h1, h2, h3, h4, h5, h6, h7, h8⟩ := h r (List.mem_of_getElem? hr)
    rw [show nc sRule = 2 from rfl, cells_vs hr]
    have e : (dOf RS).getD j (dft sRule) = ((r.1.2, r.2.2) : List Int × List Int) := by simp [dOf, List.getD, hr]
    rw [e]
    have ne : ∀ g, g < gR → some g ≠ blk (some ⟨gR, 0, none⟩) := fun g hg e => by injection e with e; have e : g = gR := e; omega
    exact RdQ.cat (ca := [_]) (cb := [_]) (lit_seg h1 h7 ⟨by omega, by omega, ne _ h4⟩) (lit_seg h2 h8 ⟨by omega, by omega, ne _ h6⟩)
  · cases hr : RS[j]? with
    | none =>
      have e : (dOf RS).getD j (dft sRule) = dft sRule := by simp [dOf, List.getD, hr]
      rw [e]
      exact ⟨Nat.zero_le _, Nat.zero_le _⟩
    | some r =>
      have e : (dOf RS).getD j (dft sRule) = ((r.1.2, r.2.2) : List Int × List Int) := by simp [dOf, List.getD, hr]
      obtain ⟨h1, h2, h3, h4, h5, h6, h7, h8⟩ := h r (List.mem_of_getElem? hr)
      rw [e]
      exact ⟨h7, h8⟩

set_option maxHeartbeats 2000000 in
theorem known (k : Int) (w : World) :
    Calls Tryz.prog 147 #[.int .i64 k] w (AnsKnown w) := by
  by_cases h0 : k = 0
  · subst h0
    go_enter Tryz.func147, Tryz.ntmps147
    go_wp2
    refine bodyPost_ret (v := .agg #[.slice (some ⟨w.heap.size + 1, 0, none⟩) 3 3, .slice (some ⟨w.heap.size + 7, 0, none⟩) 2 2]) (by simp [results, Tryz.results147, go_sem]) rfl ?_
    refine known_of (w.heap.size + 7) [((w.heap.size + 3, [0, 2, -1]), (w.heap.size + 4, [-1])), ((w.heap.size + 5, [0, 1, -1, -2]), (w.heap.size + 6, [1, 0, -1, -2]))] (by repeat (first | ((refine row_top ?_); ((try simp only [sz_alloc]) <;> omega); done) | (refine row_alloc ?_))) (by repeat (first | ((refine row_top ?_); ((try simp only [sz_alloc]) <;> omega); done) | (refine row_alloc ?_))) (by omega) (by simp) (by simp) ?_ (by repeat (first | (exact Below.refl _ _) | (refine Below.alloc ?_ (by simp; try omega) _)))
    intro r hr
    simp only [List.mem_cons, List.not_mem_nil, or_false] at hr
    rcases hr with rfl | rfl
    all_goals exact ⟨(by repeat (first | ((refine row_top ?_); ((try simp only [sz_alloc]) <;> omega); done) | (refine row_alloc ?_))), (by repeat (first | ((refine row_top ?_); ((try simp only [sz_alloc]) <;> omega); done) | (refine row_alloc ?_))), by simp, by simp, by simp, by simp, by simp, by simp⟩
  by_cases h1 : k = 1
  · subst h1
    clear h0
    go_enter Tryz.func147, Tryz.ntmps147
    go_wp2
    refine bodyPost_ret (v := .agg #[.slice (some ⟨w.heap.size + 1, 0, none⟩) 3 3, .slice (some ⟨w.heap.size + 5, 0, none⟩) 1 1]) (by simp [results, Tryz.results147, go_sem]) rfl ?_
    refine known_of (w.heap.size + 5) [((w.heap.size + 3, [0, 0, -1, -2, -3]), (w.heap.size + 4, [0, -1, 0, -2, -3]))] (by repeat (first | ((refine row_top ?_); ((try simp only [sz_alloc]) <;> omega); done) | (refine row_alloc ?_))) (by repeat (first | ((refine row_top ?_); ((try simp only [sz_alloc]) <;> omega); done) | (refine row_alloc ?_))) (by omega) (by simp) (by simp) ?_ (by repeat (first | (exact Below.refl _ _) | (refine Below.alloc ?_ (by simp; try omega) _)))
    intro r hr
    simp only [List.mem_cons, List.not_mem_nil, or_false] at hr
    subst hr
    all_goals exact ⟨(by repeat (first | ((refine row_top ?_); ((try simp only [sz_alloc]) <;> omega); done) | (refine row_alloc ?_))), (by repeat (first | ((refine row_top ?_); ((try simp only [sz_alloc]) <;> omega); done) | (refine row_alloc ?_))), by simp, by simp, by simp, by simp, by simp, by simp⟩
  by_cases h2 : k = 2
  · subst h2
    clear h0 h1
    go_enter Tryz.func147, Tryz.ntmps147
    go_wp2
    refine bodyPost_ret (v := .agg #[.slice (some ⟨w.heap.size + 1, 0, none⟩) 3 3, .slice (some ⟨w.heap.size + 5, 0, none⟩) 1 1]) (by simp [results, Tryz.results147, go_sem]) rfl ?_
    refine known_of (w.heap.size + 5) [((w.heap.size + 3, [1, 1, -1]), (w.heap.size + 4, [-1]))] (by repeat (first | ((refine row_top ?_); ((try simp only [sz_alloc]) <;> omega); done) | (refine row_alloc ?_))) (by repeat (first | ((refine row_top ?_); ((try simp only [sz_alloc]) <;> omega); done) | (refine row_alloc ?_))) (by omega) (by simp) (by simp) ?_ (by repeat (first | (exact Below.refl _ _) | (refine Below.alloc ?_ (by simp; try omega) _)))
    intro r hr
    simp only [List.mem_cons, List.not_mem_nil, or_false] at hr
    subst hr
    all_goals exact ⟨(by repeat (first | ((refine row_top ?_); ((try simp only [sz_alloc]) <;> omega); done) | (refine row_alloc ?_))), (by repeat (first | ((refine row_top ?_); ((try simp only [sz_alloc]) <;> omega); done) | (refine row_alloc ?_))), by simp, by simp, by simp, by simp, by simp, by simp⟩
  by_cases h3 : k = 3
  · subst h3
    clear h0 h1 h2
    go_enter Tryz.func147, Tryz.ntmps147
    go_wp2
    refine bodyPost_ret (v := .agg #[.slice (some ⟨w.heap.size + 1, 0, none⟩) 3 3, .slice (some ⟨w.heap.size + 5, 0, none⟩) 1 1]) (by simp [results, Tryz.results147, go_sem]) rfl ?_
    refine known_of (w.heap.size + 5) [((w.heap.size + 3, [1, -1]), (w.heap.size + 4, [1, 1, -1]))] (by repeat (first | ((refine row_top ?_); ((try simp only [sz_alloc]) <;> omega); done) | (refine row_alloc ?_))) (by repeat (first | ((refine row_top ?_); ((try simp only [sz_alloc]) <;> omega); done) | (refine row_alloc ?_))) (by omega) (by simp) (by simp) ?_ (by repeat (first | (exact Below.refl _ _) | (refine Below.alloc ?_ (by simp; try omega) _)))
    intro r hr
    simp only [List.mem_cons, List.not_mem_nil, or_false] at hr
    subst hr
    all_goals exact ⟨(by repeat (first | ((refine row_top ?_); ((try simp only [sz_alloc]) <;> omega); done) | (refine row_alloc ?_))), (by repeat (first | ((refine row_top ?_); ((try simp only [sz_alloc]) <;> omega); done) | (refine row_alloc ?_))), by simp, by simp, by simp, by simp, by simp, by simp⟩
  by_cases h4 : k = 4
  · subst h4
    clear h0 h1 h2 h3
    go_enter Tryz.func147, Tryz.ntmps147
    go_wp2
    refine bodyPost_ret (v := .agg #[.slice (some ⟨w.heap.size + 1, 0, none⟩) 3 3, .slice (some ⟨w.heap.size + 7, 0, none⟩) 2 2]) (by simp [results, Tryz.results147, go_sem]) rfl ?_
    refine known_of (w.heap.size + 7) [((w.heap.size + 3, [0, -1, -2]), (w.heap.size + 4, [-1])), ((w.heap.size + 5, [0, -1, -2]), (w.heap.size + 6, [-2]))] (by repeat (first | ((refine row_top ?_); ((try simp only [sz_alloc]) <;> omega); done) | (refine row_alloc ?_))) (by repeat (first | ((refine row_top ?_); ((try simp only [sz_alloc]) <;> omega); done) | (refine row_alloc ?_))) (by omega) (by simp) (by simp) ?_ (by repeat (first | (exact Below.refl _ _) | (refine Below.alloc ?_ (by simp; try omega) _)))
    intro r hr
    simp only [List.mem_cons, List.not_mem_nil, or_false] at hr
    rcases hr with rfl | rfl
    all_goals exact ⟨(by repeat (first | ((refine row_top ?_); ((try simp only [sz_alloc]) <;> omega); done) | (refine row_alloc ?_))), (by repeat (first | ((refine row_top ?_); ((try simp only [sz_alloc]) <;> omega); done) | (refine row_alloc ?_))), by simp, by simp, by simp, by simp, by simp, by simp⟩
  by_cases h5 : k = 5
  · subst h5
    clear h0 h1 h2 h3 h4
    go_enter Tryz.func147, Tryz.ntmps147
    go_wp2
    refine bodyPost_ret (v := .agg #[.slice (some ⟨w.heap.size + 1, 0, none⟩) 3 3, .slice (some ⟨w.heap.size + 5, 0, none⟩) 1 1]) (by simp [results, Tryz.results147, go_sem]) rfl ?_
    refine known_of (w.heap.size + 5) [((w.heap.size + 3, [0, -1, -2]), (w.heap.size + 4, [0, -2, -1]))] (by repeat (first | ((refine row_top ?_); ((try simp only [sz_alloc]) <;> omega); done) | (refine row_alloc ?_))) (by repeat (first | ((refine row_top ?_); ((try simp only [sz_alloc]) <;> omega); done) | (refine row_alloc ?_))) (by omega) (by simp) (by simp) ?_ (by repeat (first | (exact Below.refl _ _) | (refine Below.alloc ?_ (by simp; try omega) _)))
    intro r hr
    simp only [List.mem_cons, List.not_mem_nil, or_false] at hr
    subst hr
    all_goals exact ⟨(by repeat (first | ((refine row_top ?_); ((try simp only [sz_alloc]) <;> omega); done) | (refine row_alloc ?_))), (by repeat (first | ((refine row_top ?_); ((try simp only [sz_alloc]) <;> omega); done) | (refine row_alloc ?_))), by simp, by simp, by simp, by simp, by simp, by simp⟩
  go_enter Tryz.func147, Tryz.ntmps147
  go_wp2
  refine bodyPost_ret (v := .agg #[.slice (some ⟨w.heap.size + 1, 0, none⟩) 3 3, .slice (some ⟨w.heap.size + 9, 0, none⟩) 3 3]) (by simp [results, Tryz.results147, go_sem]) rfl ?_
  refine known_of (w.heap.size + 9) [((w.heap.size + 3, [0, 2, -1]), (w.heap.size + 4, [-1])), ((w.heap.size + 5, [0, 1, -1, -1]), (w.heap.size + 6, [2])), ((w.heap.size + 7, [0, 0, -1, -2, -3]), (w.heap.size + 8, [0, -1, 0, -2, -3]))] (by repeat (first | ((refine row_top ?_); ((try simp only [sz_alloc]) <;> omega); done) | (refine row_alloc ?_))) (by repeat (first | ((refine row_top ?_); ((try simp only [sz_alloc]) <;> omega); done) | (refine row_alloc ?_))) (by omega) (by simp) (by simp) ?_ (by repeat (first | (exact Below.refl _ _) | (refine Below.alloc ?_ (by simp; try omega) _)))
  intro r hr
  simp only [List.mem_cons, List.not_mem_nil, or_false] at hr
  rcases hr with rfl | rfl | rfl
  all_goals exact ⟨(by repeat (first | ((refine row_top ?_); ((try simp only [sz_alloc]) <;> omega); done) | (refine row_alloc ?_))), (by repeat (first | ((refine row_top ?_); ((try simp only [sz_alloc]) <;> omega); done) | (refine row_alloc ?_))), by simp, by simp, by simp, by simp, by simp, by simp⟩
end Go.Proofs.YtpcnjcgglonifaaGreat.drawKnown
end

section
namespace Go.Proofs.YtpcnjcgglonifaaGreat.drawSys
open Go.RowKit base ints sig term cursor marks app appAt sym dice drawSig drawTerm drawAny drawSub drawS drawX drawRule drawKnown
open shape (Sh Dat nc dft sI sz)
open kindsR (sRule info_RuleS)
set_option maxRecDepth 100000

theorem ints_ne {w : World} {Q : Nat → Prop} {N : Nat} {t : TypeId} {cs : List Value} {xs : List Int} {a1 a2 : Option Addr} {l1 k1 l2 k2 : Nat} (h : RdQ w Q sI cs xs) (hN : Row w N t #[.slice a1 l1 k1, .slice a2 l2 k2]) : RdQ w (fun b => Q b ∧ b ≠ N) sI cs xs := by
  obtain ⟨A, n, c, e, hc, hl, h1⟩ := h
  refine ⟨A, n, c, e, hc, hl, fun hn => ?_⟩
  obtain ⟨b, off, e2, hb, h2⟩ := h1 hn
  refine ⟨b, off, e2, ⟨hb, fun e3 => ?_⟩, h2⟩
  subst e3
  obtain ⟨es, he, hp, hr⟩ := h2 0 hn
  have hr : es = [.int .i64 (xs.getD 0 0)] := hr
  subst hr
  have h3 := hp 0 (by simp)
  rw [show off + 0 * nc .num + 0 = off by simp] at h3
  rw [Row.cell (t := t) (cs := #[.slice a1 l1 k1, .slice a2 l2 k2]) hN] at h3
  match off, h3 with
  | 0, h3 => simp at h3
  | 1, h3 => simp at h3
  | off + 2, h3 => simp at h3
theorem rule_ne {w : World} {Q : Nat → Prop} {N : Nat} {t : TypeId} {cs : List Value} {d : Dat sRule} {a1 a2 : Option Addr} {l1 k1 l2 k2 : Nat} (h : RdQ w Q sRule cs d) (hN : Row w N t #[.slice a1 l1 k1, .slice a2 l2 k2]) : RdQ w (fun b => Q b ∧ b ≠ N) sRule cs d := by
  obtain ⟨ca, cb, e, h1, h2⟩ := h
  exact ⟨ca, cb, e, ints_ne h1 hN, ints_ne h2 hN⟩
theorem ints_put {w : World} {p : Nat} {r : Option Nat} {N : Nat} {t : TypeId} {cs : List Value} {xs : List Int} {a1 a2 : Option Addr} {l1 k1 l2 k2 : Nat} (h : RdQ w (OutR w p r) sI cs xs) (hN : Row w N t #[.slice a1 l1 k1, .slice a2 l2 k2]) (i : Nat) (u : Value) : RdQ (w.setCell ⟨N, i, none⟩ u) (OutR (w.setCell ⟨N, i, none⟩ u) p r) sI cs xs :=
  ((ints_ne h hN).keep fun b hb => Below.heap_setCell w _ u b hb.2).mono fun b hb => ⟨by simpa using hb.1.1, hb.1.2⟩
theorem ownQ_put {w : World} {p lo : Nat} {e : TypeId} {A : Option Addr} {n c : Nat} {D : List (Dat sRule)} {N : Nat} {t : TypeId} {a1 a2 : Option Addr} {l1 k1 l2 k2 : Nat} (h : OwnQ w p lo e sRule A n c D) (hN : Row w N t #[.slice a1 l1 k1, .slice a2 l2 k2]) (hA : blk A ≠ some N) (i : Nat) (u : Value) : OwnQ (w.setCell ⟨N, i, none⟩ u) p lo e sRule A n c D := by
  obtain ⟨h1, vs, h2, h3⟩ := h
  refine ⟨h1, vs, World.ownsRow.kept h2 (grown_put (World.grownBy.refl w _) i u) (.inr (by rw [blk_own]; exact hA)), fun j hj => ?_⟩
  exact ((rule_ne (h3 j hj) hN).keep fun b hb => Below.heap_setCell w _ u b hb.2).mono fun b hb => ⟨by simpa using hb.1.1, hb.1.2⟩
theorem rd_of {w : World} {p : Nat} {r : Option Nat} {S : Option Addr} {sn sc : Nat} {sg : List Int} (h : RdQ w (OutR w p r) sI [.slice S sn sc] sg) : Go.Proofs.YtpcnjcgglonifaaGreat.drawTerm.Rd w p w.heap.size S sn sg := by
  obtain ⟨A, n, c, e, hc, hl, h1⟩ := h
  injection e with e _
  injection e with e1 e2 e3
  subst e1 e2 e3
  refine ⟨hl, fun hn => ?_⟩
  obtain ⟨b, off, e2, hb, h2⟩ := h1 hn
  refine ⟨b, off, e2, hb.1, hb.2.1, fun j hj => ?_⟩
  obtain ⟨es, he, hp, hr⟩ := h2 j hj
  have hr : es = [.int .i64 (sg.getD j 0)] := hr
  subst hr
  have h3 := hp 0 (by simp)
  simpa [nc] using h3

def AnsSys (w : World) (p : Nat) (A : Option Addr) (n c M : Nat) (e : Ending) (w' : World) : Prop :=
  ∃ S sn sc sg R rn rc D, e = .returned (.agg #[.slice S sn sc, .slice R rn rc]) ∧ RdQ w' (OutR w' p (blk R)) sI [.slice S sn sc] (sg : List Int) ∧ sg.length ≤ 9 ∧ OwnQ w' p w.heap.size 145 sRule R rn rc D ∧ SmallD M D ∧ Dice w' p A n c ∧ w.grownBy w' (some p)
structure Y0 (w : World) (p : Nat) (A : Option Addr) (n c : Nat) (wr : World) : Prop where
  d : Dice wr p A n c
  rN : Row wr w.heap.size 29 #[.slice none 0 0, .slice none 0 0]
  g : w.grownBy wr (some p)
  hp : p < w.heap.size
structure YA (w : World) (p : Nat) (A : Option Addr) (n c : Nat) (o : Nat) (S : Option Addr) (sn sc : Nat) (sg : List Int) (R : Option Addr) (rn rc : Nat) (D : List (Dat sRule)) (wr : World) : Prop where
  z : Y0 w p A n c wr
  rO : Row wr o 29 #[.slice S sn sc, .slice R rn rc]
  s : RdQ wr (OutR wr p (blk R)) sI [.slice S sn sc] sg
  own : OwnQ wr p (w.heap.size + 1) 145 sRule R rn rc D
  hR : blk R ≠ some o
  ho : w.heap.size < o
section
variable {w : World} {p : Nat} {A : Option Addr} {n c : Nat} {o : Nat} {S : Option Addr} {sn sc : Nat} {sg : List Int} {R : Option Addr} {rn rc : Nat} {D : List (Dat sRule)} {wr w' : World}
theorem Y0.dice (t : Y0 w p A n c wr) (d : Dice w' p A n c) (hg : wr.grownBy w' (some p)) : Y0 w p A n c w' :=
  ⟨d, Row.away t.rN hg (fun e => by injection e; have := t.hp; omega), grown_trans t.g hg, t.hp⟩
theorem Y0.over (t : Y0 w p A n c wr) (hb : Below (w.heap.size + 1) wr w') : Y0 w p A n c w' :=
  ⟨t.d.keep (hb.mono (by have := t.hp; omega)), t.rN.below hb (by omega), grown_over t.g hb (by omega), t.hp⟩
theorem YA.dice (t : YA w p A n c o S sn sc sg R rn rc D wr) (d : Dice w' p A n c) (hg : wr.grownBy w' (some p)) : YA w p A n c o S sn sc sg R rn rc D w' :=
  ⟨t.z.dice d hg, Row.away t.rO hg (fun e => by injection e; have := t.z.hp; have := t.ho; omega), outR_dice t.s hg, t.own.dice hg (by have := t.z.hp; omega), t.hR, t.ho⟩
theorem YA.next (t : YA w p A n c o S sn sc sg R rn rc D wr) (hb : Below wr.heap.size wr w') : YA w p A n c o S sn sc sg R rn rc D w' :=
  ⟨t.z.over (hb.mono (by have := t.z.rN.lt; omega)), t.rO.next hb, outR_below t.s hb, t.own.below hb, t.hR, t.ho⟩
theorem YA.alloc (t : YA w p A n c o S sn sc sg R rn rc D wr) (x : Obj) : YA w p A n c o S sn sc sg R rn rc D (wr.alloc x) := t.next ((Below.refl _ _).alloc (Nat.le_refl _) _)
theorem YA.drew (t : YA w p A n c o S sn sc sg R rn rc D wr) : YA w p A n c o S sn sc sg R rn rc D wr.drew := t.next ⟨rfl, rfl, rfl, Nat.le_refl _, fun _ _ => rfl⟩
theorem YA.put {g' rc' : Nat} {x : Dat sRule} (t : YA w p A n c o S sn sc sg R rn rc D wr) (hown : OwnQ w' p (w.heap.size + 1) 145 sRule (some ⟨g', 0, none⟩) (rn + 1) rc' (D ++ [x])) (hg : wr.grownBy w' (blk R)) (hat : blk R = some g' ∨ g' = wr.heap.size) :
    YA w p A n c o S sn sc sg (some ⟨g', 0, none⟩) (rn + 1) rc' (D ++ [x]) (w'.setCell ⟨o, 1, none⟩ (.slice (some ⟨g', 0, none⟩) (rn + 1) rc')) := by
  have h2 := t.ho
  have hz := t.rO.lt
  have hge := t.own.ge
  have hO := Row.away t.rO hg t.hR
  have hb : Below (w.heap.size + 1) wr w' := (Below.refl _ _).grown hg (by omega) (fun k hk => (hge k hk).1)
  have hb2 : Below (w.heap.size + 1) wr (w'.setCell ⟨o, 1, none⟩ (.slice (some ⟨g', 0, none⟩) (rn + 1) rc')) := hb.setCell (p := ⟨o, 1, none⟩) (by show w.heap.size + 1 ≤ o; omega) _
  have hne : blk (some (⟨g', 0, none⟩ : Addr)) ≠ some o := by
    intro e
    have e : g' = o := by injection e
    subst e
    rcases hat with e | e
    · exact t.hR e
    · omega
  have hs : RdQ w' (OutR w' p (blk (some ⟨g', 0, none⟩))) sI [.slice S sn sc] sg :=
    (t.s.keep fun b hb => hg.block b hb.1 (fun e => hb.2.2 e)).mono fun b hb => ⟨Nat.lt_of_lt_of_le hb.1 hg.size, hb.2.1, fun e => by
      have e : b = g' := by injection e
      subst e
      rcases hat with e | e
      · exact hb.2.2 e.symm
      · have := hb.1; omega⟩
  exact ⟨t.z.over hb2, hO.put 1 _, ints_put hs hO 1 _, ownQ_put hown hO hne 1 _, hne, h2⟩
theorem sys_result {M : Nat} (z : Y0 w p A n c wr) (s : RdQ wr (OutR wr p (blk R)) sI [.slice S sn sc] sg) (own : OwnQ wr p (w.heap.size + 1) 145 sRule R rn rc D) (h9 : sg.length ≤ 9) (hM : SmallD M D) :
    AnsSys w p A n c M (.returned (.agg #[.slice S sn sc, .slice R rn rc])) ((wr.setCell ⟨w.heap.size, 0, none⟩ (.slice S sn sc)).setCell ⟨w.heap.size, 1, none⟩ (.slice R rn rc)) := by
  have h1 := z.hp
  have hne : blk R ≠ some w.heap.size := fun e => by have := (own.ge _ e).1; omega
  have r1 := z.rN.put 0 (.slice S sn sc)
  have o1 := ownQ_put own z.rN hne 0 (.slice S sn sc)
  have s1 := ints_put s z.rN 0 (.slice S sn sc)
  have o2 := ownQ_put o1 r1 hne 1 (.slice R rn rc)
  have s2 := ints_put s1 r1 1 (.slice R rn rc)
  have hS : Below w.heap.size wr ((wr.setCell ⟨w.heap.size, 0, none⟩ (.slice S sn sc)).setCell ⟨w.heap.size, 1, none⟩ (.slice R rn rc)) := ((Below.refl _ wr).setCell (p := ⟨w.heap.size, 0, none⟩) (Nat.le_refl _) _).setCell (p := ⟨w.heap.size, 1, none⟩) (Nat.le_refl _) _
  exact ⟨S, sn, sc, sg, R, rn, rc, D, rfl, s2, h9, o2.lower (by omega), hM, z.d.keep (hS.mono (by omega)), grown_over z.g hS (by omega)⟩
end
theorem small_nil (M : Nat) : SmallD M [] := ⟨Nat.zero_le _, fun j => ⟨Nat.zero_le _, Nat.zero_le _⟩⟩
theorem small_app {M : Nat} {D : List (Dat sRule)} {xs ys : List Int} (h : SmallD M D) (h1 : xs.length ≤ 65) (h2 : ys.length ≤ 65) : SmallD (M + 1) (D ++ [((xs, ys) : List Int × List Int)]) := by
  refine ⟨by have := h.1; simpa using this, fun j => ?_⟩
  by_cases hj : j < D.length
  · rw [show (D ++ [((xs, ys) : List Int × List Int)]).getD j (dft sRule) = D.getD j (dft sRule) by simp [List.getD, List.getElem?_append_left hj]]
    exact h.2 j
  · by_cases ej : j = D.length
    · subst ej
      rw [show (D ++ [((xs, ys) : List Int × List Int)]).getD D.length (dft sRule) = ((xs, ys) : List Int × List Int) by simp [List.getD]]
      exact ⟨h1, h2⟩
    · rw [show (D ++ [((xs, ys) : List Int × List Int)]).getD j (dft sRule) = dft sRule by rw [List.getD_eq_getElem?_getD, List.getElem?_eq_none (by simp; omega)]; rfl]
      exact ⟨Nat.zero_le _, Nat.zero_le _⟩
theorem small_wider {M M' : Nat} {D : List (Dat sRule)} (h : SmallD M D) (hM : M ≤ M') : SmallD M' D := ⟨Nat.le_trans h.1 hM, h.2⟩
theorem good_arities {xs : List Int} (h : Go.Proofs.YtpcnjcgglonifaaGreat.drawSig.Good xs) : Arities xs := fun j hj => by have := h.2.2 j hj; omega
def HeadY (w : World) (p : Nat) (A : Option Addr) (n c : Nat) (o : Nat) (S : Option Addr) (sn sc : Nat) (sg : List Int) (k : Value) (wr : World) : Prop :=
  ∃ (q : Nat) (R : Option Addr) (rn rc : Nat) (D : List (Dat sRule)), k = .int .i64 q ∧ rn + q ≤ 3 ∧ SmallD rn D ∧ YA w p A n c o S sn sc sg R rn rc D wr

set_option maxHeartbeats 2000000 in
theorem drawSys (p : Nat) (A : Option Addr) (n c : Nat) (w : World) (hd : Dice w p A n c) :
    Calls Tryz.prog 110 #[.pointer (some ⟨p, 0, none⟩)] w (AnsSys w p A n c 3) := by
  obtain ⟨W, hW⟩ : ∃ W, W = w.alloc (.cells #[.slice none 0 0, .slice none 0 0] 29) := ⟨_, rfl⟩
  have T : Y0 w p A n c W := by rw [hW]; exact ⟨hd.alloc _, Row.new _ _ _, World.grownBy_alloc _ _ _, hd.lt⟩
  have HW := Lib.hid hW
  have hp := hd.lt
  clear hW hd
  have L1 := Lib.hid (once p A n c 2 W T.d (by omega) (by omega))
  go_enter Tryz.func110, Tryz.ntmps110
  go_wp2_with fail
  rw [← HW.out]
  refine L1.out.mono ?_
  rintro e u1 ⟨b, rfl, d1, g1⟩
  have T1 := T.dice d1 g1
  clear L1 T d1 g1 HW
  cases b with
  | true =>
    have L2 := Lib.hid (below p A n c 7 u1 T1.d (by omega) (by omega))
    go_wp2_with fail
    refine L2.out.mono ?_
    rintro e u2 ⟨x, rfl, x0, x1, d2, g2⟩
    have T2 := T1.dice d2 g2
    clear L2 T1 d2 g2
    go_wp2_with fail
    refine (known x u2).mono ?_
    rintro e u3 ⟨S, sn, sc, R, rn, rc, D, rfl, oS, hne, hO, hM, b3⟩
    have z2 := T2.rN.lt
    have T3 := T2.over (b3.mono (by omega))
    have own := (hO p (by omega)).lower (show w.heap.size + 1 ≤ u2.heap.size by omega)
    have sS : RdQ u3 (OutR u3 p (blk R)) sI [.slice S sn sc] ([2, 1, 0] : List Int) := rdq_own oS fun b h1 h2 h3 => ⟨h2, by omega, fun e => hne (by rw [h3]; exact e)⟩
    have cN : u3.cell? ⟨w.heap.size, 0, none⟩ = some (.slice none 0 0) := T3.rN.cell 0
    have cN1 : u3.cell? ⟨w.heap.size, 1, none⟩ = some (.slice none 0 0) := T3.rN.cell 1
    have fN : u3.frozen? ⟨w.heap.size, 0, none⟩ = false := T3.rN.free 0
    have fN1 : u3.frozen? ⟨w.heap.size, 1, none⟩ = false := T3.rN.free 1
    have F := Lib.hid (sys_result T3 sS own (by simp) hM)
    clear T3 T2 b3 hO own sS oS
    go_wp2
    exact bodyPost_ret (v := .agg #[.slice S sn sc, .slice R rn rc]) (by simp [results, Tryz.results110, go_sem, cN, cN1]) rfl F.out
  | false =>
    have L2 := Lib.hid (drawSig p A n c u1 T1.d)
    go_wp2_with fail
    refine L2.out.mono ?_
    rintro e u2 ⟨S, sn, sc, sg, rfl, oS, hG, d2, g2⟩
    have T2 := T1.dice d2 g2
    have hars := good_arities hG
    have hsl := Own.len oS
    have hn1 : 1 ≤ sn := by have := hG.1; omega
    have hn4 : sn ≤ 4 := by have := hG.2.1; omega
    have h9 : sg.length ≤ 9 := by omega
    have z1 := T1.rN.lt
    have z2 := T2.rN.lt
    obtain ⟨o, ho⟩ : ∃ o, u2.heap.size = o := ⟨_, rfl⟩
    obtain ⟨W3, hW3⟩ : ∃ W3, W3 = u2.alloc (.cells #[.slice S sn sc, .slice none 0 0] 29) := ⟨_, rfl⟩
    have T3 : YA w p A n c o S sn sc sg none 0 0 [] W3 := by
      have bb : Below u2.heap.size u2 W3 := by rw [hW3]; exact (Below.refl _ _).alloc (Nat.le_refl _) _
      have hSS : RdQ u2 (OutR u2 p (blk none)) sI [.slice S sn sc] sg := rdq_own oS fun b h1 h2 _ => ⟨h2, by omega, fun e => by cases e⟩
      exact ⟨T2.over (bb.mono (by omega)), by rw [hW3, ← ho]; exact Row.new _ _ _, outR_below hSS bb, OwnQ.nil _ _ _ _ _, (fun e => by cases e), by omega⟩
    have HW3 := Lib.hid hW3
    have HO := Lib.hid ho
    have L3 := Lib.hid (below p A n c 4 W3 T3.z.d (by omega) (by omega))
    clear L2 T1 T2 d2 g2 oS hG hW3 ho hsl
    go_wp2_with fail
    rw [← HW3.out, HO.out]
    refine L3.out.mono ?_
    rintro e u4 ⟨x, rfl, x0, x1, d4, g4⟩
    have T4 := T3.dice d4 g4
    obtain ⟨q, rfl⟩ := Int.eq_ofNat_of_zero_le x0
    have HH := Lib.hid (show HeadY w p A n c o S sn sc sg (.int .i64 (q : Int)) u4 from ⟨q, none, 0, 0, [], rfl, by omega, small_nil _, T4⟩)
    clear T3 T4 d4 g4 L3 HW3 HO x0 x1
    go_wp2_with fail
    go_loopw [4] (fun k wr => HeadY w p A n c o S sn sc sg k wr) (fun k _ => (intOf k).toNat)
    case atStart => exact HH.out
    case round =>
      obtain ⟨q, R, rn, rc, D, rfl, hq, hD, T⟩ := hrel
      clear HH
      have cV : wr.cell? ⟨o, 0, none⟩ = some (.slice S sn sc) := T.rO.cell 0
      have cR : wr.cell? ⟨o, 1, none⟩ = some (.slice R rn rc) := T.rO.cell 1
      cases q with
      | zero =>
        have cN : wr.cell? ⟨w.heap.size, 0, none⟩ = some (.slice none 0 0) := T.z.rN.cell 0
        have cN1 : wr.cell? ⟨w.heap.size, 1, none⟩ = some (.slice none 0 0) := T.z.rN.cell 1
        have fN : wr.frozen? ⟨w.heap.size, 0, none⟩ = false := T.z.rN.free 0
        have fN1 : wr.frozen? ⟨w.heap.size, 1, none⟩ = false := T.z.rN.free 1
        have F := Lib.hid (sys_result T.z T.s T.own h9 (small_wider hD (show rn ≤ 3 by omega)))
        clear T
        go_wp2
        exact bodyPost_ret (v := .agg #[.slice S sn sc, .slice R rn rc]) (by simp [results, Tryz.results110, go_sem, cN, cN1]) rfl F.out
      | succ q =>
        have e0 : (0 : Int) < ((q + 1 : Nat) : Int) := by omega
        have T6 := T.drew
        clear T
        go_wp2_with fail
        go_region_law (first
          | (refine stepQ1 rfl _ _ 27 145 sRule _ 48 Tryz.underlying27 info_RuleS rfl (by omega) rfl p (w.heap.size + 1) R rn rc D (by simp [Act.eval, Act.put]) (T7.alloc _).own w7.heap.size 1 [.slice a1 n1 c1, .slice a2 n2 c2] ((xs, ys) : List Int × List Int) (by simp [Act.eval, Act.put]) (fun i hi => by match i, hi with | 0, _ => exact (Row.new _ _ _).cell 0 | 1, _ => exact (Row.new _ _ _).cell 1) (outR_below RX ((Below.refl _ _).alloc (Nat.le_refl _) _)) (by omega) (by simp; omega) ?_; intro O' oc' w8 ho8 hg8 hat8 hlt8; have r8 := Row.away (T7.alloc _).rO hg8 T7.hR; have cV8 : w8.cell? ⟨o, 0, none⟩ = some (.slice S sn sc) := r8.cell 0; have cR8 : w8.cell? ⟨o, 1, none⟩ = some (.slice R rn rc) := r8.cell 1; have fV8 : w8.frozen? ⟨o, 1, none⟩ = false := r8.free 1)
          | (go_simp; go_at_call 149; refine (drawRule p A n c S sn sc sg _ T6.z.d (rd_of T6.s) hars hn1 (by omega)).mono ?_; rintro e w7 ⟨a1, n1, c1, a2, n2, c2, xs, ys, rfl, rx, hx1, hx2, d7, g7⟩; have T7 := T6.dice d7 g7; have RX : RdQ w7 (OutR w7 p (blk R)) sRule [.slice a1 n1 c1, .slice a2 n2 c2] ((xs, ys) : List Int × List Int) := (rx.mono fun b hb => ⟨hb.2, (by have h5 := hb.1; have h6 := T6.z.rN.lt; omega), fun e => by have h5 := hb.1; have h6 := (T6.own.ge b e.symm).2; omega⟩); have cV7 : w7.cell? ⟨o, 0, none⟩ = some (.slice S sn sc) := T7.rO.cell 0; have cR7 : w7.cell? ⟨o, 1, none⟩ = some (.slice R rn rc) := T7.rO.cell 1; have zV7 : o < w7.heap.size := T7.rO.lt; have zW7 : w.heap.size < w7.heap.size := T7.z.rN.lt))
        all_goals
          have T8 := YA.put (T7.alloc _) ho8 hg8 hat8
          have F := Lib.hid (show HeadY w p A n c o S sn sc sg (.int .i64 (q : Int)) _ from ⟨q, _, _, _, _, rfl, by omega, small_app hD (by omega) (by omega), T8⟩)
          clear T8 T7 T6 ho8 hg8 hat8 hlt8 r8 d7 g7 cV7 cR7 RX rx
          go_wp2
          go_roundw
          case rel => first | exact F.out | simpa using F.out
          case measure => simp [intOf]
end Go.Proofs.YtpcnjcgglonifaaGreat.drawSys
end

section
namespace Go.Proofs.YtpcnjcgglonifaaGreat.drawSysAny
open Go.RowKit base ints sig term cursor marks app appAt sym segs dice drawSig drawTerm drawAny drawSub drawS drawX drawRule drawKnown drawSys compImpl
open shape (Sh Dat nc dft sI sz)
open kindsR (sRule info_RuleS)
set_option maxRecDepth 100000

section
variable {w : World} {p : Nat} {A : Option Addr} {n c : Nat} {o : Nat} {S : Option Addr} {sn sc : Nat} {sg : List Int} {R : Option Addr} {rn rc : Nat} {D : List (Dat sRule)} {wr w' : World}
theorem YA.sig {S' : Option Addr} {sn' sc' : Nat} {xs : List Int} {base : Nat} (t : YA w p A n c o S sn sc sg R rn rc D wr) (h : Own wr base (.slice S' sn' sc') xs) (hb : ∀ k, blk R = some k → k < base) (hp : p < base) :
    YA w p A n c o S' sn' sc' xs R rn rc D (wr.setCell ⟨o, 0, none⟩ (.slice S' sn' sc')) := by
  have h1 := t.ho
  have hS : RdQ wr (OutR wr p (blk R)) sI [.slice S' sn' sc'] xs := rdq_own h fun b h1 h2 _ => ⟨h2, by omega, fun e => by have := hb b e.symm; omega⟩
  have hbb : Below (w.heap.size + 1) wr (wr.setCell ⟨o, 0, none⟩ (.slice S' sn' sc')) := (Below.refl _ _).setCell (p := ⟨o, 0, none⟩) (by show w.heap.size + 1 ≤ o; omega) _
  exact ⟨t.z.over hbb, t.rO.put 0 _, ints_put hS t.rO 0 _, ownQ_put t.own t.rO t.hR 0 _, t.hR, t.ho⟩
theorem lit_rule (x y : Int) (t : YA w p A n c o S sn sc sg R rn rc D wr) : RdQ ((wr.alloc (.cells #[.int .i64 x] 2)).alloc (.cells #[.int .i64 y] 2)) (OutR ((wr.alloc (.cells #[.int .i64 x] 2)).alloc (.cells #[.int .i64 y] 2)) p (blk R)) sRule [.slice (some ⟨wr.heap.size, 0, none⟩) 1 1, .slice (some ⟨wr.heap.size + 1, 0, none⟩) 1 1] (([x], [y]) : List Int × List Int) := by
  have hp := t.z.hp
  have hz := t.z.rN.lt
  have hne : ∀ g, wr.heap.size ≤ g → some g ≠ blk R := fun g hg e => by have := (t.own.ge g e.symm).2; omega
  refine RdQ.cat (ca := [_]) (cb := [_]) ?_ ?_
  · refine lit_seg (xs := [x]) (g := wr.heap.size) ?_ (by simp) ⟨by simp only [sz_alloc]; omega, by omega, hne _ (Nat.le_refl _)⟩
    exact row_alloc (row_top rfl)
  · refine lit_seg (xs := [y]) (g := wr.heap.size + 1) ?_ (by simp) ⟨by simp only [sz_alloc]; omega, by omega, hne _ (Nat.le_succ _)⟩
    exact row_top (by simp only [sz_alloc])
theorem ownQ_some {lo : Nat} {e : TypeId} (h : OwnQ wr p lo e sRule R rn rc D) (h1 : 1 ≤ rn) : ∃ g, R = some ⟨g, 0, none⟩ := by
  obtain ⟨_, vs, ho, _⟩ := h
  rcases ho.2 with ⟨e1, h0⟩ | ⟨g, cap, cur, e1, _⟩
  · omega
  · injection e1 with e1 _ _; exact ⟨g, e1⟩
theorem put_any {A' : Option Addr} {rc' : Nat} {x : Dat sRule} (t : YA w p A n c o S sn sc sg R rn rc D wr) (hown : OwnQ w' p (w.heap.size + 1) 145 sRule A' (rn + 1) rc' (D ++ [x])) (hg : wr.grownBy w' (blk R)) (hat : blk A' = blk R ∨ blk A' = some wr.heap.size) :
    w'.cell? ⟨o, 0, none⟩ = some (.slice S sn sc) ∧ w'.cell? ⟨o, 1, none⟩ = some (.slice R rn rc) ∧ w'.frozen? ⟨o, 1, none⟩ = false ∧ Row w' w.heap.size 29 #[.slice none 0 0, .slice none 0 0] ∧ YA w p A n c o S sn sc sg A' (rn + 1) rc' (D ++ [x]) (w'.setCell ⟨o, 1, none⟩ (.slice A' (rn + 1) rc')) := by
  obtain ⟨g', rfl⟩ := ownQ_some hown (by omega)
  have hO := Row.away t.rO hg t.hR
  refine ⟨hO.cell 0, hO.cell 1, hO.free 1, Row.away t.z.rN hg (fun e => by have := (t.own.ge _ e).1; omega), YA.put t hown hg ?_⟩
  rcases hat with e | e
  · exact .inl e.symm
  · have e : some g' = some wr.heap.size := e
    injection e with e
    exact .inr e
end
theorem rule_two {u v : World} {p N : Nat} {r : Option Nat} {O P : Option Addr} {on oc pn pc : Nat} {xs ys : List Int} (ra : Go.Proofs.YtpcnjcgglonifaaGreat.drawTerm.Rd u p u.heap.size O on xs) (rb : Go.Proofs.YtpcnjcgglonifaaGreat.drawTerm.Rd v p v.heap.size P pn ys) (h1 : on ≤ oc) (h2 : oc ≤ 9223372036854775807) (h3 : O = none → oc = 0) (k1 : pn ≤ pc) (k2 : pc ≤ 9223372036854775807) (k3 : P = none → pc = 0)
    (g : u.grownBy v (some p)) (hr : ∀ k, r = some k → k < N) (hNu : N ≤ u.heap.size) (hO : ∀ k, blk O = some k → N ≤ k) (hP : ∀ k, blk P = some k → u.heap.size ≤ k) : RdQ v (OutR v p r) sRule [.slice O on oc, .slice P pn pc] ((xs, ys) : List Int × List Int) := by
  have ra' := (ra.grown g (Nat.le_refl _)).more g.size
  have one : ∀ {Z : Option Addr} {zn zc : Nat} {zs : List Int}, Go.Proofs.YtpcnjcgglonifaaGreat.drawTerm.Rd v p v.heap.size Z zn zs → Cap Z zn zc → (∀ k, blk Z = some k → N ≤ k) → RdQ v (OutR v p r) sI [.slice Z zn zc] zs := fun {Z zn zc zs} h hc hz =>
    rdq_seg h.1 hc fun hn => by
      obtain ⟨b, off, e, hb, hp, hcell⟩ := h.2 hn
      exact ⟨b, off, e, ⟨hb, hp, fun e2 => by have := hz b (by rw [e]; rfl); have := hr b e2.symm; omega⟩, hcell⟩
  exact RdQ.cat (ca := [_]) (cb := [_]) (one ra' ⟨h1, h2, h3⟩ hO) (one rb ⟨k1, k2, k3⟩ (fun k hk => Nat.le_trans hNu (hP k hk)))
def HeadM (w : World) (p : Nat) (A : Option Addr) (n c : Nat) (o : Nat) (S : Option Addr) (sn sc : Nat) (sg : List Int) (g : Nat) (wr : World) : Prop :=
  ∃ (R : Option Addr) (rn rc : Nat) (D : List (Dat sRule)), rn + g = 13 ∧ SmallD 13 D ∧ YA w p A n c o S sn sc sg R rn rc D wr

set_option maxHeartbeats 4000000 in
theorem drawSysAny (p : Nat) (A : Option Addr) (n c : Nat) (w : World) (hd : Dice w p A n c) :
    Calls Tryz.prog 61 #[.pointer (some ⟨p, 0, none⟩)] w (AnsSys w p A n c 13) := by
  obtain ⟨W, hW⟩ : ∃ W, W = w.alloc (.cells #[.slice none 0 0, .slice none 0 0] 29) := ⟨_, rfl⟩
  have T : Y0 w p A n c W := by rw [hW]; exact ⟨hd.alloc _, Row.new _ _ _, World.grownBy_alloc _ _ _, hd.lt⟩
  have zW : W.heap.size = w.heap.size + 1 := by rw [hW]; simp
  have HW := Lib.hid hW
  have hp := hd.lt
  clear hW hd
  have L1 := Lib.hid (drawSys p A n c W T.d)
  go_enter Tryz.func61, Tryz.ntmps61
  go_wp2_with fail
  rw [← HW.out]
  refine L1.out.mono ?_
  rintro e u2 ⟨S, sn, sc, sg, R, rn, rc, D, rfl, sS, h9, own, hM, d1, g1⟩
  rw [zW] at own
  have T2 := T.dice d1 g1
  have z2 := T2.rN.lt
  obtain ⟨o, ho⟩ : ∃ o, u2.heap.size = o := ⟨_, rfl⟩
  obtain ⟨W3, hW3⟩ : ∃ W3, W3 = u2.alloc (.cells #[.slice S sn sc, .slice R rn rc] 29) := ⟨_, rfl⟩
  have T3 : YA w p A n c o S sn sc sg R rn rc D W3 := by
    have bb : Below u2.heap.size u2 W3 := by rw [hW3]; exact (Below.refl _ _).alloc (Nat.le_refl _) _
    exact ⟨T2.over (bb.mono (by omega)), by rw [hW3, ← ho]; exact Row.new _ _ _, outR_below sS bb, own.below bb, (fun e => by have := (own.ge _ e).2; omega), by omega⟩
  have HW3 := Lib.hid hW3
  have HO := Lib.hid ho
  have L3 := Lib.hid (once p A n c 15 W3 T3.z.d (by omega) (by omega))
  have hDl := Lib.hid own.1
  have hrn : rn ≤ 3 := by have := own.1; have := hM.1; omega
  clear L1 T T2 d1 g1 sS own hW3 ho HW zW
  go_wp2_with fail
  rw [← HW3.out, HO.out]
  refine L3.out.mono ?_
  rintro e u4 ⟨b, rfl, d4, g4⟩
  have T4 := T3.dice d4 g4
  clear T3 d4 g4 L3 HW3 HO
  cases b with
  | false =>
    have cN : u4.cell? ⟨w.heap.size, 0, none⟩ = some (.slice none 0 0) := T4.z.rN.cell 0
    have cN1 : u4.cell? ⟨w.heap.size, 1, none⟩ = some (.slice none 0 0) := T4.z.rN.cell 1
    have fN : u4.frozen? ⟨w.heap.size, 0, none⟩ = false := T4.z.rN.free 0
    have fN1 : u4.frozen? ⟨w.heap.size, 1, none⟩ = false := T4.z.rN.free 1
    have cV : u4.cell? ⟨o, 0, none⟩ = some (.slice S sn sc) := T4.rO.cell 0
    have cR : u4.cell? ⟨o, 1, none⟩ = some (.slice R rn rc) := T4.rO.cell 1
    have F := Lib.hid (sys_result T4.z T4.s T4.own h9 (small_wider hM (show 3 ≤ 13 by omega)))
    clear T4
    go_wp2
    exact bodyPost_ret (v := .agg #[.slice S sn sc, .slice R rn rc]) (by simp [results, Tryz.results61, go_sem, cN, cN1]) rfl F.out
  | true =>
    have L4 := Lib.hid (below p A n c 4 u4 T4.z.d (by omega) (by omega))
    go_wp2_with fail
    refine L4.out.mono ?_
    rintro e u5 ⟨x, rfl, x0, x1, d5, g5⟩
    have T5 := T4.dice d5 g5
    clear T4 d5 g5 L4
    have cV : u5.cell? ⟨o, 0, none⟩ = some (.slice S sn sc) := T5.rO.cell 0
    have cR : u5.cell? ⟨o, 1, none⟩ = some (.slice R rn rc) := T5.rO.cell 1
    have zne : ¬ o = w.heap.size := by have := T5.ho; omega
    by_cases hx0 : x = 0
    · subst hx0
      have T6 := T5.drew
      clear x0 x1 T5
      go_wp2_with fail
      go_region_law (first
        | (refine stepQ1 rfl _ _ 27 145 sRule _ 48 Tryz.underlying27 info_RuleS rfl (by omega) rfl p (w.heap.size + 1) R rn rc D (by simp [Act.eval, Act.put]) (T8.alloc _).own w8.heap.size 1 [.slice O on oc, .slice P pn pc] ((xs, ys) : List Int × List Int) (by simp [Act.eval, Act.put]) (fun i hi => by match i, hi with | 0, _ => exact (Row.new _ _ _).cell 0 | 1, _ => exact (Row.new _ _ _).cell 1) (outR_below RX ((Below.refl _ _).alloc (Nat.le_refl _) _)) (by omega) (by simp; omega) ?_; intro O' oc' w9 ho9 hg9 hat9 hlt9; have r9 := Row.away (T8.alloc _).rO hg9 T8.hR; have cV9 : w9.cell? ⟨o, 0, none⟩ = some (.slice S sn sc) := r9.cell 0; have cR9 : w9.cell? ⟨o, 1, none⟩ = some (.slice R rn rc) := r9.cell 1; have fV9 : w9.frozen? ⟨o, 1, none⟩ = false := r9.free 1)
        | (go_simp; go_at_call 63; refine (drawAnyN p A n c S sn sc sg _ T7.z.d (rd_of T7.s) (by have := (rd_of T7.s).1; omega)).mono ?_; rintro e w8 ⟨P, pn, pc, ys, rfl, rb, k1, k2, k3, k4, d8, g8, hnew8⟩; have T8 := T7.dice d8 g8; have RX := rule_two (pc := pc) ra rb h1 h2 h3 k1 k2 k3 g8 (fun k hk => (T6.own.ge k hk).2) g7.size hnew7 hnew8; have cV8 : w8.cell? ⟨o, 0, none⟩ = some (.slice S sn sc) := T8.rO.cell 0; have cR8 : w8.cell? ⟨o, 1, none⟩ = some (.slice R rn rc) := T8.rO.cell 1; have zV8 : o < w8.heap.size := T8.rO.lt; have zW8 : w.heap.size < w8.heap.size := T8.z.rN.lt)
        | (go_simp; go_at_call 63; refine (drawAnyN p A n c S sn sc sg _ T6.z.d (rd_of T6.s) (by have := (rd_of T6.s).1; omega)).mono ?_; rintro e w7 ⟨O, on, oc, xs, rfl, ra, h1, h2, h3, h4, d7, g7, hnew7⟩; have T7 := T6.dice d7 g7; have cV7 : w7.cell? ⟨o, 0, none⟩ = some (.slice S sn sc) := T7.rO.cell 0; have cR7 : w7.cell? ⟨o, 1, none⟩ = some (.slice R rn rc) := T7.rO.cell 1; have zV7 : o < w7.heap.size := T7.rO.lt; have zW7 : w.heap.size < w7.heap.size := T7.z.rN.lt))
      all_goals
        have T9 := YA.put (T8.alloc _) ho9 hg9 hat9
        have cN9 : (w9.setCell ⟨o, 1, none⟩ (.slice (some ⟨O', 0, none⟩) (rn + 1) oc')).cell? ⟨w.heap.size, 0, none⟩ = some (.slice none 0 0) := T9.z.rN.cell 0
        have cN91 : (w9.setCell ⟨o, 1, none⟩ (.slice (some ⟨O', 0, none⟩) (rn + 1) oc')).cell? ⟨w.heap.size, 1, none⟩ = some (.slice none 0 0) := T9.z.rN.cell 1
        have fN9 : (w9.setCell ⟨o, 1, none⟩ (.slice (some ⟨O', 0, none⟩) (rn + 1) oc')).frozen? ⟨w.heap.size, 0, none⟩ = false := T9.z.rN.free 0
        have fN91 : (w9.setCell ⟨o, 1, none⟩ (.slice (some ⟨O', 0, none⟩) (rn + 1) oc')).frozen? ⟨w.heap.size, 1, none⟩ = false := T9.z.rN.free 1
        have cW9 : (w9.setCell ⟨o, 1, none⟩ (.slice (some ⟨O', 0, none⟩) (rn + 1) oc')).cell? ⟨o, 0, none⟩ = some (.slice S sn sc) := T9.rO.cell 0
        have cW91 : (w9.setCell ⟨o, 1, none⟩ (.slice (some ⟨O', 0, none⟩) (rn + 1) oc')).cell? ⟨o, 1, none⟩ = some (.slice (some ⟨O', 0, none⟩) (rn + 1) oc') := T9.rO.cell 1
        have F := Lib.hid (sys_result T9.z T9.s T9.own h9 (small_wider (small_app hM (by rw [ra.1]; exact h4) (by rw [rb.1]; exact k4)) (show 3 + 1 ≤ 13 by omega)))
        clear T9 T8 T7 T6 ho9 hg9 hat9 hlt9 r9 d7 g7 d8 g8 cV7 cR7 cV8 cR8 RX ra rb
        go_wp2
        exact bodyPost_ret (v := .agg #[.slice S sn sc, .slice (some ⟨O', 0, none⟩) (rn + 1) oc']) (by simp [results, Tryz.results61, go_sem, cN9, cN91]) rfl F.out
    · by_cases hx1 : x = 1
      · subst hx1
        have L6 := Lib.hid (drawSigAny p A n c u5 T5.z.d)
        go_wp2_with fail
        refine L6.out.mono ?_
        rintro e u6 ⟨S', sn', sc', xs, rfl, oS, hsh, d6, g6⟩
        have T6 := T5.dice d6 g6
        have T8 := YA.sig T6 oS (fun k hk => (T5.own.ge k hk).2) (by have := T5.z.rN.lt; omega)
        have cV6 : u6.cell? ⟨o, 0, none⟩ = some (.slice S sn sc) := T6.rO.cell 0
        have cR6 : u6.cell? ⟨o, 1, none⟩ = some (.slice R rn rc) := T6.rO.cell 1
        have fV6 : u6.frozen? ⟨o, 0, none⟩ = false := T6.rO.free 0
        have cN8 : (u6.setCell ⟨o, 0, none⟩ (.slice S' sn' sc')).cell? ⟨w.heap.size, 0, none⟩ = some (.slice none 0 0) := T8.z.rN.cell 0
        have cN81 : (u6.setCell ⟨o, 0, none⟩ (.slice S' sn' sc')).cell? ⟨w.heap.size, 1, none⟩ = some (.slice none 0 0) := T8.z.rN.cell 1
        have fN8 : (u6.setCell ⟨o, 0, none⟩ (.slice S' sn' sc')).frozen? ⟨w.heap.size, 0, none⟩ = false := T8.z.rN.free 0
        have fN81 : (u6.setCell ⟨o, 0, none⟩ (.slice S' sn' sc')).frozen? ⟨w.heap.size, 1, none⟩ = false := T8.z.rN.free 1
        have cW8 : (u6.setCell ⟨o, 0, none⟩ (.slice S' sn' sc')).cell? ⟨o, 0, none⟩ = some (.slice S' sn' sc') := T8.rO.cell 0
        have cW81 : (u6.setCell ⟨o, 0, none⟩ (.slice S' sn' sc')).cell? ⟨o, 1, none⟩ = some (.slice R rn rc) := T8.rO.cell 1
        have F := Lib.hid (sys_result T8.z T8.s T8.own hsh (small_wider hM (show 3 ≤ 13 by omega)))
        clear T8 T6 T5 d6 g6 L6 oS
        go_wp2
        exact bodyPost_ret (v := .agg #[.slice S' sn' sc', .slice R rn rc]) (by simp [results, Tryz.results61, go_sem, cN8, cN81]) rfl F.out
      · by_cases hx2 : x = 2
        · subst hx2
          clear x0 x1 hx0 hx1 cV cR
          have HH := Lib.hid (show HeadM w p A n c o S sn sc sg (13 - rn) u5 from ⟨R, rn, rc, D, by omega, small_wider hM (by omega), T5⟩)
          clear T5 hM hDl
          go_wp2_with fail
          go_loopg [] (13 - rn) (fun g wr => HeadM w p A n c o S sn sc sg g wr)
          case atStart => exact HH.out
          case round =>
            clear HH hrn
            obtain ⟨R, rn, rc, D, hg13, hM, T⟩ := hrel
            have HG := Lib.hid hg13
            have hDl := Lib.hid T.own.1
            have cV : wr.cell? ⟨o, 0, none⟩ = some (.slice S sn sc) := T.rO.cell 0
            have cR : wr.cell? ⟨o, 1, none⟩ = some (.slice R rn rc) := T.rO.cell 1
            clear hg13
            by_cases hlt : rn < 13
            · have i1 : (rn : Int) < 13 := by omega
              have hgk := Lib.hid (show gk - 1 < gk ∧ rn + 1 + (gk - 1) = 13 by have := HG.out; omega)
              have LR := Lib.hid (lit_rule 2 2 T)
              have TA := ((T.alloc (.cells #[.int .i64 2] 2)).alloc (.cells #[.int .i64 2] 2)).alloc (.cells #[.slice (some ⟨wr.heap.size, 0, none⟩) 1 1, .slice (some ⟨wr.heap.size + 1, 0, none⟩) 1 1] 145)
              have zu := T.z.rN.lt
              have hM1 := Lib.hid (show SmallD 13 (D ++ [(([2], [2]) : List Int × List Int)]) from small_wider (small_app (M := rn) ⟨Nat.le_of_eq hDl.out, hM.2⟩ (by simp) (by simp)) (by omega))
              go_wp2_with (at_builtin; refine appQ1 rfl _ _ 27 145 sRule _ 48 Tryz.underlying27 info_RuleS rfl (by omega) rfl p (w.heap.size + 1) R rn rc D rfl TA.own (wr.heap.size + 1 + 1) 1 [.slice (some ⟨wr.heap.size, 0, none⟩) 1 1, .slice (some ⟨wr.heap.size + 1, 0, none⟩) 1 1] (([2], [2]) : List Int × List Int) rfl (fun i hi => by match i, hi with | 0, _ => exact (row_top (by simp only [sz_alloc])).cell 0 | 1, _ => exact (row_top (by simp only [sz_alloc])).cell 1) (outR_below LR.out ((Below.refl _ _).alloc (Nat.le_refl _) _)) (by omega) (by simp only [sz_alloc]; omega) ?_; intro A' c' w8 ho8 hg8 hat8 hb8; obtain ⟨cV8, cR8, fV8, rN8, T8⟩ := put_any TA ho8 hg8 hat8)
              have F := Lib.hid (show HeadM w p A n c o S sn sc sg (gk - 1) _ from ⟨A', rn + 1, c', _, hgk.out.2, hM1.out, T8⟩)
              clear T8 TA T ho8 hg8 hat8 hb8 LR hM1 hM
              go_wp2
              go_roundg (gk - 1)
              case measure => exact hgk.out.1
              case rel => exact F.out
            · have i1 : ¬ (rn : Int) < 13 := by omega
              have cN : wr.cell? ⟨w.heap.size, 0, none⟩ = some (.slice none 0 0) := T.z.rN.cell 0
              have cN1 : wr.cell? ⟨w.heap.size, 1, none⟩ = some (.slice none 0 0) := T.z.rN.cell 1
              have fN : wr.frozen? ⟨w.heap.size, 0, none⟩ = false := T.z.rN.free 0
              have fN1 : wr.frozen? ⟨w.heap.size, 1, none⟩ = false := T.z.rN.free 1
              have F := Lib.hid (sys_result T.z T.s T.own h9 hM)
              clear T hM
              go_wp2
              exact bodyPost_ret (v := .agg #[.slice S sn sc, .slice R rn rc]) (by simp [results, Tryz.results61, go_sem, cN, cN1]) rfl F.out
        · have e3 : x = 3 := by omega
          subst e3
          clear x0 x1 hx0 hx1 hx2
          have LR := Lib.hid (lit_rule (-1) (-1) T5)
          have TA := ((T5.alloc (.cells #[.int .i64 (-1)] 2)).alloc (.cells #[.int .i64 (-1)] 2)).alloc (.cells #[.slice (some ⟨u5.heap.size, 0, none⟩) 1 1, .slice (some ⟨u5.heap.size + 1, 0, none⟩) 1 1] 145)
          have zu := T5.z.rN.lt
          go_wp2_with (at_builtin; refine appQ1 rfl _ _ 27 145 sRule _ 48 Tryz.underlying27 info_RuleS rfl (by omega) rfl p (w.heap.size + 1) R rn rc D rfl TA.own (u5.heap.size + 1 + 1) 1 [.slice (some ⟨u5.heap.size, 0, none⟩) 1 1, .slice (some ⟨u5.heap.size + 1, 0, none⟩) 1 1] (([-1], [-1]) : List Int × List Int) rfl (fun i hi => by match i, hi with | 0, _ => exact (row_top (by simp only [sz_alloc])).cell 0 | 1, _ => exact (row_top (by simp only [sz_alloc])).cell 1) (outR_below LR.out ((Below.refl _ _).alloc (Nat.le_refl _) _)) (by omega) (by simp only [sz_alloc]; omega) ?_; intro A' c' w8 ho8 hg8 hat8 hb8; obtain ⟨cV8, cR8, fV8, rN8, T8⟩ := put_any TA ho8 hg8 hat8; have dN8 : w8.cell? ⟨w.heap.size, 0, none⟩ = some (.slice none 0 0) := rN8.cell 0; have dN81 : w8.cell? ⟨w.heap.size, 1, none⟩ = some (.slice none 0 0) := rN8.cell 1; have eN8 : w8.frozen? ⟨w.heap.size, 0, none⟩ = false := rN8.free 0; have eN81 : w8.frozen? ⟨w.heap.size, 1, none⟩ = false := rN8.free 1)
          have cN8 : (w8.setCell ⟨o, 1, none⟩ (.slice A' (rn + 1) c')).cell? ⟨w.heap.size, 0, none⟩ = some (.slice none 0 0) := T8.z.rN.cell 0
          have cN81 : (w8.setCell ⟨o, 1, none⟩ (.slice A' (rn + 1) c')).cell? ⟨w.heap.size, 1, none⟩ = some (.slice none 0 0) := T8.z.rN.cell 1
          have fN8 : (w8.setCell ⟨o, 1, none⟩ (.slice A' (rn + 1) c')).frozen? ⟨w.heap.size, 0, none⟩ = false := T8.z.rN.free 0
          have fN81 : (w8.setCell ⟨o, 1, none⟩ (.slice A' (rn + 1) c')).frozen? ⟨w.heap.size, 1, none⟩ = false := T8.z.rN.free 1
          have cW8 : (w8.setCell ⟨o, 1, none⟩ (.slice A' (rn + 1) c')).cell? ⟨o, 0, none⟩ = some (.slice S sn sc) := T8.rO.cell 0
          have cW81 : (w8.setCell ⟨o, 1, none⟩ (.slice A' (rn + 1) c')).cell? ⟨o, 1, none⟩ = some (.slice A' (rn + 1) c') := T8.rO.cell 1
          have F := Lib.hid (sys_result T8.z T8.s T8.own h9 (small_wider (small_app hM (by simp) (by simp)) (show 3 + 1 ≤ 13 by omega)))
          clear T8 TA T5 ho8 hg8 hat8 hb8 LR
          try go_wp2
          exact bodyPost_ret (v := .agg #[.slice S sn sc, .slice A' (rn + 1) c']) (by simp [results, Tryz.results61, go_sem, cN8, cN81, dN8, dN81, zne]) rfl F.out
end Go.Proofs.YtpcnjcgglonifaaGreat.drawSysAny
end

section
namespace Go.Proofs.YtpcnjcgglonifaaGreat.drawSysD
open Go.RowKit base ints sig term cursor marks app appAt sym segs dice drawTwo drawX drawRule drawKnown drawSys drawSysAny
open shape (Sh Dat nc dft sI sz)
open kindsR (sRule sSystem sRuleS)
set_option maxRecDepth 100000

theorem sz_small {M : Nat} {D : List (Dat sRule)} (h : SmallD M D) : sz sRuleS D ≤ M + M * 130 := by
  have h1 : ∀ x ∈ D, sz sRule x ≤ 130 := fun x hx => by
    obtain ⟨j, hj, rfl⟩ := List.mem_iff_getElem.1 hx
    obtain ⟨h2, h3⟩ := h.2 j
    rw [List.getD_eq_getElem?_getD, List.getElem?_eq_getElem hj] at h2 h3
    have h2 : ((D[j]).1 : List Int).length ≤ 65 := h2
    have h3 : ((D[j]).2 : List Int).length ≤ 65 := h3
    show sz sI (D[j]).1 + sz sI (D[j]).2 ≤ 130
    rw [Go.Proofs.YtpcnjcgglonifaaGreat.shape.sz_ints, Go.Proofs.YtpcnjcgglonifaaGreat.shape.sz_ints]
    omega
  have h2 : ∀ l : List (Dat sRule), (∀ x ∈ l, sz sRule x ≤ 130) → (l.map (sz sRule)).sum ≤ l.length * 130 := fun l => by
    induction l with
    | nil => intro _; exact Nat.le_refl _
    | cons x l ih =>
      intro hx
      have a := hx x (List.mem_cons_self ..)
      have b := ih fun y hy => hx y (List.mem_cons_of_mem _ hy)
      rw [List.map_cons, List.sum_cons, List.length_cons, Nat.add_mul]
      omega
  have h3 := h2 D h1
  have h4 := Nat.mul_le_mul_right 130 h.1
  show D.length + (D.map (sz sRule)).sum ≤ _
  have := h.1
  omega
end Go.Proofs.YtpcnjcgglonifaaGreat.drawSysD
end

section
namespace Go.Proofs.YtpcnjcgglonifaaGreat.drawSA
open Go.RowKit base ints sig term cursor termOk marks app appAt sym segs segsHelp dice drawSig drawTerm drawAny drawPair drawOne drawSub drawS
set_option maxRecDepth 100000

theorem OwnR.setNe {w : World} {p lo N n c : Nat} {A : Option Addr} {xss : List (List Int)} {a : Option Addr} {l k : Nat} (h : OwnR w p lo A n c xss) (hN : blk A ≠ some N) (hc : w.cell? ⟨N, 0, none⟩ = some (.slice a l k)) (u : Value) : OwnR (w.setCell ⟨N, 0, none⟩ u) p lo A n c xss := by
  obtain ⟨h1, vs, h2, h3⟩ := h
  refine ⟨h1, vs, World.ownsRow.kept h2 (grown_put (World.grownBy.refl w _) 0 u) (.inr (by rw [blk_own]; exact hN)), fun j hj => ?_⟩
  obtain ⟨A', n', c', e, hr, hcap, hne⟩ := h3 j hj
  exact ⟨A', n', c', e, (Rd.other hr hc u).more (by simp), hcap, hne⟩

structure D0 (w : World) (p : Nat) (A : Option Addr) (n c : Nat) (S : Option Addr) (sn sc : Nat) (sg : List Int) (wr : World) : Prop where
  d : Dice wr p A n c
  rS : Row wr w.heap.size 26 #[.slice S sn sc]
  rR : Row wr (w.heap.size + 1) 59 #[.slice none 0 0]
  s : Rd wr p w.heap.size S sn sg
  g : w.grownBy wr (some p)
  hp : p < w.heap.size
structure DA (w : World) (p : Nat) (A : Option Addr) (n c : Nat) (S : Option Addr) (sn sc : Nat) (sg : List Int) (o : Nat) (B : Option Addr) (m cB : Nat) (xss : List (List Int)) (wr : World) : Prop where
  z : D0 w p A n c S sn sc sg wr
  rO : Row wr o 59 #[.slice B m cB]
  own : OwnR wr p (w.heap.size + 2) B m cB xss
  hB : blk B ≠ some o
  ho : w.heap.size + 1 < o
section
variable {w : World} {p : Nat} {A : Option Addr} {n c : Nat} {S : Option Addr} {sn sc : Nat} {sg : List Int} {o : Nat} {B : Option Addr} {m cB : Nat} {xss : List (List Int)} {wr w' : World}
theorem D0.dice (t : D0 w p A n c S sn sc sg wr) (d : Dice w' p A n c) (hg : wr.grownBy w' (some p)) : D0 w p A n c S sn sc sg w' :=
  ⟨d, Row.away t.rS hg (fun e => by injection e; have := t.hp; omega), Row.away t.rR hg (fun e => by injection e; have := t.hp; omega), t.s.grown hg t.g.size, grown_trans t.g hg, t.hp⟩
theorem D0.next (t : D0 w p A n c S sn sc sg wr) (hb : Below wr.heap.size wr w') : D0 w p A n c S sn sc sg w' :=
  ⟨t.d.next hb, t.rS.next hb, t.rR.next hb, t.s.below hb t.g.size, grown_over t.g hb t.g.size, t.hp⟩
theorem D0.over {o : Nat} (t : D0 w p A n c S sn sc sg wr) (hb : Below (w.heap.size + 2) wr w') : D0 w p A n c S sn sc sg w' :=
  ⟨t.d.keep (hb.mono (by have := t.hp; omega)), t.rS.below hb (by omega), t.rR.below hb (by omega), t.s.below hb (by omega), grown_over t.g hb (by omega), t.hp⟩
theorem DA.dice (t : DA w p A n c S sn sc sg o B m cB xss wr) (d : Dice w' p A n c) (hg : wr.grownBy w' (some p)) : DA w p A n c S sn sc sg o B m cB xss w' :=
  ⟨t.z.dice d hg, Row.away t.rO hg (fun e => by injection e; have := t.z.hp; have := t.ho; omega), t.own.dice hg (by have := t.z.hp; omega), t.hB, t.ho⟩
theorem DA.next (t : DA w p A n c S sn sc sg o B m cB xss wr) (hb : Below wr.heap.size wr w') : DA w p A n c S sn sc sg o B m cB xss w' :=
  ⟨t.z.next hb, t.rO.next hb, t.own.below hb, t.hB, t.ho⟩
theorem DA.alloc (t : DA w p A n c S sn sc sg o B m cB xss wr) (x : Obj) : DA w p A n c S sn sc sg o B m cB xss (wr.alloc x) := t.next ((Below.refl _ _).alloc (Nat.le_refl _) _)
theorem DA.drew (t : DA w p A n c S sn sc sg o B m cB xss wr) : DA w p A n c S sn sc sg o B m cB xss wr.drew := t.next ⟨rfl, rfl, rfl, Nat.le_refl _, fun _ _ => rfl⟩
theorem DA.put {B' : Option Addr} {m' cB' : Nat} {yss : List (List Int)} (t : DA w p A n c S sn sc sg o B m cB xss wr) (hg : wr.grownBy w' (blk B)) (ho : OwnR w' p (w.heap.size + 2) B' m' cB' yss) (hat : blk B' = blk B ∨ blk B' = some wr.heap.size) : DA w p A n c S sn sc sg o B' m' cB' yss (w'.setCell ⟨o, 0, none⟩ (.slice B' m' cB')) := by
  have h2 := t.ho
  have hz := t.rO.lt
  have hge := t.own.ge
  have hO := Row.away t.rO hg t.hB
  have hb : Below (w.heap.size + 2) wr w' := (Below.refl _ _).grown hg (by omega) (fun k hk => (hge k hk).1)
  have hb2 : Below (w.heap.size + 2) wr (w'.setCell ⟨o, 0, none⟩ (.slice B' m' cB')) := hb.setCell (p := ⟨o, 0, none⟩) (by show w.heap.size + 2 ≤ o; omega) _
  have hB' : blk B' ≠ some o := by
    rcases hat with e | e
    · rw [e]; exact t.hB
    · rw [e]; intro e2; injection e2; omega
  exact ⟨D0.over (o := o) t.z hb2, hO.put 0 _, OwnR.setNe ho hB' (hO.cell 0) _, hB', h2⟩
theorem DA.result {M L : Nat} (t : DA w p A n c S sn sc sg o B m cB xss wr) (hs : Small M L m xss) : AnsSub w p A n c M L (.returned (.agg #[.slice B m cB])) (wr.setCell ⟨w.heap.size + 1, 0, none⟩ (.slice B m cB)) := by
  have h1 := t.z.hp
  have hS := Below.setCell (Below.refl (w.heap.size + 1) wr) (p := ⟨w.heap.size + 1, 0, none⟩) (Nat.le_refl _) (.slice B m cB)
  have hne : blk B ≠ some (w.heap.size + 1) := fun e => by have := (t.own.ge _ e).1; omega
  exact ⟨B, m, cB, xss, rfl, (OwnR.setNe t.own hne (t.z.rR.cell 0) _).lower (by omega), hs, t.z.d.keep (hS.mono (by omega)), grown_over t.z.g hS (by omega)⟩
theorem D0.empty {M L : Nat} (t : D0 w p A n c S sn sc sg wr) : AnsSub w p A n c M L (.returned (.agg #[.slice none 0 0])) (wr.setCell ⟨w.heap.size + 1, 0, none⟩ (.slice none 0 0)) := by
  have h1 := t.hp
  have hS := Below.setCell (Below.refl (w.heap.size + 1) wr) (p := ⟨w.heap.size + 1, 0, none⟩) (Nat.le_refl _) (.slice none 0 0)
  exact ⟨none, 0, 0, [], rfl, OwnR.nil _ _ _, small_nil _ _, t.d.keep (hS.mono (by omega)), grown_over t.g hS (by omega)⟩
end
theorem elem_new {w : World} {p N : Nat} {r : Option Nat} {O : Option Addr} {on oc : Nat} {ys : List Int} (h : Rd w p w.heap.size O on ys) (h1 : on ≤ oc) (h2 : oc ≤ 9223372036854775807) (h3 : O = none → oc = 0) (hnew : ∀ k, blk O = some k → N ≤ k) (hr : ∀ k, r = some k → k < N) : Elem w p r (.slice O on oc) ys :=
  ⟨O, on, oc, rfl, h, ⟨h1, h2, h3⟩, fun hn e => by
    obtain ⟨b, off, e1, _⟩ := h.2 hn
    have e2 : blk O = some b := by rw [e1]; rfl
    have q1 := hnew b e2
    have q2 := hr b (by rw [← e]; exact e2)
    omega⟩
theorem one_own (w : World) (y : Int) : Own (w.alloc (.cells #[.int .i64 y] 2)) w.heap.size (.slice (some ⟨w.heap.size, 0, none⟩) 1 1) [y] :=
  Own.of_row (Row.new _ _ _) rfl rfl (Nat.le_refl _) (by omega) (Nat.le_refl _) (fun j hj => by
    have : j = 0 := by omega
    subst this
    rfl)
theorem rep_nil (k j : Nat) : (List.replicate k ([] : List Int)).getD j [] = [] := by
  rw [List.getD_eq_getElem?_getD, List.getElem?_replicate]
  split <;> rfl
theorem ownR_made {w : World} {p lo k : Nat} (hlo : lo ≤ w.heap.size) (hk : k ≤ 1048576) : OwnR (w.alloc (.cells (madeCells #[.slice none 0 0] k) 24)) p lo (some ⟨w.heap.size, 0, none⟩) k k (List.replicate k []) := by
  refine ⟨by simp, _, rowsOf (Row.new _ _ _) (size_madeCells _ _) (Nat.le_refl _) (by omega) hlo, fun j hj => ?_⟩
  have e : ((madeCells #[Value.slice none 0 0] k).toList.take k).getD j undef = .slice none 0 0 := by
    simp [madeCells, List.getD, hj, Nat.mod_one]
  rw [e, rep_nil k j]
  exact ⟨none, 0, 0, rfl, Rd.none_, ⟨Nat.le_refl _, by omega, fun _ => rfl⟩, fun h => absurd h (by omega)⟩
theorem small_made {k L : Nat} (hk : k ≤ 25) : Small 25 L k (List.replicate k []) := ⟨hk, fun j => by
  rw [rep_nil k j]
  simp⟩

set_option maxHeartbeats 8000000 in
theorem drawAnyS (p : Nat) (A : Option Addr) (n c : Nat) (S : Option Addr) (sn sc : Nat) (sg : List Int) (w : World) (hd : Dice w p A n c) (hr : Rd w p w.heap.size S sn sg) (hsn : sn ≤ 256) :
    Calls Tryz.prog 76 #[.pointer (some ⟨p, 0, none⟩), .agg #[.slice S sn sc]] w (AnsSub w p A n c 25 65) := by
  obtain ⟨W, hW⟩ : ∃ W, W = (w.alloc (.cells #[.slice S sn sc] 26)).alloc (.cells #[.slice none 0 0] 59) := ⟨_, rfl⟩
  have T : D0 w p A n c S sn sc sg W := by
    have b1 : Below w.heap.size w W := by rw [hW]; exact ((Below.refl _ _).alloc (Nat.le_refl _) _).alloc (by simp) _
    refine ⟨hd.next b1, ?_, ?_, hr.below b1 (Nat.le_refl _), grown_below b1 _, hd.lt⟩
    · rw [hW]; exact (Row.new _ _ _).alloc _
    · rw [hW]; have := Row.new (w.alloc (.cells #[.slice S sn sc] 26)) 59 #[.slice none 0 0]; simpa using this
  have HW := Lib.hid hW
  have hp := hd.lt
  have hsl := Lib.hid hr.1
  have L1 := Lib.hid (specSigOk S sn sc sg W (T.s.more T.g.size).seg (by omega))
  have cS : W.cell? ⟨w.heap.size, 0, none⟩ = some (.slice S sn sc) := T.rS.cell 0
  have zw : ¬ w.heap.size + 1 = w.heap.size := by omega
  clear hW hd hr
  go_enter Tryz.func76, Tryz.ntmps76
  go_wp2_with fail
  rw [← HW.out]
  refine L1.out.mono ?_
  rintro e u0 ⟨he, bb⟩
  replace T := T.next bb
  clear bb L1 cS HW
  cases hok : sigOkB sg with
  | false =>
    rw [hok] at he
    subst he
    have cR : u0.cell? ⟨w.heap.size + 1, 0, none⟩ = some (.slice none 0 0) := T.rR.cell 0
    have fR : u0.frozen? ⟨w.heap.size + 1, 0, none⟩ = false := T.rR.free 0
    have F := Lib.hid (T.empty (M := 25) (L := 65))
    clear T hok
    go_wp2
    exact bodyPost_ret (v := .agg #[.slice none 0 0]) (by simp [results, Tryz.results76, go_sem, cR]) rfl F.out
  | true =>
    rw [hok] at he
    subst he
    have hars := (sig_arities hok).1
    have hl1 := (sig_arities hok).2.1
    have L2 := Lib.hid (draw p A n c S sn sc sg u0 T.d (T.s.more T.g.size) hars (by rw [← hsl.out]; exact hl1) hsn)
    have cS : u0.cell? ⟨w.heap.size, 0, none⟩ = some (.slice S sn sc) := T.rS.cell 0
    clear hok hl1
    go_wp2_with fail
    refine L2.out.mono ?_
    rintro e w2 ⟨B, m, cB, xss, rfl, own2, hsm, d2, g2⟩
    have zu := T.rR.lt
    have zB := own2.ge
    have T2 := T.dice d2 g2
    obtain ⟨o, ho⟩ : ∃ o, w2.heap.size = o := ⟨_, rfl⟩
    obtain ⟨W3, hW3⟩ : ∃ W3, W3 = w2.alloc (.cells #[.slice B m cB] 59) := ⟨_, rfl⟩
    have T3 : DA w p A n c S sn sc sg o B m cB xss W3 := by
      have bb : Below w2.heap.size w2 W3 := by rw [hW3]; exact (Below.refl _ _).alloc (Nat.le_refl _) _
      exact ⟨T2.next bb, by rw [hW3, ← ho]; exact Row.new _ _ _, (own2.below bb).lower (by omega), fun e => by have := (zB _ e).2; omega, by have := T2.rR.lt; omega⟩
    have HW3 := Lib.hid hW3
    have HO := Lib.hid ho
    have L3 := Lib.hid (once p A n c 12 W3 T3.z.d (by omega) (by omega))
    have hml := Lib.hid own2.1
    clear T T2 own2 d2 g2 L2 cS hW3 ho zB zu
    go_wp2_with fail
    rw [← HW3.out, HO.out]
    refine L3.out.mono ?_
    rintro e w4 ⟨b, rfl, d4, g4⟩
    have T4 := T3.dice d4 g4
    clear T3 d4 g4 L3 HW3 HO
    have zo := T4.ho
    have zne1 : ¬ o = w.heap.size + 1 := by omega
    have zne2 : ¬ w.heap.size + 1 = o := by omega
    have zne3 : ¬ o = w.heap.size := by omega
    cases b with
    | false =>
      have cO : w4.cell? ⟨o, 0, none⟩ = some (.slice B m cB) := T4.rO.cell 0
      have cR : w4.cell? ⟨w.heap.size + 1, 0, none⟩ = some (.slice none 0 0) := T4.z.rR.cell 0
      have fR : w4.frozen? ⟨w.heap.size + 1, 0, none⟩ = false := T4.z.rR.free 0
      have F := Lib.hid (T4.result (small_wider hsm (show 3 ≤ 25 by omega) (show 16 ≤ 65 by omega)))
      clear T4
      go_wp2
      exact bodyPost_ret (v := .agg #[.slice B m cB]) (by simp [results, Tryz.results76, go_sem, cR]) rfl F.out
    | true =>
      have L4 := Lib.hid (below p A n c 3 w4 T4.z.d (by omega) (by omega))
      go_wp2_with fail
      refine L4.out.mono ?_
      rintro e w5 ⟨x, rfl, x0, x1, d5, g5⟩
      have T5 := T4.dice d5 g5
      clear T4 d5 g5 L4
      have cO : w5.cell? ⟨o, 0, none⟩ = some (.slice B m cB) := T5.rO.cell 0
      have hm3 := hsm.1
      by_cases hx0 : x = 0
      · subst hx0
        have T6 := T5.drew
        have cS : w5.cell? ⟨w.heap.size, 0, none⟩ = some (.slice S sn sc) := T5.z.rS.cell 0
        clear x0 x1
        go_wp2_with fail
        go_region_law (first
          | (refine stepR1 rfl _ _ rfl p (w.heap.size + 2) B m cB xss (by simp [Act.eval, Act.put]) (T7.alloc _).own w7.heap.size 1 (.slice O on oc) ys (by simp [Act.eval, Act.put]) ((Row.new _ _ _).cell 0) (EL.below ((Below.refl _ _).alloc (Nat.le_refl _) _)) (by omega) (by simp; omega) ?_; intro O' oc' w8 ho8 hg8 hat8 hlt8; have r8 := Row.away (T7.alloc _).rO hg8 T7.hB; have cV8 : w8.cell? ⟨o, 0, none⟩ = some (.slice B m cB) := r8.cell 0; have fV8 : w8.frozen? ⟨o, 0, none⟩ = false := r8.free 0)
          | (go_simp; go_at_call 63; refine (drawAnyN p A n c S sn sc sg _ T6.z.d (T6.z.s.more T6.z.g.size) (by omega)).mono ?_; rintro e w7 ⟨O, on, oc, ys, rfl, ra, h1, h2, h3, h4, d7, g7, hnew⟩; have T7 := T6.dice d7 g7; have EL : Elem w7 p (blk B) (.slice O on oc) ys := elem_new ra h1 h2 h3 hnew (fun k hk => (T6.own.ge k hk).2); have cV7 : w7.cell? ⟨o, 0, none⟩ = some (.slice B m cB) := T7.rO.cell 0; have zV7 : o < w7.heap.size := T7.rO.lt; have zW7 : w.heap.size + 1 < w7.heap.size := T7.z.rR.lt))
        all_goals
          have T8 := DA.put (T7.alloc (.cells #[.slice O on oc] 24)) hg8 ho8 (hat8.elim (fun h => .inl h.symm) (fun h => .inr (by rw [h]; rfl)))
          have F := Lib.hid (T8.result (small_app (M' := 25) (small_wider hsm (Nat.le_refl _) (show 16 ≤ 65 by omega)) hml.out (by rw [ra.1]; exact h4) (by omega)))
          have cR8 : (w8.setCell ⟨o, 0, none⟩ (.slice (some ⟨O', 0, none⟩) (m + 1) oc')).cell? ⟨w.heap.size + 1, 0, none⟩ = some (.slice none 0 0) := T8.z.rR.cell 0
          have fR8 : (w8.setCell ⟨o, 0, none⟩ (.slice (some ⟨O', 0, none⟩) (m + 1) oc')).frozen? ⟨w.heap.size + 1, 0, none⟩ = false := T8.z.rR.free 0
          clear T8 T7 T6 T5 ho8 hg8 hat8 hlt8 r8 d7 g7 cV7 EL ra
          go_wp2
          exact bodyPost_ret (v := .agg #[.slice (some ⟨O', 0, none⟩) (m + 1) oc']) (by simp [results, Tryz.results76, go_sem, cR8]) rfl F.out
      · by_cases hx1 : x = 1
        · subst hx1
          clear x0 x1 hx0
          have L6 := Lib.hid (below p A n c 2 w5 T5.z.d (by omega) (by omega))
          go_wp2_with fail
          refine L6.out.mono ?_
          rintro e w6 ⟨y, rfl, y0, y1, d6, g6⟩
          have T6 := T5.dice d6 g6
          obtain ⟨k, rfl⟩ := Int.eq_ofNat_of_zero_le y0
          have hmk : ∀ W : World, (Instr.makeSlice 32 (.int .i64 (24 + (k : Int))) (.int .i64 (24 + (k : Int)))).run Tryz.prog W = .ok (.slice (some ⟨W.heap.size, 0, none⟩) (24 + k) (24 + k)) (W.alloc (.cells (madeCells #[.slice none 0 0] (24 + k)) 24)) := fun W => by
            have := run_make_lists (24 + k) (by omega) W
            rwa [show ((24 + k : Nat) : Int) = 24 + (k : Int) by simp] at this
          have zO := T6.rO.lt
          have zR := T6.z.rR.lt
          have T7 := T6.put (w' := w6.alloc (.cells (madeCells #[.slice none 0 0] (24 + k)) 24)) (World.grownBy_alloc _ _ _) (ownR_made (p := p) (lo := w.heap.size + 2) (k := 24 + k) (by omega) (by omega)) (.inr rfl)
          have F := T7.result (small_made (L := 65) (show 24 + k ≤ 25 by omega))
          have cO6 : w6.cell? ⟨o, 0, none⟩ = some (.slice B m cB) := T6.rO.cell 0
          have fO6 : w6.frozen? ⟨o, 0, none⟩ = false := T6.rO.free 0
          have cR6 : w6.cell? ⟨w.heap.size + 1, 0, none⟩ = some (.slice none 0 0) := T6.z.rR.cell 0
          have fR6 : w6.frozen? ⟨w.heap.size + 1, 0, none⟩ = false := T6.z.rR.free 0
          rw [World.setCell_alloc_past (hn := zO), World.setCell_alloc_past (hn := by simp; omega)] at F
          have HF := Lib.hid F
          clear F T7 T6 T5 d6 g6 L6 cO
          go_wp2
          exact bodyPost_ret (v := .agg #[.slice (some ⟨w6.heap.size, 0, none⟩) (24 + k) (24 + k)]) (by simp [results, Tryz.results76, go_sem, cR6, zR, zne1, zne2]) rfl HF.out
        · have hx2 : x = 2 := by omega
          subst hx2
          have T6 := T5.drew
          clear x0 x1 hx0 hx1
          go_wp2_with fail
          go_region_law (first
            | (refine stepR1 rfl _ _ rfl p (w.heap.size + 2) B m cB xss (by simp [Act.eval, Act.put]) ((T7.alloc _).alloc _).own (w7.heap.size + 1) 1 (.slice (some ⟨w7.heap.size, 0, none⟩) 1 1) [y] (by simp [Act.eval, Act.put]) c77 (EL.below ((Below.refl _ _).alloc (Nat.le_refl _) _)) (by omega) (by simp; omega) ?_; intro O' oc' w8 ho8 hg8 hat8 hlt8; have r8 := Row.away ((T7.alloc _).alloc _).rO hg8 T7.hB; have cV8 : w8.cell? ⟨o, 0, none⟩ = some (.slice B m cB) := r8.cell 0; have fV8 : w8.frozen? ⟨o, 0, none⟩ = false := r8.free 0)
            | (go_simp; go_at_call 115; refine (odd p A n c _ T6.z.d).mono ?_; rintro e w7 ⟨y, rfl, d7, g7⟩; have T7 := T6.dice d7 g7; have EL : Elem (w7.alloc (.cells #[.int .i64 y] 2)) p (blk B) (.slice (some ⟨w7.heap.size, 0, none⟩) 1 1) [y] := ⟨_, 1, 1, rfl, Rd.of_own (one_own w7 y) T7.z.d.lt, ⟨Nat.le_refl _, by omega, fun e => by cases e⟩, fun _ e => absurd (T7.own.ge w7.heap.size (by rw [← e]; rfl)).2 (Nat.lt_irrefl _)⟩; have c77 : ((w7.alloc (.cells #[.int .i64 y] 2)).alloc (.cells #[.slice (some ⟨w7.heap.size, 0, none⟩) 1 1] 24)).cell? ⟨w7.heap.size + 1, 0, none⟩ = some (.slice (some ⟨w7.heap.size, 0, none⟩) 1 1) := (by simp); have cV7 : w7.cell? ⟨o, 0, none⟩ = some (.slice B m cB) := T7.rO.cell 0; have zV7 : o < w7.heap.size := T7.rO.lt; have zW7 : w.heap.size + 1 < w7.heap.size := T7.z.rR.lt))
          all_goals
            have T8 := DA.put ((T7.alloc (.cells #[.int .i64 y] 2)).alloc (.cells #[.slice (some ⟨w7.heap.size, 0, none⟩) 1 1] 24)) hg8 ho8 (hat8.elim (fun h => .inl h.symm) (fun h => .inr (by rw [h]; rfl)))
            have F := Lib.hid (T8.result (small_app (M' := 25) (small_wider hsm (Nat.le_refl _) (show 16 ≤ 65 by omega)) hml.out (by simp) (by omega)))
            have cR8 : (w8.setCell ⟨o, 0, none⟩ (.slice (some ⟨O', 0, none⟩) (m + 1) oc')).cell? ⟨w.heap.size + 1, 0, none⟩ = some (.slice none 0 0) := T8.z.rR.cell 0
            have fR8 : (w8.setCell ⟨o, 0, none⟩ (.slice (some ⟨O', 0, none⟩) (m + 1) oc')).frozen? ⟨w.heap.size + 1, 0, none⟩ = false := T8.z.rR.free 0
            clear T8 T7 T6 T5 ho8 hg8 hat8 hlt8 r8 d7 g7 cV7 EL
            go_wp2
            exact bodyPost_ret (v := .agg #[.slice (some ⟨O', 0, none⟩) (m + 1) oc']) (by simp [results, Tryz.results76, go_sem, cR8]) rfl F.out
end Go.Proofs.YtpcnjcgglonifaaGreat.drawSA
end

section
namespace Go.Proofs.YtpcnjcgglonifaaGreat.drawVar
open Go.RowKit base ints sig term cursor termOk marks app sym dice drawSig drawTerm drawAny drawTwo drawPair drawOne fillMath shifted

structure V3 (w : World) (p : Nat) (A : Option Addr) (n c v : Nat) (S : Option Addr) (sn sc : Nat) (sg : List Int) (O : Option Addr) (on : Nat) (xs : List Int) (wr : World) : Prop where
  d : Dice wr p A n c
  rN : Row wr w.heap.size 26 #[.slice none 0 0]
  rV : Row wr v 26 #[.slice S sn sc]
  s : Rd wr p wr.heap.size S sn sg
  o : Rd wr p wr.heap.size O on xs
  b : Below w.heap.size w wr
  hp : w.heap.size < p
  pv : p < v
section
variable {w : World} {p : Nat} {A : Option Addr} {n c v : Nat} {S : Option Addr} {sn sc : Nat} {sg : List Int} {O : Option Addr} {on : Nat} {xs : List Int} {wr w' : World}
theorem V3.next (t : V3 w p A n c v S sn sc sg O on xs wr) (hb : Below wr.heap.size wr w') : V3 w p A n c v S sn sc sg O on xs w' :=
  ⟨t.d.next hb, t.rN.next hb, t.rV.next hb, (t.s.below hb (Nat.le_refl _)).more hb.size, (t.o.below hb (Nat.le_refl _)).more hb.size, next_trans t.b hb, t.hp, t.pv⟩
end

end Go.Proofs.YtpcnjcgglonifaaGreat.drawVar
end

section
namespace Go.Proofs.YtpcnjcgglonifaaGreat.drawSS
open Go.RowKit base ints sig term cursor termOk marks app appAt sym segs segsHelp dice drawSig drawTerm drawAny drawTwo drawPair drawOne drawSub drawS drawSA drawVar plain plainOf
set_option maxRecDepth 100000

theorem OwnR.segs {w : World} {p lo n c : Nat} {A : Option Addr} {xss : List (List Int)} (h : OwnR w p lo A n c xss) : Segs w w.heap.size A n xss := by
  obtain ⟨h1, vs, hr, h3⟩ := h
  refine ⟨h1, fun hn => ?_⟩
  rcases own_form hr with ⟨_, e, _⟩ | ⟨g, cur, rfl, _, hrow, _, _, _, _, hc⟩
  · omega
  · refine ⟨g, 0, rfl, hrow.lt, fun j hj => ?_⟩
    obtain ⟨A', n', c', e, hrd, hcap, _⟩ := h3 j hj
    refine ⟨A', n', c', ?_, hrd.seg, hcap⟩
    rw [Nat.zero_add, hrow.cell j, hc j hj, e]
structure V4 (w : World) (p : Nat) (A : Option Addr) (n c v6 v7 : Nat) (S : Option Addr) (sn sc : Nat) (sg : List Int) (B : Option Addr) (m cB : Nat) (xss : List (List Int)) (wr : World) : Prop where
  d : Dice wr p A n c
  rN : Row wr w.heap.size 26 #[.slice none 0 0]
  rP : Row wr (w.heap.size + 1) 59 #[.slice none 0 0]
  r6 : Row wr v6 26 #[.slice S sn sc]
  r7 : Row wr v7 59 #[.slice B m cB]
  s : Rd wr p wr.heap.size S sn sg
  own : OwnR wr p (p + 1) B m cB xss
  b : Below w.heap.size w wr
  hp : w.heap.size + 1 < p
  p6 : p < v6
  p7 : p < v7
section
variable {w : World} {p : Nat} {A : Option Addr} {n c v6 v7 : Nat} {S : Option Addr} {sn sc : Nat} {sg : List Int} {B : Option Addr} {m cB : Nat} {xss : List (List Int)} {wr w' : World}
theorem V4.next (t : V4 w p A n c v6 v7 S sn sc sg B m cB xss wr) (hb : Below wr.heap.size wr w') : V4 w p A n c v6 v7 S sn sc sg B m cB xss w' :=
  ⟨t.d.next hb, t.rN.next hb, t.rP.next hb, t.r6.next hb, t.r7.next hb, (t.s.below hb (Nat.le_refl _)).more hb.size, t.own.below hb, next_trans t.b hb, t.hp, t.p6, t.p7⟩
end

end Go.Proofs.YtpcnjcgglonifaaGreat.drawSS
end

section
namespace Go.Proofs.YtpcnjcgglonifaaGreat.ruleSpec
open Go.RowKit base ints sig term termOk marks app sym segs termFacts varsMath varsOf rename same count linear shape kindsR ruleMath
set_option maxRecDepth 100000

end Go.Proofs.YtpcnjcgglonifaaGreat.ruleSpec
end

section
namespace Go.Proofs.YtpcnjcgglonifaaGreat.inside
open Go.RowKit base ints sig term arity endOf cursor termOk endAt
set_option maxRecDepth 100000

def Tells (w : World) (b : Bool) (e : Ending) (w' : World) : Prop := e = .returned (.bool b) ∧ Below w.heap.size w w'
structure Fr (w wr : World) (A : Option Addr) (n c : Nat) (sg : List Int) (A' : Option Addr) (m : Nat) (t : List Int) : Prop where
  r : Row wr w.heap.size 26 #[.slice A n c]
  s : Seg wr w.heap.size A n sg
  s' : Seg wr w.heap.size A' m t
  b : Below w.heap.size w wr
section
variable {w wr w' : World} {A : Option Addr} {n c : Nat} {sg : List Int} {A' : Option Addr} {m : Nat} {t : List Int}
theorem Fr.start (h : Seg w w.heap.size A n sg) (h' : Seg w w.heap.size A' m t) : Fr w (w.alloc (.cells #[.slice A n c] 26)) A n c sg A' m t :=
  have b : Below w.heap.size w (w.alloc (.cells #[.slice A n c] 26)) := (Below.refl _ _).alloc (Nat.le_refl _) _
  ⟨Row.new _ _ _, h.below b, h'.below b, b⟩
theorem Fr.next (f : Fr w wr A n c sg A' m t) (hb : Below wr.heap.size wr w') : Fr w w' A n c sg A' m t :=
  have b : Below w.heap.size wr w' := hb.mono (Nat.le_of_lt f.r.lt)
  ⟨f.r.next hb, f.s.below b, f.s'.below b, f.b.trans b⟩
theorem Fr.over (f : Fr w wr A n c sg A' m t) (hb : Below (w.heap.size + 1) wr w') : Fr w w' A n c sg A' m t :=
  have b : Below w.heap.size wr w' := hb.mono (Nat.le_succ _)
  ⟨f.r.below hb (Nat.lt_succ_self _), f.s.below b, f.s'.below b, f.b.trans b⟩
theorem Fr.alloc (f : Fr w wr A n c sg A' m t) (o : Obj) : Fr w (wr.alloc o) A n c sg A' m t := f.next ((Below.refl _ _).alloc (Nat.le_refl _) _)
theorem Fr.cell (f : Fr w wr A n c sg A' m t) : wr.cell? ⟨w.heap.size, 0, none⟩ = some (.slice A n c) := f.r.cell 0
theorem Fr.s1 (f : Fr w wr A n c sg A' m t) : Seg wr wr.heap.size A n sg := f.s.more (Nat.le_of_lt f.r.lt)
theorem Fr.t1 (f : Fr w wr A n c sg A' m t) : Seg wr wr.heap.size A' m t := f.s'.more (Nat.le_of_lt f.r.lt)
theorem Fr.size (f : Fr w wr A n c sg A' m t) : w.heap.size < wr.heap.size := f.r.lt
end

def insI (sg t : List Int) (x p : Int) : Bool := decide (x ≤ p ∧ p < endI sg t x.toNat)
def insideB (sg t : List Int) (x p : Int) : Bool := thereB sg t x && insI sg t x p
set_option maxHeartbeats 1000000 in
theorem placeIn (A A' : Option Addr) (n c m c' : Nat) (sg t : List Int) (x : Int) (w : World) (h : Seg w w.heap.size A n sg) (h' : Seg w w.heap.size A' m t) (hn : n ≤ 1048576) (hm : m ≤ 1048576) :
    Calls Tryz.prog 156 #[.agg #[.slice A n c], .slice A' m c', .int .i64 x] w (Tells w (thereB sg t x)) := by
  obtain ⟨W, hW⟩ : ∃ W, W = w.alloc (.cells #[.slice A n c] 26) := ⟨_, rfl⟩
  have f : Fr w W A n c sg A' m t := by rw [hW]; exact Fr.start h h'
  have HW := Lib.hid hW
  have L := Lib.hid (cursorAt A A' n c m c' sg t x W f.s1 f.t1 hn hm)
  clear hW h h'
  go_enter Tryz.func156, Tryz.ntmps156
  go_wp2_with fail
  rw [← HW.out]
  refine L.out.mono ?_
  rintro e w1 ⟨bb, ⟨ht, p, rfl, hp, hc⟩ | ⟨ht, rfl⟩⟩
  · have F := Lib.hid (show Tells w (thereB sg t x) (.returned (.bool true)) w1 from ⟨by rw [ht], (f.next bb).b⟩)
    clear f L bb hc hp
    go_wp2
    go_ret
    exact F.out
  · have F := Lib.hid (show Tells w (thereB sg t x) (.returned (.bool false)) w1 from ⟨by rw [ht], (f.next bb).b⟩)
    clear f L bb
    go_wp2
    go_ret
    exact F.out

end Go.Proofs.YtpcnjcgglonifaaGreat.inside
end

section
namespace Go.Proofs.YtpcnjcgglonifaaGreat.concat
open Go.RowKit base ints marks app sym segs segsHelp
set_option maxRecDepth 100000

set_option maxHeartbeats 1000000 in
theorem growNil (s : Nat) (w : World) (hs : s ≤ 2097152) :
    Calls Tryz.prog 150 #[.slice none 0 0, .int .i64 (s : Int)] w (AnsList w []) := by
  by_cases h0 : s = 0
  · subst h0
    go_enter Tryz.func150, Tryz.ntmps150
    go_wp2
    go_ret
    exact ⟨none, 0, 0, rfl, Own.nil _ _, Below.refl _ _⟩
  · obtain ⟨i0, hi, hz0, hz1, hz2⟩ := info_parts info_i64
    obtain ⟨G, hG⟩ : ∃ G, G = grownCap w s 0 2 := ⟨_, rfl⟩
    have hge : s ≤ G := by rw [hG]; exact grownCap_ge w _ _ _
    have hcm : G ≤ maxLen := by rw [hG]; exact grownCap_le_maxLen w _ _ _ (by unfold maxLen; omega)
    obtain ⟨cs, hcs⟩ : ∃ cs, cs = Builtin.zeroCells (Value.int .i64 0).cells s ++ Builtin.zeroCells (Value.int .i64 0).cells (G - s) := ⟨_, rfl⟩
    have hsz : cs.size = G := by
      rw [hcs]
      have e : (Value.int .i64 0).cells.size = 1 := rfl
      simp only [Array.size_append, size_zeroCells, e]
      omega
    have hr : ∀ ty, (Builtin.append_ #[24, 3] ty #[.slice none 0 0, .int .i64 (s : Int)]).run Tryz.prog w = .ok (.slice (some ⟨w.heap.size, 0, none⟩) s G) (w.drew.alloc (.cells cs 2)) := fun ty => by
      rw [hG, hcs, hG]
      exact Lib.run_append_nil_zeros w 24 3 ty 2 i0 (.int .i64 0) .i64 .i64 Tryz.underlying24 Tryz.underlying3 hi hz0 s (by omega) (by rw [hz1]; omega) (by omega) (by rw [hz2]; omega)
    have hrow : Row (w.drew.alloc (.cells cs 2)) w.heap.size 2 cs := Row.new w.drew _ _
    have F : AnsList w [] (.returned (.slice (some ⟨w.heap.size, 0, none⟩) 0 G)) (w.drew.alloc (.cells cs 2)) :=
      ⟨_, _, _, rfl, Own.of_row hrow rfl hsz (Nat.zero_le _) (by unfold maxLen at hcm; omega) (Nat.le_refl _) (fun j hj => absurd hj (Nat.not_lt_zero _)), ((Below.refl _ _).drew).alloc (Nat.le_refl _) _⟩
    have HF := Lib.hid F
    have hG63 : G ≤ 9223372036854775807 := by unfold maxLen at hcm; omega
    clear F hrow hsz hcs hG hcm
    have h1 : (0 : Int) < (s : Int) := by omega
    go_enter Tryz.func150, Tryz.ntmps150
    go_wp2_with (at_builtin; refine Lib.wpList_append_run _ rfl _ _ _ _ rfl _ _ rfl rfl _ _ (hr _) ?_)
    go_wp2
    go_ret
    exact HF.out

def catL (xss : List (List Int)) (k : Nat) : List Int := (xss.take k).flatten
theorem cat_len {xss : List (List Int)} {k : Nat} : (catL xss k).length = sumL xss k := by unfold catL sumL; rw [List.length_flatten]
theorem cat_succ {xss : List (List Int)} {k : Nat} (h : k < xss.length) : catL xss (k + 1) = catL xss k ++ xss.getD k [] := by
  unfold catL
  rw [List.take_succ_eq_append_getElem h, List.flatten_append]
  simp [List.getD, h]

set_option maxHeartbeats 1000000 in
theorem concat (S : Option Addr) (k c : Nat) (xss : List (List Int)) (w : World) (h : Segs w w.heap.size S k xss) (ht : tot xss ≤ 1048576) :
    Calls Tryz.prog 117 #[.slice S k c] w (AnsList w xss.flatten) := by
  have HL := Lib.hid h.1
  have hk : k ≤ 1048576 := tot_len h.1 ht
  have hs1 : Hid (∀ j, j ≤ k → sumL xss j ≤ 1048576) := Lib.hid (fun j hj => by have := sumL_mono (xss := xss) (k := j) (m := xss.length) (by rw [h.1]; exact hj) (Nat.le_refl _); unfold tot at ht; omega)
  have HS : Hid (∀ j, j < k → sumL xss (j + 1) = sumL xss j + (xss.getD j []).length) := Lib.hid (fun j hj => sumL_succ (by rw [h.1]; exact hj))
  have HC : Hid (∀ j, j < k → catL xss (j + 1) = catL xss j ++ xss.getD j []) := Lib.hid (fun j hj => cat_succ (by rw [h.1]; exact hj))
  have HF := Lib.hid (show catL xss k = xss.flatten by unfold catL; rw [List.take_of_length_le (by rw [h.1]; exact Nat.le_refl _)])
  have HCL := Lib.hid (fun j => cat_len (xss := xss) (k := j))
  have HH := Lib.hid h
  have S0 := Lib.hid (show sumL xss 0 = 0 by simp [sumL])
  have C0 := Lib.hid (show catL xss 0 = [] by simp [catL])
  clear h ht
  go_enter Tryz.func117, Tryz.ntmps117
  go_wp2
  go_loopg [3, 11] k (fun g s i wr => w = wr ∧ ∃ j : Nat, i = .int .i64 j ∧ j + g = k ∧ s = .int .i64 (sumL xss j : Nat))
  case atStart => exact ⟨rfl, 0, rfl, by omega, by rw [S0.out]; rfl⟩
  case round =>
    obtain ⟨rfl, j, rfl, hj, rfl⟩ := hrel
    have HJ := Lib.hid hj
    clear hj
    by_cases hjk : j < k
    · obtain ⟨b, off, A', n', c', rfl, hb, hc, hsg, hcap⟩ := HH.out.spot hjk
      have hl := hsg.1
      have hb1 := hs1.out j (by omega)
      have hb2 := hs1.out (j + 1) (by omega)
      have hsu := HS.out j hjk
      obtain ⟨s, hs⟩ : ∃ s, sumL xss j = s := ⟨_, rfl⟩
      have HSS := Lib.hid (show sumL xss (j + 1) = s + n' by rw [hsu, hs, hl])
      have hb3 : s + n' ≤ 1048576 := by rw [← HSS.out]; exact hb2
      rw [hs]
      clear hsg hcap hl hb1 hb2 hsu hs
      go_wp2
      go_roundg (gk - 1)
      case measure => have := HJ.out; omega
      case rel => exact ⟨rfl, j + 1, by simp, by have := HJ.out; omega, by rw [HSS.out]; simp⟩
    · have hjk2 : j = k := by have := HJ.out; omega
      obtain ⟨s, hs⟩ : ∃ s, sumL xss j = s := ⟨_, rfl⟩
      have hs2 : s ≤ 2097152 := by rw [← hs]; have := hs1.out j (by omega); omega
      rw [hs]
      have LG := Lib.hid (growNil s w hs2)
      clear hs hs2 hjk2
      go_wp2_with fail
      refine LG.out.mono ?_
      rintro e w1 ⟨O, on, oc, rfl, o1, b1⟩
      have on0 : on = 0 := Own.len o1
      subst on0
      have P0 : Own w1 w.heap.size (.slice O 0 oc) (catL xss 0) := by rw [C0.out]; exact o1
      have HP := Lib.hid (And.intro P0 b1)
      clear P0 o1 b1 LG
      go_wp2
      go_loopg [6, 27] k (fun g s i wr => ∃ (j : Nat) (O : Option Addr) (on oc : Nat), i = .int .i64 j ∧ j + g = k ∧ s = .slice O on oc ∧ Own wr w.heap.size (.slice O on oc) (catL xss j) ∧ Below w.heap.size w wr)
      case atStart => exact ⟨0, O, 0, oc, rfl, by omega, rfl, HP.out.1, HP.out.2⟩
      case round =>
        obtain ⟨j, O, on, oc, rfl, hj, rfl, ho, hb⟩ := hrel
        clear HP
        have HJ := Lib.hid hj
        clear hj
        by_cases hjk : j < k
        · have hsegs := (HH.out.below hb)
          obtain ⟨b, off, A', n', c', rfl, hbb, hc, hsg, hcap⟩ := hsegs.spot hjk
          have hon : on ≤ 1048576 := by rw [Own.len ho, HCL.out j]; exact hs1.out j (by omega)
          have hn' : n' ≤ 1048576 := by have h1 := hsg.1; have h2 := hs1.out (j + 1) (by omega); rw [HS.out j hjk, h1] at h2; omega
          have HCAP := Lib.hid hcap.2.2
          have hsz := hb.size
          clear hsegs hcap
          go_wp2_with (at_builtin; refine appAll rfl _ _ rfl w.heap.size O on oc (catL xss j) rfl ho A' n' c' w.heap.size (xss.getD j []) rfl hsg HCAP.out (by omega) (by omega) hsz ?_; intro O' oc' w3 ho3 b3)
          have S := Lib.hid (show Own w3 w.heap.size (.slice O' (on + n') oc') (catL xss (j + 1)) ∧ Below w.heap.size w w3 from ⟨by rw [HC.out j hjk]; exact ho3, hb.trans b3⟩)
          clear ho ho3 hb b3 hsg hc
          go_wp2
          go_roundg (gk - 1)
          case measure => have := HJ.out; omega
          case rel => exact ⟨j + 1, O', on + n', oc', by simp, by have := HJ.out; omega, rfl, S.out⟩
        · have hjk2 : j = k := by have := HJ.out; omega
          have F : AnsList w xss.flatten (.returned (.slice O on oc)) wr := ⟨O, on, oc, rfl, by rw [← HF.out, ← hjk2]; exact ho, hb⟩
          have HFF := Lib.hid F
          clear F ho hb hjk2
          go_wp2
          go_ret
          exact HFF.out
end Go.Proofs.YtpcnjcgglonifaaGreat.concat
end

section
namespace Go.Proofs.YtpcnjcgglonifaaGreat.args
open Go.RowKit base ints sig term arity endOf cursor termOk endAt marks app sym

def Coll (sg t : List Int) (m : Nat) (L ys : List Int) (q p : Nat) : Prop := ys ++ places sg t q p = L ∧ ∃ i, scan sg q (t.drop p) = some i ∧ p + i ≤ m
theorem Coll.first {sg t : List Int} {m : Nat} {L ys : List Int} {q p : Nat} (h : Coll sg t m L ys (q + 1) p) : ∃ j, scan sg 1 (t.drop p) = some j ∧ p + j ≤ m ∧ p < t.length ∧ Coll sg t m L (ys ++ [(p : Int)]) q (p + j) := by
  obtain ⟨h1, i, h2, h3⟩ := h
  obtain ⟨j, e1, e2, e3, e4⟩ := scan_first h2
  have e5 := scan_le h2
  refine ⟨j, e1, by omega, ?_, ?_, i - j, e4, by omega⟩
  · simp only [List.length_drop] at e5; omega
  · rw [← h1, List.append_assoc]
    congr 1
    simp only [places, len1_eq e1, List.singleton_append]
theorem Coll.done {sg t : List Int} {m : Nat} {L ys : List Int} {p : Nat} (h : Coll sg t m L ys 0 p) : ys = L := by
  have := h.1
  simpa [places] using this
theorem Coll.len {sg t : List Int} {m : Nat} {L ys : List Int} {q p : Nat} (h : Coll sg t m L ys q p) : ys.length ≤ L.length := by
  rw [← h.1]; simp
theorem Cur.keep {w w' : World} {p : Nat} {A : Option Addr} {n c : Nat} {A' : Option Addr} {m c' : Nat} {sg t : List Int} {k : Nat} (h : Cur w p A n c A' m c' sg t k) (hb : Below (p + 1) w w') : Cur w' p A n c A' m c' sg t k :=
  ⟨h.row.below hb (Nat.lt_succ_self _), h.s.below (hb.mono (Nat.le_succ _)), h.s'.below (hb.mono (Nat.le_succ _)), h.le, h.hn, h.hm, h.ars⟩
end Go.Proofs.YtpcnjcgglonifaaGreat.args
end

section
namespace Go.Proofs.YtpcnjcgglonifaaGreat.depth
open Go.RowKit base ints sig term arity endOf cursor termOk endAt marks app sym args

def Deep (sg t : List Int) (f : Nat) (M d : Int) (q p : Nat) : Prop := max d (maxOver sg t (dep sg t f) q p) = M ∧ 0 ≤ d ∧ d ≤ f ∧ ∃ i, scan sg q (t.drop p) = some i ∧ i ≤ f ∧ p + i ≤ t.length
theorem Deep.first {sg t : List Int} {f : Nat} {M d : Int} {q p : Nat} (h : Deep sg t f M d (q + 1) p) : ∃ j, scan sg 1 (t.drop p) = some j ∧ j ≤ f ∧ p < t.length ∧ p + j ≤ t.length ∧ Deep sg t f M (max d (dep sg t f p)) q (p + j) := by
  obtain ⟨h1, h2, h3, i, h4, h5, h6⟩ := h
  obtain ⟨j, e1, e2, e3, e4⟩ := scan_first h4
  have hb := dep_bd (sg := sg) (t := t) f p
  refine ⟨j, e1, by omega, by omega, by omega, ?_, by omega, by omega, i - j, e4, by omega, by omega⟩
  simp only [maxOver, len1_eq e1] at h1
  omega
theorem Deep.done {sg t : List Int} {f : Nat} {M d : Int} {p : Nat} (h : Deep sg t f M d 0 p) : d = M := by
  have h1 := h.1
  have h2 := h.2.1
  simp only [maxOver] at h1
  omega
def depthI (sg t : List Int) : Int := if termOkB sg t = true then dep sg t t.length 0 else 0
end Go.Proofs.YtpcnjcgglonifaaGreat.depth
end

section
namespace Go.Proofs.YtpcnjcgglonifaaGreat.termMath
open term termOk endAt sub args depth sig

theorem scan_append {sg : List Int} : ∀ {l r : List Int} {q j : Nat}, scan sg q l = some j → scan sg q (l ++ r) = some j := by
  intro l
  induction l with
  | nil =>
    intro r q j h
    cases q with
    | zero => rw [scan_zero] at h ⊢; exact h
    | succ q => rw [scan_nil] at h; cases h
  | cons x l ih =>
    intro r q j h
    cases q with
    | zero => rw [scan_zero] at h ⊢; exact h
    | succ q =>
      by_cases ha : ar sg x < 0
      · rw [scan_bad ha] at h; cases h
      · rw [scan_step ha] at h
        rw [List.cons_append, scan_step ha]
        obtain ⟨j', hj', rfl⟩ := Option.map_eq_some_iff.1 h
        rw [ih hj']
        rfl
theorem scan_take {sg : List Int} : ∀ {l : List Int} {q j : Nat}, scan sg q l = some j → scan sg q (l.take j) = some j := by
  intro l
  induction l with
  | nil => intro q j h; simpa using h
  | cons x l ih =>
    intro q j h
    cases q with
    | zero => rw [scan_zero] at h ⊢; exact h
    | succ q =>
      by_cases ha : ar sg x < 0
      · rw [scan_bad ha] at h; cases h
      · rw [scan_step ha] at h
        obtain ⟨j', hj', rfl⟩ := Option.map_eq_some_iff.1 h
        rw [List.take_succ_cons, scan_step ha, ih hj']
        rfl
theorem scan_same {sg l l' : List Int} {q j : Nat} (h : scan sg q l = some j) (e : l.take j = l'.take j) : scan sg q l' = some j := by
  have h1 := scan_take h
  rw [e] at h1
  have h2 := scan_append (r := l'.drop j) h1
  rwa [List.take_append_drop] at h2
theorem take_less {l l' : List Int} {i j : Nat} (e : l.take i = l'.take i) (h : j ≤ i) : l.take j = l'.take j := by
  have : (l.take i).take j = (l'.take i).take j := by rw [e]
  rwa [List.take_take, List.take_take, Nat.min_eq_left h] at this
theorem drop_same {l l' : List Int} {i j : Nat} (e : l.take i = l'.take i) : (l.drop j).take (i - j) = (l'.drop j).take (i - j) := by
  rw [← List.drop_take, ← List.drop_take, e]
theorem get_same {t t' : List Int} {a a' i : Nat} (e : (t.drop a).take i = (t'.drop a').take i) (h : 1 ≤ i) : t.getD a 0 = t'.getD a' 0 := by
  have : ((t.drop a).take i)[0]? = ((t'.drop a').take i)[0]? := by rw [e]
  rw [List.getElem?_take, List.getElem?_take, if_pos (by omega), if_pos (by omega), List.getElem?_drop, List.getElem?_drop] at this
  simpa [List.getD] using congrArg (fun o => o.getD 0) this

theorem max_same {sg t t' : List Int} {f f' : Nat} (hd : ∀ a a' j, (t.drop a).take j = (t'.drop a').take j → scan sg 1 (t.drop a) = some j → j ≤ f → j ≤ f' → dep sg t f a = dep sg t' f' a') :
    ∀ q p p' i, (t.drop p).take i = (t'.drop p').take i → scan sg q (t.drop p) = some i → i ≤ f → i ≤ f' → maxOver sg t (dep sg t f) q p = maxOver sg t' (dep sg t' f') q p'
  | 0, _, _, _, _, _, _, _ => rfl
  | q + 1, p, p', i, e, h, h1, h2 => by
    obtain ⟨j, e1, e2, e3, e4⟩ := scan_first h
    have e5 := scan_same e1 (take_less e e3)
    have hdr : (t.drop (p + j)).take (i - j) = (t'.drop (p' + j)).take (i - j) := by
      have := drop_same (j := j) e
      rwa [List.drop_drop, List.drop_drop] at this
    simp only [maxOver, len1_eq e1, len1_eq e5]
    rw [hd p p' j (take_less e e3) e1 (by omega) (by omega), max_same hd q (p + j) (p' + j) (i - j) hdr e4 (by omega) (by omega)]
theorem dep_same {sg : List Int} : ∀ (f f' : Nat) (t t' : List Int) (a a' j : Nat), (t.drop a).take j = (t'.drop a').take j → scan sg 1 (t.drop a) = some j → j ≤ f → j ≤ f' → dep sg t f a = dep sg t' f' a'
  | 0, _, _, _, _, _, _, _, h, h1, _ => by have := scan_pos (q := 0) h; omega
  | _ + 1, 0, _, _, _, _, _, _, h, _, h2 => by have := scan_pos (q := 0) h; omega
  | f + 1, f' + 1, t, t', a, a', j, e, h, h1, h2 => by
    have hj := scan_pos (q := 0) h
    have hg := get_same e hj
    obtain ⟨i, e1, _, _, e2⟩ := scan_args h
    have hdr : (t.drop (a + 1)).take i = (t'.drop (a' + 1)).take i := by
      have := drop_same (j := 1) e
      rw [List.drop_drop, List.drop_drop] at this
      have e3 : j - 1 = i := by omega
      rwa [e3] at this
    simp only [dep]
    rw [← hg, max_same (fun a a' j e h h1 h2 => dep_same f f' t t' a a' j e h h1 h2) _ (a + 1) (a' + 1) i hdr e2 (by omega) (by omega)]

theorem sub_term {sg t : List Int} {a : Nat} (hok : termOkB sg t = true) (ha : a < t.length) : termOkB sg (subL sg t a) = true ∧ depthI sg (subL sg t a) = dep sg t (t.length + 1) a ∧ endI sg t a = (a : Int) + ((subL sg t a).length : Int) ∧ 1 ≤ (subL sg t a).length := by
  have hp := termOk_parts hok
  obtain ⟨j, hj, hj1, hj2⟩ := scan_at hp.2.2 ha
  have hl : len1 sg t a = j := len1_eq hj
  have hs : subL sg t a = (t.drop a).take j := by unfold subL; rw [hl]
  have hlen : (subL sg t a).length = j := by rw [hs]; simp; omega
  have hsc : scan sg 1 (subL sg t a) = some (subL sg t a).length := by rw [hlen, hs]; exact scan_take hj
  have hok2 : termOkB sg (subL sg t a) = true := by
    unfold termOkB termB
    rw [hp.1, hsc]
    simp
    omega
  refine ⟨hok2, ?_, by rw [endI_some hj, hlen], by omega⟩
  unfold depthI
  rw [if_pos hok2, hlen]
  refine (dep_same _ _ _ _ _ _ j ?_ ?_ (Nat.le_refl _) (by omega))
  · rw [List.drop_zero, hs, List.take_take, Nat.min_self]
  · rw [List.drop_zero, hsc, hlen]

def Loop (sg t : List Int) (a : Nat) (M : Int) (zs args : List Int) (d : Int) (k q pp : Nat) : Prop :=
  args.drop k = places sg t q pp ∧ max d (maxOver sg t (dep sg t t.length) q pp) = M ∧ 0 ≤ d ∧ d ≤ t.length ∧ ∃ i, scan sg q (t.drop pp) = some i ∧ pp + i ≤ t.length ∧ zs ++ (t.drop pp).take i = subL sg t a
theorem Loop.done {sg t : List Int} {a : Nat} {M : Int} {zs args : List Int} {d : Int} {k pp : Nat} (h : Loop sg t a M zs args d k 0 pp) : zs = subL sg t a ∧ d = M := by
  obtain ⟨_, h2, h3, _, i, h5, _, h7⟩ := h
  rw [scan_zero] at h5
  injection h5 with h5
  subst h5
  simp only [maxOver] at h2
  exact ⟨by simpa using h7, by omega⟩
end Go.Proofs.YtpcnjcgglonifaaGreat.termMath
end

section
namespace Go.Proofs.YtpcnjcgglonifaaGreat.posMath
open sig term termOk termFacts endAt sub args depth termMath

theorem scan_cat {sg : List Int} : ∀ {l l' : List Int} {q q' j : Nat}, scan sg q l = some l.length → scan sg q' l' = some j → scan sg (q + q') (l ++ l') = some (l.length + j)
  | [], l', q, q', j, h, h' => by
    cases q with
    | zero => simpa using h'
    | succ q => rw [scan_nil] at h; cases h
  | x :: r, l', q, q', j, h, h' => by
    cases q with
    | zero => rw [scan_zero] at h; simp at h
    | succ q =>
      by_cases ha : ar sg x < 0
      · rw [scan_bad ha] at h; cases h
      · rw [scan_step ha] at h
        obtain ⟨i, hi, e⟩ := Option.map_eq_some_iff.1 h
        have e2 : i = r.length := by simp at e; omega
        subst e2
        have h2 := scan_cat hi h'
        rw [show q + 1 + q' = (q + q') + 1 by omega, List.cons_append, scan_step ha, show q + q' + (ar sg x).toNat = q + (ar sg x).toNat + q' by omega, h2]
        simp
        omega
theorem term_at {sg t : List Int} (h : termOkB sg t = true) {a : Nat} (ha : a < t.length) : scan sg 1 (t.drop a) = some (len1 sg t a) ∧ 1 ≤ len1 sg t a ∧ a + len1 sg t a ≤ t.length := by
  obtain ⟨j, e, h1, h2⟩ := scan_at (term_parts h).2.2 ha
  rw [len1_eq e]
  exact ⟨e, h1, h2⟩
theorem end_at {sg t : List Int} (h : termOkB sg t = true) {a : Nat} (ha : a < t.length) : endI sg t a = ((a + len1 sg t a : Nat) : Int) := by
  rw [endI_some (term_at h ha).1]; omega
theorem nest {sg t : List Int} {q a i : Nat} (h : scan sg q (t.drop a) = some i) {p : Nat} (h1 : a ≤ p) (h2 : p < a + i) : p + len1 sg t p ≤ a + i ∧ scan sg 1 (t.drop p) = some (len1 sg t p) ∧ 1 ≤ len1 sg t p := by
  obtain ⟨q', hq⟩ := scan_tail h (show p - a < i by omega)
  rw [List.drop_drop, show a + (p - a) = p by omega] at hq
  obtain ⟨j, e, j1, j2, _⟩ := scan_first hq
  rw [len1_eq e]
  exact ⟨by omega, e, j1⟩

def argP (sg t : List Int) : Nat → Nat → Nat
  | 0, p => p
  | k + 1, p => argP sg t k (p + len1 sg t p)
theorem argP_succ {sg t : List Int} : ∀ k p, argP sg t (k + 1) p = argP sg t k p + len1 sg t (argP sg t k p)
  | 0, _ => rfl
  | k + 1, p => by
    show argP sg t (k + 1) (p + len1 sg t p) = _
    rw [argP_succ k]
    rfl
theorem argP_mono {sg t : List Int} {p k : Nat} : ∀ {k' : Nat}, k ≤ k' → argP sg t k p ≤ argP sg t k' p := by
  intro k' h
  induction k' with
  | zero => rw [Nat.le_zero.1 h]; exact Nat.le_refl _
  | succ k' ih =>
    by_cases e : k = k' + 1
    · rw [e]; exact Nat.le_refl _
    · have := ih (by omega)
      rw [argP_succ]
      omega
theorem argP_scan {sg t : List Int} : ∀ {k q p i : Nat}, scan sg q (t.drop p) = some i → k ≤ q → scan sg k (t.drop p) = some (argP sg t k p - p) ∧ p ≤ argP sg t k p ∧ argP sg t k p ≤ p + i := by
  intro k
  induction k with
  | zero => intro q p i _ _; exact ⟨by rw [scan_zero]; simp [argP], Nat.le_refl _, by simp [argP]⟩
  | succ k ih =>
    intro q p i h hk
    obtain ⟨q, rfl⟩ : ∃ q', q = q' + 1 := ⟨q - 1, by omega⟩
    obtain ⟨j, e1, e2, e3, e4⟩ := scan_first h
    have hj := len1_eq e1
    obtain ⟨a1, a2, a3⟩ := ih e4 (show k ≤ q by omega)
    have ea : argP sg t (k + 1) p = argP sg t k (p + j) := by show argP sg t k (p + len1 sg t p) = _; rw [hj]
    have hsc : scan sg (k + 1) (t.drop p) = some (argP sg t (k + 1) p - p) := by
      have hx := scan_cat (l := (t.drop p).take j) (l' := t.drop (p + j)) (q := 1) (q' := k) (j := argP sg t k (p + j) - (p + j))
        (by have := scan_take e1; rw [this]; have hl := scan_le this; have hl2 := scan_le e1; rw [List.length_take, Nat.min_eq_left hl2]) a1
      have hl2 := scan_le e1
      rw [← List.drop_drop, List.take_append_drop, List.length_take, Nat.min_eq_left hl2, Nat.add_comm 1 k] at hx
      rw [hx, ea]
      congr 1
      omega
    rw [ea] at hsc ⊢
    exact ⟨hsc, by omega, by omega⟩
theorem places_get {sg t : List Int} : ∀ {q p k : Nat}, k < q → (places sg t q p).getD k 0 = (argP sg t k p : Int) := by
  intro q
  induction q with
  | zero => intro p k h; omega
  | succ q ih =>
    intro p k h
    cases k with
    | zero => rfl
    | succ k =>
      show ((p : Int) :: places sg t q (p + len1 sg t p)).getD (k + 1) 0 = _
      rw [List.getD_cons_succ, ih (by omega)]
      rfl
def arN (sg t : List Int) (p : Nat) : Nat := (ar sg (t.getD p 0)).toNat
inductive Trail (sg t : List Int) (at_ : Nat) : Nat → List Int → List Int → Prop
  | here : Trail sg t at_ at_ [] []
  | down {p k : Nat} {ab pa : List Int} (h1 : p < at_) (h2 : k < arN sg t p) (h3 : argP sg t k (p + 1) ≤ at_) (h4 : at_ < argP sg t k (p + 1) + len1 sg t (argP sg t k (p + 1))) (h5 : p < argP sg t k (p + 1)) (h6 : at_ < p + len1 sg t p) (hw : Trail sg t at_ (argP sg t k (p + 1)) ab pa) : Trail sg t at_ p ((p : Int) :: ab) ((k : Int) :: pa)
theorem head_scan {sg t : List Int} (h : termOkB sg t = true) {p : Nat} (hp : p < t.length) : ¬ ar sg (t.getD p 0) < 0 ∧ ∃ i, len1 sg t p = i + 1 ∧ scan sg (arN sg t p) (t.drop (p + 1)) = some i := by
  obtain ⟨i, e, _, h1, h2⟩ := scan_args (term_at h hp).1
  exact ⟨h1, i, e, h2⟩
theorem Trail.here_eq {sg t : List Int} {at_ : Nat} {ab pa : List Int} (h : Trail sg t at_ at_ ab pa) : ab = [] ∧ pa = [] := by
  cases h with
  | here => exact ⟨rfl, rfl⟩
  | down h1 => omega
theorem arg_one {sg t : List Int} {p at_ k k' : Nat} (h3 : argP sg t k p ≤ at_) (h4 : at_ < argP sg t k p + len1 sg t (argP sg t k p)) (h3' : argP sg t k' p ≤ at_) (h4' : at_ < argP sg t k' p + len1 sg t (argP sg t k' p)) : k = k' := by
  rcases Nat.lt_trichotomy k k' with h | h | h
  · have := argP_mono (sg := sg) (t := t) (p := p) (show k + 1 ≤ k' by omega)
    rw [argP_succ] at this
    omega
  · exact h
  · have := argP_mono (sg := sg) (t := t) (p := p) (show k' + 1 ≤ k by omega)
    rw [argP_succ] at this
    omega
theorem Trail.one {sg t : List Int} {at_ p : Nat} {ab pa : List Int} (h : Trail sg t at_ p ab pa) : ∀ {ab' pa' : List Int}, Trail sg t at_ p ab' pa' → ab = ab' ∧ pa = pa' := by
  induction h with
  | here => intro ab' pa' h'; obtain ⟨rfl, rfl⟩ := h'.here_eq; exact ⟨rfl, rfl⟩
  | @down p k ab pa h1 h2 h3 h4 h5 h6 hw ih =>
    intro ab' pa' h'
    cases h' with
    | here => omega
    | @down _ k' ab' pa' g1 g2 g3 g4 g5 g6 gw =>
      obtain rfl := arg_one h3 h4 g3 g4
      obtain ⟨rfl, rfl⟩ := ih gw
      exact ⟨rfl, rfl⟩
theorem Trail.len {sg t : List Int} {at_ p : Nat} {ab pa : List Int} (h : Trail sg t at_ p ab pa) : ab.length = pa.length := by
  induction h with
  | here => rfl
  | down _ _ _ _ _ _ _ ih => simp [ih]
theorem Trail.le {sg t : List Int} {at_ p : Nat} {ab pa : List Int} (h : Trail sg t at_ p ab pa) : p ≤ at_ ∧ pa.length ≤ at_ - p := by
  induction h with
  | here => simp
  | down h1 _ _ _ h5 _ _ ih => simp only [List.length_cons]; omega

def upTo (sg t : List Int) (at_ : Nat) : Nat → Nat → List Int
  | _, 0 => []
  | p, n + 1 => (if at_ < p + len1 sg t p then [(p : Int)] else []) ++ upTo sg t at_ (p + 1) n
theorem upTo_add {sg t : List Int} {at_ : Nat} : ∀ n p m, upTo sg t at_ p (n + m) = upTo sg t at_ p n ++ upTo sg t at_ (p + n) m
  | 0, p, m => by simp [upTo]
  | n + 1, p, m => by
    rw [show n + 1 + m = (n + m) + 1 by omega]
    simp only [upTo]
    rw [upTo_add n (p + 1) m, List.append_assoc, show p + 1 + n = p + (n + 1) by omega]
theorem upTo_skip {sg t : List Int} {at_ : Nat} : ∀ n p, (∀ r, p ≤ r → r < p + n → ¬ at_ < r + len1 sg t r) → upTo sg t at_ p n = []
  | 0, _, _ => rfl
  | n + 1, p, h => by
    simp only [upTo]
    rw [if_neg (h p (by omega) (by omega)), upTo_skip n (p + 1) (fun r h1 h2 => h r (by omega) (by omega))]
    rfl
def aboveL (sg t : List Int) (at_ : Nat) : List Int := upTo sg t at_ 0 at_
theorem Trail.above {sg t : List Int} (hok : termOkB sg t = true) {at_ p : Nat} (hat : at_ < t.length) {ab pa : List Int} (h : Trail sg t at_ p ab pa) : upTo sg t at_ p (at_ - p) = ab := by
  induction h with
  | here => simp [upTo]
  | @down p k ab pa h1 h2 h3 h4 h5 h6 hw ih =>
    obtain ⟨_, i, e, hs⟩ := head_scan hok (show p < t.length by omega)
    obtain ⟨s1, s2, s3⟩ := argP_scan hs (Nat.le_of_lt h2)
    rw [show at_ - p = (argP sg t k (p + 1) - (p + 1)) + (at_ - argP sg t k (p + 1)) + 1 by omega]
    simp only [upTo]
    rw [if_pos h6, upTo_add, upTo_skip (argP sg t k (p + 1) - (p + 1)), show p + 1 + (argP sg t k (p + 1) - (p + 1)) = argP sg t k (p + 1) by omega, ih]
    · rfl
    · intro r r1 r2 r3
      have := (nest s1 r1 (by omega)).1
      omega
theorem Trail.aboveL {sg t : List Int} (hok : termOkB sg t = true) {at_ : Nat} (hat : at_ < t.length) {ab pa : List Int} (h : Trail sg t at_ 0 ab pa) : aboveL sg t at_ = ab := h.above hok hat

def pl (sg t : List Int) (at_ : Nat) : Nat := (aboveL sg t at_).length
theorem over_ge {sg t : List Int} {g : Nat → Int} : ∀ {q k p : Nat}, k < q → g (argP sg t k p) ≤ maxOver sg t g q p := by
  intro q
  induction q with
  | zero => intro k p h; omega
  | succ q ih =>
    intro k p h
    cases k with
    | zero => simp only [maxOver, argP]; omega
    | succ k =>
      have := ih (k := k) (p := p + len1 sg t p) (by omega)
      simp only [maxOver, argP]
      omega
theorem over_nonneg {sg t : List Int} {g : Nat → Int} : ∀ (q p : Nat), 0 ≤ maxOver sg t g q p
  | 0, _ => by simp [maxOver]
  | q + 1, p => by
    have := over_nonneg (sg := sg) (t := t) (g := g) q (p + len1 sg t p)
    simp only [maxOver]
    omega
theorem Trail.depth {sg t : List Int} {at_ p : Nat} {ab pa : List Int} (h : Trail sg t at_ p ab pa) : ∀ f, pa.length < f → (pa.length : Int) + 1 ≤ dep sg t f p := by
  induction h with
  | here =>
    intro f hf
    obtain ⟨f, rfl⟩ : ∃ f', f = f' + 1 := ⟨f - 1, by simp at hf; omega⟩
    have := over_nonneg (sg := sg) (t := t) (g := dep sg t f) (ar sg (t.getD at_ 0)).toNat (at_ + 1)
    simp only [dep, List.length_nil]
    omega
  | @down p k ab pa h1 h2 h3 h4 h5 h6 hw ih =>
    intro f hf
    simp only [List.length_cons] at hf ⊢
    obtain ⟨f, rfl⟩ : ∃ f', f = f' + 1 := ⟨f - 1, by omega⟩
    have e := ih f (by omega)
    have e2 := over_ge (sg := sg) (t := t) (g := dep sg t f) (p := p + 1) h2
    unfold arN at e2
    simp only [dep]
    omega
end Go.Proofs.YtpcnjcgglonifaaGreat.posMath
end

section
namespace Go.Proofs.YtpcnjcgglonifaaGreat.putMath
open sig term termOk termFacts endAt sub args depth termMath posMath

def putL (t : List Int) (a i : Nat) (u : List Int) : List Int := t.take a ++ (u ++ t.drop (a + i))
theorem scan_put {sg u : List Int} (hu : scan sg 1 u = some u.length) : ∀ {a q j i : Nat} {l : List Int}, scan sg q l = some j → a < j → scan sg 1 (l.drop a) = some i → i ≤ j - a ∧ scan sg q (putL l a i u) = some (j - i + u.length) := by
  intro a
  induction a with
  | zero =>
    intro q j i l h ha hi
    cases q with
    | zero => rw [scan_zero] at h; injection h; omega
    | succ q =>
      obtain ⟨i', _, s1, s2⟩ := scan_split (p := 1) (q := q) (by rw [Nat.add_comm]; exact h)
      rw [List.drop_zero] at hi
      rw [hi] at s1
      injection s1 with s1
      subst s1
      have hx := scan_cat hu s2
      refine ⟨by omega, ?_⟩
      unfold putL
      rw [List.take_zero, List.nil_append, Nat.zero_add, Nat.add_comm q 1, hx]
      congr 1
      omega
  | succ a ih =>
    intro q j i l h ha hi
    cases q with
    | zero => rw [scan_zero] at h; injection h; omega
    | succ q =>
      cases l with
      | nil => rw [scan_nil] at h; cases h
      | cons x l =>
        by_cases hx : ar sg x < 0
        · rw [scan_bad hx] at h; cases h
        · rw [scan_step hx] at h
          obtain ⟨j', hj', rfl⟩ := Option.map_eq_some_iff.1 h
          rw [List.drop_succ_cons] at hi
          obtain ⟨e1, e2⟩ := ih hj' (by omega) hi
          refine ⟨by omega, ?_⟩
          have e3 : putL (x :: l) (a + 1) i u = x :: putL l a i u := by
            unfold putL
            rw [List.take_succ_cons, show a + 1 + i = (a + i) + 1 by omega, List.drop_succ_cons]
            rfl
          rw [e3, scan_step hx, e2]
          simp only [Option.map_some]
          congr 1
          omega
def mv (a i n r : Nat) : Nat := if r ≤ a then r else r - i + n

section
variable {sg t u : List Int} {a : Nat}
theorem put_len (hok : termOkB sg t = true) (ha : a < t.length) : (putL t a (len1 sg t a) u).length = t.length - len1 sg t a + u.length := by
  have := term_at hok ha
  unfold putL
  simp only [List.length_append, List.length_take, List.length_drop]
  omega
theorem put_term (hok : termOkB sg t = true) (hu : termOkB sg u = true) (ha : a < t.length) (h60 : (putL t a (len1 sg t a) u).length ≤ 60) : termOkB sg (putL t a (len1 sg t a) u) = true := by
  obtain ⟨h1, h2, h3⟩ := term_parts hok
  refine term_mk h1 h60 ?_
  have := (scan_put (term_parts hu).2.2 h3 ha (term_at hok ha).1).2
  rw [this, put_len hok ha]
theorem drop_at (ha : a ≤ t.length) (i : Nat) : (putL t a i u).drop a = u ++ t.drop (a + i) := by
  unfold putL
  rw [List.drop_append_of_le_length (by simp; omega), List.drop_of_length_le (by simp; omega), List.nil_append]
theorem put_sub (hu : termOkB sg u = true) (ha : a ≤ t.length) (i : Nat) : len1 sg (putL t a i u) a = u.length ∧ subL sg (putL t a i u) a = u := by
  have h : scan sg 1 ((putL t a i u).drop a) = some u.length := by rw [drop_at ha]; exact scan_append (term_parts hu).2.2
  have e := len1_eq h
  refine ⟨e, ?_⟩
  unfold subL
  rw [e, drop_at ha, List.take_left']
  rfl
def Out (sg t : List Int) (a r : Nat) : Prop := r ≤ a ∨ a + len1 sg t a ≤ r
end
end Go.Proofs.YtpcnjcgglonifaaGreat.putMath
end
