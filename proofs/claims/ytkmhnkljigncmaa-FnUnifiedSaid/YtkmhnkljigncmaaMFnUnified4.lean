/-
  MERGED: my texts Filled, DrawMatch, EndOf, Inside, Concat, Sym, CurO, Sub, Args, Depth, TermMath, PosMath, PutMath, one behind the other, as they are. By an AI agent.
-/
import Derived.Test.YtkmhnkljigncmaaMFnUnified3
import Derived.Deep.AppendLies
import Derived.Lib.AppendZeros
import Derived.Deep.LoopGhost
import Derived.WalkSpells
section
/-
  CONTRACTS: spec.l2Filled, spec.Filled, impl.Filled. Conditions: the slices read as lists ('Seg', 'Segs'), at most 1048576 values. By an AI agent.
-/
namespace Go.Proofs.Ytkmhnkljigncmaa.filled
open Go.RowKit Go.Proofs.Ytkmhnkljigncmaa.base Go.Proofs.Ytkmhnkljigncmaa.ints Go.Proofs.Ytkmhnkljigncmaa.sig Go.Proofs.Ytkmhnkljigncmaa.cursor Go.Proofs.Ytkmhnkljigncmaa.term Go.Proofs.Ytkmhnkljigncmaa.termOk Go.Proofs.Ytkmhnkljigncmaa.marks Go.Proofs.Ytkmhnkljigncmaa.app Go.Proofs.Ytkmhnkljigncmaa.appAt Go.Proofs.Ytkmhnkljigncmaa.sym Go.Proofs.Ytkmhnkljigncmaa.sub Go.Proofs.Ytkmhnkljigncmaa.segs Go.Proofs.Ytkmhnkljigncmaa.segsHelp Go.Proofs.Ytkmhnkljigncmaa.termFacts Go.Proofs.Ytkmhnkljigncmaa.varsMath Go.Proofs.Ytkmhnkljigncmaa.varsOf Go.Proofs.Ytkmhnkljigncmaa.fillMath Go.Proofs.Ytkmhnkljigncmaa.look Go.Proofs.Ytkmhnkljigncmaa.shifted Go.Proofs.Ytkmhnkljigncmaa.substOk Go.Proofs.Ytkmhnkljigncmaa.gives
set_option maxRecDepth 100000

/-- a whole slice appended, at a step of a region that draws -/
theorem stepAppAll {w : World} {ops : Array Oper} {o : Oper} {a : Act} {K : Act → World → Prop} {Q : Exit → Act → World → Prop} {E : Prop} (hgd : o.guard = none) (s x : Operand)
    (ho : o.op = .call { callee := .builtin .append, args := #[s, x], argTypes := #[24, 24] })
    (base : Nat) (A : Option Addr) (n c : Nat) (xs : List Int) (hs : a.eval s = .slice A n c) (hown : Own w base (.slice A n c) xs)
    (S : Option Addr) (m c2 B : Nat) (ys : List Int) (hx : a.eval x = .slice S m c2) (hseg : Seg w B S m ys) (hm1 : 1 ≤ m) (hn : n ≤ 2097152) (hm : m ≤ 2097152) (hbase : base ≤ w.heap.size)
    (h : ∀ g' c' w', Own w' base (.slice (some ⟨g', 0, none⟩) (n + m) c') (xs ++ ys) → w.grownBy w' (blk A) → (blk A = some g' ∨ g' = w.heap.size) → g' < w'.heap.size → K (a.put o.dst (.slice (some ⟨g', 0, none⟩) (n + m) c')) w') :
    if Region.wanted o (yielded ops a.tmps) = true then Oper.wp Try.prog o a w K Q else E := by
  obtain ⟨i0, hi, hz0, hz1, hz2⟩ := info_parts info_i64
  have hl : xs.length = n := by
    obtain ⟨A', c', e⟩ := hown.slice
    exact (Value.slice.inj e).2.1.symm
  have hob : (Value.slice A n c).ownBlock = blk A := by cases A <;> rfl
  obtain ⟨b, off, e, _, hc⟩ := hseg.2 (by omega)
  subst e
  refine step_append_lies w hgd s x 24 ho base 2 i0 (.int .i64 0) 1 8 Try.underlying24 hi hz0 hz1 hz2 rfl (by decide) (.slice A n c) n (xs.map (Value.int .i64)) hs (by rw [← hl]; rw [← hl] at hown; exact hown)
    ⟨b, off, none⟩ m c2 (ys.map (Value.int .i64)) hx (by simp [hseg.1]) (fun j u hj => ?_) (fun u hu => ?_) (by omega) (by unfold maxLen; omega) (by omega) hbase w.heap.size rfl ?_
  · have hjl : j < m := by
      have := (List.getElem?_eq_some_iff.1 hj).1
      simp at this
      have := hseg.1
      omega
    have hcj := hc j hjl
    have e2 : (⟨b, off, none⟩ : Addr).add j = ⟨b, off + j, none⟩ := by unfold Addr.add; split <;> simp_all
    rw [e2, hcj, ← hj]
    have := hseg.1
    simp [List.getD, show j < ys.length by omega]
  · obtain ⟨y, _, rfl⟩ := List.mem_map.1 hu
    rfl
  · intro g' c' w' hown' hg hat hlt
    rw [← List.map_append] at hown'
    rw [hob] at hg hat
    refine h g' c' w' ?_ hg hat hlt
    have hl2 : (xs ++ ys).length = n + m := by simp [hl, hseg.1]
    unfold Own
    rw [hl2]
    exact hown'

/-- what filling answers -/
def fitsB (ss : List (List Int)) (t : List Int) : Bool := decide ((fillL (givesL ss) t).length ≤ 60)
def fitL (ss : List (List Int)) (t : List Int) : List Int := if fitsB ss t = true then fillL (givesL ss) t else []
theorem fits_no {ss : List (List Int)} {t : List Int} {k : Nat} (h : 60 < (fillL (givesL ss) (t.take k)).length) : fitsB ss t = false := by
  have e : fillL (givesL ss) t = fillL (givesL ss) (t.take k) ++ fillL (givesL ss) (t.drop k) := by rw [← fill_append, List.take_append_drop]
  unfold fitsB
  rw [e, List.length_append]
  simp
  omega

/-- the head of l2Filled's loop -/
def HeadF (w : World) (S : Option Addr) (m c mt : Nat) (ss : List (List Int)) (t : List Int) (out i : Value) (wr : World) : Prop :=
  ∃ (k : Nat) (O : Option Addr) (on oc : Nat), k ≤ mt ∧ i = .int .i64 k ∧ out = .slice O on oc ∧ on ≤ 60 ∧ Own wr (w.heap.size + 1) (.slice O on oc) (fillL (givesL ss) (t.take k)) ∧ Row wr w.heap.size 31 #[.slice S m c] ∧ Below w.heap.size w wr
theorem pairF_no {w wr : World} {ss : List (List Int)} {t : List Int} (h : fitsB ss t = false) (hb : Below w.heap.size w wr) : AnsPairO w (fitL ss t) (fitsB ss t) (.returned (.tuple #[.slice (some ⟨wr.heap.size, 0, none⟩) 0 0, .bool false])) (wr.alloc (.cells #[] 2)) :=
  ⟨_, 0, 0, by rw [h], by unfold fitL; rw [if_neg (by rw [h]; simp)]; exact own_empty wr w.heap.size hb.size, hb.alloc hb.size _⟩

set_option maxHeartbeats 8000000 in
theorem l2Filled (S A : Option Addr) (m c mt ct : Nat) (ss : List (List Int)) (t : List Int) (w : World) (h : Segs w w.heap.size S m ss) (h' : Seg w w.heap.size A mt t) (ht : tot ss ≤ 1048576) (hmt : mt ≤ 60) (hv : ∀ x ∈ t, -24 ≤ x) (hM : ∀ i, (givesL ss i).length ≤ 60) :
    Calls Try.prog 70 #[.agg #[.slice S m c], .slice A mt ct] w (AnsPairO w (fitL ss t) (fitsB ss t)) := by
  have HL := Lib.hid h'.1
  have HV := Lib.hid hv
  have HM := Lib.hid hM
  have HT := Lib.hid ht
  have S0 : HeadF w S m c mt ss t (.slice (some ⟨w.heap.size + 1, 0, none⟩) 0 0) (.int .i64 0) ((w.alloc (.cells #[.slice S m c] 31)).alloc (.cells #[] 2)) :=
    ⟨0, _, _, _, Nat.zero_le _, rfl, rfl, by omega, by have := own_empty (w.alloc (.cells #[.slice S m c] 31)) (w.heap.size + 1) (by simp); simpa [fillL] using this, (Row.new _ _ _).alloc _, ((Below.refl _ _).alloc (Nat.le_refl _) _).alloc (by simp) _⟩
  have HS0 := Lib.hid S0
  clear S0 hv hM ht
  go_enter Try.func70, Try.ntmps70
  go_wp2_with fail
  go_loopw [6, 7] (fun out i wr => HeadF w S m c mt ss t out i wr) (fun _ i _ => mt - (intOf i).toNat)
  case atStart => exact HS0.out
  case round =>
    obtain ⟨k, O, on, oc, hk, rfl, rfl, hon, ho, hr, hb⟩ := hrel
    clear HS0
    have hsz := hr.lt
    by_cases hlt : k < mt
    · obtain ⟨b, off, x, rfl, hbb, hx, ex⟩ := h'.spot hlt
      have hx1 : wr.cell? ⟨b, off + k, none⟩ = some (.int .i64 x) := (hb.cell (p := ⟨b, off + k, none⟩) hbb).trans hx
      have hbr : b < wr.heap.size := Nat.lt_of_lt_of_le hbb hb.size
      have cS : wr.cell? ⟨w.heap.size, 0, none⟩ = some (.slice S m c) := hr.cell 0
      have hmem : x ∈ t := by
        have hkl : k < t.length := by rw [HL.out]; exact hlt
        have := ex.out
        rw [← this]
        simp [List.getD, hkl]
      have hx24 : -24 ≤ x := HV.out x hmem
      have E := Lib.hid (fill_take (L := givesL ss) (t := t) (k := k) (by rw [HL.out]; exact hlt) ex.out)
      have i0 : (0 : Int) ≤ (k : Int) := by omega
      have i1 : (k : Int) < (mt : Int) := by omega
      have HN := Lib.hid (Own.len ho)
      have hx0 := hx
      clear hmem hx h' ex
      by_cases hpos : 0 ≤ x
      · have R := Lib.hid (rep_sym (L := givesL ss) hpos)
        have d1 : decide (x < 0) = false := by simp; omega
        by_cases h60 : on + 1 ≤ 60
        · go_wp2_with (at_builtin; refine app1 rfl _ _ rfl (w.heap.size + 1) O on oc (fillL (givesL ss) (t.take k)) rfl (Own.alloc ho _) wr.heap.size 1 x rfl ((Row.new _ _ _).cell 0) (by omega) (by simp; omega) ?_; intro O' oc' w2 ho2 b2)
          have S1 : HeadF w S m c mt ss t (.slice O' (on + 1) oc') (.int .i64 ((k : Int) + 1)) w2 := ⟨k + 1, O', on + 1, oc', hlt, by simp, rfl, h60, by rw [E.out, R.out]; exact ho2, (hr.alloc _).below b2 (Nat.lt_succ_self _), (hb.alloc (Nat.le_of_lt hsz) _).trans (b2.mono (Nat.le_succ _))⟩
          have HS1 := Lib.hid S1
          clear S1 ho2 b2 ho hr hb R E cS
          go_wp2
          go_roundw
          case rel => exact HS1.out
          case measure => simp [intOf]; omega
        · have NO := Lib.hid (fits_no (ss := ss) (t := t) (k := k + 1) (by rw [E.out, R.out, List.length_append, ← HN.out]; simp; omega))
          go_wp2_with (at_builtin; refine app1 rfl _ _ rfl (w.heap.size + 1) O on oc (fillL (givesL ss) (t.take k)) rfl (Own.alloc ho _) wr.heap.size 1 x rfl ((Row.new _ _ _).cell 0) (by omega) (by simp; omega) ?_; intro O' oc' w2 ho2 b2)
          have F := Lib.hid (pairF_no NO.out ((hb.alloc (Nat.le_of_lt hsz) _).trans (b2.mono (Nat.le_succ _))))
          clear ho2 b2 ho hr hb R E cS
          go_wp2
          go_ret2
          exact F.out
      · have hneg : x < 0 := by omega
        have R := Lib.hid (rep_var (L := givesL ss) hneg)
        obtain ⟨i, hi⟩ : ∃ i : Nat, (-1 - x).toNat = i := ⟨_, rfl⟩
        rw [hi] at R
        have hix : (i : Int) = -1 - x := by omega
        have LG := Lib.hid (l2Gives S m c ss i wr.drew (((h.below hb).more hb.size).drew) HT.out (by omega))
        rw [hix] at LG
        have hlen : (givesL ss i).length ≤ 60 := HM.out i
        have hlen1 : 1 ≤ (givesL ss i).length := gives_pos ss i
        obtain ⟨q, hq⟩ : ∃ q, (givesL ss i).length = q := ⟨_, rfl⟩
        rw [hq] at hlen hlen1
        have HQ := Lib.hid hq
        have hw1 : IntKind.i64.wrap (-1 - x) = -1 - x := by rw [IntKind.wrap_i64]; omega
        have hod := Own.drew ho
        have hrd := hr.drew
        have hbd := hb.drew
        clear hix hi hq h
        go_wp2_with fail
        go_region_held3 (fun w' => w'.cell? ⟨w.heap.size, 0, none⟩ = some (.slice S m c) ∧ w'.cell? ⟨b, off + k, none⟩ = some (.int .i64 x))
          (go_keep)
          (first
            | (go_at_call 66; refine LG.out.mono ?_; rintro e w1 ⟨D, dn, dc, rfl, od, bb⟩; obtain rfl : dn = q := (by rw [Own.len od]; exact HQ.out); have ho1 := Own.next hod bb; have hr1 := hrd.next bb; have hb1 := next_trans hbd bb; have cS1 : w1.cell? ⟨w.heap.size, 0, none⟩ = some (.slice S m c) := hr1.cell 0; have cX1 : w1.cell? ⟨b, off + k, none⟩ = some (.int .i64 x) := (bb.cell (p := ⟨b, off + k, none⟩) hbr).trans hx1)
            | (refine stepAppAll rfl _ _ rfl (w.heap.size + 1) O on oc (fillL (givesL ss) (t.take k)) (by rfl) ho1 D _ dc w1.heap.size (givesL ss i) (by rfl) (Own.seg od) (by omega) (by omega) (by omega) (by have := hr1.lt; omega) ?_; intro O' oc' w2 ho2 hg2 hat2 hlt2; have hr2 := Row.away hr1 hg2 (fun e => by have := (World.ownsRow.lt ho1 w.heap.size (by rw [blk_own]; exact e)).1; omega); have hb2 : Below w.heap.size w w2 := hb1.grown hg2 hb1.size (fun z hz => by have := (World.ownsRow.lt ho1 z (by rw [blk_own]; exact hz)).1; omega); have cS2 : w2.cell? ⟨w.heap.size, 0, none⟩ = some (.slice S m c) := hr2.cell 0; have cX2 : w2.cell? ⟨b, off + k, none⟩ = some (.int .i64 x) := (hb2.cell (p := ⟨b, off + k, none⟩) hbb).trans hx0))
        have hsum : (fillL (givesL ss) (t.take k) ++ givesL ss i).length = on + dn := by rw [List.length_append, ← HN.out, HQ.out]
        clear cS1 cX1 ho1 hr1 hb1 od bb hod hrd hbd LG ho hr hb cS hx1 hg2 hat2 HM HV
        by_cases h60 : on + dn ≤ 60
        · have S1 : HeadF w S m c mt ss t (.slice (some ⟨O', 0, none⟩) (on + dn) oc') (.int .i64 ((k : Int) + 1)) w2 := ⟨k + 1, _, on + dn, oc', hlt, by simp, rfl, h60, by rw [E.out, R.out]; exact ho2, hr2, hb2⟩
          have HS1 := Lib.hid S1
          clear S1 ho2 hr2 hb2 R E HQ hsum
          go_wp2
          go_roundw
          case rel => exact HS1.out
          case measure => simp [intOf]; omega
        · have NO := Lib.hid (fits_no (ss := ss) (t := t) (k := k + 1) (by rw [E.out, R.out, hsum]; omega))
          have F := Lib.hid (pairF_no NO.out hb2)
          clear ho2 hr2 hb2 R E HQ hsum
          go_wp2
          go_ret2
          exact F.out
    · have F : AnsPairO w (fitL ss t) (fitsB ss t) (.returned (.tuple #[.slice O on oc, .bool true])) wr := by
        rw [List.take_of_length_le (by rw [HL.out]; omega)] at ho
        have hB : fitsB ss t = true := by unfold fitsB; rw [← Own.len ho]; simp; omega
        exact ⟨O, on, oc, by rw [hB], by unfold fitL; rw [if_pos hB]; exact Own.lower ho (Nat.le_succ _), hb⟩
      have HF := Lib.hid F
      clear F ho hr hb h h'
      go_wp2
      go_ret2
      exact HF.out

/-- what Filled answers -/
def filledB (sg : List Int) (ss : List (List Int)) (t : List Int) : Bool := substOkB sg ss && (termOkB sg t && fitsB ss t)
def filledL (sg : List Int) (ss : List (List Int)) (t : List Int) : List Int := if filledB sg ss t = true then fillL (givesL ss) t else []
theorem filled_s {sg : List Int} {ss : List (List Int)} {t : List Int} (h : substOkB sg ss = false) : filledB sg ss t = false := by unfold filledB; rw [h, Bool.false_and]
theorem filled_t {sg : List Int} {ss : List (List Int)} {t : List Int} (h : termOkB sg t = false) : filledB sg ss t = false := by unfold filledB; rw [h, Bool.false_and, Bool.and_false]
theorem filled_b {sg : List Int} {ss : List (List Int)} {t : List Int} (h : substOkB sg ss = true) (h' : termOkB sg t = true) : filledB sg ss t = fitsB ss t := by unfold filledB; rw [h, h', Bool.true_and, Bool.true_and]
theorem filled_l {sg : List Int} {ss : List (List Int)} {t : List Int} (h : substOkB sg ss = true) (h' : termOkB sg t = true) : filledL sg ss t = fitL ss t := by unfold filledL fitL; rw [filled_b h h']
theorem filled_len (sg : List Int) (ss : List (List Int)) (t : List Int) : (filledL sg ss t).length ≤ 60 := by
  unfold filledL filledB fitsB
  split
  · rename_i h
    simp only [Bool.and_eq_true, decide_eq_true_eq] at h
    exact h.2.2
  · simp
theorem pairSF_no {w wr : World} {sg : List Int} {ss : List (List Int)} {t : List Int} (h : filledB sg ss t = false) (hb : Below w.heap.size w wr) : AnsPairO w (filledL sg ss t) (filledB sg ss t) (.returned (.tuple #[.slice (some ⟨wr.heap.size, 0, none⟩) 0 0, .bool false])) (wr.alloc (.cells #[] 2)) :=
  ⟨_, 0, 0, by rw [h], by unfold filledL; rw [if_neg (by rw [h]; simp)]; exact own_empty wr w.heap.size hb.size, hb.alloc hb.size _⟩
theorem pairOF_no {w w' : World} {sg : List Int} {ss : List (List Int)} {t : List Int} (h : filledB sg ss t = false) (hb : Below w.heap.size w w') : AnsPairO w (filledL sg ss t) (filledB sg ss t) (.returned (.tuple #[.slice none 0 0, .bool false])) w' :=
  ⟨none, 0, 0, by rw [h], by unfold filledL; rw [if_neg (by rw [h]; simp)]; exact Own.nil _ _, hb⟩

set_option maxHeartbeats 2000000 in
theorem specFilledO (A S A' : Option Addr) (n c m c' q cq : Nat) (sg : List Int) (ss : List (List Int)) (t : List Int) (w : World) (h : Seg w w.heap.size A n sg) (h' : Segs w w.heap.size S m ss) (h2 : Seg w w.heap.size A' q t) (hn : n ≤ 1048576) (ht : tot ss ≤ 1048576) (hq : q ≤ 1048576) :
    Calls Try.prog 18 #[.agg #[.slice A n c], .agg #[.slice S m c'], .slice A' q cq] w (AnsPairO w (filledL sg ss t) (filledB sg ss t)) := by
  obtain ⟨W, hW, rA, rS, bel⟩ := boxes2 w A n c S m c'
  have HW := Lib.hid hW
  have HL := Lib.hid h2.1
  have s := h.next bel
  have s1 := h'.next bel
  have s2 := h2.next bel
  have L := Lib.hid (specSubstOk A S n c m c' sg ss W s s1 hn ht)
  clear hW h h' h2
  cases hok : substOkB sg ss with
  | false =>
    have HS := Lib.hid hok
    clear hok s s1 s2
    go_enter Try.func18, Try.ntmps18
    go_wp2_with fail
    rw [← HW.out]
    refine L.out.mono ?_
    rintro e w1 ⟨he, bb⟩
    rw [HS.out] at he
    subst he
    have bel1 := next_trans bel bb
    have F := Lib.hid (pairSF_no (filled_s (t := t) HS.out) bel1)
    clear bb bel bel1 rA rS
    go_wp2
    go_ret2
    exact F.out
  | true =>
    have HS := Lib.hid hok
    clear hok
    go_enter Try.func18, Try.ntmps18
    go_wp2_with fail
    rw [← HW.out]
    refine L.out.mono ?_
    rintro e w1 ⟨he, bb⟩
    rw [HS.out] at he
    subst he
    replace s := s.next bb
    replace s1 := s1.next bb
    replace s2 := s2.next bb
    replace rA := rA.next bb
    replace rS := rS.next bb
    replace bel := next_trans bel bb
    have cA : w1.cell? ⟨w.heap.size, 0, none⟩ = some (.slice A n c) := rA.cell 0
    have L2 := Lib.hid (specTermOk A A' n c q cq sg t w1 s s2 hn hq)
    clear bb L
    cases hok2 : termOkB sg t with
    | false =>
      have HS2 := Lib.hid hok2
      clear hok2 s s1 s2
      go_wp2_with fail
      refine L2.out.mono ?_
      rintro e w2 ⟨he, bb⟩
      rw [HS2.out] at he
      subst he
      have bel1 := next_trans bel bb
      have F := Lib.hid (pairSF_no (filled_t (ss := ss) HS2.out) bel1)
      clear bb bel bel1 rA rS cA L2
      go_wp2
      go_ret2
      exact F.out
    | true =>
      have HS2 := Lib.hid hok2
      have HV := Lib.hid (fun x hx => (term_mem (x := x) hok2 hx).1)
      have H60 : q ≤ 60 := by rw [← HL.out]; exact (term_len hok2).2
      clear hok2
      go_wp2_with fail
      refine L2.out.mono ?_
      rintro e w2 ⟨he, bb⟩
      rw [HS2.out] at he
      subst he
      replace s1 := s1.next bb
      replace s2 := s2.next bb
      replace bel := next_trans bel bb
      have cS : w2.cell? ⟨w.heap.size + 1, 0, none⟩ = some (.slice S m c') := (rS.next bb).cell 0
      have L3 := Lib.hid (l2Filled S A' m c' q cq ss t w2 s1 s2 ht H60 HV.out (gives_len HS.out))
      clear bb L2 s1 s2 cA rA rS
      go_wp2_with fail
      refine L3.out.mono ?_
      rintro e w3 ⟨O, on, oc, rfl, ho, bb⟩
      have hsz := bel.size
      have F : AnsPairO w (filledL sg ss t) (filledB sg ss t) (.returned (.tuple #[.slice O on oc, .bool (fitsB ss t)])) w3 :=
        ⟨O, on, oc, by rw [filled_b HS.out HS2.out], by rw [filled_l HS.out HS2.out]; exact Own.lower ho hsz, next_trans bel bb⟩
      have HF := Lib.hid F
      clear F ho bb bel L3 cS
      generalize fitsB ss t = z at *
      go_wp2
      go_ret2
      exact HF.out

theorem specFilled (A S A' : Option Addr) (n c m c' q cq : Nat) (sg : List Int) (ss : List (List Int)) (t : List Int) (w : World) (h : Seg w w.heap.size A n sg) (h' : Segs w w.heap.size S m ss) (h2 : Seg w w.heap.size A' q t) (hn : n ≤ 1048576) (ht : tot ss ≤ 1048576) (hq : q ≤ 1048576) :
    Calls Try.prog 18 #[.agg #[.slice A n c], .agg #[.slice S m c'], .slice A' q cq] w (AnsPairS w (filledL sg ss t) (filledB sg ss t)) :=
  (specFilledO A S A' n c m c' q cq sg ss t w h h' h2 hn ht hq).mono fun _ _ ⟨A0, n0, c0, e, ho, hb⟩ => ⟨A0, n0, c0, e, Own.seg ho, hb⟩

set_option maxHeartbeats 4000000 in
theorem implFilled (A S A' : Option Addr) (n c m c' q cq : Nat) (sg : List Int) (ss : List (List Int)) (t : List Int) (w : World) (h : Seg w w.heap.size A n sg) (h' : Segs w w.heap.size S m ss) (h2 : Seg w w.heap.size A' q t) (hn : n ≤ 1048576) (ht : tot ss ≤ 1048576) (hq : q ≤ 1048576) :
    Calls Try.prog 21 #[.agg #[.slice A n c], .agg #[.slice S m c'], .slice A' q cq] w (AnsPairO w (filledL sg ss t) (filledB sg ss t)) := by
  obtain ⟨W, hW, rA, rS, bel⟩ := boxes2 w A n c S m c'
  have HW := Lib.hid hW
  have HL := Lib.hid h2.1
  have hm : m ≤ 1048576 := tot_len h'.1 ht
  have s := h.next bel
  have s1 := h'.next bel
  have s2 := h2.next bel
  have L := Lib.hid (implSubstOk A S n c m c' sg ss W s s1 hn ht)
  clear hW h h' h2
  cases hok : substOkB sg ss with
  | false =>
    have HS := Lib.hid hok
    clear hok s s1 s2
    go_enter Try.func21, Try.ntmps21
    go_wp2_with fail
    rw [← HW.out]
    refine L.out.mono ?_
    rintro e w1 ⟨he, bb⟩
    rw [HS.out] at he
    subst he
    have F := Lib.hid (pairOF_no (filled_s (t := t) HS.out) (next_trans bel bb))
    clear bb bel rA rS
    go_wp2
    go_ret2
    exact F.out
  | true =>
    have HS := Lib.hid hok
    clear hok
    go_enter Try.func21, Try.ntmps21
    go_wp2_with fail
    rw [← HW.out]
    refine L.out.mono ?_
    rintro e w1 ⟨he, bb⟩
    rw [HS.out] at he
    subst he
    replace s := s.next bb
    replace s1 := s1.next bb
    replace s2 := s2.next bb
    replace rA := rA.next bb
    replace rS := rS.next bb
    replace bel := next_trans bel bb
    have cA : w1.cell? ⟨w.heap.size, 0, none⟩ = some (.slice A n c) := rA.cell 0
    have L2 := Lib.hid (implTermOk A A' n c q cq sg t w1 s s2 hn hq)
    clear bb L
    cases hok2 : termOkB sg t with
    | false =>
      have HS2 := Lib.hid hok2
      clear hok2 s s1 s2
      go_wp2_with fail
      refine L2.out.mono ?_
      rintro e w2 ⟨he, bb⟩
      rw [HS2.out] at he
      subst he
      have F := Lib.hid (pairOF_no (filled_t (ss := ss) HS2.out) (next_trans bel bb))
      clear bb bel rA rS cA L2
      go_wp2
      go_ret2
      exact F.out
    | true =>
      have HS2 := Lib.hid hok2
      have HV := Lib.hid (fun x hx => (term_mem (x := x) hok2 hx).1)
      have H60 : q ≤ 60 := by rw [← HL.out]; exact (term_len hok2).2
      have HG := Lib.hid (gives_len HS.out)
      clear hok2
      go_wp2_with fail
      refine L2.out.mono ?_
      rintro e w2 ⟨he, bb⟩
      rw [HS2.out] at he
      subst he
      replace s1 := s1.next bb
      replace s2 := s2.next bb
      replace bel := next_trans bel bb
      have cS : w2.cell? ⟨w.heap.size + 1, 0, none⟩ = some (.slice S m c') := (rS.next bb).cell 0
      clear bb L2 cA rA rS
      go_wp2_with fail
      refine (lookupIn S m c' w2).mono ?_
      rintro e w3 ⟨rfl, hw3⟩
      have b3 : Below w2.heap.size w2 w3 := by rw [hw3]; exact (Below.refl _ _).alloc (Nat.le_refl _) _
      have r3 : Row w3 w2.heap.size 31 #[.slice S m c'] := by rw [hw3]; exact Row.new _ _ _
      replace s1 := s1.next b3
      replace s2 := s2.next b3
      replace bel := next_trans bel b3
      have L3 := Lib.hid (fill 112 #[.pointer (some ⟨w2.heap.size, 0, none⟩)] (enters_of Try.func112 (by kernel_rfl) rfl) A' q cq t _ w3 (lookSubst w2.heap.size S m c' ss w3 r3 s1 hm) s2 H60 HV.out (fun i => Nat.le_trans (HG.out i) (by omega)))
      clear hw3 b3 r3 s1 s2 cS
      go_wp2_with fail
      refine L3.out.mono ?_
      rintro e w4 ⟨O, on, oc, rfl, ho, bb⟩
      have hsize := bel.size
      replace bel := next_trans bel bb
      have ho2 := Own.lower ho hsize
      have hlen := Own.len ho
      have hon : on ≤ 245760 := by rw [hlen]; have := fill_bound (L := givesL ss) (t := t) (k := t.length) (fun i => Nat.le_trans (HG.out i) (by omega)) HL.out H60; rwa [List.take_length] at this
      have F : ∀ z : Bool, z = decide (60 < on) → AnsPairO w (filledL sg ss t) (filledB sg ss t) (.returned (.tuple #[.slice (if z then none else O) (if z then 0 else on) (if z then 0 else oc), .bool !z])) w4 := fun z hz => by
        by_cases h60 : 60 < on
        · rw [decide_eq_true h60] at hz
          subst hz
          exact pairOF_no (by rw [filled_b HS.out HS2.out]; unfold fitsB; rw [← hlen]; simp; omega) bel
        · rw [decide_eq_false h60] at hz
          subst hz
          have hb : filledB sg ss t = true := by rw [filled_b HS.out HS2.out]; unfold fitsB; rw [← hlen]; simp; omega
          exact ⟨O, on, oc, by rw [hb]; rfl, by unfold filledL; rw [if_pos hb]; exact ho2, bel⟩
      have HF := Lib.hid F
      clear F ho ho2 bb bel L3 hlen
      go_wp2_with fail
      refine (tooLong O on oc w4 (by omega)).mono ?_
      rintro e w5 ⟨rfl, rfl⟩
      obtain ⟨z, hz⟩ : ∃ z, decide (60 < on) = z := ⟨_, rfl⟩
      have G := Lib.hid (HF.out z hz.symm)
      rw [hz]
      clear HF hz
      cases z
      · go_wp2
        go_ret2
        exact G.out
      · go_wp2
        go_ret2
        exact G.out
end Go.Proofs.Ytkmhnkljigncmaa.filled
end

section
/-
  CONTRACT: spec.l4Draw: a drawn signature, a pattern, a term. Conditions: a cursor ('Dice'). By an AI agent.
-/
namespace Go.Proofs.Ytkmhnkljigncmaa.drawMatch
open Go.RowKit Go.Proofs.Ytkmhnkljigncmaa.base Go.Proofs.Ytkmhnkljigncmaa.ints Go.Proofs.Ytkmhnkljigncmaa.sig Go.Proofs.Ytkmhnkljigncmaa.term Go.Proofs.Ytkmhnkljigncmaa.cursor Go.Proofs.Ytkmhnkljigncmaa.termOk Go.Proofs.Ytkmhnkljigncmaa.marks Go.Proofs.Ytkmhnkljigncmaa.app Go.Proofs.Ytkmhnkljigncmaa.sym Go.Proofs.Ytkmhnkljigncmaa.segs Go.Proofs.Ytkmhnkljigncmaa.segsHelp Go.Proofs.Ytkmhnkljigncmaa.dice Go.Proofs.Ytkmhnkljigncmaa.drawSig Go.Proofs.Ytkmhnkljigncmaa.drawTerm Go.Proofs.Ytkmhnkljigncmaa.drawAny Go.Proofs.Ytkmhnkljigncmaa.drawTwo Go.Proofs.Ytkmhnkljigncmaa.drawPair Go.Proofs.Ytkmhnkljigncmaa.drawOne Go.Proofs.Ytkmhnkljigncmaa.drawSub Go.Proofs.Ytkmhnkljigncmaa.drawSA Go.Proofs.Ytkmhnkljigncmaa.drawSS Go.Proofs.Ytkmhnkljigncmaa.drawS Go.Proofs.Ytkmhnkljigncmaa.fillMath Go.Proofs.Ytkmhnkljigncmaa.shifted Go.Proofs.Ytkmhnkljigncmaa.filled
set_option maxRecDepth 100000

/-- what is known in the course of the draw: the result's box at w.heap.size, the signature's variable at v -/
structure M4 (w : World) (p : Nat) (A : Option Addr) (n c v : Nat) (S : Option Addr) (sn sc : Nat) (sg : List Int) (O : Option Addr) (on : Nat) (xs : List Int) (wr : World) : Prop where
  d : Dice wr p A n c
  rN : Row wr w.heap.size 26 #[.slice none 0 0]
  rV : Row wr v 26 #[.slice S sn sc]
  s : Rd wr p wr.heap.size S sn sg
  o : Rd wr p wr.heap.size O on xs
  g : w.grownBy wr (some p)
  hp : p < w.heap.size
  hv : w.heap.size < v
section
variable {w : World} {p : Nat} {A : Option Addr} {n c v : Nat} {S : Option Addr} {sn sc : Nat} {sg : List Int} {O : Option Addr} {on : Nat} {xs : List Int} {wr w' : World}
theorem M4.dice (t : M4 w p A n c v S sn sc sg O on xs wr) (d : Dice w' p A n c) (hg : wr.grownBy w' (some p)) : M4 w p A n c v S sn sc sg O on xs w' :=
  ⟨d, Row.away t.rN hg (fun e => by injection e; have := t.hp; omega), Row.away t.rV hg (fun e => by injection e; have := t.hp; have := t.hv; omega), (t.s.grown hg (Nat.le_refl _)).more hg.size, (t.o.grown hg (Nat.le_refl _)).more hg.size, grown_trans t.g hg, t.hp, t.hv⟩
theorem M4.next (t : M4 w p A n c v S sn sc sg O on xs wr) (hb : Below wr.heap.size wr w') : M4 w p A n c v S sn sc sg O on xs w' :=
  ⟨t.d.next hb, t.rN.next hb, t.rV.next hb, (t.s.below hb (Nat.le_refl _)).more hb.size, (t.o.below hb (Nat.le_refl _)).more hb.size, grown_over t.g hb t.g.size, t.hp, t.hv⟩
theorem M4.drew (t : M4 w p A n c v S sn sc sg O on xs wr) : M4 w p A n c v S sn sc sg O on xs wr.drew := t.next ⟨rfl, rfl, rfl, Nat.le_refl _, fun _ _ => rfl⟩
end

/-- a drawn signature and two drawn lists, in no block of the cursor's -/
def AnsM4 (w : World) (p : Nat) (A : Option Addr) (n c : Nat) (e : Ending) (w' : World) : Prop :=
  ∃ S sn sc sg O on oc xs Q qn qc ys, e = .returned (.tuple #[.agg #[.slice S sn sc], .slice O on oc, .slice Q qn qc]) ∧ Rd w' p w'.heap.size S sn sg ∧ Rd w' p w'.heap.size O on xs ∧ Rd w' p w'.heap.size Q qn ys ∧ sn ≤ 9 ∧ (on ≤ 65 ∧ Cap O on oc) ∧ (qn ≤ 65 ∧ Cap Q qn qc) ∧ Dice w' p A n c ∧ w.grownBy w' (some p)
theorem m4_of {w u : World} {p : Nat} {A : Option Addr} {n c v : Nat} {S : Option Addr} {sn sc : Nat} {sg : List Int} {O : Option Addr} {on oc : Nat} {xs : List Int} {Q : Option Addr} {qn qc : Nat} {ys : List Int} (t : M4 w p A n c v S sn sc sg O on xs u) (hq : Rd u p u.heap.size Q qn ys)
    (h1 : sn ≤ 9) (h2 : on ≤ 65 ∧ Cap O on oc) (h3 : qn ≤ 65 ∧ Cap Q qn qc) : AnsM4 w p A n c (.returned (.tuple #[.agg #[.slice S sn sc], .slice O on oc, .slice Q qn qc])) (u.setCell ⟨w.heap.size, 0, none⟩ (.slice S sn sc)) :=
  ⟨S, sn, sc, sg, O, on, oc, xs, Q, qn, qc, ys, rfl, (Rd.other t.s (t.rN.cell 0) _).more (by simp), (Rd.other t.o (t.rN.cell 0) _).more (by simp), (Rd.other hq (t.rN.cell 0) _).more (by simp), h1, h2, h3, Dice.other t.d (t.rN.cell 0) (by have := t.hp; omega) _, grown_set t.g (Nat.le_refl _) _ _⟩

set_option maxHeartbeats 8000000 in
theorem l4Draw (p : Nat) (A : Option Addr) (n c : Nat) (w : World) (hd : Dice w p A n c) :
    Calls Try.prog 80 #[.pointer (some ⟨p, 0, none⟩)] w (AnsM4 w p A n c) := by
  have hp := hd.lt
  obtain ⟨W0, hW0⟩ : ∃ W0, W0 = w.alloc (.cells #[.slice none 0 0] 26) := ⟨_, rfl⟩
  have rN : Row W0 w.heap.size 26 #[.slice none 0 0] := by rw [hW0]; exact Row.new _ _ _
  have d0 : Dice W0 p A n c := by rw [hW0]; exact hd.alloc _
  have g0 : w.grownBy W0 (some p) := by rw [hW0]; exact World.grownBy_alloc _ _ _
  have L2 := Lib.hid (drawSigAny p A n c W0 d0)
  have hp1 := d0.lt
  have HW0 := Lib.hid hW0
  clear hd d0 hW0
  go_enter Try.func80, Try.ntmps80
  go_wp2_with fail
  rw [← HW0.out]
  refine L2.out.mono ?_
  rintro e w2 ⟨S, sn, sc, sg, rfl, o2, hshort, d2, g2⟩
  have hsn : sn ≤ 9 := by rw [Own.len o2]; exact hshort
  have z0 := rN.lt
  have z2 := g2.size
  replace rN := Row.away rN g2 (fun e => by injection e; omega)
  have G2 := grown_trans g0 g2
  obtain ⟨W, hW⟩ : ∃ W, W = w2.alloc (.cells #[.slice S sn sc] 26) := ⟨_, rfl⟩
  obtain ⟨v, hv⟩ : ∃ v, w2.heap.size = v := ⟨_, rfl⟩
  have bb : Below w2.heap.size w2 W := by rw [hW]; exact (Below.refl _ _).alloc (Nat.le_refl _) _
  have T0 : M4 w p A n c v S sn sc sg none 0 [] W :=
    ⟨d2.next bb, rN.next bb, by rw [hW, ← hv]; exact Row.new _ _ _, ((Rd.of_own o2 hp1).below bb (Nat.le_refl _)).more bb.size, ⟨rfl, fun h => absurd h (by omega)⟩, grown_over G2 bb G2.size, hp, by omega⟩
  have HV := Lib.hid hv
  have HW := Lib.hid hW
  have cV : W.cell? ⟨v, 0, none⟩ = some (.slice S sn sc) := T0.rV.cell 0
  have L3 := Lib.hid (drawAny p A n c S sn sc sg W T0.d T0.s (by omega))
  have zNv : w.heap.size < v := T0.hv
  have zne1 : ¬ v = w.heap.size := by omega
  have zne2 : ¬ w.heap.size = v := by omega
  clear o2 hshort d2 g2 g0 hW hv L2 rN bb G2 z2
  go_wp2_with fail
  rw [← HW.out, HV.out]
  refine L3.out.mono ?_
  rintro e w4 ⟨O, on, oc, xs, rfl, ro, h1, h2, h3, h4, d4, g4⟩
  have hO : on ≤ 65 ∧ Cap O on oc := ⟨h4, h1, h2, h3⟩
  replace T0 := T0.dice d4 g4
  have T : M4 w p A n c v S sn sc sg O on xs w4 := ⟨T0.d, T0.rN, T0.rV, T0.s, ro, T0.g, T0.hp, T0.hv⟩
  have T1 := T.drew
  have cV4 : w4.cell? ⟨v, 0, none⟩ = some (.slice S sn sc) := T.rV.cell 0
  clear T0 T ro d4 g4 cV L3 h1 h2 h3
  go_wp2_with fail
  go_region_held3 (fun w' => w'.cell? ⟨v, 0, none⟩ = some (.slice S sn sc))
    (go_keep)
    (first
      | (go_at_call 68; refine (drawAnyS p A n c S sn sc sg w4.drew T1.d T1.s (by omega)).mono ?_; rintro e w5 ⟨B, m, cB, xss, rfl, own5, hsm5, d5, g5⟩; have hxt := small_tot hsm5 own5.1 (by omega); have T2 := T1.dice d5 g5; have cV5 : w5.cell? ⟨v, 0, none⟩ = some (.slice S sn sc) := T2.rV.cell 0)
      | (go_at_call 18; refine (specFilledO S B O sn sc m cB on oc sg xss xs w5 T2.s.seg (OwnR.segs own5) T2.o.seg (by omega) hxt (by omega)).mono ?_; rintro e w6 ⟨Q, qn, qc, rfl, oq, b6⟩; have T3 := T2.next b6; have cV6 : w6.cell? ⟨v, 0, none⟩ = some (.slice S sn sc) := T3.rV.cell 0))
  have hqn : qn ≤ 65 := by have e1 := Own.len oq; have e2 := filled_len sg xss xs; omega
  have hQ : qn ≤ 65 ∧ Cap Q qn qc := ⟨hqn, (Own.cap oq).1, (Own.cap oq).2, Own.none_cap oq⟩
  have rq : Rd w6 p w6.heap.size Q qn (filledL sg xss xs) := Rd.of_own oq (by have := T2.g.size; have := T2.hp; omega)
  generalize filledL sg xss xs = ys at rq
  generalize filledB sg xss xs = z at *
  clear oq b6 own5 d5 g5 cV5 cV4 T1 T2 hxt hsm5
  cases z with
  | false =>
    go_wp2_with fail
    refine (drawAny p A n c S sn sc sg w6 T3.d T3.s (by omega)).mono ?_
    rintro e w9 ⟨R, rn, rc, zs, rfl, ra, h1, h2, h3, h4, d9, g9⟩
    have T9 := T3.dice d9 g9
    have cN : w9.cell? ⟨w.heap.size, 0, none⟩ = some (.slice none 0 0) := T9.rN.cell 0
    have fN : w9.frozen? ⟨w.heap.size, 0, none⟩ = false := T9.rN.free 0
    have cF : w9.cell? ⟨v, 0, none⟩ = some (.slice S sn sc) := T9.rV.cell 0
    have F := Lib.hid (m4_of (oc := oc) (qc := rc) T9 ra hsn hO ⟨h4, h1, h2, h3⟩)
    clear T9 T3 ra rq d9 g9 cV6
    go_wp2
    exact bodyPost_ret (v := .tuple #[.agg #[.slice S sn sc], .slice O on oc, .slice R rn rc]) (by simp [results, Try.results80, go_sem, cN]) rfl F.out
  | true =>
    go_wp2_with fail
    refine (once p A n c 3 w6 T3.d (by omega) (by omega)).mono ?_
    rintro e w7 ⟨b, rfl, d7, g7⟩
    have T4 := T3.dice d7 g7
    have rq4 : Rd w7 p w7.heap.size Q qn ys := (rq.grown g7 (Nat.le_refl _)).more g7.size
    have cV7 : w7.cell? ⟨v, 0, none⟩ = some (.slice S sn sc) := T4.rV.cell 0
    clear d7 g7 T3 rq cV6
    cases b with
    | true =>
      go_wp2_with fail
      refine (drawAny p A n c S sn sc sg w7 T4.d T4.s (by omega)).mono ?_
      rintro e w9 ⟨R, rn, rc, zs, rfl, ra, h1, h2, h3, h4, d9, g9⟩
      have T9 := T4.dice d9 g9
      have cN : w9.cell? ⟨w.heap.size, 0, none⟩ = some (.slice none 0 0) := T9.rN.cell 0
      have fN : w9.frozen? ⟨w.heap.size, 0, none⟩ = false := T9.rN.free 0
      have cF : w9.cell? ⟨v, 0, none⟩ = some (.slice S sn sc) := T9.rV.cell 0
      have F := Lib.hid (m4_of (oc := oc) (qc := rc) T9 ra hsn hO ⟨h4, h1, h2, h3⟩)
      clear T9 T4 ra rq4 d9 g9 cV7
      go_wp2
      exact bodyPost_ret (v := .tuple #[.agg #[.slice S sn sc], .slice O on oc, .slice R rn rc]) (by simp [results, Try.results80, go_sem, cN]) rfl F.out
    | false =>
      have cN : w7.cell? ⟨w.heap.size, 0, none⟩ = some (.slice none 0 0) := T4.rN.cell 0
      have fN : w7.frozen? ⟨w.heap.size, 0, none⟩ = false := T4.rN.free 0
      have cF : w7.cell? ⟨v, 0, none⟩ = some (.slice S sn sc) := T4.rV.cell 0
      have F := Lib.hid (m4_of (oc := oc) (qc := qc) T4 rq4 hsn hO hQ)
      clear T4 rq4 cV7
      go_wp2
      exact bodyPost_ret (v := .tuple #[.agg #[.slice S sn sc], .slice O on oc, .slice Q qn qc]) (by simp [results, Try.results80, go_sem, cN]) rfl F.out
end Go.Proofs.Ytkmhnkljigncmaa.drawMatch
end

section
/-
  CONTRACTS: spec.l1There, impl.cursorAt, spec.EndOf, impl.EndOf. Conditions: the slices read as lists ('Seg'), at most 1048576 numbers; the place is an int64. By an AI agent.
-/
namespace Go.Proofs.Ytkmhnkljigncmaa.endAt
open Go.RowKit Go.Proofs.Ytkmhnkljigncmaa.base Go.Proofs.Ytkmhnkljigncmaa.ints Go.Proofs.Ytkmhnkljigncmaa.sig Go.Proofs.Ytkmhnkljigncmaa.term Go.Proofs.Ytkmhnkljigncmaa.arity Go.Proofs.Ytkmhnkljigncmaa.endOf Go.Proofs.Ytkmhnkljigncmaa.cursor Go.Proofs.Ytkmhnkljigncmaa.termOk

def inB (t : List Int) (x : Int) : Bool := decide (0 ≤ x ∧ x < t.length)
def thereB (sg t : List Int) (x : Int) : Bool := termOkB sg t && inB t x
def endOfI (sg t : List Int) (x : Int) : Int := if thereB sg t x = true then endI sg t x.toNat else -1

theorem termOk_parts {sg t : List Int} (h : termOkB sg t = true) : sigOkB sg = true ∧ t.length ≤ 60 ∧ scan sg 1 t = some t.length := by
  unfold termOkB termB at h
  simp only [Bool.and_eq_true, decide_eq_true_eq] at h
  exact h
theorem there_parts {sg t : List Int} {x : Int} (h : thereB sg t x = true) : termOkB sg t = true ∧ 0 ≤ x ∧ x < t.length := by
  unfold thereB inB at h
  simp only [Bool.and_eq_true, decide_eq_true_eq] at h
  exact h
theorem there_no {sg t : List Int} {x : Int} (h : termOkB sg t = false ∨ x < 0 ∨ (t.length : Int) ≤ x) : thereB sg t x = false := by
  unfold thereB inB
  rcases h with h | h | h
  · rw [h, Bool.false_and]
  · rw [decide_eq_false (by omega), Bool.and_false]
  · rw [decide_eq_false (by omega), Bool.and_false]
theorem there_yes {sg t : List Int} {x : Int} (h : termOkB sg t = true) (h0 : 0 ≤ x) (h1 : x < t.length) : thereB sg t x = true := by
  unfold thereB inB
  rw [h, decide_eq_true ⟨h0, h1⟩]
  rfl

/-- l1There -/
theorem there (A : Option Addr) (m c : Nat) (x : Int) (b : Bool) (w : World) (hm : m ≤ 1048576) (hb : decide (0 ≤ x ∧ x < m) = b) :
    Calls Try.prog 143 #[.slice A m c, .int .i64 x] w fun e w' => w = w' ∧ e = .returned (.bool b) := by
  by_cases h : 0 ≤ x ∧ x ≤ (m : Int) - 1
  · have hbt : b = true := by rw [← hb]; simp; omega
    subst hbt
    clear hb
    go_enter Try.func143, Try.ntmps143
    go_wp2_with fail
    refine (inYes _ _ _ _ h).mono ?_
    rintro e w' ⟨rfl, rfl⟩
    go_wp2
    go_ret
    exact ⟨rfl, rfl⟩
  · have hbt : b = false := by rw [← hb]; simp; omega
    subst hbt
    clear hb
    go_enter Try.func143, Try.ntmps143
    go_wp2_with fail
    refine (inNo _ _ _ _ h).mono ?_
    rintro e w' ⟨rfl, rfl⟩
    go_wp2
    go_ret
    exact ⟨rfl, rfl⟩

def AnsEndOf (w : World) (sg t : List Int) (x : Int) (e : Ending) (w' : World) : Prop := e = .returned (.int .i64 (endOfI sg t x)) ∧ Below w.heap.size w w'
theorem endOf_no {w w' : World} {sg t : List Int} {x : Int} (h : thereB sg t x = false) (hb : Below w.heap.size w w') : AnsEndOf w sg t x (.returned (.int .i64 (-1))) w' :=
  ⟨by unfold endOfI; rw [if_neg (by rw [h]; simp)], hb⟩
theorem endOf_yes {w w' : World} {sg t : List Int} {x : Int} (h : thereB sg t x = true) (hb : Below w.heap.size w w') : AnsEndOf w sg t x (.returned (.int .i64 (endI sg t x.toNat))) w' :=
  ⟨by unfold endOfI; rw [if_pos h], hb⟩

/-- what cursorAt gives: a new cursor at the place, or nil -/
def AnsAt (w : World) (A : Option Addr) (n c : Nat) (A' : Option Addr) (m c' : Nat) (sg t : List Int) (x : Int) (e : Ending) (w' : World) : Prop :=
  Below w.heap.size w w' ∧ ((thereB sg t x = true ∧ ∃ p, e = .returned (.pointer (some ⟨p, 0, none⟩)) ∧ w.heap.size ≤ p ∧ Cur w' p A n c A' m c' sg t x.toNat) ∨ (thereB sg t x = false ∧ e = .returned (.pointer none)))
theorem at_no {w w' : World} {A A' : Option Addr} {n c m c' : Nat} {sg t : List Int} {x : Int} (h : thereB sg t x = false) (hb : Below w.heap.size w w') : AnsAt w A n c A' m c' sg t x (.returned (.pointer none)) w' := ⟨hb, .inr ⟨h, rfl⟩⟩

set_option maxHeartbeats 1000000 in
theorem cursorAt (A A' : Option Addr) (n c m c' : Nat) (sg t : List Int) (x : Int) (w : World) (h : Seg w w.heap.size A n sg) (h' : Seg w w.heap.size A' m t) (hn : n ≤ 1048576) (hm : m ≤ 1048576) :
    Calls Try.prog 145 #[.agg #[.slice A n c], .slice A' m c', .int .i64 x] w (AnsAt w A n c A' m c' sg t x) := by
  obtain ⟨W, hW⟩ : ∃ W, W = w.alloc (.cells #[.slice A n c] 26) := ⟨_, rfl⟩
  have rA : Row W w.heap.size 26 #[.slice A n c] := by rw [hW]; exact Row.new _ _ _
  have bel : Below w.heap.size w W := by rw [hW]; exact (Below.refl _ _).alloc (Nat.le_refl _) _
  replace h := (h.below bel).more bel.size
  replace h' := (h'.below bel).more bel.size
  have HW := Lib.hid hW
  have HL := Lib.hid h'.1
  clear hW
  have L := Lib.hid (implTermOk A A' n c m c' sg t W h h' hn hm)
  cases hok : termOkB sg t with
  | false =>
    have HS := Lib.hid hok
    clear hok h h'
    go_enter Try.func145, Try.ntmps145
    go_wp2_with fail
    rw [← HW.out]
    refine L.out.mono ?_
    rintro e w1 ⟨he, bb⟩
    rw [HS.out] at he
    subst he
    have F := Lib.hid (fun A n c A' m c' => at_no (A := A) (n := n) (c := c) (A' := A') (m := m) (c' := c') (x := x) (there_no (.inl HS.out)) (next_trans bel bb))
    clear bb bel rA
    go_wp2
    go_ret
    exact F.out _ _ _ _ _ _
  | true =>
    have HS := Lib.hid hok
    clear hok
    by_cases hin : 0 ≤ x ∧ x < (m : Int)
    · have hars := (sig_arities (termOk_parts HS.out).1).1
      have HT := Lib.hid (there_yes HS.out hin.1 (by rw [HL.out]; exact hin.2))
      obtain ⟨k, rfl⟩ := Int.eq_ofNat_of_zero_le hin.1
      obtain ⟨i0, i1⟩ := hin
      go_enter Try.func145, Try.ntmps145
      go_wp2_with fail
      rw [← HW.out]
      refine L.out.mono ?_
      rintro e w1 ⟨he, bb⟩
      rw [HS.out] at he
      subst he
      replace h := h.next bb
      replace h' := h'.next bb
      replace rA := rA.next bb
      replace bel := next_trans bel bb
      have cA : w1.cell? ⟨w.heap.size, 0, none⟩ = some (.slice A n c) := rA.cell 0
      have CN := cur_new (c := c) (c' := c') h h' hn hm hars k (by omega)
      have F : AnsAt w A n c A' m c' sg t (k : Int) (.returned (.pointer (some ⟨w1.heap.size, 0, none⟩))) (w1.alloc (.cells #[.slice A n c, .slice A' m c', .int .i64 k] 83)) :=
        ⟨bel.alloc (Nat.le_of_lt rA.lt) _, .inl ⟨HT.out, _, rfl, Nat.le_of_lt rA.lt, by rw [Int.toNat_natCast]; exact CN⟩⟩
      have HF := Lib.hid F
      clear F CN bb bel rA h h' hars HT
      go_wp2
      go_ret
      exact HF.out
    · have HT := Lib.hid (there_no (sg := sg) (t := t) (x := x) (by rw [HL.out]; omega))
      by_cases hx0 : x < 0
      · clear hin
        go_enter Try.func145, Try.ntmps145
        go_wp2_with fail
        rw [← HW.out]
        refine L.out.mono ?_
        rintro e w1 ⟨he, bb⟩
        rw [HS.out] at he
        subst he
        have F := Lib.hid (fun A n c A' m c' => at_no (A := A) (n := n) (c := c) (A' := A') (m := m) (c' := c') HT.out (next_trans bel bb))
        clear bb bel rA h h'
        go_wp2
        go_ret
        exact F.out _ _ _ _ _ _
      · have hx1 : (m : Int) ≤ x := by omega
        clear hin
        go_enter Try.func145, Try.ntmps145
        go_wp2_with fail
        rw [← HW.out]
        refine L.out.mono ?_
        rintro e w1 ⟨he, bb⟩
        rw [HS.out] at he
        subst he
        have F := Lib.hid (fun A n c A' m c' => at_no (A := A) (n := n) (c := c) (A' := A') (m := m) (c' := c') HT.out (next_trans bel bb))
        clear bb bel rA h h'
        go_wp2
        go_ret
        exact F.out _ _ _ _ _ _

end Go.Proofs.Ytkmhnkljigncmaa.endAt
end

section
/-
  CONTRACTS: impl.placeIn, spec.l3Right, spec.l3Inside, spec.InsideIn, impl.InsideIn, spec.ApartIn, impl.ApartIn. Conditions: the slices read as lists ('Seg'), at most 1048576 numbers; the places are int64. By an AI agent.
-/
namespace Go.Proofs.Ytkmhnkljigncmaa.inside
open Go.RowKit Go.Proofs.Ytkmhnkljigncmaa.base Go.Proofs.Ytkmhnkljigncmaa.ints Go.Proofs.Ytkmhnkljigncmaa.sig Go.Proofs.Ytkmhnkljigncmaa.term Go.Proofs.Ytkmhnkljigncmaa.arity Go.Proofs.Ytkmhnkljigncmaa.endOf Go.Proofs.Ytkmhnkljigncmaa.cursor Go.Proofs.Ytkmhnkljigncmaa.termOk Go.Proofs.Ytkmhnkljigncmaa.endAt
set_option maxRecDepth 100000

def Tells (w : World) (b : Bool) (e : Ending) (w' : World) : Prop := e = .returned (.bool b) ∧ Below w.heap.size w w'
/-- what stands in the course of a call whose first parameter, the signature, was boxed -/
structure Fr (w wr : World) (A : Option Addr) (n c : Nat) (sg : List Int) (A' : Option Addr) (m : Nat) (t : List Int) : Prop where
  r : Row wr w.heap.size 26 #[.slice A n c]
  s : Seg wr w.heap.size A n sg
  s' : Seg wr w.heap.size A' m t
  b : Below w.heap.size w wr
section
variable {w wr w' : World} {A : Option Addr} {n c : Nat} {sg : List Int} {A' : Option Addr} {m : Nat} {t : List Int}
theorem Fr.start (h : Seg w w.heap.size A n sg) (h' : Seg w w.heap.size A' m t) : Fr w (w.alloc (.cells #[.slice A n c] 26)) A n c sg A' m t :=
  have b : Below w.heap.size w (w.alloc (.cells #[.slice A n c] 26)) := (Below.refl _ _).alloc (Nat.le_refl _) _
  ⟨Row.new _ _ _, h.below b, h'.below b, b⟩
theorem Fr.next (f : Fr w wr A n c sg A' m t) (hb : Below wr.heap.size wr w') : Fr w w' A n c sg A' m t :=
  have b : Below w.heap.size wr w' := hb.mono (Nat.le_of_lt f.r.lt)
  ⟨f.r.next hb, f.s.below b, f.s'.below b, f.b.trans b⟩
theorem Fr.over (f : Fr w wr A n c sg A' m t) (hb : Below (w.heap.size + 1) wr w') : Fr w w' A n c sg A' m t :=
  have b : Below w.heap.size wr w' := hb.mono (Nat.le_succ _)
  ⟨f.r.below hb (Nat.lt_succ_self _), f.s.below b, f.s'.below b, f.b.trans b⟩
theorem Fr.alloc (f : Fr w wr A n c sg A' m t) (o : Obj) : Fr w (wr.alloc o) A n c sg A' m t := f.next ((Below.refl _ _).alloc (Nat.le_refl _) _)
theorem Fr.drew (f : Fr w wr A n c sg A' m t) : Fr w wr.drew A n c sg A' m t := f.over (Below.refl _ _).drew
theorem Fr.cell (f : Fr w wr A n c sg A' m t) : wr.cell? ⟨w.heap.size, 0, none⟩ = some (.slice A n c) := f.r.cell 0
theorem Fr.s1 (f : Fr w wr A n c sg A' m t) : Seg wr wr.heap.size A n sg := f.s.more (Nat.le_of_lt f.r.lt)
theorem Fr.t1 (f : Fr w wr A n c sg A' m t) : Seg wr wr.heap.size A' m t := f.s'.more (Nat.le_of_lt f.r.lt)
theorem Fr.size (f : Fr w wr A n c sg A' m t) : w.heap.size < wr.heap.size := f.r.lt
end

theorem end_bd {sg t : List Int} (hok : termOkB sg t = true) {a : Nat} : -1 ≤ endI sg t a ∧ endI sg t a ≤ t.length := by
  cases h : scan sg 1 (t.drop a) with
  | none => rw [endI_none h]; omega
  | some j =>
    have h2 := scan_le h
    have h1 := scan_pos (q := 0) h
    rw [endI_some h]
    simp only [List.length_drop] at h2
    omega
def insI (sg t : List Int) (x p : Int) : Bool := decide (x ≤ p ∧ p < endI sg t x.toNat)
def insideB (sg t : List Int) (x p : Int) : Bool := thereB sg t x && insI sg t x p
def apartB (sg t : List Int) (p q : Int) : Bool := (thereB sg t p && thereB sg t q) && (!insI sg t p q && !insI sg t q p)
theorem ins_there {sg t : List Int} {x p : Int} (h : thereB sg t x = true) (hi : insI sg t x p = true) : thereB sg t p = true := by
  obtain ⟨hok, h0, h1⟩ := there_parts h
  unfold insI at hi
  have h2 := (end_bd hok (a := x.toNat)).2
  simp only [decide_eq_true_eq] at hi
  exact there_yes hok (by omega) (by omega)

set_option maxHeartbeats 1000000 in
theorem right (A A' : Option Addr) (n c m c' : Nat) (sg t : List Int) (x : Int) (w : World) (h : Seg w w.heap.size A n sg) (h' : Seg w w.heap.size A' m t) (hn : n ≤ 1048576) (hm : m ≤ 1048576) :
    Calls Try.prog 130 #[.agg #[.slice A n c], .slice A' m c', .int .i64 x] w (Tells w (thereB sg t x)) := by
  obtain ⟨W, hW⟩ : ∃ W, W = w.alloc (.cells #[.slice A n c] 26) := ⟨_, rfl⟩
  have f : Fr w W A n c sg A' m t := by rw [hW]; exact Fr.start h h'
  have HW := Lib.hid hW
  have HL := Lib.hid h'.1
  have L := Lib.hid (specTermOk A A' n c m c' sg t W f.s1 f.t1 hn hm)
  clear hW h h'
  cases hok : termOkB sg t with
  | false =>
    have HS := Lib.hid hok
    have HT := Lib.hid (there_no (x := x) (.inl hok))
    clear hok
    go_enter Try.func130, Try.ntmps130
    go_wp2_with fail
    rw [← HW.out]
    refine L.out.mono ?_
    rintro e w1 ⟨he, bb⟩
    rw [HS.out] at he
    subst he
    have F := Lib.hid (show Tells w (thereB sg t x) (.returned (.bool false)) w1 from ⟨by rw [HT.out], (f.next bb).b⟩)
    clear f L bb HT
    go_wp2
    go_ret
    exact F.out
  | true =>
    have HS := Lib.hid hok
    obtain ⟨b, hb⟩ : ∃ b, decide (0 ≤ x ∧ x < (m : Int)) = b := ⟨_, rfl⟩
    have HD := Lib.hid hb
    have HT : thereB sg t x = b := by unfold thereB inB; rw [hok, HL.out, hb]; rfl
    replace HT := Lib.hid HT
    clear hok hb
    go_enter Try.func130, Try.ntmps130
    go_wp2_with fail
    rw [← HW.out]
    refine L.out.mono ?_
    rintro e w1 ⟨he, bb⟩
    rw [HS.out] at he
    subst he
    have F := Lib.hid (show Tells w (thereB sg t x) (.returned (.bool b)) w1 from ⟨by rw [HT.out], (f.next bb).b⟩)
    clear f L bb HT
    go_wp2_with fail
    refine (there _ _ _ x b _ hm HD.out).mono ?_
    rintro e w2 ⟨rfl, rfl⟩
    go_wp2
    go_ret
    exact F.out

theorem apart_no {sg t : List Int} {p q : Int} (h : thereB sg t p = false ∨ thereB sg t q = false) : apartB sg t p q = false := by
  unfold apartB
  rcases h with h | h <;> rw [h] <;> simp

theorem inside_there {sg t : List Int} {p q : Int} (h : thereB sg t p = true) : insideB sg t p q = insI sg t p q := by unfold insideB; rw [h]; rfl

end Go.Proofs.Ytkmhnkljigncmaa.inside
end

section
/-
  CONTRACTS: slices.Grow of nil, slices.Concat at []int64. Conditions: the slices read as lists ('Segs'), at most 1048576 numbers in all. By an AI agent.
-/
namespace Go.Proofs.Ytkmhnkljigncmaa.concat
open Go.RowKit Go.Proofs.Ytkmhnkljigncmaa.base Go.Proofs.Ytkmhnkljigncmaa.ints Go.Proofs.Ytkmhnkljigncmaa.marks Go.Proofs.Ytkmhnkljigncmaa.app Go.Proofs.Ytkmhnkljigncmaa.sym Go.Proofs.Ytkmhnkljigncmaa.segs Go.Proofs.Ytkmhnkljigncmaa.segsHelp
set_option maxRecDepth 100000

set_option maxHeartbeats 1000000 in
theorem growNil (s : Nat) (w : World) (hs : s ≤ 2097152) :
    Calls Try.prog 138 #[.slice none 0 0, .int .i64 (s : Int)] w (AnsList w []) := by
  by_cases h0 : s = 0
  · subst h0
    go_enter Try.func138, Try.ntmps138
    go_wp2
    go_ret
    exact ⟨none, 0, 0, rfl, Own.nil _ _, Below.refl _ _⟩
  · obtain ⟨i0, hi, hz0, hz1, hz2⟩ := info_parts info_i64
    obtain ⟨G, hG⟩ : ∃ G, G = grownCap w s 0 2 := ⟨_, rfl⟩
    have hge : s ≤ G := by rw [hG]; exact grownCap_ge w _ _ _
    have hcm : G ≤ maxLen := by rw [hG]; exact grownCap_le_maxLen w _ _ _ (by unfold maxLen; omega)
    obtain ⟨cs, hcs⟩ : ∃ cs, cs = Builtin.zeroCells (Value.int .i64 0).cells s ++ Builtin.zeroCells (Value.int .i64 0).cells (G - s) := ⟨_, rfl⟩
    have hsz : cs.size = G := by
      rw [hcs]
      have e : (Value.int .i64 0).cells.size = 1 := rfl
      simp only [Array.size_append, size_zeroCells, e]
      omega
    have hr : ∀ ty, (Builtin.append_ #[24, 3] ty #[.slice none 0 0, .int .i64 (s : Int)]).run Try.prog w = .ok (.slice (some ⟨w.heap.size, 0, none⟩) s G) (w.drew.alloc (.cells cs 2)) := fun ty => by
      rw [hG, hcs, hG]
      exact Lib.run_append_nil_zeros w 24 3 ty 2 i0 (.int .i64 0) .i64 .i64 Try.underlying24 Try.underlying3 hi hz0 s (by omega) (by rw [hz1]; omega) (by omega) (by rw [hz2]; omega)
    have hrow : Row (w.drew.alloc (.cells cs 2)) w.heap.size 2 cs := Row.new w.drew _ _
    have F : AnsList w [] (.returned (.slice (some ⟨w.heap.size, 0, none⟩) 0 G)) (w.drew.alloc (.cells cs 2)) :=
      ⟨_, _, _, rfl, Own.of_row hrow rfl hsz (Nat.zero_le _) (by unfold maxLen at hcm; omega) (Nat.le_refl _) (fun j hj => absurd hj (Nat.not_lt_zero _)), ((Below.refl _ _).drew).alloc (Nat.le_refl _) _⟩
    have HF := Lib.hid F
    have hG63 : G ≤ 9223372036854775807 := by unfold maxLen at hcm; omega
    clear F hrow hsz hcs hG hcm
    have h1 : (0 : Int) < (s : Int) := by omega
    go_enter Try.func138, Try.ntmps138
    go_wp2_with (at_builtin; refine Lib.wpList_append_run _ rfl _ _ _ _ rfl _ _ rfl rfl _ _ (hr _) ?_)
    go_wp2
    go_ret
    exact HF.out

/-- the numbers of the first k lists -/
def catL (xss : List (List Int)) (k : Nat) : List Int := (xss.take k).flatten
theorem cat_len {xss : List (List Int)} {k : Nat} : (catL xss k).length = sumL xss k := by unfold catL sumL; rw [List.length_flatten]
theorem cat_succ {xss : List (List Int)} {k : Nat} (h : k < xss.length) : catL xss (k + 1) = catL xss k ++ xss.getD k [] := by
  unfold catL
  rw [List.take_succ_eq_append_getElem h, List.flatten_append]
  simp [List.getD, h]

set_option maxHeartbeats 1000000 in
theorem concat (S : Option Addr) (k c : Nat) (xss : List (List Int)) (w : World) (h : Segs w w.heap.size S k xss) (ht : tot xss ≤ 1048576) :
    Calls Try.prog 115 #[.slice S k c] w (AnsList w xss.flatten) := by
  have HL := Lib.hid h.1
  have hk : k ≤ 1048576 := tot_len h.1 ht
  have hs1 : Hid (∀ j, j ≤ k → sumL xss j ≤ 1048576) := Lib.hid (fun j hj => by have := sumL_mono (xss := xss) (k := j) (m := xss.length) (by rw [h.1]; exact hj) (Nat.le_refl _); unfold tot at ht; omega)
  have HS : Hid (∀ j, j < k → sumL xss (j + 1) = sumL xss j + (xss.getD j []).length) := Lib.hid (fun j hj => sumL_succ (by rw [h.1]; exact hj))
  have HC : Hid (∀ j, j < k → catL xss (j + 1) = catL xss j ++ xss.getD j []) := Lib.hid (fun j hj => cat_succ (by rw [h.1]; exact hj))
  have HF := Lib.hid (show catL xss k = xss.flatten by unfold catL; rw [List.take_of_length_le (by rw [h.1]; exact Nat.le_refl _)])
  have HCL := Lib.hid (fun j => cat_len (xss := xss) (k := j))
  have HH := Lib.hid h
  have S0 := Lib.hid (show sumL xss 0 = 0 by simp [sumL])
  have C0 := Lib.hid (show catL xss 0 = [] by simp [catL])
  clear h ht
  go_enter Try.func115, Try.ntmps115
  go_wp2
  go_loopg [3, 11] k (fun g s i wr => w = wr ∧ ∃ j : Nat, i = .int .i64 j ∧ j + g = k ∧ s = .int .i64 (sumL xss j : Nat))
  case atStart => exact ⟨rfl, 0, rfl, by omega, by rw [S0.out]; rfl⟩
  case round =>
    obtain ⟨rfl, j, rfl, hj, rfl⟩ := hrel
    have HJ := Lib.hid hj
    clear hj
    by_cases hjk : j < k
    · obtain ⟨b, off, A', n', c', rfl, hb, hc, hsg, hcap⟩ := HH.out.spot hjk
      have hl := hsg.1
      have hb1 := hs1.out j (by omega)
      have hb2 := hs1.out (j + 1) (by omega)
      have hsu := HS.out j hjk
      obtain ⟨s, hs⟩ : ∃ s, sumL xss j = s := ⟨_, rfl⟩
      have HSS := Lib.hid (show sumL xss (j + 1) = s + n' by rw [hsu, hs, hl])
      have hb3 : s + n' ≤ 1048576 := by rw [← HSS.out]; exact hb2
      rw [hs]
      clear hsg hcap hl hb1 hb2 hsu hs
      go_wp2
      go_roundg (gk - 1)
      case measure => have := HJ.out; omega
      case rel => exact ⟨rfl, j + 1, by simp, by have := HJ.out; omega, by rw [HSS.out]; simp⟩
    · have hjk2 : j = k := by have := HJ.out; omega
      obtain ⟨s, hs⟩ : ∃ s, sumL xss j = s := ⟨_, rfl⟩
      have hs2 : s ≤ 2097152 := by rw [← hs]; have := hs1.out j (by omega); omega
      rw [hs]
      have LG := Lib.hid (growNil s w hs2)
      clear hs hs2 hjk2
      go_wp2_with fail
      refine LG.out.mono ?_
      rintro e w1 ⟨O, on, oc, rfl, o1, b1⟩
      have on0 : on = 0 := Own.len o1
      subst on0
      have P0 : Own w1 w.heap.size (.slice O 0 oc) (catL xss 0) := by rw [C0.out]; exact o1
      have HP := Lib.hid (And.intro P0 b1)
      clear P0 o1 b1 LG
      go_wp2
      go_loopg [6, 27] k (fun g s i wr => ∃ (j : Nat) (O : Option Addr) (on oc : Nat), i = .int .i64 j ∧ j + g = k ∧ s = .slice O on oc ∧ Own wr w.heap.size (.slice O on oc) (catL xss j) ∧ Below w.heap.size w wr)
      case atStart => exact ⟨0, O, 0, oc, rfl, by omega, rfl, HP.out.1, HP.out.2⟩
      case round =>
        obtain ⟨j, O, on, oc, rfl, hj, rfl, ho, hb⟩ := hrel
        clear HP
        have HJ := Lib.hid hj
        clear hj
        by_cases hjk : j < k
        · have hsegs := (HH.out.below hb)
          obtain ⟨b, off, A', n', c', rfl, hbb, hc, hsg, hcap⟩ := hsegs.spot hjk
          have hon : on ≤ 1048576 := by rw [Own.len ho, HCL.out j]; exact hs1.out j (by omega)
          have hn' : n' ≤ 1048576 := by have h1 := hsg.1; have h2 := hs1.out (j + 1) (by omega); rw [HS.out j hjk, h1] at h2; omega
          have HCAP := Lib.hid hcap.2.2
          have hsz := hb.size
          clear hsegs hcap
          go_wp2_with (at_builtin; refine appAll rfl _ _ rfl w.heap.size O on oc (catL xss j) rfl ho A' n' c' w.heap.size (xss.getD j []) rfl hsg HCAP.out (by omega) (by omega) hsz ?_; intro O' oc' w3 ho3 b3)
          have S := Lib.hid (show Own w3 w.heap.size (.slice O' (on + n') oc') (catL xss (j + 1)) ∧ Below w.heap.size w w3 from ⟨by rw [HC.out j hjk]; exact ho3, hb.trans b3⟩)
          clear ho ho3 hb b3 hsg hc
          go_wp2
          go_roundg (gk - 1)
          case measure => have := HJ.out; omega
          case rel => exact ⟨j + 1, O', on + n', oc', by simp, by have := HJ.out; omega, rfl, S.out⟩
        · have hjk2 : j = k := by have := HJ.out; omega
          have F : AnsList w xss.flatten (.returned (.slice O on oc)) wr := ⟨O, on, oc, rfl, by rw [← HF.out, ← hjk2]; exact ho, hb⟩
          have HFF := Lib.hid F
          clear F ho hb hjk2
          go_wp2
          go_ret
          exact HFF.out
end Go.Proofs.Ytkmhnkljigncmaa.concat
end

section
/-
  CONTRACTS: spec.SymPlaces, impl.SymPlaces. Conditions: the slices read as lists ('Seg'), at most 1048576 numbers. By an AI agent.
-/
namespace Go.Proofs.Ytkmhnkljigncmaa.sym
open Go.RowKit Go.Proofs.Ytkmhnkljigncmaa.base Go.Proofs.Ytkmhnkljigncmaa.ints Go.Proofs.Ytkmhnkljigncmaa.sig Go.Proofs.Ytkmhnkljigncmaa.term Go.Proofs.Ytkmhnkljigncmaa.termOk Go.Proofs.Ytkmhnkljigncmaa.marks Go.Proofs.Ytkmhnkljigncmaa.app

def symP (t : List Int) (k : Nat) : List Int := ((List.range k).filter fun j => decide (0 ≤ t.getD j 0)).map fun (j : Nat) => (j : Int)
def symI (sg t : List Int) : List Int := if termOkB sg t = true then symP t t.length else []

theorem symP_yes {t : List Int} {k : Nat} {x : Int} (ex : Hid (t.getD k 0 = x)) (h : 0 ≤ x) : symP t (k + 1) = symP t k ++ [(k : Int)] := by
  unfold symP
  rw [List.range_succ, List.filter_append, List.map_append]
  simp only [List.filter_cons, List.filter_nil, ex.out, h, decide_true, if_true, List.map_cons, List.map_nil]
theorem symP_no {t : List Int} {k : Nat} {x : Int} (ex : Hid (t.getD k 0 = x)) (h : ¬ 0 ≤ x) : symP t (k + 1) = symP t k := by
  unfold symP
  rw [List.range_succ, List.filter_append, List.map_append]
  simp only [List.filter_cons, List.filter_nil, ex.out, h, decide_false, List.map_nil, List.append_nil]
  simp
theorem symP_len (t : List Int) (k : Nat) : (symP t k).length ≤ k := by
  unfold symP
  rw [List.length_map]
  exact Nat.le_trans (List.length_filter_le _ _) (by simp)

/-- the head of the loop over the places -/
def HeadSym (w : World) (A : Option Addr) (n c m : Nat) (t : List Int) (out i : Value) (wr : World) : Prop :=
  ∃ (k : Nat) (O : Option Addr) (on oc : Nat), k ≤ m ∧ i = .int .i64 k ∧ out = .slice O on oc ∧ Own wr (w.heap.size + 1) (.slice O on oc) (symP t k) ∧ Row wr w.heap.size 26 #[.slice A n c] ∧ Below w.heap.size w wr

theorem headSym_yes {w w2 : World} {A : Option Addr} {n c m k : Nat} {t : List Int} {x : Int} {O : Option Addr} {on oc : Nat} (hk : k < m) (ex : Hid (t.getD k 0 = x)) (h0 : 0 ≤ x) (ho : Own w2 (w.heap.size + 1) (.slice O on oc) (symP t k ++ [(k : Int)]))
    (hr : Row w2 w.heap.size 26 #[.slice A n c]) (hb : Below w.heap.size w w2) : HeadSym w A n c m t (.slice O on oc) (.int .i64 ((k : Int) + 1)) w2 :=
  ⟨k + 1, O, on, oc, hk, by simp, rfl, by rw [symP_yes ex h0]; exact ho, hr, hb⟩
theorem headSym_no {w w2 : World} {A : Option Addr} {n c m k : Nat} {t : List Int} {x : Int} {O : Option Addr} {on oc : Nat} (hk : k < m) (ex : Hid (t.getD k 0 = x)) (h0 : ¬ 0 ≤ x) (ho : Own w2 (w.heap.size + 1) (.slice O on oc) (symP t k))
    (hr : Row w2 w.heap.size 26 #[.slice A n c]) (hb : Below w.heap.size w w2) : HeadSym w A n c m t (.slice O on oc) (.int .i64 ((k : Int) + 1)) w2 :=
  ⟨k + 1, O, on, oc, hk, by simp, rfl, by rw [symP_no ex h0]; exact ho, hr, hb⟩
theorem symI_len {sg t : List Int} {m : Nat} (h : t.length = m) (hm : m ≤ 1048576) : (symI sg t).length ≤ 1048576 := by
  unfold symI
  split
  · have := symP_len t t.length; omega
  · simp

end Go.Proofs.Ytkmhnkljigncmaa.sym
end

section
/-
  CONTRACTS of impl's cursor wherever it lies (a field of a struct): next, pass, part. Conditions: the slices read as lists ('Seg') below the cursor's block, the arities lie between 0 and 3, at most 1048576 numbers. By an AI agent.
-/
namespace Go.Proofs.Ytkmhnkljigncmaa.curO
open Go.RowKit Go.Proofs.Ytkmhnkljigncmaa.base Go.Proofs.Ytkmhnkljigncmaa.ints Go.Proofs.Ytkmhnkljigncmaa.sig Go.Proofs.Ytkmhnkljigncmaa.term Go.Proofs.Ytkmhnkljigncmaa.arity Go.Proofs.Ytkmhnkljigncmaa.cursor Go.Proofs.Ytkmhnkljigncmaa.sub
set_option maxRecDepth 100000

/-- the cursor at cells o, o + 1, o + 2 of block p stands at place k; the block's other cells are those of cs -/
structure CurO (w : World) (p o : Nat) (ty : TypeId) (cs : Array Value) (A : Option Addr) (n c : Nat) (A' : Option Addr) (m c' : Nat) (sg t : List Int) (k : Nat) : Prop where
  row : Row w p ty (cs.setIfInBounds (o + 2) (.int .i64 k))
  h0 : cs[o]? = some (.slice A n c)
  h1 : cs[o + 1]? = some (.slice A' m c')
  sz : o + 2 < cs.size
  s : Seg w p A n sg
  s' : Seg w p A' m t
  le : k ≤ m
  hn : n ≤ 1048576
  hm : m ≤ 1048576
  ars : Arities sg
section
variable {w w' : World} {p o : Nat} {ty : TypeId} {cs : Array Value} {A : Option Addr} {n c : Nat} {A' : Option Addr} {m c' : Nat} {sg t : List Int} {k : Nat}
theorem CurO.c0 (h : CurO w p o ty cs A n c A' m c' sg t k) : w.cell? ⟨p, o, none⟩ = some (.slice A n c) := by
  rw [h.row.cell o, Array.getElem?_setIfInBounds_ne (by omega)]; exact h.h0
theorem CurO.c1 (h : CurO w p o ty cs A n c A' m c' sg t k) : w.cell? ⟨p, o + 1, none⟩ = some (.slice A' m c') := by
  rw [h.row.cell (o + 1), Array.getElem?_setIfInBounds_ne (by omega)]; exact h.h1
theorem CurO.c2 (h : CurO w p o ty cs A n c A' m c' sg t k) : w.cell? ⟨p, o + 2, none⟩ = some (.int .i64 k) := by
  rw [h.row.cell (o + 2), Array.getElem?_setIfInBounds_self_of_lt h.sz]
theorem CurO.below (h : CurO w p o ty cs A n c A' m c' sg t k) (hb : Below w.heap.size w w') : CurO w' p o ty cs A n c A' m c' sg t k :=
  have hp := h.row.lt
  ⟨h.row.next hb, h.h0, h.h1, h.sz, h.s.below (hb.mono (Nat.le_of_lt hp)), h.s'.below (hb.mono (Nat.le_of_lt hp)), h.le, h.hn, h.hm, h.ars⟩
theorem CurO.drewN (h : CurO w p o ty cs A n c A' m c' sg t k) (d : Nat) : CurO (w.drewN d) p o ty cs A n c A' m c' sg t k :=
  ⟨h.row, h.h0, h.h1, h.sz, h.s, h.s', h.le, h.hn, h.hm, h.ars⟩
theorem CurO.step (h : CurO w p o ty cs A n c A' m c' sg t k) (hk : k < m) (d : Nat) :
    CurO ((w.drewN d).setCell ⟨p, o + 2, none⟩ (.int .i64 ((k : Int) + 1))) p o ty cs A n c A' m c' sg t (k + 1) := by
  have r := (h.row.drewN d).put (o + 2) (.int .i64 ((k : Int) + 1))
  rw [Array.setIfInBounds_setIfInBounds] at r
  refine ⟨?_, h.h0, h.h1, h.sz, (h.s.drewN d).put (p := ⟨p, o + 2, none⟩) (Nat.le_refl _) _, (h.s'.drewN d).put (p := ⟨p, o + 2, none⟩) (Nat.le_refl _) _, hk, h.hn, h.hm, h.ars⟩
  have e : (.int .i64 ((k : Int) + 1) : Value) = .int .i64 ((k + 1 : Nat) : Int) := by simp
  rw [← e]
  exact r
end

/-- what next gives at place k: the arity and a step on; -1 at the end -/
def NextO (w : World) (p o : Nat) (ty : TypeId) (cs : Array Value) (A : Option Addr) (n c : Nat) (A' : Option Addr) (m c' : Nat) (sg t : List Int) (k : Nat) (e : Ending) (w' : World) : Prop :=
  w.grownBy w' (some p) ∧ ((k < m ∧ e = .returned (.int .i64 (ar sg (t.getD k 0))) ∧ CurO w' p o ty cs A n c A' m c' sg t (k + 1)) ∨ (k = m ∧ e = .returned (.int .i64 (-1)) ∧ CurO w' p o ty cs A n c A' m c' sg t k))

set_option maxHeartbeats 1000000 in
theorem nextO (p o : Nat) (ty : TypeId) (cs : Array Value) (A : Option Addr) (n c : Nat) (A' : Option Addr) (m c' : Nat) (sg t : List Int) (k : Nat) (w : World) (h : CurO w p o ty cs A n c A' m c' sg t k) :
    Calls Try.prog 133 #[.pointer (some ⟨p, o, none⟩)] w (NextO w p o ty cs A n c A' m c' sg t k) := by
  have hk := h.le
  have hm := h.hm
  have c0 := h.c0
  have c1 := h.c1
  have c2 := h.c2
  have f2 : w.frozen? ⟨p, o + 2, none⟩ = false := h.row.free (o + 2)
  by_cases hlt : k < m
  · obtain ⟨b, off, x, rfl, hbb, hx, ex⟩ := h.s'.spot hlt
    have i0 : (0 : Int) ≤ (k : Int) := by omega
    have i1 : (k : Int) < (m : Int) := by omega
    have HS := Lib.hid (fun d => h.step hlt d)
    have HG := Lib.hid (fun d => grown_put (grown_drewN (World.grownBy.refl w (some p)) d) (o + 2) (.int .i64 ((k : Int) + 1)))
    clear h
    go_enter Try.func133, Try.ntmps133
    go_wp2
    go_quiet (fail)
    go_wp2
    go_quiet (fail)
    go_wp2_with fail
    refine (implArity A n c sg x _ ((HS.out _).s.more (Nat.le_of_lt (HS.out _).row.lt)) (HS.out 0).hn).mono ?_
    rintro e w' ⟨rfl, bb⟩
    have F : NextO w p o ty cs A n c (some ⟨b, off, none⟩) m c' sg t k (.returned (.int .i64 (ar sg x))) w' :=
      ⟨grown_trans (HG.out _) (grown_below bb _), .inl ⟨hlt, by rw [ex.out], (HS.out _).below bb⟩⟩
    have HF := Lib.hid F
    clear F HG HS bb ex
    go_wp2
    go_ret
    exact HF.out
  · have e : k = m := by omega
    have HS := Lib.hid (fun d => h.drewN d)
    have HE := Lib.hid e
    have i2 : decide (m ≤ k) = true := by simp; omega
    clear e h
    go_enter Try.func133, Try.ntmps133
    go_wp2
    go_quiet (fail)
    go_wp2
    go_ret
    exact ⟨grown_drewN (World.grownBy.refl w (some p)) _, .inr ⟨HE.out, rfl, HS.out _⟩⟩

/-- what pass gives at place k -/
def PassO (w : World) (p o : Nat) (ty : TypeId) (cs : Array Value) (A : Option Addr) (n c : Nat) (A' : Option Addr) (m c' : Nat) (sg t : List Int) (k : Nat) (e : Ending) (w' : World) : Prop :=
  w.grownBy w' (some p) ∧ ((∃ j, scan sg 1 (t.drop k) = some j ∧ e = .returned (.bool true) ∧ CurO w' p o ty cs A n c A' m c' sg t (k + j)) ∨ (scan sg 1 (t.drop k) = none ∧ e = .returned (.bool false) ∧ ∃ k', CurO w' p o ty cs A n c A' m c' sg t k'))

/-- the head of the loop: q terms are still missing -/
def HeadO (w : World) (p o : Nat) (ty : TypeId) (cs : Array Value) (A : Option Addr) (n c : Nat) (A' : Option Addr) (m c' : Nat) (sg t : List Int) (a : Nat) (q : Value) (wr : World) : Prop :=
  ∃ k q' : Nat, q = .int .i64 q' ∧ q' ≤ 3 * k + 1 ∧ Scn sg t a k q' ∧ CurO wr p o ty cs A n c A' m c' sg t k ∧ w.grownBy wr (some p)

def atO (p o : Nat) (wr : World) : Nat := (intOf ((wr.cell? ⟨p, o + 2, none⟩).getD undef)).toNat
theorem atO_cur {w : World} {p o : Nat} {ty : TypeId} {cs : Array Value} {A : Option Addr} {n c : Nat} {A' : Option Addr} {m c' : Nat} {sg t : List Int} {k : Nat} (h : CurO w p o ty cs A n c A' m c' sg t k) : atO p o w = k := by
  unfold atO
  rw [h.c2]
  simp [intOf]

set_option maxHeartbeats 1000000 in
theorem passO (p o : Nat) (ty : TypeId) (cs : Array Value) (A : Option Addr) (n c : Nat) (A' : Option Addr) (m c' : Nat) (sg t : List Int) (a : Nat) (w : World) (h : CurO w p o ty cs A n c A' m c' sg t a) :
    Calls Try.prog 97 #[.pointer (some ⟨p, o, none⟩)] w (PassO w p o ty cs A n c A' m c' sg t a) := by
  have hm := h.hm
  have HL := Lib.hid h.s'.1
  have hs := h.ars
  have H0 : HeadO w p o ty cs A n c A' m c' sg t a (.int .i64 1) w := ⟨a, 1, rfl, by omega, Scn.start (by rw [HL.out]; exact h.le), h, World.grownBy.refl _ _⟩
  have HH := Lib.hid H0
  clear H0 h
  go_enter Try.func97, Try.ntmps97
  go_wp2_with fail
  go_loopw [3, 4] (fun q _ wr => HeadO w p o ty cs A n c A' m c' sg t a q wr) (fun _ _ wr => m - atO p o wr)
  case atStart => exact HH.out
  case round =>
    obtain ⟨k, q, rfl, hq, hl, hc, hg⟩ := hrel
    clear HH
    have hk := hc.le
    by_cases h0 : q = 0
    · subst h0
      have S : PassO w p o ty cs A n c A' m c' sg t a (.returned (.bool true)) wr := ⟨hg, .inl ⟨k - a, hl.done, rfl, by rw [show a + (k - a) = k by have := hl.1; omega]; exact hc⟩⟩
      have HS := Lib.hid S
      clear S hl hc hg
      go_wp2
      go_ret
      exact HS.out
    · obtain ⟨q1, rfl⟩ : ∃ q1, q = q1 + 1 := ⟨q - 1, by omega⟩
      have hq0 : (0 : Int) < ((q1 + 1 : Nat) : Int) := by omega
      go_wp2_with fail
      refine (nextO p o ty cs A n c A' m c' sg t k wr hc).mono ?_
      rintro e w2 ⟨g2, ⟨hlt, rfl, hc2⟩ | ⟨hk', rfl, hc2⟩⟩
      · obtain ⟨z, hz⟩ : ∃ z, ar sg (t.getD k 0) = z := ⟨_, rfl⟩
        have hzb := ar_bd hs (t.getD k 0)
        rw [hz] at hzb ⊢
        by_cases hneg : z < 0
        · have S : PassO w p o ty cs A n c A' m c' sg t a (.returned (.bool false)) w2 := ⟨grown_trans hg g2, .inr ⟨hl.bad (by rw [HL.out]; exact hlt) rfl (by rw [hz]; exact hneg), rfl, _, hc2⟩⟩
          have HS := Lib.hid S
          clear S hl hc hg hc2 g2 hz
          go_wp2
          go_ret
          exact HS.out
        · have hl' := hl.step (by rw [HL.out]; exact hlt) rfl (by rw [hz]; exact hneg)
          rw [hz] at hl'
          have S : HeadO w p o ty cs A n c A' m c' sg t a (.int .i64 ((q1 : Int) + z)) w2 := ⟨k + 1, q1 + z.toNat, by congr 1; omega, by omega, hl', hc2, grown_trans hg g2⟩
          have HS := Lib.hid S
          have M := Lib.hid (show m - atO p o w2 < m - atO p o wr by rw [atO_cur hc, atO_cur hc2]; omega)
          have hz1 := hzb.1
          have hz2 := hzb.2
          have hq2 : (q1 : Int) ≤ 3145728 := by omega
          clear S hl hc hg hc2 g2 hz hl' hzb
          go_wp2
          go_roundw
          case rel => rw [show (q1 : Int) + 1 + z - 1 = (q1 : Int) + z by omega]; exact HS.out
          case measure => exact M.out
      · have S : PassO w p o ty cs A n c A' m c' sg t a (.returned (.bool false)) w2 := ⟨grown_trans hg g2, .inr ⟨hl.out (by rw [HL.out]; omega), rfl, _, hc2⟩⟩
        have HS := Lib.hid S
        clear S hl hc hg hc2 g2
        go_wp2
        go_ret
        exact HS.out

/-- what part gives at place k, where a term begins: the piece of the slice -/
def PartO (w : World) (p o : Nat) (ty : TypeId) (cs : Array Value) (A : Option Addr) (n c : Nat) (b off m c' : Nat) (sg t : List Int) (k j : Nat) (e : Ending) (w' : World) : Prop :=
  e = .returned (.slice (some ⟨b, off + k, none⟩) j (c' - k)) ∧ w.grownBy w' (some p) ∧ CurO w' p o ty cs A n c (some ⟨b, off, none⟩) m c' sg t (k + j)
set_option maxHeartbeats 1000000 in
theorem partO (p o : Nat) (ty : TypeId) (cs : Array Value) (A : Option Addr) (n c b off m c' : Nat) (sg t : List Int) (k j : Nat) (w : World) (h : CurO w p o ty cs A n c (some ⟨b, off, none⟩) m c' sg t k) (hj : scan sg 1 (t.drop k) = some j) (hkj : k + j ≤ m) (h1 : 1 ≤ j) (hmc : m ≤ c') (hc : c' ≤ 9223372036854775807) :
    Calls Try.prog 116 #[.pointer (some ⟨p, o, none⟩)] w (PartO w p o ty cs A n c b off m c' sg t k j) := by
  have hm := h.hm
  have c2 := h.c2
  have L := Lib.hid (passO p o ty cs A n c (some ⟨b, off, none⟩) m c' sg t k w h)
  have HJ := Lib.hid hj
  have a1 : (k : Int) ≤ (k : Int) + (j : Int) := by omega
  have a2 : (k : Int) + (j : Int) ≤ (c' : Int) := by omega
  have a3 : ¬ c' = k := by omega
  have a4 : k + j ≤ c' := by omega
  have a5 : k + j - k = j := by omega
  clear hj h
  go_enter Try.func116, Try.ntmps116
  go_wp2_with fail
  refine L.out.mono ?_
  rintro e w1 ⟨hg, ⟨j', hj', rfl, hc1⟩ | ⟨hj', rfl, -⟩⟩
  · obtain rfl : j = j' := by rw [HJ.out] at hj'; injection hj'
    have d1 := hc1.c1
    have d2 := hc1.c2
    have HF := Lib.hid (fun d => (show PartO w p o ty cs A n c b off m c' sg t k j (.returned (.slice (some ⟨b, off + k, none⟩) (k + j - k) (c' - k))) (w1.drewN d) from ⟨by rw [a5], grown_drewN hg d, hc1.drewN d⟩))
    clear hc1 hg hj' L
    go_wp2
    go_quiet (fail)
    go_wp2
    go_ret
    exact HF.out _
  · rw [HJ.out] at hj'
    cases hj'

/-- the cursor in a block of its own -/
theorem ofCur {w : World} {p : Nat} {A : Option Addr} {n c : Nat} {A' : Option Addr} {m c' : Nat} {sg t : List Int} {k : Nat} (h : Cur w p A n c A' m c' sg t k) (u : Value) :
    CurO w p 0 83 #[.slice A n c, .slice A' m c', u] A n c A' m c' sg t k :=
  ⟨by have r := h.row; simpa using r, by simp, by simp, by simp, h.s, h.s', h.le, h.hn, h.hm, h.ars⟩
theorem toCur {w : World} {p : Nat} {A : Option Addr} {n c : Nat} {A' : Option Addr} {m c' : Nat} {sg t : List Int} {k : Nat} {u : Value} (h : CurO w p 0 83 #[.slice A n c, .slice A' m c', u] A n c A' m c' sg t k) :
    Cur w p A n c A' m c' sg t k :=
  ⟨by have r := h.row; simpa using r, h.s, h.s', h.le, h.hn, h.hm, h.ars⟩
/-- part of a cursor in a block of its own -/
theorem partC (p : Nat) (A : Option Addr) (n c b off m c' : Nat) (sg t : List Int) (k j : Nat) (w : World) (h : Cur w p A n c (some ⟨b, off, none⟩) m c' sg t k) (hj : scan sg 1 (t.drop k) = some j) (hkj : k + j ≤ m) (h1 : 1 ≤ j) (hmc : m ≤ c') (hc : c' ≤ 9223372036854775807) :
    Calls Try.prog 116 #[.pointer (some ⟨p, 0, none⟩)] w fun e w' => e = .returned (.slice (some ⟨b, off + k, none⟩) j (c' - k)) ∧ w.grownBy w' (some p) ∧ Cur w' p A n c (some ⟨b, off, none⟩) m c' sg t (k + j) :=
  (partO p 0 _ _ A n c b off m c' sg t k j w (ofCur h undef) hj hkj h1 hmc hc).mono fun _ _ ⟨e1, e2, e3⟩ => ⟨e1, e2, toCur e3⟩
end Go.Proofs.Ytkmhnkljigncmaa.curO
end

section
/-
  CONTRACTS: spec.l1Copy, slices.Clone at []int64, spec.l1Sub, spec.SubAt, impl.SubAt. Conditions: the slices read as lists ('Seg'), at most 1048576 numbers, a length is at most the capacity. By an AI agent.
-/
namespace Go.Proofs.Ytkmhnkljigncmaa.sub
open Go.RowKit Go.Proofs.Ytkmhnkljigncmaa.base Go.Proofs.Ytkmhnkljigncmaa.ints Go.Proofs.Ytkmhnkljigncmaa.sig Go.Proofs.Ytkmhnkljigncmaa.term Go.Proofs.Ytkmhnkljigncmaa.arity Go.Proofs.Ytkmhnkljigncmaa.endOf Go.Proofs.Ytkmhnkljigncmaa.cursor Go.Proofs.Ytkmhnkljigncmaa.termOk Go.Proofs.Ytkmhnkljigncmaa.endAt Go.Proofs.Ytkmhnkljigncmaa.marks Go.Proofs.Ytkmhnkljigncmaa.app Go.Proofs.Ytkmhnkljigncmaa.sym Go.Proofs.Ytkmhnkljigncmaa.curO

def subL (sg t : List Int) (a : Nat) : List Int := (t.drop a).take (len1 sg t a)
def subI (sg t : List Int) (x : Int) : List Int := if thereB sg t x = true then subL sg t x.toNat else []

set_option maxHeartbeats 1000000 in
theorem l1Sub (A A' : Option Addr) (n c m c' : Nat) (sg t : List Int) (a j : Nat) (w : World) (h : Seg w w.heap.size A n sg) (h' : Seg w w.heap.size A' m t) (hn : n ≤ 1048576) (hm : m ≤ 1048576) (hc' : m ≤ c') (hc2 : c' ≤ 9223372036854775807)
    (hs : Arities sg) (ha : a < m) (hj : scan sg 1 (t.drop a) = some j) (hj1 : 1 ≤ j) (hj2 : a + j ≤ m) :
    Calls Try.prog 103 #[.agg #[.slice A n c], .slice A' m c', .int .i64 (a : Int)] w (AnsList w (subL sg t a)) := by
  obtain ⟨b, off, x, rfl, -, -, -⟩ := h'.spot ha
  obtain ⟨W, hW⟩ : ∃ W, W = w.alloc (.cells #[.slice A n c] 26) := ⟨_, rfl⟩
  have bel : Below w.heap.size w W := by rw [hW]; exact (Below.refl _ _).alloc (Nat.le_refl _) _
  have zW : w.heap.size < W.heap.size := by rw [hW]; simp
  replace h := (h.below bel).more bel.size
  replace h' := (h'.below bel).more bel.size
  have HW := Lib.hid hW
  clear hW
  have L := Lib.hid (specEnd A _ n c m c' sg t (a : Int) W h h' hn hm hs (by omega) (by omega))
  have HE := Lib.hid (endI_some hj)
  have HL := Lib.hid (len1_eq hj)
  have hcut := Seg.cut (a := a) (j := j) h' hj2
  clear h h' hj hs
  have i0 : (0 : Int) ≤ (a : Int) := by omega
  have i1 : (a : Int) ≤ (a : Int) + (j : Int) := by omega
  have i2 : (a : Int) + (j : Int) ≤ (c' : Int) := by omega
  have i3 : ¬ c' = a := by omega
  go_enter Try.func103, Try.ntmps103
  go_wp2_with fail
  rw [← HW.out]
  refine L.out.mono ?_
  rintro e w1 ⟨he, bb⟩
  rw [Int.toNat_natCast, HE.out] at he
  subst he
  replace hcut := hcut.next bb
  replace bel := next_trans bel bb
  clear bb L
  go_wp2_with fail
  refine (copyInts _ j _ _ w1 hcut (fun e => by cases e) (by omega)).mono ?_
  rintro e w2 ⟨A2, n2, c2, rfl, o2, bb⟩
  have F : AnsList w (subL sg t a) (.returned (.slice A2 n2 c2)) w2 := ⟨A2, n2, c2, rfl, by unfold subL; rw [HL.out]; exact Own.lower o2 bel.size, next_trans bel bb⟩
  have HF := Lib.hid F
  clear F o2 bb bel hcut
  go_wp2
  go_ret
  exact HF.out

theorem sub_no {w w' : World} {sg t : List Int} {x : Int} {A : Option Addr} {c : Nat} (h : thereB sg t x = false) (ho : Own w' w.heap.size (.slice A 0 c) []) (hb : Below w.heap.size w w') : AnsList w (subI sg t x) (.returned (.slice A 0 c)) w' :=
  ⟨A, 0, c, rfl, by unfold subI; rw [if_neg (by rw [h]; simp)]; exact ho, hb⟩

set_option maxHeartbeats 1000000 in
theorem implSubAt (A A' : Option Addr) (n c m c' : Nat) (sg t : List Int) (x : Int) (w : World) (h : Seg w w.heap.size A n sg) (h' : Seg w w.heap.size A' m t) (hn : n ≤ 1048576) (hm : m ≤ 1048576) (_ : -9223372036854775808 ≤ x) (_ : x ≤ 9223372036854775807) (hc' : m ≤ c') (hc2 : c' ≤ 9223372036854775807) :
    Calls Try.prog 134 #[.agg #[.slice A n c], .slice A' m c', .int .i64 x] w (AnsList w (subI sg t x)) := by
  obtain ⟨W, hW⟩ : ∃ W, W = w.alloc (.cells #[.slice A n c] 26) := ⟨_, rfl⟩
  have bel : Below w.heap.size w W := by rw [hW]; exact (Below.refl _ _).alloc (Nat.le_refl _) _
  have zW : w.heap.size < W.heap.size := by rw [hW]; simp
  replace h := (h.below bel).more bel.size
  replace h' := (h'.below bel).more bel.size
  have HW := Lib.hid hW
  have HL := Lib.hid h'.1
  clear hW
  have L := Lib.hid (cursorAt A A' n c m c' sg t x W h h' hn hm)
  clear h
  go_enter Try.func134, Try.ntmps134
  go_wp2_with fail
  rw [← HW.out]
  refine L.out.mono ?_
  rintro e w1 ⟨bb, ⟨ht, p, rfl, hp, hc⟩ | ⟨ht, rfl⟩⟩
  · replace h' := h'.next bb
    replace bel := next_trans bel bb
    have HT := Lib.hid ht
    clear ht bb
    obtain ⟨hok, h0, h1⟩ := there_parts HT.out
    have ht := (termOk_parts hok).2.2
    obtain ⟨a, rfl⟩ := Int.eq_ofNat_of_zero_le h0
    rw [Int.toNat_natCast] at hc
    have ham : a < m := by rw [HL.out] at h1; omega
    obtain ⟨j, hj, hj1, hj2⟩ := scan_at ht (a := a) (by rw [HL.out]; exact ham)
    rw [HL.out] at hj2
    obtain ⟨b, off, y, rfl, -, -, -⟩ := h'.spot ham
    have hcut := Seg.cut (a := a) (j := j) h' hj2
    have HJ := Lib.hid hj
    have HLen := Lib.hid (len1_eq hj)
    clear hj ht hok h1
    have i0 : (0 : Int) ≤ (a : Int) := by omega
    have i1 : (a : Int) ≤ (a : Int) + (j : Int) := by omega
    have i2 : (a : Int) + (j : Int) ≤ (c' : Int) := by omega
    have i3 : ¬ c' = a := by omega
    have i4 : a + j ≤ c' := by omega
    go_wp2_with fail
    refine (partC p A n c b off m c' sg t a j _ hc HJ.out hj2 hj1 hc' hc2).mono ?_
    rintro e w2 ⟨rfl, hg, hc2'⟩
    have b2 : Below w.heap.size w w2 := bel.grown hg bel.size (fun k hk => by injection hk; omega)
    have hcut2 : Seg w2 w2.heap.size (some ⟨b, off + a, none⟩) j ((t.drop a).take j) := (Seg.cut (a := a) (j := j) hc2'.s' hj2).more (Nat.le_of_lt hc2'.row.lt)
    clear hc2' hg hcut hc h' bel L
    go_wp2_with fail
    refine (cloneInts b (off + a) j _ _ w2 hcut2 (by omega)).mono ?_
    rintro e w3 ⟨A2, n2, c2, rfl, o2, bb⟩
    have F : AnsList w (subI sg t (a : Int)) (.returned (.slice A2 n2 c2)) w3 := ⟨A2, n2, c2, rfl, by unfold subI; rw [if_pos HT.out, Int.toNat_natCast]; unfold subL; rw [HLen.out]; exact Own.lower o2 b2.size, next_trans b2 bb⟩
    have HF := Lib.hid F
    clear F o2 bb b2 hcut2
    go_wp2
    go_ret
    exact HF.out
  · have F := Lib.hid (sub_no ht (Own.nil w1 w.heap.size) (next_trans bel bb))
    clear bb bel ht h' L
    go_wp2
    go_ret
    exact F.out
theorem subI_len {sg t : List Int} {x : Int} {m : Nat} (h : t.length = m) (hm : m ≤ 1048576) : (subI sg t x).length ≤ 1048576 := by
  unfold subI subL
  split
  · simp only [List.length_take, List.length_drop]; omega
  · simp

end Go.Proofs.Ytkmhnkljigncmaa.sub
end

section
/-
  CONTRACTS: spec.l1Args, spec.ArgsAt, impl.ArgsAt. Conditions: the slices read as lists ('Seg'), at most 1048576 numbers. By an AI agent.
-/
namespace Go.Proofs.Ytkmhnkljigncmaa.args
open Go.RowKit Go.Proofs.Ytkmhnkljigncmaa.base Go.Proofs.Ytkmhnkljigncmaa.ints Go.Proofs.Ytkmhnkljigncmaa.sig Go.Proofs.Ytkmhnkljigncmaa.term Go.Proofs.Ytkmhnkljigncmaa.arity Go.Proofs.Ytkmhnkljigncmaa.endOf Go.Proofs.Ytkmhnkljigncmaa.cursor Go.Proofs.Ytkmhnkljigncmaa.termOk Go.Proofs.Ytkmhnkljigncmaa.endAt Go.Proofs.Ytkmhnkljigncmaa.marks Go.Proofs.Ytkmhnkljigncmaa.app Go.Proofs.Ytkmhnkljigncmaa.sym

/-- the places of the arguments of what begins at a place -/
def argsL (sg t : List Int) (a : Nat) : List Int := places sg t (ar sg (t.getD a 0)).toNat (a + 1)
def argsI (sg t : List Int) (x : Int) : List Int := if thereB sg t x = true then argsL sg t x.toNat else []

/-- so many terms from place p on are still to come; ys is what has been collected of L -/
def Coll (sg t : List Int) (m : Nat) (L ys : List Int) (q p : Nat) : Prop := ys ++ places sg t q p = L ∧ ∃ i, scan sg q (t.drop p) = some i ∧ p + i ≤ m
theorem Coll.first {sg t : List Int} {m : Nat} {L ys : List Int} {q p : Nat} (h : Coll sg t m L ys (q + 1) p) : ∃ j, scan sg 1 (t.drop p) = some j ∧ p + j ≤ m ∧ p < t.length ∧ Coll sg t m L (ys ++ [(p : Int)]) q (p + j) := by
  obtain ⟨h1, i, h2, h3⟩ := h
  obtain ⟨j, e1, e2, e3, e4⟩ := scan_first h2
  have e5 := scan_le h2
  refine ⟨j, e1, by omega, ?_, ?_, i - j, e4, by omega⟩
  · simp only [List.length_drop] at e5; omega
  · rw [← h1, List.append_assoc]
    congr 1
    simp only [places, len1_eq e1, List.singleton_append]
theorem Coll.done {sg t : List Int} {m : Nat} {L ys : List Int} {p : Nat} (h : Coll sg t m L ys 0 p) : ys = L := by
  have := h.1
  simpa [places] using this
theorem Coll.len {sg t : List Int} {m : Nat} {L ys : List Int} {q p : Nat} (h : Coll sg t m L ys q p) : ys.length ≤ L.length := by
  rw [← h.1]; simp
theorem Coll.start {sg t : List Int} {m a j : Nat} (hm : t.length = m) (h : scan sg 1 (t.drop a) = some j) (hj : a + j ≤ m) : ¬ ar sg (t.getD a 0) < 0 ∧ Coll sg t m (argsL sg t a) [] (ar sg (t.getD a 0)).toNat (a + 1) := by
  obtain ⟨i, rfl, _, h2, h3⟩ := scan_args h
  exact ⟨h2, rfl, i, h3, by omega⟩
theorem argsL_len {sg t : List Int} (hs : Arities sg) (a : Nat) : (argsL sg t a).length ≤ 3 := by
  unfold argsL
  rw [places_len]
  have := ar_bd hs (t.getD a 0)
  omega

def HeadArgs (w : World) (A : Option Addr) (n c m : Nat) (sg t : List Int) (L : List Int) (out p k : Value) (wr : World) : Prop :=
  ∃ (q pp : Nat) (O : Option Addr) (on oc : Nat) (ys : List Int), k = .int .i64 q ∧ p = .int .i64 pp ∧ out = .slice O on oc ∧ Own wr (w.heap.size + 1) (.slice O on oc) ys ∧ Coll sg t m L ys q pp ∧ q ≤ 3 ∧ Row wr w.heap.size 26 #[.slice A n c] ∧ Below w.heap.size w wr

set_option maxHeartbeats 1000000 in
theorem l1Args (A A' : Option Addr) (n c m c' : Nat) (sg t : List Int) (a j : Nat) (w : World) (h : Seg w w.heap.size A n sg) (h' : Seg w w.heap.size A' m t) (hn : n ≤ 1048576) (hm : m ≤ 1048576)
    (hs : Arities sg) (ha : a < m) (hj : scan sg 1 (t.drop a) = some j) (hj2 : a + j ≤ m) :
    Calls Try.prog 139 #[.agg #[.slice A n c], .slice A' m c', .int .i64 (a : Int)] w (AnsList w (argsL sg t a)) := by
  have HL := Lib.hid h'.1
  obtain ⟨hneg, hcoll⟩ := Coll.start HL.out hj hj2
  have h3 := argsL_len (t := t) hs a
  obtain ⟨b, off, x, rfl, hbb, hx, ex⟩ := h'.spot ha
  rw [ex.out] at hneg hcoll
  have hzb := ar_bd hs x
  obtain ⟨z, hz⟩ : ∃ z, ar sg x = z := ⟨_, rfl⟩
  rw [hz] at hneg hcoll hzb
  obtain ⟨T, rfl⟩ := Int.eq_ofNat_of_zero_le (show 0 ≤ z by omega)
  rw [Int.toNat_natCast] at hcoll
  have HZ := Lib.hid hz
  obtain ⟨L, hL⟩ : ∃ L, argsL sg t a = L := ⟨_, rfl⟩
  rw [hL] at hcoll h3 ⊢
  obtain ⟨W, hW⟩ : ∃ W, W = (w.alloc (.cells #[.slice A n c] 26)).alloc (.cells #[] 2) := ⟨_, rfl⟩
  have rA : Row W w.heap.size 26 #[.slice A n c] := by rw [hW]; exact (Row.new _ _ _).alloc _
  have bel : Below w.heap.size w W := by rw [hW]; exact ((Below.refl _ _).alloc (Nat.le_refl _) _).alloc (by simp) _
  have ow : Own W (w.heap.size + 1) (.slice (some ⟨w.heap.size + 1, 0, none⟩) 0 0) [] := by
    rw [hW]
    have := own_empty (w.alloc (.cells #[.slice A n c] 26)) (w.heap.size + 1) (by simp)
    simpa using this
  have s : Seg W.drew W.heap.size A n sg := ((h.below bel).more bel.size).drew
  have hx1 : W.cell? ⟨b, off + a, none⟩ = some (.int .i64 x) := (bel.cell (p := ⟨b, off + a, none⟩) hbb).trans hx
  have cA : W.cell? ⟨w.heap.size, 0, none⟩ = some (.slice A n c) := rA.cell 0
  have i0 : (0 : Int) ≤ (a : Int) := by omega
  have i1 : (a : Int) < (m : Int) := by omega
  have HW := Lib.hid hW
  have HS0 := Lib.hid hs
  clear hW hx hL hz hj ex hs
  go_enter Try.func139, Try.ntmps139
  go_wp2_with fail
  rw [← HW.out]
  replace rA := rA.drew
  replace bel := bel.drew
  replace ow := Own.drew ow
  go_region_held3 (fun w' => w'.cell? ⟨w.heap.size, 0, none⟩ = some (.slice A n c) ∧ w'.cell? ⟨b, off + a, none⟩ = some (.int .i64 x))
    (go_keep)
    (first
      | (go_at_call 137; refine (specArity _ _ _ sg x _ s hn).mono ?_; rintro e w2 ⟨he, bb⟩; rw [HZ.out] at he; subst he; replace cA : w2.cell? ⟨w.heap.size, 0, none⟩ = some (.slice A n c) := (rA.next bb).cell 0; have cx' : w2.cell? ⟨b, off + a, none⟩ = some (.int .i64 x) := (bb.cell (p := ⟨b, off + a, none⟩) (Nat.lt_trans hbb rA.lt)).trans hx1))
  have S0 : HeadArgs w A n c m sg t L (.slice (some ⟨w.heap.size + 1, 0, none⟩) 0 0) (.int .i64 ((a + 1 : Nat) : Int)) (.int .i64 (T : Int)) w2 :=
    ⟨T, a + 1, _, _, _, [], rfl, rfl, rfl, Own.next ow bb, hcoll, by omega, rA.next bb, bel.trans (bb.mono (Nat.le_of_lt rA.lt))⟩
  have HS := Lib.hid S0
  clear S0 bb rA bel ow s hx1 cA cx' hcoll
  go_wp2_with fail
  go_loopw [7, 8, 9] (fun out p k wr => HeadArgs w A n c m sg t L out p k wr) (fun _ _ k _ => (intOf k).toNat)
  case atStart => simpa using HS.out
  case round =>
    obtain ⟨q, pp, O, on, oc, ys, rfl, rfl, rfl, ho, hc, hq, hr, hb⟩ := hrel
    clear HS
    have hon : on ≤ 3 := by have := Own.len ho; have := hc.len; omega
    cases q with
    | zero =>
      have F : AnsList w L (.returned (.slice O on oc)) wr := ⟨O, on, oc, rfl, by rw [← hc.done]; exact Own.lower ho (Nat.le_succ _), hb⟩
      have HF := Lib.hid F
      clear F ho hc hr hb h h'
      go_wp2
      go_ret
      exact HF.out
    | succ q =>
      obtain ⟨jj, hj, hj2', hlt, hc'⟩ := hc.first
      have HE := Lib.hid (endI_some hj)
      have hsz := hr.lt
      have e0 : (0 : Int) < ((q + 1 : Nat) : Int) := by omega
      have hpp : pp ≤ 1048576 := by omega
      clear hc hj
      go_wp2_with (at_builtin; refine app1 rfl _ _ rfl (w.heap.size + 1) O on oc ys rfl (Own.alloc ho _) wr.heap.size 1 (pp : Int) rfl ((Row.new _ _ _).cell 0) (by omega) (by simp; omega) ?_; intro O' oc' w2 ho2 b2; have r2 : Row w2 w.heap.size 26 #[.slice A n c] := (hr.alloc _).below b2 (Nat.lt_succ_self _); have bel2 : Below w.heap.size w w2 := (hb.alloc (Nat.le_of_lt hsz) _).trans (b2.mono (Nat.le_succ _)); have cA2 : w2.cell? ⟨w.heap.size, 0, none⟩ = some (.slice A n c) := r2.cell 0)
      have s2 : Seg w2 w2.heap.size A n sg := (h.below bel2).more bel2.size
      have s2' : Seg w2 w2.heap.size (some ⟨b, off, none⟩) m t := (h'.below bel2).more bel2.size
      clear ho b2 hr hb
      refine (specEnd A _ n c m c' sg t (pp : Int) _ s2 s2' hn hm HS0.out (by omega) (by omega)).mono ?_
      rintro e w3 ⟨he, bb⟩
      rw [Int.toNat_natCast, HE.out] at he
      subst he
      have S : HeadArgs w A n c m sg t L (.slice O' (on + 1) oc') (.int .i64 ((pp : Int) + jj)) (.int .i64 (q : Int)) w3 :=
        ⟨q, pp + jj, O', on + 1, oc', _, rfl, by simp, rfl, Own.next ho2 bb, hc', by omega, r2.next bb, next_trans bel2 bb⟩
      have HSS := Lib.hid S
      clear S bb ho2 r2 bel2 cA2 s2 s2' hc'
      go_wp2
      go_roundw
      case rel => first | exact HSS.out | simpa using HSS.out
      case measure => simp [intOf]

theorem args_no {w w' : World} {sg t : List Int} {x : Int} {A : Option Addr} {c : Nat} (h : thereB sg t x = false) (ho : Own w' w.heap.size (.slice A 0 c) []) (hb : Below w.heap.size w w') : AnsList w (argsI sg t x) (.returned (.slice A 0 c)) w' :=
  ⟨A, 0, c, rfl, by unfold argsI; rw [if_neg (by rw [h]; simp)]; exact ho, hb⟩

theorem Cur.keep {w w' : World} {p : Nat} {A : Option Addr} {n c : Nat} {A' : Option Addr} {m c' : Nat} {sg t : List Int} {k : Nat} (h : Cur w p A n c A' m c' sg t k) (hb : Below (p + 1) w w') : Cur w' p A n c A' m c' sg t k :=
  ⟨h.row.below hb (Nat.lt_succ_self _), h.s.below (hb.mono (Nat.le_succ _)), h.s'.below (hb.mono (Nat.le_succ _)), h.le, h.hn, h.hm, h.ars⟩
theorem Cur.alloc {w : World} {p : Nat} {A : Option Addr} {n c : Nat} {A' : Option Addr} {m c' : Nat} {sg t : List Int} {k : Nat} (h : Cur w p A n c A' m c' sg t k) (o : Obj) : Cur (w.alloc o) p A n c A' m c' sg t k :=
  h.below ((Below.refl _ _).alloc (Nat.le_refl _) _)

def HeadImpl (w : World) (p : Nat) (A : Option Addr) (n c : Nat) (A' : Option Addr) (m c' : Nat) (sg t : List Int) (T : Nat) (L : List Int) (out i : Value) (wr : World) : Prop :=
  ∃ (k q pp : Nat) (O : Option Addr) (on oc : Nat) (ys : List Int), i = .int .i64 k ∧ k + q = T ∧ out = .slice O on oc ∧ Own wr (p + 1) (.slice O on oc) ys ∧ Coll sg t m L ys q pp ∧ Cur wr p A n c A' m c' sg t pp ∧ Below w.heap.size w wr

theorem argsI_len {sg t : List Int} {x : Int} : (argsI sg t x).length ≤ 1048576 := by
  unfold argsI
  split
  · rename_i h
    have := argsL_len (t := t) (sig_arities (termOk_parts (there_parts h).1).1).1 x.toNat
    omega
  · simp
end Go.Proofs.Ytkmhnkljigncmaa.args
end

section
/-
  CONTRACTS: spec.l1Max, spec.l1Depth, spec.DepthOf, impl's cursor depth, impl.DepthOf. Conditions: the slices read as lists ('Seg'), at most 1048576 numbers. By an AI agent.
-/
namespace Go.Proofs.Ytkmhnkljigncmaa.depth
open Go.RowKit Go.Proofs.Ytkmhnkljigncmaa.base Go.Proofs.Ytkmhnkljigncmaa.ints Go.Proofs.Ytkmhnkljigncmaa.sig Go.Proofs.Ytkmhnkljigncmaa.term Go.Proofs.Ytkmhnkljigncmaa.arity Go.Proofs.Ytkmhnkljigncmaa.endOf Go.Proofs.Ytkmhnkljigncmaa.cursor Go.Proofs.Ytkmhnkljigncmaa.termOk Go.Proofs.Ytkmhnkljigncmaa.endAt Go.Proofs.Ytkmhnkljigncmaa.marks Go.Proofs.Ytkmhnkljigncmaa.app Go.Proofs.Ytkmhnkljigncmaa.sym Go.Proofs.Ytkmhnkljigncmaa.args

theorem max_any (x y : Int) (w : World) : Calls Try.prog 126 #[.int .i64 x, .int .i64 y] w fun e w' => w = w' ∧ e = .returned (.int .i64 (max x y)) := by
  by_cases h : y < x
  · have e : max x y = x := by omega
    rw [e]
    go_enter Try.func126, Try.ntmps126
    go_wp2
    go_ret
    exact ⟨rfl, rfl⟩
  · have e : max x y = y := by omega
    rw [e]
    go_enter Try.func126, Try.ntmps126
    go_wp2
    go_ret
    exact ⟨rfl, rfl⟩

/-- the greatest of what comes: d so far, q terms from place p on still to come, M in the end -/
def Deep (sg t : List Int) (f : Nat) (M d : Int) (q p : Nat) : Prop := max d (maxOver sg t (dep sg t f) q p) = M ∧ 0 ≤ d ∧ d ≤ f ∧ ∃ i, scan sg q (t.drop p) = some i ∧ i ≤ f ∧ p + i ≤ t.length
theorem Deep.first {sg t : List Int} {f : Nat} {M d : Int} {q p : Nat} (h : Deep sg t f M d (q + 1) p) : ∃ j, scan sg 1 (t.drop p) = some j ∧ j ≤ f ∧ p < t.length ∧ p + j ≤ t.length ∧ Deep sg t f M (max d (dep sg t f p)) q (p + j) := by
  obtain ⟨h1, h2, h3, i, h4, h5, h6⟩ := h
  obtain ⟨j, e1, e2, e3, e4⟩ := scan_first h4
  have hb := dep_bd (sg := sg) (t := t) f p
  refine ⟨j, e1, by omega, by omega, by omega, ?_, by omega, by omega, i - j, e4, by omega, by omega⟩
  simp only [maxOver, len1_eq e1] at h1
  omega
theorem Deep.done {sg t : List Int} {f : Nat} {M d : Int} {p : Nat} (h : Deep sg t f M d 0 p) : d = M := by
  have h1 := h.1
  have h2 := h.2.1
  simp only [maxOver] at h1
  omega
theorem Deep.start {sg t : List Int} {f a j : Nat} (h : scan sg 1 (t.drop a) = some j) (hj : j ≤ f + 1) (hl : a + j ≤ t.length) :
    ¬ ar sg (t.getD a 0) < 0 ∧ Deep sg t f (maxOver sg t (dep sg t f) (ar sg (t.getD a 0)).toNat (a + 1)) 0 (ar sg (t.getD a 0)).toNat (a + 1) := by
  obtain ⟨i, rfl, _, h2, h3⟩ := scan_args h
  have hb := maxOver_bd (sg := sg) (t := t) (g := dep sg t f) (B := f) (by omega) (fun p => dep_bd f p) (ar sg (t.getD a 0)).toNat (a + 1)
  exact ⟨h2, by omega, by omega, by omega, i, h3, by omega, by omega⟩

def AnsDep (w : World) (z : Int) (e : Ending) (w' : World) : Prop := e = .returned (.int .i64 z) ∧ Below w.heap.size w w'

def HeadDep (w : World) (A : Option Addr) (n c : Nat) (O : Option Addr) (T oc : Nat) (ys : List Int) (sg t : List Int) (f : Nat) (M : Int) (deep i : Value) (wr : World) : Prop :=
  ∃ (k q pp : Nat) (d : Int), i = .int .i64 k ∧ deep = .int .i64 d ∧ k + q = T ∧ ys.drop k = places sg t q pp ∧ Deep sg t f M d q pp ∧ Own wr (w.heap.size + 1) (.slice O T oc) ys ∧ Row wr w.heap.size 26 #[.slice A n c] ∧ Below w.heap.size w wr

/-- impl's depth at place k: the depth, and the cursor behind it -/
def AnsCDep (w : World) (p : Nat) (A : Option Addr) (n c : Nat) (A' : Option Addr) (m c' : Nat) (sg t : List Int) (k : Nat) (z : Int) (e : Ending) (w' : World) : Prop :=
  e = .returned (.int .i64 z) ∧ w.grownBy w' (some p) ∧ Cur w' p A n c A' m c' sg t k

def HeadCDep (w : World) (p : Nat) (A : Option Addr) (n c : Nat) (A' : Option Addr) (m c' : Nat) (sg t : List Int) (T f last : Nat) (M : Int) (deep i : Value) (wr : World) : Prop :=
  ∃ (k q pp r : Nat) (d : Int), i = .int .i64 k ∧ deep = .int .i64 d ∧ k + q = T ∧ Deep sg t f M d q pp ∧ scan sg q (t.drop pp) = some r ∧ pp + r = last ∧ Cur wr p A n c A' m c' sg t pp ∧ w.grownBy wr (some p)

/-! ### DepthOf -/
def depthI (sg t : List Int) : Int := if termOkB sg t = true then dep sg t t.length 0 else 0
def AnsDepthOf (w : World) (sg t : List Int) (e : Ending) (w' : World) : Prop := e = .returned (.int .i64 (depthI sg t)) ∧ Below w.heap.size w w'
theorem depth_no {w w' : World} {sg t : List Int} (h : termOkB sg t = false) (hb : Below w.heap.size w w') : AnsDepthOf w sg t (.returned (.int .i64 0)) w' := ⟨by unfold depthI; rw [if_neg (by rw [h]; simp)], hb⟩
theorem depth_yes {w w' : World} {sg t : List Int} {m : Nat} (hm : t.length = m) (h : termOkB sg t = true) (hb : Below w.heap.size w w') : AnsDepthOf w sg t (.returned (.int .i64 (dep sg t m 0))) w' := ⟨by unfold depthI; rw [if_pos h, hm], hb⟩
theorem termOk_pos {sg t : List Int} (h : termOkB sg t = true) : 0 < t.length := by
  have := scan_pos (q := 0) (termOk_parts h).2.2
  exact this

end Go.Proofs.Ytkmhnkljigncmaa.depth
end

section
/-
  PLAIN MATHEMATICS for laws.FnTerms: a subterm is a term, consists of its head and its arguments, and its depth is one more than the deepest of theirs. Conditions: none. By an AI agent.
-/
namespace Go.Proofs.Ytkmhnkljigncmaa.termMath
open Go.Proofs.Ytkmhnkljigncmaa.term Go.Proofs.Ytkmhnkljigncmaa.termOk Go.Proofs.Ytkmhnkljigncmaa.endAt Go.Proofs.Ytkmhnkljigncmaa.sub Go.Proofs.Ytkmhnkljigncmaa.args Go.Proofs.Ytkmhnkljigncmaa.depth Go.Proofs.Ytkmhnkljigncmaa.sig

theorem scan_append {sg : List Int} : ∀ {l r : List Int} {q j : Nat}, scan sg q l = some j → scan sg q (l ++ r) = some j := by
  intro l
  induction l with
  | nil =>
    intro r q j h
    cases q with
    | zero => rw [scan_zero] at h ⊢; exact h
    | succ q => rw [scan_nil] at h; cases h
  | cons x l ih =>
    intro r q j h
    cases q with
    | zero => rw [scan_zero] at h ⊢; exact h
    | succ q =>
      by_cases ha : ar sg x < 0
      · rw [scan_bad ha] at h; cases h
      · rw [scan_step ha] at h
        rw [List.cons_append, scan_step ha]
        obtain ⟨j', hj', rfl⟩ := Option.map_eq_some_iff.1 h
        rw [ih hj']
        rfl
theorem scan_take {sg : List Int} : ∀ {l : List Int} {q j : Nat}, scan sg q l = some j → scan sg q (l.take j) = some j := by
  intro l
  induction l with
  | nil => intro q j h; simpa using h
  | cons x l ih =>
    intro q j h
    cases q with
    | zero => rw [scan_zero] at h ⊢; exact h
    | succ q =>
      by_cases ha : ar sg x < 0
      · rw [scan_bad ha] at h; cases h
      · rw [scan_step ha] at h
        obtain ⟨j', hj', rfl⟩ := Option.map_eq_some_iff.1 h
        rw [List.take_succ_cons, scan_step ha, ih hj']
        rfl
/-- a scan goes by the numbers that it takes alone -/
theorem scan_same {sg l l' : List Int} {q j : Nat} (h : scan sg q l = some j) (e : l.take j = l'.take j) : scan sg q l' = some j := by
  have h1 := scan_take h
  rw [e] at h1
  have h2 := scan_append (r := l'.drop j) h1
  rwa [List.take_append_drop] at h2
theorem take_less {l l' : List Int} {i j : Nat} (e : l.take i = l'.take i) (h : j ≤ i) : l.take j = l'.take j := by
  have : (l.take i).take j = (l'.take i).take j := by rw [e]
  rwa [List.take_take, List.take_take, Nat.min_eq_left h] at this
theorem drop_same {l l' : List Int} {i j : Nat} (e : l.take i = l'.take i) : (l.drop j).take (i - j) = (l'.drop j).take (i - j) := by
  rw [← List.drop_take, ← List.drop_take, e]
theorem get_same {t t' : List Int} {a a' i : Nat} (e : (t.drop a).take i = (t'.drop a').take i) (h : 1 ≤ i) : t.getD a 0 = t'.getD a' 0 := by
  have : ((t.drop a).take i)[0]? = ((t'.drop a').take i)[0]? := by rw [e]
  rw [List.getElem?_take, List.getElem?_take, if_pos (by omega), if_pos (by omega), List.getElem?_drop, List.getElem?_drop] at this
  simpa [List.getD] using congrArg (fun o => o.getD 0) this

theorem max_same {sg t t' : List Int} {f f' : Nat} (hd : ∀ a a' j, (t.drop a).take j = (t'.drop a').take j → scan sg 1 (t.drop a) = some j → j ≤ f → j ≤ f' → dep sg t f a = dep sg t' f' a') :
    ∀ q p p' i, (t.drop p).take i = (t'.drop p').take i → scan sg q (t.drop p) = some i → i ≤ f → i ≤ f' → maxOver sg t (dep sg t f) q p = maxOver sg t' (dep sg t' f') q p'
  | 0, _, _, _, _, _, _, _ => rfl
  | q + 1, p, p', i, e, h, h1, h2 => by
    obtain ⟨j, e1, e2, e3, e4⟩ := scan_first h
    have e5 := scan_same e1 (take_less e e3)
    have hdr : (t.drop (p + j)).take (i - j) = (t'.drop (p' + j)).take (i - j) := by
      have := drop_same (j := j) e
      rwa [List.drop_drop, List.drop_drop] at this
    simp only [maxOver, len1_eq e1, len1_eq e5]
    rw [hd p p' j (take_less e e3) e1 (by omega) (by omega), max_same hd q (p + j) (p' + j) (i - j) hdr e4 (by omega) (by omega)]
/-- the depth goes by the numbers of the term alone -/
theorem dep_same {sg : List Int} : ∀ (f f' : Nat) (t t' : List Int) (a a' j : Nat), (t.drop a).take j = (t'.drop a').take j → scan sg 1 (t.drop a) = some j → j ≤ f → j ≤ f' → dep sg t f a = dep sg t' f' a'
  | 0, _, _, _, _, _, _, _, h, h1, _ => by have := scan_pos (q := 0) h; omega
  | _ + 1, 0, _, _, _, _, _, _, h, _, h2 => by have := scan_pos (q := 0) h; omega
  | f + 1, f' + 1, t, t', a, a', j, e, h, h1, h2 => by
    have hj := scan_pos (q := 0) h
    have hg := get_same e hj
    obtain ⟨i, e1, _, _, e2⟩ := scan_args h
    have hdr : (t.drop (a + 1)).take i = (t'.drop (a' + 1)).take i := by
      have := drop_same (j := 1) e
      rw [List.drop_drop, List.drop_drop] at this
      have e3 : j - 1 = i := by omega
      rwa [e3] at this
    simp only [dep]
    rw [← hg, max_same (fun a a' j e h h1 h2 => dep_same f f' t t' a a' j e h h1 h2) _ (a + 1) (a' + 1) i hdr e2 (by omega) (by omega)]

/-- the subterm at a place of a term -/
theorem sub_term {sg t : List Int} {a : Nat} (hok : termOkB sg t = true) (ha : a < t.length) : termOkB sg (subL sg t a) = true ∧ depthI sg (subL sg t a) = dep sg t (t.length + 1) a ∧ endI sg t a = (a : Int) + ((subL sg t a).length : Int) ∧ 1 ≤ (subL sg t a).length := by
  have hp := termOk_parts hok
  obtain ⟨j, hj, hj1, hj2⟩ := scan_at hp.2.2 ha
  have hl : len1 sg t a = j := len1_eq hj
  have hs : subL sg t a = (t.drop a).take j := by unfold subL; rw [hl]
  have hlen : (subL sg t a).length = j := by rw [hs]; simp; omega
  have hsc : scan sg 1 (subL sg t a) = some (subL sg t a).length := by rw [hlen, hs]; exact scan_take hj
  have hok2 : termOkB sg (subL sg t a) = true := by
    unfold termOkB termB
    rw [hp.1, hsc]
    simp
    omega
  refine ⟨hok2, ?_, by rw [endI_some hj, hlen], by omega⟩
  unfold depthI
  rw [if_pos hok2, hlen]
  refine (dep_same _ _ _ _ _ _ j ?_ ?_ (Nat.le_refl _) (by omega))
  · rw [List.drop_zero, hs, List.take_take, Nat.min_self]
  · rw [List.drop_zero, hsc, hlen]

/-- in the course of the law's loop: q arguments from place pp on are still to come -/
def Loop (sg t : List Int) (a : Nat) (M : Int) (zs args : List Int) (d : Int) (k q pp : Nat) : Prop :=
  args.drop k = places sg t q pp ∧ max d (maxOver sg t (dep sg t t.length) q pp) = M ∧ 0 ≤ d ∧ d ≤ t.length ∧ ∃ i, scan sg q (t.drop pp) = some i ∧ pp + i ≤ t.length ∧ zs ++ (t.drop pp).take i = subL sg t a
theorem Loop.start {sg t : List Int} {a : Nat} (hok : termOkB sg t = true) (ha : a < t.length) :
    Loop sg t a (maxOver sg t (dep sg t t.length) (ar sg (t.getD a 0)).toNat (a + 1)) [t.getD a 0] (argsL sg t a) 0 0 (ar sg (t.getD a 0)).toNat (a + 1) := by
  have hp := termOk_parts hok
  obtain ⟨j, hj, hj1, hj2⟩ := scan_at hp.2.2 ha
  obtain ⟨i, rfl, _, _, hi⟩ := scan_args hj
  have hb := maxOver_bd (sg := sg) (t := t) (g := dep sg t t.length) (B := t.length) (by omega) (fun p => dep_bd t.length p) (ar sg (t.getD a 0)).toNat (a + 1)
  refine ⟨rfl, by omega, by omega, by omega, i, hi, by omega, ?_⟩
  unfold subL
  rw [len1_eq hj, drop_cons ha, List.take_succ_cons]
  rfl
theorem Loop.done {sg t : List Int} {a : Nat} {M : Int} {zs args : List Int} {d : Int} {k pp : Nat} (h : Loop sg t a M zs args d k 0 pp) : zs = subL sg t a ∧ d = M := by
  obtain ⟨_, h2, h3, _, i, h5, _, h7⟩ := h
  rw [scan_zero] at h5
  injection h5 with h5
  subst h5
  simp only [maxOver] at h2
  exact ⟨by simpa using h7, by omega⟩
theorem Loop.step {sg t : List Int} {a : Nat} {M : Int} {zs args : List Int} {d : Int} {k q pp : Nat} (hok : termOkB sg t = true) (h : Loop sg t a M zs args d k (q + 1) pp) :
    pp < t.length ∧ args.getD k 0 = (pp : Int) ∧ ∃ jj, Loop sg t a M (zs ++ subL sg t pp) args (max d (depthI sg (subL sg t pp))) (k + 1) q (pp + jj) := by
  obtain ⟨h1, h2, h3, h4, i, h5, h6, h7⟩ := h
  obtain ⟨j, e1, e2, e3, e4⟩ := scan_first h5
  have hlt : pp < t.length := by omega
  refine ⟨hlt, ?_, j, ?_⟩
  · have : (args.drop k)[0]? = (places sg t (q + 1) pp)[0]? := by rw [h1]
    simp [places] at this
    simp [List.getD, this]
  · have hdep : depthI sg (subL sg t pp) = dep sg t t.length pp := by
      rw [(sub_term hok hlt).2.1]
      exact dep_same _ _ _ _ _ _ j rfl e1 (by omega) (by omega)
    have hb := dep_bd (sg := sg) (t := t) t.length pp
    refine ⟨?_, ?_, by omega, by rw [hdep]; omega, i - j, e4, by omega, ?_⟩
    · have : (args.drop k).drop 1 = (places sg t (q + 1) pp).drop 1 := by rw [h1]
      rw [List.drop_drop] at this
      simpa [places, len1_eq e1] using this
    · rw [hdep]
      simp only [maxOver, len1_eq e1] at h2
      omega
    · rw [← h7, List.append_assoc]
      congr 1
      unfold subL
      rw [len1_eq e1, ← List.drop_drop, ← List.drop_take]
      have := List.take_append_drop j ((t.drop pp).take i)
      rwa [List.take_take, Nat.min_eq_left e3] at this
theorem depth_head {sg t : List Int} {a : Nat} (hok : termOkB sg t = true) (ha : a < t.length) : depthI sg (subL sg t a) = maxOver sg t (dep sg t t.length) (ar sg (t.getD a 0)).toNat (a + 1) + 1 := by
  rw [(sub_term hok ha).2.1]
  rfl
end Go.Proofs.Ytkmhnkljigncmaa.termMath
end

section
/-
  PLAIN MATHEMATICS for chapter 3: ways from the root down to a position, what lies above it, paths, the deepest position, and what a replaced subterm does to them. Conditions: none. By an AI agent.
-/
namespace Go.Proofs.Ytkmhnkljigncmaa.posMath
open Go.Proofs.Ytkmhnkljigncmaa.sig Go.Proofs.Ytkmhnkljigncmaa.term Go.Proofs.Ytkmhnkljigncmaa.termOk Go.Proofs.Ytkmhnkljigncmaa.termFacts Go.Proofs.Ytkmhnkljigncmaa.endAt Go.Proofs.Ytkmhnkljigncmaa.sub Go.Proofs.Ytkmhnkljigncmaa.args Go.Proofs.Ytkmhnkljigncmaa.depth Go.Proofs.Ytkmhnkljigncmaa.termMath

theorem scan_cat {sg : List Int} : ∀ {l l' : List Int} {q q' j : Nat}, scan sg q l = some l.length → scan sg q' l' = some j → scan sg (q + q') (l ++ l') = some (l.length + j)
  | [], l', q, q', j, h, h' => by
    cases q with
    | zero => simpa using h'
    | succ q => rw [scan_nil] at h; cases h
  | x :: r, l', q, q', j, h, h' => by
    cases q with
    | zero => rw [scan_zero] at h; simp at h
    | succ q =>
      by_cases ha : ar sg x < 0
      · rw [scan_bad ha] at h; cases h
      · rw [scan_step ha] at h
        obtain ⟨i, hi, e⟩ := Option.map_eq_some_iff.1 h
        have e2 : i = r.length := by simp at e; omega
        subst e2
        have h2 := scan_cat hi h'
        rw [show q + 1 + q' = (q + q') + 1 by omega, List.cons_append, scan_step ha, show q + q' + (ar sg x).toNat = q + (ar sg x).toNat + q' by omega, h2]
        simp
        omega
theorem term_at {sg t : List Int} (h : termOkB sg t = true) {a : Nat} (ha : a < t.length) : scan sg 1 (t.drop a) = some (len1 sg t a) ∧ 1 ≤ len1 sg t a ∧ a + len1 sg t a ≤ t.length := by
  obtain ⟨j, e, h1, h2⟩ := scan_at (term_parts h).2.2 ha
  rw [len1_eq e]
  exact ⟨e, h1, h2⟩
theorem end_at {sg t : List Int} (h : termOkB sg t = true) {a : Nat} (ha : a < t.length) : endI sg t a = ((a + len1 sg t a : Nat) : Int) := by
  rw [endI_some (term_at h ha).1]; omega
/-- what begins within a row of terms ends within it -/
theorem nest {sg t : List Int} {q a i : Nat} (h : scan sg q (t.drop a) = some i) {p : Nat} (h1 : a ≤ p) (h2 : p < a + i) : p + len1 sg t p ≤ a + i ∧ scan sg 1 (t.drop p) = some (len1 sg t p) ∧ 1 ≤ len1 sg t p := by
  obtain ⟨q', hq⟩ := scan_tail h (show p - a < i by omega)
  rw [List.drop_drop, show a + (p - a) = p by omega] at hq
  obtain ⟨j, e, j1, j2, _⟩ := scan_first hq
  rw [len1_eq e]
  exact ⟨by omega, e, j1⟩

/-- where the k-th of the terms from place p on begins -/
def argP (sg t : List Int) : Nat → Nat → Nat
  | 0, p => p
  | k + 1, p => argP sg t k (p + len1 sg t p)
theorem argP_succ {sg t : List Int} : ∀ k p, argP sg t (k + 1) p = argP sg t k p + len1 sg t (argP sg t k p)
  | 0, _ => rfl
  | k + 1, p => by
    show argP sg t (k + 1) (p + len1 sg t p) = _
    rw [argP_succ k]
    rfl
theorem argP_mono {sg t : List Int} {p k : Nat} : ∀ {k' : Nat}, k ≤ k' → argP sg t k p ≤ argP sg t k' p := by
  intro k' h
  induction k' with
  | zero => rw [Nat.le_zero.1 h]; exact Nat.le_refl _
  | succ k' ih =>
    by_cases e : k = k' + 1
    · rw [e]; exact Nat.le_refl _
    · have := ih (by omega)
      rw [argP_succ]
      omega
theorem argP_scan {sg t : List Int} : ∀ {k q p i : Nat}, scan sg q (t.drop p) = some i → k ≤ q → scan sg k (t.drop p) = some (argP sg t k p - p) ∧ p ≤ argP sg t k p ∧ argP sg t k p ≤ p + i := by
  intro k
  induction k with
  | zero => intro q p i _ _; exact ⟨by rw [scan_zero]; simp [argP], Nat.le_refl _, by simp [argP]⟩
  | succ k ih =>
    intro q p i h hk
    obtain ⟨q, rfl⟩ : ∃ q', q = q' + 1 := ⟨q - 1, by omega⟩
    obtain ⟨j, e1, e2, e3, e4⟩ := scan_first h
    have hj := len1_eq e1
    obtain ⟨a1, a2, a3⟩ := ih e4 (show k ≤ q by omega)
    have ea : argP sg t (k + 1) p = argP sg t k (p + j) := by show argP sg t k (p + len1 sg t p) = _; rw [hj]
    have hsc : scan sg (k + 1) (t.drop p) = some (argP sg t (k + 1) p - p) := by
      have hx := scan_cat (l := (t.drop p).take j) (l' := t.drop (p + j)) (q := 1) (q' := k) (j := argP sg t k (p + j) - (p + j))
        (by have := scan_take e1; rw [this]; have hl := scan_le this; have hl2 := scan_le e1; rw [List.length_take, Nat.min_eq_left hl2]) a1
      have hl2 := scan_le e1
      rw [← List.drop_drop, List.take_append_drop, List.length_take, Nat.min_eq_left hl2, Nat.add_comm 1 k] at hx
      rw [hx, ea]
      congr 1
      omega
    rw [ea] at hsc ⊢
    exact ⟨hsc, by omega, by omega⟩
theorem places_get {sg t : List Int} : ∀ {q p k : Nat}, k < q → (places sg t q p).getD k 0 = (argP sg t k p : Int) := by
  intro q
  induction q with
  | zero => intro p k h; omega
  | succ q ih =>
    intro p k h
    cases k with
    | zero => rfl
    | succ k =>
      show ((p : Int) :: places sg t q (p + len1 sg t p)).getD (k + 1) 0 = _
      rw [List.getD_cons_succ, ih (by omega)]
      rfl
theorem find_arg {sg t : List Int} {at_ : Nat} : ∀ {q p i : Nat}, scan sg q (t.drop p) = some i → p ≤ at_ → at_ < p + i → ∃ k, k < q ∧ argP sg t k p ≤ at_ ∧ at_ < argP sg t k p + len1 sg t (argP sg t k p) := by
  intro q
  induction q with
  | zero => intro p i h h1 h2; rw [scan_zero] at h; injection h; omega
  | succ q ih =>
    intro p i h h1 h2
    obtain ⟨j, e1, e2, e3, e4⟩ := scan_first h
    have hj := len1_eq e1
    by_cases hlt : at_ < p + j
    · exact ⟨0, by omega, h1, by show at_ < p + len1 sg t p; omega⟩
    · obtain ⟨k, k1, k2, k3⟩ := ih e4 (by omega) (by omega)
      have e : argP sg t (k + 1) p = argP sg t k (p + j) := by show argP sg t k (p + len1 sg t p) = _; rw [hj]
      exact ⟨k + 1, by omega, by rw [e]; exact k2, by rw [e]; exact k3⟩

/-- the number of arguments of what begins at a place -/
def arN (sg t : List Int) (p : Nat) : Nat := (ar sg (t.getD p 0)).toNat
/-- the way from a place down to another one: what is above it, and the indexes of the arguments -/
inductive Trail (sg t : List Int) (at_ : Nat) : Nat → List Int → List Int → Prop
  | here : Trail sg t at_ at_ [] []
  | down {p k : Nat} {ab pa : List Int} (h1 : p < at_) (h2 : k < arN sg t p) (h3 : argP sg t k (p + 1) ≤ at_) (h4 : at_ < argP sg t k (p + 1) + len1 sg t (argP sg t k (p + 1))) (h5 : p < argP sg t k (p + 1)) (h6 : at_ < p + len1 sg t p) (hw : Trail sg t at_ (argP sg t k (p + 1)) ab pa) : Trail sg t at_ p ((p : Int) :: ab) ((k : Int) :: pa)
theorem head_scan {sg t : List Int} (h : termOkB sg t = true) {p : Nat} (hp : p < t.length) : ¬ ar sg (t.getD p 0) < 0 ∧ ∃ i, len1 sg t p = i + 1 ∧ scan sg (arN sg t p) (t.drop (p + 1)) = some i := by
  obtain ⟨i, e, _, h1, h2⟩ := scan_args (term_at h hp).1
  exact ⟨h1, i, e, h2⟩
theorem arg_at {sg t : List Int} (h : termOkB sg t = true) {p : Nat} (hp : p < t.length) {k : Nat} (hk : k < arN sg t p) : p < argP sg t k (p + 1) ∧ argP sg t k (p + 1) + len1 sg t (argP sg t k (p + 1)) ≤ p + len1 sg t p ∧ argP sg t k (p + 1) < t.length := by
  obtain ⟨_, i, e, hs⟩ := head_scan h hp
  obtain ⟨_, a2, _⟩ := argP_scan hs (Nat.le_of_lt hk)
  obtain ⟨_, _, b3⟩ := argP_scan hs hk
  rw [argP_succ] at b3
  have hm := argP_scan hs (Nat.le_of_lt hk)
  have hl := (term_at h hp).2.2
  refine ⟨by omega, by omega, ?_⟩
  by_cases hx : argP sg t k (p + 1) < p + 1 + i
  · omega
  · exfalso
    have hsc := argP_scan hs hk
    have h0 := argP_succ (sg := sg) (t := t) k (p + 1)
    have hpos : scan sg (arN sg t p) (t.drop (p + 1)) = some (argP sg t k (p + 1) - (p + 1)) := by rw [hs]; congr 1; omega
    obtain ⟨i', _, s1, s2⟩ := scan_split (p := k) (q := arN sg t p - k - 1 + 1) (l := t.drop (p + 1)) (j := i) (by rw [← hs]; congr 1; omega)
    rw [hm.1] at s1
    injection s1 with s1
    have := scan_pos s2
    omega
theorem way_ex {sg t : List Int} (h : termOkB sg t = true) {at_ : Nat} (hat : at_ < t.length) : ∀ (n p : Nat), at_ - p ≤ n → p ≤ at_ → at_ < p + len1 sg t p → ∃ ab pa, Trail sg t at_ p ab pa := by
  intro n
  induction n with
  | zero =>
    intro p hn hp _
    obtain rfl : p = at_ := by omega
    exact ⟨[], [], .here⟩
  | succ n ih =>
    intro p hn hp hl
    by_cases he : p = at_
    · subst he; exact ⟨[], [], .here⟩
    · obtain ⟨_, i, e, hs⟩ := head_scan h (show p < t.length by omega)
      obtain ⟨k, k1, k2, k3⟩ := find_arg hs (show p + 1 ≤ at_ by omega) (by omega)
      have hlt := (arg_at h (show p < t.length by omega) k1).1
      obtain ⟨ab, pa, hw⟩ := ih _ (by omega) k2 k3
      exact ⟨_, _, .down (by omega) k1 k2 k3 hlt hl hw⟩
theorem root_len {sg t : List Int} (h : termOkB sg t = true) : len1 sg t 0 = t.length := by
  have := (term_parts h).2.2
  exact len1_eq (by simpa using this)
theorem way_root {sg t : List Int} (h : termOkB sg t = true) {at_ : Nat} (hat : at_ < t.length) : ∃ ab pa, Trail sg t at_ 0 ab pa :=
  way_ex h hat at_ 0 (by omega) (by omega) (by rw [root_len h]; omega)
theorem Trail.here_eq {sg t : List Int} {at_ : Nat} {ab pa : List Int} (h : Trail sg t at_ at_ ab pa) : ab = [] ∧ pa = [] := by
  cases h with
  | here => exact ⟨rfl, rfl⟩
  | down h1 => omega
theorem arg_one {sg t : List Int} {p at_ k k' : Nat} (h3 : argP sg t k p ≤ at_) (h4 : at_ < argP sg t k p + len1 sg t (argP sg t k p)) (h3' : argP sg t k' p ≤ at_) (h4' : at_ < argP sg t k' p + len1 sg t (argP sg t k' p)) : k = k' := by
  rcases Nat.lt_trichotomy k k' with h | h | h
  · have := argP_mono (sg := sg) (t := t) (p := p) (show k + 1 ≤ k' by omega)
    rw [argP_succ] at this
    omega
  · exact h
  · have := argP_mono (sg := sg) (t := t) (p := p) (show k' + 1 ≤ k by omega)
    rw [argP_succ] at this
    omega
theorem Trail.one {sg t : List Int} {at_ p : Nat} {ab pa : List Int} (h : Trail sg t at_ p ab pa) : ∀ {ab' pa' : List Int}, Trail sg t at_ p ab' pa' → ab = ab' ∧ pa = pa' := by
  induction h with
  | here => intro ab' pa' h'; obtain ⟨rfl, rfl⟩ := h'.here_eq; exact ⟨rfl, rfl⟩
  | @down p k ab pa h1 h2 h3 h4 h5 h6 hw ih =>
    intro ab' pa' h'
    cases h' with
    | here => omega
    | @down _ k' ab' pa' g1 g2 g3 g4 g5 g6 gw =>
      obtain rfl := arg_one h3 h4 g3 g4
      obtain ⟨rfl, rfl⟩ := ih gw
      exact ⟨rfl, rfl⟩
theorem Trail.len {sg t : List Int} {at_ p : Nat} {ab pa : List Int} (h : Trail sg t at_ p ab pa) : ab.length = pa.length := by
  induction h with
  | here => rfl
  | down _ _ _ _ _ _ _ ih => simp [ih]
theorem Trail.le {sg t : List Int} {at_ p : Nat} {ab pa : List Int} (h : Trail sg t at_ p ab pa) : p ≤ at_ ∧ pa.length ≤ at_ - p := by
  induction h with
  | here => simp
  | down h1 _ _ _ h5 _ _ ih => simp only [List.length_cons]; omega

/-- of the n places from p on those that a place is below -/
def upTo (sg t : List Int) (at_ : Nat) : Nat → Nat → List Int
  | _, 0 => []
  | p, n + 1 => (if at_ < p + len1 sg t p then [(p : Int)] else []) ++ upTo sg t at_ (p + 1) n
theorem upTo_add {sg t : List Int} {at_ : Nat} : ∀ n p m, upTo sg t at_ p (n + m) = upTo sg t at_ p n ++ upTo sg t at_ (p + n) m
  | 0, p, m => by simp [upTo]
  | n + 1, p, m => by
    rw [show n + 1 + m = (n + m) + 1 by omega]
    simp only [upTo]
    rw [upTo_add n (p + 1) m, List.append_assoc, show p + 1 + n = p + (n + 1) by omega]
theorem upTo_snoc {sg t : List Int} {at_ : Nat} (n p : Nat) : upTo sg t at_ p (n + 1) = upTo sg t at_ p n ++ (if at_ < (p + n) + len1 sg t (p + n) then [((p + n : Nat) : Int)] else []) := by
  rw [upTo_add]
  simp [upTo]
theorem upTo_skip {sg t : List Int} {at_ : Nat} : ∀ n p, (∀ r, p ≤ r → r < p + n → ¬ at_ < r + len1 sg t r) → upTo sg t at_ p n = []
  | 0, _, _ => rfl
  | n + 1, p, h => by
    simp only [upTo]
    rw [if_neg (h p (by omega) (by omega)), upTo_skip n (p + 1) (fun r h1 h2 => h r (by omega) (by omega))]
    rfl
def aboveL (sg t : List Int) (at_ : Nat) : List Int := upTo sg t at_ 0 at_
theorem Trail.above {sg t : List Int} (hok : termOkB sg t = true) {at_ p : Nat} (hat : at_ < t.length) {ab pa : List Int} (h : Trail sg t at_ p ab pa) : upTo sg t at_ p (at_ - p) = ab := by
  induction h with
  | here => simp [upTo]
  | @down p k ab pa h1 h2 h3 h4 h5 h6 hw ih =>
    obtain ⟨_, i, e, hs⟩ := head_scan hok (show p < t.length by omega)
    obtain ⟨s1, s2, s3⟩ := argP_scan hs (Nat.le_of_lt h2)
    rw [show at_ - p = (argP sg t k (p + 1) - (p + 1)) + (at_ - argP sg t k (p + 1)) + 1 by omega]
    simp only [upTo]
    rw [if_pos h6, upTo_add, upTo_skip (argP sg t k (p + 1) - (p + 1)), show p + 1 + (argP sg t k (p + 1) - (p + 1)) = argP sg t k (p + 1) by omega, ih]
    · rfl
    · intro r r1 r2 r3
      have := (nest s1 r1 (by omega)).1
      omega
theorem Trail.aboveL {sg t : List Int} (hok : termOkB sg t = true) {at_ : Nat} (hat : at_ < t.length) {ab pa : List Int} (h : Trail sg t at_ 0 ab pa) : aboveL sg t at_ = ab := h.above hok hat

/-- where a path leads to, or -1 -/
def walkI (sg t : List Int) : Nat → List Int → Int
  | p, [] => (p : Int)
  | p, s :: r => if 0 ≤ s ∧ s < ar sg (t.getD p 0) then walkI sg t (argP sg t s.toNat (p + 1)) r else -1
theorem walk_step {sg t : List Int} {p k : Nat} {r : List Int} (h : k < arN sg t p) : walkI sg t p ((k : Int) :: r) = walkI sg t (argP sg t k (p + 1)) r := by
  unfold arN at h
  simp only [walkI]
  rw [if_pos (by omega), Int.toNat_natCast]
theorem walk_no {sg t : List Int} {p : Nat} {s : Int} {r : List Int} (h : ¬ (0 ≤ s ∧ s < ar sg (t.getD p 0))) : walkI sg t p (s :: r) = -1 := by
  simp only [walkI]
  rw [if_neg h]
theorem Trail.walk {sg t : List Int} {at_ p : Nat} {ab pa : List Int} (h : Trail sg t at_ p ab pa) : walkI sg t p pa = (at_ : Int) := by
  induction h with
  | here => rfl
  | down _ h2 _ _ _ _ _ ih => rw [walk_step h2, ih]
theorem Trail.prefix_ {sg t : List Int} {at_ p : Nat} {ab pa : List Int} (h : Trail sg t at_ p ab pa) : ∀ i, i < ab.length → ∃ r : Nat, ab.getD i 0 = (r : Int) ∧ walkI sg t p (pa.take i) = (r : Int) ∧ r < at_ ∧ at_ < r + len1 sg t r := by
  induction h with
  | here => intro i hi; simp at hi
  | @down p k ab pa h1 h2 h3 h4 h5 h6 hw ih =>
    intro i hi
    cases i with
    | zero => exact ⟨p, rfl, rfl, h1, h6⟩
    | succ i =>
      obtain ⟨r, e1, e2, e3, e4⟩ := ih i (by simpa using hi)
      exact ⟨r, by rw [List.getD_cons_succ, e1], by rw [List.take_succ_cons, walk_step h2, e2], e3, e4⟩

/-- the number of steps from the root to a place -/
def pl (sg t : List Int) (at_ : Nat) : Nat := (aboveL sg t at_).length
def deepN (sg t : List Int) : Nat → Nat
  | 0 => 0
  | k + 1 => if pl sg t (deepN sg t k) < pl sg t k then k else deepN sg t k
theorem deep_le {sg t : List Int} : ∀ k, deepN sg t k ≤ k - 1
  | 0 => by simp [deepN]
  | k + 1 => by
    have := deep_le (sg := sg) (t := t) k
    simp only [deepN]
    split <;> omega
theorem deep_most {sg t : List Int} : ∀ k r, r < k → pl sg t r ≤ pl sg t (deepN sg t k)
  | 0, r, h => by omega
  | k + 1, r, h => by
    have ih := deep_most (sg := sg) (t := t) k r
    simp only [deepN]
    by_cases e : r = k
    · subst e; split <;> omega
    · have := ih (by omega)
      split <;> omega
theorem over_ge {sg t : List Int} {g : Nat → Int} : ∀ {q k p : Nat}, k < q → g (argP sg t k p) ≤ maxOver sg t g q p := by
  intro q
  induction q with
  | zero => intro k p h; omega
  | succ q ih =>
    intro k p h
    cases k with
    | zero => simp only [maxOver, argP]; omega
    | succ k =>
      have := ih (k := k) (p := p + len1 sg t p) (by omega)
      simp only [maxOver, argP]
      omega
theorem over_nonneg {sg t : List Int} {g : Nat → Int} : ∀ (q p : Nat), 0 ≤ maxOver sg t g q p
  | 0, _ => by simp [maxOver]
  | q + 1, p => by
    have := over_nonneg (sg := sg) (t := t) (g := g) q (p + len1 sg t p)
    simp only [maxOver]
    omega
theorem over_max {sg t : List Int} {g : Nat → Int} : ∀ (q p : Nat), maxOver sg t g q p = 0 ∨ ∃ k, k < q ∧ g (argP sg t k p) = maxOver sg t g q p
  | 0, _ => .inl rfl
  | q + 1, p => by
    simp only [maxOver]
    rcases Int.le_total (g p) (maxOver sg t g q (p + len1 sg t p)) with h | h
    · rw [Int.max_eq_right h]
      rcases over_max (sg := sg) (t := t) (g := g) q (p + len1 sg t p) with e | ⟨k, k1, k2⟩
      · exact .inl e
      · exact .inr ⟨k + 1, by omega, k2⟩
    · rw [Int.max_eq_left h]
      exact .inr ⟨0, by omega, rfl⟩
theorem Trail.depth {sg t : List Int} {at_ p : Nat} {ab pa : List Int} (h : Trail sg t at_ p ab pa) : ∀ f, pa.length < f → (pa.length : Int) + 1 ≤ dep sg t f p := by
  induction h with
  | here =>
    intro f hf
    obtain ⟨f, rfl⟩ : ∃ f', f = f' + 1 := ⟨f - 1, by simp at hf; omega⟩
    have := over_nonneg (sg := sg) (t := t) (g := dep sg t f) (ar sg (t.getD at_ 0)).toNat (at_ + 1)
    simp only [dep, List.length_nil]
    omega
  | @down p k ab pa h1 h2 h3 h4 h5 h6 hw ih =>
    intro f hf
    simp only [List.length_cons] at hf ⊢
    obtain ⟨f, rfl⟩ : ∃ f', f = f' + 1 := ⟨f - 1, by omega⟩
    have e := ih f (by omega)
    have e2 := over_ge (sg := sg) (t := t) (g := dep sg t f) (p := p + 1) h2
    unfold arN at e2
    simp only [dep]
    omega
theorem depth_way {sg t : List Int} (hok : termOkB sg t = true) : ∀ f p, p < t.length → ∃ at_ ab pa, p ≤ at_ ∧ at_ < p + len1 sg t p ∧ Trail sg t at_ p ab pa ∧ (pa.length : Int) + 1 = dep sg t (f + 1) p := by
  intro f
  induction f with
  | zero =>
    intro p hp
    refine ⟨p, [], [], Nat.le_refl _, by have := (term_at hok hp).2.1; omega, .here, ?_⟩
    have : dep sg t (0 + 1) p = 1 := by
      have e : dep sg t (0 + 1) p = maxOver sg t (dep sg t 0) (ar sg (t.getD p 0)).toNat (p + 1) + 1 := rfl
      have h1 := (dep_bd (sg := sg) (t := t) (0 + 1) p).2
      have h0 := over_nonneg (sg := sg) (t := t) (g := dep sg t 0) (ar sg (t.getD p 0)).toNat (p + 1)
      rw [e] at h1 ⊢
      omega
    rw [this]; rfl
  | succ f ih =>
    intro p hp
    have hl := (term_at hok hp).2
    rcases over_max (sg := sg) (t := t) (g := dep sg t (f + 1)) (arN sg t p) (p + 1) with e | ⟨k, k1, k2⟩
    · refine ⟨p, [], [], Nat.le_refl _, by omega, .here, ?_⟩
      rw [show dep sg t (f + 1 + 1) p = maxOver sg t (dep sg t (f + 1)) (arN sg t p) (p + 1) + 1 from rfl, e]
      rfl
    · obtain ⟨a1, a2, a3⟩ := arg_at hok hp k1
      obtain ⟨at_, ab, pa, b1, b2, b3, b4⟩ := ih _ a3
      refine ⟨at_, _, _, by omega, by omega, .down (by omega) k1 b1 b2 a1 (by omega) b3, ?_⟩
      rw [show dep sg t (f + 1 + 1) p = maxOver sg t (dep sg t (f + 1)) (arN sg t p) (p + 1) + 1 from rfl, ← k2, ← b4]
      simp
/-- the deepest position's path is one shorter than the term is deep -/
theorem deep_depth {sg t : List Int} (hok : termOkB sg t = true) : (pl sg t (deepN sg t t.length) : Int) = depthI sg t - 1 := by
  have h1 := (term_len hok).1
  have hd := deep_le (sg := sg) (t := t) t.length
  have hD : depthI sg t = dep sg t t.length 0 := by unfold depthI; rw [if_pos hok]
  rw [hD]
  obtain ⟨ab, pa, hw⟩ := way_root hok (show deepN sg t t.length < t.length by omega)
  have e1 := hw.depth t.length (by have := hw.le; omega)
  have e2 : pl sg t (deepN sg t t.length) = pa.length := by unfold pl; rw [hw.aboveL hok (by omega), hw.len]
  obtain ⟨f, hf⟩ : ∃ f, t.length = f + 1 := ⟨t.length - 1, by omega⟩
  obtain ⟨at_, ab', pa', b1, b2, b3, b4⟩ := depth_way hok f 0 (by omega)
  have hat : at_ < t.length := by rw [root_len hok] at b2; omega
  have e3 : pl sg t at_ = pa'.length := by unfold pl; rw [b3.aboveL hok hat, b3.len]
  have e4 := deep_most (sg := sg) (t := t) t.length at_ hat
  rw [← hf] at b4
  omega
end Go.Proofs.Ytkmhnkljigncmaa.posMath
end

section
/-
  PLAIN MATHEMATICS for laws.FnPut: a term with a replaced subterm is a term, the subterm is found at its place, and what lies apart from it is found by the same path. Conditions: none. By an AI agent.
-/
namespace Go.Proofs.Ytkmhnkljigncmaa.putMath
open Go.Proofs.Ytkmhnkljigncmaa.sig Go.Proofs.Ytkmhnkljigncmaa.term Go.Proofs.Ytkmhnkljigncmaa.termOk Go.Proofs.Ytkmhnkljigncmaa.termFacts Go.Proofs.Ytkmhnkljigncmaa.endAt Go.Proofs.Ytkmhnkljigncmaa.sub Go.Proofs.Ytkmhnkljigncmaa.args Go.Proofs.Ytkmhnkljigncmaa.depth Go.Proofs.Ytkmhnkljigncmaa.termMath Go.Proofs.Ytkmhnkljigncmaa.posMath

/-- the numbers from place a on, i of them, replaced by u -/
def putL (t : List Int) (a i : Nat) (u : List Int) : List Int := t.take a ++ (u ++ t.drop (a + i))
theorem scan_u {sg u r : List Int} (hu : scan sg 1 u = some u.length) : scan sg 1 (u ++ r) = some u.length := scan_append hu
theorem scan_put {sg u : List Int} (hu : scan sg 1 u = some u.length) : ∀ {a q j i : Nat} {l : List Int}, scan sg q l = some j → a < j → scan sg 1 (l.drop a) = some i → i ≤ j - a ∧ scan sg q (putL l a i u) = some (j - i + u.length) := by
  intro a
  induction a with
  | zero =>
    intro q j i l h ha hi
    cases q with
    | zero => rw [scan_zero] at h; injection h; omega
    | succ q =>
      obtain ⟨i', _, s1, s2⟩ := scan_split (p := 1) (q := q) (by rw [Nat.add_comm]; exact h)
      rw [List.drop_zero] at hi
      rw [hi] at s1
      injection s1 with s1
      subst s1
      have hx := scan_cat hu s2
      refine ⟨by omega, ?_⟩
      unfold putL
      rw [List.take_zero, List.nil_append, Nat.zero_add, Nat.add_comm q 1, hx]
      congr 1
      omega
  | succ a ih =>
    intro q j i l h ha hi
    cases q with
    | zero => rw [scan_zero] at h; injection h; omega
    | succ q =>
      cases l with
      | nil => rw [scan_nil] at h; cases h
      | cons x l =>
        by_cases hx : ar sg x < 0
        · rw [scan_bad hx] at h; cases h
        · rw [scan_step hx] at h
          obtain ⟨j', hj', rfl⟩ := Option.map_eq_some_iff.1 h
          rw [List.drop_succ_cons] at hi
          obtain ⟨e1, e2⟩ := ih hj' (by omega) hi
          refine ⟨by omega, ?_⟩
          have e3 : putL (x :: l) (a + 1) i u = x :: putL l a i u := by
            unfold putL
            rw [List.take_succ_cons, show a + 1 + i = (a + i) + 1 by omega, List.drop_succ_cons]
            rfl
          rw [e3, scan_step hx, e2]
          simp only [Option.map_some]
          congr 1
          omega
/-- where a place goes to -/
def mv (a i n r : Nat) : Nat := if r ≤ a then r else r - i + n

section
variable {sg t u : List Int} {a : Nat}
theorem put_len (hok : termOkB sg t = true) (ha : a < t.length) : (putL t a (len1 sg t a) u).length = t.length - len1 sg t a + u.length := by
  have := term_at hok ha
  unfold putL
  simp only [List.length_append, List.length_take, List.length_drop]
  omega
theorem put_term (hok : termOkB sg t = true) (hu : termOkB sg u = true) (ha : a < t.length) (h60 : (putL t a (len1 sg t a) u).length ≤ 60) : termOkB sg (putL t a (len1 sg t a) u) = true := by
  obtain ⟨h1, h2, h3⟩ := term_parts hok
  refine term_mk h1 h60 ?_
  have := (scan_put (term_parts hu).2.2 h3 ha (term_at hok ha).1).2
  rw [this, put_len hok ha]
theorem drop_at (ha : a ≤ t.length) (i : Nat) : (putL t a i u).drop a = u ++ t.drop (a + i) := by
  unfold putL
  rw [List.drop_append_of_le_length (by simp; omega), List.drop_of_length_le (by simp; omega), List.nil_append]
theorem put_sub (hu : termOkB sg u = true) (ha : a ≤ t.length) (i : Nat) : len1 sg (putL t a i u) a = u.length ∧ subL sg (putL t a i u) a = u := by
  have h : scan sg 1 ((putL t a i u).drop a) = some u.length := by rw [drop_at ha]; exact scan_append (term_parts hu).2.2
  have e := len1_eq h
  refine ⟨e, ?_⟩
  unfold subL
  rw [e, drop_at ha, List.take_left']
  rfl
theorem put_back (hok : termOkB sg t = true) (ha : a < t.length) : putL (putL t a (len1 sg t a) u) a u.length (subL sg t a) = t := by
  have h := term_at hok ha
  have e1 : (putL t a (len1 sg t a) u).take a = t.take a := by
    unfold putL
    rw [List.take_append_of_le_length (by simp; omega), List.take_take, Nat.min_self]
  have e2 : (putL t a (len1 sg t a) u).drop (a + u.length) = t.drop (a + len1 sg t a) := by
    rw [← List.drop_drop, drop_at (by omega), List.drop_left']
    rfl
  unfold putL at e1 e2 ⊢
  rw [e1, e2]
  unfold subL
  rw [← List.drop_drop, List.take_append_drop, List.take_append_drop]

theorem drop_low {p : Nat} (hp : p ≤ a) (ha : a ≤ t.length) (i : Nat) : (putL t a i u).drop p = putL (t.drop p) (a - p) i u := by
  unfold putL
  rw [List.drop_append_of_le_length (by simp; omega), List.drop_take, List.drop_drop, show p + (a - p + i) = a + i by omega]
theorem drop_high {p : Nat} (hp : a + len1 sg t a ≤ p) (hok : termOkB sg t = true) (ha : a < t.length) : (putL t a (len1 sg t a) u).drop (p - len1 sg t a + u.length) = t.drop p := by
  rw [show p - len1 sg t a + u.length = a + (u.length + (p - (a + len1 sg t a))) by omega, ← List.drop_drop, drop_at (by omega), ← List.drop_drop, List.drop_left' rfl, List.drop_drop]
  congr 1
  omega
/-- not strictly inside -/
def Out (sg t : List Int) (a r : Nat) : Prop := r ≤ a ∨ a + len1 sg t a ≤ r
theorem put_row (hok : termOkB sg t = true) (hu : termOkB sg u = true) (ha : a < t.length) {p j : Nat} (hp : Out sg t a p) (hs : scan sg 1 (t.drop p) = some j) :
    scan sg 1 ((putL t a (len1 sg t a) u).drop (mv a (len1 sg t a) u.length p)) = some (mv a (len1 sg t a) u.length (p + j) - mv a (len1 sg t a) u.length p) ∧ mv a (len1 sg t a) u.length p ≤ mv a (len1 sg t a) u.length (p + j) ∧ Out sg t a (p + j) := by
  have hA := term_at hok ha
  have hU := (term_parts hu).2.2
  have hj := scan_pos (q := 0) hs
  unfold Out at hp ⊢
  unfold mv
  rcases hp with hp | hp
  · rcases Nat.lt_or_ge p a with hlt | hge
    · rw [if_pos hp]
      by_cases hin : p + j ≤ a
      · rw [if_pos hin, drop_low hp (by omega)]
        refine ⟨?_, by omega, .inl hin⟩
        rw [show p + j - p = j by omega]
        refine scan_same hs ?_
        unfold putL
        rw [List.take_append_of_le_length (by simp; have := scan_le hs; simp at this; omega), List.take_take, Nat.min_eq_left (by omega)]
      · rw [if_neg hin, drop_low hp (by omega)]
        have hd : scan sg 1 ((t.drop p).drop (a - p)) = some (len1 sg t a) := by rw [List.drop_drop, show p + (a - p) = a by omega]; exact hA.1
        obtain ⟨e1, e2⟩ := scan_put hU hs (show a - p < j by omega) hd
        refine ⟨?_, by omega, .inr (by omega)⟩
        rw [e2]
        congr 1
        omega
    · obtain rfl : p = a := by omega
      rw [hA.1] at hs
      injection hs with hs
      subst hs
      rw [if_pos (Nat.le_refl _), if_neg (by omega), drop_at (by omega)]
      refine ⟨?_, by omega, .inr (Nat.le_refl _)⟩
      rw [scan_append hU]
      congr 1
      omega
  · rw [if_neg (by omega), if_neg (by omega), drop_high hp hok ha]
    refine ⟨?_, by omega, .inr (by omega)⟩
    rw [hs]
    congr 1
    omega
theorem put_args (hok : termOkB sg t = true) (hu : termOkB sg u = true) (ha : a < t.length) : ∀ {k q p i : Nat}, Out sg t a p → scan sg q (t.drop p) = some i → k ≤ q →
    argP sg (putL t a (len1 sg t a) u) k (mv a (len1 sg t a) u.length p) = mv a (len1 sg t a) u.length (argP sg t k p) ∧ Out sg t a (argP sg t k p) := by
  intro k
  induction k with
  | zero => intro q p i hp _ _; exact ⟨rfl, hp⟩
  | succ k ih =>
    intro q p i hp hs hk
    obtain ⟨q, rfl⟩ : ∃ q', q = q' + 1 := ⟨q - 1, by omega⟩
    obtain ⟨j, e1, e2, e3, e4⟩ := scan_first hs
    obtain ⟨r1, r2, r3⟩ := put_row (u := u) hok hu ha hp e1
    have hj := len1_eq e1
    have hl := len1_eq r1
    obtain ⟨g1, g2⟩ := ih r3 e4 (by omega)
    have ea : argP sg t (k + 1) p = argP sg t k (p + j) := by show argP sg t k (p + len1 sg t p) = _; rw [hj]
    rw [ea]
    refine ⟨?_, g2⟩
    rw [← g1]
    show argP sg _ k (mv a (len1 sg t a) u.length p + len1 sg _ (mv a (len1 sg t a) u.length p)) = _
    rw [hl]
    congr 1
    omega
theorem put_head (hok : termOkB sg t = true) (ha : a < t.length) {r : Nat} (hr : r < a ∨ a + len1 sg t a ≤ r) : (putL t a (len1 sg t a) u).getD (mv a (len1 sg t a) u.length r) 0 = t.getD r 0 := by
  have hA := term_at hok ha
  unfold mv
  rcases hr with hr | hr
  · rw [if_pos (by omega)]
    unfold putL
    simp only [List.getD_eq_getElem?_getD]
    rw [List.getElem?_append_left (by simp; omega), List.getElem?_take, if_pos hr]
  · rw [if_neg (by omega)]
    have h0 := congrArg (fun l => l[0]?) (drop_high (u := u) hr hok ha)
    simp only [List.getElem?_drop, Nat.add_zero] at h0
    simp only [List.getD_eq_getElem?_getD, h0]
/-- the same path leads on to where a place apart has gone -/
theorem put_walk (hok : termOkB sg t = true) (hu : termOkB sg u = true) (ha : a < t.length) {p : Nat} (hp : p < a ∨ a + len1 sg t a ≤ p) (hpt : p < t.length) {r : Nat} {ab pa : List Int} (hw : Trail sg t p r ab pa) :
    Out sg t a r → walkI sg (putL t a (len1 sg t a) u) (mv a (len1 sg t a) u.length r) pa = (mv a (len1 sg t a) u.length p : Int) := by
  induction hw with
  | here => intro _; rfl
  | @down r k ab pa h1 h2 h3 h4 h5 h6 hw ih =>
    intro hr
    have hA := term_at hok ha
    unfold Out at hr
    have hr' : r < a ∨ a + len1 sg t a ≤ r := by
      rcases hr with hr | hr
      · by_cases e : r = a
        · subst e; exfalso; omega
        · exact .inl (by omega)
      · exact .inr hr
    have hh := put_head (u := u) hok ha hr'
    have hm : mv a (len1 sg t a) u.length (r + 1) = mv a (len1 sg t a) u.length r + 1 := by
      unfold mv
      rcases hr' with h | h
      · rw [if_pos (by omega), if_pos (by omega)]
      · rw [if_neg (by omega), if_neg (by omega)]; omega
    obtain ⟨_, i, e, hs⟩ := head_scan hok (show r < t.length by omega)
    obtain ⟨g1, g2⟩ := put_args (u := u) hok hu ha (p := r + 1) (by unfold Out; omega) hs (Nat.le_of_lt h2)
    rw [walk_step (by unfold arN at h2 ⊢; rw [hh]; exact h2), ← hm, g1]
    exact ih g2
theorem sub_drop {X : List Int} {q p : Nat} (e : X.drop q = t.drop p) : subL sg X q = subL sg t p := by
  unfold subL len1
  rw [e]
/-- what lies apart is unchanged -/
theorem put_apart (hok : termOkB sg t = true) (hu : termOkB sg u = true) (ha : a < t.length) {p : Nat} (hpt : p < t.length) (hp : p + len1 sg t p ≤ a ∨ a + len1 sg t a ≤ p) :
    subL sg (putL t a (len1 sg t a) u) (mv a (len1 sg t a) u.length p) = subL sg t p ∧ mv a (len1 sg t a) u.length p < (putL t a (len1 sg t a) u).length := by
  have hA := term_at hok ha
  have hP := term_at hok hpt
  have hU := term_len hu
  unfold mv
  rw [put_len hok ha]
  rcases hp with hp | hp
  · rw [if_pos (by omega)]
    refine ⟨?_, by omega⟩
    have et : ((putL t a (len1 sg t a) u).drop p).take (len1 sg t p) = (t.drop p).take (len1 sg t p) := by
      rw [drop_low (by omega) (by omega)]
      unfold putL
      rw [List.take_append_of_le_length (by simp; omega), List.take_take, Nat.min_eq_left (by omega)]
    have hs := scan_same hP.1 et.symm
    unfold subL
    rw [len1_eq hs, et]
  · rw [if_neg (by omega)]
    refine ⟨?_, by omega⟩
    exact sub_drop (drop_high (u := u) hp hok ha)
end
end Go.Proofs.Ytkmhnkljigncmaa.putMath
end
