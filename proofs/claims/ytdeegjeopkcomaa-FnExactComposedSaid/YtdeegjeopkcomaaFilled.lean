/-
  CONTRACTS: spec.l2Filled, spec.Filled, impl.Filled. Conditions: the slices read as lists ('Seg', 'Segs'), at most 1048576 values. By an AI agent.
-/
import Derived.Test.YtdeegjeopkcomaaGives
import Derived.Test.YtdeegjeopkcomaaShifted
import Derived.Deep.AppendLies
namespace Go.Proofs.Ytdeegjeopkcomaa.filled
open Go.RowKit Go.Proofs.Ytdeegjeopkcomaa.base Go.Proofs.Ytdeegjeopkcomaa.ints Go.Proofs.Ytdeegjeopkcomaa.sig Go.Proofs.Ytdeegjeopkcomaa.cursor Go.Proofs.Ytdeegjeopkcomaa.term Go.Proofs.Ytdeegjeopkcomaa.termOk Go.Proofs.Ytdeegjeopkcomaa.marks Go.Proofs.Ytdeegjeopkcomaa.app Go.Proofs.Ytdeegjeopkcomaa.appAt Go.Proofs.Ytdeegjeopkcomaa.sym Go.Proofs.Ytdeegjeopkcomaa.sub Go.Proofs.Ytdeegjeopkcomaa.segs Go.Proofs.Ytdeegjeopkcomaa.segsHelp Go.Proofs.Ytdeegjeopkcomaa.termFacts Go.Proofs.Ytdeegjeopkcomaa.varsMath Go.Proofs.Ytdeegjeopkcomaa.varsOf Go.Proofs.Ytdeegjeopkcomaa.fillMath Go.Proofs.Ytdeegjeopkcomaa.look Go.Proofs.Ytdeegjeopkcomaa.shifted Go.Proofs.Ytdeegjeopkcomaa.substOk Go.Proofs.Ytdeegjeopkcomaa.gives
set_option maxRecDepth 100000

/-- a whole slice appended, at a step of a region that draws -/
theorem stepAppAll {w : World} {ops : Array Oper} {o : Oper} {a : Act} {K : Act → World → Prop} {Q : Exit → Act → World → Prop} {E : Prop} (hgd : o.guard = none) (s x : Operand)
    (ho : o.op = .call { callee := .builtin .append, args := #[s, x], argTypes := #[24, 24] })
    (base : Nat) (A : Option Addr) (n c : Nat) (xs : List Int) (hs : a.eval s = .slice A n c) (hown : Own w base (.slice A n c) xs)
    (S : Option Addr) (m c2 B : Nat) (ys : List Int) (hx : a.eval x = .slice S m c2) (hseg : Seg w B S m ys) (hm1 : 1 ≤ m) (hn : n ≤ 2097152) (hm : m ≤ 2097152) (hbase : base ≤ w.heap.size)
    (h : ∀ g' c' w', Own w' base (.slice (some ⟨g', 0, none⟩) (n + m) c') (xs ++ ys) → w.grownBy w' (blk A) → (blk A = some g' ∨ g' = w.heap.size) → g' < w'.heap.size → K (a.put o.dst (.slice (some ⟨g', 0, none⟩) (n + m) c')) w') :
    if Region.wanted o (yielded ops a.tmps) = true then Oper.wp Try.prog o a w K Q else E := by
  obtain ⟨i0, hi, hz0, hz1, hz2⟩ := info_parts info_i64
  have hl : xs.length = n := by
    obtain ⟨A', c', e⟩ := hown.slice
    exact (Value.slice.inj e).2.1.symm
  have hob : (Value.slice A n c).ownBlock = blk A := by cases A <;> rfl
  obtain ⟨b, off, e, _, hc⟩ := hseg.2 (by omega)
  subst e
  refine step_append_lies w hgd s x 24 ho base 2 i0 (.int .i64 0) 1 8 Try.underlying24 hi hz0 hz1 hz2 rfl (by decide) (.slice A n c) n (xs.map (Value.int .i64)) hs (by rw [← hl]; rw [← hl] at hown; exact hown)
    ⟨b, off, none⟩ m c2 (ys.map (Value.int .i64)) hx (by simp [hseg.1]) (fun j u hj => ?_) (fun u hu => ?_) (by omega) (by unfold maxLen; omega) (by omega) hbase w.heap.size rfl ?_
  · have hjl : j < m := by
      have := (List.getElem?_eq_some_iff.1 hj).1
      simp at this
      have := hseg.1
      omega
    have hcj := hc j hjl
    have e2 : (⟨b, off, none⟩ : Addr).add j = ⟨b, off + j, none⟩ := by unfold Addr.add; split <;> simp_all
    rw [e2, hcj, ← hj]
    have := hseg.1
    simp [List.getD, show j < ys.length by omega]
  · obtain ⟨y, _, rfl⟩ := List.mem_map.1 hu
    rfl
  · intro g' c' w' hown' hg hat hlt
    rw [← List.map_append] at hown'
    rw [hob] at hg hat
    refine h g' c' w' ?_ hg hat hlt
    have hl2 : (xs ++ ys).length = n + m := by simp [hl, hseg.1]
    unfold Own
    rw [hl2]
    exact hown'

/-- what filling answers -/
def fitsB (ss : List (List Int)) (t : List Int) : Bool := decide ((fillL (givesL ss) t).length ≤ 60)
def fitL (ss : List (List Int)) (t : List Int) : List Int := if fitsB ss t = true then fillL (givesL ss) t else []
theorem fits_no {ss : List (List Int)} {t : List Int} {k : Nat} (h : 60 < (fillL (givesL ss) (t.take k)).length) : fitsB ss t = false := by
  have e : fillL (givesL ss) t = fillL (givesL ss) (t.take k) ++ fillL (givesL ss) (t.drop k) := by rw [← fill_append, List.take_append_drop]
  unfold fitsB
  rw [e, List.length_append]
  simp
  omega

/-- the head of l2Filled's loop -/
def HeadF (w : World) (S : Option Addr) (m c mt : Nat) (ss : List (List Int)) (t : List Int) (out i : Value) (wr : World) : Prop :=
  ∃ (k : Nat) (O : Option Addr) (on oc : Nat), k ≤ mt ∧ i = .int .i64 k ∧ out = .slice O on oc ∧ on ≤ 60 ∧ Own wr (w.heap.size + 1) (.slice O on oc) (fillL (givesL ss) (t.take k)) ∧ Row wr w.heap.size 29 #[.slice S m c] ∧ Below w.heap.size w wr
theorem pairF_no {w wr : World} {ss : List (List Int)} {t : List Int} (h : fitsB ss t = false) (hb : Below w.heap.size w wr) : AnsPairO w (fitL ss t) (fitsB ss t) (.returned (.tuple #[.slice (some ⟨wr.heap.size, 0, none⟩) 0 0, .bool false])) (wr.alloc (.cells #[] 2)) :=
  ⟨_, 0, 0, by rw [h], by unfold fitL; rw [if_neg (by rw [h]; simp)]; exact own_empty wr w.heap.size hb.size, hb.alloc hb.size _⟩

set_option maxHeartbeats 8000000 in
theorem l2Filled (S A : Option Addr) (m c mt ct : Nat) (ss : List (List Int)) (t : List Int) (w : World) (h : Segs w w.heap.size S m ss) (h' : Seg w w.heap.size A mt t) (ht : tot ss ≤ 1048576) (hmt : mt ≤ 60) (hv : ∀ x ∈ t, -24 ≤ x) (hM : ∀ i, (givesL ss i).length ≤ 60) :
    Calls Try.prog 67 #[.agg #[.slice S m c], .slice A mt ct] w (AnsPairO w (fitL ss t) (fitsB ss t)) := by
  have HL := Lib.hid h'.1
  have HV := Lib.hid hv
  have HM := Lib.hid hM
  have HT := Lib.hid ht
  have S0 : HeadF w S m c mt ss t (.slice (some ⟨w.heap.size + 1, 0, none⟩) 0 0) (.int .i64 0) ((w.alloc (.cells #[.slice S m c] 29)).alloc (.cells #[] 2)) :=
    ⟨0, _, _, _, Nat.zero_le _, rfl, rfl, by omega, by have := own_empty (w.alloc (.cells #[.slice S m c] 29)) (w.heap.size + 1) (by simp); simpa [fillL] using this, (Row.new _ _ _).alloc _, ((Below.refl _ _).alloc (Nat.le_refl _) _).alloc (by simp) _⟩
  have HS0 := Lib.hid S0
  clear S0 hv hM ht
  go_enter Try.func67, Try.ntmps67
  go_wp2_with fail
  go_loopw [6, 7] (fun out i wr => HeadF w S m c mt ss t out i wr) (fun _ i _ => mt - (intOf i).toNat)
  case atStart => exact HS0.out
  case round =>
    obtain ⟨k, O, on, oc, hk, rfl, rfl, hon, ho, hr, hb⟩ := hrel
    clear HS0
    have hsz := hr.lt
    by_cases hlt : k < mt
    · obtain ⟨b, off, x, rfl, hbb, hx, ex⟩ := h'.spot hlt
      have hx1 : wr.cell? ⟨b, off + k, none⟩ = some (.int .i64 x) := (hb.cell (p := ⟨b, off + k, none⟩) hbb).trans hx
      have hbr : b < wr.heap.size := Nat.lt_of_lt_of_le hbb hb.size
      have cS : wr.cell? ⟨w.heap.size, 0, none⟩ = some (.slice S m c) := hr.cell 0
      have hmem : x ∈ t := by
        have hkl : k < t.length := by rw [HL.out]; exact hlt
        have := ex.out
        rw [← this]
        simp [List.getD, hkl]
      have hx24 : -24 ≤ x := HV.out x hmem
      have E := Lib.hid (fill_take (L := givesL ss) (t := t) (k := k) (by rw [HL.out]; exact hlt) ex.out)
      have i0 : (0 : Int) ≤ (k : Int) := by omega
      have i1 : (k : Int) < (mt : Int) := by omega
      have HN := Lib.hid (Own.len ho)
      have hx0 := hx
      clear hmem hx h' ex
      by_cases hpos : 0 ≤ x
      · have R := Lib.hid (rep_sym (L := givesL ss) hpos)
        have d1 : decide (x < 0) = false := by simp; omega
        by_cases h60 : on + 1 ≤ 60
        · go_wp2_with (at_builtin; refine app1 rfl _ _ rfl (w.heap.size + 1) O on oc (fillL (givesL ss) (t.take k)) rfl (Own.alloc ho _) wr.heap.size 1 x rfl ((Row.new _ _ _).cell 0) (by omega) (by simp; omega) ?_; intro O' oc' w2 ho2 b2)
          have S1 : HeadF w S m c mt ss t (.slice O' (on + 1) oc') (.int .i64 ((k : Int) + 1)) w2 := ⟨k + 1, O', on + 1, oc', hlt, by simp, rfl, h60, by rw [E.out, R.out]; exact ho2, (hr.alloc _).below b2 (Nat.lt_succ_self _), (hb.alloc (Nat.le_of_lt hsz) _).trans (b2.mono (Nat.le_succ _))⟩
          have HS1 := Lib.hid S1
          clear S1 ho2 b2 ho hr hb R E cS
          go_wp2
          go_roundw
          case rel => exact HS1.out
          case measure => simp [intOf]; omega
        · have NO := Lib.hid (fits_no (ss := ss) (t := t) (k := k + 1) (by rw [E.out, R.out, List.length_append, ← HN.out]; simp; omega))
          go_wp2_with (at_builtin; refine app1 rfl _ _ rfl (w.heap.size + 1) O on oc (fillL (givesL ss) (t.take k)) rfl (Own.alloc ho _) wr.heap.size 1 x rfl ((Row.new _ _ _).cell 0) (by omega) (by simp; omega) ?_; intro O' oc' w2 ho2 b2)
          have F := Lib.hid (pairF_no NO.out ((hb.alloc (Nat.le_of_lt hsz) _).trans (b2.mono (Nat.le_succ _))))
          clear ho2 b2 ho hr hb R E cS
          go_wp2
          go_ret2
          exact F.out
      · have hneg : x < 0 := by omega
        have R := Lib.hid (rep_var (L := givesL ss) hneg)
        obtain ⟨i, hi⟩ : ∃ i : Nat, (-1 - x).toNat = i := ⟨_, rfl⟩
        rw [hi] at R
        have hix : (i : Int) = -1 - x := by omega
        have LG := Lib.hid (l2Gives S m c ss i wr.drew (((h.below hb).more hb.size).drew) HT.out (by omega))
        rw [hix] at LG
        have hlen : (givesL ss i).length ≤ 60 := HM.out i
        have hlen1 : 1 ≤ (givesL ss i).length := gives_pos ss i
        obtain ⟨q, hq⟩ : ∃ q, (givesL ss i).length = q := ⟨_, rfl⟩
        rw [hq] at hlen hlen1
        have HQ := Lib.hid hq
        have hw1 : IntKind.i64.wrap (-1 - x) = -1 - x := by rw [IntKind.wrap_i64]; omega
        have hod := Own.drew ho
        have hrd := hr.drew
        have hbd := hb.drew
        clear hix hi hq h
        go_wp2_with fail
        go_region_held3 (fun w' => w'.cell? ⟨w.heap.size, 0, none⟩ = some (.slice S m c) ∧ w'.cell? ⟨b, off + k, none⟩ = some (.int .i64 x))
          (go_keep)
          (first
            | (go_at_call 75; refine LG.out.mono ?_; rintro e w1 ⟨D, dn, dc, rfl, od, bb⟩; obtain rfl : dn = q := (by rw [Own.len od]; exact HQ.out); have ho1 := Own.next hod bb; have hr1 := hrd.next bb; have hb1 := next_trans hbd bb; have cS1 : w1.cell? ⟨w.heap.size, 0, none⟩ = some (.slice S m c) := hr1.cell 0; have cX1 : w1.cell? ⟨b, off + k, none⟩ = some (.int .i64 x) := (bb.cell (p := ⟨b, off + k, none⟩) hbr).trans hx1)
            | (refine stepAppAll rfl _ _ rfl (w.heap.size + 1) O on oc (fillL (givesL ss) (t.take k)) (by rfl) ho1 D _ dc w1.heap.size (givesL ss i) (by rfl) (Own.seg od) (by omega) (by omega) (by omega) (by have := hr1.lt; omega) ?_; intro O' oc' w2 ho2 hg2 hat2 hlt2; have hr2 := Row.away hr1 hg2 (fun e => by have := (World.ownsRow.lt ho1 w.heap.size (by rw [blk_own]; exact e)).1; omega); have hb2 : Below w.heap.size w w2 := hb1.grown hg2 hb1.size (fun z hz => by have := (World.ownsRow.lt ho1 z (by rw [blk_own]; exact hz)).1; omega); have cS2 : w2.cell? ⟨w.heap.size, 0, none⟩ = some (.slice S m c) := hr2.cell 0; have cX2 : w2.cell? ⟨b, off + k, none⟩ = some (.int .i64 x) := (hb2.cell (p := ⟨b, off + k, none⟩) hbb).trans hx0))
        have hsum : (fillL (givesL ss) (t.take k) ++ givesL ss i).length = on + dn := by rw [List.length_append, ← HN.out, HQ.out]
        clear cS1 cX1 ho1 hr1 hb1 od bb hod hrd hbd LG ho hr hb cS hx1 hg2 hat2 HM HV
        by_cases h60 : on + dn ≤ 60
        · have S1 : HeadF w S m c mt ss t (.slice (some ⟨O', 0, none⟩) (on + dn) oc') (.int .i64 ((k : Int) + 1)) w2 := ⟨k + 1, _, on + dn, oc', hlt, by simp, rfl, h60, by rw [E.out, R.out]; exact ho2, hr2, hb2⟩
          have HS1 := Lib.hid S1
          clear S1 ho2 hr2 hb2 R E HQ hsum
          go_wp2
          go_roundw
          case rel => exact HS1.out
          case measure => simp [intOf]; omega
        · have NO := Lib.hid (fits_no (ss := ss) (t := t) (k := k + 1) (by rw [E.out, R.out, hsum]; omega))
          have F := Lib.hid (pairF_no NO.out hb2)
          clear ho2 hr2 hb2 R E HQ hsum
          go_wp2
          go_ret2
          exact F.out
    · have F : AnsPairO w (fitL ss t) (fitsB ss t) (.returned (.tuple #[.slice O on oc, .bool true])) wr := by
        rw [List.take_of_length_le (by rw [HL.out]; omega)] at ho
        have hB : fitsB ss t = true := by unfold fitsB; rw [← Own.len ho]; simp; omega
        exact ⟨O, on, oc, by rw [hB], by unfold fitL; rw [if_pos hB]; exact Own.lower ho (Nat.le_succ _), hb⟩
      have HF := Lib.hid F
      clear F ho hr hb h h'
      go_wp2
      go_ret2
      exact HF.out

/-- what Filled answers -/
def filledB (sg : List Int) (ss : List (List Int)) (t : List Int) : Bool := substOkB sg ss && (termOkB sg t && fitsB ss t)
def filledL (sg : List Int) (ss : List (List Int)) (t : List Int) : List Int := if filledB sg ss t = true then fillL (givesL ss) t else []
theorem filled_s {sg : List Int} {ss : List (List Int)} {t : List Int} (h : substOkB sg ss = false) : filledB sg ss t = false := by unfold filledB; rw [h, Bool.false_and]
theorem filled_t {sg : List Int} {ss : List (List Int)} {t : List Int} (h : termOkB sg t = false) : filledB sg ss t = false := by unfold filledB; rw [h, Bool.false_and, Bool.and_false]
theorem filled_b {sg : List Int} {ss : List (List Int)} {t : List Int} (h : substOkB sg ss = true) (h' : termOkB sg t = true) : filledB sg ss t = fitsB ss t := by unfold filledB; rw [h, h', Bool.true_and, Bool.true_and]
theorem filled_l {sg : List Int} {ss : List (List Int)} {t : List Int} (h : substOkB sg ss = true) (h' : termOkB sg t = true) : filledL sg ss t = fitL ss t := by unfold filledL fitL; rw [filled_b h h']
theorem filled_len (sg : List Int) (ss : List (List Int)) (t : List Int) : (filledL sg ss t).length ≤ 60 := by
  unfold filledL filledB fitsB
  split
  · rename_i h
    simp only [Bool.and_eq_true, decide_eq_true_eq] at h
    exact h.2.2
  · simp
theorem pairSF_no {w w' : World} {sg : List Int} {ss : List (List Int)} {t : List Int} {A : Option Addr} {c : Nat} (h : filledB sg ss t = false) (hb : Below w.heap.size w w') : AnsPairS w (filledL sg ss t) (filledB sg ss t) (.returned (.tuple #[.slice A 0 c, .bool false])) w' :=
  ⟨A, 0, c, by rw [h], by unfold filledL; rw [if_neg (by rw [h]; simp)]; exact ⟨rfl, fun h0 => absurd h0 (by omega)⟩, hb⟩
theorem pairOF_no {w w' : World} {sg : List Int} {ss : List (List Int)} {t : List Int} (h : filledB sg ss t = false) (hb : Below w.heap.size w w') : AnsPairO w (filledL sg ss t) (filledB sg ss t) (.returned (.tuple #[.slice none 0 0, .bool false])) w' :=
  ⟨none, 0, 0, by rw [h], by unfold filledL; rw [if_neg (by rw [h]; simp)]; exact Own.nil _ _, hb⟩

set_option maxHeartbeats 2000000 in
theorem specFilled (A S A' : Option Addr) (n c m c' q cq : Nat) (sg : List Int) (ss : List (List Int)) (t : List Int) (w : World) (h : Seg w w.heap.size A n sg) (h' : Segs w w.heap.size S m ss) (h2 : Seg w w.heap.size A' q t) (hn : n ≤ 1048576) (ht : tot ss ≤ 1048576) (hq : q ≤ 1048576) :
    Calls Try.prog 21 #[.agg #[.slice A n c], .agg #[.slice S m c'], .slice A' q cq] w (AnsPairS w (filledL sg ss t) (filledB sg ss t)) := by
  obtain ⟨W, hW, rA, rS, bel⟩ := boxes2 w A n c S m c'
  have HW := Lib.hid hW
  have HL := Lib.hid h2.1
  have s := h.next bel
  have s1 := h'.next bel
  have s2 := h2.next bel
  have L := Lib.hid (specSubstOk A S n c m c' sg ss W s s1 hn ht)
  clear hW h h' h2
  cases hok : substOkB sg ss with
  | false =>
    have HS := Lib.hid hok
    clear hok s s1 s2
    go_enter Try.func21, Try.ntmps21
    go_wp2_with fail
    rw [← HW.out]
    refine L.out.mono ?_
    rintro e w1 ⟨he, bb⟩
    rw [HS.out] at he
    subst he
    have bel1 := next_trans bel bb
    have F := Lib.hid (pairSF_no (A := some ⟨w1.heap.size, 0, none⟩) (c := 0) (filled_s (t := t) HS.out) (bel1.alloc bel1.size (.cells #[] 2)))
    clear bb bel bel1 rA rS
    go_wp2
    go_ret2
    exact F.out
  | true =>
    have HS := Lib.hid hok
    clear hok
    go_enter Try.func21, Try.ntmps21
    go_wp2_with fail
    rw [← HW.out]
    refine L.out.mono ?_
    rintro e w1 ⟨he, bb⟩
    rw [HS.out] at he
    subst he
    replace s := s.next bb
    replace s1 := s1.next bb
    replace s2 := s2.next bb
    replace rA := rA.next bb
    replace rS := rS.next bb
    replace bel := next_trans bel bb
    have cA : w1.cell? ⟨w.heap.size, 0, none⟩ = some (.slice A n c) := rA.cell 0
    have L2 := Lib.hid (specTermOk A A' n c q cq sg t w1 s s2 hn hq)
    clear bb L
    cases hok2 : termOkB sg t with
    | false =>
      have HS2 := Lib.hid hok2
      clear hok2 s s1 s2
      go_wp2_with fail
      refine L2.out.mono ?_
      rintro e w2 ⟨he, bb⟩
      rw [HS2.out] at he
      subst he
      have bel1 := next_trans bel bb
      have F := Lib.hid (pairSF_no (A := some ⟨w2.heap.size, 0, none⟩) (c := 0) (filled_t (ss := ss) HS2.out) (bel1.alloc bel1.size (.cells #[] 2)))
      clear bb bel bel1 rA rS cA L2
      go_wp2
      go_ret2
      exact F.out
    | true =>
      have HS2 := Lib.hid hok2
      have HV := Lib.hid (fun x hx => (term_mem (x := x) hok2 hx).1)
      have H60 : q ≤ 60 := by rw [← HL.out]; exact (term_len hok2).2
      clear hok2
      go_wp2_with fail
      refine L2.out.mono ?_
      rintro e w2 ⟨he, bb⟩
      rw [HS2.out] at he
      subst he
      replace s1 := s1.next bb
      replace s2 := s2.next bb
      replace bel := next_trans bel bb
      have cS : w2.cell? ⟨w.heap.size + 1, 0, none⟩ = some (.slice S m c') := (rS.next bb).cell 0
      have L3 := Lib.hid (l2Filled S A' m c' q cq ss t w2 s1 s2 ht H60 HV.out (gives_len HS.out))
      clear bb L2 s1 s2 cA rA rS
      go_wp2_with fail
      refine L3.out.mono ?_
      rintro e w3 ⟨O, on, oc, rfl, ho, bb⟩
      have F : AnsPairS w (filledL sg ss t) (filledB sg ss t) (.returned (.tuple #[.slice O on oc, .bool (fitsB ss t)])) w3 :=
        ⟨O, on, oc, by rw [filled_b HS.out HS2.out], by rw [filled_l HS.out HS2.out]; exact Own.seg ho, next_trans bel bb⟩
      have HF := Lib.hid F
      clear F ho bb bel L3 cS
      generalize fitsB ss t = z at *
      go_wp2
      go_ret2
      exact HF.out

set_option maxHeartbeats 4000000 in
theorem implFilled (A S A' : Option Addr) (n c m c' q cq : Nat) (sg : List Int) (ss : List (List Int)) (t : List Int) (w : World) (h : Seg w w.heap.size A n sg) (h' : Segs w w.heap.size S m ss) (h2 : Seg w w.heap.size A' q t) (hn : n ≤ 1048576) (ht : tot ss ≤ 1048576) (hq : q ≤ 1048576) :
    Calls Try.prog 20 #[.agg #[.slice A n c], .agg #[.slice S m c'], .slice A' q cq] w (AnsPairO w (filledL sg ss t) (filledB sg ss t)) := by
  obtain ⟨W, hW, rA, rS, bel⟩ := boxes2 w A n c S m c'
  have HW := Lib.hid hW
  have HL := Lib.hid h2.1
  have hm : m ≤ 1048576 := tot_len h'.1 ht
  have s := h.next bel
  have s1 := h'.next bel
  have s2 := h2.next bel
  have L := Lib.hid (implSubstOk A S n c m c' sg ss W s s1 hn ht)
  clear hW h h' h2
  cases hok : substOkB sg ss with
  | false =>
    have HS := Lib.hid hok
    clear hok s s1 s2
    go_enter Try.func20, Try.ntmps20
    go_wp2_with fail
    rw [← HW.out]
    refine L.out.mono ?_
    rintro e w1 ⟨he, bb⟩
    rw [HS.out] at he
    subst he
    have F := Lib.hid (pairOF_no (filled_s (t := t) HS.out) (next_trans bel bb))
    clear bb bel rA rS
    go_wp2
    go_ret2
    exact F.out
  | true =>
    have HS := Lib.hid hok
    clear hok
    go_enter Try.func20, Try.ntmps20
    go_wp2_with fail
    rw [← HW.out]
    refine L.out.mono ?_
    rintro e w1 ⟨he, bb⟩
    rw [HS.out] at he
    subst he
    replace s := s.next bb
    replace s1 := s1.next bb
    replace s2 := s2.next bb
    replace rA := rA.next bb
    replace rS := rS.next bb
    replace bel := next_trans bel bb
    have cA : w1.cell? ⟨w.heap.size, 0, none⟩ = some (.slice A n c) := rA.cell 0
    have L2 := Lib.hid (implTermOk A A' n c q cq sg t w1 s s2 hn hq)
    clear bb L
    cases hok2 : termOkB sg t with
    | false =>
      have HS2 := Lib.hid hok2
      clear hok2 s s1 s2
      go_wp2_with fail
      refine L2.out.mono ?_
      rintro e w2 ⟨he, bb⟩
      rw [HS2.out] at he
      subst he
      have F := Lib.hid (pairOF_no (filled_t (ss := ss) HS2.out) (next_trans bel bb))
      clear bb bel rA rS cA L2
      go_wp2
      go_ret2
      exact F.out
    | true =>
      have HS2 := Lib.hid hok2
      have HV := Lib.hid (fun x hx => (term_mem (x := x) hok2 hx).1)
      have H60 : q ≤ 60 := by rw [← HL.out]; exact (term_len hok2).2
      have HG := Lib.hid (gives_len HS.out)
      clear hok2
      go_wp2_with fail
      refine L2.out.mono ?_
      rintro e w2 ⟨he, bb⟩
      rw [HS2.out] at he
      subst he
      replace s1 := s1.next bb
      replace s2 := s2.next bb
      replace bel := next_trans bel bb
      have cS : w2.cell? ⟨w.heap.size + 1, 0, none⟩ = some (.slice S m c') := (rS.next bb).cell 0
      clear bb L2 cA rA rS
      go_wp2_with fail
      refine (lookupIn S m c' w2).mono ?_
      rintro e w3 ⟨rfl, hw3⟩
      have b3 : Below w2.heap.size w2 w3 := by rw [hw3]; exact (Below.refl _ _).alloc (Nat.le_refl _) _
      have r3 : Row w3 w2.heap.size 29 #[.slice S m c'] := by rw [hw3]; exact Row.new _ _ _
      replace s1 := s1.next b3
      replace s2 := s2.next b3
      replace bel := next_trans bel b3
      have L3 := Lib.hid (fill 105 #[.pointer (some ⟨w2.heap.size, 0, none⟩)] (enters_of Try.func105 (by kernel_rfl) rfl) A' q cq t _ w3 (lookSubst w2.heap.size S m c' ss w3 r3 s1 hm) s2 H60 HV.out (fun i => Nat.le_trans (HG.out i) (by omega)))
      clear hw3 b3 r3 s1 s2 cS
      go_wp2_with fail
      refine L3.out.mono ?_
      rintro e w4 ⟨O, on, oc, rfl, ho, bb⟩
      have hsize := bel.size
      replace bel := next_trans bel bb
      have ho2 := Own.lower ho hsize
      have hlen := Own.len ho
      have hon : on ≤ 245760 := by rw [hlen]; have := fill_bound (L := givesL ss) (t := t) (k := t.length) (fun i => Nat.le_trans (HG.out i) (by omega)) HL.out H60; rwa [List.take_length] at this
      have F : ∀ z : Bool, z = decide (60 < on) → AnsPairO w (filledL sg ss t) (filledB sg ss t) (.returned (.tuple #[.slice (if z then none else O) (if z then 0 else on) (if z then 0 else oc), .bool !z])) w4 := fun z hz => by
        by_cases h60 : 60 < on
        · rw [decide_eq_true h60] at hz
          subst hz
          exact pairOF_no (by rw [filled_b HS.out HS2.out]; unfold fitsB; rw [← hlen]; simp; omega) bel
        · rw [decide_eq_false h60] at hz
          subst hz
          have hb : filledB sg ss t = true := by rw [filled_b HS.out HS2.out]; unfold fitsB; rw [← hlen]; simp; omega
          exact ⟨O, on, oc, by rw [hb]; rfl, by unfold filledL; rw [if_pos hb]; exact ho2, bel⟩
      have HF := Lib.hid F
      clear F ho ho2 bb bel L3 hlen
      go_wp2_with fail
      refine (tooLong O on oc w4 (by omega)).mono ?_
      rintro e w5 ⟨rfl, rfl⟩
      obtain ⟨z, hz⟩ : ∃ z, decide (60 < on) = z := ⟨_, rfl⟩
      have G := Lib.hid (HF.out z hz.symm)
      rw [hz]
      clear HF hz
      cases z
      · go_wp2
        go_ret2
        exact G.out
      · go_wp2
        go_ret2
        exact G.out
end Go.Proofs.Ytdeegjeopkcomaa.filled
