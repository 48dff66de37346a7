/-
  MERGED: my texts CompMath, PlainFacts, MatchTot, MatchFacts, Shape3, KindsW, StepSpec, TabR, Whole, TakeMath, Take, one behind the other, as they are. By an AI agent.
-/
import Derived.Test.YtmaamlnooepogaaMFnExactStepsFrom4
import Derived.Deep.RegionHeld3
import Derived.Deep.DeepCutAuto
import Derived.Laws.Rows
import Derived.Laws.ResultCell
section
/-
  PLAIN MATHEMATICS of Composed: what the composition gives ('compL'), whether all of it fits ('compOk'), its plain form. Conditions: none. By an AI agent.
-/
namespace Go.Proofs.Ytmaamlnooepogaa.compMath
open Go.Proofs.Ytmaamlnooepogaa.term Go.Proofs.Ytmaamlnooepogaa.termOk Go.Proofs.Ytmaamlnooepogaa.termFacts Go.Proofs.Ytmaamlnooepogaa.segsHelp Go.Proofs.Ytmaamlnooepogaa.fillMath Go.Proofs.Ytmaamlnooepogaa.substOk Go.Proofs.Ytmaamlnooepogaa.gives Go.Proofs.Ytmaamlnooepogaa.plainMath Go.Proofs.Ytmaamlnooepogaa.plainOf

/-- what the composition gives for a variable -/
def compL (us ss : List (List Int)) (i : Nat) : List Int := fillL (givesL us) (givesL ss i)
def compOk (us ss : List (List Int)) : Bool := (List.range 24).all fun i => decide ((compL us ss i).length ≤ 60)
/-- what Composed answers -/
def composedB (sg : List Int) (ss us : List (List Int)) : Bool := substOkB sg ss && (substOkB sg us && compOk us ss)
def composedI (sg : List Int) (ss us : List (List Int)) : List (List Int) := if composedB sg ss us = true then plainL (compL us ss) 24 else []

theorem composed_s {sg : List Int} {ss us : List (List Int)} (h : substOkB sg ss = false) : composedB sg ss us = false := by unfold composedB; rw [h, Bool.false_and]
theorem composed_u {sg : List Int} {ss us : List (List Int)} (h : substOkB sg us = false) : composedB sg ss us = false := by unfold composedB; rw [h, Bool.false_and, Bool.and_false]
theorem composed_b {sg : List Int} {ss us : List (List Int)} (h : substOkB sg ss = true) (h' : substOkB sg us = true) : composedB sg ss us = compOk us ss := by unfold composedB; rw [h, h', Bool.true_and, Bool.true_and]
theorem composed_yes {sg : List Int} {ss us : List (List Int)} (h : composedB sg ss us = true) : composedI sg ss us = plainL (compL us ss) 24 := by unfold composedI; rw [if_pos h]
theorem composed_no {sg : List Int} {ss us : List (List Int)} (h : composedB sg ss us = false) : composedI sg ss us = [] := by unfold composedI; rw [if_neg (by rw [h]; simp)]

theorem compOk_iff {us ss : List (List Int)} : compOk us ss = true ↔ ∀ i, i < 24 → (compL us ss i).length ≤ 60 := by
  unfold compOk
  rw [List.all_eq_true]
  exact ⟨fun h i hi => of_decide_eq_true (h i (List.mem_range.2 hi)), fun h i hi => decide_eq_true (h i (List.mem_range.1 hi))⟩
theorem compOk_no {us ss : List (List Int)} {i : Nat} (hi : i < 24) (h : ¬ (compL us ss i).length ≤ 60) : compOk us ss = false := by
  cases e : compOk us ss with
  | false => rfl
  | true => exact absurd (compOk_iff.1 e i hi) h
theorem comp_out {us ss : List (List Int)} {i : Nat} (h : ss.length ≤ i) (h' : us.length ≤ i) : compL us ss i = vt i := by
  unfold compL
  rw [gives_out (by omega)]
  unfold vt
  rw [fill_cons, fill_nil, List.append_nil, rep_var (by omega), show (-1 - (-1 - (i : Int))).toNat = i by omega, gives_out (by omega)]
  rfl
theorem comp_pos (us ss : List (List Int)) (i : Nat) : 1 ≤ (compL us ss i).length := by
  have h1 := fill_ge (gives_pos us) (givesL ss i)
  have h2 := gives_pos ss i
  unfold compL
  omega
theorem comp_len {sg : List Int} {us ss : List (List Int)} (h : substOkB sg ss = true) (h' : substOkB sg us = true) (i : Nat) : (compL us ss i).length ≤ 3600 := by
  have h1 := fill_len (M := 60) (by omega) (gives_len h') (givesL ss i)
  have h2 := gives_len h i
  have h3 : (givesL ss i).length * 60 ≤ 60 * 60 := Nat.mul_le_mul_right _ h2
  unfold compL
  omega

/-- the composition as a list -/
def outL (us ss : List (List Int)) (k : Nat) : List (List Int) := (List.range k).map (compL us ss)
theorem out_len (us ss : List (List Int)) (k : Nat) : (outL us ss k).length = k := by simp [outL]
theorem out_get {us ss : List (List Int)} {k i : Nat} (h : i < k) : (outL us ss k).getD i [] = compL us ss i := by simp [outL, List.getD, h]
theorem out_succ (us ss : List (List Int)) (k : Nat) : outL us ss (k + 1) = outL us ss k ++ [compL us ss k] := by simp [outL, List.range_succ]
theorem out_gives {us ss : List (List Int)} {k i : Nat} (h : i < k) : givesL (outL us ss k) i = compL us ss i := by
  have := comp_pos us ss i
  rw [gives_term (by rw [out_get h]; omega), out_get h]
theorem out_plain {us ss : List (List Int)} {k : Nat} (hk : k ≤ 24) (h : ss.length ≤ k) (h' : us.length ≤ k) : plainL (givesL (outL us ss k)) k = plainL (compL us ss) 24 := by
  rw [plain_24 hk (fun i hi => comp_out (by omega) (by omega))]
  exact plain_ext fun i hi => out_gives hi
theorem out_each {us ss : List (List Int)} {k : Nat} (hk : k ≤ 24) (h : ∀ i, i < k → (compL us ss i).length ≤ 60) : tot (outL us ss k) ≤ 1048576 := by
  have h1 := tot_le (xss := outL us ss k) (M := 60) (fun j => by
    by_cases hj : j < k
    · rw [out_get hj]; exact h j hj
    · rw [show (outL us ss k).getD j [] = [] by simp [List.getD, out_len, hj]]; simp)
  rw [out_len] at h1
  have : k * 60 ≤ 24 * 60 := Nat.mul_le_mul_right _ hk
  omega

/-- one of the lists is too long for a term -/
def anyLong (xss : List (List Int)) : Bool := xss.any fun t => decide (60 < t.length)
theorem anyLong_iff {xss : List (List Int)} : anyLong xss = true ↔ ∃ i, 60 < (xss.getD i []).length := by
  unfold anyLong
  rw [List.any_eq_true]
  refine ⟨fun ⟨t, ht, h⟩ => ?_, fun ⟨i, h⟩ => ?_⟩
  · obtain ⟨i, hi, rfl⟩ := List.getElem_of_mem ht
    exact ⟨i, by simpa [List.getD, hi] using h⟩
  · by_cases hi : i < xss.length
    · refine ⟨xss[i], List.getElem_mem hi, ?_⟩
      simpa [List.getD, hi] using h
    · rw [show xss.getD i [] = [] by simp [List.getD, hi]] at h
      simp at h
theorem anyLong_comp (us ss : List (List Int)) : anyLong (plainL (compL us ss) 24) = !compOk us ss := by
  cases h : compOk us ss with
  | true =>
    cases e : anyLong (plainL (compL us ss) 24) with
    | false => rfl
    | true =>
      obtain ⟨i, hi⟩ := anyLong_iff.1 e
      rw [plain_get] at hi
      by_cases h24 : i < 24
      · rw [rows_get h24] at hi
        have := compOk_iff.1 h i h24
        unfold bare at hi
        split at hi
        · simp at hi
        · omega
      · rw [show (rowsL (compL us ss) 24).getD i [] = [] by simp [List.getD, rows_len, h24]] at hi
        simp at hi
  | false =>
    have hn : ∃ i, i < 24 ∧ ¬ (compL us ss i).length ≤ 60 := by
      refine Classical.byContradiction fun hne => ?_
      have : compOk us ss = true := compOk_iff.2 fun i hi => Classical.byContradiction fun hl => hne ⟨i, hi, hl⟩
      rw [h] at this
      cases this
    obtain ⟨i, hi, hl⟩ := hn
    refine anyLong_iff.2 ⟨i, ?_⟩
    rw [plain_get, rows_get hi]
    unfold bare
    rw [if_neg (fun e => by rw [e] at hl; simp [vt] at hl)]
    omega
theorem composed_tot {sg : List Int} {ss us : List (List Int)} : tot (composedI sg ss us) ≤ 1048576 := by
  cases h : composedB sg ss us with
  | false => rw [composed_no h]; simp [tot, sumL]
  | true =>
    rw [composed_yes h]
    unfold composedB at h
    simp only [Bool.and_eq_true] at h
    have h1 := tot_le (plain_each (L := compL us ss) (m := 24) (comp_len h.1 h.2.1))
    have h2 := plain_len (compL us ss) 24
    have h4 : (plainL (compL us ss) 24).length * 3600 ≤ 24 * 3600 := Nat.mul_le_mul_right _ h2
    omega
end Go.Proofs.Ytmaamlnooepogaa.compMath
end

section
/-
  PLAIN MATHEMATICS of plain substitutions: the plain form is valid, replaces in the same way, and is unique; of compositions: they are valid and fill as one after the other. Conditions: those named. By an AI agent.
-/
namespace Go.Proofs.Ytmaamlnooepogaa.plainFacts
open Go.RowKit Go.Proofs.Ytmaamlnooepogaa.base Go.Proofs.Ytmaamlnooepogaa.ints Go.Proofs.Ytmaamlnooepogaa.sig Go.Proofs.Ytmaamlnooepogaa.term Go.Proofs.Ytmaamlnooepogaa.termOk Go.Proofs.Ytmaamlnooepogaa.termFacts Go.Proofs.Ytmaamlnooepogaa.fillMath Go.Proofs.Ytmaamlnooepogaa.plainMath Go.Proofs.Ytmaamlnooepogaa.plainOf Go.Proofs.Ytmaamlnooepogaa.substOk Go.Proofs.Ytmaamlnooepogaa.gives Go.Proofs.Ytmaamlnooepogaa.sameSubst Go.Proofs.Ytmaamlnooepogaa.compMath Go.Proofs.Ytmaamlnooepogaa.filled

/-- a plain form gives what its look-up gives -/
theorem gives_plain {L : Nat → List Int} {m i : Nat} (hpos : ∀ i, 1 ≤ (L i).length) (hout : ∀ i, m ≤ i → L i = vt i) : givesL (plainL L m) i = L i := by
  have e := plain_get L m i
  by_cases h : i < m
  · rw [rows_get h] at e
    unfold bare at e
    by_cases h2 : L i = vt i
    · rw [if_pos h2] at e
      rw [gives_var (by rw [e]; rfl), h2]
    · rw [if_neg h2] at e
      rw [gives_term (by rw [e]; have := hpos i; omega), e]
  · have e0 : (rowsL L m).getD i [] = [] := by simp [List.getD, rows_len, h]
    rw [e0] at e
    rw [gives_var (by rw [e]; rfl), hout i (by omega)]
theorem plain_gives {ss : List (List Int)} (i : Nat) : givesL (plainL (givesL ss) ss.length) i = givesL ss i :=
  gives_plain (fun j => gives_pos ss j) (fun j hj => gives_out (by omega))
/-- a plain form is valid, if its look-up gives terms -/
theorem plain_valid {sg : List Int} {L : Nat → List Int} {m : Nat} (hs : sigOkB sg = true) (hm : m ≤ 24) (hok : ∀ i, i < m → termOkB sg (L i) = true) : substOkB sg (plainL L m) = true := by
  have hl := plain_len L m
  refine subst_good hs (by omega) (fun j hj => ?_)
  rw [plain_get, rows_get (by omega)]
  unfold bare goodB
  split
  · simp
  · rw [hok j (by omega)]
    simp
theorem plain_ok {sg : List Int} {ss : List (List Int)} (h : substOkB sg ss = true) : substOkB sg (plainL (givesL ss) ss.length) = true :=
  plain_valid (substOk_parts h).1 (substOk_parts h).2.1 (fun i hi => gives_ok h (by have := (substOk_parts h).2.1; omega))
theorem plain_eq_24 {ss : List (List Int)} (h : ss.length ≤ 24) : plainL (givesL ss) ss.length = plainL (givesL ss) 24 := (plain_24 h (fun i hi => gives_out (by omega))).symm
/-- two valid substitutions replace in the same way if and only if their plain forms are equal -/
theorem plain_iff {sg : List Int} {a b : List (List Int)} (ha : substOkB sg a = true) (hb : substOkB sg b = true) : sameB sg a b = decide (plainL (givesL a) a.length = plainL (givesL b) b.length) := by
  rw [same_ab ha hb]
  by_cases h : sameG a b = true
  · rw [h]
    symm
    rw [decide_eq_true_eq, plain_eq_24 (substOk_parts ha).2.1, plain_eq_24 (substOk_parts hb).2.1]
    exact plain_ext (fun i hi => sameG_iff.1 h i hi)
  · have h0 : sameG a b = false := by simpa using h
    rw [h0]
    symm
    rw [decide_eq_false_iff_not]
    intro e
    refine h (sameG_iff.2 (fun i _ => ?_))
    rw [← plain_gives (ss := a) i, ← plain_gives (ss := b) i, e]
theorem plain_self {sg : List Int} {a : List (List Int)} (ha : substOkB sg a = true) : sameB sg (plainL (givesL a) a.length) a = true := by
  rw [same_ab (plain_ok ha) ha]
  exact sameG_iff.2 (fun i _ => plain_gives i)
/-- nothing, or its last term is there -/
theorem plain_last (L : Nat → List Int) (m : Nat) : (plainL L m).length = 0 ∨ 0 < ((plainL L m).getD ((plainL L m).length - 1) []).length := by
  unfold plainL
  rcases strip_end (rowsL L m) with h | ⟨q, h1, h2⟩
  · exact .inl (by rw [h]; rfl)
  · refine .inr ?_
    rw [h1, Nat.add_sub_cancel]
    exact List.length_pos_iff.2 h2
/-- the composition, as a substitution -/
theorem comp_gives {sg : List Int} {ss us : List (List Int)} (h : composedB sg ss us = true) (i : Nat) : givesL (composedI sg ss us) i = if i < 24 then compL us ss i else vt i := by
  rw [composed_yes h]
  have hs : substOkB sg ss = true := by unfold composedB at h; simp at h; exact h.1
  have hu : substOkB sg us = true := by unfold composedB at h; simp at h; exact h.2.1
  have e : compL us ss = fun i => compL us ss i := rfl
  have h1 := gives_plain (L := compL us ss) (m := 24) (i := i) (fun j => comp_pos us ss j) (fun j hj => comp_out (by have := (substOk_parts hs).2.1; omega) (by have := (substOk_parts hu).2.1; omega))
  rw [h1]
  split
  · rfl
  · rename_i h2
    exact comp_out (by have := (substOk_parts hs).2.1; omega) (by have := (substOk_parts hu).2.1; omega)
theorem comp_ok {sg : List Int} {ss us : List (List Int)} (h : composedB sg ss us = true) : substOkB sg (composedI sg ss us) = true := by
  have hs : substOkB sg ss = true := by unfold composedB at h; simp at h; exact h.1
  have hu : substOkB sg us = true := by unfold composedB at h; simp at h; exact h.2.1
  have hc : compOk us ss = true := by unfold composedB at h; simp at h; exact h.2.2
  rw [composed_yes h]
  refine plain_valid (substOk_parts hs).1 (Nat.le_refl _) (fun i hi => ?_)
  unfold compL
  refine fill_term (gives_ok hs hi) (fun x hx h0 => gives_ok hu ?_) (compOk_iff.1 hc i hi)
  have := term_mem (gives_ok hs hi) hx
  omega
/-- filling by the composition is filling twice -/
theorem comp_fill {sg : List Int} {ss us : List (List Int)} {t : List Int} (h : composedB sg ss us = true) (ht : termOkB sg t = true) : fillL (givesL (composedI sg ss us)) t = fillL (givesL us) (fillL (givesL ss) t) := by
  rw [fill_fill]
  refine fill_ext (fun x hx h0 => ?_)
  rw [comp_gives h]
  have := term_mem ht hx
  rw [if_pos (by omega)]
  rfl
/-- both ways give the same -/
theorem comp_facts {sg : List Int} {ss us : List (List Int)} {t : List Int} (h : composedB sg ss us = true) (h1 : filledB sg ss t = true) (h2 : filledB sg us (filledL sg ss t) = true) :
    substOkB sg (composedI sg ss us) = true ∧ filledB sg (composedI sg ss us) t = true ∧ filledL sg (composedI sg ss us) t = filledL sg us (filledL sg ss t) := by
  have a1 : termOkB sg t = true := by unfold filledB at h1; simp at h1; exact h1.2.1
  have e1 : filledL sg ss t = fillL (givesL ss) t := by unfold filledL; rw [if_pos h1]
  have e2 : filledL sg us (filledL sg ss t) = fillL (givesL us) (fillL (givesL ss) t) := by unfold filledL; rw [if_pos (by have := h2; unfold filledL at this; exact this), if_pos h1]
  have a2 : fitsB us (filledL sg ss t) = true := by unfold filledB at h2; simp at h2; exact h2.2.2
  have hb : filledB sg (composedI sg ss us) t = true := by
    rw [filled_b (comp_ok h) a1]
    unfold fitsB at a2 ⊢
    rw [comp_fill h a1, ← e1]
    exact a2
  refine ⟨comp_ok h, hb, ?_⟩
  rw [e2]
  unfold filledL
  rw [if_pos hb]
  exact comp_fill h a1
end Go.Proofs.Ytmaamlnooepogaa.plainFacts
end

section
/-
  PLAIN MATHEMATICS: a match's answer holds few numbers. Conditions: none. By an AI agent.
-/
namespace Go.Proofs.Ytmaamlnooepogaa.matchTot
open Go.RowKit Go.Proofs.Ytmaamlnooepogaa.base Go.Proofs.Ytmaamlnooepogaa.ints Go.Proofs.Ytmaamlnooepogaa.sig Go.Proofs.Ytmaamlnooepogaa.term Go.Proofs.Ytmaamlnooepogaa.termOk Go.Proofs.Ytmaamlnooepogaa.app Go.Proofs.Ytmaamlnooepogaa.sym Go.Proofs.Ytmaamlnooepogaa.sub Go.Proofs.Ytmaamlnooepogaa.segs Go.Proofs.Ytmaamlnooepogaa.segsHelp Go.Proofs.Ytmaamlnooepogaa.plainMath Go.Proofs.Ytmaamlnooepogaa.gives Go.Proofs.Ytmaamlnooepogaa.plainOf Go.Proofs.Ytmaamlnooepogaa.fillMath Go.Proofs.Ytmaamlnooepogaa.termFacts Go.Proofs.Ytmaamlnooepogaa.matchMath Go.Proofs.Ytmaamlnooepogaa.matchSpec

theorem mst_short {sg t : List Int} : ∀ {p : List Int} {k : Nat} {s s' : List (List Int)}, mst sg t p k s = some s' → (∀ i, (s.getD i []).length ≤ t.length) → ∀ i, (s'.getD i []).length ≤ t.length := by
  intro p
  induction p with
  | nil => intro k s s' h hs; injection h with h; subst h; exact hs
  | cons x r ih =>
    intro k s s' h hs
    by_cases h1 : t.length ≤ k
    · rw [mst_out h1] at h; cases h
    · by_cases h2 : 0 ≤ x
      · by_cases h3 : x = t.getD k 0
        · rw [mst_sym h1 h2 h3] at h; exact ih h hs
        · rw [mst_symNo h1 h2 h3] at h; cases h
      · by_cases h3 : (s.getD (vr x) []).length ≠ 0 ∧ s.getD (vr x) [] ≠ subL sg t k
        · rw [mst_varNo h1 h2 h3] at h; cases h
        · rw [mst_var h1 h2 h3] at h
          refine ih h (fun i => ?_)
          rw [set_get]
          split
          · unfold subL; rw [List.length_take, List.length_drop]; omega
          · exact hs i
theorem match_tot {sg p t : List Int} : tot (resL (matchO sg p t)) ≤ 1048576 := by
  cases h1 : termOkB sg t with
  | false => rw [match_no (.inr h1)]; simp [resL, tot, sumL]
  | true =>
    cases h : matchO sg p t with
    | none => simp [resL, tot, sumL]
    | some s =>
      have ht := (term_len h1).2
      have hs : ∀ i, (s.getD i []).length ≤ t.length := by
        unfold matchO at h
        split at h
        · exact mst_short h (fun i => by rw [s0_get]; simp)
        · cases h
      have hg : ∀ i, (givesL s i).length ≤ 60 := fun i => by
        by_cases e : (s.getD i []).length = 0
        · rw [gives_var e]; simp [vt]
        · rw [gives_term e]; have := hs i; omega
      have h3 := tot_le (plain_each (L := givesL s) (m := 24) hg)
      have h4 := plain_len (givesL s) 24
      have h5 : (plainL (givesL s) 24).length * 60 ≤ 24 * 60 := Nat.mul_le_mul_right _ h4
      show tot (plainL (givesL s) 24) ≤ 1048576
      omega
end Go.Proofs.Ytmaamlnooepogaa.matchTot
end

section
/-
  PLAIN MATHEMATICS: what matching finds is a valid substitution, which turns the pattern into the term; a filled term is an instance of what was filled. Conditions: none. By an AI agent.
-/
namespace Go.Proofs.Ytmaamlnooepogaa.matchFacts
open Go.Proofs.Ytmaamlnooepogaa.sig Go.Proofs.Ytmaamlnooepogaa.term Go.Proofs.Ytmaamlnooepogaa.termOk Go.Proofs.Ytmaamlnooepogaa.termFacts Go.Proofs.Ytmaamlnooepogaa.endAt Go.Proofs.Ytmaamlnooepogaa.sub Go.Proofs.Ytmaamlnooepogaa.termMath Go.Proofs.Ytmaamlnooepogaa.fillMath Go.Proofs.Ytmaamlnooepogaa.posMath Go.Proofs.Ytmaamlnooepogaa.segsHelp Go.Proofs.Ytmaamlnooepogaa.substOk Go.Proofs.Ytmaamlnooepogaa.gives Go.Proofs.Ytmaamlnooepogaa.plainMath Go.Proofs.Ytmaamlnooepogaa.plainFacts Go.Proofs.Ytmaamlnooepogaa.filled Go.Proofs.Ytmaamlnooepogaa.sameSubst Go.Proofs.Ytmaamlnooepogaa.matchMath Go.Proofs.Ytmaamlnooepogaa.matchSpec

theorem mst_terms {sg t : List Int} (hok : termOkB sg t = true) : ∀ {p : List Int} {k : Nat} {s s' : List (List Int)}, mst sg t p k s = some s' → (∀ i, (s.getD i []).length = 0 ∨ termOkB sg (s.getD i []) = true) → ∀ i, (s'.getD i []).length = 0 ∨ termOkB sg (s'.getD i []) = true := by
  intro p
  induction p with
  | nil => intro k s s' h hs; injection h with h; subst h; exact hs
  | cons x r ih =>
    intro k s s' h hs
    by_cases h1 : t.length ≤ k
    · rw [mst_out h1] at h; cases h
    · by_cases h2 : 0 ≤ x
      · by_cases h3 : x = t.getD k 0
        · rw [mst_sym h1 h2 h3] at h; exact ih h hs
        · rw [mst_symNo h1 h2 h3] at h; cases h
      · by_cases h3 : (s.getD (vr x) []).length ≠ 0 ∧ s.getD (vr x) [] ≠ subL sg t k
        · rw [mst_varNo h1 h2 h3] at h; cases h
        · rw [mst_var h1 h2 h3] at h
          refine ih h (fun i => ?_)
          rw [set_get]
          split
          · exact .inr (sub_term hok (by omega)).1
          · exact hs i
theorem match_terms {sg p t : List Int} {s : List (List Int)} (h : matchO sg p t = some s) : termOkB sg p = true ∧ termOkB sg t = true ∧ s.length = 24 ∧ ∀ i, (s.getD i []).length = 0 ∨ termOkB sg (s.getD i []) = true := by
  obtain ⟨h1, h2⟩ := inst_ok (show instB sg p t = true by unfold instB; rw [h]; rfl)
  refine ⟨h1, h2, (match_turns h).1, ?_⟩
  rw [match_yes h1 h2] at h
  exact mst_terms h2 h (fun i => .inl (by rw [s0_get]; rfl))
/-- what is found is valid -/
theorem match_valid {sg p t : List Int} {s : List (List Int)} (h : matchO sg p t = some s) : substOkB sg (resL (some s)) = true := by
  obtain ⟨h1, h2, h3, h4⟩ := match_terms h
  refine plain_valid (term_parts h1).1 (Nat.le_refl _) (fun i hi => ?_)
  rcases h4 i with e | e
  · rw [gives_var e]; exact var_term (term_parts h1).1 hi
  · rw [gives_term (by have := (term_len e).1; omega)]; exact e
theorem res_gives {s : List (List Int)} (h : s.length = 24) (i : Nat) : givesL (resL (some s)) i = givesL s i :=
  gives_plain (gives_pos s) (fun j hj => gives_out (by omega))
/-- and turns the pattern into the term -/
theorem match_fill {sg p t : List Int} {s : List (List Int)} (h : matchO sg p t = some s) : filledB sg (resL (some s)) p = true ∧ filledL sg (resL (some s)) p = t := by
  obtain ⟨h1, h2, h3, h4⟩ := match_terms h
  obtain ⟨_, t1, t2⟩ := match_turns h
  have e : fillL (givesL (resL (some s))) p = t := by
    rw [← t1]
    refine fill_ext (fun x hx h0 => ?_)
    rw [res_gives h3]
    have h5 : 1 ≤ (s.getD (vr x) []).length := scan_pos (q := 0) (t2 x hx h0)
    exact gives_term (i := vr x) (by omega)
  have hb : filledB sg (resL (some s)) p = true := by
    rw [filled_b (match_valid h) h1]
    unfold fitsB
    rw [e]
    exact decide_eq_true (term_len h2).2
  exact ⟨hb, by unfold filledL; rw [if_pos hb]; exact e⟩
theorem same_self {sg : List Int} {ss : List (List Int)} (h : substOkB sg ss = true) : sameB sg ss ss = true := by
  unfold sameB
  rw [h, sameG_yes (fun _ _ => rfl)]; rfl
/-- a filled term is an instance -/
theorem fill_inst {sg : List Int} {us : List (List Int)} {v : List Int} (h : filledB sg us v = true) : instB sg v (filledL sg us v) = true := by
  have e : filledL sg us v = fillL (givesL us) v := by unfold filledL; rw [if_pos h]
  have h60 : (fillL (givesL us) v).length ≤ 60 := by rw [← e]; exact filled_len _ _ _
  unfold filledB at h
  rw [Bool.and_eq_true, Bool.and_eq_true] at h
  obtain ⟨h1, h2, _⟩ := h
  have hg : ∀ x ∈ v, x < 0 → termOkB sg (givesL us (-1 - x).toNat) = true := fun x hx h0 => gives_ok h1 (by have := (term_mem h2 hx).1; omega)
  rw [e]
  exact (inst_iff h2 (fill_term h2 hg h60)).2 ⟨givesL us, rfl, fun x hx h0 => (term_parts (hg x hx h0)).2.2⟩
end Go.Proofs.Ytmaamlnooepogaa.matchFacts
end

section
/-
  SHAPES with numbers amid slices: an element of the call's own slice that is written cell by cell; a struct that is being copied, from any first cells on; the marks of a slice's elements read again. Conditions: none; plain lemmas. By an AI agent.
-/
namespace Go.Proofs.Ytmaamlnooepogaa.shape
open Go.RowKit Go.Proofs.Ytmaamlnooepogaa.base Go.Proofs.Ytmaamlnooepogaa.ints Go.Proofs.Ytmaamlnooepogaa.sig Go.Proofs.Ytmaamlnooepogaa.cursor Go.Proofs.Ytmaamlnooepogaa.marks Go.Proofs.Ytmaamlnooepogaa.app Go.Proofs.Ytmaamlnooepogaa.sym Go.Proofs.Ytmaamlnooepogaa.appAt Go.Proofs.Ytmaamlnooepogaa.segs Go.Proofs.Ytmaamlnooepogaa.segsHelp Go.Proofs.Ytmaamlnooepogaa.segsMark Go.Proofs.Ytmaamlnooepogaa.kinds

theorem Owned.num (w : World) (lo hi : Nat) (x : Int) : Owned w lo hi .num [.int .i64 x] x := ⟨[], ⟨rfl, rfl⟩, List.nodup_nil, fun k hk => by cases hk⟩
theorem Ow.num {w w' : World} {cs : List Value} {x : Int} {F : List Nat} (h : Ow w .num cs x F) (y : Int) : Ow w' .num [.int .i64 y] y F := ⟨rfl, h.2⟩
theorem CpS.init (w : World) (tL tI : TypeId) (cs zs ps : Array Value) : CpS w tL tI cs zs ps (((w.alloc (.cells cs tL)).alloc (.cells zs tI)).alloc (.cells ps tI)) where
  box := by have := ((Row.new w tL cs).alloc (.cells zs tI)).alloc (.cells ps tI); simpa using this
  res := by have := (Row.new (w.alloc (.cells cs tL)) tI zs).alloc (.cells ps tI); simpa using this
  cur := by have := Row.new ((w.alloc (.cells cs tL)).alloc (.cells zs tI)) tI ps; simpa using this
  bel := (((Below.refl _ _).alloc (Nat.le_refl _) _).alloc (by simp) _).alloc (by simp; omega) _
  size := by simp
theorem Only.setCell {F : List Nat} {w w' : World} {g i : Nat} (h : Only F w w') (hg : g ∈ F) (u : Value) : Only F w (w'.setCell ⟨g, i, none⟩ u) := h.trans (Only.put hg)
/-- an element of a slice of the call's own, with the slice's row -/
theorem Ow.elemR {w : World} {s : Sh} {e : TypeId} {v : Value} {F : List Nat} {D : List (Dat s)} {j : Nat} (h : Ow w (.row e s) [v] D F) (hF : F.Nodup) (hj : j < D.length) :
    ∃ g n c cur es Gj, v = .slice (some ⟨g, 0, none⟩) n c ∧ D.length = n ∧ Row w g e cur ∧ j * nc s + nc s ≤ cur.size ∧ es.length = nc s ∧ (∀ i, i < nc s → cur[j * nc s + i]? = es[i]?) ∧ Ow w s es (D.getD j (dft s)) Gj ∧ Gj.Nodup ∧ g ∉ Gj ∧ (∀ k ∈ g :: Gj, k ∈ F) ∧
      ∀ (w2 : World) (es2 : List Value) (d2 : Dat s) (cur2 : Array Value), es2.length = nc s → Row w2 g e cur2 → cur2.size = cur.size → (∀ i, i < nc s → cur2[j * nc s + i]? = es2[i]?) → (∀ q, (q < j * nc s ∨ j * nc s + nc s ≤ q) → cur2[q]? = cur[q]?) → Ow w2 s es2 d2 Gj → Only (g :: Gj) w w2 →
        Ow w2 (.row e s) [v] (D.set j d2) F := by
  obtain ⟨A, n, c, e1, hl, h1⟩ := h
  injection e1 with e1
  rcases h1 with ⟨_, e2, _⟩ | ⟨g, cur, E, G, e2, hr, h2, h3, h4, h5, h6⟩
  · omega
  subst e1 e2 h5
  rw [List.nodup_cons] at hF
  obtain ⟨q1, q2, q3⟩ := h6 j (by omega)
  have hsz : j * nc s + nc s ≤ cur.size := by
    have := Nat.mul_le_mul_right (nc s) (show j + 1 ≤ c by omega)
    rw [Nat.add_mul] at this
    omega
  refine ⟨g, n, c, cur, E j, G j, rfl, hl, hr, hsz, q1, q2, q3, nodup_part hF.2 (by omega), fun hg => hF.1 (List.mem_flatMap.2 ⟨j, List.mem_range.2 (by omega), hg⟩),
    fun k hk => ?_, fun w2 es2 d2 cur2 hl2 hr2 hs2 hp2 hc2 ho2 hon => ?_⟩
  · rcases List.mem_cons.1 hk with hk | hk
    · rw [hk]; exact List.mem_cons_self ..
    · exact List.mem_cons_of_mem _ (List.mem_flatMap.2 ⟨j, List.mem_range.2 (by omega), hk⟩)
  refine ⟨_, n, c, rfl, by simpa using hl, .inr ⟨g, cur2, fun i => if i = j then es2 else E i, G, rfl, hr2, h2, h3, by rw [hs2]; exact h4, rfl, fun i hi => ?_⟩⟩
  by_cases ei : i = j
  · subst ei
    dsimp only
    rw [if_pos rfl]
    refine ⟨hl2, hp2, ?_⟩
    have : (D.set i d2).getD i (dft s) = d2 := by simp [List.getD, hj]
    rw [this]; exact ho2
  · dsimp only
    rw [if_neg ei]
    obtain ⟨p1, p2, p3⟩ := h6 i hi
    refine ⟨p1, fun q hq => ?_, ?_⟩
    · have : i * nc s + q < j * nc s ∨ j * nc s + nc s ≤ i * nc s + q := by
        rcases Nat.lt_or_ge i j with h | h
        · left
          have := Nat.mul_le_mul_right (nc s) (show i + 1 ≤ j by omega)
          rw [Nat.add_mul] at this
          omega
        · right
          have := Nat.mul_le_mul_right (nc s) (show j + 1 ≤ i by omega)
          rw [Nat.add_mul] at this
          omega
      rw [hc2 _ this]
      exact p2 q hq
    · have : (D.set j d2).getD i (dft s) = D.getD i (dft s) := by simp [List.getD, List.getElem?_set_ne (show j ≠ i by omega)]
      rw [this]
      refine p3.only hon fun k hk hk2 => ?_
      rcases List.mem_cons.1 hk2 with hk2 | hk2
      · subst hk2
        exact hF.1 (List.mem_flatMap.2 ⟨i, List.mem_range.2 hi, hk⟩)
      · exact nodup_flat hF.2 hi (by omega) ei hk hk2
/-! ### marks that are read again -/
def HeadHd (w : World) (s : Sh) (D : List (Dat s)) (k : Int) (kk i : Value) (wr : World) : Prop := ∃ j : Nat, j ≤ D.length ∧ i = .int .i64 j ∧ kk = .int .i64 (k + (cnts s D j : Int)) ∧ Below w.heap.size w wr
theorem headHd_zero {w : World} {s : Sh} {D : List (Dat s)} {k : Int} : HeadHd w s D k (.int .i64 k) (.int .i64 0) w := ⟨0, Nat.zero_le _, rfl, by simp [cnts], Below.refl _ _⟩
theorem headHd_step {w w2 : World} {s : Sh} {D : List (Dat s)} {k kc : Int} {j : Nat} (hj : j < D.length) (hb : Below w.heap.size w w2) (hk : k + (cnts s D j : Int) + (cnt s (D.getD j (dft s)) : Int) = kc) : HeadHd w s D k (.int .i64 kc) (.int .i64 ((j : Int) + 1)) w2 :=
  ⟨j + 1, hj, by simp, by rw [cnts_succ hj]; exact congrArg (Value.int .i64) (by omega), hb⟩
theorem headHd_end {w wr : World} {s : Sh} {e : TypeId} {D : List (Dat s)} {k : Int} {j : Nat} (hj : ¬ j < D.length) (hj' : j ≤ D.length) (hb : Below w.heap.size w wr) : AnsHeld w (k + (cntv (.row e s) D : Int)) (.returned (.int .i64 (k + (cnts s D j : Int)))) wr := by
  have e1 : j = D.length := by omega
  subst e1
  exact ⟨by rw [cnts_all rfl]; rfl, hb⟩
end Go.Proofs.Ytmaamlnooepogaa.shape
end

section
/-
  CONTRACTS of the laws' helpers over shapes: Step:sz,to,eq, StepS:sz,to,eq,mark,held, Walk:sz,to,eq,mark,held. Conditions: at most 1048576 numbers. Written by a program of mine (mkkinds.py). By an AI agent.
-/
namespace Go.Proofs.Ytmaamlnooepogaa.kindsW
open Go.RowKit Go.Proofs.Ytmaamlnooepogaa.base Go.Proofs.Ytmaamlnooepogaa.ints Go.Proofs.Ytmaamlnooepogaa.sig Go.Proofs.Ytmaamlnooepogaa.cursor Go.Proofs.Ytmaamlnooepogaa.marks Go.Proofs.Ytmaamlnooepogaa.app Go.Proofs.Ytmaamlnooepogaa.sym Go.Proofs.Ytmaamlnooepogaa.appAt Go.Proofs.Ytmaamlnooepogaa.segs Go.Proofs.Ytmaamlnooepogaa.segsHelp Go.Proofs.Ytmaamlnooepogaa.segsMark Go.Proofs.Ytmaamlnooepogaa.kinds Go.Proofs.Ytmaamlnooepogaa.shape
set_option maxRecDepth 100000

abbrev sStep : Sh := .cat .num (.cat .num sI)
theorem parts_Step {w : World} {B : Nat} {v0 : Value} {d : Dat sStep} (h : Rd w B sStep [.int .i64 d.1, .int .i64 d.2.1, v0] d) : Rd w B .num [.int .i64 d.1] d.1 ∧ Rd w B .num [.int .i64 d.2.1] d.2.1 ∧ Rd w B sI [v0] d.2.2 := by
  obtain ⟨p0, q0⟩ := Rd.split (ca := [.int .i64 d.1]) (cb := [.int .i64 d.2.1, v0]) h rfl
  obtain ⟨p1, q1⟩ := Rd.split (ca := [.int .i64 d.2.1]) (cb := [v0]) q0 rfl
  exact ⟨p0, p1, q1⟩
theorem join_Step {w : World} {lo hi : Nat} {v0 : Value} {d : Dat sStep} {m0 m1 m2 m3 : Nat} (o0 : Owned w m0 m1 .num [.int .i64 d.1] d.1) (o1 : Owned w m1 m2 .num [.int .i64 d.2.1] d.2.1) (o2 : Owned w m2 m3 sI [v0] d.2.2) (l0 : m0 ≤ m1) (l1 : m1 ≤ m2) (l2 : m2 ≤ m3) (hl : lo ≤ m0) (hh : m3 ≤ hi) : Owned w lo hi sStep [.int .i64 d.1, .int .i64 d.2.1, v0] d := by
  exact ((Owned.cat o0 (Owned.cat o1 o2 (Nat.le_refl _) (by omega) (by omega)) (Nat.le_refl _) (by omega) (by omega)) : Owned w m0 m3 sStep [.int .i64 d.1, .int .i64 d.2.1, v0] d).wider hl hh
theorem cells_Step {w : World} {B : Nat} {es : List Value} {d : Dat sStep} (h : Rd w B sStep es d) : ∃ (v0 : Value), es = [.int .i64 d.1, .int .i64 d.2.1, v0] := by
  obtain ⟨ca0, cb0, e0, p0, q0⟩ := h
  obtain ⟨ca1, cb1, e1, p1, q1⟩ := q0
  obtain ⟨A2, n2, c2, z2, -⟩ := q1
  exact ⟨.slice A2 n2 c2, by rw [e0, (show _ = _ from p0), e1, (show _ = _ from p1), z2] <;> rfl⟩

set_option maxHeartbeats 2000000 in
theorem szK_Step (v0 : Value) (d : Dat sStep) (left : Int) (w : World) (h : Rd w w.heap.size sStep [.int .i64 d.1, .int .i64 d.2.1, v0] d) (h0 : 0 ≤ left) (h1 : left ≤ 1048576) :
    Calls Try.prog 111 #[.agg #[.int .i64 d.1, .int .i64 d.2.1, v0], .int .i64 left] w (AnsSzK w left (sz sStep d)) := by
  obtain ⟨g0, g1, g2⟩ := parts_Step h
  obtain ⟨t0, ht0⟩ : ∃ t, sz sI d.2.2 = t := ⟨_, rfl⟩
  have HE : Hid (sz sStep d = t0) := Lib.hid (by rw [← ht0]; simp only [sz]; try omega)
  have HT0 := Lib.hid ht0
  have G0 := Lib.hid g2
  obtain ⟨W, hW⟩ : ∃ W, W = w.alloc (.cells #[.int .i64 d.1, .int .i64 d.2.1, v0] 146) := ⟨_, rfl⟩
  have r : Row W w.heap.size 146 #[.int .i64 d.1, .int .i64 d.2.1, v0] := by rw [hW]; exact Row.new _ _ _
  have bel : Below w.heap.size w W := by rw [hW]; exact (Below.refl _ _).alloc (Nat.le_refl _) _
  have HW := Lib.hid hW
  clear hW h g0 g1 g2 ht0
  go_enter Try.func111, Try.ntmps111
  go_wp2_with fail
  rw [← HW.out]
  refine (szK_ints _ _ left W (G0.out.next bel) h0 h1).mono ?_
  rintro e w1 ⟨he, bb⟩
  rw [HT0.out] at he
  replace r := r.next bb
  replace bel := next_trans bel bb
  clear bb
  by_cases q0 : left - (t0 : Int) < 0
  · rw [if_pos q0] at he
    subst he
    have F : AnsSzK w left (sz sStep d) (.returned (.int .i64 (-1))) w1 := ⟨by rw [HE.out, if_pos (by omega)], bel⟩
    have HF := Lib.hid F
    clear F bel r
    go_wp2
    go_ret
    exact HF.out
  rw [if_neg q0] at he
  obtain ⟨l0, hl0⟩ : ∃ l, left - (t0 : Int) = l := ⟨_, rfl⟩
  rw [hl0] at he
  have a0 : 0 ≤ l0 := by omega
  have b0 : l0 ≤ 1048576 := by omega
  have HL0 := Lib.hid hl0
  clear hl0 q0
  subst he
  have F : AnsSzK w left (sz sStep d) (.returned (.int .i64 l0)) w1 := ⟨by have := HL0.out; rw [HE.out, if_neg (by omega)]; exact congrArg (fun z => Ending.returned (.int .i64 z)) (by omega), bel⟩
  have HF := Lib.hid F
  clear F bel r
  go_wp2
  go_ret
  exact HF.out

def CopyStep (w : World) (d : Dat sStep) (e : Ending) (w' : World) : Prop := ∃ A0 n0 c0, e = .returned (.agg #[.int .i64 d.1, .int .i64 d.2.1, .slice A0 n0 c0]) ∧ Owned w' w.heap.size w'.heap.size sStep [.int .i64 d.1, .int .i64 d.2.1, .slice A0 n0 c0] d ∧ Below w.heap.size w w'
set_option maxHeartbeats 2000000 in
theorem toK_Step (v0 : Value) (d : Dat sStep) (w : World) (h : Rd w w.heap.size sStep [.int .i64 d.1, .int .i64 d.2.1, v0] d) (hz : sz sStep d ≤ 1048576) :
    Calls Try.prog 112 #[.agg #[.int .i64 d.1, .int .i64 d.2.1, v0]] w (CopyStep w d) := by
  obtain ⟨g0, g1, g2⟩ := parts_Step h
  have cp0 := CpS.init w 146 39 #[.int .i64 d.1, .int .i64 d.2.1, v0] #[.int .i64 0, .int .i64 0, .slice none 0 0] #[.int .i64 d.1, .int .i64 d.2.1, .slice none 0 0]
  obtain ⟨W, hW⟩ : ∃ W, W = ((w.alloc (.cells #[.int .i64 d.1, .int .i64 d.2.1, v0] 146)).alloc (.cells #[.int .i64 0, .int .i64 0, .slice none 0 0] 39)).alloc (.cells #[.int .i64 d.1, .int .i64 d.2.1, .slice none 0 0] 39) := ⟨_, rfl⟩
  rw [← hW] at cp0
  have HW := Lib.hid hW
  have G2 := Lib.hid g2
  have Z2 : Hid (sz sI d.2.2 ≤ 1048576) := Lib.hid (by have := hz; simp only [sz] at this ⊢; omega)
  clear hW hz h g0 g1 g2
  go_enter Try.func112, Try.ntmps112
  go_wp2_with fail
  rw [← HW.out]
  refine (toK_ints _ _ _ ((G2.out.below cp0.bel).more cp0.bel.size) Z2.out).mono ?_
  rintro e w1 ⟨x2A0, x2n0, x2c0, rfl, o2, bb⟩
  have zb2 := bb.size
  have zc2 := cp0.size
  replace cp0 := cp0.next bb
  clear bb
  have f2_0 : w1.frozen? ⟨w.heap.size + 1 + 1, 2, none⟩ = false := cp0.cur.free 2
  have k2_0 : w1.cell? ⟨w.heap.size + 1 + 1, 2, none⟩ = some (.slice none 0 0) := cp0.cur.cell 2
  obtain ⟨w2, hw2⟩ : ∃ x, x = (w1.setCell ⟨w.heap.size + 1 + 1, 2, none⟩ (.slice x2A0 x2n0 x2c0)) := ⟨_, rfl⟩
  replace o2 := o2.put (g := w.heap.size + 1 + 1) (i := 2) (u := .slice x2A0 x2n0 x2c0) (by omega)
  rw [← hw2] at o2
  replace cp0 : CpS w 146 39 #[.int .i64 d.1, .int .i64 d.2.1, v0] #[.int .i64 0, .int .i64 0, .slice none 0 0] #[.int .i64 d.1, .int .i64 d.2.1, .slice x2A0 x2n0 x2c0] w2 := by rw [hw2]; exact (CpS.put cp0 2 (.slice x2A0 x2n0 x2c0))
  have zw2 : w2.heap.size = w1.heap.size := by rw [hw2]; simp
  have HW2 := Lib.hid hw2
  clear hw2
  have y0 : w2.cell? ⟨w.heap.size + 1 + 1, 0, none⟩ = some (.int .i64 d.1) := cp0.cur.cell 0
  rw [HW2.out] at y0
  have y1 : w2.cell? ⟨w.heap.size + 1 + 1, 1, none⟩ = some (.int .i64 d.2.1) := cp0.cur.cell 1
  rw [HW2.out] at y1
  have y2 : w2.cell? ⟨w.heap.size + 1 + 1, 2, none⟩ = some (.slice x2A0 x2n0 x2c0) := cp0.cur.cell 2
  rw [HW2.out] at y2
  have s0 : (w2).cell? ⟨w.heap.size + 1, 0, none⟩ = some (.int .i64 0) := cp0.res.cell 0
  rw [HW2.out] at s0
  have r0 : (w2).frozen? ⟨w.heap.size + 1, 0, none⟩ = false := cp0.res.free 0
  rw [HW2.out] at r0
  have s1 : ((w2.setCell ⟨w.heap.size + 1, 0, none⟩ (.int .i64 d.1))).cell? ⟨w.heap.size + 1, 1, none⟩ = some (.int .i64 0) := (CpS.fin cp0 0 (.int .i64 d.1)).res.cell 1
  rw [HW2.out] at s1
  have r1 : ((w2.setCell ⟨w.heap.size + 1, 0, none⟩ (.int .i64 d.1))).frozen? ⟨w.heap.size + 1, 1, none⟩ = false := (CpS.fin cp0 0 (.int .i64 d.1)).res.free 1
  rw [HW2.out] at r1
  have s2 : (((w2.setCell ⟨w.heap.size + 1, 0, none⟩ (.int .i64 d.1)).setCell ⟨w.heap.size + 1, 1, none⟩ (.int .i64 d.2.1))).cell? ⟨w.heap.size + 1, 2, none⟩ = some (.slice none 0 0) := (CpS.fin (CpS.fin cp0 0 (.int .i64 d.1)) 1 (.int .i64 d.2.1)).res.cell 2
  rw [HW2.out] at s2
  have r2 : (((w2.setCell ⟨w.heap.size + 1, 0, none⟩ (.int .i64 d.1)).setCell ⟨w.heap.size + 1, 1, none⟩ (.int .i64 d.2.1))).frozen? ⟨w.heap.size + 1, 2, none⟩ = false := (CpS.fin (CpS.fin cp0 0 (.int .i64 d.1)) 1 (.int .i64 d.2.1)).res.free 2
  rw [HW2.out] at r2
  have o0 := Owned.num w2 (W.heap.size) (W.heap.size) d.1
  have o1 := Owned.num w2 (W.heap.size) (W.heap.size) d.2.1
  have oo : Owned w2 (w.heap.size + 1 + 1 + 1) w2.heap.size sStep [.int .i64 d.1, .int .i64 d.2.1, .slice x2A0 x2n0 x2c0] d := join_Step (m0 := W.heap.size) (m1 := W.heap.size) (m2 := W.heap.size) (m3 := w2.heap.size) o0 o1 (o2.wider (Nat.le_refl _) (by omega)) (by omega) (by omega) (by omega) (by omega) (by omega)
  have F : CopyStep w d (.returned (.agg #[.int .i64 d.1, .int .i64 d.2.1, .slice x2A0 x2n0 x2c0])) (((w2.setCell ⟨w.heap.size + 1, 0, none⟩ (.int .i64 d.1)).setCell ⟨w.heap.size + 1, 1, none⟩ (.int .i64 d.2.1)).setCell ⟨w.heap.size + 1, 2, none⟩ (.slice x2A0 x2n0 x2c0)) := ⟨x2A0, x2n0, x2c0, rfl, Owned.wider ((((oo.put (g := w.heap.size + 1) (i := 0) (u := .int .i64 d.1) (by omega)).put (g := w.heap.size + 1) (i := 1) (u := .int .i64 d.2.1) (by omega)).put (g := w.heap.size + 1) (i := 2) (u := .slice x2A0 x2n0 x2c0) (by omega))) (by omega) (by simp), ((CpS.fin (CpS.fin (CpS.fin cp0 0 (.int .i64 d.1)) 1 (.int .i64 d.2.1)) 2 (.slice x2A0 x2n0 x2c0))).bel⟩
  have u0 : ((((w2.setCell ⟨w.heap.size + 1, 0, none⟩ (.int .i64 d.1)).setCell ⟨w.heap.size + 1, 1, none⟩ (.int .i64 d.2.1)).setCell ⟨w.heap.size + 1, 2, none⟩ (.slice x2A0 x2n0 x2c0))).cell? ⟨w.heap.size + 1, 0, none⟩ = some (.int .i64 d.1) := (CpS.fin (CpS.fin (CpS.fin cp0 0 (.int .i64 d.1)) 1 (.int .i64 d.2.1)) 2 (.slice x2A0 x2n0 x2c0)).res.cell 0
  rw [HW2.out] at u0
  have u1 : ((((w2.setCell ⟨w.heap.size + 1, 0, none⟩ (.int .i64 d.1)).setCell ⟨w.heap.size + 1, 1, none⟩ (.int .i64 d.2.1)).setCell ⟨w.heap.size + 1, 2, none⟩ (.slice x2A0 x2n0 x2c0))).cell? ⟨w.heap.size + 1, 1, none⟩ = some (.int .i64 d.2.1) := (CpS.fin (CpS.fin (CpS.fin cp0 0 (.int .i64 d.1)) 1 (.int .i64 d.2.1)) 2 (.slice x2A0 x2n0 x2c0)).res.cell 1
  rw [HW2.out] at u1
  have u2 : ((((w2.setCell ⟨w.heap.size + 1, 0, none⟩ (.int .i64 d.1)).setCell ⟨w.heap.size + 1, 1, none⟩ (.int .i64 d.2.1)).setCell ⟨w.heap.size + 1, 2, none⟩ (.slice x2A0 x2n0 x2c0))).cell? ⟨w.heap.size + 1, 2, none⟩ = some (.slice x2A0 x2n0 x2c0) := (CpS.fin (CpS.fin (CpS.fin cp0 0 (.int .i64 d.1)) 1 (.int .i64 d.2.1)) 2 (.slice x2A0 x2n0 x2c0)).res.cell 2
  rw [HW2.out] at u2
  rw [HW2.out] at F
  have HF := Lib.hid F
  clear F oo cp0 o2
  go_wp2
  exact bodyPost_ret (v := .agg #[.int .i64 d.1, .int .i64 d.2.1, .slice x2A0 x2n0 x2c0]) (by simp [results, Try.results112, go_sem, u0, u1, u2]) rfl HF.out

set_option maxHeartbeats 2000000 in
theorem eqK_Step (v0 u0 : Value) (d : Dat sStep) (w : World) (h : Rd w w.heap.size sStep [.int .i64 d.1, .int .i64 d.2.1, v0] d) (h' : Rd w w.heap.size sStep [.int .i64 d.1, .int .i64 d.2.1, u0] d) (hz : sz sStep d ≤ 1048576) :
    Calls Try.prog 75 #[.agg #[.int .i64 d.1, .int .i64 d.2.1, v0], .agg #[.int .i64 d.1, .int .i64 d.2.1, u0]] w (Yes w) := by
  obtain ⟨g0, g1, g2⟩ := parts_Step h
  obtain ⟨g0', g1', g2'⟩ := parts_Step h'
  obtain ⟨W, hW⟩ : ∃ W, W = (w.alloc (.cells #[.int .i64 d.1, .int .i64 d.2.1, v0] 39)).alloc (.cells #[.int .i64 d.1, .int .i64 d.2.1, u0] 39) := ⟨_, rfl⟩
  have ra : Row W w.heap.size 39 #[.int .i64 d.1, .int .i64 d.2.1, v0] := by rw [hW]; exact (Row.new w 39 #[.int .i64 d.1, .int .i64 d.2.1, v0]).alloc _
  have rb : Row W (w.heap.size + 1) 39 #[.int .i64 d.1, .int .i64 d.2.1, u0] := by rw [hW]; have := Row.new (w.alloc (.cells #[.int .i64 d.1, .int .i64 d.2.1, v0] 39)) 39 #[.int .i64 d.1, .int .i64 d.2.1, u0]; simpa using this
  have bel : Below w.heap.size w W := by rw [hW]; exact ((Below.refl _ _).alloc (Nat.le_refl _) _).alloc (by simp) _
  have HW := Lib.hid hW
  have G2 := Lib.hid g2
  have G2' := Lib.hid g2'
  have Z2 : Hid (sz sI d.2.2 ≤ 1048576) := Lib.hid (by have := hz; simp only [sz] at this ⊢; omega)
  clear hW hz h h' g0 g0' g1 g1' g2 g2'
  go_enter Try.func75, Try.ntmps75
  go_wp2_with fail
  rw [← HW.out]
  refine (eqK_ints _ _ _ W (G2.out.next bel) (G2'.out.next bel) Z2.out).mono ?_
  rintro e w1 ⟨rfl, bb⟩
  replace ra := ra.next bb
  replace rb := rb.next bb
  replace bel := next_trans bel bb
  clear bb
  have F : Yes w (.returned (.bool true)) w1 := ⟨rfl, bel⟩
  have HF := Lib.hid F
  clear F ra rb bel
  go_wp2
  go_ret
  exact HF.out

abbrev sStepS : Sh := .row 39 sStep
set_option maxHeartbeats 2000000 in
theorem szK_StepS (v : Value) (D : List (Dat sStep)) (left : Int) (w : World) (h : Rd w w.heap.size sStepS [v] D) (h0 : 0 ≤ left) (h1 : left ≤ 1048576) :
    Calls Try.prog 77 #[v, .int .i64 left] w (AnsSzK w left (sz sStepS D)) := by
  obtain ⟨A, c, rfl, hcap⟩ := h.slice
  obtain ⟨n, hn⟩ : ∃ n, D.length = n := ⟨_, rfl⟩
  rw [hn] at h hcap ⊢
  have hmax : n ≤ 9223372036854775807 := Nat.le_trans hcap.1 hcap.2.1
  have HN := Lib.hid hn
  have H := Lib.hid h
  clear hcap hn h
  by_cases hs : left - n < 0
  · have S : AnsSzK w left (sz sStepS D) (.returned (.int .i64 (-1))) w := ⟨by rw [if_pos (by rw [sz_row, HN.out]; omega)], Below.refl _ _⟩
    have HS := Lib.hid S
    clear S
    go_enter Try.func77, Try.ntmps77
    go_wp2
    go_ret
    exact HS.out
  go_enter Try.func77, Try.ntmps77
  go_wp2
  go_loopw [1, 5] (fun l i wr => HeadSzK w n sStep D left l i wr) (fun _ i _ => n - (intOf i).toNat)
  case atStart => exact headSzK_zero (by omega)
  case round =>
    obtain ⟨k, hk, rfl, rfl, hge, hb⟩ := hrel
    by_cases hlt : k < n
    · obtain ⟨b, off, n2, c2, es, ev, -, -, hbB, hel, hp, hr⟩ := H.out.elem (j := k) (by rw [HN.out]; exact hlt)
      injection ev with e1 e2 e3
      subst e1 e2 e3
      obtain ⟨v0, rfl⟩ := cells_Step hr
      have hpw := hp.keep (w' := wr) (fun p hp => hb.cell (p := p) (by rw [hp]; exact hbB))
      have c0 : wr.cell? ⟨b, off + k * 3, none⟩ = some (.int .i64 (D.getD k (dft sStep)).1) := hpw 0 (by simp)
      have c1 : wr.cell? ⟨b, off + k * 3 + 1, none⟩ = some (.int .i64 (D.getD k (dft sStep)).2.1) := hpw 1 (by simp)
      have c2 : wr.cell? ⟨b, off + k * 3 + 2, none⟩ = some (v0) := hpw 2 (by simp)
      obtain ⟨t, ht⟩ : ∃ t, sz sStep (D.getD k (dft sStep)) = t := ⟨_, rfl⟩
      obtain ⟨l, hl⟩ : ∃ l, left - n - szs sStep D k = l := ⟨_, rfl⟩
      have hsum := szs_succ (s := sStep) (d := D) (k := k) (by rw [HN.out]; exact hlt)
      rw [ht] at hsum
      rw [hl] at hge ⊢
      have hle : l ≤ 1048576 := by omega
      have L := Lib.hid (szK_Step _ (D.getD k (dft sStep)) l wr ((hr.below hb).more hb.size) hge hle)
      rw [ht] at L
      have BAD := Lib.hid (fun (q : l - (t : Int) < 0) => headSzK_bad (e := 39) (D := D) (left := left) HN.out hlt hsum (by rw [hl]; exact q))
      have GOOD := Lib.hid (fun (q : ¬ l - (t : Int) < 0) (w1 : World) (hb : Below w.heap.size w w1) => headSzK_step (D := D) (left := left) (l := l) hlt hsum hl q hb)
      have HB := Lib.hid hb
      clear hr hel hp hpw ht hl hsum hb
      go_wp2_with fail
      refine L.out.mono ?_
      rintro e w1 ⟨he, bb⟩
      by_cases q : l - (t : Int) < 0
      · rw [if_pos q] at he
        subst he
        have F : AnsSzK w left (sz sStepS D) (.returned (.int .i64 (-1))) w1 := ⟨BAD.out (by omega), next_trans HB.out bb⟩
        have HF := Lib.hid F
        clear F bb L GOOD BAD
        go_wp2
        go_ret
        exact HF.out
      · rw [if_neg q] at he
        subst he
        have F := Lib.hid (GOOD.out (by omega) w1 (next_trans HB.out bb))
        clear bb L GOOD BAD
        go_wp2
        go_roundw
        case rel => exact F.out
        case measure => simp [intOf]; omega
    · have F := Lib.hid (headSzK_end (e := 39) HN.out hlt hk hge hb)
      clear hge hb
      go_wp2
      go_ret
      exact F.out

theorem info_StepS : (Try.prog.info? 39).map (fun i => (i.zero, i.size, i.bytes)) = some (some (.agg #[.int .i64 0, .int .i64 0, .slice none 0 0]), 3, 40) := by kernel_rfl
theorem make_StepS (n : Nat) (hn : n ≤ 1048576) (W : World) : (Instr.makeSlice 32 (.int .i64 (n : Int)) (.int .i64 (n : Int))).run Try.prog W =
    .ok (.slice (some ⟨W.heap.size, 0, none⟩) n n) (W.alloc (.cells (madeCells #[.int .i64 0, .int .i64 0, .slice none 0 0] (n * 3)) 39)) := by
  obtain ⟨i0, hi, hz0, hz1, hz2⟩ := info_parts info_StepS
  have hr := run_make (P := Try.prog) W 32 39 i0 _ Try.underlying32 hi hz0 .i64 .i64 n n (by omega) (by omega) (by rw [hz2]; omega) (by omega)
  simpa [hz1, Value.cells] using hr
set_option maxHeartbeats 2000000 in
theorem toK_StepS (v : Value) (D : List (Dat sStep)) (w : World) (h : Rd w w.heap.size sStepS [v] D) (hz : sz sStepS D ≤ 1048576) :
    Calls Try.prog 79 #[v] w (Copy1 w sStepS D) := by
  obtain ⟨A, c, rfl, hcap⟩ := h.slice
  obtain ⟨n, hn⟩ : ∃ n, D.length = n := ⟨_, rfl⟩
  have hn1 : n ≤ 1048576 := by rw [← hn]; exact sz_len hz
  rw [hn] at h hcap ⊢
  have HN := Lib.hid hn
  have H := Lib.hid h
  have HZ := Lib.hid hz
  clear hcap hn h hz
  have hmk := make_StepS n hn1
  have S0 := Lib.hid (headCp_zero (s := sStep) (e := 39) (w := w) (n := n) (D := D) (cs := madeCells #[.int .i64 0, .int .i64 0, .slice none 0 0] (n * 3)) (size_madeCells _ _))
  go_enter Try.func79, Try.ntmps79
  go_wp2
  clear hmk
  go_loopw [4] (fun i wr => HeadCp w 39 sStep n D i wr) (fun i _ => n - (intOf i).toNat)
  case atStart => exact S0.out
  case round =>
    obtain ⟨k, ks, E, G, hk, rfl, hr, hs, hnd, hi, hb⟩ := hrel
    clear S0
    by_cases hlt : k < n
    · have hkD : k < D.length := by rw [HN.out]; exact hlt
      obtain ⟨b, off, n2, c2, es, ev, -, -, hbB, hel, hp, hrd⟩ := H.out.elem hkD
      injection ev with e1 e2 e3
      subst e1 e2 e3
      obtain ⟨y, hy⟩ : ∃ y, D.getD k (dft sStep) = y := ⟨_, rfl⟩
      rw [hy] at hrd
      have HY := Lib.hid hy
      clear hy
      obtain ⟨v0, rfl⟩ := cells_Step hrd
      have hpw := hp.keep (w' := wr) (fun p hp => hb.cell (p := p) (by rw [hp]; exact hbB))
      have c0 : wr.cell? ⟨b, off + k * 3, none⟩ = some (.int .i64 y.1) := hpw 0 (by simp)
      have c1 : wr.cell? ⟨b, off + k * 3 + 1, none⟩ = some (.int .i64 y.2.1) := hpw 1 (by simp)
      have c2 : wr.cell? ⟨b, off + k * 3 + 2, none⟩ = some (v0) := hpw 2 (by simp)
      have L := Lib.hid (toK_Step _ y wr ((hrd.below hb).more hb.size) (by rw [← HY.out]; exact sz_each HZ.out hkD))
      have R := Lib.hid (fun w1 xA0 xn0 xc0 (ho : Owned w1 wr.heap.size w1.heap.size sStep [.int .i64 y.1, .int .i64 y.2.1, .slice xA0 xn0 xc0] y) bb => headCp_step (w1 := w1) (es := [.int .i64 y.1, .int .i64 y.2.1, .slice xA0 xn0 xc0]) hlt hr hs hnd hi hb (by rw [HY.out]; exact ho) bb)
      have rr := hr
      have hsz : ks.size = n * 3 := hs
      have HS := Lib.hid hsz
      clear hr hs hnd hi hb hrd hel hp hpw hsz
      go_wp2_with fail
      refine L.out.mono ?_
      rintro e w1 ⟨xA0, xn0, xc0, rfl, ho, bb⟩
      have S := Lib.hid (R.out w1 xA0 xn0 xc0 ho bb)
      have rr1 := rr.next bb
      obtain ⟨u0, hu0⟩ : ∃ u, w1.cell? ⟨w.heap.size, k * 3, none⟩ = some u := ⟨_, (rr1.cell _).trans (Array.getElem?_eq_getElem (by rw [HS.out]; omega))⟩
      have hf0 : w1.frozen? ⟨w.heap.size, k * 3, none⟩ = false := rr1.free _
      obtain ⟨u1, hu1⟩ : ∃ u, w1.cell? ⟨w.heap.size, k * 3 + 1, none⟩ = some u := ⟨_, (rr1.cell _).trans (Array.getElem?_eq_getElem (by rw [HS.out]; omega))⟩
      have hf1 : w1.frozen? ⟨w.heap.size, k * 3 + 1, none⟩ = false := rr1.free _
      obtain ⟨u2, hu2⟩ : ∃ u, w1.cell? ⟨w.heap.size, k * 3 + 2, none⟩ = some u := ⟨_, (rr1.cell _).trans (Array.getElem?_eq_getElem (by rw [HS.out]; omega))⟩
      have hf2 : w1.frozen? ⟨w.heap.size, k * 3 + 2, none⟩ = false := rr1.free _
      clear ho bb rr rr1 L R
      go_wp2
      go_roundw
      case rel => exact S.out
      case measure => simp [intOf]; omega
    · have e1 : k = n := by omega
      subst e1
      have F := Lib.hid (headCp_end HN.out hn1 hr hs hnd hi hb)
      clear hr hs hnd hi hb
      go_wp2
      go_ret
      exact F.out

set_option maxHeartbeats 2000000 in
theorem eqK_StepS (v u : Value) (D : List (Dat sStep)) (w : World) (h : Rd w w.heap.size sStepS [v] D) (h' : Rd w w.heap.size sStepS [u] D) (hz : sz sStepS D ≤ 1048576) :
    Calls Try.prog 32 #[v, u] w (Yes w) := by
  obtain ⟨A, c, rfl, hcap⟩ := h.slice
  obtain ⟨A', c', rfl, hcap'⟩ := h'.slice
  obtain ⟨n, hn⟩ : ∃ n, D.length = n := ⟨_, rfl⟩
  have hn1 : n ≤ 1048576 := by rw [← hn]; exact sz_len hz
  rw [hn] at h h' hcap hcap' ⊢
  have HN := Lib.hid hn
  have H := Lib.hid h
  have H' := Lib.hid h'
  have HZ := Lib.hid hz
  clear hcap hcap' hn h h' hz
  go_enter Try.func32, Try.ntmps32
  go_wp2
  go_loopw [5] (fun i wr => ∃ k : Nat, k ≤ n ∧ i = .int .i64 k ∧ Below w.heap.size w wr) (fun i _ => n - (intOf i).toNat)
  case atStart => exact ⟨0, Nat.zero_le _, rfl, Below.refl _ _⟩
  case round =>
    obtain ⟨k, hk, rfl, hb⟩ := hrel
    by_cases hlt : k < n
    · have hkD : k < D.length := by rw [HN.out]; exact hlt
      obtain ⟨b, off, n2, c2, es, ev, -, -, hbB, hel, hp, hrd⟩ := H.out.elem hkD
      injection ev with e1 e2 e3
      subst e1 e2 e3
      obtain ⟨b', off', n2, c2, es', ev, -, -, hbB', hel', hp', hrd'⟩ := H'.out.elem hkD
      injection ev with e1 e2 e3
      subst e1 e2 e3
      obtain ⟨y, hy⟩ : ∃ y, D.getD k (dft sStep) = y := ⟨_, rfl⟩
      rw [hy] at hrd hrd'
      have HY := Lib.hid hy
      clear hy
      obtain ⟨v0, rfl⟩ := cells_Step hrd
      obtain ⟨u0, rfl⟩ := cells_Step hrd'
      replace hb := hb.drew
      have hpw := hp.keep (w' := wr.drew) (fun p hp => hb.cell (p := p) (by rw [hp]; exact hbB))
      have hpw' := hp'.keep (w' := wr.drew) (fun p hp => hb.cell (p := p) (by rw [hp]; exact hbB'))
      have c0 : wr.drew.cell? ⟨b, off + k * 3, none⟩ = some (.int .i64 y.1) := hpw 0 (by simp)
      have c0' : wr.drew.cell? ⟨b', off' + k * 3, none⟩ = some (.int .i64 y.1) := hpw' 0 (by simp)
      have c1 : wr.drew.cell? ⟨b, off + k * 3 + 1, none⟩ = some (.int .i64 y.2.1) := hpw 1 (by simp)
      have c1' : wr.drew.cell? ⟨b', off' + k * 3 + 1, none⟩ = some (.int .i64 y.2.1) := hpw' 1 (by simp)
      have c2 : wr.drew.cell? ⟨b, off + k * 3 + 2, none⟩ = some (v0) := hpw 2 (by simp)
      have c2' : wr.drew.cell? ⟨b', off' + k * 3 + 2, none⟩ = some (u0) := hpw' 2 (by simp)
      have L := Lib.hid (eqK_Step _ _ y wr.drew ((hrd.below hb).more hb.size) ((hrd'.below hb).more hb.size) (by rw [← HY.out]; exact sz_each HZ.out hkD))
      have HB := Lib.hid hb
      have hlb : b < wr.drew.heap.size := Nat.lt_of_lt_of_le hbB hb.size
      have hlb' : b' < wr.drew.heap.size := Nat.lt_of_lt_of_le hbB' hb.size
      clear hrd hrd' hel hel' hp hp' hpw hpw' hb
      go_wp2_with fail
      go_region_held3 (fun w' => w'.cell? ⟨b, off + k * 3, none⟩ = some (.int .i64 y.1) ∧ w'.cell? ⟨b', off' + k * 3, none⟩ = some (.int .i64 y.1) ∧ w'.cell? ⟨b, off + k * 3 + 1, none⟩ = some (.int .i64 y.2.1) ∧ w'.cell? ⟨b', off' + k * 3 + 1, none⟩ = some (.int .i64 y.2.1) ∧ w'.cell? ⟨b, off + k * 3 + 2, none⟩ = some (v0) ∧ w'.cell? ⟨b', off' + k * 3 + 2, none⟩ = some (u0))
        (go_keep)
        (first | (go_at_call 75; refine L.out.mono ?_; rintro e w1 ⟨rfl, bb⟩; have m0 := (bb.cell (p := ⟨b, off + k * 3, none⟩) hlb).trans c0; have m1 := (bb.cell (p := ⟨b', off' + k * 3, none⟩) hlb').trans c0'; have m2 := (bb.cell (p := ⟨b, off + k * 3 + 1, none⟩) hlb).trans c1; have m3 := (bb.cell (p := ⟨b', off' + k * 3 + 1, none⟩) hlb').trans c1'; have m4 := (bb.cell (p := ⟨b, off + k * 3 + 2, none⟩) hlb).trans c2; have m5 := (bb.cell (p := ⟨b', off' + k * 3 + 2, none⟩) hlb').trans c2'))
      have HB1 := Lib.hid (next_trans HB.out bb)
      clear bb L c0 c0' c1 c1' c2 c2' m0 m1 m2 m3 m4 m5
      go_wp2
      go_roundw
      case rel => exact ⟨k + 1, hlt, by simp, HB1.out⟩
      case measure => simp [intOf]; omega
    · have HB := Lib.hid hb
      clear hb
      go_wp2
      go_ret
      exact ⟨rfl, HB.out⟩

set_option maxHeartbeats 2000000 in
theorem markK_StepS (v : Value) (D : List (Dat sStep)) (k : Int) (F : List Nat) (w : World) (h : Ow w sStepS [v] D F) (hF : F.Nodup) (hz : sz sStepS D ≤ 1048576) (hk0 : 0 ≤ k) (hk : k + (cntv sStepS D : Int) ≤ 1099511627776) :
    Calls Try.prog 33 #[v, .int .i64 k] w (AnsMarkF w sStepS [v] D k F) := by
  obtain ⟨A, c, rfl, hcap⟩ := h.rd.slice
  have hn1 := sz_len hz
  obtain ⟨n, hn⟩ : ∃ n, D.length = n := ⟨_, rfl⟩
  rw [hn] at h hcap hn1 ⊢
  have HN := Lib.hid hn
  have HZ := Lib.hid hz
  have S0 := Lib.hid (headMk_zero (k := k) h)
  clear h hcap hn hz
  go_enter Try.func33, Try.ntmps33
  go_wp2
  go_loopw [1, 5] (fun kk i wr => HeadMk w 39 sStep (.slice A n c) D k F kk i wr) (fun _ i _ => n - (intOf i).toNat)
  case atStart => exact S0.out
  case round =>
    obtain ⟨j, hj, rfl, rfl, ho, hb⟩ := hrel
    clear S0
    rw [HN.out] at hj
    by_cases hlt : j < n
    · have hjD : j < D.length := by rw [HN.out]; exact hlt
      obtain ⟨g, n2, c2, cur, es, Gj, ev, -, hr, hsz, hel, hcur, oe, ng, gG, sub, R⟩ := ho.elemR hF (j := j) (by rw [mixed_len]; exact hjD)
      injection ev with e1 e2 e3
      subst e1 e2 e3
      obtain ⟨y, hy⟩ : ∃ y, D.getD j (dft sStep) = y := ⟨_, rfl⟩
      rw [mixed_get hjD, hy] at oe
      have HY := Lib.hid hy
      clear hy
      obtain ⟨v0, rfl⟩ := cells_Step oe.rd
      obtain ⟨F0, R0, eF0, o0, q0⟩ := Ow.split (ca := [.int .i64 y.1]) (cb := [.int .i64 y.2.1, v0]) oe rfl
      obtain ⟨F1, R1, eF1, o1, o2⟩ := Ow.split (ca := [.int .i64 y.2.1]) (cb := [v0]) q0 rfl
      rw [eF0] at ng
      obtain ⟨n0, nr0, x0, y0⟩ := dis_app ng
      rw [eF1] at nr0
      obtain ⟨n1, nr1, x1, y1⟩ := dis_app nr0
      rw [eF1] at x0 y0
      obtain ⟨x0_1, x0_1r⟩ := dis_l x0
      obtain ⟨y0_1, y0_1r⟩ := dis_r y0
      have g2 : g ∉ R1 := fun hb => gG (by rw [eF0, eF1]; exact (List.mem_append_right _ (List.mem_append_right _ hb)))
      have sub2 : ∀ x ∈ R1, x ∈ g :: Gj := fun x hb => List.mem_cons_of_mem _ (by rw [eF0, eF1]; exact (List.mem_append_right _ (List.mem_append_right _ hb)))
      have hgs : g ∈ g :: Gj := List.mem_cons_self ..
      obtain ⟨z0, hz0⟩ : ∃ z : Nat, 1 = z := ⟨_, rfl⟩
      obtain ⟨z1, hz1⟩ : ∃ z : Nat, 1 = z := ⟨_, rfl⟩
      obtain ⟨z2, hz2⟩ : ∃ z, cntv sI y.2.2 = z := ⟨_, rfl⟩
      have hzz : cnt sStep y = 1 + (1 + (z2)) := by rw [← hz2]; rfl
      have hcn := headMk_cnt (e := 39) hjD
      rw [HY.out, hzz] at hcn
      obtain ⟨q, hq⟩ : ∃ q, k + (cnts sStep D j : Int) = q := ⟨_, rfl⟩
      have q0 : 0 ≤ q := by omega
      have q1 : q + 2 + (z2 : Int) ≤ 1099511627776 := by have : (cntv sStepS D : Int) = (cntv (.row 39 sStep) D : Nat) := rfl; omega
      have Z2 : Hid (sz sI y.2.2 ≤ 1048576) := Lib.hid (by have := sz_each HZ.out hjD; rw [HY.out] at this; simp only [sz] at this ⊢; omega)
      have HZ2 := Lib.hid hz2
      rw [hq]
      have HEF : Hid (Gj = F0 ++ (F1 ++ R1)) := Lib.hid (by rw [eF0, eF1])
      have HR := Lib.hid R
      have HB := Lib.hid hb
      have HQ := Lib.hid hq
      have HZZ := Lib.hid hzz
      have SUB := Lib.hid sub
      have HCUR := Lib.hid hcur
      have HSZ := Lib.hid hsz
      have hs0 : j * 3 + 3 ≤ cur.size := HSZ.out
      have c0 : wr.cell? ⟨g, j * 3, none⟩ = some (.int .i64 y.1) := by rw [hr.cell]; simpa [nc] using hcur 0 (by simp [nc])
      have c1 : wr.cell? ⟨g, j * 3 + 1, none⟩ = some (.int .i64 y.2.1) := by rw [hr.cell]; simpa [nc] using hcur 1 (by simp [nc])
      have c2 : wr.cell? ⟨g, j * 3 + 2, none⟩ = some (v0) := by rw [hr.cell]; simpa [nc] using hcur 2 (by simp [nc])
      have fz : wr.frozen? ⟨g, j * 3, none⟩ = false := hr.free _
      have c1_s : ((wr.setCell ⟨g, j * 3, none⟩ (.int .i64 q))).cell? ⟨g, j * 3 + 1, none⟩ = some (.int .i64 y.2.1) := by rw [((Row.put hr (j * 3) (.int .i64 q))).cell]; simp only [Array.getElem?_setIfInBounds]; rw [if_neg (by omega)]; rw [← hr.cell]; exact c1
      have fz1 : ((wr.setCell ⟨g, j * 3, none⟩ (.int .i64 q))).frozen? ⟨g, j * 3 + 1, none⟩ = false := ((Row.put hr (j * 3) (.int .i64 q))).free _
      have c2_r : (((wr.setCell ⟨g, j * 3, none⟩ (.int .i64 q)).setCell ⟨g, j * 3 + 1, none⟩ (.int .i64 (q + 1)))).cell? ⟨g, j * 3 + 2, none⟩ = some (v0) := by rw [((Row.put (Row.put hr (j * 3) (.int .i64 q)) (j * 3 + 1) (.int .i64 (q + 1)))).cell]; simp only [Array.getElem?_setIfInBounds]; rw [if_neg (by omega), if_neg (by omega)]; rw [← hr.cell]; exact c2
      obtain ⟨ws, hws⟩ : ∃ x, x = ((wr.setCell ⟨g, j * 3, none⟩ (.int .i64 q)).setCell ⟨g, j * 3 + 1, none⟩ (.int .i64 (q + 1))) := ⟨_, rfl⟩
      have r : Row ws g 39 ((cur.setIfInBounds (j * 3) (.int .i64 q)).setIfInBounds (j * 3 + 1) (.int .i64 (q + 1))) := by rw [hws]; exact (Row.put (Row.put hr (j * 3) (.int .i64 q)) (j * 3 + 1) (.int .i64 (q + 1)))
      have on : Only (g :: Gj) wr ws := by rw [hws]; exact (Only.setCell (Only.setCell (Only.refl (g :: Gj) wr) hgs (.int .i64 q)) hgs (.int .i64 (q + 1)))
      replace o2 : Ow ws sI [v0] y.2.2 R1 := by rw [hws]; exact o2.keep fun y hy => by have hyg : y ≠ g := fun e => g2 (e ▸ hy); rw [Below.heap_setCell _ _ _ y hyg, Below.heap_setCell _ _ _ y hyg]
      have HWS := Lib.hid hws
      clear R hb hq hzz hcn ho oe sub hel gG hws hcur hsz hr hz0 hz1 hz2 eF0 eF1
      go_wp2_with fail
      rw [← HWS.out]
      clear c0 c1 c2 fz c1_s fz1 c2_r
      refine (markK_ints _ _ (q + 1 + 1) R1 _ o2 Z2.out (by omega) (by omega)).mono ?_
      rintro e w3 ⟨he, o2, on2⟩
      rw [HZ2.out] at he
      replace r := Row.only r on2 g2
      replace on := on.trans (on2.wider sub2)
      clear on2
      obtain ⟨k2, hk2⟩ : ∃ l, q + 1 + 1 + (z2 : Int) = l := ⟨_, rfl⟩
      rw [hk2] at he
      have l2 : 0 ≤ k2 := by omega
      have u2 : k2  ≤ 1099511627776 := by omega
      subst he
      have HK2 := Lib.hid hk2
      clear hk2
      have S : HeadMk w 39 sStep (.slice (some ⟨g, 0, none⟩) n c) D k F (.int .i64 k2) (.int .i64 ((j : Int) + 1)) w3 := by
        have h1 := HR.out w3 [.int .i64 q, .int .i64 (q + 1), v0] (mkc sStep q y) ((cur.setIfInBounds (j * 3) (.int .i64 q)).setIfInBounds (j * 3 + 1) (.int .i64 (q + 1))) rfl r (by simp) (fun i hi => ?_) (fun i hi => ?_) (by rw [HEF.out]; exact (Ow.join (o0.num (w' := w3) (q)) (Ow.join (o1.num (w' := w3) (q + 1)) o2))) on
        rotate_left
        · have hi : i < 3 := hi
          have h0 := HCUR.out i hi
          have hn : nc sStep = 3 := rfl
          rw [hn] at h0 ⊢
          have hcases : i = 0 ∨ i = 1 ∨ i = 2 := by omega
          rcases hcases with rfl | rfl | rfl
          all_goals simp only [Array.getElem?_setIfInBounds, Array.size_setIfInBounds]
          · rw [if_neg (show ¬ (j * 3 + 1 = j * 3 + 0) by omega), if_pos (show j * 3 = j * 3 + 0 by omega), if_pos (show j * 3 < cur.size by omega)]; rfl
          · rw [if_pos True.intro, if_pos (show j * 3 + 1 < cur.size by omega)]; rfl
          · rw [if_neg (by omega), if_neg (by omega)]; exact h0
        · have hi : i < j * 3 ∨ j * 3 + 3 ≤ i := hi
          simp only [Array.getElem?_setIfInBounds]
          rw [if_neg (by omega), if_neg (by omega)]
        have h2 := headMk_step (z := 1 + (1 + (z2))) hjD HB.out (on.wider SUB.out) (by rw [HY.out]; exact HZZ.out) (by rw [HQ.out, HY.out]) h1
        have h3 : k + (cnts sStep D j : Int) + ((1 + (1 + (z2)) : Nat) : Int) = k2 := by have := HQ.out; have := HK2.out; omega
        rw [h3] at h2
        exact h2
      have HS := Lib.hid S
      clear S on r o0 o1 o2 
      go_wp2
      go_roundw
      case rel => exact HS.out
      case measure => simp [intOf]; omega
    · have F1 := Lib.hid (headMk_end (by rw [HN.out]; exact hlt) (by rw [HN.out]; exact hj) ho hb)
      clear ho hb
      generalize cnts sStep D j = z at *
      go_wp2
      go_ret
      exact F1.out

set_option maxHeartbeats 2000000 in
theorem heldK_StepS (v : Value) (D : List (Dat sStep)) (k : Int) (w : World) (h : Rd w w.heap.size sStepS [v] (mkv sStepS k D)) (hz : sz sStepS D ≤ 1048576) (hk0 : 0 ≤ k) (hk : k + (cntv sStepS D : Int) ≤ 1099511627776) :
    Calls Try.prog 34 #[v, .int .i64 k] w (AnsHeld w (k + (cntv sStepS D : Int))) := by
  obtain ⟨A, c, rfl, hcap⟩ := h.slice
  have hn1 := sz_len hz
  have hml : List.length (mkv sStepS k D : List (Dat sStep)) = D.length := mk_len
  rw [hml] at h hcap ⊢
  have HML := Lib.hid hml
  clear hml
  obtain ⟨n, hn⟩ : ∃ n, D.length = n := ⟨_, rfl⟩
  rw [hn] at h hcap hn1 ⊢
  have HN := Lib.hid hn
  have HZ := Lib.hid hz
  have H := Lib.hid h
  clear h hcap hn hz
  go_enter Try.func34, Try.ntmps34
  go_wp2
  go_loopw [1, 5] (fun kk i wr => HeadHd w sStep D k kk i wr) (fun _ i _ => n - (intOf i).toNat)
  case atStart => exact headHd_zero
  case round =>
    obtain ⟨j, hj, rfl, rfl, hb⟩ := hrel
    rw [HN.out] at hj
    by_cases hlt : j < n
    · have hjD : j < D.length := by rw [HN.out]; exact hlt
      obtain ⟨b, off, n2, c2, es, ev, -, -, hbB, hel, hp, hr⟩ := H.out.elem (j := j) (by rw [HML.out]; exact hjD)
      injection ev with e1 e2 e3
      subst e1 e2 e3
      have hmg := mk_get (e := 39) (s := sStep) (k := k) hjD
      obtain ⟨y, hy⟩ : ∃ y, D.getD j (dft sStep) = y := ⟨_, rfl⟩
      rw [hmg, hy] at hr
      have HY := Lib.hid hy
      clear hmg hy
      obtain ⟨q, hq⟩ : ∃ q, k + (cnts sStep D j : Int) = q := ⟨_, rfl⟩
      rw [hq] at hr ⊢
      obtain ⟨v0, rfl⟩ := cells_Step hr
      have hpw := hp.keep (w' := wr) (fun p hp => hb.cell (p := p) (by rw [hp]; exact hbB))
      have c0 : wr.cell? ⟨b, off + j * 3, none⟩ = some (.int .i64 q) := hpw 0 (by simp)
      have c1 : wr.cell? ⟨b, off + j * 3 + 1, none⟩ = some (.int .i64 (q + 1)) := hpw 1 (by simp)
      have c2 : wr.cell? ⟨b, off + j * 3 + 2, none⟩ = some (v0) := hpw 2 (by simp)
      obtain ⟨g0, g1, g2⟩ := parts_Step hr
      obtain ⟨z2, hz2⟩ : ∃ z, cntv sI y.2.2 = z := ⟨_, rfl⟩
      have hzz : cnt sStep y = 1 + (1 + (z2)) := by rw [← hz2]; rfl
      have hcn := headMk_cnt (e := 39) hjD
      rw [HY.out, hzz] at hcn
      have q0 : 0 ≤ q := by omega
      have q1 : q + 2 + (z2 : Int) ≤ 1099511627776 := by have : (cntv sStepS D : Int) = (cntv (.row 39 sStep) D : Nat) := rfl; omega
      have Z2 : Hid (sz sI y.2.2 ≤ 1048576) := Lib.hid (by have := sz_each HZ.out hjD; rw [HY.out] at this; simp only [sz] at this ⊢; omega)
      have G2 : Hid (Rd w w.heap.size sI [v0] (mkv sI (q + 1 + 1) y.2.2)) := Lib.hid g2
      have HZ2 := Lib.hid hz2
      have HB := Lib.hid hb
      have HZZ := Lib.hid hzz
      have HQ := Lib.hid hq
      have hlb : b < wr.heap.size := Nat.lt_of_lt_of_le hbB hb.size
      clear hr hel hp hpw hq hzz hcn hb g0 g1 g2 hz2
      go_wp2_with fail
      refine (heldK_ints _ y.2.2 (q + 1 + 1) wr ((G2.out.below HB.out).more HB.out.size) Z2.out (by omega) (by omega)).mono ?_
      rintro e w3 ⟨he, bb⟩
      rw [HZ2.out] at he
      obtain ⟨k2, hk2⟩ : ∃ l, q + 1 + 1 + (z2 : Int) = l := ⟨_, rfl⟩
      rw [hk2] at he
      have l2 : 0 ≤ k2 := by omega
      have u2 : k2  ≤ 1099511627776 := by omega
      subst he
      replace HB := Lib.hid (next_trans HB.out bb)
      clear bb
      have HK2 := Lib.hid hk2
      clear hk2
      have HS := Lib.hid (headHd_step (D := D) (k := k) (kc := k2) hjD HB.out (by rw [HQ.out, HY.out, HZZ.out]; have := HK2.out; omega))
      clear c0 c1 c2
      go_wp2
      go_roundw
      case rel => exact HS.out
      case measure => simp [intOf]; omega
    · have F1 := Lib.hid (headHd_end (e := 39) (D := D) (k := k) (by rw [HN.out]; exact hlt) (by rw [HN.out]; exact hj) hb)
      clear hb
      generalize cnts sStep D j = z at *
      go_wp2
      go_ret
      exact F1.out

abbrev sWalk : Sh := .cat sI sStepS
theorem parts_Walk {w : World} {B : Nat} {v0 v1 : Value} {d : Dat sWalk} (h : Rd w B sWalk [v0, v1] d) : Rd w B sI [v0] d.1 ∧ Rd w B sStepS [v1] d.2 := by
  obtain ⟨p0, q0⟩ := Rd.split (ca := [v0]) (cb := [v1]) h rfl
  exact ⟨p0, q0⟩
theorem join_Walk {w : World} {lo hi : Nat} {v0 v1 : Value} {d : Dat sWalk} {m0 m1 m2 : Nat} (o0 : Owned w m0 m1 sI [v0] d.1) (o1 : Owned w m1 m2 sStepS [v1] d.2) (l0 : m0 ≤ m1) (l1 : m1 ≤ m2) (hl : lo ≤ m0) (hh : m2 ≤ hi) : Owned w lo hi sWalk [v0, v1] d := by
  exact ((Owned.cat o0 o1 (Nat.le_refl _) (by omega) (by omega)) : Owned w m0 m2 sWalk [v0, v1] d).wider hl hh
theorem cells_Walk {w : World} {B : Nat} {es : List Value} {d : Dat sWalk} (h : Rd w B sWalk es d) : ∃ (v0 : Value) (v1 : Value), es = [v0, v1] := by
  obtain ⟨ca0, cb0, e0, p0, q0⟩ := h
  obtain ⟨A0, n0, c0, z0, -⟩ := p0
  obtain ⟨A1, n1, c1, z1, -⟩ := q0
  exact ⟨.slice A0 n0 c0, .slice A1 n1 c1, by rw [e0, z0, z1] <;> rfl⟩

set_option maxHeartbeats 2000000 in
theorem szK_Walk (v0 v1 : Value) (d : Dat sWalk) (left : Int) (w : World) (h : Rd w w.heap.size sWalk [v0, v1] d) (h0 : 0 ≤ left) (h1 : left ≤ 1048576) :
    Calls Try.prog 35 #[.agg #[v0, v1], .int .i64 left] w (AnsSzK w left (sz sWalk d)) := by
  obtain ⟨g0, g1⟩ := parts_Walk h
  obtain ⟨t0, ht0⟩ : ∃ t, sz sI d.1 = t := ⟨_, rfl⟩
  obtain ⟨t1, ht1⟩ : ∃ t, sz sStepS d.2 = t := ⟨_, rfl⟩
  have HE : Hid (sz sWalk d = t0 + t1) := Lib.hid (by rw [← ht0, ← ht1]; simp only [sz]; try omega)
  have HT0 := Lib.hid ht0
  have G0 := Lib.hid g0
  have HT1 := Lib.hid ht1
  have G1 := Lib.hid g1
  obtain ⟨W, hW⟩ : ∃ W, W = w.alloc (.cells #[v0, v1] 57) := ⟨_, rfl⟩
  have r : Row W w.heap.size 57 #[v0, v1] := by rw [hW]; exact Row.new _ _ _
  have bel : Below w.heap.size w W := by rw [hW]; exact (Below.refl _ _).alloc (Nat.le_refl _) _
  have HW := Lib.hid hW
  clear hW h g0 g1 ht0 ht1
  go_enter Try.func35, Try.ntmps35
  go_wp2_with fail
  rw [← HW.out]
  refine (szK_ints _ _ left W (G0.out.next bel) h0 h1).mono ?_
  rintro e w1 ⟨he, bb⟩
  rw [HT0.out] at he
  replace r := r.next bb
  replace bel := next_trans bel bb
  clear bb
  by_cases q0 : left - (t0 : Int) < 0
  · rw [if_pos q0] at he
    subst he
    have F : AnsSzK w left (sz sWalk d) (.returned (.int .i64 (-1))) w1 := ⟨by rw [HE.out, if_pos (by omega)], bel⟩
    have HF := Lib.hid F
    clear F bel r
    go_wp2
    go_ret
    exact HF.out
  rw [if_neg q0] at he
  obtain ⟨l0, hl0⟩ : ∃ l, left - (t0 : Int) = l := ⟨_, rfl⟩
  rw [hl0] at he
  have a0 : 0 ≤ l0 := by omega
  have b0 : l0 ≤ 1048576 := by omega
  have HL0 := Lib.hid hl0
  clear hl0 q0
  subst he
  have c0_0 : w1.cell? ⟨w.heap.size, 1, none⟩ = some (v1) := r.cell 1
  go_wp2_with fail
  refine (szK_StepS _ _ l0 w1 (G1.out.next bel) a0 b0).mono ?_
  rintro e w2 ⟨he, bb⟩
  rw [HT1.out] at he
  replace r := r.next bb
  replace bel := next_trans bel bb
  clear bb
  by_cases q1 : l0 - (t1 : Int) < 0
  · rw [if_pos q1] at he
    subst he
    have F : AnsSzK w left (sz sWalk d) (.returned (.int .i64 (-1))) w2 := ⟨by have := HL0.out; rw [HE.out, if_pos (by omega)], bel⟩
    have HF := Lib.hid F
    clear F bel r
    go_wp2
    go_ret
    exact HF.out
  rw [if_neg q1] at he
  obtain ⟨l1, hl1⟩ : ∃ l, l0 - (t1 : Int) = l := ⟨_, rfl⟩
  rw [hl1] at he
  have a1 : 0 ≤ l1 := by omega
  have b1 : l1 ≤ 1048576 := by omega
  have HL1 := Lib.hid hl1
  clear hl1 q1
  subst he
  have F : AnsSzK w left (sz sWalk d) (.returned (.int .i64 l1)) w2 := ⟨by have := HL0.out; have := HL1.out; rw [HE.out, if_neg (by omega)]; exact congrArg (fun z => Ending.returned (.int .i64 z)) (by omega), bel⟩
  have HF := Lib.hid F
  clear F bel r
  go_wp2
  go_ret
  exact HF.out

def CopyWalk (w : World) (d : Dat sWalk) (e : Ending) (w' : World) : Prop := ∃ A0 n0 c0 A1 n1 c1, e = .returned (.agg #[.slice A0 n0 c0, .slice A1 n1 c1]) ∧ Owned w' w.heap.size w'.heap.size sWalk [.slice A0 n0 c0, .slice A1 n1 c1] d ∧ Below w.heap.size w w'
set_option maxHeartbeats 2000000 in
theorem toK_Walk (v0 v1 : Value) (d : Dat sWalk) (w : World) (h : Rd w w.heap.size sWalk [v0, v1] d) (hz : sz sWalk d ≤ 1048576) :
    Calls Try.prog 37 #[.agg #[v0, v1]] w (CopyWalk w d) := by
  obtain ⟨g0, g1⟩ := parts_Walk h
  have cp0 := CpS.zero w 57 61 #[v0, v1] #[.slice none 0 0, .slice none 0 0]
  obtain ⟨W, hW⟩ : ∃ W, W = ((w.alloc (.cells #[v0, v1] 57)).alloc (.cells #[.slice none 0 0, .slice none 0 0] 61)).alloc (.cells #[.slice none 0 0, .slice none 0 0] 61) := ⟨_, rfl⟩
  rw [← hW] at cp0
  have HW := Lib.hid hW
  have G0 := Lib.hid g0
  have Z0 : Hid (sz sI d.1 ≤ 1048576) := Lib.hid (by have := hz; simp only [sz] at this ⊢; omega)
  have G1 := Lib.hid g1
  have Z1 : Hid (sz sStepS d.2 ≤ 1048576) := Lib.hid (by have := hz; simp only [sz] at this ⊢; omega)
  clear hW hz h g0 g1
  go_enter Try.func37, Try.ntmps37
  go_wp2_with fail
  rw [← HW.out]
  refine (toK_ints _ _ _ ((G0.out.below cp0.bel).more cp0.bel.size) Z0.out).mono ?_
  rintro e w1 ⟨x0A0, x0n0, x0c0, rfl, o0, bb⟩
  have zb0 := bb.size
  have zc0 := cp0.size
  replace cp0 := cp0.next bb
  clear bb
  have f0_0 : w1.frozen? ⟨w.heap.size + 1 + 1, 0, none⟩ = false := cp0.cur.free 0
  have k0_0 : w1.cell? ⟨w.heap.size + 1 + 1, 0, none⟩ = some (.slice none 0 0) := cp0.cur.cell 0
  obtain ⟨w2, hw0⟩ : ∃ x, x = (w1.setCell ⟨w.heap.size + 1 + 1, 0, none⟩ (.slice x0A0 x0n0 x0c0)) := ⟨_, rfl⟩
  replace o0 := o0.put (g := w.heap.size + 1 + 1) (i := 0) (u := .slice x0A0 x0n0 x0c0) (by omega)
  rw [← hw0] at o0
  replace cp0 : CpS w 57 61 #[v0, v1] #[.slice none 0 0, .slice none 0 0] #[.slice x0A0 x0n0 x0c0, .slice none 0 0] w2 := by rw [hw0]; exact (CpS.put cp0 0 (.slice x0A0 x0n0 x0c0))
  have zw0 : w2.heap.size = w1.heap.size := by rw [hw0]; simp
  have HW0 := Lib.hid hw0
  clear hw0
  have d1_0 : w2.cell? ⟨w.heap.size, 1, none⟩ = some (v1) := cp0.box.cell 1
  rw [HW0.out] at d1_0
  go_wp2_with fail
  rw [← HW0.out]
  clear d1_0
  refine (toK_StepS _ _ _ ((G1.out.below cp0.bel).more cp0.bel.size) Z1.out).mono ?_
  rintro e w3 ⟨x1A0, x1n0, x1c0, rfl, o1, bb⟩
  replace o0 := o0.next bb
  have zb1 := bb.size
  have zc1 := cp0.size
  replace cp0 := cp0.next bb
  clear bb
  have f1_0 : w3.frozen? ⟨w.heap.size + 1 + 1, 1, none⟩ = false := cp0.cur.free 1
  have k1_0 : w3.cell? ⟨w.heap.size + 1 + 1, 1, none⟩ = some (.slice none 0 0) := cp0.cur.cell 1
  obtain ⟨w4, hw1⟩ : ∃ x, x = (w3.setCell ⟨w.heap.size + 1 + 1, 1, none⟩ (.slice x1A0 x1n0 x1c0)) := ⟨_, rfl⟩
  replace o0 := o0.put (g := w.heap.size + 1 + 1) (i := 1) (u := .slice x1A0 x1n0 x1c0) (by omega)
  rw [← hw1] at o0
  replace o1 := o1.put (g := w.heap.size + 1 + 1) (i := 1) (u := .slice x1A0 x1n0 x1c0) (by omega)
  rw [← hw1] at o1
  replace cp0 : CpS w 57 61 #[v0, v1] #[.slice none 0 0, .slice none 0 0] #[.slice x0A0 x0n0 x0c0, .slice x1A0 x1n0 x1c0] w4 := by rw [hw1]; exact (CpS.put cp0 1 (.slice x1A0 x1n0 x1c0))
  have zw1 : w4.heap.size = w3.heap.size := by rw [hw1]; simp
  have HW1 := Lib.hid hw1
  clear hw1
  have y0 : w4.cell? ⟨w.heap.size + 1 + 1, 0, none⟩ = some (.slice x0A0 x0n0 x0c0) := cp0.cur.cell 0
  rw [HW1.out] at y0
  have y1 : w4.cell? ⟨w.heap.size + 1 + 1, 1, none⟩ = some (.slice x1A0 x1n0 x1c0) := cp0.cur.cell 1
  rw [HW1.out] at y1
  have s0 : (w4).cell? ⟨w.heap.size + 1, 0, none⟩ = some (.slice none 0 0) := cp0.res.cell 0
  rw [HW1.out] at s0
  have r0 : (w4).frozen? ⟨w.heap.size + 1, 0, none⟩ = false := cp0.res.free 0
  rw [HW1.out] at r0
  have s1 : ((w4.setCell ⟨w.heap.size + 1, 0, none⟩ (.slice x0A0 x0n0 x0c0))).cell? ⟨w.heap.size + 1, 1, none⟩ = some (.slice none 0 0) := (CpS.fin cp0 0 (.slice x0A0 x0n0 x0c0)).res.cell 1
  rw [HW1.out] at s1
  have r1 : ((w4.setCell ⟨w.heap.size + 1, 0, none⟩ (.slice x0A0 x0n0 x0c0))).frozen? ⟨w.heap.size + 1, 1, none⟩ = false := (CpS.fin cp0 0 (.slice x0A0 x0n0 x0c0)).res.free 1
  rw [HW1.out] at r1
  have oo : Owned w4 (w.heap.size + 1 + 1 + 1) w4.heap.size sWalk [.slice x0A0 x0n0 x0c0, .slice x1A0 x1n0 x1c0] d := join_Walk (m0 := W.heap.size) (m1 := w2.heap.size) (m2 := w4.heap.size) (o0.wider (Nat.le_refl _) (by omega)) (o1.wider (Nat.le_refl _) (by omega)) (by omega) (by omega) (by omega) (by omega)
  have F : CopyWalk w d (.returned (.agg #[.slice x0A0 x0n0 x0c0, .slice x1A0 x1n0 x1c0])) ((w4.setCell ⟨w.heap.size + 1, 0, none⟩ (.slice x0A0 x0n0 x0c0)).setCell ⟨w.heap.size + 1, 1, none⟩ (.slice x1A0 x1n0 x1c0)) := ⟨x0A0, x0n0, x0c0, x1A0, x1n0, x1c0, rfl, Owned.wider (((oo.put (g := w.heap.size + 1) (i := 0) (u := .slice x0A0 x0n0 x0c0) (by omega)).put (g := w.heap.size + 1) (i := 1) (u := .slice x1A0 x1n0 x1c0) (by omega))) (by omega) (by simp), ((CpS.fin (CpS.fin cp0 0 (.slice x0A0 x0n0 x0c0)) 1 (.slice x1A0 x1n0 x1c0))).bel⟩
  have u0 : (((w4.setCell ⟨w.heap.size + 1, 0, none⟩ (.slice x0A0 x0n0 x0c0)).setCell ⟨w.heap.size + 1, 1, none⟩ (.slice x1A0 x1n0 x1c0))).cell? ⟨w.heap.size + 1, 0, none⟩ = some (.slice x0A0 x0n0 x0c0) := (CpS.fin (CpS.fin cp0 0 (.slice x0A0 x0n0 x0c0)) 1 (.slice x1A0 x1n0 x1c0)).res.cell 0
  rw [HW1.out] at u0
  have u1 : (((w4.setCell ⟨w.heap.size + 1, 0, none⟩ (.slice x0A0 x0n0 x0c0)).setCell ⟨w.heap.size + 1, 1, none⟩ (.slice x1A0 x1n0 x1c0))).cell? ⟨w.heap.size + 1, 1, none⟩ = some (.slice x1A0 x1n0 x1c0) := (CpS.fin (CpS.fin cp0 0 (.slice x0A0 x0n0 x0c0)) 1 (.slice x1A0 x1n0 x1c0)).res.cell 1
  rw [HW1.out] at u1
  rw [HW1.out] at F
  have HF := Lib.hid F
  clear F oo cp0 o0 o1
  go_wp2
  exact bodyPost_ret (v := .agg #[.slice x0A0 x0n0 x0c0, .slice x1A0 x1n0 x1c0]) (by simp [results, Try.results37, go_sem, u0, u1]) rfl HF.out

set_option maxHeartbeats 2000000 in
theorem eqK_Walk (v0 v1 u0 u1 : Value) (d : Dat sWalk) (w : World) (h : Rd w w.heap.size sWalk [v0, v1] d) (h' : Rd w w.heap.size sWalk [u0, u1] d) (hz : sz sWalk d ≤ 1048576) :
    Calls Try.prog 39 #[.agg #[v0, v1], .agg #[u0, u1]] w (Yes w) := by
  obtain ⟨g0, g1⟩ := parts_Walk h
  obtain ⟨g0', g1'⟩ := parts_Walk h'
  obtain ⟨W, hW⟩ : ∃ W, W = (w.alloc (.cells #[v0, v1] 61)).alloc (.cells #[u0, u1] 61) := ⟨_, rfl⟩
  have ra : Row W w.heap.size 61 #[v0, v1] := by rw [hW]; exact (Row.new w 61 #[v0, v1]).alloc _
  have rb : Row W (w.heap.size + 1) 61 #[u0, u1] := by rw [hW]; have := Row.new (w.alloc (.cells #[v0, v1] 61)) 61 #[u0, u1]; simpa using this
  have bel : Below w.heap.size w W := by rw [hW]; exact ((Below.refl _ _).alloc (Nat.le_refl _) _).alloc (by simp) _
  have HW := Lib.hid hW
  have G0 := Lib.hid g0
  have G0' := Lib.hid g0'
  have Z0 : Hid (sz sI d.1 ≤ 1048576) := Lib.hid (by have := hz; simp only [sz] at this ⊢; omega)
  have G1 := Lib.hid g1
  have G1' := Lib.hid g1'
  have Z1 : Hid (sz sStepS d.2 ≤ 1048576) := Lib.hid (by have := hz; simp only [sz] at this ⊢; omega)
  clear hW hz h h' g0 g0' g1 g1'
  go_enter Try.func39, Try.ntmps39
  go_wp2_with fail
  rw [← HW.out]
  refine (eqK_ints _ _ _ W (G0.out.next bel) (G0'.out.next bel) Z0.out).mono ?_
  rintro e w1 ⟨rfl, bb⟩
  replace ra := ra.next bb
  replace rb := rb.next bb
  replace bel := next_trans bel bb
  clear bb
  have a1_0 : w1.cell? ⟨w.heap.size, 1, none⟩ = some (v1) := ra.cell 1
  have b1_0 : w1.cell? ⟨w.heap.size + 1, 1, none⟩ = some (u1) := rb.cell 1
  go_wp2_with fail
  clear a1_0 b1_0
  refine (eqK_StepS _ _ _ w1 (G1.out.next bel) (G1'.out.next bel) Z1.out).mono ?_
  rintro e w2 ⟨rfl, bb⟩
  replace ra := ra.next bb
  replace rb := rb.next bb
  replace bel := next_trans bel bb
  clear bb
  have F : Yes w (.returned (.bool true)) w2 := ⟨rfl, bel⟩
  have HF := Lib.hid F
  clear F ra rb bel
  go_wp2
  go_ret
  exact HF.out

set_option maxHeartbeats 2000000 in
theorem markK_Walk (v0 v1 : Value) (d : Dat sWalk) (k : Int) (F : List Nat) (w : World) (h : Ow w sWalk [v0, v1] d F) (hF : F.Nodup) (hz : sz sWalk d ≤ 1048576) (hk0 : 0 ≤ k) (hk : k + (cntv sWalk d : Int) ≤ 1099511627776) :
    Calls Try.prog 42 #[.agg #[v0, v1], .int .i64 k] w (AnsMarkF w sWalk [v0, v1] d k F) := by
  have hlt := h.lt
  obtain ⟨F0, R0, eF0, o0, o1⟩ := Ow.split (ca := [v0]) (cb := [v1]) h rfl
  rw [eF0] at hF
  obtain ⟨n0, nr0, x0, y0⟩ := dis_app hF
  obtain ⟨z0, hz0⟩ : ∃ z, cntv sI d.1 = z := ⟨_, rfl⟩
  obtain ⟨z1, hz1⟩ : ∃ z, cntv sStepS d.2 = z := ⟨_, rfl⟩
  have hc : (cntv sWalk d : Int) = (z0 : Int) + (z1 : Int) := by rw [← hz0, ← hz1]; first | done | (simp only [cntv]; try omega)
  have Z0 : Hid (sz sI d.1 ≤ 1048576) := Lib.hid (by have := hz; simp only [sz] at this ⊢; omega)
  have HZ0 := Lib.hid hz0
  have Z1 : Hid (sz sStepS d.2 ≤ 1048576) := Lib.hid (by have := hz; simp only [sz] at this ⊢; omega)
  have HZ1 := Lib.hid hz1
  have HC := Lib.hid hc
  rw [hc] at hk
  obtain ⟨W, hW⟩ : ∃ W, W = w.alloc (.cells #[v0, v1] 61) := ⟨_, rfl⟩
  have r : Row W w.heap.size 61 #[v0, v1] := by rw [hW]; exact Row.new _ _ _
  have bel : Below w.heap.size w W := by rw [hW]; exact (Below.refl _ _).alloc (Nat.le_refl _) _
  replace o0 := o0.next bel
  replace o1 := o1.next bel
  have nb0 : w.heap.size ∉ F0 := fun hb => by have := hlt _ (by rw [eF0]; exact List.mem_append_left _ hb); omega
  have nb1 : w.heap.size ∉ R0 := fun hb => by have := hlt _ (by rw [eF0]; exact (List.mem_append_right _ hb)); omega
  have sub0 : ∀ x ∈ F0, x ∈ F := fun x hb => by rw [eF0]; exact List.mem_append_left _ hb
  have sub1 : ∀ x ∈ R0, x ∈ F := fun x hb => by rw [eF0]; exact (List.mem_append_right _ hb)
  have on : Only F w W := Only.of_below bel
  have HW := Lib.hid hW
  have HEF : Hid (F = (F0 ++ R0)) := Lib.hid (by rw [eF0])
  clear hW h hz hc bel hlt hz0 hz1 eF0
  go_enter Try.func42, Try.ntmps42
  go_wp2_with fail
  rw [← HW.out]
  refine (markK_ints _ _ k F0 _ o0 Z0.out (by omega) (by omega)).mono ?_
  rintro e w1 ⟨he, o0, on0⟩
  rw [HZ0.out] at he
  replace o1 := o1.only on0 y0
  replace r := Row.only r on0 nb0
  replace on := on.trans (on0.wider sub0)
  clear on0
  obtain ⟨k0, hk0⟩ : ∃ l, k + (z0 : Int) = l := ⟨_, rfl⟩
  rw [hk0] at he
  have l0 : 0 ≤ k0 := by omega
  have u0 : k0  + (z1 : Int) ≤ 1099511627776 := by omega
  subst he
  have HK0 := Lib.hid hk0
  clear hk0
  have c1_0 : w1.cell? ⟨w.heap.size, 1, none⟩ = some (v1) := r.cell 1
  go_wp2_with fail
  clear c1_0
  refine (markK_StepS _ _ k0 R0 _ o1 nr0 Z1.out (by omega) (by rw [HZ1.out]; omega)).mono ?_
  rintro e w2 ⟨he, o1, on1⟩
  rw [HZ1.out] at he
  replace o0 := o0.only on1 x0
  replace r := Row.only r on1 nb1
  replace on := on.trans (on1.wider sub1)
  clear on1
  obtain ⟨k1, hk1⟩ : ∃ l, k0 + (z1 : Int) = l := ⟨_, rfl⟩
  rw [hk1] at he
  have l1 : 0 ≤ k1 := by omega
  have u1 : k1  ≤ 1099511627776 := by omega
  subst he
  have HK1 := Lib.hid hk1
  clear hk1
  have F1 : AnsMarkF w sWalk [v0, v1] d k F (.returned (.int .i64 k1)) w2 := by
    refine ⟨congrArg (fun z => Ending.returned (.int .i64 z)) ?_, ?_, on⟩
    · rw [HC.out]; have := HK0.out; have := HK1.out; omega
    · rw [HEF.out]
      have e0 : k0 = k + (cntv sI d.1 : Int) := by have := HK0.out; have := HZ0.out; omega
      rw [e0] at o1
      exact (Ow.join o0 o1)
  have HF := Lib.hid F1
  clear F1 on r o0 o1
  go_wp2
  go_ret
  exact HF.out

set_option maxHeartbeats 2000000 in
theorem heldK_Walk (v0 v1 : Value) (d : Dat sWalk) (k : Int) (w : World) (h : Rd w w.heap.size sWalk [v0, v1] (mkv sWalk k d)) (hz : sz sWalk d ≤ 1048576) (hk0 : 0 ≤ k) (hk : k + (cntv sWalk d : Int) ≤ 1099511627776) :
    Calls Try.prog 45 #[.agg #[v0, v1], .int .i64 k] w (AnsHeld w (k + (cntv sWalk d : Int))) := by
  obtain ⟨g0, g1⟩ := parts_Walk h
  have G0 : Hid (Rd w w.heap.size sI [v0] (mkv sI k d.1)) := Lib.hid g0
  obtain ⟨z0, hz0⟩ : ∃ z, cntv sI d.1 = z := ⟨_, rfl⟩
  have G1 : Hid (Rd w w.heap.size sStepS [v1] (mkv sStepS (k + (cntv sI d.1 : Int)) d.2)) := Lib.hid g1
  obtain ⟨z1, hz1⟩ : ∃ z, cntv sStepS d.2 = z := ⟨_, rfl⟩
  have hc : (cntv sWalk d : Int) = (z0 : Int) + (z1 : Int) := by rw [← hz0, ← hz1]; first | done | (simp only [cntv]; try omega)
  have Z0 : Hid (sz sI d.1 ≤ 1048576) := Lib.hid (by have := hz; simp only [sz] at this ⊢; omega)
  have HZ0 := Lib.hid hz0
  rw [hz0] at G1
  have Z1 : Hid (sz sStepS d.2 ≤ 1048576) := Lib.hid (by have := hz; simp only [sz] at this ⊢; omega)
  have HZ1 := Lib.hid hz1
  rw [hc] at hk ⊢
  have r := Row.new w 61 #[v0, v1]
  have bel : Below w.heap.size w (w.alloc (.cells #[v0, v1] 61)) := (Below.refl _ _).alloc (Nat.le_refl _) _
  obtain ⟨W, hW⟩ : ∃ W, W = w.alloc (.cells #[v0, v1] 61) := ⟨_, rfl⟩
  rw [← hW] at r bel
  have HW := Lib.hid hW
  clear hW h hz hc g0 g1 hz0 hz1
  go_enter Try.func45, Try.ntmps45
  go_wp2_with fail
  rw [← HW.out]
  refine (heldK_ints _ d.1 k W (by refine (G0.out.next bel)) Z0.out (by omega) (by omega)).mono ?_
  rintro e w1 ⟨he, bb⟩
  rw [HZ0.out] at he
  replace r := r.next bb
  replace bel := next_trans bel bb
  clear bb
  obtain ⟨k0, hk0⟩ : ∃ l, k + (z0 : Int) = l := ⟨_, rfl⟩
  have he2 : e = .returned (.int .i64 k0) := by rw [he]; exact congrArg (fun z => Ending.returned (.int .i64 z)) (by omega)
  clear he
  have l0 : 0 ≤ k0 := by omega
  have u0 : k0  + (z1 : Int) ≤ 1099511627776 := by omega
  subst he2
  have HK0 := Lib.hid hk0
  clear hk0
  have c1_0 : w1.cell? ⟨w.heap.size, 1, none⟩ = some (v1) := r.cell 1
  go_wp2_with fail
  clear c1_0
  refine (heldK_StepS _ d.2 k0 w1 (by rw [← HK0.out]; refine (G1.out.next bel)) Z1.out (by omega) (by rw [HZ1.out]; omega)).mono ?_
  rintro e w2 ⟨he, bb⟩
  rw [HZ1.out] at he
  replace r := r.next bb
  replace bel := next_trans bel bb
  clear bb
  obtain ⟨k1, hk1⟩ : ∃ l, k + (z0 : Int) + (z1 : Int) = l := ⟨_, rfl⟩
  have he2 : e = .returned (.int .i64 k1) := by rw [he]; exact congrArg (fun z => Ending.returned (.int .i64 z)) (by have := HK0.out; omega)
  clear he
  have l1 : 0 ≤ k1 := by omega
  have u1 : k1  ≤ 1099511627776 := by omega
  subst he2
  have HK1 := Lib.hid hk1
  clear hk1
  have F : AnsHeld w (k + ((z0 : Int) + (z1 : Int))) (.returned (.int .i64 k1)) w2 := ⟨congrArg (fun z => Ending.returned (.int .i64 z)) (by have := HK1.out; omega), bel⟩
  have HF := Lib.hid F
  clear F r bel
  go_wp2
  go_ret
  exact HF.out

end Go.Proofs.Ytmaamlnooepogaa.kindsW
end

section
/-
  CONTRACTS: spec.l7Right, RedexAt, l7Step, StepAt. Conditions: the system reads as data ('Rd'), the term as a list ('Seg'), at most 1048576 numbers; place and rule are int64. By an AI agent.
-/
namespace Go.Proofs.Ytmaamlnooepogaa.stepSpec
open Go.RowKit Go.Proofs.Ytmaamlnooepogaa.base Go.Proofs.Ytmaamlnooepogaa.ints Go.Proofs.Ytmaamlnooepogaa.sig Go.Proofs.Ytmaamlnooepogaa.term Go.Proofs.Ytmaamlnooepogaa.termOk Go.Proofs.Ytmaamlnooepogaa.endAt Go.Proofs.Ytmaamlnooepogaa.endOf Go.Proofs.Ytmaamlnooepogaa.marks Go.Proofs.Ytmaamlnooepogaa.app Go.Proofs.Ytmaamlnooepogaa.sym Go.Proofs.Ytmaamlnooepogaa.sub Go.Proofs.Ytmaamlnooepogaa.segs Go.Proofs.Ytmaamlnooepogaa.segsHelp Go.Proofs.Ytmaamlnooepogaa.kinds Go.Proofs.Ytmaamlnooepogaa.termFacts Go.Proofs.Ytmaamlnooepogaa.termMath Go.Proofs.Ytmaamlnooepogaa.posMath Go.Proofs.Ytmaamlnooepogaa.plainMath Go.Proofs.Ytmaamlnooepogaa.plainFacts Go.Proofs.Ytmaamlnooepogaa.plain Go.Proofs.Ytmaamlnooepogaa.gives Go.Proofs.Ytmaamlnooepogaa.fillMath Go.Proofs.Ytmaamlnooepogaa.shifted Go.Proofs.Ytmaamlnooepogaa.matchMath Go.Proofs.Ytmaamlnooepogaa.matchSpec Go.Proofs.Ytmaamlnooepogaa.putMath Go.Proofs.Ytmaamlnooepogaa.varsOf Go.Proofs.Ytmaamlnooepogaa.shape Go.Proofs.Ytmaamlnooepogaa.kindsR Go.Proofs.Ytmaamlnooepogaa.kindsW Go.Proofs.Ytmaamlnooepogaa.ruleMath Go.Proofs.Ytmaamlnooepogaa.ruleSpec Go.Proofs.Ytmaamlnooepogaa.stepMath Go.Proofs.Ytmaamlnooepogaa.walkMath
set_option maxRecDepth 100000

/-! ### plain facts -/
theorem right_sys {sg : List Int} {rs : List Rl} {t : List Int} (h : sysOkB sg rs = false) : rightB sg rs t = false := by unfold rightB; rw [h]; rfl
theorem right_term {sg : List Int} {rs : List Rl} {t : List Int} (h : termOkB sg t = false) : rightB sg rs t = false := by unfold rightB; rw [h, Bool.and_false]
theorem right_yes {sg : List Int} {rs : List Rl} {t : List Int} (h : sysOkB sg rs = true) (h' : termOkB sg t = true) : rightB sg rs t = true := by unfold rightB; rw [h, h']; rfl
theorem right_parts {sg : List Int} {rs : List Rl} {t : List Int} (h : rightB sg rs t = true) : sysOkB sg rs = true ∧ termOkB sg t = true := by unfold rightB at h; rw [Bool.and_eq_true] at h; exact h
theorem there_r {sg : List Int} {rs : List Rl} {t : List Int} {a r : Int} (h : rightB sg rs t = false) : thereR sg rs t a r = false := by unfold thereR; rw [h]; rfl
theorem there_a {sg : List Int} {rs : List Rl} {t : List Int} {a r : Int} {m : Nat} (hm : t.length = m) (h : decide (0 ≤ a ∧ a < (m : Int)) = false) : thereR sg rs t a r = false := by
  unfold thereR walkMath.inB
  rw [hm, h, Bool.false_and, Bool.and_false]
theorem there_x {sg : List Int} {rs : List Rl} {t : List Int} {a r : Int} (h : ¬ (0 ≤ r ∧ r < (rs.length : Int))) : thereR sg rs t a r = false := by
  unfold thereR walkMath.inB
  rw [decide_eq_false h, Bool.and_false, Bool.and_false]
theorem redex_no {sg : List Int} {rs : List Rl} {t : List Int} {a r : Int} (h : thereR sg rs t a r = false) : redexB sg rs t a r = false := by unfold redexB; rw [h]; rfl
theorem redex_yes {sg : List Int} {rs : List Rl} {t : List Int} {a r : Int} (h : thereR sg rs t a r = true) : redexB sg rs t a r = redB sg (rl rs r) t a.toNat := by unfold redexB; rw [h]; rfl
theorem at_no {sg : List Int} {rs : List Rl} {t : List Int} {a r : Int} (h : thereR sg rs t a r = false) : stepAtO sg rs t a r = none := by unfold stepAtO; rw [if_neg (by rw [h]; simp)]
theorem at_yes {sg : List Int} {rs : List Rl} {t : List Int} {a r : Int} (h : thereR sg rs t a r = true) : stepAtO sg rs t a r = stepO sg (rl rs r) t a.toNat := by unfold stepAtO; rw [if_pos h]
theorem sys_rule {sg : List Int} {rs : List Rl} (h : sysOkB sg rs = true) {r : Nat} (hr : r < rs.length) : ruleOkB sg (rs.getD r ([], [])) = true := by
  have := rl_ok (r := (r : Int)) h (by omega)
  unfold rl at this
  simpa using this
theorem step_len {sg : List Int} {x : Rl} {t v : List Int} {a : Nat} (h : stepO sg x t a = some v) : v.length ≤ 60 := by
  unfold stepO at h
  split at h
  · cases h
  · split at h
    · rename_i hf
      injection h with h
      subst h
      exact hf.2
    · cases h
/-- a step's answer: a term and whether there is one -/
def AnsStep (w : World) (o : Option (List Int)) (e : Ending) (w' : World) : Prop := AnsPairO w (o.getD []) o.isSome e w'
theorem ansStep_no {w w' : World} {o : Option (List Int)} (h : o = none) (hb : Below w.heap.size w w') : AnsStep w o (.returned (.tuple #[.slice (some ⟨w'.heap.size, 0, none⟩) 0 0, .bool false])) (w'.alloc (.cells #[] 2)) :=
  ⟨_, 0, 0, by rw [h]; rfl, by rw [h]; exact own_empty w' w.heap.size hb.size, hb.alloc hb.size _⟩
theorem ansStep_nil {w w' : World} {o : Option (List Int)} (h : o = none) (hb : Below w.heap.size w w') : AnsStep w o (.returned (.tuple #[.slice none 0 0, .bool false])) w' :=
  ⟨_, 0, 0, by rw [h]; rfl, by rw [h]; exact Own.nil _ _, hb⟩

set_option maxHeartbeats 2000000 in
theorem l7Right (a v : Value) (d : Dat sSystem) (T : Option Addr) (m c : Nat) (t : List Int) (w : World) (h : Rd w w.heap.size sSystem [a, v] d) (hz : sz sSystem d ≤ 1048576) (ht : Seg w w.heap.size T m t) (hm : m ≤ 1048576) :
    Calls Try.prog 56 #[.agg #[a, v], .slice T m c] w (AnsB w (rightB d.1 d.2 t)) := by
  obtain ⟨A, n, cs, V, q, cv, rfl, rfl, hs, hc, hcv, hq, hn, hq1, hrs, hsg, hE⟩ := rd_sys h hz
  obtain ⟨W, hW, rA, bel⟩ := box1 w 29 #[.slice A n cs, .slice V q cv]
  have HW := Lib.hid hW
  have L1 := Lib.hid (specSystemOk _ _ d W (h.next bel) hz)
  have L2 := Lib.hid (fun (w1 : World) (bb : Below w.heap.size w w1) => specTermOk A T n cs m c d.1 t w1 (hs.next bb) (ht.next bb) hn hm)
  clear hW h hz hs hc hcv hq hrs hsg hE ht
  cases ok1 : sysOkB d.1 d.2 with
  | false =>
    have HS := Lib.hid ok1
    clear ok1
    go_enter Try.func56, Try.ntmps56
    go_wp2_with fail
    rw [← HW.out]
    refine L1.out.mono ?_
    rintro e w1 ⟨he, bb⟩
    rw [HS.out] at he
    subst he
    have F := Lib.hid (ansB (b := rightB d.1 d.2 t) (a := false) (by rw [right_sys HS.out]) (next_trans bel bb))
    clear bb bel rA
    go_wp2
    go_ret
    exact F.out
  | true =>
    obtain ⟨bt, hbt⟩ : ∃ b, termOkB d.1 t = b := ⟨_, rfl⟩
    have HS := Lib.hid (show rightB d.1 d.2 t = bt by unfold rightB; rw [ok1, hbt]; rfl)
    have HB := Lib.hid hbt
    have H1 := Lib.hid ok1
    clear ok1 hbt
    go_enter Try.func56, Try.ntmps56
    go_wp2_with fail
    rw [← HW.out]
    refine L1.out.mono ?_
    rintro e w1 ⟨he, bb⟩
    rw [H1.out] at he
    subst he
    replace rA := rA.next bb
    replace bel := next_trans bel bb
    have cA : w1.cell? ⟨w.heap.size, 0, none⟩ = some (.slice A n cs) := rA.cell 0
    clear bb L1
    go_wp2_with fail
    refine (L2.out _ bel).mono ?_
    rintro e w2 ⟨he, bb⟩
    rw [HB.out] at he
    subst he
    have F := Lib.hid (ansB (b := rightB d.1 d.2 t) (a := bt) (by rw [HS.out]) (next_trans bel bb))
    clear bb bel rA cA
    cases bt <;> (go_wp2; go_ret; exact F.out)
-- REST
/-- what the region asks of l1Sub and of l4Match, in whatever world above W -/
def SubIn (W : World) (A : Option Addr) (n cs : Nat) (T : Option Addr) (m c : Nat) (x : Int) (ys : List Int) : Prop := ∀ X, Below W.heap.size W X → Calls Try.prog 67 #[.agg #[.slice A n cs], .slice T m c, .int .i64 x] X fun e w' => ∃ D dn dc, e = .returned (.slice D dn dc) ∧ Own w' W.heap.size (.slice D dn dc) ys ∧ Below W.heap.size W w' ∧ Below X.heap.size X w'
def MatchIn (W : World) (A : Option Addr) (n cs : Nat) (P : Option Addr) (pn pc : Nat) (ys : List Int) (R : Option (List (List Int))) : Prop := ∀ X D dn dc, Below W.heap.size W X → Own X W.heap.size (.slice D dn dc) ys → Calls Try.prog 66 #[.agg #[.slice A n cs], .slice P pn pc, .slice D dn dc] X fun e w' => ∃ G gn gc, e = .returned (.tuple #[.agg #[.slice G gn gc], .bool R.isSome]) ∧ Owns w' X.heap.size w'.heap.size G gn gc (resL R) ∧ Below W.heap.size W w' ∧ Below X.heap.size X w'
theorem subIn {W : World} {A : Option Addr} {n cs : Nat} {T : Option Addr} {m c : Nat} {sg t : List Int} {a : Nat} (h : Seg W W.heap.size A n sg) (h' : Seg W W.heap.size T m t) (hn : n ≤ 1048576) (hm : m ≤ 1048576) (hc : m ≤ c) (hc2 : c ≤ 9223372036854775807) (ht : termOkB sg t = true) (ha : a < t.length) : SubIn W A n cs T m c (a : Int) (subL sg t a) := fun X hX => by
  obtain ⟨t1, t2, t3⟩ := term_at ht ha
  have hl := h'.1
  refine (l1Sub A T n cs m c sg t a (len1 sg t a) X (h.next hX) (h'.next hX) hn hm hc hc2 (sig_arities (termOk_parts ht).1).1 (by omega) t1 t2 (by omega)).mono ?_
  rintro e w3 ⟨D, dn, dc, rfl, od, b3⟩
  exact ⟨D, dn, dc, rfl, Own.lower od hX.size, next_trans hX b3, b3⟩
theorem matchIn {W : World} {A : Option Addr} {n cs : Nat} {P : Option Addr} {pn pc : Nat} {sg p ys : List Int} (h : Seg W W.heap.size A n sg) (h' : Seg W W.heap.size P pn p) (hn : n ≤ 1048576) (hp : termOkB sg p = true) (ht : termOkB sg ys = true) : MatchIn W A n cs P pn pc ys (mst sg ys p 0 s0) := fun X D dn dc hX ho => by
  have hpn : pn ≤ 60 := by have := (term_len hp).2; have := h'.1; omega
  have hdn : dn ≤ 60 := by have := (term_len ht).2; have := Own.len ho; omega
  have hcd := look.own_cap ho
  refine (l4Match A P D n cs pn pc dn dc sg p ys X (h.next hX) (h'.next hX) (Own.seg ho) hn hpn hdn hcd.1 hcd.2.1 hp ht).mono ?_
  rintro e w4 ⟨G, gn, gc, rfl, og, b4⟩
  exact ⟨G, gn, gc, rfl, og, next_trans hX b4, b4⟩

theorem box_a {W w : World} {v : Bool} {o : Obj} (h : Below W.heap.size W w) : Value.bool v = .bool v ∧ Below W.heap.size W (w.alloc o) := ⟨rfl, h.alloc h.size _⟩
theorem box_b {W w : World} {v : Bool} {g i : Nat} {u : Value} (h : Below W.heap.size W w) (hg : W.heap.size ≤ g) : Value.bool v = .bool v ∧ Below W.heap.size W (w.setCell ⟨g, i, none⟩ u) := ⟨rfl, h.setCell hg _⟩

set_option maxHeartbeats 4000000 in
theorem specRedexAt (a v u : Value) (d : Dat sSystem) (t : List Int) (x r : Int) (w : World) (h : Rd w w.heap.size sSystem [a, v] d) (ht : Rd w w.heap.size sI [u] t) (hz : sz sSystem d ≤ 1048576) (hz' : sz sI t ≤ 1048576) (x1 : -9223372036854775808 ≤ x) (x2 : x ≤ 9223372036854775807) (r1 : -9223372036854775808 ≤ r) (r2 : r ≤ 9223372036854775807) :
    Calls Try.prog 23 #[.agg #[a, v], u, .int .i64 x, .int .i64 r] w (AnsB w (redexB d.1 d.2 t x r)) := by
  obtain ⟨T, m, c, rfl, hT, hcT⟩ := rd_ints.1 ht
  have hm := len_ints hT.1 hz'
  have h0 := h
  obtain ⟨A, n, cs, V, q, cv, rfl, rfl, hs, hc, hcv, hq, hn, hq1, hrs, hsg, hE⟩ := rd_sys h hz
  obtain ⟨W, hW, rA, bel⟩ := box1 w 29 #[.slice A n cs, .slice V q cv]
  have HW := Lib.hid hW
  have L1 := Lib.hid (l7Right _ _ d T m c t W (h0.next bel) hz (hT.next bel) hm)
  have HQ := Lib.hid hq
  have HT := Lib.hid hT
  have HS := Lib.hid hs
  have HRS := Lib.hid hrs
  have HE := Lib.hid hE
  have HTL := Lib.hid hT.1
  have hcT1 := hcT.1
  have hcT2 := hcT.2.1
  clear hW h h0 hz hz' hs hc hcv hq hrs hsg hE ht hT hcT
  cases ok1 : rightB d.1 d.2 t with
  | false =>
    have HR := Lib.hid ok1
    clear ok1
    go_enter Try.func23, Try.ntmps23
    go_wp2_with fail
    rw [← HW.out]
    refine L1.out.mono ?_
    rintro e w1 ⟨he, bb⟩
    rw [HR.out] at he
    subst he
    have F := Lib.hid (ansB (b := redexB d.1 d.2 t x r) (a := false) (by rw [redex_no (there_r HR.out)]) (next_trans bel bb))
    clear bb bel rA
    go_wp2
    go_ret
    exact F.out
  | true =>
    have HR := Lib.hid ok1
    clear ok1
    go_enter Try.func23, Try.ntmps23
    go_wp2_with fail
    rw [← HW.out]
    refine L1.out.mono ?_
    rintro e w1 ⟨he, bb⟩
    rw [HR.out] at he
    subst he
    replace rA := rA.next bb
    replace bel := next_trans bel bb
    have K0 : w1.cell? ⟨w.heap.size, 0, none⟩ = some (.slice A n cs) := rA.cell 0
    have K1 : w1.cell? ⟨w.heap.size, 1, none⟩ = some (.slice V q cv) := rA.cell 1
    clear bb L1
    cases hx : decide (0 ≤ x ∧ x < (m : Int)) with
    | false =>
      have HX := Lib.hid hx
      clear hx
      go_wp2_with fail
      refine (there T m c x _ _ hm HX.out).mono ?_
      rintro e w2 ⟨rfl, rfl⟩
      have F := Lib.hid (ansB (b := redexB d.1 d.2 t x r) (a := false) (by rw [redex_no (there_a HTL.out HX.out)]) bel)
      clear bel rA
      go_wp2
      go_ret
      exact F.out
    | true =>
      have HX := Lib.hid hx
      have hx0 := of_decide_eq_true hx
      clear hx
      by_cases hr : 0 ≤ r ∧ r ≤ (q : Int) - 1
      case neg =>
        have HNR := Lib.hid hr
        clear hr
        go_wp2_with fail
        refine (there T m c x _ _ hm HX.out).mono ?_
        rintro e w2 ⟨rfl, rfl⟩
        go_wp2_with fail
        refine (inNo _ _ _ _ HNR.out).mono ?_
        rintro e w2 ⟨rfl, rfl⟩
        have F := Lib.hid (ansB (b := redexB d.1 d.2 t x r) (a := false) (by rw [redex_no (there_x (by rw [HQ.out]; have := HNR.out; omega))]) bel)
        clear bel rA K0 K1
        go_wp2
        go_ret
        exact F.out
      case pos =>
      have HYR := Lib.hid hr
      have F0 := Lib.hid (show thereR d.1 d.2 t x r = true from there_mk (right_parts HR.out).1 (right_parts HR.out).2 (by rw [HTL.out]; exact hx0) (by rw [HQ.out]; omega))
      obtain ⟨a', rfl⟩ := Int.eq_ofNat_of_zero_le hx0.1
      obtain ⟨k, rfl⟩ := Int.eq_ofNat_of_zero_le hr.1
      have hk : k < q := by omega
      clear hr
      go_wp2_with fail
      refine (there T m c _ _ _ hm HX.out).mono ?_
      rintro e w2 ⟨rfl, rfl⟩
      go_wp2_with fail
      refine (inYes _ _ _ _ HYR.out).mono ?_
      rintro e w2 ⟨rfl, rfl⟩
      obtain ⟨b, off, l, rr, y, hV, hb, ey, cl, cr, hry⟩ := rd_at HRS.out bel HQ.out hk
      subst hV
      have hzy : sz sRule y ≤ 1048576 := by rw [← ey.out]; exact HE.out k hk
      obtain ⟨P, pn, pc, P', pn', pc', rfl, rfl, sP, kP, sP', kP', hpn, hpn'⟩ := rd_rule hry hzy
      have okr : ruleOkB d.1 y = true := by rw [← ey.out]; exact sys_rule (right_parts HR.out).1 (by rw [HQ.out]; exact hk)
      have hat : a' < t.length := by rw [HTL.out]; omega
      have okt := (right_parts HR.out).2
      have zA : w.heap.size < w1.heap.size := rA.lt
      have zB : b < w1.heap.size := by omega
      have K2 : w1.cell? ⟨b, off + k * 2, none⟩ = some (.slice P pn pc) := cl
      have LS := Lib.hid (subIn (cs := cs) (c := c) (HS.out.next bel) (HT.out.next bel) hn hm hcT1 hcT2 okt hat)
      have LM := Lib.hid (matchIn (cs := cs) (pc := pc) (HS.out.next bel) (sP.more (Nat.le_of_lt zA)) hn (rule_parts okr).1 (sub_ok okt hat))
      obtain ⟨R, hR⟩ : ∃ R, mst d.1 (subL d.1 t a') y.1 0 s0 = R := ⟨_, rfl⟩
      rw [hR] at LM
      have HRE := Lib.hid (show redexB d.1 d.2 t (a' : Int) (k : Int) = R.isSome by rw [redex_yes F0.out]; unfold redB rl; rw [Int.toNat_natCast, Int.toNat_natCast, ey.out, hR])
      obtain ⟨bo, hbo⟩ : ∃ bo, R.isSome = bo := ⟨_, rfl⟩
      have HR := Lib.hid hbo
      have B0 := Below.refl w1.heap.size w1
      have i0 : (0 : Int) ≤ (k : Int) := by omega
      have i1 : (k : Int) < (q : Int) := by omega
      have hneA : ¬ w.heap.size = w1.heap.size := by omega
      have hneB : ¬ b = w1.heap.size := by omega
      have hnfA : ¬ w1.heap.size = w.heap.size := by omega
      have hnfB : ¬ w1.heap.size = b := by omega
      have BEL := Lib.hid bel
      clear sP kP sP' kP' hpn hpn' okr hat okt hx0 ey hry hzy cl cr hR hbo rA bel
      go_upto_region 3 with fail
      go_cut [10] (fun s10 wx => s10 = .bool bo ∧ Below w1.heap.size w1 wx)
      case first =>
        go_region_held3 (fun w' => w'.cell? ⟨w.heap.size, 0, none⟩ = some (.slice A n cs) ∧ w'.cell? ⟨w.heap.size, 1, none⟩ = some (.slice (some ⟨b, off, none⟩) q cv) ∧ w'.cell? ⟨b, off + k * 2, none⟩ = some (.slice P pn pc))
          (go_keep)
          (first
            | (go_at_call 67; refine (LS.out _ ?_).mono ?_; (first | exact B0 | exact B0.drew | exact (B0.alloc B0.size _) | exact (B0.alloc B0.size _).drew | exact (B0.drew.alloc B0.drew.size _)); rintro e w3 ⟨D, dn, dc, rfl, od, B3, b3⟩; have z3 := B3.size; (first | have r8 := Row.next (Row.drew (Row.new w1 96 #[.slice none 0 0])) b3 | have r8 := Row.next (Row.new w1.drew 96 #[.slice none 0 0]) b3 | skip); have ne30 : ¬ w.heap.size = w3.heap.size := Nat.ne_of_lt (Nat.lt_of_lt_of_le zA B3.size); have nf30 : ¬ w3.heap.size = w.heap.size := Nat.ne_of_gt (Nat.lt_of_lt_of_le zA B3.size); have ne31 : ¬ b = w3.heap.size := Nat.ne_of_lt (Nat.lt_of_lt_of_le zB B3.size); have nf31 : ¬ w3.heap.size = b := Nat.ne_of_gt (Nat.lt_of_lt_of_le zB B3.size); have k0_3 : w3.cell? ⟨w.heap.size, 0, none⟩ = some (.slice A n cs) := (B3.cell (p := ⟨w.heap.size, 0, none⟩) zA).trans K0; have k1_3 : w3.cell? ⟨w.heap.size, 1, none⟩ = some (.slice (some ⟨b, off, none⟩) q cv) := (B3.cell (p := ⟨w.heap.size, 1, none⟩) zA).trans K1; have k2_3 : w3.cell? ⟨b, off + k * 2, none⟩ = some (.slice P pn pc) := (B3.cell (p := ⟨b, off + k * 2, none⟩) zB).trans K2)
            | (go_at_call 66; refine (LM.out _ _ _ _ ?_ ?_).mono ?_; (first | exact B3 | exact B3.alloc B3.size _); (first | exact od | exact Own.alloc od _); rintro e w4 ⟨G, gn, gc, rfl, og, B4, b4⟩; rw [HR.out]; have z4 := B4.size; (first | have r9 := Row.next r8 b4 | have r9 := Row.next (Row.new w3 96 #[.slice none 0 0]) b4 | skip); (first | (have c9 : _ = some (Value.slice none 0 0) := r9.cell 0; have f9 := r9.free 0) | skip); have ne40 : ¬ w.heap.size = w4.heap.size := Nat.ne_of_lt (Nat.lt_of_lt_of_le zA B4.size); have nf40 : ¬ w4.heap.size = w.heap.size := Nat.ne_of_gt (Nat.lt_of_lt_of_le zA B4.size); have ne41 : ¬ b = w4.heap.size := Nat.ne_of_lt (Nat.lt_of_lt_of_le zB B4.size); have nf41 : ¬ w4.heap.size = b := Nat.ne_of_gt (Nat.lt_of_lt_of_le zB B4.size); have k0_4 : w4.cell? ⟨w.heap.size, 0, none⟩ = some (.slice A n cs) := (B4.cell (p := ⟨w.heap.size, 0, none⟩) zA).trans K0; have k1_4 : w4.cell? ⟨w.heap.size, 1, none⟩ = some (.slice (some ⟨b, off, none⟩) q cv) := (B4.cell (p := ⟨w.heap.size, 1, none⟩) zA).trans K1; have k2_4 : w4.cell? ⟨b, off + k * 2, none⟩ = some (.slice P pn pc) := (B4.cell (p := ⟨b, off + k * 2, none⟩) zB).trans K2))
        all_goals
          go_wp2_with fail
          go_meet
          first | (with_reducible exact box_a B4) | (with_reducible exact box_b B4 (Nat.le_refl _)) | (with_reducible exact box_b B4 z3)
      case rest =>
        rename World => wc
        obtain ⟨rfl, bx⟩ := hcut
        have F := Lib.hid (ansB (b := redexB d.1 d.2 t (a' : Int) (k : Int)) (a := bo) (by rw [HRE.out, HR.out]) (next_trans BEL.out bx))
        clear bx
        go_wp2
        go_ret
        exact F.out

/-! ### a step -/
theorem step_none {sg : List Int} {x : Rl} {t : List Int} {a : Nat} (h : mst sg (subL sg t a) x.1 0 s0 = none) : stepO sg x t a = none := by unfold stepO; rw [h]
theorem fill_res {s : List (List Int)} (hl : s.length = 24) (p : List Int) : fillL (givesL (resL (some s))) p = fillL (givesL s) p := fill_ext fun _ _ _ => matchFacts.res_gives hl _
theorem step_long {sg : List Int} {x : Rl} {t : List Int} {a : Nat} {s : List (List Int)} (h : mst sg (subL sg t a) x.1 0 s0 = some s) (hl : s.length = 24) (hf : filled.fitsB (resL (some s)) x.2 = false) : stepO sg x t a = none := by
  unfold filled.fitsB at hf
  rw [fill_res hl] at hf
  have := of_decide_eq_false hf
  unfold stepO
  rw [h]
  dsimp only
  rw [if_neg (fun hh => this hh.1)]
theorem step_fits {sg : List Int} {x : Rl} {t : List Int} {a : Nat} {s : List (List Int)} (h : mst sg (subL sg t a) x.1 0 s0 = some s) (hl : s.length = 24) (hf : filled.fitsB (resL (some s)) x.2 = true) : (stepO sg x t a).getD [] = put.fitL sg t (filled.fitL (resL (some s)) x.2) a ∧ (stepO sg x t a).isSome = put.fitB sg t (filled.fitL (resL (some s)) x.2) a := by
  have e0 : filled.fitL (resL (some s)) x.2 = fillL (givesL s) x.2 := by unfold filled.fitL; rw [if_pos hf, fill_res hl]
  unfold filled.fitsB at hf
  rw [fill_res hl] at hf
  have hf := of_decide_eq_true hf
  rw [e0]
  unfold stepO
  rw [h]
  dsimp only
  unfold put.fitL put.fitB
  have e1 : put.putI sg t (fillL (givesL s) x.2) a = putAt sg t (fillL (givesL s) x.2) a := rfl
  rw [e1]
  by_cases hh : (putAt sg t (fillL (givesL s) x.2) a).length ≤ 60
  · rw [if_pos ⟨hf, hh⟩, if_pos (decide_eq_true hh), decide_eq_true hh]; exact ⟨rfl, rfl⟩
  · rw [if_neg (fun h => hh h.2), if_neg (by rw [decide_eq_false hh]; simp), decide_eq_false hh]; exact ⟨rfl, rfl⟩
theorem sz_lt (w : World) (o : Obj) : w.heap.size < (w.alloc o).heap.size := by simp
/-- the variable that holds a match -/
def StepBox (W : World) (bo : Bool) (xss : List (List Int)) (s11 s12 : Value) (wx : World) : Prop := ∃ g G gn gc, s11 = .pointer (some ⟨g, 0, none⟩) ∧ s12 = .bool bo ∧ Row wx g 96 #[.slice G gn gc] ∧ Segs wx wx.heap.size G gn xss ∧ Below W.heap.size W wx
theorem sbox_a {W w : World} {bo : Bool} {xss : List (List Int)} {lo : Nat} {G : Option Addr} {gn gc : Nat} (h : Owns w lo w.heap.size G gn gc xss) (hb : Below W.heap.size W w) : StepBox W bo xss (.pointer (some ⟨w.heap.size, 0, none⟩)) (.bool bo) (w.alloc (.cells #[.slice G gn gc] 96)) :=
  ⟨_, _, _, _, rfl, rfl, Row.new _ _ _, (h.segs.alloc (Nat.le_refl _) _).more (by simp), hb.alloc hb.size _⟩
theorem sbox_b {W w : World} {bo : Bool} {xss : List (List Int)} {lo g : Nat} {G : Option Addr} {gn gc : Nat} (h : Owns w lo w.heap.size G gn gc xss) (hr : Row w g 96 #[.slice none 0 0]) (hg : g < lo) (hW : W.heap.size ≤ g) (hb : Below W.heap.size W w) : StepBox W bo xss (.pointer (some ⟨g, 0, none⟩)) (.bool bo) (w.setCell ⟨g, 0, none⟩ (.slice G gn gc)) := by
  have h2 : Owns (w.setCell ⟨g, 0, none⟩ (.slice G gn gc)) lo w.heap.size G gn gc xss := h.btw (lo' := g) (hi' := g + 1) ⟨rfl, rfl, rfl, by simp, fun k hk ho => Below.heap_setCell w _ _ k (by show k ≠ g; omega)⟩ (.inr (by omega))
  exact ⟨_, _, _, _, rfl, rfl, hr.put 0 _, h2.segs, hb.setCell hW _⟩

set_option maxHeartbeats 4000000 in
theorem l7Step (a v u : Value) (d : Dat sSystem) (t : List Int) (x k : Nat) (w : World) (h : Rd w w.heap.size sSystem [a, v] d) (ht : Rd w w.heap.size sI [u] t) (hz : sz sSystem d ≤ 1048576) (hok : rightB d.1 d.2 t = true) (hx : x < t.length) (hk : k < d.2.length) :
    Calls Try.prog 72 #[.agg #[a, v], u, .int .i64 (x : Int), .int .i64 (k : Int)] w (AnsStep w (stepO d.1 (d.2.getD k ([], [])) t x)) := by
  obtain ⟨T, m, c, rfl, hT, hcT⟩ := rd_ints.1 ht
  obtain ⟨oks, okt⟩ := right_parts hok
  have hm : m ≤ 60 := by have := (term_len okt).2; have := hT.1; omega
  obtain ⟨A, n, cs, V, q, cv, rfl, rfl, hs, hc, hcv, hq, hn, hq1, hrs, hsg, hE⟩ := rd_sys h hz
  rw [hq] at hk
  obtain ⟨b, off, l, rr, y, rfl, hb, ey, cl, cr, hry⟩ := rd_at hrs (Below.refl _ _) hq hk
  have hzy : sz sRule y ≤ 1048576 := by rw [← ey.out]; exact hE k hk
  have okr : ruleOkB d.1 y = true := by rw [← ey.out]; exact sys_rule oks (by rw [hq]; exact hk)
  obtain ⟨P, pn, pc, P', pn', pc', rfl, rfl, sP, kP, sP', kP', hpn, hpn'⟩ := rd_rule hry hzy
  rw [ey.out]
  obtain ⟨W, hW, rA, rR, bel⟩ := box2 w 29 100 #[.slice A n cs, .slice (some ⟨b, off, none⟩) q cv] #[.slice P pn pc, .slice P' pn' pc']
  have HW := Lib.hid hW
  have zA : w.heap.size < W.heap.size := rA.lt
  have zR : w.heap.size + 1 < W.heap.size := rR.lt
  have LS := Lib.hid (subIn (cs := cs) (c := c) (hs.next bel) (hT.next bel) hn (by omega) hcT.1 hcT.2.1 okt hx)
  have LM := Lib.hid (matchIn (cs := cs) (pc := pc) (hs.next bel) (sP.next bel) hn (rule_parts okr).1 (sub_ok okt hx))
  obtain ⟨R, hR⟩ : ∃ R, mst d.1 (subL d.1 t x) y.1 0 s0 = R := ⟨_, rfl⟩
  rw [hR] at LM
  have HRE := Lib.hid hR
  obtain ⟨bo, hbo⟩ : ∃ bo, R.isSome = bo := ⟨_, rfl⟩
  have HR := Lib.hid hbo
  have HOK := Lib.hid (show ruleOkB d.1 y = true ∧ termOkB d.1 t = true ∧ x < t.length from ⟨okr, okt, hx⟩)
  have SS := Lib.hid (show Seg w w.heap.size A n d.1 ∧ Seg w w.heap.size T m t ∧ Seg w w.heap.size P' pn' y.2 ∧ m ≤ c ∧ c ≤ 9223372036854775807 from ⟨hs, hT, sP', hcT.1, hcT.2.1⟩)
  have c0 : (w.alloc (.cells #[.slice A n cs, .slice (some ⟨b, off, none⟩) q cv] 29)).cell? ⟨b, off + k * 2, none⟩ = some (.slice P pn pc) := (((Below.refl w.heap.size w).alloc (Nat.le_refl _) _).cell (p := ⟨b, off + k * 2, none⟩) hb).trans cl
  have c1 : (w.alloc (.cells #[.slice A n cs, .slice (some ⟨b, off, none⟩) q cv] 29)).cell? ⟨b, off + k * 2 + 1, none⟩ = some (.slice P' pn' pc') := (((Below.refl w.heap.size w).alloc (Nat.le_refl _) _).cell (p := ⟨b, off + k * 2 + 1, none⟩) hb).trans cr
  have i0 : (0 : Int) ≤ (k : Int) := by omega
  have i1 : (k : Int) < (q : Int) := by omega
  have K0 : W.cell? ⟨w.heap.size, 0, none⟩ = some (.slice A n cs) := rA.cell 0
  have K1 : W.cell? ⟨w.heap.size + 1, 0, none⟩ = some (.slice P pn pc) := rR.cell 0
  have hneA : ¬ w.heap.size = W.heap.size := by omega
  have hnfA : ¬ W.heap.size = w.heap.size := by omega
  have hneR : ¬ w.heap.size + 1 = W.heap.size := by omega
  have hnfR : ¬ W.heap.size = w.heap.size + 1 := by omega
  have BEL := Lib.hid bel
  have RA := Lib.hid rA
  have RR := Lib.hid rR
  have B0 := Below.refl W.heap.size W
  clear hW h hs hc hcv hq hrs hsg hE ht hT hcT oks okt okr sP kP sP' kP' hry hzy hR hbo hx hok hz ey bel rA rR cl cr
  go_enter Try.func72, Try.ntmps72
  go_upto_region 2 with fail
  rw [← HW.out]
  clear c0 c1 i0 i1
  go_cut [11, 12] (fun s11 s12 wx => StepBox W bo (resL R) s11 s12 wx)
  case first =>
    go_region_held3 (fun w' => w'.cell? ⟨w.heap.size, 0, none⟩ = some (.slice A n cs) ∧ w'.cell? ⟨w.heap.size + 1, 0, none⟩ = some (.slice P pn pc))
      (go_keep)
      (first
        | (go_at_call 67; refine (LS.out _ ?_).mono ?_; (first | exact B0 | exact B0.drew | exact (B0.alloc B0.size _) | exact (B0.alloc B0.size _).drew | exact (B0.drew.alloc B0.drew.size _)); rintro e w3 ⟨D, dn, dc, rfl, od, B3, b3⟩; have z3 := B3.size; (first | have r8 := Row.next (Row.drew (Row.new W 96 #[.slice none 0 0])) b3 | have r8 := Row.next (Row.new W.drew 96 #[.slice none 0 0]) b3 | skip); have ne30 : ¬ w.heap.size = w3.heap.size := Nat.ne_of_lt (Nat.lt_of_lt_of_le zA B3.size); have nf30 : ¬ w3.heap.size = w.heap.size := Nat.ne_of_gt (Nat.lt_of_lt_of_le zA B3.size); have ne31 : ¬ (w.heap.size + 1) = w3.heap.size := Nat.ne_of_lt (Nat.lt_of_lt_of_le zR B3.size); have nf31 : ¬ w3.heap.size = (w.heap.size + 1) := Nat.ne_of_gt (Nat.lt_of_lt_of_le zR B3.size); have k0_3 : w3.cell? ⟨w.heap.size, 0, none⟩ = some (.slice A n cs) := (B3.cell (p := ⟨w.heap.size, 0, none⟩) zA).trans K0; have k1_3 : w3.cell? ⟨w.heap.size + 1, 0, none⟩ = some (.slice P pn pc) := (B3.cell (p := ⟨w.heap.size + 1, 0, none⟩) zR).trans K1)
        | (go_at_call 66; refine (LM.out _ _ _ _ ?_ ?_).mono ?_; (first | exact B3 | exact B3.alloc B3.size _); (first | exact od | exact Own.alloc od _); rintro e w4 ⟨G, gn, gc, rfl, og, B4, b4⟩; rw [HR.out]; have z4 := B4.size; (first | have r9 := Row.next r8 b4 | have r9 := Row.next (Row.new w3 96 #[.slice none 0 0]) b4 | skip); (first | (have c9 : _ = some (Value.slice none 0 0) := r9.cell 0; have f9 := r9.free 0) | skip); have ne40 : ¬ w.heap.size = w4.heap.size := Nat.ne_of_lt (Nat.lt_of_lt_of_le zA B4.size); have nf40 : ¬ w4.heap.size = w.heap.size := Nat.ne_of_gt (Nat.lt_of_lt_of_le zA B4.size); have ne41 : ¬ (w.heap.size + 1) = w4.heap.size := Nat.ne_of_lt (Nat.lt_of_lt_of_le zR B4.size); have nf41 : ¬ w4.heap.size = (w.heap.size + 1) := Nat.ne_of_gt (Nat.lt_of_lt_of_le zR B4.size); have k0_4 : w4.cell? ⟨w.heap.size, 0, none⟩ = some (.slice A n cs) := (B4.cell (p := ⟨w.heap.size, 0, none⟩) zA).trans K0; have k1_4 : w4.cell? ⟨w.heap.size + 1, 0, none⟩ = some (.slice P pn pc) := (B4.cell (p := ⟨w.heap.size + 1, 0, none⟩) zR).trans K1))
    all_goals
      go_wp2_with fail
      go_meet
      first | (with_reducible exact sbox_a og B4) | (with_reducible exact sbox_b og r9 (sz_lt _ _) z3 B4) | (with_reducible exact sbox_b og r9 r8.lt (Nat.le_refl _) B4)
  case rest =>
    rename World => wc
    obtain ⟨g, G, gn, gc, rfl, rfl, rS, sg, bx⟩ := hcut
    have bel := BEL.out.trans (bx.mono BEL.out.size)
    replace rA := RA.out.next bx
    replace rR := RR.out.next bx
    clear K0 K1 B0 hneA hnfA hneR hnfR
    cases R with
    | none =>
      obtain rfl : bo = false := HR.out.symm
      have F := Lib.hid (ansStep_no (o := stepO d.1 y t x) (step_none HRE.out) bel)
      clear bx bel rA rR rS sg
      go_wp2
      go_ret2
      exact F.out
    | some s =>
      obtain rfl : bo = true := HR.out.symm
      have hmo : matchO d.1 y.1 (subL d.1 t x) = some s := by rw [match_yes (rule_parts HOK.out.1).1 (sub_ok HOK.out.2.1 HOK.out.2.2)]; exact HRE.out
      have hl24 := (match_turns hmo).1
      have hmt := matchFacts.match_terms hmo
      have HGV := Lib.hid (fun i => (show (givesL (resL (some s)) i).length ≤ 60 by
        rw [matchFacts.res_gives hl24]
        unfold givesL
        split
        · simp [vt]
        · rcases hmt.2.2.2 i with e | e
          · omega
          · exact (term_len e).2))
      have HTT := Lib.hid (show tot (resL (some s)) ≤ 1048576 by rw [← hmo]; exact matchTot.match_tot)
      have HL24 := Lib.hid hl24
      have hv := (rule_parts HOK.out.1).2.1
      have hpn60 : pn' ≤ 60 := by have := (term_len hv).2; have := SS.out.2.2.1.1; omega
      have LF := Lib.hid (filled.l2Filled G P' gn gc pn' pc' (resL (some s)) y.2 wc sg (SS.out.2.2.1.next bel) HTT.out hpn60 (fun z hz => (term_mem hv hz).1) HGV.out)
      obtain ⟨bf, hbf⟩ : ∃ bf, filled.fitsB (resL (some s)) y.2 = bf := ⟨_, rfl⟩
      have HBF := Lib.hid hbf
      have k0 : wc.cell? ⟨g, 0, none⟩ = some (.slice G gn gc) := rS.cell 0
      have k1 : wc.cell? ⟨w.heap.size + 1, 1, none⟩ = some (.slice P' pn' pc') := rR.cell 1
      clear hmo hl24 hmt hv hbf bx sg LS LM
      go_wp2_with fail
      refine LF.out.mono ?_
      rintro e w5 ⟨O, on, oc, rfl, oO, bb⟩
      rw [HBF.out]
      replace rA := rA.next bb
      replace bel := next_trans bel bb
      clear k0 k1 LF rS rR bb
      cases bf with
      | false =>
        have F := Lib.hid (ansStep_no (o := stepO d.1 y t x) (step_long HRE.out HL24.out HBF.out) bel)
        clear bel rA oO
        go_wp2
        go_ret2
        exact F.out
      | true =>
        have E := Lib.hid (step_fits HRE.out HL24.out HBF.out)
        have hon : on ≤ 60 := by
          have h1 := Own.len oO
          have h2 : (filled.fitL (resL (some s)) y.2).length ≤ 60 := by
            unfold filled.fitL
            rw [if_pos HBF.out]
            have := HBF.out
            unfold filled.fitsB at this
            exact of_decide_eq_true this
          omega
        have hco := look.own_cap oO
        have LP := Lib.hid (put.l3Put A T O n cs m c on oc d.1 t (filled.fitL (resL (some s)) y.2) x w5 (SS.out.1.next bel) (SS.out.2.1.next bel) (Own.seg oO) hco.2.2 hn (by omega) hon SS.out.2.2.2.1 SS.out.2.2.2.2 HOK.out.2.1 HOK.out.2.2)
        have k0 : w5.cell? ⟨w.heap.size, 0, none⟩ = some (.slice A n cs) := rA.cell 0
        clear oO hco rA
        go_wp2_with fail
        refine LP.out.mono ?_
        rintro e w6 ⟨X, xn, xc, rfl, oX, bb⟩
        have F : AnsStep w (stepO d.1 y t x) (.returned (.tuple #[.slice X xn xc, .bool (put.fitB d.1 t (filled.fitL (resL (some s)) y.2) x)])) w6 := ⟨X, xn, xc, by rw [E.out.2], by rw [E.out.1]; exact Own.lower oX bel.size, next_trans bel bb⟩
        have HF := Lib.hid F
        clear F oX bb bel k0 LP
        go_wp2
        go_ret2
        exact HF.out

set_option maxHeartbeats 4000000 in
theorem specStepAt0 (a v u : Value) (d : Dat sSystem) (t : List Int) (x r : Int) (w : World) (h : Rd w w.heap.size sSystem [a, v] d) (ht : Rd w w.heap.size sI [u] t) (hz : sz sSystem d ≤ 1048576) (hz' : sz sI t ≤ 1048576) :
    Calls Try.prog 28 #[.agg #[a, v], u, .int .i64 x, .int .i64 r] w (AnsStep w (stepAtO d.1 d.2 t x r)) := by
  have htv := ht
  obtain ⟨T, m, c, rfl, hT, hcT⟩ := rd_ints.1 ht
  have hm := len_ints hT.1 hz'
  have h0 := h
  obtain ⟨A, n, cs, V, q, cv, rfl, rfl, hs, hc, hcv, hq, hn, hq1, hrs, hsg, hE⟩ := rd_sys h hz
  obtain ⟨W, hW, rA, bel⟩ := box1 w 29 #[.slice A n cs, .slice V q cv]
  have HW := Lib.hid hW
  have L1 := Lib.hid (l7Right _ _ d T m c t W (h0.next bel) hz (hT.next bel) hm)
  have HQ := Lib.hid hq
  have HTL := Lib.hid hT.1
  have LST := Lib.hid (fun (w1 : World) (bb : Below w.heap.size w w1) (x k : Nat) hok hx hk => l7Step _ _ _ d t x k w1 (h0.next bb) (htv.next bb) hz hok hx hk)
  clear hW h h0 hz hz' hs hc hcv hq hrs hsg hE ht hT hcT htv
  cases ok1 : rightB d.1 d.2 t with
  | false =>
    have HR := Lib.hid ok1
    clear ok1
    go_enter Try.func28, Try.ntmps28
    go_wp2_with fail
    rw [← HW.out]
    refine L1.out.mono ?_
    rintro e w1 ⟨he, bb⟩
    rw [HR.out] at he
    subst he
    have F := Lib.hid (ansStep_no (o := stepAtO d.1 d.2 t x r) (at_no (there_r HR.out)) (next_trans bel bb))
    clear bb bel rA LST
    go_wp2
    go_ret2
    exact F.out
  | true =>
    have HR := Lib.hid ok1
    clear ok1
    go_enter Try.func28, Try.ntmps28
    go_wp2_with fail
    rw [← HW.out]
    refine L1.out.mono ?_
    rintro e w1 ⟨he, bb⟩
    rw [HR.out] at he
    subst he
    replace rA := rA.next bb
    replace bel := next_trans bel bb
    have K0 : w1.cell? ⟨w.heap.size, 0, none⟩ = some (.slice A n cs) := rA.cell 0
    have K1 : w1.cell? ⟨w.heap.size, 1, none⟩ = some (.slice V q cv) := rA.cell 1
    clear bb L1
    cases hx : decide (0 ≤ x ∧ x < (m : Int)) with
    | false =>
      have HX := Lib.hid hx
      clear hx
      go_wp2_with fail
      refine (there T m c x _ _ hm HX.out).mono ?_
      rintro e w2 ⟨rfl, rfl⟩
      have F := Lib.hid (ansStep_no (o := stepAtO d.1 d.2 t x r) (at_no (there_a HTL.out HX.out)) bel)
      clear bel rA LST K0 K1
      go_wp2
      go_ret2
      exact F.out
    | true =>
      have HX := Lib.hid hx
      have hx0 := of_decide_eq_true hx
      clear hx
      by_cases hr : 0 ≤ r ∧ r ≤ (q : Int) - 1
      case neg =>
        have HNR := Lib.hid hr
        clear hr
        go_wp2_with fail
        refine (there T m c x _ _ hm HX.out).mono ?_
        rintro e w2 ⟨rfl, rfl⟩
        go_wp2_with fail
        refine (inNo _ _ _ _ HNR.out).mono ?_
        rintro e w2 ⟨rfl, rfl⟩
        have F := Lib.hid (ansStep_no (o := stepAtO d.1 d.2 t x r) (at_no (there_x (by rw [HQ.out]; have := HNR.out; omega))) bel)
        clear bel rA K0 K1 LST
        go_wp2
        go_ret2
        exact F.out
      case pos =>
      have HYR := Lib.hid hr
      have F0 := Lib.hid (show thereR d.1 d.2 t x r = true from there_mk (right_parts HR.out).1 (right_parts HR.out).2 (by rw [HTL.out]; exact hx0) (by rw [HQ.out]; omega))
      obtain ⟨a', rfl⟩ := Int.eq_ofNat_of_zero_le hx0.1
      obtain ⟨k, rfl⟩ := Int.eq_ofNat_of_zero_le hr.1
      have hk : k < q := by omega
      have hat : a' < m := by omega
      have LS := Lib.hid (LST.out w1 bel a' k HR.out (by rw [HTL.out]; exact hat) (by rw [HQ.out]; exact hk))
      have HE := Lib.hid (show stepAtO d.1 d.2 t (a' : Int) (k : Int) = stepO d.1 (d.2.getD k ([], [])) t a' by rw [at_yes F0.out]; unfold rl; rw [Int.toNat_natCast, Int.toNat_natCast])
      clear hr hx0 LST
      go_wp2_with fail
      refine (there T m c _ _ _ hm HX.out).mono ?_
      rintro e w2 ⟨rfl, rfl⟩
      go_wp2_with fail
      refine (inYes _ _ _ _ HYR.out).mono ?_
      rintro e w2 ⟨rfl, rfl⟩
      go_wp2_with fail
      refine LS.out.mono ?_
      rintro e w2 ⟨X, xn, xc, rfl, oX, bb⟩
      have F : AnsStep w (stepAtO d.1 d.2 t (a' : Int) (k : Int)) (.returned (.tuple #[.slice X xn xc, .bool (stepO d.1 (d.2.getD k ([], [])) t a').isSome])) w2 := ⟨X, xn, xc, by rw [HE.out], by rw [HE.out]; exact Own.lower oX bel.size, next_trans bel bb⟩
      have HF := Lib.hid F
      clear F oX bb bel rA K0 K1 LS
      generalize (stepO d.1 (d.2.getD k ([], [])) t a').isSome = bz at *
      go_wp2
      go_ret2
      exact HF.out
end Go.Proofs.Ytmaamlnooepogaa.stepSpec
end

section
/-
  WORDS FOR MEMORY: a table of 24 lists that may be read ('TabR'). Conditions: none; plain lemmas. By an AI agent.
-/
namespace Go.Proofs.Ytmaamlnooepogaa.whole
open Go.RowKit Go.Proofs.Ytmaamlnooepogaa.base Go.Proofs.Ytmaamlnooepogaa.segs Go.Proofs.Ytmaamlnooepogaa.matchMath
set_option maxRecDepth 100000

/-- 24 empty lists -/
def z24 : Array Value := Array.replicate 24 (.slice none 0 0)
theorem z24_size : z24.size = 24 := by simp [z24]

section
variable {w w' : World} {B B' g : Nat} {cs : Array Value} {s : List (List Int)} {t : TypeId}
/-- 24 lists that may be read, all of them below B -/
def TabR (w : World) (B : Nat) (cs : Array Value) (s : List (List Int)) : Prop :=
  cs.size = 24 ∧ s.length = 24 ∧ ∀ j, j < 24 → ∃ A n c, cs[j]? = some (.slice A n c) ∧ Seg w B A n (s.getD j []) ∧ Cap A n c
theorem TabR.new (w : World) (B : Nat) : TabR w B z24 s0 :=
  ⟨z24_size, rfl, fun j hj => ⟨none, 0, 0, by simp [z24, hj], by rw [s0_get]; exact Seg.empty, ⟨Nat.le_refl _, by omega, fun _ => rfl⟩⟩⟩
theorem TabR.keep (h : TabR w B cs s) (hk : ∀ p : Addr, p.block < B → w'.cell? p = w.cell? p) : TabR w' B cs s :=
  ⟨h.1, h.2.1, fun j hj => by obtain ⟨A, n, c, e, hs, hc⟩ := h.2.2 j hj; exact ⟨A, n, c, e, hs.keep hk, hc⟩⟩
theorem TabR.more (h : TabR w B cs s) (hB : B ≤ B') : TabR w B' cs s :=
  ⟨h.1, h.2.1, fun j hj => by obtain ⟨A, n, c, e, hs, hc⟩ := h.2.2 j hj; exact ⟨A, n, c, e, hs.more hB, hc⟩⟩
theorem TabR.below (h : TabR w B cs s) (hb : Below B w w') : TabR w' B cs s := h.keep fun _ hp => hb.cell hp
theorem TabR.put (h : TabR w B cs s) {j : Nat} (hj : j < 24) {A : Option Addr} {n c : Nat} {ys : List Int} (hs : Seg w B A n ys) (hc : Cap A n c) : TabR w B (cs.setIfInBounds j (.slice A n c)) (s.set j ys) := by
  refine ⟨by rw [Array.size_setIfInBounds]; exact h.1, by rw [List.length_set]; exact h.2.1, fun i hi => ?_⟩
  by_cases e : j = i
  · subst e
    exact ⟨A, n, c, by rw [Array.getElem?_setIfInBounds_self_of_lt (by rw [h.1]; exact hj)], by rw [set_get, if_pos ⟨rfl, by rw [h.2.1]; exact hj⟩]; exact hs, hc⟩
  · obtain ⟨A', n', c', e', hs', hc'⟩ := h.2.2 i hi
    exact ⟨A', n', c', by rw [Array.getElem?_setIfInBounds_ne e]; exact e', by rw [set_get, if_neg (fun hh => e hh.1)]; exact hs', hc'⟩
theorem TabR.one (h : TabR w B cs s) : cs.all (·.oneCell') = true := by
  rw [Array.all_eq_true]
  intro i hi
  obtain ⟨A, n, c, e, _⟩ := h.2.2 i (by rw [← h.1]; exact hi)
  rw [Array.getElem?_eq_getElem hi] at e
  injection e with e
  rw [e]; rfl
theorem TabR.segs (h : TabR w B cs s) (hr : Row w g t cs) (hB : B ≤ w.heap.size) : Segs w w.heap.size (some ⟨g, 0, none⟩) 24 s := by
  refine ⟨h.2.1, fun _ => ⟨g, 0, rfl, hr.lt, fun j hj => ?_⟩⟩
  obtain ⟨A, n, c, e, hs, hc⟩ := h.2.2 j hj
  exact ⟨A, n, c, by rw [Nat.zero_add, hr.cell j, e], hs.more hB, hc⟩
theorem TabR.made (w : World) (B : Nat) : TabR w B (madeCells #[.slice none 0 0] 24) s0 :=
  ⟨size_madeCells _ _, rfl, fun j hj => ⟨none, 0, 0, by simp [madeCells, hj, Nat.mod_one], by rw [s0_get]; exact Seg.empty, ⟨Nat.le_refl _, by omega, fun _ => rfl⟩⟩⟩
end
end Go.Proofs.Ytmaamlnooepogaa.whole
end

section
/-
  WORDS FOR MEMORY, impl's bindings: an array of 24 lists by value, in and out of a block that is known whole; a table of 24 lists that may be read ('TabR'). Conditions: none; plain lemmas. By an AI agent.
-/
namespace Go.Proofs.Ytmaamlnooepogaa.whole
open Go.RowKit Go.Proofs.Ytmaamlnooepogaa.base Go.Proofs.Ytmaamlnooepogaa.cursor Go.Proofs.Ytmaamlnooepogaa.marks Go.Proofs.Ytmaamlnooepogaa.app Go.Proofs.Ytmaamlnooepogaa.sym Go.Proofs.Ytmaamlnooepogaa.segs Go.Proofs.Ytmaamlnooepogaa.matchMath Go.Proofs.Ytmaamlnooepogaa.matchSpec
set_option maxRecDepth 100000

section
variable {P : Program} {ops : Array Oper} {rest : List Oper} {o : Oper} {a : Act} {w : World} {Q : Exit → Act → World → Prop}
/-- a new variable of a type whose zero value is z -/
theorem rowAlloc (hgd : o.guard = none) (t : TypeId) (ho : o.op = .alloc t) (z : Array Value) (hz : ∀ w, (zeroValue t).run P w = .ok (.agg z) w)
    (h : wpList P ops Q rest (a.put o.dst (.pointer (some ⟨w.heap.size, 0, none⟩))) (w.alloc (.cells z t))) : wpList P ops Q (o :: rest) a w :=
  wpList_plain hgd fun _ hK => by
    unfold Oper.wp execOp
    simp only [ho, Instr.alloc, Sem.run_bind, hz, Result.andThen_ok, newVar, Value.cells]
    exact hK _ _ h
/-- a new variable with a value -/
theorem rowBox (hgd : o.guard = none) (t : TypeId) (x : Operand) (ho : o.op = .box t x) (z : Array Value) (hx : a.eval x = .agg z)
    (h : wpList P ops Q rest (a.put o.dst (.pointer (some ⟨w.heap.size, 0, none⟩))) (w.alloc (.cells z t))) : wpList P ops Q (o :: rest) a w :=
  wpList_plain hgd fun _ hK => by
    unfold Oper.wp execOp
    simp only [ho, hx, Instr.box, Sem.run_bind, Result.andThen_ok, newVar, Value.cells]
    exact hK _ _ h
/-- a literal without elements -/
theorem rowBuild (hgd : o.guard = none) (t : TypeId) (ho : o.op = .build t #[]) (z : Array Value) (hz : P.built t [] = some z)
    (h : wpList P ops Q rest (a.put o.dst (.agg z)) w) : wpList P ops Q (o :: rest) a w :=
  wpList_plain hgd fun _ hK => by
    refine wp_build t #[] ho (by simp [hz]) ?_
    simp only [List.map_toArray, List.map_nil, hz, Option.getD_some]
    exact hK _ _ h
/-- a whole row is written -/
theorem rowStore (hgd : o.guard = none) (ty : TypeId) (x y : Operand) (ho : o.op = .store ty x y) (g : Nat) (cells old : Array Value) (t : TypeId) (hx : a.eval x = .pointer (some ⟨g, 0, none⟩)) (hy : a.eval y = .agg cells)
    (hg : w.heap[g]? = some (.cells old t (0, 0))) (hi : (P.info? ty).map (·.size) = some cells.size) (hs : old.size = cells.size) (h1 : cells.all (·.oneCell') = true)
    (h : wpList P ops Q rest (a.put o.dst undef) (w.setRow g cells)) : wpList P ops Q (o :: rest) a w :=
  wpList_plain hgd fun _ hK => by
    unfold Oper.wp execOp
    simp only [ho, hx, hy, Instr.storeAt, Instr.sureAddr, Sem.run_bind, Sem.run_pure, Result.andThen_ok, run_storeVar_row w g t ty old cells hg hi hs h1]
    exact hK _ _ h
/-- a whole row and a value are the results -/
theorem results_row_tmp {fn : Func} {p u : Tmp} {ty : TypeId} (h : fn.results = #[.cell p ty, .tmp u]) (tmps : Array Value) (g : Nat) (t : TypeId) (cs : Array Value) (d : TypeDesc)
    (hp : tmps.getD p undef = .pointer (some ⟨g, 0, none⟩)) (hg : w.heap[g]? = some (.cells cs t (0, 0)))
    (hu : P.underlying ty = some d) (hd : (match d with | .struct _ | .array _ _ => true | _ => false) = true) (hi : (P.info? ty).map (·.size) = some cs.size) :
    (results fn tmps).run P w = .ok (.tuple #[.agg cs, tmps.getD u undef]) w := by
  rw [results_cell_tmp h, hp]
  simp [asAddr, Result.andThen, run_loadVar_row w g t ty cs (0, 0) d hg hu hd hi]
end

theorem z24_one : z24.all (·.oneCell') = true := by kernel_rfl
theorem info_b : (Try.prog.info? 133).map (fun i => (i.zero, i.size)) = some (some (.agg z24), 24) := by kernel_rfl
theorem zero_b : ∀ w, (zeroValue 133).run Try.prog w = .ok (.agg z24) w := by
  intro w
  cases hq : Try.prog.info? 133 with
  | none => have h := info_b; simp [hq] at h
  | some i => have h := info_b; simp [hq] at h; simp [zeroValue, typeInfo, hq, h.1]
theorem size_b : (Try.prog.info? 133).map (·.size) = some 24 := by kernel_rfl
theorem built_b : Try.prog.built 133 [] = some z24 := by kernel_rfl

section
variable {w w' : World} {B B' g : Nat} {cs : Array Value} {s : List (List Int)} {t : TypeId}
theorem Row.setRow (h : Row w g t cs) (c' : Array Value) : Row (w.setRow g c') g t c' := setRow_heap w g cs c' t (0, 0) h
theorem grown_setRow (w : World) (g : Nat) (c' : Array Value) : w.grownBy (w.setRow g c') (some g) :=
  ⟨rfl, rfl, rfl, by simp, fun k _ hk => setRow_other w g k c' (fun e => hk (by rw [e]))⟩

end
end Go.Proofs.Ytmaamlnooepogaa.whole
end

section
/-
  PLAIN MATHEMATICS of impl's matching: pattern and term are read in step; a pattern is matched at a place of a term just where it is matched with the subterm there; all terms valid. Conditions: none. By an AI agent.
-/
namespace Go.Proofs.Ytmaamlnooepogaa.takeMath
open Go.Proofs.Ytmaamlnooepogaa.sig Go.Proofs.Ytmaamlnooepogaa.term Go.Proofs.Ytmaamlnooepogaa.termOk Go.Proofs.Ytmaamlnooepogaa.termFacts Go.Proofs.Ytmaamlnooepogaa.endAt Go.Proofs.Ytmaamlnooepogaa.sub Go.Proofs.Ytmaamlnooepogaa.termMath Go.Proofs.Ytmaamlnooepogaa.fillMath Go.Proofs.Ytmaamlnooepogaa.posMath Go.Proofs.Ytmaamlnooepogaa.renMath Go.Proofs.Ytmaamlnooepogaa.matchMath

/-- as many terms are missing in the pattern as in the term -/
def Sync (sg p t : List Int) (i k : Nat) : Prop := ∃ q, scan sg q (p.drop i) = some (p.length - i) ∧ ∃ j, scan sg q (t.drop k) = some j
section
variable {sg p t : List Int} {i k : Nat} {x : Int}
theorem Sync.start (h1 : termOkB sg p = true) (h2 : termOkB sg t = true) (ha : k < t.length) : Sync sg p t 0 k :=
  ⟨1, by rw [List.drop_zero, Nat.sub_zero]; exact (term_parts h1).2.2, _, (term_at h2 ha).1⟩
theorem Sync.lt (h : Sync sg p t i k) (hi : i < p.length) : k < t.length := by
  obtain ⟨q, h1, j, h2⟩ := h
  cases q with
  | zero => rw [scan_zero] at h1; injection h1 with h1; omega
  | succ q =>
    have a := scan_pos h2
    have b := scan_le h2
    rw [List.length_drop] at b
    omega
theorem Sync.sym (h : Sync sg p t i k) (hi : i < p.length) (hx : p.getD i 0 = x) (hy : t.getD k 0 = x) : Sync sg p t (i + 1) (k + 1) := by
  have hk := h.lt hi
  obtain ⟨q, h1, j, h2⟩ := h
  rw [drop_cons hi, hx] at h1
  rw [drop_cons hk, hy] at h2
  cases q with
  | zero => rw [scan_zero] at h1; injection h1 with h1; omega
  | succ q =>
    by_cases hn : ar sg x < 0
    · rw [scan_bad hn] at h1; cases h1
    · rw [scan_step hn, Option.map_eq_some_iff] at h1 h2
      obtain ⟨a, e1, e2⟩ := h1
      obtain ⟨b, e3, e4⟩ := h2
      exact ⟨_, by rw [e1]; congr 1; omega, b, e3⟩
theorem Sync.var (h : Sync sg p t i k) (hi : i < p.length) (hx : p.getD i 0 = x) (h0 : -24 ≤ x) (h1 : x < 0) (hok : termOkB sg t = true) : Sync sg p t (i + 1) (k + (subL sg t k).length) := by
  have hk := h.lt hi
  have hl := (sub_len1 hok hk).1
  obtain ⟨q, h1, j, h2⟩ := h
  rw [drop_cons hi, hx] at h1
  cases q with
  | zero => rw [scan_zero] at h1; injection h1 with h1; omega
  | succ q =>
    have hz : ar sg x = 0 := ar_var (by omega)
    rw [scan_step (by omega), hz, Option.map_eq_some_iff] at h1
    obtain ⟨a, e1, e2⟩ := h1
    obtain ⟨j1, g1, _, _, g2⟩ := scan_first h2
    rw [hl, len1_eq g1]
    exact ⟨q, by rw [show p.length - (i + 1) = a by omega]; exact e1, _, g2⟩
end

/-- at a place of the term: just where the subterm there is an instance -/
theorem mst_at {sg p t : List Int} {k : Nat} (h1 : termOkB sg p = true) (h2 : termOkB sg t = true) (hk : k < t.length) : (mst sg t p k s0).isSome = instB sg p (subL sg t k) := by
  have hx : ∀ x ∈ p, -24 ≤ x := fun x hx => (term_mem h1 hx).1
  have hs := (sub_term h2 hk).1
  obtain ⟨_, e2, e3⟩ := sub_len1 h2 hk
  rw [Bool.eq_iff_iff, inst_iff h1 hs, Option.isSome_iff_exists]
  constructor
  · rintro ⟨s', h⟩
    obtain ⟨⟨rest, e⟩, hv⟩ := mst_sound h2 h (by rfl) hx
    refine ⟨fun i => s'.getD i [], ?_, hv⟩
    have a := scan_append (r := rest) (scan_fill (L := fun i => s'.getD i []) (term_parts h1).2.2 hv)
    rw [← e] at a
    unfold subL
    rw [len1_eq a, e, List.take_left' rfl]
  · rintro ⟨L, hL, hv⟩
    obtain ⟨s', m1, _⟩ := mst_full (sg := sg) (t := t) (L := L) (p := p) (k := k) (s := s0) (rest := t.drop (k + (subL sg t k).length)) (by rw [hL]; exact e2) (by rfl) hx hv (fun i hi => by rw [s0_get] at hi; exact absurd rfl hi)
    exact ⟨s', m1⟩

/-- at most 12, all of them terms -/
def termsB (sg : List Int) (ps : List (List Int)) : Bool := decide (ps.length ≤ 12) && ps.all (termOkB sg)
theorem terms_long {sg : List Int} {ps : List (List Int)} (h : 12 < ps.length) : termsB sg ps = false := by unfold termsB; rw [decide_eq_false (by omega)]; rfl
theorem terms_bad {sg : List Int} {ps : List (List Int)} {i : Nat} (hi : i < ps.length) (h : termOkB sg (ps.getD i []) = false) : termsB sg ps = false := by
  unfold termsB
  have : ps.all (termOkB sg) = false := by
    rw [List.all_eq_false]
    exact ⟨ps[i], List.getElem_mem hi, by simpa [List.getD, hi] using h⟩
  rw [this, Bool.and_false]
theorem terms_good {sg : List Int} {ps : List (List Int)} (h2 : ps.length ≤ 12) (h : ∀ i, i < ps.length → termOkB sg (ps.getD i []) = true) : termsB sg ps = true := by
  unfold termsB
  rw [decide_eq_true h2, Bool.true_and, List.all_eq_true]
  intro x hx
  obtain ⟨i, hi, rfl⟩ := List.getElem_of_mem hx
  have := h i hi
  simpa [List.getD, hi] using this
theorem terms_parts {sg : List Int} {ps : List (List Int)} (h : termsB sg ps = true) : ps.length ≤ 12 ∧ ∀ i, i < ps.length → termOkB sg (ps.getD i []) = true := by
  unfold termsB at h
  rw [Bool.and_eq_true, decide_eq_true_eq, List.all_eq_true] at h
  refine ⟨h.1, fun i hi => ?_⟩
  have := h.2 _ (List.getElem_mem hi)
  simpa [List.getD, hi] using this
end Go.Proofs.Ytmaamlnooepogaa.takeMath
end

section
/-
  CONTRACT: impl's (*bindings).take. Conditions: the slices read as lists ('Seg') below the bindings' block, the cursor's block is the next one, the term is valid, the place lies in it, the pattern's number is at least -24. By an AI agent.
-/
namespace Go.Proofs.Ytmaamlnooepogaa.take
open Go.RowKit Go.Proofs.Ytmaamlnooepogaa.base Go.Proofs.Ytmaamlnooepogaa.ints Go.Proofs.Ytmaamlnooepogaa.sig Go.Proofs.Ytmaamlnooepogaa.same Go.Proofs.Ytmaamlnooepogaa.term Go.Proofs.Ytmaamlnooepogaa.termOk Go.Proofs.Ytmaamlnooepogaa.endAt Go.Proofs.Ytmaamlnooepogaa.marks Go.Proofs.Ytmaamlnooepogaa.app Go.Proofs.Ytmaamlnooepogaa.sym Go.Proofs.Ytmaamlnooepogaa.sub Go.Proofs.Ytmaamlnooepogaa.segs Go.Proofs.Ytmaamlnooepogaa.termFacts Go.Proofs.Ytmaamlnooepogaa.termMath Go.Proofs.Ytmaamlnooepogaa.posMath Go.Proofs.Ytmaamlnooepogaa.cursor Go.Proofs.Ytmaamlnooepogaa.matchMath Go.Proofs.Ytmaamlnooepogaa.matchSpec Go.Proofs.Ytmaamlnooepogaa.whole Go.Proofs.Ytmaamlnooepogaa.takeMath Go.Proofs.Ytmaamlnooepogaa.curO
set_option maxRecDepth 100000

theorem set_same {s : List (List Int)} {v : Nat} {ys : List Int} (h : s.getD v [] = ys) (hv : v < s.length) : s.set v ys = s := by
  refine List.ext_getElem (by simp) fun i h1 h2 => ?_
  rw [List.getElem_set]
  split
  · rename_i e
    subst e
    rw [← h]
    simp [List.getD, hv]
  · rfl

/-- bindings in block g, cursor in the next one -/
structure Tk (w : World) (g : Nat) (A : Option Addr) (n c : Nat) (Q : Option Addr) (m mc : Nat) (sg t : List Int) (k : Nat) (s : List (List Int)) : Prop where
  row : Row w (g + 1) 127 #[.slice A n c, .slice Q m mc, .int .i64 k]
  tab : ∃ cs, Row w g 133 cs ∧ TabR w g cs s
  ss : Seg w g A n sg
  st : Seg w g Q m t
  le : k ≤ m
  hn : n ≤ 1048576
  hm : m ≤ 1048576
  ars : Arities sg
  hs : ∀ j, (s.getD j []).length ≤ m
section
variable {w w' : World} {g : Nat} {A : Option Addr} {n c : Nat} {Q : Option Addr} {m mc : Nat} {sg t : List Int} {k k' : Nat} {s : List (List Int)}
theorem Tk.cur (h : Tk w g A n c Q m mc sg t k s) : Cur w (g + 1) A n c Q m mc sg t k := ⟨h.row, h.ss.more (Nat.le_succ _), h.st.more (Nat.le_succ _), h.le, h.hn, h.hm, h.ars⟩
theorem Tk.lt (h : Tk w g A n c Q m mc sg t k s) : g + 1 < w.heap.size := h.row.lt
theorem keep_of {B : Nat} {r : Option Nat} (hg : w.grownBy w' r) (hB : B ≤ w.heap.size) (hr : ∀ k, r = some k → B ≤ k) : ∀ p : Addr, p.block < B → w'.cell? p = w.cell? p :=
  fun q hq => World.cell?_of_block (hg.block q.block (by omega) (fun e => by have := hr _ e.symm; omega))
/-- the cursor has moved -/
theorem Tk.move (h : Tk w g A n c Q m mc sg t k s) (hg : w.grownBy w' (some (g + 1))) (hr : Row w' (g + 1) 127 #[.slice A n c, .slice Q m mc, .int .i64 k']) (hk : k' ≤ m) : Tk w' g A n c Q m mc sg t k' s := by
  have hl := h.lt
  have hk0 := keep_of (B := g) hg (by omega) (fun k e => by injection e; omega)
  obtain ⟨cs, h1, h2⟩ := h.tab
  refine ⟨hr, ⟨cs, (hg.block g (by omega) (fun e => by injection e; omega)).trans h1, h2.keep hk0⟩, h.ss.keep hk0, h.st.keep hk0, hk, h.hn, h.hm, h.ars, h.hs⟩
theorem Tk.drewN (h : Tk w g A n c Q m mc sg t k s) (d : Nat) : Tk (w.drewN d) g A n c Q m mc sg t k s := ⟨h.row, h.tab, h.ss, h.st, h.le, h.hn, h.hm, h.ars, h.hs⟩
/-- a binding is written -/
theorem Tk.put (h : Tk w g A n c Q m mc sg t k s) {j : Nat} (hj : j < 24) {D : Option Addr} {dn dc : Nat} {ys : List Int} (hs : Seg w g D dn ys) (hc : Cap D dn dc) (hl : ys.length ≤ m) :
    Tk (w.setCell ⟨g, j, none⟩ (.slice D dn dc)) g A n c Q m mc sg t k (s.set j ys) := by
  have hlt := h.lt
  have hg : w.grownBy (w.setCell ⟨g, j, none⟩ (.slice D dn dc)) (some g) := grown_put (World.grownBy.refl _ _) _ _
  have hk0 := keep_of (B := g) hg (by omega) (fun k e => by injection e; omega)
  obtain ⟨cs, h1, h2⟩ := h.tab
  exact ⟨h.row.far (show g + 1 ≠ g by omega) _, ⟨_, h1.put j _, (h2.put hj hs hc).keep hk0⟩, h.ss.keep hk0, h.st.keep hk0, h.le, h.hn, h.hm, h.ars, fun i => by rw [set_get]; split; exact hl; exact h.hs i⟩
theorem Tk.held (h : Tk w g A n c Q m mc sg t k s) {j : Nat} (hj : j < 24) : ∃ D dn dc, w.cell? ⟨g, j, none⟩ = some (.slice D dn dc) ∧ Seg w g D dn (s.getD j []) ∧ w.frozen? ⟨g, j, none⟩ = false := by
  obtain ⟨cs, h1, h2⟩ := h.tab
  obtain ⟨D, dn, dc, e, hs, _⟩ := h2.2.2 j hj
  exact ⟨D, dn, dc, by rw [h1.cell j, e], hs, h1.free j⟩
theorem Tk.len (h : Tk w g A n c Q m mc sg t k s) : s.length = 24 := by obtain ⟨cs, h1, h2⟩ := h.tab; exact h2.2.1
end

theorem btw_drewN (lo hi : Nat) (w : World) (d : Nat) : Btw lo hi w (w.drewN d) := ⟨rfl, rfl, rfl, Nat.le_refl _, fun _ _ _ => rfl⟩
/-- what take gives: a step of the walk -/
def AnsTake (w : World) (g : Nat) (A : Option Addr) (n c : Nat) (Q : Option Addr) (m mc : Nat) (sg t : List Int) (k : Nat) (s : List (List Int)) (x : Int) (e : Ending) (w' : World) : Prop :=
  Btw g (g + 2) w w' ∧ ((∃ k' s', e = .returned (.bool true) ∧ Tk w' g A n c Q m mc sg t k' s' ∧ ((0 ≤ x ∧ t.getD k 0 = x ∧ k' = k + 1) ∨ (x < 0 ∧ k' = k + (subL sg t k).length)) ∧ ∀ r, mst sg t (x :: r) k s = mst sg t r k' s') ∨
    (e = .returned (.bool false) ∧ ∀ r, mst sg t (x :: r) k s = none))

set_option maxHeartbeats 1000000 in
theorem take (g : Nat) (A Q : Option Addr) (n c m mc : Nat) (sg t : List Int) (k : Nat) (s : List (List Int)) (x : Int) (w : World) (h : Tk w g A n c Q m mc sg t k s) (hk : k < m) (hmc : m ≤ mc) (hmc2 : mc ≤ 9223372036854775807) (hx : -24 ≤ x) (hok : termOkB sg t = true) :
    Calls Try.prog 147 #[.pointer (some ⟨g, 0, none⟩), .int .i64 x, .pointer (some ⟨g + 1, 0, none⟩)] w (AnsTake w g A n c Q m mc sg t k s x) := by
  have HT := Lib.hid hok
  have HL := Lib.hid h.st.1
  have hkt : ¬ t.length ≤ k := by rw [HL.out]; omega
  have hm := h.hm
  have c1 : w.cell? ⟨g + 1, 1, none⟩ = some (.slice Q m mc) := h.row.cell 1
  have c2 : w.cell? ⟨g + 1, 2, none⟩ = some (.int .i64 k) := h.row.cell 2
  have f2 : w.frozen? ⟨g + 1, 2, none⟩ = false := h.row.free 2
  obtain ⟨b, off, y, rfl, hbb, hy, ey⟩ := h.st.spot hk
  have i0 : (0 : Int) ≤ (k : Int) := by omega
  have i1 : (k : Int) < (m : Int) := by omega
  clear hok
  by_cases hx0 : 0 ≤ x
  · have g0 : w.grownBy (w.setCell ⟨g + 1, 2, none⟩ (.int .i64 ((k : Int) + 1))) (some (g + 1)) := grown_put (World.grownBy.refl _ _) _ _
    have M := Lib.hid (h.move (k' := k + 1) g0 (by have r := h.row.put 2 (.int .i64 ((k : Int) + 1)); have e : (.int .i64 ((k : Int) + 1) : Value) = .int .i64 ((k + 1 : Nat) : Int) := by simp
                                                   rw [← e]; exact r) hk)
    have B := Lib.hid (Btw.of_grown (lo := g) (hi := g + 2) g0 (fun k e => by injection e; omega))
    have hy1 : (w.setCell ⟨g + 1, 2, none⟩ (.int .i64 ((k : Int) + 1))).cell? ⟨b, off + k, none⟩ = some (.int .i64 y) := (World.cell?_setCell_far w ⟨g + 1, 2, none⟩ ⟨b, off + k, none⟩ _ (by show g + 1 ≠ b; omega)).trans hy
    by_cases hxy : x = y
    · subst hxy
      have F := fun d => (show AnsTake w g A n c (some ⟨b, off, none⟩) m mc sg t k s x (.returned (.bool true)) ((w.setCell ⟨g + 1, 2, none⟩ (.int .i64 ((k : Int) + 1))).drewN d) from
        ⟨B.out.trans (btw_drewN _ _ _ d), .inl ⟨k + 1, s, rfl, M.out.drewN d, .inl ⟨hx0, ey.out, rfl⟩, fun r => mst_sym hkt hx0 ey.out.symm⟩⟩)
      have HF := Lib.hid F
      clear F M B g0 h ey
      go_enter Try.func147, Try.ntmps147
      go_wp2
      go_quiet (fail)
      go_wp2
      go_ret
      exact HF.out _
    · have hd : (y == x) = false := by simp; exact fun e => hxy e.symm
      have F := fun d => (show AnsTake w g A n c (some ⟨b, off, none⟩) m mc sg t k s x (.returned (.bool false)) ((w.setCell ⟨g + 1, 2, none⟩ (.int .i64 ((k : Int) + 1))).drewN d) from
        ⟨B.out.trans (btw_drewN _ _ _ d), .inr ⟨rfl, fun r => mst_symNo hkt hx0 (by rw [ey.out]; exact hxy)⟩⟩)
      have HF := Lib.hid F
      clear F M B g0 h ey
      go_enter Try.func147, Try.ntmps147
      go_wp2
      go_quiet (fail)
      go_wp2
      go_ret
      exact HF.out _
  · obtain ⟨v, hv⟩ : ∃ v : Nat, x = -1 - (v : Int) := ⟨(-1 - x).toNat, by omega⟩
    subst hv
    have hv24 : v < 24 := by omega
    have HVR := Lib.hid (show vr (-1 - (v : Int)) = v by unfold vr; omega)
    obtain ⟨t1, t2, t3⟩ := term_at HT.out (show k < t.length by rw [HL.out]; exact hk)
    rw [HL.out] at t3
    obtain ⟨j, hj⟩ : ∃ j, len1 sg t k = j := ⟨_, rfl⟩
    have hsl := (sub_len1 HT.out (show k < t.length by rw [HL.out]; exact hk)).1
    have hsub : subL sg t k = (t.drop k).take j := by unfold subL; rw [hj]
    rw [hj] at t1 t2 t3 hsl
    obtain ⟨ys, hys⟩ : ∃ ys, subL sg t k = ys := ⟨_, rfl⟩
    rw [hys] at hsl hsub
    have HYS := Lib.hid hys
    have HSUB := Lib.hid hsub
    have HSL := Lib.hid hsl
    have T1 := Lib.hid t1
    have C := Lib.hid h.cur
    have HH := Lib.hid h
    have HKT := Lib.hid hkt
    have a1 : (k : Int) ≤ (k : Int) + (j : Int) := by omega
    have a2 : (k : Int) + (j : Int) ≤ (mc : Int) := by omega
    have a3 : ¬ mc = k := by omega
    have a4 : k + j ≤ mc := by omega
    have w1 : IntKind.i64.wrap (-1 - (-1 - (v : Int))) = (v : Int) := by rw [IntKind.wrap_i64]; omega
    have w2 : IntKind.i64.wrap (v : Int) = (v : Int) := by rw [IntKind.wrap_i64]; omega
    have j0 : (0 : Int) ≤ (v : Int) := by omega
    have j1 : (v : Int) < 24 := by omega
    clear hj hys hsub hsl t1 hy ey f2 hkt h
    go_enter Try.func147, Try.ntmps147
    have C2 := Lib.hid (C.out.drewN 1)
    go_wp2_with fail
    go_region_held3 (fun _ => True) (trivial)
      (first
        | (go_at_call 152; refine (partC (g + 1) A n c b off m mc sg t k j w.drew C2.out T1.out t3 t2 hmc hmc2).mono ?_; rintro e w3 ⟨rfl, hg0, hc⟩))
    · have hg : w.grownBy w3 (some (g + 1)) := grown_trans (World.grownBy.refl w _) ⟨hg0.os, hg0.tape, hg0.output, hg0.size, hg0.block⟩
      have M := HH.out.move hg hc.row t3
      have b3 := Btw.of_grown (lo := g) (hi := g + 2) hg (fun k e => by injection e; omega)
      obtain ⟨D, dn, dc, ch, sh, fh⟩ := M.held hv24
      obtain ⟨os, hos⟩ : ∃ os, s.getD v [] = os := ⟨_, rfl⟩
      have hdn : dn ≤ 1048576 := by rw [← sh.1]; exact Nat.le_trans (M.hs v) hm
      rw [hos] at sh
      have HOS := Lib.hid hos
      have HSH := Lib.hid sh
      have HM := Lib.hid M
      have HB := Lib.hid b3
      have cut := Lib.hid (Seg.cut (a := k) (j := j) M.st t3)
      clear hc hg hg0 hos sh b3 M C C2 c1 c2
      have HC := Lib.hid (show Cap (some ⟨b, off + k, none⟩) j (mc - k) from ⟨by omega, by omega, fun e => by cases e⟩)
      have hj60 : j ≤ 1048576 := by omega
      have HJ := Lib.hid (show 1 ≤ j from t2)
      by_cases hd0 : dn = 0
      · subst hd0
        have hno : ¬ ((s.getD (vr (-1 - (v : Int))) []).length ≠ 0 ∧ s.getD (vr (-1 - (v : Int))) [] ≠ subL sg t k) := by
          rw [HVR.out, HOS.out, HSH.out.1]
          exact fun e => e.1 rfl
        have R := Lib.hid (fun r => mst_var (sg := sg) (r := r) HKT.out (show ¬ 0 ≤ -1 - (v : Int) by omega) hno)
        have P := Lib.hid (HM.out.put (j := v) (D := some ⟨b, off + k, none⟩) (dn := j) (dc := mc - k) (ys := ys) hv24 (by rw [HSUB.out]; exact cut.out) HC.out (by rw [HSL.out]; omega))
        have BP := Lib.hid (HB.out.trans (Btw.of_grown (lo := g) (hi := g + 2) (grown_put (World.grownBy.refl w3 (some g)) v (.slice (some ⟨b, off + k, none⟩) j (mc - k))) (fun k e => by injection e; omega)))
        have ce := World.cell?_setCell_same w3 ⟨g, v, none⟩ (.slice (some ⟨b, off + k, none⟩) j (mc - k)) (show w3.cell? ⟨g, v, none⟩ = some (.slice D 0 dc) from ch)
        have PS := Lib.hid (show Seg (w3.setCell ⟨g, v, none⟩ (.slice (some ⟨b, off + k, none⟩) j (mc - k))) (w3.setCell ⟨g, v, none⟩ (.slice (some ⟨b, off + k, none⟩) j (mc - k))).heap.size (some ⟨b, off + k, none⟩) j ys from by
          have q := cut.out.put (p := ⟨g, v, none⟩) (Nat.le_refl _) (.slice (some ⟨b, off + k, none⟩) j (mc - k))
          rw [← HSUB.out] at q
          exact q.more (by have := P.out.lt; omega))
        clear HM HB hno
        go_wp2_with fail
        refine (implSame _ _ j j _ _ ys ys _ PS.out PS.out hj60 hj60).mono ?_
        rintro e w5 ⟨rfl, d, rfl⟩
        rw [decide_eq_true (show ys = ys from rfl)]
        have F : AnsTake w g A n c (some ⟨b, off, none⟩) m mc sg t k s (-1 - (v : Int)) (.returned (.bool true)) ((w3.setCell ⟨g, v, none⟩ (.slice (some ⟨b, off + k, none⟩) j (mc - k))).drewN d) :=
          ⟨BP.out.trans (btw_drewN _ _ _ d), .inl ⟨k + j, s.set v ys, rfl, P.out.drewN d, .inr ⟨by omega, by rw [HYS.out, HSL.out]⟩, fun r => by rw [R.out r, HVR.out, HYS.out, HSL.out]⟩⟩
        have HF := Lib.hid F
        clear F R P BP ce PS cut
        go_wp2
        go_ret
        exact HF.out
      · have hdz : ((dn : Int) == 0) = false := by simp; omega
        have hwg := Lib.hid (show g ≤ w3.heap.size by have := HM.out.lt; omega)
        have PS := Lib.hid (show Seg w3 w3.heap.size (some ⟨b, off + k, none⟩) j ys from by
          have q := cut.out
          rw [← HSUB.out] at q
          exact q.more hwg.out)
        have PO := Lib.hid (show Seg w3 w3.heap.size D dn os from HSH.out.more hwg.out)
        by_cases hoy : os = ys
        · have hno : ¬ ((s.getD (vr (-1 - (v : Int))) []).length ≠ 0 ∧ s.getD (vr (-1 - (v : Int))) [] ≠ subL sg t k) := by
            rw [HVR.out, HOS.out, HYS.out]
            exact fun e => e.2 hoy
          have R := Lib.hid (fun r => mst_var (sg := sg) (r := r) HKT.out (show ¬ 0 ≤ -1 - (v : Int) by omega) hno)
          have SS := Lib.hid (show s.set v ys = s from set_same (HOS.out.trans hoy) (by rw [HM.out.len]; exact hv24))
          have DS := Lib.hid (decide_eq_true hoy)
          clear cut hno hoy
          go_wp2_with fail
          refine (implSame _ _ dn j _ _ os ys _ PO.out PS.out hdn hj60).mono ?_
          rintro e w5 ⟨rfl, d, rfl⟩
          rw [DS.out]
          have F : AnsTake w g A n c (some ⟨b, off, none⟩) m mc sg t k s (-1 - (v : Int)) (.returned (.bool true)) (w3.drewN d) :=
            ⟨HB.out.trans (btw_drewN _ _ _ d), .inl ⟨k + j, s, rfl, HM.out.drewN d, .inr ⟨by omega, by rw [HYS.out, HSL.out]⟩, fun r => by rw [R.out r, HVR.out, HYS.out, HSL.out, SS.out]⟩⟩
          have HF := Lib.hid F
          clear F R SS DS PS PO HM HB
          go_wp2
          go_ret
          exact HF.out
        · have hyes : (s.getD (vr (-1 - (v : Int))) []).length ≠ 0 ∧ s.getD (vr (-1 - (v : Int))) [] ≠ subL sg t k := by
            rw [HVR.out, HOS.out, HYS.out]
            exact ⟨by rw [HSH.out.1]; exact hd0, hoy⟩
          have R := Lib.hid (fun r => mst_varNo (sg := sg) (r := r) HKT.out (show ¬ 0 ≤ -1 - (v : Int) by omega) hyes)
          have DS := Lib.hid (decide_eq_false hoy)
          clear cut hyes hoy
          go_wp2_with fail
          refine (implSame _ _ dn j _ _ os ys _ PO.out PS.out hdn hj60).mono ?_
          rintro e w5 ⟨rfl, d, rfl⟩
          rw [DS.out]
          have F : AnsTake w g A n c (some ⟨b, off, none⟩) m mc sg t k s (-1 - (v : Int)) (.returned (.bool false)) (w3.drewN d) :=
            ⟨HB.out.trans (btw_drewN _ _ _ d), .inr ⟨rfl, R.out⟩⟩
          have HF := Lib.hid F
          clear F R DS PS PO HM HB
          go_wp2
          go_ret
          exact HF.out
end Go.Proofs.Ytmaamlnooepogaa.take
end
