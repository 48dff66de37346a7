/-
  MERGED: my texts CompMath, Shifted, Filled, Max, CompSpec, Then, CompImpl, DrawKnown, DrawSys, DrawSysAny, DrawSysD, RuleSpecB, RuleSpecC, one behind the other, as they are. By an AI agent.
-/
import Derived.Test.YtdkjafjphgcbjaaMFnDefined4
import Derived.Deep.AppendLies
import Derived.Deep.RegionHeld3
import Derived.Deep.DeepCutAuto
import Derived.Laws.NewBlocks
import Derived.Laws.EntriesVeiled
import Derived.Deep.LoopGhost
section
/-
  PLAIN MATHEMATICS of Composed: what the composition gives ('compL'), whether all of it fits ('compOk'), its plain form. Conditions: none. By an AI agent.
-/
namespace Go.Proofs.Ytdkjafjphgcbjaa.compMath
open Go.Proofs.Ytdkjafjphgcbjaa.term Go.Proofs.Ytdkjafjphgcbjaa.termOk Go.Proofs.Ytdkjafjphgcbjaa.termFacts Go.Proofs.Ytdkjafjphgcbjaa.segsHelp Go.Proofs.Ytdkjafjphgcbjaa.fillMath Go.Proofs.Ytdkjafjphgcbjaa.substOk Go.Proofs.Ytdkjafjphgcbjaa.gives Go.Proofs.Ytdkjafjphgcbjaa.plainMath Go.Proofs.Ytdkjafjphgcbjaa.plainOf

/-- what the composition gives for a variable -/
def compL (us ss : List (List Int)) (i : Nat) : List Int := fillL (givesL us) (givesL ss i)
def compOk (us ss : List (List Int)) : Bool := (List.range 24).all fun i => decide ((compL us ss i).length ≤ 60)
/-- what Composed answers -/
def composedB (sg : List Int) (ss us : List (List Int)) : Bool := substOkB sg ss && (substOkB sg us && compOk us ss)
def composedI (sg : List Int) (ss us : List (List Int)) : List (List Int) := if composedB sg ss us = true then plainL (compL us ss) 24 else []

theorem composed_s {sg : List Int} {ss us : List (List Int)} (h : substOkB sg ss = false) : composedB sg ss us = false := by unfold composedB; rw [h, Bool.false_and]
theorem composed_u {sg : List Int} {ss us : List (List Int)} (h : substOkB sg us = false) : composedB sg ss us = false := by unfold composedB; rw [h, Bool.false_and, Bool.and_false]
theorem composed_b {sg : List Int} {ss us : List (List Int)} (h : substOkB sg ss = true) (h' : substOkB sg us = true) : composedB sg ss us = compOk us ss := by unfold composedB; rw [h, h', Bool.true_and, Bool.true_and]
theorem composed_yes {sg : List Int} {ss us : List (List Int)} (h : composedB sg ss us = true) : composedI sg ss us = plainL (compL us ss) 24 := by unfold composedI; rw [if_pos h]
theorem composed_no {sg : List Int} {ss us : List (List Int)} (h : composedB sg ss us = false) : composedI sg ss us = [] := by unfold composedI; rw [if_neg (by rw [h]; simp)]

theorem compOk_iff {us ss : List (List Int)} : compOk us ss = true ↔ ∀ i, i < 24 → (compL us ss i).length ≤ 60 := by
  unfold compOk
  rw [List.all_eq_true]
  exact ⟨fun h i hi => of_decide_eq_true (h i (List.mem_range.2 hi)), fun h i hi => decide_eq_true (h i (List.mem_range.1 hi))⟩
theorem compOk_no {us ss : List (List Int)} {i : Nat} (hi : i < 24) (h : ¬ (compL us ss i).length ≤ 60) : compOk us ss = false := by
  cases e : compOk us ss with
  | false => rfl
  | true => exact absurd (compOk_iff.1 e i hi) h
theorem comp_out {us ss : List (List Int)} {i : Nat} (h : ss.length ≤ i) (h' : us.length ≤ i) : compL us ss i = vt i := by
  unfold compL
  rw [gives_out (by omega)]
  unfold vt
  rw [fill_cons, fill_nil, List.append_nil, rep_var (by omega), show (-1 - (-1 - (i : Int))).toNat = i by omega, gives_out (by omega)]
  rfl
theorem comp_pos (us ss : List (List Int)) (i : Nat) : 1 ≤ (compL us ss i).length := by
  have h1 := fill_ge (gives_pos us) (givesL ss i)
  have h2 := gives_pos ss i
  unfold compL
  omega
theorem comp_len {sg : List Int} {us ss : List (List Int)} (h : substOkB sg ss = true) (h' : substOkB sg us = true) (i : Nat) : (compL us ss i).length ≤ 3600 := by
  have h1 := fill_len (M := 60) (by omega) (gives_len h') (givesL ss i)
  have h2 := gives_len h i
  have h3 : (givesL ss i).length * 60 ≤ 60 * 60 := Nat.mul_le_mul_right _ h2
  unfold compL
  omega

/-- the composition as a list -/
def outL (us ss : List (List Int)) (k : Nat) : List (List Int) := (List.range k).map (compL us ss)
theorem out_len (us ss : List (List Int)) (k : Nat) : (outL us ss k).length = k := by simp [outL]
theorem out_get {us ss : List (List Int)} {k i : Nat} (h : i < k) : (outL us ss k).getD i [] = compL us ss i := by simp [outL, List.getD, h]
theorem out_succ (us ss : List (List Int)) (k : Nat) : outL us ss (k + 1) = outL us ss k ++ [compL us ss k] := by simp [outL, List.range_succ]
theorem out_gives {us ss : List (List Int)} {k i : Nat} (h : i < k) : givesL (outL us ss k) i = compL us ss i := by
  have := comp_pos us ss i
  rw [gives_term (by rw [out_get h]; omega), out_get h]
theorem out_plain {us ss : List (List Int)} {k : Nat} (hk : k ≤ 24) (h : ss.length ≤ k) (h' : us.length ≤ k) : plainL (givesL (outL us ss k)) k = plainL (compL us ss) 24 := by
  rw [plain_24 hk (fun i hi => comp_out (by omega) (by omega))]
  exact plain_ext fun i hi => out_gives hi
theorem out_each {us ss : List (List Int)} {k : Nat} (hk : k ≤ 24) (h : ∀ i, i < k → (compL us ss i).length ≤ 60) : tot (outL us ss k) ≤ 1048576 := by
  have h1 := tot_le (xss := outL us ss k) (M := 60) (fun j => by
    by_cases hj : j < k
    · rw [out_get hj]; exact h j hj
    · rw [show (outL us ss k).getD j [] = [] by simp [List.getD, out_len, hj]]; simp)
  rw [out_len] at h1
  have : k * 60 ≤ 24 * 60 := Nat.mul_le_mul_right _ hk
  omega

/-- one of the lists is too long for a term -/
def anyLong (xss : List (List Int)) : Bool := xss.any fun t => decide (60 < t.length)
theorem anyLong_iff {xss : List (List Int)} : anyLong xss = true ↔ ∃ i, 60 < (xss.getD i []).length := by
  unfold anyLong
  rw [List.any_eq_true]
  refine ⟨fun ⟨t, ht, h⟩ => ?_, fun ⟨i, h⟩ => ?_⟩
  · obtain ⟨i, hi, rfl⟩ := List.getElem_of_mem ht
    exact ⟨i, by simpa [List.getD, hi] using h⟩
  · by_cases hi : i < xss.length
    · refine ⟨xss[i], List.getElem_mem hi, ?_⟩
      simpa [List.getD, hi] using h
    · rw [show xss.getD i [] = [] by simp [List.getD, hi]] at h
      simp at h
theorem anyLong_comp (us ss : List (List Int)) : anyLong (plainL (compL us ss) 24) = !compOk us ss := by
  cases h : compOk us ss with
  | true =>
    cases e : anyLong (plainL (compL us ss) 24) with
    | false => rfl
    | true =>
      obtain ⟨i, hi⟩ := anyLong_iff.1 e
      rw [plain_get] at hi
      by_cases h24 : i < 24
      · rw [rows_get h24] at hi
        have := compOk_iff.1 h i h24
        unfold bare at hi
        split at hi
        · simp at hi
        · omega
      · rw [show (rowsL (compL us ss) 24).getD i [] = [] by simp [List.getD, rows_len, h24]] at hi
        simp at hi
  | false =>
    have hn : ∃ i, i < 24 ∧ ¬ (compL us ss i).length ≤ 60 := by
      refine Classical.byContradiction fun hne => ?_
      have : compOk us ss = true := compOk_iff.2 fun i hi => Classical.byContradiction fun hl => hne ⟨i, hi, hl⟩
      rw [h] at this
      cases this
    obtain ⟨i, hi, hl⟩ := hn
    refine anyLong_iff.2 ⟨i, ?_⟩
    rw [plain_get, rows_get hi]
    unfold bare
    rw [if_neg (fun e => by rw [e] at hl; simp [vt] at hl)]
    omega
theorem composed_tot {sg : List Int} {ss us : List (List Int)} : tot (composedI sg ss us) ≤ 1048576 := by
  cases h : composedB sg ss us with
  | false => rw [composed_no h]; simp [tot, sumL]
  | true =>
    rw [composed_yes h]
    unfold composedB at h
    simp only [Bool.and_eq_true] at h
    have h1 := tot_le (plain_each (L := compL us ss) (m := 24) (comp_len h.1 h.2.1))
    have h2 := plain_len (compL us ss) 24
    have h4 : (plainL (compL us ss) 24).length * 3600 ≤ 24 * 3600 := Nat.mul_le_mul_right _ h2
    omega
end Go.Proofs.Ytdkjafjphgcbjaa.compMath
end

section
/-
  CONTRACTS: spec.Shifted, impl.Shifted and its closure. Conditions: the slices read as lists ('Seg'), at most 1048576 numbers. By an AI agent.
-/
namespace Go.Proofs.Ytdkjafjphgcbjaa.shifted
open Go.RowKit Go.Proofs.Ytdkjafjphgcbjaa.base Go.Proofs.Ytdkjafjphgcbjaa.ints Go.Proofs.Ytdkjafjphgcbjaa.sig Go.Proofs.Ytdkjafjphgcbjaa.term Go.Proofs.Ytdkjafjphgcbjaa.termOk Go.Proofs.Ytdkjafjphgcbjaa.marks Go.Proofs.Ytdkjafjphgcbjaa.app Go.Proofs.Ytdkjafjphgcbjaa.sym Go.Proofs.Ytdkjafjphgcbjaa.segs Go.Proofs.Ytdkjafjphgcbjaa.termFacts Go.Proofs.Ytdkjafjphgcbjaa.varsMath Go.Proofs.Ytdkjafjphgcbjaa.fillMath Go.Proofs.Ytdkjafjphgcbjaa.look
set_option maxRecDepth 100000

/-- a list and a bool: the list reads as ys -/
def AnsPairS (w : World) (ys : List Int) (b : Bool) (e : Ending) (w' : World) : Prop := ∃ A n c, e = .returned (.tuple #[.slice A n c, .bool b]) ∧ Seg w' w'.heap.size A n ys ∧ Below w.heap.size w w'
/-- a list and a bool: the list is new -/
def AnsPairO (w : World) (ys : List Int) (b : Bool) (e : Ending) (w' : World) : Prop := ∃ A n c, e = .returned (.tuple #[.slice A n c, .bool b]) ∧ Own w' w.heap.size (.slice A n c) ys ∧ Below w.heap.size w w'

theorem shifted_no {sg t : List Int} {k : Int} (h : termOkB sg t = false ∨ ¬ (0 ≤ k ∧ k ≤ 24) ∨ shiftB k t = false) : shiftedB sg t k = false := by
  unfold shiftedB
  rcases h with h | h | h
  · rw [h]; rfl
  · rw [decide_eq_false h, Bool.and_false, Bool.false_and]
  · rw [h, Bool.and_false]
theorem shifted_yes {sg t : List Int} {k : Int} (h1 : termOkB sg t = true) (h2 : 0 ≤ k ∧ k ≤ 24) (h3 : shiftB k t = true) : shiftedB sg t k = true := by unfold shiftedB; rw [h1, h3, decide_eq_true h2]; rfl
theorem pairS_no {w w' : World} {sg t : List Int} {k : Int} {A : Option Addr} {c : Nat} (h : shiftedB sg t k = false) (hb : Below w.heap.size w w') : AnsPairS w (shiftedL sg t k) (shiftedB sg t k) (.returned (.tuple #[.slice A 0 c, .bool false])) w' :=
  ⟨A, 0, c, by rw [h], by unfold shiftedL; rw [if_neg (by rw [h]; simp)]; exact Seg.empty, hb⟩

/-- the head of the loop of spec.Shifted -/
def HeadSh (w : World) (m : Nat) (t : List Int) (k : Int) (out i : Value) (wr : World) : Prop :=
  ∃ (j : Nat) (O : Option Addr) (on oc : Nat), j ≤ m ∧ i = .int .i64 j ∧ out = .slice O on oc ∧ Own wr w.heap.size (.slice O on oc) (shiftL k (t.take j)) ∧ (∀ q, q < j → -24 ≤ sh k (t.getD q 0)) ∧ Below w.heap.size w wr

theorem pairO_no {w w' : World} {sg t : List Int} {k : Int} (h : shiftedB sg t k = false) (hb : Below w.heap.size w w') : AnsPairO w (shiftedL sg t k) (shiftedB sg t k) (.returned (.tuple #[.slice none 0 0, .bool false])) w' :=
  ⟨none, 0, 0, by rw [h], by unfold shiftedL; rw [if_neg (by rw [h]; simp)]; exact Own.nil _ _, hb⟩
theorem vt_len (i : Nat) : (vt i).length = 1 := rfl

end Go.Proofs.Ytdkjafjphgcbjaa.shifted
end

section
/-
  CONTRACTS: spec.l2Filled, spec.Filled, impl.Filled. Conditions: the slices read as lists ('Seg', 'Segs'), at most 1048576 values. By an AI agent.
-/
namespace Go.Proofs.Ytdkjafjphgcbjaa.filled
open Go.RowKit Go.Proofs.Ytdkjafjphgcbjaa.base Go.Proofs.Ytdkjafjphgcbjaa.ints Go.Proofs.Ytdkjafjphgcbjaa.sig Go.Proofs.Ytdkjafjphgcbjaa.cursor Go.Proofs.Ytdkjafjphgcbjaa.term Go.Proofs.Ytdkjafjphgcbjaa.termOk Go.Proofs.Ytdkjafjphgcbjaa.marks Go.Proofs.Ytdkjafjphgcbjaa.app Go.Proofs.Ytdkjafjphgcbjaa.appAt Go.Proofs.Ytdkjafjphgcbjaa.sym Go.Proofs.Ytdkjafjphgcbjaa.sub Go.Proofs.Ytdkjafjphgcbjaa.segs Go.Proofs.Ytdkjafjphgcbjaa.segsHelp Go.Proofs.Ytdkjafjphgcbjaa.termFacts Go.Proofs.Ytdkjafjphgcbjaa.varsMath Go.Proofs.Ytdkjafjphgcbjaa.varsOf Go.Proofs.Ytdkjafjphgcbjaa.fillMath Go.Proofs.Ytdkjafjphgcbjaa.look Go.Proofs.Ytdkjafjphgcbjaa.shifted Go.Proofs.Ytdkjafjphgcbjaa.substOk Go.Proofs.Ytdkjafjphgcbjaa.gives
set_option maxRecDepth 100000

/-- a whole slice appended, at a step of a region that draws -/
theorem stepAppAll {w : World} {ops : Array Oper} {o : Oper} {a : Act} {K : Act → World → Prop} {Q : Exit → Act → World → Prop} {E : Prop} (hgd : o.guard = none) (s x : Operand)
    (ho : o.op = .call { callee := .builtin .append, args := #[s, x], argTypes := #[24, 24] })
    (base : Nat) (A : Option Addr) (n c : Nat) (xs : List Int) (hs : a.eval s = .slice A n c) (hown : Own w base (.slice A n c) xs)
    (S : Option Addr) (m c2 B : Nat) (ys : List Int) (hx : a.eval x = .slice S m c2) (hseg : Seg w B S m ys) (hm1 : 1 ≤ m) (hn : n ≤ 2097152) (hm : m ≤ 2097152) (hbase : base ≤ w.heap.size)
    (h : ∀ g' c' w', Own w' base (.slice (some ⟨g', 0, none⟩) (n + m) c') (xs ++ ys) → w.grownBy w' (blk A) → (blk A = some g' ∨ g' = w.heap.size) → g' < w'.heap.size → K (a.put o.dst (.slice (some ⟨g', 0, none⟩) (n + m) c')) w') :
    if Region.wanted o (yielded ops a.tmps) = true then Oper.wp Try.prog o a w K Q else E := by
  obtain ⟨i0, hi, hz0, hz1, hz2⟩ := info_parts info_i64
  have hl : xs.length = n := by
    obtain ⟨A', c', e⟩ := hown.slice
    exact (Value.slice.inj e).2.1.symm
  have hob : (Value.slice A n c).ownBlock = blk A := by cases A <;> rfl
  obtain ⟨b, off, e, _, hc⟩ := hseg.2 (by omega)
  subst e
  refine step_append_lies w hgd s x 24 ho base 2 i0 (.int .i64 0) 1 8 Try.underlying24 hi hz0 hz1 hz2 rfl (by decide) (.slice A n c) n (xs.map (Value.int .i64)) hs (by rw [← hl]; rw [← hl] at hown; exact hown)
    ⟨b, off, none⟩ m c2 (ys.map (Value.int .i64)) hx (by simp [hseg.1]) (fun j u hj => ?_) (fun u hu => ?_) (by omega) (by unfold maxLen; omega) (by omega) hbase w.heap.size rfl ?_
  · have hjl : j < m := by
      have := (List.getElem?_eq_some_iff.1 hj).1
      simp at this
      have := hseg.1
      omega
    have hcj := hc j hjl
    have e2 : (⟨b, off, none⟩ : Addr).add j = ⟨b, off + j, none⟩ := by unfold Addr.add; split <;> simp_all
    rw [e2, hcj, ← hj]
    have := hseg.1
    simp [List.getD, show j < ys.length by omega]
  · obtain ⟨y, _, rfl⟩ := List.mem_map.1 hu
    rfl
  · intro g' c' w' hown' hg hat hlt
    rw [← List.map_append] at hown'
    rw [hob] at hg hat
    refine h g' c' w' ?_ hg hat hlt
    have hl2 : (xs ++ ys).length = n + m := by simp [hl, hseg.1]
    unfold Own
    rw [hl2]
    exact hown'

/-- what filling answers -/
def fitsB (ss : List (List Int)) (t : List Int) : Bool := decide ((fillL (givesL ss) t).length ≤ 60)
def fitL (ss : List (List Int)) (t : List Int) : List Int := if fitsB ss t = true then fillL (givesL ss) t else []
theorem fits_no {ss : List (List Int)} {t : List Int} {k : Nat} (h : 60 < (fillL (givesL ss) (t.take k)).length) : fitsB ss t = false := by
  have e : fillL (givesL ss) t = fillL (givesL ss) (t.take k) ++ fillL (givesL ss) (t.drop k) := by rw [← fill_append, List.take_append_drop]
  unfold fitsB
  rw [e, List.length_append]
  simp
  omega

/-- the head of l2Filled's loop -/
def HeadF (w : World) (S : Option Addr) (m c mt : Nat) (ss : List (List Int)) (t : List Int) (out i : Value) (wr : World) : Prop :=
  ∃ (k : Nat) (O : Option Addr) (on oc : Nat), k ≤ mt ∧ i = .int .i64 k ∧ out = .slice O on oc ∧ on ≤ 60 ∧ Own wr (w.heap.size + 1) (.slice O on oc) (fillL (givesL ss) (t.take k)) ∧ Row wr w.heap.size 159 #[.slice S m c] ∧ Below w.heap.size w wr
theorem pairF_no {w wr : World} {ss : List (List Int)} {t : List Int} (h : fitsB ss t = false) (hb : Below w.heap.size w wr) : AnsPairO w (fitL ss t) (fitsB ss t) (.returned (.tuple #[.slice (some ⟨wr.heap.size, 0, none⟩) 0 0, .bool false])) (wr.alloc (.cells #[] 2)) :=
  ⟨_, 0, 0, by rw [h], by unfold fitL; rw [if_neg (by rw [h]; simp)]; exact own_empty wr w.heap.size hb.size, hb.alloc hb.size _⟩

/-- what Filled answers -/
def filledB (sg : List Int) (ss : List (List Int)) (t : List Int) : Bool := substOkB sg ss && (termOkB sg t && fitsB ss t)
def filledL (sg : List Int) (ss : List (List Int)) (t : List Int) : List Int := if filledB sg ss t = true then fillL (givesL ss) t else []
theorem filled_s {sg : List Int} {ss : List (List Int)} {t : List Int} (h : substOkB sg ss = false) : filledB sg ss t = false := by unfold filledB; rw [h, Bool.false_and]
theorem filled_t {sg : List Int} {ss : List (List Int)} {t : List Int} (h : termOkB sg t = false) : filledB sg ss t = false := by unfold filledB; rw [h, Bool.false_and, Bool.and_false]
theorem filled_b {sg : List Int} {ss : List (List Int)} {t : List Int} (h : substOkB sg ss = true) (h' : termOkB sg t = true) : filledB sg ss t = fitsB ss t := by unfold filledB; rw [h, h', Bool.true_and, Bool.true_and]
theorem filled_l {sg : List Int} {ss : List (List Int)} {t : List Int} (h : substOkB sg ss = true) (h' : termOkB sg t = true) : filledL sg ss t = fitL ss t := by unfold filledL fitL; rw [filled_b h h']
theorem filled_len (sg : List Int) (ss : List (List Int)) (t : List Int) : (filledL sg ss t).length ≤ 60 := by
  unfold filledL filledB fitsB
  split
  · rename_i h
    simp only [Bool.and_eq_true, decide_eq_true_eq] at h
    exact h.2.2
  · simp
theorem pairSF_no {w wr : World} {sg : List Int} {ss : List (List Int)} {t : List Int} (h : filledB sg ss t = false) (hb : Below w.heap.size w wr) : AnsPairO w (filledL sg ss t) (filledB sg ss t) (.returned (.tuple #[.slice (some ⟨wr.heap.size, 0, none⟩) 0 0, .bool false])) (wr.alloc (.cells #[] 2)) :=
  ⟨_, 0, 0, by rw [h], by unfold filledL; rw [if_neg (by rw [h]; simp)]; exact own_empty wr w.heap.size hb.size, hb.alloc hb.size _⟩
theorem pairOF_no {w w' : World} {sg : List Int} {ss : List (List Int)} {t : List Int} (h : filledB sg ss t = false) (hb : Below w.heap.size w w') : AnsPairO w (filledL sg ss t) (filledB sg ss t) (.returned (.tuple #[.slice none 0 0, .bool false])) w' :=
  ⟨none, 0, 0, by rw [h], by unfold filledL; rw [if_neg (by rw [h]; simp)]; exact Own.nil _ _, hb⟩

end Go.Proofs.Ytdkjafjphgcbjaa.filled
end

section
/-
  CONTRACT of spec.l1Max. Conditions: none. By an AI agent.
-/
namespace Go.Proofs.Ytdkjafjphgcbjaa.maxi
open Go.RowKit Go.Proofs.Ytdkjafjphgcbjaa.base
end Go.Proofs.Ytdkjafjphgcbjaa.maxi
end

section
/-
  CONTRACTS: spec.Composed. Conditions: the slices read as lists ('Seg', 'Segs'), at most 1048576 values. (The region's walk by wip/tools/reg.py.) By an AI agent.
-/
namespace Go.Proofs.Ytdkjafjphgcbjaa.compSpec
open Go.RowKit Go.Proofs.Ytdkjafjphgcbjaa.base Go.Proofs.Ytdkjafjphgcbjaa.ints Go.Proofs.Ytdkjafjphgcbjaa.sig Go.Proofs.Ytdkjafjphgcbjaa.cursor Go.Proofs.Ytdkjafjphgcbjaa.marks Go.Proofs.Ytdkjafjphgcbjaa.app Go.Proofs.Ytdkjafjphgcbjaa.appAt Go.Proofs.Ytdkjafjphgcbjaa.sym Go.Proofs.Ytdkjafjphgcbjaa.segs Go.Proofs.Ytdkjafjphgcbjaa.segsHelp Go.Proofs.Ytdkjafjphgcbjaa.kinds Go.Proofs.Ytdkjafjphgcbjaa.termFacts Go.Proofs.Ytdkjafjphgcbjaa.fillMath Go.Proofs.Ytdkjafjphgcbjaa.substOk Go.Proofs.Ytdkjafjphgcbjaa.gives Go.Proofs.Ytdkjafjphgcbjaa.shifted Go.Proofs.Ytdkjafjphgcbjaa.filled Go.Proofs.Ytdkjafjphgcbjaa.plainMath Go.Proofs.Ytdkjafjphgcbjaa.plain Go.Proofs.Ytdkjafjphgcbjaa.plainOf Go.Proofs.Ytdkjafjphgcbjaa.compMath Go.Proofs.Ytdkjafjphgcbjaa.maxi
set_option maxRecDepth 100000

/-- a substitution of the call's own, and whether -/
def AnsSubB (w : World) (xss : List (List Int)) (b : Bool) (e : Ending) (w' : World) : Prop := ∃ A n c, e = .returned (.tuple #[.agg #[.slice A n c], .bool b]) ∧ Owns w' w.heap.size w'.heap.size A n c xss ∧ Below w.heap.size w w'
theorem subB_no {w w' : World} {sg : List Int} {ss us : List (List Int)} (h : composedB sg ss us = false) (hb : Below w.heap.size w w') : AnsSubB w (composedI sg ss us) (composedB sg ss us) (.returned (.tuple #[.agg #[.slice none 0 0], .bool false])) w' :=
  ⟨none, 0, 0, by rw [h], by rw [composed_no h]; exact Owns.nil _ _ _, hb⟩
/-- four boxes: three parameters and the result -/
theorem boxes4 (w : World) (A : Option Addr) (n c : Nat) (S : Option Addr) (m c' : Nat) (T : Option Addr) (q cq : Nat) : ∃ W, W = (((w.alloc (.cells #[.slice A n c] 26)).alloc (.cells #[.slice S m c'] 159)).alloc (.cells #[.slice T q cq] 159)).alloc (.cells #[.slice none 0 0] 159) ∧
    Row W w.heap.size 26 #[.slice A n c] ∧ Row W (w.heap.size + 1) 159 #[.slice S m c'] ∧ Row W (w.heap.size + 2) 159 #[.slice T q cq] ∧ Row W (w.heap.size + 3) 159 #[.slice none 0 0] ∧ Below w.heap.size w W := by
  obtain ⟨W, hW, r1, r2, b⟩ := boxes2 w A n c S m c'
  have hz : W.heap.size = w.heap.size + 2 := by rw [hW]; simp
  have hz2 : (W.alloc (.cells #[.slice T q cq] 159)).heap.size = w.heap.size + 3 := by simp [hz]
  refine ⟨_, rfl, ?_, ?_, ?_, ?_, ?_⟩
  · rw [← hW]; exact (r1.alloc _).alloc _
  · rw [← hW]; exact (r2.alloc _).alloc _
  · rw [← hW, ← hz]; exact (Row.new _ _ _).alloc _
  · rw [← hW, ← hz2]; exact Row.new _ _ _
  · rw [← hW]; exact (b.alloc b.size _).alloc (by simp; have := b.size; omega) _

/-- the head of the loop: the result so far lies in block o -/
def HeadC (w : World) (o M : Nat) (S : Option Addr) (m c : Nat) (T : Option Addr) (q cq : Nat) (ss us : List (List Int)) (i : Value) (wr : World) : Prop :=
  ∃ (k : Nat) (A : Option Addr) (cA : Nat), k ≤ M ∧ i = .int .i64 k ∧ (∀ j, j < k → (compL us ss j).length ≤ 60) ∧ Owns wr (o + 1) wr.heap.size A k cA (outL us ss k) ∧ Row wr (w.heap.size + 1) 159 #[.slice S m c] ∧ Row wr (w.heap.size + 2) 159 #[.slice T q cq] ∧
    Row wr (w.heap.size + 3) 159 #[.slice none 0 0] ∧ Row wr o 159 #[.slice A k cA] ∧ Below w.heap.size w wr
theorem headC_step {w wr w5 w6 : World} {S T A A' : Option Addr} {o M m c q cq k cA c' : Nat} {ss us : List (List Int)} (hk : k < M) (hoz : w.heap.size + 3 < o) (hlow : ∀ j, j < k → (compL us ss j).length ≤ 60) (hkk : (compL us ss k).length ≤ 60) (ho : Owns w6 (o + 1) w6.heap.size A' (k + 1) c' (outL us ss (k + 1)))
    (r1 : Row wr (w.heap.size + 1) 159 #[.slice S m c]) (r2 : Row wr (w.heap.size + 2) 159 #[.slice T q cq]) (r3 : Row wr (w.heap.size + 3) 159 #[.slice none 0 0]) (ro : Row wr o 159 #[.slice A k cA]) (hb : Below w.heap.size w wr)
    (bb : Below wr.heap.size wr w5) (hg : w5.grownBy w6 (blk A)) (hA : ∀ z, blk A = some z → o + 1 ≤ z) :
    HeadC w o M S m c T q cq ss us (.int .i64 ((k : Int) + 1)) (w6.setCell ⟨o, 0, none⟩ (.slice A' (k + 1) c')) := by
  have q1 := Row.away (r1.next bb) hg (fun e => by have := hA _ e; omega)
  have q2 := Row.away (r2.next bb) hg (fun e => by have := hA _ e; omega)
  have q3 := Row.away (r3.next bb) hg (fun e => by have := hA _ e; omega)
  have qo := Row.away (ro.next bb) hg (fun e => by have := hA _ e; omega)
  have hbb : Below w.heap.size w w6 := (hb.trans (bb.mono hb.size)).grown hg (by have := hb.size; have := bb.size; omega) (fun z hz => by have := hA z hz; omega)
  refine ⟨k + 1, A', c', hk, by simp, fun j hj => ?_, ?_, q1.far (by simp; omega) _, q2.far (by simp; omega) _, q3.far (by simp; omega) _, ?_, hbb.setCell (by simp; omega) _⟩
  · by_cases e : j = k
    · rw [e]; exact hkk
    · exact hlow j (by omega)
  · have := owns_put ho qo (by omega) 0 (.slice A' (k + 1) c')
    simpa using this
  · have := qo.put 0 (.slice A' (k + 1) c')
    simpa using this

end Go.Proofs.Ytdkjafjphgcbjaa.compSpec
end

section
/-
  CONTRACTS: impl.lookup.then and what it returns, impl.varTerm as a look-up. 'LooksE x': a look-up that goes on as it does whatever is written into block x. Conditions: the values of the first look-up are terms of at most 60 numbers. (The closure's region by wip/tools/reg.py.) By an AI agent.
-/
namespace Go.Proofs.Ytdkjafjphgcbjaa.thn
open Go.RowKit Go.Proofs.Ytdkjafjphgcbjaa.base Go.Proofs.Ytdkjafjphgcbjaa.ints Go.Proofs.Ytdkjafjphgcbjaa.cursor Go.Proofs.Ytdkjafjphgcbjaa.marks Go.Proofs.Ytdkjafjphgcbjaa.app Go.Proofs.Ytdkjafjphgcbjaa.sym Go.Proofs.Ytdkjafjphgcbjaa.segs Go.Proofs.Ytdkjafjphgcbjaa.fillMath Go.Proofs.Ytdkjafjphgcbjaa.look
set_option maxRecDepth 100000

/-- as 'Looks', and whatever is written into block x -/
def LooksE (x : Option Nat) (g : Nat) (lb : Array Value) (w : World) (L : Nat → List Int) (N : Nat) : Prop :=
  ∀ (W : World) (i : Nat), w.grownBy W x → i < N → Calls Try.prog g (#[.int .i64 (i : Int)] ++ lb) W (AnsLook w.heap.size W (L i))
section
variable {x : Option Nat} {g : Nat} {lb : Array Value} {w w' : World} {L L' : Nat → List Int} {N : Nat}
theorem LooksE.next (h : LooksE x g lb w L N) (hg : w.grownBy w' x) : LooksE x g lb w' L N :=
  fun W i hW hi => (h W i (grown_trans hg hW) hi).mono fun _ _ ⟨A, n, c, he, h1, h2, h3, h4⟩ => ⟨A, n, c, he, h1, h2, fun k hk => by have := h3 k hk; have := hg.size; omega, h4⟩
theorem LooksE.looks (h : LooksE x g lb w L N) : Looks g lb w L N := fun W i hW hi => h W i (grown_below hW x) hi
theorem LooksE.ext (h : LooksE x g lb w L N) (e : ∀ i, i < N → L i = L' i) : LooksE x g lb w L' N := fun W i hW hi => by rw [← e i hi]; exact h W i hW hi
theorem grown_drew {a b : World} {r : Option Nat} (h : a.grownBy b r) : a.grownBy b.drew r := ⟨h.os, h.tape, h.output, h.size, h.block⟩
theorem lookVar (x : Option Nat) (w : World) : LooksE x 102 #[] w vt 24 := fun W i _ hi =>
  (varTerm (i : Int) W (by omega) (by omega)).mono fun _ _ ⟨A, n, c, he, ho, hb⟩ => by subst he; exact look_new ho hb
end
end Go.Proofs.Ytdkjafjphgcbjaa.thn
end

section
/-
  CONTRACTS: slices.IndexFunc, slices.ContainsFunc over impl.tooLong, the closure of impl.Composed, impl.Composed. Conditions: the slices read as lists ('Seg', 'Segs'), at most 1048576 values. (The closure's region by wip/tools/reg.py.) By an AI agent.
-/
namespace Go.Proofs.Ytdkjafjphgcbjaa.compImpl
open Go.RowKit Go.Proofs.Ytdkjafjphgcbjaa.base Go.Proofs.Ytdkjafjphgcbjaa.ints Go.Proofs.Ytdkjafjphgcbjaa.sig Go.Proofs.Ytdkjafjphgcbjaa.cursor Go.Proofs.Ytdkjafjphgcbjaa.marks Go.Proofs.Ytdkjafjphgcbjaa.app Go.Proofs.Ytdkjafjphgcbjaa.appAt Go.Proofs.Ytdkjafjphgcbjaa.sym Go.Proofs.Ytdkjafjphgcbjaa.segs Go.Proofs.Ytdkjafjphgcbjaa.segsHelp Go.Proofs.Ytdkjafjphgcbjaa.kinds Go.Proofs.Ytdkjafjphgcbjaa.termFacts Go.Proofs.Ytdkjafjphgcbjaa.fillMath Go.Proofs.Ytdkjafjphgcbjaa.look Go.Proofs.Ytdkjafjphgcbjaa.substOk Go.Proofs.Ytdkjafjphgcbjaa.gives Go.Proofs.Ytdkjafjphgcbjaa.shifted Go.Proofs.Ytdkjafjphgcbjaa.filled Go.Proofs.Ytdkjafjphgcbjaa.plainMath Go.Proofs.Ytdkjafjphgcbjaa.plain Go.Proofs.Ytdkjafjphgcbjaa.plainOf Go.Proofs.Ytdkjafjphgcbjaa.compMath Go.Proofs.Ytdkjafjphgcbjaa.compSpec Go.Proofs.Ytdkjafjphgcbjaa.thn
set_option maxRecDepth 100000

def AnsIdx (w : World) (xss : List (List Int)) (e : Ending) (w' : World) : Prop := w = w' ∧ ∃ z : Int, e = .returned (.int .i64 z) ∧ -1 ≤ z ∧ z ≤ 1048576 ∧ decide (0 ≤ z) = anyLong xss
def HeadIdx (w : World) (n : Nat) (xss : List (List Int)) (i : Value) (wr : World) : Prop := ∃ k : Nat, k ≤ n ∧ i = .int .i64 k ∧ (∀ j, j < k → ¬ 60 < (xss.getD j []).length) ∧ w = wr

/-- what lies behind the result's making: its variable -/
def Got (w : World) (F : List (List Int)) (p : Value) (wx : World) : Prop :=
  ∃ (b : Nat) (O : Option Addr) (on oc : Nat), p = .pointer (some ⟨b, 0, none⟩) ∧ Row wx b 159 #[.slice O on oc] ∧ Owns wx w.heap.size wx.heap.size O on oc F ∧ w.heap.size ≤ b ∧ Below w.heap.size w wx
theorem got_after {w w1 w2 : World} {F : List (List Int)} {O : Option Addr} {on oc : Nat} (b1 : Below w.heap.size w w1) (ho : Owns w2 w1.heap.size w2.heap.size O on oc F) (b2 : Below w1.heap.size w1 w2) : Got w F (.pointer (some ⟨w2.heap.size, 0, none⟩)) (w2.alloc (.cells #[.slice O on oc] 159)) :=
  have B : Below w2.heap.size w2 (w2.alloc (.cells #[.slice O on oc] 159)) := (Below.refl _ _).alloc (Nat.le_refl _) _
  ⟨_, O, on, oc, rfl, Row.new _ _ _, (ho.next B).wider b1.size (by simp), Nat.le_trans b1.size b2.size, next_trans b1 (next_trans b2 B)⟩
theorem got_ahead {w w1 w2 : World} {F : List (List Int)} {O : Option Addr} {on oc b : Nat} (b1 : Below w.heap.size w w1) (hb : w.heap.size ≤ b) (r2 : Row w2 b 159 #[.slice none 0 0]) (hlt : b < w1.heap.size) (ho : Owns w2 w1.heap.size w2.heap.size O on oc F) (b2 : Below w1.heap.size w1 w2) : Got w F (.pointer (some ⟨b, 0, none⟩)) (w2.setCell ⟨b, 0, none⟩ (.slice O on oc)) :=
  ⟨b, O, on, oc, rfl, by have := r2.put 0 (.slice O on oc); simpa using this, (owns_put ho r2 hlt 0 _).wider b1.size (by simp), hb, (next_trans b1 b2).setCell hb _⟩
theorem sz_alloc (w : World) (o : Obj) : (w.alloc o).heap.size = w.heap.size + 1 := by simp
theorem sz_drew (w : World) : w.drew.heap.size = w.heap.size := rfl
theorem row_top {w : World} {t : TypeId} {cs : Array Value} {n : Nat} (hn : n = w.heap.size) : Row (w.alloc (.cells cs t)) n t cs := by subst hn; exact Row.new _ _ _
theorem row_alloc {w : World} {o : Obj} {t : TypeId} {cs : Array Value} {n : Nat} (h : Row w n t cs) : Row (w.alloc o) n t cs := h.alloc o
theorem row_drew {w : World} {t : TypeId} {cs : Array Value} {n : Nat} (h : Row w n t cs) : Row w.drew n t cs := h.drew
theorem keep_alloc {w : World} {a : Addr} {v : Value} {o : Obj} (h : w.cell? a = some v) : (w.alloc o).cell? a = some v := (World.cell?_alloc_some w a o (by rw [h]; rfl)).trans h
theorem cell_top {w : World} {v : Value} {t : TypeId} {n : Nat} (hn : n = w.heap.size) : (w.alloc (.cells #[v] t)).cell? ⟨n, 0, none⟩ = some v := by subst hn; simp
theorem keep_set {w : World} {p a : Addr} {u v : Value} (hne : p.block ≠ a.block) (h : w.cell? a = some v) : (w.setCell p u).cell? a = some v := (World.cell?_setCell_far w p a u hne).trans h

end Go.Proofs.Ytdkjafjphgcbjaa.compImpl
end

section
/-
  CONTRACT: spec.l6Known: one of seven systems. Conditions: none. Written by a program of mine (mkknown.py). By an AI agent.
-/
namespace Go.Proofs.Ytdkjafjphgcbjaa.drawKnown
open Go.RowKit Go.Proofs.Ytdkjafjphgcbjaa.base Go.Proofs.Ytdkjafjphgcbjaa.ints Go.Proofs.Ytdkjafjphgcbjaa.sig Go.Proofs.Ytdkjafjphgcbjaa.term Go.Proofs.Ytdkjafjphgcbjaa.cursor Go.Proofs.Ytdkjafjphgcbjaa.marks Go.Proofs.Ytdkjafjphgcbjaa.app Go.Proofs.Ytdkjafjphgcbjaa.appAt Go.Proofs.Ytdkjafjphgcbjaa.sym Go.Proofs.Ytdkjafjphgcbjaa.segs Go.Proofs.Ytdkjafjphgcbjaa.dice Go.Proofs.Ytdkjafjphgcbjaa.drawSig Go.Proofs.Ytdkjafjphgcbjaa.drawTerm Go.Proofs.Ytdkjafjphgcbjaa.drawAny Go.Proofs.Ytdkjafjphgcbjaa.drawSub Go.Proofs.Ytdkjafjphgcbjaa.drawS Go.Proofs.Ytdkjafjphgcbjaa.drawX Go.Proofs.Ytdkjafjphgcbjaa.drawRule Go.Proofs.Ytdkjafjphgcbjaa.compImpl
open Go.Proofs.Ytdkjafjphgcbjaa.shape (Sh Dat nc dft sI sz)
open Go.Proofs.Ytdkjafjphgcbjaa.kindsR (sRule)
set_option maxRecDepth 100000

/-- at most M rules of short sides -/
def SmallD (M : Nat) (D : List (Dat sRule)) : Prop := D.length ≤ M ∧ ∀ j, ((D.getD j (dft sRule)).1 : List Int).length ≤ 65 ∧ ((D.getD j (dft sRule)).2 : List Int).length ≤ 65
/-- what l6Known leaves: a system of the call's own -/
def AnsKnown (w : World) (e : Ending) (w' : World) : Prop :=
  ∃ S sn sc R rn rc D, e = .returned (.agg #[.slice S sn sc, .slice R rn rc]) ∧ Own w' w.heap.size (.slice S sn sc) [2, 1, 0] ∧ blk S ≠ blk R ∧ (∀ p, p < w.heap.size → OwnQ w' p w.heap.size 35 sRule R rn rc D) ∧ SmallD 3 D ∧ Below w.heap.size w w'
/-- a literal rule: the blocks and the numbers of its sides -/
abbrev Lit := (Nat × List Int) × (Nat × List Int)
def vsOf : List Lit → List Value
  | [] => []
  | r :: rs => .slice (some ⟨r.1.1, 0, none⟩) r.1.2.length r.1.2.length :: .slice (some ⟨r.2.1, 0, none⟩) r.2.2.length r.2.2.length :: vsOf rs
def dOf (RS : List Lit) : List (Dat sRule) := RS.map fun r => ((r.1.2, r.2.2) : List Int × List Int)
def nums (xs : List Int) : Array Value := (xs.map (Value.int .i64)).toArray
theorem vs_len : ∀ RS : List Lit, (vsOf RS).length = RS.length * 2
  | [] => rfl
  | _ :: rs => by simp only [vsOf, List.length_cons, vs_len rs]; omega
theorem cells_vs : ∀ {RS : List Lit} {j : Nat} {r : Lit}, RS[j]? = some r → cellsOf 2 (vsOf RS) j = [.slice (some ⟨r.1.1, 0, none⟩) r.1.2.length r.1.2.length, .slice (some ⟨r.2.1, 0, none⟩) r.2.2.length r.2.2.length]
  | [], j, _, h => by simp at h
  | _ :: _, 0, _, h => by simp at h; subst h; rfl
  | _ :: rs, j + 1, r, h => by
    have h1 : rs[j]? = some r := by simpa using h
    have h2 := cells_vs h1
    unfold cellsOf at h2 ⊢
    rw [show (j + 1) * 2 = (j * 2 + 1) + 1 by omega]
    exact h2
theorem lit_seg {w : World} {Q : Nat → Prop} {g : Nat} {xs : List Int} (h : Row w g 2 (nums xs)) (hl : xs.length ≤ 65) (hQ : Q g) : RdQ w Q sI [.slice (some ⟨g, 0, none⟩) xs.length xs.length] xs :=
  rdq_seg rfl ⟨Nat.le_refl _, by omega, fun e => by cases e⟩ fun _ => ⟨g, 0, rfl, hQ, fun j hj => by
    rw [Nat.zero_add, Row.cell (t := 2) (cs := nums xs) h]
    simp [nums, List.getD, hj]⟩
theorem known_of {w W : World} (gR : Nat) (RS : List Lit) (hS : Row W (w.heap.size + 1) 2 (nums [2, 1, 0])) (hR : Row W gR 35 (vsOf RS).toArray) (hg : w.heap.size + 1 < gR) (hn : RS.length ≤ 3) (hn0 : RS ≠ [])
    (h : ∀ r ∈ RS, Row W r.1.1 2 (nums r.1.2) ∧ Row W r.2.1 2 (nums r.2.2) ∧ w.heap.size < r.1.1 ∧ r.1.1 < gR ∧ w.heap.size < r.2.1 ∧ r.2.1 < gR ∧ r.1.2.length ≤ 65 ∧ r.2.2.length ≤ 65) (hb : Below w.heap.size w W) :
    AnsKnown w (.returned (.agg #[.slice (some ⟨w.heap.size + 1, 0, none⟩) 3 3, .slice (some ⟨gR, 0, none⟩) RS.length RS.length])) W := by
  have hz := hR.lt
  refine ⟨_, _, _, _, _, _, dOf RS, rfl, Own.of_row hS rfl rfl (Nat.le_refl _) (by omega) (by omega) (fun j hj => ?_), fun e => ?_, fun p hp => ⟨by simp [dOf], vsOf RS, ?_, fun j hj => ?_⟩, ⟨by simpa [dOf] using hn, fun j => ?_⟩, hb⟩
  · match j, hj with
    | 0, _ => rfl
    | 1, _ => rfl
    | 2, _ => rfl
  · injection e with e
    have e : w.heap.size + 1 = gR := e
    omega
  · refine ⟨by rw [vs_len]; rfl, .inr ⟨gR, RS.length, _, rfl, by omega, hR, Nat.le_refl _, by unfold maxLen; omega, by rw [List.size_toArray, vs_len]; rfl, ?_⟩⟩
    rw [List.take_of_length_le (by rw [vs_len]; exact Nat.le_refl _)]
  · obtain ⟨r, hr⟩ : ∃ r, RS[j]? = some r := ⟨RS[j], by simp [hj]⟩
    obtain ⟨h1, h2, h3, h4, h5, h6, h7, h8⟩ := h r (List.mem_of_getElem? hr)
    rw [show nc sRule = 2 from rfl, cells_vs hr]
    have e : (dOf RS).getD j (dft sRule) = ((r.1.2, r.2.2) : List Int × List Int) := by simp [dOf, List.getD, hr]
    rw [e]
    have ne : ∀ g, g < gR → some g ≠ blk (some ⟨gR, 0, none⟩) := fun g hg e => by injection e with e; have e : g = gR := e; omega
    exact RdQ.cat (ca := [_]) (cb := [_]) (lit_seg h1 h7 ⟨by omega, by omega, ne _ h4⟩) (lit_seg h2 h8 ⟨by omega, by omega, ne _ h6⟩)
  · cases hr : RS[j]? with
    | none =>
      have e : (dOf RS).getD j (dft sRule) = dft sRule := by simp [dOf, List.getD, hr]
      rw [e]
      exact ⟨Nat.zero_le _, Nat.zero_le _⟩
    | some r =>
      have e : (dOf RS).getD j (dft sRule) = ((r.1.2, r.2.2) : List Int × List Int) := by simp [dOf, List.getD, hr]
      obtain ⟨h1, h2, h3, h4, h5, h6, h7, h8⟩ := h r (List.mem_of_getElem? hr)
      rw [e]
      exact ⟨h7, h8⟩

set_option maxHeartbeats 2000000 in
theorem known (k : Int) (w : World) :
    Calls Try.prog 112 #[.int .i64 k] w (AnsKnown w) := by
  by_cases h0 : k = 0
  · subst h0
    go_enter Try.func112, Try.ntmps112
    go_wp2
    refine bodyPost_ret (v := .agg #[.slice (some ⟨w.heap.size + 1, 0, none⟩) 3 3, .slice (some ⟨w.heap.size + 7, 0, none⟩) 2 2]) (by simp [results, Try.results112, go_sem]) rfl ?_
    refine known_of (w.heap.size + 7) [((w.heap.size + 3, [0, 2, -1]), (w.heap.size + 4, [-1])), ((w.heap.size + 5, [0, 1, -1, -2]), (w.heap.size + 6, [1, 0, -1, -2]))] (by repeat (first | ((refine row_top ?_); ((try simp only [sz_alloc]) <;> omega); done) | (refine row_alloc ?_))) (by repeat (first | ((refine row_top ?_); ((try simp only [sz_alloc]) <;> omega); done) | (refine row_alloc ?_))) (by omega) (by simp) (by simp) ?_ (by repeat (first | (exact Below.refl _ _) | (refine Below.alloc ?_ (by simp; try omega) _)))
    intro r hr
    simp only [List.mem_cons, List.not_mem_nil, or_false] at hr
    rcases hr with rfl | rfl
    all_goals exact ⟨(by repeat (first | ((refine row_top ?_); ((try simp only [sz_alloc]) <;> omega); done) | (refine row_alloc ?_))), (by repeat (first | ((refine row_top ?_); ((try simp only [sz_alloc]) <;> omega); done) | (refine row_alloc ?_))), by simp, by simp, by simp, by simp, by simp, by simp⟩
  by_cases h1 : k = 1
  · subst h1
    clear h0
    go_enter Try.func112, Try.ntmps112
    go_wp2
    refine bodyPost_ret (v := .agg #[.slice (some ⟨w.heap.size + 1, 0, none⟩) 3 3, .slice (some ⟨w.heap.size + 5, 0, none⟩) 1 1]) (by simp [results, Try.results112, go_sem]) rfl ?_
    refine known_of (w.heap.size + 5) [((w.heap.size + 3, [0, 0, -1, -2, -3]), (w.heap.size + 4, [0, -1, 0, -2, -3]))] (by repeat (first | ((refine row_top ?_); ((try simp only [sz_alloc]) <;> omega); done) | (refine row_alloc ?_))) (by repeat (first | ((refine row_top ?_); ((try simp only [sz_alloc]) <;> omega); done) | (refine row_alloc ?_))) (by omega) (by simp) (by simp) ?_ (by repeat (first | (exact Below.refl _ _) | (refine Below.alloc ?_ (by simp; try omega) _)))
    intro r hr
    simp only [List.mem_cons, List.not_mem_nil, or_false] at hr
    subst hr
    all_goals exact ⟨(by repeat (first | ((refine row_top ?_); ((try simp only [sz_alloc]) <;> omega); done) | (refine row_alloc ?_))), (by repeat (first | ((refine row_top ?_); ((try simp only [sz_alloc]) <;> omega); done) | (refine row_alloc ?_))), by simp, by simp, by simp, by simp, by simp, by simp⟩
  by_cases h2 : k = 2
  · subst h2
    clear h0 h1
    go_enter Try.func112, Try.ntmps112
    go_wp2
    refine bodyPost_ret (v := .agg #[.slice (some ⟨w.heap.size + 1, 0, none⟩) 3 3, .slice (some ⟨w.heap.size + 5, 0, none⟩) 1 1]) (by simp [results, Try.results112, go_sem]) rfl ?_
    refine known_of (w.heap.size + 5) [((w.heap.size + 3, [1, 1, -1]), (w.heap.size + 4, [-1]))] (by repeat (first | ((refine row_top ?_); ((try simp only [sz_alloc]) <;> omega); done) | (refine row_alloc ?_))) (by repeat (first | ((refine row_top ?_); ((try simp only [sz_alloc]) <;> omega); done) | (refine row_alloc ?_))) (by omega) (by simp) (by simp) ?_ (by repeat (first | (exact Below.refl _ _) | (refine Below.alloc ?_ (by simp; try omega) _)))
    intro r hr
    simp only [List.mem_cons, List.not_mem_nil, or_false] at hr
    subst hr
    all_goals exact ⟨(by repeat (first | ((refine row_top ?_); ((try simp only [sz_alloc]) <;> omega); done) | (refine row_alloc ?_))), (by repeat (first | ((refine row_top ?_); ((try simp only [sz_alloc]) <;> omega); done) | (refine row_alloc ?_))), by simp, by simp, by simp, by simp, by simp, by simp⟩
  by_cases h3 : k = 3
  · subst h3
    clear h0 h1 h2
    go_enter Try.func112, Try.ntmps112
    go_wp2
    refine bodyPost_ret (v := .agg #[.slice (some ⟨w.heap.size + 1, 0, none⟩) 3 3, .slice (some ⟨w.heap.size + 5, 0, none⟩) 1 1]) (by simp [results, Try.results112, go_sem]) rfl ?_
    refine known_of (w.heap.size + 5) [((w.heap.size + 3, [1, -1]), (w.heap.size + 4, [1, 1, -1]))] (by repeat (first | ((refine row_top ?_); ((try simp only [sz_alloc]) <;> omega); done) | (refine row_alloc ?_))) (by repeat (first | ((refine row_top ?_); ((try simp only [sz_alloc]) <;> omega); done) | (refine row_alloc ?_))) (by omega) (by simp) (by simp) ?_ (by repeat (first | (exact Below.refl _ _) | (refine Below.alloc ?_ (by simp; try omega) _)))
    intro r hr
    simp only [List.mem_cons, List.not_mem_nil, or_false] at hr
    subst hr
    all_goals exact ⟨(by repeat (first | ((refine row_top ?_); ((try simp only [sz_alloc]) <;> omega); done) | (refine row_alloc ?_))), (by repeat (first | ((refine row_top ?_); ((try simp only [sz_alloc]) <;> omega); done) | (refine row_alloc ?_))), by simp, by simp, by simp, by simp, by simp, by simp⟩
  by_cases h4 : k = 4
  · subst h4
    clear h0 h1 h2 h3
    go_enter Try.func112, Try.ntmps112
    go_wp2
    refine bodyPost_ret (v := .agg #[.slice (some ⟨w.heap.size + 1, 0, none⟩) 3 3, .slice (some ⟨w.heap.size + 7, 0, none⟩) 2 2]) (by simp [results, Try.results112, go_sem]) rfl ?_
    refine known_of (w.heap.size + 7) [((w.heap.size + 3, [0, -1, -2]), (w.heap.size + 4, [-1])), ((w.heap.size + 5, [0, -1, -2]), (w.heap.size + 6, [-2]))] (by repeat (first | ((refine row_top ?_); ((try simp only [sz_alloc]) <;> omega); done) | (refine row_alloc ?_))) (by repeat (first | ((refine row_top ?_); ((try simp only [sz_alloc]) <;> omega); done) | (refine row_alloc ?_))) (by omega) (by simp) (by simp) ?_ (by repeat (first | (exact Below.refl _ _) | (refine Below.alloc ?_ (by simp; try omega) _)))
    intro r hr
    simp only [List.mem_cons, List.not_mem_nil, or_false] at hr
    rcases hr with rfl | rfl
    all_goals exact ⟨(by repeat (first | ((refine row_top ?_); ((try simp only [sz_alloc]) <;> omega); done) | (refine row_alloc ?_))), (by repeat (first | ((refine row_top ?_); ((try simp only [sz_alloc]) <;> omega); done) | (refine row_alloc ?_))), by simp, by simp, by simp, by simp, by simp, by simp⟩
  by_cases h5 : k = 5
  · subst h5
    clear h0 h1 h2 h3 h4
    go_enter Try.func112, Try.ntmps112
    go_wp2
    refine bodyPost_ret (v := .agg #[.slice (some ⟨w.heap.size + 1, 0, none⟩) 3 3, .slice (some ⟨w.heap.size + 5, 0, none⟩) 1 1]) (by simp [results, Try.results112, go_sem]) rfl ?_
    refine known_of (w.heap.size + 5) [((w.heap.size + 3, [0, -1, -2]), (w.heap.size + 4, [0, -2, -1]))] (by repeat (first | ((refine row_top ?_); ((try simp only [sz_alloc]) <;> omega); done) | (refine row_alloc ?_))) (by repeat (first | ((refine row_top ?_); ((try simp only [sz_alloc]) <;> omega); done) | (refine row_alloc ?_))) (by omega) (by simp) (by simp) ?_ (by repeat (first | (exact Below.refl _ _) | (refine Below.alloc ?_ (by simp; try omega) _)))
    intro r hr
    simp only [List.mem_cons, List.not_mem_nil, or_false] at hr
    subst hr
    all_goals exact ⟨(by repeat (first | ((refine row_top ?_); ((try simp only [sz_alloc]) <;> omega); done) | (refine row_alloc ?_))), (by repeat (first | ((refine row_top ?_); ((try simp only [sz_alloc]) <;> omega); done) | (refine row_alloc ?_))), by simp, by simp, by simp, by simp, by simp, by simp⟩
  go_enter Try.func112, Try.ntmps112
  go_wp2
  refine bodyPost_ret (v := .agg #[.slice (some ⟨w.heap.size + 1, 0, none⟩) 3 3, .slice (some ⟨w.heap.size + 9, 0, none⟩) 3 3]) (by simp [results, Try.results112, go_sem]) rfl ?_
  refine known_of (w.heap.size + 9) [((w.heap.size + 3, [0, 2, -1]), (w.heap.size + 4, [-1])), ((w.heap.size + 5, [0, 1, -1, -1]), (w.heap.size + 6, [2])), ((w.heap.size + 7, [0, 0, -1, -2, -3]), (w.heap.size + 8, [0, -1, 0, -2, -3]))] (by repeat (first | ((refine row_top ?_); ((try simp only [sz_alloc]) <;> omega); done) | (refine row_alloc ?_))) (by repeat (first | ((refine row_top ?_); ((try simp only [sz_alloc]) <;> omega); done) | (refine row_alloc ?_))) (by omega) (by simp) (by simp) ?_ (by repeat (first | (exact Below.refl _ _) | (refine Below.alloc ?_ (by simp; try omega) _)))
  intro r hr
  simp only [List.mem_cons, List.not_mem_nil, or_false] at hr
  rcases hr with rfl | rfl | rfl
  all_goals exact ⟨(by repeat (first | ((refine row_top ?_); ((try simp only [sz_alloc]) <;> omega); done) | (refine row_alloc ?_))), (by repeat (first | ((refine row_top ?_); ((try simp only [sz_alloc]) <;> omega); done) | (refine row_alloc ?_))), by simp, by simp, by simp, by simp, by simp, by simp⟩
end Go.Proofs.Ytdkjafjphgcbjaa.drawKnown
end

section
/-
  CONTRACT: spec.l6Draw: a drawn right system, known or by dice. Conditions: a drawing cursor ('Dice'). By an AI agent.
-/
namespace Go.Proofs.Ytdkjafjphgcbjaa.drawSys
open Go.RowKit Go.Proofs.Ytdkjafjphgcbjaa.base Go.Proofs.Ytdkjafjphgcbjaa.ints Go.Proofs.Ytdkjafjphgcbjaa.sig Go.Proofs.Ytdkjafjphgcbjaa.term Go.Proofs.Ytdkjafjphgcbjaa.cursor Go.Proofs.Ytdkjafjphgcbjaa.marks Go.Proofs.Ytdkjafjphgcbjaa.app Go.Proofs.Ytdkjafjphgcbjaa.appAt Go.Proofs.Ytdkjafjphgcbjaa.sym Go.Proofs.Ytdkjafjphgcbjaa.dice Go.Proofs.Ytdkjafjphgcbjaa.drawSig Go.Proofs.Ytdkjafjphgcbjaa.drawTerm Go.Proofs.Ytdkjafjphgcbjaa.drawAny Go.Proofs.Ytdkjafjphgcbjaa.drawSub Go.Proofs.Ytdkjafjphgcbjaa.drawS Go.Proofs.Ytdkjafjphgcbjaa.drawX Go.Proofs.Ytdkjafjphgcbjaa.drawRule Go.Proofs.Ytdkjafjphgcbjaa.drawKnown
open Go.Proofs.Ytdkjafjphgcbjaa.shape (Sh Dat nc dft sI sz)
open Go.Proofs.Ytdkjafjphgcbjaa.kindsR (sRule info_RuleS)
set_option maxRecDepth 100000

/-- numbers do not lie where slices lie -/
theorem ints_ne {w : World} {Q : Nat → Prop} {N : Nat} {t : TypeId} {cs : List Value} {xs : List Int} {a1 a2 : Option Addr} {l1 k1 l2 k2 : Nat} (h : RdQ w Q sI cs xs) (hN : Row w N t #[.slice a1 l1 k1, .slice a2 l2 k2]) : RdQ w (fun b => Q b ∧ b ≠ N) sI cs xs := by
  obtain ⟨A, n, c, e, hc, hl, h1⟩ := h
  refine ⟨A, n, c, e, hc, hl, fun hn => ?_⟩
  obtain ⟨b, off, e2, hb, h2⟩ := h1 hn
  refine ⟨b, off, e2, ⟨hb, fun e3 => ?_⟩, h2⟩
  subst e3
  obtain ⟨es, he, hp, hr⟩ := h2 0 hn
  have hr : es = [.int .i64 (xs.getD 0 0)] := hr
  subst hr
  have h3 := hp 0 (by simp)
  rw [show off + 0 * nc .num + 0 = off by simp] at h3
  rw [Row.cell (t := t) (cs := #[.slice a1 l1 k1, .slice a2 l2 k2]) hN] at h3
  match off, h3 with
  | 0, h3 => simp at h3
  | 1, h3 => simp at h3
  | off + 2, h3 => simp at h3
theorem rule_ne {w : World} {Q : Nat → Prop} {N : Nat} {t : TypeId} {cs : List Value} {d : Dat sRule} {a1 a2 : Option Addr} {l1 k1 l2 k2 : Nat} (h : RdQ w Q sRule cs d) (hN : Row w N t #[.slice a1 l1 k1, .slice a2 l2 k2]) : RdQ w (fun b => Q b ∧ b ≠ N) sRule cs d := by
  obtain ⟨ca, cb, e, h1, h2⟩ := h
  exact ⟨ca, cb, e, ints_ne h1 hN, ints_ne h2 hN⟩
theorem ints_put {w : World} {p : Nat} {r : Option Nat} {N : Nat} {t : TypeId} {cs : List Value} {xs : List Int} {a1 a2 : Option Addr} {l1 k1 l2 k2 : Nat} (h : RdQ w (OutR w p r) sI cs xs) (hN : Row w N t #[.slice a1 l1 k1, .slice a2 l2 k2]) (i : Nat) (u : Value) : RdQ (w.setCell ⟨N, i, none⟩ u) (OutR (w.setCell ⟨N, i, none⟩ u) p r) sI cs xs :=
  ((ints_ne h hN).keep fun b hb => Below.heap_setCell w _ u b hb.2).mono fun b hb => ⟨by simpa using hb.1.1, hb.1.2⟩
theorem ownQ_put {w : World} {p lo : Nat} {e : TypeId} {A : Option Addr} {n c : Nat} {D : List (Dat sRule)} {N : Nat} {t : TypeId} {a1 a2 : Option Addr} {l1 k1 l2 k2 : Nat} (h : OwnQ w p lo e sRule A n c D) (hN : Row w N t #[.slice a1 l1 k1, .slice a2 l2 k2]) (hA : blk A ≠ some N) (i : Nat) (u : Value) : OwnQ (w.setCell ⟨N, i, none⟩ u) p lo e sRule A n c D := by
  obtain ⟨h1, vs, h2, h3⟩ := h
  refine ⟨h1, vs, World.ownsRow.kept h2 (grown_put (World.grownBy.refl w _) i u) (.inr (by rw [blk_own]; exact hA)), fun j hj => ?_⟩
  exact ((rule_ne (h3 j hj) hN).keep fun b hb => Below.heap_setCell w _ u b hb.2).mono fun b hb => ⟨by simpa using hb.1.1, hb.1.2⟩
/-- a list that may be read -/
theorem rd_of {w : World} {p : Nat} {r : Option Nat} {S : Option Addr} {sn sc : Nat} {sg : List Int} (h : RdQ w (OutR w p r) sI [.slice S sn sc] sg) : Go.Proofs.Ytdkjafjphgcbjaa.drawTerm.Rd w p w.heap.size S sn sg := by
  obtain ⟨A, n, c, e, hc, hl, h1⟩ := h
  injection e with e _
  injection e with e1 e2 e3
  subst e1 e2 e3
  refine ⟨hl, fun hn => ?_⟩
  obtain ⟨b, off, e2, hb, h2⟩ := h1 hn
  refine ⟨b, off, e2, hb.1, hb.2.1, fun j hj => ?_⟩
  obtain ⟨es, he, hp, hr⟩ := h2 j hj
  have hr : es = [.int .i64 (sg.getD j 0)] := hr
  subst hr
  have h3 := hp 0 (by simp)
  simpa [nc] using h3

/-- what a draw of a system leaves -/
def AnsSys (w : World) (p : Nat) (A : Option Addr) (n c M : Nat) (e : Ending) (w' : World) : Prop :=
  ∃ S sn sc sg R rn rc D, e = .returned (.agg #[.slice S sn sc, .slice R rn rc]) ∧ RdQ w' (OutR w' p (blk R)) sI [.slice S sn sc] (sg : List Int) ∧ sg.length ≤ 9 ∧ OwnQ w' p w.heap.size 35 sRule R rn rc D ∧ SmallD M D ∧ Dice w' p A n c ∧ w.grownBy w' (some p)
structure Y0 (w : World) (p : Nat) (A : Option Addr) (n c : Nat) (wr : World) : Prop where
  d : Dice wr p A n c
  rN : Row wr w.heap.size 29 #[.slice none 0 0, .slice none 0 0]
  g : w.grownBy wr (some p)
  hp : p < w.heap.size
structure YA (w : World) (p : Nat) (A : Option Addr) (n c : Nat) (o : Nat) (S : Option Addr) (sn sc : Nat) (sg : List Int) (R : Option Addr) (rn rc : Nat) (D : List (Dat sRule)) (wr : World) : Prop where
  z : Y0 w p A n c wr
  rO : Row wr o 29 #[.slice S sn sc, .slice R rn rc]
  s : RdQ wr (OutR wr p (blk R)) sI [.slice S sn sc] sg
  own : OwnQ wr p (w.heap.size + 1) 35 sRule R rn rc D
  hR : blk R ≠ some o
  ho : w.heap.size < o
section
variable {w : World} {p : Nat} {A : Option Addr} {n c : Nat} {o : Nat} {S : Option Addr} {sn sc : Nat} {sg : List Int} {R : Option Addr} {rn rc : Nat} {D : List (Dat sRule)} {wr w' : World}
theorem Y0.dice (t : Y0 w p A n c wr) (d : Dice w' p A n c) (hg : wr.grownBy w' (some p)) : Y0 w p A n c w' :=
  ⟨d, Row.away t.rN hg (fun e => by injection e; have := t.hp; omega), grown_trans t.g hg, t.hp⟩
theorem Y0.over (t : Y0 w p A n c wr) (hb : Below (w.heap.size + 1) wr w') : Y0 w p A n c w' :=
  ⟨t.d.keep (hb.mono (by have := t.hp; omega)), t.rN.below hb (by omega), grown_over t.g hb (by omega), t.hp⟩
theorem YA.dice (t : YA w p A n c o S sn sc sg R rn rc D wr) (d : Dice w' p A n c) (hg : wr.grownBy w' (some p)) : YA w p A n c o S sn sc sg R rn rc D w' :=
  ⟨t.z.dice d hg, Row.away t.rO hg (fun e => by injection e; have := t.z.hp; have := t.ho; omega), outR_dice t.s hg, t.own.dice hg (by have := t.z.hp; omega), t.hR, t.ho⟩
theorem YA.next (t : YA w p A n c o S sn sc sg R rn rc D wr) (hb : Below wr.heap.size wr w') : YA w p A n c o S sn sc sg R rn rc D w' :=
  ⟨t.z.over (hb.mono (by have := t.z.rN.lt; omega)), t.rO.next hb, outR_below t.s hb, t.own.below hb, t.hR, t.ho⟩
theorem YA.alloc (t : YA w p A n c o S sn sc sg R rn rc D wr) (x : Obj) : YA w p A n c o S sn sc sg R rn rc D (wr.alloc x) := t.next ((Below.refl _ _).alloc (Nat.le_refl _) _)
theorem YA.drew (t : YA w p A n c o S sn sc sg R rn rc D wr) : YA w p A n c o S sn sc sg R rn rc D wr.drew := t.next ⟨rfl, rfl, rfl, Nat.le_refl _, fun _ _ => rfl⟩
/-- the rules behind an append -/
theorem YA.put {g' rc' : Nat} {x : Dat sRule} (t : YA w p A n c o S sn sc sg R rn rc D wr) (hown : OwnQ w' p (w.heap.size + 1) 35 sRule (some ⟨g', 0, none⟩) (rn + 1) rc' (D ++ [x])) (hg : wr.grownBy w' (blk R)) (hat : blk R = some g' ∨ g' = wr.heap.size) :
    YA w p A n c o S sn sc sg (some ⟨g', 0, none⟩) (rn + 1) rc' (D ++ [x]) (w'.setCell ⟨o, 1, none⟩ (.slice (some ⟨g', 0, none⟩) (rn + 1) rc')) := by
  have h2 := t.ho
  have hz := t.rO.lt
  have hge := t.own.ge
  have hO := Row.away t.rO hg t.hR
  have hb : Below (w.heap.size + 1) wr w' := (Below.refl _ _).grown hg (by omega) (fun k hk => (hge k hk).1)
  have hb2 : Below (w.heap.size + 1) wr (w'.setCell ⟨o, 1, none⟩ (.slice (some ⟨g', 0, none⟩) (rn + 1) rc')) := hb.setCell (p := ⟨o, 1, none⟩) (by show w.heap.size + 1 ≤ o; omega) _
  have hne : blk (some (⟨g', 0, none⟩ : Addr)) ≠ some o := by
    intro e
    have e : g' = o := by injection e
    subst e
    rcases hat with e | e
    · exact t.hR e
    · omega
  have hs : RdQ w' (OutR w' p (blk (some ⟨g', 0, none⟩))) sI [.slice S sn sc] sg :=
    (t.s.keep fun b hb => hg.block b hb.1 (fun e => hb.2.2 e)).mono fun b hb => ⟨Nat.lt_of_lt_of_le hb.1 hg.size, hb.2.1, fun e => by
      have e : b = g' := by injection e
      subst e
      rcases hat with e | e
      · exact hb.2.2 e.symm
      · have := hb.1; omega⟩
  exact ⟨t.z.over hb2, hO.put 1 _, ints_put hs hO 1 _, ownQ_put hown hO hne 1 _, hne, h2⟩
/-- the system as the result -/
theorem sys_result {M : Nat} (z : Y0 w p A n c wr) (s : RdQ wr (OutR wr p (blk R)) sI [.slice S sn sc] sg) (own : OwnQ wr p (w.heap.size + 1) 35 sRule R rn rc D) (h9 : sg.length ≤ 9) (hM : SmallD M D) :
    AnsSys w p A n c M (.returned (.agg #[.slice S sn sc, .slice R rn rc])) ((wr.setCell ⟨w.heap.size, 0, none⟩ (.slice S sn sc)).setCell ⟨w.heap.size, 1, none⟩ (.slice R rn rc)) := by
  have h1 := z.hp
  have hne : blk R ≠ some w.heap.size := fun e => by have := (own.ge _ e).1; omega
  have r1 := z.rN.put 0 (.slice S sn sc)
  have o1 := ownQ_put own z.rN hne 0 (.slice S sn sc)
  have s1 := ints_put s z.rN 0 (.slice S sn sc)
  have o2 := ownQ_put o1 r1 hne 1 (.slice R rn rc)
  have s2 := ints_put s1 r1 1 (.slice R rn rc)
  have hS : Below w.heap.size wr ((wr.setCell ⟨w.heap.size, 0, none⟩ (.slice S sn sc)).setCell ⟨w.heap.size, 1, none⟩ (.slice R rn rc)) := ((Below.refl _ wr).setCell (p := ⟨w.heap.size, 0, none⟩) (Nat.le_refl _) _).setCell (p := ⟨w.heap.size, 1, none⟩) (Nat.le_refl _) _
  exact ⟨S, sn, sc, sg, R, rn, rc, D, rfl, s2, h9, o2.lower (by omega), hM, z.d.keep (hS.mono (by omega)), grown_over z.g hS (by omega)⟩
end
theorem small_nil (M : Nat) : SmallD M [] := ⟨Nat.zero_le _, fun j => ⟨Nat.zero_le _, Nat.zero_le _⟩⟩
theorem small_app {M : Nat} {D : List (Dat sRule)} {xs ys : List Int} (h : SmallD M D) (h1 : xs.length ≤ 65) (h2 : ys.length ≤ 65) : SmallD (M + 1) (D ++ [((xs, ys) : List Int × List Int)]) := by
  refine ⟨by have := h.1; simpa using this, fun j => ?_⟩
  by_cases hj : j < D.length
  · rw [show (D ++ [((xs, ys) : List Int × List Int)]).getD j (dft sRule) = D.getD j (dft sRule) by simp [List.getD, List.getElem?_append_left hj]]
    exact h.2 j
  · by_cases ej : j = D.length
    · subst ej
      rw [show (D ++ [((xs, ys) : List Int × List Int)]).getD D.length (dft sRule) = ((xs, ys) : List Int × List Int) by simp [List.getD]]
      exact ⟨h1, h2⟩
    · rw [show (D ++ [((xs, ys) : List Int × List Int)]).getD j (dft sRule) = dft sRule by rw [List.getD_eq_getElem?_getD, List.getElem?_eq_none (by simp; omega)]; rfl]
      exact ⟨Nat.zero_le _, Nat.zero_le _⟩
theorem small_wider {M M' : Nat} {D : List (Dat sRule)} (h : SmallD M D) (hM : M ≤ M') : SmallD M' D := ⟨Nat.le_trans h.1 hM, h.2⟩
theorem good_arities {xs : List Int} (h : Go.Proofs.Ytdkjafjphgcbjaa.drawSig.Good xs) : Arities xs := fun j hj => by have := h.2.2 j hj; omega
/-- the head of the loop over the rules -/
def HeadY (w : World) (p : Nat) (A : Option Addr) (n c : Nat) (o : Nat) (S : Option Addr) (sn sc : Nat) (sg : List Int) (k : Value) (wr : World) : Prop :=
  ∃ (q : Nat) (R : Option Addr) (rn rc : Nat) (D : List (Dat sRule)), k = .int .i64 q ∧ rn + q ≤ 3 ∧ SmallD rn D ∧ YA w p A n c o S sn sc sg R rn rc D wr

set_option maxHeartbeats 2000000 in
theorem drawSys (p : Nat) (A : Option Addr) (n c : Nat) (w : World) (hd : Dice w p A n c) :
    Calls Try.prog 91 #[.pointer (some ⟨p, 0, none⟩)] w (AnsSys w p A n c 3) := by
  obtain ⟨W, hW⟩ : ∃ W, W = w.alloc (.cells #[.slice none 0 0, .slice none 0 0] 29) := ⟨_, rfl⟩
  have T : Y0 w p A n c W := by rw [hW]; exact ⟨hd.alloc _, Row.new _ _ _, World.grownBy_alloc _ _ _, hd.lt⟩
  have HW := Lib.hid hW
  have hp := hd.lt
  clear hW hd
  have L1 := Lib.hid (once p A n c 2 W T.d (by omega) (by omega))
  go_enter Try.func91, Try.ntmps91
  go_wp2_with fail
  rw [← HW.out]
  refine L1.out.mono ?_
  rintro e u1 ⟨b, rfl, d1, g1⟩
  have T1 := T.dice d1 g1
  clear L1 T d1 g1 HW
  cases b with
  | true =>
    have L2 := Lib.hid (below p A n c 7 u1 T1.d (by omega) (by omega))
    go_wp2_with fail
    refine L2.out.mono ?_
    rintro e u2 ⟨x, rfl, x0, x1, d2, g2⟩
    have T2 := T1.dice d2 g2
    clear L2 T1 d2 g2
    go_wp2_with fail
    refine (known x u2).mono ?_
    rintro e u3 ⟨S, sn, sc, R, rn, rc, D, rfl, oS, hne, hO, hM, b3⟩
    have z2 := T2.rN.lt
    have T3 := T2.over (b3.mono (by omega))
    have own := (hO p (by omega)).lower (show w.heap.size + 1 ≤ u2.heap.size by omega)
    have sS : RdQ u3 (OutR u3 p (blk R)) sI [.slice S sn sc] ([2, 1, 0] : List Int) := rdq_own oS fun b h1 h2 h3 => ⟨h2, by omega, fun e => hne (by rw [h3]; exact e)⟩
    have cN : u3.cell? ⟨w.heap.size, 0, none⟩ = some (.slice none 0 0) := T3.rN.cell 0
    have cN1 : u3.cell? ⟨w.heap.size, 1, none⟩ = some (.slice none 0 0) := T3.rN.cell 1
    have fN : u3.frozen? ⟨w.heap.size, 0, none⟩ = false := T3.rN.free 0
    have fN1 : u3.frozen? ⟨w.heap.size, 1, none⟩ = false := T3.rN.free 1
    have F := Lib.hid (sys_result T3 sS own (by simp) hM)
    clear T3 T2 b3 hO own sS oS
    go_wp2
    exact bodyPost_ret (v := .agg #[.slice S sn sc, .slice R rn rc]) (by simp [results, Try.results91, go_sem, cN, cN1]) rfl F.out
  | false =>
    have L2 := Lib.hid (drawSig p A n c u1 T1.d)
    go_wp2_with fail
    refine L2.out.mono ?_
    rintro e u2 ⟨S, sn, sc, sg, rfl, oS, hG, d2, g2⟩
    have T2 := T1.dice d2 g2
    have hars := good_arities hG
    have hsl := Own.len oS
    have hn1 : 1 ≤ sn := by have := hG.1; omega
    have hn4 : sn ≤ 4 := by have := hG.2.1; omega
    have h9 : sg.length ≤ 9 := by omega
    have z1 := T1.rN.lt
    have z2 := T2.rN.lt
    obtain ⟨o, ho⟩ : ∃ o, u2.heap.size = o := ⟨_, rfl⟩
    obtain ⟨W3, hW3⟩ : ∃ W3, W3 = u2.alloc (.cells #[.slice S sn sc, .slice none 0 0] 29) := ⟨_, rfl⟩
    have T3 : YA w p A n c o S sn sc sg none 0 0 [] W3 := by
      have bb : Below u2.heap.size u2 W3 := by rw [hW3]; exact (Below.refl _ _).alloc (Nat.le_refl _) _
      have hSS : RdQ u2 (OutR u2 p (blk none)) sI [.slice S sn sc] sg := rdq_own oS fun b h1 h2 _ => ⟨h2, by omega, fun e => by cases e⟩
      exact ⟨T2.over (bb.mono (by omega)), by rw [hW3, ← ho]; exact Row.new _ _ _, outR_below hSS bb, OwnQ.nil _ _ _ _ _, (fun e => by cases e), by omega⟩
    have HW3 := Lib.hid hW3
    have HO := Lib.hid ho
    have L3 := Lib.hid (below p A n c 4 W3 T3.z.d (by omega) (by omega))
    clear L2 T1 T2 d2 g2 oS hG hW3 ho hsl
    go_wp2_with fail
    rw [← HW3.out, HO.out]
    refine L3.out.mono ?_
    rintro e u4 ⟨x, rfl, x0, x1, d4, g4⟩
    have T4 := T3.dice d4 g4
    obtain ⟨q, rfl⟩ := Int.eq_ofNat_of_zero_le x0
    have HH := Lib.hid (show HeadY w p A n c o S sn sc sg (.int .i64 (q : Int)) u4 from ⟨q, none, 0, 0, [], rfl, by omega, small_nil _, T4⟩)
    clear T3 T4 d4 g4 L3 HW3 HO x0 x1
    go_wp2_with fail
    go_loopw [4] (fun k wr => HeadY w p A n c o S sn sc sg k wr) (fun k _ => (intOf k).toNat)
    case atStart => exact HH.out
    case round =>
      obtain ⟨q, R, rn, rc, D, rfl, hq, hD, T⟩ := hrel
      clear HH
      have cV : wr.cell? ⟨o, 0, none⟩ = some (.slice S sn sc) := T.rO.cell 0
      have cR : wr.cell? ⟨o, 1, none⟩ = some (.slice R rn rc) := T.rO.cell 1
      cases q with
      | zero =>
        have cN : wr.cell? ⟨w.heap.size, 0, none⟩ = some (.slice none 0 0) := T.z.rN.cell 0
        have cN1 : wr.cell? ⟨w.heap.size, 1, none⟩ = some (.slice none 0 0) := T.z.rN.cell 1
        have fN : wr.frozen? ⟨w.heap.size, 0, none⟩ = false := T.z.rN.free 0
        have fN1 : wr.frozen? ⟨w.heap.size, 1, none⟩ = false := T.z.rN.free 1
        have F := Lib.hid (sys_result T.z T.s T.own h9 (small_wider hD (show rn ≤ 3 by omega)))
        clear T
        go_wp2
        exact bodyPost_ret (v := .agg #[.slice S sn sc, .slice R rn rc]) (by simp [results, Try.results91, go_sem, cN, cN1]) rfl F.out
      | succ q =>
        have e0 : (0 : Int) < ((q + 1 : Nat) : Int) := by omega
        have T6 := T.drew
        clear T
        go_wp2_with fail
        go_region_law (first
          | (refine stepQ1 rfl _ _ 27 35 sRule _ 48 Try.underlying27 info_RuleS rfl (by omega) rfl p (w.heap.size + 1) R rn rc D (by simp [Act.eval, Act.put]) (T7.alloc _).own w7.heap.size 1 [.slice a1 n1 c1, .slice a2 n2 c2] ((xs, ys) : List Int × List Int) (by simp [Act.eval, Act.put]) (fun i hi => by match i, hi with | 0, _ => exact (Row.new _ _ _).cell 0 | 1, _ => exact (Row.new _ _ _).cell 1) (outR_below RX ((Below.refl _ _).alloc (Nat.le_refl _) _)) (by omega) (by simp; omega) ?_; intro O' oc' w8 ho8 hg8 hat8 hlt8; have r8 := Row.away (T7.alloc _).rO hg8 T7.hR; have cV8 : w8.cell? ⟨o, 0, none⟩ = some (.slice S sn sc) := r8.cell 0; have cR8 : w8.cell? ⟨o, 1, none⟩ = some (.slice R rn rc) := r8.cell 1; have fV8 : w8.frozen? ⟨o, 1, none⟩ = false := r8.free 1)
          | (go_simp; go_at_call 114; refine (drawRule p A n c S sn sc sg _ T6.z.d (rd_of T6.s) hars hn1 (by omega)).mono ?_; rintro e w7 ⟨a1, n1, c1, a2, n2, c2, xs, ys, rfl, rx, hx1, hx2, d7, g7⟩; have T7 := T6.dice d7 g7; have RX : RdQ w7 (OutR w7 p (blk R)) sRule [.slice a1 n1 c1, .slice a2 n2 c2] ((xs, ys) : List Int × List Int) := (rx.mono fun b hb => ⟨hb.2, (by have h5 := hb.1; have h6 := T6.z.rN.lt; omega), fun e => by have h5 := hb.1; have h6 := (T6.own.ge b e.symm).2; omega⟩); have cV7 : w7.cell? ⟨o, 0, none⟩ = some (.slice S sn sc) := T7.rO.cell 0; have cR7 : w7.cell? ⟨o, 1, none⟩ = some (.slice R rn rc) := T7.rO.cell 1; have zV7 : o < w7.heap.size := T7.rO.lt; have zW7 : w.heap.size < w7.heap.size := T7.z.rN.lt))
        all_goals
          have T8 := YA.put (T7.alloc _) ho8 hg8 hat8
          have F := Lib.hid (show HeadY w p A n c o S sn sc sg (.int .i64 (q : Int)) _ from ⟨q, _, _, _, _, rfl, by omega, small_app hD (by omega) (by omega), T8⟩)
          clear T8 T7 T6 ho8 hg8 hat8 hlt8 r8 d7 g7 cV7 cR7 RX rx
          go_wp2
          go_roundw
          case rel => first | exact F.out | simpa using F.out
          case measure => simp [intOf]
end Go.Proofs.Ytdkjafjphgcbjaa.drawSys
end

section
/-
  CONTRACTS: spec.l6DrawAny (a drawn system, bent sometimes), DrawDefinedIn, DrawLeftLinearIn. Conditions: a drawing cursor; the bytes of a draw. By an AI agent.
-/
namespace Go.Proofs.Ytdkjafjphgcbjaa.drawSysAny
open Go.RowKit Go.Proofs.Ytdkjafjphgcbjaa.base Go.Proofs.Ytdkjafjphgcbjaa.ints Go.Proofs.Ytdkjafjphgcbjaa.sig Go.Proofs.Ytdkjafjphgcbjaa.term Go.Proofs.Ytdkjafjphgcbjaa.cursor Go.Proofs.Ytdkjafjphgcbjaa.marks Go.Proofs.Ytdkjafjphgcbjaa.app Go.Proofs.Ytdkjafjphgcbjaa.appAt Go.Proofs.Ytdkjafjphgcbjaa.sym Go.Proofs.Ytdkjafjphgcbjaa.segs Go.Proofs.Ytdkjafjphgcbjaa.dice Go.Proofs.Ytdkjafjphgcbjaa.drawSig Go.Proofs.Ytdkjafjphgcbjaa.drawTerm Go.Proofs.Ytdkjafjphgcbjaa.drawAny Go.Proofs.Ytdkjafjphgcbjaa.drawSub Go.Proofs.Ytdkjafjphgcbjaa.drawS Go.Proofs.Ytdkjafjphgcbjaa.drawX Go.Proofs.Ytdkjafjphgcbjaa.drawRule Go.Proofs.Ytdkjafjphgcbjaa.drawKnown Go.Proofs.Ytdkjafjphgcbjaa.drawSys Go.Proofs.Ytdkjafjphgcbjaa.compImpl
open Go.Proofs.Ytdkjafjphgcbjaa.shape (Sh Dat nc dft sI sz)
open Go.Proofs.Ytdkjafjphgcbjaa.kindsR (sRule info_RuleS)
set_option maxRecDepth 100000

section
variable {w : World} {p : Nat} {A : Option Addr} {n c : Nat} {o : Nat} {S : Option Addr} {sn sc : Nat} {sg : List Int} {R : Option Addr} {rn rc : Nat} {D : List (Dat sRule)} {wr w' : World}
/-- a new signature -/
theorem YA.sig {S' : Option Addr} {sn' sc' : Nat} {xs : List Int} {base : Nat} (t : YA w p A n c o S sn sc sg R rn rc D wr) (h : Own wr base (.slice S' sn' sc') xs) (hb : ∀ k, blk R = some k → k < base) (hp : p < base) :
    YA w p A n c o S' sn' sc' xs R rn rc D (wr.setCell ⟨o, 0, none⟩ (.slice S' sn' sc')) := by
  have h1 := t.ho
  have hS : RdQ wr (OutR wr p (blk R)) sI [.slice S' sn' sc'] xs := rdq_own h fun b h1 h2 _ => ⟨h2, by omega, fun e => by have := hb b e.symm; omega⟩
  have hbb : Below (w.heap.size + 1) wr (wr.setCell ⟨o, 0, none⟩ (.slice S' sn' sc')) := (Below.refl _ _).setCell (p := ⟨o, 0, none⟩) (by show w.heap.size + 1 ≤ o; omega) _
  exact ⟨t.z.over hbb, t.rO.put 0 _, ints_put hS t.rO 0 _, ownQ_put t.own t.rO t.hR 0 _, t.hR, t.ho⟩
/-- a rule of two literal sides of one number -/
theorem lit_rule (x y : Int) (t : YA w p A n c o S sn sc sg R rn rc D wr) : RdQ ((wr.alloc (.cells #[.int .i64 x] 2)).alloc (.cells #[.int .i64 y] 2)) (OutR ((wr.alloc (.cells #[.int .i64 x] 2)).alloc (.cells #[.int .i64 y] 2)) p (blk R)) sRule [.slice (some ⟨wr.heap.size, 0, none⟩) 1 1, .slice (some ⟨wr.heap.size + 1, 0, none⟩) 1 1] (([x], [y]) : List Int × List Int) := by
  have hp := t.z.hp
  have hz := t.z.rN.lt
  have hne : ∀ g, wr.heap.size ≤ g → some g ≠ blk R := fun g hg e => by have := (t.own.ge g e.symm).2; omega
  refine RdQ.cat (ca := [_]) (cb := [_]) ?_ ?_
  · refine lit_seg (xs := [x]) (g := wr.heap.size) ?_ (by simp) ⟨by simp only [sz_alloc]; omega, by omega, hne _ (Nat.le_refl _)⟩
    exact row_alloc (row_top rfl)
  · refine lit_seg (xs := [y]) (g := wr.heap.size + 1) ?_ (by simp) ⟨by simp only [sz_alloc]; omega, by omega, hne _ (Nat.le_succ _)⟩
    exact row_top (by simp only [sz_alloc])
theorem ownQ_some {lo : Nat} {e : TypeId} (h : OwnQ wr p lo e sRule R rn rc D) (h1 : 1 ≤ rn) : ∃ g, R = some ⟨g, 0, none⟩ := by
  obtain ⟨_, vs, ho, _⟩ := h
  rcases ho.2 with ⟨e1, h0⟩ | ⟨g, cap, cur, e1, _⟩
  · omega
  · injection e1 with e1 _ _; exact ⟨g, e1⟩
/-- behind an append and the store of it -/
theorem put_any {A' : Option Addr} {rc' : Nat} {x : Dat sRule} (t : YA w p A n c o S sn sc sg R rn rc D wr) (hown : OwnQ w' p (w.heap.size + 1) 35 sRule A' (rn + 1) rc' (D ++ [x])) (hg : wr.grownBy w' (blk R)) (hat : blk A' = blk R ∨ blk A' = some wr.heap.size) :
    w'.cell? ⟨o, 0, none⟩ = some (.slice S sn sc) ∧ w'.cell? ⟨o, 1, none⟩ = some (.slice R rn rc) ∧ w'.frozen? ⟨o, 1, none⟩ = false ∧ Row w' w.heap.size 29 #[.slice none 0 0, .slice none 0 0] ∧ YA w p A n c o S sn sc sg A' (rn + 1) rc' (D ++ [x]) (w'.setCell ⟨o, 1, none⟩ (.slice A' (rn + 1) rc')) := by
  obtain ⟨g', rfl⟩ := ownQ_some hown (by omega)
  have hO := Row.away t.rO hg t.hR
  refine ⟨hO.cell 0, hO.cell 1, hO.free 1, Row.away t.z.rN hg (fun e => by have := (t.own.ge _ e).1; omega), YA.put t hown hg ?_⟩
  rcases hat with e | e
  · exact .inl e.symm
  · have e : some g' = some wr.heap.size := e
    injection e with e
    exact .inr e
end
/-- a rule of two drawn lists -/
theorem rule_two {u v : World} {p N : Nat} {r : Option Nat} {O P : Option Addr} {on oc pn pc : Nat} {xs ys : List Int} (ra : Go.Proofs.Ytdkjafjphgcbjaa.drawTerm.Rd u p u.heap.size O on xs) (rb : Go.Proofs.Ytdkjafjphgcbjaa.drawTerm.Rd v p v.heap.size P pn ys) (h1 : on ≤ oc) (h2 : oc ≤ 9223372036854775807) (h3 : O = none → oc = 0) (k1 : pn ≤ pc) (k2 : pc ≤ 9223372036854775807) (k3 : P = none → pc = 0)
    (g : u.grownBy v (some p)) (hr : ∀ k, r = some k → k < N) (hNu : N ≤ u.heap.size) (hO : ∀ k, blk O = some k → N ≤ k) (hP : ∀ k, blk P = some k → u.heap.size ≤ k) : RdQ v (OutR v p r) sRule [.slice O on oc, .slice P pn pc] ((xs, ys) : List Int × List Int) := by
  have ra' := (ra.grown g (Nat.le_refl _)).more g.size
  have one : ∀ {Z : Option Addr} {zn zc : Nat} {zs : List Int}, Go.Proofs.Ytdkjafjphgcbjaa.drawTerm.Rd v p v.heap.size Z zn zs → Cap Z zn zc → (∀ k, blk Z = some k → N ≤ k) → RdQ v (OutR v p r) sI [.slice Z zn zc] zs := fun {Z zn zc zs} h hc hz =>
    rdq_seg h.1 hc fun hn => by
      obtain ⟨b, off, e, hb, hp, hcell⟩ := h.2 hn
      exact ⟨b, off, e, ⟨hb, hp, fun e2 => by have := hz b (by rw [e]; rfl); have := hr b e2.symm; omega⟩, hcell⟩
  exact RdQ.cat (ca := [_]) (cb := [_]) (one ra' ⟨h1, h2, h3⟩ hO) (one rb ⟨k1, k2, k3⟩ (fun k hk => Nat.le_trans hNu (hP k hk)))
/-- the head of the loop that makes too many rules -/
def HeadM (w : World) (p : Nat) (A : Option Addr) (n c : Nat) (o : Nat) (S : Option Addr) (sn sc : Nat) (sg : List Int) (g : Nat) (wr : World) : Prop :=
  ∃ (R : Option Addr) (rn rc : Nat) (D : List (Dat sRule)), rn + g = 13 ∧ SmallD 13 D ∧ YA w p A n c o S sn sc sg R rn rc D wr

set_option maxHeartbeats 4000000 in
theorem drawSysAny (p : Nat) (A : Option Addr) (n c : Nat) (w : World) (hd : Dice w p A n c) :
    Calls Try.prog 57 #[.pointer (some ⟨p, 0, none⟩)] w (AnsSys w p A n c 13) := by
  obtain ⟨W, hW⟩ : ∃ W, W = w.alloc (.cells #[.slice none 0 0, .slice none 0 0] 29) := ⟨_, rfl⟩
  have T : Y0 w p A n c W := by rw [hW]; exact ⟨hd.alloc _, Row.new _ _ _, World.grownBy_alloc _ _ _, hd.lt⟩
  have zW : W.heap.size = w.heap.size + 1 := by rw [hW]; simp
  have HW := Lib.hid hW
  have hp := hd.lt
  clear hW hd
  have L1 := Lib.hid (drawSys p A n c W T.d)
  go_enter Try.func57, Try.ntmps57
  go_wp2_with fail
  rw [← HW.out]
  refine L1.out.mono ?_
  rintro e u2 ⟨S, sn, sc, sg, R, rn, rc, D, rfl, sS, h9, own, hM, d1, g1⟩
  rw [zW] at own
  have T2 := T.dice d1 g1
  have z2 := T2.rN.lt
  obtain ⟨o, ho⟩ : ∃ o, u2.heap.size = o := ⟨_, rfl⟩
  obtain ⟨W3, hW3⟩ : ∃ W3, W3 = u2.alloc (.cells #[.slice S sn sc, .slice R rn rc] 29) := ⟨_, rfl⟩
  have T3 : YA w p A n c o S sn sc sg R rn rc D W3 := by
    have bb : Below u2.heap.size u2 W3 := by rw [hW3]; exact (Below.refl _ _).alloc (Nat.le_refl _) _
    exact ⟨T2.over (bb.mono (by omega)), by rw [hW3, ← ho]; exact Row.new _ _ _, outR_below sS bb, own.below bb, (fun e => by have := (own.ge _ e).2; omega), by omega⟩
  have HW3 := Lib.hid hW3
  have HO := Lib.hid ho
  have L3 := Lib.hid (once p A n c 15 W3 T3.z.d (by omega) (by omega))
  have hDl := Lib.hid own.1
  have hrn : rn ≤ 3 := by have := own.1; have := hM.1; omega
  clear L1 T T2 d1 g1 sS own hW3 ho HW zW
  go_wp2_with fail
  rw [← HW3.out, HO.out]
  refine L3.out.mono ?_
  rintro e u4 ⟨b, rfl, d4, g4⟩
  have T4 := T3.dice d4 g4
  clear T3 d4 g4 L3 HW3 HO
  cases b with
  | false =>
    have cN : u4.cell? ⟨w.heap.size, 0, none⟩ = some (.slice none 0 0) := T4.z.rN.cell 0
    have cN1 : u4.cell? ⟨w.heap.size, 1, none⟩ = some (.slice none 0 0) := T4.z.rN.cell 1
    have fN : u4.frozen? ⟨w.heap.size, 0, none⟩ = false := T4.z.rN.free 0
    have fN1 : u4.frozen? ⟨w.heap.size, 1, none⟩ = false := T4.z.rN.free 1
    have cV : u4.cell? ⟨o, 0, none⟩ = some (.slice S sn sc) := T4.rO.cell 0
    have cR : u4.cell? ⟨o, 1, none⟩ = some (.slice R rn rc) := T4.rO.cell 1
    have F := Lib.hid (sys_result T4.z T4.s T4.own h9 (small_wider hM (show 3 ≤ 13 by omega)))
    clear T4
    go_wp2
    exact bodyPost_ret (v := .agg #[.slice S sn sc, .slice R rn rc]) (by simp [results, Try.results57, go_sem, cN, cN1]) rfl F.out
  | true =>
    have L4 := Lib.hid (below p A n c 4 u4 T4.z.d (by omega) (by omega))
    go_wp2_with fail
    refine L4.out.mono ?_
    rintro e u5 ⟨x, rfl, x0, x1, d5, g5⟩
    have T5 := T4.dice d5 g5
    clear T4 d5 g5 L4
    have cV : u5.cell? ⟨o, 0, none⟩ = some (.slice S sn sc) := T5.rO.cell 0
    have cR : u5.cell? ⟨o, 1, none⟩ = some (.slice R rn rc) := T5.rO.cell 1
    have zne : ¬ o = w.heap.size := by have := T5.ho; omega
    by_cases hx0 : x = 0
    · subst hx0
      have T6 := T5.drew
      clear x0 x1 T5
      go_wp2_with fail
      go_region_law (first
        | (refine stepQ1 rfl _ _ 27 35 sRule _ 48 Try.underlying27 info_RuleS rfl (by omega) rfl p (w.heap.size + 1) R rn rc D (by simp [Act.eval, Act.put]) (T8.alloc _).own w8.heap.size 1 [.slice O on oc, .slice P pn pc] ((xs, ys) : List Int × List Int) (by simp [Act.eval, Act.put]) (fun i hi => by match i, hi with | 0, _ => exact (Row.new _ _ _).cell 0 | 1, _ => exact (Row.new _ _ _).cell 1) (outR_below RX ((Below.refl _ _).alloc (Nat.le_refl _) _)) (by omega) (by simp; omega) ?_; intro O' oc' w9 ho9 hg9 hat9 hlt9; have r9 := Row.away (T8.alloc _).rO hg9 T8.hR; have cV9 : w9.cell? ⟨o, 0, none⟩ = some (.slice S sn sc) := r9.cell 0; have cR9 : w9.cell? ⟨o, 1, none⟩ = some (.slice R rn rc) := r9.cell 1; have fV9 : w9.frozen? ⟨o, 1, none⟩ = false := r9.free 1)
        | (go_simp; go_at_call 94; refine (drawAnyN p A n c S sn sc sg _ T7.z.d (rd_of T7.s) (by have := (rd_of T7.s).1; omega)).mono ?_; rintro e w8 ⟨P, pn, pc, ys, rfl, rb, k1, k2, k3, k4, d8, g8, hnew8⟩; have T8 := T7.dice d8 g8; have RX := rule_two (pc := pc) ra rb h1 h2 h3 k1 k2 k3 g8 (fun k hk => (T6.own.ge k hk).2) g7.size hnew7 hnew8; have cV8 : w8.cell? ⟨o, 0, none⟩ = some (.slice S sn sc) := T8.rO.cell 0; have cR8 : w8.cell? ⟨o, 1, none⟩ = some (.slice R rn rc) := T8.rO.cell 1; have zV8 : o < w8.heap.size := T8.rO.lt; have zW8 : w.heap.size < w8.heap.size := T8.z.rN.lt)
        | (go_simp; go_at_call 94; refine (drawAnyN p A n c S sn sc sg _ T6.z.d (rd_of T6.s) (by have := (rd_of T6.s).1; omega)).mono ?_; rintro e w7 ⟨O, on, oc, xs, rfl, ra, h1, h2, h3, h4, d7, g7, hnew7⟩; have T7 := T6.dice d7 g7; have cV7 : w7.cell? ⟨o, 0, none⟩ = some (.slice S sn sc) := T7.rO.cell 0; have cR7 : w7.cell? ⟨o, 1, none⟩ = some (.slice R rn rc) := T7.rO.cell 1; have zV7 : o < w7.heap.size := T7.rO.lt; have zW7 : w.heap.size < w7.heap.size := T7.z.rN.lt))
      all_goals
        have T9 := YA.put (T8.alloc _) ho9 hg9 hat9
        have cN9 : (w9.setCell ⟨o, 1, none⟩ (.slice (some ⟨O', 0, none⟩) (rn + 1) oc')).cell? ⟨w.heap.size, 0, none⟩ = some (.slice none 0 0) := T9.z.rN.cell 0
        have cN91 : (w9.setCell ⟨o, 1, none⟩ (.slice (some ⟨O', 0, none⟩) (rn + 1) oc')).cell? ⟨w.heap.size, 1, none⟩ = some (.slice none 0 0) := T9.z.rN.cell 1
        have fN9 : (w9.setCell ⟨o, 1, none⟩ (.slice (some ⟨O', 0, none⟩) (rn + 1) oc')).frozen? ⟨w.heap.size, 0, none⟩ = false := T9.z.rN.free 0
        have fN91 : (w9.setCell ⟨o, 1, none⟩ (.slice (some ⟨O', 0, none⟩) (rn + 1) oc')).frozen? ⟨w.heap.size, 1, none⟩ = false := T9.z.rN.free 1
        have cW9 : (w9.setCell ⟨o, 1, none⟩ (.slice (some ⟨O', 0, none⟩) (rn + 1) oc')).cell? ⟨o, 0, none⟩ = some (.slice S sn sc) := T9.rO.cell 0
        have cW91 : (w9.setCell ⟨o, 1, none⟩ (.slice (some ⟨O', 0, none⟩) (rn + 1) oc')).cell? ⟨o, 1, none⟩ = some (.slice (some ⟨O', 0, none⟩) (rn + 1) oc') := T9.rO.cell 1
        have F := Lib.hid (sys_result T9.z T9.s T9.own h9 (small_wider (small_app hM (by rw [ra.1]; exact h4) (by rw [rb.1]; exact k4)) (show 3 + 1 ≤ 13 by omega)))
        clear T9 T8 T7 T6 ho9 hg9 hat9 hlt9 r9 d7 g7 d8 g8 cV7 cR7 cV8 cR8 RX ra rb
        go_wp2
        exact bodyPost_ret (v := .agg #[.slice S sn sc, .slice (some ⟨O', 0, none⟩) (rn + 1) oc']) (by simp [results, Try.results57, go_sem, cN9, cN91]) rfl F.out
    · by_cases hx1 : x = 1
      · subst hx1
        have L6 := Lib.hid (drawSigAny p A n c u5 T5.z.d)
        go_wp2_with fail
        refine L6.out.mono ?_
        rintro e u6 ⟨S', sn', sc', xs, rfl, oS, hsh, d6, g6⟩
        have T6 := T5.dice d6 g6
        have T8 := YA.sig T6 oS (fun k hk => (T5.own.ge k hk).2) (by have := T5.z.rN.lt; omega)
        have cV6 : u6.cell? ⟨o, 0, none⟩ = some (.slice S sn sc) := T6.rO.cell 0
        have cR6 : u6.cell? ⟨o, 1, none⟩ = some (.slice R rn rc) := T6.rO.cell 1
        have fV6 : u6.frozen? ⟨o, 0, none⟩ = false := T6.rO.free 0
        have cN8 : (u6.setCell ⟨o, 0, none⟩ (.slice S' sn' sc')).cell? ⟨w.heap.size, 0, none⟩ = some (.slice none 0 0) := T8.z.rN.cell 0
        have cN81 : (u6.setCell ⟨o, 0, none⟩ (.slice S' sn' sc')).cell? ⟨w.heap.size, 1, none⟩ = some (.slice none 0 0) := T8.z.rN.cell 1
        have fN8 : (u6.setCell ⟨o, 0, none⟩ (.slice S' sn' sc')).frozen? ⟨w.heap.size, 0, none⟩ = false := T8.z.rN.free 0
        have fN81 : (u6.setCell ⟨o, 0, none⟩ (.slice S' sn' sc')).frozen? ⟨w.heap.size, 1, none⟩ = false := T8.z.rN.free 1
        have cW8 : (u6.setCell ⟨o, 0, none⟩ (.slice S' sn' sc')).cell? ⟨o, 0, none⟩ = some (.slice S' sn' sc') := T8.rO.cell 0
        have cW81 : (u6.setCell ⟨o, 0, none⟩ (.slice S' sn' sc')).cell? ⟨o, 1, none⟩ = some (.slice R rn rc) := T8.rO.cell 1
        have F := Lib.hid (sys_result T8.z T8.s T8.own hsh (small_wider hM (show 3 ≤ 13 by omega)))
        clear T8 T6 T5 d6 g6 L6 oS
        go_wp2
        exact bodyPost_ret (v := .agg #[.slice S' sn' sc', .slice R rn rc]) (by simp [results, Try.results57, go_sem, cN8, cN81]) rfl F.out
      · by_cases hx2 : x = 2
        · subst hx2
          clear x0 x1 hx0 hx1 cV cR
          have HH := Lib.hid (show HeadM w p A n c o S sn sc sg (13 - rn) u5 from ⟨R, rn, rc, D, by omega, small_wider hM (by omega), T5⟩)
          clear T5 hM hDl
          go_wp2_with fail
          go_loopg [] (13 - rn) (fun g wr => HeadM w p A n c o S sn sc sg g wr)
          case atStart => exact HH.out
          case round =>
            clear HH hrn
            obtain ⟨R, rn, rc, D, hg13, hM, T⟩ := hrel
            have HG := Lib.hid hg13
            have hDl := Lib.hid T.own.1
            have cV : wr.cell? ⟨o, 0, none⟩ = some (.slice S sn sc) := T.rO.cell 0
            have cR : wr.cell? ⟨o, 1, none⟩ = some (.slice R rn rc) := T.rO.cell 1
            clear hg13
            by_cases hlt : rn < 13
            · have i1 : (rn : Int) < 13 := by omega
              have hgk := Lib.hid (show gk - 1 < gk ∧ rn + 1 + (gk - 1) = 13 by have := HG.out; omega)
              have LR := Lib.hid (lit_rule 2 2 T)
              have TA := ((T.alloc (.cells #[.int .i64 2] 2)).alloc (.cells #[.int .i64 2] 2)).alloc (.cells #[.slice (some ⟨wr.heap.size, 0, none⟩) 1 1, .slice (some ⟨wr.heap.size + 1, 0, none⟩) 1 1] 35)
              have zu := T.z.rN.lt
              have hM1 := Lib.hid (show SmallD 13 (D ++ [(([2], [2]) : List Int × List Int)]) from small_wider (small_app (M := rn) ⟨Nat.le_of_eq hDl.out, hM.2⟩ (by simp) (by simp)) (by omega))
              go_wp2_with (at_builtin; refine appQ1 rfl _ _ 27 35 sRule _ 48 Try.underlying27 info_RuleS rfl (by omega) rfl p (w.heap.size + 1) R rn rc D rfl TA.own (wr.heap.size + 1 + 1) 1 [.slice (some ⟨wr.heap.size, 0, none⟩) 1 1, .slice (some ⟨wr.heap.size + 1, 0, none⟩) 1 1] (([2], [2]) : List Int × List Int) rfl (fun i hi => by match i, hi with | 0, _ => exact (row_top (by simp only [sz_alloc])).cell 0 | 1, _ => exact (row_top (by simp only [sz_alloc])).cell 1) (outR_below LR.out ((Below.refl _ _).alloc (Nat.le_refl _) _)) (by omega) (by simp only [sz_alloc]; omega) ?_; intro A' c' w8 ho8 hg8 hat8 hb8; obtain ⟨cV8, cR8, fV8, rN8, T8⟩ := put_any TA ho8 hg8 hat8)
              have F := Lib.hid (show HeadM w p A n c o S sn sc sg (gk - 1) _ from ⟨A', rn + 1, c', _, hgk.out.2, hM1.out, T8⟩)
              clear T8 TA T ho8 hg8 hat8 hb8 LR hM1 hM
              go_wp2
              go_roundg (gk - 1)
              case measure => exact hgk.out.1
              case rel => exact F.out
            · have i1 : ¬ (rn : Int) < 13 := by omega
              have cN : wr.cell? ⟨w.heap.size, 0, none⟩ = some (.slice none 0 0) := T.z.rN.cell 0
              have cN1 : wr.cell? ⟨w.heap.size, 1, none⟩ = some (.slice none 0 0) := T.z.rN.cell 1
              have fN : wr.frozen? ⟨w.heap.size, 0, none⟩ = false := T.z.rN.free 0
              have fN1 : wr.frozen? ⟨w.heap.size, 1, none⟩ = false := T.z.rN.free 1
              have F := Lib.hid (sys_result T.z T.s T.own h9 hM)
              clear T hM
              go_wp2
              exact bodyPost_ret (v := .agg #[.slice S sn sc, .slice R rn rc]) (by simp [results, Try.results57, go_sem, cN, cN1]) rfl F.out
        · have e3 : x = 3 := by omega
          subst e3
          clear x0 x1 hx0 hx1 hx2
          have LR := Lib.hid (lit_rule (-1) (-1) T5)
          have TA := ((T5.alloc (.cells #[.int .i64 (-1)] 2)).alloc (.cells #[.int .i64 (-1)] 2)).alloc (.cells #[.slice (some ⟨u5.heap.size, 0, none⟩) 1 1, .slice (some ⟨u5.heap.size + 1, 0, none⟩) 1 1] 35)
          have zu := T5.z.rN.lt
          go_wp2_with (at_builtin; refine appQ1 rfl _ _ 27 35 sRule _ 48 Try.underlying27 info_RuleS rfl (by omega) rfl p (w.heap.size + 1) R rn rc D rfl TA.own (u5.heap.size + 1 + 1) 1 [.slice (some ⟨u5.heap.size, 0, none⟩) 1 1, .slice (some ⟨u5.heap.size + 1, 0, none⟩) 1 1] (([-1], [-1]) : List Int × List Int) rfl (fun i hi => by match i, hi with | 0, _ => exact (row_top (by simp only [sz_alloc])).cell 0 | 1, _ => exact (row_top (by simp only [sz_alloc])).cell 1) (outR_below LR.out ((Below.refl _ _).alloc (Nat.le_refl _) _)) (by omega) (by simp only [sz_alloc]; omega) ?_; intro A' c' w8 ho8 hg8 hat8 hb8; obtain ⟨cV8, cR8, fV8, rN8, T8⟩ := put_any TA ho8 hg8 hat8; have dN8 : w8.cell? ⟨w.heap.size, 0, none⟩ = some (.slice none 0 0) := rN8.cell 0; have dN81 : w8.cell? ⟨w.heap.size, 1, none⟩ = some (.slice none 0 0) := rN8.cell 1; have eN8 : w8.frozen? ⟨w.heap.size, 0, none⟩ = false := rN8.free 0; have eN81 : w8.frozen? ⟨w.heap.size, 1, none⟩ = false := rN8.free 1)
          have cN8 : (w8.setCell ⟨o, 1, none⟩ (.slice A' (rn + 1) c')).cell? ⟨w.heap.size, 0, none⟩ = some (.slice none 0 0) := T8.z.rN.cell 0
          have cN81 : (w8.setCell ⟨o, 1, none⟩ (.slice A' (rn + 1) c')).cell? ⟨w.heap.size, 1, none⟩ = some (.slice none 0 0) := T8.z.rN.cell 1
          have fN8 : (w8.setCell ⟨o, 1, none⟩ (.slice A' (rn + 1) c')).frozen? ⟨w.heap.size, 0, none⟩ = false := T8.z.rN.free 0
          have fN81 : (w8.setCell ⟨o, 1, none⟩ (.slice A' (rn + 1) c')).frozen? ⟨w.heap.size, 1, none⟩ = false := T8.z.rN.free 1
          have cW8 : (w8.setCell ⟨o, 1, none⟩ (.slice A' (rn + 1) c')).cell? ⟨o, 0, none⟩ = some (.slice S sn sc) := T8.rO.cell 0
          have cW81 : (w8.setCell ⟨o, 1, none⟩ (.slice A' (rn + 1) c')).cell? ⟨o, 1, none⟩ = some (.slice A' (rn + 1) c') := T8.rO.cell 1
          have F := Lib.hid (sys_result T8.z T8.s T8.own h9 (small_wider (small_app hM (by simp) (by simp)) (show 3 + 1 ≤ 13 by omega)))
          clear T8 TA T5 ho8 hg8 hat8 hb8 LR
          try go_wp2
          exact bodyPost_ret (v := .agg #[.slice S sn sc, .slice A' (rn + 1) c']) (by simp [results, Try.results57, go_sem, cN8, cN81, dN8, dN81, zne]) rfl F.out
end Go.Proofs.Ytdkjafjphgcbjaa.drawSysAny
end

section
/-
  CONTRACTS: spec.DrawDefinedIn, DrawLeftLinearIn: a drawn system as data. Conditions: the bytes of a draw. By an AI agent.
-/
namespace Go.Proofs.Ytdkjafjphgcbjaa.drawSysD
open Go.RowKit Go.Proofs.Ytdkjafjphgcbjaa.base Go.Proofs.Ytdkjafjphgcbjaa.ints Go.Proofs.Ytdkjafjphgcbjaa.sig Go.Proofs.Ytdkjafjphgcbjaa.term Go.Proofs.Ytdkjafjphgcbjaa.cursor Go.Proofs.Ytdkjafjphgcbjaa.marks Go.Proofs.Ytdkjafjphgcbjaa.app Go.Proofs.Ytdkjafjphgcbjaa.appAt Go.Proofs.Ytdkjafjphgcbjaa.sym Go.Proofs.Ytdkjafjphgcbjaa.segs Go.Proofs.Ytdkjafjphgcbjaa.dice Go.Proofs.Ytdkjafjphgcbjaa.drawTwo Go.Proofs.Ytdkjafjphgcbjaa.drawX Go.Proofs.Ytdkjafjphgcbjaa.drawRule Go.Proofs.Ytdkjafjphgcbjaa.drawKnown Go.Proofs.Ytdkjafjphgcbjaa.drawSys Go.Proofs.Ytdkjafjphgcbjaa.drawSysAny
open Go.Proofs.Ytdkjafjphgcbjaa.shape (Sh Dat nc dft sI sz)
open Go.Proofs.Ytdkjafjphgcbjaa.kindsR (sRule sSystem sRuleS)
set_option maxRecDepth 100000

/-- a drawn system, as data -/
def AnsSysD (w : World) (e : Ending) (w' : World) : Prop :=
  ∃ S sn sc R rn rc d, e = .returned (.agg #[.slice S sn sc, .slice R rn rc]) ∧ Go.Proofs.Ytdkjafjphgcbjaa.shape.Rd w' w'.heap.size sSystem [.slice S sn sc, .slice R rn rc] d ∧ sz sSystem d ≤ 2000 ∧ Below w.heap.size w w'
theorem sz_small {M : Nat} {D : List (Dat sRule)} (h : SmallD M D) : sz sRuleS D ≤ M + M * 130 := by
  have h1 : ∀ x ∈ D, sz sRule x ≤ 130 := fun x hx => by
    obtain ⟨j, hj, rfl⟩ := List.mem_iff_getElem.1 hx
    obtain ⟨h2, h3⟩ := h.2 j
    rw [List.getD_eq_getElem?_getD, List.getElem?_eq_getElem hj] at h2 h3
    have h2 : ((D[j]).1 : List Int).length ≤ 65 := h2
    have h3 : ((D[j]).2 : List Int).length ≤ 65 := h3
    show sz sI (D[j]).1 + sz sI (D[j]).2 ≤ 130
    rw [Go.Proofs.Ytdkjafjphgcbjaa.shape.sz_ints, Go.Proofs.Ytdkjafjphgcbjaa.shape.sz_ints]
    omega
  have h2 : ∀ l : List (Dat sRule), (∀ x ∈ l, sz sRule x ≤ 130) → (l.map (sz sRule)).sum ≤ l.length * 130 := fun l => by
    induction l with
    | nil => intro _; exact Nat.le_refl _
    | cons x l ih =>
      intro hx
      have a := hx x (List.mem_cons_self ..)
      have b := ih fun y hy => hx y (List.mem_cons_of_mem _ hy)
      rw [List.map_cons, List.sum_cons, List.length_cons, Nat.add_mul]
      omega
  have h3 := h2 D h1
  have h4 := Nat.mul_le_mul_right 130 h.1
  show D.length + (D.map (sz sRule)).sum ≤ _
  have := h.1
  omega
/-- the drawn system, stored where it is returned from -/
theorem ansD {w wr : World} {p lo : Nat} {N : Nat} {S : Option Addr} {sn sc : Nat} {sg : List Int} {R : Option Addr} {rn rc : Nat} {D : List (Dat sRule)} (rN : Row wr N 29 #[.slice none 0 0, .slice none 0 0]) (s : RdQ wr (OutR wr p (blk R)) sI [.slice S sn sc] sg) (own : OwnQ wr p lo 35 sRule R rn rc D) (h9 : sg.length ≤ 9) (hM : SmallD 13 D) (hp : p < lo) (hN : N < lo) (hw : w.heap.size ≤ N) (hb : Below w.heap.size w wr) :
    AnsSysD w (.returned (.agg #[.slice S sn sc, .slice R rn rc])) ((wr.setCell ⟨N, 0, none⟩ (.slice S sn sc)).setCell ⟨N, 1, none⟩ (.slice R rn rc)) := by
  have hne : blk R ≠ some N := fun e => by have := (own.ge _ e).1; omega
  have r1 := rN.put 0 (.slice S sn sc)
  have o2 := ownQ_put (ownQ_put own rN hne 0 (.slice S sn sc)) r1 hne 1 (.slice R rn rc)
  have s2 := ints_put (ints_put s rN 0 (.slice S sn sc)) r1 1 (.slice R rn rc)
  refine ⟨S, sn, sc, R, rn, rc, ((sg, D) : List Int × List (Dat sRule)), rfl, ?_, ?_, (hb.setCell (p := ⟨N, 0, none⟩) hw _).setCell (p := ⟨N, 1, none⟩) hw _⟩
  · exact RdQ.rd (Q := Out _ p) (fun b hb => hb.1) (RdQ.cat (ca := [_]) (cb := [_]) (s2.mono fun b hb => ⟨hb.1, hb.2.1⟩) (o2.rdq hp))
  · have h1 := sz_small hM
    show sz sI sg + sz sRuleS D ≤ 2000
    rw [Go.Proofs.Ytdkjafjphgcbjaa.shape.sz_ints]
    omega

set_option maxHeartbeats 1000000 in
theorem drawDefinedIn (A : Option Addr) (n c : Nat) (w : World) (h : SegB w w.heap.size A n) (hn : n ≤ 4096) :
    Calls Try.prog 16 #[.slice A n c] w (AnsSysD w) := by
  obtain ⟨W, hW⟩ : ∃ W, W = w.alloc (.cells #[.slice none 0 0, .slice none 0 0] 29) := ⟨_, rfl⟩
  have rN : Row W w.heap.size 29 #[.slice none 0 0, .slice none 0 0] := by rw [hW]; exact Row.new _ _ _
  have b0 : Below w.heap.size w W := by rw [hW]; exact (Below.refl _ _).alloc (Nat.le_refl _) _
  have h0 : SegB W W.heap.size A n := fun hp => by
    obtain ⟨b, off, e, hb, hc⟩ := h hp
    refine ⟨b, off, e, Nat.lt_of_lt_of_le hb b0.size, fun j hj => ?_⟩
    obtain ⟨x, x0, x1, hx⟩ := hc j hj
    exact ⟨x, x0, x1, (b0.cell (p := ⟨b, off + j, none⟩) hb).trans hx⟩
  have L := Lib.hid (new_ A n c W h0 hn)
  have HW := Lib.hid hW
  clear h h0 hW
  go_enter Try.func16, Try.ntmps16
  go_wp2_with fail
  rw [← HW.out]
  refine L.out.mono ?_
  rintro e w1 ⟨p, rfl, hp, d1, bb⟩
  have hNp : w.heap.size < p := Nat.lt_of_lt_of_le rN.lt hp
  replace rN := rN.next bb
  have bel := next_trans b0 bb
  have L2 := Lib.hid (drawSysAny p A n c w1 d1)
  have hp1 := d1.lt
  clear d1 bb b0 L HW
  go_wp2_with fail
  refine L2.out.mono ?_
  rintro e w2 ⟨S, sn, sc, sg, R, rn, rc, D, rfl, s2, h9, o2, hM, d2, g2⟩
  have hz := rN.lt
  replace rN := Row.away rN g2 (fun e => by injection e; omega)
  have bel2 : Below w.heap.size w w2 := bel.grown g2 bel.size (fun k hk => by injection hk; omega)
  have cN : w2.cell? ⟨w.heap.size, 0, none⟩ = some (.slice none 0 0) := rN.cell 0
  have cN1 : w2.cell? ⟨w.heap.size, 1, none⟩ = some (.slice none 0 0) := rN.cell 1
  have fN : w2.frozen? ⟨w.heap.size, 0, none⟩ = false := rN.free 0
  have fN1 : w2.frozen? ⟨w.heap.size, 1, none⟩ = false := rN.free 1
  have F := Lib.hid (ansD rN s2 o2 h9 hM hp1 (by omega) (Nat.le_refl _) bel2)
  clear rN s2 o2 d2 g2 L2 bel bel2
  go_wp2
  exact bodyPost_ret (v := .agg #[.slice S sn sc, .slice R rn rc]) (by simp [results, Try.results16, go_sem, cN, cN1]) rfl F.out

set_option maxHeartbeats 1000000 in
theorem drawLeftLinearIn (A : Option Addr) (n c : Nat) (w : World) (h : SegB w w.heap.size A n) (hn : n ≤ 4096) :
    Calls Try.prog 28 #[.slice A n c] w (AnsSysD w) := by
  obtain ⟨W, hW⟩ : ∃ W, W = w.alloc (.cells #[.slice none 0 0, .slice none 0 0] 29) := ⟨_, rfl⟩
  have rN : Row W w.heap.size 29 #[.slice none 0 0, .slice none 0 0] := by rw [hW]; exact Row.new _ _ _
  have b0 : Below w.heap.size w W := by rw [hW]; exact (Below.refl _ _).alloc (Nat.le_refl _) _
  have h0 : SegB W W.heap.size A n := fun hp => by
    obtain ⟨b, off, e, hb, hc⟩ := h hp
    refine ⟨b, off, e, Nat.lt_of_lt_of_le hb b0.size, fun j hj => ?_⟩
    obtain ⟨x, x0, x1, hx⟩ := hc j hj
    exact ⟨x, x0, x1, (b0.cell (p := ⟨b, off + j, none⟩) hb).trans hx⟩
  have L := Lib.hid (new_ A n c W h0 hn)
  have HW := Lib.hid hW
  clear h h0 hW
  go_enter Try.func28, Try.ntmps28
  go_wp2_with fail
  rw [← HW.out]
  refine L.out.mono ?_
  rintro e w1 ⟨p, rfl, hp, d1, bb⟩
  have hNp : w.heap.size < p := Nat.lt_of_lt_of_le rN.lt hp
  replace rN := rN.next bb
  have bel := next_trans b0 bb
  have L2 := Lib.hid (drawSysAny p A n c w1 d1)
  have hp1 := d1.lt
  clear d1 bb b0 L HW
  go_wp2_with fail
  refine L2.out.mono ?_
  rintro e w2 ⟨S, sn, sc, sg, R, rn, rc, D, rfl, s2, h9, o2, hM, d2, g2⟩
  have hz := rN.lt
  replace rN := Row.away rN g2 (fun e => by injection e; omega)
  have bel2 : Below w.heap.size w w2 := bel.grown g2 bel.size (fun k hk => by injection hk; omega)
  have cN : w2.cell? ⟨w.heap.size, 0, none⟩ = some (.slice none 0 0) := rN.cell 0
  have cN1 : w2.cell? ⟨w.heap.size, 1, none⟩ = some (.slice none 0 0) := rN.cell 1
  have fN : w2.frozen? ⟨w.heap.size, 0, none⟩ = false := rN.free 0
  have fN1 : w2.frozen? ⟨w.heap.size, 1, none⟩ = false := rN.free 1
  have F := Lib.hid (ansD rN s2 o2 h9 hM hp1 (by omega) (Nat.le_refl _) bel2)
  clear rN s2 o2 d2 g2 L2 bel bel2
  go_wp2
  exact bodyPost_ret (v := .agg #[.slice S sn sc, .slice R rn rc]) (by simp [results, Try.results28, go_sem, cN, cN1]) rfl F.out
end Go.Proofs.Ytdkjafjphgcbjaa.drawSysD
end

section
/-
  CONTRACTS: spec.l6SameRule, SameSystem, LeftLinearIn, CollapsingIn, l6Doubles, DuplicatingIn. Conditions: the arguments read as data ('Rd'), at most 1048576 numbers. By an AI agent.
-/
namespace Go.Proofs.Ytdkjafjphgcbjaa.ruleSpec
open Go.RowKit Go.Proofs.Ytdkjafjphgcbjaa.base Go.Proofs.Ytdkjafjphgcbjaa.ints Go.Proofs.Ytdkjafjphgcbjaa.sig Go.Proofs.Ytdkjafjphgcbjaa.term Go.Proofs.Ytdkjafjphgcbjaa.termOk Go.Proofs.Ytdkjafjphgcbjaa.marks Go.Proofs.Ytdkjafjphgcbjaa.app Go.Proofs.Ytdkjafjphgcbjaa.sym Go.Proofs.Ytdkjafjphgcbjaa.segs Go.Proofs.Ytdkjafjphgcbjaa.termFacts Go.Proofs.Ytdkjafjphgcbjaa.varsMath Go.Proofs.Ytdkjafjphgcbjaa.varsOf Go.Proofs.Ytdkjafjphgcbjaa.rename Go.Proofs.Ytdkjafjphgcbjaa.same Go.Proofs.Ytdkjafjphgcbjaa.count Go.Proofs.Ytdkjafjphgcbjaa.linear Go.Proofs.Ytdkjafjphgcbjaa.shape Go.Proofs.Ytdkjafjphgcbjaa.kindsR Go.Proofs.Ytdkjafjphgcbjaa.ruleMath
set_option maxRecDepth 100000

theorem same_noL {x y : Rl} (h : decide (x.1 = y.1) = false) : sameRB x y = false := by
  unfold sameRB
  exact decide_eq_false fun e => (of_decide_eq_false h) (by rw [e])
theorem same_L {x y : Rl} (h : decide (x.1 = y.1) = true) : sameRB x y = decide (x.2 = y.2) := by
  unfold sameRB
  have h := of_decide_eq_true h
  exact decide_eq_decide.2 ⟨fun e => by rw [e], fun e => by obtain ⟨x1, x2⟩ := x; obtain ⟨y1, y2⟩ := y; simp_all⟩

set_option maxHeartbeats 4000000 in
theorem specSameRule (l r l' r' : Value) (x y : Dat sRule) (w : World) (h : Rd w w.heap.size sRule [l, r] x) (h' : Rd w w.heap.size sRule [l', r'] y) (hz : sz sRule x ≤ 1048576) (hz' : sz sRule y ≤ 1048576) :
    Calls Try.prog 87 #[.agg #[l, r], .agg #[l', r']] w (AnsB w (sameRB x y)) := by
  obtain ⟨A1, n1, c1, A2, n2, c2, rfl, rfl, s1, k1, s2, k2, hn1, hn2⟩ := rd_rule h hz
  obtain ⟨B1, m1, e1, B2, m2, e2, rfl, rfl, t1, q1, t2, q2, hm1, hm2⟩ := rd_rule h' hz'
  obtain ⟨W, hW, rA, rB, bel⟩ := box2 w 35 35 #[.slice A1 n1 c1, .slice A2 n2 c2] #[.slice B1 m1 e1, .slice B2 m2 e2]
  have HW := Lib.hid hW
  have L1 := Lib.hid (specSame A1 B1 n1 m1 c1 e1 x.1 y.1 W (s1.next bel) (t1.next bel) hn1 hm1)
  have L2 := Lib.hid (fun (w1 : World) (bb : Below w.heap.size w w1) => specSame A2 B2 n2 m2 c2 e2 x.2 y.2 w1 (s2.next bb) (t2.next bb) hn2 hm2)
  clear hW h h' hz hz' k1 k2 q1 q2 s1 s2 t1 t2
  cases ok1 : decide (x.1 = y.1) with
  | false =>
    have HS := Lib.hid ok1
    clear ok1
    go_enter Try.func87, Try.ntmps87
    go_wp2_with fail
    rw [← HW.out]
    refine L1.out.mono ?_
    rintro e w1 ⟨he, d, rfl⟩
    rw [HS.out] at he
    subst he
    have F := Lib.hid (ansB (b := sameRB x y) (a := false) (by rw [same_noL HS.out]) (below_drewN bel d))
    clear bel rA rB
    go_wp2
    go_ret
    exact F.out
  | true =>
    have HS := Lib.hid ok1
    clear ok1
    go_enter Try.func87, Try.ntmps87
    go_wp2_with fail
    rw [← HW.out]
    refine L1.out.mono ?_
    rintro e w1 ⟨he, d, hw1⟩
    rw [HS.out] at he
    subst he
    have rA1 : Row w1 w.heap.size 35 #[.slice A1 n1 c1, .slice A2 n2 c2] := by rw [hw1]; exact rA.drewN d
    have rB1 : Row w1 (w.heap.size + 1) 35 #[.slice B1 m1 e1, .slice B2 m2 e2] := by rw [hw1]; exact rB.drewN d
    have bel1 : Below w.heap.size w w1 := by rw [hw1]; exact below_drewN bel d
    have cA : w1.cell? ⟨w.heap.size, 1, none⟩ = some (.slice A2 n2 c2) := rA1.cell 1
    have cB : w1.cell? ⟨w.heap.size + 1, 1, none⟩ = some (.slice B2 m2 e2) := rB1.cell 1
    clear hw1 L1 rA rB bel
    go_wp2_with fail
    refine (L2.out w1 bel1).mono ?_
    rintro e w2 ⟨he, d2, rfl⟩
    rw [← same_L HS.out] at he
    subst he
    have F := Lib.hid (ansB (b := sameRB x y) (a := sameRB x y) rfl (below_drewN bel1 d2))
    clear bel1 rA1 rB1 cA cB L2
    go_wp2
    go_ret
    exact F.out

/-! ### SameSystem -/
def HeadSS (w : World) (T : TypeId) (cs cs' : Array Value) (n : Nat) (rs rs' : List Rl) (i : Value) (wr : World) : Prop :=
  ∃ k : Nat, k ≤ n ∧ i = .int .i64 k ∧ (∀ j, j < k → rs.getD j ([], []) = rs'.getD j ([], [])) ∧ Row wr w.heap.size T cs ∧ Row wr (w.heap.size + 1) T cs' ∧ Below w.heap.size w wr
theorem headSS_step {w wr : World} {T : TypeId} {cs cs' : Array Value} {n k : Nat} {rs rs' : List Rl} {x y : Rl} (hk : k < n) (hlow : ∀ j, j < k → rs.getD j ([], []) = rs'.getD j ([], [])) (ex : Hid (rs.getD k ([], []) = x)) (ey : Hid (rs'.getD k ([], []) = y)) (h : sameRB x y = true) (hr : Row wr w.heap.size T cs) (hr' : Row wr (w.heap.size + 1) T cs') (hb : Below w.heap.size w wr) : HeadSS w T cs cs' n rs rs' (.int .i64 ((k : Int) + 1)) wr :=
  ⟨k + 1, hk, by simp, fun j hj => by
    by_cases e : j = k
    · subst e; rw [ex.out, ey.out]; exact of_decide_eq_true h
    · exact hlow j (by omega), hr, hr', hb⟩
theorem ss_sig {sg sg' : List Int} {rs rs' : List Rl} (h : decide (sg = sg') = false) : sameSB sg sg' rs rs' = false := by unfold sameSB; rw [h]; simp
theorem ss_len {sg sg' : List Int} {rs rs' : List Rl} {n m : Nat} (hn : rs.length = n) (hm : rs'.length = m) (h : n ≠ m) : sameSB sg sg' rs rs' = false := by
  unfold sameSB
  rw [decide_eq_false (p := rs = rs') (fun e => by rw [e] at hn; omega)]; simp
theorem ss_rule {sg sg' : List Int} {rs rs' : List Rl} {k : Nat} {x y : Rl} (ex : rs.getD k ([], []) = x) (ey : rs'.getD k ([], []) = y) (h : sameRB x y = false) : sameSB sg sg' rs rs' = false := by
  unfold sameSB
  rw [decide_eq_false (p := rs = rs') (fun e => by rw [e] at ex; exact (of_decide_eq_false h) (by rw [← ex, ← ey]))]; simp
theorem ss_yes {sg sg' : List Int} {rs rs' : List Rl} {n : Nat} (h1 : sysOkB sg rs = true) (h2 : decide (sg = sg') = true) (hn : rs.length = n) (hm : rs'.length = n) (h : ∀ j, j < n → rs.getD j ([], []) = rs'.getD j ([], [])) : sameSB sg sg' rs rs' = true := by
  unfold sameSB
  rw [h1, h2, decide_eq_true (lists_eq (by omega) (fun j hj => h j (by omega)))]; rfl
theorem ss_no {sg sg' : List Int} {rs rs' : List Rl} (h : sysOkB sg rs = false) : sameSB sg sg' rs rs' = false := by unfold sameSB; rw [h]; rfl

set_option maxHeartbeats 8000000 in
theorem specSameSystem (a v a' v' : Value) (d d' : Dat sSystem) (w : World) (h : Rd w w.heap.size sSystem [a, v] d) (h' : Rd w w.heap.size sSystem [a', v'] d') (hz : sz sSystem d ≤ 1048576) (hz' : sz sSystem d' ≤ 1048576) :
    Calls Try.prog 47 #[.agg #[a, v], .agg #[a', v']] w (AnsB w (sameSB d.1 d'.1 d.2 d'.2)) := by
  have S1 := fun (w1 : World) (bb : Below w.heap.size w w1) => specSystemOk a v d w1 (h.next bb) hz
  have S2 := fun (w1 : World) (bb : Below w.heap.size w w1) => specSystemOk a' v' d' w1 (h'.next bb) hz'
  obtain ⟨A, n, c, V, m, cv, rfl, rfl, hs, hc, hcv, hm, hn, hm1, hrs, hsg, hE⟩ := rd_sys h hz
  obtain ⟨A', n', c', V', m', cv', rfl, rfl, hs', hc', hcv', hm', hn', hm1', hrs', hsg', hE'⟩ := rd_sys h' hz'
  obtain ⟨W, hW, rA, rB, bel⟩ := box2 w 29 29 #[.slice A n c, .slice V m cv] #[.slice A' n' c', .slice V' m' cv']
  have HW := Lib.hid hW
  have HM := Lib.hid hm
  have HM' := Lib.hid hm'
  have HE := Lib.hid hE
  have HE' := Lib.hid hE'
  have HR := Lib.hid hrs
  have HR' := Lib.hid hrs'
  have LS1 := Lib.hid (S1 W bel)
  have LS2 := Lib.hid S2
  have LT := Lib.hid (fun (w1 : World) (bb : Below w.heap.size w w1) => specSame A A' n n' c c' d.1 d'.1 w1 (hs.next bb) (hs'.next bb) hn hn')
  clear hW h h' hz hz' hs hs' hc hc' hcv hcv' hm hm' hE hE' hrs hrs' hsg hsg' S1 S2
  cases ok1 : sysOkB d.1 d.2 with
  | false =>
    have HS := Lib.hid ok1
    clear ok1
    go_enter Try.func47, Try.ntmps47
    go_wp2_with fail
    rw [← HW.out]
    refine LS1.out.mono ?_
    rintro e w1 ⟨he, bb⟩
    rw [HS.out] at he
    subst he
    have F := Lib.hid (ansB (b := sameSB d.1 d'.1 d.2 d'.2) (a := false) (by rw [ss_no HS.out]) (next_trans bel bb))
    clear bel rA rB bb
    go_wp2
    go_ret
    exact F.out
  | true =>
    have HS := Lib.hid ok1
    clear ok1
    go_enter Try.func47, Try.ntmps47
    go_wp2_with fail
    rw [← HW.out]
    refine LS1.out.mono ?_
    rintro e w1 ⟨he, bb⟩
    rw [HS.out] at he
    subst he
    replace rA := rA.next bb
    replace rB := rB.next bb
    replace bel := next_trans bel bb
    have b0 : w1.cell? ⟨w.heap.size + 1, 0, none⟩ = some (.slice A' n' c') := rB.cell 0
    have b1 : w1.cell? ⟨w.heap.size + 1, 1, none⟩ = some (.slice V' m' cv') := rB.cell 1
    clear bb LS1
    go_wp2_with fail
    refine (LS2.out w1 bel).mono ?_
    cases ok2 : sysOkB d'.1 d'.2 with
    | false =>
      have HS2 := Lib.hid ok2
      clear ok2
      rintro e w2 ⟨he, bb⟩
      subst he
      have F := Lib.hid (ansB (b := sameSB d.1 d'.1 d.2 d'.2) (a := false) (by rw [same_sys HS2.out]) (next_trans bel bb))
      clear bel rA rB bb b0 b1
      go_wp2
      go_ret
      exact F.out
    | true =>
      have HS2 := Lib.hid ok2
      clear ok2
      rintro e w2 ⟨he, bb⟩
      subst he
      replace rA := rA.next bb
      replace rB := rB.next bb
      replace bel := next_trans bel bb
      have a0 : w2.cell? ⟨w.heap.size, 0, none⟩ = some (.slice A n c) := rA.cell 0
      have b0' : w2.cell? ⟨w.heap.size + 1, 0, none⟩ = some (.slice A' n' c') := rB.cell 0
      clear bb LS2 b0 b1
      go_wp2_with fail
      refine (LT.out w2 bel).mono ?_
      cases ok3 : decide (d.1 = d'.1) with
      | false =>
        have HS3 := Lib.hid ok3
        clear ok3
        rintro e w3 ⟨he, dd, rfl⟩
        rw [HS3.out] at he
        subst he
        have F := Lib.hid (ansB (b := sameSB d.1 d'.1 d.2 d'.2) (a := false) (by rw [ss_sig HS3.out]) (below_drewN bel dd))
        clear bel rA rB a0 b0'
        go_wp2
        go_ret
        exact F.out
      | true =>
        have HS3 := Lib.hid ok3
        clear ok3
        rintro e w3 ⟨he, dd, hw3⟩
        rw [HS3.out] at he
        subst he
        replace rA := rA.drewN dd
        replace rB := rB.drewN dd
        replace bel := below_drewN bel dd
        rw [← hw3] at rA rB bel
        have a1 : w3.cell? ⟨w.heap.size, 1, none⟩ = some (.slice V m cv) := rA.cell 1
        have b1 : w3.cell? ⟨w.heap.size + 1, 1, none⟩ = some (.slice V' m' cv') := rB.cell 1
        clear a0 b0' hw3 LT
        by_cases hmm : m = m'
        · subst hmm
          have H0 : Hid (HeadSS w 29 #[.slice A n c, .slice V m cv] #[.slice A' n' c', .slice V' m cv'] m d.2 d'.2 (.int .i64 0) w3) := Lib.hid ⟨0, Nat.zero_le _, rfl, fun j hj => absurd hj (Nat.not_lt_zero _), rA, rB, bel⟩
          clear rA rB bel
          go_wp2_with fail
          go_loopw [5] (fun i wr => HeadSS w 29 #[.slice A n c, .slice V m cv] #[.slice A' n' c', .slice V' m cv'] m d.2 d'.2 i wr) (fun i _ => m - (intOf i).toNat)
          case atStart => exact H0.out
          case round =>
            obtain ⟨k, hk, rfl, hlow, rr, rr', hb⟩ := hrel
            have HLOW := Lib.hid hlow
            clear hlow H0 a1 b1
            by_cases hlt : k < m
            · obtain ⟨b, off, l, r, x, rfl, hbB, ex, hc0, hc1, hx⟩ := rd_at HR.out hb HM.out hlt
              obtain ⟨b', off', l', r', y, rfl, hbB', ey, hc0', hc1', hy⟩ := rd_at HR'.out hb HM'.out hlt
              have a1 : wr.cell? ⟨w.heap.size, 1, none⟩ = some (.slice (some ⟨b, off, none⟩) m cv) := rr.cell 1
              have b1 : wr.cell? ⟨w.heap.size + 1, 1, none⟩ = some (.slice (some ⟨b', off', none⟩) m cv') := rr'.cell 1
              have hzx : sz sRule x ≤ 1048576 := by have := HE.out k hlt; rw [ex.out] at this; exact this
              have hzy : sz sRule y ≤ 1048576 := by have := HE'.out k hlt; rw [ey.out] at this; exact this
              have L := Lib.hid (specSameRule l r l' r' x y wr.drew ((hx.more hb.size).keep (fun _ _ => rfl)) ((hy.more hb.size).keep (fun _ _ => rfl)) hzx hzy)
              have i0 : (0 : Int) ≤ (k : Int) := by omega
              have i1 : (k : Int) < (m : Int) := by omega
              have hbr : b < wr.drew.heap.size := Nat.lt_of_lt_of_le hbB hb.size
              have hbr' : b' < wr.drew.heap.size := Nat.lt_of_lt_of_le hbB' hb.size
              have rd := rr.drew
              have rd' := rr'.drew
              have hbd := hb.drew
              clear hx hy rr rr' hb hzx hzy
              cases ok : sameRB x y with
              | false =>
                have HO := Lib.hid ok
                clear ok
                have BAD := Lib.hid (show sameSB d.1 d'.1 d.2 d'.2 = false from ss_rule ex.out ey.out HO.out)
                go_wp2_with fail
                go_region_held3 (fun w' => w'.cell? ⟨w.heap.size, 1, none⟩ = some (.slice (some ⟨b, off, none⟩) m cv) ∧ w'.cell? ⟨w.heap.size + 1, 1, none⟩ = some (.slice (some ⟨b', off', none⟩) m cv') ∧ w'.cell? ⟨b, off + k * 2, none⟩ = some l ∧ w'.cell? ⟨b, off + k * 2 + 1, none⟩ = some r ∧ w'.cell? ⟨b', off' + k * 2, none⟩ = some l' ∧ w'.cell? ⟨b', off' + k * 2 + 1, none⟩ = some r')
                  (go_keep)
                  (first
                    | (go_at_call 87; refine L.out.mono ?_; rintro e w4 ⟨he, bb⟩; rw [HO.out] at he; subst he; have x1 : w4.cell? ⟨w.heap.size, 1, none⟩ = some (.slice (some ⟨b, off, none⟩) m cv) := (rd.next bb).cell 1; have x2 : w4.cell? ⟨w.heap.size + 1, 1, none⟩ = some (.slice (some ⟨b', off', none⟩) m cv') := (rd'.next bb).cell 1; have x3 := (bb.cell (p := ⟨b, off + k * 2, none⟩) hbr).trans hc0; have x4 := (bb.cell (p := ⟨b, off + k * 2 + 1, none⟩) hbr).trans hc1; have x5 := (bb.cell (p := ⟨b', off' + k * 2, none⟩) hbr').trans hc0'; have x6 := (bb.cell (p := ⟨b', off' + k * 2 + 1, none⟩) hbr').trans hc1'))
                have F := Lib.hid (ansB (b := sameSB d.1 d'.1 d.2 d'.2) (a := false) BAD.out.symm (next_trans hbd bb))
                clear bb rd rd' hbd L x1 x2 x3 x4 x5 x6 a1 b1 hc0 hc1 hc0' hc1'
                go_wp2
                go_ret
                exact F.out
              | true =>
                have HO := Lib.hid ok
                clear ok
                go_wp2_with fail
                go_region_held3 (fun w' => w'.cell? ⟨w.heap.size, 1, none⟩ = some (.slice (some ⟨b, off, none⟩) m cv) ∧ w'.cell? ⟨w.heap.size + 1, 1, none⟩ = some (.slice (some ⟨b', off', none⟩) m cv') ∧ w'.cell? ⟨b, off + k * 2, none⟩ = some l ∧ w'.cell? ⟨b, off + k * 2 + 1, none⟩ = some r ∧ w'.cell? ⟨b', off' + k * 2, none⟩ = some l' ∧ w'.cell? ⟨b', off' + k * 2 + 1, none⟩ = some r')
                  (go_keep)
                  (first
                    | (go_at_call 87; refine L.out.mono ?_; rintro e w4 ⟨he, bb⟩; rw [HO.out] at he; subst he; have x1 : w4.cell? ⟨w.heap.size, 1, none⟩ = some (.slice (some ⟨b, off, none⟩) m cv) := (rd.next bb).cell 1; have x2 : w4.cell? ⟨w.heap.size + 1, 1, none⟩ = some (.slice (some ⟨b', off', none⟩) m cv') := (rd'.next bb).cell 1; have x3 := (bb.cell (p := ⟨b, off + k * 2, none⟩) hbr).trans hc0; have x4 := (bb.cell (p := ⟨b, off + k * 2 + 1, none⟩) hbr).trans hc1; have x5 := (bb.cell (p := ⟨b', off' + k * 2, none⟩) hbr').trans hc0'; have x6 := (bb.cell (p := ⟨b', off' + k * 2 + 1, none⟩) hbr').trans hc1'))
                have F := Lib.hid (headSS_step (w := w) hlt HLOW.out ex ey HO.out (rd.next bb) (rd'.next bb) (next_trans hbd bb))
                clear bb rd rd' hbd L x1 x2 x3 x4 x5 x6 a1 b1 hc0 hc1 hc0' hc1'
                go_wp2
                go_roundw
                case rel => exact F.out
                case measure => simp [intOf]; omega
            · have a1 : wr.cell? ⟨w.heap.size, 1, none⟩ = some (.slice V m cv) := rr.cell 1
              have F := Lib.hid (ansB (b := sameSB d.1 d'.1 d.2 d'.2) (a := true) (by rw [ss_yes HS.out HS3.out HM.out HM'.out (fun j hj => HLOW.out j (by omega))]) hb)
              clear rr rr' hb
              go_wp2
              go_ret
              exact F.out
        · have hne : ((m : Int) != (m' : Int)) = true := by simp; omega
          have F := Lib.hid (ansB (b := sameSB d.1 d'.1 d.2 d'.2) (a := false) (by rw [ss_len HM.out HM'.out hmm]) bel)
          clear bel rA rB
          go_wp2
          go_ret
          exact F.out

/-! ### LeftLinearIn -/
theorem ll_no {sg : List Int} {rs : List Rl} (h : sysOkB sg rs = false) : leftLinB sg rs = false := by unfold leftLinB; rw [h]; rfl
theorem ll_bad {sg : List Int} {rs : List Rl} {k : Nat} {x : Rl} (hk : k < rs.length) (ex : rs.getD k ([], []) = x) (h : linB x.1 = false) : leftLinB sg rs = false := by
  unfold leftLinB leftB
  rw [any_round hk (f := fun r => !linB r.1) (by rw [ex, h]; rfl)]; simp
theorem ll_yes {sg : List Int} {rs : List Rl} (h : sysOkB sg rs = true) (hl : ∀ j, j < rs.length → linB (rs.getD j ([], [])).1 = true) : leftLinB sg rs = true := by
  unfold leftLinB leftB
  rw [h, any_rounds (f := fun r => !linB r.1) (fun j hj => by rw [hl j hj]; rfl)]; rfl

set_option maxHeartbeats 4000000 in
theorem specLeftLinearIn (a v : Value) (d : Dat sSystem) (w : World) (h : Rd w w.heap.size sSystem [a, v] d) (hz : sz sSystem d ≤ 1048576) :
    Calls Try.prog 32 #[.agg #[a, v]] w (AnsB w (leftLinB d.1 d.2)) := by
  have S1 := fun (w1 : World) (bb : Below w.heap.size w w1) => specSystemOk a v d w1 (h.next bb) hz
  obtain ⟨A, n, c, V, m, cv, rfl, rfl, hs, hc, hcv, hm, hn, hm1, hrs, hsg, hE⟩ := rd_sys h hz
  obtain ⟨W, hW, rA, bel⟩ := box1 w 29 #[.slice A n c, .slice V m cv]
  have HW := Lib.hid hW
  have HM := Lib.hid hm
  have HE := Lib.hid hE
  have HR := Lib.hid hrs
  have LS1 := Lib.hid (S1 W bel)
  clear hW h hz hs hc hcv hm hE hrs hsg S1
  cases ok1 : sysOkB d.1 d.2 with
  | false =>
    have HS := Lib.hid ok1
    clear ok1
    go_enter Try.func32, Try.ntmps32
    go_wp2_with fail
    rw [← HW.out]
    refine LS1.out.mono ?_
    rintro e w1 ⟨he, bb⟩
    rw [HS.out] at he
    subst he
    have F := Lib.hid (ansB (b := leftLinB d.1 d.2) (a := false) (by rw [ll_no HS.out]) (next_trans bel bb))
    clear bel rA bb
    go_wp2
    go_ret
    exact F.out
  | true =>
    have HS := Lib.hid ok1
    clear ok1
    go_enter Try.func32, Try.ntmps32
    go_wp2_with fail
    rw [← HW.out]
    refine LS1.out.mono ?_
    rintro e w1 ⟨he, bb⟩
    rw [HS.out] at he
    subst he
    have H0 : Hid (HeadSy w 29 #[.slice A n c, .slice V m cv] m (fun x => linB x.1) d.2 (.int .i64 0) w1) := Lib.hid ⟨0, Nat.zero_le _, rfl, fun j hj => absurd hj (Nat.not_lt_zero _), rA.next bb, next_trans bel bb⟩
    clear rA bel bb LS1
    go_wp2_with fail
    go_loopw [3] (fun i wr => HeadSy w 29 #[.slice A n c, .slice V m cv] m (fun x => linB x.1) d.2 i wr) (fun i _ => m - (intOf i).toNat)
    case atStart => exact H0.out
    case round =>
      obtain ⟨k, hk, rfl, hlow, rr, hb⟩ := hrel
      have HLOW := Lib.hid hlow
      clear hlow H0
      by_cases hlt : k < m
      · obtain ⟨b, off, l, r, x, rfl, hbB, ex, hc0, hc1, hx⟩ := rd_at HR.out hb HM.out hlt
        have a1 : wr.cell? ⟨w.heap.size, 1, none⟩ = some (.slice (some ⟨b, off, none⟩) m cv) := rr.cell 1
        have hzx : sz sRule x ≤ 1048576 := by have := HE.out k hlt; rw [ex.out] at this; exact this
        obtain ⟨A1, n1, c1, A2, n2, c2, rfl, rfl, s1, k1, s2, k2, hn1, hn2⟩ := rd_rule hx hzx
        have L := Lib.hid (l2Linear A1 n1 c1 x.1 wr (s1.more hb.size) hn1)
        have i0 : (0 : Int) ≤ (k : Int) := by omega
        have i1 : (k : Int) < (m : Int) := by omega
        clear hx hzx s1 s2 k1 k2
        cases ok : linB x.1 with
        | false =>
          have HO := Lib.hid ok
          clear ok
          have F := Lib.hid (ansB (b := leftLinB d.1 d.2) (a := false) (by rw [ll_bad (by rw [HM.out]; exact hlt) ex.out HO.out]) hb)
          clear rr hb
          go_wp2_with fail
          refine L.out.mono ?_
          rintro e w2 ⟨rfl, he⟩
          rw [HO.out] at he
          subst he
          clear L
          go_wp2
          go_ret
          exact F.out
        | true =>
          have HO := Lib.hid ok
          clear ok
          have F := Lib.hid (headSy_step (f := fun x => linB x.1) (w := w) hlt HLOW.out ex HO.out rr hb)
          clear rr hb
          go_wp2_with fail
          refine L.out.mono ?_
          rintro e w2 ⟨rfl, he⟩
          rw [HO.out] at he
          subst he
          clear L
          go_wp2
          go_roundw
          case rel => exact F.out
          case measure => simp [intOf]; omega
      · have a1 : wr.cell? ⟨w.heap.size, 1, none⟩ = some (.slice V m cv) := rr.cell 1
        have F := Lib.hid (ansB (b := leftLinB d.1 d.2) (a := true) (by rw [ll_yes HS.out (fun j hj => HLOW.out j (by rw [HM.out] at hj; omega))]) hb)
        clear rr hb
        go_wp2
        go_ret
        exact F.out

/-! ### CollapsingIn: the system is asked in each round -/
theorem cl_no {sg : List Int} {rs : List Rl} (h : sysOkB sg rs = false) : collB sg rs = false := by unfold collB; rw [h]; rfl
theorem cl_bad {sg : List Int} {rs : List Rl} {k : Nat} {x : Rl} (h : sysOkB sg rs = true) (hk : k < rs.length) (ex : rs.getD k ([], []) = x) (h2 : fallsB x = true) : collB sg rs = true := by
  unfold collB
  rw [h, any_round hk (f := fallsB) (by rw [ex, h2])]; rfl
theorem cl_yes {sg : List Int} {rs : List Rl} (hl : ∀ j, j < rs.length → fallsB (rs.getD j ([], [])) = false) : collB sg rs = false := by
  unfold collB
  rw [any_rounds (f := fallsB) hl]; simp

set_option maxHeartbeats 4000000 in
theorem specCollapsingIn (a v : Value) (d : Dat sSystem) (w : World) (h : Rd w w.heap.size sSystem [a, v] d) (hz : sz sSystem d ≤ 1048576) :
    Calls Try.prog 34 #[.agg #[a, v]] w (AnsB w (collB d.1 d.2)) := by
  have S1 := fun (w1 : World) (bb : Below w.heap.size w w1) => specSystemOk a v d w1 (h.next bb) hz
  obtain ⟨A, n, c, V, m, cv, rfl, rfl, hs, hc, hcv, hm, hn, hm1, hrs, hsg, hE⟩ := rd_sys h hz
  obtain ⟨W, hW, rA, bel⟩ := box1 w 29 #[.slice A n c, .slice V m cv]
  have HW := Lib.hid hW
  have HM := Lib.hid hm
  have HE := Lib.hid hE
  have HR := Lib.hid hrs
  have LS := Lib.hid S1
  have H0 : Hid (HeadSy w 29 #[.slice A n c, .slice V m cv] m (fun x => !fallsB x) d.2 (.int .i64 0) W) := Lib.hid ⟨0, Nat.zero_le _, rfl, fun j hj => absurd hj (Nat.not_lt_zero _), rA, bel⟩
  clear hW h hz hs hc hcv hm hE hrs hsg S1 rA bel
  go_enter Try.func34, Try.ntmps34
  go_wp2_with fail
  rw [← HW.out]
  go_loopw [3] (fun i wr => HeadSy w 29 #[.slice A n c, .slice V m cv] m (fun x => !fallsB x) d.2 i wr) (fun i _ => m - (intOf i).toNat)
  case atStart => exact H0.out
  case round =>
    obtain ⟨k, hk, rfl, hlow, rr, hb⟩ := hrel
    have HLOW := Lib.hid hlow
    clear hlow H0
    have a0 : wr.cell? ⟨w.heap.size, 0, none⟩ = some (.slice A n c) := rr.cell 0
    have a1 : wr.cell? ⟨w.heap.size, 1, none⟩ = some (.slice V m cv) := rr.cell 1
    by_cases hlt : k < m
    · have i1 : (k : Int) < (m : Int) := by omega
      cases ok : sysOkB d.1 d.2 with
      | false =>
        have HO := Lib.hid ok
        clear ok
        go_wp2_with fail
        refine (LS.out wr hb).mono ?_
        rintro e w2 ⟨he, bb⟩
        rw [HO.out] at he
        subst he
        have F := Lib.hid (ansB (b := collB d.1 d.2) (a := false) (by rw [cl_no HO.out]) (next_trans hb bb))
        clear rr hb bb a0 a1
        go_wp2
        go_ret
        exact F.out
      | true =>
        have HO := Lib.hid ok
        have HZ := Lib.hid ((sys_parts ok).2.2)
        clear ok
        go_wp2_with fail
        refine (LS.out wr hb).mono ?_
        rintro e w2 ⟨he, bb⟩
        rw [HO.out] at he
        subst he
        replace rr := rr.next bb
        replace hb := next_trans hb bb
        obtain ⟨b, off, l, r, x, rfl, hbB, ex, hc0, hc1, hx⟩ := rd_at HR.out hb HM.out hlt
        have a1' : w2.cell? ⟨w.heap.size, 1, none⟩ = some (.slice (some ⟨b, off, none⟩) m cv) := rr.cell 1
        have hzx : sz sRule x ≤ 1048576 := by have := HE.out k hlt; rw [ex.out] at this; exact this
        have hrx : ruleOkB d.1 x = true := HZ.out x (by rw [← ex.out]; exact rl_mem (by rw [HM.out]; exact hlt))
        obtain ⟨A1, n1, c1, A2, n2, c2, rfl, rfl, s1, k1, s2, k2, hn1, hn2⟩ := rd_rule hx hzx
        have hp := (term_len (rule_parts hrx).2.1).1
        rw [s2.1] at hp
        obtain ⟨b2, off2, y, rfl, hbB2, hy, ey⟩ := s2.spot (k := 0) (by omega)
        have hy0 : w2.cell? ⟨b2, off2, none⟩ = some (.int .i64 y) := by simpa using hy
        have i2 : (0 : Int) < (n2 : Int) := by omega
        have i0 : (0 : Int) ≤ (k : Int) := by omega
        by_cases hyn : y < 0
        · have hd : decide (y < 0) = true := decide_eq_true hyn
          have F := Lib.hid (ansB (b := collB d.1 d.2) (a := true) (by rw [cl_bad HO.out (by rw [HM.out]; exact hlt) ex.out (by unfold fallsB ruleMath.hd; rw [ey.out]; exact hd)]) hb)
          clear hx hzx s1 s2 k1 k2 rr hb bb a0 a1 hrx hy ey hc0 LS
          go_wp2
          go_ret
          exact F.out
        · have hd : decide (y < 0) = false := decide_eq_false hyn
          have F := Lib.hid (headSy_step (f := fun x => !fallsB x) (w := w) hlt HLOW.out ex (by unfold fallsB ruleMath.hd; rw [ey.out, hd]; rfl) rr hb)
          clear hx hzx s1 s2 k1 k2 rr hb bb a0 a1 hrx hy ey hc0 LS
          go_wp2
          go_roundw
          case rel => exact F.out
          case measure => simp [intOf]; omega
    · have F := Lib.hid (ansB (b := collB d.1 d.2) (a := false) (by rw [cl_yes (fun j hj => by have := HLOW.out j (by rw [HM.out] at hj; omega); simpa using this)]) hb)
      clear rr hb
      go_wp2
      go_ret
      exact F.out
end Go.Proofs.Ytdkjafjphgcbjaa.ruleSpec
end

section
/-
  CONTRACTS: spec.l6Doubles, DuplicatingIn, l6Defined, DefinedIn, ConstructorsIn, ConstructorSystem, RenamedRule. Conditions: the arguments read as data ('Rd'), at most 1048576 numbers. By an AI agent.
-/
namespace Go.Proofs.Ytdkjafjphgcbjaa.ruleSpec
open Go.RowKit Go.Proofs.Ytdkjafjphgcbjaa.base Go.Proofs.Ytdkjafjphgcbjaa.ints Go.Proofs.Ytdkjafjphgcbjaa.sig Go.Proofs.Ytdkjafjphgcbjaa.term Go.Proofs.Ytdkjafjphgcbjaa.termOk Go.Proofs.Ytdkjafjphgcbjaa.marks Go.Proofs.Ytdkjafjphgcbjaa.app Go.Proofs.Ytdkjafjphgcbjaa.sym Go.Proofs.Ytdkjafjphgcbjaa.segs Go.Proofs.Ytdkjafjphgcbjaa.termFacts Go.Proofs.Ytdkjafjphgcbjaa.varsMath Go.Proofs.Ytdkjafjphgcbjaa.varsOf Go.Proofs.Ytdkjafjphgcbjaa.rename Go.Proofs.Ytdkjafjphgcbjaa.renMath Go.Proofs.Ytdkjafjphgcbjaa.same Go.Proofs.Ytdkjafjphgcbjaa.count Go.Proofs.Ytdkjafjphgcbjaa.linear Go.Proofs.Ytdkjafjphgcbjaa.shape Go.Proofs.Ytdkjafjphgcbjaa.kindsR Go.Proofs.Ytdkjafjphgcbjaa.ruleMath Go.Proofs.Ytdkjafjphgcbjaa.appAt Go.Proofs.Ytdkjafjphgcbjaa.kinds
set_option maxRecDepth 100000

/-! ### l6Doubles -/
def HeadDb (w : World) (T : TypeId) (cs : Array Value) (n : Nat) (d : Rl) (i : Value) (wr : World) : Prop :=
  ∃ k : Nat, k ≤ n ∧ i = .int .i64 k ∧ (∀ j, j < k → moreB d (d.2.getD j 0) = false) ∧ Row wr w.heap.size T cs ∧ Below w.heap.size w wr
theorem headDb_step {w wr : World} {T : TypeId} {cs : Array Value} {n k : Nat} {d : Rl} {x : Int} (hk : k < n) (hlow : ∀ j, j < k → moreB d (d.2.getD j 0) = false) (ex : Hid (d.2.getD k 0 = x)) (h : moreB d x = false) (hr : Row wr w.heap.size T cs) (hb : Below w.heap.size w wr) : HeadDb w T cs n d (.int .i64 ((k : Int) + 1)) wr :=
  ⟨k + 1, hk, by simp, fun j hj => by
    by_cases e : j = k
    · subst e; rw [ex.out]; exact h
    · exact hlow j (by omega), hr, hb⟩
theorem db_yes {d : Rl} {x : Int} (hx : x ∈ d.2) (h : moreB d x = true) : dblB d = true := List.any_eq_true.2 ⟨x, hx, h⟩
theorem db_no {d : Rl} {n : Nat} (hl : d.2.length = n) (h : ∀ j, j < n → moreB d (d.2.getD j 0) = false) : dblB d = false := by
  unfold dblB
  rw [List.any_eq_false]
  intro x hx
  obtain ⟨i, hi, rfl⟩ := List.getElem_of_mem hx
  have := h i (by omega)
  have e : d.2.getD i 0 = d.2[i] := by simp [List.getD, hi]
  rw [e] at this; simp [this]

set_option maxHeartbeats 4000000 in
theorem l6Doubles (l r : Value) (d : Dat sRule) (w : World) (h : Rd w w.heap.size sRule [l, r] d) (hz : sz sRule d ≤ 1048576) :
    Calls Try.prog 80 #[.agg #[l, r]] w (AnsB w (dblB d)) := by
  obtain ⟨A1, n1, c1, A2, n2, c2, rfl, rfl, s1, k1, s2, k2, hn1, hn2⟩ := rd_rule h hz
  obtain ⟨W, hW, rA, bel⟩ := box1 w 35 #[.slice A1 n1 c1, .slice A2 n2 c2]
  have HW := Lib.hid hW
  have HL2 := Lib.hid s2.1
  have H0 : Hid (HeadDb w 35 #[.slice A1 n1 c1, .slice A2 n2 c2] n2 d (.int .i64 0) W) := Lib.hid ⟨0, Nat.zero_le _, rfl, fun j hj => absurd hj (Nat.not_lt_zero _), rA, bel⟩
  clear hW h hz k1 k2 rA bel
  go_enter Try.func80, Try.ntmps80
  go_wp2_with fail
  rw [← HW.out]
  go_loopw [3] (fun i wr => HeadDb w 35 #[.slice A1 n1 c1, .slice A2 n2 c2] n2 d i wr) (fun i _ => n2 - (intOf i).toNat)
  case atStart => exact H0.out
  case round =>
    obtain ⟨k, hk, rfl, hlow, rr, hb⟩ := hrel
    have HLOW := Lib.hid hlow
    clear hlow H0
    have a0 : wr.cell? ⟨w.heap.size, 0, none⟩ = some (.slice A1 n1 c1) := rr.cell 0
    have a1 : wr.cell? ⟨w.heap.size, 1, none⟩ = some (.slice A2 n2 c2) := rr.cell 1
    by_cases hlt : k < n2
    · obtain ⟨b, off, y, rfl, hbB, hy0, ey⟩ := s2.spot hlt
      have hy : wr.cell? ⟨b, off + k, none⟩ = some (.int .i64 y) := (hb.cell (p := ⟨b, off + k, none⟩) hbB).trans hy0
      have hmem := mem_of_get (by rw [HL2.out]; exact hlt) ey.out
      have i0 : (0 : Int) ≤ (k : Int) := by omega
      have i1 : (k : Int) < (n2 : Int) := by omega
      have LC2 := Lib.hid (fun d' : Nat => l1Count (some ⟨b, off, none⟩) n2 c2 d.2 y (wr.drewN d') ((s2.next hb).drewN d') hn2)
      have LC1 := Lib.hid (fun d' : Nat => l1Count A1 n1 c1 d.1 y (wr.drewN d') ((s1.next hb).drewN d') hn1)
      by_cases hyn : y < 0
      · have hdy : decide (y < 0) = true := decide_eq_true hyn
        obtain ⟨p, hp⟩ : ∃ p, cnt d.2 y d.2.length = p := ⟨_, rfl⟩
        obtain ⟨q, hq⟩ : ∃ q, cnt d.1 y d.1.length = q := ⟨_, rfl⟩
        rw [hp] at LC2
        rw [hq] at LC1
        by_cases hpq : q < p
        · have M := Lib.hid (show moreB d y = true by unfold moreB many; rw [hp, hq]; exact decide_eq_true ⟨hyn, hpq⟩)
          have F := Lib.hid (fun d' : Nat => ansB (w' := wr.drewN d') (b := dblB d) (a := true) (by rw [db_yes hmem M.out]) (below_drewN hb d'))
          have hpd : decide ((q : Int) < (p : Int)) = true := decide_eq_true (by omega)
          clear s1 s2 rr hb hmem hy0 ey hp hq
          go_wp2_with fail
          go_quiet (first
            | (go_at_call_of 111 (Value.slice (some ⟨b, off, none⟩) n2 c2); exact Calls.quiet_of_same (v := .int .i64 p) ((LC2.out _).mono fun _ _ ⟨h1, h2⟩ => ⟨h2, h1.symm⟩))
            | (go_at_call_of 111 (Value.slice A1 n1 c1); exact Calls.quiet_of_same (v := .int .i64 q) ((LC1.out _).mono fun _ _ ⟨h1, h2⟩ => ⟨h2, h1.symm⟩)))
          go_wp2
          go_ret
          exact F.out _
        · have M := Lib.hid (show moreB d y = false by unfold moreB many; rw [hp, hq]; exact decide_eq_false (fun hh => hpq hh.2))
          have S := Lib.hid (fun d' : Nat => headDb_step (w := w) (wr := wr.drewN d') hlt HLOW.out ey M.out (rr.drewN d') (below_drewN hb d'))
          have hpd : decide ((q : Int) < (p : Int)) = false := decide_eq_false (by omega)
          clear s1 s2 rr hb hmem hy0 ey hp hq
          go_wp2_with fail
          go_quiet (first
            | (go_at_call_of 111 (Value.slice (some ⟨b, off, none⟩) n2 c2); exact Calls.quiet_of_same (v := .int .i64 p) ((LC2.out _).mono fun _ _ ⟨h1, h2⟩ => ⟨h2, h1.symm⟩))
            | (go_at_call_of 111 (Value.slice A1 n1 c1); exact Calls.quiet_of_same (v := .int .i64 q) ((LC1.out _).mono fun _ _ ⟨h1, h2⟩ => ⟨h2, h1.symm⟩)))
          go_wp2
          go_roundw
          case rel => exact S.out _
          case measure => simp [intOf]; omega
      · have hdy : decide (y < 0) = false := decide_eq_false hyn
        have M := Lib.hid (show moreB d y = false by unfold moreB; exact decide_eq_false (fun hh => hyn hh.1))
        have S := Lib.hid (fun d' : Nat => headDb_step (w := w) (wr := wr.drewN d') hlt HLOW.out ey M.out (rr.drewN d') (below_drewN hb d'))
        clear s1 s2 rr hb hmem hy0 ey LC1 LC2
        go_wp2_with fail
        go_quiet (fail)
        go_wp2
        go_roundw
        case rel => exact S.out _
        case measure => simp [intOf]; omega
    · have F := Lib.hid (ansB (b := dblB d) (a := false) (by rw [db_no HL2.out (fun j hj => HLOW.out j (by omega))]) hb)
      clear s1 s2 rr hb
      go_wp2
      go_ret
      exact F.out

/-! ### DuplicatingIn -/
theorem du_no {sg : List Int} {rs : List Rl} (h : sysOkB sg rs = false) : dupB sg rs = false := by unfold dupB; rw [h]; rfl
theorem du_bad {sg : List Int} {rs : List Rl} {k : Nat} {x : Rl} (h : sysOkB sg rs = true) (hk : k < rs.length) (ex : rs.getD k ([], []) = x) (h2 : dblB x = true) : dupB sg rs = true := by
  unfold dupB
  rw [h, any_round hk (f := dblB) (by rw [ex, h2])]; rfl
theorem du_yes {sg : List Int} {rs : List Rl} (hl : ∀ j, j < rs.length → dblB (rs.getD j ([], [])) = false) : dupB sg rs = false := by
  unfold dupB
  rw [any_rounds (f := dblB) hl]; simp

set_option maxHeartbeats 4000000 in
theorem specDuplicatingIn (a v : Value) (d : Dat sSystem) (w : World) (h : Rd w w.heap.size sSystem [a, v] d) (hz : sz sSystem d ≤ 1048576) :
    Calls Try.prog 33 #[.agg #[a, v]] w (AnsB w (dupB d.1 d.2)) := by
  have S1 := fun (w1 : World) (bb : Below w.heap.size w w1) => specSystemOk a v d w1 (h.next bb) hz
  obtain ⟨A, n, c, V, m, cv, rfl, rfl, hs, hc, hcv, hm, hn, hm1, hrs, hsg, hE⟩ := rd_sys h hz
  obtain ⟨W, hW, rA, bel⟩ := box1 w 29 #[.slice A n c, .slice V m cv]
  have HW := Lib.hid hW
  have HM := Lib.hid hm
  have HE := Lib.hid hE
  have HR := Lib.hid hrs
  have LS := Lib.hid S1
  have H0 : Hid (HeadSy w 29 #[.slice A n c, .slice V m cv] m (fun x => !dblB x) d.2 (.int .i64 0) W) := Lib.hid ⟨0, Nat.zero_le _, rfl, fun j hj => absurd hj (Nat.not_lt_zero _), rA, bel⟩
  clear hW h hz hs hc hcv hm hE hrs hsg S1 rA bel
  go_enter Try.func33, Try.ntmps33
  go_wp2_with fail
  rw [← HW.out]
  go_loopw [3] (fun i wr => HeadSy w 29 #[.slice A n c, .slice V m cv] m (fun x => !dblB x) d.2 i wr) (fun i _ => m - (intOf i).toNat)
  case atStart => exact H0.out
  case round =>
    obtain ⟨k, hk, rfl, hlow, rr, hb⟩ := hrel
    have HLOW := Lib.hid hlow
    clear hlow H0
    have a0 : wr.cell? ⟨w.heap.size, 0, none⟩ = some (.slice A n c) := rr.cell 0
    have a1 : wr.cell? ⟨w.heap.size, 1, none⟩ = some (.slice V m cv) := rr.cell 1
    by_cases hlt : k < m
    · have i1 : (k : Int) < (m : Int) := by omega
      cases ok : sysOkB d.1 d.2 with
      | false =>
        have HO := Lib.hid ok
        clear ok
        go_wp2_with fail
        refine (LS.out wr hb).mono ?_
        rintro e w2 ⟨he, bb⟩
        rw [HO.out] at he
        subst he
        have F := Lib.hid (ansB (b := dupB d.1 d.2) (a := false) (by rw [du_no HO.out]) (next_trans hb bb))
        clear rr hb bb a0 a1
        go_wp2
        go_ret
        exact F.out
      | true =>
        have HO := Lib.hid ok
        clear ok
        go_wp2_with fail
        refine (LS.out wr hb).mono ?_
        rintro e w2 ⟨he, bb⟩
        rw [HO.out] at he
        subst he
        replace rr := rr.next bb
        replace hb := next_trans hb bb
        obtain ⟨b, off, l, r, x, rfl, hbB, ex, hc0, hc1, hx⟩ := rd_at HR.out hb HM.out hlt
        have a1' : w2.cell? ⟨w.heap.size, 1, none⟩ = some (.slice (some ⟨b, off, none⟩) m cv) := rr.cell 1
        have hzx : sz sRule x ≤ 1048576 := by have := HE.out k hlt; rw [ex.out] at this; exact this
        have L := Lib.hid (l6Doubles l r x w2 (hx.more hb.size) hzx)
        have i0 : (0 : Int) ≤ (k : Int) := by omega
        clear hx hzx bb a0 a1 LS
        cases ok : dblB x with
        | true =>
          have HB := Lib.hid ok
          clear ok
          go_wp2_with fail
          refine L.out.mono ?_
          rintro e w3 ⟨he, bb⟩
          rw [HB.out] at he
          subst he
          have F := Lib.hid (ansB (b := dupB d.1 d.2) (a := true) (by rw [du_bad HO.out (by rw [HM.out]; exact hlt) ex.out HB.out]) (next_trans hb bb))
          clear rr hb bb L
          go_wp2
          go_ret
          exact F.out
        | false =>
          have HB := Lib.hid ok
          clear ok
          go_wp2_with fail
          refine L.out.mono ?_
          rintro e w3 ⟨he, bb⟩
          rw [HB.out] at he
          subst he
          have F := Lib.hid (headSy_step (f := fun x => !dblB x) (w := w) hlt HLOW.out ex (by rw [HB.out]; rfl) (rr.next bb) (next_trans hb bb))
          clear rr hb bb L
          go_wp2
          go_roundw
          case rel => exact F.out
          case measure => simp [intOf]; omega
    · have F := Lib.hid (ansB (b := dupB d.1 d.2) (a := false) (by rw [du_yes (fun j hj => by have := HLOW.out j (by rw [HM.out] at hj; omega); simpa using this)]) hb)
      clear rr hb
      go_wp2
      go_ret
      exact F.out

/-! ### l6Defined -/
def HeadDf (w : World) (T : TypeId) (cs : Array Value) (m : Nat) (rs : List Rl) (out i : Value) (wr : World) : Prop :=
  ∃ (k : Nat) (b off n c : Nat), k ≤ m ∧ i = .int .i64 k ∧ out = .slice (some ⟨b, off, none⟩) n c ∧ Seg wr wr.heap.size (some ⟨b, off, none⟩) n (defL (rs.take k)) ∧ n ≤ c ∧ c ≤ 9223372036854775807 ∧ Row wr w.heap.size T cs ∧ Below w.heap.size w wr

set_option maxHeartbeats 4000000 in
theorem l6Defined (a v : Value) (d : Dat sSystem) (w : World) (h : Rd w w.heap.size sSystem [a, v] d) (hz : sz sSystem d ≤ 1048576) (hok : sysOkB d.1 d.2 = true) :
    Calls Try.prog 60 #[.agg #[a, v]] w (AnsInto w (defL d.2)) := by
  obtain ⟨A, n, c, V, m, cv, rfl, rfl, hs, hc, hcv, hm, hn, hm1, hrs, hsg, hE⟩ := rd_sys h hz
  have bel : Below w.heap.size w ((w.alloc (.cells #[.slice A n c, .slice V m cv] 29)).alloc (.cells #[] 2)) := ((Below.refl _ _).alloc (Nat.le_refl _) _).alloc (by simp) _
  have rA := (Row.new w 29 #[.slice A n c, .slice V m cv]).alloc (.cells #[] 2)
  have HM := Lib.hid hm
  have HE := Lib.hid hE
  have HR := Lib.hid hrs
  have HZ := Lib.hid ((sys_parts hok).2.2)
  have H0 : Hid (HeadDf w 29 #[.slice A n c, .slice V m cv] m d.2 (.slice (some ⟨w.heap.size + 1, 0, none⟩) 0 0) (.int .i64 0) ((w.alloc (.cells #[.slice A n c, .slice V m cv] 29)).alloc (.cells #[] 2))) :=
    Lib.hid ⟨0, _, _, 0, 0, Nat.zero_le _, rfl, rfl, Seg.empty, Nat.le_refl _, by omega, rA, bel⟩
  clear h hz hs hc hcv hm hE hrs hsg rA bel hok
  go_enter Try.func60, Try.ntmps60
  go_wp2_with fail
  go_loopw [3, 4] (fun out i wr => HeadDf w 29 #[.slice A n c, .slice V m cv] m d.2 out i wr) (fun _ i _ => m - (intOf i).toNat)
  case atStart => exact H0.out
  case round =>
    obtain ⟨k, ob, oo, on, oc, hk, rfl, rfl, hseg, ho1, ho2, rr, hb⟩ := hrel
    clear H0
    have a1 : wr.cell? ⟨w.heap.size, 1, none⟩ = some (.slice V m cv) := rr.cell 1
    by_cases hlt : k < m
    · obtain ⟨b, off, l, r, x, rfl, hbB, ex, hc0, hc1, hx⟩ := rd_at HR.out hb HM.out hlt
      have hzx : sz sRule x ≤ 1048576 := by have := HE.out k hlt; rw [ex.out] at this; exact this
      have hrx := HZ.out x (by rw [← ex.out]; exact rl_mem (by rw [HM.out]; exact hlt))
      obtain ⟨A1, n1, c1, A2, n2, c2, rfl, rfl, s1, k1, s2, k2, hn1, hn2⟩ := rd_rule hx hzx
      have hp := (term_len (rule_parts hrx).1).1
      rw [s1.1] at hp
      obtain ⟨b2, off2, y, rfl, hbB2, hy, ey⟩ := s1.spot (k := 0) (by omega)
      have hy0 : wr.cell? ⟨b2, off2, none⟩ = some (.int .i64 y) := by simpa using hy
      have i2 : (0 : Int) < (n1 : Int) := by omega
      have i0 : (0 : Int) ≤ (k : Int) := by omega
      have i1 : (k : Int) < (m : Int) := by omega
      have hon : on ≤ 1048576 := by have h1 := hseg.1; have h2 := def_len (d.2.take k); rw [List.length_take] at h2; omega
      have L := Lib.hid (l1Into ob oo on oc (defL (d.2.take k)) y wr hseg ho1 ho2 hon)
      have E := Lib.hid (show defL (d.2.take (k + 1)) = into (defL (d.2.take k)) y by rw [def_take (by rw [HM.out]; exact hlt), ex.out]; unfold ruleMath.hd; rw [ey.out])
      clear hx hzx hrx s1 s2 k1 k2 hy ey ex hseg hc1
      go_wp2_with fail
      refine L.out.mono ?_
      rintro e w2 ⟨ob', oo', on', oc', rfl, hseg', h1', h2', bb⟩
      have F : HeadDf w 29 #[.slice A n c, .slice (some ⟨b, off, none⟩) m cv] m d.2 (.slice (some ⟨ob', oo', none⟩) on' oc') (.int .i64 ((k : Int) + 1)) w2 :=
        ⟨k + 1, ob', oo', on', oc', hlt, by simp, rfl, by rw [E.out]; exact hseg', h1', h2', rr.next bb, next_trans hb bb⟩
      have HF := Lib.hid F
      clear F hseg' bb rr hb L E
      go_wp2
      go_roundw
      case rel => exact HF.out
      case measure => simp [intOf]; omega
    · have F : AnsInto w (defL d.2) (.returned (.slice (some ⟨ob, oo, none⟩) on oc)) wr := ⟨ob, oo, on, oc, rfl, by rw [List.take_of_length_le (by rw [HM.out]; omega)] at hseg; exact hseg, ho1, ho2, hb⟩
      have HF := Lib.hid F
      clear F hseg rr hb
      go_wp2
      go_ret
      exact HF.out

set_option maxHeartbeats 4000000 in
theorem specDefinedIn (a v : Value) (d : Dat sSystem) (w : World) (h : Rd w w.heap.size sSystem [a, v] d) (hz : sz sSystem d ≤ 1048576) :
    Calls Try.prog 20 #[.agg #[a, v]] w (AnsSeg w (definedI d.1 d.2)) := by
  obtain ⟨W, hW, rA, bel⟩ := box1 w 29 #[a, v]
  have HW := Lib.hid hW
  have L1 := Lib.hid (specSystemOk a v d W (h.next bel) hz)
  have L2 := Lib.hid (fun (w1 : World) (bb : Below w.heap.size w w1) => l6Defined a v d w1 (h.next bb) hz)
  clear hW h hz
  cases ok : sysOkB d.1 d.2 with
  | false =>
    have HS := Lib.hid ok
    clear ok
    go_enter Try.func20, Try.ntmps20
    go_wp2_with fail
    rw [← HW.out]
    refine L1.out.mono ?_
    rintro e w1 ⟨he, bb⟩
    rw [HS.out] at he
    subst he
    have F : AnsSeg w (definedI d.1 d.2) (.returned (.slice (some ⟨w1.heap.size, 0, none⟩) 0 0)) (w1.alloc (.cells #[] 2)) :=
      ⟨_, 0, 0, rfl, by unfold definedI; rw [if_neg (by rw [HS.out]; simp)]; exact Seg.empty, (next_trans bel bb).alloc (next_trans bel bb).size _⟩
    have HF := Lib.hid F
    clear F bel rA bb
    go_wp2
    go_ret
    exact HF.out
  | true =>
    have HS := Lib.hid ok
    clear ok
    go_enter Try.func20, Try.ntmps20
    go_wp2_with fail
    rw [← HW.out]
    refine L1.out.mono ?_
    rintro e w1 ⟨he, bb⟩
    rw [HS.out] at he
    subst he
    replace rA := rA.next bb
    replace bel := next_trans bel bb
    have a0 : w1.cell? ⟨w.heap.size, 0, none⟩ = some a := rA.cell 0
    have a1 : w1.cell? ⟨w.heap.size, 1, none⟩ = some v := rA.cell 1
    clear bb L1
    go_wp2_with fail
    refine (L2.out w1 bel HS.out).mono ?_
    rintro e w2 ⟨b, off, n, c, rfl, hseg, _, _, bb⟩
    have F : AnsSeg w (definedI d.1 d.2) (.returned (.slice (some ⟨b, off, none⟩) n c)) w2 := ⟨_, n, c, rfl, by unfold definedI; rw [if_pos HS.out]; exact hseg, next_trans bel bb⟩
    have HF := Lib.hid F
    clear F bel rA bb hseg a0 a1 L2
    go_wp2
    go_ret
    exact HF.out

/-! ### ConstructorsIn -/
theorem one_row (w : World) (y : Int) : Seg (w.alloc (.cells #[.int .i64 y] 2)) (w.heap.size + 1) (some ⟨w.heap.size, 0, none⟩) 1 [y] :=
  (Row.new w 2 #[.int .i64 y]).seg rfl (by omega) (fun j hj => by
    have e : j = 0 := by omega
    subst e
    rfl)
def HeadCo (w : World) (T : TypeId) (cs : Array Value) (n : Nat) (rs : List Rl) (db dx dn : Nat) (out i : Value) (wr : World) : Prop :=
  ∃ (k : Nat) (O : Option Addr) (on oc : Nat), k ≤ n ∧ i = .int .i64 k ∧ out = .slice O on oc ∧ Own wr (w.heap.size + 1) (.slice O on oc) (symL (fun x => !isDef rs x) k) ∧ Seg wr wr.heap.size (some ⟨db, dx, none⟩) dn (defL rs) ∧ (dn = 0 ∨ blk O ≠ some db) ∧ Row wr w.heap.size T cs ∧ Below w.heap.size w wr
theorem sym_yes {p : Int → Bool} {k : Nat} (h : p (k : Int) = true) : symL p (k + 1) = symL p k ++ [(k : Int)] := by rw [symL, if_pos h]
theorem sym_no {p : Int → Bool} {k : Nat} (h : p (k : Int) = false) : symL p (k + 1) = symL p k := by rw [symL, if_neg (by rw [h]; simp), List.append_nil]

set_option maxHeartbeats 4000000 in
theorem specConstructorsIn (a v : Value) (d : Dat sSystem) (w : World) (h : Rd w w.heap.size sSystem [a, v] d) (hz : sz sSystem d ≤ 1048576) :
    Calls Try.prog 21 #[.agg #[a, v]] w (AnsSeg w (consI d.1 d.2)) := by
  have S1 := fun (w1 : World) (bb : Below w.heap.size w w1) => specSystemOk a v d w1 (h.next bb) hz
  have S2 := fun (w1 : World) (bb : Below w.heap.size w w1) => l6Defined a v d w1 (h.next bb) hz
  obtain ⟨A, n, c, V, m, cv, rfl, rfl, hs, hc, hcv, hm, hn, hm1, hrs, hsg, hE⟩ := rd_sys h hz
  obtain ⟨W, hW, rA, rO, bel⟩ := box2 w 29 2 #[.slice A n c, .slice V m cv] #[]
  have hO := own_empty (w.alloc (.cells #[.slice A n c, .slice V m cv] 29)) (w.heap.size + 1) (by simp)
  rw [← hW] at hO
  have hO : Own W (w.heap.size + 1) (.slice (some ⟨w.heap.size + 1, 0, none⟩) 0 0) [] := by simpa using hO
  have HW := Lib.hid hW
  have HN := Lib.hid hs.1
  have L1 := Lib.hid (S1 W bel)
  have L2 := Lib.hid S2
  clear hW h hz hs hc hcv hm hE hrs hsg S1 S2
  cases ok : sysOkB d.1 d.2 with
  | false =>
    have HS := Lib.hid ok
    clear ok
    go_enter Try.func21, Try.ntmps21
    go_wp2_with fail
    rw [← HW.out]
    refine L1.out.mono ?_
    rintro e w1 ⟨he, bb⟩
    rw [HS.out] at he
    subst he
    have F : AnsSeg w (consI d.1 d.2) (.returned (.slice (some ⟨w.heap.size + 1, 0, none⟩) 0 0)) w1 :=
      ⟨_, 0, 0, rfl, by unfold consI; rw [if_neg (by rw [HS.out]; simp)]; exact Seg.empty, next_trans bel bb⟩
    have HF := Lib.hid F
    clear F bel rA rO hO bb
    go_wp2
    go_ret
    exact HF.out
  | true =>
    have HS := Lib.hid ok
    clear ok
    go_enter Try.func21, Try.ntmps21
    go_wp2_with fail
    rw [← HW.out]
    refine L1.out.mono ?_
    rintro e w1 ⟨he, bb⟩
    rw [HS.out] at he
    subst he
    replace rA := rA.next bb
    replace rO := rO.next bb
    replace hO := hO.next bb
    replace bel := next_trans bel bb
    have a0 : w1.cell? ⟨w.heap.size, 0, none⟩ = some (.slice A n c) := rA.cell 0
    have a1 : w1.cell? ⟨w.heap.size, 1, none⟩ = some (.slice V m cv) := rA.cell 1
    clear bb L1
    go_wp2_with fail
    refine (L2.out w1 bel HS.out).mono ?_
    rintro e w2 ⟨db, dx, dn, dc, rfl, hseg, hd1, hd2, bb⟩
    replace rA := rA.next bb
    replace rO := rO.next bb
    replace hO := hO.next bb
    replace bel := next_trans bel bb
    have hdn : dn ≤ 1048576 := by have h1 := hseg.1; have h2 := def_len d.2; have h3 := (sys_parts HS.out).2.1; omega
    have hdis : dn = 0 ∨ blk (some ⟨w.heap.size + 1, 0, none⟩) ≠ some db := by
      by_cases h0 : dn = 0
      · exact .inl h0
      · right
        intro e
        have e : w.heap.size + 1 = db := Option.some.inj e
        obtain ⟨b', off', e2, _, hc⟩ := hseg.2 (by omega)
        injection e2 with e2
        injection e2 with e3 e4
        subst e3 e4
        have := hc 0 (by omega)
        rw [← e, rO.cell] at this
        simp at this
    have H0 : Hid (HeadCo w 29 #[.slice A n c, .slice V m cv] n d.2 db dx dn (.slice (some ⟨w.heap.size + 1, 0, none⟩) 0 0) (.int .i64 0) w2) := Lib.hid ⟨0, _, _, _, Nat.zero_le _, rfl, rfl, by simpa [symL] using hO, hseg, hdis, rA, bel⟩
    clear bb L2 rA rO hO bel hseg hdis a0 a1
    go_wp2_with fail
    go_loopw [3, 5] (fun out i wr => HeadCo w 29 #[.slice A n c, .slice V m cv] n d.2 db dx dn out i wr) (fun _ i _ => n - (intOf i).toNat)
    case atStart => exact H0.out
    case round =>
      obtain ⟨k, O, on, oc, hk, rfl, rfl, ho, hseg, hdis, rr, hb⟩ := hrel
      clear H0
      have a0 : wr.cell? ⟨w.heap.size, 0, none⟩ = some (.slice A n c) := rr.cell 0
      by_cases hlt : k < n
      · have LH := Lib.hid (l1Has (some ⟨db, dx, none⟩) dn dc (defL d.2) (k : Int) wr hseg hdn)
        have hon : on ≤ 1048576 := by have h1 := Own.len ho; have h2 := sym_len (p := fun x => !isDef d.2 x) k; omega
        have i1 : (k : Int) < (n : Int) := by omega
        cases hdf : isDef d.2 (k : Int) with
        | true =>
          have E := Lib.hid (show decide ((k : Int) ∈ defL d.2) = true by rw [← isDef_mem]; exact hdf)
          have F : HeadCo w 29 #[.slice A n c, .slice V m cv] n d.2 db dx dn (.slice O on oc) (.int .i64 ((k : Int) + 1)) wr := ⟨k + 1, O, on, oc, hlt, by simp, rfl, by rw [sym_no (by rw [hdf]; rfl)]; exact ho, hseg, hdis, rr, hb⟩
          have HF := Lib.hid F
          clear F ho hseg hdis rr hb hdf
          go_wp2_with fail
          refine LH.out.mono ?_
          rintro e w3 ⟨rfl, he⟩
          rw [E.out] at he
          subst he
          clear LH
          go_wp2
          go_roundw
          case rel => exact HF.out
          case measure => simp [intOf]; omega
        | false =>
          have E := Lib.hid (show decide ((k : Int) ∈ defL d.2) = false by rw [← isDef_mem]; exact hdf)
          have hlw := hb.size
          have hrl := rr.lt
          have ho1 := Own.alloc ho (.cells #[.int .i64 (k : Int)] 2)
          have R := Lib.hid (fun (O' : Option Addr) (oc' : Nat) (w' : World) (ho' : Own w' (w.heap.size + 1) (.slice O' (on + 1) oc') (symL (fun x => !isDef d.2 x) k ++ [(k : Int)])) (hg : (wr.alloc (.cells #[.int .i64 (k : Int)] 2)).grownBy w' (blk O)) (hat : blk O' = blk O ∨ blk O' = some (wr.alloc (.cells #[.int .i64 (k : Int)] 2)).heap.size) =>
            (show HeadCo w 29 #[.slice A n c, .slice V m cv] n d.2 db dx dn (.slice O' (on + 1) oc') (.int .i64 ((k : Int) + 1)) w' from by
              have hge := Own.ge ho
              refine ⟨k + 1, O', on + 1, oc', hlt, by simp, rfl, by rw [sym_yes (by rw [hdf]; rfl)]; exact ho', ?_, ?_, ?_, ?_⟩
              · rcases hdis with h0 | hne
                · have := hseg.1
                  have e2 : defL d.2 = [] := List.eq_nil_of_length_eq_zero (by omega)
                  rw [e2, h0]; exact Seg.empty
                · have h1 := hseg.alloc (Nat.le_refl _) (.cells #[.int .i64 (k : Int)] 2)
                  refine ⟨h1.1, fun hn0 => ?_⟩
                  obtain ⟨b', off', e2, hbb, hcc⟩ := h1.2 hn0
                  refine ⟨b', off', e2, Nat.lt_of_lt_of_le hbb (by have := hg.size; simp at this; omega), fun j hj => ?_⟩
                  injection e2 with e2
                  injection e2 with e3 e4
                  rw [← hcc j hj]
                  exact World.cell?_of_block (hg.block b' (by simp; omega) (fun e => hne (by rw [← e, e3])))
              · rcases hat with h | h
                · rw [h]; exact hdis
                · by_cases h0 : dn = 0
                  · exact .inl h0
                  · right
                    rw [h]
                    intro e
                    have e := Option.some.inj e
                    obtain ⟨b', off', e2, hbb, _⟩ := hseg.2 (by omega)
                    injection e2 with e2
                    injection e2 with e3 e4
                    simp at e
                    omega
              · exact Row.away (rr.alloc _) hg (fun e => by have := hge _ e; omega)
              · exact (hb.alloc hlw _).grown hg (by simp; omega) (fun q hq => by have := hge q hq; omega)))
          clear ho hseg hdis rr hb hdf
          go_wp2_with (first
            | (go_at_call 61; refine LH.out.mono ?_; rintro e w3 ⟨rfl, he⟩; rw [E.out] at he; subst he)
            | (at_builtin; refine appAllAt rfl _ _ rfl (w.heap.size + 1) O on oc (symL (fun x => !isDef d.2 x) k) rfl ho1 (some ⟨wr.heap.size, 0, none⟩) 1 1 (wr.heap.size + 1) [(k : Int)] rfl (one_row wr (k : Int)) (by omega) (by omega) (by omega) (by simp; omega) ?_; intro O' oc' w' ho' hg hat))
          have HF := Lib.hid (R.out O' oc' w' ho' hg hat)
          clear ho' hg hat ho1 R
          go_wp2
          go_roundw
          case rel => exact HF.out
          case measure => simp [intOf]; omega
      · have F : AnsSeg w (consI d.1 d.2) (.returned (.slice O on oc)) wr := ⟨O, on, oc, rfl, by
          have e1 : k = n := by omega
          subst e1
          unfold consI; rw [if_pos HS.out, HN.out]; exact Own.seg ho, hb⟩
        have HF := Lib.hid F
        clear F ho hseg hdis rr hb
        go_wp2
        go_ret
        exact HF.out

/-! ### ConstructorSystem -/
theorem nest_yes {rs : List Rl} {x : Rl} {j : Nat} {y : Int} (h1 : 1 ≤ j) (h2 : j < x.1.length) (e : x.1.getD j 0 = y) (h : isDef rs y = true) : nestB rs x = true := by
  unfold nestB
  rw [List.any_eq_true]
  refine ⟨y, ?_, h⟩
  rw [← e]
  obtain ⟨q, rfl⟩ : ∃ q, j = 1 + q := ⟨j - 1, by omega⟩
  have : x.1.getD (1 + q) 0 = (x.1.drop 1)[q]'(by rw [List.length_drop]; omega) := by rw [List.getElem_drop]; simp only [List.getD, List.getElem?_eq_getElem h2, Option.getD_some]
  rw [this]
  exact List.getElem_mem _
theorem nest_no {rs : List Rl} {x : Rl} (h : ∀ j, 1 ≤ j → j < x.1.length → isDef rs (x.1.getD j 0) = false) : nestB rs x = false := by
  unfold nestB
  rw [List.any_eq_false]
  intro y hy
  obtain ⟨q, hq, rfl⟩ := List.getElem_of_mem hy
  rw [List.length_drop] at hq
  have := h (1 + q) (by omega) (by omega)
  simp only [List.getElem_drop]
  have e : x.1.getD (1 + q) 0 = x.1[1 + q]'(by omega) := by simp [List.getD, show 1 + q < x.1.length by omega]
  rw [e] at this
  simp [this]
theorem cs_no {sg : List Int} {rs : List Rl} (h : sysOkB sg rs = false) : consB sg rs = false := by unfold consB; rw [h]; rfl
theorem cs_bad {sg : List Int} {rs : List Rl} {k : Nat} {x : Rl} (hk : k < rs.length) (ex : rs.getD k ([], []) = x) (h : nestB rs x = true) : consB sg rs = false := by
  unfold consB
  rw [any_round hk (f := nestB rs) (by rw [ex, h])]; simp
theorem cs_yes {sg : List Int} {rs : List Rl} (h : sysOkB sg rs = true) (hl : ∀ j, j < rs.length → nestB rs (rs.getD j ([], [])) = false) : consB sg rs = true := by
  unfold consB
  rw [h, any_rounds (f := nestB rs) hl]; rfl

set_option maxHeartbeats 8000000 in
theorem specConstructorSystem (a v : Value) (d : Dat sSystem) (w : World) (h : Rd w w.heap.size sSystem [a, v] d) (hz : sz sSystem d ≤ 1048576) :
    Calls Try.prog 36 #[.agg #[a, v]] w (AnsB w (consB d.1 d.2)) := by
  have S1 := fun (w1 : World) (bb : Below w.heap.size w w1) => specSystemOk a v d w1 (h.next bb) hz
  have S2 := fun (w1 : World) (bb : Below w.heap.size w w1) => l6Defined a v d w1 (h.next bb) hz
  obtain ⟨A, n, c, V, m, cv, rfl, rfl, hs, hc, hcv, hm, hn, hm1, hrs, hsg, hE⟩ := rd_sys h hz
  obtain ⟨W, hW, rA, bel⟩ := box1 w 29 #[.slice A n c, .slice V m cv]
  have HW := Lib.hid hW
  have HM := Lib.hid hm
  have HE := Lib.hid hE
  have HR := Lib.hid hrs
  have L1 := Lib.hid (S1 W bel)
  have L2 := Lib.hid S2
  clear hW h hz hs hc hcv hm hE hrs hsg S1 S2
  cases ok : sysOkB d.1 d.2 with
  | false =>
    have HS := Lib.hid ok
    clear ok
    go_enter Try.func36, Try.ntmps36
    go_wp2_with fail
    rw [← HW.out]
    refine L1.out.mono ?_
    rintro e w1 ⟨he, bb⟩
    rw [HS.out] at he
    subst he
    have F := Lib.hid (ansB (b := consB d.1 d.2) (a := false) (by rw [cs_no HS.out]) (next_trans bel bb))
    clear bel rA bb
    go_wp2
    go_ret
    exact F.out
  | true =>
    have HS := Lib.hid ok
    clear ok
    go_enter Try.func36, Try.ntmps36
    go_wp2_with fail
    rw [← HW.out]
    refine L1.out.mono ?_
    rintro e w1 ⟨he, bb⟩
    rw [HS.out] at he
    subst he
    replace rA := rA.next bb
    replace bel := next_trans bel bb
    have a0 : w1.cell? ⟨w.heap.size, 0, none⟩ = some (.slice A n c) := rA.cell 0
    have a1 : w1.cell? ⟨w.heap.size, 1, none⟩ = some (.slice V m cv) := rA.cell 1
    clear bb L1
    go_wp2_with fail
    refine (L2.out w1 bel HS.out).mono ?_
    rintro e w2 ⟨db, dx, dn, dc, rfl, hseg, hd1, hd2, bb⟩
    replace rA := rA.next bb
    replace bel := next_trans bel bb
    have hdn : dn ≤ 1048576 := by have h1 := hseg.1; have h2 := def_len d.2; have h3 := (sys_parts HS.out).2.1; omega
    have b1 : w2.cell? ⟨w.heap.size, 1, none⟩ = some (.slice V m cv) := rA.cell 1
    have LH := Lib.hid (fun y : Int => l1Has (some ⟨db, dx, none⟩) dn dc (defL d.2) y w2 hseg hdn)
    clear bb L2 rA hseg a0 a1 hd1 hd2
    go_wp2_with fail
    go_loopw [4] (fun i wr => ∃ k : Nat, k ≤ m ∧ i = .int .i64 k ∧ (∀ j, j < k → nestB d.2 (d.2.getD j ([], [])) = false) ∧ wr = w2) (fun i _ => m - (intOf i).toNat)
    case atStart => exact ⟨0, Nat.zero_le _, rfl, fun j hj => absurd hj (Nat.not_lt_zero _), rfl⟩
    case round =>
      obtain ⟨k, hk, rfl, hlow, hw⟩ := hrel
      subst hw
      have HLOW := Lib.hid hlow
      clear hlow
      by_cases hlt : k < m
      · obtain ⟨b, off, l, r, x, rfl, hbB, ex, hc0, hc1, hx⟩ := rd_at HR.out bel HM.out hlt
        have hzx : sz sRule x ≤ 1048576 := by have := HE.out k hlt; rw [ex.out] at this; exact this
        have hrx := (sys_parts HS.out).2.2 x (by rw [← ex.out]; exact rl_mem (by rw [HM.out]; exact hlt))
        obtain ⟨A1, n1, c1, A2, n2, c2, rfl, rfl, s1, k1, s2, k2, hn1, hn2⟩ := rd_rule hx hzx
        have hp := (term_len (rule_parts hrx).1).1
        rw [s1.1] at hp
        have HL1 := Lib.hid s1.1
        have i0 : (0 : Int) ≤ (k : Int) := by omega
        have i1 : (k : Int) < (m : Int) := by omega
        clear hx hzx hrx s2 k1 k2 hc1
        go_wp2_with fail
        go_loopw [5] (fun q wi => ∃ p : Nat, 1 ≤ p ∧ p ≤ n1 ∧ q = .int .i64 p ∧ (∀ j, 1 ≤ j → j < p → isDef d.2 (x.1.getD j 0) = false) ∧ wi = wr) (fun q _ => n1 - (intOf q).toNat)
        case atStart => exact ⟨1, Nat.le_refl _, hp, rfl, fun j h1 h2 => absurd h2 (by omega), rfl⟩
        case round =>
          obtain ⟨p, hp1, hp2, rfl, hlow2, hw2⟩ := hrel
          subst hw2
          have HLOW2 := Lib.hid hlow2
          clear hlow2
          by_cases hlt2 : p < n1
          · obtain ⟨b2, off2, y, rfl, hbB2, hy, ey⟩ := s1.spot hlt2
            have j0 : (0 : Int) ≤ (p : Int) := by omega
            have j1 : (p : Int) < (n1 : Int) := by omega
            have L := Lib.hid (LH.out y)
            cases hdf : isDef d.2 y with
            | true =>
              have E := Lib.hid (show decide (y ∈ defL d.2) = true by rw [← isDef_mem]; exact hdf)
              have F := Lib.hid (ansB (b := consB d.1 d.2) (a := false) (by rw [cs_bad (by rw [HM.out]; exact hlt) ex.out (nest_yes hp1 (by rw [HL1.out]; exact hlt2) ey.out hdf)]) bel)
              clear s1 ey hdf bel
              go_wp2_with fail
              refine L.out.mono ?_
              rintro e w4 ⟨rfl, he⟩
              rw [E.out] at he
              subst he
              clear L LH
              go_wp2
              go_ret
              exact F.out
            | false =>
              have E := Lib.hid (show decide (y ∈ defL d.2) = false by rw [← isDef_mem]; exact hdf)
              have S : Hid (∀ j, 1 ≤ j → j < p + 1 → isDef d.2 (x.1.getD j 0) = false) := Lib.hid fun j h1 h2 => by
                by_cases e : j = p
                · subst e; rw [ey.out]; exact hdf
                · exact HLOW2.out j h1 (by omega)
              clear s1 ey hdf
              go_wp2_with fail
              refine L.out.mono ?_
              rintro e w4 ⟨rfl, he⟩
              rw [E.out] at he
              subst he
              clear L LH
              go_wp2
              go_roundw
              case rel => exact ⟨p + 1, by omega, hlt2, by simp, S.out, by trivial⟩
              case measure => simp [intOf]; omega
          · have S : Hid (∀ j, j < k + 1 → nestB d.2 (d.2.getD j ([], [])) = false) := Lib.hid fun j hj => by
              by_cases e : j = k
              · subst e; rw [ex.out]; exact nest_no (fun j h1 h2 => HLOW2.out j h1 (by rw [HL1.out] at h2; omega))
              · exact HLOW.out j (by omega)
            clear s1
            go_wp2
            go_roundw
            case rel => exact ⟨k + 1, hlt, by simp, S.out, by trivial⟩
            case measure => simp [intOf]; omega
      · have F := Lib.hid (ansB (b := consB d.1 d.2) (a := true) (by rw [cs_yes HS.out (fun j hj => HLOW.out j (by rw [HM.out] at hj; omega))]) bel)
        clear bel
        go_wp2
        go_ret
        exact F.out
end Go.Proofs.Ytdkjafjphgcbjaa.ruleSpec
end
