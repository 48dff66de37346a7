/-
  MERGED: my texts PlainFacts, RenPure, UnifLaw, RenImpl, GenPos, AppZ, GenTab, GenSpec, GenRec, GenMain, General, Met, MatchSpec, Whole, TakeMath, Take, one behind the other, as they are. By an AI agent.
-/
import Derived.Test.YtkmhnkljigncmaaGreatMFnMet6
import Derived.Deep.QuietTactic
import Derived.BigQuiet
import Derived.Deep.RegionHeld3
import Derived.Deep.LoopGhost
import Derived.Laws.Rows
import Derived.Laws.ResultCell
section
/-
  PLAIN MATHEMATICS of plain substitutions: the plain form is valid, replaces in the same way, and is unique; of compositions: they are valid and fill as one after the other. Conditions: those named. By an AI agent.
-/
namespace Go.Proofs.YtkmhnkljigncmaaGreat.plainFacts
open Go.RowKit Go.Proofs.YtkmhnkljigncmaaGreat.base Go.Proofs.YtkmhnkljigncmaaGreat.ints Go.Proofs.YtkmhnkljigncmaaGreat.sig Go.Proofs.YtkmhnkljigncmaaGreat.term Go.Proofs.YtkmhnkljigncmaaGreat.termOk Go.Proofs.YtkmhnkljigncmaaGreat.termFacts Go.Proofs.YtkmhnkljigncmaaGreat.fillMath Go.Proofs.YtkmhnkljigncmaaGreat.plainMath Go.Proofs.YtkmhnkljigncmaaGreat.plainOf Go.Proofs.YtkmhnkljigncmaaGreat.substOk Go.Proofs.YtkmhnkljigncmaaGreat.gives Go.Proofs.YtkmhnkljigncmaaGreat.sameSubst Go.Proofs.YtkmhnkljigncmaaGreat.compMath Go.Proofs.YtkmhnkljigncmaaGreat.filled

/-- a plain form gives what its look-up gives -/
theorem gives_plain {L : Nat → List Int} {m i : Nat} (hpos : ∀ i, 1 ≤ (L i).length) (hout : ∀ i, m ≤ i → L i = vt i) : givesL (plainL L m) i = L i := by
  have e := plain_get L m i
  by_cases h : i < m
  · rw [rows_get h] at e
    unfold bare at e
    by_cases h2 : L i = vt i
    · rw [if_pos h2] at e
      rw [gives_var (by rw [e]; rfl), h2]
    · rw [if_neg h2] at e
      rw [gives_term (by rw [e]; have := hpos i; omega), e]
  · have e0 : (rowsL L m).getD i [] = [] := by simp [List.getD, rows_len, h]
    rw [e0] at e
    rw [gives_var (by rw [e]; rfl), hout i (by omega)]
theorem plain_gives {ss : List (List Int)} (i : Nat) : givesL (plainL (givesL ss) ss.length) i = givesL ss i :=
  gives_plain (fun j => gives_pos ss j) (fun j hj => gives_out (by omega))
/-- a plain form is valid, if its look-up gives terms -/
theorem plain_valid {sg : List Int} {L : Nat → List Int} {m : Nat} (hs : sigOkB sg = true) (hm : m ≤ 24) (hok : ∀ i, i < m → termOkB sg (L i) = true) : substOkB sg (plainL L m) = true := by
  have hl := plain_len L m
  refine subst_good hs (by omega) (fun j hj => ?_)
  rw [plain_get, rows_get (by omega)]
  unfold bare goodB
  split
  · simp
  · rw [hok j (by omega)]
    simp
theorem plain_ok {sg : List Int} {ss : List (List Int)} (h : substOkB sg ss = true) : substOkB sg (plainL (givesL ss) ss.length) = true :=
  plain_valid (substOk_parts h).1 (substOk_parts h).2.1 (fun i hi => gives_ok h (by have := (substOk_parts h).2.1; omega))
theorem plain_eq_24 {ss : List (List Int)} (h : ss.length ≤ 24) : plainL (givesL ss) ss.length = plainL (givesL ss) 24 := (plain_24 h (fun i hi => gives_out (by omega))).symm
/-- two valid substitutions replace in the same way if and only if their plain forms are equal -/
theorem plain_iff {sg : List Int} {a b : List (List Int)} (ha : substOkB sg a = true) (hb : substOkB sg b = true) : sameB sg a b = decide (plainL (givesL a) a.length = plainL (givesL b) b.length) := by
  rw [same_ab ha hb]
  by_cases h : sameG a b = true
  · rw [h]
    symm
    rw [decide_eq_true_eq, plain_eq_24 (substOk_parts ha).2.1, plain_eq_24 (substOk_parts hb).2.1]
    exact plain_ext (fun i hi => sameG_iff.1 h i hi)
  · have h0 : sameG a b = false := by simpa using h
    rw [h0]
    symm
    rw [decide_eq_false_iff_not]
    intro e
    refine h (sameG_iff.2 (fun i _ => ?_))
    rw [← plain_gives (ss := a) i, ← plain_gives (ss := b) i, e]
theorem plain_self {sg : List Int} {a : List (List Int)} (ha : substOkB sg a = true) : sameB sg (plainL (givesL a) a.length) a = true := by
  rw [same_ab (plain_ok ha) ha]
  exact sameG_iff.2 (fun i _ => plain_gives i)
/-- nothing, or its last term is there -/
theorem plain_last (L : Nat → List Int) (m : Nat) : (plainL L m).length = 0 ∨ 0 < ((plainL L m).getD ((plainL L m).length - 1) []).length := by
  unfold plainL
  rcases strip_end (rowsL L m) with h | ⟨q, h1, h2⟩
  · exact .inl (by rw [h]; rfl)
  · refine .inr ?_
    rw [h1, Nat.add_sub_cancel]
    exact List.length_pos_iff.2 h2
/-- the composition, as a substitution -/
theorem comp_gives {sg : List Int} {ss us : List (List Int)} (h : composedB sg ss us = true) (i : Nat) : givesL (composedI sg ss us) i = if i < 24 then compL us ss i else vt i := by
  rw [composed_yes h]
  have hs : substOkB sg ss = true := by unfold composedB at h; simp at h; exact h.1
  have hu : substOkB sg us = true := by unfold composedB at h; simp at h; exact h.2.1
  have e : compL us ss = fun i => compL us ss i := rfl
  have h1 := gives_plain (L := compL us ss) (m := 24) (i := i) (fun j => comp_pos us ss j) (fun j hj => comp_out (by have := (substOk_parts hs).2.1; omega) (by have := (substOk_parts hu).2.1; omega))
  rw [h1]
  split
  · rfl
  · rename_i h2
    exact comp_out (by have := (substOk_parts hs).2.1; omega) (by have := (substOk_parts hu).2.1; omega)
theorem comp_ok {sg : List Int} {ss us : List (List Int)} (h : composedB sg ss us = true) : substOkB sg (composedI sg ss us) = true := by
  have hs : substOkB sg ss = true := by unfold composedB at h; simp at h; exact h.1
  have hu : substOkB sg us = true := by unfold composedB at h; simp at h; exact h.2.1
  have hc : compOk us ss = true := by unfold composedB at h; simp at h; exact h.2.2
  rw [composed_yes h]
  refine plain_valid (substOk_parts hs).1 (Nat.le_refl _) (fun i hi => ?_)
  unfold compL
  refine fill_term (gives_ok hs hi) (fun x hx h0 => gives_ok hu ?_) (compOk_iff.1 hc i hi)
  have := term_mem (gives_ok hs hi) hx
  omega
/-- filling by the composition is filling twice -/
theorem comp_fill {sg : List Int} {ss us : List (List Int)} {t : List Int} (h : composedB sg ss us = true) (ht : termOkB sg t = true) : fillL (givesL (composedI sg ss us)) t = fillL (givesL us) (fillL (givesL ss) t) := by
  rw [fill_fill]
  refine fill_ext (fun x hx h0 => ?_)
  rw [comp_gives h]
  have := term_mem ht hx
  rw [if_pos (by omega)]
  rfl
/-- both ways give the same -/
theorem comp_facts {sg : List Int} {ss us : List (List Int)} {t : List Int} (h : composedB sg ss us = true) (h1 : filledB sg ss t = true) (h2 : filledB sg us (filledL sg ss t) = true) :
    substOkB sg (composedI sg ss us) = true ∧ filledB sg (composedI sg ss us) t = true ∧ filledL sg (composedI sg ss us) t = filledL sg us (filledL sg ss t) := by
  have a1 : termOkB sg t = true := by unfold filledB at h1; simp at h1; exact h1.2.1
  have e1 : filledL sg ss t = fillL (givesL ss) t := by unfold filledL; rw [if_pos h1]
  have e2 : filledL sg us (filledL sg ss t) = fillL (givesL us) (fillL (givesL ss) t) := by unfold filledL; rw [if_pos (by have := h2; unfold filledL at this; exact this), if_pos h1]
  have a2 : fitsB us (filledL sg ss t) = true := by unfold filledB at h2; simp at h2; exact h2.2.2
  have hb : filledB sg (composedI sg ss us) t = true := by
    rw [filled_b (comp_ok h) a1]
    unfold fitsB at a2 ⊢
    rw [comp_fill h a1, ← e1]
    exact a2
  refine ⟨comp_ok h, hb, ?_⟩
  rw [e2]
  unfold filledL
  rw [if_pos hb]
  exact comp_fill h a1
end Go.Proofs.YtkmhnkljigncmaaGreat.plainFacts
end

section
/-
  PLAIN MATHEMATICS of renamed terms: a renamed term is a term, its variables are 0, 1, .., renamed again it stays. Conditions: none but those named. By an AI agent.
-/
namespace Go.Proofs.YtkmhnkljigncmaaGreat.renPure
open Go.Proofs.YtkmhnkljigncmaaGreat.sig Go.Proofs.YtkmhnkljigncmaaGreat.term Go.Proofs.YtkmhnkljigncmaaGreat.termOk Go.Proofs.YtkmhnkljigncmaaGreat.termFacts Go.Proofs.YtkmhnkljigncmaaGreat.varsMath Go.Proofs.YtkmhnkljigncmaaGreat.fillMath Go.Proofs.YtkmhnkljigncmaaGreat.renMath

theorem pigeon : ∀ (n : Nat) (l : List Nat), l.Nodup → (∀ x ∈ l, x < n) → l.length ≤ n
  | 0, l, _, h => by
    cases l with
    | nil => simp
    | cons a r => exact absurd (h a (List.mem_cons_self ..)) (Nat.not_lt_zero _)
  | n + 1, l, hd, h => by
    have h1 := pigeon n (l.erase n) (hd.erase n) (fun x hx => by
      have h2 := (hd.mem_erase_iff).1 hx
      have := h x h2.2
      omega)
    have h3 : l.length ≤ (l.erase n).length + 1 := by
      rw [List.length_erase]
      split <;> omega
    omega

theorem map_nodup {α β : Type} {f : α → β} : ∀ {l : List α}, l.Nodup → (∀ a ∈ l, ∀ b ∈ l, f a = f b → a = b) → (l.map f).Nodup
  | [], _, _ => List.nodup_nil
  | a :: r, h, hf => by
    have h1 := List.nodup_cons.1 h
    rw [List.map_cons, List.nodup_cons]
    refine ⟨fun hm => ?_, map_nodup h1.2 (fun x hx y hy => hf x (List.mem_cons_of_mem _ hx) y (List.mem_cons_of_mem _ hy))⟩
    obtain ⟨b, hb, e⟩ := List.mem_map.1 hm
    have := hf b (List.mem_cons_of_mem _ hb) a (List.mem_cons_self ..) e
    subst this
    exact h1.1 hb

/-- no more than 24 variables stand in a term -/
theorem order_24 {sg t : List Int} (h : termOkB sg t = true) : (orderL t).length ≤ 24 := by
  have h1 := pigeon 24 ((orderL t).map fun x => (-1 - x).toNat) (map_nodup (order_nodup t) (fun a ha b hb e => by
    have := (order_mem.1 ha).2
    have := (order_mem.1 hb).2
    omega)) (fun x hx => by
      obtain ⟨y, hy, rfl⟩ := List.mem_map.1 hx
      have h2 := order_mem.1 hy
      have h3 := term_mem h h2.1
      omega)
  simpa using h1

theorem ren_fill (t : List Int) (o : List Int) : fillL (fun i => vt (idx o (-1 - (i : Int)))) t = t.map (ren o) := by
  induction t with
  | nil => rfl
  | cons x r ih =>
    rw [fill_cons, ih, List.map_cons]
    unfold rep ren
    by_cases h : 0 ≤ x
    · rw [if_pos h, if_neg (by omega)]; rfl
    · rw [if_neg h, if_pos (by omega)]
      show vt (idx o (-1 - (((-1 - x).toNat : Nat) : Int))) ++ _ = _
      rw [show (-1 - (((-1 - x).toNat : Nat) : Int) : Int) = x by omega]
      rfl

theorem ren_ok {sg t : List Int} (h : termOkB sg t = true) : termOkB sg (renL t) = true := by
  have e : renL t = fillL (fun i => vt (idx (orderL t) (-1 - (i : Int)))) t := (ren_fill t (orderL t)).symm
  rw [e]
  refine fill_term h (fun x hx h0 => ?_) (by rw [← e, ren_len]; exact (term_len h).2)
  show termOkB sg (vt (idx (orderL t) (-1 - (((-1 - x).toNat : Nat) : Int)))) = true
  rw [show (-1 - (((-1 - x).toNat : Nat) : Int) : Int) = x by omega]
  refine var_term (term_parts h).1 ?_
  have h1 := idx_lt (order_mem.2 ⟨hx, h0⟩)
  have h2 := order_24 h
  omega

theorem ren_yes {o : List Int} {x : Int} (h : x < 0) : ren o x = -1 - (idx o x : Int) := by unfold ren; rw [if_pos h]
theorem ren_no {o : List Int} {x : Int} (h : ¬ x < 0) : ren o x = x := by unfold ren; rw [if_neg h]
theorem ren_neg {o : List Int} {x : Int} : ren o x < 0 ↔ x < 0 := by
  unfold ren
  split
  · omega
  · omega

theorem ren_inj {t : List Int} {a b : Int} (ha : a ∈ t) (hb : b ∈ t) (h : ren (orderL t) a = ren (orderL t) b) : a = b := by
  have n1 := @ren_neg (orderL t) a
  have n2 := @ren_neg (orderL t) b
  by_cases h0 : a < 0
  · have h1 : b < 0 := n2.1 (h ▸ n1.2 h0)
    unfold ren at h
    rw [if_pos h0, if_pos h1] at h
    have e : idx (orderL t) a = idx (orderL t) b := by omega
    have e1 := idx_get (order_mem.2 ⟨ha, h0⟩)
    have e2 := idx_get (order_mem.2 ⟨hb, h1⟩)
    rw [← e1, ← e2, e]
  · have h1 : ¬ b < 0 := fun hb0 => h0 (n1.1 (h ▸ n2.2 hb0))
    unfold ren at h
    rwa [if_neg h0, if_neg h1] at h

/-- the variables of a renamed term -/
theorem idx_map_on {f : Int → Int} {o : List Int} {x : Int} (hx : x ∈ o) (hf : ∀ a ∈ o, f a = f x → a = x) : idx (o.map f) (f x) = idx o x := by
  induction o with
  | nil => cases hx
  | cons y r ih =>
    rw [List.map_cons, idx, idx]
    by_cases h : y = x
    · rw [if_pos (by rw [h]), if_pos h]
    · rw [if_neg (fun e => h (hf y (List.mem_cons_self ..) e)), if_neg h]
      rcases List.mem_cons.1 hx with e | e
      · exact absurd e.symm h
      · rw [ih e (fun a ha => hf a (List.mem_cons_of_mem _ ha))]

theorem fold_map {f : Int → Int} {t : List Int} (hf : ∀ a ∈ t, ∀ b ∈ t, f a = f b → a = b) (hn : ∀ x, f x < 0 ↔ x < 0) : ∀ (l o : List Int), (∀ x ∈ l, x ∈ t) → (∀ x ∈ o, x ∈ t) → (l.map f).foldl extV (o.map f) = (l.foldl extV o).map f
  | [], _, _, _ => rfl
  | x :: l, o, hl, ho => by
    have hx := hl x (List.mem_cons_self ..)
    rw [List.map_cons, List.foldl_cons, List.foldl_cons]
    have e : extV (o.map f) (f x) = (extV o x).map f := by
      unfold extV
      by_cases h : x < 0
      · rw [if_pos ((hn x).2 h), if_pos h]
        unfold ext
        by_cases hm : x ∈ o
        · rw [if_pos hm, if_pos (List.mem_map.2 ⟨x, hm, rfl⟩)]
        · rw [if_neg hm, if_neg, List.map_append]
          · rfl
          · intro h2
            obtain ⟨y, hy, e⟩ := List.mem_map.1 h2
            exact hm (hf y (ho y hy) x hx e ▸ hy)
      · rw [if_neg (fun h2 => h ((hn x).1 h2)), if_neg h]
    rw [e]
    refine fold_map hf hn l (extV o x) (fun y hy => hl y (List.mem_cons_of_mem _ hy)) (fun y hy => ?_)
    rcases extV_mem.1 hy with ⟨rfl, _⟩ | h
    · exact hx
    · exact ho y h

theorem order_ren (t : List Int) : orderL (renL t) = (orderL t).map (ren (orderL t)) :=
  fold_map (t := t) (f := ren (orderL t)) (fun a ha b hb h => ren_inj ha hb h) (fun x => ren_neg) t [] (fun _ h => h) (fun x h => by cases h)

/-- renamed twice is renamed -/
theorem ren_ren (t : List Int) : renL (renL t) = renL t := by
  show (renL t).map (ren (orderL (renL t))) = renL t
  rw [order_ren]
  show (t.map (ren (orderL t))).map _ = t.map (ren (orderL t))
  rw [List.map_map]
  refine List.map_congr_left (fun x hx => ?_)
  show ren ((orderL t).map (ren (orderL t))) (ren (orderL t) x) = ren (orderL t) x
  by_cases h : x < 0
  · have h1 := (@ren_neg (orderL t) x).2 h
    have hm := order_mem.2 ⟨hx, h⟩
    have e := idx_map_on (f := ren (orderL t)) hm (fun a ha e => ren_inj (order_mem.1 ha).1 hx e)
    rw [ren_yes h1, e, ren_yes h]
  · have h1 : ¬ ren (orderL t) x < 0 := fun e => h (ren_neg.1 e)
    rw [ren_no h1]
end Go.Proofs.YtkmhnkljigncmaaGreat.renPure
end

section
/-
  PLAIN MATHEMATICS for the laws of chapter 5: what follows from what unification tells ('IsU'), from what generalisation tells ('IsG'), from what terms that are met tell ('met_facts'). Conditions: none. By an AI agent.
-/
namespace Go.Proofs.YtkmhnkljigncmaaGreat.unifLaw
open Go.Proofs.YtkmhnkljigncmaaGreat.sig Go.Proofs.YtkmhnkljigncmaaGreat.term Go.Proofs.YtkmhnkljigncmaaGreat.termOk Go.Proofs.YtkmhnkljigncmaaGreat.termFacts Go.Proofs.YtkmhnkljigncmaaGreat.endAt Go.Proofs.YtkmhnkljigncmaaGreat.sub Go.Proofs.YtkmhnkljigncmaaGreat.termMath Go.Proofs.YtkmhnkljigncmaaGreat.fillMath Go.Proofs.YtkmhnkljigncmaaGreat.posMath Go.Proofs.YtkmhnkljigncmaaGreat.renMath Go.Proofs.YtkmhnkljigncmaaGreat.renPure Go.Proofs.YtkmhnkljigncmaaGreat.segsHelp Go.Proofs.YtkmhnkljigncmaaGreat.substOk Go.Proofs.YtkmhnkljigncmaaGreat.gives Go.Proofs.YtkmhnkljigncmaaGreat.plainMath Go.Proofs.YtkmhnkljigncmaaGreat.plainOf Go.Proofs.YtkmhnkljigncmaaGreat.plainFacts Go.Proofs.YtkmhnkljigncmaaGreat.filled Go.Proofs.YtkmhnkljigncmaaGreat.sameSubst Go.Proofs.YtkmhnkljigncmaaGreat.compMath Go.Proofs.YtkmhnkljigncmaaGreat.matchMath Go.Proofs.YtkmhnkljigncmaaGreat.unifMath Go.Proofs.YtkmhnkljigncmaaGreat.genMath

/-! ### unification -/
theorem sub_gives {sg : List Int} {L : Nat → List Int} (h : Sub sg L) (i : Nat) : givesL (plainL L 24) i = L i := gives_plain h.pos h.out
theorem sub_valid {sg : List Int} {L : Nat → List Int} (hs : sigOkB sg = true) (h : Sub sg L) (he : ∀ i, (L i).length ≤ 60) : substOkB sg (plainL L 24) = true :=
  plain_valid hs (Nat.le_refl _) (fun i hi => term_mk hs (he i) (h.trm i hi))
theorem gives_sub {sg : List Int} {us : List (List Int)} (h : substOkB sg us = true) : Sub sg (givesL us) :=
  ⟨fun _ hi => (term_parts (gives_ok h hi)).2.2, fun i hi => gives_out (by have := (substOk_parts h).2.1; omega)⟩
theorem fill_plain {sg : List Int} {L : Nat → List Int} (h : Sub sg L) (t : List Int) : fillL (givesL (plainL L 24)) t = fillL L t := fill_ext (fun _ _ _ => sub_gives h _)
theorem filled_plain {sg : List Int} {L : Nat → List Int} {t : List Int} (h : Sub sg L) (hv : substOkB sg (plainL L 24) = true) (ht : termOkB sg t = true) (hl : (fillL L t).length ≤ 60) : filledB sg (plainL L 24) t = true ∧ filledL sg (plainL L 24) t = fillL L t := by
  have hb : filledB sg (plainL L 24) t = true := by
    rw [filled_b hv ht]
    unfold fitsB
    rw [fill_plain h]
    exact decide_eq_true hl
  exact ⟨hb, by unfold filledL; rw [if_pos hb]; exact fill_plain h t⟩
theorem filled_parts {sg : List Int} {us : List (List Int)} {t : List Int} (h : filledB sg us t = true) : substOkB sg us = true ∧ termOkB sg t = true ∧ filledL sg us t = fillL (givesL us) t ∧ (fillL (givesL us) t).length ≤ 60 := by
  have e : filledL sg us t = fillL (givesL us) t := by unfold filledL; rw [if_pos h]
  have hl := filled_len sg us t
  rw [e] at hl
  unfold filledB at h
  rw [Bool.and_eq_true, Bool.and_eq_true] at h
  exact ⟨h.1, h.2.1, e, hl⟩
theorem isU_each {sg a b : List Int} {v : Bool} {F : List (List Int)} (h : IsU sg a b v F) : tot F ≤ 1048576 := by
  rcases h with ⟨_, _, _, L, m, s, rfl⟩ | ⟨_, rfl, _⟩
  · have h3 := tot_le (plain_each (L := L) (m := 24) s.each)
    have h4 := plain_len L 24
    have h5 : (plainL L 24).length * 60 ≤ 24 * 60 := Nat.mul_le_mul_right _ h4
    omega
  · simp [tot, sumL]
/-- a substitution that makes both equal is there: so true is told -/
theorem isU_true {sg a b : List Int} {v : Bool} {F us : List (List Int)} (h : IsU sg a b v F) (h1 : filledB sg us a = true) (h2 : filledB sg us b = true) (he : filledL sg us a = filledL sg us b) : v = true := by
  obtain ⟨a1, a2, a3, a4⟩ := filled_parts h1
  obtain ⟨_, b2, b3, _⟩ := filled_parts h2
  rcases h with ⟨e, _⟩ | ⟨_, _, h⟩
  · exact e
  · rcases h with h | h | h
    · rw [a2] at h; cases h
    · rw [b2] at h; cases h
    · exact absurd ⟨⟨gives_sub a1, by rw [← a3, ← b3, he]⟩, gives_len a1, a4⟩ (h (givesL us))
/-- what true tells -/
theorem isU_facts {sg a b : List Int} {F : List (List Int)} (h : IsU sg a b true F) : substOkB sg F = true ∧ sameB sg F F = true ∧ filledB sg F a = true ∧ filledB sg F b = true ∧ filledL sg F a = filledL sg F b ∧ (composedB sg F F = true → sameB sg (composedI sg F F) F = true) ∧
    ∀ us, filledB sg us a = true → filledB sg us b = true → filledL sg us a = filledL sg us b → composedB sg F us = true → filledB sg (composedI sg F us) a = true ∧ filledL sg (composedI sg F us) a = filledL sg us a := by
  rcases h with ⟨_, h1, h2, L, m, s, rfl⟩ | ⟨e, _⟩
  · have hs := (term_parts h1).1
    have hv := sub_valid hs m.sub s.each
    obtain ⟨fa, la⟩ := filled_plain m.sub hv h1 s.all
    obtain ⟨fb, lb⟩ := filled_plain m.sub hv h2 (by rw [← m.eq]; exact s.all)
    refine ⟨hv, by unfold sameB; rw [hv, sameG_yes (fun _ _ => rfl)]; rfl, fa, fb, by rw [la, lb, m.eq], fun hc => ?_, fun us u1 u2 u3 hc => ?_⟩
    · rw [same_ab (comp_ok hc) hv]
      refine sameG_yes (fun i hi => ?_)
      rw [comp_gives hc, if_pos hi]
      unfold compL
      rw [fill_plain m.sub, sub_gives m.sub]
      exact fill_same (fun x hx h0 => m.ide i x hx h0)
    · obtain ⟨a1, _, a3, a4⟩ := filled_parts u1
      obtain ⟨_, _, b3, _⟩ := filled_parts u2
      have hU : Uni sg a b (givesL us) := ⟨gives_sub a1, by rw [← a3, ← b3, u3]⟩
      have e : fillL (givesL (composedI sg (plainL L 24) us)) a = fillL (givesL us) a := by
        rw [comp_fill hc h1, fill_plain m.sub]
        exact part_uni m.toPart hU a
      have hb : filledB sg (composedI sg (plainL L 24) us) a = true := by
        rw [filled_b (comp_ok hc) h1]
        unfold fitsB
        rw [e]
        exact decide_eq_true a4
      exact ⟨hb, by rw [a3]; unfold filledL; rw [if_pos hb]; exact e⟩
  · cases e
theorem isU_symm {sg a b : List Int} {v : Bool} {F : List (List Int)} (h : IsU sg a b v F) : IsU sg b a v F := by
  rcases h with ⟨e, h1, h2, L, m, s, hF⟩ | ⟨e, hF, h⟩
  · exact .inl ⟨e, h2, h1, L, m.symm, s.symm, hF⟩
  · exact .inr ⟨e, hF, by
      rcases h with h | h | h
      · exact .inr (.inl h)
      · exact .inl h
      · exact .inr (.inr (fun M hM => h M hM.symm))⟩

/-! ### generalisation -/
/-- what is told of two lists -/
def IsG (sg a b g : List Int) : Prop :=
  (termOkB sg a = true ∧ termOkB sg b = true ∧ ∃ G T', Gs sg [] 1 a b G T' ∧ g = if T'.length ≤ 24 then G else []) ∨ ((termOkB sg a = false ∨ termOkB sg b = false) ∧ g = [])
theorem isG_ex (sg a b : List Int) : ∃ g, IsG sg a b g := by
  cases h1 : termOkB sg a with
  | false => exact ⟨[], .inr ⟨.inl h1, rfl⟩⟩
  | true =>
    cases h2 : termOkB sg b with
    | false => exact ⟨[], .inr ⟨.inr h2, rfl⟩⟩
    | true =>
      obtain ⟨G, T', h⟩ := gs_ex (sg := sg) a.length (T := []) (Nat.le_refl _) (term_parts h1).2.2 (term_parts h2).2.2
      exact ⟨_, .inl ⟨h1, h2, G, T', h, rfl⟩⟩
theorem isG_one {sg a b g g' : List Int} (h : IsG sg a b g) (h' : IsG sg a b g') : g = g' := by
  rcases h with ⟨h1, h2, G, T', h, rfl⟩ | ⟨h, rfl⟩
  · rcases h' with ⟨_, _, G2, T2, h', rfl⟩ | ⟨h', _⟩
    · obtain ⟨rfl, rfl⟩ := gs_one h List.nodup_nil h'
      rfl
    · rcases h' with h' | h'
      · rw [h1] at h'; cases h'
      · rw [h2] at h'; cases h'
  · rcases h' with ⟨h1, h2, _⟩ | ⟨_, rfl⟩
    · rcases h with h | h
      · rw [h1] at h; cases h
      · rw [h2] at h; cases h
    · rfl
theorem isG_symm {sg a b g : List Int} (h : IsG sg a b g) : IsG sg b a g := by
  rcases h with ⟨h1, h2, G, T', h, e⟩ | ⟨h, e⟩
  · exact .inl ⟨h2, h1, G, _, gs_swap h, by rw [List.length_map]; exact e⟩
  · exact .inr ⟨h.symm, e⟩
theorem isG_len {sg a b g : List Int} (h : IsG sg a b g) : g.length ≤ 60 := by
  rcases h with ⟨h1, h2, G, T', h, rfl⟩ | ⟨_, rfl⟩
  · split
    · have ht := gs_gt h []
      rw [List.append_nil] at ht
      obtain ⟨f, _, hv⟩ := gt_fill ht
      have h3 : ∀ {l : List Int}, (∀ x ∈ l, x < 0 → 1 ≤ (f1 T' (vr x)).length) → l.length ≤ (fillL (f1 T') l).length := by
        intro l
        induction l with
        | nil => intro _; simp
        | cons x r ih =>
          intro hx
          have := ih (fun y hy => hx y (List.mem_cons_of_mem _ hy))
          rw [fill_cons, List.length_append, List.length_cons]
          by_cases h0 : 0 ≤ x
          · rw [rep_sym h0, List.length_singleton]; omega
          · rw [rep_vr (by omega)]
            have := hx x (List.mem_cons_self ..) (by omega)
            omega
      have h4 := h3 (fun x hx h0 => (hv x hx h0).2.1.pos)
      rw [f] at h4
      exact Nat.le_trans h4 (term_len h1).2
    · simp
  · simp
/-- what there is: both are instances, and of each common pattern it is one -/
theorem isG_facts {sg a b g : List Int} (h : IsG sg a b g) (hg : g ≠ []) : termOkB sg g = true ∧ instB sg g a = true ∧ instB sg g b = true ∧ ∀ p, instB sg p a = true → instB sg p b = true → instB sg p g = true := by
  have hl := isG_len h
  rcases h with ⟨h1, h2, G, T', h, e⟩ | ⟨_, e⟩
  · by_cases h24 : T'.length ≤ 24
    · rw [if_pos h24] at e
      subst e
      have ht := gs_gt h []
      rw [List.append_nil] at ht
      have tg : termOkB sg g = true := term_mk (term_parts h1).1 hl (gt_scan h24 ht)
      obtain ⟨fa, fb, hv⟩ := gt_fill ht
      refine ⟨tg, (inst_iff tg h1).2 ⟨f1 T', fa, fun x hx h0 => (hv x hx h0).2.1⟩, (inst_iff tg h2).2 ⟨f2 T', fb, fun x hx h0 => (hv x hx h0).2.2⟩, fun p p1 p2 => ?_⟩
      obtain ⟨hp, _⟩ := inst_ok p1
      obtain ⟨A, eA, hA⟩ := (inst_iff hp h1).1 p1
      obtain ⟨B, eB, hB⟩ := (inst_iff hp h2).1 p2
      -- look-ups that are terms everywhere
      have mk : ∀ C : Nat → List Int, (∀ x ∈ p, x < 0 → scan sg 1 (C (vr x)) = some (C (vr x)).length) → ∃ D, Sub sg D ∧ fillL D p = fillL C p := by
        intro C hC
        have hch : ∀ i, ∃ d, (i < 24 → Trm sg d) ∧ (24 ≤ i → d = vt i) ∧ (Trm sg (C i) → i < 24 → d = C i) := fun i => by
          by_cases hi : i < 24
          · by_cases ht : Trm sg (C i)
            · exact ⟨C i, fun _ => ht, fun h => absurd hi (by omega), fun _ _ => rfl⟩
            · exact ⟨vt i, fun _ => Trm.vt hi, fun _ => rfl, fun h _ => absurd h ht⟩
          · exact ⟨vt i, fun h => absurd h hi, fun _ => rfl, fun _ h => absurd h hi⟩
        refine ⟨fun i => (hch i).choose, ⟨fun i hi => (hch i).choose_spec.1 hi, fun i hi => (hch i).choose_spec.2.1 hi⟩, ?_⟩
        refine fill_ext (fun x hx h0 => ?_)
        have := term_mem hp hx
        exact (hch (vr x)).choose_spec.2.2 (hC x hx h0) (by unfold vr; omega)
      obtain ⟨A', sA, qA⟩ := mk A hA
      obtain ⟨B', sB, qB⟩ := mk B hB
      obtain ⟨M, hM⟩ := gt_least (gs_nodup h List.nodup_nil) sA sB
      obtain ⟨m1, m2⟩ := hM (p := p) (n := 1) (g := g) (term_parts hp).2.2 (by rw [qA, qB, eA, eB]; exact ht)
      exact (inst_iff hp tg).2 ⟨M, m1, fun x hx h0 => gt_scan h24 (m2 x hx h0)⟩
    · rw [if_neg h24] at e
      exact absurd e hg
  · exact absurd e hg

/-! ### terms that are met -/
/-- b is shifted by k; the filled term, renamed, is an instance of both -/
theorem met_facts {sg a b x : List Int} {k : Nat} {L : Nat → List Int} (hx : x = shiftL (k : Int) b) (ha : termOkB sg a = true) (hb : termOkB sg b = true) (hxo : termOkB sg x = true) (m : Mg sg a x L) (s : Short sg a x L) :
    instB sg a (renL (fillL L a)) = true ∧ instB sg b (renL (fillL L a)) = true ∧ renL (renL (fillL L a)) = renL (fillL L a) ∧ termOkB sg (renL (fillL L a)) = true := by
  have ht : termOkB sg (fillL L a) = true := term_mk (term_parts ha).1 s.all (m.sub.fill (term_parts ha).2.2)
  have hr := ren_ok ht
  have hv := inst_variant ht hr (ren_ren _).symm
  have i1 : instB sg a (fillL L a) = true := (inst_iff ha ht).2 ⟨L, rfl, fun y hy h0 => m.sub.trm _ (by have := term_mem ha hy; unfold vr; omega)⟩
  have i2 : instB sg b (fillL L a) = true := by
    have e : fillL L a = fillL (fun i => fillL L (vt (i + k))) b := by rw [← fill_fill, shift_fill, ← hx]; exact m.eq
    refine (inst_iff hb ht).2 ⟨_, e.symm, fun y hy h0 => ?_⟩
    show scan sg 1 (fillL L (vt (vr y + k))) = some (fillL L (vt (vr y + k))).length
    rw [fill_vti]
    have hy2 : sh (k : Int) y ∈ x := by rw [hx]; exact List.mem_map_of_mem hy
    have := term_mem hxo hy2
    exact m.sub.trm _ (by unfold sh at this; rw [if_pos h0] at this; unfold vr; omega)
  exact ⟨inst_trans i1 hv, inst_trans i2 hv, ren_ren _, hr⟩
end Go.Proofs.YtkmhnkljigncmaaGreat.unifLaw
end

section
/-
  CONTRACTS: impl.Renamed, its closure (which keeps a list of what it has seen in a variable of its caller), fill over that closure. Conditions: the slices read as lists ('Seg'), at most 1048576 numbers. By an AI agent.
-/
namespace Go.Proofs.YtkmhnkljigncmaaGreat.renImpl
open Go.RowKit Go.Proofs.YtkmhnkljigncmaaGreat.base Go.Proofs.YtkmhnkljigncmaaGreat.ints Go.Proofs.YtkmhnkljigncmaaGreat.sig Go.Proofs.YtkmhnkljigncmaaGreat.cursor Go.Proofs.YtkmhnkljigncmaaGreat.term Go.Proofs.YtkmhnkljigncmaaGreat.termOk Go.Proofs.YtkmhnkljigncmaaGreat.marks Go.Proofs.YtkmhnkljigncmaaGreat.app Go.Proofs.YtkmhnkljigncmaaGreat.appAt Go.Proofs.YtkmhnkljigncmaaGreat.sym Go.Proofs.YtkmhnkljigncmaaGreat.segs Go.Proofs.YtkmhnkljigncmaaGreat.termFacts Go.Proofs.YtkmhnkljigncmaaGreat.varsMath Go.Proofs.YtkmhnkljigncmaaGreat.fillMath Go.Proofs.YtkmhnkljigncmaaGreat.look Go.Proofs.YtkmhnkljigncmaaGreat.renMath Go.Proofs.YtkmhnkljigncmaaGreat.rename
set_option maxRecDepth 100000

/-- a number's variable -/
def vn (n : Int) : Int := -1 - n
theorem vn_inj : ∀ a b : Int, vn a = vn b → a = b := fun a b h => by unfold vn at h; omega

/-- only block p, row r and what is new have turned -/
structure Side (p : Nat) (r : Option Nat) (a b : World) : Prop where
  os : b.os = a.os
  tape : b.tape = a.tape
  output : b.output = a.output
  size : a.heap.size ≤ b.heap.size
  block : ∀ k, k < a.heap.size → k ≠ p → some k ≠ r → b.heap[k]? = a.heap[k]?
section
variable {p : Nat} {r : Option Nat} {a b c : World}
theorem Side.of_below (h : Below a.heap.size a b) : Side p r a b := ⟨h.os, h.tape, h.output, h.size, fun k hk _ _ => h.block k hk⟩
theorem Side.of_grown (h : a.grownBy b r) : Side p r a b := ⟨h.os, h.tape, h.output, h.size, fun k hk _ hr => h.block k hk hr⟩
theorem Side.of_var (h : a.grownBy b (some p)) : Side p r a b := ⟨h.os, h.tape, h.output, h.size, fun k hk hp _ => h.block k hk (fun e => by injection e with e; exact hp e)⟩
theorem Side.trans (h : Side p r a b) (k : Side p r b c) : Side p r a c :=
  ⟨k.os.trans h.os, k.tape.trans h.tape, k.output.trans h.output, Nat.le_trans h.size k.size, fun i hi hp hr => (k.block i (Nat.lt_of_lt_of_le hi h.size) hp hr).trans (h.block i hi hp hr)⟩
theorem Side.below (h : Side p r a b) (hr : ∀ k, r = some k → p ≤ k) (hp : p ≤ a.heap.size) : Below p a b :=
  ⟨h.os, h.tape, h.output, h.size, fun k hk => h.block k (by omega) (by omega) (fun e => by have := hr k e.symm; omega)⟩
/-- a slice of int64 in another row stays -/
theorem Own.side {base n cc : Nat} {O : Option Addr} {xs : List Int} {cs : Array Value} (h : Own a base (.slice O n cc) xs) (hs : Side p r a b) (hv : Row a p 24 cs) (hne : blk O = none ∨ blk O ≠ r) : Own b base (.slice O n cc) xs := by
  obtain ⟨q1, q2⟩ := h
  refine ⟨q1, ?_⟩
  rcases q2 with q2 | ⟨g, cap, cur, e, hg, hh, rest⟩
  · exact .inl q2
  · refine .inr ⟨g, cap, cur, e, hg, ?_, rest⟩
    have hlt : g < a.heap.size := (Array.getElem?_eq_some_iff.1 hh).1
    have hb : blk O = some g := by rw [← blk_own O n cc, e]; rfl
    have hgp : g ≠ p := Row.ne_ (t := 2) (t' := 24) hh hv (by decide)
    exact (hs.block g hlt hgp (by rw [hb] at hne; rcases hne with h | h; cases h; exact h)).trans hh
end

theorem own_ne {w : World} {base B n c : Nat} {S : Option Addr} {xs : List Int} {cs : Array Value} (h : Own w base (.slice S n c) xs) (hr : Row w B 24 cs) : blk S ≠ some B := by
  have hl := Own.len h
  rcases own_form (n := n) (vs := xs.map (Value.int .i64)) (by rw [hl]; rw [hl] at h; exact h) with ⟨rfl, _⟩ | ⟨g, cur, rfl, _, hrow, _⟩
  · intro e; cases e
  · intro e
    have e2 : g = B := Option.some.inj e
    exact Row.ne_ hr hrow (by decide) e2.symm
theorem one_seg (w : World) (y : Int) : Seg (w.alloc (.cells #[.int .i64 y] 2)) (w.alloc (.cells #[.int .i64 y] 2)).heap.size (some ⟨w.heap.size, 0, none⟩) 1 [y] :=
  (Row.new w 2 #[.int .i64 y]).seg rfl (by simp) (fun j hj => by
    have e : j = 0 := by omega
    subst e
    rfl)

/-- what the closure leaves -/
def AnsRen (W : World) (B : Nat) (S : Option Addr) (o : List Int) (x : Int) (e : Ending) (w' : World) : Prop :=
  ∃ A c S' sn' sc', e = .returned (.slice A 1 c) ∧ Seg w' w'.heap.size A 1 [-1 - (idx (ext o x) x : Int)] ∧ (A = none → c = 0) ∧ Row w' B 24 #[.slice S' sn' sc'] ∧
    Own w' (B + 1) (.slice S' sn' sc') ((ext o x).map vn) ∧ (blk S' = blk S ∨ ∃ k, blk S' = some k ∧ W.heap.size ≤ k) ∧ Side B (blk S) W w'

set_option maxHeartbeats 4000000 in
theorem ren1 (B : Nat) (S : Option Addr) (sn sc : Nat) (o : List Int) (x : Int) (W : World) (hr : Row W B 24 #[.slice S sn sc]) (ho : Own W (B + 1) (.slice S sn sc) (o.map vn)) (hx0 : -24 ≤ x) (hx1 : x < 0) (hsn : sn ≤ 60) :
    Calls Tryz.prog 28 #[.int .i64 (-1 - x), .pointer (some ⟨B, 0, none⟩)] W (AnsRen W B S o x) := by
  have hl := Own.len ho
  simp only [List.length_map] at hl
  have hlt := hr.lt
  have cB : W.cell? ⟨B, 0, none⟩ = some (.slice S sn sc) := hr.cell 0
  have fB : W.frozen? ⟨B, 0, none⟩ = false := hr.free 0
  have LI := Lib.hid (indexOf S sn sc (o.map vn) (-1 - x) W (Own.seg ho) (by omega))
  by_cases hin : x ∈ o
  · have hi : idx o x < o.length := idx_lt hin
    obtain ⟨q, hq⟩ : ∃ q, idx o x = q := ⟨_, rfl⟩
    have EI := Lib.hid (show indexI (o.map vn) (-1 - x) = (q : Int) by
      unfold indexI
      rw [show (-1 - x : Int) = vn x from rfl, if_pos ((mem_map_inj vn_inj).2 hin), idx_map vn_inj, hq])
    have EX := Lib.hid (show ext o x = o by unfold ext; rw [if_pos hin])
    have LV := Lib.hid (varTerm (q : Int) W (by omega) (by omega))
    have HQ := Lib.hid hq
    have hq60 : q ≤ 60 := by omega
    have HR := Lib.hid hr
    have HO := Lib.hid ho
    clear hin hi hq hl hr ho
    go_enter Tryz.func28, Tryz.ntmps28
    go_wp2_with fail
    refine LI.out.mono ?_
    rintro e w' ⟨rfl, he⟩
    rw [EI.out] at he
    subst he
    clear LI
    go_wp2_with fail
    refine LV.out.mono ?_
    rintro e w1 ⟨A, n, c, rfl, oq, bb⟩
    have hn1 := Own.len oq
    simp only [List.length_cons, List.length_nil] at hn1
    subst hn1
    have F : AnsRen W B S o x (.returned (.slice A 1 c)) w1 :=
      ⟨A, c, S, sn, sc, rfl, by rw [EX.out, HQ.out]; exact Own.seg oq, (own_cap oq).2.2, HR.out.next bb, by rw [EX.out]; exact HO.out.next bb, .inl rfl, Side.of_below bb⟩
    have HF := Lib.hid F
    clear F oq bb LV cB fB
    go_wp2
    go_ret
    exact HF.out
  · have EI := Lib.hid (show indexI (o.map vn) (-1 - x) = -1 by
      unfold indexI
      rw [show (-1 - x : Int) = vn x from rfl, if_neg (fun h => hin ((mem_map_inj vn_inj).1 h))])
    have EX := Lib.hid (show (ext o x).map vn = o.map vn ++ [-1 - x] by unfold ext; rw [if_neg hin, List.map_append]; rfl)
    have EQ := Lib.hid (show idx (ext o x) x = sn by unfold ext; rw [if_neg hin, idx_app_new hin, hl])
    have hne := own_ne ho hr
    have hr1 := hr.alloc (.cells #[.int .i64 (-1 - x)] 2)
    have ho1 := Own.alloc ho (.cells #[.int .i64 (-1 - x)] 2)
    have HNE := Lib.hid hne
    have HN := Lib.hid hl
    clear hin hl hr ho hne
    go_enter Tryz.func28, Tryz.ntmps28
    go_wp2_with fail
    refine LI.out.mono ?_
    rintro e w' ⟨rfl, he⟩
    rw [EI.out] at he
    subst he
    clear LI
    go_wp2_with (first
      | (at_builtin; refine appAllAt rfl _ _ rfl (B + 1) S sn sc (o.map vn) rfl ho1 (some ⟨W.heap.size, 0, none⟩) 1 1 (W.heap.size + 1) [-1 - x] rfl (by simpa using one_seg W (-1 - x)) (by omega) (by omega) (by omega) (by simp; omega) ?_; intro S' sc' w2 ho2 hg hat; have r2 := Row.away hr1 hg HNE.out; have cB2 : w2.cell? ⟨B, 0, none⟩ = some (.slice S sn sc) := r2.cell 0; have fB2 : w2.frozen? ⟨B, 0, none⟩ = false := r2.free 0)
      | (go_at_call 30; refine (varTerm (sn : Int) _ (by omega) (by omega)).mono ?_; rintro e w3 ⟨A, n, c, rfl, oq, bb⟩))
    have hn1 := Own.len oq
    simp only [List.length_cons, List.length_nil] at hn1
    subst hn1
    have r3 := r2.put 0 (.slice S' (sn + 1) sc')
    have hg3 : w2.grownBy (w2.setCell ⟨B, 0, none⟩ (.slice S' (sn + 1) sc')) (some B) := grown_put (World.grownBy.refl _ _) _ _
    have o3 := Own.far ho2 hg3 (fun k hk => by injection hk; omega)
    have sd : Side B (blk S) W w3 := (((Side.of_below ((Below.refl _ _).alloc (Nat.le_refl _) _)).trans (Side.of_grown hg)).trans (Side.of_var hg3)).trans (Side.of_below bb)
    have F : AnsRen W B S o x (.returned (.slice A 1 c)) w3 := by
      refine ⟨A, c, S', sn + 1, sc', rfl, by rw [EQ.out]; exact Own.seg oq, (own_cap oq).2.2, r3.next bb, by rw [EX.out]; exact o3.next bb, ?_, sd⟩
      rcases hat with h | h
      · exact .inl h
      · exact .inr ⟨_, h, by simp⟩
    have HF := Lib.hid F
    clear F oq bb r3 hg3 o3 sd hat hg ho2 r2 cB2 fB2 cB fB hr1 ho1
    go_wp2
    go_ret
    exact HF.out

/-- the head of fill's loop over this closure -/
def HeadRF (w : World) (B m : Nat) (t : List Int) (out i : Value) (wr : World) : Prop :=
  ∃ (k : Nat) (O : Option Addr) (on oc : Nat) (S : Option Addr) (sn sc : Nat), k ≤ m ∧ i = .int .i64 k ∧ out = .slice O on oc ∧ Own wr (B + 1) (.slice O on oc) (renL (t.take k)) ∧ Row wr B 24 #[.slice S sn sc] ∧
    Own wr (B + 1) (.slice S sn sc) ((orderL (t.take k)).map vn) ∧ (blk O = none ∨ blk O ≠ blk S) ∧ Below B w wr ∧ w.heap.size ≤ wr.heap.size
theorem ne_flip {a b : Option Nat} (h : a = none ∨ a ≠ b) : b = none ∨ b ≠ a := by
  cases b with
  | none => exact .inl rfl
  | some k =>
    right
    rintro rfl
    rcases h with h | h
    · cases h
    · exact h rfl
theorem blk_lt {w : World} {base : Nat} {A : Option Addr} {n c : Nat} {xs : List Int} (h : Own w base (.slice A n c) xs) : ∀ k, blk A = some k → base ≤ k ∧ k < w.heap.size := fun k hk => World.ownsRow.lt h k (by rw [blk_own]; exact hk)
theorem ne_new {w : World} {base : Nat} {S : Option Addr} {n c : Nat} {xs : List Int} {a : Option Nat} (h : Own w base (.slice S n c) xs) (q : Nat) (hq : w.heap.size ≤ q) (ha : a = some q) : a = none ∨ a ≠ blk S := by
  right
  rintro rfl
  have := (blk_lt h q ha).2
  omega

set_option maxHeartbeats 4000000 in
theorem fillRen (B : Nat) (A : Option Addr) (m c : Nat) (t : List Int) (w : World) (hr : Row w B 24 #[.slice none 0 0]) (h : Seg w B A m t) (hm : m ≤ 60) (hv : ∀ x ∈ t, -24 ≤ x) :
    Calls Tryz.prog 31 #[.func (.func 28) #[] #[.pointer (some ⟨B, 0, none⟩)], .slice A m c] w fun e w' => ∃ O n c, e = .returned (.slice O n c) ∧ Own w' (B + 1) (.slice O n c) (renL t) ∧ Below B w w' := by
  have HL := Lib.hid h.1
  have HV := Lib.hid hv
  have S0 : HeadRF w B m t (.slice none 0 0) (.int .i64 0) w := ⟨0, _, _, _, none, 0, 0, Nat.zero_le _, rfl, rfl, by simpa [renL] using Own.nil w (B + 1), hr, by simpa [orderL] using Own.nil w (B + 1), .inl rfl, Below.refl _ _, Nat.le_refl _⟩
  have HS0 := Lib.hid S0
  clear S0 hv hr
  go_enter Tryz.func31, Tryz.ntmps31
  go_wp2
  go_loopw [5, 10] (fun out i wr => HeadRF w B m t out i wr) (fun _ i _ => m - (intOf i).toNat)
  case atStart => exact HS0.out
  case round =>
    obtain ⟨k, O, on, oc, S, sn, sc, hk, rfl, rfl, ho, hr, hs, hne, hb, hz⟩ := hrel
    clear HS0
    have hon : on ≤ 60 := by rw [Own.len ho, ren_len]; simp; omega
    have hsn : sn ≤ 60 := by have h1 := Own.len hs; have h2 := order_len (t.take k); simp at h1 h2; omega
    have hBlt := hr.lt
    by_cases hlt : k < m
    · obtain ⟨b, off, x, rfl, hbb, hx, ex⟩ := h.spot hlt
      have hx1 : wr.cell? ⟨b, off + k, none⟩ = some (.int .i64 x) := (hb.cell (p := ⟨b, off + k, none⟩) hbb).trans hx
      have hmem := mem_of_get (by rw [HL.out]; exact hlt) ex.out
      have hx24 : -24 ≤ x := HV.out x hmem
      have E := Lib.hid (ren_take (t := t) (k := k) (by rw [HL.out]; exact hlt) ex.out)
      have EO := Lib.hid (order_take (t := t) (k := k) (by rw [HL.out]; exact hlt) ex.out)
      clear hmem hx h ex
      by_cases hpos : 0 ≤ x
      · have R := Lib.hid (show ren (extV (orderL (t.take k)) x) x = x by unfold ren; rw [if_neg (by omega)])
        have R2 := Lib.hid (show extV (orderL (t.take k)) x = orderL (t.take k) by unfold extV; rw [if_neg (by omega)])
        have ho1 := Own.alloc ho (.cells #[.int .i64 x] 2)
        have hs1 := Own.alloc hs (.cells #[.int .i64 x] 2)
        have hr1 := hr.alloc (.cells #[.int .i64 x] 2)
        go_wp2_with (at_builtin; refine appAllAt rfl _ _ rfl (B + 1) O on oc (renL (t.take k)) rfl ho1 (some ⟨wr.heap.size, 0, none⟩) 1 1 (wr.heap.size + 1) [x] rfl (by simpa using one_seg wr x) (by omega) (by omega) (by omega) (by simp; omega) ?_; intro O' oc' w2 ho2 hg hat)
        have S1 : HeadRF w B m t (.slice O' (on + 1) oc') (.int .i64 ((k : Int) + 1)) w2 := by
          refine ⟨k + 1, O', on + 1, oc', S, sn, sc, hlt, by simp, rfl, by rw [E.out, R.out]; exact ho2, Row.away hr1 hg (own_ne ho1 hr1), by rw [EO.out, R2.out]; exact Own.kept hs1 hg (ne_flip hne), ?_, ?_, ?_⟩
          · rcases hat with h | h
            · rw [h]; exact hne
            · exact ne_new hs1 _ (Nat.le_refl _) h
          · exact (hb.alloc (by omega) _).grown hg (by simp; omega) (fun q hq => by have := (blk_lt ho1 q hq).1; omega)
          · have := hg.size; simp at this; omega
        have S := Lib.hid S1
        clear S1 ho2 hg hat ho1 hs1 hr1 ho hs hr hne hb R R2 E EO
        go_wp2
        go_roundw
        case rel => exact S.out
        case measure => simp [intOf]; omega
      · have hneg : x < 0 := by omega
        have R := Lib.hid (show ren (extV (orderL (t.take k)) x) x = -1 - (idx (ext (orderL (t.take k)) x) x : Int) by unfold ren extV; rw [if_pos hneg, if_pos hneg])
        have R2 := Lib.hid (show extV (orderL (t.take k)) x = ext (orderL (t.take k)) x by unfold extV; rw [if_pos hneg])
        have L := Lib.hid (ren1 B S sn sc _ x wr hr hs hx24 hneg hsn)
        go_wp2_with (first
          | (go_at_call 28; refine L.out.mono ?_; rintro e w1 ⟨A1, c1, S1, sn1, sc1, rfl, s1, hc1, r1, os1, hat1, sd⟩; have ho1 := Own.side ho sd hr hne; have hz1 := sd.size; have hne1 : blk O = none ∨ blk O ≠ blk S1 := (by rcases hat1 with h | ⟨q, h, hq⟩; (rw [h]; exact hne); (rw [h]; exact (by cases e : blk O with | none => exact .inl rfl | some z => exact .inr (fun e2 => by injection e2 with e2; have := (blk_lt ho z e).2; omega)))))
          | (at_builtin; refine appAllAt rfl _ _ rfl (B + 1) O on oc (renL (t.take k)) rfl ho1 A1 1 c1 w1.heap.size _ rfl s1 (by omega) (by omega) (by omega) (by omega) ?_; intro O' oc' w2 ho2 hg hat))
        have SS : HeadRF w B m t (.slice O' (on + 1) oc') (.int .i64 ((k : Int) + 1)) w2 := by
          refine ⟨k + 1, O', on + 1, oc', S1, sn1, sc1, hlt, by simp, rfl, by rw [E.out, R.out]; exact ho2, Row.away r1 hg (own_ne ho1 r1), by rw [EO.out, R2.out]; exact Own.kept os1 hg (ne_flip hne1), ?_, ?_, ?_⟩
          · rcases hat with h | h
            · rw [h]; exact hne1
            · exact ne_new os1 _ (Nat.le_refl _) h
          · exact (hb.trans (sd.below (fun q hq => by have := (blk_lt hs q hq).1; omega) (by omega))).grown hg (by omega) (fun q hq => by have := (blk_lt ho1 q hq).1; omega)
          · have := hg.size; omega
        have HSS := Lib.hid SS
        clear SS ho2 hg hat ho1 s1 r1 os1 hat1 sd hne1 ho hs hr hne hb R R2 E EO L
        go_wp2
        go_roundw
        case rel => exact HSS.out
        case measure => simp [intOf]; omega
    · rw [List.take_of_length_le (by rw [HL.out]; omega)] at ho
      have HO := Lib.hid ho
      have HB := Lib.hid hb
      clear ho hs hr hne hb h
      go_wp2
      go_ret
      exact ⟨O, on, oc, rfl, HO.out, HB.out⟩

set_option maxHeartbeats 4000000 in
theorem implRenamed (A A' : Option Addr) (n c m c' : Nat) (sg t : List Int) (w : World) (h : Seg w w.heap.size A n sg) (h' : Seg w w.heap.size A' m t) (hn : n ≤ 1048576) (hm : m ≤ 1048576) :
    Calls Tryz.prog 13 #[.agg #[.slice A n c], .slice A' m c'] w (AnsList w (renI sg t)) := by
  obtain ⟨W, hW⟩ : ∃ W, W = w.alloc (.cells #[.slice A n c] 26) := ⟨_, rfl⟩
  have bel : Below w.heap.size w W := by rw [hW]; exact (Below.refl _ _).alloc (Nat.le_refl _) _
  have s := (h.below bel).more bel.size
  have s' := (h'.below bel).more bel.size
  have HW := Lib.hid hW
  have HL := Lib.hid h'.1
  have L := Lib.hid (implTermOk A A' n c m c' sg t W s s' hn hm)
  clear hW h h' s
  cases hok : termOkB sg t with
  | false =>
    have HS := Lib.hid hok
    clear hok s'
    go_enter Tryz.func13, Tryz.ntmps13
    go_wp2_with fail
    rw [← HW.out]
    refine L.out.mono ?_
    rintro e w1 ⟨he, bb⟩
    rw [HS.out] at he
    subst he
    have F : AnsList w (renI sg t) (.returned (.slice none 0 0)) w1 := ⟨_, _, _, rfl, by unfold renI; rw [if_neg (by rw [HS.out]; simp)]; exact Own.nil _ _, next_trans bel bb⟩
    have HF := Lib.hid F
    clear F bb bel
    go_wp2
    go_ret
    exact HF.out
  | true =>
    have HS := Lib.hid hok
    have HV := Lib.hid (fun x hx => (term_mem (x := x) hok hx).1)
    have H60 : m ≤ 60 := by rw [← HL.out]; exact (term_len hok).2
    have hmf : ∀ (fn : Fn) (first cap : Array Value) (w : World), (Instr.makeFunc fn first cap).run Tryz.prog w = .ok (.func fn first cap) w := fun _ _ _ _ => rfl
    clear hok
    go_enter Tryz.func13, Tryz.ntmps13
    go_wp2_with fail
    rw [← HW.out]
    refine L.out.mono ?_
    rintro e w1 ⟨he, bb⟩
    rw [HS.out] at he
    subst he
    replace bel := next_trans bel bb
    have s1 := (s'.next bb)
    have s2 := s1.alloc (Nat.le_refl _) (.cells #[.slice none 0 0] 24)
    have hz := bel.size
    have L2 := Lib.hid (fillRen w1.heap.size A' m c' t _ (Row.new w1 24 #[.slice none 0 0]) s2 H60 HV.out)
    clear bb L s' s1 s2
    go_wp2_with fail
    refine L2.out.mono ?_
    rintro e w2 ⟨O, on, oc, rfl, ho, bb⟩
    have F : AnsList w (renI sg t) (.returned (.slice O on oc)) w2 := ⟨O, on, oc, rfl, by unfold renI; rw [if_pos HS.out]; exact Own.lower ho (by omega), (bel.alloc hz _).trans (bb.mono hz)⟩
    have HF := Lib.hid F
    clear F ho bb bel L2 hmf
    go_wp2
    go_ret
    exact HF.out
end Go.Proofs.YtkmhnkljigncmaaGreat.renImpl
end

section
/-
  PLAIN MATHEMATICS of generalisation by places (chapter 5): what l5General has read after so many arguments ('Ga'), and how a whole subterm's pair comes of it ('ga_done'), of a pair that was met ('gp_old') and of a new one ('gp_new'). Conditions: the places begin subterms. By an AI agent.
-/
namespace Go.Proofs.YtkmhnkljigncmaaGreat.genPos
open Go.Proofs.YtkmhnkljigncmaaGreat.sig Go.Proofs.YtkmhnkljigncmaaGreat.term Go.Proofs.YtkmhnkljigncmaaGreat.termOk Go.Proofs.YtkmhnkljigncmaaGreat.termFacts Go.Proofs.YtkmhnkljigncmaaGreat.endAt Go.Proofs.YtkmhnkljigncmaaGreat.sub Go.Proofs.YtkmhnkljigncmaaGreat.termMath Go.Proofs.YtkmhnkljigncmaaGreat.fillMath Go.Proofs.YtkmhnkljigncmaaGreat.posMath Go.Proofs.YtkmhnkljigncmaaGreat.renMath Go.Proofs.YtkmhnkljigncmaaGreat.matchMath Go.Proofs.YtkmhnkljigncmaaGreat.unifMath Go.Proofs.YtkmhnkljigncmaaGreat.genMath

/-- what stands behind a place up to its k-th argument -/
def upto (sg t : List Int) (p k : Nat) : List Int := (t.drop (p + 1)).take (argP sg t k (p + 1) - (p + 1))
theorem argP_ge {sg t : List Int} (k p : Nat) : p ≤ argP sg t k p := argP_mono (k := 0) (Nat.zero_le k)
theorem upto_zero {sg t : List Int} {p : Nat} : upto sg t p 0 = [] := by unfold upto; simp [argP]
theorem upto_succ {sg t : List Int} {p k : Nat} : upto sg t p (k + 1) = upto sg t p k ++ subL sg t (argP sg t k (p + 1)) := by
  have h1 := argP_ge (sg := sg) (t := t) k (p + 1)
  have h2 := argP_succ (sg := sg) (t := t) k (p + 1)
  unfold upto subL
  rw [h2, show argP sg t k (p + 1) + len1 sg t (argP sg t k (p + 1)) - (p + 1) = (argP sg t k (p + 1) - (p + 1)) + len1 sg t (argP sg t k (p + 1)) by omega, List.take_add, List.drop_drop, show p + 1 + (argP sg t k (p + 1) - (p + 1)) = argP sg t k (p + 1) by omega]
/-- a subterm is its first number and its arguments -/
theorem sub_upto {sg t : List Int} {p j : Nat} (h : scan sg 1 (t.drop p) = some j) : subL sg t p = t.getD p 0 :: upto sg t p (arN sg t p) := by
  obtain ⟨i, rfl, h1, h2, h3⟩ := scan_args h
  obtain ⟨e, h4, h5⟩ := argP_scan h3 (Nat.le_refl _)
  rw [h3] at e
  injection e with e
  unfold subL upto arN
  rw [len1_eq h, drop_cons h1, List.take_succ_cons, ← e]
theorem sub_trm {sg t : List Int} {p j : Nat} (h : scan sg 1 (t.drop p) = some j) : Trm sg (subL sg t p) := by
  unfold Trm subL
  have h1 := scan_take h
  have h2 := scan_le h
  rw [len1_eq h, h1, List.length_take]
  congr 1
  omega
theorem sub_hd {sg t : List Int} {p j : Nat} (h : scan sg 1 (t.drop p) = some j) : (subL sg t p).getD 0 0 = t.getD p 0 := by
  rw [sub_upto h]; rfl

/-- after k arguments -/
def Ga (sg a b : List Int) (p q : Nat) (T : Tb) (k : Nat) (g : List Int) (T' : Tb) : Prop := Gs sg T k (upto sg a p k) (upto sg b q k) g T'
theorem ga_zero {sg a b : List Int} {p q : Nat} {T : Tb} : Ga sg a b p q T 0 [] T := by unfold Ga; rw [upto_zero, upto_zero]; exact Gs.nil T
theorem ga_succ {sg a b : List Int} {p q k : Nat} {T T1 T2 : Tb} {g g' : List Int} (h : Ga sg a b p q T k g T1) (h' : Gs sg T1 1 (subL sg a (argP sg a k (p + 1))) (subL sg b (argP sg b k (q + 1))) g' T2) : Ga sg a b p q T (k + 1) (g ++ g') T2 := by
  unfold Ga; rw [upto_succ, upto_succ]; exact gs_comp h h'
theorem ga_done {sg a b : List Int} {p q j j' : Nat} {T T' : Tb} {g : List Int} (ha : scan sg 1 (a.drop p) = some j) (hb : scan sg 1 (b.drop q) = some j') (h0 : 0 ≤ a.getD p 0) (he : a.getD p 0 = b.getD q 0) (h : Ga sg a b p q T (arN sg a p) g T') : Gs sg T 1 (subL sg a p) (subL sg b q) (a.getD p 0 :: g) T' := by
  rw [sub_upto ha, sub_upto hb, ← he]
  obtain ⟨_, _, _, hn, _⟩ := scan_args ha
  have e : arN sg b q = arN sg a p := by unfold arN; rw [he]
  rw [e]
  exact Gs.sym (n := 0) h0 hn (by rw [Nat.zero_add]; exact h)
theorem gp_apt {sg a b : List Int} {p q j j' : Nat} (ha : scan sg 1 (a.drop p) = some j) (hb : scan sg 1 (b.drop q) = some j') (h : ¬ (0 ≤ a.getD p 0 ∧ a.getD p 0 = b.getD q 0)) : Apt (subL sg a p) (subL sg b q) := by
  unfold Apt; rw [sub_hd ha, sub_hd hb]; exact h
theorem gp_old {sg a b : List Int} {p q j j' i : Nat} {T : Tb} (ha : scan sg 1 (a.drop p) = some j) (hb : scan sg 1 (b.drop q) = some j') (h : ¬ (0 ≤ a.getD p 0 ∧ a.getD p 0 = b.getD q 0)) (hi : T[i]? = some (subL sg a p, subL sg b q)) : Gs sg T 1 (subL sg a p) (subL sg b q) [-1 - (i : Int)] T := by
  have := Gs.old (n := 0) (u := []) (w := []) (g := []) (sub_trm ha) (sub_trm hb) (gp_apt ha hb h) hi (Gs.nil T)
  rwa [List.append_nil, List.append_nil] at this
theorem gp_new {sg a b : List Int} {p q j j' : Nat} {T : Tb} (ha : scan sg 1 (a.drop p) = some j) (hb : scan sg 1 (b.drop q) = some j') (h : ¬ (0 ≤ a.getD p 0 ∧ a.getD p 0 = b.getD q 0)) (hi : (subL sg a p, subL sg b q) ∉ T) : Gs sg T 1 (subL sg a p) (subL sg b q) [-1 - (T.length : Int)] (T ++ [(subL sg a p, subL sg b q)]) := by
  have := Gs.new (n := 0) (u := []) (w := []) (g := []) (sub_trm ha) (sub_trm hb) (gp_apt ha hb h) hi (Gs.nil _)
  rwa [List.append_nil, List.append_nil] at this
/-- an argument's own place: it begins a subterm that is shorter -/
theorem arg_sub {sg t : List Int} {p j k : Nat} (h : scan sg 1 (t.drop p) = some j) (hk : k < arN sg t p) : ∃ j', scan sg 1 (t.drop (argP sg t k (p + 1))) = some j' ∧ argP sg t k (p + 1) + j' ≤ p + j ∧ p < argP sg t k (p + 1) := by
  obtain ⟨i, rfl, h1, h2, h3⟩ := scan_args h
  obtain ⟨e, h4, h5⟩ := argP_scan h3 (Nat.le_of_lt hk)
  have hq : k + (arN sg t p - k - 1 + 1) = (ar sg (t.getD p 0)).toNat := by unfold arN at hk ⊢; omega
  rw [← hq] at h3
  obtain ⟨x, e1, e2, e3⟩ := scan_split h3
  rw [e] at e2
  injection e2 with e2
  rw [List.drop_drop, ← e2, show p + 1 + (argP sg t k (p + 1) - (p + 1)) = argP sg t k (p + 1) by omega] at e3
  obtain ⟨j', f1, f2, f3, _⟩ := scan_first e3
  exact ⟨j', f1, by omega, by omega⟩
end Go.Proofs.YtkmhnkljigncmaaGreat.genPos
end

section
/-
  CONTRACT: append of one list to a slice of slices of the call's own (as XPlain's), with what the cells hold afterwards; lists that keep out of given blocks ('Avoid'). By an AI agent.
-/
namespace Go.Proofs.YtkmhnkljigncmaaGreat.appZ
open Go.RowKit Go.Proofs.YtkmhnkljigncmaaGreat.base Go.Proofs.YtkmhnkljigncmaaGreat.ints Go.Proofs.YtkmhnkljigncmaaGreat.cursor Go.Proofs.YtkmhnkljigncmaaGreat.same Go.Proofs.YtkmhnkljigncmaaGreat.marks Go.Proofs.YtkmhnkljigncmaaGreat.app Go.Proofs.YtkmhnkljigncmaaGreat.appAt Go.Proofs.YtkmhnkljigncmaaGreat.sym Go.Proofs.YtkmhnkljigncmaaGreat.sub Go.Proofs.YtkmhnkljigncmaaGreat.segs Go.Proofs.YtkmhnkljigncmaaGreat.segsHelp Go.Proofs.YtkmhnkljigncmaaGreat.kinds Go.Proofs.YtkmhnkljigncmaaGreat.look Go.Proofs.YtkmhnkljigncmaaGreat.plain
set_option maxRecDepth 100000

set_option maxHeartbeats 1000000 in
/-- append of one list, and what the cells hold -/
theorem appS1Z {w : World} {ops : Array Oper} {rest : List Oper} {o : Oper} {a : Act} {Q : Exit → Act → World → Prop} (hgd : o.guard = none) (s x : Operand)
    (ho : o.op = .call { callee := .builtin .append, args := #[s, x], argTypes := #[33, 33] })
    (lo mid : Nat) (A : Option Addr) (n c : Nat) (xss : List (List Int)) (hs : a.eval s = .slice A n c) (hown : Owns w lo mid A n c xss)
    (g c2 : Nat) (v : Value) (ys : List Int) (hx : a.eval x = .slice (some ⟨g, 0, none⟩) 1 c2) (hy : w.cell? ⟨g, 0, none⟩ = some v) (hv : Inn w mid w.heap.size v ys) (hn : n ≤ 1048576) (hlo : lo ≤ mid) (hmid : mid ≤ w.heap.size)
    (h : ∀ A' c' w', Owns w' lo w'.heap.size A' (n + 1) c' (xss ++ [ys]) → w.grownBy w' (blk A) → (blk A' = blk A ∨ blk A' = some w.heap.size) → Below lo w w' → (∀ j b' u, j < n + 1 → A' = some ⟨b', 0, none⟩ → w'.cell? ⟨b', j, none⟩ = some u → (∃ b, j < n ∧ A = some ⟨b, 0, none⟩ ∧ w.cell? ⟨b, j, none⟩ = some u) ∨ (j = n ∧ u = v)) → wpList Tryz.prog ops Q rest (a.put o.dst (.slice A' (n + 1) c')) w') : wpList Tryz.prog ops Q (o :: rest) a w := by
  obtain ⟨i0, hi, hz0, hz1, hz2⟩ := info_parts info_list
  obtain ⟨hlen, ⟨vs, hr, hin, hap⟩, htop⟩ := hown
  have hvl : vs.length = n := by have := hr.1; omega
  have hvc : v.oneCell' = true := by obtain ⟨A1, c1, rfl, _⟩ := hv; rfl
  refine wpList_append_own_at w hgd s x 33 ho lo 24 i0 (.slice none 0 0) 1 24 Tryz.underlying33 hi hz0 hz1 hz2 rfl (by decide) (.slice A n c) n vs hs hr
    ⟨g, 0, none⟩ 1 c2 [v] hx rfl (fun j u hj => ?_) (fun u hu => ?_) (by unfold maxLen; omega) (by omega) (by omega) ?_
  · match j, hj with
    | 0, hj => simp at hj; subst hj; simpa [Addr.add] using hy
  · simp at hu; subst hu; exact hvc
  · intro v' w' hown' hg _ hat
    have hform : ∃ A' c', v' = .slice A' (n + 1) c' := by
      rcases hown'.2 with ⟨_, h0⟩ | ⟨g', cap, cur, e, _⟩
      · omega
      · exact ⟨_, _, e⟩
    obtain ⟨A', c', rfl⟩ := hform
    rw [blk_own] at hg
    rw [blk_own, blk_own] at hat
    have hsz := hg.size
    have hne : ∀ {u : Value} {zs : List Int} {l2 h2 : Nat}, Inn w l2 h2 u zs → u.ownBlock = none ∨ u.ownBlock ≠ blk A := fun {u zs l2 h2} hu => by
      rcases own_form hr with ⟨rfl, _⟩ | ⟨g', cur, rfl, _, hrow, _⟩
      · cases e : u.ownBlock with
        | none => exact .inl rfl
        | some z => exact .inr (fun e2 => by cases e2)
      · exact .inr (hu.ne hrow)
    have hget : ∀ j, j < n → (vs ++ [v]).getD j undef = vs.getD j undef := fun j hj => by simp [List.getD, List.getElem?_append_left (show j < vs.length by omega)]
    have hget2 : ∀ j, j < n → (xss ++ [ys]).getD j [] = xss.getD j [] := fun j hj => by simp [List.getD, List.getElem?_append_left (show j < xss.length by omega)]
    have hnew : (vs ++ [v]).getD n undef = v := by simp [List.getD, ← hvl]
    have hnew2 : (xss ++ [ys]).getD n [] = ys := by simp [List.getD, ← hlen]
    refine h A' c' w' ⟨by simp [hlen], ⟨vs ++ [v], hown', fun j hj => ?_, fun i j k hij hj e1 e2 => ?_⟩, fun k hk => (World.ownsRow.lt hown' k (by rw [blk_own]; exact hk)).2⟩ hg hat ?_ ?_
    · by_cases e : j = n
      · subst e
        rw [hnew, hnew2]
        exact (hv.kept hg (hne hv)).wider (by omega) (by omega)
      · rw [hget j (by omega), hget2 j (by omega)]
        exact ((hin j (by omega)).kept hg (hne (hin j (by omega)))).wider (Nat.le_refl _) (by omega)
    · by_cases e : j = n
      · subst e
        rw [hget i hij] at e1
        rw [hnew] at e2
        have h1 := ((hin i hij).blk k e1).2.1
        have h2 := (hv.blk k e2).1
        omega
      · rw [hget i (by omega)] at e1
        rw [hget j (by omega)] at e2
        exact hap i j k hij (by omega) e1 e2
    · refine (Below.refl lo w).grown hg (by omega) (fun k hk => ?_)
      exact (World.ownsRow.lt hr k (by rw [blk_own]; exact hk)).1
    · intro j b' u hj e hc
      subst e
      rcases own_form (n := n + 1) hown' with ⟨e, _⟩ | ⟨g', cur, e, _, hrow, _, _, _, _, hcell⟩
      · cases e
      · injection e with e
        injection e with e1
        subst e1
        rw [hrow.cell j, hcell j hj] at hc
        injection hc with hc
        by_cases e : j = n
        · subst e
          rw [hnew] at hc
          exact .inr ⟨rfl, hc.symm⟩
        · rw [hget j (by omega)] at hc
          rcases own_form hr with ⟨_, h0, _⟩ | ⟨g2, cur2, rfl, _, hrow2, _, _, _, _, hcell2⟩
          · omega
          · exact .inl ⟨g2, by omega, rfl, by rw [hrow2.cell j, hcell2 j (by omega), hc]⟩

/-- no list of the slice lies in a block of Z -/
def Avoid (Z : Nat → Prop) (w : World) (A : Option Addr) (n : Nat) : Prop := ∀ j b v, j < n → A = some ⟨b, 0, none⟩ → w.cell? ⟨b, j, none⟩ = some v → ∀ z, Z z → v.ownBlock ≠ some z
section
variable {Z : Nat → Prop} {w w' : World} {lo hi n c : Nat} {A : Option Addr} {xss : List (List Int)}
theorem Avoid.nil : Avoid Z w none 0 := fun j b v hj _ _ => absurd hj (Nat.not_lt_zero _)
theorem Avoid.less {Z' : Nat → Prop} (h : Avoid Z w A n) (hz : ∀ z, Z' z → Z z) : Avoid Z' w A n := fun j b v hj e hc z h' => h j b v hj e hc z (hz z h')
theorem Avoid.keep (h : Avoid Z w A n) (hb : ∀ b j, A = some ⟨b, 0, none⟩ → w'.cell? ⟨b, j, none⟩ = w.cell? ⟨b, j, none⟩) : Avoid Z w' A n := fun j b v hj e hc => h j b v hj e (by rw [← hb b j e]; exact hc)
/-- new blocks are in no list that stands -/
theorem Avoid.fresh (h : Owns w lo hi A n c xss) (hZ : ∀ z, Z z → hi ≤ z) : Avoid Z w A n := fun j b v hj e hc z hz e2 => by
  obtain ⟨_, ⟨vs, hr, hin, _⟩, _⟩ := h
  rcases own_form hr with ⟨_, h0, _⟩ | ⟨g, cur, e3, _, hrow, _, _, _, _, hcell⟩
  · omega
  · rw [e3] at e
    injection e with e
    injection e with e
    subst e
    rw [hrow.cell j, hcell j hj] at hc
    injection hc with hc
    rw [← hc] at e2
    have := ((hin j hj).blk z e2).2.1
    have := hZ z hz
    omega
/-- a slice of lists stays, where a block is written in which neither it nor one of its lists lies -/
theorem Avoid.owns {r : Option Nat} (h : Owns w lo hi A n c xss) (ha : Avoid (fun z => r = some z) w A n) (hne : ∀ k, blk A = some k → r ≠ some k) (hg : w.grownBy w' r) : Owns w' lo hi A n c xss := by
  obtain ⟨hl, ⟨vs, hr, hin, hap⟩, top⟩ := h
  refine ⟨hl, ⟨vs, World.ownsRow.kept hr hg ?_, fun j hj => (hin j hj).kept hg ?_, hap⟩, top⟩
  · rw [blk_own]
    cases e : blk A with
    | none => exact .inl rfl
    | some k => exact .inr (fun h => hne k e h.symm)
  · rcases own_form hr with ⟨_, h0, _⟩ | ⟨g, cur, e3, _, hrow, _, _, _, _, hcell⟩
    · omega
    · cases e : (vs.getD j undef).ownBlock with
      | none => exact .inl rfl
      | some k => exact .inr (fun h => ha j g (vs.getD j undef) hj e3 (by rw [hrow.cell j, hcell j hj]) k h.symm e)
end
end Go.Proofs.YtkmhnkljigncmaaGreat.appZ
end

section
/-
  THE TWO TABLES of spec.l5General: two lists of lists of the caller's own, of which calls may write the blocks ('Tabs'), and what stays when only these two blocks are written ('Two'). By an AI agent.
-/
namespace Go.Proofs.YtkmhnkljigncmaaGreat.genTab
open Go.RowKit Go.Proofs.YtkmhnkljigncmaaGreat.base Go.Proofs.YtkmhnkljigncmaaGreat.ints Go.Proofs.YtkmhnkljigncmaaGreat.sig Go.Proofs.YtkmhnkljigncmaaGreat.cursor Go.Proofs.YtkmhnkljigncmaaGreat.marks Go.Proofs.YtkmhnkljigncmaaGreat.app Go.Proofs.YtkmhnkljigncmaaGreat.appAt Go.Proofs.YtkmhnkljigncmaaGreat.sym Go.Proofs.YtkmhnkljigncmaaGreat.segs Go.Proofs.YtkmhnkljigncmaaGreat.segsHelp Go.Proofs.YtkmhnkljigncmaaGreat.term Go.Proofs.YtkmhnkljigncmaaGreat.sub Go.Proofs.YtkmhnkljigncmaaGreat.unifMath Go.Proofs.YtkmhnkljigncmaaGreat.genMath Go.Proofs.YtkmhnkljigncmaaGreat.genPos Go.Proofs.YtkmhnkljigncmaaGreat.appZ

/-- the table grows by no more than there is to read -/
theorem gs_len {sg : List Int} {T T' : Tb} {n : Nat} {u w g : List Int} (h : Gs sg T n u w g T') : T'.length ≤ T.length + u.length := by
  induction h with
  | nil T => simp
  | sym _ _ _ ih => simp only [List.length_cons] at *; omega
  | old hs _ _ _ _ ih =>
    obtain ⟨x, r, e, _⟩ := trm_cons hs
    subst e
    simp only [List.length_append, List.length_cons] at *
    omega
  | new hs _ _ _ _ ih =>
    obtain ⟨x, r, e, _⟩ := trm_cons hs
    subst e
    simp only [List.length_append, List.length_cons, List.length_nil] at *
    omega
theorem gs_glen {sg : List Int} {T T' : Tb} {n : Nat} {u w g : List Int} (h : Gs sg T n u w g T') : g.length ≤ u.length := by
  induction h with
  | nil T => simp
  | sym _ _ _ ih => simp only [List.length_cons] at *; omega
  | old hs _ _ _ _ ih =>
    obtain ⟨x, r, e, _⟩ := trm_cons hs
    subst e
    simp only [List.length_append, List.length_cons] at *
    omega
  | new hs _ _ _ _ ih =>
    obtain ⟨x, r, e, _⟩ := trm_cons hs
    subst e
    simp only [List.length_append, List.length_cons] at *
    omega

section
variable {w w' : World} {lo hi n c : Nat} {A L R : Option Addr} {xss : List (List Int)}
theorem topRow (h : Owns w lo hi L n c xss) : ∀ k, blk L = some k → (∃ cs, Row w k 24 cs) ∧ lo ≤ k ∧ k < w.heap.size := fun k hk => by
  obtain ⟨_, ⟨vs, hr, _, _⟩, _⟩ := h
  rcases own_form hr with ⟨rfl, _⟩ | ⟨g, cur, rfl, hb, hg, _⟩
  · cases hk
  · injection hk with hk
    subst hk
    exact ⟨⟨cur, hg⟩, hb, hg.lt⟩
/-- one table stays where the other one's block is written -/
theorem keepTab (h : Owns w lo hi A n c xss) (hL : ∀ k, blk L = some k → ∃ cs, Row w k 24 cs) (hne : ∀ k, blk L = some k → blk A ≠ some k) (hg : w.grownBy w' (blk L)) : Owns w' lo hi A n c xss := by
  obtain ⟨hl, ⟨vs, hr, hin, hap⟩, top⟩ := h
  refine ⟨hl, ⟨vs, World.ownsRow.kept hr hg ?_, fun j hj => (hin j hj).kept hg ?_, hap⟩, top⟩
  · rw [blk_own]
    cases e : blk L with
    | none => cases e' : blk A with
      | none => exact .inl rfl
      | some k => exact .inr (fun h => by cases h)
    | some k => exact .inr (hne k e)
  · cases e : blk L with
    | none => cases e' : (vs.getD j undef).ownBlock with
      | none => exact .inl rfl
      | some k => exact .inr (fun h => by cases h)
    | some k =>
      obtain ⟨cs, hc⟩ := hL k e
      exact .inr ((hin j hj).ne hc)
/-- only the blocks of L and R have turned -/
structure Two (w w' : World) (L R : Option Addr) : Prop where
  os : w'.os = w.os
  tape : w'.tape = w.tape
  output : w'.output = w.output
  size : w.heap.size ≤ w'.heap.size
  block : ∀ k, k < w.heap.size → blk L ≠ some k → blk R ≠ some k → w'.heap[k]? = w.heap[k]?
theorem Two.of_below (h : Below w.heap.size w w') : Two w w' L R := ⟨h.os, h.tape, h.output, h.size, fun k hk _ _ => h.block k hk⟩
theorem Two.left (h : w.grownBy w' (blk L)) : Two w w' L R := ⟨h.os, h.tape, h.output, h.size, fun k hk h1 _ => h.block k hk (fun e => h1 e.symm)⟩
theorem Two.right (h : w.grownBy w' (blk R)) : Two w w' L R := ⟨h.os, h.tape, h.output, h.size, fun k hk _ h2 => h.block k hk (fun e => h2 e.symm)⟩
theorem Two.trans {w1 w2 : World} {L1 R1 : Option Addr} (h : Two w w1 L R) (h' : Two w1 w2 L1 R1) (hL : ∀ k, blk L1 = some k → k < w.heap.size → blk L = some k) (hR : ∀ k, blk R1 = some k → k < w.heap.size → blk R = some k) : Two w w2 L R :=
  ⟨h'.os.trans h.os, h'.tape.trans h.tape, h'.output.trans h.output, Nat.le_trans h.size h'.size, fun k hk h1 h2 => (h'.block k (Nat.lt_of_lt_of_le hk h.size) (fun e => h1 (hL k e hk)) (fun e => h2 (hR k e hk))).trans (h.block k hk h1 h2)⟩
theorem Two.below {B : Nat} (h : Two w w' L R) (hL : ∀ k, blk L = some k → B ≤ k) (hR : ∀ k, blk R = some k → B ≤ k) (hB : B ≤ w.heap.size) : Below B w w' :=
  ⟨h.os, h.tape, h.output, h.size, fun k hk => h.block k (by omega) (fun e => by have := hL k e; omega) (fun e => by have := hR k e; omega)⟩
theorem Two.row {g : Nat} {t : TypeId} {cs : Array Value} (h : Two w w' L R) (hr : Row w g t cs) (h1 : blk L ≠ some g) (h2 : blk R ≠ some g) : Row w' g t cs := (h.block g hr.lt h1 h2).trans hr
/-- a list of numbers of the call's own stays -/
theorem Two.own {base : Nat} {v : Value} {xs : List Int} (h : Two w w' L R) (ho : Own w base v xs) (hL : ∀ k, blk L = some k → ∃ cs, Row w k 24 cs) (hR : ∀ k, blk R = some k → ∃ cs, Row w k 24 cs) : Own w' base v xs := by
  obtain ⟨h1, h2⟩ := ho
  refine ⟨h1, ?_⟩
  rcases h2 with h2 | ⟨g, cap, cur, e, hb, hg, hn, hm, hs, ht⟩
  · exact .inl h2
  · refine .inr ⟨g, cap, cur, e, hb, Two.row h hg (fun e => ?_) (fun e => ?_), hn, hm, hs, ht⟩
    · obtain ⟨cs, hc⟩ := hL g e
      exact Row.ne_ hg hc (by decide) rfl
    · obtain ⟨cs, hc⟩ := hR g e
      exact Row.ne_ hg hc (by decide) rfl

/-- the two tables: left, right, their blocks apart -/
structure Tabs (w : World) (lo : Nat) (L : Option Addr) (n lc : Nat) (R : Option Addr) (rc : Nat) (T : Tb) : Prop where
  l : Owns w lo w.heap.size L n lc (T.map Prod.fst)
  r : Owns w lo w.heap.size R n rc (T.map Prod.snd)
  ne : ∀ k, blk L = some k → blk R ≠ some k
variable {lc rc : Nat} {T : Tb}
theorem Tabs.len (h : Tabs w lo L n lc R rc T) : T.length = n := by have := h.l.len; simpa using this
theorem Tabs.next (h : Tabs w lo L n lc R rc T) (hb : Below w.heap.size w w') : Tabs w' lo L n lc R rc T := ⟨(h.l.next hb).wider (Nat.le_refl _) hb.size, (h.r.next hb).wider (Nat.le_refl _) hb.size, h.ne⟩
theorem Tabs.rowL (h : Tabs w lo L n lc R rc T) : ∀ k, blk L = some k → ∃ cs, Row w k 24 cs := fun k hk => (topRow h.l k hk).1
theorem Tabs.rowR (h : Tabs w lo L n lc R rc T) : ∀ k, blk R = some k → ∃ cs, Row w k 24 cs := fun k hk => (topRow h.r k hk).1
theorem Tabs.loL (h : Tabs w lo L n lc R rc T) : ∀ k, blk L = some k → lo ≤ k := fun k hk => (topRow h.l k hk).2.1
theorem Tabs.loR (h : Tabs w lo L n lc R rc T) : ∀ k, blk R = some k → lo ≤ k := fun k hk => (topRow h.r k hk).2.1
theorem Tabs.start (w : World) (lo : Nat) : Tabs w lo none 0 0 none 0 [] := ⟨Owns.nil _ _ _, Owns.nil _ _ _, fun k hk => by cases hk⟩
/-- both tables one pair longer -/
theorem Tabs.push {w1 w2 : World} {L' R' : Option Addr} {lc' rc' : Nat} {u v : List Int} (_ : Tabs w lo L n lc R rc T) (hs : w.heap.size ≤ w1.heap.size) (hl1 : Owns w1 lo w1.heap.size L' (n + 1) lc' (T.map Prod.fst ++ [u])) (hr2 : Owns w2 lo w2.heap.size R' (n + 1) rc' (T.map Prod.snd ++ [v])) (hl2 : Owns w2 lo w2.heap.size L' (n + 1) lc' (T.map Prod.fst ++ [u]))
    (hne : ∀ k, blk L' = some k → blk R ≠ some k) (hat : blk R' = blk R ∨ blk R' = some w1.heap.size) : Tabs w2 lo L' (n + 1) lc' R' rc' (T ++ [(u, v)]) := by
  refine ⟨by simpa using hl2, by simpa using hr2, fun k hk => ?_⟩
  rcases hat with e | e
  · rw [e]; exact hne k hk
  · rw [e]
    intro h
    injection h with h
    have := hl1.top k hk
    omega
end

/-- what l5General gives -/
def AnsGen (sg : List Int) (w : World) (lo : Nat) (L R : Option Addr) (n : Nat) (T : Tb) (u v : List Int) (e : Ending) (w' : World) : Prop :=
  ∃ (g : List Int) (T' : Tb) (O L' R' : Option Addr) (on oc n' lc' rc' : Nat), e = .returned (.tuple #[.slice O on oc, .slice L' n' lc', .slice R' n' rc']) ∧ Own w' w.heap.size (.slice O on oc) g ∧ Gs sg T 1 u v g T' ∧ Tabs w' lo L' n' lc' R' rc' T' ∧ Two w w' L R ∧
    (∀ k, blk L' = some k → k < w.heap.size → blk L = some k) ∧ (∀ k, blk R' = some k → k < w.heap.size → blk R = some k) ∧
    ∀ Z : Nat → Prop, (∀ z, Z z → z < w.heap.size) → Avoid Z w L n → Avoid Z w R n → Avoid Z w' L' n' ∧ Avoid Z w' R' n'
end Go.Proofs.YtkmhnkljigncmaaGreat.genTab
end

section
/-
  CONTRACT: spec.l5General, where the two places do not hold one symbol: the pair is looked for in the tables, or put there. Conditions: the slices read as lists, the places begin subterms, the lists of the tables are at most 1048576 numbers long. (Written by tools/mkgen.py.) By an AI agent.
-/
namespace Go.Proofs.YtkmhnkljigncmaaGreat.genSpec
open Go.RowKit Go.Proofs.YtkmhnkljigncmaaGreat.base Go.Proofs.YtkmhnkljigncmaaGreat.ints Go.Proofs.YtkmhnkljigncmaaGreat.sig Go.Proofs.YtkmhnkljigncmaaGreat.cursor Go.Proofs.YtkmhnkljigncmaaGreat.marks Go.Proofs.YtkmhnkljigncmaaGreat.app Go.Proofs.YtkmhnkljigncmaaGreat.appAt Go.Proofs.YtkmhnkljigncmaaGreat.sym Go.Proofs.YtkmhnkljigncmaaGreat.segs Go.Proofs.YtkmhnkljigncmaaGreat.segsHelp Go.Proofs.YtkmhnkljigncmaaGreat.term Go.Proofs.YtkmhnkljigncmaaGreat.sub Go.Proofs.YtkmhnkljigncmaaGreat.look Go.Proofs.YtkmhnkljigncmaaGreat.plain Go.Proofs.YtkmhnkljigncmaaGreat.same Go.Proofs.YtkmhnkljigncmaaGreat.posMath Go.Proofs.YtkmhnkljigncmaaGreat.unifMath Go.Proofs.YtkmhnkljigncmaaGreat.genMath Go.Proofs.YtkmhnkljigncmaaGreat.genPos Go.Proofs.YtkmhnkljigncmaaGreat.genTab Go.Proofs.YtkmhnkljigncmaaGreat.appZ
set_option maxRecDepth 100000

theorem drewN_below (w : World) (d : Nat) : Below w.heap.size w (w.drewN d) := ⟨rfl, rfl, rfl, Nat.le_refl _, fun _ _ => rfl⟩
/-- what stands in the course of the call -/
structure Gw (w wr : World) (lo : Nat) (A : Option Addr) (n c : Nat) (sg : List Int) (P : Option Addr) (m : Nat) (a : List Int) (Q : Option Addr) (k : Nat) (b : List Int) (L : Option Addr) (ln lc : Nat) (R : Option Addr) (rc : Nat) (T : Tb) : Prop where
  r0 : Row wr w.heap.size 26 #[.slice A n c]
  s : Seg wr lo A n sg
  pa : Seg wr lo P m a
  qb : Seg wr lo Q k b
  t : Tabs wr lo L ln lc R rc T
  le : lo ≤ w.heap.size
  bel : Below w.heap.size w wr
section
variable {w wr w' : World} {lo : Nat} {A : Option Addr} {n c : Nat} {sg : List Int} {P : Option Addr} {m : Nat} {a : List Int} {Q : Option Addr} {k : Nat} {b : List Int} {L : Option Addr} {ln lc : Nat} {R : Option Addr} {rc : Nat} {T : Tb}
theorem Gw.next (h : Gw w wr lo A n c sg P m a Q k b L ln lc R rc T) (hb : Below wr.heap.size wr w') : Gw w w' lo A n c sg P m a Q k b L ln lc R rc T :=
  have hw : Below w.heap.size wr w' := hb.mono h.bel.size
  have hl : Below lo wr w' := hw.mono h.le
  ⟨h.r0.next hb, h.s.below hl, h.pa.below hl, h.qb.below hl, h.t.next hb, h.le, h.bel.trans hw⟩
theorem Gw.c0 (h : Gw w wr lo A n c sg P m a Q k b L ln lc R rc T) : wr.cell? ⟨w.heap.size, 0, none⟩ = some (.slice A n c) := h.r0.cell 0
theorem Gw.low (h : Gw w wr lo A n c sg P m a Q k b L ln lc R rc T) : lo ≤ wr.heap.size := Nat.le_trans h.le h.bel.size
theorem Gw.start (h : Seg w lo A n sg) (hp : Seg w lo P m a) (hq : Seg w lo Q k b) (ht : Tabs w lo L ln lc R rc T) (hl : lo ≤ w.heap.size) : Gw w (w.alloc (.cells #[.slice A n c] 26)) lo A n c sg P m a Q k b L ln lc R rc T := by
  have b0 : Below w.heap.size w (w.alloc (.cells #[.slice A n c] 26)) := (Below.refl _ _).alloc (Nat.le_refl _) _
  exact ⟨Row.new _ _ _, h.below (b0.mono hl), hp.below (b0.mono hl), hq.below (b0.mono hl), ht.next b0, hl, b0⟩
end
/-- a new list of one number -/
theorem one_own (w : World) (base : Nat) (x : Int) (hb : base ≤ w.heap.size) : Own (w.alloc (.cells #[.int .i64 x] 2)) base (.slice (some ⟨w.heap.size, 0, none⟩) 1 1) [x] :=
  Own.of_row (Row.new _ _ _) rfl rfl (Nat.le_refl _) (by omega) hb (fun j hj => by
    obtain rfl : j = 0 := by omega
    rfl)
theorem cell2 (w : World) (o : Obj) (v : Value) (t : TypeId) : ((w.alloc o).alloc (.cells #[v] t)).cell? ⟨w.heap.size + 1, 0, none⟩ = some v := by simp
theorem tb_at {T : Tb} {i : Nat} {u v : List Int} (hi : i < T.length) (h1 : (T.map Prod.fst).getD i [] = u) (h2 : (T.map Prod.snd).getD i [] = v) : T[i]? = some (u, v) := by
  simp [List.getD, hi] at h1 h2
  rw [List.getElem?_eq_getElem hi, ← h1, ← h2]
theorem tb_not {T : Tb} {i : Nat} {u v : List Int} (hi : i < T.length) (h : ¬ ((T.map Prod.fst).getD i [] = u ∧ (T.map Prod.snd).getD i [] = v)) : T[i]? ≠ some (u, v) := by
  intro e
  refine h ?_
  rw [List.getElem?_eq_getElem hi] at e
  injection e with e
  simp [List.getD, hi, e]
theorem tb_mem {T : Tb} {u v : List Int} (h : ∀ j, j < T.length → T[j]? ≠ some (u, v)) : (u, v) ∉ T := by
  intro hm
  obtain ⟨j, hj, e⟩ := List.getElem_of_mem hm
  exact h j hj (by rw [List.getElem?_eq_getElem hj, e])
theorem tb_len {T : Tb} {B i : Nat} (h : ∀ x ∈ T, x.1.length ≤ B ∧ x.2.length ≤ B) : ((T.map Prod.fst).getD i []).length ≤ B ∧ ((T.map Prod.snd).getD i []).length ≤ B := by
  by_cases hi : i < T.length
  · have := h T[i] (List.getElem_mem hi)
    simpa [List.getD, hi] using this
  · simp [List.getD, hi]

section
variable {w wr w' w6 w7 : World} {lo : Nat} {A : Option Addr} {n c : Nat} {sg : List Int} {P : Option Addr} {m : Nat} {a : List Int} {Q : Option Addr} {k : Nat} {b : List Int} {L : Option Addr} {ln lc : Nat} {R : Option Addr} {rc : Nat} {T : Tb} {u v : List Int}
theorem two_alloc (wr : World) (o1 o2 : Obj) : Below wr.heap.size wr ((wr.alloc o1).alloc o2) := ((Below.refl _ _).alloc (Nat.le_refl _) _).alloc (by simp) _
theorem st1 (G : Gw w wr lo A n c sg P m a Q k b L ln lc R rc T) (T0 : Tabs w lo L ln lc R rc T) (o1 o2 : Obj) : Owns ((wr.alloc o1).alloc o2) lo w.heap.size L ln lc (T.map Prod.fst) ∧ Owns ((wr.alloc o1).alloc o2) lo w.heap.size R ln rc (T.map Prod.snd) :=
  have bb := next_trans G.bel (two_alloc wr o1 o2)
  ⟨T0.l.next bb, T0.r.next bb⟩
theorem st2 {B xn xc : Nat} {X : Option Addr} (ox : Own wr B (.slice X xn xc) u) (hB : w.heap.size ≤ B) (o1 o2 : Obj) : Inn ((wr.alloc o1).alloc o2) w.heap.size ((wr.alloc o1).alloc o2).heap.size (.slice X xn xc) u :=
  ((inn_own ox).next (two_alloc wr o1 o2)).wider hB (two_alloc wr o1 o2).size
theorem st3 {wB : World} (hL : Owns wB lo w.heap.size L ln lc (T.map Prod.fst)) (hR : Owns wB lo w.heap.size R ln rc (T.map Prod.snd)) (T0 : Tabs w lo L ln lc R rc T) (hg : wB.grownBy w6 (blk L)) (o : Obj) : Owns (w6.alloc o) lo w.heap.size R ln rc (T.map Prod.snd) :=
  (keepTab hR (fun k hk => (topRow hL k hk).1) T0.ne hg).next ((Below.refl _ _).alloc (Nat.le_refl _) _)
theorem st4 {wB : World} {Y : Option Addr} {yn yc : Nat} (hL : Owns wB lo w.heap.size L ln lc (T.map Prod.fst)) (hy : Inn wB w.heap.size wB.heap.size (.slice Y yn yc) v) (hg : wB.grownBy w6 (blk L)) (o : Obj) : Inn (w6.alloc o) w.heap.size (w6.alloc o).heap.size (.slice Y yn yc) v := by
  have h1 : Inn w6 w.heap.size wB.heap.size (.slice Y yn yc) v := by
    refine hy.kept hg ?_
    cases e : blk L with
    | none => cases e' : (Value.slice Y yn yc).ownBlock with
      | none => exact .inl rfl
      | some k => exact .inr (fun h => by cases h)
    | some k =>
      obtain ⟨cs, hc⟩ := (topRow hL k e).1
      exact .inr (hy.ne hc)
  have b0 : Below w6.heap.size w6 (w6.alloc o) := (Below.refl _ _).alloc (Nat.le_refl _) _
  exact (h1.next b0).wider (Nat.le_refl _) (Nat.le_trans hg.size b0.size)
theorem avPush {Z : Nat → Prop} {w0 wB : World} {L L' : Option Addr} {nn hi : Nat} {x : Value} {xs : List Int} (hZ : ∀ z, Z z → z < w0.heap.size) (bel : Below w0.heap.size w0 wB) (topL : ∀ k, blk L = some k → k < w0.heap.size) (h : Avoid Z w0 L nn) (hv : Inn wB w0.heap.size hi x xs)
    (hcell : ∀ j b' u, j < nn + 1 → L' = some ⟨b', 0, none⟩ → w6.cell? ⟨b', j, none⟩ = some u → (∃ b, j < nn ∧ L = some ⟨b, 0, none⟩ ∧ wB.cell? ⟨b, j, none⟩ = some u) ∨ (j = nn ∧ u = x)) : Avoid Z w6 L' (nn + 1) := by
  intro j b' u hj e hc z hz
  rcases hcell j b' u hj e hc with ⟨b, hj', e2, hc2⟩ | ⟨_, rfl⟩
  · refine h j b u hj' e2 ?_ z hz
    rw [← hc2]
    exact (bel.cell (p := ⟨b, j, none⟩) (topL b (by rw [e2]; rfl))).symm
  · intro e3
    have := (hv.blk z e3).1
    have := hZ z hz
    omega
/-- nothing turned in the tables -/
theorem avSame {Z : Nat → Prop} {nn : Nat} {L : Option Addr} (bel : Below w.heap.size w w') (topL : ∀ k, blk L = some k → k < w.heap.size) (h : Avoid Z w L nn) : Avoid Z w' L nn :=
  h.keep fun b j e => bel.cell (p := ⟨b, j, none⟩) (topL b (by rw [e]; rfl))
/-- the end: both tables one pair longer -/
theorem st5 {L' R' : Option Addr} {lc' rc' : Nat} (x : Int) (o2 o3 : Obj) (G : Gw w wr lo A n c sg P m a Q k b L ln lc R rc T) (T0 : Tabs w lo L ln lc R rc T) (hgs : Gs sg T 1 u v [x] (T ++ [(u, v)]))
    (hg6 : ((wr.alloc (.cells #[.int .i64 x] 2)).alloc o2).grownBy w6 (blk L)) (ho6 : Owns w6 lo w6.heap.size L' (ln + 1) lc' (T.map Prod.fst ++ [u])) (hat6 : blk L' = blk L ∨ blk L' = some ((wr.alloc (.cells #[.int .i64 x] 2)).alloc o2).heap.size)
    (hg7 : (w6.alloc o3).grownBy w7 (blk R)) (ho7 : Owns w7 lo w7.heap.size R' (ln + 1) rc' (T.map Prod.snd ++ [v])) (hat7 : blk R' = blk R ∨ blk R' = some (w6.alloc o3).heap.size) {vX vY : Value}
    (hX : Inn ((wr.alloc (.cells #[.int .i64 x] 2)).alloc o2) w.heap.size ((wr.alloc (.cells #[.int .i64 x] 2)).alloc o2).heap.size vX u) (hY : Inn (w6.alloc o3) w.heap.size (w6.alloc o3).heap.size vY v)
    (hc6 : ∀ j b' z, j < ln + 1 → L' = some ⟨b', 0, none⟩ → w6.cell? ⟨b', j, none⟩ = some z → (∃ b, j < ln ∧ L = some ⟨b, 0, none⟩ ∧ ((wr.alloc (.cells #[.int .i64 x] 2)).alloc o2).cell? ⟨b, j, none⟩ = some z) ∨ (j = ln ∧ z = vX))
    (hc7 : ∀ j b' z, j < ln + 1 → R' = some ⟨b', 0, none⟩ → w7.cell? ⟨b', j, none⟩ = some z → (∃ b, j < ln ∧ R = some ⟨b, 0, none⟩ ∧ (w6.alloc o3).cell? ⟨b, j, none⟩ = some z) ∨ (j = ln ∧ z = vY)) :
    AnsGen sg w lo L R ln T u v (.returned (.tuple #[.slice (some ⟨wr.heap.size, 0, none⟩) 1 1, .slice L' (ln + 1) lc', .slice R' (ln + 1) rc'])) w7 := by
  have hz := G.bel.size
  have tL : ∀ k, blk L = some k → k < w.heap.size := T0.l.top
  have tR : ∀ k, blk R = some k → k < w.heap.size := T0.r.top
  obtain ⟨k1, k2⟩ := st1 G T0 (.cells #[.int .i64 x] 2) o2
  have k3 := st3 k1 k2 T0 hg6 o3
  have z1 : ((wr.alloc (.cells #[.int .i64 x] 2)).alloc o2).heap.size = wr.heap.size + 1 + 1 := by simp
  have z6 := hg6.size
  have b6 : Below w6.heap.size w6 (w6.alloc o3) := (Below.refl _ _).alloc (Nat.le_refl _) _
  have z7 := hg7.size
  have zb := b6.size
  have hne : ∀ k, blk R = some k → blk L' ≠ some k := fun k hk e => by
    rcases hat6 with h | h
    · rw [h] at e; exact T0.ne k e hk
    · rw [h] at e
      injection e with e
      have := tR k hk
      omega
  have o6 := (ho6.next b6).wider (Nat.le_refl lo) zb
  have o7 : Owns w7 lo w7.heap.size L' (ln + 1) lc' (T.map Prod.fst ++ [u]) := (keepTab o6 (fun k hk => (topRow k3 k hk).1) hne hg7).wider (Nat.le_refl lo) z7
  have hout : Own w7 w.heap.size (.slice (some ⟨wr.heap.size, 0, none⟩) 1 1) [x] := by
    have e0 := one_own wr w.heap.size x hz
    have e1 : Own ((wr.alloc (.cells #[.int .i64 x] 2)).alloc o2) w.heap.size (.slice (some ⟨wr.heap.size, 0, none⟩) 1 1) [x] := Own.next e0 ((Below.refl _ _).alloc (Nat.le_refl _) _)
    have e2 := Own.far e1 hg6 tL
    exact Own.far (Own.next e2 b6) hg7 tR
  have two0 : Two w ((wr.alloc (.cells #[.int .i64 x] 2)).alloc o2) L R := Two.of_below (next_trans G.bel (two_alloc _ _ _))
  have two1 : Two w w6 L R := two0.trans (Two.left (R := R) hg6) (fun k h _ => h) (fun k h _ => h)
  have two2 : Two w (w6.alloc o3) L R := two1.trans (L1 := L) (R1 := R) (Two.of_below b6) (fun k h _ => h) (fun k h _ => h)
  have two3 : Two w w7 L R := two2.trans (L1 := L) (R1 := R) (Two.right hg7) (fun k h _ => h) (fun k h _ => h)
  refine ⟨[x], T ++ [(u, v)], _, L', R', 1, 1, ln + 1, lc', rc', rfl, hout, hgs, ⟨by simpa using o7, by simpa using ho7, fun k hk => ?_⟩, two3, fun k hk hlt => ?_, fun k hk hlt => ?_, fun Z hZ a1 a2 => ⟨?_, ?_⟩⟩
  · rcases hat7 with e | e
    · rw [e]; exact fun h => hne k h hk
    · rw [e]
      intro h
      injection h with h
      have := ho6.top k hk
      omega
  · rcases hat6 with e | e
    · rw [← e]; exact hk
    · rw [e] at hk; injection hk with hk; omega
  · rcases hat7 with e | e
    · rw [← e]; exact hk
    · rw [e] at hk; injection hk with hk; omega
  · refine (avPush hZ (next_trans G.bel (two_alloc _ _ _)) tL a1 hX hc6).keep fun b j e => ?_
    have hb := ho6.top b (by rw [e]; rfl)
    have h1 : (w6.alloc o3).cell? ⟨b, j, none⟩ = w6.cell? ⟨b, j, none⟩ := b6.cell (p := ⟨b, j, none⟩) hb
    rw [← h1]
    exact World.cell?_of_block (hg7.block b (by omega) (fun e2 => hne b e2.symm (by rw [e]; rfl)))
  · have bR : Avoid Z (w6.alloc o3) R ln := by
      refine a2.keep fun b j e => ?_
      have hb := tR b (by rw [e]; rfl)
      have h0 : ((wr.alloc (.cells #[.int .i64 x] 2)).alloc o2).cell? ⟨b, j, none⟩ = w.cell? ⟨b, j, none⟩ := (next_trans G.bel (two_alloc _ _ _)).cell (p := ⟨b, j, none⟩) hb
      have h1 : (w6.alloc o3).cell? ⟨b, j, none⟩ = w6.cell? ⟨b, j, none⟩ := b6.cell (p := ⟨b, j, none⟩) (show b < w6.heap.size by omega)
      rw [h1, ← h0]
      exact World.cell?_of_block (hg6.block b (by omega) (fun e2 => T0.ne b e2.symm (by rw [e]; rfl)))
    intro j b' z hj e hc y hy
    rcases hc7 j b' z hj e hc with ⟨b, hj', e2, hc2⟩ | ⟨_, rfl⟩
    · exact bR j b z hj' e2 hc2 y hy
    · intro e3
      have := (hY.blk y e3).1
      have := hZ y hy
      omega
end

end Go.Proofs.YtkmhnkljigncmaaGreat.genSpec
end

section
/-
  The loop of spec.l5General over the arguments: what stands at its head ('Hr'), and one round ('Hr.step'). By an AI agent.
-/
namespace Go.Proofs.YtkmhnkljigncmaaGreat.genRec
open Go.RowKit Go.Proofs.YtkmhnkljigncmaaGreat.base Go.Proofs.YtkmhnkljigncmaaGreat.ints Go.Proofs.YtkmhnkljigncmaaGreat.sig Go.Proofs.YtkmhnkljigncmaaGreat.cursor Go.Proofs.YtkmhnkljigncmaaGreat.marks Go.Proofs.YtkmhnkljigncmaaGreat.app Go.Proofs.YtkmhnkljigncmaaGreat.appAt Go.Proofs.YtkmhnkljigncmaaGreat.sym Go.Proofs.YtkmhnkljigncmaaGreat.segs Go.Proofs.YtkmhnkljigncmaaGreat.segsHelp Go.Proofs.YtkmhnkljigncmaaGreat.term Go.Proofs.YtkmhnkljigncmaaGreat.args Go.Proofs.YtkmhnkljigncmaaGreat.sub Go.Proofs.YtkmhnkljigncmaaGreat.look Go.Proofs.YtkmhnkljigncmaaGreat.plain Go.Proofs.YtkmhnkljigncmaaGreat.same Go.Proofs.YtkmhnkljigncmaaGreat.posMath Go.Proofs.YtkmhnkljigncmaaGreat.unifMath Go.Proofs.YtkmhnkljigncmaaGreat.genMath Go.Proofs.YtkmhnkljigncmaaGreat.genPos Go.Proofs.YtkmhnkljigncmaaGreat.genTab Go.Proofs.YtkmhnkljigncmaaGreat.appZ Go.Proofs.YtkmhnkljigncmaaGreat.genSpec

theorem gs_bnd {sg : List Int} {T T' : Tb} {n B : Nat} {u w g : List Int} (h : Gs sg T n u w g T') : (∀ x ∈ T, x.1.length ≤ B ∧ x.2.length ≤ B) → u.length ≤ B → w.length ≤ B → ∀ x ∈ T', x.1.length ≤ B ∧ x.2.length ≤ B := by
  induction h with
  | nil T => exact fun h _ _ => h
  | sym _ _ _ ih => exact fun h h1 h2 => ih h (by simp only [List.length_cons] at h1; omega) (by simp only [List.length_cons] at h2; omega)
  | old _ _ _ _ _ ih => exact fun h h1 h2 => ih h (by simp only [List.length_append] at h1; omega) (by simp only [List.length_append] at h2; omega)
  | new _ _ _ _ _ ih =>
    intro h h1 h2
    simp only [List.length_append] at h1 h2
    refine ih (fun x hx => ?_) (by omega) (by omega)
    rcases List.mem_append.mp hx with hx | hx
    · exact h x hx
    · simp only [List.mem_singleton] at hx
      subst hx
      exact ⟨by simp only; omega, by simp only; omega⟩
theorem gs_pos {sg : List Int} {T T' : Tb} {n : Nat} {u w g : List Int} (h : Gs sg T n u w g T') : n ≤ g.length := by
  induction h with
  | nil T => simp
  | sym _ _ _ ih => simp only [List.length_cons]; omega
  | old _ _ _ _ _ ih => simp only [List.length_cons]; omega
  | new _ _ _ _ _ ih => simp only [List.length_cons]; omega
theorem ownRow {w : World} {base n c : Nat} {A : Option Addr} {xs : List Int} (h : Own w base (.slice A n c) xs) : ∀ k, blk A = some k → (∃ cs, Row w k 2 cs) ∧ base ≤ k ∧ k < w.heap.size := fun k hk => by
  have hl := Own.len h
  subst hl
  rcases own_form (n := xs.length) (vs := xs.map (Value.int .i64)) h with ⟨rfl, _⟩ | ⟨g, cur, rfl, hb, hg, _⟩
  · cases hk
  · injection hk with hk
    subst hk
    exact ⟨⟨cur, hg⟩, hb, hg.lt⟩

/-- what stands at the loop's head -/
structure Hr (w wr : World) (lo : Nat) (A : Option Addr) (n c : Nat) (sg : List Int) (P : Option Addr) (m : Nat) (a : List Int) (Q : Option Addr) (k : Nat) (b : List Int) (L R : Option Addr) (ln p q : Nat) (T : Tb) (x : Int) (X : Option Addr) (xn xc : Nat) (Y : Option Addr) (yn yc i : Nat) (L' R' : Option Addr) (ln' lc' rc' : Nat) (O : Option Addr) (on oc : Nat) (g : List Int) (T' : Tb) : Prop where
  r0 : Row wr w.heap.size 26 #[.slice A n c]
  s : Seg wr lo A n sg
  pa : Seg wr lo P m a
  qb : Seg wr lo Q k b
  t : Tabs wr lo L' ln' lc' R' rc' T'
  le : lo ≤ w.heap.size
  two : Two w wr L R
  hl : ∀ k, blk L' = some k → k < w.heap.size → blk L = some k
  hr : ∀ k, blk R' = some k → k < w.heap.size → blk R = some k
  ox : Own wr w.heap.size (.slice X xn xc) (argsL sg a p)
  oy : Own wr w.heap.size (.slice Y yn yc) (argsL sg b q)
  oo : Own wr w.heap.size (.slice O on oc) (x :: g)
  nx : ∀ z, blk O = some z → blk X ≠ some z
  ny : ∀ z, blk O = some z → blk Y ≠ some z
  ga : Ga sg a b p q T i g T'
  av : ∀ Z : Nat → Prop, (∀ z, Z z → z < w.heap.size) → Avoid Z w L ln → Avoid Z w R ln → Avoid Z wr L' ln' ∧ Avoid Z wr R' ln'
  ao : Avoid (fun z => blk O = some z) wr L' ln' ∧ Avoid (fun z => blk O = some z) wr R' ln'
section
variable {w wr wd w5 w6 : World} {lo : Nat} {A : Option Addr} {n c : Nat} {sg : List Int} {P : Option Addr} {m : Nat} {a : List Int} {Q : Option Addr} {k : Nat} {b : List Int} {L R : Option Addr} {ln p q : Nat} {T : Tb} {x : Int} {X : Option Addr} {xn xc : Nat} {Y : Option Addr} {yn yc i : Nat} {L' R' : Option Addr} {ln' lc' rc' : Nat} {O : Option Addr} {on oc : Nat} {g : List Int} {T' : Tb}
theorem own_away {base r0 : Nat} {r : Option Nat} {A : Option Addr} {n c : Nat} {xs : List Int} (h : Own w5 base (.slice A n c) xs) (hg : w5.grownBy w6 r) (hne : ∀ z, r = some z → blk A ≠ some z) (_ : r0 = 0) : Own w6 base (.slice A n c) xs := by
  refine World.ownsRow.kept h hg ?_
  rw [blk_own]
  cases e : blk A with
  | none => exact .inl rfl
  | some z => exact .inr (fun e2 => hne z e2.symm e)
theorem Hr.step (h : Hr w wr lo A n c sg P m a Q k b L R ln p q T x X xn xc Y yn yc i L' R' ln' lc' rc' O on oc g T') {L2 R2 : Option Addr} {n2 lc2 rc2 : Nat} {g' : List Int} {T2 : Tb}
    (hgs : Gs sg T' 1 (subL sg a (argP sg a i (p + 1))) (subL sg b (argP sg b i (q + 1))) g' T2) (ht2 : Tabs w5 lo L2 n2 lc2 R2 rc2 T2) (htwo : Two wr w5 L' R') (hl2 : ∀ k, blk L2 = some k → k < wr.heap.size → blk L' = some k) (hr2 : ∀ k, blk R2 = some k → k < wr.heap.size → blk R' = some k)
    (hav : ∀ Z : Nat → Prop, (∀ z, Z z → z < wr.heap.size) → Avoid Z wr L' ln' → Avoid Z wr R' ln' → Avoid Z w5 L2 n2 ∧ Avoid Z w5 R2 n2)
    {O' : Option Addr} {on' oc' : Nat} (ho6 : Own w6 w.heap.size (.slice O' on' oc') ((x :: g) ++ g')) (hg6 : w5.grownBy w6 (blk O)) (hat6 : blk O' = blk O ∨ blk O' = some w5.heap.size) :
    Hr w w6 lo A n c sg P m a Q k b L R ln p q T x X xn xc Y yn yc (i + 1) L2 R2 n2 lc2 rc2 O' on' oc' (g ++ g') T2 := by
  have tO := ownRow h.oo
  have hzw := h.two.size
  have hz5 := htwo.size
  have hz6 := hg6.size
  have oo5 := htwo.own h.oo h.t.rowL h.t.rowR
  have tO5 := ownRow oo5
  have ox5 := htwo.own h.ox h.t.rowL h.t.rowR
  have oy5 := htwo.own h.oy h.t.rowL h.t.rowR
  have b5 : Below lo wr w5 := htwo.below h.t.loL h.t.loR (Nat.le_trans h.le hzw)
  have hOlo : ∀ z, blk O = some z → w.heap.size ≤ z := fun z hz => (tO z hz).2.1
  have hOL : ∀ z, blk L2 = some z → blk O ≠ some z := fun z hz e => by
    obtain ⟨cs, h1⟩ := ht2.rowL z hz
    obtain ⟨⟨cs2, h2⟩, _⟩ := tO5 z e
    exact Row.ne_ h2 h1 (by decide) rfl
  have hOR : ∀ z, blk R2 = some z → blk O ≠ some z := fun z hz e => by
    obtain ⟨cs, h1⟩ := ht2.rowR z hz
    obtain ⟨⟨cs2, h2⟩, _⟩ := tO5 z e
    exact Row.ne_ h2 h1 (by decide) rfl
  have r5 : Row w5 w.heap.size 26 #[.slice A n c] := htwo.row h.r0 (fun e => by obtain ⟨cs, h1⟩ := h.t.rowL _ e; exact Row.ne_ h.r0 h1 (by decide) rfl) (fun e => by obtain ⟨cs, h1⟩ := h.t.rowR _ e; exact Row.ne_ h.r0 h1 (by decide) rfl)
  have hOs : blk O ≠ some w.heap.size := fun e => by
    obtain ⟨⟨cs, h1⟩, _⟩ := tO5 _ e
    exact Row.ne_ r5 h1 (by decide) rfl
  have hfar : ∀ z, blk O = some z → lo ≤ z := fun z hz => Nat.le_trans h.le (hOlo z hz)
  have hlo5 : lo ≤ w5.heap.size := by have := h.le; omega
  obtain ⟨avO1, avO2⟩ := hav (fun z => blk O = some z) (fun z hz => (tO z hz).2.2) h.ao.1 h.ao.2
  have kL : ∀ b j, L2 = some ⟨b, 0, none⟩ → w6.cell? ⟨b, j, none⟩ = w5.cell? ⟨b, j, none⟩ := fun b j e => World.cell?_of_block (hg6.block b (ht2.l.top b (by rw [e]; rfl)) (fun e2 => hOL b (by rw [e]; rfl) e2.symm))
  have kR : ∀ b j, R2 = some ⟨b, 0, none⟩ → w6.cell? ⟨b, j, none⟩ = w5.cell? ⟨b, j, none⟩ := fun b j e => World.cell?_of_block (hg6.block b (ht2.r.top b (by rw [e]; rfl)) (fun e2 => hOR b (by rw [e]; rfl) e2.symm))
  have two5 : Two w w5 L R := h.two.trans htwo h.hl h.hr
  refine ⟨?_, Seg.far (h.s.below b5) hg6 hlo5 hfar, Seg.far (h.pa.below b5) hg6 hlo5 hfar, Seg.far (h.qb.below b5) hg6 hlo5 hfar, ⟨(Avoid.owns ht2.l avO1 hOL hg6).wider (Nat.le_refl _) hz6, (Avoid.owns ht2.r avO2 hOR hg6).wider (Nat.le_refl _) hz6, ht2.ne⟩, h.le, ?_, fun z hz hlt => h.hl z (hl2 z hz (by omega)) hlt, fun z hz hlt => h.hr z (hr2 z hz (by omega)) hlt, own_away (r0 := 0) ox5 hg6 h.nx rfl, own_away (r0 := 0) oy5 hg6 h.ny rfl, ho6, fun z hz => ?_, fun z hz => ?_, ga_succ h.ga hgs, fun Z hZ a1 a2 => ?_, ?_⟩
  · exact (hg6.block _ r5.lt (fun e => hOs e.symm)).trans r5
  · exact ⟨hg6.os.trans two5.os, hg6.tape.trans two5.tape, hg6.output.trans two5.output, Nat.le_trans two5.size hz6, fun z hz h1 h2 => (hg6.block z (by omega) (fun e => by have := hOlo z e.symm; omega)).trans (two5.block z hz h1 h2)⟩
  · rcases hat6 with e | e
    · exact h.nx z (by rw [← e]; exact hz)
    · intro e2
      rw [e] at hz
      injection hz with hz
      have := (ownRow ox5 z e2).2.2
      omega
  · rcases hat6 with e | e
    · exact h.ny z (by rw [← e]; exact hz)
    · intro e2
      rw [e] at hz
      injection hz with hz
      have := (ownRow oy5 z e2).2.2
      omega
  · obtain ⟨c1, c2⟩ := h.av Z hZ a1 a2
    obtain ⟨d1, d2⟩ := hav Z (fun z hz => by have := hZ z hz; omega) c1 c2
    exact ⟨d1.keep kL, d2.keep kR⟩
  · rcases hat6 with e | e
    · rw [e]; exact ⟨avO1.keep kL, avO2.keep kR⟩
    · refine ⟨(Avoid.fresh ht2.l (fun z hz => ?_)).keep kL, (Avoid.fresh ht2.r (fun z hz => ?_)).keep kR⟩
      · rw [e] at hz; injection hz with hz; omega
      · rw [e] at hz; injection hz with hz; omega
end
end Go.Proofs.YtkmhnkljigncmaaGreat.genRec
end

section
/-
  CONTRACT: spec.l5General, whole, by induction on the length of what is read. Conditions: the slices read as lists, the places begin subterms, the lists of the tables are at most 1048576 numbers long. By an AI agent.
-/
namespace Go.Proofs.YtkmhnkljigncmaaGreat.genMain
open Go.RowKit Go.Proofs.YtkmhnkljigncmaaGreat.base Go.Proofs.YtkmhnkljigncmaaGreat.ints Go.Proofs.YtkmhnkljigncmaaGreat.sig Go.Proofs.YtkmhnkljigncmaaGreat.cursor Go.Proofs.YtkmhnkljigncmaaGreat.marks Go.Proofs.YtkmhnkljigncmaaGreat.app Go.Proofs.YtkmhnkljigncmaaGreat.appAt Go.Proofs.YtkmhnkljigncmaaGreat.sym Go.Proofs.YtkmhnkljigncmaaGreat.segs Go.Proofs.YtkmhnkljigncmaaGreat.segsHelp Go.Proofs.YtkmhnkljigncmaaGreat.term Go.Proofs.YtkmhnkljigncmaaGreat.args Go.Proofs.YtkmhnkljigncmaaGreat.sub Go.Proofs.YtkmhnkljigncmaaGreat.look Go.Proofs.YtkmhnkljigncmaaGreat.plain Go.Proofs.YtkmhnkljigncmaaGreat.same Go.Proofs.YtkmhnkljigncmaaGreat.posMath Go.Proofs.YtkmhnkljigncmaaGreat.unifMath Go.Proofs.YtkmhnkljigncmaaGreat.genMath Go.Proofs.YtkmhnkljigncmaaGreat.genPos Go.Proofs.YtkmhnkljigncmaaGreat.genTab Go.Proofs.YtkmhnkljigncmaaGreat.appZ Go.Proofs.YtkmhnkljigncmaaGreat.genSpec Go.Proofs.YtkmhnkljigncmaaGreat.genRec
set_option maxRecDepth 100000

section
variable {w wr w5 : World} {lo : Nat} {A : Option Addr} {n c : Nat} {sg : List Int} {P : Option Addr} {m : Nat} {a : List Int} {Q : Option Addr} {k : Nat} {b : List Int} {L R : Option Addr} {ln p q : Nat} {T : Tb} {x : Int} {X : Option Addr} {xn xc : Nat} {Y : Option Addr} {yn yc i : Nat} {L' R' : Option Addr} {ln' lc' rc' : Nat} {O : Option Addr} {on oc : Nat} {g : List Int} {T' : Tb}
theorem two_drew (h : Two wr.drew w5 L' R') : Two wr w5 L' R' := ⟨h.os, h.tape, h.output, h.size, h.block⟩
theorem cells (h : Hr w wr lo A n c sg P m a Q k b L R ln p q T x X xn xc Y yn yc i L' R' ln' lc' rc' O on oc g T') (htwo : Two wr w5 L' R') : w5.cell? ⟨w.heap.size, 0, none⟩ = some (.slice A n c) ∧ (∀ b o j, X = some ⟨b, o, none⟩ → w5.cell? ⟨b, j, none⟩ = wr.cell? ⟨b, j, none⟩) ∧ (∀ b o j, Y = some ⟨b, o, none⟩ → w5.cell? ⟨b, j, none⟩ = wr.cell? ⟨b, j, none⟩) := by
  have key : ∀ z t cs, Row wr z t cs → t ≠ 24 → Row w5 z t cs := fun z t cs hr ht => htwo.row hr (fun e => by obtain ⟨cs2, h1⟩ := h.t.rowL _ e; exact Row.ne_ hr h1 ht rfl) (fun e => by obtain ⟨cs2, h1⟩ := h.t.rowR _ e; exact Row.ne_ hr h1 ht rfl)
  refine ⟨(key _ _ _ h.r0 (by decide)).cell 0, fun b o j e => ?_, fun b o j e => ?_⟩
  · obtain ⟨⟨cs, h1⟩, _⟩ := ownRow h.ox b (by rw [e]; rfl)
    rw [(key _ _ _ h1 (by decide)).cell j, h1.cell j]
  · obtain ⟨⟨cs, h1⟩, _⟩ := ownRow h.oy b (by rw [e]; rfl)
    rw [(key _ _ _ h1 (by decide)).cell j, h1.cell j]
theorem upto_len {sg t : List Int} {p k : Nat} : (upto sg t p k).length ≤ argP sg t k (p + 1) - (p + 1) ∧ (upto sg t p k).length ≤ t.length := by
  unfold upto
  rw [List.length_take, List.length_drop]
  omega
end
/-- what the loop's head says -/
def HeadR (w : World) (lo : Nat) (A : Option Addr) (n c : Nat) (sg : List Int) (P : Option Addr) (m : Nat) (a : List Int) (Q : Option Addr) (k : Nat) (b : List Int) (L R : Option Addr) (ln p q : Nat) (T : Tb) (x : Int) (X : Option Addr) (xn xc : Nat) (Y : Option Addr) (yn yc : Nat) (l r o iv : Value) (wr : World) : Prop :=
  ∃ (i : Nat) (L' R' : Option Addr) (ln' lc' rc' : Nat) (O : Option Addr) (on oc : Nat) (g : List Int) (T' : Tb), i ≤ xn ∧ l = .slice L' ln' lc' ∧ r = .slice R' ln' rc' ∧ o = .slice O on oc ∧ iv = .int .i64 i ∧ Hr w wr lo A n c sg P m a Q k b L R ln p q T x X xn xc Y yn yc i L' R' ln' lc' rc' O on oc g T'

end Go.Proofs.YtkmhnkljigncmaaGreat.genMain
end

section
/-
  CONTRACTS: spec.l5Least: the least general pattern of two right terms, none where it would need too many variables; spec.Generalised (what is told of the two lists is given: 'IsG'). Conditions: the slices read as lists, at most 1048576 numbers. By an AI agent.
-/
namespace Go.Proofs.YtkmhnkljigncmaaGreat.general
open Go.RowKit Go.Proofs.YtkmhnkljigncmaaGreat.base Go.Proofs.YtkmhnkljigncmaaGreat.ints Go.Proofs.YtkmhnkljigncmaaGreat.sig Go.Proofs.YtkmhnkljigncmaaGreat.cursor Go.Proofs.YtkmhnkljigncmaaGreat.marks Go.Proofs.YtkmhnkljigncmaaGreat.app Go.Proofs.YtkmhnkljigncmaaGreat.appAt Go.Proofs.YtkmhnkljigncmaaGreat.sym Go.Proofs.YtkmhnkljigncmaaGreat.segs Go.Proofs.YtkmhnkljigncmaaGreat.segsHelp Go.Proofs.YtkmhnkljigncmaaGreat.term Go.Proofs.YtkmhnkljigncmaaGreat.args Go.Proofs.YtkmhnkljigncmaaGreat.sub Go.Proofs.YtkmhnkljigncmaaGreat.look Go.Proofs.YtkmhnkljigncmaaGreat.plain Go.Proofs.YtkmhnkljigncmaaGreat.unifMath Go.Proofs.YtkmhnkljigncmaaGreat.genMath Go.Proofs.YtkmhnkljigncmaaGreat.genPos Go.Proofs.YtkmhnkljigncmaaGreat.genTab Go.Proofs.YtkmhnkljigncmaaGreat.genSpec Go.Proofs.YtkmhnkljigncmaaGreat.genMain Go.Proofs.YtkmhnkljigncmaaGreat.termOk Go.Proofs.YtkmhnkljigncmaaGreat.termFacts Go.Proofs.YtkmhnkljigncmaaGreat.termMath Go.Proofs.YtkmhnkljigncmaaGreat.endAt Go.Proofs.YtkmhnkljigncmaaGreat.unifLaw
set_option maxRecDepth 100000

theorem owns_empty {w : World} {lo hi g : Nat} (hr : Row w g 24 #[]) (h1 : lo ≤ g) (h2 : g < hi) : Owns w lo hi (some ⟨g, 0, none⟩) 0 0 [] :=
  ⟨rfl, ⟨[], by have := rowsOf (n := 0) (c := 0) hr rfl (Nat.le_refl _) (by omega) h1; simpa using this, fun j hj => absurd hj (Nat.not_lt_zero _), fun i j k _ hj => absurd hj (Nat.not_lt_zero _)⟩, fun k hk => by
    have hk : g = k := Option.some.inj hk
    omega⟩
theorem sub_all {sg t : List Int} (h : Trm sg t) : subL sg t 0 = t := by
  unfold subL
  rw [List.drop_zero, len1_eq (j := t.length) (by rw [List.drop_zero]; exact h), List.take_length]

/-- what stands in the course of a call with a boxed signature -/
structure Gr (w wr : World) (A : Option Addr) (n c : Nat) (sg : List Int) (P : Option Addr) (m : Nat) (a : List Int) (Q : Option Addr) (k : Nat) (b : List Int) : Prop where
  r0 : Row wr w.heap.size 26 #[.slice A n c]
  s : Seg wr wr.heap.size A n sg
  pa : Seg wr wr.heap.size P m a
  qb : Seg wr wr.heap.size Q k b
  b : Below w.heap.size w wr
theorem Gr.next {w wr w' : World} {A : Option Addr} {n c : Nat} {sg : List Int} {P : Option Addr} {m : Nat} {a : List Int} {Q : Option Addr} {k : Nat} {b : List Int} (h : Gr w wr A n c sg P m a Q k b) (hb : Below wr.heap.size wr w') : Gr w w' A n c sg P m a Q k b :=
  ⟨h.r0.next hb, h.s.next hb, h.pa.next hb, h.qb.next hb, next_trans h.b hb⟩
theorem isG_off {sg a b g : List Int} (h : IsG sg a b g) (ho : termOkB sg a = false ∨ termOkB sg b = false) : g = [] := by
  rcases h with ⟨h1, h2, _⟩ | ⟨_, e⟩
  · rcases ho with h | h
    · rw [h1] at h; cases h
    · rw [h2] at h; cases h
  · exact e

end Go.Proofs.YtkmhnkljigncmaaGreat.general
end

section
/-
  CONTRACTS: spec.MetOf, impl.MetOf. Conditions: the slices read as lists ('Seg'), at most 1048576 numbers; what is told is given ('IsA'). By an AI agent.
-/
namespace Go.Proofs.YtkmhnkljigncmaaGreat.met
open Go.RowKit Go.Proofs.YtkmhnkljigncmaaGreat.base Go.Proofs.YtkmhnkljigncmaaGreat.ints Go.Proofs.YtkmhnkljigncmaaGreat.sig Go.Proofs.YtkmhnkljigncmaaGreat.term Go.Proofs.YtkmhnkljigncmaaGreat.termOk Go.Proofs.YtkmhnkljigncmaaGreat.termFacts Go.Proofs.YtkmhnkljigncmaaGreat.endAt Go.Proofs.YtkmhnkljigncmaaGreat.cursor Go.Proofs.YtkmhnkljigncmaaGreat.marks Go.Proofs.YtkmhnkljigncmaaGreat.app Go.Proofs.YtkmhnkljigncmaaGreat.sym Go.Proofs.YtkmhnkljigncmaaGreat.segs Go.Proofs.YtkmhnkljigncmaaGreat.segsHelp Go.Proofs.YtkmhnkljigncmaaGreat.kinds Go.Proofs.YtkmhnkljigncmaaGreat.fillMath Go.Proofs.YtkmhnkljigncmaaGreat.look Go.Proofs.YtkmhnkljigncmaaGreat.shifted Go.Proofs.YtkmhnkljigncmaaGreat.substOk Go.Proofs.YtkmhnkljigncmaaGreat.gives Go.Proofs.YtkmhnkljigncmaaGreat.filled Go.Proofs.YtkmhnkljigncmaaGreat.plainMath Go.Proofs.YtkmhnkljigncmaaGreat.plain Go.Proofs.YtkmhnkljigncmaaGreat.renMath Go.Proofs.YtkmhnkljigncmaaGreat.renPure Go.Proofs.YtkmhnkljigncmaaGreat.rename Go.Proofs.YtkmhnkljigncmaaGreat.renImpl Go.Proofs.YtkmhnkljigncmaaGreat.genSpec Go.Proofs.YtkmhnkljigncmaaGreat.unifMath Go.Proofs.YtkmhnkljigncmaaGreat.unifLaw Go.Proofs.YtkmhnkljigncmaaGreat.unified Go.Proofs.YtkmhnkljigncmaaGreat.unifImpl Go.Proofs.YtkmhnkljigncmaaGreat.behind Go.Proofs.YtkmhnkljigncmaaGreat.apart5
set_option maxRecDepth 100000

/-- the common term, renamed -/
def metL (v : Bool) (F : List (List Int)) (a : List Int) : List Int := if v = true then renL (fillL (givesL F) a) else []
theorem isA_each {sg a b : List Int} {v : Bool} {F : List (List Int)} (h : IsA sg a b v F) : tot F ≤ 1048576 := by
  rcases h with ⟨_, h⟩ | ⟨_, _, rfl⟩
  · exact isU_each h
  · simp [tot, sumL]
theorem isA_true {sg a b : List Int} {F : List (List Int)} (h : IsA sg a b true F) : substOkB sg F = true ∧ termOkB sg a = true ∧ fitsB F a = true ∧ filledB sg F a = true ∧ termOkB sg (fillL (givesL F) a) = true := by
  rcases h with ⟨_, h⟩ | ⟨_, e, _⟩
  · obtain ⟨h1, _, h3, _⟩ := isU_facts h
    obtain ⟨_, p2, p3, p4⟩ := filled_parts h3
    refine ⟨h1, p2, ?_, h3, ?_⟩
    · rw [← filled_b h1 p2]; exact h3
    · exact term_mk (term_parts p2).1 p4 ((gives_sub h1).fill (term_parts p2).2.2)
  · cases e
theorem met_len {sg a b : List Int} {v : Bool} {F : List (List Int)} (h : IsA sg a b v F) : (metL v F a).length ≤ 1048576 := by
  unfold metL
  split
  · rename_i e
    subst e
    have h5 := (isA_true h).2.2.2.2
    have := (term_len (ren_ok h5)).2
    omega
  · simp

set_option maxHeartbeats 2000000 in
theorem specMetOf (A P Q : Option Addr) (n c pn pc m mc : Nat) (sg p t : List Int) (w : World) (v : Bool) (F : List (List Int)) (hU : IsA sg p t v F) (h : Seg w w.heap.size A n sg) (hp : Seg w w.heap.size P pn p) (ht : Seg w w.heap.size Q m t) (hn : n ≤ 1048576) (hpn : pn ≤ 1048576) (hm : m ≤ 1048576) :
    Calls Tryz.prog 7 #[.agg #[.slice A n c], .slice P pn pc, .slice Q m mc] w (AnsPairO w (metL v F p) v) := by
  obtain ⟨W, hW⟩ : ∃ W, W = w.alloc (.cells #[.slice A n c] 26) := ⟨_, rfl⟩
  have bW : Below w.heap.size w W := by rw [hW]; exact (Below.refl _ _).alloc (Nat.le_refl _) _
  have HW := Lib.hid hW
  have sp := hp.next bW
  have L := Lib.hid (specUnifiedApart A P Q n c pn pc m mc sg p t W v F hU (h.next bW) sp (ht.next bW) hn hpn hm)
  have HU := Lib.hid hU
  clear hU hW h hp ht
  go_enter Tryz.func7, Tryz.ntmps7
  go_wp2_with fail
  rw [← HW.out]
  refine L.out.mono ?_
  rintro e w1 ⟨D, dn, dc, rfl, od, bb⟩
  have b1 := next_trans bW bb
  have B2 : Below w1.heap.size w1 (w1.alloc (.cells #[.slice D dn dc] 35)) := (Below.refl _ _).alloc (Nat.le_refl _) _
  have s2 := (sp.next bb).next B2
  have o2 := (od.next B2).segs
  have b2 := next_trans b1 B2
  clear bb L bW sp od
  cases v with
  | false =>
    have F1 := Lib.hid (show AnsPairO w [] false (.returned (.tuple #[.slice (some ⟨(w1.alloc (.cells #[.slice D dn dc] 35)).heap.size, 0, none⟩) 0 0, .bool false])) ((w1.alloc (.cells #[.slice D dn dc] 35)).alloc (.cells #[] 2)) from ⟨_, 0, 0, rfl, own_empty _ _ b2.size, b2.alloc b2.size _⟩)
    clear b1 b2 B2 s2 o2
    go_wp2
    go_ret2
    have G := F1.out
    simp at G
    exact G
  | true =>
    obtain ⟨h1, h2, h3, h4, h5⟩ := isA_true HU.out
    have hp60 : pn ≤ 60 := by rw [← s2.1]; exact (term_len h2).2
    have LF := Lib.hid (l2Filled D P dn dc pn pc F p _ o2 s2 (isA_each HU.out) hp60 (fun x hx => (term_mem h2 hx).1) (gives_len h1))
    have E := Lib.hid (show fitL F p = fillL (givesL F) p by unfold fitL; rw [if_pos h3])
    have H5 := Lib.hid h5
    have HB2 := Lib.hid b2
    rw [h3] at LF
    clear h1 h2 h3 h4 h5 b1 b2 B2 s2 o2
    go_wp2_with fail
    refine LF.out.mono ?_
    rintro e w3 ⟨X, xn, xc, rfl, ox, b3⟩
    rw [E.out] at ox
    have sx := Own.seg ox
    have hx60 : xn ≤ 1048576 := by rw [← sx.1]; have := (term_len H5.out).2; omega
    have LR := Lib.hid (l2Renamed X xn xc (fillL (givesL F) p) w3 sx hx60)
    have B3 := Lib.hid (next_trans HB2.out b3)
    clear ox sx b3 LF
    go_wp2_with fail
    refine LR.out.mono ?_
    rintro e w4 ⟨Y, yn, yc, rfl, oy, b4⟩
    have F1 := Lib.hid (show AnsPairO w (metL true F p) true (.returned (.tuple #[.slice Y yn yc, .bool true])) w4 from ⟨Y, yn, yc, rfl, Own.lower oy B3.out.size, next_trans B3.out b4⟩)
    clear oy b4 LR
    go_wp2
    go_ret2
    exact F1.out

set_option maxHeartbeats 2000000 in
theorem implMetOf (A P Q : Option Addr) (n c pn pc m mc : Nat) (sg p t : List Int) (w : World) (v : Bool) (F : List (List Int)) (hU : IsA sg p t v F) (h : Seg w w.heap.size A n sg) (hp : Seg w w.heap.size P pn p) (ht : Seg w w.heap.size Q m t) (hn : n ≤ 1048576) (hpn : pn ≤ 1048576) (hm : m ≤ 1048576) (kp : Cap P pn pc) :
    Calls Tryz.prog 6 #[.agg #[.slice A n c], .slice P pn pc, .slice Q m mc] w (AnsPairO w (metL v F p) v) := by
  obtain ⟨W, hW⟩ : ∃ W, W = w.alloc (.cells #[.slice A n c] 26) := ⟨_, rfl⟩
  have bW : Below w.heap.size w W := by rw [hW]; exact (Below.refl _ _).alloc (Nat.le_refl _) _
  have rW : Row W w.heap.size 26 #[.slice A n c] := by rw [hW]; exact Row.new _ _ _
  have HW := Lib.hid hW
  have sp := hp.next bW
  have sA := h.next bW
  have L := Lib.hid (implUnifiedApart A P Q n c pn pc m mc sg p t W v F hU sA sp (ht.next bW) hn hpn hm kp)
  have HU := Lib.hid hU
  clear hU hW h hp ht
  go_enter Tryz.func6, Tryz.ntmps6
  go_wp2_with fail
  rw [← HW.out]
  refine L.out.mono ?_
  rintro e w1 ⟨D, dn, dc, rfl, od, bb⟩
  have b1 := next_trans bW bb
  have B2 : Below w1.heap.size w1 (w1.alloc (.cells #[.slice D dn dc] 35)) := (Below.refl _ _).alloc (Nat.le_refl _) _
  have s2 := (sp.next bb).next B2
  have sA2 := (sA.next bb).next B2
  have r2 := (rW.next bb).next B2
  have c2 : (w1.alloc (.cells #[.slice D dn dc] 35)).cell? ⟨w.heap.size, 0, none⟩ = some (.slice A n c) := r2.cell 0
  have o2 := (od.next B2).segs
  have b2 := next_trans b1 B2
  clear bb L bW sp od sA rW
  cases v with
  | false =>
    have F1 := Lib.hid (show AnsPairO w [] false (.returned (.tuple #[.slice none 0 0, .bool false])) (w1.alloc (.cells #[.slice D dn dc] 35)) from ⟨none, 0, 0, rfl, Own.nil _ _, b2⟩)
    clear b1 b2 B2 s2 o2 c2 r2
    go_wp2
    go_ret2
    exact F1.out
  | true =>
    obtain ⟨h1, h2, h3, h4, h5⟩ := isA_true HU.out
    have LF := Lib.hid (implFilled A D P n c dn dc pn pc sg F p _ sA2 o2 s2 hn (isA_each HU.out) hpn)
    have E := Lib.hid (show filledL sg F p = fillL (givesL F) p by unfold filledL; rw [if_pos h4])
    have H5 := Lib.hid h5
    have HB2 := Lib.hid b2
    rw [h4] at LF
    clear h1 h2 h3 h4 h5 b1 b2 B2 s2 o2
    go_wp2_with fail
    refine LF.out.mono ?_
    rintro e w3 ⟨X, xn, xc, rfl, ox, b3⟩
    rw [E.out] at ox
    have sx := Own.seg ox
    have c3 : w3.cell? ⟨w.heap.size, 0, none⟩ = some (.slice A n c) := (r2.next b3).cell 0
    have hx60 : xn ≤ 1048576 := by rw [← sx.1]; have := (term_len H5.out).2; omega
    have LR := Lib.hid (implRenamed A X n c xn xc sg (fillL (givesL F) p) w3 (sA2.next b3) sx hn hx60)
    have ER := Lib.hid (show renI sg (fillL (givesL F) p) = metL true F p by unfold renI; rw [if_pos H5.out]; rfl)
    rw [ER.out] at LR
    have B3 := Lib.hid (next_trans HB2.out b3)
    clear ox sx b3 LF sA2 r2 c2
    go_wp2_with fail
    refine LR.out.mono ?_
    rintro e w4 ⟨Y, yn, yc, rfl, oy, b4⟩
    have F1 := Lib.hid (show AnsPairO w (metL true F p) true (.returned (.tuple #[.slice Y yn yc, .bool true])) w4 from ⟨Y, yn, yc, rfl, Own.lower oy B3.out.size, next_trans B3.out b4⟩)
    clear oy b4 LR
    go_wp2
    go_ret2
    exact F1.out
end Go.Proofs.YtkmhnkljigncmaaGreat.met
end

section
/-
  CONTRACTS: spec.l4Match, Matched, InstanceIn. Conditions: the slices read as lists ('Seg'), at most 1048576 numbers. By an AI agent.
-/
namespace Go.Proofs.YtkmhnkljigncmaaGreat.matchSpec
open Go.RowKit Go.Proofs.YtkmhnkljigncmaaGreat.base Go.Proofs.YtkmhnkljigncmaaGreat.ints Go.Proofs.YtkmhnkljigncmaaGreat.sig Go.Proofs.YtkmhnkljigncmaaGreat.same Go.Proofs.YtkmhnkljigncmaaGreat.term Go.Proofs.YtkmhnkljigncmaaGreat.termOk Go.Proofs.YtkmhnkljigncmaaGreat.endAt Go.Proofs.YtkmhnkljigncmaaGreat.inside Go.Proofs.YtkmhnkljigncmaaGreat.marks Go.Proofs.YtkmhnkljigncmaaGreat.app Go.Proofs.YtkmhnkljigncmaaGreat.sym Go.Proofs.YtkmhnkljigncmaaGreat.sub Go.Proofs.YtkmhnkljigncmaaGreat.segs Go.Proofs.YtkmhnkljigncmaaGreat.segsHelp Go.Proofs.YtkmhnkljigncmaaGreat.termFacts Go.Proofs.YtkmhnkljigncmaaGreat.termMath Go.Proofs.YtkmhnkljigncmaaGreat.posMath Go.Proofs.YtkmhnkljigncmaaGreat.plainMath Go.Proofs.YtkmhnkljigncmaaGreat.plain Go.Proofs.YtkmhnkljigncmaaGreat.plainOf Go.Proofs.YtkmhnkljigncmaaGreat.gives Go.Proofs.YtkmhnkljigncmaaGreat.cursor Go.Proofs.YtkmhnkljigncmaaGreat.matchMath
set_option maxRecDepth 100000

/-- a table of 24 lists of the call's own -/
structure Tab (w : World) (T : Nat) (s : List (List Int)) : Prop where
  len : s.length = 24
  row : ∃ cs, Row w T 24 cs ∧ cs.size = 24 ∧ ∀ j, j < 24 → ∃ A n c, cs[j]? = some (.slice A n c) ∧ Own w (T + 1) (.slice A n c) (s.getD j [])
section
variable {w w' : World} {T : Nat} {s : List (List Int)}
theorem Tab.lt (h : Tab w T s) : T < w.heap.size := by obtain ⟨cs, hr, _⟩ := h.row; exact hr.lt
theorem Tab.next (h : Tab w T s) (hb : Below w.heap.size w w') : Tab w' T s := by
  obtain ⟨cs, hr, hs, hc⟩ := h.row
  exact ⟨h.len, cs, hr.next hb, hs, fun j hj => by obtain ⟨A, n, c, e, ho⟩ := hc j hj; exact ⟨A, n, c, e, Own.next ho hb⟩⟩
theorem Tab.at (h : Tab w T s) {j : Nat} (hj : j < 24) : ∃ A n c, w.cell? ⟨T, j, none⟩ = some (.slice A n c) ∧ Own w (T + 1) (.slice A n c) (s.getD j []) := by
  obtain ⟨cs, hr, hs, hc⟩ := h.row
  obtain ⟨A, n, c, e, ho⟩ := hc j hj
  exact ⟨A, n, c, by rw [hr.cell j, e], ho⟩
theorem Tab.free (h : Tab w T s) (j : Nat) : w.frozen? ⟨T, j, none⟩ = false := by obtain ⟨cs, hr, _⟩ := h.row; exact hr.free j
theorem Tab.put (h : Tab w T s) {j : Nat} (hj : j < 24) {A : Option Addr} {n c : Nat} {ys : List Int} (ho : Own w (T + 1) (.slice A n c) ys) : Tab (w.setCell ⟨T, j, none⟩ (.slice A n c)) T (s.set j ys) := by
  obtain ⟨cs, hr, hs, hc⟩ := h.row
  have hg : w.grownBy (w.setCell ⟨T, j, none⟩ (.slice A n c)) (some T) := grown_put (World.grownBy.refl _ _) _ _
  have far : ∀ {A' : Option Addr} {n' c' : Nat} {zs : List Int}, Own w (T + 1) (.slice A' n' c') zs → Own (w.setCell ⟨T, j, none⟩ (.slice A n c)) (T + 1) (.slice A' n' c') zs := fun h => Own.far h hg (fun k hk => by injection hk; omega)
  refine ⟨by rw [List.length_set]; exact h.len, cs.setIfInBounds j (.slice A n c), hr.put j _, by rw [Array.size_setIfInBounds]; exact hs, fun i hi => ?_⟩
  by_cases e : j = i
  · subst e
    exact ⟨A, n, c, by rw [Array.getElem?_setIfInBounds_self_of_lt (by omega)], by rw [set_get, if_pos ⟨rfl, by rw [h.len]; exact hj⟩]; exact far ho⟩
  · obtain ⟨A', n', c', e', ho'⟩ := hc i hi
    exact ⟨A', n', c', by rw [Array.getElem?_setIfInBounds_ne e]; exact e', by rw [set_get, if_neg (fun hh => e hh.1)]; exact far ho'⟩
theorem Tab.segs (h : Tab w T s) : Segs w w.heap.size (some ⟨T, 0, none⟩) 24 s := by
  obtain ⟨cs, hr, hs, hc⟩ := h.row
  refine ⟨h.len, fun _ => ⟨T, 0, rfl, hr.lt, fun j hj => ?_⟩⟩
  obtain ⟨A, n, c, e, ho⟩ := hc j hj
  refine ⟨A, n, c, by rw [Nat.zero_add, hr.cell j, e], ?_, ?_⟩
  · have := Own.len ho; exact Own.seg ho
  · rcases ho.form with ⟨e1, _⟩ | ⟨g, c', cur, e1, _, _, _, _⟩
    · injection e1 with e1 e2 e3; subst e1 e2 e3; exact ⟨Nat.le_refl _, by omega, fun _ => rfl⟩
    · exact look.own_cap ho
end
theorem Tab.new (w : World) : Tab (w.alloc (.cells (madeCells #[.slice none 0 0] 24) 24)) w.heap.size s0 := by
  refine ⟨rfl, _, Row.new _ _ _, size_madeCells _ _, fun j hj => ⟨none, 0, 0, ?_, by rw [s0_get]; exact Own.nil _ _⟩⟩
  simp [madeCells, hj, Nat.mod_one]

def resL (R : Option (List (List Int))) : List (List Int) := match R with
  | some s => plainL (givesL s) 24
  | none => []
def AnsM (w : World) (xss : List (List Int)) (b : Bool) (e : Ending) (w' : World) : Prop := ∃ A n c, e = .returned (.tuple #[.agg #[.slice A n c], .bool b]) ∧ Owns w' w.heap.size w'.heap.size A n c xss ∧ Below w.heap.size w w'
theorem ansM_no {w w' : World} {R : Option (List (List Int))} (h : R = none) (hb : Below w.heap.size w w') : AnsM w (resL R) R.isSome (.returned (.tuple #[.agg #[.slice none 0 0], .bool false])) w' :=
  ⟨none, 0, 0, by rw [h]; rfl, by rw [h]; exact Owns.nil _ _ _, hb⟩

/-- what stands in the course of l4Match -/
structure Mt (w wr : World) (A : Option Addr) (n c : Nat) (sg : List Int) (P : Option Addr) (pn : Nat) (p : List Int) (Q : Option Addr) (m : Nat) (t : List Int) (s : List (List Int)) : Prop where
  r0 : Row wr w.heap.size 26 #[.slice A n c]
  r1 : Row wr (w.heap.size + 1) 35 #[.slice none 0 0]
  r3 : Row wr (w.heap.size + 1 + 1 + 1) 35 #[.slice (some ⟨w.heap.size + 1 + 1, 0, none⟩) 24 24]
  tb : Tab wr (w.heap.size + 1 + 1) s
  ss : Seg wr w.heap.size A n sg
  sp : Seg wr w.heap.size P pn p
  st : Seg wr w.heap.size Q m t
  b : Below w.heap.size w wr
section
variable {w wr w' : World} {A : Option Addr} {n c : Nat} {sg : List Int} {P : Option Addr} {pn : Nat} {p : List Int} {Q : Option Addr} {m : Nat} {t : List Int} {s : List (List Int)}
theorem Mt.next (h : Mt w wr A n c sg P pn p Q m t s) (hb : Below wr.heap.size wr w') : Mt w w' A n c sg P pn p Q m t s :=
  have b : Below w.heap.size wr w' := hb.mono h.b.size
  ⟨h.r0.next hb, h.r1.next hb, h.r3.next hb, h.tb.next hb, h.ss.below b, h.sp.below b, h.st.below b, h.b.trans b⟩
theorem Mt.put (h : Mt w wr A n c sg P pn p Q m t s) {j : Nat} (hj : j < 24) {D : Option Addr} {dn dc : Nat} {ys : List Int} (ho : Own wr (w.heap.size + 1 + 1 + 1) (.slice D dn dc) ys) : Mt w (wr.setCell ⟨w.heap.size + 1 + 1, j, none⟩ (.slice D dn dc)) A n c sg P pn p Q m t (s.set j ys) :=
  ⟨h.r0.far (show w.heap.size ≠ w.heap.size + 1 + 1 by omega) _, h.r1.far (show w.heap.size + 1 ≠ w.heap.size + 1 + 1 by omega) _, h.r3.far (show w.heap.size + 1 + 1 + 1 ≠ w.heap.size + 1 + 1 by omega) _, h.tb.put hj ho, h.ss.put (show w.heap.size ≤ w.heap.size + 1 + 1 by omega) _, h.sp.put (show w.heap.size ≤ w.heap.size + 1 + 1 by omega) _, h.st.put (show w.heap.size ≤ w.heap.size + 1 + 1 by omega) _, h.b.setCell (show w.heap.size ≤ w.heap.size + 1 + 1 by omega) _⟩
end

/-- what stands in the course of a call with a boxed signature and a boxed result -/
structure Mr (w wr : World) (A : Option Addr) (n c : Nat) (sg : List Int) (P : Option Addr) (pn : Nat) (p : List Int) (Q : Option Addr) (m : Nat) (t : List Int) : Prop where
  r0 : Row wr w.heap.size 26 #[.slice A n c]
  r1 : Row wr (w.heap.size + 1) 35 #[.slice none 0 0]
  ss : Seg wr wr.heap.size A n sg
  sp : Seg wr wr.heap.size P pn p
  st : Seg wr wr.heap.size Q m t
  b : Below w.heap.size w wr
section
variable {w wr w' : World} {A : Option Addr} {n c : Nat} {sg : List Int} {P : Option Addr} {pn : Nat} {p : List Int} {Q : Option Addr} {m : Nat} {t : List Int}
theorem Mr.start (h : Seg w w.heap.size A n sg) (hp : Seg w w.heap.size P pn p) (ht : Seg w w.heap.size Q m t) : Mr w ((w.alloc (.cells #[.slice A n c] 26)).alloc (.cells #[.slice none 0 0] 35)) A n c sg P pn p Q m t :=
  have b : Below w.heap.size w ((w.alloc (.cells #[.slice A n c] 26)).alloc (.cells #[.slice none 0 0] 35)) := ((Below.refl _ _).alloc (Nat.le_refl _) _).alloc (by simp) _
  ⟨(Row.new w _ _).alloc _, by have := Row.new (w.alloc (.cells #[.slice A n c] 26)) 35 #[.slice none 0 0]; simpa using this, h.next b, hp.next b, ht.next b, b⟩
theorem Mr.next (h : Mr w wr A n c sg P pn p Q m t) (hb : Below wr.heap.size wr w') : Mr w w' A n c sg P pn p Q m t :=
  ⟨h.r0.next hb, h.r1.next hb, h.ss.next hb, h.sp.next hb, h.st.next hb, next_trans h.b hb⟩
end
theorem ansM_off {w w' : World} {sg p t : List Int} (h : termOkB sg p = false ∨ termOkB sg t = false) (hb : Below w.heap.size w w') : AnsM w (resL (matchO sg p t)) (instB sg p t) (.returned (.tuple #[.agg #[.slice none 0 0], .bool false])) w' := by
  have := match_no h
  unfold instB
  exact ansM_no this hb

end Go.Proofs.YtkmhnkljigncmaaGreat.matchSpec
end

section
/-
  WORDS FOR MEMORY, impl's bindings: an array of 24 lists by value, in and out of a block that is known whole; a table of 24 lists that may be read ('TabR'). Conditions: none; plain lemmas. By an AI agent.
-/
namespace Go.Proofs.YtkmhnkljigncmaaGreat.whole
open Go.RowKit Go.Proofs.YtkmhnkljigncmaaGreat.base Go.Proofs.YtkmhnkljigncmaaGreat.cursor Go.Proofs.YtkmhnkljigncmaaGreat.marks Go.Proofs.YtkmhnkljigncmaaGreat.app Go.Proofs.YtkmhnkljigncmaaGreat.sym Go.Proofs.YtkmhnkljigncmaaGreat.segs Go.Proofs.YtkmhnkljigncmaaGreat.matchMath Go.Proofs.YtkmhnkljigncmaaGreat.matchSpec
set_option maxRecDepth 100000

section
variable {P : Program} {ops : Array Oper} {rest : List Oper} {o : Oper} {a : Act} {w : World} {Q : Exit → Act → World → Prop}
/-- a new variable of a type whose zero value is z -/
theorem rowAlloc (hgd : o.guard = none) (t : TypeId) (ho : o.op = .alloc t) (z : Array Value) (hz : ∀ w, (zeroValue t).run P w = .ok (.agg z) w)
    (h : wpList P ops Q rest (a.put o.dst (.pointer (some ⟨w.heap.size, 0, none⟩))) (w.alloc (.cells z t))) : wpList P ops Q (o :: rest) a w :=
  wpList_plain hgd fun _ hK => by
    unfold Oper.wp execOp
    simp only [ho, Instr.alloc, Sem.run_bind, hz, Result.andThen_ok, newVar, Value.cells]
    exact hK _ _ h
/-- a new variable with a value -/
theorem rowBox (hgd : o.guard = none) (t : TypeId) (x : Operand) (ho : o.op = .box t x) (z : Array Value) (hx : a.eval x = .agg z)
    (h : wpList P ops Q rest (a.put o.dst (.pointer (some ⟨w.heap.size, 0, none⟩))) (w.alloc (.cells z t))) : wpList P ops Q (o :: rest) a w :=
  wpList_plain hgd fun _ hK => by
    unfold Oper.wp execOp
    simp only [ho, hx, Instr.box, Sem.run_bind, Result.andThen_ok, newVar, Value.cells]
    exact hK _ _ h
/-- a literal without elements -/
theorem rowBuild (hgd : o.guard = none) (t : TypeId) (ho : o.op = .build t #[]) (z : Array Value) (hz : P.built t [] = some z)
    (h : wpList P ops Q rest (a.put o.dst (.agg z)) w) : wpList P ops Q (o :: rest) a w :=
  wpList_plain hgd fun _ hK => by
    refine wp_build t #[] ho (by simp [hz]) ?_
    simp only [List.map_toArray, List.map_nil, hz, Option.getD_some]
    exact hK _ _ h
/-- a whole row is written -/
theorem rowStore (hgd : o.guard = none) (ty : TypeId) (x y : Operand) (ho : o.op = .store ty x y) (g : Nat) (cells old : Array Value) (t : TypeId) (hx : a.eval x = .pointer (some ⟨g, 0, none⟩)) (hy : a.eval y = .agg cells)
    (hg : w.heap[g]? = some (.cells old t (0, 0))) (hi : (P.info? ty).map (·.size) = some cells.size) (hs : old.size = cells.size) (h1 : cells.all (·.oneCell') = true)
    (h : wpList P ops Q rest (a.put o.dst undef) (w.setRow g cells)) : wpList P ops Q (o :: rest) a w :=
  wpList_plain hgd fun _ hK => by
    unfold Oper.wp execOp
    simp only [ho, hx, hy, Instr.storeAt, Instr.sureAddr, Sem.run_bind, Sem.run_pure, Result.andThen_ok, run_storeVar_row w g t ty old cells hg hi hs h1]
    exact hK _ _ h
/-- a whole row and a value are the results -/
theorem results_row_tmp {fn : Func} {p u : Tmp} {ty : TypeId} (h : fn.results = #[.cell p ty, .tmp u]) (tmps : Array Value) (g : Nat) (t : TypeId) (cs : Array Value) (d : TypeDesc)
    (hp : tmps.getD p undef = .pointer (some ⟨g, 0, none⟩)) (hg : w.heap[g]? = some (.cells cs t (0, 0)))
    (hu : P.underlying ty = some d) (hd : (match d with | .struct _ | .array _ _ => true | _ => false) = true) (hi : (P.info? ty).map (·.size) = some cs.size) :
    (results fn tmps).run P w = .ok (.tuple #[.agg cs, tmps.getD u undef]) w := by
  rw [results_cell_tmp h, hp]
  simp [asAddr, Result.andThen, run_loadVar_row w g t ty cs (0, 0) d hg hu hd hi]
end

theorem z24_one : z24.all (·.oneCell') = true := by kernel_rfl
theorem info_b : (Tryz.prog.info? 77).map (fun i => (i.zero, i.size)) = some (some (.agg z24), 24) := by kernel_rfl
theorem zero_b : ∀ w, (zeroValue 77).run Tryz.prog w = .ok (.agg z24) w := by
  intro w
  cases hq : Tryz.prog.info? 77 with
  | none => have h := info_b; simp [hq] at h
  | some i => have h := info_b; simp [hq] at h; simp [zeroValue, typeInfo, hq, h.1]
theorem size_b : (Tryz.prog.info? 77).map (·.size) = some 24 := by kernel_rfl
theorem built_b : Tryz.prog.built 77 [] = some z24 := by kernel_rfl

section
variable {w w' : World} {B B' g : Nat} {cs : Array Value} {s : List (List Int)} {t : TypeId}
theorem Row.setRow (h : Row w g t cs) (c' : Array Value) : Row (w.setRow g c') g t c' := setRow_heap w g cs c' t (0, 0) h
theorem grown_setRow (w : World) (g : Nat) (c' : Array Value) : w.grownBy (w.setRow g c') (some g) :=
  ⟨rfl, rfl, rfl, by simp, fun k _ hk => setRow_other w g k c' (fun e => hk (by rw [e]))⟩

end
end Go.Proofs.YtkmhnkljigncmaaGreat.whole
end

section
/-
  PLAIN MATHEMATICS of impl's matching: pattern and term are read in step; a pattern is matched at a place of a term just where it is matched with the subterm there; all terms valid. Conditions: none. By an AI agent.
-/
namespace Go.Proofs.YtkmhnkljigncmaaGreat.takeMath
open Go.Proofs.YtkmhnkljigncmaaGreat.sig Go.Proofs.YtkmhnkljigncmaaGreat.term Go.Proofs.YtkmhnkljigncmaaGreat.termOk Go.Proofs.YtkmhnkljigncmaaGreat.termFacts Go.Proofs.YtkmhnkljigncmaaGreat.endAt Go.Proofs.YtkmhnkljigncmaaGreat.sub Go.Proofs.YtkmhnkljigncmaaGreat.termMath Go.Proofs.YtkmhnkljigncmaaGreat.fillMath Go.Proofs.YtkmhnkljigncmaaGreat.posMath Go.Proofs.YtkmhnkljigncmaaGreat.renMath Go.Proofs.YtkmhnkljigncmaaGreat.matchMath

/-- as many terms are missing in the pattern as in the term -/
def Sync (sg p t : List Int) (i k : Nat) : Prop := ∃ q, scan sg q (p.drop i) = some (p.length - i) ∧ ∃ j, scan sg q (t.drop k) = some j
section
variable {sg p t : List Int} {i k : Nat} {x : Int}
theorem Sync.start (h1 : termOkB sg p = true) (h2 : termOkB sg t = true) (ha : k < t.length) : Sync sg p t 0 k :=
  ⟨1, by rw [List.drop_zero, Nat.sub_zero]; exact (term_parts h1).2.2, _, (term_at h2 ha).1⟩
theorem Sync.lt (h : Sync sg p t i k) (hi : i < p.length) : k < t.length := by
  obtain ⟨q, h1, j, h2⟩ := h
  cases q with
  | zero => rw [scan_zero] at h1; injection h1 with h1; omega
  | succ q =>
    have a := scan_pos h2
    have b := scan_le h2
    rw [List.length_drop] at b
    omega
theorem Sync.sym (h : Sync sg p t i k) (hi : i < p.length) (hx : p.getD i 0 = x) (hy : t.getD k 0 = x) : Sync sg p t (i + 1) (k + 1) := by
  have hk := h.lt hi
  obtain ⟨q, h1, j, h2⟩ := h
  rw [drop_cons hi, hx] at h1
  rw [drop_cons hk, hy] at h2
  cases q with
  | zero => rw [scan_zero] at h1; injection h1 with h1; omega
  | succ q =>
    by_cases hn : ar sg x < 0
    · rw [scan_bad hn] at h1; cases h1
    · rw [scan_step hn, Option.map_eq_some_iff] at h1 h2
      obtain ⟨a, e1, e2⟩ := h1
      obtain ⟨b, e3, e4⟩ := h2
      exact ⟨_, by rw [e1]; congr 1; omega, b, e3⟩
theorem Sync.var (h : Sync sg p t i k) (hi : i < p.length) (hx : p.getD i 0 = x) (h0 : -24 ≤ x) (h1 : x < 0) (hok : termOkB sg t = true) : Sync sg p t (i + 1) (k + (subL sg t k).length) := by
  have hk := h.lt hi
  have hl := (sub_len1 hok hk).1
  obtain ⟨q, h1, j, h2⟩ := h
  rw [drop_cons hi, hx] at h1
  cases q with
  | zero => rw [scan_zero] at h1; injection h1 with h1; omega
  | succ q =>
    have hz : ar sg x = 0 := ar_var (by omega)
    rw [scan_step (by omega), hz, Option.map_eq_some_iff] at h1
    obtain ⟨a, e1, e2⟩ := h1
    obtain ⟨j1, g1, _, _, g2⟩ := scan_first h2
    rw [hl, len1_eq g1]
    exact ⟨q, by rw [show p.length - (i + 1) = a by omega]; exact e1, _, g2⟩
end

/-- at a place of the term: just where the subterm there is an instance -/
theorem mst_at {sg p t : List Int} {k : Nat} (h1 : termOkB sg p = true) (h2 : termOkB sg t = true) (hk : k < t.length) : (mst sg t p k s0).isSome = instB sg p (subL sg t k) := by
  have hx : ∀ x ∈ p, -24 ≤ x := fun x hx => (term_mem h1 hx).1
  have hs := (sub_term h2 hk).1
  obtain ⟨_, e2, e3⟩ := sub_len1 h2 hk
  rw [Bool.eq_iff_iff, inst_iff h1 hs, Option.isSome_iff_exists]
  constructor
  · rintro ⟨s', h⟩
    obtain ⟨⟨rest, e⟩, hv⟩ := mst_sound h2 h (by rfl) hx
    refine ⟨fun i => s'.getD i [], ?_, hv⟩
    have a := scan_append (r := rest) (scan_fill (L := fun i => s'.getD i []) (term_parts h1).2.2 hv)
    rw [← e] at a
    unfold subL
    rw [len1_eq a, e, List.take_left' rfl]
  · rintro ⟨L, hL, hv⟩
    obtain ⟨s', m1, _⟩ := mst_full (sg := sg) (t := t) (L := L) (p := p) (k := k) (s := s0) (rest := t.drop (k + (subL sg t k).length)) (by rw [hL]; exact e2) (by rfl) hx hv (fun i hi => by rw [s0_get] at hi; exact absurd rfl hi)
    exact ⟨s', m1⟩

/-- at most 12, all of them terms -/
def termsB (sg : List Int) (ps : List (List Int)) : Bool := decide (ps.length ≤ 12) && ps.all (termOkB sg)
theorem terms_long {sg : List Int} {ps : List (List Int)} (h : 12 < ps.length) : termsB sg ps = false := by unfold termsB; rw [decide_eq_false (by omega)]; rfl
theorem terms_bad {sg : List Int} {ps : List (List Int)} {i : Nat} (hi : i < ps.length) (h : termOkB sg (ps.getD i []) = false) : termsB sg ps = false := by
  unfold termsB
  have : ps.all (termOkB sg) = false := by
    rw [List.all_eq_false]
    exact ⟨ps[i], List.getElem_mem hi, by simpa [List.getD, hi] using h⟩
  rw [this, Bool.and_false]
theorem terms_good {sg : List Int} {ps : List (List Int)} (h2 : ps.length ≤ 12) (h : ∀ i, i < ps.length → termOkB sg (ps.getD i []) = true) : termsB sg ps = true := by
  unfold termsB
  rw [decide_eq_true h2, Bool.true_and, List.all_eq_true]
  intro x hx
  obtain ⟨i, hi, rfl⟩ := List.getElem_of_mem hx
  have := h i hi
  simpa [List.getD, hi] using this
theorem terms_parts {sg : List Int} {ps : List (List Int)} (h : termsB sg ps = true) : ps.length ≤ 12 ∧ ∀ i, i < ps.length → termOkB sg (ps.getD i []) = true := by
  unfold termsB at h
  rw [Bool.and_eq_true, decide_eq_true_eq, List.all_eq_true] at h
  refine ⟨h.1, fun i hi => ?_⟩
  have := h.2 _ (List.getElem_mem hi)
  simpa [List.getD, hi] using this
end Go.Proofs.YtkmhnkljigncmaaGreat.takeMath
end

section
/-
  CONTRACT: impl's (*bindings).take. Conditions: the slices read as lists ('Seg') below the bindings' block, the cursor's block is the next one, the term is valid, the place lies in it, the pattern's number is at least -24. By an AI agent.
-/
namespace Go.Proofs.YtkmhnkljigncmaaGreat.take
open Go.RowKit Go.Proofs.YtkmhnkljigncmaaGreat.base Go.Proofs.YtkmhnkljigncmaaGreat.ints Go.Proofs.YtkmhnkljigncmaaGreat.sig Go.Proofs.YtkmhnkljigncmaaGreat.same Go.Proofs.YtkmhnkljigncmaaGreat.term Go.Proofs.YtkmhnkljigncmaaGreat.termOk Go.Proofs.YtkmhnkljigncmaaGreat.endAt Go.Proofs.YtkmhnkljigncmaaGreat.marks Go.Proofs.YtkmhnkljigncmaaGreat.app Go.Proofs.YtkmhnkljigncmaaGreat.sym Go.Proofs.YtkmhnkljigncmaaGreat.sub Go.Proofs.YtkmhnkljigncmaaGreat.segs Go.Proofs.YtkmhnkljigncmaaGreat.termFacts Go.Proofs.YtkmhnkljigncmaaGreat.termMath Go.Proofs.YtkmhnkljigncmaaGreat.posMath Go.Proofs.YtkmhnkljigncmaaGreat.cursor Go.Proofs.YtkmhnkljigncmaaGreat.matchMath Go.Proofs.YtkmhnkljigncmaaGreat.matchSpec Go.Proofs.YtkmhnkljigncmaaGreat.whole Go.Proofs.YtkmhnkljigncmaaGreat.takeMath Go.Proofs.YtkmhnkljigncmaaGreat.curO
set_option maxRecDepth 100000

theorem set_same {s : List (List Int)} {v : Nat} {ys : List Int} (h : s.getD v [] = ys) (hv : v < s.length) : s.set v ys = s := by
  refine List.ext_getElem (by simp) fun i h1 h2 => ?_
  rw [List.getElem_set]
  split
  · rename_i e
    subst e
    rw [← h]
    simp [List.getD, hv]
  · rfl

/-- bindings in block g, cursor in the next one -/
structure Tk (w : World) (g : Nat) (A : Option Addr) (n c : Nat) (Q : Option Addr) (m mc : Nat) (sg t : List Int) (k : Nat) (s : List (List Int)) : Prop where
  row : Row w (g + 1) 67 #[.slice A n c, .slice Q m mc, .int .i64 k]
  tab : ∃ cs, Row w g 77 cs ∧ TabR w g cs s
  ss : Seg w g A n sg
  st : Seg w g Q m t
  le : k ≤ m
  hn : n ≤ 1048576
  hm : m ≤ 1048576
  ars : Arities sg
  hs : ∀ j, (s.getD j []).length ≤ m
section
variable {w w' : World} {g : Nat} {A : Option Addr} {n c : Nat} {Q : Option Addr} {m mc : Nat} {sg t : List Int} {k k' : Nat} {s : List (List Int)}
theorem Tk.cur (h : Tk w g A n c Q m mc sg t k s) : Cur w (g + 1) A n c Q m mc sg t k := ⟨h.row, h.ss.more (Nat.le_succ _), h.st.more (Nat.le_succ _), h.le, h.hn, h.hm, h.ars⟩
theorem Tk.lt (h : Tk w g A n c Q m mc sg t k s) : g + 1 < w.heap.size := h.row.lt
theorem keep_of {B : Nat} {r : Option Nat} (hg : w.grownBy w' r) (hB : B ≤ w.heap.size) (hr : ∀ k, r = some k → B ≤ k) : ∀ p : Addr, p.block < B → w'.cell? p = w.cell? p :=
  fun q hq => World.cell?_of_block (hg.block q.block (by omega) (fun e => by have := hr _ e.symm; omega))
/-- the cursor has moved -/
theorem Tk.move (h : Tk w g A n c Q m mc sg t k s) (hg : w.grownBy w' (some (g + 1))) (hr : Row w' (g + 1) 67 #[.slice A n c, .slice Q m mc, .int .i64 k']) (hk : k' ≤ m) : Tk w' g A n c Q m mc sg t k' s := by
  have hl := h.lt
  have hk0 := keep_of (B := g) hg (by omega) (fun k e => by injection e; omega)
  obtain ⟨cs, h1, h2⟩ := h.tab
  refine ⟨hr, ⟨cs, (hg.block g (by omega) (fun e => by injection e; omega)).trans h1, h2.keep hk0⟩, h.ss.keep hk0, h.st.keep hk0, hk, h.hn, h.hm, h.ars, h.hs⟩
theorem Tk.drewN (h : Tk w g A n c Q m mc sg t k s) (d : Nat) : Tk (w.drewN d) g A n c Q m mc sg t k s := ⟨h.row, h.tab, h.ss, h.st, h.le, h.hn, h.hm, h.ars, h.hs⟩
/-- a binding is written -/
theorem Tk.put (h : Tk w g A n c Q m mc sg t k s) {j : Nat} (hj : j < 24) {D : Option Addr} {dn dc : Nat} {ys : List Int} (hs : Seg w g D dn ys) (hc : Cap D dn dc) (hl : ys.length ≤ m) :
    Tk (w.setCell ⟨g, j, none⟩ (.slice D dn dc)) g A n c Q m mc sg t k (s.set j ys) := by
  have hlt := h.lt
  have hg : w.grownBy (w.setCell ⟨g, j, none⟩ (.slice D dn dc)) (some g) := grown_put (World.grownBy.refl _ _) _ _
  have hk0 := keep_of (B := g) hg (by omega) (fun k e => by injection e; omega)
  obtain ⟨cs, h1, h2⟩ := h.tab
  exact ⟨h.row.far (show g + 1 ≠ g by omega) _, ⟨_, h1.put j _, (h2.put hj hs hc).keep hk0⟩, h.ss.keep hk0, h.st.keep hk0, h.le, h.hn, h.hm, h.ars, fun i => by rw [set_get]; split; exact hl; exact h.hs i⟩
theorem Tk.held (h : Tk w g A n c Q m mc sg t k s) {j : Nat} (hj : j < 24) : ∃ D dn dc, w.cell? ⟨g, j, none⟩ = some (.slice D dn dc) ∧ Seg w g D dn (s.getD j []) ∧ w.frozen? ⟨g, j, none⟩ = false := by
  obtain ⟨cs, h1, h2⟩ := h.tab
  obtain ⟨D, dn, dc, e, hs, _⟩ := h2.2.2 j hj
  exact ⟨D, dn, dc, by rw [h1.cell j, e], hs, h1.free j⟩
theorem Tk.len (h : Tk w g A n c Q m mc sg t k s) : s.length = 24 := by obtain ⟨cs, h1, h2⟩ := h.tab; exact h2.2.1
end

theorem btw_drewN (lo hi : Nat) (w : World) (d : Nat) : Btw lo hi w (w.drewN d) := ⟨rfl, rfl, rfl, Nat.le_refl _, fun _ _ _ => rfl⟩
/-- what take gives: a step of the walk -/
def AnsTake (w : World) (g : Nat) (A : Option Addr) (n c : Nat) (Q : Option Addr) (m mc : Nat) (sg t : List Int) (k : Nat) (s : List (List Int)) (x : Int) (e : Ending) (w' : World) : Prop :=
  Btw g (g + 2) w w' ∧ ((∃ k' s', e = .returned (.bool true) ∧ Tk w' g A n c Q m mc sg t k' s' ∧ ((0 ≤ x ∧ t.getD k 0 = x ∧ k' = k + 1) ∨ (x < 0 ∧ k' = k + (subL sg t k).length)) ∧ ∀ r, mst sg t (x :: r) k s = mst sg t r k' s') ∨
    (e = .returned (.bool false) ∧ ∀ r, mst sg t (x :: r) k s = none))

set_option maxHeartbeats 1000000 in
theorem take (g : Nat) (A Q : Option Addr) (n c m mc : Nat) (sg t : List Int) (k : Nat) (s : List (List Int)) (x : Int) (w : World) (h : Tk w g A n c Q m mc sg t k s) (hk : k < m) (hmc : m ≤ mc) (hmc2 : mc ≤ 9223372036854775807) (hx : -24 ≤ x) (hok : termOkB sg t = true) :
    Calls Tryz.prog 81 #[.pointer (some ⟨g, 0, none⟩), .int .i64 x, .pointer (some ⟨g + 1, 0, none⟩)] w (AnsTake w g A n c Q m mc sg t k s x) := by
  have HT := Lib.hid hok
  have HL := Lib.hid h.st.1
  have hkt : ¬ t.length ≤ k := by rw [HL.out]; omega
  have hm := h.hm
  have c1 : w.cell? ⟨g + 1, 1, none⟩ = some (.slice Q m mc) := h.row.cell 1
  have c2 : w.cell? ⟨g + 1, 2, none⟩ = some (.int .i64 k) := h.row.cell 2
  have f2 : w.frozen? ⟨g + 1, 2, none⟩ = false := h.row.free 2
  obtain ⟨b, off, y, rfl, hbb, hy, ey⟩ := h.st.spot hk
  have i0 : (0 : Int) ≤ (k : Int) := by omega
  have i1 : (k : Int) < (m : Int) := by omega
  clear hok
  by_cases hx0 : 0 ≤ x
  · have g0 : w.grownBy (w.setCell ⟨g + 1, 2, none⟩ (.int .i64 ((k : Int) + 1))) (some (g + 1)) := grown_put (World.grownBy.refl _ _) _ _
    have M := Lib.hid (h.move (k' := k + 1) g0 (by have r := h.row.put 2 (.int .i64 ((k : Int) + 1)); have e : (.int .i64 ((k : Int) + 1) : Value) = .int .i64 ((k + 1 : Nat) : Int) := by simp
                                                   rw [← e]; exact r) hk)
    have B := Lib.hid (Btw.of_grown (lo := g) (hi := g + 2) g0 (fun k e => by injection e; omega))
    have hy1 : (w.setCell ⟨g + 1, 2, none⟩ (.int .i64 ((k : Int) + 1))).cell? ⟨b, off + k, none⟩ = some (.int .i64 y) := (World.cell?_setCell_far w ⟨g + 1, 2, none⟩ ⟨b, off + k, none⟩ _ (by show g + 1 ≠ b; omega)).trans hy
    by_cases hxy : x = y
    · subst hxy
      have F := fun d => (show AnsTake w g A n c (some ⟨b, off, none⟩) m mc sg t k s x (.returned (.bool true)) ((w.setCell ⟨g + 1, 2, none⟩ (.int .i64 ((k : Int) + 1))).drewN d) from
        ⟨B.out.trans (btw_drewN _ _ _ d), .inl ⟨k + 1, s, rfl, M.out.drewN d, .inl ⟨hx0, ey.out, rfl⟩, fun r => mst_sym hkt hx0 ey.out.symm⟩⟩)
      have HF := Lib.hid F
      clear F M B g0 h ey
      go_enter Tryz.func81, Tryz.ntmps81
      go_wp2
      go_quiet (fail)
      go_wp2
      go_ret
      exact HF.out _
    · have hd : (y == x) = false := by simp; exact fun e => hxy e.symm
      have F := fun d => (show AnsTake w g A n c (some ⟨b, off, none⟩) m mc sg t k s x (.returned (.bool false)) ((w.setCell ⟨g + 1, 2, none⟩ (.int .i64 ((k : Int) + 1))).drewN d) from
        ⟨B.out.trans (btw_drewN _ _ _ d), .inr ⟨rfl, fun r => mst_symNo hkt hx0 (by rw [ey.out]; exact hxy)⟩⟩)
      have HF := Lib.hid F
      clear F M B g0 h ey
      go_enter Tryz.func81, Tryz.ntmps81
      go_wp2
      go_quiet (fail)
      go_wp2
      go_ret
      exact HF.out _
  · obtain ⟨v, hv⟩ : ∃ v : Nat, x = -1 - (v : Int) := ⟨(-1 - x).toNat, by omega⟩
    subst hv
    have hv24 : v < 24 := by omega
    have HVR := Lib.hid (show vr (-1 - (v : Int)) = v by unfold vr; omega)
    obtain ⟨t1, t2, t3⟩ := term_at HT.out (show k < t.length by rw [HL.out]; exact hk)
    rw [HL.out] at t3
    obtain ⟨j, hj⟩ : ∃ j, len1 sg t k = j := ⟨_, rfl⟩
    have hsl := (sub_len1 HT.out (show k < t.length by rw [HL.out]; exact hk)).1
    have hsub : subL sg t k = (t.drop k).take j := by unfold subL; rw [hj]
    rw [hj] at t1 t2 t3 hsl
    obtain ⟨ys, hys⟩ : ∃ ys, subL sg t k = ys := ⟨_, rfl⟩
    rw [hys] at hsl hsub
    have HYS := Lib.hid hys
    have HSUB := Lib.hid hsub
    have HSL := Lib.hid hsl
    have T1 := Lib.hid t1
    have C := Lib.hid h.cur
    have HH := Lib.hid h
    have HKT := Lib.hid hkt
    have a1 : (k : Int) ≤ (k : Int) + (j : Int) := by omega
    have a2 : (k : Int) + (j : Int) ≤ (mc : Int) := by omega
    have a3 : ¬ mc = k := by omega
    have a4 : k + j ≤ mc := by omega
    have w1 : IntKind.i64.wrap (-1 - (-1 - (v : Int))) = (v : Int) := by rw [IntKind.wrap_i64]; omega
    have w2 : IntKind.i64.wrap (v : Int) = (v : Int) := by rw [IntKind.wrap_i64]; omega
    have j0 : (0 : Int) ≤ (v : Int) := by omega
    have j1 : (v : Int) < 24 := by omega
    clear hj hys hsub hsl t1 hy ey f2 hkt h
    go_enter Tryz.func81, Tryz.ntmps81
    have C2 := Lib.hid (C.out.drewN 1)
    go_wp2_with fail
    go_region_held3 (fun _ => True) (trivial)
      (first
        | (go_at_call 100; refine (partC (g + 1) A n c b off m mc sg t k j w.drew C2.out T1.out t3 t2 hmc hmc2).mono ?_; rintro e w3 ⟨rfl, hg0, hc⟩))
    · have hg : w.grownBy w3 (some (g + 1)) := grown_trans (World.grownBy.refl w _) ⟨hg0.os, hg0.tape, hg0.output, hg0.size, hg0.block⟩
      have M := HH.out.move hg hc.row t3
      have b3 := Btw.of_grown (lo := g) (hi := g + 2) hg (fun k e => by injection e; omega)
      obtain ⟨D, dn, dc, ch, sh, fh⟩ := M.held hv24
      obtain ⟨os, hos⟩ : ∃ os, s.getD v [] = os := ⟨_, rfl⟩
      have hdn : dn ≤ 1048576 := by rw [← sh.1]; exact Nat.le_trans (M.hs v) hm
      rw [hos] at sh
      have HOS := Lib.hid hos
      have HSH := Lib.hid sh
      have HM := Lib.hid M
      have HB := Lib.hid b3
      have cut := Lib.hid (Seg.cut (a := k) (j := j) M.st t3)
      clear hc hg hg0 hos sh b3 M C C2 c1 c2
      have HC := Lib.hid (show Cap (some ⟨b, off + k, none⟩) j (mc - k) from ⟨by omega, by omega, fun e => by cases e⟩)
      have hj60 : j ≤ 1048576 := by omega
      have HJ := Lib.hid (show 1 ≤ j from t2)
      by_cases hd0 : dn = 0
      · subst hd0
        have hno : ¬ ((s.getD (vr (-1 - (v : Int))) []).length ≠ 0 ∧ s.getD (vr (-1 - (v : Int))) [] ≠ subL sg t k) := by
          rw [HVR.out, HOS.out, HSH.out.1]
          exact fun e => e.1 rfl
        have R := Lib.hid (fun r => mst_var (sg := sg) (r := r) HKT.out (show ¬ 0 ≤ -1 - (v : Int) by omega) hno)
        have P := Lib.hid (HM.out.put (j := v) (D := some ⟨b, off + k, none⟩) (dn := j) (dc := mc - k) (ys := ys) hv24 (by rw [HSUB.out]; exact cut.out) HC.out (by rw [HSL.out]; omega))
        have BP := Lib.hid (HB.out.trans (Btw.of_grown (lo := g) (hi := g + 2) (grown_put (World.grownBy.refl w3 (some g)) v (.slice (some ⟨b, off + k, none⟩) j (mc - k))) (fun k e => by injection e; omega)))
        have ce := World.cell?_setCell_same w3 ⟨g, v, none⟩ (.slice (some ⟨b, off + k, none⟩) j (mc - k)) (show w3.cell? ⟨g, v, none⟩ = some (.slice D 0 dc) from ch)
        have PS := Lib.hid (show Seg (w3.setCell ⟨g, v, none⟩ (.slice (some ⟨b, off + k, none⟩) j (mc - k))) (w3.setCell ⟨g, v, none⟩ (.slice (some ⟨b, off + k, none⟩) j (mc - k))).heap.size (some ⟨b, off + k, none⟩) j ys from by
          have q := cut.out.put (p := ⟨g, v, none⟩) (Nat.le_refl _) (.slice (some ⟨b, off + k, none⟩) j (mc - k))
          rw [← HSUB.out] at q
          exact q.more (by have := P.out.lt; omega))
        clear HM HB hno
        go_wp2_with fail
        refine (implSame _ _ j j _ _ ys ys _ PS.out PS.out hj60 hj60).mono ?_
        rintro e w5 ⟨rfl, d, rfl⟩
        rw [decide_eq_true (show ys = ys from rfl)]
        have F : AnsTake w g A n c (some ⟨b, off, none⟩) m mc sg t k s (-1 - (v : Int)) (.returned (.bool true)) ((w3.setCell ⟨g, v, none⟩ (.slice (some ⟨b, off + k, none⟩) j (mc - k))).drewN d) :=
          ⟨BP.out.trans (btw_drewN _ _ _ d), .inl ⟨k + j, s.set v ys, rfl, P.out.drewN d, .inr ⟨by omega, by rw [HYS.out, HSL.out]⟩, fun r => by rw [R.out r, HVR.out, HYS.out, HSL.out]⟩⟩
        have HF := Lib.hid F
        clear F R P BP ce PS cut
        go_wp2
        go_ret
        exact HF.out
      · have hdz : ((dn : Int) == 0) = false := by simp; omega
        have hwg := Lib.hid (show g ≤ w3.heap.size by have := HM.out.lt; omega)
        have PS := Lib.hid (show Seg w3 w3.heap.size (some ⟨b, off + k, none⟩) j ys from by
          have q := cut.out
          rw [← HSUB.out] at q
          exact q.more hwg.out)
        have PO := Lib.hid (show Seg w3 w3.heap.size D dn os from HSH.out.more hwg.out)
        by_cases hoy : os = ys
        · have hno : ¬ ((s.getD (vr (-1 - (v : Int))) []).length ≠ 0 ∧ s.getD (vr (-1 - (v : Int))) [] ≠ subL sg t k) := by
            rw [HVR.out, HOS.out, HYS.out]
            exact fun e => e.2 hoy
          have R := Lib.hid (fun r => mst_var (sg := sg) (r := r) HKT.out (show ¬ 0 ≤ -1 - (v : Int) by omega) hno)
          have SS := Lib.hid (show s.set v ys = s from set_same (HOS.out.trans hoy) (by rw [HM.out.len]; exact hv24))
          have DS := Lib.hid (decide_eq_true hoy)
          clear cut hno hoy
          go_wp2_with fail
          refine (implSame _ _ dn j _ _ os ys _ PO.out PS.out hdn hj60).mono ?_
          rintro e w5 ⟨rfl, d, rfl⟩
          rw [DS.out]
          have F : AnsTake w g A n c (some ⟨b, off, none⟩) m mc sg t k s (-1 - (v : Int)) (.returned (.bool true)) (w3.drewN d) :=
            ⟨HB.out.trans (btw_drewN _ _ _ d), .inl ⟨k + j, s, rfl, HM.out.drewN d, .inr ⟨by omega, by rw [HYS.out, HSL.out]⟩, fun r => by rw [R.out r, HVR.out, HYS.out, HSL.out, SS.out]⟩⟩
          have HF := Lib.hid F
          clear F R SS DS PS PO HM HB
          go_wp2
          go_ret
          exact HF.out
        · have hyes : (s.getD (vr (-1 - (v : Int))) []).length ≠ 0 ∧ s.getD (vr (-1 - (v : Int))) [] ≠ subL sg t k := by
            rw [HVR.out, HOS.out, HYS.out]
            exact ⟨by rw [HSH.out.1]; exact hd0, hoy⟩
          have R := Lib.hid (fun r => mst_varNo (sg := sg) (r := r) HKT.out (show ¬ 0 ≤ -1 - (v : Int) by omega) hyes)
          have DS := Lib.hid (decide_eq_false hoy)
          clear cut hyes hoy
          go_wp2_with fail
          refine (implSame _ _ dn j _ _ os ys _ PO.out PS.out hdn hj60).mono ?_
          rintro e w5 ⟨rfl, d, rfl⟩
          rw [DS.out]
          have F : AnsTake w g A n c (some ⟨b, off, none⟩) m mc sg t k s (-1 - (v : Int)) (.returned (.bool false)) (w3.drewN d) :=
            ⟨HB.out.trans (btw_drewN _ _ _ d), .inr ⟨rfl, R.out⟩⟩
          have HF := Lib.hid F
          clear F R DS PS PO HM HB
          go_wp2
          go_ret
          exact HF.out
end Go.Proofs.YtkmhnkljigncmaaGreat.take
end
