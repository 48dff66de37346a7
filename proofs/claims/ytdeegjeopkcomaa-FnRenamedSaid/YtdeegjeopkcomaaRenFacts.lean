/-
  PLAIN MATHEMATICS of renamed terms: a renamed term is a term, its variables are 0, 1, .., renamed again it stays, and it is linear if the term is. Conditions: none but those named. By an AI agent.
-/
import Derived.Test.YtdeegjeopkcomaaRenMath
import Derived.Test.YtdeegjeopkcomaaLinear
namespace Go.Proofs.Ytdeegjeopkcomaa.renFacts
open Go.RowKit Go.Proofs.Ytdeegjeopkcomaa.base Go.Proofs.Ytdeegjeopkcomaa.ints Go.Proofs.Ytdeegjeopkcomaa.sig Go.Proofs.Ytdeegjeopkcomaa.term Go.Proofs.Ytdeegjeopkcomaa.termOk Go.Proofs.Ytdeegjeopkcomaa.termFacts Go.Proofs.Ytdeegjeopkcomaa.varsMath Go.Proofs.Ytdeegjeopkcomaa.fillMath Go.Proofs.Ytdeegjeopkcomaa.renMath Go.Proofs.Ytdeegjeopkcomaa.linear Go.Proofs.Ytdeegjeopkcomaa.count

theorem pigeon : ∀ (n : Nat) (l : List Nat), l.Nodup → (∀ x ∈ l, x < n) → l.length ≤ n
  | 0, l, _, h => by
    cases l with
    | nil => simp
    | cons a r => exact absurd (h a (List.mem_cons_self ..)) (Nat.not_lt_zero _)
  | n + 1, l, hd, h => by
    have h1 := pigeon n (l.erase n) (hd.erase n) (fun x hx => by
      have h2 := (hd.mem_erase_iff).1 hx
      have := h x h2.2
      omega)
    have h3 : l.length ≤ (l.erase n).length + 1 := by
      rw [List.length_erase]
      split <;> omega
    omega

theorem map_nodup {α β : Type} {f : α → β} : ∀ {l : List α}, l.Nodup → (∀ a ∈ l, ∀ b ∈ l, f a = f b → a = b) → (l.map f).Nodup
  | [], _, _ => List.nodup_nil
  | a :: r, h, hf => by
    have h1 := List.nodup_cons.1 h
    rw [List.map_cons, List.nodup_cons]
    refine ⟨fun hm => ?_, map_nodup h1.2 (fun x hx y hy => hf x (List.mem_cons_of_mem _ hx) y (List.mem_cons_of_mem _ hy))⟩
    obtain ⟨b, hb, e⟩ := List.mem_map.1 hm
    have := hf b (List.mem_cons_of_mem _ hb) a (List.mem_cons_self ..) e
    subst this
    exact h1.1 hb

/-- no more than 24 variables stand in a term -/
theorem order_24 {sg t : List Int} (h : termOkB sg t = true) : (orderL t).length ≤ 24 := by
  have h1 := pigeon 24 ((orderL t).map fun x => (-1 - x).toNat) (map_nodup (order_nodup t) (fun a ha b hb e => by
    have := (order_mem.1 ha).2
    have := (order_mem.1 hb).2
    omega)) (fun x hx => by
      obtain ⟨y, hy, rfl⟩ := List.mem_map.1 hx
      have h2 := order_mem.1 hy
      have h3 := term_mem h h2.1
      omega)
  simpa using h1

theorem ren_fill (t : List Int) (o : List Int) : fillL (fun i => vt (idx o (-1 - (i : Int)))) t = t.map (ren o) := by
  induction t with
  | nil => rfl
  | cons x r ih =>
    rw [fill_cons, ih, List.map_cons]
    unfold rep ren
    by_cases h : 0 ≤ x
    · rw [if_pos h, if_neg (by omega)]; rfl
    · rw [if_neg h, if_pos (by omega)]
      show vt (idx o (-1 - (((-1 - x).toNat : Nat) : Int))) ++ _ = _
      rw [show (-1 - (((-1 - x).toNat : Nat) : Int) : Int) = x by omega]
      rfl

theorem ren_ok {sg t : List Int} (h : termOkB sg t = true) : termOkB sg (renL t) = true := by
  have e : renL t = fillL (fun i => vt (idx (orderL t) (-1 - (i : Int)))) t := (ren_fill t (orderL t)).symm
  rw [e]
  refine fill_term h (fun x hx h0 => ?_) (by rw [← e, ren_len]; exact (term_len h).2)
  show termOkB sg (vt (idx (orderL t) (-1 - (((-1 - x).toNat : Nat) : Int)))) = true
  rw [show (-1 - (((-1 - x).toNat : Nat) : Int) : Int) = x by omega]
  refine var_term (term_parts h).1 ?_
  have h1 := idx_lt (order_mem.2 ⟨hx, h0⟩)
  have h2 := order_24 h
  omega

theorem ren_yes {o : List Int} {x : Int} (h : x < 0) : ren o x = -1 - (idx o x : Int) := by unfold ren; rw [if_pos h]
theorem ren_no {o : List Int} {x : Int} (h : ¬ x < 0) : ren o x = x := by unfold ren; rw [if_neg h]
theorem ren_neg {o : List Int} {x : Int} : ren o x < 0 ↔ x < 0 := by
  unfold ren
  split
  · omega
  · omega

theorem ren_inj {t : List Int} {a b : Int} (ha : a ∈ t) (hb : b ∈ t) (h : ren (orderL t) a = ren (orderL t) b) : a = b := by
  have n1 := @ren_neg (orderL t) a
  have n2 := @ren_neg (orderL t) b
  by_cases h0 : a < 0
  · have h1 : b < 0 := n2.1 (h ▸ n1.2 h0)
    unfold ren at h
    rw [if_pos h0, if_pos h1] at h
    have e : idx (orderL t) a = idx (orderL t) b := by omega
    have e1 := idx_get (order_mem.2 ⟨ha, h0⟩)
    have e2 := idx_get (order_mem.2 ⟨hb, h1⟩)
    rw [← e1, ← e2, e]
  · have h1 : ¬ b < 0 := fun hb0 => h0 (n1.1 (h ▸ n2.2 hb0))
    unfold ren at h
    rwa [if_neg h0, if_neg h1] at h

/-- the variables of a renamed term -/
theorem vars_ren {t : List Int} : vars (renL t) = (List.range (orderL t).length).map (fun i : Nat => (i : Int)) := by
  refine rises_unique (vars_rises _) ?_ (fun x => ?_)
  · refine List.Pairwise.map _ ?_ (List.pairwise_lt_range)
    intro a b hab
    omega
  · rw [vars_neg, List.mem_map]
    constructor
    · rintro ⟨h1, h2⟩
      obtain ⟨y, hy, e⟩ := List.mem_map.1 h1
      have h0 : y < 0 := ren_neg.1 (by rw [e]; omega)
      unfold ren at e
      rw [if_pos h0] at e
      exact ⟨idx (orderL t) y, List.mem_range.2 (idx_lt (order_mem.2 ⟨hy, h0⟩)), by omega⟩
    · rintro ⟨j, hj, rfl⟩
      rw [List.mem_range] at hj
      refine ⟨List.mem_map.2 ⟨(orderL t).getD j 0, ?_, ?_⟩, by omega⟩
      · exact (order_mem.1 (by simp [List.getD, hj])).1
      · have h0 : (orderL t).getD j 0 < 0 := (order_mem.1 (show (orderL t).getD j 0 ∈ orderL t by simp [List.getD, hj])).2
        unfold ren
        rw [if_pos h0, idx_nodup (order_nodup t) hj rfl]
theorem vars_ren_at {t : List Int} {j : Nat} (h : j < (vars (renL t)).length) : (vars (renL t)).getD j 0 = (j : Int) := by
  rw [vars_ren] at h ⊢
  simp at h
  simp [List.getD, h]

theorem idx_map_on {f : Int → Int} {o : List Int} {x : Int} (hx : x ∈ o) (hf : ∀ a ∈ o, f a = f x → a = x) : idx (o.map f) (f x) = idx o x := by
  induction o with
  | nil => cases hx
  | cons y r ih =>
    rw [List.map_cons, idx, idx]
    by_cases h : y = x
    · rw [if_pos (by rw [h]), if_pos h]
    · rw [if_neg (fun e => h (hf y (List.mem_cons_self ..) e)), if_neg h]
      rcases List.mem_cons.1 hx with e | e
      · exact absurd e.symm h
      · rw [ih e (fun a ha => hf a (List.mem_cons_of_mem _ ha))]

theorem fold_map {f : Int → Int} {t : List Int} (hf : ∀ a ∈ t, ∀ b ∈ t, f a = f b → a = b) (hn : ∀ x, f x < 0 ↔ x < 0) : ∀ (l o : List Int), (∀ x ∈ l, x ∈ t) → (∀ x ∈ o, x ∈ t) → (l.map f).foldl extV (o.map f) = (l.foldl extV o).map f
  | [], _, _, _ => rfl
  | x :: l, o, hl, ho => by
    have hx := hl x (List.mem_cons_self ..)
    rw [List.map_cons, List.foldl_cons, List.foldl_cons]
    have e : extV (o.map f) (f x) = (extV o x).map f := by
      unfold extV
      by_cases h : x < 0
      · rw [if_pos ((hn x).2 h), if_pos h]
        unfold ext
        by_cases hm : x ∈ o
        · rw [if_pos hm, if_pos (List.mem_map.2 ⟨x, hm, rfl⟩)]
        · rw [if_neg hm, if_neg, List.map_append]
          · rfl
          · intro h2
            obtain ⟨y, hy, e⟩ := List.mem_map.1 h2
            exact hm (hf y (ho y hy) x hx e ▸ hy)
      · rw [if_neg (fun h2 => h ((hn x).1 h2)), if_neg h]
    rw [e]
    refine fold_map hf hn l (extV o x) (fun y hy => hl y (List.mem_cons_of_mem _ hy)) (fun y hy => ?_)
    rcases extV_mem.1 hy with ⟨rfl, _⟩ | h
    · exact hx
    · exact ho y h

theorem order_ren (t : List Int) : orderL (renL t) = (orderL t).map (ren (orderL t)) :=
  fold_map (t := t) (f := ren (orderL t)) (fun a ha b hb h => ren_inj ha hb h) (fun x => ren_neg) t [] (fun _ h => h) (fun x h => by cases h)

/-- renamed twice is renamed -/
theorem ren_ren (t : List Int) : renL (renL t) = renL t := by
  show (renL t).map (ren (orderL (renL t))) = renL t
  rw [order_ren]
  show (t.map (ren (orderL t))).map _ = t.map (ren (orderL t))
  rw [List.map_map]
  refine List.map_congr_left (fun x hx => ?_)
  show ren ((orderL t).map (ren (orderL t))) (ren (orderL t) x) = ren (orderL t) x
  by_cases h : x < 0
  · have h1 := (@ren_neg (orderL t) x).2 h
    have hm := order_mem.2 ⟨hx, h⟩
    have e := idx_map_on (f := ren (orderL t)) hm (fun a ha e => ren_inj (order_mem.1 ha).1 hx e)
    rw [ren_yes h1, e, ren_yes h]
  · have h1 : ¬ ren (orderL t) x < 0 := fun e => h (ren_neg.1 e)
    rw [ren_no h1]

theorem many_ren {t : List Int} {x : Int} (hx : x ∈ t) : many (renL t) (ren (orderL t) x) = many t x := by
  unfold many cnt
  rw [List.take_length, List.take_length]
  unfold renL
  rw [List.count_eq_countP, List.count_eq_countP, List.countP_map]
  refine List.countP_congr (fun a ha => ?_)
  simp only [Function.comp, beq_iff_eq]
  exact ⟨fun e => ren_inj ha hx e, fun e => by rw [e]⟩

theorem lin_ren (t : List Int) : linB (renL t) = linB t := by
  unfold linB renL
  rw [List.all_map]
  refine Bool.eq_iff_iff.2 ?_
  rw [List.all_eq_true, List.all_eq_true]
  refine forall_congr' fun x => forall_congr' fun hx => ?_
  have h := many_ren hx
  unfold renL at h
  simp only [Function.comp, h, ren_neg]

/-- a renamed term is a variant of the term -/
theorem ren_facts {sg t : List Int} (h : termOkB sg t = true) : termOkB sg (renL t) = true ∧ renL (renL t) = renL t ∧ linB (renL t) = linB t ∧ ∀ j, j < (vars (renL t)).length → (vars (renL t)).getD j 0 = (j : Int) :=
  ⟨ren_ok h, ren_ren t, lin_ren t, fun _ => vars_ren_at⟩
end Go.Proofs.Ytdeegjeopkcomaa.renFacts
