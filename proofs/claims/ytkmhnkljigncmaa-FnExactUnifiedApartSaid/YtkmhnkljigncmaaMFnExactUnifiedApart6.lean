/-
  MERGED: my texts GenMath, SameSubst, PlainFacts, RenPure, UnifLaw, RenImpl, GenPos, AppZ, GenTab, GenSpec, one behind the other, as they are. By an AI agent.
-/
import Derived.Test.YtkmhnkljigncmaaMFnExactUnifiedApart5
import Derived.Deep.RegionHeld3
import Derived.Deep.QuietTactic
import Derived.BigQuiet
section
/-
  PLAIN MATHEMATICS of generalisation (chapter 5): two sequences of terms read in step, the pairs that are met kept in a table ('Gs'); what comes of it is unique ('gs_one'), is there ('gs_ex'), turns into both ('gs_fill'), and every other common pattern turns into it ('gt_least'). Conditions: none. By an AI agent.
-/
namespace Go.Proofs.Ytkmhnkljigncmaa.genMath
open Go.Proofs.Ytkmhnkljigncmaa.sig Go.Proofs.Ytkmhnkljigncmaa.term Go.Proofs.Ytkmhnkljigncmaa.termOk Go.Proofs.Ytkmhnkljigncmaa.termFacts Go.Proofs.Ytkmhnkljigncmaa.endAt Go.Proofs.Ytkmhnkljigncmaa.sub Go.Proofs.Ytkmhnkljigncmaa.termMath Go.Proofs.Ytkmhnkljigncmaa.fillMath Go.Proofs.Ytkmhnkljigncmaa.posMath Go.Proofs.Ytkmhnkljigncmaa.renMath Go.Proofs.Ytkmhnkljigncmaa.matchMath Go.Proofs.Ytkmhnkljigncmaa.unifMath

/-- the pairs that were met -/
abbrev Tb := List (List Int × List Int)
/-- they don't begin with the same symbol -/
def Apt (s t : List Int) : Prop := ¬ (0 ≤ s.getD 0 0 ∧ s.getD 0 0 = t.getD 0 0)
/-- n terms of each side, the table before, what comes of it, the table behind -/
inductive Gs (sg : List Int) : Tb → Nat → List Int → List Int → List Int → Tb → Prop
  | nil (T : Tb) : Gs sg T 0 [] [] [] T
  | sym {T T' : Tb} {n : Nat} {u w g : List Int} {x : Int} : 0 ≤ x → ¬ ar sg x < 0 → Gs sg T (n + (ar sg x).toNat) u w g T' → Gs sg T (n + 1) (x :: u) (x :: w) (x :: g) T'
  | old {T T' : Tb} {n i : Nat} {s t u w g : List Int} : Trm sg s → Trm sg t → Apt s t → T[i]? = some (s, t) → Gs sg T n u w g T' → Gs sg T (n + 1) (s ++ u) (t ++ w) ((-1 - (i : Int)) :: g) T'
  | new {T T' : Tb} {n : Nat} {s t u w g : List Int} : Trm sg s → Trm sg t → Apt s t → (s, t) ∉ T → Gs sg (T ++ [(s, t)]) n u w g T' → Gs sg T (n + 1) (s ++ u) (t ++ w) ((-1 - (T.length : Int)) :: g) T'
section
variable {sg : List Int} {T T' : Tb} {n : Nat} {u w g : List Int}
theorem gs_ext (h : Gs sg T n u w g T') : ∃ E, T' = T ++ E := by
  induction h with
  | nil T => exact ⟨[], by simp⟩
  | sym _ _ _ ih => exact ih
  | old _ _ _ _ _ ih => exact ih
  | new _ _ _ _ _ ih => obtain ⟨E, e⟩ := ih; exact ⟨_, by rw [e, List.append_assoc]⟩
theorem gs_nodup (h : Gs sg T n u w g T') (hT : T.Nodup) : T'.Nodup := by
  induction h with
  | nil T => exact hT
  | sym _ _ _ ih => exact ih hT
  | old _ _ _ _ _ ih => exact ih hT
  | new _ _ _ hn _ ih =>
    refine ih ?_
    rw [List.nodup_append]
    refine ⟨hT, by simp, fun x hx y hy e => ?_⟩
    rw [List.mem_singleton] at hy
    subst e
    subst hy
    exact hn hx
theorem trm_cat {s u : List Int} (hs : Trm sg s) (hu : scan sg n u = some u.length) : scan sg (n + 1) (s ++ u) = some (s ++ u).length := by
  have := scan_cat hs hu
  rw [List.length_append, ← this, Nat.add_comm]
theorem gs_scan (h : Gs sg T n u w g T') : scan sg n u = some u.length ∧ scan sg n w = some w.length := by
  induction h with
  | nil T => exact ⟨rfl, rfl⟩
  | sym h0 ha _ ih => exact ⟨by rw [scan_step ha, ih.1]; rfl, by rw [scan_step ha, ih.2]; rfl⟩
  | old h1 h2 _ _ _ ih => exact ⟨trm_cat h1 ih.1, trm_cat h2 ih.2⟩
  | new h1 h2 _ _ _ ih => exact ⟨trm_cat h1 ih.1, trm_cat h2 ih.2⟩
end
/-- one behind the other -/
theorem gs_comp {sg : List Int} {T T1 T2 : Tb} {p q : Nat} {u w g U W G : List Int} (h : Gs sg T p u w g T1) : Gs sg T1 q U W G T2 → Gs sg T (p + q) (u ++ U) (w ++ W) (g ++ G) T2 := by
  induction h with
  | nil T => intro k; simpa using k
  | @sym T T' n u w g x h0 ha _ ih =>
    intro k
    have := ih k
    rw [show n + 1 + q = (n + q) + 1 by omega]
    exact .sym h0 ha (by rw [show n + q + (ar sg x).toNat = n + (ar sg x).toNat + q by omega]; exact this)
  | @old T T' n i s t u w g h1 h2 h3 h4 _ ih =>
    intro k
    rw [show n + 1 + q = (n + q) + 1 by omega, List.append_assoc, List.append_assoc]
    exact .old h1 h2 h3 h4 (ih k)
  | @new T T' n s t u w g h1 h2 h3 h4 _ ih =>
    intro k
    rw [show n + 1 + q = (n + q) + 1 by omega, List.append_assoc, List.append_assoc]
    exact .new h1 h2 h3 h4 (ih k)
/-- a term at the front is found -/
theorem trm_front {sg s s' u u' : List Int} (h : Trm sg s) (h' : Trm sg s') (e : s ++ u = s' ++ u') : s = s' ∧ u = u' := by
  have h1 := scan_append (r := u) h
  have h2 := scan_append (r := u') h'
  rw [e, h2] at h1
  injection h1 with h1
  have h3 := congrArg (List.take s.length) e
  rw [List.take_left' rfl, List.take_left' h1] at h3
  refine ⟨h3, ?_⟩
  rw [h3] at e
  exact List.append_cancel_left e
theorem trm_cons {sg s : List Int} (h : Trm sg s) : ∃ x r, s = x :: r ∧ s.getD 0 0 = x := by
  have := h.pos
  match s, this with
  | x :: r, _ => exact ⟨x, r, rfl, rfl⟩
theorem apt_head {sg s t u w u' w' : List Int} {x : Int} (hs : Trm sg s) (ht : Trm sg t) (h : Apt s t) (h0 : 0 ≤ x) (e1 : s ++ u = x :: u') (e2 : t ++ w = x :: w') : False := by
  obtain ⟨y, r, rfl, hy⟩ := trm_cons hs
  obtain ⟨z, r', rfl, hz⟩ := trm_cons ht
  injection e1 with e1 _
  injection e2 with e2 _
  exact h ⟨by rw [hy, e1]; exact h0, by rw [hy, hz, e1, e2]⟩
theorem nodup_ix {T : Tb} {i j : Nat} {a : List Int × List Int} (h : T.Nodup) (hi : T[i]? = some a) (hj : T[j]? = some a) : i = j := by
  exact (List.getElem?_inj (List.getElem?_eq_some_iff.1 hi).1 h).1 (hi.trans hj.symm)
theorem mem_ix {T : Tb} {i : Nat} {a : List Int × List Int} (h : T[i]? = some a) : a ∈ T := List.mem_of_getElem? h
/-- only one comes of it -/
theorem gs_one {sg : List Int} {T T' : Tb} {n : Nat} {u w g : List Int} (h : Gs sg T n u w g T') : T.Nodup → ∀ {g2 : List Int} {T2 : Tb}, Gs sg T n u w g2 T2 → g = g2 ∧ T' = T2 := by
  induction h with
  | nil T =>
    intro hT g2 T2 k
    cases k with
    | nil => exact ⟨rfl, rfl⟩
  | @sym T T' n u w g x h0 ha h1 ih =>
    intro hT g2 T2 k
    generalize eu : x :: u = U at k
    generalize ew : x :: w = W at k
    generalize en : n + 1 = m at k
    cases k with
    | nil => cases eu
    | sym k0 ka k1 =>
      injection eu with e1 e2
      injection ew with _ e3
      subst e1; subst e2; subst e3
      obtain rfl := Nat.succ.inj en
      obtain ⟨a, b⟩ := ih hT k1
      exact ⟨by rw [a], b⟩
    | old k1 k2 k3 _ _ => exact (apt_head k1 k2 k3 h0 eu.symm ew.symm).elim
    | new k1 k2 k3 _ _ => exact (apt_head k1 k2 k3 h0 eu.symm ew.symm).elim
  | @old T T' n i s t u w g h1 h2 h3 h4 h5 ih =>
    intro hT g2 T2 k
    generalize eu : s ++ u = U at k
    generalize ew : t ++ w = W at k
    generalize en : n + 1 = m at k
    cases k with
    | nil => cases en
    | sym k0 ka k1 => exact (apt_head h1 h2 h3 k0 eu ew).elim
    | @old _ _ n' i' s' t' u' w' g' k1 k2 k3 k4 k5 =>
      obtain ⟨rfl, rfl⟩ := trm_front h1 k1 eu
      obtain ⟨rfl, rfl⟩ := trm_front h2 k2 ew
      obtain rfl := Nat.succ.inj en
      obtain rfl := nodup_ix hT h4 k4
      obtain ⟨a, b⟩ := ih hT k5
      exact ⟨by rw [a], b⟩
    | new k1 k2 k3 k4 k5 =>
      obtain ⟨rfl, rfl⟩ := trm_front h1 k1 eu
      obtain ⟨rfl, rfl⟩ := trm_front h2 k2 ew
      exact absurd (mem_ix h4) k4
  | @new T T' n s t u w g h1 h2 h3 h4 h5 ih =>
    intro hT g2 T2 k
    have hN : (T ++ [(s, t)]).Nodup := by
      rw [List.nodup_append]
      refine ⟨hT, by simp, fun x hx y hy e => ?_⟩
      rw [List.mem_singleton] at hy
      subst e
      subst hy
      exact h4 hx
    generalize eu : s ++ u = U at k
    generalize ew : t ++ w = W at k
    generalize en : n + 1 = m at k
    cases k with
    | nil => cases en
    | sym k0 ka k1 => exact (apt_head h1 h2 h3 k0 eu ew).elim
    | old k1 k2 k3 k4 k5 =>
      obtain ⟨rfl, rfl⟩ := trm_front h1 k1 eu
      obtain ⟨rfl, rfl⟩ := trm_front h2 k2 ew
      exact absurd (mem_ix k4) h4
    | new k1 k2 k3 k4 k5 =>
      obtain ⟨rfl, rfl⟩ := trm_front h1 k1 eu
      obtain ⟨rfl, rfl⟩ := trm_front h2 k2 ew
      obtain rfl := Nat.succ.inj en
      obtain ⟨a, b⟩ := ih hN k5
      exact ⟨by rw [a], b⟩
/-- a sequence of terms: the first one and the others -/
theorem seq_front {sg u : List Int} {n : Nat} (h : scan sg (n + 1) u = some u.length) : ∃ s r, u = s ++ r ∧ Trm sg s ∧ scan sg n r = some r.length := by
  obtain ⟨j, h1, h2, h3, h4⟩ := scan_first (a := 0) (by rw [List.drop_zero]; exact h)
  rw [List.drop_zero] at h1
  rw [Nat.zero_add] at h4
  refine ⟨u.take j, u.drop j, (List.take_append_drop j u).symm, ?_, by rw [h4, List.length_drop]⟩
  unfold Trm
  rw [scan_take h1, List.length_take]
  congr 1
  omega
/-- and it is there -/
theorem gs_ex {sg : List Int} : ∀ (m : Nat) {T : Tb} {n : Nat} {u w : List Int}, u.length ≤ m → scan sg n u = some u.length → scan sg n w = some w.length → ∃ g T', Gs sg T n u w g T'
  | m, T, 0, u, w, _, hu, hw => by
    rw [scan_zero] at hu hw
    injection hu with hu
    injection hw with hw
    obtain rfl := List.eq_nil_of_length_eq_zero hu.symm
    obtain rfl := List.eq_nil_of_length_eq_zero hw.symm
    exact ⟨[], T, .nil T⟩
  | 0, T, n + 1, u, w, hm, hu, _ => by
    obtain rfl := List.eq_nil_of_length_eq_zero (Nat.le_zero.1 hm)
    rw [scan_nil] at hu; cases hu
  | m + 1, T, n + 1, u, w, hm, hu, hw => by
    obtain ⟨s, r, e1, hs, hr⟩ := seq_front hu
    obtain ⟨t, q, e2, ht, hq⟩ := seq_front hw
    have hsp := hs.pos
    by_cases ha : Apt s t
    · by_cases hx : (s, t) ∈ T
      · obtain ⟨i, hi⟩ := List.mem_iff_getElem?.1 hx
        obtain ⟨g, T', h⟩ := gs_ex (sg := sg) m (T := T) (n := n) (u := r) (w := q) (by rw [e1, List.length_append] at hm; omega) hr hq
        exact ⟨_, _, by rw [e1, e2]; exact .old hs ht ha hi h⟩
      · obtain ⟨g, T', h⟩ := gs_ex (sg := sg) m (T := T ++ [(s, t)]) (n := n) (u := r) (w := q) (by rw [e1, List.length_append] at hm; omega) hr hq
        exact ⟨_, _, by rw [e1, e2]; exact .new hs ht ha hx h⟩
    · unfold Apt at ha
      rw [Classical.not_not] at ha
      obtain ⟨x, s', rfl, hx⟩ := trm_cons hs
      obtain ⟨y, t', rfl, hy⟩ := trm_cons ht
      rw [hx, hy] at ha
      obtain ⟨h0, rfl⟩ := ha
      rw [e1] at hu
      rw [e2] at hw
      rw [List.cons_append] at hu hw
      have har : ¬ ar sg x < 0 := by
        intro hn
        rw [scan_bad hn] at hu; cases hu
      rw [scan_step har, Option.map_eq_some_iff] at hu hw
      obtain ⟨a, a1, a2⟩ := hu
      obtain ⟨b, b1, b2⟩ := hw
      obtain ⟨g, T', h⟩ := gs_ex (sg := sg) m (T := T) (n := n + (ar sg x).toNat) (u := s' ++ r) (w := t' ++ q) (by rw [e1] at hm; simp at hm ⊢; omega) (by rw [a1]; congr 1; simp at a2 ⊢; omega) (by rw [b1]; congr 1; simp at b2 ⊢; omega)
      exact ⟨_, _, by rw [e1, e2]; exact .sym h0 har h⟩
/-- read the other way round -/
theorem gs_swap {sg : List Int} {T T' : Tb} {n : Nat} {u w g : List Int} (h : Gs sg T n u w g T') : Gs sg (T.map Prod.swap) n w u g (T'.map Prod.swap) := by
  have apt : ∀ {s t : List Int}, Apt s t → Apt t s := fun h ⟨a, b⟩ => h ⟨by rw [← b]; exact a, b.symm⟩
  induction h with
  | nil T => exact .nil _
  | sym h0 ha _ ih => exact .sym h0 ha ih
  | old h1 h2 h3 h4 _ ih => exact .old h2 h1 (apt h3) (by rw [List.getElem?_map, h4]; rfl) ih
  | @new T T' n s t u w g h1 h2 h3 h4 _ ih =>
    have := Gs.new (sg := sg) (T := T.map Prod.swap) h2 h1 (apt h3) (fun hm => h4 (by
      rw [List.mem_map] at hm
      obtain ⟨⟨a, b⟩, m1, m2⟩ := hm
      injection m2 with m2 m3
      rw [← m2, ← m3]
      exact m1)) (by rw [List.map_append] at ih; exact ih)
    rw [List.length_map] at this
    exact this

/-! ### with a table that stays -/
inductive Gt (sg : List Int) (T : Tb) : Nat → List Int → List Int → List Int → Prop
  | nil : Gt sg T 0 [] [] []
  | sym {n : Nat} {u w g : List Int} {x : Int} : 0 ≤ x → ¬ ar sg x < 0 → Gt sg T (n + (ar sg x).toNat) u w g → Gt sg T (n + 1) (x :: u) (x :: w) (x :: g)
  | old {n i : Nat} {s t u w g : List Int} : Trm sg s → Trm sg t → Apt s t → T[i]? = some (s, t) → Gt sg T n u w g → Gt sg T (n + 1) (s ++ u) (t ++ w) ((-1 - (i : Int)) :: g)
theorem gs_gt {sg : List Int} {T T' : Tb} {n : Nat} {u w g : List Int} (h : Gs sg T n u w g T') : ∀ E, Gt sg (T' ++ E) n u w g := by
  induction h with
  | nil T => intro E; exact .nil
  | sym h0 ha _ ih => intro E; exact .sym h0 ha (ih E)
  | old h1 h2 h3 h4 k ih =>
    intro E
    obtain ⟨F, e⟩ := gs_ext k
    refine .old h1 h2 h3 ?_ (ih E)
    rw [e, List.append_assoc, List.getElem?_append_left (List.getElem?_eq_some_iff.1 h4).1]
    exact h4
  | new h1 h2 h3 h4 k ih =>
    intro E
    obtain ⟨F, e⟩ := gs_ext k
    refine .old h1 h2 h3 ?_ (ih E)
    rw [e, List.append_assoc, List.append_assoc]
    simp
/-- what stands on either side of a variable -/
def f1 (T : Tb) (i : Nat) : List Int := (T.getD i ([], [])).1
def f2 (T : Tb) (i : Nat) : List Int := (T.getD i ([], [])).2
theorem gt_fill {sg : List Int} {T : Tb} {n : Nat} {u w g : List Int} (h : Gt sg T n u w g) : fillL (f1 T) g = u ∧ fillL (f2 T) g = w ∧ ∀ x ∈ g, x < 0 → vr x < T.length ∧ Trm sg (f1 T (vr x)) ∧ Trm sg (f2 T (vr x)) := by
  induction h with
  | nil => exact ⟨rfl, rfl, fun x hx => absurd hx (List.not_mem_nil)⟩
  | @sym n u w g x h0 ha _ ih =>
    refine ⟨by rw [fill_cons, rep_sym h0, ih.1]; rfl, by rw [fill_cons, rep_sym h0, ih.2.1]; rfl, fun y hy hy0 => ?_⟩
    rcases List.mem_cons.1 hy with rfl | hy
    · omega
    · exact ih.2.2 y hy hy0
  | @old n i s t u w g h1 h2 h3 h4 _ ih =>
    have e1 : f1 T i = s := by unfold f1; rw [List.getD_eq_getElem?_getD, h4]; rfl
    have e2 : f2 T i = t := by unfold f2; rw [List.getD_eq_getElem?_getD, h4]; rfl
    refine ⟨by rw [fill_cons, rep_vr (by omega), vr_vt, e1, ih.1], by rw [fill_cons, rep_vr (by omega), vr_vt, e2, ih.2.1], fun y hy hy0 => ?_⟩
    rcases List.mem_cons.1 hy with rfl | hy
    · rw [vr_vt, e1, e2]
      exact ⟨(List.getElem?_eq_some_iff.1 h4).1, h1, h2⟩
    · exact ih.2.2 y hy hy0
theorem gt_scan {sg : List Int} {T : Tb} {n : Nat} {u w g : List Int} (hT : T.length ≤ 24) (h : Gt sg T n u w g) : scan sg n g = some g.length := by
  induction h with
  | nil => rfl
  | sym h0 ha _ ih => rw [scan_step ha, ih]; rfl
  | @old n i s t u w g h1 h2 h3 h4 _ ih =>
    have hi := (List.getElem?_eq_some_iff.1 h4).1
    have e : ar sg (-1 - (i : Int)) = 0 := ar_var (by omega)
    rw [scan_step (by rw [e]; omega), e]
    show (scan sg (n + 0) g).map (· + 1) = _
    rw [Nat.add_zero, ih]; rfl
theorem gt_one {sg : List Int} {T : Tb} (hT : T.Nodup) {n : Nat} {u w g : List Int} (h : Gt sg T n u w g) : ∀ {g2 : List Int}, Gt sg T n u w g2 → g = g2 := by
  induction h with
  | nil =>
    intro g2 k
    cases k with
    | nil => rfl
  | @sym n u w g x h0 ha h1 ih =>
    intro g2 k
    generalize eu : x :: u = U at k
    generalize ew : x :: w = W at k
    generalize en : n + 1 = m at k
    cases k with
    | nil => cases eu
    | sym k0 ka k1 =>
      injection eu with e1 e2
      injection ew with _ e3
      subst e1; subst e2; subst e3
      obtain rfl := Nat.succ.inj en
      rw [ih k1]
    | old k1 k2 k3 _ _ => exact (apt_head k1 k2 k3 h0 eu.symm ew.symm).elim
  | @old n i s t u w g h1 h2 h3 h4 h5 ih =>
    intro g2 k
    generalize eu : s ++ u = U at k
    generalize ew : t ++ w = W at k
    generalize en : n + 1 = m at k
    cases k with
    | nil => cases en
    | sym k0 ka k1 => exact (apt_head h1 h2 h3 k0 eu ew).elim
    | old k1 k2 k3 k4 k5 =>
      obtain ⟨rfl, rfl⟩ := trm_front h1 k1 eu
      obtain ⟨rfl, rfl⟩ := trm_front h2 k2 ew
      obtain rfl := Nat.succ.inj en
      obtain rfl := nodup_ix hT h4 k4
      rw [ih k5]
/-- the first so many terms, and the others -/
theorem gt_split {sg : List Int} {T : Tb} {m : Nat} {X Y g : List Int} (h : Gt sg T m X Y g) : ∀ {p q : Nat} {u w U W : List Int}, m = p + q → X = u ++ U → Y = w ++ W → scan sg p u = some u.length → scan sg p w = some w.length → ∃ g1 g2, g = g1 ++ g2 ∧ Gt sg T p u w g1 ∧ Gt sg T q U W g2 := by
  have zero : ∀ {m : Nat} {X Y g : List Int}, Gt sg T m X Y g → ∀ {q : Nat} {u w U W : List Int}, m = 0 + q → X = u ++ U → Y = w ++ W → scan sg 0 u = some u.length → scan sg 0 w = some w.length → ∃ g1 g2, g = g1 ++ g2 ∧ Gt sg T 0 u w g1 ∧ Gt sg T q U W g2 := by
    intro m X Y g h q u w U W e eX eY hu hw
    rw [scan_zero] at hu hw
    injection hu with hu
    injection hw with hw
    obtain rfl := List.eq_nil_of_length_eq_zero hu.symm
    obtain rfl := List.eq_nil_of_length_eq_zero hw.symm
    rw [Nat.zero_add] at e
    subst e
    rw [List.nil_append] at eX eY
    subst eX; subst eY
    exact ⟨[], g, rfl, .nil, h⟩
  induction h with
  | nil =>
    intro p q u w U W e eX eY hu hw
    cases p with
    | zero => exact zero .nil e eX eY hu hw
    | succ p => omega
  | @sym n X Y g x h0 ha h1 ih =>
    intro p q u w U W e eX eY hu hw
    cases p with
    | zero => exact zero (.sym h0 ha h1) e eX eY hu hw
    | succ p =>
      cases u with
      | nil => rw [scan_nil] at hu; cases hu
      | cons x' u =>
        cases w with
        | nil => rw [scan_nil] at hw; cases hw
        | cons y' w =>
          rw [List.cons_append] at eX eY
          injection eX with e1 e2
          injection eY with e3 e4
          subst e1; subst e3
          rw [scan_step ha, Option.map_eq_some_iff] at hu hw
          obtain ⟨a, a1, a2⟩ := hu
          obtain ⟨b, b1, b2⟩ := hw
          obtain ⟨g1, g2, k1, k2, k3⟩ := ih (p := p + (ar sg x).toNat) (q := q) (u := u) (w := w) (by omega) e2 e4 (by rw [a1]; congr 1; simp at a2; omega) (by rw [b1]; congr 1; simp at b2; omega)
          exact ⟨x :: g1, g2, by rw [k1]; rfl, .sym h0 ha k2, k3⟩
  | @old n i s t X Y g h1 h2 h3 h4 h5 ih =>
    intro p q u w U W e eX eY hu hw
    cases p with
    | zero => exact zero (.old h1 h2 h3 h4 h5) e eX eY hu hw
    | succ p =>
      obtain ⟨s', r, e1, hs, hr⟩ := seq_front hu
      obtain ⟨t', r', e2, ht, hr'⟩ := seq_front hw
      rw [e1, List.append_assoc] at eX
      rw [e2, List.append_assoc] at eY
      obtain ⟨es, eX2⟩ := trm_front h1 hs eX
      obtain ⟨et, eY2⟩ := trm_front h2 ht eY
      subst es; subst et
      obtain ⟨g1, g2, k1, k2, k3⟩ := ih (p := p) (q := q) (by omega) eX2 eY2 hr hr'
      exact ⟨(-1 - (i : Int)) :: g1, g2, by rw [k1]; rfl, by rw [e1, e2]; exact .old h1 h2 h3 h4 k2, k3⟩
/-- a pattern of both turns into what comes of them -/
theorem gt_least {sg : List Int} {T : Tb} (hT : T.Nodup) {A B : Nat → List Int} (hA : Sub sg A) (hB : Sub sg B) : ∃ M : Nat → List Int, ∀ {p : List Int} {n : Nat} {g : List Int}, scan sg n p = some p.length → Gt sg T n (fillL A p) (fillL B p) g → fillL M p = g ∧ ∀ x ∈ p, x < 0 → Gt sg T 1 (A (vr x)) (B (vr x)) (M (vr x)) := by
  have hch : ∀ i, ∃ m, (∃ m', Gt sg T 1 (A i) (B i) m') → Gt sg T 1 (A i) (B i) m := fun i => by
    by_cases h : ∃ m', Gt sg T 1 (A i) (B i) m'
    · obtain ⟨m', h'⟩ := h
      exact ⟨m', fun _ => h'⟩
    · exact ⟨[], fun h' => absurd h' h⟩
  refine ⟨fun i => (hch i).choose, fun {p} => ?_⟩
  induction p with
  | nil =>
    intro n g hs h
    cases n with
    | zero =>
      cases h with
      | nil => exact ⟨rfl, fun x hx => absurd hx (List.not_mem_nil)⟩
    | succ n => rw [scan_nil] at hs; cases hs
  | cons x r ih =>
    intro n g hs h
    cases n with
    | zero => rw [scan_zero] at hs; injection hs with hs; simp at hs
    | succ n =>
      have hx := scan_ar hs x (List.mem_cons_self ..)
      rw [scan_step hx, Option.map_eq_some_iff] at hs
      obtain ⟨a, a1, a2⟩ := hs
      have hr : scan sg (n + (ar sg x).toNat) r = some r.length := by rw [a1]; congr 1; simp at a2; omega
      rw [fill_cons, fill_cons] at h
      by_cases h0 : 0 ≤ x
      · rw [rep_sym h0, rep_sym h0] at h
        obtain ⟨g', rfl, h'⟩ : ∃ g', g = x :: g' ∧ Gt sg T (n + (ar sg x).toNat) (fillL A r) (fillL B r) g' := by
          generalize eu : [x] ++ fillL A r = U at h
          generalize ew : [x] ++ fillL B r = W at h
          generalize en : n + 1 = m at h
          cases h with
          | nil => cases eu
          | sym k0 ka k1 =>
            injection eu with e1 e2
            injection ew with _ e3
            subst e1
            have e2' : fillL A r = _ := e2
            have e3' : fillL B r = _ := e3
            rw [e2', e3']
            obtain rfl := Nat.succ.inj en
            exact ⟨_, rfl, k1⟩
          | old k1 k2 k3 _ _ => exact (apt_head k1 k2 k3 h0 eu.symm ew.symm).elim
        obtain ⟨i1, i2⟩ := ih hr h'
        refine ⟨by rw [fill_cons, rep_sym h0, i1]; rfl, fun y hy hy0 => ?_⟩
        rcases List.mem_cons.1 hy with rfl | hy
        · omega
        · exact i2 y hy hy0
      · have hv : vr x < 24 := by
          by_cases h24 : -24 ≤ x
          · unfold vr; omega
          · rw [ar_no (by omega) (by omega)] at hx; omega
        have hz : ar sg x = 0 := ar_var (by unfold vr at hv; omega)
        rw [rep_vr (by omega), rep_vr (by omega)] at h
        obtain ⟨g1, g2, e, k1, k2⟩ := gt_split h (show n + 1 = 1 + n by omega) rfl rfl (hA.trm _ hv) (hB.trm _ hv)
        have hc := (hch (vr x)).choose_spec ⟨_, k1⟩
        have hg1 := gt_one hT hc k1
        rw [hz] at hr
        obtain ⟨i1, i2⟩ := ih (n := n) hr k2
        refine ⟨by rw [fill_cons, rep_vr (by omega), e]; show (hch (vr x)).choose ++ _ = _; rw [hg1, i1], fun y hy hy0 => ?_⟩
        rcases List.mem_cons.1 hy with rfl | hy
        · exact hc
        · exact i2 y hy hy0
end Go.Proofs.Ytkmhnkljigncmaa.genMath
end

section
/-
  CONTRACTS: spec.SameSubst, impl.SameSubst. Conditions: the slices read as lists ('Seg', 'Segs'), at most 1048576 values. (The regions' walks by wip/tools/reg.py.) By an AI agent.
-/
namespace Go.Proofs.Ytkmhnkljigncmaa.sameSubst
open Go.RowKit Go.Proofs.Ytkmhnkljigncmaa.base Go.Proofs.Ytkmhnkljigncmaa.ints Go.Proofs.Ytkmhnkljigncmaa.sig Go.Proofs.Ytkmhnkljigncmaa.same Go.Proofs.Ytkmhnkljigncmaa.marks Go.Proofs.Ytkmhnkljigncmaa.sym Go.Proofs.Ytkmhnkljigncmaa.segs Go.Proofs.Ytkmhnkljigncmaa.segsHelp Go.Proofs.Ytkmhnkljigncmaa.kinds Go.Proofs.Ytkmhnkljigncmaa.varsOf Go.Proofs.Ytkmhnkljigncmaa.fillMath Go.Proofs.Ytkmhnkljigncmaa.look Go.Proofs.Ytkmhnkljigncmaa.substOk Go.Proofs.Ytkmhnkljigncmaa.gives
set_option maxRecDepth 100000

/-- what SameSubst answers -/
def sameG (a b : List (List Int)) : Bool := (List.range 24).all fun i => decide (givesL a i = givesL b i)
def sameB (sg : List Int) (a b : List (List Int)) : Bool := substOkB sg a && (substOkB sg b && sameG a b)
theorem sameG_yes {a b : List (List Int)} (h : ∀ i, i < 24 → givesL a i = givesL b i) : sameG a b = true := by
  unfold sameG
  rw [List.all_eq_true]
  intro i hi
  exact decide_eq_true (h i (List.mem_range.1 hi))
theorem sameG_no {a b : List (List Int)} {i : Nat} (hi : i < 24) (h : givesL a i ≠ givesL b i) : sameG a b = false := by
  cases e : sameG a b with
  | false => rfl
  | true =>
    unfold sameG at e
    rw [List.all_eq_true] at e
    exact absurd (of_decide_eq_true (e i (List.mem_range.2 hi))) h
theorem sameG_iff {a b : List (List Int)} : sameG a b = true ↔ ∀ i, i < 24 → givesL a i = givesL b i := by
  refine ⟨fun e i hi => ?_, sameG_yes⟩
  unfold sameG at e
  rw [List.all_eq_true] at e
  exact of_decide_eq_true (e i (List.mem_range.2 hi))
theorem same_a {sg : List Int} {a b : List (List Int)} (h : substOkB sg a = false) : sameB sg a b = false := by unfold sameB; rw [h, Bool.false_and]
theorem same_b {sg : List Int} {a b : List (List Int)} (h : substOkB sg b = false) : sameB sg a b = false := by unfold sameB; rw [h, Bool.false_and, Bool.and_false]
theorem same_ab {sg : List Int} {a b : List (List Int)} (h : substOkB sg a = true) (h' : substOkB sg b = true) : sameB sg a b = sameG a b := by unfold sameB; rw [h, h', Bool.true_and, Bool.true_and]
/-- three boxes -/
theorem boxesSS (w : World) (A : Option Addr) (n c : Nat) (S : Option Addr) (m c' : Nat) (T : Option Addr) (q cq : Nat) : ∃ W, W = ((w.alloc (.cells #[.slice A n c] 26)).alloc (.cells #[.slice S m c'] 31)).alloc (.cells #[.slice T q cq] 31) ∧
    Row W w.heap.size 26 #[.slice A n c] ∧ Row W (w.heap.size + 1) 31 #[.slice S m c'] ∧ Row W (w.heap.size + 2) 31 #[.slice T q cq] ∧ Below w.heap.size w W := by
  obtain ⟨W, hW, r1, r2, b⟩ := boxes2 w A n c S m c'
  have hz : W.heap.size = w.heap.size + 2 := by rw [hW]; simp
  refine ⟨_, rfl, ?_, ?_, ?_, ?_⟩
  · rw [← hW]; exact r1.alloc _
  · rw [← hW]; exact r2.alloc _
  · rw [← hW, ← hz]; exact Row.new _ _ _
  · rw [← hW]; exact b.alloc b.size _

theorem gives_each {ss : List (List Int)} (h : ∀ j, (ss.getD j []).length ≤ 1048576) (i : Nat) : (givesL ss i).length ≤ 1048576 := by
  unfold givesL
  split
  · simp [vt]
  · exact h i
theorem lookupB (S : Option Addr) (m c : Nat) (w : World) :
    Calls Try.prog 72 #[.agg #[.slice S m c]] w fun e w' => e = .returned (.func (.func 112) #[] #[.pointer (some ⟨w.heap.size, 0, none⟩)]) ∧ Row w' w.heap.size 31 #[.slice S m c] ∧ Below w.heap.size w w' :=
  (lookupIn S m c w).mono fun _ _ ⟨he, hw⟩ => ⟨he, by rw [hw]; exact Row.new _ _ _, by rw [hw]; exact (Below.refl _ _).alloc (Nat.le_refl _) _⟩

/-- the head of both loops: the boxes of the two substitutions lie at b1 and b2 -/
def HeadSS (w : World) (b1 b2 : Nat) (S : Option Addr) (m c : Nat) (T : Option Addr) (q cq : Nat) (xa xb : List (List Int)) (i : Value) (wr : World) : Prop :=
  ∃ k : Nat, k ≤ 24 ∧ i = .int .i64 k ∧ (∀ j, j < k → givesL xa j = givesL xb j) ∧ Row wr b1 31 #[.slice S m c] ∧ Row wr b2 31 #[.slice T q cq] ∧ Below w.heap.size w wr
theorem headSS_step {w wr w2 : World} {b1 b2 m c q cq k : Nat} {S T : Option Addr} {xa xb : List (List Int)} (hk : k < 24) (h : ∀ j, j < k → givesL xa j = givesL xb j) (he : givesL xa k = givesL xb k)
    (r1 : Row wr b1 31 #[.slice S m c]) (r2 : Row wr b2 31 #[.slice T q cq]) (hb : Below w.heap.size w wr) (bb : Below wr.heap.size wr w2) : HeadSS w b1 b2 S m c T q cq xa xb (.int .i64 ((k : Int) + 1)) w2 :=
  ⟨k + 1, hk, by simp, fun j hj => by
    by_cases e : j = k
    · rw [e]; exact he
    · exact h j (by omega), r1.next bb, r2.next bb, next_trans hb bb⟩

set_option maxHeartbeats 8000000 in
theorem specSameSubst (A S T : Option Addr) (n c m c' q cq : Nat) (sg : List Int) (xa xb : List (List Int)) (w : World) (h : Seg w w.heap.size A n sg) (h' : Segs w w.heap.size S m xa) (h2 : Segs w w.heap.size T q xb) (hn : n ≤ 1048576) (ht : tot xa ≤ 1048576) (ht2 : tot xb ≤ 1048576) :
    Calls Try.prog 16 #[.agg #[.slice A n c], .agg #[.slice S m c'], .agg #[.slice T q cq]] w (AnsB w (sameB sg xa xb)) := by
  obtain ⟨W, hW, rA, rS, rT, bel⟩ := boxesSS w A n c S m c' T q cq
  have HW := Lib.hid hW
  have hm : m ≤ 1048576 := tot_len h'.1 ht
  have hq : q ≤ 1048576 := tot_len h2.1 ht2
  have HE1 := Lib.hid (tot_each ht)
  have HE2 := Lib.hid (tot_each ht2)
  have HT1 := Lib.hid ht
  have HT2 := Lib.hid ht2
  have s := h.next bel
  have s1 := h'.next bel
  have s2 := h2.next bel
  have L := Lib.hid (specSubstOk A S n c m c' sg xa W s s1 hn ht)
  clear hW ht ht2
  cases hok : substOkB sg xa with
  | false =>
    have HS := Lib.hid hok
    clear hok s s1 s2 h h' h2
    go_enter Try.func16, Try.ntmps16
    go_wp2_with fail
    rw [← HW.out]
    refine L.out.mono ?_
    rintro e w1 ⟨he, bb⟩
    rw [HS.out] at he
    subst he
    have F := Lib.hid (ansB (b := sameB sg xa xb) (a := false) (by rw [same_a HS.out]) (next_trans bel bb))
    clear bb bel rA rS rT
    go_wp2
    go_ret
    exact F.out
  | true =>
    have HS := Lib.hid hok
    clear hok
    go_enter Try.func16, Try.ntmps16
    go_wp2_with fail
    rw [← HW.out]
    refine L.out.mono ?_
    rintro e w1 ⟨he, bb⟩
    rw [HS.out] at he
    subst he
    replace s := s.next bb
    replace s1 := s1.next bb
    replace s2 := s2.next bb
    replace rA := rA.next bb
    replace rS := rS.next bb
    replace rT := rT.next bb
    replace bel := next_trans bel bb
    have cA : w1.cell? ⟨w.heap.size, 0, none⟩ = some (.slice A n c) := rA.cell 0
    have cT : w1.cell? ⟨w.heap.size + 2, 0, none⟩ = some (.slice T q cq) := rT.cell 0
    have L2 := Lib.hid (specSubstOk A T n c q cq sg xb w1 s s2 hn HT2.out)
    clear bb L
    cases hok2 : substOkB sg xb with
    | false =>
      have HS2 := Lib.hid hok2
      clear hok2 s s1 s2 h h' h2
      go_wp2_with fail
      refine L2.out.mono ?_
      rintro e w2 ⟨he, bb⟩
      rw [HS2.out] at he
      subst he
      have F := Lib.hid (ansB (b := sameB sg xa xb) (a := false) (by rw [same_b HS2.out]) (next_trans bel bb))
      clear bb bel rA rS rT cA cT L2
      go_wp2
      go_ret
      exact F.out
    | true =>
      have HS2 := Lib.hid hok2
      clear hok2
      go_wp2_with fail
      refine L2.out.mono ?_
      rintro e w2 ⟨he, bb⟩
      rw [HS2.out] at he
      subst he
      replace s1 := s1.next bb
      replace s2 := s2.next bb
      replace rS := rS.next bb
      replace rT := rT.next bb
      replace bel := next_trans bel bb
      clear bb L2 cA cT rA s
      have H0 : HeadSS w (w.heap.size + 1) (w.heap.size + 2) S m c' T q cq xa xb (.int .i64 0) w2 := ⟨0, Nat.zero_le _, rfl, fun j hj => absurd hj (Nat.not_lt_zero _), rS, rT, bel⟩
      have HH := Lib.hid H0
      clear H0 s1 s2 rS rT bel
      go_wp2_with fail
      go_loopw [7] (fun i wr => HeadSS w (w.heap.size + 1) (w.heap.size + 2) S m c' T q cq xa xb i wr) (fun i _ => 24 - (intOf i).toNat)
      case atStart => exact HH.out
      case round =>
        obtain ⟨k, hk, rfl, hlow, r1, r2, hb⟩ := hrel
        clear HH
        have HLOW := Lib.hid hlow
        clear hlow
        by_cases hlt : k < 24
        · have i0 : (0 : Int) ≤ (k : Int) := by omega
          have cS : wr.cell? ⟨w.heap.size + 1, 0, none⟩ = some (.slice S m c') := r1.cell 0
          have cT : wr.cell? ⟨w.heap.size + 2, 0, none⟩ = some (.slice T q cq) := r2.cell 0
          have LG := Lib.hid (l2Gives S m c' xa k wr.drew (((h'.below hb).more hb.size).drew) HT1.out (by omega))
          have t2 := (((h2.below hb).more hb.size).drew)
          have rd1 := r1.drew
          have rd2 := r2.drew
          have hya : (givesL xa k).length ≤ 1048576 := gives_each HE1.out k
          have hyb : (givesL xb k).length ≤ 1048576 := gives_each HE2.out k
          obtain ⟨ya, hya2⟩ : ∃ ya, givesL xa k = ya := ⟨_, rfl⟩
          rw [hya2] at LG hya
          have HYA := Lib.hid hya2
          clear hya2 h h' h2
          obtain ⟨z, hz⟩ : ∃ z, decide (ya = givesL xb k) = z := ⟨_, rfl⟩
          have HZ := Lib.hid hz
          clear hz
          go_wp2_with fail
          refine wp_region_held_drew (S := (fun w' => w'.cell? ⟨w.heap.size + 1, 0, none⟩ = some (.slice S m c') ∧ w'.cell? ⟨w.heap.size + 2, 0, none⟩ = some (.slice T q cq))) (by kernel_rfl) ⟨cS, cT⟩ (fun hHeld => ?_)
          refine wpAnyH_take (i := 0) (v := ?_) rfl (by kernel_rfl) (by kernel_rfl) (by kernel_rfl) (fun _ _ _ h => h) (Or.inl ⟨by rfl, ?_⟩) (by assumption) ?_
          rotate_left 1
          · (intro w0 hSw; (try dsimp only at hSw); go_simp; try with_reducible rfl)
          try simp only [Act.put, List.setIfInBounds_toArray, List.set_cons_zero, List.set_cons_succ, List.getElem_toArray, List.getElem_cons_zero, List.getElem_cons_succ]
          refine wpAnyH_take (i := 1) (v := ?_) rfl (by kernel_rfl) (by kernel_rfl) (by kernel_rfl) (fun _ _ _ h => h) (Or.inl ⟨by rfl, ?_⟩) (by assumption) ?_
          rotate_left 1
          · (intro w0 hSw; (try dsimp only at hSw); go_simp; try with_reducible rfl)
          try simp only [Act.put, List.setIfInBounds_toArray, List.set_cons_zero, List.set_cons_succ, List.getElem_toArray, List.getElem_cons_zero, List.getElem_cons_succ]
          refine wpAnyH_take (i := 3) (v := ?_) rfl (by kernel_rfl) (by kernel_rfl) (by kernel_rfl) (fun _ _ _ h => h) (Or.inl ⟨by rfl, ?_⟩) (by assumption) ?_
          rotate_left 1
          · (intro w0 hSw; (try dsimp only at hSw); go_simp; try with_reducible rfl)
          try simp only [Act.put, List.setIfInBounds_toArray, List.set_cons_zero, List.set_cons_succ, List.getElem_toArray, List.getElem_cons_zero, List.getElem_cons_succ]
          refine wpAnyH_take (i := 4) (v := ?_) rfl (by kernel_rfl) (by kernel_rfl) (by kernel_rfl) (fun _ _ _ h => h) (Or.inl ⟨by rfl, ?_⟩) (by assumption) ?_
          rotate_left 1
          · (intro w0 hSw; (try dsimp only at hSw); go_simp; try with_reducible rfl)
          try simp only [Act.put, List.setIfInBounds_toArray, List.set_cons_zero, List.set_cons_succ, List.getElem_toArray, List.getElem_cons_zero, List.getElem_cons_succ]
          refine wpAnyH_ready (rs := [2]) (by kernel_rfl) (by simp) (AllReadyH.cons rfl (fun K hK => ?_) AllReadyH.nil)
          go_simp
          refine LG.out.mono ?_; rintro e w3 ⟨X, xn, xc, rfl, oa, b1⟩; have u1 := rd1.next b1; have u2 := rd2.next b1; have x1 : w3.cell? ⟨w.heap.size + 1, 0, none⟩ = some (.slice S m c') := u1.cell 0; have x2 : w3.cell? ⟨w.heap.size + 2, 0, none⟩ = some (.slice T q cq) := u2.cell 0; go_wp2_with fail
          refine hK.out _ _ ?_ (fun hHeld => ?_)
          · first | assumption | (dsimp only; assumption) | exact ⟨by assumption, by assumption⟩
          clear hK K
          try simp only [Act.put, List.setIfInBounds_toArray, List.set_cons_zero, List.set_cons_succ, List.getElem_toArray, List.getElem_cons_zero, List.getElem_cons_succ]
          refine wpAnyH_ready (rs := [5]) (by kernel_rfl) (by simp) (AllReadyH.cons rfl (fun K hK => ?_) AllReadyH.nil)
          go_simp
          refine (l2Gives T q cq xb k w3 (t2.next b1) HT2.out (by omega)).mono ?_; rintro e w4 ⟨Y, yn, yc, rfl, ob, b2⟩; have oa2 := oa.next b2; have v1 := u1.next b2; have v2 := u2.next b2; have x1 : w4.cell? ⟨w.heap.size + 1, 0, none⟩ = some (.slice S m c') := v1.cell 0; have x2 : w4.cell? ⟨w.heap.size + 2, 0, none⟩ = some (.slice T q cq) := v2.cell 0; go_wp2_with fail
          refine hK.out _ _ ?_ (fun hHeld => ?_)
          · first | assumption | (dsimp only; assumption) | exact ⟨by assumption, by assumption⟩
          clear hK K
          try simp only [Act.put, List.setIfInBounds_toArray, List.set_cons_zero, List.set_cons_succ, List.getElem_toArray, List.getElem_cons_zero, List.getElem_cons_succ]
          refine wpAnyH_ready (rs := [6]) (by kernel_rfl) (by simp) (AllReadyH.cons rfl (fun K hK => ?_) AllReadyH.nil)
          go_simp
          refine (specSame X Y xn yn xc yc ya (givesL xb k) w4 (Own.seg oa2) (Own.seg ob) (by rw [Own.len oa]; exact hya) (by rw [Own.len ob]; exact hyb)).mono ?_; rintro e w5 ⟨he, d, rfl⟩; rw [HZ.out] at he; subst he; have x1 : (w4.drewN d).cell? ⟨w.heap.size + 1, 0, none⟩ = some (.slice S m c') := (v1.drewN d).cell 0; have x2 : (w4.drewN d).cell? ⟨w.heap.size + 2, 0, none⟩ = some (.slice T q cq) := (v2.drewN d).cell 0; go_wp2_with fail
          refine hK.out _ _ ?_ (fun hHeld => ?_)
          · first | assumption | (dsimp only; assumption) | exact ⟨by assumption, by assumption⟩
          clear hK K
          try simp only [Act.put, List.setIfInBounds_toArray, List.set_cons_zero, List.set_cons_succ, List.getElem_toArray, List.getElem_cons_zero, List.getElem_cons_succ]
          refine wpAnyH_take (i := 7) (v := ?_) rfl (by kernel_rfl) (by kernel_rfl) (by kernel_rfl) (fun _ _ _ h => h) (Or.inl ⟨by rfl, ?_⟩) (by assumption) ?_
          rotate_left 1
          · (intro w0 hSw; (try dsimp only at hSw); go_simp; try with_reducible rfl)
          try simp only [Act.put, List.setIfInBounds_toArray, List.set_cons_zero, List.set_cons_succ, List.getElem_toArray, List.getElem_cons_zero, List.getElem_cons_succ]
          refine wpAnyH_done (by kernel_rfl) ?_ _
          have HB : Hid (Below wr.heap.size wr (w4.drewN d)) := Lib.hid (next_trans (drew_below wr) (next_trans b1 (next_trans b2 (drewN_below _ d))))
          clear b1 b2 oa oa2 ob u1 u2 v1 v2 x1 x2 cS cT rd1 rd2 t2 LG
          cases z with
          | true =>
            have S1 := Lib.hid (headSS_step (xa := xa) (xb := xb) hlt HLOW.out (HYA.out.trans (of_decide_eq_true HZ.out)) r1 r2 hb HB.out)
            clear r1 r2 hb
            go_wp2
            go_roundw
            case rel => exact S1.out
            case measure => simp [intOf]; omega
          | false =>
            have F := Lib.hid (ansB (b := sameB sg xa xb) (a := false) (by rw [same_ab HS.out HS2.out, sameG_no hlt (by rw [HYA.out]; exact of_decide_eq_false HZ.out)]) (next_trans hb HB.out))
            clear r1 r2 hb
            go_wp2
            go_ret
            exact F.out
        · have F := Lib.hid (ansB (b := sameB sg xa xb) (a := true) (by rw [same_ab HS.out HS2.out, sameG_yes (fun i hi => HLOW.out i (by omega))]) hb)
          clear r1 r2 hb h h' h2
          go_wp2
          go_ret
          exact F.out

set_option maxHeartbeats 8000000 in
theorem implSameSubst (A S T : Option Addr) (n c m c' q cq : Nat) (sg : List Int) (xa xb : List (List Int)) (w : World) (h : Seg w w.heap.size A n sg) (h' : Segs w w.heap.size S m xa) (h2 : Segs w w.heap.size T q xb) (hn : n ≤ 1048576) (ht : tot xa ≤ 1048576) (ht2 : tot xb ≤ 1048576) :
    Calls Try.prog 24 #[.agg #[.slice A n c], .agg #[.slice S m c'], .agg #[.slice T q cq]] w (AnsB w (sameB sg xa xb)) := by
  obtain ⟨W, hW, rA, rS, rT, bel⟩ := boxesSS w A n c S m c' T q cq
  have HW := Lib.hid hW
  have hm : m ≤ 1048576 := tot_len h'.1 ht
  have hq : q ≤ 1048576 := tot_len h2.1 ht2
  have HE1 := Lib.hid (tot_each ht)
  have HE2 := Lib.hid (tot_each ht2)
  have HT1 := Lib.hid ht
  have HT2 := Lib.hid ht2
  have s := h.next bel
  have s1 := h'.next bel
  have s2 := h2.next bel
  have L := Lib.hid (implSubstOk A S n c m c' sg xa W s s1 hn ht)
  clear hW ht ht2
  cases hok : substOkB sg xa with
  | false =>
    have HS := Lib.hid hok
    clear hok s s1 s2 h h' h2
    go_enter Try.func24, Try.ntmps24
    go_wp2_with fail
    rw [← HW.out]
    refine L.out.mono ?_
    rintro e w1 ⟨he, bb⟩
    rw [HS.out] at he
    subst he
    have F := Lib.hid (ansB (b := sameB sg xa xb) (a := false) (by rw [same_a HS.out]) (next_trans bel bb))
    clear bb bel rA rS rT
    go_wp2
    go_ret
    exact F.out
  | true =>
    have HS := Lib.hid hok
    clear hok
    go_enter Try.func24, Try.ntmps24
    go_wp2_with fail
    rw [← HW.out]
    refine L.out.mono ?_
    rintro e w1 ⟨he, bb⟩
    rw [HS.out] at he
    subst he
    replace s := s.next bb
    replace s1 := s1.next bb
    replace s2 := s2.next bb
    replace rA := rA.next bb
    replace rS := rS.next bb
    replace rT := rT.next bb
    replace bel := next_trans bel bb
    have cA : w1.cell? ⟨w.heap.size, 0, none⟩ = some (.slice A n c) := rA.cell 0
    have cT : w1.cell? ⟨w.heap.size + 2, 0, none⟩ = some (.slice T q cq) := rT.cell 0
    have L2 := Lib.hid (implSubstOk A T n c q cq sg xb w1 s s2 hn HT2.out)
    clear bb L
    cases hok2 : substOkB sg xb with
    | false =>
      have HS2 := Lib.hid hok2
      clear hok2 s s1 s2 h h' h2
      go_wp2_with fail
      refine L2.out.mono ?_
      rintro e w2 ⟨he, bb⟩
      rw [HS2.out] at he
      subst he
      have F := Lib.hid (ansB (b := sameB sg xa xb) (a := false) (by rw [same_b HS2.out]) (next_trans bel bb))
      clear bb bel rA rS rT cA cT L2
      go_wp2
      go_ret
      exact F.out
    | true =>
      have HS2 := Lib.hid hok2
      clear hok2
      go_wp2_with fail
      refine L2.out.mono ?_
      rintro e w2 ⟨he, bb⟩
      rw [HS2.out] at he
      subst he
      replace s1 := s1.next bb
      replace s2 := s2.next bb
      replace rS := rS.next bb
      replace rT := rT.next bb
      replace bel := next_trans bel bb
      clear bb L2 cA cT rA s
      have cS : w2.cell? ⟨w.heap.size + 1, 0, none⟩ = some (.slice S m c') := rS.cell 0
      have cT : w2.cell? ⟨w.heap.size + 2, 0, none⟩ = some (.slice T q cq) := rT.cell 0
      have d1 := rS.drew
      have d2 := rT.drew
      have sd1 := s1.drew
      have sd2 := s2.drew
      have bd := bel.drew
      clear rS rT s1 s2 bel
      go_wp2_with fail
      refine wp_region_held_drew (S := (fun w' => w'.cell? ⟨w.heap.size + 1, 0, none⟩ = some (.slice S m c') ∧ w'.cell? ⟨w.heap.size + 2, 0, none⟩ = some (.slice T q cq))) (by kernel_rfl) ⟨cS, cT⟩ (fun hHeld => ?_)
      refine wpAnyH_take (i := 0) (v := ?_) rfl (by kernel_rfl) (by kernel_rfl) (by kernel_rfl) (fun _ _ _ h => h) (Or.inl ⟨by rfl, ?_⟩) (by assumption) ?_
      rotate_left 1
      · (intro w0 hSw; (try dsimp only at hSw); go_simp; try with_reducible rfl)
      try simp only [Act.put, List.setIfInBounds_toArray, List.set_cons_zero, List.set_cons_succ, List.getElem_toArray, List.getElem_cons_zero, List.getElem_cons_succ]
      refine wpAnyH_take (i := 2) (v := ?_) rfl (by kernel_rfl) (by kernel_rfl) (by kernel_rfl) (fun _ _ _ h => h) (Or.inl ⟨by rfl, ?_⟩) (by assumption) ?_
      rotate_left 1
      · (intro w0 hSw; (try dsimp only at hSw); go_simp; try with_reducible rfl)
      try simp only [Act.put, List.setIfInBounds_toArray, List.set_cons_zero, List.set_cons_succ, List.getElem_toArray, List.getElem_cons_zero, List.getElem_cons_succ]
      refine wpAnyH_ready (rs := [1]) (by kernel_rfl) (by simp) (AllReadyH.cons rfl (fun K hK => ?_) AllReadyH.nil)
      go_simp
      refine (lookupB S m c' w2.drew).mono ?_; rintro e w3 ⟨rfl, ra, b3⟩; have u1 := d1.next b3; have u2 := d2.next b3; have x1 : w3.cell? ⟨w.heap.size + 1, 0, none⟩ = some (.slice S m c') := u1.cell 0; have x2 : w3.cell? ⟨w.heap.size + 2, 0, none⟩ = some (.slice T q cq) := u2.cell 0; go_wp2_with fail
      refine hK.out _ _ ?_ (fun hHeld => ?_)
      · first | assumption | (dsimp only; assumption) | exact ⟨by assumption, by assumption⟩
      clear hK K
      try simp only [Act.put, List.setIfInBounds_toArray, List.set_cons_zero, List.set_cons_succ, List.getElem_toArray, List.getElem_cons_zero, List.getElem_cons_succ]
      refine wpAnyH_ready (rs := [3]) (by kernel_rfl) (by simp) (AllReadyH.cons rfl (fun K hK => ?_) AllReadyH.nil)
      go_simp
      refine (lookupB T q cq w3).mono ?_; rintro e w4 ⟨rfl, rb, b4⟩; have x1 : w4.cell? ⟨w.heap.size + 1, 0, none⟩ = some (.slice S m c') := (u1.next b4).cell 0; have x2 : w4.cell? ⟨w.heap.size + 2, 0, none⟩ = some (.slice T q cq) := (u2.next b4).cell 0; clear u1 u2; go_wp2_with fail
      refine hK.out _ _ ?_ (fun hHeld => ?_)
      · first | assumption | (dsimp only; assumption) | exact ⟨by assumption, by assumption⟩
      clear hK K
      try simp only [Act.put, List.setIfInBounds_toArray, List.set_cons_zero, List.set_cons_succ, List.getElem_toArray, List.getElem_cons_zero, List.getElem_cons_succ]
      refine wpAnyH_take (i := 4) (v := ?_) rfl (by kernel_rfl) (by kernel_rfl) (by kernel_rfl) (fun _ _ _ h => h) (Or.inl ⟨by rfl, ?_⟩) (by assumption) ?_
      rotate_left 1
      · (intro w0 hSw; (try dsimp only at hSw); go_simp; try with_reducible rfl)
      try simp only [Act.put, List.setIfInBounds_toArray, List.set_cons_zero, List.set_cons_succ, List.getElem_toArray, List.getElem_cons_zero, List.getElem_cons_succ]
      refine wpAnyH_take (i := 5) (v := ?_) rfl (by kernel_rfl) (by kernel_rfl) (by kernel_rfl) (fun _ _ _ h => h) (Or.inl ⟨by rfl, ?_⟩) (by assumption) ?_
      rotate_left 1
      · (intro w0 hSw; (try dsimp only at hSw); go_simp; try with_reducible rfl)
      try simp only [Act.put, List.setIfInBounds_toArray, List.set_cons_zero, List.set_cons_succ, List.getElem_toArray, List.getElem_cons_zero, List.getElem_cons_succ]
      refine wpAnyH_done (by kernel_rfl) ?_ _
      have H0 : HeadSS w w2.heap.size w3.heap.size S m c' T q cq xa xb (.int .i64 0) w4 := ⟨0, Nat.zero_le _, rfl, fun j hj => absurd hj (Nat.not_lt_zero _), ra.next b4, rb, next_trans (next_trans bd b3) b4⟩
      have HH := Lib.hid H0
      have G1 := Lib.hid ((sd1.next b3).next b4)
      have G2 := Lib.hid ((sd2.next b3).next b4)
      clear H0 sd1 sd2 d1 d2 bd b3 b4 ra rb cS cT x1 x2
      go_wp2_with fail
      go_loopw [24] (fun i wr => HeadSS w w2.heap.size w3.heap.size S m c' T q cq xa xb i wr) (fun i _ => 24 - (intOf i).toNat)
      case atStart => exact HH.out
      case round =>
        obtain ⟨k, hk, rfl, hlow, r1, r2, hb⟩ := hrel
        clear HH
        have HLOW := Lib.hid hlow
        clear hlow
        by_cases hlt : k < 24
        · have i0 : (0 : Int) ≤ (k : Int) := by omega
          have LA : Calls Try.prog 112 #[.int .i64 (k : Int), .pointer (some ⟨w2.heap.size, 0, none⟩)] wr (AnsLook wr.heap.size wr (givesL xa k)) := lookSubst w2.heap.size S m c' xa wr r1 ((h'.below hb).more hb.size) hm wr k (Below.refl _ _) hlt
          have t2 := (h2.below hb).more hb.size
          have hya : (givesL xa k).length ≤ 1048576 := gives_each HE1.out k
          have hyb : (givesL xb k).length ≤ 1048576 := gives_each HE2.out k
          obtain ⟨ya, hya2⟩ : ∃ ya, givesL xa k = ya := ⟨_, rfl⟩
          rw [hya2] at LA hya
          have HYA := Lib.hid hya2
          clear hya2 h h' h2
          obtain ⟨z, hz⟩ : ∃ z, decide (ya = givesL xb k) = z := ⟨_, rfl⟩
          have HZ := Lib.hid hz
          clear hz
          replace LA := Lib.hid LA
          go_wp2_with fail
          refine LA.out.mono ?_
          rintro e w5 ⟨X, xn, xc, rfl, oa, -, -, b1⟩
          have LB : Calls Try.prog 112 #[.int .i64 (k : Int), .pointer (some ⟨w3.heap.size, 0, none⟩)] w5 (AnsLook w5.heap.size w5 (givesL xb k)) := lookSubst w3.heap.size T q cq xb w5 (r2.next b1) (t2.next b1) hq w5 k (Below.refl _ _) hlt
          replace LB := Lib.hid LB
          clear t2
          go_wp2_with fail
          refine LB.out.mono ?_
          rintro e w6 ⟨Y, yn, yc, rfl, ob, -, -, b2⟩
          have oa2 := oa.next b2
          go_wp2_with fail
          refine (implSame X Y xn yn xc yc ya (givesL xb k) w6 oa2 ob (by rw [← oa.1]; exact hya) (by rw [← ob.1]; exact hyb)).mono ?_
          rintro e w7 ⟨he, d, rfl⟩
          rw [HZ.out] at he
          subst he
          have HB := Lib.hid (next_trans b1 (next_trans b2 (drewN_below _ d)))
          clear b1 b2 oa oa2 ob LA LB
          cases z with
          | true =>
            have S1 := Lib.hid (headSS_step (xa := xa) (xb := xb) hlt HLOW.out (HYA.out.trans (of_decide_eq_true HZ.out)) r1 r2 hb HB.out)
            clear r1 r2 hb
            go_wp2
            go_roundw
            case rel => exact S1.out
            case measure => simp [intOf]; omega
          | false =>
            have F := Lib.hid (ansB (b := sameB sg xa xb) (a := false) (by rw [same_ab HS.out HS2.out, sameG_no hlt (by rw [HYA.out]; exact of_decide_eq_false HZ.out)]) (next_trans hb HB.out))
            clear r1 r2 hb
            go_wp2
            go_ret
            exact F.out
        · have F := Lib.hid (ansB (b := sameB sg xa xb) (a := true) (by rw [same_ab HS.out HS2.out, sameG_yes (fun i hi => HLOW.out i (by omega))]) hb)
          clear r1 r2 hb h h' h2
          go_wp2
          go_ret
          exact F.out
end Go.Proofs.Ytkmhnkljigncmaa.sameSubst
end

section
/-
  PLAIN MATHEMATICS of plain substitutions: the plain form is valid, replaces in the same way, and is unique; of compositions: they are valid and fill as one after the other. Conditions: those named. By an AI agent.
-/
namespace Go.Proofs.Ytkmhnkljigncmaa.plainFacts
open Go.RowKit Go.Proofs.Ytkmhnkljigncmaa.base Go.Proofs.Ytkmhnkljigncmaa.ints Go.Proofs.Ytkmhnkljigncmaa.sig Go.Proofs.Ytkmhnkljigncmaa.term Go.Proofs.Ytkmhnkljigncmaa.termOk Go.Proofs.Ytkmhnkljigncmaa.termFacts Go.Proofs.Ytkmhnkljigncmaa.fillMath Go.Proofs.Ytkmhnkljigncmaa.plainMath Go.Proofs.Ytkmhnkljigncmaa.plainOf Go.Proofs.Ytkmhnkljigncmaa.substOk Go.Proofs.Ytkmhnkljigncmaa.gives Go.Proofs.Ytkmhnkljigncmaa.sameSubst Go.Proofs.Ytkmhnkljigncmaa.compMath Go.Proofs.Ytkmhnkljigncmaa.filled

/-- a plain form gives what its look-up gives -/
theorem gives_plain {L : Nat → List Int} {m i : Nat} (hpos : ∀ i, 1 ≤ (L i).length) (hout : ∀ i, m ≤ i → L i = vt i) : givesL (plainL L m) i = L i := by
  have e := plain_get L m i
  by_cases h : i < m
  · rw [rows_get h] at e
    unfold bare at e
    by_cases h2 : L i = vt i
    · rw [if_pos h2] at e
      rw [gives_var (by rw [e]; rfl), h2]
    · rw [if_neg h2] at e
      rw [gives_term (by rw [e]; have := hpos i; omega), e]
  · have e0 : (rowsL L m).getD i [] = [] := by simp [List.getD, rows_len, h]
    rw [e0] at e
    rw [gives_var (by rw [e]; rfl), hout i (by omega)]
theorem plain_gives {ss : List (List Int)} (i : Nat) : givesL (plainL (givesL ss) ss.length) i = givesL ss i :=
  gives_plain (fun j => gives_pos ss j) (fun j hj => gives_out (by omega))
/-- a plain form is valid, if its look-up gives terms -/
theorem plain_valid {sg : List Int} {L : Nat → List Int} {m : Nat} (hs : sigOkB sg = true) (hm : m ≤ 24) (hok : ∀ i, i < m → termOkB sg (L i) = true) : substOkB sg (plainL L m) = true := by
  have hl := plain_len L m
  refine subst_good hs (by omega) (fun j hj => ?_)
  rw [plain_get, rows_get (by omega)]
  unfold bare goodB
  split
  · simp
  · rw [hok j (by omega)]
    simp
theorem plain_ok {sg : List Int} {ss : List (List Int)} (h : substOkB sg ss = true) : substOkB sg (plainL (givesL ss) ss.length) = true :=
  plain_valid (substOk_parts h).1 (substOk_parts h).2.1 (fun i hi => gives_ok h (by have := (substOk_parts h).2.1; omega))
theorem plain_eq_24 {ss : List (List Int)} (h : ss.length ≤ 24) : plainL (givesL ss) ss.length = plainL (givesL ss) 24 := (plain_24 h (fun i hi => gives_out (by omega))).symm
/-- two valid substitutions replace in the same way if and only if their plain forms are equal -/
theorem plain_iff {sg : List Int} {a b : List (List Int)} (ha : substOkB sg a = true) (hb : substOkB sg b = true) : sameB sg a b = decide (plainL (givesL a) a.length = plainL (givesL b) b.length) := by
  rw [same_ab ha hb]
  by_cases h : sameG a b = true
  · rw [h]
    symm
    rw [decide_eq_true_eq, plain_eq_24 (substOk_parts ha).2.1, plain_eq_24 (substOk_parts hb).2.1]
    exact plain_ext (fun i hi => sameG_iff.1 h i hi)
  · have h0 : sameG a b = false := by simpa using h
    rw [h0]
    symm
    rw [decide_eq_false_iff_not]
    intro e
    refine h (sameG_iff.2 (fun i _ => ?_))
    rw [← plain_gives (ss := a) i, ← plain_gives (ss := b) i, e]
theorem plain_self {sg : List Int} {a : List (List Int)} (ha : substOkB sg a = true) : sameB sg (plainL (givesL a) a.length) a = true := by
  rw [same_ab (plain_ok ha) ha]
  exact sameG_iff.2 (fun i _ => plain_gives i)
/-- nothing, or its last term is there -/
theorem plain_last (L : Nat → List Int) (m : Nat) : (plainL L m).length = 0 ∨ 0 < ((plainL L m).getD ((plainL L m).length - 1) []).length := by
  unfold plainL
  rcases strip_end (rowsL L m) with h | ⟨q, h1, h2⟩
  · exact .inl (by rw [h]; rfl)
  · refine .inr ?_
    rw [h1, Nat.add_sub_cancel]
    exact List.length_pos_iff.2 h2
/-- the composition, as a substitution -/
theorem comp_gives {sg : List Int} {ss us : List (List Int)} (h : composedB sg ss us = true) (i : Nat) : givesL (composedI sg ss us) i = if i < 24 then compL us ss i else vt i := by
  rw [composed_yes h]
  have hs : substOkB sg ss = true := by unfold composedB at h; simp at h; exact h.1
  have hu : substOkB sg us = true := by unfold composedB at h; simp at h; exact h.2.1
  have e : compL us ss = fun i => compL us ss i := rfl
  have h1 := gives_plain (L := compL us ss) (m := 24) (i := i) (fun j => comp_pos us ss j) (fun j hj => comp_out (by have := (substOk_parts hs).2.1; omega) (by have := (substOk_parts hu).2.1; omega))
  rw [h1]
  split
  · rfl
  · rename_i h2
    exact comp_out (by have := (substOk_parts hs).2.1; omega) (by have := (substOk_parts hu).2.1; omega)
theorem comp_ok {sg : List Int} {ss us : List (List Int)} (h : composedB sg ss us = true) : substOkB sg (composedI sg ss us) = true := by
  have hs : substOkB sg ss = true := by unfold composedB at h; simp at h; exact h.1
  have hu : substOkB sg us = true := by unfold composedB at h; simp at h; exact h.2.1
  have hc : compOk us ss = true := by unfold composedB at h; simp at h; exact h.2.2
  rw [composed_yes h]
  refine plain_valid (substOk_parts hs).1 (Nat.le_refl _) (fun i hi => ?_)
  unfold compL
  refine fill_term (gives_ok hs hi) (fun x hx h0 => gives_ok hu ?_) (compOk_iff.1 hc i hi)
  have := term_mem (gives_ok hs hi) hx
  omega
/-- filling by the composition is filling twice -/
theorem comp_fill {sg : List Int} {ss us : List (List Int)} {t : List Int} (h : composedB sg ss us = true) (ht : termOkB sg t = true) : fillL (givesL (composedI sg ss us)) t = fillL (givesL us) (fillL (givesL ss) t) := by
  rw [fill_fill]
  refine fill_ext (fun x hx h0 => ?_)
  rw [comp_gives h]
  have := term_mem ht hx
  rw [if_pos (by omega)]
  rfl
/-- both ways give the same -/
theorem comp_facts {sg : List Int} {ss us : List (List Int)} {t : List Int} (h : composedB sg ss us = true) (h1 : filledB sg ss t = true) (h2 : filledB sg us (filledL sg ss t) = true) :
    substOkB sg (composedI sg ss us) = true ∧ filledB sg (composedI sg ss us) t = true ∧ filledL sg (composedI sg ss us) t = filledL sg us (filledL sg ss t) := by
  have a1 : termOkB sg t = true := by unfold filledB at h1; simp at h1; exact h1.2.1
  have e1 : filledL sg ss t = fillL (givesL ss) t := by unfold filledL; rw [if_pos h1]
  have e2 : filledL sg us (filledL sg ss t) = fillL (givesL us) (fillL (givesL ss) t) := by unfold filledL; rw [if_pos (by have := h2; unfold filledL at this; exact this), if_pos h1]
  have a2 : fitsB us (filledL sg ss t) = true := by unfold filledB at h2; simp at h2; exact h2.2.2
  have hb : filledB sg (composedI sg ss us) t = true := by
    rw [filled_b (comp_ok h) a1]
    unfold fitsB at a2 ⊢
    rw [comp_fill h a1, ← e1]
    exact a2
  refine ⟨comp_ok h, hb, ?_⟩
  rw [e2]
  unfold filledL
  rw [if_pos hb]
  exact comp_fill h a1
end Go.Proofs.Ytkmhnkljigncmaa.plainFacts
end

section
/-
  PLAIN MATHEMATICS of renamed terms: a renamed term is a term, its variables are 0, 1, .., renamed again it stays. Conditions: none but those named. By an AI agent.
-/
namespace Go.Proofs.Ytkmhnkljigncmaa.renPure
open Go.Proofs.Ytkmhnkljigncmaa.sig Go.Proofs.Ytkmhnkljigncmaa.term Go.Proofs.Ytkmhnkljigncmaa.termOk Go.Proofs.Ytkmhnkljigncmaa.termFacts Go.Proofs.Ytkmhnkljigncmaa.varsMath Go.Proofs.Ytkmhnkljigncmaa.fillMath Go.Proofs.Ytkmhnkljigncmaa.renMath

theorem pigeon : ∀ (n : Nat) (l : List Nat), l.Nodup → (∀ x ∈ l, x < n) → l.length ≤ n
  | 0, l, _, h => by
    cases l with
    | nil => simp
    | cons a r => exact absurd (h a (List.mem_cons_self ..)) (Nat.not_lt_zero _)
  | n + 1, l, hd, h => by
    have h1 := pigeon n (l.erase n) (hd.erase n) (fun x hx => by
      have h2 := (hd.mem_erase_iff).1 hx
      have := h x h2.2
      omega)
    have h3 : l.length ≤ (l.erase n).length + 1 := by
      rw [List.length_erase]
      split <;> omega
    omega

theorem map_nodup {α β : Type} {f : α → β} : ∀ {l : List α}, l.Nodup → (∀ a ∈ l, ∀ b ∈ l, f a = f b → a = b) → (l.map f).Nodup
  | [], _, _ => List.nodup_nil
  | a :: r, h, hf => by
    have h1 := List.nodup_cons.1 h
    rw [List.map_cons, List.nodup_cons]
    refine ⟨fun hm => ?_, map_nodup h1.2 (fun x hx y hy => hf x (List.mem_cons_of_mem _ hx) y (List.mem_cons_of_mem _ hy))⟩
    obtain ⟨b, hb, e⟩ := List.mem_map.1 hm
    have := hf b (List.mem_cons_of_mem _ hb) a (List.mem_cons_self ..) e
    subst this
    exact h1.1 hb

/-- no more than 24 variables stand in a term -/
theorem order_24 {sg t : List Int} (h : termOkB sg t = true) : (orderL t).length ≤ 24 := by
  have h1 := pigeon 24 ((orderL t).map fun x => (-1 - x).toNat) (map_nodup (order_nodup t) (fun a ha b hb e => by
    have := (order_mem.1 ha).2
    have := (order_mem.1 hb).2
    omega)) (fun x hx => by
      obtain ⟨y, hy, rfl⟩ := List.mem_map.1 hx
      have h2 := order_mem.1 hy
      have h3 := term_mem h h2.1
      omega)
  simpa using h1

theorem ren_fill (t : List Int) (o : List Int) : fillL (fun i => vt (idx o (-1 - (i : Int)))) t = t.map (ren o) := by
  induction t with
  | nil => rfl
  | cons x r ih =>
    rw [fill_cons, ih, List.map_cons]
    unfold rep ren
    by_cases h : 0 ≤ x
    · rw [if_pos h, if_neg (by omega)]; rfl
    · rw [if_neg h, if_pos (by omega)]
      show vt (idx o (-1 - (((-1 - x).toNat : Nat) : Int))) ++ _ = _
      rw [show (-1 - (((-1 - x).toNat : Nat) : Int) : Int) = x by omega]
      rfl

theorem ren_ok {sg t : List Int} (h : termOkB sg t = true) : termOkB sg (renL t) = true := by
  have e : renL t = fillL (fun i => vt (idx (orderL t) (-1 - (i : Int)))) t := (ren_fill t (orderL t)).symm
  rw [e]
  refine fill_term h (fun x hx h0 => ?_) (by rw [← e, ren_len]; exact (term_len h).2)
  show termOkB sg (vt (idx (orderL t) (-1 - (((-1 - x).toNat : Nat) : Int)))) = true
  rw [show (-1 - (((-1 - x).toNat : Nat) : Int) : Int) = x by omega]
  refine var_term (term_parts h).1 ?_
  have h1 := idx_lt (order_mem.2 ⟨hx, h0⟩)
  have h2 := order_24 h
  omega

theorem ren_yes {o : List Int} {x : Int} (h : x < 0) : ren o x = -1 - (idx o x : Int) := by unfold ren; rw [if_pos h]
theorem ren_no {o : List Int} {x : Int} (h : ¬ x < 0) : ren o x = x := by unfold ren; rw [if_neg h]
theorem ren_neg {o : List Int} {x : Int} : ren o x < 0 ↔ x < 0 := by
  unfold ren
  split
  · omega
  · omega

theorem ren_inj {t : List Int} {a b : Int} (ha : a ∈ t) (hb : b ∈ t) (h : ren (orderL t) a = ren (orderL t) b) : a = b := by
  have n1 := @ren_neg (orderL t) a
  have n2 := @ren_neg (orderL t) b
  by_cases h0 : a < 0
  · have h1 : b < 0 := n2.1 (h ▸ n1.2 h0)
    unfold ren at h
    rw [if_pos h0, if_pos h1] at h
    have e : idx (orderL t) a = idx (orderL t) b := by omega
    have e1 := idx_get (order_mem.2 ⟨ha, h0⟩)
    have e2 := idx_get (order_mem.2 ⟨hb, h1⟩)
    rw [← e1, ← e2, e]
  · have h1 : ¬ b < 0 := fun hb0 => h0 (n1.1 (h ▸ n2.2 hb0))
    unfold ren at h
    rwa [if_neg h0, if_neg h1] at h

/-- the variables of a renamed term -/
theorem idx_map_on {f : Int → Int} {o : List Int} {x : Int} (hx : x ∈ o) (hf : ∀ a ∈ o, f a = f x → a = x) : idx (o.map f) (f x) = idx o x := by
  induction o with
  | nil => cases hx
  | cons y r ih =>
    rw [List.map_cons, idx, idx]
    by_cases h : y = x
    · rw [if_pos (by rw [h]), if_pos h]
    · rw [if_neg (fun e => h (hf y (List.mem_cons_self ..) e)), if_neg h]
      rcases List.mem_cons.1 hx with e | e
      · exact absurd e.symm h
      · rw [ih e (fun a ha => hf a (List.mem_cons_of_mem _ ha))]

theorem fold_map {f : Int → Int} {t : List Int} (hf : ∀ a ∈ t, ∀ b ∈ t, f a = f b → a = b) (hn : ∀ x, f x < 0 ↔ x < 0) : ∀ (l o : List Int), (∀ x ∈ l, x ∈ t) → (∀ x ∈ o, x ∈ t) → (l.map f).foldl extV (o.map f) = (l.foldl extV o).map f
  | [], _, _, _ => rfl
  | x :: l, o, hl, ho => by
    have hx := hl x (List.mem_cons_self ..)
    rw [List.map_cons, List.foldl_cons, List.foldl_cons]
    have e : extV (o.map f) (f x) = (extV o x).map f := by
      unfold extV
      by_cases h : x < 0
      · rw [if_pos ((hn x).2 h), if_pos h]
        unfold ext
        by_cases hm : x ∈ o
        · rw [if_pos hm, if_pos (List.mem_map.2 ⟨x, hm, rfl⟩)]
        · rw [if_neg hm, if_neg, List.map_append]
          · rfl
          · intro h2
            obtain ⟨y, hy, e⟩ := List.mem_map.1 h2
            exact hm (hf y (ho y hy) x hx e ▸ hy)
      · rw [if_neg (fun h2 => h ((hn x).1 h2)), if_neg h]
    rw [e]
    refine fold_map hf hn l (extV o x) (fun y hy => hl y (List.mem_cons_of_mem _ hy)) (fun y hy => ?_)
    rcases extV_mem.1 hy with ⟨rfl, _⟩ | h
    · exact hx
    · exact ho y h

theorem order_ren (t : List Int) : orderL (renL t) = (orderL t).map (ren (orderL t)) :=
  fold_map (t := t) (f := ren (orderL t)) (fun a ha b hb h => ren_inj ha hb h) (fun x => ren_neg) t [] (fun _ h => h) (fun x h => by cases h)

/-- renamed twice is renamed -/
theorem ren_ren (t : List Int) : renL (renL t) = renL t := by
  show (renL t).map (ren (orderL (renL t))) = renL t
  rw [order_ren]
  show (t.map (ren (orderL t))).map _ = t.map (ren (orderL t))
  rw [List.map_map]
  refine List.map_congr_left (fun x hx => ?_)
  show ren ((orderL t).map (ren (orderL t))) (ren (orderL t) x) = ren (orderL t) x
  by_cases h : x < 0
  · have h1 := (@ren_neg (orderL t) x).2 h
    have hm := order_mem.2 ⟨hx, h⟩
    have e := idx_map_on (f := ren (orderL t)) hm (fun a ha e => ren_inj (order_mem.1 ha).1 hx e)
    rw [ren_yes h1, e, ren_yes h]
  · have h1 : ¬ ren (orderL t) x < 0 := fun e => h (ren_neg.1 e)
    rw [ren_no h1]
end Go.Proofs.Ytkmhnkljigncmaa.renPure
end

section
/-
  PLAIN MATHEMATICS for the laws of chapter 5: what follows from what unification tells ('IsU'), from what generalisation tells ('IsG'), from what terms that are met tell ('met_facts'). Conditions: none. By an AI agent.
-/
namespace Go.Proofs.Ytkmhnkljigncmaa.unifLaw
open Go.Proofs.Ytkmhnkljigncmaa.sig Go.Proofs.Ytkmhnkljigncmaa.term Go.Proofs.Ytkmhnkljigncmaa.termOk Go.Proofs.Ytkmhnkljigncmaa.termFacts Go.Proofs.Ytkmhnkljigncmaa.endAt Go.Proofs.Ytkmhnkljigncmaa.sub Go.Proofs.Ytkmhnkljigncmaa.termMath Go.Proofs.Ytkmhnkljigncmaa.fillMath Go.Proofs.Ytkmhnkljigncmaa.posMath Go.Proofs.Ytkmhnkljigncmaa.renMath Go.Proofs.Ytkmhnkljigncmaa.renPure Go.Proofs.Ytkmhnkljigncmaa.segsHelp Go.Proofs.Ytkmhnkljigncmaa.substOk Go.Proofs.Ytkmhnkljigncmaa.gives Go.Proofs.Ytkmhnkljigncmaa.plainMath Go.Proofs.Ytkmhnkljigncmaa.plainOf Go.Proofs.Ytkmhnkljigncmaa.plainFacts Go.Proofs.Ytkmhnkljigncmaa.filled Go.Proofs.Ytkmhnkljigncmaa.sameSubst Go.Proofs.Ytkmhnkljigncmaa.compMath Go.Proofs.Ytkmhnkljigncmaa.matchMath Go.Proofs.Ytkmhnkljigncmaa.unifMath Go.Proofs.Ytkmhnkljigncmaa.genMath

/-! ### unification -/
theorem sub_gives {sg : List Int} {L : Nat → List Int} (h : Sub sg L) (i : Nat) : givesL (plainL L 24) i = L i := gives_plain h.pos h.out
theorem sub_valid {sg : List Int} {L : Nat → List Int} (hs : sigOkB sg = true) (h : Sub sg L) (he : ∀ i, (L i).length ≤ 60) : substOkB sg (plainL L 24) = true :=
  plain_valid hs (Nat.le_refl _) (fun i hi => term_mk hs (he i) (h.trm i hi))
theorem gives_sub {sg : List Int} {us : List (List Int)} (h : substOkB sg us = true) : Sub sg (givesL us) :=
  ⟨fun _ hi => (term_parts (gives_ok h hi)).2.2, fun i hi => gives_out (by have := (substOk_parts h).2.1; omega)⟩
theorem fill_plain {sg : List Int} {L : Nat → List Int} (h : Sub sg L) (t : List Int) : fillL (givesL (plainL L 24)) t = fillL L t := fill_ext (fun _ _ _ => sub_gives h _)
theorem filled_plain {sg : List Int} {L : Nat → List Int} {t : List Int} (h : Sub sg L) (hv : substOkB sg (plainL L 24) = true) (ht : termOkB sg t = true) (hl : (fillL L t).length ≤ 60) : filledB sg (plainL L 24) t = true ∧ filledL sg (plainL L 24) t = fillL L t := by
  have hb : filledB sg (plainL L 24) t = true := by
    rw [filled_b hv ht]
    unfold fitsB
    rw [fill_plain h]
    exact decide_eq_true hl
  exact ⟨hb, by unfold filledL; rw [if_pos hb]; exact fill_plain h t⟩
theorem filled_parts {sg : List Int} {us : List (List Int)} {t : List Int} (h : filledB sg us t = true) : substOkB sg us = true ∧ termOkB sg t = true ∧ filledL sg us t = fillL (givesL us) t ∧ (fillL (givesL us) t).length ≤ 60 := by
  have e : filledL sg us t = fillL (givesL us) t := by unfold filledL; rw [if_pos h]
  have hl := filled_len sg us t
  rw [e] at hl
  unfold filledB at h
  rw [Bool.and_eq_true, Bool.and_eq_true] at h
  exact ⟨h.1, h.2.1, e, hl⟩
theorem isU_each {sg a b : List Int} {v : Bool} {F : List (List Int)} (h : IsU sg a b v F) : tot F ≤ 1048576 := by
  rcases h with ⟨_, _, _, L, m, s, rfl⟩ | ⟨_, rfl, _⟩
  · have h3 := tot_le (plain_each (L := L) (m := 24) s.each)
    have h4 := plain_len L 24
    have h5 : (plainL L 24).length * 60 ≤ 24 * 60 := Nat.mul_le_mul_right _ h4
    omega
  · simp [tot, sumL]
/-- a substitution that makes both equal is there: so true is told -/
theorem isU_true {sg a b : List Int} {v : Bool} {F us : List (List Int)} (h : IsU sg a b v F) (h1 : filledB sg us a = true) (h2 : filledB sg us b = true) (he : filledL sg us a = filledL sg us b) : v = true := by
  obtain ⟨a1, a2, a3, a4⟩ := filled_parts h1
  obtain ⟨_, b2, b3, _⟩ := filled_parts h2
  rcases h with ⟨e, _⟩ | ⟨_, _, h⟩
  · exact e
  · rcases h with h | h | h
    · rw [a2] at h; cases h
    · rw [b2] at h; cases h
    · exact absurd ⟨⟨gives_sub a1, by rw [← a3, ← b3, he]⟩, gives_len a1, a4⟩ (h (givesL us))
/-- what true tells -/
theorem isU_facts {sg a b : List Int} {F : List (List Int)} (h : IsU sg a b true F) : substOkB sg F = true ∧ sameB sg F F = true ∧ filledB sg F a = true ∧ filledB sg F b = true ∧ filledL sg F a = filledL sg F b ∧ (composedB sg F F = true → sameB sg (composedI sg F F) F = true) ∧
    ∀ us, filledB sg us a = true → filledB sg us b = true → filledL sg us a = filledL sg us b → composedB sg F us = true → filledB sg (composedI sg F us) a = true ∧ filledL sg (composedI sg F us) a = filledL sg us a := by
  rcases h with ⟨_, h1, h2, L, m, s, rfl⟩ | ⟨e, _⟩
  · have hs := (term_parts h1).1
    have hv := sub_valid hs m.sub s.each
    obtain ⟨fa, la⟩ := filled_plain m.sub hv h1 s.all
    obtain ⟨fb, lb⟩ := filled_plain m.sub hv h2 (by rw [← m.eq]; exact s.all)
    refine ⟨hv, by unfold sameB; rw [hv, sameG_yes (fun _ _ => rfl)]; rfl, fa, fb, by rw [la, lb, m.eq], fun hc => ?_, fun us u1 u2 u3 hc => ?_⟩
    · rw [same_ab (comp_ok hc) hv]
      refine sameG_yes (fun i hi => ?_)
      rw [comp_gives hc, if_pos hi]
      unfold compL
      rw [fill_plain m.sub, sub_gives m.sub]
      exact fill_same (fun x hx h0 => m.ide i x hx h0)
    · obtain ⟨a1, _, a3, a4⟩ := filled_parts u1
      obtain ⟨_, _, b3, _⟩ := filled_parts u2
      have hU : Uni sg a b (givesL us) := ⟨gives_sub a1, by rw [← a3, ← b3, u3]⟩
      have e : fillL (givesL (composedI sg (plainL L 24) us)) a = fillL (givesL us) a := by
        rw [comp_fill hc h1, fill_plain m.sub]
        exact part_uni m.toPart hU a
      have hb : filledB sg (composedI sg (plainL L 24) us) a = true := by
        rw [filled_b (comp_ok hc) h1]
        unfold fitsB
        rw [e]
        exact decide_eq_true a4
      exact ⟨hb, by rw [a3]; unfold filledL; rw [if_pos hb]; exact e⟩
  · cases e
theorem isU_symm {sg a b : List Int} {v : Bool} {F : List (List Int)} (h : IsU sg a b v F) : IsU sg b a v F := by
  rcases h with ⟨e, h1, h2, L, m, s, hF⟩ | ⟨e, hF, h⟩
  · exact .inl ⟨e, h2, h1, L, m.symm, s.symm, hF⟩
  · exact .inr ⟨e, hF, by
      rcases h with h | h | h
      · exact .inr (.inl h)
      · exact .inl h
      · exact .inr (.inr (fun M hM => h M hM.symm))⟩

/-! ### generalisation -/
/-- what is told of two lists -/
def IsG (sg a b g : List Int) : Prop :=
  (termOkB sg a = true ∧ termOkB sg b = true ∧ ∃ G T', Gs sg [] 1 a b G T' ∧ g = if T'.length ≤ 24 then G else []) ∨ ((termOkB sg a = false ∨ termOkB sg b = false) ∧ g = [])
theorem isG_ex (sg a b : List Int) : ∃ g, IsG sg a b g := by
  cases h1 : termOkB sg a with
  | false => exact ⟨[], .inr ⟨.inl h1, rfl⟩⟩
  | true =>
    cases h2 : termOkB sg b with
    | false => exact ⟨[], .inr ⟨.inr h2, rfl⟩⟩
    | true =>
      obtain ⟨G, T', h⟩ := gs_ex (sg := sg) a.length (T := []) (Nat.le_refl _) (term_parts h1).2.2 (term_parts h2).2.2
      exact ⟨_, .inl ⟨h1, h2, G, T', h, rfl⟩⟩
theorem isG_one {sg a b g g' : List Int} (h : IsG sg a b g) (h' : IsG sg a b g') : g = g' := by
  rcases h with ⟨h1, h2, G, T', h, rfl⟩ | ⟨h, rfl⟩
  · rcases h' with ⟨_, _, G2, T2, h', rfl⟩ | ⟨h', _⟩
    · obtain ⟨rfl, rfl⟩ := gs_one h List.nodup_nil h'
      rfl
    · rcases h' with h' | h'
      · rw [h1] at h'; cases h'
      · rw [h2] at h'; cases h'
  · rcases h' with ⟨h1, h2, _⟩ | ⟨_, rfl⟩
    · rcases h with h | h
      · rw [h1] at h; cases h
      · rw [h2] at h; cases h
    · rfl
theorem isG_symm {sg a b g : List Int} (h : IsG sg a b g) : IsG sg b a g := by
  rcases h with ⟨h1, h2, G, T', h, e⟩ | ⟨h, e⟩
  · exact .inl ⟨h2, h1, G, _, gs_swap h, by rw [List.length_map]; exact e⟩
  · exact .inr ⟨h.symm, e⟩
theorem isG_len {sg a b g : List Int} (h : IsG sg a b g) : g.length ≤ 60 := by
  rcases h with ⟨h1, h2, G, T', h, rfl⟩ | ⟨_, rfl⟩
  · split
    · have ht := gs_gt h []
      rw [List.append_nil] at ht
      obtain ⟨f, _, hv⟩ := gt_fill ht
      have h3 : ∀ {l : List Int}, (∀ x ∈ l, x < 0 → 1 ≤ (f1 T' (vr x)).length) → l.length ≤ (fillL (f1 T') l).length := by
        intro l
        induction l with
        | nil => intro _; simp
        | cons x r ih =>
          intro hx
          have := ih (fun y hy => hx y (List.mem_cons_of_mem _ hy))
          rw [fill_cons, List.length_append, List.length_cons]
          by_cases h0 : 0 ≤ x
          · rw [rep_sym h0, List.length_singleton]; omega
          · rw [rep_vr (by omega)]
            have := hx x (List.mem_cons_self ..) (by omega)
            omega
      have h4 := h3 (fun x hx h0 => (hv x hx h0).2.1.pos)
      rw [f] at h4
      exact Nat.le_trans h4 (term_len h1).2
    · simp
  · simp
/-- what there is: both are instances, and of each common pattern it is one -/
theorem isG_facts {sg a b g : List Int} (h : IsG sg a b g) (hg : g ≠ []) : termOkB sg g = true ∧ instB sg g a = true ∧ instB sg g b = true ∧ ∀ p, instB sg p a = true → instB sg p b = true → instB sg p g = true := by
  have hl := isG_len h
  rcases h with ⟨h1, h2, G, T', h, e⟩ | ⟨_, e⟩
  · by_cases h24 : T'.length ≤ 24
    · rw [if_pos h24] at e
      subst e
      have ht := gs_gt h []
      rw [List.append_nil] at ht
      have tg : termOkB sg g = true := term_mk (term_parts h1).1 hl (gt_scan h24 ht)
      obtain ⟨fa, fb, hv⟩ := gt_fill ht
      refine ⟨tg, (inst_iff tg h1).2 ⟨f1 T', fa, fun x hx h0 => (hv x hx h0).2.1⟩, (inst_iff tg h2).2 ⟨f2 T', fb, fun x hx h0 => (hv x hx h0).2.2⟩, fun p p1 p2 => ?_⟩
      obtain ⟨hp, _⟩ := inst_ok p1
      obtain ⟨A, eA, hA⟩ := (inst_iff hp h1).1 p1
      obtain ⟨B, eB, hB⟩ := (inst_iff hp h2).1 p2
      -- look-ups that are terms everywhere
      have mk : ∀ C : Nat → List Int, (∀ x ∈ p, x < 0 → scan sg 1 (C (vr x)) = some (C (vr x)).length) → ∃ D, Sub sg D ∧ fillL D p = fillL C p := by
        intro C hC
        have hch : ∀ i, ∃ d, (i < 24 → Trm sg d) ∧ (24 ≤ i → d = vt i) ∧ (Trm sg (C i) → i < 24 → d = C i) := fun i => by
          by_cases hi : i < 24
          · by_cases ht : Trm sg (C i)
            · exact ⟨C i, fun _ => ht, fun h => absurd hi (by omega), fun _ _ => rfl⟩
            · exact ⟨vt i, fun _ => Trm.vt hi, fun _ => rfl, fun h _ => absurd h ht⟩
          · exact ⟨vt i, fun h => absurd h hi, fun _ => rfl, fun _ h => absurd h hi⟩
        refine ⟨fun i => (hch i).choose, ⟨fun i hi => (hch i).choose_spec.1 hi, fun i hi => (hch i).choose_spec.2.1 hi⟩, ?_⟩
        refine fill_ext (fun x hx h0 => ?_)
        have := term_mem hp hx
        exact (hch (vr x)).choose_spec.2.2 (hC x hx h0) (by unfold vr; omega)
      obtain ⟨A', sA, qA⟩ := mk A hA
      obtain ⟨B', sB, qB⟩ := mk B hB
      obtain ⟨M, hM⟩ := gt_least (gs_nodup h List.nodup_nil) sA sB
      obtain ⟨m1, m2⟩ := hM (p := p) (n := 1) (g := g) (term_parts hp).2.2 (by rw [qA, qB, eA, eB]; exact ht)
      exact (inst_iff hp tg).2 ⟨M, m1, fun x hx h0 => gt_scan h24 (m2 x hx h0)⟩
    · rw [if_neg h24] at e
      exact absurd e hg
  · exact absurd e hg

/-! ### terms that are met -/
/-- b is shifted by k; the filled term, renamed, is an instance of both -/
theorem met_facts {sg a b x : List Int} {k : Nat} {L : Nat → List Int} (hx : x = shiftL (k : Int) b) (ha : termOkB sg a = true) (hb : termOkB sg b = true) (hxo : termOkB sg x = true) (m : Mg sg a x L) (s : Short sg a x L) :
    instB sg a (renL (fillL L a)) = true ∧ instB sg b (renL (fillL L a)) = true ∧ renL (renL (fillL L a)) = renL (fillL L a) ∧ termOkB sg (renL (fillL L a)) = true := by
  have ht : termOkB sg (fillL L a) = true := term_mk (term_parts ha).1 s.all (m.sub.fill (term_parts ha).2.2)
  have hr := ren_ok ht
  have hv := inst_variant ht hr (ren_ren _).symm
  have i1 : instB sg a (fillL L a) = true := (inst_iff ha ht).2 ⟨L, rfl, fun y hy h0 => m.sub.trm _ (by have := term_mem ha hy; unfold vr; omega)⟩
  have i2 : instB sg b (fillL L a) = true := by
    have e : fillL L a = fillL (fun i => fillL L (vt (i + k))) b := by rw [← fill_fill, shift_fill, ← hx]; exact m.eq
    refine (inst_iff hb ht).2 ⟨_, e.symm, fun y hy h0 => ?_⟩
    show scan sg 1 (fillL L (vt (vr y + k))) = some (fillL L (vt (vr y + k))).length
    rw [fill_vti]
    have hy2 : sh (k : Int) y ∈ x := by rw [hx]; exact List.mem_map_of_mem hy
    have := term_mem hxo hy2
    exact m.sub.trm _ (by unfold sh at this; rw [if_pos h0] at this; unfold vr; omega)
  exact ⟨inst_trans i1 hv, inst_trans i2 hv, ren_ren _, hr⟩
end Go.Proofs.Ytkmhnkljigncmaa.unifLaw
end

section
/-
  CONTRACTS: impl.Renamed, its closure (which keeps a list of what it has seen in a variable of its caller), fill over that closure. Conditions: the slices read as lists ('Seg'), at most 1048576 numbers. By an AI agent.
-/
namespace Go.Proofs.Ytkmhnkljigncmaa.renImpl
open Go.RowKit Go.Proofs.Ytkmhnkljigncmaa.base Go.Proofs.Ytkmhnkljigncmaa.ints Go.Proofs.Ytkmhnkljigncmaa.sig Go.Proofs.Ytkmhnkljigncmaa.cursor Go.Proofs.Ytkmhnkljigncmaa.term Go.Proofs.Ytkmhnkljigncmaa.termOk Go.Proofs.Ytkmhnkljigncmaa.marks Go.Proofs.Ytkmhnkljigncmaa.app Go.Proofs.Ytkmhnkljigncmaa.appAt Go.Proofs.Ytkmhnkljigncmaa.sym Go.Proofs.Ytkmhnkljigncmaa.segs Go.Proofs.Ytkmhnkljigncmaa.termFacts Go.Proofs.Ytkmhnkljigncmaa.varsMath Go.Proofs.Ytkmhnkljigncmaa.fillMath Go.Proofs.Ytkmhnkljigncmaa.look Go.Proofs.Ytkmhnkljigncmaa.renMath Go.Proofs.Ytkmhnkljigncmaa.rename
set_option maxRecDepth 100000

/-- a number's variable -/
def vn (n : Int) : Int := -1 - n
theorem vn_inj : ∀ a b : Int, vn a = vn b → a = b := fun a b h => by unfold vn at h; omega

/-- only block p, row r and what is new have turned -/
structure Side (p : Nat) (r : Option Nat) (a b : World) : Prop where
  os : b.os = a.os
  tape : b.tape = a.tape
  output : b.output = a.output
  size : a.heap.size ≤ b.heap.size
  block : ∀ k, k < a.heap.size → k ≠ p → some k ≠ r → b.heap[k]? = a.heap[k]?
section
variable {p : Nat} {r : Option Nat} {a b c : World}
theorem Side.of_below (h : Below a.heap.size a b) : Side p r a b := ⟨h.os, h.tape, h.output, h.size, fun k hk _ _ => h.block k hk⟩
theorem Side.of_grown (h : a.grownBy b r) : Side p r a b := ⟨h.os, h.tape, h.output, h.size, fun k hk _ hr => h.block k hk hr⟩
theorem Side.of_var (h : a.grownBy b (some p)) : Side p r a b := ⟨h.os, h.tape, h.output, h.size, fun k hk hp _ => h.block k hk (fun e => by injection e with e; exact hp e)⟩
theorem Side.trans (h : Side p r a b) (k : Side p r b c) : Side p r a c :=
  ⟨k.os.trans h.os, k.tape.trans h.tape, k.output.trans h.output, Nat.le_trans h.size k.size, fun i hi hp hr => (k.block i (Nat.lt_of_lt_of_le hi h.size) hp hr).trans (h.block i hi hp hr)⟩
theorem Side.below (h : Side p r a b) (hr : ∀ k, r = some k → p ≤ k) (hp : p ≤ a.heap.size) : Below p a b :=
  ⟨h.os, h.tape, h.output, h.size, fun k hk => h.block k (by omega) (by omega) (fun e => by have := hr k e.symm; omega)⟩
/-- a slice of int64 in another row stays -/
theorem Own.side {base n cc : Nat} {O : Option Addr} {xs : List Int} {cs : Array Value} (h : Own a base (.slice O n cc) xs) (hs : Side p r a b) (hv : Row a p 24 cs) (hne : blk O = none ∨ blk O ≠ r) : Own b base (.slice O n cc) xs := by
  obtain ⟨q1, q2⟩ := h
  refine ⟨q1, ?_⟩
  rcases q2 with q2 | ⟨g, cap, cur, e, hg, hh, rest⟩
  · exact .inl q2
  · refine .inr ⟨g, cap, cur, e, hg, ?_, rest⟩
    have hlt : g < a.heap.size := (Array.getElem?_eq_some_iff.1 hh).1
    have hb : blk O = some g := by rw [← blk_own O n cc, e]; rfl
    have hgp : g ≠ p := Row.ne_ (t := 2) (t' := 24) hh hv (by decide)
    exact (hs.block g hlt hgp (by rw [hb] at hne; rcases hne with h | h; cases h; exact h)).trans hh
end

theorem own_ne {w : World} {base B n c : Nat} {S : Option Addr} {xs : List Int} {cs : Array Value} (h : Own w base (.slice S n c) xs) (hr : Row w B 24 cs) : blk S ≠ some B := by
  have hl := Own.len h
  rcases own_form (n := n) (vs := xs.map (Value.int .i64)) (by rw [hl]; rw [hl] at h; exact h) with ⟨rfl, _⟩ | ⟨g, cur, rfl, _, hrow, _⟩
  · intro e; cases e
  · intro e
    have e2 : g = B := Option.some.inj e
    exact Row.ne_ hr hrow (by decide) e2.symm
theorem one_seg (w : World) (y : Int) : Seg (w.alloc (.cells #[.int .i64 y] 2)) (w.alloc (.cells #[.int .i64 y] 2)).heap.size (some ⟨w.heap.size, 0, none⟩) 1 [y] :=
  (Row.new w 2 #[.int .i64 y]).seg rfl (by simp) (fun j hj => by
    have e : j = 0 := by omega
    subst e
    rfl)

/-- what the closure leaves -/
def AnsRen (W : World) (B : Nat) (S : Option Addr) (o : List Int) (x : Int) (e : Ending) (w' : World) : Prop :=
  ∃ A c S' sn' sc', e = .returned (.slice A 1 c) ∧ Seg w' w'.heap.size A 1 [-1 - (idx (ext o x) x : Int)] ∧ (A = none → c = 0) ∧ Row w' B 24 #[.slice S' sn' sc'] ∧
    Own w' (B + 1) (.slice S' sn' sc') ((ext o x).map vn) ∧ (blk S' = blk S ∨ ∃ k, blk S' = some k ∧ W.heap.size ≤ k) ∧ Side B (blk S) W w'

set_option maxHeartbeats 4000000 in
theorem ren1 (B : Nat) (S : Option Addr) (sn sc : Nat) (o : List Int) (x : Int) (W : World) (hr : Row W B 24 #[.slice S sn sc]) (ho : Own W (B + 1) (.slice S sn sc) (o.map vn)) (hx0 : -24 ≤ x) (hx1 : x < 0) (hsn : sn ≤ 60) :
    Calls Try.prog 122 #[.int .i64 (-1 - x), .pointer (some ⟨B, 0, none⟩)] W (AnsRen W B S o x) := by
  have hl := Own.len ho
  simp only [List.length_map] at hl
  have hlt := hr.lt
  have cB : W.cell? ⟨B, 0, none⟩ = some (.slice S sn sc) := hr.cell 0
  have fB : W.frozen? ⟨B, 0, none⟩ = false := hr.free 0
  have LI := Lib.hid (indexOf S sn sc (o.map vn) (-1 - x) W (Own.seg ho) (by omega))
  by_cases hin : x ∈ o
  · have hi : idx o x < o.length := idx_lt hin
    obtain ⟨q, hq⟩ : ∃ q, idx o x = q := ⟨_, rfl⟩
    have EI := Lib.hid (show indexI (o.map vn) (-1 - x) = (q : Int) by
      unfold indexI
      rw [show (-1 - x : Int) = vn x from rfl, if_pos ((mem_map_inj vn_inj).2 hin), idx_map vn_inj, hq])
    have EX := Lib.hid (show ext o x = o by unfold ext; rw [if_pos hin])
    have LV := Lib.hid (varTerm (q : Int) W (by omega) (by omega))
    have HQ := Lib.hid hq
    have hq60 : q ≤ 60 := by omega
    have HR := Lib.hid hr
    have HO := Lib.hid ho
    clear hin hi hq hl hr ho
    go_enter Try.func122, Try.ntmps122
    go_wp2_with fail
    refine LI.out.mono ?_
    rintro e w' ⟨rfl, he⟩
    rw [EI.out] at he
    subst he
    clear LI
    go_wp2_with fail
    refine LV.out.mono ?_
    rintro e w1 ⟨A, n, c, rfl, oq, bb⟩
    have hn1 := Own.len oq
    simp only [List.length_cons, List.length_nil] at hn1
    subst hn1
    have F : AnsRen W B S o x (.returned (.slice A 1 c)) w1 :=
      ⟨A, c, S, sn, sc, rfl, by rw [EX.out, HQ.out]; exact Own.seg oq, (own_cap oq).2.2, HR.out.next bb, by rw [EX.out]; exact HO.out.next bb, .inl rfl, Side.of_below bb⟩
    have HF := Lib.hid F
    clear F oq bb LV cB fB
    go_wp2
    go_ret
    exact HF.out
  · have EI := Lib.hid (show indexI (o.map vn) (-1 - x) = -1 by
      unfold indexI
      rw [show (-1 - x : Int) = vn x from rfl, if_neg (fun h => hin ((mem_map_inj vn_inj).1 h))])
    have EX := Lib.hid (show (ext o x).map vn = o.map vn ++ [-1 - x] by unfold ext; rw [if_neg hin, List.map_append]; rfl)
    have EQ := Lib.hid (show idx (ext o x) x = sn by unfold ext; rw [if_neg hin, idx_app_new hin, hl])
    have hne := own_ne ho hr
    have hr1 := hr.alloc (.cells #[.int .i64 (-1 - x)] 2)
    have ho1 := Own.alloc ho (.cells #[.int .i64 (-1 - x)] 2)
    have HNE := Lib.hid hne
    have HN := Lib.hid hl
    clear hin hl hr ho hne
    go_enter Try.func122, Try.ntmps122
    go_wp2_with fail
    refine LI.out.mono ?_
    rintro e w' ⟨rfl, he⟩
    rw [EI.out] at he
    subst he
    clear LI
    go_wp2_with (first
      | (at_builtin; refine appAllAt rfl _ _ rfl (B + 1) S sn sc (o.map vn) rfl ho1 (some ⟨W.heap.size, 0, none⟩) 1 1 (W.heap.size + 1) [-1 - x] rfl (by simpa using one_seg W (-1 - x)) (by omega) (by omega) (by omega) (by simp; omega) ?_; intro S' sc' w2 ho2 hg hat; have r2 := Row.away hr1 hg HNE.out; have cB2 : w2.cell? ⟨B, 0, none⟩ = some (.slice S sn sc) := r2.cell 0; have fB2 : w2.frozen? ⟨B, 0, none⟩ = false := r2.free 0)
      | (go_at_call 59; refine (varTerm (sn : Int) _ (by omega) (by omega)).mono ?_; rintro e w3 ⟨A, n, c, rfl, oq, bb⟩))
    have hn1 := Own.len oq
    simp only [List.length_cons, List.length_nil] at hn1
    subst hn1
    have r3 := r2.put 0 (.slice S' (sn + 1) sc')
    have hg3 : w2.grownBy (w2.setCell ⟨B, 0, none⟩ (.slice S' (sn + 1) sc')) (some B) := grown_put (World.grownBy.refl _ _) _ _
    have o3 := Own.far ho2 hg3 (fun k hk => by injection hk; omega)
    have sd : Side B (blk S) W w3 := (((Side.of_below ((Below.refl _ _).alloc (Nat.le_refl _) _)).trans (Side.of_grown hg)).trans (Side.of_var hg3)).trans (Side.of_below bb)
    have F : AnsRen W B S o x (.returned (.slice A 1 c)) w3 := by
      refine ⟨A, c, S', sn + 1, sc', rfl, by rw [EQ.out]; exact Own.seg oq, (own_cap oq).2.2, r3.next bb, by rw [EX.out]; exact o3.next bb, ?_, sd⟩
      rcases hat with h | h
      · exact .inl h
      · exact .inr ⟨_, h, by simp⟩
    have HF := Lib.hid F
    clear F oq bb r3 hg3 o3 sd hat hg ho2 r2 cB2 fB2 cB fB hr1 ho1
    go_wp2
    go_ret
    exact HF.out

/-- the head of fill's loop over this closure -/
def HeadRF (w : World) (B m : Nat) (t : List Int) (out i : Value) (wr : World) : Prop :=
  ∃ (k : Nat) (O : Option Addr) (on oc : Nat) (S : Option Addr) (sn sc : Nat), k ≤ m ∧ i = .int .i64 k ∧ out = .slice O on oc ∧ Own wr (B + 1) (.slice O on oc) (renL (t.take k)) ∧ Row wr B 24 #[.slice S sn sc] ∧
    Own wr (B + 1) (.slice S sn sc) ((orderL (t.take k)).map vn) ∧ (blk O = none ∨ blk O ≠ blk S) ∧ Below B w wr ∧ w.heap.size ≤ wr.heap.size
theorem ne_flip {a b : Option Nat} (h : a = none ∨ a ≠ b) : b = none ∨ b ≠ a := by
  cases b with
  | none => exact .inl rfl
  | some k =>
    right
    rintro rfl
    rcases h with h | h
    · cases h
    · exact h rfl
theorem blk_lt {w : World} {base : Nat} {A : Option Addr} {n c : Nat} {xs : List Int} (h : Own w base (.slice A n c) xs) : ∀ k, blk A = some k → base ≤ k ∧ k < w.heap.size := fun k hk => World.ownsRow.lt h k (by rw [blk_own]; exact hk)
theorem ne_new {w : World} {base : Nat} {S : Option Addr} {n c : Nat} {xs : List Int} {a : Option Nat} (h : Own w base (.slice S n c) xs) (q : Nat) (hq : w.heap.size ≤ q) (ha : a = some q) : a = none ∨ a ≠ blk S := by
  right
  rintro rfl
  have := (blk_lt h q ha).2
  omega

set_option maxHeartbeats 4000000 in
theorem fillRen (B : Nat) (A : Option Addr) (m c : Nat) (t : List Int) (w : World) (hr : Row w B 24 #[.slice none 0 0]) (h : Seg w B A m t) (hm : m ≤ 60) (hv : ∀ x ∈ t, -24 ≤ x) :
    Calls Try.prog 73 #[.func (.func 122) #[] #[.pointer (some ⟨B, 0, none⟩)], .slice A m c] w fun e w' => ∃ O n c, e = .returned (.slice O n c) ∧ Own w' (B + 1) (.slice O n c) (renL t) ∧ Below B w w' := by
  have HL := Lib.hid h.1
  have HV := Lib.hid hv
  have S0 : HeadRF w B m t (.slice none 0 0) (.int .i64 0) w := ⟨0, _, _, _, none, 0, 0, Nat.zero_le _, rfl, rfl, by simpa [renL] using Own.nil w (B + 1), hr, by simpa [orderL] using Own.nil w (B + 1), .inl rfl, Below.refl _ _, Nat.le_refl _⟩
  have HS0 := Lib.hid S0
  clear S0 hv hr
  go_enter Try.func73, Try.ntmps73
  go_wp2
  go_loopw [5, 10] (fun out i wr => HeadRF w B m t out i wr) (fun _ i _ => m - (intOf i).toNat)
  case atStart => exact HS0.out
  case round =>
    obtain ⟨k, O, on, oc, S, sn, sc, hk, rfl, rfl, ho, hr, hs, hne, hb, hz⟩ := hrel
    clear HS0
    have hon : on ≤ 60 := by rw [Own.len ho, ren_len]; simp; omega
    have hsn : sn ≤ 60 := by have h1 := Own.len hs; have h2 := order_len (t.take k); simp at h1 h2; omega
    have hBlt := hr.lt
    by_cases hlt : k < m
    · obtain ⟨b, off, x, rfl, hbb, hx, ex⟩ := h.spot hlt
      have hx1 : wr.cell? ⟨b, off + k, none⟩ = some (.int .i64 x) := (hb.cell (p := ⟨b, off + k, none⟩) hbb).trans hx
      have hmem := mem_of_get (by rw [HL.out]; exact hlt) ex.out
      have hx24 : -24 ≤ x := HV.out x hmem
      have E := Lib.hid (ren_take (t := t) (k := k) (by rw [HL.out]; exact hlt) ex.out)
      have EO := Lib.hid (order_take (t := t) (k := k) (by rw [HL.out]; exact hlt) ex.out)
      clear hmem hx h ex
      by_cases hpos : 0 ≤ x
      · have R := Lib.hid (show ren (extV (orderL (t.take k)) x) x = x by unfold ren; rw [if_neg (by omega)])
        have R2 := Lib.hid (show extV (orderL (t.take k)) x = orderL (t.take k) by unfold extV; rw [if_neg (by omega)])
        have ho1 := Own.alloc ho (.cells #[.int .i64 x] 2)
        have hs1 := Own.alloc hs (.cells #[.int .i64 x] 2)
        have hr1 := hr.alloc (.cells #[.int .i64 x] 2)
        go_wp2_with (at_builtin; refine appAllAt rfl _ _ rfl (B + 1) O on oc (renL (t.take k)) rfl ho1 (some ⟨wr.heap.size, 0, none⟩) 1 1 (wr.heap.size + 1) [x] rfl (by simpa using one_seg wr x) (by omega) (by omega) (by omega) (by simp; omega) ?_; intro O' oc' w2 ho2 hg hat)
        have S1 : HeadRF w B m t (.slice O' (on + 1) oc') (.int .i64 ((k : Int) + 1)) w2 := by
          refine ⟨k + 1, O', on + 1, oc', S, sn, sc, hlt, by simp, rfl, by rw [E.out, R.out]; exact ho2, Row.away hr1 hg (own_ne ho1 hr1), by rw [EO.out, R2.out]; exact Own.kept hs1 hg (ne_flip hne), ?_, ?_, ?_⟩
          · rcases hat with h | h
            · rw [h]; exact hne
            · exact ne_new hs1 _ (Nat.le_refl _) h
          · exact (hb.alloc (by omega) _).grown hg (by simp; omega) (fun q hq => by have := (blk_lt ho1 q hq).1; omega)
          · have := hg.size; simp at this; omega
        have S := Lib.hid S1
        clear S1 ho2 hg hat ho1 hs1 hr1 ho hs hr hne hb R R2 E EO
        go_wp2
        go_roundw
        case rel => exact S.out
        case measure => simp [intOf]; omega
      · have hneg : x < 0 := by omega
        have R := Lib.hid (show ren (extV (orderL (t.take k)) x) x = -1 - (idx (ext (orderL (t.take k)) x) x : Int) by unfold ren extV; rw [if_pos hneg, if_pos hneg])
        have R2 := Lib.hid (show extV (orderL (t.take k)) x = ext (orderL (t.take k)) x by unfold extV; rw [if_pos hneg])
        have L := Lib.hid (ren1 B S sn sc _ x wr hr hs hx24 hneg hsn)
        go_wp2_with (first
          | (go_at_call 122; refine L.out.mono ?_; rintro e w1 ⟨A1, c1, S1, sn1, sc1, rfl, s1, hc1, r1, os1, hat1, sd⟩; have ho1 := Own.side ho sd hr hne; have hz1 := sd.size; have hne1 : blk O = none ∨ blk O ≠ blk S1 := (by rcases hat1 with h | ⟨q, h, hq⟩; (rw [h]; exact hne); (rw [h]; exact (by cases e : blk O with | none => exact .inl rfl | some z => exact .inr (fun e2 => by injection e2 with e2; have := (blk_lt ho z e).2; omega)))))
          | (at_builtin; refine appAllAt rfl _ _ rfl (B + 1) O on oc (renL (t.take k)) rfl ho1 A1 1 c1 w1.heap.size _ rfl s1 (by omega) (by omega) (by omega) (by omega) ?_; intro O' oc' w2 ho2 hg hat))
        have SS : HeadRF w B m t (.slice O' (on + 1) oc') (.int .i64 ((k : Int) + 1)) w2 := by
          refine ⟨k + 1, O', on + 1, oc', S1, sn1, sc1, hlt, by simp, rfl, by rw [E.out, R.out]; exact ho2, Row.away r1 hg (own_ne ho1 r1), by rw [EO.out, R2.out]; exact Own.kept os1 hg (ne_flip hne1), ?_, ?_, ?_⟩
          · rcases hat with h | h
            · rw [h]; exact hne1
            · exact ne_new os1 _ (Nat.le_refl _) h
          · exact (hb.trans (sd.below (fun q hq => by have := (blk_lt hs q hq).1; omega) (by omega))).grown hg (by omega) (fun q hq => by have := (blk_lt ho1 q hq).1; omega)
          · have := hg.size; omega
        have HSS := Lib.hid SS
        clear SS ho2 hg hat ho1 s1 r1 os1 hat1 sd hne1 ho hs hr hne hb R R2 E EO L
        go_wp2
        go_roundw
        case rel => exact HSS.out
        case measure => simp [intOf]; omega
    · rw [List.take_of_length_le (by rw [HL.out]; omega)] at ho
      have HO := Lib.hid ho
      have HB := Lib.hid hb
      clear ho hs hr hne hb h
      go_wp2
      go_ret
      exact ⟨O, on, oc, rfl, HO.out, HB.out⟩

set_option maxHeartbeats 4000000 in
theorem implRenamed (A A' : Option Addr) (n c m c' : Nat) (sg t : List Int) (w : World) (h : Seg w w.heap.size A n sg) (h' : Seg w w.heap.size A' m t) (hn : n ≤ 1048576) (hm : m ≤ 1048576) :
    Calls Try.prog 84 #[.agg #[.slice A n c], .slice A' m c'] w (AnsList w (renI sg t)) := by
  obtain ⟨W, hW⟩ : ∃ W, W = w.alloc (.cells #[.slice A n c] 26) := ⟨_, rfl⟩
  have bel : Below w.heap.size w W := by rw [hW]; exact (Below.refl _ _).alloc (Nat.le_refl _) _
  have s := (h.below bel).more bel.size
  have s' := (h'.below bel).more bel.size
  have HW := Lib.hid hW
  have HL := Lib.hid h'.1
  have L := Lib.hid (implTermOk A A' n c m c' sg t W s s' hn hm)
  clear hW h h' s
  cases hok : termOkB sg t with
  | false =>
    have HS := Lib.hid hok
    clear hok s'
    go_enter Try.func84, Try.ntmps84
    go_wp2_with fail
    rw [← HW.out]
    refine L.out.mono ?_
    rintro e w1 ⟨he, bb⟩
    rw [HS.out] at he
    subst he
    have F : AnsList w (renI sg t) (.returned (.slice none 0 0)) w1 := ⟨_, _, _, rfl, by unfold renI; rw [if_neg (by rw [HS.out]; simp)]; exact Own.nil _ _, next_trans bel bb⟩
    have HF := Lib.hid F
    clear F bb bel
    go_wp2
    go_ret
    exact HF.out
  | true =>
    have HS := Lib.hid hok
    have HV := Lib.hid (fun x hx => (term_mem (x := x) hok hx).1)
    have H60 : m ≤ 60 := by rw [← HL.out]; exact (term_len hok).2
    have hmf : ∀ (fn : Fn) (first cap : Array Value) (w : World), (Instr.makeFunc fn first cap).run Try.prog w = .ok (.func fn first cap) w := fun _ _ _ _ => rfl
    clear hok
    go_enter Try.func84, Try.ntmps84
    go_wp2_with fail
    rw [← HW.out]
    refine L.out.mono ?_
    rintro e w1 ⟨he, bb⟩
    rw [HS.out] at he
    subst he
    replace bel := next_trans bel bb
    have s1 := (s'.next bb)
    have s2 := s1.alloc (Nat.le_refl _) (.cells #[.slice none 0 0] 24)
    have hz := bel.size
    have L2 := Lib.hid (fillRen w1.heap.size A' m c' t _ (Row.new w1 24 #[.slice none 0 0]) s2 H60 HV.out)
    clear bb L s' s1 s2
    go_wp2_with fail
    refine L2.out.mono ?_
    rintro e w2 ⟨O, on, oc, rfl, ho, bb⟩
    have F : AnsList w (renI sg t) (.returned (.slice O on oc)) w2 := ⟨O, on, oc, rfl, by unfold renI; rw [if_pos HS.out]; exact Own.lower ho (by omega), (bel.alloc hz _).trans (bb.mono hz)⟩
    have HF := Lib.hid F
    clear F ho bb bel L2 hmf
    go_wp2
    go_ret
    exact HF.out
end Go.Proofs.Ytkmhnkljigncmaa.renImpl
end

section
/-
  PLAIN MATHEMATICS of generalisation by places (chapter 5): what l5General has read after so many arguments ('Ga'), and how a whole subterm's pair comes of it ('ga_done'), of a pair that was met ('gp_old') and of a new one ('gp_new'). Conditions: the places begin subterms. By an AI agent.
-/
namespace Go.Proofs.Ytkmhnkljigncmaa.genPos
open Go.Proofs.Ytkmhnkljigncmaa.sig Go.Proofs.Ytkmhnkljigncmaa.term Go.Proofs.Ytkmhnkljigncmaa.termOk Go.Proofs.Ytkmhnkljigncmaa.termFacts Go.Proofs.Ytkmhnkljigncmaa.endAt Go.Proofs.Ytkmhnkljigncmaa.sub Go.Proofs.Ytkmhnkljigncmaa.termMath Go.Proofs.Ytkmhnkljigncmaa.fillMath Go.Proofs.Ytkmhnkljigncmaa.posMath Go.Proofs.Ytkmhnkljigncmaa.renMath Go.Proofs.Ytkmhnkljigncmaa.matchMath Go.Proofs.Ytkmhnkljigncmaa.unifMath Go.Proofs.Ytkmhnkljigncmaa.genMath

/-- what stands behind a place up to its k-th argument -/
def upto (sg t : List Int) (p k : Nat) : List Int := (t.drop (p + 1)).take (argP sg t k (p + 1) - (p + 1))
theorem argP_ge {sg t : List Int} (k p : Nat) : p ≤ argP sg t k p := argP_mono (k := 0) (Nat.zero_le k)
theorem upto_zero {sg t : List Int} {p : Nat} : upto sg t p 0 = [] := by unfold upto; simp [argP]
theorem upto_succ {sg t : List Int} {p k : Nat} : upto sg t p (k + 1) = upto sg t p k ++ subL sg t (argP sg t k (p + 1)) := by
  have h1 := argP_ge (sg := sg) (t := t) k (p + 1)
  have h2 := argP_succ (sg := sg) (t := t) k (p + 1)
  unfold upto subL
  rw [h2, show argP sg t k (p + 1) + len1 sg t (argP sg t k (p + 1)) - (p + 1) = (argP sg t k (p + 1) - (p + 1)) + len1 sg t (argP sg t k (p + 1)) by omega, List.take_add, List.drop_drop, show p + 1 + (argP sg t k (p + 1) - (p + 1)) = argP sg t k (p + 1) by omega]
/-- a subterm is its first number and its arguments -/
theorem sub_upto {sg t : List Int} {p j : Nat} (h : scan sg 1 (t.drop p) = some j) : subL sg t p = t.getD p 0 :: upto sg t p (arN sg t p) := by
  obtain ⟨i, rfl, h1, h2, h3⟩ := scan_args h
  obtain ⟨e, h4, h5⟩ := argP_scan h3 (Nat.le_refl _)
  rw [h3] at e
  injection e with e
  unfold subL upto arN
  rw [len1_eq h, drop_cons h1, List.take_succ_cons, ← e]
theorem sub_trm {sg t : List Int} {p j : Nat} (h : scan sg 1 (t.drop p) = some j) : Trm sg (subL sg t p) := by
  unfold Trm subL
  have h1 := scan_take h
  have h2 := scan_le h
  rw [len1_eq h, h1, List.length_take]
  congr 1
  omega
theorem sub_hd {sg t : List Int} {p j : Nat} (h : scan sg 1 (t.drop p) = some j) : (subL sg t p).getD 0 0 = t.getD p 0 := by
  rw [sub_upto h]; rfl

/-- after k arguments -/
def Ga (sg a b : List Int) (p q : Nat) (T : Tb) (k : Nat) (g : List Int) (T' : Tb) : Prop := Gs sg T k (upto sg a p k) (upto sg b q k) g T'
theorem ga_zero {sg a b : List Int} {p q : Nat} {T : Tb} : Ga sg a b p q T 0 [] T := by unfold Ga; rw [upto_zero, upto_zero]; exact Gs.nil T
theorem ga_succ {sg a b : List Int} {p q k : Nat} {T T1 T2 : Tb} {g g' : List Int} (h : Ga sg a b p q T k g T1) (h' : Gs sg T1 1 (subL sg a (argP sg a k (p + 1))) (subL sg b (argP sg b k (q + 1))) g' T2) : Ga sg a b p q T (k + 1) (g ++ g') T2 := by
  unfold Ga; rw [upto_succ, upto_succ]; exact gs_comp h h'
theorem ga_done {sg a b : List Int} {p q j j' : Nat} {T T' : Tb} {g : List Int} (ha : scan sg 1 (a.drop p) = some j) (hb : scan sg 1 (b.drop q) = some j') (h0 : 0 ≤ a.getD p 0) (he : a.getD p 0 = b.getD q 0) (h : Ga sg a b p q T (arN sg a p) g T') : Gs sg T 1 (subL sg a p) (subL sg b q) (a.getD p 0 :: g) T' := by
  rw [sub_upto ha, sub_upto hb, ← he]
  obtain ⟨_, _, _, hn, _⟩ := scan_args ha
  have e : arN sg b q = arN sg a p := by unfold arN; rw [he]
  rw [e]
  exact Gs.sym (n := 0) h0 hn (by rw [Nat.zero_add]; exact h)
theorem gp_apt {sg a b : List Int} {p q j j' : Nat} (ha : scan sg 1 (a.drop p) = some j) (hb : scan sg 1 (b.drop q) = some j') (h : ¬ (0 ≤ a.getD p 0 ∧ a.getD p 0 = b.getD q 0)) : Apt (subL sg a p) (subL sg b q) := by
  unfold Apt; rw [sub_hd ha, sub_hd hb]; exact h
theorem gp_old {sg a b : List Int} {p q j j' i : Nat} {T : Tb} (ha : scan sg 1 (a.drop p) = some j) (hb : scan sg 1 (b.drop q) = some j') (h : ¬ (0 ≤ a.getD p 0 ∧ a.getD p 0 = b.getD q 0)) (hi : T[i]? = some (subL sg a p, subL sg b q)) : Gs sg T 1 (subL sg a p) (subL sg b q) [-1 - (i : Int)] T := by
  have := Gs.old (n := 0) (u := []) (w := []) (g := []) (sub_trm ha) (sub_trm hb) (gp_apt ha hb h) hi (Gs.nil T)
  rwa [List.append_nil, List.append_nil] at this
theorem gp_new {sg a b : List Int} {p q j j' : Nat} {T : Tb} (ha : scan sg 1 (a.drop p) = some j) (hb : scan sg 1 (b.drop q) = some j') (h : ¬ (0 ≤ a.getD p 0 ∧ a.getD p 0 = b.getD q 0)) (hi : (subL sg a p, subL sg b q) ∉ T) : Gs sg T 1 (subL sg a p) (subL sg b q) [-1 - (T.length : Int)] (T ++ [(subL sg a p, subL sg b q)]) := by
  have := Gs.new (n := 0) (u := []) (w := []) (g := []) (sub_trm ha) (sub_trm hb) (gp_apt ha hb h) hi (Gs.nil _)
  rwa [List.append_nil, List.append_nil] at this
/-- an argument's own place: it begins a subterm that is shorter -/
theorem arg_sub {sg t : List Int} {p j k : Nat} (h : scan sg 1 (t.drop p) = some j) (hk : k < arN sg t p) : ∃ j', scan sg 1 (t.drop (argP sg t k (p + 1))) = some j' ∧ argP sg t k (p + 1) + j' ≤ p + j ∧ p < argP sg t k (p + 1) := by
  obtain ⟨i, rfl, h1, h2, h3⟩ := scan_args h
  obtain ⟨e, h4, h5⟩ := argP_scan h3 (Nat.le_of_lt hk)
  have hq : k + (arN sg t p - k - 1 + 1) = (ar sg (t.getD p 0)).toNat := by unfold arN at hk ⊢; omega
  rw [← hq] at h3
  obtain ⟨x, e1, e2, e3⟩ := scan_split h3
  rw [e] at e2
  injection e2 with e2
  rw [List.drop_drop, ← e2, show p + 1 + (argP sg t k (p + 1) - (p + 1)) = argP sg t k (p + 1) by omega] at e3
  obtain ⟨j', f1, f2, f3, _⟩ := scan_first e3
  exact ⟨j', f1, by omega, by omega⟩
end Go.Proofs.Ytkmhnkljigncmaa.genPos
end

section
/-
  CONTRACT: append of one list to a slice of slices of the call's own (as XPlain's), with what the cells hold afterwards; lists that keep out of given blocks ('Avoid'). By an AI agent.
-/
namespace Go.Proofs.Ytkmhnkljigncmaa.appZ
open Go.RowKit Go.Proofs.Ytkmhnkljigncmaa.base Go.Proofs.Ytkmhnkljigncmaa.ints Go.Proofs.Ytkmhnkljigncmaa.cursor Go.Proofs.Ytkmhnkljigncmaa.same Go.Proofs.Ytkmhnkljigncmaa.marks Go.Proofs.Ytkmhnkljigncmaa.app Go.Proofs.Ytkmhnkljigncmaa.appAt Go.Proofs.Ytkmhnkljigncmaa.sym Go.Proofs.Ytkmhnkljigncmaa.sub Go.Proofs.Ytkmhnkljigncmaa.segs Go.Proofs.Ytkmhnkljigncmaa.segsHelp Go.Proofs.Ytkmhnkljigncmaa.kinds Go.Proofs.Ytkmhnkljigncmaa.look Go.Proofs.Ytkmhnkljigncmaa.plain
set_option maxRecDepth 100000

set_option maxHeartbeats 1000000 in
/-- append of one list, and what the cells hold -/
theorem appS1Z {w : World} {ops : Array Oper} {rest : List Oper} {o : Oper} {a : Act} {Q : Exit → Act → World → Prop} (hgd : o.guard = none) (s x : Operand)
    (ho : o.op = .call { callee := .builtin .append, args := #[s, x], argTypes := #[29, 29] })
    (lo mid : Nat) (A : Option Addr) (n c : Nat) (xss : List (List Int)) (hs : a.eval s = .slice A n c) (hown : Owns w lo mid A n c xss)
    (g c2 : Nat) (v : Value) (ys : List Int) (hx : a.eval x = .slice (some ⟨g, 0, none⟩) 1 c2) (hy : w.cell? ⟨g, 0, none⟩ = some v) (hv : Inn w mid w.heap.size v ys) (hn : n ≤ 1048576) (hlo : lo ≤ mid) (hmid : mid ≤ w.heap.size)
    (h : ∀ A' c' w', Owns w' lo w'.heap.size A' (n + 1) c' (xss ++ [ys]) → w.grownBy w' (blk A) → (blk A' = blk A ∨ blk A' = some w.heap.size) → Below lo w w' → (∀ j b' u, j < n + 1 → A' = some ⟨b', 0, none⟩ → w'.cell? ⟨b', j, none⟩ = some u → (∃ b, j < n ∧ A = some ⟨b, 0, none⟩ ∧ w.cell? ⟨b, j, none⟩ = some u) ∨ (j = n ∧ u = v)) → wpList Try.prog ops Q rest (a.put o.dst (.slice A' (n + 1) c')) w') : wpList Try.prog ops Q (o :: rest) a w := by
  obtain ⟨i0, hi, hz0, hz1, hz2⟩ := info_parts info_list
  obtain ⟨hlen, ⟨vs, hr, hin, hap⟩, htop⟩ := hown
  have hvl : vs.length = n := by have := hr.1; omega
  have hvc : v.oneCell' = true := by obtain ⟨A1, c1, rfl, _⟩ := hv; rfl
  refine wpList_append_own_at w hgd s x 29 ho lo 24 i0 (.slice none 0 0) 1 24 Try.underlying29 hi hz0 hz1 hz2 rfl (by decide) (.slice A n c) n vs hs hr
    ⟨g, 0, none⟩ 1 c2 [v] hx rfl (fun j u hj => ?_) (fun u hu => ?_) (by unfold maxLen; omega) (by omega) (by omega) ?_
  · match j, hj with
    | 0, hj => simp at hj; subst hj; simpa [Addr.add] using hy
  · simp at hu; subst hu; exact hvc
  · intro v' w' hown' hg _ hat
    have hform : ∃ A' c', v' = .slice A' (n + 1) c' := by
      rcases hown'.2 with ⟨_, h0⟩ | ⟨g', cap, cur, e, _⟩
      · omega
      · exact ⟨_, _, e⟩
    obtain ⟨A', c', rfl⟩ := hform
    rw [blk_own] at hg
    rw [blk_own, blk_own] at hat
    have hsz := hg.size
    have hne : ∀ {u : Value} {zs : List Int} {l2 h2 : Nat}, Inn w l2 h2 u zs → u.ownBlock = none ∨ u.ownBlock ≠ blk A := fun {u zs l2 h2} hu => by
      rcases own_form hr with ⟨rfl, _⟩ | ⟨g', cur, rfl, _, hrow, _⟩
      · cases e : u.ownBlock with
        | none => exact .inl rfl
        | some z => exact .inr (fun e2 => by cases e2)
      · exact .inr (hu.ne hrow)
    have hget : ∀ j, j < n → (vs ++ [v]).getD j undef = vs.getD j undef := fun j hj => by simp [List.getD, List.getElem?_append_left (show j < vs.length by omega)]
    have hget2 : ∀ j, j < n → (xss ++ [ys]).getD j [] = xss.getD j [] := fun j hj => by simp [List.getD, List.getElem?_append_left (show j < xss.length by omega)]
    have hnew : (vs ++ [v]).getD n undef = v := by simp [List.getD, ← hvl]
    have hnew2 : (xss ++ [ys]).getD n [] = ys := by simp [List.getD, ← hlen]
    refine h A' c' w' ⟨by simp [hlen], ⟨vs ++ [v], hown', fun j hj => ?_, fun i j k hij hj e1 e2 => ?_⟩, fun k hk => (World.ownsRow.lt hown' k (by rw [blk_own]; exact hk)).2⟩ hg hat ?_ ?_
    · by_cases e : j = n
      · subst e
        rw [hnew, hnew2]
        exact (hv.kept hg (hne hv)).wider (by omega) (by omega)
      · rw [hget j (by omega), hget2 j (by omega)]
        exact ((hin j (by omega)).kept hg (hne (hin j (by omega)))).wider (Nat.le_refl _) (by omega)
    · by_cases e : j = n
      · subst e
        rw [hget i hij] at e1
        rw [hnew] at e2
        have h1 := ((hin i hij).blk k e1).2.1
        have h2 := (hv.blk k e2).1
        omega
      · rw [hget i (by omega)] at e1
        rw [hget j (by omega)] at e2
        exact hap i j k hij (by omega) e1 e2
    · refine (Below.refl lo w).grown hg (by omega) (fun k hk => ?_)
      exact (World.ownsRow.lt hr k (by rw [blk_own]; exact hk)).1
    · intro j b' u hj e hc
      subst e
      rcases own_form (n := n + 1) hown' with ⟨e, _⟩ | ⟨g', cur, e, _, hrow, _, _, _, _, hcell⟩
      · cases e
      · injection e with e
        injection e with e1
        subst e1
        rw [hrow.cell j, hcell j hj] at hc
        injection hc with hc
        by_cases e : j = n
        · subst e
          rw [hnew] at hc
          exact .inr ⟨rfl, hc.symm⟩
        · rw [hget j (by omega)] at hc
          rcases own_form hr with ⟨_, h0, _⟩ | ⟨g2, cur2, rfl, _, hrow2, _, _, _, _, hcell2⟩
          · omega
          · exact .inl ⟨g2, by omega, rfl, by rw [hrow2.cell j, hcell2 j (by omega), hc]⟩

/-- no list of the slice lies in a block of Z -/
def Avoid (Z : Nat → Prop) (w : World) (A : Option Addr) (n : Nat) : Prop := ∀ j b v, j < n → A = some ⟨b, 0, none⟩ → w.cell? ⟨b, j, none⟩ = some v → ∀ z, Z z → v.ownBlock ≠ some z
section
variable {Z : Nat → Prop} {w w' : World} {lo hi n c : Nat} {A : Option Addr} {xss : List (List Int)}
theorem Avoid.nil : Avoid Z w none 0 := fun j b v hj _ _ => absurd hj (Nat.not_lt_zero _)
theorem Avoid.less {Z' : Nat → Prop} (h : Avoid Z w A n) (hz : ∀ z, Z' z → Z z) : Avoid Z' w A n := fun j b v hj e hc z h' => h j b v hj e hc z (hz z h')
theorem Avoid.keep (h : Avoid Z w A n) (hb : ∀ b j, A = some ⟨b, 0, none⟩ → w'.cell? ⟨b, j, none⟩ = w.cell? ⟨b, j, none⟩) : Avoid Z w' A n := fun j b v hj e hc => h j b v hj e (by rw [← hb b j e]; exact hc)
/-- new blocks are in no list that stands -/
theorem Avoid.fresh (h : Owns w lo hi A n c xss) (hZ : ∀ z, Z z → hi ≤ z) : Avoid Z w A n := fun j b v hj e hc z hz e2 => by
  obtain ⟨_, ⟨vs, hr, hin, _⟩, _⟩ := h
  rcases own_form hr with ⟨_, h0, _⟩ | ⟨g, cur, e3, _, hrow, _, _, _, _, hcell⟩
  · omega
  · rw [e3] at e
    injection e with e
    injection e with e
    subst e
    rw [hrow.cell j, hcell j hj] at hc
    injection hc with hc
    rw [← hc] at e2
    have := ((hin j hj).blk z e2).2.1
    have := hZ z hz
    omega
/-- a slice of lists stays, where a block is written in which neither it nor one of its lists lies -/
theorem Avoid.owns {r : Option Nat} (h : Owns w lo hi A n c xss) (ha : Avoid (fun z => r = some z) w A n) (hne : ∀ k, blk A = some k → r ≠ some k) (hg : w.grownBy w' r) : Owns w' lo hi A n c xss := by
  obtain ⟨hl, ⟨vs, hr, hin, hap⟩, top⟩ := h
  refine ⟨hl, ⟨vs, World.ownsRow.kept hr hg ?_, fun j hj => (hin j hj).kept hg ?_, hap⟩, top⟩
  · rw [blk_own]
    cases e : blk A with
    | none => exact .inl rfl
    | some k => exact .inr (fun h => hne k e h.symm)
  · rcases own_form hr with ⟨_, h0, _⟩ | ⟨g, cur, e3, _, hrow, _, _, _, _, hcell⟩
    · omega
    · cases e : (vs.getD j undef).ownBlock with
      | none => exact .inl rfl
      | some k => exact .inr (fun h => ha j g (vs.getD j undef) hj e3 (by rw [hrow.cell j, hcell j hj]) k h.symm e)
end
end Go.Proofs.Ytkmhnkljigncmaa.appZ
end

section
/-
  THE TWO TABLES of spec.l5General: two lists of lists of the caller's own, of which calls may write the blocks ('Tabs'), and what stays when only these two blocks are written ('Two'). By an AI agent.
-/
namespace Go.Proofs.Ytkmhnkljigncmaa.genTab
open Go.RowKit Go.Proofs.Ytkmhnkljigncmaa.base Go.Proofs.Ytkmhnkljigncmaa.ints Go.Proofs.Ytkmhnkljigncmaa.sig Go.Proofs.Ytkmhnkljigncmaa.cursor Go.Proofs.Ytkmhnkljigncmaa.marks Go.Proofs.Ytkmhnkljigncmaa.app Go.Proofs.Ytkmhnkljigncmaa.appAt Go.Proofs.Ytkmhnkljigncmaa.sym Go.Proofs.Ytkmhnkljigncmaa.segs Go.Proofs.Ytkmhnkljigncmaa.segsHelp Go.Proofs.Ytkmhnkljigncmaa.term Go.Proofs.Ytkmhnkljigncmaa.sub Go.Proofs.Ytkmhnkljigncmaa.unifMath Go.Proofs.Ytkmhnkljigncmaa.genMath Go.Proofs.Ytkmhnkljigncmaa.genPos Go.Proofs.Ytkmhnkljigncmaa.appZ

/-- the table grows by no more than there is to read -/
theorem gs_len {sg : List Int} {T T' : Tb} {n : Nat} {u w g : List Int} (h : Gs sg T n u w g T') : T'.length ≤ T.length + u.length := by
  induction h with
  | nil T => simp
  | sym _ _ _ ih => simp only [List.length_cons] at *; omega
  | old hs _ _ _ _ ih =>
    obtain ⟨x, r, e, _⟩ := trm_cons hs
    subst e
    simp only [List.length_append, List.length_cons] at *
    omega
  | new hs _ _ _ _ ih =>
    obtain ⟨x, r, e, _⟩ := trm_cons hs
    subst e
    simp only [List.length_append, List.length_cons, List.length_nil] at *
    omega
theorem gs_glen {sg : List Int} {T T' : Tb} {n : Nat} {u w g : List Int} (h : Gs sg T n u w g T') : g.length ≤ u.length := by
  induction h with
  | nil T => simp
  | sym _ _ _ ih => simp only [List.length_cons] at *; omega
  | old hs _ _ _ _ ih =>
    obtain ⟨x, r, e, _⟩ := trm_cons hs
    subst e
    simp only [List.length_append, List.length_cons] at *
    omega
  | new hs _ _ _ _ ih =>
    obtain ⟨x, r, e, _⟩ := trm_cons hs
    subst e
    simp only [List.length_append, List.length_cons] at *
    omega

section
variable {w w' : World} {lo hi n c : Nat} {A L R : Option Addr} {xss : List (List Int)}
theorem topRow (h : Owns w lo hi L n c xss) : ∀ k, blk L = some k → (∃ cs, Row w k 24 cs) ∧ lo ≤ k ∧ k < w.heap.size := fun k hk => by
  obtain ⟨_, ⟨vs, hr, _, _⟩, _⟩ := h
  rcases own_form hr with ⟨rfl, _⟩ | ⟨g, cur, rfl, hb, hg, _⟩
  · cases hk
  · injection hk with hk
    subst hk
    exact ⟨⟨cur, hg⟩, hb, hg.lt⟩
/-- one table stays where the other one's block is written -/
theorem keepTab (h : Owns w lo hi A n c xss) (hL : ∀ k, blk L = some k → ∃ cs, Row w k 24 cs) (hne : ∀ k, blk L = some k → blk A ≠ some k) (hg : w.grownBy w' (blk L)) : Owns w' lo hi A n c xss := by
  obtain ⟨hl, ⟨vs, hr, hin, hap⟩, top⟩ := h
  refine ⟨hl, ⟨vs, World.ownsRow.kept hr hg ?_, fun j hj => (hin j hj).kept hg ?_, hap⟩, top⟩
  · rw [blk_own]
    cases e : blk L with
    | none => cases e' : blk A with
      | none => exact .inl rfl
      | some k => exact .inr (fun h => by cases h)
    | some k => exact .inr (hne k e)
  · cases e : blk L with
    | none => cases e' : (vs.getD j undef).ownBlock with
      | none => exact .inl rfl
      | some k => exact .inr (fun h => by cases h)
    | some k =>
      obtain ⟨cs, hc⟩ := hL k e
      exact .inr ((hin j hj).ne hc)
/-- only the blocks of L and R have turned -/
structure Two (w w' : World) (L R : Option Addr) : Prop where
  os : w'.os = w.os
  tape : w'.tape = w.tape
  output : w'.output = w.output
  size : w.heap.size ≤ w'.heap.size
  block : ∀ k, k < w.heap.size → blk L ≠ some k → blk R ≠ some k → w'.heap[k]? = w.heap[k]?
theorem Two.of_below (h : Below w.heap.size w w') : Two w w' L R := ⟨h.os, h.tape, h.output, h.size, fun k hk _ _ => h.block k hk⟩
theorem Two.left (h : w.grownBy w' (blk L)) : Two w w' L R := ⟨h.os, h.tape, h.output, h.size, fun k hk h1 _ => h.block k hk (fun e => h1 e.symm)⟩
theorem Two.right (h : w.grownBy w' (blk R)) : Two w w' L R := ⟨h.os, h.tape, h.output, h.size, fun k hk _ h2 => h.block k hk (fun e => h2 e.symm)⟩
theorem Two.trans {w1 w2 : World} {L1 R1 : Option Addr} (h : Two w w1 L R) (h' : Two w1 w2 L1 R1) (hL : ∀ k, blk L1 = some k → k < w.heap.size → blk L = some k) (hR : ∀ k, blk R1 = some k → k < w.heap.size → blk R = some k) : Two w w2 L R :=
  ⟨h'.os.trans h.os, h'.tape.trans h.tape, h'.output.trans h.output, Nat.le_trans h.size h'.size, fun k hk h1 h2 => (h'.block k (Nat.lt_of_lt_of_le hk h.size) (fun e => h1 (hL k e hk)) (fun e => h2 (hR k e hk))).trans (h.block k hk h1 h2)⟩
theorem Two.below {B : Nat} (h : Two w w' L R) (hL : ∀ k, blk L = some k → B ≤ k) (hR : ∀ k, blk R = some k → B ≤ k) (hB : B ≤ w.heap.size) : Below B w w' :=
  ⟨h.os, h.tape, h.output, h.size, fun k hk => h.block k (by omega) (fun e => by have := hL k e; omega) (fun e => by have := hR k e; omega)⟩
theorem Two.row {g : Nat} {t : TypeId} {cs : Array Value} (h : Two w w' L R) (hr : Row w g t cs) (h1 : blk L ≠ some g) (h2 : blk R ≠ some g) : Row w' g t cs := (h.block g hr.lt h1 h2).trans hr
/-- a list of numbers of the call's own stays -/
theorem Two.own {base : Nat} {v : Value} {xs : List Int} (h : Two w w' L R) (ho : Own w base v xs) (hL : ∀ k, blk L = some k → ∃ cs, Row w k 24 cs) (hR : ∀ k, blk R = some k → ∃ cs, Row w k 24 cs) : Own w' base v xs := by
  obtain ⟨h1, h2⟩ := ho
  refine ⟨h1, ?_⟩
  rcases h2 with h2 | ⟨g, cap, cur, e, hb, hg, hn, hm, hs, ht⟩
  · exact .inl h2
  · refine .inr ⟨g, cap, cur, e, hb, Two.row h hg (fun e => ?_) (fun e => ?_), hn, hm, hs, ht⟩
    · obtain ⟨cs, hc⟩ := hL g e
      exact Row.ne_ hg hc (by decide) rfl
    · obtain ⟨cs, hc⟩ := hR g e
      exact Row.ne_ hg hc (by decide) rfl

/-- the two tables: left, right, their blocks apart -/
structure Tabs (w : World) (lo : Nat) (L : Option Addr) (n lc : Nat) (R : Option Addr) (rc : Nat) (T : Tb) : Prop where
  l : Owns w lo w.heap.size L n lc (T.map Prod.fst)
  r : Owns w lo w.heap.size R n rc (T.map Prod.snd)
  ne : ∀ k, blk L = some k → blk R ≠ some k
variable {lc rc : Nat} {T : Tb}
theorem Tabs.len (h : Tabs w lo L n lc R rc T) : T.length = n := by have := h.l.len; simpa using this
theorem Tabs.next (h : Tabs w lo L n lc R rc T) (hb : Below w.heap.size w w') : Tabs w' lo L n lc R rc T := ⟨(h.l.next hb).wider (Nat.le_refl _) hb.size, (h.r.next hb).wider (Nat.le_refl _) hb.size, h.ne⟩
theorem Tabs.rowL (h : Tabs w lo L n lc R rc T) : ∀ k, blk L = some k → ∃ cs, Row w k 24 cs := fun k hk => (topRow h.l k hk).1
theorem Tabs.rowR (h : Tabs w lo L n lc R rc T) : ∀ k, blk R = some k → ∃ cs, Row w k 24 cs := fun k hk => (topRow h.r k hk).1
theorem Tabs.loL (h : Tabs w lo L n lc R rc T) : ∀ k, blk L = some k → lo ≤ k := fun k hk => (topRow h.l k hk).2.1
theorem Tabs.loR (h : Tabs w lo L n lc R rc T) : ∀ k, blk R = some k → lo ≤ k := fun k hk => (topRow h.r k hk).2.1
theorem Tabs.start (w : World) (lo : Nat) : Tabs w lo none 0 0 none 0 [] := ⟨Owns.nil _ _ _, Owns.nil _ _ _, fun k hk => by cases hk⟩
/-- both tables one pair longer -/
theorem Tabs.push {w1 w2 : World} {L' R' : Option Addr} {lc' rc' : Nat} {u v : List Int} (_ : Tabs w lo L n lc R rc T) (hs : w.heap.size ≤ w1.heap.size) (hl1 : Owns w1 lo w1.heap.size L' (n + 1) lc' (T.map Prod.fst ++ [u])) (hr2 : Owns w2 lo w2.heap.size R' (n + 1) rc' (T.map Prod.snd ++ [v])) (hl2 : Owns w2 lo w2.heap.size L' (n + 1) lc' (T.map Prod.fst ++ [u]))
    (hne : ∀ k, blk L' = some k → blk R ≠ some k) (hat : blk R' = blk R ∨ blk R' = some w1.heap.size) : Tabs w2 lo L' (n + 1) lc' R' rc' (T ++ [(u, v)]) := by
  refine ⟨by simpa using hl2, by simpa using hr2, fun k hk => ?_⟩
  rcases hat with e | e
  · rw [e]; exact hne k hk
  · rw [e]
    intro h
    injection h with h
    have := hl1.top k hk
    omega
end

/-- what l5General gives -/
def AnsGen (sg : List Int) (w : World) (lo : Nat) (L R : Option Addr) (n : Nat) (T : Tb) (u v : List Int) (e : Ending) (w' : World) : Prop :=
  ∃ (g : List Int) (T' : Tb) (O L' R' : Option Addr) (on oc n' lc' rc' : Nat), e = .returned (.tuple #[.slice O on oc, .slice L' n' lc', .slice R' n' rc']) ∧ Own w' w.heap.size (.slice O on oc) g ∧ Gs sg T 1 u v g T' ∧ Tabs w' lo L' n' lc' R' rc' T' ∧ Two w w' L R ∧
    (∀ k, blk L' = some k → k < w.heap.size → blk L = some k) ∧ (∀ k, blk R' = some k → k < w.heap.size → blk R = some k) ∧
    ∀ Z : Nat → Prop, (∀ z, Z z → z < w.heap.size) → Avoid Z w L n → Avoid Z w R n → Avoid Z w' L' n' ∧ Avoid Z w' R' n'
end Go.Proofs.Ytkmhnkljigncmaa.genTab
end

section
/-
  CONTRACT: spec.l5General, where the two places do not hold one symbol: the pair is looked for in the tables, or put there. Conditions: the slices read as lists, the places begin subterms, the lists of the tables are at most 1048576 numbers long. (Written by tools/mkgen.py.) By an AI agent.
-/
namespace Go.Proofs.Ytkmhnkljigncmaa.genSpec
open Go.RowKit Go.Proofs.Ytkmhnkljigncmaa.base Go.Proofs.Ytkmhnkljigncmaa.ints Go.Proofs.Ytkmhnkljigncmaa.sig Go.Proofs.Ytkmhnkljigncmaa.cursor Go.Proofs.Ytkmhnkljigncmaa.marks Go.Proofs.Ytkmhnkljigncmaa.app Go.Proofs.Ytkmhnkljigncmaa.appAt Go.Proofs.Ytkmhnkljigncmaa.sym Go.Proofs.Ytkmhnkljigncmaa.segs Go.Proofs.Ytkmhnkljigncmaa.segsHelp Go.Proofs.Ytkmhnkljigncmaa.term Go.Proofs.Ytkmhnkljigncmaa.sub Go.Proofs.Ytkmhnkljigncmaa.look Go.Proofs.Ytkmhnkljigncmaa.plain Go.Proofs.Ytkmhnkljigncmaa.same Go.Proofs.Ytkmhnkljigncmaa.posMath Go.Proofs.Ytkmhnkljigncmaa.unifMath Go.Proofs.Ytkmhnkljigncmaa.genMath Go.Proofs.Ytkmhnkljigncmaa.genPos Go.Proofs.Ytkmhnkljigncmaa.genTab Go.Proofs.Ytkmhnkljigncmaa.appZ
set_option maxRecDepth 100000

theorem drewN_below (w : World) (d : Nat) : Below w.heap.size w (w.drewN d) := ⟨rfl, rfl, rfl, Nat.le_refl _, fun _ _ => rfl⟩
/-- what stands in the course of the call -/
structure Gw (w wr : World) (lo : Nat) (A : Option Addr) (n c : Nat) (sg : List Int) (P : Option Addr) (m : Nat) (a : List Int) (Q : Option Addr) (k : Nat) (b : List Int) (L : Option Addr) (ln lc : Nat) (R : Option Addr) (rc : Nat) (T : Tb) : Prop where
  r0 : Row wr w.heap.size 26 #[.slice A n c]
  s : Seg wr lo A n sg
  pa : Seg wr lo P m a
  qb : Seg wr lo Q k b
  t : Tabs wr lo L ln lc R rc T
  le : lo ≤ w.heap.size
  bel : Below w.heap.size w wr
section
variable {w wr w' : World} {lo : Nat} {A : Option Addr} {n c : Nat} {sg : List Int} {P : Option Addr} {m : Nat} {a : List Int} {Q : Option Addr} {k : Nat} {b : List Int} {L : Option Addr} {ln lc : Nat} {R : Option Addr} {rc : Nat} {T : Tb}
theorem Gw.next (h : Gw w wr lo A n c sg P m a Q k b L ln lc R rc T) (hb : Below wr.heap.size wr w') : Gw w w' lo A n c sg P m a Q k b L ln lc R rc T :=
  have hw : Below w.heap.size wr w' := hb.mono h.bel.size
  have hl : Below lo wr w' := hw.mono h.le
  ⟨h.r0.next hb, h.s.below hl, h.pa.below hl, h.qb.below hl, h.t.next hb, h.le, h.bel.trans hw⟩
theorem Gw.c0 (h : Gw w wr lo A n c sg P m a Q k b L ln lc R rc T) : wr.cell? ⟨w.heap.size, 0, none⟩ = some (.slice A n c) := h.r0.cell 0
theorem Gw.low (h : Gw w wr lo A n c sg P m a Q k b L ln lc R rc T) : lo ≤ wr.heap.size := Nat.le_trans h.le h.bel.size
theorem Gw.start (h : Seg w lo A n sg) (hp : Seg w lo P m a) (hq : Seg w lo Q k b) (ht : Tabs w lo L ln lc R rc T) (hl : lo ≤ w.heap.size) : Gw w (w.alloc (.cells #[.slice A n c] 26)) lo A n c sg P m a Q k b L ln lc R rc T := by
  have b0 : Below w.heap.size w (w.alloc (.cells #[.slice A n c] 26)) := (Below.refl _ _).alloc (Nat.le_refl _) _
  exact ⟨Row.new _ _ _, h.below (b0.mono hl), hp.below (b0.mono hl), hq.below (b0.mono hl), ht.next b0, hl, b0⟩
end
/-- a new list of one number -/
theorem one_own (w : World) (base : Nat) (x : Int) (hb : base ≤ w.heap.size) : Own (w.alloc (.cells #[.int .i64 x] 2)) base (.slice (some ⟨w.heap.size, 0, none⟩) 1 1) [x] :=
  Own.of_row (Row.new _ _ _) rfl rfl (Nat.le_refl _) (by omega) hb (fun j hj => by
    obtain rfl : j = 0 := by omega
    rfl)
theorem cell2 (w : World) (o : Obj) (v : Value) (t : TypeId) : ((w.alloc o).alloc (.cells #[v] t)).cell? ⟨w.heap.size + 1, 0, none⟩ = some v := by simp
theorem tb_at {T : Tb} {i : Nat} {u v : List Int} (hi : i < T.length) (h1 : (T.map Prod.fst).getD i [] = u) (h2 : (T.map Prod.snd).getD i [] = v) : T[i]? = some (u, v) := by
  simp [List.getD, hi] at h1 h2
  rw [List.getElem?_eq_getElem hi, ← h1, ← h2]
theorem tb_not {T : Tb} {i : Nat} {u v : List Int} (hi : i < T.length) (h : ¬ ((T.map Prod.fst).getD i [] = u ∧ (T.map Prod.snd).getD i [] = v)) : T[i]? ≠ some (u, v) := by
  intro e
  refine h ?_
  rw [List.getElem?_eq_getElem hi] at e
  injection e with e
  simp [List.getD, hi, e]
theorem tb_mem {T : Tb} {u v : List Int} (h : ∀ j, j < T.length → T[j]? ≠ some (u, v)) : (u, v) ∉ T := by
  intro hm
  obtain ⟨j, hj, e⟩ := List.getElem_of_mem hm
  exact h j hj (by rw [List.getElem?_eq_getElem hj, e])
theorem tb_len {T : Tb} {B i : Nat} (h : ∀ x ∈ T, x.1.length ≤ B ∧ x.2.length ≤ B) : ((T.map Prod.fst).getD i []).length ≤ B ∧ ((T.map Prod.snd).getD i []).length ≤ B := by
  by_cases hi : i < T.length
  · have := h T[i] (List.getElem_mem hi)
    simpa [List.getD, hi] using this
  · simp [List.getD, hi]

section
variable {w wr w' w6 w7 : World} {lo : Nat} {A : Option Addr} {n c : Nat} {sg : List Int} {P : Option Addr} {m : Nat} {a : List Int} {Q : Option Addr} {k : Nat} {b : List Int} {L : Option Addr} {ln lc : Nat} {R : Option Addr} {rc : Nat} {T : Tb} {u v : List Int}
theorem two_alloc (wr : World) (o1 o2 : Obj) : Below wr.heap.size wr ((wr.alloc o1).alloc o2) := ((Below.refl _ _).alloc (Nat.le_refl _) _).alloc (by simp) _
theorem st1 (G : Gw w wr lo A n c sg P m a Q k b L ln lc R rc T) (T0 : Tabs w lo L ln lc R rc T) (o1 o2 : Obj) : Owns ((wr.alloc o1).alloc o2) lo w.heap.size L ln lc (T.map Prod.fst) ∧ Owns ((wr.alloc o1).alloc o2) lo w.heap.size R ln rc (T.map Prod.snd) :=
  have bb := next_trans G.bel (two_alloc wr o1 o2)
  ⟨T0.l.next bb, T0.r.next bb⟩
theorem st2 {B xn xc : Nat} {X : Option Addr} (ox : Own wr B (.slice X xn xc) u) (hB : w.heap.size ≤ B) (o1 o2 : Obj) : Inn ((wr.alloc o1).alloc o2) w.heap.size ((wr.alloc o1).alloc o2).heap.size (.slice X xn xc) u :=
  ((inn_own ox).next (two_alloc wr o1 o2)).wider hB (two_alloc wr o1 o2).size
theorem st3 {wB : World} (hL : Owns wB lo w.heap.size L ln lc (T.map Prod.fst)) (hR : Owns wB lo w.heap.size R ln rc (T.map Prod.snd)) (T0 : Tabs w lo L ln lc R rc T) (hg : wB.grownBy w6 (blk L)) (o : Obj) : Owns (w6.alloc o) lo w.heap.size R ln rc (T.map Prod.snd) :=
  (keepTab hR (fun k hk => (topRow hL k hk).1) T0.ne hg).next ((Below.refl _ _).alloc (Nat.le_refl _) _)
theorem st4 {wB : World} {Y : Option Addr} {yn yc : Nat} (hL : Owns wB lo w.heap.size L ln lc (T.map Prod.fst)) (hy : Inn wB w.heap.size wB.heap.size (.slice Y yn yc) v) (hg : wB.grownBy w6 (blk L)) (o : Obj) : Inn (w6.alloc o) w.heap.size (w6.alloc o).heap.size (.slice Y yn yc) v := by
  have h1 : Inn w6 w.heap.size wB.heap.size (.slice Y yn yc) v := by
    refine hy.kept hg ?_
    cases e : blk L with
    | none => cases e' : (Value.slice Y yn yc).ownBlock with
      | none => exact .inl rfl
      | some k => exact .inr (fun h => by cases h)
    | some k =>
      obtain ⟨cs, hc⟩ := (topRow hL k e).1
      exact .inr (hy.ne hc)
  have b0 : Below w6.heap.size w6 (w6.alloc o) := (Below.refl _ _).alloc (Nat.le_refl _) _
  exact (h1.next b0).wider (Nat.le_refl _) (Nat.le_trans hg.size b0.size)
theorem avPush {Z : Nat → Prop} {w0 wB : World} {L L' : Option Addr} {nn hi : Nat} {x : Value} {xs : List Int} (hZ : ∀ z, Z z → z < w0.heap.size) (bel : Below w0.heap.size w0 wB) (topL : ∀ k, blk L = some k → k < w0.heap.size) (h : Avoid Z w0 L nn) (hv : Inn wB w0.heap.size hi x xs)
    (hcell : ∀ j b' u, j < nn + 1 → L' = some ⟨b', 0, none⟩ → w6.cell? ⟨b', j, none⟩ = some u → (∃ b, j < nn ∧ L = some ⟨b, 0, none⟩ ∧ wB.cell? ⟨b, j, none⟩ = some u) ∨ (j = nn ∧ u = x)) : Avoid Z w6 L' (nn + 1) := by
  intro j b' u hj e hc z hz
  rcases hcell j b' u hj e hc with ⟨b, hj', e2, hc2⟩ | ⟨_, rfl⟩
  · refine h j b u hj' e2 ?_ z hz
    rw [← hc2]
    exact (bel.cell (p := ⟨b, j, none⟩) (topL b (by rw [e2]; rfl))).symm
  · intro e3
    have := (hv.blk z e3).1
    have := hZ z hz
    omega
/-- nothing turned in the tables -/
theorem avSame {Z : Nat → Prop} {nn : Nat} {L : Option Addr} (bel : Below w.heap.size w w') (topL : ∀ k, blk L = some k → k < w.heap.size) (h : Avoid Z w L nn) : Avoid Z w' L nn :=
  h.keep fun b j e => bel.cell (p := ⟨b, j, none⟩) (topL b (by rw [e]; rfl))
/-- the end: both tables one pair longer -/
theorem st5 {L' R' : Option Addr} {lc' rc' : Nat} (x : Int) (o2 o3 : Obj) (G : Gw w wr lo A n c sg P m a Q k b L ln lc R rc T) (T0 : Tabs w lo L ln lc R rc T) (hgs : Gs sg T 1 u v [x] (T ++ [(u, v)]))
    (hg6 : ((wr.alloc (.cells #[.int .i64 x] 2)).alloc o2).grownBy w6 (blk L)) (ho6 : Owns w6 lo w6.heap.size L' (ln + 1) lc' (T.map Prod.fst ++ [u])) (hat6 : blk L' = blk L ∨ blk L' = some ((wr.alloc (.cells #[.int .i64 x] 2)).alloc o2).heap.size)
    (hg7 : (w6.alloc o3).grownBy w7 (blk R)) (ho7 : Owns w7 lo w7.heap.size R' (ln + 1) rc' (T.map Prod.snd ++ [v])) (hat7 : blk R' = blk R ∨ blk R' = some (w6.alloc o3).heap.size) {vX vY : Value}
    (hX : Inn ((wr.alloc (.cells #[.int .i64 x] 2)).alloc o2) w.heap.size ((wr.alloc (.cells #[.int .i64 x] 2)).alloc o2).heap.size vX u) (hY : Inn (w6.alloc o3) w.heap.size (w6.alloc o3).heap.size vY v)
    (hc6 : ∀ j b' z, j < ln + 1 → L' = some ⟨b', 0, none⟩ → w6.cell? ⟨b', j, none⟩ = some z → (∃ b, j < ln ∧ L = some ⟨b, 0, none⟩ ∧ ((wr.alloc (.cells #[.int .i64 x] 2)).alloc o2).cell? ⟨b, j, none⟩ = some z) ∨ (j = ln ∧ z = vX))
    (hc7 : ∀ j b' z, j < ln + 1 → R' = some ⟨b', 0, none⟩ → w7.cell? ⟨b', j, none⟩ = some z → (∃ b, j < ln ∧ R = some ⟨b, 0, none⟩ ∧ (w6.alloc o3).cell? ⟨b, j, none⟩ = some z) ∨ (j = ln ∧ z = vY)) :
    AnsGen sg w lo L R ln T u v (.returned (.tuple #[.slice (some ⟨wr.heap.size, 0, none⟩) 1 1, .slice L' (ln + 1) lc', .slice R' (ln + 1) rc'])) w7 := by
  have hz := G.bel.size
  have tL : ∀ k, blk L = some k → k < w.heap.size := T0.l.top
  have tR : ∀ k, blk R = some k → k < w.heap.size := T0.r.top
  obtain ⟨k1, k2⟩ := st1 G T0 (.cells #[.int .i64 x] 2) o2
  have k3 := st3 k1 k2 T0 hg6 o3
  have z1 : ((wr.alloc (.cells #[.int .i64 x] 2)).alloc o2).heap.size = wr.heap.size + 1 + 1 := by simp
  have z6 := hg6.size
  have b6 : Below w6.heap.size w6 (w6.alloc o3) := (Below.refl _ _).alloc (Nat.le_refl _) _
  have z7 := hg7.size
  have zb := b6.size
  have hne : ∀ k, blk R = some k → blk L' ≠ some k := fun k hk e => by
    rcases hat6 with h | h
    · rw [h] at e; exact T0.ne k e hk
    · rw [h] at e
      injection e with e
      have := tR k hk
      omega
  have o6 := (ho6.next b6).wider (Nat.le_refl lo) zb
  have o7 : Owns w7 lo w7.heap.size L' (ln + 1) lc' (T.map Prod.fst ++ [u]) := (keepTab o6 (fun k hk => (topRow k3 k hk).1) hne hg7).wider (Nat.le_refl lo) z7
  have hout : Own w7 w.heap.size (.slice (some ⟨wr.heap.size, 0, none⟩) 1 1) [x] := by
    have e0 := one_own wr w.heap.size x hz
    have e1 : Own ((wr.alloc (.cells #[.int .i64 x] 2)).alloc o2) w.heap.size (.slice (some ⟨wr.heap.size, 0, none⟩) 1 1) [x] := Own.next e0 ((Below.refl _ _).alloc (Nat.le_refl _) _)
    have e2 := Own.far e1 hg6 tL
    exact Own.far (Own.next e2 b6) hg7 tR
  have two0 : Two w ((wr.alloc (.cells #[.int .i64 x] 2)).alloc o2) L R := Two.of_below (next_trans G.bel (two_alloc _ _ _))
  have two1 : Two w w6 L R := two0.trans (Two.left (R := R) hg6) (fun k h _ => h) (fun k h _ => h)
  have two2 : Two w (w6.alloc o3) L R := two1.trans (L1 := L) (R1 := R) (Two.of_below b6) (fun k h _ => h) (fun k h _ => h)
  have two3 : Two w w7 L R := two2.trans (L1 := L) (R1 := R) (Two.right hg7) (fun k h _ => h) (fun k h _ => h)
  refine ⟨[x], T ++ [(u, v)], _, L', R', 1, 1, ln + 1, lc', rc', rfl, hout, hgs, ⟨by simpa using o7, by simpa using ho7, fun k hk => ?_⟩, two3, fun k hk hlt => ?_, fun k hk hlt => ?_, fun Z hZ a1 a2 => ⟨?_, ?_⟩⟩
  · rcases hat7 with e | e
    · rw [e]; exact fun h => hne k h hk
    · rw [e]
      intro h
      injection h with h
      have := ho6.top k hk
      omega
  · rcases hat6 with e | e
    · rw [← e]; exact hk
    · rw [e] at hk; injection hk with hk; omega
  · rcases hat7 with e | e
    · rw [← e]; exact hk
    · rw [e] at hk; injection hk with hk; omega
  · refine (avPush hZ (next_trans G.bel (two_alloc _ _ _)) tL a1 hX hc6).keep fun b j e => ?_
    have hb := ho6.top b (by rw [e]; rfl)
    have h1 : (w6.alloc o3).cell? ⟨b, j, none⟩ = w6.cell? ⟨b, j, none⟩ := b6.cell (p := ⟨b, j, none⟩) hb
    rw [← h1]
    exact World.cell?_of_block (hg7.block b (by omega) (fun e2 => hne b e2.symm (by rw [e]; rfl)))
  · have bR : Avoid Z (w6.alloc o3) R ln := by
      refine a2.keep fun b j e => ?_
      have hb := tR b (by rw [e]; rfl)
      have h0 : ((wr.alloc (.cells #[.int .i64 x] 2)).alloc o2).cell? ⟨b, j, none⟩ = w.cell? ⟨b, j, none⟩ := (next_trans G.bel (two_alloc _ _ _)).cell (p := ⟨b, j, none⟩) hb
      have h1 : (w6.alloc o3).cell? ⟨b, j, none⟩ = w6.cell? ⟨b, j, none⟩ := b6.cell (p := ⟨b, j, none⟩) (show b < w6.heap.size by omega)
      rw [h1, ← h0]
      exact World.cell?_of_block (hg6.block b (by omega) (fun e2 => T0.ne b e2.symm (by rw [e]; rfl)))
    intro j b' z hj e hc y hy
    rcases hc7 j b' z hj e hc with ⟨b, hj', e2, hc2⟩ | ⟨_, rfl⟩
    · exact bR j b z hj' e2 hc2 y hy
    · intro e3
      have := (hY.blk y e3).1
      have := hZ y hy
      omega
end

set_option maxHeartbeats 4000000 in
theorem apart (A P Q L R : Option Addr) (n c m mc k kc ln lc rc lo p q j j' : Nat) (sg a b : List Int) (T : Tb) (w : World) (h : Seg w lo A n sg) (hp : Seg w lo P m a) (hq : Seg w lo Q k b) (ht : Tabs w lo L ln lc R rc T) (hlo : lo ≤ w.heap.size) (hn : n ≤ 1048576) (hm : m ≤ 1048576) (hk : k ≤ 1048576) (hcm : m ≤ mc ∧ mc ≤ 9223372036854775807) (hck : k ≤ kc ∧ kc ≤ 9223372036854775807) (hln : ln ≤ 1048576)
    (hs : Arities sg) (hj : scan sg 1 (a.drop p) = some j) (hj' : scan sg 1 (b.drop q) = some j') (hT : ∀ x ∈ T, x.1.length ≤ 1048576 ∧ x.2.length ≤ 1048576) (hnot : ¬ (0 ≤ a.getD p 0 ∧ a.getD p 0 = b.getD q 0)) :
    Calls Try.prog 118 #[.agg #[.slice A n c], .slice P m mc, .int .i64 (p : Int), .slice Q k kc, .int .i64 (q : Int), .slice L ln lc, .slice R ln rc] w (AnsGen sg w lo L R ln T (subL sg a p) (subL sg b q)) := by
  have la := hp.1
  have lb := hq.1
  obtain ⟨_, rfl, hpm, _, _⟩ := scan_args hj
  obtain ⟨_, rfl, hqk, _, _⟩ := scan_args hj'
  have s2 := scan_le hj
  have s3 := scan_le hj'
  rw [List.length_drop] at s2 s3
  rw [la] at hpm s2
  rw [lb] at hqk s3
  have GS := Lib.hid (fun i (e : T[i]? = some (subL sg a p, subL sg b q)) => gp_old hj hj' hnot e)
  have GN := Lib.hid (fun (e : (subL sg a p, subL sg b q) ∉ T) => gp_new hj hj' hnot e)
  have lu : (subL sg a p).length ≤ 1048576 := by unfold subL; rw [List.length_take, List.length_drop]; omega
  have lv : (subL sg b q).length ≤ 1048576 := by unfold subL; rw [List.length_take, List.length_drop]; omega
  obtain ⟨W, hW⟩ : ∃ W, W = w.alloc (.cells #[.slice A n c] 26) := ⟨_, rfl⟩
  have G0 : Gw w W lo A n c sg P m a Q k b L ln lc R rc T := by rw [hW]; exact Gw.start h hp hq ht hlo
  have T0 := Lib.hid ht
  have LP := Lib.hid (fun w' (G : Gw w w' lo A n c sg P m a Q k b L ln lc R rc T) => l1Sub A P n c m mc sg a p _ w' (G.s.more G.low) (G.pa.more G.low) hn hm hcm.1 hcm.2 hs hpm hj (by omega) (by omega))
  have LQ := Lib.hid (fun w' (G : Gw w w' lo A n c sg P m a Q k b L ln lc R rc T) => l1Sub A Q n c k kc sg b q _ w' (G.s.more G.low) (G.qb.more G.low) hn hk hck.1 hck.2 hs hqk hj' (by omega) (by omega))
  obtain ⟨b1, o1, x, rfl, hb1, hx, ex⟩ := G0.pa.spot hpm
  obtain ⟨b2, o2, y, rfl, hb2, hy, ey⟩ := G0.qb.spot hqk
  rw [ex.out, ey.out] at hnot
  have i0 : (0 : Int) ≤ (p : Int) := by omega
  have i1 : (p : Int) < (m : Int) := by omega
  have j0 : (0 : Int) ≤ (q : Int) := by omega
  have j1 : (q : Int) < (k : Int) := by omega
  have HW := Lib.hid hW
  have HT := Lib.hid hT
  have HLT := Lib.hid ht.len
  generalize hu : subL sg a p = u at *
  generalize hv : subL sg b q = v at *
  clear hW h hp hq ht ex ey hT hj hj' s2 s3 hu hv la lb hs
  by_cases h0 : 0 ≤ x
  · have hxy : (x == y) = false := by simp; exact fun e => hnot ⟨h0, e⟩
    clear hnot
    go_enter Try.func118, Try.ntmps118
    go_wp2_with fail
    rw [← HW.out]
    go_quiet (fail)
    have G1 := G0.next (drewN_below W nq)
    have G1w := G1.bel.size
    clear G0 hx hy HW
    generalize W.drewN nq = w1 at *
    have G1z := Lib.hid G1w
    clear G1w
    have c0 := G1.c0
    go_wp2_with fail
    refine (LP.out w1 G1).mono ?_
    rintro e w2 ⟨X, xn, xc, rfl, ox, bb⟩
    have G2 := G1.next bb
    clear c0 G1
    have c0 := G2.c0
    go_wp2_with fail
    refine (LQ.out w2 G2).mono ?_
    rintro e w3 ⟨Y, yn, yc, rfl, oy, bb3⟩
    have G3 := G2.next bb3
    have ox3 := Own.next ox bb3
    have hxl := Lib.hid (Own.len ox)
    have hyl := Lib.hid (Own.len oy)
    have z12 := Lib.hid bb.size
    have z23 := Lib.hid bb3.size
    clear c0 G2 bb bb3 ox LP LQ
    go_wp2_with fail
    go_loopw [26] (fun i wr => ∃ i' d : Nat, i' ≤ ln ∧ i = .int .i64 i' ∧ wr = w3.drewN d ∧ ∀ j, j < i' → T[j]? ≠ some (u, v)) (fun i _ => ln - (intOf i).toNat)
    case atStart => exact ⟨0, 0, Nat.zero_le _, rfl, rfl, fun j hj => absurd hj (Nat.not_lt_zero _)⟩
    case round =>
      obtain ⟨i, d, hi, rfl, hwr, hno⟩ := hrel
      have HNO := Lib.hid hno
      clear hno
      have bd : Below w3.heap.size w3 wr := by rw [hwr]; exact drewN_below w3 d
      have G4 := G3.next bd
      have ox4 := Own.next ox3 bd
      have oy4 := Own.next oy bd
      have HWR := Lib.hid hwr
      have z34 := Lib.hid bd.size
      clear G3 ox3 oy hwr bd
      by_cases hlt : i < ln
      · have i3 : (0 : Int) ≤ (i : Int) := by omega
        have i4 : (i : Int) < (ln : Int) := by omega
        obtain ⟨b3, o3, A1, n1, c1, hLe, hb3, hc3, hs3, hcap3⟩ := G4.t.l.segs.spot hlt
        obtain ⟨b4, o4, A2, n2, c2, hRe, hb4, hc4, hs4, hcap4⟩ := G4.t.r.segs.spot hlt
        subst hLe hRe
        have L1 := Lib.hid (specSame A1 X n1 xn c1 xc _ u wr hs3 (Own.seg ox4) (by rw [← hs3.1]; exact (tb_len HT.out).1) (by rw [hxl.out]; exact lu))
        have L2 := Lib.hid (fun d5 => specSame A2 Y n2 yn c2 yc _ v (wr.drewN d5) (hs4.drewN d5) (Own.seg (Own.drewN oy4 d5)) (by rw [← hs4.1]; exact (tb_len HT.out).2) (by rw [hyl.out]; exact lv))
        have G5 := Lib.hid (fun d => G4.next (drewN_below wr d))
        have SR := Lib.hid (fun d' (hnx : T[i]? ≠ some (u, v)) => (show ∃ i' d : Nat, i' ≤ ln ∧ (.int .i64 ((i : Int) + 1) : Value) = .int .i64 i' ∧ wr.drewN d' = w3.drewN d ∧ ∀ j, j < i' → T[j]? ≠ some (u, v) from ⟨i + 1, d + d', hlt, by simp, by rw [HWR.out, World.drewN_drewN], fun j hj => by
          by_cases e : j = i
          · rw [e]; exact hnx
          · exact HNO.out j (by omega)⟩))
        have hiT : i < T.length := by rw [HLT.out]; exact hlt
        clear hs3 hs4 ox4 oy4 hcap3 hcap4 G4
        go_wp2_with fail
        refine L1.out.mono ?_
        rintro e w5 ⟨he, d5, rfl⟩
        clear L1
        by_cases e1 : (T.map Prod.fst).getD i [] = u
        · rw [decide_eq_true e1] at he
          subst he
          have hc5 : (wr.drewN d5).cell? ⟨b4, o4 + i, none⟩ = some (.slice A2 n2 c2) := hc4
          have L2 := Lib.hid (L2.out d5)
          clear hc3 hc4
          go_wp2_with fail
          refine L2.out.mono ?_
          rintro e w6 ⟨he, d6, rfl⟩
          clear L2
          rw [World.drewN_drewN]
          by_cases e2 : (T.map Prod.snd).getD i [] = v
          · rw [decide_eq_true e2] at he
            subst he
            have G6 := G5.out (d5 + d6)
            have F := Lib.hid (show AnsGen sg w lo (some ⟨b3, o3, none⟩) (some ⟨b4, o4, none⟩) ln T u v (.returned (.tuple #[.slice (some ⟨(wr.drewN (d5 + d6)).heap.size, 0, none⟩) 1 1, .slice (some ⟨b3, o3, none⟩) ln lc, .slice (some ⟨b4, o4, none⟩) ln rc])) ((wr.drewN (d5 + d6)).alloc (.cells #[.int .i64 (-1 - (i : Int))] 2)) from
              ⟨[-1 - (i : Int)], T, _, _, _, 1, 1, ln, lc, rc, rfl, one_own _ _ _ G6.bel.size, GS.out i (tb_at hiT e1 e2), G6.t.next ((Below.refl _ _).alloc (Nat.le_refl _) _), Two.of_below (next_trans G6.bel ((Below.refl _ _).alloc (Nat.le_refl _) _)), fun k h _ => h, fun k h _ => h, fun Z hZ a1 a2 => ⟨avSame (next_trans G6.bel ((Below.refl _ _).alloc (Nat.le_refl _) _)) T0.out.l.top a1, avSame (next_trans G6.bel ((Below.refl _ _).alloc (Nat.le_refl _) _)) T0.out.r.top a2⟩⟩)
            clear G6 G5 SR hc5
            generalize wr.drewN (d5 + d6) = w7 at *
            go_wp2
            go_ret3
            exact F.out
          · rw [decide_eq_false e2] at he
            subst he
            have S := Lib.hid (SR.out (d5 + d6) (tb_not hiT (fun h => e2 h.2)))
            clear SR G5 hc5
            generalize wr.drewN (d5 + d6) = w7 at *
            go_wp2
            go_roundw
            case rel => exact S.out
            case measure => simp [intOf]; omega
        · rw [decide_eq_false e1] at he
          subst he
          have S := Lib.hid (SR.out d5 (tb_not hiT (fun h => e1 h.1)))
          clear SR G5 L2 hc3 hc4
          generalize wr.drewN d5 = w7 at *
          go_wp2
          go_roundw
          case rel => exact S.out
          case measure => simp [intOf]; omega
      · obtain rfl : i = ln := by omega
        have hgs := GN.out (tb_mem (by rw [HLT.out]; exact HNO.out))
        rw [HLT.out] at hgs
        have z0 := G1z.out
        have K := Lib.hid (st1 G4 T0.out)
        have KX := Lib.hid (st2 (w := w) ox4 (by omega))
        have KY := Lib.hid (st2 (w := w) oy4 (by have := z12.out; omega))
        have K3 := Lib.hid (fun (o1 o2 o3 : Obj) w6 (hg : World.grownBy ((wr.alloc o1).alloc o2) w6 (blk L)) => st3 (K.out o1 o2).1 (K.out o1 o2).2 T0.out hg o3)
        have K4 := Lib.hid (fun (o1 o2 o3 : Obj) w6 (hg : World.grownBy ((wr.alloc o1).alloc o2) w6 (blk L)) => st4 (K.out o1 o2).1 (KY.out o1 o2) hg o3)
        have hzr := G4.bel.size
        have F := Lib.hid (fun (o2 o3 : Obj) (L' R' : Option Addr) (lc' rc' : Nat) (w6 w7 : World) (hg6 : World.grownBy ((wr.alloc (.cells #[.int .i64 (-1 - (i : Int))] 2)).alloc o2) w6 (blk L)) ho6 hat6 hg7 ho7 hat7 hX hY hc6 hc7 => st5 (w6 := w6) (w7 := w7) (L' := L') (R' := R') (lc' := lc') (rc' := rc') (-1 - (i : Int)) o2 o3 G4 T0.out hgs hg6 ho6 hat6 hg7 ho7 hat7 (vX := .slice X xn xc) (vY := .slice Y yn yc) hX hY hc6 hc7)
        clear hgs G4 ox4 oy4 GS GN HNO
        go_wp2_with (at_builtin; go_must (refine appS1Z rfl _ _ rfl lo w.heap.size L i lc (T.map Prod.fst) rfl (K.out _ _).1 _ 1 (.slice X xn xc) u rfl (cell2 _ _ _ _) (KX.out _ _) (by omega) (by omega) (by simp; omega) ?_; intro L' lc' w6 ho6 hg6 hat6 b6 hc6; refine (?_ : Hid _).out))
        refine Lib.hid ?_
        go_wp2_with (at_builtin; go_must (refine appS1Z rfl _ _ rfl lo w.heap.size R i rc (T.map Prod.snd) rfl (K3.out _ _ _ _ hg6) _ 1 (.slice Y yn yc) v rfl ((Row.new _ _ _).cell 0) (K4.out _ _ _ _ hg6) (by omega) (by omega) (by have := hg6.size; simp at this ⊢; omega) ?_; intro R' rc' w7 ho7 hg7 hat7 b7 hc7))
        go_wp2
        go_ret3
        exact F.out _ _ _ _ _ _ _ _ hg6 ho6 hat6 hg7 ho7 hat7 (KX.out _ _) (K4.out _ _ _ _ hg6) hc6 hc7
  · have hxd : decide (0 ≤ x) = false := decide_eq_false h0
    go_enter Try.func118, Try.ntmps118
    go_wp2_with fail
    rw [← HW.out]
    go_quiet (fail)
    have G1 := G0.next (drewN_below W nq)
    have G1w := G1.bel.size
    clear G0 hx hy HW
    generalize W.drewN nq = w1 at *
    have G1z := Lib.hid G1w
    clear G1w
    have c0 := G1.c0
    go_wp2_with fail
    refine (LP.out w1 G1).mono ?_
    rintro e w2 ⟨X, xn, xc, rfl, ox, bb⟩
    have G2 := G1.next bb
    clear c0 G1
    have c0 := G2.c0
    go_wp2_with fail
    refine (LQ.out w2 G2).mono ?_
    rintro e w3 ⟨Y, yn, yc, rfl, oy, bb3⟩
    have G3 := G2.next bb3
    have ox3 := Own.next ox bb3
    have hxl := Lib.hid (Own.len ox)
    have hyl := Lib.hid (Own.len oy)
    have z12 := Lib.hid bb.size
    have z23 := Lib.hid bb3.size
    clear c0 G2 bb bb3 ox LP LQ
    go_wp2_with fail
    go_loopw [26] (fun i wr => ∃ i' d : Nat, i' ≤ ln ∧ i = .int .i64 i' ∧ wr = w3.drewN d ∧ ∀ j, j < i' → T[j]? ≠ some (u, v)) (fun i _ => ln - (intOf i).toNat)
    case atStart => exact ⟨0, 0, Nat.zero_le _, rfl, rfl, fun j hj => absurd hj (Nat.not_lt_zero _)⟩
    case round =>
      obtain ⟨i, d, hi, rfl, hwr, hno⟩ := hrel
      have HNO := Lib.hid hno
      clear hno
      have bd : Below w3.heap.size w3 wr := by rw [hwr]; exact drewN_below w3 d
      have G4 := G3.next bd
      have ox4 := Own.next ox3 bd
      have oy4 := Own.next oy bd
      have HWR := Lib.hid hwr
      have z34 := Lib.hid bd.size
      clear G3 ox3 oy hwr bd
      by_cases hlt : i < ln
      · have i3 : (0 : Int) ≤ (i : Int) := by omega
        have i4 : (i : Int) < (ln : Int) := by omega
        obtain ⟨b3, o3, A1, n1, c1, hLe, hb3, hc3, hs3, hcap3⟩ := G4.t.l.segs.spot hlt
        obtain ⟨b4, o4, A2, n2, c2, hRe, hb4, hc4, hs4, hcap4⟩ := G4.t.r.segs.spot hlt
        subst hLe hRe
        have L1 := Lib.hid (specSame A1 X n1 xn c1 xc _ u wr hs3 (Own.seg ox4) (by rw [← hs3.1]; exact (tb_len HT.out).1) (by rw [hxl.out]; exact lu))
        have L2 := Lib.hid (fun d5 => specSame A2 Y n2 yn c2 yc _ v (wr.drewN d5) (hs4.drewN d5) (Own.seg (Own.drewN oy4 d5)) (by rw [← hs4.1]; exact (tb_len HT.out).2) (by rw [hyl.out]; exact lv))
        have G5 := Lib.hid (fun d => G4.next (drewN_below wr d))
        have SR := Lib.hid (fun d' (hnx : T[i]? ≠ some (u, v)) => (show ∃ i' d : Nat, i' ≤ ln ∧ (.int .i64 ((i : Int) + 1) : Value) = .int .i64 i' ∧ wr.drewN d' = w3.drewN d ∧ ∀ j, j < i' → T[j]? ≠ some (u, v) from ⟨i + 1, d + d', hlt, by simp, by rw [HWR.out, World.drewN_drewN], fun j hj => by
          by_cases e : j = i
          · rw [e]; exact hnx
          · exact HNO.out j (by omega)⟩))
        have hiT : i < T.length := by rw [HLT.out]; exact hlt
        clear hs3 hs4 ox4 oy4 hcap3 hcap4 G4
        go_wp2_with fail
        refine L1.out.mono ?_
        rintro e w5 ⟨he, d5, rfl⟩
        clear L1
        by_cases e1 : (T.map Prod.fst).getD i [] = u
        · rw [decide_eq_true e1] at he
          subst he
          have hc5 : (wr.drewN d5).cell? ⟨b4, o4 + i, none⟩ = some (.slice A2 n2 c2) := hc4
          have L2 := Lib.hid (L2.out d5)
          clear hc3 hc4
          go_wp2_with fail
          refine L2.out.mono ?_
          rintro e w6 ⟨he, d6, rfl⟩
          clear L2
          rw [World.drewN_drewN]
          by_cases e2 : (T.map Prod.snd).getD i [] = v
          · rw [decide_eq_true e2] at he
            subst he
            have G6 := G5.out (d5 + d6)
            have F := Lib.hid (show AnsGen sg w lo (some ⟨b3, o3, none⟩) (some ⟨b4, o4, none⟩) ln T u v (.returned (.tuple #[.slice (some ⟨(wr.drewN (d5 + d6)).heap.size, 0, none⟩) 1 1, .slice (some ⟨b3, o3, none⟩) ln lc, .slice (some ⟨b4, o4, none⟩) ln rc])) ((wr.drewN (d5 + d6)).alloc (.cells #[.int .i64 (-1 - (i : Int))] 2)) from
              ⟨[-1 - (i : Int)], T, _, _, _, 1, 1, ln, lc, rc, rfl, one_own _ _ _ G6.bel.size, GS.out i (tb_at hiT e1 e2), G6.t.next ((Below.refl _ _).alloc (Nat.le_refl _) _), Two.of_below (next_trans G6.bel ((Below.refl _ _).alloc (Nat.le_refl _) _)), fun k h _ => h, fun k h _ => h, fun Z hZ a1 a2 => ⟨avSame (next_trans G6.bel ((Below.refl _ _).alloc (Nat.le_refl _) _)) T0.out.l.top a1, avSame (next_trans G6.bel ((Below.refl _ _).alloc (Nat.le_refl _) _)) T0.out.r.top a2⟩⟩)
            clear G6 G5 SR hc5
            generalize wr.drewN (d5 + d6) = w7 at *
            go_wp2
            go_ret3
            exact F.out
          · rw [decide_eq_false e2] at he
            subst he
            have S := Lib.hid (SR.out (d5 + d6) (tb_not hiT (fun h => e2 h.2)))
            clear SR G5 hc5
            generalize wr.drewN (d5 + d6) = w7 at *
            go_wp2
            go_roundw
            case rel => exact S.out
            case measure => simp [intOf]; omega
        · rw [decide_eq_false e1] at he
          subst he
          have S := Lib.hid (SR.out d5 (tb_not hiT (fun h => e1 h.1)))
          clear SR G5 L2 hc3 hc4
          generalize wr.drewN d5 = w7 at *
          go_wp2
          go_roundw
          case rel => exact S.out
          case measure => simp [intOf]; omega
      · obtain rfl : i = ln := by omega
        have hgs := GN.out (tb_mem (by rw [HLT.out]; exact HNO.out))
        rw [HLT.out] at hgs
        have z0 := G1z.out
        have K := Lib.hid (st1 G4 T0.out)
        have KX := Lib.hid (st2 (w := w) ox4 (by omega))
        have KY := Lib.hid (st2 (w := w) oy4 (by have := z12.out; omega))
        have K3 := Lib.hid (fun (o1 o2 o3 : Obj) w6 (hg : World.grownBy ((wr.alloc o1).alloc o2) w6 (blk L)) => st3 (K.out o1 o2).1 (K.out o1 o2).2 T0.out hg o3)
        have K4 := Lib.hid (fun (o1 o2 o3 : Obj) w6 (hg : World.grownBy ((wr.alloc o1).alloc o2) w6 (blk L)) => st4 (K.out o1 o2).1 (KY.out o1 o2) hg o3)
        have hzr := G4.bel.size
        have F := Lib.hid (fun (o2 o3 : Obj) (L' R' : Option Addr) (lc' rc' : Nat) (w6 w7 : World) (hg6 : World.grownBy ((wr.alloc (.cells #[.int .i64 (-1 - (i : Int))] 2)).alloc o2) w6 (blk L)) ho6 hat6 hg7 ho7 hat7 hX hY hc6 hc7 => st5 (w6 := w6) (w7 := w7) (L' := L') (R' := R') (lc' := lc') (rc' := rc') (-1 - (i : Int)) o2 o3 G4 T0.out hgs hg6 ho6 hat6 hg7 ho7 hat7 (vX := .slice X xn xc) (vY := .slice Y yn yc) hX hY hc6 hc7)
        clear hgs G4 ox4 oy4 GS GN HNO
        go_wp2_with (at_builtin; go_must (refine appS1Z rfl _ _ rfl lo w.heap.size L i lc (T.map Prod.fst) rfl (K.out _ _).1 _ 1 (.slice X xn xc) u rfl (cell2 _ _ _ _) (KX.out _ _) (by omega) (by omega) (by simp; omega) ?_; intro L' lc' w6 ho6 hg6 hat6 b6 hc6; refine (?_ : Hid _).out))
        refine Lib.hid ?_
        go_wp2_with (at_builtin; go_must (refine appS1Z rfl _ _ rfl lo w.heap.size R i rc (T.map Prod.snd) rfl (K3.out _ _ _ _ hg6) _ 1 (.slice Y yn yc) v rfl ((Row.new _ _ _).cell 0) (K4.out _ _ _ _ hg6) (by omega) (by omega) (by have := hg6.size; simp at this ⊢; omega) ?_; intro R' rc' w7 ho7 hg7 hat7 b7 hc7))
        go_wp2
        go_ret3
        exact F.out _ _ _ _ _ _ _ _ hg6 ho6 hat6 hg7 ho7 hat7 (KX.out _ _) (K4.out _ _ _ _ hg6) hc6 hc7
end Go.Proofs.Ytkmhnkljigncmaa.genSpec
end
