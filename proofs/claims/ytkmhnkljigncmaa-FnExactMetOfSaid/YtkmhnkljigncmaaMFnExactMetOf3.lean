/-
  MERGED: my texts UnifMath, UnifDom, Look, Then, AnsB, SubstOk, Gives, HeldT, UnifRep, Rename, Same, one behind the other, as they are. By an AI agent.
-/
import Derived.Test.YtkmhnkljigncmaaMFnExactMetOf2
import Derived.Shelf.Abstract
import Derived.Deep.DeepCutAuto
import Derived.Laws.NewBlocks
import Derived.Laws.EntriesVeiled
import Derived.Deep.RegionHeld3
import Derived.Deep.QuietTactic
import Derived.BigQuiet
import Derived.OrdersHeld
import Derived.Deep.RegionHeld
import Derived.Deep.AppendLies
section
/-
  PLAIN MATHEMATICS of unification (chapter 5): what is most general, idempotent and keeps the smallest variables is unique ('Mg', 'mg_uniq'); what one step from a place where two terms differ does ('Part'); a step that is barred means that there is no unifier, or none that is short. Conditions: none. By an AI agent.
-/
namespace Go.Proofs.Ytkmhnkljigncmaa.unifMath
open Go.Proofs.Ytkmhnkljigncmaa.sig Go.Proofs.Ytkmhnkljigncmaa.term Go.Proofs.Ytkmhnkljigncmaa.termOk Go.Proofs.Ytkmhnkljigncmaa.termFacts Go.Proofs.Ytkmhnkljigncmaa.endAt Go.Proofs.Ytkmhnkljigncmaa.sub Go.Proofs.Ytkmhnkljigncmaa.termMath Go.Proofs.Ytkmhnkljigncmaa.fillMath Go.Proofs.Ytkmhnkljigncmaa.posMath Go.Proofs.Ytkmhnkljigncmaa.renMath Go.Proofs.Ytkmhnkljigncmaa.matchMath Go.Proofs.Ytkmhnkljigncmaa.plainMath

/-- a term of whatever length -/
def Trm (sg t : List Int) : Prop := scan sg 1 t = some t.length
theorem scan_ar {sg : List Int} : ∀ {l : List Int} {q : Nat}, scan sg q l = some l.length → ∀ x ∈ l, ¬ ar sg x < 0 := by
  intro l
  induction l with
  | nil => intro q _ x hx; exact absurd hx (List.not_mem_nil)
  | cons y r ih =>
    intro q h x hx
    cases q with
    | zero => rw [scan_zero] at h; injection h with h; simp at h
    | succ q =>
      by_cases hy : ar sg y < 0
      · rw [scan_bad hy] at h; cases h
      · rw [scan_step hy, Option.map_eq_some_iff] at h
        obtain ⟨a, e1, e2⟩ := h
        rcases List.mem_cons.1 hx with rfl | hx
        · exact hy
        · exact ih (q := q + (ar sg y).toNat) (by rw [e1]; congr 1; simp at e2; omega) x hx
theorem Trm.mem {sg t : List Int} (h : Trm sg t) {x : Int} (hx : x ∈ t) : -24 ≤ x := by
  have h1 := scan_ar h x hx
  by_cases h2 : -24 ≤ x
  · exact h2
  · rw [ar_no (by omega) (by omega)] at h1; omega
theorem Trm.pos {sg t : List Int} (h : Trm sg t) : 1 ≤ t.length := scan_pos (q := 0) h
theorem Trm.vt {sg : List Int} {i : Nat} (hi : i < 24) : Trm sg (vt i) := scan_one (y := -1 - (i : Int)) (by omega)
theorem vr_neg {x : Int} (h : x < 0) : -1 - ((vr x : Nat) : Int) = x := by unfold vr; omega
theorem vt_vr {x : Int} (h : x < 0) : vt (vr x) = [x] := by unfold vt; rw [vr_neg h]
theorem vr_vt (i : Nat) : vr (-1 - (i : Int)) = i := by unfold vr; omega
theorem vt_inj {i j : Nat} (h : vt i = vt j) : i = j := by
  unfold vt at h
  injection h with h
  omega
theorem rep_vr {L : Nat → List Int} {x : Int} (h : x < 0) : rep L x = L (vr x) := rep_var h
theorem fill_one (L : Nat → List Int) (x : Int) : fillL L [x] = rep L x := by rw [fill_cons, fill_nil, List.append_nil]
theorem fill_vti (L : Nat → List Int) (i : Nat) : fillL L (vt i) = L i := by
  unfold vt
  rw [fill_one, rep_vr (by omega), vr_vt]
/-- look-ups whose values are terms below 24, and the variable itself beyond -/
structure Sub (sg : List Int) (L : Nat → List Int) : Prop where
  trm : ∀ i, i < 24 → Trm sg (L i)
  out : ∀ i, 24 ≤ i → L i = vt i
theorem Sub.pos {sg : List Int} {L : Nat → List Int} (h : Sub sg L) (i : Nat) : 1 ≤ (L i).length := by
  by_cases hi : i < 24
  · exact (h.trm i hi).pos
  · rw [h.out i (by omega)]; simp [vt]
theorem Sub.vt (sg : List Int) : Sub sg vt := ⟨fun _ hi => Trm.vt hi, fun _ _ => rfl⟩
theorem Sub.fill {sg : List Int} {L : Nat → List Int} (h : Sub sg L) {t : List Int} (ht : Trm sg t) : Trm sg (fillL L t) :=
  scan_fill ht (fun x hx h0 => h.trm _ (by have := ht.mem hx; omega))
theorem Sub.comp {sg : List Int} {L M : Nat → List Int} (h : Sub sg L) (h' : Sub sg M) : Sub sg (fun i => fillL M (L i)) :=
  ⟨fun i hi => h'.fill (h.trm i hi), fun i hi => by show fillL M (L i) = _; rw [h.out i hi, fill_vti]; exact h'.out i hi⟩
/-- a unifier -/
structure Uni (sg a b : List Int) (L : Nat → List Int) : Prop where
  sub : Sub sg L
  eq : fillL L a = fillL L b
theorem Uni.symm {sg a b : List Int} {L : Nat → List Int} (h : Uni sg a b L) : Uni sg b a L := ⟨h.sub, h.eq.symm⟩
/-- on the way: each unifier is an instance; what remains is fixed, and is the smallest -/
structure Part (sg a b : List Int) (L : Nat → List Int) : Prop where
  sub : Sub sg L
  gen : ∀ M, Uni sg a b M → ∀ i, fillL M (L i) = M i
  ide : ∀ i x, x ∈ L i → x < 0 → L (vr x) = [x]
  ord : ∀ i j, L i = vt j → j ≤ i
/-- most general -/
structure Mg (sg a b : List Int) (L : Nat → List Int) : Prop extends Part sg a b L where
  eq : fillL L a = fillL L b
theorem Mg.uni {sg a b : List Int} {L : Nat → List Int} (h : Mg sg a b L) : Uni sg a b L := ⟨h.sub, h.eq⟩
theorem Part.symm {sg a b : List Int} {L : Nat → List Int} (h : Part sg a b L) : Part sg b a L := ⟨h.sub, fun M hM => h.gen M hM.symm, h.ide, h.ord⟩
theorem Mg.symm {sg a b : List Int} {L : Nat → List Int} (h : Mg sg a b L) : Mg sg b a L := ⟨h.toPart.symm, h.eq.symm⟩
theorem Part.start (sg a b : List Int) : Part sg a b vt :=
  ⟨Sub.vt sg, fun M _ i => fill_vti M i, fun i x hx h0 => vt_vr h0, fun i j h => by rw [vt_inj h]; exact Nat.le_refl _⟩

theorem fill_fix {L : Nat → List Int} (hp : ∀ i, 1 ≤ (L i).length) : ∀ {t : List Int}, fillL L t = t → ∀ x ∈ t, x < 0 → L (vr x) = [x]
  | [], _, x, hx, _ => absurd hx (List.not_mem_nil)
  | y :: r, h, x, hx, h0 => by
    rw [fill_cons] at h
    have h1 : 1 ≤ (rep L y).length := by
      unfold rep
      split
      · simp
      · exact hp _
    have h2 := fill_ge hp r
    have h3 := congrArg List.length h
    rw [List.length_append, List.length_cons] at h3
    obtain ⟨z, hz⟩ : ∃ z, rep L y = [z] := List.length_eq_one_iff.1 (by omega)
    rw [hz] at h
    injection h with e1 e2
    rcases List.mem_cons.1 hx with rfl | hx
    · rw [← rep_vr (L := L) h0, hz, e1]
    · exact fill_fix hp e2 x hx h0
theorem fill_same {L : Nat → List Int} {t : List Int} (h : ∀ x ∈ t, x < 0 → L (vr x) = [x]) : fillL L t = t := by
  have := fill_ext (L := L) (L' := vt) (t := t) (fun x hx h0 => by rw [show (-1 - x).toNat = vr x from rfl, h x hx h0, vt_vr h0])
  rw [this, fill_vt]
/-- there is only one -/
theorem mg_uniq {sg a b : List Int} {S T : Nat → List Int} (hS : Mg sg a b S) (hT : Mg sg a b T) (i : Nat) : S i = T i := by
  have e1 := hS.gen T hT.uni
  have e2 := hT.gen S hS.uni
  have key : ∀ x ∈ S i, x < 0 → T (vr x) = [x] := by
    intro x hx h0
    have hfix : fillL (fun j => fillL S (T j)) (S i) = S i := by rw [← fill_fill, e1, e2]
    have h1 : fillL S (T (vr x)) = [x] := fill_fix (L := fun j => fillL S (T j)) (fun j => by
      have := fill_ge hS.sub.pos (T j); have := hT.sub.pos j; omega) hfix x hx h0
    have h2 := fill_ge hS.sub.pos (T (vr x))
    have h3 := hT.sub.pos (vr x)
    rw [h1] at h2
    obtain ⟨z, hz⟩ : ∃ z, T (vr x) = [z] := List.length_eq_one_iff.1 (by simp at h2; omega)
    rw [hz, fill_one] at h1
    by_cases hz0 : 0 ≤ z
    · rw [rep_sym hz0] at h1
      injection h1 with h1
      omega
    · rw [rep_vr (by omega)] at h1
      have o1 := hS.ord (vr z) (vr x) (by rw [h1, vt_vr h0])
      have o2 := hT.ord (vr x) (vr z) (by rw [hz, vt_vr (by omega)])
      have hv : vr x = vr z := by omega
      have : x = z := by unfold vr at hv; omega
      rw [hz, this]
  rw [← e1 i, fill_same key]

/-! ### where two terms differ -/
theorem fill_drop {L : Nat → List Int} {x y : List Int} {k : Nat} (e : x.take k = y.take k) (h : fillL L x = fillL L y) : fillL L (x.drop k) = fillL L (y.drop k) := by
  rw [← List.take_append_drop k x, ← List.take_append_drop k y, fill_append, fill_append, e] at h
  exact List.append_cancel_left h
/-- the subterm at a place -/
theorem sub_trm {sg x : List Int} (hx : Trm sg x) {k : Nat} (hk : k < x.length) : Trm sg (subL sg x k) ∧ x.drop k = subL sg x k ++ x.drop (k + (subL sg x k).length) := by
  obtain ⟨j, h1, h2, h3⟩ := scan_at hx hk
  have hl : subL sg x k = (x.drop k).take j := by unfold subL; rw [len1_eq h1]
  have hlen : (subL sg x k).length = j := by rw [hl, List.length_take, List.length_drop]; omega
  refine ⟨?_, ?_⟩
  · unfold Trm
    rw [hlen, hl]
    exact scan_take h1
  · rw [hlen, hl, ← List.drop_drop]
    exact (List.take_append_drop _ _).symm
theorem sub_head {sg x : List Int} (hx : Trm sg x) {k : Nat} (hk : k < x.length) : ∃ r, subL sg x k = x.getD k 0 :: r := by
  obtain ⟨h1, h2⟩ := sub_trm hx hk
  have h3 := h1.pos
  obtain ⟨y, r, hyr⟩ : ∃ y r, subL sg x k = y :: r := by
    cases h : subL sg x k with
    | nil => rw [h] at h3; simp at h3
    | cons y r => exact ⟨y, r, rfl⟩
  refine ⟨r, ?_⟩
  rw [hyr, drop_cons hk] at h2
  injection h2 with h2 _
  rw [hyr, h2]
/-- a variable is a term by itself -/
theorem sub_var {sg x : List Int} (hx : Trm sg x) {k : Nat} (hk : k < x.length) (h0 : x.getD k 0 < 0) : subL sg x k = [x.getD k 0] := by
  have hm : x.getD k 0 ∈ x := by simp [List.getD, hk]
  have h24 := hx.mem hm
  have : scan sg 1 (x.drop k) = some 1 := by
    rw [drop_cons hk, scan_step (by rw [ar_var (by omega)]; omega), ar_var (by omega)]
    show (scan sg 0 _).map (· + 1) = some 1
    rw [scan_zero]
    rfl
  unfold subL
  rw [len1_eq this, drop_cons hk]
  rfl
/-- a unifier unifies the subterms where two terms begin to differ -/
theorem uni_sub {sg x y : List Int} {M : Nat → List Int} (hx : Trm sg x) (hy : Trm sg y) (hM : Sub sg M) (h : fillL M x = fillL M y) {k : Nat} (e : x.take k = y.take k) (hkx : k < x.length) (hky : k < y.length) : fillL M (subL sg x k) = fillL M (subL sg y k) := by
  have h1 := fill_drop e h
  obtain ⟨tx, ex⟩ := sub_trm hx hkx
  obtain ⟨ty, ey⟩ := sub_trm hy hky
  rw [ex, ey, fill_append, fill_append] at h1
  have s1 := scan_append (r := fillL M (x.drop (k + (subL sg x k).length))) (hM.fill tx)
  have s2 := scan_append (r := fillL M (y.drop (k + (subL sg y k).length))) (hM.fill ty)
  rw [h1, s2] at s1
  injection s1 with s1
  have := congrArg (List.take (fillL M (subL sg x k)).length) h1
  rw [List.take_left' rfl, List.take_left' s1] at this
  exact this
/-- neither of two different terms begins the other one -/
theorem differ {sg x y : List Int} (hx : Trm sg x) (hy : Trm sg y) {k : Nat} (e : x.take k = y.take k) (hk : k ≤ x.length) (hk' : k ≤ y.length) (hend : k = x.length ∨ k = y.length) : x = y := by
  have key : ∀ {u v : List Int}, Trm sg u → Trm sg v → u.take k = v.take k → k = u.length → k ≤ v.length → u = v := by
    intro u v hu hv e hk hv'
    have h1 : v = u ++ v.drop k := by
      have := (List.take_append_drop k v).symm
      rwa [← e, hk, List.take_length, ← hk] at this
    have h2 := scan_append (r := v.drop k) hu
    rw [← h1, hv] at h2
    injection h2 with h2
    rw [h1, List.drop_eq_nil_of_le (by omega), List.append_nil]
  rcases hend with h | h
  · exact key hx hy e h hk'
  · exact (key hy hx e.symm h hk).symm

/-! ### a step -/
/-- one variable replaced -/
def ones (i : Nat) (t : List Int) (k : Nat) : List Int := if k = i then t else vt k
theorem one_sub {sg : List Int} {i : Nat} {t : List Int} (ht : Trm sg t) (hi : i < 24) : Sub sg (ones i t) :=
  ⟨fun k hk => by unfold ones; split; exact ht; exact Trm.vt hk, fun k hk => by unfold ones; rw [if_neg (by omega)]⟩
theorem one_no {i : Nat} {t z : List Int} (h : ∀ x ∈ z, x < 0 → vr x ≠ i) : fillL (ones i t) z = z :=
  fill_same (fun x hx h0 => by unfold ones; rw [if_neg (h x hx h0), vt_vr h0])
theorem one_uni {i : Nat} {t : List Int} {M : Nat → List Int} (h : M i = fillL M t) (z : List Int) : fillL M (fillL (ones i t) z) = fillL M z := by
  rw [fill_fill]
  refine fill_ext (fun x _ _ => ?_)
  show fillL M (ones i t _) = _
  unfold ones
  split
  · rename_i e; rw [e, h]
  · exact fill_vti M _
/-- what is found where x = fillL L a and y = fillL L b differ -/
structure Spot (sg a b : List Int) (L : Nat → List Int) (k : Nat) : Prop where
  ta : Trm sg a
  tb : Trm sg b
  pre : (fillL L a).take k = (fillL L b).take k
  kx : k < (fillL L a).length
  ky : k < (fillL L b).length
  ne : (fillL L a).getD k 0 ≠ (fillL L b).getD k 0
theorem Spot.symm {sg a b : List Int} {L : Nat → List Int} {k : Nat} (h : Spot sg a b L k) : Spot sg b a L k := ⟨h.tb, h.ta, h.pre.symm, h.ky, h.kx, fun e => h.ne e.symm⟩
theorem part_uni {sg a b : List Int} {L M : Nat → List Int} (h : Part sg a b L) (hM : Uni sg a b M) (z : List Int) : fillL M (fillL L z) = fillL M z := by
  rw [fill_fill]
  exact fill_ext (fun x _ _ => h.gen M hM _)
theorem Spot.sub {sg a b : List Int} {L M : Nat → List Int} {k : Nat} (s : Spot sg a b L k) (h : Part sg a b L) (hM : Uni sg a b M) : fillL M (subL sg (fillL L a) k) = fillL M (subL sg (fillL L b) k) :=
  uni_sub (h.sub.fill s.ta) (h.sub.fill s.tb) hM.sub (by rw [part_uni h hM, part_uni h hM, hM.eq]) s.pre s.kx s.ky
/-- two symbols -/
theorem Spot.clash {sg a b : List Int} {L : Nat → List Int} {k : Nat} (s : Spot sg a b L k) (h : Part sg a b L) (h1 : 0 ≤ (fillL L a).getD k 0) (h2 : 0 ≤ (fillL L b).getD k 0) : ∀ M, ¬ Uni sg a b M := fun M hM => by
  have e := s.sub h hM
  obtain ⟨r, e1⟩ := sub_head (h.sub.fill s.ta) s.kx
  obtain ⟨r', e2⟩ := sub_head (h.sub.fill s.tb) s.ky
  rw [e1, e2, fill_cons, fill_cons, rep_sym h1, rep_sym h2] at e
  injection e with e _
  exact s.ne e
theorem mem_rep {M : Nat → List Int} {z : List Int} {x : Int} (hp : ∀ i, 1 ≤ (M i).length) (hx : x ∈ z) (h0 : x < 0) (hl : z ≠ [x]) : (M (vr x)).length < (fillL M z).length := by
  obtain ⟨u, v, rfl⟩ := List.append_of_mem hx
  rw [fill_append, fill_cons, rep_vr h0, List.length_append, List.length_append]
  have h1 := fill_ge hp u
  have h2 := fill_ge hp v
  by_cases hu : u.length = 0
  · by_cases hv : v.length = 0
    · rw [List.eq_nil_of_length_eq_zero hu, List.eq_nil_of_length_eq_zero hv] at hl
      exact absurd rfl hl
    · omega
  · omega
/-- a variable in the other term -/
theorem Spot.occurs {sg a b : List Int} {L : Nat → List Int} {k : Nat} (s : Spot sg a b L k) (h : Part sg a b L) (h1 : (fillL L a).getD k 0 < 0) (h2 : (fillL L a).getD k 0 ∈ subL sg (fillL L b) k) : ∀ M, ¬ Uni sg a b M := fun M hM => by
  have e := s.sub h hM
  rw [sub_var (h.sub.fill s.ta) s.kx h1, fill_one, rep_vr h1] at e
  obtain ⟨r, e2⟩ := sub_head (h.sub.fill s.tb) s.ky
  have := mem_rep hM.sub.pos h2 h1 (fun e3 => by rw [e2] at e3; injection e3 with e3 _; exact s.ne e3.symm)
  rw [e] at this
  exact Nat.lt_irrefl _ this
theorem mem_drop {x : Int} {l : List Int} {k : Nat} (h : x ∈ l.drop k) : x ∈ l := List.mem_of_mem_drop h
theorem sub_mem {sg t : List Int} {k : Nat} {x : Int} (h : x ∈ subL sg t k) : x ∈ t := by
  unfold subL at h
  exact mem_drop (List.mem_of_mem_take h)
theorem fill_mem {L : Nat → List Int} : ∀ {t : List Int} {x : Int}, x ∈ fillL L t → x < 0 → ∃ y ∈ t, y < 0 ∧ x ∈ L (vr y)
  | [], x, h, _ => absurd h (List.not_mem_nil)
  | z :: r, x, h, h0 => by
    rw [fill_cons] at h
    rcases List.mem_append.1 h with h | h
    · by_cases hz : 0 ≤ z
      · rw [rep_sym hz, List.mem_singleton] at h; omega
      · rw [rep_vr (by omega)] at h
        exact ⟨z, List.mem_cons_self .., by omega, h⟩
    · obtain ⟨y, h1, h2⟩ := fill_mem h h0
      exact ⟨y, List.mem_cons_of_mem _ h1, h2⟩
/-- what is left in a filled term stays -/
theorem Part.fix {sg a b : List Int} {L : Nat → List Int} (h : Part sg a b L) {t : List Int} {x : Int} (hx : x ∈ fillL L t) (h0 : x < 0) : L (vr x) = [x] := by
  obtain ⟨y, _, _, hy⟩ := fill_mem hx h0
  exact h.ide _ x hy h0
/-- a variable becomes a term in which it isn't; of two variables the larger one -/
theorem Spot.bind {sg a b : List Int} {L : Nat → List Int} {k : Nat} (s : Spot sg a b L k) (h : Part sg a b L) (h1 : (fillL L a).getD k 0 < 0) (h2 : (fillL L a).getD k 0 ∉ subL sg (fillL L b) k) (h3 : 0 ≤ (fillL L b).getD k 0 ∨ (fillL L a).getD k 0 < (fillL L b).getD k 0) :
    Part sg a b (fun m => fillL (ones (vr ((fillL L a).getD k 0)) (subL sg (fillL L b) k)) (L m)) := by
  obtain ⟨p, hp⟩ : ∃ p, (fillL L a).getD k 0 = p := ⟨_, rfl⟩
  obtain ⟨t, ht⟩ : ∃ t, subL sg (fillL L b) k = t := ⟨_, rfl⟩
  have hpm : p ∈ fillL L a := by rw [← hp]; have := s.kx; simp [List.getD, this]
  have hp24 := (h.sub.fill s.ta).mem hpm
  have htt : Trm sg t := by rw [← ht]; exact (sub_trm (h.sub.fill s.tb) s.ky).1
  have hpx : L (vr p) = [p] := h.fix hpm (by omega)
  rw [hp] at h1 h2 h3 ⊢
  rw [ht] at h2 ⊢
  have hi : vr p < 24 := by unfold vr; omega
  have hone := one_sub htt hi
  have tfix : ∀ x ∈ t, x < 0 → L (vr x) = [x] := fun x hx h0 => h.fix (t := b) (by rw [← ht] at hx; exact sub_mem hx) h0
  have hhead := sub_head (h.sub.fill s.tb) s.ky
  rw [ht] at hhead
  refine ⟨h.sub.comp hone, fun M hM i => ?_, fun i x hx h0 => ?_, fun i j hj => ?_⟩
  · show fillL M (fillL _ (L i)) = M i
    rw [one_uni ?_, h.gen M hM]
    have e := s.sub h hM
    rw [sub_var (h.sub.fill s.ta) s.kx (by rw [hp]; exact h1), hp, ht, fill_one, rep_vr h1] at e
    exact e
  · show fillL (ones (vr p) t) (L (vr x)) = [x]
    change x ∈ fillL (ones (vr p) t) (L i) at hx
    obtain ⟨y, g1, g2, g3⟩ := fill_mem hx h0
    have hxp : vr x ≠ vr p ∧ L (vr x) = [x] := by
      unfold ones at g3
      split at g3
      · refine ⟨fun e => h2 ?_, tfix x g3 h0⟩
        have : x = p := by unfold vr at e; omega
        rw [← this]; exact g3
      · rename_i hne
        rw [vt_vr g2, List.mem_singleton] at g3
        rw [g3]
        exact ⟨hne, h.ide i y g1 g2⟩
    rw [hxp.2, fill_one, rep_vr h0]
    unfold ones
    rw [if_neg hxp.1, vt_vr h0]
  · change fillL (ones (vr p) t) (L i) = vt j at hj
    have hl1 := fill_ge hone.pos (L i)
    have hl2 := h.sub.pos i
    rw [hj] at hl1
    obtain ⟨z, hz⟩ : ∃ z, L i = [z] := List.length_eq_one_iff.1 (by simp [vt] at hl1; omega)
    rw [hz, fill_one] at hj
    by_cases hz0 : 0 ≤ z
    · rw [rep_sym hz0] at hj
      unfold vt at hj
      injection hj with hj
      omega
    · rw [rep_vr (by omega)] at hj
      have o := h.ord i (vr z) (by rw [hz, vt_vr (by omega)])
      unfold ones at hj
      split at hj
      · rename_i e
        obtain ⟨r, hr⟩ := hhead
        rw [hr] at hj
        unfold vt at hj
        injection hj with hj _
        rcases h3 with h3 | h3
        · omega
        · unfold vr at e o; omega
      · rw [vt_inj hj] at o; exact o
/-- at the end -/
theorem Part.done {sg a b : List Int} {L : Nat → List Int} (h : Part sg a b L) (he : fillL L a = fillL L b) : Mg sg a b L := ⟨h, he⟩

/-! ### lengths -/
/-- a unifier of which nothing is too long -/
structure Short (sg a b : List Int) (M : Nat → List Int) : Prop extends Uni sg a b M where
  each : ∀ i, (M i).length ≤ 60
  all : (fillL M a).length ≤ 60
theorem Short.symm {sg a b : List Int} {M : Nat → List Int} (h : Short sg a b M) : Short sg b a M := ⟨h.toUni.symm, h.each, by rw [← h.eq]; exact h.all⟩
theorem Part.each {sg a b : List Int} {L M : Nat → List Int} (h : Part sg a b L) (hM : Short sg a b M) (i : Nat) : (L i).length ≤ 60 := by
  have h1 := fill_ge hM.sub.pos (L i)
  rw [h.gen M hM.toUni] at h1
  exact Nat.le_trans h1 (hM.each i)
theorem Part.len {sg a b : List Int} {L M : Nat → List Int} (h : Part sg a b L) (hM : Short sg a b M) : (fillL L a).length ≤ 60 ∧ (fillL L b).length ≤ 60 := by
  have h1 := fill_ge hM.sub.pos (fillL L a)
  have h2 := fill_ge hM.sub.pos (fillL L b)
  rw [part_uni h hM.toUni] at h1 h2
  rw [← hM.eq] at h2
  exact ⟨Nat.le_trans h1 hM.all, Nat.le_trans h2 hM.all⟩

/-! ### how many variables are free -/
def free (L : Nat → List Int) : Nat := (List.range 24).countP fun i => decide (L i = vt i)
theorem free_le (L : Nat → List Int) : free L ≤ 24 := by
  unfold free
  exact Nat.le_trans List.countP_le_length (by simp)
theorem free_bind {sg a b : List Int} {L : Nat → List Int} {k : Nat} (s : Spot sg a b L k) (h : Part sg a b L) (h1 : (fillL L a).getD k 0 < 0) (h2 : (fillL L a).getD k 0 ∉ subL sg (fillL L b) k) :
    free (fun m => fillL (ones (vr ((fillL L a).getD k 0)) (subL sg (fillL L b) k)) (L m)) < free L := by
  obtain ⟨p, hp⟩ : ∃ p, (fillL L a).getD k 0 = p := ⟨_, rfl⟩
  obtain ⟨t, ht⟩ : ∃ t, subL sg (fillL L b) k = t := ⟨_, rfl⟩
  have hpm : p ∈ fillL L a := by rw [← hp]; have := s.kx; simp [List.getD, this]
  have hp24 := (h.sub.fill s.ta).mem hpm
  rw [hp] at h1 h2 ⊢
  rw [ht] at h2 ⊢
  have hpx : L (vr p) = [p] := h.fix hpm h1
  have htt : Trm sg t := by rw [← ht]; exact (sub_trm (h.sub.fill s.tb) s.ky).1
  have hone := one_sub (i := vr p) htt (by unfold vr; omega)
  have tfix : ∀ x ∈ t, x < 0 → L (vr x) = [x] := fun x hx h0 => h.fix (t := b) (by rw [← ht] at hx; exact sub_mem hx) h0
  unfold free
  refine count_less (y := vr p) (fun i hi hf => ?_) (List.mem_range.2 (by unfold vr; omega)) ?_ ?_
  · rw [decide_eq_true_eq] at hf ⊢
    change fillL (ones (vr p) t) (L i) = vt i at hf
    have hl1 := fill_ge hone.pos (L i)
    have hl2 := h.sub.pos i
    rw [hf] at hl1
    obtain ⟨z, hz⟩ : ∃ z, L i = [z] := List.length_eq_one_iff.1 (by simp [vt] at hl1; omega)
    rw [hz, fill_one] at hf
    by_cases hz0 : 0 ≤ z
    · rw [rep_sym hz0] at hf
      unfold vt at hf
      injection hf with hf
      omega
    · rw [rep_vr (by omega)] at hf
      unfold ones at hf
      split at hf
      · rename_i e
        have hm : (-1 - (i : Int)) ∈ t := by rw [hf]; simp [vt]
        have := tfix _ hm (by omega)
        rw [vr_vt] at this
        exact this
      · rw [hz, ← vt_vr (by omega : z < 0)]
        exact hf
  · rw [decide_eq_false_iff_not]
    intro e
    change fillL (ones (vr p) t) (L (vr p)) = vt (vr p) at e
    rw [hpx, fill_one, rep_vr h1, vt_vr h1] at e
    unfold ones at e
    rw [if_pos rfl] at e
    exact h2 (by rw [e]; exact List.mem_singleton.2 rfl)
  · rw [decide_eq_true_eq, hpx, vt_vr h1]

/-! ### what is told -/
/-- from what is known on the way a most general one is reached, if there is a short one -/
theorem reach {sg a b : List Int} {M : Nat → List Int} (ta : Trm sg a) (tb : Trm sg b) (hM : Short sg a b M) : ∀ (n : Nat) (L : Nat → List Int), free L ≤ n → Part sg a b L → ∃ L', Mg sg a b L' := by
  have spot : ∀ {L : Nat → List Int}, Part sg a b L → fillL L a ≠ fillL L b → ∃ k, Spot sg a b L k := by
    intro L h hne
    have tx := h.sub.fill ta
    have ty := h.sub.fill tb
    have key : ∀ n k, (fillL L a).length - k ≤ n → k ≤ (fillL L a).length → k ≤ (fillL L b).length → (fillL L a).take k = (fillL L b).take k → ∃ k, Spot sg a b L k := by
      intro n
      induction n with
      | zero =>
        intro k hn h1 h2 e
        exact absurd (differ tx ty e h1 h2 (.inl (by omega))) hne
      | succ n ih =>
        intro k hn h1 h2 e
        by_cases hx : k = (fillL L a).length
        · exact absurd (differ tx ty e h1 h2 (.inl hx)) hne
        · by_cases hy : k = (fillL L b).length
          · exact absurd (differ tx ty e h1 h2 (.inr hy)) hne
          · have kx : k < (fillL L a).length := by omega
            have ky : k < (fillL L b).length := by omega
            by_cases hg : (fillL L a).getD k 0 = (fillL L b).getD k 0
            · refine ih (k + 1) (by omega) kx ky ?_
              rw [List.take_succ_eq_append_getElem kx, List.take_succ_eq_append_getElem ky, e]
              simp [List.getD, kx, ky] at hg
              rw [hg]
            · exact ⟨k, ta, tb, e, kx, ky, hg⟩
    exact key _ 0 (Nat.le_refl _) (Nat.zero_le _) (Nat.zero_le _) rfl
  intro n
  induction n with
  | zero =>
    intro L hn h
    by_cases he : fillL L a = fillL L b
    · exact ⟨L, h.done he⟩
    · obtain ⟨k, s⟩ := spot h he
      by_cases h1 : (fillL L a).getD k 0 < 0
      · by_cases h2 : (fillL L a).getD k 0 ∈ subL sg (fillL L b) k
        · exact absurd hM.toUni (s.occurs h h1 h2 M)
        · have := free_bind s h h1 h2; omega
      · by_cases h1' : (fillL L b).getD k 0 < 0
        · by_cases h2 : (fillL L b).getD k 0 ∈ subL sg (fillL L a) k
          · exact absurd hM.toUni.symm (s.symm.occurs h.symm h1' h2 M)
          · have := free_bind s.symm h.symm h1' h2; omega
        · exact absurd hM.toUni (s.clash h (by omega) (by omega) M)
  | succ n ih =>
    intro L hn h
    by_cases he : fillL L a = fillL L b
    · exact ⟨L, h.done he⟩
    · obtain ⟨k, s⟩ := spot h he
      by_cases h3 : (fillL L a).getD k 0 < 0 ∧ (0 ≤ (fillL L b).getD k 0 ∨ (fillL L a).getD k 0 < (fillL L b).getD k 0)
      · by_cases h2 : (fillL L a).getD k 0 ∈ subL sg (fillL L b) k
        · exact absurd hM.toUni (s.occurs h h3.1 h2 M)
        · exact ih _ (by have := free_bind s h h3.1 h2; omega) (s.bind h h3.1 h2 h3.2)
      · by_cases h1' : (fillL L b).getD k 0 < 0
        · by_cases h2 : (fillL L b).getD k 0 ∈ subL sg (fillL L a) k
          · exact absurd hM.toUni.symm (s.symm.occurs h.symm h1' h2 M)
          · obtain ⟨L', hL'⟩ := ih _ (by have := free_bind s.symm h.symm h1' h2; omega) (s.symm.bind h.symm h1' h2 (by have := s.ne; omega)).symm
            exact ⟨L', hL'⟩
        · exact absurd hM.toUni (s.clash h (by omega) (by omega) M)
/-- what is told of two lists: whether there is a short unifier, and the plain form of the most general one -/
def IsU (sg a b : List Int) (v : Bool) (F : List (List Int)) : Prop :=
  (v = true ∧ termOkB sg a = true ∧ termOkB sg b = true ∧ ∃ L, Mg sg a b L ∧ Short sg a b L ∧ F = plainL L 24) ∨ (v = false ∧ F = [] ∧ (termOkB sg a = false ∨ termOkB sg b = false ∨ ∀ M, ¬ Short sg a b M))
theorem isU_ex (sg a b : List Int) : ∃ v F, IsU sg a b v F := by
  cases h1 : termOkB sg a with
  | false => exact ⟨false, [], .inr ⟨rfl, rfl, .inl h1⟩⟩
  | true =>
    cases h2 : termOkB sg b with
    | false => exact ⟨false, [], .inr ⟨rfl, rfl, .inr (.inl h2)⟩⟩
    | true =>
      by_cases h : ∃ M, Short sg a b M
      · obtain ⟨M, hM⟩ := h
        obtain ⟨L, hL⟩ := reach (term_parts h1).2.2 (term_parts h2).2.2 hM _ vt (free_le _) (Part.start sg a b)
        exact ⟨true, _, .inl ⟨rfl, h1, h2, L, hL, ⟨hL.uni, hL.toPart.each hM, (hL.toPart.len hM).1⟩, rfl⟩⟩
      · exact ⟨false, [], .inr ⟨rfl, rfl, .inr (.inr (fun M hM => h ⟨M, hM⟩))⟩⟩
theorem isU_one {sg a b : List Int} {v v' : Bool} {F F' : List (List Int)} (h : IsU sg a b v F) (h' : IsU sg a b v' F') : v = v' ∧ F = F' := by
  rcases h with ⟨rfl, a1, a2, L, m, s, rfl⟩ | ⟨rfl, rfl, h⟩
  · rcases h' with ⟨rfl, _, _, L', m', _, rfl⟩ | ⟨rfl, rfl, h'⟩
    · exact ⟨rfl, plain_ext (fun i _ => mg_uniq m m' i)⟩
    · rcases h' with h' | h' | h'
      · rw [a1] at h'; cases h'
      · rw [a2] at h'; cases h'
      · exact absurd s (h' L)
  · rcases h' with ⟨rfl, a1, a2, L, m, s, rfl⟩ | ⟨rfl, rfl, _⟩
    · rcases h with h | h | h
      · rw [a1] at h; cases h
      · rw [a2] at h; cases h
      · exact absurd s (h L)
    · exact ⟨rfl, rfl⟩
/-- told true: by any most general one of which nothing is too long -/
theorem isU_mg {sg a b : List Int} {L : Nat → List Int} (h1 : termOkB sg a = true) (h2 : termOkB sg b = true) (h : Mg sg a b L) (he : ∀ i, (L i).length ≤ 60) (ha : (fillL L a).length ≤ 60) : IsU sg a b true (plainL L 24) :=
  .inl ⟨rfl, h1, h2, L, h, ⟨h.uni, he, ha⟩, rfl⟩
theorem isU_no {sg a b : List Int} (h : ∀ M, ¬ Short sg a b M) : IsU sg a b false [] := .inr ⟨rfl, rfl, .inr (.inr h)⟩
theorem isU_off {sg a b : List Int} (h : termOkB sg a = false ∨ termOkB sg b = false) : IsU sg a b false [] := .inr ⟨rfl, rfl, by rcases h with h | h; exact .inl h; exact .inr (.inl h)⟩
end Go.Proofs.Ytkmhnkljigncmaa.unifMath
end

section
/-
  PLAIN MATHEMATICS of unification: only variables of the two terms are replaced, and by terms of such variables ('Dom'); so nothing is longer than the two terms, filled; one step ('Go'). Conditions: none. By an AI agent.
-/
namespace Go.Proofs.Ytkmhnkljigncmaa.unifDom
open Go.Proofs.Ytkmhnkljigncmaa.sig Go.Proofs.Ytkmhnkljigncmaa.term Go.Proofs.Ytkmhnkljigncmaa.termOk Go.Proofs.Ytkmhnkljigncmaa.termFacts Go.Proofs.Ytkmhnkljigncmaa.endAt Go.Proofs.Ytkmhnkljigncmaa.sub Go.Proofs.Ytkmhnkljigncmaa.termMath Go.Proofs.Ytkmhnkljigncmaa.fillMath Go.Proofs.Ytkmhnkljigncmaa.posMath Go.Proofs.Ytkmhnkljigncmaa.renMath Go.Proofs.Ytkmhnkljigncmaa.matchMath Go.Proofs.Ytkmhnkljigncmaa.plainMath Go.Proofs.Ytkmhnkljigncmaa.unifMath

def InTwo (a b : List Int) (z : Int) : Prop := z ∈ a ∨ z ∈ b
structure Dom (a b : List Int) (L : Nat → List Int) : Prop where
  rng : ∀ z, InTwo a b z → z < 0 → ∀ y ∈ L (vr z), y < 0 → InTwo a b y
  out : ∀ i : Nat, ¬ InTwo a b (-1 - (i : Int)) → L i = vt i
section
variable {sg a b : List Int} {L : Nat → List Int}
theorem Dom.start (a b : List Int) : Dom a b vt := ⟨fun z hz h0 y hy _ => by rw [vt_vr h0, List.mem_singleton] at hy; rw [hy]; exact hz, fun _ _ => rfl⟩
theorem Dom.symm (h : Dom a b L) : Dom b a L := ⟨fun z hz h0 y hy h1 => (h.rng z hz.symm h0 y hy h1).symm, fun i hi => h.out i (fun e => hi e.symm)⟩
theorem Dom.fill (h : Dom a b L) {y : Int} (hy : y ∈ fillL L a ∨ y ∈ fillL L b) (h0 : y < 0) : InTwo a b y := by
  rcases hy with hy | hy
  · obtain ⟨z, h1, h2, h3⟩ := fill_mem hy h0
    exact h.rng z (.inl h1) h2 y h3 h0
  · obtain ⟨z, h1, h2, h3⟩ := fill_mem hy h0
    exact h.rng z (.inr h1) h2 y h3 h0
theorem Dom.bind (h : Dom a b L) {p : Int} {t : List Int} (hp : InTwo a b p) (h0 : p < 0) (ht : ∀ y ∈ t, y < 0 → InTwo a b y) : Dom a b (fun m => fillL (ones (vr p) t) (L m)) := by
  refine ⟨fun z hz hz0 y hy hy0 => ?_, fun i hi => ?_⟩
  · change y ∈ fillL (ones (vr p) t) (L (vr z)) at hy
    obtain ⟨q, h1, h2, h3⟩ := fill_mem hy hy0
    unfold ones at h3
    split at h3
    · exact ht y h3 hy0
    · rw [vt_vr h2, List.mem_singleton] at h3
      rw [h3]
      exact h.rng z hz hz0 q h1 h2
  · show fillL (ones (vr p) t) (L i) = vt i
    rw [h.out i hi, fill_vti]
    unfold ones
    rw [if_neg]
    intro e
    subst e
    exact hi (by rw [vr_neg h0]; exact hp)
theorem mem_len {x : Int} : ∀ {t : List Int}, x ∈ t → x < 0 → (L (vr x)).length ≤ (fillL L t).length
  | [], hx, _ => absurd hx (List.not_mem_nil)
  | y :: r, hx, h0 => by
    rw [fill_cons, List.length_append]
    rcases List.mem_cons.1 hx with rfl | hx
    · rw [rep_vr h0]; omega
    · have := mem_len hx h0; omega
theorem Dom.each (h : Dom a b L) (ha : (fillL L a).length ≤ 60) (hb : (fillL L b).length ≤ 60) (i : Nat) : (L i).length ≤ 60 := by
  by_cases hi : InTwo a b (-1 - (i : Int))
  · rcases hi with hi | hi
    · have := mem_len (L := L) hi (by omega)
      rw [vr_vt] at this
      omega
    · have := mem_len (L := L) hi (by omega)
      rw [vr_vt] at this
      omega
  · rw [h.out i hi]; simp [vt]
end

/-- what is known on the way: x and y are the two terms, filled -/
structure Wy (sg a b : List Int) (L : Nat → List Int) (x y : List Int) : Prop where
  ta : termOkB sg a = true
  tb : termOkB sg b = true
  part : Part sg a b L
  dom : Dom a b L
  ex : x = fillL L a
  ey : y = fillL L b
  lx : x.length ≤ 60
  ly : y.length ≤ 60
section
variable {sg a b x y : List Int} {L : Nat → List Int}
theorem Wy.symm (h : Wy sg a b L x y) : Wy sg b a L y x := ⟨h.tb, h.ta, h.part.symm, h.dom.symm, h.ey, h.ex, h.ly, h.lx⟩
theorem Wy.start (ha : termOkB sg a = true) (hb : termOkB sg b = true) : Wy sg a b vt a b :=
  ⟨ha, hb, Part.start sg a b, Dom.start a b, (fill_vt a).symm, (fill_vt b).symm, (term_len ha).2, (term_len hb).2⟩
theorem Wy.tx (h : Wy sg a b L x y) : Trm sg x := by rw [h.ex]; exact h.part.sub.fill (term_parts h.ta).2.2
theorem Wy.okx (h : Wy sg a b L x y) : termOkB sg x = true := term_mk (term_parts h.ta).1 h.lx h.tx
theorem Wy.each (h : Wy sg a b L x y) (i : Nat) : (L i).length ≤ 60 := h.dom.each (by rw [← h.ex]; exact h.lx) (by rw [← h.ey]; exact h.ly) i
theorem Wy.done (h : Wy sg a b L x y) (e : x = y) : IsU sg a b true (plainL L 24) :=
  isU_mg h.ta h.tb (h.part.done (by rw [← h.ex, ← h.ey]; exact e)) h.each (by rw [← h.ex]; exact h.lx)
/-- the first index at which they differ -/
theorem Wy.spot (h : Wy sg a b L x y) {k : Nat} (e : x.take k = y.take k) (kx : k < x.length) (ky : k < y.length) (ne : x.getD k 0 ≠ y.getD k 0) : Spot sg a b L k :=
  ⟨(term_parts h.ta).2.2, (term_parts h.tb).2.2, by rw [← h.ex, ← h.ey]; exact e, by rw [← h.ex]; exact kx, by rw [← h.ey]; exact ky, by rw [← h.ex, ← h.ey]; exact ne⟩
theorem Wy.clash (h : Wy sg a b L x y) {k : Nat} (s : Spot sg a b L k) (h1 : 0 ≤ x.getD k 0) (h2 : 0 ≤ y.getD k 0) : ∀ M, ¬ Short sg a b M := fun M hM =>
  s.clash h.part (by rw [← h.ex]; exact h1) (by rw [← h.ey]; exact h2) M hM.toUni
theorem Wy.occurs (h : Wy sg a b L x y) {k : Nat} (s : Spot sg a b L k) (h1 : x.getD k 0 < 0) (h2 : x.getD k 0 ∈ subL sg y k) : ∀ M, ¬ Short sg a b M := fun M hM =>
  s.occurs h.part (by rw [← h.ex]; exact h1) (by rw [← h.ex, ← h.ey]; exact h2) M hM.toUni
/-- a step: the variable at k becomes the other side's subterm -/
theorem Wy.step (h : Wy sg a b L x y) {k : Nat} (s : Spot sg a b L k) (h1 : x.getD k 0 < 0) (h2 : x.getD k 0 ∉ subL sg y k) (h3 : 0 ≤ y.getD k 0 ∨ x.getD k 0 < y.getD k 0) :
    (fillL (ones (vr (x.getD k 0)) (subL sg y k)) x).length ≤ 60 → (fillL (ones (vr (x.getD k 0)) (subL sg y k)) y).length ≤ 60 →
      Wy sg a b (fun m => fillL (ones (vr (x.getD k 0)) (subL sg y k)) (L m)) (fillL (ones (vr (x.getD k 0)) (subL sg y k)) x) (fillL (ones (vr (x.getD k 0)) (subL sg y k)) y) ∧
      free (fun m => fillL (ones (vr (x.getD k 0)) (subL sg y k)) (L m)) < free L := fun l1 l2 => by
  have hx := h.ex
  have hy := h.ey
  subst hx
  subst hy
  have hm : (fillL L a).getD k 0 ∈ fillL L a := by have := s.kx; simp [List.getD, this]
  exact ⟨⟨h.ta, h.tb, s.bind h.part h1 h2 h3, h.dom.bind (h.dom.fill (.inl hm) h1) h1 (fun z hz h0 => h.dom.fill (.inr (sub_mem hz)) h0), fill_fill _, fill_fill _, l1, l2⟩, free_bind s h.part h1 h2⟩
/-- where one becomes too long there is no short unifier -/
theorem Wy.long (h : Wy sg a b L x y) {k : Nat} (s : Spot sg a b L k) (h1 : x.getD k 0 < 0) (h2 : x.getD k 0 ∉ subL sg y k) (h3 : 0 ≤ y.getD k 0 ∨ x.getD k 0 < y.getD k 0)
    (hl : ¬ ((fillL (ones (vr (x.getD k 0)) (subL sg y k)) x).length ≤ 60 ∧ (fillL (ones (vr (x.getD k 0)) (subL sg y k)) y).length ≤ 60)) : ∀ M, ¬ Short sg a b M := fun M hM => by
  have hx := h.ex
  have hy := h.ey
  subst hx
  subst hy
  have hl2 := (s.bind h.part h1 h2 h3).len hM
  rw [← fill_fill, ← fill_fill] at hl2
  exact hl hl2
end
end Go.Proofs.Ytkmhnkljigncmaa.unifDom
end

section
/-
  CONTRACTS of the look-ups: impl.varTerm, (lookup).fill over whatever look-up ('Looks'), lookupIn and what it returns. Conditions: at most 60 numbers, replacements of at most 4096. By an AI agent.
-/
namespace Go.Proofs.Ytkmhnkljigncmaa.look
open Go.RowKit Go.Proofs.Ytkmhnkljigncmaa.base Go.Proofs.Ytkmhnkljigncmaa.ints Go.Proofs.Ytkmhnkljigncmaa.marks Go.Proofs.Ytkmhnkljigncmaa.app Go.Proofs.Ytkmhnkljigncmaa.sym Go.Proofs.Ytkmhnkljigncmaa.segs Go.Proofs.Ytkmhnkljigncmaa.fillMath
set_option maxRecDepth 100000

theorem varTerm (i : Int) (w : World) (h0 : 0 ≤ i) (h1 : i ≤ 1000) :
    Calls Try.prog 59 #[.int .i64 i] w (AnsList w [-1 - i]) := by
  have F : AnsList w [-1 - i] (.returned (.slice (some ⟨w.heap.size, 0, none⟩) 1 1)) (w.alloc (.cells #[.int .i64 (-1 - i)] 2)) :=
    ⟨_, 1, 1, rfl, Own.of_row (Row.new _ _ _) rfl rfl (Nat.le_refl _) (by omega) (Nat.le_refl _) (fun j hj => by
      have e : j = 0 := by omega
      subst e
      rfl), (Below.refl _ _).alloc (Nat.le_refl _) _⟩
  have HF := Lib.hid F
  clear F
  go_enter Try.func59, Try.ntmps59
  go_wp2
  go_ret
  exact HF.out

/-- an answer that may be read: it lies below B, or it is new -/
def AnsLook (B : Nat) (w : World) (ys : List Int) (e : Ending) (w' : World) : Prop := ∃ A n c, e = .returned (.slice A n c) ∧ Seg w' w'.heap.size A n ys ∧ Cap A n c ∧ (∀ k, blk A = some k → k < B ∨ w.heap.size ≤ k) ∧ Below w.heap.size w w'
/-- function g with what it has captured looks up L, at variables below N, as long as what lies in w lies -/
def Looks (g : Nat) (lb : Array Value) (w : World) (L : Nat → List Int) (N : Nat) : Prop :=
  ∀ (W : World) (i : Nat), Below w.heap.size w W → i < N → Calls Try.prog g (#[.int .i64 (i : Int)] ++ lb) W (AnsLook w.heap.size W (L i))
theorem Looks.next {g : Nat} {lb : Array Value} {w w' : World} {L : Nat → List Int} {N : Nat} (h : Looks g lb w L N) (hb : Below w.heap.size w w') : Looks g lb w' L N :=
  fun W i hW hi => (h W i (next_trans hb hW) hi).mono fun _ _ ⟨A, n, c, he, h1, h2, h3, h4⟩ => ⟨A, n, c, he, h1, h2, fun k hk => by have := h3 k hk; have := hb.size; omega, h4⟩
theorem own_cap {w : World} {base : Nat} {A : Option Addr} {n c : Nat} {xs : List Int} (h : Own w base (.slice A n c) xs) : Cap A n c := by
  have hl := Own.len h
  rcases own_form (n := n) (vs := xs.map (Value.int .i64)) (by rw [hl]; rw [hl] at h; exact h) with ⟨rfl, h1, rfl, _⟩ | ⟨g, cur, rfl, _, _, h1, h2, h3, _⟩
  · exact ⟨by omega, by omega, fun _ => rfl⟩
  · exact ⟨h1, h3, fun e => by cases e⟩
theorem look_new {w w' : World} {B : Nat} {ys : List Int} {A : Option Addr} {n c : Nat} (ho : Own w' w.heap.size (.slice A n c) ys) (hb : Below w.heap.size w w') : AnsLook B w ys (.returned (.slice A n c)) w' :=
  ⟨A, n, c, rfl, Own.seg ho, own_cap ho, fun k hk => .inr (World.ownsRow.lt ho k (by cases A with | none => cases hk | some a => exact hk)).1, hb⟩

/-- the head of fill's loop -/
def HeadFill (w : World) (m : Nat) (t : List Int) (L : Nat → List Int) (out i : Value) (wr : World) : Prop :=
  ∃ (k : Nat) (O : Option Addr) (on oc : Nat), k ≤ m ∧ i = .int .i64 k ∧ out = .slice O on oc ∧ Own wr w.heap.size (.slice O on oc) (fillL L (t.take k)) ∧ Below w.heap.size w wr
theorem fill_bound {L : Nat → List Int} {t : List Int} {m k : Nat} (hM : ∀ i, (L i).length ≤ 4096) (hm : t.length = m) (h60 : m ≤ 60) : (fillL L (t.take k)).length ≤ 245760 := by
  have h := fill_len (M := 4096) (by omega) hM (t.take k)
  have h2 : (t.take k).length ≤ 60 := by simp; omega
  have h3 : (t.take k).length * 4096 ≤ 60 * 4096 := Nat.mul_le_mul_right _ h2
  omega

set_option maxHeartbeats 2000000 in
theorem fill (g : Nat) (lb : Array Value) (eg : ∀ args w, (callFunc g args).run Try.prog w = .ok (.enter g args) w) (A : Option Addr) (m c : Nat) (t : List Int) (L : Nat → List Int) (w : World)
    (hL : Looks g lb w L 24) (h : Seg w w.heap.size A m t) (hm : m ≤ 60) (hv : ∀ x ∈ t, -24 ≤ x) (hM : ∀ i, (L i).length ≤ 4096) :
    Calls Try.prog 73 #[.func (.func g) #[] lb, .slice A m c] w (AnsList w (fillL L t)) := by
  have HL := Lib.hid h.1
  have HV := Lib.hid hv
  have HM := Lib.hid hM
  have HK := Lib.hid hL
  have S0 : HeadFill w m t L (.slice none 0 0) (.int .i64 0) w := ⟨0, _, _, _, Nat.zero_le _, rfl, rfl, by simpa [fillL] using Own.nil w w.heap.size, Below.refl _ _⟩
  have HS0 := Lib.hid S0
  clear S0 hv hM hL
  go_enter Try.func73, Try.ntmps73
  go_wp2
  go_loopw [5, 10] (fun out i wr => HeadFill w m t L out i wr) (fun _ i _ => m - (intOf i).toNat)
  case atStart => exact HS0.out
  case round =>
    obtain ⟨k, O, on, oc, hk, rfl, rfl, ho, hb⟩ := hrel
    clear HS0
    have hon : on ≤ 245760 := by rw [Own.len ho]; exact fill_bound HM.out HL.out hm
    by_cases hlt : k < m
    · obtain ⟨b, off, x, rfl, hbb, hx, ex⟩ := h.spot hlt
      have hx1 : wr.cell? ⟨b, off + k, none⟩ = some (.int .i64 x) := (hb.cell (p := ⟨b, off + k, none⟩) hbb).trans hx
      have hmem : x ∈ t := by
        have hkl : k < t.length := by rw [HL.out]; exact hlt
        have := ex.out
        rw [← this]
        simp [List.getD, hkl]
      have hx24 : -24 ≤ x := HV.out x hmem
      have E := Lib.hid (fill_take (L := L) (t := t) (k := k) (by rw [HL.out]; exact hlt) ex.out)
      have hsz := hb.size
      clear hmem hx h ex
      by_cases hpos : 0 ≤ x
      · have R := Lib.hid (rep_sym (L := L) hpos)
        go_wp2_with (at_builtin; refine app1 rfl _ _ rfl w.heap.size O on oc (fillL L (t.take k)) rfl (Own.alloc ho _) wr.heap.size 1 x rfl ((Row.new _ _ _).cell 0) (by omega) (by simp; omega) ?_; intro O' oc' w2 ho2 b2)
        have S : HeadFill w m t L (.slice O' (on + 1) oc') (.int .i64 ((k : Int) + 1)) w2 := ⟨k + 1, O', on + 1, oc', hlt, by simp, rfl, by rw [E.out, R.out]; exact ho2, (hb.alloc hsz _).trans b2⟩
        replace S := Lib.hid S
        clear ho2 b2 ho hb R E
        go_wp2
        go_roundw
        case rel => exact S.out
        case measure => simp [intOf]; omega
      · have hneg : x < 0 := by omega
        have R := Lib.hid (rep_var (L := L) hneg)
        have hcall := HK.out wr (-1 - x).toNat hb (by omega)
        rw [show (((-1 - x).toNat : Nat) : Int) = -1 - x by omega] at hcall
        have hLM : (L (-1 - x).toNat).length ≤ 4096 := HM.out _
        generalize hys : L (-1 - x).toNat = ys at hcall R hLM
        replace hcall := Lib.hid hcall
        clear hys
        go_wp2_with (first
          | (go_at_fn g; refine hcall.out.mono ?_; rintro e w1 ⟨A', n', c', rfl, s', cap', -, bb⟩; have hn' : n' ≤ 4096 := (by rw [← s'.1]; exact hLM); have ho1 := ho.next bb; have hb1 := hb.trans (bb.mono hb.size))
          | (at_builtin; refine appAll rfl _ _ rfl w.heap.size O on oc (fillL L (t.take k)) rfl ho1 A' n' c' w1.heap.size ys rfl s' cap'.2.2 (by omega) (by omega) hb1.size ?_; intro O' oc' w2 ho2 b2))
        have S : HeadFill w m t L (.slice O' (on + n') oc') (.int .i64 ((k : Int) + 1)) w2 := ⟨k + 1, O', on + n', oc', hlt, by simp, rfl, by rw [E.out, R.out]; exact ho2, hb1.trans b2⟩
        replace S := Lib.hid S
        clear ho2 b2 ho hb R E ho1 hb1 s' cap' bb hcall
        go_wp2
        go_roundw
        case rel => exact S.out
        case measure => simp [intOf]; omega
    · have F : AnsList w (fillL L t) (.returned (.slice O on oc)) wr := by
        rw [List.take_of_length_le (by rw [HL.out]; omega)] at ho
        exact ⟨O, on, oc, rfl, ho, hb⟩
      have HF := Lib.hid F
      clear F ho hb h
      go_wp2
      go_ret
      exact HF.out
end Go.Proofs.Ytkmhnkljigncmaa.look
end

section
/-
  CONTRACTS: impl.lookup.then and what it returns, impl.varTerm as a look-up. 'LooksE x': a look-up that goes on as it does whatever is written into block x. Conditions: the values of the first look-up are terms of at most 60 numbers. (The closure's region by wip/tools/reg.py.) By an AI agent.
-/
namespace Go.Proofs.Ytkmhnkljigncmaa.thn
open Go.RowKit Go.Proofs.Ytkmhnkljigncmaa.base Go.Proofs.Ytkmhnkljigncmaa.ints Go.Proofs.Ytkmhnkljigncmaa.cursor Go.Proofs.Ytkmhnkljigncmaa.marks Go.Proofs.Ytkmhnkljigncmaa.app Go.Proofs.Ytkmhnkljigncmaa.sym Go.Proofs.Ytkmhnkljigncmaa.segs Go.Proofs.Ytkmhnkljigncmaa.fillMath Go.Proofs.Ytkmhnkljigncmaa.look
set_option maxRecDepth 100000

/-- as 'Looks', and whatever is written into block x -/
def LooksE (x : Option Nat) (g : Nat) (lb : Array Value) (w : World) (L : Nat → List Int) (N : Nat) : Prop :=
  ∀ (W : World) (i : Nat), w.grownBy W x → i < N → Calls Try.prog g (#[.int .i64 (i : Int)] ++ lb) W (AnsLook w.heap.size W (L i))
section
variable {x : Option Nat} {g : Nat} {lb : Array Value} {w w' : World} {L L' : Nat → List Int} {N : Nat}
theorem LooksE.next (h : LooksE x g lb w L N) (hg : w.grownBy w' x) : LooksE x g lb w' L N :=
  fun W i hW hi => (h W i (grown_trans hg hW) hi).mono fun _ _ ⟨A, n, c, he, h1, h2, h3, h4⟩ => ⟨A, n, c, he, h1, h2, fun k hk => by have := h3 k hk; have := hg.size; omega, h4⟩
theorem LooksE.looks (h : LooksE x g lb w L N) : Looks g lb w L N := fun W i hW hi => h W i (grown_below hW x) hi
theorem LooksE.ext (h : LooksE x g lb w L N) (e : ∀ i, i < N → L i = L' i) : LooksE x g lb w L' N := fun W i hW hi => by rw [← e i hi]; exact h W i hW hi
theorem grown_drew {a b : World} {r : Option Nat} (h : a.grownBy b r) : a.grownBy b.drew r := ⟨h.os, h.tape, h.output, h.size, h.block⟩
theorem lookVar (x : Option Nat) (w : World) : LooksE x 59 #[] w vt 24 := fun W i _ hi =>
  (varTerm (i : Int) W (by omega) (by omega)).mono fun _ _ ⟨A, n, c, he, ho, hb⟩ => by subst he; exact look_new ho hb
end
/-- what then returns: first the one, and what the other makes of it -/
theorem lookThen (x : Option Nat) (b1 b2 g1 g2 : Nat) (lb1 lb2 : Array Value) (e1 : ∀ args w, (callFunc g1 args).run Try.prog w = .ok (.enter g1 args) w) (e2 : ∀ args w, (callFunc g2 args).run Try.prog w = .ok (.enter g2 args) w) (L1 L2 : Nat → List Int) (w : World)
    (z1 : b1 < w.heap.size) (z2 : b2 < w.heap.size) (n1 : x ≠ some b1) (n2 : x ≠ some b2) (c1 : w.cell? ⟨b1, 0, none⟩ = some (.func (.func g1) #[] lb1)) (c2 : w.cell? ⟨b2, 0, none⟩ = some (.func (.func g2) #[] lb2))
    (h1 : LooksE x g1 lb1 w L1 24) (h2 : LooksE x g2 lb2 w L2 24) (hl1 : ∀ i, i < 24 → (L1 i).length ≤ 60) (hv : ∀ i, i < 24 → ∀ y ∈ L1 i, -24 ≤ y) (hl2 : ∀ i, (L2 i).length ≤ 4096) :
    LooksE x 113 #[.pointer (some ⟨b2, 0, none⟩), .pointer (some ⟨b1, 0, none⟩)] w (fun i => fillL L2 (L1 i)) 24 := by
  intro W i hb hi
  have hsz := hb.size
  have p1 : W.cell? ⟨b1, 0, none⟩ = some (.func (.func g1) #[] lb1) := hb.cell c1 (fun e => n1 e.symm)
  have p2 : W.cell? ⟨b2, 0, none⟩ = some (.func (.func g2) #[] lb2) := hb.cell c2 (fun e => n2 e.symm)
  have HL1 := Lib.hid (h1 W.drew i (grown_drew hb) hi)
  have LU := (h2.next (grown_drew hb)).looks
  have h60 := Lib.hid (hl1 i hi)
  have HV := Lib.hid (hv i hi)
  have hM2 := Lib.hid hl2
  clear hb z1 z2 c1 c2 h1 h2 hl1 hv hl2
  show Calls Try.prog 113 #[.int .i64 (i : Int), .pointer (some ⟨b2, 0, none⟩), .pointer (some ⟨b1, 0, none⟩)] W _
  go_enter Try.func113, Try.ntmps113
  go_wp2_with fail
  refine wp_region_held_drew (S := (fun w' => w'.cell? ⟨b1, 0, none⟩ = some (.func (.func g1) #[] lb1) ∧ w'.cell? ⟨b2, 0, none⟩ = some (.func (.func g2) #[] lb2))) (by kernel_rfl) ⟨p1, p2⟩ (fun hHeld => ?_)
  refine wpAnyH_take (i := 0) (v := ?_) rfl (by kernel_rfl) (by kernel_rfl) (by kernel_rfl) (fun _ _ _ h => h) (Or.inl ⟨by rfl, ?_⟩) (by assumption) ?_
  rotate_left 1
  · (intro w0 hSw; (try dsimp only at hSw); go_simp; try with_reducible rfl)
  try simp only [Act.put, List.setIfInBounds_toArray, List.set_cons_zero, List.set_cons_succ, List.getElem_toArray, List.getElem_cons_zero, List.getElem_cons_succ]
  refine wpAnyH_take (i := 1) (v := ?_) rfl (by kernel_rfl) (by kernel_rfl) (by kernel_rfl) (fun _ _ _ h => h) (Or.inl ⟨by rfl, ?_⟩) (by assumption) ?_
  rotate_left 1
  · (intro w0 hSw; (try dsimp only at hSw); go_simp; try with_reducible rfl)
  try simp only [Act.put, List.setIfInBounds_toArray, List.set_cons_zero, List.set_cons_succ, List.getElem_toArray, List.getElem_cons_zero, List.getElem_cons_succ]
  refine wpAnyH_take (i := 2) (v := ?_) rfl (by kernel_rfl) (by kernel_rfl) (by kernel_rfl) (fun _ _ _ h => h) (Or.inl ⟨by rfl, ?_⟩) (by assumption) ?_
  rotate_left 1
  · (intro w0 hSw; (try dsimp only at hSw); go_simp; try with_reducible rfl)
  try simp only [Act.put, List.setIfInBounds_toArray, List.set_cons_zero, List.set_cons_succ, List.getElem_toArray, List.getElem_cons_zero, List.getElem_cons_succ]
  refine wpAnyH_ready (rs := [3]) (by kernel_rfl) (by simp) (AllReadyH.cons rfl (fun K hK => ?_) AllReadyH.nil)
  go_simp
  refine HL1.out.mono ?_; rintro e w3 ⟨X, xn, xc, rfl, s1, -, -, b1'⟩; have x1 : w3.cell? ⟨b1, 0, none⟩ = some (.func (.func g1) #[] lb1) := (b1'.cell (p := ⟨b1, 0, none⟩) (World.block_lt_of_cell? _ _ p1)).trans p1; have x2 : w3.cell? ⟨b2, 0, none⟩ = some (.func (.func g2) #[] lb2) := (b1'.cell (p := ⟨b2, 0, none⟩) (World.block_lt_of_cell? _ _ p2)).trans p2; go_wp2_with fail
  refine hK.out _ _ ?_ (fun hHeld => ?_)
  · first | assumption | (dsimp only; assumption) | exact ⟨by assumption, by assumption⟩
  clear hK K
  try simp only [Act.put, List.setIfInBounds_toArray, List.set_cons_zero, List.set_cons_succ, List.getElem_toArray, List.getElem_cons_zero, List.getElem_cons_succ]
  refine wpAnyH_ready (rs := [4]) (by kernel_rfl) (by simp) (AllReadyH.cons rfl (fun K hK => ?_) AllReadyH.nil)
  go_simp
  refine (fill g2 lb2 e2 X xn xc (L1 i) L2 w3 (LU.next b1') s1 (by rw [← s1.1]; exact h60.out) HV.out hM2.out).mono ?_; rintro e w4 ⟨Y, yn, yc, rfl, oy, b2'⟩; have y1 := (b2'.cell (p := ⟨b1, 0, none⟩) (World.block_lt_of_cell? _ _ x1)).trans x1; have y2 := (b2'.cell (p := ⟨b2, 0, none⟩) (World.block_lt_of_cell? _ _ x2)).trans x2; go_wp2_with fail
  refine hK.out _ _ ?_ (fun hHeld => ?_)
  · first | assumption | (dsimp only; assumption) | exact ⟨by assumption, by assumption⟩
  clear hK K
  try simp only [Act.put, List.setIfInBounds_toArray, List.set_cons_zero, List.set_cons_succ, List.getElem_toArray, List.getElem_cons_zero, List.getElem_cons_succ]
  refine wpAnyH_take (i := 5) (v := ?_) rfl (by kernel_rfl) (by kernel_rfl) (by kernel_rfl) (fun _ _ _ h => h) (Or.inl ⟨by rfl, ?_⟩) (by assumption) ?_
  rotate_left 1
  · (intro w0 hSw; (try dsimp only at hSw); go_simp; try with_reducible rfl)
  try simp only [Act.put, List.setIfInBounds_toArray, List.set_cons_zero, List.set_cons_succ, List.getElem_toArray, List.getElem_cons_zero, List.getElem_cons_succ]
  refine wpAnyH_done (by kernel_rfl) ?_ _
  have F : AnsLook w.heap.size W (fillL L2 (L1 i)) (.returned (.slice Y yn yc)) w4 :=
    look_new (w := W) (Own.lower oy (show W.drew.heap.size ≤ w3.heap.size from b1'.size)) (next_trans ((Below.refl _ _).drew : Below W.heap.size W W.drew) (next_trans b1' b2'))
  have HF := Lib.hid F
  clear F oy s1 b1' b2' HL1 LU p1 p2 x1 x2
  go_wp2
  go_ret
  exact HF.out

/-- then: two new variables hold the look-ups -/
theorem thenC (g1 g2 : Nat) (lb1 lb2 : Array Value) (w : World) :
    Calls Try.prog 75 #[.func (.func g1) #[] lb1, .func (.func g2) #[] lb2] w fun e w' => e = .returned (.func (.func 113) #[] #[.pointer (some ⟨w.heap.size + 1, 0, none⟩), .pointer (some ⟨w.heap.size, 0, none⟩)]) ∧ w' = (w.alloc (.cells #[.func (.func g1) #[] lb1] 66)).alloc (.cells #[.func (.func g2) #[] lb2] 66) := by
  have hmf : ∀ (fn : Fn) (first cap : Array Value) (w : World), (Instr.makeFunc fn first cap).run Try.prog w = .ok (.func fn first cap) w := fun _ _ _ _ => rfl
  go_enter Try.func75, Try.ntmps75
  go_wp2
  go_ret
  exact ⟨rfl, rfl⟩
/-- the same, without the addresses -/
def AnsThen (w : World) (g1 g2 : Nat) (lb1 lb2 : Array Value) (e : Ending) (w' : World) : Prop :=
  ∃ b1 b2, e = .returned (.func (.func 113) #[] #[.pointer (some ⟨b2, 0, none⟩), .pointer (some ⟨b1, 0, none⟩)]) ∧ w.heap.size ≤ b1 ∧ w.heap.size ≤ b2 ∧ w'.cell? ⟨b1, 0, none⟩ = some (.func (.func g1) #[] lb1) ∧ w'.cell? ⟨b2, 0, none⟩ = some (.func (.func g2) #[] lb2) ∧ Below w.heap.size w w'
theorem thenB (g1 g2 : Nat) (lb1 lb2 : Array Value) (w : World) :
    Calls Try.prog 75 #[.func (.func g1) #[] lb1, .func (.func g2) #[] lb2] w (AnsThen w g1 g2 lb1 lb2) :=
  (thenC g1 g2 lb1 lb2 w).mono fun e w' ⟨h1, h2⟩ => by
    subst h2
    refine ⟨_, _, h1, Nat.le_refl _, Nat.le_succ _, ((Row.new w _ _).alloc _).cell 0, ?_, ((Below.refl _ _).alloc (Nat.le_refl _) _).alloc (by simp) _⟩
    simp
end Go.Proofs.Ytkmhnkljigncmaa.thn
end

section
/-
  WORD: what a contract of a test says: a bool, and that below the call's own blocks nothing has turned. Conditions: none. By an AI agent.
-/
namespace Go.Proofs.Ytkmhnkljigncmaa.varsOf
open Go.RowKit Go.Proofs.Ytkmhnkljigncmaa.base

def AnsB (w : World) (b : Bool) (e : Ending) (w' : World) : Prop := e = .returned (.bool b) ∧ Below w.heap.size w w'
theorem ansB {w w' : World} {a b : Bool} (h : a = b) (hb : Below w.heap.size w w') : AnsB w b (.returned (.bool a)) w' := ⟨by rw [h], hb⟩
end Go.Proofs.Ytkmhnkljigncmaa.varsOf
end

section
/-
  CONTRACTS: spec.SubstOk, impl.SubstOk, spec.l2Gives, impl.lookupIn and what it returns. Conditions: the slices read as lists ('Seg', 'Segs'), at most 1048576 values. By an AI agent.
-/
namespace Go.Proofs.Ytkmhnkljigncmaa.substOk
open Go.RowKit Go.Proofs.Ytkmhnkljigncmaa.base Go.Proofs.Ytkmhnkljigncmaa.ints Go.Proofs.Ytkmhnkljigncmaa.sig Go.Proofs.Ytkmhnkljigncmaa.term Go.Proofs.Ytkmhnkljigncmaa.termOk Go.Proofs.Ytkmhnkljigncmaa.marks Go.Proofs.Ytkmhnkljigncmaa.app Go.Proofs.Ytkmhnkljigncmaa.sym Go.Proofs.Ytkmhnkljigncmaa.sub Go.Proofs.Ytkmhnkljigncmaa.segs Go.Proofs.Ytkmhnkljigncmaa.segsHelp Go.Proofs.Ytkmhnkljigncmaa.termFacts Go.Proofs.Ytkmhnkljigncmaa.varsMath Go.Proofs.Ytkmhnkljigncmaa.varsOf Go.Proofs.Ytkmhnkljigncmaa.fillMath Go.Proofs.Ytkmhnkljigncmaa.look
set_option maxRecDepth 100000

/-- nothing, or a term -/
def goodB (sg t : List Int) : Bool := decide (t.length = 0) || termOkB sg t
/-- a valid substitution -/
def substOkB (sg : List Int) (ss : List (List Int)) : Bool := sigOkB sg && (decide (ss.length ≤ 24) && ss.all (goodB sg))
theorem substOk_parts {sg : List Int} {ss : List (List Int)} (h : substOkB sg ss = true) : sigOkB sg = true ∧ ss.length ≤ 24 ∧ ∀ j, j < ss.length → goodB sg (ss.getD j []) = true := by
  unfold substOkB at h
  simp only [Bool.and_eq_true, decide_eq_true_eq, List.all_eq_true] at h
  refine ⟨h.1, h.2.1, fun j hj => ?_⟩
  have := h.2.2 (ss[j]) (List.getElem_mem hj)
  simpa [List.getD, hj] using this
theorem subst_sig {sg : List Int} {ss : List (List Int)} (h : sigOkB sg = false) : substOkB sg ss = false := by unfold substOkB; rw [h, Bool.false_and]
theorem subst_long {sg : List Int} {ss : List (List Int)} (h : ¬ ss.length ≤ 24) : substOkB sg ss = false := by unfold substOkB; rw [decide_eq_false h, Bool.false_and, Bool.and_false]
theorem subst_bad {sg : List Int} {ss : List (List Int)} {k : Nat} (hk : k < ss.length) (h : goodB sg (ss.getD k []) = false) : substOkB sg ss = false := by
  have : ss.all (goodB sg) = false := by
    rw [List.all_eq_false]
    refine ⟨ss[k], List.getElem_mem hk, ?_⟩
    have e : ss.getD k [] = ss[k] := by simp [List.getD, hk]
    rw [e] at h
    simp [h]
  unfold substOkB
  rw [this, Bool.and_false, Bool.and_false]
theorem subst_good {sg : List Int} {ss : List (List Int)} (h : sigOkB sg = true) (hl : ss.length ≤ 24) (hg : ∀ j, j < ss.length → goodB sg (ss.getD j []) = true) : substOkB sg ss = true := by
  have : ss.all (goodB sg) = true := by
    rw [List.all_eq_true]
    intro x hx
    obtain ⟨j, hj, rfl⟩ := List.getElem_of_mem hx
    have := hg j hj
    simpa [List.getD, hj] using this
  unfold substOkB
  rw [this, h, decide_eq_true hl]
  rfl

/-- the first k elements are good -/
def HeadSO (w : World) (A : Option Addr) (n c : Nat) (S : Option Addr) (m c' : Nat) (sg : List Int) (ss : List (List Int)) (i : Value) (wr : World) : Prop :=
  ∃ k : Nat, k ≤ m ∧ i = .int .i64 k ∧ (∀ j, j < k → goodB sg (ss.getD j []) = true) ∧ Row wr w.heap.size 26 #[.slice A n c] ∧ Row wr (w.heap.size + 1) 31 #[.slice S m c'] ∧ Below w.heap.size w wr
theorem headSO_step {w wr : World} {A : Option Addr} {n c : Nat} {S : Option Addr} {m c' : Nat} {sg : List Int} {ss : List (List Int)} {k : Nat} (hk : k < m) (hlow : ∀ j, j < k → goodB sg (ss.getD j []) = true) (hg : goodB sg (ss.getD k []) = true)
    (r1 : Row wr w.heap.size 26 #[.slice A n c]) (r2 : Row wr (w.heap.size + 1) 31 #[.slice S m c']) (hb : Below w.heap.size w wr) : HeadSO w A n c S m c' sg ss (.int .i64 ((k : Int) + 1)) wr :=
  ⟨k + 1, hk, by simp, fun j hj => by
    by_cases e : j = k
    · subst e; exact hg
    · exact hlow j (by omega), r1, r2, hb⟩

/-- the two boxes of the parameters -/
theorem boxes2 (w : World) (A : Option Addr) (n c : Nat) (S : Option Addr) (m c' : Nat) : ∃ W, W = (w.alloc (.cells #[.slice A n c] 26)).alloc (.cells #[.slice S m c'] 31) ∧
    Row W w.heap.size 26 #[.slice A n c] ∧ Row W (w.heap.size + 1) 31 #[.slice S m c'] ∧ Below w.heap.size w W := by
  refine ⟨_, rfl, ?_, ?_, ?_⟩
  · have := (Row.new w 26 #[.slice A n c]).alloc (.cells #[.slice S m c'] 31)
    simpa using this
  · have := Row.new (w.alloc (.cells #[.slice A n c] 26)) 31 #[.slice S m c']
    simpa using this
  · exact ((Below.refl _ _).alloc (Nat.le_refl _) _).alloc (by simp) _

set_option maxHeartbeats 4000000 in
theorem specSubstOk (A S : Option Addr) (n c m c' : Nat) (sg : List Int) (ss : List (List Int)) (w : World) (h : Seg w w.heap.size A n sg) (h' : Segs w w.heap.size S m ss) (hn : n ≤ 1048576) (ht : tot ss ≤ 1048576) :
    Calls Try.prog 65 #[.agg #[.slice A n c], .agg #[.slice S m c']] w (AnsB w (substOkB sg ss)) := by
  obtain ⟨W, hW, rA, rS, bel⟩ := boxes2 w A n c S m c'
  have HW := Lib.hid hW
  have HL := Lib.hid h'.1
  have hm : m ≤ 1048576 := tot_len h'.1 ht
  have HT := Lib.hid (tot_each ht)
  have L := Lib.hid (specSigOk A n c sg W (h.next bel) hn)
  have cS : W.cell? ⟨w.heap.size + 1, 0, none⟩ = some (.slice S m c') := rS.cell 0
  clear hW ht
  cases hsig : sigOkB sg with
  | false =>
    have HS := Lib.hid hsig
    clear hsig h h'
    go_enter Try.func65, Try.ntmps65
    go_wp2_with fail
    rw [← HW.out]
    refine L.out.mono ?_
    rintro e w1 ⟨he, bb⟩
    rw [HS.out] at he
    subst he
    have F := Lib.hid (ansB (b := substOkB sg ss) (a := false) (by rw [subst_sig HS.out]) (next_trans bel bb))
    clear bb bel rA rS cS
    go_wp2
    go_ret
    exact F.out
  | true =>
    have HS := Lib.hid hsig
    clear hsig
    by_cases h24 : m ≤ 24
    · go_enter Try.func65, Try.ntmps65
      go_wp2_with fail
      rw [← HW.out]
      refine L.out.mono ?_
      rintro e w1 ⟨he, bb⟩
      rw [HS.out] at he
      subst he
      have H0 : HeadSO w A n c S m c' sg ss (.int .i64 0) w1 := ⟨0, Nat.zero_le _, rfl, fun j hj => absurd hj (Nat.not_lt_zero _), rA.next bb, rS.next bb, next_trans bel bb⟩
      have HH := Lib.hid H0
      have cS1 : w1.cell? ⟨w.heap.size + 1, 0, none⟩ = some (.slice S m c') := (rS.next bb).cell 0
      clear H0 bb bel rA rS cS L
      go_wp2_with fail
      go_loopw [5] (fun i wr => HeadSO w A n c S m c' sg ss i wr) (fun i _ => m - (intOf i).toNat)
      case atStart => exact HH.out
      case round =>
        obtain ⟨k, hk, rfl, hlow, r1, r2, hb⟩ := hrel
        have HLOW := Lib.hid hlow
        clear hlow HH cS1
        have cS : wr.cell? ⟨w.heap.size + 1, 0, none⟩ = some (.slice S m c') := r2.cell 0
        have cA : wr.cell? ⟨w.heap.size, 0, none⟩ = some (.slice A n c) := r1.cell 0
        by_cases hlt : k < m
        · obtain ⟨b, off, A', n', cc, rfl, hbB, hx, hseg, hcap⟩ := h'.spot hlt
          have hx1 : wr.cell? ⟨b, off + k, none⟩ = some (.slice A' n' cc) := (hb.cell (p := ⟨b, off + k, none⟩) hbB).trans hx
          have hn' : n' ≤ 1048576 := by rw [← hseg.1]; exact HT.out k
          have HG := Lib.hid hseg.1
          have i0 : (0 : Int) ≤ (k : Int) := by omega
          have i1 : (k : Int) < (m : Int) := by omega
          have hbr : b < wr.heap.size := Nat.lt_of_lt_of_le hbB hb.size
          have r1d := r1.drew
          have r2d := r2.drew
          have hbd := hb.drew
          by_cases hz : n' = 0
          · subst hz
            have S1 : ∀ d : Nat, HeadSO w A n c (some ⟨b, off, none⟩) m c' sg ss (.int .i64 ((k : Int) + 1)) (wr.drewN d) := fun d => headSO_step hlt HLOW.out (by unfold goodB; rw [HG.out]; rfl) (r1.drewN d) (r2.drewN d) (below_drewN hb d)
            have HS1 := Lib.hid S1
            clear S1 r1 r2 hb hx hseg hcap r1d r2d hbd h h'
            go_wp2_with fail
            go_quiet (fail)
            go_wp2
            go_roundw
            case rel => exact HS1.out _
            case measure => simp [intOf]; omega
          · have hpos : 0 < n' := by omega
            have i2 : (0 : Int) < (n' : Int) := by omega
            have LT := Lib.hid (specTermOk A A' n c n' cc sg (ss.getD k []) wr.drew ((h.next hb).drew) (((hseg.below hb).more hb.size).drew) hn hn')
            have hne1 := World.new_ne wr _ cS
            cases hok : termOkB sg (ss.getD k []) with
            | false =>
              have HO := Lib.hid hok
              clear hok hx hseg hcap h h' r1 r2 hb
              go_wp2_with fail
              go_region_held3 (fun w' => w'.cell? ⟨w.heap.size + 1, 0, none⟩ = some (.slice (some ⟨b, off, none⟩) m c') ∧ w'.cell? ⟨w.heap.size, 0, none⟩ = some (.slice A n c) ∧ w'.cell? ⟨b, off + k, none⟩ = some (.slice A' n' cc))
                (go_keep)
                (first
                  | (go_at_call 62; refine LT.out.mono ?_; rintro e w2 ⟨he, bb⟩; rw [HO.out] at he; subst he; have cA2 : w2.cell? ⟨w.heap.size, 0, none⟩ = some (.slice A n c) := (r1d.next bb).cell 0; have cS2 : w2.cell? ⟨w.heap.size + 1, 0, none⟩ = some (.slice (some ⟨b, off, none⟩) m c') := (r2d.next bb).cell 0; have cX2 : w2.cell? ⟨b, off + k, none⟩ = some (.slice A' n' cc) := (bb.cell (p := ⟨b, off + k, none⟩) hbr).trans hx1; have F := Lib.hid (ansB (b := substOkB sg ss) (a := false) (by rw [subst_bad (k := k) (by rw [HL.out]; exact hlt) (by unfold goodB; rw [HO.out, HG.out]; simp; omega)]) (next_trans hbd bb))))
              clear r1d r2d hbd LT cA2 cS2 cX2 hx1 cA cS
              go_wp2
              go_ret
              exact F.out
            | true =>
              have HO := Lib.hid hok
              clear hok hx hseg hcap h h' r1 r2 hb
              go_wp2_with fail
              go_region_held3 (fun w' => w'.cell? ⟨w.heap.size + 1, 0, none⟩ = some (.slice (some ⟨b, off, none⟩) m c') ∧ w'.cell? ⟨w.heap.size, 0, none⟩ = some (.slice A n c) ∧ w'.cell? ⟨b, off + k, none⟩ = some (.slice A' n' cc))
                (go_keep)
                (first
                  | (go_at_call 62; refine LT.out.mono ?_; rintro e w2 ⟨he, bb⟩; rw [HO.out] at he; subst he; have cA2 : w2.cell? ⟨w.heap.size, 0, none⟩ = some (.slice A n c) := (r1d.next bb).cell 0; have cS2 : w2.cell? ⟨w.heap.size + 1, 0, none⟩ = some (.slice (some ⟨b, off, none⟩) m c') := (r2d.next bb).cell 0; have cX2 : w2.cell? ⟨b, off + k, none⟩ = some (.slice A' n' cc) := (bb.cell (p := ⟨b, off + k, none⟩) hbr).trans hx1; have F := Lib.hid (headSO_step (sg := sg) (ss := ss) hlt HLOW.out (by unfold goodB; rw [HO.out, Bool.or_true]) (r1d.next bb) (r2d.next bb) (next_trans hbd bb))))
              clear r1d r2d hbd LT cA2 cS2 cX2 hx1 cA cS
              go_wp2
              go_roundw
              case rel => exact F.out
              case measure => simp [intOf]; omega
        · have F := Lib.hid (ansB (b := substOkB sg ss) (a := true) (by rw [subst_good HS.out (by rw [HL.out]; exact h24) (fun j hj => HLOW.out j (by rw [HL.out] at hj; omega))]) hb)
          clear r1 r2 hb h h'
          go_wp2
          go_ret
          exact F.out
    · have i1 : (24 : Int) < (m : Int) := by omega
      go_enter Try.func65, Try.ntmps65
      go_wp2_with fail
      rw [← HW.out]
      refine L.out.mono ?_
      rintro e w1 ⟨he, bb⟩
      rw [HS.out] at he
      subst he
      have cS1 : w1.cell? ⟨w.heap.size + 1, 0, none⟩ = some (.slice S m c') := (rS.next bb).cell 0
      have F := Lib.hid (ansB (b := substOkB sg ss) (a := false) (by rw [subst_long (by rw [HL.out]; exact h24)]) (next_trans bel bb))
      clear bb bel rA rS cS h h' L
      go_wp2
      go_ret
      exact F.out
end Go.Proofs.Ytkmhnkljigncmaa.substOk
end

section
/-
  CONTRACTS: impl.SubstOk, spec.l2Gives, impl.lookupIn and what it returns, impl.tooLong. Conditions: the slices read as lists ('Seg', 'Segs'), at most 1048576 values. By an AI agent.
-/
namespace Go.Proofs.Ytkmhnkljigncmaa.gives
open Go.RowKit Go.Proofs.Ytkmhnkljigncmaa.base Go.Proofs.Ytkmhnkljigncmaa.ints Go.Proofs.Ytkmhnkljigncmaa.sig Go.Proofs.Ytkmhnkljigncmaa.term Go.Proofs.Ytkmhnkljigncmaa.termOk Go.Proofs.Ytkmhnkljigncmaa.marks Go.Proofs.Ytkmhnkljigncmaa.app Go.Proofs.Ytkmhnkljigncmaa.sym Go.Proofs.Ytkmhnkljigncmaa.sub Go.Proofs.Ytkmhnkljigncmaa.segs Go.Proofs.Ytkmhnkljigncmaa.segsHelp Go.Proofs.Ytkmhnkljigncmaa.termFacts Go.Proofs.Ytkmhnkljigncmaa.varsMath Go.Proofs.Ytkmhnkljigncmaa.varsOf Go.Proofs.Ytkmhnkljigncmaa.fillMath Go.Proofs.Ytkmhnkljigncmaa.look Go.Proofs.Ytkmhnkljigncmaa.substOk
set_option maxRecDepth 100000

set_option maxHeartbeats 4000000 in
theorem implSubstOk (A S : Option Addr) (n c m c' : Nat) (sg : List Int) (ss : List (List Int)) (w : World) (h : Seg w w.heap.size A n sg) (h' : Segs w w.heap.size S m ss) (hn : n ≤ 1048576) (ht : tot ss ≤ 1048576) :
    Calls Try.prog 71 #[.agg #[.slice A n c], .agg #[.slice S m c']] w (AnsB w (substOkB sg ss)) := by
  obtain ⟨W, hW, rA, rS, bel⟩ := boxes2 w A n c S m c'
  have HW := Lib.hid hW
  have HL := Lib.hid h'.1
  have hm : m ≤ 1048576 := tot_len h'.1 ht
  have HT := Lib.hid (tot_each ht)
  have L := Lib.hid (implSigOk A n c sg W (h.next bel) hn)
  have cS : W.cell? ⟨w.heap.size + 1, 0, none⟩ = some (.slice S m c') := rS.cell 0
  clear hW ht
  cases hsig : sigOkB sg with
  | false =>
    have HS := Lib.hid hsig
    clear hsig h h'
    go_enter Try.func71, Try.ntmps71
    go_wp2_with fail
    rw [← HW.out]
    refine L.out.mono ?_
    rintro e w1 ⟨he, bb⟩
    rw [HS.out] at he
    subst he
    have F := Lib.hid (ansB (b := substOkB sg ss) (a := false) (by rw [subst_sig HS.out]) (next_trans bel bb))
    clear bb bel rA rS cS
    go_wp2
    go_ret
    exact F.out
  | true =>
    have HS := Lib.hid hsig
    clear hsig
    by_cases h24 : m ≤ 24
    · go_enter Try.func71, Try.ntmps71
      go_wp2_with fail
      rw [← HW.out]
      refine L.out.mono ?_
      rintro e w1 ⟨he, bb⟩
      rw [HS.out] at he
      subst he
      have H0 : HeadSO w A n c S m c' sg ss (.int .i64 0) w1 := ⟨0, Nat.zero_le _, rfl, fun j hj => absurd hj (Nat.not_lt_zero _), rA.next bb, rS.next bb, next_trans bel bb⟩
      have HH := Lib.hid H0
      have cS1 : w1.cell? ⟨w.heap.size + 1, 0, none⟩ = some (.slice S m c') := (rS.next bb).cell 0
      clear H0 bb bel rA rS cS L
      go_wp2_with fail
      go_loopw [19] (fun i wr => HeadSO w A n c S m c' sg ss i wr) (fun i _ => m - (intOf i).toNat)
      case atStart => exact HH.out
      case round =>
        obtain ⟨k, hk, rfl, hlow, r1, r2, hb⟩ := hrel
        have HLOW := Lib.hid hlow
        clear hlow HH cS1
        have cA : wr.cell? ⟨w.heap.size, 0, none⟩ = some (.slice A n c) := r1.cell 0
        by_cases hlt : k < m
        · obtain ⟨b, off, A', n', cc, rfl, hbB, hx, hseg, hcap⟩ := h'.spot hlt
          have hx1 : wr.cell? ⟨b, off + k, none⟩ = some (.slice A' n' cc) := (hb.cell (p := ⟨b, off + k, none⟩) hbB).trans hx
          have hn' : n' ≤ 1048576 := by rw [← hseg.1]; exact HT.out k
          have HG := Lib.hid hseg.1
          by_cases hz : n' = 0
          · subst hz
            have S1 : HeadSO w A n c (some ⟨b, off, none⟩) m c' sg ss (.int .i64 ((k : Int) + 1)) wr := headSO_step hlt HLOW.out (by unfold goodB; rw [HG.out]; rfl) r1 r2 hb
            have HS1 := Lib.hid S1
            clear S1 r1 r2 hb hx hseg hcap h h'
            go_wp2
            go_roundw
            case rel => exact HS1.out
            case measure => simp [intOf]; omega
          · have hpos : 0 < n' := by omega
            have LT := Lib.hid (implTermOk A A' n c n' cc sg (ss.getD k []) wr (h.next hb) ((hseg.below hb).more hb.size) hn hn')
            cases hok : termOkB sg (ss.getD k []) with
            | false =>
              have HO := Lib.hid hok
              clear hok hx hseg hcap h h'
              go_wp2_with fail
              refine LT.out.mono ?_
              rintro e w2 ⟨he, bb⟩
              rw [HO.out] at he
              subst he
              have F := Lib.hid (ansB (b := substOkB sg ss) (a := false) (by rw [subst_bad (k := k) (by rw [HL.out]; exact hlt) (by unfold goodB; rw [HO.out, HG.out]; simp; omega)]) (next_trans hb bb))
              clear r1 r2 hb LT hx1 cA bb
              go_wp2
              go_ret
              exact F.out
            | true =>
              have HO := Lib.hid hok
              clear hok hx hseg hcap h h'
              go_wp2_with fail
              refine LT.out.mono ?_
              rintro e w2 ⟨he, bb⟩
              rw [HO.out] at he
              subst he
              have F := Lib.hid (headSO_step (sg := sg) (ss := ss) hlt HLOW.out (by unfold goodB; rw [HO.out, Bool.or_true]) (r1.next bb) (r2.next bb) (next_trans hb bb))
              clear r1 r2 hb LT hx1 cA bb
              go_wp2
              go_roundw
              case rel => exact F.out
              case measure => simp [intOf]; omega
        · have F := Lib.hid (ansB (b := substOkB sg ss) (a := true) (by rw [subst_good HS.out (by rw [HL.out]; exact h24) (fun j hj => HLOW.out j (by rw [HL.out] at hj; omega))]) hb)
          clear r1 r2 hb h h'
          go_wp2
          go_ret
          exact F.out
    · have i1 : (24 : Int) < (m : Int) := by omega
      go_enter Try.func71, Try.ntmps71
      go_wp2_with fail
      rw [← HW.out]
      refine L.out.mono ?_
      rintro e w1 ⟨he, bb⟩
      rw [HS.out] at he
      subst he
      have cS1 : w1.cell? ⟨w.heap.size + 1, 0, none⟩ = some (.slice S m c') := (rS.next bb).cell 0
      have F := Lib.hid (ansB (b := substOkB sg ss) (a := false) (by rw [subst_long (by rw [HL.out]; exact h24)]) (next_trans bel bb))
      clear bb bel rA rS cS h h' L
      go_wp2
      go_ret
      exact F.out

/-! ### what a substitution gives for a variable -/
def givesL (ss : List (List Int)) (i : Nat) : List Int := if (ss.getD i []).length = 0 then vt i else ss.getD i []
theorem gives_var {ss : List (List Int)} {i : Nat} (h : (ss.getD i []).length = 0) : givesL ss i = vt i := by unfold givesL; rw [if_pos h]
theorem gives_term {ss : List (List Int)} {i : Nat} (h : ¬ (ss.getD i []).length = 0) : givesL ss i = ss.getD i [] := by unfold givesL; rw [if_neg h]
theorem gives_out {ss : List (List Int)} {i : Nat} (h : ¬ i < ss.length) : givesL ss i = vt i := gives_var (by simp [List.getD, h])
theorem gives_ok {sg : List Int} {ss : List (List Int)} (h : substOkB sg ss = true) {i : Nat} (hi : i < 24) : termOkB sg (givesL ss i) = true := by
  obtain ⟨h1, h2, h3⟩ := substOk_parts h
  by_cases hl : i < ss.length
  · have h4 := h3 i hl
    by_cases hz : (ss.getD i []).length = 0
    · rw [gives_var hz]; exact var_term h1 hi
    · rw [gives_term hz]
      unfold goodB at h4
      rw [decide_eq_false hz, Bool.false_or] at h4
      exact h4
  · rw [gives_out hl]; exact var_term h1 hi
theorem gives_len {sg : List Int} {ss : List (List Int)} (h : substOkB sg ss = true) (i : Nat) : (givesL ss i).length ≤ 60 := by
  by_cases hi : i < ss.length
  · have h2 := (substOk_parts h).2.1
    exact (term_len (gives_ok h (show i < 24 by omega))).2
  · rw [gives_out hi]; simp [vt]
theorem gives_pos (ss : List (List Int)) (i : Nat) : 1 ≤ (givesL ss i).length := by
  unfold givesL
  split
  · simp [vt]
  · omega

set_option maxHeartbeats 2000000 in
theorem l2Gives (S : Option Addr) (m c : Nat) (ss : List (List Int)) (i : Nat) (w : World) (h : Segs w w.heap.size S m ss) (ht : tot ss ≤ 1048576) (hi : i ≤ 1048576) :
    Calls Try.prog 66 #[.agg #[.slice S m c], .int .i64 (i : Int)] w (AnsList w (givesL ss i)) := by
  have hm : m ≤ 1048576 := tot_len h.1 ht
  have HT := Lib.hid (tot_each ht)
  have HL := Lib.hid h.1
  clear ht
  have bel : Below w.heap.size w (w.alloc (.cells #[.slice S m c] 31)) := (Below.refl _ _).alloc (Nat.le_refl _) _
  have i0 : (0 : Int) ≤ (i : Int) := by omega
  have var : ∀ (hv : givesL ss i = vt i), AnsList w (givesL ss i) (.returned (.slice (some ⟨w.heap.size + 1, 0, none⟩) 1 1)) ((w.alloc (.cells #[.slice S m c] 31)).alloc (.cells #[.int .i64 (-1 - (i : Int))] 2)) := fun hv => by
    refine ⟨_, 1, 1, rfl, ?_, bel.alloc (by simp) _⟩
    rw [hv]
    have := Own.of_row (base := w.heap.size) (n := 1) (c := 1) (xs := vt i) (Row.new (w.alloc (.cells #[.slice S m c] 31)) 2 #[.int .i64 (-1 - (i : Int))]) rfl rfl (Nat.le_refl _) (by omega) (by simp) (fun j hj => by
      have e : j = 0 := by omega
      subst e
      rfl)
    simpa using this
  have VAR := Lib.hid var
  clear var
  by_cases hlt : i < m
  · obtain ⟨b, off, A', n', cc, rfl, hbB, hx, hseg, hcap⟩ := h.spot hlt
    have hx1 : (w.alloc (.cells #[.slice (some ⟨b, off, none⟩) m c] 31)).cell? ⟨b, off + i, none⟩ = some (.slice A' n' cc) := (bel.cell (p := ⟨b, off + i, none⟩) hbB).trans hx
    by_cases hz : n' = 0
    · subst hz
      have F := Lib.hid (VAR.out (gives_var hseg.1))
      clear h hseg hcap hx bel VAR
      go_enter Try.func66, Try.ntmps66
      go_wp2
      go_ret
      exact F.out
    · have hpos : 0 < n' := by omega
      have E := Lib.hid (gives_term (ss := ss) (i := i) (by rw [hseg.1]; exact hz))
      have L := Lib.hid (copyInts A' n' cc _ _ ((hseg.below bel).more bel.size) hcap.2.2 (by rw [← hseg.1]; exact HT.out i))
      clear h hseg hcap hx VAR
      go_enter Try.func66, Try.ntmps66
      go_wp2_with fail
      refine L.out.mono ?_
      rintro e w1 ⟨D, dn, dc, rfl, o1, b1⟩
      have F : AnsList w (givesL ss i) (.returned (.slice D dn dc)) w1 := ⟨D, dn, dc, rfl, by rw [E.out]; exact Own.lower o1 bel.size, next_trans bel b1⟩
      have HF := Lib.hid F
      clear F o1 b1 bel L
      go_wp2
      go_ret
      exact HF.out
  · have hge : ¬ (i : Int) < (m : Int) := by omega
    have F := Lib.hid (VAR.out (gives_out (by rw [HL.out]; exact hlt)))
    clear h bel VAR
    go_enter Try.func66, Try.ntmps66
    go_wp2
    go_ret
    exact F.out

/-! ### impl's look-up in a substitution -/
theorem lookupIn (S : Option Addr) (m c : Nat) (w : World) :
    Calls Try.prog 72 #[.agg #[.slice S m c]] w fun e w' => e = .returned (.func (.func 112) #[] #[.pointer (some ⟨w.heap.size, 0, none⟩)]) ∧ w' = w.alloc (.cells #[.slice S m c] 31) := by
  have hmf : ∀ (fn : Fn) (first cap : Array Value) (w : World), (Instr.makeFunc fn first cap).run Try.prog w = .ok (.func fn first cap) w := fun _ _ _ _ => rfl
  go_enter Try.func72, Try.ntmps72
  go_wp2
  go_ret
  exact ⟨rfl, rfl⟩

set_option maxHeartbeats 2000000 in
theorem lookSubstC (B : Nat) (S : Option Addr) (m c : Nat) (ss : List (List Int)) (w : World) (hB : B < w.heap.size) (hc : w.cell? ⟨B, 0, none⟩ = some (.slice S m c)) (h : Segs w w.heap.size S m ss) (hm : m ≤ 1048576) :
    Looks 112 #[.pointer (some ⟨B, 0, none⟩)] w (givesL ss) 24 := by
  intro W i hb hi
  have cB : W.cell? ⟨B, 0, none⟩ = some (.slice S m c) := (hb.cell (p := ⟨B, 0, none⟩) hB).trans hc
  have h1 := h.below hb
  have HL := Lib.hid h.1
  have i0 : (0 : Int) ≤ (i : Int) := by omega
  have LV := Lib.hid (varTerm (i : Int) W (by omega) (by omega))
  have hws := hb.size
  clear hB hc h hb
  show Calls Try.prog 112 #[.int .i64 (i : Int), .pointer (some ⟨B, 0, none⟩)] W _
  by_cases hlt : i < m
  · obtain ⟨b, off, A', n', cc, rfl, hbB, hx, hseg0, hcap⟩ := h1.spot hlt
    have hseg := hseg0.more hws
    by_cases hz : n' = 0
    · subst hz
      have E := Lib.hid (gives_var (ss := ss) (i := i) hseg.1)
      clear h1 hseg hseg0 hcap
      go_enter Try.func112, Try.ntmps112
      go_wp2_with fail
      refine LV.out.mono ?_
      rintro e w1 ⟨D, dn, dc, rfl, o1, b1⟩
      have F : AnsLook w.heap.size W (givesL ss i) (.returned (.slice D dn dc)) w1 := by rw [E.out]; exact look_new o1 b1
      have HF := Lib.hid F
      clear F o1 b1 LV
      go_wp2
      go_ret
      exact HF.out
    · have hpos : 0 < n' := by omega
      have F : AnsLook w.heap.size W (givesL ss i) (.returned (.slice A' n' cc)) W := ⟨A', n', cc, rfl, by rw [gives_term (by rw [hseg.1]; exact hz)]; exact hseg, hcap, fun k hk => .inl (by obtain ⟨b2, off2, e2, hb2, _⟩ := hseg0.2 hpos; rw [e2] at hk; have : b2 = k := Option.some.inj hk; omega), Below.refl _ _⟩
      have HF := Lib.hid F
      clear F h1 hseg hseg0 hcap LV
      go_enter Try.func112, Try.ntmps112
      go_wp2
      go_ret
      exact HF.out
  · have hge : ¬ (i : Int) < (m : Int) := by omega
    have E := Lib.hid (gives_out (ss := ss) (i := i) (by rw [HL.out]; exact hlt))
    clear h1
    go_enter Try.func112, Try.ntmps112
    go_wp2_with fail
    refine LV.out.mono ?_
    rintro e w1 ⟨D, dn, dc, rfl, o1, b1⟩
    have F : AnsLook w.heap.size W (givesL ss i) (.returned (.slice D dn dc)) w1 := by rw [E.out]; exact look_new o1 b1
    have HF := Lib.hid F
    clear F o1 b1 LV
    go_wp2
    go_ret
    exact HF.out

theorem lookSubst (B : Nat) (S : Option Addr) (m c : Nat) (ss : List (List Int)) (w : World) (hr : Row w B 31 #[.slice S m c]) (h : Segs w w.heap.size S m ss) (hm : m ≤ 1048576) :
    Looks 112 #[.pointer (some ⟨B, 0, none⟩)] w (givesL ss) 24 := lookSubstC B S m c ss w hr.lt (hr.cell 0) h hm

theorem tooLong (A : Option Addr) (n c : Nat) (w : World) (hn : n ≤ 9223372036854775807) :
    Calls Try.prog 74 #[.slice A n c] w fun e w' => w = w' ∧ e = .returned (.bool (decide (60 < n))) := by
  have E : decide ((60 : Int) < (n : Int)) = decide (60 < n) := decide_eq_decide.2 (by omega)
  rw [← E]
  have HE := Lib.hid E
  clear E
  generalize hz : decide ((60 : Int) < (n : Int)) = z
  have HZ := Lib.hid hz
  clear hz
  go_enter Try.func74, Try.ntmps74
  go_wp2
  go_ret
  exact ⟨rfl, by rw [← HZ.out]; rfl⟩
end Go.Proofs.Ytkmhnkljigncmaa.gives
end

section
/-
  A REGION THAT DRAWS ITS ORDER AND ENDS IN STORES TO CELLS THAT IT LOADS ('u.a, u.b = f(u.a), f(u.b)'): what is held of the world (S) is asked behind each operation but the late ones (the stores), and a load may be taken first where every late operation waits for it. Over any program. By an AI agent.
-/
namespace Go.Proofs.Ytkmhnkljigncmaa.heldT
section
variable {P : Program} {md : Region.Mode} {ops : Array Oper} {Q : Exit → Act → World → Prop} {S : World → Prop} {late : Nat → Bool}

/-- whatever order is picked from here on; each operation that is not late keeps S -/
def AnyT (P : Program) (md : Region.Mode) (ops : Array Oper) (Q : Exit → Act → World → Prop) (S : World → Prop) (late : Nat → Bool) : Nat → Array Bool → Act → World → Prop
  | 0, listed, a, w => Region.ready md ops listed = [] ∧ Q .normal a w
  | fuel + 1, listed, a, w => (Region.ready md ops listed = [] → Q .normal a w) ∧
    ∀ i ∈ Region.ready md ops listed, wpOp P ops Q i (fun a' w' => (late i = false → S w → S w') ∧ AnyT P md ops Q S late fuel (listed.setIfInBounds i true) a' w') a w
theorem AnyT.any : ∀ (fuel : Nat) (listed : Array Bool) (a : Act) (w : World), AnyT P md ops Q S late fuel listed a w → wpAny P md ops Q fuel listed a w
  | 0, _, _, _, h => h
  | fuel + 1, _, _, _, h => ⟨h.1, fun i hi => wpOp_mono (fun a' w' h' => AnyT.any fuel _ a' w' h'.2) (h.2 i hi)⟩

/-- every late operation that has not come up waits for number i -/
def Waits (md : Region.Mode) (ops : Array Oper) (late : Nat → Bool) (listed : Array Bool) (i : Nat) : Prop :=
  ∀ j o, ops[j]? = some o → late j = true → listed.getD j true = false → ∃ e ∈ o.after, Region.binds md e = true ∧ e.on = i
def waitsB (md : Region.Mode) (ops : Array Oper) (late : Nat → Bool) (listed : Array Bool) (i : Nat) : Bool :=
  (List.range ops.size).all fun j => !late j || listed.getD j true || ((ops[j]?).map fun o => o.after.any fun e => Region.binds md e && e.on == i).getD false
theorem waits_of {listed : Array Bool} {i : Nat} (h : waitsB md ops late listed i = true) : Waits md ops late listed i := by
  intro j o ho hl hu
  have hj : j < ops.size := by
    rcases Nat.lt_or_ge j ops.size with h' | h'
    · exact h'
    · rw [Array.getElem?_eq_none h'] at ho; cases ho
  have := List.all_eq_true.1 h j (List.mem_range.2 hj)
  rw [hl, hu, ho] at this
  simp only [Bool.not_true, Bool.false_or, Option.map_some, Option.getD_some, Array.any_eq_true', Bool.and_eq_true, beq_iff_eq] at this
  exact this
theorem AnyT.first {i : Nat} {oi : Oper} {v : Value} (hi : ops[i]? = some oi) (hsel : ∀ (j : Nat) (o : Oper) cs b, ops[j]? = some o → o.op ≠ .select cs b) (hQ : ∀ c a w, Q (.panic c) (a.put oi.dst v) w → Q (.panic c) a w) :
    ∀ (fuel : Nat) (listed : Array Bool) (a : Act) (w : World),
      (∀ j oj, ops[j]? = some oj → j ≠ i → listed.getD j true = false → (∀ e ∈ oj.after, Region.binds md e = true → e.on ≠ i) → oi.apart ops oj = true) → Waits md ops late listed i →
      i ∈ Region.ready md ops listed → YieldsIf P ops S oi v a → S w → AnyT P md ops Q S late fuel (listed.setIfInBounds i true) (a.put oi.dst v) w → AnyT P md ops Q S late (fuel + 1) listed a w := by
  intro fuel
  induction fuel with
  | zero =>
    intro listed a w _ _ hr hy hS H
    refine ⟨fun h => (by rw [h] at hr; cases hr), fun j hj => ?_⟩
    rcases Classical.em (j = i) with e | e
    · subst e; exact hy.wpOp hi hS ⟨fun _ h => h, H⟩
    · have := ready_mono hj e
      rw [H.1] at this
      cases this
  | succ fuel ih =>
    intro listed a w hfree hwait hr hy hS H
    refine ⟨fun h => (by rw [h] at hr; cases hr), fun j hj => ?_⟩
    rcases Classical.em (j = i) with e | hji
    · subst e; exact hy.wpOp hi hS ⟨fun _ h => h, H⟩
    have h1 := H.2 j (ready_mono hj hji)
    obtain ⟨hjun, oj, hoj, hall⟩ := mem_ready.1 hj
    have h0 := (mem_ready.1 hr).1
    have hnot : ∀ e ∈ oj.after, Region.binds md e = true → e.on ≠ i := fun e he hb heq => by
      have h1 := hall e he hb
      rw [heq] at h1
      rcases Nat.lt_or_ge i listed.size with h' | h'
      · simp [h'] at h0 h1; rw [h0] at h1; cases h1
      · simp [Array.getElem?_eq_none h'] at h1
    have hlj : late j = false := by
      cases e : late j with
      | false => rfl
      | true =>
        obtain ⟨x, hx, hb, ho⟩ := hwait j oj hoj e hjun
        exact absurd ho (hnot x hx hb)
    have far : ∀ {k : Nat}, j ≠ k → (listed.setIfInBounds j true).getD k true = false → listed.getD k true = false := fun hjk h => by rwa [getD_set_ne true hjk] at h
    have same : ∀ {k : Nat}, k = j → listed.getD k true = false := fun e => by rw [e]; exact hjun
    have un : ∀ (k : Nat), (listed.setIfInBounds j true).getD k true = false → listed.getD k true = false := fun k h => by
      rcases Classical.em (k = j) with e | e
      · exact same e
      · exact far (fun e' => e e'.symm) h
    have h2 := wpOp_putIf hoj (hfree j oj hoj hji hjun hnot) (fun cs b => hsel i oi cs b hi) (fun cs b => hsel j oj cs b hoj) hQ hy h1
    refine wpOp_mono (fun a' w' h3 => ⟨h3.2.1, ih (listed.setIfInBounds j true) a' w' (fun k ok hk hki hun hno => hfree k ok hk hki (un k hun) hno) (fun k o hk hl hu => hwait k o hk hl (un k hu)) (ready_mono hr (Ne.symm hji)) h3.1 (h3.2.1 hlj hS) ?_⟩) h2
    rw [Array.setIfInBounds_comm _ _ hji]
    exact h3.2.2
/-- take number i first: it yields v in every world that meets S, and every late one waits for it -/
theorem AnyT.take {i : Nat} {oi : Oper} {v : Value} {fuel : Nat} {listed : Array Bool} {a : Act} {w : World} (hi : ops[i]? = some oi) (hs : Region.noSelect ops = true) (hf : Region.free md ops listed i = true) (hw : waitsB md ops late listed i = true) (hr : (Region.ready md ops listed).contains i = true)
    (hQ : ∀ c a w, Q (.panic c) (a.put oi.dst v) w → Q (.panic c) a w) (hy : YieldsIf P ops S oi v a) (hS : S w) (h : AnyT P md ops Q S late fuel (listed.setIfInBounds i true) (a.put oi.dst v) w) : AnyT P md ops Q S late (fuel + 1) listed a w :=
  AnyT.first hi (Region.noSelect_spec hs) hQ fuel listed a w (Region.free_spec hi hf) (waits_of hw) (by simpa using hr) hy hS h
theorem AnyT.firstA {i : Nat} {oi : Oper} {v : Value} (hi : ops[i]? = some oi) (hsel : ∀ (j : Nat) (o : Oper) cs b, ops[j]? = some o → o.op ≠ .select cs b) (hQ : ∀ c a w, Q (.panic c) (a.put oi.dst v) w → Q (.panic c) a w) :
    ∀ (fuel : Nat) (listed : Array Bool) (a : Act) (w : World),
      (∀ j oj, ops[j]? = some oj → j ≠ i → listed.getD j true = false → (∀ e ∈ oj.after, Region.binds md e = true → e.on ≠ i) → oi.apart ops oj = true) →
      i ∈ Region.ready md ops listed → YieldsIf P ops (fun _ => True) oi v a → AnyT P md ops Q S late fuel (listed.setIfInBounds i true) (a.put oi.dst v) w → AnyT P md ops Q S late (fuel + 1) listed a w := by
  intro fuel
  induction fuel with
  | zero =>
    intro listed a w _ hr hy H
    refine ⟨fun h => (by rw [h] at hr; cases hr), fun j hj => ?_⟩
    rcases Classical.em (j = i) with e | e
    · subst e; exact hy.wpOp hi trivial ⟨fun _ h => h, H⟩
    · have := ready_mono hj e
      rw [H.1] at this
      cases this
  | succ fuel ih =>
    intro listed a w hfree hr hy H
    refine ⟨fun h => (by rw [h] at hr; cases hr), fun j hj => ?_⟩
    rcases Classical.em (j = i) with e | hji
    · subst e; exact hy.wpOp hi trivial ⟨fun _ h => h, H⟩
    have h1 := H.2 j (ready_mono hj hji)
    obtain ⟨hjun, oj, hoj, hall⟩ := mem_ready.1 hj
    have h0 := (mem_ready.1 hr).1
    have hnot : ∀ e ∈ oj.after, Region.binds md e = true → e.on ≠ i := fun e he hb heq => by
      have h1 := hall e he hb
      rw [heq] at h1
      rcases Nat.lt_or_ge i listed.size with h' | h'
      · simp [h'] at h0 h1; rw [h0] at h1; cases h1
      · simp [Array.getElem?_eq_none h'] at h1
    have un : ∀ (k : Nat), (listed.setIfInBounds j true).getD k true = false → listed.getD k true = false := fun k h => by
      rcases Classical.em (k = j) with e | e
      · rw [e]; exact hjun
      · rwa [getD_set_ne true (fun e' => e e'.symm)] at h
    have h2 := wpOp_putIf hoj (hfree j oj hoj hji hjun hnot) (fun cs b => hsel i oi cs b hi) (fun cs b => hsel j oj cs b hoj) hQ hy h1
    refine wpOp_mono (fun a' w' h3 => ⟨h3.2.1, ih (listed.setIfInBounds j true) a' w' (fun k ok hk hki hun hno => hfree k ok hk hki (un k hun) hno) (ready_mono hr (Ne.symm hji)) h3.1 ?_⟩) h2
    rw [Array.setIfInBounds_comm _ _ hji]
    exact h3.2.2
/-- take number i first: it yields v in whatever world -/
theorem AnyT.takeA {i : Nat} {oi : Oper} {v : Value} {fuel : Nat} {listed : Array Bool} {a : Act} {w : World} (hi : ops[i]? = some oi) (hs : Region.noSelect ops = true) (hf : Region.free md ops listed i = true) (hr : (Region.ready md ops listed).contains i = true)
    (hQ : ∀ c a w, Q (.panic c) (a.put oi.dst v) w → Q (.panic c) a w) (hy : YieldsIf P ops (fun _ => True) oi v a) (h : AnyT P md ops Q S late fuel (listed.setIfInBounds i true) (a.put oi.dst v) w) : AnyT P md ops Q S late (fuel + 1) listed a w :=
  AnyT.firstA hi (Region.noSelect_spec hs) hQ fuel listed a w (Region.free_spec hi hf) (by simpa using hr) hy h
/-- number i alone may come up: the way back is hidden behind K' -/
theorem AnyT.call {i : Nat} {o : Oper} {fuel : Nat} {listed : Array Bool} {a : Act} {w : World} (hr : Region.ready md ops listed = [i]) (ho : ops[i]? = some o)
    (h : ∀ K' : Act → World → Prop, Shut (∀ a w', (late i = false → S w → S w') → ((late i = false → S w → S w') → AnyT P md ops Q S late fuel (listed.setIfInBounds i true) a w') → K' a w') → if Region.wanted o (yielded ops a.tmps) = true then Oper.wp P o a w K' Q else K' (a.put o.dst undef) w) : AnyT P md ops Q S late (fuel + 1) listed a w :=
  ⟨fun h0 => absurd (hr ▸ h0) (by simp), fun j hj => by
    rw [hr, List.mem_singleton] at hj
    subst hj
    exact wpOp_step ho (fun K' hK => h K' (fun a w' hS hW => hK a w' ⟨hS, hW hS⟩))⟩
theorem AnyT.done {listed : Array Bool} {a : Act} {w : World} (hr : Region.ready md ops listed = []) (h : Q .normal a w) : ∀ fuel, AnyT P md ops Q S late fuel listed a w
  | 0 => ⟨hr, h⟩
  | _ + 1 => ⟨fun _ => h, by rw [hr]; simp⟩
theorem AnyT.start {id : Nat} {a : Act} {w : World} (late : Nat → Bool) (hm : P.follows .mixedOrders = true) (hS : S w.drew) (h : S w.drew → AnyT P .any ops Q S late ops.size (Array.replicate ops.size false) a w.drew) : (Code.region id ops true).wp P Q a w :=
  wp_region_any hm (AnyT.any _ _ _ _ (h hS))
end
end Go.Proofs.Ytkmhnkljigncmaa.heldT
end

section
/-
  CONTRACT: impl.unification.replace: one variable replaced in both terms and in the look-up; it panics where one becomes too long. Conditions: the slices read as lists ('Seg'), the terms have at most 60 numbers. By an AI agent.
-/
namespace Go.Proofs.Ytkmhnkljigncmaa.unifRep
open Go.RowKit Go.Proofs.Ytkmhnkljigncmaa.base Go.Proofs.Ytkmhnkljigncmaa.ints Go.Proofs.Ytkmhnkljigncmaa.sig Go.Proofs.Ytkmhnkljigncmaa.cursor Go.Proofs.Ytkmhnkljigncmaa.marks Go.Proofs.Ytkmhnkljigncmaa.app Go.Proofs.Ytkmhnkljigncmaa.sym Go.Proofs.Ytkmhnkljigncmaa.segs Go.Proofs.Ytkmhnkljigncmaa.fillMath Go.Proofs.Ytkmhnkljigncmaa.gives Go.Proofs.Ytkmhnkljigncmaa.unifMath Go.Proofs.Ytkmhnkljigncmaa.look Go.Proofs.Ytkmhnkljigncmaa.thn Go.Proofs.Ytkmhnkljigncmaa.heldT
set_option maxRecDepth 100000

/-- no cell holds a number -/
def NoInt (cs : Array Value) : Prop := ∀ (j : Nat) (z : Int), cs[j]? ≠ some (Value.int .i64 z)
theorem noInt4 {a b c d : Value} (h1 : ∀ z : Int, a ≠ .int .i64 z) (h2 : ∀ z : Int, b ≠ .int .i64 z) (h3 : ∀ z : Int, c ≠ .int .i64 z) (h4 : ∀ z : Int, d ≠ .int .i64 z) : NoInt #[a, b, c, d] := fun j z e => by
  rcases j with _ | _ | _ | _ | j
  · exact h1 z (by simpa using e)
  · exact h2 z (by simpa using e)
  · exact h3 z (by simpa using e)
  · exact h4 z (by simpa using e)
  · simp at e
theorem seg_ne {w : World} {B b off n : Nat} {xs : List Int} {g : Nat} {t : TypeId} {cs : Array Value} (h : Seg w B (some ⟨b, off, none⟩) n xs) (hn : 0 < n) (hr : Row w g t cs) (hno : NoInt cs) : b ≠ g := by
  rintro rfl
  obtain ⟨b', off', e, _, hc⟩ := h.2 hn
  injection e with e
  injection e with e1 e2
  subst e1 e2
  have := hc 0 hn
  rw [hr.cell] at this
  exact hno _ _ this
theorem segE {w w' : World} {n : Nat} {A : Option Addr} {xs : List Int} {g : Nat} {t : TypeId} {cs : Array Value} (h : Seg w w.heap.size A n xs) (hr : Row w g t cs) (hno : NoInt cs) (hg : w.grownBy w' (some g)) : Seg w' w'.heap.size A n xs := by
  refine ⟨h.1, fun hn => ?_⟩
  obtain ⟨b, off, rfl, hb, hc⟩ := h.2 hn
  have hne := seg_ne h hn hr hno
  exact ⟨b, off, rfl, Nat.lt_of_lt_of_le hb hg.size, fun j hj => hg.cell (hc j hj) (by show some b ≠ some g; exact fun e => hne (by injection e))⟩

/-- the unification in block g stands at x, y and the look-up L -/
structure Un (w : World) (g : Nat) (A : Option Addr) (n c : Nat) (sg : List Int) (P : Option Addr) (pn pc : Nat) (x : List Int) (Q : Option Addr) (qn qc : Nat) (y : List Int) (gl : Nat) (lb : Array Value) (L : Nat → List Int) : Prop where
  row : Row w g 68 #[.slice A n c, .slice P pn pc, .slice Q qn qc, .func (.func gl) #[] lb]
  s : Seg w w.heap.size A n sg
  p : Seg w w.heap.size P pn x
  q : Seg w w.heap.size Q qn y
  kp : Cap P pn pc
  kq : Cap Q qn qc
  eg : ∀ args w, (callFunc gl args).run Try.prog w = .ok (.enter gl args) w
  lk : LooksE (some g) gl lb w L 24
section
variable {w w' : World} {g : Nat} {A : Option Addr} {n c : Nat} {sg : List Int} {P : Option Addr} {pn pc : Nat} {x : List Int} {Q : Option Addr} {qn qc : Nat} {y : List Int} {gl : Nat} {lb : Array Value} {L : Nat → List Int}
theorem un_noInt : NoInt #[.slice A n c, .slice P pn pc, .slice Q qn qc, .func (.func gl) #[] lb] := noInt4 (fun _ e => by cases e) (fun _ e => by cases e) (fun _ e => by cases e) (fun _ e => by cases e)
theorem Un.next (h : Un w g A n c sg P pn pc x Q qn qc y gl lb L) (hb : Below w.heap.size w w') : Un w' g A n c sg P pn pc x Q qn qc y gl lb L :=
  ⟨h.row.next hb, h.s.next hb, h.p.next hb, h.q.next hb, h.kp, h.kq, h.eg, h.lk.next (grown_below hb _)⟩
theorem Un.c0 (h : Un w g A n c sg P pn pc x Q qn qc y gl lb L) : w.cell? ⟨g, 0, none⟩ = some (.slice A n c) := h.row.cell 0
theorem Un.c1 (h : Un w g A n c sg P pn pc x Q qn qc y gl lb L) : w.cell? ⟨g, 1, none⟩ = some (.slice P pn pc) := h.row.cell 1
theorem Un.c2 (h : Un w g A n c sg P pn pc x Q qn qc y gl lb L) : w.cell? ⟨g, 2, none⟩ = some (.slice Q qn qc) := h.row.cell 2
theorem Un.c3 (h : Un w g A n c sg P pn pc x Q qn qc y gl lb L) : w.cell? ⟨g, 3, none⟩ = some (.func (.func gl) #[] lb) := h.row.cell 3
end

/-- the look-up of one replacement -/
theorem lookOnce (o : Option Nat) (bi bt i : Nat) (T : Option Addr) (tn tc : Nat) (t : List Int) (w : World) (ni : o ≠ some bi) (nt : o ≠ some bt) (ci : w.cell? ⟨bi, 0, none⟩ = some (.int .i64 (i : Int))) (ct : w.cell? ⟨bt, 0, none⟩ = some (.slice T tn tc)) (hs : Seg w w.heap.size T tn t) (ht : 1 ≤ tn) (hc : Cap T tn tc) (hi : i < 24)
    (hk : ∀ W, w.grownBy W o → Seg W W.heap.size T tn t) :
    LooksE o 146 #[.pointer (some ⟨bi, 0, none⟩), .pointer (some ⟨bt, 0, none⟩)] w (ones i t) 24 := by
  intro W j hg hj
  have pi : W.cell? ⟨bi, 0, none⟩ = some (.int .i64 (i : Int)) := hg.cell ci (fun e => ni e.symm)
  have pt : W.cell? ⟨bt, 0, none⟩ = some (.slice T tn tc) := hg.cell ct (fun e => nt e.symm)
  show Calls Try.prog 146 #[.int .i64 (j : Int), .pointer (some ⟨bi, 0, none⟩), .pointer (some ⟨bt, 0, none⟩)] W _
  have HB : Hid (∀ k, blk T = some k → k < w.heap.size ∨ W.heap.size ≤ k) := Lib.hid fun k e => by
    obtain ⟨b, off, rfl, hb, _⟩ := hs.2 ht
    injection e with e
    exact .inl (by rw [← e]; exact hb)
  by_cases e : j = i
  · subst e
    have F : AnsLook w.heap.size W (ones j t j) (.returned (.slice T tn tc)) W := ⟨T, tn, tc, rfl, by unfold ones; rw [if_pos rfl]; exact hk W hg, hc, HB.out, Below.refl _ _⟩
    have HF := Lib.hid F
    clear F hg hk hs ci ct
    go_enter Try.func146, Try.ntmps146
    go_wp2
    go_ret
    exact HF.out
  · have hne : ((j : Int) == (i : Int)) = false := by simp; exact fun h => e (by omega)
    have HE := Lib.hid (show ones i t j = vt j by unfold ones; rw [if_neg e])
    clear hg hk hs ci ct
    go_enter Try.func146, Try.ntmps146
    go_wp2_with fail
    refine (varTerm (j : Int) W (by omega) (by omega)).mono ?_
    rintro e w' ⟨A, n, c, rfl, ho, hb⟩
    have F : AnsLook w.heap.size W (ones i t j) (.returned (.slice A n c)) w' := by rw [HE.out]; exact look_new ho hb
    have HF := Lib.hid F
    clear F ho hb
    go_wp2
    go_ret
    exact HF.out

/-- what replace leaves: the new state, or a panic where a term is too long -/
def AnsRep (w : World) (g : Nat) (A : Option Addr) (n c : Nat) (sg x y : List Int) (L : Nat → List Int) (e : Ending) (w' : World) : Prop :=
  w.grownBy w' (some g) ∧ ((x.length ≤ 60 ∧ y.length ≤ 60 ∧ e = .returned (.tuple #[]) ∧ ∃ P pn pc Q qn qc gl lb, Un w' g A n c sg P pn pc x Q qn qc y gl lb L) ∨
    (¬ (x.length ≤ 60 ∧ y.length ≤ 60) ∧ ∃ u v, e = .panicked [{ v := .iface u v, recovered := false }]))
/-- behind the assignment -/
def Put (w : World) (g : Nat) (A : Option Addr) (n c : Nat) (sg x y : List Int) (L : Nat → List Int) (w' : World) : Prop :=
  w.grownBy w' (some g) ∧ ∃ P pn pc Q qn qc gl lb, Un w' g A n c sg P pn pc x Q qn qc y gl lb L
theorem put_mk {w w2 w3 w4 w5 : World} {g : Nat} {A : Option Addr} {n c : Nat} {sg : List Int} {P : Option Addr} {pn pc : Nat} {x : List Int} {Q : Option Addr} {qn qc : Nat} {y : List Int} {gl : Nat} {lb : Array Value} {L : Nat → List Int} (h : Un w g A n c sg P pn pc x Q qn qc y gl lb L)
    {X : Option Addr} {xn xc : Nat} {x' : List Int} {Y : Option Addr} {yn yc : Nat} {y' : List Int} {g' : Nat} {lb' : Array Value} {L' : Nat → List Int} (b2 : Below w.heap.size w w2) (b3 : Below w2.heap.size w2 w3) (b4 : Below w3.heap.size w3 w4) (b5 : Below w4.heap.size w4 w5)
    (ox : Own w3 w2.heap.size (.slice X xn xc) x') (oy : Own w4 w3.heap.size (.slice Y yn yc) y') (eg : ∀ args w, (callFunc g' args).run Try.prog w = .ok (.enter g' args) w) (lk : LooksE (some g) g' lb' w5 L' 24) :
    Put w g A n c sg x' y' L' (((w5.setCell ⟨g, 1, none⟩ (.slice X xn xc)).setCell ⟨g, 2, none⟩ (.slice Y yn yc)).setCell ⟨g, 3, none⟩ (.func (.func g') #[] lb')) := by
  have b := next_trans b2 (next_trans b3 (next_trans b4 b5))
  have h5 := h.next b
  have hg : w5.grownBy (((w5.setCell ⟨g, 1, none⟩ (.slice X xn xc)).setCell ⟨g, 2, none⟩ (.slice Y yn yc)).setCell ⟨g, 3, none⟩ (.func (.func g') #[] lb')) (some g) := grown_put (grown_put (grown_put (World.grownBy.refl _ _) _ _) _ _) _ _
  refine ⟨grown_trans (grown_below b _) hg, X, xn, xc, Y, yn, yc, g', lb', ?_, segE h5.s h5.row un_noInt hg, segE ((Own.seg ox).next (next_trans b4 b5)) h5.row un_noInt hg, segE ((Own.seg oy).next b5) h5.row un_noInt hg, own_cap ox, own_cap oy, eg, lk.next hg⟩
  have r := ((h5.row.put 1 (.slice X xn xc)).put 2 (.slice Y yn yc)).put 3 (.func (.func g') #[] lb')
  simpa using r

set_option maxHeartbeats 4000000 in
theorem replace (g : Nat) (A P Q T : Option Addr) (n c pn pc qn qc tn tc gl : Nat) (lb : Array Value) (sg x y t : List Int) (L : Nat → List Int) (i : Nat) (w : World) (h : Un w g A n c sg P pn pc x Q qn qc y gl lb L) (hs : Seg w w.heap.size T tn t) (hc : Cap T tn tc) (ht : 1 ≤ tn) (ht60 : tn ≤ 60) (hi : i < 24) (hx : pn ≤ 60) (hy : qn ≤ 60)
    (vx : ∀ z ∈ x, -24 ≤ z) (vy : ∀ z ∈ y, -24 ≤ z) (hL : ∀ j, j < 24 → (L j).length ≤ 60) (vL : ∀ j, j < 24 → ∀ z ∈ L j, -24 ≤ z) :
    Calls Try.prog 136 #[.pointer (some ⟨g, 0, none⟩), .int .i64 (i : Int), .slice T tn tc] w (AnsRep w g A n c sg (fillL (ones i t) x) (fillL (ones i t) y) (fun m => fillL (ones i t) (L m))) := by
  have hgz := h.row.lt
  obtain ⟨W, hW⟩ : ∃ W, W = (w.alloc (.cells #[.int .i64 (i : Int)] 2)).alloc (.cells #[.slice T tn tc] 24) := ⟨_, rfl⟩
  have bW : Below w.heap.size w W := by rw [hW]; exact ((Below.refl _ _).alloc (Nat.le_refl _) _).alloc (by simp) _
  have ri : Row W w.heap.size 2 #[.int .i64 (i : Int)] := by rw [hW]; exact (Row.new w _ _).alloc _
  have rt : Row W (w.heap.size + 1) 24 #[.slice T tn tc] := by
    rw [hW]
    have := Row.new (w.alloc (.cells #[.int .i64 (i : Int)] 2)) 24 #[.slice T tn tc]
    simpa using this
  have U := h.next bW
  have hsW := hs.next bW
  have lt : t.length ≤ 60 := by rw [hs.1]; exact ht60
  have one60 : ∀ j, (ones i t j).length ≤ 60 := fun j => by unfold ones; split; exact lt; simp [vt]
  have LO : LooksE (some g) 146 #[.pointer (some ⟨w.heap.size, 0, none⟩), .pointer (some ⟨w.heap.size + 1, 0, none⟩)] W (ones i t) 24 :=
    lookOnce (some g) _ _ i T tn tc t W (by simp; omega) (by simp; omega) (ri.cell 0) (rt.cell 0) hsW ht hc hi (fun W' hg => segE hsW U.row un_noInt hg)
  have eo := enters_of Try.func146 (by kernel_rfl) rfl
  have et := enters_of Try.func113 (by kernel_rfl) rfl
  have M1 := Lib.hid (fun j => Nat.le_trans (one60 j) (show 60 ≤ 4096 by omega))
  have LF1 := Lib.hid (fun (w2 : World) (b : Below W.heap.size W w2) => fill _ _ eo P pn pc x (ones i t) w2 (LO.next (grown_below b _)).looks (U.next b).p hx vx M1.out)
  have LF2 := Lib.hid (fun (w3 : World) (b : Below W.heap.size W w3) => fill _ _ eo Q qn qc y (ones i t) w3 (LO.next (grown_below b _)).looks (U.next b).q hy vy M1.out)
  have c1 := U.c1
  have c2 := U.c2
  have c3 := U.c3
  have HW := Lib.hid hW
  have HU := Lib.hid U
  have HLO := Lib.hid LO
  have HBW := Lib.hid bW
  have hmf : ∀ (fn : Fn) (first cap : Array Value) (w : World), (Instr.makeFunc fn first cap).run Try.prog w = .ok (.func fn first cap) w := fun _ _ _ _ => rfl
  clear hW bW ri rt U hsW LO h hs
  go_enter Try.func136, Try.ntmps136
  go_wp2_with fail
  rw [← HW.out]
  go_cut [] (fun wx => Put W g A n c sg (fillL (ones i t) x) (fillL (ones i t) y) (fun m => fillL (ones i t) (L m)) wx)
  case first =>
    have BD : Hid (Below W.heap.size W W.drew) := Lib.hid (Below.refl _ _).drew
    have HV := Lib.hid vL
    have HL60 := Lib.hid hL
    clear vx vy one60 HW hL vL
    -- region
    refine AnyT.start (S := (fun w' => w'.cell? ⟨g, 1, none⟩ = some (.slice P pn pc) ∧ w'.cell? ⟨g, 2, none⟩ = some (.slice Q qn qc) ∧ w'.cell? ⟨g, 3, none⟩ = some (.func (.func gl) #[] lb))) (fun i => decide (21 ≤ i)) (by kernel_rfl) ⟨c1, c2, c3⟩ (fun hHeld => ?_)
    refine AnyT.takeA (i := 0) (v := ?_) rfl (by kernel_rfl) (by kernel_rfl) (by kernel_rfl) (fun _ _ _ h => h) (Or.inl ⟨by rfl, ?_⟩) ?_
    rotate_left 1
    · (intro w0 _; go_simp; try with_reducible rfl)
    try simp only [Act.put, List.setIfInBounds_toArray, List.set_cons_zero, List.set_cons_succ, List.getElem_toArray, List.getElem_cons_zero, List.getElem_cons_succ]
    refine AnyT.takeA (i := 1) (v := ?_) rfl (by kernel_rfl) (by kernel_rfl) (by kernel_rfl) (fun _ _ _ h => h) (Or.inl ⟨by rfl, ?_⟩) ?_
    rotate_left 1
    · (intro w0 _; go_simp; try with_reducible rfl)
    try simp only [Act.put, List.setIfInBounds_toArray, List.set_cons_zero, List.set_cons_succ, List.getElem_toArray, List.getElem_cons_zero, List.getElem_cons_succ]
    refine AnyT.takeA (i := 2) (v := ?_) rfl (by kernel_rfl) (by kernel_rfl) (by kernel_rfl) (fun _ _ _ h => h) (Or.inl ⟨by rfl, ?_⟩) ?_
    rotate_left 1
    · (intro w0 _; go_simp; try with_reducible rfl)
    try simp only [Act.put, List.setIfInBounds_toArray, List.set_cons_zero, List.set_cons_succ, List.getElem_toArray, List.getElem_cons_zero, List.getElem_cons_succ]
    refine AnyT.takeA (i := 3) (v := ?_) rfl (by kernel_rfl) (by kernel_rfl) (by kernel_rfl) (fun _ _ _ h => h) (Or.inl ⟨by rfl, ?_⟩) ?_
    rotate_left 1
    · (intro w0 _; go_simp; try with_reducible rfl)
    try simp only [Act.put, List.setIfInBounds_toArray, List.set_cons_zero, List.set_cons_succ, List.getElem_toArray, List.getElem_cons_zero, List.getElem_cons_succ]
    refine AnyT.takeA (i := 4) (v := ?_) rfl (by kernel_rfl) (by kernel_rfl) (by kernel_rfl) (fun _ _ _ h => h) (Or.inl ⟨by rfl, ?_⟩) ?_
    rotate_left 1
    · (intro w0 _; go_simp; try with_reducible rfl)
    try simp only [Act.put, List.setIfInBounds_toArray, List.set_cons_zero, List.set_cons_succ, List.getElem_toArray, List.getElem_cons_zero, List.getElem_cons_succ]
    refine AnyT.takeA (i := 5) (v := ?_) rfl (by kernel_rfl) (by kernel_rfl) (by kernel_rfl) (fun _ _ _ h => h) (Or.inl ⟨by rfl, ?_⟩) ?_
    rotate_left 1
    · (intro w0 _; go_simp; try with_reducible rfl)
    try simp only [Act.put, List.setIfInBounds_toArray, List.set_cons_zero, List.set_cons_succ, List.getElem_toArray, List.getElem_cons_zero, List.getElem_cons_succ]
    refine AnyT.takeA (i := 6) (v := ?_) rfl (by kernel_rfl) (by kernel_rfl) (by kernel_rfl) (fun _ _ _ h => h) (Or.inl ⟨by rfl, ?_⟩) ?_
    rotate_left 1
    · (intro w0 _; go_simp; try with_reducible rfl)
    try simp only [Act.put, List.setIfInBounds_toArray, List.set_cons_zero, List.set_cons_succ, List.getElem_toArray, List.getElem_cons_zero, List.getElem_cons_succ]
    refine AnyT.take (i := 7) (v := ?_) rfl (by kernel_rfl) (by kernel_rfl) (by kernel_rfl) (by kernel_rfl) (fun _ _ _ h => h) (Or.inl ⟨by rfl, ?_⟩) (by assumption) ?_
    rotate_left 1
    · (intro w0 hSw; (try dsimp only at hSw); go_simp; try with_reducible rfl)
    try simp only [Act.put, List.setIfInBounds_toArray, List.set_cons_zero, List.set_cons_succ, List.getElem_toArray, List.getElem_cons_zero, List.getElem_cons_succ]
    refine AnyT.takeA (i := 9) (v := ?_) rfl (by kernel_rfl) (by kernel_rfl) (by kernel_rfl) (fun _ _ _ h => h) (Or.inl ⟨by rfl, ?_⟩) ?_
    rotate_left 1
    · (intro w0 _; go_simp; try with_reducible rfl)
    try simp only [Act.put, List.setIfInBounds_toArray, List.set_cons_zero, List.set_cons_succ, List.getElem_toArray, List.getElem_cons_zero, List.getElem_cons_succ]
    refine AnyT.takeA (i := 10) (v := ?_) rfl (by kernel_rfl) (by kernel_rfl) (by kernel_rfl) (fun _ _ _ h => h) (Or.inl ⟨by rfl, ?_⟩) ?_
    rotate_left 1
    · (intro w0 _; go_simp; try with_reducible rfl)
    try simp only [Act.put, List.setIfInBounds_toArray, List.set_cons_zero, List.set_cons_succ, List.getElem_toArray, List.getElem_cons_zero, List.getElem_cons_succ]
    refine AnyT.takeA (i := 11) (v := ?_) rfl (by kernel_rfl) (by kernel_rfl) (by kernel_rfl) (fun _ _ _ h => h) (Or.inl ⟨by rfl, ?_⟩) ?_
    rotate_left 1
    · (intro w0 _; go_simp; try with_reducible rfl)
    try simp only [Act.put, List.setIfInBounds_toArray, List.set_cons_zero, List.set_cons_succ, List.getElem_toArray, List.getElem_cons_zero, List.getElem_cons_succ]
    refine AnyT.takeA (i := 12) (v := ?_) rfl (by kernel_rfl) (by kernel_rfl) (by kernel_rfl) (fun _ _ _ h => h) (Or.inl ⟨by rfl, ?_⟩) ?_
    rotate_left 1
    · (intro w0 _; go_simp; try with_reducible rfl)
    try simp only [Act.put, List.setIfInBounds_toArray, List.set_cons_zero, List.set_cons_succ, List.getElem_toArray, List.getElem_cons_zero, List.getElem_cons_succ]
    refine AnyT.take (i := 13) (v := ?_) rfl (by kernel_rfl) (by kernel_rfl) (by kernel_rfl) (by kernel_rfl) (fun _ _ _ h => h) (Or.inl ⟨by rfl, ?_⟩) (by assumption) ?_
    rotate_left 1
    · (intro w0 hSw; (try dsimp only at hSw); go_simp; try with_reducible rfl)
    try simp only [Act.put, List.setIfInBounds_toArray, List.set_cons_zero, List.set_cons_succ, List.getElem_toArray, List.getElem_cons_zero, List.getElem_cons_succ]
    refine AnyT.takeA (i := 15) (v := ?_) rfl (by kernel_rfl) (by kernel_rfl) (by kernel_rfl) (fun _ _ _ h => h) (Or.inl ⟨by rfl, ?_⟩) ?_
    rotate_left 1
    · (intro w0 _; go_simp; try with_reducible rfl)
    try simp only [Act.put, List.setIfInBounds_toArray, List.set_cons_zero, List.set_cons_succ, List.getElem_toArray, List.getElem_cons_zero, List.getElem_cons_succ]
    refine AnyT.takeA (i := 16) (v := ?_) rfl (by kernel_rfl) (by kernel_rfl) (by kernel_rfl) (fun _ _ _ h => h) (Or.inl ⟨by rfl, ?_⟩) ?_
    rotate_left 1
    · (intro w0 _; go_simp; try with_reducible rfl)
    try simp only [Act.put, List.setIfInBounds_toArray, List.set_cons_zero, List.set_cons_succ, List.getElem_toArray, List.getElem_cons_zero, List.getElem_cons_succ]
    refine AnyT.takeA (i := 17) (v := ?_) rfl (by kernel_rfl) (by kernel_rfl) (by kernel_rfl) (fun _ _ _ h => h) (Or.inl ⟨by rfl, ?_⟩) ?_
    rotate_left 1
    · (intro w0 _; go_simp; try with_reducible rfl)
    try simp only [Act.put, List.setIfInBounds_toArray, List.set_cons_zero, List.set_cons_succ, List.getElem_toArray, List.getElem_cons_zero, List.getElem_cons_succ]
    refine AnyT.take (i := 18) (v := ?_) rfl (by kernel_rfl) (by kernel_rfl) (by kernel_rfl) (by kernel_rfl) (fun _ _ _ h => h) (Or.inl ⟨by rfl, ?_⟩) (by assumption) ?_
    rotate_left 1
    · (intro w0 hSw; (try dsimp only at hSw); go_simp; try with_reducible rfl)
    try simp only [Act.put, List.setIfInBounds_toArray, List.set_cons_zero, List.set_cons_succ, List.getElem_toArray, List.getElem_cons_zero, List.getElem_cons_succ]
    refine AnyT.takeA (i := 19) (v := ?_) rfl (by kernel_rfl) (by kernel_rfl) (by kernel_rfl) (fun _ _ _ h => h) (Or.inl ⟨by rfl, ?_⟩) ?_
    rotate_left 1
    · (intro w0 _; go_simp; try with_reducible rfl)
    try simp only [Act.put, List.setIfInBounds_toArray, List.set_cons_zero, List.set_cons_succ, List.getElem_toArray, List.getElem_cons_zero, List.getElem_cons_succ]
    refine AnyT.call (i := 8) (by kernel_rfl) rfl (fun K hK => ?_)
    try simp only [Act.put, List.setIfInBounds_toArray, List.set_cons_zero, List.set_cons_succ, List.getElem_toArray, List.getElem_cons_zero, List.getElem_cons_succ]
    rw [if_pos (by rfl)]
    go_simp
    refine (LF1.out W.drew BD.out).mono ?_; rintro e w3 ⟨X, xn, xc, rfl, ox, b3⟩; have U3 := HU.out.next (next_trans BD.out b3); have d1 := U3.c1; have d2 := U3.c2; have d3 := U3.c3; clear U3; go_wp2_with fail
    refine hK.out _ _ (fun _ _ => ?_) (fun hKeep => ?_)
    · first | assumption | exact ⟨by assumption, by assumption⟩ | exact ⟨by assumption, by assumption, by assumption⟩
    replace hHeld := hKeep (by rfl) hHeld
    clear hK K hKeep
    try simp only [Act.put, List.setIfInBounds_toArray, List.set_cons_zero, List.set_cons_succ, List.getElem_toArray, List.getElem_cons_zero, List.getElem_cons_succ]
    refine AnyT.call (i := 14) (by kernel_rfl) rfl (fun K hK => ?_)
    try simp only [Act.put, List.setIfInBounds_toArray, List.set_cons_zero, List.set_cons_succ, List.getElem_toArray, List.getElem_cons_zero, List.getElem_cons_succ]
    rw [if_pos (by rfl)]
    go_simp
    refine (LF2.out w3 (next_trans BD.out b3)).mono ?_; rintro e w4 ⟨Y, yn, yc, rfl, oy, b4⟩; have U4 := HU.out.next (next_trans (next_trans BD.out b3) b4); have e1 := U4.c1; have e2 := U4.c2; have e3 := U4.c3; clear U4; go_wp2_with fail
    refine hK.out _ _ (fun _ _ => ?_) (fun hKeep => ?_)
    · first | assumption | exact ⟨by assumption, by assumption⟩ | exact ⟨by assumption, by assumption, by assumption⟩
    replace hHeld := hKeep (by rfl) hHeld
    clear hK K hKeep
    try simp only [Act.put, List.setIfInBounds_toArray, List.set_cons_zero, List.set_cons_succ, List.getElem_toArray, List.getElem_cons_zero, List.getElem_cons_succ]
    refine AnyT.call (i := 20) (by kernel_rfl) rfl (fun K hK => ?_)
    try simp only [Act.put, List.setIfInBounds_toArray, List.set_cons_zero, List.set_cons_succ, List.getElem_toArray, List.getElem_cons_zero, List.getElem_cons_succ]
    rw [if_pos (by rfl)]
    go_simp
    refine (thenB gl _ lb _ w4).mono ?_; rintro e w5 ⟨b1, b2, rfl, z1, z2, k1, k2, b5⟩; have U5 := HU.out.next (next_trans (next_trans (next_trans BD.out b3) b4) b5); have f1 := U5.c1; have f2 := U5.c2; have f3 := U5.c3; have fr1 := U5.row.free 1; have fr2 := U5.row.free 2; have fr3 := U5.row.free 3; clear U5; go_wp2_with fail
    refine hK.out _ _ (fun _ _ => ?_) (fun hKeep => ?_)
    · first | assumption | exact ⟨by assumption, by assumption⟩ | exact ⟨by assumption, by assumption, by assumption⟩
    replace hHeld := hKeep (by rfl) hHeld
    clear hK K hKeep
    try simp only [Act.put, List.setIfInBounds_toArray, List.set_cons_zero, List.set_cons_succ, List.getElem_toArray, List.getElem_cons_zero, List.getElem_cons_succ]
    refine AnyT.call (i := 21) (by kernel_rfl) rfl (fun K hK => ?_)
    try simp only [Act.put, List.setIfInBounds_toArray, List.set_cons_zero, List.set_cons_succ, List.getElem_toArray, List.getElem_cons_zero, List.getElem_cons_succ]
    rw [if_pos (by rfl)]
    go_simp
    refine hK.out _ _ (fun h => by cases h) (fun _ => ?_)
    clear hK K
    try simp only [Act.put, List.setIfInBounds_toArray, List.set_cons_zero, List.set_cons_succ, List.getElem_toArray, List.getElem_cons_zero, List.getElem_cons_succ]
    refine AnyT.call (i := 22) (by kernel_rfl) rfl (fun K hK => ?_)
    try simp only [Act.put, List.setIfInBounds_toArray, List.set_cons_zero, List.set_cons_succ, List.getElem_toArray, List.getElem_cons_zero, List.getElem_cons_succ]
    rw [if_pos (by rfl)]
    go_simp
    refine hK.out _ _ (fun h => by cases h) (fun _ => ?_)
    clear hK K
    try simp only [Act.put, List.setIfInBounds_toArray, List.set_cons_zero, List.set_cons_succ, List.getElem_toArray, List.getElem_cons_zero, List.getElem_cons_succ]
    refine AnyT.call (i := 23) (by kernel_rfl) rfl (fun K hK => ?_)
    try simp only [Act.put, List.setIfInBounds_toArray, List.set_cons_zero, List.set_cons_succ, List.getElem_toArray, List.getElem_cons_zero, List.getElem_cons_succ]
    rw [if_pos (by rfl)]
    go_simp
    refine hK.out _ _ (fun h => by cases h) (fun _ => ?_)
    clear hK K
    try simp only [Act.put, List.setIfInBounds_toArray, List.set_cons_zero, List.set_cons_succ, List.getElem_toArray, List.getElem_cons_zero, List.getElem_cons_succ]
    refine AnyT.call (i := 24) (by kernel_rfl) rfl (fun K hK => ?_)
    try simp only [Act.put, List.setIfInBounds_toArray, List.set_cons_zero, List.set_cons_succ, List.getElem_toArray, List.getElem_cons_zero, List.getElem_cons_succ]
    rw [if_pos (by rfl)]
    go_simp
    refine hK.out _ _ (fun h => by cases h) (fun _ => ?_)
    clear hK K
    try simp only [Act.put, List.setIfInBounds_toArray, List.set_cons_zero, List.set_cons_succ, List.getElem_toArray, List.getElem_cons_zero, List.getElem_cons_succ]
    refine AnyT.call (i := 25) (by kernel_rfl) rfl (fun K hK => ?_)
    try simp only [Act.put, List.setIfInBounds_toArray, List.set_cons_zero, List.set_cons_succ, List.getElem_toArray, List.getElem_cons_zero, List.getElem_cons_succ]
    rw [if_pos (by rfl)]
    go_simp
    refine hK.out _ _ (fun h => by cases h) (fun _ => ?_)
    clear hK K
    try simp only [Act.put, List.setIfInBounds_toArray, List.set_cons_zero, List.set_cons_succ, List.getElem_toArray, List.getElem_cons_zero, List.getElem_cons_succ]
    refine AnyT.call (i := 26) (by kernel_rfl) rfl (fun K hK => ?_)
    try simp only [Act.put, List.setIfInBounds_toArray, List.set_cons_zero, List.set_cons_succ, List.getElem_toArray, List.getElem_cons_zero, List.getElem_cons_succ]
    rw [if_pos (by rfl)]
    go_simp
    refine hK.out _ _ (fun h => by cases h) (fun _ => ?_)
    clear hK K
    try simp only [Act.put, List.setIfInBounds_toArray, List.set_cons_zero, List.set_cons_succ, List.getElem_toArray, List.getElem_cons_zero, List.getElem_cons_succ]
    refine AnyT.call (i := 27) (by kernel_rfl) rfl (fun K hK => ?_)
    try simp only [Act.put, List.setIfInBounds_toArray, List.set_cons_zero, List.set_cons_succ, List.getElem_toArray, List.getElem_cons_zero, List.getElem_cons_succ]
    rw [if_pos (by rfl)]
    go_simp
    refine hK.out _ _ (fun h => by cases h) (fun _ => ?_)
    clear hK K
    try simp only [Act.put, List.setIfInBounds_toArray, List.set_cons_zero, List.set_cons_succ, List.getElem_toArray, List.getElem_cons_zero, List.getElem_cons_succ]
    refine AnyT.call (i := 28) (by kernel_rfl) rfl (fun K hK => ?_)
    try simp only [Act.put, List.setIfInBounds_toArray, List.set_cons_zero, List.set_cons_succ, List.getElem_toArray, List.getElem_cons_zero, List.getElem_cons_succ]
    rw [if_pos (by rfl)]
    go_simp
    refine hK.out _ _ (fun h => by cases h) (fun _ => ?_)
    clear hK K
    try simp only [Act.put, List.setIfInBounds_toArray, List.set_cons_zero, List.set_cons_succ, List.getElem_toArray, List.getElem_cons_zero, List.getElem_cons_succ]
    refine AnyT.call (i := 29) (by kernel_rfl) rfl (fun K hK => ?_)
    try simp only [Act.put, List.setIfInBounds_toArray, List.set_cons_zero, List.set_cons_succ, List.getElem_toArray, List.getElem_cons_zero, List.getElem_cons_succ]
    rw [if_pos (by rfl)]
    go_simp
    refine hK.out _ _ (fun h => by cases h) (fun _ => ?_)
    clear hK K
    try simp only [Act.put, List.setIfInBounds_toArray, List.set_cons_zero, List.set_cons_succ, List.getElem_toArray, List.getElem_cons_zero, List.getElem_cons_succ]
    refine AnyT.done (by kernel_rfl) ?_ _
    -- end
    have B5 := next_trans (next_trans (next_trans BD.out b3) b4) b5
    have s1 := HBW.out.size
    have s2 := BD.out.size
    have s3 := b3.size
    have s4 := b4.size
    have lk := lookThen (some g) b1 b2 gl _ lb _ HU.out.eg eo L (ones i t) w5 (World.block_lt_of_cell? _ _ k1) (World.block_lt_of_cell? _ _ k2) (fun e => by injection e; omega) (fun e => by injection e; omega) k1 k2 (HU.out.next B5).lk (HLO.out.next (grown_below B5 _)) HL60.out HV.out M1.out
    have F := Lib.hid (put_mk HU.out BD.out b3 b4 b5 ox oy et lk)
    clear lk ox oy b3 b4 b5 B5 k1 k2 f1 f2 f3 fr1 fr2 fr3 hHeld
    go_wp2_with fail
    go_meet
    exact F.out
  case rest =>
    rename World => wc
    obtain ⟨hg, P', pn', pc', Q', qn', qc', gl', lb', U⟩ := hcut
    have HG := Lib.hid (grown_trans (grown_below HBW.out (some g)) hg)
    have hp1 := U.p.1
    have hq1 := U.q.1
    have d1 := U.c1
    have d2 := U.c2
    have np := U.kp.1
    have np2 := U.kp.2.1
    have nq := U.kq.1
    have nq2 := U.kq.2.1
    have L1 := Lib.hid (tooLong P' pn' pc' wc (by omega))
    have L2 := Lib.hid (tooLong Q' qn' qc' wc (by omega))
    have HUW := Lib.hid U
    have HP1 := Lib.hid hp1
    have HQ1 := Lib.hid hq1
    clear U hg hp1 hq1 LF1 LF2 c1 c2 c3 HU HLO HBW vx vy one60 hL vL M1
    by_cases hp : 60 < pn'
    · rw [decide_eq_true hp] at L1
      have F := Lib.hid (fun (u : TypeId) (v : Value) => (show AnsRep w g A n c sg (fillL (ones i t) x) (fillL (ones i t) y) (fun m => fillL (ones i t) (L m)) (.panicked [{ v := .iface u v, recovered := false }]) wc from ⟨HG.out, .inr ⟨fun h => by rw [HP1.out] at h; omega, u, v, rfl⟩⟩))
      clear HUW
      go_wp2_with fail
      refine L1.out.mono ?_
      rintro e w' ⟨rfl, rfl⟩
      go_wp2
      exact ⟨rfl, F.out _ _⟩
    · rw [decide_eq_false hp] at L1
      go_wp2_with fail
      refine L1.out.mono ?_
      rintro e w' ⟨rfl, rfl⟩
      by_cases hq : 60 < qn'
      · rw [decide_eq_true hq] at L2
        have F := Lib.hid (fun (u : TypeId) (v : Value) => (show AnsRep w g A n c sg (fillL (ones i t) x) (fillL (ones i t) y) (fun m => fillL (ones i t) (L m)) (.panicked [{ v := .iface u v, recovered := false }]) wc from ⟨HG.out, .inr ⟨fun h => by rw [HQ1.out] at h; omega, u, v, rfl⟩⟩))
        clear HUW
        go_wp2_with fail
        refine L2.out.mono ?_
        rintro e w' ⟨rfl, rfl⟩
        go_wp2
        exact ⟨rfl, F.out _ _⟩
      · rw [decide_eq_false hq] at L2
        have F := Lib.hid (show AnsRep w g A n c sg (fillL (ones i t) x) (fillL (ones i t) y) (fun m => fillL (ones i t) (L m)) (.returned (.tuple #[])) wc from ⟨HG.out, .inl ⟨by rw [HP1.out]; omega, by rw [HQ1.out]; omega, rfl, P', pn', pc', Q', qn', qc', gl', lb', HUW.out⟩⟩)
        clear HUW
        go_wp2_with fail
        refine L2.out.mono ?_
        rintro e w' ⟨rfl, rfl⟩
        go_wp2
        first
          | exact bodyPost_ret (results_none rfl _ _ _) rfl F.out
          | (go_end0; exact F.out)

end Go.Proofs.Ytkmhnkljigncmaa.unifRep
end

section
/-
  CONTRACTS: spec.l1Has, l2Order, l2By, l2Renamed, Renamed; slices.Index. Conditions: the slices read as lists ('Seg'), at most 1048576 numbers. By an AI agent.
-/
namespace Go.Proofs.Ytkmhnkljigncmaa.rename
open Go.RowKit Go.Proofs.Ytkmhnkljigncmaa.base Go.Proofs.Ytkmhnkljigncmaa.ints Go.Proofs.Ytkmhnkljigncmaa.sig Go.Proofs.Ytkmhnkljigncmaa.term Go.Proofs.Ytkmhnkljigncmaa.termOk Go.Proofs.Ytkmhnkljigncmaa.marks Go.Proofs.Ytkmhnkljigncmaa.app Go.Proofs.Ytkmhnkljigncmaa.sym Go.Proofs.Ytkmhnkljigncmaa.segs Go.Proofs.Ytkmhnkljigncmaa.termFacts Go.Proofs.Ytkmhnkljigncmaa.varsMath Go.Proofs.Ytkmhnkljigncmaa.varsOf Go.Proofs.Ytkmhnkljigncmaa.renMath
set_option maxRecDepth 100000

theorem mem_of_get {t : List Int} {k : Nat} {x : Int} (hk : k < t.length) (hx : t.getD k 0 = x) : x ∈ t := by
  rw [← hx]
  simp [List.getD, hk]
theorem not_mem_of {t : List Int} {x : Int} (h : ∀ j, j < t.length → t.getD j 0 ≠ x) : x ∉ t := fun hx => by
  obtain ⟨j, hj, e⟩ := List.getElem_of_mem hx
  exact h j hj (by simp [List.getD, hj, e])

/-- the first k are other numbers -/
def HeadNo (n : Nat) (xs : List Int) (x : Int) (i : Value) : Prop := ∃ k : Nat, k ≤ n ∧ i = .int .i64 k ∧ ∀ j, j < k → xs.getD j 0 ≠ x
theorem headNo_step {n k : Nat} {xs : List Int} {x y : Int} (hk : k < n) (h : ∀ j, j < k → xs.getD j 0 ≠ x) (hy : Hid (xs.getD k 0 = y)) (hne : ¬ y = x) : HeadNo n xs x (.int .i64 ((k : Int) + 1)) :=
  ⟨k + 1, hk, by simp, fun j hj => by
    by_cases e : j = k
    · subst e; rw [hy.out]; exact hne
    · exact h j (by omega)⟩

set_option maxHeartbeats 1000000 in
theorem l1Has (A : Option Addr) (n c : Nat) (xs : List Int) (x : Int) (w : World) (h : Seg w w.heap.size A n xs) (hn : n ≤ 1048576) :
    Calls Try.prog 104 #[.slice A n c, .int .i64 x] w fun e w' => w = w' ∧ e = .returned (.bool (decide (x ∈ xs))) := by
  have HX := Lib.hid h.1
  go_enter Try.func104, Try.ntmps104
  go_wp2
  go_loop [5] (fun i => HeadNo n xs x i) (fun i => n - (intOf i).toNat)
  case atStart => exact ⟨0, Nat.zero_le _, rfl, fun j hj => absurd hj (Nat.not_lt_zero _)⟩
  case round =>
    obtain ⟨k, hk, rfl, hlow⟩ := hrel
    by_cases hlt : k < n
    · obtain ⟨b, off, y, rfl, -, hy, ey⟩ := h.spot hlt
      by_cases he : y = x
      · subst he
        have F := Lib.hid (show y ∈ xs from mem_of_get (by rw [HX.out]; exact hlt) ey.out)
        have e1 : (y == y) = true := by simp
        clear h ey hlow
        go_wp2
        go_ret
        exact ⟨rfl, by rw [decide_eq_true F.out]; rfl⟩
      · have S := Lib.hid (headNo_step hlt hlow ey he)
        have e1 : (y == x) = false := by simp [he]
        clear h ey hlow
        go_wp2
        go_round
        case rel => exact S.out
        case measure => simp [intOf]; omega
    · have F := Lib.hid (not_mem_of (t := xs) (x := x) (fun j hj => hlow j (by rw [HX.out] at hj; omega)))
      clear h hlow
      go_wp2
      go_ret
      exact ⟨rfl, by rw [decide_eq_false F.out]; rfl⟩

/-- what slices.Index answers -/
def indexI (xs : List Int) (x : Int) : Int := if x ∈ xs then (idx xs x : Int) else -1
set_option maxHeartbeats 1000000 in
theorem indexOf (A : Option Addr) (n c : Nat) (xs : List Int) (x : Int) (w : World) (h : Seg w w.heap.size A n xs) (hn : n ≤ 1048576) :
    Calls Try.prog 123 #[.slice A n c, .int .i64 x] w fun e w' => w = w' ∧ e = .returned (.int .i64 (indexI xs x)) := by
  have HX := Lib.hid h.1
  go_enter Try.func123, Try.ntmps123
  go_wp2
  go_loop [8] (fun i => HeadNo n xs x i) (fun i => n - (intOf i).toNat)
  case atStart => exact ⟨0, Nat.zero_le _, rfl, fun j hj => absurd hj (Nat.not_lt_zero _)⟩
  case round =>
    obtain ⟨k, hk, rfl, hlow⟩ := hrel
    by_cases hlt : k < n
    · obtain ⟨b, off, y, rfl, -, hy, ey⟩ := h.spot hlt
      by_cases he : y = x
      · subst he
        have F := Lib.hid (show indexI xs y = (k : Int) by
          have hkl : k < xs.length := by rw [HX.out]; exact hlt
          unfold indexI
          rw [if_pos (mem_of_get hkl ey.out), idx_first hkl hlow ey.out])
        have e1 : (y == y) = true := by simp
        clear h ey hlow
        go_wp2
        go_ret
        exact ⟨rfl, by rw [F.out]; rfl⟩
      · have S := Lib.hid (headNo_step hlt hlow ey he)
        have e1 : (x == y) = false := by simp; exact fun e => he e.symm
        clear h ey hlow
        go_wp2
        go_round
        case rel => exact S.out
        case measure => simp [intOf]; omega
    · have F := Lib.hid (show indexI xs x = -1 by unfold indexI; rw [if_neg (not_mem_of (fun j hj => hlow j (by rw [HX.out] at hj; omega)))])
      clear h hlow
      go_wp2
      go_ret
      exact ⟨rfl, by rw [F.out]; rfl⟩

/-- the head of l2Order's loop -/
def HeadOrd (w : World) (m : Nat) (t : List Int) (out i : Value) (wr : World) : Prop :=
  ∃ (k : Nat) (O : Option Addr) (on oc : Nat), k ≤ m ∧ i = .int .i64 k ∧ out = .slice O on oc ∧ Own wr w.heap.size (.slice O on oc) (orderL (t.take k)) ∧ Below w.heap.size w wr

set_option maxHeartbeats 2000000 in
theorem l2Order (A : Option Addr) (m c : Nat) (t : List Int) (w : World) (h : Seg w w.heap.size A m t) (hm : m ≤ 1048576) :
    Calls Try.prog 125 #[.slice A m c] w (AnsList w (orderL t)) := by
  have HL := Lib.hid h.1
  have S0 : HeadOrd w m t (.slice (some ⟨w.heap.size, 0, none⟩) 0 0) (.int .i64 0) (w.alloc (.cells #[] 2)) :=
    ⟨0, _, _, _, Nat.zero_le _, rfl, rfl, by simpa [orderL] using own_empty w w.heap.size (Nat.le_refl _), (Below.refl _ _).alloc (Nat.le_refl _) _⟩
  have HS0 := Lib.hid S0
  clear S0
  go_enter Try.func125, Try.ntmps125
  go_wp2_with fail
  go_loopw [3, 4] (fun out i wr => HeadOrd w m t out i wr) (fun _ i _ => m - (intOf i).toNat)
  case atStart => exact HS0.out
  case round =>
    obtain ⟨k, O, on, oc, hk, rfl, rfl, ho, hb⟩ := hrel
    clear HS0
    have hon : on ≤ m := by have h1 := Own.len ho; have h2 := order_len (t.take k); simp at h2; have h3 := HL.out; omega
    by_cases hlt : k < m
    · obtain ⟨b, off, x, rfl, hbb, hx, ex⟩ := h.spot hlt
      have hx1 : wr.cell? ⟨b, off + k, none⟩ = some (.int .i64 x) := (hb.cell (p := ⟨b, off + k, none⟩) hbb).trans hx
      have E := Lib.hid (order_take (t := t) (k := k) (by rw [HL.out]; exact hlt) ex.out)
      have hsz := hb.size
      clear hx h ex
      by_cases hneg : x < 0
      · have L := Lib.hid (l1Has O on oc _ x wr (Own.seg ho) (by omega))
        by_cases hin : x ∈ orderL (t.take k)
        · have R := Lib.hid (show extV (orderL (t.take k)) x = orderL (t.take k) by unfold extV ext; rw [if_pos hneg, if_pos hin])
          rw [decide_eq_true hin] at L
          have S : HeadOrd w m t (.slice O on oc) (.int .i64 ((k : Int) + 1)) wr := ⟨k + 1, O, on, oc, hlt, by simp, rfl, by rw [E.out, R.out]; exact ho, hb⟩
          replace S := Lib.hid S
          clear ho hb hin R E
          go_wp2_with fail
          refine L.out.mono ?_
          rintro e w' ⟨rfl, rfl⟩
          clear L
          go_wp2
          go_roundw
          case rel => exact S.out
          case measure => simp [intOf]; omega
        · have R := Lib.hid (show extV (orderL (t.take k)) x = orderL (t.take k) ++ [x] by unfold extV ext; rw [if_pos hneg, if_neg hin])
          rw [decide_eq_false hin] at L
          clear hin
          go_wp2_with fail
          refine L.out.mono ?_
          rintro e w' ⟨rfl, rfl⟩
          clear L
          go_wp2_with (at_builtin; refine app1 rfl _ _ rfl w.heap.size O on oc (orderL (t.take k)) rfl (Own.alloc ho _) wr.heap.size 1 x rfl ((Row.new _ _ _).cell 0) (by omega) (by simp; omega) ?_; intro O' oc' w2 ho2 b2)
          have S : HeadOrd w m t (.slice O' (on + 1) oc') (.int .i64 ((k : Int) + 1)) w2 := ⟨k + 1, O', on + 1, oc', hlt, by simp, rfl, by rw [E.out, R.out]; exact ho2, (hb.alloc hsz _).trans b2⟩
          replace S := Lib.hid S
          clear ho2 b2 ho hb R E
          go_wp2
          go_roundw
          case rel => exact S.out
          case measure => simp [intOf]; omega
      · have R := Lib.hid (show extV (orderL (t.take k)) x = orderL (t.take k) by unfold extV; rw [if_neg hneg])
        have S : HeadOrd w m t (.slice O on oc) (.int .i64 ((k : Int) + 1)) wr := ⟨k + 1, O, on, oc, hlt, by simp, rfl, by rw [E.out, R.out]; exact ho, hb⟩
        replace S := Lib.hid S
        have d1 : decide (x < 0) = false := by simp; omega
        clear ho hb R E
        go_wp2
        go_roundw
        case rel => exact S.out
        case measure => simp [intOf]; omega
    · have F : AnsList w (orderL t) (.returned (.slice O on oc)) wr := by
        rw [List.take_of_length_le (by rw [HL.out]; omega)] at ho
        exact ⟨O, on, oc, rfl, ho, hb⟩
      have HF := Lib.hid F
      clear F ho hb h
      go_wp2
      go_ret
      exact HF.out

/-- a number, when the first q places of the order have been looked at -/
def upTo (o : List Int) (x : Int) (q : Nat) : Int := if idx o x < q then -1 - (idx o x : Int) else x
/-- the head of the inner loop -/
def HeadIn (wr : World) (pn : Nat) (o : List Int) (x : Int) (n k : Value) (wi : World) : Prop := ∃ q d : Nat, q ≤ pn ∧ k = .int .i64 q ∧ n = .int .i64 (upTo o x q) ∧ wi = wr.drewN d
theorem upTo_yes {o : List Int} (hd : o.Nodup) {x : Int} {q : Nat} (hq : q < o.length) (h : o.getD q 0 = x) : upTo o x (q + 1) = -1 - (q : Int) := by
  unfold upTo
  rw [idx_nodup hd hq h, if_pos (by omega)]
theorem upTo_no {o : List Int} {x y : Int} {q : Nat} (hq : q < o.length) (h : o.getD q 0 = y) (hne : ¬ y = x) : upTo o x (q + 1) = upTo o x q := by
  unfold upTo
  have h1 : idx o x ≠ q := fun e => by
    by_cases hx : x ∈ o
    · have := idx_get hx
      rw [e, h] at this
      exact hne this
    · have := idx_not hx
      omega
  by_cases h2 : idx o x < q
  · rw [if_pos h2, if_pos (by omega)]
  · rw [if_neg h2, if_neg (by omega)]
/-- the head of the outer loop -/
def HeadBy (w : World) (m : Nat) (t o : List Int) (out i : Value) (wr : World) : Prop :=
  ∃ (k : Nat) (O : Option Addr) (on oc : Nat), k ≤ m ∧ i = .int .i64 k ∧ out = .slice O on oc ∧ Own wr w.heap.size (.slice O on oc) ((t.take k).map (ren o)) ∧ Below w.heap.size w wr

set_option maxHeartbeats 4000000 in
theorem l2By (P A : Option Addr) (pn pc m c : Nat) (o t : List Int) (w : World) (hp : Seg w w.heap.size P pn o) (h : Seg w w.heap.size A m t) (hpn : pn ≤ 1048576) (hm : m ≤ 1048576) (hd : o.Nodup) (ho : ∀ x ∈ t, x < 0 → x ∈ o) :
    Calls Try.prog 124 #[.slice P pn pc, .slice A m c] w (AnsList w (t.map (ren o))) := by
  have HL := Lib.hid h.1
  have HP := Lib.hid hp.1
  have HO := Lib.hid ho
  have HD := Lib.hid hd
  have S0 : HeadBy w m t o (.slice (some ⟨w.heap.size, 0, none⟩) 0 0) (.int .i64 0) (w.alloc (.cells #[] 2)) :=
    ⟨0, _, _, _, Nat.zero_le _, rfl, rfl, by simpa using own_empty w w.heap.size (Nat.le_refl _), (Below.refl _ _).alloc (Nat.le_refl _) _⟩
  have HS0 := Lib.hid S0
  clear S0 ho hd
  go_enter Try.func124, Try.ntmps124
  go_wp2_with fail
  go_loopw [5, 6] (fun out i wr => HeadBy w m t o out i wr) (fun _ i _ => m - (intOf i).toNat)
  case atStart => exact HS0.out
  case round =>
    obtain ⟨k, O, on, oc, hk, rfl, rfl, hown, hb⟩ := hrel
    clear HS0
    have hon : on ≤ m := by have h1 := Own.len hown; simp at h1; omega
    obtain ⟨wo, rfl⟩ : ∃ wo : World, wo = wr := ⟨_, rfl⟩
    by_cases hlt : k < m
    · obtain ⟨b, off, x, rfl, hbb, hx, ex⟩ := h.spot hlt
      have hx1 : wo.cell? ⟨b, off + k, none⟩ = some (.int .i64 x) := (hb.cell (p := ⟨b, off + k, none⟩) hbb).trans hx
      have hmem := mem_of_get (by rw [HL.out]; exact hlt) ex.out
      have E := Lib.hid (show (t.take (k + 1)).map (ren o) = (t.take k).map (ren o) ++ [ren o x] by rw [take_snoc (by rw [HL.out]; exact hlt) ex.out, List.map_append]; rfl)
      have hsz := hb.size
      have hpo := hp.below hb
      clear hx h ex
      by_cases hneg : x < 0
      · have hin := HO.out x hmem hneg
        have I0 : HeadIn wo pn o x (.int .i64 x) (.int .i64 0) wo := ⟨0, 0, Nat.zero_le _, rfl, by simp [upTo], rfl⟩
        have HI0 := Lib.hid I0
        have R := Lib.hid (show upTo o x pn = ren o x by unfold upTo ren; rw [if_pos hneg, if_pos (by rw [← HP.out]; exact idx_lt hin)])
        have REST := Lib.hid (fun (d : Nat) (O' : Option Addr) (oc' : Nat) (w2 : World) (ho2 : Own w2 w.heap.size (.slice O' (on + 1) oc') ((t.take k).map (ren o) ++ [ren o x])) (b2 : Below w.heap.size ((wo.drewN d).alloc (.cells #[.int .i64 (ren o x)] 2)) w2) =>
          (show HeadBy w m t o (.slice O' (on + 1) oc') (.int .i64 ((k : Int) + 1)) w2 from ⟨k + 1, O', on + 1, oc', hlt, by simp, rfl, by rw [E.out]; exact ho2, ((below_drewN hb d).alloc hsz _).trans b2⟩))
        clear I0 hin hmem hb
        go_wp2_with fail
        go_loopw [7, 8] (fun n q wi => HeadIn wo pn o x n q wi) (fun _ q _ => pn - (intOf q).toNat)
        case atStart => exact HI0.out
        case round =>
          obtain ⟨q, d, hq, rfl, rfl, hw⟩ := hrel
          clear HI0
          have hxr : wr.cell? ⟨b, off + k, none⟩ = some (.int .i64 x) := by rw [hw]; exact hx1
          have hpr : Seg wr w.heap.size P pn o := by rw [hw]; exact hpo
          have HW := Lib.hid hw
          clear hw
          by_cases hq2 : q < pn
          · obtain ⟨b2, off2, y, rfl, -, hy, ey⟩ := hpr.spot hq2
            by_cases he : y = x
            · have U := Lib.hid (upTo_yes HD.out (by rw [HP.out]; exact hq2) (ey.out.trans he))
              have S : ∀ nq : Nat, HeadIn wo pn o x (.int .i64 (-1 - (q : Int))) (.int .i64 ((q : Int) + 1)) (wr.drewN nq) := fun nq => ⟨q + 1, d + nq, hq2, by simp, by rw [U.out], by rw [HW.out, World.drewN_drewN]⟩
              replace S := Lib.hid S
              have e1 : (y == x) = true := by simp [he]
              clear hpr ey U hpo hp hx1 hown
              generalize upTo o x q = z at *
              go_wp2_with fail
              go_quiet (fail)
              go_wp2
              go_roundw
              case rel => exact S.out _
              case measure => simp [intOf]; omega
            · have U := Lib.hid (upTo_no (x := x) (by rw [HP.out]; exact hq2) ey.out he)
              have S : ∀ nq : Nat, HeadIn wo pn o x (.int .i64 (upTo o x q)) (.int .i64 ((q : Int) + 1)) (wr.drewN nq) := fun nq => ⟨q + 1, d + nq, hq2, by simp, by rw [U.out], by rw [HW.out, World.drewN_drewN]⟩
              replace S := Lib.hid S
              have e1 : (y == x) = false := by simp [he]
              clear hpr ey U hpo hp hx1 hown
              generalize upTo o x q = z at *
              go_wp2_with fail
              go_quiet (fail)
              go_wp2
              go_roundw
              case rel => exact S.out _
              case measure => simp [intOf]; omega
          · have hqp : q = pn := by omega
            subst hqp
            have hown2 : Own wr w.heap.size (.slice O on oc) ((t.take k).map (ren o)) := by rw [HW.out]; exact hown
            have hszr : w.heap.size ≤ wr.heap.size := by rw [HW.out]; exact hsz
            rw [R.out]
            clear hpr hpo hp hx1 hown
            generalize hz : ren o x = z at *
            go_wp2_with (at_builtin; refine app1 rfl _ _ rfl w.heap.size O on oc ((t.take k).map (ren o)) rfl (Own.alloc hown2 _) wr.heap.size 1 z rfl ((Row.new _ _ _).cell 0) (by omega) (by simp; omega) ?_; intro O' oc' w2 ho2 b2)
            have S := Lib.hid (REST.out d O' oc' w2 ho2 (by rw [← HW.out]; exact b2))
            clear ho2 b2 hown2 REST
            go_wp2
            go_roundw
            case rel => exact S.out
            case measure => simp [intOf]; omega
      · have RH := Lib.hid (show ren o x = x by unfold ren; rw [if_neg hneg])
        have d1 : decide (x < 0) = false := by simp; omega
        have REST := Lib.hid (fun (O' : Option Addr) (oc' : Nat) (w2 : World) (ho2 : Own w2 w.heap.size (.slice O' (on + 1) oc') ((t.take k).map (ren o) ++ [x])) (b2 : Below w.heap.size (wo.alloc (.cells #[.int .i64 x] 2)) w2) =>
          (show HeadBy w m t o (.slice O' (on + 1) oc') (.int .i64 ((k : Int) + 1)) w2 from ⟨k + 1, O', on + 1, oc', hlt, by simp, rfl, by rw [E.out, RH.out]; exact ho2, (hb.alloc hsz _).trans b2⟩))
        clear hmem hpo hb
        by_cases hp0 : 0 < pn
        all_goals
          go_wp2_with fail
          go_loopw [7, 8] (fun n q wi => n = .int .i64 x ∧ q = .int .i64 0 ∧ wi = wo) (fun _ _ _ => 0)
          case atStart => exact ⟨rfl, rfl, rfl⟩
          case round =>
            obtain ⟨rfl, rfl, hw⟩ := hrel
            subst hw
            go_wp2_with (at_builtin; refine app1 rfl _ _ rfl w.heap.size O on oc ((t.take k).map (ren o)) rfl (Own.alloc hown _) wr.heap.size 1 x rfl ((Row.new _ _ _).cell 0) (by omega) (by simp; omega) ?_; intro O' oc' w2 ho2 b2)
            have S := Lib.hid (REST.out O' oc' w2 ho2 b2)
            clear ho2 b2 hown REST
            go_wp2
            go_roundw
            case rel => exact S.out
            case measure => simp [intOf]; omega
    · have F : AnsList w (t.map (ren o)) (.returned (.slice O on oc)) wo := by
        rw [List.take_of_length_le (by rw [HL.out]; omega)] at hown
        exact ⟨O, on, oc, rfl, hown, hb⟩
      have HF := Lib.hid F
      clear F hown hb h hp
      go_wp2
      go_ret
      exact HF.out

set_option maxHeartbeats 1000000 in
theorem l2Renamed (A : Option Addr) (m c : Nat) (t : List Int) (w : World) (h : Seg w w.heap.size A m t) (hm : m ≤ 1048576) :
    Calls Try.prog 86 #[.slice A m c] w (AnsList w (renL t)) := by
  have L := Lib.hid (l2Order A m c t w h hm)
  have HL := Lib.hid h.1
  go_enter Try.func86, Try.ntmps86
  go_wp2_with fail
  refine L.out.mono ?_
  rintro e w1 ⟨P, pn, pc, rfl, o1, bb⟩
  have hpn : pn ≤ 1048576 := by rw [Own.len o1]; have := order_len t; have := HL.out; omega
  have L2 := Lib.hid (l2By P A pn pc m c (orderL t) t w1 (Own.seg o1) (h.next bb) hpn hm (order_nodup t) (fun x hx h0 => order_mem.2 ⟨hx, h0⟩))
  clear L o1 h
  go_wp2_with fail
  refine L2.out.mono ?_
  rintro e w2 ⟨Q, qn, qc, rfl, o2, b2⟩
  have F : AnsList w (renL t) (.returned (.slice Q qn qc)) w2 := ⟨Q, qn, qc, rfl, Own.lower o2 bb.size, next_trans bb b2⟩
  have HF := Lib.hid F
  clear F o2 b2 bb L2
  go_wp2
  go_ret
  exact HF.out

end Go.Proofs.Ytkmhnkljigncmaa.rename
end

section
/-
  CONTRACTS: spec.SameTerm, slices.Equal at []int64 and impl.SameTerm answer whether two slices hold the same numbers. Conditions: the slices read as lists ('Seg'), at most 1048576 elements. By an AI agent.
-/
namespace Go.Proofs.Ytkmhnkljigncmaa.same
open Go.RowKit Go.Proofs.Ytkmhnkljigncmaa.base Go.Proofs.Ytkmhnkljigncmaa.ints

set_option maxHeartbeats 400000 in
theorem specSame (A A' : Option Addr) (n m c c' : Nat) (xs ys : List Int) (w : World) (h : Seg w w.heap.size A n xs) (h' : Seg w w.heap.size A' m ys) (hn : n ≤ 1048576) (hm : m ≤ 1048576) :
    Calls Try.prog 19 #[.slice A n c, .slice A' m c'] w (AnsSame w xs ys) := by
  by_cases hnm : n = m
  · subst hnm
    go_enter Try.func19, Try.ntmps19
    go_wp2
    go_loopw [5] (fun i wr => HeadSame w n xs ys i wr) (fun i _ => n - (intOf i).toNat)
    case atStart => exact ⟨0, 0, Nat.zero_le _, rfl, rfl, fun j h => absurd h (Nat.not_lt_zero _)⟩
    case round =>
      obtain ⟨k, d, hk, rfl, rfl, hc⟩ := hrel
      by_cases hlt : k < n
      · obtain ⟨b, off, x, rfl, -, hx, ex⟩ := h.spot hlt
        obtain ⟨b', off', y, rfl, -, hx', ey⟩ := h'.spot hlt
        by_cases he : x = y
        · subst he
          have S := Lib.hid (alike_step (w := w) hlt hc ex ey)
          clear hc h h' ex ey
          go_wp2
          go_quiet (fail)
          go_wp2
          go_roundw
          case rel => exact S.out _
          case measure => simp [intOf]; omega
        · have S := Lib.hid (same_not (w := w) ex ey he)
          have hne : (x != y) = true := by simp [he]
          clear hc h h' ex ey he
          go_wp2
          go_quiet (fail)
          go_wp2
          go_ret
          rw [World.drewN_drewN]
          exact S.out _
      · have S := Lib.hid (same_yes (w := w) h.1 h'.1 hlt hc)
        clear hc h h'
        go_wp2
        go_ret
        exact S.out _
  · have S := Lib.hid (same_len (w := w) h.1 h'.1 hnm)
    have hne : ((n : Int) != (m : Int)) = true := by simp; omega
    clear h h'
    go_enter Try.func19, Try.ntmps19
    go_wp2
    go_ret
    exact S.out
set_option maxHeartbeats 400000 in
theorem libEqual (A A' : Option Addr) (n m c c' : Nat) (xs ys : List Int) (w : World) (h : Seg w w.heap.size A n xs) (h' : Seg w w.heap.size A' m ys) (hn : n ≤ 1048576) (hm : m ≤ 1048576) :
    Calls Try.prog 77 #[.slice A n c, .slice A' m c'] w (AnsSame w xs ys) := by
  by_cases hnm : n = m
  · subst hnm
    go_enter Try.func77, Try.ntmps77
    go_wp2
    go_loopw [13] (fun i wr => HeadSame w n xs ys i wr) (fun i _ => n - (intOf i).toNat)
    case atStart => exact ⟨0, 0, Nat.zero_le _, rfl, rfl, fun j h => absurd h (Nat.not_lt_zero _)⟩
    case round =>
      obtain ⟨k, d, hk, rfl, rfl, hc⟩ := hrel
      by_cases hlt : k < n
      · obtain ⟨b, off, x, rfl, -, hx, ex⟩ := h.spot hlt
        obtain ⟨b', off', y, rfl, -, hx', ey⟩ := h'.spot hlt
        by_cases he : x = y
        · subst he
          have S := Lib.hid (alike_step (w := w) hlt hc ex ey)
          clear hc h h' ex ey
          go_wp2
          go_quiet (fail)
          go_wp2
          go_roundw
          case rel => exact S.out _
          case measure => simp [intOf]; omega
        · have S := Lib.hid (same_not (w := w) ex ey he)
          have hne : (x != y) = true := by simp [he]
          clear hc h h' ex ey he
          go_wp2
          go_quiet (fail)
          go_wp2
          go_ret
          rw [World.drewN_drewN]
          exact S.out _
      · have S := Lib.hid (same_yes (w := w) h.1 h'.1 hlt hc)
        clear hc h h'
        go_wp2
        go_ret
        exact S.out _
  · have S := Lib.hid (same_len (w := w) h.1 h'.1 hnm)
    have hne : ((n : Int) != (m : Int)) = true := by simp; omega
    clear h h'
    go_enter Try.func77, Try.ntmps77
    go_wp2
    go_ret
    exact S.out

theorem implSame (A A' : Option Addr) (n m c c' : Nat) (xs ys : List Int) (w : World) (h : Seg w w.heap.size A n xs) (h' : Seg w w.heap.size A' m ys) (hn : n ≤ 1048576) (hm : m ≤ 1048576) :
    Calls Try.prog 23 #[.slice A n c, .slice A' m c'] w (AnsSame w xs ys) := by
  have L := Lib.hid (libEqual A A' n m c c' xs ys w h h' hn hm)
  clear h h'
  go_enter Try.func23, Try.ntmps23
  go_wp2_with fail
  refine L.out.mono ?_
  rintro e w' ⟨rfl, d, rfl⟩
  go_wp2
  go_ret
  exact ⟨rfl, d, rfl⟩
end Go.Proofs.Ytkmhnkljigncmaa.same
end
