/-
  MERGED: my texts UnifMath, GenMath, GenPos, Look, Same, Plain, AppZ, GenTab, GenSpec, GenRec, Concat, one behind the other, as they are. By an AI agent.
-/
import Derived.Test.YtkmhnkljigncmaaMFnExactGeneralisedAll2
import Derived.Shelf.Abstract
import Derived.Deep.QuietTactic
import Derived.BigQuiet
import Derived.Lib.AppendZeros
import Derived.Deep.LoopGhost
section
/-
  PLAIN MATHEMATICS of unification (chapter 5): what is most general, idempotent and keeps the smallest variables is unique ('Mg', 'mg_uniq'); what one step from a place where two terms differ does ('Part'); a step that is barred means that there is no unifier, or none that is short. Conditions: none. By an AI agent.
-/
namespace Go.Proofs.Ytkmhnkljigncmaa.unifMath
open Go.Proofs.Ytkmhnkljigncmaa.sig Go.Proofs.Ytkmhnkljigncmaa.term Go.Proofs.Ytkmhnkljigncmaa.termOk Go.Proofs.Ytkmhnkljigncmaa.termFacts Go.Proofs.Ytkmhnkljigncmaa.endAt Go.Proofs.Ytkmhnkljigncmaa.sub Go.Proofs.Ytkmhnkljigncmaa.termMath Go.Proofs.Ytkmhnkljigncmaa.fillMath Go.Proofs.Ytkmhnkljigncmaa.posMath Go.Proofs.Ytkmhnkljigncmaa.renMath Go.Proofs.Ytkmhnkljigncmaa.matchMath Go.Proofs.Ytkmhnkljigncmaa.plainMath

/-- a term of whatever length -/
def Trm (sg t : List Int) : Prop := scan sg 1 t = some t.length
theorem scan_ar {sg : List Int} : ∀ {l : List Int} {q : Nat}, scan sg q l = some l.length → ∀ x ∈ l, ¬ ar sg x < 0 := by
  intro l
  induction l with
  | nil => intro q _ x hx; exact absurd hx (List.not_mem_nil)
  | cons y r ih =>
    intro q h x hx
    cases q with
    | zero => rw [scan_zero] at h; injection h with h; simp at h
    | succ q =>
      by_cases hy : ar sg y < 0
      · rw [scan_bad hy] at h; cases h
      · rw [scan_step hy, Option.map_eq_some_iff] at h
        obtain ⟨a, e1, e2⟩ := h
        rcases List.mem_cons.1 hx with rfl | hx
        · exact hy
        · exact ih (q := q + (ar sg y).toNat) (by rw [e1]; congr 1; simp at e2; omega) x hx
theorem Trm.mem {sg t : List Int} (h : Trm sg t) {x : Int} (hx : x ∈ t) : -24 ≤ x := by
  have h1 := scan_ar h x hx
  by_cases h2 : -24 ≤ x
  · exact h2
  · rw [ar_no (by omega) (by omega)] at h1; omega
theorem Trm.pos {sg t : List Int} (h : Trm sg t) : 1 ≤ t.length := scan_pos (q := 0) h
theorem Trm.vt {sg : List Int} {i : Nat} (hi : i < 24) : Trm sg (vt i) := scan_one (y := -1 - (i : Int)) (by omega)
theorem vr_neg {x : Int} (h : x < 0) : -1 - ((vr x : Nat) : Int) = x := by unfold vr; omega
theorem vt_vr {x : Int} (h : x < 0) : vt (vr x) = [x] := by unfold vt; rw [vr_neg h]
theorem vr_vt (i : Nat) : vr (-1 - (i : Int)) = i := by unfold vr; omega
theorem vt_inj {i j : Nat} (h : vt i = vt j) : i = j := by
  unfold vt at h
  injection h with h
  omega
theorem rep_vr {L : Nat → List Int} {x : Int} (h : x < 0) : rep L x = L (vr x) := rep_var h
theorem fill_one (L : Nat → List Int) (x : Int) : fillL L [x] = rep L x := by rw [fill_cons, fill_nil, List.append_nil]
theorem fill_vti (L : Nat → List Int) (i : Nat) : fillL L (vt i) = L i := by
  unfold vt
  rw [fill_one, rep_vr (by omega), vr_vt]
/-- look-ups whose values are terms below 24, and the variable itself beyond -/
structure Sub (sg : List Int) (L : Nat → List Int) : Prop where
  trm : ∀ i, i < 24 → Trm sg (L i)
  out : ∀ i, 24 ≤ i → L i = vt i
theorem Sub.pos {sg : List Int} {L : Nat → List Int} (h : Sub sg L) (i : Nat) : 1 ≤ (L i).length := by
  by_cases hi : i < 24
  · exact (h.trm i hi).pos
  · rw [h.out i (by omega)]; simp [vt]
theorem Sub.vt (sg : List Int) : Sub sg vt := ⟨fun _ hi => Trm.vt hi, fun _ _ => rfl⟩
theorem Sub.fill {sg : List Int} {L : Nat → List Int} (h : Sub sg L) {t : List Int} (ht : Trm sg t) : Trm sg (fillL L t) :=
  scan_fill ht (fun x hx h0 => h.trm _ (by have := ht.mem hx; omega))
theorem Sub.comp {sg : List Int} {L M : Nat → List Int} (h : Sub sg L) (h' : Sub sg M) : Sub sg (fun i => fillL M (L i)) :=
  ⟨fun i hi => h'.fill (h.trm i hi), fun i hi => by show fillL M (L i) = _; rw [h.out i hi, fill_vti]; exact h'.out i hi⟩
/-- a unifier -/
structure Uni (sg a b : List Int) (L : Nat → List Int) : Prop where
  sub : Sub sg L
  eq : fillL L a = fillL L b
theorem Uni.symm {sg a b : List Int} {L : Nat → List Int} (h : Uni sg a b L) : Uni sg b a L := ⟨h.sub, h.eq.symm⟩
/-- on the way: each unifier is an instance; what remains is fixed, and is the smallest -/
structure Part (sg a b : List Int) (L : Nat → List Int) : Prop where
  sub : Sub sg L
  gen : ∀ M, Uni sg a b M → ∀ i, fillL M (L i) = M i
  ide : ∀ i x, x ∈ L i → x < 0 → L (vr x) = [x]
  ord : ∀ i j, L i = vt j → j ≤ i
/-- most general -/
structure Mg (sg a b : List Int) (L : Nat → List Int) : Prop extends Part sg a b L where
  eq : fillL L a = fillL L b
theorem Mg.uni {sg a b : List Int} {L : Nat → List Int} (h : Mg sg a b L) : Uni sg a b L := ⟨h.sub, h.eq⟩
theorem Part.symm {sg a b : List Int} {L : Nat → List Int} (h : Part sg a b L) : Part sg b a L := ⟨h.sub, fun M hM => h.gen M hM.symm, h.ide, h.ord⟩
theorem Mg.symm {sg a b : List Int} {L : Nat → List Int} (h : Mg sg a b L) : Mg sg b a L := ⟨h.toPart.symm, h.eq.symm⟩
theorem Part.start (sg a b : List Int) : Part sg a b vt :=
  ⟨Sub.vt sg, fun M _ i => fill_vti M i, fun i x hx h0 => vt_vr h0, fun i j h => by rw [vt_inj h]; exact Nat.le_refl _⟩

theorem fill_fix {L : Nat → List Int} (hp : ∀ i, 1 ≤ (L i).length) : ∀ {t : List Int}, fillL L t = t → ∀ x ∈ t, x < 0 → L (vr x) = [x]
  | [], _, x, hx, _ => absurd hx (List.not_mem_nil)
  | y :: r, h, x, hx, h0 => by
    rw [fill_cons] at h
    have h1 : 1 ≤ (rep L y).length := by
      unfold rep
      split
      · simp
      · exact hp _
    have h2 := fill_ge hp r
    have h3 := congrArg List.length h
    rw [List.length_append, List.length_cons] at h3
    obtain ⟨z, hz⟩ : ∃ z, rep L y = [z] := List.length_eq_one_iff.1 (by omega)
    rw [hz] at h
    injection h with e1 e2
    rcases List.mem_cons.1 hx with rfl | hx
    · rw [← rep_vr (L := L) h0, hz, e1]
    · exact fill_fix hp e2 x hx h0
theorem fill_same {L : Nat → List Int} {t : List Int} (h : ∀ x ∈ t, x < 0 → L (vr x) = [x]) : fillL L t = t := by
  have := fill_ext (L := L) (L' := vt) (t := t) (fun x hx h0 => by rw [show (-1 - x).toNat = vr x from rfl, h x hx h0, vt_vr h0])
  rw [this, fill_vt]
/-- there is only one -/
theorem mg_uniq {sg a b : List Int} {S T : Nat → List Int} (hS : Mg sg a b S) (hT : Mg sg a b T) (i : Nat) : S i = T i := by
  have e1 := hS.gen T hT.uni
  have e2 := hT.gen S hS.uni
  have key : ∀ x ∈ S i, x < 0 → T (vr x) = [x] := by
    intro x hx h0
    have hfix : fillL (fun j => fillL S (T j)) (S i) = S i := by rw [← fill_fill, e1, e2]
    have h1 : fillL S (T (vr x)) = [x] := fill_fix (L := fun j => fillL S (T j)) (fun j => by
      have := fill_ge hS.sub.pos (T j); have := hT.sub.pos j; omega) hfix x hx h0
    have h2 := fill_ge hS.sub.pos (T (vr x))
    have h3 := hT.sub.pos (vr x)
    rw [h1] at h2
    obtain ⟨z, hz⟩ : ∃ z, T (vr x) = [z] := List.length_eq_one_iff.1 (by simp at h2; omega)
    rw [hz, fill_one] at h1
    by_cases hz0 : 0 ≤ z
    · rw [rep_sym hz0] at h1
      injection h1 with h1
      omega
    · rw [rep_vr (by omega)] at h1
      have o1 := hS.ord (vr z) (vr x) (by rw [h1, vt_vr h0])
      have o2 := hT.ord (vr x) (vr z) (by rw [hz, vt_vr (by omega)])
      have hv : vr x = vr z := by omega
      have : x = z := by unfold vr at hv; omega
      rw [hz, this]
  rw [← e1 i, fill_same key]

/-! ### where two terms differ -/
theorem fill_drop {L : Nat → List Int} {x y : List Int} {k : Nat} (e : x.take k = y.take k) (h : fillL L x = fillL L y) : fillL L (x.drop k) = fillL L (y.drop k) := by
  rw [← List.take_append_drop k x, ← List.take_append_drop k y, fill_append, fill_append, e] at h
  exact List.append_cancel_left h
/-- the subterm at a place -/
theorem sub_trm {sg x : List Int} (hx : Trm sg x) {k : Nat} (hk : k < x.length) : Trm sg (subL sg x k) ∧ x.drop k = subL sg x k ++ x.drop (k + (subL sg x k).length) := by
  obtain ⟨j, h1, h2, h3⟩ := scan_at hx hk
  have hl : subL sg x k = (x.drop k).take j := by unfold subL; rw [len1_eq h1]
  have hlen : (subL sg x k).length = j := by rw [hl, List.length_take, List.length_drop]; omega
  refine ⟨?_, ?_⟩
  · unfold Trm
    rw [hlen, hl]
    exact scan_take h1
  · rw [hlen, hl, ← List.drop_drop]
    exact (List.take_append_drop _ _).symm
theorem sub_head {sg x : List Int} (hx : Trm sg x) {k : Nat} (hk : k < x.length) : ∃ r, subL sg x k = x.getD k 0 :: r := by
  obtain ⟨h1, h2⟩ := sub_trm hx hk
  have h3 := h1.pos
  obtain ⟨y, r, hyr⟩ : ∃ y r, subL sg x k = y :: r := by
    cases h : subL sg x k with
    | nil => rw [h] at h3; simp at h3
    | cons y r => exact ⟨y, r, rfl⟩
  refine ⟨r, ?_⟩
  rw [hyr, drop_cons hk] at h2
  injection h2 with h2 _
  rw [hyr, h2]
/-- a variable is a term by itself -/
theorem sub_var {sg x : List Int} (hx : Trm sg x) {k : Nat} (hk : k < x.length) (h0 : x.getD k 0 < 0) : subL sg x k = [x.getD k 0] := by
  have hm : x.getD k 0 ∈ x := by simp [List.getD, hk]
  have h24 := hx.mem hm
  have : scan sg 1 (x.drop k) = some 1 := by
    rw [drop_cons hk, scan_step (by rw [ar_var (by omega)]; omega), ar_var (by omega)]
    show (scan sg 0 _).map (· + 1) = some 1
    rw [scan_zero]
    rfl
  unfold subL
  rw [len1_eq this, drop_cons hk]
  rfl
/-- a unifier unifies the subterms where two terms begin to differ -/
theorem uni_sub {sg x y : List Int} {M : Nat → List Int} (hx : Trm sg x) (hy : Trm sg y) (hM : Sub sg M) (h : fillL M x = fillL M y) {k : Nat} (e : x.take k = y.take k) (hkx : k < x.length) (hky : k < y.length) : fillL M (subL sg x k) = fillL M (subL sg y k) := by
  have h1 := fill_drop e h
  obtain ⟨tx, ex⟩ := sub_trm hx hkx
  obtain ⟨ty, ey⟩ := sub_trm hy hky
  rw [ex, ey, fill_append, fill_append] at h1
  have s1 := scan_append (r := fillL M (x.drop (k + (subL sg x k).length))) (hM.fill tx)
  have s2 := scan_append (r := fillL M (y.drop (k + (subL sg y k).length))) (hM.fill ty)
  rw [h1, s2] at s1
  injection s1 with s1
  have := congrArg (List.take (fillL M (subL sg x k)).length) h1
  rw [List.take_left' rfl, List.take_left' s1] at this
  exact this
/-- neither of two different terms begins the other one -/
theorem differ {sg x y : List Int} (hx : Trm sg x) (hy : Trm sg y) {k : Nat} (e : x.take k = y.take k) (hk : k ≤ x.length) (hk' : k ≤ y.length) (hend : k = x.length ∨ k = y.length) : x = y := by
  have key : ∀ {u v : List Int}, Trm sg u → Trm sg v → u.take k = v.take k → k = u.length → k ≤ v.length → u = v := by
    intro u v hu hv e hk hv'
    have h1 : v = u ++ v.drop k := by
      have := (List.take_append_drop k v).symm
      rwa [← e, hk, List.take_length, ← hk] at this
    have h2 := scan_append (r := v.drop k) hu
    rw [← h1, hv] at h2
    injection h2 with h2
    rw [h1, List.drop_eq_nil_of_le (by omega), List.append_nil]
  rcases hend with h | h
  · exact key hx hy e h hk'
  · exact (key hy hx e.symm h hk).symm

/-! ### a step -/
/-- one variable replaced -/
def ones (i : Nat) (t : List Int) (k : Nat) : List Int := if k = i then t else vt k
theorem one_sub {sg : List Int} {i : Nat} {t : List Int} (ht : Trm sg t) (hi : i < 24) : Sub sg (ones i t) :=
  ⟨fun k hk => by unfold ones; split; exact ht; exact Trm.vt hk, fun k hk => by unfold ones; rw [if_neg (by omega)]⟩
theorem one_no {i : Nat} {t z : List Int} (h : ∀ x ∈ z, x < 0 → vr x ≠ i) : fillL (ones i t) z = z :=
  fill_same (fun x hx h0 => by unfold ones; rw [if_neg (h x hx h0), vt_vr h0])
theorem one_uni {i : Nat} {t : List Int} {M : Nat → List Int} (h : M i = fillL M t) (z : List Int) : fillL M (fillL (ones i t) z) = fillL M z := by
  rw [fill_fill]
  refine fill_ext (fun x _ _ => ?_)
  show fillL M (ones i t _) = _
  unfold ones
  split
  · rename_i e; rw [e, h]
  · exact fill_vti M _
/-- what is found where x = fillL L a and y = fillL L b differ -/
structure Spot (sg a b : List Int) (L : Nat → List Int) (k : Nat) : Prop where
  ta : Trm sg a
  tb : Trm sg b
  pre : (fillL L a).take k = (fillL L b).take k
  kx : k < (fillL L a).length
  ky : k < (fillL L b).length
  ne : (fillL L a).getD k 0 ≠ (fillL L b).getD k 0
theorem Spot.symm {sg a b : List Int} {L : Nat → List Int} {k : Nat} (h : Spot sg a b L k) : Spot sg b a L k := ⟨h.tb, h.ta, h.pre.symm, h.ky, h.kx, fun e => h.ne e.symm⟩
theorem part_uni {sg a b : List Int} {L M : Nat → List Int} (h : Part sg a b L) (hM : Uni sg a b M) (z : List Int) : fillL M (fillL L z) = fillL M z := by
  rw [fill_fill]
  exact fill_ext (fun x _ _ => h.gen M hM _)
theorem Spot.sub {sg a b : List Int} {L M : Nat → List Int} {k : Nat} (s : Spot sg a b L k) (h : Part sg a b L) (hM : Uni sg a b M) : fillL M (subL sg (fillL L a) k) = fillL M (subL sg (fillL L b) k) :=
  uni_sub (h.sub.fill s.ta) (h.sub.fill s.tb) hM.sub (by rw [part_uni h hM, part_uni h hM, hM.eq]) s.pre s.kx s.ky
/-- two symbols -/
theorem Spot.clash {sg a b : List Int} {L : Nat → List Int} {k : Nat} (s : Spot sg a b L k) (h : Part sg a b L) (h1 : 0 ≤ (fillL L a).getD k 0) (h2 : 0 ≤ (fillL L b).getD k 0) : ∀ M, ¬ Uni sg a b M := fun M hM => by
  have e := s.sub h hM
  obtain ⟨r, e1⟩ := sub_head (h.sub.fill s.ta) s.kx
  obtain ⟨r', e2⟩ := sub_head (h.sub.fill s.tb) s.ky
  rw [e1, e2, fill_cons, fill_cons, rep_sym h1, rep_sym h2] at e
  injection e with e _
  exact s.ne e
theorem mem_rep {M : Nat → List Int} {z : List Int} {x : Int} (hp : ∀ i, 1 ≤ (M i).length) (hx : x ∈ z) (h0 : x < 0) (hl : z ≠ [x]) : (M (vr x)).length < (fillL M z).length := by
  obtain ⟨u, v, rfl⟩ := List.append_of_mem hx
  rw [fill_append, fill_cons, rep_vr h0, List.length_append, List.length_append]
  have h1 := fill_ge hp u
  have h2 := fill_ge hp v
  by_cases hu : u.length = 0
  · by_cases hv : v.length = 0
    · rw [List.eq_nil_of_length_eq_zero hu, List.eq_nil_of_length_eq_zero hv] at hl
      exact absurd rfl hl
    · omega
  · omega
/-- a variable in the other term -/
theorem Spot.occurs {sg a b : List Int} {L : Nat → List Int} {k : Nat} (s : Spot sg a b L k) (h : Part sg a b L) (h1 : (fillL L a).getD k 0 < 0) (h2 : (fillL L a).getD k 0 ∈ subL sg (fillL L b) k) : ∀ M, ¬ Uni sg a b M := fun M hM => by
  have e := s.sub h hM
  rw [sub_var (h.sub.fill s.ta) s.kx h1, fill_one, rep_vr h1] at e
  obtain ⟨r, e2⟩ := sub_head (h.sub.fill s.tb) s.ky
  have := mem_rep hM.sub.pos h2 h1 (fun e3 => by rw [e2] at e3; injection e3 with e3 _; exact s.ne e3.symm)
  rw [e] at this
  exact Nat.lt_irrefl _ this
theorem mem_drop {x : Int} {l : List Int} {k : Nat} (h : x ∈ l.drop k) : x ∈ l := List.mem_of_mem_drop h
theorem sub_mem {sg t : List Int} {k : Nat} {x : Int} (h : x ∈ subL sg t k) : x ∈ t := by
  unfold subL at h
  exact mem_drop (List.mem_of_mem_take h)
theorem fill_mem {L : Nat → List Int} : ∀ {t : List Int} {x : Int}, x ∈ fillL L t → x < 0 → ∃ y ∈ t, y < 0 ∧ x ∈ L (vr y)
  | [], x, h, _ => absurd h (List.not_mem_nil)
  | z :: r, x, h, h0 => by
    rw [fill_cons] at h
    rcases List.mem_append.1 h with h | h
    · by_cases hz : 0 ≤ z
      · rw [rep_sym hz, List.mem_singleton] at h; omega
      · rw [rep_vr (by omega)] at h
        exact ⟨z, List.mem_cons_self .., by omega, h⟩
    · obtain ⟨y, h1, h2⟩ := fill_mem h h0
      exact ⟨y, List.mem_cons_of_mem _ h1, h2⟩
/-- what is left in a filled term stays -/
theorem Part.fix {sg a b : List Int} {L : Nat → List Int} (h : Part sg a b L) {t : List Int} {x : Int} (hx : x ∈ fillL L t) (h0 : x < 0) : L (vr x) = [x] := by
  obtain ⟨y, _, _, hy⟩ := fill_mem hx h0
  exact h.ide _ x hy h0
/-- a variable becomes a term in which it isn't; of two variables the larger one -/
theorem Spot.bind {sg a b : List Int} {L : Nat → List Int} {k : Nat} (s : Spot sg a b L k) (h : Part sg a b L) (h1 : (fillL L a).getD k 0 < 0) (h2 : (fillL L a).getD k 0 ∉ subL sg (fillL L b) k) (h3 : 0 ≤ (fillL L b).getD k 0 ∨ (fillL L a).getD k 0 < (fillL L b).getD k 0) :
    Part sg a b (fun m => fillL (ones (vr ((fillL L a).getD k 0)) (subL sg (fillL L b) k)) (L m)) := by
  obtain ⟨p, hp⟩ : ∃ p, (fillL L a).getD k 0 = p := ⟨_, rfl⟩
  obtain ⟨t, ht⟩ : ∃ t, subL sg (fillL L b) k = t := ⟨_, rfl⟩
  have hpm : p ∈ fillL L a := by rw [← hp]; have := s.kx; simp [List.getD, this]
  have hp24 := (h.sub.fill s.ta).mem hpm
  have htt : Trm sg t := by rw [← ht]; exact (sub_trm (h.sub.fill s.tb) s.ky).1
  have hpx : L (vr p) = [p] := h.fix hpm (by omega)
  rw [hp] at h1 h2 h3 ⊢
  rw [ht] at h2 ⊢
  have hi : vr p < 24 := by unfold vr; omega
  have hone := one_sub htt hi
  have tfix : ∀ x ∈ t, x < 0 → L (vr x) = [x] := fun x hx h0 => h.fix (t := b) (by rw [← ht] at hx; exact sub_mem hx) h0
  have hhead := sub_head (h.sub.fill s.tb) s.ky
  rw [ht] at hhead
  refine ⟨h.sub.comp hone, fun M hM i => ?_, fun i x hx h0 => ?_, fun i j hj => ?_⟩
  · show fillL M (fillL _ (L i)) = M i
    rw [one_uni ?_, h.gen M hM]
    have e := s.sub h hM
    rw [sub_var (h.sub.fill s.ta) s.kx (by rw [hp]; exact h1), hp, ht, fill_one, rep_vr h1] at e
    exact e
  · show fillL (ones (vr p) t) (L (vr x)) = [x]
    change x ∈ fillL (ones (vr p) t) (L i) at hx
    obtain ⟨y, g1, g2, g3⟩ := fill_mem hx h0
    have hxp : vr x ≠ vr p ∧ L (vr x) = [x] := by
      unfold ones at g3
      split at g3
      · refine ⟨fun e => h2 ?_, tfix x g3 h0⟩
        have : x = p := by unfold vr at e; omega
        rw [← this]; exact g3
      · rename_i hne
        rw [vt_vr g2, List.mem_singleton] at g3
        rw [g3]
        exact ⟨hne, h.ide i y g1 g2⟩
    rw [hxp.2, fill_one, rep_vr h0]
    unfold ones
    rw [if_neg hxp.1, vt_vr h0]
  · change fillL (ones (vr p) t) (L i) = vt j at hj
    have hl1 := fill_ge hone.pos (L i)
    have hl2 := h.sub.pos i
    rw [hj] at hl1
    obtain ⟨z, hz⟩ : ∃ z, L i = [z] := List.length_eq_one_iff.1 (by simp [vt] at hl1; omega)
    rw [hz, fill_one] at hj
    by_cases hz0 : 0 ≤ z
    · rw [rep_sym hz0] at hj
      unfold vt at hj
      injection hj with hj
      omega
    · rw [rep_vr (by omega)] at hj
      have o := h.ord i (vr z) (by rw [hz, vt_vr (by omega)])
      unfold ones at hj
      split at hj
      · rename_i e
        obtain ⟨r, hr⟩ := hhead
        rw [hr] at hj
        unfold vt at hj
        injection hj with hj _
        rcases h3 with h3 | h3
        · omega
        · unfold vr at e o; omega
      · rw [vt_inj hj] at o; exact o
/-- at the end -/
theorem Part.done {sg a b : List Int} {L : Nat → List Int} (h : Part sg a b L) (he : fillL L a = fillL L b) : Mg sg a b L := ⟨h, he⟩

/-! ### lengths -/
/-- a unifier of which nothing is too long -/
structure Short (sg a b : List Int) (M : Nat → List Int) : Prop extends Uni sg a b M where
  each : ∀ i, (M i).length ≤ 60
  all : (fillL M a).length ≤ 60
theorem Short.symm {sg a b : List Int} {M : Nat → List Int} (h : Short sg a b M) : Short sg b a M := ⟨h.toUni.symm, h.each, by rw [← h.eq]; exact h.all⟩
theorem Part.each {sg a b : List Int} {L M : Nat → List Int} (h : Part sg a b L) (hM : Short sg a b M) (i : Nat) : (L i).length ≤ 60 := by
  have h1 := fill_ge hM.sub.pos (L i)
  rw [h.gen M hM.toUni] at h1
  exact Nat.le_trans h1 (hM.each i)
theorem Part.len {sg a b : List Int} {L M : Nat → List Int} (h : Part sg a b L) (hM : Short sg a b M) : (fillL L a).length ≤ 60 ∧ (fillL L b).length ≤ 60 := by
  have h1 := fill_ge hM.sub.pos (fillL L a)
  have h2 := fill_ge hM.sub.pos (fillL L b)
  rw [part_uni h hM.toUni] at h1 h2
  rw [← hM.eq] at h2
  exact ⟨Nat.le_trans h1 hM.all, Nat.le_trans h2 hM.all⟩

/-! ### how many variables are free -/
def free (L : Nat → List Int) : Nat := (List.range 24).countP fun i => decide (L i = vt i)
theorem free_le (L : Nat → List Int) : free L ≤ 24 := by
  unfold free
  exact Nat.le_trans List.countP_le_length (by simp)
theorem free_bind {sg a b : List Int} {L : Nat → List Int} {k : Nat} (s : Spot sg a b L k) (h : Part sg a b L) (h1 : (fillL L a).getD k 0 < 0) (h2 : (fillL L a).getD k 0 ∉ subL sg (fillL L b) k) :
    free (fun m => fillL (ones (vr ((fillL L a).getD k 0)) (subL sg (fillL L b) k)) (L m)) < free L := by
  obtain ⟨p, hp⟩ : ∃ p, (fillL L a).getD k 0 = p := ⟨_, rfl⟩
  obtain ⟨t, ht⟩ : ∃ t, subL sg (fillL L b) k = t := ⟨_, rfl⟩
  have hpm : p ∈ fillL L a := by rw [← hp]; have := s.kx; simp [List.getD, this]
  have hp24 := (h.sub.fill s.ta).mem hpm
  rw [hp] at h1 h2 ⊢
  rw [ht] at h2 ⊢
  have hpx : L (vr p) = [p] := h.fix hpm h1
  have htt : Trm sg t := by rw [← ht]; exact (sub_trm (h.sub.fill s.tb) s.ky).1
  have hone := one_sub (i := vr p) htt (by unfold vr; omega)
  have tfix : ∀ x ∈ t, x < 0 → L (vr x) = [x] := fun x hx h0 => h.fix (t := b) (by rw [← ht] at hx; exact sub_mem hx) h0
  unfold free
  refine count_less (y := vr p) (fun i hi hf => ?_) (List.mem_range.2 (by unfold vr; omega)) ?_ ?_
  · rw [decide_eq_true_eq] at hf ⊢
    change fillL (ones (vr p) t) (L i) = vt i at hf
    have hl1 := fill_ge hone.pos (L i)
    have hl2 := h.sub.pos i
    rw [hf] at hl1
    obtain ⟨z, hz⟩ : ∃ z, L i = [z] := List.length_eq_one_iff.1 (by simp [vt] at hl1; omega)
    rw [hz, fill_one] at hf
    by_cases hz0 : 0 ≤ z
    · rw [rep_sym hz0] at hf
      unfold vt at hf
      injection hf with hf
      omega
    · rw [rep_vr (by omega)] at hf
      unfold ones at hf
      split at hf
      · rename_i e
        have hm : (-1 - (i : Int)) ∈ t := by rw [hf]; simp [vt]
        have := tfix _ hm (by omega)
        rw [vr_vt] at this
        exact this
      · rw [hz, ← vt_vr (by omega : z < 0)]
        exact hf
  · rw [decide_eq_false_iff_not]
    intro e
    change fillL (ones (vr p) t) (L (vr p)) = vt (vr p) at e
    rw [hpx, fill_one, rep_vr h1, vt_vr h1] at e
    unfold ones at e
    rw [if_pos rfl] at e
    exact h2 (by rw [e]; exact List.mem_singleton.2 rfl)
  · rw [decide_eq_true_eq, hpx, vt_vr h1]

/-! ### what is told -/
/-- from what is known on the way a most general one is reached, if there is a short one -/
theorem reach {sg a b : List Int} {M : Nat → List Int} (ta : Trm sg a) (tb : Trm sg b) (hM : Short sg a b M) : ∀ (n : Nat) (L : Nat → List Int), free L ≤ n → Part sg a b L → ∃ L', Mg sg a b L' := by
  have spot : ∀ {L : Nat → List Int}, Part sg a b L → fillL L a ≠ fillL L b → ∃ k, Spot sg a b L k := by
    intro L h hne
    have tx := h.sub.fill ta
    have ty := h.sub.fill tb
    have key : ∀ n k, (fillL L a).length - k ≤ n → k ≤ (fillL L a).length → k ≤ (fillL L b).length → (fillL L a).take k = (fillL L b).take k → ∃ k, Spot sg a b L k := by
      intro n
      induction n with
      | zero =>
        intro k hn h1 h2 e
        exact absurd (differ tx ty e h1 h2 (.inl (by omega))) hne
      | succ n ih =>
        intro k hn h1 h2 e
        by_cases hx : k = (fillL L a).length
        · exact absurd (differ tx ty e h1 h2 (.inl hx)) hne
        · by_cases hy : k = (fillL L b).length
          · exact absurd (differ tx ty e h1 h2 (.inr hy)) hne
          · have kx : k < (fillL L a).length := by omega
            have ky : k < (fillL L b).length := by omega
            by_cases hg : (fillL L a).getD k 0 = (fillL L b).getD k 0
            · refine ih (k + 1) (by omega) kx ky ?_
              rw [List.take_succ_eq_append_getElem kx, List.take_succ_eq_append_getElem ky, e]
              simp [List.getD, kx, ky] at hg
              rw [hg]
            · exact ⟨k, ta, tb, e, kx, ky, hg⟩
    exact key _ 0 (Nat.le_refl _) (Nat.zero_le _) (Nat.zero_le _) rfl
  intro n
  induction n with
  | zero =>
    intro L hn h
    by_cases he : fillL L a = fillL L b
    · exact ⟨L, h.done he⟩
    · obtain ⟨k, s⟩ := spot h he
      by_cases h1 : (fillL L a).getD k 0 < 0
      · by_cases h2 : (fillL L a).getD k 0 ∈ subL sg (fillL L b) k
        · exact absurd hM.toUni (s.occurs h h1 h2 M)
        · have := free_bind s h h1 h2; omega
      · by_cases h1' : (fillL L b).getD k 0 < 0
        · by_cases h2 : (fillL L b).getD k 0 ∈ subL sg (fillL L a) k
          · exact absurd hM.toUni.symm (s.symm.occurs h.symm h1' h2 M)
          · have := free_bind s.symm h.symm h1' h2; omega
        · exact absurd hM.toUni (s.clash h (by omega) (by omega) M)
  | succ n ih =>
    intro L hn h
    by_cases he : fillL L a = fillL L b
    · exact ⟨L, h.done he⟩
    · obtain ⟨k, s⟩ := spot h he
      by_cases h3 : (fillL L a).getD k 0 < 0 ∧ (0 ≤ (fillL L b).getD k 0 ∨ (fillL L a).getD k 0 < (fillL L b).getD k 0)
      · by_cases h2 : (fillL L a).getD k 0 ∈ subL sg (fillL L b) k
        · exact absurd hM.toUni (s.occurs h h3.1 h2 M)
        · exact ih _ (by have := free_bind s h h3.1 h2; omega) (s.bind h h3.1 h2 h3.2)
      · by_cases h1' : (fillL L b).getD k 0 < 0
        · by_cases h2 : (fillL L b).getD k 0 ∈ subL sg (fillL L a) k
          · exact absurd hM.toUni.symm (s.symm.occurs h.symm h1' h2 M)
          · obtain ⟨L', hL'⟩ := ih _ (by have := free_bind s.symm h.symm h1' h2; omega) (s.symm.bind h.symm h1' h2 (by have := s.ne; omega)).symm
            exact ⟨L', hL'⟩
        · exact absurd hM.toUni (s.clash h (by omega) (by omega) M)
/-- what is told of two lists: whether there is a short unifier, and the plain form of the most general one -/
def IsU (sg a b : List Int) (v : Bool) (F : List (List Int)) : Prop :=
  (v = true ∧ termOkB sg a = true ∧ termOkB sg b = true ∧ ∃ L, Mg sg a b L ∧ Short sg a b L ∧ F = plainL L 24) ∨ (v = false ∧ F = [] ∧ (termOkB sg a = false ∨ termOkB sg b = false ∨ ∀ M, ¬ Short sg a b M))
theorem isU_ex (sg a b : List Int) : ∃ v F, IsU sg a b v F := by
  cases h1 : termOkB sg a with
  | false => exact ⟨false, [], .inr ⟨rfl, rfl, .inl h1⟩⟩
  | true =>
    cases h2 : termOkB sg b with
    | false => exact ⟨false, [], .inr ⟨rfl, rfl, .inr (.inl h2)⟩⟩
    | true =>
      by_cases h : ∃ M, Short sg a b M
      · obtain ⟨M, hM⟩ := h
        obtain ⟨L, hL⟩ := reach (term_parts h1).2.2 (term_parts h2).2.2 hM _ vt (free_le _) (Part.start sg a b)
        exact ⟨true, _, .inl ⟨rfl, h1, h2, L, hL, ⟨hL.uni, hL.toPart.each hM, (hL.toPart.len hM).1⟩, rfl⟩⟩
      · exact ⟨false, [], .inr ⟨rfl, rfl, .inr (.inr (fun M hM => h ⟨M, hM⟩))⟩⟩
theorem isU_one {sg a b : List Int} {v v' : Bool} {F F' : List (List Int)} (h : IsU sg a b v F) (h' : IsU sg a b v' F') : v = v' ∧ F = F' := by
  rcases h with ⟨rfl, a1, a2, L, m, s, rfl⟩ | ⟨rfl, rfl, h⟩
  · rcases h' with ⟨rfl, _, _, L', m', _, rfl⟩ | ⟨rfl, rfl, h'⟩
    · exact ⟨rfl, plain_ext (fun i _ => mg_uniq m m' i)⟩
    · rcases h' with h' | h' | h'
      · rw [a1] at h'; cases h'
      · rw [a2] at h'; cases h'
      · exact absurd s (h' L)
  · rcases h' with ⟨rfl, a1, a2, L, m, s, rfl⟩ | ⟨rfl, rfl, _⟩
    · rcases h with h | h | h
      · rw [a1] at h; cases h
      · rw [a2] at h; cases h
      · exact absurd s (h L)
    · exact ⟨rfl, rfl⟩
/-- told true: by any most general one of which nothing is too long -/
theorem isU_mg {sg a b : List Int} {L : Nat → List Int} (h1 : termOkB sg a = true) (h2 : termOkB sg b = true) (h : Mg sg a b L) (he : ∀ i, (L i).length ≤ 60) (ha : (fillL L a).length ≤ 60) : IsU sg a b true (plainL L 24) :=
  .inl ⟨rfl, h1, h2, L, h, ⟨h.uni, he, ha⟩, rfl⟩
theorem isU_no {sg a b : List Int} (h : ∀ M, ¬ Short sg a b M) : IsU sg a b false [] := .inr ⟨rfl, rfl, .inr (.inr h)⟩
theorem isU_off {sg a b : List Int} (h : termOkB sg a = false ∨ termOkB sg b = false) : IsU sg a b false [] := .inr ⟨rfl, rfl, by rcases h with h | h; exact .inl h; exact .inr (.inl h)⟩
end Go.Proofs.Ytkmhnkljigncmaa.unifMath
end

section
/-
  PLAIN MATHEMATICS of generalisation (chapter 5): two sequences of terms read in step, the pairs that are met kept in a table ('Gs'); what comes of it is unique ('gs_one'), is there ('gs_ex'), turns into both ('gs_fill'), and every other common pattern turns into it ('gt_least'). Conditions: none. By an AI agent.
-/
namespace Go.Proofs.Ytkmhnkljigncmaa.genMath
open Go.Proofs.Ytkmhnkljigncmaa.sig Go.Proofs.Ytkmhnkljigncmaa.term Go.Proofs.Ytkmhnkljigncmaa.termOk Go.Proofs.Ytkmhnkljigncmaa.termFacts Go.Proofs.Ytkmhnkljigncmaa.endAt Go.Proofs.Ytkmhnkljigncmaa.sub Go.Proofs.Ytkmhnkljigncmaa.termMath Go.Proofs.Ytkmhnkljigncmaa.fillMath Go.Proofs.Ytkmhnkljigncmaa.posMath Go.Proofs.Ytkmhnkljigncmaa.renMath Go.Proofs.Ytkmhnkljigncmaa.matchMath Go.Proofs.Ytkmhnkljigncmaa.unifMath

/-- the pairs that were met -/
abbrev Tb := List (List Int × List Int)
/-- they don't begin with the same symbol -/
def Apt (s t : List Int) : Prop := ¬ (0 ≤ s.getD 0 0 ∧ s.getD 0 0 = t.getD 0 0)
/-- n terms of each side, the table before, what comes of it, the table behind -/
inductive Gs (sg : List Int) : Tb → Nat → List Int → List Int → List Int → Tb → Prop
  | nil (T : Tb) : Gs sg T 0 [] [] [] T
  | sym {T T' : Tb} {n : Nat} {u w g : List Int} {x : Int} : 0 ≤ x → ¬ ar sg x < 0 → Gs sg T (n + (ar sg x).toNat) u w g T' → Gs sg T (n + 1) (x :: u) (x :: w) (x :: g) T'
  | old {T T' : Tb} {n i : Nat} {s t u w g : List Int} : Trm sg s → Trm sg t → Apt s t → T[i]? = some (s, t) → Gs sg T n u w g T' → Gs sg T (n + 1) (s ++ u) (t ++ w) ((-1 - (i : Int)) :: g) T'
  | new {T T' : Tb} {n : Nat} {s t u w g : List Int} : Trm sg s → Trm sg t → Apt s t → (s, t) ∉ T → Gs sg (T ++ [(s, t)]) n u w g T' → Gs sg T (n + 1) (s ++ u) (t ++ w) ((-1 - (T.length : Int)) :: g) T'
section
variable {sg : List Int} {T T' : Tb} {n : Nat} {u w g : List Int}
theorem gs_ext (h : Gs sg T n u w g T') : ∃ E, T' = T ++ E := by
  induction h with
  | nil T => exact ⟨[], by simp⟩
  | sym _ _ _ ih => exact ih
  | old _ _ _ _ _ ih => exact ih
  | new _ _ _ _ _ ih => obtain ⟨E, e⟩ := ih; exact ⟨_, by rw [e, List.append_assoc]⟩
theorem gs_nodup (h : Gs sg T n u w g T') (hT : T.Nodup) : T'.Nodup := by
  induction h with
  | nil T => exact hT
  | sym _ _ _ ih => exact ih hT
  | old _ _ _ _ _ ih => exact ih hT
  | new _ _ _ hn _ ih =>
    refine ih ?_
    rw [List.nodup_append]
    refine ⟨hT, by simp, fun x hx y hy e => ?_⟩
    rw [List.mem_singleton] at hy
    subst e
    subst hy
    exact hn hx
theorem trm_cat {s u : List Int} (hs : Trm sg s) (hu : scan sg n u = some u.length) : scan sg (n + 1) (s ++ u) = some (s ++ u).length := by
  have := scan_cat hs hu
  rw [List.length_append, ← this, Nat.add_comm]
theorem gs_scan (h : Gs sg T n u w g T') : scan sg n u = some u.length ∧ scan sg n w = some w.length := by
  induction h with
  | nil T => exact ⟨rfl, rfl⟩
  | sym h0 ha _ ih => exact ⟨by rw [scan_step ha, ih.1]; rfl, by rw [scan_step ha, ih.2]; rfl⟩
  | old h1 h2 _ _ _ ih => exact ⟨trm_cat h1 ih.1, trm_cat h2 ih.2⟩
  | new h1 h2 _ _ _ ih => exact ⟨trm_cat h1 ih.1, trm_cat h2 ih.2⟩
end
/-- one behind the other -/
theorem gs_comp {sg : List Int} {T T1 T2 : Tb} {p q : Nat} {u w g U W G : List Int} (h : Gs sg T p u w g T1) : Gs sg T1 q U W G T2 → Gs sg T (p + q) (u ++ U) (w ++ W) (g ++ G) T2 := by
  induction h with
  | nil T => intro k; simpa using k
  | @sym T T' n u w g x h0 ha _ ih =>
    intro k
    have := ih k
    rw [show n + 1 + q = (n + q) + 1 by omega]
    exact .sym h0 ha (by rw [show n + q + (ar sg x).toNat = n + (ar sg x).toNat + q by omega]; exact this)
  | @old T T' n i s t u w g h1 h2 h3 h4 _ ih =>
    intro k
    rw [show n + 1 + q = (n + q) + 1 by omega, List.append_assoc, List.append_assoc]
    exact .old h1 h2 h3 h4 (ih k)
  | @new T T' n s t u w g h1 h2 h3 h4 _ ih =>
    intro k
    rw [show n + 1 + q = (n + q) + 1 by omega, List.append_assoc, List.append_assoc]
    exact .new h1 h2 h3 h4 (ih k)
/-- a term at the front is found -/
theorem trm_front {sg s s' u u' : List Int} (h : Trm sg s) (h' : Trm sg s') (e : s ++ u = s' ++ u') : s = s' ∧ u = u' := by
  have h1 := scan_append (r := u) h
  have h2 := scan_append (r := u') h'
  rw [e, h2] at h1
  injection h1 with h1
  have h3 := congrArg (List.take s.length) e
  rw [List.take_left' rfl, List.take_left' h1] at h3
  refine ⟨h3, ?_⟩
  rw [h3] at e
  exact List.append_cancel_left e
theorem trm_cons {sg s : List Int} (h : Trm sg s) : ∃ x r, s = x :: r ∧ s.getD 0 0 = x := by
  have := h.pos
  match s, this with
  | x :: r, _ => exact ⟨x, r, rfl, rfl⟩
theorem apt_head {sg s t u w u' w' : List Int} {x : Int} (hs : Trm sg s) (ht : Trm sg t) (h : Apt s t) (h0 : 0 ≤ x) (e1 : s ++ u = x :: u') (e2 : t ++ w = x :: w') : False := by
  obtain ⟨y, r, rfl, hy⟩ := trm_cons hs
  obtain ⟨z, r', rfl, hz⟩ := trm_cons ht
  injection e1 with e1 _
  injection e2 with e2 _
  exact h ⟨by rw [hy, e1]; exact h0, by rw [hy, hz, e1, e2]⟩
theorem nodup_ix {T : Tb} {i j : Nat} {a : List Int × List Int} (h : T.Nodup) (hi : T[i]? = some a) (hj : T[j]? = some a) : i = j := by
  exact (List.getElem?_inj (List.getElem?_eq_some_iff.1 hi).1 h).1 (hi.trans hj.symm)
theorem mem_ix {T : Tb} {i : Nat} {a : List Int × List Int} (h : T[i]? = some a) : a ∈ T := List.mem_of_getElem? h
/-- only one comes of it -/
theorem gs_one {sg : List Int} {T T' : Tb} {n : Nat} {u w g : List Int} (h : Gs sg T n u w g T') : T.Nodup → ∀ {g2 : List Int} {T2 : Tb}, Gs sg T n u w g2 T2 → g = g2 ∧ T' = T2 := by
  induction h with
  | nil T =>
    intro hT g2 T2 k
    cases k with
    | nil => exact ⟨rfl, rfl⟩
  | @sym T T' n u w g x h0 ha h1 ih =>
    intro hT g2 T2 k
    generalize eu : x :: u = U at k
    generalize ew : x :: w = W at k
    generalize en : n + 1 = m at k
    cases k with
    | nil => cases eu
    | sym k0 ka k1 =>
      injection eu with e1 e2
      injection ew with _ e3
      subst e1; subst e2; subst e3
      obtain rfl := Nat.succ.inj en
      obtain ⟨a, b⟩ := ih hT k1
      exact ⟨by rw [a], b⟩
    | old k1 k2 k3 _ _ => exact (apt_head k1 k2 k3 h0 eu.symm ew.symm).elim
    | new k1 k2 k3 _ _ => exact (apt_head k1 k2 k3 h0 eu.symm ew.symm).elim
  | @old T T' n i s t u w g h1 h2 h3 h4 h5 ih =>
    intro hT g2 T2 k
    generalize eu : s ++ u = U at k
    generalize ew : t ++ w = W at k
    generalize en : n + 1 = m at k
    cases k with
    | nil => cases en
    | sym k0 ka k1 => exact (apt_head h1 h2 h3 k0 eu ew).elim
    | @old _ _ n' i' s' t' u' w' g' k1 k2 k3 k4 k5 =>
      obtain ⟨rfl, rfl⟩ := trm_front h1 k1 eu
      obtain ⟨rfl, rfl⟩ := trm_front h2 k2 ew
      obtain rfl := Nat.succ.inj en
      obtain rfl := nodup_ix hT h4 k4
      obtain ⟨a, b⟩ := ih hT k5
      exact ⟨by rw [a], b⟩
    | new k1 k2 k3 k4 k5 =>
      obtain ⟨rfl, rfl⟩ := trm_front h1 k1 eu
      obtain ⟨rfl, rfl⟩ := trm_front h2 k2 ew
      exact absurd (mem_ix h4) k4
  | @new T T' n s t u w g h1 h2 h3 h4 h5 ih =>
    intro hT g2 T2 k
    have hN : (T ++ [(s, t)]).Nodup := by
      rw [List.nodup_append]
      refine ⟨hT, by simp, fun x hx y hy e => ?_⟩
      rw [List.mem_singleton] at hy
      subst e
      subst hy
      exact h4 hx
    generalize eu : s ++ u = U at k
    generalize ew : t ++ w = W at k
    generalize en : n + 1 = m at k
    cases k with
    | nil => cases en
    | sym k0 ka k1 => exact (apt_head h1 h2 h3 k0 eu ew).elim
    | old k1 k2 k3 k4 k5 =>
      obtain ⟨rfl, rfl⟩ := trm_front h1 k1 eu
      obtain ⟨rfl, rfl⟩ := trm_front h2 k2 ew
      exact absurd (mem_ix k4) h4
    | new k1 k2 k3 k4 k5 =>
      obtain ⟨rfl, rfl⟩ := trm_front h1 k1 eu
      obtain ⟨rfl, rfl⟩ := trm_front h2 k2 ew
      obtain rfl := Nat.succ.inj en
      obtain ⟨a, b⟩ := ih hN k5
      exact ⟨by rw [a], b⟩
/-- a sequence of terms: the first one and the others -/
theorem seq_front {sg u : List Int} {n : Nat} (h : scan sg (n + 1) u = some u.length) : ∃ s r, u = s ++ r ∧ Trm sg s ∧ scan sg n r = some r.length := by
  obtain ⟨j, h1, h2, h3, h4⟩ := scan_first (a := 0) (by rw [List.drop_zero]; exact h)
  rw [List.drop_zero] at h1
  rw [Nat.zero_add] at h4
  refine ⟨u.take j, u.drop j, (List.take_append_drop j u).symm, ?_, by rw [h4, List.length_drop]⟩
  unfold Trm
  rw [scan_take h1, List.length_take]
  congr 1
  omega
/-- and it is there -/
theorem gs_ex {sg : List Int} : ∀ (m : Nat) {T : Tb} {n : Nat} {u w : List Int}, u.length ≤ m → scan sg n u = some u.length → scan sg n w = some w.length → ∃ g T', Gs sg T n u w g T'
  | m, T, 0, u, w, _, hu, hw => by
    rw [scan_zero] at hu hw
    injection hu with hu
    injection hw with hw
    obtain rfl := List.eq_nil_of_length_eq_zero hu.symm
    obtain rfl := List.eq_nil_of_length_eq_zero hw.symm
    exact ⟨[], T, .nil T⟩
  | 0, T, n + 1, u, w, hm, hu, _ => by
    obtain rfl := List.eq_nil_of_length_eq_zero (Nat.le_zero.1 hm)
    rw [scan_nil] at hu; cases hu
  | m + 1, T, n + 1, u, w, hm, hu, hw => by
    obtain ⟨s, r, e1, hs, hr⟩ := seq_front hu
    obtain ⟨t, q, e2, ht, hq⟩ := seq_front hw
    have hsp := hs.pos
    by_cases ha : Apt s t
    · by_cases hx : (s, t) ∈ T
      · obtain ⟨i, hi⟩ := List.mem_iff_getElem?.1 hx
        obtain ⟨g, T', h⟩ := gs_ex (sg := sg) m (T := T) (n := n) (u := r) (w := q) (by rw [e1, List.length_append] at hm; omega) hr hq
        exact ⟨_, _, by rw [e1, e2]; exact .old hs ht ha hi h⟩
      · obtain ⟨g, T', h⟩ := gs_ex (sg := sg) m (T := T ++ [(s, t)]) (n := n) (u := r) (w := q) (by rw [e1, List.length_append] at hm; omega) hr hq
        exact ⟨_, _, by rw [e1, e2]; exact .new hs ht ha hx h⟩
    · unfold Apt at ha
      rw [Classical.not_not] at ha
      obtain ⟨x, s', rfl, hx⟩ := trm_cons hs
      obtain ⟨y, t', rfl, hy⟩ := trm_cons ht
      rw [hx, hy] at ha
      obtain ⟨h0, rfl⟩ := ha
      rw [e1] at hu
      rw [e2] at hw
      rw [List.cons_append] at hu hw
      have har : ¬ ar sg x < 0 := by
        intro hn
        rw [scan_bad hn] at hu; cases hu
      rw [scan_step har, Option.map_eq_some_iff] at hu hw
      obtain ⟨a, a1, a2⟩ := hu
      obtain ⟨b, b1, b2⟩ := hw
      obtain ⟨g, T', h⟩ := gs_ex (sg := sg) m (T := T) (n := n + (ar sg x).toNat) (u := s' ++ r) (w := t' ++ q) (by rw [e1] at hm; simp at hm ⊢; omega) (by rw [a1]; congr 1; simp at a2 ⊢; omega) (by rw [b1]; congr 1; simp at b2 ⊢; omega)
      exact ⟨_, _, by rw [e1, e2]; exact .sym h0 har h⟩
/-- read the other way round -/
theorem gs_swap {sg : List Int} {T T' : Tb} {n : Nat} {u w g : List Int} (h : Gs sg T n u w g T') : Gs sg (T.map Prod.swap) n w u g (T'.map Prod.swap) := by
  have apt : ∀ {s t : List Int}, Apt s t → Apt t s := fun h ⟨a, b⟩ => h ⟨by rw [← b]; exact a, b.symm⟩
  induction h with
  | nil T => exact .nil _
  | sym h0 ha _ ih => exact .sym h0 ha ih
  | old h1 h2 h3 h4 _ ih => exact .old h2 h1 (apt h3) (by rw [List.getElem?_map, h4]; rfl) ih
  | @new T T' n s t u w g h1 h2 h3 h4 _ ih =>
    have := Gs.new (sg := sg) (T := T.map Prod.swap) h2 h1 (apt h3) (fun hm => h4 (by
      rw [List.mem_map] at hm
      obtain ⟨⟨a, b⟩, m1, m2⟩ := hm
      injection m2 with m2 m3
      rw [← m2, ← m3]
      exact m1)) (by rw [List.map_append] at ih; exact ih)
    rw [List.length_map] at this
    exact this

/-! ### with a table that stays -/
inductive Gt (sg : List Int) (T : Tb) : Nat → List Int → List Int → List Int → Prop
  | nil : Gt sg T 0 [] [] []
  | sym {n : Nat} {u w g : List Int} {x : Int} : 0 ≤ x → ¬ ar sg x < 0 → Gt sg T (n + (ar sg x).toNat) u w g → Gt sg T (n + 1) (x :: u) (x :: w) (x :: g)
  | old {n i : Nat} {s t u w g : List Int} : Trm sg s → Trm sg t → Apt s t → T[i]? = some (s, t) → Gt sg T n u w g → Gt sg T (n + 1) (s ++ u) (t ++ w) ((-1 - (i : Int)) :: g)
theorem gs_gt {sg : List Int} {T T' : Tb} {n : Nat} {u w g : List Int} (h : Gs sg T n u w g T') : ∀ E, Gt sg (T' ++ E) n u w g := by
  induction h with
  | nil T => intro E; exact .nil
  | sym h0 ha _ ih => intro E; exact .sym h0 ha (ih E)
  | old h1 h2 h3 h4 k ih =>
    intro E
    obtain ⟨F, e⟩ := gs_ext k
    refine .old h1 h2 h3 ?_ (ih E)
    rw [e, List.append_assoc, List.getElem?_append_left (List.getElem?_eq_some_iff.1 h4).1]
    exact h4
  | new h1 h2 h3 h4 k ih =>
    intro E
    obtain ⟨F, e⟩ := gs_ext k
    refine .old h1 h2 h3 ?_ (ih E)
    rw [e, List.append_assoc, List.append_assoc]
    simp
/-- what stands on either side of a variable -/
def f1 (T : Tb) (i : Nat) : List Int := (T.getD i ([], [])).1
def f2 (T : Tb) (i : Nat) : List Int := (T.getD i ([], [])).2
theorem gt_fill {sg : List Int} {T : Tb} {n : Nat} {u w g : List Int} (h : Gt sg T n u w g) : fillL (f1 T) g = u ∧ fillL (f2 T) g = w ∧ ∀ x ∈ g, x < 0 → vr x < T.length ∧ Trm sg (f1 T (vr x)) ∧ Trm sg (f2 T (vr x)) := by
  induction h with
  | nil => exact ⟨rfl, rfl, fun x hx => absurd hx (List.not_mem_nil)⟩
  | @sym n u w g x h0 ha _ ih =>
    refine ⟨by rw [fill_cons, rep_sym h0, ih.1]; rfl, by rw [fill_cons, rep_sym h0, ih.2.1]; rfl, fun y hy hy0 => ?_⟩
    rcases List.mem_cons.1 hy with rfl | hy
    · omega
    · exact ih.2.2 y hy hy0
  | @old n i s t u w g h1 h2 h3 h4 _ ih =>
    have e1 : f1 T i = s := by unfold f1; rw [List.getD_eq_getElem?_getD, h4]; rfl
    have e2 : f2 T i = t := by unfold f2; rw [List.getD_eq_getElem?_getD, h4]; rfl
    refine ⟨by rw [fill_cons, rep_vr (by omega), vr_vt, e1, ih.1], by rw [fill_cons, rep_vr (by omega), vr_vt, e2, ih.2.1], fun y hy hy0 => ?_⟩
    rcases List.mem_cons.1 hy with rfl | hy
    · rw [vr_vt, e1, e2]
      exact ⟨(List.getElem?_eq_some_iff.1 h4).1, h1, h2⟩
    · exact ih.2.2 y hy hy0
theorem gt_scan {sg : List Int} {T : Tb} {n : Nat} {u w g : List Int} (hT : T.length ≤ 24) (h : Gt sg T n u w g) : scan sg n g = some g.length := by
  induction h with
  | nil => rfl
  | sym h0 ha _ ih => rw [scan_step ha, ih]; rfl
  | @old n i s t u w g h1 h2 h3 h4 _ ih =>
    have hi := (List.getElem?_eq_some_iff.1 h4).1
    have e : ar sg (-1 - (i : Int)) = 0 := ar_var (by omega)
    rw [scan_step (by rw [e]; omega), e]
    show (scan sg (n + 0) g).map (· + 1) = _
    rw [Nat.add_zero, ih]; rfl
theorem gt_one {sg : List Int} {T : Tb} (hT : T.Nodup) {n : Nat} {u w g : List Int} (h : Gt sg T n u w g) : ∀ {g2 : List Int}, Gt sg T n u w g2 → g = g2 := by
  induction h with
  | nil =>
    intro g2 k
    cases k with
    | nil => rfl
  | @sym n u w g x h0 ha h1 ih =>
    intro g2 k
    generalize eu : x :: u = U at k
    generalize ew : x :: w = W at k
    generalize en : n + 1 = m at k
    cases k with
    | nil => cases eu
    | sym k0 ka k1 =>
      injection eu with e1 e2
      injection ew with _ e3
      subst e1; subst e2; subst e3
      obtain rfl := Nat.succ.inj en
      rw [ih k1]
    | old k1 k2 k3 _ _ => exact (apt_head k1 k2 k3 h0 eu.symm ew.symm).elim
  | @old n i s t u w g h1 h2 h3 h4 h5 ih =>
    intro g2 k
    generalize eu : s ++ u = U at k
    generalize ew : t ++ w = W at k
    generalize en : n + 1 = m at k
    cases k with
    | nil => cases en
    | sym k0 ka k1 => exact (apt_head h1 h2 h3 k0 eu ew).elim
    | old k1 k2 k3 k4 k5 =>
      obtain ⟨rfl, rfl⟩ := trm_front h1 k1 eu
      obtain ⟨rfl, rfl⟩ := trm_front h2 k2 ew
      obtain rfl := Nat.succ.inj en
      obtain rfl := nodup_ix hT h4 k4
      rw [ih k5]
/-- the first so many terms, and the others -/
theorem gt_split {sg : List Int} {T : Tb} {m : Nat} {X Y g : List Int} (h : Gt sg T m X Y g) : ∀ {p q : Nat} {u w U W : List Int}, m = p + q → X = u ++ U → Y = w ++ W → scan sg p u = some u.length → scan sg p w = some w.length → ∃ g1 g2, g = g1 ++ g2 ∧ Gt sg T p u w g1 ∧ Gt sg T q U W g2 := by
  have zero : ∀ {m : Nat} {X Y g : List Int}, Gt sg T m X Y g → ∀ {q : Nat} {u w U W : List Int}, m = 0 + q → X = u ++ U → Y = w ++ W → scan sg 0 u = some u.length → scan sg 0 w = some w.length → ∃ g1 g2, g = g1 ++ g2 ∧ Gt sg T 0 u w g1 ∧ Gt sg T q U W g2 := by
    intro m X Y g h q u w U W e eX eY hu hw
    rw [scan_zero] at hu hw
    injection hu with hu
    injection hw with hw
    obtain rfl := List.eq_nil_of_length_eq_zero hu.symm
    obtain rfl := List.eq_nil_of_length_eq_zero hw.symm
    rw [Nat.zero_add] at e
    subst e
    rw [List.nil_append] at eX eY
    subst eX; subst eY
    exact ⟨[], g, rfl, .nil, h⟩
  induction h with
  | nil =>
    intro p q u w U W e eX eY hu hw
    cases p with
    | zero => exact zero .nil e eX eY hu hw
    | succ p => omega
  | @sym n X Y g x h0 ha h1 ih =>
    intro p q u w U W e eX eY hu hw
    cases p with
    | zero => exact zero (.sym h0 ha h1) e eX eY hu hw
    | succ p =>
      cases u with
      | nil => rw [scan_nil] at hu; cases hu
      | cons x' u =>
        cases w with
        | nil => rw [scan_nil] at hw; cases hw
        | cons y' w =>
          rw [List.cons_append] at eX eY
          injection eX with e1 e2
          injection eY with e3 e4
          subst e1; subst e3
          rw [scan_step ha, Option.map_eq_some_iff] at hu hw
          obtain ⟨a, a1, a2⟩ := hu
          obtain ⟨b, b1, b2⟩ := hw
          obtain ⟨g1, g2, k1, k2, k3⟩ := ih (p := p + (ar sg x).toNat) (q := q) (u := u) (w := w) (by omega) e2 e4 (by rw [a1]; congr 1; simp at a2; omega) (by rw [b1]; congr 1; simp at b2; omega)
          exact ⟨x :: g1, g2, by rw [k1]; rfl, .sym h0 ha k2, k3⟩
  | @old n i s t X Y g h1 h2 h3 h4 h5 ih =>
    intro p q u w U W e eX eY hu hw
    cases p with
    | zero => exact zero (.old h1 h2 h3 h4 h5) e eX eY hu hw
    | succ p =>
      obtain ⟨s', r, e1, hs, hr⟩ := seq_front hu
      obtain ⟨t', r', e2, ht, hr'⟩ := seq_front hw
      rw [e1, List.append_assoc] at eX
      rw [e2, List.append_assoc] at eY
      obtain ⟨es, eX2⟩ := trm_front h1 hs eX
      obtain ⟨et, eY2⟩ := trm_front h2 ht eY
      subst es; subst et
      obtain ⟨g1, g2, k1, k2, k3⟩ := ih (p := p) (q := q) (by omega) eX2 eY2 hr hr'
      exact ⟨(-1 - (i : Int)) :: g1, g2, by rw [k1]; rfl, by rw [e1, e2]; exact .old h1 h2 h3 h4 k2, k3⟩
/-- a pattern of both turns into what comes of them -/
theorem gt_least {sg : List Int} {T : Tb} (hT : T.Nodup) {A B : Nat → List Int} (hA : Sub sg A) (hB : Sub sg B) : ∃ M : Nat → List Int, ∀ {p : List Int} {n : Nat} {g : List Int}, scan sg n p = some p.length → Gt sg T n (fillL A p) (fillL B p) g → fillL M p = g ∧ ∀ x ∈ p, x < 0 → Gt sg T 1 (A (vr x)) (B (vr x)) (M (vr x)) := by
  have hch : ∀ i, ∃ m, (∃ m', Gt sg T 1 (A i) (B i) m') → Gt sg T 1 (A i) (B i) m := fun i => by
    by_cases h : ∃ m', Gt sg T 1 (A i) (B i) m'
    · obtain ⟨m', h'⟩ := h
      exact ⟨m', fun _ => h'⟩
    · exact ⟨[], fun h' => absurd h' h⟩
  refine ⟨fun i => (hch i).choose, fun {p} => ?_⟩
  induction p with
  | nil =>
    intro n g hs h
    cases n with
    | zero =>
      cases h with
      | nil => exact ⟨rfl, fun x hx => absurd hx (List.not_mem_nil)⟩
    | succ n => rw [scan_nil] at hs; cases hs
  | cons x r ih =>
    intro n g hs h
    cases n with
    | zero => rw [scan_zero] at hs; injection hs with hs; simp at hs
    | succ n =>
      have hx := scan_ar hs x (List.mem_cons_self ..)
      rw [scan_step hx, Option.map_eq_some_iff] at hs
      obtain ⟨a, a1, a2⟩ := hs
      have hr : scan sg (n + (ar sg x).toNat) r = some r.length := by rw [a1]; congr 1; simp at a2; omega
      rw [fill_cons, fill_cons] at h
      by_cases h0 : 0 ≤ x
      · rw [rep_sym h0, rep_sym h0] at h
        obtain ⟨g', rfl, h'⟩ : ∃ g', g = x :: g' ∧ Gt sg T (n + (ar sg x).toNat) (fillL A r) (fillL B r) g' := by
          generalize eu : [x] ++ fillL A r = U at h
          generalize ew : [x] ++ fillL B r = W at h
          generalize en : n + 1 = m at h
          cases h with
          | nil => cases eu
          | sym k0 ka k1 =>
            injection eu with e1 e2
            injection ew with _ e3
            subst e1
            have e2' : fillL A r = _ := e2
            have e3' : fillL B r = _ := e3
            rw [e2', e3']
            obtain rfl := Nat.succ.inj en
            exact ⟨_, rfl, k1⟩
          | old k1 k2 k3 _ _ => exact (apt_head k1 k2 k3 h0 eu.symm ew.symm).elim
        obtain ⟨i1, i2⟩ := ih hr h'
        refine ⟨by rw [fill_cons, rep_sym h0, i1]; rfl, fun y hy hy0 => ?_⟩
        rcases List.mem_cons.1 hy with rfl | hy
        · omega
        · exact i2 y hy hy0
      · have hv : vr x < 24 := by
          by_cases h24 : -24 ≤ x
          · unfold vr; omega
          · rw [ar_no (by omega) (by omega)] at hx; omega
        have hz : ar sg x = 0 := ar_var (by unfold vr at hv; omega)
        rw [rep_vr (by omega), rep_vr (by omega)] at h
        obtain ⟨g1, g2, e, k1, k2⟩ := gt_split h (show n + 1 = 1 + n by omega) rfl rfl (hA.trm _ hv) (hB.trm _ hv)
        have hc := (hch (vr x)).choose_spec ⟨_, k1⟩
        have hg1 := gt_one hT hc k1
        rw [hz] at hr
        obtain ⟨i1, i2⟩ := ih (n := n) hr k2
        refine ⟨by rw [fill_cons, rep_vr (by omega), e]; show (hch (vr x)).choose ++ _ = _; rw [hg1, i1], fun y hy hy0 => ?_⟩
        rcases List.mem_cons.1 hy with rfl | hy
        · exact hc
        · exact i2 y hy hy0
end Go.Proofs.Ytkmhnkljigncmaa.genMath
end

section
/-
  PLAIN MATHEMATICS of generalisation by places (chapter 5): what l5General has read after so many arguments ('Ga'), and how a whole subterm's pair comes of it ('ga_done'), of a pair that was met ('gp_old') and of a new one ('gp_new'). Conditions: the places begin subterms. By an AI agent.
-/
namespace Go.Proofs.Ytkmhnkljigncmaa.genPos
open Go.Proofs.Ytkmhnkljigncmaa.sig Go.Proofs.Ytkmhnkljigncmaa.term Go.Proofs.Ytkmhnkljigncmaa.termOk Go.Proofs.Ytkmhnkljigncmaa.termFacts Go.Proofs.Ytkmhnkljigncmaa.endAt Go.Proofs.Ytkmhnkljigncmaa.sub Go.Proofs.Ytkmhnkljigncmaa.termMath Go.Proofs.Ytkmhnkljigncmaa.fillMath Go.Proofs.Ytkmhnkljigncmaa.posMath Go.Proofs.Ytkmhnkljigncmaa.renMath Go.Proofs.Ytkmhnkljigncmaa.matchMath Go.Proofs.Ytkmhnkljigncmaa.unifMath Go.Proofs.Ytkmhnkljigncmaa.genMath

/-- what stands behind a place up to its k-th argument -/
def upto (sg t : List Int) (p k : Nat) : List Int := (t.drop (p + 1)).take (argP sg t k (p + 1) - (p + 1))
theorem argP_ge {sg t : List Int} (k p : Nat) : p ≤ argP sg t k p := argP_mono (k := 0) (Nat.zero_le k)
theorem upto_zero {sg t : List Int} {p : Nat} : upto sg t p 0 = [] := by unfold upto; simp [argP]
theorem upto_succ {sg t : List Int} {p k : Nat} : upto sg t p (k + 1) = upto sg t p k ++ subL sg t (argP sg t k (p + 1)) := by
  have h1 := argP_ge (sg := sg) (t := t) k (p + 1)
  have h2 := argP_succ (sg := sg) (t := t) k (p + 1)
  unfold upto subL
  rw [h2, show argP sg t k (p + 1) + len1 sg t (argP sg t k (p + 1)) - (p + 1) = (argP sg t k (p + 1) - (p + 1)) + len1 sg t (argP sg t k (p + 1)) by omega, List.take_add, List.drop_drop, show p + 1 + (argP sg t k (p + 1) - (p + 1)) = argP sg t k (p + 1) by omega]
/-- a subterm is its first number and its arguments -/
theorem sub_upto {sg t : List Int} {p j : Nat} (h : scan sg 1 (t.drop p) = some j) : subL sg t p = t.getD p 0 :: upto sg t p (arN sg t p) := by
  obtain ⟨i, rfl, h1, h2, h3⟩ := scan_args h
  obtain ⟨e, h4, h5⟩ := argP_scan h3 (Nat.le_refl _)
  rw [h3] at e
  injection e with e
  unfold subL upto arN
  rw [len1_eq h, drop_cons h1, List.take_succ_cons, ← e]
theorem sub_trm {sg t : List Int} {p j : Nat} (h : scan sg 1 (t.drop p) = some j) : Trm sg (subL sg t p) := by
  unfold Trm subL
  have h1 := scan_take h
  have h2 := scan_le h
  rw [len1_eq h, h1, List.length_take]
  congr 1
  omega
theorem sub_hd {sg t : List Int} {p j : Nat} (h : scan sg 1 (t.drop p) = some j) : (subL sg t p).getD 0 0 = t.getD p 0 := by
  rw [sub_upto h]; rfl

/-- after k arguments -/
def Ga (sg a b : List Int) (p q : Nat) (T : Tb) (k : Nat) (g : List Int) (T' : Tb) : Prop := Gs sg T k (upto sg a p k) (upto sg b q k) g T'
theorem ga_zero {sg a b : List Int} {p q : Nat} {T : Tb} : Ga sg a b p q T 0 [] T := by unfold Ga; rw [upto_zero, upto_zero]; exact Gs.nil T
theorem ga_succ {sg a b : List Int} {p q k : Nat} {T T1 T2 : Tb} {g g' : List Int} (h : Ga sg a b p q T k g T1) (h' : Gs sg T1 1 (subL sg a (argP sg a k (p + 1))) (subL sg b (argP sg b k (q + 1))) g' T2) : Ga sg a b p q T (k + 1) (g ++ g') T2 := by
  unfold Ga; rw [upto_succ, upto_succ]; exact gs_comp h h'
theorem ga_done {sg a b : List Int} {p q j j' : Nat} {T T' : Tb} {g : List Int} (ha : scan sg 1 (a.drop p) = some j) (hb : scan sg 1 (b.drop q) = some j') (h0 : 0 ≤ a.getD p 0) (he : a.getD p 0 = b.getD q 0) (h : Ga sg a b p q T (arN sg a p) g T') : Gs sg T 1 (subL sg a p) (subL sg b q) (a.getD p 0 :: g) T' := by
  rw [sub_upto ha, sub_upto hb, ← he]
  obtain ⟨_, _, _, hn, _⟩ := scan_args ha
  have e : arN sg b q = arN sg a p := by unfold arN; rw [he]
  rw [e]
  exact Gs.sym (n := 0) h0 hn (by rw [Nat.zero_add]; exact h)
theorem gp_apt {sg a b : List Int} {p q j j' : Nat} (ha : scan sg 1 (a.drop p) = some j) (hb : scan sg 1 (b.drop q) = some j') (h : ¬ (0 ≤ a.getD p 0 ∧ a.getD p 0 = b.getD q 0)) : Apt (subL sg a p) (subL sg b q) := by
  unfold Apt; rw [sub_hd ha, sub_hd hb]; exact h
theorem gp_old {sg a b : List Int} {p q j j' i : Nat} {T : Tb} (ha : scan sg 1 (a.drop p) = some j) (hb : scan sg 1 (b.drop q) = some j') (h : ¬ (0 ≤ a.getD p 0 ∧ a.getD p 0 = b.getD q 0)) (hi : T[i]? = some (subL sg a p, subL sg b q)) : Gs sg T 1 (subL sg a p) (subL sg b q) [-1 - (i : Int)] T := by
  have := Gs.old (n := 0) (u := []) (w := []) (g := []) (sub_trm ha) (sub_trm hb) (gp_apt ha hb h) hi (Gs.nil T)
  rwa [List.append_nil, List.append_nil] at this
theorem gp_new {sg a b : List Int} {p q j j' : Nat} {T : Tb} (ha : scan sg 1 (a.drop p) = some j) (hb : scan sg 1 (b.drop q) = some j') (h : ¬ (0 ≤ a.getD p 0 ∧ a.getD p 0 = b.getD q 0)) (hi : (subL sg a p, subL sg b q) ∉ T) : Gs sg T 1 (subL sg a p) (subL sg b q) [-1 - (T.length : Int)] (T ++ [(subL sg a p, subL sg b q)]) := by
  have := Gs.new (n := 0) (u := []) (w := []) (g := []) (sub_trm ha) (sub_trm hb) (gp_apt ha hb h) hi (Gs.nil _)
  rwa [List.append_nil, List.append_nil] at this
/-- an argument's own place: it begins a subterm that is shorter -/
theorem arg_sub {sg t : List Int} {p j k : Nat} (h : scan sg 1 (t.drop p) = some j) (hk : k < arN sg t p) : ∃ j', scan sg 1 (t.drop (argP sg t k (p + 1))) = some j' ∧ argP sg t k (p + 1) + j' ≤ p + j ∧ p < argP sg t k (p + 1) := by
  obtain ⟨i, rfl, h1, h2, h3⟩ := scan_args h
  obtain ⟨e, h4, h5⟩ := argP_scan h3 (Nat.le_of_lt hk)
  have hq : k + (arN sg t p - k - 1 + 1) = (ar sg (t.getD p 0)).toNat := by unfold arN at hk ⊢; omega
  rw [← hq] at h3
  obtain ⟨x, e1, e2, e3⟩ := scan_split h3
  rw [e] at e2
  injection e2 with e2
  rw [List.drop_drop, ← e2, show p + 1 + (argP sg t k (p + 1) - (p + 1)) = argP sg t k (p + 1) by omega] at e3
  obtain ⟨j', f1, f2, f3, _⟩ := scan_first e3
  exact ⟨j', f1, by omega, by omega⟩
end Go.Proofs.Ytkmhnkljigncmaa.genPos
end

section
/-
  CONTRACTS of the look-ups: impl.varTerm, (lookup).fill over whatever look-up ('Looks'), lookupIn and what it returns. Conditions: at most 60 numbers, replacements of at most 4096. By an AI agent.
-/
namespace Go.Proofs.Ytkmhnkljigncmaa.look
open Go.RowKit Go.Proofs.Ytkmhnkljigncmaa.base Go.Proofs.Ytkmhnkljigncmaa.ints Go.Proofs.Ytkmhnkljigncmaa.marks Go.Proofs.Ytkmhnkljigncmaa.app Go.Proofs.Ytkmhnkljigncmaa.sym Go.Proofs.Ytkmhnkljigncmaa.segs Go.Proofs.Ytkmhnkljigncmaa.fillMath
set_option maxRecDepth 100000

theorem varTerm (i : Int) (w : World) (h0 : 0 ≤ i) (h1 : i ≤ 1000) :
    Calls Try.prog 59 #[.int .i64 i] w (AnsList w [-1 - i]) := by
  have F : AnsList w [-1 - i] (.returned (.slice (some ⟨w.heap.size, 0, none⟩) 1 1)) (w.alloc (.cells #[.int .i64 (-1 - i)] 2)) :=
    ⟨_, 1, 1, rfl, Own.of_row (Row.new _ _ _) rfl rfl (Nat.le_refl _) (by omega) (Nat.le_refl _) (fun j hj => by
      have e : j = 0 := by omega
      subst e
      rfl), (Below.refl _ _).alloc (Nat.le_refl _) _⟩
  have HF := Lib.hid F
  clear F
  go_enter Try.func59, Try.ntmps59
  go_wp2
  go_ret
  exact HF.out

/-- an answer that may be read: it lies below B, or it is new -/
def AnsLook (B : Nat) (w : World) (ys : List Int) (e : Ending) (w' : World) : Prop := ∃ A n c, e = .returned (.slice A n c) ∧ Seg w' w'.heap.size A n ys ∧ Cap A n c ∧ (∀ k, blk A = some k → k < B ∨ w.heap.size ≤ k) ∧ Below w.heap.size w w'
/-- function g with what it has captured looks up L, at variables below N, as long as what lies in w lies -/
def Looks (g : Nat) (lb : Array Value) (w : World) (L : Nat → List Int) (N : Nat) : Prop :=
  ∀ (W : World) (i : Nat), Below w.heap.size w W → i < N → Calls Try.prog g (#[.int .i64 (i : Int)] ++ lb) W (AnsLook w.heap.size W (L i))
theorem Looks.next {g : Nat} {lb : Array Value} {w w' : World} {L : Nat → List Int} {N : Nat} (h : Looks g lb w L N) (hb : Below w.heap.size w w') : Looks g lb w' L N :=
  fun W i hW hi => (h W i (next_trans hb hW) hi).mono fun _ _ ⟨A, n, c, he, h1, h2, h3, h4⟩ => ⟨A, n, c, he, h1, h2, fun k hk => by have := h3 k hk; have := hb.size; omega, h4⟩
theorem own_cap {w : World} {base : Nat} {A : Option Addr} {n c : Nat} {xs : List Int} (h : Own w base (.slice A n c) xs) : Cap A n c := by
  have hl := Own.len h
  rcases own_form (n := n) (vs := xs.map (Value.int .i64)) (by rw [hl]; rw [hl] at h; exact h) with ⟨rfl, h1, rfl, _⟩ | ⟨g, cur, rfl, _, _, h1, h2, h3, _⟩
  · exact ⟨by omega, by omega, fun _ => rfl⟩
  · exact ⟨h1, h3, fun e => by cases e⟩
theorem look_new {w w' : World} {B : Nat} {ys : List Int} {A : Option Addr} {n c : Nat} (ho : Own w' w.heap.size (.slice A n c) ys) (hb : Below w.heap.size w w') : AnsLook B w ys (.returned (.slice A n c)) w' :=
  ⟨A, n, c, rfl, Own.seg ho, own_cap ho, fun k hk => .inr (World.ownsRow.lt ho k (by cases A with | none => cases hk | some a => exact hk)).1, hb⟩

/-- the head of fill's loop -/
def HeadFill (w : World) (m : Nat) (t : List Int) (L : Nat → List Int) (out i : Value) (wr : World) : Prop :=
  ∃ (k : Nat) (O : Option Addr) (on oc : Nat), k ≤ m ∧ i = .int .i64 k ∧ out = .slice O on oc ∧ Own wr w.heap.size (.slice O on oc) (fillL L (t.take k)) ∧ Below w.heap.size w wr
theorem fill_bound {L : Nat → List Int} {t : List Int} {m k : Nat} (hM : ∀ i, (L i).length ≤ 4096) (hm : t.length = m) (h60 : m ≤ 60) : (fillL L (t.take k)).length ≤ 245760 := by
  have h := fill_len (M := 4096) (by omega) hM (t.take k)
  have h2 : (t.take k).length ≤ 60 := by simp; omega
  have h3 : (t.take k).length * 4096 ≤ 60 * 4096 := Nat.mul_le_mul_right _ h2
  omega

set_option maxHeartbeats 2000000 in
theorem fill (g : Nat) (lb : Array Value) (eg : ∀ args w, (callFunc g args).run Try.prog w = .ok (.enter g args) w) (A : Option Addr) (m c : Nat) (t : List Int) (L : Nat → List Int) (w : World)
    (hL : Looks g lb w L 24) (h : Seg w w.heap.size A m t) (hm : m ≤ 60) (hv : ∀ x ∈ t, -24 ≤ x) (hM : ∀ i, (L i).length ≤ 4096) :
    Calls Try.prog 73 #[.func (.func g) #[] lb, .slice A m c] w (AnsList w (fillL L t)) := by
  have HL := Lib.hid h.1
  have HV := Lib.hid hv
  have HM := Lib.hid hM
  have HK := Lib.hid hL
  have S0 : HeadFill w m t L (.slice none 0 0) (.int .i64 0) w := ⟨0, _, _, _, Nat.zero_le _, rfl, rfl, by simpa [fillL] using Own.nil w w.heap.size, Below.refl _ _⟩
  have HS0 := Lib.hid S0
  clear S0 hv hM hL
  go_enter Try.func73, Try.ntmps73
  go_wp2
  go_loopw [5, 10] (fun out i wr => HeadFill w m t L out i wr) (fun _ i _ => m - (intOf i).toNat)
  case atStart => exact HS0.out
  case round =>
    obtain ⟨k, O, on, oc, hk, rfl, rfl, ho, hb⟩ := hrel
    clear HS0
    have hon : on ≤ 245760 := by rw [Own.len ho]; exact fill_bound HM.out HL.out hm
    by_cases hlt : k < m
    · obtain ⟨b, off, x, rfl, hbb, hx, ex⟩ := h.spot hlt
      have hx1 : wr.cell? ⟨b, off + k, none⟩ = some (.int .i64 x) := (hb.cell (p := ⟨b, off + k, none⟩) hbb).trans hx
      have hmem : x ∈ t := by
        have hkl : k < t.length := by rw [HL.out]; exact hlt
        have := ex.out
        rw [← this]
        simp [List.getD, hkl]
      have hx24 : -24 ≤ x := HV.out x hmem
      have E := Lib.hid (fill_take (L := L) (t := t) (k := k) (by rw [HL.out]; exact hlt) ex.out)
      have hsz := hb.size
      clear hmem hx h ex
      by_cases hpos : 0 ≤ x
      · have R := Lib.hid (rep_sym (L := L) hpos)
        go_wp2_with (at_builtin; refine app1 rfl _ _ rfl w.heap.size O on oc (fillL L (t.take k)) rfl (Own.alloc ho _) wr.heap.size 1 x rfl ((Row.new _ _ _).cell 0) (by omega) (by simp; omega) ?_; intro O' oc' w2 ho2 b2)
        have S : HeadFill w m t L (.slice O' (on + 1) oc') (.int .i64 ((k : Int) + 1)) w2 := ⟨k + 1, O', on + 1, oc', hlt, by simp, rfl, by rw [E.out, R.out]; exact ho2, (hb.alloc hsz _).trans b2⟩
        replace S := Lib.hid S
        clear ho2 b2 ho hb R E
        go_wp2
        go_roundw
        case rel => exact S.out
        case measure => simp [intOf]; omega
      · have hneg : x < 0 := by omega
        have R := Lib.hid (rep_var (L := L) hneg)
        have hcall := HK.out wr (-1 - x).toNat hb (by omega)
        rw [show (((-1 - x).toNat : Nat) : Int) = -1 - x by omega] at hcall
        have hLM : (L (-1 - x).toNat).length ≤ 4096 := HM.out _
        generalize hys : L (-1 - x).toNat = ys at hcall R hLM
        replace hcall := Lib.hid hcall
        clear hys
        go_wp2_with (first
          | (go_at_fn g; refine hcall.out.mono ?_; rintro e w1 ⟨A', n', c', rfl, s', cap', -, bb⟩; have hn' : n' ≤ 4096 := (by rw [← s'.1]; exact hLM); have ho1 := ho.next bb; have hb1 := hb.trans (bb.mono hb.size))
          | (at_builtin; refine appAll rfl _ _ rfl w.heap.size O on oc (fillL L (t.take k)) rfl ho1 A' n' c' w1.heap.size ys rfl s' cap'.2.2 (by omega) (by omega) hb1.size ?_; intro O' oc' w2 ho2 b2))
        have S : HeadFill w m t L (.slice O' (on + n') oc') (.int .i64 ((k : Int) + 1)) w2 := ⟨k + 1, O', on + n', oc', hlt, by simp, rfl, by rw [E.out, R.out]; exact ho2, hb1.trans b2⟩
        replace S := Lib.hid S
        clear ho2 b2 ho hb R E ho1 hb1 s' cap' bb hcall
        go_wp2
        go_roundw
        case rel => exact S.out
        case measure => simp [intOf]; omega
    · have F : AnsList w (fillL L t) (.returned (.slice O on oc)) wr := by
        rw [List.take_of_length_le (by rw [HL.out]; omega)] at ho
        exact ⟨O, on, oc, rfl, ho, hb⟩
      have HF := Lib.hid F
      clear F ho hb h
      go_wp2
      go_ret
      exact HF.out
end Go.Proofs.Ytkmhnkljigncmaa.look
end

section
/-
  CONTRACTS: spec.SameTerm, slices.Equal at []int64 and impl.SameTerm answer whether two slices hold the same numbers. Conditions: the slices read as lists ('Seg'), at most 1048576 elements. By an AI agent.
-/
namespace Go.Proofs.Ytkmhnkljigncmaa.same
open Go.RowKit Go.Proofs.Ytkmhnkljigncmaa.base Go.Proofs.Ytkmhnkljigncmaa.ints

set_option maxHeartbeats 400000 in
theorem specSame (A A' : Option Addr) (n m c c' : Nat) (xs ys : List Int) (w : World) (h : Seg w w.heap.size A n xs) (h' : Seg w w.heap.size A' m ys) (hn : n ≤ 1048576) (hm : m ≤ 1048576) :
    Calls Try.prog 19 #[.slice A n c, .slice A' m c'] w (AnsSame w xs ys) := by
  by_cases hnm : n = m
  · subst hnm
    go_enter Try.func19, Try.ntmps19
    go_wp2
    go_loopw [5] (fun i wr => HeadSame w n xs ys i wr) (fun i _ => n - (intOf i).toNat)
    case atStart => exact ⟨0, 0, Nat.zero_le _, rfl, rfl, fun j h => absurd h (Nat.not_lt_zero _)⟩
    case round =>
      obtain ⟨k, d, hk, rfl, rfl, hc⟩ := hrel
      by_cases hlt : k < n
      · obtain ⟨b, off, x, rfl, -, hx, ex⟩ := h.spot hlt
        obtain ⟨b', off', y, rfl, -, hx', ey⟩ := h'.spot hlt
        by_cases he : x = y
        · subst he
          have S := Lib.hid (alike_step (w := w) hlt hc ex ey)
          clear hc h h' ex ey
          go_wp2
          go_quiet (fail)
          go_wp2
          go_roundw
          case rel => exact S.out _
          case measure => simp [intOf]; omega
        · have S := Lib.hid (same_not (w := w) ex ey he)
          have hne : (x != y) = true := by simp [he]
          clear hc h h' ex ey he
          go_wp2
          go_quiet (fail)
          go_wp2
          go_ret
          rw [World.drewN_drewN]
          exact S.out _
      · have S := Lib.hid (same_yes (w := w) h.1 h'.1 hlt hc)
        clear hc h h'
        go_wp2
        go_ret
        exact S.out _
  · have S := Lib.hid (same_len (w := w) h.1 h'.1 hnm)
    have hne : ((n : Int) != (m : Int)) = true := by simp; omega
    clear h h'
    go_enter Try.func19, Try.ntmps19
    go_wp2
    go_ret
    exact S.out
set_option maxHeartbeats 400000 in
theorem libEqual (A A' : Option Addr) (n m c c' : Nat) (xs ys : List Int) (w : World) (h : Seg w w.heap.size A n xs) (h' : Seg w w.heap.size A' m ys) (hn : n ≤ 1048576) (hm : m ≤ 1048576) :
    Calls Try.prog 77 #[.slice A n c, .slice A' m c'] w (AnsSame w xs ys) := by
  by_cases hnm : n = m
  · subst hnm
    go_enter Try.func77, Try.ntmps77
    go_wp2
    go_loopw [13] (fun i wr => HeadSame w n xs ys i wr) (fun i _ => n - (intOf i).toNat)
    case atStart => exact ⟨0, 0, Nat.zero_le _, rfl, rfl, fun j h => absurd h (Nat.not_lt_zero _)⟩
    case round =>
      obtain ⟨k, d, hk, rfl, rfl, hc⟩ := hrel
      by_cases hlt : k < n
      · obtain ⟨b, off, x, rfl, -, hx, ex⟩ := h.spot hlt
        obtain ⟨b', off', y, rfl, -, hx', ey⟩ := h'.spot hlt
        by_cases he : x = y
        · subst he
          have S := Lib.hid (alike_step (w := w) hlt hc ex ey)
          clear hc h h' ex ey
          go_wp2
          go_quiet (fail)
          go_wp2
          go_roundw
          case rel => exact S.out _
          case measure => simp [intOf]; omega
        · have S := Lib.hid (same_not (w := w) ex ey he)
          have hne : (x != y) = true := by simp [he]
          clear hc h h' ex ey he
          go_wp2
          go_quiet (fail)
          go_wp2
          go_ret
          rw [World.drewN_drewN]
          exact S.out _
      · have S := Lib.hid (same_yes (w := w) h.1 h'.1 hlt hc)
        clear hc h h'
        go_wp2
        go_ret
        exact S.out _
  · have S := Lib.hid (same_len (w := w) h.1 h'.1 hnm)
    have hne : ((n : Int) != (m : Int)) = true := by simp; omega
    clear h h'
    go_enter Try.func77, Try.ntmps77
    go_wp2
    go_ret
    exact S.out

theorem implSame (A A' : Option Addr) (n m c c' : Nat) (xs ys : List Int) (w : World) (h : Seg w w.heap.size A n xs) (h' : Seg w w.heap.size A' m ys) (hn : n ≤ 1048576) (hm : m ≤ 1048576) :
    Calls Try.prog 23 #[.slice A n c, .slice A' m c'] w (AnsSame w xs ys) := by
  have L := Lib.hid (libEqual A A' n m c c' xs ys w h h' hn hm)
  clear h h'
  go_enter Try.func23, Try.ntmps23
  go_wp2_with fail
  refine L.out.mono ?_
  rintro e w' ⟨rfl, d, rfl⟩
  go_wp2
  go_ret
  exact ⟨rfl, d, rfl⟩
end Go.Proofs.Ytkmhnkljigncmaa.same
end

section
/-
  CONTRACTS: append of one list to a slice of slices of the call's own; impl's (lookup).plain over whatever look-up. Conditions: replacements of 1 to 4096 numbers. By an AI agent.
-/
namespace Go.Proofs.Ytkmhnkljigncmaa.plain
open Go.RowKit Go.Proofs.Ytkmhnkljigncmaa.base Go.Proofs.Ytkmhnkljigncmaa.ints Go.Proofs.Ytkmhnkljigncmaa.cursor Go.Proofs.Ytkmhnkljigncmaa.same Go.Proofs.Ytkmhnkljigncmaa.marks Go.Proofs.Ytkmhnkljigncmaa.app Go.Proofs.Ytkmhnkljigncmaa.appAt Go.Proofs.Ytkmhnkljigncmaa.sym Go.Proofs.Ytkmhnkljigncmaa.sub Go.Proofs.Ytkmhnkljigncmaa.segs Go.Proofs.Ytkmhnkljigncmaa.segsHelp Go.Proofs.Ytkmhnkljigncmaa.kinds Go.Proofs.Ytkmhnkljigncmaa.fillMath Go.Proofs.Ytkmhnkljigncmaa.look Go.Proofs.Ytkmhnkljigncmaa.plainMath
set_option maxRecDepth 100000

theorem Inn.none_ (w : World) (lo hi : Nat) : Inn w lo hi (.slice none 0 0) [] := ⟨none, 0, rfl, Own.nil _ _, fun k hk => by cases hk⟩
theorem inn_own {w : World} {lo : Nat} {A : Option Addr} {n c : Nat} {xs : List Int} (h : Own w lo (.slice A n c) xs) : Inn w lo w.heap.size (.slice A n c) xs := by
  have hl := Own.len h
  subst hl
  exact ⟨A, c, rfl, h, fun k hk => (World.ownsRow.lt h k (by rw [blk_own]; exact hk)).2⟩

set_option maxHeartbeats 1000000 in
/-- append of one list -/
theorem appS1 {w : World} {ops : Array Oper} {rest : List Oper} {o : Oper} {a : Act} {Q : Exit → Act → World → Prop} (hgd : o.guard = none) (s x : Operand)
    (ho : o.op = .call { callee := .builtin .append, args := #[s, x], argTypes := #[29, 29] })
    (lo mid : Nat) (A : Option Addr) (n c : Nat) (xss : List (List Int)) (hs : a.eval s = .slice A n c) (hown : Owns w lo mid A n c xss)
    (g c2 : Nat) (v : Value) (ys : List Int) (hx : a.eval x = .slice (some ⟨g, 0, none⟩) 1 c2) (hy : w.cell? ⟨g, 0, none⟩ = some v) (hv : Inn w mid w.heap.size v ys) (hn : n ≤ 1048576) (hlo : lo ≤ mid) (hmid : mid ≤ w.heap.size)
    (h : ∀ A' c' w', Owns w' lo w'.heap.size A' (n + 1) c' (xss ++ [ys]) → w.grownBy w' (blk A) → (blk A' = blk A ∨ blk A' = some w.heap.size) → Below lo w w' → wpList Try.prog ops Q rest (a.put o.dst (.slice A' (n + 1) c')) w') : wpList Try.prog ops Q (o :: rest) a w := by
  obtain ⟨i0, hi, hz0, hz1, hz2⟩ := info_parts info_list
  obtain ⟨hlen, ⟨vs, hr, hin, hap⟩, htop⟩ := hown
  have hvl : vs.length = n := by have := hr.1; omega
  have hvc : v.oneCell' = true := by obtain ⟨A1, c1, rfl, _⟩ := hv; rfl
  refine wpList_append_own_at w hgd s x 29 ho lo 24 i0 (.slice none 0 0) 1 24 Try.underlying29 hi hz0 hz1 hz2 rfl (by decide) (.slice A n c) n vs hs hr
    ⟨g, 0, none⟩ 1 c2 [v] hx rfl (fun j u hj => ?_) (fun u hu => ?_) (by unfold maxLen; omega) (by omega) (by omega) ?_
  · match j, hj with
    | 0, hj => simp at hj; subst hj; simpa [Addr.add] using hy
  · simp at hu; subst hu; exact hvc
  · intro v' w' hown' hg _ hat
    have hform : ∃ A' c', v' = .slice A' (n + 1) c' := by
      rcases hown'.2 with ⟨_, h0⟩ | ⟨g', cap, cur, e, _⟩
      · omega
      · exact ⟨_, _, e⟩
    obtain ⟨A', c', rfl⟩ := hform
    rw [blk_own] at hg
    rw [blk_own, blk_own] at hat
    have hsz := hg.size
    have hne : ∀ {u : Value} {zs : List Int} {l2 h2 : Nat}, Inn w l2 h2 u zs → u.ownBlock = none ∨ u.ownBlock ≠ blk A := fun {u zs l2 h2} hu => by
      rcases own_form hr with ⟨rfl, _⟩ | ⟨g', cur, rfl, _, hrow, _⟩
      · cases e : u.ownBlock with
        | none => exact .inl rfl
        | some z => exact .inr (fun e2 => by cases e2)
      · exact .inr (hu.ne hrow)
    have hget : ∀ j, j < n → (vs ++ [v]).getD j undef = vs.getD j undef := fun j hj => by simp [List.getD, List.getElem?_append_left (show j < vs.length by omega)]
    have hget2 : ∀ j, j < n → (xss ++ [ys]).getD j [] = xss.getD j [] := fun j hj => by simp [List.getD, List.getElem?_append_left (show j < xss.length by omega)]
    have hnew : (vs ++ [v]).getD n undef = v := by simp [List.getD, ← hvl]
    have hnew2 : (xss ++ [ys]).getD n [] = ys := by simp [List.getD, ← hlen]
    refine h A' c' w' ⟨by simp [hlen], ⟨vs ++ [v], hown', fun j hj => ?_, fun i j k hij hj e1 e2 => ?_⟩, fun k hk => (World.ownsRow.lt hown' k (by rw [blk_own]; exact hk)).2⟩ hg hat ?_
    · by_cases e : j = n
      · subst e
        rw [hnew, hnew2]
        exact (hv.kept hg (hne hv)).wider (by omega) (by omega)
      · rw [hget j (by omega), hget2 j (by omega)]
        exact ((hin j (by omega)).kept hg (hne (hin j (by omega)))).wider (Nat.le_refl _) (by omega)
    · by_cases e : j = n
      · subst e
        rw [hget i hij] at e1
        rw [hnew] at e2
        have h1 := ((hin i hij).blk k e1).2.1
        have h2 := (hv.blk k e2).1
        omega
      · rw [hget i (by omega)] at e1
        rw [hget j (by omega)] at e2
        exact hap i j k hij (by omega) e1 e2
    · refine (Below.refl lo w).grown hg (by omega) (fun k hk => ?_)
      exact (World.ownsRow.lt hr k (by rw [blk_own]; exact hk)).1

/-- a substitution of the call's own -/
def AnsSubst (w : World) (xss : List (List Int)) (e : Ending) (w' : World) : Prop := ∃ A n c, e = .returned (.agg #[.slice A n c]) ∧ Owns w' w.heap.size w'.heap.size A n c xss ∧ Below w.heap.size w w'

/-- the head of plain's loop -/
def HeadP (w : World) (L : Nat → List Int) (terms i : Value) (wr : World) : Prop :=
  ∃ (k : Nat) (A : Option Addr) (n c : Nat), k ≤ 24 ∧ i = .int .i64 k ∧ terms = .slice A n c ∧ n ≤ k ∧ Owns wr (w.heap.size + 1) wr.heap.size A n c (plainL L k) ∧ Row wr w.heap.size 31 #[.slice none 0 0] ∧ Below w.heap.size w wr
/-- a list in another row stays -/
theorem Seg.away {w w' : World} {A : Option Addr} {n : Nat} {xs : List Int} {r : Option Nat} (h : Seg w w.heap.size A n xs) (hg : w.grownBy w' r) (hne : ∀ k, blk A = some k → r ≠ some k) : Seg w' w'.heap.size A n xs :=
  ⟨h.1, fun hn => by
    obtain ⟨b, off, e, hb, hc⟩ := h.2 hn
    refine ⟨b, off, e, Nat.lt_of_lt_of_le hb hg.size, fun j hj => ?_⟩
    exact (World.cell?_of_block (hg.block b hb (fun e2 => hne b (by rw [e]; rfl) e2.symm))).trans (hc j hj)⟩
/-- the head of the loop that pads: mid: where the round began, top: where the loop did -/
def HeadQ (w : World) (mid top : Nat) (L : Nat → List Int) (k : Nat) (A1 : Option Addr) (n1 : Nat) (ys : List Int) (terms : Value) (wr : World) : Prop :=
  ∃ (A : Option Addr) (n c : Nat), terms = .slice A n c ∧ n ≤ k ∧ (plainL L k).length ≤ n ∧ Owns wr (w.heap.size + 1) wr.heap.size A n c (plainL L k ++ List.replicate (n - (plainL L k).length) []) ∧ (∀ q, blk A = some q → q < mid ∨ top ≤ q) ∧
    Seg wr wr.heap.size A1 n1 ys ∧ Row wr w.heap.size 31 #[.slice none 0 0] ∧ Below w.heap.size w wr ∧ top ≤ wr.heap.size
def lenOf (v : Value) : Nat := match v with
  | .slice _ n _ => n
  | _ => 0

set_option maxHeartbeats 16000000 in
theorem plain (g : Nat) (lb : Array Value) (eg : ∀ args w, (callFunc g args).run Try.prog w = .ok (.enter g args) w) (L : Nat → List Int) (w : World)
    (hL : Looks g lb w L 24) (h1 : ∀ i, 1 ≤ (L i).length) (hM : ∀ i, (L i).length ≤ 4096) :
    Calls Try.prog 61 #[.func (.func g) #[] lb] w (AnsSubst w (plainL L 24)) := by
  have H1 := Lib.hid h1
  have HM := Lib.hid hM
  have HK := Lib.hid hL
  have S0 : HeadP w L (.slice none 0 0) (.int .i64 0) (w.alloc (.cells #[.slice none 0 0] 31)) :=
    ⟨0, none, 0, 0, by omega, rfl, rfl, Nat.le_refl _, by simpa [plainL, rowsL, strip] using Owns.nil (w.alloc (.cells #[.slice none 0 0] 31)) (w.heap.size + 1) (w.alloc (.cells #[.slice none 0 0] 31)).heap.size, Row.new _ _ _, (Below.refl _ _).alloc (Nat.le_refl _) _⟩
  have HS0 := Lib.hid S0
  clear S0 h1 hM hL
  go_enter Try.func61, Try.ntmps61
  go_wp2
  go_loopw [3, 6] (fun terms i wr => HeadP w L terms i wr) (fun _ i _ => 24 - (intOf i).toNat)
  case atStart => exact HS0.out
  case round =>
    obtain ⟨k, A, n, c, hk, rfl, rfl, hnk, ho, hr, hb⟩ := hrel
    clear HS0
    obtain ⟨wo, rfl⟩ : ∃ wo : World, wo = wr := ⟨_, rfl⟩
    by_cases hlt : k < 24
    · have hcall := HK.out wo k hb hlt
      have hLk : (L k).length ≤ 4096 := HM.out k
      have hL1 : 1 ≤ (L k).length := H1.out k
      obtain ⟨ys, hys⟩ : ∃ ys, L k = ys := ⟨_, rfl⟩
      rw [hys] at hcall hLk hL1
      have HY := Lib.hid hys
      have HC := Lib.hid hcall
      clear hys hcall
      have hsz := hb.size
      have hrlt := hr.lt
      by_cases hsame : ys = [-1 - (k : Int)]
      · have DS := Lib.hid (decide_eq_true hsame)
        go_wp2_with (first
          | (go_at_fn g; refine HC.out.mono ?_; rintro e w1 ⟨A1, n1, c1, rfl, s1, cap1, far1, bb1⟩; have hn1 : n1 ≤ 4096 := (by rw [← s1.1]; exact hLk))
          | (go_at_call 59; refine (varTerm (k : Int) _ (by omega) (by omega)).mono ?_; rintro e w2 ⟨A2, n2, c2, rfl, o2, bb2⟩; have hn2 : n2 ≤ 1048576 := (by rw [Own.len o2]; simp))
          | (go_at_call 23; refine (implSame A1 A2 n1 n2 c1 c2 ys [-1 - (k : Int)] w2 (s1.next bb2) (Own.seg o2) (by omega) hn2).mono ?_; rintro e w3 ⟨he, d, rfl⟩; rw [DS.out] at he; subst he))
        have bb3 : Below wo.heap.size wo (w2.drewN d) := below_drewN (next_trans bb1 bb2) d
        have hs3 := bb3.size
        have S : HeadP w L (.slice A n c) (.int .i64 ((k : Int) + 1)) (w2.drewN d) := ⟨k + 1, A, n, c, hlt, by simp, rfl, by omega, by rw [plain_same (HY.out.trans hsame)]; exact (ho.next bb3).wider (Nat.le_refl _) hs3, hr.next bb3, hb.trans (bb3.mono hsz)⟩
        have HS := Lib.hid S
        clear S bb3 hs3 s1 cap1 far1 bb1 o2 bb2 ho hr hb HC HY hsame DS
        go_wp2
        go_roundw
        case rel => exact HS.out
        case measure => simp [intOf]; omega
      · have DS := Lib.hid (decide_eq_false hsame)
        have HNE := Lib.hid hsame
        clear hsame
        go_wp2_with (first
          | (go_at_fn g; refine HC.out.mono ?_; rintro e w1 ⟨A1, n1, c1, rfl, s1, cap1, far1, bb1⟩; have hn1 : n1 ≤ 4096 := (by rw [← s1.1]; exact hLk))
          | (go_at_call 59; refine (varTerm (k : Int) _ (by omega) (by omega)).mono ?_; rintro e w2 ⟨A2, n2, c2, rfl, o2, bb2⟩; have hn2 : n2 ≤ 1048576 := (by rw [Own.len o2]; simp))
          | (go_at_call 23; refine (implSame A1 A2 n1 n2 c1 c2 ys [-1 - (k : Int)] w2 (s1.next bb2) (Own.seg o2) (by omega) hn2).mono ?_; rintro e w3 ⟨he, hd⟩; rw [DS.out] at he; subst he; have bb3 : Below w2.heap.size w2 w3 := (by obtain ⟨d, rfl⟩ := hd; exact drewN_below _ _)))
        have bbo := next_trans (next_trans bb1 bb2) bb3
        have s3 := (s1.next bb2).next bb3
        have hs3 := bbo.size
        have h12 := bb2.size
        have h23 := bb3.size
        have hn1' : 1 ≤ n1 := by rw [← s1.1]; exact hL1
        have hA1 : ∀ q, blk A1 = some q → q < w.heap.size ∨ (wo.heap.size ≤ q ∧ q < w3.heap.size) := fun q hq => by
          rcases far1 q hq with h | h
          · exact .inl h
          · refine .inr ⟨h, ?_⟩
            obtain ⟨b, off, e, hb', _⟩ := s1.2 (by omega)
            rw [e] at hq
            have : b = q := Option.some.inj hq
            omega
        have Q0 : HeadQ w wo.heap.size w3.heap.size L k A1 n1 ys (.slice A n c) w3 := by
          have hl := ho.len
          refine ⟨A, n, c, rfl, hnk, by omega, ?_, fun q hq => .inl (ho.top q hq), s3, hr.next bbo, hb.trans (bbo.mono hsz), Nat.le_refl _⟩
          rw [show n - (plainL L k).length = 0 by omega, List.replicate_zero, List.append_nil]
          exact (ho.next bbo).wider (Nat.le_refl _) hs3
        have HQ0 := Lib.hid Q0
        have HA1 := Lib.hid hA1
        clear Q0 hA1 bbo s3 s1 cap1 far1 bb1 o2 bb2 bb3 ho hr hb HC DS hd
        go_loopw [3] (fun terms wr => HeadQ w wo.heap.size w3.heap.size L k A1 n1 ys terms wr) (fun terms _ => k - lenOf terms)
        case atStart => exact HQ0.out
        case round =>
          obtain ⟨A, n, c, rfl, hnk, hpn, ho, hloc, s1, hr, hb, htop⟩ := hrel
          clear HQ0
          have hrl := hr.lt
          have hne : ∀ q, blk A1 = some q → blk A ≠ some q := fun q hq e => by
            have h1 := HA1.out q hq
            have h2 := hloc q e
            obtain ⟨vs, hown, _⟩ := ho.row
            have h3 := (World.ownsRow.lt hown q (by rw [blk_own]; exact e)).1
            omega
          have hneB : blk A ≠ some w.heap.size := fun e => by
            obtain ⟨vs, hown, _⟩ := ho.row
            have h3 := (World.ownsRow.lt hown _ (by rw [blk_own]; exact e)).1
            omega
          by_cases hlt2 : n < k
          · have ho1 := ho.next (w' := wr.alloc (.cells #[.slice none 0 0] 24)) ((Below.refl _ _).alloc (Nat.le_refl _) _)
            have hr1 := hr.alloc (.cells #[.slice none 0 0] 24)
            have s1a := s1.next (w' := wr.alloc (.cells #[.slice none 0 0] 24)) ((Below.refl _ _).alloc (Nat.le_refl _) _)
            go_wp2_with (at_builtin; refine appS1 rfl _ _ rfl (w.heap.size + 1) wr.heap.size A n c _ rfl ho1 wr.heap.size 1 (.slice none 0 0) [] rfl ((Row.new _ _ _).cell 0) (Inn.none_ _ _ _) (by omega) (by omega) (by simp) ?_; intro A' c' w5 ho5 hg5 hat5 b5)
            have S : HeadQ w wo.heap.size w3.heap.size L k A1 n1 ys (.slice A' (n + 1) c') w5 := by
              refine ⟨A', n + 1, c', rfl, hlt2, by omega, ?_, fun q hq => ?_, Seg.away s1a hg5 hne, Row.away hr1 hg5 hneB, (hb.alloc (by omega) _).trans (b5.mono (by omega)), ?_⟩
              · rw [show n + 1 - (plainL L k).length = (n - (plainL L k).length) + 1 by omega, List.replicate_succ', ← List.append_assoc]
                exact ho5
              · rcases hat5 with h | h
                · exact hloc q (by rw [← h]; exact hq)
                · rw [h] at hq
                  injection hq with hq
                  simp at hq
                  omega
              · have := hg5.size; simp at this; omega
            have HS := Lib.hid S
            clear S ho5 hg5 hat5 b5 ho1 hr1 s1a ho hloc s1 hr hb hne hneB
            go_wp2
            go_roundw
            case rel => exact HS.out
            case measure => simp [lenOf]; omega
          · have hkn : n = k := by omega
            subst hkn
            obtain ⟨b1, off1, e1, _, _⟩ := s1.2 (by omega)
            subst e1
            rw [plain_pad] at ho
            have LC := Lib.hid (cloneInts b1 off1 n1 c1 ys wr s1 (by omega))
            go_wp2_with (first
              | (go_at_call 99; refine LC.out.mono ?_; rintro e w5 ⟨A5, n5, c5, rfl, o5, bb5⟩; have z5 := bb5.size; have ho5 := (ho.next bb5).next (w' := w5.alloc (.cells #[.slice A5 n5 c5] 24)) ((Below.refl _ _).alloc (Nat.le_refl _) _); have i5 := (inn_own o5).next (w' := w5.alloc (.cells #[.slice A5 n5 c5] 24)) ((Below.refl _ _).alloc (Nat.le_refl _) _); have i6 := Inn.wider i5 (Nat.le_refl _) (show w5.heap.size ≤ (w5.alloc (.cells #[.slice A5 n5 c5] 24)).heap.size by simp); have r5 := (hr.next bb5).alloc (.cells #[.slice A5 n5 c5] 24))
              | (at_builtin; refine appS1 rfl _ _ rfl (w.heap.size + 1) wr.heap.size A n c _ rfl ho5 w5.heap.size 1 (.slice A5 n5 c5) ys rfl ((Row.new _ _ _).cell 0) i6 (by omega) (by omega) (by simp; omega) ?_; intro A' c' w6 ho6 hg6 hat6 b6))
            have S : HeadP w L (.slice A' (n + 1) c') (.int .i64 ((n : Int) + 1)) w6 := by
              refine ⟨n + 1, A', n + 1, c', hlt, by simp, rfl, Nat.le_refl _, ?_, Row.away r5 hg6 hneB, ((hb.trans (bb5.mono (by omega))).alloc (by omega) _).trans (b6.mono (by omega))⟩
              rw [plain_new (by rw [HY.out]; exact HNE.out) (by rw [HY.out]; exact hL1), HY.out]
              exact ho6
            have HS := Lib.hid S
            clear S ho6 hg6 hat6 b6 ho5 i5 i6 r5 o5 bb5 ho hloc s1 hr hb hne hneB LC
            go_wp2
            go_roundw
            case rel => exact HS.out
            case measure => simp [intOf]; omega
    · have hk24 : k = 24 := by omega
      subst hk24
      have hcell : wo.cell? ⟨w.heap.size, 0, none⟩ = some (.slice none 0 0) := hr.cell 0
      have hfr : wo.frozen? ⟨w.heap.size, 0, none⟩ = false := hr.free 0
      have F : AnsSubst w (plainL L 24) (.returned (.agg #[.slice A n c])) (wo.setCell ⟨w.heap.size, 0, none⟩ (.slice A n c)) :=
        ⟨A, n, c, rfl, (owns_put ho hr (Nat.lt_succ_self _) 0 _).wider (by omega) (by simp), hb.setCell (Nat.le_refl _) _⟩
      have HF := Lib.hid F
      clear F ho hr hb
      go_wp2
      exact bodyPost_ret (v := .agg #[.slice A n c]) (by simp [results, Try.results61, go_sem, hcell]) rfl HF.out
end Go.Proofs.Ytkmhnkljigncmaa.plain
end

section
/-
  CONTRACT: append of one list to a slice of slices of the call's own (as XPlain's), with what the cells hold afterwards; lists that keep out of given blocks ('Avoid'). By an AI agent.
-/
namespace Go.Proofs.Ytkmhnkljigncmaa.appZ
open Go.RowKit Go.Proofs.Ytkmhnkljigncmaa.base Go.Proofs.Ytkmhnkljigncmaa.ints Go.Proofs.Ytkmhnkljigncmaa.cursor Go.Proofs.Ytkmhnkljigncmaa.same Go.Proofs.Ytkmhnkljigncmaa.marks Go.Proofs.Ytkmhnkljigncmaa.app Go.Proofs.Ytkmhnkljigncmaa.appAt Go.Proofs.Ytkmhnkljigncmaa.sym Go.Proofs.Ytkmhnkljigncmaa.sub Go.Proofs.Ytkmhnkljigncmaa.segs Go.Proofs.Ytkmhnkljigncmaa.segsHelp Go.Proofs.Ytkmhnkljigncmaa.kinds Go.Proofs.Ytkmhnkljigncmaa.look Go.Proofs.Ytkmhnkljigncmaa.plain
set_option maxRecDepth 100000

set_option maxHeartbeats 1000000 in
/-- append of one list, and what the cells hold -/
theorem appS1Z {w : World} {ops : Array Oper} {rest : List Oper} {o : Oper} {a : Act} {Q : Exit → Act → World → Prop} (hgd : o.guard = none) (s x : Operand)
    (ho : o.op = .call { callee := .builtin .append, args := #[s, x], argTypes := #[29, 29] })
    (lo mid : Nat) (A : Option Addr) (n c : Nat) (xss : List (List Int)) (hs : a.eval s = .slice A n c) (hown : Owns w lo mid A n c xss)
    (g c2 : Nat) (v : Value) (ys : List Int) (hx : a.eval x = .slice (some ⟨g, 0, none⟩) 1 c2) (hy : w.cell? ⟨g, 0, none⟩ = some v) (hv : Inn w mid w.heap.size v ys) (hn : n ≤ 1048576) (hlo : lo ≤ mid) (hmid : mid ≤ w.heap.size)
    (h : ∀ A' c' w', Owns w' lo w'.heap.size A' (n + 1) c' (xss ++ [ys]) → w.grownBy w' (blk A) → (blk A' = blk A ∨ blk A' = some w.heap.size) → Below lo w w' → (∀ j b' u, j < n + 1 → A' = some ⟨b', 0, none⟩ → w'.cell? ⟨b', j, none⟩ = some u → (∃ b, j < n ∧ A = some ⟨b, 0, none⟩ ∧ w.cell? ⟨b, j, none⟩ = some u) ∨ (j = n ∧ u = v)) → wpList Try.prog ops Q rest (a.put o.dst (.slice A' (n + 1) c')) w') : wpList Try.prog ops Q (o :: rest) a w := by
  obtain ⟨i0, hi, hz0, hz1, hz2⟩ := info_parts info_list
  obtain ⟨hlen, ⟨vs, hr, hin, hap⟩, htop⟩ := hown
  have hvl : vs.length = n := by have := hr.1; omega
  have hvc : v.oneCell' = true := by obtain ⟨A1, c1, rfl, _⟩ := hv; rfl
  refine wpList_append_own_at w hgd s x 29 ho lo 24 i0 (.slice none 0 0) 1 24 Try.underlying29 hi hz0 hz1 hz2 rfl (by decide) (.slice A n c) n vs hs hr
    ⟨g, 0, none⟩ 1 c2 [v] hx rfl (fun j u hj => ?_) (fun u hu => ?_) (by unfold maxLen; omega) (by omega) (by omega) ?_
  · match j, hj with
    | 0, hj => simp at hj; subst hj; simpa [Addr.add] using hy
  · simp at hu; subst hu; exact hvc
  · intro v' w' hown' hg _ hat
    have hform : ∃ A' c', v' = .slice A' (n + 1) c' := by
      rcases hown'.2 with ⟨_, h0⟩ | ⟨g', cap, cur, e, _⟩
      · omega
      · exact ⟨_, _, e⟩
    obtain ⟨A', c', rfl⟩ := hform
    rw [blk_own] at hg
    rw [blk_own, blk_own] at hat
    have hsz := hg.size
    have hne : ∀ {u : Value} {zs : List Int} {l2 h2 : Nat}, Inn w l2 h2 u zs → u.ownBlock = none ∨ u.ownBlock ≠ blk A := fun {u zs l2 h2} hu => by
      rcases own_form hr with ⟨rfl, _⟩ | ⟨g', cur, rfl, _, hrow, _⟩
      · cases e : u.ownBlock with
        | none => exact .inl rfl
        | some z => exact .inr (fun e2 => by cases e2)
      · exact .inr (hu.ne hrow)
    have hget : ∀ j, j < n → (vs ++ [v]).getD j undef = vs.getD j undef := fun j hj => by simp [List.getD, List.getElem?_append_left (show j < vs.length by omega)]
    have hget2 : ∀ j, j < n → (xss ++ [ys]).getD j [] = xss.getD j [] := fun j hj => by simp [List.getD, List.getElem?_append_left (show j < xss.length by omega)]
    have hnew : (vs ++ [v]).getD n undef = v := by simp [List.getD, ← hvl]
    have hnew2 : (xss ++ [ys]).getD n [] = ys := by simp [List.getD, ← hlen]
    refine h A' c' w' ⟨by simp [hlen], ⟨vs ++ [v], hown', fun j hj => ?_, fun i j k hij hj e1 e2 => ?_⟩, fun k hk => (World.ownsRow.lt hown' k (by rw [blk_own]; exact hk)).2⟩ hg hat ?_ ?_
    · by_cases e : j = n
      · subst e
        rw [hnew, hnew2]
        exact (hv.kept hg (hne hv)).wider (by omega) (by omega)
      · rw [hget j (by omega), hget2 j (by omega)]
        exact ((hin j (by omega)).kept hg (hne (hin j (by omega)))).wider (Nat.le_refl _) (by omega)
    · by_cases e : j = n
      · subst e
        rw [hget i hij] at e1
        rw [hnew] at e2
        have h1 := ((hin i hij).blk k e1).2.1
        have h2 := (hv.blk k e2).1
        omega
      · rw [hget i (by omega)] at e1
        rw [hget j (by omega)] at e2
        exact hap i j k hij (by omega) e1 e2
    · refine (Below.refl lo w).grown hg (by omega) (fun k hk => ?_)
      exact (World.ownsRow.lt hr k (by rw [blk_own]; exact hk)).1
    · intro j b' u hj e hc
      subst e
      rcases own_form (n := n + 1) hown' with ⟨e, _⟩ | ⟨g', cur, e, _, hrow, _, _, _, _, hcell⟩
      · cases e
      · injection e with e
        injection e with e1
        subst e1
        rw [hrow.cell j, hcell j hj] at hc
        injection hc with hc
        by_cases e : j = n
        · subst e
          rw [hnew] at hc
          exact .inr ⟨rfl, hc.symm⟩
        · rw [hget j (by omega)] at hc
          rcases own_form hr with ⟨_, h0, _⟩ | ⟨g2, cur2, rfl, _, hrow2, _, _, _, _, hcell2⟩
          · omega
          · exact .inl ⟨g2, by omega, rfl, by rw [hrow2.cell j, hcell2 j (by omega), hc]⟩

/-- no list of the slice lies in a block of Z -/
def Avoid (Z : Nat → Prop) (w : World) (A : Option Addr) (n : Nat) : Prop := ∀ j b v, j < n → A = some ⟨b, 0, none⟩ → w.cell? ⟨b, j, none⟩ = some v → ∀ z, Z z → v.ownBlock ≠ some z
section
variable {Z : Nat → Prop} {w w' : World} {lo hi n c : Nat} {A : Option Addr} {xss : List (List Int)}
theorem Avoid.nil : Avoid Z w none 0 := fun j b v hj _ _ => absurd hj (Nat.not_lt_zero _)
theorem Avoid.less {Z' : Nat → Prop} (h : Avoid Z w A n) (hz : ∀ z, Z' z → Z z) : Avoid Z' w A n := fun j b v hj e hc z h' => h j b v hj e hc z (hz z h')
theorem Avoid.keep (h : Avoid Z w A n) (hb : ∀ b j, A = some ⟨b, 0, none⟩ → w'.cell? ⟨b, j, none⟩ = w.cell? ⟨b, j, none⟩) : Avoid Z w' A n := fun j b v hj e hc => h j b v hj e (by rw [← hb b j e]; exact hc)
/-- new blocks are in no list that stands -/
theorem Avoid.fresh (h : Owns w lo hi A n c xss) (hZ : ∀ z, Z z → hi ≤ z) : Avoid Z w A n := fun j b v hj e hc z hz e2 => by
  obtain ⟨_, ⟨vs, hr, hin, _⟩, _⟩ := h
  rcases own_form hr with ⟨_, h0, _⟩ | ⟨g, cur, e3, _, hrow, _, _, _, _, hcell⟩
  · omega
  · rw [e3] at e
    injection e with e
    injection e with e
    subst e
    rw [hrow.cell j, hcell j hj] at hc
    injection hc with hc
    rw [← hc] at e2
    have := ((hin j hj).blk z e2).2.1
    have := hZ z hz
    omega
/-- a slice of lists stays, where a block is written in which neither it nor one of its lists lies -/
theorem Avoid.owns {r : Option Nat} (h : Owns w lo hi A n c xss) (ha : Avoid (fun z => r = some z) w A n) (hne : ∀ k, blk A = some k → r ≠ some k) (hg : w.grownBy w' r) : Owns w' lo hi A n c xss := by
  obtain ⟨hl, ⟨vs, hr, hin, hap⟩, top⟩ := h
  refine ⟨hl, ⟨vs, World.ownsRow.kept hr hg ?_, fun j hj => (hin j hj).kept hg ?_, hap⟩, top⟩
  · rw [blk_own]
    cases e : blk A with
    | none => exact .inl rfl
    | some k => exact .inr (fun h => hne k e h.symm)
  · rcases own_form hr with ⟨_, h0, _⟩ | ⟨g, cur, e3, _, hrow, _, _, _, _, hcell⟩
    · omega
    · cases e : (vs.getD j undef).ownBlock with
      | none => exact .inl rfl
      | some k => exact .inr (fun h => ha j g (vs.getD j undef) hj e3 (by rw [hrow.cell j, hcell j hj]) k h.symm e)
end
end Go.Proofs.Ytkmhnkljigncmaa.appZ
end

section
/-
  THE TWO TABLES of spec.l5General: two lists of lists of the caller's own, of which calls may write the blocks ('Tabs'), and what stays when only these two blocks are written ('Two'). By an AI agent.
-/
namespace Go.Proofs.Ytkmhnkljigncmaa.genTab
open Go.RowKit Go.Proofs.Ytkmhnkljigncmaa.base Go.Proofs.Ytkmhnkljigncmaa.ints Go.Proofs.Ytkmhnkljigncmaa.sig Go.Proofs.Ytkmhnkljigncmaa.cursor Go.Proofs.Ytkmhnkljigncmaa.marks Go.Proofs.Ytkmhnkljigncmaa.app Go.Proofs.Ytkmhnkljigncmaa.appAt Go.Proofs.Ytkmhnkljigncmaa.sym Go.Proofs.Ytkmhnkljigncmaa.segs Go.Proofs.Ytkmhnkljigncmaa.segsHelp Go.Proofs.Ytkmhnkljigncmaa.term Go.Proofs.Ytkmhnkljigncmaa.sub Go.Proofs.Ytkmhnkljigncmaa.unifMath Go.Proofs.Ytkmhnkljigncmaa.genMath Go.Proofs.Ytkmhnkljigncmaa.genPos Go.Proofs.Ytkmhnkljigncmaa.appZ

/-- the table grows by no more than there is to read -/
theorem gs_len {sg : List Int} {T T' : Tb} {n : Nat} {u w g : List Int} (h : Gs sg T n u w g T') : T'.length ≤ T.length + u.length := by
  induction h with
  | nil T => simp
  | sym _ _ _ ih => simp only [List.length_cons] at *; omega
  | old hs _ _ _ _ ih =>
    obtain ⟨x, r, e, _⟩ := trm_cons hs
    subst e
    simp only [List.length_append, List.length_cons] at *
    omega
  | new hs _ _ _ _ ih =>
    obtain ⟨x, r, e, _⟩ := trm_cons hs
    subst e
    simp only [List.length_append, List.length_cons, List.length_nil] at *
    omega
theorem gs_glen {sg : List Int} {T T' : Tb} {n : Nat} {u w g : List Int} (h : Gs sg T n u w g T') : g.length ≤ u.length := by
  induction h with
  | nil T => simp
  | sym _ _ _ ih => simp only [List.length_cons] at *; omega
  | old hs _ _ _ _ ih =>
    obtain ⟨x, r, e, _⟩ := trm_cons hs
    subst e
    simp only [List.length_append, List.length_cons] at *
    omega
  | new hs _ _ _ _ ih =>
    obtain ⟨x, r, e, _⟩ := trm_cons hs
    subst e
    simp only [List.length_append, List.length_cons] at *
    omega

section
variable {w w' : World} {lo hi n c : Nat} {A L R : Option Addr} {xss : List (List Int)}
theorem topRow (h : Owns w lo hi L n c xss) : ∀ k, blk L = some k → (∃ cs, Row w k 24 cs) ∧ lo ≤ k ∧ k < w.heap.size := fun k hk => by
  obtain ⟨_, ⟨vs, hr, _, _⟩, _⟩ := h
  rcases own_form hr with ⟨rfl, _⟩ | ⟨g, cur, rfl, hb, hg, _⟩
  · cases hk
  · injection hk with hk
    subst hk
    exact ⟨⟨cur, hg⟩, hb, hg.lt⟩
/-- one table stays where the other one's block is written -/
theorem keepTab (h : Owns w lo hi A n c xss) (hL : ∀ k, blk L = some k → ∃ cs, Row w k 24 cs) (hne : ∀ k, blk L = some k → blk A ≠ some k) (hg : w.grownBy w' (blk L)) : Owns w' lo hi A n c xss := by
  obtain ⟨hl, ⟨vs, hr, hin, hap⟩, top⟩ := h
  refine ⟨hl, ⟨vs, World.ownsRow.kept hr hg ?_, fun j hj => (hin j hj).kept hg ?_, hap⟩, top⟩
  · rw [blk_own]
    cases e : blk L with
    | none => cases e' : blk A with
      | none => exact .inl rfl
      | some k => exact .inr (fun h => by cases h)
    | some k => exact .inr (hne k e)
  · cases e : blk L with
    | none => cases e' : (vs.getD j undef).ownBlock with
      | none => exact .inl rfl
      | some k => exact .inr (fun h => by cases h)
    | some k =>
      obtain ⟨cs, hc⟩ := hL k e
      exact .inr ((hin j hj).ne hc)
/-- only the blocks of L and R have turned -/
structure Two (w w' : World) (L R : Option Addr) : Prop where
  os : w'.os = w.os
  tape : w'.tape = w.tape
  output : w'.output = w.output
  size : w.heap.size ≤ w'.heap.size
  block : ∀ k, k < w.heap.size → blk L ≠ some k → blk R ≠ some k → w'.heap[k]? = w.heap[k]?
theorem Two.of_below (h : Below w.heap.size w w') : Two w w' L R := ⟨h.os, h.tape, h.output, h.size, fun k hk _ _ => h.block k hk⟩
theorem Two.left (h : w.grownBy w' (blk L)) : Two w w' L R := ⟨h.os, h.tape, h.output, h.size, fun k hk h1 _ => h.block k hk (fun e => h1 e.symm)⟩
theorem Two.right (h : w.grownBy w' (blk R)) : Two w w' L R := ⟨h.os, h.tape, h.output, h.size, fun k hk _ h2 => h.block k hk (fun e => h2 e.symm)⟩
theorem Two.trans {w1 w2 : World} {L1 R1 : Option Addr} (h : Two w w1 L R) (h' : Two w1 w2 L1 R1) (hL : ∀ k, blk L1 = some k → k < w.heap.size → blk L = some k) (hR : ∀ k, blk R1 = some k → k < w.heap.size → blk R = some k) : Two w w2 L R :=
  ⟨h'.os.trans h.os, h'.tape.trans h.tape, h'.output.trans h.output, Nat.le_trans h.size h'.size, fun k hk h1 h2 => (h'.block k (Nat.lt_of_lt_of_le hk h.size) (fun e => h1 (hL k e hk)) (fun e => h2 (hR k e hk))).trans (h.block k hk h1 h2)⟩
theorem Two.below {B : Nat} (h : Two w w' L R) (hL : ∀ k, blk L = some k → B ≤ k) (hR : ∀ k, blk R = some k → B ≤ k) (hB : B ≤ w.heap.size) : Below B w w' :=
  ⟨h.os, h.tape, h.output, h.size, fun k hk => h.block k (by omega) (fun e => by have := hL k e; omega) (fun e => by have := hR k e; omega)⟩
theorem Two.row {g : Nat} {t : TypeId} {cs : Array Value} (h : Two w w' L R) (hr : Row w g t cs) (h1 : blk L ≠ some g) (h2 : blk R ≠ some g) : Row w' g t cs := (h.block g hr.lt h1 h2).trans hr
/-- a list of numbers of the call's own stays -/
theorem Two.own {base : Nat} {v : Value} {xs : List Int} (h : Two w w' L R) (ho : Own w base v xs) (hL : ∀ k, blk L = some k → ∃ cs, Row w k 24 cs) (hR : ∀ k, blk R = some k → ∃ cs, Row w k 24 cs) : Own w' base v xs := by
  obtain ⟨h1, h2⟩ := ho
  refine ⟨h1, ?_⟩
  rcases h2 with h2 | ⟨g, cap, cur, e, hb, hg, hn, hm, hs, ht⟩
  · exact .inl h2
  · refine .inr ⟨g, cap, cur, e, hb, Two.row h hg (fun e => ?_) (fun e => ?_), hn, hm, hs, ht⟩
    · obtain ⟨cs, hc⟩ := hL g e
      exact Row.ne_ hg hc (by decide) rfl
    · obtain ⟨cs, hc⟩ := hR g e
      exact Row.ne_ hg hc (by decide) rfl

/-- the two tables: left, right, their blocks apart -/
structure Tabs (w : World) (lo : Nat) (L : Option Addr) (n lc : Nat) (R : Option Addr) (rc : Nat) (T : Tb) : Prop where
  l : Owns w lo w.heap.size L n lc (T.map Prod.fst)
  r : Owns w lo w.heap.size R n rc (T.map Prod.snd)
  ne : ∀ k, blk L = some k → blk R ≠ some k
variable {lc rc : Nat} {T : Tb}
theorem Tabs.len (h : Tabs w lo L n lc R rc T) : T.length = n := by have := h.l.len; simpa using this
theorem Tabs.next (h : Tabs w lo L n lc R rc T) (hb : Below w.heap.size w w') : Tabs w' lo L n lc R rc T := ⟨(h.l.next hb).wider (Nat.le_refl _) hb.size, (h.r.next hb).wider (Nat.le_refl _) hb.size, h.ne⟩
theorem Tabs.rowL (h : Tabs w lo L n lc R rc T) : ∀ k, blk L = some k → ∃ cs, Row w k 24 cs := fun k hk => (topRow h.l k hk).1
theorem Tabs.rowR (h : Tabs w lo L n lc R rc T) : ∀ k, blk R = some k → ∃ cs, Row w k 24 cs := fun k hk => (topRow h.r k hk).1
theorem Tabs.loL (h : Tabs w lo L n lc R rc T) : ∀ k, blk L = some k → lo ≤ k := fun k hk => (topRow h.l k hk).2.1
theorem Tabs.loR (h : Tabs w lo L n lc R rc T) : ∀ k, blk R = some k → lo ≤ k := fun k hk => (topRow h.r k hk).2.1
theorem Tabs.start (w : World) (lo : Nat) : Tabs w lo none 0 0 none 0 [] := ⟨Owns.nil _ _ _, Owns.nil _ _ _, fun k hk => by cases hk⟩
/-- both tables one pair longer -/
theorem Tabs.push {w1 w2 : World} {L' R' : Option Addr} {lc' rc' : Nat} {u v : List Int} (_ : Tabs w lo L n lc R rc T) (hs : w.heap.size ≤ w1.heap.size) (hl1 : Owns w1 lo w1.heap.size L' (n + 1) lc' (T.map Prod.fst ++ [u])) (hr2 : Owns w2 lo w2.heap.size R' (n + 1) rc' (T.map Prod.snd ++ [v])) (hl2 : Owns w2 lo w2.heap.size L' (n + 1) lc' (T.map Prod.fst ++ [u]))
    (hne : ∀ k, blk L' = some k → blk R ≠ some k) (hat : blk R' = blk R ∨ blk R' = some w1.heap.size) : Tabs w2 lo L' (n + 1) lc' R' rc' (T ++ [(u, v)]) := by
  refine ⟨by simpa using hl2, by simpa using hr2, fun k hk => ?_⟩
  rcases hat with e | e
  · rw [e]; exact hne k hk
  · rw [e]
    intro h
    injection h with h
    have := hl1.top k hk
    omega
end

/-- what l5General gives -/
def AnsGen (sg : List Int) (w : World) (lo : Nat) (L R : Option Addr) (n : Nat) (T : Tb) (u v : List Int) (e : Ending) (w' : World) : Prop :=
  ∃ (g : List Int) (T' : Tb) (O L' R' : Option Addr) (on oc n' lc' rc' : Nat), e = .returned (.tuple #[.slice O on oc, .slice L' n' lc', .slice R' n' rc']) ∧ Own w' w.heap.size (.slice O on oc) g ∧ Gs sg T 1 u v g T' ∧ Tabs w' lo L' n' lc' R' rc' T' ∧ Two w w' L R ∧
    (∀ k, blk L' = some k → k < w.heap.size → blk L = some k) ∧ (∀ k, blk R' = some k → k < w.heap.size → blk R = some k) ∧
    ∀ Z : Nat → Prop, (∀ z, Z z → z < w.heap.size) → Avoid Z w L n → Avoid Z w R n → Avoid Z w' L' n' ∧ Avoid Z w' R' n'
end Go.Proofs.Ytkmhnkljigncmaa.genTab
end

section
/-
  CONTRACT: spec.l5General, where the two places do not hold one symbol: the pair is looked for in the tables, or put there. Conditions: the slices read as lists, the places begin subterms, the lists of the tables are at most 1048576 numbers long. (Written by tools/mkgen.py.) By an AI agent.
-/
namespace Go.Proofs.Ytkmhnkljigncmaa.genSpec
open Go.RowKit Go.Proofs.Ytkmhnkljigncmaa.base Go.Proofs.Ytkmhnkljigncmaa.ints Go.Proofs.Ytkmhnkljigncmaa.sig Go.Proofs.Ytkmhnkljigncmaa.cursor Go.Proofs.Ytkmhnkljigncmaa.marks Go.Proofs.Ytkmhnkljigncmaa.app Go.Proofs.Ytkmhnkljigncmaa.appAt Go.Proofs.Ytkmhnkljigncmaa.sym Go.Proofs.Ytkmhnkljigncmaa.segs Go.Proofs.Ytkmhnkljigncmaa.segsHelp Go.Proofs.Ytkmhnkljigncmaa.term Go.Proofs.Ytkmhnkljigncmaa.sub Go.Proofs.Ytkmhnkljigncmaa.look Go.Proofs.Ytkmhnkljigncmaa.plain Go.Proofs.Ytkmhnkljigncmaa.same Go.Proofs.Ytkmhnkljigncmaa.posMath Go.Proofs.Ytkmhnkljigncmaa.unifMath Go.Proofs.Ytkmhnkljigncmaa.genMath Go.Proofs.Ytkmhnkljigncmaa.genPos Go.Proofs.Ytkmhnkljigncmaa.genTab Go.Proofs.Ytkmhnkljigncmaa.appZ
set_option maxRecDepth 100000

theorem drewN_below (w : World) (d : Nat) : Below w.heap.size w (w.drewN d) := ⟨rfl, rfl, rfl, Nat.le_refl _, fun _ _ => rfl⟩
/-- what stands in the course of the call -/
structure Gw (w wr : World) (lo : Nat) (A : Option Addr) (n c : Nat) (sg : List Int) (P : Option Addr) (m : Nat) (a : List Int) (Q : Option Addr) (k : Nat) (b : List Int) (L : Option Addr) (ln lc : Nat) (R : Option Addr) (rc : Nat) (T : Tb) : Prop where
  r0 : Row wr w.heap.size 26 #[.slice A n c]
  s : Seg wr lo A n sg
  pa : Seg wr lo P m a
  qb : Seg wr lo Q k b
  t : Tabs wr lo L ln lc R rc T
  le : lo ≤ w.heap.size
  bel : Below w.heap.size w wr
section
variable {w wr w' : World} {lo : Nat} {A : Option Addr} {n c : Nat} {sg : List Int} {P : Option Addr} {m : Nat} {a : List Int} {Q : Option Addr} {k : Nat} {b : List Int} {L : Option Addr} {ln lc : Nat} {R : Option Addr} {rc : Nat} {T : Tb}
theorem Gw.next (h : Gw w wr lo A n c sg P m a Q k b L ln lc R rc T) (hb : Below wr.heap.size wr w') : Gw w w' lo A n c sg P m a Q k b L ln lc R rc T :=
  have hw : Below w.heap.size wr w' := hb.mono h.bel.size
  have hl : Below lo wr w' := hw.mono h.le
  ⟨h.r0.next hb, h.s.below hl, h.pa.below hl, h.qb.below hl, h.t.next hb, h.le, h.bel.trans hw⟩
theorem Gw.c0 (h : Gw w wr lo A n c sg P m a Q k b L ln lc R rc T) : wr.cell? ⟨w.heap.size, 0, none⟩ = some (.slice A n c) := h.r0.cell 0
theorem Gw.low (h : Gw w wr lo A n c sg P m a Q k b L ln lc R rc T) : lo ≤ wr.heap.size := Nat.le_trans h.le h.bel.size
theorem Gw.start (h : Seg w lo A n sg) (hp : Seg w lo P m a) (hq : Seg w lo Q k b) (ht : Tabs w lo L ln lc R rc T) (hl : lo ≤ w.heap.size) : Gw w (w.alloc (.cells #[.slice A n c] 26)) lo A n c sg P m a Q k b L ln lc R rc T := by
  have b0 : Below w.heap.size w (w.alloc (.cells #[.slice A n c] 26)) := (Below.refl _ _).alloc (Nat.le_refl _) _
  exact ⟨Row.new _ _ _, h.below (b0.mono hl), hp.below (b0.mono hl), hq.below (b0.mono hl), ht.next b0, hl, b0⟩
end
/-- a new list of one number -/
theorem one_own (w : World) (base : Nat) (x : Int) (hb : base ≤ w.heap.size) : Own (w.alloc (.cells #[.int .i64 x] 2)) base (.slice (some ⟨w.heap.size, 0, none⟩) 1 1) [x] :=
  Own.of_row (Row.new _ _ _) rfl rfl (Nat.le_refl _) (by omega) hb (fun j hj => by
    obtain rfl : j = 0 := by omega
    rfl)
theorem cell2 (w : World) (o : Obj) (v : Value) (t : TypeId) : ((w.alloc o).alloc (.cells #[v] t)).cell? ⟨w.heap.size + 1, 0, none⟩ = some v := by simp
theorem tb_at {T : Tb} {i : Nat} {u v : List Int} (hi : i < T.length) (h1 : (T.map Prod.fst).getD i [] = u) (h2 : (T.map Prod.snd).getD i [] = v) : T[i]? = some (u, v) := by
  simp [List.getD, hi] at h1 h2
  rw [List.getElem?_eq_getElem hi, ← h1, ← h2]
theorem tb_not {T : Tb} {i : Nat} {u v : List Int} (hi : i < T.length) (h : ¬ ((T.map Prod.fst).getD i [] = u ∧ (T.map Prod.snd).getD i [] = v)) : T[i]? ≠ some (u, v) := by
  intro e
  refine h ?_
  rw [List.getElem?_eq_getElem hi] at e
  injection e with e
  simp [List.getD, hi, e]
theorem tb_mem {T : Tb} {u v : List Int} (h : ∀ j, j < T.length → T[j]? ≠ some (u, v)) : (u, v) ∉ T := by
  intro hm
  obtain ⟨j, hj, e⟩ := List.getElem_of_mem hm
  exact h j hj (by rw [List.getElem?_eq_getElem hj, e])
theorem tb_len {T : Tb} {B i : Nat} (h : ∀ x ∈ T, x.1.length ≤ B ∧ x.2.length ≤ B) : ((T.map Prod.fst).getD i []).length ≤ B ∧ ((T.map Prod.snd).getD i []).length ≤ B := by
  by_cases hi : i < T.length
  · have := h T[i] (List.getElem_mem hi)
    simpa [List.getD, hi] using this
  · simp [List.getD, hi]

section
variable {w wr w' w6 w7 : World} {lo : Nat} {A : Option Addr} {n c : Nat} {sg : List Int} {P : Option Addr} {m : Nat} {a : List Int} {Q : Option Addr} {k : Nat} {b : List Int} {L : Option Addr} {ln lc : Nat} {R : Option Addr} {rc : Nat} {T : Tb} {u v : List Int}
theorem two_alloc (wr : World) (o1 o2 : Obj) : Below wr.heap.size wr ((wr.alloc o1).alloc o2) := ((Below.refl _ _).alloc (Nat.le_refl _) _).alloc (by simp) _
theorem st1 (G : Gw w wr lo A n c sg P m a Q k b L ln lc R rc T) (T0 : Tabs w lo L ln lc R rc T) (o1 o2 : Obj) : Owns ((wr.alloc o1).alloc o2) lo w.heap.size L ln lc (T.map Prod.fst) ∧ Owns ((wr.alloc o1).alloc o2) lo w.heap.size R ln rc (T.map Prod.snd) :=
  have bb := next_trans G.bel (two_alloc wr o1 o2)
  ⟨T0.l.next bb, T0.r.next bb⟩
theorem st2 {B xn xc : Nat} {X : Option Addr} (ox : Own wr B (.slice X xn xc) u) (hB : w.heap.size ≤ B) (o1 o2 : Obj) : Inn ((wr.alloc o1).alloc o2) w.heap.size ((wr.alloc o1).alloc o2).heap.size (.slice X xn xc) u :=
  ((inn_own ox).next (two_alloc wr o1 o2)).wider hB (two_alloc wr o1 o2).size
theorem st3 {wB : World} (hL : Owns wB lo w.heap.size L ln lc (T.map Prod.fst)) (hR : Owns wB lo w.heap.size R ln rc (T.map Prod.snd)) (T0 : Tabs w lo L ln lc R rc T) (hg : wB.grownBy w6 (blk L)) (o : Obj) : Owns (w6.alloc o) lo w.heap.size R ln rc (T.map Prod.snd) :=
  (keepTab hR (fun k hk => (topRow hL k hk).1) T0.ne hg).next ((Below.refl _ _).alloc (Nat.le_refl _) _)
theorem st4 {wB : World} {Y : Option Addr} {yn yc : Nat} (hL : Owns wB lo w.heap.size L ln lc (T.map Prod.fst)) (hy : Inn wB w.heap.size wB.heap.size (.slice Y yn yc) v) (hg : wB.grownBy w6 (blk L)) (o : Obj) : Inn (w6.alloc o) w.heap.size (w6.alloc o).heap.size (.slice Y yn yc) v := by
  have h1 : Inn w6 w.heap.size wB.heap.size (.slice Y yn yc) v := by
    refine hy.kept hg ?_
    cases e : blk L with
    | none => cases e' : (Value.slice Y yn yc).ownBlock with
      | none => exact .inl rfl
      | some k => exact .inr (fun h => by cases h)
    | some k =>
      obtain ⟨cs, hc⟩ := (topRow hL k e).1
      exact .inr (hy.ne hc)
  have b0 : Below w6.heap.size w6 (w6.alloc o) := (Below.refl _ _).alloc (Nat.le_refl _) _
  exact (h1.next b0).wider (Nat.le_refl _) (Nat.le_trans hg.size b0.size)
theorem avPush {Z : Nat → Prop} {w0 wB : World} {L L' : Option Addr} {nn hi : Nat} {x : Value} {xs : List Int} (hZ : ∀ z, Z z → z < w0.heap.size) (bel : Below w0.heap.size w0 wB) (topL : ∀ k, blk L = some k → k < w0.heap.size) (h : Avoid Z w0 L nn) (hv : Inn wB w0.heap.size hi x xs)
    (hcell : ∀ j b' u, j < nn + 1 → L' = some ⟨b', 0, none⟩ → w6.cell? ⟨b', j, none⟩ = some u → (∃ b, j < nn ∧ L = some ⟨b, 0, none⟩ ∧ wB.cell? ⟨b, j, none⟩ = some u) ∨ (j = nn ∧ u = x)) : Avoid Z w6 L' (nn + 1) := by
  intro j b' u hj e hc z hz
  rcases hcell j b' u hj e hc with ⟨b, hj', e2, hc2⟩ | ⟨_, rfl⟩
  · refine h j b u hj' e2 ?_ z hz
    rw [← hc2]
    exact (bel.cell (p := ⟨b, j, none⟩) (topL b (by rw [e2]; rfl))).symm
  · intro e3
    have := (hv.blk z e3).1
    have := hZ z hz
    omega
/-- nothing turned in the tables -/
theorem avSame {Z : Nat → Prop} {nn : Nat} {L : Option Addr} (bel : Below w.heap.size w w') (topL : ∀ k, blk L = some k → k < w.heap.size) (h : Avoid Z w L nn) : Avoid Z w' L nn :=
  h.keep fun b j e => bel.cell (p := ⟨b, j, none⟩) (topL b (by rw [e]; rfl))
/-- the end: both tables one pair longer -/
theorem st5 {L' R' : Option Addr} {lc' rc' : Nat} (x : Int) (o2 o3 : Obj) (G : Gw w wr lo A n c sg P m a Q k b L ln lc R rc T) (T0 : Tabs w lo L ln lc R rc T) (hgs : Gs sg T 1 u v [x] (T ++ [(u, v)]))
    (hg6 : ((wr.alloc (.cells #[.int .i64 x] 2)).alloc o2).grownBy w6 (blk L)) (ho6 : Owns w6 lo w6.heap.size L' (ln + 1) lc' (T.map Prod.fst ++ [u])) (hat6 : blk L' = blk L ∨ blk L' = some ((wr.alloc (.cells #[.int .i64 x] 2)).alloc o2).heap.size)
    (hg7 : (w6.alloc o3).grownBy w7 (blk R)) (ho7 : Owns w7 lo w7.heap.size R' (ln + 1) rc' (T.map Prod.snd ++ [v])) (hat7 : blk R' = blk R ∨ blk R' = some (w6.alloc o3).heap.size) {vX vY : Value}
    (hX : Inn ((wr.alloc (.cells #[.int .i64 x] 2)).alloc o2) w.heap.size ((wr.alloc (.cells #[.int .i64 x] 2)).alloc o2).heap.size vX u) (hY : Inn (w6.alloc o3) w.heap.size (w6.alloc o3).heap.size vY v)
    (hc6 : ∀ j b' z, j < ln + 1 → L' = some ⟨b', 0, none⟩ → w6.cell? ⟨b', j, none⟩ = some z → (∃ b, j < ln ∧ L = some ⟨b, 0, none⟩ ∧ ((wr.alloc (.cells #[.int .i64 x] 2)).alloc o2).cell? ⟨b, j, none⟩ = some z) ∨ (j = ln ∧ z = vX))
    (hc7 : ∀ j b' z, j < ln + 1 → R' = some ⟨b', 0, none⟩ → w7.cell? ⟨b', j, none⟩ = some z → (∃ b, j < ln ∧ R = some ⟨b, 0, none⟩ ∧ (w6.alloc o3).cell? ⟨b, j, none⟩ = some z) ∨ (j = ln ∧ z = vY)) :
    AnsGen sg w lo L R ln T u v (.returned (.tuple #[.slice (some ⟨wr.heap.size, 0, none⟩) 1 1, .slice L' (ln + 1) lc', .slice R' (ln + 1) rc'])) w7 := by
  have hz := G.bel.size
  have tL : ∀ k, blk L = some k → k < w.heap.size := T0.l.top
  have tR : ∀ k, blk R = some k → k < w.heap.size := T0.r.top
  obtain ⟨k1, k2⟩ := st1 G T0 (.cells #[.int .i64 x] 2) o2
  have k3 := st3 k1 k2 T0 hg6 o3
  have z1 : ((wr.alloc (.cells #[.int .i64 x] 2)).alloc o2).heap.size = wr.heap.size + 1 + 1 := by simp
  have z6 := hg6.size
  have b6 : Below w6.heap.size w6 (w6.alloc o3) := (Below.refl _ _).alloc (Nat.le_refl _) _
  have z7 := hg7.size
  have zb := b6.size
  have hne : ∀ k, blk R = some k → blk L' ≠ some k := fun k hk e => by
    rcases hat6 with h | h
    · rw [h] at e; exact T0.ne k e hk
    · rw [h] at e
      injection e with e
      have := tR k hk
      omega
  have o6 := (ho6.next b6).wider (Nat.le_refl lo) zb
  have o7 : Owns w7 lo w7.heap.size L' (ln + 1) lc' (T.map Prod.fst ++ [u]) := (keepTab o6 (fun k hk => (topRow k3 k hk).1) hne hg7).wider (Nat.le_refl lo) z7
  have hout : Own w7 w.heap.size (.slice (some ⟨wr.heap.size, 0, none⟩) 1 1) [x] := by
    have e0 := one_own wr w.heap.size x hz
    have e1 : Own ((wr.alloc (.cells #[.int .i64 x] 2)).alloc o2) w.heap.size (.slice (some ⟨wr.heap.size, 0, none⟩) 1 1) [x] := Own.next e0 ((Below.refl _ _).alloc (Nat.le_refl _) _)
    have e2 := Own.far e1 hg6 tL
    exact Own.far (Own.next e2 b6) hg7 tR
  have two0 : Two w ((wr.alloc (.cells #[.int .i64 x] 2)).alloc o2) L R := Two.of_below (next_trans G.bel (two_alloc _ _ _))
  have two1 : Two w w6 L R := two0.trans (Two.left (R := R) hg6) (fun k h _ => h) (fun k h _ => h)
  have two2 : Two w (w6.alloc o3) L R := two1.trans (L1 := L) (R1 := R) (Two.of_below b6) (fun k h _ => h) (fun k h _ => h)
  have two3 : Two w w7 L R := two2.trans (L1 := L) (R1 := R) (Two.right hg7) (fun k h _ => h) (fun k h _ => h)
  refine ⟨[x], T ++ [(u, v)], _, L', R', 1, 1, ln + 1, lc', rc', rfl, hout, hgs, ⟨by simpa using o7, by simpa using ho7, fun k hk => ?_⟩, two3, fun k hk hlt => ?_, fun k hk hlt => ?_, fun Z hZ a1 a2 => ⟨?_, ?_⟩⟩
  · rcases hat7 with e | e
    · rw [e]; exact fun h => hne k h hk
    · rw [e]
      intro h
      injection h with h
      have := ho6.top k hk
      omega
  · rcases hat6 with e | e
    · rw [← e]; exact hk
    · rw [e] at hk; injection hk with hk; omega
  · rcases hat7 with e | e
    · rw [← e]; exact hk
    · rw [e] at hk; injection hk with hk; omega
  · refine (avPush hZ (next_trans G.bel (two_alloc _ _ _)) tL a1 hX hc6).keep fun b j e => ?_
    have hb := ho6.top b (by rw [e]; rfl)
    have h1 : (w6.alloc o3).cell? ⟨b, j, none⟩ = w6.cell? ⟨b, j, none⟩ := b6.cell (p := ⟨b, j, none⟩) hb
    rw [← h1]
    exact World.cell?_of_block (hg7.block b (by omega) (fun e2 => hne b e2.symm (by rw [e]; rfl)))
  · have bR : Avoid Z (w6.alloc o3) R ln := by
      refine a2.keep fun b j e => ?_
      have hb := tR b (by rw [e]; rfl)
      have h0 : ((wr.alloc (.cells #[.int .i64 x] 2)).alloc o2).cell? ⟨b, j, none⟩ = w.cell? ⟨b, j, none⟩ := (next_trans G.bel (two_alloc _ _ _)).cell (p := ⟨b, j, none⟩) hb
      have h1 : (w6.alloc o3).cell? ⟨b, j, none⟩ = w6.cell? ⟨b, j, none⟩ := b6.cell (p := ⟨b, j, none⟩) (show b < w6.heap.size by omega)
      rw [h1, ← h0]
      exact World.cell?_of_block (hg6.block b (by omega) (fun e2 => T0.ne b e2.symm (by rw [e]; rfl)))
    intro j b' z hj e hc y hy
    rcases hc7 j b' z hj e hc with ⟨b, hj', e2, hc2⟩ | ⟨_, rfl⟩
    · exact bR j b z hj' e2 hc2 y hy
    · intro e3
      have := (hY.blk y e3).1
      have := hZ y hy
      omega
end

set_option maxHeartbeats 4000000 in
theorem apart (A P Q L R : Option Addr) (n c m mc k kc ln lc rc lo p q j j' : Nat) (sg a b : List Int) (T : Tb) (w : World) (h : Seg w lo A n sg) (hp : Seg w lo P m a) (hq : Seg w lo Q k b) (ht : Tabs w lo L ln lc R rc T) (hlo : lo ≤ w.heap.size) (hn : n ≤ 1048576) (hm : m ≤ 1048576) (hk : k ≤ 1048576) (hcm : m ≤ mc ∧ mc ≤ 9223372036854775807) (hck : k ≤ kc ∧ kc ≤ 9223372036854775807) (hln : ln ≤ 1048576)
    (hs : Arities sg) (hj : scan sg 1 (a.drop p) = some j) (hj' : scan sg 1 (b.drop q) = some j') (hT : ∀ x ∈ T, x.1.length ≤ 1048576 ∧ x.2.length ≤ 1048576) (hnot : ¬ (0 ≤ a.getD p 0 ∧ a.getD p 0 = b.getD q 0)) :
    Calls Try.prog 118 #[.agg #[.slice A n c], .slice P m mc, .int .i64 (p : Int), .slice Q k kc, .int .i64 (q : Int), .slice L ln lc, .slice R ln rc] w (AnsGen sg w lo L R ln T (subL sg a p) (subL sg b q)) := by
  have la := hp.1
  have lb := hq.1
  obtain ⟨_, rfl, hpm, _, _⟩ := scan_args hj
  obtain ⟨_, rfl, hqk, _, _⟩ := scan_args hj'
  have s2 := scan_le hj
  have s3 := scan_le hj'
  rw [List.length_drop] at s2 s3
  rw [la] at hpm s2
  rw [lb] at hqk s3
  have GS := Lib.hid (fun i (e : T[i]? = some (subL sg a p, subL sg b q)) => gp_old hj hj' hnot e)
  have GN := Lib.hid (fun (e : (subL sg a p, subL sg b q) ∉ T) => gp_new hj hj' hnot e)
  have lu : (subL sg a p).length ≤ 1048576 := by unfold subL; rw [List.length_take, List.length_drop]; omega
  have lv : (subL sg b q).length ≤ 1048576 := by unfold subL; rw [List.length_take, List.length_drop]; omega
  obtain ⟨W, hW⟩ : ∃ W, W = w.alloc (.cells #[.slice A n c] 26) := ⟨_, rfl⟩
  have G0 : Gw w W lo A n c sg P m a Q k b L ln lc R rc T := by rw [hW]; exact Gw.start h hp hq ht hlo
  have T0 := Lib.hid ht
  have LP := Lib.hid (fun w' (G : Gw w w' lo A n c sg P m a Q k b L ln lc R rc T) => l1Sub A P n c m mc sg a p _ w' (G.s.more G.low) (G.pa.more G.low) hn hm hcm.1 hcm.2 hs hpm hj (by omega) (by omega))
  have LQ := Lib.hid (fun w' (G : Gw w w' lo A n c sg P m a Q k b L ln lc R rc T) => l1Sub A Q n c k kc sg b q _ w' (G.s.more G.low) (G.qb.more G.low) hn hk hck.1 hck.2 hs hqk hj' (by omega) (by omega))
  obtain ⟨b1, o1, x, rfl, hb1, hx, ex⟩ := G0.pa.spot hpm
  obtain ⟨b2, o2, y, rfl, hb2, hy, ey⟩ := G0.qb.spot hqk
  rw [ex.out, ey.out] at hnot
  have i0 : (0 : Int) ≤ (p : Int) := by omega
  have i1 : (p : Int) < (m : Int) := by omega
  have j0 : (0 : Int) ≤ (q : Int) := by omega
  have j1 : (q : Int) < (k : Int) := by omega
  have HW := Lib.hid hW
  have HT := Lib.hid hT
  have HLT := Lib.hid ht.len
  generalize hu : subL sg a p = u at *
  generalize hv : subL sg b q = v at *
  clear hW h hp hq ht ex ey hT hj hj' s2 s3 hu hv la lb hs
  by_cases h0 : 0 ≤ x
  · have hxy : (x == y) = false := by simp; exact fun e => hnot ⟨h0, e⟩
    clear hnot
    go_enter Try.func118, Try.ntmps118
    go_wp2_with fail
    rw [← HW.out]
    go_quiet (fail)
    have G1 := G0.next (drewN_below W nq)
    have G1w := G1.bel.size
    clear G0 hx hy HW
    generalize W.drewN nq = w1 at *
    have G1z := Lib.hid G1w
    clear G1w
    have c0 := G1.c0
    go_wp2_with fail
    refine (LP.out w1 G1).mono ?_
    rintro e w2 ⟨X, xn, xc, rfl, ox, bb⟩
    have G2 := G1.next bb
    clear c0 G1
    have c0 := G2.c0
    go_wp2_with fail
    refine (LQ.out w2 G2).mono ?_
    rintro e w3 ⟨Y, yn, yc, rfl, oy, bb3⟩
    have G3 := G2.next bb3
    have ox3 := Own.next ox bb3
    have hxl := Lib.hid (Own.len ox)
    have hyl := Lib.hid (Own.len oy)
    have z12 := Lib.hid bb.size
    have z23 := Lib.hid bb3.size
    clear c0 G2 bb bb3 ox LP LQ
    go_wp2_with fail
    go_loopw [26] (fun i wr => ∃ i' d : Nat, i' ≤ ln ∧ i = .int .i64 i' ∧ wr = w3.drewN d ∧ ∀ j, j < i' → T[j]? ≠ some (u, v)) (fun i _ => ln - (intOf i).toNat)
    case atStart => exact ⟨0, 0, Nat.zero_le _, rfl, rfl, fun j hj => absurd hj (Nat.not_lt_zero _)⟩
    case round =>
      obtain ⟨i, d, hi, rfl, hwr, hno⟩ := hrel
      have HNO := Lib.hid hno
      clear hno
      have bd : Below w3.heap.size w3 wr := by rw [hwr]; exact drewN_below w3 d
      have G4 := G3.next bd
      have ox4 := Own.next ox3 bd
      have oy4 := Own.next oy bd
      have HWR := Lib.hid hwr
      have z34 := Lib.hid bd.size
      clear G3 ox3 oy hwr bd
      by_cases hlt : i < ln
      · have i3 : (0 : Int) ≤ (i : Int) := by omega
        have i4 : (i : Int) < (ln : Int) := by omega
        obtain ⟨b3, o3, A1, n1, c1, hLe, hb3, hc3, hs3, hcap3⟩ := G4.t.l.segs.spot hlt
        obtain ⟨b4, o4, A2, n2, c2, hRe, hb4, hc4, hs4, hcap4⟩ := G4.t.r.segs.spot hlt
        subst hLe hRe
        have L1 := Lib.hid (specSame A1 X n1 xn c1 xc _ u wr hs3 (Own.seg ox4) (by rw [← hs3.1]; exact (tb_len HT.out).1) (by rw [hxl.out]; exact lu))
        have L2 := Lib.hid (fun d5 => specSame A2 Y n2 yn c2 yc _ v (wr.drewN d5) (hs4.drewN d5) (Own.seg (Own.drewN oy4 d5)) (by rw [← hs4.1]; exact (tb_len HT.out).2) (by rw [hyl.out]; exact lv))
        have G5 := Lib.hid (fun d => G4.next (drewN_below wr d))
        have SR := Lib.hid (fun d' (hnx : T[i]? ≠ some (u, v)) => (show ∃ i' d : Nat, i' ≤ ln ∧ (.int .i64 ((i : Int) + 1) : Value) = .int .i64 i' ∧ wr.drewN d' = w3.drewN d ∧ ∀ j, j < i' → T[j]? ≠ some (u, v) from ⟨i + 1, d + d', hlt, by simp, by rw [HWR.out, World.drewN_drewN], fun j hj => by
          by_cases e : j = i
          · rw [e]; exact hnx
          · exact HNO.out j (by omega)⟩))
        have hiT : i < T.length := by rw [HLT.out]; exact hlt
        clear hs3 hs4 ox4 oy4 hcap3 hcap4 G4
        go_wp2_with fail
        refine L1.out.mono ?_
        rintro e w5 ⟨he, d5, rfl⟩
        clear L1
        by_cases e1 : (T.map Prod.fst).getD i [] = u
        · rw [decide_eq_true e1] at he
          subst he
          have hc5 : (wr.drewN d5).cell? ⟨b4, o4 + i, none⟩ = some (.slice A2 n2 c2) := hc4
          have L2 := Lib.hid (L2.out d5)
          clear hc3 hc4
          go_wp2_with fail
          refine L2.out.mono ?_
          rintro e w6 ⟨he, d6, rfl⟩
          clear L2
          rw [World.drewN_drewN]
          by_cases e2 : (T.map Prod.snd).getD i [] = v
          · rw [decide_eq_true e2] at he
            subst he
            have G6 := G5.out (d5 + d6)
            have F := Lib.hid (show AnsGen sg w lo (some ⟨b3, o3, none⟩) (some ⟨b4, o4, none⟩) ln T u v (.returned (.tuple #[.slice (some ⟨(wr.drewN (d5 + d6)).heap.size, 0, none⟩) 1 1, .slice (some ⟨b3, o3, none⟩) ln lc, .slice (some ⟨b4, o4, none⟩) ln rc])) ((wr.drewN (d5 + d6)).alloc (.cells #[.int .i64 (-1 - (i : Int))] 2)) from
              ⟨[-1 - (i : Int)], T, _, _, _, 1, 1, ln, lc, rc, rfl, one_own _ _ _ G6.bel.size, GS.out i (tb_at hiT e1 e2), G6.t.next ((Below.refl _ _).alloc (Nat.le_refl _) _), Two.of_below (next_trans G6.bel ((Below.refl _ _).alloc (Nat.le_refl _) _)), fun k h _ => h, fun k h _ => h, fun Z hZ a1 a2 => ⟨avSame (next_trans G6.bel ((Below.refl _ _).alloc (Nat.le_refl _) _)) T0.out.l.top a1, avSame (next_trans G6.bel ((Below.refl _ _).alloc (Nat.le_refl _) _)) T0.out.r.top a2⟩⟩)
            clear G6 G5 SR hc5
            generalize wr.drewN (d5 + d6) = w7 at *
            go_wp2
            go_ret3
            exact F.out
          · rw [decide_eq_false e2] at he
            subst he
            have S := Lib.hid (SR.out (d5 + d6) (tb_not hiT (fun h => e2 h.2)))
            clear SR G5 hc5
            generalize wr.drewN (d5 + d6) = w7 at *
            go_wp2
            go_roundw
            case rel => exact S.out
            case measure => simp [intOf]; omega
        · rw [decide_eq_false e1] at he
          subst he
          have S := Lib.hid (SR.out d5 (tb_not hiT (fun h => e1 h.1)))
          clear SR G5 L2 hc3 hc4
          generalize wr.drewN d5 = w7 at *
          go_wp2
          go_roundw
          case rel => exact S.out
          case measure => simp [intOf]; omega
      · obtain rfl : i = ln := by omega
        have hgs := GN.out (tb_mem (by rw [HLT.out]; exact HNO.out))
        rw [HLT.out] at hgs
        have z0 := G1z.out
        have K := Lib.hid (st1 G4 T0.out)
        have KX := Lib.hid (st2 (w := w) ox4 (by omega))
        have KY := Lib.hid (st2 (w := w) oy4 (by have := z12.out; omega))
        have K3 := Lib.hid (fun (o1 o2 o3 : Obj) w6 (hg : World.grownBy ((wr.alloc o1).alloc o2) w6 (blk L)) => st3 (K.out o1 o2).1 (K.out o1 o2).2 T0.out hg o3)
        have K4 := Lib.hid (fun (o1 o2 o3 : Obj) w6 (hg : World.grownBy ((wr.alloc o1).alloc o2) w6 (blk L)) => st4 (K.out o1 o2).1 (KY.out o1 o2) hg o3)
        have hzr := G4.bel.size
        have F := Lib.hid (fun (o2 o3 : Obj) (L' R' : Option Addr) (lc' rc' : Nat) (w6 w7 : World) (hg6 : World.grownBy ((wr.alloc (.cells #[.int .i64 (-1 - (i : Int))] 2)).alloc o2) w6 (blk L)) ho6 hat6 hg7 ho7 hat7 hX hY hc6 hc7 => st5 (w6 := w6) (w7 := w7) (L' := L') (R' := R') (lc' := lc') (rc' := rc') (-1 - (i : Int)) o2 o3 G4 T0.out hgs hg6 ho6 hat6 hg7 ho7 hat7 (vX := .slice X xn xc) (vY := .slice Y yn yc) hX hY hc6 hc7)
        clear hgs G4 ox4 oy4 GS GN HNO
        go_wp2_with (at_builtin; go_must (refine appS1Z rfl _ _ rfl lo w.heap.size L i lc (T.map Prod.fst) rfl (K.out _ _).1 _ 1 (.slice X xn xc) u rfl (cell2 _ _ _ _) (KX.out _ _) (by omega) (by omega) (by simp; omega) ?_; intro L' lc' w6 ho6 hg6 hat6 b6 hc6; refine (?_ : Hid _).out))
        refine Lib.hid ?_
        go_wp2_with (at_builtin; go_must (refine appS1Z rfl _ _ rfl lo w.heap.size R i rc (T.map Prod.snd) rfl (K3.out _ _ _ _ hg6) _ 1 (.slice Y yn yc) v rfl ((Row.new _ _ _).cell 0) (K4.out _ _ _ _ hg6) (by omega) (by omega) (by have := hg6.size; simp at this ⊢; omega) ?_; intro R' rc' w7 ho7 hg7 hat7 b7 hc7))
        go_wp2
        go_ret3
        exact F.out _ _ _ _ _ _ _ _ hg6 ho6 hat6 hg7 ho7 hat7 (KX.out _ _) (K4.out _ _ _ _ hg6) hc6 hc7
  · have hxd : decide (0 ≤ x) = false := decide_eq_false h0
    go_enter Try.func118, Try.ntmps118
    go_wp2_with fail
    rw [← HW.out]
    go_quiet (fail)
    have G1 := G0.next (drewN_below W nq)
    have G1w := G1.bel.size
    clear G0 hx hy HW
    generalize W.drewN nq = w1 at *
    have G1z := Lib.hid G1w
    clear G1w
    have c0 := G1.c0
    go_wp2_with fail
    refine (LP.out w1 G1).mono ?_
    rintro e w2 ⟨X, xn, xc, rfl, ox, bb⟩
    have G2 := G1.next bb
    clear c0 G1
    have c0 := G2.c0
    go_wp2_with fail
    refine (LQ.out w2 G2).mono ?_
    rintro e w3 ⟨Y, yn, yc, rfl, oy, bb3⟩
    have G3 := G2.next bb3
    have ox3 := Own.next ox bb3
    have hxl := Lib.hid (Own.len ox)
    have hyl := Lib.hid (Own.len oy)
    have z12 := Lib.hid bb.size
    have z23 := Lib.hid bb3.size
    clear c0 G2 bb bb3 ox LP LQ
    go_wp2_with fail
    go_loopw [26] (fun i wr => ∃ i' d : Nat, i' ≤ ln ∧ i = .int .i64 i' ∧ wr = w3.drewN d ∧ ∀ j, j < i' → T[j]? ≠ some (u, v)) (fun i _ => ln - (intOf i).toNat)
    case atStart => exact ⟨0, 0, Nat.zero_le _, rfl, rfl, fun j hj => absurd hj (Nat.not_lt_zero _)⟩
    case round =>
      obtain ⟨i, d, hi, rfl, hwr, hno⟩ := hrel
      have HNO := Lib.hid hno
      clear hno
      have bd : Below w3.heap.size w3 wr := by rw [hwr]; exact drewN_below w3 d
      have G4 := G3.next bd
      have ox4 := Own.next ox3 bd
      have oy4 := Own.next oy bd
      have HWR := Lib.hid hwr
      have z34 := Lib.hid bd.size
      clear G3 ox3 oy hwr bd
      by_cases hlt : i < ln
      · have i3 : (0 : Int) ≤ (i : Int) := by omega
        have i4 : (i : Int) < (ln : Int) := by omega
        obtain ⟨b3, o3, A1, n1, c1, hLe, hb3, hc3, hs3, hcap3⟩ := G4.t.l.segs.spot hlt
        obtain ⟨b4, o4, A2, n2, c2, hRe, hb4, hc4, hs4, hcap4⟩ := G4.t.r.segs.spot hlt
        subst hLe hRe
        have L1 := Lib.hid (specSame A1 X n1 xn c1 xc _ u wr hs3 (Own.seg ox4) (by rw [← hs3.1]; exact (tb_len HT.out).1) (by rw [hxl.out]; exact lu))
        have L2 := Lib.hid (fun d5 => specSame A2 Y n2 yn c2 yc _ v (wr.drewN d5) (hs4.drewN d5) (Own.seg (Own.drewN oy4 d5)) (by rw [← hs4.1]; exact (tb_len HT.out).2) (by rw [hyl.out]; exact lv))
        have G5 := Lib.hid (fun d => G4.next (drewN_below wr d))
        have SR := Lib.hid (fun d' (hnx : T[i]? ≠ some (u, v)) => (show ∃ i' d : Nat, i' ≤ ln ∧ (.int .i64 ((i : Int) + 1) : Value) = .int .i64 i' ∧ wr.drewN d' = w3.drewN d ∧ ∀ j, j < i' → T[j]? ≠ some (u, v) from ⟨i + 1, d + d', hlt, by simp, by rw [HWR.out, World.drewN_drewN], fun j hj => by
          by_cases e : j = i
          · rw [e]; exact hnx
          · exact HNO.out j (by omega)⟩))
        have hiT : i < T.length := by rw [HLT.out]; exact hlt
        clear hs3 hs4 ox4 oy4 hcap3 hcap4 G4
        go_wp2_with fail
        refine L1.out.mono ?_
        rintro e w5 ⟨he, d5, rfl⟩
        clear L1
        by_cases e1 : (T.map Prod.fst).getD i [] = u
        · rw [decide_eq_true e1] at he
          subst he
          have hc5 : (wr.drewN d5).cell? ⟨b4, o4 + i, none⟩ = some (.slice A2 n2 c2) := hc4
          have L2 := Lib.hid (L2.out d5)
          clear hc3 hc4
          go_wp2_with fail
          refine L2.out.mono ?_
          rintro e w6 ⟨he, d6, rfl⟩
          clear L2
          rw [World.drewN_drewN]
          by_cases e2 : (T.map Prod.snd).getD i [] = v
          · rw [decide_eq_true e2] at he
            subst he
            have G6 := G5.out (d5 + d6)
            have F := Lib.hid (show AnsGen sg w lo (some ⟨b3, o3, none⟩) (some ⟨b4, o4, none⟩) ln T u v (.returned (.tuple #[.slice (some ⟨(wr.drewN (d5 + d6)).heap.size, 0, none⟩) 1 1, .slice (some ⟨b3, o3, none⟩) ln lc, .slice (some ⟨b4, o4, none⟩) ln rc])) ((wr.drewN (d5 + d6)).alloc (.cells #[.int .i64 (-1 - (i : Int))] 2)) from
              ⟨[-1 - (i : Int)], T, _, _, _, 1, 1, ln, lc, rc, rfl, one_own _ _ _ G6.bel.size, GS.out i (tb_at hiT e1 e2), G6.t.next ((Below.refl _ _).alloc (Nat.le_refl _) _), Two.of_below (next_trans G6.bel ((Below.refl _ _).alloc (Nat.le_refl _) _)), fun k h _ => h, fun k h _ => h, fun Z hZ a1 a2 => ⟨avSame (next_trans G6.bel ((Below.refl _ _).alloc (Nat.le_refl _) _)) T0.out.l.top a1, avSame (next_trans G6.bel ((Below.refl _ _).alloc (Nat.le_refl _) _)) T0.out.r.top a2⟩⟩)
            clear G6 G5 SR hc5
            generalize wr.drewN (d5 + d6) = w7 at *
            go_wp2
            go_ret3
            exact F.out
          · rw [decide_eq_false e2] at he
            subst he
            have S := Lib.hid (SR.out (d5 + d6) (tb_not hiT (fun h => e2 h.2)))
            clear SR G5 hc5
            generalize wr.drewN (d5 + d6) = w7 at *
            go_wp2
            go_roundw
            case rel => exact S.out
            case measure => simp [intOf]; omega
        · rw [decide_eq_false e1] at he
          subst he
          have S := Lib.hid (SR.out d5 (tb_not hiT (fun h => e1 h.1)))
          clear SR G5 L2 hc3 hc4
          generalize wr.drewN d5 = w7 at *
          go_wp2
          go_roundw
          case rel => exact S.out
          case measure => simp [intOf]; omega
      · obtain rfl : i = ln := by omega
        have hgs := GN.out (tb_mem (by rw [HLT.out]; exact HNO.out))
        rw [HLT.out] at hgs
        have z0 := G1z.out
        have K := Lib.hid (st1 G4 T0.out)
        have KX := Lib.hid (st2 (w := w) ox4 (by omega))
        have KY := Lib.hid (st2 (w := w) oy4 (by have := z12.out; omega))
        have K3 := Lib.hid (fun (o1 o2 o3 : Obj) w6 (hg : World.grownBy ((wr.alloc o1).alloc o2) w6 (blk L)) => st3 (K.out o1 o2).1 (K.out o1 o2).2 T0.out hg o3)
        have K4 := Lib.hid (fun (o1 o2 o3 : Obj) w6 (hg : World.grownBy ((wr.alloc o1).alloc o2) w6 (blk L)) => st4 (K.out o1 o2).1 (KY.out o1 o2) hg o3)
        have hzr := G4.bel.size
        have F := Lib.hid (fun (o2 o3 : Obj) (L' R' : Option Addr) (lc' rc' : Nat) (w6 w7 : World) (hg6 : World.grownBy ((wr.alloc (.cells #[.int .i64 (-1 - (i : Int))] 2)).alloc o2) w6 (blk L)) ho6 hat6 hg7 ho7 hat7 hX hY hc6 hc7 => st5 (w6 := w6) (w7 := w7) (L' := L') (R' := R') (lc' := lc') (rc' := rc') (-1 - (i : Int)) o2 o3 G4 T0.out hgs hg6 ho6 hat6 hg7 ho7 hat7 (vX := .slice X xn xc) (vY := .slice Y yn yc) hX hY hc6 hc7)
        clear hgs G4 ox4 oy4 GS GN HNO
        go_wp2_with (at_builtin; go_must (refine appS1Z rfl _ _ rfl lo w.heap.size L i lc (T.map Prod.fst) rfl (K.out _ _).1 _ 1 (.slice X xn xc) u rfl (cell2 _ _ _ _) (KX.out _ _) (by omega) (by omega) (by simp; omega) ?_; intro L' lc' w6 ho6 hg6 hat6 b6 hc6; refine (?_ : Hid _).out))
        refine Lib.hid ?_
        go_wp2_with (at_builtin; go_must (refine appS1Z rfl _ _ rfl lo w.heap.size R i rc (T.map Prod.snd) rfl (K3.out _ _ _ _ hg6) _ 1 (.slice Y yn yc) v rfl ((Row.new _ _ _).cell 0) (K4.out _ _ _ _ hg6) (by omega) (by omega) (by have := hg6.size; simp at this ⊢; omega) ?_; intro R' rc' w7 ho7 hg7 hat7 b7 hc7))
        go_wp2
        go_ret3
        exact F.out _ _ _ _ _ _ _ _ hg6 ho6 hat6 hg7 ho7 hat7 (KX.out _ _) (K4.out _ _ _ _ hg6) hc6 hc7
end Go.Proofs.Ytkmhnkljigncmaa.genSpec
end

section
/-
  The loop of spec.l5General over the arguments: what stands at its head ('Hr'), and one round ('Hr.step'). By an AI agent.
-/
namespace Go.Proofs.Ytkmhnkljigncmaa.genRec
open Go.RowKit Go.Proofs.Ytkmhnkljigncmaa.base Go.Proofs.Ytkmhnkljigncmaa.ints Go.Proofs.Ytkmhnkljigncmaa.sig Go.Proofs.Ytkmhnkljigncmaa.cursor Go.Proofs.Ytkmhnkljigncmaa.marks Go.Proofs.Ytkmhnkljigncmaa.app Go.Proofs.Ytkmhnkljigncmaa.appAt Go.Proofs.Ytkmhnkljigncmaa.sym Go.Proofs.Ytkmhnkljigncmaa.segs Go.Proofs.Ytkmhnkljigncmaa.segsHelp Go.Proofs.Ytkmhnkljigncmaa.term Go.Proofs.Ytkmhnkljigncmaa.args Go.Proofs.Ytkmhnkljigncmaa.sub Go.Proofs.Ytkmhnkljigncmaa.look Go.Proofs.Ytkmhnkljigncmaa.plain Go.Proofs.Ytkmhnkljigncmaa.same Go.Proofs.Ytkmhnkljigncmaa.posMath Go.Proofs.Ytkmhnkljigncmaa.unifMath Go.Proofs.Ytkmhnkljigncmaa.genMath Go.Proofs.Ytkmhnkljigncmaa.genPos Go.Proofs.Ytkmhnkljigncmaa.genTab Go.Proofs.Ytkmhnkljigncmaa.appZ Go.Proofs.Ytkmhnkljigncmaa.genSpec

theorem gs_bnd {sg : List Int} {T T' : Tb} {n B : Nat} {u w g : List Int} (h : Gs sg T n u w g T') : (∀ x ∈ T, x.1.length ≤ B ∧ x.2.length ≤ B) → u.length ≤ B → w.length ≤ B → ∀ x ∈ T', x.1.length ≤ B ∧ x.2.length ≤ B := by
  induction h with
  | nil T => exact fun h _ _ => h
  | sym _ _ _ ih => exact fun h h1 h2 => ih h (by simp only [List.length_cons] at h1; omega) (by simp only [List.length_cons] at h2; omega)
  | old _ _ _ _ _ ih => exact fun h h1 h2 => ih h (by simp only [List.length_append] at h1; omega) (by simp only [List.length_append] at h2; omega)
  | new _ _ _ _ _ ih =>
    intro h h1 h2
    simp only [List.length_append] at h1 h2
    refine ih (fun x hx => ?_) (by omega) (by omega)
    rcases List.mem_append.mp hx with hx | hx
    · exact h x hx
    · simp only [List.mem_singleton] at hx
      subst hx
      exact ⟨by simp only; omega, by simp only; omega⟩
theorem gs_pos {sg : List Int} {T T' : Tb} {n : Nat} {u w g : List Int} (h : Gs sg T n u w g T') : n ≤ g.length := by
  induction h with
  | nil T => simp
  | sym _ _ _ ih => simp only [List.length_cons]; omega
  | old _ _ _ _ _ ih => simp only [List.length_cons]; omega
  | new _ _ _ _ _ ih => simp only [List.length_cons]; omega
theorem ownRow {w : World} {base n c : Nat} {A : Option Addr} {xs : List Int} (h : Own w base (.slice A n c) xs) : ∀ k, blk A = some k → (∃ cs, Row w k 2 cs) ∧ base ≤ k ∧ k < w.heap.size := fun k hk => by
  have hl := Own.len h
  subst hl
  rcases own_form (n := xs.length) (vs := xs.map (Value.int .i64)) h with ⟨rfl, _⟩ | ⟨g, cur, rfl, hb, hg, _⟩
  · cases hk
  · injection hk with hk
    subst hk
    exact ⟨⟨cur, hg⟩, hb, hg.lt⟩

/-- what stands at the loop's head -/
structure Hr (w wr : World) (lo : Nat) (A : Option Addr) (n c : Nat) (sg : List Int) (P : Option Addr) (m : Nat) (a : List Int) (Q : Option Addr) (k : Nat) (b : List Int) (L R : Option Addr) (ln p q : Nat) (T : Tb) (x : Int) (X : Option Addr) (xn xc : Nat) (Y : Option Addr) (yn yc i : Nat) (L' R' : Option Addr) (ln' lc' rc' : Nat) (O : Option Addr) (on oc : Nat) (g : List Int) (T' : Tb) : Prop where
  r0 : Row wr w.heap.size 26 #[.slice A n c]
  s : Seg wr lo A n sg
  pa : Seg wr lo P m a
  qb : Seg wr lo Q k b
  t : Tabs wr lo L' ln' lc' R' rc' T'
  le : lo ≤ w.heap.size
  two : Two w wr L R
  hl : ∀ k, blk L' = some k → k < w.heap.size → blk L = some k
  hr : ∀ k, blk R' = some k → k < w.heap.size → blk R = some k
  ox : Own wr w.heap.size (.slice X xn xc) (argsL sg a p)
  oy : Own wr w.heap.size (.slice Y yn yc) (argsL sg b q)
  oo : Own wr w.heap.size (.slice O on oc) (x :: g)
  nx : ∀ z, blk O = some z → blk X ≠ some z
  ny : ∀ z, blk O = some z → blk Y ≠ some z
  ga : Ga sg a b p q T i g T'
  av : ∀ Z : Nat → Prop, (∀ z, Z z → z < w.heap.size) → Avoid Z w L ln → Avoid Z w R ln → Avoid Z wr L' ln' ∧ Avoid Z wr R' ln'
  ao : Avoid (fun z => blk O = some z) wr L' ln' ∧ Avoid (fun z => blk O = some z) wr R' ln'
section
variable {w wr wd w5 w6 : World} {lo : Nat} {A : Option Addr} {n c : Nat} {sg : List Int} {P : Option Addr} {m : Nat} {a : List Int} {Q : Option Addr} {k : Nat} {b : List Int} {L R : Option Addr} {ln p q : Nat} {T : Tb} {x : Int} {X : Option Addr} {xn xc : Nat} {Y : Option Addr} {yn yc i : Nat} {L' R' : Option Addr} {ln' lc' rc' : Nat} {O : Option Addr} {on oc : Nat} {g : List Int} {T' : Tb}
theorem own_away {base r0 : Nat} {r : Option Nat} {A : Option Addr} {n c : Nat} {xs : List Int} (h : Own w5 base (.slice A n c) xs) (hg : w5.grownBy w6 r) (hne : ∀ z, r = some z → blk A ≠ some z) (_ : r0 = 0) : Own w6 base (.slice A n c) xs := by
  refine World.ownsRow.kept h hg ?_
  rw [blk_own]
  cases e : blk A with
  | none => exact .inl rfl
  | some z => exact .inr (fun e2 => hne z e2.symm e)
theorem Hr.step (h : Hr w wr lo A n c sg P m a Q k b L R ln p q T x X xn xc Y yn yc i L' R' ln' lc' rc' O on oc g T') {L2 R2 : Option Addr} {n2 lc2 rc2 : Nat} {g' : List Int} {T2 : Tb}
    (hgs : Gs sg T' 1 (subL sg a (argP sg a i (p + 1))) (subL sg b (argP sg b i (q + 1))) g' T2) (ht2 : Tabs w5 lo L2 n2 lc2 R2 rc2 T2) (htwo : Two wr w5 L' R') (hl2 : ∀ k, blk L2 = some k → k < wr.heap.size → blk L' = some k) (hr2 : ∀ k, blk R2 = some k → k < wr.heap.size → blk R' = some k)
    (hav : ∀ Z : Nat → Prop, (∀ z, Z z → z < wr.heap.size) → Avoid Z wr L' ln' → Avoid Z wr R' ln' → Avoid Z w5 L2 n2 ∧ Avoid Z w5 R2 n2)
    {O' : Option Addr} {on' oc' : Nat} (ho6 : Own w6 w.heap.size (.slice O' on' oc') ((x :: g) ++ g')) (hg6 : w5.grownBy w6 (blk O)) (hat6 : blk O' = blk O ∨ blk O' = some w5.heap.size) :
    Hr w w6 lo A n c sg P m a Q k b L R ln p q T x X xn xc Y yn yc (i + 1) L2 R2 n2 lc2 rc2 O' on' oc' (g ++ g') T2 := by
  have tO := ownRow h.oo
  have hzw := h.two.size
  have hz5 := htwo.size
  have hz6 := hg6.size
  have oo5 := htwo.own h.oo h.t.rowL h.t.rowR
  have tO5 := ownRow oo5
  have ox5 := htwo.own h.ox h.t.rowL h.t.rowR
  have oy5 := htwo.own h.oy h.t.rowL h.t.rowR
  have b5 : Below lo wr w5 := htwo.below h.t.loL h.t.loR (Nat.le_trans h.le hzw)
  have hOlo : ∀ z, blk O = some z → w.heap.size ≤ z := fun z hz => (tO z hz).2.1
  have hOL : ∀ z, blk L2 = some z → blk O ≠ some z := fun z hz e => by
    obtain ⟨cs, h1⟩ := ht2.rowL z hz
    obtain ⟨⟨cs2, h2⟩, _⟩ := tO5 z e
    exact Row.ne_ h2 h1 (by decide) rfl
  have hOR : ∀ z, blk R2 = some z → blk O ≠ some z := fun z hz e => by
    obtain ⟨cs, h1⟩ := ht2.rowR z hz
    obtain ⟨⟨cs2, h2⟩, _⟩ := tO5 z e
    exact Row.ne_ h2 h1 (by decide) rfl
  have r5 : Row w5 w.heap.size 26 #[.slice A n c] := htwo.row h.r0 (fun e => by obtain ⟨cs, h1⟩ := h.t.rowL _ e; exact Row.ne_ h.r0 h1 (by decide) rfl) (fun e => by obtain ⟨cs, h1⟩ := h.t.rowR _ e; exact Row.ne_ h.r0 h1 (by decide) rfl)
  have hOs : blk O ≠ some w.heap.size := fun e => by
    obtain ⟨⟨cs, h1⟩, _⟩ := tO5 _ e
    exact Row.ne_ r5 h1 (by decide) rfl
  have hfar : ∀ z, blk O = some z → lo ≤ z := fun z hz => Nat.le_trans h.le (hOlo z hz)
  have hlo5 : lo ≤ w5.heap.size := by have := h.le; omega
  obtain ⟨avO1, avO2⟩ := hav (fun z => blk O = some z) (fun z hz => (tO z hz).2.2) h.ao.1 h.ao.2
  have kL : ∀ b j, L2 = some ⟨b, 0, none⟩ → w6.cell? ⟨b, j, none⟩ = w5.cell? ⟨b, j, none⟩ := fun b j e => World.cell?_of_block (hg6.block b (ht2.l.top b (by rw [e]; rfl)) (fun e2 => hOL b (by rw [e]; rfl) e2.symm))
  have kR : ∀ b j, R2 = some ⟨b, 0, none⟩ → w6.cell? ⟨b, j, none⟩ = w5.cell? ⟨b, j, none⟩ := fun b j e => World.cell?_of_block (hg6.block b (ht2.r.top b (by rw [e]; rfl)) (fun e2 => hOR b (by rw [e]; rfl) e2.symm))
  have two5 : Two w w5 L R := h.two.trans htwo h.hl h.hr
  refine ⟨?_, Seg.far (h.s.below b5) hg6 hlo5 hfar, Seg.far (h.pa.below b5) hg6 hlo5 hfar, Seg.far (h.qb.below b5) hg6 hlo5 hfar, ⟨(Avoid.owns ht2.l avO1 hOL hg6).wider (Nat.le_refl _) hz6, (Avoid.owns ht2.r avO2 hOR hg6).wider (Nat.le_refl _) hz6, ht2.ne⟩, h.le, ?_, fun z hz hlt => h.hl z (hl2 z hz (by omega)) hlt, fun z hz hlt => h.hr z (hr2 z hz (by omega)) hlt, own_away (r0 := 0) ox5 hg6 h.nx rfl, own_away (r0 := 0) oy5 hg6 h.ny rfl, ho6, fun z hz => ?_, fun z hz => ?_, ga_succ h.ga hgs, fun Z hZ a1 a2 => ?_, ?_⟩
  · exact (hg6.block _ r5.lt (fun e => hOs e.symm)).trans r5
  · exact ⟨hg6.os.trans two5.os, hg6.tape.trans two5.tape, hg6.output.trans two5.output, Nat.le_trans two5.size hz6, fun z hz h1 h2 => (hg6.block z (by omega) (fun e => by have := hOlo z e.symm; omega)).trans (two5.block z hz h1 h2)⟩
  · rcases hat6 with e | e
    · exact h.nx z (by rw [← e]; exact hz)
    · intro e2
      rw [e] at hz
      injection hz with hz
      have := (ownRow ox5 z e2).2.2
      omega
  · rcases hat6 with e | e
    · exact h.ny z (by rw [← e]; exact hz)
    · intro e2
      rw [e] at hz
      injection hz with hz
      have := (ownRow oy5 z e2).2.2
      omega
  · obtain ⟨c1, c2⟩ := h.av Z hZ a1 a2
    obtain ⟨d1, d2⟩ := hav Z (fun z hz => by have := hZ z hz; omega) c1 c2
    exact ⟨d1.keep kL, d2.keep kR⟩
  · rcases hat6 with e | e
    · rw [e]; exact ⟨avO1.keep kL, avO2.keep kR⟩
    · refine ⟨(Avoid.fresh ht2.l (fun z hz => ?_)).keep kL, (Avoid.fresh ht2.r (fun z hz => ?_)).keep kR⟩
      · rw [e] at hz; injection hz with hz; omega
      · rw [e] at hz; injection hz with hz; omega
end
end Go.Proofs.Ytkmhnkljigncmaa.genRec
end

section
/-
  CONTRACTS: slices.Grow of nil, slices.Concat at []int64. Conditions: the slices read as lists ('Segs'), at most 1048576 numbers in all. By an AI agent.
-/
namespace Go.Proofs.Ytkmhnkljigncmaa.concat
open Go.RowKit Go.Proofs.Ytkmhnkljigncmaa.base Go.Proofs.Ytkmhnkljigncmaa.ints Go.Proofs.Ytkmhnkljigncmaa.marks Go.Proofs.Ytkmhnkljigncmaa.app Go.Proofs.Ytkmhnkljigncmaa.sym Go.Proofs.Ytkmhnkljigncmaa.segs Go.Proofs.Ytkmhnkljigncmaa.segsHelp
set_option maxRecDepth 100000

set_option maxHeartbeats 1000000 in
theorem growNil (s : Nat) (w : World) (hs : s ≤ 2097152) :
    Calls Try.prog 138 #[.slice none 0 0, .int .i64 (s : Int)] w (AnsList w []) := by
  by_cases h0 : s = 0
  · subst h0
    go_enter Try.func138, Try.ntmps138
    go_wp2
    go_ret
    exact ⟨none, 0, 0, rfl, Own.nil _ _, Below.refl _ _⟩
  · obtain ⟨i0, hi, hz0, hz1, hz2⟩ := info_parts info_i64
    obtain ⟨G, hG⟩ : ∃ G, G = grownCap w s 0 2 := ⟨_, rfl⟩
    have hge : s ≤ G := by rw [hG]; exact grownCap_ge w _ _ _
    have hcm : G ≤ maxLen := by rw [hG]; exact grownCap_le_maxLen w _ _ _ (by unfold maxLen; omega)
    obtain ⟨cs, hcs⟩ : ∃ cs, cs = Builtin.zeroCells (Value.int .i64 0).cells s ++ Builtin.zeroCells (Value.int .i64 0).cells (G - s) := ⟨_, rfl⟩
    have hsz : cs.size = G := by
      rw [hcs]
      have e : (Value.int .i64 0).cells.size = 1 := rfl
      simp only [Array.size_append, size_zeroCells, e]
      omega
    have hr : ∀ ty, (Builtin.append_ #[24, 3] ty #[.slice none 0 0, .int .i64 (s : Int)]).run Try.prog w = .ok (.slice (some ⟨w.heap.size, 0, none⟩) s G) (w.drew.alloc (.cells cs 2)) := fun ty => by
      rw [hG, hcs, hG]
      exact Lib.run_append_nil_zeros w 24 3 ty 2 i0 (.int .i64 0) .i64 .i64 Try.underlying24 Try.underlying3 hi hz0 s (by omega) (by rw [hz1]; omega) (by omega) (by rw [hz2]; omega)
    have hrow : Row (w.drew.alloc (.cells cs 2)) w.heap.size 2 cs := Row.new w.drew _ _
    have F : AnsList w [] (.returned (.slice (some ⟨w.heap.size, 0, none⟩) 0 G)) (w.drew.alloc (.cells cs 2)) :=
      ⟨_, _, _, rfl, Own.of_row hrow rfl hsz (Nat.zero_le _) (by unfold maxLen at hcm; omega) (Nat.le_refl _) (fun j hj => absurd hj (Nat.not_lt_zero _)), ((Below.refl _ _).drew).alloc (Nat.le_refl _) _⟩
    have HF := Lib.hid F
    have hG63 : G ≤ 9223372036854775807 := by unfold maxLen at hcm; omega
    clear F hrow hsz hcs hG hcm
    have h1 : (0 : Int) < (s : Int) := by omega
    go_enter Try.func138, Try.ntmps138
    go_wp2_with (at_builtin; refine Lib.wpList_append_run _ rfl _ _ _ _ rfl _ _ rfl rfl _ _ (hr _) ?_)
    go_wp2
    go_ret
    exact HF.out

/-- the numbers of the first k lists -/
def catL (xss : List (List Int)) (k : Nat) : List Int := (xss.take k).flatten
theorem cat_len {xss : List (List Int)} {k : Nat} : (catL xss k).length = sumL xss k := by unfold catL sumL; rw [List.length_flatten]
theorem cat_succ {xss : List (List Int)} {k : Nat} (h : k < xss.length) : catL xss (k + 1) = catL xss k ++ xss.getD k [] := by
  unfold catL
  rw [List.take_succ_eq_append_getElem h, List.flatten_append]
  simp [List.getD, h]

set_option maxHeartbeats 1000000 in
theorem concat (S : Option Addr) (k c : Nat) (xss : List (List Int)) (w : World) (h : Segs w w.heap.size S k xss) (ht : tot xss ≤ 1048576) :
    Calls Try.prog 115 #[.slice S k c] w (AnsList w xss.flatten) := by
  have HL := Lib.hid h.1
  have hk : k ≤ 1048576 := tot_len h.1 ht
  have hs1 : Hid (∀ j, j ≤ k → sumL xss j ≤ 1048576) := Lib.hid (fun j hj => by have := sumL_mono (xss := xss) (k := j) (m := xss.length) (by rw [h.1]; exact hj) (Nat.le_refl _); unfold tot at ht; omega)
  have HS : Hid (∀ j, j < k → sumL xss (j + 1) = sumL xss j + (xss.getD j []).length) := Lib.hid (fun j hj => sumL_succ (by rw [h.1]; exact hj))
  have HC : Hid (∀ j, j < k → catL xss (j + 1) = catL xss j ++ xss.getD j []) := Lib.hid (fun j hj => cat_succ (by rw [h.1]; exact hj))
  have HF := Lib.hid (show catL xss k = xss.flatten by unfold catL; rw [List.take_of_length_le (by rw [h.1]; exact Nat.le_refl _)])
  have HCL := Lib.hid (fun j => cat_len (xss := xss) (k := j))
  have HH := Lib.hid h
  have S0 := Lib.hid (show sumL xss 0 = 0 by simp [sumL])
  have C0 := Lib.hid (show catL xss 0 = [] by simp [catL])
  clear h ht
  go_enter Try.func115, Try.ntmps115
  go_wp2
  go_loopg [3, 11] k (fun g s i wr => w = wr ∧ ∃ j : Nat, i = .int .i64 j ∧ j + g = k ∧ s = .int .i64 (sumL xss j : Nat))
  case atStart => exact ⟨rfl, 0, rfl, by omega, by rw [S0.out]; rfl⟩
  case round =>
    obtain ⟨rfl, j, rfl, hj, rfl⟩ := hrel
    have HJ := Lib.hid hj
    clear hj
    by_cases hjk : j < k
    · obtain ⟨b, off, A', n', c', rfl, hb, hc, hsg, hcap⟩ := HH.out.spot hjk
      have hl := hsg.1
      have hb1 := hs1.out j (by omega)
      have hb2 := hs1.out (j + 1) (by omega)
      have hsu := HS.out j hjk
      obtain ⟨s, hs⟩ : ∃ s, sumL xss j = s := ⟨_, rfl⟩
      have HSS := Lib.hid (show sumL xss (j + 1) = s + n' by rw [hsu, hs, hl])
      have hb3 : s + n' ≤ 1048576 := by rw [← HSS.out]; exact hb2
      rw [hs]
      clear hsg hcap hl hb1 hb2 hsu hs
      go_wp2
      go_roundg (gk - 1)
      case measure => have := HJ.out; omega
      case rel => exact ⟨rfl, j + 1, by simp, by have := HJ.out; omega, by rw [HSS.out]; simp⟩
    · have hjk2 : j = k := by have := HJ.out; omega
      obtain ⟨s, hs⟩ : ∃ s, sumL xss j = s := ⟨_, rfl⟩
      have hs2 : s ≤ 2097152 := by rw [← hs]; have := hs1.out j (by omega); omega
      rw [hs]
      have LG := Lib.hid (growNil s w hs2)
      clear hs hs2 hjk2
      go_wp2_with fail
      refine LG.out.mono ?_
      rintro e w1 ⟨O, on, oc, rfl, o1, b1⟩
      have on0 : on = 0 := Own.len o1
      subst on0
      have P0 : Own w1 w.heap.size (.slice O 0 oc) (catL xss 0) := by rw [C0.out]; exact o1
      have HP := Lib.hid (And.intro P0 b1)
      clear P0 o1 b1 LG
      go_wp2
      go_loopg [6, 27] k (fun g s i wr => ∃ (j : Nat) (O : Option Addr) (on oc : Nat), i = .int .i64 j ∧ j + g = k ∧ s = .slice O on oc ∧ Own wr w.heap.size (.slice O on oc) (catL xss j) ∧ Below w.heap.size w wr)
      case atStart => exact ⟨0, O, 0, oc, rfl, by omega, rfl, HP.out.1, HP.out.2⟩
      case round =>
        obtain ⟨j, O, on, oc, rfl, hj, rfl, ho, hb⟩ := hrel
        clear HP
        have HJ := Lib.hid hj
        clear hj
        by_cases hjk : j < k
        · have hsegs := (HH.out.below hb)
          obtain ⟨b, off, A', n', c', rfl, hbb, hc, hsg, hcap⟩ := hsegs.spot hjk
          have hon : on ≤ 1048576 := by rw [Own.len ho, HCL.out j]; exact hs1.out j (by omega)
          have hn' : n' ≤ 1048576 := by have h1 := hsg.1; have h2 := hs1.out (j + 1) (by omega); rw [HS.out j hjk, h1] at h2; omega
          have HCAP := Lib.hid hcap.2.2
          have hsz := hb.size
          clear hsegs hcap
          go_wp2_with (at_builtin; refine appAll rfl _ _ rfl w.heap.size O on oc (catL xss j) rfl ho A' n' c' w.heap.size (xss.getD j []) rfl hsg HCAP.out (by omega) (by omega) hsz ?_; intro O' oc' w3 ho3 b3)
          have S := Lib.hid (show Own w3 w.heap.size (.slice O' (on + n') oc') (catL xss (j + 1)) ∧ Below w.heap.size w w3 from ⟨by rw [HC.out j hjk]; exact ho3, hb.trans b3⟩)
          clear ho ho3 hb b3 hsg hc
          go_wp2
          go_roundg (gk - 1)
          case measure => have := HJ.out; omega
          case rel => exact ⟨j + 1, O', on + n', oc', by simp, by have := HJ.out; omega, rfl, S.out⟩
        · have hjk2 : j = k := by have := HJ.out; omega
          have F : AnsList w xss.flatten (.returned (.slice O on oc)) wr := ⟨O, on, oc, rfl, by rw [← HF.out, ← hjk2]; exact ho, hb⟩
          have HFF := Lib.hid F
          clear F ho hb hjk2
          go_wp2
          go_ret
          exact HFF.out
end Go.Proofs.Ytkmhnkljigncmaa.concat
end
