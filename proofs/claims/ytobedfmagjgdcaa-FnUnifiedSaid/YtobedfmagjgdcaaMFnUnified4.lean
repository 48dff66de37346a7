/-
  MERGED: my texts UnifMath, UnifDom, Then, HeldT, UnifRep, Rename, UnifStep, UnifRun, CompMath, TabR, Bind, one behind the other, as they are. By an AI agent.
-/
import Derived.Test.YtobedfmagjgdcaaMFnUnified3
import Derived.Deep.DeepCutAuto
import Derived.Laws.NewBlocks
import Derived.Laws.EntriesVeiled
import Derived.OrdersHeld
import Derived.Deep.RegionHeld
import Derived.Deep.AppendLies
import Derived.Deep.QuietTactic
import Derived.BigQuiet
import Derived.Deep.LoopGhost
import Derived.Deep.RegionHeld3
namespace Go.Proofs.Ytobedfmagjgdcaa
section
namespace unifMath
open sig term termOk termFacts endAt sub termMath fillMath posMath renMath matchMath plainMath
def Trm (sg t : List Int) : Prop := scan sg 1 t = some t.length
theorem scan_ar {sg : List Int} : ∀ {l : List Int} {q : Nat}, scan sg q l = some l.length → ∀ x ∈ l, ¬ ar sg x < 0 := by
 intro l
 induction l with
 | nil => intro q _ x hx; exact absurd hx (List.not_mem_nil)
 | cons y r ih =>
  intro q h x hx
  cases q with
  | zero => rw [scan_zero] at h; injection h with h; simp at h
  | succ q =>
   by_cases hy : ar sg y < 0
   ·rw [scan_bad hy] at h; cases h
   ·rw [scan_step hy, Option.map_eq_some_iff] at h
    obtain ⟨a, e1, e2⟩ := h
    rcases List.mem_cons.1 hx with rfl | hx
    ·exact hy
    ·exact ih (q := q + (ar sg y).toNat) (by rw [e1]; congr 1; simp at e2; omega) x hx
theorem Trm.mem {sg t : List Int} (h : Trm sg t) {x : Int} (hx : x ∈ t) : -24 ≤ x := by
 have h1 := scan_ar h x hx
 by_cases h2 : -24 ≤ x
 ·exact h2
 ·rw [ar_no (by omega) (by omega)] at h1; omega
theorem Trm.pos {sg t : List Int} (h : Trm sg t) : 1 ≤ t.length := scan_pos (q := 0) h
theorem Trm.vt {sg : List Int} {i : Nat} (hi : i < 24) : Trm sg (vt i) := scan_one (y := -1 - (i : Int)) (by omega)
theorem vr_neg {x : Int} (h : x < 0) : -1 - ((vr x : Nat) : Int) = x := by unfold vr; omega
theorem vt_vr {x : Int} (h : x < 0) : vt (vr x) = [x] := by unfold vt; rw [vr_neg h]
theorem vr_vt (i : Nat) : vr (-1 - (i : Int)) = i := by unfold vr; omega
theorem vt_inj {i j : Nat} (h : vt i = vt j) : i = j := by
 unfold vt at h
 injection h with h
 omega
theorem rep_vr {L : Nat → List Int} {x : Int} (h : x < 0) : rep L x = L (vr x) := rep_var h
theorem fill_one (L : Nat → List Int) (x : Int) : fillL L [x] = rep L x := by rw [fill_cons, fill_nil, List.append_nil]
theorem fill_vti (L : Nat → List Int) (i : Nat) : fillL L (vt i) = L i := by
 unfold vt
 rw [fill_one, rep_vr (by omega), vr_vt]
structure Sub (sg : List Int) (L : Nat → List Int) : Prop where
 trm : ∀ i, i < 24 → Trm sg (L i)
 out : ∀ i, 24 ≤ i → L i = vt i
theorem Sub.pos {sg : List Int} {L : Nat → List Int} (h : Sub sg L) (i : Nat) : 1 ≤ (L i).length := by
 by_cases hi : i < 24
 ·exact (h.trm i hi).pos
 ·rw [h.out i (by omega)]; simp [vt]
theorem Sub.vt (sg : List Int) : Sub sg vt := ⟨fun _ hi => Trm.vt hi, fun _ _ => rfl⟩
theorem Sub.fill {sg : List Int} {L : Nat → List Int} (h : Sub sg L) {t : List Int} (ht : Trm sg t) : Trm sg (fillL L t) :=
 scan_fill ht (fun x hx h0 => h.trm _ (by have := ht.mem hx; omega))
theorem Sub.comp {sg : List Int} {L M : Nat → List Int} (h : Sub sg L) (h' : Sub sg M) : Sub sg (fun i => fillL M (L i)) :=
 ⟨fun i hi => h'.fill (h.trm i hi), fun i hi => by show fillL M (L i) = _; rw [h.out i hi, fill_vti]; exact h'.out i hi⟩
structure Uni (sg a b : List Int) (L : Nat → List Int) : Prop where
 sub : Sub sg L
 eq : fillL L a = fillL L b
theorem Uni.symm {sg a b : List Int} {L : Nat → List Int} (h : Uni sg a b L) : Uni sg b a L := ⟨h.sub, h.eq.symm⟩
structure Part (sg a b : List Int) (L : Nat → List Int) : Prop where
 sub : Sub sg L
 gen : ∀ M, Uni sg a b M → ∀ i, fillL M (L i) = M i
 ide : ∀ i x, x ∈ L i → x < 0 → L (vr x) = [x]
 ord : ∀ i j, L i = vt j → j ≤ i
structure Mg (sg a b : List Int) (L : Nat → List Int) : Prop extends Part sg a b L where
 eq : fillL L a = fillL L b
theorem Mg.uni {sg a b : List Int} {L : Nat → List Int} (h : Mg sg a b L) : Uni sg a b L := ⟨h.sub, h.eq⟩
theorem Part.symm {sg a b : List Int} {L : Nat → List Int} (h : Part sg a b L) : Part sg b a L := ⟨h.sub, fun M hM => h.gen M hM.symm, h.ide, h.ord⟩
theorem Mg.symm {sg a b : List Int} {L : Nat → List Int} (h : Mg sg a b L) : Mg sg b a L := ⟨h.toPart.symm, h.eq.symm⟩
theorem Part.start (sg a b : List Int) : Part sg a b vt :=
 ⟨Sub.vt sg, fun M _ i => fill_vti M i, fun i x hx h0 => vt_vr h0, fun i j h => by rw [vt_inj h]; exact Nat.le_refl _⟩
theorem fill_fix {L : Nat → List Int} (hp : ∀ i, 1 ≤ (L i).length) : ∀ {t : List Int}, fillL L t = t → ∀ x ∈ t, x < 0 → L (vr x) = [x]
 | [], _, x, hx, _ => absurd hx (List.not_mem_nil)
 | y :: r, h, x, hx, h0 => by
  rw [fill_cons] at h
  have h1 : 1 ≤ (rep L y).length := by
   unfold rep
   split
   ·simp
   ·exact hp _
  have h2 := fill_ge hp r
  have h3 := congrArg List.length h
  rw [List.length_append, List.length_cons] at h3
  obtain ⟨z, hz⟩ : ∃ z, rep L y = [z] := List.length_eq_one_iff.1 (by omega)
  rw [hz] at h
  injection h with e1 e2
  rcases List.mem_cons.1 hx with rfl | hx
  ·rw [← rep_vr (L := L) h0, hz, e1]
  ·exact fill_fix hp e2 x hx h0
theorem fill_same {L : Nat → List Int} {t : List Int} (h : ∀ x ∈ t, x < 0 → L (vr x) = [x]) : fillL L t = t := by
 have := fill_ext (L := L) (L' := vt) (t := t) (fun x hx h0 => by rw [show (-1 - x).toNat = vr x from rfl, h x hx h0, vt_vr h0])
 rw [this, fill_vt]
theorem mg_uniq {sg a b : List Int} {S T : Nat → List Int} (hS : Mg sg a b S) (hT : Mg sg a b T) (i : Nat) : S i = T i := by
 have e1 := hS.gen T hT.uni
 have e2 := hT.gen S hS.uni
 have key : ∀ x ∈ S i, x < 0 → T (vr x) = [x] := by
  intro x hx h0
  have hfix : fillL (fun j => fillL S (T j)) (S i) = S i := by rw [← fill_fill, e1, e2]
  have h1 : fillL S (T (vr x)) = [x] := fill_fix (L := fun j => fillL S (T j)) (fun j => by
   have := fill_ge hS.sub.pos (T j); have := hT.sub.pos j; omega) hfix x hx h0
  have h2 := fill_ge hS.sub.pos (T (vr x))
  have h3 := hT.sub.pos (vr x)
  rw [h1] at h2
  obtain ⟨z, hz⟩ : ∃ z, T (vr x) = [z] := List.length_eq_one_iff.1 (by simp at h2; omega)
  rw [hz, fill_one] at h1
  by_cases hz0 : 0 ≤ z
  ·rw [rep_sym hz0] at h1
   injection h1 with h1
   omega
  ·rw [rep_vr (by omega)] at h1
   have o1 := hS.ord (vr z) (vr x) (by rw [h1, vt_vr h0])
   have o2 := hT.ord (vr x) (vr z) (by rw [hz, vt_vr (by omega)])
   have hv : vr x = vr z := by omega
   have : x = z := by unfold vr at hv; omega
   rw [hz, this]
 rw [← e1 i, fill_same key]
theorem fill_drop {L : Nat → List Int} {x y : List Int} {k : Nat} (e : x.take k = y.take k) (h : fillL L x = fillL L y) : fillL L (x.drop k) = fillL L (y.drop k) := by
 rw [← List.take_append_drop k x, ← List.take_append_drop k y, fill_append, fill_append, e] at h
 exact List.append_cancel_left h
theorem sub_trm {sg x : List Int} (hx : Trm sg x) {k : Nat} (hk : k < x.length) : Trm sg (subL sg x k) ∧ x.drop k = subL sg x k ++ x.drop (k + (subL sg x k).length) := by
 obtain ⟨j, h1, h2, h3⟩ := scan_at hx hk
 have hl : subL sg x k = (x.drop k).take j := by unfold subL; rw [len1_eq h1]
 have hlen : (subL sg x k).length = j := by rw [hl, List.length_take, List.length_drop]; omega
 refine ⟨?_, ?_⟩
 ·unfold Trm
  rw [hlen, hl]
  exact scan_take h1
 ·rw [hlen, hl, ← List.drop_drop]
  exact (List.take_append_drop _ _).symm
theorem sub_head {sg x : List Int} (hx : Trm sg x) {k : Nat} (hk : k < x.length) : ∃ r, subL sg x k = x.getD k 0 :: r := by
 obtain ⟨h1, h2⟩ := sub_trm hx hk
 have h3 := h1.pos
 obtain ⟨y, r, hyr⟩ : ∃ y r, subL sg x k = y :: r := by
  cases h : subL sg x k with
  | nil => rw [h] at h3; simp at h3
  | cons y r => exact ⟨y, r, rfl⟩
 refine ⟨r, ?_⟩
 rw [hyr, drop_cons hk] at h2
 injection h2 with h2 _
 rw [hyr, h2]
theorem sub_var {sg x : List Int} (hx : Trm sg x) {k : Nat} (hk : k < x.length) (h0 : x.getD k 0 < 0) : subL sg x k = [x.getD k 0] := by
 have hm : x.getD k 0 ∈ x := by simp [List.getD, hk]
 have h24 := hx.mem hm
 have : scan sg 1 (x.drop k) = some 1 := by
  rw [drop_cons hk, scan_step (by rw [ar_var (by omega)]; omega), ar_var (by omega)]
  show (scan sg 0 _).map (· + 1) = some 1
  rw [scan_zero]
  rfl
 unfold subL
 rw [len1_eq this, drop_cons hk]
 rfl
theorem uni_sub {sg x y : List Int} {M : Nat → List Int} (hx : Trm sg x) (hy : Trm sg y) (hM : Sub sg M) (h : fillL M x = fillL M y) {k : Nat} (e : x.take k = y.take k) (hkx : k < x.length) (hky : k < y.length) : fillL M (subL sg x k) = fillL M (subL sg y k) := by
 have h1 := fill_drop e h
 obtain ⟨tx, ex⟩ := sub_trm hx hkx
 obtain ⟨ty, ey⟩ := sub_trm hy hky
 rw [ex, ey, fill_append, fill_append] at h1
 have s1 := scan_append (r := fillL M (x.drop (k + (subL sg x k).length))) (hM.fill tx)
 have s2 := scan_append (r := fillL M (y.drop (k + (subL sg y k).length))) (hM.fill ty)
 rw [h1, s2] at s1
 injection s1 with s1
 have := congrArg (List.take (fillL M (subL sg x k)).length) h1
 rw [List.take_left' rfl, List.take_left' s1] at this
 exact this
theorem differ {sg x y : List Int} (hx : Trm sg x) (hy : Trm sg y) {k : Nat} (e : x.take k = y.take k) (hk : k ≤ x.length) (hk' : k ≤ y.length) (hend : k = x.length ∨ k = y.length) : x = y := by
 have key : ∀ {u v : List Int}, Trm sg u → Trm sg v → u.take k = v.take k → k = u.length → k ≤ v.length → u = v := by
  intro u v hu hv e hk hv'
  have h1 : v = u ++ v.drop k := by
   have := (List.take_append_drop k v).symm
   rwa [← e, hk, List.take_length, ← hk] at this
  have h2 := scan_append (r := v.drop k) hu
  rw [← h1, hv] at h2
  injection h2 with h2
  rw [h1, List.drop_eq_nil_of_le (by omega), List.append_nil]
 rcases hend with h | h
 ·exact key hx hy e h hk'
 ·exact (key hy hx e.symm h hk).symm
def ones (i : Nat) (t : List Int) (k : Nat) : List Int := if k = i then t else vt k
theorem one_sub {sg : List Int} {i : Nat} {t : List Int} (ht : Trm sg t) (hi : i < 24) : Sub sg (ones i t) :=
 ⟨fun k hk => by unfold ones; split; exact ht; exact Trm.vt hk, fun k hk => by unfold ones; rw [if_neg (by omega)]⟩
theorem one_uni {i : Nat} {t : List Int} {M : Nat → List Int} (h : M i = fillL M t) (z : List Int) : fillL M (fillL (ones i t) z) = fillL M z := by
 rw [fill_fill]
 refine fill_ext (fun x _ _ => ?_)
 show fillL M (ones i t _) = _
 unfold ones
 split
 ·rename_i e; rw [e, h]
 ·exact fill_vti M _
structure Spot (sg a b : List Int) (L : Nat → List Int) (k : Nat) : Prop where
 ta : Trm sg a
 tb : Trm sg b
 pre : (fillL L a).take k = (fillL L b).take k
 kx : k < (fillL L a).length
 ky : k < (fillL L b).length
 ne : (fillL L a).getD k 0 ≠ (fillL L b).getD k 0
theorem Spot.symm {sg a b : List Int} {L : Nat → List Int} {k : Nat} (h : Spot sg a b L k) : Spot sg b a L k := ⟨h.tb, h.ta, h.pre.symm, h.ky, h.kx, fun e => h.ne e.symm⟩
theorem part_uni {sg a b : List Int} {L M : Nat → List Int} (h : Part sg a b L) (hM : Uni sg a b M) (z : List Int) : fillL M (fillL L z) = fillL M z := by
 rw [fill_fill]
 exact fill_ext (fun x _ _ => h.gen M hM _)
theorem Spot.sub {sg a b : List Int} {L M : Nat → List Int} {k : Nat} (s : Spot sg a b L k) (h : Part sg a b L) (hM : Uni sg a b M) : fillL M (subL sg (fillL L a) k) = fillL M (subL sg (fillL L b) k) :=
 uni_sub (h.sub.fill s.ta) (h.sub.fill s.tb) hM.sub (by rw [part_uni h hM, part_uni h hM, hM.eq]) s.pre s.kx s.ky
theorem Spot.clash {sg a b : List Int} {L : Nat → List Int} {k : Nat} (s : Spot sg a b L k) (h : Part sg a b L) (h1 : 0 ≤ (fillL L a).getD k 0) (h2 : 0 ≤ (fillL L b).getD k 0) : ∀ M, ¬ Uni sg a b M := fun M hM => by
 have e := s.sub h hM
 obtain ⟨r, e1⟩ := sub_head (h.sub.fill s.ta) s.kx
 obtain ⟨r', e2⟩ := sub_head (h.sub.fill s.tb) s.ky
 rw [e1, e2, fill_cons, fill_cons, rep_sym h1, rep_sym h2] at e
 injection e with e _
 exact s.ne e
theorem mem_rep {M : Nat → List Int} {z : List Int} {x : Int} (hp : ∀ i, 1 ≤ (M i).length) (hx : x ∈ z) (h0 : x < 0) (hl : z ≠ [x]) : (M (vr x)).length < (fillL M z).length := by
 obtain ⟨u, v, rfl⟩ := List.append_of_mem hx
 rw [fill_append, fill_cons, rep_vr h0, List.length_append, List.length_append]
 have h1 := fill_ge hp u
 have h2 := fill_ge hp v
 by_cases hu : u.length = 0
 ·by_cases hv : v.length = 0
  ·rw [List.eq_nil_of_length_eq_zero hu, List.eq_nil_of_length_eq_zero hv] at hl
   exact absurd rfl hl
  ·omega
 ·omega
theorem Spot.occurs {sg a b : List Int} {L : Nat → List Int} {k : Nat} (s : Spot sg a b L k) (h : Part sg a b L) (h1 : (fillL L a).getD k 0 < 0) (h2 : (fillL L a).getD k 0 ∈ subL sg (fillL L b) k) : ∀ M, ¬ Uni sg a b M := fun M hM => by
 have e := s.sub h hM
 rw [sub_var (h.sub.fill s.ta) s.kx h1, fill_one, rep_vr h1] at e
 obtain ⟨r, e2⟩ := sub_head (h.sub.fill s.tb) s.ky
 have := mem_rep hM.sub.pos h2 h1 (fun e3 => by rw [e2] at e3; injection e3 with e3 _; exact s.ne e3.symm)
 rw [e] at this
 exact Nat.lt_irrefl _ this
theorem mem_drop {x : Int} {l : List Int} {k : Nat} (h : x ∈ l.drop k) : x ∈ l := List.mem_of_mem_drop h
theorem sub_mem {sg t : List Int} {k : Nat} {x : Int} (h : x ∈ subL sg t k) : x ∈ t := by
 unfold subL at h
 exact mem_drop (List.mem_of_mem_take h)
theorem fill_mem {L : Nat → List Int} : ∀ {t : List Int} {x : Int}, x ∈ fillL L t → x < 0 → ∃ y ∈ t, y < 0 ∧ x ∈ L (vr y)
 | [], x, h, _ => absurd h (List.not_mem_nil)
 | z :: r, x, h, h0 => by
  rw [fill_cons] at h
  rcases List.mem_append.1 h with h | h
  ·by_cases hz : 0 ≤ z
   ·rw [rep_sym hz, List.mem_singleton] at h; omega
   ·rw [rep_vr (by omega)] at h
    exact ⟨z, List.mem_cons_self .., by omega, h⟩
  ·obtain ⟨y, h1, h2⟩ := fill_mem h h0
   exact ⟨y, List.mem_cons_of_mem _ h1, h2⟩
theorem Part.fix {sg a b : List Int} {L : Nat → List Int} (h : Part sg a b L) {t : List Int} {x : Int} (hx : x ∈ fillL L t) (h0 : x < 0) : L (vr x) = [x] := by
 obtain ⟨y, _, _, hy⟩ := fill_mem hx h0
 exact h.ide _ x hy h0
theorem Spot.bind {sg a b : List Int} {L : Nat → List Int} {k : Nat} (s : Spot sg a b L k) (h : Part sg a b L) (h1 : (fillL L a).getD k 0 < 0) (h2 : (fillL L a).getD k 0 ∉ subL sg (fillL L b) k) (h3 : 0 ≤ (fillL L b).getD k 0 ∨ (fillL L a).getD k 0 < (fillL L b).getD k 0) :
  Part sg a b (fun m => fillL (ones (vr ((fillL L a).getD k 0)) (subL sg (fillL L b) k)) (L m)) := by
 obtain ⟨p, hp⟩ : ∃ p, (fillL L a).getD k 0 = p := ⟨_, rfl⟩
 obtain ⟨t, ht⟩ : ∃ t, subL sg (fillL L b) k = t := ⟨_, rfl⟩
 have hpm : p ∈ fillL L a := by rw [← hp]; have := s.kx; simp [List.getD, this]
 have hp24 := (h.sub.fill s.ta).mem hpm
 have htt : Trm sg t := by rw [← ht]; exact (sub_trm (h.sub.fill s.tb) s.ky).1
 have hpx : L (vr p) = [p] := h.fix hpm (by omega)
 rw [hp] at h1 h2 h3 ⊢
 rw [ht] at h2 ⊢
 have hi : vr p < 24 := by unfold vr; omega
 have hone := one_sub htt hi
 have tfix : ∀ x ∈ t, x < 0 → L (vr x) = [x] := fun x hx h0 => h.fix (t := b) (by rw [← ht] at hx; exact sub_mem hx) h0
 have hhead := sub_head (h.sub.fill s.tb) s.ky
 rw [ht] at hhead
 refine ⟨h.sub.comp hone, fun M hM i => ?_, fun i x hx h0 => ?_, fun i j hj => ?_⟩
 ·show fillL M (fillL _ (L i)) = M i
  rw [one_uni ?_, h.gen M hM]
  have e := s.sub h hM
  rw [sub_var (h.sub.fill s.ta) s.kx (by rw [hp]; exact h1), hp, ht, fill_one, rep_vr h1] at e
  exact e
 ·show fillL (ones (vr p) t) (L (vr x)) = [x]
  change x ∈ fillL (ones (vr p) t) (L i) at hx
  obtain ⟨y, g1, g2, g3⟩ := fill_mem hx h0
  have hxp : vr x ≠ vr p ∧ L (vr x) = [x] := by
   unfold ones at g3
   split at g3
   ·refine ⟨fun e => h2 ?_, tfix x g3 h0⟩
    have : x = p := by unfold vr at e; omega
    rw [← this]; exact g3
   ·rename_i hne
    rw [vt_vr g2, List.mem_singleton] at g3
    rw [g3]
    exact ⟨hne, h.ide i y g1 g2⟩
  rw [hxp.2, fill_one, rep_vr h0]
  unfold ones
  rw [if_neg hxp.1, vt_vr h0]
 ·change fillL (ones (vr p) t) (L i) = vt j at hj
  have hl1 := fill_ge hone.pos (L i)
  have hl2 := h.sub.pos i
  rw [hj] at hl1
  obtain ⟨z, hz⟩ : ∃ z, L i = [z] := List.length_eq_one_iff.1 (by simp [vt] at hl1; omega)
  rw [hz, fill_one] at hj
  by_cases hz0 : 0 ≤ z
  ·rw [rep_sym hz0] at hj
   unfold vt at hj
   injection hj with hj
   omega
  ·rw [rep_vr (by omega)] at hj
   have o := h.ord i (vr z) (by rw [hz, vt_vr (by omega)])
   unfold ones at hj
   split at hj
   ·rename_i e
    obtain ⟨r, hr⟩ := hhead
    rw [hr] at hj
    unfold vt at hj
    injection hj with hj _
    rcases h3 with h3 | h3
    ·omega
    ·unfold vr at e o; omega
   ·rw [vt_inj hj] at o; exact o
theorem Part.done {sg a b : List Int} {L : Nat → List Int} (h : Part sg a b L) (he : fillL L a = fillL L b) : Mg sg a b L := ⟨h, he⟩
structure Short (sg a b : List Int) (M : Nat → List Int) : Prop extends Uni sg a b M where
 each : ∀ i, (M i).length ≤ 60
 all : (fillL M a).length ≤ 60
theorem Short.symm {sg a b : List Int} {M : Nat → List Int} (h : Short sg a b M) : Short sg b a M := ⟨h.toUni.symm, h.each, by rw [← h.eq]; exact h.all⟩
theorem Part.each {sg a b : List Int} {L M : Nat → List Int} (h : Part sg a b L) (hM : Short sg a b M) (i : Nat) : (L i).length ≤ 60 := by
 have h1 := fill_ge hM.sub.pos (L i)
 rw [h.gen M hM.toUni] at h1
 exact Nat.le_trans h1 (hM.each i)
theorem Part.len {sg a b : List Int} {L M : Nat → List Int} (h : Part sg a b L) (hM : Short sg a b M) : (fillL L a).length ≤ 60 ∧ (fillL L b).length ≤ 60 := by
 have h1 := fill_ge hM.sub.pos (fillL L a)
 have h2 := fill_ge hM.sub.pos (fillL L b)
 rw [part_uni h hM.toUni] at h1 h2
 rw [← hM.eq] at h2
 exact ⟨Nat.le_trans h1 hM.all, Nat.le_trans h2 hM.all⟩
def free (L : Nat → List Int) : Nat := (List.range 24).countP fun i => decide (L i = vt i)
theorem free_le (L : Nat → List Int) : free L ≤ 24 := by
 unfold free
 exact Nat.le_trans List.countP_le_length (by simp)
theorem free_bind {sg a b : List Int} {L : Nat → List Int} {k : Nat} (s : Spot sg a b L k) (h : Part sg a b L) (h1 : (fillL L a).getD k 0 < 0) (h2 : (fillL L a).getD k 0 ∉ subL sg (fillL L b) k) :
  free (fun m => fillL (ones (vr ((fillL L a).getD k 0)) (subL sg (fillL L b) k)) (L m)) < free L := by
 obtain ⟨p, hp⟩ : ∃ p, (fillL L a).getD k 0 = p := ⟨_, rfl⟩
 obtain ⟨t, ht⟩ : ∃ t, subL sg (fillL L b) k = t := ⟨_, rfl⟩
 have hpm : p ∈ fillL L a := by rw [← hp]; have := s.kx; simp [List.getD, this]
 have hp24 := (h.sub.fill s.ta).mem hpm
 rw [hp] at h1 h2 ⊢
 rw [ht] at h2 ⊢
 have hpx : L (vr p) = [p] := h.fix hpm h1
 have htt : Trm sg t := by rw [← ht]; exact (sub_trm (h.sub.fill s.tb) s.ky).1
 have hone := one_sub (i := vr p) htt (by unfold vr; omega)
 have tfix : ∀ x ∈ t, x < 0 → L (vr x) = [x] := fun x hx h0 => h.fix (t := b) (by rw [← ht] at hx; exact sub_mem hx) h0
 unfold free
 refine count_less (y := vr p) (fun i hi hf => ?_) (List.mem_range.2 (by unfold vr; omega)) ?_ ?_
 ·rw [decide_eq_true_eq] at hf ⊢
  change fillL (ones (vr p) t) (L i) = vt i at hf
  have hl1 := fill_ge hone.pos (L i)
  have hl2 := h.sub.pos i
  rw [hf] at hl1
  obtain ⟨z, hz⟩ : ∃ z, L i = [z] := List.length_eq_one_iff.1 (by simp [vt] at hl1; omega)
  rw [hz, fill_one] at hf
  by_cases hz0 : 0 ≤ z
  ·rw [rep_sym hz0] at hf
   unfold vt at hf
   injection hf with hf
   omega
  ·rw [rep_vr (by omega)] at hf
   unfold ones at hf
   split at hf
   ·rename_i e
    have hm : (-1 - (i : Int)) ∈ t := by rw [hf]; simp [vt]
    have := tfix _ hm (by omega)
    rw [vr_vt] at this
    exact this
   ·rw [hz, ← vt_vr (by omega : z < 0)]
    exact hf
 ·rw [decide_eq_false_iff_not]
  intro e
  change fillL (ones (vr p) t) (L (vr p)) = vt (vr p) at e
  rw [hpx, fill_one, rep_vr h1, vt_vr h1] at e
  unfold ones at e
  rw [if_pos rfl] at e
  exact h2 (by rw [e]; exact List.mem_singleton.2 rfl)
 ·rw [decide_eq_true_eq, hpx, vt_vr h1]
theorem reach {sg a b : List Int} {M : Nat → List Int} (ta : Trm sg a) (tb : Trm sg b) (hM : Short sg a b M) : ∀ (n : Nat) (L : Nat → List Int), free L ≤ n → Part sg a b L → ∃ L', Mg sg a b L' := by
 have spot : ∀ {L : Nat → List Int}, Part sg a b L → fillL L a ≠ fillL L b → ∃ k, Spot sg a b L k := by
  intro L h hne
  have tx := h.sub.fill ta
  have ty := h.sub.fill tb
  have key : ∀ n k, (fillL L a).length - k ≤ n → k ≤ (fillL L a).length → k ≤ (fillL L b).length → (fillL L a).take k = (fillL L b).take k → ∃ k, Spot sg a b L k := by
   intro n
   induction n with
   | zero =>
    intro k hn h1 h2 e
    exact absurd (differ tx ty e h1 h2 (.inl (by omega))) hne
   | succ n ih =>
    intro k hn h1 h2 e
    by_cases hx : k = (fillL L a).length
    ·exact absurd (differ tx ty e h1 h2 (.inl hx)) hne
    ·by_cases hy : k = (fillL L b).length
     ·exact absurd (differ tx ty e h1 h2 (.inr hy)) hne
     ·have kx : k < (fillL L a).length := by omega
      have ky : k < (fillL L b).length := by omega
      by_cases hg : (fillL L a).getD k 0 = (fillL L b).getD k 0
      ·refine ih (k + 1) (by omega) kx ky ?_
       rw [List.take_succ_eq_append_getElem kx, List.take_succ_eq_append_getElem ky, e]
       simp [List.getD, kx, ky] at hg
       rw [hg]
      ·exact ⟨k, ta, tb, e, kx, ky, hg⟩
  exact key _ 0 (Nat.le_refl _) (Nat.zero_le _) (Nat.zero_le _) rfl
 intro n
 induction n with
 | zero =>
  intro L hn h
  by_cases he : fillL L a = fillL L b
  ·exact ⟨L, h.done he⟩
  ·obtain ⟨k, s⟩ := spot h he
   by_cases h1 : (fillL L a).getD k 0 < 0
   ·by_cases h2 : (fillL L a).getD k 0 ∈ subL sg (fillL L b) k
    ·exact absurd hM.toUni (s.occurs h h1 h2 M)
    ·have := free_bind s h h1 h2; omega
   ·by_cases h1' : (fillL L b).getD k 0 < 0
    ·by_cases h2 : (fillL L b).getD k 0 ∈ subL sg (fillL L a) k
     ·exact absurd hM.toUni.symm (s.symm.occurs h.symm h1' h2 M)
     ·have := free_bind s.symm h.symm h1' h2; omega
    ·exact absurd hM.toUni (s.clash h (by omega) (by omega) M)
 | succ n ih =>
  intro L hn h
  by_cases he : fillL L a = fillL L b
  ·exact ⟨L, h.done he⟩
  ·obtain ⟨k, s⟩ := spot h he
   by_cases h3 : (fillL L a).getD k 0 < 0 ∧ (0 ≤ (fillL L b).getD k 0 ∨ (fillL L a).getD k 0 < (fillL L b).getD k 0)
   ·by_cases h2 : (fillL L a).getD k 0 ∈ subL sg (fillL L b) k
    ·exact absurd hM.toUni (s.occurs h h3.1 h2 M)
    ·exact ih _ (by have := free_bind s h h3.1 h2; omega) (s.bind h h3.1 h2 h3.2)
   ·by_cases h1' : (fillL L b).getD k 0 < 0
    ·by_cases h2 : (fillL L b).getD k 0 ∈ subL sg (fillL L a) k
     ·exact absurd hM.toUni.symm (s.symm.occurs h.symm h1' h2 M)
     ·obtain ⟨L', hL'⟩ := ih _ (by have := free_bind s.symm h.symm h1' h2; omega) (s.symm.bind h.symm h1' h2 (by have := s.ne; omega)).symm
      exact ⟨L', hL'⟩
    ·exact absurd hM.toUni (s.clash h (by omega) (by omega) M)
def IsU (sg a b : List Int) (v : Bool) (F : List (List Int)) : Prop :=
 (v = true ∧ termOkB sg a = true ∧ termOkB sg b = true ∧ ∃ L, Mg sg a b L ∧ Short sg a b L ∧ F = plainL L 24) ∨ (v = false ∧ F = [] ∧ (termOkB sg a = false ∨ termOkB sg b = false ∨ ∀ M, ¬ Short sg a b M))
theorem isU_ex (sg a b : List Int) : ∃ v F, IsU sg a b v F := by
 cases h1 : termOkB sg a with
 | false => exact ⟨false, [], .inr ⟨rfl, rfl, .inl h1⟩⟩
 | true =>
  cases h2 : termOkB sg b with
  | false => exact ⟨false, [], .inr ⟨rfl, rfl, .inr (.inl h2)⟩⟩
  | true =>
   by_cases h : ∃ M, Short sg a b M
   ·obtain ⟨M, hM⟩ := h
    obtain ⟨L, hL⟩ := reach (term_parts h1).2.2 (term_parts h2).2.2 hM _ vt (free_le _) (Part.start sg a b)
    exact ⟨true, _, .inl ⟨rfl, h1, h2, L, hL, ⟨hL.uni, hL.toPart.each hM, (hL.toPart.len hM).1⟩, rfl⟩⟩
   ·exact ⟨false, [], .inr ⟨rfl, rfl, .inr (.inr (fun M hM => h ⟨M, hM⟩))⟩⟩
theorem isU_one {sg a b : List Int} {v v' : Bool} {F F' : List (List Int)} (h : IsU sg a b v F) (h' : IsU sg a b v' F') : v = v' ∧ F = F' := by
 rcases h with ⟨rfl, a1, a2, L, m, s, rfl⟩ | ⟨rfl, rfl, h⟩
 ·rcases h' with ⟨rfl, _, _, L', m', _, rfl⟩ | ⟨rfl, rfl, h'⟩
  ·exact ⟨rfl, plain_ext (fun i _ => mg_uniq m m' i)⟩
  ·rcases h' with h' | h' | h'
   ·rw [a1] at h'; cases h'
   ·rw [a2] at h'; cases h'
   ·exact absurd s (h' L)
 ·rcases h' with ⟨rfl, a1, a2, L, m, s, rfl⟩ | ⟨rfl, rfl, _⟩
  ·rcases h with h | h | h
   ·rw [a1] at h; cases h
   ·rw [a2] at h; cases h
   ·exact absurd s (h L)
  ·exact ⟨rfl, rfl⟩
theorem isU_mg {sg a b : List Int} {L : Nat → List Int} (h1 : termOkB sg a = true) (h2 : termOkB sg b = true) (h : Mg sg a b L) (he : ∀ i, (L i).length ≤ 60) (ha : (fillL L a).length ≤ 60) : IsU sg a b true (plainL L 24) :=
 .inl ⟨rfl, h1, h2, L, h, ⟨h.uni, he, ha⟩, rfl⟩
theorem isU_no {sg a b : List Int} (h : ∀ M, ¬ Short sg a b M) : IsU sg a b false [] := .inr ⟨rfl, rfl, .inr (.inr h)⟩
theorem isU_off {sg a b : List Int} (h : termOkB sg a = false ∨ termOkB sg b = false) : IsU sg a b false [] := .inr ⟨rfl, rfl, by rcases h with h | h; exact .inl h; exact .inr (.inl h)⟩
end unifMath
end
section
namespace unifDom
open sig term termOk termFacts endAt sub termMath fillMath posMath renMath matchMath plainMath unifMath
def InTwo (a b : List Int) (z : Int) : Prop := z ∈ a ∨ z ∈ b
structure Dom (a b : List Int) (L : Nat → List Int) : Prop where
 rng : ∀ z, InTwo a b z → z < 0 → ∀ y ∈ L (vr z), y < 0 → InTwo a b y
 out : ∀ i : Nat, ¬ InTwo a b (-1 - (i : Int)) → L i = vt i
section
variable {sg a b : List Int} {L : Nat → List Int}
theorem Dom.start (a b : List Int) : Dom a b vt := ⟨fun z hz h0 y hy _ => by rw [vt_vr h0, List.mem_singleton] at hy; rw [hy]; exact hz, fun _ _ => rfl⟩
theorem Dom.symm (h : Dom a b L) : Dom b a L := ⟨fun z hz h0 y hy h1 => (h.rng z hz.symm h0 y hy h1).symm, fun i hi => h.out i (fun e => hi e.symm)⟩
theorem Dom.fill (h : Dom a b L) {y : Int} (hy : y ∈ fillL L a ∨ y ∈ fillL L b) (h0 : y < 0) : InTwo a b y := by
 rcases hy with hy | hy
 ·obtain ⟨z, h1, h2, h3⟩ := fill_mem hy h0
  exact h.rng z (.inl h1) h2 y h3 h0
 ·obtain ⟨z, h1, h2, h3⟩ := fill_mem hy h0
  exact h.rng z (.inr h1) h2 y h3 h0
theorem Dom.bind (h : Dom a b L) {p : Int} {t : List Int} (hp : InTwo a b p) (h0 : p < 0) (ht : ∀ y ∈ t, y < 0 → InTwo a b y) : Dom a b (fun m => fillL (ones (vr p) t) (L m)) := by
 refine ⟨fun z hz hz0 y hy hy0 => ?_, fun i hi => ?_⟩
 ·change y ∈ fillL (ones (vr p) t) (L (vr z)) at hy
  obtain ⟨q, h1, h2, h3⟩ := fill_mem hy hy0
  unfold ones at h3
  split at h3
  ·exact ht y h3 hy0
  ·rw [vt_vr h2, List.mem_singleton] at h3
   rw [h3]
   exact h.rng z hz hz0 q h1 h2
 ·show fillL (ones (vr p) t) (L i) = vt i
  rw [h.out i hi, fill_vti]
  unfold ones
  rw [if_neg]
  intro e
  subst e
  exact hi (by rw [vr_neg h0]; exact hp)
theorem mem_len {x : Int} : ∀ {t : List Int}, x ∈ t → x < 0 → (L (vr x)).length ≤ (fillL L t).length
 | [], hx, _ => absurd hx (List.not_mem_nil)
 | y :: r, hx, h0 => by
  rw [fill_cons, List.length_append]
  rcases List.mem_cons.1 hx with rfl | hx
  ·rw [rep_vr h0]; omega
  ·have := mem_len hx h0; omega
theorem Dom.each (h : Dom a b L) (ha : (fillL L a).length ≤ 60) (hb : (fillL L b).length ≤ 60) (i : Nat) : (L i).length ≤ 60 := by
 by_cases hi : InTwo a b (-1 - (i : Int))
 ·rcases hi with hi | hi
  ·have := mem_len (L := L) hi (by omega)
   rw [vr_vt] at this
   omega
  ·have := mem_len (L := L) hi (by omega)
   rw [vr_vt] at this
   omega
 ·rw [h.out i hi]; simp [vt]
end
structure Wy (sg a b : List Int) (L : Nat → List Int) (x y : List Int) : Prop where
 ta : termOkB sg a = true
 tb : termOkB sg b = true
 part : Part sg a b L
 dom : Dom a b L
 ex : x = fillL L a
 ey : y = fillL L b
 lx : x.length ≤ 60
 ly : y.length ≤ 60
section
variable {sg a b x y : List Int} {L : Nat → List Int}
theorem Wy.symm (h : Wy sg a b L x y) : Wy sg b a L y x := ⟨h.tb, h.ta, h.part.symm, h.dom.symm, h.ey, h.ex, h.ly, h.lx⟩
theorem Wy.start (ha : termOkB sg a = true) (hb : termOkB sg b = true) : Wy sg a b vt a b :=
 ⟨ha, hb, Part.start sg a b, Dom.start a b, (fill_vt a).symm, (fill_vt b).symm, (term_len ha).2, (term_len hb).2⟩
theorem Wy.tx (h : Wy sg a b L x y) : Trm sg x := by rw [h.ex]; exact h.part.sub.fill (term_parts h.ta).2.2
theorem Wy.okx (h : Wy sg a b L x y) : termOkB sg x = true := term_mk (term_parts h.ta).1 h.lx h.tx
theorem Wy.each (h : Wy sg a b L x y) (i : Nat) : (L i).length ≤ 60 := h.dom.each (by rw [← h.ex]; exact h.lx) (by rw [← h.ey]; exact h.ly) i
theorem Wy.done (h : Wy sg a b L x y) (e : x = y) : IsU sg a b true (plainL L 24) :=
 isU_mg h.ta h.tb (h.part.done (by rw [← h.ex, ← h.ey]; exact e)) h.each (by rw [← h.ex]; exact h.lx)
theorem Wy.spot (h : Wy sg a b L x y) {k : Nat} (e : x.take k = y.take k) (kx : k < x.length) (ky : k < y.length) (ne : x.getD k 0 ≠ y.getD k 0) : Spot sg a b L k :=
 ⟨(term_parts h.ta).2.2, (term_parts h.tb).2.2, by rw [← h.ex, ← h.ey]; exact e, by rw [← h.ex]; exact kx, by rw [← h.ey]; exact ky, by rw [← h.ex, ← h.ey]; exact ne⟩
theorem Wy.clash (h : Wy sg a b L x y) {k : Nat} (s : Spot sg a b L k) (h1 : 0 ≤ x.getD k 0) (h2 : 0 ≤ y.getD k 0) : ∀ M, ¬ Short sg a b M := fun M hM =>
 s.clash h.part (by rw [← h.ex]; exact h1) (by rw [← h.ey]; exact h2) M hM.toUni
theorem Wy.occurs (h : Wy sg a b L x y) {k : Nat} (s : Spot sg a b L k) (h1 : x.getD k 0 < 0) (h2 : x.getD k 0 ∈ subL sg y k) : ∀ M, ¬ Short sg a b M := fun M hM =>
 s.occurs h.part (by rw [← h.ex]; exact h1) (by rw [← h.ex, ← h.ey]; exact h2) M hM.toUni
theorem Wy.step (h : Wy sg a b L x y) {k : Nat} (s : Spot sg a b L k) (h1 : x.getD k 0 < 0) (h2 : x.getD k 0 ∉ subL sg y k) (h3 : 0 ≤ y.getD k 0 ∨ x.getD k 0 < y.getD k 0) :
  (fillL (ones (vr (x.getD k 0)) (subL sg y k)) x).length ≤ 60 → (fillL (ones (vr (x.getD k 0)) (subL sg y k)) y).length ≤ 60 →
   Wy sg a b (fun m => fillL (ones (vr (x.getD k 0)) (subL sg y k)) (L m)) (fillL (ones (vr (x.getD k 0)) (subL sg y k)) x) (fillL (ones (vr (x.getD k 0)) (subL sg y k)) y) ∧
   free (fun m => fillL (ones (vr (x.getD k 0)) (subL sg y k)) (L m)) < free L := fun l1 l2 => by
 have hx := h.ex
 have hy := h.ey
 subst hx
 subst hy
 have hm : (fillL L a).getD k 0 ∈ fillL L a := by have := s.kx; simp [List.getD, this]
 exact ⟨⟨h.ta, h.tb, s.bind h.part h1 h2 h3, h.dom.bind (h.dom.fill (.inl hm) h1) h1 (fun z hz h0 => h.dom.fill (.inr (sub_mem hz)) h0), fill_fill _, fill_fill _, l1, l2⟩, free_bind s h.part h1 h2⟩
theorem Wy.long (h : Wy sg a b L x y) {k : Nat} (s : Spot sg a b L k) (h1 : x.getD k 0 < 0) (h2 : x.getD k 0 ∉ subL sg y k) (h3 : 0 ≤ y.getD k 0 ∨ x.getD k 0 < y.getD k 0)
  (hl : ¬ ((fillL (ones (vr (x.getD k 0)) (subL sg y k)) x).length ≤ 60 ∧ (fillL (ones (vr (x.getD k 0)) (subL sg y k)) y).length ≤ 60)) : ∀ M, ¬ Short sg a b M := fun M hM => by
 have hx := h.ex
 have hy := h.ey
 subst hx
 subst hy
 have hl2 := (s.bind h.part h1 h2 h3).len hM
 rw [← fill_fill, ← fill_fill] at hl2
 exact hl hl2
end
end unifDom
end
section
open List (setIfInBounds_toArray set_cons_zero set_cons_succ getElem_toArray getElem_cons_zero getElem_cons_succ)
namespace thn
open Go.RowKit base ints cursor marks app sym segs fillMath Go.Proofs.Ytobedfmagjgdcaa.look
set_option maxRecDepth 100000
def LooksE (x : Option Nat) (g : Nat) (lb : Array Value) (w : World) (L : Nat → List Int) (N : Nat) : Prop :=
 ∀ (W : World) (i : Nat), w.grownBy W x → i < N → Calls Try.prog g (#[.int .i64 (i : Int)] ++ lb) W (AnsLook w.heap.size W (L i))
section
variable {x : Option Nat} {g : Nat} {lb : Array Value} {w w' : World} {L L' : Nat → List Int} {N : Nat}
theorem LooksE.next (h : LooksE x g lb w L N) (hg : w.grownBy w' x) : LooksE x g lb w' L N :=
 fun W i hW hi => (h W i (grown_trans hg hW) hi).mono fun _ _ ⟨A, n, c, he, h1, h2, h3, h4⟩ => ⟨A, n, c, he, h1, h2, fun k hk => by have := h3 k hk; have := hg.size; omega, h4⟩
theorem LooksE.looks (h : LooksE x g lb w L N) : Looks g lb w L N := fun W i hW hi => h W i (grown_below hW x) hi
theorem grown_drew {a b : World} {r : Option Nat} (h : a.grownBy b r) : a.grownBy b.drew r := ⟨h.os, h.tape, h.output, h.size, h.block⟩
theorem lookVar (x : Option Nat) (w : World) : LooksE x 59 #[] w vt 24 := fun W i _ hi =>
 (varTerm (i : Int) W (by omega) (by omega)).mono fun _ _ ⟨A, n, c, he, ho, hb⟩ => by subst he; exact look_new ho hb
end
theorem lookThen (x : Option Nat) (b1 b2 g1 g2 : Nat) (lb1 lb2 : Array Value) (e1 : ∀ args w, (callFunc g1 args).run Try.prog w = .ok (.enter g1 args) w) (e2 : ∀ args w, (callFunc g2 args).run Try.prog w = .ok (.enter g2 args) w) (L1 L2 : Nat → List Int) (w : World)
  (z1 : b1 < w.heap.size) (z2 : b2 < w.heap.size) (n1 : x ≠ some b1) (n2 : x ≠ some b2) (c1 : w.cell? ⟨b1, 0, none⟩ = some (.func (.func g1) #[] lb1)) (c2 : w.cell? ⟨b2, 0, none⟩ = some (.func (.func g2) #[] lb2))
  (h1 : LooksE x g1 lb1 w L1 24) (h2 : LooksE x g2 lb2 w L2 24) (hl1 : ∀ i, i < 24 → (L1 i).length ≤ 60) (hv : ∀ i, i < 24 → ∀ y ∈ L1 i, -24 ≤ y) (hl2 : ∀ i, (L2 i).length ≤ 4096) :
  LooksE x 112 #[.pointer (some ⟨b2, 0, none⟩), .pointer (some ⟨b1, 0, none⟩)] w (fun i => fillL L2 (L1 i)) 24 := by
 intro W i hb hi
 have hsz := hb.size
 have p1 : W.cell? ⟨b1, 0, none⟩ = some (.func (.func g1) #[] lb1) := hb.cell c1 (fun e => n1 e.symm)
 have p2 : W.cell? ⟨b2, 0, none⟩ = some (.func (.func g2) #[] lb2) := hb.cell c2 (fun e => n2 e.symm)
 have HL1 := Lib.hid (h1 W.drew i (grown_drew hb) hi)
 have LU := (h2.next (grown_drew hb)).looks
 have h60 := Lib.hid (hl1 i hi)
 have HV := Lib.hid (hv i hi)
 have hM2 := Lib.hid hl2
 clear hb z1 z2 c1 c2 h1 h2 hl1 hv hl2
 show Calls Try.prog 112 #[.int .i64 (i : Int), .pointer (some ⟨b2, 0, none⟩), .pointer (some ⟨b1, 0, none⟩)] W _
 go_enter Try.func112, Try.ntmps112
 go_wp2_with fail
 refine wp_region_held_drew (S := (fun w' => w'.cell? ⟨b1, 0, none⟩ = some (.func (.func g1) #[] lb1) ∧ w'.cell? ⟨b2, 0, none⟩ = some (.func (.func g2) #[] lb2))) (by kernel_rfl) ⟨p1, p2⟩ (fun hHeld => ?_)
 refine wpAnyH_take (i := 0) (v := ?_) rfl (by kernel_rfl) (by kernel_rfl) (by kernel_rfl) (fun _ _ _ h => h) (Or.inl ⟨by rfl, ?_⟩) (by assumption) ?_
 rotate_left 1
 ·(intro w0 hSw; (try dsimp only at hSw); go_simp; try with_reducible rfl)
 try simp only [Act.put, setIfInBounds_toArray, set_cons_zero, set_cons_succ, getElem_toArray, getElem_cons_zero, getElem_cons_succ]
 refine wpAnyH_take (i := 1) (v := ?_) rfl (by kernel_rfl) (by kernel_rfl) (by kernel_rfl) (fun _ _ _ h => h) (Or.inl ⟨by rfl, ?_⟩) (by assumption) ?_
 rotate_left 1
 ·(intro w0 hSw; (try dsimp only at hSw); go_simp; try with_reducible rfl)
 try simp only [Act.put, setIfInBounds_toArray, set_cons_zero, set_cons_succ, getElem_toArray, getElem_cons_zero, getElem_cons_succ]
 refine wpAnyH_take (i := 2) (v := ?_) rfl (by kernel_rfl) (by kernel_rfl) (by kernel_rfl) (fun _ _ _ h => h) (Or.inl ⟨by rfl, ?_⟩) (by assumption) ?_
 rotate_left 1
 ·(intro w0 hSw; (try dsimp only at hSw); go_simp; try with_reducible rfl)
 try simp only [Act.put, setIfInBounds_toArray, set_cons_zero, set_cons_succ, getElem_toArray, getElem_cons_zero, getElem_cons_succ]
 refine wpAnyH_ready (rs := [3]) (by kernel_rfl) (by simp) (AllReadyH.cons rfl (fun K hK => ?_) AllReadyH.nil)
 go_simp
 refine HL1.out.mono ?_; rintro e w3 ⟨X, xn, xc, rfl, s1, -, -, b1'⟩; have x1 : w3.cell? ⟨b1, 0, none⟩ = some (.func (.func g1) #[] lb1) := (b1'.cell (p := ⟨b1, 0, none⟩) (World.block_lt_of_cell? _ _ p1)).trans p1; have x2 : w3.cell? ⟨b2, 0, none⟩ = some (.func (.func g2) #[] lb2) := (b1'.cell (p := ⟨b2, 0, none⟩) (World.block_lt_of_cell? _ _ p2)).trans p2; go_wp2_with fail
 refine hK.out _ _ ?_ (fun hHeld => ?_)
 ·first | assumption | (dsimp only; assumption) | exact ⟨by assumption, by assumption⟩
 clear hK K
 try simp only [Act.put, setIfInBounds_toArray, set_cons_zero, set_cons_succ, getElem_toArray, getElem_cons_zero, getElem_cons_succ]
 refine wpAnyH_ready (rs := [4]) (by kernel_rfl) (by simp) (AllReadyH.cons rfl (fun K hK => ?_) AllReadyH.nil)
 go_simp
 refine (fill g2 lb2 e2 X xn xc (L1 i) L2 w3 (LU.next b1') s1 (by rw [← s1.1]; exact h60.out) HV.out hM2.out).mono ?_; rintro e w4 ⟨Y, yn, yc, rfl, oy, b2'⟩; have y1 := (b2'.cell (p := ⟨b1, 0, none⟩) (World.block_lt_of_cell? _ _ x1)).trans x1; have y2 := (b2'.cell (p := ⟨b2, 0, none⟩) (World.block_lt_of_cell? _ _ x2)).trans x2; go_wp2_with fail
 refine hK.out _ _ ?_ (fun hHeld => ?_)
 ·first | assumption | (dsimp only; assumption) | exact ⟨by assumption, by assumption⟩
 clear hK K
 try simp only [Act.put, setIfInBounds_toArray, set_cons_zero, set_cons_succ, getElem_toArray, getElem_cons_zero, getElem_cons_succ]
 refine wpAnyH_take (i := 5) (v := ?_) rfl (by kernel_rfl) (by kernel_rfl) (by kernel_rfl) (fun _ _ _ h => h) (Or.inl ⟨by rfl, ?_⟩) (by assumption) ?_
 rotate_left 1
 ·(intro w0 hSw; (try dsimp only at hSw); go_simp; try with_reducible rfl)
 try simp only [Act.put, setIfInBounds_toArray, set_cons_zero, set_cons_succ, getElem_toArray, getElem_cons_zero, getElem_cons_succ]
 refine wpAnyH_done (by kernel_rfl) ?_ _
 have F : AnsLook w.heap.size W (fillL L2 (L1 i)) (.returned (.slice Y yn yc)) w4 :=
  look_new (w := W) (Own.lower oy (show W.drew.heap.size ≤ w3.heap.size from b1'.size)) (next_trans ((Below.refl _ _).drew : Below W.heap.size W W.drew) (next_trans b1' b2'))
 have HF := Lib.hid F
 clear F oy s1 b1' b2' HL1 LU p1 p2 x1 x2
 go_wp2
 go_ret
 exact HF.out
theorem thenC (g1 g2 : Nat) (lb1 lb2 : Array Value) (w : World) :
  Calls Try.prog 81 #[.func (.func g1) #[] lb1, .func (.func g2) #[] lb2] w fun e w' => e = .returned (.func (.func 112) #[] #[.pointer (some ⟨w.heap.size + 1, 0, none⟩), .pointer (some ⟨w.heap.size, 0, none⟩)]) ∧ w' = (w.alloc (.cells #[.func (.func g1) #[] lb1] 65)).alloc (.cells #[.func (.func g2) #[] lb2] 65) := by
 have hmf : ∀ (fn : Fn) (first cap : Array Value) (w : World), (Instr.makeFunc fn first cap).run Try.prog w = .ok (.func fn first cap) w := fun _ _ _ _ => rfl
 go_enter Try.func81, Try.ntmps81
 go_wp2
 go_ret
 exact ⟨rfl, rfl⟩
def AnsThen (w : World) (g1 g2 : Nat) (lb1 lb2 : Array Value) (e : Ending) (w' : World) : Prop :=
 ∃ b1 b2, e = .returned (.func (.func 112) #[] #[.pointer (some ⟨b2, 0, none⟩), .pointer (some ⟨b1, 0, none⟩)]) ∧ w.heap.size ≤ b1 ∧ w.heap.size ≤ b2 ∧ w'.cell? ⟨b1, 0, none⟩ = some (.func (.func g1) #[] lb1) ∧ w'.cell? ⟨b2, 0, none⟩ = some (.func (.func g2) #[] lb2) ∧ Below w.heap.size w w'
theorem thenB (g1 g2 : Nat) (lb1 lb2 : Array Value) (w : World) :
  Calls Try.prog 81 #[.func (.func g1) #[] lb1, .func (.func g2) #[] lb2] w (AnsThen w g1 g2 lb1 lb2) :=
 (thenC g1 g2 lb1 lb2 w).mono fun e w' ⟨h1, h2⟩ => by
  subst h2
  refine ⟨_, _, h1, Nat.le_refl _, Nat.le_succ _, ((Row.new w _ _).alloc _).cell 0, ?_, ((Below.refl _ _).alloc (Nat.le_refl _) _).alloc (by simp) _⟩
  simp
end thn
end
section
namespace heldT
section
variable {P : Program} {md : Region.Mode} {ops : Array Oper} {Q : Exit → Act → World → Prop} {S : World → Prop} {late : Nat → Bool}
def AnyT (P : Program) (md : Region.Mode) (ops : Array Oper) (Q : Exit → Act → World → Prop) (S : World → Prop) (late : Nat → Bool) : Nat → Array Bool → Act → World → Prop
 | 0, listed, a, w => Region.ready md ops listed = [] ∧ Q .normal a w
 | fuel + 1, listed, a, w => (Region.ready md ops listed = [] → Q .normal a w) ∧
  ∀ i ∈ Region.ready md ops listed, wpOp P ops Q i (fun a' w' => (late i = false → S w → S w') ∧ AnyT P md ops Q S late fuel (listed.setIfInBounds i true) a' w') a w
theorem AnyT.any : ∀ (fuel : Nat) (listed : Array Bool) (a : Act) (w : World), AnyT P md ops Q S late fuel listed a w → wpAny P md ops Q fuel listed a w
 | 0, _, _, _, h => h
 | fuel + 1, _, _, _, h => ⟨h.1, fun i hi => wpOp_mono (fun a' w' h' => AnyT.any fuel _ a' w' h'.2) (h.2 i hi)⟩
def Waits (md : Region.Mode) (ops : Array Oper) (late : Nat → Bool) (listed : Array Bool) (i : Nat) : Prop :=
 ∀ j o, ops[j]? = some o → late j = true → listed.getD j true = false → ∃ e ∈ o.after, Region.binds md e = true ∧ e.on = i
def waitsB (md : Region.Mode) (ops : Array Oper) (late : Nat → Bool) (listed : Array Bool) (i : Nat) : Bool :=
 (List.range ops.size).all fun j => !late j || listed.getD j true || ((ops[j]?).map fun o => o.after.any fun e => Region.binds md e && e.on == i).getD false
theorem waits_of {listed : Array Bool} {i : Nat} (h : waitsB md ops late listed i = true) : Waits md ops late listed i := by
 intro j o ho hl hu
 have hj : j < ops.size := by
  rcases Nat.lt_or_ge j ops.size with h' | h'
  ·exact h'
  ·rw [Array.getElem?_eq_none h'] at ho; cases ho
 have := List.all_eq_true.1 h j (List.mem_range.2 hj)
 rw [hl, hu, ho] at this
 simp only [Bool.not_true, Bool.false_or, Option.map_some, Option.getD_some, Array.any_eq_true', Bool.and_eq_true, beq_iff_eq] at this
 exact this
theorem AnyT.first {i : Nat} {oi : Oper} {v : Value} (hi : ops[i]? = some oi) (hsel : ∀ (j : Nat) (o : Oper) cs b, ops[j]? = some o → o.op ≠ .select cs b) (hQ : ∀ c a w, Q (.panic c) (a.put oi.dst v) w → Q (.panic c) a w) :
  ∀ (fuel : Nat) (listed : Array Bool) (a : Act) (w : World),
   (∀ j oj, ops[j]? = some oj → j ≠ i → listed.getD j true = false → (∀ e ∈ oj.after, Region.binds md e = true → e.on ≠ i) → oi.apart ops oj = true) → Waits md ops late listed i →
   i ∈ Region.ready md ops listed → YieldsIf P ops S oi v a → S w → AnyT P md ops Q S late fuel (listed.setIfInBounds i true) (a.put oi.dst v) w → AnyT P md ops Q S late (fuel + 1) listed a w := by
 intro fuel
 induction fuel with
 | zero =>
  intro listed a w _ _ hr hy hS H
  refine ⟨fun h => (by rw [h] at hr; cases hr), fun j hj => ?_⟩
  rcases Classical.em (j = i) with e | e
  ·subst e; exact hy.wpOp hi hS ⟨fun _ h => h, H⟩
  ·have := ready_mono hj e
   rw [H.1] at this
   cases this
 | succ fuel ih =>
  intro listed a w hfree hwait hr hy hS H
  refine ⟨fun h => (by rw [h] at hr; cases hr), fun j hj => ?_⟩
  rcases Classical.em (j = i) with e | hji
  ·subst e; exact hy.wpOp hi hS ⟨fun _ h => h, H⟩
  have h1 := H.2 j (ready_mono hj hji)
  obtain ⟨hjun, oj, hoj, hall⟩ := mem_ready.1 hj
  have h0 := (mem_ready.1 hr).1
  have hnot : ∀ e ∈ oj.after, Region.binds md e = true → e.on ≠ i := fun e he hb heq => by
   have h1 := hall e he hb
   rw [heq] at h1
   rcases Nat.lt_or_ge i listed.size with h' | h'
   ·simp [h'] at h0 h1; rw [h0] at h1; cases h1
   ·simp [Array.getElem?_eq_none h'] at h1
  have hlj : late j = false := by
   cases e : late j with
   | false => rfl
   | true =>
    obtain ⟨x, hx, hb, ho⟩ := hwait j oj hoj e hjun
    exact absurd ho (hnot x hx hb)
  have far : ∀ {k : Nat}, j ≠ k → (listed.setIfInBounds j true).getD k true = false → listed.getD k true = false := fun hjk h => by rwa [getD_set_ne true hjk] at h
  have same : ∀ {k : Nat}, k = j → listed.getD k true = false := fun e => by rw [e]; exact hjun
  have un : ∀ (k : Nat), (listed.setIfInBounds j true).getD k true = false → listed.getD k true = false := fun k h => by
   rcases Classical.em (k = j) with e | e
   ·exact same e
   ·exact far (fun e' => e e'.symm) h
  have h2 := wpOp_putIf hoj (hfree j oj hoj hji hjun hnot) (fun cs b => hsel i oi cs b hi) (fun cs b => hsel j oj cs b hoj) hQ hy h1
  refine wpOp_mono (fun a' w' h3 => ⟨h3.2.1, ih (listed.setIfInBounds j true) a' w' (fun k ok hk hki hun hno => hfree k ok hk hki (un k hun) hno) (fun k o hk hl hu => hwait k o hk hl (un k hu)) (ready_mono hr (Ne.symm hji)) h3.1 (h3.2.1 hlj hS) ?_⟩) h2
  rw [Array.setIfInBounds_comm _ _ hji]
  exact h3.2.2
theorem AnyT.take {i : Nat} {oi : Oper} {v : Value} {fuel : Nat} {listed : Array Bool} {a : Act} {w : World} (hi : ops[i]? = some oi) (hs : Region.noSelect ops = true) (hf : Region.free md ops listed i = true) (hw : waitsB md ops late listed i = true) (hr : (Region.ready md ops listed).contains i = true)
  (hQ : ∀ c a w, Q (.panic c) (a.put oi.dst v) w → Q (.panic c) a w) (hy : YieldsIf P ops S oi v a) (hS : S w) (h : AnyT P md ops Q S late fuel (listed.setIfInBounds i true) (a.put oi.dst v) w) : AnyT P md ops Q S late (fuel + 1) listed a w :=
 AnyT.first hi (Region.noSelect_spec hs) hQ fuel listed a w (Region.free_spec hi hf) (waits_of hw) (by simpa using hr) hy hS h
theorem AnyT.firstA {i : Nat} {oi : Oper} {v : Value} (hi : ops[i]? = some oi) (hsel : ∀ (j : Nat) (o : Oper) cs b, ops[j]? = some o → o.op ≠ .select cs b) (hQ : ∀ c a w, Q (.panic c) (a.put oi.dst v) w → Q (.panic c) a w) :
  ∀ (fuel : Nat) (listed : Array Bool) (a : Act) (w : World),
   (∀ j oj, ops[j]? = some oj → j ≠ i → listed.getD j true = false → (∀ e ∈ oj.after, Region.binds md e = true → e.on ≠ i) → oi.apart ops oj = true) →
   i ∈ Region.ready md ops listed → YieldsIf P ops (fun _ => True) oi v a → AnyT P md ops Q S late fuel (listed.setIfInBounds i true) (a.put oi.dst v) w → AnyT P md ops Q S late (fuel + 1) listed a w := by
 intro fuel
 induction fuel with
 | zero =>
  intro listed a w _ hr hy H
  refine ⟨fun h => (by rw [h] at hr; cases hr), fun j hj => ?_⟩
  rcases Classical.em (j = i) with e | e
  ·subst e; exact hy.wpOp hi trivial ⟨fun _ h => h, H⟩
  ·have := ready_mono hj e
   rw [H.1] at this
   cases this
 | succ fuel ih =>
  intro listed a w hfree hr hy H
  refine ⟨fun h => (by rw [h] at hr; cases hr), fun j hj => ?_⟩
  rcases Classical.em (j = i) with e | hji
  ·subst e; exact hy.wpOp hi trivial ⟨fun _ h => h, H⟩
  have h1 := H.2 j (ready_mono hj hji)
  obtain ⟨hjun, oj, hoj, hall⟩ := mem_ready.1 hj
  have h0 := (mem_ready.1 hr).1
  have hnot : ∀ e ∈ oj.after, Region.binds md e = true → e.on ≠ i := fun e he hb heq => by
   have h1 := hall e he hb
   rw [heq] at h1
   rcases Nat.lt_or_ge i listed.size with h' | h'
   ·simp [h'] at h0 h1; rw [h0] at h1; cases h1
   ·simp [Array.getElem?_eq_none h'] at h1
  have un : ∀ (k : Nat), (listed.setIfInBounds j true).getD k true = false → listed.getD k true = false := fun k h => by
   rcases Classical.em (k = j) with e | e
   ·rw [e]; exact hjun
   ·rwa [getD_set_ne true (fun e' => e e'.symm)] at h
  have h2 := wpOp_putIf hoj (hfree j oj hoj hji hjun hnot) (fun cs b => hsel i oi cs b hi) (fun cs b => hsel j oj cs b hoj) hQ hy h1
  refine wpOp_mono (fun a' w' h3 => ⟨h3.2.1, ih (listed.setIfInBounds j true) a' w' (fun k ok hk hki hun hno => hfree k ok hk hki (un k hun) hno) (ready_mono hr (Ne.symm hji)) h3.1 ?_⟩) h2
  rw [Array.setIfInBounds_comm _ _ hji]
  exact h3.2.2
theorem AnyT.takeA {i : Nat} {oi : Oper} {v : Value} {fuel : Nat} {listed : Array Bool} {a : Act} {w : World} (hi : ops[i]? = some oi) (hs : Region.noSelect ops = true) (hf : Region.free md ops listed i = true) (hr : (Region.ready md ops listed).contains i = true)
  (hQ : ∀ c a w, Q (.panic c) (a.put oi.dst v) w → Q (.panic c) a w) (hy : YieldsIf P ops (fun _ => True) oi v a) (h : AnyT P md ops Q S late fuel (listed.setIfInBounds i true) (a.put oi.dst v) w) : AnyT P md ops Q S late (fuel + 1) listed a w :=
 AnyT.firstA hi (Region.noSelect_spec hs) hQ fuel listed a w (Region.free_spec hi hf) (by simpa using hr) hy h
theorem AnyT.call {i : Nat} {o : Oper} {fuel : Nat} {listed : Array Bool} {a : Act} {w : World} (hr : Region.ready md ops listed = [i]) (ho : ops[i]? = some o)
  (h : ∀ K' : Act → World → Prop, Shut (∀ a w', (late i = false → S w → S w') → ((late i = false → S w → S w') → AnyT P md ops Q S late fuel (listed.setIfInBounds i true) a w') → K' a w') → if Region.wanted o (yielded ops a.tmps) = true then Oper.wp P o a w K' Q else K' (a.put o.dst undef) w) : AnyT P md ops Q S late (fuel + 1) listed a w :=
 ⟨fun h0 => absurd (hr ▸ h0) (by simp), fun j hj => by
  rw [hr, List.mem_singleton] at hj
  subst hj
  exact wpOp_step ho (fun K' hK => h K' (fun a w' hS hW => hK a w' ⟨hS, hW hS⟩))⟩
theorem AnyT.done {listed : Array Bool} {a : Act} {w : World} (hr : Region.ready md ops listed = []) (h : Q .normal a w) : ∀ fuel, AnyT P md ops Q S late fuel listed a w
 | 0 => ⟨hr, h⟩
 | _ + 1 => ⟨fun _ => h, by rw [hr]; simp⟩
theorem AnyT.start {id : Nat} {a : Act} {w : World} (late : Nat → Bool) (hm : P.follows .mixedOrders = true) (hS : S w.drew) (h : S w.drew → AnyT P .any ops Q S late ops.size (Array.replicate ops.size false) a w.drew) : (Code.region id ops true).wp P Q a w :=
 wp_region_any hm (AnyT.any _ _ _ _ (h hS))
end
end heldT
end
section
open Go.Lib (hid)
open List (setIfInBounds_toArray set_cons_zero set_cons_succ getElem_toArray getElem_cons_zero getElem_cons_succ)
namespace unifRep
open Go.RowKit base ints sig cursor marks app sym segs fillMath gives unifMath Go.Proofs.Ytobedfmagjgdcaa.look thn heldT
set_option maxRecDepth 100000
def NoInt (cs : Array Value) : Prop := ∀ (j : Nat) (z : Int), cs[j]? ≠ some (Value.int .i64 z)
theorem noInt4 {a b c d : Value} (h1 : ∀ z : Int, a ≠ .int .i64 z) (h2 : ∀ z : Int, b ≠ .int .i64 z) (h3 : ∀ z : Int, c ≠ .int .i64 z) (h4 : ∀ z : Int, d ≠ .int .i64 z) : NoInt #[a, b, c, d] := fun j z e => by
 rcases j with _ | _ | _ | _ | j
 ·exact h1 z (by simpa using e)
 ·exact h2 z (by simpa using e)
 ·exact h3 z (by simpa using e)
 ·exact h4 z (by simpa using e)
 ·simp at e
theorem seg_ne {w : World} {B b off n : Nat} {xs : List Int} {g : Nat} {t : TypeId} {cs : Array Value} (h : Seg w B (some ⟨b, off, none⟩) n xs) (hn : 0 < n) (hr : Row w g t cs) (hno : NoInt cs) : b ≠ g := by
 rintro rfl
 obtain ⟨b', off', e, _, hc⟩ := h.2 hn
 injection e with e
 injection e with e1 e2
 subst e1 e2
 have := hc 0 hn
 rw [hr.cell] at this
 exact hno _ _ this
theorem segE {w w' : World} {n : Nat} {A : Option Addr} {xs : List Int} {g : Nat} {t : TypeId} {cs : Array Value} (h : Seg w w.heap.size A n xs) (hr : Row w g t cs) (hno : NoInt cs) (hg : w.grownBy w' (some g)) : Seg w' w'.heap.size A n xs := by
 refine ⟨h.1, fun hn => ?_⟩
 obtain ⟨b, off, rfl, hb, hc⟩ := h.2 hn
 have hne := seg_ne h hn hr hno
 exact ⟨b, off, rfl, Nat.lt_of_lt_of_le hb hg.size, fun j hj => hg.cell (hc j hj) (by show some b ≠ some g; exact fun e => hne (by injection e))⟩
structure Un (w : World) (g : Nat) (A : Option Addr) (n c : Nat) (sg : List Int) (P : Option Addr) (pn pc : Nat) (x : List Int) (Q : Option Addr) (qn qc : Nat) (y : List Int) (gl : Nat) (lb : Array Value) (L : Nat → List Int) : Prop where
 row : Row w g 67 #[.slice A n c, .slice P pn pc, .slice Q qn qc, .func (.func gl) #[] lb]
 s : Seg w w.heap.size A n sg
 p : Seg w w.heap.size P pn x
 q : Seg w w.heap.size Q qn y
 kp : Cap P pn pc
 kq : Cap Q qn qc
 eg : ∀ args w, (callFunc gl args).run Try.prog w = .ok (.enter gl args) w
 lk : LooksE (some g) gl lb w L 24
section
variable {w w' : World} {g : Nat} {A : Option Addr} {n c : Nat} {sg : List Int} {P : Option Addr} {pn pc : Nat} {x : List Int} {Q : Option Addr} {qn qc : Nat} {y : List Int} {gl : Nat} {lb : Array Value} {L : Nat → List Int}
theorem un_noInt : NoInt #[.slice A n c, .slice P pn pc, .slice Q qn qc, .func (.func gl) #[] lb] := noInt4 (fun _ e => by cases e) (fun _ e => by cases e) (fun _ e => by cases e) (fun _ e => by cases e)
theorem Un.next (h : Un w g A n c sg P pn pc x Q qn qc y gl lb L) (hb : Below w.heap.size w w') : Un w' g A n c sg P pn pc x Q qn qc y gl lb L :=
 ⟨h.row.next hb, h.s.next hb, h.p.next hb, h.q.next hb, h.kp, h.kq, h.eg, h.lk.next (grown_below hb _)⟩
theorem Un.c0 (h : Un w g A n c sg P pn pc x Q qn qc y gl lb L) : w.cell? ⟨g, 0, none⟩ = some (.slice A n c) := h.row.cell 0
theorem Un.c1 (h : Un w g A n c sg P pn pc x Q qn qc y gl lb L) : w.cell? ⟨g, 1, none⟩ = some (.slice P pn pc) := h.row.cell 1
theorem Un.c2 (h : Un w g A n c sg P pn pc x Q qn qc y gl lb L) : w.cell? ⟨g, 2, none⟩ = some (.slice Q qn qc) := h.row.cell 2
theorem Un.c3 (h : Un w g A n c sg P pn pc x Q qn qc y gl lb L) : w.cell? ⟨g, 3, none⟩ = some (.func (.func gl) #[] lb) := h.row.cell 3
end
theorem lookOnce (o : Option Nat) (bi bt i : Nat) (T : Option Addr) (tn tc : Nat) (t : List Int) (w : World) (ni : o ≠ some bi) (nt : o ≠ some bt) (ci : w.cell? ⟨bi, 0, none⟩ = some (.int .i64 (i : Int))) (ct : w.cell? ⟨bt, 0, none⟩ = some (.slice T tn tc)) (hs : Seg w w.heap.size T tn t) (ht : 1 ≤ tn) (hc : Cap T tn tc) (hi : i < 24)
  (hk : ∀ W, w.grownBy W o → Seg W W.heap.size T tn t) :
  LooksE o 133 #[.pointer (some ⟨bi, 0, none⟩), .pointer (some ⟨bt, 0, none⟩)] w (ones i t) 24 := by
 intro W j hg hj
 have pi : W.cell? ⟨bi, 0, none⟩ = some (.int .i64 (i : Int)) := hg.cell ci (fun e => ni e.symm)
 have pt : W.cell? ⟨bt, 0, none⟩ = some (.slice T tn tc) := hg.cell ct (fun e => nt e.symm)
 show Calls Try.prog 133 #[.int .i64 (j : Int), .pointer (some ⟨bi, 0, none⟩), .pointer (some ⟨bt, 0, none⟩)] W _
 have HB : Hid (∀ k, blk T = some k → k < w.heap.size ∨ W.heap.size ≤ k) := hid fun k e => by
  obtain ⟨b, off, rfl, hb, _⟩ := hs.2 ht
  injection e with e
  exact .inl (by rw [← e]; exact hb)
 by_cases e : j = i
 ·subst e
  have F : AnsLook w.heap.size W (ones j t j) (.returned (.slice T tn tc)) W := ⟨T, tn, tc, rfl, by unfold ones; rw [if_pos rfl]; exact hk W hg, hc, HB.out, Below.refl _ _⟩
  have HF := hid F
  clear F hg hk hs ci ct
  go_enter Try.func133, Try.ntmps133
  go_wp2
  go_ret
  exact HF.out
 ·have hne : ((j : Int) == (i : Int)) = false := by simp; exact fun h => e (by omega)
  have HE := hid (show ones i t j = vt j by unfold ones; rw [if_neg e])
  clear hg hk hs ci ct
  go_enter Try.func133, Try.ntmps133
  go_wp2_with fail
  refine (varTerm (j : Int) W (by omega) (by omega)).mono ?_
  rintro e w' ⟨A, n, c, rfl, ho, hb⟩
  have F : AnsLook w.heap.size W (ones i t j) (.returned (.slice A n c)) w' := by rw [HE.out]; exact look_new ho hb
  have HF := hid F
  clear F ho hb
  go_wp2
  go_ret
  exact HF.out
def AnsRep (w : World) (g : Nat) (A : Option Addr) (n c : Nat) (sg x y : List Int) (L : Nat → List Int) (e : Ending) (w' : World) : Prop :=
 w.grownBy w' (some g) ∧ ((x.length ≤ 60 ∧ y.length ≤ 60 ∧ e = .returned (.tuple #[]) ∧ ∃ P pn pc Q qn qc gl lb, Un w' g A n c sg P pn pc x Q qn qc y gl lb L) ∨
  (¬ (x.length ≤ 60 ∧ y.length ≤ 60) ∧ ∃ u v, e = .panicked [{ v := .iface u v, recovered := false }]))
def Put (w : World) (g : Nat) (A : Option Addr) (n c : Nat) (sg x y : List Int) (L : Nat → List Int) (w' : World) : Prop :=
 w.grownBy w' (some g) ∧ ∃ P pn pc Q qn qc gl lb, Un w' g A n c sg P pn pc x Q qn qc y gl lb L
theorem put_mk {w w2 w3 w4 w5 : World} {g : Nat} {A : Option Addr} {n c : Nat} {sg : List Int} {P : Option Addr} {pn pc : Nat} {x : List Int} {Q : Option Addr} {qn qc : Nat} {y : List Int} {gl : Nat} {lb : Array Value} {L : Nat → List Int} (h : Un w g A n c sg P pn pc x Q qn qc y gl lb L)
  {X : Option Addr} {xn xc : Nat} {x' : List Int} {Y : Option Addr} {yn yc : Nat} {y' : List Int} {g' : Nat} {lb' : Array Value} {L' : Nat → List Int} (b2 : Below w.heap.size w w2) (b3 : Below w2.heap.size w2 w3) (b4 : Below w3.heap.size w3 w4) (b5 : Below w4.heap.size w4 w5)
  (ox : Own w3 w2.heap.size (.slice X xn xc) x') (oy : Own w4 w3.heap.size (.slice Y yn yc) y') (eg : ∀ args w, (callFunc g' args).run Try.prog w = .ok (.enter g' args) w) (lk : LooksE (some g) g' lb' w5 L' 24) :
  Put w g A n c sg x' y' L' (((w5.setCell ⟨g, 1, none⟩ (.slice X xn xc)).setCell ⟨g, 2, none⟩ (.slice Y yn yc)).setCell ⟨g, 3, none⟩ (.func (.func g') #[] lb')) := by
 have b := next_trans b2 (next_trans b3 (next_trans b4 b5))
 have h5 := h.next b
 have hg : w5.grownBy (((w5.setCell ⟨g, 1, none⟩ (.slice X xn xc)).setCell ⟨g, 2, none⟩ (.slice Y yn yc)).setCell ⟨g, 3, none⟩ (.func (.func g') #[] lb')) (some g) := grown_put (grown_put (grown_put (World.grownBy.refl _ _) _ _) _ _) _ _
 refine ⟨grown_trans (grown_below b _) hg, X, xn, xc, Y, yn, yc, g', lb', ?_, segE h5.s h5.row un_noInt hg, segE ((Own.seg ox).next (next_trans b4 b5)) h5.row un_noInt hg, segE ((Own.seg oy).next b5) h5.row un_noInt hg, own_cap ox, own_cap oy, eg, lk.next hg⟩
 have r := ((h5.row.put 1 (.slice X xn xc)).put 2 (.slice Y yn yc)).put 3 (.func (.func g') #[] lb')
 simpa using r
set_option maxHeartbeats 4000000 in
theorem replace (g : Nat) (A P Q T : Option Addr) (n c pn pc qn qc tn tc gl : Nat) (lb : Array Value) (sg x y t : List Int) (L : Nat → List Int) (i : Nat) (w : World) (h : Un w g A n c sg P pn pc x Q qn qc y gl lb L) (hs : Seg w w.heap.size T tn t) (hc : Cap T tn tc) (ht : 1 ≤ tn) (ht60 : tn ≤ 60) (hi : i < 24) (hx : pn ≤ 60) (hy : qn ≤ 60)
  (vx : ∀ z ∈ x, -24 ≤ z) (vy : ∀ z ∈ y, -24 ≤ z) (hL : ∀ j, j < 24 → (L j).length ≤ 60) (vL : ∀ j, j < 24 → ∀ z ∈ L j, -24 ≤ z) :
  Calls Try.prog 119 #[.pointer (some ⟨g, 0, none⟩), .int .i64 (i : Int), .slice T tn tc] w (AnsRep w g A n c sg (fillL (ones i t) x) (fillL (ones i t) y) (fun m => fillL (ones i t) (L m))) := by
 have hgz := h.row.lt
 obtain ⟨W, hW⟩ : ∃ W, W = (w.alloc (.cells #[.int .i64 (i : Int)] 2)).alloc (.cells #[.slice T tn tc] 22) := ⟨_, rfl⟩
 have bW : Below w.heap.size w W := by rw [hW]; exact ((Below.refl _ _).alloc (Nat.le_refl _) _).alloc (by simp) _
 have ri : Row W w.heap.size 2 #[.int .i64 (i : Int)] := by rw [hW]; exact (Row.new w _ _).alloc _
 have rt : Row W (w.heap.size + 1) 22 #[.slice T tn tc] := by
  rw [hW]
  have := Row.new (w.alloc (.cells #[.int .i64 (i : Int)] 2)) 22 #[.slice T tn tc]
  simpa using this
 have U := h.next bW
 have hsW := hs.next bW
 have lt : t.length ≤ 60 := by rw [hs.1]; exact ht60
 have one60 : ∀ j, (ones i t j).length ≤ 60 := fun j => by unfold ones; split; exact lt; simp [vt]
 have LO : LooksE (some g) 133 #[.pointer (some ⟨w.heap.size, 0, none⟩), .pointer (some ⟨w.heap.size + 1, 0, none⟩)] W (ones i t) 24 :=
  lookOnce (some g) _ _ i T tn tc t W (by simp; omega) (by simp; omega) (ri.cell 0) (rt.cell 0) hsW ht hc hi (fun W' hg => segE hsW U.row un_noInt hg)
 have eo := enters_of Try.func133 (by kernel_rfl) rfl
 have et := enters_of Try.func112 (by kernel_rfl) rfl
 have M1 := hid (fun j => Nat.le_trans (one60 j) (show 60 ≤ 4096 by omega))
 have LF1 := hid (fun (w2 : World) (b : Below W.heap.size W w2) => fill _ _ eo P pn pc x (ones i t) w2 (LO.next (grown_below b _)).looks (U.next b).p hx vx M1.out)
 have LF2 := hid (fun (w3 : World) (b : Below W.heap.size W w3) => fill _ _ eo Q qn qc y (ones i t) w3 (LO.next (grown_below b _)).looks (U.next b).q hy vy M1.out)
 have c1 := U.c1
 have c2 := U.c2
 have c3 := U.c3
 have HW := hid hW
 have HU := hid U
 have HLO := hid LO
 have HBW := hid bW
 have hmf : ∀ (fn : Fn) (first cap : Array Value) (w : World), (Instr.makeFunc fn first cap).run Try.prog w = .ok (.func fn first cap) w := fun _ _ _ _ => rfl
 clear hW bW ri rt U hsW LO h hs
 go_enter Try.func119, Try.ntmps119
 go_wp2_with fail
 rw [← HW.out]
 go_cut [] (fun wx => Put W g A n c sg (fillL (ones i t) x) (fillL (ones i t) y) (fun m => fillL (ones i t) (L m)) wx)
 case first =>
  have BD : Hid (Below W.heap.size W W.drew) := hid (Below.refl _ _).drew
  have HV := hid vL
  have HL60 := hid hL
  clear vx vy one60 HW hL vL
  -- region
  refine AnyT.start (S := (fun w' => w'.cell? ⟨g, 1, none⟩ = some (.slice P pn pc) ∧ w'.cell? ⟨g, 2, none⟩ = some (.slice Q qn qc) ∧ w'.cell? ⟨g, 3, none⟩ = some (.func (.func gl) #[] lb))) (fun i => decide (21 ≤ i)) (by kernel_rfl) ⟨c1, c2, c3⟩ (fun hHeld => ?_)
  refine AnyT.takeA (i := 0) (v := ?_) rfl (by kernel_rfl) (by kernel_rfl) (by kernel_rfl) (fun _ _ _ h => h) (Or.inl ⟨by rfl, ?_⟩) ?_
  rotate_left 1
  ·(intro w0 _; go_simp; try with_reducible rfl)
  try simp only [Act.put, setIfInBounds_toArray, set_cons_zero, set_cons_succ, getElem_toArray, getElem_cons_zero, getElem_cons_succ]
  refine AnyT.takeA (i := 1) (v := ?_) rfl (by kernel_rfl) (by kernel_rfl) (by kernel_rfl) (fun _ _ _ h => h) (Or.inl ⟨by rfl, ?_⟩) ?_
  rotate_left 1
  ·(intro w0 _; go_simp; try with_reducible rfl)
  try simp only [Act.put, setIfInBounds_toArray, set_cons_zero, set_cons_succ, getElem_toArray, getElem_cons_zero, getElem_cons_succ]
  refine AnyT.takeA (i := 2) (v := ?_) rfl (by kernel_rfl) (by kernel_rfl) (by kernel_rfl) (fun _ _ _ h => h) (Or.inl ⟨by rfl, ?_⟩) ?_
  rotate_left 1
  ·(intro w0 _; go_simp; try with_reducible rfl)
  try simp only [Act.put, setIfInBounds_toArray, set_cons_zero, set_cons_succ, getElem_toArray, getElem_cons_zero, getElem_cons_succ]
  refine AnyT.takeA (i := 3) (v := ?_) rfl (by kernel_rfl) (by kernel_rfl) (by kernel_rfl) (fun _ _ _ h => h) (Or.inl ⟨by rfl, ?_⟩) ?_
  rotate_left 1
  ·(intro w0 _; go_simp; try with_reducible rfl)
  try simp only [Act.put, setIfInBounds_toArray, set_cons_zero, set_cons_succ, getElem_toArray, getElem_cons_zero, getElem_cons_succ]
  refine AnyT.takeA (i := 4) (v := ?_) rfl (by kernel_rfl) (by kernel_rfl) (by kernel_rfl) (fun _ _ _ h => h) (Or.inl ⟨by rfl, ?_⟩) ?_
  rotate_left 1
  ·(intro w0 _; go_simp; try with_reducible rfl)
  try simp only [Act.put, setIfInBounds_toArray, set_cons_zero, set_cons_succ, getElem_toArray, getElem_cons_zero, getElem_cons_succ]
  refine AnyT.takeA (i := 5) (v := ?_) rfl (by kernel_rfl) (by kernel_rfl) (by kernel_rfl) (fun _ _ _ h => h) (Or.inl ⟨by rfl, ?_⟩) ?_
  rotate_left 1
  ·(intro w0 _; go_simp; try with_reducible rfl)
  try simp only [Act.put, setIfInBounds_toArray, set_cons_zero, set_cons_succ, getElem_toArray, getElem_cons_zero, getElem_cons_succ]
  refine AnyT.takeA (i := 6) (v := ?_) rfl (by kernel_rfl) (by kernel_rfl) (by kernel_rfl) (fun _ _ _ h => h) (Or.inl ⟨by rfl, ?_⟩) ?_
  rotate_left 1
  ·(intro w0 _; go_simp; try with_reducible rfl)
  try simp only [Act.put, setIfInBounds_toArray, set_cons_zero, set_cons_succ, getElem_toArray, getElem_cons_zero, getElem_cons_succ]
  refine AnyT.take (i := 7) (v := ?_) rfl (by kernel_rfl) (by kernel_rfl) (by kernel_rfl) (by kernel_rfl) (fun _ _ _ h => h) (Or.inl ⟨by rfl, ?_⟩) (by assumption) ?_
  rotate_left 1
  ·(intro w0 hSw; (try dsimp only at hSw); go_simp; try with_reducible rfl)
  try simp only [Act.put, setIfInBounds_toArray, set_cons_zero, set_cons_succ, getElem_toArray, getElem_cons_zero, getElem_cons_succ]
  refine AnyT.takeA (i := 9) (v := ?_) rfl (by kernel_rfl) (by kernel_rfl) (by kernel_rfl) (fun _ _ _ h => h) (Or.inl ⟨by rfl, ?_⟩) ?_
  rotate_left 1
  ·(intro w0 _; go_simp; try with_reducible rfl)
  try simp only [Act.put, setIfInBounds_toArray, set_cons_zero, set_cons_succ, getElem_toArray, getElem_cons_zero, getElem_cons_succ]
  refine AnyT.takeA (i := 10) (v := ?_) rfl (by kernel_rfl) (by kernel_rfl) (by kernel_rfl) (fun _ _ _ h => h) (Or.inl ⟨by rfl, ?_⟩) ?_
  rotate_left 1
  ·(intro w0 _; go_simp; try with_reducible rfl)
  try simp only [Act.put, setIfInBounds_toArray, set_cons_zero, set_cons_succ, getElem_toArray, getElem_cons_zero, getElem_cons_succ]
  refine AnyT.takeA (i := 11) (v := ?_) rfl (by kernel_rfl) (by kernel_rfl) (by kernel_rfl) (fun _ _ _ h => h) (Or.inl ⟨by rfl, ?_⟩) ?_
  rotate_left 1
  ·(intro w0 _; go_simp; try with_reducible rfl)
  try simp only [Act.put, setIfInBounds_toArray, set_cons_zero, set_cons_succ, getElem_toArray, getElem_cons_zero, getElem_cons_succ]
  refine AnyT.takeA (i := 12) (v := ?_) rfl (by kernel_rfl) (by kernel_rfl) (by kernel_rfl) (fun _ _ _ h => h) (Or.inl ⟨by rfl, ?_⟩) ?_
  rotate_left 1
  ·(intro w0 _; go_simp; try with_reducible rfl)
  try simp only [Act.put, setIfInBounds_toArray, set_cons_zero, set_cons_succ, getElem_toArray, getElem_cons_zero, getElem_cons_succ]
  refine AnyT.take (i := 13) (v := ?_) rfl (by kernel_rfl) (by kernel_rfl) (by kernel_rfl) (by kernel_rfl) (fun _ _ _ h => h) (Or.inl ⟨by rfl, ?_⟩) (by assumption) ?_
  rotate_left 1
  ·(intro w0 hSw; (try dsimp only at hSw); go_simp; try with_reducible rfl)
  try simp only [Act.put, setIfInBounds_toArray, set_cons_zero, set_cons_succ, getElem_toArray, getElem_cons_zero, getElem_cons_succ]
  refine AnyT.takeA (i := 15) (v := ?_) rfl (by kernel_rfl) (by kernel_rfl) (by kernel_rfl) (fun _ _ _ h => h) (Or.inl ⟨by rfl, ?_⟩) ?_
  rotate_left 1
  ·(intro w0 _; go_simp; try with_reducible rfl)
  try simp only [Act.put, setIfInBounds_toArray, set_cons_zero, set_cons_succ, getElem_toArray, getElem_cons_zero, getElem_cons_succ]
  refine AnyT.takeA (i := 16) (v := ?_) rfl (by kernel_rfl) (by kernel_rfl) (by kernel_rfl) (fun _ _ _ h => h) (Or.inl ⟨by rfl, ?_⟩) ?_
  rotate_left 1
  ·(intro w0 _; go_simp; try with_reducible rfl)
  try simp only [Act.put, setIfInBounds_toArray, set_cons_zero, set_cons_succ, getElem_toArray, getElem_cons_zero, getElem_cons_succ]
  refine AnyT.takeA (i := 17) (v := ?_) rfl (by kernel_rfl) (by kernel_rfl) (by kernel_rfl) (fun _ _ _ h => h) (Or.inl ⟨by rfl, ?_⟩) ?_
  rotate_left 1
  ·(intro w0 _; go_simp; try with_reducible rfl)
  try simp only [Act.put, setIfInBounds_toArray, set_cons_zero, set_cons_succ, getElem_toArray, getElem_cons_zero, getElem_cons_succ]
  refine AnyT.take (i := 18) (v := ?_) rfl (by kernel_rfl) (by kernel_rfl) (by kernel_rfl) (by kernel_rfl) (fun _ _ _ h => h) (Or.inl ⟨by rfl, ?_⟩) (by assumption) ?_
  rotate_left 1
  ·(intro w0 hSw; (try dsimp only at hSw); go_simp; try with_reducible rfl)
  try simp only [Act.put, setIfInBounds_toArray, set_cons_zero, set_cons_succ, getElem_toArray, getElem_cons_zero, getElem_cons_succ]
  refine AnyT.takeA (i := 19) (v := ?_) rfl (by kernel_rfl) (by kernel_rfl) (by kernel_rfl) (fun _ _ _ h => h) (Or.inl ⟨by rfl, ?_⟩) ?_
  rotate_left 1
  ·(intro w0 _; go_simp; try with_reducible rfl)
  try simp only [Act.put, setIfInBounds_toArray, set_cons_zero, set_cons_succ, getElem_toArray, getElem_cons_zero, getElem_cons_succ]
  refine AnyT.call (i := 8) (by kernel_rfl) rfl (fun K hK => ?_)
  try simp only [Act.put, setIfInBounds_toArray, set_cons_zero, set_cons_succ, getElem_toArray, getElem_cons_zero, getElem_cons_succ]
  rw [if_pos (by rfl)]
  go_simp
  refine (LF1.out W.drew BD.out).mono ?_; rintro e w3 ⟨X, xn, xc, rfl, ox, b3⟩; have U3 := HU.out.next (next_trans BD.out b3); have d1 := U3.c1; have d2 := U3.c2; have d3 := U3.c3; clear U3; go_wp2_with fail
  refine hK.out _ _ (fun _ _ => ?_) (fun hKeep => ?_)
  ·first | assumption | exact ⟨by assumption, by assumption⟩ | exact ⟨by assumption, by assumption, by assumption⟩
  replace hHeld := hKeep (by rfl) hHeld
  clear hK K hKeep
  try simp only [Act.put, setIfInBounds_toArray, set_cons_zero, set_cons_succ, getElem_toArray, getElem_cons_zero, getElem_cons_succ]
  refine AnyT.call (i := 14) (by kernel_rfl) rfl (fun K hK => ?_)
  try simp only [Act.put, setIfInBounds_toArray, set_cons_zero, set_cons_succ, getElem_toArray, getElem_cons_zero, getElem_cons_succ]
  rw [if_pos (by rfl)]
  go_simp
  refine (LF2.out w3 (next_trans BD.out b3)).mono ?_; rintro e w4 ⟨Y, yn, yc, rfl, oy, b4⟩; have U4 := HU.out.next (next_trans (next_trans BD.out b3) b4); have e1 := U4.c1; have e2 := U4.c2; have e3 := U4.c3; clear U4; go_wp2_with fail
  refine hK.out _ _ (fun _ _ => ?_) (fun hKeep => ?_)
  ·first | assumption | exact ⟨by assumption, by assumption⟩ | exact ⟨by assumption, by assumption, by assumption⟩
  replace hHeld := hKeep (by rfl) hHeld
  clear hK K hKeep
  try simp only [Act.put, setIfInBounds_toArray, set_cons_zero, set_cons_succ, getElem_toArray, getElem_cons_zero, getElem_cons_succ]
  refine AnyT.call (i := 20) (by kernel_rfl) rfl (fun K hK => ?_)
  try simp only [Act.put, setIfInBounds_toArray, set_cons_zero, set_cons_succ, getElem_toArray, getElem_cons_zero, getElem_cons_succ]
  rw [if_pos (by rfl)]
  go_simp
  refine (thenB gl _ lb _ w4).mono ?_; rintro e w5 ⟨b1, b2, rfl, z1, z2, k1, k2, b5⟩; have U5 := HU.out.next (next_trans (next_trans (next_trans BD.out b3) b4) b5); have f1 := U5.c1; have f2 := U5.c2; have f3 := U5.c3; have fr1 := U5.row.free 1; have fr2 := U5.row.free 2; have fr3 := U5.row.free 3; clear U5; go_wp2_with fail
  refine hK.out _ _ (fun _ _ => ?_) (fun hKeep => ?_)
  ·first | assumption | exact ⟨by assumption, by assumption⟩ | exact ⟨by assumption, by assumption, by assumption⟩
  replace hHeld := hKeep (by rfl) hHeld
  clear hK K hKeep
  try simp only [Act.put, setIfInBounds_toArray, set_cons_zero, set_cons_succ, getElem_toArray, getElem_cons_zero, getElem_cons_succ]
  refine AnyT.call (i := 21) (by kernel_rfl) rfl (fun K hK => ?_)
  try simp only [Act.put, setIfInBounds_toArray, set_cons_zero, set_cons_succ, getElem_toArray, getElem_cons_zero, getElem_cons_succ]
  rw [if_pos (by rfl)]
  go_simp
  refine hK.out _ _ (fun h => by cases h) (fun _ => ?_)
  clear hK K
  try simp only [Act.put, setIfInBounds_toArray, set_cons_zero, set_cons_succ, getElem_toArray, getElem_cons_zero, getElem_cons_succ]
  refine AnyT.call (i := 22) (by kernel_rfl) rfl (fun K hK => ?_)
  try simp only [Act.put, setIfInBounds_toArray, set_cons_zero, set_cons_succ, getElem_toArray, getElem_cons_zero, getElem_cons_succ]
  rw [if_pos (by rfl)]
  go_simp
  refine hK.out _ _ (fun h => by cases h) (fun _ => ?_)
  clear hK K
  try simp only [Act.put, setIfInBounds_toArray, set_cons_zero, set_cons_succ, getElem_toArray, getElem_cons_zero, getElem_cons_succ]
  refine AnyT.call (i := 23) (by kernel_rfl) rfl (fun K hK => ?_)
  try simp only [Act.put, setIfInBounds_toArray, set_cons_zero, set_cons_succ, getElem_toArray, getElem_cons_zero, getElem_cons_succ]
  rw [if_pos (by rfl)]
  go_simp
  refine hK.out _ _ (fun h => by cases h) (fun _ => ?_)
  clear hK K
  try simp only [Act.put, setIfInBounds_toArray, set_cons_zero, set_cons_succ, getElem_toArray, getElem_cons_zero, getElem_cons_succ]
  refine AnyT.call (i := 24) (by kernel_rfl) rfl (fun K hK => ?_)
  try simp only [Act.put, setIfInBounds_toArray, set_cons_zero, set_cons_succ, getElem_toArray, getElem_cons_zero, getElem_cons_succ]
  rw [if_pos (by rfl)]
  go_simp
  refine hK.out _ _ (fun h => by cases h) (fun _ => ?_)
  clear hK K
  try simp only [Act.put, setIfInBounds_toArray, set_cons_zero, set_cons_succ, getElem_toArray, getElem_cons_zero, getElem_cons_succ]
  refine AnyT.call (i := 25) (by kernel_rfl) rfl (fun K hK => ?_)
  try simp only [Act.put, setIfInBounds_toArray, set_cons_zero, set_cons_succ, getElem_toArray, getElem_cons_zero, getElem_cons_succ]
  rw [if_pos (by rfl)]
  go_simp
  refine hK.out _ _ (fun h => by cases h) (fun _ => ?_)
  clear hK K
  try simp only [Act.put, setIfInBounds_toArray, set_cons_zero, set_cons_succ, getElem_toArray, getElem_cons_zero, getElem_cons_succ]
  refine AnyT.call (i := 26) (by kernel_rfl) rfl (fun K hK => ?_)
  try simp only [Act.put, setIfInBounds_toArray, set_cons_zero, set_cons_succ, getElem_toArray, getElem_cons_zero, getElem_cons_succ]
  rw [if_pos (by rfl)]
  go_simp
  refine hK.out _ _ (fun h => by cases h) (fun _ => ?_)
  clear hK K
  try simp only [Act.put, setIfInBounds_toArray, set_cons_zero, set_cons_succ, getElem_toArray, getElem_cons_zero, getElem_cons_succ]
  refine AnyT.call (i := 27) (by kernel_rfl) rfl (fun K hK => ?_)
  try simp only [Act.put, setIfInBounds_toArray, set_cons_zero, set_cons_succ, getElem_toArray, getElem_cons_zero, getElem_cons_succ]
  rw [if_pos (by rfl)]
  go_simp
  refine hK.out _ _ (fun h => by cases h) (fun _ => ?_)
  clear hK K
  try simp only [Act.put, setIfInBounds_toArray, set_cons_zero, set_cons_succ, getElem_toArray, getElem_cons_zero, getElem_cons_succ]
  refine AnyT.call (i := 28) (by kernel_rfl) rfl (fun K hK => ?_)
  try simp only [Act.put, setIfInBounds_toArray, set_cons_zero, set_cons_succ, getElem_toArray, getElem_cons_zero, getElem_cons_succ]
  rw [if_pos (by rfl)]
  go_simp
  refine hK.out _ _ (fun h => by cases h) (fun _ => ?_)
  clear hK K
  try simp only [Act.put, setIfInBounds_toArray, set_cons_zero, set_cons_succ, getElem_toArray, getElem_cons_zero, getElem_cons_succ]
  refine AnyT.call (i := 29) (by kernel_rfl) rfl (fun K hK => ?_)
  try simp only [Act.put, setIfInBounds_toArray, set_cons_zero, set_cons_succ, getElem_toArray, getElem_cons_zero, getElem_cons_succ]
  rw [if_pos (by rfl)]
  go_simp
  refine hK.out _ _ (fun h => by cases h) (fun _ => ?_)
  clear hK K
  try simp only [Act.put, setIfInBounds_toArray, set_cons_zero, set_cons_succ, getElem_toArray, getElem_cons_zero, getElem_cons_succ]
  refine AnyT.done (by kernel_rfl) ?_ _
  -- end
  have B5 := next_trans (next_trans (next_trans BD.out b3) b4) b5
  have s1 := HBW.out.size
  have s2 := BD.out.size
  have s3 := b3.size
  have s4 := b4.size
  have lk := lookThen (some g) b1 b2 gl _ lb _ HU.out.eg eo L (ones i t) w5 (World.block_lt_of_cell? _ _ k1) (World.block_lt_of_cell? _ _ k2) (fun e => by injection e; omega) (fun e => by injection e; omega) k1 k2 (HU.out.next B5).lk (HLO.out.next (grown_below B5 _)) HL60.out HV.out M1.out
  have F := hid (put_mk HU.out BD.out b3 b4 b5 ox oy et lk)
  clear lk ox oy b3 b4 b5 B5 k1 k2 f1 f2 f3 fr1 fr2 fr3 hHeld
  go_wp2_with fail
  go_meet
  exact F.out
 case rest =>
  rename World => wc
  obtain ⟨hg, P', pn', pc', Q', qn', qc', gl', lb', U⟩ := hcut
  have HG := hid (grown_trans (grown_below HBW.out (some g)) hg)
  have hp1 := U.p.1
  have hq1 := U.q.1
  have d1 := U.c1
  have d2 := U.c2
  have np := U.kp.1
  have np2 := U.kp.2.1
  have nq := U.kq.1
  have nq2 := U.kq.2.1
  have L1 := hid (tooLong P' pn' pc' wc (by omega))
  have L2 := hid (tooLong Q' qn' qc' wc (by omega))
  have HUW := hid U
  have HP1 := hid hp1
  have HQ1 := hid hq1
  clear U hg hp1 hq1 LF1 LF2 c1 c2 c3 HU HLO HBW vx vy one60 hL vL M1
  by_cases hp : 60 < pn'
  ·rw [decide_eq_true hp] at L1
   have F := hid (fun (u : TypeId) (v : Value) => (show AnsRep w g A n c sg (fillL (ones i t) x) (fillL (ones i t) y) (fun m => fillL (ones i t) (L m)) (.panicked [{ v := .iface u v, recovered := false }]) wc from ⟨HG.out, .inr ⟨fun h => by rw [HP1.out] at h; omega, u, v, rfl⟩⟩))
   clear HUW
   go_wp2_with fail
   refine L1.out.mono ?_
   rintro e w' ⟨rfl, rfl⟩
   go_wp2
   exact ⟨rfl, F.out _ _⟩
  ·rw [decide_eq_false hp] at L1
   go_wp2_with fail
   refine L1.out.mono ?_
   rintro e w' ⟨rfl, rfl⟩
   by_cases hq : 60 < qn'
   ·rw [decide_eq_true hq] at L2
    have F := hid (fun (u : TypeId) (v : Value) => (show AnsRep w g A n c sg (fillL (ones i t) x) (fillL (ones i t) y) (fun m => fillL (ones i t) (L m)) (.panicked [{ v := .iface u v, recovered := false }]) wc from ⟨HG.out, .inr ⟨fun h => by rw [HQ1.out] at h; omega, u, v, rfl⟩⟩))
    clear HUW
    go_wp2_with fail
    refine L2.out.mono ?_
    rintro e w' ⟨rfl, rfl⟩
    go_wp2
    exact ⟨rfl, F.out _ _⟩
   ·rw [decide_eq_false hq] at L2
    have F := hid (show AnsRep w g A n c sg (fillL (ones i t) x) (fillL (ones i t) y) (fun m => fillL (ones i t) (L m)) (.returned (.tuple #[])) wc from ⟨HG.out, .inl ⟨by rw [HP1.out]; omega, by rw [HQ1.out]; omega, rfl, P', pn', pc', Q', qn', qc', gl', lb', HUW.out⟩⟩)
    clear HUW
    go_wp2_with fail
    refine L2.out.mono ?_
    rintro e w' ⟨rfl, rfl⟩
    go_wp2
    first
     | exact bodyPost_ret (results_none rfl _ _ _) rfl F.out
     | (go_end0; exact F.out)
end unifRep
end
section
open Go.Lib (hid)
namespace rename
open Go.RowKit base ints sig term termOk marks app sym segs termFacts varsMath varsOf renMath
set_option maxRecDepth 100000
theorem mem_of_get {t : List Int} {k : Nat} {x : Int} (hk : k < t.length) (hx : t.getD k 0 = x) : x ∈ t := by
 rw [← hx]
 simp [List.getD, hk]
theorem not_mem_of {t : List Int} {x : Int} (h : ∀ j, j < t.length → t.getD j 0 ≠ x) : x ∉ t := fun hx => by
 obtain ⟨j, hj, e⟩ := List.getElem_of_mem hx
 exact h j hj (by simp [List.getD, hj, e])
def HeadNo (n : Nat) (xs : List Int) (x : Int) (i : Value) : Prop := ∃ k : Nat, k ≤ n ∧ i = .int .i64 k ∧ ∀ j, j < k → xs.getD j 0 ≠ x
theorem headNo_step {n k : Nat} {xs : List Int} {x y : Int} (hk : k < n) (h : ∀ j, j < k → xs.getD j 0 ≠ x) (hy : Hid (xs.getD k 0 = y)) (hne : ¬ y = x) : HeadNo n xs x (.int .i64 ((k : Int) + 1)) :=
 ⟨k + 1, hk, by simp, fun j hj => by
  by_cases e : j = k
  ·subst e; rw [hy.out]; exact hne
  ·exact h j (by omega)⟩
set_option maxHeartbeats 1000000 in
theorem l1Has (A : Option Addr) (n c : Nat) (xs : List Int) (x : Int) (w : World) (h : Seg w w.heap.size A n xs) (hn : n ≤ 1048576) :
  Calls Try.prog 90 #[.slice A n c, .int .i64 x] w fun e w' => w = w' ∧ e = .returned (.bool (decide (x ∈ xs))) := by
 have HX := hid h.1
 go_enter Try.func90, Try.ntmps90
 go_wp2
 go_loop [5] (fun i => HeadNo n xs x i) (fun i => n - (intOf i).toNat)
 case atStart => exact ⟨0, Nat.zero_le _, rfl, fun j hj => absurd hj (Nat.not_lt_zero _)⟩
 case round =>
  obtain ⟨k, hk, rfl, hlow⟩ := hrel
  by_cases hlt : k < n
  ·obtain ⟨b, off, y, rfl, -, hy, ey⟩ := h.spot hlt
   by_cases he : y = x
   ·subst he
    have F := hid (show y ∈ xs from mem_of_get (by rw [HX.out]; exact hlt) ey.out)
    have e1 : (y == y) = true := by simp
    clear h ey hlow
    go_wp2
    go_ret
    exact ⟨rfl, by rw [decide_eq_true F.out]; rfl⟩
   ·have S := hid (headNo_step hlt hlow ey he)
    have e1 : (y == x) = false := by simp [he]
    clear h ey hlow
    go_wp2
    go_round
    case rel => exact S.out
    case measure => simp [intOf]; omega
  ·have F := hid (not_mem_of (t := xs) (x := x) (fun j hj => hlow j (by rw [HX.out] at hj; omega)))
   clear h hlow
   go_wp2
   go_ret
   exact ⟨rfl, by rw [decide_eq_false F.out]; rfl⟩
def indexI (xs : List Int) (x : Int) : Int := if x ∈ xs then (idx xs x : Int) else -1
set_option maxHeartbeats 1000000 in
theorem indexOf (A : Option Addr) (n c : Nat) (xs : List Int) (x : Int) (w : World) (h : Seg w w.heap.size A n xs) (hn : n ≤ 1048576) :
  Calls Try.prog 123 #[.slice A n c, .int .i64 x] w fun e w' => w = w' ∧ e = .returned (.int .i64 (indexI xs x)) := by
 have HX := hid h.1
 go_enter Try.func123, Try.ntmps123
 go_wp2
 go_loop [8] (fun i => HeadNo n xs x i) (fun i => n - (intOf i).toNat)
 case atStart => exact ⟨0, Nat.zero_le _, rfl, fun j hj => absurd hj (Nat.not_lt_zero _)⟩
 case round =>
  obtain ⟨k, hk, rfl, hlow⟩ := hrel
  by_cases hlt : k < n
  ·obtain ⟨b, off, y, rfl, -, hy, ey⟩ := h.spot hlt
   by_cases he : y = x
   ·subst he
    have F := hid (show indexI xs y = (k : Int) by
     have hkl : k < xs.length := by rw [HX.out]; exact hlt
     unfold indexI
     rw [if_pos (mem_of_get hkl ey.out), idx_first hkl hlow ey.out])
    have e1 : (y == y) = true := by simp
    clear h ey hlow
    go_wp2
    go_ret
    exact ⟨rfl, by rw [F.out]; rfl⟩
   ·have S := hid (headNo_step hlt hlow ey he)
    have e1 : (x == y) = false := by simp; exact fun e => he e.symm
    clear h ey hlow
    go_wp2
    go_round
    case rel => exact S.out
    case measure => simp [intOf]; omega
  ·have F := hid (show indexI xs x = -1 by unfold indexI; rw [if_neg (not_mem_of (fun j hj => hlow j (by rw [HX.out] at hj; omega)))])
   clear h hlow
   go_wp2
   go_ret
   exact ⟨rfl, by rw [F.out]; rfl⟩
end rename
end
section
open Go.Lib (hid)
namespace unifStep
open Go.RowKit base ints sig term termOk endAt sub same cursor marks app sym Go.Proofs.Ytobedfmagjgdcaa.look segs termFacts fillMath rename matchMath unifMath unifDom thn unifRep
set_option maxRecDepth 100000
theorem containsInt (A : Option Addr) (n c : Nat) (xs : List Int) (x : Int) (w : World) (h : Seg w w.heap.size A n xs) (hn : n ≤ 1048576) :
  Calls Try.prog 118 #[.slice A n c, .int .i64 x] w fun e w' => w = w' ∧ e = .returned (.bool (decide (x ∈ xs))) := by
 have L := hid (indexOf A n c xs x w h hn)
 clear h
 go_enter Try.func118, Try.ntmps118
 go_wp2_with fail
 refine L.out.mono ?_
 rintro e w' ⟨rfl, rfl⟩
 have E : decide (0 ≤ indexI xs x) = decide (x ∈ xs) := decide_eq_decide.2 (by unfold indexI; split <;> simp_all)
 have HE := hid E
 clear L E
 generalize indexI xs x = z at *
 go_wp2
 go_ret
 exact ⟨rfl, by rw [← HE.out]; rfl⟩
theorem drew_below (w : World) (d : Nat) : Below w.heap.size w (w.drewN d) := ⟨rfl, rfl, rfl, Nat.le_refl _, fun _ _ => rfl⟩
def AnsStep (w : World) (g : Nat) (A : Option Addr) (n c : Nat) (sg a b : List Int) (L : Nat → List Int) (e : Ending) (w' : World) : Prop :=
 w.grownBy w' (some g) ∧ ((∃ x y L' P pn pc Q qn qc gl lb, e = .returned (.tuple #[]) ∧ Un w' g A n c sg P pn pc x Q qn qc y gl lb L' ∧ Wy sg a b L' x y ∧ free L' < free L) ∨ ((∀ M, ¬ Short sg a b M) ∧ ∃ u v, e = .panicked [{ v := .iface u v, recovered := false }]))
theorem pre_step {x y : List Int} {k : Nat} (e : x.take k = y.take k) (hx : k < x.length) (hy : k < y.length) (h : x.getD k 0 = y.getD k 0) : x.take (k + 1) = y.take (k + 1) := by
 rw [List.take_succ_eq_append_getElem hx, List.take_succ_eq_append_getElem hy, e]
 simp [List.getD, hx, hy] at h
 rw [h]
theorem step_of {w w1 w2 : World} {g : Nat} {A : Option Addr} {n c : Nat} {sg a b x y : List Int} {L : Nat → List Int} {k : Nat} {p q : Int} (hw : Wy sg a b L x y) (s : Spot sg a b L k) (ep : x.getD k 0 = p) (eq : y.getD k 0 = q) (h1 : p < 0) (h2 : p ∉ subL sg y k) (h3 : 0 ≤ q ∨ p < q) (hg : w.grownBy w1 (some g)) {e : Ending}
  (h : AnsRep w1 g A n c sg (fillL (ones (vr p) (subL sg y k)) x) (fillL (ones (vr p) (subL sg y k)) y) (fun m => fillL (ones (vr p) (subL sg y k)) (L m)) e w2) : AnsStep w g A n c sg a b L e w2 := by
 subst ep
 subst eq
 obtain ⟨g2, ⟨l1, l2, rfl, P, pn, pc, Q, qn, qc, gl, lb, U⟩ | ⟨hl, u, v, rfl⟩⟩ := h
 ·obtain ⟨W, hf⟩ := hw.step s h1 h2 h3 l1 l2
  exact ⟨grown_trans hg g2, .inl ⟨_, _, _, P, pn, pc, Q, qn, qc, gl, lb, rfl, U, W, hf⟩⟩
 ·exact ⟨grown_trans hg g2, .inr ⟨hw.long s h1 h2 h3 hl, u, v, rfl⟩⟩
theorem step_of' {w w1 w2 : World} {g : Nat} {A : Option Addr} {n c : Nat} {sg a b x y : List Int} {L : Nat → List Int} {k : Nat} {p q : Int} (hw : Wy sg a b L x y) (s : Spot sg a b L k) (ep : x.getD k 0 = p) (eq : y.getD k 0 = q) (h1 : q < 0) (h2 : q ∉ subL sg x k) (h3 : 0 ≤ p ∨ q < p) (hg : w.grownBy w1 (some g)) {e : Ending}
  (h : AnsRep w1 g A n c sg (fillL (ones (vr q) (subL sg x k)) x) (fillL (ones (vr q) (subL sg x k)) y) (fun m => fillL (ones (vr q) (subL sg x k)) (L m)) e w2) : AnsStep w g A n c sg a b L e w2 := by
 subst ep
 subst eq
 obtain ⟨g2, ⟨l1, l2, rfl, P, pn, pc, Q, qn, qc, gl, lb, U⟩ | ⟨hl, u, v, rfl⟩⟩ := h
 ·obtain ⟨W, hf⟩ := hw.symm.step s.symm h1 h2 h3 l2 l1
  exact ⟨grown_trans hg g2, .inl ⟨_, _, _, P, pn, pc, Q, qn, qc, gl, lb, rfl, U, W.symm, hf⟩⟩
 ·exact ⟨grown_trans hg g2, .inr ⟨fun M hM => hw.symm.long s.symm h1 h2 h3 (fun h => hl ⟨h.2, h.1⟩) M hM.symm, u, v, rfl⟩⟩
theorem Wy.sub {sg a b x y : List Int} {L : Nat → List Int} (hw : Wy sg a b L x y) {k : Nat} (hk : k < y.length) : subI sg y (k : Int) = subL sg y k ∧ 1 ≤ (subL sg y k).length ∧ (subL sg y k).length ≤ 60 := by
 have h1 := hw.symm.okx
 have h2 := (sub_trm hw.symm.tx hk).1.pos
 refine ⟨by unfold subI; rw [if_pos (there_yes h1 (by omega) (by omega)), Int.toNat_natCast], h2, ?_⟩
 have := hw.ly
 unfold subL
 rw [List.length_take, List.length_drop]
 omega
set_option maxHeartbeats 4000000 in
theorem step (g : Nat) (A P Q : Option Addr) (n c pn pc qn qc gl : Nat) (lb : Array Value) (sg a b x y : List Int) (L : Nat → List Int) (w : World) (h : Un w g A n c sg P pn pc x Q qn qc y gl lb L) (hw : Wy sg a b L x y) (hne : x ≠ y) (hn : n ≤ 1048576) :
  Calls Try.prog 94 #[.pointer (some ⟨g, 0, none⟩)] w (AnsStep w g A n c sg a b L) := by
 have HWAY := hid hw
 have HLX := hid h.p.1
 have HLY := hid h.q.1
 have HNE := hid hne
 have hx60 : pn ≤ 60 := by rw [← h.p.1]; exact hw.lx
 have hy60 : qn ≤ 60 := by rw [← h.q.1]; exact hw.ly
 have c1 := h.c1
 have c2 := h.c2
 have U := h
 clear hw hne h
 go_enter Try.func94, Try.ntmps94
 go_wp2
 go_loopg [2] pn (fun g_ k_ wr => ∃ k d : Nat, k_ = .int .i64 k ∧ k + g_ = pn ∧ k ≤ qn ∧ x.take k = y.take k ∧ wr = w.drewN d)
 case atStart => exact ⟨0, 0, rfl, by omega, Nat.zero_le _, rfl, rfl⟩
 case round =>
  obtain ⟨k, d, rfl, hkg, hky, hpre, hwd⟩ := hrel
  have kx : k < pn := by
   rcases Nat.lt_or_ge k pn with h | h
   ·exact h
   ·exact absurd (unifMath.differ HWAY.out.tx HWAY.out.symm.tx hpre (by rw [HLX.out]; omega) (by rw [HLY.out]; omega) (.inl (by rw [HLX.out]; omega))) HNE.out
  have ky : k < qn := by
   rcases Nat.lt_or_ge k qn with h | h
   ·exact h
   ·exact absurd (unifMath.differ HWAY.out.tx HWAY.out.symm.tx hpre (by rw [HLX.out]; omega) (by rw [HLY.out]; omega) (.inr (by rw [HLY.out]; omega))) HNE.out
  have HKG := hid hkg
  have HPRE := hid hpre
  have i0 : (0 : Int) ≤ (k : Int) := by omega
  have j1 : (k : Int) < (pn : Int) := by omega
  have j2 : (k : Int) < (qn : Int) := by omega
  have bd : Below w.heap.size w wr := by rw [hwd]; exact ⟨rfl, rfl, rfl, Nat.le_refl _, fun _ _ => rfl⟩
  have HWD := hid hwd
  have HBD := hid bd
  have U := U.next bd
  have c1 := U.c1
  have c2 := U.c2
  clear bd hwd hkg hpre
  obtain ⟨b1, o1, p, rfl, hb1, hp, ep⟩ := U.p.spot kx
  obtain ⟨b2, o2, q, rfl, hb2, hq, eq⟩ := U.q.spot ky
  by_cases hpq : p = q
  ·subst hpq
   have S1 := hid (fun d' => (show ∃ k' d : Nat, (.int .i64 ((k : Int) + 1) : Value) = .int .i64 k' ∧ k' + (gk - 1) = pn ∧ k' ≤ qn ∧ x.take k' = y.take k' ∧ wr.drewN d' = w.drewN d from ⟨k + 1, d + d', by simp, by have := HKG.out; omega, ky, pre_step HPRE.out (by rw [HLX.out]; exact kx) (by rw [HLY.out]; exact ky) (by rw [ep.out, eq.out]), by rw [HWD.out, World.drewN_drewN]⟩))
   have hgk := hid (show gk - 1 < gk by have := HKG.out; omega)
   clear U ep eq
   go_wp2
   go_quiet (fail)
   go_wp2
   go_roundg (gk - 1)
   case measure => exact hgk.out
   case rel => exact S1.out _
  ·have HS := hid (HWAY.out.spot HPRE.out (by rw [HLX.out]; exact kx) (by rw [HLY.out]; exact ky) (by rw [ep.out, eq.out]; exact hpq))
   have HEP := hid ep.out
   have HEQ := hid eq.out
   have hpd : (p == q) = false := by simp [hpq]
   have hp24 : -24 ≤ p := HWAY.out.tx.mem (by rw [← HEP.out]; have := HLX.out; simp [List.getD, show k < x.length by omega])
   have hq24 : -24 ≤ q := HWAY.out.symm.tx.mem (by rw [← HEQ.out]; have := HLY.out; simp [List.getD, show k < y.length by omega])
   have HU := hid U
   have HPQ := hid hpq
   clear ep eq U hpq
   go_wp2_with fail
   go_quiet (fail)
   have U1 := HU.out.next (unifStep.drew_below wr nq)
   have B1 := next_trans HBD.out (unifStep.drew_below wr nq)
   have p1 : (wr.drewN nq).cell? ⟨b1, o1 + k, none⟩ = some (.int .i64 p) := hp
   have q1 : (wr.drewN nq).cell? ⟨b2, o2 + k, none⟩ = some (.int .i64 q) := hq
   clear HU HBD hp hq c1 c2
   generalize wr.drewN nq = w1 at *
   have HU := hid U1
   have HBD := hid B1
   have hp := p1
   have hq := q1
   have c0 := U1.c0
   have c1 := U1.c1
   have c2 := U1.c2
   clear U1 B1 p1 q1
   go_wp2_with fail
   go_quiet (fail)
   have U1 := HU.out.next (unifStep.drew_below w1 nq)
   have B1 := next_trans HBD.out (unifStep.drew_below w1 nq)
   have p1 : (w1.drewN nq).cell? ⟨b1, o1 + k, none⟩ = some (.int .i64 p) := hp
   have q1 : (w1.drewN nq).cell? ⟨b2, o2 + k, none⟩ = some (.int .i64 q) := hq
   clear HU HBD hp hq c1 c2
   generalize w1.drewN nq = w2 at *
   have HU := hid U1
   have HBD := hid B1
   have hp := p1
   have hq := q1
   have c0 := U1.c0
   have c1 := U1.c1
   have c2 := U1.c2
   clear U1 B1 p1 q1
   by_cases hlt : q < p
   ·have hlt' : decide (q < p) = true := decide_eq_true hlt
    have H3 := hid (show 0 ≤ p ∨ q < p from .inr (by have := HPQ.out; omega))
    go_wp2_with fail
    go_quiet (fail)
    have U1 := HU.out.next (unifStep.drew_below w2 nq)
    have B1 := next_trans HBD.out (unifStep.drew_below w2 nq)
    have p1 : (w2.drewN nq).cell? ⟨b1, o1 + k, none⟩ = some (.int .i64 p) := hp
    have q1 : (w2.drewN nq).cell? ⟨b2, o2 + k, none⟩ = some (.int .i64 q) := hq
    clear HU HBD hp hq c1 c2
    generalize w2.drewN nq = w3 at *
    have HU := hid U1
    have HBD := hid B1
    have hp := p1
    have hq := q1
    have c0 := U1.c0
    have c1 := U1.c1
    have c2 := U1.c2
    clear U1 B1 p1 q1
    by_cases hn0 : 0 ≤ q
    ·have hno : ∀ M, ¬ Short sg a b M := fun M hM => HWAY.out.symm.clash HS.out.symm (by rw [HEQ.out]; exact hn0) (by rw [HEP.out]; omega) M hM.symm
     have F := hid (fun (u : TypeId) (v : Value) => (show AnsStep w g A n c sg a b L (.panicked [{ v := .iface u v, recovered := false }]) w3 from ⟨grown_below HBD.out _, .inr ⟨hno, u, v, rfl⟩⟩))
     clear hno HU HBD
     go_wp2
     exact ⟨rfl, F.out _ _⟩
    ·have hn1 : q < 0 := by omega
     obtain ⟨es, e1, e60⟩ := Wy.sub HWAY.out.symm (k := k) (by rw [HLX.out]; exact kx)
     have LS := hid (implSubAt A (some ⟨b1, o1, none⟩) n c pn pc sg x (k : Int) w3 HU.out.s HU.out.p hn (by omega) (by omega) (by omega) HU.out.kp.1 HU.out.kp.2.1)
     rw [es] at LS
     have HES := hid e1
     have HE60 := hid e60
     clear es e1 e60
     go_wp2_with fail
     refine LS.out.mono ?_
     rintro e w4 ⟨D, dn, dc, rfl, od, bb⟩
     have hdn : dn ≤ 60 := by rw [Own.len od]; exact HE60.out
     have hd1 : 1 ≤ dn := by rw [Own.len od]; exact HES.out
     have sd := Own.seg od
     have kd := own_cap od
     have U4 := HU.out.next bb
     have B4 := next_trans HBD.out bb
     have LC := hid (containsInt D dn dc (subL sg x k) q w4 sd (by omega))
     clear HU HBD LS bb od c0 c1 c2 hp hq
     by_cases hm : q ∈ subL sg x k
     ·rw [decide_eq_true hm] at LC
      have hno : ∀ M, ¬ Short sg a b M := fun M hM => HWAY.out.symm.occurs HS.out.symm (by rw [HEQ.out]; exact hn1) (by rw [HEQ.out]; exact hm) M hM.symm
      have F := hid (fun (u : TypeId) (v : Value) => (show AnsStep w g A n c sg a b L (.panicked [{ v := .iface u v, recovered := false }]) w4 from ⟨grown_below B4 _, .inr ⟨hno, u, v, rfl⟩⟩))
      clear hno U4 B4 sd hm
      go_wp2_with fail
      refine LC.out.mono ?_
      rintro e w5 ⟨rfl, rfl⟩
      go_wp2
      exact ⟨rfl, F.out _ _⟩
     ·rw [decide_eq_false hm] at LC
      obtain ⟨v, hv⟩ : ∃ v : Nat, q = -1 - (v : Int) := ⟨(-1 - q).toNat, by omega⟩
      have HVR := hid (show vr q = v by unfold vr; omega)
      have hv24 : v < 24 := by omega
      have HVI := hid (show -1 - q = (v : Int) by omega)
      have HM := hid hm
      have LR := hid (replace g A _ _ D n c pn pc qn qc dn dc gl lb sg x y (subL sg x k) L v w4 U4 sd kd hd1 hdn hv24 hx60 hy60 (fun z hz => HWAY.out.tx.mem hz) (fun z hz => HWAY.out.symm.tx.mem hz) (fun j _ => HWAY.out.each j) (fun j hj z hz => (HWAY.out.part.sub.trm j hj).mem hz))
      have HB4 := hid B4
      have w64 : IntKind.i64.wrap (-1 - q) = (v : Int) := by rw [IntKind.wrap_i64]; omega
      clear U4 B4 sd hm hv
      go_wp2_with fail
      refine LC.out.mono ?_
      rintro e w5 ⟨rfl, rfl⟩
      go_wp2_with fail
      first
       | rw [HVI.out]
       | rw [w64]
       | skip
      refine LR.out.mono ?_
      rintro e w6 hrep
      have F := hid (show AnsStep w g A n c sg a b L e w6 from step_of' HWAY.out HS.out HEP.out HEQ.out hn1 HM.out H3.out (grown_below HB4.out _) (by rw [HVR.out]; exact hrep))
      obtain ⟨-, ⟨-, -, rfl, -⟩ | ⟨-, u, v, rfl⟩⟩ := hrep
      ·clear LR LC
       go_wp2
       first
        | exact bodyPost_ret (results_none rfl _ _ _) rfl F.out
        | (go_end0; exact F.out)
      ·clear LR LC
       go_wp2
       exact ⟨rfl, F.out⟩
   ·have hlt' : decide (q < p) = false := decide_eq_false hlt
    have H3 := hid (show 0 ≤ q ∨ p < q from .inr (by have := HPQ.out; omega))
    go_wp2_with fail
    go_quiet (fail)
    have U1 := HU.out.next (unifStep.drew_below w2 nq)
    have B1 := next_trans HBD.out (unifStep.drew_below w2 nq)
    have p1 : (w2.drewN nq).cell? ⟨b1, o1 + k, none⟩ = some (.int .i64 p) := hp
    have q1 : (w2.drewN nq).cell? ⟨b2, o2 + k, none⟩ = some (.int .i64 q) := hq
    clear HU HBD hp hq c1 c2
    generalize w2.drewN nq = w3 at *
    have HU := hid U1
    have HBD := hid B1
    have hp := p1
    have hq := q1
    have c0 := U1.c0
    have c1 := U1.c1
    have c2 := U1.c2
    clear U1 B1 p1 q1
    by_cases hn0 : 0 ≤ p
    ·have hno : ∀ M, ¬ Short sg a b M := fun M hM => HWAY.out.clash HS.out (by rw [HEP.out]; exact hn0) (by rw [HEQ.out]; omega) M hM
     have F := hid (fun (u : TypeId) (v : Value) => (show AnsStep w g A n c sg a b L (.panicked [{ v := .iface u v, recovered := false }]) w3 from ⟨grown_below HBD.out _, .inr ⟨hno, u, v, rfl⟩⟩))
     clear hno HU HBD
     go_wp2
     exact ⟨rfl, F.out _ _⟩
    ·have hn1 : p < 0 := by omega
     obtain ⟨es, e1, e60⟩ := Wy.sub HWAY.out (k := k) (by rw [HLY.out]; exact ky)
     have LS := hid (implSubAt A (some ⟨b2, o2, none⟩) n c qn qc sg y (k : Int) w3 HU.out.s HU.out.q hn (by omega) (by omega) (by omega) HU.out.kq.1 HU.out.kq.2.1)
     rw [es] at LS
     have HES := hid e1
     have HE60 := hid e60
     clear es e1 e60
     go_wp2_with fail
     refine LS.out.mono ?_
     rintro e w4 ⟨D, dn, dc, rfl, od, bb⟩
     have hdn : dn ≤ 60 := by rw [Own.len od]; exact HE60.out
     have hd1 : 1 ≤ dn := by rw [Own.len od]; exact HES.out
     have sd := Own.seg od
     have kd := own_cap od
     have U4 := HU.out.next bb
     have B4 := next_trans HBD.out bb
     have LC := hid (containsInt D dn dc (subL sg y k) p w4 sd (by omega))
     clear HU HBD LS bb od c0 c1 c2 hp hq
     by_cases hm : p ∈ subL sg y k
     ·rw [decide_eq_true hm] at LC
      have hno : ∀ M, ¬ Short sg a b M := fun M hM => HWAY.out.occurs HS.out (by rw [HEP.out]; exact hn1) (by rw [HEP.out]; exact hm) M hM
      have F := hid (fun (u : TypeId) (v : Value) => (show AnsStep w g A n c sg a b L (.panicked [{ v := .iface u v, recovered := false }]) w4 from ⟨grown_below B4 _, .inr ⟨hno, u, v, rfl⟩⟩))
      clear hno U4 B4 sd hm
      go_wp2_with fail
      refine LC.out.mono ?_
      rintro e w5 ⟨rfl, rfl⟩
      go_wp2
      exact ⟨rfl, F.out _ _⟩
     ·rw [decide_eq_false hm] at LC
      obtain ⟨v, hv⟩ : ∃ v : Nat, p = -1 - (v : Int) := ⟨(-1 - p).toNat, by omega⟩
      have HVR := hid (show vr p = v by unfold vr; omega)
      have hv24 : v < 24 := by omega
      have HVI := hid (show -1 - p = (v : Int) by omega)
      have HM := hid hm
      have LR := hid (replace g A _ _ D n c pn pc qn qc dn dc gl lb sg x y (subL sg y k) L v w4 U4 sd kd hd1 hdn hv24 hx60 hy60 (fun z hz => HWAY.out.tx.mem hz) (fun z hz => HWAY.out.symm.tx.mem hz) (fun j _ => HWAY.out.each j) (fun j hj z hz => (HWAY.out.part.sub.trm j hj).mem hz))
      have HB4 := hid B4
      have w64 : IntKind.i64.wrap (-1 - p) = (v : Int) := by rw [IntKind.wrap_i64]; omega
      clear U4 B4 sd hm hv
      go_wp2_with fail
      refine LC.out.mono ?_
      rintro e w5 ⟨rfl, rfl⟩
      go_wp2_with fail
      first
       | rw [HVI.out]
       | rw [w64]
       | skip
      refine LR.out.mono ?_
      rintro e w6 hrep
      have F := hid (show AnsStep w g A n c sg a b L e w6 from step_of HWAY.out HS.out HEP.out HEQ.out hn1 HM.out H3.out (grown_below HB4.out _) (by rw [HVR.out]; exact hrep))
      obtain ⟨-, ⟨-, -, rfl, -⟩ | ⟨-, u, v, rfl⟩⟩ := hrep
      ·clear LR LC
       go_wp2
       first
        | exact bodyPost_ret (results_none rfl _ _ _) rfl F.out
        | (go_end0; exact F.out)
      ·clear LR LC
       go_wp2
       exact ⟨rfl, F.out⟩
end unifStep
end
section
open Go.Lib (hid)
namespace unifRun
open Go.RowKit base ints sig term termOk same cursor marks unifMath unifDom thn unifRep unifStep
set_option maxRecDepth 100000
def AnsRun (w : World) (g : Nat) (A : Option Addr) (n c : Nat) (sg a b : List Int) (e : Ending) (w' : World) : Prop :=
 w.grownBy w' (some g) ∧ ((∃ x L P pn pc Q qn qc gl lb, e = .returned (.tuple #[]) ∧ Un w' g A n c sg P pn pc x Q qn qc x gl lb L ∧ Wy sg a b L x x) ∨ ((∀ M, ¬ Short sg a b M) ∧ ∃ u v, e = .panicked [{ v := .iface u v, recovered := false }]))
def HeadR (w : World) (g : Nat) (A : Option Addr) (n c : Nat) (sg a b : List Int) (f : Nat) (wr : World) : Prop :=
 w.grownBy wr (some g) ∧ ∃ x y L P pn pc Q qn qc gl lb, Un wr g A n c sg P pn pc x Q qn qc y gl lb L ∧ Wy sg a b L x y ∧ free L + 1 ≤ f
set_option maxHeartbeats 2000000 in
theorem run (g : Nat) (A P Q : Option Addr) (n c pn pc qn qc gl : Nat) (lb : Array Value) (sg a b x y : List Int) (L : Nat → List Int) (w : World) (h : Un w g A n c sg P pn pc x Q qn qc y gl lb L) (hw : Wy sg a b L x y) (hn : n ≤ 1048576) :
  Calls Try.prog 60 #[.pointer (some ⟨g, 0, none⟩)] w (AnsRun w g A n c sg a b) := by
 have HH := hid (show HeadR w g A n c sg a b 25 w from ⟨World.grownBy.refl _ _, x, y, L, P, pn, pc, Q, qn, qc, gl, lb, h, hw, by have := free_le L; omega⟩)
 clear h hw
 go_enter Try.func60, Try.ntmps60
 go_wp2
 go_loopg [] 25 (fun f_ wr => HeadR w g A n c sg a b f_ wr)
 case atStart => exact HH.out
 case round =>
  obtain ⟨hg, x, y, L, P, pn, pc, Q, qn, qc, gl, lb, U, hw, hf⟩ := hrel
  clear HH
  have hx60 : pn ≤ 60 := by rw [← U.p.1]; exact hw.lx
  have hy60 : qn ≤ 60 := by rw [← U.q.1]; exact hw.ly
  have c1 := U.c1
  have c2 := U.c2
  have HG := hid hg
  have HF := hid hf
  have HWAY := hid hw
  have HU := hid (fun d => U.next (unifStep.drew_below wr d))
  have LS := hid (fun d => implSame P Q pn qn pc qc x y (wr.drewN d) (HU.out d).p (HU.out d).q (by omega) (by omega))
  clear U hw hg hf
  go_wp2_with fail
  go_region_held3 (fun w' => w'.cell? ⟨g, 1, none⟩ = some (.slice P pn pc) ∧ w'.cell? ⟨g, 2, none⟩ = some (.slice Q qn qc))
   (exact ⟨c1, c2⟩)
   (first
    | (go_at_call 42; refine (LS.out 1).mono ?_; rintro e w3 ⟨rfl, d, rfl⟩))
  have U1 := HU.out (1 + d)
  have G1 := grown_trans HG.out (grown_below (unifStep.drew_below wr (1 + d)) (some g))
  clear HU HG LS c1 c2
  generalize wr.drewN (1 + d) = w1 at *
  by_cases hxy : x = y
  ·subst hxy
   rw [decide_eq_true (show x = x from rfl)]
   have F := hid (show AnsRun w g A n c sg a b (.returned (.tuple #[])) w1 from ⟨G1, .inl ⟨x, L, P, pn, pc, Q, qn, qc, gl, lb, rfl, U1, HWAY.out⟩⟩)
   clear U1 G1 HWAY HF
   go_wp2
   first
    | exact bodyPost_ret (results_none rfl _ _ _) rfl F.out
    | (go_end0; exact F.out)
  ·rw [decide_eq_false hxy]
   have LT := hid (unifStep.step g A P Q n c pn pc qn qc gl lb sg a b x y L w1 U1 HWAY.out hxy hn)
   have HG1 := hid G1
   clear U1 G1 HWAY hxy
   go_wp2_with fail
   refine LT.out.mono ?_
   rintro e w2 ⟨g2, ⟨x', y', L', P', pn', pc', Q', qn', qc', gl', lb', rfl, U2, W2, hf2⟩ | ⟨hno, u, v, rfl⟩⟩
   ·have S := hid (show HeadR w g A n c sg a b (gk - 1) w2 from ⟨grown_trans HG1.out g2, x', y', L', P', pn', pc', Q', qn', qc', gl', lb', U2, W2, by have := HF.out; omega⟩)
    have M := hid (show gk - 1 < gk by have := HF.out; omega)
    clear U2 W2 g2 hf2 LT HF
    go_wp2
    go_roundg (gk - 1)
    case measure => exact M.out
    case rel => exact S.out
   ·have F := hid (show AnsRun w g A n c sg a b (.panicked [{ v := .iface u v, recovered := false }]) w2 from ⟨grown_trans HG1.out g2, .inr ⟨hno, u, v, rfl⟩⟩)
    clear g2 hno LT HF
    go_wp2
    exact ⟨rfl, F.out⟩
end unifRun
end
section
namespace compMath
open term termOk termFacts segsHelp fillMath substOk gives plainMath plainOf
def compL (us ss : List (List Int)) (i : Nat) : List Int := fillL (givesL us) (givesL ss i)
def compOk (us ss : List (List Int)) : Bool := (List.range 24).all fun i => decide ((compL us ss i).length ≤ 60)
def composedB (sg : List Int) (ss us : List (List Int)) : Bool := substOkB sg ss && (substOkB sg us && compOk us ss)
def composedI (sg : List Int) (ss us : List (List Int)) : List (List Int) := if composedB sg ss us = true then plainL (compL us ss) 24 else []
theorem composed_s {sg : List Int} {ss us : List (List Int)} (h : substOkB sg ss = false) : composedB sg ss us = false := by unfold composedB; rw [h, Bool.false_and]
theorem composed_u {sg : List Int} {ss us : List (List Int)} (h : substOkB sg us = false) : composedB sg ss us = false := by unfold composedB; rw [h, Bool.false_and, Bool.and_false]
theorem composed_b {sg : List Int} {ss us : List (List Int)} (h : substOkB sg ss = true) (h' : substOkB sg us = true) : composedB sg ss us = compOk us ss := by unfold composedB; rw [h, h', Bool.true_and, Bool.true_and]
theorem composed_yes {sg : List Int} {ss us : List (List Int)} (h : composedB sg ss us = true) : composedI sg ss us = plainL (compL us ss) 24 := by unfold composedI; rw [if_pos h]
theorem composed_no {sg : List Int} {ss us : List (List Int)} (h : composedB sg ss us = false) : composedI sg ss us = [] := by unfold composedI; rw [if_neg (by rw [h]; simp)]
theorem compOk_iff {us ss : List (List Int)} : compOk us ss = true ↔ ∀ i, i < 24 → (compL us ss i).length ≤ 60 := by
 unfold compOk
 rw [List.all_eq_true]
 exact ⟨fun h i hi => of_decide_eq_true (h i (List.mem_range.2 hi)), fun h i hi => decide_eq_true (h i (List.mem_range.1 hi))⟩
theorem comp_out {us ss : List (List Int)} {i : Nat} (h : ss.length ≤ i) (h' : us.length ≤ i) : compL us ss i = vt i := by
 unfold compL
 rw [gives_out (by omega)]
 unfold vt
 rw [fill_cons, fill_nil, List.append_nil, rep_var (by omega), show (-1 - (-1 - (i : Int))).toNat = i by omega, gives_out (by omega)]
 rfl
theorem comp_pos (us ss : List (List Int)) (i : Nat) : 1 ≤ (compL us ss i).length := by
 have h1 := fill_ge (gives_pos us) (givesL ss i)
 have h2 := gives_pos ss i
 unfold compL
 omega
theorem comp_len {sg : List Int} {us ss : List (List Int)} (h : substOkB sg ss = true) (h' : substOkB sg us = true) (i : Nat) : (compL us ss i).length ≤ 3600 := by
 have h1 := fill_len (M := 60) (by omega) (gives_len h') (givesL ss i)
 have h2 := gives_len h i
 have h3 : (givesL ss i).length * 60 ≤ 60 * 60 := Nat.mul_le_mul_right _ h2
 unfold compL
 omega
def outL (us ss : List (List Int)) (k : Nat) : List (List Int) := (List.range k).map (compL us ss)
theorem out_len (us ss : List (List Int)) (k : Nat) : (outL us ss k).length = k := by simp [outL]
theorem out_get {us ss : List (List Int)} {k i : Nat} (h : i < k) : (outL us ss k).getD i [] = compL us ss i := by simp [outL, List.getD, h]
theorem out_succ (us ss : List (List Int)) (k : Nat) : outL us ss (k + 1) = outL us ss k ++ [compL us ss k] := by simp [outL, List.range_succ]
theorem out_gives {us ss : List (List Int)} {k i : Nat} (h : i < k) : givesL (outL us ss k) i = compL us ss i := by
 have := comp_pos us ss i
 rw [gives_term (by rw [out_get h]; omega), out_get h]
def anyLong (xss : List (List Int)) : Bool := xss.any fun t => decide (60 < t.length)
theorem anyLong_iff {xss : List (List Int)} : anyLong xss = true ↔ ∃ i, 60 < (xss.getD i []).length := by
 unfold anyLong
 rw [List.any_eq_true]
 refine ⟨fun ⟨t, ht, h⟩ => ?_, fun ⟨i, h⟩ => ?_⟩
 ·obtain ⟨i, hi, rfl⟩ := List.getElem_of_mem ht
  exact ⟨i, by simpa [List.getD, hi] using h⟩
 ·by_cases hi : i < xss.length
  ·refine ⟨xss[i], List.getElem_mem hi, ?_⟩
   simpa [List.getD, hi] using h
  ·rw [show xss.getD i [] = [] by simp [List.getD, hi]] at h
   simp at h
theorem anyLong_comp (us ss : List (List Int)) : anyLong (plainL (compL us ss) 24) = !compOk us ss := by
 cases h : compOk us ss with
 | true =>
  cases e : anyLong (plainL (compL us ss) 24) with
  | false => rfl
  | true =>
   obtain ⟨i, hi⟩ := anyLong_iff.1 e
   rw [plain_get] at hi
   by_cases h24 : i < 24
   ·rw [rows_get h24] at hi
    have := compOk_iff.1 h i h24
    unfold bare at hi
    split at hi
    ·simp at hi
    ·omega
   ·rw [show (rowsL (compL us ss) 24).getD i [] = [] by simp [List.getD, rows_len, h24]] at hi
    simp at hi
 | false =>
  have hn : ∃ i, i < 24 ∧ ¬ (compL us ss i).length ≤ 60 := by
   refine Classical.byContradiction fun hne => ?_
   have : compOk us ss = true := compOk_iff.2 fun i hi => Classical.byContradiction fun hl => hne ⟨i, hi, hl⟩
   rw [h] at this
   cases this
  obtain ⟨i, hi, hl⟩ := hn
  refine anyLong_iff.2 ⟨i, ?_⟩
  rw [plain_get, rows_get hi]
  unfold bare
  rw [if_neg (fun e => by rw [e] at hl; simp [vt] at hl)]
  omega
theorem composed_tot {sg : List Int} {ss us : List (List Int)} : tot (composedI sg ss us) ≤ 1048576 := by
 cases h : composedB sg ss us with
 | false => rw [composed_no h]; simp [tot, sumL]
 | true =>
  rw [composed_yes h]
  unfold composedB at h
  simp only [Bool.and_eq_true] at h
  have h1 := tot_le (plain_each (L := compL us ss) (m := 24) (comp_len h.1 h.2.1))
  have h2 := plain_len (compL us ss) 24
  have h4 : (plainL (compL us ss) 24).length * 3600 ≤ 24 * 3600 := Nat.mul_le_mul_right _ h2
  omega
end compMath
end
section
namespace whole
open Go.RowKit base segs matchMath
set_option maxRecDepth 100000
def z24 : Array Value := Array.replicate 24 (.slice none 0 0)
theorem z24_size : z24.size = 24 := by simp [z24]
section
variable {w w' : World} {B B' g : Nat} {cs : Array Value} {s : List (List Int)} {t : TypeId}
def TabR (w : World) (B : Nat) (cs : Array Value) (s : List (List Int)) : Prop :=
 cs.size = 24 ∧ s.length = 24 ∧ ∀ j, j < 24 → ∃ A n c, cs[j]? = some (.slice A n c) ∧ Seg w B A n (s.getD j []) ∧ Cap A n c
theorem TabR.new (w : World) (B : Nat) : TabR w B z24 s0 :=
 ⟨z24_size, rfl, fun j hj => ⟨none, 0, 0, by simp [z24, hj], by rw [s0_get]; exact Seg.empty, ⟨Nat.le_refl _, by omega, fun _ => rfl⟩⟩⟩
theorem TabR.keep (h : TabR w B cs s) (hk : ∀ p : Addr, p.block < B → w'.cell? p = w.cell? p) : TabR w' B cs s :=
 ⟨h.1, h.2.1, fun j hj => by obtain ⟨A, n, c, e, hs, hc⟩ := h.2.2 j hj; exact ⟨A, n, c, e, hs.keep hk, hc⟩⟩
theorem TabR.below (h : TabR w B cs s) (hb : Below B w w') : TabR w' B cs s := h.keep fun _ hp => hb.cell hp
theorem TabR.put (h : TabR w B cs s) {j : Nat} (hj : j < 24) {A : Option Addr} {n c : Nat} {ys : List Int} (hs : Seg w B A n ys) (hc : Cap A n c) : TabR w B (cs.setIfInBounds j (.slice A n c)) (s.set j ys) := by
 refine ⟨by rw [Array.size_setIfInBounds]; exact h.1, by rw [List.length_set]; exact h.2.1, fun i hi => ?_⟩
 by_cases e : j = i
 ·subst e
  exact ⟨A, n, c, by rw [Array.getElem?_setIfInBounds_self_of_lt (by rw [h.1]; exact hj)], by rw [set_get, if_pos ⟨rfl, by rw [h.2.1]; exact hj⟩]; exact hs, hc⟩
 ·obtain ⟨A', n', c', e', hs', hc'⟩ := h.2.2 i hi
  exact ⟨A', n', c', by rw [Array.getElem?_setIfInBounds_ne e]; exact e', by rw [set_get, if_neg (fun hh => e hh.1)]; exact hs', hc'⟩
theorem TabR.made (w : World) (B : Nat) : TabR w B (madeCells #[.slice none 0 0] 24) s0 :=
 ⟨size_madeCells _ _, rfl, fun j hj => ⟨none, 0, 0, by simp [madeCells, hj, Nat.mod_one], by rw [s0_get]; exact Seg.empty, ⟨Nat.le_refl _, by omega, fun _ => rfl⟩⟩⟩
end
end whole
end
section
open Go.Lib (hid)
open List (setIfInBounds_toArray set_cons_zero set_cons_succ getElem_toArray getElem_cons_zero getElem_cons_succ)
namespace bind
open Go.RowKit base ints sig cursor marks app appAt sym segs segsHelp kinds termFacts fillMath substOk gives shifted filled plainMath plain plainOf compMath matchMath unifMath whole
set_option maxRecDepth 100000
def us1 (i : Nat) (t : List Int) : List (List Int) := s0.set i t
theorem us1_gives {i : Nat} {t : List Int} (hi : i < 24) (ht : 1 ≤ t.length) (k : Nat) : givesL (us1 i t) k = ones i t k := by
 unfold ones
 by_cases e : k = i
 ·subst e
  rw [if_pos rfl]
  have : (us1 k t).getD k [] = t := by unfold us1; rw [set_get, if_pos ⟨rfl, by simpa [s0] using hi⟩]
  rw [gives_term (by rw [this]; omega), this]
 ·rw [if_neg e]
  refine gives_var ?_
  unfold us1
  rw [set_get, if_neg (fun h => e h.1.symm), s0_get]
  rfl
def AnsBind (w : World) (us ss : List (List Int)) (e : Ending) (w' : World) : Prop :=
 Below w.heap.size w w' ∧ ((∃ A c, e = .returned (.tuple #[.agg #[.slice A 24 c], .bool true]) ∧ Owns w' w.heap.size w'.heap.size A 24 c (outL us ss 24) ∧ ∀ i, i < 24 → (compL us ss i).length ≤ 60) ∨
  (e = .returned (.tuple #[.agg #[.slice none 0 0], .bool false]) ∧ ∃ i, i < 24 ∧ 60 < (compL us ss i).length))
def HeadB (W3 : World) (o : Nat) (us ss : List (List Int)) (i : Value) (wr : World) : Prop :=
 ∃ (k : Nat) (A : Option Addr) (cA : Nat), k ≤ 24 ∧ i = .int .i64 k ∧ (∀ j, j < k → (compL us ss j).length ≤ 60) ∧ Owns wr (o + 1) wr.heap.size A k cA (outL us ss k) ∧ Row wr o 39 #[.slice A k cA] ∧ Below o W3 wr
set_option maxHeartbeats 8000000 in
theorem l5Bind (S X : Option Addr) (m c xn xc i : Nat) (ss : List (List Int)) (t : List Int) (w : World) (h : Segs w w.heap.size S m ss) (h' : Seg w w.heap.size X xn t) (hcap : Cap X xn xc) (ht : tot ss ≤ 1048576) (hi : i < 24) (h1 : 1 ≤ t.length) (h60 : t.length ≤ 60)
  (hg : ∀ k, (givesL ss k).length ≤ 60) (hv : ∀ k x, x ∈ givesL ss k → k < 24 → -24 ≤ x) :
  Calls Try.prog 91 #[.agg #[.slice S m c], .int .i64 (i : Int), .slice X xn xc] w (AnsBind w (us1 i t) ss) := by
 obtain ⟨us, hus⟩ : ∃ us, us1 i t = us := ⟨_, rfl⟩
 have hmk : ∀ W : World, (Instr.makeSlice 25 (.int .i64 24) (.int .i64 24)).run Try.prog W = .ok (.slice (some ⟨W.heap.size, 0, none⟩) 24 24) (W.alloc (.cells (madeCells #[.slice none 0 0] 24) 22)) := fun W => run_make_lists 24 (by omega) W
 obtain ⟨W2, hW2⟩ : ∃ W, W = (((w.alloc (.cells #[.slice S m c] 39)).alloc (.cells #[.slice none 0 0] 39)).alloc (.cells (madeCells #[.slice none 0 0] 24) 22)).alloc (.cells #[.slice (some ⟨w.heap.size + 1 + 1, 0, none⟩) 24 24] 39) := ⟨_, rfl⟩
 have qT : Row W2 (w.heap.size + 1 + 1) 22 (madeCells #[.slice none 0 0] 24) := by
  rw [hW2]
  have := (Row.new ((w.alloc (.cells #[.slice S m c] 39)).alloc (.cells #[.slice none 0 0] 39)) 22 (madeCells #[.slice none 0 0] 24)).alloc (.cells #[.slice (some ⟨w.heap.size + 1 + 1, 0, none⟩) 24 24] 39)
  simpa using this
 obtain ⟨W3, hW3⟩ : ∃ W, W = ((((w.alloc (.cells #[.slice S m c] 39)).alloc (.cells #[.slice none 0 0] 39)).alloc (.cells ((madeCells #[.slice none 0 0] 24).setIfInBounds i (.slice X xn xc)) 22)).alloc (.cells #[.slice (some ⟨w.heap.size + 1 + 1, 0, none⟩) 24 24] 39)).alloc (.cells #[.slice none 0 0] 39) := ⟨_, rfl⟩
 have z3 : W3.heap.size = w.heap.size + 1 + 1 + 1 + 1 + 1 := by rw [hW3]; simp
 have b3 : Below w.heap.size w W3 := by rw [hW3]; exact (((((Below.refl _ _).alloc (Nat.le_refl _) _).alloc (by simp) _).alloc (by simp; omega) _).alloc (by simp; omega) _).alloc (by simp; omega) _
 have p0 : Row W3 w.heap.size 39 #[.slice S m c] := by rw [hW3]; exact ((((Row.new w _ _).alloc _).alloc _).alloc _).alloc _
 have p1 : Row W3 (w.heap.size + 1) 39 #[.slice none 0 0] := by
  rw [hW3]
  have := (((Row.new (w.alloc (.cells #[.slice S m c] 39)) 39 #[.slice none 0 0]).alloc (.cells ((madeCells #[.slice none 0 0] 24).setIfInBounds i (.slice X xn xc)) 22)).alloc (.cells #[.slice (some ⟨w.heap.size + 1 + 1, 0, none⟩) 24 24] 39)).alloc (.cells #[.slice none 0 0] 39)
  simpa using this
 have pT : Row W3 (w.heap.size + 1 + 1) 22 ((madeCells #[.slice none 0 0] 24).setIfInBounds i (.slice X xn xc)) := by
  rw [hW3]
  have := ((Row.new ((w.alloc (.cells #[.slice S m c] 39)).alloc (.cells #[.slice none 0 0] 39)) 22 ((madeCells #[.slice none 0 0] 24).setIfInBounds i (.slice X xn xc))).alloc (.cells #[.slice (some ⟨w.heap.size + 1 + 1, 0, none⟩) 24 24] 39)).alloc (.cells #[.slice none 0 0] 39)
  simpa using this
 have p3 : Row W3 (w.heap.size + 1 + 1 + 1) 39 #[.slice (some ⟨w.heap.size + 1 + 1, 0, none⟩) 24 24] := by
  rw [hW3]
  have := (Row.new (((w.alloc (.cells #[.slice S m c] 39)).alloc (.cells #[.slice none 0 0] 39)).alloc (.cells ((madeCells #[.slice none 0 0] 24).setIfInBounds i (.slice X xn xc)) 22)) 39 #[.slice (some ⟨w.heap.size + 1 + 1, 0, none⟩) 24 24]).alloc (.cells #[.slice none 0 0] 39)
  simpa using this
 have po : Row W3 (w.heap.size + 1 + 1 + 1 + 1) 39 #[.slice none 0 0] := by
  rw [hW3]
  have := Row.new ((((w.alloc (.cells #[.slice S m c] 39)).alloc (.cells #[.slice none 0 0] 39)).alloc (.cells ((madeCells #[.slice none 0 0] 24).setIfInBounds i (.slice X xn xc)) 22)).alloc (.cells #[.slice (some ⟨w.heap.size + 1 + 1, 0, none⟩) 24 24] 39)) 39 #[.slice none 0 0]
  simpa using this
 have tabX : TabR W3 w.heap.size ((madeCells #[.slice none 0 0] 24).setIfInBounds i (.slice X xn xc)) us := by
  rw [← hus]
  exact (TabR.made W3 w.heap.size).put hi (h'.below b3) hcap
 have su : Segs W3 (w.heap.size + 1 + 1 + 1 + 1) (some ⟨w.heap.size + 1 + 1, 0, none⟩) 24 us := by
  refine ⟨tabX.2.1, fun _ => ⟨w.heap.size + 1 + 1, 0, rfl, by omega, fun j hj => ?_⟩⟩
  obtain ⟨A', n', c', e, hs, hc⟩ := tabX.2.2 j hj
  exact ⟨A', n', c', by rw [Nat.zero_add, pT.cell j, e], hs.more (by omega), hc⟩
 have ss3 : Segs W3 (w.heap.size + 1 + 1 + 1 + 1) S m ss := (h.below b3).more (by omega)
 have eg : ∀ k, givesL us k = ones i t k := fun k => by rw [← hus]; exact us1_gives hi h1 k
 have hgu : ∀ k, (givesL us k).length ≤ 60 := fun k => by rw [eg]; unfold ones; split; exact h60; simp [vt]
 have hul : ∀ k, 24 ≤ k → givesL us k = vt k := fun k hk => by rw [eg]; unfold ones; rw [if_neg (by omega)]
 have hut : tot us ≤ 1048576 := by
  have e1 : ∀ j, (us.getD j []).length ≤ 60 := fun j => by
   rw [← hus]
   unfold us1
   rw [set_get]
   split
   ·exact h60
   ·rw [s0_get]; simp
  have h1 := tot_le e1
  rw [tabX.2.1] at h1
  omega
 have H0 : HeadB W3 (w.heap.size + 1 + 1 + 1 + 1) us ss (.int .i64 0) W3 := ⟨0, none, 0, Nat.zero_le _, rfl, fun j hj => absurd hj (Nat.not_lt_zero _), by simpa [outL] using Owns.nil _ _ _, po, Below.refl _ _⟩
 have HH := hid H0
 have HW3 := hid hW3
 have HS := hid ss3
 have HU := hid su
 have HP0 := hid p0
 have HP1 := hid p1
 have HP3 := hid p3
 have HB3 := hid b3
 have HGS := hid hg
 have HV := hid hv
 have HGU := hid hgu
 have HUL := hid hul
 have HUT := hid hut
 have HTT := hid ht
 have HUS := hid hus
 have i0 : (0 : Int) ≤ (i : Int) := by omega
 have i1 : (i : Int) < 24 := by omega
 have cT : ((((w.alloc (.cells #[.slice S m c] 39)).alloc (.cells #[.slice none 0 0] 39)).alloc (.cells (madeCells #[.slice none 0 0] 24) 22)).alloc (.cells #[.slice (some ⟨w.heap.size + 1 + 1, 0, none⟩) 24 24] 39)).cell? ⟨w.heap.size + 1 + 1, i, none⟩ = some (.slice none 0 0) := by rw [← hW2, qT.cell i]; simp [madeCells, hi, Nat.mod_one]
 have fT : ((((w.alloc (.cells #[.slice S m c] 39)).alloc (.cells #[.slice none 0 0] 39)).alloc (.cells (madeCells #[.slice none 0 0] 24) 22)).alloc (.cells #[.slice (some ⟨w.heap.size + 1 + 1, 0, none⟩) 24 24] 39)).frozen? ⟨w.heap.size + 1 + 1, i, none⟩ = false := by rw [← hW2]; exact qT.free i
 rw [hus]
 clear b3 p0 p1 p3 pT po tabX su ss3 eg hgu hul hut H0 hW2 hW3 hg hv ht hus h h' hcap qT
 go_enter Try.func91, Try.ntmps91
 go_wp2_with fail
 clear hmk
 rw [← HW3.out]
 clear cT fT
 go_loopw [10] (fun i wr => HeadB W3 (w.heap.size + 1 + 1 + 1 + 1) us ss i wr) (fun i _ => 24 - (intOf i).toNat)
 case atStart => exact HH.out
 case round =>
  obtain ⟨k, O, cO, hk, rfl, hlow, ho, ro, hb⟩ := hrel
  clear HH
  have HLOW := hid hlow
  clear hlow
  have hz := hb.size
  have cOut : wr.cell? ⟨w.heap.size + 1 + 1 + 1 + 1, 0, none⟩ = some (.slice O k cO) := ro.cell 0
  have cS : wr.cell? ⟨w.heap.size, 0, none⟩ = some (.slice S m c) := (hb.cell (p := ⟨w.heap.size, 0, none⟩) (show w.heap.size < w.heap.size + 1 + 1 + 1 + 1 by omega)).trans (HP0.out.cell 0)
  have cT : wr.cell? ⟨w.heap.size + 1 + 1 + 1, 0, none⟩ = some (.slice (some ⟨w.heap.size + 1 + 1, 0, none⟩) 24 24) := (hb.cell (p := ⟨w.heap.size + 1 + 1 + 1, 0, none⟩) (show w.heap.size + 1 + 1 + 1 < w.heap.size + 1 + 1 + 1 + 1 by omega)).trans (HP3.out.cell 0)
  have p1 : Row wr (w.heap.size + 1) 39 #[.slice none 0 0] := (hb.block (w.heap.size + 1) (by omega)).trans HP1.out
  have hbw : Below w.heap.size w wr := HB3.out.trans (hb.mono (by omega))
  by_cases hlt : k < 24
  ·have i0 : (0 : Int) ≤ (k : Int) := by omega
   have i1 : (k : Int) < 24 := by omega
   have HA : Hid (∀ z, blk O = some z → w.heap.size + 1 + 1 + 1 + 1 + 1 ≤ z) := hid (fun z hz => by
    obtain ⟨vs, hown, _⟩ := ho.row
    exact (World.ownsRow.lt hown z (by rw [blk_own]; exact hz)).1)
   have hrl := ro.lt
   have LG := hid (l2Gives S m c ss k wr.drew (((HS.out.below hb).more (Nat.le_of_lt hrl)).drew) HTT.out (by omega))
   have t2 := (((HU.out.below hb).more (Nat.le_of_lt hrl)).drew)
   have hv := hid (fun x hx => HV.out k x hx hlt)
   have h60' := hid (HGS.out k)
   have OS := hid (out_succ us ss k)
   obtain ⟨z, hzf⟩ : ∃ z, fitsB us (givesL ss k) = z := ⟨_, rfl⟩
   obtain ⟨ys, hys⟩ : ∃ ys, fitL us (givesL ss k) = ys := ⟨_, rfl⟩
   have HZ := hid hzf
   have HY := hid hys
   clear hzf hys
   go_wp2_with fail
   refine wp_region_held_drew (S := (fun w' => w'.cell? ⟨w.heap.size, 0, none⟩ = some (.slice S m c) ∧ w'.cell? ⟨w.heap.size + 1 + 1 + 1, 0, none⟩ = some (.slice (some ⟨w.heap.size + 1 + 1, 0, none⟩) 24 24))) (by kernel_rfl) ⟨cS, cT⟩ (fun hHeld => ?_)
   refine wpAnyH_take (i := 0) (v := ?_) rfl (by kernel_rfl) (by kernel_rfl) (by kernel_rfl) (fun _ _ _ h => h) (Or.inl ⟨by rfl, ?_⟩) (by assumption) ?_
   rotate_left 1
   ·(intro w0 hSw; (try dsimp only at hSw); go_simp; try with_reducible rfl)
   try simp only [Act.put, setIfInBounds_toArray, set_cons_zero, set_cons_succ, getElem_toArray, getElem_cons_zero, getElem_cons_succ]
   refine wpAnyH_take (i := 1) (v := ?_) rfl (by kernel_rfl) (by kernel_rfl) (by kernel_rfl) (fun _ _ _ h => h) (Or.inl ⟨by rfl, ?_⟩) (by assumption) ?_
   rotate_left 1
   ·(intro w0 hSw; (try dsimp only at hSw); go_simp; try with_reducible rfl)
   try simp only [Act.put, setIfInBounds_toArray, set_cons_zero, set_cons_succ, getElem_toArray, getElem_cons_zero, getElem_cons_succ]
   refine wpAnyH_take (i := 2) (v := ?_) rfl (by kernel_rfl) (by kernel_rfl) (by kernel_rfl) (fun _ _ _ h => h) (Or.inl ⟨by rfl, ?_⟩) (by assumption) ?_
   rotate_left 1
   ·(intro w0 hSw; (try dsimp only at hSw); go_simp; try with_reducible rfl)
   try simp only [Act.put, setIfInBounds_toArray, set_cons_zero, set_cons_succ, getElem_toArray, getElem_cons_zero, getElem_cons_succ]
   refine wpAnyH_ready (rs := [3]) (by kernel_rfl) (by simp) (AllReadyH.cons rfl (fun K hK => ?_) AllReadyH.nil)
   go_simp
   refine LG.out.mono ?_; rintro e w3 ⟨Z, zn, zc, rfl, oa, b1⟩; have x1 : w3.cell? ⟨w.heap.size, 0, none⟩ = some (.slice S m c) := (b1.cell (p := ⟨w.heap.size, 0, none⟩) (World.block_lt_of_cell? _ _ cS)).trans cS; have x2 : w3.cell? ⟨w.heap.size + 1 + 1 + 1, 0, none⟩ = some (.slice (some ⟨w.heap.size + 1 + 1, 0, none⟩) 24 24) := (b1.cell (p := ⟨w.heap.size + 1 + 1 + 1, 0, none⟩) (World.block_lt_of_cell? _ _ cT)).trans cT; go_wp2_with fail
   refine hK.out _ _ ?_ (fun hHeld => ?_)
   ·first | assumption | (dsimp only; assumption) | exact ⟨by assumption, by assumption⟩
   clear hK K
   try simp only [Act.put, setIfInBounds_toArray, set_cons_zero, set_cons_succ, getElem_toArray, getElem_cons_zero, getElem_cons_succ]
   refine wpAnyH_ready (rs := [4]) (by kernel_rfl) (by simp) (AllReadyH.cons rfl (fun K hK => ?_) AllReadyH.nil)
   go_simp
   refine (l2Filled (some ⟨w.heap.size + 1 + 1, 0, none⟩) Z 24 24 zn zc us (givesL ss k) w3 (t2.next b1) (Own.seg oa) HUT.out (by rw [Own.len oa]; exact h60'.out) hv.out HGU.out).mono ?_; rintro e w4 ⟨Y, yn, yc, he, ob, b2⟩; rw [HZ.out] at he; subst he; rw [HY.out] at ob; have x1' : w4.cell? ⟨w.heap.size, 0, none⟩ = some (.slice S m c) := (b2.cell (p := ⟨w.heap.size, 0, none⟩) (World.block_lt_of_cell? _ _ x1)).trans x1; have x2' : w4.cell? ⟨w.heap.size + 1 + 1 + 1, 0, none⟩ = some (.slice (some ⟨w.heap.size + 1 + 1, 0, none⟩) 24 24) := (b2.cell (p := ⟨w.heap.size + 1 + 1 + 1, 0, none⟩) (World.block_lt_of_cell? _ _ x2)).trans x2; go_wp2_with fail
   refine hK.out _ _ ?_ (fun hHeld => ?_)
   ·first | assumption | (dsimp only; assumption) | exact ⟨by assumption, by assumption⟩
   clear hK K
   try simp only [Act.put, setIfInBounds_toArray, set_cons_zero, set_cons_succ, getElem_toArray, getElem_cons_zero, getElem_cons_succ]
   refine wpAnyH_take (i := 5) (v := ?_) rfl (by kernel_rfl) (by kernel_rfl) (by kernel_rfl) (fun _ _ _ h => h) (Or.inl ⟨by rfl, ?_⟩) (by assumption) ?_
   rotate_left 1
   ·(intro w0 hSw; (try dsimp only at hSw); go_simp; try with_reducible rfl)
   try simp only [Act.put, setIfInBounds_toArray, set_cons_zero, set_cons_succ, getElem_toArray, getElem_cons_zero, getElem_cons_succ]
   refine wpAnyH_take (i := 6) (v := ?_) rfl (by kernel_rfl) (by kernel_rfl) (by kernel_rfl) (fun _ _ _ h => h) (Or.inl ⟨by rfl, ?_⟩) (by assumption) ?_
   rotate_left 1
   ·(intro w0 hSw; (try dsimp only at hSw); go_simp; try with_reducible rfl)
   try simp only [Act.put, setIfInBounds_toArray, set_cons_zero, set_cons_succ, getElem_toArray, getElem_cons_zero, getElem_cons_succ]
   refine wpAnyH_take (i := 7) (v := ?_) rfl (by kernel_rfl) (by kernel_rfl) (by kernel_rfl) (fun _ _ _ h => h) (Or.inl ⟨by rfl, ?_⟩) (by assumption) ?_
   rotate_left 1
   ·(intro w0 hSw; (try dsimp only at hSw); go_simp; try with_reducible rfl)
   try simp only [Act.put, setIfInBounds_toArray, set_cons_zero, set_cons_succ, getElem_toArray, getElem_cons_zero, getElem_cons_succ]
   refine wpAnyH_take (i := 8) (v := ?_) rfl (by kernel_rfl) (by kernel_rfl) (by kernel_rfl) (fun _ _ _ h => h) (Or.inl ⟨by rfl, ?_⟩) (by assumption) ?_
   rotate_left 1
   ·(intro w0 hSw; (try dsimp only at hSw); go_simp; try with_reducible rfl)
   try simp only [Act.put, setIfInBounds_toArray, set_cons_zero, set_cons_succ, getElem_toArray, getElem_cons_zero, getElem_cons_succ]
   refine wpAnyH_take (i := 9) (v := ?_) rfl (by kernel_rfl) (by kernel_rfl) (by kernel_rfl) (fun _ _ _ h => h) (Or.inl ⟨by rfl, ?_⟩) (by assumption) ?_
   rotate_left 1
   ·(intro w0 hSw; (try dsimp only at hSw); go_simp; try with_reducible rfl)
   try simp only [Act.put, setIfInBounds_toArray, set_cons_zero, set_cons_succ, getElem_toArray, getElem_cons_zero, getElem_cons_succ]
   refine wpAnyH_done (by kernel_rfl) ?_ _
   have bb : Below wr.heap.size wr w4 := next_trans (drew_below wr) (next_trans b1 b2)
   have ob2 : Inn w4 wr.heap.size w4.heap.size (.slice Y yn yc) ys := Inn.wider (inn_own ob) (show wr.drew.heap.size ≤ w3.heap.size from b1.size) (Nat.le_refl _)
   clear b1 b2 oa ob x1 x2 x1' x2' cS cT t2 LG
   cases z with
   | true =>
    have hfit : ys = compL us ss k := by rw [← HY.out]; unfold fitL; rw [if_pos HZ.out]; rfl
    have hkk : (compL us ss k).length ≤ 60 := by have := HZ.out; unfold fitsB at this; exact of_decide_eq_true this
    have hz4 := bb.size
    have cO4 : w4.cell? ⟨w.heap.size + 1 + 1 + 1 + 1, 0, none⟩ = some (.slice O k cO) := (ro.next bb).cell 0
    have B5 : Below w4.heap.size w4 (w4.alloc (.cells #[.slice Y yn yc] 22)) := (Below.refl _ _).alloc (Nat.le_refl _) _
    have ho5 := (ho.next bb).next B5
    have i5 := Inn.wider (ob2.next B5) (Nat.le_refl _) (show w4.heap.size ≤ (w4.alloc (.cells #[.slice Y yn yc] 22)).heap.size by simp)
    have r5 := (ro.next bb).next B5
    have c5 : (w4.alloc (.cells #[.slice Y yn yc] 22)).cell? ⟨w.heap.size + 1 + 1 + 1 + 1, 0, none⟩ = some (.slice O k cO) := r5.cell 0
    go_wp2_with (at_builtin; go_must (refine appS1 rfl _ _ rfl (w.heap.size + 1 + 1 + 1 + 1 + 1) wr.heap.size O k cO (outL us ss k) rfl ho5 _ 1 (.slice Y yn yc) ys rfl ((Row.new _ _ _).cell 0) i5 (by omega) (by omega) (by simp; omega) ?_; intro A' cA' w6 ho6 hg6 hat6 b6; have q2 := Row.away r5 hg6 (fun e => by have := HA.out _ e; omega); have c6 : w6.cell? ⟨w.heap.size + 1 + 1 + 1 + 1, 0, none⟩ = some (.slice O k cO) := q2.cell 0; have f6 : w6.frozen? ⟨w.heap.size + 1 + 1 + 1 + 1, 0, none⟩ = false := q2.free 0))
    have S1 : HeadB W3 (w.heap.size + 1 + 1 + 1 + 1) us ss (.int .i64 ((k : Int) + 1)) (w6.setCell ⟨w.heap.size + 1 + 1 + 1 + 1, 0, none⟩ (.slice A' (k + 1) cA')) := by
     have hbb : Below (w.heap.size + 1 + 1 + 1 + 1) W3 w6 := (hb.trans ((next_trans bb B5).mono (Nat.le_of_lt hrl))).grown hg6 (by have := B5.size; omega) (fun z hz => by have := HA.out z hz; omega)
     refine ⟨k + 1, A', cA', hlt, by simp, fun j hj => ?_, ?_, ?_, hbb.setCell (p := ⟨w.heap.size + 1 + 1 + 1 + 1, 0, none⟩) (Nat.le_refl _) _⟩
     ·by_cases e : j = k
      ·rw [e]; exact hkk
      ·exact HLOW.out j (by omega)
     ·have ho7 : Owns w6 (w.heap.size + 1 + 1 + 1 + 1 + 1) w6.heap.size A' (k + 1) cA' (outL us ss (k + 1)) := by rw [OS.out, ← hfit]; exact ho6
      have := owns_put ho7 q2 (Nat.lt_succ_self _) 0 (.slice A' (k + 1) cA')
      simpa using this
     ·have := q2.put 0 (.slice A' (k + 1) cA')
      simpa using this
    have HS1 := hid S1
    clear S1 ho6 hg6 hat6 b6 ho5 i5 r5 c5 q2 ob2 bb B5 p1 ro hb hbw ho OS cO4 hfit hkk HY HZ
    go_wp2
    go_roundw
    case rel => exact HS1.out
    case measure => simp [intOf]; omega
   | false =>
    have hno : 60 < (compL us ss k).length := by
     have := HZ.out
     unfold fitsB at this
     have h2 := of_decide_eq_false this
     unfold compL
     omega
    have p1b := p1.next bb
    have hb4 := next_trans hbw bb
    have cR : w4.cell? ⟨w.heap.size + 1, 0, none⟩ = some (.slice none 0 0) := p1b.cell 0
    have fR : w4.frozen? ⟨w.heap.size + 1, 0, none⟩ = false := p1b.free 0
    have F1 := hid (show AnsBind w us ss (.returned (.tuple #[.agg #[.slice none 0 0], .bool false])) w4 from ⟨hb4, .inr ⟨rfl, k, hlt, hno⟩⟩)
    have F2 := hid (show AnsBind w us ss (.returned (.tuple #[.agg #[.slice none 0 0], .bool false])) (w4.setCell ⟨w.heap.size + 1, 0, none⟩ (.slice none 0 0)) from ⟨hb4.setCell (p := ⟨w.heap.size + 1, 0, none⟩) (by simp) _, .inr ⟨rfl, k, hlt, hno⟩⟩)
    clear bb hb hbw hb4 p1 p1b ro ho ob2 OS cOut hno
    go_wp2
    first
     | exact bodyPost_ret (v := .tuple #[.agg #[.slice none 0 0], .bool false]) (by simp [results, Try.results91, go_sem, cR]) rfl F1.out
     | exact bodyPost_ret (v := .tuple #[.agg #[.slice none 0 0], .bool false]) (by simp [results, Try.results91, go_sem, cR]) rfl F2.out
  ·obtain rfl : k = 24 := by omega
   have cR : wr.cell? ⟨w.heap.size + 1, 0, none⟩ = some (.slice none 0 0) := p1.cell 0
   have fR : wr.frozen? ⟨w.heap.size + 1, 0, none⟩ = false := p1.free 0
   have F : AnsBind w us ss (.returned (.tuple #[.agg #[.slice O 24 cO], .bool true])) (wr.setCell ⟨w.heap.size + 1, 0, none⟩ (.slice O 24 cO)) := by
    refine ⟨hbw.setCell (p := ⟨w.heap.size + 1, 0, none⟩) (by simp) _, .inl ⟨O, cO, rfl, ?_, HLOW.out⟩⟩
    exact (owns_put ho p1 (by omega) 0 _).wider (by omega) (by simp)
   have HF := hid F
   clear F ho ro hb hbw p1
   go_wp2
   exact bodyPost_ret (v := .tuple #[.agg #[.slice O 24 cO], .bool true]) (by simp [results, Try.results91, go_sem, cR]) rfl HF.out
end bind
end
end Go.Proofs.Ytobedfmagjgdcaa
