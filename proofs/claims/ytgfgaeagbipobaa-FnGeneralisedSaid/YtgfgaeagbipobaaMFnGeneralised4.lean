/-
  MERGED: my texts UnifMath, GenMath, GenPos, AppZ, GenTab, GenSpec, GenRec, AnyOf, UnifDom, Then, HeldT, UnifRep, GenSt, CompMath, Max, CompSpec, CompImpl, AppStep, one behind the other, as they are. By an AI agent.
-/
import Derived.Test.YtgfgaeagbipobaaMFnGeneralised3
import Derived.Deep.QuietTactic
import Derived.BigQuiet
import Derived.Shelf.Abstract
import Derived.Deep.DeepCutAuto
import Derived.Laws.NewBlocks
import Derived.Laws.EntriesVeiled
import Derived.OrdersHeld
import Derived.Deep.RegionHeld
import Derived.Deep.AppendLies
import Derived.Deep.RegionHeld3
namespace Go.Proofs.Ytgfgaeagbipobaa
section
namespace unifMath
open sig term termOk termFacts endAt sub termMath fillMath posMath renMath matchMath plainMath
def Trm (sg t : List Int) : Prop := scan sg 1 t = some t.length
theorem scan_ar {sg : List Int} : ∀ {l : List Int} {q : Nat}, scan sg q l = some l.length → ∀ x ∈ l, ¬ ar sg x < 0 := by
 intro l
 induction l with
 | nil => intro q _ x hx; exact absurd hx (List.not_mem_nil)
 | cons y r ih =>
  intro q h x hx
  cases q with
  | zero => rw [scan_zero] at h; injection h with h; simp at h
  | succ q =>
   by_cases hy : ar sg y < 0
   ·rw [scan_bad hy] at h; cases h
   ·rw [scan_step hy, Option.map_eq_some_iff] at h
    obtain ⟨a, e1, e2⟩ := h
    rcases List.mem_cons.1 hx with rfl | hx
    ·exact hy
    ·exact ih (q := q + (ar sg y).toNat) (by rw [e1]; congr 1; simp at e2; omega) x hx
theorem Trm.mem {sg t : List Int} (h : Trm sg t) {x : Int} (hx : x ∈ t) : -24 ≤ x := by
 have h1 := scan_ar h x hx
 by_cases h2 : -24 ≤ x
 ·exact h2
 ·rw [ar_no (by omega) (by omega)] at h1; omega
theorem Trm.pos {sg t : List Int} (h : Trm sg t) : 1 ≤ t.length := scan_pos (q := 0) h
theorem Trm.vt {sg : List Int} {i : Nat} (hi : i < 24) : Trm sg (vt i) := scan_one (y := -1 - (i : Int)) (by omega)
theorem vr_vt (i : Nat) : vr (-1 - (i : Int)) = i := by unfold vr; omega
theorem rep_vr {L : Nat → List Int} {x : Int} (h : x < 0) : rep L x = L (vr x) := rep_var h
structure Sub (sg : List Int) (L : Nat → List Int) : Prop where
 trm : ∀ i, i < 24 → Trm sg (L i)
 out : ∀ i, 24 ≤ i → L i = vt i
theorem Sub.pos {sg : List Int} {L : Nat → List Int} (h : Sub sg L) (i : Nat) : 1 ≤ (L i).length := by
 by_cases hi : i < 24
 ·exact (h.trm i hi).pos
 ·rw [h.out i (by omega)]; simp [vt]
theorem Sub.vt (sg : List Int) : Sub sg vt := ⟨fun _ hi => Trm.vt hi, fun _ _ => rfl⟩
theorem Sub.fill {sg : List Int} {L : Nat → List Int} (h : Sub sg L) {t : List Int} (ht : Trm sg t) : Trm sg (fillL L t) :=
 scan_fill ht (fun x hx h0 => h.trm _ (by have := ht.mem hx; omega))
structure Uni (sg a b : List Int) (L : Nat → List Int) : Prop where
 sub : Sub sg L
 eq : fillL L a = fillL L b
structure Part (sg a b : List Int) (L : Nat → List Int) : Prop where
 sub : Sub sg L
 gen : ∀ M, Uni sg a b M → ∀ i, fillL M (L i) = M i
 ide : ∀ i x, x ∈ L i → x < 0 → L (vr x) = [x]
 ord : ∀ i j, L i = vt j → j ≤ i
structure Mg (sg a b : List Int) (L : Nat → List Int) : Prop extends Part sg a b L where
 eq : fillL L a = fillL L b
theorem Mg.uni {sg a b : List Int} {L : Nat → List Int} (h : Mg sg a b L) : Uni sg a b L := ⟨h.sub, h.eq⟩
theorem fill_drop {L : Nat → List Int} {x y : List Int} {k : Nat} (e : x.take k = y.take k) (h : fillL L x = fillL L y) : fillL L (x.drop k) = fillL L (y.drop k) := by
 rw [← List.take_append_drop k x, ← List.take_append_drop k y, fill_append, fill_append, e] at h
 exact List.append_cancel_left h
theorem sub_trm {sg x : List Int} (hx : Trm sg x) {k : Nat} (hk : k < x.length) : Trm sg (subL sg x k) ∧ x.drop k = subL sg x k ++ x.drop (k + (subL sg x k).length) := by
 obtain ⟨j, h1, h2, h3⟩ := scan_at hx hk
 have hl : subL sg x k = (x.drop k).take j := by unfold subL; rw [len1_eq h1]
 have hlen : (subL sg x k).length = j := by rw [hl, List.length_take, List.length_drop]; omega
 refine ⟨?_, ?_⟩
 ·unfold Trm
  rw [hlen, hl]
  exact scan_take h1
 ·rw [hlen, hl, ← List.drop_drop]
  exact (List.take_append_drop _ _).symm
theorem uni_sub {sg x y : List Int} {M : Nat → List Int} (hx : Trm sg x) (hy : Trm sg y) (hM : Sub sg M) (h : fillL M x = fillL M y) {k : Nat} (e : x.take k = y.take k) (hkx : k < x.length) (hky : k < y.length) : fillL M (subL sg x k) = fillL M (subL sg y k) := by
 have h1 := fill_drop e h
 obtain ⟨tx, ex⟩ := sub_trm hx hkx
 obtain ⟨ty, ey⟩ := sub_trm hy hky
 rw [ex, ey, fill_append, fill_append] at h1
 have s1 := scan_append (r := fillL M (x.drop (k + (subL sg x k).length))) (hM.fill tx)
 have s2 := scan_append (r := fillL M (y.drop (k + (subL sg y k).length))) (hM.fill ty)
 rw [h1, s2] at s1
 injection s1 with s1
 have := congrArg (List.take (fillL M (subL sg x k)).length) h1
 rw [List.take_left' rfl, List.take_left' s1] at this
 exact this
structure Spot (sg a b : List Int) (L : Nat → List Int) (k : Nat) : Prop where
 ta : Trm sg a
 tb : Trm sg b
 pre : (fillL L a).take k = (fillL L b).take k
 kx : k < (fillL L a).length
 ky : k < (fillL L b).length
 ne : (fillL L a).getD k 0 ≠ (fillL L b).getD k 0
theorem part_uni {sg a b : List Int} {L M : Nat → List Int} (h : Part sg a b L) (hM : Uni sg a b M) (z : List Int) : fillL M (fillL L z) = fillL M z := by
 rw [fill_fill]
 exact fill_ext (fun x _ _ => h.gen M hM _)
theorem Spot.sub {sg a b : List Int} {L M : Nat → List Int} {k : Nat} (s : Spot sg a b L k) (h : Part sg a b L) (hM : Uni sg a b M) : fillL M (subL sg (fillL L a) k) = fillL M (subL sg (fillL L b) k) :=
 uni_sub (h.sub.fill s.ta) (h.sub.fill s.tb) hM.sub (by rw [part_uni h hM, part_uni h hM, hM.eq]) s.pre s.kx s.ky
theorem Part.done {sg a b : List Int} {L : Nat → List Int} (h : Part sg a b L) (he : fillL L a = fillL L b) : Mg sg a b L := ⟨h, he⟩
structure Short (sg a b : List Int) (M : Nat → List Int) : Prop extends Uni sg a b M where
 each : ∀ i, (M i).length ≤ 60
 all : (fillL M a).length ≤ 60
theorem Part.each {sg a b : List Int} {L M : Nat → List Int} (h : Part sg a b L) (hM : Short sg a b M) (i : Nat) : (L i).length ≤ 60 := by
 have h1 := fill_ge hM.sub.pos (L i)
 rw [h.gen M hM.toUni] at h1
 exact Nat.le_trans h1 (hM.each i)
theorem Part.len {sg a b : List Int} {L M : Nat → List Int} (h : Part sg a b L) (hM : Short sg a b M) : (fillL L a).length ≤ 60 ∧ (fillL L b).length ≤ 60 := by
 have h1 := fill_ge hM.sub.pos (fillL L a)
 have h2 := fill_ge hM.sub.pos (fillL L b)
 rw [part_uni h hM.toUni] at h1 h2
 rw [← hM.eq] at h2
 exact ⟨Nat.le_trans h1 hM.all, Nat.le_trans h2 hM.all⟩
def IsU (sg a b : List Int) (v : Bool) (F : List (List Int)) : Prop :=
 (v = true ∧ termOkB sg a = true ∧ termOkB sg b = true ∧ ∃ L, Mg sg a b L ∧ Short sg a b L ∧ F = plainL L 24) ∨ (v = false ∧ F = [] ∧ (termOkB sg a = false ∨ termOkB sg b = false ∨ ∀ M, ¬ Short sg a b M))
theorem isU_mg {sg a b : List Int} {L : Nat → List Int} (h1 : termOkB sg a = true) (h2 : termOkB sg b = true) (h : Mg sg a b L) (he : ∀ i, (L i).length ≤ 60) (ha : (fillL L a).length ≤ 60) : IsU sg a b true (plainL L 24) :=
 .inl ⟨rfl, h1, h2, L, h, ⟨h.uni, he, ha⟩, rfl⟩
end unifMath
end
section
namespace genMath
open sig term termOk termFacts endAt sub termMath fillMath posMath renMath matchMath unifMath
abbrev Tb := List (List Int × List Int)
def Apt (s t : List Int) : Prop := ¬ (0 ≤ s.getD 0 0 ∧ s.getD 0 0 = t.getD 0 0)
inductive Gs (sg : List Int) : Tb → Nat → List Int → List Int → List Int → Tb → Prop
 | nil (T : Tb) : Gs sg T 0 [] [] [] T
 | sym {T T' : Tb} {n : Nat} {u w g : List Int} {x : Int} : 0 ≤ x → ¬ ar sg x < 0 → Gs sg T (n + (ar sg x).toNat) u w g T' → Gs sg T (n + 1) (x :: u) (x :: w) (x :: g) T'
 | old {T T' : Tb} {n i : Nat} {s t u w g : List Int} : Trm sg s → Trm sg t → Apt s t → T[i]? = some (s, t) → Gs sg T n u w g T' → Gs sg T (n + 1) (s ++ u) (t ++ w) ((-1 - (i : Int)) :: g) T'
 | new {T T' : Tb} {n : Nat} {s t u w g : List Int} : Trm sg s → Trm sg t → Apt s t → (s, t) ∉ T → Gs sg (T ++ [(s, t)]) n u w g T' → Gs sg T (n + 1) (s ++ u) (t ++ w) ((-1 - (T.length : Int)) :: g) T'
section
variable {sg : List Int} {T T' : Tb} {n : Nat} {u w g : List Int}
theorem gs_ext (h : Gs sg T n u w g T') : ∃ E, T' = T ++ E := by
 induction h with
 | nil T => exact ⟨[], by simp⟩
 | sym _ _ _ ih => exact ih
 | old _ _ _ _ _ ih => exact ih
 | new _ _ _ _ _ ih => obtain ⟨E, e⟩ := ih; exact ⟨_, by rw [e, List.append_assoc]⟩
theorem gs_nodup (h : Gs sg T n u w g T') (hT : T.Nodup) : T'.Nodup := by
 induction h with
 | nil T => exact hT
 | sym _ _ _ ih => exact ih hT
 | old _ _ _ _ _ ih => exact ih hT
 | new _ _ _ hn _ ih =>
  refine ih ?_
  rw [List.nodup_append]
  refine ⟨hT, by simp, fun x hx y hy e => ?_⟩
  rw [List.mem_singleton] at hy
  subst e
  subst hy
  exact hn hx
end
theorem gs_comp {sg : List Int} {T T1 T2 : Tb} {p q : Nat} {u w g U W G : List Int} (h : Gs sg T p u w g T1) : Gs sg T1 q U W G T2 → Gs sg T (p + q) (u ++ U) (w ++ W) (g ++ G) T2 := by
 induction h with
 | nil T => intro k; simpa using k
 | @sym T T' n u w g x h0 ha _ ih =>
  intro k
  have := ih k
  rw [show n + 1 + q = (n + q) + 1 by omega]
  exact .sym h0 ha (by rw [show n + q + (ar sg x).toNat = n + (ar sg x).toNat + q by omega]; exact this)
 | @old T T' n i s t u w g h1 h2 h3 h4 _ ih =>
  intro k
  rw [show n + 1 + q = (n + q) + 1 by omega, List.append_assoc, List.append_assoc]
  exact .old h1 h2 h3 h4 (ih k)
 | @new T T' n s t u w g h1 h2 h3 h4 _ ih =>
  intro k
  rw [show n + 1 + q = (n + q) + 1 by omega, List.append_assoc, List.append_assoc]
  exact .new h1 h2 h3 h4 (ih k)
theorem trm_front {sg s s' u u' : List Int} (h : Trm sg s) (h' : Trm sg s') (e : s ++ u = s' ++ u') : s = s' ∧ u = u' := by
 have h1 := scan_append (r := u) h
 have h2 := scan_append (r := u') h'
 rw [e, h2] at h1
 injection h1 with h1
 have h3 := congrArg (List.take s.length) e
 rw [List.take_left' rfl, List.take_left' h1] at h3
 refine ⟨h3, ?_⟩
 rw [h3] at e
 exact List.append_cancel_left e
theorem trm_cons {sg s : List Int} (h : Trm sg s) : ∃ x r, s = x :: r ∧ s.getD 0 0 = x := by
 have := h.pos
 match s, this with
 | x :: r, _ => exact ⟨x, r, rfl, rfl⟩
theorem apt_head {sg s t u w u' w' : List Int} {x : Int} (hs : Trm sg s) (ht : Trm sg t) (h : Apt s t) (h0 : 0 ≤ x) (e1 : s ++ u = x :: u') (e2 : t ++ w = x :: w') : False := by
 obtain ⟨y, r, rfl, hy⟩ := trm_cons hs
 obtain ⟨z, r', rfl, hz⟩ := trm_cons ht
 injection e1 with e1 _
 injection e2 with e2 _
 exact h ⟨by rw [hy, e1]; exact h0, by rw [hy, hz, e1, e2]⟩
theorem nodup_ix {T : Tb} {i j : Nat} {a : List Int × List Int} (h : T.Nodup) (hi : T[i]? = some a) (hj : T[j]? = some a) : i = j := by
 exact (List.getElem?_inj (List.getElem?_eq_some_iff.1 hi).1 h).1 (hi.trans hj.symm)
theorem mem_ix {T : Tb} {i : Nat} {a : List Int × List Int} (h : T[i]? = some a) : a ∈ T := List.mem_of_getElem? h
theorem gs_one {sg : List Int} {T T' : Tb} {n : Nat} {u w g : List Int} (h : Gs sg T n u w g T') : T.Nodup → ∀ {g2 : List Int} {T2 : Tb}, Gs sg T n u w g2 T2 → g = g2 ∧ T' = T2 := by
 induction h with
 | nil T =>
  intro hT g2 T2 k
  cases k with
  | nil => exact ⟨rfl, rfl⟩
 | @sym T T' n u w g x h0 ha h1 ih =>
  intro hT g2 T2 k
  generalize eu : x :: u = U at k
  generalize ew : x :: w = W at k
  generalize en : n + 1 = m at k
  cases k with
  | nil => cases eu
  | sym k0 ka k1 =>
   injection eu with e1 e2
   injection ew with _ e3
   subst e1; subst e2; subst e3
   obtain rfl := Nat.succ.inj en
   obtain ⟨a, b⟩ := ih hT k1
   exact ⟨by rw [a], b⟩
  | old k1 k2 k3 _ _ => exact (apt_head k1 k2 k3 h0 eu.symm ew.symm).elim
  | new k1 k2 k3 _ _ => exact (apt_head k1 k2 k3 h0 eu.symm ew.symm).elim
 | @old T T' n i s t u w g h1 h2 h3 h4 h5 ih =>
  intro hT g2 T2 k
  generalize eu : s ++ u = U at k
  generalize ew : t ++ w = W at k
  generalize en : n + 1 = m at k
  cases k with
  | nil => cases en
  | sym k0 ka k1 => exact (apt_head h1 h2 h3 k0 eu ew).elim
  | @old _ _ n' i' s' t' u' w' g' k1 k2 k3 k4 k5 =>
   obtain ⟨rfl, rfl⟩ := trm_front h1 k1 eu
   obtain ⟨rfl, rfl⟩ := trm_front h2 k2 ew
   obtain rfl := Nat.succ.inj en
   obtain rfl := nodup_ix hT h4 k4
   obtain ⟨a, b⟩ := ih hT k5
   exact ⟨by rw [a], b⟩
  | new k1 k2 k3 k4 k5 =>
   obtain ⟨rfl, rfl⟩ := trm_front h1 k1 eu
   obtain ⟨rfl, rfl⟩ := trm_front h2 k2 ew
   exact absurd (mem_ix h4) k4
 | @new T T' n s t u w g h1 h2 h3 h4 h5 ih =>
  intro hT g2 T2 k
  have hN : (T ++ [(s, t)]).Nodup := by
   rw [List.nodup_append]
   refine ⟨hT, by simp, fun x hx y hy e => ?_⟩
   rw [List.mem_singleton] at hy
   subst e
   subst hy
   exact h4 hx
  generalize eu : s ++ u = U at k
  generalize ew : t ++ w = W at k
  generalize en : n + 1 = m at k
  cases k with
  | nil => cases en
  | sym k0 ka k1 => exact (apt_head h1 h2 h3 k0 eu ew).elim
  | old k1 k2 k3 k4 k5 =>
   obtain ⟨rfl, rfl⟩ := trm_front h1 k1 eu
   obtain ⟨rfl, rfl⟩ := trm_front h2 k2 ew
   exact absurd (mem_ix k4) h4
  | new k1 k2 k3 k4 k5 =>
   obtain ⟨rfl, rfl⟩ := trm_front h1 k1 eu
   obtain ⟨rfl, rfl⟩ := trm_front h2 k2 ew
   obtain rfl := Nat.succ.inj en
   obtain ⟨a, b⟩ := ih hN k5
   exact ⟨by rw [a], b⟩
theorem seq_front {sg u : List Int} {n : Nat} (h : scan sg (n + 1) u = some u.length) : ∃ s r, u = s ++ r ∧ Trm sg s ∧ scan sg n r = some r.length := by
 obtain ⟨j, h1, h2, h3, h4⟩ := scan_first (a := 0) (by rw [List.drop_zero]; exact h)
 rw [List.drop_zero] at h1
 rw [Nat.zero_add] at h4
 refine ⟨u.take j, u.drop j, (List.take_append_drop j u).symm, ?_, by rw [h4, List.length_drop]⟩
 unfold Trm
 rw [scan_take h1, List.length_take]
 congr 1
 omega
theorem gs_ex {sg : List Int} : ∀ (m : Nat) {T : Tb} {n : Nat} {u w : List Int}, u.length ≤ m → scan sg n u = some u.length → scan sg n w = some w.length → ∃ g T', Gs sg T n u w g T'
 | m, T, 0, u, w, _, hu, hw => by
  rw [scan_zero] at hu hw
  injection hu with hu
  injection hw with hw
  obtain rfl := List.eq_nil_of_length_eq_zero hu.symm
  obtain rfl := List.eq_nil_of_length_eq_zero hw.symm
  exact ⟨[], T, .nil T⟩
 | 0, T, n + 1, u, w, hm, hu, _ => by
  obtain rfl := List.eq_nil_of_length_eq_zero (Nat.le_zero.1 hm)
  rw [scan_nil] at hu; cases hu
 | m + 1, T, n + 1, u, w, hm, hu, hw => by
  obtain ⟨s, r, e1, hs, hr⟩ := seq_front hu
  obtain ⟨t, q, e2, ht, hq⟩ := seq_front hw
  have hsp := hs.pos
  by_cases ha : Apt s t
  ·by_cases hx : (s, t) ∈ T
   ·obtain ⟨i, hi⟩ := List.mem_iff_getElem?.1 hx
    obtain ⟨g, T', h⟩ := gs_ex (sg := sg) m (T := T) (n := n) (u := r) (w := q) (by rw [e1, List.length_append] at hm; omega) hr hq
    exact ⟨_, _, by rw [e1, e2]; exact .old hs ht ha hi h⟩
   ·obtain ⟨g, T', h⟩ := gs_ex (sg := sg) m (T := T ++ [(s, t)]) (n := n) (u := r) (w := q) (by rw [e1, List.length_append] at hm; omega) hr hq
    exact ⟨_, _, by rw [e1, e2]; exact .new hs ht ha hx h⟩
  ·unfold Apt at ha
   rw [Classical.not_not] at ha
   obtain ⟨x, s', rfl, hx⟩ := trm_cons hs
   obtain ⟨y, t', rfl, hy⟩ := trm_cons ht
   rw [hx, hy] at ha
   obtain ⟨h0, rfl⟩ := ha
   rw [e1] at hu
   rw [e2] at hw
   rw [List.cons_append] at hu hw
   have har : ¬ ar sg x < 0 := by
    intro hn
    rw [scan_bad hn] at hu; cases hu
   rw [scan_step har, Option.map_eq_some_iff] at hu hw
   obtain ⟨a, a1, a2⟩ := hu
   obtain ⟨b, b1, b2⟩ := hw
   obtain ⟨g, T', h⟩ := gs_ex (sg := sg) m (T := T) (n := n + (ar sg x).toNat) (u := s' ++ r) (w := t' ++ q) (by rw [e1] at hm; simp at hm ⊢; omega) (by rw [a1]; congr 1; simp at a2 ⊢; omega) (by rw [b1]; congr 1; simp at b2 ⊢; omega)
   exact ⟨_, _, by rw [e1, e2]; exact .sym h0 har h⟩
theorem gs_swap {sg : List Int} {T T' : Tb} {n : Nat} {u w g : List Int} (h : Gs sg T n u w g T') : Gs sg (T.map Prod.swap) n w u g (T'.map Prod.swap) := by
 have apt : ∀ {s t : List Int}, Apt s t → Apt t s := fun h ⟨a, b⟩ => h ⟨by rw [← b]; exact a, b.symm⟩
 induction h with
 | nil T => exact .nil _
 | sym h0 ha _ ih => exact .sym h0 ha ih
 | old h1 h2 h3 h4 _ ih => exact .old h2 h1 (apt h3) (by rw [List.getElem?_map, h4]; rfl) ih
 | @new T T' n s t u w g h1 h2 h3 h4 _ ih =>
  have := Gs.new (sg := sg) (T := T.map Prod.swap) h2 h1 (apt h3) (fun hm => h4 (by
   rw [List.mem_map] at hm
   obtain ⟨⟨a, b⟩, m1, m2⟩ := hm
   injection m2 with m2 m3
   rw [← m2, ← m3]
   exact m1)) (by rw [List.map_append] at ih; exact ih)
  rw [List.length_map] at this
  exact this
inductive Gt (sg : List Int) (T : Tb) : Nat → List Int → List Int → List Int → Prop
 | nil : Gt sg T 0 [] [] []
 | sym {n : Nat} {u w g : List Int} {x : Int} : 0 ≤ x → ¬ ar sg x < 0 → Gt sg T (n + (ar sg x).toNat) u w g → Gt sg T (n + 1) (x :: u) (x :: w) (x :: g)
 | old {n i : Nat} {s t u w g : List Int} : Trm sg s → Trm sg t → Apt s t → T[i]? = some (s, t) → Gt sg T n u w g → Gt sg T (n + 1) (s ++ u) (t ++ w) ((-1 - (i : Int)) :: g)
theorem gs_gt {sg : List Int} {T T' : Tb} {n : Nat} {u w g : List Int} (h : Gs sg T n u w g T') : ∀ E, Gt sg (T' ++ E) n u w g := by
 induction h with
 | nil T => intro E; exact .nil
 | sym h0 ha _ ih => intro E; exact .sym h0 ha (ih E)
 | old h1 h2 h3 h4 k ih =>
  intro E
  obtain ⟨F, e⟩ := gs_ext k
  refine .old h1 h2 h3 ?_ (ih E)
  rw [e, List.append_assoc, List.getElem?_append_left (List.getElem?_eq_some_iff.1 h4).1]
  exact h4
 | new h1 h2 h3 h4 k ih =>
  intro E
  obtain ⟨F, e⟩ := gs_ext k
  refine .old h1 h2 h3 ?_ (ih E)
  rw [e, List.append_assoc, List.append_assoc]
  simp
def f1 (T : Tb) (i : Nat) : List Int := (T.getD i ([], [])).1
def f2 (T : Tb) (i : Nat) : List Int := (T.getD i ([], [])).2
theorem gt_fill {sg : List Int} {T : Tb} {n : Nat} {u w g : List Int} (h : Gt sg T n u w g) : fillL (f1 T) g = u ∧ fillL (f2 T) g = w ∧ ∀ x ∈ g, x < 0 → vr x < T.length ∧ Trm sg (f1 T (vr x)) ∧ Trm sg (f2 T (vr x)) := by
 induction h with
 | nil => exact ⟨rfl, rfl, fun x hx => absurd hx (List.not_mem_nil)⟩
 | @sym n u w g x h0 ha _ ih =>
  refine ⟨by rw [fill_cons, rep_sym h0, ih.1]; rfl, by rw [fill_cons, rep_sym h0, ih.2.1]; rfl, fun y hy hy0 => ?_⟩
  rcases List.mem_cons.1 hy with rfl | hy
  ·omega
  ·exact ih.2.2 y hy hy0
 | @old n i s t u w g h1 h2 h3 h4 _ ih =>
  have e1 : f1 T i = s := by unfold f1; rw [List.getD_eq_getElem?_getD, h4]; rfl
  have e2 : f2 T i = t := by unfold f2; rw [List.getD_eq_getElem?_getD, h4]; rfl
  refine ⟨by rw [fill_cons, rep_vr (by omega), vr_vt, e1, ih.1], by rw [fill_cons, rep_vr (by omega), vr_vt, e2, ih.2.1], fun y hy hy0 => ?_⟩
  rcases List.mem_cons.1 hy with rfl | hy
  ·rw [vr_vt, e1, e2]
   exact ⟨(List.getElem?_eq_some_iff.1 h4).1, h1, h2⟩
  ·exact ih.2.2 y hy hy0
theorem gt_scan {sg : List Int} {T : Tb} {n : Nat} {u w g : List Int} (hT : T.length ≤ 24) (h : Gt sg T n u w g) : scan sg n g = some g.length := by
 induction h with
 | nil => rfl
 | sym h0 ha _ ih => rw [scan_step ha, ih]; rfl
 | @old n i s t u w g h1 h2 h3 h4 _ ih =>
  have hi := (List.getElem?_eq_some_iff.1 h4).1
  have e : ar sg (-1 - (i : Int)) = 0 := ar_var (by omega)
  rw [scan_step (by rw [e]; omega), e]
  show (scan sg (n + 0) g).map (· + 1) = _
  rw [Nat.add_zero, ih]; rfl
theorem gt_one {sg : List Int} {T : Tb} (hT : T.Nodup) {n : Nat} {u w g : List Int} (h : Gt sg T n u w g) : ∀ {g2 : List Int}, Gt sg T n u w g2 → g = g2 := by
 induction h with
 | nil =>
  intro g2 k
  cases k with
  | nil => rfl
 | @sym n u w g x h0 ha h1 ih =>
  intro g2 k
  generalize eu : x :: u = U at k
  generalize ew : x :: w = W at k
  generalize en : n + 1 = m at k
  cases k with
  | nil => cases eu
  | sym k0 ka k1 =>
   injection eu with e1 e2
   injection ew with _ e3
   subst e1; subst e2; subst e3
   obtain rfl := Nat.succ.inj en
   rw [ih k1]
  | old k1 k2 k3 _ _ => exact (apt_head k1 k2 k3 h0 eu.symm ew.symm).elim
 | @old n i s t u w g h1 h2 h3 h4 h5 ih =>
  intro g2 k
  generalize eu : s ++ u = U at k
  generalize ew : t ++ w = W at k
  generalize en : n + 1 = m at k
  cases k with
  | nil => cases en
  | sym k0 ka k1 => exact (apt_head h1 h2 h3 k0 eu ew).elim
  | old k1 k2 k3 k4 k5 =>
   obtain ⟨rfl, rfl⟩ := trm_front h1 k1 eu
   obtain ⟨rfl, rfl⟩ := trm_front h2 k2 ew
   obtain rfl := Nat.succ.inj en
   obtain rfl := nodup_ix hT h4 k4
   rw [ih k5]
theorem gt_split {sg : List Int} {T : Tb} {m : Nat} {X Y g : List Int} (h : Gt sg T m X Y g) : ∀ {p q : Nat} {u w U W : List Int}, m = p + q → X = u ++ U → Y = w ++ W → scan sg p u = some u.length → scan sg p w = some w.length → ∃ g1 g2, g = g1 ++ g2 ∧ Gt sg T p u w g1 ∧ Gt sg T q U W g2 := by
 have zero : ∀ {m : Nat} {X Y g : List Int}, Gt sg T m X Y g → ∀ {q : Nat} {u w U W : List Int}, m = 0 + q → X = u ++ U → Y = w ++ W → scan sg 0 u = some u.length → scan sg 0 w = some w.length → ∃ g1 g2, g = g1 ++ g2 ∧ Gt sg T 0 u w g1 ∧ Gt sg T q U W g2 := by
  intro m X Y g h q u w U W e eX eY hu hw
  rw [scan_zero] at hu hw
  injection hu with hu
  injection hw with hw
  obtain rfl := List.eq_nil_of_length_eq_zero hu.symm
  obtain rfl := List.eq_nil_of_length_eq_zero hw.symm
  rw [Nat.zero_add] at e
  subst e
  rw [List.nil_append] at eX eY
  subst eX; subst eY
  exact ⟨[], g, rfl, .nil, h⟩
 induction h with
 | nil =>
  intro p q u w U W e eX eY hu hw
  cases p with
  | zero => exact zero .nil e eX eY hu hw
  | succ p => omega
 | @sym n X Y g x h0 ha h1 ih =>
  intro p q u w U W e eX eY hu hw
  cases p with
  | zero => exact zero (.sym h0 ha h1) e eX eY hu hw
  | succ p =>
   cases u with
   | nil => rw [scan_nil] at hu; cases hu
   | cons x' u =>
    cases w with
    | nil => rw [scan_nil] at hw; cases hw
    | cons y' w =>
     rw [List.cons_append] at eX eY
     injection eX with e1 e2
     injection eY with e3 e4
     subst e1; subst e3
     rw [scan_step ha, Option.map_eq_some_iff] at hu hw
     obtain ⟨a, a1, a2⟩ := hu
     obtain ⟨b, b1, b2⟩ := hw
     obtain ⟨g1, g2, k1, k2, k3⟩ := ih (p := p + (ar sg x).toNat) (q := q) (u := u) (w := w) (by omega) e2 e4 (by rw [a1]; congr 1; simp at a2; omega) (by rw [b1]; congr 1; simp at b2; omega)
     exact ⟨x :: g1, g2, by rw [k1]; rfl, .sym h0 ha k2, k3⟩
 | @old n i s t X Y g h1 h2 h3 h4 h5 ih =>
  intro p q u w U W e eX eY hu hw
  cases p with
  | zero => exact zero (.old h1 h2 h3 h4 h5) e eX eY hu hw
  | succ p =>
   obtain ⟨s', r, e1, hs, hr⟩ := seq_front hu
   obtain ⟨t', r', e2, ht, hr'⟩ := seq_front hw
   rw [e1, List.append_assoc] at eX
   rw [e2, List.append_assoc] at eY
   obtain ⟨es, eX2⟩ := trm_front h1 hs eX
   obtain ⟨et, eY2⟩ := trm_front h2 ht eY
   subst es; subst et
   obtain ⟨g1, g2, k1, k2, k3⟩ := ih (p := p) (q := q) (by omega) eX2 eY2 hr hr'
   exact ⟨(-1 - (i : Int)) :: g1, g2, by rw [k1]; rfl, by rw [e1, e2]; exact .old h1 h2 h3 h4 k2, k3⟩
theorem gt_least {sg : List Int} {T : Tb} (hT : T.Nodup) {A B : Nat → List Int} (hA : Sub sg A) (hB : Sub sg B) : ∃ M : Nat → List Int, ∀ {p : List Int} {n : Nat} {g : List Int}, scan sg n p = some p.length → Gt sg T n (fillL A p) (fillL B p) g → fillL M p = g ∧ ∀ x ∈ p, x < 0 → Gt sg T 1 (A (vr x)) (B (vr x)) (M (vr x)) := by
 have hch : ∀ i, ∃ m, (∃ m', Gt sg T 1 (A i) (B i) m') → Gt sg T 1 (A i) (B i) m := fun i => by
  by_cases h : ∃ m', Gt sg T 1 (A i) (B i) m'
  ·obtain ⟨m', h'⟩ := h
   exact ⟨m', fun _ => h'⟩
  ·exact ⟨[], fun h' => absurd h' h⟩
 refine ⟨fun i => (hch i).choose, fun {p} => ?_⟩
 induction p with
 | nil =>
  intro n g hs h
  cases n with
  | zero =>
   cases h with
   | nil => exact ⟨rfl, fun x hx => absurd hx (List.not_mem_nil)⟩
  | succ n => rw [scan_nil] at hs; cases hs
 | cons x r ih =>
  intro n g hs h
  cases n with
  | zero => rw [scan_zero] at hs; injection hs with hs; simp at hs
  | succ n =>
   have hx := scan_ar hs x (List.mem_cons_self ..)
   rw [scan_step hx, Option.map_eq_some_iff] at hs
   obtain ⟨a, a1, a2⟩ := hs
   have hr : scan sg (n + (ar sg x).toNat) r = some r.length := by rw [a1]; congr 1; simp at a2; omega
   rw [fill_cons, fill_cons] at h
   by_cases h0 : 0 ≤ x
   ·rw [rep_sym h0, rep_sym h0] at h
    obtain ⟨g', rfl, h'⟩ : ∃ g', g = x :: g' ∧ Gt sg T (n + (ar sg x).toNat) (fillL A r) (fillL B r) g' := by
     generalize eu : [x] ++ fillL A r = U at h
     generalize ew : [x] ++ fillL B r = W at h
     generalize en : n + 1 = m at h
     cases h with
     | nil => cases eu
     | sym k0 ka k1 =>
      injection eu with e1 e2
      injection ew with _ e3
      subst e1
      have e2' : fillL A r = _ := e2
      have e3' : fillL B r = _ := e3
      rw [e2', e3']
      obtain rfl := Nat.succ.inj en
      exact ⟨_, rfl, k1⟩
     | old k1 k2 k3 _ _ => exact (apt_head k1 k2 k3 h0 eu.symm ew.symm).elim
    obtain ⟨i1, i2⟩ := ih hr h'
    refine ⟨by rw [fill_cons, rep_sym h0, i1]; rfl, fun y hy hy0 => ?_⟩
    rcases List.mem_cons.1 hy with rfl | hy
    ·omega
    ·exact i2 y hy hy0
   ·have hv : vr x < 24 := by
     by_cases h24 : -24 ≤ x
     ·unfold vr; omega
     ·rw [ar_no (by omega) (by omega)] at hx; omega
    have hz : ar sg x = 0 := ar_var (by unfold vr at hv; omega)
    rw [rep_vr (by omega), rep_vr (by omega)] at h
    obtain ⟨g1, g2, e, k1, k2⟩ := gt_split h (show n + 1 = 1 + n by omega) rfl rfl (hA.trm _ hv) (hB.trm _ hv)
    have hc := (hch (vr x)).choose_spec ⟨_, k1⟩
    have hg1 := gt_one hT hc k1
    rw [hz] at hr
    obtain ⟨i1, i2⟩ := ih (n := n) hr k2
    refine ⟨by rw [fill_cons, rep_vr (by omega), e]; show (hch (vr x)).choose ++ _ = _; rw [hg1, i1], fun y hy hy0 => ?_⟩
    rcases List.mem_cons.1 hy with rfl | hy
    ·exact hc
    ·exact i2 y hy hy0
end genMath
end
section
namespace genPos
open sig term termOk termFacts endAt sub termMath fillMath posMath renMath matchMath unifMath genMath
def upto (sg t : List Int) (p k : Nat) : List Int := (t.drop (p + 1)).take (argP sg t k (p + 1) - (p + 1))
theorem argP_ge {sg t : List Int} (k p : Nat) : p ≤ argP sg t k p := argP_mono (k := 0) (Nat.zero_le k)
theorem upto_zero {sg t : List Int} {p : Nat} : upto sg t p 0 = [] := by unfold upto; simp [argP]
theorem upto_succ {sg t : List Int} {p k : Nat} : upto sg t p (k + 1) = upto sg t p k ++ subL sg t (argP sg t k (p + 1)) := by
 have h1 := argP_ge (sg := sg) (t := t) k (p + 1)
 have h2 := argP_succ (sg := sg) (t := t) k (p + 1)
 unfold upto subL
 rw [h2, show argP sg t k (p + 1) + len1 sg t (argP sg t k (p + 1)) - (p + 1) = (argP sg t k (p + 1) - (p + 1)) + len1 sg t (argP sg t k (p + 1)) by omega, List.take_add, List.drop_drop, show p + 1 + (argP sg t k (p + 1) - (p + 1)) = argP sg t k (p + 1) by omega]
theorem sub_upto {sg t : List Int} {p j : Nat} (h : scan sg 1 (t.drop p) = some j) : subL sg t p = t.getD p 0 :: upto sg t p (arN sg t p) := by
 obtain ⟨i, rfl, h1, h2, h3⟩ := scan_args h
 obtain ⟨e, h4, h5⟩ := argP_scan h3 (Nat.le_refl _)
 rw [h3] at e
 injection e with e
 unfold subL upto arN
 rw [len1_eq h, drop_cons h1, List.take_succ_cons, ← e]
theorem sub_trm {sg t : List Int} {p j : Nat} (h : scan sg 1 (t.drop p) = some j) : Trm sg (subL sg t p) := by
 unfold Trm subL
 have h1 := scan_take h
 have h2 := scan_le h
 rw [len1_eq h, h1, List.length_take]
 congr 1
 omega
theorem sub_hd {sg t : List Int} {p j : Nat} (h : scan sg 1 (t.drop p) = some j) : (subL sg t p).getD 0 0 = t.getD p 0 := by
 rw [sub_upto h]; rfl
def Ga (sg a b : List Int) (p q : Nat) (T : Tb) (k : Nat) (g : List Int) (T' : Tb) : Prop := Gs sg T k (upto sg a p k) (upto sg b q k) g T'
theorem ga_zero {sg a b : List Int} {p q : Nat} {T : Tb} : Ga sg a b p q T 0 [] T := by unfold Ga; rw [upto_zero, upto_zero]; exact Gs.nil T
theorem ga_succ {sg a b : List Int} {p q k : Nat} {T T1 T2 : Tb} {g g' : List Int} (h : Ga sg a b p q T k g T1) (h' : Gs sg T1 1 (subL sg a (argP sg a k (p + 1))) (subL sg b (argP sg b k (q + 1))) g' T2) : Ga sg a b p q T (k + 1) (g ++ g') T2 := by
 unfold Ga; rw [upto_succ, upto_succ]; exact gs_comp h h'
theorem ga_done {sg a b : List Int} {p q j j' : Nat} {T T' : Tb} {g : List Int} (ha : scan sg 1 (a.drop p) = some j) (hb : scan sg 1 (b.drop q) = some j') (h0 : 0 ≤ a.getD p 0) (he : a.getD p 0 = b.getD q 0) (h : Ga sg a b p q T (arN sg a p) g T') : Gs sg T 1 (subL sg a p) (subL sg b q) (a.getD p 0 :: g) T' := by
 rw [sub_upto ha, sub_upto hb, ← he]
 obtain ⟨_, _, _, hn, _⟩ := scan_args ha
 have e : arN sg b q = arN sg a p := by unfold arN; rw [he]
 rw [e]
 exact Gs.sym (n := 0) h0 hn (by rw [Nat.zero_add]; exact h)
theorem gp_apt {sg a b : List Int} {p q j j' : Nat} (ha : scan sg 1 (a.drop p) = some j) (hb : scan sg 1 (b.drop q) = some j') (h : ¬ (0 ≤ a.getD p 0 ∧ a.getD p 0 = b.getD q 0)) : Apt (subL sg a p) (subL sg b q) := by
 unfold Apt; rw [sub_hd ha, sub_hd hb]; exact h
theorem gp_old {sg a b : List Int} {p q j j' i : Nat} {T : Tb} (ha : scan sg 1 (a.drop p) = some j) (hb : scan sg 1 (b.drop q) = some j') (h : ¬ (0 ≤ a.getD p 0 ∧ a.getD p 0 = b.getD q 0)) (hi : T[i]? = some (subL sg a p, subL sg b q)) : Gs sg T 1 (subL sg a p) (subL sg b q) [-1 - (i : Int)] T := by
 have := Gs.old (n := 0) (u := []) (w := []) (g := []) (sub_trm ha) (sub_trm hb) (gp_apt ha hb h) hi (Gs.nil T)
 rwa [List.append_nil, List.append_nil] at this
theorem gp_new {sg a b : List Int} {p q j j' : Nat} {T : Tb} (ha : scan sg 1 (a.drop p) = some j) (hb : scan sg 1 (b.drop q) = some j') (h : ¬ (0 ≤ a.getD p 0 ∧ a.getD p 0 = b.getD q 0)) (hi : (subL sg a p, subL sg b q) ∉ T) : Gs sg T 1 (subL sg a p) (subL sg b q) [-1 - (T.length : Int)] (T ++ [(subL sg a p, subL sg b q)]) := by
 have := Gs.new (n := 0) (u := []) (w := []) (g := []) (sub_trm ha) (sub_trm hb) (gp_apt ha hb h) hi (Gs.nil _)
 rwa [List.append_nil, List.append_nil] at this
theorem arg_sub {sg t : List Int} {p j k : Nat} (h : scan sg 1 (t.drop p) = some j) (hk : k < arN sg t p) : ∃ j', scan sg 1 (t.drop (argP sg t k (p + 1))) = some j' ∧ argP sg t k (p + 1) + j' ≤ p + j ∧ p < argP sg t k (p + 1) := by
 obtain ⟨i, rfl, h1, h2, h3⟩ := scan_args h
 obtain ⟨e, h4, h5⟩ := argP_scan h3 (Nat.le_of_lt hk)
 have hq : k + (arN sg t p - k - 1 + 1) = (ar sg (t.getD p 0)).toNat := by unfold arN at hk ⊢; omega
 rw [← hq] at h3
 obtain ⟨x, e1, e2, e3⟩ := scan_split h3
 rw [e] at e2
 injection e2 with e2
 rw [List.drop_drop, ← e2, show p + 1 + (argP sg t k (p + 1) - (p + 1)) = argP sg t k (p + 1) by omega] at e3
 obtain ⟨j', f1, f2, f3, _⟩ := scan_first e3
 exact ⟨j', f1, by omega, by omega⟩
end genPos
end
section
namespace appZ
open Go.RowKit base ints cursor same marks app appAt sym sub segs segsHelp kinds Go.Proofs.Ytgfgaeagbipobaa.look plain
set_option maxRecDepth 100000
set_option maxHeartbeats 1000000 in
theorem appS1Z {w : World} {ops : Array Oper} {rest : List Oper} {o : Oper} {a : Act} {Q : Exit → Act → World → Prop} (hgd : o.guard = none) (s x : Operand)
  (ho : o.op = .call { callee := .builtin .append, args := #[s, x], argTypes := #[29, 29] })
  (lo mid : Nat) (A : Option Addr) (n c : Nat) (xss : List (List Int)) (hs : a.eval s = .slice A n c) (hown : Owns w lo mid A n c xss)
  (g c2 : Nat) (v : Value) (ys : List Int) (hx : a.eval x = .slice (some ⟨g, 0, none⟩) 1 c2) (hy : w.cell? ⟨g, 0, none⟩ = some v) (hv : Inn w mid w.heap.size v ys) (hn : n ≤ 1048576) (hlo : lo ≤ mid) (hmid : mid ≤ w.heap.size)
  (h : ∀ A' c' w', Owns w' lo w'.heap.size A' (n + 1) c' (xss ++ [ys]) → w.grownBy w' (blk A) → (blk A' = blk A ∨ blk A' = some w.heap.size) → Below lo w w' → (∀ j b' u, j < n + 1 → A' = some ⟨b', 0, none⟩ → w'.cell? ⟨b', j, none⟩ = some u → (∃ b, j < n ∧ A = some ⟨b, 0, none⟩ ∧ w.cell? ⟨b, j, none⟩ = some u) ∨ (j = n ∧ u = v)) → wpList Try.prog ops Q rest (a.put o.dst (.slice A' (n + 1) c')) w') : wpList Try.prog ops Q (o :: rest) a w := by
 obtain ⟨i0, hi, hz0, hz1, hz2⟩ := info_parts info_list
 obtain ⟨hlen, ⟨vs, hr, hin, hap⟩, htop⟩ := hown
 have hvl : vs.length = n := by have := hr.1; omega
 have hvc : v.oneCell' = true := by obtain ⟨A1, c1, rfl, _⟩ := hv; rfl
 refine wpList_append_own_at w hgd s x 29 ho lo 24 i0 (.slice none 0 0) 1 24 Try.underlying29 hi hz0 hz1 hz2 rfl (by decide) (.slice A n c) n vs hs hr
  ⟨g, 0, none⟩ 1 c2 [v] hx rfl (fun j u hj => ?_) (fun u hu => ?_) (by unfold maxLen; omega) (by omega) (by omega) ?_
 ·match j, hj with
  | 0, hj => simp at hj; subst hj; simpa [Addr.add] using hy
 ·simp at hu; subst hu; exact hvc
 ·intro v' w' hown' hg _ hat
  have hform : ∃ A' c', v' = .slice A' (n + 1) c' := by
   rcases hown'.2 with ⟨_, h0⟩ | ⟨g', cap, cur, e, _⟩
   ·omega
   ·exact ⟨_, _, e⟩
  obtain ⟨A', c', rfl⟩ := hform
  rw [blk_own] at hg
  rw [blk_own, blk_own] at hat
  have hsz := hg.size
  have hne : ∀ {u : Value} {zs : List Int} {l2 h2 : Nat}, Inn w l2 h2 u zs → u.ownBlock = none ∨ u.ownBlock ≠ blk A := fun {u zs l2 h2} hu => by
   rcases own_form hr with ⟨rfl, _⟩ | ⟨g', cur, rfl, _, hrow, _⟩
   ·cases e : u.ownBlock with
    | none => exact .inl rfl
    | some z => exact .inr (fun e2 => by cases e2)
   ·exact .inr (hu.ne hrow)
  have hget : ∀ j, j < n → (vs ++ [v]).getD j undef = vs.getD j undef := fun j hj => by simp [List.getD, List.getElem?_append_left (show j < vs.length by omega)]
  have hget2 : ∀ j, j < n → (xss ++ [ys]).getD j [] = xss.getD j [] := fun j hj => by simp [List.getD, List.getElem?_append_left (show j < xss.length by omega)]
  have hnew : (vs ++ [v]).getD n undef = v := by simp [List.getD, ← hvl]
  have hnew2 : (xss ++ [ys]).getD n [] = ys := by simp [List.getD, ← hlen]
  refine h A' c' w' ⟨by simp [hlen], ⟨vs ++ [v], hown', fun j hj => ?_, fun i j k hij hj e1 e2 => ?_⟩, fun k hk => (World.ownsRow.lt hown' k (by rw [blk_own]; exact hk)).2⟩ hg hat ?_ ?_
  ·by_cases e : j = n
   ·subst e
    rw [hnew, hnew2]
    exact (hv.kept hg (hne hv)).wider (by omega) (by omega)
   ·rw [hget j (by omega), hget2 j (by omega)]
    exact ((hin j (by omega)).kept hg (hne (hin j (by omega)))).wider (Nat.le_refl _) (by omega)
  ·by_cases e : j = n
   ·subst e
    rw [hget i hij] at e1
    rw [hnew] at e2
    have h1 := ((hin i hij).blk k e1).2.1
    have h2 := (hv.blk k e2).1
    omega
   ·rw [hget i (by omega)] at e1
    rw [hget j (by omega)] at e2
    exact hap i j k hij (by omega) e1 e2
  ·refine (Below.refl lo w).grown hg (by omega) (fun k hk => ?_)
   exact (World.ownsRow.lt hr k (by rw [blk_own]; exact hk)).1
  ·intro j b' u hj e hc
   subst e
   rcases own_form (n := n + 1) hown' with ⟨e, _⟩ | ⟨g', cur, e, _, hrow, _, _, _, _, hcell⟩
   ·cases e
   ·injection e with e
    injection e with e1
    subst e1
    rw [hrow.cell j, hcell j hj] at hc
    injection hc with hc
    by_cases e : j = n
    ·subst e
     rw [hnew] at hc
     exact .inr ⟨rfl, hc.symm⟩
    ·rw [hget j (by omega)] at hc
     rcases own_form hr with ⟨_, h0, _⟩ | ⟨g2, cur2, rfl, _, hrow2, _, _, _, _, hcell2⟩
     ·omega
     ·exact .inl ⟨g2, by omega, rfl, by rw [hrow2.cell j, hcell2 j (by omega), hc]⟩
def Avoid (Z : Nat → Prop) (w : World) (A : Option Addr) (n : Nat) : Prop := ∀ j b v, j < n → A = some ⟨b, 0, none⟩ → w.cell? ⟨b, j, none⟩ = some v → ∀ z, Z z → v.ownBlock ≠ some z
section
variable {Z : Nat → Prop} {w w' : World} {lo hi n c : Nat} {A : Option Addr} {xss : List (List Int)}
theorem Avoid.nil : Avoid Z w none 0 := fun j b v hj _ _ => absurd hj (Nat.not_lt_zero _)
theorem Avoid.keep (h : Avoid Z w A n) (hb : ∀ b j, A = some ⟨b, 0, none⟩ → w'.cell? ⟨b, j, none⟩ = w.cell? ⟨b, j, none⟩) : Avoid Z w' A n := fun j b v hj e hc => h j b v hj e (by rw [← hb b j e]; exact hc)
theorem Avoid.fresh (h : Owns w lo hi A n c xss) (hZ : ∀ z, Z z → hi ≤ z) : Avoid Z w A n := fun j b v hj e hc z hz e2 => by
 obtain ⟨_, ⟨vs, hr, hin, _⟩, _⟩ := h
 rcases own_form hr with ⟨_, h0, _⟩ | ⟨g, cur, e3, _, hrow, _, _, _, _, hcell⟩
 ·omega
 ·rw [e3] at e
  injection e with e
  injection e with e
  subst e
  rw [hrow.cell j, hcell j hj] at hc
  injection hc with hc
  rw [← hc] at e2
  have := ((hin j hj).blk z e2).2.1
  have := hZ z hz
  omega
theorem Avoid.owns {r : Option Nat} (h : Owns w lo hi A n c xss) (ha : Avoid (fun z => r = some z) w A n) (hne : ∀ k, blk A = some k → r ≠ some k) (hg : w.grownBy w' r) : Owns w' lo hi A n c xss := by
 obtain ⟨hl, ⟨vs, hr, hin, hap⟩, top⟩ := h
 refine ⟨hl, ⟨vs, World.ownsRow.kept hr hg ?_, fun j hj => (hin j hj).kept hg ?_, hap⟩, top⟩
 ·rw [blk_own]
  cases e : blk A with
  | none => exact .inl rfl
  | some k => exact .inr (fun h => hne k e h.symm)
 ·rcases own_form hr with ⟨_, h0, _⟩ | ⟨g, cur, e3, _, hrow, _, _, _, _, hcell⟩
  ·omega
  ·cases e : (vs.getD j undef).ownBlock with
   | none => exact .inl rfl
   | some k => exact .inr (fun h => ha j g (vs.getD j undef) hj e3 (by rw [hrow.cell j, hcell j hj]) k h.symm e)
end
end appZ
end
section
namespace genTab
open Go.RowKit base ints sig cursor marks app appAt sym segs segsHelp term sub unifMath genMath genPos appZ
theorem gs_len {sg : List Int} {T T' : Tb} {n : Nat} {u w g : List Int} (h : Gs sg T n u w g T') : T'.length ≤ T.length + u.length := by
 induction h with
 | nil T => simp
 | sym _ _ _ ih => simp only [List.length_cons] at *; omega
 | old hs _ _ _ _ ih =>
  obtain ⟨x, r, e, _⟩ := trm_cons hs
  subst e
  simp only [List.length_append, List.length_cons] at *
  omega
 | new hs _ _ _ _ ih =>
  obtain ⟨x, r, e, _⟩ := trm_cons hs
  subst e
  simp only [List.length_append, List.length_cons, List.length_nil] at *
  omega
theorem gs_glen {sg : List Int} {T T' : Tb} {n : Nat} {u w g : List Int} (h : Gs sg T n u w g T') : g.length ≤ u.length := by
 induction h with
 | nil T => simp
 | sym _ _ _ ih => simp only [List.length_cons] at *; omega
 | old hs _ _ _ _ ih =>
  obtain ⟨x, r, e, _⟩ := trm_cons hs
  subst e
  simp only [List.length_append, List.length_cons] at *
  omega
 | new hs _ _ _ _ ih =>
  obtain ⟨x, r, e, _⟩ := trm_cons hs
  subst e
  simp only [List.length_append, List.length_cons] at *
  omega
section
variable {w w' : World} {lo hi n c : Nat} {A L R : Option Addr} {xss : List (List Int)}
theorem topRow (h : Owns w lo hi L n c xss) : ∀ k, blk L = some k → (∃ cs, Row w k 24 cs) ∧ lo ≤ k ∧ k < w.heap.size := fun k hk => by
 obtain ⟨_, ⟨vs, hr, _, _⟩, _⟩ := h
 rcases own_form hr with ⟨rfl, _⟩ | ⟨g, cur, rfl, hb, hg, _⟩
 ·cases hk
 ·injection hk with hk
  subst hk
  exact ⟨⟨cur, hg⟩, hb, hg.lt⟩
theorem keepTab (h : Owns w lo hi A n c xss) (hL : ∀ k, blk L = some k → ∃ cs, Row w k 24 cs) (hne : ∀ k, blk L = some k → blk A ≠ some k) (hg : w.grownBy w' (blk L)) : Owns w' lo hi A n c xss := by
 obtain ⟨hl, ⟨vs, hr, hin, hap⟩, top⟩ := h
 refine ⟨hl, ⟨vs, World.ownsRow.kept hr hg ?_, fun j hj => (hin j hj).kept hg ?_, hap⟩, top⟩
 ·rw [blk_own]
  cases e : blk L with
  | none => cases e' : blk A with
   | none => exact .inl rfl
   | some k => exact .inr (fun h => by cases h)
  | some k => exact .inr (hne k e)
 ·cases e : blk L with
  | none => cases e' : (vs.getD j undef).ownBlock with
   | none => exact .inl rfl
   | some k => exact .inr (fun h => by cases h)
  | some k =>
   obtain ⟨cs, hc⟩ := hL k e
   exact .inr ((hin j hj).ne hc)
structure Two (w w' : World) (L R : Option Addr) : Prop where
 os : w'.os = w.os
 tape : w'.tape = w.tape
 output : w'.output = w.output
 size : w.heap.size ≤ w'.heap.size
 block : ∀ k, k < w.heap.size → blk L ≠ some k → blk R ≠ some k → w'.heap[k]? = w.heap[k]?
theorem Two.of_below (h : Below w.heap.size w w') : Two w w' L R := ⟨h.os, h.tape, h.output, h.size, fun k hk _ _ => h.block k hk⟩
theorem Two.left (h : w.grownBy w' (blk L)) : Two w w' L R := ⟨h.os, h.tape, h.output, h.size, fun k hk h1 _ => h.block k hk (fun e => h1 e.symm)⟩
theorem Two.right (h : w.grownBy w' (blk R)) : Two w w' L R := ⟨h.os, h.tape, h.output, h.size, fun k hk _ h2 => h.block k hk (fun e => h2 e.symm)⟩
theorem Two.trans {w1 w2 : World} {L1 R1 : Option Addr} (h : Two w w1 L R) (h' : Two w1 w2 L1 R1) (hL : ∀ k, blk L1 = some k → k < w.heap.size → blk L = some k) (hR : ∀ k, blk R1 = some k → k < w.heap.size → blk R = some k) : Two w w2 L R :=
 ⟨h'.os.trans h.os, h'.tape.trans h.tape, h'.output.trans h.output, Nat.le_trans h.size h'.size, fun k hk h1 h2 => (h'.block k (Nat.lt_of_lt_of_le hk h.size) (fun e => h1 (hL k e hk)) (fun e => h2 (hR k e hk))).trans (h.block k hk h1 h2)⟩
theorem Two.below {B : Nat} (h : Two w w' L R) (hL : ∀ k, blk L = some k → B ≤ k) (hR : ∀ k, blk R = some k → B ≤ k) (hB : B ≤ w.heap.size) : Below B w w' :=
 ⟨h.os, h.tape, h.output, h.size, fun k hk => h.block k (by omega) (fun e => by have := hL k e; omega) (fun e => by have := hR k e; omega)⟩
theorem Two.row {g : Nat} {t : TypeId} {cs : Array Value} (h : Two w w' L R) (hr : Row w g t cs) (h1 : blk L ≠ some g) (h2 : blk R ≠ some g) : Row w' g t cs := (h.block g hr.lt h1 h2).trans hr
theorem Two.own {base : Nat} {v : Value} {xs : List Int} (h : Two w w' L R) (ho : Own w base v xs) (hL : ∀ k, blk L = some k → ∃ cs, Row w k 24 cs) (hR : ∀ k, blk R = some k → ∃ cs, Row w k 24 cs) : Own w' base v xs := by
 obtain ⟨h1, h2⟩ := ho
 refine ⟨h1, ?_⟩
 rcases h2 with h2 | ⟨g, cap, cur, e, hb, hg, hn, hm, hs, ht⟩
 ·exact .inl h2
 ·refine .inr ⟨g, cap, cur, e, hb, Two.row h hg (fun e => ?_) (fun e => ?_), hn, hm, hs, ht⟩
  ·obtain ⟨cs, hc⟩ := hL g e
   exact Row.ne_ hg hc (by decide) rfl
  ·obtain ⟨cs, hc⟩ := hR g e
   exact Row.ne_ hg hc (by decide) rfl
structure Tabs (w : World) (lo : Nat) (L : Option Addr) (n lc : Nat) (R : Option Addr) (rc : Nat) (T : Tb) : Prop where
 l : Owns w lo w.heap.size L n lc (T.map Prod.fst)
 r : Owns w lo w.heap.size R n rc (T.map Prod.snd)
 ne : ∀ k, blk L = some k → blk R ≠ some k
variable {lc rc : Nat} {T : Tb}
theorem Tabs.len (h : Tabs w lo L n lc R rc T) : T.length = n := by have := h.l.len; simpa using this
theorem Tabs.next (h : Tabs w lo L n lc R rc T) (hb : Below w.heap.size w w') : Tabs w' lo L n lc R rc T := ⟨(h.l.next hb).wider (Nat.le_refl _) hb.size, (h.r.next hb).wider (Nat.le_refl _) hb.size, h.ne⟩
theorem Tabs.rowL (h : Tabs w lo L n lc R rc T) : ∀ k, blk L = some k → ∃ cs, Row w k 24 cs := fun k hk => (topRow h.l k hk).1
theorem Tabs.rowR (h : Tabs w lo L n lc R rc T) : ∀ k, blk R = some k → ∃ cs, Row w k 24 cs := fun k hk => (topRow h.r k hk).1
theorem Tabs.loL (h : Tabs w lo L n lc R rc T) : ∀ k, blk L = some k → lo ≤ k := fun k hk => (topRow h.l k hk).2.1
theorem Tabs.loR (h : Tabs w lo L n lc R rc T) : ∀ k, blk R = some k → lo ≤ k := fun k hk => (topRow h.r k hk).2.1
end
def AnsGen (sg : List Int) (w : World) (lo : Nat) (L R : Option Addr) (n : Nat) (T : Tb) (u v : List Int) (e : Ending) (w' : World) : Prop :=
 ∃ (g : List Int) (T' : Tb) (O L' R' : Option Addr) (on oc n' lc' rc' : Nat), e = .returned (.tuple #[.slice O on oc, .slice L' n' lc', .slice R' n' rc']) ∧ Own w' w.heap.size (.slice O on oc) g ∧ Gs sg T 1 u v g T' ∧ Tabs w' lo L' n' lc' R' rc' T' ∧ Two w w' L R ∧
  (∀ k, blk L' = some k → k < w.heap.size → blk L = some k) ∧ (∀ k, blk R' = some k → k < w.heap.size → blk R = some k) ∧
  ∀ Z : Nat → Prop, (∀ z, Z z → z < w.heap.size) → Avoid Z w L n → Avoid Z w R n → Avoid Z w' L' n' ∧ Avoid Z w' R' n'
end genTab
end
section
open Go.Lib (hid)
namespace genSpec
open Go.RowKit base ints sig cursor marks app appAt sym segs segsHelp term sub Go.Proofs.Ytgfgaeagbipobaa.look plain same posMath unifMath genMath genPos genTab appZ
set_option maxRecDepth 100000
theorem drewN_below (w : World) (d : Nat) : Below w.heap.size w (w.drewN d) := ⟨rfl, rfl, rfl, Nat.le_refl _, fun _ _ => rfl⟩
structure Gw (w wr : World) (lo : Nat) (A : Option Addr) (n c : Nat) (sg : List Int) (P : Option Addr) (m : Nat) (a : List Int) (Q : Option Addr) (k : Nat) (b : List Int) (L : Option Addr) (ln lc : Nat) (R : Option Addr) (rc : Nat) (T : Tb) : Prop where
 r0 : Row wr w.heap.size 26 #[.slice A n c]
 s : Seg wr lo A n sg
 pa : Seg wr lo P m a
 qb : Seg wr lo Q k b
 t : Tabs wr lo L ln lc R rc T
 le : lo ≤ w.heap.size
 bel : Below w.heap.size w wr
section
variable {w wr w' : World} {lo : Nat} {A : Option Addr} {n c : Nat} {sg : List Int} {P : Option Addr} {m : Nat} {a : List Int} {Q : Option Addr} {k : Nat} {b : List Int} {L : Option Addr} {ln lc : Nat} {R : Option Addr} {rc : Nat} {T : Tb}
theorem Gw.next (h : Gw w wr lo A n c sg P m a Q k b L ln lc R rc T) (hb : Below wr.heap.size wr w') : Gw w w' lo A n c sg P m a Q k b L ln lc R rc T :=
 have hw : Below w.heap.size wr w' := hb.mono h.bel.size
 have hl : Below lo wr w' := hw.mono h.le
 ⟨h.r0.next hb, h.s.below hl, h.pa.below hl, h.qb.below hl, h.t.next hb, h.le, h.bel.trans hw⟩
theorem Gw.c0 (h : Gw w wr lo A n c sg P m a Q k b L ln lc R rc T) : wr.cell? ⟨w.heap.size, 0, none⟩ = some (.slice A n c) := h.r0.cell 0
theorem Gw.low (h : Gw w wr lo A n c sg P m a Q k b L ln lc R rc T) : lo ≤ wr.heap.size := Nat.le_trans h.le h.bel.size
theorem Gw.start (h : Seg w lo A n sg) (hp : Seg w lo P m a) (hq : Seg w lo Q k b) (ht : Tabs w lo L ln lc R rc T) (hl : lo ≤ w.heap.size) : Gw w (w.alloc (.cells #[.slice A n c] 26)) lo A n c sg P m a Q k b L ln lc R rc T := by
 have b0 : Below w.heap.size w (w.alloc (.cells #[.slice A n c] 26)) := (Below.refl _ _).alloc (Nat.le_refl _) _
 exact ⟨Row.new _ _ _, h.below (b0.mono hl), hp.below (b0.mono hl), hq.below (b0.mono hl), ht.next b0, hl, b0⟩
end
theorem one_own (w : World) (base : Nat) (x : Int) (hb : base ≤ w.heap.size) : Own (w.alloc (.cells #[.int .i64 x] 2)) base (.slice (some ⟨w.heap.size, 0, none⟩) 1 1) [x] :=
 Own.of_row (Row.new _ _ _) rfl rfl (Nat.le_refl _) (by omega) hb (fun j hj => by
  obtain rfl : j = 0 := by omega
  rfl)
theorem cell2 (w : World) (o : Obj) (v : Value) (t : TypeId) : ((w.alloc o).alloc (.cells #[v] t)).cell? ⟨w.heap.size + 1, 0, none⟩ = some v := by simp
theorem tb_at {T : Tb} {i : Nat} {u v : List Int} (hi : i < T.length) (h1 : (T.map Prod.fst).getD i [] = u) (h2 : (T.map Prod.snd).getD i [] = v) : T[i]? = some (u, v) := by
 simp [List.getD, hi] at h1 h2
 rw [List.getElem?_eq_getElem hi, ← h1, ← h2]
theorem tb_not {T : Tb} {i : Nat} {u v : List Int} (hi : i < T.length) (h : ¬ ((T.map Prod.fst).getD i [] = u ∧ (T.map Prod.snd).getD i [] = v)) : T[i]? ≠ some (u, v) := by
 intro e
 refine h ?_
 rw [List.getElem?_eq_getElem hi] at e
 injection e with e
 simp [List.getD, hi, e]
theorem tb_mem {T : Tb} {u v : List Int} (h : ∀ j, j < T.length → T[j]? ≠ some (u, v)) : (u, v) ∉ T := by
 intro hm
 obtain ⟨j, hj, e⟩ := List.getElem_of_mem hm
 exact h j hj (by rw [List.getElem?_eq_getElem hj, e])
theorem tb_len {T : Tb} {B i : Nat} (h : ∀ x ∈ T, x.1.length ≤ B ∧ x.2.length ≤ B) : ((T.map Prod.fst).getD i []).length ≤ B ∧ ((T.map Prod.snd).getD i []).length ≤ B := by
 by_cases hi : i < T.length
 ·have := h T[i] (List.getElem_mem hi)
  simpa [List.getD, hi] using this
 ·simp [List.getD, hi]
section
variable {w wr w' w6 w7 : World} {lo : Nat} {A : Option Addr} {n c : Nat} {sg : List Int} {P : Option Addr} {m : Nat} {a : List Int} {Q : Option Addr} {k : Nat} {b : List Int} {L : Option Addr} {ln lc : Nat} {R : Option Addr} {rc : Nat} {T : Tb} {u v : List Int}
theorem two_alloc (wr : World) (o1 o2 : Obj) : Below wr.heap.size wr ((wr.alloc o1).alloc o2) := ((Below.refl _ _).alloc (Nat.le_refl _) _).alloc (by simp) _
theorem st1 (G : Gw w wr lo A n c sg P m a Q k b L ln lc R rc T) (T0 : Tabs w lo L ln lc R rc T) (o1 o2 : Obj) : Owns ((wr.alloc o1).alloc o2) lo w.heap.size L ln lc (T.map Prod.fst) ∧ Owns ((wr.alloc o1).alloc o2) lo w.heap.size R ln rc (T.map Prod.snd) :=
 have bb := next_trans G.bel (two_alloc wr o1 o2)
 ⟨T0.l.next bb, T0.r.next bb⟩
theorem st2 {B xn xc : Nat} {X : Option Addr} (ox : Own wr B (.slice X xn xc) u) (hB : w.heap.size ≤ B) (o1 o2 : Obj) : Inn ((wr.alloc o1).alloc o2) w.heap.size ((wr.alloc o1).alloc o2).heap.size (.slice X xn xc) u :=
 ((inn_own ox).next (two_alloc wr o1 o2)).wider hB (two_alloc wr o1 o2).size
theorem st3 {wB : World} (hL : Owns wB lo w.heap.size L ln lc (T.map Prod.fst)) (hR : Owns wB lo w.heap.size R ln rc (T.map Prod.snd)) (T0 : Tabs w lo L ln lc R rc T) (hg : wB.grownBy w6 (blk L)) (o : Obj) : Owns (w6.alloc o) lo w.heap.size R ln rc (T.map Prod.snd) :=
 (keepTab hR (fun k hk => (topRow hL k hk).1) T0.ne hg).next ((Below.refl _ _).alloc (Nat.le_refl _) _)
theorem st4 {wB : World} {Y : Option Addr} {yn yc : Nat} (hL : Owns wB lo w.heap.size L ln lc (T.map Prod.fst)) (hy : Inn wB w.heap.size wB.heap.size (.slice Y yn yc) v) (hg : wB.grownBy w6 (blk L)) (o : Obj) : Inn (w6.alloc o) w.heap.size (w6.alloc o).heap.size (.slice Y yn yc) v := by
 have h1 : Inn w6 w.heap.size wB.heap.size (.slice Y yn yc) v := by
  refine hy.kept hg ?_
  cases e : blk L with
  | none => cases e' : (Value.slice Y yn yc).ownBlock with
   | none => exact .inl rfl
   | some k => exact .inr (fun h => by cases h)
  | some k =>
   obtain ⟨cs, hc⟩ := (topRow hL k e).1
   exact .inr (hy.ne hc)
 have b0 : Below w6.heap.size w6 (w6.alloc o) := (Below.refl _ _).alloc (Nat.le_refl _) _
 exact (h1.next b0).wider (Nat.le_refl _) (Nat.le_trans hg.size b0.size)
theorem avPush {Z : Nat → Prop} {w0 wB : World} {L L' : Option Addr} {nn hi : Nat} {x : Value} {xs : List Int} (hZ : ∀ z, Z z → z < w0.heap.size) (bel : Below w0.heap.size w0 wB) (topL : ∀ k, blk L = some k → k < w0.heap.size) (h : Avoid Z w0 L nn) (hv : Inn wB w0.heap.size hi x xs)
  (hcell : ∀ j b' u, j < nn + 1 → L' = some ⟨b', 0, none⟩ → w6.cell? ⟨b', j, none⟩ = some u → (∃ b, j < nn ∧ L = some ⟨b, 0, none⟩ ∧ wB.cell? ⟨b, j, none⟩ = some u) ∨ (j = nn ∧ u = x)) : Avoid Z w6 L' (nn + 1) := by
 intro j b' u hj e hc z hz
 rcases hcell j b' u hj e hc with ⟨b, hj', e2, hc2⟩ | ⟨_, rfl⟩
 ·refine h j b u hj' e2 ?_ z hz
  rw [← hc2]
  exact (bel.cell (p := ⟨b, j, none⟩) (topL b (by rw [e2]; rfl))).symm
 ·intro e3
  have := (hv.blk z e3).1
  have := hZ z hz
  omega
theorem avSame {Z : Nat → Prop} {nn : Nat} {L : Option Addr} (bel : Below w.heap.size w w') (topL : ∀ k, blk L = some k → k < w.heap.size) (h : Avoid Z w L nn) : Avoid Z w' L nn :=
 h.keep fun b j e => bel.cell (p := ⟨b, j, none⟩) (topL b (by rw [e]; rfl))
theorem st5 {L' R' : Option Addr} {lc' rc' : Nat} (x : Int) (o2 o3 : Obj) (G : Gw w wr lo A n c sg P m a Q k b L ln lc R rc T) (T0 : Tabs w lo L ln lc R rc T) (hgs : Gs sg T 1 u v [x] (T ++ [(u, v)]))
  (hg6 : ((wr.alloc (.cells #[.int .i64 x] 2)).alloc o2).grownBy w6 (blk L)) (ho6 : Owns w6 lo w6.heap.size L' (ln + 1) lc' (T.map Prod.fst ++ [u])) (hat6 : blk L' = blk L ∨ blk L' = some ((wr.alloc (.cells #[.int .i64 x] 2)).alloc o2).heap.size)
  (hg7 : (w6.alloc o3).grownBy w7 (blk R)) (ho7 : Owns w7 lo w7.heap.size R' (ln + 1) rc' (T.map Prod.snd ++ [v])) (hat7 : blk R' = blk R ∨ blk R' = some (w6.alloc o3).heap.size) {vX vY : Value}
  (hX : Inn ((wr.alloc (.cells #[.int .i64 x] 2)).alloc o2) w.heap.size ((wr.alloc (.cells #[.int .i64 x] 2)).alloc o2).heap.size vX u) (hY : Inn (w6.alloc o3) w.heap.size (w6.alloc o3).heap.size vY v)
  (hc6 : ∀ j b' z, j < ln + 1 → L' = some ⟨b', 0, none⟩ → w6.cell? ⟨b', j, none⟩ = some z → (∃ b, j < ln ∧ L = some ⟨b, 0, none⟩ ∧ ((wr.alloc (.cells #[.int .i64 x] 2)).alloc o2).cell? ⟨b, j, none⟩ = some z) ∨ (j = ln ∧ z = vX))
  (hc7 : ∀ j b' z, j < ln + 1 → R' = some ⟨b', 0, none⟩ → w7.cell? ⟨b', j, none⟩ = some z → (∃ b, j < ln ∧ R = some ⟨b, 0, none⟩ ∧ (w6.alloc o3).cell? ⟨b, j, none⟩ = some z) ∨ (j = ln ∧ z = vY)) :
  AnsGen sg w lo L R ln T u v (.returned (.tuple #[.slice (some ⟨wr.heap.size, 0, none⟩) 1 1, .slice L' (ln + 1) lc', .slice R' (ln + 1) rc'])) w7 := by
 have hz := G.bel.size
 have tL : ∀ k, blk L = some k → k < w.heap.size := T0.l.top
 have tR : ∀ k, blk R = some k → k < w.heap.size := T0.r.top
 obtain ⟨k1, k2⟩ := st1 G T0 (.cells #[.int .i64 x] 2) o2
 have k3 := st3 k1 k2 T0 hg6 o3
 have z1 : ((wr.alloc (.cells #[.int .i64 x] 2)).alloc o2).heap.size = wr.heap.size + 1 + 1 := by simp
 have z6 := hg6.size
 have b6 : Below w6.heap.size w6 (w6.alloc o3) := (Below.refl _ _).alloc (Nat.le_refl _) _
 have z7 := hg7.size
 have zb := b6.size
 have hne : ∀ k, blk R = some k → blk L' ≠ some k := fun k hk e => by
  rcases hat6 with h | h
  ·rw [h] at e; exact T0.ne k e hk
  ·rw [h] at e
   injection e with e
   have := tR k hk
   omega
 have o6 := (ho6.next b6).wider (Nat.le_refl lo) zb
 have o7 : Owns w7 lo w7.heap.size L' (ln + 1) lc' (T.map Prod.fst ++ [u]) := (keepTab o6 (fun k hk => (topRow k3 k hk).1) hne hg7).wider (Nat.le_refl lo) z7
 have hout : Own w7 w.heap.size (.slice (some ⟨wr.heap.size, 0, none⟩) 1 1) [x] := by
  have e0 := one_own wr w.heap.size x hz
  have e1 : Own ((wr.alloc (.cells #[.int .i64 x] 2)).alloc o2) w.heap.size (.slice (some ⟨wr.heap.size, 0, none⟩) 1 1) [x] := Own.next e0 ((Below.refl _ _).alloc (Nat.le_refl _) _)
  have e2 := Own.far e1 hg6 tL
  exact Own.far (Own.next e2 b6) hg7 tR
 have two0 : Two w ((wr.alloc (.cells #[.int .i64 x] 2)).alloc o2) L R := Two.of_below (next_trans G.bel (two_alloc _ _ _))
 have two1 : Two w w6 L R := two0.trans (Two.left (R := R) hg6) (fun k h _ => h) (fun k h _ => h)
 have two2 : Two w (w6.alloc o3) L R := two1.trans (L1 := L) (R1 := R) (Two.of_below b6) (fun k h _ => h) (fun k h _ => h)
 have two3 : Two w w7 L R := two2.trans (L1 := L) (R1 := R) (Two.right hg7) (fun k h _ => h) (fun k h _ => h)
 refine ⟨[x], T ++ [(u, v)], _, L', R', 1, 1, ln + 1, lc', rc', rfl, hout, hgs, ⟨by simpa using o7, by simpa using ho7, fun k hk => ?_⟩, two3, fun k hk hlt => ?_, fun k hk hlt => ?_, fun Z hZ a1 a2 => ⟨?_, ?_⟩⟩
 ·rcases hat7 with e | e
  ·rw [e]; exact fun h => hne k h hk
  ·rw [e]
   intro h
   injection h with h
   have := ho6.top k hk
   omega
 ·rcases hat6 with e | e
  ·rw [← e]; exact hk
  ·rw [e] at hk; injection hk with hk; omega
 ·rcases hat7 with e | e
  ·rw [← e]; exact hk
  ·rw [e] at hk; injection hk with hk; omega
 ·refine (avPush hZ (next_trans G.bel (two_alloc _ _ _)) tL a1 hX hc6).keep fun b j e => ?_
  have hb := ho6.top b (by rw [e]; rfl)
  have h1 : (w6.alloc o3).cell? ⟨b, j, none⟩ = w6.cell? ⟨b, j, none⟩ := b6.cell (p := ⟨b, j, none⟩) hb
  rw [← h1]
  exact World.cell?_of_block (hg7.block b (by omega) (fun e2 => hne b e2.symm (by rw [e]; rfl)))
 ·have bR : Avoid Z (w6.alloc o3) R ln := by
   refine a2.keep fun b j e => ?_
   have hb := tR b (by rw [e]; rfl)
   have h0 : ((wr.alloc (.cells #[.int .i64 x] 2)).alloc o2).cell? ⟨b, j, none⟩ = w.cell? ⟨b, j, none⟩ := (next_trans G.bel (two_alloc _ _ _)).cell (p := ⟨b, j, none⟩) hb
   have h1 : (w6.alloc o3).cell? ⟨b, j, none⟩ = w6.cell? ⟨b, j, none⟩ := b6.cell (p := ⟨b, j, none⟩) (show b < w6.heap.size by omega)
   rw [h1, ← h0]
   exact World.cell?_of_block (hg6.block b (by omega) (fun e2 => T0.ne b e2.symm (by rw [e]; rfl)))
  intro j b' z hj e hc y hy
  rcases hc7 j b' z hj e hc with ⟨b, hj', e2, hc2⟩ | ⟨_, rfl⟩
  ·exact bR j b z hj' e2 hc2 y hy
  ·intro e3
   have := (hY.blk y e3).1
   have := hZ y hy
   omega
end
set_option maxHeartbeats 4000000 in
theorem apart (A P Q L R : Option Addr) (n c m mc k kc ln lc rc lo p q j j' : Nat) (sg a b : List Int) (T : Tb) (w : World) (h : Seg w lo A n sg) (hp : Seg w lo P m a) (hq : Seg w lo Q k b) (ht : Tabs w lo L ln lc R rc T) (hlo : lo ≤ w.heap.size) (hn : n ≤ 1048576) (hm : m ≤ 1048576) (hk : k ≤ 1048576) (hcm : m ≤ mc ∧ mc ≤ 9223372036854775807) (hck : k ≤ kc ∧ kc ≤ 9223372036854775807) (hln : ln ≤ 1048576)
  (hs : Arities sg) (hj : scan sg 1 (a.drop p) = some j) (hj' : scan sg 1 (b.drop q) = some j') (hT : ∀ x ∈ T, x.1.length ≤ 1048576 ∧ x.2.length ≤ 1048576) (hnot : ¬ (0 ≤ a.getD p 0 ∧ a.getD p 0 = b.getD q 0)) :
  Calls Try.prog 96 #[.agg #[.slice A n c], .slice P m mc, .int .i64 (p : Int), .slice Q k kc, .int .i64 (q : Int), .slice L ln lc, .slice R ln rc] w (AnsGen sg w lo L R ln T (subL sg a p) (subL sg b q)) := by
 have la := hp.1
 have lb := hq.1
 obtain ⟨_, rfl, hpm, _, _⟩ := scan_args hj
 obtain ⟨_, rfl, hqk, _, _⟩ := scan_args hj'
 have s2 := scan_le hj
 have s3 := scan_le hj'
 rw [List.length_drop] at s2 s3
 rw [la] at hpm s2
 rw [lb] at hqk s3
 have GS := hid (fun i (e : T[i]? = some (subL sg a p, subL sg b q)) => gp_old hj hj' hnot e)
 have GN := hid (fun (e : (subL sg a p, subL sg b q) ∉ T) => gp_new hj hj' hnot e)
 have lu : (subL sg a p).length ≤ 1048576 := by unfold subL; rw [List.length_take, List.length_drop]; omega
 have lv : (subL sg b q).length ≤ 1048576 := by unfold subL; rw [List.length_take, List.length_drop]; omega
 obtain ⟨W, hW⟩ : ∃ W, W = w.alloc (.cells #[.slice A n c] 26) := ⟨_, rfl⟩
 have G0 : Gw w W lo A n c sg P m a Q k b L ln lc R rc T := by rw [hW]; exact Gw.start h hp hq ht hlo
 have T0 := hid ht
 have LP := hid (fun w' (G : Gw w w' lo A n c sg P m a Q k b L ln lc R rc T) => l1Sub A P n c m mc sg a p _ w' (G.s.more G.low) (G.pa.more G.low) hn hm hcm.1 hcm.2 hs hpm hj (by omega) (by omega))
 have LQ := hid (fun w' (G : Gw w w' lo A n c sg P m a Q k b L ln lc R rc T) => l1Sub A Q n c k kc sg b q _ w' (G.s.more G.low) (G.qb.more G.low) hn hk hck.1 hck.2 hs hqk hj' (by omega) (by omega))
 obtain ⟨b1, o1, x, rfl, hb1, hx, ex⟩ := G0.pa.spot hpm
 obtain ⟨b2, o2, y, rfl, hb2, hy, ey⟩ := G0.qb.spot hqk
 rw [ex.out, ey.out] at hnot
 have i0 : (0 : Int) ≤ (p : Int) := by omega
 have i1 : (p : Int) < (m : Int) := by omega
 have j0 : (0 : Int) ≤ (q : Int) := by omega
 have j1 : (q : Int) < (k : Int) := by omega
 have HW := hid hW
 have HT := hid hT
 have HLT := hid ht.len
 generalize hu : subL sg a p = u at *
 generalize hv : subL sg b q = v at *
 clear hW h hp hq ht ex ey hT hj hj' s2 s3 hu hv la lb hs
 by_cases h0 : 0 ≤ x
 ·have hxy : (x == y) = false := by simp; exact fun e => hnot ⟨h0, e⟩
  clear hnot
  go_enter Try.func96, Try.ntmps96
  go_wp2_with fail
  rw [← HW.out]
  go_quiet (fail)
  have G1 := G0.next (drewN_below W nq)
  have G1w := G1.bel.size
  clear G0 hx hy HW
  generalize W.drewN nq = w1 at *
  have G1z := hid G1w
  clear G1w
  have c0 := G1.c0
  go_wp2_with fail
  refine (LP.out w1 G1).mono ?_
  rintro e w2 ⟨X, xn, xc, rfl, ox, bb⟩
  have G2 := G1.next bb
  clear c0 G1
  have c0 := G2.c0
  go_wp2_with fail
  refine (LQ.out w2 G2).mono ?_
  rintro e w3 ⟨Y, yn, yc, rfl, oy, bb3⟩
  have G3 := G2.next bb3
  have ox3 := Own.next ox bb3
  have hxl := hid (Own.len ox)
  have hyl := hid (Own.len oy)
  have z12 := hid bb.size
  have z23 := hid bb3.size
  clear c0 G2 bb bb3 ox LP LQ
  go_wp2_with fail
  go_loopw [26] (fun i wr => ∃ i' d : Nat, i' ≤ ln ∧ i = .int .i64 i' ∧ wr = w3.drewN d ∧ ∀ j, j < i' → T[j]? ≠ some (u, v)) (fun i _ => ln - (intOf i).toNat)
  case atStart => exact ⟨0, 0, Nat.zero_le _, rfl, rfl, fun j hj => absurd hj (Nat.not_lt_zero _)⟩
  case round =>
   obtain ⟨i, d, hi, rfl, hwr, hno⟩ := hrel
   have HNO := hid hno
   clear hno
   have bd : Below w3.heap.size w3 wr := by rw [hwr]; exact drewN_below w3 d
   have G4 := G3.next bd
   have ox4 := Own.next ox3 bd
   have oy4 := Own.next oy bd
   have HWR := hid hwr
   have z34 := hid bd.size
   clear G3 ox3 oy hwr bd
   by_cases hlt : i < ln
   ·have i3 : (0 : Int) ≤ (i : Int) := by omega
    have i4 : (i : Int) < (ln : Int) := by omega
    obtain ⟨b3, o3, A1, n1, c1, hLe, hb3, hc3, hs3, hcap3⟩ := G4.t.l.segs.spot hlt
    obtain ⟨b4, o4, A2, n2, c2, hRe, hb4, hc4, hs4, hcap4⟩ := G4.t.r.segs.spot hlt
    subst hLe hRe
    have L1 := hid (specSame A1 X n1 xn c1 xc _ u wr hs3 (Own.seg ox4) (by rw [← hs3.1]; exact (tb_len HT.out).1) (by rw [hxl.out]; exact lu))
    have L2 := hid (fun d5 => specSame A2 Y n2 yn c2 yc _ v (wr.drewN d5) (hs4.drewN d5) (Own.seg (Own.drewN oy4 d5)) (by rw [← hs4.1]; exact (tb_len HT.out).2) (by rw [hyl.out]; exact lv))
    have G5 := hid (fun d => G4.next (drewN_below wr d))
    have SR := hid (fun d' (hnx : T[i]? ≠ some (u, v)) => (show ∃ i' d : Nat, i' ≤ ln ∧ (.int .i64 ((i : Int) + 1) : Value) = .int .i64 i' ∧ wr.drewN d' = w3.drewN d ∧ ∀ j, j < i' → T[j]? ≠ some (u, v) from ⟨i + 1, d + d', hlt, by simp, by rw [HWR.out, World.drewN_drewN], fun j hj => by
     by_cases e : j = i
     ·rw [e]; exact hnx
     ·exact HNO.out j (by omega)⟩))
    have hiT : i < T.length := by rw [HLT.out]; exact hlt
    clear hs3 hs4 ox4 oy4 hcap3 hcap4 G4
    go_wp2_with fail
    refine L1.out.mono ?_
    rintro e w5 ⟨he, d5, rfl⟩
    clear L1
    by_cases e1 : (T.map Prod.fst).getD i [] = u
    ·rw [decide_eq_true e1] at he
     subst he
     have hc5 : (wr.drewN d5).cell? ⟨b4, o4 + i, none⟩ = some (.slice A2 n2 c2) := hc4
     have L2 := hid (L2.out d5)
     clear hc3 hc4
     go_wp2_with fail
     refine L2.out.mono ?_
     rintro e w6 ⟨he, d6, rfl⟩
     clear L2
     rw [World.drewN_drewN]
     by_cases e2 : (T.map Prod.snd).getD i [] = v
     ·rw [decide_eq_true e2] at he
      subst he
      have G6 := G5.out (d5 + d6)
      have F := hid (show AnsGen sg w lo (some ⟨b3, o3, none⟩) (some ⟨b4, o4, none⟩) ln T u v (.returned (.tuple #[.slice (some ⟨(wr.drewN (d5 + d6)).heap.size, 0, none⟩) 1 1, .slice (some ⟨b3, o3, none⟩) ln lc, .slice (some ⟨b4, o4, none⟩) ln rc])) ((wr.drewN (d5 + d6)).alloc (.cells #[.int .i64 (-1 - (i : Int))] 2)) from
       ⟨[-1 - (i : Int)], T, _, _, _, 1, 1, ln, lc, rc, rfl, one_own _ _ _ G6.bel.size, GS.out i (tb_at hiT e1 e2), G6.t.next ((Below.refl _ _).alloc (Nat.le_refl _) _), Two.of_below (next_trans G6.bel ((Below.refl _ _).alloc (Nat.le_refl _) _)), fun k h _ => h, fun k h _ => h, fun Z hZ a1 a2 => ⟨avSame (next_trans G6.bel ((Below.refl _ _).alloc (Nat.le_refl _) _)) T0.out.l.top a1, avSame (next_trans G6.bel ((Below.refl _ _).alloc (Nat.le_refl _) _)) T0.out.r.top a2⟩⟩)
      clear G6 G5 SR hc5
      generalize wr.drewN (d5 + d6) = w7 at *
      go_wp2
      go_ret3
      exact F.out
     ·rw [decide_eq_false e2] at he
      subst he
      have S := hid (SR.out (d5 + d6) (tb_not hiT (fun h => e2 h.2)))
      clear SR G5 hc5
      generalize wr.drewN (d5 + d6) = w7 at *
      go_wp2
      go_roundw
      case rel => exact S.out
      case measure => simp [intOf]; omega
    ·rw [decide_eq_false e1] at he
     subst he
     have S := hid (SR.out d5 (tb_not hiT (fun h => e1 h.1)))
     clear SR G5 L2 hc3 hc4
     generalize wr.drewN d5 = w7 at *
     go_wp2
     go_roundw
     case rel => exact S.out
     case measure => simp [intOf]; omega
   ·obtain rfl : i = ln := by omega
    have hgs := GN.out (tb_mem (by rw [HLT.out]; exact HNO.out))
    rw [HLT.out] at hgs
    have z0 := G1z.out
    have K := hid (st1 G4 T0.out)
    have KX := hid (st2 (w := w) ox4 (by omega))
    have KY := hid (st2 (w := w) oy4 (by have := z12.out; omega))
    have K3 := hid (fun (o1 o2 o3 : Obj) w6 (hg : World.grownBy ((wr.alloc o1).alloc o2) w6 (blk L)) => st3 (K.out o1 o2).1 (K.out o1 o2).2 T0.out hg o3)
    have K4 := hid (fun (o1 o2 o3 : Obj) w6 (hg : World.grownBy ((wr.alloc o1).alloc o2) w6 (blk L)) => st4 (K.out o1 o2).1 (KY.out o1 o2) hg o3)
    have hzr := G4.bel.size
    have F := hid (fun (o2 o3 : Obj) (L' R' : Option Addr) (lc' rc' : Nat) (w6 w7 : World) (hg6 : World.grownBy ((wr.alloc (.cells #[.int .i64 (-1 - (i : Int))] 2)).alloc o2) w6 (blk L)) ho6 hat6 hg7 ho7 hat7 hX hY hc6 hc7 => st5 (w6 := w6) (w7 := w7) (L' := L') (R' := R') (lc' := lc') (rc' := rc') (-1 - (i : Int)) o2 o3 G4 T0.out hgs hg6 ho6 hat6 hg7 ho7 hat7 (vX := .slice X xn xc) (vY := .slice Y yn yc) hX hY hc6 hc7)
    clear hgs G4 ox4 oy4 GS GN HNO
    go_wp2_with (at_builtin; go_must (refine appS1Z rfl _ _ rfl lo w.heap.size L i lc (T.map Prod.fst) rfl (K.out _ _).1 _ 1 (.slice X xn xc) u rfl (cell2 _ _ _ _) (KX.out _ _) (by omega) (by omega) (by simp; omega) ?_; intro L' lc' w6 ho6 hg6 hat6 b6 hc6; refine (?_ : Hid _).out))
    refine hid ?_
    go_wp2_with (at_builtin; go_must (refine appS1Z rfl _ _ rfl lo w.heap.size R i rc (T.map Prod.snd) rfl (K3.out _ _ _ _ hg6) _ 1 (.slice Y yn yc) v rfl ((Row.new _ _ _).cell 0) (K4.out _ _ _ _ hg6) (by omega) (by omega) (by have := hg6.size; simp at this ⊢; omega) ?_; intro R' rc' w7 ho7 hg7 hat7 b7 hc7))
    go_wp2
    go_ret3
    exact F.out _ _ _ _ _ _ _ _ hg6 ho6 hat6 hg7 ho7 hat7 (KX.out _ _) (K4.out _ _ _ _ hg6) hc6 hc7
 ·have hxd : decide (0 ≤ x) = false := decide_eq_false h0
  go_enter Try.func96, Try.ntmps96
  go_wp2_with fail
  rw [← HW.out]
  go_quiet (fail)
  have G1 := G0.next (drewN_below W nq)
  have G1w := G1.bel.size
  clear G0 hx hy HW
  generalize W.drewN nq = w1 at *
  have G1z := hid G1w
  clear G1w
  have c0 := G1.c0
  go_wp2_with fail
  refine (LP.out w1 G1).mono ?_
  rintro e w2 ⟨X, xn, xc, rfl, ox, bb⟩
  have G2 := G1.next bb
  clear c0 G1
  have c0 := G2.c0
  go_wp2_with fail
  refine (LQ.out w2 G2).mono ?_
  rintro e w3 ⟨Y, yn, yc, rfl, oy, bb3⟩
  have G3 := G2.next bb3
  have ox3 := Own.next ox bb3
  have hxl := hid (Own.len ox)
  have hyl := hid (Own.len oy)
  have z12 := hid bb.size
  have z23 := hid bb3.size
  clear c0 G2 bb bb3 ox LP LQ
  go_wp2_with fail
  go_loopw [26] (fun i wr => ∃ i' d : Nat, i' ≤ ln ∧ i = .int .i64 i' ∧ wr = w3.drewN d ∧ ∀ j, j < i' → T[j]? ≠ some (u, v)) (fun i _ => ln - (intOf i).toNat)
  case atStart => exact ⟨0, 0, Nat.zero_le _, rfl, rfl, fun j hj => absurd hj (Nat.not_lt_zero _)⟩
  case round =>
   obtain ⟨i, d, hi, rfl, hwr, hno⟩ := hrel
   have HNO := hid hno
   clear hno
   have bd : Below w3.heap.size w3 wr := by rw [hwr]; exact drewN_below w3 d
   have G4 := G3.next bd
   have ox4 := Own.next ox3 bd
   have oy4 := Own.next oy bd
   have HWR := hid hwr
   have z34 := hid bd.size
   clear G3 ox3 oy hwr bd
   by_cases hlt : i < ln
   ·have i3 : (0 : Int) ≤ (i : Int) := by omega
    have i4 : (i : Int) < (ln : Int) := by omega
    obtain ⟨b3, o3, A1, n1, c1, hLe, hb3, hc3, hs3, hcap3⟩ := G4.t.l.segs.spot hlt
    obtain ⟨b4, o4, A2, n2, c2, hRe, hb4, hc4, hs4, hcap4⟩ := G4.t.r.segs.spot hlt
    subst hLe hRe
    have L1 := hid (specSame A1 X n1 xn c1 xc _ u wr hs3 (Own.seg ox4) (by rw [← hs3.1]; exact (tb_len HT.out).1) (by rw [hxl.out]; exact lu))
    have L2 := hid (fun d5 => specSame A2 Y n2 yn c2 yc _ v (wr.drewN d5) (hs4.drewN d5) (Own.seg (Own.drewN oy4 d5)) (by rw [← hs4.1]; exact (tb_len HT.out).2) (by rw [hyl.out]; exact lv))
    have G5 := hid (fun d => G4.next (drewN_below wr d))
    have SR := hid (fun d' (hnx : T[i]? ≠ some (u, v)) => (show ∃ i' d : Nat, i' ≤ ln ∧ (.int .i64 ((i : Int) + 1) : Value) = .int .i64 i' ∧ wr.drewN d' = w3.drewN d ∧ ∀ j, j < i' → T[j]? ≠ some (u, v) from ⟨i + 1, d + d', hlt, by simp, by rw [HWR.out, World.drewN_drewN], fun j hj => by
     by_cases e : j = i
     ·rw [e]; exact hnx
     ·exact HNO.out j (by omega)⟩))
    have hiT : i < T.length := by rw [HLT.out]; exact hlt
    clear hs3 hs4 ox4 oy4 hcap3 hcap4 G4
    go_wp2_with fail
    refine L1.out.mono ?_
    rintro e w5 ⟨he, d5, rfl⟩
    clear L1
    by_cases e1 : (T.map Prod.fst).getD i [] = u
    ·rw [decide_eq_true e1] at he
     subst he
     have hc5 : (wr.drewN d5).cell? ⟨b4, o4 + i, none⟩ = some (.slice A2 n2 c2) := hc4
     have L2 := hid (L2.out d5)
     clear hc3 hc4
     go_wp2_with fail
     refine L2.out.mono ?_
     rintro e w6 ⟨he, d6, rfl⟩
     clear L2
     rw [World.drewN_drewN]
     by_cases e2 : (T.map Prod.snd).getD i [] = v
     ·rw [decide_eq_true e2] at he
      subst he
      have G6 := G5.out (d5 + d6)
      have F := hid (show AnsGen sg w lo (some ⟨b3, o3, none⟩) (some ⟨b4, o4, none⟩) ln T u v (.returned (.tuple #[.slice (some ⟨(wr.drewN (d5 + d6)).heap.size, 0, none⟩) 1 1, .slice (some ⟨b3, o3, none⟩) ln lc, .slice (some ⟨b4, o4, none⟩) ln rc])) ((wr.drewN (d5 + d6)).alloc (.cells #[.int .i64 (-1 - (i : Int))] 2)) from
       ⟨[-1 - (i : Int)], T, _, _, _, 1, 1, ln, lc, rc, rfl, one_own _ _ _ G6.bel.size, GS.out i (tb_at hiT e1 e2), G6.t.next ((Below.refl _ _).alloc (Nat.le_refl _) _), Two.of_below (next_trans G6.bel ((Below.refl _ _).alloc (Nat.le_refl _) _)), fun k h _ => h, fun k h _ => h, fun Z hZ a1 a2 => ⟨avSame (next_trans G6.bel ((Below.refl _ _).alloc (Nat.le_refl _) _)) T0.out.l.top a1, avSame (next_trans G6.bel ((Below.refl _ _).alloc (Nat.le_refl _) _)) T0.out.r.top a2⟩⟩)
      clear G6 G5 SR hc5
      generalize wr.drewN (d5 + d6) = w7 at *
      go_wp2
      go_ret3
      exact F.out
     ·rw [decide_eq_false e2] at he
      subst he
      have S := hid (SR.out (d5 + d6) (tb_not hiT (fun h => e2 h.2)))
      clear SR G5 hc5
      generalize wr.drewN (d5 + d6) = w7 at *
      go_wp2
      go_roundw
      case rel => exact S.out
      case measure => simp [intOf]; omega
    ·rw [decide_eq_false e1] at he
     subst he
     have S := hid (SR.out d5 (tb_not hiT (fun h => e1 h.1)))
     clear SR G5 L2 hc3 hc4
     generalize wr.drewN d5 = w7 at *
     go_wp2
     go_roundw
     case rel => exact S.out
     case measure => simp [intOf]; omega
   ·obtain rfl : i = ln := by omega
    have hgs := GN.out (tb_mem (by rw [HLT.out]; exact HNO.out))
    rw [HLT.out] at hgs
    have z0 := G1z.out
    have K := hid (st1 G4 T0.out)
    have KX := hid (st2 (w := w) ox4 (by omega))
    have KY := hid (st2 (w := w) oy4 (by have := z12.out; omega))
    have K3 := hid (fun (o1 o2 o3 : Obj) w6 (hg : World.grownBy ((wr.alloc o1).alloc o2) w6 (blk L)) => st3 (K.out o1 o2).1 (K.out o1 o2).2 T0.out hg o3)
    have K4 := hid (fun (o1 o2 o3 : Obj) w6 (hg : World.grownBy ((wr.alloc o1).alloc o2) w6 (blk L)) => st4 (K.out o1 o2).1 (KY.out o1 o2) hg o3)
    have hzr := G4.bel.size
    have F := hid (fun (o2 o3 : Obj) (L' R' : Option Addr) (lc' rc' : Nat) (w6 w7 : World) (hg6 : World.grownBy ((wr.alloc (.cells #[.int .i64 (-1 - (i : Int))] 2)).alloc o2) w6 (blk L)) ho6 hat6 hg7 ho7 hat7 hX hY hc6 hc7 => st5 (w6 := w6) (w7 := w7) (L' := L') (R' := R') (lc' := lc') (rc' := rc') (-1 - (i : Int)) o2 o3 G4 T0.out hgs hg6 ho6 hat6 hg7 ho7 hat7 (vX := .slice X xn xc) (vY := .slice Y yn yc) hX hY hc6 hc7)
    clear hgs G4 ox4 oy4 GS GN HNO
    go_wp2_with (at_builtin; go_must (refine appS1Z rfl _ _ rfl lo w.heap.size L i lc (T.map Prod.fst) rfl (K.out _ _).1 _ 1 (.slice X xn xc) u rfl (cell2 _ _ _ _) (KX.out _ _) (by omega) (by omega) (by simp; omega) ?_; intro L' lc' w6 ho6 hg6 hat6 b6 hc6; refine (?_ : Hid _).out))
    refine hid ?_
    go_wp2_with (at_builtin; go_must (refine appS1Z rfl _ _ rfl lo w.heap.size R i rc (T.map Prod.snd) rfl (K3.out _ _ _ _ hg6) _ 1 (.slice Y yn yc) v rfl ((Row.new _ _ _).cell 0) (K4.out _ _ _ _ hg6) (by omega) (by omega) (by have := hg6.size; simp at this ⊢; omega) ?_; intro R' rc' w7 ho7 hg7 hat7 b7 hc7))
    go_wp2
    go_ret3
    exact F.out _ _ _ _ _ _ _ _ hg6 ho6 hat6 hg7 ho7 hat7 (KX.out _ _) (K4.out _ _ _ _ hg6) hc6 hc7
end genSpec
end
section
namespace genRec
open Go.RowKit base ints sig cursor marks app appAt sym segs segsHelp term args sub Go.Proofs.Ytgfgaeagbipobaa.look plain same posMath unifMath genMath genPos genTab appZ genSpec
theorem gs_bnd {sg : List Int} {T T' : Tb} {n B : Nat} {u w g : List Int} (h : Gs sg T n u w g T') : (∀ x ∈ T, x.1.length ≤ B ∧ x.2.length ≤ B) → u.length ≤ B → w.length ≤ B → ∀ x ∈ T', x.1.length ≤ B ∧ x.2.length ≤ B := by
 induction h with
 | nil T => exact fun h _ _ => h
 | sym _ _ _ ih => exact fun h h1 h2 => ih h (by simp only [List.length_cons] at h1; omega) (by simp only [List.length_cons] at h2; omega)
 | old _ _ _ _ _ ih => exact fun h h1 h2 => ih h (by simp only [List.length_append] at h1; omega) (by simp only [List.length_append] at h2; omega)
 | new _ _ _ _ _ ih =>
  intro h h1 h2
  simp only [List.length_append] at h1 h2
  refine ih (fun x hx => ?_) (by omega) (by omega)
  rcases List.mem_append.mp hx with hx | hx
  ·exact h x hx
  ·simp only [List.mem_singleton] at hx
   subst hx
   exact ⟨by simp only; omega, by simp only; omega⟩
theorem gs_pos {sg : List Int} {T T' : Tb} {n : Nat} {u w g : List Int} (h : Gs sg T n u w g T') : n ≤ g.length := by
 induction h with
 | nil T => simp
 | sym _ _ _ ih => simp only [List.length_cons]; omega
 | old _ _ _ _ _ ih => simp only [List.length_cons]; omega
 | new _ _ _ _ _ ih => simp only [List.length_cons]; omega
theorem ownRow {w : World} {base n c : Nat} {A : Option Addr} {xs : List Int} (h : Own w base (.slice A n c) xs) : ∀ k, blk A = some k → (∃ cs, Row w k 2 cs) ∧ base ≤ k ∧ k < w.heap.size := fun k hk => by
 have hl := Own.len h
 subst hl
 rcases own_form (n := xs.length) (vs := xs.map (Value.int .i64)) h with ⟨rfl, _⟩ | ⟨g, cur, rfl, hb, hg, _⟩
 ·cases hk
 ·injection hk with hk
  subst hk
  exact ⟨⟨cur, hg⟩, hb, hg.lt⟩
structure Hr (w wr : World) (lo : Nat) (A : Option Addr) (n c : Nat) (sg : List Int) (P : Option Addr) (m : Nat) (a : List Int) (Q : Option Addr) (k : Nat) (b : List Int) (L R : Option Addr) (ln p q : Nat) (T : Tb) (x : Int) (X : Option Addr) (xn xc : Nat) (Y : Option Addr) (yn yc i : Nat) (L' R' : Option Addr) (ln' lc' rc' : Nat) (O : Option Addr) (on oc : Nat) (g : List Int) (T' : Tb) : Prop where
 r0 : Row wr w.heap.size 26 #[.slice A n c]
 s : Seg wr lo A n sg
 pa : Seg wr lo P m a
 qb : Seg wr lo Q k b
 t : Tabs wr lo L' ln' lc' R' rc' T'
 le : lo ≤ w.heap.size
 two : Two w wr L R
 hl : ∀ k, blk L' = some k → k < w.heap.size → blk L = some k
 hr : ∀ k, blk R' = some k → k < w.heap.size → blk R = some k
 ox : Own wr w.heap.size (.slice X xn xc) (argsL sg a p)
 oy : Own wr w.heap.size (.slice Y yn yc) (argsL sg b q)
 oo : Own wr w.heap.size (.slice O on oc) (x :: g)
 nx : ∀ z, blk O = some z → blk X ≠ some z
 ny : ∀ z, blk O = some z → blk Y ≠ some z
 ga : Ga sg a b p q T i g T'
 av : ∀ Z : Nat → Prop, (∀ z, Z z → z < w.heap.size) → Avoid Z w L ln → Avoid Z w R ln → Avoid Z wr L' ln' ∧ Avoid Z wr R' ln'
 ao : Avoid (fun z => blk O = some z) wr L' ln' ∧ Avoid (fun z => blk O = some z) wr R' ln'
section
variable {w wr wd w5 w6 : World} {lo : Nat} {A : Option Addr} {n c : Nat} {sg : List Int} {P : Option Addr} {m : Nat} {a : List Int} {Q : Option Addr} {k : Nat} {b : List Int} {L R : Option Addr} {ln p q : Nat} {T : Tb} {x : Int} {X : Option Addr} {xn xc : Nat} {Y : Option Addr} {yn yc i : Nat} {L' R' : Option Addr} {ln' lc' rc' : Nat} {O : Option Addr} {on oc : Nat} {g : List Int} {T' : Tb}
theorem own_away {base r0 : Nat} {r : Option Nat} {A : Option Addr} {n c : Nat} {xs : List Int} (h : Own w5 base (.slice A n c) xs) (hg : w5.grownBy w6 r) (hne : ∀ z, r = some z → blk A ≠ some z) (_ : r0 = 0) : Own w6 base (.slice A n c) xs := by
 refine World.ownsRow.kept h hg ?_
 rw [blk_own]
 cases e : blk A with
 | none => exact .inl rfl
 | some z => exact .inr (fun e2 => hne z e2.symm e)
theorem Hr.step (h : Hr w wr lo A n c sg P m a Q k b L R ln p q T x X xn xc Y yn yc i L' R' ln' lc' rc' O on oc g T') {L2 R2 : Option Addr} {n2 lc2 rc2 : Nat} {g' : List Int} {T2 : Tb}
  (hgs : Gs sg T' 1 (subL sg a (argP sg a i (p + 1))) (subL sg b (argP sg b i (q + 1))) g' T2) (ht2 : Tabs w5 lo L2 n2 lc2 R2 rc2 T2) (htwo : Two wr w5 L' R') (hl2 : ∀ k, blk L2 = some k → k < wr.heap.size → blk L' = some k) (hr2 : ∀ k, blk R2 = some k → k < wr.heap.size → blk R' = some k)
  (hav : ∀ Z : Nat → Prop, (∀ z, Z z → z < wr.heap.size) → Avoid Z wr L' ln' → Avoid Z wr R' ln' → Avoid Z w5 L2 n2 ∧ Avoid Z w5 R2 n2)
  {O' : Option Addr} {on' oc' : Nat} (ho6 : Own w6 w.heap.size (.slice O' on' oc') ((x :: g) ++ g')) (hg6 : w5.grownBy w6 (blk O)) (hat6 : blk O' = blk O ∨ blk O' = some w5.heap.size) :
  Hr w w6 lo A n c sg P m a Q k b L R ln p q T x X xn xc Y yn yc (i + 1) L2 R2 n2 lc2 rc2 O' on' oc' (g ++ g') T2 := by
 have tO := ownRow h.oo
 have hzw := h.two.size
 have hz5 := htwo.size
 have hz6 := hg6.size
 have oo5 := htwo.own h.oo h.t.rowL h.t.rowR
 have tO5 := ownRow oo5
 have ox5 := htwo.own h.ox h.t.rowL h.t.rowR
 have oy5 := htwo.own h.oy h.t.rowL h.t.rowR
 have b5 : Below lo wr w5 := htwo.below h.t.loL h.t.loR (Nat.le_trans h.le hzw)
 have hOlo : ∀ z, blk O = some z → w.heap.size ≤ z := fun z hz => (tO z hz).2.1
 have hOL : ∀ z, blk L2 = some z → blk O ≠ some z := fun z hz e => by
  obtain ⟨cs, h1⟩ := ht2.rowL z hz
  obtain ⟨⟨cs2, h2⟩, _⟩ := tO5 z e
  exact Row.ne_ h2 h1 (by decide) rfl
 have hOR : ∀ z, blk R2 = some z → blk O ≠ some z := fun z hz e => by
  obtain ⟨cs, h1⟩ := ht2.rowR z hz
  obtain ⟨⟨cs2, h2⟩, _⟩ := tO5 z e
  exact Row.ne_ h2 h1 (by decide) rfl
 have r5 : Row w5 w.heap.size 26 #[.slice A n c] := htwo.row h.r0 (fun e => by obtain ⟨cs, h1⟩ := h.t.rowL _ e; exact Row.ne_ h.r0 h1 (by decide) rfl) (fun e => by obtain ⟨cs, h1⟩ := h.t.rowR _ e; exact Row.ne_ h.r0 h1 (by decide) rfl)
 have hOs : blk O ≠ some w.heap.size := fun e => by
  obtain ⟨⟨cs, h1⟩, _⟩ := tO5 _ e
  exact Row.ne_ r5 h1 (by decide) rfl
 have hfar : ∀ z, blk O = some z → lo ≤ z := fun z hz => Nat.le_trans h.le (hOlo z hz)
 have hlo5 : lo ≤ w5.heap.size := by have := h.le; omega
 obtain ⟨avO1, avO2⟩ := hav (fun z => blk O = some z) (fun z hz => (tO z hz).2.2) h.ao.1 h.ao.2
 have kL : ∀ b j, L2 = some ⟨b, 0, none⟩ → w6.cell? ⟨b, j, none⟩ = w5.cell? ⟨b, j, none⟩ := fun b j e => World.cell?_of_block (hg6.block b (ht2.l.top b (by rw [e]; rfl)) (fun e2 => hOL b (by rw [e]; rfl) e2.symm))
 have kR : ∀ b j, R2 = some ⟨b, 0, none⟩ → w6.cell? ⟨b, j, none⟩ = w5.cell? ⟨b, j, none⟩ := fun b j e => World.cell?_of_block (hg6.block b (ht2.r.top b (by rw [e]; rfl)) (fun e2 => hOR b (by rw [e]; rfl) e2.symm))
 have two5 : Two w w5 L R := h.two.trans htwo h.hl h.hr
 refine ⟨?_, Seg.far (h.s.below b5) hg6 hlo5 hfar, Seg.far (h.pa.below b5) hg6 hlo5 hfar, Seg.far (h.qb.below b5) hg6 hlo5 hfar, ⟨(Avoid.owns ht2.l avO1 hOL hg6).wider (Nat.le_refl _) hz6, (Avoid.owns ht2.r avO2 hOR hg6).wider (Nat.le_refl _) hz6, ht2.ne⟩, h.le, ?_, fun z hz hlt => h.hl z (hl2 z hz (by omega)) hlt, fun z hz hlt => h.hr z (hr2 z hz (by omega)) hlt, own_away (r0 := 0) ox5 hg6 h.nx rfl, own_away (r0 := 0) oy5 hg6 h.ny rfl, ho6, fun z hz => ?_, fun z hz => ?_, ga_succ h.ga hgs, fun Z hZ a1 a2 => ?_, ?_⟩
 ·exact (hg6.block _ r5.lt (fun e => hOs e.symm)).trans r5
 ·exact ⟨hg6.os.trans two5.os, hg6.tape.trans two5.tape, hg6.output.trans two5.output, Nat.le_trans two5.size hz6, fun z hz h1 h2 => (hg6.block z (by omega) (fun e => by have := hOlo z e.symm; omega)).trans (two5.block z hz h1 h2)⟩
 ·rcases hat6 with e | e
  ·exact h.nx z (by rw [← e]; exact hz)
  ·intro e2
   rw [e] at hz
   injection hz with hz
   have := (ownRow ox5 z e2).2.2
   omega
 ·rcases hat6 with e | e
  ·exact h.ny z (by rw [← e]; exact hz)
  ·intro e2
   rw [e] at hz
   injection hz with hz
   have := (ownRow oy5 z e2).2.2
   omega
 ·obtain ⟨c1, c2⟩ := h.av Z hZ a1 a2
  obtain ⟨d1, d2⟩ := hav Z (fun z hz => by have := hZ z hz; omega) c1 c2
  exact ⟨d1.keep kL, d2.keep kR⟩
 ·rcases hat6 with e | e
  ·rw [e]; exact ⟨avO1.keep kL, avO2.keep kR⟩
  ·refine ⟨(Avoid.fresh ht2.l (fun z hz => ?_)).keep kL, (Avoid.fresh ht2.r (fun z hz => ?_)).keep kR⟩
   ·rw [e] at hz; injection hz with hz; omega
   ·rw [e] at hz; injection hz with hz; omega
end
end genRec
end
section
namespace anyOf
open Go.RowKit base ints sig segs segsHelp inside
set_option maxRecDepth 100000
def Tests (g : Nat) (lb : Array Value) (w : World) (f : List Int → Bool) : Prop :=
 ∀ (W : World) (D : Option Addr) (dn dc : Nat) (ys : List Int), Below w.heap.size w W → Seg W W.heap.size D dn ys → dn ≤ 1048576 → Cap D dn dc → Calls Try.prog g (#[.slice D dn dc] ++ lb) W (Tells W (f ys))
theorem Tests.next {g : Nat} {lb : Array Value} {w w' : World} {f : List Int → Bool} (h : Tests g lb w f) (hb : Below w.heap.size w w') : Tests g lb w' f :=
 fun W D dn dc ys hW hs hn hc => h W D dn dc ys (next_trans hb hW) hs hn hc
def HeadIx (w : World) (n : Nat) (f : List Int → Bool) (xss : List (List Int)) (i : Value) (wr : World) : Prop := ∃ k : Nat, k ≤ n ∧ i = .int .i64 k ∧ (∀ j, j < k → f (xss.getD j []) = false) ∧ Below w.heap.size w wr
end anyOf
end
section
namespace unifDom
open sig term termOk termFacts endAt sub termMath fillMath posMath renMath matchMath plainMath unifMath
def InTwo (a b : List Int) (z : Int) : Prop := z ∈ a ∨ z ∈ b
structure Dom (a b : List Int) (L : Nat → List Int) : Prop where
 rng : ∀ z, InTwo a b z → z < 0 → ∀ y ∈ L (vr z), y < 0 → InTwo a b y
 out : ∀ i : Nat, ¬ InTwo a b (-1 - (i : Int)) → L i = vt i
section
variable {sg a b : List Int} {L : Nat → List Int}
theorem mem_len {x : Int} : ∀ {t : List Int}, x ∈ t → x < 0 → (L (vr x)).length ≤ (fillL L t).length
 | [], hx, _ => absurd hx (List.not_mem_nil)
 | y :: r, hx, h0 => by
  rw [fill_cons, List.length_append]
  rcases List.mem_cons.1 hx with rfl | hx
  ·rw [rep_vr h0]; omega
  ·have := mem_len hx h0; omega
theorem Dom.each (h : Dom a b L) (ha : (fillL L a).length ≤ 60) (hb : (fillL L b).length ≤ 60) (i : Nat) : (L i).length ≤ 60 := by
 by_cases hi : InTwo a b (-1 - (i : Int))
 ·rcases hi with hi | hi
  ·have := mem_len (L := L) hi (by omega)
   rw [vr_vt] at this
   omega
  ·have := mem_len (L := L) hi (by omega)
   rw [vr_vt] at this
   omega
 ·rw [h.out i hi]; simp [vt]
end
structure Wy (sg a b : List Int) (L : Nat → List Int) (x y : List Int) : Prop where
 ta : termOkB sg a = true
 tb : termOkB sg b = true
 part : Part sg a b L
 dom : Dom a b L
 ex : x = fillL L a
 ey : y = fillL L b
 lx : x.length ≤ 60
 ly : y.length ≤ 60
section
variable {sg a b x y : List Int} {L : Nat → List Int}
theorem Wy.tx (h : Wy sg a b L x y) : Trm sg x := by rw [h.ex]; exact h.part.sub.fill (term_parts h.ta).2.2
theorem Wy.each (h : Wy sg a b L x y) (i : Nat) : (L i).length ≤ 60 := h.dom.each (by rw [← h.ex]; exact h.lx) (by rw [← h.ey]; exact h.ly) i
theorem Wy.done (h : Wy sg a b L x y) (e : x = y) : IsU sg a b true (plainL L 24) :=
 isU_mg h.ta h.tb (h.part.done (by rw [← h.ex, ← h.ey]; exact e)) h.each (by rw [← h.ex]; exact h.lx)
theorem Wy.spot (h : Wy sg a b L x y) {k : Nat} (e : x.take k = y.take k) (kx : k < x.length) (ky : k < y.length) (ne : x.getD k 0 ≠ y.getD k 0) : Spot sg a b L k :=
 ⟨(term_parts h.ta).2.2, (term_parts h.tb).2.2, by rw [← h.ex, ← h.ey]; exact e, by rw [← h.ex]; exact kx, by rw [← h.ey]; exact ky, by rw [← h.ex, ← h.ey]; exact ne⟩
end
end unifDom
end
section
namespace thn
open Go.RowKit base ints cursor marks app sym segs fillMath Go.Proofs.Ytgfgaeagbipobaa.look
set_option maxRecDepth 100000
def LooksE (x : Option Nat) (g : Nat) (lb : Array Value) (w : World) (L : Nat → List Int) (N : Nat) : Prop :=
 ∀ (W : World) (i : Nat), w.grownBy W x → i < N → Calls Try.prog g (#[.int .i64 (i : Int)] ++ lb) W (AnsLook w.heap.size W (L i))
section
variable {x : Option Nat} {g : Nat} {lb : Array Value} {w w' : World} {L L' : Nat → List Int} {N : Nat}
theorem LooksE.next (h : LooksE x g lb w L N) (hg : w.grownBy w' x) : LooksE x g lb w' L N :=
 fun W i hW hi => (h W i (grown_trans hg hW) hi).mono fun _ _ ⟨A, n, c, he, h1, h2, h3, h4⟩ => ⟨A, n, c, he, h1, h2, fun k hk => by have := h3 k hk; have := hg.size; omega, h4⟩
theorem LooksE.ext (h : LooksE x g lb w L N) (e : ∀ i, i < N → L i = L' i) : LooksE x g lb w L' N := fun W i hW hi => by rw [← e i hi]; exact h W i hW hi
end
end thn
end
section
namespace heldT
section
variable {P : Program} {md : Region.Mode} {ops : Array Oper} {Q : Exit → Act → World → Prop} {S : World → Prop} {late : Nat → Bool}
def AnyT (P : Program) (md : Region.Mode) (ops : Array Oper) (Q : Exit → Act → World → Prop) (S : World → Prop) (late : Nat → Bool) : Nat → Array Bool → Act → World → Prop
 | 0, listed, a, w => Region.ready md ops listed = [] ∧ Q .normal a w
 | fuel + 1, listed, a, w => (Region.ready md ops listed = [] → Q .normal a w) ∧
  ∀ i ∈ Region.ready md ops listed, wpOp P ops Q i (fun a' w' => (late i = false → S w → S w') ∧ AnyT P md ops Q S late fuel (listed.setIfInBounds i true) a' w') a w
theorem AnyT.any : ∀ (fuel : Nat) (listed : Array Bool) (a : Act) (w : World), AnyT P md ops Q S late fuel listed a w → wpAny P md ops Q fuel listed a w
 | 0, _, _, _, h => h
 | fuel + 1, _, _, _, h => ⟨h.1, fun i hi => wpOp_mono (fun a' w' h' => AnyT.any fuel _ a' w' h'.2) (h.2 i hi)⟩
def Waits (md : Region.Mode) (ops : Array Oper) (late : Nat → Bool) (listed : Array Bool) (i : Nat) : Prop :=
 ∀ j o, ops[j]? = some o → late j = true → listed.getD j true = false → ∃ e ∈ o.after, Region.binds md e = true ∧ e.on = i
def waitsB (md : Region.Mode) (ops : Array Oper) (late : Nat → Bool) (listed : Array Bool) (i : Nat) : Bool :=
 (List.range ops.size).all fun j => !late j || listed.getD j true || ((ops[j]?).map fun o => o.after.any fun e => Region.binds md e && e.on == i).getD false
theorem waits_of {listed : Array Bool} {i : Nat} (h : waitsB md ops late listed i = true) : Waits md ops late listed i := by
 intro j o ho hl hu
 have hj : j < ops.size := by
  rcases Nat.lt_or_ge j ops.size with h' | h'
  ·exact h'
  ·rw [Array.getElem?_eq_none h'] at ho; cases ho
 have := List.all_eq_true.1 h j (List.mem_range.2 hj)
 rw [hl, hu, ho] at this
 simp only [Bool.not_true, Bool.false_or, Option.map_some, Option.getD_some, Array.any_eq_true', Bool.and_eq_true, beq_iff_eq] at this
 exact this
theorem AnyT.first {i : Nat} {oi : Oper} {v : Value} (hi : ops[i]? = some oi) (hsel : ∀ (j : Nat) (o : Oper) cs b, ops[j]? = some o → o.op ≠ .select cs b) (hQ : ∀ c a w, Q (.panic c) (a.put oi.dst v) w → Q (.panic c) a w) :
  ∀ (fuel : Nat) (listed : Array Bool) (a : Act) (w : World),
   (∀ j oj, ops[j]? = some oj → j ≠ i → listed.getD j true = false → (∀ e ∈ oj.after, Region.binds md e = true → e.on ≠ i) → oi.apart ops oj = true) → Waits md ops late listed i →
   i ∈ Region.ready md ops listed → YieldsIf P ops S oi v a → S w → AnyT P md ops Q S late fuel (listed.setIfInBounds i true) (a.put oi.dst v) w → AnyT P md ops Q S late (fuel + 1) listed a w := by
 intro fuel
 induction fuel with
 | zero =>
  intro listed a w _ _ hr hy hS H
  refine ⟨fun h => (by rw [h] at hr; cases hr), fun j hj => ?_⟩
  rcases Classical.em (j = i) with e | e
  ·subst e; exact hy.wpOp hi hS ⟨fun _ h => h, H⟩
  ·have := ready_mono hj e
   rw [H.1] at this
   cases this
 | succ fuel ih =>
  intro listed a w hfree hwait hr hy hS H
  refine ⟨fun h => (by rw [h] at hr; cases hr), fun j hj => ?_⟩
  rcases Classical.em (j = i) with e | hji
  ·subst e; exact hy.wpOp hi hS ⟨fun _ h => h, H⟩
  have h1 := H.2 j (ready_mono hj hji)
  obtain ⟨hjun, oj, hoj, hall⟩ := mem_ready.1 hj
  have h0 := (mem_ready.1 hr).1
  have hnot : ∀ e ∈ oj.after, Region.binds md e = true → e.on ≠ i := fun e he hb heq => by
   have h1 := hall e he hb
   rw [heq] at h1
   rcases Nat.lt_or_ge i listed.size with h' | h'
   ·simp [h'] at h0 h1; rw [h0] at h1; cases h1
   ·simp [Array.getElem?_eq_none h'] at h1
  have hlj : late j = false := by
   cases e : late j with
   | false => rfl
   | true =>
    obtain ⟨x, hx, hb, ho⟩ := hwait j oj hoj e hjun
    exact absurd ho (hnot x hx hb)
  have far : ∀ {k : Nat}, j ≠ k → (listed.setIfInBounds j true).getD k true = false → listed.getD k true = false := fun hjk h => by rwa [getD_set_ne true hjk] at h
  have same : ∀ {k : Nat}, k = j → listed.getD k true = false := fun e => by rw [e]; exact hjun
  have un : ∀ (k : Nat), (listed.setIfInBounds j true).getD k true = false → listed.getD k true = false := fun k h => by
   rcases Classical.em (k = j) with e | e
   ·exact same e
   ·exact far (fun e' => e e'.symm) h
  have h2 := wpOp_putIf hoj (hfree j oj hoj hji hjun hnot) (fun cs b => hsel i oi cs b hi) (fun cs b => hsel j oj cs b hoj) hQ hy h1
  refine wpOp_mono (fun a' w' h3 => ⟨h3.2.1, ih (listed.setIfInBounds j true) a' w' (fun k ok hk hki hun hno => hfree k ok hk hki (un k hun) hno) (fun k o hk hl hu => hwait k o hk hl (un k hu)) (ready_mono hr (Ne.symm hji)) h3.1 (h3.2.1 hlj hS) ?_⟩) h2
  rw [Array.setIfInBounds_comm _ _ hji]
  exact h3.2.2
theorem AnyT.take {i : Nat} {oi : Oper} {v : Value} {fuel : Nat} {listed : Array Bool} {a : Act} {w : World} (hi : ops[i]? = some oi) (hs : Region.noSelect ops = true) (hf : Region.free md ops listed i = true) (hw : waitsB md ops late listed i = true) (hr : (Region.ready md ops listed).contains i = true)
  (hQ : ∀ c a w, Q (.panic c) (a.put oi.dst v) w → Q (.panic c) a w) (hy : YieldsIf P ops S oi v a) (hS : S w) (h : AnyT P md ops Q S late fuel (listed.setIfInBounds i true) (a.put oi.dst v) w) : AnyT P md ops Q S late (fuel + 1) listed a w :=
 AnyT.first hi (Region.noSelect_spec hs) hQ fuel listed a w (Region.free_spec hi hf) (waits_of hw) (by simpa using hr) hy hS h
theorem AnyT.firstA {i : Nat} {oi : Oper} {v : Value} (hi : ops[i]? = some oi) (hsel : ∀ (j : Nat) (o : Oper) cs b, ops[j]? = some o → o.op ≠ .select cs b) (hQ : ∀ c a w, Q (.panic c) (a.put oi.dst v) w → Q (.panic c) a w) :
  ∀ (fuel : Nat) (listed : Array Bool) (a : Act) (w : World),
   (∀ j oj, ops[j]? = some oj → j ≠ i → listed.getD j true = false → (∀ e ∈ oj.after, Region.binds md e = true → e.on ≠ i) → oi.apart ops oj = true) →
   i ∈ Region.ready md ops listed → YieldsIf P ops (fun _ => True) oi v a → AnyT P md ops Q S late fuel (listed.setIfInBounds i true) (a.put oi.dst v) w → AnyT P md ops Q S late (fuel + 1) listed a w := by
 intro fuel
 induction fuel with
 | zero =>
  intro listed a w _ hr hy H
  refine ⟨fun h => (by rw [h] at hr; cases hr), fun j hj => ?_⟩
  rcases Classical.em (j = i) with e | e
  ·subst e; exact hy.wpOp hi trivial ⟨fun _ h => h, H⟩
  ·have := ready_mono hj e
   rw [H.1] at this
   cases this
 | succ fuel ih =>
  intro listed a w hfree hr hy H
  refine ⟨fun h => (by rw [h] at hr; cases hr), fun j hj => ?_⟩
  rcases Classical.em (j = i) with e | hji
  ·subst e; exact hy.wpOp hi trivial ⟨fun _ h => h, H⟩
  have h1 := H.2 j (ready_mono hj hji)
  obtain ⟨hjun, oj, hoj, hall⟩ := mem_ready.1 hj
  have h0 := (mem_ready.1 hr).1
  have hnot : ∀ e ∈ oj.after, Region.binds md e = true → e.on ≠ i := fun e he hb heq => by
   have h1 := hall e he hb
   rw [heq] at h1
   rcases Nat.lt_or_ge i listed.size with h' | h'
   ·simp [h'] at h0 h1; rw [h0] at h1; cases h1
   ·simp [Array.getElem?_eq_none h'] at h1
  have un : ∀ (k : Nat), (listed.setIfInBounds j true).getD k true = false → listed.getD k true = false := fun k h => by
   rcases Classical.em (k = j) with e | e
   ·rw [e]; exact hjun
   ·rwa [getD_set_ne true (fun e' => e e'.symm)] at h
  have h2 := wpOp_putIf hoj (hfree j oj hoj hji hjun hnot) (fun cs b => hsel i oi cs b hi) (fun cs b => hsel j oj cs b hoj) hQ hy h1
  refine wpOp_mono (fun a' w' h3 => ⟨h3.2.1, ih (listed.setIfInBounds j true) a' w' (fun k ok hk hki hun hno => hfree k ok hk hki (un k hun) hno) (ready_mono hr (Ne.symm hji)) h3.1 ?_⟩) h2
  rw [Array.setIfInBounds_comm _ _ hji]
  exact h3.2.2
theorem AnyT.takeA {i : Nat} {oi : Oper} {v : Value} {fuel : Nat} {listed : Array Bool} {a : Act} {w : World} (hi : ops[i]? = some oi) (hs : Region.noSelect ops = true) (hf : Region.free md ops listed i = true) (hr : (Region.ready md ops listed).contains i = true)
  (hQ : ∀ c a w, Q (.panic c) (a.put oi.dst v) w → Q (.panic c) a w) (hy : YieldsIf P ops (fun _ => True) oi v a) (h : AnyT P md ops Q S late fuel (listed.setIfInBounds i true) (a.put oi.dst v) w) : AnyT P md ops Q S late (fuel + 1) listed a w :=
 AnyT.firstA hi (Region.noSelect_spec hs) hQ fuel listed a w (Region.free_spec hi hf) (by simpa using hr) hy h
theorem AnyT.call {i : Nat} {o : Oper} {fuel : Nat} {listed : Array Bool} {a : Act} {w : World} (hr : Region.ready md ops listed = [i]) (ho : ops[i]? = some o)
  (h : ∀ K' : Act → World → Prop, Shut (∀ a w', (late i = false → S w → S w') → ((late i = false → S w → S w') → AnyT P md ops Q S late fuel (listed.setIfInBounds i true) a w') → K' a w') → if Region.wanted o (yielded ops a.tmps) = true then Oper.wp P o a w K' Q else K' (a.put o.dst undef) w) : AnyT P md ops Q S late (fuel + 1) listed a w :=
 ⟨fun h0 => absurd (hr ▸ h0) (by simp), fun j hj => by
  rw [hr, List.mem_singleton] at hj
  subst hj
  exact wpOp_step ho (fun K' hK => h K' (fun a w' hS hW => hK a w' ⟨hS, hW hS⟩))⟩
theorem AnyT.done {listed : Array Bool} {a : Act} {w : World} (hr : Region.ready md ops listed = []) (h : Q .normal a w) : ∀ fuel, AnyT P md ops Q S late fuel listed a w
 | 0 => ⟨hr, h⟩
 | _ + 1 => ⟨fun _ => h, by rw [hr]; simp⟩
theorem AnyT.start {id : Nat} {a : Act} {w : World} (late : Nat → Bool) (hm : P.follows .mixedOrders = true) (hS : S w.drew) (h : S w.drew → AnyT P .any ops Q S late ops.size (Array.replicate ops.size false) a w.drew) : (Code.region id ops true).wp P Q a w :=
 wp_region_any hm (AnyT.any _ _ _ _ (h hS))
end
end heldT
end
section
namespace unifRep
open Go.RowKit base ints sig cursor marks app sym segs fillMath gives unifMath Go.Proofs.Ytgfgaeagbipobaa.look thn heldT
set_option maxRecDepth 100000
section
variable {w w' : World} {g : Nat} {A : Option Addr} {n c : Nat} {sg : List Int} {P : Option Addr} {pn pc : Nat} {x : List Int} {Q : Option Addr} {qn qc : Nat} {y : List Int} {gl : Nat} {lb : Array Value} {L : Nat → List Int}
end
end unifRep
end
section
open Go.Lib (hid)
namespace genSt
open Go.RowKit base ints sig cursor marks app appAt sym segs segsHelp kinds term sub curO concat anyOf inside unifMath genMath genPos genTab appZ unifRep
set_option maxRecDepth 100000
def gcs (A : Option Addr) (n c : Nat) (P : Option Addr) (m mc i : Nat) (Q : Option Addr) (k kc j : Nat) (D : Option Addr) (dn dc : Nat) : Array Value :=
 #[.slice A n c, .slice P m mc, .int .i64 (i : Int), .slice A n c, .slice Q k kc, .int .i64 (j : Int), .slice D dn dc]
structure Gn (w : World) (g hi : Nat) (A : Option Addr) (n c : Nat) (sg : List Int) (P : Option Addr) (m mc : Nat) (a : List Int) (i : Nat) (Q : Option Addr) (k kc : Nat) (b : List Int) (j : Nat) (D : Option Addr) (dn dc : Nat) (xss : List (List Int)) : Prop where
 row : Row w g 81 (gcs A n c P m mc i Q k kc j D dn dc)
 s : Seg w g A n sg
 pa : Seg w g P m a
 qb : Seg w g Q k b
 o : Owns w (g + 1) hi D dn dc xss
 le : hi ≤ w.heap.size
 li : i ≤ m
 lj : j ≤ k
 hn : n ≤ 1048576
 hm : m ≤ 1048576
 hk : k ≤ 1048576
 ars : Arities sg
section
variable {w w' : World} {g hi : Nat} {A : Option Addr} {n c : Nat} {sg : List Int} {P : Option Addr} {m mc : Nat} {a : List Int} {i i' : Nat} {Q : Option Addr} {k kc : Nat} {b : List Int} {j j' : Nat} {D : Option Addr} {dn dc : Nat} {xss : List (List Int)}
theorem Gn.lt (h : Gn w g hi A n c sg P m mc a i Q k kc b j D dn dc xss) : g < w.heap.size := h.row.lt
theorem Gn.next (h : Gn w g hi A n c sg P m mc a i Q k kc b j D dn dc xss) (hb : Below w.heap.size w w') : Gn w' g hi A n c sg P m mc a i Q k kc b j D dn dc xss :=
 have hp := Nat.le_of_lt h.row.lt
 ⟨h.row.next hb, h.s.below (hb.mono hp), h.pa.below (hb.mono hp), h.qb.below (hb.mono hp), h.o.next hb, Nat.le_trans h.le hb.size, h.li, h.lj, h.hn, h.hm, h.hk, h.ars⟩
theorem Gn.alloc (h : Gn w g hi A n c sg P m mc a i Q k kc b j D dn dc xss) (o : Obj) : Gn (w.alloc o) g hi A n c sg P m mc a i Q k kc b j D dn dc xss := h.next ((Below.refl _ _).alloc (Nat.le_refl _) o)
theorem Gn.drewN (h : Gn w g hi A n c sg P m mc a i Q k kc b j D dn dc xss) (d : Nat) : Gn (w.drewN d) g hi A n c sg P m mc a i Q k kc b j D dn dc xss := h.next ⟨rfl, rfl, rfl, Nat.le_refl _, fun _ _ => rfl⟩
theorem Gn.cell (h : Gn w g hi A n c sg P m mc a i Q k kc b j D dn dc xss) (z : Nat) : w.cell? ⟨g, z, none⟩ = (gcs A n c P m mc i Q k kc j D dn dc)[z]? := h.row.cell z
theorem Gn.move (h : Gn w g hi A n c sg P m mc a i Q k kc b j D dn dc xss) (hg : w.grownBy w' (some g)) (hr : Row w' g 81 (gcs A n c P m mc i' Q k kc j' D dn dc)) (hi' : i' ≤ m) (hj' : j' ≤ k) : Gn w' g hi A n c sg P m mc a i' Q k kc b j' D dn dc xss :=
 have hp := h.row.lt
 ⟨hr, seg_grown h.s hg hp, seg_grown h.pa hg hp, seg_grown h.qb hg hp, h.o.btw (Btw.of_grown (lo := g) (hi := g + 1) hg (fun z e => by injection e; omega)) (by right; omega), Nat.le_trans h.le hg.size, hi', hj', h.hn, h.hm, h.hk, h.ars⟩
theorem Gn.curA (h : Gn w g hi A n c sg P m mc a i Q k kc b j D dn dc xss) : CurO w g 0 81 (gcs A n c P m mc 0 Q k kc j D dn dc) A n c P m mc sg a i :=
 ⟨by have r := h.row; simpa [gcs] using r, by simp [gcs], by simp [gcs], by simp [gcs], h.s, h.pa, h.li, h.hn, h.hm, h.ars⟩
theorem Gn.curB (h : Gn w g hi A n c sg P m mc a i Q k kc b j D dn dc xss) : CurO w g 3 81 (gcs A n c P m mc i Q k kc 0 D dn dc) A n c Q k kc sg b j :=
 ⟨by have r := h.row; simpa [gcs] using r, by simp [gcs], by simp [gcs], by simp [gcs], h.s, h.qb, h.lj, h.hn, h.hk, h.ars⟩
theorem rowA (h : CurO w g 0 81 (gcs A n c P m mc 0 Q k kc j D dn dc) A n c P m mc sg a i) : Row w g 81 (gcs A n c P m mc i Q k kc j D dn dc) := by have r := h.row; simpa [gcs] using r
theorem rowB (h : CurO w g 3 81 (gcs A n c P m mc i Q k kc 0 D dn dc) A n c Q k kc sg b j) : Row w g 81 (gcs A n c P m mc i Q k kc j D dn dc) := by have r := h.row; simpa [gcs] using r
end
theorem partA {w : World} {g hi : Nat} {A : Option Addr} {n c : Nat} {sg : List Int} {b1 o1 m mc : Nat} {a : List Int} {i : Nat} {Q : Option Addr} {k kc : Nat} {b : List Int} {j : Nat} {D : Option Addr} {dn dc : Nat} {xss : List (List Int)} (h : Gn w g hi A n c sg (some ⟨b1, o1, none⟩) m mc a i Q k kc b j D dn dc xss) {p : Nat} (hp : scan sg 1 (a.drop i) = some p) (hip : i + p ≤ m) (h1 : 1 ≤ p) (hmc : m ≤ mc) (hc : mc ≤ 9223372036854775807) :
  Calls Try.prog 94 #[.pointer (some ⟨g, 0, none⟩)] w fun e w' => e = .returned (.slice (some ⟨b1, o1 + i, none⟩) p (mc - i)) ∧ Gn w' g hi A n c sg (some ⟨b1, o1, none⟩) m mc a (i + p) Q k kc b j D dn dc xss ∧ w.grownBy w' (some g) :=
 (partO g 0 _ _ A n c b1 o1 m mc sg a i p w h.curA hp hip h1 hmc hc).mono fun _ _ ⟨e1, e2, e3⟩ => ⟨e1, h.move e2 (rowA e3) hip h.lj, e2⟩
theorem partB {w : World} {g hi : Nat} {A : Option Addr} {n c : Nat} {sg : List Int} {P : Option Addr} {m mc : Nat} {a : List Int} {i : Nat} {b2 o2 k kc : Nat} {b : List Int} {j : Nat} {D : Option Addr} {dn dc : Nat} {xss : List (List Int)} (h : Gn w g hi A n c sg P m mc a i (some ⟨b2, o2, none⟩) k kc b j D dn dc xss) {q : Nat} (hq : scan sg 1 (b.drop j) = some q) (hjq : j + q ≤ k) (h1 : 1 ≤ q) (hkc : k ≤ kc) (hc : kc ≤ 9223372036854775807) :
  Calls Try.prog 94 #[.pointer (some ⟨g, 3, none⟩)] w fun e w' => e = .returned (.slice (some ⟨b2, o2 + j, none⟩) q (kc - j)) ∧ Gn w' g hi A n c sg P m mc a i (some ⟨b2, o2, none⟩) k kc b (j + q) D dn dc xss ∧ w.grownBy w' (some g) :=
 (partO g 3 _ _ A n c b2 o2 k kc sg b j q w h.curB hq hjq h1 hkc hc).mono fun _ _ ⟨e1, e2, e3⟩ => ⟨e1, h.move e2 (rowB e3) h.li hjq, e2⟩
theorem catTwo {w : World} {gb : Nat} {X Y : Option Addr} {xn xc yn yc : Nat} {x y : List Int} (hr : Row w gb 24 #[.slice X xn xc, .slice Y yn yc]) (hx : Seg w w.heap.size X xn x) (hy : Seg w w.heap.size Y yn y) (kx : Cap X xn xc) (ky : Cap Y yn yc) (lx : xn ≤ 1000) (ly : yn ≤ 1000) :
  Calls Try.prog 93 #[.slice (some ⟨gb, 0, none⟩) 2 2] w (AnsList w (x ++ y)) := by
 have hs : Segs w w.heap.size (some ⟨gb, 0, none⟩) 2 [x, y] := ⟨rfl, fun _ => ⟨gb, 0, rfl, hr.lt, fun j hj => by
  match j, hj with
  | 0, _ => exact ⟨X, xn, xc, hr.cell 0, hx, kx⟩
  | 1, _ => exact ⟨Y, yn, yc, hr.cell 1, hy, ky⟩⟩⟩
 have h := concat (some ⟨gb, 0, none⟩) 2 2 [x, y] w hs (by simp [tot, sumL]; rw [hx.1, hy.1]; omega)
 simpa using h
def AnsFx (w : World) (f : List Int → Bool) (n : Nat) (xss : List (List Int)) (e : Ending) (w' : World) : Prop :=
 Below w.heap.size w w' ∧ ((∃ k : Nat, k < n ∧ e = .returned (.int .i64 (k : Int)) ∧ f (xss.getD k []) = true) ∨ (e = .returned (.int .i64 (-1)) ∧ ∀ j, j < n → f (xss.getD j []) = false))
set_option maxHeartbeats 2000000 in
theorem indexAt (g : Nat) (lb : Array Value) (eg : ∀ args w, (callFunc g args).run Try.prog w = .ok (.enter g args) w) (f : List Int → Bool) (A : Option Addr) (n c : Nat) (xss : List (List Int)) (w : World) (hT : Tests g lb w f)
  (h : Segs w w.heap.size A n xss) (hn : n ≤ 1048576) (hE : ∀ j, (xss.getD j []).length ≤ 1048576) :
  Calls Try.prog 88 #[.slice A n c, .func (.func g) #[] lb] w (AnsFx w f n xss) := by
 have HE := hid hE
 have HL := hid h.1
 have HK := hid hT
 have HH : Hid (HeadIx w n f xss (.int .i64 0) w) := hid ⟨0, Nat.zero_le _, rfl, fun j hj => absurd hj (Nat.not_lt_zero _), Below.refl _ _⟩
 clear hE hT
 go_enter Try.func88, Try.ntmps88
 go_wp2_with fail
 go_loopw [8] (fun i wr => HeadIx w n f xss i wr) (fun i _ => n - (intOf i).toNat)
 case atStart => exact HH.out
 case round =>
  obtain ⟨k, hk, rfl, hlow, hb⟩ := hrel
  have HLOW := hid hlow
  clear hlow HH
  by_cases hlt : k < n
  ·obtain ⟨b, off, A', n', cc, rfl, hbB, hx0, hseg, hcap⟩ := h.spot hlt
   have hx : wr.cell? ⟨b, off + k, none⟩ = some (.slice A' n' cc) := (hb.cell (p := ⟨b, off + k, none⟩) hbB).trans hx0
   have hn' : n' ≤ 1048576 := by rw [← hseg.1]; exact HE.out k
   obtain ⟨ys, hys⟩ : ∃ ys, xss.getD k [] = ys := ⟨_, rfl⟩
   rw [hys] at hseg
   have HY := hid hys
   have hcall := HK.out wr A' n' cc ys hb (hseg.below hb |>.more hb.size) hn' hcap
   obtain ⟨v, hv⟩ : ∃ v, f ys = v := ⟨_, rfl⟩
   rw [hv] at hcall
   have HV := hid hv
   have HC := hid hcall
   have i0 : (0 : Int) ≤ (k : Int) := by omega
   have i1 : (k : Int) < (n : Int) := by omega
   clear hseg hcap h hx0 hys hv hcall
   cases v with
   | true =>
    go_wp2_with (first
     | (go_at_fn g; refine HC.out.mono ?_; rintro e w1 ⟨rfl, bb⟩))
    have F : AnsFx w f n xss (.returned (.int .i64 (k : Int))) w1 := ⟨next_trans hb bb, .inl ⟨k, hlt, rfl, by rw [HY.out]; exact HV.out⟩⟩
    have HF := hid F
    clear F hx bb hb HC
    go_wp2
    go_ret
    exact HF.out
   | false =>
    go_wp2_with (first
     | (go_at_fn g; refine HC.out.mono ?_; rintro e w1 ⟨rfl, bb⟩))
    have S1 : HeadIx w n f xss (.int .i64 ((k : Int) + 1)) w1 := ⟨k + 1, hlt, by simp, fun j hj => by
     by_cases e : j = k
     ·rw [e, HY.out]; exact HV.out
     ·exact HLOW.out j (by omega), next_trans hb bb⟩
    have HS1 := hid S1
    clear S1 hx bb hb HC
    go_wp2
    go_roundw
    case rel => exact HS1.out
    case measure => simp [intOf]; omega
  ·have F : AnsFx w f n xss (.returned (.int .i64 (-1))) wr := ⟨hb, .inr ⟨rfl, fun j hj => HLOW.out j (by omega)⟩⟩
   have HF := hid F
   clear F h hb
   go_wp2
   go_ret
   exact HF.out
def cat (x : List Int × List Int) : List Int := x.1 ++ x.2
def Fine2 (sg : List Int) (T : Tb) : Prop := ∀ x ∈ T, Trm sg x.1 ∧ Trm sg x.2 ∧ x.1.length ≤ 60 ∧ x.2.length ≤ 60
theorem cat_inj {sg s t u v : List Int} (hs : Trm sg s) (hu : Trm sg u) (e : cat (s, t) = cat (u, v)) : s = u ∧ t = v := trm_front hs hu e
theorem cat_get {T : Tb} {k : Nat} (h : k < T.length) : ∃ x, T[k]? = some x ∧ (T.map cat).getD k [] = cat x := ⟨T[k], by simp [h], by simp [List.getD, h]⟩
theorem Fine2.snoc {sg u v : List Int} {T : Tb} (h : Fine2 sg T) (hu : Trm sg u) (hv : Trm sg v) (lu : u.length ≤ 60) (lv : v.length ≤ 60) : Fine2 sg (T ++ [(u, v)]) := fun x hx => by
 rcases List.mem_append.1 hx with hx | hx
 ·exact h x hx
 ·rw [List.mem_singleton] at hx; subst hx; exact ⟨hu, hv, lu, lv⟩
theorem Fine2.each {sg : List Int} {T : Tb} (h : Fine2 sg T) (j : Nat) : ((T.map cat).getD j []).length ≤ 120 := by
 by_cases hj : j < T.length
 ·have hm : T[j] ∈ T := List.getElem_mem hj
  obtain ⟨_, _, h3, h4⟩ := h _ hm
  have e : (T.map cat).getD j [] = cat T[j] := by simp [List.getD, hj]
  rw [e]
  unfold cat
  rw [List.length_append]
  omega
 ·have e : (T.map cat).getD j [] = [] := by simp [List.getD, hj]
  rw [e]; simp
def AnsNx (w : World) (g : Nat) (A : Option Addr) (n c : Nat) (sg : List Int) (P : Option Addr) (m mc : Nat) (a : List Int) (i : Nat) (Q : Option Addr) (k kc : Nat) (b : List Int) (j : Nat) (D : Option Addr) (dn : Nat) (T : Tb) (e : Ending) (w' : World) : Prop :=
 ∃ (x : Int) (i' j' : Nat) (D' : Option Addr) (dn' dc' : Nat) (T' : Tb), e = .returned (.int .i64 x) ∧ Gn w' g w'.heap.size A n c sg P m mc a i' Q k kc b j' D' dn' dc' (T'.map cat) ∧ Fine2 sg T' ∧ Two w w' (some ⟨g, 0, none⟩) D ∧ (∀ z, blk D' = some z → z < w.heap.size → blk D = some z) ∧
  (∀ Z : Nat → Prop, (∀ z, Z z → z < w.heap.size) → Avoid Z w D dn → Avoid Z w' D' dn') ∧
  ((0 ≤ x ∧ a.getD i 0 = x ∧ b.getD j 0 = x ∧ i' = i + 1 ∧ j' = j + 1 ∧ T' = T) ∨ (i' = i + (subL sg a i).length ∧ j' = j + (subL sg b j).length ∧ Gs sg T 1 (subL sg a i) (subL sg b j) [x] T'))
end genSt
end
section
namespace compMath
open term termOk termFacts segsHelp fillMath substOk gives plainMath plainOf
end compMath
end
section
namespace maxi
open Go.RowKit base
end maxi
end
section
namespace compSpec
open Go.RowKit base ints sig cursor marks app appAt sym segs segsHelp kinds termFacts fillMath substOk gives shifted filled plainMath plain plainOf compMath maxi
set_option maxRecDepth 100000
end compSpec
end
section
namespace compImpl
open Go.RowKit base ints sig cursor marks app appAt sym segs segsHelp kinds termFacts fillMath Go.Proofs.Ytgfgaeagbipobaa.look substOk gives shifted filled plainMath plain plainOf compMath compSpec thn
set_option maxRecDepth 100000
theorem sz_alloc (w : World) (o : Obj) : (w.alloc o).heap.size = w.heap.size + 1 := by simp
theorem sz_drew (w : World) : w.drew.heap.size = w.heap.size := rfl
theorem row_top {w : World} {t : TypeId} {cs : Array Value} {n : Nat} (hn : n = w.heap.size) : Row (w.alloc (.cells cs t)) n t cs := by subst hn; exact Row.new _ _ _
theorem row_alloc {w : World} {o : Obj} {t : TypeId} {cs : Array Value} {n : Nat} (h : Row w n t cs) : Row (w.alloc o) n t cs := h.alloc o
theorem row_drew {w : World} {t : TypeId} {cs : Array Value} {n : Nat} (h : Row w n t cs) : Row w.drew n t cs := h.drew
theorem keep_alloc {w : World} {a : Addr} {v : Value} {o : Obj} (h : w.cell? a = some v) : (w.alloc o).cell? a = some v := (World.cell?_alloc_some w a o (by rw [h]; rfl)).trans h
theorem cell_top {w : World} {v : Value} {t : TypeId} {n : Nat} (hn : n = w.heap.size) : (w.alloc (.cells #[v] t)).cell? ⟨n, 0, none⟩ = some v := by subst hn; simp
end compImpl
end
section
namespace appStep
open Go.RowKit base ints cursor same marks app appAt sym sub segs segsHelp kinds Go.Proofs.Ytgfgaeagbipobaa.look plain appZ
set_option maxRecDepth 100000
set_option maxHeartbeats 1000000 in
theorem stepS1Z {w : World} {ops : Array Oper} {o : Oper} {a : Act} {K : Act → World → Prop} {Q : Exit → Act → World → Prop} {E : Prop} (hgd : o.guard = none) (s x : Operand)
  (ho : o.op = .call { callee := .builtin .append, args := #[s, x], argTypes := #[29, 29] })
  (lo mid : Nat) (A : Option Addr) (n c : Nat) (xss : List (List Int)) (hs : a.eval s = .slice A n c) (hown : Owns w lo mid A n c xss)
  (g c2 : Nat) (v : Value) (ys : List Int) (hx : a.eval x = .slice (some ⟨g, 0, none⟩) 1 c2) (hy : w.cell? ⟨g, 0, none⟩ = some v) (hv : Inn w mid w.heap.size v ys) (hn : n ≤ 1048576) (hlo : lo ≤ mid) (hmid : mid ≤ w.heap.size) (H : Nat) (hH : w.heap.size = H)
  (h : ∀ g' c' w', Owns w' lo w'.heap.size (some ⟨g', 0, none⟩) (n + 1) c' (xss ++ [ys]) → w.grownBy w' (blk A) → (blk A = some g' ∨ g' = H) → Below lo w w' → (∀ j u, j < n + 1 → w'.cell? ⟨g', j, none⟩ = some u → (∃ b, j < n ∧ A = some ⟨b, 0, none⟩ ∧ w.cell? ⟨b, j, none⟩ = some u) ∨ (j = n ∧ u = v)) → K (a.put o.dst (.slice (some ⟨g', 0, none⟩) (n + 1) c')) w') :
  if Region.wanted o (yielded ops a.tmps) = true then Oper.wp Try.prog o a w K Q else E := by
 obtain ⟨i0, hi, hz0, hz1, hz2⟩ := info_parts info_list
 obtain ⟨hlen, ⟨vs, hr, hin, hap⟩, htop⟩ := hown
 have hvl : vs.length = n := by have := hr.1; omega
 have hvc : v.oneCell' = true := by obtain ⟨A1, c1, rfl, _⟩ := hv; rfl
 refine step_append_lies w hgd s x 29 ho lo 24 i0 (.slice none 0 0) 1 24 Try.underlying29 hi hz0 hz1 hz2 rfl (by decide) (.slice A n c) n vs hs hr
  ⟨g, 0, none⟩ 1 c2 [v] hx rfl (fun j u hj => ?_) (fun u hu => ?_) (by omega) (by unfold maxLen; omega) (by omega) (by omega) H hH ?_
 ·match j, hj with
  | 0, hj => simp at hj; subst hj; simpa [Addr.add] using hy
 ·simp at hu; subst hu; exact hvc
 ·intro g' c' w' hown' hg hat hlt
  rw [blk_own] at hg hat
  have hsz := hg.size
  have hne : ∀ {u : Value} {zs : List Int} {l2 h2 : Nat}, Inn w l2 h2 u zs → u.ownBlock = none ∨ u.ownBlock ≠ blk A := fun {u zs l2 h2} hu => by
   rcases own_form hr with ⟨rfl, _⟩ | ⟨g', cur, rfl, _, hrow, _⟩
   ·cases e : u.ownBlock with
    | none => exact .inl rfl
    | some z => exact .inr (fun e2 => by cases e2)
   ·exact .inr (hu.ne hrow)
  have hget : ∀ j, j < n → (vs ++ [v]).getD j undef = vs.getD j undef := fun j hj => by simp [List.getD, List.getElem?_append_left (show j < vs.length by omega)]
  have hget2 : ∀ j, j < n → (xss ++ [ys]).getD j [] = xss.getD j [] := fun j hj => by simp [List.getD, List.getElem?_append_left (show j < xss.length by omega)]
  have hnew : (vs ++ [v]).getD n undef = v := by simp [List.getD, ← hvl]
  have hnew2 : (xss ++ [ys]).getD n [] = ys := by simp [List.getD, ← hlen]
  refine h g' c' w' ⟨by simp [hlen], ⟨vs ++ [v], hown', fun j hj => ?_, fun i j k hij hj e1 e2 => ?_⟩, fun k hk => (World.ownsRow.lt hown' k (by rw [blk_own]; exact hk)).2⟩ hg hat ?_ ?_
  ·by_cases e : j = n
   ·subst e
    rw [hnew, hnew2]
    exact (hv.kept hg (hne hv)).wider (by omega) (by omega)
   ·rw [hget j (by omega), hget2 j (by omega)]
    exact ((hin j (by omega)).kept hg (hne (hin j (by omega)))).wider (Nat.le_refl _) (by omega)
  ·by_cases e : j = n
   ·subst e
    rw [hget i hij] at e1
    rw [hnew] at e2
    have h1 := ((hin i hij).blk k e1).2.1
    have h2 := (hv.blk k e2).1
    omega
   ·rw [hget i (by omega)] at e1
    rw [hget j (by omega)] at e2
    exact hap i j k hij (by omega) e1 e2
  ·refine (Below.refl lo w).grown hg (by omega) (fun k hk => ?_)
   exact (World.ownsRow.lt hr k (by rw [blk_own]; exact hk)).1
  ·intro j u hj hc
   rcases own_form (n := n + 1) hown' with ⟨e, _⟩ | ⟨g2, cur, e, _, hrow, _, _, _, _, hcell⟩
   ·cases e
   ·injection e with e
    injection e with e1
    subst e1
    rw [hrow.cell j, hcell j hj] at hc
    injection hc with hc
    by_cases e : j = n
    ·subst e
     rw [hnew] at hc
     exact .inr ⟨rfl, hc.symm⟩
    ·refine .inl ?_
     rw [hget j (by omega)] at hc
     rcases own_form (n := n) hr with ⟨_, hz, _⟩ | ⟨g3, cur3, e3, _, hrow3, _, _, _, _, hcell3⟩
     ·omega
     ·exact ⟨g3, by omega, e3, by rw [hrow3.cell j, hcell3 j (by omega), hc]⟩
end appStep
end
end Go.Proofs.Ytgfgaeagbipobaa
