/-
  MERGED: my texts PkLink, PeakAtImpl, KindsQ, Shelf, Sorted, VarsSort, VarsImpl, RuleImplC, RuleImplD, RuleSpecB, RuleSpecC, RuleImplE, PkTerms, ParMath, ParRoot, ParSpec, ParImpl, ParX, OpenX, one behind the other, as they are. By an AI agent.
-/
import Derived.Test.YtlmofkeemlfpgaaGreatMFnExactWeaklyIn9
import Derived.Deep.RegionHeld3
import Derived.Shelf.SlGeneric
import Derived.Ground.SlgnProg
import Derived.Shelf.SortG.Plain
import Derived.Shelf.SortG.SortNone
import Derived.Shelf.SlicesG.CompactI
import Derived.Test.YtlmofkeemlfpgaaGreatProg
import Derived.BigQuiet
import Derived.Deep.QuietTactic
import Derived.BigRegion
import Derived.ProofKit
import Derived.OpenShut
import Derived.Lib.SmallJoins
import Derived.Deep.Slices
import Derived.Deep.Fields
namespace Go.Proofs.YtlmofkeemlfpgaaGreat
section
namespace pkLink
open sig term termOk termFacts sub endAt fillMath renMath renImpl matchMath unifMath forest triMath ufMath nodes ruleMath pkMath putMath put trySpec ovStart pkVars pkMgu pkFacts peakRun
set_option maxRecDepth 100000
theorem part_len {L : Nat → List Int} : ∀ {t : List Int} {y : Int}, y ∈ t → (rep L y).length ≤ (fillL L t).length
 | x :: r, y, hy => by
  rw [fill_cons, List.length_append]
  rcases List.mem_cons.1 hy with e | e
  ·rw [e]; omega
  ·have := part_len (L := L) e; omega
def t61 (F : Nat → List Int) (i : Nat) : List Int := (F i).take 61
theorem t61_same {F : Nat → List Int} {t : List Int} (h : ∀ x ∈ t, x < 0 → (F (vr x)).length ≤ 61) : fillL (t61 F) t = fillL F t := fill_ext fun x hx h0 => List.take_of_length_le (h x hx h0)
theorem t61_long {F : Nat → List Int} {t : List Int} (h : 60 < (fillL F t).length) : 60 < (fillL (t61 F) t).length := by
 by_cases hb : ∀ x ∈ t, x < 0 → (F (vr x)).length ≤ 61
 ·rw [t61_same hb]; exact h
 ·have : ∃ x, x ∈ t ∧ x < 0 ∧ ¬ (F (vr x)).length ≤ 61 := Classical.byContradiction fun hc => hb fun x hx h0 => Classical.byContradiction fun h1 => hc ⟨x, hx, h0, h1⟩
  obtain ⟨x, hx, h0, h1⟩ := this
  have h2 := part_len (L := t61 F) hx
  rw [rep_vr h0] at h2
  unfold t61 at h2
  rw [List.length_take] at h2
  unfold t61
  omega
section
variable {sg : List Int} {o t : List Int}
theorem by_len : (byL o t).length = t.length := by unfold byL; rw [List.length_map]
theorem by_fo {q : Nat} (h : Fo sg q t) : Fo sg q (byL o t) := by
 unfold byL
 rw [← renPure.ren_fill]
 exact h.fill fun i => Fo.vt _
theorem by_low (h24 : o.length ≤ 24) (hv : ∀ x ∈ t, x < 0 → x ∈ o) : ∀ x ∈ byL o t, -24 ≤ x := fun x hx => by
 unfold byL at hx
 obtain ⟨y, hy, rfl⟩ := List.mem_map.1 hx
 unfold ren
 split
 ·rename_i h0
  have := idx_lt (hv y hy h0)
  omega
 ·omega
theorem by_ok (hs : sigOkB sg = true) (h : Fo sg 1 t) (h24 : o.length ≤ 24) (hv : ∀ x ∈ t, x < 0 → x ∈ o) : termOkB sg (byL o t) = decide (t.length ≤ 60) := by
 by_cases h60 : t.length ≤ 60
 ·rw [decide_eq_true h60]
  exact term_mk hs (by rw [by_len]; exact h60) (scan_fo (by_fo h) (by_low h24 hv))
 ·rw [decide_eq_false h60]
  cases hb : termOkB sg (byL o t) with
  | false => rfl
  | true =>
   have := (term_len hb).2
   rw [by_len] at this
   omega
theorem by_app (a b : List Int) : byL o (a ++ b) = byL o a ++ byL o b := by unfold byL; rw [List.map_append]
theorem ren_same {R : List Int} (h : ∀ x ∈ R, x < 0 → x ∈ o) : renF o R = byL o R := by
 unfold renF byL
 rw [ordF_same h]
end
section
variable {sg : List Int} {rs : List Rl} {o a u : Nat} {lk : List Nat} {rt rk : Nat → Nat} {D : List Nat}
noncomputable def fF (sg : List Int) (rs : List Rl) (o u : Nat) (rt : Nat → Nat) (D : List Nat) : Nat → List Int := ufMath.wL ((lh rs o).length + (lh rs u).length) (fun i => (lh rs o ++ lh rs u).getD i 0) (nodes.nd sg (lh rs o ++ lh rs u) (lh rs o ++ shiftL 24 (lh rs u))) (chN sg (lh rs o ++ lh rs u)) rt D
structure Hy (sg : List Int) (rs : List Rl) (o a u : Nat) (lk : List Nat) (rt rk : Nat → Nat) (D : List Nat) : Prop where
 lo : termOkB sg (lh rs o) = true
 ro : termOkB sg (rh rs o) = true
 lu : termOkB sg (lh rs u) = true
 ru : termOkB sg (rh rs u) = true
 vo : ∀ x, x ∈ rh rs o → x < 0 → x ∈ lh rs o
 vu : ∀ x, x ∈ rh rs u → x < 0 → x ∈ lh rs u
 ha : a < (lh rs o).length
 wh : Whole sg ((lh rs o).length + (lh rs u).length) (fun i => (lh rs o ++ lh rs u).getD i 0) (nodes.nd sg (lh rs o ++ lh rs u) (lh rs o ++ shiftL 24 (lh rs u))) (chN sg (lh rs o ++ lh rs u)) (inn sg (lh rs o) a) a (lh rs o).length lk rt rk D
theorem Hy.uni (h : Hy sg rs o a u lk rt rk D) : Unis sg (oS sg rs o a) (oT rs u) (fF sg rs o u rt D) := by
 have := h.wh.unis
 rw [nd_lo (term_parts h.lo).2.2 h.ha, nd_lu (term_parts h.lu).2.2] at this
 exact this
theorem nd_var (h : Hy sg rs o a u lk rt rk D) {i : Nat} (hi : i < (lh rs o).length + (lh rs u).length) (h0 : (lh rs o ++ lh rs u).getD i 0 < 0) : nodes.nd sg (lh rs o ++ lh rs u) (lh rs o ++ shiftL 24 (lh rs u)) i = [(lh rs o ++ shiftL 24 (lh rs u)).getD i 0] := by
 obtain ⟨j, hj⟩ := sc_all (sg := sg) (term_parts h.lo).2.2 (term_parts h.lu).2.2 hi
 exact (nd_all (twin _ _) _ i j hj (Nat.le_refl _)).2.2 h0
theorem at_lo (h : Hy sg rs o a u lk rt rk D) {x : Int} (hx : x ∈ lh rs o) (h0 : x < 0) : idx (lh rs o) x < (lh rs o).length + (lh rs u).length ∧ (lh rs o ++ lh rs u).getD (idx (lh rs o) x) 0 = x ∧ nodes.nd sg (lh rs o ++ lh rs u) (lh rs o ++ shiftL 24 (lh rs u)) (idx (lh rs o) x) = [x] := by
 have hl := idx_lt hx
 have e1 : (lh rs o ++ lh rs u).getD (idx (lh rs o) x) 0 = x := by rw [get_lo hl]; exact idx_get hx
 refine ⟨by omega, e1, ?_⟩
 rw [nd_var h (by omega) (by rw [e1]; exact h0), get_lo hl, idx_get hx]
theorem at_lu (h : Hy sg rs o a u lk rt rk D) {y : Int} (hy : y ∈ lh rs u) (h0 : y < 0) : (lh rs o).length + idx (lh rs u) y < (lh rs o).length + (lh rs u).length ∧ (lh rs o ++ lh rs u).getD ((lh rs o).length + idx (lh rs u) y) 0 = y ∧ nodes.nd sg (lh rs o ++ lh rs u) (lh rs o ++ shiftL 24 (lh rs u)) ((lh rs o).length + idx (lh rs u) y) = [y - 24] := by
 have hl := idx_lt hy
 have e1 : (lh rs o ++ lh rs u).getD ((lh rs o).length + idx (lh rs u) y) 0 = y := by rw [get_lu]; exact idx_get hy
 refine ⟨by omega, e1, ?_⟩
 rw [nd_var h (by omega) (by rw [e1]; exact h0), get_lu, get_sh hl, idx_get hy]
 unfold sh
 rw [if_pos h0]
theorem occ_lo (h : Hy sg rs o a u lk rt rk D) {x : Int} (hx : x ∈ lh rs o) (h0 : x < 0) : Occ ((lh rs o).length + (lh rs u).length) (fun i => (lh rs o ++ lh rs u).getD i 0) (nodes.nd sg (lh rs o ++ lh rs u) (lh rs o ++ shiftL 24 (lh rs u))) (vr x) := by
 obtain ⟨h1, h2, h3⟩ := at_lo h hx h0
 exact ⟨_, h1, by show (lh rs o ++ lh rs u).getD _ 0 < 0; rw [h2]; exact h0, by rw [h3, at_vr h0]⟩
theorem occ_lu (h : Hy sg rs o a u lk rt rk D) {x : Int} (hx : x ∈ shiftL 24 (lh rs u)) (h0 : x < 0) : Occ ((lh rs o).length + (lh rs u).length) (fun i => (lh rs o ++ lh rs u).getD i 0) (nodes.nd sg (lh rs o ++ lh rs u) (lh rs o ++ shiftL 24 (lh rs u))) (vr x) := by
 obtain ⟨y, hy, rfl⟩ := List.mem_map.1 hx
 have hy0 : y < 0 := by
  unfold sh at h0
  split at h0
  ·assumption
  ·omega
 have e : sh 24 y = y - 24 := by unfold sh; rw [if_pos hy0]
 obtain ⟨h1, h2, h3⟩ := at_lu h hy hy0
 exact ⟨_, h1, by show (lh rs o ++ lh rs u).getD _ 0 < 0; rw [h2]; exact hy0, by rw [h3, at_vr h0, e]⟩
theorem tl_lo (h : Hy sg rs o a u lk rt rk D) {x : Int} (hx : x ∈ lh rs o) (h0 : x < 0) : Tl sg rs o u rt D 0 (vr x) = t61 (fF sg rs o u rt D) (vr x) := by
 obtain ⟨h1, h2, h3⟩ := at_lo h hx h0
 have hw := h.wh.wL _ x h1 (by show (lh rs o ++ lh rs u).getD _ 0 < 0; rw [h2]; exact h0) h3
 unfold Tl t61 fF
 rw [hw, at_vr h0, List.drop_zero, Nat.zero_add]
 unfold numsO
 rw [idx_app_mem hx]
 rfl
theorem tl_lu (h : Hy sg rs o a u lk rt rk D) {y : Int} (hy : y ∈ lh rs u) (h0 : y < 0) : Tl sg rs o u rt D (lh rs o).length (vr y) = t61 (fF sg rs o u rt D) (vr y + 24) := by
 obtain ⟨h1, h2, h3⟩ := at_lu h hy h0
 have hw := h.wh.wL _ _ h1 (by show (lh rs o ++ lh rs u).getD _ 0 < 0; rw [h2]; exact h0) h3
 have ev : vr (y - 24) = vr y + 24 := by unfold vr; omega
 rw [ev] at hw
 unfold Tl t61 fF
 rw [hw, at_vr h0]
 unfold numsO
 rw [List.drop_left]
 rfl
theorem fill_shift (F : Nat → List Int) (t : List Int) : fillL F (shiftL 24 t) = fillL (fun i => F (i + 24)) t := by
 have := shift_fill (k := 24) t
 rw [show ((24 : Nat) : Int) = 24 from rfl] at this
 rw [← this, fill_fill]
 exact fill_ext fun x _ _ => fill_vti F _
theorem link_F (h : Hy sg rs o a u lk rt rk D) : pk3 (fillL (fF sg rs o u rt D) (lh rs o)) (fillL (fF sg rs o u rt D) (leftA sg rs o a u)) (fillL (fF sg rs o u rt D) (rh rs o)) = pkV sg rs o a u := by
 have ns := nd_lo (sg := sg) (lu := lh rs u) (term_parts h.lo).2.2 h.ha
 have nt := nd_lu (sg := sg) (lo := lh rs o) (term_parts h.lu).2.2
 have oS_in : ∀ x ∈ oS sg rs o a, x ∈ lh rs o := fun x hx => List.mem_of_mem_drop (List.mem_of_mem_take hx)
 have hm := lF_mgu h.wh (fun x hx h0 => by rw [ns] at hx; exact occ_lo h (oS_in x hx) h0) (fun x hx h0 => by rw [nt] at hx; exact occ_lu h hx h0)
 rw [ns, nt] at hm
 rw [← pkV_of h.lo h.ha h.vo h.vu hm]
 have oA : ∀ x ∈ leftA sg rs o a u, x < 0 → Occ ((lh rs o).length + (lh rs u).length) (fun i => (lh rs o ++ lh rs u).getD i 0) (nodes.nd sg (lh rs o ++ lh rs u) (lh rs o ++ shiftL 24 (lh rs u))) (vr x) := fun x hx h0 => by
  unfold leftA at hx
  rcases List.mem_append.1 hx with hx | hx
  ·exact occ_lo h (List.mem_of_mem_take hx) h0
  ·rcases List.mem_append.1 hx with hx | hx
   ·obtain ⟨y, hy, rfl⟩ := List.mem_map.1 hx
    have hy0 : y < 0 := by
     unfold sh at h0
     split at h0
     ·assumption
     ·omega
    exact occ_lu h (List.mem_map.2 ⟨y, h.vu y hy hy0, rfl⟩) h0
   ·exact occ_lo h (List.mem_of_mem_drop hx) h0
 have back : ∀ X : List Int, fillL (fF sg rs o u rt D) X = fillL (fF sg rs o u rt D) (fillL (lF ((lh rs o).length + (lh rs u).length) (fun i => (lh rs o ++ lh rs u).getD i 0) (nodes.nd sg (lh rs o ++ lh rs u) (lh rs o ++ shiftL 24 (lh rs u))) (chN sg (lh rs o ++ lh rs u)) rt D) X) := fun X => by
  rw [fill_fill]
  exact fill_ext fun x _ _ => (hm.gen _ h.uni _).symm
 exact pk_same (fun i => (nu_fo h.wh i).pos) (fun i => (h.uni.1 i).pos) (lF_fill fun x hx h0 => occ_lo h hx h0) (lF_fill oA) (lF_fill fun x hx h0 => occ_lo h (h.vo x hx h0) h0) (back _) (back _) (back _) (left_vars h.lo h.ha h.vu h.uni.2) (right_vars h.vo)
theorem top_long (h : Hy sg rs o a u lk rt rk D) (hl : 60 < (fillL (fF sg rs o u rt D) (lh rs o)).length) : okI sg rs o a u rt D = false := by
 have e : topI sg rs o u rt D = fillL (t61 (fF sg rs o u rt D)) (lh rs o) := fill_ext fun x hx h0 => tl_lo h hx h0
 have h1 := t61_long hl
 rw [← e] at h1
 have h2 : termOkB sg (topR sg rs o u rt D) = false := by
  cases hb : termOkB sg (topR sg rs o u rt D) with
  | false => rfl
  | true =>
   have := (term_len hb).2
   unfold topR renF at this
   rw [List.length_map] at this
   omega
 unfold okI putB thereB
 rw [h2]
 rfl
theorem link_short (h : Hy sg rs o a u lk rt rk D) (hl : (fillL (fF sg rs o u rt D) (lh rs o)).length ≤ 60) : pkI sg rs o a u rt D = pkO (pk3 (fillL (fF sg rs o u rt D) (lh rs o)) (fillL (fF sg rs o u rt D) (leftA sg rs o a u)) (fillL (fF sg rs o u rt D) (rh rs o))) o a u ∧ okI sg rs o a u rt D = (pk3 (fillL (fF sg rs o u rt D) (lh rs o)) (fillL (fF sg rs o u rt D) (leftA sg rs o a u)) (fillL (fF sg rs o u rt D) (rh rs o))).isSome := by
 have hun := h.uni
 obtain ⟨F, hF⟩ : ∃ F, fF sg rs o u rt D = F := ⟨_, rfl⟩
 have tlo : ∀ {x : Int}, x ∈ lh rs o → x < 0 → Tl sg rs o u rt D 0 (vr x) = t61 F (vr x) := fun hx h0 => by rw [← hF]; exact tl_lo h hx h0
 have tlu : ∀ {y : Int}, y ∈ lh rs u → y < 0 → Tl sg rs o u rt D (lh rs o).length (vr y) = t61 F (vr y + 24) := fun hx h0 => by rw [← hF]; exact tl_lu h hx h0
 rw [hF] at hl hun ⊢
 -- what is filled
 have p60 : ∀ x ∈ lh rs o, x < 0 → (F (vr x)).length ≤ 61 := fun x hx h0 => by
  have := part_len (L := F) hx
  rw [rep_vr h0] at this
  omega
 have eL := fill_lo (θ := F) h.lo h.ha
 have hS : (fillL F (oS sg rs o a)).length ≤ 60 := by
  rw [eL, List.length_append, List.length_append] at hl
  omega
 have q60 : ∀ y ∈ lh rs u, y < 0 → (F (vr y + 24)).length ≤ 61 := fun y hy h0 => by
  have h1 : sh 24 y ∈ shiftL 24 (lh rs u) := List.mem_map.2 ⟨y, hy, rfl⟩
  have h2 := part_len (L := F) h1
  have e : sh 24 y = y - 24 := by unfold sh; rw [if_pos h0]
  rw [e, rep_vr (by omega), show vr (y - 24) = vr y + 24 by unfold vr; omega] at h2
  have h3 := hun.2
  unfold oT at h3
  rw [← h3] at h2
  omega
 have eT : topI sg rs o u rt D = fillL F (lh rs o) := (fill_ext fun x hx h0 => tlo hx h0).trans (t61_same p60)
 have eR : rightI sg rs o u rt D = fillL F (rh rs o) := (fill_ext fun x hx h0 => tlo (h.vo x hx h0) h0).trans (t61_same fun x hx h0 => p60 x (h.vo x hx h0) h0)
 have eF : frontI sg rs o a u rt D = fillL F ((lh rs o).take a) := (fill_ext fun x hx h0 => tlo (List.mem_of_mem_take hx) h0).trans (t61_same fun x hx h0 => p60 x (List.mem_of_mem_take hx) h0)
 have eM : midI sg rs o u rt D = fillL F (shiftL 24 (rh rs u)) := by
  rw [fill_shift]
  unfold midI
  refine fill_ext fun x hx h0 => ?_
  show Tl sg rs o u rt D (lh rs o).length (vr x) = F (vr x + 24)
  rw [tlu (h.vu x hx h0) h0]
  exact List.take_of_length_le (q60 x (h.vu x hx h0) h0)
 -- the variables
 obtain ⟨od, hod⟩ : ∃ od, orderL (fillL F (lh rs o)) = od := ⟨_, rfl⟩
 have inO : ∀ {x : Int}, x ∈ fillL F (lh rs o) → x < 0 → x ∈ od := fun hx h0 => by rw [← hod]; exact order_mem.2 ⟨hx, h0⟩
 have vR : ∀ x ∈ fillL F (rh rs o), x < 0 → x ∈ od := fun x hx h0 => inO (right_vars h.vo x hx h0) h0
 have vA : ∀ x ∈ fillL F (leftA sg rs o a u), x < 0 → x ∈ od := fun x hx h0 => inO (left_vars h.lo h.ha h.vu hun.2 x hx h0) h0
 have vF : ∀ x ∈ fillL F ((lh rs o).take a), x < 0 → x ∈ od := fun x hx h0 => inO (by rw [eL]; exact List.mem_append_left _ hx) h0
 have vM : ∀ x ∈ fillL F (shiftL 24 (rh rs u)), x < 0 → x ∈ od := fun x hx h0 => vA x (by rw [fill_left]; exact List.mem_append_right _ (List.mem_append_left _ hx)) h0
 have eo1 : o1I sg rs o u rt D = od := by unfold o1I; rw [eT, ← hod]; rfl
 have eo2 : o2I sg rs o u rt D = od := by unfold o2I; rw [eo1, eR, ordF_same vR]
 have eo3 : o3I sg rs o a u rt D = od := by unfold o3I; rw [eo2, eF, ordF_same vF]
 have rT : topR sg rs o u rt D = byL od (fillL F (lh rs o)) := by
  unfold topR renF byL
  rw [eT, ← hod]
  rfl
 have rR : rightR sg rs o u rt D = byL od (fillL F (rh rs o)) := by unfold rightR; rw [eo1, eR, ren_same vR]
 have rM : midR sg rs o a u rt D = byL od (fillL F (shiftL 24 (rh rs u))) := by unfold midR; rw [eo3, eM, ren_same vM]
 have rP : placeR sg rs o a u rt D = (fillL F ((lh rs o).take a)).length := by unfold placeR; rw [eF]
 have hsig := (term_parts h.lo).1
 have foT : Fo sg 1 (fillL F (lh rs o)) := (fo_term h.lo).fill hun.1
 have foR : Fo sg 1 (fillL F (rh rs o)) := (fo_term h.ro).fill hun.1
 have foM : Fo sg 1 (fillL F (shiftL 24 (rh rs u))) := (fo_shift h.ru).fill hun.1
 have foS : Fo sg 1 (fillL F (oS sg rs o a)) := (fo_term (sub_ok h.lo h.ha)).fill hun.1
 have pS := foS.pos
 by_cases h24 : od.length ≤ 24
 ·have okT : termOkB sg (byL od (fillL F (lh rs o))) = true := by rw [by_ok hsig foT h24 fun x hx h0 => inO hx h0]; exact decide_eq_true hl
  have okR := by_ok hsig foR h24 vR
  have okM := by_ok hsig foM h24 vM
  have hlt : (fillL F ((lh rs o).take a)).length < (byL od (fillL F (lh rs o))).length := by rw [by_len, eL, List.length_append, List.length_append]; omega
  have hth : thereB sg (byL od (fillL F (lh rs o))) ((fillL F ((lh rs o).take a)).length : Nat) = true := by
   unfold thereB endAt.inB
   rw [okT]
   exact decide_eq_true ⟨by omega, by omega⟩
  have eB : byL od (fillL F (lh rs o)) = byL od (fillL F ((lh rs o).take a)) ++ (byL od (fillL F (oS sg rs o a)) ++ byL od (fillL F ((lh rs o).drop (a + (oS sg rs o a).length)))) := by rw [eL, by_app, by_app]
  have hl1 : len1 sg (byL od (fillL F (lh rs o))) (fillL F ((lh rs o).take a)).length = (fillL F (oS sg rs o a)).length := by
   refine len1_eq ?_
   rw [eB]
   have e9 : (fillL F ((lh rs o).take a)).length = (byL od (fillL F ((lh rs o).take a))).length := by rw [by_len]
   rw [e9, List.drop_left]
   have := scan_fo (by_fo (o := od) foS) (by_low h24 fun x hx h0 => inO (by rw [eL]; exact List.mem_append_right _ (List.mem_append_left _ hx)) h0)
   rw [by_len] at this
   exact termMath.scan_append this
  have ePut : putI sg (byL od (fillL F (lh rs o))) (byL od (fillL F (shiftL 24 (rh rs u)))) (fillL F ((lh rs o).take a)).length = byL od (fillL F (leftA sg rs o a u)) := by
   unfold putI putL
   rw [hl1, fill_left, by_app, by_app, eB]
   have e9 : (fillL F ((lh rs o).take a)).length = (byL od (fillL F ((lh rs o).take a))).length := by rw [by_len]
   have e8 : (fillL F (oS sg rs o a)).length = (byL od (fillL F (oS sg rs o a))).length := by rw [by_len]
   rw [e9, e8, List.take_left, ← List.drop_drop, List.drop_left, List.drop_left]
  have hA60 : (fillL F (shiftL 24 (rh rs u))).length ≤ (fillL F (leftA sg rs o a u)).length := by rw [fill_left, List.length_append, List.length_append]; omega
  have eput : putB sg (byL od (fillL F (lh rs o))) (byL od (fillL F (shiftL 24 (rh rs u)))) ((fillL F ((lh rs o).take a)).length : Nat) = decide ((fillL F (leftA sg rs o a u)).length ≤ 60) := by
   unfold putB fitB
   rw [hth, okM, Int.toNat_natCast, ePut, by_len]
   by_cases hA : (fillL F (leftA sg rs o a u)).length ≤ 60
   ·rw [decide_eq_true hA, decide_eq_true (show (fillL F (shiftL 24 (rh rs u))).length ≤ 60 by omega)]
    rfl
   ·rw [decide_eq_false hA, Bool.and_false]
  have eok : okI sg rs o a u rt D = (decide ((fillL F (leftA sg rs o a u)).length ≤ 60) && decide ((fillL F (rh rs o)).length ≤ 60)) := by
   unfold okI
   rw [rT, rM, rP, rR, eput, okR]
  by_cases hA : (fillL F (leftA sg rs o a u)).length ≤ 60
  ·by_cases hR : (fillL F (rh rs o)).length ≤ 60
   ·have e1 : okI sg rs o a u rt D = true := by rw [eok, decide_eq_true hA, decide_eq_true hR]; rfl
    have e2 : pk3 (fillL F (lh rs o)) (fillL F (leftA sg rs o a u)) (fillL F (rh rs o)) = some (byL od (fillL F (lh rs o)), byL od (fillL F (leftA sg rs o a u)), byL od (fillL F (rh rs o))) := by
     unfold pk3
     rw [hod, if_pos ⟨hl, hA, hR, h24⟩]
    have e3 : leftR sg rs o a u rt D = byL od (fillL F (leftA sg rs o a u)) := by
     unfold leftR putR
     rw [rT, rM, rP, eput, if_pos (decide_eq_true hA), Int.toNat_natCast, ePut]
    refine ⟨?_, by rw [e1, e2]; rfl⟩
    unfold pkI
    rw [if_pos e1, e2, rT, rR, e3]
    rfl
   ·have e1 : okI sg rs o a u rt D = false := by rw [eok, decide_eq_false hR, Bool.and_false]
    have e2 : pk3 (fillL F (lh rs o)) (fillL F (leftA sg rs o a u)) (fillL F (rh rs o)) = none := by unfold pk3; rw [if_neg fun h => hR h.2.2.1]
    exact ⟨by rw [(pk_off e1).1, e2]; rfl, by rw [e1, e2]; rfl⟩
  ·have e1 : okI sg rs o a u rt D = false := by rw [eok, decide_eq_false hA, Bool.false_and]
   have e2 : pk3 (fillL F (lh rs o)) (fillL F (leftA sg rs o a u)) (fillL F (rh rs o)) = none := by unfold pk3; rw [if_neg fun h => hA h.2.1]
   exact ⟨by rw [(pk_off e1).1, e2]; rfl, by rw [e1, e2]; rfl⟩
 ·have okT : termOkB sg (byL od (fillL F (lh rs o))) = false := by
   cases hb : termOkB sg (byL od (fillL F (lh rs o))) with
   | false => rfl
   | true =>
    exfalso
    have h25 : 24 < od.length := by omega
    have hm : od.getD 24 0 ∈ od := by rw [List.getD_eq_getElem?_getD, List.getElem?_eq_getElem h25]; exact List.getElem_mem _
    have hm2 := hm
    rw [← hod] at hm2
    obtain ⟨hx, h0⟩ := order_mem.1 hm2
    have hi : idx od (od.getD 24 0) = 24 := idx_nodup (by rw [← hod]; exact order_nodup _) h25 rfl
    rw [hod] at hx h0
    have : ren od (od.getD 24 0) ∈ byL od (fillL F (lh rs o)) := List.mem_map.2 ⟨_, hx, rfl⟩
    have h1 := (term_mem hb this).1
    unfold ren at h1
    rw [if_pos h0, hi] at h1
    omega
  have e1 : okI sg rs o a u rt D = false := by
   unfold okI putB thereB
   rw [rT, okT]
   rfl
  have e2 : pk3 (fillL F (lh rs o)) (fillL F (leftA sg rs o a u)) (fillL F (rh rs o)) = none := by unfold pk3; rw [hod, if_neg fun h => h24 h.2.2.2]
  exact ⟨by rw [(pk_off e1).1, e2]; rfl, by rw [e1, e2]; rfl⟩
theorem link (h : Hy sg rs o a u lk rt rk D) : pkI sg rs o a u rt D = pkO (pkV sg rs o a u) o a u ∧ okI sg rs o a u rt D = (pkV sg rs o a u).isSome := by
 rw [← link_F h]
 by_cases hl : (fillL (fF sg rs o u rt D) (lh rs o)).length ≤ 60
 ·exact link_short h hl
 ·have e1 := top_long h (by omega)
  have e2 : pk3 (fillL (fF sg rs o u rt D) (lh rs o)) (fillL (fF sg rs o u rt D) (leftA sg rs o a u)) (fillL (fF sg rs o u rt D) (rh rs o)) = none := by unfold pk3; rw [if_neg fun h => hl h.1]
  exact ⟨by rw [(pk_off e1).1, e2]; rfl, by rw [e1, e2]; rfl⟩
end
end pkLink
end
section
namespace peakAtImpl
open Go.RowKit base ints sig term termOk termFacts sym varsOf marks app appAt segs kinds shape kindsR kindsP drawX fillMath matchMath unifMath forest triMath Go.Proofs.YtlmofkeemlfpgaaGreat.look ruleMath ruleSpec peakMath ruleImpl ovImpl linkImpl nodes ufMath finMath finImpl ovStart ovAdd ovAt trySpec pkMath pkVars pkMgu pkAns pkAll
set_option maxRecDepth 100000
theorem hy_of {w : World} {lo : Nat} {A : Option Addr} {n c : Nat} {v : Value} {sg : List Int} {rs : List Rl} {o a u : Nat} {lk : List Nat} {rt rk : Nat → Nat} {D : List Nat} (hok : ∀ k, k < rs.length → ruleOkB sg (rs.getD k ([], [])) = true) (ho : o < rs.length) (hu : u < rs.length) (ha : a < (lh rs o).length)
  (hW : Whole sg ((lh rs o).length + (lh rs u).length) (fun i => (lh rs o ++ lh rs u).getD i 0) (nodes.nd sg (lh rs o ++ lh rs u) (lh rs o ++ shiftL 24 (lh rs u))) (chN sg (lh rs o ++ lh rs u)) (inn sg (lh rs o) a) a (lh rs o).length lk rt rk D) : pkLink.Hy sg rs o a u lk rt rk D :=
 ⟨(rule_parts (hok o ho)).1, (rule_parts (hok o ho)).2.1, (rule_parts (hok u hu)).1, (rule_parts (hok u hu)).2.1, (rule_parts (hok o ho)).2.2.2, (rule_parts (hok u hu)).2.2.2, ha, hW⟩
theorem peakMade (A V : Option Addr) (n c q cv : Nat) (d : Dat sSystem) (o a u lo p : Nat) (w : World) (h : Rd w w.heap.size sSystem [.slice A n c, .slice V q cv] d) (hz : sz sSystem d ≤ 1048576) (hs : sysOkB d.1 d.2 = true) (ho : o < d.2.length) (hu : u < d.2.length) (ha : a < (lh d.2 o).length) (hm : metB d.1 d.2 (o : Int) (a : Int) (u : Int) = true)
  (hM : Made w lo A n c (.slice V q cv) d.1 d.2 o a u p) : Calls Tryz.prog 71 #[.pointer (some ⟨p, 0, none⟩)] w (AnsPk w (pkA d.1 d.2 (o : Int) (a : Int) (u : Int)) (okA d.1 d.2 (o : Int) (a : Int) (u : Int))) := by
 obtain ⟨lb, xc, lc, X, N, lk, rt, rk, D, hOv, hWh⟩ := hM.ex
 obtain ⟨e1, e2⟩ := pkLink.link (hy_of (w := w) (lo := 0) (A := A) (n := n) (c := c) (v := .slice V q cv) (fun k hk => trySpec.sys_rule hs hk) ho hu ha hWh)
 obtain ⟨f1, f2⟩ := pa_yes (o := (o : Int)) (x := (a : Int)) (u := (u : Int)) hs hm
 rw [f1, f2]
 show Calls _ _ _ _ (AnsPk w (pkO (pkV d.1 d.2 o a u) o a u) (pkV d.1 d.2 o a u).isSome)
 rw [← e1, ← e2]
 exact peakRun.peakRun p lb A V X n c q cv xc lc N d o a u lk rt rk D w h hz (fun k hk => trySpec.sys_rule hs hk) ho hu ha hOv hWh
end peakAtImpl
end
section
namespace kindsQ
open Go.RowKit base ints sig cursor marks app sym appAt segs segsHelp segsMark kinds shape kindsP
set_option maxRecDepth 100000
end kindsQ
end
end Go.Proofs.YtlmofkeemlfpgaaGreat
section
namespace Go.Proofs
open Go.Shelf
def Tryz.laysSlgn53_ren : Go.Shelf.Ren := ⟨fun | 53 => 170 | 64 => 179 | 63 => 178 | 78 => 191 | 79 => 192 | 70 => 182 | 71 => 183 | 72 => 184 | 73 => 185 | 74 => 186 | 75 => 187 | 59 => 188 | 76 => 189 | 77 => 190 | 88 => 194 | 89 => 195 | 90 => 196 | 91 => 197 | 92 => 198 | 68 => 199 | 96 => 200 | n => n, fun | 22 => 22 | 23 => 2 | 3 => 3 | 51 => 200 | 0 => 0 | 67 => 214 | 69 => 216 | 4 => 4 | 61 => 208 | 60 => 207 | 44 => 195 | 5 => 5 | 9 => 9 | 75 => 217 | 79 => 221 | 83 => 223 | 84 => 224 | n => n, fun | n => n⟩
theorem Tryz.laysSlgn53 : Go.Proofs.SlLaysN.n53 Tryz.prog Tryz.laysSlgn53_ren := {
 mixed := by kernel_rfl
 f53 := ⟨Tryz.f170.name, by decide, Tryz.func170.trans (congrArg some (by kernel_rfl))⟩
 f59 := ⟨Tryz.f188.name, by decide, Tryz.func188.trans (congrArg some (by kernel_rfl))⟩
 f63 := ⟨Tryz.f178.name, by decide, Tryz.func178.trans (congrArg some (by kernel_rfl))⟩
 f64 := Tryz.func179.trans (congrArg some (by kernel_rfl))
 f68 := ⟨Tryz.f199.name, by decide, Tryz.func199.trans (congrArg some (by kernel_rfl))⟩
 f70 := ⟨Tryz.f182.name, by decide, Tryz.func182.trans (congrArg some (by kernel_rfl))⟩
 f71 := ⟨Tryz.f183.name, by decide, Tryz.func183.trans (congrArg some (by kernel_rfl))⟩
 f72 := ⟨Tryz.f184.name, by decide, Tryz.func184.trans (congrArg some (by kernel_rfl))⟩
 f73 := ⟨Tryz.f185.name, by decide, Tryz.func185.trans (congrArg some (by kernel_rfl))⟩
 f74 := ⟨Tryz.f186.name, by decide, Tryz.func186.trans (congrArg some (by kernel_rfl))⟩
 f75 := ⟨Tryz.f187.name, by decide, Tryz.func187.trans (congrArg some (by kernel_rfl))⟩
 f76 := ⟨Tryz.f189.name, by decide, Tryz.func189.trans (congrArg some (by kernel_rfl))⟩
 f77 := ⟨Tryz.f190.name, by decide, Tryz.func190.trans (congrArg some (by kernel_rfl))⟩
 f78 := Tryz.func191.trans (congrArg some (by kernel_rfl))
 f79 := Tryz.func192.trans (congrArg some (by kernel_rfl))
 f88 := ⟨Tryz.f194.name, by decide, Tryz.func194.trans (congrArg some (by kernel_rfl))⟩
 f89 := Tryz.func195.trans (congrArg some (by kernel_rfl))
 f90 := Tryz.func196.trans (congrArg some (by kernel_rfl))
 f91 := ⟨Tryz.f197.name, by decide, Tryz.func197.trans (congrArg some (by kernel_rfl))⟩
 f92 := ⟨Tryz.f198.name, by decide, Tryz.func198.trans (congrArg some (by kernel_rfl))⟩
 f96 := ⟨Tryz.f200.name, by decide, Tryz.func200.trans (congrArg some (by kernel_rfl))⟩
 t0 := Tryz.underlying0
 a0 := Tryz.isAgg0
 z0 := Tryz.sizeOf0
 v0 := Tryz.zeroValue0
 t3 := Tryz.underlying3
 a3 := Tryz.isAgg3
 z3 := Tryz.sizeOf3
 v3 := Tryz.zeroValue3
 t4 := Tryz.underlying4
 a4 := Tryz.isAgg4
 z4 := Tryz.sizeOf4
 v4 := Tryz.zeroValue4
 t5 := Tryz.underlying5
 a5 := Tryz.isAgg5
 z5 := Tryz.sizeOf5
 v5 := Tryz.zeroValue5
 t9 := Tryz.underlying9
 a9 := Tryz.isAgg9
 z9 := Tryz.sizeOf9
 v9 := Tryz.zeroValue9
 t22 := Tryz.underlying22
 a22 := Tryz.isAgg22
 z22 := Tryz.sizeOf22
 v22 := Tryz.zeroValue22
 t23 := Tryz.underlying2
 a23 := Tryz.isAgg2
 z23 := Tryz.sizeOf2
 v23 := Tryz.zeroValue2
 t44 := Tryz.underlying195
 a44 := Tryz.isAgg195
 z44 := Tryz.sizeOf195
 v44 := Tryz.zeroValue195
 t51 := Tryz.underlying200
 a51 := Tryz.isAgg200
 z51 := Tryz.sizeOf200
 v51 := Tryz.zeroValue200
 t60 := Tryz.underlying207
 a60 := Tryz.isAgg207
 z60 := Tryz.sizeOf207
 v60 := Tryz.zeroValue207
 t61 := Tryz.underlying208
 a61 := Tryz.isAgg208
 z61 := Tryz.sizeOf208
 v61 := Tryz.zeroValue208
 t67 := Tryz.underlying214
 a67 := Tryz.isAgg214
 z67 := Tryz.sizeOf214
 v67 := Tryz.zeroValue214
 t69 := Tryz.underlying216
 a69 := Tryz.isAgg216
 z69 := Tryz.sizeOf216
 v69 := Tryz.zeroValue216
 t75 := Tryz.underlying217
 a75 := Tryz.isAgg217
 z75 := Tryz.sizeOf217
 v75 := Tryz.zeroValue217
 t79 := Tryz.underlying221
 a79 := Tryz.isAgg221
 z79 := Tryz.sizeOf221
 v79 := Tryz.zeroValue221
 t83 := Tryz.underlying223
 a83 := Tryz.isAgg223
 z83 := Tryz.sizeOf223
 v83 := Tryz.zeroValue223
 t84 := Tryz.underlying224
 a84 := Tryz.isAgg224
 z84 := Tryz.sizeOf224
 v84 := Tryz.zeroValue224 }
open Go.Sort Go.RowKit in
theorem Tryz.slices_Sort_int (blk off cap : Nat) (zs : List Int) (w : World) (hH : Holds (Value.int .i64) w blk off zs.toArray) (hblk : blk < w.heap.size) (hsz : zs.length < 4611686018427387904) :
  Calls Tryz.prog 170 #[.slice (some ⟨blk, off, none⟩) zs.length cap] w fun e w' => e = .returned (.tuple #[]) ∧ ∃ n os, w' = grow (putRow (Value.int .i64) (Sort.ahead w n) blk off (zs.mergeSort fun x y => decide (x ≤ y)).toArray) os := AnyG.slices_Sort_int Tryz.laysSlgn53 blk off cap zs w hH hblk hsz
open Go.Sort Go.RowKit in
theorem Tryz.slices_Sort_int_none (p : Option Addr) (cap : Nat) (w : World) :
  Calls Tryz.prog 170 #[.slice p 0 cap] w fun e w' => e = .returned (.tuple #[]) ∧ w' = w := AnyG.slices_Sort_int_none Tryz.laysSlgn53 p cap w
def Tryz.laysSlgn43_ren : Go.Shelf.Ren := ⟨fun | 43 => 171 | n => n, fun | 22 => 22 | 23 => 2 | 3 => 3 | 4 => 4 | 0 => 0 | n => n, fun | n => n⟩
theorem Tryz.laysSlgn43 : Go.Proofs.SlLaysN.n43 Tryz.prog Tryz.laysSlgn43_ren := {
 mixed := by kernel_rfl
 f43 := ⟨Tryz.f171.name, by decide, Tryz.func171.trans (congrArg some (by kernel_rfl))⟩
 t0 := Tryz.underlying0
 a0 := Tryz.isAgg0
 z0 := Tryz.sizeOf0
 v0 := Tryz.zeroValue0
 t3 := Tryz.underlying3
 a3 := Tryz.isAgg3
 z3 := Tryz.sizeOf3
 v3 := Tryz.zeroValue3
 t4 := Tryz.underlying4
 a4 := Tryz.isAgg4
 z4 := Tryz.sizeOf4
 v4 := Tryz.zeroValue4
 t22 := Tryz.underlying22
 a22 := Tryz.isAgg22
 z22 := Tryz.sizeOf22
 v22 := Tryz.zeroValue22
 t23 := Tryz.underlying2
 a23 := Tryz.isAgg2
 z23 := Tryz.sizeOf2
 v23 := Tryz.zeroValue2
 i23 := by kernel_rfl }
open Go.Sort Go.RowKit in
theorem Tryz.slices_Compact_int (blk off cap : Nat) (zs : List Int) (w : World) (hH : Holds (Value.int .i64) w blk off zs.toArray) (hsz : zs.length ≤ 9223372036854775807) (hcap : zs.length ≤ cap) :
  Calls Tryz.prog 171 #[.slice (some ⟨blk, off, none⟩) zs.length cap] w fun e w' => e = .returned (.slice (some ⟨blk, off, none⟩) (Lib.compact zs).length cap) ∧ ∃ q, w' = putRow (Value.int .i64) (Sort.ahead w q) blk off (Lib.compact zs ++ List.replicate (zs.length - (Lib.compact zs).length) 0).toArray := AnyG.slices_Compact_int Tryz.laysSlgn43 blk off cap zs w hH hsz hcap
open Go.Sort Go.RowKit in
theorem Tryz.slices_Compact_int_empty (a : Option Addr) (cap : Nat) (w : World) :
  Calls Tryz.prog 171 #[.slice a 0 cap] w fun e w' => e = .returned (.slice a 0 cap) ∧ w' = w := AnyG.slices_Compact_int_empty Tryz.laysSlgn43 a cap w
end Go.Proofs
end
namespace Go.Proofs.YtlmofkeemlfpgaaGreat
section
namespace sorted
open Go.RowKit base marks app sym appAt segs
set_option maxRecDepth 100000
theorem row_put {w : World} {g : Nat} {t : TypeId} {cs : Array Value} (h : Row w g t cs) (d : Array Int) : Row (Sort.putRow (Value.int .i64) w g 0 d) g t (Sort.putCells (Value.int .i64) 0 d cs) := by
 unfold Row at h ⊢
 show (w.heap.modify g (Sort.onCells (Sort.putCells (Value.int .i64) 0 d)))[g]? = _
 rw [Array.getElem?_modify, if_pos rfl, h]
 rfl
theorem grown_putRow (w : World) (g q : Nat) (d : Array Int) : w.grownBy (Sort.putRow (Value.int .i64) (Sort.ahead w q) g 0 d) (some g) := by
 refine ⟨rfl, rfl, rfl, ?_, fun i hi hne => ?_⟩
 ·show w.heap.size ≤ (w.heap.modify g _).size
  simp
 ·show (w.heap.modify g _)[i]? = _
  rw [Array.getElem?_modify, if_neg (fun e => hne (by rw [e]))]
theorem grown_grow {w w' : World} {r : Option Nat} (h : w.grownBy w' r) (os : Array Obj) : w.grownBy (Sort.grow w' os) r := by
 refine ⟨h.os, h.tape, h.output, by rw [Sort.size_grow]; have := h.size; omega, fun i hi hne => ?_⟩
 rw [Sort.heap_grow_old w' os (Nat.lt_of_lt_of_le hi h.size)]
 exact h.block i hi hne
theorem holds_own {w : World} {g : Nat} {t : TypeId} {cs : Array Value} {xs : List Int} (h : Row w g t cs) (hc : ∀ j, j < xs.length → cs[j]? = some ((xs.map (Value.int .i64)).getD j undef)) : Sort.Holds (Value.int .i64) w g 0 xs.toArray := by
 intro j hj
 have hj' : j < xs.length := by simpa using hj
 refine ⟨?_, by rw [Nat.zero_add]; exact h.free j⟩
 rw [Nat.zero_add, h.cell j, hc j hj']
 simp [List.getD, hj']
theorem putCells_get {cs : Array Value} {d : List Int} {j : Nat} (hj : j < d.length) (hs : d.length ≤ cs.size) : (Sort.putCells (Value.int .i64) 0 d.toArray cs)[j]? = some (.int .i64 (d.getD j 0)) := by
 unfold Sort.putCells
 rw [Array.getElem?_mapIdx, Array.getElem?_eq_getElem (by omega)]
 simp [hj, List.getD]
def AnsSort (w : World) (base : Nat) (A : Option Addr) (n c : Nat) (ys : List Int) (e : Ending) (w' : World) : Prop := e = .returned (.tuple #[]) ∧ Own w' base (.slice A n c) ys ∧ w.grownBy w' (blk A)
def up (xs : List Int) : List Int := xs.mergeSort fun x y => decide (x ≤ y)
theorem sortOwn (base : Nat) (A : Option Addr) (n c : Nat) (xs : List Int) (w : World) (h : Own w base (.slice A n c) xs) (hn : n ≤ 1048576) :
  Calls Tryz.prog 170 #[.slice A n c] w (AnsSort w base A n c (up xs)) := by
 have hl := Own.len h
 subst hl
 rcases own_form (n := xs.length) h with ⟨rfl, h0, rfl, _⟩ | ⟨g, cs, rfl, hb, hr, hnc, hz, hmax, _, hc⟩
 ·have hx : xs = [] := List.eq_nil_of_length_eq_zero h0
  subst hx
  refine (Tryz.slices_Sort_int_none none 0 w).mono ?_
  rintro e w' ⟨rfl, rfl⟩
  exact ⟨rfl, by simpa [up] using h, World.grownBy.refl _ _⟩
 ·have hH := holds_own hr hc
  refine (Tryz.slices_Sort_int g 0 c xs w hH hr.lt (by omega)).mono ?_
  rintro e w' ⟨rfl, n, os, rfl⟩
  have hyl : (up xs).length = xs.length := List.length_mergeSort _
  refine ⟨rfl, ?_, grown_grow (grown_putRow w g n _) os⟩
  have r1 : Row (Sort.ahead w n) g 2 cs := hr
  have r2 := row_put r1 (up xs).toArray
  have r3 : Row (Sort.grow (Sort.putRow (Value.int .i64) (Sort.ahead w n) g 0 (up xs).toArray) os) g 2 _ := (Sort.heap_grow_old _ os r2.lt).trans r2
  exact Own.of_row r3 hyl (by simp [Sort.putCells, hz]) hnc hmax hb (fun j hj => putCells_get (by omega) (by omega))
theorem compact_le (zs : List Int) : (Lib.compact zs).length ≤ zs.length := by
 unfold Lib.compact Lib.compactUpTo
 rw [List.length_map]
 exact Nat.le_trans (List.length_filter_le _ _) (by simp)
def AnsCompact (w : World) (base : Nat) (A : Option Addr) (ys : List Int) (e : Ending) (w' : World) : Prop := ∃ c, e = .returned (.slice A ys.length c) ∧ Own w' base (.slice A ys.length c) ys ∧ w.grownBy w' (blk A)
theorem compactOwn (base : Nat) (A : Option Addr) (n c : Nat) (xs : List Int) (w : World) (h : Own w base (.slice A n c) xs) (hn : n ≤ 1048576) :
  Calls Tryz.prog 171 #[.slice A n c] w (AnsCompact w base A (Lib.compact xs)) := by
 have hl := Own.len h
 subst hl
 rcases own_form (n := xs.length) h with ⟨rfl, h0, rfl, _⟩ | ⟨g, cs, rfl, hb, hr, hnc, hz, hmax, _, hc⟩
 ·have hx : xs = [] := List.eq_nil_of_length_eq_zero h0
  subst hx
  refine (Tryz.slices_Compact_int_empty none 0 w).mono ?_
  rintro e w' ⟨rfl, rfl⟩
  exact ⟨0, rfl, h, World.grownBy.refl _ _⟩
 ·have hH := holds_own hr hc
  have hle : (Lib.compact xs).length ≤ xs.length := compact_le xs
  refine (Tryz.slices_Compact_int g 0 c xs w hH (by omega) hnc).mono ?_
  rintro e w' ⟨rfl, q, rfl⟩
  refine ⟨c, rfl, ?_, grown_putRow w g q _⟩
  have r1 : Row (Sort.ahead w q) g 2 cs := hr
  have r2 := row_put r1 (Lib.compact xs ++ List.replicate (xs.length - (Lib.compact xs).length) 0).toArray
  refine Own.of_row r2 rfl (by simp [Sort.putCells, hz]) (by omega) hmax hb (fun j hj => ?_)
  rw [putCells_get (by simp; omega) (by simp; omega)]
  simp [List.getD, List.getElem?_append_left hj]
end sorted
end
section
namespace varsMath
open term termOk sorted
theorem compact_cons_cons (x y : Int) (r : List Int) : Lib.compact (x :: y :: r) = if x = y then Lib.compact (y :: r) else x :: Lib.compact (y :: r) := by
 unfold Lib.compact Lib.compactUpTo
 have hr : List.range (x :: y :: r).length = 0 :: (List.range (y :: r).length).map (· + 1) := by
  rw [List.length_cons, List.range_succ_eq_map]
 have hr2 : List.range (y :: r).length = 0 :: (List.range r.length).map (· + 1) := by
  rw [List.length_cons, List.range_succ_eq_map]
 have k0 : Lib.keeps (x :: y :: r).toArray 0 = true := by simp [Lib.keeps]
 have k0' : Lib.keeps (y :: r).toArray 0 = true := by simp [Lib.keeps]
 have ks : ∀ j, Lib.keeps (x :: y :: r).toArray (j + 1 + 1) = Lib.keeps (y :: r).toArray (j + 1) := fun j => by
  simp [Lib.keeps]
 have gs : ∀ j, (x :: y :: r).toArray[j + 1]! = (y :: r).toArray[j]! := fun j => by simp
 rw [hr, hr2]
 simp only [List.map_cons, List.filter_cons, k0, k0', if_true, List.filter_map, List.map_map]
 have e1 : Lib.keeps (x :: y :: r).toArray ∘ (fun (j : Nat) => j + 1) ∘ (fun (j : Nat) => j + 1) = Lib.keeps (y :: r).toArray ∘ fun (j : Nat) => j + 1 := by
  funext j
  exact ks j
 have k1 : Lib.keeps (x :: y :: r).toArray (0 + 1) = decide (¬ x = y) := by
  simp [Lib.keeps, eq_comm]
 rw [e1, k1]
 have e2 : (fun j => (x :: y :: r).toArray[j]!) ∘ (fun (j : Nat) => j + 1) ∘ (fun (j : Nat) => j + 1) = (fun j => (y :: r).toArray[j]!) ∘ fun (j : Nat) => j + 1 := by
  funext j
  exact gs (j + 1)
 by_cases h : x = y
 ·subst h
  simp [List.map_map, e2]
 ·simp [h, List.map_map, e2]
theorem compact_one (x : Int) : Lib.compact [x] = [x] := by simp [Lib.compact, Lib.compactUpTo, Lib.keeps, List.range_succ]
theorem compact_nil : Lib.compact ([] : List Int) = [] := rfl
theorem compact_sorted : ∀ {l : List Int}, l.Pairwise (· ≤ ·) → Rises (Lib.compact l) ∧ (∀ x, x ∈ Lib.compact l ↔ x ∈ l)
 | [], _ => ⟨List.Pairwise.nil, fun x => by rw [compact_nil]⟩
 | [y], _ => ⟨by rw [compact_one]; simp [Rises], fun x => by rw [compact_one]⟩
 | x :: y :: r, h => by
  have h1 := List.pairwise_cons.1 h
  obtain ⟨h2, h3⟩ := compact_sorted h1.2
  rw [compact_cons_cons]
  by_cases e : x = y
  ·subst e
   rw [if_pos rfl]
   exact ⟨h2, fun z => by rw [h3]; simp⟩
  ·rw [if_neg e]
   refine ⟨List.pairwise_cons.2 ⟨fun z hz => ?_, h2⟩, fun z => by rw [List.mem_cons, h3, List.mem_cons (a := z) (b := x)]⟩
   have h4 := h1.1 y (List.mem_cons_self ..)
   rcases List.mem_cons.1 ((h3 z).1 hz) with e2 | e2
   ·omega
   ·have := (List.pairwise_cons.1 h1.2).1 z e2
    omega
theorem up_sorted (l : List Int) : (up l).Pairwise (· ≤ ·) := by
 have := List.pairwise_mergeSort (le := fun x y => decide (x ≤ y)) (fun a b c h1 h2 => by simp at *; omega) (fun a b => by simp; omega) l
 refine this.imp (fun h => ?_)
 simpa using h
theorem up_mem {l : List Int} {x : Int} : x ∈ up l ↔ x ∈ l := by unfold up; exact List.mem_mergeSort
theorem sorted_vars (t : List Int) : Lib.compact (up (negs t)) = vars t := by
 have h := compact_sorted (up_sorted (negs t))
 refine rises_unique h.1 (vars_rises t) (fun x => ?_)
 rw [h.2, up_mem, vars_mem]
end varsMath
end
end Go.Proofs.YtlmofkeemlfpgaaGreat
section
open Go.Lib (hid)
namespace Go.Proofs.YtlmofkeemlfpgaaGreat.varsOf
open Go.RowKit base ints sig term termOk marks app sym sub segs sorted varsMath termFacts
set_option maxRecDepth 100000
def HeadNegs (w : World) (A : Option Addr) (n c m : Nat) (t : List Int) (out i : Value) (wr : World) : Prop :=
 ∃ (k : Nat) (O : Option Addr) (on oc : Nat), k ≤ m ∧ i = .int .i64 k ∧ out = .slice O on oc ∧ Own wr (w.heap.size + 1) (.slice O on oc) (negs (t.take k)) ∧ Row wr w.heap.size 30 #[.slice A n c] ∧ Below w.heap.size w wr
set_option maxHeartbeats 2000000 in
theorem implVarsOf (A A' : Option Addr) (n c m c' : Nat) (sg t : List Int) (w : World) (h : Seg w w.heap.size A n sg) (h' : Seg w w.heap.size A' m t) (hn : n ≤ 1048576) (hm : m ≤ 1048576) :
  Calls Tryz.prog 149 #[.agg #[.slice A n c], .slice A' m c'] w (AnsList w (varsI sg t)) := by
 obtain ⟨W, hW⟩ : ∃ W, W = w.alloc (.cells #[.slice A n c] 30) := ⟨_, rfl⟩
 have rA : Row W w.heap.size 30 #[.slice A n c] := by rw [hW]; exact Row.new _ _ _
 have bel : Below w.heap.size w W := by rw [hW]; exact (Below.refl _ _).alloc (Nat.le_refl _) _
 have s := (h.below bel).more bel.size
 have s' := (h'.below bel).more bel.size
 have HW := hid hW
 have HL := hid h'.1
 have L := hid (implTermOk A A' n c m c' sg t W s s' hn hm)
 clear hW h s
 cases hok : termOkB sg t with
 | false =>
  have HS := hid hok
  clear hok s' h'
  go_enter Tryz.func149, Tryz.ntmps149
  go_wp2_with fail
  rw [← HW.out]
  refine L.out.mono ?_
  rintro e w1 ⟨he, bb⟩
  rw [HS.out] at he
  subst he
  have F : AnsList w (varsI sg t) (.returned (.slice none 0 0)) w1 := ⟨_, _, _, rfl, by unfold varsI; rw [if_neg (by rw [HS.out]; simp)]; exact Own.nil _ _, next_trans bel bb⟩
  have HF := hid F
  clear F bb bel rA
  go_wp2
  go_ret
  exact HF.out
 | true =>
  have HS := hid hok
  have HV := hid (fun x hx => (term_mem (x := x) hok hx).1)
  clear hok s'
  go_enter Tryz.func149, Tryz.ntmps149
  go_wp2_with fail
  rw [← HW.out]
  refine L.out.mono ?_
  rintro e w1 ⟨he, bb⟩
  rw [HS.out] at he
  subst he
  have S0 : HeadNegs w A n c m t (.slice none 0 0) (.int .i64 0) w1 := ⟨0, _, _, _, Nat.zero_le _, rfl, rfl, by simpa [negs] using Own.nil w1 (w.heap.size + 1), rA.next bb, next_trans bel bb⟩
  have HS0 := hid S0
  clear S0 bb bel rA L
  go_wp2_with fail
  go_loopw [5, 14] (fun out i wr => HeadNegs w A n c m t out i wr) (fun _ i _ => m - (intOf i).toNat)
  case atStart => exact HS0.out
  case round =>
   obtain ⟨k, O, on, oc, hk, rfl, rfl, ho, hr, hb⟩ := hrel
   clear HS0
   have hon : on ≤ m := by have h1 := Own.len ho; have h2 := negs_len (t.take k); simp at h2; have h3 := HL.out; omega
   by_cases hlt : k < m
   ·obtain ⟨b, off, x, rfl, hbb, hx, ex⟩ := h'.spot hlt
    have hx1 : wr.cell? ⟨b, off + k, none⟩ = some (.int .i64 x) := (hb.cell (p := ⟨b, off + k, none⟩) hbb).trans hx
    have hsz := hr.lt
    have hmem : x ∈ t := by
     have hkl : k < t.length := by rw [HL.out]; exact hlt
     have := ex.out
     rw [← this]
     simp [List.getD, hkl]
    have hx24 : -24 ≤ x := HV.out x hmem
    clear hmem hx h'
    by_cases hneg : x < 0
    ·have E := hid (negs_yes (t := t) (k := k) (by rw [HL.out]; exact hlt) ex.out hneg)
     clear ex
     go_wp2_with (at_builtin; refine app1 rfl _ _ rfl (w.heap.size + 1) O on oc (negs (t.take k)) rfl (Own.alloc ho _) wr.heap.size 1 (-1 - x) rfl ((Row.new _ _ _).cell 0) (by omega) (by simp; omega) ?_; intro O' oc' w2 ho2 b2)
     have S : HeadNegs w A n c m t (.slice O' (on + 1) oc') (.int .i64 ((k : Int) + 1)) w2 := ⟨k + 1, O', on + 1, oc', hlt, by simp, rfl, by rw [E.out]; exact ho2, ((hr.alloc _).below b2 (Nat.lt_succ_self _)), ((hb.alloc (Nat.le_of_lt hsz) _).trans (b2.mono (Nat.le_succ _)))⟩
     replace S := hid S
     clear ho2 b2 ho hr hb
     go_wp2
     go_roundw
     case rel => exact S.out
     case measure => simp [intOf]; omega
    ·rw [← negs_no (t := t) (k := k) (by rw [HL.out]; exact hlt) ex.out hneg] at ho
     have S : HeadNegs w A n c m t (.slice O on oc) (.int .i64 ((k : Int) + 1)) wr := ⟨k + 1, O, on, oc, hlt, by simp, rfl, ho, hr, hb⟩
     replace S := hid S
     clear ho hr hb ex
     go_wp2
     go_roundw
     case rel => exact S.out
     case measure => simp [intOf]; omega
   ·rw [List.take_of_length_le (by rw [HL.out]; omega)] at ho
    have hge := Own.ge ho
    have hsz := hr.lt
    have L2 := hid (sortOwn (w.heap.size + 1) O on oc (negs t) wr ho (by omega))
    clear ho hr h'
    go_wp2_with fail
    refine L2.out.mono ?_
    rintro e w2 ⟨rfl, o2, g2⟩
    have b2 := hb.grown g2 hb.size (fun k hk => by have := hge k hk; omega)
    have L3 := hid (compactOwn (w.heap.size + 1) O on oc (up (negs t)) w2 o2 (by omega))
    clear o2 g2 L2 hb
    go_wp2_with fail
    refine L3.out.mono ?_
    rintro e w3 ⟨c3, rfl, o3, g3⟩
    have b3 := b2.grown g3 b2.size (fun k hk => by have := hge k hk; omega)
    have F : AnsList w (varsI sg t) (.returned (.slice O (Lib.compact (up (negs t))).length c3)) w3 := ⟨O, _, c3, rfl, by unfold varsI; rw [if_pos HS.out, ← sorted_vars t]; exact Own.lower o3 (Nat.le_succ _), b3⟩
    have HF := hid F
    clear F o3 g3 b2 b3 L3 hge
    go_wp2
    go_ret
    exact HF.out
end Go.Proofs.YtlmofkeemlfpgaaGreat.varsOf
namespace Go.Proofs.YtlmofkeemlfpgaaGreat.linear
open Go.RowKit base ints sig term termOk marks sym count varsMath termFacts varsOf
def HeadLinV (w : World) (A : Option Addr) (n c : Nat) (V : Option Addr) (vn : Nat) (t : List Int) (i : Value) (wr : World) : Prop :=
 ∃ k : Nat, k ≤ vn ∧ i = .int .i64 k ∧ (∀ j, j < k → many t (-1 - (vars t).getD j 0) ≤ 1) ∧ Seg wr wr.heap.size V vn (vars t) ∧ Row wr w.heap.size 30 #[.slice A n c] ∧ Below w.heap.size w wr
theorem vars_neg {t : List Int} {x : Int} : x ∈ vars t ↔ (-1 - x ∈ t ∧ 0 ≤ x) := by
 rw [vars_mem]
 unfold negs
 rw [List.mem_map]
 constructor
 ·rintro ⟨y, hy, rfl⟩
  rw [List.mem_filter] at hy
  have h1 : y < 0 := by simpa using hy.2
  exact ⟨by rw [show -1 - (-1 - y) = y by omega]; exact hy.1, by omega⟩
 ·rintro ⟨h1, h2⟩
  exact ⟨-1 - x, List.mem_filter.2 ⟨h1, by simp; omega⟩, by omega⟩
set_option maxHeartbeats 2000000 in
theorem implLinearIn (A A' : Option Addr) (n c m c' : Nat) (sg t : List Int) (w : World) (h : Seg w w.heap.size A n sg) (h' : Seg w w.heap.size A' m t) (hn : n ≤ 1048576) (hm : m ≤ 1048576) :
  Calls Tryz.prog 118 #[.agg #[.slice A n c], .slice A' m c'] w (AnsB w (linearB sg t)) := by
 obtain ⟨W, hW⟩ : ∃ W, W = w.alloc (.cells #[.slice A n c] 30) := ⟨_, rfl⟩
 have rA : Row W w.heap.size 30 #[.slice A n c] := by rw [hW]; exact Row.new _ _ _
 have bel : Below w.heap.size w W := by rw [hW]; exact (Below.refl _ _).alloc (Nat.le_refl _) _
 have s := (h.below bel).more bel.size
 have s' := (h'.below bel).more bel.size
 have HW := hid hW
 have HL := hid h'.1
 have L := hid (implTermOk A A' n c m c' sg t W s s' hn hm)
 clear hW
 cases hok : termOkB sg t with
 | false =>
  have HS := hid hok
  clear hok s s' h h'
  go_enter Tryz.func118, Tryz.ntmps118
  go_wp2_with fail
  rw [← HW.out]
  refine L.out.mono ?_
  rintro e w1 ⟨he, bb⟩
  rw [HS.out] at he
  subst he
  have F := hid (ansB (b := linearB sg t) (a := false) (by unfold linearB; rw [HS.out]; rfl) (next_trans bel bb))
  clear bb bel rA
  go_wp2
  go_ret
  exact F.out
 | true =>
  have HS := hid hok
  have HT := hid (fun x hx => term_mem (x := x) hok hx)
  have H60 := (term_len hok).2
  clear hok
  go_enter Tryz.func118, Tryz.ntmps118
  go_wp2_with fail
  rw [← HW.out]
  refine L.out.mono ?_
  rintro e w1 ⟨he, bb⟩
  rw [HS.out] at he
  subst he
  have L2 := hid (implVarsOf A A' n c m c' sg t w1 (s.next bb) (s'.next bb) hn hm)
  have cA : w1.cell? ⟨w.heap.size, 0, none⟩ = some (.slice A n c) := (rA.next bb).cell 0
  clear L s s'
  go_wp2_with fail
  refine L2.out.mono ?_
  rintro e w2 ⟨V, vn, vc, rfl, o2, b2⟩
  rw [show varsI sg t = vars t from if_pos HS.out] at o2
  have hvn : vn ≤ 60 := by have h1 := Own.len o2; have h2 := vars_len t; omega
  have S0 : HeadLinV w A n c V vn t (.int .i64 0) w2 := ⟨0, Nat.zero_le _, rfl, fun j hj => absurd hj (Nat.not_lt_zero _), Own.seg o2, (rA.next bb).next b2, next_trans (next_trans bel bb) b2⟩
  have HS0 := hid S0
  clear S0 o2 b2 L2 bb bel rA cA
  go_wp2_with fail
  go_loopw [15] (fun i wr => HeadLinV w A n c V vn t i wr) (fun i _ => vn - (intOf i).toNat)
  case atStart => exact HS0.out
  case round =>
   obtain ⟨k, hk, rfl, hlow, sv, hr, hb⟩ := hrel
   have HLOW := hid hlow
   clear hlow HS0
   have HSV := hid sv.1
   by_cases hlt : k < vn
   ·obtain ⟨b, off, x, rfl, -, hx, ex⟩ := sv.spot hlt
    have hmem : x ∈ vars t := by
     have hkl : k < (vars t).length := by rw [HSV.out]; exact hlt
     have := ex.out
     rw [← this]
     simp [List.getD, hkl]
    have hmem2 := vars_neg.1 hmem
    have hx24 := HT.out _ hmem2.1
    have hx0 : 0 ≤ x := hmem2.2
    have hx1 : x ≤ 23 := by omega
    have cA : wr.cell? ⟨w.heap.size, 0, none⟩ = some (.slice A n c) := hr.cell 0
    have L3 := hid (implCountOf A A' n c m c' sg t (-1 - x) wr ((h.below hb).more hb.size) ((h'.below hb).more hb.size) hn hm (by omega) (by omega))
    have EC := hid (show countI sg t (-1 - x) = (many t (-1 - x) : Int) from if_pos HS.out)
    obtain ⟨z, hz⟩ : ∃ z, many t (-1 - x) = z := ⟨_, rfl⟩
    have HZ := hid hz
    clear hz
    have hzl : z ≤ 60 := by rw [← HZ.out]; unfold many; have := cnt_le t (-1 - x) t.length; omega
    have F1 := hid (fun (h1 : 1 < z) => lin_no hmem2.1 (by omega) (by rw [HZ.out]; exact h1))
    clear hmem hmem2 hx24 h h'
    go_wp2_with fail
    refine L3.out.mono ?_
    rintro e w3 ⟨he, b3⟩
    rw [EC.out, HZ.out] at he
    subst he
    have hb3 := next_trans hb b3
    by_cases h1 : 1 < z
    ·have F := hid (ansB (b := linearB sg t) (a := false) (by unfold linearB; rw [HS.out, F1.out h1]; rfl) hb3)
     clear hb3 b3 hb hr sv ex L3 cA
     go_wp2
     go_ret
     exact F.out
    ·have S : HeadLinV w A n c (some ⟨b, off, none⟩) vn t (.int .i64 ((k : Int) + 1)) w3 := ⟨k + 1, hlt, by simp, fun j hj => by
      by_cases e : j = k
      ·subst e; rw [ex.out, HZ.out]; omega
      ·exact HLOW.out j (by omega), sv.next b3, hr.next b3, hb3⟩
     replace S := hid S
     clear hb3 b3 hb hr sv ex L3 cA
     go_wp2
     go_roundw
     case rel => exact S.out
     case measure => simp [intOf]; omega
   ·have F : linB t = true := lin_yes (fun x hx h0 => by
     have h1 : -1 - x ∈ vars t := vars_neg.2 ⟨by rw [show -1 - (-1 - x) = x by omega]; exact hx, by omega⟩
     obtain ⟨j, hj, e⟩ := List.getElem_of_mem h1
     have e2 : (vars t).getD j 0 = -1 - x := by simp [List.getD, hj, e]
     have h3 := HLOW.out j (by rw [HSV.out] at hj; omega)
     rw [e2, show -1 - (-1 - x) = x by omega] at h3
     exact h3)
    have HF := hid (ansB (b := linearB sg t) (a := true) (by unfold linearB; rw [HS.out, F]; rfl) hb)
    clear F hb hr sv h h'
    go_wp2
    go_ret
    exact HF.out
end Go.Proofs.YtlmofkeemlfpgaaGreat.linear
end
namespace Go.Proofs.YtlmofkeemlfpgaaGreat
section
namespace ruleImpl
open Go.RowKit base ints sig term termOk marks app appAt sym segs termFacts varsMath varsOf rename same count linear shape kindsR ruleMath ruleSpec anyR
set_option maxRecDepth 100000
theorem sz_mem {rs : List Rl} {x : Rl} (h : sz sRuleS rs ≤ 1048576) (hx : x ∈ rs) : sz sRule x ≤ 1048576 := by
 obtain ⟨i, hi, rfl⟩ := List.getElem_of_mem hx
 have := sz_each h hi
 have e : rs.getD i (dft sRule) = rs[i] := by simp [List.getD, hi]
 rw [e] at this; exact this
theorem tests_next {g : Nat} {fa lb : Array Value} {w w' : World} {rs : List Rl} {f : Rl → Bool} (h : TestsRule g fa lb w rs f) (hb : Below w.heap.size w w') : TestsRule g fa lb w' rs f := fun W l r x hW hx hr => h W l r x (next_trans hb hW) hx hr
theorem makeFn : ∀ (fn : Fn) (first cap : Array Value) (w : World), (Instr.makeFunc fn first cap).run Tryz.prog w = .ok (.func fn first cap) w := fun _ _ _ _ => rfl
set_option maxHeartbeats 2000000 in
theorem some_ (g : Nat) (fa lb : Array Value) (eg : ∀ args w, (callFunc g args).run Tryz.prog w = .ok (.enter g args) w) (f : Rl → Bool) (a v : Value) (d : Dat sSystem) (w : World) (hT : TestsRule g fa lb w d.2 f) (h : Rd w w.heap.size sSystem [a, v] d) (hz : sz sSystem d ≤ 1048576) :
  Calls Tryz.prog 81 #[.agg #[a, v], .func (.func g) fa lb] w (AnsB w (d.2.any f)) := by
 have hv := (parts_System h).2
 obtain ⟨A, n, c, V, m, cv, rfl, rfl, hs, hc, hcv, hm, hn, hm1, hrs, hsg, hE⟩ := rd_sys h hz
 obtain ⟨W, hW, rA, bel⟩ := box1 w 76 #[.slice A n c, .slice V m cv]
 have HW := Lib.hid hW
 have L := Lib.hid (containsFuncRule g fa lb eg f V m cv d.2 W (tests_next hT bel) (hv.next bel) hm hm1)
 clear hW h hz hT hs hc hcv hm hrs hsg hE hv
 go_enter Tryz.func81, Tryz.ntmps81
 go_wp2_with fail
 rw [← HW.out]
 refine L.out.mono ?_
 rintro e w1 ⟨rfl, bb⟩
 have F := Lib.hid (next_trans bel bb)
 clear bel bb rA L
 generalize List.any d.2 f = z at *
 go_wp2
 go_ret
 exact ⟨rfl, F.out⟩
end ruleImpl
end
section
namespace ruleImpl
open Go.RowKit base ints sig term termOk marks app appAt sym segs termFacts varsMath varsOf rename same count linear shape kindsR ruleMath ruleSpec anyR
set_option maxRecDepth 100000
set_option maxHeartbeats 1000000 in
theorem repeats_ (a l r : Value) (sg : List Int) (x : Dat sRule) (w : World) (h0 : Rd w w.heap.size sI [a] sg) (hz0 : sz sI sg ≤ 1048576) (h : Rd w w.heap.size sRule [l, r] x) (hz : sz sRule x ≤ 1048576) :
  Calls Tryz.prog 82 #[.agg #[a], .agg #[l, r]] w (AnsB w (!linearB sg x.1)) := by
 obtain ⟨A, n, c, rfl, hs, hc⟩ := rd_ints.1 h0
 have hn := len_ints hs.1 hz0
 obtain ⟨A1, n1, c1, A2, n2, c2, rfl, rfl, s1, k1, s2, k2, hn1, hn2⟩ := rd_rule h hz
 obtain ⟨W, hW, rA, rB, bel⟩ := box2 w 30 69 #[.slice A n c] #[.slice A1 n1 c1, .slice A2 n2 c2]
 have L := Lib.hid (implLinearIn A A1 n c n1 c1 sg x.1 W (hs.next bel) (s1.next bel) hn hn1)
 have HW := Lib.hid hW
 clear h0 hz0 h hz hs hc s1 k1 s2 k2 hW
 go_enter Tryz.func82, Tryz.ntmps82
 go_wp2_with fail
 rw [← HW.out]
 refine L.out.mono ?_
 rintro e w1 ⟨rfl, bb⟩
 have F := Lib.hid (next_trans bel bb)
 clear bel bb rA rB L
 generalize linearB sg x.1 = z at *
 go_wp2
 go_ret
 exact ⟨rfl, F.out⟩
end ruleImpl
end
section
open Go.Lib (hid)
namespace ruleSpec
open Go.RowKit base ints sig term termOk marks app sym segs termFacts varsMath varsOf rename same count linear shape kindsR ruleMath
set_option maxRecDepth 100000
theorem ll_no {sg : List Int} {rs : List Rl} (h : sysOkB sg rs = false) : leftLinB sg rs = false := by unfold leftLinB; rw [h]; rfl
theorem ll_bad {sg : List Int} {rs : List Rl} {k : Nat} {x : Rl} (hk : k < rs.length) (ex : rs.getD k ([], []) = x) (h : linB x.1 = false) : leftLinB sg rs = false := by
 unfold leftLinB leftB
 rw [any_round hk (f := fun r => !linB r.1) (by rw [ex, h]; rfl)]; simp
theorem ll_yes {sg : List Int} {rs : List Rl} (h : sysOkB sg rs = true) (hl : ∀ j, j < rs.length → linB (rs.getD j ([], [])).1 = true) : leftLinB sg rs = true := by
 unfold leftLinB leftB
 rw [h, any_rounds (f := fun r => !linB r.1) (fun j hj => by rw [hl j hj]; rfl)]; rfl
set_option maxHeartbeats 4000000 in
theorem specLeftLinearIn (a v : Value) (d : Dat sSystem) (w : World) (h : Rd w w.heap.size sSystem [a, v] d) (hz : sz sSystem d ≤ 1048576) :
  Calls Tryz.prog 28 #[.agg #[a, v]] w (AnsB w (leftLinB d.1 d.2)) := by
 have S1 := fun (w1 : World) (bb : Below w.heap.size w w1) => specSystemOk a v d w1 (h.next bb) hz
 obtain ⟨A, n, c, V, m, cv, rfl, rfl, hs, hc, hcv, hm, hn, hm1, hrs, hsg, hE⟩ := rd_sys h hz
 obtain ⟨W, hW, rA, bel⟩ := box1 w 33 #[.slice A n c, .slice V m cv]
 have HW := hid hW
 have HM := hid hm
 have HE := hid hE
 have HR := hid hrs
 have LS1 := hid (S1 W bel)
 clear hW h hz hs hc hcv hm hE hrs hsg S1
 cases ok1 : sysOkB d.1 d.2 with
 | false =>
  have HS := hid ok1
  clear ok1
  go_enter Tryz.func28, Tryz.ntmps28
  go_wp2_with fail
  rw [← HW.out]
  refine LS1.out.mono ?_
  rintro e w1 ⟨he, bb⟩
  rw [HS.out] at he
  subst he
  have F := hid (ansB (b := leftLinB d.1 d.2) (a := false) (by rw [ll_no HS.out]) (next_trans bel bb))
  clear bel rA bb
  go_wp2
  go_ret
  exact F.out
 | true =>
  have HS := hid ok1
  clear ok1
  go_enter Tryz.func28, Tryz.ntmps28
  go_wp2_with fail
  rw [← HW.out]
  refine LS1.out.mono ?_
  rintro e w1 ⟨he, bb⟩
  rw [HS.out] at he
  subst he
  have H0 : Hid (HeadSy w 33 #[.slice A n c, .slice V m cv] m (fun x => linB x.1) d.2 (.int .i64 0) w1) := hid ⟨0, Nat.zero_le _, rfl, fun j hj => absurd hj (Nat.not_lt_zero _), rA.next bb, next_trans bel bb⟩
  clear rA bel bb LS1
  go_wp2_with fail
  go_loopw [3] (fun i wr => HeadSy w 33 #[.slice A n c, .slice V m cv] m (fun x => linB x.1) d.2 i wr) (fun i _ => m - (intOf i).toNat)
  case atStart => exact H0.out
  case round =>
   obtain ⟨k, hk, rfl, hlow, rr, hb⟩ := hrel
   have HLOW := hid hlow
   clear hlow H0
   by_cases hlt : k < m
   ·obtain ⟨b, off, l, r, x, rfl, hbB, ex, hc0, hc1, hx⟩ := rd_at HR.out hb HM.out hlt
    have a1 : wr.cell? ⟨w.heap.size, 1, none⟩ = some (.slice (some ⟨b, off, none⟩) m cv) := rr.cell 1
    have hzx : sz sRule x ≤ 1048576 := by have := HE.out k hlt; rw [ex.out] at this; exact this
    obtain ⟨A1, n1, c1, A2, n2, c2, rfl, rfl, s1, k1, s2, k2, hn1, hn2⟩ := rd_rule hx hzx
    have L := hid (l2Linear A1 n1 c1 x.1 wr (s1.more hb.size) hn1)
    have i0 : (0 : Int) ≤ (k : Int) := by omega
    have i1 : (k : Int) < (m : Int) := by omega
    clear hx hzx s1 s2 k1 k2
    cases ok : linB x.1 with
    | false =>
     have HO := hid ok
     clear ok
     have F := hid (ansB (b := leftLinB d.1 d.2) (a := false) (by rw [ll_bad (by rw [HM.out]; exact hlt) ex.out HO.out]) hb)
     clear rr hb
     go_wp2_with fail
     refine L.out.mono ?_
     rintro e w2 ⟨rfl, he⟩
     rw [HO.out] at he
     subst he
     clear L
     go_wp2
     go_ret
     exact F.out
    | true =>
     have HO := hid ok
     clear ok
     have F := hid (headSy_step (f := fun x => linB x.1) (w := w) hlt HLOW.out ex HO.out rr hb)
     clear rr hb
     go_wp2_with fail
     refine L.out.mono ?_
     rintro e w2 ⟨rfl, he⟩
     rw [HO.out] at he
     subst he
     clear L
     go_wp2
     go_roundw
     case rel => exact F.out
     case measure => simp [intOf]; omega
   ·have a1 : wr.cell? ⟨w.heap.size, 1, none⟩ = some (.slice V m cv) := rr.cell 1
    have F := hid (ansB (b := leftLinB d.1 d.2) (a := true) (by rw [ll_yes HS.out (fun j hj => HLOW.out j (by rw [HM.out] at hj; omega))]) hb)
    clear rr hb
    go_wp2
    go_ret
    exact F.out
end ruleSpec
end
section
namespace ruleSpec
open Go.RowKit base ints sig term termOk marks app sym segs termFacts varsMath varsOf rename renMath same count linear shape kindsR ruleMath appAt kinds
set_option maxRecDepth 100000
theorem sym_yes {p : Int → Bool} {k : Nat} (h : p (k : Int) = true) : symL p (k + 1) = symL p k ++ [(k : Int)] := by rw [symL, if_pos h]
end ruleSpec
end
section
open Go.Lib (hid)
namespace ruleImpl
open Go.RowKit base ints sig term termOk marks app appAt sym segs termFacts varsMath varsOf rename same count linear shape kindsR ruleMath ruleSpec anyR
set_option maxRecDepth 100000
theorem boxN {w w1 : World} {T : TypeId} {cs : Array Value} (bel : Below w.heap.size w w1) : Row (w1.alloc (.cells cs T)) w1.heap.size T cs ∧ Below w.heap.size w (w1.alloc (.cells cs T)) ∧ Below w1.heap.size w1 (w1.alloc (.cells cs T)) :=
 ⟨Row.new _ _ _, bel.alloc bel.size _, (Below.refl _ _).alloc (Nat.le_refl _) _⟩
theorem any_congr {rs : List Rl} {f g : Rl → Bool} (h : ∀ x ∈ rs, f x = g x) : rs.any f = rs.any g := by
 induction rs with
 | nil => rfl
 | cons x rs ih => rw [List.any_cons, List.any_cons, h x (List.mem_cons_self ..), ih (fun y hy => h y (List.mem_cons_of_mem _ hy))]
theorem rd_zero (w : World) (B : Nat) : Rd w B sSystem [.slice none 0 0, .slice none 0 0] (([], []) : List Int × List Rl) :=
 ⟨[.slice none 0 0], [.slice none 0 0], rfl, ⟨none, 0, 0, rfl, ⟨by omega, by omega, fun _ => rfl⟩, rfl, fun h => absurd h (by omega)⟩, ⟨none, 0, 0, rfl, ⟨by omega, by omega, fun _ => rfl⟩, rfl, fun h => absurd h (by omega)⟩⟩
theorem fin_LeftLinearIn_no {sg : List Int} {rs : List Rl} (h : sysOkB sg rs = false) : leftLinB sg rs = false := by unfold leftLinB; rw [h]; rfl
theorem fin_LeftLinearIn_yes {sg : List Int} {rs : List Rl} (h : sysOkB sg rs = true) : leftLinB sg rs = !rs.any (fun x => !linearB sg x.1) := by
 unfold leftLinB leftB; rw [h, Bool.true_and]; congr 1
 exact any_congr fun x hx => by unfold linearB; rw [(rule_parts ((sys_parts h).2.2 x hx)).1]; rfl
set_option maxHeartbeats 4000000 in
theorem implLeftLinearIn (a v : Value) (d : Dat sSystem) (w : World) (h : Rd w w.heap.size sSystem [a, v] d) (hz : sz sSystem d ≤ 1048576) :
  Calls Tryz.prog 54 #[.agg #[a, v]] w (AnsB w (leftLinB d.1 d.2)) := by
 have hzs := sys_szs hz
 have hsg := (parts_System h).1
 have SO := fun (w1 : World) (bb : Below w.heap.size w w1) => systemOf a v d w1 (h.next bb) hz
 have LT := fun (ok : sysOkB d.1 d.2 = true) (w1 : World) (bb : Below w.heap.size w w1) => some_ 82 #[.agg #[a]] #[] (fun _ _ => rfl) (fun x => !linearB d.1 x.1) a v d w1
  (fun W' l r (x : Rl) hW' hx hr => repeats_ a l r d.1 x W' (hsg.next (next_trans bb hW')) hzs.1 hr (sz_mem hzs.2 hx)) (h.next bb) hz
 obtain ⟨A, n, c, V, m, cv, rfl, rfl, -⟩ := rd_sys h hz
 obtain ⟨W, hW, rA, bel⟩ := box1 w 33 #[.slice A n c, .slice V m cv]
 have HW := hid hW
 have L := hid (SO W bel)
 have HLT := hid LT
 have hmf := makeFn
 clear hW h hz SO LT hzs hsg
 go_enter Tryz.func54, Tryz.ntmps54
 go_wp2_with fail
 rw [← HW.out]
 refine L.out.mono ?_
 cases ok : sysOkB d.1 d.2 with
 | false =>
  have HO := hid ok
  rintro e w1 ⟨rfl, bb⟩
  have F := hid (boxN (T := 76) (cs := #[.slice none 0 0, .slice none 0 0]) (next_trans bel bb)).2.1
  simp only [sysV, if_true, Bool.false_eq_true, if_false]
  clear bel bb rA L HLT ok
  go_wp2
  go_ret
  exact ⟨by rw [fin_LeftLinearIn_no HO.out]; rfl, F.out⟩
 | true =>
  have HO := hid ok
  rintro e w1 ⟨rfl, bb⟩
  obtain ⟨rS, belS, bS⟩ := boxN (T := 76) (cs := #[.slice A n c, .slice V m cv]) (next_trans bel bb)
  have L2 := hid (HLT.out ok _ belS)
  have c0 := rS.cell 0
  have c1 := rS.cell 1
  have E := hid (fin_LeftLinearIn_yes HO.out)
  simp only [sysV, if_true]
  clear bel bb rA L HLT ok rS bS
  go_wp2_with fail
  refine L2.out.mono ?_
  rintro e w2 ⟨he, bb⟩
  obtain ⟨z, hzz⟩ : ∃ z, d.2.any (fun x => !linearB d.1 x.1) = z := ⟨_, rfl⟩
  rw [hzz] at E
  rw [show (List.any d.2 fun x => !linearB d.1 x.1) = z from hzz] at he
  subst he
  have F := hid (next_trans belS bb)
  clear bb belS L2 c0 c1 hzz
  go_wp2
  go_ret
  exact ⟨by rw [E.out]; rfl, F.out⟩
end ruleImpl
end
section
namespace pkTerms
open sig term termOk termFacts sub fillMath renMath matchMath unifMath forest triMath ruleMath peakMath trySpec ovsMath pkMath pkVars pkMgu pkLink pkAll pksMath
theorem Fo.swap {sg y y' z : List Int} (hy : Fo sg 1 y) (hy' : Fo sg 1 y') : ∀ {x : List Int} {q : Nat}, Fo sg q (x ++ (y ++ z)) → Fo sg q (x ++ (y' ++ z))
 | [], 0, h => by
  have h0 : y ++ z = [] := h.zero
  have := hy.pos
  rw [List.append_eq_nil_iff] at h0
  rw [h0.1] at this
  exact absurd this (by simp)
 | [], q + 1, h => by
  rw [Nat.add_comm] at h ⊢
  obtain ⟨a, b, e, ha, hb⟩ := Fo.split h
  obtain ⟨e1, e2⟩ := Fo.uniq ha hy (r := b) (s := z) e.symm
  rw [← e2]
  exact hy'.append hb
 | a :: x, q, h => by
  obtain ⟨q', rfl, ⟨h0, h1⟩ | ⟨h0, h2, h1⟩⟩ := Fo.inv h
  ·exact .var a _ q' h0 (Fo.swap hy hy' h1)
  ·exact .app a _ q' h0 h2 (Fo.swap hy hy' h1)
section
variable {sg : List Int} {rs : List Rl}
theorem pkV_some {o a u : Nat} {v : List Int × List Int × List Int} (h : pkV sg rs o a u = some v) : ∃ L, MguS sg (oS sg rs o a) (oT rs u) L ∧ pk3 (fillL L (lh rs o)) (fillL L (leftA sg rs o a u)) (fillL L (rh rs o)) = some v := by
 unfold pkV at h
 split at h
 ·rename_i hex
  exact ⟨_, Classical.choose_spec hex, h⟩
 ·cases h
theorem pk_terms {t : Tr} (hs : sysOkB sg rs = true) (ht : t ∈ ovs sg rs anyW) (hk : okT sg rs t = true) : termOkB sg (pkT sg rs t).1 = true ∧ termOkB sg (pkT sg rs t).2.1 = true ∧ termOkB sg (pkT sg rs t).2.2.1 = true := by
 obtain ⟨o, a, u⟩ := t
 obtain ⟨⟨ho, ha, hu⟩, -, -⟩ := mem_all ht
 have ro := rule_parts (trySpec.sys_rule hs ho)
 have ru := rule_parts (trySpec.sys_rule hs hu)
 have lo : termOkB sg (lh rs o) = true := ro.1
 have ro2 : termOkB sg (rh rs o) = true := ro.2.1
 have ru2 : termOkB sg (rh rs u) = true := ru.2.1
 unfold okT at hk
 have hk : (pkV sg rs o a u).isSome = true := hk
 cases hv : pkV sg rs o a u with
 | none => rw [hv] at hk; cases hk
 | some v =>
  obtain ⟨L, hm, h3⟩ := pkV_some hv
  have e : pkT sg rs (o, a, u) = pkO (some v) o a u := by
   show pkO (pkV sg rs o a u) o a u = _
   rw [hv]
  rw [e]
  unfold pk3 at h3
  split at h3
  ·rename_i hc
   injection h3 with h3
   subst h3
   have hsig := (term_parts lo).1
   have inO : ∀ {x : Int}, x ∈ fillL L (lh rs o) → x < 0 → x ∈ orderL (fillL L (lh rs o)) := fun hx h0 => order_mem9.2 ⟨hx, h0⟩
   have foT : Fo sg 1 (fillL L (lh rs o)) := (fo_term lo).fill hm.uni.1
   have foR : Fo sg 1 (fillL L (rh rs o)) := (fo_term ro2).fill hm.uni.1
   have foA0 : Fo sg 1 (leftA sg rs o a u) := by
    have h1 := fo_term lo
    rw [lo_parts lo ha] at h1
    exact Fo.swap (fo_term (trySpec.sub_ok lo ha)) (fo_shift ru2) h1
   have foA : Fo sg 1 (fillL L (leftA sg rs o a u)) := foA0.fill hm.uni.1
   refine ⟨?_, ?_, ?_⟩
   ·show termOkB sg (byL _ _) = true
    rw [by_ok hsig foT hc.2.2.2 fun x hx h0 => inO hx h0]
    exact decide_eq_true hc.1
   ·show termOkB sg (byL _ _) = true
    rw [by_ok hsig foA hc.2.2.2 fun x hx h0 => inO (left_vars lo ha ru.2.2.2 hm.uni.2 x hx h0) h0]
    exact decide_eq_true hc.2.1
   ·show termOkB sg (byL _ _) = true
    rw [by_ok hsig foR hc.2.2.2 fun x hx h0 => inO (right_vars ro.2.2.2 x hx h0) h0]
    exact decide_eq_true hc.2.2.1
  ·cases h3
theorem psA_terms : ∀ y ∈ psA sg rs, termOkB sg y.1 = true ∧ termOkB sg y.2.1 = true ∧ termOkB sg y.2.2.1 = true := by
 intro y hy
 unfold psA at hy
 split at hy
 ·rename_i hb
  unfold psB at hb
  rw [Bool.and_eq_true] at hb
  obtain ⟨t, ht, rfl⟩ := List.mem_map.1 hy
  refine pk_terms hb.1 ht ?_
  have hg := hb.2
  unfold goodL at hg
  rw [Bool.and_eq_true] at hg
  first | exact (List.all_eq_true.1 hg.2) t ht | exact (List.all_eq_true.1 hg.1) t ht
 ·cases hy
theorem psA_no (h : psB sg rs = false) : psA sg rs = [] := by unfold psA; rw [if_neg (by rw [h]; simp)]
theorem psB_sys (h : psB sg rs = true) : sysOkB sg rs = true := by
 unfold psB at h
 rw [Bool.and_eq_true] at h
 exact h.1
end
end pkTerms
end
section
namespace parMath
open sig term termOk termFacts fillMath ruleMath stepMath walkMath forest
variable {sg : List Int} {rs : List Rl} {a b : List Int}
end parMath
end
section
namespace parRoot
open Go.RowKit base ints sig term termOk marks app sym sub segs kinds same shifted shape kindsR kindsW varsOf ruleMath ruleSpec ruleImpl stepMath walkMath stepSpec stepImpl walkImpl parMath
end parRoot
end
section
namespace parSpec
open Go.RowKit base ints sig term termOk marks app sym sub segs kinds same shifted shape kindsR varsOf ruleMath ruleSpec stepMath walkMath stepSpec drawX forest stk partsSpec parMath parRoot
set_option maxRecDepth 100000
structure PS (w : World) (Q : Nat → Prop) (A V : Option Addr) (n cs q cv g1 g2 k c1 c2 : Nat) (ps qs : List (List Int)) (wr : World) : Prop where
 r : Row wr w.heap.size 33 #[.slice A n cs, .slice V q cv]
 p : Stk wr Q w.heap.size (some ⟨g1, 0, none⟩) k c1 ps
 q : Stk wr Q w.heap.size (some ⟨g2, 0, none⟩) k c2 qs
 b : Below w.heap.size w wr
theorem PS.next {w wr w' : World} {Q : Nat → Prop} {A V : Option Addr} {n cs q cv g1 g2 k c1 c2 : Nat} {ps qs : List (List Int)} (h : PS w Q A V n cs q cv g1 g2 k c1 c2 ps qs wr) (hQ : ∀ b, Q b → b < w.heap.size) (hb : Below wr.heap.size wr w') : PS w Q A V n cs q cv g1 g2 k c1 c2 ps qs w' :=
 have hQ' : ∀ b, Q b → b < wr.heap.size := fun b h1 => Nat.lt_of_lt_of_le (hQ b h1) h.b.size
 ⟨h.r.next hb, h.p.next hb hQ', h.q.next hb hQ', next_trans h.b hb⟩
end parSpec
end
section
namespace parImpl
open Go.RowKit base ints sig term arity termOk marks app sym sub segs kinds same shifted shape kindsR varsOf ruleMath ruleSpec stepMath walkMath stepSpec drawX forest stk partsSpec cursor curO parMath parRoot parSpec
set_option maxRecDepth 100000
structure CC (w : World) (A V T U : Option Addr) (n cs q cv m mc k kc p1 p2 i j : Nat) (wr : World) : Prop where
 r : Row wr w.heap.size 76 #[.slice A n cs, .slice V q cv]
 a : Row wr p1 108 #[.slice A n cs, .slice T m mc, .int .i64 i]
 b : Row wr p2 108 #[.slice A n cs, .slice U k kc, .int .i64 j]
 ne : p1 ≠ p2
 ga : w.heap.size < p1
 gb : w.heap.size < p2
 bel : Below w.heap.size w wr
section
variable {w wr w' : World} {A V T U : Option Addr} {n cs q cv m mc k kc p1 p2 i j i' j' : Nat}
theorem CC.next (h : CC w A V T U n cs q cv m mc k kc p1 p2 i j wr) (hb : Below wr.heap.size wr w') : CC w A V T U n cs q cv m mc k kc p1 p2 i j w' :=
 ⟨h.r.next hb, h.a.next hb, h.b.next hb, h.ne, h.ga, h.gb, next_trans h.bel hb⟩
end
end parImpl
end
section
namespace parX
open Go.RowKit base ints sig term termOk termFacts marks app sym segs kinds shape kindsR varsOf ruleMath ruleSpec ruleImpl stepMath walkMath stepSpec drawX forest parMath parSpec parImpl
section
variable {sg : List Int} {rs : List Rl} {t y : List Int}
end
end parX
end
section
namespace openX
open Go.ChangeShapes Go.WideShapes Go.ChangeAt Go.RowKit base segs shape
def Wf : (s : Sh) → Dat s → Prop
 | .num, (x : Int) => -9223372036854775808 ≤ x ∧ x ≤ 9223372036854775807
 | .bit, _ => True
 | .row _ s, (d : List (Dat s)) => ∀ j, j < d.length → Wf s (d.getD j (dft s))
 | .cat a b, d => Wf a d.1 ∧ Wf b d.2
mutual
def fitsB (P : Program) : Nat → Sh → TypeId → Bool
 | 0, _, _ => false
 | n + 1, s, t => match P.underlying t with
  | some (.struct fs) => P.cellsOf t == nc s && fitsL P n fs.toList 0 s
  | some (.int .i64) => match s with | .num => true | _ => false
  | some .bool => match s with | .bit => true | _ => false
  | some (.slice e) => match s with | .row _ s' => P.cellsOf e == nc s' && fitsB P n s' e | _ => false
  | _ => false
def fitsL (P : Program) : Nat → List Field → Nat → Sh → Bool
 | 0, _, _, _ => false
 | _ + 1, [], _, _ => false
 | n + 1, [f], k, s => f.offset == k && (P.cellsOf f.type == nc s && fitsB P n s f.type)
 | n + 1, f :: g :: fs, k, s => match s with | .cat a b => f.offset == k && (P.cellsOf f.type == nc a && (fitsB P n a f.type && fitsL P n (g :: fs) (k + nc a) b)) | _ => false
end
section
variable {H : Type} {enc : TypeId × Value → H} {P : Program} {w : World} {held : Bool}
theorem addr_add {b off i : Nat} : (⟨b, off, none⟩ : Addr).add i = ⟨b, off + i, none⟩ := by unfold Addr.add; split <;> simp_all
theorem rd_trod : ∀ n : Nat, (∀ (s : Sh) (t : TypeId) (fuel : Nat) (cs : List Value) (x : DataW H × List MemPlace), fitsB P n s t = true → DataW.trod enc P w 0 (fun _ => true) held fuel t cs = some x → ∃ d, Rd w w.heap.size s cs d ∧ Wf s d) ∧
  (∀ (fs : List Field) (k : Nat) (s : Sh) (cs : List Value) (m : Nat), fitsL P n fs k s = true → (∀ (i : Nat) (f : Field), fs[i]? = some f → ∃ x, DataW.trod enc P w 0 (fun _ => true) held m f.type ((cs.drop f.offset).take (P.cellsOf f.type)) = some x) →
   ∃ d, Rd w w.heap.size s ((cs.drop k).take (nc s)) d ∧ Wf s d) := by
 intro n
 induction n with
 | zero => exact ⟨fun _ _ _ _ _ h => by simp [fitsB] at h, fun _ _ _ _ _ h => by simp [fitsL] at h⟩
 | succ n ih =>
  refine ⟨fun s t fuel cs x hf h => ?_, fun fs k s cs m hf h => ?_⟩
  ·unfold fitsB at hf
   split at hf
   ·rename_i fs hu
    simp only [Bool.and_eq_true, beq_iff_eq] at hf
    obtain ⟨xs, n', hfu, hx, hlen, hxl, hg⟩ := DataW.trod_struct hu h
    obtain ⟨d, hr, hw⟩ := ih.2 fs.toList 0 s cs n' hf.2 (fun i f hi => by
     have hi' : fs[i]? = some f := by simpa using hi
     have h1 := hg i f hi'
     have hlt : i < fs.size := (Array.getElem?_eq_some_iff.1 hi').1
     exact ⟨xs[i]'(by omega), by rw [h1]; exact List.getElem?_eq_getElem (by omega)⟩)
    rw [List.drop_zero, List.take_of_length_le (by omega)] at hr
    exact ⟨d, hr, hw⟩
   ·rename_i hu
    split at hf
    ·obtain ⟨z, e1, _, hw⟩ := DataW.trod_int hu h
     refine ⟨z, e1, ?_⟩
     show -9223372036854775808 ≤ z ∧ z ≤ 9223372036854775807
     simpa [Lit.wf, IntKind.min, IntKind.max, IntKind.signed, IntKind.bits] using hw
    ·cases hf
   ·rename_i hu
    split at hf
    ·obtain ⟨z, e1, _⟩ := DataW.trod_bool hu h
     exact ⟨z, e1, trivial⟩
    ·cases hf
   ·rename_i e hu
    split at hf
    ·rename_i e0 s'
     simp only [Bool.and_eq_true, beq_iff_eq] at hf
     rcases Go.Deep.open_slice hu h with ⟨hcs, _⟩ | ⟨a, len, cap, m, n', D, Pl, hcs, _, hl, hm, hmm, _, hi⟩
     ·exact ⟨[], ⟨none, 0, 0, hcs, ⟨by omega, by omega, fun _ => rfl⟩, rfl, fun h => absurd h (by omega)⟩, fun j hj => absurd hj (Nat.not_lt_zero _)⟩
     ·have hmc : m = cap := by simpa using hmm
      subst hmc
      have hd : ∀ j, j < len → ∃ (es : List Value) (dj : Dat s'), es.length = nc s' ∧ (∀ i, i < nc s' → w.cell? ((a.add (j * nc s')).add i) = es[i]?) ∧ Rd w w.heap.size s' es dj ∧ Wf s' dj := fun j hj => by
       obtain ⟨cs', hc, ht⟩ := hi j (by omega)
       obtain ⟨dj, hr, hw⟩ := ih.1 s' e n' cs' _ hf.2 ht
       rw [hf.1] at hc
       obtain ⟨_, hcl, hat⟩ := World.cells?_some hc
       exact ⟨cs', dj, hcl, hat, hr, hw⟩
      have hspot : 0 < len → a.spot = none := fun h0 => by
       obtain ⟨es, dj, h1, h2, _⟩ := hd 0 h0
       have hp := nc_pos s'
       have h3 := h2 0 (by omega)
       rw [List.getElem?_eq_getElem (by omega)] at h3
       have := World.cell?_spot h3
       simpa [Addr.add] using this
      obtain ⟨ds, hdl, hds⟩ : ∃ ds : List (Dat s'), ds.length = len ∧ ∀ j, j < len → ∃ es : List Value, es.length = nc s' ∧ (∀ i, i < nc s' → w.cell? ((a.add (j * nc s')).add i) = es[i]?) ∧ Rd w w.heap.size s' es (ds.getD j (dft s')) ∧ Wf s' (ds.getD j (dft s')) := by
       refine ⟨(List.range len).map fun j => if hj : j < len then Classical.choose (Classical.choose_spec (hd j hj)) else dft s', by simp, fun j hj => ?_⟩
       refine ⟨Classical.choose (hd j hj), ?_⟩
       have h1 := Classical.choose_spec (Classical.choose_spec (hd j hj))
       have e1 : ((List.range len).map fun j => if hj : j < len then Classical.choose (Classical.choose_spec (hd j hj)) else dft s').getD j (dft s') = Classical.choose (Classical.choose_spec (hd j hj)) := by simp [List.getD, hj]
       rw [e1]
       exact h1
      refine ⟨ds, ⟨some a, len, m, hcs, ⟨hl, by unfold maxLen at hm; omega, fun e => by cases e⟩, hdl, fun h0 => ?_⟩, fun j hj => by
       obtain ⟨es, _, _, _, hw⟩ := hds j (by rw [← hdl]; exact hj)
       exact hw⟩
      obtain ⟨b, off, spot⟩ := a
      have hs := hspot h0
      simp only at hs
      subst hs
      refine ⟨b, off, rfl, ?_, fun j hj => ?_⟩
      ·obtain ⟨es, h1, h2, _⟩ := hds 0 h0
       have hp := nc_pos s'
       have h3 := h2 0 (by omega)
       rw [List.getElem?_eq_getElem (by omega)] at h3
       have h4 := World.block_lt_of_cell? _ _ h3
       simpa [addr_add] using h4
      ·obtain ⟨es, h1, h2, h3, _⟩ := hds j hj
       refine ⟨es, h1, fun i hi2 => ?_, h3⟩
       have := h2 i (by omega)
       rw [addr_add, addr_add] at this
       exact this
    ·cases hf
   ·cases hf
  ·match fs, hf, h with
   | [], hf, _ => simp [fitsL] at hf
   | [f], hf, h =>
    unfold fitsL at hf
    simp only [Bool.and_eq_true, beq_iff_eq] at hf
    obtain ⟨h1, h2, h3⟩ := hf
    obtain ⟨x, hx⟩ := h 0 f rfl
    rw [h1, h2] at hx
    exact ih.1 s f.type m _ x h3 hx
   | f :: g :: fs, hf, h =>
    cases s with
    | cat a b =>
     unfold fitsL at hf
     simp only [Bool.and_eq_true, beq_iff_eq] at hf
     obtain ⟨h1, h2, h3, h4⟩ := hf
     obtain ⟨x, hx⟩ := h 0 f rfl
     rw [h1, h2] at hx
     obtain ⟨d1, r1, w1⟩ := ih.1 a f.type m _ x h3 hx
     obtain ⟨d2, r2, w2⟩ := ih.2 (g :: fs) (k + nc a) b cs m h4 (fun i f' hi => h (i + 1) f' hi)
     refine ⟨(d1, d2), ⟨_, _, ?_, r1, r2⟩, w1, w2⟩
     show List.take (nc a + nc b) (List.drop k cs) = _
     rw [List.take_add, List.drop_drop]
    | num => simp [fitsL] at hf
    | bit => simp [fitsL] at hf
    | row e s' => simp [fitsL] at hf
theorem open_val {s : Sh} {t : TypeId} {v : Value} {d : DataW H} {p : List MemPlace} {n : Nat} (hf : fitsB P n s t = true) (h : DataW.Trod enc P w 0 (fun _ => true) held t v d p) : ∃ x, Rd w w.heap.size s v.cells.toList x ∧ Wf s x := by
 obtain ⟨fuel, hfu⟩ := h
 exact (rd_trod n).1 s t fuel _ _ hf hfu
end
end openX
end
end Go.Proofs.YtlmofkeemlfpgaaGreat
