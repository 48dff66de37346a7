/-
  MERGED: my texts PkLink, PeakAtImpl, KindsQ, OpenX, one behind the other, as they are. By an AI agent.
-/
import Derived.Test.YtfmjhfodjhkmlaaMFnExactPeaksOf8
import Derived.Deep.RegionHeld3
import Derived.ProofKit
import Derived.OpenShut
import Derived.Lib.SmallJoins
import Derived.Deep.Slices
import Derived.Deep.Fields
namespace Go.Proofs.Ytfmjhfodjhkmlaa
section
namespace pkLink
open sig term termOk termFacts sub endAt fillMath renMath renImpl matchMath unifMath forest triMath ufMath nodes ruleMath pkMath putMath put trySpec ovStart pkVars pkMgu pkFacts peakRun
set_option maxRecDepth 100000
theorem part_len {L : Nat → List Int} : ∀ {t : List Int} {y : Int}, y ∈ t → (rep L y).length ≤ (fillL L t).length
 | x :: r, y, hy => by
  rw [fill_cons, List.length_append]
  rcases List.mem_cons.1 hy with e | e
  ·rw [e]; omega
  ·have := part_len (L := L) e; omega
def t61 (F : Nat → List Int) (i : Nat) : List Int := (F i).take 61
theorem t61_same {F : Nat → List Int} {t : List Int} (h : ∀ x ∈ t, x < 0 → (F (vr x)).length ≤ 61) : fillL (t61 F) t = fillL F t := fill_ext fun x hx h0 => List.take_of_length_le (h x hx h0)
theorem t61_long {F : Nat → List Int} {t : List Int} (h : 60 < (fillL F t).length) : 60 < (fillL (t61 F) t).length := by
 by_cases hb : ∀ x ∈ t, x < 0 → (F (vr x)).length ≤ 61
 ·rw [t61_same hb]; exact h
 ·have : ∃ x, x ∈ t ∧ x < 0 ∧ ¬ (F (vr x)).length ≤ 61 := Classical.byContradiction fun hc => hb fun x hx h0 => Classical.byContradiction fun h1 => hc ⟨x, hx, h0, h1⟩
  obtain ⟨x, hx, h0, h1⟩ := this
  have h2 := part_len (L := t61 F) hx
  rw [rep_vr h0] at h2
  unfold t61 at h2
  rw [List.length_take] at h2
  unfold t61
  omega
section
variable {sg : List Int} {o t : List Int}
theorem by_len : (byL o t).length = t.length := by unfold byL; rw [List.length_map]
theorem by_fo {q : Nat} (h : Fo sg q t) : Fo sg q (byL o t) := by
 unfold byL
 rw [← renPure.ren_fill]
 exact h.fill fun i => Fo.vt _
theorem by_low (h24 : o.length ≤ 24) (hv : ∀ x ∈ t, x < 0 → x ∈ o) : ∀ x ∈ byL o t, -24 ≤ x := fun x hx => by
 unfold byL at hx
 obtain ⟨y, hy, rfl⟩ := List.mem_map.1 hx
 unfold ren
 split
 ·rename_i h0
  have := idx_lt (hv y hy h0)
  omega
 ·omega
theorem by_ok (hs : sigOkB sg = true) (h : Fo sg 1 t) (h24 : o.length ≤ 24) (hv : ∀ x ∈ t, x < 0 → x ∈ o) : termOkB sg (byL o t) = decide (t.length ≤ 60) := by
 by_cases h60 : t.length ≤ 60
 ·rw [decide_eq_true h60]
  exact term_mk hs (by rw [by_len]; exact h60) (scan_fo (by_fo h) (by_low h24 hv))
 ·rw [decide_eq_false h60]
  cases hb : termOkB sg (byL o t) with
  | false => rfl
  | true =>
   have := (term_len hb).2
   rw [by_len] at this
   omega
theorem by_app (a b : List Int) : byL o (a ++ b) = byL o a ++ byL o b := by unfold byL; rw [List.map_append]
theorem ren_same {R : List Int} (h : ∀ x ∈ R, x < 0 → x ∈ o) : renF o R = byL o R := by
 unfold renF byL
 rw [ordF_same h]
end
section
variable {sg : List Int} {rs : List Rl} {o a u : Nat} {lk : List Nat} {rt rk : Nat → Nat} {D : List Nat}
noncomputable def fF (sg : List Int) (rs : List Rl) (o u : Nat) (rt : Nat → Nat) (D : List Nat) : Nat → List Int := ufMath.wL ((lh rs o).length + (lh rs u).length) (fun i => (lh rs o ++ lh rs u).getD i 0) (nodes.nd sg (lh rs o ++ lh rs u) (lh rs o ++ shiftL 24 (lh rs u))) (chN sg (lh rs o ++ lh rs u)) rt D
structure Hy (sg : List Int) (rs : List Rl) (o a u : Nat) (lk : List Nat) (rt rk : Nat → Nat) (D : List Nat) : Prop where
 lo : termOkB sg (lh rs o) = true
 ro : termOkB sg (rh rs o) = true
 lu : termOkB sg (lh rs u) = true
 ru : termOkB sg (rh rs u) = true
 vo : ∀ x, x ∈ rh rs o → x < 0 → x ∈ lh rs o
 vu : ∀ x, x ∈ rh rs u → x < 0 → x ∈ lh rs u
 ha : a < (lh rs o).length
 wh : Whole sg ((lh rs o).length + (lh rs u).length) (fun i => (lh rs o ++ lh rs u).getD i 0) (nodes.nd sg (lh rs o ++ lh rs u) (lh rs o ++ shiftL 24 (lh rs u))) (chN sg (lh rs o ++ lh rs u)) (inn sg (lh rs o) a) a (lh rs o).length lk rt rk D
theorem Hy.uni (h : Hy sg rs o a u lk rt rk D) : Unis sg (oS sg rs o a) (oT rs u) (fF sg rs o u rt D) := by
 have := h.wh.unis
 rw [nd_lo (term_parts h.lo).2.2 h.ha, nd_lu (term_parts h.lu).2.2] at this
 exact this
theorem nd_var (h : Hy sg rs o a u lk rt rk D) {i : Nat} (hi : i < (lh rs o).length + (lh rs u).length) (h0 : (lh rs o ++ lh rs u).getD i 0 < 0) : nodes.nd sg (lh rs o ++ lh rs u) (lh rs o ++ shiftL 24 (lh rs u)) i = [(lh rs o ++ shiftL 24 (lh rs u)).getD i 0] := by
 obtain ⟨j, hj⟩ := sc_all (sg := sg) (term_parts h.lo).2.2 (term_parts h.lu).2.2 hi
 exact (nd_all (twin _ _) _ i j hj (Nat.le_refl _)).2.2 h0
theorem at_lo (h : Hy sg rs o a u lk rt rk D) {x : Int} (hx : x ∈ lh rs o) (h0 : x < 0) : idx (lh rs o) x < (lh rs o).length + (lh rs u).length ∧ (lh rs o ++ lh rs u).getD (idx (lh rs o) x) 0 = x ∧ nodes.nd sg (lh rs o ++ lh rs u) (lh rs o ++ shiftL 24 (lh rs u)) (idx (lh rs o) x) = [x] := by
 have hl := idx_lt hx
 have e1 : (lh rs o ++ lh rs u).getD (idx (lh rs o) x) 0 = x := by rw [get_lo hl]; exact idx_get hx
 refine ⟨by omega, e1, ?_⟩
 rw [nd_var h (by omega) (by rw [e1]; exact h0), get_lo hl, idx_get hx]
theorem at_lu (h : Hy sg rs o a u lk rt rk D) {y : Int} (hy : y ∈ lh rs u) (h0 : y < 0) : (lh rs o).length + idx (lh rs u) y < (lh rs o).length + (lh rs u).length ∧ (lh rs o ++ lh rs u).getD ((lh rs o).length + idx (lh rs u) y) 0 = y ∧ nodes.nd sg (lh rs o ++ lh rs u) (lh rs o ++ shiftL 24 (lh rs u)) ((lh rs o).length + idx (lh rs u) y) = [y - 24] := by
 have hl := idx_lt hy
 have e1 : (lh rs o ++ lh rs u).getD ((lh rs o).length + idx (lh rs u) y) 0 = y := by rw [get_lu]; exact idx_get hy
 refine ⟨by omega, e1, ?_⟩
 rw [nd_var h (by omega) (by rw [e1]; exact h0), get_lu, get_sh hl, idx_get hy]
 unfold sh
 rw [if_pos h0]
theorem occ_lo (h : Hy sg rs o a u lk rt rk D) {x : Int} (hx : x ∈ lh rs o) (h0 : x < 0) : Occ ((lh rs o).length + (lh rs u).length) (fun i => (lh rs o ++ lh rs u).getD i 0) (nodes.nd sg (lh rs o ++ lh rs u) (lh rs o ++ shiftL 24 (lh rs u))) (vr x) := by
 obtain ⟨h1, h2, h3⟩ := at_lo h hx h0
 exact ⟨_, h1, by show (lh rs o ++ lh rs u).getD _ 0 < 0; rw [h2]; exact h0, by rw [h3, at_vr h0]⟩
theorem occ_lu (h : Hy sg rs o a u lk rt rk D) {x : Int} (hx : x ∈ shiftL 24 (lh rs u)) (h0 : x < 0) : Occ ((lh rs o).length + (lh rs u).length) (fun i => (lh rs o ++ lh rs u).getD i 0) (nodes.nd sg (lh rs o ++ lh rs u) (lh rs o ++ shiftL 24 (lh rs u))) (vr x) := by
 obtain ⟨y, hy, rfl⟩ := List.mem_map.1 hx
 have hy0 : y < 0 := by
  unfold sh at h0
  split at h0
  ·assumption
  ·omega
 have e : sh 24 y = y - 24 := by unfold sh; rw [if_pos hy0]
 obtain ⟨h1, h2, h3⟩ := at_lu h hy hy0
 exact ⟨_, h1, by show (lh rs o ++ lh rs u).getD _ 0 < 0; rw [h2]; exact hy0, by rw [h3, at_vr h0, e]⟩
theorem tl_lo (h : Hy sg rs o a u lk rt rk D) {x : Int} (hx : x ∈ lh rs o) (h0 : x < 0) : Tl sg rs o u rt D 0 (vr x) = t61 (fF sg rs o u rt D) (vr x) := by
 obtain ⟨h1, h2, h3⟩ := at_lo h hx h0
 have hw := h.wh.wL _ x h1 (by show (lh rs o ++ lh rs u).getD _ 0 < 0; rw [h2]; exact h0) h3
 unfold Tl t61 fF
 rw [hw, at_vr h0, List.drop_zero, Nat.zero_add]
 unfold numsO
 rw [idx_app_mem hx]
 rfl
theorem tl_lu (h : Hy sg rs o a u lk rt rk D) {y : Int} (hy : y ∈ lh rs u) (h0 : y < 0) : Tl sg rs o u rt D (lh rs o).length (vr y) = t61 (fF sg rs o u rt D) (vr y + 24) := by
 obtain ⟨h1, h2, h3⟩ := at_lu h hy h0
 have hw := h.wh.wL _ _ h1 (by show (lh rs o ++ lh rs u).getD _ 0 < 0; rw [h2]; exact h0) h3
 have ev : vr (y - 24) = vr y + 24 := by unfold vr; omega
 rw [ev] at hw
 unfold Tl t61 fF
 rw [hw, at_vr h0]
 unfold numsO
 rw [List.drop_left]
 rfl
theorem fill_shift (F : Nat → List Int) (t : List Int) : fillL F (shiftL 24 t) = fillL (fun i => F (i + 24)) t := by
 have := shift_fill (k := 24) t
 rw [show ((24 : Nat) : Int) = 24 from rfl] at this
 rw [← this, fill_fill]
 exact fill_ext fun x _ _ => fill_vti F _
theorem link_F (h : Hy sg rs o a u lk rt rk D) : pk3 (fillL (fF sg rs o u rt D) (lh rs o)) (fillL (fF sg rs o u rt D) (leftA sg rs o a u)) (fillL (fF sg rs o u rt D) (rh rs o)) = pkV sg rs o a u := by
 have ns := nd_lo (sg := sg) (lu := lh rs u) (term_parts h.lo).2.2 h.ha
 have nt := nd_lu (sg := sg) (lo := lh rs o) (term_parts h.lu).2.2
 have oS_in : ∀ x ∈ oS sg rs o a, x ∈ lh rs o := fun x hx => List.mem_of_mem_drop (List.mem_of_mem_take hx)
 have hm := lF_mgu h.wh (fun x hx h0 => by rw [ns] at hx; exact occ_lo h (oS_in x hx) h0) (fun x hx h0 => by rw [nt] at hx; exact occ_lu h hx h0)
 rw [ns, nt] at hm
 rw [← pkV_of h.lo h.ha h.vo h.vu hm]
 have oA : ∀ x ∈ leftA sg rs o a u, x < 0 → Occ ((lh rs o).length + (lh rs u).length) (fun i => (lh rs o ++ lh rs u).getD i 0) (nodes.nd sg (lh rs o ++ lh rs u) (lh rs o ++ shiftL 24 (lh rs u))) (vr x) := fun x hx h0 => by
  unfold leftA at hx
  rcases List.mem_append.1 hx with hx | hx
  ·exact occ_lo h (List.mem_of_mem_take hx) h0
  ·rcases List.mem_append.1 hx with hx | hx
   ·obtain ⟨y, hy, rfl⟩ := List.mem_map.1 hx
    have hy0 : y < 0 := by
     unfold sh at h0
     split at h0
     ·assumption
     ·omega
    exact occ_lu h (List.mem_map.2 ⟨y, h.vu y hy hy0, rfl⟩) h0
   ·exact occ_lo h (List.mem_of_mem_drop hx) h0
 have back : ∀ X : List Int, fillL (fF sg rs o u rt D) X = fillL (fF sg rs o u rt D) (fillL (lF ((lh rs o).length + (lh rs u).length) (fun i => (lh rs o ++ lh rs u).getD i 0) (nodes.nd sg (lh rs o ++ lh rs u) (lh rs o ++ shiftL 24 (lh rs u))) (chN sg (lh rs o ++ lh rs u)) rt D) X) := fun X => by
  rw [fill_fill]
  exact fill_ext fun x _ _ => (hm.gen _ h.uni _).symm
 exact pk_same (fun i => (nu_fo h.wh i).pos) (fun i => (h.uni.1 i).pos) (lF_fill fun x hx h0 => occ_lo h hx h0) (lF_fill oA) (lF_fill fun x hx h0 => occ_lo h (h.vo x hx h0) h0) (back _) (back _) (back _) (left_vars h.lo h.ha h.vu h.uni.2) (right_vars h.vo)
theorem top_long (h : Hy sg rs o a u lk rt rk D) (hl : 60 < (fillL (fF sg rs o u rt D) (lh rs o)).length) : okI sg rs o a u rt D = false := by
 have e : topI sg rs o u rt D = fillL (t61 (fF sg rs o u rt D)) (lh rs o) := fill_ext fun x hx h0 => tl_lo h hx h0
 have h1 := t61_long hl
 rw [← e] at h1
 have h2 : termOkB sg (topR sg rs o u rt D) = false := by
  cases hb : termOkB sg (topR sg rs o u rt D) with
  | false => rfl
  | true =>
   have := (term_len hb).2
   unfold topR renF at this
   rw [List.length_map] at this
   omega
 unfold okI putB thereB
 rw [h2]
 rfl
theorem link_short (h : Hy sg rs o a u lk rt rk D) (hl : (fillL (fF sg rs o u rt D) (lh rs o)).length ≤ 60) : pkI sg rs o a u rt D = pkO (pk3 (fillL (fF sg rs o u rt D) (lh rs o)) (fillL (fF sg rs o u rt D) (leftA sg rs o a u)) (fillL (fF sg rs o u rt D) (rh rs o))) o a u ∧ okI sg rs o a u rt D = (pk3 (fillL (fF sg rs o u rt D) (lh rs o)) (fillL (fF sg rs o u rt D) (leftA sg rs o a u)) (fillL (fF sg rs o u rt D) (rh rs o))).isSome := by
 have hun := h.uni
 obtain ⟨F, hF⟩ : ∃ F, fF sg rs o u rt D = F := ⟨_, rfl⟩
 have tlo : ∀ {x : Int}, x ∈ lh rs o → x < 0 → Tl sg rs o u rt D 0 (vr x) = t61 F (vr x) := fun hx h0 => by rw [← hF]; exact tl_lo h hx h0
 have tlu : ∀ {y : Int}, y ∈ lh rs u → y < 0 → Tl sg rs o u rt D (lh rs o).length (vr y) = t61 F (vr y + 24) := fun hx h0 => by rw [← hF]; exact tl_lu h hx h0
 rw [hF] at hl hun ⊢
 -- what is filled
 have p60 : ∀ x ∈ lh rs o, x < 0 → (F (vr x)).length ≤ 61 := fun x hx h0 => by
  have := part_len (L := F) hx
  rw [rep_vr h0] at this
  omega
 have eL := fill_lo (θ := F) h.lo h.ha
 have hS : (fillL F (oS sg rs o a)).length ≤ 60 := by
  rw [eL, List.length_append, List.length_append] at hl
  omega
 have q60 : ∀ y ∈ lh rs u, y < 0 → (F (vr y + 24)).length ≤ 61 := fun y hy h0 => by
  have h1 : sh 24 y ∈ shiftL 24 (lh rs u) := List.mem_map.2 ⟨y, hy, rfl⟩
  have h2 := part_len (L := F) h1
  have e : sh 24 y = y - 24 := by unfold sh; rw [if_pos h0]
  rw [e, rep_vr (by omega), show vr (y - 24) = vr y + 24 by unfold vr; omega] at h2
  have h3 := hun.2
  unfold oT at h3
  rw [← h3] at h2
  omega
 have eT : topI sg rs o u rt D = fillL F (lh rs o) := (fill_ext fun x hx h0 => tlo hx h0).trans (t61_same p60)
 have eR : rightI sg rs o u rt D = fillL F (rh rs o) := (fill_ext fun x hx h0 => tlo (h.vo x hx h0) h0).trans (t61_same fun x hx h0 => p60 x (h.vo x hx h0) h0)
 have eF : frontI sg rs o a u rt D = fillL F ((lh rs o).take a) := (fill_ext fun x hx h0 => tlo (List.mem_of_mem_take hx) h0).trans (t61_same fun x hx h0 => p60 x (List.mem_of_mem_take hx) h0)
 have eM : midI sg rs o u rt D = fillL F (shiftL 24 (rh rs u)) := by
  rw [fill_shift]
  unfold midI
  refine fill_ext fun x hx h0 => ?_
  show Tl sg rs o u rt D (lh rs o).length (vr x) = F (vr x + 24)
  rw [tlu (h.vu x hx h0) h0]
  exact List.take_of_length_le (q60 x (h.vu x hx h0) h0)
 -- the variables
 obtain ⟨od, hod⟩ : ∃ od, orderL (fillL F (lh rs o)) = od := ⟨_, rfl⟩
 have inO : ∀ {x : Int}, x ∈ fillL F (lh rs o) → x < 0 → x ∈ od := fun hx h0 => by rw [← hod]; exact order_mem.2 ⟨hx, h0⟩
 have vR : ∀ x ∈ fillL F (rh rs o), x < 0 → x ∈ od := fun x hx h0 => inO (right_vars h.vo x hx h0) h0
 have vA : ∀ x ∈ fillL F (leftA sg rs o a u), x < 0 → x ∈ od := fun x hx h0 => inO (left_vars h.lo h.ha h.vu hun.2 x hx h0) h0
 have vF : ∀ x ∈ fillL F ((lh rs o).take a), x < 0 → x ∈ od := fun x hx h0 => inO (by rw [eL]; exact List.mem_append_left _ hx) h0
 have vM : ∀ x ∈ fillL F (shiftL 24 (rh rs u)), x < 0 → x ∈ od := fun x hx h0 => vA x (by rw [fill_left]; exact List.mem_append_right _ (List.mem_append_left _ hx)) h0
 have eo1 : o1I sg rs o u rt D = od := by unfold o1I; rw [eT, ← hod]; rfl
 have eo2 : o2I sg rs o u rt D = od := by unfold o2I; rw [eo1, eR, ordF_same vR]
 have eo3 : o3I sg rs o a u rt D = od := by unfold o3I; rw [eo2, eF, ordF_same vF]
 have rT : topR sg rs o u rt D = byL od (fillL F (lh rs o)) := by
  unfold topR renF byL
  rw [eT, ← hod]
  rfl
 have rR : rightR sg rs o u rt D = byL od (fillL F (rh rs o)) := by unfold rightR; rw [eo1, eR, ren_same vR]
 have rM : midR sg rs o a u rt D = byL od (fillL F (shiftL 24 (rh rs u))) := by unfold midR; rw [eo3, eM, ren_same vM]
 have rP : placeR sg rs o a u rt D = (fillL F ((lh rs o).take a)).length := by unfold placeR; rw [eF]
 have hsig := (term_parts h.lo).1
 have foT : Fo sg 1 (fillL F (lh rs o)) := (fo_term h.lo).fill hun.1
 have foR : Fo sg 1 (fillL F (rh rs o)) := (fo_term h.ro).fill hun.1
 have foM : Fo sg 1 (fillL F (shiftL 24 (rh rs u))) := (fo_shift h.ru).fill hun.1
 have foS : Fo sg 1 (fillL F (oS sg rs o a)) := (fo_term (sub_ok h.lo h.ha)).fill hun.1
 have pS := foS.pos
 by_cases h24 : od.length ≤ 24
 ·have okT : termOkB sg (byL od (fillL F (lh rs o))) = true := by rw [by_ok hsig foT h24 fun x hx h0 => inO hx h0]; exact decide_eq_true hl
  have okR := by_ok hsig foR h24 vR
  have okM := by_ok hsig foM h24 vM
  have hlt : (fillL F ((lh rs o).take a)).length < (byL od (fillL F (lh rs o))).length := by rw [by_len, eL, List.length_append, List.length_append]; omega
  have hth : thereB sg (byL od (fillL F (lh rs o))) ((fillL F ((lh rs o).take a)).length : Nat) = true := by
   unfold thereB endAt.inB
   rw [okT]
   exact decide_eq_true ⟨by omega, by omega⟩
  have eB : byL od (fillL F (lh rs o)) = byL od (fillL F ((lh rs o).take a)) ++ (byL od (fillL F (oS sg rs o a)) ++ byL od (fillL F ((lh rs o).drop (a + (oS sg rs o a).length)))) := by rw [eL, by_app, by_app]
  have hl1 : len1 sg (byL od (fillL F (lh rs o))) (fillL F ((lh rs o).take a)).length = (fillL F (oS sg rs o a)).length := by
   refine len1_eq ?_
   rw [eB]
   have e9 : (fillL F ((lh rs o).take a)).length = (byL od (fillL F ((lh rs o).take a))).length := by rw [by_len]
   rw [e9, List.drop_left]
   have := scan_fo (by_fo (o := od) foS) (by_low h24 fun x hx h0 => inO (by rw [eL]; exact List.mem_append_right _ (List.mem_append_left _ hx)) h0)
   rw [by_len] at this
   exact termMath.scan_append this
  have ePut : putI sg (byL od (fillL F (lh rs o))) (byL od (fillL F (shiftL 24 (rh rs u)))) (fillL F ((lh rs o).take a)).length = byL od (fillL F (leftA sg rs o a u)) := by
   unfold putI putL
   rw [hl1, fill_left, by_app, by_app, eB]
   have e9 : (fillL F ((lh rs o).take a)).length = (byL od (fillL F ((lh rs o).take a))).length := by rw [by_len]
   have e8 : (fillL F (oS sg rs o a)).length = (byL od (fillL F (oS sg rs o a))).length := by rw [by_len]
   rw [e9, e8, List.take_left, ← List.drop_drop, List.drop_left, List.drop_left]
  have hA60 : (fillL F (shiftL 24 (rh rs u))).length ≤ (fillL F (leftA sg rs o a u)).length := by rw [fill_left, List.length_append, List.length_append]; omega
  have eput : putB sg (byL od (fillL F (lh rs o))) (byL od (fillL F (shiftL 24 (rh rs u)))) ((fillL F ((lh rs o).take a)).length : Nat) = decide ((fillL F (leftA sg rs o a u)).length ≤ 60) := by
   unfold putB fitB
   rw [hth, okM, Int.toNat_natCast, ePut, by_len]
   by_cases hA : (fillL F (leftA sg rs o a u)).length ≤ 60
   ·rw [decide_eq_true hA, decide_eq_true (show (fillL F (shiftL 24 (rh rs u))).length ≤ 60 by omega)]
    rfl
   ·rw [decide_eq_false hA, Bool.and_false]
  have eok : okI sg rs o a u rt D = (decide ((fillL F (leftA sg rs o a u)).length ≤ 60) && decide ((fillL F (rh rs o)).length ≤ 60)) := by
   unfold okI
   rw [rT, rM, rP, rR, eput, okR]
  by_cases hA : (fillL F (leftA sg rs o a u)).length ≤ 60
  ·by_cases hR : (fillL F (rh rs o)).length ≤ 60
   ·have e1 : okI sg rs o a u rt D = true := by rw [eok, decide_eq_true hA, decide_eq_true hR]; rfl
    have e2 : pk3 (fillL F (lh rs o)) (fillL F (leftA sg rs o a u)) (fillL F (rh rs o)) = some (byL od (fillL F (lh rs o)), byL od (fillL F (leftA sg rs o a u)), byL od (fillL F (rh rs o))) := by
     unfold pk3
     rw [hod, if_pos ⟨hl, hA, hR, h24⟩]
    have e3 : leftR sg rs o a u rt D = byL od (fillL F (leftA sg rs o a u)) := by
     unfold leftR putR
     rw [rT, rM, rP, eput, if_pos (decide_eq_true hA), Int.toNat_natCast, ePut]
    refine ⟨?_, by rw [e1, e2]; rfl⟩
    unfold pkI
    rw [if_pos e1, e2, rT, rR, e3]
    rfl
   ·have e1 : okI sg rs o a u rt D = false := by rw [eok, decide_eq_false hR, Bool.and_false]
    have e2 : pk3 (fillL F (lh rs o)) (fillL F (leftA sg rs o a u)) (fillL F (rh rs o)) = none := by unfold pk3; rw [if_neg fun h => hR h.2.2.1]
    exact ⟨by rw [(pk_off e1).1, e2]; rfl, by rw [e1, e2]; rfl⟩
  ·have e1 : okI sg rs o a u rt D = false := by rw [eok, decide_eq_false hA, Bool.false_and]
   have e2 : pk3 (fillL F (lh rs o)) (fillL F (leftA sg rs o a u)) (fillL F (rh rs o)) = none := by unfold pk3; rw [if_neg fun h => hA h.2.1]
   exact ⟨by rw [(pk_off e1).1, e2]; rfl, by rw [e1, e2]; rfl⟩
 ·have okT : termOkB sg (byL od (fillL F (lh rs o))) = false := by
   cases hb : termOkB sg (byL od (fillL F (lh rs o))) with
   | false => rfl
   | true =>
    exfalso
    have h25 : 24 < od.length := by omega
    have hm : od.getD 24 0 ∈ od := by rw [List.getD_eq_getElem?_getD, List.getElem?_eq_getElem h25]; exact List.getElem_mem _
    have hm2 := hm
    rw [← hod] at hm2
    obtain ⟨hx, h0⟩ := order_mem.1 hm2
    have hi : idx od (od.getD 24 0) = 24 := idx_nodup (by rw [← hod]; exact order_nodup _) h25 rfl
    rw [hod] at hx h0
    have : ren od (od.getD 24 0) ∈ byL od (fillL F (lh rs o)) := List.mem_map.2 ⟨_, hx, rfl⟩
    have h1 := (term_mem hb this).1
    unfold ren at h1
    rw [if_pos h0, hi] at h1
    omega
  have e1 : okI sg rs o a u rt D = false := by
   unfold okI putB thereB
   rw [rT, okT]
   rfl
  have e2 : pk3 (fillL F (lh rs o)) (fillL F (leftA sg rs o a u)) (fillL F (rh rs o)) = none := by unfold pk3; rw [hod, if_neg fun h => h24 h.2.2.2]
  exact ⟨by rw [(pk_off e1).1, e2]; rfl, by rw [e1, e2]; rfl⟩
theorem link (h : Hy sg rs o a u lk rt rk D) : pkI sg rs o a u rt D = pkO (pkV sg rs o a u) o a u ∧ okI sg rs o a u rt D = (pkV sg rs o a u).isSome := by
 rw [← link_F h]
 by_cases hl : (fillL (fF sg rs o u rt D) (lh rs o)).length ≤ 60
 ·exact link_short h hl
 ·have e1 := top_long h (by omega)
  have e2 : pk3 (fillL (fF sg rs o u rt D) (lh rs o)) (fillL (fF sg rs o u rt D) (leftA sg rs o a u)) (fillL (fF sg rs o u rt D) (rh rs o)) = none := by unfold pk3; rw [if_neg fun h => hl h.1]
  exact ⟨by rw [(pk_off e1).1, e2]; rfl, by rw [e1, e2]; rfl⟩
end
end pkLink
end
section
namespace peakAtImpl
open Go.RowKit base ints sig term termOk termFacts sym varsOf marks app appAt segs kinds shape kindsR kindsP drawX fillMath matchMath unifMath forest triMath Go.Proofs.Ytfmjhfodjhkmlaa.look ruleMath ruleSpec peakMath ruleImpl ovImpl linkImpl nodes ufMath finMath finImpl ovStart ovAdd ovAt trySpec pkMath pkVars pkMgu pkAns pkAll
set_option maxRecDepth 100000
theorem hy_of {w : World} {lo : Nat} {A : Option Addr} {n c : Nat} {v : Value} {sg : List Int} {rs : List Rl} {o a u : Nat} {lk : List Nat} {rt rk : Nat → Nat} {D : List Nat} (hok : ∀ k, k < rs.length → ruleOkB sg (rs.getD k ([], [])) = true) (ho : o < rs.length) (hu : u < rs.length) (ha : a < (lh rs o).length)
  (hW : Whole sg ((lh rs o).length + (lh rs u).length) (fun i => (lh rs o ++ lh rs u).getD i 0) (nodes.nd sg (lh rs o ++ lh rs u) (lh rs o ++ shiftL 24 (lh rs u))) (chN sg (lh rs o ++ lh rs u)) (inn sg (lh rs o) a) a (lh rs o).length lk rt rk D) : pkLink.Hy sg rs o a u lk rt rk D :=
 ⟨(rule_parts (hok o ho)).1, (rule_parts (hok o ho)).2.1, (rule_parts (hok u hu)).1, (rule_parts (hok u hu)).2.1, (rule_parts (hok o ho)).2.2.2, (rule_parts (hok u hu)).2.2.2, ha, hW⟩
theorem peakMade (A V : Option Addr) (n c q cv : Nat) (d : Dat sSystem) (o a u lo p : Nat) (w : World) (h : Rd w w.heap.size sSystem [.slice A n c, .slice V q cv] d) (hz : sz sSystem d ≤ 1048576) (hs : sysOkB d.1 d.2 = true) (ho : o < d.2.length) (hu : u < d.2.length) (ha : a < (lh d.2 o).length) (hm : metB d.1 d.2 (o : Int) (a : Int) (u : Int) = true)
  (hM : Made w lo A n c (.slice V q cv) d.1 d.2 o a u p) : Calls Try.prog 44 #[.pointer (some ⟨p, 0, none⟩)] w (AnsPk w (pkA d.1 d.2 (o : Int) (a : Int) (u : Int)) (okA d.1 d.2 (o : Int) (a : Int) (u : Int))) := by
 obtain ⟨lb, xc, lc, X, N, lk, rt, rk, D, hOv, hWh⟩ := hM.ex
 obtain ⟨e1, e2⟩ := pkLink.link (hy_of (w := w) (lo := 0) (A := A) (n := n) (c := c) (v := .slice V q cv) (fun k hk => trySpec.sys_rule hs hk) ho hu ha hWh)
 obtain ⟨f1, f2⟩ := pa_yes (o := (o : Int)) (x := (a : Int)) (u := (u : Int)) hs hm
 rw [f1, f2]
 show Calls _ _ _ _ (AnsPk w (pkO (pkV d.1 d.2 o a u) o a u) (pkV d.1 d.2 o a u).isSome)
 rw [← e1, ← e2]
 exact peakRun.peakRun p lb A V X n c q cv xc lc N d o a u lk rt rk D w h hz (fun k hk => trySpec.sys_rule hs hk) ho hu ha hOv hWh
end peakAtImpl
end
section
open Go.Lib (hid)
namespace kindsQ
open Go.RowKit base ints sig cursor marks app sym appAt segs segsHelp segsMark kinds shape kindsP
set_option maxRecDepth 100000
abbrev sPeakS : Sh := .row 41 sPeak
set_option maxHeartbeats 2000000 in
theorem eqK_PeakS (v u : Value) (D : List (Dat sPeak)) (w : World) (h : Rd w w.heap.size sPeakS [v] D) (h' : Rd w w.heap.size sPeakS [u] D) (hz : sz sPeakS D ≤ 1048576) :
  Calls Try.prog 23 #[v, u] w (Yes w) := by
 obtain ⟨A, c, rfl, hcap⟩ := h.slice
 obtain ⟨A', c', rfl, hcap'⟩ := h'.slice
 obtain ⟨n, hn⟩ : ∃ n, D.length = n := ⟨_, rfl⟩
 have hn1 : n ≤ 1048576 := by rw [← hn]; exact sz_len hz
 rw [hn] at h h' hcap hcap' ⊢
 have HN := hid hn
 have H := hid h
 have H' := hid h'
 have HZ := hid hz
 clear hcap hcap' hn h h' hz
 go_enter Try.func23, Try.ntmps23
 go_wp2
 go_loopw [5] (fun i wr => ∃ k : Nat, k ≤ n ∧ i = .int .i64 k ∧ Below w.heap.size w wr) (fun i _ => n - (intOf i).toNat)
 case atStart => exact ⟨0, Nat.zero_le _, rfl, Below.refl _ _⟩
 case round =>
  obtain ⟨k, hk, rfl, hb⟩ := hrel
  by_cases hlt : k < n
  ·have hkD : k < D.length := by rw [HN.out]; exact hlt
   obtain ⟨b, off, n2, c2, es, ev, -, -, hbB, hel, hp, hrd⟩ := H.out.elem hkD
   injection ev with e1 e2 e3
   subst e1 e2 e3
   obtain ⟨b', off', n2, c2, es', ev, -, -, hbB', hel', hp', hrd'⟩ := H'.out.elem hkD
   injection ev with e1 e2 e3
   subst e1 e2 e3
   obtain ⟨y, hy⟩ : ∃ y, D.getD k (dft sPeak) = y := ⟨_, rfl⟩
   rw [hy] at hrd hrd'
   have HY := hid hy
   clear hy
   obtain ⟨v0, v1, v2, rfl⟩ := cells_Peak hrd
   obtain ⟨u0, u1, u2, rfl⟩ := cells_Peak hrd'
   replace hb := hb.drew
   have hpw := hp.keep (w' := wr.drew) (fun p hp => hb.cell (p := p) (by rw [hp]; exact hbB))
   have hpw' := hp'.keep (w' := wr.drew) (fun p hp => hb.cell (p := p) (by rw [hp]; exact hbB'))
   have c0 : wr.drew.cell? ⟨b, off + k * 6, none⟩ = some (v0) := hpw 0 (by simp)
   have c0' : wr.drew.cell? ⟨b', off' + k * 6, none⟩ = some (u0) := hpw' 0 (by simp)
   have c1 : wr.drew.cell? ⟨b, off + k * 6 + 1, none⟩ = some (v1) := hpw 1 (by simp)
   have c1' : wr.drew.cell? ⟨b', off' + k * 6 + 1, none⟩ = some (u1) := hpw' 1 (by simp)
   have c2 : wr.drew.cell? ⟨b, off + k * 6 + 2, none⟩ = some (v2) := hpw 2 (by simp)
   have c2' : wr.drew.cell? ⟨b', off' + k * 6 + 2, none⟩ = some (u2) := hpw' 2 (by simp)
   have c3 : wr.drew.cell? ⟨b, off + k * 6 + 3, none⟩ = some (.int .i64 y.2.2.2.1) := hpw 3 (by simp)
   have c3' : wr.drew.cell? ⟨b', off' + k * 6 + 3, none⟩ = some (.int .i64 y.2.2.2.1) := hpw' 3 (by simp)
   have c4 : wr.drew.cell? ⟨b, off + k * 6 + 4, none⟩ = some (.int .i64 y.2.2.2.2.1) := hpw 4 (by simp)
   have c4' : wr.drew.cell? ⟨b', off' + k * 6 + 4, none⟩ = some (.int .i64 y.2.2.2.2.1) := hpw' 4 (by simp)
   have c5 : wr.drew.cell? ⟨b, off + k * 6 + 5, none⟩ = some (.int .i64 y.2.2.2.2.2) := hpw 5 (by simp)
   have c5' : wr.drew.cell? ⟨b', off' + k * 6 + 5, none⟩ = some (.int .i64 y.2.2.2.2.2) := hpw' 5 (by simp)
   have L := hid (eqK_Peak _ _ _ _ _ _ y wr.drew ((hrd.below hb).more hb.size) ((hrd'.below hb).more hb.size) (by rw [← HY.out]; exact sz_each HZ.out hkD))
   have HB := hid hb
   have hlb : b < wr.drew.heap.size := Nat.lt_of_lt_of_le hbB hb.size
   have hlb' : b' < wr.drew.heap.size := Nat.lt_of_lt_of_le hbB' hb.size
   clear hrd hrd' hel hel' hp hp' hpw hpw' hb
   go_wp2_with fail
   go_region_held3 (fun w' => w'.cell? ⟨b, off + k * 6, none⟩ = some (v0) ∧ w'.cell? ⟨b', off' + k * 6, none⟩ = some (u0) ∧ w'.cell? ⟨b, off + k * 6 + 1, none⟩ = some (v1) ∧ w'.cell? ⟨b', off' + k * 6 + 1, none⟩ = some (u1) ∧ w'.cell? ⟨b, off + k * 6 + 2, none⟩ = some (v2) ∧ w'.cell? ⟨b', off' + k * 6 + 2, none⟩ = some (u2) ∧ w'.cell? ⟨b, off + k * 6 + 3, none⟩ = some (.int .i64 y.2.2.2.1) ∧ w'.cell? ⟨b', off' + k * 6 + 3, none⟩ = some (.int .i64 y.2.2.2.1) ∧ w'.cell? ⟨b, off + k * 6 + 4, none⟩ = some (.int .i64 y.2.2.2.2.1) ∧ w'.cell? ⟨b', off' + k * 6 + 4, none⟩ = some (.int .i64 y.2.2.2.2.1) ∧ w'.cell? ⟨b, off + k * 6 + 5, none⟩ = some (.int .i64 y.2.2.2.2.2) ∧ w'.cell? ⟨b', off' + k * 6 + 5, none⟩ = some (.int .i64 y.2.2.2.2.2))
    (go_keep)
    (first | (go_at_call 18; refine L.out.mono ?_; rintro e w1 ⟨rfl, bb⟩; have m0 := (bb.cell (p := ⟨b, off + k * 6, none⟩) hlb).trans c0; have m1 := (bb.cell (p := ⟨b', off' + k * 6, none⟩) hlb').trans c0'; have m2 := (bb.cell (p := ⟨b, off + k * 6 + 1, none⟩) hlb).trans c1; have m3 := (bb.cell (p := ⟨b', off' + k * 6 + 1, none⟩) hlb').trans c1'; have m4 := (bb.cell (p := ⟨b, off + k * 6 + 2, none⟩) hlb).trans c2; have m5 := (bb.cell (p := ⟨b', off' + k * 6 + 2, none⟩) hlb').trans c2'; have m6 := (bb.cell (p := ⟨b, off + k * 6 + 3, none⟩) hlb).trans c3; have m7 := (bb.cell (p := ⟨b', off' + k * 6 + 3, none⟩) hlb').trans c3'; have m8 := (bb.cell (p := ⟨b, off + k * 6 + 4, none⟩) hlb).trans c4; have m9 := (bb.cell (p := ⟨b', off' + k * 6 + 4, none⟩) hlb').trans c4'; have m10 := (bb.cell (p := ⟨b, off + k * 6 + 5, none⟩) hlb).trans c5; have m11 := (bb.cell (p := ⟨b', off' + k * 6 + 5, none⟩) hlb').trans c5'))
   have HB1 := hid (next_trans HB.out bb)
   clear bb L c0 c0' c1 c1' c2 c2' c3 c3' c4 c4' c5 c5' m0 m1 m2 m3 m4 m5 m6 m7 m8 m9 m10 m11
   go_wp2
   go_roundw
   case rel => exact ⟨k + 1, hlt, by simp, HB1.out⟩
   case measure => simp [intOf]; omega
  ·have HB := hid hb
   clear hb
   go_wp2
   go_ret
   exact ⟨rfl, HB.out⟩
set_option maxHeartbeats 2000000 in
theorem markK_PeakS (v : Value) (D : List (Dat sPeak)) (k : Int) (F : List Nat) (w : World) (h : Ow w sPeakS [v] D F) (hF : F.Nodup) (hz : sz sPeakS D ≤ 1048576) (hk0 : 0 ≤ k) (hk : k + (cntv sPeakS D : Int) ≤ 1099511627776) :
  Calls Try.prog 24 #[v, .int .i64 k] w (AnsMarkF w sPeakS [v] D k F) := by
 obtain ⟨A, c, rfl, hcap⟩ := h.rd.slice
 have hn1 := sz_len hz
 obtain ⟨n, hn⟩ : ∃ n, D.length = n := ⟨_, rfl⟩
 rw [hn] at h hcap hn1 ⊢
 have HN := hid hn
 have HZ := hid hz
 have S0 := hid (headMk_zero (k := k) h)
 clear h hcap hn hz
 go_enter Try.func24, Try.ntmps24
 go_wp2
 go_loopw [1, 5] (fun kk i wr => HeadMk w 41 sPeak (.slice A n c) D k F kk i wr) (fun _ i _ => n - (intOf i).toNat)
 case atStart => first | exact S0.out | (have h9 := S0.out; rw [Nat.mul_one] at h9; exact h9)
 case round =>
  obtain ⟨j, hj, rfl, rfl, ho, hb⟩ := hrel
  clear S0
  rw [HN.out] at hj
  by_cases hlt : j < n
  ·have hjD : j < D.length := by rw [HN.out]; exact hlt
   obtain ⟨g, n2, c2, cur, es, Gj, ev, -, hr, hsz, hel, hcur, oe, ng, gG, sub, R⟩ := ho.elemR hF (j := j) (by rw [mixed_len]; exact hjD)
   injection ev with e1 e2 e3
   subst e1 e2 e3
   obtain ⟨y, hy⟩ : ∃ y, D.getD j (dft sPeak) = y := ⟨_, rfl⟩
   rw [mixed_get hjD, hy] at oe
   have HY := hid hy
   clear hy
   obtain ⟨v0, v1, v2, rfl⟩ := cells_Peak oe.rd
   obtain ⟨F0, R0, eF0, o0, q0⟩ := Ow.split (ca := [v0]) (cb := [v1, v2, .int .i64 y.2.2.2.1, .int .i64 y.2.2.2.2.1, .int .i64 y.2.2.2.2.2]) oe rfl
   obtain ⟨F1, R1, eF1, o1, q1⟩ := Ow.split (ca := [v1]) (cb := [v2, .int .i64 y.2.2.2.1, .int .i64 y.2.2.2.2.1, .int .i64 y.2.2.2.2.2]) q0 rfl
   obtain ⟨F2, R2, eF2, o2, q2⟩ := Ow.split (ca := [v2]) (cb := [.int .i64 y.2.2.2.1, .int .i64 y.2.2.2.2.1, .int .i64 y.2.2.2.2.2]) q1 rfl
   obtain ⟨F3, R3, eF3, o3, q3⟩ := Ow.split (ca := [.int .i64 y.2.2.2.1]) (cb := [.int .i64 y.2.2.2.2.1, .int .i64 y.2.2.2.2.2]) q2 rfl
   obtain ⟨F4, R4, eF4, o4, o5⟩ := Ow.split (ca := [.int .i64 y.2.2.2.2.1]) (cb := [.int .i64 y.2.2.2.2.2]) q3 rfl
   rw [eF0] at ng
   obtain ⟨n0, nr0, x0, y0⟩ := dis_app ng
   rw [eF1] at nr0
   obtain ⟨n1, nr1, x1, y1⟩ := dis_app nr0
   rw [eF2] at nr1
   obtain ⟨n2, nr2, x2, y2⟩ := dis_app nr1
   rw [eF3] at nr2
   obtain ⟨n3, nr3, x3, y3⟩ := dis_app nr2
   rw [eF4] at nr3
   obtain ⟨n4, nr4, x4, y4⟩ := dis_app nr3
   rw [eF1] at x0 y0
   obtain ⟨x0_1, x0_1r⟩ := dis_l x0
   obtain ⟨y0_1, y0_1r⟩ := dis_r y0
   rw [eF2] at x0_1r y0_1r
   obtain ⟨x0_2, x0_2r⟩ := dis_l x0_1r
   obtain ⟨y0_2, y0_2r⟩ := dis_r y0_1r
   rw [eF3] at x0_2r y0_2r
   obtain ⟨x0_3, x0_3r⟩ := dis_l x0_2r
   obtain ⟨y0_3, y0_3r⟩ := dis_r y0_2r
   rw [eF4] at x0_3r y0_3r
   obtain ⟨x0_4, x0_4r⟩ := dis_l x0_3r
   obtain ⟨y0_4, y0_4r⟩ := dis_r y0_3r
   rw [eF2] at x1 y1
   obtain ⟨x1_2, x1_2r⟩ := dis_l x1
   obtain ⟨y1_2, y1_2r⟩ := dis_r y1
   rw [eF3] at x1_2r y1_2r
   obtain ⟨x1_3, x1_3r⟩ := dis_l x1_2r
   obtain ⟨y1_3, y1_3r⟩ := dis_r y1_2r
   rw [eF4] at x1_3r y1_3r
   obtain ⟨x1_4, x1_4r⟩ := dis_l x1_3r
   obtain ⟨y1_4, y1_4r⟩ := dis_r y1_3r
   rw [eF3] at x2 y2
   obtain ⟨x2_3, x2_3r⟩ := dis_l x2
   obtain ⟨y2_3, y2_3r⟩ := dis_r y2
   rw [eF4] at x2_3r y2_3r
   obtain ⟨x2_4, x2_4r⟩ := dis_l x2_3r
   obtain ⟨y2_4, y2_4r⟩ := dis_r y2_3r
   rw [eF4] at x3 y3
   obtain ⟨x3_4, x3_4r⟩ := dis_l x3
   obtain ⟨y3_4, y3_4r⟩ := dis_r y3
   have g0 : g ∉ F0 := fun hb => gG (by rw [eF0]; exact List.mem_append_left _ hb)
   have g1 : g ∉ F1 := fun hb => gG (by rw [eF0, eF1]; exact (List.mem_append_right _ (List.mem_append_left _ hb)))
   have g2 : g ∉ F2 := fun hb => gG (by rw [eF0, eF1, eF2]; exact (List.mem_append_right _ (List.mem_append_right _ (List.mem_append_left _ hb))))
   have g3 : g ∉ F3 := fun hb => gG (by rw [eF0, eF1, eF2, eF3]; exact (List.mem_append_right _ (List.mem_append_right _ (List.mem_append_right _ (List.mem_append_left _ hb)))))
   have g4 : g ∉ F4 := fun hb => gG (by rw [eF0, eF1, eF2, eF3, eF4]; exact (List.mem_append_right _ (List.mem_append_right _ (List.mem_append_right _ (List.mem_append_right _ (List.mem_append_left _ hb))))))
   have g5 : g ∉ R4 := fun hb => gG (by rw [eF0, eF1, eF2, eF3, eF4]; exact (List.mem_append_right _ (List.mem_append_right _ (List.mem_append_right _ (List.mem_append_right _ (List.mem_append_right _ hb))))))
   have sub0 : ∀ x ∈ F0, x ∈ g :: Gj := fun x hb => List.mem_cons_of_mem _ (by rw [eF0]; exact List.mem_append_left _ hb)
   have sub1 : ∀ x ∈ F1, x ∈ g :: Gj := fun x hb => List.mem_cons_of_mem _ (by rw [eF0, eF1]; exact (List.mem_append_right _ (List.mem_append_left _ hb)))
   have sub2 : ∀ x ∈ F2, x ∈ g :: Gj := fun x hb => List.mem_cons_of_mem _ (by rw [eF0, eF1, eF2]; exact (List.mem_append_right _ (List.mem_append_right _ (List.mem_append_left _ hb))))
   have hgs : g ∈ g :: Gj := List.mem_cons_self ..
   obtain ⟨z0, hz0⟩ : ∃ z, cntv sI y.1 = z := ⟨_, rfl⟩
   obtain ⟨z1, hz1⟩ : ∃ z, cntv sI y.2.1 = z := ⟨_, rfl⟩
   obtain ⟨z2, hz2⟩ : ∃ z, cntv sI y.2.2.1 = z := ⟨_, rfl⟩
   have hzz : cnt sPeak y = z0 + (z1 + (z2 + (1 + (1 + (1))))) := by rw [← hz0, ← hz1, ← hz2]; rfl
   have hcn := headMk_cnt (e := 41) hjD
   rw [HY.out, hzz] at hcn
   obtain ⟨q, hq⟩ : ∃ q, k + (cnts sPeak D j : Int) = q := ⟨_, rfl⟩
   have q0 : 0 ≤ q := by omega
   have q1 : q + 3 + (z0 : Int) + (z1 : Int) + (z2 : Int) ≤ 1099511627776 := by have : (cntv sPeakS D : Int) = (cntv (.row 41 sPeak) D : Nat) := rfl; omega
   have Z0 : Hid (sz sI y.1 ≤ 1048576) := hid (by have := sz_each HZ.out hjD; rw [HY.out] at this; simp only [sz] at this ⊢; omega)
   have HZ0 := hid hz0
   have Z1 : Hid (sz sI y.2.1 ≤ 1048576) := hid (by have := sz_each HZ.out hjD; rw [HY.out] at this; simp only [sz] at this ⊢; omega)
   have HZ1 := hid hz1
   have Z2 : Hid (sz sI y.2.2.1 ≤ 1048576) := hid (by have := sz_each HZ.out hjD; rw [HY.out] at this; simp only [sz] at this ⊢; omega)
   have HZ2 := hid hz2
   rw [hq]
   have HEF : Hid (Gj = F0 ++ (F1 ++ (F2 ++ (F3 ++ (F4 ++ R4))))) := hid (by rw [eF0, eF1, eF2, eF3, eF4])
   have HR := hid R
   have HB := hid hb
   have HQ := hid hq
   have HZZ := hid hzz
   have SUB := hid sub
   have HCUR := hid hcur
   have HSZ := hid hsz
   have hs0 : j * 6 + 6 ≤ cur.size := HSZ.out
   have r := hr
   have on := Only.refl (g :: Gj) wr
   clear R hb hq hzz hcn ho oe sub hel gG hcur hsz hr hz0 hz1 hz2 eF0 eF1 eF2 eF3 eF4
   have d0 : wr.cell? ⟨g, j * 6, none⟩ = some (v0) := by rw [r.cell]; simpa [nc] using HCUR.out 0 (by simp [nc])
   go_wp2_with fail
   clear d0
   refine (markK_ints _ _ (q) F0 _ o0 Z0.out (by omega) (by omega)).mono ?_
   rintro e w1 ⟨he, o0, on0⟩
   rw [HZ0.out] at he
   replace o1 := o1.only on0 y0_1
   replace o2 := o2.only on0 y0_2
   replace o3 := o3.only on0 y0_3
   replace o4 := o4.only on0 y0_4
   replace o5 := o5.only on0 y0_4r
   replace r := Row.only r on0 g0
   replace on := on.trans (on0.wider sub0)
   clear on0
   obtain ⟨k0, hk0⟩ : ∃ l, q + (z0 : Int) = l := ⟨_, rfl⟩
   rw [hk0] at he
   have l0 : 0 ≤ k0 := by omega
   have u0 : k0 + 3 + (z1 : Int) + (z2 : Int) ≤ 1099511627776 := by omega
   subst he
   have HK0 := hid hk0
   clear hk0
   have d1 : w1.cell? ⟨g, j * 6 + 1, none⟩ = some (v1) := by rw [r.cell]; simpa [nc] using HCUR.out 1 (by simp [nc])
   go_wp2_with fail
   clear d1
   refine (markK_ints _ _ (k0) F1 _ o1 Z1.out (by omega) (by omega)).mono ?_
   rintro e w2 ⟨he, o1, on1⟩
   rw [HZ1.out] at he
   replace o0 := o0.only on1 x0_1
   replace o2 := o2.only on1 y1_2
   replace o3 := o3.only on1 y1_3
   replace o4 := o4.only on1 y1_4
   replace o5 := o5.only on1 y1_4r
   replace r := Row.only r on1 g1
   replace on := on.trans (on1.wider sub1)
   clear on1
   obtain ⟨k1, hk1⟩ : ∃ l, k0 + (z1 : Int) = l := ⟨_, rfl⟩
   rw [hk1] at he
   have l1 : 0 ≤ k1 := by omega
   have u1 : k1 + 3 + (z2 : Int) ≤ 1099511627776 := by omega
   subst he
   have HK1 := hid hk1
   clear hk1
   have d2 : w2.cell? ⟨g, j * 6 + 2, none⟩ = some (v2) := by rw [r.cell]; simpa [nc] using HCUR.out 2 (by simp [nc])
   go_wp2_with fail
   clear d2
   refine (markK_ints _ _ (k1) F2 _ o2 Z2.out (by omega) (by omega)).mono ?_
   rintro e w3 ⟨he, o2, on2⟩
   rw [HZ2.out] at he
   replace o0 := o0.only on2 x0_2
   replace o1 := o1.only on2 x1_2
   replace o3 := o3.only on2 y2_3
   replace o4 := o4.only on2 y2_4
   replace o5 := o5.only on2 y2_4r
   replace r := Row.only r on2 g2
   replace on := on.trans (on2.wider sub2)
   clear on2
   obtain ⟨k2, hk2⟩ : ∃ l, k1 + (z2 : Int) = l := ⟨_, rfl⟩
   rw [hk2] at he
   have l2 : 0 ≤ k2 := by omega
   have u2 : k2 + 3 ≤ 1099511627776 := by omega
   subst he
   have HK2 := hid hk2
   clear hk2
   have c3_s : w3.cell? ⟨g, j * 6 + 3, none⟩ = some (.int .i64 y.2.2.2.1) := by rw [r.cell]; simpa [nc] using HCUR.out 3 (by simp [nc])
   have fz3 : (w3).frozen? ⟨g, j * 6 + 3, none⟩ = false := (r).free _
   have c4_s : ((w3.setCell ⟨g, j * 6 + 3, none⟩ (.int .i64 k2))).cell? ⟨g, j * 6 + 4, none⟩ = some (.int .i64 y.2.2.2.2.1) := by rw [((Row.put r (j * 6 + 3) (.int .i64 k2))).cell]; simp only [Array.getElem?_setIfInBounds]; rw [if_neg (by omega)]; simpa [nc] using HCUR.out 4 (by simp [nc])
   have fz4 : ((w3.setCell ⟨g, j * 6 + 3, none⟩ (.int .i64 k2))).frozen? ⟨g, j * 6 + 4, none⟩ = false := ((Row.put r (j * 6 + 3) (.int .i64 k2))).free _
   have c5_s : (((w3.setCell ⟨g, j * 6 + 3, none⟩ (.int .i64 k2)).setCell ⟨g, j * 6 + 4, none⟩ (.int .i64 (k2 + 1)))).cell? ⟨g, j * 6 + 5, none⟩ = some (.int .i64 y.2.2.2.2.2) := by rw [((Row.put (Row.put r (j * 6 + 3) (.int .i64 k2)) (j * 6 + 4) (.int .i64 (k2 + 1)))).cell]; simp only [Array.getElem?_setIfInBounds]; rw [if_neg (by omega), if_neg (by omega)]; simpa [nc] using HCUR.out 5 (by simp [nc])
   have fz5 : (((w3.setCell ⟨g, j * 6 + 3, none⟩ (.int .i64 k2)).setCell ⟨g, j * 6 + 4, none⟩ (.int .i64 (k2 + 1)))).frozen? ⟨g, j * 6 + 5, none⟩ = false := ((Row.put (Row.put r (j * 6 + 3) (.int .i64 k2)) (j * 6 + 4) (.int .i64 (k2 + 1)))).free _
   have S : HeadMk w 41 sPeak (.slice (some ⟨g, 0, none⟩) n c) D k F (.int .i64 (k2 + 1 + 1 + 1)) (.int .i64 ((j : Int) + 1)) (((w3.setCell ⟨g, j * 6 + 3, none⟩ (.int .i64 k2)).setCell ⟨g, j * 6 + 4, none⟩ (.int .i64 (k2 + 1))).setCell ⟨g, j * 6 + 5, none⟩ (.int .i64 (k2 + 1 + 1))) := by
    have e0 : k0 = q + (cntv sI y.1 : Int) := by have := HK0.out; have := HZ0.out; omega
    have e1 : k1 = k0 + (cntv sI y.2.1 : Int) := by have := HK1.out; have := HZ1.out; omega
    have e2 : k2 = k1 + (cntv sI y.2.2.1 : Int) := by have := HK2.out; have := HZ2.out; omega
    have h3 : k + (cnts sPeak D j : Int) + ((z0 + (z1 + (z2 + (1 + (1 + (1))))) : Nat) : Int) = k2 + 1 + 1 + 1 := by have := HQ.out; have := HK0.out; have := HK1.out; have := HK2.out; omega
    obtain ⟨X, hX⟩ : ∃ X, X = (((w3.setCell ⟨g, j * 6 + 3, none⟩ (.int .i64 k2)).setCell ⟨g, j * 6 + 4, none⟩ (.int .i64 (k2 + 1))).setCell ⟨g, j * 6 + 5, none⟩ (.int .i64 (k2 + 1 + 1))) := ⟨_, rfl⟩
    have rX : Row X g 41 (((cur.setIfInBounds (j * 6 + 3) (.int .i64 k2)).setIfInBounds (j * 6 + 4) (.int .i64 (k2 + 1))).setIfInBounds (j * 6 + 5) (.int .i64 (k2 + 1 + 1))) := by rw [hX]; exact (Row.put (Row.put (Row.put r (j * 6 + 3) (.int .i64 k2)) (j * 6 + 4) (.int .i64 (k2 + 1))) (j * 6 + 5) (.int .i64 (k2 + 1 + 1)))
    have onX : Only (g :: Gj) wr X := by rw [hX]; exact (Only.setCell (Only.setCell (Only.setCell on hgs (.int .i64 k2)) hgs (.int .i64 (k2 + 1))) hgs (.int .i64 (k2 + 1 + 1)))
    have p0 : Ow X sI [v0] (mkv sI q y.1) F0 := by rw [hX]; exact o0.keep fun y hy => by have hyg : y ≠ g := fun e => g0 (e ▸ hy); rw [Below.heap_setCell _ _ _ y hyg, Below.heap_setCell _ _ _ y hyg, Below.heap_setCell _ _ _ y hyg]
    have p1 : Ow X sI [v1] (mkv sI k0 y.2.1) F1 := by rw [hX]; exact o1.keep fun y hy => by have hyg : y ≠ g := fun e => g1 (e ▸ hy); rw [Below.heap_setCell _ _ _ y hyg, Below.heap_setCell _ _ _ y hyg, Below.heap_setCell _ _ _ y hyg]
    have p2 : Ow X sI [v2] (mkv sI k1 y.2.2.1) F2 := by rw [hX]; exact o2.keep fun y hy => by have hyg : y ≠ g := fun e => g2 (e ▸ hy); rw [Below.heap_setCell _ _ _ y hyg, Below.heap_setCell _ _ _ y hyg, Below.heap_setCell _ _ _ y hyg]
    have HOW : Ow X sPeak [v0, v1, v2, .int .i64 k2, .int .i64 (k2 + 1), .int .i64 (k2 + 1 + 1)] (mkc sPeak q y) (F0 ++ (F1 ++ (F2 ++ (F3 ++ (F4 ++ R4))))) := by
     have t := (Ow.join p0 (Ow.join p1 (Ow.join p2 (Ow.join (o3.num (w' := X) (k2)) (Ow.join (o4.num (w' := X) (k2 + 1)) (o5.num (w' := X) (k2 + 1 + 1)))))))
     clear h3 rX onX hX
     subst e2 e1 e0
     exact t
    rw [← hX]
    have h1 := HR.out X [v0, v1, v2, .int .i64 k2, .int .i64 (k2 + 1), .int .i64 (k2 + 1 + 1)] (mkc sPeak q y) (((cur.setIfInBounds (j * 6 + 3) (.int .i64 k2)).setIfInBounds (j * 6 + 4) (.int .i64 (k2 + 1))).setIfInBounds (j * 6 + 5) (.int .i64 (k2 + 1 + 1))) rfl rX (by simp) (fun i hi => ?_) (fun i hi => ?_) (by rw [HEF.out]; exact HOW) onX
    rotate_left
    ·have hi : i < 6 := hi
     have h0 := HCUR.out i hi
     have hn : nc sPeak = 6 := rfl
     rw [hn] at h0 ⊢
     have hcases : i = 0 ∨ i = 1 ∨ i = 2 ∨ i = 3 ∨ i = 4 ∨ i = 5 := by omega
     rcases hcases with rfl | rfl | rfl | rfl | rfl | rfl
     all_goals simp only [Array.getElem?_setIfInBounds, Array.size_setIfInBounds]
     ·rw [if_neg (by omega), if_neg (by omega), if_neg (by omega)]; exact h0
     ·rw [if_neg (by omega), if_neg (by omega), if_neg (by omega)]; exact h0
     ·rw [if_neg (by omega), if_neg (by omega), if_neg (by omega)]; exact h0
     ·rw [if_neg (show ¬ (j * 6 + 5 = j * 6 + 3) by omega), if_neg (show ¬ (j * 6 + 4 = j * 6 + 3) by omega), if_pos True.intro, if_pos (show j * 6 + 3 < cur.size by omega)]; rfl
     ·rw [if_neg (show ¬ (j * 6 + 5 = j * 6 + 4) by omega), if_pos True.intro, if_pos (show j * 6 + 4 < cur.size by omega)]; rfl
     ·rw [if_pos True.intro, if_pos (show j * 6 + 5 < cur.size by omega)]; rfl
    ·have hi : i < j * 6 ∨ j * 6 + 6 ≤ i := hi
     simp only [Array.getElem?_setIfInBounds]
     rw [if_neg (by omega), if_neg (by omega), if_neg (by omega)]
    have h2 := headMk_step (z := z0 + (z1 + (z2 + (1 + (1 + (1)))))) hjD HB.out (onX.wider SUB.out) (by rw [HY.out]; exact HZZ.out) (by rw [HQ.out, HY.out]) h1
    rw [h3] at h2
    exact h2
   have HS := hid S
   clear S on r o0 o1 o2 o3 o4 o5
   go_wp2
   go_roundw
   case rel => exact HS.out
   case measure => simp [intOf]; omega
  ·have F1 := hid (headMk_end (by rw [HN.out]; exact hlt) (by rw [HN.out]; exact hj) ho hb)
   clear ho hb
   generalize cnts sPeak D j = z at *
   go_wp2
   go_ret
   exact F1.out
set_option maxHeartbeats 2000000 in
theorem heldK_PeakS (v : Value) (D : List (Dat sPeak)) (k : Int) (w : World) (h : Rd w w.heap.size sPeakS [v] (mkv sPeakS k D)) (hz : sz sPeakS D ≤ 1048576) (hk0 : 0 ≤ k) (hk : k + (cntv sPeakS D : Int) ≤ 1099511627776) :
  Calls Try.prog 25 #[v, .int .i64 k] w (AnsHeld w (k + (cntv sPeakS D : Int))) := by
 obtain ⟨A, c, rfl, hcap⟩ := h.slice
 have hn1 := sz_len hz
 have hml : List.length (mkv sPeakS k D : List (Dat sPeak)) = D.length := mk_len
 rw [hml] at h hcap ⊢
 have HML := hid hml
 clear hml
 obtain ⟨n, hn⟩ : ∃ n, D.length = n := ⟨_, rfl⟩
 rw [hn] at h hcap hn1 ⊢
 have HN := hid hn
 have HZ := hid hz
 have H := hid h
 clear h hcap hn hz
 go_enter Try.func25, Try.ntmps25
 go_wp2
 go_loopw [1, 5] (fun kk i wr => HeadHd w sPeak D k kk i wr) (fun _ i _ => n - (intOf i).toNat)
 case atStart => exact headHd_zero
 case round =>
  obtain ⟨j, hj, rfl, rfl, hb⟩ := hrel
  rw [HN.out] at hj
  by_cases hlt : j < n
  ·have hjD : j < D.length := by rw [HN.out]; exact hlt
   obtain ⟨b, off, n2, c2, es, ev, -, -, hbB, hel, hp, hr⟩ := H.out.elem (j := j) (by rw [HML.out]; exact hjD)
   injection ev with e1 e2 e3
   subst e1 e2 e3
   have hmg := mk_get (e := 41) (s := sPeak) (k := k) hjD
   obtain ⟨y, hy⟩ : ∃ y, D.getD j (dft sPeak) = y := ⟨_, rfl⟩
   rw [hmg, hy] at hr
   have HY := hid hy
   clear hmg hy
   obtain ⟨q, hq⟩ : ∃ q, k + (cnts sPeak D j : Int) = q := ⟨_, rfl⟩
   rw [hq] at hr ⊢
   obtain ⟨v0, v1, v2, rfl⟩ := cells_Peak hr
   obtain ⟨g0, g1, g2, g3, g4, g5⟩ := parts_Peak hr
   obtain ⟨z0, hz0⟩ : ∃ z, cntv sI y.1 = z := ⟨_, rfl⟩
   obtain ⟨z1, hz1⟩ : ∃ z, cntv sI y.2.1 = z := ⟨_, rfl⟩
   obtain ⟨z2, hz2⟩ : ∃ z, cntv sI y.2.2.1 = z := ⟨_, rfl⟩
   have hzz : cnt sPeak y = z0 + (z1 + (z2 + (1 + (1 + (1))))) := by rw [← hz0, ← hz1, ← hz2]; rfl
   have hcn := headMk_cnt (e := 41) hjD
   rw [HY.out, hzz] at hcn
   have q0 : 0 ≤ q := by omega
   have q1 : q + 3 + (z0 : Int) + (z1 : Int) + (z2 : Int) ≤ 1099511627776 := by have : (cntv sPeakS D : Int) = (cntv (.row 41 sPeak) D : Nat) := rfl; omega
   have C0 := hid (fun (W' : World) (h9 : Below w.heap.size w W') => (show W'.cell? ⟨b, off + j * 6, none⟩ = some (v0) from by exact (hp.keep (w' := W') (fun p hp => h9.cell (p := p) (by rw [hp]; exact hbB))) 0 (by simp)))
   have C1 := hid (fun (W' : World) (h9 : Below w.heap.size w W') => (show W'.cell? ⟨b, off + j * 6 + 1, none⟩ = some (v1) from by exact (hp.keep (w' := W') (fun p hp => h9.cell (p := p) (by rw [hp]; exact hbB))) 1 (by simp)))
   have C2 := hid (fun (W' : World) (h9 : Below w.heap.size w W') => (show W'.cell? ⟨b, off + j * 6 + 2, none⟩ = some (v2) from by exact (hp.keep (w' := W') (fun p hp => h9.cell (p := p) (by rw [hp]; exact hbB))) 2 (by simp)))
   have C3 := hid (fun (W' : World) (h9 : Below w.heap.size w W') => (show W'.cell? ⟨b, off + j * 6 + 3, none⟩ = some (.int .i64 (q + (z0 : Int) + (z1 : Int) + (z2 : Int))) from by rw [← hz0, ← hz1, ← hz2]; exact (hp.keep (w' := W') (fun p hp => h9.cell (p := p) (by rw [hp]; exact hbB))) 3 (by simp)))
   have C4 := hid (fun (W' : World) (h9 : Below w.heap.size w W') => (show W'.cell? ⟨b, off + j * 6 + 4, none⟩ = some (.int .i64 (q + (z0 : Int) + (z1 : Int) + (z2 : Int) + 1)) from by rw [← hz0, ← hz1, ← hz2]; exact (hp.keep (w' := W') (fun p hp => h9.cell (p := p) (by rw [hp]; exact hbB))) 4 (by simp)))
   have C5 := hid (fun (W' : World) (h9 : Below w.heap.size w W') => (show W'.cell? ⟨b, off + j * 6 + 5, none⟩ = some (.int .i64 (q + (z0 : Int) + (z1 : Int) + (z2 : Int) + 1 + 1)) from by rw [← hz0, ← hz1, ← hz2]; exact (hp.keep (w' := W') (fun p hp => h9.cell (p := p) (by rw [hp]; exact hbB))) 5 (by simp)))
   have Z0 : Hid (sz sI y.1 ≤ 1048576) := hid (by have := sz_each HZ.out hjD; rw [HY.out] at this; simp only [sz] at this ⊢; omega)
   have G0 : Hid (Rd w w.heap.size sI [v0] (mkv sI (q) y.1)) := hid (by exact g0)
   have HZ0 := hid hz0
   have Z1 : Hid (sz sI y.2.1 ≤ 1048576) := hid (by have := sz_each HZ.out hjD; rw [HY.out] at this; simp only [sz] at this ⊢; omega)
   have G1 : Hid (Rd w w.heap.size sI [v1] (mkv sI (q + (z0 : Int)) y.2.1)) := hid (by rw [← hz0]; exact g1)
   have HZ1 := hid hz1
   have Z2 : Hid (sz sI y.2.2.1 ≤ 1048576) := hid (by have := sz_each HZ.out hjD; rw [HY.out] at this; simp only [sz] at this ⊢; omega)
   have G2 : Hid (Rd w w.heap.size sI [v2] (mkv sI (q + (z0 : Int) + (z1 : Int)) y.2.2.1)) := hid (by rw [← hz0, ← hz1]; exact g2)
   have HZ2 := hid hz2
   have HB := hid hb
   have HZZ := hid hzz
   have HQ := hid hq
   have hlb : b < wr.heap.size := Nat.lt_of_lt_of_le hbB hb.size
   clear hr hel hp hq hzz hcn hb g0 g1 g2 g3 g4 g5 hz0 hz1 hz2
   have c0 := C0.out wr HB.out
   go_wp2_with fail
   clear c0
   refine (heldK_ints _ y.1 (q) wr (by have := (G0.out.below HB.out).more HB.out.size; exact this) Z0.out (by omega) (by omega)).mono ?_
   rintro e w1 ⟨he, bb⟩
   rw [HZ0.out] at he
   obtain ⟨k0, hk0⟩ : ∃ l, q + (z0 : Int) = l := ⟨_, rfl⟩
   rw [hk0] at he
   have l0 : 0 ≤ k0 := by omega
   have u0 : k0 + 3 + (z1 : Int) + (z2 : Int) ≤ 1099511627776 := by omega
   subst he
   replace HB := hid (next_trans HB.out bb)
   clear bb
   have HK0 := hid hk0
   clear hk0
   have c1 := C1.out w1 HB.out
   go_wp2_with fail
   clear c1
   refine (heldK_ints _ y.2.1 (k0) w1 (by have := (G1.out.below HB.out).more HB.out.size; rwa [HK0.out] at this) Z1.out (by omega) (by omega)).mono ?_
   rintro e w2 ⟨he, bb⟩
   rw [HZ1.out] at he
   obtain ⟨k1, hk1⟩ : ∃ l, k0 + (z1 : Int) = l := ⟨_, rfl⟩
   rw [hk1] at he
   have l1 : 0 ≤ k1 := by omega
   have u1 : k1 + 3 + (z2 : Int) ≤ 1099511627776 := by omega
   subst he
   replace HB := hid (next_trans HB.out bb)
   clear bb
   have HK1 := hid hk1
   clear hk1
   have c2 := C2.out w2 HB.out
   go_wp2_with fail
   clear c2
   refine (heldK_ints _ y.2.2.1 (k1) w2 (by have := (G2.out.below HB.out).more HB.out.size; rwa [HK0.out, HK1.out] at this) Z2.out (by omega) (by omega)).mono ?_
   rintro e w3 ⟨he, bb⟩
   rw [HZ2.out] at he
   obtain ⟨k2, hk2⟩ : ∃ l, k1 + (z2 : Int) = l := ⟨_, rfl⟩
   rw [hk2] at he
   have l2 : 0 ≤ k2 := by omega
   have u2 : k2 + 3 ≤ 1099511627776 := by omega
   subst he
   replace HB := hid (next_trans HB.out bb)
   clear bb
   have HK2 := hid hk2
   clear hk2
   have c3 : w3.cell? ⟨b, off + j * 6 + 3, none⟩ = some (.int .i64 (k2)) := by have := C3.out w3 HB.out; rwa [HK0.out, HK1.out, HK2.out] at this
   have c4 : w3.cell? ⟨b, off + j * 6 + 4, none⟩ = some (.int .i64 (k2 + 1)) := by have := C4.out w3 HB.out; rwa [HK0.out, HK1.out, HK2.out] at this
   have c5 : w3.cell? ⟨b, off + j * 6 + 5, none⟩ = some (.int .i64 (k2 + 1 + 1)) := by have := C5.out w3 HB.out; rwa [HK0.out, HK1.out, HK2.out] at this
   have HS := hid (headHd_step (D := D) (k := k) (kc := k2 + 1 + 1 + 1) hjD HB.out (by rw [HQ.out, HY.out, HZZ.out]; have := HK0.out; have := HK1.out; have := HK2.out; omega))
   go_wp2
   go_roundw
   case rel => exact HS.out
   case measure => simp [intOf]; omega
  ·have F1 := hid (headHd_end (e := 41) (D := D) (k := k) (by rw [HN.out]; exact hlt) (by rw [HN.out]; exact hj) hb)
   clear hb
   generalize cnts sPeak D j = z at *
   go_wp2
   go_ret
   exact F1.out
end kindsQ
end
section
namespace openX
open Go.ChangeShapes Go.WideShapes Go.ChangeAt Go.RowKit base segs shape
def Wf : (s : Sh) → Dat s → Prop
 | .num, (x : Int) => -9223372036854775808 ≤ x ∧ x ≤ 9223372036854775807
 | .bit, _ => True
 | .row _ s, (d : List (Dat s)) => ∀ j, j < d.length → Wf s (d.getD j (dft s))
 | .cat a b, d => Wf a d.1 ∧ Wf b d.2
mutual
def fitsB (P : Program) : Nat → Sh → TypeId → Bool
 | 0, _, _ => false
 | n + 1, s, t => match P.underlying t with
  | some (.struct fs) => P.cellsOf t == nc s && fitsL P n fs.toList 0 s
  | some (.int .i64) => match s with | .num => true | _ => false
  | some .bool => match s with | .bit => true | _ => false
  | some (.slice e) => match s with | .row _ s' => P.cellsOf e == nc s' && fitsB P n s' e | _ => false
  | _ => false
def fitsL (P : Program) : Nat → List Field → Nat → Sh → Bool
 | 0, _, _, _ => false
 | _ + 1, [], _, _ => false
 | n + 1, [f], k, s => f.offset == k && (P.cellsOf f.type == nc s && fitsB P n s f.type)
 | n + 1, f :: g :: fs, k, s => match s with | .cat a b => f.offset == k && (P.cellsOf f.type == nc a && (fitsB P n a f.type && fitsL P n (g :: fs) (k + nc a) b)) | _ => false
end
section
variable {H : Type} {enc : TypeId × Value → H} {P : Program} {w : World} {held : Bool}
theorem addr_add {b off i : Nat} : (⟨b, off, none⟩ : Addr).add i = ⟨b, off + i, none⟩ := by unfold Addr.add; split <;> simp_all
theorem rd_trod : ∀ n : Nat, (∀ (s : Sh) (t : TypeId) (fuel : Nat) (cs : List Value) (x : DataW H × List MemPlace), fitsB P n s t = true → DataW.trod enc P w 0 (fun _ => true) held fuel t cs = some x → ∃ d, Rd w w.heap.size s cs d ∧ Wf s d) ∧
  (∀ (fs : List Field) (k : Nat) (s : Sh) (cs : List Value) (m : Nat), fitsL P n fs k s = true → (∀ (i : Nat) (f : Field), fs[i]? = some f → ∃ x, DataW.trod enc P w 0 (fun _ => true) held m f.type ((cs.drop f.offset).take (P.cellsOf f.type)) = some x) →
   ∃ d, Rd w w.heap.size s ((cs.drop k).take (nc s)) d ∧ Wf s d) := by
 intro n
 induction n with
 | zero => exact ⟨fun _ _ _ _ _ h => by simp [fitsB] at h, fun _ _ _ _ _ h => by simp [fitsL] at h⟩
 | succ n ih =>
  refine ⟨fun s t fuel cs x hf h => ?_, fun fs k s cs m hf h => ?_⟩
  ·unfold fitsB at hf
   split at hf
   ·rename_i fs hu
    simp only [Bool.and_eq_true, beq_iff_eq] at hf
    obtain ⟨xs, n', hfu, hx, hlen, hxl, hg⟩ := DataW.trod_struct hu h
    obtain ⟨d, hr, hw⟩ := ih.2 fs.toList 0 s cs n' hf.2 (fun i f hi => by
     have hi' : fs[i]? = some f := by simpa using hi
     have h1 := hg i f hi'
     have hlt : i < fs.size := (Array.getElem?_eq_some_iff.1 hi').1
     exact ⟨xs[i]'(by omega), by rw [h1]; exact List.getElem?_eq_getElem (by omega)⟩)
    rw [List.drop_zero, List.take_of_length_le (by omega)] at hr
    exact ⟨d, hr, hw⟩
   ·rename_i hu
    split at hf
    ·obtain ⟨z, e1, _, hw⟩ := DataW.trod_int hu h
     refine ⟨z, e1, ?_⟩
     show -9223372036854775808 ≤ z ∧ z ≤ 9223372036854775807
     simpa [Lit.wf, IntKind.min, IntKind.max, IntKind.signed, IntKind.bits] using hw
    ·cases hf
   ·rename_i hu
    split at hf
    ·obtain ⟨z, e1, _⟩ := DataW.trod_bool hu h
     exact ⟨z, e1, trivial⟩
    ·cases hf
   ·rename_i e hu
    split at hf
    ·rename_i e0 s'
     simp only [Bool.and_eq_true, beq_iff_eq] at hf
     rcases Go.Deep.open_slice hu h with ⟨hcs, _⟩ | ⟨a, len, cap, m, n', D, Pl, hcs, _, hl, hm, hmm, _, hi⟩
     ·exact ⟨[], ⟨none, 0, 0, hcs, ⟨by omega, by omega, fun _ => rfl⟩, rfl, fun h => absurd h (by omega)⟩, fun j hj => absurd hj (Nat.not_lt_zero _)⟩
     ·have hmc : m = cap := by simpa using hmm
      subst hmc
      have hd : ∀ j, j < len → ∃ (es : List Value) (dj : Dat s'), es.length = nc s' ∧ (∀ i, i < nc s' → w.cell? ((a.add (j * nc s')).add i) = es[i]?) ∧ Rd w w.heap.size s' es dj ∧ Wf s' dj := fun j hj => by
       obtain ⟨cs', hc, ht⟩ := hi j (by omega)
       obtain ⟨dj, hr, hw⟩ := ih.1 s' e n' cs' _ hf.2 ht
       rw [hf.1] at hc
       obtain ⟨_, hcl, hat⟩ := World.cells?_some hc
       exact ⟨cs', dj, hcl, hat, hr, hw⟩
      have hspot : 0 < len → a.spot = none := fun h0 => by
       obtain ⟨es, dj, h1, h2, _⟩ := hd 0 h0
       have hp := nc_pos s'
       have h3 := h2 0 (by omega)
       rw [List.getElem?_eq_getElem (by omega)] at h3
       have := World.cell?_spot h3
       simpa [Addr.add] using this
      obtain ⟨ds, hdl, hds⟩ : ∃ ds : List (Dat s'), ds.length = len ∧ ∀ j, j < len → ∃ es : List Value, es.length = nc s' ∧ (∀ i, i < nc s' → w.cell? ((a.add (j * nc s')).add i) = es[i]?) ∧ Rd w w.heap.size s' es (ds.getD j (dft s')) ∧ Wf s' (ds.getD j (dft s')) := by
       refine ⟨(List.range len).map fun j => if hj : j < len then Classical.choose (Classical.choose_spec (hd j hj)) else dft s', by simp, fun j hj => ?_⟩
       refine ⟨Classical.choose (hd j hj), ?_⟩
       have h1 := Classical.choose_spec (Classical.choose_spec (hd j hj))
       have e1 : ((List.range len).map fun j => if hj : j < len then Classical.choose (Classical.choose_spec (hd j hj)) else dft s').getD j (dft s') = Classical.choose (Classical.choose_spec (hd j hj)) := by simp [List.getD, hj]
       rw [e1]
       exact h1
      refine ⟨ds, ⟨some a, len, m, hcs, ⟨hl, by unfold maxLen at hm; omega, fun e => by cases e⟩, hdl, fun h0 => ?_⟩, fun j hj => by
       obtain ⟨es, _, _, _, hw⟩ := hds j (by rw [← hdl]; exact hj)
       exact hw⟩
      obtain ⟨b, off, spot⟩ := a
      have hs := hspot h0
      simp only at hs
      subst hs
      refine ⟨b, off, rfl, ?_, fun j hj => ?_⟩
      ·obtain ⟨es, h1, h2, _⟩ := hds 0 h0
       have hp := nc_pos s'
       have h3 := h2 0 (by omega)
       rw [List.getElem?_eq_getElem (by omega)] at h3
       have h4 := World.block_lt_of_cell? _ _ h3
       simpa [addr_add] using h4
      ·obtain ⟨es, h1, h2, h3, _⟩ := hds j hj
       refine ⟨es, h1, fun i hi2 => ?_, h3⟩
       have := h2 i (by omega)
       rw [addr_add, addr_add] at this
       exact this
    ·cases hf
   ·cases hf
  ·match fs, hf, h with
   | [], hf, _ => simp [fitsL] at hf
   | [f], hf, h =>
    unfold fitsL at hf
    simp only [Bool.and_eq_true, beq_iff_eq] at hf
    obtain ⟨h1, h2, h3⟩ := hf
    obtain ⟨x, hx⟩ := h 0 f rfl
    rw [h1, h2] at hx
    exact ih.1 s f.type m _ x h3 hx
   | f :: g :: fs, hf, h =>
    cases s with
    | cat a b =>
     unfold fitsL at hf
     simp only [Bool.and_eq_true, beq_iff_eq] at hf
     obtain ⟨h1, h2, h3, h4⟩ := hf
     obtain ⟨x, hx⟩ := h 0 f rfl
     rw [h1, h2] at hx
     obtain ⟨d1, r1, w1⟩ := ih.1 a f.type m _ x h3 hx
     obtain ⟨d2, r2, w2⟩ := ih.2 (g :: fs) (k + nc a) b cs m h4 (fun i f' hi => h (i + 1) f' hi)
     refine ⟨(d1, d2), ⟨_, _, ?_, r1, r2⟩, w1, w2⟩
     show List.take (nc a + nc b) (List.drop k cs) = _
     rw [List.take_add, List.drop_drop]
    | num => simp [fitsL] at hf
    | bit => simp [fitsL] at hf
    | row e s' => simp [fitsL] at hf
theorem open_val {s : Sh} {t : TypeId} {v : Value} {d : DataW H} {p : List MemPlace} {n : Nat} (hf : fitsB P n s t = true) (h : DataW.Trod enc P w 0 (fun _ => true) held t v d p) : ∃ x, Rd w w.heap.size s v.cells.toList x ∧ Wf s x := by
 obtain ⟨fuel, hfu⟩ := h
 exact (rd_trod n).1 s t fuel _ _ hf hfu
end
end openX
end
end Go.Proofs.Ytfmjhfodjhkmlaa
