/-
  MERGED: my texts StepImplB, StepImplC, Known, OpenX, one behind the other, as they are. By an AI agent.
-/
import Derived.Test.YtpcnjcgglonifaaMFnExactFiniteIn5
import Derived.Laws.BytesArg
import Derived.StringKeys
import Derived.Maps.Own
import Derived.Maps.OwnOps
import Derived.Maps.OwnSet
import Derived.Maps.Views
import Derived.Deep.LoopGhost
import Derived.ProofKit
import Derived.OpenShut
import Derived.Lib.SmallJoins
import Derived.Deep.Slices
import Derived.Deep.Fields
section
namespace Go.Proofs.Ytpcnjcgglonifaa.stepImpl
open Go.RowKit base ints sig term termOk endAt inside marks app sym sub segs segsHelp kinds termFacts termMath posMath plainMath gives Go.Proofs.Ytpcnjcgglonifaa.look fillMath matchMath matchSpec whole takeMath take extended varsOf shape kindsR ruleMath ruleSpec ruleImpl stepMath walkMath stepSpec heldT
set_option maxRecDepth 100000

theorem step_by {sg : List Int} {x : Rl} {t : List Int} {a : Nat} {L : Nat → List Int} (hx : ruleOkB sg x = true) (ht : termOkB sg t = true) (ha : a < t.length) (hL : Turns sg x.1 (subL sg t a) L) :
    stepO sg x t a = if (fillL L x.2).length ≤ 60 ∧ (putAt sg t (fillL L x.2) a).length ≤ 60 then some (putAt sg t (fillL L x.2) a) else none := by
  obtain ⟨h1, h2, h3, h4⟩ := rule_parts hx
  have hs := sub_ok ht ha
  obtain ⟨ss, hm, hg⟩ := turns_match h1 hs hL
  rw [match_yes h1 hs] at hm
  have g := gives_of h1 hs hm
  have e : fillL (givesL ss) x.2 = fillL L x.2 := fill_ext (fun y hy h0 => by
    have hy1 := h4 y hy h0
    show givesL ss (vr y) = L (vr y)
    rw [g.2 y hy1 h0]
    exact hg y hy1 h0)
  unfold stepO
  rw [hm]
  dsimp only
  rw [e]
theorem at_turns {sg p t : List Int} {k : Nat} {s : List (List Int)} (h1 : termOkB sg p = true) (h2 : termOkB sg t = true) (h : mst sg t p k s0 = some s) : Turns sg p (subL sg t k) (givesL s) := by
  have hx : ∀ x ∈ p, -24 ≤ x := fun x hx => (term_mem h1 hx).1
  obtain ⟨⟨rest, e⟩, hv⟩ := mst_sound h2 h (by rfl) hx
  have hg : ∀ x ∈ p, x < 0 → givesL s (vr x) = s.getD (vr x) [] := fun x hx h0 => by
    have this : scan sg 1 (s.getD (vr x) []) = some (s.getD (vr x) []).length := hv x hx h0
    unfold givesL
    rw [if_neg ?_]
    intro e0
    have e1 : s.getD (vr x) [] = [] := List.length_eq_zero_iff.1 e0
    rw [e1] at this
    exact absurd this (by simp [scan])
  have ef : fillL (givesL s) p = fillL (fun i => s.getD i []) p := fill_ext fun x hx h0 => hg x hx h0
  refine ⟨?_, fun x hx h0 => by rw [hg x hx h0]; exact hv x hx h0⟩
  rw [ef]
  have a := scan_append (r := rest) (scan_fill (L := fun i => s.getD i []) (term_parts h1).2.2 hv)
  rw [← e] at a
  unfold subL
  rw [len1_eq a, e, List.take_left' rfl]
theorem reduce_by {sg : List Int} {x : Rl} {t : List Int} {a : Nat} {s : List (List Int)} (hx : ruleOkB sg x = true) (ht : termOkB sg t = true) (ha : a < t.length) (h : mst sg t x.1 a s0 = some s) :
    (stepO sg x t a).getD [] = put.putR sg t (fillL (givesL s) x.2) (a : Int) ∧ (stepO sg x t a).isSome = put.putB sg t (fillL (givesL s) x.2) (a : Int) := by
  obtain ⟨h1, h2, h3, h4⟩ := rule_parts hx
  obtain ⟨s1, s2, s3⟩ := term_parts ht
  have hT := at_turns h1 ht h
  have hth : thereB sg t (a : Int) = true := there_yes ht (by omega) (by omega)
  have hterm : termOkB sg (fillL (givesL s) x.2) = decide ((fillL (givesL s) x.2).length ≤ 60) := by
    by_cases hl : (fillL (givesL s) x.2).length ≤ 60
    · rw [decide_eq_true hl]
      exact term_mk s1 hl (scan_fill (term_parts h2).2.2 (fun y hy h0 => hT.2 y (h4 y hy h0) h0))
    · rw [decide_eq_false hl]
      cases e : termOkB sg (fillL (givesL s) x.2) with
      | false => rfl
      | true => exact absurd (term_len e).2 hl
  rw [step_by hx ht ha hT]
  unfold put.putR put.putB
  rw [hth, hterm, Bool.true_and, Int.toNat_natCast]
  unfold put.fitB
  have e1 : put.putI sg t (fillL (givesL s) x.2) a = putAt sg t (fillL (givesL s) x.2) a := rfl
  rw [e1]
  by_cases hl : (fillL (givesL s) x.2).length ≤ 60
  · by_cases hh : (putAt sg t (fillL (givesL s) x.2) a).length ≤ 60
    · rw [if_pos ⟨hl, hh⟩, decide_eq_true hl, decide_eq_true hh]; exact ⟨rfl, rfl⟩
    · rw [if_neg (fun h => hh h.2), decide_eq_true hl, decide_eq_false hh]; exact ⟨rfl, rfl⟩
  · rw [if_neg (fun h => hl h.1), decide_eq_false hl]; exact ⟨rfl, rfl⟩
theorem red_at {sg : List Int} {x : Rl} {t : List Int} {a : Nat} (hx : ruleOkB sg x = true) (ht : termOkB sg t = true) (ha : a < t.length) : (mst sg t x.1 a s0).isSome = redB sg x t a := by
  obtain ⟨h1, _⟩ := rule_parts hx
  rw [mst_at h1 ht ha]
  unfold redB instB
  rw [match_yes h1 (sub_ok ht ha)]

set_option maxHeartbeats 1000000 in
theorem lookB (cs : Array Value) (s : List (List Int)) (w : World) (htab : TabR w w.heap.size cs s) :
    Calls Try.prog 108 #[.agg cs] w fun e w' => ∃ g, e = .returned (.func (.func 125) #[] #[.pointer (some ⟨g, 0, none⟩)]) ∧ Row w' g 134 #[.slice (some ⟨w.heap.size, 0, none⟩) 24 24] ∧ Segs w' w'.heap.size (some ⟨w.heap.size, 0, none⟩) 24 s ∧ Below w.heap.size w w' ∧ w.heap.size ≤ g := by
  obtain ⟨W, hW⟩ : ∃ W, W = w.alloc (.cells cs 140) := ⟨_, rfl⟩
  have b0 : Below w.heap.size w W := by rw [hW]; exact (Below.refl _ _).alloc (Nat.le_refl _) _
  have r0 : Row W w.heap.size 140 cs := by rw [hW]; exact Row.new w _ _
  have s1 : Segs W W.heap.size (some ⟨w.heap.size, 0, none⟩) 24 s := (htab.below b0).segs r0 b0.size
  have HW := Lib.hid hW
  clear hW htab r0
  go_enter Try.func108, Try.ntmps108
  go_wp2_with (first
    | (refine rowBox rfl 140 _ rfl cs rfl ?_))
  rw [← HW.out]
  refine (lookupIn (some ⟨w.heap.size, 0, none⟩) 24 24 W).mono ?_
  rintro e w3 ⟨rfl, hw3⟩
  have b3 : Below W.heap.size W w3 := by rw [hw3]; exact (Below.refl _ _).alloc (Nat.le_refl _) _
  have r3 : Row w3 W.heap.size 134 #[.slice (some ⟨w.heap.size, 0, none⟩) 24 24] := by rw [hw3]; exact Row.new _ _ _
  have F := Lib.hid (show ∃ g, Ending.returned (.func (.func 125) #[] #[.pointer (some ⟨W.heap.size, 0, none⟩)]) = .returned (.func (.func 125) #[] #[.pointer (some ⟨g, 0, none⟩)]) ∧ Row w3 g 134 #[.slice (some ⟨w.heap.size, 0, none⟩) 24 24] ∧ Segs w3 w3.heap.size (some ⟨w.heap.size, 0, none⟩) 24 s ∧ Below w.heap.size w w3 ∧ w.heap.size ≤ g from ⟨_, rfl, r3, s1.next b3, next_trans b0 b3, b0.size⟩)
  clear hw3 b3 r3 s1 b0
  go_wp2
  go_ret
  exact F.out

theorem run_loadRow {P : Program} {o : Oper} {a : Act} {w : World} (ty : TypeId) (x : Operand) (ho : o.op = .load ty x) (g : Nat) (hx : a.eval x = .pointer (some ⟨g, 0, none⟩)) (t : TypeId) (cs : Array Value) (fz : Nat × Nat) (d : TypeDesc) (hg : w.heap[g]? = some (.cells cs t fz)) (hu : P.underlying ty = some d) (hd : (match d with | .struct _ | .array _ _ => true | _ => false) = true) (hi : (P.info? ty).map (·.size) = some cs.size) :
    (execOp a.eval o).run P w = .ok (.value (.agg cs)) w := by
  unfold execOp
  simp [ho, hx, Instr.loadAt, Instr.sureAddr, Sem.run_bind, Result.andThen_ok, run_loadVar_row w g t ty cs fz d hg hu hd hi]

set_option maxHeartbeats 4000000 in
theorem reduced (a v u : Value) (d : Dat sSystem) (t : List Int) (x k : Nat) (w : World) (h : Rd w w.heap.size sSystem [a, v] d) (ht : Rd w w.heap.size sI [u] t) (hz : sz sSystem d ≤ 1048576) (hok : rightB d.1 d.2 t = true) (hx : x < t.length) (hk : k < d.2.length) (hred : redB d.1 (d.2.getD k ([], [])) t x = true) :
    Calls Try.prog 93 #[.agg #[a, v], u, .int .i64 (x : Int), .int .i64 (k : Int)] w (AnsStep w (stepO d.1 (d.2.getD k ([], [])) t x)) := by
  obtain ⟨oks, okt⟩ := right_parts hok
  have h0 := h
  have ht0 := ht
  have hk0 := hk
  obtain ⟨T, m, c, rfl, hT, hcT⟩ := rd_ints.1 ht
  have hm : m ≤ 60 := by have := (term_len okt).2; have := hT.1; omega
  obtain ⟨A, n, cs, V, q, cv, rfl, rfl, hs, hc, hcv, hq, hn, hq1, hrs, hsg, hE⟩ := rd_sys h hz
  rw [hq] at hk
  obtain ⟨b, off, l, rr, y, rfl, hb, ey, cl, cr, hry⟩ := rd_at hrs (Below.refl _ _) hq hk
  have hzy : sz sRule y ≤ 1048576 := by rw [← ey.out]; exact hE k hk
  have okr : ruleOkB d.1 y = true := by rw [← ey.out]; exact sys_rule oks (by rw [hq]; exact hk)
  obtain ⟨P, pn, pc, P', pn', pc', rfl, rfl, sP, kP, sP', kP', hpn, hpn'⟩ := rd_rule hry hzy
  rw [ey.out] at hred ⊢
  obtain ⟨W, hW, rA, bel⟩ := box1 w 68 #[.slice A n cs, .slice (some ⟨b, off, none⟩) q cv]
  have HW := Lib.hid hW
  have okR := (rule_parts okr).2.1
  have hpn60 : pn' ≤ 60 := by have := (term_len okR).2; have := sP'.1; omega
  have LM := Lib.hid (matchAt _ _ _ d t x k W (h0.next bel) (ht0.next bel) hz hok hx hk0)
  rw [ey.out] at LM
  obtain ⟨s, hs0⟩ := Option.isSome_iff_exists.1 (show (mst d.1 t y.1 x s0).isSome = true by rw [red_at okr okt hx]; exact hred)
  rw [hs0] at LM
  have HRB := Lib.hid (reduce_by okr okt hx hs0)
  have zA0 : w.heap.size < W.heap.size := rA.lt
  have SS := Lib.hid (show Seg w w.heap.size A n d.1 ∧ Seg w w.heap.size T m t ∧ Seg w w.heap.size P' pn' y.2 ∧ m ≤ c ∧ c ≤ 9223372036854775807 from ⟨hs, hT, sP', hcT.1, hcT.2.1⟩)
  have HVS := Lib.hid (fun z (hz : z ∈ y.2) => (term_mem okR hz).1)
  have HFL := Lib.hid (fun (hM : ∀ i, (givesL s i).length ≤ 60) => (show (fillL (givesL s) y.2).length ≤ 1048576 by
    have h1 := fill_bound (L := givesL s) (t := y.2) (m := pn') (k := pn') (fun i => Nat.le_trans (hM i) (by omega)) sP'.1 hpn60
    rw [List.take_of_length_le (by rw [sP'.1]; exact Nat.le_refl _)] at h1
    omega))
  have K2w : w.cell? ⟨b, off + k * 2 + 1, none⟩ = some (.slice P' pn' pc') := cr
  have i0 : (0 : Int) ≤ (k : Int) := by omega
  have i1 : (k : Int) < (q : Int) := by omega
  have x1 : -9223372036854775808 ≤ (x : Int) := by omega
  have x2 : (x : Int) ≤ 9223372036854775807 := by have := hT.1; omega
  have BEL := Lib.hid bel
  have RA := Lib.hid rA
  clear hW h h0 ht ht0 hk0 hs hc hcv hq hrs hsg hE hT hcT oks okt okr okR sP kP sP' kP' hry hzy hx hok hz ey rA bel cl cr hs0 hpn hpn' hq1 hred
  go_enter Try.func93, Try.ntmps93
  go_wp2_with fail
  rw [← HW.out]
  refine LM.out.mono ?_
  rintro e w1 ⟨rs, rfl, tab, hsz, bb⟩
  have tab : TabR w1 W.heap.size rs s := tab
  have hsz : ∀ j, (s.getD j []).length ≤ 60 := hsz
  have h24 := Lib.hid tab.1
  have one := Lib.hid tab.one
  have HGV := Lib.hid (fun i => (show (givesL s i).length ≤ 60 by
    unfold givesL
    split
    · simp [vt]
    · exact hsz i))
  have TAB := Lib.hid tab
  have HB1 := Lib.hid bb
  clear LM tab hsz bb
  go_upto_region 2 with (first
    | (refine rowAlloc rfl 140 rfl z24 zero_b ?_)
    | (refine rowStore rfl 140 _ _ rfl w1.heap.size rs z24 140 rfl rfl (heap_alloc_new w1 _) (by rw [h24.out]; exact size_b) (by rw [h24.out]; rfl) one.out ?_; rw [World.setRow_alloc_new]))
  obtain ⟨w2, hw2⟩ : ∃ w2, w2 = w1.alloc (.cells rs 140) := ⟨_, rfl⟩
  rw [← hw2]
  have b12 : Below w1.heap.size w1 w2 := by rw [hw2]; exact (Below.refl _ _).alloc (Nat.le_refl _) _
  have b2 := next_trans HB1.out b12
  have zA : w.heap.size < w2.heap.size := Nat.lt_of_lt_of_le zA0 b2.size
  have zB : b < w2.heap.size := by omega
  have zC : w1.heap.size < w2.heap.size := by rw [hw2]; simp
  have rA2 := RA.out.next b2
  have bel2 := BEL.out.trans (b2.mono BEL.out.size)
  have K0 : w2.cell? ⟨w.heap.size, 0, none⟩ = some (.slice A n cs) := rA2.cell 0
  have K1 : w2.cell? ⟨w.heap.size, 1, none⟩ = some (.slice (some ⟨b, off, none⟩) q cv) := rA2.cell 1
  have K2 : w2.cell? ⟨b, off + k * 2 + 1, none⟩ = some (.slice P' pn' pc') := (bel2.cell (p := ⟨b, off + k * 2 + 1, none⟩) hb).trans K2w
  have K3 : w2.heap[w1.heap.size]? = some (.cells rs 140 (0, 0)) := by rw [hw2]; exact heap_alloc_new w1 _
  have LK := Lib.hid (lookB rs s w2.drew ((TAB.out.below (b12.mono HB1.out.size)).more (Nat.le_trans HB1.out.size b12.size)))
  have LFILL := Lib.hid (fun g (w3 : World) rg sg (bx : Below w2.drew.heap.size w2.drew w3) => fill 125 #[.pointer (some ⟨g, 0, none⟩)] (enters_of Try.func125 (by kernel_rfl) rfl) P' pn' pc' y.2 (givesL s) w3 (lookSubst g (some ⟨w2.heap.size, 0, none⟩) 24 24 s w3 rg sg (by omega)) (SS.out.2.2.1.next (bel2.drew.trans (bx.mono bel2.size))) hpn60 HVS.out (fun i => Nat.le_trans (HGV.out i) (by omega)))
  have LPUT := Lib.hid (fun O on oc (w4 : World) (bx : Below w2.drew.heap.size w2.drew w4) {lo : Nat} (oO : Own w4 lo (.slice O on oc) (fillL (givesL s) y.2)) => put.implPutAt A T O n cs m c on oc d.1 t (x : Int) (fillL (givesL s) y.2) w4 (SS.out.1.next (bel2.drew.trans (bx.mono bel2.size))) (SS.out.2.1.next (bel2.drew.trans (bx.mono bel2.size))) (Own.seg oO) hn (by omega) (by rw [Own.len oO]; exact HFL.out HGV.out) x1 x2 (own_cap oO) SS.out.2.2.2.1 SS.out.2.2.2.2)
  have BEL2 := Lib.hid bel2
  clear hw2 b12 b2 rA2 bel2 TAB BEL RA zA0
  refine AnyT.start (S := (fun w' => w'.cell? ⟨w.heap.size, 0, none⟩ = some (.slice A n cs) ∧ w'.cell? ⟨w.heap.size, 1, none⟩ = some (.slice (some ⟨b, off, none⟩) q cv) ∧ w'.cell? ⟨b, off + k * 2 + 1, none⟩ = some (.slice P' pn' pc') ∧ w'.heap[w1.heap.size]? = some (.cells rs 140 (0, 0)))) (fun _ => false) (by kernel_rfl) ⟨K0, K1, K2, K3⟩ (fun hHeld => ?_)
  refine AnyT.takeA (i := 0) (v := ?_) rfl (by kernel_rfl) (by kernel_rfl) (by kernel_rfl) (fun _ _ _ h => h) (Or.inl ⟨by rfl, ?_⟩) ?_
  rotate_left 1
  · (intro w0 _; go_simp; try with_reducible rfl)
  try simp only [Act.put, List.setIfInBounds_toArray, List.set_cons_zero, List.set_cons_succ, List.getElem_toArray, List.getElem_cons_zero, List.getElem_cons_succ]
  refine AnyT.take (i := 1) (v := ?_) rfl (by kernel_rfl) (by kernel_rfl) (by kernel_rfl) (by kernel_rfl) (fun _ _ _ h => h) (Or.inl ⟨by rfl, ?_⟩) (by assumption) ?_
  rotate_left 1
  · (intro w0 hSw; (try dsimp only at hSw); go_simp; try with_reducible rfl)
  try simp only [Act.put, List.setIfInBounds_toArray, List.set_cons_zero, List.set_cons_succ, List.getElem_toArray, List.getElem_cons_zero, List.getElem_cons_succ]
  refine AnyT.takeA (i := 2) (v := ?_) rfl (by kernel_rfl) (by kernel_rfl) (by kernel_rfl) (fun _ _ _ h => h) (Or.inl ⟨by rfl, ?_⟩) ?_
  rotate_left 1
  · (intro w0 _; go_simp; try with_reducible rfl)
  try simp only [Act.put, List.setIfInBounds_toArray, List.set_cons_zero, List.set_cons_succ, List.getElem_toArray, List.getElem_cons_zero, List.getElem_cons_succ]
  refine AnyT.takeA (i := 3) (v := ?_) rfl (by kernel_rfl) (by kernel_rfl) (by kernel_rfl) (fun _ _ _ h => h) (Or.inl ⟨by rfl, ?_⟩) ?_
  rotate_left 1
  · (intro w0 _; go_simp; try with_reducible rfl)
  try simp only [Act.put, List.setIfInBounds_toArray, List.set_cons_zero, List.set_cons_succ, List.getElem_toArray, List.getElem_cons_zero, List.getElem_cons_succ]
  refine AnyT.take (i := 4) (v := .agg rs) rfl (by kernel_rfl) (by kernel_rfl) (by kernel_rfl) (by kernel_rfl) (fun _ _ _ h => h) (Or.inl ⟨by rfl, ?_⟩) (by assumption) ?_
  · (intro w0 hSw; exact run_loadRow 140 _ rfl w1.heap.size rfl 140 rs (0, 0) _ hSw.2.2.2 Try.underlying140 rfl (by rw [h24.out]; exact size_b))
  try simp only [Act.put, List.setIfInBounds_toArray, List.set_cons_zero, List.set_cons_succ, List.getElem_toArray, List.getElem_cons_zero, List.getElem_cons_succ]
  refine AnyT.takeA (i := 6) (v := ?_) rfl (by kernel_rfl) (by kernel_rfl) (by kernel_rfl) (fun _ _ _ h => h) (Or.inl ⟨by rfl, ?_⟩) ?_
  rotate_left 1
  · (intro w0 _; go_simp; try with_reducible rfl)
  try simp only [Act.put, List.setIfInBounds_toArray, List.set_cons_zero, List.set_cons_succ, List.getElem_toArray, List.getElem_cons_zero, List.getElem_cons_succ]
  refine AnyT.take (i := 7) (v := ?_) rfl (by kernel_rfl) (by kernel_rfl) (by kernel_rfl) (by kernel_rfl) (fun _ _ _ h => h) (Or.inl ⟨by rfl, ?_⟩) (by assumption) ?_
  rotate_left 1
  · (intro w0 hSw; (try dsimp only at hSw); go_simp; try with_reducible rfl)
  try simp only [Act.put, List.setIfInBounds_toArray, List.set_cons_zero, List.set_cons_succ, List.getElem_toArray, List.getElem_cons_zero, List.getElem_cons_succ]
  refine AnyT.takeA (i := 8) (v := ?_) rfl (by kernel_rfl) (by kernel_rfl) (by kernel_rfl) (fun _ _ _ h => h) (Or.inl ⟨by rfl, ?_⟩) ?_
  rotate_left 1
  · (intro w0 _; go_simp; try with_reducible rfl)
  try simp only [Act.put, List.setIfInBounds_toArray, List.set_cons_zero, List.set_cons_succ, List.getElem_toArray, List.getElem_cons_zero, List.getElem_cons_succ]
  refine AnyT.takeA (i := 9) (v := ?_) rfl (by kernel_rfl) (by kernel_rfl) (by kernel_rfl) (fun _ _ _ h => h) (Or.inl ⟨by rfl, ?_⟩) ?_
  rotate_left 1
  · (intro w0 _; go_simp; try with_reducible rfl)
  try simp only [Act.put, List.setIfInBounds_toArray, List.set_cons_zero, List.set_cons_succ, List.getElem_toArray, List.getElem_cons_zero, List.getElem_cons_succ]
  refine AnyT.takeA (i := 10) (v := ?_) rfl (by kernel_rfl) (by kernel_rfl) (by kernel_rfl) (fun _ _ _ h => h) (Or.inl ⟨by rfl, ?_⟩) ?_
  rotate_left 1
  · (intro w0 _; go_simp; try with_reducible rfl)
  try simp only [Act.put, List.setIfInBounds_toArray, List.set_cons_zero, List.set_cons_succ, List.getElem_toArray, List.getElem_cons_zero, List.getElem_cons_succ]
  refine AnyT.take (i := 11) (v := ?_) rfl (by kernel_rfl) (by kernel_rfl) (by kernel_rfl) (by kernel_rfl) (fun _ _ _ h => h) (Or.inl ⟨by rfl, ?_⟩) (by assumption) ?_
  rotate_left 1
  · (intro w0 hSw; (try dsimp only at hSw); go_simp; try with_reducible rfl)
  try simp only [Act.put, List.setIfInBounds_toArray, List.set_cons_zero, List.set_cons_succ, List.getElem_toArray, List.getElem_cons_zero, List.getElem_cons_succ]
  refine AnyT.call (i := 5) (by kernel_rfl) rfl (fun K hK => ?_)
  try simp only [Act.put, List.setIfInBounds_toArray, List.set_cons_zero, List.set_cons_succ, List.getElem_toArray, List.getElem_cons_zero, List.getElem_cons_succ]
  rw [if_pos (by rfl)]
  go_simp
  (go_at_call 108; refine LK.out.mono ?_; rintro e w3 ⟨g, rfl, rg, sg, bx, zg⟩; have B1 := bx; have K01 : w3.cell? ⟨w.heap.size, 0, none⟩ = some (.slice A n cs) := (B1.cell (p := ⟨w.heap.size, 0, none⟩) zA).trans K0; have K11 : w3.cell? ⟨w.heap.size, 1, none⟩ = some (.slice (some ⟨b, off, none⟩) q cv) := (B1.cell (p := ⟨w.heap.size, 1, none⟩) zA).trans K1; have K21 : w3.cell? ⟨b, off + k * 2 + 1, none⟩ = some (.slice P' pn' pc') := (B1.cell (p := ⟨b, off + k * 2 + 1, none⟩) zB).trans K2; have K31 : w3.heap[w1.heap.size]? = some (.cells rs 140 (0, 0)) := (B1.block _ zC).trans K3; have LFI := Lib.hid (LFILL.out g w3 rg sg B1); go_wp2_with fail)
  refine hK.out _ _ (fun _ _ => ?_) (fun hKeep => ?_)
  · exact ⟨K01, K11, K21, K31⟩
  replace hHeld := hKeep (by first | rfl | trivial) hHeld
  clear hK K hKeep
  try simp only [Act.put, List.setIfInBounds_toArray, List.set_cons_zero, List.set_cons_succ, List.getElem_toArray, List.getElem_cons_zero, List.getElem_cons_succ]
  refine AnyT.call (i := 12) (by kernel_rfl) rfl (fun K hK => ?_)
  try simp only [Act.put, List.setIfInBounds_toArray, List.set_cons_zero, List.set_cons_succ, List.getElem_toArray, List.getElem_cons_zero, List.getElem_cons_succ]
  rw [if_pos (by rfl)]
  go_simp
  (go_at_call 109; refine LFI.out.mono ?_; rintro e w4 ⟨O, on, oc, rfl, oO, by4⟩; have B2 := next_trans B1 by4; have K02 : w4.cell? ⟨w.heap.size, 0, none⟩ = some (.slice A n cs) := (B2.cell (p := ⟨w.heap.size, 0, none⟩) zA).trans K0; have K12 : w4.cell? ⟨w.heap.size, 1, none⟩ = some (.slice (some ⟨b, off, none⟩) q cv) := (B2.cell (p := ⟨w.heap.size, 1, none⟩) zA).trans K1; have K22 : w4.cell? ⟨b, off + k * 2 + 1, none⟩ = some (.slice P' pn' pc') := (B2.cell (p := ⟨b, off + k * 2 + 1, none⟩) zB).trans K2; have K32 : w4.heap[w1.heap.size]? = some (.cells rs 140 (0, 0)) := (B2.block _ zC).trans K3; have LPU := Lib.hid (LPUT.out O on oc w4 B2 oO); go_wp2_with fail)
  refine hK.out _ _ (fun _ _ => ?_) (fun hKeep => ?_)
  · exact ⟨K02, K12, K22, K32⟩
  replace hHeld := hKeep (by first | rfl | trivial) hHeld
  clear hK K hKeep
  try simp only [Act.put, List.setIfInBounds_toArray, List.set_cons_zero, List.set_cons_succ, List.getElem_toArray, List.getElem_cons_zero, List.getElem_cons_succ]
  refine AnyT.call (i := 13) (by kernel_rfl) rfl (fun K hK => ?_)
  try simp only [Act.put, List.setIfInBounds_toArray, List.set_cons_zero, List.set_cons_succ, List.getElem_toArray, List.getElem_cons_zero, List.getElem_cons_succ]
  rw [if_pos (by rfl)]
  go_simp
  (go_at_call 107; refine LPU.out.mono ?_; rintro e w5 ⟨X, xn, xc, rfl, oX, by5⟩; have B3 := next_trans B2 by5; have K03 : w5.cell? ⟨w.heap.size, 0, none⟩ = some (.slice A n cs) := (B3.cell (p := ⟨w.heap.size, 0, none⟩) zA).trans K0; have K13 : w5.cell? ⟨w.heap.size, 1, none⟩ = some (.slice (some ⟨b, off, none⟩) q cv) := (B3.cell (p := ⟨w.heap.size, 1, none⟩) zA).trans K1; have K23 : w5.cell? ⟨b, off + k * 2 + 1, none⟩ = some (.slice P' pn' pc') := (B3.cell (p := ⟨b, off + k * 2 + 1, none⟩) zB).trans K2; have K33 : w5.heap[w1.heap.size]? = some (.cells rs 140 (0, 0)) := (B3.block _ zC).trans K3; go_wp2_with fail)
  refine hK.out _ _ (fun _ _ => ?_) (fun hKeep => ?_)
  · exact ⟨K03, K13, K23, K33⟩
  replace hHeld := hKeep (by first | rfl | trivial) hHeld
  clear hK K hKeep
  try simp only [Act.put, List.setIfInBounds_toArray, List.set_cons_zero, List.set_cons_succ, List.getElem_toArray, List.getElem_cons_zero, List.getElem_cons_succ]
  refine AnyT.takeA (i := 14) (v := ?_) rfl (by kernel_rfl) (by kernel_rfl) (by kernel_rfl) (fun _ _ _ h => h) (Or.inl ⟨by rfl, ?_⟩) ?_
  rotate_left 1
  · (intro w0 _; go_simp; try with_reducible rfl)
  try simp only [Act.put, List.setIfInBounds_toArray, List.set_cons_zero, List.set_cons_succ, List.getElem_toArray, List.getElem_cons_zero, List.getElem_cons_succ]
  refine AnyT.takeA (i := 15) (v := ?_) rfl (by kernel_rfl) (by kernel_rfl) (by kernel_rfl) (fun _ _ _ h => h) (Or.inl ⟨by rfl, ?_⟩) ?_
  rotate_left 1
  · (intro w0 _; go_simp; try with_reducible rfl)
  try simp only [Act.put, List.setIfInBounds_toArray, List.set_cons_zero, List.set_cons_succ, List.getElem_toArray, List.getElem_cons_zero, List.getElem_cons_succ]
  refine AnyT.takeA (i := 16) (v := ?_) rfl (by kernel_rfl) (by kernel_rfl) (by kernel_rfl) (fun _ _ _ h => h) (Or.inl ⟨by rfl, ?_⟩) ?_
  rotate_left 1
  · (intro w0 _; go_simp; try with_reducible rfl)
  try simp only [Act.put, List.setIfInBounds_toArray, List.set_cons_zero, List.set_cons_succ, List.getElem_toArray, List.getElem_cons_zero, List.getElem_cons_succ]
  refine AnyT.takeA (i := 17) (v := ?_) rfl (by kernel_rfl) (by kernel_rfl) (by kernel_rfl) (fun _ _ _ h => h) (Or.inl ⟨by rfl, ?_⟩) ?_
  rotate_left 1
  · (intro w0 _; go_simp; try with_reducible rfl)
  try simp only [Act.put, List.setIfInBounds_toArray, List.set_cons_zero, List.set_cons_succ, List.getElem_toArray, List.getElem_cons_zero, List.getElem_cons_succ]
  refine AnyT.done (by kernel_rfl) ?_ _
  have F : AnsStep w (stepO d.1 y t x) (.returned (.tuple #[.slice X xn xc, .bool (put.putB d.1 t (fillL (givesL s) y.2) (x : Int))])) w5 := ⟨X, xn, xc, by rw [HRB.out.2], by rw [HRB.out.1]; exact Own.lower oX (Nat.le_trans BEL2.out.size B2.size), BEL2.out.drew.trans (B3.mono BEL2.out.size)⟩
  have HF := Lib.hid F
  clear F oX by5 B1 B2 B3 LK LFILL LPUT LFI LPU oO by4
  generalize put.putB d.1 t (fillL (givesL s) y.2) (x : Int) = bz at *
  go_wp2
  go_ret2
  exact HF.out
end Go.Proofs.Ytpcnjcgglonifaa.stepImpl
end

section
namespace Go.Proofs.Ytpcnjcgglonifaa.stepImpl
open Go.RowKit base ints sig term termOk endAt inside marks app sym sub segs segsHelp kinds termFacts matchMath whole takeMath take extended varsOf shape kindsR ruleMath ruleSpec ruleImpl stepMath walkMath stepSpec
set_option maxRecDepth 100000

end Go.Proofs.Ytpcnjcgglonifaa.stepImpl
end

section
namespace Go.Proofs.Ytpcnjcgglonifaa.known
open Go.RowKit Go.Maps base ints sig term termOk termFacts marks app sym segs segsHelp varsOf reachMath
set_option maxRecDepth 100000

def keyN (t : List Int) : List Int := t.map (· + 24)
def klit (t : List Int) : Lit := .string (strOfNums (keyN t)).data.toList
def Small (t : List Int) : Prop := t.length ≤ 60 ∧ ∀ x ∈ t, -24 ≤ x ∧ x < 8
theorem small_term {sg t : List Int} (h : termOkB sg t = true) : Small t := ⟨(term_len h).2, fun _ hx => term_mem h hx⟩
theorem str_data (xs : List Int) : (strOfNums xs).data.toList = xs.map fun n => UInt8.ofNat n.toNat := by simp [strOfNums]
theorem klit_inj {t u : List Int} (ht : Small t) (hu : Small u) (h : klit t = klit u) : t = u := by
  unfold klit at h
  injection h with h
  rw [str_data, str_data] at h
  unfold keyN at h
  rw [List.map_map, List.map_map] at h
  have hl : t.length = u.length := by have := congrArg List.length h; simpa using this
  refine List.ext_getElem hl fun i h1 h2 => ?_
  have h3 : (t.map ((fun n : Int => UInt8.ofNat n.toNat) ∘ (· + 24)))[i]'(by simpa using h1) = (u.map ((fun n : Int => UInt8.ofNat n.toNat) ∘ (· + 24)))[i]'(by simpa using h2) := by simp only [h]
  simp only [List.getElem_map, Function.comp_apply] at h3
  have b1 := ht.2 _ (List.getElem_mem h1)
  have b2 := hu.2 _ (List.getElem_mem h2)
  have h4 := congrArg UInt8.toNat h3
  rw [UInt8.toNat_ofNat', UInt8.toNat_ofNat'] at h4
  omega
theorem str_size (xs : List Int) : (strOfNums xs).size = xs.length := by
  show (strOfNums xs).data.size = _
  rw [← Array.length_toList, str_data, List.length_map]

theorem info_byte : (Try.prog.info? 5).map (fun i => (i.zero, i.size, i.bytes)) = some (some (.int .u8 0), 1, 1) := by kernel_rfl
theorem run_make_bytes (n : Nat) (hn : n ≤ 1048576) (W : World) : (Instr.makeSlice 132 (.int .i64 (n : Int)) (.int .i64 (n : Int))).run Try.prog W =
    .ok (.slice (some ⟨W.heap.size, 0, none⟩) n n) (W.alloc (.cells (madeCells #[.int .u8 0] n) 5)) := by
  obtain ⟨i0, hi, hz0, hz1, hz2⟩ := info_parts info_byte
  have hr := run_make (P := Try.prog) W 132 5 i0 _ Try.underlying132 hi hz0 .i64 .i64 n n (by omega) (by omega) (by rw [hz2]; omega) (by omega)
  simpa [hz1, Value.cells] using hr
theorem made_size (n : Nat) (v : Value) : (madeCells #[v] n).size = n := by simp [madeCells]

def AnsKey (w : World) (t : List Int) (e : Ending) (w' : World) : Prop := e = .returned (.string (strOfNums (keyN t))) ∧ Below w.heap.size w w'
set_option maxHeartbeats 1000000 in
theorem implKeyOf (T : Option Addr) (m c : Nat) (t : List Int) (w : World) (h : Seg w w.heap.size T m t) (ht : Small t) :
    Calls Try.prog 77 #[.slice T m c] w (AnsKey w t) := by
  have hm : m ≤ 60 := by rw [← h.1]; exact ht.1
  have hmk := run_make_bytes m (by omega) w
  have HT := Lib.hid h.1
  have H := Lib.hid h
  have HS := Lib.hid ht
  obtain ⟨W, hW, rW, bW⟩ : ∃ W, W = w.alloc (.cells (madeCells #[.int .u8 0] m) 5) ∧ Row W w.heap.size 5 (madeCells #[.int .u8 0] m) ∧ Below w.heap.size w W := ⟨_, rfl, Row.new _ _ _, (Below.refl _ _).alloc (Nat.le_refl _) _⟩
  rw [← hW] at hmk
  clear hW h ht
  go_enter Try.func77, Try.ntmps77
  go_wp2_with fail
  go_loopg [11] m (fun g i_ wr => ∃ (i : Nat) (cs : Array Value), i_ = .int .i64 i ∧ i + g = m ∧ Row wr w.heap.size 5 cs ∧ cs.size = m ∧ (∀ j, j < i → cs[j]? = some (.int .u8 ((keyN t).getD j 0))) ∧ Below w.heap.size w wr)
  case atStart => exact ⟨0, _, rfl, by omega, rW, made_size _ _, fun j hj => absurd hj (Nat.not_lt_zero _), bW⟩
  case round =>
    obtain ⟨i, cs, rfl, hg, rC, hcs, hin, bel⟩ := hrel
    by_cases hi : i < m
    · obtain ⟨b, off, x, rfl, hb, c0, hx⟩ := Seg.spot H.out hi
      have c0 := (bel.cell (p := ⟨b, off + i, none⟩) hb).trans c0
      have hxb : -24 ≤ x ∧ x < 8 := by
        rw [← hx.out]
        have hil : i < t.length := by rw [HT.out]; exact hi
        have := HS.out.2 t[i] (List.getElem_mem hil)
        simpa [List.getD, hil] using this
      have hk : (keyN t).getD i 0 = x + 24 := by
        rw [← hx.out]
        have hil : i < t.length := by rw [HT.out]; exact hi
        simp [keyN, List.getD, hil]
      obtain ⟨v0, hv0⟩ : ∃ v0, cs[i]? = some v0 := ⟨_, Array.getElem?_eq_getElem (by omega)⟩
      have c1 : wr.cell? ⟨w.heap.size, i, none⟩ = some v0 := by rw [rC.cell]; exact hv0
      have f1 := rC.free i
      have HG := Lib.hid hg
      have i0 : (0 : Int) ≤ (i : Int) := by omega
      have i1 : (i : Int) < (m : Int) := by omega
      have w8 : IntKind.u8.wrap (x + 24) = x + 24 := by unfold IntKind.wrap; simp [IntKind.bits, IntKind.signed]; omega
      have F := Lib.hid (show Row (wr.setCell ⟨w.heap.size, i, none⟩ (.int .u8 (x + 24))) w.heap.size 5 (cs.setIfInBounds i (.int .u8 (x + 24))) ∧ (cs.setIfInBounds i (.int .u8 (x + 24))).size = m ∧ (∀ j, j < i + 1 → (cs.setIfInBounds i (.int .u8 (x + 24)))[j]? = some (.int .u8 ((keyN t).getD j 0))) ∧ Below w.heap.size w (wr.setCell ⟨w.heap.size, i, none⟩ (.int .u8 (x + 24))) from ⟨Row.put rC i _, by simp [hcs], fun j hj => by
        by_cases e : j = i
        · subst e; rw [Array.getElem?_setIfInBounds, if_pos rfl, if_pos (by omega), hk]
        · rw [Array.getElem?_setIfInBounds, if_neg (fun e' => e e'.symm)]; exact hin j (by omega), bel.setCell (Nat.le_refl _) _⟩)
      clear hg rC hcs hin bel hv0 hk hx
      go_wp2
      go_roundg (gk - 1)
      case measure => have := HG.out; omega
      case rel => exact ⟨i + 1, _, by simp, by have := HG.out; omega, F.out.1, F.out.2.1, F.out.2.2.1, F.out.2.2.2⟩
    · obtain rfl : i = m := by omega
      have hc := run_convert_bytes_arg (P := Try.prog) wr 132 5 Try.underlying132 Try.underlying5 w.heap.size 0 i i (keyN t) (by rw [← HT.out]; simp [keyN]) (fun j hj => by rw [Nat.zero_add, rC.cell]; exact hin j hj) 9 Try.underlying9
      have F := Lib.hid (show AnsKey w t (.returned (.string (strOfNums (keyN t)))) wr from ⟨rfl, bel⟩)
      clear rC hcs hin bel
      go_wp2
      go_ret
      exact F.out

def Kn (w : World) (b n : Nat) (L : List (List Int)) : Prop := ∃ D : DataW Unit, w.ownsMap Try.prog 9 (plainElem Try.prog 3) b n D ∧ (∀ t ∈ L, Small t) ∧ (∀ t, Small t → Maps.has D (klit t) = decide (t ∈ L)) ∧ ∀ i, i < L.length → D.atKey (klit (L.getD i [])) (.lit (.int .i64 0)) = .lit (.int .i64 (i : Int))
section
variable {w w' : World} {b n : Nat} {L : List (List Int)} {t : List Int} {row : Option Nat}
theorem Kn.kept (h : Kn w b n L) (hg : w.grownBy w' row) (hne : some b ≠ row) : Kn w' b n L := by
  obtain ⟨D, h1, h2⟩ := h
  exact ⟨D, h1.kept hg hne, h2⟩
theorem Kn.below (h : Kn w b n L) (hb : Below w.heap.size w w') : Kn w' b n L := h.kept (row := none) ⟨hb.os, hb.tape, hb.output, hb.size, fun k hk _ => hb.block k hk⟩ (fun e => by cases e)
theorem kn_made (w : World) : Kn (w.alloc (.map #[] 0)) w.heap.size 0 [] := ⟨.map [], World.ownsMap_made _ _ _ _, (fun t h => by cases h), (fun t _ => by simp [Maps.has]), fun i h => absurd h (Nat.not_lt_zero _)⟩
theorem key_lit (t : List Int) : WideAt.IsKeyLit (klit t) := by unfold klit; simp [WideAt.IsKeyLit]
theorem key_of (t : List Int) (h : Small t) : keyOf Try.prog 9 (.string (strOfNums (keyN t))) = some (klit t) := Go.WideMaps.keyOf_string_mk Try.underlying9 (by rw [str_size]; unfold keyN maxLen; have := h.1; simp; omega)
theorem kn_put {D : DataW Unit} (hD : Maps.IsMap D) (h2 : ∀ t ∈ L, Small t) (h3 : ∀ t, Small t → Maps.has D (klit t) = decide (t ∈ L)) (h4 : ∀ i, i < L.length → D.atKey (klit (L.getD i [])) (.lit (.int .i64 0)) = .lit (.int .i64 (i : Int))) (ht : Small t) (hn : t ∉ L) :
    (∀ u ∈ L ++ [t], Small u) ∧ (∀ u, Small u → Maps.has (D.put (klit t) (.lit (.int .i64 (L.length : Int)))) (klit u) = decide (u ∈ L ++ [t])) ∧ ∀ i, i < (L ++ [t]).length → (D.put (klit t) (.lit (.int .i64 (L.length : Int)))).atKey (klit ((L ++ [t]).getD i [])) (.lit (.int .i64 0)) = .lit (.int .i64 (i : Int)) := by
  refine ⟨fun u hu => ?_, fun u hu => ?_, fun i hi => ?_⟩
  · rcases List.mem_append.1 hu with hu | hu
    · exact h2 u hu
    · rw [List.mem_singleton.1 hu]; exact ht
  · by_cases e : u = t
    · subst e; rw [Maps.has_put_same hD (key_lit _)]; simp
    · rw [Maps.has_put_other (fun q => e (klit_inj hu ht q)), h3 u hu]; simp [e]
  · rw [List.length_append, List.length_singleton] at hi
    by_cases e : i = L.length
    · subst e
      rw [show (L ++ [t]).getD L.length [] = t by simp [List.getD], Maps.atKey_put_same hD (key_lit _)]
    · have hl : i < L.length := by omega
      have e2 : (L ++ [t]).getD i [] = L.getD i [] := by simp [List.getD, List.getElem?_append_left hl]
      have hm : L.getD i [] ∈ L := by simp [List.getD, hl]
      rw [e2, Maps.atKey_put_other (fun q => hn (by rw [← klit_inj (h2 _ hm) ht q]; exact hm)), h4 i hl]
end
theorem zero_int (w : World) : (zeroValue 3).run Try.prog w = .ok (.int .i64 0) w := by kernel_rfl

set_option maxHeartbeats 1000000 in
theorem addNew (T : Option Addr) (m c b n : Nat) (t : List Int) (L : List (List Int)) (w : World) (hK : Kn w b n L) (h : Seg w w.heap.size T m t) (ht : Small t) (hnot : t ∉ L) (hn : n ≤ 1048576) (hl : L.length ≤ 1048576) :
    Calls Try.prog 90 #[.map (some b), .slice T m c, .int .i64 (L.length : Int)] w fun e w' => e = .returned (.bool true) ∧ Kn w' b (n + 1) (L ++ [t]) ∧ w.grownBy w' (some b) := by
  have LK := Lib.hid (implKeyOf T m c t w h ht)
  obtain ⟨D, hown, h2, h3, h4⟩ := hK
  have hhas : Maps.has D (klit t) = false := by rw [h3 t ht]; simp [hnot]
  have hP := Lib.hid (kn_put hown.isMap h2 h3 h4 ht hnot)
  have hkey := key_of t ht
  clear h h2 h3 h4
  go_enter Try.func90, Try.ntmps90
  go_wp2_with fail
  refine LK.out.mono ?_
  rintro e w1 ⟨rfl, bb⟩
  have hown1 := hown.kept (row := none) ⟨bb.os, bb.tape, bb.output, bb.size, fun k hk _ => bb.block k hk⟩ (fun e => by cases e)
  have BB := Lib.hid bb
  clear bb hown LK
  go_wp2_with (first
    | (at_lookup; refine wpList_lookup_own_ok_int _ rfl _ _ 73 rfl 9 3 .i64 (string_keyed Try.underlying9) Try.underlying73 Try.underlying3 (zero_int _) b n _ rfl hown1 _ _ rfl hkey ?_; intro c0 hat hwc; rw [hhas])
    | (at_mapUpdate; refine wpList_mapUpdate_own _ rfl _ _ _ 73 rfl 9 3 (string_keyed Try.underlying9) Try.underlying73 _ b n _ rfl hown1 (by unfold maxLen; omega) _ _ _ rfl rfl hkey _ [] (plainElem_int Try.underlying3 (WalkArith.wf_i64 (by omega))) ?_; intro w2 hown2 hgrow2))
  have F := Lib.hid (show Kn w2 b (n + 1) (L ++ [t]) ∧ w.grownBy w2 (some b) from ⟨⟨_, hown2, hP.out⟩, ⟨hgrow2.os.trans BB.out.os, hgrow2.tape.trans BB.out.tape, hgrow2.output.trans BB.out.output, Nat.le_trans BB.out.size hgrow2.size, fun k hk hne => (hgrow2.block k (Nat.lt_of_lt_of_le hk BB.out.size) hne).trans (BB.out.block k hk)⟩⟩)
  clear hown2 hgrow2 hown1
  go_wp2
  go_ret
  exact ⟨rfl, F.out⟩
set_option maxHeartbeats 1000000 in
theorem addOld (T : Option Addr) (m c b n : Nat) (t : List Int) (i : Int) (L : List (List Int)) (w : World) (hK : Kn w b n L) (h : Seg w w.heap.size T m t) (ht : Small t) (hin : t ∈ L) :
    Calls Try.prog 90 #[.map (some b), .slice T m c, .int .i64 i] w fun e w' => e = .returned (.bool false) ∧ Below w.heap.size w w' := by
  have LK := Lib.hid (implKeyOf T m c t w h ht)
  obtain ⟨D, hown, h2, h3, h4⟩ := hK
  have hhas : Maps.has D (klit t) = true := by rw [h3 t ht]; simp [hin]
  have hkey := key_of t ht
  clear h h2 h3 h4
  go_enter Try.func90, Try.ntmps90
  go_wp2_with fail
  refine LK.out.mono ?_
  rintro e w1 ⟨rfl, bb⟩
  have hown1 := hown.kept (row := none) ⟨bb.os, bb.tape, bb.output, bb.size, fun k hk _ => bb.block k hk⟩ (fun e => by cases e)
  have BB := Lib.hid bb
  clear bb hown LK
  go_wp2_with (first
    | (at_lookup; refine wpList_lookup_own_ok_int _ rfl _ _ 73 rfl 9 3 .i64 (string_keyed Try.underlying9) Try.underlying73 Try.underlying3 (zero_int _) b n _ rfl hown1 _ _ rfl hkey ?_; intro c0 hat hwc; rw [hhas]))
  go_ret
  exact ⟨rfl, BB.out⟩
end Go.Proofs.Ytpcnjcgglonifaa.known
end

section
namespace Go.Proofs.Ytpcnjcgglonifaa.openX
open Go.ChangeShapes Go.WideShapes Go.ChangeAt Go.RowKit base segs shape

def Wf : (s : Sh) → Dat s → Prop
  | .num, (x : Int) => -9223372036854775808 ≤ x ∧ x ≤ 9223372036854775807
  | .bit, _ => True
  | .row _ s, (d : List (Dat s)) => ∀ j, j < d.length → Wf s (d.getD j (dft s))
  | .cat a b, d => Wf a d.1 ∧ Wf b d.2
mutual
def fitsB (P : Program) : Nat → Sh → TypeId → Bool
  | 0, _, _ => false
  | n + 1, s, t => match P.underlying t with
    | some (.struct fs) => P.cellsOf t == nc s && fitsL P n fs.toList 0 s
    | some (.int .i64) => match s with | .num => true | _ => false
    | some .bool => match s with | .bit => true | _ => false
    | some (.slice e) => match s with | .row _ s' => P.cellsOf e == nc s' && fitsB P n s' e | _ => false
    | _ => false
def fitsL (P : Program) : Nat → List Field → Nat → Sh → Bool
  | 0, _, _, _ => false
  | _ + 1, [], _, _ => false
  | n + 1, [f], k, s => f.offset == k && (P.cellsOf f.type == nc s && fitsB P n s f.type)
  | n + 1, f :: g :: fs, k, s => match s with | .cat a b => f.offset == k && (P.cellsOf f.type == nc a && (fitsB P n a f.type && fitsL P n (g :: fs) (k + nc a) b)) | _ => false
end

section
variable {H : Type} {enc : TypeId × Value → H} {P : Program} {w : World} {held : Bool}
theorem addr_add {b off i : Nat} : (⟨b, off, none⟩ : Addr).add i = ⟨b, off + i, none⟩ := by unfold Addr.add; split <;> simp_all
theorem rd_trod : ∀ n : Nat, (∀ (s : Sh) (t : TypeId) (fuel : Nat) (cs : List Value) (x : DataW H × List MemPlace), fitsB P n s t = true → DataW.trod enc P w 0 (fun _ => true) held fuel t cs = some x → ∃ d, Rd w w.heap.size s cs d ∧ Wf s d) ∧
    (∀ (fs : List Field) (k : Nat) (s : Sh) (cs : List Value) (m : Nat), fitsL P n fs k s = true → (∀ (i : Nat) (f : Field), fs[i]? = some f → ∃ x, DataW.trod enc P w 0 (fun _ => true) held m f.type ((cs.drop f.offset).take (P.cellsOf f.type)) = some x) →
      ∃ d, Rd w w.heap.size s ((cs.drop k).take (nc s)) d ∧ Wf s d) := by
  intro n
  induction n with
  | zero => exact ⟨fun _ _ _ _ _ h => by simp [fitsB] at h, fun _ _ _ _ _ h => by simp [fitsL] at h⟩
  | succ n ih =>
    refine ⟨fun s t fuel cs x hf h => ?_, fun fs k s cs m hf h => ?_⟩
    · unfold fitsB at hf
      split at hf
      · rename_i fs hu
        simp only [Bool.and_eq_true, beq_iff_eq] at hf
        obtain ⟨xs, n', hfu, hx, hlen, hxl, hg⟩ := DataW.trod_struct hu h
        obtain ⟨d, hr, hw⟩ := ih.2 fs.toList 0 s cs n' hf.2 (fun i f hi => by
          have hi' : fs[i]? = some f := by simpa using hi
          have h1 := hg i f hi'
          have hlt : i < fs.size := (Array.getElem?_eq_some_iff.1 hi').1
          exact ⟨xs[i]'(by omega), by rw [h1]; exact List.getElem?_eq_getElem (by omega)⟩)
        rw [List.drop_zero, List.take_of_length_le (by omega)] at hr
        exact ⟨d, hr, hw⟩
      · rename_i hu
        split at hf
        · obtain ⟨z, e1, _, hw⟩ := DataW.trod_int hu h
          refine ⟨z, e1, ?_⟩
          show -9223372036854775808 ≤ z ∧ z ≤ 9223372036854775807
          simpa [Lit.wf, IntKind.min, IntKind.max, IntKind.signed, IntKind.bits] using hw
        · cases hf
      · rename_i hu
        split at hf
        · obtain ⟨z, e1, _⟩ := DataW.trod_bool hu h
          exact ⟨z, e1, trivial⟩
        · cases hf
      · rename_i e hu
        split at hf
        · rename_i e0 s'
          simp only [Bool.and_eq_true, beq_iff_eq] at hf
          rcases Go.Deep.open_slice hu h with ⟨hcs, _⟩ | ⟨a, len, cap, m, n', D, Pl, hcs, _, hl, hm, hmm, _, hi⟩
          · exact ⟨[], ⟨none, 0, 0, hcs, ⟨by omega, by omega, fun _ => rfl⟩, rfl, fun h => absurd h (by omega)⟩, fun j hj => absurd hj (Nat.not_lt_zero _)⟩
          · have hmc : m = cap := by simpa using hmm
            subst hmc
            have hd : ∀ j, j < len → ∃ (es : List Value) (dj : Dat s'), es.length = nc s' ∧ (∀ i, i < nc s' → w.cell? ((a.add (j * nc s')).add i) = es[i]?) ∧ Rd w w.heap.size s' es dj ∧ Wf s' dj := fun j hj => by
              obtain ⟨cs', hc, ht⟩ := hi j (by omega)
              obtain ⟨dj, hr, hw⟩ := ih.1 s' e n' cs' _ hf.2 ht
              rw [hf.1] at hc
              obtain ⟨_, hcl, hat⟩ := World.cells?_some hc
              exact ⟨cs', dj, hcl, hat, hr, hw⟩
            have hspot : 0 < len → a.spot = none := fun h0 => by
              obtain ⟨es, dj, h1, h2, _⟩ := hd 0 h0
              have hp := nc_pos s'
              have h3 := h2 0 (by omega)
              rw [List.getElem?_eq_getElem (by omega)] at h3
              have := World.cell?_spot h3
              simpa [Addr.add] using this
            obtain ⟨ds, hdl, hds⟩ : ∃ ds : List (Dat s'), ds.length = len ∧ ∀ j, j < len → ∃ es : List Value, es.length = nc s' ∧ (∀ i, i < nc s' → w.cell? ((a.add (j * nc s')).add i) = es[i]?) ∧ Rd w w.heap.size s' es (ds.getD j (dft s')) ∧ Wf s' (ds.getD j (dft s')) := by
              refine ⟨(List.range len).map fun j => if hj : j < len then Classical.choose (Classical.choose_spec (hd j hj)) else dft s', by simp, fun j hj => ?_⟩
              refine ⟨Classical.choose (hd j hj), ?_⟩
              have h1 := Classical.choose_spec (Classical.choose_spec (hd j hj))
              have e1 : ((List.range len).map fun j => if hj : j < len then Classical.choose (Classical.choose_spec (hd j hj)) else dft s').getD j (dft s') = Classical.choose (Classical.choose_spec (hd j hj)) := by simp [List.getD, hj]
              rw [e1]
              exact h1
            refine ⟨ds, ⟨some a, len, m, hcs, ⟨hl, by unfold maxLen at hm; omega, fun e => by cases e⟩, hdl, fun h0 => ?_⟩, fun j hj => by
              obtain ⟨es, _, _, _, hw⟩ := hds j (by rw [← hdl]; exact hj)
              exact hw⟩
            obtain ⟨b, off, spot⟩ := a
            have hs := hspot h0
            simp only at hs
            subst hs
            refine ⟨b, off, rfl, ?_, fun j hj => ?_⟩
            · obtain ⟨es, h1, h2, _⟩ := hds 0 h0
              have hp := nc_pos s'
              have h3 := h2 0 (by omega)
              rw [List.getElem?_eq_getElem (by omega)] at h3
              have h4 := World.block_lt_of_cell? _ _ h3
              simpa [addr_add] using h4
            · obtain ⟨es, h1, h2, h3, _⟩ := hds j hj
              refine ⟨es, h1, fun i hi2 => ?_, h3⟩
              have := h2 i (by omega)
              rw [addr_add, addr_add] at this
              exact this
        · cases hf
      · cases hf
    · match fs, hf, h with
      | [], hf, _ => simp [fitsL] at hf
      | [f], hf, h =>
        unfold fitsL at hf
        simp only [Bool.and_eq_true, beq_iff_eq] at hf
        obtain ⟨h1, h2, h3⟩ := hf
        obtain ⟨x, hx⟩ := h 0 f rfl
        rw [h1, h2] at hx
        exact ih.1 s f.type m _ x h3 hx
      | f :: g :: fs, hf, h =>
        cases s with
        | cat a b =>
          unfold fitsL at hf
          simp only [Bool.and_eq_true, beq_iff_eq] at hf
          obtain ⟨h1, h2, h3, h4⟩ := hf
          obtain ⟨x, hx⟩ := h 0 f rfl
          rw [h1, h2] at hx
          obtain ⟨d1, r1, w1⟩ := ih.1 a f.type m _ x h3 hx
          obtain ⟨d2, r2, w2⟩ := ih.2 (g :: fs) (k + nc a) b cs m h4 (fun i f' hi => h (i + 1) f' hi)
          refine ⟨(d1, d2), ⟨_, _, ?_, r1, r2⟩, w1, w2⟩
          show List.take (nc a + nc b) (List.drop k cs) = _
          rw [List.take_add, List.drop_drop]
        | num => simp [fitsL] at hf
        | bit => simp [fitsL] at hf
        | row e s' => simp [fitsL] at hf
theorem open_val {s : Sh} {t : TypeId} {v : Value} {d : DataW H} {p : List MemPlace} {n : Nat} (hf : fitsB P n s t = true) (h : DataW.Trod enc P w 0 (fun _ => true) held t v d p) : ∃ x, Rd w w.heap.size s v.cells.toList x ∧ Wf s x := by
  obtain ⟨fuel, hfu⟩ := h
  exact (rd_trod n).1 s t fuel _ _ hf hfu
end
end Go.Proofs.Ytpcnjcgglonifaa.openX
end
