/-
  MERGED: my texts StepImplB, StepImplC, StepsMath, Dice, DrawSig, DrawTerm, DrawAny, DrawX, one behind the other, as they are. By an AI agent.
-/
import Derived.Test.YtfkgiimcnlagmaaMFnExactOutmostIn5
import Derived.Deep.AppendLies
import Derived.Deep.RegionLaw
import Derived.Deep.RegionHeld3
section
/-
  CONTRACTS: impl's bindings.look, system.hasRedex, reduced, stepAt, RedexAt, StepAt. Conditions: the system and the term read as data ('Rd'), at most 1048576 numbers; place and rule are int64. Written by a program of mine (mkstepimplb.py). By an AI agent.
-/
namespace Go.Proofs.Ytfkgiimcnlagmaa.stepImpl
open Go.RowKit Go.Proofs.Ytfkgiimcnlagmaa.base Go.Proofs.Ytfkgiimcnlagmaa.ints Go.Proofs.Ytfkgiimcnlagmaa.sig Go.Proofs.Ytfkgiimcnlagmaa.term Go.Proofs.Ytfkgiimcnlagmaa.termOk Go.Proofs.Ytfkgiimcnlagmaa.endAt Go.Proofs.Ytfkgiimcnlagmaa.inside Go.Proofs.Ytfkgiimcnlagmaa.marks Go.Proofs.Ytfkgiimcnlagmaa.app Go.Proofs.Ytfkgiimcnlagmaa.sym Go.Proofs.Ytfkgiimcnlagmaa.sub Go.Proofs.Ytfkgiimcnlagmaa.segs Go.Proofs.Ytfkgiimcnlagmaa.segsHelp Go.Proofs.Ytfkgiimcnlagmaa.kinds Go.Proofs.Ytfkgiimcnlagmaa.termFacts Go.Proofs.Ytfkgiimcnlagmaa.termMath Go.Proofs.Ytfkgiimcnlagmaa.posMath Go.Proofs.Ytfkgiimcnlagmaa.plainMath Go.Proofs.Ytfkgiimcnlagmaa.gives Go.Proofs.Ytfkgiimcnlagmaa.look Go.Proofs.Ytfkgiimcnlagmaa.fillMath Go.Proofs.Ytfkgiimcnlagmaa.matchMath Go.Proofs.Ytfkgiimcnlagmaa.matchSpec Go.Proofs.Ytfkgiimcnlagmaa.whole Go.Proofs.Ytfkgiimcnlagmaa.takeMath Go.Proofs.Ytfkgiimcnlagmaa.take Go.Proofs.Ytfkgiimcnlagmaa.extended Go.Proofs.Ytfkgiimcnlagmaa.varsOf Go.Proofs.Ytfkgiimcnlagmaa.shape Go.Proofs.Ytfkgiimcnlagmaa.kindsR Go.Proofs.Ytfkgiimcnlagmaa.ruleMath Go.Proofs.Ytfkgiimcnlagmaa.ruleSpec Go.Proofs.Ytfkgiimcnlagmaa.ruleImpl Go.Proofs.Ytfkgiimcnlagmaa.stepMath Go.Proofs.Ytfkgiimcnlagmaa.walkMath Go.Proofs.Ytfkgiimcnlagmaa.stepSpec Go.Proofs.Ytfkgiimcnlagmaa.heldT
set_option maxRecDepth 100000

/-! ### plain facts -/
theorem step_by {sg : List Int} {x : Rl} {t : List Int} {a : Nat} {L : Nat → List Int} (hx : ruleOkB sg x = true) (ht : termOkB sg t = true) (ha : a < t.length) (hL : Turns sg x.1 (subL sg t a) L) :
    stepO sg x t a = if (fillL L x.2).length ≤ 60 ∧ (putAt sg t (fillL L x.2) a).length ≤ 60 then some (putAt sg t (fillL L x.2) a) else none := by
  obtain ⟨h1, h2, h3, h4⟩ := rule_parts hx
  have hs := sub_ok ht ha
  obtain ⟨ss, hm, hg⟩ := turns_match h1 hs hL
  rw [match_yes h1 hs] at hm
  have g := gives_of h1 hs hm
  have e : fillL (givesL ss) x.2 = fillL L x.2 := fill_ext (fun y hy h0 => by
    have hy1 := h4 y hy h0
    show givesL ss (vr y) = L (vr y)
    rw [g.2 y hy1 h0]
    exact hg y hy1 h0)
  unfold stepO
  rw [hm]
  dsimp only
  rw [e]
/-- matched at a place: what the variables stand for -/
theorem at_turns {sg p t : List Int} {k : Nat} {s : List (List Int)} (h1 : termOkB sg p = true) (h2 : termOkB sg t = true) (h : mst sg t p k s0 = some s) : Turns sg p (subL sg t k) (givesL s) := by
  have hx : ∀ x ∈ p, -24 ≤ x := fun x hx => (term_mem h1 hx).1
  obtain ⟨⟨rest, e⟩, hv⟩ := mst_sound h2 h (by rfl) hx
  have hg : ∀ x ∈ p, x < 0 → givesL s (vr x) = s.getD (vr x) [] := fun x hx h0 => by
    have this : scan sg 1 (s.getD (vr x) []) = some (s.getD (vr x) []).length := hv x hx h0
    unfold givesL
    rw [if_neg ?_]
    intro e0
    have e1 : s.getD (vr x) [] = [] := List.length_eq_zero_iff.1 e0
    rw [e1] at this
    exact absurd this (by simp [scan])
  have ef : fillL (givesL s) p = fillL (fun i => s.getD i []) p := fill_ext fun x hx h0 => hg x hx h0
  refine ⟨?_, fun x hx h0 => by rw [hg x hx h0]; exact hv x hx h0⟩
  rw [ef]
  have a := scan_append (r := rest) (scan_fill (L := fun i => s.getD i []) (term_parts h1).2.2 hv)
  rw [← e] at a
  unfold subL
  rw [len1_eq a, e, List.take_left' rfl]
theorem reduce_by {sg : List Int} {x : Rl} {t : List Int} {a : Nat} {s : List (List Int)} (hx : ruleOkB sg x = true) (ht : termOkB sg t = true) (ha : a < t.length) (h : mst sg t x.1 a s0 = some s) :
    (stepO sg x t a).getD [] = put.putR sg t (fillL (givesL s) x.2) (a : Int) ∧ (stepO sg x t a).isSome = put.putB sg t (fillL (givesL s) x.2) (a : Int) := by
  obtain ⟨h1, h2, h3, h4⟩ := rule_parts hx
  obtain ⟨s1, s2, s3⟩ := term_parts ht
  have hT := at_turns h1 ht h
  have hth : thereB sg t (a : Int) = true := there_yes ht (by omega) (by omega)
  have hterm : termOkB sg (fillL (givesL s) x.2) = decide ((fillL (givesL s) x.2).length ≤ 60) := by
    by_cases hl : (fillL (givesL s) x.2).length ≤ 60
    · rw [decide_eq_true hl]
      exact term_mk s1 hl (scan_fill (term_parts h2).2.2 (fun y hy h0 => hT.2 y (h4 y hy h0) h0))
    · rw [decide_eq_false hl]
      cases e : termOkB sg (fillL (givesL s) x.2) with
      | false => rfl
      | true => exact absurd (term_len e).2 hl
  rw [step_by hx ht ha hT]
  unfold put.putR put.putB
  rw [hth, hterm, Bool.true_and, Int.toNat_natCast]
  unfold put.fitB
  have e1 : put.putI sg t (fillL (givesL s) x.2) a = putAt sg t (fillL (givesL s) x.2) a := rfl
  rw [e1]
  by_cases hl : (fillL (givesL s) x.2).length ≤ 60
  · by_cases hh : (putAt sg t (fillL (givesL s) x.2) a).length ≤ 60
    · rw [if_pos ⟨hl, hh⟩, decide_eq_true hl, decide_eq_true hh]; exact ⟨rfl, rfl⟩
    · rw [if_neg (fun h => hh h.2), decide_eq_true hl, decide_eq_false hh]; exact ⟨rfl, rfl⟩
  · rw [if_neg (fun h => hl h.1), decide_eq_false hl]; exact ⟨rfl, rfl⟩
theorem red_at {sg : List Int} {x : Rl} {t : List Int} {a : Nat} (hx : ruleOkB sg x = true) (ht : termOkB sg t = true) (ha : a < t.length) : (mst sg t x.1 a s0).isSome = redB sg x t a := by
  obtain ⟨h1, _⟩ := rule_parts hx
  rw [mst_at h1 ht ha]
  unfold redB instB
  rw [match_yes h1 (sub_ok ht ha)]

set_option maxHeartbeats 1000000 in
theorem lookB (cs : Array Value) (s : List (List Int)) (w : World) (htab : TabR w w.heap.size cs s) :
    Calls Try.prog 128 #[.agg cs] w fun e w' => ∃ g, e = .returned (.func (.func 149) #[] #[.pointer (some ⟨g, 0, none⟩)]) ∧ Row w' g 111 #[.slice (some ⟨w.heap.size, 0, none⟩) 24 24] ∧ Segs w' w'.heap.size (some ⟨w.heap.size, 0, none⟩) 24 s ∧ Below w.heap.size w w' ∧ w.heap.size ≤ g := by
  obtain ⟨W, hW⟩ : ∃ W, W = w.alloc (.cells cs 128) := ⟨_, rfl⟩
  have b0 : Below w.heap.size w W := by rw [hW]; exact (Below.refl _ _).alloc (Nat.le_refl _) _
  have r0 : Row W w.heap.size 128 cs := by rw [hW]; exact Row.new w _ _
  have s1 : Segs W W.heap.size (some ⟨w.heap.size, 0, none⟩) 24 s := (htab.below b0).segs r0 b0.size
  have HW := Lib.hid hW
  clear hW htab r0
  go_enter Try.func128, Try.ntmps128
  go_wp2_with (first
    | (refine rowBox rfl 128 _ rfl cs rfl ?_))
  rw [← HW.out]
  refine (lookupIn (some ⟨w.heap.size, 0, none⟩) 24 24 W).mono ?_
  rintro e w3 ⟨rfl, hw3⟩
  have b3 : Below W.heap.size W w3 := by rw [hw3]; exact (Below.refl _ _).alloc (Nat.le_refl _) _
  have r3 : Row w3 W.heap.size 111 #[.slice (some ⟨w.heap.size, 0, none⟩) 24 24] := by rw [hw3]; exact Row.new _ _ _
  have F := Lib.hid (show ∃ g, Ending.returned (.func (.func 149) #[] #[.pointer (some ⟨W.heap.size, 0, none⟩)]) = .returned (.func (.func 149) #[] #[.pointer (some ⟨g, 0, none⟩)]) ∧ Row w3 g 111 #[.slice (some ⟨w.heap.size, 0, none⟩) 24 24] ∧ Segs w3 w3.heap.size (some ⟨w.heap.size, 0, none⟩) 24 s ∧ Below w.heap.size w w3 ∧ w.heap.size ≤ g from ⟨_, rfl, r3, s1.next b3, next_trans b0 b3, b0.size⟩)
  clear hw3 b3 r3 s1 b0
  go_wp2
  go_ret
  exact F.out

/-- a whole row is loaded -/
theorem run_loadRow {P : Program} {o : Oper} {a : Act} {w : World} (ty : TypeId) (x : Operand) (ho : o.op = .load ty x) (g : Nat) (hx : a.eval x = .pointer (some ⟨g, 0, none⟩)) (t : TypeId) (cs : Array Value) (fz : Nat × Nat) (d : TypeDesc) (hg : w.heap[g]? = some (.cells cs t fz)) (hu : P.underlying ty = some d) (hd : (match d with | .struct _ | .array _ _ => true | _ => false) = true) (hi : (P.info? ty).map (·.size) = some cs.size) :
    (execOp a.eval o).run P w = .ok (.value (.agg cs)) w := by
  unfold execOp
  simp [ho, hx, Instr.loadAt, Instr.sureAddr, Sem.run_bind, Result.andThen_ok, run_loadVar_row w g t ty cs fz d hg hu hd hi]

set_option maxHeartbeats 4000000 in
theorem reduced (a v u : Value) (d : Dat sSystem) (t : List Int) (x k : Nat) (w : World) (h : Rd w w.heap.size sSystem [a, v] d) (ht : Rd w w.heap.size sI [u] t) (hz : sz sSystem d ≤ 1048576) (hok : rightB d.1 d.2 t = true) (hx : x < t.length) (hk : k < d.2.length) (hred : redB d.1 (d.2.getD k ([], [])) t x = true) :
    Calls Try.prog 105 #[.agg #[a, v], u, .int .i64 (x : Int), .int .i64 (k : Int)] w (AnsStep w (stepO d.1 (d.2.getD k ([], [])) t x)) := by
  obtain ⟨oks, okt⟩ := right_parts hok
  have h0 := h
  have ht0 := ht
  have hk0 := hk
  obtain ⟨T, m, c, rfl, hT, hcT⟩ := rd_ints.1 ht
  have hm : m ≤ 60 := by have := (term_len okt).2; have := hT.1; omega
  obtain ⟨A, n, cs, V, q, cv, rfl, rfl, hs, hc, hcv, hq, hn, hq1, hrs, hsg, hE⟩ := rd_sys h hz
  rw [hq] at hk
  obtain ⟨b, off, l, rr, y, rfl, hb, ey, cl, cr, hry⟩ := rd_at hrs (Below.refl _ _) hq hk
  have hzy : sz sRule y ≤ 1048576 := by rw [← ey.out]; exact hE k hk
  have okr : ruleOkB d.1 y = true := by rw [← ey.out]; exact sys_rule oks (by rw [hq]; exact hk)
  obtain ⟨P, pn, pc, P', pn', pc', rfl, rfl, sP, kP, sP', kP', hpn, hpn'⟩ := rd_rule hry hzy
  rw [ey.out] at hred ⊢
  obtain ⟨W, hW, rA, bel⟩ := box1 w 66 #[.slice A n cs, .slice (some ⟨b, off, none⟩) q cv]
  have HW := Lib.hid hW
  have okR := (rule_parts okr).2.1
  have hpn60 : pn' ≤ 60 := by have := (term_len okR).2; have := sP'.1; omega
  have LM := Lib.hid (matchAt _ _ _ d t x k W (h0.next bel) (ht0.next bel) hz hok hx hk0)
  rw [ey.out] at LM
  obtain ⟨s, hs0⟩ := Option.isSome_iff_exists.1 (show (mst d.1 t y.1 x s0).isSome = true by rw [red_at okr okt hx]; exact hred)
  rw [hs0] at LM
  have HRB := Lib.hid (reduce_by okr okt hx hs0)
  have zA0 : w.heap.size < W.heap.size := rA.lt
  have SS := Lib.hid (show Seg w w.heap.size A n d.1 ∧ Seg w w.heap.size T m t ∧ Seg w w.heap.size P' pn' y.2 ∧ m ≤ c ∧ c ≤ 9223372036854775807 from ⟨hs, hT, sP', hcT.1, hcT.2.1⟩)
  have HVS := Lib.hid (fun z (hz : z ∈ y.2) => (term_mem okR hz).1)
  have HFL := Lib.hid (fun (hM : ∀ i, (givesL s i).length ≤ 60) => (show (fillL (givesL s) y.2).length ≤ 1048576 by
    have h1 := fill_bound (L := givesL s) (t := y.2) (m := pn') (k := pn') (fun i => Nat.le_trans (hM i) (by omega)) sP'.1 hpn60
    rw [List.take_of_length_le (by rw [sP'.1]; exact Nat.le_refl _)] at h1
    omega))
  have K2w : w.cell? ⟨b, off + k * 2 + 1, none⟩ = some (.slice P' pn' pc') := cr
  have i0 : (0 : Int) ≤ (k : Int) := by omega
  have i1 : (k : Int) < (q : Int) := by omega
  have x1 : -9223372036854775808 ≤ (x : Int) := by omega
  have x2 : (x : Int) ≤ 9223372036854775807 := by have := hT.1; omega
  have BEL := Lib.hid bel
  have RA := Lib.hid rA
  clear hW h h0 ht ht0 hk0 hs hc hcv hq hrs hsg hE hT hcT oks okt okr okR sP kP sP' kP' hry hzy hx hok hz ey rA bel cl cr hs0 hpn hpn' hq1 hred
  go_enter Try.func105, Try.ntmps105
  go_wp2_with fail
  rw [← HW.out]
  refine LM.out.mono ?_
  rintro e w1 ⟨rs, rfl, tab, hsz, bb⟩
  have tab : TabR w1 W.heap.size rs s := tab
  have hsz : ∀ j, (s.getD j []).length ≤ 60 := hsz
  have h24 := Lib.hid tab.1
  have one := Lib.hid tab.one
  have HGV := Lib.hid (fun i => (show (givesL s i).length ≤ 60 by
    unfold givesL
    split
    · simp [vt]
    · exact hsz i))
  have TAB := Lib.hid tab
  have HB1 := Lib.hid bb
  clear LM tab hsz bb
  go_upto_region 2 with (first
    | (refine rowAlloc rfl 128 rfl z24 zero_b ?_)
    | (refine rowStore rfl 128 _ _ rfl w1.heap.size rs z24 128 rfl rfl (heap_alloc_new w1 _) (by rw [h24.out]; exact size_b) (by rw [h24.out]; rfl) one.out ?_; rw [World.setRow_alloc_new]))
  obtain ⟨w2, hw2⟩ : ∃ w2, w2 = w1.alloc (.cells rs 128) := ⟨_, rfl⟩
  rw [← hw2]
  have b12 : Below w1.heap.size w1 w2 := by rw [hw2]; exact (Below.refl _ _).alloc (Nat.le_refl _) _
  have b2 := next_trans HB1.out b12
  have zA : w.heap.size < w2.heap.size := Nat.lt_of_lt_of_le zA0 b2.size
  have zB : b < w2.heap.size := by omega
  have zC : w1.heap.size < w2.heap.size := by rw [hw2]; simp
  have rA2 := RA.out.next b2
  have bel2 := BEL.out.trans (b2.mono BEL.out.size)
  have K0 : w2.cell? ⟨w.heap.size, 0, none⟩ = some (.slice A n cs) := rA2.cell 0
  have K1 : w2.cell? ⟨w.heap.size, 1, none⟩ = some (.slice (some ⟨b, off, none⟩) q cv) := rA2.cell 1
  have K2 : w2.cell? ⟨b, off + k * 2 + 1, none⟩ = some (.slice P' pn' pc') := (bel2.cell (p := ⟨b, off + k * 2 + 1, none⟩) hb).trans K2w
  have K3 : w2.heap[w1.heap.size]? = some (.cells rs 128 (0, 0)) := by rw [hw2]; exact heap_alloc_new w1 _
  have LK := Lib.hid (lookB rs s w2.drew ((TAB.out.below (b12.mono HB1.out.size)).more (Nat.le_trans HB1.out.size b12.size)))
  have LFILL := Lib.hid (fun g (w3 : World) rg sg (bx : Below w2.drew.heap.size w2.drew w3) => fill 149 #[.pointer (some ⟨g, 0, none⟩)] (enters_of Try.func149 (by kernel_rfl) rfl) P' pn' pc' y.2 (givesL s) w3 (lookSubst g (some ⟨w2.heap.size, 0, none⟩) 24 24 s w3 rg sg (by omega)) (SS.out.2.2.1.next (bel2.drew.trans (bx.mono bel2.size))) hpn60 HVS.out (fun i => Nat.le_trans (HGV.out i) (by omega)))
  have LPUT := Lib.hid (fun O on oc (w4 : World) (bx : Below w2.drew.heap.size w2.drew w4) {lo : Nat} (oO : Own w4 lo (.slice O on oc) (fillL (givesL s) y.2)) => put.implPutAt A T O n cs m c on oc d.1 t (x : Int) (fillL (givesL s) y.2) w4 (SS.out.1.next (bel2.drew.trans (bx.mono bel2.size))) (SS.out.2.1.next (bel2.drew.trans (bx.mono bel2.size))) (Own.seg oO) hn (by omega) (by rw [Own.len oO]; exact HFL.out HGV.out) x1 x2 (own_cap oO) SS.out.2.2.2.1 SS.out.2.2.2.2)
  have BEL2 := Lib.hid bel2
  clear hw2 b12 b2 rA2 bel2 TAB BEL RA zA0
  refine AnyT.start (S := (fun w' => w'.cell? ⟨w.heap.size, 0, none⟩ = some (.slice A n cs) ∧ w'.cell? ⟨w.heap.size, 1, none⟩ = some (.slice (some ⟨b, off, none⟩) q cv) ∧ w'.cell? ⟨b, off + k * 2 + 1, none⟩ = some (.slice P' pn' pc') ∧ w'.heap[w1.heap.size]? = some (.cells rs 128 (0, 0)))) (fun _ => false) (by kernel_rfl) ⟨K0, K1, K2, K3⟩ (fun hHeld => ?_)
  refine AnyT.takeA (i := 0) (v := ?_) rfl (by kernel_rfl) (by kernel_rfl) (by kernel_rfl) (fun _ _ _ h => h) (Or.inl ⟨by rfl, ?_⟩) ?_
  rotate_left 1
  · (intro w0 _; go_simp; try with_reducible rfl)
  try simp only [Act.put, List.setIfInBounds_toArray, List.set_cons_zero, List.set_cons_succ, List.getElem_toArray, List.getElem_cons_zero, List.getElem_cons_succ]
  refine AnyT.take (i := 1) (v := ?_) rfl (by kernel_rfl) (by kernel_rfl) (by kernel_rfl) (by kernel_rfl) (fun _ _ _ h => h) (Or.inl ⟨by rfl, ?_⟩) (by assumption) ?_
  rotate_left 1
  · (intro w0 hSw; (try dsimp only at hSw); go_simp; try with_reducible rfl)
  try simp only [Act.put, List.setIfInBounds_toArray, List.set_cons_zero, List.set_cons_succ, List.getElem_toArray, List.getElem_cons_zero, List.getElem_cons_succ]
  refine AnyT.takeA (i := 2) (v := ?_) rfl (by kernel_rfl) (by kernel_rfl) (by kernel_rfl) (fun _ _ _ h => h) (Or.inl ⟨by rfl, ?_⟩) ?_
  rotate_left 1
  · (intro w0 _; go_simp; try with_reducible rfl)
  try simp only [Act.put, List.setIfInBounds_toArray, List.set_cons_zero, List.set_cons_succ, List.getElem_toArray, List.getElem_cons_zero, List.getElem_cons_succ]
  refine AnyT.takeA (i := 3) (v := ?_) rfl (by kernel_rfl) (by kernel_rfl) (by kernel_rfl) (fun _ _ _ h => h) (Or.inl ⟨by rfl, ?_⟩) ?_
  rotate_left 1
  · (intro w0 _; go_simp; try with_reducible rfl)
  try simp only [Act.put, List.setIfInBounds_toArray, List.set_cons_zero, List.set_cons_succ, List.getElem_toArray, List.getElem_cons_zero, List.getElem_cons_succ]
  refine AnyT.take (i := 4) (v := .agg rs) rfl (by kernel_rfl) (by kernel_rfl) (by kernel_rfl) (by kernel_rfl) (fun _ _ _ h => h) (Or.inl ⟨by rfl, ?_⟩) (by assumption) ?_
  · (intro w0 hSw; exact run_loadRow 128 _ rfl w1.heap.size rfl 128 rs (0, 0) _ hSw.2.2.2 Try.underlying128 rfl (by rw [h24.out]; exact size_b))
  try simp only [Act.put, List.setIfInBounds_toArray, List.set_cons_zero, List.set_cons_succ, List.getElem_toArray, List.getElem_cons_zero, List.getElem_cons_succ]
  refine AnyT.takeA (i := 6) (v := ?_) rfl (by kernel_rfl) (by kernel_rfl) (by kernel_rfl) (fun _ _ _ h => h) (Or.inl ⟨by rfl, ?_⟩) ?_
  rotate_left 1
  · (intro w0 _; go_simp; try with_reducible rfl)
  try simp only [Act.put, List.setIfInBounds_toArray, List.set_cons_zero, List.set_cons_succ, List.getElem_toArray, List.getElem_cons_zero, List.getElem_cons_succ]
  refine AnyT.take (i := 7) (v := ?_) rfl (by kernel_rfl) (by kernel_rfl) (by kernel_rfl) (by kernel_rfl) (fun _ _ _ h => h) (Or.inl ⟨by rfl, ?_⟩) (by assumption) ?_
  rotate_left 1
  · (intro w0 hSw; (try dsimp only at hSw); go_simp; try with_reducible rfl)
  try simp only [Act.put, List.setIfInBounds_toArray, List.set_cons_zero, List.set_cons_succ, List.getElem_toArray, List.getElem_cons_zero, List.getElem_cons_succ]
  refine AnyT.takeA (i := 8) (v := ?_) rfl (by kernel_rfl) (by kernel_rfl) (by kernel_rfl) (fun _ _ _ h => h) (Or.inl ⟨by rfl, ?_⟩) ?_
  rotate_left 1
  · (intro w0 _; go_simp; try with_reducible rfl)
  try simp only [Act.put, List.setIfInBounds_toArray, List.set_cons_zero, List.set_cons_succ, List.getElem_toArray, List.getElem_cons_zero, List.getElem_cons_succ]
  refine AnyT.takeA (i := 9) (v := ?_) rfl (by kernel_rfl) (by kernel_rfl) (by kernel_rfl) (fun _ _ _ h => h) (Or.inl ⟨by rfl, ?_⟩) ?_
  rotate_left 1
  · (intro w0 _; go_simp; try with_reducible rfl)
  try simp only [Act.put, List.setIfInBounds_toArray, List.set_cons_zero, List.set_cons_succ, List.getElem_toArray, List.getElem_cons_zero, List.getElem_cons_succ]
  refine AnyT.takeA (i := 10) (v := ?_) rfl (by kernel_rfl) (by kernel_rfl) (by kernel_rfl) (fun _ _ _ h => h) (Or.inl ⟨by rfl, ?_⟩) ?_
  rotate_left 1
  · (intro w0 _; go_simp; try with_reducible rfl)
  try simp only [Act.put, List.setIfInBounds_toArray, List.set_cons_zero, List.set_cons_succ, List.getElem_toArray, List.getElem_cons_zero, List.getElem_cons_succ]
  refine AnyT.take (i := 11) (v := ?_) rfl (by kernel_rfl) (by kernel_rfl) (by kernel_rfl) (by kernel_rfl) (fun _ _ _ h => h) (Or.inl ⟨by rfl, ?_⟩) (by assumption) ?_
  rotate_left 1
  · (intro w0 hSw; (try dsimp only at hSw); go_simp; try with_reducible rfl)
  try simp only [Act.put, List.setIfInBounds_toArray, List.set_cons_zero, List.set_cons_succ, List.getElem_toArray, List.getElem_cons_zero, List.getElem_cons_succ]
  refine AnyT.call (i := 5) (by kernel_rfl) rfl (fun K hK => ?_)
  try simp only [Act.put, List.setIfInBounds_toArray, List.set_cons_zero, List.set_cons_succ, List.getElem_toArray, List.getElem_cons_zero, List.getElem_cons_succ]
  rw [if_pos (by rfl)]
  go_simp
  (go_at_call 128; refine LK.out.mono ?_; rintro e w3 ⟨g, rfl, rg, sg, bx, zg⟩; have B1 := bx; have K01 : w3.cell? ⟨w.heap.size, 0, none⟩ = some (.slice A n cs) := (B1.cell (p := ⟨w.heap.size, 0, none⟩) zA).trans K0; have K11 : w3.cell? ⟨w.heap.size, 1, none⟩ = some (.slice (some ⟨b, off, none⟩) q cv) := (B1.cell (p := ⟨w.heap.size, 1, none⟩) zA).trans K1; have K21 : w3.cell? ⟨b, off + k * 2 + 1, none⟩ = some (.slice P' pn' pc') := (B1.cell (p := ⟨b, off + k * 2 + 1, none⟩) zB).trans K2; have K31 : w3.heap[w1.heap.size]? = some (.cells rs 128 (0, 0)) := (B1.block _ zC).trans K3; have LFI := Lib.hid (LFILL.out g w3 rg sg B1); go_wp2_with fail)
  refine hK.out _ _ (fun _ _ => ?_) (fun hKeep => ?_)
  · exact ⟨K01, K11, K21, K31⟩
  replace hHeld := hKeep (by first | rfl | trivial) hHeld
  clear hK K hKeep
  try simp only [Act.put, List.setIfInBounds_toArray, List.set_cons_zero, List.set_cons_succ, List.getElem_toArray, List.getElem_cons_zero, List.getElem_cons_succ]
  refine AnyT.call (i := 12) (by kernel_rfl) rfl (fun K hK => ?_)
  try simp only [Act.put, List.setIfInBounds_toArray, List.set_cons_zero, List.set_cons_succ, List.getElem_toArray, List.getElem_cons_zero, List.getElem_cons_succ]
  rw [if_pos (by rfl)]
  go_simp
  (go_at_call 129; refine LFI.out.mono ?_; rintro e w4 ⟨O, on, oc, rfl, oO, by4⟩; have B2 := next_trans B1 by4; have K02 : w4.cell? ⟨w.heap.size, 0, none⟩ = some (.slice A n cs) := (B2.cell (p := ⟨w.heap.size, 0, none⟩) zA).trans K0; have K12 : w4.cell? ⟨w.heap.size, 1, none⟩ = some (.slice (some ⟨b, off, none⟩) q cv) := (B2.cell (p := ⟨w.heap.size, 1, none⟩) zA).trans K1; have K22 : w4.cell? ⟨b, off + k * 2 + 1, none⟩ = some (.slice P' pn' pc') := (B2.cell (p := ⟨b, off + k * 2 + 1, none⟩) zB).trans K2; have K32 : w4.heap[w1.heap.size]? = some (.cells rs 128 (0, 0)) := (B2.block _ zC).trans K3; have LPU := Lib.hid (LPUT.out O on oc w4 B2 oO); go_wp2_with fail)
  refine hK.out _ _ (fun _ _ => ?_) (fun hKeep => ?_)
  · exact ⟨K02, K12, K22, K32⟩
  replace hHeld := hKeep (by first | rfl | trivial) hHeld
  clear hK K hKeep
  try simp only [Act.put, List.setIfInBounds_toArray, List.set_cons_zero, List.set_cons_succ, List.getElem_toArray, List.getElem_cons_zero, List.getElem_cons_succ]
  refine AnyT.call (i := 13) (by kernel_rfl) rfl (fun K hK => ?_)
  try simp only [Act.put, List.setIfInBounds_toArray, List.set_cons_zero, List.set_cons_succ, List.getElem_toArray, List.getElem_cons_zero, List.getElem_cons_succ]
  rw [if_pos (by rfl)]
  go_simp
  (go_at_call 127; refine LPU.out.mono ?_; rintro e w5 ⟨X, xn, xc, rfl, oX, by5⟩; have B3 := next_trans B2 by5; have K03 : w5.cell? ⟨w.heap.size, 0, none⟩ = some (.slice A n cs) := (B3.cell (p := ⟨w.heap.size, 0, none⟩) zA).trans K0; have K13 : w5.cell? ⟨w.heap.size, 1, none⟩ = some (.slice (some ⟨b, off, none⟩) q cv) := (B3.cell (p := ⟨w.heap.size, 1, none⟩) zA).trans K1; have K23 : w5.cell? ⟨b, off + k * 2 + 1, none⟩ = some (.slice P' pn' pc') := (B3.cell (p := ⟨b, off + k * 2 + 1, none⟩) zB).trans K2; have K33 : w5.heap[w1.heap.size]? = some (.cells rs 128 (0, 0)) := (B3.block _ zC).trans K3; go_wp2_with fail)
  refine hK.out _ _ (fun _ _ => ?_) (fun hKeep => ?_)
  · exact ⟨K03, K13, K23, K33⟩
  replace hHeld := hKeep (by first | rfl | trivial) hHeld
  clear hK K hKeep
  try simp only [Act.put, List.setIfInBounds_toArray, List.set_cons_zero, List.set_cons_succ, List.getElem_toArray, List.getElem_cons_zero, List.getElem_cons_succ]
  refine AnyT.takeA (i := 14) (v := ?_) rfl (by kernel_rfl) (by kernel_rfl) (by kernel_rfl) (fun _ _ _ h => h) (Or.inl ⟨by rfl, ?_⟩) ?_
  rotate_left 1
  · (intro w0 _; go_simp; try with_reducible rfl)
  try simp only [Act.put, List.setIfInBounds_toArray, List.set_cons_zero, List.set_cons_succ, List.getElem_toArray, List.getElem_cons_zero, List.getElem_cons_succ]
  refine AnyT.takeA (i := 15) (v := ?_) rfl (by kernel_rfl) (by kernel_rfl) (by kernel_rfl) (fun _ _ _ h => h) (Or.inl ⟨by rfl, ?_⟩) ?_
  rotate_left 1
  · (intro w0 _; go_simp; try with_reducible rfl)
  try simp only [Act.put, List.setIfInBounds_toArray, List.set_cons_zero, List.set_cons_succ, List.getElem_toArray, List.getElem_cons_zero, List.getElem_cons_succ]
  refine AnyT.takeA (i := 16) (v := ?_) rfl (by kernel_rfl) (by kernel_rfl) (by kernel_rfl) (fun _ _ _ h => h) (Or.inl ⟨by rfl, ?_⟩) ?_
  rotate_left 1
  · (intro w0 _; go_simp; try with_reducible rfl)
  try simp only [Act.put, List.setIfInBounds_toArray, List.set_cons_zero, List.set_cons_succ, List.getElem_toArray, List.getElem_cons_zero, List.getElem_cons_succ]
  refine AnyT.takeA (i := 17) (v := ?_) rfl (by kernel_rfl) (by kernel_rfl) (by kernel_rfl) (fun _ _ _ h => h) (Or.inl ⟨by rfl, ?_⟩) ?_
  rotate_left 1
  · (intro w0 _; go_simp; try with_reducible rfl)
  try simp only [Act.put, List.setIfInBounds_toArray, List.set_cons_zero, List.set_cons_succ, List.getElem_toArray, List.getElem_cons_zero, List.getElem_cons_succ]
  refine AnyT.done (by kernel_rfl) ?_ _
  have F : AnsStep w (stepO d.1 y t x) (.returned (.tuple #[.slice X xn xc, .bool (put.putB d.1 t (fillL (givesL s) y.2) (x : Int))])) w5 := ⟨X, xn, xc, by rw [HRB.out.2], by rw [HRB.out.1]; exact Own.lower oX (Nat.le_trans BEL2.out.size B2.size), BEL2.out.drew.trans (B3.mono BEL2.out.size)⟩
  have HF := Lib.hid F
  clear F oX by5 B1 B2 B3 LK LFILL LPUT LFI LPU oO by4
  generalize put.putB d.1 t (fillL (givesL s) y.2) (x : Int) = bz at *
  go_wp2
  go_ret2
  exact HF.out
end Go.Proofs.Ytfkgiimcnlagmaa.stepImpl
end

section
/-
  CONTRACTS: impl's system.hasRedex, stepAt, RedexAt, StepAt. Conditions: the system and the term read as data ('Rd'), at most 1048576 numbers; place and rule are int64. By an AI agent.
-/
namespace Go.Proofs.Ytfkgiimcnlagmaa.stepImpl
open Go.RowKit Go.Proofs.Ytfkgiimcnlagmaa.base Go.Proofs.Ytfkgiimcnlagmaa.ints Go.Proofs.Ytfkgiimcnlagmaa.sig Go.Proofs.Ytfkgiimcnlagmaa.term Go.Proofs.Ytfkgiimcnlagmaa.termOk Go.Proofs.Ytfkgiimcnlagmaa.endAt Go.Proofs.Ytfkgiimcnlagmaa.inside Go.Proofs.Ytfkgiimcnlagmaa.marks Go.Proofs.Ytfkgiimcnlagmaa.app Go.Proofs.Ytfkgiimcnlagmaa.sym Go.Proofs.Ytfkgiimcnlagmaa.sub Go.Proofs.Ytfkgiimcnlagmaa.segs Go.Proofs.Ytfkgiimcnlagmaa.segsHelp Go.Proofs.Ytfkgiimcnlagmaa.kinds Go.Proofs.Ytfkgiimcnlagmaa.termFacts Go.Proofs.Ytfkgiimcnlagmaa.matchMath Go.Proofs.Ytfkgiimcnlagmaa.whole Go.Proofs.Ytfkgiimcnlagmaa.takeMath Go.Proofs.Ytfkgiimcnlagmaa.take Go.Proofs.Ytfkgiimcnlagmaa.extended Go.Proofs.Ytfkgiimcnlagmaa.varsOf Go.Proofs.Ytfkgiimcnlagmaa.shape Go.Proofs.Ytfkgiimcnlagmaa.kindsR Go.Proofs.Ytfkgiimcnlagmaa.ruleMath Go.Proofs.Ytfkgiimcnlagmaa.ruleSpec Go.Proofs.Ytfkgiimcnlagmaa.ruleImpl Go.Proofs.Ytfkgiimcnlagmaa.stepMath Go.Proofs.Ytfkgiimcnlagmaa.walkMath Go.Proofs.Ytfkgiimcnlagmaa.stepSpec
set_option maxRecDepth 100000

theorem right_of {sg : List Int} {rs : List Rl} {t : List Int} (h : sysOkB sg rs = true) : rightB sg rs t = termOkB sg t := by unfold rightB; rw [h]; rfl
theorem there_eq {sg : List Int} {rs : List Rl} {t : List Int} {a r : Int} (h : sysOkB sg rs = true) : thereR sg rs t a r = (thereB sg t a && walkMath.inB r rs.length) := by
  unfold thereR thereB walkMath.inB endAt.inB
  rw [right_of h, Bool.and_assoc]

set_option maxHeartbeats 4000000 in
theorem hasRedex (a v u : Value) (d : Dat sSystem) (t : List Int) (x r : Int) (w : World) (h : Rd w w.heap.size sSystem [a, v] d) (ht : Rd w w.heap.size sI [u] t) (hz : sz sSystem d ≤ 1048576) (hz' : sz sI t ≤ 1048576) (oks : sysOkB d.1 d.2 = true) :
    Calls Try.prog 58 #[.agg #[a, v], u, .int .i64 x, .int .i64 r] w (AnsB w (redexB d.1 d.2 t x r)) := by
  have h0 := h
  have ht0 := ht
  obtain ⟨T, m, c, rfl, hT, hcT⟩ := rd_ints.1 ht
  have hm := len_ints hT.1 hz'
  obtain ⟨A, n, cs, V, q, cv, rfl, rfl, hs, hc, hcv, hq, hn, hq1, hrs, hsg, hE⟩ := rd_sys h hz
  obtain ⟨W, hW, rA, bel⟩ := box1 w 66 #[.slice A n cs, .slice V q cv]
  have HW := Lib.hid hW
  have LP := Lib.hid (placeIn A T n cs m c d.1 t x W (hs.next bel) (hT.next bel) hn hm)
  have HQ := Lib.hid hq
  have LMA := Lib.hid (fun (w1 : World) (bb : Below w.heap.size w w1) (x k : Nat) hok hx hk => matchAt _ _ _ d t x k w1 (h0.next bb) (ht0.next bb) hz hok hx hk)
  have OKS := Lib.hid oks
  clear hW h h0 ht ht0 hz hz' hs hc hcv hq hrs hsg hE hT hcT oks
  obtain ⟨bp, hbp⟩ : ∃ bp, thereB d.1 t x = bp := ⟨_, rfl⟩
  have HP := Lib.hid hbp
  have HTH := Lib.hid (show thereR d.1 d.2 t x r = (bp && walkMath.inB r d.2.length) by rw [there_eq OKS.out, hbp])
  rw [hbp] at LP
  clear hbp
  cases bp with
  | false =>
    go_enter Try.func58, Try.ntmps58
    go_wp2_with fail
    rw [← HW.out]
    refine LP.out.mono ?_
    rintro e w1 ⟨rfl, bb⟩
    have F := Lib.hid (ansB (b := redexB d.1 d.2 t x r) (a := false) (by rw [redex_no (by rw [HTH.out]; rfl)]) (next_trans bel bb))
    clear bb bel rA LMA
    go_wp2
    go_ret
    exact F.out
  | true =>
    by_cases hr0 : r < 0
    · go_enter Try.func58, Try.ntmps58
      go_wp2_with fail
      rw [← HW.out]
      refine LP.out.mono ?_
      rintro e w1 ⟨rfl, bb⟩
      have F := Lib.hid (ansB (b := redexB d.1 d.2 t x r) (a := false) (by rw [redex_no (by rw [HTH.out]; unfold walkMath.inB; rw [decide_eq_false (by omega)]; rfl)]) (next_trans bel bb))
      clear bb bel rA LMA
      go_wp2
      go_ret
      exact F.out
    · obtain ⟨k, rfl⟩ := Int.eq_ofNat_of_zero_le (Int.not_lt.1 hr0)
      by_cases hkq : k < q
      · have hx := endAt.there_parts HP.out
        obtain ⟨i, rfl⟩ := Int.eq_ofNat_of_zero_le hx.2.1
        have hix : i < t.length := by omega
        have okR : rightB d.1 d.2 t = true := by rw [right_of OKS.out]; exact hx.1
        have hkl : k < d.2.length := by rw [HQ.out]; exact hkq
        have HRE := Lib.hid (show redexB d.1 d.2 t (i : Int) (k : Int) = (mst d.1 t (d.2.getD k ([], [])).1 i s0).isSome by
          rw [redex_yes (by rw [HTH.out]; unfold walkMath.inB; rw [decide_eq_true (by omega)]; rfl), red_at (sys_rule OKS.out hkl) hx.1 hix]
          unfold rl
          rw [Int.toNat_natCast, Int.toNat_natCast])
        have LM := Lib.hid (fun w1 bb => LMA.out w1 bb i k okR hix hkl)
        clear hx okR LMA HTH
        obtain ⟨R, hR⟩ : ∃ R, mst d.1 t (d.2.getD k ([], [])).1 i s0 = R := ⟨_, rfl⟩
        rw [hR] at LM HRE
        clear hR
        go_enter Try.func58, Try.ntmps58
        go_wp2_with fail
        rw [← HW.out]
        refine LP.out.mono ?_
        rintro e w1 ⟨rfl, bb⟩
        replace rA := rA.next bb
        replace bel := next_trans bel bb
        have K0 : w1.cell? ⟨w.heap.size, 0, none⟩ = some (.slice A n cs) := rA.cell 0
        have K1 : w1.cell? ⟨w.heap.size, 1, none⟩ = some (.slice V q cv) := rA.cell 1
        have hge : ¬ (q : Int) ≤ (k : Int) := by omega
        have LM1 := Lib.hid (LM.out w1 bel)
        clear bb LP LM rA
        go_wp2_with fail
        refine LM1.out.mono ?_
        rintro e w3 ⟨rs, rfl, tab, hsz, bb⟩
        have one := Lib.hid tab.one
        have h24 := Lib.hid tab.1
        obtain ⟨bo, hbo⟩ : ∃ bo, R.isSome = bo := ⟨_, rfl⟩
        rw [hbo]
        have F := Lib.hid (show AnsB w (redexB d.1 d.2 t (i : Int) (k : Int)) (.returned (.bool bo)) (w3.alloc (.cells rs 128)) from ⟨by rw [HRE.out, hbo], (next_trans bel bb).alloc (next_trans bel bb).size _⟩)
        clear tab hsz bb bel K0 K1 hbo LM1 HRE
        go_wp2_with (first
          | (refine rowAlloc rfl 128 rfl z24 zero_b ?_)
          | (refine rowStore rfl 128 _ _ rfl w3.heap.size rs z24 128 rfl rfl (heap_alloc_new w3 _) (by rw [h24.out]; exact size_b) (by rw [h24.out]; rfl) one.out ?_; rw [World.setRow_alloc_new]))
        go_ret
        exact F.out
      · go_enter Try.func58, Try.ntmps58
        go_wp2_with fail
        rw [← HW.out]
        refine LP.out.mono ?_
        rintro e w1 ⟨rfl, bb⟩
        replace rA := rA.next bb
        have K1 : w1.cell? ⟨w.heap.size, 1, none⟩ = some (.slice V q cv) := rA.cell 1
        have F := Lib.hid (ansB (b := redexB d.1 d.2 t x (k : Int)) (a := false) (by rw [redex_no (by rw [HTH.out, HQ.out]; unfold walkMath.inB; rw [decide_eq_false (by omega)]; rfl)]) (next_trans bel bb))
        have hge : (q : Int) ≤ (k : Int) := by omega
        clear bb bel rA LMA
        go_wp2
        go_ret
        exact F.out

set_option maxHeartbeats 4000000 in
theorem stepAt (a v u : Value) (d : Dat sSystem) (t : List Int) (x r : Int) (w : World) (h : Rd w w.heap.size sSystem [a, v] d) (ht : Rd w w.heap.size sI [u] t) (hz : sz sSystem d ≤ 1048576) (hz' : sz sI t ≤ 1048576) (oks : sysOkB d.1 d.2 = true) :
    Calls Try.prog 79 #[.agg #[a, v], u, .int .i64 x, .int .i64 r] w (AnsStep w (stepAtO d.1 d.2 t x r)) := by
  obtain ⟨W, hW, rA, bel⟩ := box1 w 66 #[a, v]
  have HW := Lib.hid hW
  have LH := Lib.hid (hasRedex a v u d t x r W (h.next bel) (ht.next bel) hz hz' oks)
  have LR := Lib.hid (fun (w1 : World) (bb : Below w.heap.size w w1) (x k : Nat) hok hx hk hred => reduced a v u d t x k w1 (h.next bb) (ht.next bb) hz hok hx hk hred)
  clear hW h ht hz hz'
  obtain ⟨bp, hbp⟩ : ∃ bp, redexB d.1 d.2 t x r = bp := ⟨_, rfl⟩
  rw [hbp] at LH
  cases bp with
  | false =>
    have HN := Lib.hid (show stepAtO d.1 d.2 t x r = none by
      cases e : stepAtO d.1 d.2 t x r with
      | none => rfl
      | some y => rw [stepAt_redex e] at hbp; cases hbp)
    clear hbp
    go_enter Try.func79, Try.ntmps79
    go_wp2_with fail
    rw [← HW.out]
    refine LH.out.mono ?_
    rintro e w1 ⟨rfl, bb⟩
    have F := Lib.hid (ansStep_nil (o := stepAtO d.1 d.2 t x r) HN.out (next_trans bel bb))
    clear bb bel rA LR
    go_wp2
    go_ret2
    exact F.out
  | true =>
    have hth : thereR d.1 d.2 t x r = true := by
      unfold redexB at hbp
      rw [Bool.and_eq_true] at hbp
      exact hbp.1
    obtain ⟨p1, p2, p3, p4⟩ := walkMath.there_parts hth
    obtain ⟨i, rfl⟩ := Int.eq_ofNat_of_zero_le p3.1
    obtain ⟨k, rfl⟩ := Int.eq_ofNat_of_zero_le p4.1
    rw [redex_yes hth] at hbp
    unfold rl at hbp
    rw [Int.toNat_natCast, Int.toNat_natCast] at hbp
    have LR1 := Lib.hid (fun w1 bb => LR.out w1 bb i k (right_yes p1 p2) (by omega) (by omega) hbp)
    have HE := Lib.hid (show stepAtO d.1 d.2 t (i : Int) (k : Int) = stepO d.1 (d.2.getD k ([], [])) t i by rw [at_yes hth]; unfold rl; rw [Int.toNat_natCast, Int.toNat_natCast])
    clear hth p1 p2 p3 p4 hbp LR oks
    go_enter Try.func79, Try.ntmps79
    go_wp2_with fail
    rw [← HW.out]
    refine LH.out.mono ?_
    rintro e w1 ⟨rfl, bb⟩
    replace rA := rA.next bb
    replace bel := next_trans bel bb
    have K0 : w1.cell? ⟨w.heap.size, 0, none⟩ = some a := rA.cell 0
    have K1 : w1.cell? ⟨w.heap.size, 1, none⟩ = some v := rA.cell 1
    have LR2 := Lib.hid (LR1.out w1 bel)
    clear bb LH LR1 rA
    go_wp2_with fail
    refine LR2.out.mono ?_
    rintro e w2 ⟨X, xn, xc, rfl, oX, bb⟩
    have F : AnsStep w (stepAtO d.1 d.2 t (i : Int) (k : Int)) (.returned (.tuple #[.slice X xn xc, .bool (stepO d.1 (d.2.getD k ([], [])) t i).isSome])) w2 := ⟨X, xn, xc, by rw [HE.out], by rw [HE.out]; exact Own.lower oX bel.size, next_trans bel bb⟩
    have HF := Lib.hid F
    clear F oX bb bel K0 K1 LR2
    generalize (stepO d.1 (d.2.getD k ([], [])) t i).isSome = bz at *
    go_wp2
    go_ret2
    exact HF.out

set_option maxHeartbeats 4000000 in
theorem implRedexAt (a v u : Value) (d : Dat sSystem) (t : List Int) (x r : Int) (w : World) (h : Rd w w.heap.size sSystem [a, v] d) (ht : Rd w w.heap.size sI [u] t) (hz : sz sSystem d ≤ 1048576) (hz' : sz sI t ≤ 1048576) (x1 : -9223372036854775808 ≤ x) (x2 : x ≤ 9223372036854775807) (r1 : -9223372036854775808 ≤ r) (r2 : r ≤ 9223372036854775807) :
    Calls Try.prog 22 #[.agg #[a, v], u, .int .i64 x, .int .i64 r] w (AnsB w (redexB d.1 d.2 t x r)) := by
  have hlets : ∃ A n c V q cv, a = .slice A n c ∧ v = .slice V q cv := by
    obtain ⟨A, n, c, V, q, cv, e1, e2, _⟩ := rd_sys h hz
    exact ⟨A, n, c, V, q, cv, e1, e2⟩
  obtain ⟨A, n, cs, V, q, cv, rfl, rfl⟩ := hlets
  obtain ⟨W, hW, rA, bel⟩ := box1 w 29 #[.slice A n cs, .slice V q cv]
  have HW := Lib.hid hW
  have LS := Lib.hid (systemOf _ _ d W (h.next bel) hz)
  have LH := Lib.hid (fun (w1 : World) (bb : Below w.heap.size w w1) oks => hasRedex _ _ u d t x r w1 (h.next bb) (ht.next bb) hz hz' oks)
  clear hW h ht hz hz'
  cases ok : sysOkB d.1 d.2 with
  | false =>
    have HS := Lib.hid ok
    clear ok
    go_enter Try.func22, Try.ntmps22
    go_wp2_with fail
    rw [← HW.out]
    refine LS.out.mono ?_
    rintro e w1 ⟨he, bb⟩
    rw [HS.out] at he
    have he : e = .returned (.tuple #[.agg #[.slice none 0 0, .slice none 0 0], .bool false]) := he
    subst he
    have F := Lib.hid (fun o => ansB (b := redexB d.1 d.2 t x r) (a := false) (by rw [redex_no (there_r (right_sys HS.out))]) ((next_trans bel bb).alloc (next_trans bel bb).size o))
    clear bb bel rA LH
    go_wp2
    go_ret
    exact F.out _
  | true =>
    have HS := Lib.hid ok
    clear ok
    go_enter Try.func22, Try.ntmps22
    go_wp2_with fail
    rw [← HW.out]
    refine LS.out.mono ?_
    rintro e w1 ⟨he, bb⟩
    rw [HS.out] at he
    have he : e = .returned (.tuple #[.agg #[.slice A n cs, .slice V q cv], .bool true]) := he
    subst he
    have b2 := (next_trans bel bb).alloc (next_trans bel bb).size (.cells #[.slice A n cs, .slice V q cv] 66)
    have LH1 := Lib.hid (LH.out _ b2 HS.out)
    have B2 := Lib.hid b2
    clear bb bel rA LH b2 LS
    go_wp2_with fail
    refine LH1.out.mono ?_
    rintro e w3 ⟨rfl, bb⟩
    have F := Lib.hid (show AnsB w (redexB d.1 d.2 t x r) (.returned (.bool (redexB d.1 d.2 t x r))) w3 from ⟨rfl, next_trans B2.out bb⟩)
    clear bb LH1 B2
    generalize redexB d.1 d.2 t x r = bz at *
    go_wp2
    go_ret
    exact F.out

set_option maxHeartbeats 4000000 in
theorem implStepAt (a v u : Value) (d : Dat sSystem) (t : List Int) (x r : Int) (w : World) (h : Rd w w.heap.size sSystem [a, v] d) (ht : Rd w w.heap.size sI [u] t) (hz : sz sSystem d ≤ 1048576) (hz' : sz sI t ≤ 1048576) (x1 : -9223372036854775808 ≤ x) (x2 : x ≤ 9223372036854775807) (r1 : -9223372036854775808 ≤ r) (r2 : r ≤ 9223372036854775807) :
    Calls Try.prog 42 #[.agg #[a, v], u, .int .i64 x, .int .i64 r] w (AnsStep w (stepAtO d.1 d.2 t x r)) := by
  have hlets : ∃ A n c V q cv, a = .slice A n c ∧ v = .slice V q cv := by
    obtain ⟨A, n, c, V, q, cv, e1, e2, _⟩ := rd_sys h hz
    exact ⟨A, n, c, V, q, cv, e1, e2⟩
  obtain ⟨A, n, cs, V, q, cv, rfl, rfl⟩ := hlets
  obtain ⟨W, hW, rA, bel⟩ := box1 w 29 #[.slice A n cs, .slice V q cv]
  have HW := Lib.hid hW
  have LS := Lib.hid (systemOf _ _ d W (h.next bel) hz)
  have LH := Lib.hid (fun (w1 : World) (bb : Below w.heap.size w w1) oks => stepAt _ _ u d t x r w1 (h.next bb) (ht.next bb) hz hz' oks)
  clear hW h ht hz hz'
  cases ok : sysOkB d.1 d.2 with
  | false =>
    have HS := Lib.hid ok
    clear ok
    go_enter Try.func42, Try.ntmps42
    go_wp2_with fail
    rw [← HW.out]
    refine LS.out.mono ?_
    rintro e w1 ⟨he, bb⟩
    rw [HS.out] at he
    have he : e = .returned (.tuple #[.agg #[.slice none 0 0, .slice none 0 0], .bool false]) := he
    subst he
    have F := Lib.hid (fun o => ansStep_nil (o := stepAtO d.1 d.2 t x r) (at_no (there_r (right_sys HS.out))) ((next_trans bel bb).alloc (next_trans bel bb).size o))
    clear bb bel rA LH
    go_wp2
    go_ret2
    exact F.out _
  | true =>
    have HS := Lib.hid ok
    clear ok
    go_enter Try.func42, Try.ntmps42
    go_wp2_with fail
    rw [← HW.out]
    refine LS.out.mono ?_
    rintro e w1 ⟨he, bb⟩
    rw [HS.out] at he
    have he : e = .returned (.tuple #[.agg #[.slice A n cs, .slice V q cv], .bool true]) := he
    subst he
    have b2 := (next_trans bel bb).alloc (next_trans bel bb).size (.cells #[.slice A n cs, .slice V q cv] 66)
    have LH1 := Lib.hid (LH.out _ b2 HS.out)
    have B2 := Lib.hid b2
    clear bb bel rA LH b2 LS
    go_wp2_with fail
    refine LH1.out.mono ?_
    rintro e w3 ⟨X, xn, xc, rfl, oX, bb⟩
    have F : AnsStep w (stepAtO d.1 d.2 t x r) (.returned (.tuple #[.slice X xn xc, .bool (stepAtO d.1 d.2 t x r).isSome])) w3 := ⟨X, xn, xc, rfl, Own.lower oX B2.out.size, next_trans B2.out bb⟩
    have HF := Lib.hid F
    clear F oX bb LH1 B2
    generalize (stepAtO d.1 d.2 t x r).isSome = bz at *
    go_wp2
    go_ret2
    exact HF.out
end Go.Proofs.Ytfkgiimcnlagmaa.stepImpl
end

section
/-
  PLAIN MATHEMATICS: the steps of a term and its redexes, counted place by place and rule by rule. Conditions: none but those named. By an AI agent.
-/
namespace Go.Proofs.Ytfkgiimcnlagmaa.stepsMath
open Go.Proofs.Ytfkgiimcnlagmaa.sig Go.Proofs.Ytfkgiimcnlagmaa.term Go.Proofs.Ytfkgiimcnlagmaa.termOk Go.Proofs.Ytfkgiimcnlagmaa.termFacts Go.Proofs.Ytfkgiimcnlagmaa.ruleMath Go.Proofs.Ytfkgiimcnlagmaa.stepMath Go.Proofs.Ytfkgiimcnlagmaa.walkMath

def stF (sg : List Int) (rs : List Rl) (t : List Int) (a r : Nat) : Option St := (stepO sg (rs.getD r ([], [])) t a).map fun v => ((a : Int), (r : Int), v)
/-- the steps at the first i places, and those by the first k rules at the next -/
def stN (sg : List Int) (rs : List Rl) (t : List Int) (i k : Nat) : List St := (List.range i).flatMap (fun a => (List.range rs.length).filterMap (stF sg rs t a)) ++ (List.range k).filterMap (stF sg rs t i)
section
variable {sg : List Int} {rs : List Rl} {t : List Int} {i k : Nat}
theorem st_zero : stN sg rs t 0 0 = [] := rfl
theorem st_all : stN sg rs t t.length 0 = stepsL sg rs t := by unfold stN; rw [List.range_zero, List.filterMap_nil, List.append_nil]; rfl
theorem st_row : stN sg rs t i rs.length = stN sg rs t (i + 1) 0 := by
  unfold stN
  rw [List.range_zero, List.filterMap_nil, List.append_nil, List.range_succ, List.flatMap_append]
  simp
theorem st_some {v : List Int} (h : stepO sg (rs.getD k ([], [])) t i = some v) : stN sg rs t i (k + 1) = stN sg rs t i k ++ [((i : Int), (k : Int), v)] := by
  unfold stN
  rw [List.range_succ, List.filterMap_append, ← List.append_assoc]
  have : stF sg rs t i k = some ((i : Int), (k : Int), v) := by unfold stF; rw [h]; rfl
  simp [this]
theorem st_none (h : stepO sg (rs.getD k ([], [])) t i = none) : stN sg rs t i (k + 1) = stN sg rs t i k := by
  unfold stN
  rw [List.range_succ, List.filterMap_append]
  have : stF sg rs t i k = none := by unfold stF; rw [h]; rfl
  simp [this]
theorem st_len : (stN sg rs t i k).length ≤ i * rs.length + k := by
  unfold stN
  rw [List.length_append]
  have h1 : ∀ n : Nat, ∀ a, ((List.range n).filterMap (stF sg rs t a)).length ≤ n := fun n a => by
    have := List.length_filterMap_le (stF sg rs t a) (List.range n)
    rwa [List.length_range] at this
  have h2 : ∀ i : Nat, ((List.range i).flatMap (fun a => (List.range rs.length).filterMap (stF sg rs t a))).length ≤ i * rs.length := fun i => by
    induction i with
    | zero => simp
    | succ i ih =>
      rw [List.range_succ, List.flatMap_append, List.length_append, Nat.add_mul]
      have := h1 rs.length i
      simp only [List.flatMap_cons, List.flatMap_nil, List.append_nil]
      omega
  have := h1 k i
  have := h2 i
  omega
end
/-- how many redexes there are at the first i places, and by the first k rules at the next -/
def rdN (sg : List Int) (rs : List Rl) (t : List Int) (i k : Nat) : Nat := ((List.range i).map fun a => rs.countP fun x => redB sg x t a).sum + (rs.take k).countP fun x => redB sg x t i
section
variable {sg : List Int} {rs : List Rl} {t : List Int} {i k : Nat}
theorem rd_zero : rdN sg rs t 0 0 = 0 := rfl
theorem rd_row : rdN sg rs t i rs.length = rdN sg rs t (i + 1) 0 := by
  unfold rdN
  rw [List.take_of_length_le (Nat.le_refl _), List.range_succ, List.map_append, List.sum_append]
  simp
theorem rd_step (h : k < rs.length) : rdN sg rs t i (k + 1) = rdN sg rs t i k + if redB sg (rs.getD k ([], [])) t i = true then 1 else 0 := by
  unfold rdN
  rw [List.take_succ_eq_append_getElem h, List.countP_append]
  have : rs.getD k ([], []) = rs[k] := by simp [List.getD, h]
  rw [this, List.countP_cons, List.countP_nil]
  omega
theorem rd_le : rdN sg rs t i k ≤ i * rs.length + k := by
  unfold rdN
  have h1 : (rs.take k).countP (fun x => redB sg x t i) ≤ k := Nat.le_trans (List.countP_le_length) (by rw [List.length_take]; omega)
  have h2 : ∀ i : Nat, ((List.range i).map fun a => rs.countP fun x => redB sg x t a).sum ≤ i * rs.length := fun i => by
    induction i with
    | zero => simp
    | succ i ih =>
      rw [List.range_succ, List.map_append, List.sum_append, Nat.add_mul]
      have : rs.countP (fun x => redB sg x t i) ≤ rs.length := List.countP_le_length
      simp only [List.map_cons, List.map_nil, List.sum_cons, List.sum_nil]
      omega
  have := h2 i
  omega
theorem rd_none : (rdN sg rs t t.length 0 = 0) ↔ ((List.range t.length).all fun a => rs.all fun x => !redB sg x t a) = true := by
  unfold rdN
  rw [List.take_zero, List.countP_nil, Nat.add_zero, List.sum_eq_zero_iff_forall_eq_nat]
  constructor
  · intro h
    rw [List.all_eq_true]
    intro a ha
    rw [List.all_eq_true]
    intro x hx
    have h1 := h _ (List.mem_map.2 ⟨a, ha, rfl⟩)
    rw [List.countP_eq_zero] at h1
    have := h1 x hx
    simpa using this
  · intro h y hy
    obtain ⟨a, ha, rfl⟩ := List.mem_map.1 hy
    rw [List.all_eq_true] at h
    have h1 := h a ha
    rw [List.all_eq_true] at h1
    rw [List.countP_eq_zero]
    intro x hx
    have := h1 x hx
    simpa using this
theorem normal_eq (h : rightB sg rs t = true) : normalB sg rs t = decide (rdN sg rs t t.length 0 = 0) := by
  unfold normalB
  rw [h, Bool.true_and, Bool.eq_iff_iff, decide_eq_true_iff, rd_none]
end
end Go.Proofs.Ytfkgiimcnlagmaa.stepsMath
end

section
/-
  CONTRACTS of the drawing helpers: spec.l1Byte, l1Below, l1Once, l1From, l1Odd; laws.big. Conditions: a cursor over at most 4096 bytes. By an AI agent.
-/
namespace Go.Proofs.Ytfkgiimcnlagmaa.dice
open Go.RowKit Go.Proofs.Ytfkgiimcnlagmaa.base Go.Proofs.Ytfkgiimcnlagmaa.ints Go.Proofs.Ytfkgiimcnlagmaa.cursor

/-- The slice value '.slice A n c' holds n bytes, in a block below B. -/
def SegB (w : World) (B : Nat) (A : Option Addr) (n : Nat) : Prop :=
  0 < n → ∃ b off, A = some ⟨b, off, none⟩ ∧ b < B ∧ ∀ j, j < n → ∃ x : Int, 0 ≤ x ∧ x ≤ 255 ∧ w.cell? ⟨b, off + j, none⟩ = some (.int .u8 x)
theorem SegB.keep {w w' : World} {B : Nat} {A : Option Addr} {n : Nat} (h : SegB w B A n) (hk : ∀ p : Addr, p.block < B → w'.cell? p = w.cell? p) : SegB w' B A n := fun hn => by
  obtain ⟨b, off, e, hb, hc⟩ := h hn
  refine ⟨b, off, e, hb, fun j hj => ?_⟩
  obtain ⟨x, h0, h1, h2⟩ := hc j hj
  exact ⟨x, h0, h1, (hk ⟨b, off + j, none⟩ hb).trans h2⟩

/-- a drawing cursor in block p, at byte i, its number h -/
structure DiceAt (w : World) (p : Nat) (A : Option Addr) (n c i : Nat) (h : Int) : Prop where
  row : Row w p 104 #[.slice A n c, .int .i64 i, .int .i64 h]
  le : i ≤ n
  s : SegB w p A n
  hn : n ≤ 4096
def Dice (w : World) (p : Nat) (A : Option Addr) (n c : Nat) : Prop := ∃ i h, DiceAt w p A n c i h

section
variable {w w' : World} {p : Nat} {A : Option Addr} {n c i : Nat} {h : Int}
theorem DiceAt.drewN (d : DiceAt w p A n c i h) (k : Nat) : DiceAt (w.drewN k) p A n c i h := ⟨d.row, d.le, d.s, d.hn⟩
theorem DiceAt.setH (d : DiceAt w p A n c i h) (h' : Int) : DiceAt (w.setCell ⟨p, 2, none⟩ (.int .i64 h')) p A n c i h' :=
  ⟨d.row.put 2 _, d.le, d.s.keep fun q hq => World.cell?_setCell_other w _ q _ (fun e => by subst e; exact Nat.lt_irrefl _ hq), d.hn⟩
theorem DiceAt.setI (d : DiceAt w p A n c i h) (hi : i < n) : DiceAt (w.setCell ⟨p, 1, none⟩ (.int .i64 ((i : Int) + 1))) p A n c (i + 1) h := by
  refine ⟨?_, hi, d.s.keep fun q hq => World.cell?_setCell_other w _ q _ (fun e => by subst e; exact Nat.lt_irrefl _ hq), d.hn⟩
  have e : (.int .i64 ((i : Int) + 1) : Value) = .int .i64 ((i + 1 : Nat) : Int) := by simp
  rw [← e]
  exact d.row.put 1 _
theorem Dice.next (d : Dice w p A n c) (hb : Below w.heap.size w w') : Dice w' p A n c := by
  obtain ⟨i, h, d⟩ := d
  have hp := d.row.lt
  exact ⟨i, h, d.row.next hb, d.le, d.s.keep fun q hq => hb.cell (Nat.lt_trans hq hp), d.hn⟩
theorem Dice.drewN (d : Dice w p A n c) (k : Nat) : Dice (w.drewN k) p A n c := by
  obtain ⟨i, h, d⟩ := d
  exact ⟨i, h, d.drewN k⟩
theorem Dice.lt (d : Dice w p A n c) : p < w.heap.size := by
  obtain ⟨i, h, d⟩ := d
  exact d.row.lt
/-- the cursor stays where blocks from p + 1 on are written -/
theorem Dice.keep (d : Dice w p A n c) (hb : Below (p + 1) w w') : Dice w' p A n c := by
  obtain ⟨i, h, d⟩ := d
  exact ⟨i, h, d.row.below hb (Nat.lt_succ_self _), d.le, d.s.keep fun q hq => hb.cell (Nat.lt_succ_of_lt hq), d.hn⟩
end

theorem i64_and255 (n : Int) : bits .and .i64 n 255 = n % 256 := by
  have h255 : (BitVec.ofInt 64 255).toNat = 2 ^ 8 - 1 := by decide
  have key : (BitVec.ofInt 64 n &&& BitVec.ofInt 64 255).toNat = (n % ((2 ^ 64 : Nat) : Int)).toNat % 2 ^ 8 := by
    rw [BitVec.toNat_and, BitVec.toNat_ofInt, h255, Nat.and_two_pow_sub_one_eq_mod]
  show IntKind.i64.wrap ((BitVec.ofInt 64 n &&& BitVec.ofInt 64 255).toNat : Nat) = n % 256
  rw [key, IntKind.wrap_i64]
  omega
theorem and255 (n : Int) : 0 ≤ bits .and .i64 n 255 ∧ bits .and .i64 n 255 ≤ 255 := by rw [i64_and255]; omega

/-- what a draw gives -/
def AnsDraw (w : World) (p : Nat) (A : Option Addr) (n c : Nat) (lo hi : Int) (e : Ending) (w' : World) : Prop :=
  ∃ x : Int, e = .returned (.int .i64 x) ∧ lo ≤ x ∧ x ≤ hi ∧ Dice w' p A n c ∧ w.grownBy w' (some p)
theorem draw_and {w w' : World} {p : Nat} {A : Option Addr} {n c i : Nat} {h y : Int} (hd : DiceAt w' p A n c i h) (hg : w.grownBy w' (some p)) : AnsDraw w p A n c 0 255 (.returned (.int .i64 (bits .and .i64 y 255))) w' :=
  ⟨_, rfl, (and255 y).1, (and255 y).2, ⟨i, h, hd⟩, hg⟩

set_option maxHeartbeats 1000000 in
theorem byte (p : Nat) (A : Option Addr) (n c : Nat) (w : World) (hd : Dice w p A n c) :
    Calls Try.prog 133 #[.pointer (some ⟨p, 0, none⟩)] w (AnsDraw w p A n c 0 255) := by
  obtain ⟨i, h, hd⟩ := hd
  have hr := hd.row
  have hn := hd.hn
  have c0 : w.cell? ⟨p, 0, none⟩ = some (.slice A n c) := hr.cell 0
  have c1 : w.cell? ⟨p, 1, none⟩ = some (.int .i64 i) := hr.cell 1
  have c2 : w.cell? ⟨p, 2, none⟩ = some (.int .i64 h) := hr.cell 2
  have f1 : w.frozen? ⟨p, 1, none⟩ = false := hr.free 1
  have f2 : w.frozen? ⟨p, 2, none⟩ = false := hr.free 2
  have HG := Lib.hid (World.grownBy.refl w (some p))
  by_cases hlt : i < n
  · obtain ⟨b, off, rfl, hb, hc⟩ := hd.s (by omega)
    obtain ⟨y, hy0, hy1, hy⟩ := hc i hlt
    have hne : b ≠ p := by omega
    have i0 : (0 : Int) ≤ (i : Int) := by omega
    have i1 : (i : Int) < (n : Int) := by omega
    have HD := Lib.hid hd
    clear hc hr hd
    go_enter Try.func133, Try.ntmps133
    go_wp2_with fail
    go_quiet (fail)
    go_wp2_with fail
    go_quiet (fail)
    go_wp2_with fail
    go_quiet (fail)
    go_wp2_with fail
    go_ret
    exact draw_and (((HD.out.setH _).drewN _).setI hlt) (grown_put (grown_drewN (grown_put HG.out _ _) _) _ _)
  · have i2 : decide (i < n) = false := by simp; omega
    have HD := Lib.hid hd
    clear hr hd
    go_enter Try.func133, Try.ntmps133
    go_wp2_with fail
    go_quiet (fail)
    go_wp2_with fail
    go_quiet (fail)
    go_wp2_with fail
    go_ret
    exact draw_and (((HD.out.setH _).drewN _).drewN _) (grown_drewN (grown_drewN (grown_put HG.out _ _) _) _)

/-- a number from 0 to N - 1 -/
theorem below (p : Nat) (A : Option Addr) (n c : Nat) (N : Int) (w : World) (hd : Dice w p A n c) (h1 : 1 ≤ N) (h2 : N ≤ 256) :
    Calls Try.prog 109 #[.pointer (some ⟨p, 0, none⟩), .int .i64 N] w (AnsDraw w p A n c 0 (N - 1)) := by
  have L := Lib.hid (byte p A n c w hd)
  clear hd
  go_enter Try.func109, Try.ntmps109
  go_wp2_with fail
  refine L.out.mono ?_
  rintro e w' ⟨x, rfl, h3, h4, hd, hg⟩
  have F : AnsDraw w p A n c 0 (N - 1) (.returned (.int .i64 (x % N))) w' := ⟨_, rfl, Int.emod_nonneg _ (by omega), by have := Int.emod_lt_of_pos x (show 0 < N by omega); omega, hd, hg⟩
  have HF := Lib.hid F
  clear F hd hg L
  go_wp2
  go_ret
  exact HF.out

/-- a bool -/
def AnsFlip (w : World) (p : Nat) (A : Option Addr) (n c : Nat) (e : Ending) (w' : World) : Prop := ∃ b : Bool, e = .returned (.bool b) ∧ Dice w' p A n c ∧ w.grownBy w' (some p)
theorem once (p : Nat) (A : Option Addr) (n c : Nat) (N : Int) (w : World) (hd : Dice w p A n c) (h1 : 1 ≤ N) (h2 : N ≤ 256) :
    Calls Try.prog 108 #[.pointer (some ⟨p, 0, none⟩), .int .i64 N] w (AnsFlip w p A n c) := by
  have L := Lib.hid (below p A n c N w hd h1 h2)
  clear hd
  go_enter Try.func108, Try.ntmps108
  go_wp2_with fail
  refine L.out.mono ?_
  rintro e w' ⟨x, rfl, h3, h4, hd, hg⟩
  have F : AnsFlip w p A n c (.returned (.bool (x == 0))) w' := ⟨_, rfl, hd, hg⟩
  have HF := Lib.hid F
  clear F hd hg L
  by_cases h0 : x = 0
  · subst h0
    go_wp2
    go_ret
    exact HF.out
  · have e1 : (x == 0) = false := by simp [h0]
    rw [e1] at HF
    go_wp2
    go_ret
    exact HF.out

/-- a number from lo to hi -/
theorem fromTo (p : Nat) (A : Option Addr) (n c : Nat) (lo hi : Int) (w : World) (hd : Dice w p A n c) (h1 : lo ≤ hi) (h2 : hi - lo ≤ 255) (h3 : -1000 ≤ lo) (h4 : hi ≤ 1000) :
    Calls Try.prog 134 #[.pointer (some ⟨p, 0, none⟩), .int .i64 lo, .int .i64 hi] w (AnsDraw w p A n c lo hi) := by
  have L := Lib.hid (below p A n c (hi - lo + 1) w hd (by omega) (by omega))
  clear hd
  go_enter Try.func134, Try.ntmps134
  go_wp2_with fail
  refine L.out.mono ?_
  rintro e w' ⟨x, rfl, h5, h6, hd, hg⟩
  have F : AnsDraw w p A n c lo hi (.returned (.int .i64 (lo + x))) w' := ⟨_, rfl, by omega, by omega, hd, hg⟩
  have HF := Lib.hid F
  clear F hd hg L
  go_wp2
  go_ret
  exact HF.out

/-- some number -/
def AnsAny (w : World) (p : Nat) (A : Option Addr) (n c : Nat) (e : Ending) (w' : World) : Prop := ∃ x : Int, e = .returned (.int .i64 x) ∧ Dice w' p A n c ∧ w.grownBy w' (some p)
theorem Dice.alloc {w : World} {p : Nat} {A : Option Addr} {n c : Nat} (d : Dice w p A n c) (o : Obj) : Dice (w.alloc o) p A n c := d.next ((Below.refl _ _).alloc (Nat.le_refl _) _)

def oddCells : Array Value := #[.int .i64 (-1), .int .i64 0, .int .i64 1, .int .i64 2147483648, .int .i64 (-2147483648), .int .i64 1099511627776, .int .i64 4611686018427387904, .int .i64 (-4611686018427387904), .int .i64 9223372036854775807, .int .i64 (-9223372036854775808)]
theorem oddCells_at (k : Nat) (h : k < 10) : ∃ y : Int, oddCells[k]? = some (.int .i64 y) := by
  match k, h with
  | 0, _ => exact ⟨_, rfl⟩
  | 1, _ => exact ⟨_, rfl⟩
  | 2, _ => exact ⟨_, rfl⟩
  | 3, _ => exact ⟨_, rfl⟩
  | 4, _ => exact ⟨_, rfl⟩
  | 5, _ => exact ⟨_, rfl⟩
  | 6, _ => exact ⟨_, rfl⟩
  | 7, _ => exact ⟨_, rfl⟩
  | 8, _ => exact ⟨_, rfl⟩
  | 9, _ => exact ⟨_, rfl⟩
set_option maxHeartbeats 1000000 in
theorem odd (p : Nat) (A : Option Addr) (n c : Nat) (w : World) (hd : Dice w p A n c) :
    Calls Try.prog 135 #[.pointer (some ⟨p, 0, none⟩)] w (AnsAny w p A n c) := by
  have hp := hd.lt
  have D := Lib.hid (fun o => below p A n c 10 (w.alloc o) (Dice.alloc hd o) (by omega) (by omega))
  clear hd
  go_enter Try.func135, Try.ntmps135
  go_wp2_with fail
  refine (D.out _).mono ?_
  rintro e w' ⟨x, rfl, h5, h6, hd, hg⟩
  obtain ⟨k, rfl⟩ := Int.eq_ofNat_of_zero_le h5
  obtain ⟨y, hy⟩ := oddCells_at k (by omega)
  have r0 : Row (w.alloc (.cells oddCells 2)) w.heap.size 2 oddCells := Row.new _ _ _
  have r1 : Row w' w.heap.size 2 oddCells := (hg.block w.heap.size r0.lt (fun e => by injection e; omega)).trans r0
  have c1 : w'.cell? ⟨w.heap.size, k, none⟩ = some (.int .i64 y) := (r1.cell k).trans hy
  have F : AnsAny w p A n c (.returned (.int .i64 y)) w' := ⟨y, rfl, hd, grown_trans (World.grownBy_alloc w _ _) hg⟩
  have HF := Lib.hid F
  have i1 : (k : Int) < 10 := by omega
  clear F hd hg r0 r1 hy D
  go_wp2
  go_ret
  exact HF.out
end Go.Proofs.Ytfkgiimcnlagmaa.dice
end

section
/-
  CONTRACTS: spec.l1DrawSig, spec.l1DrawSigAny: a drawn signature. Conditions: a drawing cursor ('Dice'). By an AI agent.
-/
namespace Go.Proofs.Ytfkgiimcnlagmaa.drawSig
open Go.RowKit Go.Proofs.Ytfkgiimcnlagmaa.base Go.Proofs.Ytfkgiimcnlagmaa.ints Go.Proofs.Ytfkgiimcnlagmaa.sig Go.Proofs.Ytfkgiimcnlagmaa.cursor Go.Proofs.Ytfkgiimcnlagmaa.marks Go.Proofs.Ytfkgiimcnlagmaa.app Go.Proofs.Ytfkgiimcnlagmaa.sym Go.Proofs.Ytfkgiimcnlagmaa.dice
set_option maxRecDepth 100000

/-- one number appended, at a step of a region that draws -/
theorem stepApp1 {w : World} {ops : Array Oper} {o : Oper} {a : Act} {K : Act → World → Prop} {Q : Exit → Act → World → Prop} {E : Prop} (hgd : o.guard = none) (s x : Operand)
    (ho : o.op = .call { callee := .builtin .append, args := #[s, x], argTypes := #[24, 24] })
    (base : Nat) (A : Option Addr) (n c : Nat) (xs : List Int) (hs : a.eval s = .slice A n c) (hown : Own w base (.slice A n c) xs)
    (g c2 : Nat) (y : Int) (hx : a.eval x = .slice (some ⟨g, 0, none⟩) 1 c2) (hy : w.cell? ⟨g, 0, none⟩ = some (.int .i64 y)) (hn : n ≤ 2097152) (hbase : base ≤ w.heap.size)
    (h : ∀ g' c' w', Own w' base (.slice (some ⟨g', 0, none⟩) (n + 1) c') (xs ++ [y]) → w.grownBy w' (blk A) → (blk A = some g' ∨ g' = w.heap.size) → g' < w'.heap.size → K (a.put o.dst (.slice (some ⟨g', 0, none⟩) (n + 1) c')) w') :
    if Region.wanted o (yielded ops a.tmps) = true then Oper.wp Try.prog o a w K Q else E := by
  obtain ⟨i0, hi, hz0, hz1, hz2⟩ := info_parts info_i64
  have hl : xs.length = n := by
    obtain ⟨A', c', e⟩ := hown.slice
    injection e with _ e _
    exact e.symm
  have hob : (Value.slice A n c).ownBlock = blk A := by cases A <;> rfl
  refine step_append_lies w hgd s x 24 ho base 2 i0 (.int .i64 0) 1 8 Try.underlying24 hi hz0 hz1 hz2 rfl (by decide) (.slice A n c) n (xs.map (Value.int .i64)) hs (by rw [← hl]; rw [← hl] at hown; exact hown)
    ⟨g, 0, none⟩ 1 c2 [.int .i64 y] hx rfl (fun j u hj => ?_) (fun u hu => ?_) (by omega) (by unfold maxLen; omega) (by omega) hbase w.heap.size rfl ?_
  · match j, hj with
    | 0, hj => simp at hj; subst hj; simpa [Addr.add] using hy
  · simp at hu; subst hu; rfl
  · intro g' c' w' hown' hg hat hlt
    have e : xs.map (Value.int .i64) ++ [.int .i64 y] = (xs ++ [y]).map (Value.int .i64) := by simp
    rw [e] at hown'
    rw [hob] at hg hat
    refine h g' c' w' ?_ hg hat hlt
    have hl2 : (xs ++ [y]).length = n + 1 := by simp [hl]
    unfold Own
    rw [hl2]
    exact hown'

/-- a drawn signature -/
def AnsSigD (w : World) (p : Nat) (A : Option Addr) (n c : Nat) (P : List Int → Prop) (e : Ending) (w' : World) : Prop :=
  ∃ O on oc xs, e = .returned (.agg #[.slice O on oc]) ∧ Own w' w.heap.size (.slice O on oc) xs ∧ P xs ∧ Dice w' p A n c ∧ w.grownBy w' (some p)
/-- a good one -/
def Good (xs : List Int) : Prop := 1 ≤ xs.length ∧ xs.length ≤ 4 ∧ ∀ j, j < xs.length → 0 ≤ xs.getD j 0 ∧ xs.getD j 0 ≤ 2

theorem good_snoc {xs : List Int} {x : Int} (h1 : 1 ≤ xs.length) (h2 : xs.length ≤ 3) (h : ∀ j, j < xs.length → 0 ≤ xs.getD j 0 ∧ xs.getD j 0 ≤ 2) (h0 : 0 ≤ x) (hx : x ≤ 2) : Good (xs ++ [x]) := by
  refine ⟨by simp, by simp; omega, fun j hj => ?_⟩
  by_cases e : j < xs.length
  · have := h j e
    simpa [List.getD, e, List.getElem?_append_left e] using this
  · have e2 : j = xs.length := by simp at hj; omega
    subst e2
    simp [List.getD]
    omega

/-- the state of a signature that is being drawn: result cell in block N, the variable in block v -/
structure SigSt (w : World) (p : Nat) (A : Option Addr) (n c : Nat) (v : Nat) (wr : World) (O : Option Addr) (on oc : Nat) (xs : List Int) : Prop where
  own : Own wr w.heap.size (.slice O on oc) xs
  rV : Row wr v 26 #[.slice O on oc]
  rN : Row wr w.heap.size 26 #[.slice none 0 0]
  nV : blk O ≠ some v
  nN : blk O ≠ some w.heap.size
  hv : w.heap.size < v
  d : Dice wr p A n c
  g : w.grownBy wr (some p)
  hp : p < w.heap.size

theorem row_grown {w w' : World} {g : Nat} {t : TypeId} {cs : Array Value} {r : Option Nat} (h : Row w g t cs) (hg : w.grownBy w' r) (hr : r ≠ some g) : Row w' g t cs := Row.away h hg hr
theorem Own.away {w w' : World} {base : Nat} {O : Option Addr} {on oc : Nat} {xs : List Int} {r : Option Nat} (h : Own w base (.slice O on oc) xs) (hg : w.grownBy w' r) (hr : ∀ k, r = some k → k < base) : Own w' base (.slice O on oc) xs := Own.far h hg hr

section
variable {w : World} {p : Nat} {A : Option Addr} {n c v : Nat} {wr : World} {O : Option Addr} {on oc : Nat} {xs : List Int}
/-- behind a draw from the dice -/
theorem SigSt.dice {w' : World} (s : SigSt w p A n c v wr O on oc xs) (d : Dice w' p A n c) (hg : wr.grownBy w' (some p)) : SigSt w p A n c v w' O on oc xs :=
  ⟨Own.far s.own hg (fun k hk => by injection hk; have := s.hp; omega), Row.away s.rV hg (fun e => by injection e; have := s.hp; have := s.hv; omega), Row.away s.rN hg (fun e => by injection e; have := s.hp; omega), s.nV, s.nN, s.hv, d, grown_trans s.g hg, s.hp⟩
theorem SigSt.alloc (s : SigSt w p A n c v wr O on oc xs) (o : Obj) : SigSt w p A n c v (wr.alloc o) O on oc xs :=
  ⟨Own.alloc s.own o, s.rV.alloc o, s.rN.alloc o, s.nV, s.nN, s.hv, s.d.alloc o, grown_trans s.g (World.grownBy_alloc wr o _), s.hp⟩
theorem SigSt.drew (s : SigSt w p A n c v wr O on oc xs) : SigSt w p A n c v wr.drew O on oc xs :=
  ⟨Own.drew s.own, s.rV.drew, s.rN.drew, s.nV, s.nN, s.hv, s.d.drewN 1, grown_drewN s.g 1, s.hp⟩
/-- a new slice stored into the variable -/
theorem SigSt.put {w' : World} {O' : Option Addr} {on' oc' : Nat} {ys : List Int} (s : SigSt w p A n c v wr O on oc xs) (ho : Own w' w.heap.size (.slice O' on' oc') ys) (hg : wr.grownBy w' (blk O)) (hat : blk O' = blk O ∨ blk O' = some wr.heap.size) (hO : ∀ k, blk O = some k → w.heap.size ≤ k) :
    SigSt w p A n c v (w'.setCell ⟨v, 0, none⟩ (.slice O' on' oc')) O' on' oc' ys := by
  have hpk : ∀ k, blk O = some k → p + 1 ≤ k := fun k hk => by have := hO k hk; have := s.hp; omega
  have zw := s.rV.lt
  have zn := s.rN.lt
  have nV' : blk O' ≠ some v := by
    rcases hat with h | h
    · rw [h]; exact s.nV
    · rw [h]; intro e; injection e; omega
  have nN' : blk O' ≠ some w.heap.size := by
    rcases hat with h | h
    · rw [h]; exact s.nN
    · rw [h]; intro e; injection e; omega
  have r1 := Row.away s.rV hg s.nV
  have r2 := Row.away s.rN hg s.nN
  have b1 : Below (p + 1) wr w' := (Below.refl _ _).grown hg (by have := s.hp; omega) hpk
  have b0 : Below w.heap.size wr w' := (Below.refl _ _).grown hg (by have := s.g.size; omega) hO
  refine ⟨?_, r1.put 0 _, r2.far (p := ⟨v, 0, none⟩) (by have := s.hv; simp; omega) _, nV', nN', s.hv, ?_, ?_, s.hp⟩
  · have hk : w'.grownBy (w'.setCell ⟨v, 0, none⟩ (.slice O' on' oc')) (some v) := grown_put (World.grownBy.refl _ _) 0 _
    refine World.ownsRow.kept ho hk ?_
    cases O' with
    | none => exact .inl rfl
    | some a => exact .inr (fun e => nV' (by simpa [Value.ownBlock, blk] using e))
  · have d1 := s.d.keep b1
    obtain ⟨i, h, d1⟩ := d1
    have hvp : p < v := by have := s.hp; have := s.hv; omega
    exact ⟨i, h, d1.row.far (p := ⟨v, 0, none⟩) (by simp; omega) _, d1.le, d1.s.keep fun q hq => World.cell?_setCell_other w' _ q _ (fun e => by subst e; have hq : v < p := hq; omega), d1.hn⟩
  · refine ⟨b0.os.trans s.g.os, b0.tape.trans s.g.tape, b0.output.trans s.g.output, by have := s.g.size; have := b0.size; simp only [World.size_setCell]; omega, fun k hk hne => ?_⟩
    rw [Below.heap_setCell _ _ _ _ (by have := s.hv; intro e; have e : k = v := e; omega), b0.block k hk]
    exact s.g.block k hk hne
/-- the result -/
theorem SigSt.result {P : List Int → Prop} (s : SigSt w p A n c v wr O on oc xs) (hP : P xs) (hO : blk O ≠ some w.heap.size) : AnsSigD w p A n c P (.returned (.agg #[.slice O on oc])) (wr.setCell ⟨w.heap.size, 0, none⟩ (.slice O on oc)) := by
  refine ⟨O, on, oc, xs, rfl, ?_, hP, ?_, ?_⟩
  · have hk : wr.grownBy (wr.setCell ⟨w.heap.size, 0, none⟩ (.slice O on oc)) (some w.heap.size) := grown_put (World.grownBy.refl _ _) 0 _
    refine World.ownsRow.kept s.own hk ?_
    cases O with
    | none => exact .inl rfl
    | some a => exact .inr (fun e => hO (by simpa [Value.ownBlock, blk] using e))
  · obtain ⟨i, h, d1⟩ := s.d
    have hp := s.hp
    exact ⟨i, h, d1.row.far (p := ⟨w.heap.size, 0, none⟩) (by simp; omega) _, d1.le, d1.s.keep fun q hq => World.cell?_setCell_other wr _ q _ (fun e => by subst e; have hq : w.heap.size < p := hq; omega), d1.hn⟩
  · refine ⟨s.g.os, s.g.tape, s.g.output, by simpa using s.g.size, fun k hk hne => ?_⟩
    rw [Below.heap_setCell _ _ _ _ (by intro e; have e : k = w.heap.size := e; omega)]
    exact s.g.block k hk hne
end

def HeadSigD (w : World) (p : Nat) (A : Option Addr) (n c v : Nat) (i : Value) (wr : World) : Prop :=
  ∃ (k : Nat) (O : Option Addr) (on oc : Nat) (xs : List Int), i = .int .i64 k ∧ SigSt w p A n c v wr O on oc xs ∧ 1 ≤ xs.length ∧ xs.length + k ≤ 4 ∧ ∀ j, j < xs.length → 0 ≤ xs.getD j 0 ∧ xs.getD j 0 ≤ 2

set_option maxHeartbeats 4000000 in
theorem drawSig (p : Nat) (A : Option Addr) (n c : Nat) (w : World) (hd : Dice w p A n c) :
    Calls Try.prog 131 #[.pointer (some ⟨p, 0, none⟩)] w (AnsSigD w p A n c Good) := by
  have hp := hd.lt
  obtain ⟨W, hW⟩ : ∃ W, W = ((w.alloc (.cells #[.slice none 0 0] 26)).alloc (.cells #[.int .i64 2, .int .i64 1, .int .i64 0] 2)).alloc (.cells #[.slice (some ⟨w.heap.size + 1, 0, none⟩) 3 3] 26) := ⟨_, rfl⟩
  have S0 : SigSt w p A n c (w.heap.size + 1 + 1) W (some ⟨w.heap.size + 1, 0, none⟩) 3 3 [2, 1, 0] := by
    rw [hW]
    have r1 : Row (((w.alloc (.cells #[.slice none 0 0] 26)).alloc (.cells #[.int .i64 2, .int .i64 1, .int .i64 0] 2)).alloc (.cells #[.slice (some ⟨w.heap.size + 1, 0, none⟩) 3 3] 26)) (w.heap.size + 1) 2 #[.int .i64 2, .int .i64 1, .int .i64 0] := by
      have := (Row.new (w.alloc (.cells #[.slice none 0 0] 26)) 2 #[.int .i64 2, .int .i64 1, .int .i64 0]).alloc (.cells #[.slice (some ⟨w.heap.size + 1, 0, none⟩) 3 3] 26)
      simpa using this
    refine ⟨Own.of_row r1 rfl rfl (Nat.le_refl _) (by omega) (by omega) (fun j hj => ?_), ?_, ((Row.new _ _ _).alloc _).alloc _, by simp [blk], by simp [blk], by omega, ((hd.alloc _).alloc _).alloc _, grown_trans (grown_trans (World.grownBy_alloc _ _ _) (World.grownBy_alloc _ _ _)) (World.grownBy_alloc _ _ _), hp⟩
    · match j, hj with
      | 0, _ => rfl
      | 1, _ => rfl
      | 2, _ => rfl
    · have := Row.new ((w.alloc (.cells #[.slice none 0 0] 26)).alloc (.cells #[.int .i64 2, .int .i64 1, .int .i64 0] 2)) 26 #[.slice (some ⟨w.heap.size + 1, 0, none⟩) 3 3]
      simpa using this
  have HW := Lib.hid hW
  clear hW
  have L := Lib.hid (once p A n c 4 W S0.d (by omega) (by omega))
  clear hd
  go_enter Try.func131, Try.ntmps131
  go_wp2_with fail
  rw [← HW.out]
  refine L.out.mono ?_
  rintro e w1 ⟨b, rfl, d1, g1⟩
  have S1 := S0.dice d1 g1
  have cV : w1.cell? ⟨w.heap.size + 1 + 1, 0, none⟩ = some (.slice (some ⟨w.heap.size + 1, 0, none⟩) 3 3) := S1.rV.cell 0
  have cN : w1.cell? ⟨w.heap.size, 0, none⟩ = some (.slice none 0 0) := S1.rN.cell 0
  have fV : w1.frozen? ⟨w.heap.size + 1 + 1, 0, none⟩ = false := S1.rV.free 0
  have fN : w1.frozen? ⟨w.heap.size, 0, none⟩ = false := S1.rN.free 0
  clear d1 g1 S0 L
  cases b with
  | false =>
    have F := Lib.hid (S1.result (P := Good) ⟨by decide, by decide, fun j hj => by match j, hj with | 0, _ => decide | 1, _ => decide | 2, _ => decide⟩ S1.nN)
    clear S1
    go_wp2
    exact bodyPost_ret (v := .agg #[.slice (some ⟨w.heap.size + 1, 0, none⟩) 3 3]) (by simp [results, Try.results131, go_sem, cN]) rfl F.out
  | true =>
    have zV : w.heap.size + 1 + 1 < w1.heap.size := S1.rV.lt
    obtain ⟨W2, hW2⟩ : ∃ W2, W2 = (w1.setCell ⟨w.heap.size + 1 + 1, 0, none⟩ (.slice (some ⟨w1.heap.size, 0, none⟩) 1 1)).alloc (.cells #[.int .i64 0] 2) := ⟨_, rfl⟩
    have S2 : SigSt w p A n c (w.heap.size + 1 + 1) W2 (some ⟨w1.heap.size, 0, none⟩) 1 1 [0] := by
      rw [hW2, ← World.setCell_alloc_past (hn := zV)]
      exact S1.put (Own.of_row (Row.new _ _ _) rfl rfl (Nat.le_refl _) (by omega) (by omega) (fun j hj => by match j, hj with | 0, _ => rfl)) (World.grownBy_alloc _ _ _) (.inr rfl) (fun k hk => by have hk : w.heap.size + 1 = k := Option.some.inj hk; omega)
    have HW2 := Lib.hid hW2
    have L2 := Lib.hid (below p A n c 4 W2 S2.d (by omega) (by omega))
    clear hW2 S1
    go_wp2_with fail
    rw [← HW2.out]
    refine L2.out.mono ?_
    rintro e w3 ⟨x, rfl, x0, x1, d3, g3⟩
    obtain ⟨k0, rfl⟩ := Int.eq_ofNat_of_zero_le x0
    have S3 := S2.dice d3 g3
    have H0 : HeadSigD w p A n c (w.heap.size + 1 + 1) (.int .i64 (k0 : Int)) w3 := ⟨k0, _, _, _, _, rfl, S3, by decide, by simp; omega, fun j hj => by match j, hj with | 0, _ => decide⟩
    have HH := Lib.hid H0
    clear H0 S3 S2 d3 g3 L2 cV cN fV fN
    go_wp2_with fail
    go_loopw [4] (fun i wr => HeadSigD w p A n c (w.heap.size + 1 + 1) i wr) (fun i _ => (intOf i).toNat)
    case atStart => exact HH.out
    case round =>
      obtain ⟨k, O, on, oc, xs, rfl, S, hx1, hx2, hxs⟩ := hrel
      clear HH
      have cV : wr.cell? ⟨w.heap.size + 1 + 1, 0, none⟩ = some (.slice O on oc) := S.rV.cell 0
      have cN : wr.cell? ⟨w.heap.size, 0, none⟩ = some (.slice none 0 0) := S.rN.cell 0
      have fV : wr.frozen? ⟨w.heap.size + 1 + 1, 0, none⟩ = false := S.rV.free 0
      have fN : wr.frozen? ⟨w.heap.size, 0, none⟩ = false := S.rN.free 0
      have zV : w.heap.size + 1 + 1 < wr.heap.size := S.rV.lt
      by_cases hk : k = 0
      · subst hk
        have F := Lib.hid (S.result (P := Good) ⟨hx1, by omega, hxs⟩ S.nN)
        clear S
        go_wp2
        exact bodyPost_ret (v := .agg #[.slice O on oc]) (by simp [results, Try.results131, go_sem, cN]) rfl F.out
      · have k1 : (0 : Int) < (k : Int) := by omega
        have S' := S.drew
        clear S
        go_wp2_with fail
        go_region_law (first
          | (refine stepApp1 rfl _ _ rfl w.heap.size O on oc xs (by simp [Act.eval, Act.put]) (Own.alloc S5.own _) w5.heap.size 1 x (by simp [Act.eval, Act.put]) ((Row.new _ _ _).cell 0) (by omega) (by simp; omega) ?_; intro O' oc' w6 ho6 hg6 hat6 hlt6; have r6 := Row.away (S5.alloc _).rV hg6 S5.nV; have cV6 : w6.cell? ⟨w.heap.size + 1 + 1, 0, none⟩ = some (.slice O on oc) := r6.cell 0; have fV6 : w6.frozen? ⟨w.heap.size + 1 + 1, 0, none⟩ = false := r6.free 0)
          | (go_simp; go_at_call 109; refine (below p A n c 3 _ S'.d (by omega) (by omega)).mono ?_; rintro e w5 ⟨x, rfl, x0, x1, d5, g5⟩; have S5 := S'.dice d5 g5; have cV5 : w5.cell? ⟨w.heap.size + 1 + 1, 0, none⟩ = some (.slice O on oc) := S5.rV.cell 0; have zV5 : w.heap.size + 1 + 1 < w5.heap.size := S5.rV.lt; have hon : on ≤ 4 := by have := Own.len S5.own; omega))
        all_goals
          have S6 := SigSt.put (S5.alloc (.cells #[.int .i64 x] 2)) ho6 hg6 (hat6.elim (fun h => .inl h.symm) (fun h => .inr (by rw [h]; rfl))) (Own.ge S5.own)
          have G := good_snoc hx1 (by omega) hxs x0 (by omega)
          have F : HeadSigD w p A n c (w.heap.size + 1 + 1) (.int .i64 ((k : Int) - 1)) (w6.setCell ⟨w.heap.size + 1 + 1, 0, none⟩ (.slice (some ⟨O', 0, none⟩) (on + 1) oc')) :=
            ⟨k - 1, _, _, _, _, congrArg (Value.int .i64) (by omega), S6, G.1, by simp; omega, G.2.2⟩
          have HF := Lib.hid F
          clear F G S6 S5 S' ho6 hg6 hat6 hlt6 r6 cV6 fV6 d5 g5 cV5
          go_wp2
          go_roundw
          case rel => exact HF.out
          case measure => simp [intOf]; omega

/-- a short one -/
def Short (xs : List Int) : Prop := xs.length ≤ 9

theorem Own.blk_lt {w : World} {base : Nat} {O : Option Addr} {on oc : Nat} {xs : List Int} (h : Own w base (.slice O on oc) xs) : ∀ k, blk O = some k → k < w.heap.size := fun k hk => by
  refine (World.ownsRow.lt h k ?_).2
  cases O with
  | none => cases hk
  | some a => exact hk

set_option maxHeartbeats 4000000 in
theorem drawSigAny (p : Nat) (A : Option Addr) (n c : Nat) (w : World) (hd : Dice w p A n c) :
    Calls Try.prog 111 #[.pointer (some ⟨p, 0, none⟩)] w (AnsSigD w p A n c Short) := by
  have hp := hd.lt
  obtain ⟨W, hW⟩ : ∃ W, W = w.alloc (.cells #[.slice none 0 0] 26) := ⟨_, rfl⟩
  have rN : Row W w.heap.size 26 #[.slice none 0 0] := by rw [hW]; exact Row.new _ _ _
  have g0 : w.grownBy W (some p) := by rw [hW]; exact World.grownBy_alloc _ _ _
  have d0 : Dice W p A n c := by rw [hW]; exact hd.alloc _
  have zW : W.heap.size = w.heap.size + 1 := by rw [hW]; simp
  have HW := Lib.hid hW
  have L := Lib.hid (drawSig p A n c W d0)
  clear hW hd d0
  go_enter Try.func111, Try.ntmps111
  go_wp2_with fail
  rw [← HW.out]
  refine L.out.mono ?_
  rintro e w2 ⟨O, on, oc, xs, rfl, ho, hgood, d2, g2⟩
  rw [zW] at ho
  have rN2 : Row w2 w.heap.size 26 #[.slice none 0 0] := Row.away rN g2 (fun e => by injection e; omega)
  have zN := rN2.lt
  have hxs := hgood.2.1
  have hx1 := hgood.1
  obtain ⟨W3, hW3⟩ : ∃ W3, W3 = w2.alloc (.cells #[.slice O on oc] 26) := ⟨_, rfl⟩
  have S3 : SigSt w p A n c w2.heap.size W3 O on oc xs := by
    rw [hW3]
    refine ⟨Own.alloc (Own.lower ho (Nat.le_succ _)) _, Row.new _ _ _, rN2.alloc _, fun e => ?_, fun e => ?_, zN, d2.alloc _, grown_trans (grown_trans g0 g2) (World.grownBy_alloc _ _ _), hp⟩
    · have := Own.blk_lt ho _ e; omega
    · have := Own.ge ho _ e; omega
  have HW3 := Lib.hid hW3
  have L3 := Lib.hid (once p A n c 15 W3 S3.d (by omega) (by omega))
  obtain ⟨v, hv⟩ : ∃ v, w2.heap.size = v := ⟨_, rfl⟩
  have HV := Lib.hid hv
  clear ho hgood d2 g2 rN rN2 g0 L hW3 hv
  go_wp2_with fail
  rw [← HW3.out]
  refine L3.out.mono ?_
  rintro e w4 ⟨b, rfl, d4, g4⟩
  have S4 := S3.dice d4 g4
  rw [HV.out] at S4 ⊢
  have cV : w4.cell? ⟨v, 0, none⟩ = some (.slice O on oc) := S4.rV.cell 0
  have cN : w4.cell? ⟨w.heap.size, 0, none⟩ = some (.slice none 0 0) := S4.rN.cell 0
  have fN : w4.frozen? ⟨w.heap.size, 0, none⟩ = false := S4.rN.free 0
  have zV : v < w4.heap.size := S4.rV.lt
  have zNv := S4.hv
  clear d4 g4 S3 L3
  cases b with
  | false =>
    have F := Lib.hid (S4.result (P := Short) (by unfold Short; omega) S4.nN)
    clear S4
    go_wp2
    exact bodyPost_ret (v := .agg #[.slice O on oc]) (by simp [results, Try.results111, go_sem, cN]) rfl F.out
  | true =>
    have L4 := Lib.hid (below p A n c 3 w4 S4.d (by omega) (by omega))
    go_wp2_with fail
    refine L4.out.mono ?_
    rintro e w5 ⟨x, rfl, x0, x1, d5, g5⟩
    have S5 := S4.dice d5 g5
    replace cV : w5.cell? ⟨v, 0, none⟩ = some (.slice O on oc) := S5.rV.cell 0
    replace cN : w5.cell? ⟨w.heap.size, 0, none⟩ = some (.slice none 0 0) := S5.rN.cell 0
    replace fN : w5.frozen? ⟨w.heap.size, 0, none⟩ = false := S5.rN.free 0
    have fV : w5.frozen? ⟨v, 0, none⟩ = false := S5.rV.free 0
    replace zV : v < w5.heap.size := S5.rV.lt
    clear d5 g5 S4 L4
    by_cases hx0 : x = 0
    · subst hx0
      have S6 := S5.drew
      clear S5 x0 x1
      go_wp2_with fail
      go_region_law (first
        | (refine stepApp1 rfl _ _ rfl w.heap.size O on oc xs (by simp [Act.eval, Act.put]) (Own.alloc S7.own _) w7.heap.size 1 y (by simp [Act.eval, Act.put]) ((Row.new _ _ _).cell 0) (by omega) (by simp; omega) ?_; intro O' oc' w8 ho8 hg8 hat8 hlt8; have r8 := Row.away (S7.alloc _).rV hg8 S7.nV; have cV8 : w8.cell? ⟨v, 0, none⟩ = some (.slice O on oc) := r8.cell 0; have fV8 : w8.frozen? ⟨v, 0, none⟩ = false := r8.free 0)
        | (go_simp; go_at_call 134; refine (fromTo p A n c (-1) 4 _ S6.d (by omega) (by omega) (by omega) (by omega)).mono ?_; rintro e w7 ⟨y, rfl, y0, y1, d7, g7⟩; have S7 := S6.dice d7 g7; have cV7 : w7.cell? ⟨v, 0, none⟩ = some (.slice O on oc) := S7.rV.cell 0; have zV7 : v < w7.heap.size := S7.rV.lt; have hon : on ≤ 4 := by have := Own.len S7.own; omega))
      all_goals
        have S8 := SigSt.put (S7.alloc (.cells #[.int .i64 y] 2)) ho8 hg8 (hat8.elim (fun h => .inl h.symm) (fun h => .inr (by rw [h]; rfl))) (Own.ge S7.own)
        have F := Lib.hid (S8.result (P := Short) (by unfold Short; simp; omega) S8.nN)
        have cN8 : (w8.setCell ⟨v, 0, none⟩ (.slice (some ⟨O', 0, none⟩) (on + 1) oc')).cell? ⟨w.heap.size, 0, none⟩ = some (.slice none 0 0) := S8.rN.cell 0
        have fN8 : (w8.setCell ⟨v, 0, none⟩ (.slice (some ⟨O', 0, none⟩) (on + 1) oc')).frozen? ⟨w.heap.size, 0, none⟩ = false := S8.rN.free 0
        clear S8 S7 S6 ho8 hg8 hat8 hlt8 r8 d7 g7 cV7
        go_wp2
        exact bodyPost_ret (v := .agg #[.slice (some ⟨O', 0, none⟩) (on + 1) oc']) (by simp [results, Try.results111, go_sem, cN8]) rfl F.out
    · by_cases hx1' : x = 1
      · subst hx1'
        have S6 : SigSt w p A n c v ((w5.alloc (.cells #[] 2)).setCell ⟨v, 0, none⟩ (.slice (some ⟨w5.heap.size, 0, none⟩) 0 0)) (some ⟨w5.heap.size, 0, none⟩) 0 0 [] :=
          S5.put (own_empty w5 w.heap.size (by omega)) (World.grownBy_alloc _ _ _) (.inr rfl) (Own.ge S5.own)
        have F := S6.result (P := Short) (by unfold Short; simp) S6.nN
        rw [World.setCell_alloc_past (hn := zV), World.setCell_alloc_past (hn := by simp; omega)] at F
        have HF := Lib.hid F
        have zz : w.heap.size < w5.heap.size := by omega
        have znv : ¬ w.heap.size = v := by omega
        have zvn : ¬ v = w.heap.size := by omega
        clear F S6 S5 x0 x1 hx0
        go_wp2
        exact bodyPost_ret (v := .agg #[.slice (some ⟨w5.heap.size, 0, none⟩) 0 0]) (by simp [results, Try.results111, go_sem, cN, zz, znv, zvn]) rfl HF.out
      · have e2 : x = 2 := by omega
        subst e2
        have L6 := Lib.hid (below p A n c 2 w5 S5.d (by omega) (by omega))
        clear x0 x1 hx0 hx1'
        go_wp2_with fail
        refine L6.out.mono ?_
        rintro e w7 ⟨y, rfl, y0, y1, d7, g7⟩
        have S7 := S5.dice d7 g7
        replace cV : w7.cell? ⟨v, 0, none⟩ = some (.slice O on oc) := S7.rV.cell 0
        replace cN : w7.cell? ⟨w.heap.size, 0, none⟩ = some (.slice none 0 0) := S7.rN.cell 0
        replace fN : w7.frozen? ⟨w.heap.size, 0, none⟩ = false := S7.rN.free 0
        replace fV : w7.frozen? ⟨v, 0, none⟩ = false := S7.rV.free 0
        replace zV : v < w7.heap.size := S7.rV.lt
        obtain ⟨k, rfl⟩ := Int.eq_ofNat_of_zero_le y0
        have hmk : ∀ W : World, (Instr.makeSlice 24 (.int .i64 (8 + (k : Int))) (.int .i64 (8 + (k : Int)))).run Try.prog W = .ok (.slice (some ⟨W.heap.size, 0, none⟩) (8 + k) (8 + k)) (W.alloc (.cells (madeCells #[.int .i64 0] (8 + k)) 2)) := fun W => by
          have := run_make_i64 (8 + k) (by omega) W
          rwa [show ((8 + k : Nat) : Int) = 8 + (k : Int) by simp] at this
        have hcells : ∀ j, j < 8 + k → (madeCells #[Value.int .i64 0] (8 + k))[j]? = some (.int .i64 ((List.replicate (8 + k) (0 : Int)).getD j 0)) := fun j hj => by
          simp [madeCells, List.getD, hj, Nat.mod_one]
        have S8 : SigSt w p A n c v ((w7.alloc (.cells (madeCells #[.int .i64 0] (8 + k)) 2)).setCell ⟨v, 0, none⟩ (.slice (some ⟨w7.heap.size, 0, none⟩) (8 + k) (8 + k))) (some ⟨w7.heap.size, 0, none⟩) (8 + k) (8 + k) (List.replicate (8 + k) 0) :=
          S7.put (Own.of_row (Row.new _ _ _) (by simp) (size_madeCells _ _) (Nat.le_refl _) (by omega) (by omega) hcells) (World.grownBy_alloc _ _ _) (.inr rfl) (Own.ge S7.own)
        have F := S8.result (P := Short) (by unfold Short; simp; omega) S8.nN
        rw [World.setCell_alloc_past (hn := zV), World.setCell_alloc_past (hn := by simp; omega)] at F
        have HF := Lib.hid F
        have zz : w.heap.size < w7.heap.size := by omega
        have znv : ¬ w.heap.size = v := by omega
        have zvn : ¬ v = w.heap.size := by omega
        clear F S8 S7 S5 d7 g7 hcells L6
        go_wp2
        exact bodyPost_ret (v := .agg #[.slice (some ⟨w7.heap.size, 0, none⟩) (8 + k) (8 + k)]) (by simp [results, Try.results111, go_sem, cN, zz, znv, zvn]) rfl HF.out
end Go.Proofs.Ytfkgiimcnlagmaa.drawSig
end

section
/-
  CONTRACT: spec.l1DrawTerm draws a list of numbers. Conditions: a drawing cursor ('Dice'), arities from 0 to 3. By an AI agent.
-/
namespace Go.Proofs.Ytfkgiimcnlagmaa.drawTerm
open Go.RowKit Go.Proofs.Ytfkgiimcnlagmaa.base Go.Proofs.Ytfkgiimcnlagmaa.ints Go.Proofs.Ytfkgiimcnlagmaa.sig Go.Proofs.Ytfkgiimcnlagmaa.term Go.Proofs.Ytfkgiimcnlagmaa.cursor Go.Proofs.Ytfkgiimcnlagmaa.marks Go.Proofs.Ytfkgiimcnlagmaa.app Go.Proofs.Ytfkgiimcnlagmaa.sym Go.Proofs.Ytfkgiimcnlagmaa.dice Go.Proofs.Ytfkgiimcnlagmaa.drawSig
set_option maxRecDepth 100000

/-- the slice value '.slice A n c' reads as xs, in a block below B that is not p -/
def Rd (w : World) (p B : Nat) (A : Option Addr) (n : Nat) (xs : List Int) : Prop :=
  xs.length = n ∧ (0 < n → ∃ b off, A = some ⟨b, off, none⟩ ∧ b < B ∧ b ≠ p ∧ ∀ j, j < n → w.cell? ⟨b, off + j, none⟩ = some (.int .i64 (xs.getD j 0)))
theorem Rd.more {w : World} {p B B' : Nat} {A : Option Addr} {n : Nat} {xs : List Int} (h : Rd w p B A n xs) (hB : B ≤ B') : Rd w p B' A n xs :=
  ⟨h.1, fun hn => by obtain ⟨b, off, e, hb, hne, hc⟩ := h.2 hn; exact ⟨b, off, e, by omega, hne, hc⟩⟩
theorem Rd.keep {w w' : World} {p B : Nat} {A : Option Addr} {n : Nat} {xs : List Int} (h : Rd w p B A n xs) (hk : ∀ q : Addr, q.block < B → q.block ≠ p → w'.cell? q = w.cell? q) : Rd w' p B A n xs :=
  ⟨h.1, fun hn => by obtain ⟨b, off, e, hb, hne, hc⟩ := h.2 hn; exact ⟨b, off, e, hb, hne, fun j hj => (hk ⟨b, off + j, none⟩ hb hne).trans (hc j hj)⟩⟩
theorem Rd.grown {w w' : World} {p B : Nat} {A : Option Addr} {n : Nat} {xs : List Int} (h : Rd w p B A n xs) (hg : w.grownBy w' (some p)) (hB : B ≤ w.heap.size) : Rd w' p B A n xs :=
  h.keep fun q hq hne => World.cell?_of_block (hg.block q.block (by omega) (fun e => hne (by injection e)))
theorem Rd.below {w w' : World} {p B B' : Nat} {A : Option Addr} {n : Nat} {xs : List Int} (h : Rd w p B A n xs) (hb : Below B' w w') (hB : B ≤ B') : Rd w' p B A n xs :=
  h.keep fun q hq _ => hb.cell (by omega)
theorem Rd.seg {w : World} {p B : Nat} {A : Option Addr} {n : Nat} {xs : List Int} (h : Rd w p B A n xs) : Seg w B A n xs :=
  ⟨h.1, fun hn => by obtain ⟨b, off, e, hb, _, hc⟩ := h.2 hn; exact ⟨b, off, e, hb, hc⟩⟩
theorem Rd.of_own {w : World} {p base : Nat} {A : Option Addr} {n c : Nat} {xs : List Int} (h : Own w base (.slice A n c) xs) (hp : p < base) : Rd w p w.heap.size A n xs := by
  have hs := Own.seg h
  refine ⟨hs.1, fun hn => ?_⟩
  obtain ⟨b, off, e, hb, hc⟩ := hs.2 hn
  subst e
  exact ⟨b, off, rfl, hb, by have := Own.ge h b rfl; omega, hc⟩
theorem Own.none_cap {w : World} {base : Nat} {A : Option Addr} {n c : Nat} {xs : List Int} (h : Own w base (.slice A n c) xs) : A = none → c = 0 := by
  rintro rfl
  rcases h.form with ⟨e, _⟩ | ⟨g, c', cur, e, _⟩
  · injection e
  · injection e with e _ _; cases e

/-- what is known in the course of a draw -/
structure DT (w : World) (p : Nat) (A : Option Addr) (n c : Nat) (S : Option Addr) (sn sc : Nat) (sg : List Int) (wr : World) : Prop where
  d : Dice wr p A n c
  r : Row wr w.heap.size 26 #[.slice S sn sc]
  s : Rd wr p w.heap.size S sn sg
  g : w.grownBy wr (some p)
  hp : p < w.heap.size
section
variable {w : World} {p : Nat} {A : Option Addr} {n c : Nat} {S : Option Addr} {sn sc : Nat} {sg : List Int} {wr w' : World}
theorem DT.dice (t : DT w p A n c S sn sc sg wr) (d : Dice w' p A n c) (hg : wr.grownBy w' (some p)) : DT w p A n c S sn sc sg w' :=
  ⟨d, Row.away t.r hg (fun e => by injection e; have := t.hp; omega), t.s.grown hg t.g.size, grown_trans t.g hg, t.hp⟩
theorem DT.below (t : DT w p A n c S sn sc sg wr) (hb : Below (w.heap.size + 1) wr w') : DT w p A n c S sn sc sg w' :=
  ⟨t.d.keep (hb.mono (by have := t.hp; omega)), t.r.below hb (Nat.lt_succ_self _), t.s.below hb (Nat.le_succ _), ⟨hb.os.trans t.g.os, hb.tape.trans t.g.tape, hb.output.trans t.g.output, Nat.le_trans t.g.size hb.size, fun k hk hne => (hb.block k (by omega)).trans (t.g.block k hk hne)⟩, t.hp⟩
theorem DT.drew (t : DT w p A n c S sn sc sg wr) : DT w p A n c S sn sc sg wr.drew := ⟨t.d.drewN 1, t.r.drew, t.s, grown_drewN t.g 1, t.hp⟩
theorem DT.start (hd : Dice w p A n c) (hs : Rd w p w.heap.size S sn sg) : DT w p A n c S sn sc sg (w.alloc (.cells #[.slice S sn sc] 26)) :=
  ⟨hd.alloc _, Row.new _ _ _, hs.below ((Below.refl _ _).alloc (Nat.le_refl _) _) (Nat.le_refl _), World.grownBy_alloc _ _ _, hd.lt⟩
end

/-- a drawn list of at least one and at most L numbers -/
def AnsT (w : World) (p : Nat) (A : Option Addr) (n c L : Nat) (e : Ending) (w' : World) : Prop :=
  ∃ O on oc xs, e = .returned (.slice O on oc) ∧ Own w' w.heap.size (.slice O on oc) xs ∧ 1 ≤ on ∧ on ≤ L ∧ Dice w' p A n c ∧ w.grownBy w' (some p)
theorem leaf {w : World} {p : Nat} {A : Option Addr} {n c L : Nat} {S : Option Addr} {sn sc : Nat} {sg : List Int} {u : World} (t : DT w p A n c S sn sc sg u) (hL : 1 ≤ L) (y : Int) :
    AnsT w p A n c L (.returned (.slice (some ⟨u.heap.size, 0, none⟩) 1 1)) (u.alloc (.cells #[.int .i64 y] 2)) :=
  ⟨_, _, _, [y], rfl, Own.of_row (Row.new _ _ _) rfl rfl (Nat.le_refl _) (by omega) t.g.size (fun j hj => by match j, hj with | 0, _ => rfl), Nat.le_refl _, hL, t.d.alloc _, grown_trans t.g (World.grownBy_alloc _ _ _)⟩
def HeadT (w : World) (p : Nat) (A : Option Addr) (n c : Nat) (S : Option Addr) (sn sc : Nat) (sg : List Int) (M : Nat) (out k : Value) (wr : World) : Prop :=
  ∃ (q : Nat) (O : Option Addr) (on oc : Nat) (xs : List Int), k = .int .i64 q ∧ q ≤ 3 ∧ out = .slice O on oc ∧ Own wr (w.heap.size + 1) (.slice O on oc) xs ∧ 1 ≤ on ∧ on + q * M ≤ 1 + 3 * M ∧ DT w p A n c S sn sc sg wr

theorem one_le_four (f : Nat) : 1 ≤ 4 ^ f := Nat.one_le_pow _ _ (by omega)

set_option maxHeartbeats 4000000 in
theorem drawTerm (p : Nat) (A : Option Addr) (n c : Nat) (S : Option Addr) (sn sc : Nat) (sg : List Int) (vars : Int) (hs : Arities sg) (hn1 : 1 ≤ sn) (hn2 : sn ≤ 256) (hv0 : 1 ≤ vars) (hv1 : vars ≤ 256) : ∀ (f0 : Nat) (depth : Int) (w : World),
    Dice w p A n c → Rd w p w.heap.size S sn sg → f0 ≤ 4 → -1000 ≤ depth → depth ≤ (f0 : Int) + 1 →
    Calls Try.prog 114 #[.pointer (some ⟨p, 0, none⟩), .agg #[.slice S sn sc], .int .i64 depth, .int .i64 vars] w (AnsT w p A n c (4 ^ f0)) := by
  intro f0
  induction f0 with
  | zero =>
    intro depth w hd hr hf hlo hdep
    obtain ⟨LL, hLe⟩ : ∃ LL, 4 ^ 0 = LL := ⟨_, rfl⟩
    have hLL : 1 ≤ LL := by rw [← hLe]; exact one_le_four 0
    rw [hLe]
    clear hLe
    have T0 := DT.start (sc := sc) hd hr
    have hz : depth ≤ 1 := by omega
    obtain ⟨W, hW⟩ : ∃ W, W = w.alloc (.cells #[.slice S sn sc] 26) := ⟨_, rfl⟩
    rw [← hW] at T0
    have HW := Lib.hid hW
    clear hd hr hW
    go_enter Try.func114, Try.ntmps114
    go_wp2_with fail
    rw [← HW.out]
    have cS : W.cell? ⟨w.heap.size, 0, none⟩ = some (.slice S sn sc) := T0.r.cell 0
    go_wp2_with fail
    refine (once p A n c 2 _ T0.d (by omega) (by omega)).mono ?_
    rintro e u1 ⟨b, rfl, d1, g1⟩
    have T1 := T0.dice d1 g1
    clear d1 g1 cS T0
    cases b with
    | true =>
      go_wp2_with fail
      refine (below p A n c vars _ T1.d hv0 hv1).mono ?_
      rintro e u2 ⟨x, rfl, x0, x1, d2, g2⟩
      have F := Lib.hid (leaf (T1.dice d2 g2) hLL (-1 - x))
      clear T1 d2 g2
      go_wp2
      go_ret
      exact F.out
    | false =>
      have cS1 : u1.cell? ⟨w.heap.size, 0, none⟩ = some (.slice S sn sc) := T1.r.cell 0
      go_wp2_with fail
      go_loop [9] (fun i => ∃ k : Nat, k ≤ sn ∧ i = .int .i64 ((k : Int) - 1)) (fun i => (intOf i + 1).toNat)
      case atStart => exact ⟨sn, Nat.le_refl _, rfl⟩
      case round =>
        obtain ⟨k, hk, rfl⟩ := hrel
        by_cases hk0 : k = 0
        · subst hk0
          have F := Lib.hid (leaf T1 hLL (-1))
          clear T1
          go_wp2
          go_ret
          exact F.out
        · obtain ⟨k1, rfl⟩ : ∃ k1, k = k1 + 1 := ⟨k - 1, by omega⟩
          obtain ⟨b, off, y, rfl, hb, hy, ey⟩ := T1.s.seg.spot (show k1 < sn by omega)
          by_cases hy0 : y = 0
          · subst hy0
            have F := Lib.hid (leaf T1 hLL (k1 : Int))
            clear T1 ey
            go_wp2
            go_ret
            exact F.out
          · have e2 : (y == 0) = false := by simp [hy0]
            clear T1 ey
            go_wp2
            go_round
            case rel => exact ⟨k1, by omega, congrArg (Value.int .i64) (by omega)⟩
            case measure => first | (simp [intOf]; done) | (simp [intOf]; omega)
  | succ f ih =>
    intro depth w hd hr hf hlo hdep
    have IH := Lib.hid ih
    clear ih
    obtain ⟨M, hM⟩ : ∃ M, 4 ^ f = M := ⟨_, rfl⟩
    have hM1 : 1 ≤ M := by rw [← hM]; exact one_le_four f
    have hM2 : M ≤ 64 := by rw [← hM]; exact Nat.pow_le_pow_right (n := 4) (by omega) (show f ≤ 3 by omega)
    obtain ⟨LL, hLe⟩ : ∃ LL, 4 ^ (f + 1) = LL := ⟨_, rfl⟩
    have hLM : LL = 4 * M := by rw [← hLe, ← hM, Nat.pow_succ, Nat.mul_comm]
    have hLL : 1 ≤ LL := by omega
    rw [hLe]
    rw [hM] at IH
    clear hLe hM
    have HLM := Lib.hid hLM
    clear hLM
    have T0 := DT.start (sc := sc) hd hr
    obtain ⟨W, hW⟩ : ∃ W, W = w.alloc (.cells #[.slice S sn sc] 26) := ⟨_, rfl⟩
    rw [← hW] at T0
    have HW := Lib.hid hW
    clear hd hr hW
    by_cases hz : depth ≤ 1
    · go_enter Try.func114, Try.ntmps114
      go_wp2_with fail
      rw [← HW.out]
      have cS : W.cell? ⟨w.heap.size, 0, none⟩ = some (.slice S sn sc) := T0.r.cell 0
      go_wp2_with fail
      refine (once p A n c 2 _ T0.d (by omega) (by omega)).mono ?_
      rintro e u1 ⟨b, rfl, d1, g1⟩
      have T1 := T0.dice d1 g1
      clear d1 g1 cS T0
      cases b with
      | true =>
        go_wp2_with fail
        refine (below p A n c vars _ T1.d hv0 hv1).mono ?_
        rintro e u2 ⟨x, rfl, x0, x1, d2, g2⟩
        have F := Lib.hid (leaf (T1.dice d2 g2) hLL (-1 - x))
        clear T1 d2 g2
        go_wp2
        go_ret
        exact F.out
      | false =>
        have cS1 : u1.cell? ⟨w.heap.size, 0, none⟩ = some (.slice S sn sc) := T1.r.cell 0
        go_wp2_with fail
        go_loop [9] (fun i => ∃ k : Nat, k ≤ sn ∧ i = .int .i64 ((k : Int) - 1)) (fun i => (intOf i + 1).toNat)
        case atStart => exact ⟨sn, Nat.le_refl _, rfl⟩
        case round =>
          obtain ⟨k, hk, rfl⟩ := hrel
          by_cases hk0 : k = 0
          · subst hk0
            have F := Lib.hid (leaf T1 hLL (-1))
            clear T1
            go_wp2
            go_ret
            exact F.out
          · obtain ⟨k1, rfl⟩ : ∃ k1, k = k1 + 1 := ⟨k - 1, by omega⟩
            obtain ⟨b, off, y, rfl, hb, hy, ey⟩ := T1.s.seg.spot (show k1 < sn by omega)
            by_cases hy0 : y = 0
            · subst hy0
              have F := Lib.hid (leaf T1 hLL (k1 : Int))
              clear T1 ey
              go_wp2
              go_ret
              exact F.out
            · have e2 : (y == 0) = false := by simp [hy0]
              clear T1 ey
              go_wp2
              go_round
              case rel => exact ⟨k1, by omega, congrArg (Value.int .i64) (by omega)⟩
              case measure => first | (simp [intOf]; done) | (simp [intOf]; omega)
    · have hz1 : (1 : Int) < depth := by omega
      go_enter Try.func114, Try.ntmps114
      go_wp2_with fail
      rw [← HW.out]
      refine (once p A n c 4 _ T0.d (by omega) (by omega)).mono ?_
      rintro e u0 ⟨b, rfl, d0, g0⟩
      have T2 := T0.dice d0 g0
      clear d0 g0 T0
      cases b with
      | true =>
        have cS : u0.cell? ⟨w.heap.size, 0, none⟩ = some (.slice S sn sc) := T2.r.cell 0
        go_wp2_with fail
        refine (once p A n c 2 _ T2.d (by omega) (by omega)).mono ?_
        rintro e u1 ⟨b, rfl, d1, g1⟩
        have T1 := T2.dice d1 g1
        clear d1 g1 cS T2
        cases b with
        | true =>
          go_wp2_with fail
          refine (below p A n c vars _ T1.d hv0 hv1).mono ?_
          rintro e u2 ⟨x, rfl, x0, x1, d2, g2⟩
          have F := Lib.hid (leaf (T1.dice d2 g2) hLL (-1 - x))
          clear T1 d2 g2
          go_wp2
          go_ret
          exact F.out
        | false =>
          have cS1 : u1.cell? ⟨w.heap.size, 0, none⟩ = some (.slice S sn sc) := T1.r.cell 0
          go_wp2_with fail
          go_loop [9] (fun i => ∃ k : Nat, k ≤ sn ∧ i = .int .i64 ((k : Int) - 1)) (fun i => (intOf i + 1).toNat)
          case atStart => exact ⟨sn, Nat.le_refl _, rfl⟩
          case round =>
            obtain ⟨k, hk, rfl⟩ := hrel
            by_cases hk0 : k = 0
            · subst hk0
              have F := Lib.hid (leaf T1 hLL (-1))
              clear T1
              go_wp2
              go_ret
              exact F.out
            · obtain ⟨k1, rfl⟩ : ∃ k1, k = k1 + 1 := ⟨k - 1, by omega⟩
              obtain ⟨b, off, y, rfl, hb, hy, ey⟩ := T1.s.seg.spot (show k1 < sn by omega)
              by_cases hy0 : y = 0
              · subst hy0
                have F := Lib.hid (leaf T1 hLL (k1 : Int))
                clear T1 ey
                go_wp2
                go_ret
                exact F.out
              · have e2 : (y == 0) = false := by simp [hy0]
                clear T1 ey
                go_wp2
                go_round
                case rel => exact ⟨k1, by omega, congrArg (Value.int .i64) (by omega)⟩
                case measure => first | (simp [intOf]; done) | (simp [intOf]; omega)
      | false =>
        have cS : u0.cell? ⟨w.heap.size, 0, none⟩ = some (.slice S sn sc) := T2.r.cell 0
        go_wp2_with fail
        refine (below p A n c (sn : Int) _ T2.d (by omega) (by omega)).mono ?_
        rintro e u1 ⟨x, rfl, x0, x1, d1, g1⟩
        obtain ⟨k, rfl⟩ := Int.eq_ofNat_of_zero_le x0
        have T3 := T2.dice d1 g1
        have hks : k < sn := by omega
        have hsl := T3.s.1
        obtain ⟨b, off, y, rfl, hb, hy, ey⟩ := T3.s.seg.spot hks
        have hyb := hs k (by omega)
        rw [ey.out] at hyb
        obtain ⟨q, rfl⟩ := Int.eq_ofNat_of_zero_le hyb.1
        have hq3 : q ≤ 3 := by omega
        have T4 : DT w p A n c (some ⟨b, off, none⟩) sn sc sg (u1.alloc (.cells #[.int .i64 (k : Int)] 2)) := T3.below ((Below.refl _ _).alloc (by have := T3.r.lt; omega) _)
        have O4 : Own (u1.alloc (.cells #[.int .i64 (k : Int)] 2)) (w.heap.size + 1) (.slice (some ⟨u1.heap.size, 0, none⟩) 1 1) [(k : Int)] :=
          Own.of_row (Row.new _ _ _) rfl rfl (Nat.le_refl _) (by omega) (by have := T3.r.lt; omega) (fun j hj => by match j, hj with | 0, _ => rfl)
        have H0 : HeadT w p A n c (some ⟨b, off, none⟩) sn sc sg M (.slice (some ⟨u1.heap.size, 0, none⟩) 1 1) (.int .i64 (q : Int)) (u1.alloc (.cells #[.int .i64 (k : Int)] 2)) :=
          ⟨q, _, _, _, _, rfl, hq3, rfl, O4, Nat.le_refl _, by have := Nat.mul_le_mul_right M hq3; omega, T4⟩
        have HH := Lib.hid H0
        have cS1 : u1.cell? ⟨w.heap.size, 0, none⟩ = some (.slice (some ⟨b, off, none⟩) sn sc) := T3.r.cell 0
        have zN : w.heap.size < u1.heap.size := T3.r.lt
        have zb : b < u1.heap.size := by omega
        have i1 : (k : Int) < (sn : Int) := by omega
        clear H0 T4 O4 T3 T2 d1 g1 cS ey hsl hyb
        go_wp2_with fail
        go_loopw [11, 12] (fun out kk wr => HeadT w p A n c (some ⟨b, off, none⟩) sn sc sg M out kk wr) (fun _ kk _ => (intOf kk).toNat)
        case atStart => exact HH.out
        case round =>
          obtain ⟨q, O, on, oc, xs, rfl, hq3, rfl, ho, ho1, hoM, T⟩ := hrel
          clear HH
          have cS : wr.cell? ⟨w.heap.size, 0, none⟩ = some (.slice (some ⟨b, off, none⟩) sn sc) := T.r.cell 0
          cases q with
          | zero =>
            have F : AnsT w p A n c LL (.returned (.slice O on oc)) wr := ⟨O, on, oc, xs, rfl, Own.lower ho (Nat.le_succ _), ho1, by have := HLM.out; omega, T.d, T.g⟩
            have HF := Lib.hid F
            clear F T ho
            go_wp2
            go_ret
            exact HF.out
          | succ q =>
            have e0 : (0 : Int) < ((q + 1 : Nat) : Int) := by omega
            have hoM' : on + q * M + M ≤ 1 + 3 * M := by have e : (q + 1) * M = q * M + M := Nat.succ_mul q M; omega
            have hon : on ≤ 193 := by have := Nat.zero_le (q * M); omega
            go_wp2_with fail
            refine (IH.out (depth - 1) wr T.d (T.s.more T.g.size) (by omega) (by omega) (by omega)).mono ?_
            rintro e u2 ⟨O2, on2, oc2, ys, rfl, o2, h1, h2, d2, g2⟩
            have T2 := T.dice d2 g2
            have ho2 := Own.far ho g2 (fun k hk => by injection hk; have := T.hp; omega)
            have z2 := T2.r.lt
            clear ho T d2 g2 cS
            go_wp2_with (at_builtin; refine appAll rfl _ _ rfl (w.heap.size + 1) O on oc xs rfl ho2 O2 on2 oc2 u2.heap.size ys rfl (Own.seg o2) (Own.none_cap o2) (by omega) (by omega) (by omega) ?_; intro O3 oc3 u3 ho3 b3)
            have F : HeadT w p A n c (some ⟨b, off, none⟩) sn sc sg M (.slice O3 (on + on2) oc3) (.int .i64 (q : Int)) u3 := ⟨q, O3, on + on2, oc3, _, rfl, by omega, rfl, ho3, by omega, by omega, T2.below b3⟩
            have HF := Lib.hid F
            clear F ho3 b3 T2 ho2 o2
            go_wp2
            go_roundw
            case rel => first | exact HF.out | simpa using HF.out
            case measure => simp [intOf]
end Go.Proofs.Ytfkgiimcnlagmaa.drawTerm
end

section
/-
  CONTRACT: spec.l1DrawAny draws a term, bent sometimes. Conditions: a drawing cursor ('Dice'). By an AI agent.
-/
namespace Go.Proofs.Ytfkgiimcnlagmaa.drawAny
open Go.RowKit Go.Proofs.Ytfkgiimcnlagmaa.base Go.Proofs.Ytfkgiimcnlagmaa.ints Go.Proofs.Ytfkgiimcnlagmaa.sig Go.Proofs.Ytfkgiimcnlagmaa.term Go.Proofs.Ytfkgiimcnlagmaa.cursor Go.Proofs.Ytfkgiimcnlagmaa.termOk Go.Proofs.Ytfkgiimcnlagmaa.marks Go.Proofs.Ytfkgiimcnlagmaa.app Go.Proofs.Ytfkgiimcnlagmaa.sym Go.Proofs.Ytfkgiimcnlagmaa.dice Go.Proofs.Ytfkgiimcnlagmaa.drawSig Go.Proofs.Ytfkgiimcnlagmaa.drawTerm
set_option maxRecDepth 100000

/-- a drawn list of at most L numbers -/
def AnsR (w : World) (p : Nat) (A : Option Addr) (n c L : Nat) (e : Ending) (w' : World) : Prop :=
  ∃ O on oc xs, e = .returned (.slice O on oc) ∧ Rd w' p w'.heap.size O on xs ∧ on ≤ oc ∧ oc ≤ 9223372036854775807 ∧ (O = none → oc = 0) ∧ on ≤ L ∧ Dice w' p A n c ∧ w.grownBy w' (some p)

theorem Own.cap {w : World} {base : Nat} {O : Option Addr} {on oc : Nat} {xs : List Int} (h : Own w base (.slice O on oc) xs) : on ≤ oc ∧ oc ≤ 9223372036854775807 := by
  rcases h.2 with ⟨e, _⟩ | ⟨g, cap, cur, e, _, _, h1, h2, _⟩
  · injection e with _ e1 e2; omega
  · injection e with _ e1 e2
    have := Own.len h
    unfold maxLen at h2
    omega
theorem ansR_own {w w' : World} {p : Nat} {A : Option Addr} {n c L : Nat} {O : Option Addr} {on oc base : Nat} {xs : List Int} (h : Own w' base (.slice O on oc) xs) (hp : p < base) (hL : on ≤ L) (d : Dice w' p A n c) (g : w.grownBy w' (some p)) : AnsR w p A n c L (.returned (.slice O on oc)) w' :=
  ⟨O, on, oc, xs, rfl, Rd.of_own h hp, (Own.cap h).1, (Own.cap h).2, Own.none_cap h, hL, d, g⟩
/-- the same, in a block of its own -/
def AnsRN (w : World) (p : Nat) (A : Option Addr) (n c L : Nat) (e : Ending) (w' : World) : Prop :=
  ∃ O on oc xs, e = .returned (.slice O on oc) ∧ Rd w' p w'.heap.size O on xs ∧ on ≤ oc ∧ oc ≤ 9223372036854775807 ∧ (O = none → oc = 0) ∧ on ≤ L ∧ Dice w' p A n c ∧ w.grownBy w' (some p) ∧ ∀ k, blk O = some k → w.heap.size ≤ k
theorem ansRN_own {w w' : World} {p : Nat} {A : Option Addr} {n c L : Nat} {O : Option Addr} {on oc base : Nat} {xs : List Int} (h : Own w' base (.slice O on oc) xs) (hp : p < base) (hb : w.heap.size ≤ base) (hL : on ≤ L) (d : Dice w' p A n c) (g : w.grownBy w' (some p)) : AnsRN w p A n c L (.returned (.slice O on oc)) w' :=
  ⟨O, on, oc, xs, rfl, Rd.of_own h hp, (Own.cap h).1, (Own.cap h).2, Own.none_cap h, hL, d, g, fun k hk => Nat.le_trans hb (Own.ge h k hk)⟩
theorem Own.some_ {w : World} {base : Nat} {O : Option Addr} {on oc : Nat} {xs : List Int} (h : Own w base (.slice O on oc) xs) (h1 : 1 ≤ on) : ∃ g, O = some ⟨g, 0, none⟩ := by
  rcases h.2 with ⟨e, _⟩ | ⟨g, cap, cur, e, _⟩
  · injection e with _ e1 e2; omega
  · injection e with e _ _; exact ⟨g, e⟩
theorem Own.cellAt {w : World} {base g on oc : Nat} {xs : List Int} (h : Own w base (.slice (some ⟨g, 0, none⟩) on oc) xs) {k : Nat} (hk : k < on) : ∃ u, w.cell? ⟨g, k, none⟩ = some u := by
  have hl := Own.len h
  subst hl
  have := World.ownsRow.cellAt h k (by omega)
  exact ⟨_, this.trans (List.getElem?_eq_getElem (by simpa using hk))⟩
theorem Own.frozenAt {w : World} {base g on oc : Nat} {xs : List Int} (h : Own w base (.slice (some ⟨g, 0, none⟩) on oc) xs) (k : Nat) : w.frozen? ⟨g, k, none⟩ = false := by
  have hl := Own.len h
  subst hl
  exact World.ownsRow.frozenAt h k
theorem Own.put {w : World} {base g on oc : Nat} {xs : List Int} (h : Own w base (.slice (some ⟨g, 0, none⟩) on oc) xs) (k : Nat) (y : Int) : Own (w.setCell ⟨g, k, none⟩ (.int .i64 y)) base (.slice (some ⟨g, 0, none⟩) on oc) (xs.set k y) := by
  have hl := Own.len h
  subst hl
  have := World.ownsRow.stored h k (.int .i64 y)
  unfold Own
  rw [List.length_set, List.map_set]
  exact this.1
/-- the rest of a slice -/
theorem Rd.tail {w : World} {p B b off n : Nat} {xs : List Int} (h : Rd w p B (some ⟨b, off, none⟩) n xs) (h1 : 1 ≤ n) : Rd w p B (some ⟨b, off + 1, none⟩) (n - 1) (xs.drop 1) := by
  refine ⟨by have := h.1; simp; omega, fun hn => ?_⟩
  obtain ⟨b', off', e, hb, hne, hc⟩ := h.2 (by omega)
  injection e with e
  injection e with e1 e2
  subst e1 e2
  refine ⟨_, _, rfl, hb, hne, fun j hj => ?_⟩
  rw [Nat.add_assoc, hc (1 + j) (by omega)]
  simp [List.getD, Nat.add_comm]
theorem Rd.none_ {w : World} {p B : Nat} {O : Option Addr} : Rd w p B O 0 [] := ⟨rfl, fun h => absurd h (by omega)⟩

set_option maxHeartbeats 4000000 in
theorem drawAnyN (p : Nat) (A : Option Addr) (n c : Nat) (S : Option Addr) (sn sc : Nat) (sg : List Int) (w : World) (hd : Dice w p A n c) (hr : Rd w p w.heap.size S sn sg) (hsn : sn ≤ 1048576) :
    Calls Try.prog 110 #[.pointer (some ⟨p, 0, none⟩), .agg #[.slice S sn sc]] w (AnsRN w p A n c 65) := by
  have T0 := DT.start (sc := sc) hd hr
  obtain ⟨W, hW⟩ : ∃ W, W = w.alloc (.cells #[.slice S sn sc] 26) := ⟨_, rfl⟩
  rw [← hW] at T0
  have HW := Lib.hid hW
  clear hd hr hW
  have hN := T0.hp
  by_cases hs0 : sn = 0
  · subst hs0
    go_enter Try.func110, Try.ntmps110
    go_wp2_with fail
    rw [← HW.out]
    refine (fromTo p A n c (-2) 2 _ T0.d (by omega) (by omega) (by omega) (by omega)).mono ?_
    rintro e u1 ⟨x, rfl, x0, x1, d1, g1⟩
    obtain ⟨O, on, oc, xs, he, o1, h1, h2, d2, g2⟩ := leaf (L := 1) (T0.dice d1 g1) (Nat.le_refl _) x
    have F : AnsRN w p A n c 65 _ _ := ansRN_own o1 hN (Nat.le_refl _) (by omega) d2 g2
    rw [← he] at F
    have HF := Lib.hid F
    clear F he o1 d2 g2 T0 d1 g1
    go_wp2
    go_ret
    exact HF.out
  · have e0 : ((sn : Int) == 0) = false := by simp; omega
    have L := Lib.hid (specSigOk S sn sc sg W (T0.s.seg.more T0.g.size) hsn)
    cases hok : sigOkB sg with
    | false =>
      have HS := Lib.hid hok
      clear hok
      go_enter Try.func110, Try.ntmps110
      go_wp2_with fail
      rw [← HW.out]
      refine L.out.mono ?_
      rintro e u0 ⟨he, bb⟩
      rw [HS.out] at he
      subst he
      have T1 := T0.below (bb.mono (by have := T0.r.lt; omega))
      clear T0 bb L
      go_wp2_with fail
      refine (fromTo p A n c (-2) 2 _ T1.d (by omega) (by omega) (by omega) (by omega)).mono ?_
      rintro e u1 ⟨x, rfl, x0, x1, d1, g1⟩
      obtain ⟨O, on, oc, xs, he, o1, h1, h2, d2, g2⟩ := leaf (L := 1) (T1.dice d1 g1) (Nat.le_refl _) x
      have F : AnsRN w p A n c 65 _ _ := ansRN_own o1 hN (Nat.le_refl _) (by omega) d2 g2
      rw [← he] at F
      have HF := Lib.hid F
      clear F he o1 d2 g2 T1 d1 g1
      go_wp2
      go_ret
      exact HF.out
    | true =>
      have HS := Lib.hid hok
      have hars := (sig_arities hok).1
      have hl8 := (sig_arities hok).2.2
      have hsl := T0.s.1
      have hs8 : sn ≤ 8 := by omega
      clear hok hsl hl8
      go_enter Try.func110, Try.ntmps110
      go_wp2_with fail
      rw [← HW.out]
      refine L.out.mono ?_
      rintro e u0 ⟨he, bb⟩
      rw [HS.out] at he
      subst he
      have T1 := (T0.below (bb.mono (by have := T0.r.lt; omega))).drew
      have cS : u0.cell? ⟨w.heap.size, 0, none⟩ = some (.slice S sn sc) := T1.r.cell 0
      clear T0 bb L
      go_wp2_with fail
      go_region_held3 (fun w' => w'.cell? ⟨w.heap.size, 0, none⟩ = some (.slice S sn sc))
        (go_keep)
        (first
          | (go_at_call 109; refine (below p A n c 4 _ T1.d (by omega) (by omega)).mono ?_; rintro e u1 ⟨x, rfl, x0, x1, d1, g1⟩; have T2 := T1.dice d1 g1; have cS2 : u1.cell? ⟨w.heap.size, 0, none⟩ = some (.slice S sn sc) := T2.r.cell 0; have hw : IntKind.i64.wrap (1 + x) = 1 + x := by rw [IntKind.wrap_i64]; omega)
          | (go_at_call 114; refine (drawTerm p A n c S sn sc sg 3 hars (by omega) (by omega) (by omega) (by omega) 3 (1 + x) u1 T2.d (T2.s.more T2.g.size) (by omega) (by clear hw; omega) (by clear hw; omega)).mono ?_; rintro e u2 ⟨O, on, oc, xs, rfl, o2, h1, h2, d2, g2⟩; have T3 := T2.dice d2 g2; have cS3 : u2.cell? ⟨w.heap.size, 0, none⟩ = some (.slice S sn sc) := T3.r.cell 0))
      have o3 : Own u2 (w.heap.size + 1) (.slice O on oc) xs := Own.lower o2 (by have := T2.r.lt; omega)
      obtain ⟨gg, rfl⟩ := Own.some_ o3 h1
      have hgg : w.heap.size + 1 ≤ gg := Own.ge o3 gg rfl
      have hL : on ≤ 64 := h2
      clear hw o2 T2 T1 d1 g1 d2 g2 cS cS2 cS3 h2 x0 x1
      have hp1 : p < w.heap.size + 1 := by omega
      go_wp2_with fail
      refine (once p A n c 12 _ T3.d (by omega) (by omega)).mono ?_
      rintro e u3 ⟨b, rfl, d1, g1⟩
      have T4 := T3.dice d1 g1
      have o4 := Own.far o3 g1 (fun k hk => by injection hk; omega)
      clear T3 o3 d1 g1
      cases b with
      | false =>
        have F : AnsRN w p A n c 65 (.returned (.slice (some ⟨gg, 0, none⟩) on oc)) u3 := ansRN_own o4 hp1 (by omega) (by omega) T4.d T4.g
        have HF := Lib.hid F
        clear F T4 o4
        go_wp2
        go_ret
        exact HF.out
      | true =>
        go_wp2_with fail
        refine (below p A n c 4 _ T4.d (by omega) (by omega)).mono ?_
        rintro e u4 ⟨x, rfl, x0, x1, d1, g1⟩
        have T5 := T4.dice d1 g1
        have o5 := Own.far o4 g1 (fun k hk => by injection hk; omega)
        clear T4 o4 d1 g1
        by_cases hx0 : x = 0
        · subst hx0
          go_wp2_with fail
          refine (fromTo p A n c (-2) 3 _ T5.d (by omega) (by omega) (by omega) (by omega)).mono ?_
          rintro e u5 ⟨y, rfl, y0, y1, d1, g1⟩
          have T6 := T5.dice d1 g1
          have o6 := Own.far o5 g1 (fun k hk => by injection hk; omega)
          have z6 := T6.r.lt
          clear T5 o5 d1 g1 x0 x1
          go_wp2_with (at_builtin; refine app1 rfl _ _ rfl (w.heap.size + 1) (some ⟨gg, 0, none⟩) on oc xs rfl (Own.alloc o6 _) u5.heap.size 1 y rfl ((Row.new _ _ _).cell 0) (by omega) (by simp; omega) ?_; intro O' oc' u6 o7 b7)
          have T7 := (T6.below ((Below.refl _ _).alloc (by omega) (.cells #[.int .i64 y] 2))).below b7
          have F : AnsRN w p A n c 65 (.returned (.slice O' (on + 1) oc')) u6 := ansRN_own o7 hp1 (by omega) (by omega) T7.d T7.g
          have HF := Lib.hid F
          clear F T7 T6 o6 o7 b7
          go_wp2
          go_ret
          exact HF.out
        · by_cases hx1 : x = 1
          · subst hx1
            go_wp2_with fail
            refine (below p A n c (on : Int) _ T5.d (by omega) (by omega)).mono ?_
            rintro e u5 ⟨y, rfl, y0, y1, d1, g1⟩
            obtain ⟨k, rfl⟩ := Int.eq_ofNat_of_zero_le y0
            have T6 := T5.dice d1 g1
            have o6 := Own.far o5 g1 (fun k hk => by injection hk; omega)
            clear T5 o5 d1 g1 x0 x1 hx0
            go_wp2_with fail
            refine (fromTo p A n c (-3) 4 _ T6.d (by omega) (by omega) (by omega) (by omega)).mono ?_
            rintro e u6 ⟨z, rfl, z0, z1, d1, g1⟩
            have T7 := T6.dice d1 g1
            have o7 := Own.far o6 g1 (fun k hk => by injection hk; omega)
            have hk : k < on := by omega
            have i1 : (k : Int) < (on : Int) := by omega
            obtain ⟨u, hu⟩ := Own.cellAt o7 hk
            have hf := Own.frozenAt o7 k
            have o8 := Own.put o7 k z
            have T8 := T7.below ((Below.refl (w.heap.size + 1) u6).setCell (p := ⟨gg, k, none⟩) hgg (.int .i64 z))
            have F : AnsRN w p A n c 65 (.returned (.slice (some ⟨gg, 0, none⟩) on oc)) (u6.setCell ⟨gg, k, none⟩ (.int .i64 z)) := ansRN_own o8 hp1 (by omega) (by omega) T8.d T8.g
            have HF := Lib.hid F
            clear F T8 T7 T6 o8 o7 o6 d1 g1
            go_wp2
            go_ret
            exact HF.out
          · by_cases hx2 : x = 2
            · subst hx2
              have hcap := Own.cap o5
              have hrd := Rd.of_own o5 hp1
              by_cases hc1 : oc = 1
              · subst hc1
                have e1 : on = 1 := by omega
                subst e1
                have F : AnsRN w p A n c 65 (.returned (.slice (some ⟨gg, 0, none⟩) 0 0)) u4 := ⟨_, 0, 0, [], rfl, Rd.none_, Nat.le_refl _, by omega, fun e => rfl, by omega, T5.d, T5.g, fun k hk => by (injection hk with e); have e2 : gg = k := e; omega⟩
                have HF := Lib.hid F
                clear F T5 o5 hrd x0 x1 hx0 hx1
                go_wp2
                go_ret
                exact HF.out
              · have F : AnsRN w p A n c 65 (.returned (.slice (some ⟨gg, 0 + 1, none⟩) (on - 1) (oc - 1))) u4 := ⟨_, _, _, _, rfl, Rd.tail hrd h1, by omega, by omega, (fun e => by cases e), by omega, T5.d, T5.g, fun k hk => by (injection hk with e); have e2 : gg = k := e; omega⟩
                have HF := Lib.hid F
                have hc2 : ¬ oc = 1 := hc1
                have i1 : (1 : Int) ≤ (on : Int) := by omega
                have i2 : (1 : Int) ≤ (oc : Int) := by omega
                have i3 : (on : Int) ≤ (oc : Int) := by omega
                have i4 : 1 ≤ on := h1
                have i5 : on ≤ oc := hcap.1
                clear F T5 o5 hrd x0 x1 hx0 hx1 hc1 hcap
                go_wp2
                go_ret
                exact HF.out
            · have e3 : x = 3 := by omega
              subst e3
              clear x0 x1 hx0 hx1 hx2
              go_wp2_with fail
              refine (odd p A n c _ T5.d).mono ?_
              rintro e u5 ⟨y, rfl, d1, g1⟩
              have T6 := T5.dice d1 g1
              have o6 := Own.far o5 g1 (fun k hk => by injection hk; omega)
              have z6 := T6.r.lt
              clear T5 o5 d1 g1
              go_wp2_with (at_builtin; refine app1 rfl _ _ rfl (w.heap.size + 1) (some ⟨gg, 0, none⟩) on oc xs rfl (Own.alloc o6 _) u5.heap.size 1 y rfl ((Row.new _ _ _).cell 0) (by omega) (by simp; omega) ?_; intro O' oc' u6 o7 b7)
              have T7 := (T6.below ((Below.refl _ _).alloc (by omega) (.cells #[.int .i64 y] 2))).below b7
              have F : AnsRN w p A n c 65 (.returned (.slice O' (on + 1) oc')) u6 := ansRN_own o7 hp1 (by omega) (by omega) T7.d T7.g
              have HF := Lib.hid F
              clear F T7 T6 o6 o7 b7
              go_wp2
              go_ret
              exact HF.out

theorem drawAny (p : Nat) (A : Option Addr) (n c : Nat) (S : Option Addr) (sn sc : Nat) (sg : List Int) (w : World) (hd : Dice w p A n c) (hr : Rd w p w.heap.size S sn sg) (hsn : sn ≤ 1048576) :
    Calls Try.prog 110 #[.pointer (some ⟨p, 0, none⟩), .agg #[.slice S sn sc]] w (AnsR w p A n c 65) :=
  (drawAnyN p A n c S sn sc sg w hd hr hsn).mono fun _ _ ⟨O, on, oc, xs, h1, h2, h3, h4, h5, h6, h7, h8, _⟩ => ⟨O, on, oc, xs, h1, h2, h3, h4, h5, h6, h7, h8⟩
end Go.Proofs.Ytfkgiimcnlagmaa.drawAny
end

section
/-
  WORDS FOR DRAWS OVER SHAPES: what reads as data in blocks of a kind ('RdQ'); a slice whose row is the call's own and whose elements may be read ('OwnQ'), append of one element to it. Conditions: none; plain lemmas. By an AI agent.
-/
namespace Go.Proofs.Ytfkgiimcnlagmaa.drawX
open Go.RowKit Go.Proofs.Ytfkgiimcnlagmaa.base Go.Proofs.Ytfkgiimcnlagmaa.ints Go.Proofs.Ytfkgiimcnlagmaa.sig Go.Proofs.Ytfkgiimcnlagmaa.cursor Go.Proofs.Ytfkgiimcnlagmaa.marks Go.Proofs.Ytfkgiimcnlagmaa.app Go.Proofs.Ytfkgiimcnlagmaa.appAt Go.Proofs.Ytfkgiimcnlagmaa.sym Go.Proofs.Ytfkgiimcnlagmaa.segs Go.Proofs.Ytfkgiimcnlagmaa.shape Go.Proofs.Ytfkgiimcnlagmaa.dice

/-- the cells cs read as d; all blocks are of kind Q -/
def RdQ (w : World) (Q : Nat → Prop) : (s : Sh) → List Value → Dat s → Prop
  | .num, cs, (x : Int) => cs = [.int .i64 x]
  | .bit, cs, (x : Bool) => cs = [.bool x]
  | .row _ s, cs, (d : List (Dat s)) => ∃ A n c, cs = [.slice A n c] ∧ Cap A n c ∧ d.length = n ∧
      (0 < n → ∃ b off, A = some ⟨b, off, none⟩ ∧ Q b ∧ ∀ j, j < n → ∃ es, es.length = nc s ∧ Piece w b (off + j * nc s) es ∧ RdQ w Q s es (d.getD j (dft s)))
  | .cat a b, cs, d => ∃ ca cb, cs = ca ++ cb ∧ RdQ w Q a ca d.1 ∧ RdQ w Q b cb d.2
section
variable {w w' : World} {Q Q' : Nat → Prop} {B : Nat}
theorem RdQ.keep (hk : ∀ b, Q b → w'.heap[b]? = w.heap[b]?) : ∀ {s : Sh} {cs : List Value} {d : Dat s}, RdQ w Q s cs d → RdQ w' Q s cs d
  | .num, _, _, h => h
  | .bit, _, _, h => h
  | .row _ s, _, _, h => by
    obtain ⟨A, n, c, e, hc, hl, h1⟩ := h
    refine ⟨A, n, c, e, hc, hl, fun hn => ?_⟩
    obtain ⟨b, off, e2, hb, h2⟩ := h1 hn
    refine ⟨b, off, e2, hb, fun j hj => ?_⟩
    obtain ⟨es, he, hp, hr⟩ := h2 j hj
    exact ⟨es, he, hp.keep (fun p hp => World.cell?_of_block (by rw [hp]; exact hk b hb)), hr.keep hk⟩
  | .cat a b, _, _, h => by
    obtain ⟨ca, cb, e, h1, h2⟩ := h
    exact ⟨ca, cb, e, h1.keep hk, h2.keep hk⟩
theorem RdQ.mono (hk : ∀ b, Q b → Q' b) : ∀ {s : Sh} {cs : List Value} {d : Dat s}, RdQ w Q s cs d → RdQ w Q' s cs d
  | .num, _, _, h => h
  | .bit, _, _, h => h
  | .row _ s, _, _, h => by
    obtain ⟨A, n, c, e, hc, hl, h1⟩ := h
    refine ⟨A, n, c, e, hc, hl, fun hn => ?_⟩
    obtain ⟨b, off, e2, hb, h2⟩ := h1 hn
    refine ⟨b, off, e2, hk b hb, fun j hj => ?_⟩
    obtain ⟨es, he, hp, hr⟩ := h2 j hj
    exact ⟨es, he, hp, hr.mono hk⟩
  | .cat a b, _, _, h => by
    obtain ⟨ca, cb, e, h1, h2⟩ := h
    exact ⟨ca, cb, e, h1.mono hk, h2.mono hk⟩
theorem RdQ.rd (hk : ∀ b, Q b → b < B) : ∀ {s : Sh} {cs : List Value} {d : Dat s}, RdQ w Q s cs d → Rd w B s cs d
  | .num, _, _, h => h
  | .bit, _, _, h => h
  | .row _ s, _, _, h => by
    obtain ⟨A, n, c, e, hc, hl, h1⟩ := h
    refine ⟨A, n, c, e, hc, hl, fun hn => ?_⟩
    obtain ⟨b, off, e2, hb, h2⟩ := h1 hn
    refine ⟨b, off, e2, hk b hb, fun j hj => ?_⟩
    obtain ⟨es, he, hp, hr⟩ := h2 j hj
    exact ⟨es, he, hp, hr.rd hk⟩
  | .cat a b, _, _, h => by
    obtain ⟨ca, cb, e, h1, h2⟩ := h
    exact ⟨ca, cb, e, h1.rd hk, h2.rd hk⟩
theorem RdQ.len : ∀ {s : Sh} {cs : List Value} {d : Dat s}, RdQ w Q s cs d → cs.length = nc s
  | .num, _, _, h => by have h : _ = _ := h; rw [h]; rfl
  | .bit, _, _, h => by have h : _ = _ := h; rw [h]; rfl
  | .row _ _, _, _, h => by obtain ⟨A, n, c, e, _⟩ := h; rw [e]; rfl
  | .cat a b, _, _, h => by
    obtain ⟨ca, cb, e, h1, h2⟩ := h
    rw [e, List.length_append, h1.len, h2.len]; rfl
theorem RdQ.cat {a b : Sh} {ca cb : List Value} {x : Dat a} {y : Dat b} (h1 : RdQ w Q a ca x) (h2 : RdQ w Q b cb y) : RdQ w Q (.cat a b) (ca ++ cb) (x, y) := ⟨ca, cb, rfl, h1, h2⟩
/-- every cell is one cell -/
theorem RdQ.one : ∀ {s : Sh} {cs : List Value} {d : Dat s}, RdQ w Q s cs d → ∀ u ∈ cs, u.oneCell' = true
  | .num, _, _, h, u, hu => by have h : _ = _ := h; rw [h] at hu; rw [List.mem_singleton.1 hu]; rfl
  | .bit, _, _, h, u, hu => by have h : _ = _ := h; rw [h] at hu; rw [List.mem_singleton.1 hu]; rfl
  | .row _ _, _, _, h, u, hu => by obtain ⟨A, n, c, e, _⟩ := h; rw [e] at hu; rw [List.mem_singleton.1 hu]; rfl
  | .cat a b, _, _, h, u, hu => by
    obtain ⟨ca, cb, e, h1, h2⟩ := h
    rw [e] at hu
    rcases List.mem_append.1 hu with hu | hu
    · exact h1.one u hu
    · exact h2.one u hu
/-- a list -/
theorem rdq_seg {A : Option Addr} {n c : Nat} {xs : List Int} (hl : xs.length = n) (hc : Cap A n c) (h : 0 < n → ∃ b off, A = some ⟨b, off, none⟩ ∧ Q b ∧ ∀ j, j < n → w.cell? ⟨b, off + j, none⟩ = some (.int .i64 (xs.getD j 0))) : RdQ w Q sI [.slice A n c] xs := by
  refine ⟨A, n, c, rfl, hc, hl, fun hn => ?_⟩
  obtain ⟨b, off, e2, hb, h2⟩ := h hn
  refine ⟨b, off, e2, hb, fun j hj => ⟨[.int .i64 (xs.getD j 0)], rfl, fun i hi => ?_, rfl⟩⟩
  have hi : i = 0 := by simpa using hi
  subst hi
  show w.cell? ⟨b, off + j * 1 + 0, none⟩ = some (.int .i64 (xs.getD j 0))
  rw [Nat.mul_one, Nat.add_zero]
  exact h2 j hj
theorem rdq_own {lo : Nat} {A : Option Addr} {n c : Nat} {xs : List Int} (h : Own w lo (.slice A n c) xs) (hQ : ∀ b, lo ≤ b → b < w.heap.size → blk A = some b → Q b) : RdQ w Q sI [.slice A n c] xs := by
  have hl := Own.len h
  refine rdq_seg hl.symm (Go.Proofs.Ytfkgiimcnlagmaa.kinds.Ownd.cap (Go.Proofs.Ytfkgiimcnlagmaa.kinds.Ownd.of_own h)) fun hn => ?_
  obtain ⟨b, off, e, hb, hc⟩ := (Own.seg h).2 hn
  have hk : blk A = some b := by rw [e]; rfl
  exact ⟨b, off, e, hQ b (World.ownsRow.lt h b (by rw [blk_own]; exact hk)).1 hb hk, hc⟩
theorem rdq_rd {p : Nat} {A : Option Addr} {n c : Nat} {xs : List Int} (h : Go.Proofs.Ytfkgiimcnlagmaa.drawTerm.Rd w p B A n xs) (hc : Cap A n c) (hQ : ∀ b, b < B → b ≠ p → Q b) : RdQ w Q sI [.slice A n c] xs :=
  rdq_seg h.1 hc fun hn => by
    obtain ⟨b, off, e, hb, hp, hcell⟩ := h.2 hn
    exact ⟨b, off, e, hQ b hb hp, hcell⟩
end

/-- outside the cursor's block -/
def Out (w : World) (p : Nat) (b : Nat) : Prop := b < w.heap.size ∧ b ≠ p
/-- outside the cursor's block and outside a row -/
def OutR (w : World) (p : Nat) (r : Option Nat) (b : Nat) : Prop := b < w.heap.size ∧ b ≠ p ∧ some b ≠ r
section
variable {w w' : World} {p : Nat} {r : Option Nat} {s : Sh} {cs : List Value} {d : Dat s}
theorem out_dice (h : RdQ w (Out w p) s cs d) (hg : w.grownBy w' (some p)) : RdQ w' (Out w' p) s cs d :=
  (h.keep fun b hb => hg.block b hb.1 (fun e => hb.2 (by injection e))).mono fun b hb => ⟨Nat.lt_of_lt_of_le hb.1 hg.size, hb.2⟩
theorem out_below (h : RdQ w (Out w p) s cs d) (hb : Below w.heap.size w w') : RdQ w' (Out w' p) s cs d :=
  (h.keep fun b h => hb.block b h.1).mono fun b h => ⟨Nat.lt_of_lt_of_le h.1 hb.size, h.2⟩
theorem outR_dice (h : RdQ w (OutR w p r) s cs d) (hg : w.grownBy w' (some p)) : RdQ w' (OutR w' p r) s cs d :=
  (h.keep fun b hb => hg.block b hb.1 (fun e => hb.2.1 (by injection e))).mono fun b hb => ⟨Nat.lt_of_lt_of_le hb.1 hg.size, hb.2⟩
theorem outR_below (h : RdQ w (OutR w p r) s cs d) (hb : Below w.heap.size w w') : RdQ w' (OutR w' p r) s cs d :=
  (h.keep fun b h => hb.block b h.1).mono fun b h => ⟨Nat.lt_of_lt_of_le h.1 hb.size, h.2⟩
theorem out_rd (h : RdQ w (Out w p) s cs d) : Rd w w.heap.size s cs d := h.rd fun _ h => h.1
theorem out_put {g i : Nat} {u : Value} (h : RdQ w (Out w p) s cs d) (hg : ∀ b, Out w p b → b ≠ g) : RdQ (w.setCell ⟨g, i, none⟩ u) (Out (w.setCell ⟨g, i, none⟩ u) p) s cs d :=
  (h.keep fun b hb => Below.heap_setCell w _ u b (hg b hb)).mono fun b h => ⟨by simpa using h.1, h.2⟩
end

/-! ### a slice whose row is the call's own -/
/-- element j's cells -/
def cellsOf (k : Nat) (vs : List Value) (j : Nat) : List Value := (vs.drop (j * k)).take k
def OwnQ (w : World) (p lo : Nat) (e : TypeId) (s : Sh) (A : Option Addr) (n c : Nat) (D : List (Dat s)) : Prop :=
  D.length = n ∧ ∃ vs : List Value, w.ownsRow lo e (nc s) (.slice A n c) n vs ∧ ∀ j, j < n → RdQ w (OutR w p (blk A)) s (cellsOf (nc s) vs j) (D.getD j (dft s))
section
variable {w w' : World} {p lo n c : Nat} {e : TypeId} {s : Sh} {A : Option Addr} {D : List (Dat s)}
theorem OwnQ.nil (w : World) (p lo : Nat) (e : TypeId) (s : Sh) : OwnQ w p lo e s none 0 0 [] := ⟨rfl, [], ⟨by simp, .inl ⟨rfl, rfl⟩⟩, fun j hj => absurd hj (Nat.not_lt_zero _)⟩
theorem OwnQ.below (h : OwnQ w p lo e s A n c D) (hb : Below w.heap.size w w') : OwnQ w' p lo e s A n c D := by
  obtain ⟨h1, vs, h2, h3⟩ := h
  exact ⟨h1, vs, World.ownsRow.kept h2 ⟨hb.os, hb.tape, hb.output, hb.size, fun k hk _ => hb.block k hk⟩ (row := none) (by cases (Value.slice A n c).ownBlock <;> simp), fun j hj => outR_below (h3 j hj) hb⟩
theorem OwnQ.dice (h : OwnQ w p lo e s A n c D) (hg : w.grownBy w' (some p)) (hp : p < lo) : OwnQ w' p lo e s A n c D := by
  obtain ⟨h1, vs, h2, h3⟩ := h
  refine ⟨h1, vs, World.ownsRow.kept h2 hg ?_, fun j hj => outR_dice (h3 j hj) hg⟩
  cases e : (Value.slice A n c).ownBlock with
  | none => exact .inl rfl
  | some k =>
    refine .inr (fun e2 => ?_)
    have := (World.ownsRow.lt h2 k e).1
    injection e2 with e2
    omega
theorem OwnQ.lower {lo' : Nat} (h : OwnQ w p lo e s A n c D) (h1 : lo' ≤ lo) : OwnQ w p lo' e s A n c D := by
  obtain ⟨h3, vs, ho, h4⟩ := h
  refine ⟨h3, vs, ⟨ho.1, ?_⟩, h4⟩
  rcases ho.2 with q2 | ⟨g, cap, cur, hv, hg, q⟩
  · exact .inl q2
  · exact .inr ⟨g, cap, cur, hv, by omega, q⟩
theorem OwnQ.ge (h : OwnQ w p lo e s A n c D) : ∀ k, blk A = some k → lo ≤ k ∧ k < w.heap.size := fun k hk => by
  obtain ⟨_, vs, ho, _⟩ := h
  exact World.ownsRow.lt ho k (by rw [blk_own]; exact hk)
/-- it reads as data -/
theorem OwnQ.rdq {e0 : TypeId} (h : OwnQ w p lo e s A n c D) (hp : p < lo) : RdQ w (Out w p) (.row e0 s) [.slice A n c] D := by
  obtain ⟨h1, vs, ho, h3⟩ := h
  rcases ho.2 with ⟨e1, h0⟩ | ⟨g, cap, cur, e1, hg, hrow, hn, hm, hs, ht⟩
  · injection e1 with a1 a2 a3
    subst a1 a2 a3
    exact ⟨none, 0, 0, rfl, ⟨by omega, by omega, fun _ => rfl⟩, h1, fun h => absurd h (by omega)⟩
  · injection e1 with a1 a2 a3
    subst a1 a3
    refine ⟨_, n, c, rfl, ⟨hn, by unfold maxLen at hm; omega, fun e => by cases e⟩, h1, fun h0 => ⟨g, 0, rfl, ⟨(Array.getElem?_eq_some_iff.1 hrow).1, by omega⟩, fun j hj => ⟨cellsOf (nc s) vs j, ?_, fun i hi => ?_, (h3 j hj).mono fun b h => ⟨h.1, h.2.1⟩⟩⟩⟩
    · exact (h3 j hj).len
    · have hl := (h3 j hj).len
      have hi : i < nc s := by omega
      have hjn : j * nc s + nc s ≤ n * nc s := by
        have := Nat.mul_le_mul_right (nc s) (show j + 1 ≤ n by omega)
        rw [Nat.add_mul] at this
        omega
      rw [Nat.zero_add, Row.cell (t := e) (cs := cur) hrow]
      have h5 : cur.toList[j * nc s + i]? = vs[j * nc s + i]? := by
        rw [← ht, List.getElem?_take, if_pos (by omega)]
      rw [← Array.getElem?_toList, h5]
      unfold cellsOf
      rw [List.getElem?_take, if_pos hi, List.getElem?_drop]
/-- one more -/
theorem ownQ_app {vs es : List Value} {x : Dat s} {A' : Option Addr} {c' : Nat} (hl : D.length = n) (hr : w.ownsRow lo e (nc s) (.slice A n c) n vs) (hin : ∀ j, j < n → RdQ w (OutR w p (blk A)) s (cellsOf (nc s) vs j) (D.getD j (dft s))) (hv : RdQ w (OutR w p (blk A)) s es x)
    (hown' : w'.ownsRow lo e (nc s) (.slice A' (n + 1) c') (n + 1) (vs ++ es)) (hg : w.grownBy w' (blk A)) (hat : blk A' = blk A ∨ blk A' = some w.heap.size) : OwnQ w' p lo e s A' (n + 1) c' (D ++ [x]) := by
  have hvl : vs.length = n * nc s := hr.1
  have hel := hv.len
  have keep : ∀ {us : List Value} {y : Dat s}, RdQ w (OutR w p (blk A)) s us y → RdQ w' (OutR w' p (blk A')) s us y := fun {us y} hu =>
    (hu.keep fun b hb => hg.block b hb.1 (fun e => hb.2.2 e)).mono fun b hb => ⟨Nat.lt_of_lt_of_le hb.1 hg.size, hb.2.1, by
      rcases hat with e2 | e2
      · rw [e2]; exact hb.2.2
      · rw [e2]; intro e3; injection e3 with e3; have := hb.1; omega⟩
  refine ⟨by simp [hl], vs ++ es, hown', fun j hj => ?_⟩
  by_cases ej : j = n
  · subst ej
    rw [show (D ++ [x]).getD j (dft s) = x by simp [List.getD, ← hl]]
    have : cellsOf (nc s) (vs ++ es) j = es := by
      unfold cellsOf
      rw [List.drop_append_of_le_length (by omega), List.drop_of_length_le (by omega), List.nil_append, List.take_of_length_le (by omega)]
    rw [this]
    exact keep hv
  · rw [show (D ++ [x]).getD j (dft s) = D.getD j (dft s) by simp [List.getD, List.getElem?_append_left (show j < D.length by omega)]]
    have hjn : j * nc s + nc s ≤ n * nc s := by
      have := Nat.mul_le_mul_right (nc s) (show j + 1 ≤ n by omega)
      rw [Nat.add_mul] at this
      omega
    have : cellsOf (nc s) (vs ++ es) j = cellsOf (nc s) vs j := by
      unfold cellsOf
      rw [List.drop_append_of_le_length (by omega), List.take_append_of_le_length (by rw [List.length_drop]; omega)]
    rw [this]
    exact keep (hin j (by omega))
end

/-- append of one element, in a walk -/
theorem appQ1 {w : World} {ops : Array Oper} {rest : List Oper} {o : Oper} {a : Act} {Q : Exit → Act → World → Prop} (hgd : o.guard = none) (sx x : Operand) (T e : TypeId) (s : Sh) (z : Value) (bytes : Nat) (hT : Try.prog.underlying T = some (.slice e))
    (hI : (Try.prog.info? e).map (fun i => (i.zero, i.size, i.bytes)) = some (some z, nc s, bytes)) (hzc : z.cells.size = nc s) (hby : bytes ≤ 4096)
    (ho : o.op = .call { callee := .builtin .append, args := #[sx, x], argTypes := #[T, T] })
    (p lo : Nat) (A : Option Addr) (n c : Nat) (D : List (Dat s)) (hs : a.eval sx = .slice A n c) (hown : OwnQ w p lo e s A n c D)
    (g c2 : Nat) (es : List Value) (y : Dat s) (hx : a.eval x = .slice (some ⟨g, 0, none⟩) 1 c2) (hy : ∀ i, i < es.length → w.cell? ⟨g, i, none⟩ = es[i]?) (hv : RdQ w (OutR w p (blk A)) s es y) (hn : n ≤ 1048576) (hlo : lo ≤ w.heap.size)
    (h : ∀ A' c' w', OwnQ w' p lo e s A' (n + 1) c' (D ++ [y]) → w.grownBy w' (blk A) → (blk A' = blk A ∨ blk A' = some w.heap.size) → Below lo w w' → wpList Try.prog ops Q rest (a.put o.dst (.slice A' (n + 1) c')) w') : wpList Try.prog ops Q (o :: rest) a w := by
  obtain ⟨i0, hi, hz0, hz1, hz2⟩ := info_parts hI
  obtain ⟨hlen, vs, hr, hin⟩ := hown
  have hel := hv.len
  refine wpList_append_own_at w hgd sx x T ho lo e i0 z (nc s) bytes hT hi hz0 hz1 hz2 hzc (nc_pos s) (.slice A n c) n vs hs hr
    ⟨g, 0, none⟩ 1 c2 es hx (by rw [hel]; simp) (fun j u hj => ?_) hv.one (by unfold maxLen; omega) (by have h1 : (n + 1) * bytes ≤ 1048577 * 4096 := Nat.mul_le_mul (by omega) hby; omega) hlo ?_
  · have hj2 : j < es.length := (List.getElem?_eq_some_iff.1 hj).1
    have := hy j hj2
    rw [hj] at this
    have e2 : (⟨g, 0, none⟩ : Addr).add j = ⟨g, j, none⟩ := by unfold Addr.add; split <;> simp_all
    rw [e2]; exact this
  · intro v' w' hown' hg _ hat
    have hform : ∃ A' c', v' = .slice A' (n + 1) c' := by
      rcases hown'.2 with ⟨_, h0⟩ | ⟨g', cap, cur, e, _⟩
      · omega
      · exact ⟨_, _, e⟩
    obtain ⟨A', c', rfl⟩ := hform
    rw [blk_own] at hg
    rw [blk_own, blk_own] at hat
    exact h A' c' w' (ownQ_app hlen hr hin hv hown' hg hat) hg hat ((Below.refl lo w).grown hg hlo (fun k hk => (World.ownsRow.lt hr k (by rw [blk_own]; exact hk)).1))
/-- append of one element, at a step of a region that draws -/
theorem stepQ1 {w : World} {ops : Array Oper} {o : Oper} {a : Act} {K : Act → World → Prop} {Q : Exit → Act → World → Prop} {E : Prop} (hgd : o.guard = none) (sx x : Operand) (T e : TypeId) (s : Sh) (z : Value) (bytes : Nat) (hT : Try.prog.underlying T = some (.slice e))
    (hI : (Try.prog.info? e).map (fun i => (i.zero, i.size, i.bytes)) = some (some z, nc s, bytes)) (hzc : z.cells.size = nc s) (hby : bytes ≤ 4096)
    (ho : o.op = .call { callee := .builtin .append, args := #[sx, x], argTypes := #[T, T] })
    (p lo : Nat) (A : Option Addr) (n c : Nat) (D : List (Dat s)) (hs : a.eval sx = .slice A n c) (hown : OwnQ w p lo e s A n c D)
    (g c2 : Nat) (es : List Value) (y : Dat s) (hx : a.eval x = .slice (some ⟨g, 0, none⟩) 1 c2) (hy : ∀ i, i < es.length → w.cell? ⟨g, i, none⟩ = es[i]?) (hv : RdQ w (OutR w p (blk A)) s es y) (hn : n ≤ 1048576) (hlo : lo ≤ w.heap.size)
    (h : ∀ g' c' w', OwnQ w' p lo e s (some ⟨g', 0, none⟩) (n + 1) c' (D ++ [y]) → w.grownBy w' (blk A) → (blk A = some g' ∨ g' = w.heap.size) → g' < w'.heap.size → K (a.put o.dst (.slice (some ⟨g', 0, none⟩) (n + 1) c')) w') :
    if Region.wanted o (yielded ops a.tmps) = true then Oper.wp Try.prog o a w K Q else E := by
  obtain ⟨i0, hi, hz0, hz1, hz2⟩ := info_parts hI
  obtain ⟨hlen, vs, hr, hin⟩ := hown
  have hel := hv.len
  refine step_append_lies w hgd sx x T ho lo e i0 z (nc s) bytes hT hi hz0 hz1 hz2 hzc (nc_pos s) (.slice A n c) n vs hs hr
    ⟨g, 0, none⟩ 1 c2 es hx (by rw [hel]; simp) (fun j u hj => ?_) hv.one (by omega) (by unfold maxLen; omega) (by have h1 : (n + 1) * bytes ≤ 1048577 * 4096 := Nat.mul_le_mul (by omega) hby; omega) hlo w.heap.size rfl ?_
  · have hj2 : j < es.length := (List.getElem?_eq_some_iff.1 hj).1
    have := hy j hj2
    rw [hj] at this
    have e2 : (⟨g, 0, none⟩ : Addr).add j = ⟨g, j, none⟩ := by unfold Addr.add; split <;> simp_all
    rw [e2]; exact this
  · intro g' c' w' hown' hg hat hlt
    rw [blk_own] at hg hat
    exact h g' c' w' (ownQ_app hlen hr hin hv hown' hg (hat.imp (fun e => e.symm) (fun e => by rw [← e]; rfl))) hg hat hlt
end Go.Proofs.Ytfkgiimcnlagmaa.drawX
end
