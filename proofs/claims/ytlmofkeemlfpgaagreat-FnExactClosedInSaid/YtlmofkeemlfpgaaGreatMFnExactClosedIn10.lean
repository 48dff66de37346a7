/-
  MERGED: my texts PeakMay, OvAt, PeakImpl, Written, LookOv, RenWide, Then, one behind the other, as they are. By an AI agent.
-/
import Derived.Test.YtlmofkeemlfpgaaGreatMFnExactClosedIn9
import Derived.Deep.RegionHeld3
import Derived.Deep.DeepCutAuto
import Derived.Laws.NewBlocks
import Derived.Laws.EntriesVeiled
namespace Go.Proofs.YtlmofkeemlfpgaaGreat
section
open Go.Lib (hid)
open List (setIfInBounds_toArray set_cons_zero set_cons_succ getElem_toArray getElem_cons_zero getElem_cons_succ)
namespace peakImpl
open Go.RowKit heldT base ints sig term termOk endAt marks app sym pathSpec wayTo place segs segsHelp kinds termFacts same shape kindsR kindsW kindsP varsOf ruleMath ruleSpec ruleImpl stepMath walkMath stepSpec stepImpl walkSpec walkImpl peakMath peakSame
set_option maxRecDepth 100000
set_option maxHeartbeats 8000000 in
theorem mayOverlap (a v : Value) (d : Dat sSystem) (o x u : Int) (w : World) (h : Rd w w.heap.size sSystem [a, v] d) (hz : sz sSystem d ≤ 1048576) (hl : ∀ k, k < d.2.length → termOkB d.1 (d.2.getD k ([], [])).1 = true) :
  Calls Tryz.prog 128 #[.agg #[a, v], .int .i64 o, .int .i64 x, .int .i64 u] w (AnsB w (mayB d.2 o x u)) := by
 obtain ⟨A, n, cs, V, q, cv, rfl, rfl, hs, hc, hcv, hq, hn, hq1, hrs, hsg, hE⟩ := rd_sys h hz
 obtain ⟨W, hW, rA, bel⟩ := box1 w 76 #[.slice A n cs, .slice V q cv]
 have HW := hid hW
 have HQ := hid hq
 have BEL := hid bel
 have ZA : w.heap.size < W.heap.size := rA.lt
 have K0 : W.cell? ⟨w.heap.size, 0, none⟩ = some (.slice A n cs) := rA.cell 0
 have K1 : W.cell? ⟨w.heap.size, 1, none⟩ = some (.slice V q cv) := rA.cell 1
 have LH1 := hid (hasRule (.slice A n cs) V q cv o W.drew hq1)
 have LH2 := hid (fun (w1 : World) => hasRule (.slice A n cs) V q cv u w1 hq1)
 clear hW rA h hz hc hcv
 obtain ⟨b1, hb1⟩ : ∃ z, walkMath.inB o q = z := ⟨_, rfl⟩
 obtain ⟨b2, hb2⟩ : ∃ z, walkMath.inB u q = z := ⟨_, rfl⟩
 rw [hb1] at LH1
 simp only [hb2] at LH2
 cases b1 with
 | false =>
  have HF := hid (show mayB d.2 o x u = false from may_no1 (by rw [hq]; exact hb1))
  clear hb1 hb2 hl hs hq hrs hsg hE bel
  go_enter Tryz.func128, Tryz.ntmps128
  go_upto_region 1 with fail
  rw [← HW.out]
  refine AnyT.start (S := (fun w' => w'.cell? ⟨w.heap.size, 0, none⟩ = some (.slice A n cs) ∧ w'.cell? ⟨w.heap.size, 1, none⟩ = some (.slice V q cv))) (fun _ => false) (by kernel_rfl) ⟨K0, K1⟩ (fun hHeld => ?_)
  refine AnyT.take (i := 0) (v := ?_) rfl (by kernel_rfl) (by kernel_rfl) (by kernel_rfl) (by kernel_rfl) (fun _ _ _ h => h) (Or.inl ⟨by rfl, ?_⟩) (by assumption) ?_
  rotate_left 1
  ·(intro w0 hSw; (try dsimp only at hSw); go_simp; try with_reducible rfl)
  try simp only [Act.put, setIfInBounds_toArray, set_cons_zero, set_cons_succ, getElem_toArray, getElem_cons_zero, getElem_cons_succ]
  refine AnyT.takeA (i := 1) (v := ?_) rfl (by kernel_rfl) (by kernel_rfl) (by kernel_rfl) (fun _ _ _ h => h) (Or.inl ⟨by rfl, ?_⟩) ?_
  rotate_left 1
  ·(intro w0 _; go_simp; try with_reducible rfl)
  try simp only [Act.put, setIfInBounds_toArray, set_cons_zero, set_cons_succ, getElem_toArray, getElem_cons_zero, getElem_cons_succ]
  refine AnyT.call (i := 2) (by kernel_rfl) rfl (fun K hK => ?_)
  try simp only [Act.put, setIfInBounds_toArray, set_cons_zero, set_cons_succ, getElem_toArray, getElem_cons_zero, getElem_cons_succ]
  rw [if_pos (by rfl)]
  go_simp
  (go_at_call 156; refine LH1.out.mono ?_; rintro e v1 ⟨rfl, b1⟩; have Bv1 : Below W.heap.size W v1 := next_trans (Below.refl W.heap.size W).drew b1; have hv1_0 : v1.cell? ⟨w.heap.size, 0, none⟩ = some (.slice A n cs) := (Bv1.cell (p := ⟨w.heap.size, 0, none⟩) ZA).trans K0; have hv1_1 : v1.cell? ⟨w.heap.size, 1, none⟩ = some (.slice V q cv) := (Bv1.cell (p := ⟨w.heap.size, 1, none⟩) ZA).trans K1; go_wp2_with fail)
  refine hK.out _ _ (fun _ _ => ?_) (fun hKeep => ?_)
  ·exact ⟨hv1_0, hv1_1⟩
  replace hHeld := hKeep (by first | rfl | trivial) hHeld
  clear hK K hKeep
  try simp only [Act.put, setIfInBounds_toArray, set_cons_zero, set_cons_succ, getElem_toArray, getElem_cons_zero, getElem_cons_succ]
  refine AnyT.takeA (i := 3) (v := ?_) rfl (by kernel_rfl) (by kernel_rfl) (by kernel_rfl) (fun _ _ _ h => h) (Or.inl ⟨by rfl, ?_⟩) ?_
  rotate_left 1
  ·(intro w0 _; go_simp; try with_reducible rfl)
  try simp only [Act.put, setIfInBounds_toArray, set_cons_zero, set_cons_succ, getElem_toArray, getElem_cons_zero, getElem_cons_succ]
  refine AnyT.takeA (i := 4) (v := undef) rfl (by kernel_rfl) (by kernel_rfl) (by kernel_rfl) (fun _ _ _ h => h) (Or.inr ⟨by rfl, rfl⟩) ?_
  try simp only [Act.put, setIfInBounds_toArray, set_cons_zero, set_cons_succ, getElem_toArray, getElem_cons_zero, getElem_cons_succ]
  refine AnyT.takeA (i := 5) (v := undef) rfl (by kernel_rfl) (by kernel_rfl) (by kernel_rfl) (fun _ _ _ h => h) (Or.inr ⟨by rfl, rfl⟩) ?_
  try simp only [Act.put, setIfInBounds_toArray, set_cons_zero, set_cons_succ, getElem_toArray, getElem_cons_zero, getElem_cons_succ]
  refine AnyT.call (i := 6) (by kernel_rfl) rfl (fun K hK => ?_)
  try simp only [Act.put, setIfInBounds_toArray, set_cons_zero, set_cons_succ, getElem_toArray, getElem_cons_zero, getElem_cons_succ]
  rw [if_neg (by intro h; cases h)]
  refine hK.out _ _ (fun _ h => h) (fun _ => ?_)
  clear hK K
  try simp only [Act.put, setIfInBounds_toArray, set_cons_zero, set_cons_succ, getElem_toArray, getElem_cons_zero, getElem_cons_succ]
  refine AnyT.takeA (i := 7) (v := ?_) rfl (by kernel_rfl) (by kernel_rfl) (by kernel_rfl) (fun _ _ _ h => h) (Or.inl ⟨by rfl, ?_⟩) ?_
  rotate_left 1
  ·(intro w0 _; go_simp; try with_reducible rfl)
  try simp only [Act.put, setIfInBounds_toArray, set_cons_zero, set_cons_succ, getElem_toArray, getElem_cons_zero, getElem_cons_succ]
  refine AnyT.takeA (i := 8) (v := ?_) rfl (by kernel_rfl) (by kernel_rfl) (by kernel_rfl) (fun _ _ _ h => h) (Or.inl ⟨by rfl, ?_⟩) ?_
  rotate_left 1
  ·(intro w0 _; go_simp; try with_reducible rfl)
  try simp only [Act.put, setIfInBounds_toArray, set_cons_zero, set_cons_succ, getElem_toArray, getElem_cons_zero, getElem_cons_succ]
  refine AnyT.takeA (i := 9) (v := undef) rfl (by kernel_rfl) (by kernel_rfl) (by kernel_rfl) (fun _ _ _ h => h) (Or.inr ⟨by rfl, rfl⟩) ?_
  try simp only [Act.put, setIfInBounds_toArray, set_cons_zero, set_cons_succ, getElem_toArray, getElem_cons_zero, getElem_cons_succ]
  refine AnyT.takeA (i := 10) (v := undef) rfl (by kernel_rfl) (by kernel_rfl) (by kernel_rfl) (fun _ _ _ h => h) (Or.inr ⟨by rfl, rfl⟩) ?_
  try simp only [Act.put, setIfInBounds_toArray, set_cons_zero, set_cons_succ, getElem_toArray, getElem_cons_zero, getElem_cons_succ]
  refine AnyT.takeA (i := 11) (v := undef) rfl (by kernel_rfl) (by kernel_rfl) (by kernel_rfl) (fun _ _ _ h => h) (Or.inr ⟨by rfl, rfl⟩) ?_
  try simp only [Act.put, setIfInBounds_toArray, set_cons_zero, set_cons_succ, getElem_toArray, getElem_cons_zero, getElem_cons_succ]
  refine AnyT.takeA (i := 12) (v := undef) rfl (by kernel_rfl) (by kernel_rfl) (by kernel_rfl) (fun _ _ _ h => h) (Or.inr ⟨by rfl, rfl⟩) ?_
  try simp only [Act.put, setIfInBounds_toArray, set_cons_zero, set_cons_succ, getElem_toArray, getElem_cons_zero, getElem_cons_succ]
  refine AnyT.takeA (i := 13) (v := undef) rfl (by kernel_rfl) (by kernel_rfl) (by kernel_rfl) (fun _ _ _ h => h) (Or.inr ⟨by rfl, rfl⟩) ?_
  try simp only [Act.put, setIfInBounds_toArray, set_cons_zero, set_cons_succ, getElem_toArray, getElem_cons_zero, getElem_cons_succ]
  refine AnyT.takeA (i := 14) (v := undef) rfl (by kernel_rfl) (by kernel_rfl) (by kernel_rfl) (fun _ _ _ h => h) (Or.inr ⟨by rfl, rfl⟩) ?_
  try simp only [Act.put, setIfInBounds_toArray, set_cons_zero, set_cons_succ, getElem_toArray, getElem_cons_zero, getElem_cons_succ]
  refine AnyT.takeA (i := 15) (v := undef) rfl (by kernel_rfl) (by kernel_rfl) (by kernel_rfl) (fun _ _ _ h => h) (Or.inr ⟨by rfl, rfl⟩) ?_
  try simp only [Act.put, setIfInBounds_toArray, set_cons_zero, set_cons_succ, getElem_toArray, getElem_cons_zero, getElem_cons_succ]
  refine AnyT.takeA (i := 16) (v := ?_) rfl (by kernel_rfl) (by kernel_rfl) (by kernel_rfl) (fun _ _ _ h => h) (Or.inl ⟨by rfl, ?_⟩) ?_
  rotate_left 1
  ·(intro w0 _; go_simp; try with_reducible rfl)
  try simp only [Act.put, setIfInBounds_toArray, set_cons_zero, set_cons_succ, getElem_toArray, getElem_cons_zero, getElem_cons_succ]
  refine AnyT.takeA (i := 17) (v := ?_) rfl (by kernel_rfl) (by kernel_rfl) (by kernel_rfl) (fun _ _ _ h => h) (Or.inl ⟨by rfl, ?_⟩) ?_
  rotate_left 1
  ·(intro w0 _; go_simp; try with_reducible rfl)
  try simp only [Act.put, setIfInBounds_toArray, set_cons_zero, set_cons_succ, getElem_toArray, getElem_cons_zero, getElem_cons_succ]
  refine AnyT.takeA (i := 18) (v := undef) rfl (by kernel_rfl) (by kernel_rfl) (by kernel_rfl) (fun _ _ _ h => h) (Or.inr ⟨by rfl, rfl⟩) ?_
  try simp only [Act.put, setIfInBounds_toArray, set_cons_zero, set_cons_succ, getElem_toArray, getElem_cons_zero, getElem_cons_succ]
  refine AnyT.takeA (i := 19) (v := undef) rfl (by kernel_rfl) (by kernel_rfl) (by kernel_rfl) (fun _ _ _ h => h) (Or.inr ⟨by rfl, rfl⟩) ?_
  try simp only [Act.put, setIfInBounds_toArray, set_cons_zero, set_cons_succ, getElem_toArray, getElem_cons_zero, getElem_cons_succ]
  refine AnyT.takeA (i := 20) (v := undef) rfl (by kernel_rfl) (by kernel_rfl) (by kernel_rfl) (fun _ _ _ h => h) (Or.inr ⟨by rfl, rfl⟩) ?_
  try simp only [Act.put, setIfInBounds_toArray, set_cons_zero, set_cons_succ, getElem_toArray, getElem_cons_zero, getElem_cons_succ]
  refine AnyT.takeA (i := 21) (v := undef) rfl (by kernel_rfl) (by kernel_rfl) (by kernel_rfl) (fun _ _ _ h => h) (Or.inr ⟨by rfl, rfl⟩) ?_
  try simp only [Act.put, setIfInBounds_toArray, set_cons_zero, set_cons_succ, getElem_toArray, getElem_cons_zero, getElem_cons_succ]
  refine AnyT.takeA (i := 22) (v := undef) rfl (by kernel_rfl) (by kernel_rfl) (by kernel_rfl) (fun _ _ _ h => h) (Or.inr ⟨by rfl, rfl⟩) ?_
  try simp only [Act.put, setIfInBounds_toArray, set_cons_zero, set_cons_succ, getElem_toArray, getElem_cons_zero, getElem_cons_succ]
  refine AnyT.takeA (i := 23) (v := undef) rfl (by kernel_rfl) (by kernel_rfl) (by kernel_rfl) (fun _ _ _ h => h) (Or.inr ⟨by rfl, rfl⟩) ?_
  try simp only [Act.put, setIfInBounds_toArray, set_cons_zero, set_cons_succ, getElem_toArray, getElem_cons_zero, getElem_cons_succ]
  refine AnyT.takeA (i := 24) (v := undef) rfl (by kernel_rfl) (by kernel_rfl) (by kernel_rfl) (fun _ _ _ h => h) (Or.inr ⟨by rfl, rfl⟩) ?_
  try simp only [Act.put, setIfInBounds_toArray, set_cons_zero, set_cons_succ, getElem_toArray, getElem_cons_zero, getElem_cons_succ]
  refine AnyT.takeA (i := 25) (v := undef) rfl (by kernel_rfl) (by kernel_rfl) (by kernel_rfl) (fun _ _ _ h => h) (Or.inr ⟨by rfl, rfl⟩) ?_
  try simp only [Act.put, setIfInBounds_toArray, set_cons_zero, set_cons_succ, getElem_toArray, getElem_cons_zero, getElem_cons_succ]
  refine AnyT.takeA (i := 27) (v := undef) rfl (by kernel_rfl) (by kernel_rfl) (by kernel_rfl) (fun _ _ _ h => h) (Or.inr ⟨by rfl, rfl⟩) ?_
  try simp only [Act.put, setIfInBounds_toArray, set_cons_zero, set_cons_succ, getElem_toArray, getElem_cons_zero, getElem_cons_succ]
  refine AnyT.call (i := 26) (by kernel_rfl) rfl (fun K hK => ?_)
  try simp only [Act.put, setIfInBounds_toArray, set_cons_zero, set_cons_succ, getElem_toArray, getElem_cons_zero, getElem_cons_succ]
  rw [if_neg (by intro h; cases h)]
  refine hK.out _ _ (fun _ h => h) (fun _ => ?_)
  clear hK K
  try simp only [Act.put, setIfInBounds_toArray, set_cons_zero, set_cons_succ, getElem_toArray, getElem_cons_zero, getElem_cons_succ]
  refine AnyT.call (i := 28) (by kernel_rfl) rfl (fun K hK => ?_)
  try simp only [Act.put, setIfInBounds_toArray, set_cons_zero, set_cons_succ, getElem_toArray, getElem_cons_zero, getElem_cons_succ]
  rw [if_neg (by intro h; cases h)]
  refine hK.out _ _ (fun _ h => h) (fun _ => ?_)
  clear hK K
  try simp only [Act.put, setIfInBounds_toArray, set_cons_zero, set_cons_succ, getElem_toArray, getElem_cons_zero, getElem_cons_succ]
  refine AnyT.takeA (i := 29) (v := ?_) rfl (by kernel_rfl) (by kernel_rfl) (by kernel_rfl) (fun _ _ _ h => h) (Or.inl ⟨by rfl, ?_⟩) ?_
  rotate_left 1
  ·(intro w0 _; go_simp; try with_reducible rfl)
  try simp only [Act.put, setIfInBounds_toArray, set_cons_zero, set_cons_succ, getElem_toArray, getElem_cons_zero, getElem_cons_succ]
  refine AnyT.takeA (i := 30) (v := ?_) rfl (by kernel_rfl) (by kernel_rfl) (by kernel_rfl) (fun _ _ _ h => h) (Or.inl ⟨by rfl, ?_⟩) ?_
  rotate_left 1
  ·(intro w0 _; go_simp; try with_reducible rfl)
  try simp only [Act.put, setIfInBounds_toArray, set_cons_zero, set_cons_succ, getElem_toArray, getElem_cons_zero, getElem_cons_succ]
  refine AnyT.done (by kernel_rfl) ?_ _
  have F := hid (ansB (b := mayB d.2 o x u) (a := false) HF.out.symm (next_trans BEL.out Bv1))
  clear b1 Bv1 LH1 LH2
  go_wp2
  go_ret
  exact F.out
 | true =>
  cases b2 with
  | false =>
   have HF := hid (show mayB d.2 o x u = false from may_no2 (by rw [hq]; exact hb2))
   clear hb1 hb2 hl hs hq hrs hsg hE bel
   go_enter Tryz.func128, Tryz.ntmps128
   go_upto_region 1 with fail
   rw [← HW.out]
   refine AnyT.start (S := (fun w' => w'.cell? ⟨w.heap.size, 0, none⟩ = some (.slice A n cs) ∧ w'.cell? ⟨w.heap.size, 1, none⟩ = some (.slice V q cv))) (fun _ => false) (by kernel_rfl) ⟨K0, K1⟩ (fun hHeld => ?_)
   refine AnyT.take (i := 0) (v := ?_) rfl (by kernel_rfl) (by kernel_rfl) (by kernel_rfl) (by kernel_rfl) (fun _ _ _ h => h) (Or.inl ⟨by rfl, ?_⟩) (by assumption) ?_
   rotate_left 1
   ·(intro w0 hSw; (try dsimp only at hSw); go_simp; try with_reducible rfl)
   try simp only [Act.put, setIfInBounds_toArray, set_cons_zero, set_cons_succ, getElem_toArray, getElem_cons_zero, getElem_cons_succ]
   refine AnyT.takeA (i := 1) (v := ?_) rfl (by kernel_rfl) (by kernel_rfl) (by kernel_rfl) (fun _ _ _ h => h) (Or.inl ⟨by rfl, ?_⟩) ?_
   rotate_left 1
   ·(intro w0 _; go_simp; try with_reducible rfl)
   try simp only [Act.put, setIfInBounds_toArray, set_cons_zero, set_cons_succ, getElem_toArray, getElem_cons_zero, getElem_cons_succ]
   refine AnyT.call (i := 2) (by kernel_rfl) rfl (fun K hK => ?_)
   try simp only [Act.put, setIfInBounds_toArray, set_cons_zero, set_cons_succ, getElem_toArray, getElem_cons_zero, getElem_cons_succ]
   rw [if_pos (by rfl)]
   go_simp
   (go_at_call 156; refine LH1.out.mono ?_; rintro e v1 ⟨rfl, b1⟩; have Bv1 : Below W.heap.size W v1 := next_trans (Below.refl W.heap.size W).drew b1; have hv1_0 : v1.cell? ⟨w.heap.size, 0, none⟩ = some (.slice A n cs) := (Bv1.cell (p := ⟨w.heap.size, 0, none⟩) ZA).trans K0; have hv1_1 : v1.cell? ⟨w.heap.size, 1, none⟩ = some (.slice V q cv) := (Bv1.cell (p := ⟨w.heap.size, 1, none⟩) ZA).trans K1; go_wp2_with fail)
   refine hK.out _ _ (fun _ _ => ?_) (fun hKeep => ?_)
   ·exact ⟨hv1_0, hv1_1⟩
   replace hHeld := hKeep (by first | rfl | trivial) hHeld
   clear hK K hKeep
   try simp only [Act.put, setIfInBounds_toArray, set_cons_zero, set_cons_succ, getElem_toArray, getElem_cons_zero, getElem_cons_succ]
   refine AnyT.takeA (i := 3) (v := ?_) rfl (by kernel_rfl) (by kernel_rfl) (by kernel_rfl) (fun _ _ _ h => h) (Or.inl ⟨by rfl, ?_⟩) ?_
   rotate_left 1
   ·(intro w0 _; go_simp; try with_reducible rfl)
   try simp only [Act.put, setIfInBounds_toArray, set_cons_zero, set_cons_succ, getElem_toArray, getElem_cons_zero, getElem_cons_succ]
   refine AnyT.take (i := 4) (v := ?_) rfl (by kernel_rfl) (by kernel_rfl) (by kernel_rfl) (by kernel_rfl) (fun _ _ _ h => h) (Or.inl ⟨by rfl, ?_⟩) (by assumption) ?_
   rotate_left 1
   ·(intro w0 hSw; (try dsimp only at hSw); go_simp; try with_reducible rfl)
   try simp only [Act.put, setIfInBounds_toArray, set_cons_zero, set_cons_succ, getElem_toArray, getElem_cons_zero, getElem_cons_succ]
   refine AnyT.takeA (i := 5) (v := ?_) rfl (by kernel_rfl) (by kernel_rfl) (by kernel_rfl) (fun _ _ _ h => h) (Or.inl ⟨by rfl, ?_⟩) ?_
   rotate_left 1
   ·(intro w0 _; go_simp; try with_reducible rfl)
   try simp only [Act.put, setIfInBounds_toArray, set_cons_zero, set_cons_succ, getElem_toArray, getElem_cons_zero, getElem_cons_succ]
   refine AnyT.call (i := 6) (by kernel_rfl) rfl (fun K hK => ?_)
   try simp only [Act.put, setIfInBounds_toArray, set_cons_zero, set_cons_succ, getElem_toArray, getElem_cons_zero, getElem_cons_succ]
   rw [if_pos (by rfl)]
   go_simp
   (go_at_call 156; refine (LH2.out v1).mono ?_; rintro e v2 ⟨rfl, b2⟩; have Bv2 : Below W.heap.size W v2 := next_trans Bv1 b2; have hv2_0 : v2.cell? ⟨w.heap.size, 0, none⟩ = some (.slice A n cs) := (Bv2.cell (p := ⟨w.heap.size, 0, none⟩) ZA).trans K0; have hv2_1 : v2.cell? ⟨w.heap.size, 1, none⟩ = some (.slice V q cv) := (Bv2.cell (p := ⟨w.heap.size, 1, none⟩) ZA).trans K1; go_wp2_with fail)
   refine hK.out _ _ (fun _ _ => ?_) (fun hKeep => ?_)
   ·exact ⟨hv2_0, hv2_1⟩
   replace hHeld := hKeep (by first | rfl | trivial) hHeld
   clear hK K hKeep
   try simp only [Act.put, setIfInBounds_toArray, set_cons_zero, set_cons_succ, getElem_toArray, getElem_cons_zero, getElem_cons_succ]
   refine AnyT.takeA (i := 7) (v := ?_) rfl (by kernel_rfl) (by kernel_rfl) (by kernel_rfl) (fun _ _ _ h => h) (Or.inl ⟨by rfl, ?_⟩) ?_
   rotate_left 1
   ·(intro w0 _; go_simp; try with_reducible rfl)
   try simp only [Act.put, setIfInBounds_toArray, set_cons_zero, set_cons_succ, getElem_toArray, getElem_cons_zero, getElem_cons_succ]
   refine AnyT.takeA (i := 8) (v := ?_) rfl (by kernel_rfl) (by kernel_rfl) (by kernel_rfl) (fun _ _ _ h => h) (Or.inl ⟨by rfl, ?_⟩) ?_
   rotate_left 1
   ·(intro w0 _; go_simp; try with_reducible rfl)
   try simp only [Act.put, setIfInBounds_toArray, set_cons_zero, set_cons_succ, getElem_toArray, getElem_cons_zero, getElem_cons_succ]
   refine AnyT.takeA (i := 9) (v := undef) rfl (by kernel_rfl) (by kernel_rfl) (by kernel_rfl) (fun _ _ _ h => h) (Or.inr ⟨by rfl, rfl⟩) ?_
   try simp only [Act.put, setIfInBounds_toArray, set_cons_zero, set_cons_succ, getElem_toArray, getElem_cons_zero, getElem_cons_succ]
   refine AnyT.takeA (i := 10) (v := undef) rfl (by kernel_rfl) (by kernel_rfl) (by kernel_rfl) (fun _ _ _ h => h) (Or.inr ⟨by rfl, rfl⟩) ?_
   try simp only [Act.put, setIfInBounds_toArray, set_cons_zero, set_cons_succ, getElem_toArray, getElem_cons_zero, getElem_cons_succ]
   refine AnyT.takeA (i := 11) (v := undef) rfl (by kernel_rfl) (by kernel_rfl) (by kernel_rfl) (fun _ _ _ h => h) (Or.inr ⟨by rfl, rfl⟩) ?_
   try simp only [Act.put, setIfInBounds_toArray, set_cons_zero, set_cons_succ, getElem_toArray, getElem_cons_zero, getElem_cons_succ]
   refine AnyT.takeA (i := 12) (v := undef) rfl (by kernel_rfl) (by kernel_rfl) (by kernel_rfl) (fun _ _ _ h => h) (Or.inr ⟨by rfl, rfl⟩) ?_
   try simp only [Act.put, setIfInBounds_toArray, set_cons_zero, set_cons_succ, getElem_toArray, getElem_cons_zero, getElem_cons_succ]
   refine AnyT.takeA (i := 13) (v := undef) rfl (by kernel_rfl) (by kernel_rfl) (by kernel_rfl) (fun _ _ _ h => h) (Or.inr ⟨by rfl, rfl⟩) ?_
   try simp only [Act.put, setIfInBounds_toArray, set_cons_zero, set_cons_succ, getElem_toArray, getElem_cons_zero, getElem_cons_succ]
   refine AnyT.takeA (i := 14) (v := undef) rfl (by kernel_rfl) (by kernel_rfl) (by kernel_rfl) (fun _ _ _ h => h) (Or.inr ⟨by rfl, rfl⟩) ?_
   try simp only [Act.put, setIfInBounds_toArray, set_cons_zero, set_cons_succ, getElem_toArray, getElem_cons_zero, getElem_cons_succ]
   refine AnyT.takeA (i := 15) (v := undef) rfl (by kernel_rfl) (by kernel_rfl) (by kernel_rfl) (fun _ _ _ h => h) (Or.inr ⟨by rfl, rfl⟩) ?_
   try simp only [Act.put, setIfInBounds_toArray, set_cons_zero, set_cons_succ, getElem_toArray, getElem_cons_zero, getElem_cons_succ]
   refine AnyT.takeA (i := 16) (v := ?_) rfl (by kernel_rfl) (by kernel_rfl) (by kernel_rfl) (fun _ _ _ h => h) (Or.inl ⟨by rfl, ?_⟩) ?_
   rotate_left 1
   ·(intro w0 _; go_simp; try with_reducible rfl)
   try simp only [Act.put, setIfInBounds_toArray, set_cons_zero, set_cons_succ, getElem_toArray, getElem_cons_zero, getElem_cons_succ]
   refine AnyT.takeA (i := 17) (v := ?_) rfl (by kernel_rfl) (by kernel_rfl) (by kernel_rfl) (fun _ _ _ h => h) (Or.inl ⟨by rfl, ?_⟩) ?_
   rotate_left 1
   ·(intro w0 _; go_simp; try with_reducible rfl)
   try simp only [Act.put, setIfInBounds_toArray, set_cons_zero, set_cons_succ, getElem_toArray, getElem_cons_zero, getElem_cons_succ]
   refine AnyT.takeA (i := 18) (v := undef) rfl (by kernel_rfl) (by kernel_rfl) (by kernel_rfl) (fun _ _ _ h => h) (Or.inr ⟨by rfl, rfl⟩) ?_
   try simp only [Act.put, setIfInBounds_toArray, set_cons_zero, set_cons_succ, getElem_toArray, getElem_cons_zero, getElem_cons_succ]
   refine AnyT.takeA (i := 19) (v := undef) rfl (by kernel_rfl) (by kernel_rfl) (by kernel_rfl) (fun _ _ _ h => h) (Or.inr ⟨by rfl, rfl⟩) ?_
   try simp only [Act.put, setIfInBounds_toArray, set_cons_zero, set_cons_succ, getElem_toArray, getElem_cons_zero, getElem_cons_succ]
   refine AnyT.takeA (i := 20) (v := undef) rfl (by kernel_rfl) (by kernel_rfl) (by kernel_rfl) (fun _ _ _ h => h) (Or.inr ⟨by rfl, rfl⟩) ?_
   try simp only [Act.put, setIfInBounds_toArray, set_cons_zero, set_cons_succ, getElem_toArray, getElem_cons_zero, getElem_cons_succ]
   refine AnyT.takeA (i := 21) (v := undef) rfl (by kernel_rfl) (by kernel_rfl) (by kernel_rfl) (fun _ _ _ h => h) (Or.inr ⟨by rfl, rfl⟩) ?_
   try simp only [Act.put, setIfInBounds_toArray, set_cons_zero, set_cons_succ, getElem_toArray, getElem_cons_zero, getElem_cons_succ]
   refine AnyT.takeA (i := 22) (v := undef) rfl (by kernel_rfl) (by kernel_rfl) (by kernel_rfl) (fun _ _ _ h => h) (Or.inr ⟨by rfl, rfl⟩) ?_
   try simp only [Act.put, setIfInBounds_toArray, set_cons_zero, set_cons_succ, getElem_toArray, getElem_cons_zero, getElem_cons_succ]
   refine AnyT.takeA (i := 23) (v := undef) rfl (by kernel_rfl) (by kernel_rfl) (by kernel_rfl) (fun _ _ _ h => h) (Or.inr ⟨by rfl, rfl⟩) ?_
   try simp only [Act.put, setIfInBounds_toArray, set_cons_zero, set_cons_succ, getElem_toArray, getElem_cons_zero, getElem_cons_succ]
   refine AnyT.takeA (i := 24) (v := undef) rfl (by kernel_rfl) (by kernel_rfl) (by kernel_rfl) (fun _ _ _ h => h) (Or.inr ⟨by rfl, rfl⟩) ?_
   try simp only [Act.put, setIfInBounds_toArray, set_cons_zero, set_cons_succ, getElem_toArray, getElem_cons_zero, getElem_cons_succ]
   refine AnyT.takeA (i := 25) (v := undef) rfl (by kernel_rfl) (by kernel_rfl) (by kernel_rfl) (fun _ _ _ h => h) (Or.inr ⟨by rfl, rfl⟩) ?_
   try simp only [Act.put, setIfInBounds_toArray, set_cons_zero, set_cons_succ, getElem_toArray, getElem_cons_zero, getElem_cons_succ]
   refine AnyT.takeA (i := 27) (v := undef) rfl (by kernel_rfl) (by kernel_rfl) (by kernel_rfl) (fun _ _ _ h => h) (Or.inr ⟨by rfl, rfl⟩) ?_
   try simp only [Act.put, setIfInBounds_toArray, set_cons_zero, set_cons_succ, getElem_toArray, getElem_cons_zero, getElem_cons_succ]
   refine AnyT.call (i := 26) (by kernel_rfl) rfl (fun K hK => ?_)
   try simp only [Act.put, setIfInBounds_toArray, set_cons_zero, set_cons_succ, getElem_toArray, getElem_cons_zero, getElem_cons_succ]
   rw [if_neg (by intro h; cases h)]
   refine hK.out _ _ (fun _ h => h) (fun _ => ?_)
   clear hK K
   try simp only [Act.put, setIfInBounds_toArray, set_cons_zero, set_cons_succ, getElem_toArray, getElem_cons_zero, getElem_cons_succ]
   refine AnyT.call (i := 28) (by kernel_rfl) rfl (fun K hK => ?_)
   try simp only [Act.put, setIfInBounds_toArray, set_cons_zero, set_cons_succ, getElem_toArray, getElem_cons_zero, getElem_cons_succ]
   rw [if_neg (by intro h; cases h)]
   refine hK.out _ _ (fun _ h => h) (fun _ => ?_)
   clear hK K
   try simp only [Act.put, setIfInBounds_toArray, set_cons_zero, set_cons_succ, getElem_toArray, getElem_cons_zero, getElem_cons_succ]
   refine AnyT.takeA (i := 29) (v := ?_) rfl (by kernel_rfl) (by kernel_rfl) (by kernel_rfl) (fun _ _ _ h => h) (Or.inl ⟨by rfl, ?_⟩) ?_
   rotate_left 1
   ·(intro w0 _; go_simp; try with_reducible rfl)
   try simp only [Act.put, setIfInBounds_toArray, set_cons_zero, set_cons_succ, getElem_toArray, getElem_cons_zero, getElem_cons_succ]
   refine AnyT.takeA (i := 30) (v := ?_) rfl (by kernel_rfl) (by kernel_rfl) (by kernel_rfl) (fun _ _ _ h => h) (Or.inl ⟨by rfl, ?_⟩) ?_
   rotate_left 1
   ·(intro w0 _; go_simp; try with_reducible rfl)
   try simp only [Act.put, setIfInBounds_toArray, set_cons_zero, set_cons_succ, getElem_toArray, getElem_cons_zero, getElem_cons_succ]
   refine AnyT.done (by kernel_rfl) ?_ _
   have F := hid (ansB (b := mayB d.2 o x u) (a := false) HF.out.symm (next_trans BEL.out Bv2))
   clear b1 Bv1 b2 Bv2 LH1 LH2
   go_wp2
   go_ret
   exact F.out
  | true =>
   by_cases hax : x = 0 ∧ o = u
   ·obtain ⟨rfl, rfl⟩ := hax
    have HF := hid (show mayB d.2 o 0 o = false from may_no4 ⟨rfl, rfl⟩)
    clear hb1 hb2 hl hs hq hrs hsg hE bel
    go_enter Tryz.func128, Tryz.ntmps128
    go_upto_region 1 with fail
    rw [← HW.out]
    refine AnyT.start (S := (fun w' => w'.cell? ⟨w.heap.size, 0, none⟩ = some (.slice A n cs) ∧ w'.cell? ⟨w.heap.size, 1, none⟩ = some (.slice V q cv))) (fun _ => false) (by kernel_rfl) ⟨K0, K1⟩ (fun hHeld => ?_)
    refine AnyT.take (i := 0) (v := ?_) rfl (by kernel_rfl) (by kernel_rfl) (by kernel_rfl) (by kernel_rfl) (fun _ _ _ h => h) (Or.inl ⟨by rfl, ?_⟩) (by assumption) ?_
    rotate_left 1
    ·(intro w0 hSw; (try dsimp only at hSw); go_simp; try with_reducible rfl)
    try simp only [Act.put, setIfInBounds_toArray, set_cons_zero, set_cons_succ, getElem_toArray, getElem_cons_zero, getElem_cons_succ]
    refine AnyT.takeA (i := 1) (v := ?_) rfl (by kernel_rfl) (by kernel_rfl) (by kernel_rfl) (fun _ _ _ h => h) (Or.inl ⟨by rfl, ?_⟩) ?_
    rotate_left 1
    ·(intro w0 _; go_simp; try with_reducible rfl)
    try simp only [Act.put, setIfInBounds_toArray, set_cons_zero, set_cons_succ, getElem_toArray, getElem_cons_zero, getElem_cons_succ]
    refine AnyT.call (i := 2) (by kernel_rfl) rfl (fun K hK => ?_)
    try simp only [Act.put, setIfInBounds_toArray, set_cons_zero, set_cons_succ, getElem_toArray, getElem_cons_zero, getElem_cons_succ]
    rw [if_pos (by rfl)]
    go_simp
    (go_at_call 156; refine LH1.out.mono ?_; rintro e v1 ⟨rfl, b1⟩; have Bv1 : Below W.heap.size W v1 := next_trans (Below.refl W.heap.size W).drew b1; have hv1_0 : v1.cell? ⟨w.heap.size, 0, none⟩ = some (.slice A n cs) := (Bv1.cell (p := ⟨w.heap.size, 0, none⟩) ZA).trans K0; have hv1_1 : v1.cell? ⟨w.heap.size, 1, none⟩ = some (.slice V q cv) := (Bv1.cell (p := ⟨w.heap.size, 1, none⟩) ZA).trans K1; go_wp2_with fail)
    refine hK.out _ _ (fun _ _ => ?_) (fun hKeep => ?_)
    ·exact ⟨hv1_0, hv1_1⟩
    replace hHeld := hKeep (by first | rfl | trivial) hHeld
    clear hK K hKeep
    try simp only [Act.put, setIfInBounds_toArray, set_cons_zero, set_cons_succ, getElem_toArray, getElem_cons_zero, getElem_cons_succ]
    refine AnyT.takeA (i := 3) (v := ?_) rfl (by kernel_rfl) (by kernel_rfl) (by kernel_rfl) (fun _ _ _ h => h) (Or.inl ⟨by rfl, ?_⟩) ?_
    rotate_left 1
    ·(intro w0 _; go_simp; try with_reducible rfl)
    try simp only [Act.put, setIfInBounds_toArray, set_cons_zero, set_cons_succ, getElem_toArray, getElem_cons_zero, getElem_cons_succ]
    refine AnyT.take (i := 4) (v := ?_) rfl (by kernel_rfl) (by kernel_rfl) (by kernel_rfl) (by kernel_rfl) (fun _ _ _ h => h) (Or.inl ⟨by rfl, ?_⟩) (by assumption) ?_
    rotate_left 1
    ·(intro w0 hSw; (try dsimp only at hSw); go_simp; try with_reducible rfl)
    try simp only [Act.put, setIfInBounds_toArray, set_cons_zero, set_cons_succ, getElem_toArray, getElem_cons_zero, getElem_cons_succ]
    refine AnyT.takeA (i := 5) (v := ?_) rfl (by kernel_rfl) (by kernel_rfl) (by kernel_rfl) (fun _ _ _ h => h) (Or.inl ⟨by rfl, ?_⟩) ?_
    rotate_left 1
    ·(intro w0 _; go_simp; try with_reducible rfl)
    try simp only [Act.put, setIfInBounds_toArray, set_cons_zero, set_cons_succ, getElem_toArray, getElem_cons_zero, getElem_cons_succ]
    refine AnyT.call (i := 6) (by kernel_rfl) rfl (fun K hK => ?_)
    try simp only [Act.put, setIfInBounds_toArray, set_cons_zero, set_cons_succ, getElem_toArray, getElem_cons_zero, getElem_cons_succ]
    rw [if_pos (by rfl)]
    go_simp
    (go_at_call 156; refine (LH2.out v1).mono ?_; rintro e v2 ⟨rfl, b2⟩; have Bv2 : Below W.heap.size W v2 := next_trans Bv1 b2; have hv2_0 : v2.cell? ⟨w.heap.size, 0, none⟩ = some (.slice A n cs) := (Bv2.cell (p := ⟨w.heap.size, 0, none⟩) ZA).trans K0; have hv2_1 : v2.cell? ⟨w.heap.size, 1, none⟩ = some (.slice V q cv) := (Bv2.cell (p := ⟨w.heap.size, 1, none⟩) ZA).trans K1; go_wp2_with fail)
    refine hK.out _ _ (fun _ _ => ?_) (fun hKeep => ?_)
    ·exact ⟨hv2_0, hv2_1⟩
    replace hHeld := hKeep (by first | rfl | trivial) hHeld
    clear hK K hKeep
    try simp only [Act.put, setIfInBounds_toArray, set_cons_zero, set_cons_succ, getElem_toArray, getElem_cons_zero, getElem_cons_succ]
    refine AnyT.takeA (i := 7) (v := ?_) rfl (by kernel_rfl) (by kernel_rfl) (by kernel_rfl) (fun _ _ _ h => h) (Or.inl ⟨by rfl, ?_⟩) ?_
    rotate_left 1
    ·(intro w0 _; go_simp; try with_reducible rfl)
    try simp only [Act.put, setIfInBounds_toArray, set_cons_zero, set_cons_succ, getElem_toArray, getElem_cons_zero, getElem_cons_succ]
    refine AnyT.takeA (i := 8) (v := ?_) rfl (by kernel_rfl) (by kernel_rfl) (by kernel_rfl) (fun _ _ _ h => h) (Or.inl ⟨by rfl, ?_⟩) ?_
    rotate_left 1
    ·(intro w0 _; go_simp; try with_reducible rfl)
    try simp only [Act.put, setIfInBounds_toArray, set_cons_zero, set_cons_succ, getElem_toArray, getElem_cons_zero, getElem_cons_succ]
    refine AnyT.takeA (i := 9) (v := ?_) rfl (by kernel_rfl) (by kernel_rfl) (by kernel_rfl) (fun _ _ _ h => h) (Or.inl ⟨by rfl, ?_⟩) ?_
    rotate_left 1
    ·(intro w0 _; go_simp; try with_reducible rfl)
    try simp only [Act.put, setIfInBounds_toArray, set_cons_zero, set_cons_succ, getElem_toArray, getElem_cons_zero, getElem_cons_succ]
    refine AnyT.takeA (i := 10) (v := ?_) rfl (by kernel_rfl) (by kernel_rfl) (by kernel_rfl) (fun _ _ _ h => h) (Or.inl ⟨by rfl, ?_⟩) ?_
    rotate_left 1
    ·(intro w0 _; go_simp; try with_reducible rfl)
    try simp only [Act.put, setIfInBounds_toArray, set_cons_zero, set_cons_succ, getElem_toArray, getElem_cons_zero, getElem_cons_succ]
    refine AnyT.takeA (i := 11) (v := ?_) rfl (by kernel_rfl) (by kernel_rfl) (by kernel_rfl) (fun _ _ _ h => h) (Or.inl ⟨by rfl, ?_⟩) ?_
    rotate_left 1
    ·(intro w0 _; go_simp; try with_reducible rfl)
    try simp only [Act.put, setIfInBounds_toArray, set_cons_zero, set_cons_succ, getElem_toArray, getElem_cons_zero, getElem_cons_succ]
    refine AnyT.takeA (i := 12) (v := ?_) rfl (by kernel_rfl) (by kernel_rfl) (by kernel_rfl) (fun _ _ _ h => h) (Or.inl ⟨by rfl, ?_⟩) ?_
    rotate_left 1
    ·(intro w0 _; go_simp; try with_reducible rfl)
    try simp only [Act.put, setIfInBounds_toArray, set_cons_zero, set_cons_succ, getElem_toArray, getElem_cons_zero, getElem_cons_succ]
    refine AnyT.takeA (i := 13) (v := ?_) rfl (by kernel_rfl) (by kernel_rfl) (by kernel_rfl) (fun _ _ _ h => h) (Or.inl ⟨by rfl, ?_⟩) ?_
    rotate_left 1
    ·(intro w0 _; go_simp; try with_reducible rfl)
    try simp only [Act.put, setIfInBounds_toArray, set_cons_zero, set_cons_succ, getElem_toArray, getElem_cons_zero, getElem_cons_succ]
    refine AnyT.takeA (i := 14) (v := ?_) rfl (by kernel_rfl) (by kernel_rfl) (by kernel_rfl) (fun _ _ _ h => h) (Or.inl ⟨by rfl, ?_⟩) ?_
    rotate_left 1
    ·(intro w0 _; go_simp; try with_reducible rfl)
    try simp only [Act.put, setIfInBounds_toArray, set_cons_zero, set_cons_succ, getElem_toArray, getElem_cons_zero, getElem_cons_succ]
    refine AnyT.takeA (i := 15) (v := ?_) rfl (by kernel_rfl) (by kernel_rfl) (by kernel_rfl) (fun _ _ _ h => h) (Or.inl ⟨by rfl, ?_⟩) ?_
    rotate_left 1
    ·(intro w0 _; go_simp; try with_reducible rfl)
    try simp only [Act.put, setIfInBounds_toArray, set_cons_zero, set_cons_succ, getElem_toArray, getElem_cons_zero, getElem_cons_succ]
    refine AnyT.takeA (i := 16) (v := ?_) rfl (by kernel_rfl) (by kernel_rfl) (by kernel_rfl) (fun _ _ _ h => h) (Or.inl ⟨by rfl, ?_⟩) ?_
    rotate_left 1
    ·(intro w0 _; go_simp; try with_reducible rfl)
    try simp only [Act.put, setIfInBounds_toArray, set_cons_zero, set_cons_succ, getElem_toArray, getElem_cons_zero, getElem_cons_succ]
    refine AnyT.takeA (i := 17) (v := ?_) rfl (by kernel_rfl) (by kernel_rfl) (by kernel_rfl) (fun _ _ _ h => h) (Or.inl ⟨by rfl, ?_⟩) ?_
    rotate_left 1
    ·(intro w0 _; go_simp; try with_reducible rfl)
    try simp only [Act.put, setIfInBounds_toArray, set_cons_zero, set_cons_succ, getElem_toArray, getElem_cons_zero, getElem_cons_succ]
    refine AnyT.takeA (i := 18) (v := undef) rfl (by kernel_rfl) (by kernel_rfl) (by kernel_rfl) (fun _ _ _ h => h) (Or.inr ⟨by rfl, rfl⟩) ?_
    try simp only [Act.put, setIfInBounds_toArray, set_cons_zero, set_cons_succ, getElem_toArray, getElem_cons_zero, getElem_cons_succ]
    refine AnyT.takeA (i := 19) (v := undef) rfl (by kernel_rfl) (by kernel_rfl) (by kernel_rfl) (fun _ _ _ h => h) (Or.inr ⟨by rfl, rfl⟩) ?_
    try simp only [Act.put, setIfInBounds_toArray, set_cons_zero, set_cons_succ, getElem_toArray, getElem_cons_zero, getElem_cons_succ]
    refine AnyT.takeA (i := 20) (v := undef) rfl (by kernel_rfl) (by kernel_rfl) (by kernel_rfl) (fun _ _ _ h => h) (Or.inr ⟨by rfl, rfl⟩) ?_
    try simp only [Act.put, setIfInBounds_toArray, set_cons_zero, set_cons_succ, getElem_toArray, getElem_cons_zero, getElem_cons_succ]
    refine AnyT.takeA (i := 21) (v := undef) rfl (by kernel_rfl) (by kernel_rfl) (by kernel_rfl) (fun _ _ _ h => h) (Or.inr ⟨by rfl, rfl⟩) ?_
    try simp only [Act.put, setIfInBounds_toArray, set_cons_zero, set_cons_succ, getElem_toArray, getElem_cons_zero, getElem_cons_succ]
    refine AnyT.takeA (i := 22) (v := undef) rfl (by kernel_rfl) (by kernel_rfl) (by kernel_rfl) (fun _ _ _ h => h) (Or.inr ⟨by rfl, rfl⟩) ?_
    try simp only [Act.put, setIfInBounds_toArray, set_cons_zero, set_cons_succ, getElem_toArray, getElem_cons_zero, getElem_cons_succ]
    refine AnyT.takeA (i := 23) (v := undef) rfl (by kernel_rfl) (by kernel_rfl) (by kernel_rfl) (fun _ _ _ h => h) (Or.inr ⟨by rfl, rfl⟩) ?_
    try simp only [Act.put, setIfInBounds_toArray, set_cons_zero, set_cons_succ, getElem_toArray, getElem_cons_zero, getElem_cons_succ]
    refine AnyT.takeA (i := 24) (v := undef) rfl (by kernel_rfl) (by kernel_rfl) (by kernel_rfl) (fun _ _ _ h => h) (Or.inr ⟨by rfl, rfl⟩) ?_
    try simp only [Act.put, setIfInBounds_toArray, set_cons_zero, set_cons_succ, getElem_toArray, getElem_cons_zero, getElem_cons_succ]
    refine AnyT.takeA (i := 25) (v := undef) rfl (by kernel_rfl) (by kernel_rfl) (by kernel_rfl) (fun _ _ _ h => h) (Or.inr ⟨by rfl, rfl⟩) ?_
    try simp only [Act.put, setIfInBounds_toArray, set_cons_zero, set_cons_succ, getElem_toArray, getElem_cons_zero, getElem_cons_succ]
    refine AnyT.takeA (i := 27) (v := undef) rfl (by kernel_rfl) (by kernel_rfl) (by kernel_rfl) (fun _ _ _ h => h) (Or.inr ⟨by rfl, rfl⟩) ?_
    try simp only [Act.put, setIfInBounds_toArray, set_cons_zero, set_cons_succ, getElem_toArray, getElem_cons_zero, getElem_cons_succ]
    refine AnyT.call (i := 26) (by kernel_rfl) rfl (fun K hK => ?_)
    try simp only [Act.put, setIfInBounds_toArray, set_cons_zero, set_cons_succ, getElem_toArray, getElem_cons_zero, getElem_cons_succ]
    rw [if_neg (by intro h; cases h)]
    refine hK.out _ _ (fun _ h => h) (fun _ => ?_)
    clear hK K
    try simp only [Act.put, setIfInBounds_toArray, set_cons_zero, set_cons_succ, getElem_toArray, getElem_cons_zero, getElem_cons_succ]
    refine AnyT.call (i := 28) (by kernel_rfl) rfl (fun K hK => ?_)
    try simp only [Act.put, setIfInBounds_toArray, set_cons_zero, set_cons_succ, getElem_toArray, getElem_cons_zero, getElem_cons_succ]
    rw [if_neg (by intro h; cases h)]
    refine hK.out _ _ (fun _ h => h) (fun _ => ?_)
    clear hK K
    try simp only [Act.put, setIfInBounds_toArray, set_cons_zero, set_cons_succ, getElem_toArray, getElem_cons_zero, getElem_cons_succ]
    refine AnyT.takeA (i := 29) (v := ?_) rfl (by kernel_rfl) (by kernel_rfl) (by kernel_rfl) (fun _ _ _ h => h) (Or.inl ⟨by rfl, ?_⟩) ?_
    rotate_left 1
    ·(intro w0 _; go_simp; try with_reducible rfl)
    try simp only [Act.put, setIfInBounds_toArray, set_cons_zero, set_cons_succ, getElem_toArray, getElem_cons_zero, getElem_cons_succ]
    refine AnyT.takeA (i := 30) (v := ?_) rfl (by kernel_rfl) (by kernel_rfl) (by kernel_rfl) (fun _ _ _ h => h) (Or.inl ⟨by rfl, ?_⟩) ?_
    rotate_left 1
    ·(intro w0 _; go_simp; try with_reducible rfl)
    try simp only [Act.put, setIfInBounds_toArray, set_cons_zero, set_cons_succ, getElem_toArray, getElem_cons_zero, getElem_cons_succ]
    refine AnyT.done (by kernel_rfl) ?_ _
    have F := hid (ansB (b := mayB d.2 o 0 o) (a := false) HF.out.symm (next_trans BEL.out Bv2))
    clear b1 Bv1 b2 Bv2 LH1 LH2
    go_wp2
    go_ret
    exact F.out
   ·have hkk : 0 ≤ o ∧ o < (q : Int) := of_decide_eq_true hb1
    obtain ⟨k, rfl⟩ := Int.eq_ofNat_of_zero_le hkk.1
    have hkq : k < q := by omega
    have hkl : k < d.2.length := by rw [hq]; exact hkq
    obtain ⟨b, off, l, r, y, rfl, hb, ex, c0, -, hy⟩ := rd_at hrs bel hq hkq
    have hzy : sz sRule y ≤ 1048576 := by rw [← ex.out]; exact hE k hkq
    obtain ⟨L, ln, lc, L', ln', lc', rfl, rfl, sL, qL, -, -, hln, -⟩ := rd_rule hy hzy
    have tL : termOkB d.1 y.1 = true := by rw [← ex.out]; exact hl k hkl
    have HSY := hid (symI_len (sg := d.1) sL.1 hln)
    have LS := hid (fun (w1 : World) (bb : Below W.heap.size W w1) => implSym A L n cs ln lc d.1 y.1 w1 ((hs.next bel).next bb) ((sL.more bel.size).next bb) hn hln)
    have HV := hid (show mayB d.2 (k : Int) x u = decide (x ∈ symI d.1 y.1) by
     rw [sym_mem tL]
     unfold mayB
     rw [hq, hb1, hb2, decide_eq_false hax]
     unfold lhsI
     rw [Int.toNat_natCast, ex.out]
     simp)
    have K2 : W.cell? ⟨b, off + k * 2, none⟩ = some (.slice L ln lc) := c0
    have ZB : b < W.heap.size := by have := bel.size; omega
    have i0 : (0 : Int) ≤ (k : Int) := by omega
    have i1 : (k : Int) < (q : Int) := by omega
    clear hb1 hb2 hl hs hq hrs hsg hE bel hkk hy hzy sL qL tL ex c0 hkl
    by_cases hou : (k : Int) = u
    ·have hx0 : ¬ x = 0 := fun q => hax ⟨q, hou⟩
     subst hou
     clear hax
     go_enter Tryz.func128, Tryz.ntmps128
     go_upto_region 1 with fail
     rw [← HW.out]
     refine AnyT.start (S := (fun w' => w'.cell? ⟨w.heap.size, 0, none⟩ = some (.slice A n cs) ∧ w'.cell? ⟨w.heap.size, 1, none⟩ = some (.slice (some ⟨b, off, none⟩) q cv) ∧ w'.cell? ⟨b, off + k * 2, none⟩ = some (.slice L ln lc))) (fun _ => false) (by kernel_rfl) ⟨K0, K1, K2⟩ (fun hHeld => ?_)
     refine AnyT.take (i := 0) (v := ?_) rfl (by kernel_rfl) (by kernel_rfl) (by kernel_rfl) (by kernel_rfl) (fun _ _ _ h => h) (Or.inl ⟨by rfl, ?_⟩) (by assumption) ?_
     rotate_left 1
     ·(intro w0 hSw; (try dsimp only at hSw); go_simp; try with_reducible rfl)
     try simp only [Act.put, setIfInBounds_toArray, set_cons_zero, set_cons_succ, getElem_toArray, getElem_cons_zero, getElem_cons_succ]
     refine AnyT.takeA (i := 1) (v := ?_) rfl (by kernel_rfl) (by kernel_rfl) (by kernel_rfl) (fun _ _ _ h => h) (Or.inl ⟨by rfl, ?_⟩) ?_
     rotate_left 1
     ·(intro w0 _; go_simp; try with_reducible rfl)
     try simp only [Act.put, setIfInBounds_toArray, set_cons_zero, set_cons_succ, getElem_toArray, getElem_cons_zero, getElem_cons_succ]
     refine AnyT.call (i := 2) (by kernel_rfl) rfl (fun K hK => ?_)
     try simp only [Act.put, setIfInBounds_toArray, set_cons_zero, set_cons_succ, getElem_toArray, getElem_cons_zero, getElem_cons_succ]
     rw [if_pos (by rfl)]
     go_simp
     (go_at_call 156; refine LH1.out.mono ?_; rintro e v1 ⟨rfl, b1⟩; have Bv1 : Below W.heap.size W v1 := next_trans (Below.refl W.heap.size W).drew b1; have hv1_0 : v1.cell? ⟨w.heap.size, 0, none⟩ = some (.slice A n cs) := (Bv1.cell (p := ⟨w.heap.size, 0, none⟩) ZA).trans K0; have hv1_1 : v1.cell? ⟨w.heap.size, 1, none⟩ = some (.slice (some ⟨b, off, none⟩) q cv) := (Bv1.cell (p := ⟨w.heap.size, 1, none⟩) ZA).trans K1; have hv1_2 : v1.cell? ⟨b, off + k * 2, none⟩ = some (.slice L ln lc) := (Bv1.cell (p := ⟨b, off + k * 2, none⟩) ZB).trans K2; go_wp2_with fail)
     refine hK.out _ _ (fun _ _ => ?_) (fun hKeep => ?_)
     ·exact ⟨hv1_0, hv1_1, hv1_2⟩
     replace hHeld := hKeep (by first | rfl | trivial) hHeld
     clear hK K hKeep
     try simp only [Act.put, setIfInBounds_toArray, set_cons_zero, set_cons_succ, getElem_toArray, getElem_cons_zero, getElem_cons_succ]
     refine AnyT.takeA (i := 3) (v := ?_) rfl (by kernel_rfl) (by kernel_rfl) (by kernel_rfl) (fun _ _ _ h => h) (Or.inl ⟨by rfl, ?_⟩) ?_
     rotate_left 1
     ·(intro w0 _; go_simp; try with_reducible rfl)
     try simp only [Act.put, setIfInBounds_toArray, set_cons_zero, set_cons_succ, getElem_toArray, getElem_cons_zero, getElem_cons_succ]
     refine AnyT.take (i := 4) (v := ?_) rfl (by kernel_rfl) (by kernel_rfl) (by kernel_rfl) (by kernel_rfl) (fun _ _ _ h => h) (Or.inl ⟨by rfl, ?_⟩) (by assumption) ?_
     rotate_left 1
     ·(intro w0 hSw; (try dsimp only at hSw); go_simp; try with_reducible rfl)
     try simp only [Act.put, setIfInBounds_toArray, set_cons_zero, set_cons_succ, getElem_toArray, getElem_cons_zero, getElem_cons_succ]
     refine AnyT.takeA (i := 5) (v := ?_) rfl (by kernel_rfl) (by kernel_rfl) (by kernel_rfl) (fun _ _ _ h => h) (Or.inl ⟨by rfl, ?_⟩) ?_
     rotate_left 1
     ·(intro w0 _; go_simp; try with_reducible rfl)
     try simp only [Act.put, setIfInBounds_toArray, set_cons_zero, set_cons_succ, getElem_toArray, getElem_cons_zero, getElem_cons_succ]
     refine AnyT.call (i := 6) (by kernel_rfl) rfl (fun K hK => ?_)
     try simp only [Act.put, setIfInBounds_toArray, set_cons_zero, set_cons_succ, getElem_toArray, getElem_cons_zero, getElem_cons_succ]
     rw [if_pos (by rfl)]
     go_simp
     (go_at_call 156; refine (LH2.out v1).mono ?_; rintro e v2 ⟨rfl, b2⟩; have Bv2 : Below W.heap.size W v2 := next_trans Bv1 b2; have hv2_0 : v2.cell? ⟨w.heap.size, 0, none⟩ = some (.slice A n cs) := (Bv2.cell (p := ⟨w.heap.size, 0, none⟩) ZA).trans K0; have hv2_1 : v2.cell? ⟨w.heap.size, 1, none⟩ = some (.slice (some ⟨b, off, none⟩) q cv) := (Bv2.cell (p := ⟨w.heap.size, 1, none⟩) ZA).trans K1; have hv2_2 : v2.cell? ⟨b, off + k * 2, none⟩ = some (.slice L ln lc) := (Bv2.cell (p := ⟨b, off + k * 2, none⟩) ZB).trans K2; go_wp2_with fail)
     refine hK.out _ _ (fun _ _ => ?_) (fun hKeep => ?_)
     ·exact ⟨hv2_0, hv2_1, hv2_2⟩
     replace hHeld := hKeep (by first | rfl | trivial) hHeld
     clear hK K hKeep
     try simp only [Act.put, setIfInBounds_toArray, set_cons_zero, set_cons_succ, getElem_toArray, getElem_cons_zero, getElem_cons_succ]
     refine AnyT.takeA (i := 7) (v := ?_) rfl (by kernel_rfl) (by kernel_rfl) (by kernel_rfl) (fun _ _ _ h => h) (Or.inl ⟨by rfl, ?_⟩) ?_
     rotate_left 1
     ·(intro w0 _; go_simp; try with_reducible rfl)
     try simp only [Act.put, setIfInBounds_toArray, set_cons_zero, set_cons_succ, getElem_toArray, getElem_cons_zero, getElem_cons_succ]
     refine AnyT.takeA (i := 8) (v := ?_) rfl (by kernel_rfl) (by kernel_rfl) (by kernel_rfl) (fun _ _ _ h => h) (Or.inl ⟨by rfl, ?_⟩) ?_
     rotate_left 1
     ·(intro w0 _; go_simp; try with_reducible rfl)
     try simp only [Act.put, setIfInBounds_toArray, set_cons_zero, set_cons_succ, getElem_toArray, getElem_cons_zero, getElem_cons_succ]
     refine AnyT.takeA (i := 9) (v := ?_) rfl (by kernel_rfl) (by kernel_rfl) (by kernel_rfl) (fun _ _ _ h => h) (Or.inl ⟨by rfl, ?_⟩) ?_
     rotate_left 1
     ·(intro w0 _; go_simp; try with_reducible rfl)
     try simp only [Act.put, setIfInBounds_toArray, set_cons_zero, set_cons_succ, getElem_toArray, getElem_cons_zero, getElem_cons_succ]
     refine AnyT.takeA (i := 10) (v := ?_) rfl (by kernel_rfl) (by kernel_rfl) (by kernel_rfl) (fun _ _ _ h => h) (Or.inl ⟨by rfl, ?_⟩) ?_
     rotate_left 1
     ·(intro w0 _; go_simp; try with_reducible rfl)
     try simp only [Act.put, setIfInBounds_toArray, set_cons_zero, set_cons_succ, getElem_toArray, getElem_cons_zero, getElem_cons_succ]
     refine AnyT.takeA (i := 11) (v := .bool false) rfl (by kernel_rfl) (by kernel_rfl) (by kernel_rfl) (fun _ _ _ h => h) (Or.inl ⟨by rfl, fun w0 _ => (by (try go_simp); (try simp))⟩) ?_
     try simp only [Act.put, setIfInBounds_toArray, set_cons_zero, set_cons_succ, getElem_toArray, getElem_cons_zero, getElem_cons_succ]
     refine AnyT.takeA (i := 12) (v := ?_) rfl (by kernel_rfl) (by kernel_rfl) (by kernel_rfl) (fun _ _ _ h => h) (Or.inl ⟨by rfl, ?_⟩) ?_
     rotate_left 1
     ·(intro w0 _; go_simp; try with_reducible rfl)
     try simp only [Act.put, setIfInBounds_toArray, set_cons_zero, set_cons_succ, getElem_toArray, getElem_cons_zero, getElem_cons_succ]
     refine AnyT.takeA (i := 13) (v := ?_) rfl (by kernel_rfl) (by kernel_rfl) (by kernel_rfl) (fun _ _ _ h => h) (Or.inl ⟨by rfl, ?_⟩) ?_
     rotate_left 1
     ·(intro w0 _; go_simp; try with_reducible rfl)
     try simp only [Act.put, setIfInBounds_toArray, set_cons_zero, set_cons_succ, getElem_toArray, getElem_cons_zero, getElem_cons_succ]
     refine AnyT.takeA (i := 14) (v := .bool true) rfl (by kernel_rfl) (by kernel_rfl) (by kernel_rfl) (fun _ _ _ h => h) (Or.inl ⟨by rfl, fun w0 _ => (by (try go_simp); (try simp [hx0]))⟩) ?_
     try simp only [Act.put, setIfInBounds_toArray, set_cons_zero, set_cons_succ, getElem_toArray, getElem_cons_zero, getElem_cons_succ]
     refine AnyT.takeA (i := 15) (v := ?_) rfl (by kernel_rfl) (by kernel_rfl) (by kernel_rfl) (fun _ _ _ h => h) (Or.inl ⟨by rfl, ?_⟩) ?_
     rotate_left 1
     ·(intro w0 _; go_simp; try with_reducible rfl)
     try simp only [Act.put, setIfInBounds_toArray, set_cons_zero, set_cons_succ, getElem_toArray, getElem_cons_zero, getElem_cons_succ]
     refine AnyT.takeA (i := 16) (v := ?_) rfl (by kernel_rfl) (by kernel_rfl) (by kernel_rfl) (fun _ _ _ h => h) (Or.inl ⟨by rfl, ?_⟩) ?_
     rotate_left 1
     ·(intro w0 _; go_simp; try with_reducible rfl)
     try simp only [Act.put, setIfInBounds_toArray, set_cons_zero, set_cons_succ, getElem_toArray, getElem_cons_zero, getElem_cons_succ]
     refine AnyT.takeA (i := 17) (v := ?_) rfl (by kernel_rfl) (by kernel_rfl) (by kernel_rfl) (fun _ _ _ h => h) (Or.inl ⟨by rfl, ?_⟩) ?_
     rotate_left 1
     ·(intro w0 _; go_simp; try with_reducible rfl)
     try simp only [Act.put, setIfInBounds_toArray, set_cons_zero, set_cons_succ, getElem_toArray, getElem_cons_zero, getElem_cons_succ]
     refine AnyT.takeA (i := 18) (v := ?_) rfl (by kernel_rfl) (by kernel_rfl) (by kernel_rfl) (fun _ _ _ h => h) (Or.inl ⟨by rfl, ?_⟩) ?_
     rotate_left 1
     ·(intro w0 _; go_simp; try with_reducible rfl)
     try simp only [Act.put, setIfInBounds_toArray, set_cons_zero, set_cons_succ, getElem_toArray, getElem_cons_zero, getElem_cons_succ]
     refine AnyT.take (i := 19) (v := ?_) rfl (by kernel_rfl) (by kernel_rfl) (by kernel_rfl) (by kernel_rfl) (fun _ _ _ h => h) (Or.inl ⟨by rfl, ?_⟩) (by assumption) ?_
     rotate_left 1
     ·(intro w0 hSw; (try dsimp only at hSw); go_simp; try with_reducible rfl)
     try simp only [Act.put, setIfInBounds_toArray, set_cons_zero, set_cons_succ, getElem_toArray, getElem_cons_zero, getElem_cons_succ]
     refine AnyT.takeA (i := 20) (v := ?_) rfl (by kernel_rfl) (by kernel_rfl) (by kernel_rfl) (fun _ _ _ h => h) (Or.inl ⟨by rfl, ?_⟩) ?_
     rotate_left 1
     ·(intro w0 _; go_simp; try with_reducible rfl)
     try simp only [Act.put, setIfInBounds_toArray, set_cons_zero, set_cons_succ, getElem_toArray, getElem_cons_zero, getElem_cons_succ]
     refine AnyT.take (i := 21) (v := ?_) rfl (by kernel_rfl) (by kernel_rfl) (by kernel_rfl) (by kernel_rfl) (fun _ _ _ h => h) (Or.inl ⟨by rfl, ?_⟩) (by assumption) ?_
     rotate_left 1
     ·(intro w0 hSw; (try dsimp only at hSw); go_simp; try with_reducible rfl)
     try simp only [Act.put, setIfInBounds_toArray, set_cons_zero, set_cons_succ, getElem_toArray, getElem_cons_zero, getElem_cons_succ]
     refine AnyT.takeA (i := 22) (v := ?_) rfl (by kernel_rfl) (by kernel_rfl) (by kernel_rfl) (fun _ _ _ h => h) (Or.inl ⟨by rfl, ?_⟩) ?_
     rotate_left 1
     ·(intro w0 _; go_simp; try with_reducible rfl)
     try simp only [Act.put, setIfInBounds_toArray, set_cons_zero, set_cons_succ, getElem_toArray, getElem_cons_zero, getElem_cons_succ]
     refine AnyT.takeA (i := 23) (v := ?_) rfl (by kernel_rfl) (by kernel_rfl) (by kernel_rfl) (fun _ _ _ h => h) (Or.inl ⟨by rfl, ?_⟩) ?_
     rotate_left 1
     ·(intro w0 _; go_simp; try with_reducible rfl)
     try simp only [Act.put, setIfInBounds_toArray, set_cons_zero, set_cons_succ, getElem_toArray, getElem_cons_zero, getElem_cons_succ]
     refine AnyT.takeA (i := 24) (v := ?_) rfl (by kernel_rfl) (by kernel_rfl) (by kernel_rfl) (fun _ _ _ h => h) (Or.inl ⟨by rfl, ?_⟩) ?_
     rotate_left 1
     ·(intro w0 _; go_simp; try with_reducible rfl)
     try simp only [Act.put, setIfInBounds_toArray, set_cons_zero, set_cons_succ, getElem_toArray, getElem_cons_zero, getElem_cons_succ]
     refine AnyT.take (i := 25) (v := ?_) rfl (by kernel_rfl) (by kernel_rfl) (by kernel_rfl) (by kernel_rfl) (fun _ _ _ h => h) (Or.inl ⟨by rfl, ?_⟩) (by assumption) ?_
     rotate_left 1
     ·(intro w0 hSw; (try dsimp only at hSw); go_simp; try with_reducible rfl)
     try simp only [Act.put, setIfInBounds_toArray, set_cons_zero, set_cons_succ, getElem_toArray, getElem_cons_zero, getElem_cons_succ]
     refine AnyT.takeA (i := 27) (v := ?_) rfl (by kernel_rfl) (by kernel_rfl) (by kernel_rfl) (fun _ _ _ h => h) (Or.inl ⟨by rfl, ?_⟩) ?_
     rotate_left 1
     ·(intro w0 _; go_simp; try with_reducible rfl)
     try simp only [Act.put, setIfInBounds_toArray, set_cons_zero, set_cons_succ, getElem_toArray, getElem_cons_zero, getElem_cons_succ]
     refine AnyT.call (i := 26) (by kernel_rfl) rfl (fun K hK => ?_)
     try simp only [Act.put, setIfInBounds_toArray, set_cons_zero, set_cons_succ, getElem_toArray, getElem_cons_zero, getElem_cons_succ]
     rw [if_pos (by rfl)]
     go_simp
     (go_at_call 157; refine (LS.out v2 Bv2).mono ?_; rintro e v3 ⟨P, pn, pc, rfl, oP, b3⟩; have Bv3 : Below W.heap.size W v3 := next_trans Bv2 b3; have hv3_0 : v3.cell? ⟨w.heap.size, 0, none⟩ = some (.slice A n cs) := (Bv3.cell (p := ⟨w.heap.size, 0, none⟩) ZA).trans K0; have hv3_1 : v3.cell? ⟨w.heap.size, 1, none⟩ = some (.slice (some ⟨b, off, none⟩) q cv) := (Bv3.cell (p := ⟨w.heap.size, 1, none⟩) ZA).trans K1; have hv3_2 : v3.cell? ⟨b, off + k * 2, none⟩ = some (.slice L ln lc) := (Bv3.cell (p := ⟨b, off + k * 2, none⟩) ZB).trans K2; go_wp2_with fail)
     refine hK.out _ _ (fun _ _ => ?_) (fun hKeep => ?_)
     ·exact ⟨hv3_0, hv3_1, hv3_2⟩
     replace hHeld := hKeep (by first | rfl | trivial) hHeld
     clear hK K hKeep
     try simp only [Act.put, setIfInBounds_toArray, set_cons_zero, set_cons_succ, getElem_toArray, getElem_cons_zero, getElem_cons_succ]
     refine AnyT.call (i := 28) (by kernel_rfl) rfl (fun K hK => ?_)
     try simp only [Act.put, setIfInBounds_toArray, set_cons_zero, set_cons_succ, getElem_toArray, getElem_cons_zero, getElem_cons_succ]
     rw [if_pos (by rfl)]
     go_simp
     (go_at_call 122; refine (containsI P pn pc _ x v3 (Own.seg oP) (by have q1 := Own.len oP; have q2 := HSY.out; omega)).mono ?_; rintro e v4 ⟨rfl, rfl⟩; go_wp2_with fail)
     refine hK.out _ _ (fun _ _ => ?_) (fun hKeep => ?_)
     ·exact ⟨hv3_0, hv3_1, hv3_2⟩
     replace hHeld := hKeep (by first | rfl | trivial) hHeld
     clear hK K hKeep
     try simp only [Act.put, setIfInBounds_toArray, set_cons_zero, set_cons_succ, getElem_toArray, getElem_cons_zero, getElem_cons_succ]
     refine AnyT.takeA (i := 29) (v := ?_) rfl (by kernel_rfl) (by kernel_rfl) (by kernel_rfl) (fun _ _ _ h => h) (Or.inl ⟨by rfl, ?_⟩) ?_
     rotate_left 1
     ·(intro w0 _; go_simp; try with_reducible rfl)
     try simp only [Act.put, setIfInBounds_toArray, set_cons_zero, set_cons_succ, getElem_toArray, getElem_cons_zero, getElem_cons_succ]
     refine AnyT.takeA (i := 30) (v := ?_) rfl (by kernel_rfl) (by kernel_rfl) (by kernel_rfl) (fun _ _ _ h => h) (Or.inl ⟨by rfl, ?_⟩) ?_
     rotate_left 1
     ·(intro w0 _; go_simp; try with_reducible rfl)
     try simp only [Act.put, setIfInBounds_toArray, set_cons_zero, set_cons_succ, getElem_toArray, getElem_cons_zero, getElem_cons_succ]
     refine AnyT.done (by kernel_rfl) ?_ _
     have F := hid (ansB (b := mayB d.2 (k : Int) x (k : Int)) (a := decide (x ∈ symI d.1 y.1)) HV.out.symm (next_trans BEL.out Bv3))
     clear b1 Bv1 b2 Bv2 b3 Bv3 oP LH1 LH2 LS
     generalize decide (x ∈ symI d.1 y.1) = bz at *
     go_wp2
     go_ret
     exact F.out
    ·clear hax
     go_enter Tryz.func128, Tryz.ntmps128
     go_upto_region 1 with fail
     rw [← HW.out]
     refine AnyT.start (S := (fun w' => w'.cell? ⟨w.heap.size, 0, none⟩ = some (.slice A n cs) ∧ w'.cell? ⟨w.heap.size, 1, none⟩ = some (.slice (some ⟨b, off, none⟩) q cv) ∧ w'.cell? ⟨b, off + k * 2, none⟩ = some (.slice L ln lc))) (fun _ => false) (by kernel_rfl) ⟨K0, K1, K2⟩ (fun hHeld => ?_)
     refine AnyT.take (i := 0) (v := ?_) rfl (by kernel_rfl) (by kernel_rfl) (by kernel_rfl) (by kernel_rfl) (fun _ _ _ h => h) (Or.inl ⟨by rfl, ?_⟩) (by assumption) ?_
     rotate_left 1
     ·(intro w0 hSw; (try dsimp only at hSw); go_simp; try with_reducible rfl)
     try simp only [Act.put, setIfInBounds_toArray, set_cons_zero, set_cons_succ, getElem_toArray, getElem_cons_zero, getElem_cons_succ]
     refine AnyT.takeA (i := 1) (v := ?_) rfl (by kernel_rfl) (by kernel_rfl) (by kernel_rfl) (fun _ _ _ h => h) (Or.inl ⟨by rfl, ?_⟩) ?_
     rotate_left 1
     ·(intro w0 _; go_simp; try with_reducible rfl)
     try simp only [Act.put, setIfInBounds_toArray, set_cons_zero, set_cons_succ, getElem_toArray, getElem_cons_zero, getElem_cons_succ]
     refine AnyT.call (i := 2) (by kernel_rfl) rfl (fun K hK => ?_)
     try simp only [Act.put, setIfInBounds_toArray, set_cons_zero, set_cons_succ, getElem_toArray, getElem_cons_zero, getElem_cons_succ]
     rw [if_pos (by rfl)]
     go_simp
     (go_at_call 156; refine LH1.out.mono ?_; rintro e v1 ⟨rfl, b1⟩; have Bv1 : Below W.heap.size W v1 := next_trans (Below.refl W.heap.size W).drew b1; have hv1_0 : v1.cell? ⟨w.heap.size, 0, none⟩ = some (.slice A n cs) := (Bv1.cell (p := ⟨w.heap.size, 0, none⟩) ZA).trans K0; have hv1_1 : v1.cell? ⟨w.heap.size, 1, none⟩ = some (.slice (some ⟨b, off, none⟩) q cv) := (Bv1.cell (p := ⟨w.heap.size, 1, none⟩) ZA).trans K1; have hv1_2 : v1.cell? ⟨b, off + k * 2, none⟩ = some (.slice L ln lc) := (Bv1.cell (p := ⟨b, off + k * 2, none⟩) ZB).trans K2; go_wp2_with fail)
     refine hK.out _ _ (fun _ _ => ?_) (fun hKeep => ?_)
     ·exact ⟨hv1_0, hv1_1, hv1_2⟩
     replace hHeld := hKeep (by first | rfl | trivial) hHeld
     clear hK K hKeep
     try simp only [Act.put, setIfInBounds_toArray, set_cons_zero, set_cons_succ, getElem_toArray, getElem_cons_zero, getElem_cons_succ]
     refine AnyT.takeA (i := 3) (v := ?_) rfl (by kernel_rfl) (by kernel_rfl) (by kernel_rfl) (fun _ _ _ h => h) (Or.inl ⟨by rfl, ?_⟩) ?_
     rotate_left 1
     ·(intro w0 _; go_simp; try with_reducible rfl)
     try simp only [Act.put, setIfInBounds_toArray, set_cons_zero, set_cons_succ, getElem_toArray, getElem_cons_zero, getElem_cons_succ]
     refine AnyT.take (i := 4) (v := ?_) rfl (by kernel_rfl) (by kernel_rfl) (by kernel_rfl) (by kernel_rfl) (fun _ _ _ h => h) (Or.inl ⟨by rfl, ?_⟩) (by assumption) ?_
     rotate_left 1
     ·(intro w0 hSw; (try dsimp only at hSw); go_simp; try with_reducible rfl)
     try simp only [Act.put, setIfInBounds_toArray, set_cons_zero, set_cons_succ, getElem_toArray, getElem_cons_zero, getElem_cons_succ]
     refine AnyT.takeA (i := 5) (v := ?_) rfl (by kernel_rfl) (by kernel_rfl) (by kernel_rfl) (fun _ _ _ h => h) (Or.inl ⟨by rfl, ?_⟩) ?_
     rotate_left 1
     ·(intro w0 _; go_simp; try with_reducible rfl)
     try simp only [Act.put, setIfInBounds_toArray, set_cons_zero, set_cons_succ, getElem_toArray, getElem_cons_zero, getElem_cons_succ]
     refine AnyT.call (i := 6) (by kernel_rfl) rfl (fun K hK => ?_)
     try simp only [Act.put, setIfInBounds_toArray, set_cons_zero, set_cons_succ, getElem_toArray, getElem_cons_zero, getElem_cons_succ]
     rw [if_pos (by rfl)]
     go_simp
     (go_at_call 156; refine (LH2.out v1).mono ?_; rintro e v2 ⟨rfl, b2⟩; have Bv2 : Below W.heap.size W v2 := next_trans Bv1 b2; have hv2_0 : v2.cell? ⟨w.heap.size, 0, none⟩ = some (.slice A n cs) := (Bv2.cell (p := ⟨w.heap.size, 0, none⟩) ZA).trans K0; have hv2_1 : v2.cell? ⟨w.heap.size, 1, none⟩ = some (.slice (some ⟨b, off, none⟩) q cv) := (Bv2.cell (p := ⟨w.heap.size, 1, none⟩) ZA).trans K1; have hv2_2 : v2.cell? ⟨b, off + k * 2, none⟩ = some (.slice L ln lc) := (Bv2.cell (p := ⟨b, off + k * 2, none⟩) ZB).trans K2; go_wp2_with fail)
     refine hK.out _ _ (fun _ _ => ?_) (fun hKeep => ?_)
     ·exact ⟨hv2_0, hv2_1, hv2_2⟩
     replace hHeld := hKeep (by first | rfl | trivial) hHeld
     clear hK K hKeep
     try simp only [Act.put, setIfInBounds_toArray, set_cons_zero, set_cons_succ, getElem_toArray, getElem_cons_zero, getElem_cons_succ]
     refine AnyT.takeA (i := 7) (v := ?_) rfl (by kernel_rfl) (by kernel_rfl) (by kernel_rfl) (fun _ _ _ h => h) (Or.inl ⟨by rfl, ?_⟩) ?_
     rotate_left 1
     ·(intro w0 _; go_simp; try with_reducible rfl)
     try simp only [Act.put, setIfInBounds_toArray, set_cons_zero, set_cons_succ, getElem_toArray, getElem_cons_zero, getElem_cons_succ]
     refine AnyT.takeA (i := 8) (v := ?_) rfl (by kernel_rfl) (by kernel_rfl) (by kernel_rfl) (fun _ _ _ h => h) (Or.inl ⟨by rfl, ?_⟩) ?_
     rotate_left 1
     ·(intro w0 _; go_simp; try with_reducible rfl)
     try simp only [Act.put, setIfInBounds_toArray, set_cons_zero, set_cons_succ, getElem_toArray, getElem_cons_zero, getElem_cons_succ]
     refine AnyT.takeA (i := 9) (v := ?_) rfl (by kernel_rfl) (by kernel_rfl) (by kernel_rfl) (fun _ _ _ h => h) (Or.inl ⟨by rfl, ?_⟩) ?_
     rotate_left 1
     ·(intro w0 _; go_simp; try with_reducible rfl)
     try simp only [Act.put, setIfInBounds_toArray, set_cons_zero, set_cons_succ, getElem_toArray, getElem_cons_zero, getElem_cons_succ]
     refine AnyT.takeA (i := 10) (v := ?_) rfl (by kernel_rfl) (by kernel_rfl) (by kernel_rfl) (fun _ _ _ h => h) (Or.inl ⟨by rfl, ?_⟩) ?_
     rotate_left 1
     ·(intro w0 _; go_simp; try with_reducible rfl)
     try simp only [Act.put, setIfInBounds_toArray, set_cons_zero, set_cons_succ, getElem_toArray, getElem_cons_zero, getElem_cons_succ]
     refine AnyT.takeA (i := 11) (v := .bool true) rfl (by kernel_rfl) (by kernel_rfl) (by kernel_rfl) (fun _ _ _ h => h) (Or.inl ⟨by rfl, fun w0 _ => (by (try go_simp); (try simp [hou]))⟩) ?_
     try simp only [Act.put, setIfInBounds_toArray, set_cons_zero, set_cons_succ, getElem_toArray, getElem_cons_zero, getElem_cons_succ]
     refine AnyT.takeA (i := 12) (v := ?_) rfl (by kernel_rfl) (by kernel_rfl) (by kernel_rfl) (fun _ _ _ h => h) (Or.inl ⟨by rfl, ?_⟩) ?_
     rotate_left 1
     ·(intro w0 _; go_simp; try with_reducible rfl)
     try simp only [Act.put, setIfInBounds_toArray, set_cons_zero, set_cons_succ, getElem_toArray, getElem_cons_zero, getElem_cons_succ]
     refine AnyT.takeA (i := 13) (v := undef) rfl (by kernel_rfl) (by kernel_rfl) (by kernel_rfl) (fun _ _ _ h => h) (Or.inr ⟨by rfl, rfl⟩) ?_
     try simp only [Act.put, setIfInBounds_toArray, set_cons_zero, set_cons_succ, getElem_toArray, getElem_cons_zero, getElem_cons_succ]
     refine AnyT.takeA (i := 14) (v := undef) rfl (by kernel_rfl) (by kernel_rfl) (by kernel_rfl) (fun _ _ _ h => h) (Or.inr ⟨by rfl, rfl⟩) ?_
     try simp only [Act.put, setIfInBounds_toArray, set_cons_zero, set_cons_succ, getElem_toArray, getElem_cons_zero, getElem_cons_succ]
     refine AnyT.takeA (i := 15) (v := ?_) rfl (by kernel_rfl) (by kernel_rfl) (by kernel_rfl) (fun _ _ _ h => h) (Or.inl ⟨by rfl, ?_⟩) ?_
     rotate_left 1
     ·(intro w0 _; go_simp; try with_reducible rfl)
     try simp only [Act.put, setIfInBounds_toArray, set_cons_zero, set_cons_succ, getElem_toArray, getElem_cons_zero, getElem_cons_succ]
     refine AnyT.takeA (i := 16) (v := ?_) rfl (by kernel_rfl) (by kernel_rfl) (by kernel_rfl) (fun _ _ _ h => h) (Or.inl ⟨by rfl, ?_⟩) ?_
     rotate_left 1
     ·(intro w0 _; go_simp; try with_reducible rfl)
     try simp only [Act.put, setIfInBounds_toArray, set_cons_zero, set_cons_succ, getElem_toArray, getElem_cons_zero, getElem_cons_succ]
     refine AnyT.takeA (i := 17) (v := ?_) rfl (by kernel_rfl) (by kernel_rfl) (by kernel_rfl) (fun _ _ _ h => h) (Or.inl ⟨by rfl, ?_⟩) ?_
     rotate_left 1
     ·(intro w0 _; go_simp; try with_reducible rfl)
     try simp only [Act.put, setIfInBounds_toArray, set_cons_zero, set_cons_succ, getElem_toArray, getElem_cons_zero, getElem_cons_succ]
     refine AnyT.takeA (i := 18) (v := ?_) rfl (by kernel_rfl) (by kernel_rfl) (by kernel_rfl) (fun _ _ _ h => h) (Or.inl ⟨by rfl, ?_⟩) ?_
     rotate_left 1
     ·(intro w0 _; go_simp; try with_reducible rfl)
     try simp only [Act.put, setIfInBounds_toArray, set_cons_zero, set_cons_succ, getElem_toArray, getElem_cons_zero, getElem_cons_succ]
     refine AnyT.take (i := 19) (v := ?_) rfl (by kernel_rfl) (by kernel_rfl) (by kernel_rfl) (by kernel_rfl) (fun _ _ _ h => h) (Or.inl ⟨by rfl, ?_⟩) (by assumption) ?_
     rotate_left 1
     ·(intro w0 hSw; (try dsimp only at hSw); go_simp; try with_reducible rfl)
     try simp only [Act.put, setIfInBounds_toArray, set_cons_zero, set_cons_succ, getElem_toArray, getElem_cons_zero, getElem_cons_succ]
     refine AnyT.takeA (i := 20) (v := ?_) rfl (by kernel_rfl) (by kernel_rfl) (by kernel_rfl) (fun _ _ _ h => h) (Or.inl ⟨by rfl, ?_⟩) ?_
     rotate_left 1
     ·(intro w0 _; go_simp; try with_reducible rfl)
     try simp only [Act.put, setIfInBounds_toArray, set_cons_zero, set_cons_succ, getElem_toArray, getElem_cons_zero, getElem_cons_succ]
     refine AnyT.take (i := 21) (v := ?_) rfl (by kernel_rfl) (by kernel_rfl) (by kernel_rfl) (by kernel_rfl) (fun _ _ _ h => h) (Or.inl ⟨by rfl, ?_⟩) (by assumption) ?_
     rotate_left 1
     ·(intro w0 hSw; (try dsimp only at hSw); go_simp; try with_reducible rfl)
     try simp only [Act.put, setIfInBounds_toArray, set_cons_zero, set_cons_succ, getElem_toArray, getElem_cons_zero, getElem_cons_succ]
     refine AnyT.takeA (i := 22) (v := ?_) rfl (by kernel_rfl) (by kernel_rfl) (by kernel_rfl) (fun _ _ _ h => h) (Or.inl ⟨by rfl, ?_⟩) ?_
     rotate_left 1
     ·(intro w0 _; go_simp; try with_reducible rfl)
     try simp only [Act.put, setIfInBounds_toArray, set_cons_zero, set_cons_succ, getElem_toArray, getElem_cons_zero, getElem_cons_succ]
     refine AnyT.takeA (i := 23) (v := ?_) rfl (by kernel_rfl) (by kernel_rfl) (by kernel_rfl) (fun _ _ _ h => h) (Or.inl ⟨by rfl, ?_⟩) ?_
     rotate_left 1
     ·(intro w0 _; go_simp; try with_reducible rfl)
     try simp only [Act.put, setIfInBounds_toArray, set_cons_zero, set_cons_succ, getElem_toArray, getElem_cons_zero, getElem_cons_succ]
     refine AnyT.takeA (i := 24) (v := ?_) rfl (by kernel_rfl) (by kernel_rfl) (by kernel_rfl) (fun _ _ _ h => h) (Or.inl ⟨by rfl, ?_⟩) ?_
     rotate_left 1
     ·(intro w0 _; go_simp; try with_reducible rfl)
     try simp only [Act.put, setIfInBounds_toArray, set_cons_zero, set_cons_succ, getElem_toArray, getElem_cons_zero, getElem_cons_succ]
     refine AnyT.take (i := 25) (v := ?_) rfl (by kernel_rfl) (by kernel_rfl) (by kernel_rfl) (by kernel_rfl) (fun _ _ _ h => h) (Or.inl ⟨by rfl, ?_⟩) (by assumption) ?_
     rotate_left 1
     ·(intro w0 hSw; (try dsimp only at hSw); go_simp; try with_reducible rfl)
     try simp only [Act.put, setIfInBounds_toArray, set_cons_zero, set_cons_succ, getElem_toArray, getElem_cons_zero, getElem_cons_succ]
     refine AnyT.takeA (i := 27) (v := ?_) rfl (by kernel_rfl) (by kernel_rfl) (by kernel_rfl) (fun _ _ _ h => h) (Or.inl ⟨by rfl, ?_⟩) ?_
     rotate_left 1
     ·(intro w0 _; go_simp; try with_reducible rfl)
     try simp only [Act.put, setIfInBounds_toArray, set_cons_zero, set_cons_succ, getElem_toArray, getElem_cons_zero, getElem_cons_succ]
     refine AnyT.call (i := 26) (by kernel_rfl) rfl (fun K hK => ?_)
     try simp only [Act.put, setIfInBounds_toArray, set_cons_zero, set_cons_succ, getElem_toArray, getElem_cons_zero, getElem_cons_succ]
     rw [if_pos (by rfl)]
     go_simp
     (go_at_call 157; refine (LS.out v2 Bv2).mono ?_; rintro e v3 ⟨P, pn, pc, rfl, oP, b3⟩; have Bv3 : Below W.heap.size W v3 := next_trans Bv2 b3; have hv3_0 : v3.cell? ⟨w.heap.size, 0, none⟩ = some (.slice A n cs) := (Bv3.cell (p := ⟨w.heap.size, 0, none⟩) ZA).trans K0; have hv3_1 : v3.cell? ⟨w.heap.size, 1, none⟩ = some (.slice (some ⟨b, off, none⟩) q cv) := (Bv3.cell (p := ⟨w.heap.size, 1, none⟩) ZA).trans K1; have hv3_2 : v3.cell? ⟨b, off + k * 2, none⟩ = some (.slice L ln lc) := (Bv3.cell (p := ⟨b, off + k * 2, none⟩) ZB).trans K2; go_wp2_with fail)
     refine hK.out _ _ (fun _ _ => ?_) (fun hKeep => ?_)
     ·exact ⟨hv3_0, hv3_1, hv3_2⟩
     replace hHeld := hKeep (by first | rfl | trivial) hHeld
     clear hK K hKeep
     try simp only [Act.put, setIfInBounds_toArray, set_cons_zero, set_cons_succ, getElem_toArray, getElem_cons_zero, getElem_cons_succ]
     refine AnyT.call (i := 28) (by kernel_rfl) rfl (fun K hK => ?_)
     try simp only [Act.put, setIfInBounds_toArray, set_cons_zero, set_cons_succ, getElem_toArray, getElem_cons_zero, getElem_cons_succ]
     rw [if_pos (by rfl)]
     go_simp
     (go_at_call 122; refine (containsI P pn pc _ x v3 (Own.seg oP) (by have q1 := Own.len oP; have q2 := HSY.out; omega)).mono ?_; rintro e v4 ⟨rfl, rfl⟩; go_wp2_with fail)
     refine hK.out _ _ (fun _ _ => ?_) (fun hKeep => ?_)
     ·exact ⟨hv3_0, hv3_1, hv3_2⟩
     replace hHeld := hKeep (by first | rfl | trivial) hHeld
     clear hK K hKeep
     try simp only [Act.put, setIfInBounds_toArray, set_cons_zero, set_cons_succ, getElem_toArray, getElem_cons_zero, getElem_cons_succ]
     refine AnyT.takeA (i := 29) (v := ?_) rfl (by kernel_rfl) (by kernel_rfl) (by kernel_rfl) (fun _ _ _ h => h) (Or.inl ⟨by rfl, ?_⟩) ?_
     rotate_left 1
     ·(intro w0 _; go_simp; try with_reducible rfl)
     try simp only [Act.put, setIfInBounds_toArray, set_cons_zero, set_cons_succ, getElem_toArray, getElem_cons_zero, getElem_cons_succ]
     refine AnyT.takeA (i := 30) (v := ?_) rfl (by kernel_rfl) (by kernel_rfl) (by kernel_rfl) (fun _ _ _ h => h) (Or.inl ⟨by rfl, ?_⟩) ?_
     rotate_left 1
     ·(intro w0 _; go_simp; try with_reducible rfl)
     try simp only [Act.put, setIfInBounds_toArray, set_cons_zero, set_cons_succ, getElem_toArray, getElem_cons_zero, getElem_cons_succ]
     refine AnyT.done (by kernel_rfl) ?_ _
     have F := hid (ansB (b := mayB d.2 (k : Int) x u) (a := decide (x ∈ symI d.1 y.1)) HV.out.symm (next_trans BEL.out Bv3))
     clear b1 Bv1 b2 Bv2 b3 Bv3 oP LH1 LH2 LS
     generalize decide (x ∈ symI d.1 y.1) = bz at *
     go_wp2
     go_ret
     exact F.out
end peakImpl
end
section
open Go.Lib (hid)
namespace ovAt
open Go.RowKit base ints sig term termOk termFacts sub args sym varsOf marks app appAt segs kinds shape kindsR drawX fillMath matchMath unifMath forest triMath nodes ufMath stk bnd Go.Proofs.YtlmofkeemlfpgaaGreat.look pathSpec ruleMath ruleSpec peakMath peakImpl trySpec ovImpl linkImpl finMath doneMap finImpl ovStart ovAdd
set_option maxRecDepth 100000
theorem ov_of {w : World} {p N : Nat} {A X K : Option Addr} {n c xn xc kc : Nat} {v : Value} {o a u : Int} {sg nums : List Int} {lk : List Nat} (hr : Row w p 122 #[.slice A n c, v, .int .i64 o, .int .i64 a, .int .i64 u, .slice X xn xc, .slice K xn kc]) (hX : Own w (p + 1) (.slice X xn xc) nums) (hK : Own w (p + 1) (.slice K xn kc) (castL lk)) (hs : Apart2 X K) (h1 : 1 ≤ xn)
  (hA : Seg w N A n sg) (kA : Cap A n c) (hN : N ≤ p) : ∃ lb, K = some ⟨lb, 0, none⟩ ∧ p < lb ∧ Ov w (Qb w.heap.size p lb) p lb A n c v o a u X xn xc kc sg nums lk := by
 have hl := Own.len hK
 rw [castL_len] at hl
 rcases Own.form hK with ⟨e, -⟩ | ⟨g, c', cur, e, hg, hrow, hsz, hcs⟩
 ·injection e with _ e _
  omega
 ·injection e with e1 e2 e3
  subst e1 e3
  have hpl := hr.lt
  refine ⟨g, rfl, hg, ⟨hr, ?_, ?_, ⟨cur, hrow, hl.symm, fun i hi => ?_⟩, by omega, fun b hb => ⟨hb.2.2, hb.2.1, hb.1⟩⟩⟩
  ·exact rdq_of hA kA fun b hb => ⟨by omega, by omega, by omega⟩
  ·refine rdq_own hX fun b hb1 hb2 hb3 => ⟨hb2, fun e => ?_, by omega⟩
   exact hs b hb3 (by rw [e]; rfl)
  ·rw [hcs i (by rw [castL_len]; omega)]
   unfold castL
   simp [List.getD_eq_getElem?_getD, show i < lk.length by omega]
structure Made (w : World) (lo : Nat) (A : Option Addr) (n c : Nat) (v : Value) (sg : List Int) (rs : List Rl) (o a u p : Nat) : Prop where
 ge : lo ≤ p
 ex : ∃ (lb xc lc : Nat) (X : Option Addr) (N : Nat) (lk : List Nat) (rt rk : Nat → Nat) (D : List Nat), Ov w (Qb N p lb) p lb A n c v (o : Int) (a : Int) (u : Int) X ((lh rs o).length + (lh rs u).length) xc lc sg (lh rs o ++ lh rs u) lk ∧
  Whole sg ((lh rs o).length + (lh rs u).length) (fun i => (lh rs o ++ lh rs u).getD i 0) (nodes.nd sg (lh rs o ++ lh rs u) (lh rs o ++ shiftL 24 (lh rs u))) (chN sg (lh rs o ++ lh rs u)) (inn sg (lh rs o) a) a (lh rs o).length lk rt rk D
def AnsOv (w : World) (A : Option Addr) (n c : Nat) (v : Value) (sg : List Int) (rs : List Rl) (o x u : Int) (e : Ending) (w' : World) : Prop :=
 Below w.heap.size w w' ∧ ((metB sg rs o x u = false ∧ e = .returned (.tuple #[.pointer none, .bool false])) ∨ (metB sg rs o x u = true ∧ ∃ p, e = .returned (.tuple #[.pointer (some ⟨p, 0, none⟩), .bool true]) ∧ Made w' w.heap.size A n c v sg rs o.toNat x.toNat u.toNat p))
theorem ct_le (n : Nat) (rt : Nat → Nat) (F : Int → Option Bool) : Ct n rt F ≤ n := by
 unfold Ct
 have := List.countP_le_length (l := List.range n) (p := fun i => decide (rt i = i) && (F (i : Int)).isNone)
 simpa using this
theorem good_nil (n : Nat) (nm : Nat → Int) (ch : Nat → List Nat) (rt : Nat → Nat) : ufMath.Good n nm ch rt [] := fun j hj => absurd hj (Nat.not_lt_zero _)
theorem underStart (p : Nat) (A V : Option Addr) (n c q cv : Nat) (o : Nat) (T3 T4 T5 T6 : Value) (rs : List Rl) (B : Nat) (w : World) (hr : Row w p 122 #[.slice A n c, .slice V q cv, .int .i64 (o : Int), T3, T4, T5, T6]) (h : Rd w B sRuleS [.slice V q cv] rs) (hl : rs.length = q) (ho : o < q) (hq : q ≤ 1048576) (hsz : sz sRule (rs.getD o ([], [])) ≤ 1048576) :
  Calls Tryz.prog 103 #[.pointer (some ⟨p, 0, none⟩)] w fun e w' => e = .returned (.int .i64 ((lh rs o).length : Int)) ∧ Below w.heap.size w w' := by
 obtain ⟨b, off, l, r, x, rfl, hb, hx, cL, cR, rd⟩ := rd_at h (Below.refl _ _) hl ho
 obtain ⟨LA, ln, lc, RA, rn, rc, rfl, rfl, sL, kL, -, -, hln, -⟩ := rd_rule rd (by rw [hx.out] at hsz; exact hsz)
 have e : (lh rs o).length = ln := by unfold lh; rw [hx.out]; exact sL.1
 have q1 : w.cell? ⟨p, 1, none⟩ = some (.slice (some ⟨b, off, none⟩) q cv) := hr.cell 1
 have q2 : w.cell? ⟨p, 2, none⟩ = some (.int .i64 (o : Int)) := hr.cell 2
 have j1 : (0 : Int) ≤ (o : Int) := by omega
 have j2 : (o : Int) < (q : Int) := by omega
 rw [e]
 clear hr h rd sL kL cR hx e hsz
 go_enter Tryz.func103, Tryz.ntmps103
 go_wp2
 go_quiet (fail)
 go_wp2
 go_ret
 exact ⟨rfl, below_drewN (Below.refl _ _) _⟩
set_option maxHeartbeats 4000000 in
theorem overlapAt (A V : Option Addr) (n c q cv : Nat) (d : Dat sSystem) (o x u : Int) (w : World) (h : Rd w w.heap.size sSystem [.slice A n c, .slice V q cv] d) (hz : sz sSystem d ≤ 1048576) (hok : ∀ k, k < d.2.length → ruleOkB d.1 (d.2.getD k ([], [])) = true) :
  Calls Tryz.prog 99 #[.agg #[.slice A n c, .slice V q cv], .int .i64 o, .int .i64 x, .int .i64 u] w (AnsOv w A n c (.slice V q cv) d.1 d.2 o x u) := by
 have hterm : ∀ k, k < d.2.length → termOkB d.1 (lh d.2 k) = true := fun k hk => (rule_parts (hok k hk)).1
 obtain ⟨W0, hW0⟩ : ∃ W0, W0 = w.alloc (.cells #[.slice A n c, .slice V q cv] 76) := ⟨_, rfl⟩
 have b0 : Below w.heap.size w W0 := by rw [hW0]; exact (Below.refl _ _).alloc (Nat.le_refl _) _
 have r0 : Row W0 w.heap.size 76 #[.slice A n c, .slice V q cv] := by rw [hW0]; exact Row.new _ _ _
 have z0 : W0.heap.size = w.heap.size + 1 := by rw [hW0]; simp
 have LM := hid (mayOverlap (.slice A n c) (.slice V q cv) d o x u W0 ((h.below b0).more b0.size) hz hterm)
 have k00 : W0.cell? ⟨w.heap.size, 0, none⟩ = some (.slice A n c) := r0.cell 0
 have k01 : W0.cell? ⟨w.heap.size, 1, none⟩ = some (.slice V q cv) := r0.cell 1
 have HW0 := hid hW0
 cases hm : mayB d.2 o x u with
 | false =>
  rw [hm] at LM
  have FM : metB d.1 d.2 o x u = false := by unfold metB; rw [hm]; rfl
  have HF := hid FM
  have HB0 := hid b0
  rw [hW0] at k00 k01
  clear hterm hok h hz hm FM hW0 r0 b0
  go_enter Tryz.func99, Tryz.ntmps99
  go_wp2_with fail
  rw [← HW0.out]
  refine LM.out.mono ?_
  rintro e w1 ⟨rfl, bb⟩
  have F := hid (show AnsOv w A n c (.slice V q cv) d.1 d.2 o x u (.returned (.tuple #[.pointer none, .bool false])) w1 from ⟨next_trans HB0.out bb, .inl ⟨HF.out, rfl⟩⟩)
  clear bb
  go_wp2
  go_ret2
  exact F.out
 | true =>
  obtain ⟨⟨ho1, hu1⟩, hs1, -⟩ := may_parts hm
  unfold walkMath.inB at ho1 hu1
  unfold symAt at hs1
  have ho2 := of_decide_eq_true ho1
  have hu2 := of_decide_eq_true hu1
  have hs2 := of_decide_eq_true hs1
  clear ho1 hu1 hs1
  obtain ⟨o, rfl⟩ : ∃ z : Nat, o = (z : Int) := ⟨o.toNat, by omega⟩
  obtain ⟨u, rfl⟩ : ∃ z : Nat, u = (z : Int) := ⟨u.toNat, by omega⟩
  obtain ⟨a, rfl⟩ : ∃ z : Nat, x = (z : Int) := ⟨x.toNat, by omega⟩
  have eo : lhsI d.2 (o : Int) = lh d.2 o := by unfold lhsI lh; rw [Int.toNat_natCast]
  rw [eo] at hs2
  have ha : a < (lh d.2 o).length := by omega
  have ho : o < d.2.length := by omega
  have hu : u < d.2.length := by omega
  clear hs2 ho2 hu2 eo
  rw [hm] at LM
  have tLo := hterm o ho
  have tLu := hterm u hu
  have scO := (term_parts tLo).2.2
  have scU := (term_parts tLu).2.2
  have hars := (sig_arities (term_parts tLo).1).1
  have hvLo : ∀ z ∈ lh d.2 o, -24 ≤ z := fun z hz => (term_mem tLo hz).1
  have hlo60 := term_len tLo
  have hlu60 := term_len tLu
  have HMET := hid (show ∀ b, unB d.1 d.2 o a u = b → metB d.1 d.2 (o : Int) (a : Int) (u : Int) = b from fun b hb => by
   unfold metB
   rw [hm, Int.toNat_natCast, Int.toNat_natCast, Int.toNat_natCast, hb]
   rfl)
  obtain ⟨A1, n1, c1, A2, n2, c2, ea, ev, hA, kA, kV, hlen, hn, hn2, hr, hsg, hrs⟩ := rd_sys h hz
  injection ea with e1 e2 e3
  subst e1 e2 e3
  injection ev with e1 e2 e3
  subst e1 e2 e3
  have hr9 := hr
  obtain ⟨bV, oV, lo, ro, xo, rfl, hbV, hxo, cLo, cRo, rdo⟩ := rd_at hr (Below.refl _ _) hlen (show o < q by omega)
  obtain ⟨bV2, oV2, lu, ru, xu, eV2, -, hxu, cLu, cRu, rdu⟩ := rd_at hr (Below.refl _ _) hlen (show u < q by omega)
  injection eV2 with eV2
  injection eV2 with eb eo
  subst eb eo
  have hsz9 := hrs o (by omega)
  obtain ⟨LA, ln, lc, RA, rn, rc, rfl, rfl, sLo, kLo, sRo, kRo, hln, hrn⟩ := rd_rule rdo (by have := hrs o (by omega); rw [hxo.out] at this; exact this)
  obtain ⟨MA, mn, mc, NA, nn, nc', rfl, rfl, sLu, kLu, sRu, kRu, hmn, hnn⟩ := rd_rule rdu (by have := hrs u (by omega); rw [hxu.out] at this; exact this)
  have eLo : xo.1 = lh d.2 o := by unfold lh; rw [hxo.out]
  have eLu : xu.1 = lh d.2 u := by unfold lh; rw [hxu.out]
  rw [eLo] at sLo
  rw [eLu] at sLu
  have lLo := sLo.1
  have lLu := sLu.1
  have j1 : (0 : Int) ≤ (o : Int) := by omega
  have j2 : (o : Int) < (q : Int) := by omega
  have j3 : (0 : Int) ≤ (u : Int) := by omega
  have j4 : (u : Int) < (q : Int) := by omega
  have HR9 := hid hr9
  have HRS := hid hsz9
  have HLEN := hid hlen
  have HSC := hid (And.intro scO (And.intro scU hvLo))
  have HARS := hid hars
  have HTLU := hid tLu
  have HTLO := hid tLo
  have HSLO := hid (And.intro sLo sLu)
  have HA := hid (And.intro hA kA)
  have HB0 := hid b0
  have HR0 := hid r0
  have HLL := hid (And.intro lLo lLu)
  have HHA := hid ha
  have hln60 : 1 ≤ ln ∧ ln ≤ 60 := by omega
  have hmn60 : 1 ≤ mn ∧ mn ≤ 60 := by omega
  have q3 : W0.cell? ⟨bV, oV + o * 2, none⟩ = some (.slice LA ln lc) := (b0.cell (p := ⟨bV, oV + o * 2, none⟩) hbV).trans cLo
  have q4 : W0.cell? ⟨bV, oV + u * 2, none⟩ = some (.slice MA mn mc) := (b0.cell (p := ⟨bV, oV + u * 2, none⟩) hbV).trans cLu
  have e00 := k00
  have e01 := k01
  rw [hW0] at e00 e01
  clear hterm hok h hz hm hr hsg hrs rdo rdu sRo sRu kRo kRu cLo cRo cLu cRu hxo hxu eLo eLu r0 b0 hW0 scO scU hvLo hars tLo tLu hA sLo sLu hr9 hsz9 hlen lLo lLu ha kLo kLu
  go_enter Tryz.func99, Tryz.ntmps99
  go_wp2_with fail
  rw [← HW0.out]
  refine LM.out.mono ?_
  rintro e w1 ⟨rfl, bb⟩
  clear e00 e01
  have z1 := bb.size
  have k10 : w1.cell? ⟨w.heap.size, 0, none⟩ = some (.slice A n c) := (bb.cell (p := ⟨w.heap.size, 0, none⟩) (by rw [z0]; exact Nat.lt_succ_self _)).trans k00
  have k11 : w1.cell? ⟨w.heap.size, 1, none⟩ = some (.slice (some ⟨bV, oV, none⟩) q cv) := (bb.cell (p := ⟨w.heap.size, 1, none⟩) (by rw [z0]; exact Nat.lt_succ_self _)).trans k01
  have hbV0 : bV < W0.heap.size := by rw [z0]; omega
  have k13 := (bb.cell (p := ⟨bV, oV + o * 2, none⟩) hbV0).trans q3
  have k14 := (bb.cell (p := ⟨bV, oV + u * 2, none⟩) hbV0).trans q4
  obtain ⟨p, hp⟩ : ∃ p, p = w1.heap.size := ⟨_, rfl⟩
  have hb1z := HB0.out.size
  obtain ⟨W2, hW2⟩ : ∃ W2, W2 = w1.alloc (.cells #[.slice A n c, .slice (some ⟨bV, oV, none⟩) q cv, .int .i64 (o : Int), .int .i64 (a : Int), .int .i64 (u : Int), .slice none 0 0, .slice none 0 0] 122) := ⟨_, rfl⟩
  have r2 : Row W2 p 122 #[.slice A n c, .slice (some ⟨bV, oV, none⟩) q cv, .int .i64 (o : Int), .int .i64 (a : Int), .int .i64 (u : Int), .slice none 0 0, .slice none 0 0] := by rw [hW2, hp]; exact Row.new _ _ _
  have b12 : Below p w1 W2 := by rw [hW2, hp]; exact (Below.refl _ _).alloc (Nat.le_refl _) _
  have hBp : w.heap.size < p := by rw [hp]; omega
  have bw2 : Below w.heap.size w W2 := (next_trans HB0.out bb).trans (b12.mono (by omega))
  have g1 : W2.cell? ⟨w.heap.size, 1, none⟩ = some (.slice (some ⟨bV, oV, none⟩) q cv) := (b12.cell (p := ⟨w.heap.size, 1, none⟩) hBp).trans k11
  have g3 := (b12.cell (p := ⟨bV, oV + o * 2, none⟩) (show bV < p by omega)).trans k13
  have g4 := (b12.cell (p := ⟨bV, oV + u * 2, none⟩) (show bV < p by omega)).trans k14
  have L1 := hid (ovAdd p _ _ _ _ _ none none LA 0 0 0 ln lc [] [] (lh d.2 o) W2 r2 (Own.nil _ _) (Own.nil _ _) (fun k hk => by cases hk) ((HSLO.out.1.below bw2).more (by omega)) (by omega) (by omega) hln60.1)
  have f1 := g1
  have f3 := g3
  rw [hW2] at f1 f3
  have HP := hid hp
  have HW2 := hid hW2
  clear q3 q4 r2 hW2 k00 k01 hp z1 bb b12 k13 k14 z0
  go_wp2_with fail
  rw [← HW2.out, ← HP.out]
  refine L1.out.mono ?_
  rintro e w3 ⟨⟨v, rfl⟩, X, xc, K, kc, r3, x3, K3, s3, b3⟩
  clear f1 f3 L1 k10 k11
  have h1 := (b3.cell (p := ⟨w.heap.size, 1, none⟩) hBp).trans g1
  have h3 := (b3.cell (p := ⟨bV, oV + o * 2, none⟩) (show bV < p by omega)).trans g3
  have h4 := (b3.cell (p := ⟨bV, oV + u * 2, none⟩) (show bV < p by omega)).trans g4
  have bw3 : Below w.heap.size w w3 := bw2.trans (b3.mono (by omega))
  have L2 := hid (ovAdd p _ _ _ _ _ X K MA (0 + ln) xc kc mn mc _ _ (lh d.2 u) w3 r3 x3 K3 s3 ((HSLO.out.2.below bw3).more (by omega)) (by omega) (by omega) hmn60.1)
  clear r3 x3 K3 s3 b3 bw2
  go_wp2_with fail
  refine L2.out.mono ?_
  rintro e w4 ⟨⟨v, rfl⟩, X2, xc2, K2, kc2, r4, x4, K4, s4, b4⟩
  have bw4 : Below w.heap.size w w4 := bw3.trans (b4.mono (by omega))
  have hp4 := r4.lt
  obtain ⟨eo, eu⟩ := HLL.out
  rw [show 0 + ln + mn = (lh d.2 o).length + (lh d.2 u).length by omega] at r4 x4 K4
  have x4' : Own w4 (p + 1) (.slice X2 ((lh d.2 o).length + (lh d.2 u).length) xc2) (lh d.2 o ++ lh d.2 u) := x4
  have e9 : [] ++ castL (lkT 0 (lh d.2 o) ln) ++ castL (lkT (0 + ln) (lh d.2 u) mn) = castL (lk0 (lh d.2 o) (lh d.2 u)) := by rw [List.nil_append, ← castL_app, Nat.zero_add, ← lkT_all, eo, eu]
  have K4' : Own w4 (p + 1) (.slice K2 ((lh d.2 o).length + (lh d.2 u).length) kc2) (castL (lk0 (lh d.2 o) (lh d.2 u))) := by rw [← e9]; exact K4
  have LU := hid (underStart p A (some ⟨bV, oV, none⟩) n c q cv o _ _ _ _ d.2 w.heap.size w4 r4 (HR9.out.below bw4) HLEN.out (by omega) (by omega) HRS.out)
  obtain ⟨lb, rfl, hlb, O4⟩ := ov_of r4 x4' K4' s4 (by omega) (HA.out.1.below bw4) HA.out.2 (Nat.le_of_lt hBp)
  obtain ⟨scO, scU, hvLo⟩ := HSC.out
  have hN := gr0 (lu := lh d.2 u) scO scU hvLo HHA.out
  have HN := hid hN
  have HNO := hid (show (∀ θ, ¬ Unis d.1 (nodes.nd d.1 (lh d.2 o ++ lh d.2 u) (lh d.2 o ++ shiftL 24 (lh d.2 u)) a) (nodes.nd d.1 (lh d.2 o ++ lh d.2 u) (lh d.2 o ++ shiftL 24 (lh d.2 u)) (lh d.2 o).length) θ) → metB d.1 d.2 (o : Int) (a : Int) (u : Int) = false from fun h => HMET.out false (unB_no (by rw [nd_lo scO HHA.out, nd_lu scU] at h; exact h)))
  have HYES := hid (show (∃ θ, Unis d.1 (nodes.nd d.1 (lh d.2 o ++ lh d.2 u) (lh d.2 o ++ shiftL 24 (lh d.2 u)) a) (nodes.nd d.1 (lh d.2 o ++ lh d.2 u) (lh d.2 o ++ shiftL 24 (lh d.2 u)) (lh d.2 o).length) θ) → metB d.1 d.2 (o : Int) (a : Int) (u : Int) = true from fun h => HMET.out true (by
   obtain ⟨θ, h⟩ := h
   rw [nd_lo scO HHA.out, nd_lu scU] at h
   exact unB_yes h))
  have LK := hid (fun (w5 : World) (b5 : Below w4.heap.size w4 w5) => link (Qb w4.heap.size p lb) p lb A n c (.slice (some ⟨bV, oV, none⟩) q cv) (o : Int) (a : Int) (u : Int) X2 ((lh d.2 o).length + (lh d.2 u).length) xc2 kc2 d.1 (lh d.2 o ++ lh d.2 u) (lh d.2 o ++ shiftL 24 (lh d.2 u)) (inn d.1 (lh d.2 o) a) a (lh d.2 o).length hN HARS.out (by omega) (by omega) (roots (lk0 (lh d.2 o) (lh d.2 u))) _ _ _ (fun _ _ => False) a (lh d.2 o).length w5 (Nat.le_refl _) (O4.next b5) (lk0_ok scO scU hvLo a) (snd0 scO scU a _) (clo0 _) hN.gr.ia.2 hN.gr.iu.2 ⟨a, hN.gr.ia.2, hN.gr.ia.1, rfl⟩ ⟨_, hN.gr.iu.2, hN.gr.iu.1, rfl⟩ (fun θ hθ => hθ.2))
  have HSC2 := hid (And.intro scO (And.intro scU hvLo))
  have zz4 := b4.size
  clear r4 x4 K4 x4' K4' s4 b4 bw3 L2 O4 hN scO scU hvLo h1 h3 h4 g1 g3 g4 HSC eo eu e9
  go_wp2_with fail
  refine LU.out.mono ?_
  rintro e w5 ⟨rfl, b5⟩
  have LK5 := hid (LK.out w5 b5)
  have z5 := b5.size
  have bw5 : Below w.heap.size w w5 := next_trans bw4 b5
  clear LK LU b5
  go_wp2_with fail
  refine LK5.out.mono ?_
  rintro e w6 ⟨ok, lk', rfl, O6, g6, hyes, hno⟩
  have bw6 : Below w.heap.size w w6 := bw5.grown g6 (by have := bw5.size; omega) (fun k hk => by injection hk; omega)
  clear LK5
  cases ok with
  | false =>
   have F := hid (show AnsOv w A n c (.slice (some ⟨bV, oV, none⟩) q cv) d.1 d.2 (o : Int) (a : Int) (u : Int) (.returned (.tuple #[.pointer none, .bool false])) w6 from ⟨bw6, .inl ⟨HNO.out (hno rfl), rfl⟩⟩)
   clear O6 g6 hyes hno bw6 bw5 bw4
   go_wp2
   go_ret2
   exact F.out
  | true =>
   obtain ⟨rt', rk', hL', hS', hC', he', -, -⟩ := hyes rfl
   clear hno hyes
   have z6 := g6.size
   have hlb6 := O6.lt.2
   obtain ⟨W7, hW7⟩ : ∃ W7, W7 = w6.alloc (.map #[] 0) := ⟨_, rfl⟩
   have b7 : Below w6.heap.size w6 W7 := by rw [hW7]; exact (Below.refl _ _).alloc (Nat.le_refl _) _
   have z7 : W7.heap.size = w6.heap.size + 1 := by rw [hW7]; simp
   have D7 : Dn W7 w6.heap.size 0 (fun _ => none) := by rw [hW7]; exact dn_made w6
   have O7 := O6.next b7
   have hct := ct_le ((lh d.2 o).length + (lh d.2 u).length) rt' (fun _ => none)
   have LF := hid (isFinite (Qb w4.heap.size p lb) p lb A n c (.slice (some ⟨bV, oV, none⟩) q cv) (o : Int) (a : Int) (u : Int) X2 ((lh d.2 o).length + (lh d.2 u).length) xc2 kc2 d.1 (lh d.2 o ++ lh d.2 u) (lh d.2 o ++ shiftL 24 (lh d.2 u)) (inn d.1 (lh d.2 o) a) a (lh d.2 o).length HN.out HARS.out (by omega) (by omega) lk' rt' rk' hL' hS' w6.heap.size (by omega) (by omega) (fun z hz => by have := hz.1; omega)
    (Ct ((lh d.2 o).length + (lh d.2 u).length) rt' (fun _ => none) + 1) [] [] (fun _ => none) 0 a W7 (Nat.lt_succ_self _) O7 D7 (by omega) Mk.start (good_nil _ _ _ _) HN.out.gr.ia.2 ⟨a, HN.out.gr.ia.2, HN.out.gr.ia.1, rfl⟩ (fun r hr => by cases hr))
   have HW7 := hid hW7
   have HFN := hid (And.intro hL' (And.intro hS' (And.intro hC' he')))
   have HO7 := hid O7
   have bw7 : Below w.heap.size w W7 := next_trans bw6 b7
   clear O6 g6 bw6 bw5 bw4 hL' hS' hC' he' O7 D7 hct b7 hW7
   have hmm := @run_makeMap Tryz.prog
   go_wp2_with fail
   rw [← HW7.out]
   refine LF.out.mono ?_
   rintro e w8 ⟨ok2, rfl, g8, h8y, h8n⟩
   have bw8 : Below w.heap.size w w8 := bw7.grown g8 (by have := bw7.size; omega) (fun k hk => by injection hk; omega)
   cases ok2 with
   | false =>
    have F := hid (show AnsOv w A n c (.slice (some ⟨bV, oV, none⟩) q cv) d.1 d.2 (o : Int) (a : Int) (u : Int) (.returned (.tuple #[.pointer none, .bool false])) w8 from ⟨bw8, .inl ⟨HNO.out (h8n rfl), rfl⟩⟩)
    clear bw7 bw8 g8 h8y h8n LF
    go_wp2
    go_ret2
    exact F.out
   | true =>
    obtain ⟨E, nn', F', -, -, -, -, hG, hrD⟩ := h8y rfl
    obtain ⟨hL', hS', hC', he'⟩ := HFN.out
    obtain ⟨scO, scU, hvLo⟩ := HSC2.out
    have hWh := whole_of scO scU hvLo HHA.out hL' hS' hC' he' hG hrD
    have hun : metB d.1 d.2 (o : Int) (a : Int) (u : Int) = true := HYES.out (whole_un hWh)
    have F := hid (show AnsOv w A n c (.slice (some ⟨bV, oV, none⟩) q cv) d.1 d.2 (o : Int) (a : Int) (u : Int) (.returned (.tuple #[.pointer (some ⟨p, 0, none⟩), .bool true])) w8 from
     ⟨bw8, .inr ⟨hun, p, rfl, ⟨Nat.le_of_lt hBp, lb, xc2, kc2, X2, w4.heap.size, lk', rt', rk', _, Ov.grown HO7.out g8 (by omega) (by omega) (fun z hz => by have := hz.1; omega), hWh⟩⟩⟩)
    clear bw7 bw8 g8 h8y h8n LF hL' hS' hC' he' scO scU hvLo hWh hun hG hrD
    go_wp2
    go_ret2
    exact F.out
end ovAt
end
section
namespace peakImpl
open Go.RowKit heldT base ints sig term termOk endAt marks app sym pathSpec wayTo place segs segsHelp kinds termFacts same shape kindsR kindsW kindsP varsOf ruleMath ruleSpec ruleImpl stepMath walkMath stepSpec stepImpl walkSpec walkImpl peakMath peakSame
set_option maxRecDepth 100000
theorem rd_zero (w : World) (B : Nat) : Rd w B sSystem [.slice none 0 0, .slice none 0 0] (([], []) : Dat sSystem) :=
 ⟨[.slice none 0 0], [.slice none 0 0], rfl, ⟨none, 0, 0, rfl, ⟨Nat.le_refl _, by omega, fun _ => rfl⟩, rfl, fun h => absurd h (by omega)⟩, ⟨none, 0, 0, rfl, ⟨Nat.le_refl _, by omega, fun _ => rfl⟩, rfl, fun h => absurd h (by omega)⟩⟩
end peakImpl
end
section
open Go.Lib (hid)
namespace written
open Go.RowKit base ints sig term args sym marks app appAt segs kinds shape drawX bnd fillMath unifMath forest triMath ufMath nodes ovImpl linkImpl pathSpec cursor
set_option maxRecDepth 100000
theorem take_app (z y : List Int) (n : Nat) : (z.take n ++ y).take n = (z ++ y).take n := by
 by_cases h : z.length ≤ n
 ·rw [List.take_of_length_le h]
 ·rw [List.take_append_of_le_length (by rw [List.length_take]; omega), List.take_append_of_le_length (by omega), List.take_take, Nat.min_self]
theorem grown_on {a b c : World} {r r' : Option Nat} (h : a.grownBy b r) (k : b.grownBy c r') (hr : ∀ z, r' = some z → r = some z ∨ a.heap.size ≤ z) : a.grownBy c r := by
 refine ⟨k.os.trans h.os, k.tape.trans h.tape, k.output.trans h.output, Nat.le_trans h.size k.size, fun z hz hne => ?_⟩
 have hs := h.size
 refine (k.block z (by omega) fun e => ?_).trans (h.block z hz hne)
 rcases hr z e.symm with e | e
 ·exact hne e.symm
 ·omega
def AnsWr (w : World) (base : Nat) (T : Option Addr) (ys : List Int) (e : Ending) (w' : World) : Prop :=
 ∃ (T' : Option Addr) (n' c' : Nat), e = .returned (.slice T' n' c') ∧ Own w' base (.slice T' n' c') ys ∧ w.grownBy w' (blk T) ∧ ∀ k, blk T' = some k → blk T = some k ∨ w.heap.size ≤ k
section
variable {w w' : World} {Q : Nat → Prop} {p lb : Nat} {A : Option Addr} {n c : Nat} {v : Value} {o a u : Int} {X : Option Addr} {xn xc lc : Nat} {sg nums : List Int} {lk : List Nat}
theorem ov_far (h : Ov w Q p lb A n c v o a u X xn xc lc sg nums lk) {r : Option Nat} (hg : w.grownBy w' r) (hr : ∀ k, r = some k → k ≠ p ∧ k ≠ lb ∧ ¬ Q k) : Ov w' Q p lb A n c v o a u X xn xc lc sg nums lk := by
 cases r with
 | none => exact h.next ⟨hg.os, hg.tape, hg.output, hg.size, fun k hk => hg.block k hk (by simp)⟩
 | some k =>
  obtain ⟨h1, h2, h3⟩ := hr k rfl
  exact finImpl.Ov.grown h hg h1 h2 fun z hz e => h3 (e ▸ hz)
end
def HeadWr (w : World) (base : Nat) (T0 : Option Addr) (t1 : List Int) (rd : Nat → List Int) (cs : List Nat) (Y : Option Addr) (yn yc : Nat) (args : List Int) (k : Nat) (out : Value) (wr : World) : Prop :=
 ∃ (T : Option Addr) (n c : Nat), out = .slice T n c ∧ Own wr base (.slice T n c) ((t1 ++ ((cs.take k).map rd).flatten).take 61) ∧ w.grownBy wr (blk T0) ∧ (∀ k, blk T = some k → blk T0 = some k ∨ w.heap.size ≤ k) ∧ Own wr 0 (.slice Y yn yc) args
set_option maxHeartbeats 4000000 in
theorem written (Q : Nat → Prop) (p lb : Nat) (A : Option Addr) (n c : Nat) (v : Value) (o a u : Int) (X : Option Addr) (xn xc lc : Nat) (sg nums nums' : List Int) (Inn : Nat → Prop) (ra ru : Nat) (hN : Nd sg nums nums' xn Inn ra ru) (hs : Arities sg) (hn : n ≤ 1048576) (hxn : xn ≤ 1000) (lk : List Nat) (rt rk : Nat → Nat)
  (hL : Lk xn (fun i => nums.getD i 0) (nodes.nd sg nums nums') Inn lk rt rk) (D : List Nat) (hG : ufMath.Good xn (fun i => nums.getD i 0) (chN sg nums) rt D) (base : Nat) (hb1 : p < base) (hb2 : lb < base) (hb3 : ∀ z, Q z → z < base) :
  ∀ (m x : Nat) (t : List Int) (T : Option Addr) (tn tc : Nat) (w : World), Ov w Q p lb A n c v o a u X xn xc lc sg nums lk → x < xn → (nums.getD (rt x) 0 < 0 ∨ ∃ j, j < m ∧ j < D.length ∧ D.getD j 0 = rt x) → Own w base (.slice T tn tc) t → tn ≤ 61 → base ≤ w.heap.size →
  Calls Tryz.prog 136 #[.pointer (some ⟨p, 0, none⟩), .slice T tn tc, .int .i64 (x : Int)] w (AnsWr w base T ((t ++ rnd (fun i => nums.getD i 0) (chN sg nums) rt D x).take 61)) := by
 intro m
 induction m using Nat.strongRecOn with
 | _ m IH =>
 intro x t T tn tc w hO hx hm hT htn hbase
 have htl := Own.len hT
 obtain ⟨hr1, hr2⟩ := hL.root x hx
 have hrn := (hL.lt x hx).2
 have LT := hid (gives.tooLong T tn tc w (by omega))
 by_cases h61 : 60 < tn
 ·have e1 : (t ++ rnd (fun i => nums.getD i 0) (chN sg nums) rt D x).take 61 = t := by
   rw [List.take_append_of_le_length (by omega), List.take_of_length_le (by omega)]
  have F := hid (show AnsWr w base T ((t ++ rnd (fun i => nums.getD i 0) (chN sg nums) rt D x).take 61) (.returned (.slice T tn tc)) w from by rw [e1]; exact ⟨T, tn, tc, rfl, hT, World.grownBy.refl _ _, fun k hk => .inl hk⟩)
  have e2 : decide (60 < tn) = true := decide_eq_true h61
  rw [e2] at LT
  clear hO hT hm IH htl hr1 hr2 hrn e1 e2 hx
  go_enter Tryz.func136, Tryz.ntmps136
  go_wp2_with fail
  refine LT.out.mono ?_
  rintro e w1 ⟨rfl, rfl⟩
  go_wp2
  go_ret
  exact F.out
 ·have e2 : decide (60 < tn) = false := decide_eq_false h61
  rw [e2] at LT
  obtain ⟨r, hr⟩ : ∃ r, rt x = r := ⟨_, rfl⟩
  have LF := hid (find Q p lb A n c v o a u X xn xc lc sg nums lk x w hO hL hx)
  rw [hr] at LF hr1 hr2 hrn hm
  obtain ⟨hnl, -, hspot⟩ := rdq_nums hO.nm
  obtain ⟨bX, oX, rfl, hqX, hcX⟩ := hspot (by omega)
  have c5 := hO.c5
  obtain ⟨z, hz⟩ : ∃ z, nums.getD r 0 = z := ⟨_, rfl⟩
  have ca : w.cell? ⟨bX, oX + r, none⟩ = some (.int .i64 z) := by rw [← hz]; exact hcX r hrn
  have i0 : (0 : Int) ≤ (r : Int) := by omega
  have i1 : (r : Int) < (xn : Int) := by omega
  have hT1 := fun y : Int => Own.alloc hT (.cells #[.int .i64 y] 2)
  have HT1 := hid hT1
  have HO := hid hO
  have HT := hid hT
  have HIH := hid IH
  have HR := hid hr
  have HZ := hid hz
  have HR1 := hid (And.intro hr1 hr2)
  by_cases hz0 : z < 0
  ·have erd : rnd (fun i => nums.getD i 0) (chN sg nums) rt D x = [-1 - (r : Int)] := by
    rw [rnd_var (by rw [hr]; show nums.getD r 0 < 0; rw [hz]; exact hz0), hr]
   have e1 : (t ++ rnd (fun i => nums.getD i 0) (chN sg nums) rt D x).take 61 = t ++ [-1 - (r : Int)] := by
    rw [erd, List.take_of_length_le (by simp; omega)]
   have HE1 := hid e1
   clear hO hT hm IH htl hr1 hr2 hx hnl hspot hcX hqX hr hz erd e1 e2 hT1
   go_enter Tryz.func136, Tryz.ntmps136
   go_wp2_with fail
   refine LT.out.mono ?_
   rintro e w1 ⟨rfl, rfl⟩
   go_wp2_with fail
   refine LF.out.mono ?_
   rintro e w1 ⟨rfl, rfl⟩
   go_wp2_with (at_builtin; refine appAllAt rfl _ _ rfl base T tn tc t rfl (HT1.out _) (some ⟨w1.heap.size, 0, none⟩) 1 1 (w1.heap.size + 1) [-1 - (r : Int)] rfl (by simpa using renImpl.one_seg w1 (-1 - (r : Int))) (by omega) (by omega) (by omega) (by simp; omega) ?_; intro T' tc' w2 ho2 hg hat; refine (?_ : Hid _).out)
   have hg1 : w1.grownBy w2 (blk T) := grown_trans (grown_below ((Below.refl _ w1).alloc (Nat.le_refl _) _) _) hg
   have F := hid (show AnsWr w1 base T ((t ++ rnd (fun i => nums.getD i 0) (chN sg nums) rt D x).take 61) (.returned (.slice T' (tn + 1) tc')) w2 from by
    rw [HE1.out]
    refine ⟨T', tn + 1, tc', rfl, ho2, hg1, fun k hk => ?_⟩
    rcases hat with h | h
    ·exact .inl (h ▸ hk)
    ·rw [h] at hk
     injection hk with hk
     right
     simp at hk
     omega)
   clear ho2 hg hat hg1 HT1
   refine hid ?_
   go_wp2
   go_ret
   exact F.out
  ·have hj : ∃ j, j < m ∧ j < D.length ∧ D.getD j 0 = r := hm.resolve_left (by rw [hz]; exact hz0)
   obtain ⟨j, hjm, hjD, hjr⟩ := hj
   obtain ⟨-, -, hcl⟩ := hG j hjD
   rw [hjr] at hcl
   have hcl := hcl (by show 0 ≤ nums.getD r 0; rw [hz]; omega)
   have hlt := hN.gr.lt r hrn (by show 0 ≤ nums.getD r 0; rw [hz]; omega)
   obtain ⟨js, hjs⟩ := hN.sc r hrn
   have erd : rnd (fun i => nums.getD i 0) (chN sg nums) rt D x = z :: ((chN sg nums r).map (rnd (fun i => nums.getD i 0) (chN sg nums) rt D)).flatten := by
    have := rnd_sym hG (r := x) (by rw [hr]; exact mem_at.2 ⟨j, hjD, hjr⟩) (by rw [hr]; show 0 ≤ nums.getD r 0; rw [hz]; omega)
    rw [this, hr]
    show nums.getD r 0 :: _ = _
    rw [hz]
   have HERD := hid erd
   have HCL := hid (And.intro hcl hlt)
   have hgeT := fun k (hk : blk T = some k) => Own.ge hT k hk
   have HGT := hid hgeT
   have AK := hid (fun k (hk : k < (chN sg nums r).length) => (show (argsL sg nums r).getD k 0 = (((chN sg nums r).getD k 0 : Nat) : Int) ∧ (chN sg nums r).getD k 0 ∈ chN sg nums r from by
    constructor
    ·rw [args_cast]
     simp [List.getD_eq_getElem?_getD, hk]
    ·rw [List.getD_eq_getElem?_getD, List.getElem?_eq_getElem hk]
     exact List.getElem_mem _))
   have hal : (argsL sg nums r).length = (chN sg nums r).length := by unfold chN; rw [List.length_map]
   have HAL := hid hal
   have ha3 : (argsL sg nums r).length ≤ 3 := argsL_len hs r
   have HA3 := hid ha3
   have HJS := hid hjs
   clear hO hT hm IH htl hr1 hr2 hx hnl hspot hcX hqX hr hz erd e2 hT1 hcl hlt hjs hgeT hal ha3 hjr
   go_enter Tryz.func136, Tryz.ntmps136
   go_wp2_with fail
   refine LT.out.mono ?_
   rintro e w1 ⟨rfl, rfl⟩
   go_wp2_with fail
   refine LF.out.mono ?_
   rintro e w1 ⟨rfl, rfl⟩
   go_wp2_with (at_builtin; refine appAllAt rfl _ _ rfl base T tn tc t rfl (HT1.out _) (some ⟨w1.heap.size, 0, none⟩) 1 1 (w1.heap.size + 1) [z] rfl (by simpa using renImpl.one_seg w1 z) (by omega) (by omega) (by omega) (by simp; omega) ?_; intro T1 tc1 w2 ho2 hg hat; refine (?_ : Hid _).out)
   have hg1 : w1.grownBy w2 (blk T) := grown_trans (grown_below ((Below.refl _ w1).alloc (Nat.le_refl _) _) _) hg
   have hat1 : ∀ k, blk T1 = some k → blk T = some k ∨ w1.heap.size ≤ k := fun k hk => by
    rcases hat with h | h
    ·exact .inl (h ▸ hk)
    ·rw [h] at hk
     injection hk with hk
     right
     simp at hk
     omega
   have O2 := ov_far HO.out hg1 (fun k hk => by have := HGT.out k hk; exact ⟨by omega, by omega, fun h => by have := hb3 k h; omega⟩)
   have LA := hid (ovArgs Q p lb A n c v o a u (some ⟨bX, oX, none⟩) xn xc lc sg nums lk r js w2 O2 hs hn (by omega) hrn HJS.out)
   have HO2 := hid O2
   have HOW := hid (And.intro ho2 (And.intro hg1 hat1))
   clear ho2 hg hat hg1 hat1 O2 HT1 LT LF
   refine hid ?_
   go_wp2_with fail
   refine LA.out.mono ?_
   rintro e w3 ⟨Y, yn, yc, rfl, oY, b3⟩
   obtain ⟨ho2, hg1, hat1⟩ := HOW.out
   have hyl := Own.len oY
   have hyn : yn = (chN sg nums r).length := by rw [hyl]; exact HAL.out
   have hy3 : yn ≤ 3 := by rw [hyl]; exact HA3.out
   have hYT : ∀ k, blk Y = some k → w2.heap.size ≤ k ∧ k < w3.heap.size := fun k hk => own_lt oY k hk
   have hT1s : ∀ k, blk T1 = some k → base ≤ k ∧ k < w2.heap.size := fun k hk => own_lt ho2 k hk
   have O3 := hid (HO2.out.next b3)
   have z3 := b3.size
   have hg3 : w1.grownBy w3 (blk T) := grown_trans hg1 (grown_below b3 _)
   have hzz := hg1.size
   have S0 := hid (show HeadWr w3 base T1 (t ++ [z]) (rnd (fun i => nums.getD i 0) (chN sg nums) rt D) (chN sg nums r) Y yn yc (argsL sg nums r) 0 (.slice T1 (tn + 1) tc1) w3 from
    ⟨T1, tn + 1, tc1, rfl, by
     have hl2 := Own.len ho2
     rw [show ((t ++ [z] ++ (((chN sg nums r).take 0).map (rnd (fun i => nums.getD i 0) (chN sg nums) rt D)).flatten).take 61) = t ++ [z] from by
      rw [List.take_zero, List.map_nil, List.flatten_nil, List.append_nil, List.take_of_length_le (by omega)]]
     exact ho2.next b3, World.grownBy.refl _ _, fun k hk => .inl hk, Own.lower oY (Nat.zero_le _)⟩)
   have HYT := hid (And.intro hYT hT1s)
   have HYN := hid hyn
   have HG3 := hid (And.intro hg3 (And.intro hat1 hzz))
   clear oY b3 ho2 hg1 hat1 HOW LA hYT hT1s hyl hyn hg3
   go_wp2_with fail
   go_loopw [1, 42] (fun out i wr => ∃ k : Nat, i = .int .i64 (k : Int) ∧ k ≤ yn ∧ HeadWr w3 base T1 (t ++ [z]) (rnd (fun i => nums.getD i 0) (chN sg nums) rt D) (chN sg nums r) Y yn yc (argsL sg nums r) k out wr) (fun _ i _ => yn - (intOf i).toNat)
   case atStart => exact ⟨0, rfl, Nat.zero_le _, S0.out⟩
   case round =>
    clear S0
    obtain ⟨k, rfl, hk, T2, n2, c2, rfl, oT2, g2, hat2, oY⟩ := hrel
    by_cases hky : k < yn
    ·have hkc : k < (chN sg nums r).length := by rw [← HYN.out]; exact hky
     obtain ⟨hak, hmem⟩ := AK.out k hkc
     obtain ⟨hcl, hlt⟩ := HCL.out
     obtain ⟨cc, hcc⟩ : ∃ cc, (chN sg nums r).getD k 0 = cc := ⟨_, rfl⟩
     rw [hcc] at hak hmem
     obtain ⟨i, hij, hi⟩ := hcl cc hmem
     have hccx := hlt cc hmem
     obtain ⟨b', off', rfl, hbb, hcell⟩ := (Own.seg oY).round hky
     rw [hak] at hcell
     have hl2 := Own.len oT2
     have hn2 : n2 ≤ 61 := by rw [hl2, List.length_take]; omega
     have hTT : ∀ q, blk T2 = some q → base ≤ q := fun q hq => Own.ge oT2 q hq
     have Or := ov_far O3.out g2 (fun q hq => by have := (HYT.out.2 q hq).1; exact ⟨by omega, by omega, fun h => by have := hb3 q h; omega⟩)
     have hz2 := g2.size
     have LI := hid (HIH.out j hjm cc _ T2 n2 c2 wr Or hccx (.inr ⟨i, hij, by omega, hi⟩) oT2 hn2 (by omega))
     have HST := hid (And.intro oT2 (And.intro g2 (And.intro hat2 oY)))
     have HCC := hid hcc
     have i0 : (0 : Int) ≤ (k : Int) := by omega
     have i1 : (k : Int) < (yn : Int) := by omega
     clear hak hmem hcl hlt hi hl2 Or oT2 g2 hat2 oY hcc hTT
     go_wp2_with fail
     refine LI.out.mono ?_
     rintro e w4 ⟨T3, n3, c3, rfl, oT3, g3, hat3⟩
     obtain ⟨oT2, g2, hat2, oY⟩ := HST.out
     have S2 := hid (show HeadWr w3 base T1 (t ++ [z]) (rnd (fun i => nums.getD i 0) (chN sg nums) rt D) (chN sg nums r) (some ⟨b', off', none⟩) yn yc (argsL sg nums r) (k + 1) (.slice T3 n3 c3) w4 from by
      refine ⟨T3, n3, c3, rfl, ?_, grown_on g2 g3 fun q hq => (hat2 q hq).imp id id, fun q hq => ?_, ?_⟩
      ·rw [take_app] at oT3
       have e1 : (chN sg nums r).take (k + 1) = (chN sg nums r).take k ++ [cc] := by
        rw [List.take_add_one, List.getElem?_eq_getElem hkc]
        have := HCC.out
        rw [List.getD_eq_getElem?_getD, List.getElem?_eq_getElem hkc] at this
        simp only [Option.getD_some] at this
        rw [this]
        rfl
       rw [e1, List.map_append, List.flatten_append, ← List.append_assoc]
       simpa using oT3
      ·rcases hat3 q hq with h | h
       ·exact hat2 q h
       ·exact .inr (by omega)
      ·refine Own.kept oY g3 ?_
       right
       intro e
       have h1 := HYT.out.1 b' rfl
       rcases hat2 b' (by rw [← e]; rfl) with h | h
       ·have := (HYT.out.2 b' h).2; omega
       ·omega)
     clear oT2 g2 hat2 oY oT3 g3 hat3 LI HST
     go_wp2
     go_roundw
     case rel => exact ⟨k + 1, by simp, hky, S2.out⟩
     case measure => simp [intOf]; omega
    ·have i1 : ¬ (k : Int) < (yn : Int) := by omega
     have hky2 : k = (chN sg nums r).length := by have := HYN.out; omega
     have F := hid (show AnsWr w1 base T ((t ++ rnd (fun i => nums.getD i 0) (chN sg nums) rt D x).take 61) (.returned (.slice T2 n2 c2)) wr from by
      obtain ⟨hg3, hat1, hzz⟩ := HG3.out
      refine ⟨T2, n2, c2, rfl, ?_, grown_on hg3 g2 fun q hq => ?_, fun q hq => ?_⟩
      ·rw [HERD.out]
       rw [hky2, List.take_length] at oT2
       simpa using oT2
      ·exact hat1 q hq
      ·rcases hat2 q hq with h | h
       ·exact hat1 q h
       ·exact .inr (by omega))
     clear oT2 g2 hat2 oY hky2
     go_wp2
     go_ret
     exact F.out
end written
end
section
namespace lookOv
open Go.RowKit base ints sig term args sym marks app appAt segs kinds shape drawX bnd renMath rename fillMath unifMath forest triMath ufMath nodes ovImpl linkImpl pathSpec cursor written
set_option maxRecDepth 100000
theorem ov_blocks {w w' : World} {Q : Nat → Prop} {p lb : Nat} {A : Option Addr} {n c : Nat} {v : Value} {o a u : Int} {X : Option Addr} {xn xc lc : Nat} {sg nums : List Int} {lk : List Nat} (h : Ov w Q p lb A n c v o a u X xn xc lc sg nums lk) (hs : w.heap.size ≤ w'.heap.size) (hb : ∀ k, k = p ∨ k = lb ∨ Q k → w'.heap[k]? = w.heap[k]?) : Ov w' Q p lb A n c v o a u X xn xc lc sg nums lk := by
 obtain ⟨cur, h1, h2, h3⟩ := h.lk
 exact ⟨(hb p (.inl rfl)).trans h.row, h.sg.keep fun b hq => hb b (.inr (.inr hq)), h.nm.keep fun b hq => hb b (.inr (.inr hq)), ⟨cur, (hb lb (.inr (.inl rfl))).trans h1, h2, h3⟩, h.ne, fun b hq => ⟨(h.q b hq).1, (h.q b hq).2.1, by have := (h.q b hq).2.2; omega⟩⟩
theorem seg_post {w : World} {B n k b off : Nat} {xs : List Int} (h : Seg w B (some ⟨b, off, none⟩) n xs) (hk : k ≤ n) : Seg w B (some ⟨b, off + k, none⟩) (n - k) (xs.drop k) := by
 refine ⟨by rw [List.length_drop, h.1], fun hn => ?_⟩
 obtain ⟨b', off', e, hb, hc⟩ := h.2 (by omega)
 injection e with e
 injection e with e1 e2
 subst e1 e2
 refine ⟨b, off + k, rfl, hb, fun j hj => ?_⟩
 have := hc (k + j) (by omega)
 rw [Nat.add_assoc, this]
 simp [List.getD_eq_getElem?_getD]
set_option maxHeartbeats 4000000 in
theorem lookOv (Q : Nat → Prop) (p lb : Nat) (A : Option Addr) (n c : Nat) (v : Value) (o a u : Int) (X : Option Addr) (xn xc lc : Nat) (sg nums nums' : List Int) (Inn : Nat → Prop) (ra ru : Nat) (hN : Nd sg nums nums' xn Inn ra ru) (hs : Arities sg) (hn : n ≤ 1048576) (hxn : xn ≤ 1000) (lk : List Nat) (rt rk : Nat → Nat)
  (hL : Lk xn (fun i => nums.getD i 0) (nodes.nd sg nums nums') Inn lk rt rk) (D : List Nat) (hG : ufMath.Good xn (fun i => nums.getD i 0) (chN sg nums) rt D) (bo bs s i : Nat) (W : World) (hO : Ov W Q p lb A n c v o a u X xn xc lc sg nums lk) (ko : W.cell? ⟨bo, 0, none⟩ = some (.pointer (some ⟨p, 0, none⟩))) (ks : W.cell? ⟨bs, 0, none⟩ = some (.int .i64 (s : Int)))
  (hsx : s < xn) (hi : i ≤ 1000) (hmem : (-1 - (i : Int)) ∈ nums.drop s) (hroot : ∀ j, j < xn → nums.getD j 0 < 0 → nums.getD (rt j) 0 < 0 ∨ rt j ∈ D) :
  Calls Tryz.prog 135 #[.int .i64 (i : Int), .pointer (some ⟨bo, 0, none⟩), .pointer (some ⟨bs, 0, none⟩)] W (AnsList W ((rnd (fun i => nums.getD i 0) (chN sg nums) rt D (s + idx (nums.drop s) (-1 - (i : Int)))).take 61)) := by
 obtain ⟨hnl, hcap, hspot⟩ := rdq_nums hO.nm
 obtain ⟨bX, oX, rfl, hqX, hcX⟩ := hspot (by omega)
 have c5 := hO.c5
 have hq := fun b hb => (hO.q b hb).2.2
 have sN : Seg W W.heap.size (some ⟨bX, oX, none⟩) xn nums := Rd.seg (hO.nm.rd hq)
 obtain ⟨q, hqq⟩ : ∃ q, idx (nums.drop s) (-1 - (i : Int)) = q := ⟨_, rfl⟩
 have hql : q < xn - s := by
  have := idx_lt hmem
  rw [hqq, List.length_drop, hnl] at this
  exact this
 have hneg : nums.getD (s + q) 0 < 0 := by
  have h1 := idx_get hmem
  rw [hqq, List.getD_eq_getElem?_getD, List.getElem?_drop] at h1
  rw [List.getD_eq_getElem?_getD, h1]
  omega
 rw [hqq]
 have hij := hroot (s + q) (by omega) hneg
 have hm : nums.getD (rt (s + q)) 0 < 0 ∨ ∃ j, j < D.length ∧ j < D.length ∧ D.getD j 0 = rt (s + q) := hij.imp id fun h => by
  obtain ⟨j, h1, h2⟩ := mem_at.1 h
  exact ⟨j, h1, h1, h2⟩
 have EI := Lib.hid (show indexI (nums.drop s) (-1 - (i : Int)) = (q : Int) by unfold indexI; rw [if_pos hmem, hqq])
 have LI := Lib.hid (fun d' : Nat => indexOf (some ⟨bX, oX + s, none⟩) (xn - s) (xc - s) (nums.drop s) (-1 - (i : Int)) (W.drewN d') ((seg_post sN (by omega)).drewN d') (by omega))
 have LW0 := (fun d' : Nat => Go.Proofs.YtlmofkeemlfpgaaGreat.written.written Q p lb A n c v o a u (some ⟨bX, oX, none⟩) xn xc lc sg nums nums' Inn ra ru hN hs hn hxn lk rt rk hL D hG W.heap.size hO.lt.1 hO.lt.2 hq D.length (s + q) [] none 0 0 (W.drewN d') (hO.drewN d') (by omega) hm (Own.nil _ _) (by omega) (Nat.le_refl _))
 simp only [Int.natCast_add, List.nil_append] at LW0
 have LW := Lib.hid LW0
 have i6 : (s : Int) + (q : Int) ≤ 1000 := by omega
 have hxc := hcap.1
 have i1 : (s : Int) ≤ (xn : Int) := by omega
 have i2 : (xn : Int) ≤ (xc : Int) := by omega
 have i3 : ¬ xc = s := by omega
 have i4 : (0 : Int) ≤ (s : Int) := by omega
 have i7 : (0 : Int) ≤ (q : Int) := by omega
 clear LW0 hnl hspot hcX hqX hq sN hql hneg hij hm hmem hqq hroot hO hL hG hN hs hcap
 go_enter Tryz.func135, Tryz.ntmps135
 go_wp2_with fail
 go_quiet ((go_at_call 133; exact Calls.quiet_of_same (v := .int .i64 (q : Int)) ((LI.out _).mono fun _ _ ⟨h1, h2⟩ => ⟨by rw [h2, EI.out], h1.symm⟩)))
 go_wp2_with fail
 refine (LW.out _).mono ?_
 rintro e w2 ⟨T', n', c', rfl, oT, gT, -⟩
 have F := Lib.hid (show AnsList W ((rnd (fun i => nums.getD i 0) (chN sg nums) rt D (s + q)).take 61) (.returned (.slice T' n' c')) w2 from ⟨T', n', c', rfl, oT, ⟨gT.os, gT.tape, gT.output, gT.size, fun k hk => gT.block k hk (by simp [blk])⟩⟩)
 clear oT gT
 go_wp2
 go_ret
 exact F.out
end lookOv
end
section
open Go.Lib (hid)
namespace renWide
open Go.RowKit base ints sig cursor term termOk marks app appAt sym segs termFacts varsMath fillMath Go.Proofs.YtlmofkeemlfpgaaGreat.look renMath rename renImpl
set_option maxRecDepth 100000
theorem varTermW (i : Int) (w : World) (h0 : 0 ≤ i) (h1 : i ≤ 1000000) :
  Calls Tryz.prog 134 #[.int .i64 i] w (AnsList w [-1 - i]) := by
 have F : AnsList w [-1 - i] (.returned (.slice (some ⟨w.heap.size, 0, none⟩) 1 1)) (w.alloc (.cells #[.int .i64 (-1 - i)] 2)) :=
  ⟨_, 1, 1, rfl, Own.of_row (Row.new _ _ _) rfl rfl (Nat.le_refl _) (by omega) (Nat.le_refl _) (fun j hj => by
   have e : j = 0 := by omega
   subst e
   rfl), (Below.refl _ _).alloc (Nat.le_refl _) _⟩
 have HF := hid F
 clear F
 go_enter Tryz.func134, Tryz.ntmps134
 go_wp2
 go_ret
 exact HF.out
def AnsRenW (W : World) (B bs : Nat) (S : Option Addr) (o : List Int) (x : Int) (e : Ending) (w' : World) : Prop :=
 ∃ A c S' sn' sc', e = .returned (.slice A 1 c) ∧ Seg w' w'.heap.size A 1 [-1 - (idx (ext o x) x : Int)] ∧ (A = none → c = 0) ∧ Row w' B 22 #[.slice S' sn' sc'] ∧
  Own w' bs (.slice S' sn' sc') ((ext o x).map vn) ∧ (blk S' = blk S ∨ ∃ k, blk S' = some k ∧ W.heap.size ≤ k) ∧ Side B (blk S) W w'
set_option maxHeartbeats 4000000 in
theorem ren1W (B bs : Nat)  (S : Option Addr) (sn sc : Nat) (o : List Int) (x : Int) (W : World) (hr : Row W B 22 #[.slice S sn sc]) (ho : Own W bs (.slice S sn sc) (o.map vn)) (hx0 : -100000 ≤ x) (hx1 : x < 0) (hsn : sn ≤ 100000) (hB : B < bs) (hbs : bs ≤ W.heap.size) :
  Calls Tryz.prog 132 #[.int .i64 (-1 - x), .pointer (some ⟨B, 0, none⟩)] W (AnsRenW W B bs S o x) := by
 have hl := Own.len ho
 simp only [List.length_map] at hl
 have hlt := hr.lt
 have cB : W.cell? ⟨B, 0, none⟩ = some (.slice S sn sc) := hr.cell 0
 have fB : W.frozen? ⟨B, 0, none⟩ = false := hr.free 0
 have LI := hid (indexOf S sn sc (o.map vn) (-1 - x) W (Own.seg ho) (by omega))
 by_cases hin : x ∈ o
 ·have hi : idx o x < o.length := idx_lt hin
  obtain ⟨q, hq⟩ : ∃ q, idx o x = q := ⟨_, rfl⟩
  have EI := hid (show indexI (o.map vn) (-1 - x) = (q : Int) by
   unfold indexI
   rw [show (-1 - x : Int) = vn x from rfl, if_pos ((mem_map_inj vn_inj).2 hin), idx_map vn_inj, hq])
  have EX := hid (show ext o x = o by unfold ext; rw [if_pos hin])
  have LV := hid (varTermW (q : Int) W (by omega) (by omega))
  have HQ := hid hq
  have hq60 : q ≤ 100000 := by omega
  have HR := hid hr
  have HO := hid ho
  clear hin hi hq hl hr ho
  go_enter Tryz.func132, Tryz.ntmps132
  go_wp2_with fail
  refine LI.out.mono ?_
  rintro e w' ⟨rfl, he⟩
  rw [EI.out] at he
  subst he
  clear LI
  go_wp2_with fail
  refine LV.out.mono ?_
  rintro e w1 ⟨A, n, c, rfl, oq, bb⟩
  have hn1 := Own.len oq
  simp only [List.length_cons, List.length_nil] at hn1
  subst hn1
  have F : AnsRenW W B bs S o x (.returned (.slice A 1 c)) w1 :=
   ⟨A, c, S, sn, sc, rfl, by rw [EX.out, HQ.out]; exact Own.seg oq, (own_cap oq).2.2, HR.out.next bb, by rw [EX.out]; exact HO.out.next bb, .inl rfl, Side.of_below bb⟩
  have HF := hid F
  clear F oq bb LV cB fB
  go_wp2
  go_ret
  exact HF.out
 ·have EI := hid (show indexI (o.map vn) (-1 - x) = -1 by
   unfold indexI
   rw [show (-1 - x : Int) = vn x from rfl, if_neg (fun h => hin ((mem_map_inj vn_inj).1 h))])
  have EX := hid (show (ext o x).map vn = o.map vn ++ [-1 - x] by unfold ext; rw [if_neg hin, List.map_append]; rfl)
  have EQ := hid (show idx (ext o x) x = sn by unfold ext; rw [if_neg hin, idx_app_new hin, hl])
  have hne := own_ne ho hr
  have hr1 := hr.alloc (.cells #[.int .i64 (-1 - x)] 2)
  have ho1 := Own.alloc ho (.cells #[.int .i64 (-1 - x)] 2)
  have HNE := hid hne
  have HN := hid hl
  clear hin hl hr ho hne
  go_enter Tryz.func132, Tryz.ntmps132
  go_wp2_with fail
  refine LI.out.mono ?_
  rintro e w' ⟨rfl, he⟩
  rw [EI.out] at he
  subst he
  clear LI
  go_wp2_with (first
   | (at_builtin; refine appAllAt rfl _ _ rfl bs S sn sc (o.map vn) rfl ho1 (some ⟨W.heap.size, 0, none⟩) 1 1 (W.heap.size + 1) [-1 - x] rfl (by simpa using one_seg W (-1 - x)) (by omega) (by omega) (by omega) (by simp; omega) ?_; intro S' sc' w2 ho2 hg hat; have r2 := Row.away hr1 hg HNE.out; have cB2 : w2.cell? ⟨B, 0, none⟩ = some (.slice S sn sc) := r2.cell 0; have fB2 : w2.frozen? ⟨B, 0, none⟩ = false := r2.free 0)
   | (go_at_call 134; refine (varTermW (sn : Int) _ (by omega) (by omega)).mono ?_; rintro e w3 ⟨A, n, c, rfl, oq, bb⟩))
  have hn1 := Own.len oq
  simp only [List.length_cons, List.length_nil] at hn1
  subst hn1
  have r3 := r2.put 0 (.slice S' (sn + 1) sc')
  have hg3 : w2.grownBy (w2.setCell ⟨B, 0, none⟩ (.slice S' (sn + 1) sc')) (some B) := grown_put (World.grownBy.refl _ _) _ _
  have o3 := Own.far ho2 hg3 (fun k hk => by injection hk; omega)
  have sd : Side B (blk S) W w3 := (((Side.of_below ((Below.refl _ _).alloc (Nat.le_refl _) _)).trans (Side.of_grown hg)).trans (Side.of_var hg3)).trans (Side.of_below bb)
  have F : AnsRenW W B bs S o x (.returned (.slice A 1 c)) w3 := by
   refine ⟨A, c, S', sn + 1, sc', rfl, by rw [EQ.out]; exact Own.seg oq, (own_cap oq).2.2, r3.next bb, by rw [EX.out]; exact o3.next bb, ?_, sd⟩
   rcases hat with h | h
   ·exact .inl h
   ·exact .inr ⟨_, h, by simp⟩
  have HF := hid F
  clear F oq bb r3 hg3 o3 sd hat hg ho2 r2 cB2 fB2 cB fB hr1 ho1
  go_wp2
  go_ret
  exact HF.out
def HeadRGW (w : World) (B bs m : Nat) (o t : List Int) (S0 : Option Addr) (out i : Value) (wr : World) : Prop :=
 ∃ (k : Nat) (O : Option Addr) (on oc : Nat) (S : Option Addr) (sn sc : Nat), k ≤ m ∧ i = .int .i64 k ∧ out = .slice O on oc ∧ Own wr w.heap.size (.slice O on oc) (renF o (t.take k)) ∧ Row wr B 22 #[.slice S sn sc] ∧
  Own wr bs (.slice S sn sc) ((ordF o (t.take k)).map vn) ∧ (blk S = blk S0 ∨ ∃ q, blk S = some q ∧ w.heap.size ≤ q) ∧ (blk O = none ∨ blk O ≠ blk S) ∧ Side B (blk S0) w wr
def AnsRGW (w : World) (B bs : Nat) (o t : List Int) (S0 : Option Addr) (e : Ending) (w' : World) : Prop :=
 ∃ O on oc S sn sc, e = .returned (.slice O on oc) ∧ Own w' w.heap.size (.slice O on oc) (renF o t) ∧ Row w' B 22 #[.slice S sn sc] ∧ Own w' bs (.slice S sn sc) ((ordF o t).map vn) ∧ (blk S = blk S0 ∨ ∃ q, blk S = some q ∧ w.heap.size ≤ q) ∧ (blk O = none ∨ blk O ≠ blk S) ∧ Side B (blk S0) w w'
set_option maxHeartbeats 4000000 in
theorem fillRenW (B bs : Nat) (A : Option Addr) (m c : Nat) (o t : List Int) (S0 : Option Addr) (n0 c0 : Nat) (w : World) (hr : Row w B 22 #[.slice S0 n0 c0]) (hS : Own w bs (.slice S0 n0 c0) (o.map vn)) (h : Seg w w.heap.size A m t) (hA : ∀ k, blk A = some k → k ≠ B ∧ blk S0 ≠ some k) (hm : m ≤ 10000) (ho : o.length ≤ 50000) (hv : ∀ x ∈ t, -100000 ≤ x) (hB : B < bs) (hbs : bs ≤ w.heap.size) :
  Calls Tryz.prog 104 #[.func (.func 132) #[] #[.pointer (some ⟨B, 0, none⟩)], .slice A m c] w (AnsRGW w B bs o t S0) := by
 have HL := hid h.1
 have HV := hid hv
 have hBw := hr.lt
 have HG := hid (fun k hk => (blk_lt hS k hk).1)
 have S1 : HeadRGW w B bs m o t S0 (.slice none 0 0) (.int .i64 0) w := ⟨0, none, 0, 0, S0, n0, c0, Nat.zero_le _, rfl, rfl, by simpa [renF] using Own.nil w w.heap.size, hr, by simpa [ordF] using hS, .inl rfl, .inl rfl, Side.of_below (Below.refl _ _)⟩
 have HS0 := hid S1
 clear S1 hv hr hS
 go_enter Tryz.func104, Tryz.ntmps104
 go_wp2
 go_loopw [5, 10] (fun out i wr => HeadRGW w B bs m o t S0 out i wr) (fun _ i _ => m - (intOf i).toNat)
 case atStart => exact HS0.out
 case round =>
  obtain ⟨k, O, on, oc, S, sn, sc, hk, rfl, rfl, hO, hr, hs, hat0, hne, hsd⟩ := hrel
  clear HS0
  have hon : on ≤ 10000 := by rw [Own.len hO]; unfold renF; simp; omega
  have hsn : sn ≤ 100000 := by have h1 := Own.len hs; have h2 := ordF_len o (t.take k); simp at h1 h2; omega
  have hBlt := hr.lt
  have hwz := hsd.size
  by_cases hlt : k < m
  ·obtain ⟨b, off, x, rfl, hbb, hx, ex⟩ := h.spot hlt
   have hx1 : wr.cell? ⟨b, off + k, none⟩ = some (.int .i64 x) := by
    have hA1 := hA b rfl
    have hneS : some b ≠ blk S0 := fun e => hA1.2 e.symm
    exact (World.cell?_of_block (hsd.block b hbb hA1.1 hneS)).trans hx
   have hmem := mem_of_get (by rw [HL.out]; exact hlt) ex.out
   have hx24 : -100000 ≤ x := HV.out x hmem
   have E := hid (renF_take (o := o) (t := t) (k := k) (by rw [HL.out]; exact hlt) ex.out)
   have EO := hid (ordF_take (o := o) (t := t) (k := k) (by rw [HL.out]; exact hlt) ex.out)
   clear hmem hx h ex
   by_cases hpos : 0 ≤ x
   ·have R := hid (show ren (extV (ordF o (t.take k)) x) x = x by unfold ren; rw [if_neg (by omega)])
    have R2 := hid (show extV (ordF o (t.take k)) x = ordF o (t.take k) by unfold extV; rw [if_neg (by omega)])
    have ho1 := Own.alloc hO (.cells #[.int .i64 x] 2)
    have hs1 := Own.alloc hs (.cells #[.int .i64 x] 2)
    have hr1 := hr.alloc (.cells #[.int .i64 x] 2)
    go_wp2_with (at_builtin; refine appAllAt rfl _ _ rfl w.heap.size O on oc (renF o (t.take k)) rfl ho1 (some ⟨wr.heap.size, 0, none⟩) 1 1 (wr.heap.size + 1) [x] rfl (by simpa using one_seg wr x) (by omega) (by omega) (by omega) (by simp; omega) ?_; intro O' oc' w2 ho2 hg hat)
    have S1 : HeadRGW w B bs m o t S0 (.slice O' (on + 1) oc') (.int .i64 ((k : Int) + 1)) w2 := by
     refine ⟨k + 1, O', on + 1, oc', S, sn, sc, hlt, by simp, rfl, by rw [E.out, R.out]; exact ho2, Row.away hr1 hg (own_ne ho1 hr1), by rw [EO.out, R2.out]; exact Own.kept hs1 hg (ne_flip hne), hat0, ?_, ?_⟩
     ·rcases hat with h | h
      ·rw [h]; exact hne
      ·exact ne_new hs1 _ (Nat.le_refl _) h
     ·exact (hsd.allocs _).grow hg (fun q hq => (blk_lt hO q hq).1)
    have S := hid S1
    clear S1 ho2 hg hat ho1 hs1 hr1 hO hs hr hne hsd R R2 E EO hat0
    go_wp2
    go_roundw
    case rel => exact S.out
    case measure => simp [intOf]; omega
   ·have hneg : x < 0 := by omega
    have R := hid (show ren (extV (ordF o (t.take k)) x) x = -1 - (idx (ext (ordF o (t.take k)) x) x : Int) by unfold ren extV; rw [if_pos hneg, if_pos hneg])
    have R2 := hid (show extV (ordF o (t.take k)) x = ext (ordF o (t.take k)) x by unfold extV; rw [if_pos hneg])
    have L := hid (ren1W B bs S sn sc _ x wr hr hs hx24 hneg hsn hB (by omega))
    go_wp2_with (first
     | (go_at_call 132; refine L.out.mono ?_; rintro e w1 ⟨A1, c1, S1, sn1, sc1, rfl, s1, hc1, r1, os1, hat1, sd⟩; have ho1 := Own.side hO sd hr hne; have hz1 := sd.size; have hne1 : blk O = none ∨ blk O ≠ blk S1 := (by rcases hat1 with h | ⟨q, h, hq⟩; (rw [h]; exact hne); (rw [h]; exact (by cases e : blk O with | none => exact .inl rfl | some z => exact .inr (fun e2 => by injection e2 with e2; have := (blk_lt hO z e).2; omega)))))
     | (at_builtin; refine appAllAt rfl _ _ rfl w.heap.size O on oc (renF o (t.take k)) rfl ho1 A1 1 c1 w1.heap.size _ rfl s1 (by omega) (by omega) (by omega) (by omega) ?_; intro O' oc' w2 ho2 hg hat))
    have SS : HeadRGW w B bs m o t S0 (.slice O' (on + 1) oc') (.int .i64 ((k : Int) + 1)) w2 := by
     refine ⟨k + 1, O', on + 1, oc', S1, sn1, sc1, hlt, by simp, rfl, by rw [E.out, R.out]; exact ho2, Row.away r1 hg (own_ne ho1 r1), by rw [EO.out, R2.out]; exact Own.kept os1 hg (ne_flip hne1), ?_, ?_, ?_⟩
     ·rcases hat1 with h | ⟨q, h, hq⟩
      ·rw [h]; exact hat0
      ·exact .inr ⟨q, h, by omega⟩
     ·rcases hat with h | h
      ·rw [h]; exact hne1
      ·exact ne_new os1 _ (Nat.le_refl _) h
     ·exact (hsd.on hat0 sd).grow hg (fun q hq => (blk_lt ho1 q hq).1)
    have HSS := hid SS
    clear SS ho2 hg hat ho1 s1 r1 os1 hat1 sd hne1 hO hs hr hne hsd R R2 E EO L hat0
    go_wp2
    go_roundw
    case rel => exact HSS.out
    case measure => simp [intOf]; omega
  ·rw [List.take_of_length_le (by rw [HL.out]; omega)] at hO hs
   have F : AnsRGW w B bs o t S0 (.returned (.slice O on oc)) wr := ⟨O, on, oc, S, sn, sc, rfl, hO, hr, hs, hat0, hne, hsd⟩
   have HF := hid F
   clear F hO hs hr hne hsd h
   go_wp2
   go_ret
   exact HF.out
end renWide
end
section
namespace thn
open Go.RowKit base ints cursor marks app sym segs fillMath Go.Proofs.YtlmofkeemlfpgaaGreat.look
set_option maxRecDepth 100000
def LooksE (x : Option Nat) (g : Nat) (lb : Array Value) (w : World) (L : Nat → List Int) (N : Nat) : Prop :=
 ∀ (W : World) (i : Nat), w.grownBy W x → i < N → Calls Tryz.prog g (#[.int .i64 (i : Int)] ++ lb) W (AnsLook w.heap.size W (L i))
section
variable {x : Option Nat} {g : Nat} {lb : Array Value} {w w' : World} {L L' : Nat → List Int} {N : Nat}
theorem LooksE.next (h : LooksE x g lb w L N) (hg : w.grownBy w' x) : LooksE x g lb w' L N :=
 fun W i hW hi => (h W i (grown_trans hg hW) hi).mono fun _ _ ⟨A, n, c, he, h1, h2, h3, h4⟩ => ⟨A, n, c, he, h1, h2, fun k hk => by have := h3 k hk; have := hg.size; omega, h4⟩
theorem LooksE.ext (h : LooksE x g lb w L N) (e : ∀ i, i < N → L i = L' i) : LooksE x g lb w L' N := fun W i hW hi => by rw [← e i hi]; exact h W i hW hi
end
theorem thenC (g1 g2 : Nat) (lb1 lb2 : Array Value) (w : World) :
  Calls Tryz.prog 102 #[.func (.func g1) #[] lb1, .func (.func g2) #[] lb2] w fun e w' => e = .returned (.func (.func 137) #[] #[.pointer (some ⟨w.heap.size + 1, 0, none⟩), .pointer (some ⟨w.heap.size, 0, none⟩)]) ∧ w' = (w.alloc (.cells #[.func (.func g1) #[] lb1] 124)).alloc (.cells #[.func (.func g2) #[] lb2] 124) := by
 have hmf : ∀ (fn : Fn) (first cap : Array Value) (w : World), (Instr.makeFunc fn first cap).run Tryz.prog w = .ok (.func fn first cap) w := fun _ _ _ _ => rfl
 go_enter Tryz.func102, Tryz.ntmps102
 go_wp2
 go_ret
 exact ⟨rfl, rfl⟩
def AnsThen (w : World) (g1 g2 : Nat) (lb1 lb2 : Array Value) (e : Ending) (w' : World) : Prop :=
 ∃ b1 b2, e = .returned (.func (.func 137) #[] #[.pointer (some ⟨b2, 0, none⟩), .pointer (some ⟨b1, 0, none⟩)]) ∧ w.heap.size ≤ b1 ∧ w.heap.size ≤ b2 ∧ w'.cell? ⟨b1, 0, none⟩ = some (.func (.func g1) #[] lb1) ∧ w'.cell? ⟨b2, 0, none⟩ = some (.func (.func g2) #[] lb2) ∧ Below w.heap.size w w'
theorem thenB (g1 g2 : Nat) (lb1 lb2 : Array Value) (w : World) :
  Calls Tryz.prog 102 #[.func (.func g1) #[] lb1, .func (.func g2) #[] lb2] w (AnsThen w g1 g2 lb1 lb2) :=
 (thenC g1 g2 lb1 lb2 w).mono fun e w' ⟨h1, h2⟩ => by
  subst h2
  refine ⟨_, _, h1, Nat.le_refl _, Nat.le_succ _, ((Row.new w _ _).alloc _).cell 0, ?_, ((Below.refl _ _).alloc (Nat.le_refl _) _).alloc (by simp) _⟩
  simp
end thn
end
end Go.Proofs.YtlmofkeemlfpgaaGreat
