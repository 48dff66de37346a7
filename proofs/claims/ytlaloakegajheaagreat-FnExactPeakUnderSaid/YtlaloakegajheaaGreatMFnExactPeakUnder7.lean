/-
  MERGED: my texts PeakMay, PeakImpl, WalkSpecC, WalkSpecD, KindsT, Und, one behind the other, as they are. By an AI agent.
-/
import Derived.Test.YtlaloakegajheaaGreatMFnExactPeakUnder6
import Derived.Deep.RegionHeld3
namespace Go.Proofs.YtlaloakegajheaaGreat
section
open Go.Lib (hid)
open List (setIfInBounds_toArray set_cons_zero set_cons_succ getElem_toArray getElem_cons_zero getElem_cons_succ)
namespace peakImpl
open Go.RowKit heldT base ints sig term termOk endAt marks app sym pathSpec wayTo place segs segsHelp kinds termFacts same shape kindsR kindsW kindsP varsOf ruleMath ruleSpec ruleImpl stepMath walkMath stepSpec stepImpl walkSpec walkImpl peakMath peakSame
set_option maxRecDepth 100000
set_option maxHeartbeats 8000000 in
theorem mayOverlap (a v : Value) (d : Dat sSystem) (o x u : Int) (w : World) (h : Rd w w.heap.size sSystem [a, v] d) (hz : sz sSystem d ≤ 1048576) (hl : ∀ k, k < d.2.length → termOkB d.1 (d.2.getD k ([], [])).1 = true) :
  Calls Tryz.prog 75 #[.agg #[a, v], .int .i64 o, .int .i64 x, .int .i64 u] w (AnsB w (mayB d.2 o x u)) := by
 obtain ⟨A, n, cs, V, q, cv, rfl, rfl, hs, hc, hcv, hq, hn, hq1, hrs, hsg, hE⟩ := rd_sys h hz
 obtain ⟨W, hW, rA, bel⟩ := box1 w 100 #[.slice A n cs, .slice V q cv]
 have HW := hid hW
 have HQ := hid hq
 have BEL := hid bel
 have ZA : w.heap.size < W.heap.size := rA.lt
 have K0 : W.cell? ⟨w.heap.size, 0, none⟩ = some (.slice A n cs) := rA.cell 0
 have K1 : W.cell? ⟨w.heap.size, 1, none⟩ = some (.slice V q cv) := rA.cell 1
 have LH1 := hid (hasRule (.slice A n cs) V q cv o W.drew hq1)
 have LH2 := hid (fun (w1 : World) => hasRule (.slice A n cs) V q cv u w1 hq1)
 clear hW rA h hz hc hcv
 obtain ⟨b1, hb1⟩ : ∃ z, walkMath.inB o q = z := ⟨_, rfl⟩
 obtain ⟨b2, hb2⟩ : ∃ z, walkMath.inB u q = z := ⟨_, rfl⟩
 rw [hb1] at LH1
 simp only [hb2] at LH2
 cases b1 with
 | false =>
  have HF := hid (show mayB d.2 o x u = false from may_no1 (by rw [hq]; exact hb1))
  clear hb1 hb2 hl hs hq hrs hsg hE bel
  go_enter Tryz.func75, Tryz.ntmps75
  go_upto_region 1 with fail
  rw [← HW.out]
  refine AnyT.start (S := (fun w' => w'.cell? ⟨w.heap.size, 0, none⟩ = some (.slice A n cs) ∧ w'.cell? ⟨w.heap.size, 1, none⟩ = some (.slice V q cv))) (fun _ => false) (by kernel_rfl) ⟨K0, K1⟩ (fun hHeld => ?_)
  refine AnyT.take (i := 0) (v := ?_) rfl (by kernel_rfl) (by kernel_rfl) (by kernel_rfl) (by kernel_rfl) (fun _ _ _ h => h) (Or.inl ⟨by rfl, ?_⟩) (by assumption) ?_
  rotate_left 1
  ·(intro w0 hSw; (try dsimp only at hSw); go_simp; try with_reducible rfl)
  try simp only [Act.put, setIfInBounds_toArray, set_cons_zero, set_cons_succ, getElem_toArray, getElem_cons_zero, getElem_cons_succ]
  refine AnyT.takeA (i := 1) (v := ?_) rfl (by kernel_rfl) (by kernel_rfl) (by kernel_rfl) (fun _ _ _ h => h) (Or.inl ⟨by rfl, ?_⟩) ?_
  rotate_left 1
  ·(intro w0 _; go_simp; try with_reducible rfl)
  try simp only [Act.put, setIfInBounds_toArray, set_cons_zero, set_cons_succ, getElem_toArray, getElem_cons_zero, getElem_cons_succ]
  refine AnyT.call (i := 2) (by kernel_rfl) rfl (fun K hK => ?_)
  try simp only [Act.put, setIfInBounds_toArray, set_cons_zero, set_cons_succ, getElem_toArray, getElem_cons_zero, getElem_cons_succ]
  rw [if_pos (by rfl)]
  go_simp
  (go_at_call 134; refine LH1.out.mono ?_; rintro e v1 ⟨rfl, b1⟩; have Bv1 : Below W.heap.size W v1 := next_trans (Below.refl W.heap.size W).drew b1; have hv1_0 : v1.cell? ⟨w.heap.size, 0, none⟩ = some (.slice A n cs) := (Bv1.cell (p := ⟨w.heap.size, 0, none⟩) ZA).trans K0; have hv1_1 : v1.cell? ⟨w.heap.size, 1, none⟩ = some (.slice V q cv) := (Bv1.cell (p := ⟨w.heap.size, 1, none⟩) ZA).trans K1; go_wp2_with fail)
  refine hK.out _ _ (fun _ _ => ?_) (fun hKeep => ?_)
  ·exact ⟨hv1_0, hv1_1⟩
  replace hHeld := hKeep (by first | rfl | trivial) hHeld
  clear hK K hKeep
  try simp only [Act.put, setIfInBounds_toArray, set_cons_zero, set_cons_succ, getElem_toArray, getElem_cons_zero, getElem_cons_succ]
  refine AnyT.takeA (i := 3) (v := ?_) rfl (by kernel_rfl) (by kernel_rfl) (by kernel_rfl) (fun _ _ _ h => h) (Or.inl ⟨by rfl, ?_⟩) ?_
  rotate_left 1
  ·(intro w0 _; go_simp; try with_reducible rfl)
  try simp only [Act.put, setIfInBounds_toArray, set_cons_zero, set_cons_succ, getElem_toArray, getElem_cons_zero, getElem_cons_succ]
  refine AnyT.takeA (i := 4) (v := undef) rfl (by kernel_rfl) (by kernel_rfl) (by kernel_rfl) (fun _ _ _ h => h) (Or.inr ⟨by rfl, rfl⟩) ?_
  try simp only [Act.put, setIfInBounds_toArray, set_cons_zero, set_cons_succ, getElem_toArray, getElem_cons_zero, getElem_cons_succ]
  refine AnyT.takeA (i := 5) (v := undef) rfl (by kernel_rfl) (by kernel_rfl) (by kernel_rfl) (fun _ _ _ h => h) (Or.inr ⟨by rfl, rfl⟩) ?_
  try simp only [Act.put, setIfInBounds_toArray, set_cons_zero, set_cons_succ, getElem_toArray, getElem_cons_zero, getElem_cons_succ]
  refine AnyT.call (i := 6) (by kernel_rfl) rfl (fun K hK => ?_)
  try simp only [Act.put, setIfInBounds_toArray, set_cons_zero, set_cons_succ, getElem_toArray, getElem_cons_zero, getElem_cons_succ]
  rw [if_neg (by intro h; cases h)]
  refine hK.out _ _ (fun _ h => h) (fun _ => ?_)
  clear hK K
  try simp only [Act.put, setIfInBounds_toArray, set_cons_zero, set_cons_succ, getElem_toArray, getElem_cons_zero, getElem_cons_succ]
  refine AnyT.takeA (i := 7) (v := ?_) rfl (by kernel_rfl) (by kernel_rfl) (by kernel_rfl) (fun _ _ _ h => h) (Or.inl ⟨by rfl, ?_⟩) ?_
  rotate_left 1
  ·(intro w0 _; go_simp; try with_reducible rfl)
  try simp only [Act.put, setIfInBounds_toArray, set_cons_zero, set_cons_succ, getElem_toArray, getElem_cons_zero, getElem_cons_succ]
  refine AnyT.takeA (i := 8) (v := ?_) rfl (by kernel_rfl) (by kernel_rfl) (by kernel_rfl) (fun _ _ _ h => h) (Or.inl ⟨by rfl, ?_⟩) ?_
  rotate_left 1
  ·(intro w0 _; go_simp; try with_reducible rfl)
  try simp only [Act.put, setIfInBounds_toArray, set_cons_zero, set_cons_succ, getElem_toArray, getElem_cons_zero, getElem_cons_succ]
  refine AnyT.takeA (i := 9) (v := undef) rfl (by kernel_rfl) (by kernel_rfl) (by kernel_rfl) (fun _ _ _ h => h) (Or.inr ⟨by rfl, rfl⟩) ?_
  try simp only [Act.put, setIfInBounds_toArray, set_cons_zero, set_cons_succ, getElem_toArray, getElem_cons_zero, getElem_cons_succ]
  refine AnyT.takeA (i := 10) (v := undef) rfl (by kernel_rfl) (by kernel_rfl) (by kernel_rfl) (fun _ _ _ h => h) (Or.inr ⟨by rfl, rfl⟩) ?_
  try simp only [Act.put, setIfInBounds_toArray, set_cons_zero, set_cons_succ, getElem_toArray, getElem_cons_zero, getElem_cons_succ]
  refine AnyT.takeA (i := 11) (v := undef) rfl (by kernel_rfl) (by kernel_rfl) (by kernel_rfl) (fun _ _ _ h => h) (Or.inr ⟨by rfl, rfl⟩) ?_
  try simp only [Act.put, setIfInBounds_toArray, set_cons_zero, set_cons_succ, getElem_toArray, getElem_cons_zero, getElem_cons_succ]
  refine AnyT.takeA (i := 12) (v := undef) rfl (by kernel_rfl) (by kernel_rfl) (by kernel_rfl) (fun _ _ _ h => h) (Or.inr ⟨by rfl, rfl⟩) ?_
  try simp only [Act.put, setIfInBounds_toArray, set_cons_zero, set_cons_succ, getElem_toArray, getElem_cons_zero, getElem_cons_succ]
  refine AnyT.takeA (i := 13) (v := undef) rfl (by kernel_rfl) (by kernel_rfl) (by kernel_rfl) (fun _ _ _ h => h) (Or.inr ⟨by rfl, rfl⟩) ?_
  try simp only [Act.put, setIfInBounds_toArray, set_cons_zero, set_cons_succ, getElem_toArray, getElem_cons_zero, getElem_cons_succ]
  refine AnyT.takeA (i := 14) (v := undef) rfl (by kernel_rfl) (by kernel_rfl) (by kernel_rfl) (fun _ _ _ h => h) (Or.inr ⟨by rfl, rfl⟩) ?_
  try simp only [Act.put, setIfInBounds_toArray, set_cons_zero, set_cons_succ, getElem_toArray, getElem_cons_zero, getElem_cons_succ]
  refine AnyT.takeA (i := 15) (v := undef) rfl (by kernel_rfl) (by kernel_rfl) (by kernel_rfl) (fun _ _ _ h => h) (Or.inr ⟨by rfl, rfl⟩) ?_
  try simp only [Act.put, setIfInBounds_toArray, set_cons_zero, set_cons_succ, getElem_toArray, getElem_cons_zero, getElem_cons_succ]
  refine AnyT.takeA (i := 16) (v := ?_) rfl (by kernel_rfl) (by kernel_rfl) (by kernel_rfl) (fun _ _ _ h => h) (Or.inl ⟨by rfl, ?_⟩) ?_
  rotate_left 1
  ·(intro w0 _; go_simp; try with_reducible rfl)
  try simp only [Act.put, setIfInBounds_toArray, set_cons_zero, set_cons_succ, getElem_toArray, getElem_cons_zero, getElem_cons_succ]
  refine AnyT.takeA (i := 17) (v := ?_) rfl (by kernel_rfl) (by kernel_rfl) (by kernel_rfl) (fun _ _ _ h => h) (Or.inl ⟨by rfl, ?_⟩) ?_
  rotate_left 1
  ·(intro w0 _; go_simp; try with_reducible rfl)
  try simp only [Act.put, setIfInBounds_toArray, set_cons_zero, set_cons_succ, getElem_toArray, getElem_cons_zero, getElem_cons_succ]
  refine AnyT.takeA (i := 18) (v := undef) rfl (by kernel_rfl) (by kernel_rfl) (by kernel_rfl) (fun _ _ _ h => h) (Or.inr ⟨by rfl, rfl⟩) ?_
  try simp only [Act.put, setIfInBounds_toArray, set_cons_zero, set_cons_succ, getElem_toArray, getElem_cons_zero, getElem_cons_succ]
  refine AnyT.takeA (i := 19) (v := undef) rfl (by kernel_rfl) (by kernel_rfl) (by kernel_rfl) (fun _ _ _ h => h) (Or.inr ⟨by rfl, rfl⟩) ?_
  try simp only [Act.put, setIfInBounds_toArray, set_cons_zero, set_cons_succ, getElem_toArray, getElem_cons_zero, getElem_cons_succ]
  refine AnyT.takeA (i := 20) (v := undef) rfl (by kernel_rfl) (by kernel_rfl) (by kernel_rfl) (fun _ _ _ h => h) (Or.inr ⟨by rfl, rfl⟩) ?_
  try simp only [Act.put, setIfInBounds_toArray, set_cons_zero, set_cons_succ, getElem_toArray, getElem_cons_zero, getElem_cons_succ]
  refine AnyT.takeA (i := 21) (v := undef) rfl (by kernel_rfl) (by kernel_rfl) (by kernel_rfl) (fun _ _ _ h => h) (Or.inr ⟨by rfl, rfl⟩) ?_
  try simp only [Act.put, setIfInBounds_toArray, set_cons_zero, set_cons_succ, getElem_toArray, getElem_cons_zero, getElem_cons_succ]
  refine AnyT.takeA (i := 22) (v := undef) rfl (by kernel_rfl) (by kernel_rfl) (by kernel_rfl) (fun _ _ _ h => h) (Or.inr ⟨by rfl, rfl⟩) ?_
  try simp only [Act.put, setIfInBounds_toArray, set_cons_zero, set_cons_succ, getElem_toArray, getElem_cons_zero, getElem_cons_succ]
  refine AnyT.takeA (i := 23) (v := undef) rfl (by kernel_rfl) (by kernel_rfl) (by kernel_rfl) (fun _ _ _ h => h) (Or.inr ⟨by rfl, rfl⟩) ?_
  try simp only [Act.put, setIfInBounds_toArray, set_cons_zero, set_cons_succ, getElem_toArray, getElem_cons_zero, getElem_cons_succ]
  refine AnyT.takeA (i := 24) (v := undef) rfl (by kernel_rfl) (by kernel_rfl) (by kernel_rfl) (fun _ _ _ h => h) (Or.inr ⟨by rfl, rfl⟩) ?_
  try simp only [Act.put, setIfInBounds_toArray, set_cons_zero, set_cons_succ, getElem_toArray, getElem_cons_zero, getElem_cons_succ]
  refine AnyT.takeA (i := 25) (v := undef) rfl (by kernel_rfl) (by kernel_rfl) (by kernel_rfl) (fun _ _ _ h => h) (Or.inr ⟨by rfl, rfl⟩) ?_
  try simp only [Act.put, setIfInBounds_toArray, set_cons_zero, set_cons_succ, getElem_toArray, getElem_cons_zero, getElem_cons_succ]
  refine AnyT.takeA (i := 27) (v := undef) rfl (by kernel_rfl) (by kernel_rfl) (by kernel_rfl) (fun _ _ _ h => h) (Or.inr ⟨by rfl, rfl⟩) ?_
  try simp only [Act.put, setIfInBounds_toArray, set_cons_zero, set_cons_succ, getElem_toArray, getElem_cons_zero, getElem_cons_succ]
  refine AnyT.call (i := 26) (by kernel_rfl) rfl (fun K hK => ?_)
  try simp only [Act.put, setIfInBounds_toArray, set_cons_zero, set_cons_succ, getElem_toArray, getElem_cons_zero, getElem_cons_succ]
  rw [if_neg (by intro h; cases h)]
  refine hK.out _ _ (fun _ h => h) (fun _ => ?_)
  clear hK K
  try simp only [Act.put, setIfInBounds_toArray, set_cons_zero, set_cons_succ, getElem_toArray, getElem_cons_zero, getElem_cons_succ]
  refine AnyT.call (i := 28) (by kernel_rfl) rfl (fun K hK => ?_)
  try simp only [Act.put, setIfInBounds_toArray, set_cons_zero, set_cons_succ, getElem_toArray, getElem_cons_zero, getElem_cons_succ]
  rw [if_neg (by intro h; cases h)]
  refine hK.out _ _ (fun _ h => h) (fun _ => ?_)
  clear hK K
  try simp only [Act.put, setIfInBounds_toArray, set_cons_zero, set_cons_succ, getElem_toArray, getElem_cons_zero, getElem_cons_succ]
  refine AnyT.takeA (i := 29) (v := ?_) rfl (by kernel_rfl) (by kernel_rfl) (by kernel_rfl) (fun _ _ _ h => h) (Or.inl ⟨by rfl, ?_⟩) ?_
  rotate_left 1
  ·(intro w0 _; go_simp; try with_reducible rfl)
  try simp only [Act.put, setIfInBounds_toArray, set_cons_zero, set_cons_succ, getElem_toArray, getElem_cons_zero, getElem_cons_succ]
  refine AnyT.takeA (i := 30) (v := ?_) rfl (by kernel_rfl) (by kernel_rfl) (by kernel_rfl) (fun _ _ _ h => h) (Or.inl ⟨by rfl, ?_⟩) ?_
  rotate_left 1
  ·(intro w0 _; go_simp; try with_reducible rfl)
  try simp only [Act.put, setIfInBounds_toArray, set_cons_zero, set_cons_succ, getElem_toArray, getElem_cons_zero, getElem_cons_succ]
  refine AnyT.done (by kernel_rfl) ?_ _
  have F := hid (ansB (b := mayB d.2 o x u) (a := false) HF.out.symm (next_trans BEL.out Bv1))
  clear b1 Bv1 LH1 LH2
  go_wp2
  go_ret
  exact F.out
 | true =>
  cases b2 with
  | false =>
   have HF := hid (show mayB d.2 o x u = false from may_no2 (by rw [hq]; exact hb2))
   clear hb1 hb2 hl hs hq hrs hsg hE bel
   go_enter Tryz.func75, Tryz.ntmps75
   go_upto_region 1 with fail
   rw [← HW.out]
   refine AnyT.start (S := (fun w' => w'.cell? ⟨w.heap.size, 0, none⟩ = some (.slice A n cs) ∧ w'.cell? ⟨w.heap.size, 1, none⟩ = some (.slice V q cv))) (fun _ => false) (by kernel_rfl) ⟨K0, K1⟩ (fun hHeld => ?_)
   refine AnyT.take (i := 0) (v := ?_) rfl (by kernel_rfl) (by kernel_rfl) (by kernel_rfl) (by kernel_rfl) (fun _ _ _ h => h) (Or.inl ⟨by rfl, ?_⟩) (by assumption) ?_
   rotate_left 1
   ·(intro w0 hSw; (try dsimp only at hSw); go_simp; try with_reducible rfl)
   try simp only [Act.put, setIfInBounds_toArray, set_cons_zero, set_cons_succ, getElem_toArray, getElem_cons_zero, getElem_cons_succ]
   refine AnyT.takeA (i := 1) (v := ?_) rfl (by kernel_rfl) (by kernel_rfl) (by kernel_rfl) (fun _ _ _ h => h) (Or.inl ⟨by rfl, ?_⟩) ?_
   rotate_left 1
   ·(intro w0 _; go_simp; try with_reducible rfl)
   try simp only [Act.put, setIfInBounds_toArray, set_cons_zero, set_cons_succ, getElem_toArray, getElem_cons_zero, getElem_cons_succ]
   refine AnyT.call (i := 2) (by kernel_rfl) rfl (fun K hK => ?_)
   try simp only [Act.put, setIfInBounds_toArray, set_cons_zero, set_cons_succ, getElem_toArray, getElem_cons_zero, getElem_cons_succ]
   rw [if_pos (by rfl)]
   go_simp
   (go_at_call 134; refine LH1.out.mono ?_; rintro e v1 ⟨rfl, b1⟩; have Bv1 : Below W.heap.size W v1 := next_trans (Below.refl W.heap.size W).drew b1; have hv1_0 : v1.cell? ⟨w.heap.size, 0, none⟩ = some (.slice A n cs) := (Bv1.cell (p := ⟨w.heap.size, 0, none⟩) ZA).trans K0; have hv1_1 : v1.cell? ⟨w.heap.size, 1, none⟩ = some (.slice V q cv) := (Bv1.cell (p := ⟨w.heap.size, 1, none⟩) ZA).trans K1; go_wp2_with fail)
   refine hK.out _ _ (fun _ _ => ?_) (fun hKeep => ?_)
   ·exact ⟨hv1_0, hv1_1⟩
   replace hHeld := hKeep (by first | rfl | trivial) hHeld
   clear hK K hKeep
   try simp only [Act.put, setIfInBounds_toArray, set_cons_zero, set_cons_succ, getElem_toArray, getElem_cons_zero, getElem_cons_succ]
   refine AnyT.takeA (i := 3) (v := ?_) rfl (by kernel_rfl) (by kernel_rfl) (by kernel_rfl) (fun _ _ _ h => h) (Or.inl ⟨by rfl, ?_⟩) ?_
   rotate_left 1
   ·(intro w0 _; go_simp; try with_reducible rfl)
   try simp only [Act.put, setIfInBounds_toArray, set_cons_zero, set_cons_succ, getElem_toArray, getElem_cons_zero, getElem_cons_succ]
   refine AnyT.take (i := 4) (v := ?_) rfl (by kernel_rfl) (by kernel_rfl) (by kernel_rfl) (by kernel_rfl) (fun _ _ _ h => h) (Or.inl ⟨by rfl, ?_⟩) (by assumption) ?_
   rotate_left 1
   ·(intro w0 hSw; (try dsimp only at hSw); go_simp; try with_reducible rfl)
   try simp only [Act.put, setIfInBounds_toArray, set_cons_zero, set_cons_succ, getElem_toArray, getElem_cons_zero, getElem_cons_succ]
   refine AnyT.takeA (i := 5) (v := ?_) rfl (by kernel_rfl) (by kernel_rfl) (by kernel_rfl) (fun _ _ _ h => h) (Or.inl ⟨by rfl, ?_⟩) ?_
   rotate_left 1
   ·(intro w0 _; go_simp; try with_reducible rfl)
   try simp only [Act.put, setIfInBounds_toArray, set_cons_zero, set_cons_succ, getElem_toArray, getElem_cons_zero, getElem_cons_succ]
   refine AnyT.call (i := 6) (by kernel_rfl) rfl (fun K hK => ?_)
   try simp only [Act.put, setIfInBounds_toArray, set_cons_zero, set_cons_succ, getElem_toArray, getElem_cons_zero, getElem_cons_succ]
   rw [if_pos (by rfl)]
   go_simp
   (go_at_call 134; refine (LH2.out v1).mono ?_; rintro e v2 ⟨rfl, b2⟩; have Bv2 : Below W.heap.size W v2 := next_trans Bv1 b2; have hv2_0 : v2.cell? ⟨w.heap.size, 0, none⟩ = some (.slice A n cs) := (Bv2.cell (p := ⟨w.heap.size, 0, none⟩) ZA).trans K0; have hv2_1 : v2.cell? ⟨w.heap.size, 1, none⟩ = some (.slice V q cv) := (Bv2.cell (p := ⟨w.heap.size, 1, none⟩) ZA).trans K1; go_wp2_with fail)
   refine hK.out _ _ (fun _ _ => ?_) (fun hKeep => ?_)
   ·exact ⟨hv2_0, hv2_1⟩
   replace hHeld := hKeep (by first | rfl | trivial) hHeld
   clear hK K hKeep
   try simp only [Act.put, setIfInBounds_toArray, set_cons_zero, set_cons_succ, getElem_toArray, getElem_cons_zero, getElem_cons_succ]
   refine AnyT.takeA (i := 7) (v := ?_) rfl (by kernel_rfl) (by kernel_rfl) (by kernel_rfl) (fun _ _ _ h => h) (Or.inl ⟨by rfl, ?_⟩) ?_
   rotate_left 1
   ·(intro w0 _; go_simp; try with_reducible rfl)
   try simp only [Act.put, setIfInBounds_toArray, set_cons_zero, set_cons_succ, getElem_toArray, getElem_cons_zero, getElem_cons_succ]
   refine AnyT.takeA (i := 8) (v := ?_) rfl (by kernel_rfl) (by kernel_rfl) (by kernel_rfl) (fun _ _ _ h => h) (Or.inl ⟨by rfl, ?_⟩) ?_
   rotate_left 1
   ·(intro w0 _; go_simp; try with_reducible rfl)
   try simp only [Act.put, setIfInBounds_toArray, set_cons_zero, set_cons_succ, getElem_toArray, getElem_cons_zero, getElem_cons_succ]
   refine AnyT.takeA (i := 9) (v := undef) rfl (by kernel_rfl) (by kernel_rfl) (by kernel_rfl) (fun _ _ _ h => h) (Or.inr ⟨by rfl, rfl⟩) ?_
   try simp only [Act.put, setIfInBounds_toArray, set_cons_zero, set_cons_succ, getElem_toArray, getElem_cons_zero, getElem_cons_succ]
   refine AnyT.takeA (i := 10) (v := undef) rfl (by kernel_rfl) (by kernel_rfl) (by kernel_rfl) (fun _ _ _ h => h) (Or.inr ⟨by rfl, rfl⟩) ?_
   try simp only [Act.put, setIfInBounds_toArray, set_cons_zero, set_cons_succ, getElem_toArray, getElem_cons_zero, getElem_cons_succ]
   refine AnyT.takeA (i := 11) (v := undef) rfl (by kernel_rfl) (by kernel_rfl) (by kernel_rfl) (fun _ _ _ h => h) (Or.inr ⟨by rfl, rfl⟩) ?_
   try simp only [Act.put, setIfInBounds_toArray, set_cons_zero, set_cons_succ, getElem_toArray, getElem_cons_zero, getElem_cons_succ]
   refine AnyT.takeA (i := 12) (v := undef) rfl (by kernel_rfl) (by kernel_rfl) (by kernel_rfl) (fun _ _ _ h => h) (Or.inr ⟨by rfl, rfl⟩) ?_
   try simp only [Act.put, setIfInBounds_toArray, set_cons_zero, set_cons_succ, getElem_toArray, getElem_cons_zero, getElem_cons_succ]
   refine AnyT.takeA (i := 13) (v := undef) rfl (by kernel_rfl) (by kernel_rfl) (by kernel_rfl) (fun _ _ _ h => h) (Or.inr ⟨by rfl, rfl⟩) ?_
   try simp only [Act.put, setIfInBounds_toArray, set_cons_zero, set_cons_succ, getElem_toArray, getElem_cons_zero, getElem_cons_succ]
   refine AnyT.takeA (i := 14) (v := undef) rfl (by kernel_rfl) (by kernel_rfl) (by kernel_rfl) (fun _ _ _ h => h) (Or.inr ⟨by rfl, rfl⟩) ?_
   try simp only [Act.put, setIfInBounds_toArray, set_cons_zero, set_cons_succ, getElem_toArray, getElem_cons_zero, getElem_cons_succ]
   refine AnyT.takeA (i := 15) (v := undef) rfl (by kernel_rfl) (by kernel_rfl) (by kernel_rfl) (fun _ _ _ h => h) (Or.inr ⟨by rfl, rfl⟩) ?_
   try simp only [Act.put, setIfInBounds_toArray, set_cons_zero, set_cons_succ, getElem_toArray, getElem_cons_zero, getElem_cons_succ]
   refine AnyT.takeA (i := 16) (v := ?_) rfl (by kernel_rfl) (by kernel_rfl) (by kernel_rfl) (fun _ _ _ h => h) (Or.inl ⟨by rfl, ?_⟩) ?_
   rotate_left 1
   ·(intro w0 _; go_simp; try with_reducible rfl)
   try simp only [Act.put, setIfInBounds_toArray, set_cons_zero, set_cons_succ, getElem_toArray, getElem_cons_zero, getElem_cons_succ]
   refine AnyT.takeA (i := 17) (v := ?_) rfl (by kernel_rfl) (by kernel_rfl) (by kernel_rfl) (fun _ _ _ h => h) (Or.inl ⟨by rfl, ?_⟩) ?_
   rotate_left 1
   ·(intro w0 _; go_simp; try with_reducible rfl)
   try simp only [Act.put, setIfInBounds_toArray, set_cons_zero, set_cons_succ, getElem_toArray, getElem_cons_zero, getElem_cons_succ]
   refine AnyT.takeA (i := 18) (v := undef) rfl (by kernel_rfl) (by kernel_rfl) (by kernel_rfl) (fun _ _ _ h => h) (Or.inr ⟨by rfl, rfl⟩) ?_
   try simp only [Act.put, setIfInBounds_toArray, set_cons_zero, set_cons_succ, getElem_toArray, getElem_cons_zero, getElem_cons_succ]
   refine AnyT.takeA (i := 19) (v := undef) rfl (by kernel_rfl) (by kernel_rfl) (by kernel_rfl) (fun _ _ _ h => h) (Or.inr ⟨by rfl, rfl⟩) ?_
   try simp only [Act.put, setIfInBounds_toArray, set_cons_zero, set_cons_succ, getElem_toArray, getElem_cons_zero, getElem_cons_succ]
   refine AnyT.takeA (i := 20) (v := undef) rfl (by kernel_rfl) (by kernel_rfl) (by kernel_rfl) (fun _ _ _ h => h) (Or.inr ⟨by rfl, rfl⟩) ?_
   try simp only [Act.put, setIfInBounds_toArray, set_cons_zero, set_cons_succ, getElem_toArray, getElem_cons_zero, getElem_cons_succ]
   refine AnyT.takeA (i := 21) (v := undef) rfl (by kernel_rfl) (by kernel_rfl) (by kernel_rfl) (fun _ _ _ h => h) (Or.inr ⟨by rfl, rfl⟩) ?_
   try simp only [Act.put, setIfInBounds_toArray, set_cons_zero, set_cons_succ, getElem_toArray, getElem_cons_zero, getElem_cons_succ]
   refine AnyT.takeA (i := 22) (v := undef) rfl (by kernel_rfl) (by kernel_rfl) (by kernel_rfl) (fun _ _ _ h => h) (Or.inr ⟨by rfl, rfl⟩) ?_
   try simp only [Act.put, setIfInBounds_toArray, set_cons_zero, set_cons_succ, getElem_toArray, getElem_cons_zero, getElem_cons_succ]
   refine AnyT.takeA (i := 23) (v := undef) rfl (by kernel_rfl) (by kernel_rfl) (by kernel_rfl) (fun _ _ _ h => h) (Or.inr ⟨by rfl, rfl⟩) ?_
   try simp only [Act.put, setIfInBounds_toArray, set_cons_zero, set_cons_succ, getElem_toArray, getElem_cons_zero, getElem_cons_succ]
   refine AnyT.takeA (i := 24) (v := undef) rfl (by kernel_rfl) (by kernel_rfl) (by kernel_rfl) (fun _ _ _ h => h) (Or.inr ⟨by rfl, rfl⟩) ?_
   try simp only [Act.put, setIfInBounds_toArray, set_cons_zero, set_cons_succ, getElem_toArray, getElem_cons_zero, getElem_cons_succ]
   refine AnyT.takeA (i := 25) (v := undef) rfl (by kernel_rfl) (by kernel_rfl) (by kernel_rfl) (fun _ _ _ h => h) (Or.inr ⟨by rfl, rfl⟩) ?_
   try simp only [Act.put, setIfInBounds_toArray, set_cons_zero, set_cons_succ, getElem_toArray, getElem_cons_zero, getElem_cons_succ]
   refine AnyT.takeA (i := 27) (v := undef) rfl (by kernel_rfl) (by kernel_rfl) (by kernel_rfl) (fun _ _ _ h => h) (Or.inr ⟨by rfl, rfl⟩) ?_
   try simp only [Act.put, setIfInBounds_toArray, set_cons_zero, set_cons_succ, getElem_toArray, getElem_cons_zero, getElem_cons_succ]
   refine AnyT.call (i := 26) (by kernel_rfl) rfl (fun K hK => ?_)
   try simp only [Act.put, setIfInBounds_toArray, set_cons_zero, set_cons_succ, getElem_toArray, getElem_cons_zero, getElem_cons_succ]
   rw [if_neg (by intro h; cases h)]
   refine hK.out _ _ (fun _ h => h) (fun _ => ?_)
   clear hK K
   try simp only [Act.put, setIfInBounds_toArray, set_cons_zero, set_cons_succ, getElem_toArray, getElem_cons_zero, getElem_cons_succ]
   refine AnyT.call (i := 28) (by kernel_rfl) rfl (fun K hK => ?_)
   try simp only [Act.put, setIfInBounds_toArray, set_cons_zero, set_cons_succ, getElem_toArray, getElem_cons_zero, getElem_cons_succ]
   rw [if_neg (by intro h; cases h)]
   refine hK.out _ _ (fun _ h => h) (fun _ => ?_)
   clear hK K
   try simp only [Act.put, setIfInBounds_toArray, set_cons_zero, set_cons_succ, getElem_toArray, getElem_cons_zero, getElem_cons_succ]
   refine AnyT.takeA (i := 29) (v := ?_) rfl (by kernel_rfl) (by kernel_rfl) (by kernel_rfl) (fun _ _ _ h => h) (Or.inl ⟨by rfl, ?_⟩) ?_
   rotate_left 1
   ·(intro w0 _; go_simp; try with_reducible rfl)
   try simp only [Act.put, setIfInBounds_toArray, set_cons_zero, set_cons_succ, getElem_toArray, getElem_cons_zero, getElem_cons_succ]
   refine AnyT.takeA (i := 30) (v := ?_) rfl (by kernel_rfl) (by kernel_rfl) (by kernel_rfl) (fun _ _ _ h => h) (Or.inl ⟨by rfl, ?_⟩) ?_
   rotate_left 1
   ·(intro w0 _; go_simp; try with_reducible rfl)
   try simp only [Act.put, setIfInBounds_toArray, set_cons_zero, set_cons_succ, getElem_toArray, getElem_cons_zero, getElem_cons_succ]
   refine AnyT.done (by kernel_rfl) ?_ _
   have F := hid (ansB (b := mayB d.2 o x u) (a := false) HF.out.symm (next_trans BEL.out Bv2))
   clear b1 Bv1 b2 Bv2 LH1 LH2
   go_wp2
   go_ret
   exact F.out
  | true =>
   by_cases hax : x = 0 ∧ o = u
   ·obtain ⟨rfl, rfl⟩ := hax
    have HF := hid (show mayB d.2 o 0 o = false from may_no4 ⟨rfl, rfl⟩)
    clear hb1 hb2 hl hs hq hrs hsg hE bel
    go_enter Tryz.func75, Tryz.ntmps75
    go_upto_region 1 with fail
    rw [← HW.out]
    refine AnyT.start (S := (fun w' => w'.cell? ⟨w.heap.size, 0, none⟩ = some (.slice A n cs) ∧ w'.cell? ⟨w.heap.size, 1, none⟩ = some (.slice V q cv))) (fun _ => false) (by kernel_rfl) ⟨K0, K1⟩ (fun hHeld => ?_)
    refine AnyT.take (i := 0) (v := ?_) rfl (by kernel_rfl) (by kernel_rfl) (by kernel_rfl) (by kernel_rfl) (fun _ _ _ h => h) (Or.inl ⟨by rfl, ?_⟩) (by assumption) ?_
    rotate_left 1
    ·(intro w0 hSw; (try dsimp only at hSw); go_simp; try with_reducible rfl)
    try simp only [Act.put, setIfInBounds_toArray, set_cons_zero, set_cons_succ, getElem_toArray, getElem_cons_zero, getElem_cons_succ]
    refine AnyT.takeA (i := 1) (v := ?_) rfl (by kernel_rfl) (by kernel_rfl) (by kernel_rfl) (fun _ _ _ h => h) (Or.inl ⟨by rfl, ?_⟩) ?_
    rotate_left 1
    ·(intro w0 _; go_simp; try with_reducible rfl)
    try simp only [Act.put, setIfInBounds_toArray, set_cons_zero, set_cons_succ, getElem_toArray, getElem_cons_zero, getElem_cons_succ]
    refine AnyT.call (i := 2) (by kernel_rfl) rfl (fun K hK => ?_)
    try simp only [Act.put, setIfInBounds_toArray, set_cons_zero, set_cons_succ, getElem_toArray, getElem_cons_zero, getElem_cons_succ]
    rw [if_pos (by rfl)]
    go_simp
    (go_at_call 134; refine LH1.out.mono ?_; rintro e v1 ⟨rfl, b1⟩; have Bv1 : Below W.heap.size W v1 := next_trans (Below.refl W.heap.size W).drew b1; have hv1_0 : v1.cell? ⟨w.heap.size, 0, none⟩ = some (.slice A n cs) := (Bv1.cell (p := ⟨w.heap.size, 0, none⟩) ZA).trans K0; have hv1_1 : v1.cell? ⟨w.heap.size, 1, none⟩ = some (.slice V q cv) := (Bv1.cell (p := ⟨w.heap.size, 1, none⟩) ZA).trans K1; go_wp2_with fail)
    refine hK.out _ _ (fun _ _ => ?_) (fun hKeep => ?_)
    ·exact ⟨hv1_0, hv1_1⟩
    replace hHeld := hKeep (by first | rfl | trivial) hHeld
    clear hK K hKeep
    try simp only [Act.put, setIfInBounds_toArray, set_cons_zero, set_cons_succ, getElem_toArray, getElem_cons_zero, getElem_cons_succ]
    refine AnyT.takeA (i := 3) (v := ?_) rfl (by kernel_rfl) (by kernel_rfl) (by kernel_rfl) (fun _ _ _ h => h) (Or.inl ⟨by rfl, ?_⟩) ?_
    rotate_left 1
    ·(intro w0 _; go_simp; try with_reducible rfl)
    try simp only [Act.put, setIfInBounds_toArray, set_cons_zero, set_cons_succ, getElem_toArray, getElem_cons_zero, getElem_cons_succ]
    refine AnyT.take (i := 4) (v := ?_) rfl (by kernel_rfl) (by kernel_rfl) (by kernel_rfl) (by kernel_rfl) (fun _ _ _ h => h) (Or.inl ⟨by rfl, ?_⟩) (by assumption) ?_
    rotate_left 1
    ·(intro w0 hSw; (try dsimp only at hSw); go_simp; try with_reducible rfl)
    try simp only [Act.put, setIfInBounds_toArray, set_cons_zero, set_cons_succ, getElem_toArray, getElem_cons_zero, getElem_cons_succ]
    refine AnyT.takeA (i := 5) (v := ?_) rfl (by kernel_rfl) (by kernel_rfl) (by kernel_rfl) (fun _ _ _ h => h) (Or.inl ⟨by rfl, ?_⟩) ?_
    rotate_left 1
    ·(intro w0 _; go_simp; try with_reducible rfl)
    try simp only [Act.put, setIfInBounds_toArray, set_cons_zero, set_cons_succ, getElem_toArray, getElem_cons_zero, getElem_cons_succ]
    refine AnyT.call (i := 6) (by kernel_rfl) rfl (fun K hK => ?_)
    try simp only [Act.put, setIfInBounds_toArray, set_cons_zero, set_cons_succ, getElem_toArray, getElem_cons_zero, getElem_cons_succ]
    rw [if_pos (by rfl)]
    go_simp
    (go_at_call 134; refine (LH2.out v1).mono ?_; rintro e v2 ⟨rfl, b2⟩; have Bv2 : Below W.heap.size W v2 := next_trans Bv1 b2; have hv2_0 : v2.cell? ⟨w.heap.size, 0, none⟩ = some (.slice A n cs) := (Bv2.cell (p := ⟨w.heap.size, 0, none⟩) ZA).trans K0; have hv2_1 : v2.cell? ⟨w.heap.size, 1, none⟩ = some (.slice V q cv) := (Bv2.cell (p := ⟨w.heap.size, 1, none⟩) ZA).trans K1; go_wp2_with fail)
    refine hK.out _ _ (fun _ _ => ?_) (fun hKeep => ?_)
    ·exact ⟨hv2_0, hv2_1⟩
    replace hHeld := hKeep (by first | rfl | trivial) hHeld
    clear hK K hKeep
    try simp only [Act.put, setIfInBounds_toArray, set_cons_zero, set_cons_succ, getElem_toArray, getElem_cons_zero, getElem_cons_succ]
    refine AnyT.takeA (i := 7) (v := ?_) rfl (by kernel_rfl) (by kernel_rfl) (by kernel_rfl) (fun _ _ _ h => h) (Or.inl ⟨by rfl, ?_⟩) ?_
    rotate_left 1
    ·(intro w0 _; go_simp; try with_reducible rfl)
    try simp only [Act.put, setIfInBounds_toArray, set_cons_zero, set_cons_succ, getElem_toArray, getElem_cons_zero, getElem_cons_succ]
    refine AnyT.takeA (i := 8) (v := ?_) rfl (by kernel_rfl) (by kernel_rfl) (by kernel_rfl) (fun _ _ _ h => h) (Or.inl ⟨by rfl, ?_⟩) ?_
    rotate_left 1
    ·(intro w0 _; go_simp; try with_reducible rfl)
    try simp only [Act.put, setIfInBounds_toArray, set_cons_zero, set_cons_succ, getElem_toArray, getElem_cons_zero, getElem_cons_succ]
    refine AnyT.takeA (i := 9) (v := ?_) rfl (by kernel_rfl) (by kernel_rfl) (by kernel_rfl) (fun _ _ _ h => h) (Or.inl ⟨by rfl, ?_⟩) ?_
    rotate_left 1
    ·(intro w0 _; go_simp; try with_reducible rfl)
    try simp only [Act.put, setIfInBounds_toArray, set_cons_zero, set_cons_succ, getElem_toArray, getElem_cons_zero, getElem_cons_succ]
    refine AnyT.takeA (i := 10) (v := ?_) rfl (by kernel_rfl) (by kernel_rfl) (by kernel_rfl) (fun _ _ _ h => h) (Or.inl ⟨by rfl, ?_⟩) ?_
    rotate_left 1
    ·(intro w0 _; go_simp; try with_reducible rfl)
    try simp only [Act.put, setIfInBounds_toArray, set_cons_zero, set_cons_succ, getElem_toArray, getElem_cons_zero, getElem_cons_succ]
    refine AnyT.takeA (i := 11) (v := ?_) rfl (by kernel_rfl) (by kernel_rfl) (by kernel_rfl) (fun _ _ _ h => h) (Or.inl ⟨by rfl, ?_⟩) ?_
    rotate_left 1
    ·(intro w0 _; go_simp; try with_reducible rfl)
    try simp only [Act.put, setIfInBounds_toArray, set_cons_zero, set_cons_succ, getElem_toArray, getElem_cons_zero, getElem_cons_succ]
    refine AnyT.takeA (i := 12) (v := ?_) rfl (by kernel_rfl) (by kernel_rfl) (by kernel_rfl) (fun _ _ _ h => h) (Or.inl ⟨by rfl, ?_⟩) ?_
    rotate_left 1
    ·(intro w0 _; go_simp; try with_reducible rfl)
    try simp only [Act.put, setIfInBounds_toArray, set_cons_zero, set_cons_succ, getElem_toArray, getElem_cons_zero, getElem_cons_succ]
    refine AnyT.takeA (i := 13) (v := ?_) rfl (by kernel_rfl) (by kernel_rfl) (by kernel_rfl) (fun _ _ _ h => h) (Or.inl ⟨by rfl, ?_⟩) ?_
    rotate_left 1
    ·(intro w0 _; go_simp; try with_reducible rfl)
    try simp only [Act.put, setIfInBounds_toArray, set_cons_zero, set_cons_succ, getElem_toArray, getElem_cons_zero, getElem_cons_succ]
    refine AnyT.takeA (i := 14) (v := ?_) rfl (by kernel_rfl) (by kernel_rfl) (by kernel_rfl) (fun _ _ _ h => h) (Or.inl ⟨by rfl, ?_⟩) ?_
    rotate_left 1
    ·(intro w0 _; go_simp; try with_reducible rfl)
    try simp only [Act.put, setIfInBounds_toArray, set_cons_zero, set_cons_succ, getElem_toArray, getElem_cons_zero, getElem_cons_succ]
    refine AnyT.takeA (i := 15) (v := ?_) rfl (by kernel_rfl) (by kernel_rfl) (by kernel_rfl) (fun _ _ _ h => h) (Or.inl ⟨by rfl, ?_⟩) ?_
    rotate_left 1
    ·(intro w0 _; go_simp; try with_reducible rfl)
    try simp only [Act.put, setIfInBounds_toArray, set_cons_zero, set_cons_succ, getElem_toArray, getElem_cons_zero, getElem_cons_succ]
    refine AnyT.takeA (i := 16) (v := ?_) rfl (by kernel_rfl) (by kernel_rfl) (by kernel_rfl) (fun _ _ _ h => h) (Or.inl ⟨by rfl, ?_⟩) ?_
    rotate_left 1
    ·(intro w0 _; go_simp; try with_reducible rfl)
    try simp only [Act.put, setIfInBounds_toArray, set_cons_zero, set_cons_succ, getElem_toArray, getElem_cons_zero, getElem_cons_succ]
    refine AnyT.takeA (i := 17) (v := ?_) rfl (by kernel_rfl) (by kernel_rfl) (by kernel_rfl) (fun _ _ _ h => h) (Or.inl ⟨by rfl, ?_⟩) ?_
    rotate_left 1
    ·(intro w0 _; go_simp; try with_reducible rfl)
    try simp only [Act.put, setIfInBounds_toArray, set_cons_zero, set_cons_succ, getElem_toArray, getElem_cons_zero, getElem_cons_succ]
    refine AnyT.takeA (i := 18) (v := undef) rfl (by kernel_rfl) (by kernel_rfl) (by kernel_rfl) (fun _ _ _ h => h) (Or.inr ⟨by rfl, rfl⟩) ?_
    try simp only [Act.put, setIfInBounds_toArray, set_cons_zero, set_cons_succ, getElem_toArray, getElem_cons_zero, getElem_cons_succ]
    refine AnyT.takeA (i := 19) (v := undef) rfl (by kernel_rfl) (by kernel_rfl) (by kernel_rfl) (fun _ _ _ h => h) (Or.inr ⟨by rfl, rfl⟩) ?_
    try simp only [Act.put, setIfInBounds_toArray, set_cons_zero, set_cons_succ, getElem_toArray, getElem_cons_zero, getElem_cons_succ]
    refine AnyT.takeA (i := 20) (v := undef) rfl (by kernel_rfl) (by kernel_rfl) (by kernel_rfl) (fun _ _ _ h => h) (Or.inr ⟨by rfl, rfl⟩) ?_
    try simp only [Act.put, setIfInBounds_toArray, set_cons_zero, set_cons_succ, getElem_toArray, getElem_cons_zero, getElem_cons_succ]
    refine AnyT.takeA (i := 21) (v := undef) rfl (by kernel_rfl) (by kernel_rfl) (by kernel_rfl) (fun _ _ _ h => h) (Or.inr ⟨by rfl, rfl⟩) ?_
    try simp only [Act.put, setIfInBounds_toArray, set_cons_zero, set_cons_succ, getElem_toArray, getElem_cons_zero, getElem_cons_succ]
    refine AnyT.takeA (i := 22) (v := undef) rfl (by kernel_rfl) (by kernel_rfl) (by kernel_rfl) (fun _ _ _ h => h) (Or.inr ⟨by rfl, rfl⟩) ?_
    try simp only [Act.put, setIfInBounds_toArray, set_cons_zero, set_cons_succ, getElem_toArray, getElem_cons_zero, getElem_cons_succ]
    refine AnyT.takeA (i := 23) (v := undef) rfl (by kernel_rfl) (by kernel_rfl) (by kernel_rfl) (fun _ _ _ h => h) (Or.inr ⟨by rfl, rfl⟩) ?_
    try simp only [Act.put, setIfInBounds_toArray, set_cons_zero, set_cons_succ, getElem_toArray, getElem_cons_zero, getElem_cons_succ]
    refine AnyT.takeA (i := 24) (v := undef) rfl (by kernel_rfl) (by kernel_rfl) (by kernel_rfl) (fun _ _ _ h => h) (Or.inr ⟨by rfl, rfl⟩) ?_
    try simp only [Act.put, setIfInBounds_toArray, set_cons_zero, set_cons_succ, getElem_toArray, getElem_cons_zero, getElem_cons_succ]
    refine AnyT.takeA (i := 25) (v := undef) rfl (by kernel_rfl) (by kernel_rfl) (by kernel_rfl) (fun _ _ _ h => h) (Or.inr ⟨by rfl, rfl⟩) ?_
    try simp only [Act.put, setIfInBounds_toArray, set_cons_zero, set_cons_succ, getElem_toArray, getElem_cons_zero, getElem_cons_succ]
    refine AnyT.takeA (i := 27) (v := undef) rfl (by kernel_rfl) (by kernel_rfl) (by kernel_rfl) (fun _ _ _ h => h) (Or.inr ⟨by rfl, rfl⟩) ?_
    try simp only [Act.put, setIfInBounds_toArray, set_cons_zero, set_cons_succ, getElem_toArray, getElem_cons_zero, getElem_cons_succ]
    refine AnyT.call (i := 26) (by kernel_rfl) rfl (fun K hK => ?_)
    try simp only [Act.put, setIfInBounds_toArray, set_cons_zero, set_cons_succ, getElem_toArray, getElem_cons_zero, getElem_cons_succ]
    rw [if_neg (by intro h; cases h)]
    refine hK.out _ _ (fun _ h => h) (fun _ => ?_)
    clear hK K
    try simp only [Act.put, setIfInBounds_toArray, set_cons_zero, set_cons_succ, getElem_toArray, getElem_cons_zero, getElem_cons_succ]
    refine AnyT.call (i := 28) (by kernel_rfl) rfl (fun K hK => ?_)
    try simp only [Act.put, setIfInBounds_toArray, set_cons_zero, set_cons_succ, getElem_toArray, getElem_cons_zero, getElem_cons_succ]
    rw [if_neg (by intro h; cases h)]
    refine hK.out _ _ (fun _ h => h) (fun _ => ?_)
    clear hK K
    try simp only [Act.put, setIfInBounds_toArray, set_cons_zero, set_cons_succ, getElem_toArray, getElem_cons_zero, getElem_cons_succ]
    refine AnyT.takeA (i := 29) (v := ?_) rfl (by kernel_rfl) (by kernel_rfl) (by kernel_rfl) (fun _ _ _ h => h) (Or.inl ⟨by rfl, ?_⟩) ?_
    rotate_left 1
    ·(intro w0 _; go_simp; try with_reducible rfl)
    try simp only [Act.put, setIfInBounds_toArray, set_cons_zero, set_cons_succ, getElem_toArray, getElem_cons_zero, getElem_cons_succ]
    refine AnyT.takeA (i := 30) (v := ?_) rfl (by kernel_rfl) (by kernel_rfl) (by kernel_rfl) (fun _ _ _ h => h) (Or.inl ⟨by rfl, ?_⟩) ?_
    rotate_left 1
    ·(intro w0 _; go_simp; try with_reducible rfl)
    try simp only [Act.put, setIfInBounds_toArray, set_cons_zero, set_cons_succ, getElem_toArray, getElem_cons_zero, getElem_cons_succ]
    refine AnyT.done (by kernel_rfl) ?_ _
    have F := hid (ansB (b := mayB d.2 o 0 o) (a := false) HF.out.symm (next_trans BEL.out Bv2))
    clear b1 Bv1 b2 Bv2 LH1 LH2
    go_wp2
    go_ret
    exact F.out
   ·have hkk : 0 ≤ o ∧ o < (q : Int) := of_decide_eq_true hb1
    obtain ⟨k, rfl⟩ := Int.eq_ofNat_of_zero_le hkk.1
    have hkq : k < q := by omega
    have hkl : k < d.2.length := by rw [hq]; exact hkq
    obtain ⟨b, off, l, r, y, rfl, hb, ex, c0, -, hy⟩ := rd_at hrs bel hq hkq
    have hzy : sz sRule y ≤ 1048576 := by rw [← ex.out]; exact hE k hkq
    obtain ⟨L, ln, lc, L', ln', lc', rfl, rfl, sL, qL, -, -, hln, -⟩ := rd_rule hy hzy
    have tL : termOkB d.1 y.1 = true := by rw [← ex.out]; exact hl k hkl
    have HSY := hid (symI_len (sg := d.1) sL.1 hln)
    have LS := hid (fun (w1 : World) (bb : Below W.heap.size W w1) => implSym A L n cs ln lc d.1 y.1 w1 ((hs.next bel).next bb) ((sL.more bel.size).next bb) hn hln)
    have HV := hid (show mayB d.2 (k : Int) x u = decide (x ∈ symI d.1 y.1) by
     rw [sym_mem tL]
     unfold mayB
     rw [hq, hb1, hb2, decide_eq_false hax]
     unfold lhsI
     rw [Int.toNat_natCast, ex.out]
     simp)
    have K2 : W.cell? ⟨b, off + k * 2, none⟩ = some (.slice L ln lc) := c0
    have ZB : b < W.heap.size := by have := bel.size; omega
    have i0 : (0 : Int) ≤ (k : Int) := by omega
    have i1 : (k : Int) < (q : Int) := by omega
    clear hb1 hb2 hl hs hq hrs hsg hE bel hkk hy hzy sL qL tL ex c0 hkl
    by_cases hou : (k : Int) = u
    ·have hx0 : ¬ x = 0 := fun q => hax ⟨q, hou⟩
     subst hou
     clear hax
     go_enter Tryz.func75, Tryz.ntmps75
     go_upto_region 1 with fail
     rw [← HW.out]
     refine AnyT.start (S := (fun w' => w'.cell? ⟨w.heap.size, 0, none⟩ = some (.slice A n cs) ∧ w'.cell? ⟨w.heap.size, 1, none⟩ = some (.slice (some ⟨b, off, none⟩) q cv) ∧ w'.cell? ⟨b, off + k * 2, none⟩ = some (.slice L ln lc))) (fun _ => false) (by kernel_rfl) ⟨K0, K1, K2⟩ (fun hHeld => ?_)
     refine AnyT.take (i := 0) (v := ?_) rfl (by kernel_rfl) (by kernel_rfl) (by kernel_rfl) (by kernel_rfl) (fun _ _ _ h => h) (Or.inl ⟨by rfl, ?_⟩) (by assumption) ?_
     rotate_left 1
     ·(intro w0 hSw; (try dsimp only at hSw); go_simp; try with_reducible rfl)
     try simp only [Act.put, setIfInBounds_toArray, set_cons_zero, set_cons_succ, getElem_toArray, getElem_cons_zero, getElem_cons_succ]
     refine AnyT.takeA (i := 1) (v := ?_) rfl (by kernel_rfl) (by kernel_rfl) (by kernel_rfl) (fun _ _ _ h => h) (Or.inl ⟨by rfl, ?_⟩) ?_
     rotate_left 1
     ·(intro w0 _; go_simp; try with_reducible rfl)
     try simp only [Act.put, setIfInBounds_toArray, set_cons_zero, set_cons_succ, getElem_toArray, getElem_cons_zero, getElem_cons_succ]
     refine AnyT.call (i := 2) (by kernel_rfl) rfl (fun K hK => ?_)
     try simp only [Act.put, setIfInBounds_toArray, set_cons_zero, set_cons_succ, getElem_toArray, getElem_cons_zero, getElem_cons_succ]
     rw [if_pos (by rfl)]
     go_simp
     (go_at_call 134; refine LH1.out.mono ?_; rintro e v1 ⟨rfl, b1⟩; have Bv1 : Below W.heap.size W v1 := next_trans (Below.refl W.heap.size W).drew b1; have hv1_0 : v1.cell? ⟨w.heap.size, 0, none⟩ = some (.slice A n cs) := (Bv1.cell (p := ⟨w.heap.size, 0, none⟩) ZA).trans K0; have hv1_1 : v1.cell? ⟨w.heap.size, 1, none⟩ = some (.slice (some ⟨b, off, none⟩) q cv) := (Bv1.cell (p := ⟨w.heap.size, 1, none⟩) ZA).trans K1; have hv1_2 : v1.cell? ⟨b, off + k * 2, none⟩ = some (.slice L ln lc) := (Bv1.cell (p := ⟨b, off + k * 2, none⟩) ZB).trans K2; go_wp2_with fail)
     refine hK.out _ _ (fun _ _ => ?_) (fun hKeep => ?_)
     ·exact ⟨hv1_0, hv1_1, hv1_2⟩
     replace hHeld := hKeep (by first | rfl | trivial) hHeld
     clear hK K hKeep
     try simp only [Act.put, setIfInBounds_toArray, set_cons_zero, set_cons_succ, getElem_toArray, getElem_cons_zero, getElem_cons_succ]
     refine AnyT.takeA (i := 3) (v := ?_) rfl (by kernel_rfl) (by kernel_rfl) (by kernel_rfl) (fun _ _ _ h => h) (Or.inl ⟨by rfl, ?_⟩) ?_
     rotate_left 1
     ·(intro w0 _; go_simp; try with_reducible rfl)
     try simp only [Act.put, setIfInBounds_toArray, set_cons_zero, set_cons_succ, getElem_toArray, getElem_cons_zero, getElem_cons_succ]
     refine AnyT.take (i := 4) (v := ?_) rfl (by kernel_rfl) (by kernel_rfl) (by kernel_rfl) (by kernel_rfl) (fun _ _ _ h => h) (Or.inl ⟨by rfl, ?_⟩) (by assumption) ?_
     rotate_left 1
     ·(intro w0 hSw; (try dsimp only at hSw); go_simp; try with_reducible rfl)
     try simp only [Act.put, setIfInBounds_toArray, set_cons_zero, set_cons_succ, getElem_toArray, getElem_cons_zero, getElem_cons_succ]
     refine AnyT.takeA (i := 5) (v := ?_) rfl (by kernel_rfl) (by kernel_rfl) (by kernel_rfl) (fun _ _ _ h => h) (Or.inl ⟨by rfl, ?_⟩) ?_
     rotate_left 1
     ·(intro w0 _; go_simp; try with_reducible rfl)
     try simp only [Act.put, setIfInBounds_toArray, set_cons_zero, set_cons_succ, getElem_toArray, getElem_cons_zero, getElem_cons_succ]
     refine AnyT.call (i := 6) (by kernel_rfl) rfl (fun K hK => ?_)
     try simp only [Act.put, setIfInBounds_toArray, set_cons_zero, set_cons_succ, getElem_toArray, getElem_cons_zero, getElem_cons_succ]
     rw [if_pos (by rfl)]
     go_simp
     (go_at_call 134; refine (LH2.out v1).mono ?_; rintro e v2 ⟨rfl, b2⟩; have Bv2 : Below W.heap.size W v2 := next_trans Bv1 b2; have hv2_0 : v2.cell? ⟨w.heap.size, 0, none⟩ = some (.slice A n cs) := (Bv2.cell (p := ⟨w.heap.size, 0, none⟩) ZA).trans K0; have hv2_1 : v2.cell? ⟨w.heap.size, 1, none⟩ = some (.slice (some ⟨b, off, none⟩) q cv) := (Bv2.cell (p := ⟨w.heap.size, 1, none⟩) ZA).trans K1; have hv2_2 : v2.cell? ⟨b, off + k * 2, none⟩ = some (.slice L ln lc) := (Bv2.cell (p := ⟨b, off + k * 2, none⟩) ZB).trans K2; go_wp2_with fail)
     refine hK.out _ _ (fun _ _ => ?_) (fun hKeep => ?_)
     ·exact ⟨hv2_0, hv2_1, hv2_2⟩
     replace hHeld := hKeep (by first | rfl | trivial) hHeld
     clear hK K hKeep
     try simp only [Act.put, setIfInBounds_toArray, set_cons_zero, set_cons_succ, getElem_toArray, getElem_cons_zero, getElem_cons_succ]
     refine AnyT.takeA (i := 7) (v := ?_) rfl (by kernel_rfl) (by kernel_rfl) (by kernel_rfl) (fun _ _ _ h => h) (Or.inl ⟨by rfl, ?_⟩) ?_
     rotate_left 1
     ·(intro w0 _; go_simp; try with_reducible rfl)
     try simp only [Act.put, setIfInBounds_toArray, set_cons_zero, set_cons_succ, getElem_toArray, getElem_cons_zero, getElem_cons_succ]
     refine AnyT.takeA (i := 8) (v := ?_) rfl (by kernel_rfl) (by kernel_rfl) (by kernel_rfl) (fun _ _ _ h => h) (Or.inl ⟨by rfl, ?_⟩) ?_
     rotate_left 1
     ·(intro w0 _; go_simp; try with_reducible rfl)
     try simp only [Act.put, setIfInBounds_toArray, set_cons_zero, set_cons_succ, getElem_toArray, getElem_cons_zero, getElem_cons_succ]
     refine AnyT.takeA (i := 9) (v := ?_) rfl (by kernel_rfl) (by kernel_rfl) (by kernel_rfl) (fun _ _ _ h => h) (Or.inl ⟨by rfl, ?_⟩) ?_
     rotate_left 1
     ·(intro w0 _; go_simp; try with_reducible rfl)
     try simp only [Act.put, setIfInBounds_toArray, set_cons_zero, set_cons_succ, getElem_toArray, getElem_cons_zero, getElem_cons_succ]
     refine AnyT.takeA (i := 10) (v := ?_) rfl (by kernel_rfl) (by kernel_rfl) (by kernel_rfl) (fun _ _ _ h => h) (Or.inl ⟨by rfl, ?_⟩) ?_
     rotate_left 1
     ·(intro w0 _; go_simp; try with_reducible rfl)
     try simp only [Act.put, setIfInBounds_toArray, set_cons_zero, set_cons_succ, getElem_toArray, getElem_cons_zero, getElem_cons_succ]
     refine AnyT.takeA (i := 11) (v := .bool false) rfl (by kernel_rfl) (by kernel_rfl) (by kernel_rfl) (fun _ _ _ h => h) (Or.inl ⟨by rfl, fun w0 _ => (by (try go_simp); (try simp))⟩) ?_
     try simp only [Act.put, setIfInBounds_toArray, set_cons_zero, set_cons_succ, getElem_toArray, getElem_cons_zero, getElem_cons_succ]
     refine AnyT.takeA (i := 12) (v := ?_) rfl (by kernel_rfl) (by kernel_rfl) (by kernel_rfl) (fun _ _ _ h => h) (Or.inl ⟨by rfl, ?_⟩) ?_
     rotate_left 1
     ·(intro w0 _; go_simp; try with_reducible rfl)
     try simp only [Act.put, setIfInBounds_toArray, set_cons_zero, set_cons_succ, getElem_toArray, getElem_cons_zero, getElem_cons_succ]
     refine AnyT.takeA (i := 13) (v := ?_) rfl (by kernel_rfl) (by kernel_rfl) (by kernel_rfl) (fun _ _ _ h => h) (Or.inl ⟨by rfl, ?_⟩) ?_
     rotate_left 1
     ·(intro w0 _; go_simp; try with_reducible rfl)
     try simp only [Act.put, setIfInBounds_toArray, set_cons_zero, set_cons_succ, getElem_toArray, getElem_cons_zero, getElem_cons_succ]
     refine AnyT.takeA (i := 14) (v := .bool true) rfl (by kernel_rfl) (by kernel_rfl) (by kernel_rfl) (fun _ _ _ h => h) (Or.inl ⟨by rfl, fun w0 _ => (by (try go_simp); (try simp [hx0]))⟩) ?_
     try simp only [Act.put, setIfInBounds_toArray, set_cons_zero, set_cons_succ, getElem_toArray, getElem_cons_zero, getElem_cons_succ]
     refine AnyT.takeA (i := 15) (v := ?_) rfl (by kernel_rfl) (by kernel_rfl) (by kernel_rfl) (fun _ _ _ h => h) (Or.inl ⟨by rfl, ?_⟩) ?_
     rotate_left 1
     ·(intro w0 _; go_simp; try with_reducible rfl)
     try simp only [Act.put, setIfInBounds_toArray, set_cons_zero, set_cons_succ, getElem_toArray, getElem_cons_zero, getElem_cons_succ]
     refine AnyT.takeA (i := 16) (v := ?_) rfl (by kernel_rfl) (by kernel_rfl) (by kernel_rfl) (fun _ _ _ h => h) (Or.inl ⟨by rfl, ?_⟩) ?_
     rotate_left 1
     ·(intro w0 _; go_simp; try with_reducible rfl)
     try simp only [Act.put, setIfInBounds_toArray, set_cons_zero, set_cons_succ, getElem_toArray, getElem_cons_zero, getElem_cons_succ]
     refine AnyT.takeA (i := 17) (v := ?_) rfl (by kernel_rfl) (by kernel_rfl) (by kernel_rfl) (fun _ _ _ h => h) (Or.inl ⟨by rfl, ?_⟩) ?_
     rotate_left 1
     ·(intro w0 _; go_simp; try with_reducible rfl)
     try simp only [Act.put, setIfInBounds_toArray, set_cons_zero, set_cons_succ, getElem_toArray, getElem_cons_zero, getElem_cons_succ]
     refine AnyT.takeA (i := 18) (v := ?_) rfl (by kernel_rfl) (by kernel_rfl) (by kernel_rfl) (fun _ _ _ h => h) (Or.inl ⟨by rfl, ?_⟩) ?_
     rotate_left 1
     ·(intro w0 _; go_simp; try with_reducible rfl)
     try simp only [Act.put, setIfInBounds_toArray, set_cons_zero, set_cons_succ, getElem_toArray, getElem_cons_zero, getElem_cons_succ]
     refine AnyT.take (i := 19) (v := ?_) rfl (by kernel_rfl) (by kernel_rfl) (by kernel_rfl) (by kernel_rfl) (fun _ _ _ h => h) (Or.inl ⟨by rfl, ?_⟩) (by assumption) ?_
     rotate_left 1
     ·(intro w0 hSw; (try dsimp only at hSw); go_simp; try with_reducible rfl)
     try simp only [Act.put, setIfInBounds_toArray, set_cons_zero, set_cons_succ, getElem_toArray, getElem_cons_zero, getElem_cons_succ]
     refine AnyT.takeA (i := 20) (v := ?_) rfl (by kernel_rfl) (by kernel_rfl) (by kernel_rfl) (fun _ _ _ h => h) (Or.inl ⟨by rfl, ?_⟩) ?_
     rotate_left 1
     ·(intro w0 _; go_simp; try with_reducible rfl)
     try simp only [Act.put, setIfInBounds_toArray, set_cons_zero, set_cons_succ, getElem_toArray, getElem_cons_zero, getElem_cons_succ]
     refine AnyT.take (i := 21) (v := ?_) rfl (by kernel_rfl) (by kernel_rfl) (by kernel_rfl) (by kernel_rfl) (fun _ _ _ h => h) (Or.inl ⟨by rfl, ?_⟩) (by assumption) ?_
     rotate_left 1
     ·(intro w0 hSw; (try dsimp only at hSw); go_simp; try with_reducible rfl)
     try simp only [Act.put, setIfInBounds_toArray, set_cons_zero, set_cons_succ, getElem_toArray, getElem_cons_zero, getElem_cons_succ]
     refine AnyT.takeA (i := 22) (v := ?_) rfl (by kernel_rfl) (by kernel_rfl) (by kernel_rfl) (fun _ _ _ h => h) (Or.inl ⟨by rfl, ?_⟩) ?_
     rotate_left 1
     ·(intro w0 _; go_simp; try with_reducible rfl)
     try simp only [Act.put, setIfInBounds_toArray, set_cons_zero, set_cons_succ, getElem_toArray, getElem_cons_zero, getElem_cons_succ]
     refine AnyT.takeA (i := 23) (v := ?_) rfl (by kernel_rfl) (by kernel_rfl) (by kernel_rfl) (fun _ _ _ h => h) (Or.inl ⟨by rfl, ?_⟩) ?_
     rotate_left 1
     ·(intro w0 _; go_simp; try with_reducible rfl)
     try simp only [Act.put, setIfInBounds_toArray, set_cons_zero, set_cons_succ, getElem_toArray, getElem_cons_zero, getElem_cons_succ]
     refine AnyT.takeA (i := 24) (v := ?_) rfl (by kernel_rfl) (by kernel_rfl) (by kernel_rfl) (fun _ _ _ h => h) (Or.inl ⟨by rfl, ?_⟩) ?_
     rotate_left 1
     ·(intro w0 _; go_simp; try with_reducible rfl)
     try simp only [Act.put, setIfInBounds_toArray, set_cons_zero, set_cons_succ, getElem_toArray, getElem_cons_zero, getElem_cons_succ]
     refine AnyT.take (i := 25) (v := ?_) rfl (by kernel_rfl) (by kernel_rfl) (by kernel_rfl) (by kernel_rfl) (fun _ _ _ h => h) (Or.inl ⟨by rfl, ?_⟩) (by assumption) ?_
     rotate_left 1
     ·(intro w0 hSw; (try dsimp only at hSw); go_simp; try with_reducible rfl)
     try simp only [Act.put, setIfInBounds_toArray, set_cons_zero, set_cons_succ, getElem_toArray, getElem_cons_zero, getElem_cons_succ]
     refine AnyT.takeA (i := 27) (v := ?_) rfl (by kernel_rfl) (by kernel_rfl) (by kernel_rfl) (fun _ _ _ h => h) (Or.inl ⟨by rfl, ?_⟩) ?_
     rotate_left 1
     ·(intro w0 _; go_simp; try with_reducible rfl)
     try simp only [Act.put, setIfInBounds_toArray, set_cons_zero, set_cons_succ, getElem_toArray, getElem_cons_zero, getElem_cons_succ]
     refine AnyT.call (i := 26) (by kernel_rfl) rfl (fun K hK => ?_)
     try simp only [Act.put, setIfInBounds_toArray, set_cons_zero, set_cons_succ, getElem_toArray, getElem_cons_zero, getElem_cons_succ]
     rw [if_pos (by rfl)]
     go_simp
     (go_at_call 136; refine (LS.out v2 Bv2).mono ?_; rintro e v3 ⟨P, pn, pc, rfl, oP, b3⟩; have Bv3 : Below W.heap.size W v3 := next_trans Bv2 b3; have hv3_0 : v3.cell? ⟨w.heap.size, 0, none⟩ = some (.slice A n cs) := (Bv3.cell (p := ⟨w.heap.size, 0, none⟩) ZA).trans K0; have hv3_1 : v3.cell? ⟨w.heap.size, 1, none⟩ = some (.slice (some ⟨b, off, none⟩) q cv) := (Bv3.cell (p := ⟨w.heap.size, 1, none⟩) ZA).trans K1; have hv3_2 : v3.cell? ⟨b, off + k * 2, none⟩ = some (.slice L ln lc) := (Bv3.cell (p := ⟨b, off + k * 2, none⟩) ZB).trans K2; go_wp2_with fail)
     refine hK.out _ _ (fun _ _ => ?_) (fun hKeep => ?_)
     ·exact ⟨hv3_0, hv3_1, hv3_2⟩
     replace hHeld := hKeep (by first | rfl | trivial) hHeld
     clear hK K hKeep
     try simp only [Act.put, setIfInBounds_toArray, set_cons_zero, set_cons_succ, getElem_toArray, getElem_cons_zero, getElem_cons_succ]
     refine AnyT.call (i := 28) (by kernel_rfl) rfl (fun K hK => ?_)
     try simp only [Act.put, setIfInBounds_toArray, set_cons_zero, set_cons_succ, getElem_toArray, getElem_cons_zero, getElem_cons_succ]
     rw [if_pos (by rfl)]
     go_simp
     (go_at_call 135; refine (containsI P pn pc _ x v3 (Own.seg oP) (by have q1 := Own.len oP; have q2 := HSY.out; omega)).mono ?_; rintro e v4 ⟨rfl, rfl⟩; go_wp2_with fail)
     refine hK.out _ _ (fun _ _ => ?_) (fun hKeep => ?_)
     ·exact ⟨hv3_0, hv3_1, hv3_2⟩
     replace hHeld := hKeep (by first | rfl | trivial) hHeld
     clear hK K hKeep
     try simp only [Act.put, setIfInBounds_toArray, set_cons_zero, set_cons_succ, getElem_toArray, getElem_cons_zero, getElem_cons_succ]
     refine AnyT.takeA (i := 29) (v := ?_) rfl (by kernel_rfl) (by kernel_rfl) (by kernel_rfl) (fun _ _ _ h => h) (Or.inl ⟨by rfl, ?_⟩) ?_
     rotate_left 1
     ·(intro w0 _; go_simp; try with_reducible rfl)
     try simp only [Act.put, setIfInBounds_toArray, set_cons_zero, set_cons_succ, getElem_toArray, getElem_cons_zero, getElem_cons_succ]
     refine AnyT.takeA (i := 30) (v := ?_) rfl (by kernel_rfl) (by kernel_rfl) (by kernel_rfl) (fun _ _ _ h => h) (Or.inl ⟨by rfl, ?_⟩) ?_
     rotate_left 1
     ·(intro w0 _; go_simp; try with_reducible rfl)
     try simp only [Act.put, setIfInBounds_toArray, set_cons_zero, set_cons_succ, getElem_toArray, getElem_cons_zero, getElem_cons_succ]
     refine AnyT.done (by kernel_rfl) ?_ _
     have F := hid (ansB (b := mayB d.2 (k : Int) x (k : Int)) (a := decide (x ∈ symI d.1 y.1)) HV.out.symm (next_trans BEL.out Bv3))
     clear b1 Bv1 b2 Bv2 b3 Bv3 oP LH1 LH2 LS
     generalize decide (x ∈ symI d.1 y.1) = bz at *
     go_wp2
     go_ret
     exact F.out
    ·clear hax
     go_enter Tryz.func75, Tryz.ntmps75
     go_upto_region 1 with fail
     rw [← HW.out]
     refine AnyT.start (S := (fun w' => w'.cell? ⟨w.heap.size, 0, none⟩ = some (.slice A n cs) ∧ w'.cell? ⟨w.heap.size, 1, none⟩ = some (.slice (some ⟨b, off, none⟩) q cv) ∧ w'.cell? ⟨b, off + k * 2, none⟩ = some (.slice L ln lc))) (fun _ => false) (by kernel_rfl) ⟨K0, K1, K2⟩ (fun hHeld => ?_)
     refine AnyT.take (i := 0) (v := ?_) rfl (by kernel_rfl) (by kernel_rfl) (by kernel_rfl) (by kernel_rfl) (fun _ _ _ h => h) (Or.inl ⟨by rfl, ?_⟩) (by assumption) ?_
     rotate_left 1
     ·(intro w0 hSw; (try dsimp only at hSw); go_simp; try with_reducible rfl)
     try simp only [Act.put, setIfInBounds_toArray, set_cons_zero, set_cons_succ, getElem_toArray, getElem_cons_zero, getElem_cons_succ]
     refine AnyT.takeA (i := 1) (v := ?_) rfl (by kernel_rfl) (by kernel_rfl) (by kernel_rfl) (fun _ _ _ h => h) (Or.inl ⟨by rfl, ?_⟩) ?_
     rotate_left 1
     ·(intro w0 _; go_simp; try with_reducible rfl)
     try simp only [Act.put, setIfInBounds_toArray, set_cons_zero, set_cons_succ, getElem_toArray, getElem_cons_zero, getElem_cons_succ]
     refine AnyT.call (i := 2) (by kernel_rfl) rfl (fun K hK => ?_)
     try simp only [Act.put, setIfInBounds_toArray, set_cons_zero, set_cons_succ, getElem_toArray, getElem_cons_zero, getElem_cons_succ]
     rw [if_pos (by rfl)]
     go_simp
     (go_at_call 134; refine LH1.out.mono ?_; rintro e v1 ⟨rfl, b1⟩; have Bv1 : Below W.heap.size W v1 := next_trans (Below.refl W.heap.size W).drew b1; have hv1_0 : v1.cell? ⟨w.heap.size, 0, none⟩ = some (.slice A n cs) := (Bv1.cell (p := ⟨w.heap.size, 0, none⟩) ZA).trans K0; have hv1_1 : v1.cell? ⟨w.heap.size, 1, none⟩ = some (.slice (some ⟨b, off, none⟩) q cv) := (Bv1.cell (p := ⟨w.heap.size, 1, none⟩) ZA).trans K1; have hv1_2 : v1.cell? ⟨b, off + k * 2, none⟩ = some (.slice L ln lc) := (Bv1.cell (p := ⟨b, off + k * 2, none⟩) ZB).trans K2; go_wp2_with fail)
     refine hK.out _ _ (fun _ _ => ?_) (fun hKeep => ?_)
     ·exact ⟨hv1_0, hv1_1, hv1_2⟩
     replace hHeld := hKeep (by first | rfl | trivial) hHeld
     clear hK K hKeep
     try simp only [Act.put, setIfInBounds_toArray, set_cons_zero, set_cons_succ, getElem_toArray, getElem_cons_zero, getElem_cons_succ]
     refine AnyT.takeA (i := 3) (v := ?_) rfl (by kernel_rfl) (by kernel_rfl) (by kernel_rfl) (fun _ _ _ h => h) (Or.inl ⟨by rfl, ?_⟩) ?_
     rotate_left 1
     ·(intro w0 _; go_simp; try with_reducible rfl)
     try simp only [Act.put, setIfInBounds_toArray, set_cons_zero, set_cons_succ, getElem_toArray, getElem_cons_zero, getElem_cons_succ]
     refine AnyT.take (i := 4) (v := ?_) rfl (by kernel_rfl) (by kernel_rfl) (by kernel_rfl) (by kernel_rfl) (fun _ _ _ h => h) (Or.inl ⟨by rfl, ?_⟩) (by assumption) ?_
     rotate_left 1
     ·(intro w0 hSw; (try dsimp only at hSw); go_simp; try with_reducible rfl)
     try simp only [Act.put, setIfInBounds_toArray, set_cons_zero, set_cons_succ, getElem_toArray, getElem_cons_zero, getElem_cons_succ]
     refine AnyT.takeA (i := 5) (v := ?_) rfl (by kernel_rfl) (by kernel_rfl) (by kernel_rfl) (fun _ _ _ h => h) (Or.inl ⟨by rfl, ?_⟩) ?_
     rotate_left 1
     ·(intro w0 _; go_simp; try with_reducible rfl)
     try simp only [Act.put, setIfInBounds_toArray, set_cons_zero, set_cons_succ, getElem_toArray, getElem_cons_zero, getElem_cons_succ]
     refine AnyT.call (i := 6) (by kernel_rfl) rfl (fun K hK => ?_)
     try simp only [Act.put, setIfInBounds_toArray, set_cons_zero, set_cons_succ, getElem_toArray, getElem_cons_zero, getElem_cons_succ]
     rw [if_pos (by rfl)]
     go_simp
     (go_at_call 134; refine (LH2.out v1).mono ?_; rintro e v2 ⟨rfl, b2⟩; have Bv2 : Below W.heap.size W v2 := next_trans Bv1 b2; have hv2_0 : v2.cell? ⟨w.heap.size, 0, none⟩ = some (.slice A n cs) := (Bv2.cell (p := ⟨w.heap.size, 0, none⟩) ZA).trans K0; have hv2_1 : v2.cell? ⟨w.heap.size, 1, none⟩ = some (.slice (some ⟨b, off, none⟩) q cv) := (Bv2.cell (p := ⟨w.heap.size, 1, none⟩) ZA).trans K1; have hv2_2 : v2.cell? ⟨b, off + k * 2, none⟩ = some (.slice L ln lc) := (Bv2.cell (p := ⟨b, off + k * 2, none⟩) ZB).trans K2; go_wp2_with fail)
     refine hK.out _ _ (fun _ _ => ?_) (fun hKeep => ?_)
     ·exact ⟨hv2_0, hv2_1, hv2_2⟩
     replace hHeld := hKeep (by first | rfl | trivial) hHeld
     clear hK K hKeep
     try simp only [Act.put, setIfInBounds_toArray, set_cons_zero, set_cons_succ, getElem_toArray, getElem_cons_zero, getElem_cons_succ]
     refine AnyT.takeA (i := 7) (v := ?_) rfl (by kernel_rfl) (by kernel_rfl) (by kernel_rfl) (fun _ _ _ h => h) (Or.inl ⟨by rfl, ?_⟩) ?_
     rotate_left 1
     ·(intro w0 _; go_simp; try with_reducible rfl)
     try simp only [Act.put, setIfInBounds_toArray, set_cons_zero, set_cons_succ, getElem_toArray, getElem_cons_zero, getElem_cons_succ]
     refine AnyT.takeA (i := 8) (v := ?_) rfl (by kernel_rfl) (by kernel_rfl) (by kernel_rfl) (fun _ _ _ h => h) (Or.inl ⟨by rfl, ?_⟩) ?_
     rotate_left 1
     ·(intro w0 _; go_simp; try with_reducible rfl)
     try simp only [Act.put, setIfInBounds_toArray, set_cons_zero, set_cons_succ, getElem_toArray, getElem_cons_zero, getElem_cons_succ]
     refine AnyT.takeA (i := 9) (v := ?_) rfl (by kernel_rfl) (by kernel_rfl) (by kernel_rfl) (fun _ _ _ h => h) (Or.inl ⟨by rfl, ?_⟩) ?_
     rotate_left 1
     ·(intro w0 _; go_simp; try with_reducible rfl)
     try simp only [Act.put, setIfInBounds_toArray, set_cons_zero, set_cons_succ, getElem_toArray, getElem_cons_zero, getElem_cons_succ]
     refine AnyT.takeA (i := 10) (v := ?_) rfl (by kernel_rfl) (by kernel_rfl) (by kernel_rfl) (fun _ _ _ h => h) (Or.inl ⟨by rfl, ?_⟩) ?_
     rotate_left 1
     ·(intro w0 _; go_simp; try with_reducible rfl)
     try simp only [Act.put, setIfInBounds_toArray, set_cons_zero, set_cons_succ, getElem_toArray, getElem_cons_zero, getElem_cons_succ]
     refine AnyT.takeA (i := 11) (v := .bool true) rfl (by kernel_rfl) (by kernel_rfl) (by kernel_rfl) (fun _ _ _ h => h) (Or.inl ⟨by rfl, fun w0 _ => (by (try go_simp); (try simp [hou]))⟩) ?_
     try simp only [Act.put, setIfInBounds_toArray, set_cons_zero, set_cons_succ, getElem_toArray, getElem_cons_zero, getElem_cons_succ]
     refine AnyT.takeA (i := 12) (v := ?_) rfl (by kernel_rfl) (by kernel_rfl) (by kernel_rfl) (fun _ _ _ h => h) (Or.inl ⟨by rfl, ?_⟩) ?_
     rotate_left 1
     ·(intro w0 _; go_simp; try with_reducible rfl)
     try simp only [Act.put, setIfInBounds_toArray, set_cons_zero, set_cons_succ, getElem_toArray, getElem_cons_zero, getElem_cons_succ]
     refine AnyT.takeA (i := 13) (v := undef) rfl (by kernel_rfl) (by kernel_rfl) (by kernel_rfl) (fun _ _ _ h => h) (Or.inr ⟨by rfl, rfl⟩) ?_
     try simp only [Act.put, setIfInBounds_toArray, set_cons_zero, set_cons_succ, getElem_toArray, getElem_cons_zero, getElem_cons_succ]
     refine AnyT.takeA (i := 14) (v := undef) rfl (by kernel_rfl) (by kernel_rfl) (by kernel_rfl) (fun _ _ _ h => h) (Or.inr ⟨by rfl, rfl⟩) ?_
     try simp only [Act.put, setIfInBounds_toArray, set_cons_zero, set_cons_succ, getElem_toArray, getElem_cons_zero, getElem_cons_succ]
     refine AnyT.takeA (i := 15) (v := ?_) rfl (by kernel_rfl) (by kernel_rfl) (by kernel_rfl) (fun _ _ _ h => h) (Or.inl ⟨by rfl, ?_⟩) ?_
     rotate_left 1
     ·(intro w0 _; go_simp; try with_reducible rfl)
     try simp only [Act.put, setIfInBounds_toArray, set_cons_zero, set_cons_succ, getElem_toArray, getElem_cons_zero, getElem_cons_succ]
     refine AnyT.takeA (i := 16) (v := ?_) rfl (by kernel_rfl) (by kernel_rfl) (by kernel_rfl) (fun _ _ _ h => h) (Or.inl ⟨by rfl, ?_⟩) ?_
     rotate_left 1
     ·(intro w0 _; go_simp; try with_reducible rfl)
     try simp only [Act.put, setIfInBounds_toArray, set_cons_zero, set_cons_succ, getElem_toArray, getElem_cons_zero, getElem_cons_succ]
     refine AnyT.takeA (i := 17) (v := ?_) rfl (by kernel_rfl) (by kernel_rfl) (by kernel_rfl) (fun _ _ _ h => h) (Or.inl ⟨by rfl, ?_⟩) ?_
     rotate_left 1
     ·(intro w0 _; go_simp; try with_reducible rfl)
     try simp only [Act.put, setIfInBounds_toArray, set_cons_zero, set_cons_succ, getElem_toArray, getElem_cons_zero, getElem_cons_succ]
     refine AnyT.takeA (i := 18) (v := ?_) rfl (by kernel_rfl) (by kernel_rfl) (by kernel_rfl) (fun _ _ _ h => h) (Or.inl ⟨by rfl, ?_⟩) ?_
     rotate_left 1
     ·(intro w0 _; go_simp; try with_reducible rfl)
     try simp only [Act.put, setIfInBounds_toArray, set_cons_zero, set_cons_succ, getElem_toArray, getElem_cons_zero, getElem_cons_succ]
     refine AnyT.take (i := 19) (v := ?_) rfl (by kernel_rfl) (by kernel_rfl) (by kernel_rfl) (by kernel_rfl) (fun _ _ _ h => h) (Or.inl ⟨by rfl, ?_⟩) (by assumption) ?_
     rotate_left 1
     ·(intro w0 hSw; (try dsimp only at hSw); go_simp; try with_reducible rfl)
     try simp only [Act.put, setIfInBounds_toArray, set_cons_zero, set_cons_succ, getElem_toArray, getElem_cons_zero, getElem_cons_succ]
     refine AnyT.takeA (i := 20) (v := ?_) rfl (by kernel_rfl) (by kernel_rfl) (by kernel_rfl) (fun _ _ _ h => h) (Or.inl ⟨by rfl, ?_⟩) ?_
     rotate_left 1
     ·(intro w0 _; go_simp; try with_reducible rfl)
     try simp only [Act.put, setIfInBounds_toArray, set_cons_zero, set_cons_succ, getElem_toArray, getElem_cons_zero, getElem_cons_succ]
     refine AnyT.take (i := 21) (v := ?_) rfl (by kernel_rfl) (by kernel_rfl) (by kernel_rfl) (by kernel_rfl) (fun _ _ _ h => h) (Or.inl ⟨by rfl, ?_⟩) (by assumption) ?_
     rotate_left 1
     ·(intro w0 hSw; (try dsimp only at hSw); go_simp; try with_reducible rfl)
     try simp only [Act.put, setIfInBounds_toArray, set_cons_zero, set_cons_succ, getElem_toArray, getElem_cons_zero, getElem_cons_succ]
     refine AnyT.takeA (i := 22) (v := ?_) rfl (by kernel_rfl) (by kernel_rfl) (by kernel_rfl) (fun _ _ _ h => h) (Or.inl ⟨by rfl, ?_⟩) ?_
     rotate_left 1
     ·(intro w0 _; go_simp; try with_reducible rfl)
     try simp only [Act.put, setIfInBounds_toArray, set_cons_zero, set_cons_succ, getElem_toArray, getElem_cons_zero, getElem_cons_succ]
     refine AnyT.takeA (i := 23) (v := ?_) rfl (by kernel_rfl) (by kernel_rfl) (by kernel_rfl) (fun _ _ _ h => h) (Or.inl ⟨by rfl, ?_⟩) ?_
     rotate_left 1
     ·(intro w0 _; go_simp; try with_reducible rfl)
     try simp only [Act.put, setIfInBounds_toArray, set_cons_zero, set_cons_succ, getElem_toArray, getElem_cons_zero, getElem_cons_succ]
     refine AnyT.takeA (i := 24) (v := ?_) rfl (by kernel_rfl) (by kernel_rfl) (by kernel_rfl) (fun _ _ _ h => h) (Or.inl ⟨by rfl, ?_⟩) ?_
     rotate_left 1
     ·(intro w0 _; go_simp; try with_reducible rfl)
     try simp only [Act.put, setIfInBounds_toArray, set_cons_zero, set_cons_succ, getElem_toArray, getElem_cons_zero, getElem_cons_succ]
     refine AnyT.take (i := 25) (v := ?_) rfl (by kernel_rfl) (by kernel_rfl) (by kernel_rfl) (by kernel_rfl) (fun _ _ _ h => h) (Or.inl ⟨by rfl, ?_⟩) (by assumption) ?_
     rotate_left 1
     ·(intro w0 hSw; (try dsimp only at hSw); go_simp; try with_reducible rfl)
     try simp only [Act.put, setIfInBounds_toArray, set_cons_zero, set_cons_succ, getElem_toArray, getElem_cons_zero, getElem_cons_succ]
     refine AnyT.takeA (i := 27) (v := ?_) rfl (by kernel_rfl) (by kernel_rfl) (by kernel_rfl) (fun _ _ _ h => h) (Or.inl ⟨by rfl, ?_⟩) ?_
     rotate_left 1
     ·(intro w0 _; go_simp; try with_reducible rfl)
     try simp only [Act.put, setIfInBounds_toArray, set_cons_zero, set_cons_succ, getElem_toArray, getElem_cons_zero, getElem_cons_succ]
     refine AnyT.call (i := 26) (by kernel_rfl) rfl (fun K hK => ?_)
     try simp only [Act.put, setIfInBounds_toArray, set_cons_zero, set_cons_succ, getElem_toArray, getElem_cons_zero, getElem_cons_succ]
     rw [if_pos (by rfl)]
     go_simp
     (go_at_call 136; refine (LS.out v2 Bv2).mono ?_; rintro e v3 ⟨P, pn, pc, rfl, oP, b3⟩; have Bv3 : Below W.heap.size W v3 := next_trans Bv2 b3; have hv3_0 : v3.cell? ⟨w.heap.size, 0, none⟩ = some (.slice A n cs) := (Bv3.cell (p := ⟨w.heap.size, 0, none⟩) ZA).trans K0; have hv3_1 : v3.cell? ⟨w.heap.size, 1, none⟩ = some (.slice (some ⟨b, off, none⟩) q cv) := (Bv3.cell (p := ⟨w.heap.size, 1, none⟩) ZA).trans K1; have hv3_2 : v3.cell? ⟨b, off + k * 2, none⟩ = some (.slice L ln lc) := (Bv3.cell (p := ⟨b, off + k * 2, none⟩) ZB).trans K2; go_wp2_with fail)
     refine hK.out _ _ (fun _ _ => ?_) (fun hKeep => ?_)
     ·exact ⟨hv3_0, hv3_1, hv3_2⟩
     replace hHeld := hKeep (by first | rfl | trivial) hHeld
     clear hK K hKeep
     try simp only [Act.put, setIfInBounds_toArray, set_cons_zero, set_cons_succ, getElem_toArray, getElem_cons_zero, getElem_cons_succ]
     refine AnyT.call (i := 28) (by kernel_rfl) rfl (fun K hK => ?_)
     try simp only [Act.put, setIfInBounds_toArray, set_cons_zero, set_cons_succ, getElem_toArray, getElem_cons_zero, getElem_cons_succ]
     rw [if_pos (by rfl)]
     go_simp
     (go_at_call 135; refine (containsI P pn pc _ x v3 (Own.seg oP) (by have q1 := Own.len oP; have q2 := HSY.out; omega)).mono ?_; rintro e v4 ⟨rfl, rfl⟩; go_wp2_with fail)
     refine hK.out _ _ (fun _ _ => ?_) (fun hKeep => ?_)
     ·exact ⟨hv3_0, hv3_1, hv3_2⟩
     replace hHeld := hKeep (by first | rfl | trivial) hHeld
     clear hK K hKeep
     try simp only [Act.put, setIfInBounds_toArray, set_cons_zero, set_cons_succ, getElem_toArray, getElem_cons_zero, getElem_cons_succ]
     refine AnyT.takeA (i := 29) (v := ?_) rfl (by kernel_rfl) (by kernel_rfl) (by kernel_rfl) (fun _ _ _ h => h) (Or.inl ⟨by rfl, ?_⟩) ?_
     rotate_left 1
     ·(intro w0 _; go_simp; try with_reducible rfl)
     try simp only [Act.put, setIfInBounds_toArray, set_cons_zero, set_cons_succ, getElem_toArray, getElem_cons_zero, getElem_cons_succ]
     refine AnyT.takeA (i := 30) (v := ?_) rfl (by kernel_rfl) (by kernel_rfl) (by kernel_rfl) (fun _ _ _ h => h) (Or.inl ⟨by rfl, ?_⟩) ?_
     rotate_left 1
     ·(intro w0 _; go_simp; try with_reducible rfl)
     try simp only [Act.put, setIfInBounds_toArray, set_cons_zero, set_cons_succ, getElem_toArray, getElem_cons_zero, getElem_cons_succ]
     refine AnyT.done (by kernel_rfl) ?_ _
     have F := hid (ansB (b := mayB d.2 (k : Int) x u) (a := decide (x ∈ symI d.1 y.1)) HV.out.symm (next_trans BEL.out Bv3))
     clear b1 Bv1 b2 Bv2 b3 Bv3 oP LH1 LH2 LS
     generalize decide (x ∈ symI d.1 y.1) = bz at *
     go_wp2
     go_ret
     exact F.out
end peakImpl
end
section
open Go.Lib (hid)
namespace peakImpl
open Go.RowKit heldT base ints sig term termOk endAt marks app sym pathSpec wayTo place segs segsHelp kinds termFacts same shape kindsR kindsW kindsP varsOf ruleMath ruleSpec ruleImpl stepMath walkMath stepSpec stepImpl walkSpec walkImpl peakMath peakSame
set_option maxRecDepth 100000
theorem rd_zero (w : World) (B : Nat) : Rd w B sSystem [.slice none 0 0, .slice none 0 0] (([], []) : Dat sSystem) :=
 ⟨[.slice none 0 0], [.slice none 0 0], rfl, ⟨none, 0, 0, rfl, ⟨Nat.le_refl _, by omega, fun _ => rfl⟩, rfl, fun h => absurd h (by omega)⟩, ⟨none, 0, 0, rfl, ⟨Nat.le_refl _, by omega, fun _ => rfl⟩, rfl, fun h => absurd h (by omega)⟩⟩
theorem may_zero (o x u : Int) : mayB [] o x u = false := may_no1 (by unfold walkMath.inB; exact decide_eq_false (by simp))
set_option maxHeartbeats 2000000 in
theorem implPeakC (A V T0 T1 T2 : Option Addr) (n cs q cv tn tc un uc yn yc : Nat) (d : Dat sSystem) (t0 t1 t2 : List Int) (xa xu xo : Int) (w : World) (h : Rd w w.heap.size sSystem [.slice A n cs, .slice V q cv] d) (g0 : Rd w w.heap.size sI [.slice T0 tn tc] t0) (s0 : Seg w w.heap.size T0 tn t0) (s1 : Seg w w.heap.size T1 un t1) (s2 : Seg w w.heap.size T2 yn t2) (hz : sz sSystem d ≤ 1048576) (z0 : sz sI t0 ≤ 1048576) (b0 : tn ≤ 1048576) (b1 : un ≤ 1048576) (b2 : yn ≤ 1048576) :
  Calls Tryz.prog 24 #[.agg #[.slice A n cs, .slice V q cv], .agg #[.slice T0 tn tc, .slice T1 un uc, .slice T2 yn yc, .int .i64 xa, .int .i64 xu, .int .i64 xo]] w (AnsB w (peakB d.1 d.2 (t0, t1, t2, xa, xu, xo))) := by
 obtain ⟨W, hW, rS, rP, bel⟩ := box2 w 32 40 #[.slice A n cs, .slice V q cv] #[.slice T0 tn tc, .slice T1 un uc, .slice T2 yn yc, .int .i64 xa, .int .i64 xu, .int .i64 xo]
 have HW := hid hW
 have LS := hid (systemOf _ _ d W (h.next bel) hz)
 obtain ⟨A', n', cs', V', q', cv', e1, e2, hs, hc, hcv, hq, hn, hq1, hrs, hsg, hE⟩ := rd_sys h hz
 injection e1 with e1 e3 e4
 injection e2 with e2 e5 e6
 subst e1 e3 e4 e2 e5 e6
 clear hW
 cases ok : sysOkB d.1 d.2 with
 | false =>
  have HS := hid ok
  have HF := hid (peak_sys (p := (t0, t1, t2, xa, xu, xo)) ok)
  clear ok h g0 s0 s1 s2 hs hc hcv hq hrs hsg hE
  go_enter Tryz.func24, Tryz.ntmps24
  go_wp2_with fail
  rw [← HW.out]
  refine LS.out.mono ?_
  rintro e w1 ⟨he, bb⟩
  rw [HS.out] at he
  have he : e = .returned (.tuple #[.agg #[.slice none 0 0, .slice none 0 0], .bool false]) := he
  subst he
  obtain ⟨w2, hw2⟩ : ∃ w2, w2 = w1.alloc (.cells #[.slice none 0 0, .slice none 0 0] 100) := ⟨_, rfl⟩
  have b3 : Below w1.heap.size w1 w2 := by rw [hw2]; exact (Below.refl w1.heap.size w1).alloc (Nat.le_refl _) _
  have r2 := (rP.next bb).next b3
  have bel2 := next_trans (next_trans bel bb) b3
  have k0 : (w1.alloc (.cells #[.slice none 0 0, .slice none 0 0] 100)).cell? ⟨w.heap.size + 1, 0, none⟩ = some (.slice T0 tn tc) := by rw [← hw2]; exact r2.cell 0
  have k1 : (w1.alloc (.cells #[.slice none 0 0, .slice none 0 0] 100)).cell? ⟨w.heap.size + 1, 1, none⟩ = some (.slice T1 un uc) := by rw [← hw2]; exact r2.cell 1
  have k2 : (w1.alloc (.cells #[.slice none 0 0, .slice none 0 0] 100)).cell? ⟨w.heap.size + 1, 2, none⟩ = some (.slice T2 yn yc) := by rw [← hw2]; exact r2.cell 2
  have k3 : (w1.alloc (.cells #[.slice none 0 0, .slice none 0 0] 100)).cell? ⟨w.heap.size + 1, 3, none⟩ = some (.int .i64 xa) := by rw [← hw2]; exact r2.cell 3
  have k4 : (w1.alloc (.cells #[.slice none 0 0, .slice none 0 0] 100)).cell? ⟨w.heap.size + 1, 4, none⟩ = some (.int .i64 xu) := by rw [← hw2]; exact r2.cell 4
  have k5 : (w1.alloc (.cells #[.slice none 0 0, .slice none 0 0] 100)).cell? ⟨w.heap.size + 1, 5, none⟩ = some (.int .i64 xo) := by rw [← hw2]; exact r2.cell 5
  have LM := hid (mayOverlap _ _ (([], []) : Dat sSystem) xo xa xu w2 (rd_zero w2 _) (by simp [sz]) (fun k hk => absurd hk (by simp)))
  have HW2 := hid hw2
  clear hw2 bb b3 r2 bel rS rP
  go_wp2_with fail
  rw [← HW2.out]
  refine LM.out.mono ?_
  rintro e w3 ⟨he, bb⟩
  have he : e = .returned (.bool false) := by rw [he]; exact congrArg (fun z => Ending.returned (.bool z)) (may_zero xo xa xu)
  subst he
  have F := hid (ansB (b := peakB d.1 d.2 (t0, t1, t2, xa, xu, xo)) (a := false) HF.out.symm (next_trans bel2 bb))
  clear bb bel2 k0 k1 k2 k3 k4 k5 LM HW2 LS
  go_wp2
  go_ret
  exact F.out
 | true =>
  have HS := hid ok
  have hlt : ∀ k, k < d.2.length → termOkB d.1 (d.2.getD k ([], [])).1 = true := fun k hk => (rule_parts (sys_rule ok hk)).1
  have LM := hid (fun (w1 : World) (bb : Below w.heap.size w w1) => mayOverlap _ _ d xo xa xu w1 (h.next bb) hz hlt)
  have LL := hid (fun (w1 : World) (bb : Below w.heap.size w w1) (U : Option Addr) (un uc : Nat) (y : List Int) (x r : Int) (hU : Seg w1 w1.heap.size U un y) (hun : un ≤ 1048576) => leads (.slice A n cs) (.slice V q cv) (.slice T0 tn tc) U un uc d t0 y x r w1 (h.next bb) (g0.next bb) hU hz z0 hun ok)
  have H1 := hid s1
  have H2 := hid s2
  obtain ⟨bm, hbm⟩ : ∃ z, mayB d.2 xo xa xu = z := ⟨_, rfl⟩
  simp only [hbm] at LM
  go_enter Tryz.func24, Tryz.ntmps24
  have PARTS : Hid (bm = true → ∃ (k : Nat) (b off : Nat) (L : Option Addr) (ln lc : Nat) (y : List Int), xo = (k : Int) ∧ k < q ∧ V = some ⟨b, off, none⟩ ∧ b < w.heap.size ∧ w.cell? ⟨b, off + k * 2, none⟩ = some (.slice L ln lc) ∧ Seg w w.heap.size L ln y ∧ ln ≤ 1048576 ∧ lhsI d.2 (k : Int) = y) := hid (fun hb => by
   subst hb
   have hkk : 0 ≤ xo ∧ xo < (q : Int) := by have := (may_parts hbm).1.1; rw [hq] at this; exact of_decide_eq_true this
   obtain ⟨k, rfl⟩ := Int.eq_ofNat_of_zero_le hkk.1
   obtain ⟨b, off, l, r, y, rfl, hb, ex, c0, -, hy⟩ := rd_at hrs (Below.refl _ _) hq (show k < q by omega)
   have hzy : sz sRule y ≤ 1048576 := by rw [← ex.out]; exact hE k (by omega)
   obtain ⟨L, ln, lc, L', ln', lc', rfl, rfl, sL, qL, -, -, hln, -⟩ := rd_rule hy hzy
   exact ⟨k, b, off, L, ln, lc, y.1, rfl, by omega, rfl, hb, c0, sL, hln, by unfold lhsI; rw [Int.toNat_natCast, ex.out]⟩)
  have HA := hid hs
  have HT := hid s0
  have HBM := hid hbm
  clear ok h g0 s0 s1 s2 hs hc hcv hq hrs hsg hE hlt hbm
  go_wp2_with fail
  rw [← HW.out]
  refine LS.out.mono ?_
  rintro e w1 ⟨he, bb⟩
  rw [HS.out] at he
  have he : e = .returned (.tuple #[.agg #[.slice A n cs, .slice V q cv], .bool true]) := he
  subst he
  obtain ⟨w2, hw2⟩ : ∃ w2, w2 = w1.alloc (.cells #[.slice A n cs, .slice V q cv] 100) := ⟨_, rfl⟩
  have b3 : Below w1.heap.size w1 w2 := by rw [hw2]; exact (Below.refl w1.heap.size w1).alloc (Nat.le_refl _) _
  have rQ : Row w2 w1.heap.size 100 #[.slice A n cs, .slice V q cv] := by rw [hw2]; exact Row.new _ _ _
  have r2 := (rP.next bb).next b3
  have bel2 := next_trans (next_trans bel bb) b3
  have k0 : (w1.alloc (.cells #[.slice A n cs, .slice V q cv] 100)).cell? ⟨w.heap.size + 1, 0, none⟩ = some (.slice T0 tn tc) := by rw [← hw2]; exact r2.cell 0
  have k1 : (w1.alloc (.cells #[.slice A n cs, .slice V q cv] 100)).cell? ⟨w.heap.size + 1, 1, none⟩ = some (.slice T1 un uc) := by rw [← hw2]; exact r2.cell 1
  have k2 : (w1.alloc (.cells #[.slice A n cs, .slice V q cv] 100)).cell? ⟨w.heap.size + 1, 2, none⟩ = some (.slice T2 yn yc) := by rw [← hw2]; exact r2.cell 2
  have k3 : (w1.alloc (.cells #[.slice A n cs, .slice V q cv] 100)).cell? ⟨w.heap.size + 1, 3, none⟩ = some (.int .i64 xa) := by rw [← hw2]; exact r2.cell 3
  have k4 : (w1.alloc (.cells #[.slice A n cs, .slice V q cv] 100)).cell? ⟨w.heap.size + 1, 4, none⟩ = some (.int .i64 xu) := by rw [← hw2]; exact r2.cell 4
  have k5 : (w1.alloc (.cells #[.slice A n cs, .slice V q cv] 100)).cell? ⟨w.heap.size + 1, 5, none⟩ = some (.int .i64 xo) := by rw [← hw2]; exact r2.cell 5
  have LM1 := hid (LM.out w2 bel2)
  have HW2 := hid hw2
  clear hw2 bb b3 bel rS rP LM LS
  go_wp2_with fail
  rw [← HW2.out]
  refine LM1.out.mono ?_
  rintro e w3 ⟨rfl, bb⟩
  cases bm with
  | false =>
   have F := hid (ansB (b := peakB d.1 d.2 (t0, t1, t2, xa, xu, xo)) (a := false) (peak_may HBM.out).symm (next_trans bel2 bb))
   clear bb bel2 k0 k1 k2 k3 k4 k5 LM1 HW2 rQ r2 LL PARTS
   go_wp2
   go_ret
   exact F.out
  | true =>
   obtain ⟨k, b, off, L, ln, lc, y, rfl, hkq, rfl, hb, cL, sL, hln, hLy⟩ := PARTS.out rfl
   have HPK := hid (fun hr => peak_yes (p := (t0, t1, t2, xa, xu, (k : Int))) HS.out HBM.out hr)
   have HPN := hid (fun hr => peak_right (sg := d.1) (rs := d.2) (p := (t0, t1, t2, xa, xu, (k : Int))) hr)
   replace r2 := r2.next bb
   replace rQ := rQ.next bb
   replace bel2 := next_trans bel2 bb
   have zP : w.heap.size + 1 < w3.heap.size := r2.lt
   have zQ : w1.heap.size < w3.heap.size := rQ.lt
   have zb : b < w3.heap.size := by have := bel2.size; omega
   have ka : w3.cell? ⟨w1.heap.size, 0, none⟩ = some (.slice A n cs) := rQ.cell 0
   have kb : w3.cell? ⟨w1.heap.size, 1, none⟩ = some (.slice (some ⟨b, off, none⟩) q cv) := rQ.cell 1
   clear k0 k1 k2 k3 k4 k5
   have k0 : w3.cell? ⟨w.heap.size + 1, 0, none⟩ = some (.slice T0 tn tc) := r2.cell 0
   have k1 : w3.cell? ⟨w.heap.size + 1, 1, none⟩ = some (.slice T1 un uc) := r2.cell 1
   have k2 : w3.cell? ⟨w.heap.size + 1, 2, none⟩ = some (.slice T2 yn yc) := r2.cell 2
   have k3 : w3.cell? ⟨w.heap.size + 1, 3, none⟩ = some (.int .i64 xa) := r2.cell 3
   have k4 : w3.cell? ⟨w.heap.size + 1, 4, none⟩ = some (.int .i64 xu) := r2.cell 4
   have k5 : w3.cell? ⟨w.heap.size + 1, 5, none⟩ = some (.int .i64 (k : Int)) := r2.cell 5
   have kl : w3.cell? ⟨b, off + k * 2, none⟩ = some (.slice L ln lc) := (bel2.cell (p := ⟨b, off + k * 2, none⟩) hb).trans cL
   have i0 : (0 : Int) ≤ (k : Int) := by omega
   have i1 : (k : Int) < (q : Int) := by omega
   have LPA := hid (implPathOf A L n cs ln lc d.1 y xa (pathI d.1 y xa) w3.drew (HA.out.next bel2.drew) (sL.next bel2.drew) hn hln (pathI_is d.1 y xa))
   have LPL := hid (fun (w4 : World) (P : Option Addr) (pn pc : Nat) (bb : Below w3.heap.size w3 w4) (hP : Seg w4 w4.heap.size P pn (pathI d.1 y xa)) => implPlaceOf A T0 P n cs tn tc pn pc d.1 t0 (pathI d.1 y xa) w4 ((HA.out.next bel2).next bb) ((HT.out.next bel2).next bb) hP hn b0 (by have := hP.1; have := pathI_len d.1 y xa; omega))
   have HZP := hid (show placeP d.1 d.2 t0 (k : Int) xa = placeI d.1 t0 (pathI d.1 y xa) by unfold placeP; rw [hLy])
   have BEL2 := hid bel2
   clear bb cL sL hLy LM1 HW2
   go_wp2_with fail
   go_region_held3 (fun w' => (w'.cell? ⟨w1.heap.size, 0, none⟩ = some (.slice A n cs) ∧ w'.cell? ⟨w1.heap.size, 1, none⟩ = some (.slice (some ⟨b, off, none⟩) q cv)) ∧ w'.cell? ⟨w.heap.size + 1, 0, none⟩ = some (.slice T0 tn tc) ∧ w'.cell? ⟨w.heap.size + 1, 3, none⟩ = some (.int .i64 xa) ∧ w'.cell? ⟨w.heap.size + 1, 5, none⟩ = some (.int .i64 (k : Int)) ∧ w'.cell? ⟨b, off + k * 2, none⟩ = some (.slice L ln lc))
    (go_keep)
    (first
     | (go_at_call 77; refine LPA.out.mono ?_; rintro e w4 ⟨P, pn, pc, rfl, oP, b4⟩; have B4 : Below w3.heap.size w3 w4 := next_trans (Below.refl w3.heap.size w3).drew b4; have h0 := (B4.cell (p := ⟨w1.heap.size, 0, none⟩) zQ).trans ka; have h1 := (B4.cell (p := ⟨w1.heap.size, 1, none⟩) zQ).trans kb; have h2 := (B4.cell (p := ⟨w.heap.size + 1, 0, none⟩) zP).trans k0; have h3 := (B4.cell (p := ⟨w.heap.size + 1, 3, none⟩) zP).trans k3; have h4 := (B4.cell (p := ⟨w.heap.size + 1, 5, none⟩) zP).trans k5; have h5 := (B4.cell (p := ⟨b, off + k * 2, none⟩) zb).trans kl)
     | (go_at_call 76; refine (LPL.out w4 P pn pc B4 (Own.seg oP)).mono ?_; rintro e w5 ⟨rfl, b5⟩; have B5 : Below w3.heap.size w3 w5 := next_trans B4 b5; have h0' := (B5.cell (p := ⟨w1.heap.size, 0, none⟩) zQ).trans ka; have h1' := (B5.cell (p := ⟨w1.heap.size, 1, none⟩) zQ).trans kb; have h2' := (B5.cell (p := ⟨w.heap.size + 1, 0, none⟩) zP).trans k0; have h3' := (B5.cell (p := ⟨w.heap.size + 1, 3, none⟩) zP).trans k3; have h4' := (B5.cell (p := ⟨w.heap.size + 1, 5, none⟩) zP).trans k5; have h5' := (B5.cell (p := ⟨b, off + k * 2, none⟩) zb).trans kl))
   clear h0 h1 h2 h3 h4 h5 h0' h1' h2' h3' h4' h5' ka kb k0 k1 k2 k3 k4 k5 kl oP b4 b5 LPA LPL
   obtain ⟨zp, hzp⟩ : ∃ z, placeI d.1 t0 (pathI d.1 y xa) = z := ⟨_, rfl⟩
   rw [hzp]
   have HZ2 := hid (HZP.out.trans hzp)
   clear hzp HZP
   replace r2 := r2.next B5
   replace rQ := rQ.next B5
   have bel5 := next_trans BEL2.out B5
   have ka : w5.cell? ⟨w1.heap.size, 0, none⟩ = some (.slice A n cs) := rQ.cell 0
   have kb : w5.cell? ⟨w1.heap.size, 1, none⟩ = some (.slice (some ⟨b, off, none⟩) q cv) := rQ.cell 1
   have k0 : w5.cell? ⟨w.heap.size + 1, 0, none⟩ = some (.slice T0 tn tc) := r2.cell 0
   have k1 : w5.cell? ⟨w.heap.size + 1, 1, none⟩ = some (.slice T1 un uc) := r2.cell 1
   have k2 : w5.cell? ⟨w.heap.size + 1, 2, none⟩ = some (.slice T2 yn yc) := r2.cell 2
   have k3 : w5.cell? ⟨w.heap.size + 1, 3, none⟩ = some (.int .i64 xa) := r2.cell 3
   have k4 : w5.cell? ⟨w.heap.size + 1, 4, none⟩ = some (.int .i64 xu) := r2.cell 4
   have k5 : w5.cell? ⟨w.heap.size + 1, 5, none⟩ = some (.int .i64 (k : Int)) := r2.cell 5
   have LL1 := hid (LL.out w5 bel5 T2 yn yc t2 0 (k : Int) (H2.out.next bel5) b2)
   clear B4 B5 BEL2 bel2
   go_wp2_with fail
   refine LL1.out.mono ?_
   rintro e w6 ⟨rfl, bb⟩
   replace r2 := r2.next bb
   replace rQ := rQ.next bb
   replace bel5 := next_trans bel5 bb
   clear bb ka kb k0 k1 k2 k3 k4 k5 LL1
   by_cases hr : stepAtO d.1 d.2 t0 0 (k : Int) = some t2
   ·have HV := hid (HPK.out hr)
    rw [decide_eq_true hr]
    clear hr HPK HPN
    have ka : w6.cell? ⟨w1.heap.size, 0, none⟩ = some (.slice A n cs) := rQ.cell 0
    have kb : w6.cell? ⟨w1.heap.size, 1, none⟩ = some (.slice (some ⟨b, off, none⟩) q cv) := rQ.cell 1
    have k0 : w6.cell? ⟨w.heap.size + 1, 0, none⟩ = some (.slice T0 tn tc) := r2.cell 0
    have k1 : w6.cell? ⟨w.heap.size + 1, 1, none⟩ = some (.slice T1 un uc) := r2.cell 1
    have k2 : w6.cell? ⟨w.heap.size + 1, 2, none⟩ = some (.slice T2 yn yc) := r2.cell 2
    have k3 : w6.cell? ⟨w.heap.size + 1, 3, none⟩ = some (.int .i64 xa) := r2.cell 3
    have k4 : w6.cell? ⟨w.heap.size + 1, 4, none⟩ = some (.int .i64 xu) := r2.cell 4
    have k5 : w6.cell? ⟨w.heap.size + 1, 5, none⟩ = some (.int .i64 (k : Int)) := r2.cell 5
    have LL2 := hid (LL.out w6 bel5 T1 un uc t1 zp xu (H1.out.next bel5) b1)
    clear LL rQ r2
    go_wp2_with fail
    refine LL2.out.mono ?_
    rintro e w7 ⟨rfl, bb⟩
    have F := hid (show AnsB w (peakB d.1 d.2 (t0, t1, t2, xa, xu, (k : Int))) (.returned (.bool (decide (stepAtO d.1 d.2 t0 zp xu = some t1)))) w7 from ⟨by rw [HV.out]; show _ = Ending.returned (.bool (decide (stepAtO d.1 d.2 t0 (placeP d.1 d.2 t0 (k : Int) xa) xu = some t1))); rw [HZ2.out], next_trans bel5 bb⟩)
    clear bb bel5 ka kb k0 k1 k2 k3 k4 k5 LL2
    generalize decide (stepAtO d.1 d.2 t0 zp xu = some t1) = bz at *
    go_wp2
    go_ret
    exact F.out
   ·have F := hid (ansB (b := peakB d.1 d.2 (t0, t1, t2, xa, xu, (k : Int))) (a := false) (HPN.out hr).symm bel5)
    rw [decide_eq_false hr]
    clear hr HPK HPN rQ r2 LL bel5
    go_wp2
    go_ret
    exact F.out
theorem implPeakOk (a v v0 v1 v2 : Value) (d : Dat sSystem) (p : Dat sPeak) (w : World) (h : Rd w w.heap.size sSystem [a, v] d) (h' : Rd w w.heap.size sPeak [v0, v1, v2, .int .i64 p.2.2.2.1, .int .i64 p.2.2.2.2.1, .int .i64 p.2.2.2.2.2] p) (hz : sz sSystem d ≤ 1048576) (hz' : sz sPeak p ≤ 1048576) :
  Calls Tryz.prog 24 #[.agg #[a, v], .agg #[v0, v1, v2, .int .i64 p.2.2.2.1, .int .i64 p.2.2.2.2.1, .int .i64 p.2.2.2.2.2]] w (AnsB w (peakB d.1 d.2 p)) := by
 obtain ⟨A, n, cs, V, q, cv, rfl, rfl, -⟩ := rd_sys h hz
 obtain ⟨T0, tn, tc, T1, un, uc, T2, yn, yc, rfl, rfl, rfl, s0, s1, s2, b0, b1, b2⟩ := rd_peak h' hz'
 obtain ⟨g0, -⟩ := parts_Peak h'
 have hz0 : sz sI p.1 + (sz sI p.2.1 + (sz sI p.2.2.1 + (0 + (0 + 0)))) ≤ 1048576 := hz'
 exact implPeakC A V T0 T1 T2 n cs q cv tn tc un uc yn yc d p.1 p.2.1 p.2.2.1 _ _ _ w h g0 s0 s1 s2 hz (by omega) b0 b1 b2
end peakImpl
end
section
namespace walkSpec
open Go.RowKit base ints sig term termOk endAt endOf marks app sym sub segs segsHelp kinds termFacts same shifted shape kindsR kindsW varsOf ruleMath ruleSpec stepMath walkMath stepSpec ownL heldT
set_option maxRecDepth 100000
section
variable {sg : List Int} {rs : List Rl} {a b : Wk}
end
structure Jn (w : World) (a v f s f' s' : Value) (wr : World) : Prop where
 r0 : Row wr w.heap.size 32 #[a, v]
 r1 : Row wr (w.heap.size + 1) 86 #[f, s]
 r2 : Row wr (w.heap.size + 1 + 1) 86 #[f', s']
 r3 : Row wr (w.heap.size + 1 + 1 + 1) 86 #[.slice none 0 0, .slice none 0 0]
 b : Below w.heap.size w wr
section
variable {w wr w' : World} {a v f s f' s' : Value}
theorem Jn.next (h : Jn w a v f s f' s' wr) (hb : Below wr.heap.size wr w') : Jn w a v f s f' s' w' := ⟨h.r0.next hb, h.r1.next hb, h.r2.next hb, h.r3.next hb, next_trans h.b hb⟩
theorem Jn.size (h : Jn w a v f s f' s' wr) : w.heap.size + 1 + 1 + 1 + 1 ≤ wr.heap.size := h.r3.lt
end
end walkSpec
end
section
namespace walkSpec
open Go.RowKit base ints sig term termOk endAt endOf marks app sym sub segs segsHelp kinds termFacts same shifted shape kindsR kindsW varsOf ruleMath ruleSpec stepMath walkMath stepSpec ownL heldT
set_option maxRecDepth 100000
section
variable {sg : List Int} {rs : List Rl} {k : Wk} {t : List Int} {x : Int}
end
structure Wi (w : World) (a v f s : Value) (B : Nat) (X O : Option Addr) (xn xc on oc : Nat) (fr : List Int) (L : List St) (wr : World) : Prop where
 r0 : Row wr w.heap.size 32 #[a, v]
 r1 : Row wr (w.heap.size + 1) 86 #[f, s]
 r2 : Row wr (w.heap.size + 1 + 1) 86 #[.slice none 0 0, .slice none 0 0]
 r3 : Row wr B 86 #[.slice X xn xc, .slice O on oc]
 x : Ownd wr (w.heap.size + 1 + 1 + 1) B X xn xc fr
 o : OwnL wr (B + 1) wr.heap.size 124 sStep O on oc L
 b : Below w.heap.size w wr
 z : w.heap.size + 1 + 1 + 1 ≤ B
theorem Wi.next {w wr w' : World} {a v f s : Value} {B : Nat} {X O : Option Addr} {xn xc on oc : Nat} {fr : List Int} {L : List St} (h : Wi w a v f s B X O xn xc on oc fr L wr) (hb : Below wr.heap.size wr w') : Wi w a v f s B X O xn xc on oc fr L w' :=
 ⟨h.r0.next hb, h.r1.next hb, h.r2.next hb, h.r3.next hb, h.x.next hb, (h.o.next hb).wider (Nat.le_refl _) hb.size, next_trans h.b hb, h.z⟩
end walkSpec
end
section
open Go.Lib (hid)
namespace kindsT
open Go.RowKit base ints sig cursor marks app sym appAt segs segsHelp segsMark kinds shape
set_option maxRecDepth 100000
abbrev sInt64SS : Sh := .row 27 sI
set_option maxHeartbeats 2000000 in
theorem szK_Int64SS (v : Value) (D : List (Dat sI)) (left : Int) (w : World) (h : Rd w w.heap.size sInt64SS [v] D) (h0 : 0 ≤ left) (h1 : left ≤ 1048576) :
  Calls Tryz.prog 85 #[v, .int .i64 left] w (AnsSzK w left (sz sInt64SS D)) := by
 obtain ⟨A, c, rfl, hcap⟩ := h.slice
 obtain ⟨n, hn⟩ : ∃ n, D.length = n := ⟨_, rfl⟩
 rw [hn] at h hcap ⊢
 have hmax : n ≤ 9223372036854775807 := Nat.le_trans hcap.1 hcap.2.1
 have HN := hid hn
 have H := hid h
 clear hcap hn h
 by_cases hs : left - n < 0
 ·have S : AnsSzK w left (sz sInt64SS D) (.returned (.int .i64 (-1))) w := ⟨by rw [if_pos (by rw [sz_row, HN.out]; omega)], Below.refl _ _⟩
  have HS := hid S
  clear S
  go_enter Tryz.func85, Tryz.ntmps85
  go_wp2
  go_ret
  exact HS.out
 go_enter Tryz.func85, Tryz.ntmps85
 go_wp2
 go_loopw [1, 5] (fun l i wr => HeadSzK w n sI D left l i wr) (fun _ i _ => n - (intOf i).toNat)
 case atStart => exact headSzK_zero (by omega)
 case round =>
  obtain ⟨k, hk, rfl, rfl, hge, hb⟩ := hrel
  by_cases hlt : k < n
  ·obtain ⟨b, off, n2, c2, es, ev, -, -, hbB, hel, hp, hr⟩ := H.out.elem (j := k) (by rw [HN.out]; exact hlt)
   injection ev with e1 e2 e3
   subst e1 e2 e3
   obtain ⟨v0, rfl⟩ := List.length_eq_one_iff.1 hel
   have hpw := hp.keep (w' := wr) (fun p hp => hb.cell (p := p) (by rw [hp]; exact hbB))
   have c0 : wr.cell? ⟨b, off + k, none⟩ = some (v0) := by simpa [nc] using hpw 0 (by simp)
   obtain ⟨t, ht⟩ : ∃ t, sz sI (D.getD k (dft sI)) = t := ⟨_, rfl⟩
   obtain ⟨l, hl⟩ : ∃ l, left - n - szs sI D k = l := ⟨_, rfl⟩
   have hsum := szs_succ (s := sI) (d := D) (k := k) (by rw [HN.out]; exact hlt)
   rw [ht] at hsum
   rw [hl] at hge ⊢
   have hle : l ≤ 1048576 := by omega
   have L := hid (szK_ints _ (D.getD k (dft sI)) l wr ((hr.below hb).more hb.size) hge hle)
   rw [ht] at L
   have BAD := hid (fun (q : l - (t : Int) < 0) => headSzK_bad (e := 27) (D := D) (left := left) HN.out hlt hsum (by rw [hl]; exact q))
   have GOOD := hid (fun (q : ¬ l - (t : Int) < 0) (w1 : World) (hb : Below w.heap.size w w1) => headSzK_step (D := D) (left := left) (l := l) hlt hsum hl q hb)
   have HB := hid hb
   clear hr hel hp hpw ht hl hsum hb
   go_wp2_with fail
   refine L.out.mono ?_
   rintro e w1 ⟨he, bb⟩
   by_cases q : l - (t : Int) < 0
   ·rw [if_pos q] at he
    subst he
    have F : AnsSzK w left (sz sInt64SS D) (.returned (.int .i64 (-1))) w1 := ⟨BAD.out (by omega), next_trans HB.out bb⟩
    have HF := hid F
    clear F bb L GOOD BAD
    go_wp2
    go_ret
    exact HF.out
   ·rw [if_neg q] at he
    subst he
    have F := hid (GOOD.out (by omega) w1 (next_trans HB.out bb))
    clear bb L GOOD BAD
    go_wp2
    go_roundw
    case rel => exact F.out
    case measure => simp [intOf]; omega
  ·have F := hid (headSzK_end (e := 27) HN.out hlt hk hge hb)
   clear hge hb
   go_wp2
   go_ret
   exact F.out
theorem info_Int64SS : (Tryz.prog.info? 27).map (fun i => (i.zero, i.size, i.bytes)) = some (some (.slice none 0 0), 1, 24) := by kernel_rfl
theorem make_Int64SS (n : Nat) (hn : n ≤ 1048576) (W : World) : (Instr.makeSlice 50 (.int .i64 (n : Int)) (.int .i64 (n : Int))).run Tryz.prog W =
  .ok (.slice (some ⟨W.heap.size, 0, none⟩) n n) (W.alloc (.cells (madeCells #[.slice none 0 0] (n * 1)) 27)) := by
 obtain ⟨i0, hi, hz0, hz1, hz2⟩ := info_parts info_Int64SS
 have hr := run_make (P := Tryz.prog) W 50 27 i0 _ Tryz.underlying50 hi hz0 .i64 .i64 n n (by omega) (by omega) (by rw [hz2]; omega) (by omega)
 simpa [hz1, Value.cells] using hr
set_option maxHeartbeats 2000000 in
theorem toK_Int64SS (v : Value) (D : List (Dat sI)) (w : World) (h : Rd w w.heap.size sInt64SS [v] D) (hz : sz sInt64SS D ≤ 1048576) :
  Calls Tryz.prog 89 #[v] w (Copy1 w sInt64SS D) := by
 obtain ⟨A, c, rfl, hcap⟩ := h.slice
 obtain ⟨n, hn⟩ : ∃ n, D.length = n := ⟨_, rfl⟩
 have hn1 : n ≤ 1048576 := by rw [← hn]; exact sz_len hz
 rw [hn] at h hcap ⊢
 have HN := hid hn
 have H := hid h
 have HZ := hid hz
 clear hcap hn h hz
 have hmk := make_Int64SS n hn1
 have S0 := hid (headCp_zero (s := sI) (e := 27) (w := w) (n := n) (D := D) (cs := madeCells #[.slice none 0 0] (n * 1)) (size_madeCells _ _))
 go_enter Tryz.func89, Tryz.ntmps89
 go_wp2
 clear hmk
 go_loopw [4] (fun i wr => HeadCp w 27 sI n D i wr) (fun i _ => n - (intOf i).toNat)
 case atStart => first | exact S0.out | (have h9 := S0.out; rw [Nat.mul_one] at h9; exact h9)
 case round =>
  obtain ⟨k, ks, E, G, hk, rfl, hr, hs, hnd, hi, hb⟩ := hrel
  clear S0
  by_cases hlt : k < n
  ·have hkD : k < D.length := by rw [HN.out]; exact hlt
   obtain ⟨b, off, n2, c2, es, ev, -, -, hbB, hel, hp, hrd⟩ := H.out.elem hkD
   injection ev with e1 e2 e3
   subst e1 e2 e3
   obtain ⟨v0, rfl⟩ := List.length_eq_one_iff.1 hel
   have hpw := hp.keep (w' := wr) (fun p hp => hb.cell (p := p) (by rw [hp]; exact hbB))
   have c0 : wr.cell? ⟨b, off + k, none⟩ = some (v0) := by simpa [nc] using hpw 0 (by simp)
   have L := hid (toK_ints _ (D.getD k (dft sI)) wr ((hrd.below hb).more hb.size) (sz_each HZ.out hkD))
   have R := hid (fun w1 xA0 xn0 xc0 ho bb => headCp_step (w1 := w1) (es := [.slice xA0 xn0 xc0]) hlt hr hs hnd hi hb ho bb)
   have rr := hr
   have hsz : ks.size = n * 1 := hs
   have HS := hid hsz
   clear hr hs hnd hi hb hrd hel hp hpw hsz
   go_wp2_with fail
   refine L.out.mono ?_
   rintro e w1 ⟨xA0, xn0, xc0, rfl, ho, bb⟩
   have S := hid (R.out w1 xA0 xn0 xc0 ho bb)
   have rr1 := rr.next bb
   obtain ⟨u0, hu0⟩ : ∃ u, w1.cell? ⟨w.heap.size, k, none⟩ = some u := ⟨_, (rr1.cell _).trans (Array.getElem?_eq_getElem (by rw [HS.out]; omega))⟩
   have hf0 : w1.frozen? ⟨w.heap.size, k, none⟩ = false := rr1.free _
   clear ho bb rr rr1 L R
   go_wp2
   go_roundw
   case rel => first | exact S.out | (have h9 := S.out; rw [show k * nc sI = k from Nat.mul_one k] at h9; exact h9)
   case measure => simp [intOf]; omega
  ·have e1 : k = n := by omega
   subst e1
   have F := hid (headCp_end HN.out hn1 hr hs hnd hi hb)
   clear hr hs hnd hi hb
   go_wp2
   go_ret
   exact F.out
set_option maxHeartbeats 2000000 in
theorem eqK_Int64SS (v u : Value) (D : List (Dat sI)) (w : World) (h : Rd w w.heap.size sInt64SS [v] D) (h' : Rd w w.heap.size sInt64SS [u] D) (hz : sz sInt64SS D ≤ 1048576) :
  Calls Tryz.prog 93 #[v, u] w (Yes w) := by
 obtain ⟨A, c, rfl, hcap⟩ := h.slice
 obtain ⟨A', c', rfl, hcap'⟩ := h'.slice
 obtain ⟨n, hn⟩ : ∃ n, D.length = n := ⟨_, rfl⟩
 have hn1 : n ≤ 1048576 := by rw [← hn]; exact sz_len hz
 rw [hn] at h h' hcap hcap' ⊢
 have HN := hid hn
 have H := hid h
 have H' := hid h'
 have HZ := hid hz
 clear hcap hcap' hn h h' hz
 go_enter Tryz.func93, Tryz.ntmps93
 go_wp2
 go_loopw [5] (fun i wr => ∃ k : Nat, k ≤ n ∧ i = .int .i64 k ∧ Below w.heap.size w wr) (fun i _ => n - (intOf i).toNat)
 case atStart => exact ⟨0, Nat.zero_le _, rfl, Below.refl _ _⟩
 case round =>
  obtain ⟨k, hk, rfl, hb⟩ := hrel
  by_cases hlt : k < n
  ·have hkD : k < D.length := by rw [HN.out]; exact hlt
   obtain ⟨b, off, n2, c2, es, ev, -, -, hbB, hel, hp, hrd⟩ := H.out.elem hkD
   injection ev with e1 e2 e3
   subst e1 e2 e3
   obtain ⟨b', off', n2, c2, es', ev, -, -, hbB', hel', hp', hrd'⟩ := H'.out.elem hkD
   injection ev with e1 e2 e3
   subst e1 e2 e3
   obtain ⟨v0, rfl⟩ := List.length_eq_one_iff.1 hel
   obtain ⟨u0, rfl⟩ := List.length_eq_one_iff.1 hel'
   replace hb := hb.drew
   have hpw := hp.keep (w' := wr.drew) (fun p hp => hb.cell (p := p) (by rw [hp]; exact hbB))
   have hpw' := hp'.keep (w' := wr.drew) (fun p hp => hb.cell (p := p) (by rw [hp]; exact hbB'))
   have c0 : wr.drew.cell? ⟨b, off + k, none⟩ = some (v0) := by simpa [nc] using hpw 0 (by simp)
   have c0' : wr.drew.cell? ⟨b', off' + k, none⟩ = some (u0) := by simpa [nc] using hpw' 0 (by simp)
   have L := hid (eqK_ints _ _ (D.getD k (dft sI)) wr.drew ((hrd.below hb).more hb.size) ((hrd'.below hb).more hb.size) (sz_each HZ.out hkD))
   have HB := hid hb
   have hlb : b < wr.drew.heap.size := Nat.lt_of_lt_of_le hbB hb.size
   have hlb' : b' < wr.drew.heap.size := Nat.lt_of_lt_of_le hbB' hb.size
   clear hrd hrd' hel hel' hp hp' hpw hpw' hb
   go_wp2_with fail
   go_region_held3 (fun w' => w'.cell? ⟨b, off + k, none⟩ = some (v0) ∧ w'.cell? ⟨b', off' + k, none⟩ = some (u0))
    (go_keep)
    (first | (go_at_call 90; refine L.out.mono ?_; rintro e w1 ⟨rfl, bb⟩; have m0 := (bb.cell (p := ⟨b, off + k, none⟩) hlb).trans c0; have m1 := (bb.cell (p := ⟨b', off' + k, none⟩) hlb').trans c0'))
   have HB1 := hid (next_trans HB.out bb)
   clear bb L c0 c0' m0 m1
   go_wp2
   go_roundw
   case rel => exact ⟨k + 1, hlt, by simp, HB1.out⟩
   case measure => simp [intOf]; omega
  ·have HB := hid hb
   clear hb
   go_wp2
   go_ret
   exact ⟨rfl, HB.out⟩
set_option maxHeartbeats 2000000 in
theorem markK_Int64SS (v : Value) (D : List (Dat sI)) (k : Int) (F : List Nat) (w : World) (h : Ow w sInt64SS [v] D F) (hF : F.Nodup) (hz : sz sInt64SS D ≤ 1048576) (hk0 : 0 ≤ k) (hk : k + (cntv sInt64SS D : Int) ≤ 1099511627776) :
  Calls Tryz.prog 97 #[v, .int .i64 k] w (AnsMarkF w sInt64SS [v] D k F) := by
 obtain ⟨A, c, rfl, hcap⟩ := h.rd.slice
 have hn1 := sz_len hz
 obtain ⟨n, hn⟩ : ∃ n, D.length = n := ⟨_, rfl⟩
 rw [hn] at h hcap hn1 ⊢
 have HN := hid hn
 have HZ := hid hz
 have S0 := hid (headMk_zero (k := k) h)
 clear h hcap hn hz
 go_enter Tryz.func97, Tryz.ntmps97
 go_wp2
 go_loopw [1, 5] (fun kk i wr => HeadMk w 27 sI (.slice A n c) D k F kk i wr) (fun _ i _ => n - (intOf i).toNat)
 case atStart => first | exact S0.out | (have h9 := S0.out; rw [Nat.mul_one] at h9; exact h9)
 case round =>
  obtain ⟨j, hj, rfl, rfl, ho, hb⟩ := hrel
  clear S0
  rw [HN.out] at hj
  by_cases hlt : j < n
  ·have hjD : j < D.length := by rw [HN.out]; exact hlt
   obtain ⟨g, n2, c2, es, Gj, ev, -, hel, hp, hg, oe, ng, gG, sub, R⟩ := ho.elem' hF (j := j) (by rw [mixed_len]; exact hjD)
   injection ev with e1 e2 e3
   subst e1 e2 e3
   rw [mixed_get hjD] at oe
   obtain ⟨v0, rfl⟩ := List.length_eq_one_iff.1 hel
   have o0 := oe
   have g0 : g ∉ Gj := fun hb => gG (hb)
   have sub0 : ∀ x ∈ Gj, x ∈ Gj := fun x hb => hb
   obtain ⟨z0, hz0⟩ : ∃ z, cntv sI ((D.getD j (dft sI))) = z := ⟨_, rfl⟩
   have hzz : cnt sI (D.getD j (dft sI)) = z0 := by rw [← hz0]; rfl
   have hcn := headMk_cnt (e := 27) hjD
   rw [hzz] at hcn
   obtain ⟨q, hq⟩ : ∃ q, k + (cnts sI D j : Int) = q := ⟨_, rfl⟩
   have q0 : 0 ≤ q := by omega
   have q1 : q + (z0 : Int) ≤ 1099511627776 := by have : (cntv sInt64SS D : Int) = (cntv (.row 27 sI) D : Nat) := rfl; omega
   have Z0 : Hid (sz sI ((D.getD j (dft sI))) ≤ 1048576) := hid (sz_each HZ.out hjD)
   have HZ0 := hid hz0
   rw [hq]
   have HEF : Hid (Gj = Gj) := hid (by rfl)
   have HR := hid R
   have HB := hid hb
   have HQ := hid hq
   have HZZ := hid hzz
   have SUB := hid sub
   have on : Only Gj wr wr := Only.refl _ _
   have c0 : wr.cell? ⟨g, j, none⟩ = some (v0) := by simpa [nc] using hp 0 (by simp)
   clear R hb hq hzz hcn ho oe sub hp hel gG hz0 
   go_wp2_with fail
   refine (markK_ints _ _ q Gj _ o0 Z0.out (by omega) (by omega)).mono ?_
   rintro e w1 ⟨he, o0, on0⟩
   rw [HZ0.out] at he
   have hgl : g < wr.heap.size := Nat.lt_of_lt_of_le hg on.size
   replace c0 := (World.cell?_of_block (a := ⟨g, j, none⟩) (on0.block g hgl g0)).trans c0
   replace on := on.trans (on0.wider sub0)
   clear on0 hgl
   obtain ⟨k0, hk0⟩ : ∃ l, q + (z0 : Int) = l := ⟨_, rfl⟩
   rw [hk0] at he
   have l0 : 0 ≤ k0 := by omega
   have u0 : k0  ≤ 1099511627776 := by omega
   subst he
   have HK0 := hid hk0
   clear hk0
   have S : HeadMk w 27 sI (.slice (some ⟨g, 0, none⟩) n c) D k F (.int .i64 k0) (.int .i64 ((j : Int) + 1)) w1 := by
    have h1 := HR.out w1 (mkc sI q (D.getD j (dft sI))) (by exact o0) on
    have h2 := headMk_step (z := z0) hjD HB.out (on.wider SUB.out) HZZ.out (by rw [HQ.out]) h1
    have h3 : k + (cnts sI D j : Int) + ((z0 : Nat) : Int) = k0 := by have := HQ.out; have := HK0.out; omega
    rw [h3] at h2
    exact h2
   have HS := hid S
   clear S on o0 c0 
   go_wp2
   go_roundw
   case rel => exact HS.out
   case measure => simp [intOf]; omega
  ·have F1 := hid (headMk_end (by rw [HN.out]; exact hlt) (by rw [HN.out]; exact hj) ho hb)
   clear ho hb
   generalize cnts sI D j = z at *
   go_wp2
   go_ret
   exact F1.out
abbrev sSubst : Sh := sInt64SS
theorem cells_Subst {w : World} {B : Nat} {es : List Value} {d : Dat sSubst} (h : Rd w B sSubst es d) : ∃ (v0 : Value), es = [v0] := by
 obtain ⟨A0, n0, c0, z0, -⟩ := h
 exact ⟨.slice A0 n0 c0, by rw [z0] <;> rfl⟩
set_option maxHeartbeats 2000000 in
theorem szK_Subst (v0 : Value) (d : Dat sSubst) (left : Int) (w : World) (h : Rd w w.heap.size sSubst [v0] d) (h0 : 0 ≤ left) (h1 : left ≤ 1048576) :
  Calls Tryz.prog 30 #[.agg #[v0], .int .i64 left] w (AnsSzK w left (sz sSubst d)) := by
 have g0 := h
 obtain ⟨t0, ht0⟩ : ∃ t, sz sInt64SS d = t := ⟨_, rfl⟩
 have HE : Hid (sz sSubst d = t0) := hid (by rw [← ht0]; try rfl)
 have HT0 := hid ht0
 have G0 := hid g0
 obtain ⟨W, hW⟩ : ∃ W, W = w.alloc (.cells #[v0] 67) := ⟨_, rfl⟩
 have r : Row W w.heap.size 67 #[v0] := by rw [hW]; exact Row.new _ _ _
 have bel : Below w.heap.size w W := by rw [hW]; exact (Below.refl _ _).alloc (Nat.le_refl _) _
 have HW := hid hW
 clear hW h g0 ht0
 go_enter Tryz.func30, Tryz.ntmps30
 go_wp2_with fail
 rw [← HW.out]
 refine (szK_Int64SS _ _ left W (G0.out.next bel) h0 h1).mono ?_
 rintro e w1 ⟨he, bb⟩
 rw [HT0.out] at he
 replace r := r.next bb
 replace bel := next_trans bel bb
 clear bb
 by_cases q0 : left - (t0 : Int) < 0
 ·rw [if_pos q0] at he
  subst he
  have F : AnsSzK w left (sz sSubst d) (.returned (.int .i64 (-1))) w1 := ⟨by rw [HE.out, if_pos (by omega)], bel⟩
  have HF := hid F
  clear F bel r
  go_wp2
  go_ret
  exact HF.out
 rw [if_neg q0] at he
 obtain ⟨l0, hl0⟩ : ∃ l, left - (t0 : Int) = l := ⟨_, rfl⟩
 rw [hl0] at he
 have a0 : 0 ≤ l0 := by omega
 have b0 : l0 ≤ 1048576 := by omega
 have HL0 := hid hl0
 clear hl0 q0
 subst he
 have F : AnsSzK w left (sz sSubst d) (.returned (.int .i64 l0)) w1 := ⟨by have := HL0.out; rw [HE.out, if_neg (by omega)]; exact congrArg (fun z => Ending.returned (.int .i64 z)) (by omega), bel⟩
 have HF := hid F
 clear F bel r
 go_wp2
 go_ret
 exact HF.out
def CopySubst (w : World) (d : Dat sSubst) (e : Ending) (w' : World) : Prop := ∃ A0 n0 c0, e = .returned (.agg #[.slice A0 n0 c0]) ∧ Owned w' w.heap.size w'.heap.size sSubst [.slice A0 n0 c0] d ∧ Below w.heap.size w w'
set_option maxHeartbeats 2000000 in
theorem toK_Subst (v0 : Value) (d : Dat sSubst) (w : World) (h : Rd w w.heap.size sSubst [v0] d) (hz : sz sSubst d ≤ 1048576) :
  Calls Tryz.prog 34 #[.agg #[v0]] w (CopySubst w d) := by
 have g0 := h
 have cp0 := CpS.zero w 67 52 #[v0] #[.slice none 0 0]
 obtain ⟨W, hW⟩ : ∃ W, W = ((w.alloc (.cells #[v0] 67)).alloc (.cells #[.slice none 0 0] 52)).alloc (.cells #[.slice none 0 0] 52) := ⟨_, rfl⟩
 rw [← hW] at cp0
 have HW := hid hW
 have G0 := hid g0
 have Z0 : Hid (sz sInt64SS d ≤ 1048576) := hid (hz)
 clear hW hz h g0
 go_enter Tryz.func34, Tryz.ntmps34
 go_wp2_with fail
 rw [← HW.out]
 refine (toK_Int64SS _ _ _ ((G0.out.below cp0.bel).more cp0.bel.size) Z0.out).mono ?_
 rintro e w1 ⟨x0A0, x0n0, x0c0, rfl, o0, bb⟩
 have zb0 := bb.size
 have zc0 := cp0.size
 replace cp0 := cp0.next bb
 clear bb
 have f0_0 : w1.frozen? ⟨w.heap.size + 1 + 1, 0, none⟩ = false := cp0.cur.free 0
 have k0_0 : w1.cell? ⟨w.heap.size + 1 + 1, 0, none⟩ = some (.slice none 0 0) := cp0.cur.cell 0
 obtain ⟨w2, hw0⟩ : ∃ x, x = (w1.setCell ⟨w.heap.size + 1 + 1, 0, none⟩ (.slice x0A0 x0n0 x0c0)) := ⟨_, rfl⟩
 replace o0 := o0.put (g := w.heap.size + 1 + 1) (i := 0) (u := .slice x0A0 x0n0 x0c0) (by omega)
 rw [← hw0] at o0
 replace cp0 : CpS w 67 52 #[v0] #[.slice none 0 0] #[.slice x0A0 x0n0 x0c0] w2 := by rw [hw0]; exact (CpS.put cp0 0 (.slice x0A0 x0n0 x0c0))
 have zw0 : w2.heap.size = w1.heap.size := by rw [hw0]; simp
 have HW0 := hid hw0
 clear hw0
 have y0 : w2.cell? ⟨w.heap.size + 1 + 1, 0, none⟩ = some (.slice x0A0 x0n0 x0c0) := cp0.cur.cell 0
 rw [HW0.out] at y0
 have s0 : (w2).cell? ⟨w.heap.size + 1, 0, none⟩ = some (.slice none 0 0) := cp0.res.cell 0
 rw [HW0.out] at s0
 have r0 : (w2).frozen? ⟨w.heap.size + 1, 0, none⟩ = false := cp0.res.free 0
 rw [HW0.out] at r0
 have oo : Owned w2 (w.heap.size + 1 + 1 + 1) w2.heap.size sSubst [.slice x0A0 x0n0 x0c0] d := o0.wider (by omega) (by omega)
 have F : CopySubst w d (.returned (.agg #[.slice x0A0 x0n0 x0c0])) (w2.setCell ⟨w.heap.size + 1, 0, none⟩ (.slice x0A0 x0n0 x0c0)) := ⟨x0A0, x0n0, x0c0, rfl, Owned.wider ((oo.put (g := w.heap.size + 1) (i := 0) (u := .slice x0A0 x0n0 x0c0) (by omega))) (by omega) (by simp), ((CpS.fin cp0 0 (.slice x0A0 x0n0 x0c0))).bel⟩
 have u0 : ((w2.setCell ⟨w.heap.size + 1, 0, none⟩ (.slice x0A0 x0n0 x0c0))).cell? ⟨w.heap.size + 1, 0, none⟩ = some (.slice x0A0 x0n0 x0c0) := (CpS.fin cp0 0 (.slice x0A0 x0n0 x0c0)).res.cell 0
 rw [HW0.out] at u0
 rw [HW0.out] at F
 have HF := hid F
 clear F oo cp0 o0
 go_wp2
 exact bodyPost_ret (v := .agg #[.slice x0A0 x0n0 x0c0]) (by simp [results, Tryz.results34, go_sem, u0]) rfl HF.out
set_option maxHeartbeats 2000000 in
theorem eqK_Subst (v0 u0 : Value) (d : Dat sSubst) (w : World) (h : Rd w w.heap.size sSubst [v0] d) (h' : Rd w w.heap.size sSubst [u0] d) (hz : sz sSubst d ≤ 1048576) :
  Calls Tryz.prog 37 #[.agg #[v0], .agg #[u0]] w (Yes w) := by
 have g0 := h
 have g0' := h'
 obtain ⟨W, hW⟩ : ∃ W, W = (w.alloc (.cells #[v0] 52)).alloc (.cells #[u0] 52) := ⟨_, rfl⟩
 have ra : Row W w.heap.size 52 #[v0] := by rw [hW]; exact (Row.new w 52 #[v0]).alloc _
 have rb : Row W (w.heap.size + 1) 52 #[u0] := by rw [hW]; have := Row.new (w.alloc (.cells #[v0] 52)) 52 #[u0]; simpa using this
 have bel : Below w.heap.size w W := by rw [hW]; exact ((Below.refl _ _).alloc (Nat.le_refl _) _).alloc (by simp) _
 have HW := hid hW
 have G0 := hid g0
 have G0' := hid g0'
 have Z0 : Hid (sz sInt64SS d ≤ 1048576) := hid (hz)
 clear hW hz h h' g0 g0'
 go_enter Tryz.func37, Tryz.ntmps37
 go_wp2_with fail
 rw [← HW.out]
 refine (eqK_Int64SS _ _ _ W (G0.out.next bel) (G0'.out.next bel) Z0.out).mono ?_
 rintro e w1 ⟨rfl, bb⟩
 replace ra := ra.next bb
 replace rb := rb.next bb
 replace bel := next_trans bel bb
 clear bb
 have F : Yes w (.returned (.bool true)) w1 := ⟨rfl, bel⟩
 have HF := hid F
 clear F ra rb bel
 go_wp2
 go_ret
 exact HF.out
set_option maxHeartbeats 2000000 in
theorem markK_Subst (v0 : Value) (d : Dat sSubst) (k : Int) (F : List Nat) (w : World) (h : Ow w sSubst [v0] d F) (hF : F.Nodup) (hz : sz sSubst d ≤ 1048576) (hk0 : 0 ≤ k) (hk : k + (cntv sSubst d : Int) ≤ 1099511627776) :
  Calls Tryz.prog 40 #[.agg #[v0], .int .i64 k] w (AnsMarkF w sSubst [v0] d k F) := by
 have hlt := h.lt
 have o0 := h
 obtain ⟨z0, hz0⟩ : ∃ z, cntv sInt64SS d = z := ⟨_, rfl⟩
 have hc : (cntv sSubst d : Int) = (z0 : Int) := by rw [← hz0]; try rfl
 have Z0 : Hid (sz sInt64SS d ≤ 1048576) := hid (hz)
 have HZ0 := hid hz0
 have HC := hid hc
 rw [hc] at hk
 obtain ⟨W, hW⟩ : ∃ W, W = w.alloc (.cells #[v0] 52) := ⟨_, rfl⟩
 have r : Row W w.heap.size 52 #[v0] := by rw [hW]; exact Row.new _ _ _
 have bel : Below w.heap.size w W := by rw [hW]; exact (Below.refl _ _).alloc (Nat.le_refl _) _
 replace o0 := o0.next bel
 have nb0 : w.heap.size ∉ F := fun hb => by have := hlt _ hb; omega
 have sub0 : ∀ x ∈ F, x ∈ F := fun x hb => hb
 have on : Only F w W := Only.of_below bel
 have HW := hid hW
 have HEF : Hid (F = F) := hid (by rfl)
 clear hW h hz hc bel hlt hz0 
 go_enter Tryz.func40, Tryz.ntmps40
 go_wp2_with fail
 rw [← HW.out]
 refine (markK_Int64SS _ _ k F _ o0 hF Z0.out (by omega) (by rw [HZ0.out]; omega)).mono ?_
 rintro e w1 ⟨he, o0, on0⟩
 rw [HZ0.out] at he
 replace r := Row.only r on0 nb0
 replace on := on.trans (on0.wider sub0)
 clear on0
 obtain ⟨k0, hk0⟩ : ∃ l, k + (z0 : Int) = l := ⟨_, rfl⟩
 rw [hk0] at he
 have l0 : 0 ≤ k0 := by omega
 have u0 : k0  ≤ 1099511627776 := by omega
 subst he
 have HK0 := hid hk0
 clear hk0
 have F1 : AnsMarkF w sSubst [v0] d k F (.returned (.int .i64 k0)) w1 := by
  refine ⟨congrArg (fun z => Ending.returned (.int .i64 z)) ?_, ?_, on⟩
  ·rw [HC.out]; have := HK0.out; omega
  ·skip
   exact o0
 have HF := hid F1
 clear F1 on r o0
 go_wp2
 go_ret
 exact HF.out
end kindsT
end
section
namespace und
open Go.RowKit base ints sig term termOk termFacts segs segsHelp shape kindsT fillMath gives filled substOk sub putMath ruleMath stepMath walkMath walkSpec
theorem rd_subst {w : World} {B : Nat} {v : Value} {ss : Dat sSubst} (h : Rd w B sSubst [v] ss) (hz : sz sSubst ss ≤ 1048576) : ∃ S m c, v = .slice S m c ∧ Segs w B S m ss ∧ tot ss ≤ 1048576 ∧ m ≤ 1048576 := by
 obtain ⟨A, n, c, e, hcap, hl, hc⟩ := h
 injection e with e
 have ht : tot ss = sz sSubst ss := by
  show ss.length + ((ss.take ss.length).map List.length).sum = ss.length + (ss.map (sz sI)).sum
  rw [List.take_length]
  congr 2
  refine List.map_congr_left fun x _ => ?_
  rw [sz_ints]
 have hl' : List.length ss = n := hl
 refine ⟨A, n, c, e, ⟨hl, fun hn => ?_⟩, by rw [ht]; exact hz, tot_len hl' (by rw [ht]; exact hz)⟩
 obtain ⟨b, off, eA, hb, hj⟩ := hc hn
 refine ⟨b, off, eA, hb, fun j hjn => ?_⟩
 obtain ⟨es, hel, hp, hr⟩ := hj j hjn
 obtain ⟨x, rfl⟩ := List.length_eq_one_iff.1 (show es.length = 1 from hel)
 obtain ⟨A', n', c', rfl, hs, hcp⟩ := rd_ints.1 hr
 have h0 := hp 0 (by simp)
 rw [show j * nc sI = j from Nat.mul_one j] at h0
 exact ⟨A', n', c', h0, hs, hcp⟩
section
variable {sg : List Int} {rs : List Rl} {k : Wk} {ss : List (List Int)}
end
end und
end
end Go.Proofs.YtlaloakegajheaaGreat
