/-
  MERGED: my texts StepImpl, AnyR, RuleImpl, RuleImplB, StepImplB, StepImplC, WalkImpl, WalkX, WalkSpecC, one behind the other, as they are. By an AI agent.
-/
import Derived.Test.YtmaamlnooepogaaGreatMFnExactWalkUnder7
import Derived.Deep.WholeRow
import Derived.Shelf.Abstract
section
/-
  CONTRACTS: impl's system.matchAt. Conditions: the system and the term are valid and read as data ('Rd'), the place and the rule are there. Written by a program of mine (mkstepimpl.py). By an AI agent.
-/
namespace Go.Proofs.YtmaamlnooepogaaGreat.stepImpl
open Go.RowKit Go.Proofs.YtmaamlnooepogaaGreat.base Go.Proofs.YtmaamlnooepogaaGreat.ints Go.Proofs.YtmaamlnooepogaaGreat.sig Go.Proofs.YtmaamlnooepogaaGreat.term Go.Proofs.YtmaamlnooepogaaGreat.termOk Go.Proofs.YtmaamlnooepogaaGreat.endAt Go.Proofs.YtmaamlnooepogaaGreat.marks Go.Proofs.YtmaamlnooepogaaGreat.app Go.Proofs.YtmaamlnooepogaaGreat.sym Go.Proofs.YtmaamlnooepogaaGreat.sub Go.Proofs.YtmaamlnooepogaaGreat.segs Go.Proofs.YtmaamlnooepogaaGreat.segsHelp Go.Proofs.YtmaamlnooepogaaGreat.kinds Go.Proofs.YtmaamlnooepogaaGreat.termFacts Go.Proofs.YtmaamlnooepogaaGreat.termMath Go.Proofs.YtmaamlnooepogaaGreat.posMath Go.Proofs.YtmaamlnooepogaaGreat.plainMath Go.Proofs.YtmaamlnooepogaaGreat.gives Go.Proofs.YtmaamlnooepogaaGreat.fillMath Go.Proofs.YtmaamlnooepogaaGreat.matchMath Go.Proofs.YtmaamlnooepogaaGreat.matchSpec Go.Proofs.YtmaamlnooepogaaGreat.whole Go.Proofs.YtmaamlnooepogaaGreat.takeMath Go.Proofs.YtmaamlnooepogaaGreat.take Go.Proofs.YtmaamlnooepogaaGreat.extended Go.Proofs.YtmaamlnooepogaaGreat.varsOf Go.Proofs.YtmaamlnooepogaaGreat.shape Go.Proofs.YtmaamlnooepogaaGreat.kindsR Go.Proofs.YtmaamlnooepogaaGreat.ruleMath Go.Proofs.YtmaamlnooepogaaGreat.ruleSpec Go.Proofs.YtmaamlnooepogaaGreat.stepMath Go.Proofs.YtmaamlnooepogaaGreat.walkMath Go.Proofs.YtmaamlnooepogaaGreat.stepSpec Go.Proofs.YtmaamlnooepogaaGreat.heldT
set_option maxRecDepth 100000

/-- a whole row is written, at a step of a region that draws -/
theorem wp_rowStore {P : Program} {o : Oper} {a : Act} {w : World} {K : Act → World → Prop} {Q : Exit → Act → World → Prop} (ty : TypeId) (x y : Operand) (ho : o.op = .store ty x y) (g : Nat) (cells old : Array Value) (t : TypeId) (hx : a.eval x = .pointer (some ⟨g, 0, none⟩)) (hy : a.eval y = .agg cells)
    (hg : w.heap[g]? = some (.cells old t (0, 0))) (hi : (P.info? ty).map (·.size) = some cells.size) (hs : old.size = cells.size) (h1 : cells.all (·.oneCell') = true) (h : K (a.put o.dst undef) (w.setRow g cells)) : Oper.wp P o a w K Q := by
  unfold Oper.wp execOp
  simp only [ho, hx, hy, Instr.storeAt, Instr.sureAddr, Sem.run_bind, Sem.run_pure, Result.andThen_ok, run_storeVar_row w g t ty old cells hg hi hs h1]
  exact h

theorem run_build0 {P : Program} {o : Oper} {a : Act} {w : World} (t : TypeId) (ho : o.op = .build t #[]) (z : Array Value) (hz : P.built t [] = some z) : (execOp a.eval o).run P w = .ok (.value (.agg z)) w := by
  unfold execOp
  simp [ho, Sem.run_bind, run_build w t #[] z hz, Result.andThen_ok]
/-- a block without numbers holds no list -/
theorem seg_down {w : World} {g n : Nat} {A : Option Addr} {xs : List Int} {T : TypeId} {cs : Array Value} (h : Seg w (g + 1) A n xs) (hr : Row w g T cs) (hc : ∀ (i : Nat) (x : Int), cs[i]? ≠ some (Value.int .i64 x)) : Seg w g A n xs := by
  refine ⟨h.1, fun hn => ?_⟩
  obtain ⟨b, off, e, hb, hcell⟩ := h.2 hn
  refine ⟨b, off, e, ?_, hcell⟩
  by_cases hbg : b = g
  · exfalso
    subst hbg
    have := hcell 0 hn
    rw [hr.cell] at this
    exact hc _ _ this
  · omega
theorem tab_down {w : World} {g : Nat} {rs : Array Value} {s : List (List Int)} {T : TypeId} {cs : Array Value} (h : TabR w (g + 1) rs s) (hr : Row w g T cs) (hc : ∀ (i : Nat) (x : Int), cs[i]? ≠ some (Value.int .i64 x)) : TabR w g rs s := by
  refine ⟨h.1, h.2.1, fun j hj => ?_⟩
  obtain ⟨A, n, c, e, hs, hcap⟩ := h.2.2 j hj
  exact ⟨A, n, c, e, seg_down hs hr hc, hcap⟩
theorem z24_nums (i : Nat) (x : Int) : z24[i]? ≠ some (Value.int .i64 x) := by
  unfold z24
  rw [Array.getElem?_replicate]
  split
  · intro e; injection e with e; cases e
  · intro e; cases e
theorem two_nums {A V : Option Addr} {n c q cv : Nat} (i : Nat) (x : Int) : (#[.slice A n c, .slice V q cv] : Array Value)[i]? ≠ some (Value.int .i64 x) := by
  match i with
  | 0 => intro e; injection e with e; cases e
  | 1 => intro e; injection e with e; cases e
  | i + 2 => intro e; simp at e

set_option maxHeartbeats 4000000 in
theorem matchAt (a v u : Value) (d : Dat sSystem) (t : List Int) (x k : Nat) (w : World) (h : Rd w w.heap.size sSystem [a, v] d) (ht : Rd w w.heap.size sI [u] t) (hz : sz sSystem d ≤ 1048576) (hok : rightB d.1 d.2 t = true) (hx : x < t.length) (hk : k < d.2.length) :
    Calls Tryz.prog 143 #[.agg #[a, v], u, .int .i64 (x : Int), .int .i64 (k : Int)] w (AnsExt w (mst d.1 t (d.2.getD k ([], [])).1 x s0)) := by
  obtain ⟨T, m, c, rfl, hT, hcT⟩ := rd_ints.1 ht
  obtain ⟨oks, okt⟩ := right_parts hok
  have hm : m ≤ 60 := by have := (term_len okt).2; have := hT.1; omega
  obtain ⟨A, n, cs, V, q, cv, rfl, rfl, hs, hc, hcv, hq, hn, hq1, hrs, hsg, hE⟩ := rd_sys h hz
  rw [hq] at hk
  obtain ⟨b, off, l, rr, y, rfl, hb, ey, cl, cr, hry⟩ := rd_at hrs (Below.refl _ _) hq hk
  have hzy : sz sRule y ≤ 1048576 := by rw [← ey.out]; exact hE k hk
  have okr : ruleOkB d.1 y = true := by rw [← ey.out]; exact sys_rule oks (by rw [hq]; exact hk)
  obtain ⟨P, pn, pc, P', pn', pc', rfl, rfl, sP, kP, sP', kP', hpn, hpn'⟩ := rd_rule hry hzy
  rw [ey.out]
  obtain ⟨W, hW, rA, rB, bel⟩ := box2 w 77 169 #[.slice A n cs, .slice (some ⟨b, off, none⟩) q cv] z24
  have HW := Lib.hid hW
  have okl := (rule_parts okr).1
  have hpn60 : pn ≤ 60 := by have := (term_len okl).2; have := sP.1; omega
  have LX := Lib.hid (extended A P T n cs pn pc m c d.1 y.1 t x z24 s0 W.drew (hs.next bel.drew) (sP.next bel.drew) (hT.next bel.drew) hn hpn60 hm hcT.1 hcT.2.1 (by rw [← hT.1]; exact hx) okl okt (TabR.new _ _) (fun j => by rw [s0_get]; simp))
  obtain ⟨R, hR⟩ : ∃ R, mst d.1 t y.1 x s0 = R := ⟨_, rfl⟩
  rw [hR] at LX ⊢
  have zA : w.heap.size < W.heap.size := rA.lt
  have zB : b < W.heap.size := by omega
  have K0 : W.cell? ⟨w.heap.size, 0, none⟩ = some (.slice A n cs) := rA.cell 0
  have K1 : W.cell? ⟨w.heap.size, 1, none⟩ = some (.slice (some ⟨b, off, none⟩) q cv) := rA.cell 1
  have K2 : W.cell? ⟨b, off + k * 2, none⟩ = some (.slice P pn pc) := (bel.cell (p := ⟨b, off + k * 2, none⟩) hb).trans cl
  have i0 : (0 : Int) ≤ (k : Int) := by omega
  have i1 : (k : Int) < (q : Int) := by omega
  have zW : W.heap.size = w.heap.size + 1 + 1 := by rw [hW]; simp
  have RA := Lib.hid rA
  have BEL := Lib.hid bel
  clear hW h hs hc hcv hq hrs hsg hE ht hT hcT oks okt okr okl sP kP sP' kP' hry hzy hx hok hz ey rA bel cl cr hR hpn hpn' hpn60 hq1
  go_enter Tryz.func143, Tryz.ntmps143
  go_upto_region 1 with (refine rowAlloc rfl 169 rfl z24 zero_b ?_)
  rw [← HW.out]
  refine AnyT.start (S := (fun w' => w'.cell? ⟨w.heap.size, 0, none⟩ = some (.slice A n cs) ∧ w'.cell? ⟨w.heap.size, 1, none⟩ = some (.slice (some ⟨b, off, none⟩) q cv) ∧ w'.cell? ⟨b, off + k * 2, none⟩ = some (.slice P pn pc))) (fun j => j == 15) (by kernel_rfl) ⟨K0, K1, K2⟩ (fun hHeld => ?_)
  refine AnyT.takeA (i := 0) (v := .agg z24) rfl (by kernel_rfl) (by kernel_rfl) (by kernel_rfl) (fun _ _ _ h => h) (Or.inl ⟨by rfl, fun w0 _ => run_build0 169 rfl z24 built_b⟩) ?_
  try simp only [Act.put, List.setIfInBounds_toArray, List.set_cons_zero, List.set_cons_succ, List.getElem_toArray, List.getElem_cons_zero, List.getElem_cons_succ]
  refine AnyT.takeA (i := 1) (v := ?_) rfl (by kernel_rfl) (by kernel_rfl) (by kernel_rfl) (fun _ _ _ h => h) (Or.inl ⟨by rfl, ?_⟩) ?_
  rotate_left 1
  · (intro w0 _; go_simp; try with_reducible rfl)
  try simp only [Act.put, List.setIfInBounds_toArray, List.set_cons_zero, List.set_cons_succ, List.getElem_toArray, List.getElem_cons_zero, List.getElem_cons_succ]
  refine AnyT.take (i := 2) (v := ?_) rfl (by kernel_rfl) (by kernel_rfl) (by kernel_rfl) (by kernel_rfl) (fun _ _ _ h => h) (Or.inl ⟨by rfl, ?_⟩) (by assumption) ?_
  rotate_left 1
  · (intro w0 hSw; (try dsimp only at hSw); go_simp; try with_reducible rfl)
  try simp only [Act.put, List.setIfInBounds_toArray, List.set_cons_zero, List.set_cons_succ, List.getElem_toArray, List.getElem_cons_zero, List.getElem_cons_succ]
  refine AnyT.takeA (i := 3) (v := ?_) rfl (by kernel_rfl) (by kernel_rfl) (by kernel_rfl) (fun _ _ _ h => h) (Or.inl ⟨by rfl, ?_⟩) ?_
  rotate_left 1
  · (intro w0 _; go_simp; try with_reducible rfl)
  try simp only [Act.put, List.setIfInBounds_toArray, List.set_cons_zero, List.set_cons_succ, List.getElem_toArray, List.getElem_cons_zero, List.getElem_cons_succ]
  refine AnyT.takeA (i := 4) (v := ?_) rfl (by kernel_rfl) (by kernel_rfl) (by kernel_rfl) (fun _ _ _ h => h) (Or.inl ⟨by rfl, ?_⟩) ?_
  rotate_left 1
  · (intro w0 _; go_simp; try with_reducible rfl)
  try simp only [Act.put, List.setIfInBounds_toArray, List.set_cons_zero, List.set_cons_succ, List.getElem_toArray, List.getElem_cons_zero, List.getElem_cons_succ]
  refine AnyT.takeA (i := 5) (v := ?_) rfl (by kernel_rfl) (by kernel_rfl) (by kernel_rfl) (fun _ _ _ h => h) (Or.inl ⟨by rfl, ?_⟩) ?_
  rotate_left 1
  · (intro w0 _; go_simp; try with_reducible rfl)
  try simp only [Act.put, List.setIfInBounds_toArray, List.set_cons_zero, List.set_cons_succ, List.getElem_toArray, List.getElem_cons_zero, List.getElem_cons_succ]
  refine AnyT.take (i := 6) (v := ?_) rfl (by kernel_rfl) (by kernel_rfl) (by kernel_rfl) (by kernel_rfl) (fun _ _ _ h => h) (Or.inl ⟨by rfl, ?_⟩) (by assumption) ?_
  rotate_left 1
  · (intro w0 hSw; (try dsimp only at hSw); go_simp; try with_reducible rfl)
  try simp only [Act.put, List.setIfInBounds_toArray, List.set_cons_zero, List.set_cons_succ, List.getElem_toArray, List.getElem_cons_zero, List.getElem_cons_succ]
  refine AnyT.takeA (i := 7) (v := ?_) rfl (by kernel_rfl) (by kernel_rfl) (by kernel_rfl) (fun _ _ _ h => h) (Or.inl ⟨by rfl, ?_⟩) ?_
  rotate_left 1
  · (intro w0 _; go_simp; try with_reducible rfl)
  try simp only [Act.put, List.setIfInBounds_toArray, List.set_cons_zero, List.set_cons_succ, List.getElem_toArray, List.getElem_cons_zero, List.getElem_cons_succ]
  refine AnyT.take (i := 8) (v := ?_) rfl (by kernel_rfl) (by kernel_rfl) (by kernel_rfl) (by kernel_rfl) (fun _ _ _ h => h) (Or.inl ⟨by rfl, ?_⟩) (by assumption) ?_
  rotate_left 1
  · (intro w0 hSw; (try dsimp only at hSw); go_simp; try with_reducible rfl)
  try simp only [Act.put, List.setIfInBounds_toArray, List.set_cons_zero, List.set_cons_succ, List.getElem_toArray, List.getElem_cons_zero, List.getElem_cons_succ]
  refine AnyT.takeA (i := 9) (v := ?_) rfl (by kernel_rfl) (by kernel_rfl) (by kernel_rfl) (fun _ _ _ h => h) (Or.inl ⟨by rfl, ?_⟩) ?_
  rotate_left 1
  · (intro w0 _; go_simp; try with_reducible rfl)
  try simp only [Act.put, List.setIfInBounds_toArray, List.set_cons_zero, List.set_cons_succ, List.getElem_toArray, List.getElem_cons_zero, List.getElem_cons_succ]
  refine AnyT.takeA (i := 10) (v := ?_) rfl (by kernel_rfl) (by kernel_rfl) (by kernel_rfl) (fun _ _ _ h => h) (Or.inl ⟨by rfl, ?_⟩) ?_
  rotate_left 1
  · (intro w0 _; go_simp; try with_reducible rfl)
  try simp only [Act.put, List.setIfInBounds_toArray, List.set_cons_zero, List.set_cons_succ, List.getElem_toArray, List.getElem_cons_zero, List.getElem_cons_succ]
  refine AnyT.takeA (i := 11) (v := ?_) rfl (by kernel_rfl) (by kernel_rfl) (by kernel_rfl) (fun _ _ _ h => h) (Or.inl ⟨by rfl, ?_⟩) ?_
  rotate_left 1
  · (intro w0 _; go_simp; try with_reducible rfl)
  try simp only [Act.put, List.setIfInBounds_toArray, List.set_cons_zero, List.set_cons_succ, List.getElem_toArray, List.getElem_cons_zero, List.getElem_cons_succ]
  refine AnyT.call (i := 12) (by kernel_rfl) rfl (fun K hK => ?_)
  try simp only [Act.put, List.setIfInBounds_toArray, List.set_cons_zero, List.set_cons_succ, List.getElem_toArray, List.getElem_cons_zero, List.getElem_cons_succ]
  rw [if_pos (by rfl)]
  go_simp
  (go_at_call 146; refine LX.out.mono ?_; rintro e w3 ⟨rs, rfl, tab, hsz, bb⟩; have K03 : w3.cell? ⟨w.heap.size, 0, none⟩ = some (.slice A n cs) := (bb.cell (p := ⟨w.heap.size, 0, none⟩) zA).trans K0; have K13 : w3.cell? ⟨w.heap.size, 1, none⟩ = some (.slice (some ⟨b, off, none⟩) q cv) := (bb.cell (p := ⟨w.heap.size, 1, none⟩) zA).trans K1; have K23 : w3.cell? ⟨b, off + k * 2, none⟩ = some (.slice P pn pc) := (bb.cell (p := ⟨b, off + k * 2, none⟩) zB).trans K2; have one := Lib.hid tab.one; have h24 := Lib.hid tab.1; have r3 := Lib.hid (Row.next (Row.drew rB) bb); go_wp2_with fail)
  refine hK.out _ _ (fun _ _ => ?_) (fun hKeep => ?_)
  · exact ⟨K03, K13, K23⟩
  replace hHeld := hKeep (by rfl) hHeld
  clear hK K hKeep
  try simp only [Act.put, List.setIfInBounds_toArray, List.set_cons_zero, List.set_cons_succ, List.getElem_toArray, List.getElem_cons_zero, List.getElem_cons_succ]
  refine AnyT.takeA (i := 13) (v := ?_) rfl (by kernel_rfl) (by kernel_rfl) (by kernel_rfl) (fun _ _ _ h => h) (Or.inl ⟨by rfl, ?_⟩) ?_
  rotate_left 1
  · (intro w0 _; go_simp; try with_reducible rfl)
  try simp only [Act.put, List.setIfInBounds_toArray, List.set_cons_zero, List.set_cons_succ, List.getElem_toArray, List.getElem_cons_zero, List.getElem_cons_succ]
  refine AnyT.takeA (i := 14) (v := ?_) rfl (by kernel_rfl) (by kernel_rfl) (by kernel_rfl) (fun _ _ _ h => h) (Or.inl ⟨by rfl, ?_⟩) ?_
  rotate_left 1
  · (intro w0 _; go_simp; try with_reducible rfl)
  try simp only [Act.put, List.setIfInBounds_toArray, List.set_cons_zero, List.set_cons_succ, List.getElem_toArray, List.getElem_cons_zero, List.getElem_cons_succ]
  refine AnyT.call (i := 15) (by kernel_rfl) rfl (fun K hK => ?_)
  try simp only [Act.put, List.setIfInBounds_toArray, List.set_cons_zero, List.set_cons_succ, List.getElem_toArray, List.getElem_cons_zero, List.getElem_cons_succ]
  rw [if_pos (by rfl)]
  refine wp_rowStore 169 _ _ rfl (w.heap.size + 1) rs z24 169 rfl rfl r3.out (by rw [h24.out]; exact size_b) (by rw [h24.out]; rfl) one.out ?_
  refine hK.out _ _ (fun h => by cases h) (fun _ => ?_)
  clear hK K
  try simp only [Act.put, List.setIfInBounds_toArray, List.set_cons_zero, List.set_cons_succ, List.getElem_toArray, List.getElem_cons_zero, List.getElem_cons_succ]
  refine AnyT.takeA (i := 16) (v := ?_) rfl (by kernel_rfl) (by kernel_rfl) (by kernel_rfl) (fun _ _ _ h => h) (Or.inl ⟨by rfl, ?_⟩) ?_
  rotate_left 1
  · (intro w0 _; go_simp; try with_reducible rfl)
  try simp only [Act.put, List.setIfInBounds_toArray, List.set_cons_zero, List.set_cons_succ, List.getElem_toArray, List.getElem_cons_zero, List.getElem_cons_succ]
  refine AnyT.done (by kernel_rfl) ?_ _
  have r1 := r3.out
  have r0 := RA.out.drew.next bb
  have bx : Below w.heap.size w w3 := BEL.out.drew.trans (bb.mono BEL.out.size)
  have tab2 : TabR w3 w.heap.size rs (R.getD s0) := tab_down (tab_down (by have := tab; rw [show W.drew.heap.size = W.heap.size from rfl, zW] at this; exact this) r1 z24_nums) r0 two_nums
  have F : AnsExt w R (.returned (.tuple #[.agg rs, .bool R.isSome])) (w3.setRow (w.heap.size + 1) rs) :=
    ⟨rs, rfl, tab2.keep (keep_of (grown_setRow w3 (w.heap.size + 1) rs) bx.size (fun k e => by injection e; omega)), hsz, Below.btw bx (Btw.of_grown (lo := w.heap.size) (hi := w.heap.size + 1 + 1) (grown_setRow w3 (w.heap.size + 1) rs) (fun k e => by injection e; omega)) (Nat.le_refl _) bx.size⟩
  have HF := Lib.hid F
  have H3 := Lib.hid (Row.setRow r1 rs)
  clear F r1 r0 bx tab2 tab bb
  go_wp2
  (try simp only [Exit.inBlock, Exit.then])
  refine bodyPost_ret (v := .tuple #[.agg rs, .bool R.isSome]) ?_ rfl HF.out
  exact results_row_tmp Tryz.results143 _ (w.heap.size + 1) 169 rs _ rfl H3.out Tryz.underlying169 rfl (by rw [h24.out]; exact size_b)
end Go.Proofs.YtmaamlnooepogaaGreat.stepImpl
end

section
/-
  CONTRACTS: slices.IndexFunc, slices.ContainsFunc over whatever test. Conditions: the slice reads as data ("Rd"), at most 1048576 elements. Written by a program of mine (mkany.py). By an AI agent.
-/
namespace Go.Proofs.YtmaamlnooepogaaGreat.anyR
open Go.RowKit Go.Proofs.YtmaamlnooepogaaGreat.base Go.Proofs.YtmaamlnooepogaaGreat.ints Go.Proofs.YtmaamlnooepogaaGreat.sig Go.Proofs.YtmaamlnooepogaaGreat.segs Go.Proofs.YtmaamlnooepogaaGreat.varsOf Go.Proofs.YtmaamlnooepogaaGreat.shape Go.Proofs.YtmaamlnooepogaaGreat.kindsR Go.Proofs.YtmaamlnooepogaaGreat.ruleMath
set_option maxRecDepth 100000

theorem any_of {α : Type} [Inhabited α] {f : α → Bool} {xs : List α} {k : Nat} {x z : α} (hk : k < xs.length) (ex : xs.getD k z = x) (h : f x = true) : xs.any f = true := by
  rw [List.any_eq_true]
  refine ⟨xs[k], List.getElem_mem hk, ?_⟩
  have : xs.getD k z = xs[k] := by simp [List.getD, hk]
  rw [← this, ex]; exact h
theorem none_of {α : Type} {f : α → Bool} {xs : List α} {z : α} (h : ∀ j, j < xs.length → f (xs.getD j z) = false) : xs.any f = false := by
  rw [List.any_eq_false]
  intro x hx
  obtain ⟨i, hi, rfl⟩ := List.getElem_of_mem hx
  have := h i hi
  simpa [List.getD, hi] using this
theorem mem_at {α : Type} {xs : List α} {k : Nat} {x z : α} (hk : k < xs.length) (ex : xs.getD k z = x) : x ∈ xs := by
  have : xs.getD k z = xs[k] := by simp [List.getD, hk]
  rw [← ex, this]; exact List.getElem_mem hk

/-- function g tests f on what lies in xs, as long as what lies in w lies -/
def TestsI (g : Nat) (fa lb : Array Value) (w : World) (xs : List Int) (f : Int → Bool) : Prop := ∀ (W : World) (x : Int), Below w.heap.size w W → x ∈ xs → Calls Tryz.prog g (fa ++ #[.int .i64 x] ++ lb) W (AnsB W (f x))
def AnsIxI (w : World) (f : Int → Bool) (xs : List Int) (e : Ending) (w' : World) : Prop := ∃ z : Int, e = .returned (.int .i64 z) ∧ -1 ≤ z ∧ z ≤ 1048576 ∧ decide (0 ≤ z) = xs.any f ∧ Below w.heap.size w w'
def HeadIxI (w : World) (n : Nat) (f : Int → Bool) (xs : List Int) (i : Value) (wr : World) : Prop := ∃ k : Nat, k ≤ n ∧ i = .int .i64 k ∧ (∀ j, j < k → f (xs.getD j 0) = false) ∧ Below w.heap.size w wr

set_option maxHeartbeats 2000000 in
theorem indexFuncI (g : Nat) (fa lb : Array Value) (eg : ∀ args w, (callFunc g args).run Tryz.prog w = .ok (.enter g args) w) (f : Int → Bool) (A : Option Addr) (n c : Nat) (xs : List Int) (w : World) (hT : TestsI g fa lb w xs f)
    (h : Rd w w.heap.size sI [.slice A n c] xs) (hl : xs.length = n) (hn : n ≤ 1048576) :
    Calls Tryz.prog 140 #[.slice A n c, .func (.func g) fa lb] w (AnsIxI w f xs) := by
  have HL := Lib.hid hl
  have HK := Lib.hid hT
  have HR := Lib.hid h
  have HH : Hid (HeadIxI w n f xs (.int .i64 0) w) := Lib.hid ⟨0, Nat.zero_le _, rfl, fun j hj => absurd hj (Nat.not_lt_zero _), Below.refl _ _⟩
  clear hT h hl
  go_enter Tryz.func140, Tryz.ntmps140
  go_wp2_with fail
  go_loopw [8] (fun i wr => HeadIxI w n f xs i wr) (fun i _ => n - (intOf i).toNat)
  case atStart => exact HH.out
  case round =>
    obtain ⟨k, hk, rfl, hlow, hb⟩ := hrel
    have HLOW := Lib.hid hlow
    clear hlow HH
    by_cases hlt : k < n
    · have hkD : k < xs.length := by rw [HL.out]; exact hlt
      obtain ⟨b, off, x, rfl, hbB, hx0, ex⟩ := HR.out.seg.spot hlt
      have hx : wr.cell? ⟨b, off + k, none⟩ = some (.int .i64 x) := (hb.cell (p := ⟨b, off + k, none⟩) hbB).trans hx0
      have hcall := HK.out wr x hb (mem_at hkD ex.out)
      obtain ⟨v, hv⟩ : ∃ v, f x = v := ⟨_, rfl⟩
      rw [hv] at hcall
      have HV := Lib.hid hv
      have HC := Lib.hid hcall
      have i0 : (0 : Int) ≤ (k : Int) := by omega
      have i1 : (k : Int) < (n : Int) := by omega
      clear hv hcall
      cases v with
      | true =>
        go_wp2_with (first
          | (go_at_fn g; refine HC.out.mono ?_; rintro e w1 ⟨rfl, bb⟩))
        have F : AnsIxI w f xs (.returned (.int .i64 (k : Int))) w1 := ⟨k, rfl, by omega, by omega, by rw [decide_eq_true (by omega)]; exact (any_of hkD ex.out HV.out).symm, next_trans hb bb⟩
        have HF := Lib.hid F
        clear F bb hb HC
        go_wp2
        go_ret
        exact HF.out
      | false =>
        go_wp2_with (first
          | (go_at_fn g; refine HC.out.mono ?_; rintro e w1 ⟨rfl, bb⟩))
        have S1 : HeadIxI w n f xs (.int .i64 ((k : Int) + 1)) w1 := ⟨k + 1, hlt, by simp, fun j hj => by
          by_cases e : j = k
          · rw [e, ex.out]; exact HV.out
          · exact HLOW.out j (by omega), next_trans hb bb⟩
        have HS1 := Lib.hid S1
        clear S1 bb hb HC
        go_wp2
        go_roundw
        case rel => exact HS1.out
        case measure => simp [intOf]; omega
    · have F : AnsIxI w f xs (.returned (.int .i64 (-1))) wr := ⟨-1, rfl, by omega, by omega, (none_of (fun j hj => HLOW.out j (by rw [HL.out] at hj; omega))).symm, hb⟩
      have HF := Lib.hid F
      clear F hb
      go_wp2
      go_ret
      exact HF.out
theorem containsFuncI (g : Nat) (fa lb : Array Value) (eg : ∀ args w, (callFunc g args).run Tryz.prog w = .ok (.enter g args) w) (f : Int → Bool) (A : Option Addr) (n c : Nat) (xs : List Int) (w : World) (hT : TestsI g fa lb w xs f)
    (h : Rd w w.heap.size sI [.slice A n c] xs) (hl : xs.length = n) (hn : n ≤ 1048576) :
    Calls Tryz.prog 128 #[.slice A n c, .func (.func g) fa lb] w (AnsB w (xs.any f)) := by
  have L := Lib.hid (indexFuncI g fa lb eg f A n c xs w hT h hl hn)
  clear h hl hT
  go_enter Tryz.func128, Tryz.ntmps128
  go_wp2_with fail
  refine L.out.mono ?_
  rintro e w' ⟨z, rfl, h1, h2, hz, bb⟩
  have HZ := Lib.hid hz
  have HB := Lib.hid bb
  clear hz L bb
  go_wp2
  go_ret
  exact ⟨by rw [← HZ.out]; rfl, HB.out⟩

/-- function g tests f on what lies in xs, as long as what lies in w lies -/
def TestsRule (g : Nat) (fa lb : Array Value) (w : World) (xs : List (Dat sRule)) (f : Dat sRule → Bool) : Prop := ∀ (W : World) (l r : Value) (x : Dat sRule), Below w.heap.size w W → x ∈ xs → Rd W W.heap.size sRule [l, r] x → Calls Tryz.prog g (fa ++ #[.agg #[l, r]] ++ lb) W (AnsB W (f x))
def AnsIxRule (w : World) (f : Dat sRule → Bool) (xs : List (Dat sRule)) (e : Ending) (w' : World) : Prop := ∃ z : Int, e = .returned (.int .i64 z) ∧ -1 ≤ z ∧ z ≤ 1048576 ∧ decide (0 ≤ z) = xs.any f ∧ Below w.heap.size w w'
def HeadIxRule (w : World) (n : Nat) (f : Dat sRule → Bool) (xs : List (Dat sRule)) (i : Value) (wr : World) : Prop := ∃ k : Nat, k ≤ n ∧ i = .int .i64 k ∧ (∀ j, j < k → f (xs.getD j (dft sRule)) = false) ∧ Below w.heap.size w wr

end Go.Proofs.YtmaamlnooepogaaGreat.anyR
end

section
/-
  CONTRACTS: slices.Contains at []int64, impl.RuleOk and its closure, impl.systemOf, system.some, system.defines and its closure. Conditions: the arguments read as data ('Rd'), at most 1048576 numbers. By an AI agent.
-/
namespace Go.Proofs.YtmaamlnooepogaaGreat.ruleImpl
open Go.RowKit Go.Proofs.YtmaamlnooepogaaGreat.base Go.Proofs.YtmaamlnooepogaaGreat.ints Go.Proofs.YtmaamlnooepogaaGreat.sig Go.Proofs.YtmaamlnooepogaaGreat.term Go.Proofs.YtmaamlnooepogaaGreat.termOk Go.Proofs.YtmaamlnooepogaaGreat.marks Go.Proofs.YtmaamlnooepogaaGreat.app Go.Proofs.YtmaamlnooepogaaGreat.sym Go.Proofs.YtmaamlnooepogaaGreat.segs Go.Proofs.YtmaamlnooepogaaGreat.termFacts Go.Proofs.YtmaamlnooepogaaGreat.varsMath Go.Proofs.YtmaamlnooepogaaGreat.varsOf Go.Proofs.YtmaamlnooepogaaGreat.rename Go.Proofs.YtmaamlnooepogaaGreat.same Go.Proofs.YtmaamlnooepogaaGreat.count Go.Proofs.YtmaamlnooepogaaGreat.linear Go.Proofs.YtmaamlnooepogaaGreat.shape Go.Proofs.YtmaamlnooepogaaGreat.kindsR Go.Proofs.YtmaamlnooepogaaGreat.ruleMath Go.Proofs.YtmaamlnooepogaaGreat.ruleSpec Go.Proofs.YtmaamlnooepogaaGreat.anyR
set_option maxRecDepth 100000

theorem containsI (A : Option Addr) (n c : Nat) (xs : List Int) (x : Int) (w : World) (h : Seg w w.heap.size A n xs) (hn : n ≤ 1048576) :
    Calls Tryz.prog 127 #[.slice A n c, .int .i64 x] w fun e w' => w = w' ∧ e = .returned (.bool (decide (x ∈ xs))) := by
  have L := Lib.hid (indexOf A n c xs x w h hn)
  clear h
  go_enter Tryz.func127, Tryz.ntmps127
  go_wp2_with fail
  refine L.out.mono ?_
  rintro e w' ⟨rfl, rfl⟩
  have E : decide (0 ≤ indexI xs x) = decide (x ∈ xs) := decide_eq_decide.2 (by unfold indexI; split <;> simp_all)
  have HE := Lib.hid E
  clear L E
  generalize indexI xs x = z at *
  go_wp2
  go_ret
  exact ⟨rfl, by rw [← HE.out]; rfl⟩

set_option maxHeartbeats 1000000 in
/-- the closure of RuleOk: a variable that L lacks -/
theorem ruleNew (g : Nat) (A1 : Option Addr) (n1 c1 : Nat) (r : Value) (t : List Int) (x : Int) (W : World) (hr : Row W g 125 #[.slice A1 n1 c1, r]) (h : Seg W W.heap.size A1 n1 t) (hn : n1 ≤ 1048576) :
    Calls Tryz.prog 126 #[.int .i64 x, .pointer (some ⟨g, 0, none⟩)] W (AnsB W (newB t x)) := by
  have L := Lib.hid (containsI A1 n1 c1 t x W h hn)
  have c0 : W.cell? ⟨g, 0, none⟩ = some (.slice A1 n1 c1) := hr.cell 0
  clear h hr
  by_cases hx : x < 0
  · have hd : decide (x < 0) = true := decide_eq_true hx
    have E : (!decide (x ∈ t)) = newB t x := by unfold newB; by_cases h : x ∈ t <;> simp [h, hx]
    have HE := Lib.hid E
    clear E
    go_enter Tryz.func126, Tryz.ntmps126
    go_wp2_with fail
    refine L.out.mono ?_
    rintro e w' ⟨rfl, rfl⟩
    have F : AnsB W (newB t x) (.returned (.bool (!decide (x ∈ t)))) W := ⟨by rw [HE.out], Below.refl _ _⟩
    have HF := Lib.hid F
    clear L F
    generalize decide (x ∈ t) = z at *
    go_wp2
    go_ret
    exact HF.out
  · have hd : decide (x < 0) = false := decide_eq_false hx
    have F : AnsB W (newB t x) (.returned (.bool false)) W := ⟨by unfold newB; rw [decide_eq_false (fun h => hx h.1)], Below.refl _ _⟩
    have HF := Lib.hid F
    clear F L
    go_enter Tryz.func126, Tryz.ntmps126
    go_wp2
    go_ret
    exact HF.out

theorem rule_all {sg : List Int} {d : Rl} (h1 : termOkB sg d.1 = true) (h2 : termOkB sg d.2 = true) (h0 : ¬ hd d.1 < 0) : ruleOkB sg d = !d.2.any (newB d.1) := by
  unfold ruleOkB; rw [h1, h2, decide_eq_false h0]; rfl

set_option maxHeartbeats 4000000 in
theorem implRuleOk (a l r : Value) (sg : List Int) (d : Dat sRule) (w : World) (h : Rd w w.heap.size sI [a] sg) (h' : Rd w w.heap.size sRule [l, r] d) (hz : sz sI sg ≤ 1048576) (hz' : sz sRule d ≤ 1048576) :
    Calls Tryz.prog 97 #[.agg #[a], .agg #[l, r]] w (AnsB w (ruleOkB sg d)) := by
  have g1 := (parts_Rule h').2
  obtain ⟨A, n, c, rfl, hs, hc⟩ := rd_ints.1 h
  have hn := len_ints hs.1 hz
  obtain ⟨A1, n1, c1, A2, n2, c2, rfl, rfl, s1, k1, s2, k2, hn1, hn2⟩ := rd_rule h' hz'
  obtain ⟨W, hW, rA, rR, bel⟩ := box2 w 26 125 #[.slice A n c] #[.slice A1 n1 c1, .slice A2 n2 c2]
  have HW := Lib.hid hW
  have HL1 := Lib.hid s1.1
  have HL2 := Lib.hid s2.1
  have L1 := Lib.hid (implTermOk A A1 n c n1 c1 sg d.1 W (hs.next bel) (s1.next bel) hn hn1)
  have L2 := Lib.hid (fun (w1 : World) (bb : Below w.heap.size w w1) => implTermOk A A2 n c n2 c2 sg d.2 w1 (hs.next bb) (s2.next bb) hn hn2)
  have LC := Lib.hid (fun (w1 : World) (bb : Below w.heap.size w w1) (hr : Row w1 (w.heap.size + 1) 125 #[.slice A1 n1 c1, .slice A2 n2 c2]) => containsFuncI 126 #[] #[.pointer (some ⟨w.heap.size + 1, 0, none⟩)] (fun _ _ => rfl) (newB d.1) A2 n2 c2 d.2 w1
    (fun W x hW _ => ruleNew (w.heap.size + 1) A1 n1 c1 (.slice A2 n2 c2) d.1 x W (hr.next hW) (s1.next (next_trans bb hW)) hn1) (g1.next bb) s2.1 hn2)
  clear hW h h' hz hz' hs hc k1 k2 g1
  cases ok1 : termOkB sg d.1 with
  | false =>
    have HS := Lib.hid ok1
    clear ok1 s1 s2
    go_enter Tryz.func97, Tryz.ntmps97
    go_wp2_with fail
    rw [← HW.out]
    refine L1.out.mono ?_
    rintro e w1 ⟨he, bb⟩
    rw [HS.out] at he
    subst he
    have F := Lib.hid (ansB (b := ruleOkB sg d) (a := false) (by rw [rule_noL HS.out]) (next_trans bel bb))
    clear bb bel rA rR
    go_wp2
    go_ret
    exact F.out
  | true =>
    have hp1 := (term_len ok1).1
    rw [s1.1] at hp1
    obtain ⟨b, off, x, rfl, hbB, hx, ex⟩ := s1.spot (k := 0) (by omega)
    have HS := Lib.hid ok1
    have EX := Lib.hid (show hd d.1 = x from ex.out)
    have i0 : (0 : Int) < (n1 : Int) := by omega
    clear ok1 ex
    go_enter Tryz.func97, Tryz.ntmps97
    go_wp2_with fail
    rw [← HW.out]
    refine L1.out.mono ?_
    rintro e w1 ⟨he, bb⟩
    rw [HS.out] at he
    subst he
    replace rA := rA.next bb
    replace rR := rR.next bb
    replace bel := next_trans bel bb
    have cA : w1.cell? ⟨w.heap.size, 0, none⟩ = some (.slice A n c) := rA.cell 0
    have cR : w1.cell? ⟨w.heap.size + 1, 1, none⟩ = some (.slice A2 n2 c2) := rR.cell 1
    clear bb L1
    go_wp2_with fail
    refine (L2.out w1 bel).mono ?_
    cases ok2 : termOkB sg d.2 with
    | false =>
      have HS2 := Lib.hid ok2
      clear ok2
      rintro e w2 ⟨he, bb⟩
      rw [HS2.out] at he
      subst he
      have F := Lib.hid (ansB (b := ruleOkB sg d) (a := false) (by rw [rule_noR HS2.out]) (next_trans bel bb))
      clear bb bel rA rR cA cR s1 s2
      go_wp2
      go_ret
      exact F.out
    | true =>
      have HS2 := Lib.hid ok2
      clear ok2
      rintro e w2 ⟨he, bb⟩
      rw [HS2.out] at he
      subst he
      replace rR := rR.next bb
      replace bel := next_trans bel bb
      have cR0 : w2.cell? ⟨w.heap.size + 1, 0, none⟩ = some (.slice (some ⟨b, off, none⟩) n1 c1) := rR.cell 0
      have cX : w2.cell? ⟨b, off, none⟩ = some (.int .i64 x) := by have := (bel.cell (p := ⟨b, off + 0, none⟩) hbB).trans hx; simpa using this
      clear bb rA cA cR L2
      by_cases hneg : x < 0
      · have F := Lib.hid (ansB (b := ruleOkB sg d) (a := false) (by rw [rule_var (by rw [EX.out]; exact hneg)]) bel)
        have hdx : decide (x < 0) = true := decide_eq_true hneg
        clear bel rR s1 s2 LC
        go_wp2
        go_ret
        exact F.out
      · have hdx : decide (x < 0) = false := decide_eq_false hneg
        have cR1 : w2.cell? ⟨w.heap.size + 1, 1, none⟩ = some (.slice A2 n2 c2) := rR.cell 1
        have LC2 := Lib.hid (LC.out w2 bel rR)
        have hmf : ∀ (fn : Fn) (first cap : Array Value) (w : World), (Instr.makeFunc fn first cap).run Tryz.prog w = .ok (.func fn first cap) w := fun _ _ _ _ => rfl
        have E := Lib.hid (rule_all HS.out HS2.out (by rw [EX.out]; exact hneg))
        clear LC s1 s2
        go_wp2_with fail
        refine LC2.out.mono ?_
        obtain ⟨z, hzz⟩ : ∃ z, d.2.any (newB d.1) = z := ⟨_, rfl⟩
        rw [hzz] at E
        rintro e w3 ⟨he, bb⟩
        rw [hzz] at he
        subst he
        have F := Lib.hid (ansB (b := ruleOkB sg d) (a := !z) E.out.symm (next_trans bel bb))
        clear bb bel rR cR0 cR1 cX LC2 E hzz
        go_wp2
        go_ret
        exact F.out
end Go.Proofs.YtmaamlnooepogaaGreat.ruleImpl
end

section
/-
  CONTRACTS: impl.systemOf, SystemOk, system.some, defines (and its closure), nests, collapses, Sig.repeats, Sig.duplicates (and its closure). Conditions: the arguments read as data ('Rd'), at most 1048576 numbers. By an AI agent.
-/
namespace Go.Proofs.YtmaamlnooepogaaGreat.ruleImpl
open Go.RowKit Go.Proofs.YtmaamlnooepogaaGreat.base Go.Proofs.YtmaamlnooepogaaGreat.ints Go.Proofs.YtmaamlnooepogaaGreat.sig Go.Proofs.YtmaamlnooepogaaGreat.term Go.Proofs.YtmaamlnooepogaaGreat.termOk Go.Proofs.YtmaamlnooepogaaGreat.marks Go.Proofs.YtmaamlnooepogaaGreat.app Go.Proofs.YtmaamlnooepogaaGreat.sym Go.Proofs.YtmaamlnooepogaaGreat.segs Go.Proofs.YtmaamlnooepogaaGreat.termFacts Go.Proofs.YtmaamlnooepogaaGreat.varsMath Go.Proofs.YtmaamlnooepogaaGreat.varsOf Go.Proofs.YtmaamlnooepogaaGreat.rename Go.Proofs.YtmaamlnooepogaaGreat.same Go.Proofs.YtmaamlnooepogaaGreat.count Go.Proofs.YtmaamlnooepogaaGreat.linear Go.Proofs.YtmaamlnooepogaaGreat.shape Go.Proofs.YtmaamlnooepogaaGreat.kindsR Go.Proofs.YtmaamlnooepogaaGreat.ruleMath Go.Proofs.YtmaamlnooepogaaGreat.ruleSpec Go.Proofs.YtmaamlnooepogaaGreat.anyR
set_option maxRecDepth 100000

/-- what systemOf answers -/
def sysV (a v : Value) (ok : Bool) : Value := if ok = true then .agg #[a, v] else .agg #[.slice none 0 0, .slice none 0 0]
def AnsSys (w : World) (a v : Value) (ok : Bool) (e : Ending) (w' : World) : Prop := e = .returned (.tuple #[sysV a v ok, .bool ok]) ∧ Below w.heap.size w w'
def HeadSO (w : World) (T T' : TypeId) (cs cs' : Array Value) (n : Nat) (f : Rl → Bool) (rs : List Rl) (i : Value) (wr : World) : Prop :=
  ∃ k : Nat, k ≤ n ∧ i = .int .i64 k ∧ (∀ j, j < k → f (rs.getD j ([], [])) = true) ∧ Row wr w.heap.size T cs ∧ Row wr (w.heap.size + 1) T' cs' ∧ Below w.heap.size w wr
theorem headSO_step {w wr : World} {T T' : TypeId} {cs cs' : Array Value} {n k : Nat} {f : Rl → Bool} {rs : List Rl} {x : Rl} (hk : k < n) (hlow : ∀ j, j < k → f (rs.getD j ([], [])) = true) (ex : Hid (rs.getD k ([], []) = x)) (h : f x = true) (hr : Row wr w.heap.size T cs) (hr' : Row wr (w.heap.size + 1) T' cs') (hb : Below w.heap.size w wr) : HeadSO w T T' cs cs' n f rs (.int .i64 ((k : Int) + 1)) wr :=
  ⟨k + 1, hk, by simp, fun j hj => by
    by_cases e : j = k
    · subst e; rw [ex.out]; exact h
    · exact hlow j (by omega), hr, hr', hb⟩

set_option maxHeartbeats 8000000 in
theorem systemOf (a v : Value) (d : Dat sSystem) (w : World) (h : Rd w w.heap.size sSystem [a, v] d) (hz : sz sSystem d ≤ 1048576) :
    Calls Tryz.prog 37 #[.agg #[a, v]] w (AnsSys w a v (sysOkB d.1 d.2)) := by
  have hzs := Lib.hid (sys_szs hz)
  obtain ⟨A, n, c, V, m, cv, rfl, rfl, hs, hc, hcv, hm, hn, hm1, hrs, hsg, hE⟩ := rd_sys h hz
  obtain ⟨W, hW, rA, rR, bel⟩ := box2 w 29 77 #[.slice A n c, .slice V m cv] #[.slice none 0 0, .slice none 0 0]
  have HW := Lib.hid hW
  have HM := Lib.hid hm
  have HE := Lib.hid hE
  have HR := Lib.hid hrs
  have L1 := Lib.hid (implSigOk A n c d.1 W (hs.next bel) hn)
  have LR := Lib.hid (fun (w1 : World) (l r : Value) (x : Dat sRule) (bb : Below w.heap.size w w1) (hx : Rd w1 w1.heap.size sRule [l, r] x) (hzx : sz sRule x ≤ 1048576) => implRuleOk (.slice A n c) l r d.1 x w1 (hsg.next bb) hx hzs.out.1 hzx)
  clear hW h hz hs hc hcv hm hE hrs hsg
  cases ok1 : sigOkB d.1 with
  | false =>
    have HS := Lib.hid ok1
    clear ok1
    go_enter Tryz.func37, Tryz.ntmps37
    go_wp2_with fail
    rw [← HW.out]
    refine L1.out.mono ?_
    rintro e w1 ⟨he, bb⟩
    rw [HS.out] at he
    subst he
    replace rR := rR.next bb
    replace bel := next_trans bel bb
    have y0 : w1.cell? ⟨w.heap.size + 1, 0, none⟩ = some (.slice none 0 0) := rR.cell 0
    have y1 : w1.cell? ⟨w.heap.size + 1, 1, none⟩ = some (.slice none 0 0) := rR.cell 1
    have f0 := rR.free 0
    have f1 := rR.free 1
    have r1 := rR.put 0 (.slice none 0 0)
    have y2 : (w1.setCell ⟨w.heap.size + 1, 0, none⟩ (.slice none 0 0)).cell? ⟨w.heap.size + 1, 1, none⟩ = some (.slice none 0 0) := r1.cell 1
    have f2 := r1.free 1
    have r2 := r1.put 1 (.slice none 0 0)
    have u0 : ((w1.setCell ⟨w.heap.size + 1, 0, none⟩ (.slice none 0 0)).setCell ⟨w.heap.size + 1, 1, none⟩ (.slice none 0 0)).cell? ⟨w.heap.size + 1, 0, none⟩ = some (.slice none 0 0) := r2.cell 0
    have u1 : ((w1.setCell ⟨w.heap.size + 1, 0, none⟩ (.slice none 0 0)).setCell ⟨w.heap.size + 1, 1, none⟩ (.slice none 0 0)).cell? ⟨w.heap.size + 1, 1, none⟩ = some (.slice none 0 0) := r2.cell 1
    have F : AnsSys w (.slice A n c) (.slice V m cv) (sysOkB d.1 d.2) (.returned (.tuple #[.agg #[.slice none 0 0, .slice none 0 0], .bool false])) ((w1.setCell ⟨w.heap.size + 1, 0, none⟩ (.slice none 0 0)).setCell ⟨w.heap.size + 1, 1, none⟩ (.slice none 0 0)) :=
      ⟨by rw [sys_sig HS.out]; rfl, (bel.setCell (by simp) _).setCell (by simp) _⟩
    have HF := Lib.hid F
    clear F bel rA rR bb r1 r2 LR
    go_wp2
    exact bodyPost_ret (v := .tuple #[.agg #[.slice none 0 0, .slice none 0 0], .bool false]) (by simp [results, Tryz.results37, go_sem, u0, u1]) rfl HF.out
  | true =>
    have HS := Lib.hid ok1
    clear ok1
    go_enter Tryz.func37, Tryz.ntmps37
    go_wp2_with fail
    rw [← HW.out]
    refine L1.out.mono ?_
    rintro e w1 ⟨he, bb⟩
    rw [HS.out] at he
    subst he
    replace rA := rA.next bb
    replace rR := rR.next bb
    replace bel := next_trans bel bb
    have cR : w1.cell? ⟨w.heap.size, 1, none⟩ = some (.slice V m cv) := rA.cell 1
    clear bb L1
    by_cases h12 : m ≤ 12
    · have H0 : Hid (HeadSO w 29 77 #[.slice A n c, .slice V m cv] #[.slice none 0 0, .slice none 0 0] m (ruleOkB d.1) d.2 (.int .i64 0) w1) := Lib.hid ⟨0, Nat.zero_le _, rfl, fun j hj => absurd hj (Nat.not_lt_zero _), rA, rR, bel⟩
      clear rA rR bel
      go_wp2_with fail
      go_loopw [20] (fun i wr => HeadSO w 29 77 #[.slice A n c, .slice V m cv] #[.slice none 0 0, .slice none 0 0] m (ruleOkB d.1) d.2 i wr) (fun i _ => m - (intOf i).toNat)
      case atStart => exact H0.out
      case round =>
        obtain ⟨k, hk, rfl, hlow, rr, rs, hb⟩ := hrel
        have HLOW := Lib.hid hlow
        clear hlow H0 cR
        have cA0 : wr.cell? ⟨w.heap.size, 0, none⟩ = some (.slice A n c) := rr.cell 0
        have cA1 : wr.cell? ⟨w.heap.size, 1, none⟩ = some (.slice V m cv) := rr.cell 1
        by_cases hlt : k < m
        · obtain ⟨b, off, l, r, x, rfl, hbB, ex, hc0, hc1, hx⟩ := rd_at HR.out hb HM.out hlt
          have hzx : sz sRule x ≤ 1048576 := by have := HE.out k hlt; rw [ex.out] at this; exact this
          obtain ⟨A1, n1, c1, A2, n2, c2, rfl, rfl, s1, k1, s2, k2, hn1, hn2⟩ := rd_rule hx hzx
          obtain ⟨w2, hw2⟩ : ∃ x, x = wr.alloc (.cells #[.slice A1 n1 c1, .slice A2 n2 c2] 125) := ⟨_, rfl⟩
          have bb : Below wr.heap.size wr w2 := by rw [hw2]; exact (Below.refl _ _).alloc (Nat.le_refl _) _
          have rx : Row w2 wr.heap.size 125 #[.slice A1 n1 c1, .slice A2 n2 c2] := by rw [hw2]; exact Row.new wr 125 #[.slice A1 n1 c1, .slice A2 n2 c2]
          have rr2 := rr.next bb
          have rs2 := rs.next bb
          have hb2 := next_trans hb bb
          have L := Lib.hid (LR.out w2 (.slice A1 n1 c1) (.slice A2 n2 c2) x hb2 ((hx.more hb.size).next bb) hzx)
          have x0 : w2.cell? ⟨wr.heap.size, 0, none⟩ = some (.slice A1 n1 c1) := rx.cell 0
          have x1 : w2.cell? ⟨wr.heap.size, 1, none⟩ = some (.slice A2 n2 c2) := rx.cell 1
          have x2 : w2.cell? ⟨w.heap.size, 0, none⟩ = some (.slice A n c) := rr2.cell 0
          have X0 := x0
          have X1 := x1
          have X2 := x2
          rw [hw2] at X0 X1 X2
          have HW2 := Lib.hid hw2
          have i0 : (0 : Int) ≤ (k : Int) := by omega
          have i1 : (k : Int) < (m : Int) := by omega
          clear hx hzx s1 s2 k1 k2 rr rs hb bb rx hw2
          go_wp2_with fail
          rw [← HW2.out]
          refine L.out.mono ?_
          cases ok : ruleOkB d.1 x with
          | false =>
            have HO := Lib.hid ok
            clear ok
            rintro e w3 ⟨he, bb⟩
            subst he
            have rR := rs2.next bb
            have bel := next_trans hb2 bb
            have y0 : w3.cell? ⟨w.heap.size + 1, 0, none⟩ = some (.slice none 0 0) := rR.cell 0
            have y1 : w3.cell? ⟨w.heap.size + 1, 1, none⟩ = some (.slice none 0 0) := rR.cell 1
            have f0 := rR.free 0
            have f1 := rR.free 1
            have r1 := rR.put 0 (.slice none 0 0)
            have y2 : (w3.setCell ⟨w.heap.size + 1, 0, none⟩ (.slice none 0 0)).cell? ⟨w.heap.size + 1, 1, none⟩ = some (.slice none 0 0) := r1.cell 1
            have f2 := r1.free 1
            have r2 := r1.put 1 (.slice none 0 0)
            have u0 : ((w3.setCell ⟨w.heap.size + 1, 0, none⟩ (.slice none 0 0)).setCell ⟨w.heap.size + 1, 1, none⟩ (.slice none 0 0)).cell? ⟨w.heap.size + 1, 0, none⟩ = some (.slice none 0 0) := r2.cell 0
            have u1 : ((w3.setCell ⟨w.heap.size + 1, 0, none⟩ (.slice none 0 0)).setCell ⟨w.heap.size + 1, 1, none⟩ (.slice none 0 0)).cell? ⟨w.heap.size + 1, 1, none⟩ = some (.slice none 0 0) := r2.cell 1
            have F : AnsSys w (.slice A n c) (.slice (some ⟨b, off, none⟩) m cv) (sysOkB d.1 d.2) (.returned (.tuple #[.agg #[.slice none 0 0, .slice none 0 0], .bool false])) ((w3.setCell ⟨w.heap.size + 1, 0, none⟩ (.slice none 0 0)).setCell ⟨w.heap.size + 1, 1, none⟩ (.slice none 0 0)) :=
              ⟨by rw [sys_bad (k := k) (by rw [HM.out]; exact hlt) (by rw [ex.out]; exact HO.out)]; rfl, (bel.setCell (by simp) _).setCell (by simp) _⟩
            have HF := Lib.hid F
            clear F bel rR bb r1 r2 LR rr2 rs2 hb2 x0 x1 x2 X0 X1 X2 cA0 cA1 hc0 hc1 L
            go_wp2
            exact bodyPost_ret (v := .tuple #[.agg #[.slice none 0 0, .slice none 0 0], .bool false]) (by simp [results, Tryz.results37, go_sem, u0, u1]) rfl HF.out
          | true =>
            have HO := Lib.hid ok
            clear ok
            rintro e w3 ⟨he, bb⟩
            subst he
            have F := Lib.hid (headSO_step (f := ruleOkB d.1) (w := w) hlt HLOW.out ex HO.out (rr2.next bb) (rs2.next bb) (next_trans hb2 bb))
            clear bb rr2 rs2 hb2 L x0 x1 x2 X0 X1 X2 cA0 cA1 hc0 hc1
            go_wp2
            go_roundw
            case rel => exact F.out
            case measure => simp [intOf]; omega
        · have OK := Lib.hid (show sysOkB d.1 d.2 = true from sys_good HS.out (by rw [HM.out]; exact h12) (fun j hj => HLOW.out j (by rw [HM.out] at hj; omega)))
          have y0 : wr.cell? ⟨w.heap.size + 1, 0, none⟩ = some (.slice none 0 0) := rs.cell 0
          have f0 := rs.free 0
          have r1 := rs.put 0 (.slice A n c)
          have y2 : (wr.setCell ⟨w.heap.size + 1, 0, none⟩ (.slice A n c)).cell? ⟨w.heap.size + 1, 1, none⟩ = some (.slice none 0 0) := r1.cell 1
          have f2 := r1.free 1
          have r2 := r1.put 1 (.slice V m cv)
          have u0 : ((wr.setCell ⟨w.heap.size + 1, 0, none⟩ (.slice A n c)).setCell ⟨w.heap.size + 1, 1, none⟩ (.slice V m cv)).cell? ⟨w.heap.size + 1, 0, none⟩ = some (.slice A n c) := r2.cell 0
          have u1 : ((wr.setCell ⟨w.heap.size + 1, 0, none⟩ (.slice A n c)).setCell ⟨w.heap.size + 1, 1, none⟩ (.slice V m cv)).cell? ⟨w.heap.size + 1, 1, none⟩ = some (.slice V m cv) := r2.cell 1
          have F : AnsSys w (.slice A n c) (.slice V m cv) (sysOkB d.1 d.2) (.returned (.tuple #[.agg #[.slice A n c, .slice V m cv], .bool true])) ((wr.setCell ⟨w.heap.size + 1, 0, none⟩ (.slice A n c)).setCell ⟨w.heap.size + 1, 1, none⟩ (.slice V m cv)) :=
            ⟨by rw [OK.out]; rfl, (hb.setCell (by simp) _).setCell (by simp) _⟩
          have HF := Lib.hid F
          clear F hb rr rs r1 r2 LR
          go_wp2
          exact bodyPost_ret (v := .tuple #[.agg #[.slice A n c, .slice V m cv], .bool true]) (by simp [results, Tryz.results37, go_sem, u0, u1]) rfl HF.out
    · have i1 : (12 : Int) < (m : Int) := by omega
      have y0 : w1.cell? ⟨w.heap.size + 1, 0, none⟩ = some (.slice none 0 0) := rR.cell 0
      have y1 : w1.cell? ⟨w.heap.size + 1, 1, none⟩ = some (.slice none 0 0) := rR.cell 1
      have f0 := rR.free 0
      have f1 := rR.free 1
      have r1 := rR.put 0 (.slice none 0 0)
      have y2 : (w1.setCell ⟨w.heap.size + 1, 0, none⟩ (.slice none 0 0)).cell? ⟨w.heap.size + 1, 1, none⟩ = some (.slice none 0 0) := r1.cell 1
      have f2 := r1.free 1
      have r2 := r1.put 1 (.slice none 0 0)
      have u0 : ((w1.setCell ⟨w.heap.size + 1, 0, none⟩ (.slice none 0 0)).setCell ⟨w.heap.size + 1, 1, none⟩ (.slice none 0 0)).cell? ⟨w.heap.size + 1, 0, none⟩ = some (.slice none 0 0) := r2.cell 0
      have u1 : ((w1.setCell ⟨w.heap.size + 1, 0, none⟩ (.slice none 0 0)).setCell ⟨w.heap.size + 1, 1, none⟩ (.slice none 0 0)).cell? ⟨w.heap.size + 1, 1, none⟩ = some (.slice none 0 0) := r2.cell 1
      have F : AnsSys w (.slice A n c) (.slice V m cv) (sysOkB d.1 d.2) (.returned (.tuple #[.agg #[.slice none 0 0, .slice none 0 0], .bool false])) ((w1.setCell ⟨w.heap.size + 1, 0, none⟩ (.slice none 0 0)).setCell ⟨w.heap.size + 1, 1, none⟩ (.slice none 0 0)) :=
        ⟨by rw [sys_long HM.out h12]; rfl, (bel.setCell (by simp) _).setCell (by simp) _⟩
      have HF := Lib.hid F
      clear F bel rA rR r1 r2 LR
      go_wp2
      exact bodyPost_ret (v := .tuple #[.agg #[.slice none 0 0, .slice none 0 0], .bool false]) (by simp [results, Tryz.results37, go_sem, u0, u1]) rfl HF.out

end Go.Proofs.YtmaamlnooepogaaGreat.ruleImpl
end

section
/-
  CONTRACTS: impl's bindings.look, system.hasRedex, reduced, stepAt, RedexAt, StepAt. Conditions: the system and the term read as data ('Rd'), at most 1048576 numbers; place and rule are int64. Written by a program of mine (mkstepimplb.py). By an AI agent.
-/
namespace Go.Proofs.YtmaamlnooepogaaGreat.stepImpl
open Go.RowKit Go.Proofs.YtmaamlnooepogaaGreat.base Go.Proofs.YtmaamlnooepogaaGreat.ints Go.Proofs.YtmaamlnooepogaaGreat.sig Go.Proofs.YtmaamlnooepogaaGreat.term Go.Proofs.YtmaamlnooepogaaGreat.termOk Go.Proofs.YtmaamlnooepogaaGreat.endAt Go.Proofs.YtmaamlnooepogaaGreat.inside Go.Proofs.YtmaamlnooepogaaGreat.marks Go.Proofs.YtmaamlnooepogaaGreat.app Go.Proofs.YtmaamlnooepogaaGreat.sym Go.Proofs.YtmaamlnooepogaaGreat.sub Go.Proofs.YtmaamlnooepogaaGreat.segs Go.Proofs.YtmaamlnooepogaaGreat.segsHelp Go.Proofs.YtmaamlnooepogaaGreat.kinds Go.Proofs.YtmaamlnooepogaaGreat.termFacts Go.Proofs.YtmaamlnooepogaaGreat.termMath Go.Proofs.YtmaamlnooepogaaGreat.posMath Go.Proofs.YtmaamlnooepogaaGreat.plainMath Go.Proofs.YtmaamlnooepogaaGreat.gives Go.Proofs.YtmaamlnooepogaaGreat.look Go.Proofs.YtmaamlnooepogaaGreat.fillMath Go.Proofs.YtmaamlnooepogaaGreat.matchMath Go.Proofs.YtmaamlnooepogaaGreat.matchSpec Go.Proofs.YtmaamlnooepogaaGreat.whole Go.Proofs.YtmaamlnooepogaaGreat.takeMath Go.Proofs.YtmaamlnooepogaaGreat.take Go.Proofs.YtmaamlnooepogaaGreat.extended Go.Proofs.YtmaamlnooepogaaGreat.varsOf Go.Proofs.YtmaamlnooepogaaGreat.shape Go.Proofs.YtmaamlnooepogaaGreat.kindsR Go.Proofs.YtmaamlnooepogaaGreat.ruleMath Go.Proofs.YtmaamlnooepogaaGreat.ruleSpec Go.Proofs.YtmaamlnooepogaaGreat.ruleImpl Go.Proofs.YtmaamlnooepogaaGreat.stepMath Go.Proofs.YtmaamlnooepogaaGreat.walkMath Go.Proofs.YtmaamlnooepogaaGreat.stepSpec Go.Proofs.YtmaamlnooepogaaGreat.heldT
set_option maxRecDepth 100000

/-! ### plain facts -/
theorem step_by {sg : List Int} {x : Rl} {t : List Int} {a : Nat} {L : Nat → List Int} (hx : ruleOkB sg x = true) (ht : termOkB sg t = true) (ha : a < t.length) (hL : Turns sg x.1 (subL sg t a) L) :
    stepO sg x t a = if (fillL L x.2).length ≤ 60 ∧ (putAt sg t (fillL L x.2) a).length ≤ 60 then some (putAt sg t (fillL L x.2) a) else none := by
  obtain ⟨h1, h2, h3, h4⟩ := rule_parts hx
  have hs := sub_ok ht ha
  obtain ⟨ss, hm, hg⟩ := turns_match h1 hs hL
  rw [match_yes h1 hs] at hm
  have g := gives_of h1 hs hm
  have e : fillL (givesL ss) x.2 = fillL L x.2 := fill_ext (fun y hy h0 => by
    have hy1 := h4 y hy h0
    show givesL ss (vr y) = L (vr y)
    rw [g.2 y hy1 h0]
    exact hg y hy1 h0)
  unfold stepO
  rw [hm]
  dsimp only
  rw [e]
/-- matched at a place: what the variables stand for -/
theorem at_turns {sg p t : List Int} {k : Nat} {s : List (List Int)} (h1 : termOkB sg p = true) (h2 : termOkB sg t = true) (h : mst sg t p k s0 = some s) : Turns sg p (subL sg t k) (givesL s) := by
  have hx : ∀ x ∈ p, -24 ≤ x := fun x hx => (term_mem h1 hx).1
  obtain ⟨⟨rest, e⟩, hv⟩ := mst_sound h2 h (by rfl) hx
  have hg : ∀ x ∈ p, x < 0 → givesL s (vr x) = s.getD (vr x) [] := fun x hx h0 => by
    have this : scan sg 1 (s.getD (vr x) []) = some (s.getD (vr x) []).length := hv x hx h0
    unfold givesL
    rw [if_neg ?_]
    intro e0
    have e1 : s.getD (vr x) [] = [] := List.length_eq_zero_iff.1 e0
    rw [e1] at this
    exact absurd this (by simp [scan])
  have ef : fillL (givesL s) p = fillL (fun i => s.getD i []) p := fill_ext fun x hx h0 => hg x hx h0
  refine ⟨?_, fun x hx h0 => by rw [hg x hx h0]; exact hv x hx h0⟩
  rw [ef]
  have a := scan_append (r := rest) (scan_fill (L := fun i => s.getD i []) (term_parts h1).2.2 hv)
  rw [← e] at a
  unfold subL
  rw [len1_eq a, e, List.take_left' rfl]
theorem reduce_by {sg : List Int} {x : Rl} {t : List Int} {a : Nat} {s : List (List Int)} (hx : ruleOkB sg x = true) (ht : termOkB sg t = true) (ha : a < t.length) (h : mst sg t x.1 a s0 = some s) :
    (stepO sg x t a).getD [] = put.putR sg t (fillL (givesL s) x.2) (a : Int) ∧ (stepO sg x t a).isSome = put.putB sg t (fillL (givesL s) x.2) (a : Int) := by
  obtain ⟨h1, h2, h3, h4⟩ := rule_parts hx
  obtain ⟨s1, s2, s3⟩ := term_parts ht
  have hT := at_turns h1 ht h
  have hth : thereB sg t (a : Int) = true := there_yes ht (by omega) (by omega)
  have hterm : termOkB sg (fillL (givesL s) x.2) = decide ((fillL (givesL s) x.2).length ≤ 60) := by
    by_cases hl : (fillL (givesL s) x.2).length ≤ 60
    · rw [decide_eq_true hl]
      exact term_mk s1 hl (scan_fill (term_parts h2).2.2 (fun y hy h0 => hT.2 y (h4 y hy h0) h0))
    · rw [decide_eq_false hl]
      cases e : termOkB sg (fillL (givesL s) x.2) with
      | false => rfl
      | true => exact absurd (term_len e).2 hl
  rw [step_by hx ht ha hT]
  unfold put.putR put.putB
  rw [hth, hterm, Bool.true_and, Int.toNat_natCast]
  unfold put.fitB
  have e1 : put.putI sg t (fillL (givesL s) x.2) a = putAt sg t (fillL (givesL s) x.2) a := rfl
  rw [e1]
  by_cases hl : (fillL (givesL s) x.2).length ≤ 60
  · by_cases hh : (putAt sg t (fillL (givesL s) x.2) a).length ≤ 60
    · rw [if_pos ⟨hl, hh⟩, decide_eq_true hl, decide_eq_true hh]; exact ⟨rfl, rfl⟩
    · rw [if_neg (fun h => hh h.2), decide_eq_true hl, decide_eq_false hh]; exact ⟨rfl, rfl⟩
  · rw [if_neg (fun h => hl h.1), decide_eq_false hl]; exact ⟨rfl, rfl⟩
theorem red_at {sg : List Int} {x : Rl} {t : List Int} {a : Nat} (hx : ruleOkB sg x = true) (ht : termOkB sg t = true) (ha : a < t.length) : (mst sg t x.1 a s0).isSome = redB sg x t a := by
  obtain ⟨h1, _⟩ := rule_parts hx
  rw [mst_at h1 ht ha]
  unfold redB instB
  rw [match_yes h1 (sub_ok ht ha)]

set_option maxHeartbeats 1000000 in
theorem lookB (cs : Array Value) (s : List (List Int)) (w : World) (htab : TabR w w.heap.size cs s) :
    Calls Tryz.prog 144 #[.agg cs] w fun e w' => ∃ g, e = .returned (.func (.func 111) #[] #[.pointer (some ⟨g, 0, none⟩)]) ∧ Row w' g 43 #[.slice (some ⟨w.heap.size, 0, none⟩) 24 24] ∧ Segs w' w'.heap.size (some ⟨w.heap.size, 0, none⟩) 24 s ∧ Below w.heap.size w w' ∧ w.heap.size ≤ g := by
  obtain ⟨W, hW⟩ : ∃ W, W = w.alloc (.cells cs 169) := ⟨_, rfl⟩
  have b0 : Below w.heap.size w W := by rw [hW]; exact (Below.refl _ _).alloc (Nat.le_refl _) _
  have r0 : Row W w.heap.size 169 cs := by rw [hW]; exact Row.new w _ _
  have s1 : Segs W W.heap.size (some ⟨w.heap.size, 0, none⟩) 24 s := (htab.below b0).segs r0 b0.size
  have HW := Lib.hid hW
  clear hW htab r0
  go_enter Tryz.func144, Tryz.ntmps144
  go_wp2_with (first
    | (refine rowBox rfl 169 _ rfl cs rfl ?_))
  rw [← HW.out]
  refine (lookupIn (some ⟨w.heap.size, 0, none⟩) 24 24 W).mono ?_
  rintro e w3 ⟨rfl, hw3⟩
  have b3 : Below W.heap.size W w3 := by rw [hw3]; exact (Below.refl _ _).alloc (Nat.le_refl _) _
  have r3 : Row w3 W.heap.size 43 #[.slice (some ⟨w.heap.size, 0, none⟩) 24 24] := by rw [hw3]; exact Row.new _ _ _
  have F := Lib.hid (show ∃ g, Ending.returned (.func (.func 111) #[] #[.pointer (some ⟨W.heap.size, 0, none⟩)]) = .returned (.func (.func 111) #[] #[.pointer (some ⟨g, 0, none⟩)]) ∧ Row w3 g 43 #[.slice (some ⟨w.heap.size, 0, none⟩) 24 24] ∧ Segs w3 w3.heap.size (some ⟨w.heap.size, 0, none⟩) 24 s ∧ Below w.heap.size w w3 ∧ w.heap.size ≤ g from ⟨_, rfl, r3, s1.next b3, next_trans b0 b3, b0.size⟩)
  clear hw3 b3 r3 s1 b0
  go_wp2
  go_ret
  exact F.out

/-- a whole row is loaded -/
theorem run_loadRow {P : Program} {o : Oper} {a : Act} {w : World} (ty : TypeId) (x : Operand) (ho : o.op = .load ty x) (g : Nat) (hx : a.eval x = .pointer (some ⟨g, 0, none⟩)) (t : TypeId) (cs : Array Value) (fz : Nat × Nat) (d : TypeDesc) (hg : w.heap[g]? = some (.cells cs t fz)) (hu : P.underlying ty = some d) (hd : (match d with | .struct _ | .array _ _ => true | _ => false) = true) (hi : (P.info? ty).map (·.size) = some cs.size) :
    (execOp a.eval o).run P w = .ok (.value (.agg cs)) w := by
  unfold execOp
  simp [ho, hx, Instr.loadAt, Instr.sureAddr, Sem.run_bind, Result.andThen_ok, run_loadVar_row w g t ty cs fz d hg hu hd hi]

set_option maxHeartbeats 4000000 in
theorem reduced (a v u : Value) (d : Dat sSystem) (t : List Int) (x k : Nat) (w : World) (h : Rd w w.heap.size sSystem [a, v] d) (ht : Rd w w.heap.size sI [u] t) (hz : sz sSystem d ≤ 1048576) (hok : rightB d.1 d.2 t = true) (hx : x < t.length) (hk : k < d.2.length) (hred : redB d.1 (d.2.getD k ([], [])) t x = true) :
    Calls Tryz.prog 131 #[.agg #[a, v], u, .int .i64 (x : Int), .int .i64 (k : Int)] w (AnsStep w (stepO d.1 (d.2.getD k ([], [])) t x)) := by
  obtain ⟨oks, okt⟩ := right_parts hok
  have h0 := h
  have ht0 := ht
  have hk0 := hk
  obtain ⟨T, m, c, rfl, hT, hcT⟩ := rd_ints.1 ht
  have hm : m ≤ 60 := by have := (term_len okt).2; have := hT.1; omega
  obtain ⟨A, n, cs, V, q, cv, rfl, rfl, hs, hc, hcv, hq, hn, hq1, hrs, hsg, hE⟩ := rd_sys h hz
  rw [hq] at hk
  obtain ⟨b, off, l, rr, y, rfl, hb, ey, cl, cr, hry⟩ := rd_at hrs (Below.refl _ _) hq hk
  have hzy : sz sRule y ≤ 1048576 := by rw [← ey.out]; exact hE k hk
  have okr : ruleOkB d.1 y = true := by rw [← ey.out]; exact sys_rule oks (by rw [hq]; exact hk)
  obtain ⟨P, pn, pc, P', pn', pc', rfl, rfl, sP, kP, sP', kP', hpn, hpn'⟩ := rd_rule hry hzy
  rw [ey.out] at hred ⊢
  obtain ⟨W, hW, rA, bel⟩ := box1 w 77 #[.slice A n cs, .slice (some ⟨b, off, none⟩) q cv]
  have HW := Lib.hid hW
  have okR := (rule_parts okr).2.1
  have hpn60 : pn' ≤ 60 := by have := (term_len okR).2; have := sP'.1; omega
  have LM := Lib.hid (matchAt _ _ _ d t x k W (h0.next bel) (ht0.next bel) hz hok hx hk0)
  rw [ey.out] at LM
  obtain ⟨s, hs0⟩ := Option.isSome_iff_exists.1 (show (mst d.1 t y.1 x s0).isSome = true by rw [red_at okr okt hx]; exact hred)
  rw [hs0] at LM
  have HRB := Lib.hid (reduce_by okr okt hx hs0)
  have zA0 : w.heap.size < W.heap.size := rA.lt
  have SS := Lib.hid (show Seg w w.heap.size A n d.1 ∧ Seg w w.heap.size T m t ∧ Seg w w.heap.size P' pn' y.2 ∧ m ≤ c ∧ c ≤ 9223372036854775807 from ⟨hs, hT, sP', hcT.1, hcT.2.1⟩)
  have HVS := Lib.hid (fun z (hz : z ∈ y.2) => (term_mem okR hz).1)
  have HFL := Lib.hid (fun (hM : ∀ i, (givesL s i).length ≤ 60) => (show (fillL (givesL s) y.2).length ≤ 1048576 by
    have h1 := fill_bound (L := givesL s) (t := y.2) (m := pn') (k := pn') (fun i => Nat.le_trans (hM i) (by omega)) sP'.1 hpn60
    rw [List.take_of_length_le (by rw [sP'.1]; exact Nat.le_refl _)] at h1
    omega))
  have K2w : w.cell? ⟨b, off + k * 2 + 1, none⟩ = some (.slice P' pn' pc') := cr
  have i0 : (0 : Int) ≤ (k : Int) := by omega
  have i1 : (k : Int) < (q : Int) := by omega
  have x1 : -9223372036854775808 ≤ (x : Int) := by omega
  have x2 : (x : Int) ≤ 9223372036854775807 := by have := hT.1; omega
  have BEL := Lib.hid bel
  have RA := Lib.hid rA
  clear hW h h0 ht ht0 hk0 hs hc hcv hq hrs hsg hE hT hcT oks okt okr okR sP kP sP' kP' hry hzy hx hok hz ey rA bel cl cr hs0 hpn hpn' hq1 hred
  go_enter Tryz.func131, Tryz.ntmps131
  go_wp2_with fail
  rw [← HW.out]
  refine LM.out.mono ?_
  rintro e w1 ⟨rs, rfl, tab, hsz, bb⟩
  have tab : TabR w1 W.heap.size rs s := tab
  have hsz : ∀ j, (s.getD j []).length ≤ 60 := hsz
  have h24 := Lib.hid tab.1
  have one := Lib.hid tab.one
  have HGV := Lib.hid (fun i => (show (givesL s i).length ≤ 60 by
    unfold givesL
    split
    · simp [vt]
    · exact hsz i))
  have TAB := Lib.hid tab
  have HB1 := Lib.hid bb
  clear LM tab hsz bb
  go_upto_region 2 with (first
    | (refine rowAlloc rfl 169 rfl z24 zero_b ?_)
    | (refine rowStore rfl 169 _ _ rfl w1.heap.size rs z24 169 rfl rfl (heap_alloc_new w1 _) (by rw [h24.out]; exact size_b) (by rw [h24.out]; rfl) one.out ?_; rw [World.setRow_alloc_new]))
  obtain ⟨w2, hw2⟩ : ∃ w2, w2 = w1.alloc (.cells rs 169) := ⟨_, rfl⟩
  rw [← hw2]
  have b12 : Below w1.heap.size w1 w2 := by rw [hw2]; exact (Below.refl _ _).alloc (Nat.le_refl _) _
  have b2 := next_trans HB1.out b12
  have zA : w.heap.size < w2.heap.size := Nat.lt_of_lt_of_le zA0 b2.size
  have zB : b < w2.heap.size := by omega
  have zC : w1.heap.size < w2.heap.size := by rw [hw2]; simp
  have rA2 := RA.out.next b2
  have bel2 := BEL.out.trans (b2.mono BEL.out.size)
  have K0 : w2.cell? ⟨w.heap.size, 0, none⟩ = some (.slice A n cs) := rA2.cell 0
  have K1 : w2.cell? ⟨w.heap.size, 1, none⟩ = some (.slice (some ⟨b, off, none⟩) q cv) := rA2.cell 1
  have K2 : w2.cell? ⟨b, off + k * 2 + 1, none⟩ = some (.slice P' pn' pc') := (bel2.cell (p := ⟨b, off + k * 2 + 1, none⟩) hb).trans K2w
  have K3 : w2.heap[w1.heap.size]? = some (.cells rs 169 (0, 0)) := by rw [hw2]; exact heap_alloc_new w1 _
  have LK := Lib.hid (lookB rs s w2.drew ((TAB.out.below (b12.mono HB1.out.size)).more (Nat.le_trans HB1.out.size b12.size)))
  have LFILL := Lib.hid (fun g (w3 : World) rg sg (bx : Below w2.drew.heap.size w2.drew w3) => fill 111 #[.pointer (some ⟨g, 0, none⟩)] (enters_of Tryz.func111 (by kernel_rfl) rfl) P' pn' pc' y.2 (givesL s) w3 (lookSubst g (some ⟨w2.heap.size, 0, none⟩) 24 24 s w3 rg sg (by omega)) (SS.out.2.2.1.next (bel2.drew.trans (bx.mono bel2.size))) hpn60 HVS.out (fun i => Nat.le_trans (HGV.out i) (by omega)))
  have LPUT := Lib.hid (fun O on oc (w4 : World) (bx : Below w2.drew.heap.size w2.drew w4) {lo : Nat} (oO : Own w4 lo (.slice O on oc) (fillL (givesL s) y.2)) => put.implPutAt A T O n cs m c on oc d.1 t (x : Int) (fillL (givesL s) y.2) w4 (SS.out.1.next (bel2.drew.trans (bx.mono bel2.size))) (SS.out.2.1.next (bel2.drew.trans (bx.mono bel2.size))) (Own.seg oO) hn (by omega) (by rw [Own.len oO]; exact HFL.out HGV.out) x1 x2 (own_cap oO) SS.out.2.2.2.1 SS.out.2.2.2.2)
  have BEL2 := Lib.hid bel2
  clear hw2 b12 b2 rA2 bel2 TAB BEL RA zA0
  refine AnyT.start (S := (fun w' => w'.cell? ⟨w.heap.size, 0, none⟩ = some (.slice A n cs) ∧ w'.cell? ⟨w.heap.size, 1, none⟩ = some (.slice (some ⟨b, off, none⟩) q cv) ∧ w'.cell? ⟨b, off + k * 2 + 1, none⟩ = some (.slice P' pn' pc') ∧ w'.heap[w1.heap.size]? = some (.cells rs 169 (0, 0)))) (fun _ => false) (by kernel_rfl) ⟨K0, K1, K2, K3⟩ (fun hHeld => ?_)
  refine AnyT.takeA (i := 0) (v := ?_) rfl (by kernel_rfl) (by kernel_rfl) (by kernel_rfl) (fun _ _ _ h => h) (Or.inl ⟨by rfl, ?_⟩) ?_
  rotate_left 1
  · (intro w0 _; go_simp; try with_reducible rfl)
  try simp only [Act.put, List.setIfInBounds_toArray, List.set_cons_zero, List.set_cons_succ, List.getElem_toArray, List.getElem_cons_zero, List.getElem_cons_succ]
  refine AnyT.take (i := 1) (v := ?_) rfl (by kernel_rfl) (by kernel_rfl) (by kernel_rfl) (by kernel_rfl) (fun _ _ _ h => h) (Or.inl ⟨by rfl, ?_⟩) (by assumption) ?_
  rotate_left 1
  · (intro w0 hSw; (try dsimp only at hSw); go_simp; try with_reducible rfl)
  try simp only [Act.put, List.setIfInBounds_toArray, List.set_cons_zero, List.set_cons_succ, List.getElem_toArray, List.getElem_cons_zero, List.getElem_cons_succ]
  refine AnyT.takeA (i := 2) (v := ?_) rfl (by kernel_rfl) (by kernel_rfl) (by kernel_rfl) (fun _ _ _ h => h) (Or.inl ⟨by rfl, ?_⟩) ?_
  rotate_left 1
  · (intro w0 _; go_simp; try with_reducible rfl)
  try simp only [Act.put, List.setIfInBounds_toArray, List.set_cons_zero, List.set_cons_succ, List.getElem_toArray, List.getElem_cons_zero, List.getElem_cons_succ]
  refine AnyT.takeA (i := 3) (v := ?_) rfl (by kernel_rfl) (by kernel_rfl) (by kernel_rfl) (fun _ _ _ h => h) (Or.inl ⟨by rfl, ?_⟩) ?_
  rotate_left 1
  · (intro w0 _; go_simp; try with_reducible rfl)
  try simp only [Act.put, List.setIfInBounds_toArray, List.set_cons_zero, List.set_cons_succ, List.getElem_toArray, List.getElem_cons_zero, List.getElem_cons_succ]
  refine AnyT.take (i := 4) (v := .agg rs) rfl (by kernel_rfl) (by kernel_rfl) (by kernel_rfl) (by kernel_rfl) (fun _ _ _ h => h) (Or.inl ⟨by rfl, ?_⟩) (by assumption) ?_
  · (intro w0 hSw; exact run_loadRow 169 _ rfl w1.heap.size rfl 169 rs (0, 0) _ hSw.2.2.2 Tryz.underlying169 rfl (by rw [h24.out]; exact size_b))
  try simp only [Act.put, List.setIfInBounds_toArray, List.set_cons_zero, List.set_cons_succ, List.getElem_toArray, List.getElem_cons_zero, List.getElem_cons_succ]
  refine AnyT.takeA (i := 6) (v := ?_) rfl (by kernel_rfl) (by kernel_rfl) (by kernel_rfl) (fun _ _ _ h => h) (Or.inl ⟨by rfl, ?_⟩) ?_
  rotate_left 1
  · (intro w0 _; go_simp; try with_reducible rfl)
  try simp only [Act.put, List.setIfInBounds_toArray, List.set_cons_zero, List.set_cons_succ, List.getElem_toArray, List.getElem_cons_zero, List.getElem_cons_succ]
  refine AnyT.take (i := 7) (v := ?_) rfl (by kernel_rfl) (by kernel_rfl) (by kernel_rfl) (by kernel_rfl) (fun _ _ _ h => h) (Or.inl ⟨by rfl, ?_⟩) (by assumption) ?_
  rotate_left 1
  · (intro w0 hSw; (try dsimp only at hSw); go_simp; try with_reducible rfl)
  try simp only [Act.put, List.setIfInBounds_toArray, List.set_cons_zero, List.set_cons_succ, List.getElem_toArray, List.getElem_cons_zero, List.getElem_cons_succ]
  refine AnyT.takeA (i := 8) (v := ?_) rfl (by kernel_rfl) (by kernel_rfl) (by kernel_rfl) (fun _ _ _ h => h) (Or.inl ⟨by rfl, ?_⟩) ?_
  rotate_left 1
  · (intro w0 _; go_simp; try with_reducible rfl)
  try simp only [Act.put, List.setIfInBounds_toArray, List.set_cons_zero, List.set_cons_succ, List.getElem_toArray, List.getElem_cons_zero, List.getElem_cons_succ]
  refine AnyT.takeA (i := 9) (v := ?_) rfl (by kernel_rfl) (by kernel_rfl) (by kernel_rfl) (fun _ _ _ h => h) (Or.inl ⟨by rfl, ?_⟩) ?_
  rotate_left 1
  · (intro w0 _; go_simp; try with_reducible rfl)
  try simp only [Act.put, List.setIfInBounds_toArray, List.set_cons_zero, List.set_cons_succ, List.getElem_toArray, List.getElem_cons_zero, List.getElem_cons_succ]
  refine AnyT.takeA (i := 10) (v := ?_) rfl (by kernel_rfl) (by kernel_rfl) (by kernel_rfl) (fun _ _ _ h => h) (Or.inl ⟨by rfl, ?_⟩) ?_
  rotate_left 1
  · (intro w0 _; go_simp; try with_reducible rfl)
  try simp only [Act.put, List.setIfInBounds_toArray, List.set_cons_zero, List.set_cons_succ, List.getElem_toArray, List.getElem_cons_zero, List.getElem_cons_succ]
  refine AnyT.take (i := 11) (v := ?_) rfl (by kernel_rfl) (by kernel_rfl) (by kernel_rfl) (by kernel_rfl) (fun _ _ _ h => h) (Or.inl ⟨by rfl, ?_⟩) (by assumption) ?_
  rotate_left 1
  · (intro w0 hSw; (try dsimp only at hSw); go_simp; try with_reducible rfl)
  try simp only [Act.put, List.setIfInBounds_toArray, List.set_cons_zero, List.set_cons_succ, List.getElem_toArray, List.getElem_cons_zero, List.getElem_cons_succ]
  refine AnyT.call (i := 5) (by kernel_rfl) rfl (fun K hK => ?_)
  try simp only [Act.put, List.setIfInBounds_toArray, List.set_cons_zero, List.set_cons_succ, List.getElem_toArray, List.getElem_cons_zero, List.getElem_cons_succ]
  rw [if_pos (by rfl)]
  go_simp
  (go_at_call 144; refine LK.out.mono ?_; rintro e w3 ⟨g, rfl, rg, sg, bx, zg⟩; have B1 := bx; have K01 : w3.cell? ⟨w.heap.size, 0, none⟩ = some (.slice A n cs) := (B1.cell (p := ⟨w.heap.size, 0, none⟩) zA).trans K0; have K11 : w3.cell? ⟨w.heap.size, 1, none⟩ = some (.slice (some ⟨b, off, none⟩) q cv) := (B1.cell (p := ⟨w.heap.size, 1, none⟩) zA).trans K1; have K21 : w3.cell? ⟨b, off + k * 2 + 1, none⟩ = some (.slice P' pn' pc') := (B1.cell (p := ⟨b, off + k * 2 + 1, none⟩) zB).trans K2; have K31 : w3.heap[w1.heap.size]? = some (.cells rs 169 (0, 0)) := (B1.block _ zC).trans K3; have LFI := Lib.hid (LFILL.out g w3 rg sg B1); go_wp2_with fail)
  refine hK.out _ _ (fun _ _ => ?_) (fun hKeep => ?_)
  · exact ⟨K01, K11, K21, K31⟩
  replace hHeld := hKeep (by first | rfl | trivial) hHeld
  clear hK K hKeep
  try simp only [Act.put, List.setIfInBounds_toArray, List.set_cons_zero, List.set_cons_succ, List.getElem_toArray, List.getElem_cons_zero, List.getElem_cons_succ]
  refine AnyT.call (i := 12) (by kernel_rfl) rfl (fun K hK => ?_)
  try simp only [Act.put, List.setIfInBounds_toArray, List.set_cons_zero, List.set_cons_succ, List.getElem_toArray, List.getElem_cons_zero, List.getElem_cons_succ]
  rw [if_pos (by rfl)]
  go_simp
  (go_at_call 59; refine LFI.out.mono ?_; rintro e w4 ⟨O, on, oc, rfl, oO, by4⟩; have B2 := next_trans B1 by4; have K02 : w4.cell? ⟨w.heap.size, 0, none⟩ = some (.slice A n cs) := (B2.cell (p := ⟨w.heap.size, 0, none⟩) zA).trans K0; have K12 : w4.cell? ⟨w.heap.size, 1, none⟩ = some (.slice (some ⟨b, off, none⟩) q cv) := (B2.cell (p := ⟨w.heap.size, 1, none⟩) zA).trans K1; have K22 : w4.cell? ⟨b, off + k * 2 + 1, none⟩ = some (.slice P' pn' pc') := (B2.cell (p := ⟨b, off + k * 2 + 1, none⟩) zB).trans K2; have K32 : w4.heap[w1.heap.size]? = some (.cells rs 169 (0, 0)) := (B2.block _ zC).trans K3; have LPU := Lib.hid (LPUT.out O on oc w4 B2 oO); go_wp2_with fail)
  refine hK.out _ _ (fun _ _ => ?_) (fun hKeep => ?_)
  · exact ⟨K02, K12, K22, K32⟩
  replace hHeld := hKeep (by first | rfl | trivial) hHeld
  clear hK K hKeep
  try simp only [Act.put, List.setIfInBounds_toArray, List.set_cons_zero, List.set_cons_succ, List.getElem_toArray, List.getElem_cons_zero, List.getElem_cons_succ]
  refine AnyT.call (i := 13) (by kernel_rfl) rfl (fun K hK => ?_)
  try simp only [Act.put, List.setIfInBounds_toArray, List.set_cons_zero, List.set_cons_succ, List.getElem_toArray, List.getElem_cons_zero, List.getElem_cons_succ]
  rw [if_pos (by rfl)]
  go_simp
  (go_at_call 41; refine LPU.out.mono ?_; rintro e w5 ⟨X, xn, xc, rfl, oX, by5⟩; have B3 := next_trans B2 by5; have K03 : w5.cell? ⟨w.heap.size, 0, none⟩ = some (.slice A n cs) := (B3.cell (p := ⟨w.heap.size, 0, none⟩) zA).trans K0; have K13 : w5.cell? ⟨w.heap.size, 1, none⟩ = some (.slice (some ⟨b, off, none⟩) q cv) := (B3.cell (p := ⟨w.heap.size, 1, none⟩) zA).trans K1; have K23 : w5.cell? ⟨b, off + k * 2 + 1, none⟩ = some (.slice P' pn' pc') := (B3.cell (p := ⟨b, off + k * 2 + 1, none⟩) zB).trans K2; have K33 : w5.heap[w1.heap.size]? = some (.cells rs 169 (0, 0)) := (B3.block _ zC).trans K3; go_wp2_with fail)
  refine hK.out _ _ (fun _ _ => ?_) (fun hKeep => ?_)
  · exact ⟨K03, K13, K23, K33⟩
  replace hHeld := hKeep (by first | rfl | trivial) hHeld
  clear hK K hKeep
  try simp only [Act.put, List.setIfInBounds_toArray, List.set_cons_zero, List.set_cons_succ, List.getElem_toArray, List.getElem_cons_zero, List.getElem_cons_succ]
  refine AnyT.takeA (i := 14) (v := ?_) rfl (by kernel_rfl) (by kernel_rfl) (by kernel_rfl) (fun _ _ _ h => h) (Or.inl ⟨by rfl, ?_⟩) ?_
  rotate_left 1
  · (intro w0 _; go_simp; try with_reducible rfl)
  try simp only [Act.put, List.setIfInBounds_toArray, List.set_cons_zero, List.set_cons_succ, List.getElem_toArray, List.getElem_cons_zero, List.getElem_cons_succ]
  refine AnyT.takeA (i := 15) (v := ?_) rfl (by kernel_rfl) (by kernel_rfl) (by kernel_rfl) (fun _ _ _ h => h) (Or.inl ⟨by rfl, ?_⟩) ?_
  rotate_left 1
  · (intro w0 _; go_simp; try with_reducible rfl)
  try simp only [Act.put, List.setIfInBounds_toArray, List.set_cons_zero, List.set_cons_succ, List.getElem_toArray, List.getElem_cons_zero, List.getElem_cons_succ]
  refine AnyT.takeA (i := 16) (v := ?_) rfl (by kernel_rfl) (by kernel_rfl) (by kernel_rfl) (fun _ _ _ h => h) (Or.inl ⟨by rfl, ?_⟩) ?_
  rotate_left 1
  · (intro w0 _; go_simp; try with_reducible rfl)
  try simp only [Act.put, List.setIfInBounds_toArray, List.set_cons_zero, List.set_cons_succ, List.getElem_toArray, List.getElem_cons_zero, List.getElem_cons_succ]
  refine AnyT.takeA (i := 17) (v := ?_) rfl (by kernel_rfl) (by kernel_rfl) (by kernel_rfl) (fun _ _ _ h => h) (Or.inl ⟨by rfl, ?_⟩) ?_
  rotate_left 1
  · (intro w0 _; go_simp; try with_reducible rfl)
  try simp only [Act.put, List.setIfInBounds_toArray, List.set_cons_zero, List.set_cons_succ, List.getElem_toArray, List.getElem_cons_zero, List.getElem_cons_succ]
  refine AnyT.done (by kernel_rfl) ?_ _
  have F : AnsStep w (stepO d.1 y t x) (.returned (.tuple #[.slice X xn xc, .bool (put.putB d.1 t (fillL (givesL s) y.2) (x : Int))])) w5 := ⟨X, xn, xc, by rw [HRB.out.2], by rw [HRB.out.1]; exact Own.lower oX (Nat.le_trans BEL2.out.size B2.size), BEL2.out.drew.trans (B3.mono BEL2.out.size)⟩
  have HF := Lib.hid F
  clear F oX by5 B1 B2 B3 LK LFILL LPUT LFI LPU oO by4
  generalize put.putB d.1 t (fillL (givesL s) y.2) (x : Int) = bz at *
  go_wp2
  go_ret2
  exact HF.out
end Go.Proofs.YtmaamlnooepogaaGreat.stepImpl
end

section
/-
  CONTRACTS: impl's system.hasRedex, stepAt, RedexAt, StepAt. Conditions: the system and the term read as data ('Rd'), at most 1048576 numbers; place and rule are int64. By an AI agent.
-/
namespace Go.Proofs.YtmaamlnooepogaaGreat.stepImpl
open Go.RowKit Go.Proofs.YtmaamlnooepogaaGreat.base Go.Proofs.YtmaamlnooepogaaGreat.ints Go.Proofs.YtmaamlnooepogaaGreat.sig Go.Proofs.YtmaamlnooepogaaGreat.term Go.Proofs.YtmaamlnooepogaaGreat.termOk Go.Proofs.YtmaamlnooepogaaGreat.endAt Go.Proofs.YtmaamlnooepogaaGreat.inside Go.Proofs.YtmaamlnooepogaaGreat.marks Go.Proofs.YtmaamlnooepogaaGreat.app Go.Proofs.YtmaamlnooepogaaGreat.sym Go.Proofs.YtmaamlnooepogaaGreat.sub Go.Proofs.YtmaamlnooepogaaGreat.segs Go.Proofs.YtmaamlnooepogaaGreat.segsHelp Go.Proofs.YtmaamlnooepogaaGreat.kinds Go.Proofs.YtmaamlnooepogaaGreat.termFacts Go.Proofs.YtmaamlnooepogaaGreat.matchMath Go.Proofs.YtmaamlnooepogaaGreat.whole Go.Proofs.YtmaamlnooepogaaGreat.takeMath Go.Proofs.YtmaamlnooepogaaGreat.take Go.Proofs.YtmaamlnooepogaaGreat.extended Go.Proofs.YtmaamlnooepogaaGreat.varsOf Go.Proofs.YtmaamlnooepogaaGreat.shape Go.Proofs.YtmaamlnooepogaaGreat.kindsR Go.Proofs.YtmaamlnooepogaaGreat.ruleMath Go.Proofs.YtmaamlnooepogaaGreat.ruleSpec Go.Proofs.YtmaamlnooepogaaGreat.ruleImpl Go.Proofs.YtmaamlnooepogaaGreat.stepMath Go.Proofs.YtmaamlnooepogaaGreat.walkMath Go.Proofs.YtmaamlnooepogaaGreat.stepSpec
set_option maxRecDepth 100000

theorem right_of {sg : List Int} {rs : List Rl} {t : List Int} (h : sysOkB sg rs = true) : rightB sg rs t = termOkB sg t := by unfold rightB; rw [h]; rfl
theorem there_eq {sg : List Int} {rs : List Rl} {t : List Int} {a r : Int} (h : sysOkB sg rs = true) : thereR sg rs t a r = (thereB sg t a && walkMath.inB r rs.length) := by
  unfold thereR thereB walkMath.inB endAt.inB
  rw [right_of h, Bool.and_assoc]

set_option maxHeartbeats 4000000 in
theorem hasRedex (a v u : Value) (d : Dat sSystem) (t : List Int) (x r : Int) (w : World) (h : Rd w w.heap.size sSystem [a, v] d) (ht : Rd w w.heap.size sI [u] t) (hz : sz sSystem d ≤ 1048576) (hz' : sz sI t ≤ 1048576) (oks : sysOkB d.1 d.2 = true) :
    Calls Tryz.prog 130 #[.agg #[a, v], u, .int .i64 x, .int .i64 r] w (AnsB w (redexB d.1 d.2 t x r)) := by
  have h0 := h
  have ht0 := ht
  obtain ⟨T, m, c, rfl, hT, hcT⟩ := rd_ints.1 ht
  have hm := len_ints hT.1 hz'
  obtain ⟨A, n, cs, V, q, cv, rfl, rfl, hs, hc, hcv, hq, hn, hq1, hrs, hsg, hE⟩ := rd_sys h hz
  obtain ⟨W, hW, rA, bel⟩ := box1 w 77 #[.slice A n cs, .slice V q cv]
  have HW := Lib.hid hW
  have LP := Lib.hid (placeIn A T n cs m c d.1 t x W (hs.next bel) (hT.next bel) hn hm)
  have HQ := Lib.hid hq
  have LMA := Lib.hid (fun (w1 : World) (bb : Below w.heap.size w w1) (x k : Nat) hok hx hk => matchAt _ _ _ d t x k w1 (h0.next bb) (ht0.next bb) hz hok hx hk)
  have OKS := Lib.hid oks
  clear hW h h0 ht ht0 hz hz' hs hc hcv hq hrs hsg hE hT hcT oks
  obtain ⟨bp, hbp⟩ : ∃ bp, thereB d.1 t x = bp := ⟨_, rfl⟩
  have HP := Lib.hid hbp
  have HTH := Lib.hid (show thereR d.1 d.2 t x r = (bp && walkMath.inB r d.2.length) by rw [there_eq OKS.out, hbp])
  rw [hbp] at LP
  clear hbp
  cases bp with
  | false =>
    go_enter Tryz.func130, Tryz.ntmps130
    go_wp2_with fail
    rw [← HW.out]
    refine LP.out.mono ?_
    rintro e w1 ⟨rfl, bb⟩
    have F := Lib.hid (ansB (b := redexB d.1 d.2 t x r) (a := false) (by rw [redex_no (by rw [HTH.out]; rfl)]) (next_trans bel bb))
    clear bb bel rA LMA
    go_wp2
    go_ret
    exact F.out
  | true =>
    by_cases hr0 : r < 0
    · go_enter Tryz.func130, Tryz.ntmps130
      go_wp2_with fail
      rw [← HW.out]
      refine LP.out.mono ?_
      rintro e w1 ⟨rfl, bb⟩
      have F := Lib.hid (ansB (b := redexB d.1 d.2 t x r) (a := false) (by rw [redex_no (by rw [HTH.out]; unfold walkMath.inB; rw [decide_eq_false (by omega)]; rfl)]) (next_trans bel bb))
      clear bb bel rA LMA
      go_wp2
      go_ret
      exact F.out
    · obtain ⟨k, rfl⟩ := Int.eq_ofNat_of_zero_le (Int.not_lt.1 hr0)
      by_cases hkq : k < q
      · have hx := endAt.there_parts HP.out
        obtain ⟨i, rfl⟩ := Int.eq_ofNat_of_zero_le hx.2.1
        have hix : i < t.length := by omega
        have okR : rightB d.1 d.2 t = true := by rw [right_of OKS.out]; exact hx.1
        have hkl : k < d.2.length := by rw [HQ.out]; exact hkq
        have HRE := Lib.hid (show redexB d.1 d.2 t (i : Int) (k : Int) = (mst d.1 t (d.2.getD k ([], [])).1 i s0).isSome by
          rw [redex_yes (by rw [HTH.out]; unfold walkMath.inB; rw [decide_eq_true (by omega)]; rfl), red_at (sys_rule OKS.out hkl) hx.1 hix]
          unfold rl
          rw [Int.toNat_natCast, Int.toNat_natCast])
        have LM := Lib.hid (fun w1 bb => LMA.out w1 bb i k okR hix hkl)
        clear hx okR LMA HTH
        obtain ⟨R, hR⟩ : ∃ R, mst d.1 t (d.2.getD k ([], [])).1 i s0 = R := ⟨_, rfl⟩
        rw [hR] at LM HRE
        clear hR
        go_enter Tryz.func130, Tryz.ntmps130
        go_wp2_with fail
        rw [← HW.out]
        refine LP.out.mono ?_
        rintro e w1 ⟨rfl, bb⟩
        replace rA := rA.next bb
        replace bel := next_trans bel bb
        have K0 : w1.cell? ⟨w.heap.size, 0, none⟩ = some (.slice A n cs) := rA.cell 0
        have K1 : w1.cell? ⟨w.heap.size, 1, none⟩ = some (.slice V q cv) := rA.cell 1
        have hge : ¬ (q : Int) ≤ (k : Int) := by omega
        have LM1 := Lib.hid (LM.out w1 bel)
        clear bb LP LM rA
        go_wp2_with fail
        refine LM1.out.mono ?_
        rintro e w3 ⟨rs, rfl, tab, hsz, bb⟩
        have one := Lib.hid tab.one
        have h24 := Lib.hid tab.1
        obtain ⟨bo, hbo⟩ : ∃ bo, R.isSome = bo := ⟨_, rfl⟩
        rw [hbo]
        have F := Lib.hid (show AnsB w (redexB d.1 d.2 t (i : Int) (k : Int)) (.returned (.bool bo)) (w3.alloc (.cells rs 169)) from ⟨by rw [HRE.out, hbo], (next_trans bel bb).alloc (next_trans bel bb).size _⟩)
        clear tab hsz bb bel K0 K1 hbo LM1 HRE
        go_wp2_with (first
          | (refine rowAlloc rfl 169 rfl z24 zero_b ?_)
          | (refine rowStore rfl 169 _ _ rfl w3.heap.size rs z24 169 rfl rfl (heap_alloc_new w3 _) (by rw [h24.out]; exact size_b) (by rw [h24.out]; rfl) one.out ?_; rw [World.setRow_alloc_new]))
        go_ret
        exact F.out
      · go_enter Tryz.func130, Tryz.ntmps130
        go_wp2_with fail
        rw [← HW.out]
        refine LP.out.mono ?_
        rintro e w1 ⟨rfl, bb⟩
        replace rA := rA.next bb
        have K1 : w1.cell? ⟨w.heap.size, 1, none⟩ = some (.slice V q cv) := rA.cell 1
        have F := Lib.hid (ansB (b := redexB d.1 d.2 t x (k : Int)) (a := false) (by rw [redex_no (by rw [HTH.out, HQ.out]; unfold walkMath.inB; rw [decide_eq_false (by omega)]; rfl)]) (next_trans bel bb))
        have hge : (q : Int) ≤ (k : Int) := by omega
        clear bb bel rA LMA
        go_wp2
        go_ret
        exact F.out

set_option maxHeartbeats 4000000 in
theorem stepAt (a v u : Value) (d : Dat sSystem) (t : List Int) (x r : Int) (w : World) (h : Rd w w.heap.size sSystem [a, v] d) (ht : Rd w w.heap.size sI [u] t) (hz : sz sSystem d ≤ 1048576) (hz' : sz sI t ≤ 1048576) (oks : sysOkB d.1 d.2 = true) :
    Calls Tryz.prog 99 #[.agg #[a, v], u, .int .i64 x, .int .i64 r] w (AnsStep w (stepAtO d.1 d.2 t x r)) := by
  obtain ⟨W, hW, rA, bel⟩ := box1 w 77 #[a, v]
  have HW := Lib.hid hW
  have LH := Lib.hid (hasRedex a v u d t x r W (h.next bel) (ht.next bel) hz hz' oks)
  have LR := Lib.hid (fun (w1 : World) (bb : Below w.heap.size w w1) (x k : Nat) hok hx hk hred => reduced a v u d t x k w1 (h.next bb) (ht.next bb) hz hok hx hk hred)
  clear hW h ht hz hz'
  obtain ⟨bp, hbp⟩ : ∃ bp, redexB d.1 d.2 t x r = bp := ⟨_, rfl⟩
  rw [hbp] at LH
  cases bp with
  | false =>
    have HN := Lib.hid (show stepAtO d.1 d.2 t x r = none by
      cases e : stepAtO d.1 d.2 t x r with
      | none => rfl
      | some y => rw [stepAt_redex e] at hbp; cases hbp)
    clear hbp
    go_enter Tryz.func99, Tryz.ntmps99
    go_wp2_with fail
    rw [← HW.out]
    refine LH.out.mono ?_
    rintro e w1 ⟨rfl, bb⟩
    have F := Lib.hid (ansStep_nil (o := stepAtO d.1 d.2 t x r) HN.out (next_trans bel bb))
    clear bb bel rA LR
    go_wp2
    go_ret2
    exact F.out
  | true =>
    have hth : thereR d.1 d.2 t x r = true := by
      unfold redexB at hbp
      rw [Bool.and_eq_true] at hbp
      exact hbp.1
    obtain ⟨p1, p2, p3, p4⟩ := walkMath.there_parts hth
    obtain ⟨i, rfl⟩ := Int.eq_ofNat_of_zero_le p3.1
    obtain ⟨k, rfl⟩ := Int.eq_ofNat_of_zero_le p4.1
    rw [redex_yes hth] at hbp
    unfold rl at hbp
    rw [Int.toNat_natCast, Int.toNat_natCast] at hbp
    have LR1 := Lib.hid (fun w1 bb => LR.out w1 bb i k (right_yes p1 p2) (by omega) (by omega) hbp)
    have HE := Lib.hid (show stepAtO d.1 d.2 t (i : Int) (k : Int) = stepO d.1 (d.2.getD k ([], [])) t i by rw [at_yes hth]; unfold rl; rw [Int.toNat_natCast, Int.toNat_natCast])
    clear hth p1 p2 p3 p4 hbp LR oks
    go_enter Tryz.func99, Tryz.ntmps99
    go_wp2_with fail
    rw [← HW.out]
    refine LH.out.mono ?_
    rintro e w1 ⟨rfl, bb⟩
    replace rA := rA.next bb
    replace bel := next_trans bel bb
    have K0 : w1.cell? ⟨w.heap.size, 0, none⟩ = some a := rA.cell 0
    have K1 : w1.cell? ⟨w.heap.size, 1, none⟩ = some v := rA.cell 1
    have LR2 := Lib.hid (LR1.out w1 bel)
    clear bb LH LR1 rA
    go_wp2_with fail
    refine LR2.out.mono ?_
    rintro e w2 ⟨X, xn, xc, rfl, oX, bb⟩
    have F : AnsStep w (stepAtO d.1 d.2 t (i : Int) (k : Int)) (.returned (.tuple #[.slice X xn xc, .bool (stepO d.1 (d.2.getD k ([], [])) t i).isSome])) w2 := ⟨X, xn, xc, by rw [HE.out], by rw [HE.out]; exact Own.lower oX bel.size, next_trans bel bb⟩
    have HF := Lib.hid F
    clear F oX bb bel K0 K1 LR2
    generalize (stepO d.1 (d.2.getD k ([], [])) t i).isSome = bz at *
    go_wp2
    go_ret2
    exact HF.out

end Go.Proofs.YtmaamlnooepogaaGreat.stepImpl
end

section
/-
  CONTRACTS: impl's system.makes, WalkOk, Walk.end, EndTerm. Conditions: the system and the walk read as data ('Rd'), at most 1048576 numbers. By an AI agent.
-/
namespace Go.Proofs.YtmaamlnooepogaaGreat.walkImpl
open Go.RowKit Go.Proofs.YtmaamlnooepogaaGreat.base Go.Proofs.YtmaamlnooepogaaGreat.ints Go.Proofs.YtmaamlnooepogaaGreat.sig Go.Proofs.YtmaamlnooepogaaGreat.term Go.Proofs.YtmaamlnooepogaaGreat.termOk Go.Proofs.YtmaamlnooepogaaGreat.endAt Go.Proofs.YtmaamlnooepogaaGreat.endOf Go.Proofs.YtmaamlnooepogaaGreat.marks Go.Proofs.YtmaamlnooepogaaGreat.app Go.Proofs.YtmaamlnooepogaaGreat.sym Go.Proofs.YtmaamlnooepogaaGreat.sub Go.Proofs.YtmaamlnooepogaaGreat.segs Go.Proofs.YtmaamlnooepogaaGreat.segsHelp Go.Proofs.YtmaamlnooepogaaGreat.kinds Go.Proofs.YtmaamlnooepogaaGreat.termFacts Go.Proofs.YtmaamlnooepogaaGreat.same Go.Proofs.YtmaamlnooepogaaGreat.shifted Go.Proofs.YtmaamlnooepogaaGreat.shape Go.Proofs.YtmaamlnooepogaaGreat.kindsR Go.Proofs.YtmaamlnooepogaaGreat.kindsW Go.Proofs.YtmaamlnooepogaaGreat.varsOf Go.Proofs.YtmaamlnooepogaaGreat.ruleMath Go.Proofs.YtmaamlnooepogaaGreat.ruleSpec Go.Proofs.YtmaamlnooepogaaGreat.ruleImpl Go.Proofs.YtmaamlnooepogaaGreat.stepMath Go.Proofs.YtmaamlnooepogaaGreat.walkMath Go.Proofs.YtmaamlnooepogaaGreat.stepSpec Go.Proofs.YtmaamlnooepogaaGreat.stepImpl Go.Proofs.YtmaamlnooepogaaGreat.walkSpec
set_option maxRecDepth 100000

structure Wm (w : World) (a v f s : Value) (d : Dat sSystem) (k : Dat sWalk) (i : Nat) (now : Value) (wr : World) : Prop where
  r : Row wr w.heap.size 77 #[a, v]
  q : Row wr (w.heap.size + 1) 32 #[f, s]
  b : Below w.heap.size w wr
  n : ∃ N nn nc, now = .slice N nn nc
  t : ∃ t, Rd wr wr.heap.size sI [now] t ∧ sz sI t ≤ 1048576 ∧ goOn d.1 d.2 k.1 k.2 = goOn d.1 d.2 t (k.2.drop i)

set_option maxHeartbeats 4000000 in
theorem makes (a v f s : Value) (d : Dat sSystem) (k : Dat sWalk) (w : World) (h : Rd w w.heap.size sSystem [a, v] d) (h' : Rd w w.heap.size sWalk [f, s] k) (hz : sz sSystem d ≤ 1048576) (hz' : sz sWalk k ≤ 1048576) (oks : sysOkB d.1 d.2 = true) :
    Calls Tryz.prog 39 #[.agg #[a, v], .agg #[f, s]] w (AnsB w (goOn d.1 d.2 k.1 k.2).isSome) := by
  obtain ⟨F, fn, fc, S, sn, sc, rfl, rfl, hF, hcF, hfn, hsn, hsn1, hcS, hrF, hrS, hzF, hzS⟩ := rd_walk h' hz'
  obtain ⟨W, hW, rA, rW, bel⟩ := box2 w 77 32 #[a, v] #[.slice F fn fc, .slice S sn sc]
  have HW := Lib.hid hW
  have LST := Lib.hid (fun (w1 : World) (bb : Below w.heap.size w w1) (u : Value) (t : List Int) (x r : Int) ht hzt => stepAt a v u d t x r w1 (h.next bb) ht hz hzt oks)
  have HRS := Lib.hid hrS
  have HSN := Lib.hid hsn
  have HZS := Lib.hid hzS
  have H0 := Lib.hid (show Wm w a v (.slice F fn fc) (.slice S sn sc) d k 0 (.slice F fn fc) W from ⟨rA, rW, bel, ⟨_, _, _, rfl⟩, k.1, hrF.next bel, hzF, rfl⟩)
  clear hW h h' hz hz' hF hcF hsn hcS hrF hrS hzF hzS rA rW bel oks
  go_enter Tryz.func39, Tryz.ntmps39
  go_wp2_with fail
  rw [← HW.out]
  clear HW
  go_loopg [5, 15] sn (fun g now i_ wr => ∃ i : Nat, i_ = .int .i64 i ∧ i + g = sn ∧ Wm w a v (.slice F fn fc) (.slice S sn sc) d k i now wr)
  case atStart => exact ⟨0, rfl, by omega, H0.out⟩
  case round =>
    clear H0
    obtain ⟨i, rfl, hg, T⟩ := hrel
    obtain ⟨N, nn, nc, rfl⟩ := T.n
    obtain ⟨t, ht, hzt, hgo⟩ := T.t
    have HG := Lib.hid hg
    have HGO := Lib.hid hgo
    clear hg hgo
    by_cases hi : i < sn
    · obtain ⟨b, off, u, x, hA, hb, ex, c0, c1, c2, hx2⟩ := rd_step HRS.out T.b HSN.out hi
      subst hA
      obtain ⟨U, un, uc, rfl, hU, hcU⟩ := rd_ints.1 hx2
      have hzx : sz sI x.2.2 ≤ 1048576 := by rw [← ex.out]; exact HZS.out i hi
      have hun : un ≤ 1048576 := len_ints hU.1 hzx
      obtain ⟨xa, hxa⟩ : ∃ z, x.1 = z := ⟨_, rfl⟩
      obtain ⟨xr, hxr⟩ : ∃ z, x.2.1 = z := ⟨_, rfl⟩
      rw [hxa] at c0
      rw [hxr] at c1
      have b1 : Below wr.heap.size wr (wr.alloc (.cells #[.int .i64 xa, .int .i64 xr, .slice U un uc] 86)) := (Below.refl _ _).alloc (Nat.le_refl _) _
      have K0 : wr.cell? ⟨w.heap.size, 0, none⟩ = some a := T.r.cell 0
      have K1 : wr.cell? ⟨w.heap.size, 1, none⟩ = some v := T.r.cell 1
      obtain ⟨w1, hw1⟩ : ∃ w1, w1 = wr.alloc (.cells #[.int .i64 xa, .int .i64 xr, .slice U un uc] 86) := ⟨_, rfl⟩
      rw [← hw1] at b1
      have LS := Lib.hid (LST.out w1 (T.b.trans (b1.mono T.b.size)) (.slice N nn nc) t xa xr (ht.next b1) hzt)
      obtain ⟨o, ho⟩ : ∃ o, stepAtO d.1 d.2 t xa xr = o := ⟨_, rfl⟩
      rw [ho] at LS
      have HO := Lib.hid (show stepAtO d.1 d.2 t x.1 x.2.1 = o by rw [hxa, hxr]; exact ho)
      have r1 := T.r.next b1
      have q1 := T.q.next b1
      have bel1 := T.b.trans (b1.mono T.b.size)
      have rX : Row w1 wr.heap.size 86 #[.int .i64 xa, .int .i64 xr, .slice U un uc] := by rw [hw1]; exact Row.new _ _ _
      have hU1 := (hU.more T.b.size).next b1
      have hil : i < k.2.length := by rw [HSN.out]; exact hi
      have EX := Lib.hid (show k.2.getD i (0, 0, []) = x from ex.out)
      have i0 : (0 : Int) ≤ (i : Int) := by omega
      have i1 : (i : Int) < (sn : Int) := by omega
      have R0 : (wr.alloc (.cells #[.int .i64 xa, .int .i64 xr, .slice U un uc] 86)).cell? ⟨w.heap.size, 0, none⟩ = some a := by rw [← hw1]; exact r1.cell 0
      have R1 : (wr.alloc (.cells #[.int .i64 xa, .int .i64 xr, .slice U un uc] 86)).cell? ⟨w.heap.size, 1, none⟩ = some v := by rw [← hw1]; exact r1.cell 1
      have HW1 := Lib.hid hw1
      clear ho hxa hxr hx2 hU hcU T ht hzt ex b1 hw1
      go_wp2_with fail
      rw [← HW1.out]
      refine LS.out.mono ?_
      rintro e w2 ⟨X, xn, xc, rfl, oX, bb⟩
      have r2 := r1.next bb
      have q2 := q1.next bb
      have b2 := next_trans bel1 bb
      have rX2 := rX.next bb
      have hU2 := hU1.next bb
      have k2 : w2.cell? ⟨wr.heap.size, 2, none⟩ = some (.slice U un uc) := rX2.cell 2
      clear r1 q1 bel1 rX hU1 c0 c1 c2 K0 K1 R0 R1 LS HW1
      cases o with
      | none =>
        have F := Lib.hid (ansB (b := (goOn d.1 d.2 k.1 k.2).isSome) (a := false) (by rw [HGO.out, go_none hil EX.out HO.out]; rfl) b2)
        clear oX bb r2 q2 b2 k2 rX2 hU2
        go_wp2
        go_ret
        exact F.out
      | some y =>
        have oY : Own w2 w1.heap.size (.slice X xn xc) y := oX
        have hy60 := (step_len (stepAt_parts HO.out).2)
        have hxn : xn ≤ 1048576 := by have := Own.len oY; omega
        have LE := Lib.hid (implSame X U xn un xc uc y x.2.2 w2 (Own.seg oY) hU2 hxn hun)
        have RY := Lib.hid (show Rd w2 w2.heap.size sI [.slice X xn xc] y ∧ sz sI y ≤ 1048576 from ⟨rd_own oY, by rw [sz_ints]; omega⟩)
        clear oX oY hU2 bb rX2
        go_wp2_with fail
        refine LE.out.mono ?_
        rintro e w3 ⟨rfl, dd, rfl⟩
        by_cases hyx : y = x.2.2
        · have HGN := Lib.hid (go_step hil EX.out HO.out hyx)
          have F := Lib.hid (show Wm w a v (.slice F fn fc) (.slice (some ⟨b, off, none⟩) sn sc) d k (i + 1) (.slice X xn xc) (w2.drewN dd) from ⟨r2.drewN dd, q2.drewN dd, below_drewN b2 dd, ⟨_, _, _, rfl⟩, y, RY.out.1.next (drewN_below w2 dd), RY.out.2, by rw [HGO.out, HGN.out]⟩)
          rw [decide_eq_true hyx]
          clear r2 q2 b2 k2 LE
          go_wp2
          go_roundg (gk - 1)
          case measure => have := HG.out; omega
          case rel => exact ⟨i + 1, by simp, by have := HG.out; omega, F.out⟩
        · have F := Lib.hid (ansB (b := (goOn d.1 d.2 k.1 k.2).isSome) (a := false) (by rw [HGO.out, go_differ hil EX.out HO.out hyx]; rfl) (below_drewN b2 dd))
          rw [decide_eq_false hyx]
          clear r2 q2 b2 k2 LE
          go_wp2
          go_ret
          exact F.out
    · have F := Lib.hid (ansB (b := (goOn d.1 d.2 k.1 k.2).isSome) (a := true) (by rw [HGO.out, go_all (by rw [HSN.out]; have := HG.out; omega)]; rfl) T.b)
      clear T ht hzt
      go_wp2
      go_ret
      exact F.out

theorem walk_sys {sg : List Int} {rs : List Rl} {k : Wk} (h : sysOkB sg rs = false) : walkB sg rs k = false := walk_noR (right_sys h)
theorem walk_term {sg : List Int} {rs : List Rl} {k : Wk} (h : termOkB sg k.1 = false) : walkB sg rs k = false := walk_noR (right_term h)

set_option maxHeartbeats 4000000 in
theorem implWalkOk (a v f s : Value) (d : Dat sSystem) (k : Dat sWalk) (w : World) (h : Rd w w.heap.size sSystem [a, v] d) (h' : Rd w w.heap.size sWalk [f, s] k) (hz : sz sSystem d ≤ 1048576) (hz' : sz sWalk k ≤ 1048576) :
    Calls Tryz.prog 7 #[.agg #[a, v], .agg #[f, s]] w (AnsB w (walkB d.1 d.2 k)) := by
  obtain ⟨F, fn, fc, S, sn, sc, rfl, rfl, hF, hcF, hfn, hsn, hsn1, hcS, hrF, hrS, hzF, hzS⟩ := rd_walk h' hz'
  have h0 := h
  obtain ⟨A, n, cs, V, q, cv, rfl, rfl, hs, hc, hcv, hq, hn, hq1, hrs, hsg, hE⟩ := rd_sys h hz
  obtain ⟨W, hW, rA, rW, bel⟩ := box2 w 29 32 #[.slice A n cs, .slice V q cv] #[.slice F fn fc, .slice S sn sc]
  have HW := Lib.hid hW
  have LS := Lib.hid (systemOf _ _ d W (h0.next bel) hz)
  have LT := Lib.hid (fun (w1 : World) (bb : Below w.heap.size w w1) => implTermOk A F n cs fn fc d.1 k.1 w1 (hs.next bb) (hF.next bb) hn hfn)
  have LM := Lib.hid (fun (w1 : World) (bb : Below w.heap.size w w1) oks => makes _ _ _ _ d k w1 (h0.next bb) (h'.next bb) hz hz' oks)
  have HSN := Lib.hid hsn
  clear hW h h0 h' hz hz' hs hc hcv hq hrs hsg hE hF hcF hsn hcS hrF hrS hzF hzS
  cases ok : sysOkB d.1 d.2 with
  | false =>
    have HS := Lib.hid ok
    clear ok
    go_enter Tryz.func7, Tryz.ntmps7
    go_wp2_with fail
    rw [← HW.out]
    refine LS.out.mono ?_
    rintro e w1 ⟨he, bb⟩
    rw [HS.out] at he
    have he : e = .returned (.tuple #[.agg #[.slice none 0 0, .slice none 0 0], .bool false]) := he
    subst he
    have F := Lib.hid (fun o => ansB (b := walkB d.1 d.2 k) (a := false) (by rw [walk_sys HS.out]) ((next_trans bel bb).alloc (next_trans bel bb).size o))
    clear bb bel rA rW LT LM
    go_wp2
    go_ret
    exact F.out _
  | true =>
    have HS := Lib.hid ok
    clear ok
    cases okt : termOkB d.1 k.1 with
    | false =>
      have HT := Lib.hid okt
      clear okt
      go_enter Tryz.func7, Tryz.ntmps7
      go_wp2_with fail
      rw [← HW.out]
      refine LS.out.mono ?_
      rintro e w1 ⟨he, bb⟩
      rw [HS.out] at he
      have he : e = .returned (.tuple #[.agg #[.slice A n cs, .slice V q cv], .bool true]) := he
      subst he
      have b2 := (Below.refl w1.heap.size w1).alloc (Nat.le_refl _) (.cells #[.slice A n cs, .slice V q cv] 77)
      have r2 := (rW.next bb).next b2
      have bel2 := next_trans (next_trans bel bb) b2
      have k0 : (w1.alloc (.cells #[.slice A n cs, .slice V q cv] 77)).cell? ⟨w.heap.size + 1, 0, none⟩ = some (.slice F fn fc) := r2.cell 0
      have LT1 := Lib.hid (LT.out _ bel2)
      have B2 := Lib.hid bel2
      clear bb bel rA rW LT LM b2 r2 bel2
      go_wp2_with fail
      refine LT1.out.mono ?_
      rintro e w3 ⟨he, bb⟩
      rw [HT.out] at he
      subst he
      have F := Lib.hid (ansB (b := walkB d.1 d.2 k) (a := false) (by rw [walk_term HT.out]) (next_trans B2.out bb))
      clear bb k0 LT1 B2
      go_wp2
      go_ret
      exact F.out
    | true =>
      have HT := Lib.hid okt
      clear okt
      by_cases h60 : sn ≤ 60
      · have HYES := Lib.hid (walk_yes (k := k) (right_yes HS.out HT.out) HSN.out h60)
        have hle : (sn : Int) ≤ 60 := by omega
        go_enter Tryz.func7, Tryz.ntmps7
        go_wp2_with fail
        rw [← HW.out]
        refine LS.out.mono ?_
        rintro e w1 ⟨he, bb⟩
        rw [HS.out] at he
        have he : e = .returned (.tuple #[.agg #[.slice A n cs, .slice V q cv], .bool true]) := he
        subst he
        obtain ⟨w2, hw2⟩ : ∃ w2, w2 = w1.alloc (.cells #[.slice A n cs, .slice V q cv] 77) := ⟨_, rfl⟩
        have b2 : Below w1.heap.size w1 w2 := by rw [hw2]; exact (Below.refl w1.heap.size w1).alloc (Nat.le_refl _) (.cells #[.slice A n cs, .slice V q cv] 77)
        have r2 := (rW.next bb).next b2
        have rS : Row w2 w1.heap.size 77 #[.slice A n cs, .slice V q cv] := by rw [hw2]; exact Row.new _ _ _
        have bel2 := next_trans (next_trans bel bb) b2
        have k0 : (w1.alloc (.cells #[.slice A n cs, .slice V q cv] 77)).cell? ⟨w.heap.size + 1, 0, none⟩ = some (.slice F fn fc) := by rw [← hw2]; exact r2.cell 0
        have LT1 := Lib.hid (LT.out _ bel2)
        have HW2 := Lib.hid hw2
        clear bb bel rA rW LT b2 hw2
        go_wp2_with fail
        rw [← HW2.out]
        refine LT1.out.mono ?_
        rintro e w3 ⟨he, bb⟩
        rw [HT.out] at he
        subst he
        replace r2 := r2.next bb
        replace rS := rS.next bb
        replace bel2 := next_trans bel2 bb
        have k1 : w3.cell? ⟨w.heap.size + 1, 1, none⟩ = some (.slice S sn sc) := r2.cell 1
        have k2 : w3.cell? ⟨w.heap.size + 1, 0, none⟩ = some (.slice F fn fc) := r2.cell 0
        have k3 : w3.cell? ⟨w1.heap.size, 0, none⟩ = some (.slice A n cs) := rS.cell 0
        have k4 : w3.cell? ⟨w1.heap.size, 1, none⟩ = some (.slice V q cv) := rS.cell 1
        have LM1 := Lib.hid (LM.out w3 bel2 HS.out)
        clear bb k0 LT1 HW2 LM r2 rS
        go_wp2_with fail
        refine LM1.out.mono ?_
        rintro e w4 ⟨rfl, bb⟩
        have F := Lib.hid (show AnsB w (walkB d.1 d.2 k) (.returned (.bool (goOn d.1 d.2 k.1 k.2).isSome)) w4 from ⟨by rw [HYES.out], next_trans bel2 bb⟩)
        clear bb bel2 k1 k2 k3 k4 LM1 HYES
        generalize (goOn d.1 d.2 k.1 k.2).isSome = bz at *
        go_wp2
        go_ret
        exact F.out
      · have hle : ¬ (sn : Int) ≤ 60 := by omega
        go_enter Tryz.func7, Tryz.ntmps7
        go_wp2_with fail
        rw [← HW.out]
        refine LS.out.mono ?_
        rintro e w1 ⟨he, bb⟩
        rw [HS.out] at he
        have he : e = .returned (.tuple #[.agg #[.slice A n cs, .slice V q cv], .bool true]) := he
        subst he
        have b2 := (Below.refl w1.heap.size w1).alloc (Nat.le_refl _) (.cells #[.slice A n cs, .slice V q cv] 77)
        have r2 := (rW.next bb).next b2
        have bel2 := next_trans (next_trans bel bb) b2
        have k0 : (w1.alloc (.cells #[.slice A n cs, .slice V q cv] 77)).cell? ⟨w.heap.size + 1, 0, none⟩ = some (.slice F fn fc) := r2.cell 0
        have LT1 := Lib.hid (LT.out _ bel2)
        have B2 := Lib.hid bel2
        have R2 := Lib.hid r2
        clear bb bel rA rW LT LM b2 r2 bel2
        go_wp2_with fail
        refine LT1.out.mono ?_
        rintro e w3 ⟨he, bb⟩
        rw [HT.out] at he
        subst he
        have k1 : w3.cell? ⟨w.heap.size + 1, 1, none⟩ = some (.slice S sn sc) := (R2.out.next bb).cell 1
        have F := Lib.hid (ansB (b := walkB d.1 d.2 k) (a := false) (by rw [walk_long HSN.out h60]) (next_trans B2.out bb))
        clear bb k0 LT1 B2
        go_wp2
        go_ret
        exact F.out

set_option maxHeartbeats 2000000 in
theorem endImpl (f s : Value) (k : Dat sWalk) (w : World) (h : Rd w w.heap.size sWalk [f, s] k) (hz : sz sWalk k ≤ 1048576) :
    Calls Tryz.prog 53 #[.agg #[f, s]] w fun e w' => ∃ A n c, e = .returned (.slice A n c) ∧ Rd w' w.heap.size sI [.slice A n c] (endL k) ∧ Below w.heap.size w w' := by
  obtain ⟨F, fn, fc, S, sn, sc, rfl, rfl, hF, hcF, hfn, hsn, hsn1, hcS, hrF, hrS, hzF, hzS⟩ := rd_walk h hz
  obtain ⟨W, hW, rW, bel⟩ := box1 w 32 #[.slice F fn fc, .slice S sn sc]
  have HW := Lib.hid hW
  by_cases h0 : sn = 0
  · subst h0
    have F1 := Lib.hid (show ∃ A n c, Ending.returned (.slice F fn fc) = .returned (.slice A n c) ∧ Rd W w.heap.size sI [.slice A n c] (endL k) ∧ Below w.heap.size w W from ⟨_, _, _, rfl, by rw [end_none hsn]; exact hrF.below bel, bel⟩)
    clear hW h hz hF hcF hsn hcS hrF hrS hzF hzS bel rW
    go_enter Tryz.func53, Tryz.ntmps53
    go_wp2
    rw [← HW.out]
    go_ret
    exact F1.out
  · obtain ⟨n, rfl⟩ : ∃ n, sn = n + 1 := ⟨sn - 1, by omega⟩
    obtain ⟨b, off, u, x, rfl, hb, ex, c0, c1, c2, hx2⟩ := rd_step hrS bel hsn (Nat.lt_succ_self n)
    obtain ⟨U, un, uc, rfl, hU, hcU⟩ := rd_ints.1 hx2
    have F1 := Lib.hid (show ∃ A n c, Ending.returned (.slice U un uc) = .returned (.slice A n c) ∧ Rd W w.heap.size sI [.slice A n c] (endL k) ∧ Below w.heap.size w W from ⟨_, _, _, rfl, by rw [end_last hsn ex.out]; exact hx2, bel⟩)
    have c2' : (w.alloc (.cells #[.slice F fn fc, .slice (some ⟨b, off, none⟩) (n + 1) sc] 32)).cell? ⟨b, off + n * 3 + 2, none⟩ = some (.slice U un uc) := by rw [← hW]; exact c2
    have i1 : ¬ ((n : Int) + 1 = 0) := by omega
    have i2 : ((n : Int) + 1) - 1 = (n : Int) := by omega
    have i3 : (0 : Int) ≤ (n : Int) := by omega
    have i4 : (n : Int) < (n : Int) + 1 := by omega
    clear hW h hz hF hcF hsn hcS hrF hrS hzF hzS ex hx2 hU hcU c0 c1 c2 h0 bel rW
    go_enter Tryz.func53, Tryz.ntmps53
    go_wp2
    rw [← HW.out]
    go_ret
    exact F1.out

set_option maxHeartbeats 2000000 in
theorem implEndTerm (a v f s : Value) (d : Dat sSystem) (k : Dat sWalk) (w : World) (h : Rd w w.heap.size sSystem [a, v] d) (h' : Rd w w.heap.size sWalk [f, s] k) (hz : sz sSystem d ≤ 1048576) (hz' : sz sWalk k ≤ 1048576) :
    Calls Tryz.prog 13 #[.agg #[a, v], .agg #[f, s]] w (AnsList w (endW d.1 d.2 k)) := by
  obtain ⟨W, hW, rA, rW, bel⟩ := box2 w 29 32 #[a, v] #[f, s]
  have HW := Lib.hid hW
  have L1 := Lib.hid (implWalkOk a v f s d k W (h.next bel) (h'.next bel) hz hz')
  have L2 := Lib.hid (fun (w1 : World) (bb : Below w.heap.size w w1) => endImpl f s k w1 (h'.next bb) hz')
  clear hW h h' hz hz'
  cases ok : walkB d.1 d.2 k with
  | false =>
    have HR := Lib.hid ok
    clear ok
    go_enter Tryz.func13, Tryz.ntmps13
    go_wp2_with fail
    rw [← HW.out]
    refine L1.out.mono ?_
    rintro e w1 ⟨he, bb⟩
    rw [HR.out] at he
    subst he
    have F := Lib.hid (show AnsList w (endW d.1 d.2 k) (.returned (.slice none 0 0)) w1 from ⟨_, 0, 0, rfl, by unfold endW; rw [if_neg (by rw [HR.out]; simp)]; exact Own.nil _ _, next_trans bel bb⟩)
    clear bb bel rA rW L2
    go_wp2
    go_ret
    exact F.out
  | true =>
    have HR := Lib.hid ok
    clear ok
    go_enter Tryz.func13, Tryz.ntmps13
    go_wp2_with fail
    rw [← HW.out]
    refine L1.out.mono ?_
    rintro e w1 ⟨he, bb⟩
    rw [HR.out] at he
    subst he
    replace rW := rW.next bb
    replace bel := next_trans bel bb
    have K0 : w1.cell? ⟨w.heap.size + 1, 0, none⟩ = some f := rW.cell 0
    have K1 : w1.cell? ⟨w.heap.size + 1, 1, none⟩ = some s := rW.cell 1
    clear bb L1 rW rA
    go_wp2_with fail
    refine (L2.out w1 bel).mono ?_
    rintro e w2 ⟨X, xn, xc, rfl, hX, bb⟩
    have hend : termOkB d.1 (endL k) = true := by
      obtain ⟨q1, q2, q3, q4⟩ := walk_parts HR.out
      exact (go_ok q2 q4).1
    have hsX := hX.seg
    have hxn : 1 ≤ xn ∧ xn ≤ 60 := by have := term_len hend; have := hsX.1; omega
    obtain ⟨b, off, y, rfl, -, -, -⟩ := hsX.spot (k := 0) (by omega)
    have LC := Lib.hid (cloneInts b off xn xc (endL k) w2 (hsX.more bb.size) (by omega))
    replace bel := next_trans bel bb
    clear bb hX hsX hend L2
    go_wp2_with fail
    refine LC.out.mono ?_
    rintro e w3 ⟨Y, yn, yc, rfl, oY, bb⟩
    have F := Lib.hid (show AnsList w (endW d.1 d.2 k) (.returned (.slice Y yn yc)) w3 from ⟨Y, yn, yc, rfl, by unfold endW; rw [if_pos HR.out]; exact Own.lower oY bel.size, next_trans bel bb⟩)
    clear oY bb bel LC K0 K1
    go_wp2
    go_ret
    exact F.out
end Go.Proofs.YtmaamlnooepogaaGreat.walkImpl
end

section
/-
  The contracts of EndTerm, as the walk of its exact law wants them. Conditions: as there. By an AI agent.
-/
namespace Go.Proofs.YtmaamlnooepogaaGreat.walkX
open Go.RowKit Go.Proofs.YtmaamlnooepogaaGreat.base Go.Proofs.YtmaamlnooepogaaGreat.ints Go.Proofs.YtmaamlnooepogaaGreat.sig Go.Proofs.YtmaamlnooepogaaGreat.term Go.Proofs.YtmaamlnooepogaaGreat.marks Go.Proofs.YtmaamlnooepogaaGreat.app Go.Proofs.YtmaamlnooepogaaGreat.sym Go.Proofs.YtmaamlnooepogaaGreat.varsOf Go.Proofs.YtmaamlnooepogaaGreat.shape Go.Proofs.YtmaamlnooepogaaGreat.kindsR Go.Proofs.YtmaamlnooepogaaGreat.kindsW Go.Proofs.YtmaamlnooepogaaGreat.ruleMath Go.Proofs.YtmaamlnooepogaaGreat.walkMath Go.Proofs.YtmaamlnooepogaaGreat.walkSpec Go.Proofs.YtmaamlnooepogaaGreat.walkImpl
end Go.Proofs.YtmaamlnooepogaaGreat.walkX
end

section
/-
  CONTRACTS: spec.JoinedWalk. Conditions: the arguments read as data ('Rd'), at most 1048576 numbers. Written by a program of mine (mkwalkspecc.py). By an AI agent.
-/
namespace Go.Proofs.YtmaamlnooepogaaGreat.walkSpec
open Go.RowKit Go.Proofs.YtmaamlnooepogaaGreat.base Go.Proofs.YtmaamlnooepogaaGreat.ints Go.Proofs.YtmaamlnooepogaaGreat.sig Go.Proofs.YtmaamlnooepogaaGreat.term Go.Proofs.YtmaamlnooepogaaGreat.termOk Go.Proofs.YtmaamlnooepogaaGreat.endAt Go.Proofs.YtmaamlnooepogaaGreat.endOf Go.Proofs.YtmaamlnooepogaaGreat.marks Go.Proofs.YtmaamlnooepogaaGreat.app Go.Proofs.YtmaamlnooepogaaGreat.sym Go.Proofs.YtmaamlnooepogaaGreat.sub Go.Proofs.YtmaamlnooepogaaGreat.segs Go.Proofs.YtmaamlnooepogaaGreat.segsHelp Go.Proofs.YtmaamlnooepogaaGreat.kinds Go.Proofs.YtmaamlnooepogaaGreat.termFacts Go.Proofs.YtmaamlnooepogaaGreat.same Go.Proofs.YtmaamlnooepogaaGreat.shifted Go.Proofs.YtmaamlnooepogaaGreat.shape Go.Proofs.YtmaamlnooepogaaGreat.kindsR Go.Proofs.YtmaamlnooepogaaGreat.kindsW Go.Proofs.YtmaamlnooepogaaGreat.varsOf Go.Proofs.YtmaamlnooepogaaGreat.ruleMath Go.Proofs.YtmaamlnooepogaaGreat.ruleSpec Go.Proofs.YtmaamlnooepogaaGreat.stepMath Go.Proofs.YtmaamlnooepogaaGreat.walkMath Go.Proofs.YtmaamlnooepogaaGreat.stepSpec Go.Proofs.YtmaamlnooepogaaGreat.ownL Go.Proofs.YtmaamlnooepogaaGreat.heldT
set_option maxRecDepth 100000

/-! ### a walk and whether there is one -/
def AnsWalk (w : World) (k : Wk) (b : Bool) (e : Ending) (w' : World) : Prop := ∃ A0 n0 c0 A1 n1 c1, e = .returned (.tuple #[.agg #[.slice A0 n0 c0, .slice A1 n1 c1], .bool b]) ∧ Owned w' w.heap.size w'.heap.size sWalk [.slice A0 n0 c0, .slice A1 n1 c1] k ∧ Below w.heap.size w w'
theorem owned_zero (w : World) (lo hi : Nat) : Owned w lo hi sWalk [.slice none 0 0, .slice none 0 0] (([], []) : List Int × List St) :=
  ⟨[], ⟨[.slice none 0 0], [.slice none 0 0], [], [], rfl, rfl, ⟨none, 0, 0, rfl, rfl, .inl ⟨rfl, rfl, rfl, rfl⟩⟩, ⟨none, 0, 0, rfl, rfl, .inl ⟨rfl, rfl, rfl, rfl⟩⟩⟩, List.nodup_nil, fun k hk => by cases hk⟩
theorem owned_walk {w : World} {lo mid hi : Nat} {X O : Option Addr} {xn xc n c : Nat} {f : List Int} {L : List St} (h : Ownd w lo mid X xn xc f) (h2 : OwnL w mid hi 86 sStep O n c L) (h3 : lo ≤ mid) (h4 : mid ≤ hi) : Owned w lo hi sWalk [.slice X xn xc, .slice O n c] (f, L) :=
  Owned.cat (ow_ints.2 h) h2.owned (Nat.le_refl _) h3 h4
theorem ansWalk_no {w w' : World} {k : Wk} {b : Bool} (h : k = ([], []) ∧ b = false) (hb : Below w.heap.size w w') : AnsWalk w k b (.returned (.tuple #[.agg #[.slice none 0 0, .slice none 0 0], .bool false])) w' :=
  ⟨none, 0, 0, none, 0, 0, by rw [h.2], by rw [h.1]; exact owned_zero _ _ _, hb⟩
def joinB (sg : List Int) (rs : List Rl) (a b : Wk) : Bool := (walkB sg rs a && walkB sg rs b) && (decide (endL a = b.1) && decide (a.2.length + b.2.length ≤ 60))
def joinW (sg : List Int) (rs : List Rl) (a b : Wk) : Wk := if joinB sg rs a b = true then (a.1, a.2 ++ b.2) else ([], [])
section
variable {sg : List Int} {rs : List Rl} {a b : Wk}
theorem join_off (h : joinB sg rs a b = false) : joinW sg rs a b = ([], []) ∧ joinB sg rs a b = false := ⟨by unfold joinW; rw [if_neg (by rw [h]; simp)], h⟩
theorem join_no1 (h : walkB sg rs a = false) : joinW sg rs a b = ([], []) ∧ joinB sg rs a b = false := join_off (by unfold joinB; rw [h]; rfl)
theorem join_no2 (h : walkB sg rs b = false) : joinW sg rs a b = ([], []) ∧ joinB sg rs a b = false := join_off (by unfold joinB; rw [h, Bool.and_false]; rfl)
theorem join_no3 (h : decide (endL a = b.1) = false) : joinW sg rs a b = ([], []) ∧ joinB sg rs a b = false := join_off (by unfold joinB; rw [h]; simp)
theorem join_no4 (h : ¬ a.2.length + b.2.length ≤ 60) : joinW sg rs a b = ([], []) ∧ joinB sg rs a b = false := join_off (by unfold joinB; rw [decide_eq_false h]; simp)
theorem join_yes (h1 : walkB sg rs a = true) (h2 : walkB sg rs b = true) (h3 : decide (endL a = b.1) = true) (h4 : a.2.length + b.2.length ≤ 60) : joinW sg rs a b = (a.1, a.2 ++ b.2) ∧ joinB sg rs a b = true := by
  have h : joinB sg rs a b = true := by unfold joinB; rw [h1, h2, h3, decide_eq_true h4]; rfl
  exact ⟨by unfold joinW; rw [if_pos h], h⟩
end

structure Jn (w : World) (a v f s f' s' : Value) (wr : World) : Prop where
  r0 : Row wr w.heap.size 29 #[a, v]
  r1 : Row wr (w.heap.size + 1) 32 #[f, s]
  r2 : Row wr (w.heap.size + 1 + 1) 32 #[f', s']
  r3 : Row wr (w.heap.size + 1 + 1 + 1) 32 #[.slice none 0 0, .slice none 0 0]
  b : Below w.heap.size w wr
section
variable {w wr w' : World} {a v f s f' s' : Value}
theorem Jn.next (h : Jn w a v f s f' s' wr) (hb : Below wr.heap.size wr w') : Jn w a v f s f' s' w' := ⟨h.r0.next hb, h.r1.next hb, h.r2.next hb, h.r3.next hb, next_trans h.b hb⟩
theorem Jn.drew (h : Jn w a v f s f' s' wr) : Jn w a v f s f' s' wr.drew := h.next (drew_below wr)
theorem Jn.below {lo : Nat} (h : Jn w a v f s f' s' wr) (hb : Below lo wr w') (hl : w.heap.size + 1 + 1 + 1 + 1 ≤ lo) : Jn w a v f s f' s' w' := ⟨h.r0.below hb (by omega), h.r1.below hb (by omega), h.r2.below hb (by omega), h.r3.below hb (by omega), h.b.trans (hb.mono (by omega))⟩
theorem Jn.size (h : Jn w a v f s f' s' wr) : w.heap.size + 1 + 1 + 1 + 1 ≤ wr.heap.size := h.r3.lt
end
theorem jn_new (w : World) (a v f s f' s' : Value) : ∃ W, W = (((w.alloc (.cells #[a, v] 29)).alloc (.cells #[f, s] 32)).alloc (.cells #[f', s'] 32)).alloc (.cells #[.slice none 0 0, .slice none 0 0] 32) ∧ Jn w a v f s f' s' W := by
  refine ⟨_, rfl, ?_, ?_, ?_, ?_, ?_⟩
  · exact (((Row.new w _ _).alloc _).alloc _).alloc _
  · have := ((Row.new (w.alloc (.cells #[a, v] 29)) 32 #[f, s]).alloc (.cells #[f', s'] 32)).alloc (.cells #[.slice none 0 0, .slice none 0 0] 32)
    simpa using this
  · have := (Row.new ((w.alloc (.cells #[a, v] 29)).alloc (.cells #[f, s] 32)) 32 #[f', s']).alloc (.cells #[.slice none 0 0, .slice none 0 0] 32)
    simpa using this
  · have := Row.new (((w.alloc (.cells #[a, v] 29)).alloc (.cells #[f, s] 32)).alloc (.cells #[f', s'] 32)) 32 #[.slice none 0 0, .slice none 0 0]
    simpa using this
  · exact ((((Below.refl _ _).alloc (Nat.le_refl _) _).alloc (by simp) _).alloc (by simp; omega) _).alloc (by simp; omega) _

end Go.Proofs.YtmaamlnooepogaaGreat.walkSpec
end
