/-
  MERGED: my texts StepImpl, AnyR, RuleImpl, RuleImplB, StepImplB, StepImplC, WalkImpl, ParRoot, Stk, PartsSpec, ParSpec, one behind the other, as they are. By an AI agent.
-/
import Derived.Test.YtjfpejohpjaahaaMFnExactParallelTo4
import Derived.Deep.WholeRow
import Derived.Shelf.Abstract
import Derived.BigQuiet
import Derived.Deep.Onto
import Derived.Deep.RegionHeld3
import Derived.Deep.QuietTactic
namespace Go.Proofs.Ytjfpejohpjaahaa
section
open List (setIfInBounds_toArray set_cons_zero set_cons_succ getElem_toArray getElem_cons_zero getElem_cons_succ)
namespace stepImpl
open Go.RowKit base ints sig term termOk endAt marks app sym sub segs segsHelp kinds termFacts termMath posMath plainMath gives fillMath matchMath matchSpec whole takeMath take extended varsOf shape kindsR ruleMath ruleSpec stepMath walkMath stepSpec heldT
set_option maxRecDepth 100000
theorem wp_rowStore {P : Program} {o : Oper} {a : Act} {w : World} {K : Act → World → Prop} {Q : Exit → Act → World → Prop} (ty : TypeId) (x y : Operand) (ho : o.op = .store ty x y) (g : Nat) (cells old : Array Value) (t : TypeId) (hx : a.eval x = .pointer (some ⟨g, 0, none⟩)) (hy : a.eval y = .agg cells)
  (hg : w.heap[g]? = some (.cells old t (0, 0))) (hi : (P.info? ty).map (·.size) = some cells.size) (hs : old.size = cells.size) (h1 : cells.all (·.oneCell') = true) (h : K (a.put o.dst undef) (w.setRow g cells)) : Oper.wp P o a w K Q := by
 unfold Oper.wp execOp
 simp only [ho, hx, hy, Instr.storeAt, Instr.sureAddr, Sem.run_bind, Sem.run_pure, Result.andThen_ok, run_storeVar_row w g t ty old cells hg hi hs h1]
 exact h
theorem run_build0 {P : Program} {o : Oper} {a : Act} {w : World} (t : TypeId) (ho : o.op = .build t #[]) (z : Array Value) (hz : P.built t [] = some z) : (execOp a.eval o).run P w = .ok (.value (.agg z)) w := by
 unfold execOp
 simp [ho, Sem.run_bind, run_build w t #[] z hz, Result.andThen_ok]
theorem seg_down {w : World} {g n : Nat} {A : Option Addr} {xs : List Int} {T : TypeId} {cs : Array Value} (h : Seg w (g + 1) A n xs) (hr : Row w g T cs) (hc : ∀ (i : Nat) (x : Int), cs[i]? ≠ some (Value.int .i64 x)) : Seg w g A n xs := by
 refine ⟨h.1, fun hn => ?_⟩
 obtain ⟨b, off, e, hb, hcell⟩ := h.2 hn
 refine ⟨b, off, e, ?_, hcell⟩
 by_cases hbg : b = g
 ·exfalso
  subst hbg
  have := hcell 0 hn
  rw [hr.cell] at this
  exact hc _ _ this
 ·omega
theorem tab_down {w : World} {g : Nat} {rs : Array Value} {s : List (List Int)} {T : TypeId} {cs : Array Value} (h : TabR w (g + 1) rs s) (hr : Row w g T cs) (hc : ∀ (i : Nat) (x : Int), cs[i]? ≠ some (Value.int .i64 x)) : TabR w g rs s := by
 refine ⟨h.1, h.2.1, fun j hj => ?_⟩
 obtain ⟨A, n, c, e, hs, hcap⟩ := h.2.2 j hj
 exact ⟨A, n, c, e, seg_down hs hr hc, hcap⟩
theorem z24_nums (i : Nat) (x : Int) : z24[i]? ≠ some (Value.int .i64 x) := by
 unfold z24
 rw [Array.getElem?_replicate]
 split
 ·intro e; injection e with e; cases e
 ·intro e; cases e
theorem two_nums {A V : Option Addr} {n c q cv : Nat} (i : Nat) (x : Int) : (#[.slice A n c, .slice V q cv] : Array Value)[i]? ≠ some (Value.int .i64 x) := by
 match i with
 | 0 => intro e; injection e with e; cases e
 | 1 => intro e; injection e with e; cases e
 | i + 2 => intro e; simp at e
set_option maxHeartbeats 4000000 in
theorem matchAt (a v u : Value) (d : Dat sSystem) (t : List Int) (x k : Nat) (w : World) (h : Rd w w.heap.size sSystem [a, v] d) (ht : Rd w w.heap.size sI [u] t) (hz : sz sSystem d ≤ 1048576) (hok : rightB d.1 d.2 t = true) (hx : x < t.length) (hk : k < d.2.length) :
  Calls Try.prog 150 #[.agg #[a, v], u, .int .i64 (x : Int), .int .i64 (k : Int)] w (AnsExt w (mst d.1 t (d.2.getD k ([], [])).1 x s0)) := by
 obtain ⟨T, m, c, rfl, hT, hcT⟩ := rd_ints.1 ht
 obtain ⟨oks, okt⟩ := right_parts hok
 have hm : m ≤ 60 := by have := (term_len okt).2; have := hT.1; omega
 obtain ⟨A, n, cs, V, q, cv, rfl, rfl, hs, hc, hcv, hq, hn, hq1, hrs, hsg, hE⟩ := rd_sys h hz
 rw [hq] at hk
 obtain ⟨b, off, l, rr, y, rfl, hb, ey, cl, cr, hry⟩ := rd_at hrs (Below.refl _ _) hq hk
 have hzy : sz sRule y ≤ 1048576 := by rw [← ey.out]; exact hE k hk
 have okr : ruleOkB d.1 y = true := by rw [← ey.out]; exact sys_rule oks (by rw [hq]; exact hk)
 obtain ⟨P, pn, pc, P', pn', pc', rfl, rfl, sP, kP, sP', kP', hpn, hpn'⟩ := rd_rule hry hzy
 rw [ey.out]
 obtain ⟨W, hW, rA, rB, bel⟩ := box2 w 79 172 #[.slice A n cs, .slice (some ⟨b, off, none⟩) q cv] z24
 have HW := Lib.hid hW
 have okl := (rule_parts okr).1
 have hpn60 : pn ≤ 60 := by have := (term_len okl).2; have := sP.1; omega
 have LX := Lib.hid (extended A P T n cs pn pc m c d.1 y.1 t x z24 s0 W.drew (hs.next bel.drew) (sP.next bel.drew) (hT.next bel.drew) hn hpn60 hm hcT.1 hcT.2.1 (by rw [← hT.1]; exact hx) okl okt (TabR.new _ _) (fun j => by rw [s0_get]; simp))
 obtain ⟨R, hR⟩ : ∃ R, mst d.1 t y.1 x s0 = R := ⟨_, rfl⟩
 rw [hR] at LX ⊢
 have zA : w.heap.size < W.heap.size := rA.lt
 have zB : b < W.heap.size := by omega
 have K0 : W.cell? ⟨w.heap.size, 0, none⟩ = some (.slice A n cs) := rA.cell 0
 have K1 : W.cell? ⟨w.heap.size, 1, none⟩ = some (.slice (some ⟨b, off, none⟩) q cv) := rA.cell 1
 have K2 : W.cell? ⟨b, off + k * 2, none⟩ = some (.slice P pn pc) := (bel.cell (p := ⟨b, off + k * 2, none⟩) hb).trans cl
 have i0 : (0 : Int) ≤ (k : Int) := by omega
 have i1 : (k : Int) < (q : Int) := by omega
 have zW : W.heap.size = w.heap.size + 1 + 1 := by rw [hW]; simp
 have RA := Lib.hid rA
 have BEL := Lib.hid bel
 clear hW h hs hc hcv hq hrs hsg hE ht hT hcT oks okt okr okl sP kP sP' kP' hry hzy hx hok hz ey rA bel cl cr hR hpn hpn' hpn60 hq1
 go_enter Try.func150, Try.ntmps150
 go_upto_region 1 with (refine rowAlloc rfl 172 rfl z24 zero_b ?_)
 rw [← HW.out]
 refine AnyT.start (S := (fun w' => w'.cell? ⟨w.heap.size, 0, none⟩ = some (.slice A n cs) ∧ w'.cell? ⟨w.heap.size, 1, none⟩ = some (.slice (some ⟨b, off, none⟩) q cv) ∧ w'.cell? ⟨b, off + k * 2, none⟩ = some (.slice P pn pc))) (fun j => j == 15) (by kernel_rfl) ⟨K0, K1, K2⟩ (fun hHeld => ?_)
 refine AnyT.takeA (i := 0) (v := .agg z24) rfl (by kernel_rfl) (by kernel_rfl) (by kernel_rfl) (fun _ _ _ h => h) (Or.inl ⟨by rfl, fun w0 _ => run_build0 172 rfl z24 built_b⟩) ?_
 try simp only [Act.put, setIfInBounds_toArray, set_cons_zero, set_cons_succ, getElem_toArray, getElem_cons_zero, getElem_cons_succ]
 refine AnyT.takeA (i := 1) (v := ?_) rfl (by kernel_rfl) (by kernel_rfl) (by kernel_rfl) (fun _ _ _ h => h) (Or.inl ⟨by rfl, ?_⟩) ?_
 rotate_left 1
 ·(intro w0 _; go_simp; try with_reducible rfl)
 try simp only [Act.put, setIfInBounds_toArray, set_cons_zero, set_cons_succ, getElem_toArray, getElem_cons_zero, getElem_cons_succ]
 refine AnyT.take (i := 2) (v := ?_) rfl (by kernel_rfl) (by kernel_rfl) (by kernel_rfl) (by kernel_rfl) (fun _ _ _ h => h) (Or.inl ⟨by rfl, ?_⟩) (by assumption) ?_
 rotate_left 1
 ·(intro w0 hSw; (try dsimp only at hSw); go_simp; try with_reducible rfl)
 try simp only [Act.put, setIfInBounds_toArray, set_cons_zero, set_cons_succ, getElem_toArray, getElem_cons_zero, getElem_cons_succ]
 refine AnyT.takeA (i := 3) (v := ?_) rfl (by kernel_rfl) (by kernel_rfl) (by kernel_rfl) (fun _ _ _ h => h) (Or.inl ⟨by rfl, ?_⟩) ?_
 rotate_left 1
 ·(intro w0 _; go_simp; try with_reducible rfl)
 try simp only [Act.put, setIfInBounds_toArray, set_cons_zero, set_cons_succ, getElem_toArray, getElem_cons_zero, getElem_cons_succ]
 refine AnyT.takeA (i := 4) (v := ?_) rfl (by kernel_rfl) (by kernel_rfl) (by kernel_rfl) (fun _ _ _ h => h) (Or.inl ⟨by rfl, ?_⟩) ?_
 rotate_left 1
 ·(intro w0 _; go_simp; try with_reducible rfl)
 try simp only [Act.put, setIfInBounds_toArray, set_cons_zero, set_cons_succ, getElem_toArray, getElem_cons_zero, getElem_cons_succ]
 refine AnyT.takeA (i := 5) (v := ?_) rfl (by kernel_rfl) (by kernel_rfl) (by kernel_rfl) (fun _ _ _ h => h) (Or.inl ⟨by rfl, ?_⟩) ?_
 rotate_left 1
 ·(intro w0 _; go_simp; try with_reducible rfl)
 try simp only [Act.put, setIfInBounds_toArray, set_cons_zero, set_cons_succ, getElem_toArray, getElem_cons_zero, getElem_cons_succ]
 refine AnyT.take (i := 6) (v := ?_) rfl (by kernel_rfl) (by kernel_rfl) (by kernel_rfl) (by kernel_rfl) (fun _ _ _ h => h) (Or.inl ⟨by rfl, ?_⟩) (by assumption) ?_
 rotate_left 1
 ·(intro w0 hSw; (try dsimp only at hSw); go_simp; try with_reducible rfl)
 try simp only [Act.put, setIfInBounds_toArray, set_cons_zero, set_cons_succ, getElem_toArray, getElem_cons_zero, getElem_cons_succ]
 refine AnyT.takeA (i := 7) (v := ?_) rfl (by kernel_rfl) (by kernel_rfl) (by kernel_rfl) (fun _ _ _ h => h) (Or.inl ⟨by rfl, ?_⟩) ?_
 rotate_left 1
 ·(intro w0 _; go_simp; try with_reducible rfl)
 try simp only [Act.put, setIfInBounds_toArray, set_cons_zero, set_cons_succ, getElem_toArray, getElem_cons_zero, getElem_cons_succ]
 refine AnyT.take (i := 8) (v := ?_) rfl (by kernel_rfl) (by kernel_rfl) (by kernel_rfl) (by kernel_rfl) (fun _ _ _ h => h) (Or.inl ⟨by rfl, ?_⟩) (by assumption) ?_
 rotate_left 1
 ·(intro w0 hSw; (try dsimp only at hSw); go_simp; try with_reducible rfl)
 try simp only [Act.put, setIfInBounds_toArray, set_cons_zero, set_cons_succ, getElem_toArray, getElem_cons_zero, getElem_cons_succ]
 refine AnyT.takeA (i := 9) (v := ?_) rfl (by kernel_rfl) (by kernel_rfl) (by kernel_rfl) (fun _ _ _ h => h) (Or.inl ⟨by rfl, ?_⟩) ?_
 rotate_left 1
 ·(intro w0 _; go_simp; try with_reducible rfl)
 try simp only [Act.put, setIfInBounds_toArray, set_cons_zero, set_cons_succ, getElem_toArray, getElem_cons_zero, getElem_cons_succ]
 refine AnyT.takeA (i := 10) (v := ?_) rfl (by kernel_rfl) (by kernel_rfl) (by kernel_rfl) (fun _ _ _ h => h) (Or.inl ⟨by rfl, ?_⟩) ?_
 rotate_left 1
 ·(intro w0 _; go_simp; try with_reducible rfl)
 try simp only [Act.put, setIfInBounds_toArray, set_cons_zero, set_cons_succ, getElem_toArray, getElem_cons_zero, getElem_cons_succ]
 refine AnyT.takeA (i := 11) (v := ?_) rfl (by kernel_rfl) (by kernel_rfl) (by kernel_rfl) (fun _ _ _ h => h) (Or.inl ⟨by rfl, ?_⟩) ?_
 rotate_left 1
 ·(intro w0 _; go_simp; try with_reducible rfl)
 try simp only [Act.put, setIfInBounds_toArray, set_cons_zero, set_cons_succ, getElem_toArray, getElem_cons_zero, getElem_cons_succ]
 refine AnyT.call (i := 12) (by kernel_rfl) rfl (fun K hK => ?_)
 try simp only [Act.put, setIfInBounds_toArray, set_cons_zero, set_cons_succ, getElem_toArray, getElem_cons_zero, getElem_cons_succ]
 rw [if_pos (by rfl)]
 go_simp
 (go_at_call 152; refine LX.out.mono ?_; rintro e w3 ⟨rs, rfl, tab, hsz, bb⟩; have K03 : w3.cell? ⟨w.heap.size, 0, none⟩ = some (.slice A n cs) := (bb.cell (p := ⟨w.heap.size, 0, none⟩) zA).trans K0; have K13 : w3.cell? ⟨w.heap.size, 1, none⟩ = some (.slice (some ⟨b, off, none⟩) q cv) := (bb.cell (p := ⟨w.heap.size, 1, none⟩) zA).trans K1; have K23 : w3.cell? ⟨b, off + k * 2, none⟩ = some (.slice P pn pc) := (bb.cell (p := ⟨b, off + k * 2, none⟩) zB).trans K2; have one := Lib.hid tab.one; have h24 := Lib.hid tab.1; have r3 := Lib.hid (Row.next (Row.drew rB) bb); go_wp2_with fail)
 refine hK.out _ _ (fun _ _ => ?_) (fun hKeep => ?_)
 ·exact ⟨K03, K13, K23⟩
 replace hHeld := hKeep (by rfl) hHeld
 clear hK K hKeep
 try simp only [Act.put, setIfInBounds_toArray, set_cons_zero, set_cons_succ, getElem_toArray, getElem_cons_zero, getElem_cons_succ]
 refine AnyT.takeA (i := 13) (v := ?_) rfl (by kernel_rfl) (by kernel_rfl) (by kernel_rfl) (fun _ _ _ h => h) (Or.inl ⟨by rfl, ?_⟩) ?_
 rotate_left 1
 ·(intro w0 _; go_simp; try with_reducible rfl)
 try simp only [Act.put, setIfInBounds_toArray, set_cons_zero, set_cons_succ, getElem_toArray, getElem_cons_zero, getElem_cons_succ]
 refine AnyT.takeA (i := 14) (v := ?_) rfl (by kernel_rfl) (by kernel_rfl) (by kernel_rfl) (fun _ _ _ h => h) (Or.inl ⟨by rfl, ?_⟩) ?_
 rotate_left 1
 ·(intro w0 _; go_simp; try with_reducible rfl)
 try simp only [Act.put, setIfInBounds_toArray, set_cons_zero, set_cons_succ, getElem_toArray, getElem_cons_zero, getElem_cons_succ]
 refine AnyT.call (i := 15) (by kernel_rfl) rfl (fun K hK => ?_)
 try simp only [Act.put, setIfInBounds_toArray, set_cons_zero, set_cons_succ, getElem_toArray, getElem_cons_zero, getElem_cons_succ]
 rw [if_pos (by rfl)]
 refine wp_rowStore 172 _ _ rfl (w.heap.size + 1) rs z24 172 rfl rfl r3.out (by rw [h24.out]; exact size_b) (by rw [h24.out]; rfl) one.out ?_
 refine hK.out _ _ (fun h => by cases h) (fun _ => ?_)
 clear hK K
 try simp only [Act.put, setIfInBounds_toArray, set_cons_zero, set_cons_succ, getElem_toArray, getElem_cons_zero, getElem_cons_succ]
 refine AnyT.takeA (i := 16) (v := ?_) rfl (by kernel_rfl) (by kernel_rfl) (by kernel_rfl) (fun _ _ _ h => h) (Or.inl ⟨by rfl, ?_⟩) ?_
 rotate_left 1
 ·(intro w0 _; go_simp; try with_reducible rfl)
 try simp only [Act.put, setIfInBounds_toArray, set_cons_zero, set_cons_succ, getElem_toArray, getElem_cons_zero, getElem_cons_succ]
 refine AnyT.done (by kernel_rfl) ?_ _
 have r1 := r3.out
 have r0 := RA.out.drew.next bb
 have bx : Below w.heap.size w w3 := BEL.out.drew.trans (bb.mono BEL.out.size)
 have tab2 : TabR w3 w.heap.size rs (R.getD s0) := tab_down (tab_down (by have := tab; rw [show W.drew.heap.size = W.heap.size from rfl, zW] at this; exact this) r1 z24_nums) r0 two_nums
 have F : AnsExt w R (.returned (.tuple #[.agg rs, .bool R.isSome])) (w3.setRow (w.heap.size + 1) rs) :=
  ⟨rs, rfl, tab2.keep (keep_of (grown_setRow w3 (w.heap.size + 1) rs) bx.size (fun k e => by injection e; omega)), hsz, Below.btw bx (Btw.of_grown (lo := w.heap.size) (hi := w.heap.size + 1 + 1) (grown_setRow w3 (w.heap.size + 1) rs) (fun k e => by injection e; omega)) (Nat.le_refl _) bx.size⟩
 have HF := Lib.hid F
 have H3 := Lib.hid (Row.setRow r1 rs)
 clear F r1 r0 bx tab2 tab bb
 go_wp2
 (try simp only [Exit.inBlock, Exit.then])
 refine bodyPost_ret (v := .tuple #[.agg rs, .bool R.isSome]) ?_ rfl HF.out
 exact results_row_tmp Try.results150 _ (w.heap.size + 1) 172 rs _ rfl H3.out Try.underlying172 rfl (by rw [h24.out]; exact size_b)
end stepImpl
end
section
open Go.Lib (hid)
namespace anyR
open Go.RowKit base ints sig segs varsOf shape kindsR ruleMath
set_option maxRecDepth 100000
theorem any_of {α : Type} [Inhabited α] {f : α → Bool} {xs : List α} {k : Nat} {x z : α} (hk : k < xs.length) (ex : xs.getD k z = x) (h : f x = true) : xs.any f = true := by
 rw [List.any_eq_true]
 refine ⟨xs[k], List.getElem_mem hk, ?_⟩
 have : xs.getD k z = xs[k] := by simp [List.getD, hk]
 rw [← this, ex]; exact h
theorem none_of {α : Type} {f : α → Bool} {xs : List α} {z : α} (h : ∀ j, j < xs.length → f (xs.getD j z) = false) : xs.any f = false := by
 rw [List.any_eq_false]
 intro x hx
 obtain ⟨i, hi, rfl⟩ := List.getElem_of_mem hx
 have := h i hi
 simpa [List.getD, hi] using this
theorem mem_at {α : Type} {xs : List α} {k : Nat} {x z : α} (hk : k < xs.length) (ex : xs.getD k z = x) : x ∈ xs := by
 have : xs.getD k z = xs[k] := by simp [List.getD, hk]
 rw [← ex, this]; exact List.getElem_mem hk
def TestsI (g : Nat) (fa lb : Array Value) (w : World) (xs : List Int) (f : Int → Bool) : Prop := ∀ (W : World) (x : Int), Below w.heap.size w W → x ∈ xs → Calls Try.prog g (fa ++ #[.int .i64 x] ++ lb) W (AnsB W (f x))
def AnsIxI (w : World) (f : Int → Bool) (xs : List Int) (e : Ending) (w' : World) : Prop := ∃ z : Int, e = .returned (.int .i64 z) ∧ -1 ≤ z ∧ z ≤ 1048576 ∧ decide (0 ≤ z) = xs.any f ∧ Below w.heap.size w w'
def HeadIxI (w : World) (n : Nat) (f : Int → Bool) (xs : List Int) (i : Value) (wr : World) : Prop := ∃ k : Nat, k ≤ n ∧ i = .int .i64 k ∧ (∀ j, j < k → f (xs.getD j 0) = false) ∧ Below w.heap.size w wr
set_option maxHeartbeats 2000000 in
theorem indexFuncI (g : Nat) (fa lb : Array Value) (eg : ∀ args w, (callFunc g args).run Try.prog w = .ok (.enter g args) w) (f : Int → Bool) (A : Option Addr) (n c : Nat) (xs : List Int) (w : World) (hT : TestsI g fa lb w xs f)
  (h : Rd w w.heap.size sI [.slice A n c] xs) (hl : xs.length = n) (hn : n ≤ 1048576) :
  Calls Try.prog 139 #[.slice A n c, .func (.func g) fa lb] w (AnsIxI w f xs) := by
 have HL := hid hl
 have HK := hid hT
 have HR := hid h
 have HH : Hid (HeadIxI w n f xs (.int .i64 0) w) := hid ⟨0, Nat.zero_le _, rfl, fun j hj => absurd hj (Nat.not_lt_zero _), Below.refl _ _⟩
 clear hT h hl
 go_enter Try.func139, Try.ntmps139
 go_wp2_with fail
 go_loopw [8] (fun i wr => HeadIxI w n f xs i wr) (fun i _ => n - (intOf i).toNat)
 case atStart => exact HH.out
 case round =>
  obtain ⟨k, hk, rfl, hlow, hb⟩ := hrel
  have HLOW := hid hlow
  clear hlow HH
  by_cases hlt : k < n
  ·have hkD : k < xs.length := by rw [HL.out]; exact hlt
   obtain ⟨b, off, x, rfl, hbB, hx0, ex⟩ := HR.out.seg.spot hlt
   have hx : wr.cell? ⟨b, off + k, none⟩ = some (.int .i64 x) := (hb.cell (p := ⟨b, off + k, none⟩) hbB).trans hx0
   have hcall := HK.out wr x hb (mem_at hkD ex.out)
   obtain ⟨v, hv⟩ : ∃ v, f x = v := ⟨_, rfl⟩
   rw [hv] at hcall
   have HV := hid hv
   have HC := hid hcall
   have i0 : (0 : Int) ≤ (k : Int) := by omega
   have i1 : (k : Int) < (n : Int) := by omega
   clear hv hcall
   cases v with
   | true =>
    go_wp2_with (first
     | (go_at_fn g; refine HC.out.mono ?_; rintro e w1 ⟨rfl, bb⟩))
    have F : AnsIxI w f xs (.returned (.int .i64 (k : Int))) w1 := ⟨k, rfl, by omega, by omega, by rw [decide_eq_true (by omega)]; exact (any_of hkD ex.out HV.out).symm, next_trans hb bb⟩
    have HF := hid F
    clear F bb hb HC
    go_wp2
    go_ret
    exact HF.out
   | false =>
    go_wp2_with (first
     | (go_at_fn g; refine HC.out.mono ?_; rintro e w1 ⟨rfl, bb⟩))
    have S1 : HeadIxI w n f xs (.int .i64 ((k : Int) + 1)) w1 := ⟨k + 1, hlt, by simp, fun j hj => by
     by_cases e : j = k
     ·rw [e, ex.out]; exact HV.out
     ·exact HLOW.out j (by omega), next_trans hb bb⟩
    have HS1 := hid S1
    clear S1 bb hb HC
    go_wp2
    go_roundw
    case rel => exact HS1.out
    case measure => simp [intOf]; omega
  ·have F : AnsIxI w f xs (.returned (.int .i64 (-1))) wr := ⟨-1, rfl, by omega, by omega, (none_of (fun j hj => HLOW.out j (by rw [HL.out] at hj; omega))).symm, hb⟩
   have HF := hid F
   clear F hb
   go_wp2
   go_ret
   exact HF.out
theorem containsFuncI (g : Nat) (fa lb : Array Value) (eg : ∀ args w, (callFunc g args).run Try.prog w = .ok (.enter g args) w) (f : Int → Bool) (A : Option Addr) (n c : Nat) (xs : List Int) (w : World) (hT : TestsI g fa lb w xs f)
  (h : Rd w w.heap.size sI [.slice A n c] xs) (hl : xs.length = n) (hn : n ≤ 1048576) :
  Calls Try.prog 115 #[.slice A n c, .func (.func g) fa lb] w (AnsB w (xs.any f)) := by
 have L := hid (indexFuncI g fa lb eg f A n c xs w hT h hl hn)
 clear h hl hT
 go_enter Try.func115, Try.ntmps115
 go_wp2_with fail
 refine L.out.mono ?_
 rintro e w' ⟨z, rfl, h1, h2, hz, bb⟩
 have HZ := hid hz
 have HB := hid bb
 clear hz L bb
 go_wp2
 go_ret
 exact ⟨by rw [← HZ.out]; rfl, HB.out⟩
end anyR
end
section
open Go.Lib (hid)
namespace ruleImpl
open Go.RowKit base ints sig term termOk marks app sym segs termFacts varsMath varsOf rename same count linear shape kindsR ruleMath ruleSpec anyR
set_option maxRecDepth 100000
theorem containsI (A : Option Addr) (n c : Nat) (xs : List Int) (x : Int) (w : World) (h : Seg w w.heap.size A n xs) (hn : n ≤ 1048576) :
  Calls Try.prog 114 #[.slice A n c, .int .i64 x] w fun e w' => w = w' ∧ e = .returned (.bool (decide (x ∈ xs))) := by
 have L := hid (indexOf A n c xs x w h hn)
 clear h
 go_enter Try.func114, Try.ntmps114
 go_wp2_with fail
 refine L.out.mono ?_
 rintro e w' ⟨rfl, rfl⟩
 have E : decide (0 ≤ indexI xs x) = decide (x ∈ xs) := decide_eq_decide.2 (by unfold indexI; split <;> simp_all)
 have HE := hid E
 clear L E
 generalize indexI xs x = z at *
 go_wp2
 go_ret
 exact ⟨rfl, by rw [← HE.out]; rfl⟩
set_option maxHeartbeats 1000000 in
theorem ruleNew (g : Nat) (A1 : Option Addr) (n1 c1 : Nat) (r : Value) (t : List Int) (x : Int) (W : World) (hr : Row W g 75 #[.slice A1 n1 c1, r]) (h : Seg W W.heap.size A1 n1 t) (hn : n1 ≤ 1048576) :
  Calls Try.prog 113 #[.int .i64 x, .pointer (some ⟨g, 0, none⟩)] W (AnsB W (newB t x)) := by
 have L := hid (containsI A1 n1 c1 t x W h hn)
 have c0 : W.cell? ⟨g, 0, none⟩ = some (.slice A1 n1 c1) := hr.cell 0
 clear h hr
 by_cases hx : x < 0
 ·have hd : decide (x < 0) = true := decide_eq_true hx
  have E : (!decide (x ∈ t)) = newB t x := by unfold newB; by_cases h : x ∈ t <;> simp [h, hx]
  have HE := hid E
  clear E
  go_enter Try.func113, Try.ntmps113
  go_wp2_with fail
  refine L.out.mono ?_
  rintro e w' ⟨rfl, rfl⟩
  have F : AnsB W (newB t x) (.returned (.bool (!decide (x ∈ t)))) W := ⟨by rw [HE.out], Below.refl _ _⟩
  have HF := hid F
  clear L F
  generalize decide (x ∈ t) = z at *
  go_wp2
  go_ret
  exact HF.out
 ·have hd : decide (x < 0) = false := decide_eq_false hx
  have F : AnsB W (newB t x) (.returned (.bool false)) W := ⟨by unfold newB; rw [decide_eq_false (fun h => hx h.1)], Below.refl _ _⟩
  have HF := hid F
  clear F L
  go_enter Try.func113, Try.ntmps113
  go_wp2
  go_ret
  exact HF.out
theorem rule_all {sg : List Int} {d : Rl} (h1 : termOkB sg d.1 = true) (h2 : termOkB sg d.2 = true) (h0 : ¬ hd d.1 < 0) : ruleOkB sg d = !d.2.any (newB d.1) := by
 unfold ruleOkB; rw [h1, h2, decide_eq_false h0]; rfl
set_option maxHeartbeats 4000000 in
theorem implRuleOk (a l r : Value) (sg : List Int) (d : Dat sRule) (w : World) (h : Rd w w.heap.size sI [a] sg) (h' : Rd w w.heap.size sRule [l, r] d) (hz : sz sI sg ≤ 1048576) (hz' : sz sRule d ≤ 1048576) :
  Calls Try.prog 75 #[.agg #[a], .agg #[l, r]] w (AnsB w (ruleOkB sg d)) := by
 have g1 := (parts_Rule h').2
 obtain ⟨A, n, c, rfl, hs, hc⟩ := rd_ints.1 h
 have hn := len_ints hs.1 hz
 obtain ⟨A1, n1, c1, A2, n2, c2, rfl, rfl, s1, k1, s2, k2, hn1, hn2⟩ := rd_rule h' hz'
 obtain ⟨W, hW, rA, rR, bel⟩ := box2 w 29 75 #[.slice A n c] #[.slice A1 n1 c1, .slice A2 n2 c2]
 have HW := hid hW
 have HL1 := hid s1.1
 have HL2 := hid s2.1
 have L1 := hid (implTermOk A A1 n c n1 c1 sg d.1 W (hs.next bel) (s1.next bel) hn hn1)
 have L2 := hid (fun (w1 : World) (bb : Below w.heap.size w w1) => implTermOk A A2 n c n2 c2 sg d.2 w1 (hs.next bb) (s2.next bb) hn hn2)
 have LC := hid (fun (w1 : World) (bb : Below w.heap.size w w1) (hr : Row w1 (w.heap.size + 1) 75 #[.slice A1 n1 c1, .slice A2 n2 c2]) => containsFuncI 113 #[] #[.pointer (some ⟨w.heap.size + 1, 0, none⟩)] (fun _ _ => rfl) (newB d.1) A2 n2 c2 d.2 w1
  (fun W x hW _ => ruleNew (w.heap.size + 1) A1 n1 c1 (.slice A2 n2 c2) d.1 x W (hr.next hW) (s1.next (next_trans bb hW)) hn1) (g1.next bb) s2.1 hn2)
 clear hW h h' hz hz' hs hc k1 k2 g1
 cases ok1 : termOkB sg d.1 with
 | false =>
  have HS := hid ok1
  clear ok1 s1 s2
  go_enter Try.func75, Try.ntmps75
  go_wp2_with fail
  rw [← HW.out]
  refine L1.out.mono ?_
  rintro e w1 ⟨he, bb⟩
  rw [HS.out] at he
  subst he
  have F := hid (ansB (b := ruleOkB sg d) (a := false) (by rw [rule_noL HS.out]) (next_trans bel bb))
  clear bb bel rA rR
  go_wp2
  go_ret
  exact F.out
 | true =>
  have hp1 := (term_len ok1).1
  rw [s1.1] at hp1
  obtain ⟨b, off, x, rfl, hbB, hx, ex⟩ := s1.spot (k := 0) (by omega)
  have HS := hid ok1
  have EX := hid (show hd d.1 = x from ex.out)
  have i0 : (0 : Int) < (n1 : Int) := by omega
  clear ok1 ex
  go_enter Try.func75, Try.ntmps75
  go_wp2_with fail
  rw [← HW.out]
  refine L1.out.mono ?_
  rintro e w1 ⟨he, bb⟩
  rw [HS.out] at he
  subst he
  replace rA := rA.next bb
  replace rR := rR.next bb
  replace bel := next_trans bel bb
  have cA : w1.cell? ⟨w.heap.size, 0, none⟩ = some (.slice A n c) := rA.cell 0
  have cR : w1.cell? ⟨w.heap.size + 1, 1, none⟩ = some (.slice A2 n2 c2) := rR.cell 1
  clear bb L1
  go_wp2_with fail
  refine (L2.out w1 bel).mono ?_
  cases ok2 : termOkB sg d.2 with
  | false =>
   have HS2 := hid ok2
   clear ok2
   rintro e w2 ⟨he, bb⟩
   rw [HS2.out] at he
   subst he
   have F := hid (ansB (b := ruleOkB sg d) (a := false) (by rw [rule_noR HS2.out]) (next_trans bel bb))
   clear bb bel rA rR cA cR s1 s2
   go_wp2
   go_ret
   exact F.out
  | true =>
   have HS2 := hid ok2
   clear ok2
   rintro e w2 ⟨he, bb⟩
   rw [HS2.out] at he
   subst he
   replace rR := rR.next bb
   replace bel := next_trans bel bb
   have cR0 : w2.cell? ⟨w.heap.size + 1, 0, none⟩ = some (.slice (some ⟨b, off, none⟩) n1 c1) := rR.cell 0
   have cX : w2.cell? ⟨b, off, none⟩ = some (.int .i64 x) := by have := (bel.cell (p := ⟨b, off + 0, none⟩) hbB).trans hx; simpa using this
   clear bb rA cA cR L2
   by_cases hneg : x < 0
   ·have F := hid (ansB (b := ruleOkB sg d) (a := false) (by rw [rule_var (by rw [EX.out]; exact hneg)]) bel)
    have hdx : decide (x < 0) = true := decide_eq_true hneg
    clear bel rR s1 s2 LC
    go_wp2
    go_ret
    exact F.out
   ·have hdx : decide (x < 0) = false := decide_eq_false hneg
    have cR1 : w2.cell? ⟨w.heap.size + 1, 1, none⟩ = some (.slice A2 n2 c2) := rR.cell 1
    have LC2 := hid (LC.out w2 bel rR)
    have hmf : ∀ (fn : Fn) (first cap : Array Value) (w : World), (Instr.makeFunc fn first cap).run Try.prog w = .ok (.func fn first cap) w := fun _ _ _ _ => rfl
    have E := hid (rule_all HS.out HS2.out (by rw [EX.out]; exact hneg))
    clear LC s1 s2
    go_wp2_with fail
    refine LC2.out.mono ?_
    obtain ⟨z, hzz⟩ : ∃ z, d.2.any (newB d.1) = z := ⟨_, rfl⟩
    rw [hzz] at E
    rintro e w3 ⟨he, bb⟩
    rw [hzz] at he
    subst he
    have F := hid (ansB (b := ruleOkB sg d) (a := !z) E.out.symm (next_trans bel bb))
    clear bb bel rR cR0 cR1 cX LC2 E hzz
    go_wp2
    go_ret
    exact F.out
end ruleImpl
end
section
open Go.Lib (hid)
namespace ruleImpl
open Go.RowKit base ints sig term termOk marks app sym segs termFacts varsMath varsOf rename same count linear shape kindsR ruleMath ruleSpec anyR
set_option maxRecDepth 100000
def sysV (a v : Value) (ok : Bool) : Value := if ok = true then .agg #[a, v] else .agg #[.slice none 0 0, .slice none 0 0]
def AnsSys (w : World) (a v : Value) (ok : Bool) (e : Ending) (w' : World) : Prop := e = .returned (.tuple #[sysV a v ok, .bool ok]) ∧ Below w.heap.size w w'
def HeadSO (w : World) (T T' : TypeId) (cs cs' : Array Value) (n : Nat) (f : Rl → Bool) (rs : List Rl) (i : Value) (wr : World) : Prop :=
 ∃ k : Nat, k ≤ n ∧ i = .int .i64 k ∧ (∀ j, j < k → f (rs.getD j ([], [])) = true) ∧ Row wr w.heap.size T cs ∧ Row wr (w.heap.size + 1) T' cs' ∧ Below w.heap.size w wr
theorem headSO_step {w wr : World} {T T' : TypeId} {cs cs' : Array Value} {n k : Nat} {f : Rl → Bool} {rs : List Rl} {x : Rl} (hk : k < n) (hlow : ∀ j, j < k → f (rs.getD j ([], [])) = true) (ex : Hid (rs.getD k ([], []) = x)) (h : f x = true) (hr : Row wr w.heap.size T cs) (hr' : Row wr (w.heap.size + 1) T' cs') (hb : Below w.heap.size w wr) : HeadSO w T T' cs cs' n f rs (.int .i64 ((k : Int) + 1)) wr :=
 ⟨k + 1, hk, by simp, fun j hj => by
  by_cases e : j = k
  ·subst e; rw [ex.out]; exact h
  ·exact hlow j (by omega), hr, hr', hb⟩
set_option maxHeartbeats 8000000 in
theorem systemOf (a v : Value) (d : Dat sSystem) (w : World) (h : Rd w w.heap.size sSystem [a, v] d) (hz : sz sSystem d ≤ 1048576) :
  Calls Try.prog 45 #[.agg #[a, v]] w (AnsSys w a v (sysOkB d.1 d.2)) := by
 have hzs := hid (sys_szs hz)
 obtain ⟨A, n, c, V, m, cv, rfl, rfl, hs, hc, hcv, hm, hn, hm1, hrs, hsg, hE⟩ := rd_sys h hz
 obtain ⟨W, hW, rA, rR, bel⟩ := box2 w 32 79 #[.slice A n c, .slice V m cv] #[.slice none 0 0, .slice none 0 0]
 have HW := hid hW
 have HM := hid hm
 have HE := hid hE
 have HR := hid hrs
 have L1 := hid (implSigOk A n c d.1 W (hs.next bel) hn)
 have LR := hid (fun (w1 : World) (l r : Value) (x : Dat sRule) (bb : Below w.heap.size w w1) (hx : Rd w1 w1.heap.size sRule [l, r] x) (hzx : sz sRule x ≤ 1048576) => implRuleOk (.slice A n c) l r d.1 x w1 (hsg.next bb) hx hzs.out.1 hzx)
 clear hW h hz hs hc hcv hm hE hrs hsg
 cases ok1 : sigOkB d.1 with
 | false =>
  have HS := hid ok1
  clear ok1
  go_enter Try.func45, Try.ntmps45
  go_wp2_with fail
  rw [← HW.out]
  refine L1.out.mono ?_
  rintro e w1 ⟨he, bb⟩
  rw [HS.out] at he
  subst he
  replace rR := rR.next bb
  replace bel := next_trans bel bb
  have y0 : w1.cell? ⟨w.heap.size + 1, 0, none⟩ = some (.slice none 0 0) := rR.cell 0
  have y1 : w1.cell? ⟨w.heap.size + 1, 1, none⟩ = some (.slice none 0 0) := rR.cell 1
  have f0 := rR.free 0
  have f1 := rR.free 1
  have r1 := rR.put 0 (.slice none 0 0)
  have y2 : (w1.setCell ⟨w.heap.size + 1, 0, none⟩ (.slice none 0 0)).cell? ⟨w.heap.size + 1, 1, none⟩ = some (.slice none 0 0) := r1.cell 1
  have f2 := r1.free 1
  have r2 := r1.put 1 (.slice none 0 0)
  have u0 : ((w1.setCell ⟨w.heap.size + 1, 0, none⟩ (.slice none 0 0)).setCell ⟨w.heap.size + 1, 1, none⟩ (.slice none 0 0)).cell? ⟨w.heap.size + 1, 0, none⟩ = some (.slice none 0 0) := r2.cell 0
  have u1 : ((w1.setCell ⟨w.heap.size + 1, 0, none⟩ (.slice none 0 0)).setCell ⟨w.heap.size + 1, 1, none⟩ (.slice none 0 0)).cell? ⟨w.heap.size + 1, 1, none⟩ = some (.slice none 0 0) := r2.cell 1
  have F : AnsSys w (.slice A n c) (.slice V m cv) (sysOkB d.1 d.2) (.returned (.tuple #[.agg #[.slice none 0 0, .slice none 0 0], .bool false])) ((w1.setCell ⟨w.heap.size + 1, 0, none⟩ (.slice none 0 0)).setCell ⟨w.heap.size + 1, 1, none⟩ (.slice none 0 0)) :=
   ⟨by rw [sys_sig HS.out]; rfl, (bel.setCell (by simp) _).setCell (by simp) _⟩
  have HF := hid F
  clear F bel rA rR bb r1 r2 LR
  go_wp2
  exact bodyPost_ret (v := .tuple #[.agg #[.slice none 0 0, .slice none 0 0], .bool false]) (by simp [results, Try.results45, go_sem, u0, u1]) rfl HF.out
 | true =>
  have HS := hid ok1
  clear ok1
  go_enter Try.func45, Try.ntmps45
  go_wp2_with fail
  rw [← HW.out]
  refine L1.out.mono ?_
  rintro e w1 ⟨he, bb⟩
  rw [HS.out] at he
  subst he
  replace rA := rA.next bb
  replace rR := rR.next bb
  replace bel := next_trans bel bb
  have cR : w1.cell? ⟨w.heap.size, 1, none⟩ = some (.slice V m cv) := rA.cell 1
  clear bb L1
  by_cases h12 : m ≤ 12
  ·have H0 : Hid (HeadSO w 32 79 #[.slice A n c, .slice V m cv] #[.slice none 0 0, .slice none 0 0] m (ruleOkB d.1) d.2 (.int .i64 0) w1) := hid ⟨0, Nat.zero_le _, rfl, fun j hj => absurd hj (Nat.not_lt_zero _), rA, rR, bel⟩
   clear rA rR bel
   go_wp2_with fail
   go_loopw [20] (fun i wr => HeadSO w 32 79 #[.slice A n c, .slice V m cv] #[.slice none 0 0, .slice none 0 0] m (ruleOkB d.1) d.2 i wr) (fun i _ => m - (intOf i).toNat)
   case atStart => exact H0.out
   case round =>
    obtain ⟨k, hk, rfl, hlow, rr, rs, hb⟩ := hrel
    have HLOW := hid hlow
    clear hlow H0 cR
    have cA0 : wr.cell? ⟨w.heap.size, 0, none⟩ = some (.slice A n c) := rr.cell 0
    have cA1 : wr.cell? ⟨w.heap.size, 1, none⟩ = some (.slice V m cv) := rr.cell 1
    by_cases hlt : k < m
    ·obtain ⟨b, off, l, r, x, rfl, hbB, ex, hc0, hc1, hx⟩ := rd_at HR.out hb HM.out hlt
     have hzx : sz sRule x ≤ 1048576 := by have := HE.out k hlt; rw [ex.out] at this; exact this
     obtain ⟨A1, n1, c1, A2, n2, c2, rfl, rfl, s1, k1, s2, k2, hn1, hn2⟩ := rd_rule hx hzx
     obtain ⟨w2, hw2⟩ : ∃ x, x = wr.alloc (.cells #[.slice A1 n1 c1, .slice A2 n2 c2] 75) := ⟨_, rfl⟩
     have bb : Below wr.heap.size wr w2 := by rw [hw2]; exact (Below.refl _ _).alloc (Nat.le_refl _) _
     have rx : Row w2 wr.heap.size 75 #[.slice A1 n1 c1, .slice A2 n2 c2] := by rw [hw2]; exact Row.new wr 75 #[.slice A1 n1 c1, .slice A2 n2 c2]
     have rr2 := rr.next bb
     have rs2 := rs.next bb
     have hb2 := next_trans hb bb
     have L := hid (LR.out w2 (.slice A1 n1 c1) (.slice A2 n2 c2) x hb2 ((hx.more hb.size).next bb) hzx)
     have x0 : w2.cell? ⟨wr.heap.size, 0, none⟩ = some (.slice A1 n1 c1) := rx.cell 0
     have x1 : w2.cell? ⟨wr.heap.size, 1, none⟩ = some (.slice A2 n2 c2) := rx.cell 1
     have x2 : w2.cell? ⟨w.heap.size, 0, none⟩ = some (.slice A n c) := rr2.cell 0
     have X0 := x0
     have X1 := x1
     have X2 := x2
     rw [hw2] at X0 X1 X2
     have HW2 := hid hw2
     have i0 : (0 : Int) ≤ (k : Int) := by omega
     have i1 : (k : Int) < (m : Int) := by omega
     clear hx hzx s1 s2 k1 k2 rr rs hb bb rx hw2
     go_wp2_with fail
     rw [← HW2.out]
     refine L.out.mono ?_
     cases ok : ruleOkB d.1 x with
     | false =>
      have HO := hid ok
      clear ok
      rintro e w3 ⟨he, bb⟩
      subst he
      have rR := rs2.next bb
      have bel := next_trans hb2 bb
      have y0 : w3.cell? ⟨w.heap.size + 1, 0, none⟩ = some (.slice none 0 0) := rR.cell 0
      have y1 : w3.cell? ⟨w.heap.size + 1, 1, none⟩ = some (.slice none 0 0) := rR.cell 1
      have f0 := rR.free 0
      have f1 := rR.free 1
      have r1 := rR.put 0 (.slice none 0 0)
      have y2 : (w3.setCell ⟨w.heap.size + 1, 0, none⟩ (.slice none 0 0)).cell? ⟨w.heap.size + 1, 1, none⟩ = some (.slice none 0 0) := r1.cell 1
      have f2 := r1.free 1
      have r2 := r1.put 1 (.slice none 0 0)
      have u0 : ((w3.setCell ⟨w.heap.size + 1, 0, none⟩ (.slice none 0 0)).setCell ⟨w.heap.size + 1, 1, none⟩ (.slice none 0 0)).cell? ⟨w.heap.size + 1, 0, none⟩ = some (.slice none 0 0) := r2.cell 0
      have u1 : ((w3.setCell ⟨w.heap.size + 1, 0, none⟩ (.slice none 0 0)).setCell ⟨w.heap.size + 1, 1, none⟩ (.slice none 0 0)).cell? ⟨w.heap.size + 1, 1, none⟩ = some (.slice none 0 0) := r2.cell 1
      have F : AnsSys w (.slice A n c) (.slice (some ⟨b, off, none⟩) m cv) (sysOkB d.1 d.2) (.returned (.tuple #[.agg #[.slice none 0 0, .slice none 0 0], .bool false])) ((w3.setCell ⟨w.heap.size + 1, 0, none⟩ (.slice none 0 0)).setCell ⟨w.heap.size + 1, 1, none⟩ (.slice none 0 0)) :=
       ⟨by rw [sys_bad (k := k) (by rw [HM.out]; exact hlt) (by rw [ex.out]; exact HO.out)]; rfl, (bel.setCell (by simp) _).setCell (by simp) _⟩
      have HF := hid F
      clear F bel rR bb r1 r2 LR rr2 rs2 hb2 x0 x1 x2 X0 X1 X2 cA0 cA1 hc0 hc1 L
      go_wp2
      exact bodyPost_ret (v := .tuple #[.agg #[.slice none 0 0, .slice none 0 0], .bool false]) (by simp [results, Try.results45, go_sem, u0, u1]) rfl HF.out
     | true =>
      have HO := hid ok
      clear ok
      rintro e w3 ⟨he, bb⟩
      subst he
      have F := hid (headSO_step (f := ruleOkB d.1) (w := w) hlt HLOW.out ex HO.out (rr2.next bb) (rs2.next bb) (next_trans hb2 bb))
      clear bb rr2 rs2 hb2 L x0 x1 x2 X0 X1 X2 cA0 cA1 hc0 hc1
      go_wp2
      go_roundw
      case rel => exact F.out
      case measure => simp [intOf]; omega
    ·have OK := hid (show sysOkB d.1 d.2 = true from sys_good HS.out (by rw [HM.out]; exact h12) (fun j hj => HLOW.out j (by rw [HM.out] at hj; omega)))
     have y0 : wr.cell? ⟨w.heap.size + 1, 0, none⟩ = some (.slice none 0 0) := rs.cell 0
     have f0 := rs.free 0
     have r1 := rs.put 0 (.slice A n c)
     have y2 : (wr.setCell ⟨w.heap.size + 1, 0, none⟩ (.slice A n c)).cell? ⟨w.heap.size + 1, 1, none⟩ = some (.slice none 0 0) := r1.cell 1
     have f2 := r1.free 1
     have r2 := r1.put 1 (.slice V m cv)
     have u0 : ((wr.setCell ⟨w.heap.size + 1, 0, none⟩ (.slice A n c)).setCell ⟨w.heap.size + 1, 1, none⟩ (.slice V m cv)).cell? ⟨w.heap.size + 1, 0, none⟩ = some (.slice A n c) := r2.cell 0
     have u1 : ((wr.setCell ⟨w.heap.size + 1, 0, none⟩ (.slice A n c)).setCell ⟨w.heap.size + 1, 1, none⟩ (.slice V m cv)).cell? ⟨w.heap.size + 1, 1, none⟩ = some (.slice V m cv) := r2.cell 1
     have F : AnsSys w (.slice A n c) (.slice V m cv) (sysOkB d.1 d.2) (.returned (.tuple #[.agg #[.slice A n c, .slice V m cv], .bool true])) ((wr.setCell ⟨w.heap.size + 1, 0, none⟩ (.slice A n c)).setCell ⟨w.heap.size + 1, 1, none⟩ (.slice V m cv)) :=
      ⟨by rw [OK.out]; rfl, (hb.setCell (by simp) _).setCell (by simp) _⟩
     have HF := hid F
     clear F hb rr rs r1 r2 LR
     go_wp2
     exact bodyPost_ret (v := .tuple #[.agg #[.slice A n c, .slice V m cv], .bool true]) (by simp [results, Try.results45, go_sem, u0, u1]) rfl HF.out
  ·have i1 : (12 : Int) < (m : Int) := by omega
   have y0 : w1.cell? ⟨w.heap.size + 1, 0, none⟩ = some (.slice none 0 0) := rR.cell 0
   have y1 : w1.cell? ⟨w.heap.size + 1, 1, none⟩ = some (.slice none 0 0) := rR.cell 1
   have f0 := rR.free 0
   have f1 := rR.free 1
   have r1 := rR.put 0 (.slice none 0 0)
   have y2 : (w1.setCell ⟨w.heap.size + 1, 0, none⟩ (.slice none 0 0)).cell? ⟨w.heap.size + 1, 1, none⟩ = some (.slice none 0 0) := r1.cell 1
   have f2 := r1.free 1
   have r2 := r1.put 1 (.slice none 0 0)
   have u0 : ((w1.setCell ⟨w.heap.size + 1, 0, none⟩ (.slice none 0 0)).setCell ⟨w.heap.size + 1, 1, none⟩ (.slice none 0 0)).cell? ⟨w.heap.size + 1, 0, none⟩ = some (.slice none 0 0) := r2.cell 0
   have u1 : ((w1.setCell ⟨w.heap.size + 1, 0, none⟩ (.slice none 0 0)).setCell ⟨w.heap.size + 1, 1, none⟩ (.slice none 0 0)).cell? ⟨w.heap.size + 1, 1, none⟩ = some (.slice none 0 0) := r2.cell 1
   have F : AnsSys w (.slice A n c) (.slice V m cv) (sysOkB d.1 d.2) (.returned (.tuple #[.agg #[.slice none 0 0, .slice none 0 0], .bool false])) ((w1.setCell ⟨w.heap.size + 1, 0, none⟩ (.slice none 0 0)).setCell ⟨w.heap.size + 1, 1, none⟩ (.slice none 0 0)) :=
    ⟨by rw [sys_long HM.out h12]; rfl, (bel.setCell (by simp) _).setCell (by simp) _⟩
   have HF := hid F
   clear F bel rA rR r1 r2 LR
   go_wp2
   exact bodyPost_ret (v := .tuple #[.agg #[.slice none 0 0, .slice none 0 0], .bool false]) (by simp [results, Try.results45, go_sem, u0, u1]) rfl HF.out
end ruleImpl
end
section
open Go.Lib (hid)
open List (setIfInBounds_toArray set_cons_zero set_cons_succ getElem_toArray getElem_cons_zero getElem_cons_succ)
namespace stepImpl
open Go.RowKit base ints sig term termOk endAt inside marks app sym sub segs segsHelp kinds termFacts termMath posMath plainMath gives Go.Proofs.Ytjfpejohpjaahaa.look fillMath matchMath matchSpec whole takeMath take extended varsOf shape kindsR ruleMath ruleSpec ruleImpl stepMath walkMath stepSpec heldT
set_option maxRecDepth 100000
theorem step_by {sg : List Int} {x : Rl} {t : List Int} {a : Nat} {L : Nat → List Int} (hx : ruleOkB sg x = true) (ht : termOkB sg t = true) (ha : a < t.length) (hL : Turns sg x.1 (subL sg t a) L) :
  stepO sg x t a = if (fillL L x.2).length ≤ 60 ∧ (putAt sg t (fillL L x.2) a).length ≤ 60 then some (putAt sg t (fillL L x.2) a) else none := by
 obtain ⟨h1, h2, h3, h4⟩ := rule_parts hx
 have hs := sub_ok ht ha
 obtain ⟨ss, hm, hg⟩ := turns_match h1 hs hL
 rw [match_yes h1 hs] at hm
 have g := gives_of h1 hs hm
 have e : fillL (givesL ss) x.2 = fillL L x.2 := fill_ext (fun y hy h0 => by
  have hy1 := h4 y hy h0
  show givesL ss (vr y) = L (vr y)
  rw [g.2 y hy1 h0]
  exact hg y hy1 h0)
 unfold stepO
 rw [hm]
 dsimp only
 rw [e]
theorem at_turns {sg p t : List Int} {k : Nat} {s : List (List Int)} (h1 : termOkB sg p = true) (h2 : termOkB sg t = true) (h : mst sg t p k s0 = some s) : Turns sg p (subL sg t k) (givesL s) := by
 have hx : ∀ x ∈ p, -24 ≤ x := fun x hx => (term_mem h1 hx).1
 obtain ⟨⟨rest, e⟩, hv⟩ := mst_sound h2 h (by rfl) hx
 have hg : ∀ x ∈ p, x < 0 → givesL s (vr x) = s.getD (vr x) [] := fun x hx h0 => by
  have this : scan sg 1 (s.getD (vr x) []) = some (s.getD (vr x) []).length := hv x hx h0
  unfold givesL
  rw [if_neg ?_]
  intro e0
  have e1 : s.getD (vr x) [] = [] := List.length_eq_zero_iff.1 e0
  rw [e1] at this
  exact absurd this (by simp [scan])
 have ef : fillL (givesL s) p = fillL (fun i => s.getD i []) p := fill_ext fun x hx h0 => hg x hx h0
 refine ⟨?_, fun x hx h0 => by rw [hg x hx h0]; exact hv x hx h0⟩
 rw [ef]
 have a := scan_append (r := rest) (scan_fill (L := fun i => s.getD i []) (term_parts h1).2.2 hv)
 rw [← e] at a
 unfold subL
 rw [len1_eq a, e, List.take_left' rfl]
theorem reduce_by {sg : List Int} {x : Rl} {t : List Int} {a : Nat} {s : List (List Int)} (hx : ruleOkB sg x = true) (ht : termOkB sg t = true) (ha : a < t.length) (h : mst sg t x.1 a s0 = some s) :
  (stepO sg x t a).getD [] = put.putR sg t (fillL (givesL s) x.2) (a : Int) ∧ (stepO sg x t a).isSome = put.putB sg t (fillL (givesL s) x.2) (a : Int) := by
 obtain ⟨h1, h2, h3, h4⟩ := rule_parts hx
 obtain ⟨s1, s2, s3⟩ := term_parts ht
 have hT := at_turns h1 ht h
 have hth : thereB sg t (a : Int) = true := there_yes ht (by omega) (by omega)
 have hterm : termOkB sg (fillL (givesL s) x.2) = decide ((fillL (givesL s) x.2).length ≤ 60) := by
  by_cases hl : (fillL (givesL s) x.2).length ≤ 60
  ·rw [decide_eq_true hl]
   exact term_mk s1 hl (scan_fill (term_parts h2).2.2 (fun y hy h0 => hT.2 y (h4 y hy h0) h0))
  ·rw [decide_eq_false hl]
   cases e : termOkB sg (fillL (givesL s) x.2) with
   | false => rfl
   | true => exact absurd (term_len e).2 hl
 rw [step_by hx ht ha hT]
 unfold put.putR put.putB
 rw [hth, hterm, Bool.true_and, Int.toNat_natCast]
 unfold put.fitB
 have e1 : put.putI sg t (fillL (givesL s) x.2) a = putAt sg t (fillL (givesL s) x.2) a := rfl
 rw [e1]
 by_cases hl : (fillL (givesL s) x.2).length ≤ 60
 ·by_cases hh : (putAt sg t (fillL (givesL s) x.2) a).length ≤ 60
  ·rw [if_pos ⟨hl, hh⟩, decide_eq_true hl, decide_eq_true hh]; exact ⟨rfl, rfl⟩
  ·rw [if_neg (fun h => hh h.2), decide_eq_true hl, decide_eq_false hh]; exact ⟨rfl, rfl⟩
 ·rw [if_neg (fun h => hl h.1), decide_eq_false hl]; exact ⟨rfl, rfl⟩
theorem red_at {sg : List Int} {x : Rl} {t : List Int} {a : Nat} (hx : ruleOkB sg x = true) (ht : termOkB sg t = true) (ha : a < t.length) : (mst sg t x.1 a s0).isSome = redB sg x t a := by
 obtain ⟨h1, _⟩ := rule_parts hx
 rw [mst_at h1 ht ha]
 unfold redB instB
 rw [match_yes h1 (sub_ok ht ha)]
set_option maxHeartbeats 1000000 in
theorem lookB (cs : Array Value) (s : List (List Int)) (w : World) (htab : TabR w w.heap.size cs s) :
  Calls Try.prog 151 #[.agg cs] w fun e w' => ∃ g, e = .returned (.func (.func 155) #[] #[.pointer (some ⟨g, 0, none⟩)]) ∧ Row w' g 144 #[.slice (some ⟨w.heap.size, 0, none⟩) 24 24] ∧ Segs w' w'.heap.size (some ⟨w.heap.size, 0, none⟩) 24 s ∧ Below w.heap.size w w' ∧ w.heap.size ≤ g := by
 obtain ⟨W, hW⟩ : ∃ W, W = w.alloc (.cells cs 172) := ⟨_, rfl⟩
 have b0 : Below w.heap.size w W := by rw [hW]; exact (Below.refl _ _).alloc (Nat.le_refl _) _
 have r0 : Row W w.heap.size 172 cs := by rw [hW]; exact Row.new w _ _
 have s1 : Segs W W.heap.size (some ⟨w.heap.size, 0, none⟩) 24 s := (htab.below b0).segs r0 b0.size
 have HW := hid hW
 clear hW htab r0
 go_enter Try.func151, Try.ntmps151
 go_wp2_with (first
  | (refine rowBox rfl 172 _ rfl cs rfl ?_))
 rw [← HW.out]
 refine (lookupIn (some ⟨w.heap.size, 0, none⟩) 24 24 W).mono ?_
 rintro e w3 ⟨rfl, hw3⟩
 have b3 : Below W.heap.size W w3 := by rw [hw3]; exact (Below.refl _ _).alloc (Nat.le_refl _) _
 have r3 : Row w3 W.heap.size 144 #[.slice (some ⟨w.heap.size, 0, none⟩) 24 24] := by rw [hw3]; exact Row.new _ _ _
 have F := hid (show ∃ g, Ending.returned (.func (.func 155) #[] #[.pointer (some ⟨W.heap.size, 0, none⟩)]) = .returned (.func (.func 155) #[] #[.pointer (some ⟨g, 0, none⟩)]) ∧ Row w3 g 144 #[.slice (some ⟨w.heap.size, 0, none⟩) 24 24] ∧ Segs w3 w3.heap.size (some ⟨w.heap.size, 0, none⟩) 24 s ∧ Below w.heap.size w w3 ∧ w.heap.size ≤ g from ⟨_, rfl, r3, s1.next b3, next_trans b0 b3, b0.size⟩)
 clear hw3 b3 r3 s1 b0
 go_wp2
 go_ret
 exact F.out
theorem run_loadRow {P : Program} {o : Oper} {a : Act} {w : World} (ty : TypeId) (x : Operand) (ho : o.op = .load ty x) (g : Nat) (hx : a.eval x = .pointer (some ⟨g, 0, none⟩)) (t : TypeId) (cs : Array Value) (fz : Nat × Nat) (d : TypeDesc) (hg : w.heap[g]? = some (.cells cs t fz)) (hu : P.underlying ty = some d) (hd : (match d with | .struct _ | .array _ _ => true | _ => false) = true) (hi : (P.info? ty).map (·.size) = some cs.size) :
  (execOp a.eval o).run P w = .ok (.value (.agg cs)) w := by
 unfold execOp
 simp [ho, hx, Instr.loadAt, Instr.sureAddr, Sem.run_bind, Result.andThen_ok, run_loadVar_row w g t ty cs fz d hg hu hd hi]
set_option maxHeartbeats 4000000 in
theorem reduced (a v u : Value) (d : Dat sSystem) (t : List Int) (x k : Nat) (w : World) (h : Rd w w.heap.size sSystem [a, v] d) (ht : Rd w w.heap.size sI [u] t) (hz : sz sSystem d ≤ 1048576) (hok : rightB d.1 d.2 t = true) (hx : x < t.length) (hk : k < d.2.length) (hred : redB d.1 (d.2.getD k ([], [])) t x = true) :
  Calls Try.prog 148 #[.agg #[a, v], u, .int .i64 (x : Int), .int .i64 (k : Int)] w (AnsStep w (stepO d.1 (d.2.getD k ([], [])) t x)) := by
 obtain ⟨oks, okt⟩ := right_parts hok
 have h0 := h
 have ht0 := ht
 have hk0 := hk
 obtain ⟨T, m, c, rfl, hT, hcT⟩ := rd_ints.1 ht
 have hm : m ≤ 60 := by have := (term_len okt).2; have := hT.1; omega
 obtain ⟨A, n, cs, V, q, cv, rfl, rfl, hs, hc, hcv, hq, hn, hq1, hrs, hsg, hE⟩ := rd_sys h hz
 rw [hq] at hk
 obtain ⟨b, off, l, rr, y, rfl, hb, ey, cl, cr, hry⟩ := rd_at hrs (Below.refl _ _) hq hk
 have hzy : sz sRule y ≤ 1048576 := by rw [← ey.out]; exact hE k hk
 have okr : ruleOkB d.1 y = true := by rw [← ey.out]; exact sys_rule oks (by rw [hq]; exact hk)
 obtain ⟨P, pn, pc, P', pn', pc', rfl, rfl, sP, kP, sP', kP', hpn, hpn'⟩ := rd_rule hry hzy
 rw [ey.out] at hred ⊢
 obtain ⟨W, hW, rA, bel⟩ := box1 w 79 #[.slice A n cs, .slice (some ⟨b, off, none⟩) q cv]
 have HW := hid hW
 have okR := (rule_parts okr).2.1
 have hpn60 : pn' ≤ 60 := by have := (term_len okR).2; have := sP'.1; omega
 have LM := hid (matchAt _ _ _ d t x k W (h0.next bel) (ht0.next bel) hz hok hx hk0)
 rw [ey.out] at LM
 obtain ⟨s, hs0⟩ := Option.isSome_iff_exists.1 (show (mst d.1 t y.1 x s0).isSome = true by rw [red_at okr okt hx]; exact hred)
 rw [hs0] at LM
 have HRB := hid (reduce_by okr okt hx hs0)
 have zA0 : w.heap.size < W.heap.size := rA.lt
 have SS := hid (show Seg w w.heap.size A n d.1 ∧ Seg w w.heap.size T m t ∧ Seg w w.heap.size P' pn' y.2 ∧ m ≤ c ∧ c ≤ 9223372036854775807 from ⟨hs, hT, sP', hcT.1, hcT.2.1⟩)
 have HVS := hid (fun z (hz : z ∈ y.2) => (term_mem okR hz).1)
 have HFL := hid (fun (hM : ∀ i, (givesL s i).length ≤ 60) => (show (fillL (givesL s) y.2).length ≤ 1048576 by
  have h1 := fill_bound (L := givesL s) (t := y.2) (m := pn') (k := pn') (fun i => Nat.le_trans (hM i) (by omega)) sP'.1 hpn60
  rw [List.take_of_length_le (by rw [sP'.1]; exact Nat.le_refl _)] at h1
  omega))
 have K2w : w.cell? ⟨b, off + k * 2 + 1, none⟩ = some (.slice P' pn' pc') := cr
 have i0 : (0 : Int) ≤ (k : Int) := by omega
 have i1 : (k : Int) < (q : Int) := by omega
 have x1 : -9223372036854775808 ≤ (x : Int) := by omega
 have x2 : (x : Int) ≤ 9223372036854775807 := by have := hT.1; omega
 have BEL := hid bel
 have RA := hid rA
 clear hW h h0 ht ht0 hk0 hs hc hcv hq hrs hsg hE hT hcT oks okt okr okR sP kP sP' kP' hry hzy hx hok hz ey rA bel cl cr hs0 hpn hpn' hq1 hred
 go_enter Try.func148, Try.ntmps148
 go_wp2_with fail
 rw [← HW.out]
 refine LM.out.mono ?_
 rintro e w1 ⟨rs, rfl, tab, hsz, bb⟩
 have tab : TabR w1 W.heap.size rs s := tab
 have hsz : ∀ j, (s.getD j []).length ≤ 60 := hsz
 have h24 := hid tab.1
 have one := hid tab.one
 have HGV := hid (fun i => (show (givesL s i).length ≤ 60 by
  unfold givesL
  split
  ·simp [vt]
  ·exact hsz i))
 have TAB := hid tab
 have HB1 := hid bb
 clear LM tab hsz bb
 go_upto_region 2 with (first
  | (refine rowAlloc rfl 172 rfl z24 zero_b ?_)
  | (refine rowStore rfl 172 _ _ rfl w1.heap.size rs z24 172 rfl rfl (heap_alloc_new w1 _) (by rw [h24.out]; exact size_b) (by rw [h24.out]; rfl) one.out ?_; rw [World.setRow_alloc_new]))
 obtain ⟨w2, hw2⟩ : ∃ w2, w2 = w1.alloc (.cells rs 172) := ⟨_, rfl⟩
 rw [← hw2]
 have b12 : Below w1.heap.size w1 w2 := by rw [hw2]; exact (Below.refl _ _).alloc (Nat.le_refl _) _
 have b2 := next_trans HB1.out b12
 have zA : w.heap.size < w2.heap.size := Nat.lt_of_lt_of_le zA0 b2.size
 have zB : b < w2.heap.size := by omega
 have zC : w1.heap.size < w2.heap.size := by rw [hw2]; simp
 have rA2 := RA.out.next b2
 have bel2 := BEL.out.trans (b2.mono BEL.out.size)
 have K0 : w2.cell? ⟨w.heap.size, 0, none⟩ = some (.slice A n cs) := rA2.cell 0
 have K1 : w2.cell? ⟨w.heap.size, 1, none⟩ = some (.slice (some ⟨b, off, none⟩) q cv) := rA2.cell 1
 have K2 : w2.cell? ⟨b, off + k * 2 + 1, none⟩ = some (.slice P' pn' pc') := (bel2.cell (p := ⟨b, off + k * 2 + 1, none⟩) hb).trans K2w
 have K3 : w2.heap[w1.heap.size]? = some (.cells rs 172 (0, 0)) := by rw [hw2]; exact heap_alloc_new w1 _
 have LK := hid (lookB rs s w2.drew ((TAB.out.below (b12.mono HB1.out.size)).more (Nat.le_trans HB1.out.size b12.size)))
 have LFILL := hid (fun g (w3 : World) rg sg (bx : Below w2.drew.heap.size w2.drew w3) => fill 155 #[.pointer (some ⟨g, 0, none⟩)] (enters_of Try.func155 (by kernel_rfl) rfl) P' pn' pc' y.2 (givesL s) w3 (lookSubst g (some ⟨w2.heap.size, 0, none⟩) 24 24 s w3 rg sg (by omega)) (SS.out.2.2.1.next (bel2.drew.trans (bx.mono bel2.size))) hpn60 HVS.out (fun i => Nat.le_trans (HGV.out i) (by omega)))
 have LPUT := hid (fun O on oc (w4 : World) (bx : Below w2.drew.heap.size w2.drew w4) {lo : Nat} (oO : Own w4 lo (.slice O on oc) (fillL (givesL s) y.2)) => put.implPutAt A T O n cs m c on oc d.1 t (x : Int) (fillL (givesL s) y.2) w4 (SS.out.1.next (bel2.drew.trans (bx.mono bel2.size))) (SS.out.2.1.next (bel2.drew.trans (bx.mono bel2.size))) (Own.seg oO) hn (by omega) (by rw [Own.len oO]; exact HFL.out HGV.out) x1 x2 (own_cap oO) SS.out.2.2.2.1 SS.out.2.2.2.2)
 have BEL2 := hid bel2
 clear hw2 b12 b2 rA2 bel2 TAB BEL RA zA0
 refine AnyT.start (S := (fun w' => w'.cell? ⟨w.heap.size, 0, none⟩ = some (.slice A n cs) ∧ w'.cell? ⟨w.heap.size, 1, none⟩ = some (.slice (some ⟨b, off, none⟩) q cv) ∧ w'.cell? ⟨b, off + k * 2 + 1, none⟩ = some (.slice P' pn' pc') ∧ w'.heap[w1.heap.size]? = some (.cells rs 172 (0, 0)))) (fun _ => false) (by kernel_rfl) ⟨K0, K1, K2, K3⟩ (fun hHeld => ?_)
 refine AnyT.takeA (i := 0) (v := ?_) rfl (by kernel_rfl) (by kernel_rfl) (by kernel_rfl) (fun _ _ _ h => h) (Or.inl ⟨by rfl, ?_⟩) ?_
 rotate_left 1
 ·(intro w0 _; go_simp; try with_reducible rfl)
 try simp only [Act.put, setIfInBounds_toArray, set_cons_zero, set_cons_succ, getElem_toArray, getElem_cons_zero, getElem_cons_succ]
 refine AnyT.take (i := 1) (v := ?_) rfl (by kernel_rfl) (by kernel_rfl) (by kernel_rfl) (by kernel_rfl) (fun _ _ _ h => h) (Or.inl ⟨by rfl, ?_⟩) (by assumption) ?_
 rotate_left 1
 ·(intro w0 hSw; (try dsimp only at hSw); go_simp; try with_reducible rfl)
 try simp only [Act.put, setIfInBounds_toArray, set_cons_zero, set_cons_succ, getElem_toArray, getElem_cons_zero, getElem_cons_succ]
 refine AnyT.takeA (i := 2) (v := ?_) rfl (by kernel_rfl) (by kernel_rfl) (by kernel_rfl) (fun _ _ _ h => h) (Or.inl ⟨by rfl, ?_⟩) ?_
 rotate_left 1
 ·(intro w0 _; go_simp; try with_reducible rfl)
 try simp only [Act.put, setIfInBounds_toArray, set_cons_zero, set_cons_succ, getElem_toArray, getElem_cons_zero, getElem_cons_succ]
 refine AnyT.takeA (i := 3) (v := ?_) rfl (by kernel_rfl) (by kernel_rfl) (by kernel_rfl) (fun _ _ _ h => h) (Or.inl ⟨by rfl, ?_⟩) ?_
 rotate_left 1
 ·(intro w0 _; go_simp; try with_reducible rfl)
 try simp only [Act.put, setIfInBounds_toArray, set_cons_zero, set_cons_succ, getElem_toArray, getElem_cons_zero, getElem_cons_succ]
 refine AnyT.take (i := 4) (v := .agg rs) rfl (by kernel_rfl) (by kernel_rfl) (by kernel_rfl) (by kernel_rfl) (fun _ _ _ h => h) (Or.inl ⟨by rfl, ?_⟩) (by assumption) ?_
 ·(intro w0 hSw; exact run_loadRow 172 _ rfl w1.heap.size rfl 172 rs (0, 0) _ hSw.2.2.2 Try.underlying172 rfl (by rw [h24.out]; exact size_b))
 try simp only [Act.put, setIfInBounds_toArray, set_cons_zero, set_cons_succ, getElem_toArray, getElem_cons_zero, getElem_cons_succ]
 refine AnyT.takeA (i := 6) (v := ?_) rfl (by kernel_rfl) (by kernel_rfl) (by kernel_rfl) (fun _ _ _ h => h) (Or.inl ⟨by rfl, ?_⟩) ?_
 rotate_left 1
 ·(intro w0 _; go_simp; try with_reducible rfl)
 try simp only [Act.put, setIfInBounds_toArray, set_cons_zero, set_cons_succ, getElem_toArray, getElem_cons_zero, getElem_cons_succ]
 refine AnyT.take (i := 7) (v := ?_) rfl (by kernel_rfl) (by kernel_rfl) (by kernel_rfl) (by kernel_rfl) (fun _ _ _ h => h) (Or.inl ⟨by rfl, ?_⟩) (by assumption) ?_
 rotate_left 1
 ·(intro w0 hSw; (try dsimp only at hSw); go_simp; try with_reducible rfl)
 try simp only [Act.put, setIfInBounds_toArray, set_cons_zero, set_cons_succ, getElem_toArray, getElem_cons_zero, getElem_cons_succ]
 refine AnyT.takeA (i := 8) (v := ?_) rfl (by kernel_rfl) (by kernel_rfl) (by kernel_rfl) (fun _ _ _ h => h) (Or.inl ⟨by rfl, ?_⟩) ?_
 rotate_left 1
 ·(intro w0 _; go_simp; try with_reducible rfl)
 try simp only [Act.put, setIfInBounds_toArray, set_cons_zero, set_cons_succ, getElem_toArray, getElem_cons_zero, getElem_cons_succ]
 refine AnyT.takeA (i := 9) (v := ?_) rfl (by kernel_rfl) (by kernel_rfl) (by kernel_rfl) (fun _ _ _ h => h) (Or.inl ⟨by rfl, ?_⟩) ?_
 rotate_left 1
 ·(intro w0 _; go_simp; try with_reducible rfl)
 try simp only [Act.put, setIfInBounds_toArray, set_cons_zero, set_cons_succ, getElem_toArray, getElem_cons_zero, getElem_cons_succ]
 refine AnyT.takeA (i := 10) (v := ?_) rfl (by kernel_rfl) (by kernel_rfl) (by kernel_rfl) (fun _ _ _ h => h) (Or.inl ⟨by rfl, ?_⟩) ?_
 rotate_left 1
 ·(intro w0 _; go_simp; try with_reducible rfl)
 try simp only [Act.put, setIfInBounds_toArray, set_cons_zero, set_cons_succ, getElem_toArray, getElem_cons_zero, getElem_cons_succ]
 refine AnyT.take (i := 11) (v := ?_) rfl (by kernel_rfl) (by kernel_rfl) (by kernel_rfl) (by kernel_rfl) (fun _ _ _ h => h) (Or.inl ⟨by rfl, ?_⟩) (by assumption) ?_
 rotate_left 1
 ·(intro w0 hSw; (try dsimp only at hSw); go_simp; try with_reducible rfl)
 try simp only [Act.put, setIfInBounds_toArray, set_cons_zero, set_cons_succ, getElem_toArray, getElem_cons_zero, getElem_cons_succ]
 refine AnyT.call (i := 5) (by kernel_rfl) rfl (fun K hK => ?_)
 try simp only [Act.put, setIfInBounds_toArray, set_cons_zero, set_cons_succ, getElem_toArray, getElem_cons_zero, getElem_cons_succ]
 rw [if_pos (by rfl)]
 go_simp
 (go_at_call 151; refine LK.out.mono ?_; rintro e w3 ⟨g, rfl, rg, sg, bx, zg⟩; have B1 := bx; have K01 : w3.cell? ⟨w.heap.size, 0, none⟩ = some (.slice A n cs) := (B1.cell (p := ⟨w.heap.size, 0, none⟩) zA).trans K0; have K11 : w3.cell? ⟨w.heap.size, 1, none⟩ = some (.slice (some ⟨b, off, none⟩) q cv) := (B1.cell (p := ⟨w.heap.size, 1, none⟩) zA).trans K1; have K21 : w3.cell? ⟨b, off + k * 2 + 1, none⟩ = some (.slice P' pn' pc') := (B1.cell (p := ⟨b, off + k * 2 + 1, none⟩) zB).trans K2; have K31 : w3.heap[w1.heap.size]? = some (.cells rs 172 (0, 0)) := (B1.block _ zC).trans K3; have LFI := hid (LFILL.out g w3 rg sg B1); go_wp2_with fail)
 refine hK.out _ _ (fun _ _ => ?_) (fun hKeep => ?_)
 ·exact ⟨K01, K11, K21, K31⟩
 replace hHeld := hKeep (by first | rfl | trivial) hHeld
 clear hK K hKeep
 try simp only [Act.put, setIfInBounds_toArray, set_cons_zero, set_cons_succ, getElem_toArray, getElem_cons_zero, getElem_cons_succ]
 refine AnyT.call (i := 12) (by kernel_rfl) rfl (fun K hK => ?_)
 try simp only [Act.put, setIfInBounds_toArray, set_cons_zero, set_cons_succ, getElem_toArray, getElem_cons_zero, getElem_cons_succ]
 rw [if_pos (by rfl)]
 go_simp
 (go_at_call 105; refine LFI.out.mono ?_; rintro e w4 ⟨O, on, oc, rfl, oO, by4⟩; have B2 := next_trans B1 by4; have K02 : w4.cell? ⟨w.heap.size, 0, none⟩ = some (.slice A n cs) := (B2.cell (p := ⟨w.heap.size, 0, none⟩) zA).trans K0; have K12 : w4.cell? ⟨w.heap.size, 1, none⟩ = some (.slice (some ⟨b, off, none⟩) q cv) := (B2.cell (p := ⟨w.heap.size, 1, none⟩) zA).trans K1; have K22 : w4.cell? ⟨b, off + k * 2 + 1, none⟩ = some (.slice P' pn' pc') := (B2.cell (p := ⟨b, off + k * 2 + 1, none⟩) zB).trans K2; have K32 : w4.heap[w1.heap.size]? = some (.cells rs 172 (0, 0)) := (B2.block _ zC).trans K3; have LPU := hid (LPUT.out O on oc w4 B2 oO); go_wp2_with fail)
 refine hK.out _ _ (fun _ _ => ?_) (fun hKeep => ?_)
 ·exact ⟨K02, K12, K22, K32⟩
 replace hHeld := hKeep (by first | rfl | trivial) hHeld
 clear hK K hKeep
 try simp only [Act.put, setIfInBounds_toArray, set_cons_zero, set_cons_succ, getElem_toArray, getElem_cons_zero, getElem_cons_succ]
 refine AnyT.call (i := 13) (by kernel_rfl) rfl (fun K hK => ?_)
 try simp only [Act.put, setIfInBounds_toArray, set_cons_zero, set_cons_succ, getElem_toArray, getElem_cons_zero, getElem_cons_succ]
 rw [if_pos (by rfl)]
 go_simp
 (go_at_call 106; refine LPU.out.mono ?_; rintro e w5 ⟨X, xn, xc, rfl, oX, by5⟩; have B3 := next_trans B2 by5; have K03 : w5.cell? ⟨w.heap.size, 0, none⟩ = some (.slice A n cs) := (B3.cell (p := ⟨w.heap.size, 0, none⟩) zA).trans K0; have K13 : w5.cell? ⟨w.heap.size, 1, none⟩ = some (.slice (some ⟨b, off, none⟩) q cv) := (B3.cell (p := ⟨w.heap.size, 1, none⟩) zA).trans K1; have K23 : w5.cell? ⟨b, off + k * 2 + 1, none⟩ = some (.slice P' pn' pc') := (B3.cell (p := ⟨b, off + k * 2 + 1, none⟩) zB).trans K2; have K33 : w5.heap[w1.heap.size]? = some (.cells rs 172 (0, 0)) := (B3.block _ zC).trans K3; go_wp2_with fail)
 refine hK.out _ _ (fun _ _ => ?_) (fun hKeep => ?_)
 ·exact ⟨K03, K13, K23, K33⟩
 replace hHeld := hKeep (by first | rfl | trivial) hHeld
 clear hK K hKeep
 try simp only [Act.put, setIfInBounds_toArray, set_cons_zero, set_cons_succ, getElem_toArray, getElem_cons_zero, getElem_cons_succ]
 refine AnyT.takeA (i := 14) (v := ?_) rfl (by kernel_rfl) (by kernel_rfl) (by kernel_rfl) (fun _ _ _ h => h) (Or.inl ⟨by rfl, ?_⟩) ?_
 rotate_left 1
 ·(intro w0 _; go_simp; try with_reducible rfl)
 try simp only [Act.put, setIfInBounds_toArray, set_cons_zero, set_cons_succ, getElem_toArray, getElem_cons_zero, getElem_cons_succ]
 refine AnyT.takeA (i := 15) (v := ?_) rfl (by kernel_rfl) (by kernel_rfl) (by kernel_rfl) (fun _ _ _ h => h) (Or.inl ⟨by rfl, ?_⟩) ?_
 rotate_left 1
 ·(intro w0 _; go_simp; try with_reducible rfl)
 try simp only [Act.put, setIfInBounds_toArray, set_cons_zero, set_cons_succ, getElem_toArray, getElem_cons_zero, getElem_cons_succ]
 refine AnyT.takeA (i := 16) (v := ?_) rfl (by kernel_rfl) (by kernel_rfl) (by kernel_rfl) (fun _ _ _ h => h) (Or.inl ⟨by rfl, ?_⟩) ?_
 rotate_left 1
 ·(intro w0 _; go_simp; try with_reducible rfl)
 try simp only [Act.put, setIfInBounds_toArray, set_cons_zero, set_cons_succ, getElem_toArray, getElem_cons_zero, getElem_cons_succ]
 refine AnyT.takeA (i := 17) (v := ?_) rfl (by kernel_rfl) (by kernel_rfl) (by kernel_rfl) (fun _ _ _ h => h) (Or.inl ⟨by rfl, ?_⟩) ?_
 rotate_left 1
 ·(intro w0 _; go_simp; try with_reducible rfl)
 try simp only [Act.put, setIfInBounds_toArray, set_cons_zero, set_cons_succ, getElem_toArray, getElem_cons_zero, getElem_cons_succ]
 refine AnyT.done (by kernel_rfl) ?_ _
 have F : AnsStep w (stepO d.1 y t x) (.returned (.tuple #[.slice X xn xc, .bool (put.putB d.1 t (fillL (givesL s) y.2) (x : Int))])) w5 := ⟨X, xn, xc, by rw [HRB.out.2], by rw [HRB.out.1]; exact Own.lower oX (Nat.le_trans BEL2.out.size B2.size), BEL2.out.drew.trans (B3.mono BEL2.out.size)⟩
 have HF := hid F
 clear F oX by5 B1 B2 B3 LK LFILL LPUT LFI LPU oO by4
 generalize put.putB d.1 t (fillL (givesL s) y.2) (x : Int) = bz at *
 go_wp2
 go_ret2
 exact HF.out
end stepImpl
end
section
open Go.Lib (hid)
namespace stepImpl
open Go.RowKit base ints sig term termOk endAt inside marks app sym sub segs segsHelp kinds termFacts matchMath whole takeMath take extended varsOf shape kindsR ruleMath ruleSpec ruleImpl stepMath walkMath stepSpec
set_option maxRecDepth 100000
theorem right_of {sg : List Int} {rs : List Rl} {t : List Int} (h : sysOkB sg rs = true) : rightB sg rs t = termOkB sg t := by unfold rightB; rw [h]; rfl
theorem there_eq {sg : List Int} {rs : List Rl} {t : List Int} {a r : Int} (h : sysOkB sg rs = true) : thereR sg rs t a r = (thereB sg t a && walkMath.inB r rs.length) := by
 unfold thereR thereB walkMath.inB endAt.inB
 rw [right_of h, Bool.and_assoc]
theorem hasRule (a : Value) (V : Option Addr) (q cv : Nat) (r : Int) (w : World) (hq : q ≤ 1048576) :
  Calls Try.prog 122 #[.agg #[a, .slice V q cv], .int .i64 r] w (AnsB w (walkMath.inB r q)) := by
 obtain ⟨W, hW, rA, bel⟩ := box1 w 79 #[a, .slice V q cv]
 have HW := hid hW
 have R := hid rA
 have FF := hid (fun (b : Bool) (h : walkMath.inB r q = b) => (ansB (b := walkMath.inB r q) (a := b) h.symm bel))
 clear hW rA bel
 by_cases h0 : r < 0
 ·have F := hid (FF.out false (by unfold walkMath.inB; exact decide_eq_false (by omega)))
  go_enter Try.func122, Try.ntmps122
  go_wp2_with fail
  try rw [← HW.out]
  go_wp2
  go_ret
  exact F.out
 ·by_cases h1 : r < (q : Int)
  ·have F := hid (FF.out true (by unfold walkMath.inB; exact decide_eq_true (by omega)))
   have h0' : (0 : Int) ≤ r := by omega
   have K1 : (w.alloc (.cells #[a, .slice V q cv] 79)).cell? ⟨w.heap.size, 1, none⟩ = some (.slice V q cv) := by rw [← HW.out]; exact R.out.cell 1
   go_enter Try.func122, Try.ntmps122
   go_wp2
   rw [← HW.out]
   go_ret
   exact F.out
  ·have F := hid (FF.out false (by unfold walkMath.inB; exact decide_eq_false (by omega)))
   have h0' : (0 : Int) ≤ r := by omega
   have K1 : (w.alloc (.cells #[a, .slice V q cv] 79)).cell? ⟨w.heap.size, 1, none⟩ = some (.slice V q cv) := by rw [← HW.out]; exact R.out.cell 1
   go_enter Try.func122, Try.ntmps122
   go_wp2
   rw [← HW.out]
   go_ret
   exact F.out
set_option maxHeartbeats 4000000 in
theorem hasRedex (a v u : Value) (d : Dat sSystem) (t : List Int) (x r : Int) (w : World) (h : Rd w w.heap.size sSystem [a, v] d) (ht : Rd w w.heap.size sI [u] t) (hz : sz sSystem d ≤ 1048576) (hz' : sz sI t ≤ 1048576) (oks : sysOkB d.1 d.2 = true) :
  Calls Try.prog 147 #[.agg #[a, v], u, .int .i64 x, .int .i64 r] w (AnsB w (redexB d.1 d.2 t x r)) := by
 have h0 := h
 have ht0 := ht
 obtain ⟨T, m, c, rfl, hT, hcT⟩ := rd_ints.1 ht
 have hm := len_ints hT.1 hz'
 obtain ⟨A, n, cs, V, q, cv, rfl, rfl, hs, hc, hcv, hq, hn, hq1, hrs, hsg, hE⟩ := rd_sys h hz
 obtain ⟨W, hW, rA, bel⟩ := box1 w 79 #[.slice A n cs, .slice V q cv]
 have HW := hid hW
 have LP := hid (placeIn A T n cs m c d.1 t x W (hs.next bel) (hT.next bel) hn hm)
 have HQ := hid hq
 have LHR := hid (fun (w1 : World) => hasRule (.slice A n cs) V q cv r w1 hq1)
 have LMA := hid (fun (w1 : World) (bb : Below w.heap.size w w1) (x k : Nat) hok hx hk => matchAt _ _ _ d t x k w1 (h0.next bb) (ht0.next bb) hz hok hx hk)
 have OKS := hid oks
 clear hW h h0 ht ht0 hz hz' hs hc hcv hq hrs hsg hE hT hcT oks
 obtain ⟨bp, hbp⟩ : ∃ bp, thereB d.1 t x = bp := ⟨_, rfl⟩
 have HP := hid hbp
 have HTH := hid (show thereR d.1 d.2 t x r = (bp && walkMath.inB r d.2.length) by rw [there_eq OKS.out, hbp])
 rw [hbp] at LP
 clear hbp
 cases bp with
 | false =>
  go_enter Try.func147, Try.ntmps147
  go_wp2_with fail
  rw [← HW.out]
  refine LP.out.mono ?_
  rintro e w1 ⟨rfl, bb⟩
  have F := hid (ansB (b := redexB d.1 d.2 t x r) (a := false) (by rw [redex_no (by rw [HTH.out]; rfl)]) (next_trans bel bb))
  clear bb bel rA LMA
  go_wp2
  go_ret
  exact F.out
 | true =>
  go_enter Try.func147, Try.ntmps147
  go_wp2_with fail
  rw [← HW.out]
  refine LP.out.mono ?_
  rintro e w1 ⟨rfl, bb⟩
  replace rA := rA.next bb
  replace bel := next_trans bel bb
  have K0 : w1.cell? ⟨w.heap.size, 0, none⟩ = some (.slice A n cs) := rA.cell 0
  have K1 : w1.cell? ⟨w.heap.size, 1, none⟩ = some (.slice V q cv) := rA.cell 1
  have LH1 := hid (LHR.out w1)
  clear bb LP LHR
  obtain ⟨bi, hbi⟩ : ∃ bi, walkMath.inB r q = bi := ⟨_, rfl⟩
  have HBI := hid hbi
  rw [hbi] at LH1
  clear hbi
  go_wp2_with fail
  refine LH1.out.mono ?_
  rintro e w2 ⟨rfl, bb⟩
  cases bi with
  | false =>
   have F := hid (ansB (b := redexB d.1 d.2 t x r) (a := false) (by rw [redex_no (by rw [HTH.out, HQ.out, HBI.out]; rfl)]) (next_trans bel bb))
   clear bb bel rA LMA K0 K1 LH1
   go_wp2
   go_ret
   exact F.out
  | true =>
   have hkk : 0 ≤ r ∧ r < (q : Int) := of_decide_eq_true HBI.out
   obtain ⟨k, rfl⟩ := Int.eq_ofNat_of_zero_le hkk.1
   have hkq : k < q := by omega
   have hx := endAt.there_parts HP.out
   obtain ⟨i, rfl⟩ := Int.eq_ofNat_of_zero_le hx.2.1
   have hix : i < t.length := by omega
   have okR : rightB d.1 d.2 t = true := by rw [right_of OKS.out]; exact hx.1
   have hkl : k < d.2.length := by rw [HQ.out]; exact hkq
   have HRE := hid (show redexB d.1 d.2 t (i : Int) (k : Int) = (mst d.1 t (d.2.getD k ([], [])).1 i s0).isSome by
    rw [redex_yes (by rw [HTH.out]; unfold walkMath.inB; rw [decide_eq_true (by omega)]; rfl), red_at (sys_rule OKS.out hkl) hx.1 hix]
    unfold rl
    rw [Int.toNat_natCast, Int.toNat_natCast])
   replace rA := rA.next bb
   replace bel := next_trans bel bb
   have LM1 := hid (LMA.out w2 bel i k okR hix hkl)
   clear K0 K1
   have K0 : w2.cell? ⟨w.heap.size, 0, none⟩ = some (.slice A n cs) := rA.cell 0
   have K1 : w2.cell? ⟨w.heap.size, 1, none⟩ = some (.slice V q cv) := rA.cell 1
   clear hx okR LMA HTH hkk hix hkl bb rA LH1
   obtain ⟨R, hR⟩ : ∃ R, mst d.1 t (d.2.getD k ([], [])).1 i s0 = R := ⟨_, rfl⟩
   rw [hR] at LM1 HRE
   clear hR
   go_wp2_with fail
   refine LM1.out.mono ?_
   rintro e w3 ⟨rs, rfl, tab, hsz, bb⟩
   have one := hid tab.one
   have h24 := hid tab.1
   obtain ⟨bo, hbo⟩ : ∃ bo, R.isSome = bo := ⟨_, rfl⟩
   rw [hbo]
   have F := hid (show AnsB w (redexB d.1 d.2 t (i : Int) (k : Int)) (.returned (.bool bo)) (w3.alloc (.cells rs 172)) from ⟨by rw [HRE.out, hbo], (next_trans bel bb).alloc (next_trans bel bb).size _⟩)
   clear tab hsz bb bel K0 K1 hbo LM1 HRE
   go_wp2_with (first
    | (refine rowAlloc rfl 172 rfl z24 zero_b ?_)
    | (refine rowStore rfl 172 _ _ rfl w3.heap.size rs z24 172 rfl rfl (heap_alloc_new w3 _) (by rw [h24.out]; exact size_b) (by rw [h24.out]; rfl) one.out ?_; rw [World.setRow_alloc_new]))
   go_ret
   exact F.out
set_option maxHeartbeats 4000000 in
theorem stepAt (a v u : Value) (d : Dat sSystem) (t : List Int) (x r : Int) (w : World) (h : Rd w w.heap.size sSystem [a, v] d) (ht : Rd w w.heap.size sI [u] t) (hz : sz sSystem d ≤ 1048576) (hz' : sz sI t ≤ 1048576) (oks : sysOkB d.1 d.2 = true) :
  Calls Try.prog 140 #[.agg #[a, v], u, .int .i64 x, .int .i64 r] w (AnsStep w (stepAtO d.1 d.2 t x r)) := by
 obtain ⟨W, hW, rA, bel⟩ := box1 w 79 #[a, v]
 have HW := hid hW
 have LH := hid (hasRedex a v u d t x r W (h.next bel) (ht.next bel) hz hz' oks)
 have LR := hid (fun (w1 : World) (bb : Below w.heap.size w w1) (x k : Nat) hok hx hk hred => reduced a v u d t x k w1 (h.next bb) (ht.next bb) hz hok hx hk hred)
 clear hW h ht hz hz'
 obtain ⟨bp, hbp⟩ : ∃ bp, redexB d.1 d.2 t x r = bp := ⟨_, rfl⟩
 rw [hbp] at LH
 cases bp with
 | false =>
  have HN := hid (show stepAtO d.1 d.2 t x r = none by
   cases e : stepAtO d.1 d.2 t x r with
   | none => rfl
   | some y => rw [stepAt_redex e] at hbp; cases hbp)
  clear hbp
  go_enter Try.func140, Try.ntmps140
  go_wp2_with fail
  rw [← HW.out]
  refine LH.out.mono ?_
  rintro e w1 ⟨rfl, bb⟩
  have F := hid (ansStep_nil (o := stepAtO d.1 d.2 t x r) HN.out (next_trans bel bb))
  clear bb bel rA LR
  go_wp2
  go_ret2
  exact F.out
 | true =>
  have hth : thereR d.1 d.2 t x r = true := by
   unfold redexB at hbp
   rw [Bool.and_eq_true] at hbp
   exact hbp.1
  obtain ⟨p1, p2, p3, p4⟩ := walkMath.there_parts hth
  obtain ⟨i, rfl⟩ := Int.eq_ofNat_of_zero_le p3.1
  obtain ⟨k, rfl⟩ := Int.eq_ofNat_of_zero_le p4.1
  rw [redex_yes hth] at hbp
  unfold rl at hbp
  rw [Int.toNat_natCast, Int.toNat_natCast] at hbp
  have LR1 := hid (fun w1 bb => LR.out w1 bb i k (right_yes p1 p2) (by omega) (by omega) hbp)
  have HE := hid (show stepAtO d.1 d.2 t (i : Int) (k : Int) = stepO d.1 (d.2.getD k ([], [])) t i by rw [at_yes hth]; unfold rl; rw [Int.toNat_natCast, Int.toNat_natCast])
  clear hth p1 p2 p3 p4 hbp LR oks
  go_enter Try.func140, Try.ntmps140
  go_wp2_with fail
  rw [← HW.out]
  refine LH.out.mono ?_
  rintro e w1 ⟨rfl, bb⟩
  replace rA := rA.next bb
  replace bel := next_trans bel bb
  have K0 : w1.cell? ⟨w.heap.size, 0, none⟩ = some a := rA.cell 0
  have K1 : w1.cell? ⟨w.heap.size, 1, none⟩ = some v := rA.cell 1
  have LR2 := hid (LR1.out w1 bel)
  clear bb LH LR1 rA
  go_wp2_with fail
  refine LR2.out.mono ?_
  rintro e w2 ⟨X, xn, xc, rfl, oX, bb⟩
  have F : AnsStep w (stepAtO d.1 d.2 t (i : Int) (k : Int)) (.returned (.tuple #[.slice X xn xc, .bool (stepO d.1 (d.2.getD k ([], [])) t i).isSome])) w2 := ⟨X, xn, xc, by rw [HE.out], by rw [HE.out]; exact Own.lower oX bel.size, next_trans bel bb⟩
  have HF := hid F
  clear F oX bb bel K0 K1 LR2
  generalize (stepO d.1 (d.2.getD k ([], [])) t i).isSome = bz at *
  go_wp2
  go_ret2
  exact HF.out
end stepImpl
end
section
namespace walkImpl
open Go.RowKit base ints sig term termOk endAt endOf marks app sym sub segs segsHelp kinds termFacts same shifted shape kindsR kindsW varsOf ruleMath ruleSpec ruleImpl stepMath walkMath stepSpec stepImpl walkSpec
set_option maxRecDepth 100000
set_option maxHeartbeats 4000000 in
theorem leads (a v u : Value) (U : Option Addr) (un uc : Nat) (d : Dat sSystem) (t y : List Int) (x r : Int) (w : World) (h : Rd w w.heap.size sSystem [a, v] d) (ht : Rd w w.heap.size sI [u] t) (hU : Seg w w.heap.size U un y) (hz : sz sSystem d ≤ 1048576) (hz' : sz sI t ≤ 1048576) (hun : un ≤ 1048576) (oks : sysOkB d.1 d.2 = true) :
  Calls Try.prog 117 #[.agg #[a, v], u, .agg #[.int .i64 x, .int .i64 r, .slice U un uc]] w (AnsB w (decide (stepAtO d.1 d.2 t x r = some y))) := by
 obtain ⟨W, hW, rA, rX, bel⟩ := box2 w 79 39 #[a, v] #[.int .i64 x, .int .i64 r, .slice U un uc]
 have HW := Lib.hid hW
 have LS := Lib.hid (stepAt a v u d t x r W (h.next bel) (ht.next bel) hz hz' oks)
 have HU := Lib.hid (hU.next bel)
 have K0 : ((w.alloc (.cells #[a, v] 79)).alloc (.cells #[.int .i64 x, .int .i64 r, .slice U un uc] 39)).cell? ⟨w.heap.size, 0, none⟩ = some a := by rw [← hW]; exact rA.cell 0
 have K1 : ((w.alloc (.cells #[a, v] 79)).alloc (.cells #[.int .i64 x, .int .i64 r, .slice U un uc] 39)).cell? ⟨w.heap.size, 1, none⟩ = some v := by rw [← hW]; exact rA.cell 1
 clear hW h ht hU hz hz'
 obtain ⟨o, ho⟩ : ∃ o, stepAtO d.1 d.2 t x r = o := ⟨_, rfl⟩
 rw [ho] at LS
 rw [ho]
 have HL := Lib.hid (show ∀ z, o = some z → z.length ≤ 60 from fun z hz => by subst hz; exact step_len (stepAt_parts ho).2)
 clear ho
 go_enter Try.func117, Try.ntmps117
 go_wp2_with fail
 rw [← HW.out]
 refine LS.out.mono ?_
 rintro e w2 ⟨X, xn, xc, rfl, oX, bb⟩
 replace rX := rX.next bb
 have b2 := next_trans bel bb
 have k2 : w2.cell? ⟨w.heap.size + 1, 2, none⟩ = some (.slice U un uc) := rX.cell 2
 cases o with
 | none =>
  have F := Lib.hid (show AnsB w (decide ((none : Option (List Int)) = some y)) (.returned (.bool false)) w2 from ⟨rfl, b2⟩)
  clear oX bb rA rX bel b2 HL HU LS K0 K1 k2
  go_wp2
  go_ret
  exact F.out
 | some z =>
  have oY : Own w2 W.heap.size (.slice X xn xc) z := oX
  have hxn : xn ≤ 1048576 := by have := HL.out z rfl; have := Own.len oY; omega
  have LE := Lib.hid (implSame X U xn un xc uc z y w2 (Own.seg oY) (HU.out.next bb) hxn hun)
  clear oX oY HU bb rX rA bel LS K0 K1 HL
  go_wp2_with fail
  refine LE.out.mono ?_
  rintro e w3 ⟨rfl, dd, rfl⟩
  have F := Lib.hid (show AnsB w (decide (some z = some y)) (.returned (.bool (decide (z = y)))) (w2.drewN dd) from ⟨by congr 2; simp, below_drewN b2 dd⟩)
  clear b2 k2 LE
  generalize decide (z = y) = bz at *
  go_wp2
  go_ret
  exact F.out
end walkImpl
end
section
open Go.Lib (hid)
namespace parRoot
open Go.RowKit base ints sig term termOk marks app sym sub segs kinds same shifted shape kindsR kindsW varsOf ruleMath ruleSpec ruleImpl stepMath walkMath stepSpec stepImpl walkImpl parMath
set_option maxHeartbeats 4000000 in
theorem l12Root (a v u : Value) (U' : Option Addr) (m' c' : Nat) (d : Dat sSystem) (t y : List Int) (w : World) (h : Rd w w.heap.size sSystem [a, v] d) (ht : Rd w w.heap.size sI [u] t) (hU : Seg w w.heap.size U' m' y) (hz : sz sSystem d ≤ 1048576) (hz' : sz sI t ≤ 1048576) (hm' : m' ≤ 1048576) :
  Calls Try.prog 86 #[.agg #[a, v], u, .slice U' m' c'] w (AnsB w (rootB d.1 d.2 t y d.2.length)) := by
 have h0 := h
 obtain ⟨A, n, cs, V, q, cv, rfl, rfl, hs, hc, hcv, hq, hn, hq1, hrs, hsg, hE⟩ := rd_sys h hz
 obtain ⟨W, hW, rA, bel⟩ := box1 w 32 #[.slice A n cs, .slice V q cv]
 have LST := hid (fun (w1 : World) (bb : Below w.heap.size w w1) (r : Int) => specStepAt0 _ _ u d t 0 r w1 (h0.next bb) (ht.next bb) hz hz')
 have HU := hid hU
 have HQ := hid hq
 have HW := hid hW
 have S0 := hid (show Row W w.heap.size 32 #[.slice A n cs, .slice V q cv] ∧ Below w.heap.size w W from ⟨rA, bel⟩)
 have hq' : q ≤ 1048576 := hq1
 clear h h0 hs hc hcv hq hn hrs hsg hE hz hz' ht hU rA bel hW hq1
 rw [HQ.out]
 go_enter Try.func86, Try.ntmps86
 go_wp2_with fail
 rw [← HW.out]
 clear HW
 go_loopg [7] q (fun g r wr => ∃ k : Nat, r = .int .i64 k ∧ k + g = q ∧ rootB d.1 d.2 t y k = false ∧ Row wr w.heap.size 32 #[.slice A n cs, .slice V q cv] ∧ Below w.heap.size w wr)
 case atStart => exact ⟨0, rfl, by omega, rfl, S0.out.1, S0.out.2⟩
 case round =>
  clear S0
  obtain ⟨k, rfl, hkg, hno, rS, bS⟩ := hrel
  have K0 : wr.cell? ⟨w.heap.size, 0, none⟩ = some (.slice A n cs) := rS.cell 0
  have K1 : wr.cell? ⟨w.heap.size, 1, none⟩ = some (.slice V q cv) := rS.cell 1
  have HK := hid hkg
  have HN := hid hno
  have i0 : (0 : Int) ≤ (k : Int) := by omega
  clear hkg hno
  by_cases hkq : k < q
  ·have i1 : (k : Int) < (q : Int) := by omega
   have LS := hid (LST.out wr bS (k : Int))
   obtain ⟨o, ho⟩ : ∃ o, stepAtO d.1 d.2 t 0 (k : Int) = o := ⟨_, rfl⟩
   rw [ho] at LS
   have HO := hid ho
   have HL := hid (show ∀ z, o = some z → z.length ≤ 60 from fun z hz => by subst hz; exact step_len (stepAt_parts ho).2)
   clear ho
   cases o with
   | none =>
    go_wp2_with fail
    refine LS.out.mono ?_
    rintro e w2 ⟨X, xn, xc, he, oX, bb⟩
    have he : e = .returned (.tuple #[.slice X xn xc, .bool false]) := he
    subst he
    have F := hid (show rootB d.1 d.2 t y (k + 1) = false ∧ Row w2 w.heap.size 32 #[.slice A n cs, .slice V q cv] ∧ Below w.heap.size w w2 from ⟨by rw [root_next, HN.out, HO.out]; rfl, rS.next bb, next_trans bS bb⟩)
    clear rS bS oX bb LS K0 K1
    go_wp2
    go_roundg (gk - 1)
    case measure => have := HK.out; omega
    case rel => exact ⟨k + 1, by simp, by have := HK.out; omega, F.out⟩
   | some x =>
    go_wp2_with fail
    refine LS.out.mono ?_
    rintro e w2 ⟨X, xn, xc, he, oX, bb⟩
    have he : e = .returned (.tuple #[.slice X xn xc, .bool true]) := he
    subst he
    have hX : Own w2 wr.heap.size (.slice X xn xc) x := oX
    have hxn : xn ≤ 1048576 := by have := HL.out x rfl; have := Own.len hX; omega
    have b2 := next_trans bS bb
    have r2 := rS.next bb
    have LE := hid (specSame X U' xn m' xc c' x y w2 (Own.seg hX) ((HU.out.below b2).more b2.size) hxn hm')
    clear rS bS oX hX bb LS K0 K1
    go_wp2_with fail
    refine LE.out.mono ?_
    rintro e w3 ⟨rfl, dd, rfl⟩
    have b3 := below_drewN b2 dd
    have r3 := r2.drewN dd
    clear b2 r2 LE
    by_cases hxy : x = y
    ·have F := hid (show AnsB w (rootB d.1 d.2 t y q) (.returned (.bool true)) (w2.drewN dd) from ⟨by rw [root_in (r := k) (by rw [HO.out, hxy]) hkq], b3⟩)
     rw [decide_eq_true hxy]
     clear b3 r3
     go_wp2
     go_ret
     exact F.out
    ·have F := hid (show rootB d.1 d.2 t y (k + 1) = false ∧ Row (w2.drewN dd) w.heap.size 32 #[.slice A n cs, .slice V q cv] ∧ Below w.heap.size w (w2.drewN dd) from ⟨by rw [root_next, HN.out, HO.out]; simp [hxy], r3, b3⟩)
     rw [decide_eq_false hxy]
     clear b3 r3
     go_wp2
     go_roundg (gk - 1)
     case measure => have := HK.out; omega
     case rel => exact ⟨k + 1, by simp, by have := HK.out; omega, F.out⟩
  ·have i1 : ¬ (k : Int) < (q : Int) := by omega
   have F := hid (show AnsB w (rootB d.1 d.2 t y q) (.returned (.bool false)) wr from ⟨by rw [show q = k by have := HK.out; omega, HN.out], bS⟩)
   clear rS bS K0
   go_wp2
   go_ret
   exact F.out
set_option maxHeartbeats 4000000 in
theorem leadsOnTop (a v u : Value) (U' : Option Addr) (m' c' : Nat) (d : Dat sSystem) (t y : List Int) (w : World) (h : Rd w w.heap.size sSystem [a, v] d) (ht : Rd w w.heap.size sI [u] t) (hU : Seg w w.heap.size U' m' y) (hz : sz sSystem d ≤ 1048576) (hz' : sz sI t ≤ 1048576) (hm' : m' ≤ 1048576) (oks : sysOkB d.1 d.2 = true) :
  Calls Try.prog 78 #[.agg #[a, v], u, .slice U' m' c'] w (AnsB w (rootB d.1 d.2 t y d.2.length)) := by
 have h0 := h
 obtain ⟨A, n, cs, V, q, cv, rfl, rfl, hs, hc, hcv, hq, hn, hq1, hrs, hsg, hE⟩ := rd_sys h hz
 obtain ⟨W, hW, rA, bel⟩ := box1 w 79 #[.slice A n cs, .slice V q cv]
 have LST := hid (fun (w1 : World) (bb : Below w.heap.size w w1) (r : Int) => leads _ _ u U' m' c' d t y 0 r w1 (h0.next bb) (ht.next bb) ((hU.below bb).more bb.size) hz hz' hm' oks)
 have HQ := hid hq
 have HW := hid hW
 have S0 := hid (show Row W w.heap.size 79 #[.slice A n cs, .slice V q cv] ∧ Below w.heap.size w W from ⟨rA, bel⟩)
 have hq' : q ≤ 1048576 := hq1
 have K1 : (w.alloc (.cells #[.slice A n cs, .slice V q cv] 79)).cell? ⟨w.heap.size, 1, none⟩ = some (.slice V q cv) := (Row.new w _ _).cell 1
 clear h h0 hs hc hcv hq hn hrs hsg hE hz hz' ht hU rA bel hW hq1 oks
 rw [HQ.out]
 go_enter Try.func78, Try.ntmps78
 go_wp2_with fail
 rw [← HW.out]
 clear HW K1
 go_loopg [11] q (fun g r wr => ∃ k : Nat, r = .int .i64 k ∧ k + g = q ∧ rootB d.1 d.2 t y k = false ∧ Row wr w.heap.size 79 #[.slice A n cs, .slice V q cv] ∧ Below w.heap.size w wr)
 case atStart => exact ⟨0, rfl, by omega, rfl, S0.out.1, S0.out.2⟩
 case round =>
  clear S0
  obtain ⟨k, rfl, hkg, hno, rS, bS⟩ := hrel
  have K0 : wr.cell? ⟨w.heap.size, 0, none⟩ = some (.slice A n cs) := rS.cell 0
  have K1 : wr.cell? ⟨w.heap.size, 1, none⟩ = some (.slice V q cv) := rS.cell 1
  have HK := hid hkg
  have HN := hid hno
  have i0 : (0 : Int) ≤ (k : Int) := by omega
  clear hkg hno
  by_cases hkq : k < q
  ·have i1 : (k : Int) < (q : Int) := by omega
   have LS := hid (LST.out wr bS (k : Int))
   go_wp2_with fail
   refine LS.out.mono ?_
   rintro e w2 ⟨rfl, bb⟩
   have b2 := next_trans bS bb
   have r2 := rS.next bb
   clear rS bS bb LS K0 K1
   by_cases hxy : stepAtO d.1 d.2 t 0 (k : Int) = some y
   ·have F := hid (show AnsB w (rootB d.1 d.2 t y q) (.returned (.bool true)) w2 from ⟨by rw [root_in (r := k) hxy hkq], b2⟩)
    rw [decide_eq_true hxy]
    clear b2 r2
    go_wp2
    go_ret
    exact F.out
   ·have F := hid (show rootB d.1 d.2 t y (k + 1) = false ∧ Row w2 w.heap.size 79 #[.slice A n cs, .slice V q cv] ∧ Below w.heap.size w w2 from ⟨by rw [root_next, HN.out]; simp [hxy], r2, b2⟩)
    rw [decide_eq_false hxy]
    clear b2 r2
    go_wp2
    go_roundg (gk - 1)
    case measure => have := HK.out; omega
    case rel => exact ⟨k + 1, by simp, by have := HK.out; omega, F.out⟩
  ·have i1 : ¬ (k : Int) < (q : Int) := by omega
   have F := hid (show AnsB w (rootB d.1 d.2 t y q) (.returned (.bool false)) wr from ⟨by rw [show q = k by have := HK.out; omega, HN.out], bS⟩)
   clear rS bS K0 K1
   go_wp2
   go_ret
   exact F.out
end parRoot
end
section
namespace stk
open Go.RowKit base ints marks app sym appAt segs segsMark kinds shape drawX
set_option maxRecDepth 100000
def Stk (w : World) (Q : Nat → Prop) (lo : Nat) (A : Option Addr) (n c : Nat) (D : List (List Int)) : Prop :=
 D.length = n ∧ ∃ vs : List Value, w.ownsRow lo 27 1 (.slice A n c) n vs ∧ ∀ j, j < n → RdQ w Q sI [vs.getD j undef] (D.getD j [])
def Keep (Q : Nat → Prop) (w w' : World) : Prop := ∀ b, Q b → w'.heap[b]? = w.heap[b]?
section
variable {w w' : World} {Q Q' : Nat → Prop} {lo n c : Nat} {A : Option Addr} {D : List (List Int)}
theorem Keep.below {B : Nat} (h : Below B w w') (hQ : ∀ b, Q b → b < B) : Keep Q w w' := fun b hb => h.block b (hQ b hb)
theorem Keep.grown {r : Option Nat} (h : w.grownBy w' r) (hQ : ∀ b, Q b → b < w.heap.size ∧ some b ≠ r) : Keep Q w w' := by
 intro b hb
 obtain ⟨h1, h2⟩ := hQ b hb
 exact h.block b h1 (fun e => h2 e)
theorem Stk.nil (w : World) (Q : Nat → Prop) (lo : Nat) : Stk w Q lo none 0 0 [] := ⟨rfl, [], World.ownsRow_nil w lo _ _, fun j hj => absurd hj (Nat.not_lt_zero j)⟩
theorem Stk.empty (w : World) (Q : Nat → Prop) (lo : Nat) (h : lo ≤ w.heap.size) : Stk (w.alloc (.cells #[] 27)) Q lo (some ⟨w.heap.size, 0, none⟩) 0 0 [] :=
 ⟨rfl, [], rowsOf (cs := #[]) (Row.new w 27 #[]) rfl (Nat.le_refl _) (by decide) h, fun j hj => absurd hj (Nat.not_lt_zero j)⟩
theorem Stk.single {g : Nat} {v : Value} {x : List Int} (hr : Row w g 27 #[v]) (hlo : lo ≤ g) (hv : RdQ w Q sI [v] x) : Stk w Q lo (some ⟨g, 0, none⟩) 1 1 [x] := by
 refine ⟨rfl, [v], rowsOf (cs := #[v]) hr rfl (Nat.le_refl _) (by decide) hlo, fun j hj => ?_⟩
 have e : j = 0 := by omega
 subst e
 exact hv
theorem Stk.ge (h : Stk w Q lo A n c D) : ∀ k, blk A = some k → lo ≤ k ∧ k < w.heap.size := by
 obtain ⟨-, vs, h2, -⟩ := h
 intro k hk
 exact World.ownsRow.lt h2 k (by rw [blk_own]; exact hk)
theorem Stk.keep {r : Option Nat} (h : Stk w Q lo A n c D) (hg : w.grownBy w' r) (hne : blk A = none ∨ blk A ≠ r) (hk : Keep Q w w') : Stk w' Q lo A n c D := by
 obtain ⟨h1, vs, h2, h3⟩ := h
 exact ⟨h1, vs, World.ownsRow.kept h2 hg (by rw [blk_own]; exact hne), fun j hj => (h3 j hj).keep hk⟩
theorem Stk.next (h : Stk w Q lo A n c D) (hb : Below w.heap.size w w') (hQ : ∀ b, Q b → b < w.heap.size) : Stk w' Q lo A n c D :=
 h.keep (r := none) ⟨hb.os, hb.tape, hb.output, hb.size, fun k hk _ => hb.block k hk⟩ (by cases blk A <;> simp) (Keep.below hb hQ)
theorem Stk.drewN (h : Stk w Q lo A n c D) (k : Nat) : Stk (w.drewN k) Q lo A n c D := by
 obtain ⟨h1, vs, h2, h3⟩ := h
 exact ⟨h1, vs, h2, fun j hj => (h3 j hj).keep fun _ _ => rfl⟩
theorem Stk.lower {lo' : Nat} (h : Stk w Q lo A n c D) (hl : lo' ≤ lo) : Stk w Q lo' A n c D := by
 obtain ⟨h1, vs, h2, h3⟩ := h
 exact ⟨h1, vs, World.ownsRow.mono h2 hl, h3⟩
theorem Stk.form (h : Stk w Q lo A n c D) : (A = none ∧ n = 0 ∧ c = 0 ∧ D = []) ∨
  ∃ g cur, A = some ⟨g, 0, none⟩ ∧ lo ≤ g ∧ Row w g 27 cur ∧ n ≤ c ∧ cur.size = c ∧ c ≤ 9223372036854775807 ∧ ∀ j, j < n → ∃ X xn xc, cur[j]? = some (.slice X xn xc) ∧ RdQ w Q sI [.slice X xn xc] (D.getD j []) := by
 obtain ⟨h1, vs, h2, h3⟩ := h
 rcases own_form h2 with ⟨rfl, rfl, rfl, -⟩ | ⟨g, cur, rfl, hg, hr, hnc, hs, hc, hl, hj⟩
 ·exact .inl ⟨rfl, rfl, rfl, List.length_eq_zero_iff.1 h1⟩
 ·refine .inr ⟨g, cur, rfl, hg, hr, hnc, hs, hc, fun j hjn => ?_⟩
  have h4 := h3 j hjn
  obtain ⟨X, xn, xc, e, -⟩ := id h4
  injection e with e
  exact ⟨X, xn, xc, by rw [hj j hjn, e], by rw [← e]; exact h4⟩
theorem rdq_one {v : Value} {x : List Int} (h : RdQ w Q sI [v] x) : v.oneCell' = true := h.one v (List.mem_cons_self ..)
end
theorem stk_app {w w' : World} {Q : Nat → Prop} {lo n m c' : Nat} {A A' : Option Addr} {D E : List (List Int)} {vs us : List Value} (h1 : D.length = n) (h2 : vs.length = n) (h3 : ∀ j, j < n → RdQ w Q sI [vs.getD j undef] (D.getD j []))
  (e1 : E.length = m) (e3 : ∀ j, j < m → RdQ w Q sI [us.getD j undef] (E.getD j [])) (ho' : w'.ownsRow lo 27 1 (.slice A' (n + m) c') (n + m) (vs ++ us)) (hg : w.grownBy w' (blk A)) (hlo : lo ≤ w.heap.size) (hQ : ∀ b, Q b → b < lo) (hA : ∀ k, blk A = some k → lo ≤ k) : Stk w' Q lo A' (n + m) c' (D ++ E) := by
 have hk : Keep Q w w' := Keep.grown hg fun b hb => ⟨Nat.lt_of_lt_of_le (hQ b hb) hlo, fun e => by have := hA b e.symm; have := hQ b hb; omega⟩
 refine ⟨by simp [h1, e1], vs ++ us, ho', fun j hj => ?_⟩
 by_cases hjn : j < n
 ·have q1 : (vs ++ us).getD j undef = vs.getD j undef := by simp [List.getD, List.getElem?_append_left (h2 ▸ hjn : j < vs.length)]
  have q2 : (D ++ E).getD j [] = D.getD j [] := by simp [List.getD, List.getElem?_append_left (h1 ▸ hjn : j < D.length)]
  rw [q1, q2]
  exact (h3 j hjn).keep hk
 ·have q1 : (vs ++ us).getD j undef = us.getD (j - n) undef := by simp [List.getD, List.getElem?_append_right (by omega : vs.length ≤ j), h2]
  have q2 : (D ++ E).getD j [] = E.getD (j - n) [] := by simp [List.getD, List.getElem?_append_right (by omega : D.length ≤ j), h1]
  rw [q1, q2]
  exact (e3 (j - n) (by omega)).keep hk
theorem vs_len {w : World} {lo n c : Nat} {A : Option Addr} {vs : List Value} (h : w.ownsRow lo 27 1 (.slice A n c) n vs) : vs.length = n := by
 rcases own_form h with ⟨-, h0, -, hv⟩ | ⟨g, cur, -, -, -, -, -, -, hl, -⟩
 ·rw [hv, h0]; rfl
 ·exact hl
theorem appStk {w : World} {ops : Array Oper} {rest : List Oper} {o : Oper} {a : Act} {K : Exit → Act → World → Prop} (hgd : o.guard = none) (sx x : Operand)
  (ho : o.op = .call { callee := .builtin .append, args := #[sx, x], argTypes := #[121, 121] })
  (Q : Nat → Prop) (lo lo2 : Nat) (A : Option Addr) (n c g m c2 : Nat) (D E : List (List Int)) (hs : a.eval sx = .slice A n c) (hown : Stk w Q lo A n c D)
  (hx : a.eval x = .slice (some ⟨g, 0, none⟩) m c2) (hE : Stk w Q lo2 (some ⟨g, 0, none⟩) m c2 E) (hn : n ≤ 1048576) (hm : m ≤ 1048576) (hlo : lo ≤ w.heap.size) (hQ : ∀ b, Q b → b < lo)
  (h : ∀ A' c' w', Stk w' Q lo A' (n + m) c' (D ++ E) → w.grownBy w' (blk A) → (blk A' = blk A ∨ blk A' = some w.heap.size) → wpList Try.prog ops K rest (a.put o.dst (.slice A' (n + m) c')) w') : wpList Try.prog ops K (o :: rest) a w := by
 have hge := hown.ge
 obtain ⟨h1, vs, h2, h3⟩ := hown
 obtain ⟨e1, us, e2, e3⟩ := hE
 have hul := vs_len e2
 obtain ⟨i0, hi, hz0, hz1, hz2⟩ := info_parts segsHelp.info_list
 refine wpList_append_own_at (P := Try.prog) w hgd sx x 121 ho lo 27 i0 (.slice none 0 0) 1 24 Try.underlying121 hi hz0 hz1 hz2 rfl (by decide) (.slice A n c) n vs hs h2 ⟨g, 0, none⟩ m c2 us hx (by rw [hul, Nat.mul_one]) ?_ ?_ (by unfold maxLen; omega) (by omega) hlo ?_
 ·intro j u hu
  exact World.ownsRow.cells e2 (g := g) (by rfl) j u hu
 ·intro u hu
  obtain ⟨j, hj, rfl⟩ := List.mem_iff_getElem.1 hu
  have := rdq_one (e3 j (by omega))
  simpa [List.getD, hj] using this
 ·intro v' w' ho' hg _ hat
  obtain ⟨A', c', rfl⟩ : ∃ A' c', v' = .slice A' (n + m) c' := by
   rcases ho'.2 with ⟨rfl, hz⟩ | ⟨g', cap, cur, rfl, -⟩
   ·exact ⟨none, 0, by rw [show n + m = 0 from hz]⟩
   ·exact ⟨_, _, rfl⟩
  rw [blk_own] at hg
  rw [blk_own, blk_own] at hat
  exact h A' c' w' (stk_app h1 (vs_len h2) h3 e1 e3 ho' hg hlo hQ fun k hk => (hge k hk).1) hg hat
end stk
end
section
open Go.Lib (hid)
namespace partsSpec
open Go.RowKit base ints sig term arity endOf marks app segs kinds shape drawX forest stk
set_option maxRecDepth 100000
theorem Fo.le {sg : List Int} {q : Nat} {l : List Int} (h : Fo sg q l) : q ≤ l.length := by
 induction h with
 | nil => exact Nat.zero_le _
 | var x r q h h1 ih => simp; exact ih
 | app x r q h h2 h1 ih => simp; omega
theorem ar_in {sg : List Int} {x : Int} (h : 0 ≤ x) (h2 : 0 ≤ ar sg x) : x < sg.length ∧ ar sg x = sg.getD x.toNat 0 := by
 by_cases h3 : x < sg.length
 ·exact ⟨h3, ar_sym h h3⟩
 ·rw [ar_no (by omega) (fun k => h3 k.2)] at h2
  exact absurd h2 (by decide)
def HeadE (w : World) (A : Option Addr) (n c m p : Nat) (sg a : List Int) (at_ need : Value) (wr : World) : Prop :=
 ∃ (q : Nat) (d rest : List Int), need = .int .i64 q ∧ at_ = .int .i64 ((p + d.length : Nat) : Int) ∧ d ++ rest = a ∧ Fo sg q rest ∧ Row wr w.heap.size 29 #[.slice A n c] ∧ Below w.heap.size w wr
set_option maxHeartbeats 1000000 in
theorem l13End (A A' : Option Addr) (n c m c' : Nat) (sg t : List Int) (p : Nat) (a r : List Int) (w : World) (h : Seg w w.heap.size A n sg) (h' : Seg w w.heap.size A' m t) (hn : n ≤ 1048576) (hm : m ≤ 1048576) (hs : Arities sg) (he : t.drop p = a ++ r) (hf : Fo sg 1 a) :
  Calls Try.prog 92 #[.agg #[.slice A n c], .slice A' m c', .int .i64 (p : Int)] w fun e w' => e = .returned (.int .i64 ((p + a.length : Nat) : Int)) ∧ Below w.heap.size w w' := by
 have H := hid h
 have H' := hid h'
 have HS := hid hs
 have HL := hid h'.1
 have HE := hid he
 have hal : p + a.length ≤ m := by
  have h1 := congrArg List.length he
  rw [List.length_drop, h'.1, List.length_append] at h1
  have := hf.pos
  omega
 have S0 := hid (show HeadE w A n c m p sg a (.int .i64 p) (.int .i64 1) (w.alloc (.cells #[.slice A n c] 29)) from ⟨1, [], a, rfl, rfl, rfl, hf, Row.new _ _ _, (Below.refl _ _).alloc (Nat.le_refl _) _⟩)
 clear h h' hs he hf
 go_enter Try.func92, Try.ntmps92
 go_wp2_with fail
 go_loopw [2, 7] (fun at_ need wr => HeadE w A n c m p sg a at_ need wr) (fun at_ _ _ => m - (intOf at_).toNat)
 case atStart => exact S0.out
 case round =>
  clear S0
  obtain ⟨q, d, rest, rfl, rfl, hd, hf, hr, hb⟩ := hrel
  have hq := Fo.le hf
  have hdl : d.length + rest.length = a.length := by rw [← hd, List.length_append]
  obtain ⟨k, hk⟩ : ∃ k, p + d.length = k := ⟨_, rfl⟩
  have hkm : k + rest.length ≤ m := by omega
  have hat : rest ≠ [] → H'.out.1 = H'.out.1 := fun _ => rfl
  rw [hk]
  cases rest with
  | nil =>
   have h0 := hf.none
   subst h0
   have i0 : ¬ ((0 : Nat) : Int) > 0 := by omega
   have F := hid (show Ending.returned (.int .i64 (k : Int)) = Ending.returned (.int .i64 ((p + a.length : Nat) : Int)) by rw [← hk, ← hd]; simp)
   have B := hid hb
   clear hf hr hb hd hdl hkm hal hk hat
   go_wp2
   go_ret
   exact ⟨F.out, B.out⟩
  | cons x r' =>
   obtain ⟨q', e, g⟩ := hf.inv
   subst e
   have hkl : k < m := by simp at hkm; omega
   have hx : t.getD k 0 = x := by
    have h1 : t.drop k = x :: r' ++ r := by
     rw [← hk, ← List.drop_drop, HE.out, ← hd, List.append_assoc, List.drop_left]
    have h2 := congrArg (fun l => l.getD 0 0) h1
    simpa [List.getD, List.getElem?_drop] using h2
   obtain ⟨b, off, rfl, hbb, hc⟩ := H'.out.round hkl
   rw [hx] at hc
   have cx : wr.cell? ⟨b, off + k, none⟩ = some (.int .i64 x) := (hb.cell (p := ⟨b, off + k, none⟩) hbb).trans hc
   have cA : wr.cell? ⟨w.heap.size, 0, none⟩ = some (.slice A n c) := hr.cell 0
   have i0 : (0 : Int) ≤ (k : Int) := by omega
   have i1 : (k : Int) < (m : Int) := by omega
   have i2 : (q' : Int) ≤ 1048576 := by omega
   have i3 : (0 : Int) < ((q' + 1 : Nat) : Int) := by omega
   have e1 : d ++ [x] ++ r' = a := by rw [← hd]; simp
   have e2 : p + (d ++ [x]).length = k + 1 := by simp; omega
   have HK := hid hk
   rcases g with ⟨h0, g⟩ | ⟨h0, h2, g⟩
   ·have n0 : ¬ (0 : Int) ≤ x := by omega
    have S := hid (show ∀ dd, HeadE w A n c m p sg a (.int .i64 ((k : Int) + 1)) (.int .i64 (q' : Int)) (wr.drewN dd) from fun dd => ⟨q', d ++ [x], r', rfl, by rw [e2]; simp, e1, g, hr.drewN dd, base.below_drewN hb dd⟩)
    clear g hd hdl hkm hal hq hx hc hr hb e1 e2 hk hat
    go_wp2
    go_roundw
    case rel => exact S.out 0
    case measure => simp [intOf]; omega
   ·obtain ⟨h3, h4⟩ := ar_in h0 h2
    obtain ⟨j, rfl⟩ := Int.eq_ofNat_of_zero_le h0
    have hjn : j < n := by have := H.out.1; omega
    obtain ⟨b2, off2, rfl, hbb2, hc2⟩ := H.out.round hjn
    rw [Int.toNat_natCast] at h4
    have cS : wr.cell? ⟨b2, off2 + j, none⟩ = some (.int .i64 (sg.getD j 0)) := (hb.cell (p := ⟨b2, off2 + j, none⟩) hbb2).trans hc2
    have hz := HS.out j (by have := H.out.1; omega)
    obtain ⟨z, ez⟩ : ∃ z, sg.getD j 0 = z := ⟨_, rfl⟩
    rw [ez] at cS hz h4
    have j1 : (0 : Int) ≤ (j : Int) := h0
    have j2 : (j : Int) < (n : Int) := by omega
    have S := hid (show ∀ dd, HeadE w (some ⟨b2, off2, none⟩) n c m p sg a (.int .i64 ((k : Int) + 1)) (.int .i64 ((q' : Int) + z)) (wr.drewN dd) from fun dd => ⟨z.toNat + q', d ++ [(j : Int)], r', by simp; omega, by rw [e2]; simp, e1, by rw [h4] at g; exact g, hr.drewN dd, base.below_drewN hb dd⟩)
    have z1 := hz.1
    have z2 := hz.2
    clear g hd hdl hkm hal hq hx hc hr hb e1 e2 hk hat hz ez h2 h3 h4 hc2 h0
    go_wp2_with fail
    go_quiet (fail)
    go_wp2
    go_roundw
    case rel => rw [show (q' : Int) + 1 + z - 1 = (q' : Int) + z by omega]; exact S.out _
    case measure => simp [intOf]; omega
def HeadP (w : World) (Q : Nat → Prop) (A : Option Addr) (n c : Nat) (ps : List (List Int)) (out at_ i : Value) (wr : World) : Prop :=
 ∃ (ds rs : List (List Int)) (g k oc : Nat), ds ++ rs = ps ∧ ds.length = k ∧ i = .int .i64 k ∧ at_ = .int .i64 ((1 + ds.flatten.length : Nat) : Int) ∧ out = .slice (some ⟨g, 0, none⟩) k oc ∧ Stk wr Q (w.heap.size + 1) (some ⟨g, 0, none⟩) k oc ds ∧ Row wr w.heap.size 29 #[.slice A n c] ∧ Below w.heap.size w wr
theorem flat_le : ∀ {ps : List (List Int)}, (∀ p ∈ ps, 1 ≤ p.length) → ps.length ≤ ps.flatten.length
 | [], _ => Nat.zero_le _
 | p :: ps, h => by
  have h1 := flat_le fun q hq => h q (List.mem_cons_of_mem _ hq)
  have h2 := h p (List.mem_cons_self ..)
  rw [List.flatten_cons, List.length_append, List.length_cons]
  omega
theorem rdq_cut {w : World} {Q : Nat → Prop} {b off m c at_ j : Nat} {u : List Int} (h : RdQ w Q sI [.slice (some ⟨b, off, none⟩) m c] u) (h1 : 1 ≤ j) (h2 : at_ + j ≤ m) : RdQ w Q sI [.slice (some ⟨b, off + at_, none⟩) j (c - at_)] ((u.drop at_).take j) := by
 obtain ⟨A, n, c', e, hc, hl, h3⟩ := h
 injection e with e
 injection e with e1 e2 e3
 subst e1 e2 e3
 obtain ⟨b', off', e4, hq, hp⟩ := h3 (by omega)
 injection e4 with e4
 injection e4 with e5 e6
 subst e5 e6
 have hlu : u.length = m := hl
 refine rdq_seg (by rw [List.length_take, List.length_drop, hlu]; omega) ⟨by have := hc.1; omega, by have := hc.2.1; omega, fun e => by cases e⟩ fun _ => ⟨b, off + at_, rfl, hq, fun j' hj' => ?_⟩
 obtain ⟨es, -, hp1, hp2⟩ := hp (at_ + j') (by omega)
 have hp2 : es = [.int .i64 (u.getD (at_ + j') 0)] := hp2
 subst hp2
 have h4 := hp1 0 (by simp)
 have e7 : off + at_ + j' = off + (at_ + j') * nc .num + 0 := by show _ = _ + _ * 1 + 0; omega
 have e8 : ((u.drop at_).take j).getD j' 0 = u.getD (at_ + j') 0 := by
  simp [List.getD, List.getElem?_take, hj', List.getElem?_drop]
 rw [e7, e8]
 exact h4
set_option maxHeartbeats 1000000 in
theorem l13Parts (Q : Nat → Prop) (A A' : Option Addr) (n c m c' : Nat) (sg u : List Int) (w : World) (h : Seg w w.heap.size A n sg) (hu : RdQ w Q sI [.slice A' m c'] u) (hQ : ∀ b, Q b → b < w.heap.size) (hn : n ≤ 1048576) (hm : m ≤ 1048576) (hs : Arities sg) (hf : Fo sg 1 u) (h0 : 0 ≤ u.getD 0 0) :
  Calls Try.prog 87 #[.agg #[.slice A n c], .slice A' m c'] w fun e w' => ∃ g k kc ps, e = .returned (.slice (some ⟨g, 0, none⟩) k kc) ∧ Stk w' Q w.heap.size (some ⟨g, 0, none⟩) k kc ps ∧ Prt sg u ps ∧ Below w.heap.size w w' := by
 have sU : Seg w w.heap.size A' m u := Rd.seg (hu.rd hQ)
 have hcap : Cap A' m c' := by obtain ⟨B, m', c2, e, hc, -⟩ := id hu; injection e with e; injection e with e1 e2 e3; subst e1 e2 e3; exact hc
 obtain ⟨ps, hP⟩ := prt_ex hf h0
 obtain ⟨⟨x, hx0, hx2, hux, hpl⟩, hpf⟩ := id hP
 obtain ⟨hxn, hxa⟩ := ar_in hx0 hx2
 obtain ⟨j, rfl⟩ := Int.eq_ofNat_of_zero_le hx0
 have hjn : j < n := by have := h.1; omega
 have hm1 : 0 < m := by have := sU.1; rw [hux] at this; simp at this; omega
 rw [Int.toNat_natCast] at hxa
 obtain ⟨b, off, rfl, hbb, hc⟩ := sU.round hm1
 rw [hux] at hc
 have hc : w.cell? ⟨b, off + 0, none⟩ = some (.int .i64 (j : Int)) := hc
 obtain ⟨b2, off2, rfl, hbb2, hc2⟩ := h.round hjn
 obtain ⟨z, ez⟩ : ∃ z, sg.getD j 0 = z := ⟨_, rfl⟩
 rw [ez] at hc2 hxa
 rw [hxa] at hpl
 have hz := hs j (by have := h.1; omega)
 rw [ez] at hz
 obtain ⟨W, hW⟩ : ∃ W, W = (w.alloc (.cells #[.slice (some ⟨b2, off2, none⟩) n c] 29)).alloc (.cells #[] 27) := ⟨_, rfl⟩
 have hw1 : (w.alloc (.cells #[.slice (some ⟨b2, off2, none⟩) n c] 29)).heap.size = w.heap.size + 1 := by simp
 have S0 := hid (show HeadP w Q (some ⟨b2, off2, none⟩) n c ps (.slice (some ⟨w.heap.size + 1, 0, none⟩) 0 0) (.int .i64 1) (.int .i64 0) W from ⟨[], ps, w.heap.size + 1, 0, 0, rfl, rfl, rfl, rfl, rfl, by
  have h1 := Stk.empty (w.alloc (.cells #[.slice (some ⟨b2, off2, none⟩) n c] 29)) Q (w.heap.size + 1) (by rw [hw1]; exact Nat.le_refl _)
  rw [hw1] at h1
  rw [hW]
  exact h1, by rw [hW]; exact (Row.new _ _ _).alloc _, by rw [hW]; exact ((Below.refl _ _).alloc (Nat.le_refl _) _).alloc (by simp) _⟩)
 have HW := hid hW
 have H := hid h
 have HU := hid hu
 have HSU := hid sU
 have HS := hid hs
 have HP := hid hP
 have HF := hid hpf
 have HQ := hid hQ
 have HPL := hid hpl
 have HUX := hid hux
 have hlu : m = 1 + ps.flatten.length := by have h9 := sU.1; rw [hux, List.length_cons] at h9; omega
 have HLU := hid hlu
 have z1 := hz.1
 have z2 := hz.2
 have hmc := hcap.1
 have hcc := hcap.2.1
 have x1 : (0 : Int) ≤ (j : Int) := hx0
 have x2 : (j : Int) < (n : Int) := by omega
 have x3 : ¬ (j : Int) < 0 := by omega
 have hc : w.cell? ⟨b, off, none⟩ = some (.int .i64 (j : Int)) := hc
 have cR : ((w.alloc (.cells #[.slice (some ⟨b2, off2, none⟩) n c] 29)).alloc (.cells #[] 27)).cell? ⟨b, off, none⟩ = some (.int .i64 (j : Int)) := (World.cell?_alloc_lt _ _ _ (by rw [hw1]; show b < _; omega)).trans ((World.cell?_alloc_lt _ _ _ hbb).trans hc)
 clear h hu sU hs hP hpf hQ hpl hux hlu hz hcap hW hxn hxa hx0 hx2 ez h0 hf
 go_enter Try.func87, Try.ntmps87
 go_wp2_with fail
 rw [← HW.out]
 clear cR
 go_loopw [5, 6, 7] (fun out at_ i wr => HeadP w Q (some ⟨b2, off2, none⟩) n c ps out at_ i wr) (fun _ _ i _ => z.toNat - (intOf i).toNat)
 case atStart => exact S0.out
 case round =>
  clear S0
  obtain ⟨ds, rs, g, k, oc, hds, hk, rfl, rfl, rfl, oS, hr, hb⟩ := hrel
  have cA : wr.cell? ⟨w.heap.size, 0, none⟩ = some (.slice (some ⟨b2, off2, none⟩) n c) := hr.cell 0
  have cx : wr.cell? ⟨b, off, none⟩ = some (.int .i64 (j : Int)) := (hb.cell (p := ⟨b, off, none⟩) hbb).trans hc
  have cz : wr.cell? ⟨b2, off2 + j, none⟩ = some (.int .i64 z) := (hb.cell (p := ⟨b2, off2 + j, none⟩) hbb2).trans hc2
  have hlen : k + rs.length = z.toNat := by rw [← HPL.out, ← hds, List.length_append, hk]
  cases rs with
  | nil =>
   have i0 : ¬ (k : Int) < z := by simp at hlen; omega
   rw [List.append_nil] at hds
   subst hds
   have F := hid (show ∃ g k kc ps, (Ending.returned (.slice (some ⟨g, 0, none⟩) k kc) : Ending) = .returned (.slice (some ⟨g, 0, none⟩) k kc) ∧ True from ⟨0, 0, 0, ds, rfl, trivial⟩)
   have O := hid oS
   have B := hid hb
   clear oS hb hr hlen
   go_wp2_with fail
   go_quiet (fail)
   go_wp2
   go_ret
   exact ⟨g, k, oc, ds, rfl, (O.out.drewN _).lower (Nat.le_succ _), HP.out, base.below_drewN B.out _⟩
  | cons p rs =>
   have i0 : (k : Int) < z := by simp at hlen; omega
   have hp1 : 1 ≤ p.length := (HF.out p (by rw [← hds]; simp)).pos
   have hfl : ps.flatten = ds.flatten ++ (p ++ rs.flatten) := by rw [← hds]; simp
   obtain ⟨q, hq⟩ : ∃ q, 1 + ds.flatten.length = q := ⟨_, rfl⟩
   have hql : q + p.length ≤ m := by rw [HLU.out, hfl, List.length_append, List.length_append, ← hq]; omega
   have hdr : u.drop q = p ++ rs.flatten := by rw [HUX.out, ← hq, Nat.add_comm, List.drop_succ_cons, hfl, List.drop_left]
   have hk9 : k ≤ 1048576 := by omega
   rw [hq]
   have LE := hid (fun d => l13End (some ⟨b2, off2, none⟩) (some ⟨b, off, none⟩) n c m c' sg u q p rs.flatten (wr.drewN d) ((H.out.next hb).drewN d) ((HSU.out.next hb).drewN d) hn hm HS.out hdr (HF.out p (by rw [← hds]; simp)))
   have hcut := rdq_cut (at_ := q) (j := p.length) HU.out hp1 hql
   have e9 : (u.drop q).take p.length = p := by rw [hdr, List.take_left]
   rw [e9] at hcut
   obtain ⟨pl, hpl⟩ : ∃ pl, p.length = pl := ⟨_, rfl⟩
   rw [hpl] at hcut LE hp1 hql
   have c0 : (0 : Int) ≤ (q : Int) := by omega
   have c1 : (q : Int) ≤ ((q + pl : Nat) : Int) := by omega
   have c2 : ((q + pl : Nat) : Int) ≤ (c' : Int) := by omega
   have c3 : ¬ c' = q := by omega
   have HCUT := hid hcut
   have HDS := hid hds
   have HQQ := hid hq
   have HKK := hid hk
   have HPP := hid hpl
   have hzw := hb.size
   clear hcut hds hq hk hfl hdr e9 hpl
   go_wp2_with fail
   go_quiet (fail)
   go_wp2_with fail
   refine (LE.out _).mono ?_
   rintro e w1 ⟨rfl, bb⟩
   have hQr : ∀ b, Q b → b < (wr.drewN nq).heap.size := fun b hb9 => Nat.lt_of_lt_of_le (HQ.out b hb9) hzw
   replace oS := (oS.drewN nq).next bb hQr
   replace hr := (hr.drewN nq).next bb
   replace hb := next_trans (base.below_drewN hb nq) bb
   have hz1 : w.heap.size < w1.heap.size := hr.lt
   have hcut1 := HCUT.out.keep (Keep.below (hb.mono (Nat.le_refl _)) HQ.out)
   clear bb LE cA cx cz
   have oS2 := oS.next (w' := w1.alloc (.cells #[.slice (some ⟨b, off + q, none⟩) pl (c' - q)] 27)) ((Below.refl _ _).alloc (Nat.le_refl _) _) (fun b hb9 => Nat.lt_trans (HQ.out b hb9) hz1)
   have oP : Stk (w1.alloc (.cells #[.slice (some ⟨b, off + q, none⟩) pl (c' - q)] 27)) Q w1.heap.size (some ⟨w1.heap.size, 0, none⟩) 1 1 [p] := Stk.single (Row.new _ _ _) (Nat.le_refl _) (hcut1.keep (Keep.below ((Below.refl w1.heap.size w1).alloc (Nat.le_refl _) _) (fun b hb9 => Nat.lt_trans (HQ.out b hb9) hz1)))
   have hr2 := hr.alloc (.cells #[.slice (some ⟨b, off + q, none⟩) pl (c' - q)] 27)
   have hb2 := hb.alloc (by have := hb.size; exact this) (.cells #[.slice (some ⟨b, off + q, none⟩) pl (c' - q)] 27)
   have hz3 : w.heap.size + 1 ≤ (w1.alloc (.cells #[.slice (some ⟨b, off + q, none⟩) pl (c' - q)] 27)).heap.size := by simp; omega
   clear oS hr hb hcut1
   go_wp2_with (at_builtin; refine appStk rfl _ _ rfl Q (w.heap.size + 1) w1.heap.size (some ⟨g, 0, none⟩) k oc w1.heap.size 1 1 ds [p] rfl oS2 rfl oP hk9 (by omega) hz3 (fun b hb9 => Nat.lt_succ_of_lt (HQ.out b hb9)) ?_; intro A' oc' w2 o2 g2 _; refine (?_ : Hid _).out)
   obtain ⟨ea, e0, -, -⟩ | ⟨g', cur, rfl, -, -⟩ := o2.form
   ·omega
   have hgg := (oS2.ge g rfl).1
   have S := hid (show HeadP w Q (some ⟨b2, off2, none⟩) n c ps (.slice (some ⟨g', 0, none⟩) (k + 1) oc') (.int .i64 ((q + pl : Nat) : Int)) (.int .i64 ((k : Int) + 1)) w2 from
    ⟨ds ++ [p], rs, g', k + 1, oc', by rw [← HDS.out]; simp, by simp [HKK.out], by simp, by rw [← HQQ.out, ← HPP.out]; simp; omega, rfl, o2, (g2.block w.heap.size hr2.lt (fun e => by have e : some w.heap.size = some g := e; injection e with e; omega)).trans hr2, hb2.grown g2 hb2.size (fun k hk => by have hk : some g = some k := hk; injection hk with hk; omega)⟩)
   clear o2 g2 oS2 oP hr2 hb2
   refine hid ?_
   go_wp2
   go_roundw
   case rel => exact S.out
   case measure => simp [intOf]; omega
end partsSpec
end
section
open Go.Lib (hid)
namespace parSpec
open Go.RowKit base ints sig term termOk marks app sym sub segs kinds same shifted shape kindsR varsOf ruleMath ruleSpec stepMath walkMath stepSpec drawX forest stk partsSpec parMath parRoot
set_option maxRecDepth 100000
theorem stk_at {w : World} {Q : Nat → Prop} {lo g n c : Nat} {D : List (List Int)} (h : Stk w Q lo (some ⟨g, 0, none⟩) n c D) {j : Nat} (hj : j < n) : ∃ X xn xc, w.cell? ⟨g, j, none⟩ = some (.slice X xn xc) ∧ RdQ w Q sI [.slice X xn xc] (D.getD j []) := by
 rcases h.form with ⟨e, -⟩ | ⟨g', cur, e, hg, hr, hnc, hs, hc, hj'⟩
 ·cases e
 ·injection e with e
  injection e with e1
  subst e1
  obtain ⟨X, xn, xc, h1, h2⟩ := hj' j hj
  exact ⟨X, xn, xc, (hr.cell j).trans h1, h2⟩
theorem rdq_len {w : World} {Q : Nat → Prop} {A : Option Addr} {n c : Nat} {t : List Int} (h : RdQ w Q sI [.slice A n c] t) : t.length = n := by
 obtain ⟨A', n', c', e, hc, hl, -⟩ := h
 injection e with e
 injection e with e1 e2 e3
 rw [e2]
 exact hl
theorem fo_pos {sg t : List Int} (h : Fo sg 1 t) : 1 ≤ t.length := Fo.pos (q := 0) h
structure PS (w : World) (Q : Nat → Prop) (A V : Option Addr) (n cs q cv g1 g2 k c1 c2 : Nat) (ps qs : List (List Int)) (wr : World) : Prop where
 r : Row wr w.heap.size 32 #[.slice A n cs, .slice V q cv]
 p : Stk wr Q w.heap.size (some ⟨g1, 0, none⟩) k c1 ps
 q : Stk wr Q w.heap.size (some ⟨g2, 0, none⟩) k c2 qs
 b : Below w.heap.size w wr
theorem PS.next {w wr w' : World} {Q : Nat → Prop} {A V : Option Addr} {n cs q cv g1 g2 k c1 c2 : Nat} {ps qs : List (List Int)} (h : PS w Q A V n cs q cv g1 g2 k c1 c2 ps qs wr) (hQ : ∀ b, Q b → b < w.heap.size) (hb : Below wr.heap.size wr w') : PS w Q A V n cs q cv g1 g2 k c1 c2 ps qs w' :=
 have hQ' : ∀ b, Q b → b < wr.heap.size := fun b h1 => Nat.lt_of_lt_of_le (hQ b h1) h.b.size
 ⟨h.r.next hb, h.p.next hb hQ', h.q.next hb hQ', next_trans h.b hb⟩
set_option maxHeartbeats 4000000 in
theorem l12Parallel (a v : Value) (d : Dat sSystem) (Q : Nat → Prop) (hz : sz sSystem d ≤ 1048576) (oks : sysOkB d.1 d.2 = true) (hs : Arities d.1) : ∀ (f : Nat) (T U : Option Addr) (m k mc kc : Nat) (t y : List Int) (w : World), t.length < f → Rd w w.heap.size sSystem [a, v] d → RdQ w Q sI [.slice T m mc] t → RdQ w Q sI [.slice U k kc] y → (∀ b, Q b → b < w.heap.size) → m ≤ 1048576 → k ≤ 1048576 → Fo d.1 1 t → Fo d.1 1 y →
  Calls Try.prog 54 #[.agg #[a, v], .slice T m mc, .slice U k kc] w (AnsB w (parB d.1 d.2 t y))
 | 0, _, _, _, _, _, _, _, _, _, hf, _, _, _, _, _, _, _, _ => absurd hf (Nat.not_lt_zero _)
 | f + 1, T, U, m, k, mc, kc, t, y, w, hf, h, ht, hy, hQ, hm, hk, ft, fy => by
  have IH := hid (fun (w1 : World) (bb : Below w.heap.size w w1) (T' U' : Option Addr) (m' k' mc' kc' : Nat) (t' y' : List Int) hf' h1 h2 hm' hk' f1 f2 => l12Parallel a v d Q hz oks hs f T' U' m' k' mc' kc' t' y' w1 hf' (h.next bb) h1 h2 (fun b hb => Nat.lt_of_lt_of_le (hQ b hb) bb.size) hm' hk' f1 f2)
  obtain ⟨A, n, cs, V, q, cv, rfl, rfl, hsg, hc, hcv, hq, hn, hq1, hrs, hsgr, hE⟩ := rd_sys h hz
  obtain ⟨W, hW, rA, bel⟩ := box1 w 32 #[.slice A n cs, .slice V q cv]
  have htl := rdq_len ht
  have hyl := rdq_len hy
  have hm1 : 0 < m := by have := fo_pos ft; omega
  have hk1 : 0 < k := by have := fo_pos fy; omega
  have hQW : ∀ b, Q b → b < W.heap.size := fun b hb => Nat.lt_of_lt_of_le (hQ b hb) bel.size
  have tW : RdQ W Q sI [.slice T m mc] t := ht.keep (Keep.below bel hQ)
  have yW : RdQ W Q sI [.slice U k kc] y := hy.keep (Keep.below bel hQ)
  have sT : Seg W W.heap.size T m t := shape.Rd.seg (tW.rd hQW)
  have sU : Seg W W.heap.size U k y := shape.Rd.seg (yW.rd hQW)
  obtain ⟨b1, o1, rfl, hb1, hx⟩ := sT.round hm1
  obtain ⟨b2, o2, rfl, hb2, hxy⟩ := sU.round hk1
  obtain ⟨x, ex⟩ : ∃ x, t.getD 0 0 = x := ⟨_, rfl⟩
  obtain ⟨z, ez⟩ : ∃ z, y.getD 0 0 = z := ⟨_, rfl⟩
  rw [ex] at hx
  rw [ez] at hxy
  have LE := hid (specSame _ _ m k mc kc t y W sT sU hm hk)
  have LR := hid (fun dd => l12Root (.slice A n cs) (.slice V q cv) (.slice (some ⟨b1, o1, none⟩) m mc) (some ⟨b2, o2, none⟩) k kc d t y (W.drewN dd) (h.next (below_drewN bel dd)) (ht.rd hQ |>.next (below_drewN bel dd)) (sU.drewN dd) hz (by rw [sz_ints]; omega) hk)
  have LP := hid (fun (w1 : World) (bb : Below w.heap.size w w1) (T' : Option Addr) (m' mc' : Nat) (t' : List Int) h1 h2 h3 h4 => l13Parts Q A T' n cs m' mc' d.1 t' w1 ((hsg.below bb).more bb.size) h1 (fun b hb => Nat.lt_of_lt_of_le (hQ b hb) bb.size) hn h2 hs h3 h4)
  have HT := hid ht
  have HY := hid hy
  have HQ := hid hQ
  have HW := hid hW
  have HFT := hid ft
  have HFY := hid fy
  have HX := hid ex
  have HZ := hid ez
  have HSG := hid hs
  have HF := hid hf
  have HTL := hid htl
  have HYL := hid hyl
  have K0 : (w.alloc (.cells #[.slice A n cs, .slice V q cv] 32)).cell? ⟨w.heap.size, 0, none⟩ = some (.slice A n cs) := (Row.new w _ _).cell 0
  have K1 : (w.alloc (.cells #[.slice A n cs, .slice V q cv] 32)).cell? ⟨w.heap.size, 1, none⟩ = some (.slice V q cv) := (Row.new w _ _).cell 1
  clear h hsg hc hcv hq hrs hsgr hE hz oks ht hy hQ hQW tW yW sT sU ft fy ex ez hs hf htl hyl hW
  go_enter Try.func54, Try.ntmps54
  go_wp2_with fail
  rw [← HW.out]
  clear K0 K1
  refine LE.out.mono ?_
  rintro e w2 ⟨rfl, dd, rfl⟩
  have r2 := rA.drewN dd
  have bel2 := below_drewN bel dd
  have hx2 : (W.drewN dd).cell? ⟨b1, o1 + 0, none⟩ = some (.int .i64 x) := hx
  have hz2 : (W.drewN dd).cell? ⟨b2, o2 + 0, none⟩ = some (.int .i64 z) := hxy
  have K0 : (W.drewN dd).cell? ⟨w.heap.size, 0, none⟩ = some (.slice A n cs) := r2.cell 0
  have K1 : (W.drewN dd).cell? ⟨w.heap.size, 1, none⟩ = some (.slice V q cv) := r2.cell 1
  have L2 := hid (LR.out dd)
  have hs2 : b1 < (W.drewN dd).heap.size := hb1
  have hs3 : b2 < (W.drewN dd).heap.size := hb2
  generalize hw2 : W.drewN dd = w2 at *
  clear LE LR rA bel hx hxy hw2 HW hb1 hb2
  by_cases hty : t = y
  ·have F := hid (show AnsB w (parB d.1 d.2 t y) (.returned (.bool true)) w2 from ⟨by rw [par_same hty], bel2⟩)
   rw [decide_eq_true hty]
   clear r2 bel2
   go_wp2
   go_ret
   exact F.out
  ·have HNE := hid hty
   rw [decide_eq_false hty]
   clear hty
   go_wp2_with fail
   refine L2.out.mono ?_
   rintro e w3 ⟨rfl, bb⟩
   have r3 := r2.next bb
   have bel3 := next_trans bel2 bb
   have hx3 : w3.cell? ⟨b1, o1, none⟩ = some (.int .i64 x) := (bb.cell (p := ⟨b1, o1 + 0, none⟩) hs2).trans hx2
   have hz3 : w3.cell? ⟨b2, o2, none⟩ = some (.int .i64 z) := (bb.cell (p := ⟨b2, o2 + 0, none⟩) hs3).trans hz2
   have K0 : w3.cell? ⟨w.heap.size, 0, none⟩ = some (.slice A n cs) := r3.cell 0
   have K1 : w3.cell? ⟨w.heap.size, 1, none⟩ = some (.slice V q cv) := r3.cell 1
   clear r2 bel2 hx2 hz2 bb hs2 hs3 L2
   cases hroot : rootB d.1 d.2 t y d.2.length with
   | true =>
    have F := hid (show AnsB w (parB d.1 d.2 t y) (.returned (.bool true)) w3 from ⟨by rw [par_root hroot], bel3⟩)
    clear r3 bel3
    go_wp2
    go_ret
    exact F.out
   | false =>
    have HR := hid hroot
    clear hroot
    have j1 : (0 : Int) < (m : Int) := by omega
    have j2 : (0 : Int) < (k : Int) := by omega
    by_cases hxz : x = z
    ·subst hxz
     have e0 : (x != x) = false := by simp
     by_cases hx0 : x < 0
     ·have e1 : decide (x < 0) = true := decide_eq_true hx0
      have F := hid (fun n' => show AnsB w (parB d.1 d.2 t y) (.returned (.bool false)) (w3.drewN n') from ⟨by rw [par_neg HNE.out HR.out (by rw [HX.out]; exact hx0)], below_drewN bel3 n'⟩)
      clear r3 bel3
      go_wp2_with fail
      go_quiet (fail)
      go_wp2
      go_ret
      exact F.out _
     ·have e1 : decide (x < 0) = false := decide_eq_false hx0
      have hpz : 0 ≤ t.getD 0 0 := by rw [HX.out]; exact Int.not_lt.1 hx0
      have hqz : 0 ≤ y.getD 0 0 := by rw [HZ.out]; exact Int.not_lt.1 hx0
      have LA := hid (fun n' => LP.out (w3.drewN n') (below_drewN bel3 n') (some ⟨b1, o1, none⟩) m mc t (HT.out.keep (Keep.below (below_drewN bel3 n') HQ.out)) hm HFT.out hpz)
      have HS3 := hid (fun n' => (⟨r3.drewN n', below_drewN bel3 n'⟩ : Row (w3.drewN n') w.heap.size 32 #[.slice A n cs, .slice V q cv] ∧ Below w.heap.size w (w3.drewN n')))
      clear r3 bel3
      go_wp2_with fail
      go_quiet (fail)
      go_wp2_with fail
      refine (LA.out _).mono ?_
      rintro e w4 ⟨g1, pk, c1, ps, rfl, oP, hP, bb⟩
      obtain ⟨r3, bel3⟩ := HS3.out _
      have r4 := r3.next bb
      have bel4 := next_trans bel3 bb
      have oP4 := oP.lower bel3.size
      have LB := hid (LP.out w4 bel4 (some ⟨b2, o2, none⟩) k kc y (HY.out.keep (Keep.below bel4 HQ.out)) hk HFY.out hqz)
      have K0 : w4.cell? ⟨w.heap.size, 0, none⟩ = some (.slice A n cs) := r4.cell 0
      clear r3 bel3 bb LA HS3 oP hx3 hz3 K1 e0 e1 hx0 hpz hqz
      go_wp2_with fail
      refine LB.out.mono ?_
      rintro e w5 ⟨g2, qk, c2, qs, rfl, oQ, hQs, bb⟩
      have oQ5 := oQ.lower bel4.size
      have hl := prt_len2 hP hQs (by rw [HX.out, HZ.out])
      have hpk : pk = qk := by rw [← oQ5.1, ← oP4.1, hl]
      subst hpk
      have hpl : ps.length = pk := oP4.1
      have hpm : pk ≤ 1048576 := by have h1 := hP.len; have h2 := flat_le (ps := ps) fun p hp => fo_pos (hP.2 p hp); have h3 := HTL.out; obtain ⟨⟨x', -, -, e, -⟩, -⟩ := hP; rw [e, List.length_cons] at h3; omega
      have S5 := hid (show PS w Q A V n cs q cv g1 g2 pk c1 c2 ps qs w5 from ⟨r4.next bb, oP4.next bb (fun b hb => Nat.lt_of_lt_of_le (HQ.out b hb) bel4.size), oQ5, next_trans bel4 bb⟩)
      have HPP := hid hP
      have HQQ := hid hQs
      have HPL := hid hpl
      clear r4 bel4 bb oP4 oQ oQ5 hl hP hQs K0 LB hpl
      go_wp2_with fail
      go_loopg [9] pk (fun g i wr => ∃ j : Nat, i = .int .i64 j ∧ j + g = pk ∧ (∀ i, i < j → parB d.1 d.2 (ps.getD i []) (qs.getD i []) = true) ∧ PS w Q A V n cs q cv g1 g2 pk c1 c2 ps qs wr)
      case atStart => exact ⟨0, rfl, by omega, fun i hi => absurd hi (Nat.not_lt_zero i), S5.out⟩
      case round =>
       clear S5
       obtain ⟨j, rfl, hjg, hyes, S⟩ := hrel
       have HJ := hid hjg
       have HY2 := hid hyes
       clear hjg hyes
       have i0 : (0 : Int) ≤ (j : Int) := by omega
       by_cases hj : j < pk
       ·have i1 : (j : Int) < (pk : Int) := by omega
        obtain ⟨X, xn, xc, cx, hX⟩ := stk_at S.p hj
        obtain ⟨Y, yn, yc, cy, hY⟩ := stk_at S.q hj
        have hjl : j < ps.length := by rw [HPL.out]; exact hj
        have hjl2 : j < qs.length := by have := S.q.1; omega
        have hxl := rdq_len hX
        have hyl := rdq_len hY
        have hlt := part_lt HPP.out hjl
        have hlt2 := part_lt HQQ.out hjl2
        have hxn : xn ≤ 1048576 := by have := HTL.out; omega
        have hyn : yn ≤ 1048576 := by have := HYL.out; omega
        have K0 : wr.cell? ⟨w.heap.size, 0, none⟩ = some (.slice A n cs) := S.r.cell 0
        have K1 : wr.cell? ⟨w.heap.size, 1, none⟩ = some (.slice V q cv) := S.r.cell 1
        have LI := hid (fun dd => IH.out (wr.drewN dd) (below_drewN S.b dd) X Y xn yn xc yc (ps.getD j []) (qs.getD j []) (by have := HF.out; omega) (hX.keep fun _ _ => rfl) (hY.keep fun _ _ => rfl) hxn hyn (part_fo HPP.out hjl) (part_fo HQQ.out hjl2))
        have HS := hid (fun dd => (⟨S.r.drewN dd, S.p.drewN dd, S.q.drewN dd, below_drewN S.b dd⟩ : PS w Q A V n cs q cv g1 g2 pk c1 c2 ps qs (wr.drewN dd)))
        have zG1 : ∀ dd, g1 < (wr.drewN dd).heap.size := fun dd => (S.p.ge g1 rfl).2
        have zG2 : ∀ dd, g2 < (wr.drewN dd).heap.size := fun dd => (S.q.ge g2 rfl).2
        clear hX hY hxl hyl hlt hlt2 S
        obtain ⟨bo, hbo⟩ : ∃ bo, parB d.1 d.2 (ps.getD j []) (qs.getD j []) = bo := ⟨_, rfl⟩
        rw [hbo] at LI
        have HB := hid hbo
        clear hbo
        go_wp2_with fail
        go_region_held3 (fun w' => w'.cell? ⟨w.heap.size, 0, none⟩ = some (.slice A n cs) ∧ w'.cell? ⟨w.heap.size, 1, none⟩ = some (.slice V q cv) ∧ w'.cell? ⟨g1, j, none⟩ = some (.slice X xn xc) ∧ w'.cell? ⟨g2, j, none⟩ = some (.slice Y yn yc))
         (go_keep)
         (first
          | (go_at_call 54; refine (LI.out _).mono ?_; rintro e w6 ⟨rfl, bb⟩; have S6 := (HS.out _).next HQ.out bb; have k0 : w6.cell? ⟨w.heap.size, 0, none⟩ = some (.slice A n cs) := S6.r.cell 0; have k1 : w6.cell? ⟨w.heap.size, 1, none⟩ = some (.slice V q cv) := S6.r.cell 1; have k2 : w6.cell? ⟨g1, j, none⟩ = some (.slice X xn xc) := (bb.cell (p := ⟨g1, j, none⟩) (zG1 _)).trans cx; have k3 : w6.cell? ⟨g2, j, none⟩ = some (.slice Y yn yc) := (bb.cell (p := ⟨g2, j, none⟩) (zG2 _)).trans cy; clear HS LI))
        clear k0 k1 k2 k3 cx cy K0 K1 bb zG1 zG2
        have HS6 := hid S6
        clear S6
        cases bo with
        | true =>
         have HN := hid (show ∀ i, i < j + 1 → parB d.1 d.2 (ps.getD i []) (qs.getD i []) = true from fun i hi => by
          rcases Nat.lt_succ_iff_lt_or_eq.1 hi with h1 | h1
          ·exact HY2.out i h1
          ·rw [h1]; exact HB.out)
         go_wp2
         go_roundg (gk - 1)
         case measure => have := HJ.out; omega
         case rel => exact ⟨j + 1, by simp, by have := HJ.out; omega, HN.out, HS6.out⟩
        | false =>
         have F := hid (show AnsB w (parB d.1 d.2 t y) (.returned (.bool false)) w6 from ⟨by rw [par_miss HNE.out HR.out HPP.out HQQ.out hjl HB.out], HS6.out.b⟩)
         clear HS6
         go_wp2
         go_ret
         exact F.out
       ·have i1 : ¬ (j : Int) < (pk : Int) := by omega
        have F := hid (show AnsB w (parB d.1 d.2 t y) (.returned (.bool true)) wr from ⟨by rw [par_all HPP.out HQQ.out (by rw [HX.out, HZ.out]) fun i hi => HY2.out i (by have := HPL.out; have := HJ.out; omega)], S.b⟩)
        clear S
        go_wp2
        go_ret
        exact F.out
    ·have e0 : (x != z) = true := by simp [hxz]
     have F := hid (fun n' => show AnsB w (parB d.1 d.2 t y) (.returned (.bool false)) (w3.drewN n') from ⟨by rw [par_head HNE.out HR.out (by rw [HX.out, HZ.out]; exact hxz)], below_drewN bel3 n'⟩)
     clear r3 bel3
     go_wp2_with fail
     go_quiet (fail)
     go_wp2
     go_ret
     exact F.out _
end parSpec
end
end Go.Proofs.Ytjfpejohpjaahaa
