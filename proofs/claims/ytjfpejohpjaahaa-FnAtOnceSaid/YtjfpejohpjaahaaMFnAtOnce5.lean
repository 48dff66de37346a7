/-
  MERGED: my texts StepImplB, StepImplC, WalkImpl, ParRoot, Stk, PartsSpec, ParSpec, ParImpl, ParStep, ParX, Roll, Roll9, Draw9, Vars9, one behind the other, as they are. By an AI agent.
-/
import Derived.Test.YtjfpejohpjaahaaMFnAtOnce4
import Derived.BigQuiet
import Derived.Deep.Onto
import Derived.Deep.RegionHeld3
import Derived.Deep.QuietTactic
import Derived.BigRegion
namespace Go.Proofs.Ytjfpejohpjaahaa
section
open Go.Lib (hid)
open List (setIfInBounds_toArray set_cons_zero set_cons_succ getElem_toArray getElem_cons_zero getElem_cons_succ)
namespace stepImpl
open Go.RowKit base ints sig term termOk endAt inside marks app sym sub segs segsHelp kinds termFacts termMath posMath plainMath gives Go.Proofs.Ytjfpejohpjaahaa.look fillMath matchMath matchSpec whole takeMath take extended varsOf shape kindsR ruleMath ruleSpec ruleImpl stepMath walkMath stepSpec heldT
set_option maxRecDepth 100000
theorem step_by {sg : List Int} {x : Rl} {t : List Int} {a : Nat} {L : Nat → List Int} (hx : ruleOkB sg x = true) (ht : termOkB sg t = true) (ha : a < t.length) (hL : Turns sg x.1 (subL sg t a) L) :
  stepO sg x t a = if (fillL L x.2).length ≤ 60 ∧ (putAt sg t (fillL L x.2) a).length ≤ 60 then some (putAt sg t (fillL L x.2) a) else none := by
 obtain ⟨h1, h2, h3, h4⟩ := rule_parts hx
 have hs := sub_ok ht ha
 obtain ⟨ss, hm, hg⟩ := turns_match h1 hs hL
 rw [match_yes h1 hs] at hm
 have g := gives_of h1 hs hm
 have e : fillL (givesL ss) x.2 = fillL L x.2 := fill_ext (fun y hy h0 => by
  have hy1 := h4 y hy h0
  show givesL ss (vr y) = L (vr y)
  rw [g.2 y hy1 h0]
  exact hg y hy1 h0)
 unfold stepO
 rw [hm]
 dsimp only
 rw [e]
theorem at_turns {sg p t : List Int} {k : Nat} {s : List (List Int)} (h1 : termOkB sg p = true) (h2 : termOkB sg t = true) (h : mst sg t p k s0 = some s) : Turns sg p (subL sg t k) (givesL s) := by
 have hx : ∀ x ∈ p, -24 ≤ x := fun x hx => (term_mem h1 hx).1
 obtain ⟨⟨rest, e⟩, hv⟩ := mst_sound h2 h (by rfl) hx
 have hg : ∀ x ∈ p, x < 0 → givesL s (vr x) = s.getD (vr x) [] := fun x hx h0 => by
  have this : scan sg 1 (s.getD (vr x) []) = some (s.getD (vr x) []).length := hv x hx h0
  unfold givesL
  rw [if_neg ?_]
  intro e0
  have e1 : s.getD (vr x) [] = [] := List.length_eq_zero_iff.1 e0
  rw [e1] at this
  exact absurd this (by simp [scan])
 have ef : fillL (givesL s) p = fillL (fun i => s.getD i []) p := fill_ext fun x hx h0 => hg x hx h0
 refine ⟨?_, fun x hx h0 => by rw [hg x hx h0]; exact hv x hx h0⟩
 rw [ef]
 have a := scan_append (r := rest) (scan_fill (L := fun i => s.getD i []) (term_parts h1).2.2 hv)
 rw [← e] at a
 unfold subL
 rw [len1_eq a, e, List.take_left' rfl]
theorem reduce_by {sg : List Int} {x : Rl} {t : List Int} {a : Nat} {s : List (List Int)} (hx : ruleOkB sg x = true) (ht : termOkB sg t = true) (ha : a < t.length) (h : mst sg t x.1 a s0 = some s) :
  (stepO sg x t a).getD [] = put.putR sg t (fillL (givesL s) x.2) (a : Int) ∧ (stepO sg x t a).isSome = put.putB sg t (fillL (givesL s) x.2) (a : Int) := by
 obtain ⟨h1, h2, h3, h4⟩ := rule_parts hx
 obtain ⟨s1, s2, s3⟩ := term_parts ht
 have hT := at_turns h1 ht h
 have hth : thereB sg t (a : Int) = true := there_yes ht (by omega) (by omega)
 have hterm : termOkB sg (fillL (givesL s) x.2) = decide ((fillL (givesL s) x.2).length ≤ 60) := by
  by_cases hl : (fillL (givesL s) x.2).length ≤ 60
  ·rw [decide_eq_true hl]
   exact term_mk s1 hl (scan_fill (term_parts h2).2.2 (fun y hy h0 => hT.2 y (h4 y hy h0) h0))
  ·rw [decide_eq_false hl]
   cases e : termOkB sg (fillL (givesL s) x.2) with
   | false => rfl
   | true => exact absurd (term_len e).2 hl
 rw [step_by hx ht ha hT]
 unfold put.putR put.putB
 rw [hth, hterm, Bool.true_and, Int.toNat_natCast]
 unfold put.fitB
 have e1 : put.putI sg t (fillL (givesL s) x.2) a = putAt sg t (fillL (givesL s) x.2) a := rfl
 rw [e1]
 by_cases hl : (fillL (givesL s) x.2).length ≤ 60
 ·by_cases hh : (putAt sg t (fillL (givesL s) x.2) a).length ≤ 60
  ·rw [if_pos ⟨hl, hh⟩, decide_eq_true hl, decide_eq_true hh]; exact ⟨rfl, rfl⟩
  ·rw [if_neg (fun h => hh h.2), decide_eq_true hl, decide_eq_false hh]; exact ⟨rfl, rfl⟩
 ·rw [if_neg (fun h => hl h.1), decide_eq_false hl]; exact ⟨rfl, rfl⟩
theorem red_at {sg : List Int} {x : Rl} {t : List Int} {a : Nat} (hx : ruleOkB sg x = true) (ht : termOkB sg t = true) (ha : a < t.length) : (mst sg t x.1 a s0).isSome = redB sg x t a := by
 obtain ⟨h1, _⟩ := rule_parts hx
 rw [mst_at h1 ht ha]
 unfold redB instB
 rw [match_yes h1 (sub_ok ht ha)]
set_option maxHeartbeats 1000000 in
theorem lookB (cs : Array Value) (s : List (List Int)) (w : World) (htab : TabR w w.heap.size cs s) :
  Calls Try.prog 151 #[.agg cs] w fun e w' => ∃ g, e = .returned (.func (.func 155) #[] #[.pointer (some ⟨g, 0, none⟩)]) ∧ Row w' g 144 #[.slice (some ⟨w.heap.size, 0, none⟩) 24 24] ∧ Segs w' w'.heap.size (some ⟨w.heap.size, 0, none⟩) 24 s ∧ Below w.heap.size w w' ∧ w.heap.size ≤ g := by
 obtain ⟨W, hW⟩ : ∃ W, W = w.alloc (.cells cs 172) := ⟨_, rfl⟩
 have b0 : Below w.heap.size w W := by rw [hW]; exact (Below.refl _ _).alloc (Nat.le_refl _) _
 have r0 : Row W w.heap.size 172 cs := by rw [hW]; exact Row.new w _ _
 have s1 : Segs W W.heap.size (some ⟨w.heap.size, 0, none⟩) 24 s := (htab.below b0).segs r0 b0.size
 have HW := hid hW
 clear hW htab r0
 go_enter Try.func151, Try.ntmps151
 go_wp2_with (first
  | (refine rowBox rfl 172 _ rfl cs rfl ?_))
 rw [← HW.out]
 refine (lookupIn (some ⟨w.heap.size, 0, none⟩) 24 24 W).mono ?_
 rintro e w3 ⟨rfl, hw3⟩
 have b3 : Below W.heap.size W w3 := by rw [hw3]; exact (Below.refl _ _).alloc (Nat.le_refl _) _
 have r3 : Row w3 W.heap.size 144 #[.slice (some ⟨w.heap.size, 0, none⟩) 24 24] := by rw [hw3]; exact Row.new _ _ _
 have F := hid (show ∃ g, Ending.returned (.func (.func 155) #[] #[.pointer (some ⟨W.heap.size, 0, none⟩)]) = .returned (.func (.func 155) #[] #[.pointer (some ⟨g, 0, none⟩)]) ∧ Row w3 g 144 #[.slice (some ⟨w.heap.size, 0, none⟩) 24 24] ∧ Segs w3 w3.heap.size (some ⟨w.heap.size, 0, none⟩) 24 s ∧ Below w.heap.size w w3 ∧ w.heap.size ≤ g from ⟨_, rfl, r3, s1.next b3, next_trans b0 b3, b0.size⟩)
 clear hw3 b3 r3 s1 b0
 go_wp2
 go_ret
 exact F.out
theorem run_loadRow {P : Program} {o : Oper} {a : Act} {w : World} (ty : TypeId) (x : Operand) (ho : o.op = .load ty x) (g : Nat) (hx : a.eval x = .pointer (some ⟨g, 0, none⟩)) (t : TypeId) (cs : Array Value) (fz : Nat × Nat) (d : TypeDesc) (hg : w.heap[g]? = some (.cells cs t fz)) (hu : P.underlying ty = some d) (hd : (match d with | .struct _ | .array _ _ => true | _ => false) = true) (hi : (P.info? ty).map (·.size) = some cs.size) :
  (execOp a.eval o).run P w = .ok (.value (.agg cs)) w := by
 unfold execOp
 simp [ho, hx, Instr.loadAt, Instr.sureAddr, Sem.run_bind, Result.andThen_ok, run_loadVar_row w g t ty cs fz d hg hu hd hi]
set_option maxHeartbeats 4000000 in
theorem reduced (a v u : Value) (d : Dat sSystem) (t : List Int) (x k : Nat) (w : World) (h : Rd w w.heap.size sSystem [a, v] d) (ht : Rd w w.heap.size sI [u] t) (hz : sz sSystem d ≤ 1048576) (hok : rightB d.1 d.2 t = true) (hx : x < t.length) (hk : k < d.2.length) (hred : redB d.1 (d.2.getD k ([], [])) t x = true) :
  Calls Try.prog 148 #[.agg #[a, v], u, .int .i64 (x : Int), .int .i64 (k : Int)] w (AnsStep w (stepO d.1 (d.2.getD k ([], [])) t x)) := by
 obtain ⟨oks, okt⟩ := right_parts hok
 have h0 := h
 have ht0 := ht
 have hk0 := hk
 obtain ⟨T, m, c, rfl, hT, hcT⟩ := rd_ints.1 ht
 have hm : m ≤ 60 := by have := (term_len okt).2; have := hT.1; omega
 obtain ⟨A, n, cs, V, q, cv, rfl, rfl, hs, hc, hcv, hq, hn, hq1, hrs, hsg, hE⟩ := rd_sys h hz
 rw [hq] at hk
 obtain ⟨b, off, l, rr, y, rfl, hb, ey, cl, cr, hry⟩ := rd_at hrs (Below.refl _ _) hq hk
 have hzy : sz sRule y ≤ 1048576 := by rw [← ey.out]; exact hE k hk
 have okr : ruleOkB d.1 y = true := by rw [← ey.out]; exact sys_rule oks (by rw [hq]; exact hk)
 obtain ⟨P, pn, pc, P', pn', pc', rfl, rfl, sP, kP, sP', kP', hpn, hpn'⟩ := rd_rule hry hzy
 rw [ey.out] at hred ⊢
 obtain ⟨W, hW, rA, bel⟩ := box1 w 79 #[.slice A n cs, .slice (some ⟨b, off, none⟩) q cv]
 have HW := hid hW
 have okR := (rule_parts okr).2.1
 have hpn60 : pn' ≤ 60 := by have := (term_len okR).2; have := sP'.1; omega
 have LM := hid (matchAt _ _ _ d t x k W (h0.next bel) (ht0.next bel) hz hok hx hk0)
 rw [ey.out] at LM
 obtain ⟨s, hs0⟩ := Option.isSome_iff_exists.1 (show (mst d.1 t y.1 x s0).isSome = true by rw [red_at okr okt hx]; exact hred)
 rw [hs0] at LM
 have HRB := hid (reduce_by okr okt hx hs0)
 have zA0 : w.heap.size < W.heap.size := rA.lt
 have SS := hid (show Seg w w.heap.size A n d.1 ∧ Seg w w.heap.size T m t ∧ Seg w w.heap.size P' pn' y.2 ∧ m ≤ c ∧ c ≤ 9223372036854775807 from ⟨hs, hT, sP', hcT.1, hcT.2.1⟩)
 have HVS := hid (fun z (hz : z ∈ y.2) => (term_mem okR hz).1)
 have HFL := hid (fun (hM : ∀ i, (givesL s i).length ≤ 60) => (show (fillL (givesL s) y.2).length ≤ 1048576 by
  have h1 := fill_bound (L := givesL s) (t := y.2) (m := pn') (k := pn') (fun i => Nat.le_trans (hM i) (by omega)) sP'.1 hpn60
  rw [List.take_of_length_le (by rw [sP'.1]; exact Nat.le_refl _)] at h1
  omega))
 have K2w : w.cell? ⟨b, off + k * 2 + 1, none⟩ = some (.slice P' pn' pc') := cr
 have i0 : (0 : Int) ≤ (k : Int) := by omega
 have i1 : (k : Int) < (q : Int) := by omega
 have x1 : -9223372036854775808 ≤ (x : Int) := by omega
 have x2 : (x : Int) ≤ 9223372036854775807 := by have := hT.1; omega
 have BEL := hid bel
 have RA := hid rA
 clear hW h h0 ht ht0 hk0 hs hc hcv hq hrs hsg hE hT hcT oks okt okr okR sP kP sP' kP' hry hzy hx hok hz ey rA bel cl cr hs0 hpn hpn' hq1 hred
 go_enter Try.func148, Try.ntmps148
 go_wp2_with fail
 rw [← HW.out]
 refine LM.out.mono ?_
 rintro e w1 ⟨rs, rfl, tab, hsz, bb⟩
 have tab : TabR w1 W.heap.size rs s := tab
 have hsz : ∀ j, (s.getD j []).length ≤ 60 := hsz
 have h24 := hid tab.1
 have one := hid tab.one
 have HGV := hid (fun i => (show (givesL s i).length ≤ 60 by
  unfold givesL
  split
  ·simp [vt]
  ·exact hsz i))
 have TAB := hid tab
 have HB1 := hid bb
 clear LM tab hsz bb
 go_upto_region 2 with (first
  | (refine rowAlloc rfl 172 rfl z24 zero_b ?_)
  | (refine rowStore rfl 172 _ _ rfl w1.heap.size rs z24 172 rfl rfl (heap_alloc_new w1 _) (by rw [h24.out]; exact size_b) (by rw [h24.out]; rfl) one.out ?_; rw [World.setRow_alloc_new]))
 obtain ⟨w2, hw2⟩ : ∃ w2, w2 = w1.alloc (.cells rs 172) := ⟨_, rfl⟩
 rw [← hw2]
 have b12 : Below w1.heap.size w1 w2 := by rw [hw2]; exact (Below.refl _ _).alloc (Nat.le_refl _) _
 have b2 := next_trans HB1.out b12
 have zA : w.heap.size < w2.heap.size := Nat.lt_of_lt_of_le zA0 b2.size
 have zB : b < w2.heap.size := by omega
 have zC : w1.heap.size < w2.heap.size := by rw [hw2]; simp
 have rA2 := RA.out.next b2
 have bel2 := BEL.out.trans (b2.mono BEL.out.size)
 have K0 : w2.cell? ⟨w.heap.size, 0, none⟩ = some (.slice A n cs) := rA2.cell 0
 have K1 : w2.cell? ⟨w.heap.size, 1, none⟩ = some (.slice (some ⟨b, off, none⟩) q cv) := rA2.cell 1
 have K2 : w2.cell? ⟨b, off + k * 2 + 1, none⟩ = some (.slice P' pn' pc') := (bel2.cell (p := ⟨b, off + k * 2 + 1, none⟩) hb).trans K2w
 have K3 : w2.heap[w1.heap.size]? = some (.cells rs 172 (0, 0)) := by rw [hw2]; exact heap_alloc_new w1 _
 have LK := hid (lookB rs s w2.drew ((TAB.out.below (b12.mono HB1.out.size)).more (Nat.le_trans HB1.out.size b12.size)))
 have LFILL := hid (fun g (w3 : World) rg sg (bx : Below w2.drew.heap.size w2.drew w3) => fill 155 #[.pointer (some ⟨g, 0, none⟩)] (enters_of Try.func155 (by kernel_rfl) rfl) P' pn' pc' y.2 (givesL s) w3 (lookSubst g (some ⟨w2.heap.size, 0, none⟩) 24 24 s w3 rg sg (by omega)) (SS.out.2.2.1.next (bel2.drew.trans (bx.mono bel2.size))) hpn60 HVS.out (fun i => Nat.le_trans (HGV.out i) (by omega)))
 have LPUT := hid (fun O on oc (w4 : World) (bx : Below w2.drew.heap.size w2.drew w4) {lo : Nat} (oO : Own w4 lo (.slice O on oc) (fillL (givesL s) y.2)) => put.implPutAt A T O n cs m c on oc d.1 t (x : Int) (fillL (givesL s) y.2) w4 (SS.out.1.next (bel2.drew.trans (bx.mono bel2.size))) (SS.out.2.1.next (bel2.drew.trans (bx.mono bel2.size))) (Own.seg oO) hn (by omega) (by rw [Own.len oO]; exact HFL.out HGV.out) x1 x2 (own_cap oO) SS.out.2.2.2.1 SS.out.2.2.2.2)
 have BEL2 := hid bel2
 clear hw2 b12 b2 rA2 bel2 TAB BEL RA zA0
 refine AnyT.start (S := (fun w' => w'.cell? ⟨w.heap.size, 0, none⟩ = some (.slice A n cs) ∧ w'.cell? ⟨w.heap.size, 1, none⟩ = some (.slice (some ⟨b, off, none⟩) q cv) ∧ w'.cell? ⟨b, off + k * 2 + 1, none⟩ = some (.slice P' pn' pc') ∧ w'.heap[w1.heap.size]? = some (.cells rs 172 (0, 0)))) (fun _ => false) (by kernel_rfl) ⟨K0, K1, K2, K3⟩ (fun hHeld => ?_)
 refine AnyT.takeA (i := 0) (v := ?_) rfl (by kernel_rfl) (by kernel_rfl) (by kernel_rfl) (fun _ _ _ h => h) (Or.inl ⟨by rfl, ?_⟩) ?_
 rotate_left 1
 ·(intro w0 _; go_simp; try with_reducible rfl)
 try simp only [Act.put, setIfInBounds_toArray, set_cons_zero, set_cons_succ, getElem_toArray, getElem_cons_zero, getElem_cons_succ]
 refine AnyT.take (i := 1) (v := ?_) rfl (by kernel_rfl) (by kernel_rfl) (by kernel_rfl) (by kernel_rfl) (fun _ _ _ h => h) (Or.inl ⟨by rfl, ?_⟩) (by assumption) ?_
 rotate_left 1
 ·(intro w0 hSw; (try dsimp only at hSw); go_simp; try with_reducible rfl)
 try simp only [Act.put, setIfInBounds_toArray, set_cons_zero, set_cons_succ, getElem_toArray, getElem_cons_zero, getElem_cons_succ]
 refine AnyT.takeA (i := 2) (v := ?_) rfl (by kernel_rfl) (by kernel_rfl) (by kernel_rfl) (fun _ _ _ h => h) (Or.inl ⟨by rfl, ?_⟩) ?_
 rotate_left 1
 ·(intro w0 _; go_simp; try with_reducible rfl)
 try simp only [Act.put, setIfInBounds_toArray, set_cons_zero, set_cons_succ, getElem_toArray, getElem_cons_zero, getElem_cons_succ]
 refine AnyT.takeA (i := 3) (v := ?_) rfl (by kernel_rfl) (by kernel_rfl) (by kernel_rfl) (fun _ _ _ h => h) (Or.inl ⟨by rfl, ?_⟩) ?_
 rotate_left 1
 ·(intro w0 _; go_simp; try with_reducible rfl)
 try simp only [Act.put, setIfInBounds_toArray, set_cons_zero, set_cons_succ, getElem_toArray, getElem_cons_zero, getElem_cons_succ]
 refine AnyT.take (i := 4) (v := .agg rs) rfl (by kernel_rfl) (by kernel_rfl) (by kernel_rfl) (by kernel_rfl) (fun _ _ _ h => h) (Or.inl ⟨by rfl, ?_⟩) (by assumption) ?_
 ·(intro w0 hSw; exact run_loadRow 172 _ rfl w1.heap.size rfl 172 rs (0, 0) _ hSw.2.2.2 Try.underlying172 rfl (by rw [h24.out]; exact size_b))
 try simp only [Act.put, setIfInBounds_toArray, set_cons_zero, set_cons_succ, getElem_toArray, getElem_cons_zero, getElem_cons_succ]
 refine AnyT.takeA (i := 6) (v := ?_) rfl (by kernel_rfl) (by kernel_rfl) (by kernel_rfl) (fun _ _ _ h => h) (Or.inl ⟨by rfl, ?_⟩) ?_
 rotate_left 1
 ·(intro w0 _; go_simp; try with_reducible rfl)
 try simp only [Act.put, setIfInBounds_toArray, set_cons_zero, set_cons_succ, getElem_toArray, getElem_cons_zero, getElem_cons_succ]
 refine AnyT.take (i := 7) (v := ?_) rfl (by kernel_rfl) (by kernel_rfl) (by kernel_rfl) (by kernel_rfl) (fun _ _ _ h => h) (Or.inl ⟨by rfl, ?_⟩) (by assumption) ?_
 rotate_left 1
 ·(intro w0 hSw; (try dsimp only at hSw); go_simp; try with_reducible rfl)
 try simp only [Act.put, setIfInBounds_toArray, set_cons_zero, set_cons_succ, getElem_toArray, getElem_cons_zero, getElem_cons_succ]
 refine AnyT.takeA (i := 8) (v := ?_) rfl (by kernel_rfl) (by kernel_rfl) (by kernel_rfl) (fun _ _ _ h => h) (Or.inl ⟨by rfl, ?_⟩) ?_
 rotate_left 1
 ·(intro w0 _; go_simp; try with_reducible rfl)
 try simp only [Act.put, setIfInBounds_toArray, set_cons_zero, set_cons_succ, getElem_toArray, getElem_cons_zero, getElem_cons_succ]
 refine AnyT.takeA (i := 9) (v := ?_) rfl (by kernel_rfl) (by kernel_rfl) (by kernel_rfl) (fun _ _ _ h => h) (Or.inl ⟨by rfl, ?_⟩) ?_
 rotate_left 1
 ·(intro w0 _; go_simp; try with_reducible rfl)
 try simp only [Act.put, setIfInBounds_toArray, set_cons_zero, set_cons_succ, getElem_toArray, getElem_cons_zero, getElem_cons_succ]
 refine AnyT.takeA (i := 10) (v := ?_) rfl (by kernel_rfl) (by kernel_rfl) (by kernel_rfl) (fun _ _ _ h => h) (Or.inl ⟨by rfl, ?_⟩) ?_
 rotate_left 1
 ·(intro w0 _; go_simp; try with_reducible rfl)
 try simp only [Act.put, setIfInBounds_toArray, set_cons_zero, set_cons_succ, getElem_toArray, getElem_cons_zero, getElem_cons_succ]
 refine AnyT.take (i := 11) (v := ?_) rfl (by kernel_rfl) (by kernel_rfl) (by kernel_rfl) (by kernel_rfl) (fun _ _ _ h => h) (Or.inl ⟨by rfl, ?_⟩) (by assumption) ?_
 rotate_left 1
 ·(intro w0 hSw; (try dsimp only at hSw); go_simp; try with_reducible rfl)
 try simp only [Act.put, setIfInBounds_toArray, set_cons_zero, set_cons_succ, getElem_toArray, getElem_cons_zero, getElem_cons_succ]
 refine AnyT.call (i := 5) (by kernel_rfl) rfl (fun K hK => ?_)
 try simp only [Act.put, setIfInBounds_toArray, set_cons_zero, set_cons_succ, getElem_toArray, getElem_cons_zero, getElem_cons_succ]
 rw [if_pos (by rfl)]
 go_simp
 (go_at_call 151; refine LK.out.mono ?_; rintro e w3 ⟨g, rfl, rg, sg, bx, zg⟩; have B1 := bx; have K01 : w3.cell? ⟨w.heap.size, 0, none⟩ = some (.slice A n cs) := (B1.cell (p := ⟨w.heap.size, 0, none⟩) zA).trans K0; have K11 : w3.cell? ⟨w.heap.size, 1, none⟩ = some (.slice (some ⟨b, off, none⟩) q cv) := (B1.cell (p := ⟨w.heap.size, 1, none⟩) zA).trans K1; have K21 : w3.cell? ⟨b, off + k * 2 + 1, none⟩ = some (.slice P' pn' pc') := (B1.cell (p := ⟨b, off + k * 2 + 1, none⟩) zB).trans K2; have K31 : w3.heap[w1.heap.size]? = some (.cells rs 172 (0, 0)) := (B1.block _ zC).trans K3; have LFI := hid (LFILL.out g w3 rg sg B1); go_wp2_with fail)
 refine hK.out _ _ (fun _ _ => ?_) (fun hKeep => ?_)
 ·exact ⟨K01, K11, K21, K31⟩
 replace hHeld := hKeep (by first | rfl | trivial) hHeld
 clear hK K hKeep
 try simp only [Act.put, setIfInBounds_toArray, set_cons_zero, set_cons_succ, getElem_toArray, getElem_cons_zero, getElem_cons_succ]
 refine AnyT.call (i := 12) (by kernel_rfl) rfl (fun K hK => ?_)
 try simp only [Act.put, setIfInBounds_toArray, set_cons_zero, set_cons_succ, getElem_toArray, getElem_cons_zero, getElem_cons_succ]
 rw [if_pos (by rfl)]
 go_simp
 (go_at_call 105; refine LFI.out.mono ?_; rintro e w4 ⟨O, on, oc, rfl, oO, by4⟩; have B2 := next_trans B1 by4; have K02 : w4.cell? ⟨w.heap.size, 0, none⟩ = some (.slice A n cs) := (B2.cell (p := ⟨w.heap.size, 0, none⟩) zA).trans K0; have K12 : w4.cell? ⟨w.heap.size, 1, none⟩ = some (.slice (some ⟨b, off, none⟩) q cv) := (B2.cell (p := ⟨w.heap.size, 1, none⟩) zA).trans K1; have K22 : w4.cell? ⟨b, off + k * 2 + 1, none⟩ = some (.slice P' pn' pc') := (B2.cell (p := ⟨b, off + k * 2 + 1, none⟩) zB).trans K2; have K32 : w4.heap[w1.heap.size]? = some (.cells rs 172 (0, 0)) := (B2.block _ zC).trans K3; have LPU := hid (LPUT.out O on oc w4 B2 oO); go_wp2_with fail)
 refine hK.out _ _ (fun _ _ => ?_) (fun hKeep => ?_)
 ·exact ⟨K02, K12, K22, K32⟩
 replace hHeld := hKeep (by first | rfl | trivial) hHeld
 clear hK K hKeep
 try simp only [Act.put, setIfInBounds_toArray, set_cons_zero, set_cons_succ, getElem_toArray, getElem_cons_zero, getElem_cons_succ]
 refine AnyT.call (i := 13) (by kernel_rfl) rfl (fun K hK => ?_)
 try simp only [Act.put, setIfInBounds_toArray, set_cons_zero, set_cons_succ, getElem_toArray, getElem_cons_zero, getElem_cons_succ]
 rw [if_pos (by rfl)]
 go_simp
 (go_at_call 106; refine LPU.out.mono ?_; rintro e w5 ⟨X, xn, xc, rfl, oX, by5⟩; have B3 := next_trans B2 by5; have K03 : w5.cell? ⟨w.heap.size, 0, none⟩ = some (.slice A n cs) := (B3.cell (p := ⟨w.heap.size, 0, none⟩) zA).trans K0; have K13 : w5.cell? ⟨w.heap.size, 1, none⟩ = some (.slice (some ⟨b, off, none⟩) q cv) := (B3.cell (p := ⟨w.heap.size, 1, none⟩) zA).trans K1; have K23 : w5.cell? ⟨b, off + k * 2 + 1, none⟩ = some (.slice P' pn' pc') := (B3.cell (p := ⟨b, off + k * 2 + 1, none⟩) zB).trans K2; have K33 : w5.heap[w1.heap.size]? = some (.cells rs 172 (0, 0)) := (B3.block _ zC).trans K3; go_wp2_with fail)
 refine hK.out _ _ (fun _ _ => ?_) (fun hKeep => ?_)
 ·exact ⟨K03, K13, K23, K33⟩
 replace hHeld := hKeep (by first | rfl | trivial) hHeld
 clear hK K hKeep
 try simp only [Act.put, setIfInBounds_toArray, set_cons_zero, set_cons_succ, getElem_toArray, getElem_cons_zero, getElem_cons_succ]
 refine AnyT.takeA (i := 14) (v := ?_) rfl (by kernel_rfl) (by kernel_rfl) (by kernel_rfl) (fun _ _ _ h => h) (Or.inl ⟨by rfl, ?_⟩) ?_
 rotate_left 1
 ·(intro w0 _; go_simp; try with_reducible rfl)
 try simp only [Act.put, setIfInBounds_toArray, set_cons_zero, set_cons_succ, getElem_toArray, getElem_cons_zero, getElem_cons_succ]
 refine AnyT.takeA (i := 15) (v := ?_) rfl (by kernel_rfl) (by kernel_rfl) (by kernel_rfl) (fun _ _ _ h => h) (Or.inl ⟨by rfl, ?_⟩) ?_
 rotate_left 1
 ·(intro w0 _; go_simp; try with_reducible rfl)
 try simp only [Act.put, setIfInBounds_toArray, set_cons_zero, set_cons_succ, getElem_toArray, getElem_cons_zero, getElem_cons_succ]
 refine AnyT.takeA (i := 16) (v := ?_) rfl (by kernel_rfl) (by kernel_rfl) (by kernel_rfl) (fun _ _ _ h => h) (Or.inl ⟨by rfl, ?_⟩) ?_
 rotate_left 1
 ·(intro w0 _; go_simp; try with_reducible rfl)
 try simp only [Act.put, setIfInBounds_toArray, set_cons_zero, set_cons_succ, getElem_toArray, getElem_cons_zero, getElem_cons_succ]
 refine AnyT.takeA (i := 17) (v := ?_) rfl (by kernel_rfl) (by kernel_rfl) (by kernel_rfl) (fun _ _ _ h => h) (Or.inl ⟨by rfl, ?_⟩) ?_
 rotate_left 1
 ·(intro w0 _; go_simp; try with_reducible rfl)
 try simp only [Act.put, setIfInBounds_toArray, set_cons_zero, set_cons_succ, getElem_toArray, getElem_cons_zero, getElem_cons_succ]
 refine AnyT.done (by kernel_rfl) ?_ _
 have F : AnsStep w (stepO d.1 y t x) (.returned (.tuple #[.slice X xn xc, .bool (put.putB d.1 t (fillL (givesL s) y.2) (x : Int))])) w5 := ⟨X, xn, xc, by rw [HRB.out.2], by rw [HRB.out.1]; exact Own.lower oX (Nat.le_trans BEL2.out.size B2.size), BEL2.out.drew.trans (B3.mono BEL2.out.size)⟩
 have HF := hid F
 clear F oX by5 B1 B2 B3 LK LFILL LPUT LFI LPU oO by4
 generalize put.putB d.1 t (fillL (givesL s) y.2) (x : Int) = bz at *
 go_wp2
 go_ret2
 exact HF.out
end stepImpl
end
section
open Go.Lib (hid)
namespace stepImpl
open Go.RowKit base ints sig term termOk endAt inside marks app sym sub segs segsHelp kinds termFacts matchMath whole takeMath take extended varsOf shape kindsR ruleMath ruleSpec ruleImpl stepMath walkMath stepSpec
set_option maxRecDepth 100000
theorem right_of {sg : List Int} {rs : List Rl} {t : List Int} (h : sysOkB sg rs = true) : rightB sg rs t = termOkB sg t := by unfold rightB; rw [h]; rfl
theorem there_eq {sg : List Int} {rs : List Rl} {t : List Int} {a r : Int} (h : sysOkB sg rs = true) : thereR sg rs t a r = (thereB sg t a && walkMath.inB r rs.length) := by
 unfold thereR thereB walkMath.inB endAt.inB
 rw [right_of h, Bool.and_assoc]
theorem hasRule (a : Value) (V : Option Addr) (q cv : Nat) (r : Int) (w : World) (hq : q ≤ 1048576) :
  Calls Try.prog 122 #[.agg #[a, .slice V q cv], .int .i64 r] w (AnsB w (walkMath.inB r q)) := by
 obtain ⟨W, hW, rA, bel⟩ := box1 w 79 #[a, .slice V q cv]
 have HW := hid hW
 have R := hid rA
 have FF := hid (fun (b : Bool) (h : walkMath.inB r q = b) => (ansB (b := walkMath.inB r q) (a := b) h.symm bel))
 clear hW rA bel
 by_cases h0 : r < 0
 ·have F := hid (FF.out false (by unfold walkMath.inB; exact decide_eq_false (by omega)))
  go_enter Try.func122, Try.ntmps122
  go_wp2_with fail
  try rw [← HW.out]
  go_wp2
  go_ret
  exact F.out
 ·by_cases h1 : r < (q : Int)
  ·have F := hid (FF.out true (by unfold walkMath.inB; exact decide_eq_true (by omega)))
   have h0' : (0 : Int) ≤ r := by omega
   have K1 : (w.alloc (.cells #[a, .slice V q cv] 79)).cell? ⟨w.heap.size, 1, none⟩ = some (.slice V q cv) := by rw [← HW.out]; exact R.out.cell 1
   go_enter Try.func122, Try.ntmps122
   go_wp2
   rw [← HW.out]
   go_ret
   exact F.out
  ·have F := hid (FF.out false (by unfold walkMath.inB; exact decide_eq_false (by omega)))
   have h0' : (0 : Int) ≤ r := by omega
   have K1 : (w.alloc (.cells #[a, .slice V q cv] 79)).cell? ⟨w.heap.size, 1, none⟩ = some (.slice V q cv) := by rw [← HW.out]; exact R.out.cell 1
   go_enter Try.func122, Try.ntmps122
   go_wp2
   rw [← HW.out]
   go_ret
   exact F.out
set_option maxHeartbeats 4000000 in
theorem hasRedex (a v u : Value) (d : Dat sSystem) (t : List Int) (x r : Int) (w : World) (h : Rd w w.heap.size sSystem [a, v] d) (ht : Rd w w.heap.size sI [u] t) (hz : sz sSystem d ≤ 1048576) (hz' : sz sI t ≤ 1048576) (oks : sysOkB d.1 d.2 = true) :
  Calls Try.prog 147 #[.agg #[a, v], u, .int .i64 x, .int .i64 r] w (AnsB w (redexB d.1 d.2 t x r)) := by
 have h0 := h
 have ht0 := ht
 obtain ⟨T, m, c, rfl, hT, hcT⟩ := rd_ints.1 ht
 have hm := len_ints hT.1 hz'
 obtain ⟨A, n, cs, V, q, cv, rfl, rfl, hs, hc, hcv, hq, hn, hq1, hrs, hsg, hE⟩ := rd_sys h hz
 obtain ⟨W, hW, rA, bel⟩ := box1 w 79 #[.slice A n cs, .slice V q cv]
 have HW := hid hW
 have LP := hid (placeIn A T n cs m c d.1 t x W (hs.next bel) (hT.next bel) hn hm)
 have HQ := hid hq
 have LHR := hid (fun (w1 : World) => hasRule (.slice A n cs) V q cv r w1 hq1)
 have LMA := hid (fun (w1 : World) (bb : Below w.heap.size w w1) (x k : Nat) hok hx hk => matchAt _ _ _ d t x k w1 (h0.next bb) (ht0.next bb) hz hok hx hk)
 have OKS := hid oks
 clear hW h h0 ht ht0 hz hz' hs hc hcv hq hrs hsg hE hT hcT oks
 obtain ⟨bp, hbp⟩ : ∃ bp, thereB d.1 t x = bp := ⟨_, rfl⟩
 have HP := hid hbp
 have HTH := hid (show thereR d.1 d.2 t x r = (bp && walkMath.inB r d.2.length) by rw [there_eq OKS.out, hbp])
 rw [hbp] at LP
 clear hbp
 cases bp with
 | false =>
  go_enter Try.func147, Try.ntmps147
  go_wp2_with fail
  rw [← HW.out]
  refine LP.out.mono ?_
  rintro e w1 ⟨rfl, bb⟩
  have F := hid (ansB (b := redexB d.1 d.2 t x r) (a := false) (by rw [redex_no (by rw [HTH.out]; rfl)]) (next_trans bel bb))
  clear bb bel rA LMA
  go_wp2
  go_ret
  exact F.out
 | true =>
  go_enter Try.func147, Try.ntmps147
  go_wp2_with fail
  rw [← HW.out]
  refine LP.out.mono ?_
  rintro e w1 ⟨rfl, bb⟩
  replace rA := rA.next bb
  replace bel := next_trans bel bb
  have K0 : w1.cell? ⟨w.heap.size, 0, none⟩ = some (.slice A n cs) := rA.cell 0
  have K1 : w1.cell? ⟨w.heap.size, 1, none⟩ = some (.slice V q cv) := rA.cell 1
  have LH1 := hid (LHR.out w1)
  clear bb LP LHR
  obtain ⟨bi, hbi⟩ : ∃ bi, walkMath.inB r q = bi := ⟨_, rfl⟩
  have HBI := hid hbi
  rw [hbi] at LH1
  clear hbi
  go_wp2_with fail
  refine LH1.out.mono ?_
  rintro e w2 ⟨rfl, bb⟩
  cases bi with
  | false =>
   have F := hid (ansB (b := redexB d.1 d.2 t x r) (a := false) (by rw [redex_no (by rw [HTH.out, HQ.out, HBI.out]; rfl)]) (next_trans bel bb))
   clear bb bel rA LMA K0 K1 LH1
   go_wp2
   go_ret
   exact F.out
  | true =>
   have hkk : 0 ≤ r ∧ r < (q : Int) := of_decide_eq_true HBI.out
   obtain ⟨k, rfl⟩ := Int.eq_ofNat_of_zero_le hkk.1
   have hkq : k < q := by omega
   have hx := endAt.there_parts HP.out
   obtain ⟨i, rfl⟩ := Int.eq_ofNat_of_zero_le hx.2.1
   have hix : i < t.length := by omega
   have okR : rightB d.1 d.2 t = true := by rw [right_of OKS.out]; exact hx.1
   have hkl : k < d.2.length := by rw [HQ.out]; exact hkq
   have HRE := hid (show redexB d.1 d.2 t (i : Int) (k : Int) = (mst d.1 t (d.2.getD k ([], [])).1 i s0).isSome by
    rw [redex_yes (by rw [HTH.out]; unfold walkMath.inB; rw [decide_eq_true (by omega)]; rfl), red_at (sys_rule OKS.out hkl) hx.1 hix]
    unfold rl
    rw [Int.toNat_natCast, Int.toNat_natCast])
   replace rA := rA.next bb
   replace bel := next_trans bel bb
   have LM1 := hid (LMA.out w2 bel i k okR hix hkl)
   clear K0 K1
   have K0 : w2.cell? ⟨w.heap.size, 0, none⟩ = some (.slice A n cs) := rA.cell 0
   have K1 : w2.cell? ⟨w.heap.size, 1, none⟩ = some (.slice V q cv) := rA.cell 1
   clear hx okR LMA HTH hkk hix hkl bb rA LH1
   obtain ⟨R, hR⟩ : ∃ R, mst d.1 t (d.2.getD k ([], [])).1 i s0 = R := ⟨_, rfl⟩
   rw [hR] at LM1 HRE
   clear hR
   go_wp2_with fail
   refine LM1.out.mono ?_
   rintro e w3 ⟨rs, rfl, tab, hsz, bb⟩
   have one := hid tab.one
   have h24 := hid tab.1
   obtain ⟨bo, hbo⟩ : ∃ bo, R.isSome = bo := ⟨_, rfl⟩
   rw [hbo]
   have F := hid (show AnsB w (redexB d.1 d.2 t (i : Int) (k : Int)) (.returned (.bool bo)) (w3.alloc (.cells rs 172)) from ⟨by rw [HRE.out, hbo], (next_trans bel bb).alloc (next_trans bel bb).size _⟩)
   clear tab hsz bb bel K0 K1 hbo LM1 HRE
   go_wp2_with (first
    | (refine rowAlloc rfl 172 rfl z24 zero_b ?_)
    | (refine rowStore rfl 172 _ _ rfl w3.heap.size rs z24 172 rfl rfl (heap_alloc_new w3 _) (by rw [h24.out]; exact size_b) (by rw [h24.out]; rfl) one.out ?_; rw [World.setRow_alloc_new]))
   go_ret
   exact F.out
set_option maxHeartbeats 4000000 in
theorem stepAt (a v u : Value) (d : Dat sSystem) (t : List Int) (x r : Int) (w : World) (h : Rd w w.heap.size sSystem [a, v] d) (ht : Rd w w.heap.size sI [u] t) (hz : sz sSystem d ≤ 1048576) (hz' : sz sI t ≤ 1048576) (oks : sysOkB d.1 d.2 = true) :
  Calls Try.prog 140 #[.agg #[a, v], u, .int .i64 x, .int .i64 r] w (AnsStep w (stepAtO d.1 d.2 t x r)) := by
 obtain ⟨W, hW, rA, bel⟩ := box1 w 79 #[a, v]
 have HW := hid hW
 have LH := hid (hasRedex a v u d t x r W (h.next bel) (ht.next bel) hz hz' oks)
 have LR := hid (fun (w1 : World) (bb : Below w.heap.size w w1) (x k : Nat) hok hx hk hred => reduced a v u d t x k w1 (h.next bb) (ht.next bb) hz hok hx hk hred)
 clear hW h ht hz hz'
 obtain ⟨bp, hbp⟩ : ∃ bp, redexB d.1 d.2 t x r = bp := ⟨_, rfl⟩
 rw [hbp] at LH
 cases bp with
 | false =>
  have HN := hid (show stepAtO d.1 d.2 t x r = none by
   cases e : stepAtO d.1 d.2 t x r with
   | none => rfl
   | some y => rw [stepAt_redex e] at hbp; cases hbp)
  clear hbp
  go_enter Try.func140, Try.ntmps140
  go_wp2_with fail
  rw [← HW.out]
  refine LH.out.mono ?_
  rintro e w1 ⟨rfl, bb⟩
  have F := hid (ansStep_nil (o := stepAtO d.1 d.2 t x r) HN.out (next_trans bel bb))
  clear bb bel rA LR
  go_wp2
  go_ret2
  exact F.out
 | true =>
  have hth : thereR d.1 d.2 t x r = true := by
   unfold redexB at hbp
   rw [Bool.and_eq_true] at hbp
   exact hbp.1
  obtain ⟨p1, p2, p3, p4⟩ := walkMath.there_parts hth
  obtain ⟨i, rfl⟩ := Int.eq_ofNat_of_zero_le p3.1
  obtain ⟨k, rfl⟩ := Int.eq_ofNat_of_zero_le p4.1
  rw [redex_yes hth] at hbp
  unfold rl at hbp
  rw [Int.toNat_natCast, Int.toNat_natCast] at hbp
  have LR1 := hid (fun w1 bb => LR.out w1 bb i k (right_yes p1 p2) (by omega) (by omega) hbp)
  have HE := hid (show stepAtO d.1 d.2 t (i : Int) (k : Int) = stepO d.1 (d.2.getD k ([], [])) t i by rw [at_yes hth]; unfold rl; rw [Int.toNat_natCast, Int.toNat_natCast])
  clear hth p1 p2 p3 p4 hbp LR oks
  go_enter Try.func140, Try.ntmps140
  go_wp2_with fail
  rw [← HW.out]
  refine LH.out.mono ?_
  rintro e w1 ⟨rfl, bb⟩
  replace rA := rA.next bb
  replace bel := next_trans bel bb
  have K0 : w1.cell? ⟨w.heap.size, 0, none⟩ = some a := rA.cell 0
  have K1 : w1.cell? ⟨w.heap.size, 1, none⟩ = some v := rA.cell 1
  have LR2 := hid (LR1.out w1 bel)
  clear bb LH LR1 rA
  go_wp2_with fail
  refine LR2.out.mono ?_
  rintro e w2 ⟨X, xn, xc, rfl, oX, bb⟩
  have F : AnsStep w (stepAtO d.1 d.2 t (i : Int) (k : Int)) (.returned (.tuple #[.slice X xn xc, .bool (stepO d.1 (d.2.getD k ([], [])) t i).isSome])) w2 := ⟨X, xn, xc, by rw [HE.out], by rw [HE.out]; exact Own.lower oX bel.size, next_trans bel bb⟩
  have HF := hid F
  clear F oX bb bel K0 K1 LR2
  generalize (stepO d.1 (d.2.getD k ([], [])) t i).isSome = bz at *
  go_wp2
  go_ret2
  exact HF.out
end stepImpl
end
section
namespace walkImpl
open Go.RowKit base ints sig term termOk endAt endOf marks app sym sub segs segsHelp kinds termFacts same shifted shape kindsR kindsW varsOf ruleMath ruleSpec ruleImpl stepMath walkMath stepSpec stepImpl walkSpec
set_option maxRecDepth 100000
set_option maxHeartbeats 4000000 in
theorem leads (a v u : Value) (U : Option Addr) (un uc : Nat) (d : Dat sSystem) (t y : List Int) (x r : Int) (w : World) (h : Rd w w.heap.size sSystem [a, v] d) (ht : Rd w w.heap.size sI [u] t) (hU : Seg w w.heap.size U un y) (hz : sz sSystem d ≤ 1048576) (hz' : sz sI t ≤ 1048576) (hun : un ≤ 1048576) (oks : sysOkB d.1 d.2 = true) :
  Calls Try.prog 117 #[.agg #[a, v], u, .agg #[.int .i64 x, .int .i64 r, .slice U un uc]] w (AnsB w (decide (stepAtO d.1 d.2 t x r = some y))) := by
 obtain ⟨W, hW, rA, rX, bel⟩ := box2 w 79 39 #[a, v] #[.int .i64 x, .int .i64 r, .slice U un uc]
 have HW := Lib.hid hW
 have LS := Lib.hid (stepAt a v u d t x r W (h.next bel) (ht.next bel) hz hz' oks)
 have HU := Lib.hid (hU.next bel)
 have K0 : ((w.alloc (.cells #[a, v] 79)).alloc (.cells #[.int .i64 x, .int .i64 r, .slice U un uc] 39)).cell? ⟨w.heap.size, 0, none⟩ = some a := by rw [← hW]; exact rA.cell 0
 have K1 : ((w.alloc (.cells #[a, v] 79)).alloc (.cells #[.int .i64 x, .int .i64 r, .slice U un uc] 39)).cell? ⟨w.heap.size, 1, none⟩ = some v := by rw [← hW]; exact rA.cell 1
 clear hW h ht hU hz hz'
 obtain ⟨o, ho⟩ : ∃ o, stepAtO d.1 d.2 t x r = o := ⟨_, rfl⟩
 rw [ho] at LS
 rw [ho]
 have HL := Lib.hid (show ∀ z, o = some z → z.length ≤ 60 from fun z hz => by subst hz; exact step_len (stepAt_parts ho).2)
 clear ho
 go_enter Try.func117, Try.ntmps117
 go_wp2_with fail
 rw [← HW.out]
 refine LS.out.mono ?_
 rintro e w2 ⟨X, xn, xc, rfl, oX, bb⟩
 replace rX := rX.next bb
 have b2 := next_trans bel bb
 have k2 : w2.cell? ⟨w.heap.size + 1, 2, none⟩ = some (.slice U un uc) := rX.cell 2
 cases o with
 | none =>
  have F := Lib.hid (show AnsB w (decide ((none : Option (List Int)) = some y)) (.returned (.bool false)) w2 from ⟨rfl, b2⟩)
  clear oX bb rA rX bel b2 HL HU LS K0 K1 k2
  go_wp2
  go_ret
  exact F.out
 | some z =>
  have oY : Own w2 W.heap.size (.slice X xn xc) z := oX
  have hxn : xn ≤ 1048576 := by have := HL.out z rfl; have := Own.len oY; omega
  have LE := Lib.hid (implSame X U xn un xc uc z y w2 (Own.seg oY) (HU.out.next bb) hxn hun)
  clear oX oY HU bb rX rA bel LS K0 K1 HL
  go_wp2_with fail
  refine LE.out.mono ?_
  rintro e w3 ⟨rfl, dd, rfl⟩
  have F := Lib.hid (show AnsB w (decide (some z = some y)) (.returned (.bool (decide (z = y)))) (w2.drewN dd) from ⟨by congr 2; simp, below_drewN b2 dd⟩)
  clear b2 k2 LE
  generalize decide (z = y) = bz at *
  go_wp2
  go_ret
  exact F.out
end walkImpl
end
section
open Go.Lib (hid)
namespace parRoot
open Go.RowKit base ints sig term termOk marks app sym sub segs kinds same shifted shape kindsR kindsW varsOf ruleMath ruleSpec ruleImpl stepMath walkMath stepSpec stepImpl walkImpl parMath
set_option maxHeartbeats 4000000 in
theorem l12Root (a v u : Value) (U' : Option Addr) (m' c' : Nat) (d : Dat sSystem) (t y : List Int) (w : World) (h : Rd w w.heap.size sSystem [a, v] d) (ht : Rd w w.heap.size sI [u] t) (hU : Seg w w.heap.size U' m' y) (hz : sz sSystem d ≤ 1048576) (hz' : sz sI t ≤ 1048576) (hm' : m' ≤ 1048576) :
  Calls Try.prog 86 #[.agg #[a, v], u, .slice U' m' c'] w (AnsB w (rootB d.1 d.2 t y d.2.length)) := by
 have h0 := h
 obtain ⟨A, n, cs, V, q, cv, rfl, rfl, hs, hc, hcv, hq, hn, hq1, hrs, hsg, hE⟩ := rd_sys h hz
 obtain ⟨W, hW, rA, bel⟩ := box1 w 32 #[.slice A n cs, .slice V q cv]
 have LST := hid (fun (w1 : World) (bb : Below w.heap.size w w1) (r : Int) => specStepAt0 _ _ u d t 0 r w1 (h0.next bb) (ht.next bb) hz hz')
 have HU := hid hU
 have HQ := hid hq
 have HW := hid hW
 have S0 := hid (show Row W w.heap.size 32 #[.slice A n cs, .slice V q cv] ∧ Below w.heap.size w W from ⟨rA, bel⟩)
 have hq' : q ≤ 1048576 := hq1
 clear h h0 hs hc hcv hq hn hrs hsg hE hz hz' ht hU rA bel hW hq1
 rw [HQ.out]
 go_enter Try.func86, Try.ntmps86
 go_wp2_with fail
 rw [← HW.out]
 clear HW
 go_loopg [7] q (fun g r wr => ∃ k : Nat, r = .int .i64 k ∧ k + g = q ∧ rootB d.1 d.2 t y k = false ∧ Row wr w.heap.size 32 #[.slice A n cs, .slice V q cv] ∧ Below w.heap.size w wr)
 case atStart => exact ⟨0, rfl, by omega, rfl, S0.out.1, S0.out.2⟩
 case round =>
  clear S0
  obtain ⟨k, rfl, hkg, hno, rS, bS⟩ := hrel
  have K0 : wr.cell? ⟨w.heap.size, 0, none⟩ = some (.slice A n cs) := rS.cell 0
  have K1 : wr.cell? ⟨w.heap.size, 1, none⟩ = some (.slice V q cv) := rS.cell 1
  have HK := hid hkg
  have HN := hid hno
  have i0 : (0 : Int) ≤ (k : Int) := by omega
  clear hkg hno
  by_cases hkq : k < q
  ·have i1 : (k : Int) < (q : Int) := by omega
   have LS := hid (LST.out wr bS (k : Int))
   obtain ⟨o, ho⟩ : ∃ o, stepAtO d.1 d.2 t 0 (k : Int) = o := ⟨_, rfl⟩
   rw [ho] at LS
   have HO := hid ho
   have HL := hid (show ∀ z, o = some z → z.length ≤ 60 from fun z hz => by subst hz; exact step_len (stepAt_parts ho).2)
   clear ho
   cases o with
   | none =>
    go_wp2_with fail
    refine LS.out.mono ?_
    rintro e w2 ⟨X, xn, xc, he, oX, bb⟩
    have he : e = .returned (.tuple #[.slice X xn xc, .bool false]) := he
    subst he
    have F := hid (show rootB d.1 d.2 t y (k + 1) = false ∧ Row w2 w.heap.size 32 #[.slice A n cs, .slice V q cv] ∧ Below w.heap.size w w2 from ⟨by rw [root_next, HN.out, HO.out]; rfl, rS.next bb, next_trans bS bb⟩)
    clear rS bS oX bb LS K0 K1
    go_wp2
    go_roundg (gk - 1)
    case measure => have := HK.out; omega
    case rel => exact ⟨k + 1, by simp, by have := HK.out; omega, F.out⟩
   | some x =>
    go_wp2_with fail
    refine LS.out.mono ?_
    rintro e w2 ⟨X, xn, xc, he, oX, bb⟩
    have he : e = .returned (.tuple #[.slice X xn xc, .bool true]) := he
    subst he
    have hX : Own w2 wr.heap.size (.slice X xn xc) x := oX
    have hxn : xn ≤ 1048576 := by have := HL.out x rfl; have := Own.len hX; omega
    have b2 := next_trans bS bb
    have r2 := rS.next bb
    have LE := hid (specSame X U' xn m' xc c' x y w2 (Own.seg hX) ((HU.out.below b2).more b2.size) hxn hm')
    clear rS bS oX hX bb LS K0 K1
    go_wp2_with fail
    refine LE.out.mono ?_
    rintro e w3 ⟨rfl, dd, rfl⟩
    have b3 := below_drewN b2 dd
    have r3 := r2.drewN dd
    clear b2 r2 LE
    by_cases hxy : x = y
    ·have F := hid (show AnsB w (rootB d.1 d.2 t y q) (.returned (.bool true)) (w2.drewN dd) from ⟨by rw [root_in (r := k) (by rw [HO.out, hxy]) hkq], b3⟩)
     rw [decide_eq_true hxy]
     clear b3 r3
     go_wp2
     go_ret
     exact F.out
    ·have F := hid (show rootB d.1 d.2 t y (k + 1) = false ∧ Row (w2.drewN dd) w.heap.size 32 #[.slice A n cs, .slice V q cv] ∧ Below w.heap.size w (w2.drewN dd) from ⟨by rw [root_next, HN.out, HO.out]; simp [hxy], r3, b3⟩)
     rw [decide_eq_false hxy]
     clear b3 r3
     go_wp2
     go_roundg (gk - 1)
     case measure => have := HK.out; omega
     case rel => exact ⟨k + 1, by simp, by have := HK.out; omega, F.out⟩
  ·have i1 : ¬ (k : Int) < (q : Int) := by omega
   have F := hid (show AnsB w (rootB d.1 d.2 t y q) (.returned (.bool false)) wr from ⟨by rw [show q = k by have := HK.out; omega, HN.out], bS⟩)
   clear rS bS K0
   go_wp2
   go_ret
   exact F.out
set_option maxHeartbeats 4000000 in
theorem leadsOnTop (a v u : Value) (U' : Option Addr) (m' c' : Nat) (d : Dat sSystem) (t y : List Int) (w : World) (h : Rd w w.heap.size sSystem [a, v] d) (ht : Rd w w.heap.size sI [u] t) (hU : Seg w w.heap.size U' m' y) (hz : sz sSystem d ≤ 1048576) (hz' : sz sI t ≤ 1048576) (hm' : m' ≤ 1048576) (oks : sysOkB d.1 d.2 = true) :
  Calls Try.prog 78 #[.agg #[a, v], u, .slice U' m' c'] w (AnsB w (rootB d.1 d.2 t y d.2.length)) := by
 have h0 := h
 obtain ⟨A, n, cs, V, q, cv, rfl, rfl, hs, hc, hcv, hq, hn, hq1, hrs, hsg, hE⟩ := rd_sys h hz
 obtain ⟨W, hW, rA, bel⟩ := box1 w 79 #[.slice A n cs, .slice V q cv]
 have LST := hid (fun (w1 : World) (bb : Below w.heap.size w w1) (r : Int) => leads _ _ u U' m' c' d t y 0 r w1 (h0.next bb) (ht.next bb) ((hU.below bb).more bb.size) hz hz' hm' oks)
 have HQ := hid hq
 have HW := hid hW
 have S0 := hid (show Row W w.heap.size 79 #[.slice A n cs, .slice V q cv] ∧ Below w.heap.size w W from ⟨rA, bel⟩)
 have hq' : q ≤ 1048576 := hq1
 have K1 : (w.alloc (.cells #[.slice A n cs, .slice V q cv] 79)).cell? ⟨w.heap.size, 1, none⟩ = some (.slice V q cv) := (Row.new w _ _).cell 1
 clear h h0 hs hc hcv hq hn hrs hsg hE hz hz' ht hU rA bel hW hq1 oks
 rw [HQ.out]
 go_enter Try.func78, Try.ntmps78
 go_wp2_with fail
 rw [← HW.out]
 clear HW K1
 go_loopg [11] q (fun g r wr => ∃ k : Nat, r = .int .i64 k ∧ k + g = q ∧ rootB d.1 d.2 t y k = false ∧ Row wr w.heap.size 79 #[.slice A n cs, .slice V q cv] ∧ Below w.heap.size w wr)
 case atStart => exact ⟨0, rfl, by omega, rfl, S0.out.1, S0.out.2⟩
 case round =>
  clear S0
  obtain ⟨k, rfl, hkg, hno, rS, bS⟩ := hrel
  have K0 : wr.cell? ⟨w.heap.size, 0, none⟩ = some (.slice A n cs) := rS.cell 0
  have K1 : wr.cell? ⟨w.heap.size, 1, none⟩ = some (.slice V q cv) := rS.cell 1
  have HK := hid hkg
  have HN := hid hno
  have i0 : (0 : Int) ≤ (k : Int) := by omega
  clear hkg hno
  by_cases hkq : k < q
  ·have i1 : (k : Int) < (q : Int) := by omega
   have LS := hid (LST.out wr bS (k : Int))
   go_wp2_with fail
   refine LS.out.mono ?_
   rintro e w2 ⟨rfl, bb⟩
   have b2 := next_trans bS bb
   have r2 := rS.next bb
   clear rS bS bb LS K0 K1
   by_cases hxy : stepAtO d.1 d.2 t 0 (k : Int) = some y
   ·have F := hid (show AnsB w (rootB d.1 d.2 t y q) (.returned (.bool true)) w2 from ⟨by rw [root_in (r := k) hxy hkq], b2⟩)
    rw [decide_eq_true hxy]
    clear b2 r2
    go_wp2
    go_ret
    exact F.out
   ·have F := hid (show rootB d.1 d.2 t y (k + 1) = false ∧ Row w2 w.heap.size 79 #[.slice A n cs, .slice V q cv] ∧ Below w.heap.size w w2 from ⟨by rw [root_next, HN.out]; simp [hxy], r2, b2⟩)
    rw [decide_eq_false hxy]
    clear b2 r2
    go_wp2
    go_roundg (gk - 1)
    case measure => have := HK.out; omega
    case rel => exact ⟨k + 1, by simp, by have := HK.out; omega, F.out⟩
  ·have i1 : ¬ (k : Int) < (q : Int) := by omega
   have F := hid (show AnsB w (rootB d.1 d.2 t y q) (.returned (.bool false)) wr from ⟨by rw [show q = k by have := HK.out; omega, HN.out], bS⟩)
   clear rS bS K0 K1
   go_wp2
   go_ret
   exact F.out
end parRoot
end
section
namespace stk
open Go.RowKit base ints marks app sym appAt segs segsMark kinds shape drawX
set_option maxRecDepth 100000
def Stk (w : World) (Q : Nat → Prop) (lo : Nat) (A : Option Addr) (n c : Nat) (D : List (List Int)) : Prop :=
 D.length = n ∧ ∃ vs : List Value, w.ownsRow lo 27 1 (.slice A n c) n vs ∧ ∀ j, j < n → RdQ w Q sI [vs.getD j undef] (D.getD j [])
def Keep (Q : Nat → Prop) (w w' : World) : Prop := ∀ b, Q b → w'.heap[b]? = w.heap[b]?
section
variable {w w' : World} {Q Q' : Nat → Prop} {lo n c : Nat} {A : Option Addr} {D : List (List Int)}
theorem Keep.below {B : Nat} (h : Below B w w') (hQ : ∀ b, Q b → b < B) : Keep Q w w' := fun b hb => h.block b (hQ b hb)
theorem Stk.nil (w : World) (Q : Nat → Prop) (lo : Nat) : Stk w Q lo none 0 0 [] := ⟨rfl, [], World.ownsRow_nil w lo _ _, fun j hj => absurd hj (Nat.not_lt_zero j)⟩
theorem Stk.keep {r : Option Nat} (h : Stk w Q lo A n c D) (hg : w.grownBy w' r) (hne : blk A = none ∨ blk A ≠ r) (hk : Keep Q w w') : Stk w' Q lo A n c D := by
 obtain ⟨h1, vs, h2, h3⟩ := h
 exact ⟨h1, vs, World.ownsRow.kept h2 hg (by rw [blk_own]; exact hne), fun j hj => (h3 j hj).keep hk⟩
theorem Stk.next (h : Stk w Q lo A n c D) (hb : Below w.heap.size w w') (hQ : ∀ b, Q b → b < w.heap.size) : Stk w' Q lo A n c D :=
 h.keep (r := none) ⟨hb.os, hb.tape, hb.output, hb.size, fun k hk _ => hb.block k hk⟩ (by cases blk A <;> simp) (Keep.below hb hQ)
end
theorem vs_len {w : World} {lo n c : Nat} {A : Option Addr} {vs : List Value} (h : w.ownsRow lo 27 1 (.slice A n c) n vs) : vs.length = n := by
 rcases own_form h with ⟨-, h0, -, hv⟩ | ⟨g, cur, -, -, -, -, -, -, hl, -⟩
 ·rw [hv, h0]; rfl
 ·exact hl
end stk
end
section
namespace partsSpec
open Go.RowKit base ints sig term arity endOf marks app segs kinds shape drawX forest stk
set_option maxRecDepth 100000
theorem Fo.le {sg : List Int} {q : Nat} {l : List Int} (h : Fo sg q l) : q ≤ l.length := by
 induction h with
 | nil => exact Nat.zero_le _
 | var x r q h h1 ih => simp; exact ih
 | app x r q h h2 h1 ih => simp; omega
theorem rdq_cut {w : World} {Q : Nat → Prop} {b off m c at_ j : Nat} {u : List Int} (h : RdQ w Q sI [.slice (some ⟨b, off, none⟩) m c] u) (h1 : 1 ≤ j) (h2 : at_ + j ≤ m) : RdQ w Q sI [.slice (some ⟨b, off + at_, none⟩) j (c - at_)] ((u.drop at_).take j) := by
 obtain ⟨A, n, c', e, hc, hl, h3⟩ := h
 injection e with e
 injection e with e1 e2 e3
 subst e1 e2 e3
 obtain ⟨b', off', e4, hq, hp⟩ := h3 (by omega)
 injection e4 with e4
 injection e4 with e5 e6
 subst e5 e6
 have hlu : u.length = m := hl
 refine rdq_seg (by rw [List.length_take, List.length_drop, hlu]; omega) ⟨by have := hc.1; omega, by have := hc.2.1; omega, fun e => by cases e⟩ fun _ => ⟨b, off + at_, rfl, hq, fun j' hj' => ?_⟩
 obtain ⟨es, -, hp1, hp2⟩ := hp (at_ + j') (by omega)
 have hp2 : es = [.int .i64 (u.getD (at_ + j') 0)] := hp2
 subst hp2
 have h4 := hp1 0 (by simp)
 have e7 : off + at_ + j' = off + (at_ + j') * nc .num + 0 := by show _ = _ + _ * 1 + 0; omega
 have e8 : ((u.drop at_).take j).getD j' 0 = u.getD (at_ + j') 0 := by
  simp [List.getD, List.getElem?_take, hj', List.getElem?_drop]
 rw [e7, e8]
 exact h4
end partsSpec
end
section
namespace parSpec
open Go.RowKit base ints sig term termOk marks app sym sub segs kinds same shifted shape kindsR varsOf ruleMath ruleSpec stepMath walkMath stepSpec drawX forest stk partsSpec parMath parRoot
set_option maxRecDepth 100000
theorem rdq_len {w : World} {Q : Nat → Prop} {A : Option Addr} {n c : Nat} {t : List Int} (h : RdQ w Q sI [.slice A n c] t) : t.length = n := by
 obtain ⟨A', n', c', e, hc, hl, -⟩ := h
 injection e with e
 injection e with e1 e2 e3
 rw [e2]
 exact hl
theorem fo_pos {sg t : List Int} (h : Fo sg 1 t) : 1 ≤ t.length := Fo.pos (q := 0) h
structure PS (w : World) (Q : Nat → Prop) (A V : Option Addr) (n cs q cv g1 g2 k c1 c2 : Nat) (ps qs : List (List Int)) (wr : World) : Prop where
 r : Row wr w.heap.size 32 #[.slice A n cs, .slice V q cv]
 p : Stk wr Q w.heap.size (some ⟨g1, 0, none⟩) k c1 ps
 q : Stk wr Q w.heap.size (some ⟨g2, 0, none⟩) k c2 qs
 b : Below w.heap.size w wr
theorem PS.next {w wr w' : World} {Q : Nat → Prop} {A V : Option Addr} {n cs q cv g1 g2 k c1 c2 : Nat} {ps qs : List (List Int)} (h : PS w Q A V n cs q cv g1 g2 k c1 c2 ps qs wr) (hQ : ∀ b, Q b → b < w.heap.size) (hb : Below wr.heap.size wr w') : PS w Q A V n cs q cv g1 g2 k c1 c2 ps qs w' :=
 have hQ' : ∀ b, Q b → b < wr.heap.size := fun b h1 => Nat.lt_of_lt_of_le (hQ b h1) h.b.size
 ⟨h.r.next hb, h.p.next hb hQ', h.q.next hb hQ', next_trans h.b hb⟩
end parSpec
end
section
open Go.Lib (hid)
namespace parImpl
open Go.RowKit base ints sig term arity termOk marks app sym sub segs kinds same shifted shape kindsR varsOf ruleMath ruleSpec stepMath walkMath stepSpec drawX forest stk partsSpec cursor curO parMath parRoot parSpec
set_option maxRecDepth 100000
def upto (ps : List (List Int)) (j : Nat) : Nat := 1 + (ps.take j).flatten.length
theorem upto_next {ps : List (List Int)} {j : Nat} (hj : j < ps.length) : upto ps (j + 1) = upto ps j + (ps.getD j []).length := by
 unfold upto
 rw [List.take_add_one, List.flatten_append, List.length_append, List.getD, List.getElem?_eq_getElem hj]
 simp
 omega
theorem upto_drop {sg t : List Int} {ps : List (List Int)} (h : Prt sg t ps) {j : Nat} (hj : j < ps.length) : t.drop (upto ps j) = ps.getD j [] ++ (ps.drop (j + 1)).flatten := by
 obtain ⟨⟨x, -, -, e, -⟩, -⟩ := h
 have e1 : ps.flatten = (ps.take j).flatten ++ (ps.drop j).flatten := by rw [← List.flatten_append, List.take_append_drop]
 have e2 : ps.drop j = ps.getD j [] :: ps.drop (j + 1) := by rw [List.drop_eq_getElem_cons hj, List.getD, List.getElem?_eq_getElem hj]; rfl
 rw [e, e1, upto, Nat.add_comm, List.drop_succ_cons, List.drop_left, e2, List.flatten_cons]
theorem upto_cut {sg t : List Int} {ps : List (List Int)} (h : Prt sg t ps) {j : Nat} (hj : j < ps.length) : (t.drop (upto ps j)).take (ps.getD j []).length = ps.getD j [] := by
 rw [upto_drop h hj, List.take_left]
theorem upto_le {sg t : List Int} {ps : List (List Int)} (h : Prt sg t ps) {j : Nat} (hj : j < ps.length) : upto ps j + (ps.getD j []).length ≤ t.length := by
 have h1 := congrArg List.length (upto_drop h hj)
 rw [List.length_drop, List.length_append] at h1
 have h2 := fo_pos (part_fo h hj)
 omega
theorem part_in {sg t : List Int} {ps : List (List Int)} (h : Prt sg t ps) {j : Nat} (hj : j < ps.length) (hv : ∀ x ∈ t, -24 ≤ x) : ∀ x ∈ ps.getD j [], -24 ≤ x := by
 intro x hx
 refine hv x ?_
 have h1 : x ∈ t.drop (upto ps j) := by rw [upto_drop h hj]; exact List.mem_append_left _ hx
 exact List.mem_of_mem_drop h1
theorem upto_scan {sg t : List Int} {ps : List (List Int)} (h : Prt sg t ps) {j : Nat} (hj : j < ps.length) (hv : ∀ x ∈ t, -24 ≤ x) : scan sg 1 (t.drop (upto ps j)) = some (ps.getD j []).length := by
 rw [upto_drop h hj]
 exact Go.Proofs.Ytjfpejohpjaahaa.termMath.scan_append (scan_fo (part_fo h hj) (part_in h hj hv))
theorem rdq_cap {w : World} {Q : Nat → Prop} {A : Option Addr} {n c : Nat} {t : List Int} (h : RdQ w Q sI [.slice A n c] t) : Cap A n c := by
 obtain ⟨A', n', c', e, hc, -⟩ := h
 injection e with e
 injection e with e1 e2 e3
 rw [e1, e2, e3]
 exact hc
structure CC (w : World) (A V T U : Option Addr) (n cs q cv m mc k kc p1 p2 i j : Nat) (wr : World) : Prop where
 r : Row wr w.heap.size 79 #[.slice A n cs, .slice V q cv]
 a : Row wr p1 114 #[.slice A n cs, .slice T m mc, .int .i64 i]
 b : Row wr p2 114 #[.slice A n cs, .slice U k kc, .int .i64 j]
 ne : p1 ≠ p2
 ga : w.heap.size < p1
 gb : w.heap.size < p2
 bel : Below w.heap.size w wr
section
variable {w wr w' : World} {A V T U : Option Addr} {n cs q cv m mc k kc p1 p2 i j i' j' : Nat}
theorem CC.next (h : CC w A V T U n cs q cv m mc k kc p1 p2 i j wr) (hb : Below wr.heap.size wr w') : CC w A V T U n cs q cv m mc k kc p1 p2 i j w' :=
 ⟨h.r.next hb, h.a.next hb, h.b.next hb, h.ne, h.ga, h.gb, next_trans h.bel hb⟩
theorem CC.moveA (h : CC w A V T U n cs q cv m mc k kc p1 p2 i j wr) (hg : wr.grownBy w' (some p1)) (ha : Row w' p1 114 #[.slice A n cs, .slice T m mc, .int .i64 i']) : CC w A V T U n cs q cv m mc k kc p1 p2 i' j w' :=
 ⟨marks.Row.away h.r hg (fun e => by injection e with e; have := h.ga; omega), ha, marks.Row.away h.b hg (fun e => by injection e with e; exact h.ne e), h.ne, h.ga, h.gb, h.bel.grown hg h.bel.size (fun z e => by injection e with e; have := h.ga; omega)⟩
theorem CC.moveB (h : CC w A V T U n cs q cv m mc k kc p1 p2 i j wr) (hg : wr.grownBy w' (some p2)) (hb : Row w' p2 114 #[.slice A n cs, .slice U k kc, .int .i64 j']) : CC w A V T U n cs q cv m mc k kc p1 p2 i j' w' :=
 ⟨marks.Row.away h.r hg (fun e => by injection e with e; have := h.gb; omega), marks.Row.away h.a hg (fun e => by injection e with e; exact h.ne e.symm), hb, h.ne, h.ga, h.gb, h.bel.grown hg h.bel.size (fun z e => by injection e with e; have := h.gb; omega)⟩
theorem CC.curA {sg t : List Int} (h : CC w A V T U n cs q cv m mc k kc p1 p2 i j wr) (hs : Seg w w.heap.size A n sg) (ht : Seg w w.heap.size T m t) (hi : i ≤ m) (hn : n ≤ 1048576) (hm : m ≤ 1048576) (ha : Arities sg) : Cur wr p1 A n cs T m mc sg t i :=
 ⟨h.a, (hs.below h.bel).more (Nat.le_of_lt h.ga), (ht.below h.bel).more (Nat.le_of_lt h.ga), hi, hn, hm, ha⟩
theorem CC.curB {sg t : List Int} (h : CC w A V T U n cs q cv m mc k kc p1 p2 i j wr) (hs : Seg w w.heap.size A n sg) (ht : Seg w w.heap.size U k t) (hj : j ≤ k) (hn : n ≤ 1048576) (hk : k ≤ 1048576) (ha : Arities sg) : Cur wr p2 A n cs U k kc sg t j :=
 ⟨h.b, (hs.below h.bel).more (Nat.le_of_lt h.gb), (ht.below h.bel).more (Nat.le_of_lt h.gb), hj, hn, hk, ha⟩
theorem CC.drewN (h : CC w A V T U n cs q cv m mc k kc p1 p2 i j wr) (dd : Nat) : CC w A V T U n cs q cv m mc k kc p1 p2 i j (wr.drewN dd) :=
 ⟨h.r.drewN dd, h.a.drewN dd, h.b.drewN dd, h.ne, h.ga, h.gb, below_drewN h.bel dd⟩
theorem cc_new (hr : Row wr w.heap.size 79 #[.slice A n cs, .slice V q cv]) (hb : Below w.heap.size w wr) (T U : Option Addr) (m mc k kc : Nat) : CC w A V T U n cs q cv m mc k kc wr.heap.size (wr.heap.size + 1) 0 0 ((wr.alloc (.cells #[.slice A n cs, .slice T m mc, .int .i64 0] 114)).alloc (.cells #[.slice A n cs, .slice U k kc, .int .i64 0] 114)).drew := by
 have h1 := hr.lt
 have h2 := Row.new (wr.alloc (.cells #[.slice A n cs, .slice T m mc, .int .i64 0] 114)) 114 #[.slice A n cs, .slice U k kc, .int .i64 0]
 rw [show (wr.alloc (.cells #[.slice A n cs, .slice T m mc, .int .i64 0] 114)).heap.size = wr.heap.size + 1 by simp] at h2
 exact ⟨((hr.alloc _).alloc _).drew, ((Row.new _ _ _).alloc _).drew, h2.drew, by omega, by omega, by omega, ((hb.alloc (by omega) _).alloc (by simp; omega) _).drew⟩
theorem cc_new' (hr : Row wr w.heap.size 79 #[.slice A n cs, .slice V q cv]) (hb : Below w.heap.size w wr) (T U : Option Addr) (m mc k kc : Nat) : CC w A V T U n cs q cv m mc k kc (wr.heap.size + 1) wr.heap.size 0 0 ((wr.alloc (.cells #[.slice A n cs, .slice U k kc, .int .i64 0] 114)).alloc (.cells #[.slice A n cs, .slice T m mc, .int .i64 0] 114)).drew := by
 have h1 := hr.lt
 have h2 := Row.new (wr.alloc (.cells #[.slice A n cs, .slice U k kc, .int .i64 0] 114)) 114 #[.slice A n cs, .slice T m mc, .int .i64 0]
 rw [show (wr.alloc (.cells #[.slice A n cs, .slice U k kc, .int .i64 0] 114)).heap.size = wr.heap.size + 1 by simp] at h2
 exact ⟨((hr.alloc _).alloc _).drew, h2.drew, ((Row.new _ _ _).alloc _).drew, by omega, by omega, by omega, ((hb.alloc (by omega) _).alloc (by simp; omega) _).drew⟩
end
set_option maxHeartbeats 4000000 in
theorem parallel (a v : Value) (d : Dat sSystem) (Q : Nat → Prop) (hz : sz sSystem d ≤ 1048576) (oks : sysOkB d.1 d.2 = true) (hs : Arities d.1) : ∀ (f : Nat) (T U : Option Addr) (m k mc kc : Nat) (t y : List Int) (w : World), t.length < f → Rd w w.heap.size sSystem [a, v] d → RdQ w Q sI [.slice T m mc] t → RdQ w Q sI [.slice U k kc] y → (∀ b, Q b → b < w.heap.size) → m ≤ 1048576 → k ≤ 1048576 → Fo d.1 1 t → Fo d.1 1 y → (∀ x ∈ t, -24 ≤ x) → (∀ x ∈ y, -24 ≤ x) →
  Calls Try.prog 47 #[.agg #[a, v], .slice T m mc, .slice U k kc] w (AnsB w (parB d.1 d.2 t y))
 | 0, _, _, _, _, _, _, _, _, _, hf, _, _, _, _, _, _, _, _, _, _ => absurd hf (Nat.not_lt_zero _)
 | f + 1, T, U, m, k, mc, kc, t, y, w, hf, h, ht, hy, hQ, hm, hk, ft, fy, vt, vy => by
  have IH := hid (fun (w1 : World) (bb : Below w.heap.size w w1) (T' U' : Option Addr) (m' k' mc' kc' : Nat) (t' y' : List Int) hf' h1 h2 hm' hk' f1 f2 v1 v2 => parallel a v d Q hz oks hs f T' U' m' k' mc' kc' t' y' w1 hf' (h.next bb) h1 h2 (fun b hb => Nat.lt_of_lt_of_le (hQ b hb) bb.size) hm' hk' f1 f2 v1 v2)
  obtain ⟨A, n, cs, V, q, cv, rfl, rfl, hsg, hc, hcv, hq, hn, hq1, hrs, hsgr, hE⟩ := rd_sys h hz
  obtain ⟨W, hW, rA, bel⟩ := box1 w 79 #[.slice A n cs, .slice V q cv]
  have htl := rdq_len ht
  have hyl := rdq_len hy
  have hm1 : 0 < m := by have := fo_pos ft; omega
  have hk1 : 0 < k := by have := fo_pos fy; omega
  have hQW : ∀ b, Q b → b < W.heap.size := fun b hb => Nat.lt_of_lt_of_le (hQ b hb) bel.size
  have tW : RdQ W Q sI [.slice T m mc] t := ht.keep (Keep.below bel hQ)
  have yW : RdQ W Q sI [.slice U k kc] y := hy.keep (Keep.below bel hQ)
  have sT : Seg W W.heap.size T m t := shape.Rd.seg (tW.rd hQW)
  have sU : Seg W W.heap.size U k y := shape.Rd.seg (yW.rd hQW)
  obtain ⟨b1, o1, rfl, hb1, hx⟩ := sT.round hm1
  obtain ⟨b2, o2, rfl, hb2, hxy⟩ := sU.round hk1
  obtain ⟨x, ex⟩ : ∃ x, t.getD 0 0 = x := ⟨_, rfl⟩
  obtain ⟨z, ez⟩ : ∃ z, y.getD 0 0 = z := ⟨_, rfl⟩
  rw [ex] at hx
  rw [ez] at hxy
  have LE := hid (implSame _ _ m k mc kc t y W sT sU hm hk)
  have LR := hid (fun dd => leadsOnTop (.slice A n cs) (.slice V q cv) (.slice (some ⟨b1, o1, none⟩) m mc) (some ⟨b2, o2, none⟩) k kc d t y (W.drewN dd) (h.next (below_drewN bel dd)) (ht.rd hQ |>.next (below_drewN bel dd)) (sU.drewN dd) hz (by rw [sz_ints]; omega) hk oks)
  have HT := hid ht
  have HY := hid hy
  have HQ := hid hQ
  have HW := hid hW
  have HFT := hid ft
  have HFY := hid fy
  have HX := hid ex
  have HZ := hid ez
  have HS := hid hs
  have HSG := hid hsg
  have HVT := hid vt
  have HVY := hid vy
  have HF := hid hf
  have HTL := hid htl
  have HYL := hid hyl
  have K0 : (w.alloc (.cells #[.slice A n cs, .slice V q cv] 79)).cell? ⟨w.heap.size, 0, none⟩ = some (.slice A n cs) := (Row.new w _ _).cell 0
  have K1 : (w.alloc (.cells #[.slice A n cs, .slice V q cv] 79)).cell? ⟨w.heap.size, 1, none⟩ = some (.slice V q cv) := (Row.new w _ _).cell 1
  clear h hsg hc hcv hq hrs hsgr hE hz oks ht hy hQ hQW tW yW sT sU ft fy ex ez hs hf htl hyl hW vt vy
  go_enter Try.func47, Try.ntmps47
  go_wp2_with fail
  rw [← HW.out]
  clear K0 K1
  refine LE.out.mono ?_
  rintro e w2 ⟨rfl, dd, rfl⟩
  have r2 := rA.drewN dd
  have bel2 := below_drewN bel dd
  have hx2 : (W.drewN dd).cell? ⟨b1, o1 + 0, none⟩ = some (.int .i64 x) := hx
  have hz2 : (W.drewN dd).cell? ⟨b2, o2 + 0, none⟩ = some (.int .i64 z) := hxy
  have K0 : (W.drewN dd).cell? ⟨w.heap.size, 0, none⟩ = some (.slice A n cs) := r2.cell 0
  have K1 : (W.drewN dd).cell? ⟨w.heap.size, 1, none⟩ = some (.slice V q cv) := r2.cell 1
  have L2 := hid (LR.out dd)
  have hs2 : b1 < (W.drewN dd).heap.size := hb1
  have hs3 : b2 < (W.drewN dd).heap.size := hb2
  generalize hw2 : W.drewN dd = w2 at *
  clear LE LR rA bel hx hxy hw2 HW hb1 hb2
  by_cases hty : t = y
  ·have F := hid (show AnsB w (parB d.1 d.2 t y) (.returned (.bool true)) w2 from ⟨by rw [par_same hty], bel2⟩)
   rw [decide_eq_true hty]
   clear r2 bel2
   go_wp2
   go_ret
   exact F.out
  ·have HNE := hid hty
   rw [decide_eq_false hty]
   clear hty
   go_wp2_with fail
   refine L2.out.mono ?_
   rintro e w3 ⟨rfl, bb⟩
   have r3 := r2.next bb
   have bel3 := next_trans bel2 bb
   have hx3 : w3.cell? ⟨b1, o1, none⟩ = some (.int .i64 x) := (bb.cell (p := ⟨b1, o1 + 0, none⟩) hs2).trans hx2
   have hz3 : w3.cell? ⟨b2, o2, none⟩ = some (.int .i64 z) := (bb.cell (p := ⟨b2, o2 + 0, none⟩) hs3).trans hz2
   have K0 : w3.cell? ⟨w.heap.size, 0, none⟩ = some (.slice A n cs) := r3.cell 0
   have K1 : w3.cell? ⟨w.heap.size, 1, none⟩ = some (.slice V q cv) := r3.cell 1
   clear r2 bel2 hx2 hz2 bb hs2 hs3 L2
   cases hroot : rootB d.1 d.2 t y d.2.length with
   | true =>
    have F := hid (show AnsB w (parB d.1 d.2 t y) (.returned (.bool true)) w3 from ⟨by rw [par_root hroot], bel3⟩)
    clear r3 bel3
    go_wp2
    go_ret
    exact F.out
   | false =>
    have HR := hid hroot
    clear hroot
    have j1 : (0 : Int) < (m : Int) := by omega
    have j2 : (0 : Int) < (k : Int) := by omega
    by_cases hxz : x = z
    ·subst hxz
     have e0 : (x != x) = false := by simp
     have hpz : 0 ≤ t.getD 0 0 := by
      refine Int.not_lt.1 fun hn0 => HNE.out (heads_neg HFT.out HFY.out hn0 (by rw [HX.out, HZ.out]))
     obtain ⟨ps, hP⟩ := prt_ex HFT.out hpz
     obtain ⟨qs, hQs⟩ := prt_ex HFY.out (by rw [HZ.out, ← HX.out]; exact hpz)
     have HP := hid hP
     have HQQ := hid hQs
     have HR3 := hid (fun n' => (⟨r3.drewN n', below_drewN bel3 n'⟩ : Row (w3.drewN n') w.heap.size 79 #[.slice A n cs, .slice V q cv] ∧ Below w.heap.size w (w3.drewN n')))
     clear hP hQs hpz r3 bel3
     go_wp2_with fail
     go_quiet (fail)
     generalize hw4 : w3.drewN _ = w4
     have r4 : Row w4 w.heap.size 79 #[.slice A n cs, .slice V q cv] := by rw [← hw4]; exact (HR3.out _).1
     have bel4 : Below w.heap.size w w4 := by rw [← hw4]; exact (HR3.out _).2
     have K0 : w4.cell? ⟨w.heap.size, 0, none⟩ = some (.slice A n cs) := r4.cell 0
     clear hw4 HR3 K1 hx3 hz3
     go_wp2_with fail
     go_cut [7, 8] (fun a b wx => ∃ p1 p2, a = .pointer (some ⟨p1, 0, none⟩) ∧ b = .pointer (some ⟨p2, 0, none⟩) ∧ CC w A V (some ⟨b1, o1, none⟩) (some ⟨b2, o2, none⟩) n cs q cv m mc k kc p1 p2 0 0 wx)
     case first =>
      have C1 := hid (cc_new r4 bel4 (some ⟨b1, o1, none⟩) (some ⟨b2, o2, none⟩) m mc k kc)
      have C2 := hid (cc_new' r4 bel4 (some ⟨b1, o1, none⟩) (some ⟨b2, o2, none⟩) m mc k kc)
      clear r4 bel4
      go_region_held3 (fun w' => w'.cell? ⟨w.heap.size, 0, none⟩ = some (.slice A n cs)) (go_keep) ((fail))
      all_goals
       go_wp2_with fail
       go_meet
       first
        | exact ⟨_, _, rfl, rfl, C1.out⟩
        | exact ⟨_, _, rfl, rfl, C2.out⟩
     case rest =>
      rename World => wc
      obtain ⟨p1, p2, rfl, rfl, C0⟩ := hcut
      have sT0 : Seg w w.heap.size (some ⟨b1, o1, none⟩) m t := shape.Rd.seg (HT.out.rd HQ.out)
      have sU0 : Seg w w.heap.size (some ⟨b2, o2, none⟩) k y := shape.Rd.seg (HY.out.rd HQ.out)
      have HA := hid (fun (wx : World) (i j : Nat) (C : CC w A V (some ⟨b1, o1, none⟩) (some ⟨b2, o2, none⟩) n cs q cv m mc k kc p1 p2 i j wx) (hi : i ≤ m) => C.curA HSG.out sT0 hi hn hm HS.out)
      have HB := hid (fun (wx : World) (i j : Nat) (C : CC w A V (some ⟨b1, o1, none⟩) (some ⟨b2, o2, none⟩) n cs q cv m mc k kc p1 p2 i j wx) (hj : j ≤ k) => C.curB HSG.out sU0 hj hn hk HS.out)
      have hpl := HP.out
      obtain ⟨⟨x', hx0, hx2, hux, hpl⟩, -⟩ := hpl
      have exx : x' = x := by have := HX.out; rw [hux] at this; exact this
      subst exx
      have hbd := (ar_bd HS.out x').2
      obtain ⟨pk, hpk⟩ := Int.eq_ofNat_of_zero_le hx2
      rw [hpk, Int.toNat_natCast] at hpl
      rw [hpk] at hbd
      have HPK := hid hpk
      have HPL := hid hpl
      have HQL := hid ((prt_len2 HP.out HQQ.out (by rw [HX.out, HZ.out])).symm.trans hpl)
      have hcT := rdq_cap HT.out
      have hcU := rdq_cap HY.out
      have cT1 := hcT.1
      have cT2 := hcT.2.1
      have cU1 := hcU.1
      have cU2 := hcU.2.1
      have LN := hid (next p2 A n cs (some ⟨b2, o2, none⟩) k kc d.1 y 0 wc (HB.out wc 0 0 C0 (Nat.zero_le _)))
      have HC0 := hid C0
      clear C0 sT0 sU0 hcT hcU hux hpl hpk hx0 hx2 r4 bel4 K0
      go_wp2_with fail
      refine LN.out.mono ?_
      rintro e w5 ⟨g5, ⟨-, rfl, hc5⟩ | ⟨h0, -⟩⟩
      case inr => omega
      have HC5 := hid (HC0.out.moveB g5 hc5.row)
      have LM := hid (next p1 A n cs (some ⟨b1, o1, none⟩) m mc d.1 t 0 w5 (HA.out w5 0 1 HC5.out (Nat.zero_le _)))
      clear g5 hc5 LN HC0
      go_wp2_with fail
      refine LM.out.mono ?_
      rintro e w6 ⟨g6, ⟨-, rfl, hc6⟩ | ⟨h0, -⟩⟩
      case inr => omega
      have HC6 := hid (HC5.out.moveA g6 hc6.row)
      rw [HX.out, HPK.out]
      clear g6 hc6 LM HC5
      go_wp2_with fail
      go_loopg [35] pk (fun g i wr => ∃ j : Nat, i = .int .i64 j ∧ j + g = pk ∧ (∀ i, i < j → parB d.1 d.2 (ps.getD i []) (qs.getD i []) = true) ∧ CC w A V (some ⟨b1, o1, none⟩) (some ⟨b2, o2, none⟩) n cs q cv m mc k kc p1 p2 (upto ps j) (upto qs j) wr)
      case atStart => exact ⟨0, rfl, by omega, fun i hi => absurd hi (Nat.not_lt_zero i), HC6.out⟩
      case round =>
       clear HC6
       obtain ⟨j, rfl, hjg, hyes, S⟩ := hrel
       have HJ := hid hjg
       have HY2 := hid hyes
       clear hjg hyes
       by_cases hj : j < pk
       ·have i1 : (j : Int) < (pk : Int) := by omega
        have hjl : j < ps.length := by rw [HPL.out]; exact hj
        have hjl2 : j < qs.length := by rw [HQL.out]; exact hj
        have hlt := part_lt HP.out hjl
        have ule := upto_le HP.out hjl
        have ule2 := upto_le HQQ.out hjl2
        have u1 := fo_pos (part_fo HP.out hjl)
        have u2 := fo_pos (part_fo HQQ.out hjl2)
        rw [HTL.out] at ule
        rw [HYL.out] at ule2
        have HSA := hid (upto_scan HP.out hjl HVT.out)
        have HSB := hid (upto_scan HQQ.out hjl2 HVY.out)
        have HCA := hid (upto_cut HP.out hjl)
        have HCB := hid (upto_cut HQQ.out hjl2)
        have HNA := hid (upto_next hjl)
        have HNB := hid (upto_next hjl2)
        obtain ⟨ua, hua⟩ : ∃ u, upto ps j = u := ⟨_, rfl⟩
        obtain ⟨ub, hub⟩ : ∃ u, upto qs j = u := ⟨_, rfl⟩
        obtain ⟨pa, hpa⟩ : ∃ u, ps.getD j [] = u := ⟨_, rfl⟩
        obtain ⟨pb, hpb⟩ : ∃ u, qs.getD j [] = u := ⟨_, rfl⟩
        rw [hua, hub] at S
        rw [hua, hpa] at HSA HCA HNA ule
        rw [hub, hpb] at HSB HCB HNB ule2
        rw [hpa] at hlt u1
        rw [hpb] at u2
        obtain ⟨la, hla⟩ : ∃ u, pa.length = u := ⟨_, rfl⟩
        obtain ⟨lb, hlb⟩ : ∃ u, pb.length = u := ⟨_, rfl⟩
        rw [hla] at HSA HCA HNA ule u1
        rw [hlb] at HSB HCB HNB ule2 u2
        have K0 : wr.cell? ⟨w.heap.size, 0, none⟩ = some (.slice A n cs) := S.r.cell 0
        have K1 : wr.cell? ⟨w.heap.size, 1, none⟩ = some (.slice V q cv) := S.r.cell 1
        have LA := hid (fun dd => (partC p1 A n cs b1 o1 m mc d.1 t ua la (wr.drewN dd) (HA.out _ ua ub (S.drewN dd) (by omega)) HSA.out ule u1 cT1 cT2).mono fun e w' (r : _ ∧ _ ∧ _) => (⟨r.1, (S.drewN dd).moveA r.2.1 r.2.2.row⟩ : e = .returned (.slice (some ⟨b1, o1 + ua, none⟩) la (mc - ua)) ∧ CC w A V (some ⟨b1, o1, none⟩) (some ⟨b2, o2, none⟩) n cs q cv m mc k kc p1 p2 (ua + la) ub w'))
        have LB := hid (fun (wx : World) (C : CC w A V (some ⟨b1, o1, none⟩) (some ⟨b2, o2, none⟩) n cs q cv m mc k kc p1 p2 (ua + la) ub wx) => (partC p2 A n cs b2 o2 k kc d.1 y ub lb wx (HB.out _ _ ub C (by omega)) HSB.out ule2 u2 cU1 cU2).mono fun e w' (r : _ ∧ _ ∧ _) => (⟨r.1, C.moveB r.2.1 r.2.2.row⟩ : e = .returned (.slice (some ⟨b2, o2 + ub, none⟩) lb (kc - ub)) ∧ CC w A V (some ⟨b1, o1, none⟩) (some ⟨b2, o2, none⟩) n cs q cv m mc k kc p1 p2 (ua + la) (ub + lb) w'))
        have LI := hid (fun (wx : World) (C : CC w A V (some ⟨b1, o1, none⟩) (some ⟨b2, o2, none⟩) n cs q cv m mc k kc p1 p2 (ua + la) (ub + lb) wx) => IH.out wx C.bel (some ⟨b1, o1 + ua, none⟩) (some ⟨b2, o2 + ub, none⟩) la lb (mc - ua) (kc - ub) pa pb (by have := HF.out; omega)
         (by have h9 := rdq_cut (HT.out.keep (Keep.below C.bel HQ.out)) u1 ule; rw [HCA.out] at h9; exact h9)
         (by have h9 := rdq_cut (HY.out.keep (Keep.below C.bel HQ.out)) u2 ule2; rw [HCB.out] at h9; exact h9) (by omega) (by omega)
         (by have h9 := part_fo HP.out hjl; rw [hpa] at h9; exact h9) (by have h9 := part_fo HQQ.out hjl2; rw [hpb] at h9; exact h9)
         (by have h9 := part_in HP.out hjl HVT.out; rw [hpa] at h9; exact h9) (by have h9 := part_in HQQ.out hjl2 HVY.out; rw [hpb] at h9; exact h9))
        obtain ⟨bo, hbo⟩ : ∃ bo, parB d.1 d.2 pa pb = bo := ⟨_, rfl⟩
        rw [hbo] at LI
        have HBO := hid (show parB d.1 d.2 (ps.getD j []) (qs.getD j []) = bo by rw [hpa, hpb]; exact hbo)
        clear S hbo hla hlb hpa hpb hlt hua hub u1 u2
        go_wp2_with fail
        go_region_held3 (fun w' => w'.cell? ⟨w.heap.size, 0, none⟩ = some (.slice A n cs) ∧ w'.cell? ⟨w.heap.size, 1, none⟩ = some (.slice V q cv))
         (go_keep)
         (first
          | (go_at_call 47; refine (LI.out w8 C8).mono ?_; rintro e w9 ⟨rfl, bb⟩; have C9 := C8.next bb; have k0 : w9.cell? ⟨w.heap.size, 0, none⟩ = some (.slice A n cs) := C9.r.cell 0; have k1 : w9.cell? ⟨w.heap.size, 1, none⟩ = some (.slice V q cv) := C9.r.cell 1; clear bb)
          | (go_at_call 80; refine (LB.out w7 C7).mono ?_; rintro e w8 ⟨rfl, C8⟩; have k0 : w8.cell? ⟨w.heap.size, 0, none⟩ = some (.slice A n cs) := C8.r.cell 0; have k1 : w8.cell? ⟨w.heap.size, 1, none⟩ = some (.slice V q cv) := C8.r.cell 1)
          | (go_at_call 80; refine (LA.out _).mono ?_; rintro e w7 ⟨rfl, C7⟩; have k0 : w7.cell? ⟨w.heap.size, 0, none⟩ = some (.slice A n cs) := C7.r.cell 0; have k1 : w7.cell? ⟨w.heap.size, 1, none⟩ = some (.slice V q cv) := C7.r.cell 1))
        clear LA LB LI C7 C8 k0 k1 K0 K1
        have HC9 := hid C9
        clear C9
        cases bo with
        | true =>
         have HN := hid (show ∀ i, i < j + 1 → parB d.1 d.2 (ps.getD i []) (qs.getD i []) = true from fun i hi => by
          rcases Nat.lt_succ_iff_lt_or_eq.1 hi with h1 | h1
          ·exact HY2.out i h1
          ·rw [h1]; exact HBO.out)
         go_wp2
         go_roundg (gk - 1)
         case measure => have := HJ.out; omega
         case rel => exact ⟨j + 1, by simp, by have := HJ.out; omega, HN.out, by rw [HNA.out, HNB.out]; exact HC9.out⟩
        | false =>
         have F := hid (show AnsB w (parB d.1 d.2 t y) (.returned (.bool false)) w9 from ⟨by rw [par_miss HNE.out HR.out HP.out HQQ.out hjl HBO.out], HC9.out.bel⟩)
         clear HC9
         go_wp2
         go_ret
         exact F.out
       ·have i1 : ¬ (j : Int) < (pk : Int) := by omega
        have F := hid (show AnsB w (parB d.1 d.2 t y) (.returned (.bool true)) wr from ⟨by rw [par_all HP.out HQQ.out (by rw [HX.out, HZ.out]) fun i hi => HY2.out i (by have := HPL.out; have := HJ.out; omega)], S.bel⟩)
        clear S
        go_wp2
        go_ret
        exact F.out
    ·have e0 : (x != z) = true := by simp [hxz]
     have F := hid (fun n' => show AnsB w (parB d.1 d.2 t y) (.returned (.bool false)) (w3.drewN n') from ⟨by rw [par_head HNE.out HR.out (by rw [HX.out, HZ.out]; exact hxz)], below_drewN bel3 n'⟩)
     clear r3 bel3
     go_wp2_with fail
     go_quiet (fail)
     go_wp2
     go_ret
     exact F.out _
end parImpl
end
section
namespace parStep
open sig term termOk termFacts fillMath sub putMath matchMath gives ruleMath stepMath walkMath forest parMath parSpec parImpl
variable {sg : List Int} {rs : List Rl}
theorem flat_at : ∀ {ps : List (List Int)} {a : Nat}, a < ps.flatten.length → ∃ j, j < ps.length ∧ (ps.take j).flatten.length ≤ a ∧ a < (ps.take j).flatten.length + (ps.getD j []).length
 | [], a, h => absurd h (Nat.not_lt_zero _)
 | p :: ps, a, h => by
  by_cases hp : a < p.length
  ·exact ⟨0, Nat.succ_pos _, Nat.zero_le _, by simpa using hp⟩
  ·rw [List.flatten_cons, List.length_append] at h
   obtain ⟨j, h1, h2, h3⟩ := flat_at (ps := ps) (a := a - p.length) (by omega)
   refine ⟨j + 1, Nat.succ_lt_succ h1, ?_, ?_⟩
   ·rw [List.take_succ_cons, List.flatten_cons, List.length_append]; omega
   ·rw [List.take_succ_cons, List.flatten_cons, List.length_append]
    show a < p.length + (ps.take j).flatten.length + (ps.getD j []).length
    omega
theorem part_ok {t : List Int} {ps : List (List Int)} (ht : termOkB sg t = true) (h : Prt sg t ps) {j : Nat} (hj : j < ps.length) : termOkB sg (ps.getD j []) = true := by
 have h1 := part_lt h hj
 have h2 := (term_len ht).2
 exact term_mk (term_parts ht).1 (by omega) (scan_fo (part_fo h hj) (part_in h hj fun x hx => (term_mem ht hx).1))
theorem step_part {A B p v : List Int} {x : Rl} {a : Nat} (hp : termOkB sg p = true) (ha : a < p.length) (h : stepO sg x (A ++ (p ++ B)) (A.length + a) = some v) : ∃ v', stepO sg x p a = some v' ∧ v = A ++ (v' ++ B) := by
 obtain ⟨e1, e2⟩ := sub_in (A := A) (B := B) hp ha
 unfold stepO at h ⊢
 rw [e2] at h
 have e3 : ∀ u, putAt sg (A ++ (p ++ B)) u (A.length + a) = A ++ (putAt sg p u a ++ B) := fun u => by
  unfold putAt
  rw [e1]
  refine put_in ?_
  exact (Go.Proofs.Ytjfpejohpjaahaa.posMath.term_at hp ha).2.2
 split at h
 ·cases h
 ·rename_i ss hss
  rw [e3] at h
  split at h
  ·rename_i h4
   injection h with h
   refine ⟨_, if_pos ⟨h4.1, ?_⟩, h.symm⟩
   have h6 := h4.2
   rw [List.length_append, List.length_append] at h6
   omega
  ·cases h
theorem prt_set {A B p v' t : List Int} {ps : List (List Int)} {j : Nat} (h : Prt sg t ps) (hj : j < ps.length) (hv : Fo sg 1 v') : Prt sg (t.take (upto ps j) ++ (v' ++ (ps.drop (j + 1)).flatten)) (ps.set j v') := by
 obtain ⟨⟨x, h1, h2, e, hl⟩, hf⟩ := h
 refine ⟨⟨x, h1, h2, ?_, by rw [List.length_set]; exact hl⟩, fun q hq => ?_⟩
 ·have e1 : t.take (upto ps j) = x :: (ps.take j).flatten := by
   have e2 : ps.flatten = (ps.take j).flatten ++ (ps.drop j).flatten := by rw [← List.flatten_append, List.take_append_drop]
   rw [e, e2, upto, Nat.add_comm, List.take_succ_cons, List.take_left]
  rw [e1, List.cons_append, List.set_eq_take_append_cons_drop, if_pos hj, List.flatten_append, List.flatten_cons]
 ·rcases List.mem_or_eq_of_mem_set hq with h | h
  ·exact hf q h
  ·rw [h]; exact hv
theorem par_step (oks : sysOkB sg rs = true) {r : Nat} (hr : r < rs.length) : ∀ (n : Nat) {t v : List Int} {a : Nat}, t.length ≤ n → termOkB sg t = true → a < t.length → stepO sg (rl rs r) t a = some v → Par sg rs t v
 | 0, t, v, a, hn, _, ha, _ => absurd ha (by omega)
 | n + 1, t, v, a, hn, ht, ha, h => by
  by_cases ha0 : a = 0
  ·subst ha0
   refine .root t v (root_in (r := r) ?_ hr)
   unfold stepAtO
   rw [if_pos (there_mk oks ht ⟨by omega, by omega⟩ ⟨by omega, by omega⟩)]
   exact h
  ·have hf := fo_term ht
   have h0 : 0 ≤ t.getD 0 0 := by
    refine Int.not_lt.1 fun hn0 => ?_
    have h5 := congrArg List.length (fo_neg hf hn0)
    simp at h5
    omega
   obtain ⟨ps, hP⟩ := prt_ex hf h0
   obtain ⟨⟨x, -, -, e, -⟩, -⟩ := id hP
   obtain ⟨j, hj, h1, h2⟩ := flat_at (ps := ps) (a := a - 1) (by have h3 := congrArg List.length e; rw [List.length_cons] at h3; omega)
   have hd := upto_drop hP hj
   have e1 : t = t.take (upto ps j) ++ (ps.getD j [] ++ (ps.drop (j + 1)).flatten) := by rw [← hd, List.take_append_drop]
   have hle := upto_le hP hj
   have hlen : (t.take (upto ps j)).length = upto ps j := by rw [List.length_take]; omega
   have hpo := part_ok ht hP hj
   have e2 : a = (t.take (upto ps j)).length + (a - upto ps j) := by rw [hlen]; unfold upto; omega
   have ha2 : a - upto ps j < (ps.getD j []).length := by unfold upto; omega
   have h' := h
   rw [e2] at h'
   have h'' : stepO sg (rl rs r) (t.take (upto ps j) ++ (ps.getD j [] ++ (ps.drop (j + 1)).flatten)) ((t.take (upto ps j)).length + (a - upto ps j)) = some v := by rw [← e1]; exact h'
   obtain ⟨v', hv1, hv2⟩ := step_part hpo ha2 h''
   have hvo := step_ok (rl_ok oks ⟨by omega, by omega⟩) hpo ha2 hv1
   have hlt := part_lt hP hj
   have hpar := par_step oks hr n (by omega) hpo ha2 hv1
   have hQ := prt_set (A := []) (B := []) (p := []) hP hj (fo_term hvo)
   rw [← hv2] at hQ
   refine .args t v ps (ps.set j v') hP hQ ?_ fun i hi => ?_
   ·rw [hv2, e]
    unfold upto
    rw [Nat.add_comm, List.take_succ_cons]
    rfl
   ·by_cases hij : i = j
    ·subst hij
     rw [show (ps.set i v').getD i [] = v' by rw [List.getD, List.getElem?_set_self hi, Option.getD_some]]
     exact hpar
    ·rw [show (ps.set j v').getD i [] = ps.getD i [] by rw [List.getD, List.getElem?_set_ne (fun h => hij h.symm)]; rfl]
     exact .same _
theorem par_steps {t : List Int} {s : St} (h : s ∈ stepsI sg rs t) : Par sg rs t s.2.2 ∧ termOkB sg s.2.2 = true := by
 unfold stepsI at h
 split at h
 ·rename_i hok
  obtain ⟨oks, ht⟩ := Bool.and_eq_true_iff.1 hok
  unfold stepsL at h
  obtain ⟨a, ha, h⟩ := List.mem_flatMap.1 h
  obtain ⟨r, hr, h⟩ := List.mem_filterMap.1 h
  obtain ⟨v, hv, rfl⟩ := Option.map_eq_some_iff.1 h
  have ha := List.mem_range.1 ha
  have hr := List.mem_range.1 hr
  exact ⟨par_step oks hr t.length (Nat.le_refl _) ht ha hv, step_ok (rl_ok (r := (r : Int)) oks ⟨by omega, by omega⟩) ht ha hv⟩
 ·cases h
end parStep
end
section
open Go.Lib (hid)
namespace parX
open Go.RowKit base ints sig term termOk termFacts marks app sym segs kinds shape kindsR varsOf ruleMath ruleSpec ruleImpl stepMath walkMath stepSpec drawX forest parMath parSpec parImpl
noncomputable def parToB (sg : List Int) (rs : List Rl) (t y : List Int) : Bool := sysOkB sg rs && (termOkB sg t && (termOkB sg y && parB sg rs t y))
section
variable {sg : List Int} {rs : List Rl} {t y : List Int}
theorem par_sys (h : sysOkB sg rs = false) : parToB sg rs t y = false := by unfold parToB; rw [h]; rfl
theorem par_one (h : sysOkB sg rs = true) (h1 : termOkB sg t = false) : parToB sg rs t y = false := by unfold parToB; rw [h, h1]; rfl
theorem par_two (h : sysOkB sg rs = true) (h1 : termOkB sg t = true) (h2 : termOkB sg y = false) : parToB sg rs t y = false := by unfold parToB; rw [h, h1, h2]; rfl
theorem par_ok (h : sysOkB sg rs = true) (h1 : termOkB sg t = true) (h2 : termOkB sg y = true) : parToB sg rs t y = parB sg rs t y := by unfold parToB; rw [h, h1, h2]; rfl
end
theorem rdq_ints {w : World} {A : Option Addr} {n c : Nat} {t : List Int} (h : Seg w w.heap.size A n t) (hc : Cap A n c) : RdQ w (fun b => b < w.heap.size) sI [.slice A n c] t :=
 rdq_seg h.1 hc fun hn => by obtain ⟨b, off, e, hb, hj⟩ := h.2 hn; exact ⟨b, off, e, hb, hj⟩
theorem vars24 {sg t : List Int} (h : termOkB sg t = true) : ∀ x ∈ t, -24 ≤ x := fun x hx => (term_mem h hx).1
set_option maxHeartbeats 4000000 in
theorem implParallelToX (a v u z : Value) (d : Dat sSystem) (t y : List Int) (w : World) (h : Rd w w.heap.size sSystem [a, v] d) (ht : Rd w w.heap.size sI [u] t) (hy : Rd w w.heap.size sI [z] y) (hz : sz sSystem d ≤ 1048576) (hz1 : sz sI t ≤ 1048576) (hz2 : sz sI y ≤ 1048576) :
  Calls Try.prog 14 #[.agg #[a, v], u, z] w (AnsB w (parToB d.1 d.2 t y)) := by
 obtain ⟨T, m, mc, rfl, hT, hcT⟩ := rd_ints.1 ht
 obtain ⟨U, k, kc, rfl, hU, hcU⟩ := rd_ints.1 hy
 have hm : m ≤ 1048576 := len_ints hT.1 hz1
 have hk : k ≤ 1048576 := len_ints hU.1 hz2
 have qT := rdq_ints hT hcT
 have qU := rdq_ints hU hcU
 have h0 := h
 obtain ⟨A, n, cs, V, q, cv, rfl, rfl, hs, hc, hcv, hq, hn, hq1, hrs, hsg, hE⟩ := rd_sys h hz
 obtain ⟨W, hW, rA, bel⟩ := box1 w 32 #[.slice A n cs, .slice V q cv]
 have HW := hid hW
 have L1 := hid (ruleImpl.systemOf _ _ d W (h.next bel) hz)
 have L2 := hid (fun (w1 : World) (bb : Below w.heap.size w w1) => implTermOk A T n cs m mc d.1 t w1 (hs.next bb) (hT.next bb) hn hm)
 have L3 := hid (fun (w1 : World) (bb : Below w.heap.size w w1) => implTermOk A U n cs k kc d.1 y w1 (hs.next bb) (hU.next bb) hn hk)
 have L4 := hid (fun (w1 : World) (bb : Below w.heap.size w w1) oks (t1 : termOkB d.1 t = true) (t2 : termOkB d.1 y = true) => parallel _ _ d (fun b => b < w.heap.size) hz oks (sig_arities (sys_parts oks).1).1 (t.length + 1) T U m k mc kc t y w1 (Nat.lt_succ_self _) (h0.next bb) (qT.keep (stk.Keep.below bb fun b hb => hb)) (qU.keep (stk.Keep.below bb fun b hb => hb)) (fun b hb => Nat.lt_of_lt_of_le hb bb.size) hm hk (fo_term t1) (fo_term t2) (vars24 t1) (vars24 t2))
 clear hW h h0 hz hs hc hcv hq hrs hsg hE ht hy hT hU hcT hcU qT qU hz1 hz2
 cases ok1 : sysOkB d.1 d.2 with
 | false =>
  have HS := hid ok1
  clear ok1
  go_enter Try.func14, Try.ntmps14
  go_wp2_with fail
  rw [← HW.out]
  refine L1.out.mono ?_
  rintro e w1 ⟨he, bb⟩
  rw [HS.out] at he
  have he : e = .returned (.tuple #[.agg #[.slice none 0 0, .slice none 0 0], .bool false]) := he
  subst he
  have F := hid (fun o => ansB (b := parToB d.1 d.2 t y) (a := false) (by rw [par_sys HS.out]) ((next_trans bel bb).alloc (next_trans bel bb).size o))
  clear bb bel rA
  go_wp2
  go_ret
  exact F.out _
 | true =>
  obtain ⟨bt, hbt⟩ : ∃ b, termOkB d.1 t = b := ⟨_, rfl⟩
  obtain ⟨bu, hbu⟩ : ∃ b, termOkB d.1 y = b := ⟨_, rfl⟩
  have HS := hid ok1
  have HB := hid hbt
  have HU := hid hbu
  clear ok1 hbt hbu
  go_enter Try.func14, Try.ntmps14
  go_wp2_with fail
  rw [← HW.out]
  refine L1.out.mono ?_
  rintro e w1 ⟨he, bb⟩
  rw [HS.out] at he
  have he : e = .returned (.tuple #[.agg #[.slice A n cs, .slice V q cv], .bool true]) := he
  subst he
  have bel1 := next_trans bel bb
  obtain ⟨wb, hwb⟩ : ∃ wb, wb = w1.alloc (.cells #[.slice A n cs, .slice V q cv] 79) := ⟨_, rfl⟩
  have rB : Row wb w1.heap.size 79 #[.slice A n cs, .slice V q cv] := by rw [hwb]; exact Row.new _ _ _
  have belB : Below w.heap.size w wb := by rw [hwb]; exact bel1.alloc bel1.size _
  have k0 : (w1.alloc (.cells #[.slice A n cs, .slice V q cv] 79)).cell? ⟨w1.heap.size, 0, none⟩ = some (.slice A n cs) := by rw [← hwb]; exact rB.cell 0
  have k1 : (w1.alloc (.cells #[.slice A n cs, .slice V q cv] 79)).cell? ⟨w1.heap.size, 1, none⟩ = some (.slice V q cv) := by rw [← hwb]; exact rB.cell 1
  have HWB := hid hwb
  clear bb L1 bel1 rA hwb bel
  go_wp2_with fail
  rw [← HWB.out]
  clear k0 k1
  refine (L2.out _ belB).mono ?_
  rintro e w2 ⟨he, bb⟩
  rw [HB.out] at he
  subst he
  replace rB := rB.next bb
  replace belB := next_trans belB bb
  have k0 : w2.cell? ⟨w1.heap.size, 0, none⟩ = some (.slice A n cs) := rB.cell 0
  have k1 : w2.cell? ⟨w1.heap.size, 1, none⟩ = some (.slice V q cv) := rB.cell 1
  clear bb L2
  cases bt with
  | false =>
   have F := hid (ansB (b := parToB d.1 d.2 t y) (a := false) (by rw [par_one HS.out HB.out]) belB)
   clear belB rB
   go_wp2
   go_ret
   exact F.out
  | true =>
   go_wp2_with fail
   refine (L3.out _ belB).mono ?_
   rintro e w3 ⟨he, bb⟩
   rw [HU.out] at he
   subst he
   replace rB := rB.next bb
   replace belB := next_trans belB bb
   have k0 : w3.cell? ⟨w1.heap.size, 0, none⟩ = some (.slice A n cs) := rB.cell 0
   have k1 : w3.cell? ⟨w1.heap.size, 1, none⟩ = some (.slice V q cv) := rB.cell 1
   clear bb L3
   cases bu with
   | false =>
    have F := hid (ansB (b := parToB d.1 d.2 t y) (a := false) (by rw [par_two HS.out HB.out HU.out]) belB)
    clear belB rB
    go_wp2
    go_ret
    exact F.out
   | true =>
    have LL := hid (L4.out _ belB HS.out HB.out HU.out)
    obtain ⟨bz, hbz⟩ : ∃ b, parB d.1 d.2 t y = b := ⟨_, rfl⟩
    rw [hbz] at LL
    have HZ := hid hbz
    clear hbz L4 rB
    go_wp2_with fail
    refine LL.out.mono ?_
    rintro e w4 ⟨rfl, bb⟩
    have F := hid (ansB (b := parToB d.1 d.2 t y) (a := bz) (by rw [par_ok HS.out HB.out HU.out, HZ.out]) (next_trans belB bb))
    clear bb LL belB
    go_wp2
    go_ret
    exact F.out
end parX
end
section
namespace rolls
open Go.RowKit base ints cursor dice
structure RollAt (w : World) (p : Nat) (A : Option Addr) (n c i : Nat) (h : Int) : Prop where
 row : Row w p 71 #[.slice A n c, .int .i64 i, .int .u64 h]
 le : i ≤ n
 s : SegB w p A n
 hn : n ≤ 4096
section
variable {w w' : World} {p : Nat} {A : Option Addr} {n c i : Nat} {h : Int}
theorem RollAt.drewN (d : RollAt w p A n c i h) (k : Nat) : RollAt (w.drewN k) p A n c i h := ⟨d.row, d.le, d.s, d.hn⟩
theorem RollAt.drew (d : RollAt w p A n c i h) : RollAt w.drew p A n c i h := ⟨d.row, d.le, d.s, d.hn⟩
theorem RollAt.setH (d : RollAt w p A n c i h) (h' : Int) : RollAt (w.setCell ⟨p, 2, none⟩ (.int .u64 h')) p A n c i h' :=
 ⟨d.row.put 2 _, d.le, d.s.keep fun q hq => World.cell?_setCell_other w _ q _ (fun e => by subst e; exact Nat.lt_irrefl _ hq), d.hn⟩
end
theorem and24 (n : Int) : 0 ≤ bits .and .u64 n 16777215 ∧ bits .and .u64 n 16777215 ≤ 16777215 := by
 have h255 : (BitVec.ofInt 64 16777215).toNat = 2 ^ 24 - 1 := by decide
 have key : (BitVec.ofInt 64 n &&& BitVec.ofInt 64 16777215).toNat = (n % ((2 ^ 64 : Nat) : Int)).toNat % 2 ^ 24 := by
  rw [BitVec.toNat_and, BitVec.toNat_ofInt, h255, Nat.and_two_pow_sub_one_eq_mod]
 have e : bits .and .u64 n 16777215 = IntKind.u64.wrap ((BitVec.ofInt 64 n &&& BitVec.ofInt 64 16777215).toNat : Nat) := rfl
 rw [e, key, IntKind.wrap_u64]
 omega
def AnsRoll (w : World) (A : Option Addr) (n c : Nat) (e : Ending) (w' : World) : Prop := ∃ p h, e = .returned (.pointer (some ⟨p, 0, none⟩)) ∧ w.heap.size ≤ p ∧ RollAt w' p A n c 0 h ∧ Below w.heap.size w w'
end rolls
end
section
namespace rolls9
open Go.RowKit base ints cursor dice rolls
theorem setI {w : World} {p : Nat} {A : Option Addr} {n c i : Nat} {h : Int} (d : RollAt w p A n c i h) (hi : i < n) : RollAt (w.setCell ⟨p, 1, none⟩ (.int .i64 ((i : Int) + 1))) p A n c (i + 1) h :=
 ⟨by have := d.row.put 1 (.int .i64 ((i : Int) + 1)); simpa using this, hi, d.s.keep fun q hq => World.cell?_setCell_other w _ q _ (fun e => by subst e; exact Nat.lt_irrefl _ hq), d.hn⟩
def AnsBelow9 (w : World) (p : Nat) (A : Option Addr) (n c : Nat) (N : Int) (e : Ending) (w' : World) : Prop := ∃ (x : Int) (i : Nat) (h : Int), e = .returned (.int .i64 x) ∧ 0 ≤ x ∧ x < N ∧ RollAt w' p A n c i h ∧ w.grownBy w' (some p)
set_option maxHeartbeats 2000000 in
theorem rollBelow9 (p : Nat) (A : Option Addr) (n c i : Nat) (h N : Int) (w : World) (R : RollAt w p A n c i h) (h1 : 1 ≤ N) (h2 : N ≤ 256) :
  Calls Try.prog 15 #[.pointer (some ⟨p, 0, none⟩), .int .i64 N] w (AnsBelow9 w p A n c N) := by
 have c0 : w.cell? ⟨p, 0, none⟩ = some (.slice A n c) := R.row.cell 0
 have c1 : w.cell? ⟨p, 1, none⟩ = some (.int .i64 i) := R.row.cell 1
 have c2 : w.cell? ⟨p, 2, none⟩ = some (.int .u64 h) := R.row.cell 2
 have f1 : w.frozen? ⟨p, 1, none⟩ = false := R.row.free 1
 have f2 : w.frozen? ⟨p, 2, none⟩ = false := R.row.free 2
 have HG := Lib.hid (World.grownBy.refl w (some p))
 have hn := R.hn
 have HR := Lib.hid R
 by_cases hlt : i < n
 ·obtain ⟨b, off, rfl, hb, hc⟩ := R.s (by omega)
  obtain ⟨y, hy0, hy1, hy⟩ := hc i hlt
  have hne : b ≠ p := by omega
  have i0 : (0 : Int) ≤ (i : Int) := by omega
  have i1 : (i : Int) < (n : Int) := by omega
  clear hc R
  go_enter Try.func15, Try.ntmps15
  go_wp2_with fail
  have hz := and24 (IntKind.u64.wrap (IntKind.u64.wrap (h * 6364136223846793005) + 1442695040888963407) / 8589934592)
  generalize bits .and .u64 (IntKind.u64.wrap (IntKind.u64.wrap (h * 6364136223846793005) + 1442695040888963407) / 8589934592) 16777215 = Z at *
  rw [IntWalk.wrap64_in Z (by omega)]
  have hz0 := hz.1
  have hz1 := hz.2
  have HM := Lib.hid (fun d : Int => (show 0 ≤ d % N ∧ d % N < N from ⟨Int.emod_nonneg _ (by omega), Int.emod_lt_of_pos _ (by omega)⟩))
  clear hz
  go_quiet (fail)
  go_wp2_with fail
  go_quiet (fail)
  go_wp2
  go_ret
  exact ⟨_, i + 1, _, rfl, (HM.out _).1, (HM.out _).2, setI (((HR.out.setH _).drewN _)) hlt, grown_put (grown_drewN (grown_put HG.out _ _) _) _ _⟩
 ·have i2 : decide (i < n) = false := by simp; omega
  clear R
  go_enter Try.func15, Try.ntmps15
  go_wp2_with fail
  have hz := and24 (IntKind.u64.wrap (IntKind.u64.wrap (h * 6364136223846793005) + 1442695040888963407) / 8589934592)
  generalize bits .and .u64 (IntKind.u64.wrap (IntKind.u64.wrap (h * 6364136223846793005) + 1442695040888963407) / 8589934592) 16777215 = Z at *
  rw [IntWalk.wrap64_in Z (by omega)]
  have hz0 := hz.1
  have hz1 := hz.2
  have HM := Lib.hid (fun d : Int => (show 0 ≤ d % N ∧ d % N < N from ⟨Int.emod_nonneg _ (by omega), Int.emod_lt_of_pos _ (by omega)⟩))
  clear hz
  go_quiet (fail)
  go_wp2
  go_ret
  exact ⟨_, i, _, rfl, (HM.out _).1, (HM.out _).2, (HR.out.setH _).drewN _, grown_drewN (grown_put HG.out _ _) _⟩
end rolls9
end
section
open Go.Lib (hid)
namespace draw9
open Go.RowKit base ints sig term termOk cursor marks app sym dice drawSig drawTerm rolls rolls9 forest
set_option maxRecDepth 100000
set_option maxHeartbeats 2000000 in
theorem rollS (A : Option Addr) (n c : Nat) (sd : Int) (w : World) (hs : SegB w w.heap.size A n) (hn : n ≤ 4096) :
  Calls Try.prog 10 #[.slice A n c, .int .u64 sd] w (AnsRoll w A n c) := by
 go_enter Try.func10, Try.ntmps10
 go_wp2_with fail
 go_loopw [6] (fun i wr => ∃ (k : Nat) (h : Int), k ≤ n ∧ i = .int .i64 k ∧ RollAt wr w.heap.size A n c 0 h ∧ Below w.heap.size w wr) (fun i _ => n - (intOf i).toNat)
 case atStart => exact ⟨0, _, Nat.zero_le _, rfl, ⟨Row.new _ _ _, Nat.zero_le _, hs.keep (fun q hq => World.cell?_alloc_lt w _ q hq), hn⟩, (Below.refl _ _).alloc (Nat.le_refl _) _⟩
 case round =>
  obtain ⟨k, h, hk, rfl, R, B⟩ := hrel
  have c0 : wr.cell? ⟨w.heap.size, 0, none⟩ = some (.slice A n c) := R.row.cell 0
  have c1 : wr.cell? ⟨w.heap.size, 1, none⟩ = some (.int .i64 0) := R.row.cell 1
  have c2 : wr.cell? ⟨w.heap.size, 2, none⟩ = some (.int .u64 h) := R.row.cell 2
  have f2 : wr.frozen? ⟨w.heap.size, 2, none⟩ = false := R.row.free 2
  by_cases hlt : k < n
  ·obtain ⟨b, off, rfl, hb, hc⟩ := R.s (by omega)
   obtain ⟨y, hy0, hy1, hy⟩ := hc k hlt
   have hne : b ≠ w.heap.size := by omega
   have i0 : (0 : Int) ≤ (k : Int) := by omega
   have i1 : (k : Int) < (n : Int) := by omega
   have HR := hid R
   have HB := hid B
   clear hc R B
   go_wp2_with fail
   go_region
   all_goals
    go_wp2
    go_roundw
    case rel =>
     first
      | exact ⟨k + 1, _, hlt, by go_num, (HR.out.setH _).drew, (HB.out.setCell (p := ⟨w.heap.size, 2, none⟩) (Nat.le_refl _) _).drew⟩
      | exact ⟨k + 1, _, hlt, by go_num, HR.out.drew.setH _, HB.out.drew.setCell (p := ⟨w.heap.size, 2, none⟩) (Nat.le_refl _) _⟩
    case measure => simp [intOf]; omega
  ·have F : AnsRoll w A n c (.returned (.pointer (some ⟨w.heap.size, 0, none⟩))) wr := ⟨_, h, rfl, Nat.le_refl _, R, B⟩
   have HF := hid F
   clear F R B c0 c1 c2 f2
   go_wp2
   go_ret
   exact HF.out
def D9 (w : World) (p : Nat) (A : Option Addr) (n c : Nat) : Prop := ∃ i h, RollAt w p A n c i h
section
variable {w w' : World} {p : Nat} {A : Option Addr} {n c : Nat}
theorem D9.lt (d : D9 w p A n c) : p < w.heap.size := by obtain ⟨i, h, r⟩ := d; exact r.row.lt
theorem D9.keep {B : Nat} (d : D9 w p A n c) (hb : Below B w w') (hB : p < B) : D9 w' p A n c := by
 obtain ⟨i, h, d⟩ := d
 exact ⟨i, h, d.row.below hb hB, d.le, d.s.keep fun q hq => hb.cell (by omega), d.hn⟩
theorem D9.next (d : D9 w p A n c) (hb : Below w.heap.size w w') : D9 w' p A n c := d.keep hb d.lt
theorem D9.alloc (d : D9 w p A n c) (o : Obj) : D9 (w.alloc o) p A n c := d.next ((Below.refl _ _).alloc (Nat.le_refl _) o)
end
theorem below9 (p : Nat) (A : Option Addr) (n c : Nat) (N : Int) (w : World) (d : D9 w p A n c) (h1 : 1 ≤ N) (h2 : N ≤ 256) :
  Calls Try.prog 15 #[.pointer (some ⟨p, 0, none⟩), .int .i64 N] w fun e w' => ∃ x : Int, e = .returned (.int .i64 x) ∧ 0 ≤ x ∧ x < N ∧ D9 w' p A n c ∧ w.grownBy w' (some p) := by
 obtain ⟨i, h, R⟩ := d
 exact (rollBelow9 p A n c i h N w R h1 h2).mono fun _ _ ⟨x, i', h', e, a1, a2, r, g⟩ => ⟨x, e, a1, a2, ⟨i', h', r⟩, g⟩
theorem grow9 {w u u' : World} {p : Nat} (g : w.grownBy u (some p)) (hb : Below w.heap.size u u') : w.grownBy u' (some p) :=
 ⟨hb.os.trans g.os, hb.tape.trans g.tape, hb.output.trans g.output, Nat.le_trans g.size hb.size, fun k hk hne => (hb.block k hk).trans (g.block k hk hne)⟩
def sg9 : List Int := [2, 1, 0]
theorem sg9_ok : sigOkB sg9 = true := by decide
theorem ar9_0 : ar sg9 0 = 2 := by decide
theorem ar9_1 : ar sg9 1 = 1 := by decide
theorem ar9_2 : ar sg9 2 = 0 := by decide
theorem w9Sig (w : World) : Calls Try.prog 40 #[] w fun e w' => ∃ O on oc, e = .returned (.agg #[.slice O on oc]) ∧ Own w' w.heap.size (.slice O on oc) sg9 ∧ Below w.heap.size w w' := by
 have z1 : (w.alloc (.cells #[.slice (some ⟨w.heap.size + 1, 0, none⟩) 3 3] 29)).heap.size = w.heap.size + 1 := by simp
 have r0 : Row ((w.alloc (.cells #[.slice (some ⟨w.heap.size + 1, 0, none⟩) 3 3] 29)).alloc (.cells #[.int .i64 2, .int .i64 1, .int .i64 0] 2)) w.heap.size 29 #[.slice (some ⟨w.heap.size + 1, 0, none⟩) 3 3] := (Row.new _ _ _).alloc _
 have r1 := Row.new (w.alloc (.cells #[.slice (some ⟨w.heap.size + 1, 0, none⟩) 3 3] 29)) 2 #[.int .i64 2, .int .i64 1, .int .i64 0]
 have b1 : Below w.heap.size w ((w.alloc (.cells #[.slice (some ⟨w.heap.size + 1, 0, none⟩) 3 3] 29)).alloc (.cells #[.int .i64 2, .int .i64 1, .int .i64 0] 2)) := ((Below.refl _ _).alloc (Nat.le_refl _) _).alloc (by omega) _
 rw [z1] at r1
 have ow : Own _ (w.heap.size + 1) (.slice (some ⟨w.heap.size + 1, 0, none⟩) 3 3) sg9 := Own.of_row (base := w.heap.size + 1) (xs := sg9) r1 rfl rfl (Nat.le_refl _) (by decide) (Nat.le_refl _) (fun j hj => by match j, hj with | 0, _ => rfl | 1, _ => rfl | 2, _ => rfl)
 have F := hid (And.intro (Own.lower ow (Nat.le_succ _)) b1)
 have cN : _ = some (Value.slice (some ⟨w.heap.size + 1, 0, none⟩) 3 3) := r0.cell 0
 clear ow r0 r1 b1 z1
 go_enter Try.func40, Try.ntmps40
 go_wp2
 exact bodyPost_ret (v := .agg #[.slice (some ⟨w.heap.size + 1, 0, none⟩) 3 3]) (by simp [results, Try.results40, go_sem, cN]) rfl ⟨_, _, _, rfl, F.out.1, F.out.2⟩
def T9 (v : Int) (L : Nat) (xs : List Int) : Prop := Fo sg9 1 xs ∧ xs.length ≤ L ∧ ∀ x ∈ xs, -v ≤ x
def AnsT9 (w : World) (p : Nat) (A : Option Addr) (n c : Nat) (v : Int) (L : Nat) (e : Ending) (w' : World) : Prop :=
 ∃ O on oc xs, e = .returned (.slice O on oc) ∧ Own w' w.heap.size (.slice O on oc) xs ∧ T9 v L xs ∧ D9 w' p A n c ∧ w.grownBy w' (some p)
theorem leaf9 {w u : World} {p : Nat} {A : Option Addr} {n c L : Nat} {v y : Int} (hd : D9 u p A n c) (hg : w.grownBy u (some p)) (hL : 1 ≤ L) (hy : (y < 0 ∧ -v ≤ y) ∨ (y = 2 ∧ 0 ≤ v)) :
  AnsT9 w p A n c v L (.returned (.slice (some ⟨u.heap.size, 0, none⟩) 1 1)) (u.alloc (.cells #[.int .i64 y] 2)) := by
 refine ⟨_, _, _, [y], rfl, Own.of_row (Row.new _ _ _) rfl rfl (Nat.le_refl _) (by omega) hg.size (fun j hj => by match j, hj with | 0, _ => rfl), ⟨?_, hL, ?_⟩, hd.alloc _, grown_trans hg (World.grownBy_alloc _ _ _)⟩
 ·rcases hy with ⟨h, -⟩ | ⟨rfl, -⟩
  ·exact .var y [] 0 h .nil
  ·exact .app 2 [] 0 (by omega) (by rw [ar9_2]; omega) (by rw [ar9_2]; exact .nil)
 ·intro x hx
  rw [List.mem_singleton.1 hx]
  omega
theorem fo_top {F : Nat} {ys : List Int} (hF : F ≤ 2) (h : Fo sg9 (2 - F) ys) : Fo sg9 1 ((F : Int) :: ys) := by
 have h3 : F = 0 ∨ F = 1 ∨ F = 2 := by omega
 rcases h3 with rfl | rfl | rfl
 ·exact .app 0 ys 0 (by omega) (by rw [ar9_0]; omega) (by rw [ar9_0]; exact h)
 ·exact .app 1 ys 0 (by omega) (by rw [ar9_1]; omega) (by rw [ar9_1]; exact h)
 ·exact .app 2 ys 0 (by omega) (by rw [ar9_2]; omega) (by rw [ar9_2]; exact h)
def HeadS (w : World) (p : Nat) (A : Option Addr) (n c : Nat) (v : Int) (F M : Nat) (out k : Value) (wr : World) : Prop :=
 ∃ (r : Nat) (O : Option Addr) (on oc : Nat) (ys : List Int), k = .int .i64 (2 - (r : Int)) ∧ r ≤ 2 - F ∧ out = .slice O on oc ∧ Own wr w.heap.size (.slice O on oc) ((F : Int) :: ys) ∧ Fo sg9 (2 - F - r) ys ∧ ys.length + r * M ≤ 2 * M ∧ (∀ x ∈ ys, -v ≤ x) ∧ D9 wr p A n c ∧ w.grownBy wr (some p)
theorem head0 {w u : World} {p : Nat} {A : Option Addr} {n c : Nat} {v : Int} {F M : Nat} (hF : F ≤ 2) (d : D9 u p A n c) (g : w.grownBy u (some p)) :
  HeadS w p A n c v F M (.slice (some ⟨u.heap.size, 0, none⟩) 1 1) (.int .i64 (F : Int)) (u.alloc (.cells #[.int .i64 (F : Int)] 2)) :=
 ⟨2 - F, _, _, _, [], by congr 1; omega, Nat.le_refl _, rfl, Own.of_row (Row.new _ _ _) rfl rfl (Nat.le_refl _) (by omega) g.size (fun j hj => by match j, hj with | 0, _ => rfl), by rw [Nat.sub_self]; exact .nil, by have := Nat.mul_le_mul_right M (show 2 - F ≤ 2 by omega); simpa using this, by simp, d.alloc _, grown_trans g (World.grownBy_alloc _ _ _)⟩
theorem HeadS.done {w u : World} {p : Nat} {A : Option Addr} {n c : Nat} {v : Int} {F M : Nat} {O : Option Addr} {on oc : Nat} {ys : List Int} (hv : 0 ≤ v) (hF : F ≤ 2) (ho : Own u w.heap.size (.slice O on oc) ((F : Int) :: ys)) (hf : Fo sg9 (2 - F - 0) ys) (hl : ys.length + 0 * M ≤ 2 * M) (hy : ∀ x ∈ ys, -v ≤ x) (d : D9 u p A n c) (g : w.grownBy u (some p)) : AnsT9 w p A n c v (1 + 2 * M) (.returned (.slice O on oc)) u :=
 ⟨O, on, oc, _, rfl, ho, ⟨fo_top hF (by simpa using hf), by rw [List.length_cons]; omega, fun x hx => by
  rcases List.mem_cons.1 hx with e | e
  ·omega
  ·exact hy x e⟩, d, g⟩
set_option maxHeartbeats 4000000 in
theorem w9Step (p : Nat) (A : Option Addr) (n c : Nat) (v deep : Int) (M : Nat) (w : World) (hv0 : 0 ≤ v) (hv1 : v ≤ 24) (hd : D9 w p A n c) (h0 : -1000 ≤ deep) (h1 : deep ≤ 1000) (hM : M ≤ 1000)
  (ih : 1 < deep → ∀ w', D9 w' p A n c → Calls Try.prog 12 #[.pointer (some ⟨p, 0, none⟩), .int .i64 (deep - 1), .int .i64 v] w' (AnsT9 w' p A n c v M)) :
  Calls Try.prog 12 #[.pointer (some ⟨p, 0, none⟩), .int .i64 deep, .int .i64 v] w (AnsT9 w p A n c v (1 + 2 * M)) := by
 have IH := hid ih
 clear ih
 have B3 := hid (fun (u : World) (d : D9 u p A n c) => below9 p A n c 3 u d (by omega) (by omega))
 have HL := hid (show 1 ≤ 1 + 2 * M by omega)
 have HD := hid hd
 clear hd
 by_cases hv : 0 < v
 ·go_enter Try.func12, Try.ntmps12
  go_wp2_with fail
  refine (B3.out _ HD.out).mono ?_
  rintro e u1 ⟨x, rfl, x0, x1, d1, g1⟩
  by_cases hx : x = 0
  ·subst hx
   have B1 := hid (below9 p A n c v u1 d1 (by omega) (by omega))
   go_wp2_with fail
   refine B1.out.mono ?_
   rintro e u2 ⟨y, rfl, y0, y1, d2, g2⟩
   have F := hid (leaf9 (L := 1 + 2 * M) (v := v) (y := -1 - y) d2 (grown_trans g1 g2) HL.out (.inl ⟨by omega, by omega⟩))
   clear B1 d1 g1 d2 g2 IH
   go_wp2
   go_ret
   exact F.out
  ·have hx' : (x == 0) = false := by simp [hx]
   go_wp2_with fail
   refine (B3.out _ d1).mono ?_
   rintro e u2 ⟨x, rfl, x0, x1, d2, g2⟩
   have G2 := hid (grown_trans g1 g2)
   by_cases hz : deep ≤ 1
   ·have S0 := hid (head0 (v := v) (M := M) (F := 2) (by omega) d2 G2.out)
    obtain ⟨r, O, on, oc, ys, -, -, hO, ho, hf, hl, hy, d3, g3⟩ := S0.out
    injection hO with hO1 hO2 hO3
    subst hO1 hO2 hO3
    have F := hid (leaf9 (L := 1 + 2 * M) (v := v) (y := 2) d2 G2.out HL.out (.inr ⟨rfl, hv0⟩))
    clear ho hf hl hy d3 g3 S0 d2 g2 G2 IH B3
    go_wp2_with fail
    go_loopw [8, 9] (fun out k wr => out = .slice (some ⟨u2.heap.size, 0, none⟩) 1 1 ∧ k = .int .i64 2 ∧ wr = u2.alloc (.cells #[.int .i64 2] 2)) (fun _ _ _ => 0)
    case atStart => exact ⟨rfl, rfl, rfl⟩
    case round =>
     obtain ⟨rfl, rfl, rfl⟩ := hrel
     go_wp2
     go_ret
     exact F.out
   ·have hz1 : 1 < deep := by omega
    obtain ⟨F, rfl⟩ := Int.eq_ofNat_of_zero_le x0
    have hF : F ≤ 2 := by omega
    have S0 := hid (head0 (v := v) (M := M) hF d2 G2.out)
    clear d2 g2 G2 B3
    go_wp2_with fail
    go_loopw [8, 9] (fun out k wr => HeadS w p A n c v F M out k wr) (fun _ k _ => (2 - intOf k).toNat)
    case atStart => exact S0.out
    case round =>
     clear S0
     obtain ⟨r, O, on, oc, ys, rfl, hr, rfl, ho, hf, hl, hy, d3, g3⟩ := hrel
     cases r with
     | zero =>
      have FF := hid (HeadS.done hv0 hF ho hf hl hy d3 g3)
      clear ho hf hl hy d3 g3 IH
      go_wp2
      go_ret
      exact FF.out
     | succ r =>
      have hlt : (2 : Int) - ((r + 1 : Nat) : Int) < 2 := by omega
      have hon : on = ys.length + 1 := by have := Own.len ho; rw [List.length_cons] at this; omega
      have hrM : (r + 1) * M = r * M + M := Nat.succ_mul r M
      have hon2 : on ≤ 2001 := by have := Nat.zero_le ((r + 1) * M); omega
      have LI := hid (IH.out hz1 wr d3)
      have HO := hid ho
      have HP := hid (And.intro hl (And.intro hf hy))
      have HG := hid g3
      have hps : p < w.heap.size := HD.out.lt
      have HON := hid hon
      clear ho hf hl hy hrM hon
      go_wp2_with fail
      refine LI.out.mono ?_
      rintro e u4 ⟨P, pn, pc, zs, rfl, oz, ⟨z1, z2, z3⟩, d4, g4⟩
      have ho4 := Own.far HO.out g4 (fun k e => by injection e with e; omega)
      have hpn : pn ≤ 1000 := by have := Own.len oz; omega
      have HZL := hid (Own.len oz)
      have G4 := hid (grown_trans HG.out g4)
      have hw4 : w.heap.size ≤ u4.heap.size := G4.out.size
      clear LI HO HG g3 g4 d3
      go_wp2_with (at_builtin; refine appAll rfl _ _ rfl w.heap.size O on oc _ rfl ho4 P pn pc u4.heap.size zs rfl (Own.seg oz) (Own.none_cap oz) (by omega) (by omega) hw4 ?_; intro O3 oc3 u5 ho5 b5)
      have S5 := hid (show HeadS w p A n c v F M (.slice O3 (on + pn) oc3) (.int .i64 (2 - (r : Int))) u5 from by
       obtain ⟨h1, h2, h3⟩ := HP.out; have hon := HON.out; have hzl := HZL.out
       refine ⟨r, O3, on + pn, oc3, ys ++ zs, rfl, by omega, rfl, by simpa using ho5, ?_, ?_, ?_, d4.keep b5 hps, grow9 G4.out b5⟩
       ·have h9 := h2.append z1
        rw [show 2 - F - (r + 1) + 1 = 2 - F - r by omega] at h9
        exact h9
       ·have hrM : (r + 1) * M = r * M + M := Nat.succ_mul r M
        rw [List.length_append]
        omega
       ·intro x hx
        rcases List.mem_append.1 hx with e | e
        ·exact h3 x e
        ·exact z3 x e)
      clear ho5 b5 d4 ho4 oz z1 z2 z3 HP G4
      go_wp2
      go_roundw
      case rel => first | exact S5.out | (rw [show (2 : Int) - ((r : Int) + 1) + 1 = 2 - (r : Int) by omega]; exact S5.out)
      case measure => simp [intOf]; omega
 ·go_enter Try.func12, Try.ntmps12
  go_wp2_with fail
  refine (B3.out _ HD.out).mono ?_
  rintro e u2 ⟨x, rfl, x0, x1, d2, g2⟩
  have G2 := hid (g2)
  by_cases hz : deep ≤ 1
  ·have S0 := hid (head0 (v := v) (M := M) (F := 2) (by omega) d2 G2.out)
   obtain ⟨r, O, on, oc, ys, -, -, hO, ho, hf, hl, hy, d3, g3⟩ := S0.out
   injection hO with hO1 hO2 hO3
   subst hO1 hO2 hO3
   have F := hid (leaf9 (L := 1 + 2 * M) (v := v) (y := 2) d2 G2.out HL.out (.inr ⟨rfl, hv0⟩))
   clear ho hf hl hy d3 g3 S0 d2 g2 G2 IH B3
   go_wp2_with fail
   go_loopw [8, 9] (fun out k wr => out = .slice (some ⟨u2.heap.size, 0, none⟩) 1 1 ∧ k = .int .i64 2 ∧ wr = u2.alloc (.cells #[.int .i64 2] 2)) (fun _ _ _ => 0)
   case atStart => exact ⟨rfl, rfl, rfl⟩
   case round =>
    obtain ⟨rfl, rfl, rfl⟩ := hrel
    go_wp2
    go_ret
    exact F.out
  ·have hz1 : 1 < deep := by omega
   obtain ⟨F, rfl⟩ := Int.eq_ofNat_of_zero_le x0
   have hF : F ≤ 2 := by omega
   have S0 := hid (head0 (v := v) (M := M) hF d2 G2.out)
   clear d2 g2 G2 B3
   go_wp2_with fail
   go_loopw [8, 9] (fun out k wr => HeadS w p A n c v F M out k wr) (fun _ k _ => (2 - intOf k).toNat)
   case atStart => exact S0.out
   case round =>
    clear S0
    obtain ⟨r, O, on, oc, ys, rfl, hr, rfl, ho, hf, hl, hy, d3, g3⟩ := hrel
    cases r with
    | zero =>
     have FF := hid (HeadS.done hv0 hF ho hf hl hy d3 g3)
     clear ho hf hl hy d3 g3 IH
     go_wp2
     go_ret
     exact FF.out
    | succ r =>
     have hlt : (2 : Int) - ((r + 1 : Nat) : Int) < 2 := by omega
     have hon : on = ys.length + 1 := by have := Own.len ho; rw [List.length_cons] at this; omega
     have hrM : (r + 1) * M = r * M + M := Nat.succ_mul r M
     have hon2 : on ≤ 2001 := by have := Nat.zero_le ((r + 1) * M); omega
     have LI := hid (IH.out hz1 wr d3)
     have HO := hid ho
     have HP := hid (And.intro hl (And.intro hf hy))
     have HG := hid g3
     have hps : p < w.heap.size := HD.out.lt
     have HON := hid hon
     clear ho hf hl hy hrM hon
     go_wp2_with fail
     refine LI.out.mono ?_
     rintro e u4 ⟨P, pn, pc, zs, rfl, oz, ⟨z1, z2, z3⟩, d4, g4⟩
     have ho4 := Own.far HO.out g4 (fun k e => by injection e with e; omega)
     have hpn : pn ≤ 1000 := by have := Own.len oz; omega
     have HZL := hid (Own.len oz)
     have G4 := hid (grown_trans HG.out g4)
     have hw4 : w.heap.size ≤ u4.heap.size := G4.out.size
     clear LI HO HG g3 g4 d3
     go_wp2_with (at_builtin; refine appAll rfl _ _ rfl w.heap.size O on oc _ rfl ho4 P pn pc u4.heap.size zs rfl (Own.seg oz) (Own.none_cap oz) (by omega) (by omega) hw4 ?_; intro O3 oc3 u5 ho5 b5)
     have S5 := hid (show HeadS w p A n c v F M (.slice O3 (on + pn) oc3) (.int .i64 (2 - (r : Int))) u5 from by
      obtain ⟨h1, h2, h3⟩ := HP.out; have hon := HON.out; have hzl := HZL.out
      refine ⟨r, O3, on + pn, oc3, ys ++ zs, rfl, by omega, rfl, by simpa using ho5, ?_, ?_, ?_, d4.keep b5 hps, grow9 G4.out b5⟩
      ·have h9 := h2.append z1
       rw [show 2 - F - (r + 1) + 1 = 2 - F - r by omega] at h9
       exact h9
      ·have hrM : (r + 1) * M = r * M + M := Nat.succ_mul r M
       rw [List.length_append]
       omega
      ·intro x hx
       rcases List.mem_append.1 hx with e | e
       ·exact h3 x e
       ·exact z3 x e)
     clear ho5 b5 d4 ho4 oz z1 z2 z3 HP G4
     go_wp2
     go_roundw
     case rel => first | exact S5.out | (rw [show (2 : Int) - ((r : Int) + 1) + 1 = 2 - (r : Int) by omega]; exact S5.out)
     case measure => simp [intOf]; omega
def B9 : Nat → Nat
 | 0 => 1
 | f + 1 => 1 + 2 * B9 f
theorem w9Term (p : Nat) (A : Option Addr) (n c : Nat) (v : Int) (hv0 : 0 ≤ v) (hv1 : v ≤ 24) : ∀ (f : Nat) (deep : Int) (w : World), D9 w p A n c → f ≤ 3 → -900 ≤ deep → deep ≤ (f : Int) + 1 →
  Calls Try.prog 12 #[.pointer (some ⟨p, 0, none⟩), .int .i64 deep, .int .i64 v] w (AnsT9 w p A n c v (B9 f))
 | 0, deep, w, hd, _, h0, h1 => w9Step p A n c v deep 0 w hv0 hv1 hd (by omega) (by omega) (by omega) (fun h => absurd h (by omega))
 | f + 1, deep, w, hd, hf, h0, h1 => by
  have hB : B9 f ≤ 1000 := by
   have h3 : f = 0 ∨ f = 1 ∨ f = 2 := by omega
   rcases h3 with rfl | rfl | rfl <;> decide
  exact w9Step p A n c v deep (B9 f) w hv0 hv1 hd (by omega) (by omega) hB (fun h w' d' => w9Term p A n c v hv0 hv1 f (deep - 1) w' d' (by omega) (by omega) (by omega))
end draw9
end
section
open Go.Lib (hid)
namespace vars9
open Go.RowKit base ints sig term termOk marks app sym sub segs varsMath termFacts varsOf
set_option maxRecDepth 100000
def AnsInto9 (w : World) (lo : Nat) (ys : List Int) (e : Ending) (w' : World) : Prop := ∃ b off n c, e = .returned (.slice (some ⟨b, off, none⟩) n c) ∧ lo ≤ b ∧ Seg w' w'.heap.size (some ⟨b, off, none⟩) n ys ∧ n ≤ c ∧ c ≤ 9223372036854775807 ∧ Below w.heap.size w w'
theorem into_ans9 {w w' : World} {lo base : Nat} {A : Option Addr} {n c : Nat} {xs ys : List Int} (hlo : lo ≤ base) (h : Own w' base (.slice A n c) ys) (hn : 1 ≤ n) (e : ys = xs) (hb : Below w.heap.size w w') : AnsInto9 w lo xs (.returned (.slice A n c)) w' := by
 subst e
 have hl := Own.len h
 rcases own_form (n := n) (vs := ys.map (Value.int .i64)) (by rw [hl]; rw [hl] at h; exact h) with ⟨_, e, _⟩ | ⟨g, cur, rfl, hg, _, h1, _, h3, _⟩
 ·omega
 ·exact ⟨g, 0, n, c, rfl, Nat.le_trans hlo hg, Own.seg h, h1, h3, hb⟩
set_option maxHeartbeats 4000000 in
theorem l1Into9 (lo b off n c : Nat) (xs : List Int) (x : Int) (w : World) (h : Seg w w.heap.size (some ⟨b, off, none⟩) n xs) (hc1 : n ≤ c) (hc2 : c ≤ 9223372036854775807) (hn : n ≤ 1048576) (hb0 : lo ≤ b) (hlo : lo ≤ w.heap.size) :
  Calls Try.prog 135 #[.slice (some ⟨b, off, none⟩) n c, .int .i64 x] w (AnsInto9 w lo (into xs x)) := by
 have HX := hid h.1
 go_enter Try.func135, Try.ntmps135
 go_wp2
 go_loop [5] (fun i => varsOf.HeadInto n xs x i) (fun i => n - (intOf i).toNat)
 case atStart => exact ⟨0, Nat.zero_le _, rfl, fun j hj => absurd hj (Nat.not_lt_zero _)⟩
 case round =>
  obtain ⟨k, hk, rfl, hlow⟩ := hrel
  have HLOW := hid hlow
  clear hlow
  have i1 : (0 : Int) ≤ (k : Int) := by omega
  have i2 : (k : Int) ≤ (n : Int) := by omega
  have i3 : (k : Int) ≤ (c : Int) := by omega
  have i4 : (n : Int) ≤ (c : Int) := by omega
  have L := hid (copyInts (some ⟨b, off, none⟩) k c (xs.take k) w (Seg.pre h hk) (fun e => by cases e) (by omega))
  by_cases hlt : k < n
  ·obtain ⟨b', off', y, e, -, hy, ey⟩ := h.spot hlt
   injection e with e
   injection e with e1 e2
   subst e1 e2
   have i5 : (k : Int) < (n : Int) := by omega
   by_cases hyx : y < x
   ·have S : varsOf.HeadInto n xs x (.int .i64 ((k : Int) + 1)) := ⟨k + 1, hlt, by simp, fun j hj => by
     by_cases e : j = k
     ·subst e; rw [ey.out]; exact hyx
     ·exact HLOW.out j (by omega)⟩
    replace S := hid S
    clear h ey L
    go_wp2
    go_round
    case rel => exact S.out
    case measure => simp [intOf]; omega
   ·by_cases hye : y = x
    ·have F : AnsInto9 w lo (into xs x) (.returned (.slice (some ⟨b, off, none⟩) n c)) w := by
      rw [into_at (by rw [HX.out]; exact hlt) HLOW.out (ey.out.trans hye)]
      exact ⟨b, off, n, c, rfl, hb0, h, hc1, hc2, Below.refl _ _⟩
     have HF := hid F
     have d1 : (y == x) = true := by simp [hye]
     have d2 : decide (y < x) = false := by simp; omega
     clear F h ey L hye hyx
     go_wp2
     go_ret
     exact HF.out
    ·have hck : ¬ c = k := by omega
     have E := hid (into_mid (xs := xs) (n := x) (k := k) (by rw [HX.out]; exact hlt) HLOW.out (by rw [ey.out]; omega))
     have d1 : (y == x) = false := by simp [hye]
     have d2 : decide (y < x) = false := by simp; omega
     have hp := Seg.post h hk
     clear h ey hye hyx
     go_wp2_with fail
     refine L.out.mono ?_
     rintro e w1 ⟨D, dn, dc, rfl, o1, b1⟩
     have hdn : dn = k := by rw [Own.len o1]; have := HX.out; simp; omega
     subst hdn
     clear L
     go_wp2_with (first
      | (at_builtin; refine app1 rfl (.tmp 37) (.tmp 39) rfl w.heap.size D dn dc (xs.take dn) rfl (Own.alloc o1 _) w1.heap.size 1 x rfl ((Row.new _ _ _).cell 0) (by omega) (by simp; exact Nat.le_trans b1.size (Nat.le_succ _)) ?_; intro O' oc' w2 o2 b2; have hp2 := hp.below ((b1.alloc b1.size _).trans b2))
      | (at_builtin; refine appAll rfl (.tmp 41) (.tmp 44) rfl w.heap.size O' (dn + 1) oc' _ rfl o2 (some ⟨b, off + dn, none⟩) (n - dn) (c - dn) w.heap.size (xs.drop dn) rfl hp2 (fun e => by cases e) (by omega) (by omega) (by have h1 := b1.size; have h2 := b2.size; simp at h2; omega) ?_; intro Q' qc' w3 o3 b3))
     have F := hid (into_ans9 hlo (xs := into xs x) o3 (by omega) E.out.symm (((b1.alloc b1.size _).trans b2).trans b3))
     clear o1 o2 o3 b1 b2 b3 hp hp2 E
     go_wp2
     go_ret
     exact F.out
  ·have ek : k = n := by omega
   subst ek
   have E := hid (into_end (xs := xs) (n := x) (fun j hj => HLOW.out j (by rw [HX.out] at hj; exact hj)))
   have ET := hid (show xs.take k = xs from List.take_of_length_le (by rw [HX.out]; exact Nat.le_refl _))
   have d0 : decide (k < k) = false := by simp
   by_cases hck : c = k
   ·subst hck
    have hp := Seg.pre h (Nat.zero_le _)
    clear h
    go_wp2_with fail
    refine L.out.mono ?_
    rintro e w1 ⟨D, dn, dc, rfl, o1, b1⟩
    rw [ET.out] at o1
    have hdn : dn = c := by rw [Own.len o1]; exact HX.out
    subst hdn
    clear L
    go_wp2_with (first
     | (at_builtin; refine app1 rfl (.tmp 37) (.tmp 39) rfl w.heap.size D dn dc xs rfl (Own.alloc o1 _) w1.heap.size 1 x rfl ((Row.new _ _ _).cell 0) (by omega) (by simp; exact Nat.le_trans b1.size (Nat.le_succ _)) ?_; intro O' oc' w2 o2 b2; have hp2 := hp.below ((b1.alloc b1.size _).trans b2))
     | (at_builtin; refine appAll rfl (.tmp 41) (.tmp 44) rfl w.heap.size O' (dn + 1) oc' _ rfl o2 (some ⟨b, off, none⟩) 0 0 w.heap.size (xs.take 0) rfl hp2 (fun e => by cases e) (by omega) (by omega) (by have h1 := b1.size; have h2 := b2.size; simp at h2; omega) ?_; intro Q' qc' w3 o3 b3))
    have F := hid (into_ans9 hlo (xs := into xs x) o3 (by omega) (by rw [E.out]; simp) (((b1.alloc b1.size _).trans b2).trans b3))
    clear o1 o2 o3 b1 b2 b3 hp hp2 E
    go_wp2
    go_ret
    exact F.out
   ·have hp := Seg.post h (Nat.le_refl _)
    rw [Nat.sub_self] at hp
    clear h
    go_wp2_with fail
    refine L.out.mono ?_
    rintro e w1 ⟨D, dn, dc, rfl, o1, b1⟩
    rw [ET.out] at o1
    have hdn : dn = k := by rw [Own.len o1]; exact HX.out
    subst hdn
    clear L
    go_wp2_with (first
     | (at_builtin; refine app1 rfl (.tmp 37) (.tmp 39) rfl w.heap.size D dn dc xs rfl (Own.alloc o1 _) w1.heap.size 1 x rfl ((Row.new _ _ _).cell 0) (by omega) (by simp; exact Nat.le_trans b1.size (Nat.le_succ _)) ?_; intro O' oc' w2 o2 b2; have hp2 := hp.below ((b1.alloc b1.size _).trans b2))
     | (at_builtin; refine appAll rfl (.tmp 41) (.tmp 44) rfl w.heap.size O' (dn + 1) oc' _ rfl o2 (some ⟨b, off + dn, none⟩) 0 (c - dn) w.heap.size (xs.drop dn) rfl hp2 (fun e => by cases e) (by omega) (by omega) (by have h1 := b1.size; have h2 := b2.size; simp at h2; omega) ?_; intro Q' qc' w3 o3 b3))
    have F := hid (into_ans9 hlo (xs := into xs x) o3 (by omega) (by rw [E.out, List.drop_eq_nil_of_le (by rw [HX.out]; exact Nat.le_refl _)]; simp) (((b1.alloc b1.size _).trans b2).trans b3))
    clear o1 o2 o3 b1 b2 b3 hp hp2 E
    go_wp2
    go_ret
    exact F.out
def HeadVars9 (w : World) (m : Nat) (t : List Int) (out i : Value) (wr : World) : Prop :=
 ∃ (k b off n c : Nat), k ≤ m ∧ i = .int .i64 k ∧ out = .slice (some ⟨b, off, none⟩) n c ∧ w.heap.size ≤ b ∧ Seg wr wr.heap.size (some ⟨b, off, none⟩) n (vars (t.take k)) ∧ n ≤ c ∧ c ≤ 9223372036854775807 ∧ n ≤ m ∧ Below w.heap.size w wr
set_option maxHeartbeats 1000000 in
theorem l2Vars9 (A : Option Addr) (m c : Nat) (t : List Int) (w : World) (h : Seg w w.heap.size A m t) (hm : m ≤ 1048576) (hv : ∀ x ∈ t, -24 ≤ x) :
  Calls Try.prog 108 #[.slice A m c] w (AnsInto9 w w.heap.size (vars t)) := by
 have HL := hid h.1
 have HV := hid hv
 clear hv
 have S0 : HeadVars9 w m t (.slice (some ⟨w.heap.size, 0, none⟩) 0 0) (.int .i64 0) (w.alloc (.cells #[] 2)) :=
  ⟨0, _, _, 0, 0, Nat.zero_le _, rfl, rfl, Nat.le_refl _, ⟨rfl, fun h => absurd h (Nat.lt_irrefl _)⟩, Nat.le_refl _, by omega, Nat.zero_le _, (Below.refl _ _).alloc (Nat.le_refl _) _⟩
 have HS0 := hid S0
 clear S0
 go_enter Try.func108, Try.ntmps108
 go_wp2_with fail
 go_loopw [3, 4] (fun out i wr => HeadVars9 w m t out i wr) (fun _ i _ => m - (intOf i).toNat)
 case atStart => exact HS0.out
 case round =>
  obtain ⟨k, b, off, n, cc, hk, rfl, rfl, hb0, hs, hc1, hc2, hnm, hb⟩ := hrel
  clear HS0
  by_cases hlt : k < m
  ·obtain ⟨b', off', x, rfl, hbb, hx, ex⟩ := h.spot hlt
   have hx1 : wr.cell? ⟨b', off' + k, none⟩ = some (.int .i64 x) := (hb.cell (p := ⟨b', off' + k, none⟩) hbb).trans hx
   have hmem : x ∈ t := by
    have hkl : k < t.length := by rw [HL.out]; exact hlt
    have := ex.out
    rw [← this]
    simp [List.getD, hkl]
   have hx24 : -24 ≤ x := HV.out x hmem
   clear hmem
   by_cases hneg : x < 0
   ·have E := hid (vars_yes (t := t) (k := k) (by rw [HL.out]; exact hlt) ex.out hneg)
    have L := hid (l1Into9 w.heap.size b off n cc _ (-1 - x) wr hs hc1 hc2 (by omega) hb0 hb.size)
    clear hs hx ex h
    go_wp2_with fail
    refine L.out.mono ?_
    rintro e w1 ⟨b1, off1, n1, c1, rfl, hb1, s1, h1, h2, bb⟩
    rw [← E.out] at s1
    have h3 := varsOf.vars_seg_len HL.out s1
    have S : HeadVars9 w m t (.slice (some ⟨b1, off1, none⟩) n1 c1) (.int .i64 ((k : Int) + 1)) w1 := ⟨k + 1, b1, off1, n1, c1, hlt, by simp, rfl, hb1, s1, h1, h2, h3, next_trans hb bb⟩
    replace S := hid S
    clear s1 bb hb L h1 h2 h3 hx1
    go_wp2
    go_roundw
    case rel => exact S.out
    case measure => simp [intOf]; omega
   ·rw [← vars_no (t := t) (k := k) (by rw [HL.out]; exact hlt) ex.out hneg] at hs
    have S : HeadVars9 w m t (.slice (some ⟨b, off, none⟩) n cc) (.int .i64 ((k : Int) + 1)) wr := ⟨k + 1, b, off, n, cc, hlt, by simp, rfl, hb0, hs, hc1, hc2, hnm, hb⟩
    replace S := hid S
    clear hs hb hx ex h hc1 hc2
    go_wp2
    go_roundw
    case rel => exact S.out
    case measure => simp [intOf]; omega
  ·have F : AnsInto9 w w.heap.size (vars t) (.returned (.slice (some ⟨b, off, none⟩) n cc)) wr := by
    rw [List.take_of_length_le (by rw [HL.out]; omega)] at hs
    exact ⟨b, off, n, cc, rfl, hb0, hs, hc1, hc2, hb⟩
   have HF := hid F
   clear F hs hb h
   go_wp2
   go_ret
   exact HF.out
set_option maxHeartbeats 1000000 in
theorem specVarsOf9 (A A' : Option Addr) (n c m c' : Nat) (sg t : List Int) (w : World) (h : Seg w w.heap.size A n sg) (h' : Seg w w.heap.size A' m t) (hn : n ≤ 1048576) (hm : m ≤ 1048576) :
  Calls Try.prog 72 #[.agg #[.slice A n c], .slice A' m c'] w (AnsInto9 w w.heap.size (varsI sg t)) := by
 obtain ⟨W, hW⟩ : ∃ W, W = w.alloc (.cells #[.slice A n c] 29) := ⟨_, rfl⟩
 have rA : Row W w.heap.size 29 #[.slice A n c] := by rw [hW]; exact Row.new _ _ _
 have bel : Below w.heap.size w W := by rw [hW]; exact (Below.refl _ _).alloc (Nat.le_refl _) _
 have s := (h.below bel).more bel.size
 have s' := (h'.below bel).more bel.size
 have HW := hid hW
 have L := hid (specTermOk A A' n c m c' sg t W s s' hn hm)
 clear hW h h' s
 cases hok : termOkB sg t with
 | false =>
  have HS := hid hok
  clear hok s'
  go_enter Try.func72, Try.ntmps72
  go_wp2_with fail
  rw [← HW.out]
  refine L.out.mono ?_
  rintro e w1 ⟨he, bb⟩
  rw [HS.out] at he
  subst he
  have F : AnsInto9 w w.heap.size (varsI sg t) (.returned (.slice (some ⟨w1.heap.size, 0, none⟩) 0 0)) (w1.alloc (.cells #[] 2)) :=
   ⟨_, _, 0, 0, rfl, (next_trans bel bb).size, by unfold varsI; rw [if_neg (by rw [HS.out]; simp)]; exact Seg.empty, Nat.le_refl _, by omega, (next_trans bel bb).alloc (next_trans bel bb).size _⟩
  have HF := hid F
  clear F bb bel rA
  go_wp2
  go_ret
  exact HF.out
 | true =>
  have HS := hid hok
  have HV := hid (fun x hx => (term_mem (x := x) hok hx).1)
  clear hok
  go_enter Try.func72, Try.ntmps72
  go_wp2_with fail
  rw [← HW.out]
  refine L.out.mono ?_
  rintro e w1 ⟨he, bb⟩
  rw [HS.out] at he
  subst he
  have L2 := hid (l2Vars9 A' m c' t w1 (s'.next bb) hm HV.out)
  clear L
  go_wp2_with fail
  refine L2.out.mono ?_
  rintro e w2 ⟨b, off, n2, c2, rfl, hb1, s2, hc1, hc2, b2⟩
  have F : AnsInto9 w w.heap.size (varsI sg t) (.returned (.slice (some ⟨b, off, none⟩) n2 c2)) w2 := ⟨_, _, _, _, rfl, Nat.le_trans (next_trans bel bb).size hb1, by unfold varsI; rw [if_pos HS.out]; exact s2, hc1, hc2, next_trans (next_trans bel bb) b2⟩
  have HF := hid F
  clear F s2 b2 bb bel rA s' L2
  go_wp2
  go_ret
  exact HF.out
end vars9
end
end Go.Proofs.Ytjfpejohpjaahaa
