/-
  MERGED: my texts StepImplB, StepImplC, WalkImpl, WalkX, WalkSpecC, WalkSpecD, WalkX2, KindsT, Und, UndX, WalkImplC, WalkSpecE, one behind the other, as they are. By an AI agent.
-/
import Derived.Test.YtblhmplpcdcejaaGreatMFnExactWalkUnder5
import Derived.Deep.RegionHeld3
import Derived.Shelf.Abstract
namespace Go.Proofs.YtblhmplpcdcejaaGreat
section
open Go.Lib (hid)
open List (setIfInBounds_toArray set_cons_zero set_cons_succ getElem_toArray getElem_cons_zero getElem_cons_succ)
namespace stepImpl
open Go.RowKit base ints sig term termOk endAt inside marks app sym sub segs segsHelp kinds termFacts termMath posMath plainMath gives Go.Proofs.YtblhmplpcdcejaaGreat.look fillMath matchMath matchSpec whole takeMath take extended varsOf shape kindsR ruleMath ruleSpec ruleImpl stepMath walkMath stepSpec heldT
set_option maxRecDepth 100000
theorem step_by {sg : List Int} {x : Rl} {t : List Int} {a : Nat} {L : Nat → List Int} (hx : ruleOkB sg x = true) (ht : termOkB sg t = true) (ha : a < t.length) (hL : Turns sg x.1 (subL sg t a) L) :
  stepO sg x t a = if (fillL L x.2).length ≤ 60 ∧ (putAt sg t (fillL L x.2) a).length ≤ 60 then some (putAt sg t (fillL L x.2) a) else none := by
 obtain ⟨h1, h2, h3, h4⟩ := rule_parts hx
 have hs := sub_ok ht ha
 obtain ⟨ss, hm, hg⟩ := turns_match h1 hs hL
 rw [match_yes h1 hs] at hm
 have g := gives_of h1 hs hm
 have e : fillL (givesL ss) x.2 = fillL L x.2 := fill_ext (fun y hy h0 => by
  have hy1 := h4 y hy h0
  show givesL ss (vr y) = L (vr y)
  rw [g.2 y hy1 h0]
  exact hg y hy1 h0)
 unfold stepO
 rw [hm]
 dsimp only
 rw [e]
theorem at_turns {sg p t : List Int} {k : Nat} {s : List (List Int)} (h1 : termOkB sg p = true) (h2 : termOkB sg t = true) (h : mst sg t p k s0 = some s) : Turns sg p (subL sg t k) (givesL s) := by
 have hx : ∀ x ∈ p, -24 ≤ x := fun x hx => (term_mem h1 hx).1
 obtain ⟨⟨rest, e⟩, hv⟩ := mst_sound h2 h (by rfl) hx
 have hg : ∀ x ∈ p, x < 0 → givesL s (vr x) = s.getD (vr x) [] := fun x hx h0 => by
  have this : scan sg 1 (s.getD (vr x) []) = some (s.getD (vr x) []).length := hv x hx h0
  unfold givesL
  rw [if_neg ?_]
  intro e0
  have e1 : s.getD (vr x) [] = [] := List.length_eq_zero_iff.1 e0
  rw [e1] at this
  exact absurd this (by simp [scan])
 have ef : fillL (givesL s) p = fillL (fun i => s.getD i []) p := fill_ext fun x hx h0 => hg x hx h0
 refine ⟨?_, fun x hx h0 => by rw [hg x hx h0]; exact hv x hx h0⟩
 rw [ef]
 have a := scan_append (r := rest) (scan_fill (L := fun i => s.getD i []) (term_parts h1).2.2 hv)
 rw [← e] at a
 unfold subL
 rw [len1_eq a, e, List.take_left' rfl]
theorem reduce_by {sg : List Int} {x : Rl} {t : List Int} {a : Nat} {s : List (List Int)} (hx : ruleOkB sg x = true) (ht : termOkB sg t = true) (ha : a < t.length) (h : mst sg t x.1 a s0 = some s) :
  (stepO sg x t a).getD [] = put.putR sg t (fillL (givesL s) x.2) (a : Int) ∧ (stepO sg x t a).isSome = put.putB sg t (fillL (givesL s) x.2) (a : Int) := by
 obtain ⟨h1, h2, h3, h4⟩ := rule_parts hx
 obtain ⟨s1, s2, s3⟩ := term_parts ht
 have hT := at_turns h1 ht h
 have hth : thereB sg t (a : Int) = true := there_yes ht (by omega) (by omega)
 have hterm : termOkB sg (fillL (givesL s) x.2) = decide ((fillL (givesL s) x.2).length ≤ 60) := by
  by_cases hl : (fillL (givesL s) x.2).length ≤ 60
  ·rw [decide_eq_true hl]
   exact term_mk s1 hl (scan_fill (term_parts h2).2.2 (fun y hy h0 => hT.2 y (h4 y hy h0) h0))
  ·rw [decide_eq_false hl]
   cases e : termOkB sg (fillL (givesL s) x.2) with
   | false => rfl
   | true => exact absurd (term_len e).2 hl
 rw [step_by hx ht ha hT]
 unfold put.putR put.putB
 rw [hth, hterm, Bool.true_and, Int.toNat_natCast]
 unfold put.fitB
 have e1 : put.putI sg t (fillL (givesL s) x.2) a = putAt sg t (fillL (givesL s) x.2) a := rfl
 rw [e1]
 by_cases hl : (fillL (givesL s) x.2).length ≤ 60
 ·by_cases hh : (putAt sg t (fillL (givesL s) x.2) a).length ≤ 60
  ·rw [if_pos ⟨hl, hh⟩, decide_eq_true hl, decide_eq_true hh]; exact ⟨rfl, rfl⟩
  ·rw [if_neg (fun h => hh h.2), decide_eq_true hl, decide_eq_false hh]; exact ⟨rfl, rfl⟩
 ·rw [if_neg (fun h => hl h.1), decide_eq_false hl]; exact ⟨rfl, rfl⟩
theorem red_at {sg : List Int} {x : Rl} {t : List Int} {a : Nat} (hx : ruleOkB sg x = true) (ht : termOkB sg t = true) (ha : a < t.length) : (mst sg t x.1 a s0).isSome = redB sg x t a := by
 obtain ⟨h1, _⟩ := rule_parts hx
 rw [mst_at h1 ht ha]
 unfold redB instB
 rw [match_yes h1 (sub_ok ht ha)]
set_option maxHeartbeats 1000000 in
theorem lookB (cs : Array Value) (s : List (List Int)) (w : World) (htab : TabR w w.heap.size cs s) :
  Calls Tryz.prog 109 #[.agg cs] w fun e w' => ∃ g, e = .returned (.func (.func 78) #[] #[.pointer (some ⟨g, 0, none⟩)]) ∧ Row w' g 48 #[.slice (some ⟨w.heap.size, 0, none⟩) 24 24] ∧ Segs w' w'.heap.size (some ⟨w.heap.size, 0, none⟩) 24 s ∧ Below w.heap.size w w' ∧ w.heap.size ≤ g := by
 obtain ⟨W, hW⟩ : ∃ W, W = w.alloc (.cells cs 145) := ⟨_, rfl⟩
 have b0 : Below w.heap.size w W := by rw [hW]; exact (Below.refl _ _).alloc (Nat.le_refl _) _
 have r0 : Row W w.heap.size 145 cs := by rw [hW]; exact Row.new w _ _
 have s1 : Segs W W.heap.size (some ⟨w.heap.size, 0, none⟩) 24 s := (htab.below b0).segs r0 b0.size
 have HW := hid hW
 clear hW htab r0
 go_enter Tryz.func109, Tryz.ntmps109
 go_wp2_with (first
  | (refine rowBox rfl 145 _ rfl cs rfl ?_))
 rw [← HW.out]
 refine (lookupIn (some ⟨w.heap.size, 0, none⟩) 24 24 W).mono ?_
 rintro e w3 ⟨rfl, hw3⟩
 have b3 : Below W.heap.size W w3 := by rw [hw3]; exact (Below.refl _ _).alloc (Nat.le_refl _) _
 have r3 : Row w3 W.heap.size 48 #[.slice (some ⟨w.heap.size, 0, none⟩) 24 24] := by rw [hw3]; exact Row.new _ _ _
 have F := hid (show ∃ g, Ending.returned (.func (.func 78) #[] #[.pointer (some ⟨W.heap.size, 0, none⟩)]) = .returned (.func (.func 78) #[] #[.pointer (some ⟨g, 0, none⟩)]) ∧ Row w3 g 48 #[.slice (some ⟨w.heap.size, 0, none⟩) 24 24] ∧ Segs w3 w3.heap.size (some ⟨w.heap.size, 0, none⟩) 24 s ∧ Below w.heap.size w w3 ∧ w.heap.size ≤ g from ⟨_, rfl, r3, s1.next b3, next_trans b0 b3, b0.size⟩)
 clear hw3 b3 r3 s1 b0
 go_wp2
 go_ret
 exact F.out
theorem run_loadRow {P : Program} {o : Oper} {a : Act} {w : World} (ty : TypeId) (x : Operand) (ho : o.op = .load ty x) (g : Nat) (hx : a.eval x = .pointer (some ⟨g, 0, none⟩)) (t : TypeId) (cs : Array Value) (fz : Nat × Nat) (d : TypeDesc) (hg : w.heap[g]? = some (.cells cs t fz)) (hu : P.underlying ty = some d) (hd : (match d with | .struct _ | .array _ _ => true | _ => false) = true) (hi : (P.info? ty).map (·.size) = some cs.size) :
  (execOp a.eval o).run P w = .ok (.value (.agg cs)) w := by
 unfold execOp
 simp [ho, hx, Instr.loadAt, Instr.sureAddr, Sem.run_bind, Result.andThen_ok, run_loadVar_row w g t ty cs fz d hg hu hd hi]
set_option maxHeartbeats 4000000 in
theorem reduced (a v u : Value) (d : Dat sSystem) (t : List Int) (x k : Nat) (w : World) (h : Rd w w.heap.size sSystem [a, v] d) (ht : Rd w w.heap.size sI [u] t) (hz : sz sSystem d ≤ 1048576) (hok : rightB d.1 d.2 t = true) (hx : x < t.length) (hk : k < d.2.length) (hred : redB d.1 (d.2.getD k ([], [])) t x = true) :
  Calls Tryz.prog 92 #[.agg #[a, v], u, .int .i64 (x : Int), .int .i64 (k : Int)] w (AnsStep w (stepO d.1 (d.2.getD k ([], [])) t x)) := by
 obtain ⟨oks, okt⟩ := right_parts hok
 have h0 := h
 have ht0 := ht
 have hk0 := hk
 obtain ⟨T, m, c, rfl, hT, hcT⟩ := rd_ints.1 ht
 have hm : m ≤ 60 := by have := (term_len okt).2; have := hT.1; omega
 obtain ⟨A, n, cs, V, q, cv, rfl, rfl, hs, hc, hcv, hq, hn, hq1, hrs, hsg, hE⟩ := rd_sys h hz
 rw [hq] at hk
 obtain ⟨b, off, l, rr, y, rfl, hb, ey, cl, cr, hry⟩ := rd_at hrs (Below.refl _ _) hq hk
 have hzy : sz sRule y ≤ 1048576 := by rw [← ey.out]; exact hE k hk
 have okr : ruleOkB d.1 y = true := by rw [← ey.out]; exact sys_rule oks (by rw [hq]; exact hk)
 obtain ⟨P, pn, pc, P', pn', pc', rfl, rfl, sP, kP, sP', kP', hpn, hpn'⟩ := rd_rule hry hzy
 rw [ey.out] at hred ⊢
 obtain ⟨W, hW, rA, bel⟩ := box1 w 98 #[.slice A n cs, .slice (some ⟨b, off, none⟩) q cv]
 have HW := hid hW
 have okR := (rule_parts okr).2.1
 have hpn60 : pn' ≤ 60 := by have := (term_len okR).2; have := sP'.1; omega
 have LM := hid (matchAt _ _ _ d t x k W (h0.next bel) (ht0.next bel) hz hok hx hk0)
 rw [ey.out] at LM
 obtain ⟨s, hs0⟩ := Option.isSome_iff_exists.1 (show (mst d.1 t y.1 x s0).isSome = true by rw [red_at okr okt hx]; exact hred)
 rw [hs0] at LM
 have HRB := hid (reduce_by okr okt hx hs0)
 have zA0 : w.heap.size < W.heap.size := rA.lt
 have SS := hid (show Seg w w.heap.size A n d.1 ∧ Seg w w.heap.size T m t ∧ Seg w w.heap.size P' pn' y.2 ∧ m ≤ c ∧ c ≤ 9223372036854775807 from ⟨hs, hT, sP', hcT.1, hcT.2.1⟩)
 have HVS := hid (fun z (hz : z ∈ y.2) => (term_mem okR hz).1)
 have HFL := hid (fun (hM : ∀ i, (givesL s i).length ≤ 60) => (show (fillL (givesL s) y.2).length ≤ 1048576 by
  have h1 := fill_bound (L := givesL s) (t := y.2) (m := pn') (k := pn') (fun i => Nat.le_trans (hM i) (by omega)) sP'.1 hpn60
  rw [List.take_of_length_le (by rw [sP'.1]; exact Nat.le_refl _)] at h1
  omega))
 have K2w : w.cell? ⟨b, off + k * 2 + 1, none⟩ = some (.slice P' pn' pc') := cr
 have i0 : (0 : Int) ≤ (k : Int) := by omega
 have i1 : (k : Int) < (q : Int) := by omega
 have x1 : -9223372036854775808 ≤ (x : Int) := by omega
 have x2 : (x : Int) ≤ 9223372036854775807 := by have := hT.1; omega
 have BEL := hid bel
 have RA := hid rA
 clear hW h h0 ht ht0 hk0 hs hc hcv hq hrs hsg hE hT hcT oks okt okr okR sP kP sP' kP' hry hzy hx hok hz ey rA bel cl cr hs0 hpn hpn' hq1 hred
 go_enter Tryz.func92, Tryz.ntmps92
 go_wp2_with fail
 rw [← HW.out]
 refine LM.out.mono ?_
 rintro e w1 ⟨rs, rfl, tab, hsz, bb⟩
 have tab : TabR w1 W.heap.size rs s := tab
 have hsz : ∀ j, (s.getD j []).length ≤ 60 := hsz
 have h24 := hid tab.1
 have one := hid tab.one
 have HGV := hid (fun i => (show (givesL s i).length ≤ 60 by
  unfold givesL
  split
  ·simp [vt]
  ·exact hsz i))
 have TAB := hid tab
 have HB1 := hid bb
 clear LM tab hsz bb
 go_upto_region 2 with (first
  | (refine rowAlloc rfl 145 rfl z24 zero_b ?_)
  | (refine rowStore rfl 145 _ _ rfl w1.heap.size rs z24 145 rfl rfl (heap_alloc_new w1 _) (by rw [h24.out]; exact size_b) (by rw [h24.out]; rfl) one.out ?_; rw [World.setRow_alloc_new]))
 obtain ⟨w2, hw2⟩ : ∃ w2, w2 = w1.alloc (.cells rs 145) := ⟨_, rfl⟩
 rw [← hw2]
 have b12 : Below w1.heap.size w1 w2 := by rw [hw2]; exact (Below.refl _ _).alloc (Nat.le_refl _) _
 have b2 := next_trans HB1.out b12
 have zA : w.heap.size < w2.heap.size := Nat.lt_of_lt_of_le zA0 b2.size
 have zB : b < w2.heap.size := by omega
 have zC : w1.heap.size < w2.heap.size := by rw [hw2]; simp
 have rA2 := RA.out.next b2
 have bel2 := BEL.out.trans (b2.mono BEL.out.size)
 have K0 : w2.cell? ⟨w.heap.size, 0, none⟩ = some (.slice A n cs) := rA2.cell 0
 have K1 : w2.cell? ⟨w.heap.size, 1, none⟩ = some (.slice (some ⟨b, off, none⟩) q cv) := rA2.cell 1
 have K2 : w2.cell? ⟨b, off + k * 2 + 1, none⟩ = some (.slice P' pn' pc') := (bel2.cell (p := ⟨b, off + k * 2 + 1, none⟩) hb).trans K2w
 have K3 : w2.heap[w1.heap.size]? = some (.cells rs 145 (0, 0)) := by rw [hw2]; exact heap_alloc_new w1 _
 have LK := hid (lookB rs s w2.drew ((TAB.out.below (b12.mono HB1.out.size)).more (Nat.le_trans HB1.out.size b12.size)))
 have LFILL := hid (fun g (w3 : World) rg sg (bx : Below w2.drew.heap.size w2.drew w3) => fill 78 #[.pointer (some ⟨g, 0, none⟩)] (enters_of Tryz.func78 (by kernel_rfl) rfl) P' pn' pc' y.2 (givesL s) w3 (lookSubst g (some ⟨w2.heap.size, 0, none⟩) 24 24 s w3 rg sg (by omega)) (SS.out.2.2.1.next (bel2.drew.trans (bx.mono bel2.size))) hpn60 HVS.out (fun i => Nat.le_trans (HGV.out i) (by omega)))
 have LPUT := hid (fun O on oc (w4 : World) (bx : Below w2.drew.heap.size w2.drew w4) {lo : Nat} (oO : Own w4 lo (.slice O on oc) (fillL (givesL s) y.2)) => put.implPutAt A T O n cs m c on oc d.1 t (x : Int) (fillL (givesL s) y.2) w4 (SS.out.1.next (bel2.drew.trans (bx.mono bel2.size))) (SS.out.2.1.next (bel2.drew.trans (bx.mono bel2.size))) (Own.seg oO) hn (by omega) (by rw [Own.len oO]; exact HFL.out HGV.out) x1 x2 (own_cap oO) SS.out.2.2.2.1 SS.out.2.2.2.2)
 have BEL2 := hid bel2
 clear hw2 b12 b2 rA2 bel2 TAB BEL RA zA0
 refine AnyT.start (S := (fun w' => w'.cell? ⟨w.heap.size, 0, none⟩ = some (.slice A n cs) ∧ w'.cell? ⟨w.heap.size, 1, none⟩ = some (.slice (some ⟨b, off, none⟩) q cv) ∧ w'.cell? ⟨b, off + k * 2 + 1, none⟩ = some (.slice P' pn' pc') ∧ w'.heap[w1.heap.size]? = some (.cells rs 145 (0, 0)))) (fun _ => false) (by kernel_rfl) ⟨K0, K1, K2, K3⟩ (fun hHeld => ?_)
 refine AnyT.takeA (i := 0) (v := ?_) rfl (by kernel_rfl) (by kernel_rfl) (by kernel_rfl) (fun _ _ _ h => h) (Or.inl ⟨by rfl, ?_⟩) ?_
 rotate_left 1
 ·(intro w0 _; go_simp; try with_reducible rfl)
 try simp only [Act.put, setIfInBounds_toArray, set_cons_zero, set_cons_succ, getElem_toArray, getElem_cons_zero, getElem_cons_succ]
 refine AnyT.take (i := 1) (v := ?_) rfl (by kernel_rfl) (by kernel_rfl) (by kernel_rfl) (by kernel_rfl) (fun _ _ _ h => h) (Or.inl ⟨by rfl, ?_⟩) (by assumption) ?_
 rotate_left 1
 ·(intro w0 hSw; (try dsimp only at hSw); go_simp; try with_reducible rfl)
 try simp only [Act.put, setIfInBounds_toArray, set_cons_zero, set_cons_succ, getElem_toArray, getElem_cons_zero, getElem_cons_succ]
 refine AnyT.takeA (i := 2) (v := ?_) rfl (by kernel_rfl) (by kernel_rfl) (by kernel_rfl) (fun _ _ _ h => h) (Or.inl ⟨by rfl, ?_⟩) ?_
 rotate_left 1
 ·(intro w0 _; go_simp; try with_reducible rfl)
 try simp only [Act.put, setIfInBounds_toArray, set_cons_zero, set_cons_succ, getElem_toArray, getElem_cons_zero, getElem_cons_succ]
 refine AnyT.takeA (i := 3) (v := ?_) rfl (by kernel_rfl) (by kernel_rfl) (by kernel_rfl) (fun _ _ _ h => h) (Or.inl ⟨by rfl, ?_⟩) ?_
 rotate_left 1
 ·(intro w0 _; go_simp; try with_reducible rfl)
 try simp only [Act.put, setIfInBounds_toArray, set_cons_zero, set_cons_succ, getElem_toArray, getElem_cons_zero, getElem_cons_succ]
 refine AnyT.take (i := 4) (v := .agg rs) rfl (by kernel_rfl) (by kernel_rfl) (by kernel_rfl) (by kernel_rfl) (fun _ _ _ h => h) (Or.inl ⟨by rfl, ?_⟩) (by assumption) ?_
 ·(intro w0 hSw; exact run_loadRow 145 _ rfl w1.heap.size rfl 145 rs (0, 0) _ hSw.2.2.2 Tryz.underlying145 rfl (by rw [h24.out]; exact size_b))
 try simp only [Act.put, setIfInBounds_toArray, set_cons_zero, set_cons_succ, getElem_toArray, getElem_cons_zero, getElem_cons_succ]
 refine AnyT.takeA (i := 6) (v := ?_) rfl (by kernel_rfl) (by kernel_rfl) (by kernel_rfl) (fun _ _ _ h => h) (Or.inl ⟨by rfl, ?_⟩) ?_
 rotate_left 1
 ·(intro w0 _; go_simp; try with_reducible rfl)
 try simp only [Act.put, setIfInBounds_toArray, set_cons_zero, set_cons_succ, getElem_toArray, getElem_cons_zero, getElem_cons_succ]
 refine AnyT.take (i := 7) (v := ?_) rfl (by kernel_rfl) (by kernel_rfl) (by kernel_rfl) (by kernel_rfl) (fun _ _ _ h => h) (Or.inl ⟨by rfl, ?_⟩) (by assumption) ?_
 rotate_left 1
 ·(intro w0 hSw; (try dsimp only at hSw); go_simp; try with_reducible rfl)
 try simp only [Act.put, setIfInBounds_toArray, set_cons_zero, set_cons_succ, getElem_toArray, getElem_cons_zero, getElem_cons_succ]
 refine AnyT.takeA (i := 8) (v := ?_) rfl (by kernel_rfl) (by kernel_rfl) (by kernel_rfl) (fun _ _ _ h => h) (Or.inl ⟨by rfl, ?_⟩) ?_
 rotate_left 1
 ·(intro w0 _; go_simp; try with_reducible rfl)
 try simp only [Act.put, setIfInBounds_toArray, set_cons_zero, set_cons_succ, getElem_toArray, getElem_cons_zero, getElem_cons_succ]
 refine AnyT.takeA (i := 9) (v := ?_) rfl (by kernel_rfl) (by kernel_rfl) (by kernel_rfl) (fun _ _ _ h => h) (Or.inl ⟨by rfl, ?_⟩) ?_
 rotate_left 1
 ·(intro w0 _; go_simp; try with_reducible rfl)
 try simp only [Act.put, setIfInBounds_toArray, set_cons_zero, set_cons_succ, getElem_toArray, getElem_cons_zero, getElem_cons_succ]
 refine AnyT.takeA (i := 10) (v := ?_) rfl (by kernel_rfl) (by kernel_rfl) (by kernel_rfl) (fun _ _ _ h => h) (Or.inl ⟨by rfl, ?_⟩) ?_
 rotate_left 1
 ·(intro w0 _; go_simp; try with_reducible rfl)
 try simp only [Act.put, setIfInBounds_toArray, set_cons_zero, set_cons_succ, getElem_toArray, getElem_cons_zero, getElem_cons_succ]
 refine AnyT.take (i := 11) (v := ?_) rfl (by kernel_rfl) (by kernel_rfl) (by kernel_rfl) (by kernel_rfl) (fun _ _ _ h => h) (Or.inl ⟨by rfl, ?_⟩) (by assumption) ?_
 rotate_left 1
 ·(intro w0 hSw; (try dsimp only at hSw); go_simp; try with_reducible rfl)
 try simp only [Act.put, setIfInBounds_toArray, set_cons_zero, set_cons_succ, getElem_toArray, getElem_cons_zero, getElem_cons_succ]
 refine AnyT.call (i := 5) (by kernel_rfl) rfl (fun K hK => ?_)
 try simp only [Act.put, setIfInBounds_toArray, set_cons_zero, set_cons_succ, getElem_toArray, getElem_cons_zero, getElem_cons_succ]
 rw [if_pos (by rfl)]
 go_simp
 (go_at_call 109; refine LK.out.mono ?_; rintro e w3 ⟨g, rfl, rg, sg, bx, zg⟩; have B1 := bx; have K01 : w3.cell? ⟨w.heap.size, 0, none⟩ = some (.slice A n cs) := (B1.cell (p := ⟨w.heap.size, 0, none⟩) zA).trans K0; have K11 : w3.cell? ⟨w.heap.size, 1, none⟩ = some (.slice (some ⟨b, off, none⟩) q cv) := (B1.cell (p := ⟨w.heap.size, 1, none⟩) zA).trans K1; have K21 : w3.cell? ⟨b, off + k * 2 + 1, none⟩ = some (.slice P' pn' pc') := (B1.cell (p := ⟨b, off + k * 2 + 1, none⟩) zB).trans K2; have K31 : w3.heap[w1.heap.size]? = some (.cells rs 145 (0, 0)) := (B1.block _ zC).trans K3; have LFI := hid (LFILL.out g w3 rg sg B1); go_wp2_with fail)
 refine hK.out _ _ (fun _ _ => ?_) (fun hKeep => ?_)
 ·exact ⟨K01, K11, K21, K31⟩
 replace hHeld := hKeep (by first | rfl | trivial) hHeld
 clear hK K hKeep
 try simp only [Act.put, setIfInBounds_toArray, set_cons_zero, set_cons_succ, getElem_toArray, getElem_cons_zero, getElem_cons_succ]
 refine AnyT.call (i := 12) (by kernel_rfl) rfl (fun K hK => ?_)
 try simp only [Act.put, setIfInBounds_toArray, set_cons_zero, set_cons_succ, getElem_toArray, getElem_cons_zero, getElem_cons_succ]
 rw [if_pos (by rfl)]
 go_simp
 (go_at_call 43; refine LFI.out.mono ?_; rintro e w4 ⟨O, on, oc, rfl, oO, by4⟩; have B2 := next_trans B1 by4; have K02 : w4.cell? ⟨w.heap.size, 0, none⟩ = some (.slice A n cs) := (B2.cell (p := ⟨w.heap.size, 0, none⟩) zA).trans K0; have K12 : w4.cell? ⟨w.heap.size, 1, none⟩ = some (.slice (some ⟨b, off, none⟩) q cv) := (B2.cell (p := ⟨w.heap.size, 1, none⟩) zA).trans K1; have K22 : w4.cell? ⟨b, off + k * 2 + 1, none⟩ = some (.slice P' pn' pc') := (B2.cell (p := ⟨b, off + k * 2 + 1, none⟩) zB).trans K2; have K32 : w4.heap[w1.heap.size]? = some (.cells rs 145 (0, 0)) := (B2.block _ zC).trans K3; have LPU := hid (LPUT.out O on oc w4 B2 oO); go_wp2_with fail)
 refine hK.out _ _ (fun _ _ => ?_) (fun hKeep => ?_)
 ·exact ⟨K02, K12, K22, K32⟩
 replace hHeld := hKeep (by first | rfl | trivial) hHeld
 clear hK K hKeep
 try simp only [Act.put, setIfInBounds_toArray, set_cons_zero, set_cons_succ, getElem_toArray, getElem_cons_zero, getElem_cons_succ]
 refine AnyT.call (i := 13) (by kernel_rfl) rfl (fun K hK => ?_)
 try simp only [Act.put, setIfInBounds_toArray, set_cons_zero, set_cons_succ, getElem_toArray, getElem_cons_zero, getElem_cons_succ]
 rw [if_pos (by rfl)]
 go_simp
 (go_at_call 108; refine LPU.out.mono ?_; rintro e w5 ⟨X, xn, xc, rfl, oX, by5⟩; have B3 := next_trans B2 by5; have K03 : w5.cell? ⟨w.heap.size, 0, none⟩ = some (.slice A n cs) := (B3.cell (p := ⟨w.heap.size, 0, none⟩) zA).trans K0; have K13 : w5.cell? ⟨w.heap.size, 1, none⟩ = some (.slice (some ⟨b, off, none⟩) q cv) := (B3.cell (p := ⟨w.heap.size, 1, none⟩) zA).trans K1; have K23 : w5.cell? ⟨b, off + k * 2 + 1, none⟩ = some (.slice P' pn' pc') := (B3.cell (p := ⟨b, off + k * 2 + 1, none⟩) zB).trans K2; have K33 : w5.heap[w1.heap.size]? = some (.cells rs 145 (0, 0)) := (B3.block _ zC).trans K3; go_wp2_with fail)
 refine hK.out _ _ (fun _ _ => ?_) (fun hKeep => ?_)
 ·exact ⟨K03, K13, K23, K33⟩
 replace hHeld := hKeep (by first | rfl | trivial) hHeld
 clear hK K hKeep
 try simp only [Act.put, setIfInBounds_toArray, set_cons_zero, set_cons_succ, getElem_toArray, getElem_cons_zero, getElem_cons_succ]
 refine AnyT.takeA (i := 14) (v := ?_) rfl (by kernel_rfl) (by kernel_rfl) (by kernel_rfl) (fun _ _ _ h => h) (Or.inl ⟨by rfl, ?_⟩) ?_
 rotate_left 1
 ·(intro w0 _; go_simp; try with_reducible rfl)
 try simp only [Act.put, setIfInBounds_toArray, set_cons_zero, set_cons_succ, getElem_toArray, getElem_cons_zero, getElem_cons_succ]
 refine AnyT.takeA (i := 15) (v := ?_) rfl (by kernel_rfl) (by kernel_rfl) (by kernel_rfl) (fun _ _ _ h => h) (Or.inl ⟨by rfl, ?_⟩) ?_
 rotate_left 1
 ·(intro w0 _; go_simp; try with_reducible rfl)
 try simp only [Act.put, setIfInBounds_toArray, set_cons_zero, set_cons_succ, getElem_toArray, getElem_cons_zero, getElem_cons_succ]
 refine AnyT.takeA (i := 16) (v := ?_) rfl (by kernel_rfl) (by kernel_rfl) (by kernel_rfl) (fun _ _ _ h => h) (Or.inl ⟨by rfl, ?_⟩) ?_
 rotate_left 1
 ·(intro w0 _; go_simp; try with_reducible rfl)
 try simp only [Act.put, setIfInBounds_toArray, set_cons_zero, set_cons_succ, getElem_toArray, getElem_cons_zero, getElem_cons_succ]
 refine AnyT.takeA (i := 17) (v := ?_) rfl (by kernel_rfl) (by kernel_rfl) (by kernel_rfl) (fun _ _ _ h => h) (Or.inl ⟨by rfl, ?_⟩) ?_
 rotate_left 1
 ·(intro w0 _; go_simp; try with_reducible rfl)
 try simp only [Act.put, setIfInBounds_toArray, set_cons_zero, set_cons_succ, getElem_toArray, getElem_cons_zero, getElem_cons_succ]
 refine AnyT.done (by kernel_rfl) ?_ _
 have F : AnsStep w (stepO d.1 y t x) (.returned (.tuple #[.slice X xn xc, .bool (put.putB d.1 t (fillL (givesL s) y.2) (x : Int))])) w5 := ⟨X, xn, xc, by rw [HRB.out.2], by rw [HRB.out.1]; exact Own.lower oX (Nat.le_trans BEL2.out.size B2.size), BEL2.out.drew.trans (B3.mono BEL2.out.size)⟩
 have HF := hid F
 clear F oX by5 B1 B2 B3 LK LFILL LPUT LFI LPU oO by4
 generalize put.putB d.1 t (fillL (givesL s) y.2) (x : Int) = bz at *
 go_wp2
 go_ret2
 exact HF.out
end stepImpl
end
section
open Go.Lib (hid)
namespace stepImpl
open Go.RowKit base ints sig term termOk endAt inside marks app sym sub segs segsHelp kinds termFacts matchMath whole takeMath take extended varsOf shape kindsR ruleMath ruleSpec ruleImpl stepMath walkMath stepSpec
set_option maxRecDepth 100000
theorem right_of {sg : List Int} {rs : List Rl} {t : List Int} (h : sysOkB sg rs = true) : rightB sg rs t = termOkB sg t := by unfold rightB; rw [h]; rfl
theorem there_eq {sg : List Int} {rs : List Rl} {t : List Int} {a r : Int} (h : sysOkB sg rs = true) : thereR sg rs t a r = (thereB sg t a && walkMath.inB r rs.length) := by
 unfold thereR thereB walkMath.inB endAt.inB
 rw [right_of h, Bool.and_assoc]
theorem hasRule (a : Value) (V : Option Addr) (q cv : Nat) (r : Int) (w : World) (hq : q ≤ 1048576) :
  Calls Tryz.prog 122 #[.agg #[a, .slice V q cv], .int .i64 r] w (AnsB w (walkMath.inB r q)) := by
 obtain ⟨W, hW, rA, bel⟩ := box1 w 98 #[a, .slice V q cv]
 have HW := hid hW
 have R := hid rA
 have FF := hid (fun (b : Bool) (h : walkMath.inB r q = b) => (ansB (b := walkMath.inB r q) (a := b) h.symm bel))
 clear hW rA bel
 by_cases h0 : r < 0
 ·have F := hid (FF.out false (by unfold walkMath.inB; exact decide_eq_false (by omega)))
  go_enter Tryz.func122, Tryz.ntmps122
  go_wp2_with fail
  try rw [← HW.out]
  go_wp2
  go_ret
  exact F.out
 ·by_cases h1 : r < (q : Int)
  ·have F := hid (FF.out true (by unfold walkMath.inB; exact decide_eq_true (by omega)))
   have h0' : (0 : Int) ≤ r := by omega
   have K1 : (w.alloc (.cells #[a, .slice V q cv] 98)).cell? ⟨w.heap.size, 1, none⟩ = some (.slice V q cv) := by rw [← HW.out]; exact R.out.cell 1
   go_enter Tryz.func122, Tryz.ntmps122
   go_wp2
   rw [← HW.out]
   go_ret
   exact F.out
  ·have F := hid (FF.out false (by unfold walkMath.inB; exact decide_eq_false (by omega)))
   have h0' : (0 : Int) ≤ r := by omega
   have K1 : (w.alloc (.cells #[a, .slice V q cv] 98)).cell? ⟨w.heap.size, 1, none⟩ = some (.slice V q cv) := by rw [← HW.out]; exact R.out.cell 1
   go_enter Tryz.func122, Tryz.ntmps122
   go_wp2
   rw [← HW.out]
   go_ret
   exact F.out
set_option maxHeartbeats 4000000 in
theorem hasRedex (a v u : Value) (d : Dat sSystem) (t : List Int) (x r : Int) (w : World) (h : Rd w w.heap.size sSystem [a, v] d) (ht : Rd w w.heap.size sI [u] t) (hz : sz sSystem d ≤ 1048576) (hz' : sz sI t ≤ 1048576) (oks : sysOkB d.1 d.2 = true) :
  Calls Tryz.prog 106 #[.agg #[a, v], u, .int .i64 x, .int .i64 r] w (AnsB w (redexB d.1 d.2 t x r)) := by
 have h0 := h
 have ht0 := ht
 obtain ⟨T, m, c, rfl, hT, hcT⟩ := rd_ints.1 ht
 have hm := len_ints hT.1 hz'
 obtain ⟨A, n, cs, V, q, cv, rfl, rfl, hs, hc, hcv, hq, hn, hq1, hrs, hsg, hE⟩ := rd_sys h hz
 obtain ⟨W, hW, rA, bel⟩ := box1 w 98 #[.slice A n cs, .slice V q cv]
 have HW := hid hW
 have LP := hid (placeIn A T n cs m c d.1 t x W (hs.next bel) (hT.next bel) hn hm)
 have HQ := hid hq
 have LHR := hid (fun (w1 : World) => hasRule (.slice A n cs) V q cv r w1 hq1)
 have LMA := hid (fun (w1 : World) (bb : Below w.heap.size w w1) (x k : Nat) hok hx hk => matchAt _ _ _ d t x k w1 (h0.next bb) (ht0.next bb) hz hok hx hk)
 have OKS := hid oks
 clear hW h h0 ht ht0 hz hz' hs hc hcv hq hrs hsg hE hT hcT oks
 obtain ⟨bp, hbp⟩ : ∃ bp, thereB d.1 t x = bp := ⟨_, rfl⟩
 have HP := hid hbp
 have HTH := hid (show thereR d.1 d.2 t x r = (bp && walkMath.inB r d.2.length) by rw [there_eq OKS.out, hbp])
 rw [hbp] at LP
 clear hbp
 cases bp with
 | false =>
  go_enter Tryz.func106, Tryz.ntmps106
  go_wp2_with fail
  rw [← HW.out]
  refine LP.out.mono ?_
  rintro e w1 ⟨rfl, bb⟩
  have F := hid (ansB (b := redexB d.1 d.2 t x r) (a := false) (by rw [redex_no (by rw [HTH.out]; rfl)]) (next_trans bel bb))
  clear bb bel rA LMA
  go_wp2
  go_ret
  exact F.out
 | true =>
  go_enter Tryz.func106, Tryz.ntmps106
  go_wp2_with fail
  rw [← HW.out]
  refine LP.out.mono ?_
  rintro e w1 ⟨rfl, bb⟩
  replace rA := rA.next bb
  replace bel := next_trans bel bb
  have K0 : w1.cell? ⟨w.heap.size, 0, none⟩ = some (.slice A n cs) := rA.cell 0
  have K1 : w1.cell? ⟨w.heap.size, 1, none⟩ = some (.slice V q cv) := rA.cell 1
  have LH1 := hid (LHR.out w1)
  clear bb LP LHR
  obtain ⟨bi, hbi⟩ : ∃ bi, walkMath.inB r q = bi := ⟨_, rfl⟩
  have HBI := hid hbi
  rw [hbi] at LH1
  clear hbi
  go_wp2_with fail
  refine LH1.out.mono ?_
  rintro e w2 ⟨rfl, bb⟩
  cases bi with
  | false =>
   have F := hid (ansB (b := redexB d.1 d.2 t x r) (a := false) (by rw [redex_no (by rw [HTH.out, HQ.out, HBI.out]; rfl)]) (next_trans bel bb))
   clear bb bel rA LMA K0 K1 LH1
   go_wp2
   go_ret
   exact F.out
  | true =>
   have hkk : 0 ≤ r ∧ r < (q : Int) := of_decide_eq_true HBI.out
   obtain ⟨k, rfl⟩ := Int.eq_ofNat_of_zero_le hkk.1
   have hkq : k < q := by omega
   have hx := endAt.there_parts HP.out
   obtain ⟨i, rfl⟩ := Int.eq_ofNat_of_zero_le hx.2.1
   have hix : i < t.length := by omega
   have okR : rightB d.1 d.2 t = true := by rw [right_of OKS.out]; exact hx.1
   have hkl : k < d.2.length := by rw [HQ.out]; exact hkq
   have HRE := hid (show redexB d.1 d.2 t (i : Int) (k : Int) = (mst d.1 t (d.2.getD k ([], [])).1 i s0).isSome by
    rw [redex_yes (by rw [HTH.out]; unfold walkMath.inB; rw [decide_eq_true (by omega)]; rfl), red_at (sys_rule OKS.out hkl) hx.1 hix]
    unfold rl
    rw [Int.toNat_natCast, Int.toNat_natCast])
   replace rA := rA.next bb
   replace bel := next_trans bel bb
   have LM1 := hid (LMA.out w2 bel i k okR hix hkl)
   clear K0 K1
   have K0 : w2.cell? ⟨w.heap.size, 0, none⟩ = some (.slice A n cs) := rA.cell 0
   have K1 : w2.cell? ⟨w.heap.size, 1, none⟩ = some (.slice V q cv) := rA.cell 1
   clear hx okR LMA HTH hkk hix hkl bb rA LH1
   obtain ⟨R, hR⟩ : ∃ R, mst d.1 t (d.2.getD k ([], [])).1 i s0 = R := ⟨_, rfl⟩
   rw [hR] at LM1 HRE
   clear hR
   go_wp2_with fail
   refine LM1.out.mono ?_
   rintro e w3 ⟨rs, rfl, tab, hsz, bb⟩
   have one := hid tab.one
   have h24 := hid tab.1
   obtain ⟨bo, hbo⟩ : ∃ bo, R.isSome = bo := ⟨_, rfl⟩
   rw [hbo]
   have F := hid (show AnsB w (redexB d.1 d.2 t (i : Int) (k : Int)) (.returned (.bool bo)) (w3.alloc (.cells rs 145)) from ⟨by rw [HRE.out, hbo], (next_trans bel bb).alloc (next_trans bel bb).size _⟩)
   clear tab hsz bb bel K0 K1 hbo LM1 HRE
   go_wp2_with (first
    | (refine rowAlloc rfl 145 rfl z24 zero_b ?_)
    | (refine rowStore rfl 145 _ _ rfl w3.heap.size rs z24 145 rfl rfl (heap_alloc_new w3 _) (by rw [h24.out]; exact size_b) (by rw [h24.out]; rfl) one.out ?_; rw [World.setRow_alloc_new]))
   go_ret
   exact F.out
set_option maxHeartbeats 4000000 in
theorem stepAt (a v u : Value) (d : Dat sSystem) (t : List Int) (x r : Int) (w : World) (h : Rd w w.heap.size sSystem [a, v] d) (ht : Rd w w.heap.size sI [u] t) (hz : sz sSystem d ≤ 1048576) (hz' : sz sI t ≤ 1048576) (oks : sysOkB d.1 d.2 = true) :
  Calls Tryz.prog 116 #[.agg #[a, v], u, .int .i64 x, .int .i64 r] w (AnsStep w (stepAtO d.1 d.2 t x r)) := by
 obtain ⟨W, hW, rA, bel⟩ := box1 w 98 #[a, v]
 have HW := hid hW
 have LH := hid (hasRedex a v u d t x r W (h.next bel) (ht.next bel) hz hz' oks)
 have LR := hid (fun (w1 : World) (bb : Below w.heap.size w w1) (x k : Nat) hok hx hk hred => reduced a v u d t x k w1 (h.next bb) (ht.next bb) hz hok hx hk hred)
 clear hW h ht hz hz'
 obtain ⟨bp, hbp⟩ : ∃ bp, redexB d.1 d.2 t x r = bp := ⟨_, rfl⟩
 rw [hbp] at LH
 cases bp with
 | false =>
  have HN := hid (show stepAtO d.1 d.2 t x r = none by
   cases e : stepAtO d.1 d.2 t x r with
   | none => rfl
   | some y => rw [stepAt_redex e] at hbp; cases hbp)
  clear hbp
  go_enter Tryz.func116, Tryz.ntmps116
  go_wp2_with fail
  rw [← HW.out]
  refine LH.out.mono ?_
  rintro e w1 ⟨rfl, bb⟩
  have F := hid (ansStep_nil (o := stepAtO d.1 d.2 t x r) HN.out (next_trans bel bb))
  clear bb bel rA LR
  go_wp2
  go_ret2
  exact F.out
 | true =>
  have hth : thereR d.1 d.2 t x r = true := by
   unfold redexB at hbp
   rw [Bool.and_eq_true] at hbp
   exact hbp.1
  obtain ⟨p1, p2, p3, p4⟩ := walkMath.there_parts hth
  obtain ⟨i, rfl⟩ := Int.eq_ofNat_of_zero_le p3.1
  obtain ⟨k, rfl⟩ := Int.eq_ofNat_of_zero_le p4.1
  rw [redex_yes hth] at hbp
  unfold rl at hbp
  rw [Int.toNat_natCast, Int.toNat_natCast] at hbp
  have LR1 := hid (fun w1 bb => LR.out w1 bb i k (right_yes p1 p2) (by omega) (by omega) hbp)
  have HE := hid (show stepAtO d.1 d.2 t (i : Int) (k : Int) = stepO d.1 (d.2.getD k ([], [])) t i by rw [at_yes hth]; unfold rl; rw [Int.toNat_natCast, Int.toNat_natCast])
  clear hth p1 p2 p3 p4 hbp LR oks
  go_enter Tryz.func116, Tryz.ntmps116
  go_wp2_with fail
  rw [← HW.out]
  refine LH.out.mono ?_
  rintro e w1 ⟨rfl, bb⟩
  replace rA := rA.next bb
  replace bel := next_trans bel bb
  have K0 : w1.cell? ⟨w.heap.size, 0, none⟩ = some a := rA.cell 0
  have K1 : w1.cell? ⟨w.heap.size, 1, none⟩ = some v := rA.cell 1
  have LR2 := hid (LR1.out w1 bel)
  clear bb LH LR1 rA
  go_wp2_with fail
  refine LR2.out.mono ?_
  rintro e w2 ⟨X, xn, xc, rfl, oX, bb⟩
  have F : AnsStep w (stepAtO d.1 d.2 t (i : Int) (k : Int)) (.returned (.tuple #[.slice X xn xc, .bool (stepO d.1 (d.2.getD k ([], [])) t i).isSome])) w2 := ⟨X, xn, xc, by rw [HE.out], by rw [HE.out]; exact Own.lower oX bel.size, next_trans bel bb⟩
  have HF := hid F
  clear F oX bb bel K0 K1 LR2
  generalize (stepO d.1 (d.2.getD k ([], [])) t i).isSome = bz at *
  go_wp2
  go_ret2
  exact HF.out
end stepImpl
end
section
open Go.Lib (hid)
namespace walkImpl
open Go.RowKit base ints sig term termOk endAt endOf marks app sym sub segs segsHelp kinds termFacts same shifted shape kindsR kindsW varsOf ruleMath ruleSpec ruleImpl stepMath walkMath stepSpec stepImpl walkSpec
set_option maxRecDepth 100000
structure Wm (w : World) (a v f s : Value) (d : Dat sSystem) (k : Dat sWalk) (i : Nat) (now : Value) (wr : World) : Prop where
 r : Row wr w.heap.size 98 #[a, v]
 q : Row wr (w.heap.size + 1) 39 #[f, s]
 b : Below w.heap.size w wr
 n : ∃ N nn nc, now = .slice N nn nc
 t : ∃ t, Rd wr wr.heap.size sI [now] t ∧ sz sI t ≤ 1048576 ∧ goOn d.1 d.2 k.1 k.2 = goOn d.1 d.2 t (k.2.drop i)
set_option maxHeartbeats 4000000 in
theorem leads (a v u : Value) (U : Option Addr) (un uc : Nat) (d : Dat sSystem) (t y : List Int) (x r : Int) (w : World) (h : Rd w w.heap.size sSystem [a, v] d) (ht : Rd w w.heap.size sI [u] t) (hU : Seg w w.heap.size U un y) (hz : sz sSystem d ≤ 1048576) (hz' : sz sI t ≤ 1048576) (hun : un ≤ 1048576) (oks : sysOkB d.1 d.2 = true) :
  Calls Tryz.prog 99 #[.agg #[a, v], u, .agg #[.int .i64 x, .int .i64 r, .slice U un uc]] w (AnsB w (decide (stepAtO d.1 d.2 t x r = some y))) := by
 obtain ⟨W, hW, rA, rX, bel⟩ := box2 w 98 71 #[a, v] #[.int .i64 x, .int .i64 r, .slice U un uc]
 have HW := hid hW
 have LS := hid (stepAt a v u d t x r W (h.next bel) (ht.next bel) hz hz' oks)
 have HU := hid (hU.next bel)
 have K0 : ((w.alloc (.cells #[a, v] 98)).alloc (.cells #[.int .i64 x, .int .i64 r, .slice U un uc] 71)).cell? ⟨w.heap.size, 0, none⟩ = some a := by rw [← hW]; exact rA.cell 0
 have K1 : ((w.alloc (.cells #[a, v] 98)).alloc (.cells #[.int .i64 x, .int .i64 r, .slice U un uc] 71)).cell? ⟨w.heap.size, 1, none⟩ = some v := by rw [← hW]; exact rA.cell 1
 clear hW h ht hU hz hz'
 obtain ⟨o, ho⟩ : ∃ o, stepAtO d.1 d.2 t x r = o := ⟨_, rfl⟩
 rw [ho] at LS
 rw [ho]
 have HL := hid (show ∀ z, o = some z → z.length ≤ 60 from fun z hz => by subst hz; exact step_len (stepAt_parts ho).2)
 clear ho
 go_enter Tryz.func99, Tryz.ntmps99
 go_wp2_with fail
 rw [← HW.out]
 refine LS.out.mono ?_
 rintro e w2 ⟨X, xn, xc, rfl, oX, bb⟩
 replace rX := rX.next bb
 have b2 := next_trans bel bb
 have k2 : w2.cell? ⟨w.heap.size + 1, 2, none⟩ = some (.slice U un uc) := rX.cell 2
 cases o with
 | none =>
  have F := hid (show AnsB w (decide ((none : Option (List Int)) = some y)) (.returned (.bool false)) w2 from ⟨rfl, b2⟩)
  clear oX bb rA rX bel b2 HL HU LS K0 K1 k2
  go_wp2
  go_ret
  exact F.out
 | some z =>
  have oY : Own w2 W.heap.size (.slice X xn xc) z := oX
  have hxn : xn ≤ 1048576 := by have := HL.out z rfl; have := Own.len oY; omega
  have LE := hid (implSame X U xn un xc uc z y w2 (Own.seg oY) (HU.out.next bb) hxn hun)
  clear oX oY HU bb rX rA bel LS K0 K1 HL
  go_wp2_with fail
  refine LE.out.mono ?_
  rintro e w3 ⟨rfl, dd, rfl⟩
  have F := hid (show AnsB w (decide (some z = some y)) (.returned (.bool (decide (z = y)))) (w2.drewN dd) from ⟨by congr 2; simp, below_drewN b2 dd⟩)
  clear b2 k2 LE
  generalize decide (z = y) = bz at *
  go_wp2
  go_ret
  exact F.out
set_option maxHeartbeats 4000000 in
theorem makes (a v f s : Value) (d : Dat sSystem) (k : Dat sWalk) (w : World) (h : Rd w w.heap.size sSystem [a, v] d) (h' : Rd w w.heap.size sWalk [f, s] k) (hz : sz sSystem d ≤ 1048576) (hz' : sz sWalk k ≤ 1048576) (oks : sysOkB d.1 d.2 = true) :
  Calls Tryz.prog 75 #[.agg #[a, v], .agg #[f, s]] w (AnsB w (goOn d.1 d.2 k.1 k.2).isSome) := by
 obtain ⟨F, fn, fc, S, sn, sc, rfl, rfl, hF, hcF, hfn, hsn, hsn1, hcS, hrF, hrS, hzF, hzS⟩ := rd_walk h' hz'
 obtain ⟨W, hW, rA, rW, bel⟩ := box2 w 98 39 #[a, v] #[.slice F fn fc, .slice S sn sc]
 have HW := hid hW
 have LST := hid (fun (w1 : World) (bb : Below w.heap.size w w1) (u : Value) (U : Option Addr) (un uc : Nat) (t y : List Int) (x r : Int) ht hU hzt hun => leads a v u U un uc d t y x r w1 (h.next bb) ht hU hz hzt hun oks)
 have HRS := hid hrS
 have HSN := hid hsn
 have HZS := hid hzS
 have H0 := hid (show Wm w a v (.slice F fn fc) (.slice S sn sc) d k 0 (.slice F fn fc) W from ⟨rA, rW, bel, ⟨_, _, _, rfl⟩, k.1, hrF.next bel, hzF, rfl⟩)
 clear hW h h' hz hz' hF hcF hsn hcS hrF hrS hzF hzS rA rW bel oks
 go_enter Tryz.func75, Tryz.ntmps75
 go_wp2_with fail
 rw [← HW.out]
 clear HW
 go_loopg [5, 13] sn (fun g now i_ wr => ∃ i : Nat, i_ = .int .i64 i ∧ i + g = sn ∧ Wm w a v (.slice F fn fc) (.slice S sn sc) d k i now wr)
 case atStart => exact ⟨0, rfl, by omega, H0.out⟩
 case round =>
  clear H0
  obtain ⟨i, rfl, hg, T⟩ := hrel
  obtain ⟨N, nn, nc, rfl⟩ := T.n
  obtain ⟨t, ht, hzt, hgo⟩ := T.t
  have HG := hid hg
  have HGO := hid hgo
  clear hg hgo
  by_cases hi : i < sn
  ·obtain ⟨b, off, u, x, hA, hb, ex, c0, c1, c2, hx2⟩ := rd_step HRS.out T.b HSN.out hi
   subst hA
   obtain ⟨U, un, uc, rfl, hU, hcU⟩ := rd_ints.1 hx2
   have hzx : sz sI x.2.2 ≤ 1048576 := by rw [← ex.out]; exact HZS.out i hi
   have hun : un ≤ 1048576 := len_ints hU.1 hzx
   obtain ⟨xa, hxa⟩ : ∃ z, x.1 = z := ⟨_, rfl⟩
   obtain ⟨xr, hxr⟩ : ∃ z, x.2.1 = z := ⟨_, rfl⟩
   rw [hxa] at c0
   rw [hxr] at c1
   have b1 : Below wr.heap.size wr (wr.alloc (.cells #[.int .i64 xa, .int .i64 xr, .slice U un uc] 71)) := (Below.refl _ _).alloc (Nat.le_refl _) _
   have K0 : wr.cell? ⟨w.heap.size, 0, none⟩ = some a := T.r.cell 0
   have K1 : wr.cell? ⟨w.heap.size, 1, none⟩ = some v := T.r.cell 1
   obtain ⟨w1, hw1⟩ : ∃ w1, w1 = wr.alloc (.cells #[.int .i64 xa, .int .i64 xr, .slice U un uc] 71) := ⟨_, rfl⟩
   rw [← hw1] at b1
   have r1 := T.r.next b1
   have q1 := T.q.next b1
   have bel1 := T.b.trans (b1.mono T.b.size)
   have rX : Row w1 wr.heap.size 71 #[.int .i64 xa, .int .i64 xr, .slice U un uc] := by rw [hw1]; exact Row.new _ _ _
   have hU1 := (hU.more T.b.size).next b1
   have hx3 := (hx2.more T.b.size).next b1
   have LS := hid (LST.out w1 bel1 (.slice N nn nc) U un uc t x.2.2 xa xr (ht.next b1) hU1 hzt hun)
   obtain ⟨o, ho⟩ : ∃ o, stepAtO d.1 d.2 t xa xr = o := ⟨_, rfl⟩
   rw [ho] at LS
   have HO := hid (show stepAtO d.1 d.2 t x.1 x.2.1 = o by rw [hxa, hxr]; exact ho)
   have hil : i < k.2.length := by rw [HSN.out]; exact hi
   have EX := hid (show k.2.getD i (0, 0, []) = x from ex.out)
   have i0 : (0 : Int) ≤ (i : Int) := by omega
   have i1 : (i : Int) < (sn : Int) := by omega
   have R0 : (wr.alloc (.cells #[.int .i64 xa, .int .i64 xr, .slice U un uc] 71)).cell? ⟨w.heap.size, 0, none⟩ = some a := by rw [← hw1]; exact r1.cell 0
   have R1 : (wr.alloc (.cells #[.int .i64 xa, .int .i64 xr, .slice U un uc] 71)).cell? ⟨w.heap.size, 1, none⟩ = some v := by rw [← hw1]; exact r1.cell 1
   have X0 : (wr.alloc (.cells #[.int .i64 xa, .int .i64 xr, .slice U un uc] 71)).cell? ⟨wr.heap.size, 0, none⟩ = some (.int .i64 xa) := by rw [← hw1]; exact rX.cell 0
   have X1 : (wr.alloc (.cells #[.int .i64 xa, .int .i64 xr, .slice U un uc] 71)).cell? ⟨wr.heap.size, 1, none⟩ = some (.int .i64 xr) := by rw [← hw1]; exact rX.cell 1
   have X2 : (wr.alloc (.cells #[.int .i64 xa, .int .i64 xr, .slice U un uc] 71)).cell? ⟨wr.heap.size, 2, none⟩ = some (.slice U un uc) := by rw [← hw1]; exact rX.cell 2
   have HW1 := hid hw1
   clear ho hxa hxr hx2 hU hcU T ht hzt ex b1 hw1 hU1
   go_wp2_with fail
   rw [← HW1.out]
   refine LS.out.mono ?_
   rintro e w2 ⟨rfl, bb⟩
   have r2 := r1.next bb
   have q2 := q1.next bb
   have b2 := next_trans bel1 bb
   have rX2 := rX.next bb
   have RY := hid (hx3.next bb)
   have k2 : w2.cell? ⟨wr.heap.size, 2, none⟩ = some (.slice U un uc) := rX2.cell 2
   clear r1 q1 bel1 rX hx3 c0 c1 c2 K0 K1 R0 R1 X0 X1 X2 LS HW1
   by_cases hoy : o = some x.2.2
   ·have HGN := hid (go_step hil EX.out (HO.out.trans hoy) rfl)
    have F := hid (show Wm w a v (.slice F fn fc) (.slice (some ⟨b, off, none⟩) sn sc) d k (i + 1) (.slice U un uc) w2 from ⟨r2, q2, b2, ⟨_, _, _, rfl⟩, x.2.2, RY.out, hzx, by rw [HGO.out, HGN.out]⟩)
    rw [decide_eq_true hoy]
    clear r2 q2 b2 bb rX2 RY HO hoy
    go_wp2
    go_roundg (gk - 1)
    case measure => have := HG.out; omega
    case rel => exact ⟨i + 1, by simp, by have := HG.out; omega, F.out⟩
   ·have F := hid (ansB (b := (goOn d.1 d.2 k.1 k.2).isSome) (a := false) (by
     rw [HGO.out]
     cases o with
     | none => rw [go_none hil EX.out HO.out]; rfl
     | some y => rw [go_differ hil EX.out HO.out (fun q => hoy (by rw [q]))]; rfl) b2)
    rw [decide_eq_false hoy]
    clear r2 q2 b2 bb rX2 RY HO hoy k2
    go_wp2
    go_ret
    exact F.out
  ·have F := hid (ansB (b := (goOn d.1 d.2 k.1 k.2).isSome) (a := true) (by rw [HGO.out, go_all (by rw [HSN.out]; have := HG.out; omega)]; rfl) T.b)
   clear T ht hzt
   go_wp2
   go_ret
   exact F.out
theorem walk_sys {sg : List Int} {rs : List Rl} {k : Wk} (h : sysOkB sg rs = false) : walkB sg rs k = false := walk_noR (right_sys h)
theorem walk_term {sg : List Int} {rs : List Rl} {k : Wk} (h : termOkB sg k.1 = false) : walkB sg rs k = false := walk_noR (right_term h)
set_option maxHeartbeats 4000000 in
theorem implWalkOk (a v f s : Value) (d : Dat sSystem) (k : Dat sWalk) (w : World) (h : Rd w w.heap.size sSystem [a, v] d) (h' : Rd w w.heap.size sWalk [f, s] k) (hz : sz sSystem d ≤ 1048576) (hz' : sz sWalk k ≤ 1048576) :
  Calls Tryz.prog 38 #[.agg #[a, v], .agg #[f, s]] w (AnsB w (walkB d.1 d.2 k)) := by
 obtain ⟨F, fn, fc, S, sn, sc, rfl, rfl, hF, hcF, hfn, hsn, hsn1, hcS, hrF, hrS, hzF, hzS⟩ := rd_walk h' hz'
 have h0 := h
 obtain ⟨A, n, cs, V, q, cv, rfl, rfl, hs, hc, hcv, hq, hn, hq1, hrs, hsg, hE⟩ := rd_sys h hz
 obtain ⟨W, hW, rA, rW, bel⟩ := box2 w 45 39 #[.slice A n cs, .slice V q cv] #[.slice F fn fc, .slice S sn sc]
 have HW := hid hW
 have LS := hid (systemOf _ _ d W (h0.next bel) hz)
 have LT := hid (fun (w1 : World) (bb : Below w.heap.size w w1) => implTermOk A F n cs fn fc d.1 k.1 w1 (hs.next bb) (hF.next bb) hn hfn)
 have LM := hid (fun (w1 : World) (bb : Below w.heap.size w w1) oks => makes _ _ _ _ d k w1 (h0.next bb) (h'.next bb) hz hz' oks)
 have HSN := hid hsn
 clear hW h h0 h' hz hz' hs hc hcv hq hrs hsg hE hF hcF hsn hcS hrF hrS hzF hzS
 cases ok : sysOkB d.1 d.2 with
 | false =>
  have HS := hid ok
  clear ok
  go_enter Tryz.func38, Tryz.ntmps38
  go_wp2_with fail
  rw [← HW.out]
  refine LS.out.mono ?_
  rintro e w1 ⟨he, bb⟩
  rw [HS.out] at he
  have he : e = .returned (.tuple #[.agg #[.slice none 0 0, .slice none 0 0], .bool false]) := he
  subst he
  have F := hid (fun o => ansB (b := walkB d.1 d.2 k) (a := false) (by rw [walk_sys HS.out]) ((next_trans bel bb).alloc (next_trans bel bb).size o))
  clear bb bel rA rW LT LM
  go_wp2
  go_ret
  exact F.out _
 | true =>
  have HS := hid ok
  clear ok
  cases okt : termOkB d.1 k.1 with
  | false =>
   have HT := hid okt
   clear okt
   go_enter Tryz.func38, Tryz.ntmps38
   go_wp2_with fail
   rw [← HW.out]
   refine LS.out.mono ?_
   rintro e w1 ⟨he, bb⟩
   rw [HS.out] at he
   have he : e = .returned (.tuple #[.agg #[.slice A n cs, .slice V q cv], .bool true]) := he
   subst he
   have b2 := (Below.refl w1.heap.size w1).alloc (Nat.le_refl _) (.cells #[.slice A n cs, .slice V q cv] 98)
   have r2 := (rW.next bb).next b2
   have bel2 := next_trans (next_trans bel bb) b2
   have k0 : (w1.alloc (.cells #[.slice A n cs, .slice V q cv] 98)).cell? ⟨w.heap.size + 1, 0, none⟩ = some (.slice F fn fc) := r2.cell 0
   have LT1 := hid (LT.out _ bel2)
   have B2 := hid bel2
   clear bb bel rA rW LT LM b2 r2 bel2
   go_wp2_with fail
   refine LT1.out.mono ?_
   rintro e w3 ⟨he, bb⟩
   rw [HT.out] at he
   subst he
   have F := hid (ansB (b := walkB d.1 d.2 k) (a := false) (by rw [walk_term HT.out]) (next_trans B2.out bb))
   clear bb k0 LT1 B2
   go_wp2
   go_ret
   exact F.out
  | true =>
   have HT := hid okt
   clear okt
   by_cases h60 : sn ≤ 60
   ·have HYES := hid (walk_yes (k := k) (right_yes HS.out HT.out) HSN.out h60)
    have hle : (sn : Int) ≤ 60 := by omega
    go_enter Tryz.func38, Tryz.ntmps38
    go_wp2_with fail
    rw [← HW.out]
    refine LS.out.mono ?_
    rintro e w1 ⟨he, bb⟩
    rw [HS.out] at he
    have he : e = .returned (.tuple #[.agg #[.slice A n cs, .slice V q cv], .bool true]) := he
    subst he
    obtain ⟨w2, hw2⟩ : ∃ w2, w2 = w1.alloc (.cells #[.slice A n cs, .slice V q cv] 98) := ⟨_, rfl⟩
    have b2 : Below w1.heap.size w1 w2 := by rw [hw2]; exact (Below.refl w1.heap.size w1).alloc (Nat.le_refl _) (.cells #[.slice A n cs, .slice V q cv] 98)
    have r2 := (rW.next bb).next b2
    have rS : Row w2 w1.heap.size 98 #[.slice A n cs, .slice V q cv] := by rw [hw2]; exact Row.new _ _ _
    have bel2 := next_trans (next_trans bel bb) b2
    have k0 : (w1.alloc (.cells #[.slice A n cs, .slice V q cv] 98)).cell? ⟨w.heap.size + 1, 0, none⟩ = some (.slice F fn fc) := by rw [← hw2]; exact r2.cell 0
    have LT1 := hid (LT.out _ bel2)
    have HW2 := hid hw2
    clear bb bel rA rW LT b2 hw2
    go_wp2_with fail
    rw [← HW2.out]
    refine LT1.out.mono ?_
    rintro e w3 ⟨he, bb⟩
    rw [HT.out] at he
    subst he
    replace r2 := r2.next bb
    replace rS := rS.next bb
    replace bel2 := next_trans bel2 bb
    have k1 : w3.cell? ⟨w.heap.size + 1, 1, none⟩ = some (.slice S sn sc) := r2.cell 1
    have k2 : w3.cell? ⟨w.heap.size + 1, 0, none⟩ = some (.slice F fn fc) := r2.cell 0
    have k3 : w3.cell? ⟨w1.heap.size, 0, none⟩ = some (.slice A n cs) := rS.cell 0
    have k4 : w3.cell? ⟨w1.heap.size, 1, none⟩ = some (.slice V q cv) := rS.cell 1
    have LM1 := hid (LM.out w3 bel2 HS.out)
    clear bb k0 LT1 HW2 LM r2 rS
    go_wp2_with fail
    refine LM1.out.mono ?_
    rintro e w4 ⟨rfl, bb⟩
    have F := hid (show AnsB w (walkB d.1 d.2 k) (.returned (.bool (goOn d.1 d.2 k.1 k.2).isSome)) w4 from ⟨by rw [HYES.out], next_trans bel2 bb⟩)
    clear bb bel2 k1 k2 k3 k4 LM1 HYES
    generalize (goOn d.1 d.2 k.1 k.2).isSome = bz at *
    go_wp2
    go_ret
    exact F.out
   ·have hle : ¬ (sn : Int) ≤ 60 := by omega
    go_enter Tryz.func38, Tryz.ntmps38
    go_wp2_with fail
    rw [← HW.out]
    refine LS.out.mono ?_
    rintro e w1 ⟨he, bb⟩
    rw [HS.out] at he
    have he : e = .returned (.tuple #[.agg #[.slice A n cs, .slice V q cv], .bool true]) := he
    subst he
    have b2 := (Below.refl w1.heap.size w1).alloc (Nat.le_refl _) (.cells #[.slice A n cs, .slice V q cv] 98)
    have r2 := (rW.next bb).next b2
    have bel2 := next_trans (next_trans bel bb) b2
    have k0 : (w1.alloc (.cells #[.slice A n cs, .slice V q cv] 98)).cell? ⟨w.heap.size + 1, 0, none⟩ = some (.slice F fn fc) := r2.cell 0
    have LT1 := hid (LT.out _ bel2)
    have B2 := hid bel2
    have R2 := hid r2
    clear bb bel rA rW LT LM b2 r2 bel2
    go_wp2_with fail
    refine LT1.out.mono ?_
    rintro e w3 ⟨he, bb⟩
    rw [HT.out] at he
    subst he
    have k1 : w3.cell? ⟨w.heap.size + 1, 1, none⟩ = some (.slice S sn sc) := (R2.out.next bb).cell 1
    have F := hid (ansB (b := walkB d.1 d.2 k) (a := false) (by rw [walk_long HSN.out h60]) (next_trans B2.out bb))
    clear bb k0 LT1 B2
    go_wp2
    go_ret
    exact F.out
end walkImpl
end
section
namespace walkX
open Go.RowKit base ints sig term marks app sym varsOf shape kindsR kindsW ruleMath walkMath walkSpec walkImpl
end walkX
end
section
namespace walkSpec
open Go.RowKit base ints sig term termOk endAt endOf marks app sym sub segs segsHelp kinds termFacts same shifted shape kindsR kindsW varsOf ruleMath ruleSpec stepMath walkMath stepSpec ownL heldT
set_option maxRecDepth 100000
def AnsWalk (w : World) (k : Wk) (b : Bool) (e : Ending) (w' : World) : Prop := ∃ A0 n0 c0 A1 n1 c1, e = .returned (.tuple #[.agg #[.slice A0 n0 c0, .slice A1 n1 c1], .bool b]) ∧ Owned w' w.heap.size w'.heap.size sWalk [.slice A0 n0 c0, .slice A1 n1 c1] k ∧ Below w.heap.size w w'
theorem owned_zero (w : World) (lo hi : Nat) : Owned w lo hi sWalk [.slice none 0 0, .slice none 0 0] (([], []) : List Int × List St) :=
 ⟨[], ⟨[.slice none 0 0], [.slice none 0 0], [], [], rfl, rfl, ⟨none, 0, 0, rfl, rfl, .inl ⟨rfl, rfl, rfl, rfl⟩⟩, ⟨none, 0, 0, rfl, rfl, .inl ⟨rfl, rfl, rfl, rfl⟩⟩⟩, List.nodup_nil, fun k hk => by cases hk⟩
theorem owned_walk {w : World} {lo mid hi : Nat} {X O : Option Addr} {xn xc n c : Nat} {f : List Int} {L : List St} (h : Ownd w lo mid X xn xc f) (h2 : OwnL w mid hi 71 sStep O n c L) (h3 : lo ≤ mid) (h4 : mid ≤ hi) : Owned w lo hi sWalk [.slice X xn xc, .slice O n c] (f, L) :=
 Owned.cat (ow_ints.2 h) h2.owned (Nat.le_refl _) h3 h4
theorem ansWalk_no {w w' : World} {k : Wk} {b : Bool} (h : k = ([], []) ∧ b = false) (hb : Below w.heap.size w w') : AnsWalk w k b (.returned (.tuple #[.agg #[.slice none 0 0, .slice none 0 0], .bool false])) w' :=
 ⟨none, 0, 0, none, 0, 0, by rw [h.2], by rw [h.1]; exact owned_zero _ _ _, hb⟩
section
variable {sg : List Int} {rs : List Rl} {a b : Wk}
end
structure Jn (w : World) (a v f s f' s' : Value) (wr : World) : Prop where
 r0 : Row wr w.heap.size 45 #[a, v]
 r1 : Row wr (w.heap.size + 1) 39 #[f, s]
 r2 : Row wr (w.heap.size + 1 + 1) 39 #[f', s']
 r3 : Row wr (w.heap.size + 1 + 1 + 1) 39 #[.slice none 0 0, .slice none 0 0]
 b : Below w.heap.size w wr
section
variable {w wr w' : World} {a v f s f' s' : Value}
theorem Jn.next (h : Jn w a v f s f' s' wr) (hb : Below wr.heap.size wr w') : Jn w a v f s f' s' w' := ⟨h.r0.next hb, h.r1.next hb, h.r2.next hb, h.r3.next hb, next_trans h.b hb⟩
theorem Jn.size (h : Jn w a v f s f' s' wr) : w.heap.size + 1 + 1 + 1 + 1 ≤ wr.heap.size := h.r3.lt
end
end walkSpec
end
section
namespace walkSpec
open Go.RowKit base ints sig term termOk endAt endOf marks app sym sub segs segsHelp kinds termFacts same shifted shape kindsR kindsW varsOf ruleMath ruleSpec stepMath walkMath stepSpec ownL heldT
set_option maxRecDepth 100000
section
variable {sg : List Int} {rs : List Rl} {k : Wk} {t : List Int} {x : Int}
end
theorem go_ats {sg : List Int} {rs : List Rl} : ∀ {ss : List St} {t v : List Int}, goOn sg rs t ss = some v → ∀ s ∈ ss, 0 ≤ s.1 ∧ s.1 < 60
 | [], _, _, _, _, hs => by cases hs
 | x :: ss, t, v, h, s, hs => by
  obtain ⟨h1, h2⟩ := go_cons.1 h
  rcases List.mem_cons.1 hs with hs | hs
  ·subst hs
   obtain ⟨-, q2, q3, -⟩ := walkMath.there_parts (stepAt_parts h1).1
   have := (term_len q2).2
   exact ⟨q3.1, by omega⟩
  ·exact go_ats h2 s hs
theorem walk_at {sg : List Int} {rs : List Rl} {k : Wk} {i : Nat} {y : St} (h : walkB sg rs k = true) (hi : i < k.2.length) (hy : k.2.getD i (0, 0, []) = y) : (0 ≤ y.1 ∧ y.1 < 60) ∧ termOkB sg y.2.2 = true := by
 obtain ⟨-, q2, -, q4⟩ := walk_parts h
 have hm : y ∈ k.2 := by rw [← hy]; simp [List.getD, hi]
 exact ⟨go_ats q4 y hm, (go_ok q2 q4).2 y hm⟩
structure Wi (w : World) (a v f s : Value) (B : Nat) (X O : Option Addr) (xn xc on oc : Nat) (fr : List Int) (L : List St) (wr : World) : Prop where
 r0 : Row wr w.heap.size 45 #[a, v]
 r1 : Row wr (w.heap.size + 1) 39 #[f, s]
 r2 : Row wr (w.heap.size + 1 + 1) 39 #[.slice none 0 0, .slice none 0 0]
 r3 : Row wr B 39 #[.slice X xn xc, .slice O on oc]
 x : Ownd wr (w.heap.size + 1 + 1 + 1) B X xn xc fr
 o : OwnL wr (B + 1) wr.heap.size 71 sStep O on oc L
 b : Below w.heap.size w wr
 z : w.heap.size + 1 + 1 + 1 ≤ B
theorem Wi.next {w wr w' : World} {a v f s : Value} {B : Nat} {X O : Option Addr} {xn xc on oc : Nat} {fr : List Int} {L : List St} (h : Wi w a v f s B X O xn xc on oc fr L wr) (hb : Below wr.heap.size wr w') : Wi w a v f s B X O xn xc on oc fr L w' :=
 ⟨h.r0.next hb, h.r1.next hb, h.r2.next hb, h.r3.next hb, h.x.next hb, (h.o.next hb).wider (Nat.le_refl _) hb.size, next_trans h.b hb, h.z⟩
end walkSpec
end
section
namespace walkX
open Go.RowKit base sig term termOk termFacts segs shape kindsR kindsW ruleMath stepMath walkMath walkSpec
theorem steps_sz {L : List St} {C : Nat} (h : ∀ s ∈ L, s.2.2.length ≤ C) : sz sStepS L ≤ L.length * (C + 1) := by
 induction L with
 | nil => exact Nat.zero_le _
 | cons x r ih =>
  have h1 := ih (fun s hs => h s (List.mem_cons_of_mem _ hs))
  have h2 := h x (List.mem_cons_self ..)
  have e : sz sStepS (x :: r) = (r.length + 1) + ((0 + (0 + sz sI x.2.2)) + (r.map (sz sStep)).sum) := rfl
  have e2 : sz sStepS r = r.length + (r.map (sz sStep)).sum := rfl
  rw [e, sz_ints, List.length_cons, Nat.add_mul]
  rw [e2] at h1
  omega
theorem walk_sz {k : Wk} (h1 : k.1.length ≤ 60) (h2 : k.2.length ≤ 60) (h3 : ∀ s ∈ k.2, s.2.2.length ≤ 60) : sz sWalk k ≤ 1048576 := by
 show sz sI k.1 + sz sStepS k.2 ≤ 1048576
 have a := steps_sz h3
 have b : k.2.length * (60 + 1) ≤ 60 * 61 := Nat.mul_le_mul h2 (Nat.le_refl _)
 rw [sz_ints]
 omega
theorem zero_sz : sz sWalk (([], []) : List Int × List St) ≤ 1048576 := walk_sz (k := ([], [])) (by simp) (by simp) (fun s hs => by cases hs)
end walkX
end
section
open Go.Lib (hid)
namespace kindsT
open Go.RowKit base ints sig cursor marks app sym appAt segs segsHelp segsMark kinds shape
set_option maxRecDepth 100000
abbrev sInt64SS : Sh := .row 22 sI
set_option maxHeartbeats 2000000 in
theorem szK_Int64SS (v : Value) (D : List (Dat sI)) (left : Int) (w : World) (h : Rd w w.heap.size sInt64SS [v] D) (h0 : 0 ≤ left) (h1 : left ≤ 1048576) :
  Calls Tryz.prog 29 #[v, .int .i64 left] w (AnsSzK w left (sz sInt64SS D)) := by
 obtain ⟨A, c, rfl, hcap⟩ := h.slice
 obtain ⟨n, hn⟩ : ∃ n, D.length = n := ⟨_, rfl⟩
 rw [hn] at h hcap ⊢
 have hmax : n ≤ 9223372036854775807 := Nat.le_trans hcap.1 hcap.2.1
 have HN := hid hn
 have H := hid h
 clear hcap hn h
 by_cases hs : left - n < 0
 ·have S : AnsSzK w left (sz sInt64SS D) (.returned (.int .i64 (-1))) w := ⟨by rw [if_pos (by rw [sz_row, HN.out]; omega)], Below.refl _ _⟩
  have HS := hid S
  clear S
  go_enter Tryz.func29, Tryz.ntmps29
  go_wp2
  go_ret
  exact HS.out
 go_enter Tryz.func29, Tryz.ntmps29
 go_wp2
 go_loopw [1, 5] (fun l i wr => HeadSzK w n sI D left l i wr) (fun _ i _ => n - (intOf i).toNat)
 case atStart => exact headSzK_zero (by omega)
 case round =>
  obtain ⟨k, hk, rfl, rfl, hge, hb⟩ := hrel
  by_cases hlt : k < n
  ·obtain ⟨b, off, n2, c2, es, ev, -, -, hbB, hel, hp, hr⟩ := H.out.elem (j := k) (by rw [HN.out]; exact hlt)
   injection ev with e1 e2 e3
   subst e1 e2 e3
   obtain ⟨v0, rfl⟩ := List.length_eq_one_iff.1 hel
   have hpw := hp.keep (w' := wr) (fun p hp => hb.cell (p := p) (by rw [hp]; exact hbB))
   have c0 : wr.cell? ⟨b, off + k, none⟩ = some (v0) := by simpa [nc] using hpw 0 (by simp)
   obtain ⟨t, ht⟩ : ∃ t, sz sI (D.getD k (dft sI)) = t := ⟨_, rfl⟩
   obtain ⟨l, hl⟩ : ∃ l, left - n - szs sI D k = l := ⟨_, rfl⟩
   have hsum := szs_succ (s := sI) (d := D) (k := k) (by rw [HN.out]; exact hlt)
   rw [ht] at hsum
   rw [hl] at hge ⊢
   have hle : l ≤ 1048576 := by omega
   have L := hid (szK_ints _ (D.getD k (dft sI)) l wr ((hr.below hb).more hb.size) hge hle)
   rw [ht] at L
   have BAD := hid (fun (q : l - (t : Int) < 0) => headSzK_bad (e := 22) (D := D) (left := left) HN.out hlt hsum (by rw [hl]; exact q))
   have GOOD := hid (fun (q : ¬ l - (t : Int) < 0) (w1 : World) (hb : Below w.heap.size w w1) => headSzK_step (D := D) (left := left) (l := l) hlt hsum hl q hb)
   have HB := hid hb
   clear hr hel hp hpw ht hl hsum hb
   go_wp2_with fail
   refine L.out.mono ?_
   rintro e w1 ⟨he, bb⟩
   by_cases q : l - (t : Int) < 0
   ·rw [if_pos q] at he
    subst he
    have F : AnsSzK w left (sz sInt64SS D) (.returned (.int .i64 (-1))) w1 := ⟨BAD.out (by omega), next_trans HB.out bb⟩
    have HF := hid F
    clear F bb L GOOD BAD
    go_wp2
    go_ret
    exact HF.out
   ·rw [if_neg q] at he
    subst he
    have F := hid (GOOD.out (by omega) w1 (next_trans HB.out bb))
    clear bb L GOOD BAD
    go_wp2
    go_roundw
    case rel => exact F.out
    case measure => simp [intOf]; omega
  ·have F := hid (headSzK_end (e := 22) HN.out hlt hk hge hb)
   clear hge hb
   go_wp2
   go_ret
   exact F.out
theorem info_Int64SS : (Tryz.prog.info? 22).map (fun i => (i.zero, i.size, i.bytes)) = some (some (.slice none 0 0), 1, 24) := by kernel_rfl
theorem make_Int64SS (n : Nat) (hn : n ≤ 1048576) (W : World) : (Instr.makeSlice 31 (.int .i64 (n : Int)) (.int .i64 (n : Int))).run Tryz.prog W =
  .ok (.slice (some ⟨W.heap.size, 0, none⟩) n n) (W.alloc (.cells (madeCells #[.slice none 0 0] (n * 1)) 22)) := by
 obtain ⟨i0, hi, hz0, hz1, hz2⟩ := info_parts info_Int64SS
 have hr := run_make (P := Tryz.prog) W 31 22 i0 _ Tryz.underlying31 hi hz0 .i64 .i64 n n (by omega) (by omega) (by rw [hz2]; omega) (by omega)
 simpa [hz1, Value.cells] using hr
set_option maxHeartbeats 2000000 in
theorem toK_Int64SS (v : Value) (D : List (Dat sI)) (w : World) (h : Rd w w.heap.size sInt64SS [v] D) (hz : sz sInt64SS D ≤ 1048576) :
  Calls Tryz.prog 37 #[v] w (Copy1 w sInt64SS D) := by
 obtain ⟨A, c, rfl, hcap⟩ := h.slice
 obtain ⟨n, hn⟩ : ∃ n, D.length = n := ⟨_, rfl⟩
 have hn1 : n ≤ 1048576 := by rw [← hn]; exact sz_len hz
 rw [hn] at h hcap ⊢
 have HN := hid hn
 have H := hid h
 have HZ := hid hz
 clear hcap hn h hz
 have hmk := make_Int64SS n hn1
 have S0 := hid (headCp_zero (s := sI) (e := 22) (w := w) (n := n) (D := D) (cs := madeCells #[.slice none 0 0] (n * 1)) (size_madeCells _ _))
 go_enter Tryz.func37, Tryz.ntmps37
 go_wp2
 clear hmk
 go_loopw [4] (fun i wr => HeadCp w 22 sI n D i wr) (fun i _ => n - (intOf i).toNat)
 case atStart => first | exact S0.out | (have h9 := S0.out; rw [Nat.mul_one] at h9; exact h9)
 case round =>
  obtain ⟨k, ks, E, G, hk, rfl, hr, hs, hnd, hi, hb⟩ := hrel
  clear S0
  by_cases hlt : k < n
  ·have hkD : k < D.length := by rw [HN.out]; exact hlt
   obtain ⟨b, off, n2, c2, es, ev, -, -, hbB, hel, hp, hrd⟩ := H.out.elem hkD
   injection ev with e1 e2 e3
   subst e1 e2 e3
   obtain ⟨v0, rfl⟩ := List.length_eq_one_iff.1 hel
   have hpw := hp.keep (w' := wr) (fun p hp => hb.cell (p := p) (by rw [hp]; exact hbB))
   have c0 : wr.cell? ⟨b, off + k, none⟩ = some (v0) := by simpa [nc] using hpw 0 (by simp)
   have L := hid (toK_ints _ (D.getD k (dft sI)) wr ((hrd.below hb).more hb.size) (sz_each HZ.out hkD))
   have R := hid (fun w1 xA0 xn0 xc0 ho bb => headCp_step (w1 := w1) (es := [.slice xA0 xn0 xc0]) hlt hr hs hnd hi hb ho bb)
   have rr := hr
   have hsz : ks.size = n * 1 := hs
   have HS := hid hsz
   clear hr hs hnd hi hb hrd hel hp hpw hsz
   go_wp2_with fail
   refine L.out.mono ?_
   rintro e w1 ⟨xA0, xn0, xc0, rfl, ho, bb⟩
   have S := hid (R.out w1 xA0 xn0 xc0 ho bb)
   have rr1 := rr.next bb
   obtain ⟨u0, hu0⟩ : ∃ u, w1.cell? ⟨w.heap.size, k, none⟩ = some u := ⟨_, (rr1.cell _).trans (Array.getElem?_eq_getElem (by rw [HS.out]; omega))⟩
   have hf0 : w1.frozen? ⟨w.heap.size, k, none⟩ = false := rr1.free _
   clear ho bb rr rr1 L R
   go_wp2
   go_roundw
   case rel => first | exact S.out | (have h9 := S.out; rw [show k * nc sI = k from Nat.mul_one k] at h9; exact h9)
   case measure => simp [intOf]; omega
  ·have e1 : k = n := by omega
   subst e1
   have F := hid (headCp_end HN.out hn1 hr hs hnd hi hb)
   clear hr hs hnd hi hb
   go_wp2
   go_ret
   exact F.out
set_option maxHeartbeats 2000000 in
theorem eqK_Int64SS (v u : Value) (D : List (Dat sI)) (w : World) (h : Rd w w.heap.size sInt64SS [v] D) (h' : Rd w w.heap.size sInt64SS [u] D) (hz : sz sInt64SS D ≤ 1048576) :
  Calls Tryz.prog 48 #[v, u] w (Yes w) := by
 obtain ⟨A, c, rfl, hcap⟩ := h.slice
 obtain ⟨A', c', rfl, hcap'⟩ := h'.slice
 obtain ⟨n, hn⟩ : ∃ n, D.length = n := ⟨_, rfl⟩
 have hn1 : n ≤ 1048576 := by rw [← hn]; exact sz_len hz
 rw [hn] at h h' hcap hcap' ⊢
 have HN := hid hn
 have H := hid h
 have H' := hid h'
 have HZ := hid hz
 clear hcap hcap' hn h h' hz
 go_enter Tryz.func48, Tryz.ntmps48
 go_wp2
 go_loopw [5] (fun i wr => ∃ k : Nat, k ≤ n ∧ i = .int .i64 k ∧ Below w.heap.size w wr) (fun i _ => n - (intOf i).toNat)
 case atStart => exact ⟨0, Nat.zero_le _, rfl, Below.refl _ _⟩
 case round =>
  obtain ⟨k, hk, rfl, hb⟩ := hrel
  by_cases hlt : k < n
  ·have hkD : k < D.length := by rw [HN.out]; exact hlt
   obtain ⟨b, off, n2, c2, es, ev, -, -, hbB, hel, hp, hrd⟩ := H.out.elem hkD
   injection ev with e1 e2 e3
   subst e1 e2 e3
   obtain ⟨b', off', n2, c2, es', ev, -, -, hbB', hel', hp', hrd'⟩ := H'.out.elem hkD
   injection ev with e1 e2 e3
   subst e1 e2 e3
   obtain ⟨v0, rfl⟩ := List.length_eq_one_iff.1 hel
   obtain ⟨u0, rfl⟩ := List.length_eq_one_iff.1 hel'
   replace hb := hb.drew
   have hpw := hp.keep (w' := wr.drew) (fun p hp => hb.cell (p := p) (by rw [hp]; exact hbB))
   have hpw' := hp'.keep (w' := wr.drew) (fun p hp => hb.cell (p := p) (by rw [hp]; exact hbB'))
   have c0 : wr.drew.cell? ⟨b, off + k, none⟩ = some (v0) := by simpa [nc] using hpw 0 (by simp)
   have c0' : wr.drew.cell? ⟨b', off' + k, none⟩ = some (u0) := by simpa [nc] using hpw' 0 (by simp)
   have L := hid (eqK_ints _ _ (D.getD k (dft sI)) wr.drew ((hrd.below hb).more hb.size) ((hrd'.below hb).more hb.size) (sz_each HZ.out hkD))
   have HB := hid hb
   have hlb : b < wr.drew.heap.size := Nat.lt_of_lt_of_le hbB hb.size
   have hlb' : b' < wr.drew.heap.size := Nat.lt_of_lt_of_le hbB' hb.size
   clear hrd hrd' hel hel' hp hp' hpw hpw' hb
   go_wp2_with fail
   go_region_held3 (fun w' => w'.cell? ⟨b, off + k, none⟩ = some (v0) ∧ w'.cell? ⟨b', off' + k, none⟩ = some (u0))
    (go_keep)
    (first | (go_at_call 23; refine L.out.mono ?_; rintro e w1 ⟨rfl, bb⟩; have m0 := (bb.cell (p := ⟨b, off + k, none⟩) hlb).trans c0; have m1 := (bb.cell (p := ⟨b', off' + k, none⟩) hlb').trans c0'))
   have HB1 := hid (next_trans HB.out bb)
   clear bb L c0 c0' m0 m1
   go_wp2
   go_roundw
   case rel => exact ⟨k + 1, hlt, by simp, HB1.out⟩
   case measure => simp [intOf]; omega
  ·have HB := hid hb
   clear hb
   go_wp2
   go_ret
   exact ⟨rfl, HB.out⟩
set_option maxHeartbeats 2000000 in
theorem markK_Int64SS (v : Value) (D : List (Dat sI)) (k : Int) (F : List Nat) (w : World) (h : Ow w sInt64SS [v] D F) (hF : F.Nodup) (hz : sz sInt64SS D ≤ 1048576) (hk0 : 0 ≤ k) (hk : k + (cntv sInt64SS D : Int) ≤ 1099511627776) :
  Calls Tryz.prog 52 #[v, .int .i64 k] w (AnsMarkF w sInt64SS [v] D k F) := by
 obtain ⟨A, c, rfl, hcap⟩ := h.rd.slice
 have hn1 := sz_len hz
 obtain ⟨n, hn⟩ : ∃ n, D.length = n := ⟨_, rfl⟩
 rw [hn] at h hcap hn1 ⊢
 have HN := hid hn
 have HZ := hid hz
 have S0 := hid (headMk_zero (k := k) h)
 clear h hcap hn hz
 go_enter Tryz.func52, Tryz.ntmps52
 go_wp2
 go_loopw [1, 5] (fun kk i wr => HeadMk w 22 sI (.slice A n c) D k F kk i wr) (fun _ i _ => n - (intOf i).toNat)
 case atStart => first | exact S0.out | (have h9 := S0.out; rw [Nat.mul_one] at h9; exact h9)
 case round =>
  obtain ⟨j, hj, rfl, rfl, ho, hb⟩ := hrel
  clear S0
  rw [HN.out] at hj
  by_cases hlt : j < n
  ·have hjD : j < D.length := by rw [HN.out]; exact hlt
   obtain ⟨g, n2, c2, es, Gj, ev, -, hel, hp, hg, oe, ng, gG, sub, R⟩ := ho.elem' hF (j := j) (by rw [mixed_len]; exact hjD)
   injection ev with e1 e2 e3
   subst e1 e2 e3
   rw [mixed_get hjD] at oe
   obtain ⟨v0, rfl⟩ := List.length_eq_one_iff.1 hel
   have o0 := oe
   have g0 : g ∉ Gj := fun hb => gG (hb)
   have sub0 : ∀ x ∈ Gj, x ∈ Gj := fun x hb => hb
   obtain ⟨z0, hz0⟩ : ∃ z, cntv sI ((D.getD j (dft sI))) = z := ⟨_, rfl⟩
   have hzz : cnt sI (D.getD j (dft sI)) = z0 := by rw [← hz0]; rfl
   have hcn := headMk_cnt (e := 22) hjD
   rw [hzz] at hcn
   obtain ⟨q, hq⟩ : ∃ q, k + (cnts sI D j : Int) = q := ⟨_, rfl⟩
   have q0 : 0 ≤ q := by omega
   have q1 : q + (z0 : Int) ≤ 1099511627776 := by have : (cntv sInt64SS D : Int) = (cntv (.row 22 sI) D : Nat) := rfl; omega
   have Z0 : Hid (sz sI ((D.getD j (dft sI))) ≤ 1048576) := hid (sz_each HZ.out hjD)
   have HZ0 := hid hz0
   rw [hq]
   have HEF : Hid (Gj = Gj) := hid (by rfl)
   have HR := hid R
   have HB := hid hb
   have HQ := hid hq
   have HZZ := hid hzz
   have SUB := hid sub
   have on : Only Gj wr wr := Only.refl _ _
   have c0 : wr.cell? ⟨g, j, none⟩ = some (v0) := by simpa [nc] using hp 0 (by simp)
   clear R hb hq hzz hcn ho oe sub hp hel gG hz0 
   go_wp2_with fail
   refine (markK_ints _ _ q Gj _ o0 Z0.out (by omega) (by omega)).mono ?_
   rintro e w1 ⟨he, o0, on0⟩
   rw [HZ0.out] at he
   have hgl : g < wr.heap.size := Nat.lt_of_lt_of_le hg on.size
   replace c0 := (World.cell?_of_block (a := ⟨g, j, none⟩) (on0.block g hgl g0)).trans c0
   replace on := on.trans (on0.wider sub0)
   clear on0 hgl
   obtain ⟨k0, hk0⟩ : ∃ l, q + (z0 : Int) = l := ⟨_, rfl⟩
   rw [hk0] at he
   have l0 : 0 ≤ k0 := by omega
   have u0 : k0  ≤ 1099511627776 := by omega
   subst he
   have HK0 := hid hk0
   clear hk0
   have S : HeadMk w 22 sI (.slice (some ⟨g, 0, none⟩) n c) D k F (.int .i64 k0) (.int .i64 ((j : Int) + 1)) w1 := by
    have h1 := HR.out w1 (mkc sI q (D.getD j (dft sI))) (by exact o0) on
    have h2 := headMk_step (z := z0) hjD HB.out (on.wider SUB.out) HZZ.out (by rw [HQ.out]) h1
    have h3 : k + (cnts sI D j : Int) + ((z0 : Nat) : Int) = k0 := by have := HQ.out; have := HK0.out; omega
    rw [h3] at h2
    exact h2
   have HS := hid S
   clear S on o0 c0 
   go_wp2
   go_roundw
   case rel => exact HS.out
   case measure => simp [intOf]; omega
  ·have F1 := hid (headMk_end (by rw [HN.out]; exact hlt) (by rw [HN.out]; exact hj) ho hb)
   clear ho hb
   generalize cnts sI D j = z at *
   go_wp2
   go_ret
   exact F1.out
abbrev sSubst : Sh := sInt64SS
theorem cells_Subst {w : World} {B : Nat} {es : List Value} {d : Dat sSubst} (h : Rd w B sSubst es d) : ∃ (v0 : Value), es = [v0] := by
 obtain ⟨A0, n0, c0, z0, -⟩ := h
 exact ⟨.slice A0 n0 c0, by rw [z0] <;> rfl⟩
set_option maxHeartbeats 2000000 in
theorem szK_Subst (v0 : Value) (d : Dat sSubst) (left : Int) (w : World) (h : Rd w w.heap.size sSubst [v0] d) (h0 : 0 ≤ left) (h1 : left ≤ 1048576) :
  Calls Tryz.prog 7 #[.agg #[v0], .int .i64 left] w (AnsSzK w left (sz sSubst d)) := by
 have g0 := h
 obtain ⟨t0, ht0⟩ : ∃ t, sz sInt64SS d = t := ⟨_, rfl⟩
 have HE : Hid (sz sSubst d = t0) := hid (by rw [← ht0]; try rfl)
 have HT0 := hid ht0
 have G0 := hid g0
 obtain ⟨W, hW⟩ : ∃ W, W = w.alloc (.cells #[v0] 33) := ⟨_, rfl⟩
 have r : Row W w.heap.size 33 #[v0] := by rw [hW]; exact Row.new _ _ _
 have bel : Below w.heap.size w W := by rw [hW]; exact (Below.refl _ _).alloc (Nat.le_refl _) _
 have HW := hid hW
 clear hW h g0 ht0
 go_enter Tryz.func7, Tryz.ntmps7
 go_wp2_with fail
 rw [← HW.out]
 refine (szK_Int64SS _ _ left W (G0.out.next bel) h0 h1).mono ?_
 rintro e w1 ⟨he, bb⟩
 rw [HT0.out] at he
 replace r := r.next bb
 replace bel := next_trans bel bb
 clear bb
 by_cases q0 : left - (t0 : Int) < 0
 ·rw [if_pos q0] at he
  subst he
  have F : AnsSzK w left (sz sSubst d) (.returned (.int .i64 (-1))) w1 := ⟨by rw [HE.out, if_pos (by omega)], bel⟩
  have HF := hid F
  clear F bel r
  go_wp2
  go_ret
  exact HF.out
 rw [if_neg q0] at he
 obtain ⟨l0, hl0⟩ : ∃ l, left - (t0 : Int) = l := ⟨_, rfl⟩
 rw [hl0] at he
 have a0 : 0 ≤ l0 := by omega
 have b0 : l0 ≤ 1048576 := by omega
 have HL0 := hid hl0
 clear hl0 q0
 subst he
 have F : AnsSzK w left (sz sSubst d) (.returned (.int .i64 l0)) w1 := ⟨by have := HL0.out; rw [HE.out, if_neg (by omega)]; exact congrArg (fun z => Ending.returned (.int .i64 z)) (by omega), bel⟩
 have HF := hid F
 clear F bel r
 go_wp2
 go_ret
 exact HF.out
def CopySubst (w : World) (d : Dat sSubst) (e : Ending) (w' : World) : Prop := ∃ A0 n0 c0, e = .returned (.agg #[.slice A0 n0 c0]) ∧ Owned w' w.heap.size w'.heap.size sSubst [.slice A0 n0 c0] d ∧ Below w.heap.size w w'
set_option maxHeartbeats 2000000 in
theorem toK_Subst (v0 : Value) (d : Dat sSubst) (w : World) (h : Rd w w.heap.size sSubst [v0] d) (hz : sz sSubst d ≤ 1048576) :
  Calls Tryz.prog 11 #[.agg #[v0]] w (CopySubst w d) := by
 have g0 := h
 have cp0 := CpS.zero w 33 48 #[v0] #[.slice none 0 0]
 obtain ⟨W, hW⟩ : ∃ W, W = ((w.alloc (.cells #[v0] 33)).alloc (.cells #[.slice none 0 0] 48)).alloc (.cells #[.slice none 0 0] 48) := ⟨_, rfl⟩
 rw [← hW] at cp0
 have HW := hid hW
 have G0 := hid g0
 have Z0 : Hid (sz sInt64SS d ≤ 1048576) := hid (hz)
 clear hW hz h g0
 go_enter Tryz.func11, Tryz.ntmps11
 go_wp2_with fail
 rw [← HW.out]
 refine (toK_Int64SS _ _ _ ((G0.out.below cp0.bel).more cp0.bel.size) Z0.out).mono ?_
 rintro e w1 ⟨x0A0, x0n0, x0c0, rfl, o0, bb⟩
 have zb0 := bb.size
 have zc0 := cp0.size
 replace cp0 := cp0.next bb
 clear bb
 have f0_0 : w1.frozen? ⟨w.heap.size + 1 + 1, 0, none⟩ = false := cp0.cur.free 0
 have k0_0 : w1.cell? ⟨w.heap.size + 1 + 1, 0, none⟩ = some (.slice none 0 0) := cp0.cur.cell 0
 obtain ⟨w2, hw0⟩ : ∃ x, x = (w1.setCell ⟨w.heap.size + 1 + 1, 0, none⟩ (.slice x0A0 x0n0 x0c0)) := ⟨_, rfl⟩
 replace o0 := o0.put (g := w.heap.size + 1 + 1) (i := 0) (u := .slice x0A0 x0n0 x0c0) (by omega)
 rw [← hw0] at o0
 replace cp0 : CpS w 33 48 #[v0] #[.slice none 0 0] #[.slice x0A0 x0n0 x0c0] w2 := by rw [hw0]; exact (CpS.put cp0 0 (.slice x0A0 x0n0 x0c0))
 have zw0 : w2.heap.size = w1.heap.size := by rw [hw0]; simp
 have HW0 := hid hw0
 clear hw0
 have y0 : w2.cell? ⟨w.heap.size + 1 + 1, 0, none⟩ = some (.slice x0A0 x0n0 x0c0) := cp0.cur.cell 0
 rw [HW0.out] at y0
 have s0 : (w2).cell? ⟨w.heap.size + 1, 0, none⟩ = some (.slice none 0 0) := cp0.res.cell 0
 rw [HW0.out] at s0
 have r0 : (w2).frozen? ⟨w.heap.size + 1, 0, none⟩ = false := cp0.res.free 0
 rw [HW0.out] at r0
 have oo : Owned w2 (w.heap.size + 1 + 1 + 1) w2.heap.size sSubst [.slice x0A0 x0n0 x0c0] d := o0.wider (by omega) (by omega)
 have F : CopySubst w d (.returned (.agg #[.slice x0A0 x0n0 x0c0])) (w2.setCell ⟨w.heap.size + 1, 0, none⟩ (.slice x0A0 x0n0 x0c0)) := ⟨x0A0, x0n0, x0c0, rfl, Owned.wider ((oo.put (g := w.heap.size + 1) (i := 0) (u := .slice x0A0 x0n0 x0c0) (by omega))) (by omega) (by simp), ((CpS.fin cp0 0 (.slice x0A0 x0n0 x0c0))).bel⟩
 have u0 : ((w2.setCell ⟨w.heap.size + 1, 0, none⟩ (.slice x0A0 x0n0 x0c0))).cell? ⟨w.heap.size + 1, 0, none⟩ = some (.slice x0A0 x0n0 x0c0) := (CpS.fin cp0 0 (.slice x0A0 x0n0 x0c0)).res.cell 0
 rw [HW0.out] at u0
 rw [HW0.out] at F
 have HF := hid F
 clear F oo cp0 o0
 go_wp2
 exact bodyPost_ret (v := .agg #[.slice x0A0 x0n0 x0c0]) (by simp [results, Tryz.results11, go_sem, u0]) rfl HF.out
set_option maxHeartbeats 2000000 in
theorem eqK_Subst (v0 u0 : Value) (d : Dat sSubst) (w : World) (h : Rd w w.heap.size sSubst [v0] d) (h' : Rd w w.heap.size sSubst [u0] d) (hz : sz sSubst d ≤ 1048576) :
  Calls Tryz.prog 15 #[.agg #[v0], .agg #[u0]] w (Yes w) := by
 have g0 := h
 have g0' := h'
 obtain ⟨W, hW⟩ : ∃ W, W = (w.alloc (.cells #[v0] 48)).alloc (.cells #[u0] 48) := ⟨_, rfl⟩
 have ra : Row W w.heap.size 48 #[v0] := by rw [hW]; exact (Row.new w 48 #[v0]).alloc _
 have rb : Row W (w.heap.size + 1) 48 #[u0] := by rw [hW]; have := Row.new (w.alloc (.cells #[v0] 48)) 48 #[u0]; simpa using this
 have bel : Below w.heap.size w W := by rw [hW]; exact ((Below.refl _ _).alloc (Nat.le_refl _) _).alloc (by simp) _
 have HW := hid hW
 have G0 := hid g0
 have G0' := hid g0'
 have Z0 : Hid (sz sInt64SS d ≤ 1048576) := hid (hz)
 clear hW hz h h' g0 g0'
 go_enter Tryz.func15, Tryz.ntmps15
 go_wp2_with fail
 rw [← HW.out]
 refine (eqK_Int64SS _ _ _ W (G0.out.next bel) (G0'.out.next bel) Z0.out).mono ?_
 rintro e w1 ⟨rfl, bb⟩
 replace ra := ra.next bb
 replace rb := rb.next bb
 replace bel := next_trans bel bb
 clear bb
 have F : Yes w (.returned (.bool true)) w1 := ⟨rfl, bel⟩
 have HF := hid F
 clear F ra rb bel
 go_wp2
 go_ret
 exact HF.out
set_option maxHeartbeats 2000000 in
theorem markK_Subst (v0 : Value) (d : Dat sSubst) (k : Int) (F : List Nat) (w : World) (h : Ow w sSubst [v0] d F) (hF : F.Nodup) (hz : sz sSubst d ≤ 1048576) (hk0 : 0 ≤ k) (hk : k + (cntv sSubst d : Int) ≤ 1099511627776) :
  Calls Tryz.prog 18 #[.agg #[v0], .int .i64 k] w (AnsMarkF w sSubst [v0] d k F) := by
 have hlt := h.lt
 have o0 := h
 obtain ⟨z0, hz0⟩ : ∃ z, cntv sInt64SS d = z := ⟨_, rfl⟩
 have hc : (cntv sSubst d : Int) = (z0 : Int) := by rw [← hz0]; try rfl
 have Z0 : Hid (sz sInt64SS d ≤ 1048576) := hid (hz)
 have HZ0 := hid hz0
 have HC := hid hc
 rw [hc] at hk
 obtain ⟨W, hW⟩ : ∃ W, W = w.alloc (.cells #[v0] 48) := ⟨_, rfl⟩
 have r : Row W w.heap.size 48 #[v0] := by rw [hW]; exact Row.new _ _ _
 have bel : Below w.heap.size w W := by rw [hW]; exact (Below.refl _ _).alloc (Nat.le_refl _) _
 replace o0 := o0.next bel
 have nb0 : w.heap.size ∉ F := fun hb => by have := hlt _ hb; omega
 have sub0 : ∀ x ∈ F, x ∈ F := fun x hb => hb
 have on : Only F w W := Only.of_below bel
 have HW := hid hW
 have HEF : Hid (F = F) := hid (by rfl)
 clear hW h hz hc bel hlt hz0 
 go_enter Tryz.func18, Tryz.ntmps18
 go_wp2_with fail
 rw [← HW.out]
 refine (markK_Int64SS _ _ k F _ o0 hF Z0.out (by omega) (by rw [HZ0.out]; omega)).mono ?_
 rintro e w1 ⟨he, o0, on0⟩
 rw [HZ0.out] at he
 replace r := Row.only r on0 nb0
 replace on := on.trans (on0.wider sub0)
 clear on0
 obtain ⟨k0, hk0⟩ : ∃ l, k + (z0 : Int) = l := ⟨_, rfl⟩
 rw [hk0] at he
 have l0 : 0 ≤ k0 := by omega
 have u0 : k0  ≤ 1099511627776 := by omega
 subst he
 have HK0 := hid hk0
 clear hk0
 have F1 : AnsMarkF w sSubst [v0] d k F (.returned (.int .i64 k0)) w1 := by
  refine ⟨congrArg (fun z => Ending.returned (.int .i64 z)) ?_, ?_, on⟩
  ·rw [HC.out]; have := HK0.out; omega
  ·skip
   exact o0
 have HF := hid F1
 clear F1 on r o0
 go_wp2
 go_ret
 exact HF.out
end kindsT
end
section
namespace und
open Go.RowKit base ints sig term termOk termFacts segs segsHelp shape kindsT fillMath gives filled substOk sub putMath ruleMath stepMath walkMath walkSpec
theorem rd_subst {w : World} {B : Nat} {v : Value} {ss : Dat sSubst} (h : Rd w B sSubst [v] ss) (hz : sz sSubst ss ≤ 1048576) : ∃ S m c, v = .slice S m c ∧ Segs w B S m ss ∧ tot ss ≤ 1048576 ∧ m ≤ 1048576 := by
 obtain ⟨A, n, c, e, hcap, hl, hc⟩ := h
 injection e with e
 have ht : tot ss = sz sSubst ss := by
  show ss.length + ((ss.take ss.length).map List.length).sum = ss.length + (ss.map (sz sI)).sum
  rw [List.take_length]
  congr 2
  refine List.map_congr_left fun x _ => ?_
  rw [sz_ints]
 have hl' : List.length ss = n := hl
 refine ⟨A, n, c, e, ⟨hl, fun hn => ?_⟩, by rw [ht]; exact hz, tot_len hl' (by rw [ht]; exact hz)⟩
 obtain ⟨b, off, eA, hb, hj⟩ := hc hn
 refine ⟨b, off, eA, hb, fun j hjn => ?_⟩
 obtain ⟨es, hel, hp, hr⟩ := hj j hjn
 obtain ⟨x, rfl⟩ := List.length_eq_one_iff.1 (show es.length = 1 from hel)
 obtain ⟨A', n', c', rfl, hs, hcp⟩ := rd_ints.1 hr
 have h0 := hp 0 (by simp)
 rw [show j * nc sI = j from Nat.mul_one j] at h0
 exact ⟨A', n', c', h0, hs, hcp⟩
def mvd (M : Nat → List Int) (s : St) : Int := ((fillL M (s.2.2.take s.1.toNat)).length : Int)
def undL (M : Nat → List Int) (L : List St) : List St := L.map fun s => (mvd M s, s.2.1, fillL M s.2.2)
def nowT (t : List Int) (L : List St) : Nat → List Int
 | 0 => t
 | j + 1 => (L.getD j (0, 0, [])).2.2
theorem put_pre {sg t u : List Int} {a : Nat} (ha : a < t.length) : (putAt sg t u a).take a = t.take a ∧ a ≤ (putAt sg t u a).length := by
 unfold putAt putL
 have h1 : (t.take a).length = a := by rw [List.length_take]; omega
 refine ⟨?_, by simp only [List.length_append]; omega⟩
 rw [List.take_append_of_le_length (by omega), List.take_of_length_le (by omega)]
theorem step_pre {sg : List Int} {x : Rl} {t v : List Int} {a : Nat} (ha : a < t.length) (h : stepO sg x t a = some v) : v.take a = t.take a ∧ a ≤ v.length := by
 unfold stepO at h
 split at h
 ·cases h
 ·split at h
  ·injection h with h
   subst h
   exact put_pre ha
  ·cases h
theorem now_pre {sg : List Int} {rs : List Rl} : ∀ {L : List St} {t v : List Int} {i : Nat} {y : St}, goOn sg rs t L = some v → termOkB sg t = true → i < L.length → L.getD i (0, 0, []) = y → (0 ≤ y.1 ∧ y.1 < (nowT t L i).length) ∧ y.2.2.take y.1.toNat = (nowT t L i).take y.1.toNat ∧ y.1.toNat ≤ y.2.2.length ∧ termOkB sg (nowT t L i) = true
 | [], _, _, _, _, _, _, hi, _ => absurd hi (Nat.not_lt_zero _)
 | x :: L, t, v, 0, y, h, ht, _, hy => by
  obtain ⟨h1, _⟩ := go_cons.1 h
  obtain ⟨q1, q2⟩ := stepAt_parts h1
  obtain ⟨-, -, r3, -⟩ := walkMath.there_parts q1
  have hy : x = y := hy
  subst hy
  obtain ⟨e1, e2⟩ := step_pre (show x.1.toNat < t.length by omega) q2
  exact ⟨r3, e1, e2, ht⟩
 | x :: L, t, v, i + 1, y, h, ht, hi, hy => by
  obtain ⟨h1, h2⟩ := go_cons.1 h
  have hx : termOkB sg x.2.2 = true := (go_ok ht h).2 x (List.mem_cons_self ..)
  have hn : nowT t (x :: L) (i + 1) = nowT x.2.2 L i := by cases i <;> rfl
  rw [hn]
  exact now_pre h2 hx (by simpa using hi) hy
theorem und_take {M : Nat → List Int} {i : Nat} {L : List St} {xa xr : Int} {ys : List Int} (hi : i < L.length) (hy : L.getD i (0, 0, []) = (xa, xr, ys)) : undL M (L.take i) ++ [(mvd M (xa, xr, ys), xr, fillL M ys)] = undL M (L.take (i + 1)) := by
 have e := take_step hi hy
 unfold undL
 rw [← e, List.map_append]
 rfl
theorem und_len60 {M : Nat → List Int} {i : Nat} {L : List St} (h : L.length ≤ 60) : (undL M (L.take i)).length ≤ 60 := by unfold undL; rw [List.length_map, List.length_take]; omega
def undB (sg : List Int) (rs : List Rl) (k : Wk) (ss : List (List Int)) : Bool := (walkB sg rs k && substOkB sg ss) && (fitsB ss k.1 && k.2.all fun s => fitsB ss s.2.2)
def undW (sg : List Int) (rs : List Rl) (k : Wk) (ss : List (List Int)) : Wk := if undB sg rs k ss = true then (fillL (givesL ss) k.1, undL (givesL ss) k.2) else ([], [])
section
variable {sg : List Int} {rs : List Rl} {k : Wk} {ss : List (List Int)}
theorem und_off (h : undB sg rs k ss = false) : undW sg rs k ss = ([], []) ∧ undB sg rs k ss = false := ⟨by unfold undW; rw [if_neg (by rw [h]; simp)], h⟩
theorem und_no1 (h : walkB sg rs k = false) : undW sg rs k ss = ([], []) ∧ undB sg rs k ss = false := und_off (by unfold undB; rw [h]; rfl)
theorem und_no2 (h : substOkB sg ss = false) : undW sg rs k ss = ([], []) ∧ undB sg rs k ss = false := und_off (by unfold undB; rw [h, Bool.and_false]; rfl)
theorem und_no3 (h : fitsB ss k.1 = false) : undW sg rs k ss = ([], []) ∧ undB sg rs k ss = false := und_off (by unfold undB; rw [h]; simp)
theorem und_no4 {i : Nat} {y : St} (hi : i < k.2.length) (hy : k.2.getD i (0, 0, []) = y) (h : fitsB ss y.2.2 = false) : undW sg rs k ss = ([], []) ∧ undB sg rs k ss = false := und_off (by
 unfold undB
 have : (k.2.all fun s => fitsB ss s.2.2) = false := by
  rw [List.all_eq_false]
  refine ⟨y, ?_, by rw [h]; simp⟩
  rw [← hy]
  simp [List.getD, hi]
 rw [this]; simp)
theorem und_yes (h1 : walkB sg rs k = true) (h2 : substOkB sg ss = true) (h3 : fitsB ss k.1 = true) (h4 : ∀ i, i < k.2.length → fitsB ss (k.2.getD i (0, 0, [])).2.2 = true) : undW sg rs k ss = (fillL (givesL ss) k.1, undL (givesL ss) k.2) ∧ undB sg rs k ss = true := by
 have h : undB sg rs k ss = true := by
  unfold undB
  rw [h1, h2, h3]
  have : (k.2.all fun s => fitsB ss s.2.2) = true := by
   rw [List.all_eq_true]
   intro s hs
   obtain ⟨i, hi, rfl⟩ := List.getElem_of_mem hs
   have := h4 i hi
   have e : k.2.getD i (0, 0, []) = k.2[i] := by simp only [List.getD, List.getElem?_eq_getElem hi, Option.getD_some]
   rwa [e] at this
  rw [this]; rfl
 exact ⟨by unfold undW; rw [if_pos h], h⟩
end
end und
end
section
namespace undX
open Go.RowKit base sig term termOk termFacts segs shape kindsR kindsW ruleMath stepMath walkMath walkSpec walkX fillMath gives filled und
theorem fits_len {ss : List (List Int)} {t : List Int} (h : fitsB ss t = true) : (fillL (givesL ss) t).length ≤ 60 := of_decide_eq_true h
theorem und_sz {sg : List Int} {rs : List Rl} {k : Wk} {ss : List (List Int)} : sz sWalk (undW sg rs k ss) ≤ 1048576 := by
 cases h : undB sg rs k ss with
 | false => rw [(und_off h).1]; exact zero_sz
 | true =>
  have h0 := h
  unfold undB at h
  simp only [Bool.and_eq_true, List.all_eq_true] at h
  obtain ⟨⟨h1, h2⟩, h4, h5⟩ := h
  unfold undW
  rw [if_pos h0]
  refine walk_sz (fits_len h4) (by show (undL (givesL ss) k.2).length ≤ 60; unfold undL; rw [List.length_map]; exact (walk_parts h1).2.2.1) (fun s hs => ?_)
  have hs : s ∈ undL (givesL ss) k.2 := hs
  unfold undL at hs
  obtain ⟨y, hy, rfl⟩ := List.mem_map.1 hs
  exact fits_len (h5 y hy)
end undX
end
section
open Go.Lib (hid)
open List (setIfInBounds_toArray set_cons_zero set_cons_succ getElem_toArray getElem_cons_zero getElem_cons_succ)
namespace walkImpl
open Go.RowKit base ints sig term termOk endAt endOf marks app sym sub segs segsHelp kinds termFacts same shifted shape drawX kindsR kindsW varsOf ruleMath ruleSpec stepMath walkMath stepSpec walkSpec ownL heldT
set_option maxRecDepth 100000
def Changes (g : Nat) (lb : Array Value) (w : World) (T : List Int → Prop) (f : List Int → List Int) (ok : List Int → Bool) : Prop := ∀ (W : World) (U : Option Addr) (un uc : Nat) (y : List Int), Below w.heap.size w W → Rd W W.heap.size sI [.slice U un uc] y → T y →
 Calls Tryz.prog g (#[.slice U un uc] ++ lb) W (AnsPairO W (if ok y = true then f y else []) (ok y))
def Places (g : Nat) (lb : Array Value) (w : World) (T : St → Prop) (pl : St → Int) : Prop := ∀ (W : World) (xa xr : Int) (U : Option Addr) (un uc : Nat) (ys : List Int), Below w.heap.size w W → Rd W W.heap.size sI [.slice U un uc] ys → T (xa, xr, ys) →
 Calls Tryz.prog g (#[.agg #[.int .i64 xa, .int .i64 xr, .slice U un uc]] ++ lb) W fun e w' => e = .returned (.int .i64 (pl (xa, xr, ys))) ∧ Below W.heap.size W w'
def carB (ok : List Int → Bool) (k : Wk) : Bool := ok k.1 && k.2.all fun s => ok s.2.2
def carS (f : List Int → List Int) (pl : St → Int) (L : List St) : List St := L.map fun s => (pl s, s.2.1, f s.2.2)
def carW (f : List Int → List Int) (ok : List Int → Bool) (pl : St → Int) (k : Wk) : Wk := if carB ok k = true then (f k.1, carS f pl k.2) else ([], [])
section
variable {f : List Int → List Int} {ok : List Int → Bool} {pl : St → Int} {k : Wk}
theorem car_off (h : carB ok k = false) : carW f ok pl k = ([], []) ∧ carB ok k = false := ⟨by unfold carW; rw [if_neg (by rw [h]; simp)], h⟩
theorem car_no1 (h : ok k.1 = false) : carW f ok pl k = ([], []) ∧ carB ok k = false := car_off (by unfold carB; rw [h]; rfl)
theorem car_no2 {i : Nat} {y : St} (hi : i < k.2.length) (hy : k.2.getD i (0, 0, []) = y) (h : ok y.2.2 = false) : carW f ok pl k = ([], []) ∧ carB ok k = false := car_off (by
 unfold carB
 have : (k.2.all fun s => ok s.2.2) = false := by
  rw [List.all_eq_false]
  refine ⟨y, ?_, by rw [h]; simp⟩
  rw [← hy]
  simp [List.getD, hi]
 rw [this, Bool.and_false])
theorem car_yes (h1 : ok k.1 = true) (h2 : ∀ i, i < k.2.length → ok (k.2.getD i (0, 0, [])).2.2 = true) : carW f ok pl k = (f k.1, carS f pl k.2) ∧ carB ok k = true := by
 have h : carB ok k = true := by
  unfold carB
  rw [h1, Bool.true_and, List.all_eq_true]
  intro s hs
  obtain ⟨i, hi, rfl⟩ := List.getElem_of_mem hs
  have := h2 i hi
  have e : k.2.getD i (0, 0, []) = k.2[i] := by simp only [List.getD, List.getElem?_eq_getElem hi, Option.getD_some]
  rwa [e] at this
 exact ⟨by unfold carW; rw [if_pos h], h⟩
theorem car_take {i : Nat} {L : List St} {xa xr : Int} {ys : List Int} (hi : i < L.length) (hy : L.getD i (0, 0, []) = (xa, xr, ys)) : carS f pl (L.take i) ++ [(pl (xa, xr, ys), xr, f ys)] = carS f pl (L.take (i + 1)) := by
 have e := take_step hi hy
 unfold carS
 rw [← e, List.map_append]
 rfl
theorem car_len {i : Nat} {L : List St} (h : L.length ≤ 60) : (carS f pl (L.take i)).length ≤ 60 := by unfold carS; rw [List.length_map, List.length_take]; omega
end
structure Ca (w : World) (a b : Value) (B : Nat) (X O : Option Addr) (xn xc on oc : Nat) (fr : List Int) (L : List St) (wr : World) : Prop where
 r0 : Row wr w.heap.size 39 #[a, b]
 r1 : Row wr (w.heap.size + 1) 39 #[.slice none 0 0, .slice none 0 0]
 r3 : Row wr B 39 #[.slice X xn xc, .slice O on oc]
 x : Ownd wr (w.heap.size + 1 + 1) B X xn xc fr
 o : OwnL wr (B + 1) wr.heap.size 71 sStep O on oc L
 b : Below w.heap.size w wr
 z : w.heap.size + 1 + 1 ≤ B
theorem Ca.next {w wr w' : World} {a b : Value} {B : Nat} {X O : Option Addr} {xn xc on oc : Nat} {fr : List Int} {L : List St} (h : Ca w a b B X O xn xc on oc fr L wr) (hb : Below wr.heap.size wr w') : Ca w a b B X O xn xc on oc fr L w' :=
 ⟨h.r0.next hb, h.r1.next hb, h.r3.next hb, h.x.next hb, (h.o.next hb).wider (Nat.le_refl _) hb.size, next_trans h.b hb, h.z⟩
set_option maxHeartbeats 8000000 in
theorem carried (gC : Nat) (lbC : Array Value) (egC : ∀ args w, (callFunc gC args).run Tryz.prog w = .ok (.enter gC args) w) (gP : Nat) (lbP : Array Value) (egP : ∀ args w, (callFunc gP args).run Tryz.prog w = .ok (.enter gP args) w)
  (T : List Int → Prop) (T2 : St → Prop) (f : List Int → List Int) (ok : List Int → Bool) (pl : St → Int) (a b : Value) (k : Dat sWalk) (w : World) (h : Rd w w.heap.size sWalk [a, b] k) (hz : sz sWalk k ≤ 1048576) (h60 : List.length k.2 ≤ 60)
  (hC : Changes gC lbC w T f ok) (hP : Places gP lbP w T2 pl) (hT : T k.1) (hTs : ok k.1 = true → ∀ i, i < List.length k.2 → T (k.2.getD i (0, 0, [])).2.2 ∧ T2 (k.2.getD i (0, 0, []))) :
  Calls Tryz.prog 44 #[.agg #[a, b], .func (.func gC) #[] lbC, .func (.func gP) #[] lbP] w (AnsWalk w (carW f ok pl k) (carB ok k)) := by
 obtain ⟨F, fn, fc, S, sn, sc, rfl, rfl, hF, hcF, hfn, hsn0, hsn, hcS, hrF, hrS, hzF, hzS⟩ := rd_walk h hz
 obtain ⟨W, hW, r0, r1, bel⟩ : ∃ W, W = (w.alloc (.cells #[.slice F fn fc, .slice S sn sc] 39)).alloc (.cells #[.slice none 0 0, .slice none 0 0] 39) ∧ Row W w.heap.size 39 #[.slice F fn fc, .slice S sn sc] ∧ Row W (w.heap.size + 1) 39 #[.slice none 0 0, .slice none 0 0] ∧ Below w.heap.size w W := by
  refine ⟨_, rfl, (Row.new w _ _).alloc _, ?_, ((Below.refl _ _).alloc (Nat.le_refl _) _).alloc (by simp) _⟩
  have := Row.new (w.alloc (.cells #[.slice F fn fc, .slice S sn sc] 39)) 39 #[.slice none 0 0, .slice none 0 0]
  simpa using this
 have HW := hid hW
 have LC0 := hid (hC W F fn fc k.1 bel (hrF.next bel) hT)
 have HC := hid hC
 have HP := hid hP
 have HTS0 := hid hTs
 have HRS := hid hrS
 have HSN := hid hsn0
 have h60' : sn ≤ 60 := by rw [← hsn0]; exact h60
 obtain ⟨b0, hb0⟩ : ∃ b0, ok k.1 = b0 := ⟨_, rfl⟩
 have HB0 := hid hb0
 rw [hb0] at LC0
 clear hW h hz hF hcF hcS hrF hrS hzF hzS hsn0 hC hP hTs hb0
 cases b0 with
 | false =>
  go_enter Tryz.func44, Tryz.ntmps44
  go_wp2_with (go_at_fn gC; rw [← HW.out]; refine LC0.out.mono ?_; rintro e w3 ⟨X, xn, xc, rfl, oX, bb⟩; refine (?_ : Hid _).out)
  have j1 := r1.next bb
  have jb := next_trans bel bb
  refine hid ?_
  have y0 : w3.cell? ⟨w.heap.size + 1, 0, none⟩ = some (.slice none 0 0) := j1.cell 0
  have y1 : w3.cell? ⟨w.heap.size + 1, 1, none⟩ = some (.slice none 0 0) := j1.cell 1
  have g0 := j1.free 0
  have g1 := j1.free 1
  have ra := j1.put 0 (.slice none 0 0)
  have y2 : (w3.setCell ⟨w.heap.size + 1, 0, none⟩ (.slice none 0 0)).cell? ⟨w.heap.size + 1, 1, none⟩ = some (.slice none 0 0) := ra.cell 1
  have g2 := ra.free 1
  have rb := ra.put 1 (.slice none 0 0)
  have u0 : ((w3.setCell ⟨w.heap.size + 1, 0, none⟩ (.slice none 0 0)).setCell ⟨w.heap.size + 1, 1, none⟩ (.slice none 0 0)).cell? ⟨w.heap.size + 1, 0, none⟩ = some (.slice none 0 0) := rb.cell 0
  have u1 : ((w3.setCell ⟨w.heap.size + 1, 0, none⟩ (.slice none 0 0)).setCell ⟨w.heap.size + 1, 1, none⟩ (.slice none 0 0)).cell? ⟨w.heap.size + 1, 1, none⟩ = some (.slice none 0 0) := rb.cell 1
  have FZ : AnsWalk w (carW f ok pl k) (carB ok k) (.returned (.tuple #[.agg #[.slice none 0 0, .slice none 0 0], .bool false])) ((w3.setCell ⟨w.heap.size + 1, 0, none⟩ (.slice none 0 0)).setCell ⟨w.heap.size + 1, 1, none⟩ (.slice none 0 0)) := ansWalk_no (car_no1 HB0.out) (((jb).setCell (show w.heap.size ≤ w.heap.size + 1 by omega) _).setCell (show w.heap.size ≤ w.heap.size + 1 by omega) _)
  have HFZ := hid FZ
  clear FZ ra rb bb bel r0 r1 oX j1 jb
  go_wp2
  exact bodyPost_ret (v := .tuple #[.agg #[.slice none 0 0, .slice none 0 0], .bool false]) (by simp [results, Tryz.results44, go_sem, u0, u1]) rfl HFZ.out
 | true =>
  have HTS := hid (HTS0.out HB0.out)
  clear HTS0
  go_enter Tryz.func44, Tryz.ntmps44
  go_wp2_with (go_at_fn gC; rw [← HW.out]; refine LC0.out.mono ?_; rintro e w3 ⟨X, xn, xc, rfl, oX, bb⟩; refine (?_ : Hid _).out)
  have oX1 : Own w3 W.heap.size (.slice X xn xc) (f k.1) := oX
  have zX := bb.size
  have zW := r1.lt
  replace r0 := r0.next bb
  replace r1 := r1.next bb
  replace bel := next_trans bel bb
  have b4 : Below w3.heap.size w3 (w3.alloc (.cells #[.slice X xn xc, .slice none 0 0] 39)) := (Below.refl _ _).alloc (Nat.le_refl _) _
  obtain ⟨W4, hW4⟩ : ∃ W4, W4 = w3.alloc (.cells #[.slice X xn xc, .slice none 0 0] 39) := ⟨_, rfl⟩
  have HI0 := hid (show Ca w (.slice F fn fc) (.slice S sn sc) w3.heap.size X none xn xc 0 0 (f k.1) (carS f pl (k.2.take 0)) W4 from by
   rw [hW4]
   exact ⟨r0.next b4, r1.next b4, Row.new _ _ _, ((Ownd.of_own oX1).next b4).wider (by omega) (Nat.le_refl _), OwnL.nil _ _ _ _ _, next_trans bel b4, by omega⟩)
  have KS : (w3.alloc (.cells #[.slice X xn xc, .slice none 0 0] 39)).cell? ⟨w.heap.size, 1, none⟩ = some (.slice S sn sc) := (r0.next b4).cell 1
  have HW4 := hid hW4
  clear bb oX oX1 b4 r0 r1 bel hW4 LC0 HW
  refine hid ?_
  go_wp2_with fail
  rw [← HW4.out]
  clear HW4 KS
  generalize w3.heap.size = B at *
  go_loopg [30] sn (fun g i_ wr => ∃ (i on oc : Nat) (O : Option Addr), i_ = .int .i64 i ∧ i + g = sn ∧ (∀ j, j < i → ok (k.2.getD j (0, 0, [])).2.2 = true) ∧ Ca w (.slice F fn fc) (.slice S sn sc) B X O xn xc on oc (f k.1) (carS f pl (k.2.take i)) wr)
  case atStart => exact ⟨0, 0, 0, none, rfl, by omega, fun j hj => absurd hj (Nat.not_lt_zero _), HI0.out⟩
  case round =>
   clear HI0
   obtain ⟨i, on, oc, O, rfl, hg, hlow, J⟩ := hrel
   have HLOW := hid hlow
   have HG := hid hg
   clear hlow hg
   by_cases hi : i < sn
   ·obtain ⟨b, off, uu, x, hA, hb, ex, c0, c1, c2, hx2⟩ := rd_step HRS.out J.b HSN.out hi
    subst hA
    obtain ⟨xa, xr, ys⟩ := x
    obtain ⟨U, un, uc, rfl, hU, hcU⟩ := rd_ints.1 hx2
    have hil : i < k.2.length := by rw [HSN.out]; exact hi
    have hts := HTS.out i hil
    rw [ex.out] at hts
    have c0 : wr.cell? ⟨b, off + i * 3, none⟩ = some (.int .i64 xa) := c0
    have c1 : wr.cell? ⟨b, off + i * 3 + 1, none⟩ = some (.int .i64 xr) := c1
    obtain ⟨xb, hxb⟩ : ∃ xb, wr.heap.size = xb := ⟨_, rfl⟩
    obtain ⟨w1, hw1⟩ : ∃ w1, w1 = wr.alloc (.cells #[.int .i64 xa, .int .i64 xr, .slice U un uc] 71) := ⟨_, rfl⟩
    have b1 : Below wr.heap.size wr w1 := by rw [hw1]; exact (Below.refl _ _).alloc (Nat.le_refl _) _
    have J1 := J.next b1
    have rX : Row w1 xb 71 #[.int .i64 xa, .int .i64 xr, .slice U un uc] := by rw [hw1, ← hxb]; exact Row.new _ _ _
    have hUr : Rd w1 w1.heap.size sI [.slice U un uc] ys := (rd_ints.2 ⟨U, un, uc, rfl, hU.more J.b.size, hcU⟩ : Rd wr wr.heap.size sI [.slice U un uc] ys).next b1
    have LC1 := hid (HC.out w1 U un uc ys J1.b hUr hts.1)
    have zw1 : xb < w1.heap.size := rX.lt
    have zBB : B < xb := by rw [← hxb]; exact J.r3.lt
    have HZ := hid J.z
    have OL0 := hid (show OwnL w1 (B + 1) xb 71 sStep O on oc (carS f pl (k.2.take i)) from by rw [← hxb]; exact J.o.next b1)
    have i0 : (0 : Int) ≤ (i : Int) := by omega
    have i1 : (i : Int) < (sn : Int) := by omega
    have EX := hid ex.out
    have HUR := hid hUr
    have J1H := hid J1
    have HW1 := hid hw1
    obtain ⟨bo, hbo⟩ : ∃ bo, ok ys = bo := ⟨_, rfl⟩
    have HBO := hid hbo
    rw [hbo] at LC1
    clear hx2 hU hcU J J1 ex hw1 b1 hUr hbo
    cases bo with
    | false =>
     go_wp2_with (go_at_fn gC; rw [← HW1.out]; refine LC1.out.mono ?_; rintro e w2 ⟨U2, un2, uc2, rfl, oU, bb⟩; refine (?_ : Hid _).out)
     have J2 := J1H.out.next bb
     have j2 := J2.r1
     have jb := J2.b
     clear bb J2 oU J1H OL0 HUR LC1
     refine hid ?_
     have y0 : w2.cell? ⟨w.heap.size + 1, 0, none⟩ = some (.slice none 0 0) := j2.cell 0
     have y1 : w2.cell? ⟨w.heap.size + 1, 1, none⟩ = some (.slice none 0 0) := j2.cell 1
     have g0 := j2.free 0
     have g1 := j2.free 1
     have ra := j2.put 0 (.slice none 0 0)
     have y2 : (w2.setCell ⟨w.heap.size + 1, 0, none⟩ (.slice none 0 0)).cell? ⟨w.heap.size + 1, 1, none⟩ = some (.slice none 0 0) := ra.cell 1
     have g2 := ra.free 1
     have rb := ra.put 1 (.slice none 0 0)
     have u0 : ((w2.setCell ⟨w.heap.size + 1, 0, none⟩ (.slice none 0 0)).setCell ⟨w.heap.size + 1, 1, none⟩ (.slice none 0 0)).cell? ⟨w.heap.size + 1, 0, none⟩ = some (.slice none 0 0) := rb.cell 0
     have u1 : ((w2.setCell ⟨w.heap.size + 1, 0, none⟩ (.slice none 0 0)).setCell ⟨w.heap.size + 1, 1, none⟩ (.slice none 0 0)).cell? ⟨w.heap.size + 1, 1, none⟩ = some (.slice none 0 0) := rb.cell 1
     have FZ : AnsWalk w (carW f ok pl k) (carB ok k) (.returned (.tuple #[.agg #[.slice none 0 0, .slice none 0 0], .bool false])) ((w2.setCell ⟨w.heap.size + 1, 0, none⟩ (.slice none 0 0)).setCell ⟨w.heap.size + 1, 1, none⟩ (.slice none 0 0)) := ansWalk_no (car_no2 hil EX.out HBO.out) (((jb).setCell (show w.heap.size ≤ w.heap.size + 1 by omega) _).setCell (show w.heap.size ≤ w.heap.size + 1 by omega) _)
     have HFZ := hid FZ
     clear FZ ra rb jb j2 c0 c1 c2 rX
     go_wp2
     exact bodyPost_ret (v := .tuple #[.agg #[.slice none 0 0, .slice none 0 0], .bool false]) (by simp [results, Tryz.results44, go_sem, u0, u1]) rfl HFZ.out
    | true =>
     go_wp2_with (go_at_fn gC; rw [← HW1.out]; refine LC1.out.mono ?_; rintro e w2 ⟨U2, un2, uc2, rfl, oU, bb⟩; refine (?_ : Hid _).out)
     have J2 := J1H.out.next bb
     have oU1 : Own w2 w1.heap.size (.slice U2 un2 uc2) (f ys) := oU
     have zw2 := bb.size
     have OU := hid (show Own w2.drew w1.heap.size (.slice U2 un2 uc2) (f ys) from Own.drew oU1)
     have OL := hid (show OwnL w2.drew (B + 1) xb 71 sStep O on oc (carS f pl (k.2.take i)) from (OL0.out.next bb).next (drew_below w2))
     have RX := hid (show Row w2.drew xb 71 #[.int .i64 xa, .int .i64 xr, .slice U un uc] from rX.next (next_trans bb (drew_below w2)))
     have RB := hid (show Row w2.drew B 39 #[.slice X xn xc, .slice O on oc] from J2.r3)
     have c3 : w2.cell? ⟨B, 1, none⟩ = some (.slice O on oc) := J2.r3.cell 1
     have c0 : w2.cell? ⟨xb, 0, none⟩ = some (.int .i64 xa) := (rX.next bb).cell 0
     have c1 : w2.cell? ⟨xb, 1, none⟩ = some (.int .i64 xr) := (rX.next bb).cell 1
     have c2 : w2.cell? ⟨xb, 2, none⟩ = some (.slice U un uc) := (rX.next bb).cell 2
     have zB : B < w2.drew.heap.size := show B < w2.heap.size by omega
     have zX : xb < w2.drew.heap.size := show xb < w2.heap.size by omega
     have hon : on ≤ 60 := by rw [← OL.out.1]; exact car_len (by rw [HSN.out]; exact h60')
     have zB1 : B + 1 ≤ xb := zBB
     have LPL := hid (HP.out w2.drew xa xr U un uc ys (next_trans J2.b (drew_below w2)) ((HUR.out.next bb).next (drew_below w2)) hts.2)
     have J2H := hid J2
     clear bb J2 oU oU1 J1H OL0 HUR LC1 rX
     refine hid ?_
     go_upto_region 11 with fail
     refine AnyT.start (S := (fun w' => w'.cell? ⟨B, 1, none⟩ = some (.slice O on oc) ∧ w'.cell? ⟨xb, 0, none⟩ = some (.int .i64 xa) ∧ w'.cell? ⟨xb, 1, none⟩ = some (.int .i64 xr) ∧ w'.cell? ⟨xb, 2, none⟩ = some (.slice U un uc))) (fun j => j == 12) (by kernel_rfl) ⟨c3, c0, c1, c2⟩ (fun hHeld => ?_)
     refine AnyT.takeA (i := 0) (v := ?_) rfl (by kernel_rfl) (by kernel_rfl) (by kernel_rfl) (fun _ _ _ h => h) (Or.inl ⟨by rfl, ?_⟩) ?_
     rotate_left 1
     ·(intro w0 _; go_simp; try with_reducible rfl)
     try simp only [Act.put, setIfInBounds_toArray, set_cons_zero, set_cons_succ, getElem_toArray, getElem_cons_zero, getElem_cons_succ]
     refine AnyT.take (i := 1) (v := ?_) rfl (by kernel_rfl) (by kernel_rfl) (by kernel_rfl) (by kernel_rfl) (fun _ _ _ h => h) (Or.inl ⟨by rfl, ?_⟩) (by assumption) ?_
     rotate_left 1
     ·(intro w0 hSw; (try dsimp only at hSw); go_simp; try with_reducible rfl)
     try simp only [Act.put, setIfInBounds_toArray, set_cons_zero, set_cons_succ, getElem_toArray, getElem_cons_zero, getElem_cons_succ]
     refine AnyT.takeA (i := 2) (v := ?_) rfl (by kernel_rfl) (by kernel_rfl) (by kernel_rfl) (fun _ _ _ h => h) (Or.inl ⟨by rfl, ?_⟩) ?_
     rotate_left 1
     ·(intro w0 _; go_simp; try with_reducible rfl)
     try simp only [Act.put, setIfInBounds_toArray, set_cons_zero, set_cons_succ, getElem_toArray, getElem_cons_zero, getElem_cons_succ]
     refine AnyT.take (i := 3) (v := ?_) rfl (by kernel_rfl) (by kernel_rfl) (by kernel_rfl) (by kernel_rfl) (fun _ _ _ h => h) (Or.inl ⟨by rfl, ?_⟩) (by assumption) ?_
     rotate_left 1
     ·(intro w0 hSw; (try dsimp only at hSw); go_simp; try with_reducible rfl)
     try simp only [Act.put, setIfInBounds_toArray, set_cons_zero, set_cons_succ, getElem_toArray, getElem_cons_zero, getElem_cons_succ]
     refine AnyT.takeA (i := 5) (v := ?_) rfl (by kernel_rfl) (by kernel_rfl) (by kernel_rfl) (fun _ _ _ h => h) (Or.inl ⟨by rfl, ?_⟩) ?_
     rotate_left 1
     ·(intro w0 _; go_simp; try with_reducible rfl)
     try simp only [Act.put, setIfInBounds_toArray, set_cons_zero, set_cons_succ, getElem_toArray, getElem_cons_zero, getElem_cons_succ]
     refine AnyT.take (i := 6) (v := ?_) rfl (by kernel_rfl) (by kernel_rfl) (by kernel_rfl) (by kernel_rfl) (fun _ _ _ h => h) (Or.inl ⟨by rfl, ?_⟩) (by assumption) ?_
     rotate_left 1
     ·(intro w0 hSw; (try dsimp only at hSw); go_simp; try with_reducible rfl)
     try simp only [Act.put, setIfInBounds_toArray, set_cons_zero, set_cons_succ, getElem_toArray, getElem_cons_zero, getElem_cons_succ]
     refine AnyT.takeA (i := 7) (v := ?_) rfl (by kernel_rfl) (by kernel_rfl) (by kernel_rfl) (fun _ _ _ h => h) (Or.inl ⟨by rfl, ?_⟩) ?_
     rotate_left 1
     ·(intro w0 _; go_simp; try with_reducible rfl)
     try simp only [Act.put, setIfInBounds_toArray, set_cons_zero, set_cons_succ, getElem_toArray, getElem_cons_zero, getElem_cons_succ]
     refine AnyT.call (i := 4) (by kernel_rfl) rfl (fun K hK => ?_)
     try simp only [Act.put, setIfInBounds_toArray, set_cons_zero, set_cons_succ, getElem_toArray, getElem_cons_zero, getElem_cons_succ]
     rw [if_pos (by rfl)]
     go_simp
     (go_at_fn gP; refine LPL.out.mono ?_; rintro e w5 ⟨rfl, bb5⟩; have d3 : w5.cell? ⟨B, 1, none⟩ = some (.slice O on oc) := (bb5.cell (p := ⟨B, 1, none⟩) zB).trans c3; have d0 : w5.cell? ⟨xb, 0, none⟩ = some (.int .i64 xa) := (bb5.cell (p := ⟨xb, 0, none⟩) zX).trans c0; have d1 : w5.cell? ⟨xb, 1, none⟩ = some (.int .i64 xr) := (bb5.cell (p := ⟨xb, 1, none⟩) zX).trans c1; have d2 : w5.cell? ⟨xb, 2, none⟩ = some (.slice U un uc) := (bb5.cell (p := ⟨xb, 2, none⟩) zX).trans c2; have z5 : w2.heap.size ≤ w5.heap.size := bb5.size; go_wp2_with fail)
     refine hK.out _ _ (fun _ _ => ?_) (fun hKeep => ?_)
     ·exact ⟨d3, d0, d1, d2⟩
     replace hHeld := hKeep (by first | rfl | trivial) hHeld
     clear hK K hKeep
     try simp only [Act.put, setIfInBounds_toArray, set_cons_zero, set_cons_succ, getElem_toArray, getElem_cons_zero, getElem_cons_succ]
     refine AnyT.takeA (i := 8) (v := ?_) rfl (by kernel_rfl) (by kernel_rfl) (by kernel_rfl) (fun _ _ _ h => h) (Or.inl ⟨by rfl, ?_⟩) ?_
     rotate_left 1
     ·(intro w0 _; go_simp; try with_reducible rfl)
     try simp only [Act.put, setIfInBounds_toArray, set_cons_zero, set_cons_succ, getElem_toArray, getElem_cons_zero, getElem_cons_succ]
     refine AnyT.call (i := 9) (by kernel_rfl) rfl (fun K hK => ?_)
     try simp only [Act.put, setIfInBounds_toArray, set_cons_zero, set_cons_succ, getElem_toArray, getElem_cons_zero, getElem_cons_succ]
     rw [if_pos (by rfl)]
     go_simp
     refine hK.out _ _ (fun _ _ => ?_) (fun hKeep => ?_)
     ·exact ⟨keep_alloc d3, keep_alloc d0, keep_alloc d1, keep_alloc d2⟩
     replace hHeld := hKeep (by first | rfl | trivial) hHeld
     clear hK K hKeep
     try simp only [Act.put, setIfInBounds_toArray, set_cons_zero, set_cons_succ, getElem_toArray, getElem_cons_zero, getElem_cons_succ]
     refine AnyT.call (i := 10) (by kernel_rfl) rfl (fun K hK => ?_)
     try simp only [Act.put, setIfInBounds_toArray, set_cons_zero, set_cons_succ, getElem_toArray, getElem_cons_zero, getElem_cons_succ]
     rw [if_pos (by rfl)]
     have b3 : Below w5.heap.size w5 (w5.alloc (.cells #[.int .i64 (pl (xa, xr, ys)), .int .i64 xr, .slice U2 un2 uc2] 71)) := (Below.refl _ _).alloc (Nat.le_refl _) _
     have HAPP := hid (show OwnL (w5.alloc (.cells #[.int .i64 (pl (xa, xr, ys)), .int .i64 xr, .slice U2 un2 uc2] 71)) (B + 1) xb 71 sStep O on oc (carS f pl (k.2.take i)) ∧ OwnL (w5.alloc (.cells #[.int .i64 (pl (xa, xr, ys)), .int .i64 xr, .slice U2 un2 uc2] 71)) xb (w5.heap.size + 1) 71 sStep (some ⟨w5.heap.size, 0, none⟩) 1 1 [(pl (xa, xr, ys), xr, f ys)] from ⟨(OL.out.next bb5).next b3, OwnL.single (e := 71) (s := sStep) (Row.new w5 71 #[.int .i64 (pl (xa, xr, ys)), .int .i64 xr, .slice U2 un2 uc2]) ((((owned_step OU.out (pl (xa, xr, ys)) xr).next bb5).next b3).wider (by omega) (Nat.le_refl _)) (by simpa using z5) (by omega)⟩)
     refine wp_appL _ _ 37 71 sStep _ _ Tryz.underlying37 info_StepS rfl (by decide) rfl (B + 1) xb xb (w5.heap.size + 1) O on oc w5.heap.size 1 1 _ _ rfl HAPP.out.1 rfl HAPP.out.2 (Nat.le_refl _) zB1 (by omega) (by omega) (by simp; omega) ?_
     intro A4 oc' w4 oL4 hg4 hat4 b4 hf4
     obtain ⟨O', rfl⟩ := hf4 (.inr (by omega))
     have rX4 := Row.away ((RX.out.next bb5).next b3) hg4 (fun e => by have h8 := OL.out.2.1 xb e; omega)
     have kx0 : w4.cell? ⟨xb, 0, none⟩ = some (.int .i64 xa) := rX4.cell 0
     have kx1 : w4.cell? ⟨xb, 1, none⟩ = some (.int .i64 xr) := rX4.cell 1
     have kx2 : w4.cell? ⟨xb, 2, none⟩ = some (.slice U un uc) := rX4.cell 2
     refine hK.out _ _ (fun _ _ => ?_) (fun hKeep => ?_)
     ·exact ⟨(b4.cell (p := ⟨B, 1, none⟩) (show B < B + 1 by omega)).trans (keep_alloc d3), kx0, kx1, kx2⟩
     replace hHeld := hKeep (by first | rfl | trivial) hHeld
     clear hK K hKeep
     try simp only [Act.put, setIfInBounds_toArray, set_cons_zero, set_cons_succ, getElem_toArray, getElem_cons_zero, getElem_cons_succ]
     refine AnyT.takeA (i := 11) (v := ?_) rfl (by kernel_rfl) (by kernel_rfl) (by kernel_rfl) (fun _ _ _ h => h) (Or.inl ⟨by rfl, ?_⟩) ?_
     rotate_left 1
     ·(intro w0 _; go_simp; try with_reducible rfl)
     try simp only [Act.put, setIfInBounds_toArray, set_cons_zero, set_cons_succ, getElem_toArray, getElem_cons_zero, getElem_cons_succ]
     have rB4 := ((RB.out.next bb5).next b3).below b4 (show B < B + 1 by omega)
     have y1 : w4.cell? ⟨B, 1, none⟩ = some (.slice O on oc) := rB4.cell 1
     have g1 := rB4.free 1
     refine AnyT.call (i := 12) (by kernel_rfl) rfl (fun K hK => ?_)
     try simp only [Act.put, setIfInBounds_toArray, set_cons_zero, set_cons_succ, getElem_toArray, getElem_cons_zero, getElem_cons_succ]
     rw [if_pos (by rfl)]
     go_simp
     refine hK.out _ _ (fun h => by cases h) (fun _ => ?_)
     clear hK K
     try simp only [Act.put, setIfInBounds_toArray, set_cons_zero, set_cons_succ, getElem_toArray, getElem_cons_zero, getElem_cons_succ]
     refine AnyT.done (by kernel_rfl) ?_ _
     have hJ := J2H.out.next (next_trans ((drew_below w2).trans bb5) b3)
     have z2 : w2.heap.size ≤ w5.heap.size := z5
     have F := hid (show Ca w (.slice F fn fc) (.slice (some ⟨b, off, none⟩) sn sc) B X (some ⟨O', 0, none⟩) xn xc (on + 1) oc' (f k.1) (carS f pl (k.2.take (i + 1))) (w4.setCell ⟨B, 1, none⟩ (.slice (some ⟨O', 0, none⟩) (on + 1) oc')) from by
      have z := HZ.out
      have h9 : w5.heap.size + 1 ≤ w4.heap.size := by have := b4.size; simpa using this
      refine ⟨(hJ.r0.below b4 (by omega)).far (show w.heap.size ≠ B by omega) _, (hJ.r1.below b4 (by omega)).far (show w.heap.size + 1 ≠ B by omega) _, rB4.put 1 _, ?_, ?_, ?_, z⟩
      ·exact (hJ.x.btw (lo' := B + 1) (hi' := w4.heap.size) (Btw.of_grown hg4 (fun q hq => by have h8 := OL.out.ge q hq; have h7 : q < w2.heap.size := h8.2; omega)) (.inl (by omega))).btw (lo' := B) (hi' := B + 1) ⟨rfl, rfl, rfl, by simp, fun k hk ho => Below.heap_setCell w4 _ _ k (by show k ≠ B; omega)⟩ (.inl (Nat.le_refl _))
      ·rw [← car_take hil EX.out]
       have o5 : OwnL (w4.setCell ⟨B, 1, none⟩ (.slice (some ⟨O', 0, none⟩) (on + 1) oc')) (B + 1) w4.heap.size 71 sStep (some ⟨O', 0, none⟩) (on + 1) oc' (carS f pl (k.2.take i) ++ [(pl (xa, xr, ys), xr, f ys)]) := oL4.btw (lo' := B) (hi' := B + 1) ⟨rfl, rfl, rfl, by simp, fun k hk ho => Below.heap_setCell w4 _ _ k (by show k ≠ B; omega)⟩ (.inr (Nat.le_refl _))
       exact o5.wider (Nat.le_refl _) (by simp)
      ·exact (hJ.b.trans (b4.mono (by omega))).setCell (show w.heap.size ≤ B by omega) _)
     have HL2 := hid (show ∀ j, j < i + 1 → ok (k.2.getD j (0, 0, [])).2.2 = true from fun j hj => by
      by_cases e : j = i
      ·subst e; rw [EX.out]; exact HBO.out
      ·exact HLOW.out j (by omega))
     clear hJ rB4 oL4 hg4 hat4 b4 hf4 HAPP b3 OL OU RB RX J2H c0 c1 c2 c3
     go_wp2
     go_roundg (gk - 1)
     case measure => have := HG.out; omega
     case rel => exact ⟨i + 1, on + 1, oc', some ⟨O', 0, none⟩, by simp, by have := HG.out; omega, HL2.out, F.out⟩
   ·have e1 : i = sn := by have := HG.out; omega
    subst e1
    have HI := hid (car_yes (f := f) (pl := pl) HB0.out (fun j hj => HLOW.out j (by rw [← HSN.out]; exact hj)))
    have HZ := J.z
    have ow : Owned wr (w.heap.size + 1 + 1) wr.heap.size sWalk [.slice X xn xc, .slice O on oc] (f k.1, carS f pl k.2) := by
     have o2 := J.o
     rw [List.take_of_length_le (by rw [HSN.out]; exact Nat.le_refl _)] at o2
     exact owned_walk (J.x.wider (Nat.le_refl _) (Nat.le_succ _)) o2 (by omega) J.r3.lt
    have jb := J.b
    have j1 := J.r1
    have K2 : wr.cell? ⟨B, 0, none⟩ = some (.slice X xn xc) := J.r3.cell 0
    have K3 : wr.cell? ⟨B, 1, none⟩ = some (.slice O on oc) := J.r3.cell 1
    clear J HLOW
    have y0 : wr.cell? ⟨w.heap.size + 1, 0, none⟩ = some (.slice none 0 0) := j1.cell 0
    have y1 : wr.cell? ⟨w.heap.size + 1, 1, none⟩ = some (.slice none 0 0) := j1.cell 1
    have g0 := j1.free 0
    have g1 := j1.free 1
    have ra := j1.put 0 (.slice X xn xc)
    have y2 : (wr.setCell ⟨w.heap.size + 1, 0, none⟩ (.slice X xn xc)).cell? ⟨w.heap.size + 1, 1, none⟩ = some (.slice none 0 0) := ra.cell 1
    have g2 := ra.free 1
    have rb := ra.put 1 (.slice O on oc)
    have u0 : ((wr.setCell ⟨w.heap.size + 1, 0, none⟩ (.slice X xn xc)).setCell ⟨w.heap.size + 1, 1, none⟩ (.slice O on oc)).cell? ⟨w.heap.size + 1, 0, none⟩ = some (.slice X xn xc) := rb.cell 0
    have u1 : ((wr.setCell ⟨w.heap.size + 1, 0, none⟩ (.slice X xn xc)).setCell ⟨w.heap.size + 1, 1, none⟩ (.slice O on oc)).cell? ⟨w.heap.size + 1, 1, none⟩ = some (.slice O on oc) := rb.cell 1
    have FZ : AnsWalk w (carW f ok pl k) (carB ok k) (.returned (.tuple #[.agg #[.slice X xn xc, .slice O on oc], .bool true])) ((wr.setCell ⟨w.heap.size + 1, 0, none⟩ (.slice X xn xc)).setCell ⟨w.heap.size + 1, 1, none⟩ (.slice O on oc)) := ⟨_, _, _, _, _, _, by rw [HI.out.2], by rw [HI.out.1]; exact ((ow.put (g := w.heap.size + 1) (i := 0) (by omega)).put (g := w.heap.size + 1) (i := 1) (by omega)).wider (by omega) (by simp), (jb.setCell (show w.heap.size ≤ w.heap.size + 1 by omega) _).setCell (show w.heap.size ≤ w.heap.size + 1 by omega) _⟩
    have HFZ := hid FZ
    clear FZ ra rb ow jb j1
    go_wp2
    exact bodyPost_ret (v := .tuple #[.agg #[.slice X xn xc, .slice O on oc], .bool true]) (by simp [results, Tryz.results44, go_sem, u0, u1]) rfl HFZ.out
end walkImpl
end
section
open Go.Lib (hid)
namespace und
open Go.RowKit base ints sig cursor term termOk marks app appAt sym sub segs segsHelp termFacts varsMath varsOf fillMath Go.Proofs.YtblhmplpcdcejaaGreat.look shifted substOk gives filled shape termFacts
set_option maxRecDepth 100000
def HeadM (w : World) (S : Option Addr) (m c a : Nat) (ss : List (List Int)) (t : List Int) (p_ i_ : Value) (wr : World) : Prop :=
 ∃ (k pn : Nat), k ≤ a ∧ p_ = .int .i64 (pn : Int) ∧ i_ = .int .i64 (k : Int) ∧ (fillL (givesL ss) (t.take k)).length = pn ∧ Row wr w.heap.size 48 #[.slice S m c] ∧ Below w.heap.size w wr
theorem vars24 {sg t : List Int} (h : termOkB sg t = true) : ∀ x ∈ t, -24 ≤ x := fun x hx => (term_mem h hx).1
set_option maxHeartbeats 4000000 in
theorem l7Moved (S A : Option Addr) (m c mt ct a : Nat) (ss : List (List Int)) (t : List Int) (w : World) (h : Segs w w.heap.size S m ss) (h' : Seg w w.heap.size A mt t) (ht : tot ss ≤ 1048576) (hmt : mt ≤ 60) (ha : a ≤ mt) (hv : ∀ x ∈ t, -24 ≤ x) (hM : ∀ i, (givesL ss i).length ≤ 60) :
  Calls Tryz.prog 33 #[.agg #[.slice S m c], .slice A mt ct, .int .i64 (a : Int)] w fun e w' => e = .returned (.int .i64 ((fillL (givesL ss) (t.take a)).length : Int)) ∧ Below w.heap.size w w' := by
 have HL := hid h'.1
 have HV := hid hv
 have HM := hid hM
 have HT := hid ht
 have HS0 := hid (show HeadM w S m c a ss t (.int .i64 0) (.int .i64 0) (w.alloc (.cells #[.slice S m c] 48)) from ⟨0, 0, Nat.zero_le _, rfl, rfl, by simp [fillL], Row.new _ _ _, (Below.refl _ _).alloc (Nat.le_refl _) _⟩)
 clear hv hM ht
 go_enter Tryz.func33, Tryz.ntmps33
 go_wp2_with fail
 go_loopw [7, 8] (fun p_ i_ wr => HeadM w S m c a ss t p_ i_ wr) (fun _ i _ => a - (intOf i).toNat)
 case atStart => exact HS0.out
 case round =>
  obtain ⟨k, pn, hk, rfl, rfl, hp, hr, hb⟩ := hrel
  clear HS0
  have hpn : pn ≤ 245760 := by rw [← hp]; exact fill_bound (fun i => Nat.le_trans (HM.out i) (by omega)) HL.out hmt
  have HP := hid hp
  clear hp
  by_cases hlt : k < a
  ·obtain ⟨b, off, x, rfl, hbb, hx, ex⟩ := h'.spot (k := k) (by omega)
   have hx1 : wr.cell? ⟨b, off + k, none⟩ = some (.int .i64 x) := (hb.cell (p := ⟨b, off + k, none⟩) hbb).trans hx
   have hbr : b < wr.heap.size := Nat.lt_of_lt_of_le hbb hb.size
   have hsz := hr.lt
   have cS : wr.cell? ⟨w.heap.size, 0, none⟩ = some (.slice S m c) := hr.cell 0
   have hkl : k < t.length := by rw [HL.out]; omega
   have hmem : x ∈ t := by
    have := ex.out
    rw [← this]
    simp [List.getD, hkl]
   have hx24 : -24 ≤ x := HV.out x hmem
   have E := hid (fill_take (L := givesL ss) hkl ex.out)
   have i0 : (0 : Int) ≤ (k : Int) := by omega
   have i1 : (k : Int) < (mt : Int) := by omega
   have i2 : (k : Int) < (a : Int) := by omega
   clear hmem hx ex hkl
   by_cases hpos : 0 ≤ x
   ·have d1 : ¬ x < 0 := by omega
    have HS1 := hid (show HeadM w S m c a ss t (.int .i64 ((pn : Int) + 1)) (.int .i64 ((k : Int) + 1)) wr from ⟨k + 1, pn + 1, hlt, by simp, by simp, by rw [E.out, rep_sym hpos, List.length_append, HP.out]; rfl, hr, hb⟩)
    clear hr hb cS h'
    go_wp2
    go_roundw
    case rel => exact HS1.out
    case measure => simp [intOf]; omega
   ·have hneg : x < 0 := by omega
    have R := hid (rep_var (L := givesL ss) hneg)
    obtain ⟨i, hi⟩ : ∃ i : Nat, (-1 - x).toNat = i := ⟨_, rfl⟩
    rw [hi] at R
    have hix : (i : Int) = -1 - x := by omega
    have LG := hid (l2Gives S m c ss i wr.drew (((h.below hb).more hb.size).drew) HT.out (by omega))
    rw [hix] at LG
    have hlen : (givesL ss i).length ≤ 60 := HM.out i
    obtain ⟨q, hq⟩ : ∃ q, (givesL ss i).length = q := ⟨_, rfl⟩
    rw [hq] at hlen
    have HQ := hid hq
    have hw1 : IntKind.i64.wrap (-1 - x) = -1 - x := by rw [IntKind.wrap_i64]; omega
    have hw2 : IntKind.i64.wrap ((pn : Int) + (q : Int)) = (pn : Int) + (q : Int) := by rw [IntKind.wrap_i64]; omega
    have hrd := hr.drew
    have hbd := hb.drew
    clear hix hi hq h h'
    go_wp2_with fail
    go_region_held3 (fun w' => w'.cell? ⟨w.heap.size, 0, none⟩ = some (.slice S m c) ∧ w'.cell? ⟨b, off + k, none⟩ = some (.int .i64 x))
     (go_keep)
     (first
      | (go_at_call 70; refine LG.out.mono ?_; rintro e w1 ⟨D, dn, dc, rfl, od, bb⟩; obtain rfl : dn = q := (by rw [Own.len od]; exact HQ.out); have hr1 := hrd.next bb; have hb1 := next_trans hbd bb; have cS1 : w1.cell? ⟨w.heap.size, 0, none⟩ = some (.slice S m c) := hr1.cell 0; have cX1 : w1.cell? ⟨b, off + k, none⟩ = some (.int .i64 x) := (bb.cell (p := ⟨b, off + k, none⟩) hbr).trans hx1))
    have HS1 := hid (show HeadM w S m c a ss t (.int .i64 ((pn : Int) + (dn : Int))) (.int .i64 ((k : Int) + 1)) w1 from ⟨k + 1, pn + dn, hlt, by simp, by simp, by rw [E.out, R.out, List.length_append, HP.out, HQ.out], hr1, hb1⟩)
    clear cS1 cX1 hr1 hb1 od bb hrd hbd LG hr hb cS hx1 HM HV
    go_wp2
    go_roundw
    case rel => first | exact HS1.out | (rw [hw2]; exact HS1.out)
    case measure => simp [intOf]; omega
  ·have e1 : k = a := by omega
   subst e1
   have F := hid (show (Ending.returned (.int .i64 (pn : Int)) = .returned (.int .i64 ((fillL (givesL ss) (t.take k)).length : Int))) ∧ Below w.heap.size w wr from ⟨by rw [HP.out], hb⟩)
   clear hr hb h h'
   go_wp2
   go_ret
   exact F.out
end und
end
end Go.Proofs.YtblhmplpcdcejaaGreat
