/-
  MERGED: my texts WalkToImpl, WalkToX, WWalkTo, one behind the other, as they are. By an AI agent.
-/
import Derived.Test.YtblhmplpcdcejaaMFnExactWalkTo9
import Derived.Deep.RegionHeld3
namespace Go.Proofs.Ytblhmplpcdcejaa
section
open Go.Lib (hid)
namespace walkTo
open Go.RowKit base ints sig term termOk marks app appAt sym sub segs segsHelp termFacts varsOf shape kindsR kindsW ruleMath ruleSpec ruleImpl stepMath walkMath stepSpec stepImpl reachMath findW findSpec iter longest ownL reachImpl known pickOwn reachSpec reachImplB reachWalk walkSpec
set_option maxRecDepth 100000
theorem src_two {sg : List Int} {rs : List Rl} {n : Int} {t s : List Int} : srcB sg rs n [t, s] = (right9 sg rs t n && right9 sg rs s n) := by
 unfold srcB right9 rightB
 simp only [List.all_cons, List.all_nil, Bool.and_true]
 cases sysOkB sg rs <;> cases termOkB sg t <;> cases termOkB sg s <;> cases stepsB n <;> rfl
theorem two_small {t s : List Int} (h : t.length ≤ 1048576) (h2 : s.length ≤ 1048576) : ∀ k, (([t, s] : List (List Int)).getD k []).length ≤ 1048576 := fun k => by
 match k with
 | 0 => exact h
 | 1 => exact h2
 | k + 2 => simp
theorem rd_two {w : World} {B g : Nat} {T T' : Option Addr} {m c m' c' : Nat} {t s : List Int} (hr : Row w g 22 #[.slice T m c, .slice T' m' c']) (hg : g < B) (hT : Rd w B sI [.slice T m c] t) (hS : Rd w B sI [.slice T' m' c'] s) : Rd w B sTs [.slice (some ⟨g, 0, none⟩) 2 2] [t, s] := by
 refine ⟨_, _, _, rfl, ⟨by omega, by omega, fun e => by cases e⟩, rfl, fun _ => ⟨g, 0, rfl, hg, fun j hj => ?_⟩⟩
 match j with
 | 0 => exact ⟨[.slice T m c], rfl, fun i hi => by have : i = 0 := (by have : i < 1 := hi; omega); subst this; exact hr.cell 0, hT⟩
 | 1 => exact ⟨[.slice T' m' c'], rfl, fun i hi => by have : i = 0 := (by have : i < 1 := hi; omega); subst this; exact hr.cell 1, hS⟩
 | j + 2 => omega
theorem box3 (w : World) (t t' t'' : TypeId) (cs cs' cs'' : Array Value) : ∃ W, W = ((w.alloc (.cells cs t)).alloc (.cells cs' t')).alloc (.cells cs'' t'') ∧ Row W w.heap.size t cs ∧ Row W (w.heap.size + 1) t' cs' ∧ Row W (w.heap.size + 1 + 1) t'' cs'' ∧ Below w.heap.size w W := by
 refine ⟨_, rfl, ((Row.new w _ _).alloc _).alloc _, ?_, ?_, (((Below.refl _ _).alloc (Nat.le_refl _) _).alloc (by simp) _).alloc (by simp; omega) _⟩
 ·have := (Row.new (w.alloc (.cells cs t)) t' cs').alloc (.cells cs'' t''); simpa using this
 ·have := Row.new ((w.alloc (.cells cs t)).alloc (.cells cs' t')) t'' cs''; simpa using this
theorem ansRw_walk {w w2 w3 : World} {lo mid : Nat} {o : Option Wk} {A0 A1 : Option Addr} {n0 c0 n1 c1 : Nat} (h : ∃ F, Ow w3 sWalk [.slice A0 n0 c0, .slice A1 n1 c1] (o.getD ([], [])) F ∧ F.Nodup ∧ ∀ q ∈ F, (lo ≤ q ∧ q < mid) ∨ (w2.heap.size ≤ q ∧ q < w3.heap.size)) (hb : Below w.heap.size w w3) (hlo : w.heap.size + 1 < lo) (hmid : mid ≤ w3.heap.size) (hw2 : w.heap.size + 1 < w2.heap.size) :
  AnsWalk w (o.getD ([], [])) o.isSome (.returned (.tuple #[.agg #[.slice A0 n0 c0, .slice A1 n1 c1], .bool o.isSome])) ((w3.setCell ⟨w.heap.size + 1, 0, none⟩ (.slice A0 n0 c0)).setCell ⟨w.heap.size + 1, 1, none⟩ (.slice A1 n1 c1)) := by
 obtain ⟨F, h1, h2, h3⟩ := h
 refine ⟨_, _, _, _, _, _, rfl, ⟨F, h1.keep fun q hq => ?_, h2, fun q hq => ?_⟩, (hb.setCell (show w.heap.size ≤ w.heap.size + 1 by omega) _).setCell (show w.heap.size ≤ w.heap.size + 1 by omega) _⟩
 ·have := h3 q hq
  rw [Below.heap_setCell _ _ _ q (show q ≠ w.heap.size + 1 by omega), Below.heap_setCell _ _ _ q (show q ≠ w.heap.size + 1 by omega)]
 ·have := h3 q hq
  have e : ((w3.setCell ⟨w.heap.size + 1, 0, none⟩ (.slice A0 n0 c0)).setCell ⟨w.heap.size + 1, 1, none⟩ (.slice A1 n1 c1)).heap.size = w3.heap.size := by simp
  rw [e]
  omega
set_option maxHeartbeats 2000000 in
theorem implWalkTo (a v u y : Value) (d : Dat sSystem) (t s : List Int) (x : Int) (w : World) (h : Rd w w.heap.size sSystem [a, v] d) (ht : Rd w w.heap.size sI [u] t) (hs : Rd w w.heap.size sI [y] s) (hz : sz sSystem d ≤ 1048576) (hz1 : sz sI t ≤ 1048576) (hz2 : sz sI s ≤ 1048576) :
  Calls Try.prog 31 #[.agg #[a, v], u, y, .int .i64 x] w (AnsWalk w ((toO d.1 d.2 t s x).getD ([], [])) (toO d.1 d.2 t s x).isSome) := by
 obtain ⟨T, m, c, rfl, hT, hcT⟩ := rd_ints.1 ht
 obtain ⟨T', m', c', rfl, hT', hcT'⟩ := rd_ints.1 hs
 have htl : t.length ≤ 1048576 := by rwa [sz_ints] at hz1
 have hsl : s.length ≤ 1048576 := by rwa [sz_ints] at hz2
 obtain ⟨W, hW, rA, rR, rL, bel⟩ := box3 w 34 50 22 #[a, v] #[.slice none 0 0, .slice none 0 0] #[.slice T m c, .slice T' m' c']
 have HW := hid hW
 have LS := hid (searchIn a v x (some ⟨w.heap.size + 1 + 1, 0, none⟩) 2 2 [t, s] d W (h.next bel) hz (rd_two rL rL.lt (ht.next bel) (hs.next bel)) (by omega) (two_small htl hsl))
 rw [src_two] at LS
 have HH := hid (show Rd w w.heap.size sSystem [a, v] d ∧ Seg w w.heap.size T m t ∧ sz sSystem d ≤ 1048576 ∧ Seg w w.heap.size T' m' s from ⟨h, hT, hz, hT'⟩)
 clear hW h ht hs hT hcT hT' hcT' rL hz htl hsl
 cases ok : (right9 d.1 d.2 t x && right9 d.1 d.2 s x) with
 | false =>
  have HO := hid (show toO d.1 d.2 t s x = none from by unfold toO; rw [if_neg (by rw [ok]; simp)])
  rw [ok] at LS
  clear ok
  go_enter Try.func31, Try.ntmps31
  go_wp2_with fail
  rw [← HW.out]
  refine LS.out.mono ?_
  rintro e w1 ⟨x1, x2, x3, y1, y2, y3, b, rfl, rfl, -, bb⟩
  obtain ⟨V, hV⟩ : ∃ V, V = w1.alloc (.cells #[.slice x1 x2 x3, .slice y1 y2 y3] 65) := ⟨_, rfl⟩
  have bV : Below w1.heap.size w1 V := by rw [hV]; exact (Below.refl _ _).alloc (Nat.le_refl _) _
  have b1 := next_trans (next_trans bel bb) bV
  have HV := hid hV
  obtain ⟨c0, c1, g0, g1, c2, g2, u0, u1⟩ := walk_cells ((rR.next bb).next bV) (.slice none 0 0) (.slice none 0 0)
  have F := hid (ansWk_none HO.out ((b1.setCell (p := ⟨w.heap.size + 1, 0, none⟩) (by show _ ≤ w.heap.size + 1; omega) (.slice none 0 0)).setCell (p := ⟨w.heap.size + 1, 1, none⟩) (by show _ ≤ w.heap.size + 1; omega) (.slice none 0 0)))
  rw [hV] at c0 c1 g0 g1 c2 g2 u0 u1 F
  clear bb bel b1 rA rR LS HW bV hV HV
  go_wp2
  exact bodyPost_ret (v := .tuple #[.agg #[.slice none 0 0, .slice none 0 0], .bool false]) (by simp [results, Try.results31, go_sem, u0, u1]) rfl F.out
 | true =>
  rw [ok] at LS
  rw [Bool.and_eq_true] at ok
  obtain ⟨q1, q2, q3⟩ := r9_parts ok.1
  obtain ⟨q4, -, -⟩ := r9_parts ok.2
  obtain ⟨N, rfl⟩ : ∃ N : Nat, x = (N : Int) := ⟨x.toNat, by omega⟩
  have HO := hid (to_yes ok.1 ok.2)
  obtain ⟨bT, off, rfl⟩ := seg_ad HH.out.2.1 (by rw [← HH.out.2.1.1]; exact right_pos q1)
  have LL := hid (fun (w1 : World) (bb : Below w.heap.size w w1) => implReachOf a v bT off m c d t N w1 (HH.out.1.next bb) (HH.out.2.1.next bb) HH.out.2.2.1 q1 (by omega))
  have hsm : Small s := by
   have h2 := q4
   unfold rightB at h2
   rw [Bool.and_eq_true] at h2
   exact small_term h2.2
  have HQ := hid (show Inv d.1 d.2 t N (fdA d.1 d.2 t N) 60 ∧ N ≤ 60 ∧ Small s from ⟨fd_inv, by omega, hsm⟩)
  clear ok q1 q2 q3 q4 hsm
  go_enter Try.func31, Try.ntmps31
  go_wp2_with fail
  rw [← HW.out]
  refine LS.out.mono ?_
  rintro e w1 ⟨x1, x2, x3, y1, y2, y3, b, rfl, rfl, hxy, bb⟩
  obtain ⟨rfl, rfl⟩ := hxy rfl
  obtain ⟨V, hV⟩ : ∃ V, V = w1.alloc (.cells #[.slice x1 x2 x3, .slice y1 y2 y3] 65) := ⟨_, rfl⟩
  have bV : Below w1.heap.size w1 V := by rw [hV]; exact (Below.refl _ _).alloc (Nat.le_refl _) _
  have b2 : Below w.heap.size w V := next_trans (next_trans bel bb) bV
  have rV : Row V w1.heap.size 65 #[.slice x1 x2 x3, .slice y1 y2 y3] := by rw [hV]; exact Row.new _ _ _
  have L2 := hid (LL.out _ b2)
  have B2 := hid (show V = w1.alloc (.cells #[.slice x1 x2 x3, .slice y1 y2 y3] 65) ∧ Below w.heap.size w V ∧ Row V (w.heap.size + 1) 50 #[.slice none 0 0, .slice none 0 0] from ⟨hV, b2, (rR.next bb).next bV⟩)
  clear bb bel rA rR LS HW LL b2 hxy bV rV hV
  go_wp2_with fail
  rw [← B2.out.1]
  refine L2.out.mono ?_
  rintro e w2 ⟨O, on, oc, mb, cnt, rfl, oL, kn, -, bb⟩
  have zV : w.heap.size + 1 < V.heap.size := B2.out.2.2.lt
  have LW := hid (implWalk V.heap.size w2.heap.size O on oc mb cnt (fdA d.1 d.2 t N) T' m' c' s d.1 d.2 t N 60 w2 oL kn HQ.out.1 (HH.out.2.2.2.next (next_trans B2.out.2.1 bb)) HQ.out.2.2 HQ.out.2.1 (Nat.le_refl _) bb.size)
  rw [← HO.out] at LW
  have H2 := hid (show Below w.heap.size w w2 ∧ Row w2 (w.heap.size + 1) 50 #[.slice none 0 0, .slice none 0 0] ∧ V.heap.size ≤ w2.heap.size from ⟨next_trans B2.out.2.1 bb, B2.out.2.2.next bb, bb.size⟩)
  clear oL kn bb L2
  go_wp2_with fail
  refine LW.out.mono ?_
  rintro e w3 ⟨A0, n0, e0, A1, n1, e1, rfl, hF, bb⟩
  obtain ⟨c0, c1, g0, g1, c2, g2, u0, u1⟩ := walk_cells (H2.out.2.1.next bb) (.slice A0 n0 e0) (.slice A1 n1 e1)
  have F := hid (ansRw_walk (w := w) hF (next_trans H2.out.1 bb) zV bb.size (by have := H2.out.2.2; omega))
  obtain ⟨bo, hbo⟩ : ∃ b, (toO d.1 d.2 t s (N : Int)).isSome = b := ⟨_, rfl⟩
  rw [hbo] at F ⊢
  have HB := hid hbo
  clear hF bb LW H2 zV hbo B2
  go_wp2
  exact bodyPost_ret (v := .tuple #[.agg #[.slice A0 n0 e0, .slice A1 n1 e1], .bool bo]) (by simp [results, Try.results31, go_sem, u0, u1]) rfl (by rw [HB.out]; exact F.out)
end walkTo
end
section
namespace walkToX
open Go.RowKit base sig term marks app sym segs shape kindsR kindsW varsOf ruleMath ruleSpec stepMath walkMath stepSpec termFacts reachMath findSpec reachSpec walkSpec walkTo walkX
theorem wkF_sz {sg : List Int} {rs : List Rl} {t : List Int} {n j : Nat} (h : rightB sg rs t = true) (hn : n ≤ 20) (hj : j < (fdA sg rs t n).1.length) : sz sWalk (wkF (fdA sg rs t n).1 j) ≤ 1048576 := walkB_sz (wk_walk h fd_inv (by omega) (List.getElem?_eq_getElem hj)).1
theorem to_sz {sg : List Int} {rs : List Rl} {t s : List Int} {x : Int} : sz sWalk ((toO sg rs t s x).getD ([], [])) ≤ 1048576 := by
 cases ok : (right9 sg rs t x && right9 sg rs s x) with
 | false => unfold toO; rw [if_neg (by rw [ok]; simp)]; exact zero_sz
 | true =>
  rw [Bool.and_eq_true] at ok
  obtain ⟨q1, q2, q3⟩ := longest.r9_parts ok.1
  obtain ⟨N, rfl⟩ : ∃ N : Nat, x = (N : Int) := ⟨x.toNat, by omega⟩
  rw [to_yes ok.1 ok.2]
  cases hp : plcO (termsF (fdA sg rs t N).1) s with
  | none => exact zero_sz
  | some j => exact wkF_sz q1 (by omega) (by have := (plc_spot hp).1; rwa [termsF_len] at this)
theorem specWalkToX (a v u y : Value) (d : Dat sSystem) (t s : List Int) (x : Int) (w : World) (h : Rd w w.heap.size sSystem [a, v] d) (ht : Rd w w.heap.size sI [u] t) (hs : Rd w w.heap.size sI [y] s) (hz : sz sSystem d ≤ 1048576) (hz1 : sz sI t ≤ 1048576) (hz2 : sz sI s ≤ 1048576) (_ : -9223372036854775808 ≤ x) (_ : x ≤ 9223372036854775807) :
  Calls Try.prog 30 #[.agg #[a, v], u, y, .int .i64 x] w (AnsWalk w ((toO d.1 d.2 t s x).getD ([], [])) (toO d.1 d.2 t s x).isSome) := specWalkTo a v u y d t s x w h ht hs hz hz1 hz2
theorem implWalkToX (a v u y : Value) (d : Dat sSystem) (t s : List Int) (x : Int) (w : World) (h : Rd w w.heap.size sSystem [a, v] d) (ht : Rd w w.heap.size sI [u] t) (hs : Rd w w.heap.size sI [y] s) (hz : sz sSystem d ≤ 1048576) (hz1 : sz sI t ≤ 1048576) (hz2 : sz sI s ≤ 1048576) (_ : -9223372036854775808 ≤ x) (_ : x ≤ 9223372036854775807) :
  Calls Try.prog 31 #[.agg #[a, v], u, y, .int .i64 x] w (AnsWalk w ((toO d.1 d.2 t s x).getD ([], [])) (toO d.1 d.2 t s x).isSome) := implWalkTo a v u y d t s x w h ht hs hz hz1 hz2
end walkToX
end
section
open Go.Lib (hid)
namespace wWalkTo
open Go.RowKit base ints sig cursor marks app sym appAt segs segsHelp segsMark kinds shape varsOf kindsR kindsW ruleMath ruleSpec stepMath walkMath stepSpec walkSpec reachMath reachSpec walkToX
set_option maxRecDepth 100000
set_option maxHeartbeats 8000000 in
theorem law (v0_0 v0_1 : Value) (d0 : Dat sSystem) (a1 : Option Addr) (n1 c1 : Nat) (d1 : List Int) (a2 : Option Addr) (n2 c2 : Nat) (d2 : List Int) (x3 : Int) (w : World) (s0 : Rd w w.heap.size sSystem [v0_0, v0_1] d0) (s1 : Rd w w.heap.size sI [.slice a1 n1 c1] d1) (s2 : Rd w w.heap.size sI [.slice a2 n2 c2] d2) (b3 : (Lit.int .i64 x3).wf = true) :
  Calls Try.prog 8 #[.agg #[v0_0, v0_1], .slice a1 n1 c1, .slice a2 n2 c2, .int .i64 x3] w (Fine w) := by
 have bd3 : -9223372036854775808 ≤ x3 ∧ x3 ≤ 9223372036854775807 := by simpa [Lit.wf, IntKind.min, IntKind.max, IntKind.signed, IntKind.bits] using b3
 obtain ⟨bl3, bh3⟩ := bd3
 clear b3
 have Hl1 := hid s1.seg.1
 have cp1 := (by obtain ⟨A, c, ec, hc⟩ := s1.slice; injection ec with e1 e2 e3; subst e1 e2 e3; exact hc : Cap a1 n1 c1)
 have hN1 : n1 ≤ 9223372036854775807 := Nat.le_trans cp1.1 cp1.2.1
 clear cp1
 have Hl2 := hid s2.seg.1
 have cp2 := (by obtain ⟨A, c, ec, hc⟩ := s2.slice; injection ec with e1 e2 e3; subst e1 e2 e3; exact hc : Cap a2 n2 c2)
 have hN2 : n2 ≤ 9223372036854775807 := Nat.le_trans cp2.1 cp2.2.1
 clear cp2
 obtain ⟨W, hW⟩ : ∃ W, W = w.alloc (.cells #[v0_0, v0_1] 27) := ⟨_, rfl⟩
 have rA0 : Row W (w.heap.size) 27 #[v0_0, v0_1] := by rw [hW]; have := Row.new (w) 27 #[v0_0, v0_1]; simpa using this
 have bW : Below w.heap.size w W := by rw [hW]; exact (Below.refl w.heap.size w).alloc (by simp) (.cells #[v0_0, v0_1] 27)
 have zA0 := rA0.lt
 replace s0 := s0.next bW
 replace s1 := s1.next bW
 replace s2 := s2.next bW
 have HW := hid hW
 clear hW
 obtain ⟨t0, ht0⟩ : ∃ z, sz sSystem d0 = z := ⟨_, rfl⟩
 have HT0 := hid ht0
 clear ht0
 obtain ⟨v, hv⟩ : ∃ v, (toO d0.1 d0.2 d1 d2 x3).isSome = v := ⟨_, rfl⟩
 have HV := hid hv
 clear hv
 have ev : (v != v) = false := by simp
 by_cases h1 : n1 ≤ 1048576
 case neg =>
  go_enter Try.func8, Try.ntmps8
  go_wp2_with fail
  rw [← HW.out]
  go_ret
  exact ⟨rfl, bW⟩
 have hi1 : Hid (sz sI d1 ≤ 1048576) := hid (by rw [sz_ints, Hl1.out]; exact h1)
 have hn1 := h1
 clear h1
 have h1 := hi1
 clear hi1
 by_cases h2 : n2 ≤ 1048576
 case neg =>
  go_enter Try.func8, Try.ntmps8
  go_wp2_with fail
  rw [← HW.out]
  go_ret
  exact ⟨rfl, bW⟩
 have hi2 : Hid (sz sI d2 ≤ 1048576) := hid (by rw [sz_ints, Hl2.out]; exact h2)
 have hn2 := h2
 clear h2
 have h2 := hi2
 clear hi2
 go_enter Try.func8, Try.ntmps8
 go_wp2_with fail
 rw [← HW.out]
 clear HW
 have bel := Below.refl W.heap.size W
 have cA0_0 : W.cell? ⟨w.heap.size, 0, none⟩ = some (v0_0) := (rA0.next bel).cell 0
 have cA0_1 : W.cell? ⟨w.heap.size, 1, none⟩ = some (v0_1) := (rA0.next bel).cell 1
 refine (szK_System _ _ d0 (1048576) _ (s0.next bel) (by omega) (by omega)).mono ?_
 rintro e w1 ⟨he, bb⟩
 rw [HT0.out] at he
 replace bel := next_trans bel bb
 have zw1 := bb.size
 clear bb
 by_cases q0 : t0 ≤ 1048576
 case neg =>
  rw [if_pos (by omega)] at he
  subst he
  have F := hid (bW.trans (bel.mono bW.size))
  clear bel bW cA0_0 cA0_1
  go_wp2
  go_ret
  exact ⟨rfl, F.out⟩
 rw [if_neg (by omega)] at he
 subst he
 have h0 : Hid (sz sSystem d0 ≤ 1048576) := hid (by rw [HT0.out]; omega)
 clear cA0_0 cA0_1
 have cA0_0 : w1.cell? ⟨w.heap.size, 0, none⟩ = some (v0_0) := (rA0.next bel).cell 0
 have cA0_1 : w1.cell? ⟨w.heap.size, 1, none⟩ = some (v0_1) := (rA0.next bel).cell 1
 have hlen : sz sWalk ((toO d0.1 d0.2 d1 d2 x3).getD ([], [])) ≤ 1048576 := to_sz
 obtain ⟨ys, hys⟩ : ∃ ys, (toO d0.1 d0.2 d1 d2 x3).getD ([], []) = ys := ⟨_, rfl⟩
 rw [hys] at hlen
 have HY := hid hys
 clear hys
 replace hlen := hid hlen
 obtain ⟨cg, hcg⟩ : ∃ z, cntv sWalk ys = z := ⟨_, rfl⟩
 have hcG : cg ≤ 4 * 1048576 := by have j1 := cntv_le sWalk ys; have j2 := hlen.out; have j3 : wd sWalk = 4 := rfl; rw [hcg, j3] at j1; omega
 have HCG := hid hcg
 clear hcg
 obtain ⟨k0, hk0⟩ : ∃ z, cntv sSystem d0 = z := ⟨_, rfl⟩
 have hK0 : k0 ≤ 3 * 1048576 := by have j1 := cntv_le sSystem d0; have j2 := h0.out; have j3 : wd sSystem = 3 := rfl; rw [hk0, j3] at j1; omega
 have HK0 := hid hk0
 clear hk0
 obtain ⟨k1, hk1⟩ : ∃ z, cntv sI d1 = z := ⟨_, rfl⟩
 have hK1 : k1 ≤ 1 * 1048576 := by have j1 := cntv_le sI d1; have j2 := h1.out; have j3 : wd sI = 1 := rfl; rw [hk1, j3] at j1; omega
 have HK1 := hid hk1
 clear hk1
 obtain ⟨k2, hk2⟩ : ∃ z, cntv sI d2 = z := ⟨_, rfl⟩
 have hK2 : k2 ≤ 1 * 1048576 := by have j1 := cntv_le sI d2; have j2 := h2.out; have j3 : wd sI = 1 := rfl; rw [hk2, j3] at j1; omega
 have HK2 := hid hk2
 clear hk2
 go_wp2_with fail
 refine (toK_System _ _ d0 _ (s0.next bel) h0.out).mono ?_
 rintro e w2 ⟨p0A0, p0n0, p0c0, p0A1, p0n1, p0c1, rfl, op0, bb⟩
 replace bel := next_trans bel bb
 have zw2 := bb.size
 clear bb
 clear cA0_0 cA0_1
 have cA0_0 : w2.cell? ⟨w.heap.size, 0, none⟩ = some (v0_0) := (rA0.next bel).cell 0
 have cA0_1 : w2.cell? ⟨w.heap.size, 1, none⟩ = some (v0_1) := (rA0.next bel).cell 1
 go_wp2_with fail
 refine (toK_ints _ d1 _ (s1.next bel) h1.out).mono ?_
 rintro e w3 ⟨p1A0, p1n0, p1c0, rfl, op1, bb⟩
 replace op0 := op0.next bb
 replace bel := next_trans bel bb
 have zw3 := bb.size
 clear bb
 clear cA0_0 cA0_1
 have cA0_0 : w3.cell? ⟨w.heap.size, 0, none⟩ = some (v0_0) := (rA0.next bel).cell 0
 have cA0_1 : w3.cell? ⟨w.heap.size, 1, none⟩ = some (v0_1) := (rA0.next bel).cell 1
 go_wp2_with fail
 refine (toK_ints _ d2 _ (s2.next bel) h2.out).mono ?_
 rintro e w4 ⟨p2A0, p2n0, p2c0, rfl, op2, bb⟩
 replace op0 := op0.next bb
 replace op1 := op1.next bb
 replace bel := next_trans bel bb
 have zw4 := bb.size
 clear bb
 clear cA0_0 cA0_1
 have cA0_0 : w4.cell? ⟨w.heap.size, 0, none⟩ = some (v0_0) := (rA0.next bel).cell 0
 have cA0_1 : w4.cell? ⟨w.heap.size, 1, none⟩ = some (v0_1) := (rA0.next bel).cell 1
 go_wp2_with fail
 refine (specWalkToX _ _ _ _ d0 d1 d2 x3 _ op0.rd op1.rd op2.rd h0.out h1.out h2.out bl3 bh3).mono ?_
 rintro e w5 ⟨wA0, wn0, wc0, wA1, wn1, wc1, he, o0, bb⟩
 rw [HV.out] at he
 rw [HY.out] at o0
 subst he
 replace op0 := op0.next bb
 replace op1 := op1.next bb
 replace op2 := op2.next bb
 replace bel := next_trans bel bb
 have zw5 := bb.size
 clear bb
 have sw := o0.rd
 clear o0
 clear op0 op1 op2
 clear cA0_0 cA0_1
 have cA0_0 : w5.cell? ⟨w.heap.size, 0, none⟩ = some (v0_0) := (rA0.next bel).cell 0
 have cA0_1 : w5.cell? ⟨w.heap.size, 1, none⟩ = some (v0_1) := (rA0.next bel).cell 1
 have dA0_0 : (w5.alloc (.cells #[.slice wA0 wn0 wc0, .slice wA1 wn1 wc1] 50)).cell? ⟨w.heap.size, 0, none⟩ = some (v0_0) := ((rA0.next bel).alloc _).cell 0
 have dA0_1 : (w5.alloc (.cells #[.slice wA0 wn0 wc0, .slice wA1 wn1 wc1] 50)).cell? ⟨w.heap.size, 1, none⟩ = some (v0_1) := ((rA0.next bel).alloc _).cell 1
 go_wp2_with fail
 obtain ⟨w6, hw⟩ : ∃ W, W = w5.alloc (.cells #[.slice wA0 wn0 wc0, .slice wA1 wn1 wc1] 50) := ⟨_, rfl⟩
 rw [← hw]
 have rw : Row w6 w5.heap.size 50 #[.slice wA0 wn0 wc0, .slice wA1 wn1 wc1] := by rw [hw]; exact Row.new _ _ _
 have bb : Below w5.heap.size w5 w6 := by rw [hw]; exact (Below.refl _ _).alloc (Nat.le_refl _) _
 have yrw : w5.heap.size < w6.heap.size := by rw [hw]; simp
 clear hw
 replace sw := sw.next bb
 replace bel := next_trans bel bb
 have zw6 := bb.size
 clear bb
 clear dA0_0 dA0_1
 have belw := Below.refl w6.heap.size w6
 clear cA0_0 cA0_1
 have cA0_0 : w6.cell? ⟨w.heap.size, 0, none⟩ = some (v0_0) := (rA0.next bel).cell 0
 have cA0_1 : w6.cell? ⟨w.heap.size, 1, none⟩ = some (v0_1) := (rA0.next bel).cell 1
 have cw_0 : w6.cell? ⟨w5.heap.size, 0, none⟩ = some (.slice wA0 wn0 wc0) := (rw.next belw).cell 0
 have cw_1 : w6.cell? ⟨w5.heap.size, 1, none⟩ = some (.slice wA1 wn1 wc1) := (rw.next belw).cell 1
 refine (toK_System _ _ d0 _ (s0.next bel) h0.out).mono ?_
 rintro e w7 ⟨x0A0, x0n0, x0c0, x0A1, x0n1, x0c1, rfl, ox0, bb⟩
 replace bel := next_trans bel bb
 replace belw := next_trans belw bb
 have zw7 := bb.size
 clear bb
 clear cA0_0 cA0_1 cw_0 cw_1
 have cA0_0 : w7.cell? ⟨w.heap.size, 0, none⟩ = some (v0_0) := (rA0.next bel).cell 0
 have cA0_1 : w7.cell? ⟨w.heap.size, 1, none⟩ = some (v0_1) := (rA0.next bel).cell 1
 have cw_0 : w7.cell? ⟨w5.heap.size, 0, none⟩ = some (.slice wA0 wn0 wc0) := (rw.next belw).cell 0
 have cw_1 : w7.cell? ⟨w5.heap.size, 1, none⟩ = some (.slice wA1 wn1 wc1) := (rw.next belw).cell 1
 have dA0_0 : (w7.alloc (.cells #[.slice x0A0 x0n0 x0c0, .slice x0A1 x0n1 x0c1] 34)).cell? ⟨w.heap.size, 0, none⟩ = some (v0_0) := ((rA0.next bel).alloc _).cell 0
 have dA0_1 : (w7.alloc (.cells #[.slice x0A0 x0n0 x0c0, .slice x0A1 x0n1 x0c1] 34)).cell? ⟨w.heap.size, 1, none⟩ = some (v0_1) := ((rA0.next bel).alloc _).cell 1
 have dw_0 : (w7.alloc (.cells #[.slice x0A0 x0n0 x0c0, .slice x0A1 x0n1 x0c1] 34)).cell? ⟨w5.heap.size, 0, none⟩ = some (.slice wA0 wn0 wc0) := ((rw.next belw).alloc _).cell 0
 have dw_1 : (w7.alloc (.cells #[.slice x0A0 x0n0 x0c0, .slice x0A1 x0n1 x0c1] 34)).cell? ⟨w5.heap.size, 1, none⟩ = some (.slice wA1 wn1 wc1) := ((rw.next belw).alloc _).cell 1
 go_wp2_with fail
 obtain ⟨w8, hw⟩ : ∃ W, W = w7.alloc (.cells #[.slice x0A0 x0n0 x0c0, .slice x0A1 x0n1 x0c1] 34) := ⟨_, rfl⟩
 rw [← hw]
 have rx0 : Row w8 w7.heap.size 34 #[.slice x0A0 x0n0 x0c0, .slice x0A1 x0n1 x0c1] := by rw [hw]; exact Row.new _ _ _
 have bb : Below w7.heap.size w7 w8 := by rw [hw]; exact (Below.refl _ _).alloc (Nat.le_refl _) _
 have yrx0 : w7.heap.size < w8.heap.size := by rw [hw]; simp
 clear hw
 replace ox0 := ox0.next bb
 replace bel := next_trans bel bb
 replace belw := next_trans belw bb
 have zw8 := bb.size
 clear bb
 clear dA0_0 dA0_1 dw_0 dw_1
 clear cA0_0 cA0_1 cw_0 cw_1
 have cA0_0 : w8.cell? ⟨w.heap.size, 0, none⟩ = some (v0_0) := (rA0.next bel).cell 0
 have cA0_1 : w8.cell? ⟨w.heap.size, 1, none⟩ = some (v0_1) := (rA0.next bel).cell 1
 have cw_0 : w8.cell? ⟨w5.heap.size, 0, none⟩ = some (.slice wA0 wn0 wc0) := (rw.next belw).cell 0
 have cw_1 : w8.cell? ⟨w5.heap.size, 1, none⟩ = some (.slice wA1 wn1 wc1) := (rw.next belw).cell 1
 have cx0_0 : w8.cell? ⟨w7.heap.size, 0, none⟩ = some (.slice x0A0 x0n0 x0c0) := (rx0).cell 0
 have cx0_1 : w8.cell? ⟨w7.heap.size, 1, none⟩ = some (.slice x0A1 x0n1 x0c1) := (rx0).cell 1
 refine (toK_ints _ d1 _ (s1.next bel) h1.out).mono ?_
 rintro e w9 ⟨x1A0, x1n0, x1c0, rfl, ox1, bb⟩
 replace ox0 := ox0.next bb
 replace rx0 := rx0.next bb
 replace bel := next_trans bel bb
 replace belw := next_trans belw bb
 have zw9 := bb.size
 clear bb
 clear cA0_0 cA0_1 cw_0 cw_1 cx0_0 cx0_1
 have cA0_0 : w9.cell? ⟨w.heap.size, 0, none⟩ = some (v0_0) := (rA0.next bel).cell 0
 have cA0_1 : w9.cell? ⟨w.heap.size, 1, none⟩ = some (v0_1) := (rA0.next bel).cell 1
 have cw_0 : w9.cell? ⟨w5.heap.size, 0, none⟩ = some (.slice wA0 wn0 wc0) := (rw.next belw).cell 0
 have cw_1 : w9.cell? ⟨w5.heap.size, 1, none⟩ = some (.slice wA1 wn1 wc1) := (rw.next belw).cell 1
 have cx0_0 : w9.cell? ⟨w7.heap.size, 0, none⟩ = some (.slice x0A0 x0n0 x0c0) := (rx0).cell 0
 have cx0_1 : w9.cell? ⟨w7.heap.size, 1, none⟩ = some (.slice x0A1 x0n1 x0c1) := (rx0).cell 1
 go_wp2_with fail
 refine (toK_ints _ d2 _ (s2.next bel) h2.out).mono ?_
 rintro e w10 ⟨x2A0, x2n0, x2c0, rfl, ox2, bb⟩
 replace ox0 := ox0.next bb
 replace rx0 := rx0.next bb
 replace ox1 := ox1.next bb
 replace bel := next_trans bel bb
 replace belw := next_trans belw bb
 have zw10 := bb.size
 clear bb
 clear cA0_0 cA0_1 cw_0 cw_1 cx0_0 cx0_1
 have cA0_0 : w10.cell? ⟨w.heap.size, 0, none⟩ = some (v0_0) := (rA0.next bel).cell 0
 have cA0_1 : w10.cell? ⟨w.heap.size, 1, none⟩ = some (v0_1) := (rA0.next bel).cell 1
 have cw_0 : w10.cell? ⟨w5.heap.size, 0, none⟩ = some (.slice wA0 wn0 wc0) := (rw.next belw).cell 0
 have cw_1 : w10.cell? ⟨w5.heap.size, 1, none⟩ = some (.slice wA1 wn1 wc1) := (rw.next belw).cell 1
 have cx0_0 : w10.cell? ⟨w7.heap.size, 0, none⟩ = some (.slice x0A0 x0n0 x0c0) := (rx0).cell 0
 have cx0_1 : w10.cell? ⟨w7.heap.size, 1, none⟩ = some (.slice x0A1 x0n1 x0c1) := (rx0).cell 1
 go_wp2_with fail
 refine (implWalkToX _ _ _ _ d0 d1 d2 x3 _ ox0.rd ox1.rd ox2.rd h0.out h1.out h2.out bl3 bh3).mono ?_
 rintro e w11 ⟨gA0, gn0, gc0, gA1, gn1, gc1, he, o0, bb⟩
 rw [HV.out] at he
 rw [HY.out] at o0
 subst he
 replace ox0 := ox0.next bb
 replace rx0 := rx0.next bb
 replace ox1 := ox1.next bb
 replace ox2 := ox2.next bb
 replace bel := next_trans bel bb
 replace belw := next_trans belw bb
 have zw11 := bb.size
 clear bb
 have og := o0
 clear o0
 clear cA0_0 cA0_1 cw_0 cw_1 cx0_0 cx0_1
 have cA0_0 : w11.cell? ⟨w.heap.size, 0, none⟩ = some (v0_0) := (rA0.next bel).cell 0
 have cA0_1 : w11.cell? ⟨w.heap.size, 1, none⟩ = some (v0_1) := (rA0.next bel).cell 1
 have cw_0 : w11.cell? ⟨w5.heap.size, 0, none⟩ = some (.slice wA0 wn0 wc0) := (rw.next belw).cell 0
 have cw_1 : w11.cell? ⟨w5.heap.size, 1, none⟩ = some (.slice wA1 wn1 wc1) := (rw.next belw).cell 1
 have cx0_0 : w11.cell? ⟨w7.heap.size, 0, none⟩ = some (.slice x0A0 x0n0 x0c0) := (rx0).cell 0
 have cx0_1 : w11.cell? ⟨w7.heap.size, 1, none⟩ = some (.slice x0A1 x0n1 x0c1) := (rx0).cell 1
 have dA0_0 : (w11.alloc (.cells #[.slice gA0 gn0 gc0, .slice gA1 gn1 gc1] 50)).cell? ⟨w.heap.size, 0, none⟩ = some (v0_0) := ((rA0.next bel).alloc _).cell 0
 have dA0_1 : (w11.alloc (.cells #[.slice gA0 gn0 gc0, .slice gA1 gn1 gc1] 50)).cell? ⟨w.heap.size, 1, none⟩ = some (v0_1) := ((rA0.next bel).alloc _).cell 1
 have dw_0 : (w11.alloc (.cells #[.slice gA0 gn0 gc0, .slice gA1 gn1 gc1] 50)).cell? ⟨w5.heap.size, 0, none⟩ = some (.slice wA0 wn0 wc0) := ((rw.next belw).alloc _).cell 0
 have dw_1 : (w11.alloc (.cells #[.slice gA0 gn0 gc0, .slice gA1 gn1 gc1] 50)).cell? ⟨w5.heap.size, 1, none⟩ = some (.slice wA1 wn1 wc1) := ((rw.next belw).alloc _).cell 1
 have dx0_0 : (w11.alloc (.cells #[.slice gA0 gn0 gc0, .slice gA1 gn1 gc1] 50)).cell? ⟨w7.heap.size, 0, none⟩ = some (.slice x0A0 x0n0 x0c0) := ((rx0).alloc _).cell 0
 have dx0_1 : (w11.alloc (.cells #[.slice gA0 gn0 gc0, .slice gA1 gn1 gc1] 50)).cell? ⟨w7.heap.size, 1, none⟩ = some (.slice x0A1 x0n1 x0c1) := ((rx0).alloc _).cell 1
 go_wp2_with fail
 obtain ⟨w12, hw⟩ : ∃ W, W = w11.alloc (.cells #[.slice gA0 gn0 gc0, .slice gA1 gn1 gc1] 50) := ⟨_, rfl⟩
 rw [← hw]
 have rg : Row w12 w11.heap.size 50 #[.slice gA0 gn0 gc0, .slice gA1 gn1 gc1] := by rw [hw]; exact Row.new _ _ _
 have bb : Below w11.heap.size w11 w12 := by rw [hw]; exact (Below.refl _ _).alloc (Nat.le_refl _) _
 have yrg : w11.heap.size < w12.heap.size := by rw [hw]; simp
 clear hw
 replace ox0 := ox0.next bb
 replace rx0 := rx0.next bb
 replace ox1 := ox1.next bb
 replace ox2 := ox2.next bb
 replace og := og.next bb
 replace bel := next_trans bel bb
 replace belw := next_trans belw bb
 have zw12 := bb.size
 clear bb
 clear dA0_0 dA0_1 dw_0 dw_1 dx0_0 dx0_1
 clear cA0_0 cA0_1 cw_0 cw_1 cx0_0 cx0_1
 have cA0_0 : w12.cell? ⟨w.heap.size, 0, none⟩ = some (v0_0) := (rA0.next bel).cell 0
 have cA0_1 : w12.cell? ⟨w.heap.size, 1, none⟩ = some (v0_1) := (rA0.next bel).cell 1
 have cw_0 : w12.cell? ⟨w5.heap.size, 0, none⟩ = some (.slice wA0 wn0 wc0) := (rw.next belw).cell 0
 have cw_1 : w12.cell? ⟨w5.heap.size, 1, none⟩ = some (.slice wA1 wn1 wc1) := (rw.next belw).cell 1
 have cx0_0 : w12.cell? ⟨w7.heap.size, 0, none⟩ = some (.slice x0A0 x0n0 x0c0) := (rx0).cell 0
 have cx0_1 : w12.cell? ⟨w7.heap.size, 1, none⟩ = some (.slice x0A1 x0n1 x0c1) := (rx0).cell 1
 have cg_0 : w12.cell? ⟨w11.heap.size, 0, none⟩ = some (.slice gA0 gn0 gc0) := (rg).cell 0
 have cg_1 : w12.cell? ⟨w11.heap.size, 1, none⟩ = some (.slice gA1 gn1 gc1) := (rg).cell 1
 refine (eqK_Walk _ _ _ _ ys _ og.rd (sw.next belw) hlen.out).mono ?_
 rintro e w13 ⟨rfl, bb⟩
 replace ox0 := ox0.next bb
 replace rx0 := rx0.next bb
 replace ox1 := ox1.next bb
 replace ox2 := ox2.next bb
 replace og := og.next bb
 replace rg := rg.next bb
 replace bel := next_trans bel bb
 replace belw := next_trans belw bb
 have zw13 := bb.size
 clear bb
 clear cA0_0 cA0_1 cw_0 cw_1 cx0_0 cx0_1 cg_0 cg_1
 have cA0_0 : w13.cell? ⟨w.heap.size, 0, none⟩ = some (v0_0) := (rA0.next bel).cell 0
 have cA0_1 : w13.cell? ⟨w.heap.size, 1, none⟩ = some (v0_1) := (rA0.next bel).cell 1
 have cw_0 : w13.cell? ⟨w5.heap.size, 0, none⟩ = some (.slice wA0 wn0 wc0) := (rw.next belw).cell 0
 have cw_1 : w13.cell? ⟨w5.heap.size, 1, none⟩ = some (.slice wA1 wn1 wc1) := (rw.next belw).cell 1
 have cx0_0 : w13.cell? ⟨w7.heap.size, 0, none⟩ = some (.slice x0A0 x0n0 x0c0) := (rx0).cell 0
 have cx0_1 : w13.cell? ⟨w7.heap.size, 1, none⟩ = some (.slice x0A1 x0n1 x0c1) := (rx0).cell 1
 have cg_0 : w13.cell? ⟨w11.heap.size, 0, none⟩ = some (.slice gA0 gn0 gc0) := (rg).cell 0
 have cg_1 : w13.cell? ⟨w11.heap.size, 1, none⟩ = some (.slice gA1 gn1 gc1) := (rg).cell 1
 go_wp2_with fail
 replace ox0 := ox0.drew
 replace rx0 := rx0.drew
 replace ox1 := ox1.drew
 replace ox2 := ox2.drew
 replace og := og.drew
 replace rg := rg.drew
 replace bel := bel.drew
 replace belw := belw.drew
 have zdw13 := (drew_below w13).size
 go_region_held3 (fun w' => w'.cell? ⟨w7.heap.size, 0, none⟩ = some (.slice x0A0 x0n0 x0c0) ∧ w'.cell? ⟨w7.heap.size, 1, none⟩ = some (.slice x0A1 x0n1 x0c1) ∧ w'.cell? ⟨w.heap.size, 0, none⟩ = some (v0_0) ∧ w'.cell? ⟨w.heap.size, 1, none⟩ = some (v0_1))
  (go_keep)
  (first
   | (go_at_call 11; refine (toK_System _ _ d0 _ (s0.next bel) h0.out).mono ?_; rintro e w14 ⟨t0A0, t0n0, t0c0, t0A1, t0n1, t0c1, rfl, ot, bb⟩; replace ox0 := ox0.next bb; replace rx0 := rx0.next bb; replace ox1 := ox1.next bb; replace ox2 := ox2.next bb; replace og := og.next bb; replace rg := rg.next bb; replace bel := next_trans bel bb; replace belw := next_trans belw bb; have k0_0w14 : w14.cell? ⟨w.heap.size, 0, none⟩ = some (v0_0) := (rA0.next bel).cell 0; have k0_1w14 : w14.cell? ⟨w.heap.size, 1, none⟩ = some (v0_1) := (rA0.next bel).cell 1; have l0_0w14 : w14.cell? ⟨w7.heap.size, 0, none⟩ = some (.slice x0A0 x0n0 x0c0) := rx0.cell 0; have l0_1w14 : w14.cell? ⟨w7.heap.size, 1, none⟩ = some (.slice x0A1 x0n1 x0c1) := rx0.cell 1; have zqw14 := bb.size; clear bb)
   | (go_at_call 14; refine (eqK_System _ _ _ _ d0 _ ox0.rd ot.rd h0.out).mono ?_; rintro e w15 ⟨rfl, bb⟩; replace ox0 := ox0.next bb; replace rx0 := rx0.next bb; replace ox1 := ox1.next bb; replace ox2 := ox2.next bb; replace og := og.next bb; replace rg := rg.next bb; replace bel := next_trans bel bb; replace belw := next_trans belw bb; have k0_0w15 : w15.cell? ⟨w.heap.size, 0, none⟩ = some (v0_0) := (rA0.next bel).cell 0; have k0_1w15 : w15.cell? ⟨w.heap.size, 1, none⟩ = some (v0_1) := (rA0.next bel).cell 1; have l0_0w15 : w15.cell? ⟨w7.heap.size, 0, none⟩ = some (.slice x0A0 x0n0 x0c0) := rx0.cell 0; have l0_1w15 : w15.cell? ⟨w7.heap.size, 1, none⟩ = some (.slice x0A1 x0n1 x0c1) := rx0.cell 1; have zqw15 := bb.size; clear bb ot))
 clear k0_0w14 l0_0w14 k0_1w14 l0_1w14 k0_0w15 l0_0w15 k0_1w15 l0_1w15
 clear cA0_0 cA0_1 cw_0 cw_1 cx0_0 cx0_1 cg_0 cg_1
 have cA0_0 : w15.cell? ⟨w.heap.size, 0, none⟩ = some (v0_0) := (rA0.next bel).cell 0
 have cA0_1 : w15.cell? ⟨w.heap.size, 1, none⟩ = some (v0_1) := (rA0.next bel).cell 1
 have cw_0 : w15.cell? ⟨w5.heap.size, 0, none⟩ = some (.slice wA0 wn0 wc0) := (rw.next belw).cell 0
 have cw_1 : w15.cell? ⟨w5.heap.size, 1, none⟩ = some (.slice wA1 wn1 wc1) := (rw.next belw).cell 1
 have cx0_0 : w15.cell? ⟨w7.heap.size, 0, none⟩ = some (.slice x0A0 x0n0 x0c0) := (rx0).cell 0
 have cx0_1 : w15.cell? ⟨w7.heap.size, 1, none⟩ = some (.slice x0A1 x0n1 x0c1) := (rx0).cell 1
 have cg_0 : w15.cell? ⟨w11.heap.size, 0, none⟩ = some (.slice gA0 gn0 gc0) := (rg).cell 0
 have cg_1 : w15.cell? ⟨w11.heap.size, 1, none⟩ = some (.slice gA1 gn1 gc1) := (rg).cell 1
 go_wp2_with fail
 refine (toK_ints _ d1 _ (s1.next bel) h1.out).mono ?_
 rintro e w16 ⟨t1A0, t1n0, t1c0, rfl, ot1, bb⟩
 replace ox0 := ox0.next bb
 replace rx0 := rx0.next bb
 replace ox1 := ox1.next bb
 replace ox2 := ox2.next bb
 replace og := og.next bb
 replace rg := rg.next bb
 replace bel := next_trans bel bb
 replace belw := next_trans belw bb
 have zw16 := bb.size
 clear bb
 clear cA0_0 cA0_1 cw_0 cw_1 cx0_0 cx0_1 cg_0 cg_1
 have cA0_0 : w16.cell? ⟨w.heap.size, 0, none⟩ = some (v0_0) := (rA0.next bel).cell 0
 have cA0_1 : w16.cell? ⟨w.heap.size, 1, none⟩ = some (v0_1) := (rA0.next bel).cell 1
 have cw_0 : w16.cell? ⟨w5.heap.size, 0, none⟩ = some (.slice wA0 wn0 wc0) := (rw.next belw).cell 0
 have cw_1 : w16.cell? ⟨w5.heap.size, 1, none⟩ = some (.slice wA1 wn1 wc1) := (rw.next belw).cell 1
 have cx0_0 : w16.cell? ⟨w7.heap.size, 0, none⟩ = some (.slice x0A0 x0n0 x0c0) := (rx0).cell 0
 have cx0_1 : w16.cell? ⟨w7.heap.size, 1, none⟩ = some (.slice x0A1 x0n1 x0c1) := (rx0).cell 1
 have cg_0 : w16.cell? ⟨w11.heap.size, 0, none⟩ = some (.slice gA0 gn0 gc0) := (rg).cell 0
 have cg_1 : w16.cell? ⟨w11.heap.size, 1, none⟩ = some (.slice gA1 gn1 gc1) := (rg).cell 1
 go_wp2_with fail
 refine (eqK_ints _ _ d1 _ ox1.rd ot1.rd h1.out).mono ?_
 rintro e w17 ⟨rfl, bb⟩
 replace ox0 := ox0.next bb
 replace rx0 := rx0.next bb
 replace ox1 := ox1.next bb
 replace ox2 := ox2.next bb
 replace og := og.next bb
 replace rg := rg.next bb
 replace ot1 := ot1.next bb
 replace bel := next_trans bel bb
 replace belw := next_trans belw bb
 have zw17 := bb.size
 clear bb
 clear ot1
 clear cA0_0 cA0_1 cw_0 cw_1 cx0_0 cx0_1 cg_0 cg_1
 have cA0_0 : w17.cell? ⟨w.heap.size, 0, none⟩ = some (v0_0) := (rA0.next bel).cell 0
 have cA0_1 : w17.cell? ⟨w.heap.size, 1, none⟩ = some (v0_1) := (rA0.next bel).cell 1
 have cw_0 : w17.cell? ⟨w5.heap.size, 0, none⟩ = some (.slice wA0 wn0 wc0) := (rw.next belw).cell 0
 have cw_1 : w17.cell? ⟨w5.heap.size, 1, none⟩ = some (.slice wA1 wn1 wc1) := (rw.next belw).cell 1
 have cx0_0 : w17.cell? ⟨w7.heap.size, 0, none⟩ = some (.slice x0A0 x0n0 x0c0) := (rx0).cell 0
 have cx0_1 : w17.cell? ⟨w7.heap.size, 1, none⟩ = some (.slice x0A1 x0n1 x0c1) := (rx0).cell 1
 have cg_0 : w17.cell? ⟨w11.heap.size, 0, none⟩ = some (.slice gA0 gn0 gc0) := (rg).cell 0
 have cg_1 : w17.cell? ⟨w11.heap.size, 1, none⟩ = some (.slice gA1 gn1 gc1) := (rg).cell 1
 go_wp2_with fail
 refine (toK_ints _ d2 _ (s2.next bel) h2.out).mono ?_
 rintro e w18 ⟨t2A0, t2n0, t2c0, rfl, ot2, bb⟩
 replace ox0 := ox0.next bb
 replace rx0 := rx0.next bb
 replace ox1 := ox1.next bb
 replace ox2 := ox2.next bb
 replace og := og.next bb
 replace rg := rg.next bb
 replace bel := next_trans bel bb
 replace belw := next_trans belw bb
 have zw18 := bb.size
 clear bb
 clear cA0_0 cA0_1 cw_0 cw_1 cx0_0 cx0_1 cg_0 cg_1
 have cA0_0 : w18.cell? ⟨w.heap.size, 0, none⟩ = some (v0_0) := (rA0.next bel).cell 0
 have cA0_1 : w18.cell? ⟨w.heap.size, 1, none⟩ = some (v0_1) := (rA0.next bel).cell 1
 have cw_0 : w18.cell? ⟨w5.heap.size, 0, none⟩ = some (.slice wA0 wn0 wc0) := (rw.next belw).cell 0
 have cw_1 : w18.cell? ⟨w5.heap.size, 1, none⟩ = some (.slice wA1 wn1 wc1) := (rw.next belw).cell 1
 have cx0_0 : w18.cell? ⟨w7.heap.size, 0, none⟩ = some (.slice x0A0 x0n0 x0c0) := (rx0).cell 0
 have cx0_1 : w18.cell? ⟨w7.heap.size, 1, none⟩ = some (.slice x0A1 x0n1 x0c1) := (rx0).cell 1
 have cg_0 : w18.cell? ⟨w11.heap.size, 0, none⟩ = some (.slice gA0 gn0 gc0) := (rg).cell 0
 have cg_1 : w18.cell? ⟨w11.heap.size, 1, none⟩ = some (.slice gA1 gn1 gc1) := (rg).cell 1
 go_wp2_with fail
 refine (eqK_ints _ _ d2 _ ox2.rd ot2.rd h2.out).mono ?_
 rintro e w19 ⟨rfl, bb⟩
 replace ox0 := ox0.next bb
 replace rx0 := rx0.next bb
 replace ox1 := ox1.next bb
 replace ox2 := ox2.next bb
 replace og := og.next bb
 replace rg := rg.next bb
 replace ot2 := ot2.next bb
 replace bel := next_trans bel bb
 replace belw := next_trans belw bb
 have zw19 := bb.size
 clear bb
 clear ot2
 clear cA0_0 cA0_1 cw_0 cw_1 cx0_0 cx0_1 cg_0 cg_1
 have cA0_0 : w19.cell? ⟨w.heap.size, 0, none⟩ = some (v0_0) := (rA0.next bel).cell 0
 have cA0_1 : w19.cell? ⟨w.heap.size, 1, none⟩ = some (v0_1) := (rA0.next bel).cell 1
 have cw_0 : w19.cell? ⟨w5.heap.size, 0, none⟩ = some (.slice wA0 wn0 wc0) := (rw.next belw).cell 0
 have cw_1 : w19.cell? ⟨w5.heap.size, 1, none⟩ = some (.slice wA1 wn1 wc1) := (rw.next belw).cell 1
 have cx0_0 : w19.cell? ⟨w7.heap.size, 0, none⟩ = some (.slice x0A0 x0n0 x0c0) := (rx0).cell 0
 have cx0_1 : w19.cell? ⟨w7.heap.size, 1, none⟩ = some (.slice x0A1 x0n1 x0c1) := (rx0).cell 1
 have cg_0 : w19.cell? ⟨w11.heap.size, 0, none⟩ = some (.slice gA0 gn0 gc0) := (rg).cell 0
 have cg_1 : w19.cell? ⟨w11.heap.size, 1, none⟩ = some (.slice gA1 gn1 gc1) := (rg).cell 1
 obtain ⟨Fox0, fox0, nox0, box0⟩ := ox0
 go_wp2_with fail
 refine (markK_System _ _ d0 (1) Fox0 _ fox0 nox0 h0.out (by omega) (by rw [HK0.out]; omega)).mono ?_
 rintro e w20 ⟨he, omox0, onox0⟩
 rw [HK0.out] at he
 have bt := onox0.btw box0
 clear onox0
 clear omox0 fox0 nox0 box0
 subst he
 replace rx0 := Row.btw rx0 bt (by omega)
 replace ox1 := ox1.btw bt (by omega)
 replace ox2 := ox2.btw bt (by omega)
 replace og := og.btw bt (by omega)
 replace rg := Row.btw rg bt (by omega)
 replace bel := Below.btw bel bt (by omega) bel.size
 replace belw := Below.btw belw bt (by omega) belw.size
 have zw20 := bt.size
 clear bt
 clear cA0_0 cA0_1 cw_0 cw_1 cx0_0 cx0_1 cg_0 cg_1
 have cA0_0 : w20.cell? ⟨w.heap.size, 0, none⟩ = some (v0_0) := (rA0.next bel).cell 0
 have cA0_1 : w20.cell? ⟨w.heap.size, 1, none⟩ = some (v0_1) := (rA0.next bel).cell 1
 have cw_0 : w20.cell? ⟨w5.heap.size, 0, none⟩ = some (.slice wA0 wn0 wc0) := (rw.next belw).cell 0
 have cw_1 : w20.cell? ⟨w5.heap.size, 1, none⟩ = some (.slice wA1 wn1 wc1) := (rw.next belw).cell 1
 have cx0_0 : w20.cell? ⟨w7.heap.size, 0, none⟩ = some (.slice x0A0 x0n0 x0c0) := (rx0).cell 0
 have cx0_1 : w20.cell? ⟨w7.heap.size, 1, none⟩ = some (.slice x0A1 x0n1 x0c1) := (rx0).cell 1
 have cg_0 : w20.cell? ⟨w11.heap.size, 0, none⟩ = some (.slice gA0 gn0 gc0) := (rg).cell 0
 have cg_1 : w20.cell? ⟨w11.heap.size, 1, none⟩ = some (.slice gA1 gn1 gc1) := (rg).cell 1
 obtain ⟨Fox1, fox1, nox1, box1⟩ := ox1
 go_wp2_with fail
 refine (markK_ints _ d1 (1 + (k0 : Int)) Fox1 _ fox1 h1.out (by omega) (by omega)).mono ?_
 rintro e w21 ⟨he, omox1, onox1⟩
 rw [HK1.out] at he
 have bt := onox1.btw box1
 clear onox1
 clear omox1 fox1 nox1 box1
 subst he
 replace rx0 := Row.btw rx0 bt (by omega)
 replace ox2 := ox2.btw bt (by omega)
 replace og := og.btw bt (by omega)
 replace rg := Row.btw rg bt (by omega)
 replace bel := Below.btw bel bt (by omega) bel.size
 replace belw := Below.btw belw bt (by omega) belw.size
 have zw21 := bt.size
 clear bt
 clear cA0_0 cA0_1 cw_0 cw_1 cx0_0 cx0_1 cg_0 cg_1
 have cA0_0 : w21.cell? ⟨w.heap.size, 0, none⟩ = some (v0_0) := (rA0.next bel).cell 0
 have cA0_1 : w21.cell? ⟨w.heap.size, 1, none⟩ = some (v0_1) := (rA0.next bel).cell 1
 have cw_0 : w21.cell? ⟨w5.heap.size, 0, none⟩ = some (.slice wA0 wn0 wc0) := (rw.next belw).cell 0
 have cw_1 : w21.cell? ⟨w5.heap.size, 1, none⟩ = some (.slice wA1 wn1 wc1) := (rw.next belw).cell 1
 have cx0_0 : w21.cell? ⟨w7.heap.size, 0, none⟩ = some (.slice x0A0 x0n0 x0c0) := (rx0).cell 0
 have cx0_1 : w21.cell? ⟨w7.heap.size, 1, none⟩ = some (.slice x0A1 x0n1 x0c1) := (rx0).cell 1
 have cg_0 : w21.cell? ⟨w11.heap.size, 0, none⟩ = some (.slice gA0 gn0 gc0) := (rg).cell 0
 have cg_1 : w21.cell? ⟨w11.heap.size, 1, none⟩ = some (.slice gA1 gn1 gc1) := (rg).cell 1
 obtain ⟨Fox2, fox2, nox2, box2⟩ := ox2
 go_wp2_with fail
 refine (markK_ints _ d2 (1 + (k0 : Int) + (k1 : Int)) Fox2 _ fox2 h2.out (by omega) (by omega)).mono ?_
 rintro e w22 ⟨he, omox2, onox2⟩
 rw [HK2.out] at he
 have bt := onox2.btw box2
 clear onox2
 clear omox2 fox2 nox2 box2
 subst he
 replace rx0 := Row.btw rx0 bt (by omega)
 replace og := og.btw bt (by omega)
 replace rg := Row.btw rg bt (by omega)
 replace bel := Below.btw bel bt (by omega) bel.size
 replace belw := Below.btw belw bt (by omega) belw.size
 have zw22 := bt.size
 clear bt
 clear cA0_0 cA0_1 cw_0 cw_1 cx0_0 cx0_1 cg_0 cg_1
 have cA0_0 : w22.cell? ⟨w.heap.size, 0, none⟩ = some (v0_0) := (rA0.next bel).cell 0
 have cA0_1 : w22.cell? ⟨w.heap.size, 1, none⟩ = some (v0_1) := (rA0.next bel).cell 1
 have cw_0 : w22.cell? ⟨w5.heap.size, 0, none⟩ = some (.slice wA0 wn0 wc0) := (rw.next belw).cell 0
 have cw_1 : w22.cell? ⟨w5.heap.size, 1, none⟩ = some (.slice wA1 wn1 wc1) := (rw.next belw).cell 1
 have cx0_0 : w22.cell? ⟨w7.heap.size, 0, none⟩ = some (.slice x0A0 x0n0 x0c0) := (rx0).cell 0
 have cx0_1 : w22.cell? ⟨w7.heap.size, 1, none⟩ = some (.slice x0A1 x0n1 x0c1) := (rx0).cell 1
 have cg_0 : w22.cell? ⟨w11.heap.size, 0, none⟩ = some (.slice gA0 gn0 gc0) := (rg).cell 0
 have cg_1 : w22.cell? ⟨w11.heap.size, 1, none⟩ = some (.slice gA1 gn1 gc1) := (rg).cell 1
 clear rx0
 clear cA0_0 cA0_1 cw_0 cw_1 cx0_0 cx0_1 cg_0 cg_1
 have cA0_0 : w22.cell? ⟨w.heap.size, 0, none⟩ = some (v0_0) := (rA0.next bel).cell 0
 have cA0_1 : w22.cell? ⟨w.heap.size, 1, none⟩ = some (v0_1) := (rA0.next bel).cell 1
 have cw_0 : w22.cell? ⟨w5.heap.size, 0, none⟩ = some (.slice wA0 wn0 wc0) := (rw.next belw).cell 0
 have cw_1 : w22.cell? ⟨w5.heap.size, 1, none⟩ = some (.slice wA1 wn1 wc1) := (rw.next belw).cell 1
 have cg_0 : w22.cell? ⟨w11.heap.size, 0, none⟩ = some (.slice gA0 gn0 gc0) := (rg).cell 0
 have cg_1 : w22.cell? ⟨w11.heap.size, 1, none⟩ = some (.slice gA1 gn1 gc1) := (rg).cell 1
 go_wp2_with fail
 refine (eqK_Walk _ _ _ _ ys _ og.rd (sw.next belw) hlen.out).mono ?_
 rintro e w23 ⟨rfl, bb⟩
 replace og := og.next bb
 replace rg := rg.next bb
 replace bel := next_trans bel bb
 replace belw := next_trans belw bb
 have zw23 := bb.size
 clear bb
 clear cA0_0 cA0_1 cw_0 cw_1 cg_0 cg_1
 have cA0_0 : w23.cell? ⟨w.heap.size, 0, none⟩ = some (v0_0) := (rA0.next bel).cell 0
 have cA0_1 : w23.cell? ⟨w.heap.size, 1, none⟩ = some (v0_1) := (rA0.next bel).cell 1
 have cw_0 : w23.cell? ⟨w5.heap.size, 0, none⟩ = some (.slice wA0 wn0 wc0) := (rw.next belw).cell 0
 have cw_1 : w23.cell? ⟨w5.heap.size, 1, none⟩ = some (.slice wA1 wn1 wc1) := (rw.next belw).cell 1
 have cg_0 : w23.cell? ⟨w11.heap.size, 0, none⟩ = some (.slice gA0 gn0 gc0) := (rg).cell 0
 have cg_1 : w23.cell? ⟨w11.heap.size, 1, none⟩ = some (.slice gA1 gn1 gc1) := (rg).cell 1
 obtain ⟨Fog, fog, nog, bog⟩ := og
 go_wp2_with fail
 refine (markK_Walk _ _ ys (1) Fog _ fog nog hlen.out (by omega) (by rw [HCG.out]; omega)).mono ?_
 rintro e w24 ⟨he, omog, onog⟩
 rw [HCG.out] at he
 have bt := onog.btw bog
 clear onog
 have om : Owned w24 (w10.heap.size) (w11.heap.size) sWalk [.slice gA0 gn0 gc0, .slice gA1 gn1 gc1] (mkv sWalk 1 ys) := ⟨Fog, omog, nog, bog⟩
 clear omog fog nog bog
 subst he
 replace rg := Row.btw rg bt (by omega)
 replace bel := Below.btw bel bt (by omega) bel.size
 replace belw := Below.btw belw bt (by omega) belw.size
 have zw24 := bt.size
 clear bt
 clear cA0_0 cA0_1 cw_0 cw_1 cg_0 cg_1
 have cA0_0 : w24.cell? ⟨w.heap.size, 0, none⟩ = some (v0_0) := (rA0.next bel).cell 0
 have cA0_1 : w24.cell? ⟨w.heap.size, 1, none⟩ = some (v0_1) := (rA0.next bel).cell 1
 have cw_0 : w24.cell? ⟨w5.heap.size, 0, none⟩ = some (.slice wA0 wn0 wc0) := (rw.next belw).cell 0
 have cw_1 : w24.cell? ⟨w5.heap.size, 1, none⟩ = some (.slice wA1 wn1 wc1) := (rw.next belw).cell 1
 have cg_0 : w24.cell? ⟨w11.heap.size, 0, none⟩ = some (.slice gA0 gn0 gc0) := (rg).cell 0
 have cg_1 : w24.cell? ⟨w11.heap.size, 1, none⟩ = some (.slice gA1 gn1 gc1) := (rg).cell 1
 go_wp2_with fail
 refine (heldK_Walk _ _ ys 1 _ om.rd hlen.out (by omega) (by rw [HCG.out]; omega)).mono ?_
 rintro e w25 ⟨he, bb⟩
 rw [HCG.out] at he
 subst he
 replace rg := rg.next bb
 replace om := om.next bb
 replace bel := next_trans bel bb
 replace belw := next_trans belw bb
 have zw25 := bb.size
 clear bb
 clear cA0_0 cA0_1 cw_0 cw_1 cg_0 cg_1
 have cA0_0 : w25.cell? ⟨w.heap.size, 0, none⟩ = some (v0_0) := (rA0.next bel).cell 0
 have cA0_1 : w25.cell? ⟨w.heap.size, 1, none⟩ = some (v0_1) := (rA0.next bel).cell 1
 have cw_0 : w25.cell? ⟨w5.heap.size, 0, none⟩ = some (.slice wA0 wn0 wc0) := (rw.next belw).cell 0
 have cw_1 : w25.cell? ⟨w5.heap.size, 1, none⟩ = some (.slice wA1 wn1 wc1) := (rw.next belw).cell 1
 have cg_0 : w25.cell? ⟨w11.heap.size, 0, none⟩ = some (.slice gA0 gn0 gc0) := (rg).cell 0
 have cg_1 : w25.cell? ⟨w11.heap.size, 1, none⟩ = some (.slice gA1 gn1 gc1) := (rg).cell 1
 go_wp2_with fail
 refine (toK_System _ _ d0 _ (s0.next bel) h0.out).mono ?_
 rintro e w26 ⟨p0A0, p0n0, p0c0, p0A1, p0n1, p0c1, rfl, op0, bb⟩
 replace rg := rg.next bb
 replace om := om.next bb
 replace bel := next_trans bel bb
 replace belw := next_trans belw bb
 have zw26 := bb.size
 clear bb
 clear cA0_0 cA0_1 cw_0 cw_1 cg_0 cg_1
 have cA0_0 : w26.cell? ⟨w.heap.size, 0, none⟩ = some (v0_0) := (rA0.next bel).cell 0
 have cA0_1 : w26.cell? ⟨w.heap.size, 1, none⟩ = some (v0_1) := (rA0.next bel).cell 1
 have cw_0 : w26.cell? ⟨w5.heap.size, 0, none⟩ = some (.slice wA0 wn0 wc0) := (rw.next belw).cell 0
 have cw_1 : w26.cell? ⟨w5.heap.size, 1, none⟩ = some (.slice wA1 wn1 wc1) := (rw.next belw).cell 1
 have cg_0 : w26.cell? ⟨w11.heap.size, 0, none⟩ = some (.slice gA0 gn0 gc0) := (rg).cell 0
 have cg_1 : w26.cell? ⟨w11.heap.size, 1, none⟩ = some (.slice gA1 gn1 gc1) := (rg).cell 1
 go_wp2_with fail
 refine (toK_ints _ d1 _ (s1.next bel) h1.out).mono ?_
 rintro e w27 ⟨p1A0, p1n0, p1c0, rfl, op1, bb⟩
 replace rg := rg.next bb
 replace om := om.next bb
 replace op0 := op0.next bb
 replace bel := next_trans bel bb
 replace belw := next_trans belw bb
 have zw27 := bb.size
 clear bb
 clear cA0_0 cA0_1 cw_0 cw_1 cg_0 cg_1
 have cA0_0 : w27.cell? ⟨w.heap.size, 0, none⟩ = some (v0_0) := (rA0.next bel).cell 0
 have cA0_1 : w27.cell? ⟨w.heap.size, 1, none⟩ = some (v0_1) := (rA0.next bel).cell 1
 have cw_0 : w27.cell? ⟨w5.heap.size, 0, none⟩ = some (.slice wA0 wn0 wc0) := (rw.next belw).cell 0
 have cw_1 : w27.cell? ⟨w5.heap.size, 1, none⟩ = some (.slice wA1 wn1 wc1) := (rw.next belw).cell 1
 have cg_0 : w27.cell? ⟨w11.heap.size, 0, none⟩ = some (.slice gA0 gn0 gc0) := (rg).cell 0
 have cg_1 : w27.cell? ⟨w11.heap.size, 1, none⟩ = some (.slice gA1 gn1 gc1) := (rg).cell 1
 go_wp2_with fail
 refine (toK_ints _ d2 _ (s2.next bel) h2.out).mono ?_
 rintro e w28 ⟨p2A0, p2n0, p2c0, rfl, op2, bb⟩
 replace rg := rg.next bb
 replace om := om.next bb
 replace op0 := op0.next bb
 replace op1 := op1.next bb
 replace bel := next_trans bel bb
 replace belw := next_trans belw bb
 have zw28 := bb.size
 clear bb
 clear cA0_0 cA0_1 cw_0 cw_1 cg_0 cg_1
 have cA0_0 : w28.cell? ⟨w.heap.size, 0, none⟩ = some (v0_0) := (rA0.next bel).cell 0
 have cA0_1 : w28.cell? ⟨w.heap.size, 1, none⟩ = some (v0_1) := (rA0.next bel).cell 1
 have cw_0 : w28.cell? ⟨w5.heap.size, 0, none⟩ = some (.slice wA0 wn0 wc0) := (rw.next belw).cell 0
 have cw_1 : w28.cell? ⟨w5.heap.size, 1, none⟩ = some (.slice wA1 wn1 wc1) := (rw.next belw).cell 1
 have cg_0 : w28.cell? ⟨w11.heap.size, 0, none⟩ = some (.slice gA0 gn0 gc0) := (rg).cell 0
 have cg_1 : w28.cell? ⟨w11.heap.size, 1, none⟩ = some (.slice gA1 gn1 gc1) := (rg).cell 1
 go_wp2_with fail
 refine (implWalkToX _ _ _ _ d0 d1 d2 x3 _ op0.rd op1.rd op2.rd h0.out h1.out h2.out bl3 bh3).mono ?_
 rintro e w29 ⟨hA0, hn0, hc0, hA1, hn1, hc1, he, o0, bb⟩
 rw [HV.out] at he
 rw [HY.out] at o0
 subst he
 replace rg := rg.next bb
 replace om := om.next bb
 replace op0 := op0.next bb
 replace op1 := op1.next bb
 replace op2 := op2.next bb
 replace bel := next_trans bel bb
 replace belw := next_trans belw bb
 have zw29 := bb.size
 clear bb
 have sh := o0.rd
 clear o0
 clear op0 op1 op2
 clear cA0_0 cA0_1 cw_0 cw_1 cg_0 cg_1
 have cA0_0 : w29.cell? ⟨w.heap.size, 0, none⟩ = some (v0_0) := (rA0.next bel).cell 0
 have cA0_1 : w29.cell? ⟨w.heap.size, 1, none⟩ = some (v0_1) := (rA0.next bel).cell 1
 have cw_0 : w29.cell? ⟨w5.heap.size, 0, none⟩ = some (.slice wA0 wn0 wc0) := (rw.next belw).cell 0
 have cw_1 : w29.cell? ⟨w5.heap.size, 1, none⟩ = some (.slice wA1 wn1 wc1) := (rw.next belw).cell 1
 have cg_0 : w29.cell? ⟨w11.heap.size, 0, none⟩ = some (.slice gA0 gn0 gc0) := (rg).cell 0
 have cg_1 : w29.cell? ⟨w11.heap.size, 1, none⟩ = some (.slice gA1 gn1 gc1) := (rg).cell 1
 have dA0_0 : (w29.alloc (.cells #[.slice hA0 hn0 hc0, .slice hA1 hn1 hc1] 50)).cell? ⟨w.heap.size, 0, none⟩ = some (v0_0) := ((rA0.next bel).alloc _).cell 0
 have dA0_1 : (w29.alloc (.cells #[.slice hA0 hn0 hc0, .slice hA1 hn1 hc1] 50)).cell? ⟨w.heap.size, 1, none⟩ = some (v0_1) := ((rA0.next bel).alloc _).cell 1
 have dw_0 : (w29.alloc (.cells #[.slice hA0 hn0 hc0, .slice hA1 hn1 hc1] 50)).cell? ⟨w5.heap.size, 0, none⟩ = some (.slice wA0 wn0 wc0) := ((rw.next belw).alloc _).cell 0
 have dw_1 : (w29.alloc (.cells #[.slice hA0 hn0 hc0, .slice hA1 hn1 hc1] 50)).cell? ⟨w5.heap.size, 1, none⟩ = some (.slice wA1 wn1 wc1) := ((rw.next belw).alloc _).cell 1
 have dg_0 : (w29.alloc (.cells #[.slice hA0 hn0 hc0, .slice hA1 hn1 hc1] 50)).cell? ⟨w11.heap.size, 0, none⟩ = some (.slice gA0 gn0 gc0) := ((rg).alloc _).cell 0
 have dg_1 : (w29.alloc (.cells #[.slice hA0 hn0 hc0, .slice hA1 hn1 hc1] 50)).cell? ⟨w11.heap.size, 1, none⟩ = some (.slice gA1 gn1 gc1) := ((rg).alloc _).cell 1
 go_wp2_with fail
 obtain ⟨w30, hw⟩ : ∃ W, W = w29.alloc (.cells #[.slice hA0 hn0 hc0, .slice hA1 hn1 hc1] 50) := ⟨_, rfl⟩
 rw [← hw]
 have rh : Row w30 w29.heap.size 50 #[.slice hA0 hn0 hc0, .slice hA1 hn1 hc1] := by rw [hw]; exact Row.new _ _ _
 have bb : Below w29.heap.size w29 w30 := by rw [hw]; exact (Below.refl _ _).alloc (Nat.le_refl _) _
 have yrh : w29.heap.size < w30.heap.size := by rw [hw]; simp
 clear hw
 replace rg := rg.next bb
 replace om := om.next bb
 replace sh := sh.next bb
 replace bel := next_trans bel bb
 replace belw := next_trans belw bb
 have zw30 := bb.size
 clear bb
 clear dA0_0 dA0_1 dw_0 dw_1 dg_0 dg_1
 have belh := Below.refl w30.heap.size w30
 clear cA0_0 cA0_1 cw_0 cw_1 cg_0 cg_1
 have cA0_0 : w30.cell? ⟨w.heap.size, 0, none⟩ = some (v0_0) := (rA0.next bel).cell 0
 have cA0_1 : w30.cell? ⟨w.heap.size, 1, none⟩ = some (v0_1) := (rA0.next bel).cell 1
 have cw_0 : w30.cell? ⟨w5.heap.size, 0, none⟩ = some (.slice wA0 wn0 wc0) := (rw.next belw).cell 0
 have cw_1 : w30.cell? ⟨w5.heap.size, 1, none⟩ = some (.slice wA1 wn1 wc1) := (rw.next belw).cell 1
 have cg_0 : w30.cell? ⟨w11.heap.size, 0, none⟩ = some (.slice gA0 gn0 gc0) := (rg).cell 0
 have cg_1 : w30.cell? ⟨w11.heap.size, 1, none⟩ = some (.slice gA1 gn1 gc1) := (rg).cell 1
 have ch_0 : w30.cell? ⟨w29.heap.size, 0, none⟩ = some (.slice hA0 hn0 hc0) := (rh.next belh).cell 0
 have ch_1 : w30.cell? ⟨w29.heap.size, 1, none⟩ = some (.slice hA1 hn1 hc1) := (rh.next belh).cell 1
 refine (eqK_Walk _ _ _ _ ys _ (sh.next belh) (sw.next belw) hlen.out).mono ?_
 rintro e w31 ⟨rfl, bb⟩
 replace rg := rg.next bb
 replace om := om.next bb
 replace bel := next_trans bel bb
 replace belw := next_trans belw bb
 replace belh := next_trans belh bb
 have zw31 := bb.size
 clear bb
 clear cA0_0 cA0_1 cw_0 cw_1 cg_0 cg_1 ch_0 ch_1
 have cA0_0 : w31.cell? ⟨w.heap.size, 0, none⟩ = some (v0_0) := (rA0.next bel).cell 0
 have cA0_1 : w31.cell? ⟨w.heap.size, 1, none⟩ = some (v0_1) := (rA0.next bel).cell 1
 have cw_0 : w31.cell? ⟨w5.heap.size, 0, none⟩ = some (.slice wA0 wn0 wc0) := (rw.next belw).cell 0
 have cw_1 : w31.cell? ⟨w5.heap.size, 1, none⟩ = some (.slice wA1 wn1 wc1) := (rw.next belw).cell 1
 have cg_0 : w31.cell? ⟨w11.heap.size, 0, none⟩ = some (.slice gA0 gn0 gc0) := (rg).cell 0
 have cg_1 : w31.cell? ⟨w11.heap.size, 1, none⟩ = some (.slice gA1 gn1 gc1) := (rg).cell 1
 have ch_0 : w31.cell? ⟨w29.heap.size, 0, none⟩ = some (.slice hA0 hn0 hc0) := (rh.next belh).cell 0
 have ch_1 : w31.cell? ⟨w29.heap.size, 1, none⟩ = some (.slice hA1 hn1 hc1) := (rh.next belh).cell 1
 go_wp2_with fail
 refine (heldK_Walk _ _ ys 1 _ om.rd hlen.out (by omega) (by rw [HCG.out]; omega)).mono ?_
 rintro e w32 ⟨he, bb⟩
 rw [HCG.out] at he
 subst he
 replace rg := rg.next bb
 replace om := om.next bb
 replace bel := next_trans bel bb
 replace belw := next_trans belw bb
 replace belh := next_trans belh bb
 have zw32 := bb.size
 clear bb
 clear cA0_0 cA0_1 cw_0 cw_1 cg_0 cg_1 ch_0 ch_1
 have cA0_0 : w32.cell? ⟨w.heap.size, 0, none⟩ = some (v0_0) := (rA0.next bel).cell 0
 have cA0_1 : w32.cell? ⟨w.heap.size, 1, none⟩ = some (v0_1) := (rA0.next bel).cell 1
 have cw_0 : w32.cell? ⟨w5.heap.size, 0, none⟩ = some (.slice wA0 wn0 wc0) := (rw.next belw).cell 0
 have cw_1 : w32.cell? ⟨w5.heap.size, 1, none⟩ = some (.slice wA1 wn1 wc1) := (rw.next belw).cell 1
 have cg_0 : w32.cell? ⟨w11.heap.size, 0, none⟩ = some (.slice gA0 gn0 gc0) := (rg).cell 0
 have cg_1 : w32.cell? ⟨w11.heap.size, 1, none⟩ = some (.slice gA1 gn1 gc1) := (rg).cell 1
 have ch_0 : w32.cell? ⟨w29.heap.size, 0, none⟩ = some (.slice hA0 hn0 hc0) := (rh.next belh).cell 0
 have ch_1 : w32.cell? ⟨w29.heap.size, 1, none⟩ = some (.slice hA1 hn1 hc1) := (rh.next belh).cell 1
 have F := hid (bW.trans (bel.mono bW.size))
 clear bel belw belh rg om bW cA0_0 cA0_1 cw_0 cw_1 cg_0 cg_1 ch_0 ch_1
 go_wp2
 go_ret
 exact ⟨rfl, F.out⟩
end wWalkTo
end
end Go.Proofs.Ytblhmplpcdcejaa
