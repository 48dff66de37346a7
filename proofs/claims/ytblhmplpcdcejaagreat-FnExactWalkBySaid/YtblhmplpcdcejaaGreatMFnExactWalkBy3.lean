/-
  MERGED: my texts KindsR, Rename, Same, RuleSpec, Inside, PlainMath, Plain, PlainOf, MatchSpec, Concat, one behind the other, as they are. By an AI agent.
-/
import Derived.Test.YtblhmplpcdcejaaGreatMFnExactWalkBy2
import Derived.Deep.RegionHeld3
import Derived.Deep.QuietTactic
import Derived.BigQuiet
import Derived.Deep.DeepMust
import Derived.Deep.LoopGhost
import Derived.Lib.AppendZeros
namespace Go.Proofs.YtblhmplpcdcejaaGreat
section
open Go.Lib (hid)
namespace kindsR
open Go.RowKit base ints sig cursor marks app sym appAt segs segsHelp segsMark kinds shape
set_option maxRecDepth 100000
abbrev sSig : Sh := sI
theorem cells_Sig {w : World} {B : Nat} {es : List Value} {d : Dat sSig} (h : Rd w B sSig es d) : ∃ (v0 : Value), es = [v0] := by
 obtain ⟨A0, n0, c0, z0, -⟩ := h
 exact ⟨.slice A0 n0 c0, by rw [z0] <;> rfl⟩
set_option maxHeartbeats 2000000 in
theorem szK_Sig (v0 : Value) (d : Dat sSig) (left : Int) (w : World) (h : Rd w w.heap.size sSig [v0] d) (h0 : 0 ≤ left) (h1 : left ≤ 1048576) :
  Calls Tryz.prog 25 #[.agg #[v0], .int .i64 left] w (AnsSzK w left (sz sSig d)) := by
 have g0 := h
 obtain ⟨t0, ht0⟩ : ∃ t, sz sI d = t := ⟨_, rfl⟩
 have HE : Hid (sz sSig d = t0) := hid (by rw [← ht0]; try rfl)
 have HT0 := hid ht0
 have G0 := hid g0
 obtain ⟨W, hW⟩ : ∃ W, W = w.alloc (.cells #[v0] 24) := ⟨_, rfl⟩
 have r : Row W w.heap.size 24 #[v0] := by rw [hW]; exact Row.new _ _ _
 have bel : Below w.heap.size w W := by rw [hW]; exact (Below.refl _ _).alloc (Nat.le_refl _) _
 have HW := hid hW
 clear hW h g0 ht0
 go_enter Tryz.func25, Tryz.ntmps25
 go_wp2_with fail
 rw [← HW.out]
 refine (szK_ints _ _ left W (G0.out.next bel) h0 h1).mono ?_
 rintro e w1 ⟨he, bb⟩
 rw [HT0.out] at he
 replace r := r.next bb
 replace bel := next_trans bel bb
 clear bb
 by_cases q0 : left - (t0 : Int) < 0
 ·rw [if_pos q0] at he
  subst he
  have F : AnsSzK w left (sz sSig d) (.returned (.int .i64 (-1))) w1 := ⟨by rw [HE.out, if_pos (by omega)], bel⟩
  have HF := hid F
  clear F bel r
  go_wp2
  go_ret
  exact HF.out
 rw [if_neg q0] at he
 obtain ⟨l0, hl0⟩ : ∃ l, left - (t0 : Int) = l := ⟨_, rfl⟩
 rw [hl0] at he
 have a0 : 0 ≤ l0 := by omega
 have b0 : l0 ≤ 1048576 := by omega
 have HL0 := hid hl0
 clear hl0 q0
 subst he
 have F : AnsSzK w left (sz sSig d) (.returned (.int .i64 l0)) w1 := ⟨by have := HL0.out; rw [HE.out, if_neg (by omega)]; exact congrArg (fun z => Ending.returned (.int .i64 z)) (by omega), bel⟩
 have HF := hid F
 clear F bel r
 go_wp2
 go_ret
 exact HF.out
def CopySig (w : World) (d : Dat sSig) (e : Ending) (w' : World) : Prop := ∃ A0 n0 c0, e = .returned (.agg #[.slice A0 n0 c0]) ∧ Owned w' w.heap.size w'.heap.size sSig [.slice A0 n0 c0] d ∧ Below w.heap.size w w'
set_option maxHeartbeats 2000000 in
theorem toK_Sig (v0 : Value) (d : Dat sSig) (w : World) (h : Rd w w.heap.size sSig [v0] d) (hz : sz sSig d ≤ 1048576) :
  Calls Tryz.prog 34 #[.agg #[v0]] w (CopySig w d) := by
 have g0 := h
 have cp0 := CpS.zero w 24 42 #[v0] #[.slice none 0 0]
 obtain ⟨W, hW⟩ : ∃ W, W = ((w.alloc (.cells #[v0] 24)).alloc (.cells #[.slice none 0 0] 42)).alloc (.cells #[.slice none 0 0] 42) := ⟨_, rfl⟩
 rw [← hW] at cp0
 have HW := hid hW
 have G0 := hid g0
 have Z0 : Hid (sz sI d ≤ 1048576) := hid (hz)
 clear hW hz h g0
 go_enter Tryz.func34, Tryz.ntmps34
 go_wp2_with fail
 rw [← HW.out]
 refine (toK_ints _ _ _ ((G0.out.below cp0.bel).more cp0.bel.size) Z0.out).mono ?_
 rintro e w1 ⟨x0A0, x0n0, x0c0, rfl, o0, bb⟩
 have zb0 := bb.size
 have zc0 := cp0.size
 replace cp0 := cp0.next bb
 clear bb
 have f0_0 : w1.frozen? ⟨w.heap.size + 1 + 1, 0, none⟩ = false := cp0.cur.free 0
 have k0_0 : w1.cell? ⟨w.heap.size + 1 + 1, 0, none⟩ = some (.slice none 0 0) := cp0.cur.cell 0
 obtain ⟨w2, hw0⟩ : ∃ x, x = (w1.setCell ⟨w.heap.size + 1 + 1, 0, none⟩ (.slice x0A0 x0n0 x0c0)) := ⟨_, rfl⟩
 replace o0 := o0.put (g := w.heap.size + 1 + 1) (i := 0) (u := .slice x0A0 x0n0 x0c0) (by omega)
 rw [← hw0] at o0
 replace cp0 : CpS w 24 42 #[v0] #[.slice none 0 0] #[.slice x0A0 x0n0 x0c0] w2 := by rw [hw0]; exact (CpS.put cp0 0 (.slice x0A0 x0n0 x0c0))
 have zw0 : w2.heap.size = w1.heap.size := by rw [hw0]; simp
 have HW0 := hid hw0
 clear hw0
 have y0 : w2.cell? ⟨w.heap.size + 1 + 1, 0, none⟩ = some (.slice x0A0 x0n0 x0c0) := cp0.cur.cell 0
 rw [HW0.out] at y0
 have s0 : (w2).cell? ⟨w.heap.size + 1, 0, none⟩ = some (.slice none 0 0) := cp0.res.cell 0
 rw [HW0.out] at s0
 have r0 : (w2).frozen? ⟨w.heap.size + 1, 0, none⟩ = false := cp0.res.free 0
 rw [HW0.out] at r0
 have oo : Owned w2 (w.heap.size + 1 + 1 + 1) w2.heap.size sSig [.slice x0A0 x0n0 x0c0] d := o0.wider (by omega) (by omega)
 have F : CopySig w d (.returned (.agg #[.slice x0A0 x0n0 x0c0])) (w2.setCell ⟨w.heap.size + 1, 0, none⟩ (.slice x0A0 x0n0 x0c0)) := ⟨x0A0, x0n0, x0c0, rfl, Owned.wider ((oo.put (g := w.heap.size + 1) (i := 0) (u := .slice x0A0 x0n0 x0c0) (by omega))) (by omega) (by simp), ((CpS.fin cp0 0 (.slice x0A0 x0n0 x0c0))).bel⟩
 have u0 : ((w2.setCell ⟨w.heap.size + 1, 0, none⟩ (.slice x0A0 x0n0 x0c0))).cell? ⟨w.heap.size + 1, 0, none⟩ = some (.slice x0A0 x0n0 x0c0) := (CpS.fin cp0 0 (.slice x0A0 x0n0 x0c0)).res.cell 0
 rw [HW0.out] at u0
 rw [HW0.out] at F
 have HF := hid F
 clear F oo cp0 o0
 go_wp2
 exact bodyPost_ret (v := .agg #[.slice x0A0 x0n0 x0c0]) (by simp [results, Tryz.results34, go_sem, u0]) rfl HF.out
set_option maxHeartbeats 2000000 in
theorem eqK_Sig (v0 u0 : Value) (d : Dat sSig) (w : World) (h : Rd w w.heap.size sSig [v0] d) (h' : Rd w w.heap.size sSig [u0] d) (hz : sz sSig d ≤ 1048576) :
  Calls Tryz.prog 46 #[.agg #[v0], .agg #[u0]] w (Yes w) := by
 have g0 := h
 have g0' := h'
 obtain ⟨W, hW⟩ : ∃ W, W = (w.alloc (.cells #[v0] 42)).alloc (.cells #[u0] 42) := ⟨_, rfl⟩
 have ra : Row W w.heap.size 42 #[v0] := by rw [hW]; exact (Row.new w 42 #[v0]).alloc _
 have rb : Row W (w.heap.size + 1) 42 #[u0] := by rw [hW]; have := Row.new (w.alloc (.cells #[v0] 42)) 42 #[u0]; simpa using this
 have bel : Below w.heap.size w W := by rw [hW]; exact ((Below.refl _ _).alloc (Nat.le_refl _) _).alloc (by simp) _
 have HW := hid hW
 have G0 := hid g0
 have G0' := hid g0'
 have Z0 : Hid (sz sI d ≤ 1048576) := hid (hz)
 clear hW hz h h' g0 g0'
 go_enter Tryz.func46, Tryz.ntmps46
 go_wp2_with fail
 rw [← HW.out]
 refine (eqK_ints _ _ _ W (G0.out.next bel) (G0'.out.next bel) Z0.out).mono ?_
 rintro e w1 ⟨rfl, bb⟩
 replace ra := ra.next bb
 replace rb := rb.next bb
 replace bel := next_trans bel bb
 clear bb
 have F : Yes w (.returned (.bool true)) w1 := ⟨rfl, bel⟩
 have HF := hid F
 clear F ra rb bel
 go_wp2
 go_ret
 exact HF.out
set_option maxHeartbeats 2000000 in
theorem markK_Sig (v0 : Value) (d : Dat sSig) (k : Int) (F : List Nat) (w : World) (h : Ow w sSig [v0] d F) (hF : F.Nodup) (hz : sz sSig d ≤ 1048576) (hk0 : 0 ≤ k) (hk : k + (cntv sSig d : Int) ≤ 1099511627776) :
  Calls Tryz.prog 49 #[.agg #[v0], .int .i64 k] w (AnsMarkF w sSig [v0] d k F) := by
 have hlt := h.lt
 have o0 := h
 obtain ⟨z0, hz0⟩ : ∃ z, cntv sI d = z := ⟨_, rfl⟩
 have hc : (cntv sSig d : Int) = (z0 : Int) := by rw [← hz0]; try rfl
 have Z0 : Hid (sz sI d ≤ 1048576) := hid (hz)
 have HZ0 := hid hz0
 have HC := hid hc
 rw [hc] at hk
 obtain ⟨W, hW⟩ : ∃ W, W = w.alloc (.cells #[v0] 42) := ⟨_, rfl⟩
 have r : Row W w.heap.size 42 #[v0] := by rw [hW]; exact Row.new _ _ _
 have bel : Below w.heap.size w W := by rw [hW]; exact (Below.refl _ _).alloc (Nat.le_refl _) _
 replace o0 := o0.next bel
 have nb0 : w.heap.size ∉ F := fun hb => by have := hlt _ hb; omega
 have sub0 : ∀ x ∈ F, x ∈ F := fun x hb => hb
 have on : Only F w W := Only.of_below bel
 have HW := hid hW
 have HEF : Hid (F = F) := hid (by rfl)
 clear hW h hz hc bel hlt hz0 
 go_enter Tryz.func49, Tryz.ntmps49
 go_wp2_with fail
 rw [← HW.out]
 refine (markK_ints _ _ k F _ o0 Z0.out (by omega) (by omega)).mono ?_
 rintro e w1 ⟨he, o0, on0⟩
 rw [HZ0.out] at he
 replace r := Row.only r on0 nb0
 replace on := on.trans (on0.wider sub0)
 clear on0
 obtain ⟨k0, hk0⟩ : ∃ l, k + (z0 : Int) = l := ⟨_, rfl⟩
 rw [hk0] at he
 have l0 : 0 ≤ k0 := by omega
 have u0 : k0  ≤ 1099511627776 := by omega
 subst he
 have HK0 := hid hk0
 clear hk0
 have F1 : AnsMarkF w sSig [v0] d k F (.returned (.int .i64 k0)) w1 := by
  refine ⟨congrArg (fun z => Ending.returned (.int .i64 z)) ?_, ?_, on⟩
  ·rw [HC.out]; have := HK0.out; omega
  ·skip
   exact o0
 have HF := hid F1
 clear F1 on r o0
 go_wp2
 go_ret
 exact HF.out
abbrev sRule : Sh := .cat sI sI
theorem parts_Rule {w : World} {B : Nat} {v0 v1 : Value} {d : Dat sRule} (h : Rd w B sRule [v0, v1] d) : Rd w B sI [v0] d.1 ∧ Rd w B sI [v1] d.2 := by
 obtain ⟨p0, q0⟩ := Rd.split (ca := [v0]) (cb := [v1]) h rfl
 exact ⟨p0, q0⟩
theorem join_Rule {w : World} {lo hi : Nat} {v0 v1 : Value} {d : Dat sRule} {m0 m1 m2 : Nat} (o0 : Owned w m0 m1 sI [v0] d.1) (o1 : Owned w m1 m2 sI [v1] d.2) (l0 : m0 ≤ m1) (l1 : m1 ≤ m2) (hl : lo ≤ m0) (hh : m2 ≤ hi) : Owned w lo hi sRule [v0, v1] d := by
 exact ((Owned.cat o0 o1 (Nat.le_refl _) (by omega) (by omega)) : Owned w m0 m2 sRule [v0, v1] d).wider hl hh
theorem cells_Rule {w : World} {B : Nat} {es : List Value} {d : Dat sRule} (h : Rd w B sRule es d) : ∃ (v0 : Value) (v1 : Value), es = [v0, v1] := by
 obtain ⟨ca0, cb0, e0, p0, q0⟩ := h
 obtain ⟨A0, n0, c0, z0, -⟩ := p0
 obtain ⟨A1, n1, c1, z1, -⟩ := q0
 exact ⟨.slice A0 n0 c0, .slice A1 n1 c1, by rw [e0, z0, z1] <;> rfl⟩
set_option maxHeartbeats 2000000 in
theorem szK_Rule (v0 v1 : Value) (d : Dat sRule) (left : Int) (w : World) (h : Rd w w.heap.size sRule [v0, v1] d) (h0 : 0 ≤ left) (h1 : left ≤ 1048576) :
  Calls Tryz.prog 63 #[.agg #[v0, v1], .int .i64 left] w (AnsSzK w left (sz sRule d)) := by
 obtain ⟨g0, g1⟩ := parts_Rule h
 obtain ⟨t0, ht0⟩ : ∃ t, sz sI d.1 = t := ⟨_, rfl⟩
 obtain ⟨t1, ht1⟩ : ∃ t, sz sI d.2 = t := ⟨_, rfl⟩
 have HE : Hid (sz sRule d = t0 + t1) := hid (by rw [← ht0, ← ht1]; simp only [sz]; try omega)
 have HT0 := hid ht0
 have G0 := hid g0
 have HT1 := hid ht1
 have G1 := hid g1
 obtain ⟨W, hW⟩ : ∃ W, W = w.alloc (.cells #[v0, v1] 105) := ⟨_, rfl⟩
 have r : Row W w.heap.size 105 #[v0, v1] := by rw [hW]; exact Row.new _ _ _
 have bel : Below w.heap.size w W := by rw [hW]; exact (Below.refl _ _).alloc (Nat.le_refl _) _
 have HW := hid hW
 clear hW h g0 g1 ht0 ht1
 go_enter Tryz.func63, Tryz.ntmps63
 go_wp2_with fail
 rw [← HW.out]
 refine (szK_ints _ _ left W (G0.out.next bel) h0 h1).mono ?_
 rintro e w1 ⟨he, bb⟩
 rw [HT0.out] at he
 replace r := r.next bb
 replace bel := next_trans bel bb
 clear bb
 by_cases q0 : left - (t0 : Int) < 0
 ·rw [if_pos q0] at he
  subst he
  have F : AnsSzK w left (sz sRule d) (.returned (.int .i64 (-1))) w1 := ⟨by rw [HE.out, if_pos (by omega)], bel⟩
  have HF := hid F
  clear F bel r
  go_wp2
  go_ret
  exact HF.out
 rw [if_neg q0] at he
 obtain ⟨l0, hl0⟩ : ∃ l, left - (t0 : Int) = l := ⟨_, rfl⟩
 rw [hl0] at he
 have a0 : 0 ≤ l0 := by omega
 have b0 : l0 ≤ 1048576 := by omega
 have HL0 := hid hl0
 clear hl0 q0
 subst he
 have c0_0 : w1.cell? ⟨w.heap.size, 1, none⟩ = some (v1) := r.cell 1
 go_wp2_with fail
 refine (szK_ints _ _ l0 w1 (G1.out.next bel) a0 b0).mono ?_
 rintro e w2 ⟨he, bb⟩
 rw [HT1.out] at he
 replace r := r.next bb
 replace bel := next_trans bel bb
 clear bb
 by_cases q1 : l0 - (t1 : Int) < 0
 ·rw [if_pos q1] at he
  subst he
  have F : AnsSzK w left (sz sRule d) (.returned (.int .i64 (-1))) w2 := ⟨by have := HL0.out; rw [HE.out, if_pos (by omega)], bel⟩
  have HF := hid F
  clear F bel r
  go_wp2
  go_ret
  exact HF.out
 rw [if_neg q1] at he
 obtain ⟨l1, hl1⟩ : ∃ l, l0 - (t1 : Int) = l := ⟨_, rfl⟩
 rw [hl1] at he
 have a1 : 0 ≤ l1 := by omega
 have b1 : l1 ≤ 1048576 := by omega
 have HL1 := hid hl1
 clear hl1 q1
 subst he
 have F : AnsSzK w left (sz sRule d) (.returned (.int .i64 l1)) w2 := ⟨by have := HL0.out; have := HL1.out; rw [HE.out, if_neg (by omega)]; exact congrArg (fun z => Ending.returned (.int .i64 z)) (by omega), bel⟩
 have HF := hid F
 clear F bel r
 go_wp2
 go_ret
 exact HF.out
def CopyRule (w : World) (d : Dat sRule) (e : Ending) (w' : World) : Prop := ∃ A0 n0 c0 A1 n1 c1, e = .returned (.agg #[.slice A0 n0 c0, .slice A1 n1 c1]) ∧ Owned w' w.heap.size w'.heap.size sRule [.slice A0 n0 c0, .slice A1 n1 c1] d ∧ Below w.heap.size w w'
set_option maxHeartbeats 2000000 in
theorem toK_Rule (v0 v1 : Value) (d : Dat sRule) (w : World) (h : Rd w w.heap.size sRule [v0, v1] d) (hz : sz sRule d ≤ 1048576) :
  Calls Tryz.prog 71 #[.agg #[v0, v1]] w (CopyRule w d) := by
 obtain ⟨g0, g1⟩ := parts_Rule h
 have cp0 := CpS.zero w 105 111 #[v0, v1] #[.slice none 0 0, .slice none 0 0]
 obtain ⟨W, hW⟩ : ∃ W, W = ((w.alloc (.cells #[v0, v1] 105)).alloc (.cells #[.slice none 0 0, .slice none 0 0] 111)).alloc (.cells #[.slice none 0 0, .slice none 0 0] 111) := ⟨_, rfl⟩
 rw [← hW] at cp0
 have HW := hid hW
 have G0 := hid g0
 have Z0 : Hid (sz sI d.1 ≤ 1048576) := hid (by have := hz; simp only [sz] at this ⊢; omega)
 have G1 := hid g1
 have Z1 : Hid (sz sI d.2 ≤ 1048576) := hid (by have := hz; simp only [sz] at this ⊢; omega)
 clear hW hz h g0 g1
 go_enter Tryz.func71, Tryz.ntmps71
 go_wp2_with fail
 rw [← HW.out]
 refine (toK_ints _ _ _ ((G0.out.below cp0.bel).more cp0.bel.size) Z0.out).mono ?_
 rintro e w1 ⟨x0A0, x0n0, x0c0, rfl, o0, bb⟩
 have zb0 := bb.size
 have zc0 := cp0.size
 replace cp0 := cp0.next bb
 clear bb
 have f0_0 : w1.frozen? ⟨w.heap.size + 1 + 1, 0, none⟩ = false := cp0.cur.free 0
 have k0_0 : w1.cell? ⟨w.heap.size + 1 + 1, 0, none⟩ = some (.slice none 0 0) := cp0.cur.cell 0
 obtain ⟨w2, hw0⟩ : ∃ x, x = (w1.setCell ⟨w.heap.size + 1 + 1, 0, none⟩ (.slice x0A0 x0n0 x0c0)) := ⟨_, rfl⟩
 replace o0 := o0.put (g := w.heap.size + 1 + 1) (i := 0) (u := .slice x0A0 x0n0 x0c0) (by omega)
 rw [← hw0] at o0
 replace cp0 : CpS w 105 111 #[v0, v1] #[.slice none 0 0, .slice none 0 0] #[.slice x0A0 x0n0 x0c0, .slice none 0 0] w2 := by rw [hw0]; exact (CpS.put cp0 0 (.slice x0A0 x0n0 x0c0))
 have zw0 : w2.heap.size = w1.heap.size := by rw [hw0]; simp
 have HW0 := hid hw0
 clear hw0
 have d1_0 : w2.cell? ⟨w.heap.size, 1, none⟩ = some (v1) := cp0.box.cell 1
 rw [HW0.out] at d1_0
 go_wp2_with fail
 rw [← HW0.out]
 clear d1_0
 refine (toK_ints _ _ _ ((G1.out.below cp0.bel).more cp0.bel.size) Z1.out).mono ?_
 rintro e w3 ⟨x1A0, x1n0, x1c0, rfl, o1, bb⟩
 replace o0 := o0.next bb
 have zb1 := bb.size
 have zc1 := cp0.size
 replace cp0 := cp0.next bb
 clear bb
 have f1_0 : w3.frozen? ⟨w.heap.size + 1 + 1, 1, none⟩ = false := cp0.cur.free 1
 have k1_0 : w3.cell? ⟨w.heap.size + 1 + 1, 1, none⟩ = some (.slice none 0 0) := cp0.cur.cell 1
 obtain ⟨w4, hw1⟩ : ∃ x, x = (w3.setCell ⟨w.heap.size + 1 + 1, 1, none⟩ (.slice x1A0 x1n0 x1c0)) := ⟨_, rfl⟩
 replace o0 := o0.put (g := w.heap.size + 1 + 1) (i := 1) (u := .slice x1A0 x1n0 x1c0) (by omega)
 rw [← hw1] at o0
 replace o1 := o1.put (g := w.heap.size + 1 + 1) (i := 1) (u := .slice x1A0 x1n0 x1c0) (by omega)
 rw [← hw1] at o1
 replace cp0 : CpS w 105 111 #[v0, v1] #[.slice none 0 0, .slice none 0 0] #[.slice x0A0 x0n0 x0c0, .slice x1A0 x1n0 x1c0] w4 := by rw [hw1]; exact (CpS.put cp0 1 (.slice x1A0 x1n0 x1c0))
 have zw1 : w4.heap.size = w3.heap.size := by rw [hw1]; simp
 have HW1 := hid hw1
 clear hw1
 have y0 : w4.cell? ⟨w.heap.size + 1 + 1, 0, none⟩ = some (.slice x0A0 x0n0 x0c0) := cp0.cur.cell 0
 rw [HW1.out] at y0
 have y1 : w4.cell? ⟨w.heap.size + 1 + 1, 1, none⟩ = some (.slice x1A0 x1n0 x1c0) := cp0.cur.cell 1
 rw [HW1.out] at y1
 have s0 : (w4).cell? ⟨w.heap.size + 1, 0, none⟩ = some (.slice none 0 0) := cp0.res.cell 0
 rw [HW1.out] at s0
 have r0 : (w4).frozen? ⟨w.heap.size + 1, 0, none⟩ = false := cp0.res.free 0
 rw [HW1.out] at r0
 have s1 : ((w4.setCell ⟨w.heap.size + 1, 0, none⟩ (.slice x0A0 x0n0 x0c0))).cell? ⟨w.heap.size + 1, 1, none⟩ = some (.slice none 0 0) := (CpS.fin cp0 0 (.slice x0A0 x0n0 x0c0)).res.cell 1
 rw [HW1.out] at s1
 have r1 : ((w4.setCell ⟨w.heap.size + 1, 0, none⟩ (.slice x0A0 x0n0 x0c0))).frozen? ⟨w.heap.size + 1, 1, none⟩ = false := (CpS.fin cp0 0 (.slice x0A0 x0n0 x0c0)).res.free 1
 rw [HW1.out] at r1
 have oo : Owned w4 (w.heap.size + 1 + 1 + 1) w4.heap.size sRule [.slice x0A0 x0n0 x0c0, .slice x1A0 x1n0 x1c0] d := join_Rule (m0 := W.heap.size) (m1 := w2.heap.size) (m2 := w4.heap.size) (o0.wider (Nat.le_refl _) (by omega)) (o1.wider (Nat.le_refl _) (by omega)) (by omega) (by omega) (by omega) (by omega)
 have F : CopyRule w d (.returned (.agg #[.slice x0A0 x0n0 x0c0, .slice x1A0 x1n0 x1c0])) ((w4.setCell ⟨w.heap.size + 1, 0, none⟩ (.slice x0A0 x0n0 x0c0)).setCell ⟨w.heap.size + 1, 1, none⟩ (.slice x1A0 x1n0 x1c0)) := ⟨x0A0, x0n0, x0c0, x1A0, x1n0, x1c0, rfl, Owned.wider (((oo.put (g := w.heap.size + 1) (i := 0) (u := .slice x0A0 x0n0 x0c0) (by omega)).put (g := w.heap.size + 1) (i := 1) (u := .slice x1A0 x1n0 x1c0) (by omega))) (by omega) (by simp), ((CpS.fin (CpS.fin cp0 0 (.slice x0A0 x0n0 x0c0)) 1 (.slice x1A0 x1n0 x1c0))).bel⟩
 have u0 : (((w4.setCell ⟨w.heap.size + 1, 0, none⟩ (.slice x0A0 x0n0 x0c0)).setCell ⟨w.heap.size + 1, 1, none⟩ (.slice x1A0 x1n0 x1c0))).cell? ⟨w.heap.size + 1, 0, none⟩ = some (.slice x0A0 x0n0 x0c0) := (CpS.fin (CpS.fin cp0 0 (.slice x0A0 x0n0 x0c0)) 1 (.slice x1A0 x1n0 x1c0)).res.cell 0
 rw [HW1.out] at u0
 have u1 : (((w4.setCell ⟨w.heap.size + 1, 0, none⟩ (.slice x0A0 x0n0 x0c0)).setCell ⟨w.heap.size + 1, 1, none⟩ (.slice x1A0 x1n0 x1c0))).cell? ⟨w.heap.size + 1, 1, none⟩ = some (.slice x1A0 x1n0 x1c0) := (CpS.fin (CpS.fin cp0 0 (.slice x0A0 x0n0 x0c0)) 1 (.slice x1A0 x1n0 x1c0)).res.cell 1
 rw [HW1.out] at u1
 rw [HW1.out] at F
 have HF := hid F
 clear F oo cp0 o0 o1
 go_wp2
 exact bodyPost_ret (v := .agg #[.slice x0A0 x0n0 x0c0, .slice x1A0 x1n0 x1c0]) (by simp [results, Tryz.results71, go_sem, u0, u1]) rfl HF.out
set_option maxHeartbeats 2000000 in
theorem eqK_Rule (v0 v1 u0 u1 : Value) (d : Dat sRule) (w : World) (h : Rd w w.heap.size sRule [v0, v1] d) (h' : Rd w w.heap.size sRule [u0, u1] d) (hz : sz sRule d ≤ 1048576) :
  Calls Tryz.prog 81 #[.agg #[v0, v1], .agg #[u0, u1]] w (Yes w) := by
 obtain ⟨g0, g1⟩ := parts_Rule h
 obtain ⟨g0', g1'⟩ := parts_Rule h'
 obtain ⟨W, hW⟩ : ∃ W, W = (w.alloc (.cells #[v0, v1] 111)).alloc (.cells #[u0, u1] 111) := ⟨_, rfl⟩
 have ra : Row W w.heap.size 111 #[v0, v1] := by rw [hW]; exact (Row.new w 111 #[v0, v1]).alloc _
 have rb : Row W (w.heap.size + 1) 111 #[u0, u1] := by rw [hW]; have := Row.new (w.alloc (.cells #[v0, v1] 111)) 111 #[u0, u1]; simpa using this
 have bel : Below w.heap.size w W := by rw [hW]; exact ((Below.refl _ _).alloc (Nat.le_refl _) _).alloc (by simp) _
 have HW := hid hW
 have G0 := hid g0
 have G0' := hid g0'
 have Z0 : Hid (sz sI d.1 ≤ 1048576) := hid (by have := hz; simp only [sz] at this ⊢; omega)
 have G1 := hid g1
 have G1' := hid g1'
 have Z1 : Hid (sz sI d.2 ≤ 1048576) := hid (by have := hz; simp only [sz] at this ⊢; omega)
 clear hW hz h h' g0 g0' g1 g1'
 go_enter Tryz.func81, Tryz.ntmps81
 go_wp2_with fail
 rw [← HW.out]
 refine (eqK_ints _ _ _ W (G0.out.next bel) (G0'.out.next bel) Z0.out).mono ?_
 rintro e w1 ⟨rfl, bb⟩
 replace ra := ra.next bb
 replace rb := rb.next bb
 replace bel := next_trans bel bb
 clear bb
 have a1_0 : w1.cell? ⟨w.heap.size, 1, none⟩ = some (v1) := ra.cell 1
 have b1_0 : w1.cell? ⟨w.heap.size + 1, 1, none⟩ = some (u1) := rb.cell 1
 go_wp2_with fail
 clear a1_0 b1_0
 refine (eqK_ints _ _ _ w1 (G1.out.next bel) (G1'.out.next bel) Z1.out).mono ?_
 rintro e w2 ⟨rfl, bb⟩
 replace ra := ra.next bb
 replace rb := rb.next bb
 replace bel := next_trans bel bb
 clear bb
 have F : Yes w (.returned (.bool true)) w2 := ⟨rfl, bel⟩
 have HF := hid F
 clear F ra rb bel
 go_wp2
 go_ret
 exact HF.out
abbrev sRuleS : Sh := .row 111 sRule
set_option maxHeartbeats 2000000 in
theorem szK_RuleS (v : Value) (D : List (Dat sRule)) (left : Int) (w : World) (h : Rd w w.heap.size sRuleS [v] D) (h0 : 0 ≤ left) (h1 : left ≤ 1048576) :
  Calls Tryz.prog 26 #[v, .int .i64 left] w (AnsSzK w left (sz sRuleS D)) := by
 obtain ⟨A, c, rfl, hcap⟩ := h.slice
 obtain ⟨n, hn⟩ : ∃ n, D.length = n := ⟨_, rfl⟩
 rw [hn] at h hcap ⊢
 have hmax : n ≤ 9223372036854775807 := Nat.le_trans hcap.1 hcap.2.1
 have HN := hid hn
 have H := hid h
 clear hcap hn h
 by_cases hs : left - n < 0
 ·have S : AnsSzK w left (sz sRuleS D) (.returned (.int .i64 (-1))) w := ⟨by rw [if_pos (by rw [sz_row, HN.out]; omega)], Below.refl _ _⟩
  have HS := hid S
  clear S
  go_enter Tryz.func26, Tryz.ntmps26
  go_wp2
  go_ret
  exact HS.out
 go_enter Tryz.func26, Tryz.ntmps26
 go_wp2
 go_loopw [1, 5] (fun l i wr => HeadSzK w n sRule D left l i wr) (fun _ i _ => n - (intOf i).toNat)
 case atStart => exact headSzK_zero (by omega)
 case round =>
  obtain ⟨k, hk, rfl, rfl, hge, hb⟩ := hrel
  by_cases hlt : k < n
  ·obtain ⟨b, off, n2, c2, es, ev, -, -, hbB, hel, hp, hr⟩ := H.out.elem (j := k) (by rw [HN.out]; exact hlt)
   injection ev with e1 e2 e3
   subst e1 e2 e3
   obtain ⟨v0, v1, rfl⟩ := cells_Rule hr
   have hpw := hp.keep (w' := wr) (fun p hp => hb.cell (p := p) (by rw [hp]; exact hbB))
   have c0 : wr.cell? ⟨b, off + k * 2, none⟩ = some (v0) := hpw 0 (by simp)
   have c1 : wr.cell? ⟨b, off + k * 2 + 1, none⟩ = some (v1) := hpw 1 (by simp)
   obtain ⟨t, ht⟩ : ∃ t, sz sRule (D.getD k (dft sRule)) = t := ⟨_, rfl⟩
   obtain ⟨l, hl⟩ : ∃ l, left - n - szs sRule D k = l := ⟨_, rfl⟩
   have hsum := szs_succ (s := sRule) (d := D) (k := k) (by rw [HN.out]; exact hlt)
   rw [ht] at hsum
   rw [hl] at hge ⊢
   have hle : l ≤ 1048576 := by omega
   have L := hid (szK_Rule _ _ (D.getD k (dft sRule)) l wr ((hr.below hb).more hb.size) hge hle)
   rw [ht] at L
   have BAD := hid (fun (q : l - (t : Int) < 0) => headSzK_bad (e := 111) (D := D) (left := left) HN.out hlt hsum (by rw [hl]; exact q))
   have GOOD := hid (fun (q : ¬ l - (t : Int) < 0) (w1 : World) (hb : Below w.heap.size w w1) => headSzK_step (D := D) (left := left) (l := l) hlt hsum hl q hb)
   have HB := hid hb
   clear hr hel hp hpw ht hl hsum hb
   go_wp2_with fail
   refine L.out.mono ?_
   rintro e w1 ⟨he, bb⟩
   by_cases q : l - (t : Int) < 0
   ·rw [if_pos q] at he
    subst he
    have F : AnsSzK w left (sz sRuleS D) (.returned (.int .i64 (-1))) w1 := ⟨BAD.out (by omega), next_trans HB.out bb⟩
    have HF := hid F
    clear F bb L GOOD BAD
    go_wp2
    go_ret
    exact HF.out
   ·rw [if_neg q] at he
    subst he
    have F := hid (GOOD.out (by omega) w1 (next_trans HB.out bb))
    clear bb L GOOD BAD
    go_wp2
    go_roundw
    case rel => exact F.out
    case measure => simp [intOf]; omega
  ·have F := hid (headSzK_end (e := 111) HN.out hlt hk hge hb)
   clear hge hb
   go_wp2
   go_ret
   exact F.out
theorem info_RuleS : (Tryz.prog.info? 111).map (fun i => (i.zero, i.size, i.bytes)) = some (some (.agg #[.slice none 0 0, .slice none 0 0]), 2, 48) := by kernel_rfl
theorem make_RuleS (n : Nat) (hn : n ≤ 1048576) (W : World) : (Instr.makeSlice 43 (.int .i64 (n : Int)) (.int .i64 (n : Int))).run Tryz.prog W =
  .ok (.slice (some ⟨W.heap.size, 0, none⟩) n n) (W.alloc (.cells (madeCells #[.slice none 0 0, .slice none 0 0] (n * 2)) 111)) := by
 obtain ⟨i0, hi, hz0, hz1, hz2⟩ := info_parts info_RuleS
 have hr := run_make (P := Tryz.prog) W 43 111 i0 _ Tryz.underlying43 hi hz0 .i64 .i64 n n (by omega) (by omega) (by rw [hz2]; omega) (by omega)
 simpa [hz1, Value.cells] using hr
set_option maxHeartbeats 2000000 in
theorem toK_RuleS (v : Value) (D : List (Dat sRule)) (w : World) (h : Rd w w.heap.size sRuleS [v] D) (hz : sz sRuleS D ≤ 1048576) :
  Calls Tryz.prog 35 #[v] w (Copy1 w sRuleS D) := by
 obtain ⟨A, c, rfl, hcap⟩ := h.slice
 obtain ⟨n, hn⟩ : ∃ n, D.length = n := ⟨_, rfl⟩
 have hn1 : n ≤ 1048576 := by rw [← hn]; exact sz_len hz
 rw [hn] at h hcap ⊢
 have HN := hid hn
 have H := hid h
 have HZ := hid hz
 clear hcap hn h hz
 have hmk := make_RuleS n hn1
 have S0 := hid (headCp_zero (s := sRule) (e := 111) (w := w) (n := n) (D := D) (cs := madeCells #[.slice none 0 0, .slice none 0 0] (n * 2)) (size_madeCells _ _))
 go_enter Tryz.func35, Tryz.ntmps35
 go_wp2
 clear hmk
 go_loopw [4] (fun i wr => HeadCp w 111 sRule n D i wr) (fun i _ => n - (intOf i).toNat)
 case atStart => exact S0.out
 case round =>
  obtain ⟨k, ks, E, G, hk, rfl, hr, hs, hnd, hi, hb⟩ := hrel
  clear S0
  by_cases hlt : k < n
  ·have hkD : k < D.length := by rw [HN.out]; exact hlt
   obtain ⟨b, off, n2, c2, es, ev, -, -, hbB, hel, hp, hrd⟩ := H.out.elem hkD
   injection ev with e1 e2 e3
   subst e1 e2 e3
   obtain ⟨v0, v1, rfl⟩ := cells_Rule hrd
   have hpw := hp.keep (w' := wr) (fun p hp => hb.cell (p := p) (by rw [hp]; exact hbB))
   have c0 : wr.cell? ⟨b, off + k * 2, none⟩ = some (v0) := hpw 0 (by simp)
   have c1 : wr.cell? ⟨b, off + k * 2 + 1, none⟩ = some (v1) := hpw 1 (by simp)
   have L := hid (toK_Rule _ _ (D.getD k (dft sRule)) wr ((hrd.below hb).more hb.size) (sz_each HZ.out hkD))
   have R := hid (fun w1 xA0 xn0 xc0 xA1 xn1 xc1 ho bb => headCp_step (w1 := w1) (es := [.slice xA0 xn0 xc0, .slice xA1 xn1 xc1]) hlt hr hs hnd hi hb ho bb)
   have rr := hr
   have hsz : ks.size = n * 2 := hs
   have HS := hid hsz
   clear hr hs hnd hi hb hrd hel hp hpw hsz
   go_wp2_with fail
   refine L.out.mono ?_
   rintro e w1 ⟨xA0, xn0, xc0, xA1, xn1, xc1, rfl, ho, bb⟩
   have S := hid (R.out w1 xA0 xn0 xc0 xA1 xn1 xc1 ho bb)
   have rr1 := rr.next bb
   obtain ⟨u0, hu0⟩ : ∃ u, w1.cell? ⟨w.heap.size, k * 2, none⟩ = some u := ⟨_, (rr1.cell _).trans (Array.getElem?_eq_getElem (by rw [HS.out]; omega))⟩
   have hf0 : w1.frozen? ⟨w.heap.size, k * 2, none⟩ = false := rr1.free _
   obtain ⟨u1, hu1⟩ : ∃ u, w1.cell? ⟨w.heap.size, k * 2 + 1, none⟩ = some u := ⟨_, (rr1.cell _).trans (Array.getElem?_eq_getElem (by rw [HS.out]; omega))⟩
   have hf1 : w1.frozen? ⟨w.heap.size, k * 2 + 1, none⟩ = false := rr1.free _
   clear ho bb rr rr1 L R
   go_wp2
   go_roundw
   case rel => exact S.out
   case measure => simp [intOf]; omega
  ·have e1 : k = n := by omega
   subst e1
   have F := hid (headCp_end HN.out hn1 hr hs hnd hi hb)
   clear hr hs hnd hi hb
   go_wp2
   go_ret
   exact F.out
set_option maxHeartbeats 2000000 in
theorem eqK_RuleS (v u : Value) (D : List (Dat sRule)) (w : World) (h : Rd w w.heap.size sRuleS [v] D) (h' : Rd w w.heap.size sRuleS [u] D) (hz : sz sRuleS D ≤ 1048576) :
  Calls Tryz.prog 47 #[v, u] w (Yes w) := by
 obtain ⟨A, c, rfl, hcap⟩ := h.slice
 obtain ⟨A', c', rfl, hcap'⟩ := h'.slice
 obtain ⟨n, hn⟩ : ∃ n, D.length = n := ⟨_, rfl⟩
 have hn1 : n ≤ 1048576 := by rw [← hn]; exact sz_len hz
 rw [hn] at h h' hcap hcap' ⊢
 have HN := hid hn
 have H := hid h
 have H' := hid h'
 have HZ := hid hz
 clear hcap hcap' hn h h' hz
 go_enter Tryz.func47, Tryz.ntmps47
 go_wp2
 go_loopw [5] (fun i wr => ∃ k : Nat, k ≤ n ∧ i = .int .i64 k ∧ Below w.heap.size w wr) (fun i _ => n - (intOf i).toNat)
 case atStart => exact ⟨0, Nat.zero_le _, rfl, Below.refl _ _⟩
 case round =>
  obtain ⟨k, hk, rfl, hb⟩ := hrel
  by_cases hlt : k < n
  ·have hkD : k < D.length := by rw [HN.out]; exact hlt
   obtain ⟨b, off, n2, c2, es, ev, -, -, hbB, hel, hp, hrd⟩ := H.out.elem hkD
   injection ev with e1 e2 e3
   subst e1 e2 e3
   obtain ⟨b', off', n2, c2, es', ev, -, -, hbB', hel', hp', hrd'⟩ := H'.out.elem hkD
   injection ev with e1 e2 e3
   subst e1 e2 e3
   obtain ⟨v0, v1, rfl⟩ := cells_Rule hrd
   obtain ⟨u0, u1, rfl⟩ := cells_Rule hrd'
   replace hb := hb.drew
   have hpw := hp.keep (w' := wr.drew) (fun p hp => hb.cell (p := p) (by rw [hp]; exact hbB))
   have hpw' := hp'.keep (w' := wr.drew) (fun p hp => hb.cell (p := p) (by rw [hp]; exact hbB'))
   have c0 : wr.drew.cell? ⟨b, off + k * 2, none⟩ = some (v0) := hpw 0 (by simp)
   have c0' : wr.drew.cell? ⟨b', off' + k * 2, none⟩ = some (u0) := hpw' 0 (by simp)
   have c1 : wr.drew.cell? ⟨b, off + k * 2 + 1, none⟩ = some (v1) := hpw 1 (by simp)
   have c1' : wr.drew.cell? ⟨b', off' + k * 2 + 1, none⟩ = some (u1) := hpw' 1 (by simp)
   have L := hid (eqK_Rule _ _ _ _ (D.getD k (dft sRule)) wr.drew ((hrd.below hb).more hb.size) ((hrd'.below hb).more hb.size) (sz_each HZ.out hkD))
   have HB := hid hb
   have hlb : b < wr.drew.heap.size := Nat.lt_of_lt_of_le hbB hb.size
   have hlb' : b' < wr.drew.heap.size := Nat.lt_of_lt_of_le hbB' hb.size
   clear hrd hrd' hel hel' hp hp' hpw hpw' hb
   go_wp2_with fail
   go_region_held3 (fun w' => w'.cell? ⟨b, off + k * 2, none⟩ = some (v0) ∧ w'.cell? ⟨b', off' + k * 2, none⟩ = some (u0) ∧ w'.cell? ⟨b, off + k * 2 + 1, none⟩ = some (v1) ∧ w'.cell? ⟨b', off' + k * 2 + 1, none⟩ = some (u1))
    (go_keep)
    (first | (go_at_call 81; refine L.out.mono ?_; rintro e w1 ⟨rfl, bb⟩; have m0 := (bb.cell (p := ⟨b, off + k * 2, none⟩) hlb).trans c0; have m1 := (bb.cell (p := ⟨b', off' + k * 2, none⟩) hlb').trans c0'; have m2 := (bb.cell (p := ⟨b, off + k * 2 + 1, none⟩) hlb).trans c1; have m3 := (bb.cell (p := ⟨b', off' + k * 2 + 1, none⟩) hlb').trans c1'))
   have HB1 := hid (next_trans HB.out bb)
   clear bb L c0 c0' c1 c1' m0 m1 m2 m3
   go_wp2
   go_roundw
   case rel => exact ⟨k + 1, hlt, by simp, HB1.out⟩
   case measure => simp [intOf]; omega
  ·have HB := hid hb
   clear hb
   go_wp2
   go_ret
   exact ⟨rfl, HB.out⟩
set_option maxHeartbeats 2000000 in
theorem markK_RuleS (v : Value) (D : List (Dat sRule)) (k : Int) (F : List Nat) (w : World) (h : Ow w sRuleS [v] D F) (hF : F.Nodup) (hz : sz sRuleS D ≤ 1048576) (hk0 : 0 ≤ k) (hk : k + (cntv sRuleS D : Int) ≤ 1099511627776) :
  Calls Tryz.prog 50 #[v, .int .i64 k] w (AnsMarkF w sRuleS [v] D k F) := by
 obtain ⟨A, c, rfl, hcap⟩ := h.rd.slice
 have hn1 := sz_len hz
 obtain ⟨n, hn⟩ : ∃ n, D.length = n := ⟨_, rfl⟩
 rw [hn] at h hcap hn1 ⊢
 have HN := hid hn
 have HZ := hid hz
 have S0 := hid (headMk_zero (k := k) h)
 clear h hcap hn hz
 go_enter Tryz.func50, Tryz.ntmps50
 go_wp2
 go_loopw [1, 5] (fun kk i wr => HeadMk w 111 sRule (.slice A n c) D k F kk i wr) (fun _ i _ => n - (intOf i).toNat)
 case atStart => exact S0.out
 case round =>
  obtain ⟨j, hj, rfl, rfl, ho, hb⟩ := hrel
  clear S0
  rw [HN.out] at hj
  by_cases hlt : j < n
  ·have hjD : j < D.length := by rw [HN.out]; exact hlt
   obtain ⟨g, n2, c2, es, Gj, ev, -, hel, hp, hg, oe, ng, gG, sub, R⟩ := ho.elem' hF (j := j) (by rw [mixed_len]; exact hjD)
   injection ev with e1 e2 e3
   subst e1 e2 e3
   rw [mixed_get hjD] at oe
   obtain ⟨v0, v1, rfl⟩ := cells_Rule oe.rd
   obtain ⟨F0, R0, eF0, o0, o1⟩ := Ow.split (ca := [v0]) (cb := [v1]) oe rfl
   rw [eF0] at ng
   obtain ⟨n0, nr0, x0, y0⟩ := dis_app ng
   have g0 : g ∉ F0 := fun hb => gG (by rw [eF0]; exact List.mem_append_left _ hb)
   have g1 : g ∉ R0 := fun hb => gG (by rw [eF0]; exact (List.mem_append_right _ hb))
   have sub0 : ∀ x ∈ F0, x ∈ Gj := fun x hb => by rw [eF0]; exact List.mem_append_left _ hb
   have sub1 : ∀ x ∈ R0, x ∈ Gj := fun x hb => by rw [eF0]; exact (List.mem_append_right _ hb)
   obtain ⟨z0, hz0⟩ : ∃ z, cntv sI ((D.getD j (dft sRule)).1) = z := ⟨_, rfl⟩
   obtain ⟨z1, hz1⟩ : ∃ z, cntv sI ((D.getD j (dft sRule)).2) = z := ⟨_, rfl⟩
   have hzz : cnt sRule (D.getD j (dft sRule)) = z0 + z1 := by rw [← hz0, ← hz1]; rfl
   have hcn := headMk_cnt (e := 111) hjD
   rw [hzz] at hcn
   obtain ⟨q, hq⟩ : ∃ q, k + (cnts sRule D j : Int) = q := ⟨_, rfl⟩
   have q0 : 0 ≤ q := by omega
   have q1 : q + (z0 : Int) + (z1 : Int) ≤ 1099511627776 := by have : (cntv sRuleS D : Int) = (cntv (.row 111 sRule) D : Nat) := rfl; omega
   have Z0 : Hid (sz sI ((D.getD j (dft sRule)).1) ≤ 1048576) := hid (by have := sz_each HZ.out hjD; simp only [sz] at this ⊢; omega)
   have HZ0 := hid hz0
   have Z1 : Hid (sz sI ((D.getD j (dft sRule)).2) ≤ 1048576) := hid (by have := sz_each HZ.out hjD; simp only [sz] at this ⊢; omega)
   have HZ1 := hid hz1
   rw [hq]
   have HEF : Hid (Gj = (F0 ++ R0)) := hid (by rw [eF0])
   have HR := hid R
   have HB := hid hb
   have HQ := hid hq
   have HZZ := hid hzz
   have SUB := hid sub
   have on : Only Gj wr wr := Only.refl _ _
   have c0 : wr.cell? ⟨g, j * 2, none⟩ = some (v0) := by simpa [nc] using hp 0 (by simp)
   have c1 : wr.cell? ⟨g, j * 2 + 1, none⟩ = some (v1) := by simpa [nc] using hp 1 (by simp)
   clear R hb hq hzz hcn ho oe sub hp hel gG hz0 hz1 eF0
   go_wp2_with fail
   refine (markK_ints _ _ q F0 _ o0 Z0.out (by omega) (by omega)).mono ?_
   rintro e w1 ⟨he, o0, on0⟩
   rw [HZ0.out] at he
   replace o1 := o1.only on0 y0
   have hgl : g < wr.heap.size := Nat.lt_of_lt_of_le hg on.size
   replace c0 := (World.cell?_of_block (a := ⟨g, j * 2, none⟩) (on0.block g hgl g0)).trans c0
   replace c1 := (World.cell?_of_block (a := ⟨g, j * 2 + 1, none⟩) (on0.block g hgl g0)).trans c1
   replace on := on.trans (on0.wider sub0)
   clear on0 hgl
   obtain ⟨k0, hk0⟩ : ∃ l, q + (z0 : Int) = l := ⟨_, rfl⟩
   rw [hk0] at he
   have l0 : 0 ≤ k0 := by omega
   have u0 : k0  + (z1 : Int) ≤ 1099511627776 := by omega
   subst he
   have HK0 := hid hk0
   clear hk0
   go_wp2_with fail
   refine (markK_ints _ _ k0 R0 _ o1 Z1.out (by omega) (by omega)).mono ?_
   rintro e w2 ⟨he, o1, on1⟩
   rw [HZ1.out] at he
   replace o0 := o0.only on1 x0
   have hgl : g < w1.heap.size := Nat.lt_of_lt_of_le hg on.size
   replace c0 := (World.cell?_of_block (a := ⟨g, j * 2, none⟩) (on1.block g hgl g1)).trans c0
   replace c1 := (World.cell?_of_block (a := ⟨g, j * 2 + 1, none⟩) (on1.block g hgl g1)).trans c1
   replace on := on.trans (on1.wider sub1)
   clear on1 hgl
   obtain ⟨k1, hk1⟩ : ∃ l, k0 + (z1 : Int) = l := ⟨_, rfl⟩
   rw [hk1] at he
   have l1 : 0 ≤ k1 := by omega
   have u1 : k1  ≤ 1099511627776 := by omega
   subst he
   have HK1 := hid hk1
   clear hk1
   have e0 : k0 = q + (cntv sI ((D.getD j (dft sRule)).1) : Int) := by have := HK0.out; have := HZ0.out; omega
   rw [e0] at o1
   have S : HeadMk w 111 sRule (.slice (some ⟨g, 0, none⟩) n c) D k F (.int .i64 k1) (.int .i64 ((j : Int) + 1)) w2 := by
    have h1 := HR.out w2 (mkc sRule q (D.getD j (dft sRule))) (by rw [HEF.out]; exact (Ow.join o0 o1)) on
    have h2 := headMk_step (z := z0 + z1) hjD HB.out (on.wider SUB.out) HZZ.out (by rw [HQ.out]) h1
    have h3 : k + (cnts sRule D j : Int) + ((z0 + z1 : Nat) : Int) = k1 := by have := HQ.out; have := HK0.out; have := HK1.out; omega
    rw [h3] at h2
    exact h2
   have HS := hid S
   clear S on o0 o1 c0 c1 e0
   go_wp2
   go_roundw
   case rel => exact HS.out
   case measure => simp [intOf]; omega
  ·have F1 := hid (headMk_end (by rw [HN.out]; exact hlt) (by rw [HN.out]; exact hj) ho hb)
   clear ho hb
   generalize cnts sRule D j = z at *
   go_wp2
   go_ret
   exact F1.out
abbrev sSystem : Sh := .cat sSig sRuleS
theorem parts_System {w : World} {B : Nat} {v0 v1 : Value} {d : Dat sSystem} (h : Rd w B sSystem [v0, v1] d) : Rd w B sSig [v0] d.1 ∧ Rd w B sRuleS [v1] d.2 := by
 obtain ⟨p0, q0⟩ := Rd.split (ca := [v0]) (cb := [v1]) h rfl
 exact ⟨p0, q0⟩
theorem join_System {w : World} {lo hi : Nat} {v0 v1 : Value} {d : Dat sSystem} {m0 m1 m2 : Nat} (o0 : Owned w m0 m1 sSig [v0] d.1) (o1 : Owned w m1 m2 sRuleS [v1] d.2) (l0 : m0 ≤ m1) (l1 : m1 ≤ m2) (hl : lo ≤ m0) (hh : m2 ≤ hi) : Owned w lo hi sSystem [v0, v1] d := by
 exact ((Owned.cat o0 o1 (Nat.le_refl _) (by omega) (by omega)) : Owned w m0 m2 sSystem [v0, v1] d).wider hl hh
theorem cells_System {w : World} {B : Nat} {es : List Value} {d : Dat sSystem} (h : Rd w B sSystem es d) : ∃ (v0 : Value) (v1 : Value), es = [v0, v1] := by
 obtain ⟨ca0, cb0, e0, p0, q0⟩ := h
 obtain ⟨u0, z0⟩ := cells_Sig p0
 obtain ⟨A1, n1, c1, z1, -⟩ := q0
 exact ⟨u0, .slice A1 n1 c1, by rw [e0, z0, z1] <;> rfl⟩
set_option maxHeartbeats 2000000 in
theorem szK_System (v0 v1 : Value) (d : Dat sSystem) (left : Int) (w : World) (h : Rd w w.heap.size sSystem [v0, v1] d) (h0 : 0 ≤ left) (h1 : left ≤ 1048576) :
  Calls Tryz.prog 5 #[.agg #[v0, v1], .int .i64 left] w (AnsSzK w left (sz sSystem d)) := by
 obtain ⟨g0, g1⟩ := parts_System h
 obtain ⟨t0, ht0⟩ : ∃ t, sz sSig d.1 = t := ⟨_, rfl⟩
 obtain ⟨t1, ht1⟩ : ∃ t, sz sRuleS d.2 = t := ⟨_, rfl⟩
 have HE : Hid (sz sSystem d = t0 + t1) := hid (by rw [← ht0, ← ht1]; simp only [sz]; try omega)
 have HT0 := hid ht0
 have G0 := hid g0
 have HT1 := hid ht1
 have G1 := hid g1
 obtain ⟨W, hW⟩ : ∃ W, W = w.alloc (.cells #[v0, v1] 27) := ⟨_, rfl⟩
 have r : Row W w.heap.size 27 #[v0, v1] := by rw [hW]; exact Row.new _ _ _
 have bel : Below w.heap.size w W := by rw [hW]; exact (Below.refl _ _).alloc (Nat.le_refl _) _
 have HW := hid hW
 clear hW h g0 g1 ht0 ht1
 go_enter Tryz.func5, Tryz.ntmps5
 go_wp2_with fail
 rw [← HW.out]
 refine (szK_Sig _ _ left W (G0.out.next bel) h0 h1).mono ?_
 rintro e w1 ⟨he, bb⟩
 rw [HT0.out] at he
 replace r := r.next bb
 replace bel := next_trans bel bb
 clear bb
 by_cases q0 : left - (t0 : Int) < 0
 ·rw [if_pos q0] at he
  subst he
  have F : AnsSzK w left (sz sSystem d) (.returned (.int .i64 (-1))) w1 := ⟨by rw [HE.out, if_pos (by omega)], bel⟩
  have HF := hid F
  clear F bel r
  go_wp2
  go_ret
  exact HF.out
 rw [if_neg q0] at he
 obtain ⟨l0, hl0⟩ : ∃ l, left - (t0 : Int) = l := ⟨_, rfl⟩
 rw [hl0] at he
 have a0 : 0 ≤ l0 := by omega
 have b0 : l0 ≤ 1048576 := by omega
 have HL0 := hid hl0
 clear hl0 q0
 subst he
 have c0_0 : w1.cell? ⟨w.heap.size, 1, none⟩ = some (v1) := r.cell 1
 go_wp2_with fail
 refine (szK_RuleS _ _ l0 w1 (G1.out.next bel) a0 b0).mono ?_
 rintro e w2 ⟨he, bb⟩
 rw [HT1.out] at he
 replace r := r.next bb
 replace bel := next_trans bel bb
 clear bb
 by_cases q1 : l0 - (t1 : Int) < 0
 ·rw [if_pos q1] at he
  subst he
  have F : AnsSzK w left (sz sSystem d) (.returned (.int .i64 (-1))) w2 := ⟨by have := HL0.out; rw [HE.out, if_pos (by omega)], bel⟩
  have HF := hid F
  clear F bel r
  go_wp2
  go_ret
  exact HF.out
 rw [if_neg q1] at he
 obtain ⟨l1, hl1⟩ : ∃ l, l0 - (t1 : Int) = l := ⟨_, rfl⟩
 rw [hl1] at he
 have a1 : 0 ≤ l1 := by omega
 have b1 : l1 ≤ 1048576 := by omega
 have HL1 := hid hl1
 clear hl1 q1
 subst he
 have F : AnsSzK w left (sz sSystem d) (.returned (.int .i64 l1)) w2 := ⟨by have := HL0.out; have := HL1.out; rw [HE.out, if_neg (by omega)]; exact congrArg (fun z => Ending.returned (.int .i64 z)) (by omega), bel⟩
 have HF := hid F
 clear F bel r
 go_wp2
 go_ret
 exact HF.out
def CopySystem (w : World) (d : Dat sSystem) (e : Ending) (w' : World) : Prop := ∃ A0 n0 c0 A1 n1 c1, e = .returned (.agg #[.slice A0 n0 c0, .slice A1 n1 c1]) ∧ Owned w' w.heap.size w'.heap.size sSystem [.slice A0 n0 c0, .slice A1 n1 c1] d ∧ Below w.heap.size w w'
set_option maxHeartbeats 2000000 in
theorem toK_System (v0 v1 : Value) (d : Dat sSystem) (w : World) (h : Rd w w.heap.size sSystem [v0, v1] d) (hz : sz sSystem d ≤ 1048576) :
  Calls Tryz.prog 9 #[.agg #[v0, v1]] w (CopySystem w d) := by
 obtain ⟨g0, g1⟩ := parts_System h
 have cp0 := CpS.zero w 27 45 #[v0, v1] #[.slice none 0 0, .slice none 0 0]
 obtain ⟨W, hW⟩ : ∃ W, W = ((w.alloc (.cells #[v0, v1] 27)).alloc (.cells #[.slice none 0 0, .slice none 0 0] 45)).alloc (.cells #[.slice none 0 0, .slice none 0 0] 45) := ⟨_, rfl⟩
 rw [← hW] at cp0
 have HW := hid hW
 have G0 := hid g0
 have Z0 : Hid (sz sSig d.1 ≤ 1048576) := hid (by have := hz; simp only [sz] at this ⊢; omega)
 have G1 := hid g1
 have Z1 : Hid (sz sRuleS d.2 ≤ 1048576) := hid (by have := hz; simp only [sz] at this ⊢; omega)
 clear hW hz h g0 g1
 go_enter Tryz.func9, Tryz.ntmps9
 go_wp2_with fail
 rw [← HW.out]
 refine (toK_Sig _ _ _ ((G0.out.below cp0.bel).more cp0.bel.size) Z0.out).mono ?_
 rintro e w1 ⟨x0A0, x0n0, x0c0, rfl, o0, bb⟩
 have zb0 := bb.size
 have zc0 := cp0.size
 replace cp0 := cp0.next bb
 clear bb
 have f0_0 : w1.frozen? ⟨w.heap.size + 1 + 1, 0, none⟩ = false := cp0.cur.free 0
 have k0_0 : w1.cell? ⟨w.heap.size + 1 + 1, 0, none⟩ = some (.slice none 0 0) := cp0.cur.cell 0
 obtain ⟨w2, hw0⟩ : ∃ x, x = (w1.setCell ⟨w.heap.size + 1 + 1, 0, none⟩ (.slice x0A0 x0n0 x0c0)) := ⟨_, rfl⟩
 replace o0 := o0.put (g := w.heap.size + 1 + 1) (i := 0) (u := .slice x0A0 x0n0 x0c0) (by omega)
 rw [← hw0] at o0
 replace cp0 : CpS w 27 45 #[v0, v1] #[.slice none 0 0, .slice none 0 0] #[.slice x0A0 x0n0 x0c0, .slice none 0 0] w2 := by rw [hw0]; exact (CpS.put cp0 0 (.slice x0A0 x0n0 x0c0))
 have zw0 : w2.heap.size = w1.heap.size := by rw [hw0]; simp
 have HW0 := hid hw0
 clear hw0
 have d1_0 : w2.cell? ⟨w.heap.size, 1, none⟩ = some (v1) := cp0.box.cell 1
 rw [HW0.out] at d1_0
 go_wp2_with fail
 rw [← HW0.out]
 clear d1_0
 refine (toK_RuleS _ _ _ ((G1.out.below cp0.bel).more cp0.bel.size) Z1.out).mono ?_
 rintro e w3 ⟨x1A0, x1n0, x1c0, rfl, o1, bb⟩
 replace o0 := o0.next bb
 have zb1 := bb.size
 have zc1 := cp0.size
 replace cp0 := cp0.next bb
 clear bb
 have f1_0 : w3.frozen? ⟨w.heap.size + 1 + 1, 1, none⟩ = false := cp0.cur.free 1
 have k1_0 : w3.cell? ⟨w.heap.size + 1 + 1, 1, none⟩ = some (.slice none 0 0) := cp0.cur.cell 1
 obtain ⟨w4, hw1⟩ : ∃ x, x = (w3.setCell ⟨w.heap.size + 1 + 1, 1, none⟩ (.slice x1A0 x1n0 x1c0)) := ⟨_, rfl⟩
 replace o0 := o0.put (g := w.heap.size + 1 + 1) (i := 1) (u := .slice x1A0 x1n0 x1c0) (by omega)
 rw [← hw1] at o0
 replace o1 := o1.put (g := w.heap.size + 1 + 1) (i := 1) (u := .slice x1A0 x1n0 x1c0) (by omega)
 rw [← hw1] at o1
 replace cp0 : CpS w 27 45 #[v0, v1] #[.slice none 0 0, .slice none 0 0] #[.slice x0A0 x0n0 x0c0, .slice x1A0 x1n0 x1c0] w4 := by rw [hw1]; exact (CpS.put cp0 1 (.slice x1A0 x1n0 x1c0))
 have zw1 : w4.heap.size = w3.heap.size := by rw [hw1]; simp
 have HW1 := hid hw1
 clear hw1
 have y0 : w4.cell? ⟨w.heap.size + 1 + 1, 0, none⟩ = some (.slice x0A0 x0n0 x0c0) := cp0.cur.cell 0
 rw [HW1.out] at y0
 have y1 : w4.cell? ⟨w.heap.size + 1 + 1, 1, none⟩ = some (.slice x1A0 x1n0 x1c0) := cp0.cur.cell 1
 rw [HW1.out] at y1
 have s0 : (w4).cell? ⟨w.heap.size + 1, 0, none⟩ = some (.slice none 0 0) := cp0.res.cell 0
 rw [HW1.out] at s0
 have r0 : (w4).frozen? ⟨w.heap.size + 1, 0, none⟩ = false := cp0.res.free 0
 rw [HW1.out] at r0
 have s1 : ((w4.setCell ⟨w.heap.size + 1, 0, none⟩ (.slice x0A0 x0n0 x0c0))).cell? ⟨w.heap.size + 1, 1, none⟩ = some (.slice none 0 0) := (CpS.fin cp0 0 (.slice x0A0 x0n0 x0c0)).res.cell 1
 rw [HW1.out] at s1
 have r1 : ((w4.setCell ⟨w.heap.size + 1, 0, none⟩ (.slice x0A0 x0n0 x0c0))).frozen? ⟨w.heap.size + 1, 1, none⟩ = false := (CpS.fin cp0 0 (.slice x0A0 x0n0 x0c0)).res.free 1
 rw [HW1.out] at r1
 have oo : Owned w4 (w.heap.size + 1 + 1 + 1) w4.heap.size sSystem [.slice x0A0 x0n0 x0c0, .slice x1A0 x1n0 x1c0] d := join_System (m0 := W.heap.size) (m1 := w2.heap.size) (m2 := w4.heap.size) (o0.wider (Nat.le_refl _) (by omega)) (o1.wider (Nat.le_refl _) (by omega)) (by omega) (by omega) (by omega) (by omega)
 have F : CopySystem w d (.returned (.agg #[.slice x0A0 x0n0 x0c0, .slice x1A0 x1n0 x1c0])) ((w4.setCell ⟨w.heap.size + 1, 0, none⟩ (.slice x0A0 x0n0 x0c0)).setCell ⟨w.heap.size + 1, 1, none⟩ (.slice x1A0 x1n0 x1c0)) := ⟨x0A0, x0n0, x0c0, x1A0, x1n0, x1c0, rfl, Owned.wider (((oo.put (g := w.heap.size + 1) (i := 0) (u := .slice x0A0 x0n0 x0c0) (by omega)).put (g := w.heap.size + 1) (i := 1) (u := .slice x1A0 x1n0 x1c0) (by omega))) (by omega) (by simp), ((CpS.fin (CpS.fin cp0 0 (.slice x0A0 x0n0 x0c0)) 1 (.slice x1A0 x1n0 x1c0))).bel⟩
 have u0 : (((w4.setCell ⟨w.heap.size + 1, 0, none⟩ (.slice x0A0 x0n0 x0c0)).setCell ⟨w.heap.size + 1, 1, none⟩ (.slice x1A0 x1n0 x1c0))).cell? ⟨w.heap.size + 1, 0, none⟩ = some (.slice x0A0 x0n0 x0c0) := (CpS.fin (CpS.fin cp0 0 (.slice x0A0 x0n0 x0c0)) 1 (.slice x1A0 x1n0 x1c0)).res.cell 0
 rw [HW1.out] at u0
 have u1 : (((w4.setCell ⟨w.heap.size + 1, 0, none⟩ (.slice x0A0 x0n0 x0c0)).setCell ⟨w.heap.size + 1, 1, none⟩ (.slice x1A0 x1n0 x1c0))).cell? ⟨w.heap.size + 1, 1, none⟩ = some (.slice x1A0 x1n0 x1c0) := (CpS.fin (CpS.fin cp0 0 (.slice x0A0 x0n0 x0c0)) 1 (.slice x1A0 x1n0 x1c0)).res.cell 1
 rw [HW1.out] at u1
 rw [HW1.out] at F
 have HF := hid F
 clear F oo cp0 o0 o1
 go_wp2
 exact bodyPost_ret (v := .agg #[.slice x0A0 x0n0 x0c0, .slice x1A0 x1n0 x1c0]) (by simp [results, Tryz.results9, go_sem, u0, u1]) rfl HF.out
set_option maxHeartbeats 2000000 in
theorem eqK_System (v0 v1 u0 u1 : Value) (d : Dat sSystem) (w : World) (h : Rd w w.heap.size sSystem [v0, v1] d) (h' : Rd w w.heap.size sSystem [u0, u1] d) (hz : sz sSystem d ≤ 1048576) :
  Calls Tryz.prog 14 #[.agg #[v0, v1], .agg #[u0, u1]] w (Yes w) := by
 obtain ⟨g0, g1⟩ := parts_System h
 obtain ⟨g0', g1'⟩ := parts_System h'
 obtain ⟨W, hW⟩ : ∃ W, W = (w.alloc (.cells #[v0, v1] 45)).alloc (.cells #[u0, u1] 45) := ⟨_, rfl⟩
 have ra : Row W w.heap.size 45 #[v0, v1] := by rw [hW]; exact (Row.new w 45 #[v0, v1]).alloc _
 have rb : Row W (w.heap.size + 1) 45 #[u0, u1] := by rw [hW]; have := Row.new (w.alloc (.cells #[v0, v1] 45)) 45 #[u0, u1]; simpa using this
 have bel : Below w.heap.size w W := by rw [hW]; exact ((Below.refl _ _).alloc (Nat.le_refl _) _).alloc (by simp) _
 have HW := hid hW
 have G0 := hid g0
 have G0' := hid g0'
 have Z0 : Hid (sz sSig d.1 ≤ 1048576) := hid (by have := hz; simp only [sz] at this ⊢; omega)
 have G1 := hid g1
 have G1' := hid g1'
 have Z1 : Hid (sz sRuleS d.2 ≤ 1048576) := hid (by have := hz; simp only [sz] at this ⊢; omega)
 clear hW hz h h' g0 g0' g1 g1'
 go_enter Tryz.func14, Tryz.ntmps14
 go_wp2_with fail
 rw [← HW.out]
 refine (eqK_Sig _ _ _ W (G0.out.next bel) (G0'.out.next bel) Z0.out).mono ?_
 rintro e w1 ⟨rfl, bb⟩
 replace ra := ra.next bb
 replace rb := rb.next bb
 replace bel := next_trans bel bb
 clear bb
 have a1_0 : w1.cell? ⟨w.heap.size, 1, none⟩ = some (v1) := ra.cell 1
 have b1_0 : w1.cell? ⟨w.heap.size + 1, 1, none⟩ = some (u1) := rb.cell 1
 go_wp2_with fail
 clear a1_0 b1_0
 refine (eqK_RuleS _ _ _ w1 (G1.out.next bel) (G1'.out.next bel) Z1.out).mono ?_
 rintro e w2 ⟨rfl, bb⟩
 replace ra := ra.next bb
 replace rb := rb.next bb
 replace bel := next_trans bel bb
 clear bb
 have F : Yes w (.returned (.bool true)) w2 := ⟨rfl, bel⟩
 have HF := hid F
 clear F ra rb bel
 go_wp2
 go_ret
 exact HF.out
set_option maxHeartbeats 2000000 in
theorem markK_System (v0 v1 : Value) (d : Dat sSystem) (k : Int) (F : List Nat) (w : World) (h : Ow w sSystem [v0, v1] d F) (hF : F.Nodup) (hz : sz sSystem d ≤ 1048576) (hk0 : 0 ≤ k) (hk : k + (cntv sSystem d : Int) ≤ 1099511627776) :
  Calls Tryz.prog 16 #[.agg #[v0, v1], .int .i64 k] w (AnsMarkF w sSystem [v0, v1] d k F) := by
 have hlt := h.lt
 obtain ⟨F0, R0, eF0, o0, o1⟩ := Ow.split (ca := [v0]) (cb := [v1]) h rfl
 rw [eF0] at hF
 obtain ⟨n0, nr0, x0, y0⟩ := dis_app hF
 obtain ⟨z0, hz0⟩ : ∃ z, cntv sSig d.1 = z := ⟨_, rfl⟩
 obtain ⟨z1, hz1⟩ : ∃ z, cntv sRuleS d.2 = z := ⟨_, rfl⟩
 have hc : (cntv sSystem d : Int) = (z0 : Int) + (z1 : Int) := by rw [← hz0, ← hz1]; first | done | (simp only [cntv]; try omega)
 have Z0 : Hid (sz sSig d.1 ≤ 1048576) := hid (by have := hz; simp only [sz] at this ⊢; omega)
 have HZ0 := hid hz0
 have Z1 : Hid (sz sRuleS d.2 ≤ 1048576) := hid (by have := hz; simp only [sz] at this ⊢; omega)
 have HZ1 := hid hz1
 have HC := hid hc
 rw [hc] at hk
 obtain ⟨W, hW⟩ : ∃ W, W = w.alloc (.cells #[v0, v1] 45) := ⟨_, rfl⟩
 have r : Row W w.heap.size 45 #[v0, v1] := by rw [hW]; exact Row.new _ _ _
 have bel : Below w.heap.size w W := by rw [hW]; exact (Below.refl _ _).alloc (Nat.le_refl _) _
 replace o0 := o0.next bel
 replace o1 := o1.next bel
 have nb0 : w.heap.size ∉ F0 := fun hb => by have := hlt _ (by rw [eF0]; exact List.mem_append_left _ hb); omega
 have nb1 : w.heap.size ∉ R0 := fun hb => by have := hlt _ (by rw [eF0]; exact (List.mem_append_right _ hb)); omega
 have sub0 : ∀ x ∈ F0, x ∈ F := fun x hb => by rw [eF0]; exact List.mem_append_left _ hb
 have sub1 : ∀ x ∈ R0, x ∈ F := fun x hb => by rw [eF0]; exact (List.mem_append_right _ hb)
 have on : Only F w W := Only.of_below bel
 have HW := hid hW
 have HEF : Hid (F = (F0 ++ R0)) := hid (by rw [eF0])
 clear hW h hz hc bel hlt hz0 hz1 eF0
 go_enter Tryz.func16, Tryz.ntmps16
 go_wp2_with fail
 rw [← HW.out]
 refine (markK_Sig _ _ k F0 _ o0 n0 Z0.out (by omega) (by rw [HZ0.out]; omega)).mono ?_
 rintro e w1 ⟨he, o0, on0⟩
 rw [HZ0.out] at he
 replace o1 := o1.only on0 y0
 replace r := Row.only r on0 nb0
 replace on := on.trans (on0.wider sub0)
 clear on0
 obtain ⟨k0, hk0⟩ : ∃ l, k + (z0 : Int) = l := ⟨_, rfl⟩
 rw [hk0] at he
 have l0 : 0 ≤ k0 := by omega
 have u0 : k0  + (z1 : Int) ≤ 1099511627776 := by omega
 subst he
 have HK0 := hid hk0
 clear hk0
 have c1_0 : w1.cell? ⟨w.heap.size, 1, none⟩ = some (v1) := r.cell 1
 go_wp2_with fail
 clear c1_0
 refine (markK_RuleS _ _ k0 R0 _ o1 nr0 Z1.out (by omega) (by rw [HZ1.out]; omega)).mono ?_
 rintro e w2 ⟨he, o1, on1⟩
 rw [HZ1.out] at he
 replace o0 := o0.only on1 x0
 replace r := Row.only r on1 nb1
 replace on := on.trans (on1.wider sub1)
 clear on1
 obtain ⟨k1, hk1⟩ : ∃ l, k0 + (z1 : Int) = l := ⟨_, rfl⟩
 rw [hk1] at he
 have l1 : 0 ≤ k1 := by omega
 have u1 : k1  ≤ 1099511627776 := by omega
 subst he
 have HK1 := hid hk1
 clear hk1
 have F1 : AnsMarkF w sSystem [v0, v1] d k F (.returned (.int .i64 k1)) w2 := by
  refine ⟨congrArg (fun z => Ending.returned (.int .i64 z)) ?_, ?_, on⟩
  ·rw [HC.out]; have := HK0.out; have := HK1.out; omega
  ·rw [HEF.out]
   have e0 : k0 = k + (cntv sSig d.1 : Int) := by have := HK0.out; have := HZ0.out; omega
   rw [e0] at o1
   exact (Ow.join o0 o1)
 have HF := hid F1
 clear F1 on r o0 o1
 go_wp2
 go_ret
 exact HF.out
end kindsR
end
section
open Go.Lib (hid)
namespace rename
open Go.RowKit base ints sig term termOk marks app sym segs termFacts varsMath varsOf renMath
set_option maxRecDepth 100000
theorem mem_of_get {t : List Int} {k : Nat} {x : Int} (hk : k < t.length) (hx : t.getD k 0 = x) : x ∈ t := by
 rw [← hx]
 simp [List.getD, hk]
theorem not_mem_of {t : List Int} {x : Int} (h : ∀ j, j < t.length → t.getD j 0 ≠ x) : x ∉ t := fun hx => by
 obtain ⟨j, hj, e⟩ := List.getElem_of_mem hx
 exact h j hj (by simp [List.getD, hj, e])
def HeadNo (n : Nat) (xs : List Int) (x : Int) (i : Value) : Prop := ∃ k : Nat, k ≤ n ∧ i = .int .i64 k ∧ ∀ j, j < k → xs.getD j 0 ≠ x
theorem headNo_step {n k : Nat} {xs : List Int} {x y : Int} (hk : k < n) (h : ∀ j, j < k → xs.getD j 0 ≠ x) (hy : Hid (xs.getD k 0 = y)) (hne : ¬ y = x) : HeadNo n xs x (.int .i64 ((k : Int) + 1)) :=
 ⟨k + 1, hk, by simp, fun j hj => by
  by_cases e : j = k
  ·subst e; rw [hy.out]; exact hne
  ·exact h j (by omega)⟩
set_option maxHeartbeats 1000000 in
theorem l1Has (A : Option Addr) (n c : Nat) (xs : List Int) (x : Int) (w : World) (h : Seg w w.heap.size A n xs) (hn : n ≤ 1048576) :
  Calls Tryz.prog 125 #[.slice A n c, .int .i64 x] w fun e w' => w = w' ∧ e = .returned (.bool (decide (x ∈ xs))) := by
 have HX := hid h.1
 go_enter Tryz.func125, Tryz.ntmps125
 go_wp2
 go_loop [5] (fun i => HeadNo n xs x i) (fun i => n - (intOf i).toNat)
 case atStart => exact ⟨0, Nat.zero_le _, rfl, fun j hj => absurd hj (Nat.not_lt_zero _)⟩
 case round =>
  obtain ⟨k, hk, rfl, hlow⟩ := hrel
  by_cases hlt : k < n
  ·obtain ⟨b, off, y, rfl, -, hy, ey⟩ := h.spot hlt
   by_cases he : y = x
   ·subst he
    have F := hid (show y ∈ xs from mem_of_get (by rw [HX.out]; exact hlt) ey.out)
    have e1 : (y == y) = true := by simp
    clear h ey hlow
    go_wp2
    go_ret
    exact ⟨rfl, by rw [decide_eq_true F.out]; rfl⟩
   ·have S := hid (headNo_step hlt hlow ey he)
    have e1 : (y == x) = false := by simp [he]
    clear h ey hlow
    go_wp2
    go_round
    case rel => exact S.out
    case measure => simp [intOf]; omega
  ·have F := hid (not_mem_of (t := xs) (x := x) (fun j hj => hlow j (by rw [HX.out] at hj; omega)))
   clear h hlow
   go_wp2
   go_ret
   exact ⟨rfl, by rw [decide_eq_false F.out]; rfl⟩
def indexI (xs : List Int) (x : Int) : Int := if x ∈ xs then (idx xs x : Int) else -1
set_option maxHeartbeats 1000000 in
theorem indexOf (A : Option Addr) (n c : Nat) (xs : List Int) (x : Int) (w : World) (h : Seg w w.heap.size A n xs) (hn : n ≤ 1048576) :
  Calls Tryz.prog 126 #[.slice A n c, .int .i64 x] w fun e w' => w = w' ∧ e = .returned (.int .i64 (indexI xs x)) := by
 have HX := hid h.1
 go_enter Tryz.func126, Tryz.ntmps126
 go_wp2
 go_loop [8] (fun i => HeadNo n xs x i) (fun i => n - (intOf i).toNat)
 case atStart => exact ⟨0, Nat.zero_le _, rfl, fun j hj => absurd hj (Nat.not_lt_zero _)⟩
 case round =>
  obtain ⟨k, hk, rfl, hlow⟩ := hrel
  by_cases hlt : k < n
  ·obtain ⟨b, off, y, rfl, -, hy, ey⟩ := h.spot hlt
   by_cases he : y = x
   ·subst he
    have F := hid (show indexI xs y = (k : Int) by
     have hkl : k < xs.length := by rw [HX.out]; exact hlt
     unfold indexI
     rw [if_pos (mem_of_get hkl ey.out), idx_first hkl hlow ey.out])
    have e1 : (y == y) = true := by simp
    clear h ey hlow
    go_wp2
    go_ret
    exact ⟨rfl, by rw [F.out]; rfl⟩
   ·have S := hid (headNo_step hlt hlow ey he)
    have e1 : (x == y) = false := by simp; exact fun e => he e.symm
    clear h ey hlow
    go_wp2
    go_round
    case rel => exact S.out
    case measure => simp [intOf]; omega
  ·have F := hid (show indexI xs x = -1 by unfold indexI; rw [if_neg (not_mem_of (fun j hj => hlow j (by rw [HX.out] at hj; omega)))])
   clear h hlow
   go_wp2
   go_ret
   exact ⟨rfl, by rw [F.out]; rfl⟩
end rename
end
section
open Go.Lib (hid)
namespace same
open Go.RowKit base ints
set_option maxHeartbeats 400000 in
theorem specSame (A A' : Option Addr) (n m c c' : Nat) (xs ys : List Int) (w : World) (h : Seg w w.heap.size A n xs) (h' : Seg w w.heap.size A' m ys) (hn : n ≤ 1048576) (hm : m ≤ 1048576) :
  Calls Tryz.prog 67 #[.slice A n c, .slice A' m c'] w (AnsSame w xs ys) := by
 by_cases hnm : n = m
 ·subst hnm
  go_enter Tryz.func67, Tryz.ntmps67
  go_wp2
  go_loopw [5] (fun i wr => HeadSame w n xs ys i wr) (fun i _ => n - (intOf i).toNat)
  case atStart => exact ⟨0, 0, Nat.zero_le _, rfl, rfl, fun j h => absurd h (Nat.not_lt_zero _)⟩
  case round =>
   obtain ⟨k, d, hk, rfl, rfl, hc⟩ := hrel
   by_cases hlt : k < n
   ·obtain ⟨b, off, x, rfl, -, hx, ex⟩ := h.spot hlt
    obtain ⟨b', off', y, rfl, -, hx', ey⟩ := h'.spot hlt
    by_cases he : x = y
    ·subst he
     have S := hid (alike_step (w := w) hlt hc ex ey)
     clear hc h h' ex ey
     go_wp2
     go_quiet (fail)
     go_wp2
     go_roundw
     case rel => exact S.out _
     case measure => simp [intOf]; omega
    ·have S := hid (same_not (w := w) ex ey he)
     have hne : (x != y) = true := by simp [he]
     clear hc h h' ex ey he
     go_wp2
     go_quiet (fail)
     go_wp2
     go_ret
     rw [World.drewN_drewN]
     exact S.out _
   ·have S := hid (same_yes (w := w) h.1 h'.1 hlt hc)
    clear hc h h'
    go_wp2
    go_ret
    exact S.out _
 ·have S := hid (same_len (w := w) h.1 h'.1 hnm)
  have hne : ((n : Int) != (m : Int)) = true := by simp; omega
  clear h h'
  go_enter Tryz.func67, Tryz.ntmps67
  go_wp2
  go_ret
  exact S.out
set_option maxHeartbeats 400000 in
theorem libEqual (A A' : Option Addr) (n m c c' : Nat) (xs ys : List Int) (w : World) (h : Seg w w.heap.size A n xs) (h' : Seg w w.heap.size A' m ys) (hn : n ≤ 1048576) (hm : m ≤ 1048576) :
  Calls Tryz.prog 129 #[.slice A n c, .slice A' m c'] w (AnsSame w xs ys) := by
 by_cases hnm : n = m
 ·subst hnm
  go_enter Tryz.func129, Tryz.ntmps129
  go_wp2
  go_loopw [13] (fun i wr => HeadSame w n xs ys i wr) (fun i _ => n - (intOf i).toNat)
  case atStart => exact ⟨0, 0, Nat.zero_le _, rfl, rfl, fun j h => absurd h (Nat.not_lt_zero _)⟩
  case round =>
   obtain ⟨k, d, hk, rfl, rfl, hc⟩ := hrel
   by_cases hlt : k < n
   ·obtain ⟨b, off, x, rfl, -, hx, ex⟩ := h.spot hlt
    obtain ⟨b', off', y, rfl, -, hx', ey⟩ := h'.spot hlt
    by_cases he : x = y
    ·subst he
     have S := hid (alike_step (w := w) hlt hc ex ey)
     clear hc h h' ex ey
     go_wp2
     go_quiet (fail)
     go_wp2
     go_roundw
     case rel => exact S.out _
     case measure => simp [intOf]; omega
    ·have S := hid (same_not (w := w) ex ey he)
     have hne : (x != y) = true := by simp [he]
     clear hc h h' ex ey he
     go_wp2
     go_quiet (fail)
     go_wp2
     go_ret
     rw [World.drewN_drewN]
     exact S.out _
   ·have S := hid (same_yes (w := w) h.1 h'.1 hlt hc)
    clear hc h h'
    go_wp2
    go_ret
    exact S.out _
 ·have S := hid (same_len (w := w) h.1 h'.1 hnm)
  have hne : ((n : Int) != (m : Int)) = true := by simp; omega
  clear h h'
  go_enter Tryz.func129, Tryz.ntmps129
  go_wp2
  go_ret
  exact S.out
theorem implSame (A A' : Option Addr) (n m c c' : Nat) (xs ys : List Int) (w : World) (h : Seg w w.heap.size A n xs) (h' : Seg w w.heap.size A' m ys) (hn : n ≤ 1048576) (hm : m ≤ 1048576) :
  Calls Tryz.prog 117 #[.slice A n c, .slice A' m c'] w (AnsSame w xs ys) := by
 have L := hid (libEqual A A' n m c c' xs ys w h h' hn hm)
 clear h h'
 go_enter Tryz.func117, Tryz.ntmps117
 go_wp2_with fail
 refine L.out.mono ?_
 rintro e w' ⟨rfl, d, rfl⟩
 go_wp2
 go_ret
 exact ⟨rfl, d, rfl⟩
end same
end
section
open Go.Lib (hid)
namespace ruleSpec
open Go.RowKit renMath base ints sig term termOk marks app sym segs termFacts varsMath varsOf rename same count linear shape kindsR ruleMath
set_option maxRecDepth 100000
theorem box1 (w : World) (t : TypeId) (cs : Array Value) : ∃ W, W = w.alloc (.cells cs t) ∧ Row W w.heap.size t cs ∧ Below w.heap.size w W :=
 ⟨_, rfl, Row.new _ _ _, (Below.refl _ _).alloc (Nat.le_refl _) _⟩
theorem box2 (w : World) (t t' : TypeId) (cs cs' : Array Value) : ∃ W, W = (w.alloc (.cells cs t)).alloc (.cells cs' t') ∧ Row W w.heap.size t cs ∧ Row W (w.heap.size + 1) t' cs' ∧ Below w.heap.size w W := by
 refine ⟨_, rfl, ?_, ?_, ?_⟩
 ·have := (Row.new w t cs).alloc (.cells cs' t'); simpa using this
 ·have := Row.new (w.alloc (.cells cs t)) t' cs'; simpa using this
 ·exact ((Below.refl _ _).alloc (Nat.le_refl _) _).alloc (by simp) _
theorem len_ints {xs : List Int} {n : Nat} (hl : xs.length = n) (h : sz sI xs ≤ 1048576) : n ≤ 1048576 := by rw [sz_ints, hl] at h; exact h
theorem rule_szs {d : Dat sRule} (h : sz sRule d ≤ 1048576) : sz sI d.1 ≤ 1048576 ∧ sz sI d.2 ≤ 1048576 := by
 simp only [sz] at h ⊢
 omega
theorem sys_szs {d : Dat sSystem} (h : sz sSystem d ≤ 1048576) : sz sI d.1 ≤ 1048576 ∧ sz sRuleS d.2 ≤ 1048576 := by
 have h : sz sI d.1 + sz sRuleS d.2 ≤ 1048576 := h
 omega
theorem rd_rule {w : World} {B : Nat} {l r : Value} {d : Dat sRule} (h : Rd w B sRule [l, r] d) (hz : sz sRule d ≤ 1048576) : ∃ A n c A' n' c', l = .slice A n c ∧ r = .slice A' n' c' ∧ Seg w B A n d.1 ∧ Cap A n c ∧ Seg w B A' n' d.2 ∧ Cap A' n' c' ∧ n ≤ 1048576 ∧ n' ≤ 1048576 := by
 obtain ⟨g0, g1⟩ := parts_Rule h
 obtain ⟨z0, z1⟩ := rule_szs hz
 obtain ⟨A, n, c, e, h1, h2⟩ := rd_ints.1 g0
 obtain ⟨A', n', c', e', h3, h4⟩ := rd_ints.1 g1
 exact ⟨A, n, c, A', n', c', e, e', h1, h2, h3, h4, len_ints h1.1 z0, len_ints h3.1 z1⟩
theorem rule_noL {sg : List Int} {d : Rl} (h : termOkB sg d.1 = false) : ruleOkB sg d = false := by unfold ruleOkB; rw [h]; rfl
theorem rule_noR {sg : List Int} {d : Rl} (h : termOkB sg d.2 = false) : ruleOkB sg d = false := by unfold ruleOkB; rw [h]; simp
theorem rule_var {sg : List Int} {d : Rl} (h : hd d.1 < 0) : ruleOkB sg d = false := by unfold ruleOkB; rw [decide_eq_true h]; simp
theorem rule_new {sg : List Int} {d : Rl} {x : Int} (hx : x ∈ d.2) (h0 : x < 0) (hn : x ∉ d.1) : ruleOkB sg d = false := by
 unfold ruleOkB
 have : d.2.any (newB d.1) = true := List.any_eq_true.2 ⟨x, hx, by unfold newB; exact decide_eq_true ⟨h0, hn⟩⟩
 rw [this]; simp
theorem rule_yes {sg : List Int} {d : Rl} {n : Nat} (h1 : termOkB sg d.1 = true) (h2 : termOkB sg d.2 = true) (h0 : ¬ hd d.1 < 0) (hl : d.2.length = n) (h : ∀ j, j < n → newB d.1 (d.2.getD j 0) = false) : ruleOkB sg d = true := by
 unfold ruleOkB
 have : d.2.any (newB d.1) = false := by
  rw [List.any_eq_false]
  intro x hx
  obtain ⟨i, hi, rfl⟩ := List.getElem_of_mem hx
  have := h i (by omega)
  have e : d.2.getD i 0 = d.2[i] := by simp [List.getD, hi]
  rw [e] at this; simp [this]
 rw [this, h1, h2, decide_eq_false h0]; rfl
def HeadRu (w : World) (T : TypeId) (cs : Array Value) (n : Nat) (d : Rl) (i : Value) (wr : World) : Prop :=
 ∃ k : Nat, k ≤ n ∧ i = .int .i64 k ∧ (∀ j, j < k → newB d.1 (d.2.getD j 0) = false) ∧ Row wr (w.heap.size + 1) T cs ∧ Below w.heap.size w wr
theorem headRu_step {w wr : World} {T : TypeId} {cs : Array Value} {n k : Nat} {d : Rl} {x : Int} (hk : k < n) (hlow : ∀ j, j < k → newB d.1 (d.2.getD j 0) = false) (ex : Hid (d.2.getD k 0 = x)) (h : ¬ x < 0 ∨ x ∈ d.1) (hr : Row wr (w.heap.size + 1) T cs) (hb : Below w.heap.size w wr) : HeadRu w T cs n d (.int .i64 ((k : Int) + 1)) wr :=
 ⟨k + 1, hk, by simp, fun j hj => by
  by_cases e : j = k
  ·subst e
   rw [ex.out]; unfold newB
   exact decide_eq_false fun hh => by rcases h with h | h; exact h hh.1; exact hh.2 h
  ·exact hlow j (by omega), hr, hb⟩
set_option maxHeartbeats 4000000 in
theorem specRuleOk (a l r : Value) (sg : List Int) (d : Dat sRule) (w : World) (h : Rd w w.heap.size sI [a] sg) (h' : Rd w w.heap.size sRule [l, r] d) (hz : sz sI sg ≤ 1048576) (hz' : sz sRule d ≤ 1048576) :
  Calls Tryz.prog 110 #[.agg #[a], .agg #[l, r]] w (AnsB w (ruleOkB sg d)) := by
 obtain ⟨A, n, c, rfl, hs, hc⟩ := rd_ints.1 h
 have hn := len_ints hs.1 hz
 obtain ⟨A1, n1, c1, A2, n2, c2, rfl, rfl, s1, k1, s2, k2, hn1, hn2⟩ := rd_rule h' hz'
 obtain ⟨W, hW, rA, rR, bel⟩ := box2 w 42 111 #[.slice A n c] #[.slice A1 n1 c1, .slice A2 n2 c2]
 have HW := hid hW
 have HL1 := hid s1.1
 have HL2 := hid s2.1
 have L1 := hid (specTermOk A A1 n c n1 c1 sg d.1 W (hs.next bel) (s1.next bel) hn hn1)
 have L2 := hid (fun (w1 : World) (bb : Below w.heap.size w w1) => specTermOk A A2 n c n2 c2 sg d.2 w1 (hs.next bb) (s2.next bb) hn hn2)
 clear hW h h' hz hz' hs hc k1 k2
 cases ok1 : termOkB sg d.1 with
 | false =>
  have HS := hid ok1
  clear ok1 s1 s2
  go_enter Tryz.func110, Tryz.ntmps110
  go_wp2_with fail
  rw [← HW.out]
  refine L1.out.mono ?_
  rintro e w1 ⟨he, bb⟩
  rw [HS.out] at he
  subst he
  have F := hid (ansB (b := ruleOkB sg d) (a := false) (by rw [rule_noL HS.out]) (next_trans bel bb))
  clear bb bel rA rR
  go_wp2
  go_ret
  exact F.out
 | true =>
  have hp1 := (term_len ok1).1
  rw [s1.1] at hp1
  obtain ⟨b, off, x, rfl, hbB, hx, ex⟩ := s1.spot (k := 0) (by omega)
  have HS := hid ok1
  have EX := hid (show hd d.1 = x from ex.out)
  have i0 : (0 : Int) < (n1 : Int) := by omega
  clear ok1 ex
  go_enter Tryz.func110, Tryz.ntmps110
  go_wp2_with fail
  rw [← HW.out]
  refine L1.out.mono ?_
  rintro e w1 ⟨he, bb⟩
  rw [HS.out] at he
  subst he
  replace rA := rA.next bb
  replace rR := rR.next bb
  replace bel := next_trans bel bb
  have cA : w1.cell? ⟨w.heap.size, 0, none⟩ = some (.slice A n c) := rA.cell 0
  have cR : w1.cell? ⟨w.heap.size + 1, 1, none⟩ = some (.slice A2 n2 c2) := rR.cell 1
  clear bb L1
  go_wp2_with fail
  refine (L2.out w1 bel).mono ?_
  cases ok2 : termOkB sg d.2 with
  | false =>
   have HS2 := hid ok2
   clear ok2
   rintro e w2 ⟨he, bb⟩
   rw [HS2.out] at he
   subst he
   have F := hid (ansB (b := ruleOkB sg d) (a := false) (by rw [rule_noR HS2.out]) (next_trans bel bb))
   clear bb bel rA rR cA cR s1 s2
   go_wp2
   go_ret
   exact F.out
  | true =>
   have HS2 := hid ok2
   clear ok2
   rintro e w2 ⟨he, bb⟩
   rw [HS2.out] at he
   subst he
   replace rR := rR.next bb
   replace bel := next_trans bel bb
   have cR0 : w2.cell? ⟨w.heap.size + 1, 0, none⟩ = some (.slice (some ⟨b, off, none⟩) n1 c1) := rR.cell 0
   have cX : w2.cell? ⟨b, off, none⟩ = some (.int .i64 x) := by have := (bel.cell (p := ⟨b, off + 0, none⟩) hbB).trans hx; simpa using this
   clear bb rA cA cR L2
   by_cases hneg : x < 0
   ·have F := hid (ansB (b := ruleOkB sg d) (a := false) (by rw [rule_var (by rw [EX.out]; exact hneg)]) bel)
    have hdx : decide (x < 0) = true := decide_eq_true hneg
    clear bel rR s1 s2
    go_wp2
    go_ret
    exact F.out
   ·have hdx : decide (x < 0) = false := decide_eq_false hneg
    have H0 : Hid (HeadRu w 111 #[.slice (some ⟨b, off, none⟩) n1 c1, .slice A2 n2 c2] n2 d (.int .i64 0) w2) := hid ⟨0, Nat.zero_le _, rfl, fun j hj => absurd hj (Nat.not_lt_zero _), rR, bel⟩
    clear bel rR
    go_wp2_with fail
    go_loopw [5] (fun i wr => HeadRu w 111 #[.slice (some ⟨b, off, none⟩) n1 c1, .slice A2 n2 c2] n2 d i wr) (fun i _ => n2 - (intOf i).toNat)
    case atStart => exact H0.out
    case round =>
     obtain ⟨k, hk, rfl, hlow, rr, hb⟩ := hrel
     have HLOW := hid hlow
     clear hlow H0
     have cR0 : wr.cell? ⟨w.heap.size + 1, 0, none⟩ = some (.slice (some ⟨b, off, none⟩) n1 c1) := rr.cell 0
     have cR1 : wr.cell? ⟨w.heap.size + 1, 1, none⟩ = some (.slice A2 n2 c2) := rr.cell 1
     by_cases hlt : k < n2
     ·obtain ⟨b2, off2, y, rfl, hbB2, hy, ey⟩ := s2.spot hlt
      have hy1 : wr.cell? ⟨b2, off2 + k, none⟩ = some (.int .i64 y) := (hb.cell (p := ⟨b2, off2 + k, none⟩) hbB2).trans hy
      have hmem := mem_of_get (by rw [HL2.out]; exact hlt) ey.out
      have j0 : (0 : Int) ≤ (k : Int) := by omega
      have j1 : (k : Int) < (n2 : Int) := by omega
      have LH := hid (fun d' : Nat => l1Has (some ⟨b, off, none⟩) n1 c1 d.1 y (wr.drewN d') (((s1.next hb).drewN d')) hn1)
      by_cases hyn : y < 0
      ·have hdy : decide (y < 0) = true := decide_eq_true hyn
       by_cases hin : y ∈ d.1
       ·have E := hid (decide_eq_true hin)
        have S := hid (fun d' : Nat => headRu_step (w := w) (wr := wr.drewN d') hlt HLOW.out ey (.inr hin) (rr.drewN d') (below_drewN hb d'))
        clear s1 s2 rr hb hmem hin hy ey
        go_wp2_with fail
        go_quiet ((go_at_call 125; exact Calls.quiet_of_same (v := .bool true) ((LH.out _).mono fun _ _ ⟨h1, h2⟩ => ⟨by rw [h2, E.out], h1.symm⟩)))
        go_wp2
        go_roundw
        case rel => exact S.out _
        case measure => simp [intOf]; omega
       ·have E := hid (decide_eq_false hin)
        have F := hid (fun d' : Nat => ansB (w' := wr.drewN d') (b := ruleOkB sg d) (a := false) (by rw [rule_new hmem hyn hin]) (below_drewN hb d'))
        clear s1 s2 rr hb hmem hin hy ey
        go_wp2_with fail
        go_quiet ((go_at_call 125; exact Calls.quiet_of_same (v := .bool false) ((LH.out _).mono fun _ _ ⟨h1, h2⟩ => ⟨by rw [h2, E.out], h1.symm⟩)))
        go_wp2
        go_ret
        exact F.out _
      ·have S := hid (fun d' : Nat => headRu_step (w := w) (wr := wr.drewN d') hlt HLOW.out ey (.inl hyn) (rr.drewN d') (below_drewN hb d'))
       have hdy : decide (y < 0) = false := decide_eq_false hyn
       clear s1 s2 rr hb hmem hy ey
       go_wp2_with fail
       go_quiet (fail)
       go_wp2
       go_roundw
       case rel => exact S.out _
       case measure => simp [intOf]; omega
     ·have F := hid (ansB (b := ruleOkB sg d) (a := true) (by rw [rule_yes HS.out HS2.out (by rw [EX.out]; omega) HL2.out (fun j hj => HLOW.out j (by omega))]) hb)
      clear s1 s2 rr hb
      go_wp2
      go_ret
      exact F.out
def HeadSy (w : World) (T : TypeId) (cs : Array Value) (n : Nat) (f : Rl → Bool) (rs : List Rl) (i : Value) (wr : World) : Prop :=
 ∃ k : Nat, k ≤ n ∧ i = .int .i64 k ∧ (∀ j, j < k → f (rs.getD j ([], [])) = true) ∧ Row wr w.heap.size T cs ∧ Below w.heap.size w wr
theorem headSy_step {w wr : World} {T : TypeId} {cs : Array Value} {n k : Nat} {f : Rl → Bool} {rs : List Rl} {x : Rl} (hk : k < n) (hlow : ∀ j, j < k → f (rs.getD j ([], [])) = true) (ex : Hid (rs.getD k ([], []) = x)) (h : f x = true) (hr : Row wr w.heap.size T cs) (hb : Below w.heap.size w wr) : HeadSy w T cs n f rs (.int .i64 ((k : Int) + 1)) wr :=
 ⟨k + 1, hk, by simp, fun j hj => by
  by_cases e : j = k
  ·subst e; rw [ex.out]; exact h
  ·exact hlow j (by omega), hr, hb⟩
theorem rd_sys {w : World} {B : Nat} {a v : Value} {d : Dat sSystem} (h : Rd w B sSystem [a, v] d) (hz : sz sSystem d ≤ 1048576) : ∃ A n c A' n' c', a = .slice A n c ∧ v = .slice A' n' c' ∧ Seg w B A n d.1 ∧ Cap A n c ∧ Cap A' n' c' ∧ d.2.length = n' ∧ n ≤ 1048576 ∧ n' ≤ 1048576 ∧ Rd w B sRuleS [.slice A' n' c'] d.2 ∧ Rd w B sI [.slice A n c] d.1 ∧ (∀ j, j < n' → sz sRule (d.2.getD j ([], [])) ≤ 1048576) := by
 obtain ⟨g0, g1⟩ := parts_System h
 obtain ⟨z0, z1⟩ := sys_szs hz
 obtain ⟨A, n, c, e, h1, h2⟩ := rd_ints.1 g0
 obtain ⟨A', c', e', h3⟩ := g1.slice
 subst e e'
 exact ⟨A, n, c, A', d.2.length, c', rfl, rfl, h1, h2, h3, rfl, len_ints h1.1 z0, sz_len z1, g1, g0, fun j hj => sz_each z1 hj⟩
theorem rd_at {w wr : World} {B : Nat} {A : Option Addr} {n c : Nat} {rs : List Rl} {k : Nat} (h : Rd w B sRuleS [.slice A n c] rs) (hb : Below B w wr) (hl : rs.length = n) (hk : k < n) : ∃ b off l r x, A = some ⟨b, off, none⟩ ∧ b < B ∧ Hid (rs.getD k ([], []) = x) ∧ wr.cell? ⟨b, off + k * 2, none⟩ = some l ∧ wr.cell? ⟨b, off + k * 2 + 1, none⟩ = some r ∧ Rd wr B sRule [l, r] x := by
 obtain ⟨b, off, n2, c2, es, ev, -, -, hbB, hel, hp, hr⟩ := h.elem (j := k) (by omega)
 injection ev with e1 e2 e3
 subst e1 e2 e3
 obtain ⟨v0, v1, rfl⟩ := cells_Rule hr
 have hpw := hp.keep (w' := wr) (fun p hp => hb.cell (p := p) (by rw [hp]; exact hbB))
 exact ⟨b, off, v0, v1, _, rfl, hbB, hid rfl, hpw 0 (by simp), hpw 1 (by simp), hr.below hb⟩
set_option maxHeartbeats 4000000 in
theorem specSystemOk (a v : Value) (d : Dat sSystem) (w : World) (h : Rd w w.heap.size sSystem [a, v] d) (hz : sz sSystem d ≤ 1048576) :
  Calls Tryz.prog 93 #[.agg #[a, v]] w (AnsB w (sysOkB d.1 d.2)) := by
 have hzs := hid (sys_szs hz)
 obtain ⟨A, n, c, A', m, c', rfl, rfl, hs, hc, hc', hm, hn, hm1, hrs, hsg, hE⟩ := rd_sys h hz
 obtain ⟨W, hW, rA, bel⟩ := box1 w 45 #[.slice A n c, .slice A' m c']
 have HW := hid hW
 have HM := hid hm
 have HE := hid hE
 have HR := hid hrs
 have L1 := hid (specSigOk A n c d.1 W (hs.next bel) hn)
 have LR := hid (fun (w1 : World) (l r : Value) (x : Dat sRule) (bb : Below w.heap.size w w1) (hx : Rd w1 w1.heap.size sRule [l, r] x) (hzx : sz sRule x ≤ 1048576) => specRuleOk (.slice A n c) l r d.1 x w1 (hsg.next bb) hx hzs.out.1 hzx)
 clear hW h hz hs hc hc' hm hE hrs hsg
 cases ok1 : sigOkB d.1 with
 | false =>
  have HS := hid ok1
  clear ok1
  go_enter Tryz.func93, Tryz.ntmps93
  go_wp2_with fail
  rw [← HW.out]
  refine L1.out.mono ?_
  rintro e w1 ⟨he, bb⟩
  rw [HS.out] at he
  subst he
  have F := hid (ansB (b := sysOkB d.1 d.2) (a := false) (by rw [sys_sig HS.out]) (next_trans bel bb))
  clear bb bel rA
  go_wp2
  go_ret
  exact F.out
 | true =>
  have HS := hid ok1
  clear ok1
  go_enter Tryz.func93, Tryz.ntmps93
  go_wp2_with fail
  rw [← HW.out]
  refine L1.out.mono ?_
  rintro e w1 ⟨he, bb⟩
  rw [HS.out] at he
  subst he
  replace rA := rA.next bb
  replace bel := next_trans bel bb
  have cR : w1.cell? ⟨w.heap.size, 1, none⟩ = some (.slice A' m c') := rA.cell 1
  clear bb L1
  by_cases h12 : m ≤ 12
  ·have H0 : Hid (HeadSy w 45 #[.slice A n c, .slice A' m c'] m (ruleOkB d.1) d.2 (.int .i64 0) w1) := hid ⟨0, Nat.zero_le _, rfl, fun j hj => absurd hj (Nat.not_lt_zero _), rA, bel⟩
   clear rA bel
   go_wp2_with fail
   go_loopw [3] (fun i wr => HeadSy w 45 #[.slice A n c, .slice A' m c'] m (ruleOkB d.1) d.2 i wr) (fun i _ => m - (intOf i).toNat)
   case atStart => exact H0.out
   case round =>
    obtain ⟨k, hk, rfl, hlow, rr, hb⟩ := hrel
    have HLOW := hid hlow
    clear hlow H0 cR
    by_cases hlt : k < m
    ·obtain ⟨b, off, l, r, x, rfl, hbB, ex, hc0, hc1, hx⟩ := rd_at HR.out hb HM.out hlt
     have cA : wr.cell? ⟨w.heap.size, 0, none⟩ = some (.slice A n c) := rr.cell 0
     have cR : wr.cell? ⟨w.heap.size, 1, none⟩ = some (.slice (some ⟨b, off, none⟩) m c') := rr.cell 1
     have hzx : sz sRule x ≤ 1048576 := by have := HE.out k hlt; rw [ex.out] at this; exact this
     have L := hid (LR.out wr.drew l r x hb.drew ((hx.more hb.size).keep (fun _ _ => rfl)) hzx)
     have i0 : (0 : Int) ≤ (k : Int) := by omega
     have i1 : (k : Int) < (m : Int) := by omega
     have hbr : b < wr.drew.heap.size := Nat.lt_of_lt_of_le hbB hb.size
     have rd := rr.drew
     have hbd := hb.drew
     clear hx rr hb hzx
     cases ok : ruleOkB d.1 x with
     | false =>
      have HO := hid ok
      clear ok
      have BAD := hid (show sysOkB d.1 d.2 = false from sys_bad (k := k) (by rw [HM.out]; exact hlt) (by rw [ex.out]; exact HO.out))
      have bA := rd.lt
      go_wp2_with fail
      go_region_held3 (fun w' => w'.cell? ⟨w.heap.size, 0, none⟩ = some (.slice A n c) ∧ w'.cell? ⟨w.heap.size, 1, none⟩ = some (.slice (some ⟨b, off, none⟩) m c') ∧ w'.cell? ⟨b, off + k * 2, none⟩ = some l ∧ w'.cell? ⟨b, off + k * 2 + 1, none⟩ = some r)
       (go_keep)
       (first
        | (go_at_call 110; refine L.out.mono ?_; rintro e w2 ⟨he, bb⟩; rw [HO.out] at he; subst he; have c1 : w2.cell? ⟨w.heap.size, 0, none⟩ = some (.slice A n c) := (rd.next bb).cell 0; have c2 : w2.cell? ⟨w.heap.size, 1, none⟩ = some (.slice (some ⟨b, off, none⟩) m c') := (rd.next bb).cell 1; have c3 := (bb.cell (p := ⟨b, off + k * 2, none⟩) hbr).trans hc0; have c4 := (bb.cell (p := ⟨b, off + k * 2 + 1, none⟩) hbr).trans hc1))
      have F := hid (ansB (b := sysOkB d.1 d.2) (a := false) BAD.out.symm (next_trans hbd bb))
      clear bb rd hbd L c1 c2 c3 c4 cA cR hc0 hc1
      go_wp2
      go_ret
      exact F.out
     | true =>
      have HO := hid ok
      clear ok
      have bA := rd.lt
      go_wp2_with fail
      go_region_held3 (fun w' => w'.cell? ⟨w.heap.size, 0, none⟩ = some (.slice A n c) ∧ w'.cell? ⟨w.heap.size, 1, none⟩ = some (.slice (some ⟨b, off, none⟩) m c') ∧ w'.cell? ⟨b, off + k * 2, none⟩ = some l ∧ w'.cell? ⟨b, off + k * 2 + 1, none⟩ = some r)
       (go_keep)
       (first
        | (go_at_call 110; refine L.out.mono ?_; rintro e w2 ⟨he, bb⟩; rw [HO.out] at he; subst he; have c1 : w2.cell? ⟨w.heap.size, 0, none⟩ = some (.slice A n c) := (rd.next bb).cell 0; have c2 : w2.cell? ⟨w.heap.size, 1, none⟩ = some (.slice (some ⟨b, off, none⟩) m c') := (rd.next bb).cell 1; have c3 := (bb.cell (p := ⟨b, off + k * 2, none⟩) hbr).trans hc0; have c4 := (bb.cell (p := ⟨b, off + k * 2 + 1, none⟩) hbr).trans hc1))
      have F := hid (headSy_step (f := ruleOkB d.1) (w := w) hlt HLOW.out ex HO.out (rd.next bb) (next_trans hbd bb))
      clear bb rd hbd L c1 c2 c3 c4 cA cR hc0 hc1
      go_wp2
      go_roundw
      case rel => exact F.out
      case measure => simp [intOf]; omega
    ·have cR : wr.cell? ⟨w.heap.size, 1, none⟩ = some (.slice A' m c') := rr.cell 1
     have F := hid (ansB (b := sysOkB d.1 d.2) (a := true) (by rw [sys_good HS.out (by rw [HM.out]; exact h12) (fun j hj => HLOW.out j (by rw [HM.out] at hj; omega))]) hb)
     clear rr hb
     go_wp2
     go_ret
     exact F.out
  ·have i1 : (12 : Int) < (m : Int) := by omega
   have F := hid (ansB (b := sysOkB d.1 d.2) (a := false) (by rw [sys_long HM.out h12]) bel)
   clear bel rA
   go_wp2
   go_ret
   exact F.out
end ruleSpec
end
section
namespace inside
open Go.RowKit base ints sig term arity endOf cursor termOk endAt
set_option maxRecDepth 100000
def Tells (w : World) (b : Bool) (e : Ending) (w' : World) : Prop := e = .returned (.bool b) ∧ Below w.heap.size w w'
structure Fr (w wr : World) (A : Option Addr) (n c : Nat) (sg : List Int) (A' : Option Addr) (m : Nat) (t : List Int) : Prop where
 r : Row wr w.heap.size 42 #[.slice A n c]
 s : Seg wr w.heap.size A n sg
 s' : Seg wr w.heap.size A' m t
 b : Below w.heap.size w wr
section
variable {w wr w' : World} {A : Option Addr} {n c : Nat} {sg : List Int} {A' : Option Addr} {m : Nat} {t : List Int}
theorem Fr.start (h : Seg w w.heap.size A n sg) (h' : Seg w w.heap.size A' m t) : Fr w (w.alloc (.cells #[.slice A n c] 42)) A n c sg A' m t :=
 have b : Below w.heap.size w (w.alloc (.cells #[.slice A n c] 42)) := (Below.refl _ _).alloc (Nat.le_refl _) _
 ⟨Row.new _ _ _, h.below b, h'.below b, b⟩
theorem Fr.next (f : Fr w wr A n c sg A' m t) (hb : Below wr.heap.size wr w') : Fr w w' A n c sg A' m t :=
 have b : Below w.heap.size wr w' := hb.mono (Nat.le_of_lt f.r.lt)
 ⟨f.r.next hb, f.s.below b, f.s'.below b, f.b.trans b⟩
theorem Fr.over (f : Fr w wr A n c sg A' m t) (hb : Below (w.heap.size + 1) wr w') : Fr w w' A n c sg A' m t :=
 have b : Below w.heap.size wr w' := hb.mono (Nat.le_succ _)
 ⟨f.r.below hb (Nat.lt_succ_self _), f.s.below b, f.s'.below b, f.b.trans b⟩
theorem Fr.alloc (f : Fr w wr A n c sg A' m t) (o : Obj) : Fr w (wr.alloc o) A n c sg A' m t := f.next ((Below.refl _ _).alloc (Nat.le_refl _) _)
theorem Fr.cell (f : Fr w wr A n c sg A' m t) : wr.cell? ⟨w.heap.size, 0, none⟩ = some (.slice A n c) := f.r.cell 0
theorem Fr.s1 (f : Fr w wr A n c sg A' m t) : Seg wr wr.heap.size A n sg := f.s.more (Nat.le_of_lt f.r.lt)
theorem Fr.t1 (f : Fr w wr A n c sg A' m t) : Seg wr wr.heap.size A' m t := f.s'.more (Nat.le_of_lt f.r.lt)
theorem Fr.size (f : Fr w wr A n c sg A' m t) : w.heap.size < wr.heap.size := f.r.lt
end
set_option maxHeartbeats 1000000 in
theorem placeIn (A A' : Option Addr) (n c m c' : Nat) (sg t : List Int) (x : Int) (w : World) (h : Seg w w.heap.size A n sg) (h' : Seg w w.heap.size A' m t) (hn : n ≤ 1048576) (hm : m ≤ 1048576) :
  Calls Tryz.prog 121 #[.agg #[.slice A n c], .slice A' m c', .int .i64 x] w (Tells w (thereB sg t x)) := by
 obtain ⟨W, hW⟩ : ∃ W, W = w.alloc (.cells #[.slice A n c] 42) := ⟨_, rfl⟩
 have f : Fr w W A n c sg A' m t := by rw [hW]; exact Fr.start h h'
 have HW := Lib.hid hW
 have L := Lib.hid (cursorAt A A' n c m c' sg t x W f.s1 f.t1 hn hm)
 clear hW h h'
 go_enter Tryz.func121, Tryz.ntmps121
 go_wp2_with fail
 rw [← HW.out]
 refine L.out.mono ?_
 rintro e w1 ⟨bb, ⟨ht, p, rfl, hp, hc⟩ | ⟨ht, rfl⟩⟩
 ·have F := Lib.hid (show Tells w (thereB sg t x) (.returned (.bool true)) w1 from ⟨by rw [ht], (f.next bb).b⟩)
  clear f L bb hc hp
  go_wp2
  go_ret
  exact F.out
 ·have F := Lib.hid (show Tells w (thereB sg t x) (.returned (.bool false)) w1 from ⟨by rw [ht], (f.next bb).b⟩)
  clear f L bb
  go_wp2
  go_ret
  exact F.out
end inside
end
section
namespace plainMath
open fillMath
def strip : List (List Int) → List (List Int)
 | [] => []
 | x :: r => if strip r = [] then (if x = [] then [] else [x]) else x :: strip r
theorem strip_snoc : ∀ (l : List (List Int)) (x : List Int), strip (l ++ [x]) = if x = [] then strip l else l ++ [x]
 | [], x => by
  show strip [x] = _
  by_cases h : x = [] <;> simp [strip, h]
 | y :: r, x => by
  rw [List.cons_append, strip, strip_snoc r x]
  by_cases h : x = []
  ·simp [h, strip]
  ·simp [h]
theorem strip_len : ∀ l : List (List Int), (strip l).length ≤ l.length
 | [] => by simp [strip]
 | x :: r => by
  have h := strip_len r
  rw [strip]
  split
  ·split <;> simp
  ·simp; omega
theorem strip_pad : ∀ l : List (List Int), strip l ++ List.replicate (l.length - (strip l).length) [] = l
 | [] => by simp [strip]
 | x :: r => by
  have h := strip_pad r
  rw [strip]
  by_cases h1 : strip r = []
  ·rw [h1] at h
   rw [if_pos h1]
   have h2 : List.replicate r.length ([] : List Int) = r := by simpa using h
   by_cases h3 : x = []
   ·rw [if_pos h3]
    subst h3
    simp only [List.length_cons, List.length_nil, Nat.sub_zero, List.nil_append]
    rw [List.replicate_succ, h2]
   ·rw [if_neg h3]
    simp only [List.length_cons, List.length_nil]
    rw [show r.length + 1 - (0 + 1) = r.length by omega, h2]
    rfl
  ·rw [if_neg h1]
   simp only [List.length_cons, List.cons_append]
   rw [show r.length + 1 - ((strip r).length + 1) = r.length - (strip r).length by omega, h]
theorem strip_last {l : List (List Int)} {q : Nat} (hq : q < l.length) (h : l.getD q [] ≠ []) : strip (l.take (q + 1)) = l.take (q + 1) := by
 have e : l.take (q + 1) = l.take q ++ [l.getD q []] := by
  rw [List.take_succ_eq_append_getElem hq]
  simp [List.getD, hq]
 rw [e, strip_snoc, if_neg h]
theorem strip_drop {l : List (List Int)} {q : Nat} (hq : q < l.length) (h : l.getD q [] = []) : strip (l.take (q + 1)) = strip (l.take q) := by
 have e : l.take (q + 1) = l.take q ++ [l.getD q []] := by
  rw [List.take_succ_eq_append_getElem hq]
  simp [List.getD, hq]
 rw [e, strip_snoc, if_pos h]
def bare (L : Nat → List Int) (i : Nat) : List Int := if L i = vt i then [] else L i
def rowsL (L : Nat → List Int) (m : Nat) : List (List Int) := (List.range m).map (bare L)
def plainL (L : Nat → List Int) (m : Nat) : List (List Int) := strip (rowsL L m)
theorem rows_len (L : Nat → List Int) (m : Nat) : (rowsL L m).length = m := by simp [rowsL]
theorem rows_get {L : Nat → List Int} {m i : Nat} (h : i < m) : (rowsL L m).getD i [] = bare L i := by simp [rowsL, List.getD, h]
theorem rows_succ (L : Nat → List Int) (m : Nat) : rowsL L (m + 1) = rowsL L m ++ [bare L m] := by simp [rowsL, List.range_succ]
theorem plain_len (L : Nat → List Int) (m : Nat) : (plainL L m).length ≤ m := by have := strip_len (rowsL L m); rw [rows_len] at this; exact this
theorem plain_pad (L : Nat → List Int) (m : Nat) : plainL L m ++ List.replicate (m - (plainL L m).length) [] = rowsL L m := by
 have := strip_pad (rowsL L m)
 rw [rows_len] at this
 exact this
theorem plain_get (L : Nat → List Int) (m i : Nat) : (plainL L m).getD i [] = (rowsL L m).getD i [] := by
 have h := plain_pad L m
 rw [← h]
 by_cases hi : i < (plainL L m).length
 ·simp [List.getD, List.getElem?_append_left hi]
 ·have e1 : (plainL L m)[i]? = none := List.getElem?_eq_none (by omega)
  simp only [List.getD, e1, Option.getD_none]
  rw [List.getElem?_append_right (by omega)]
  by_cases h2 : i - (plainL L m).length < m - (plainL L m).length
  ·simp [List.getElem?_replicate, h2]
  ·simp [List.getElem?_replicate, h2]
theorem rows_each {L : Nat → List Int} {m M : Nat} (hM : ∀ i, (L i).length ≤ M) (i : Nat) : ((rowsL L m).getD i []).length ≤ M := by
 by_cases h : i < m
 ·rw [rows_get h]
  unfold bare
  split
  ·simp
  ·exact hM i
 ·rw [show (rowsL L m).getD i [] = [] by simp [List.getD, rows_len, h]]
  simp
theorem plain_each {L : Nat → List Int} {m M : Nat} (hM : ∀ i, (L i).length ≤ M) (i : Nat) : ((plainL L m).getD i []).length ≤ M := by rw [plain_get]; exact rows_each hM i
end plainMath
end
section
namespace plain
open Go.RowKit base ints cursor same marks app appAt sym sub segs segsHelp kinds fillMath Go.Proofs.YtblhmplpcdcejaaGreat.look plainMath
set_option maxRecDepth 100000
theorem inn_own {w : World} {lo : Nat} {A : Option Addr} {n c : Nat} {xs : List Int} (h : Own w lo (.slice A n c) xs) : Inn w lo w.heap.size (.slice A n c) xs := by
 have hl := Own.len h
 subst hl
 exact ⟨A, c, rfl, h, fun k hk => (World.ownsRow.lt h k (by rw [blk_own]; exact hk)).2⟩
set_option maxHeartbeats 1000000 in
theorem appS1 {w : World} {ops : Array Oper} {rest : List Oper} {o : Oper} {a : Act} {Q : Exit → Act → World → Prop} (hgd : o.guard = none) (s x : Operand)
  (ho : o.op = .call { callee := .builtin .append, args := #[s, x], argTypes := #[31, 31] })
  (lo mid : Nat) (A : Option Addr) (n c : Nat) (xss : List (List Int)) (hs : a.eval s = .slice A n c) (hown : Owns w lo mid A n c xss)
  (g c2 : Nat) (v : Value) (ys : List Int) (hx : a.eval x = .slice (some ⟨g, 0, none⟩) 1 c2) (hy : w.cell? ⟨g, 0, none⟩ = some v) (hv : Inn w mid w.heap.size v ys) (hn : n ≤ 1048576) (hlo : lo ≤ mid) (hmid : mid ≤ w.heap.size)
  (h : ∀ A' c' w', Owns w' lo w'.heap.size A' (n + 1) c' (xss ++ [ys]) → w.grownBy w' (blk A) → (blk A' = blk A ∨ blk A' = some w.heap.size) → Below lo w w' → wpList Tryz.prog ops Q rest (a.put o.dst (.slice A' (n + 1) c')) w') : wpList Tryz.prog ops Q (o :: rest) a w := by
 obtain ⟨i0, hi, hz0, hz1, hz2⟩ := info_parts info_list
 obtain ⟨hlen, ⟨vs, hr, hin, hap⟩, htop⟩ := hown
 have hvl : vs.length = n := by have := hr.1; omega
 have hvc : v.oneCell' = true := by obtain ⟨A1, c1, rfl, _⟩ := hv; rfl
 refine wpList_append_own_at w hgd s x 31 ho lo 22 i0 (.slice none 0 0) 1 24 Tryz.underlying31 hi hz0 hz1 hz2 rfl (by decide) (.slice A n c) n vs hs hr
  ⟨g, 0, none⟩ 1 c2 [v] hx rfl (fun j u hj => ?_) (fun u hu => ?_) (by unfold maxLen; omega) (by omega) (by omega) ?_
 ·match j, hj with
  | 0, hj => simp at hj; subst hj; simpa [Addr.add] using hy
 ·simp at hu; subst hu; exact hvc
 ·intro v' w' hown' hg _ hat
  have hform : ∃ A' c', v' = .slice A' (n + 1) c' := by
   rcases hown'.2 with ⟨_, h0⟩ | ⟨g', cap, cur, e, _⟩
   ·omega
   ·exact ⟨_, _, e⟩
  obtain ⟨A', c', rfl⟩ := hform
  rw [blk_own] at hg
  rw [blk_own, blk_own] at hat
  have hsz := hg.size
  have hne : ∀ {u : Value} {zs : List Int} {l2 h2 : Nat}, Inn w l2 h2 u zs → u.ownBlock = none ∨ u.ownBlock ≠ blk A := fun {u zs l2 h2} hu => by
   rcases own_form hr with ⟨rfl, _⟩ | ⟨g', cur, rfl, _, hrow, _⟩
   ·cases e : u.ownBlock with
    | none => exact .inl rfl
    | some z => exact .inr (fun e2 => by cases e2)
   ·exact .inr (hu.ne hrow)
  have hget : ∀ j, j < n → (vs ++ [v]).getD j undef = vs.getD j undef := fun j hj => by simp [List.getD, List.getElem?_append_left (show j < vs.length by omega)]
  have hget2 : ∀ j, j < n → (xss ++ [ys]).getD j [] = xss.getD j [] := fun j hj => by simp [List.getD, List.getElem?_append_left (show j < xss.length by omega)]
  have hnew : (vs ++ [v]).getD n undef = v := by simp [List.getD, ← hvl]
  have hnew2 : (xss ++ [ys]).getD n [] = ys := by simp [List.getD, ← hlen]
  refine h A' c' w' ⟨by simp [hlen], ⟨vs ++ [v], hown', fun j hj => ?_, fun i j k hij hj e1 e2 => ?_⟩, fun k hk => (World.ownsRow.lt hown' k (by rw [blk_own]; exact hk)).2⟩ hg hat ?_
  ·by_cases e : j = n
   ·subst e
    rw [hnew, hnew2]
    exact (hv.kept hg (hne hv)).wider (by omega) (by omega)
   ·rw [hget j (by omega), hget2 j (by omega)]
    exact ((hin j (by omega)).kept hg (hne (hin j (by omega)))).wider (Nat.le_refl _) (by omega)
  ·by_cases e : j = n
   ·subst e
    rw [hget i hij] at e1
    rw [hnew] at e2
    have h1 := ((hin i hij).blk k e1).2.1
    have h2 := (hv.blk k e2).1
    omega
   ·rw [hget i (by omega)] at e1
    rw [hget j (by omega)] at e2
    exact hap i j k hij (by omega) e1 e2
  ·refine (Below.refl lo w).grown hg (by omega) (fun k hk => ?_)
   exact (World.ownsRow.lt hr k (by rw [blk_own]; exact hk)).1
def AnsSubst (w : World) (xss : List (List Int)) (e : Ending) (w' : World) : Prop := ∃ A n c, e = .returned (.agg #[.slice A n c]) ∧ Owns w' w.heap.size w'.heap.size A n c xss ∧ Below w.heap.size w w'
end plain
end
section
open Go.Lib (hid)
namespace plainOf
open Go.RowKit base ints sig cursor marks app appAt sym sub segs segsHelp kinds varsOf fillMath Go.Proofs.YtblhmplpcdcejaaGreat.look substOk gives plainMath plain
set_option maxRecDepth 100000
theorem own_one {w : World} {base : Nat} {D : Option Addr} {c : Nat} {x : Int} (h : Own w base (.slice D 1 c) [x]) : ∃ g, D = some ⟨g, 0, none⟩ ∧ w.cell? ⟨g, 0, none⟩ = some (.int .i64 x) := by
 rcases own_form (n := 1) (vs := [x].map (Value.int .i64)) h with ⟨_, h1, _⟩ | ⟨g, cur, e, _, hr, _, _, _, _, hc⟩
 ·omega
 ·refine ⟨g, e, ?_⟩
  rw [hr.cell 0, hc 0 (by omega)]
  rfl
theorem Owns.shrink {w : World} {lo hi m n c : Nat} {A : Option Addr} {xss : List (List Int)} (h : Owns w lo hi A m c xss) (hn : n ≤ m) : Owns w lo hi A n c (xss.take n) := by
 obtain ⟨h1, ⟨vs, hr, hin, hap⟩, h3⟩ := h
 rcases own_form hr with ⟨rfl, h0, rfl, rfl⟩ | ⟨g, cur, rfl, hlo, hrow, hmc, hsz, hmax, hlen, hc⟩
 ·obtain rfl : n = 0 := by omega
  simpa using Owns.nil w lo hi
 ·have e1 : ∀ j, j < n → (cur.toList.take n).getD j undef = vs.getD j undef := fun j hj => by
   have := hc j (by omega)
   simp [List.getD, List.getElem?_take, hj, this]
  have e2 : ∀ j, j < n → (xss.take n).getD j [] = xss.getD j [] := fun j hj => by simp [List.getD, List.getElem?_take, hj]
  refine ⟨by rw [List.length_take, h1]; omega, ⟨_, rowsOf hrow hsz (by omega) hmax hlo, fun j hj => ?_, fun i j k hij hj a b => ?_⟩, h3⟩
  ·rw [e1 j hj, e2 j hj]
   exact hin j (by omega)
  ·rw [e1 i (by omega)] at a
   rw [e1 j hj] at b
   exact hap i j k hij (by omega) a b
def HeadL1 (w : World) (S : Option Addr) (m c : Nat) (ss : List (List Int)) (i : Value) (wr : World) : Prop :=
 ∃ (k : Nat) (A : Option Addr) (cA : Nat), k ≤ m ∧ i = .int .i64 k ∧ Owns wr (w.heap.size + 3) wr.heap.size A k cA (rowsL (givesL ss) k) ∧ Row wr w.heap.size 48 #[.slice S m c] ∧ Row wr (w.heap.size + 1) 48 #[.slice none 0 0] ∧
  Row wr (w.heap.size + 2) 48 #[.slice A k cA] ∧ Below w.heap.size w wr
theorem headL1_step {w wr w1 w5 w6 : World} {S A A' : Option Addr} {m c k cA c' : Nat} {ss : List (List Int)} (hk : k < m) (ho : Owns w6 (w.heap.size + 3) w6.heap.size A' (k + 1) c' (rowsL (givesL ss) (k + 1)))
  (r0 : Row wr w.heap.size 48 #[.slice S m c]) (r1 : Row wr (w.heap.size + 1) 48 #[.slice none 0 0]) (r2 : Row wr (w.heap.size + 2) 48 #[.slice A k cA]) (hb : Below w.heap.size w wr)
  (b1 : Below wr.heap.size wr w1) (b5 : Below w1.heap.size w1 w5) (hg : w5.grownBy w6 (blk A)) (hA : ∀ z, blk A = some z → w.heap.size + 3 ≤ z) :
  HeadL1 w S m c ss (.int .i64 ((k : Int) + 1)) (w6.setCell ⟨w.heap.size + 2, 0, none⟩ (.slice A' (k + 1) c')) := by
 have bb := next_trans b1 b5
 have q0 := Row.away (r0.next bb) hg (fun e => by have := hA _ e; omega)
 have q1 := Row.away (r1.next bb) hg (fun e => by have := hA _ e; omega)
 have q2 := Row.away (r2.next bb) hg (fun e => by have := hA _ e; omega)
 have hbb : Below w.heap.size w w6 := (hb.trans (bb.mono hb.size)).grown hg (by have := hb.size; have := bb.size; omega) (fun z hz => by have := hA z hz; omega)
 refine ⟨k + 1, A', c', hk, by simp, ?_, q0.far (by simp) _, q1.far (by simp) _, ?_, hbb.setCell (by simp) _⟩
 ·have := owns_put ho q2 (by omega) 0 (.slice A' (k + 1) c')
  simpa using this
 ·have := q2.put 0 (.slice A' (k + 1) c')
  simpa using this
def HeadL2 (w : World) (L : Nat → List Int) (m : Nat) (A : Option Addr) (cA : Nat) (p : Value) (wr : World) : Prop :=
 ∃ n : Nat, n ≤ m ∧ p = .pointer (some ⟨w.heap.size + 2, 0, none⟩) ∧ strip ((rowsL L m).take n) = plainL L m ∧ Owns wr (w.heap.size + 3) wr.heap.size A m cA (rowsL L m) ∧ Row wr (w.heap.size + 1) 48 #[.slice none 0 0] ∧
  Row wr (w.heap.size + 2) 48 #[.slice A n cA] ∧ Below w.heap.size w wr
def lenAt (w : World) (p : Addr) : Nat := match w.cell? p with
 | some (.slice _ n _) => n
 | _ => 0
theorem headL2_end {w wr : World} {L : Nat → List Int} {m n cA : Nat} {A : Option Addr} (hn : n ≤ m) (hs : strip ((rowsL L m).take n) = plainL L m) (ho : Owns wr (w.heap.size + 3) wr.heap.size A m cA (rowsL L m))
  (r1 : Row wr (w.heap.size + 1) 48 #[.slice none 0 0]) (hb : Below w.heap.size w wr) (hend : n = 0 ∨ (rowsL L m).getD (n - 1) [] ≠ []) :
  AnsSubst w (plainL L m) (.returned (.agg #[.slice A n cA])) (wr.setCell ⟨w.heap.size + 1, 0, none⟩ (.slice A n cA)) := by
 have e : (rowsL L m).take n = plainL L m := by
  rw [← hs]
  rcases hend with rfl | h
  ·simp [strip]
  ·by_cases h0 : n = 0
   ·subst h0; simp [strip]
   ·have := strip_last (l := rowsL L m) (q := n - 1) (by rw [rows_len]; omega) h
    rw [show n - 1 + 1 = n by omega] at this
    exact this.symm
 have h1 := Owns.shrink (owns_put ho r1 (by omega) 0 (.slice A n cA)) hn
 rw [e] at h1
 exact ⟨A, n, cA, rfl, h1.wider (by omega) (by simp), hb.setCell (by simp) _⟩
set_option maxHeartbeats 8000000 in
theorem l2Plain (S : Option Addr) (m c : Nat) (ss : List (List Int)) (w : World) (h : Segs w w.heap.size S m ss) (ht : tot ss ≤ 1048576) :
  Calls Tryz.prog 102 #[.agg #[.slice S m c]] w (AnsSubst w (plainL (givesL ss) m)) := by
 have HT := hid ht
 have hm : m ≤ 1048576 := tot_len h.1 ht
 have HE := hid (tot_each ht)
 clear ht
 go_enter Tryz.func102, Tryz.ntmps102
 go_wp2_with fail
 go_loopw [4] (fun i wr => HeadL1 w S m c ss i wr) (fun i _ => m - (intOf i).toNat)
 case atStart =>
  have b0 : Below w.heap.size w (((w.alloc (.cells #[.slice S m c] 48)).alloc (.cells #[.slice none 0 0] 48)).alloc (.cells #[.slice none 0 0] 48)) := (((Below.refl _ _).alloc (Nat.le_refl _) _).alloc (by simp) _).alloc (by simp; omega) _
  have q1 := Row.new (w.alloc (.cells #[.slice S m c] 48)) 48 #[.slice none 0 0]
  have q2 := Row.new ((w.alloc (.cells #[.slice S m c] 48)).alloc (.cells #[.slice none 0 0] 48)) 48 #[.slice none 0 0]
  refine ⟨0, none, 0, Nat.zero_le _, rfl, by simpa [rowsL] using Owns.nil _ _ _, ((Row.new w 48 #[.slice S m c]).alloc _).alloc _, ?_, ?_, b0⟩
  ·have := q1.alloc (.cells #[.slice none 0 0] 48); simpa using this
  ·simpa using q2
 case round =>
  obtain ⟨k, A, cA, hk, rfl, ho, r0, r1, r2, hb⟩ := hrel
  have c0 : wr.cell? ⟨w.heap.size, 0, none⟩ = some (.slice S m c) := r0.cell 0
  have cO : wr.cell? ⟨w.heap.size + 2, 0, none⟩ = some (.slice A k cA) := r2.cell 0
  have i0 : (0 : Int) ≤ (k : Int) := by omega
  by_cases hlt : k < m
  ·have i1 : (k : Int) < (m : Int) := by omega
   have LG := hid (l2Gives S m c ss k wr ((h.below hb).more hb.size) HT.out (by omega))
   have HA : Hid (∀ z, blk A = some z → w.heap.size + 3 ≤ z) := hid (fun z hz => by
    obtain ⟨vs, hown, _⟩ := ho.row
    exact (World.ownsRow.lt hown z (by rw [blk_own]; exact hz)).1)
   have hw1 : IntKind.i64.wrap (-1 - (k : Int)) = -1 - (k : Int) := by rw [IntKind.wrap_i64]; omega
   have hrl := r2.lt
   obtain ⟨ys, hys⟩ : ∃ ys, givesL ss k = ys := ⟨_, rfl⟩
   rw [hys] at LG
   have hlen : ys.length ≤ 1048576 := by
    rw [← hys]
    unfold givesL
    split
    ·simp [vt]
    ·exact HE.out k
   have RS := hid (rows_succ (givesL ss) k)
   by_cases h1 : ys.length = 1
   ·obtain ⟨x, rfl⟩ : ∃ x, ys = [x] := by
     match ys, h1 with
     | [x], _ => exact ⟨x, rfl⟩
    by_cases hx : x = -1 - (k : Int)
    ·have RB := hid (show bare (givesL ss) k = [] by unfold bare; rw [if_pos (by rw [hys, hx]; rfl)])
     have DX : (x == -1 - (k : Int)) = true := by simp [hx]
     clear hx hys
     go_wp2_with (first
      | (go_at_call 70; go_must (refine LG.out.mono ?_; rintro e w1 ⟨D, dn, dc, rfl, od, bb⟩; obtain rfl : dn = 1 := Own.len od; obtain ⟨gD, rfl, cD⟩ := own_one od; have cO1 : w1.cell? ⟨w.heap.size + 2, 0, none⟩ = some (.slice A k cA) := (r2.next bb).cell 0; have e5 : ((w1.alloc (.cells #[] 2)).alloc (.cells #[.slice (some ⟨w1.heap.size, 0, none⟩) 0 0] 22)).cell? ⟨w1.heap.size + 1, 0, none⟩ = some (.slice (some ⟨w1.heap.size, 0, none⟩) 0 0) := (by simp); have c15 : (w1.alloc (.cells #[] 2)).cell? ⟨w.heap.size + 2, 0, none⟩ = some (.slice A k cA) := ((r2.next bb).alloc (.cells #[] 2)).cell 0; have B5 : Below w1.heap.size w1 ((w1.alloc (.cells #[] 2)).alloc (.cells #[.slice (some ⟨w1.heap.size, 0, none⟩) 0 0] 22)) := ((Below.refl _ _).alloc (Nat.le_refl _) _).alloc (by simp) _; have hz5 := B5.size; have hz1 := bb.size; have ho5 := (ho.next bb).next B5; have i5 : Inn ((w1.alloc (.cells #[] 2)).alloc (.cells #[.slice (some ⟨w1.heap.size, 0, none⟩) 0 0] 22)) wr.heap.size ((w1.alloc (.cells #[] 2)).alloc (.cells #[.slice (some ⟨w1.heap.size, 0, none⟩) 0 0] 22)).heap.size (.slice (some ⟨w1.heap.size, 0, none⟩) 0 0) [] := Inn.wider ((inn_own (own_empty w1 wr.heap.size bb.size)).next ((Below.refl _ _).alloc (Nat.le_refl _) _)) (Nat.le_refl _) (by simp); have r25 := (r2.next bb).next B5; have c25 : ((w1.alloc (.cells #[] 2)).alloc (.cells #[.slice (some ⟨w1.heap.size, 0, none⟩) 0 0] 22)).cell? ⟨w.heap.size + 2, 0, none⟩ = some (.slice A k cA) := r25.cell 0))
      | (at_builtin; go_must (refine appS1 rfl _ _ rfl (w.heap.size + 3) wr.heap.size A k cA (rowsL (givesL ss) k) rfl ho5 _ 1 (.slice (some ⟨w1.heap.size, 0, none⟩) 0 0) [] rfl e5 i5 (by omega) (by omega) (by omega) ?_; intro A' c' w6 ho6 hg6 hat6 b6; have q2 := Row.away r25 hg6 (fun e => by have := HA.out _ e; omega); have c26 : w6.cell? ⟨w.heap.size + 2, 0, none⟩ = some (.slice A k cA) := q2.cell 0; have f26 : w6.frozen? ⟨w.heap.size + 2, 0, none⟩ = false := q2.free 0)))
     have S := hid (headL1_step (ss := ss) hlt (by rw [RS.out, RB.out]; exact ho6) r0 r1 r2 hb bb B5 hg6 HA.out)
     clear ho6 hg6 hat6 b6 ho5 i5 r25 c25 c15 q2 od bb B5 r0 r1 r2 hb ho RS RB LG cO1
     go_wp2
     go_roundw
     case rel => exact S.out
     case measure => simp [intOf]; omega
    ·have RB := hid (show bare (givesL ss) k = [x] by unfold bare; rw [if_neg (by rw [hys]; unfold vt; intro e; injection e with e; exact hx e), hys])
     have DX : (x == -1 - (k : Int)) = false := by simp [hx]
     clear hx hys
     go_wp2_with (first
      | (go_at_call 70; refine LG.out.mono ?_; rintro e w1 ⟨D, dn, dc, rfl, od, bb⟩; obtain rfl : dn = 1 := Own.len od; obtain ⟨gD, rfl, cD⟩ := own_one od; have cO1 : w1.cell? ⟨w.heap.size + 2, 0, none⟩ = some (.slice A k cA) := (r2.next bb).cell 0; have B5 : Below w1.heap.size w1 (w1.alloc (.cells #[.slice (some ⟨gD, 0, none⟩) 1 dc] 22)) := (Below.refl _ _).alloc (Nat.le_refl _) _; have hz5 := B5.size; have hz1 := bb.size; have ho5 := (ho.next bb).next B5; have i5 : Inn (w1.alloc (.cells #[.slice (some ⟨gD, 0, none⟩) 1 dc] 22)) wr.heap.size (w1.alloc (.cells #[.slice (some ⟨gD, 0, none⟩) 1 dc] 22)).heap.size (.slice (some ⟨gD, 0, none⟩) 1 dc) [x] := Inn.wider ((inn_own od).next ((Below.refl _ _).alloc (Nat.le_refl _) _)) (Nat.le_refl _) (by simp); have r25 := (r2.next bb).next B5; have c25 : (w1.alloc (.cells #[.slice (some ⟨gD, 0, none⟩) 1 dc] 22)).cell? ⟨w.heap.size + 2, 0, none⟩ = some (.slice A k cA) := r25.cell 0)
      | (at_builtin; refine appS1 rfl _ _ rfl (w.heap.size + 3) wr.heap.size A k cA (rowsL (givesL ss) k) rfl ho5 _ 1 (.slice (some ⟨gD, 0, none⟩) 1 dc) [x] rfl ((Row.new _ _ _).cell 0) i5 (by omega) (by omega) (by omega) ?_; intro A' c' w6 ho6 hg6 hat6 b6; have q2 := Row.away r25 hg6 (fun e => by have := HA.out _ e; omega); have c26 : w6.cell? ⟨w.heap.size + 2, 0, none⟩ = some (.slice A k cA) := q2.cell 0; have f26 : w6.frozen? ⟨w.heap.size + 2, 0, none⟩ = false := q2.free 0))
     have S := hid (headL1_step (ss := ss) hlt (by rw [RS.out, RB.out]; exact ho6) r0 r1 r2 hb bb B5 hg6 HA.out)
     clear ho6 hg6 hat6 b6 ho5 i5 r25 c25 q2 od bb B5 r0 r1 r2 hb ho RS RB LG cO1
     go_wp2
     go_roundw
     case rel => exact S.out
     case measure => simp [intOf]; omega
   ·have RB := hid (show bare (givesL ss) k = ys by unfold bare; rw [if_neg (by rw [hys]; unfold vt; intro e; rw [e] at h1; exact h1 rfl), hys])
    clear hys
    go_wp2_with (first
     | (go_at_call 70; refine LG.out.mono ?_; rintro e w1 ⟨D, dn, dc, rfl, od, bb⟩; have hdn : ¬ dn = 1 := (by rw [Own.len od]; exact h1); have hdz : ¬ (dn : Int) = 1 := (by omega); have hdb : (((dn : Nat) : Int) == 1) = false := (by simp; omega); have cO1 : w1.cell? ⟨w.heap.size + 2, 0, none⟩ = some (.slice A k cA) := (r2.next bb).cell 0; have B5 : Below w1.heap.size w1 (w1.alloc (.cells #[.slice D dn dc] 22)) := (Below.refl _ _).alloc (Nat.le_refl _) _; have hz5 := B5.size; have hz1 := bb.size; have ho5 := (ho.next bb).next B5; have i5 : Inn (w1.alloc (.cells #[.slice D dn dc] 22)) wr.heap.size (w1.alloc (.cells #[.slice D dn dc] 22)).heap.size (.slice D dn dc) ys := Inn.wider ((inn_own od).next ((Below.refl _ _).alloc (Nat.le_refl _) _)) (Nat.le_refl _) (by simp); have r25 := (r2.next bb).next B5; have c25 : (w1.alloc (.cells #[.slice D dn dc] 22)).cell? ⟨w.heap.size + 2, 0, none⟩ = some (.slice A k cA) := r25.cell 0)
     | (at_builtin; refine appS1 rfl _ _ rfl (w.heap.size + 3) wr.heap.size A k cA (rowsL (givesL ss) k) rfl ho5 _ 1 (.slice D dn dc) ys rfl ((Row.new _ _ _).cell 0) i5 (by omega) (by omega) (by omega) ?_; intro A' c' w6 ho6 hg6 hat6 b6; have q2 := Row.away r25 hg6 (fun e => by have := HA.out _ e; omega); have c26 : w6.cell? ⟨w.heap.size + 2, 0, none⟩ = some (.slice A k cA) := q2.cell 0; have f26 : w6.frozen? ⟨w.heap.size + 2, 0, none⟩ = false := q2.free 0))
    have S := hid (headL1_step (ss := ss) hlt (by rw [RS.out, RB.out]; exact ho6) r0 r1 r2 hb bb B5 hg6 HA.out)
    clear ho6 hg6 hat6 b6 ho5 i5 r25 c25 q2 od bb B5 r0 r1 r2 hb ho RS RB LG cO1
    go_wp2
    go_roundw
    case rel => exact S.out
    case measure => simp [intOf]; omega
  ·obtain rfl : k = m := by omega
   have HC := hid ho.cap
   have H2 : HeadL2 w (givesL ss) k A cA (.pointer (some ⟨w.heap.size + 2, 0, none⟩)) wr := ⟨k, Nat.le_refl _, rfl, by rw [List.take_of_length_le (by rw [rows_len]; exact Nat.le_refl _)]; rfl, ho, r1, r2, hb⟩
   have HH2 := hid H2
   have hc1 : cA ≤ 9223372036854775807 := ho.cap.2.1
   have hc0 : k ≤ cA := ho.cap.1
   clear H2 ho r0 r1 r2 hb cO h
   go_wp2_with fail
   go_loopw [] (fun wr => HeadL2 w (givesL ss) k A cA (.pointer (some ⟨w.heap.size + 2, 0, none⟩)) wr) (fun wr => lenAt wr ⟨w.heap.size + 2, 0, none⟩)
   case atStart => exact HH2.out
   case round =>
    obtain ⟨n, hn, -, hs, ho, r1, r2, hb⟩ := hrel
    clear HH2
    have cO : wr.cell? ⟨w.heap.size + 2, 0, none⟩ = some (.slice A n cA) := r2.cell 0
    have fO : wr.frozen? ⟨w.heap.size + 2, 0, none⟩ = false := r2.free 0
    have cR : wr.cell? ⟨w.heap.size + 1, 0, none⟩ = some (.slice none 0 0) := r1.cell 0
    have fR : wr.frozen? ⟨w.heap.size + 1, 0, none⟩ = false := r1.free 0
    by_cases h0 : n = 0
    ·subst h0
     have F := hid (headL2_end hn hs ho r1 hb (.inl rfl))
     clear hs ho r1 r2 hb
     go_wp2
     exact bodyPost_ret (v := .agg #[.slice A 0 cA]) (by simp [results, Tryz.results102, go_sem, cR]) rfl F.out
    ·obtain ⟨p, rfl⟩ : ∃ p, n = p + 1 := ⟨n - 1, by omega⟩
     obtain ⟨b, off, A', q, cq, rfl, hbb, hx, hseg, hcap⟩ := ho.segs.spot (k := p) (by omega)
     have p0 : (0 : Int) ≤ (p : Int) := by omega
     have p1 : ((p + 1 : Nat) : Int) - 1 = (p : Int) := by omega
     have p2 : (p : Int) ≤ (cA : Int) := by omega
     have p3 : (p : Int) < ((p + 1 : Nat) : Int) := by omega
     have p4 : (0 : Int) < ((p + 1 : Nat) : Int) := by omega
     have hw2 : IntKind.i64.wrap (p : Int) = (p : Int) := by rw [IntKind.wrap_i64]; omega
     by_cases hq : q = 0
     ·subst hq
      have hnil : (rowsL (givesL ss) k).getD p [] = [] := List.eq_nil_of_length_eq_zero hseg.1
      have S1 : HeadL2 w (givesL ss) k (some ⟨b, off, none⟩) cA (.pointer (some ⟨w.heap.size + 2, 0, none⟩)) (wr.setCell ⟨w.heap.size + 2, 0, none⟩ (.slice (some ⟨b, off, none⟩) p cA)) := by
       refine ⟨p, by omega, rfl, by rw [← strip_drop (by rw [rows_len]; omega) hnil]; exact hs, ?_, r1.far (by simp) _, ?_, hb.setCell (by simp) _⟩
       ·have := owns_put ho r2 (by omega) 0 (.slice (some ⟨b, off, none⟩) p cA)
        simpa using this
       ·have := r2.put 0 (.slice (some ⟨b, off, none⟩) p cA)
        simpa using this
      have HS1 := hid S1
      have E1 : (wr.setCell ⟨w.heap.size + 2, 0, none⟩ (.slice (some ⟨b, off, none⟩) p cA)).cell? ⟨w.heap.size + 2, 0, none⟩ = some (.slice (some ⟨b, off, none⟩) p cA) := by have := (r2.put 0 (.slice (some ⟨b, off, none⟩) p cA)).cell 0; simpa using this
      have HLT := hid (show lenAt (wr.setCell ⟨w.heap.size + 2, 0, none⟩ (.slice (some ⟨b, off, none⟩) p cA)) ⟨w.heap.size + 2, 0, none⟩ < lenAt wr ⟨w.heap.size + 2, 0, none⟩ by simp only [lenAt, E1, cO]; omega)
      clear S1 E1 hs ho r1 r2 hb hseg hcap hnil
      go_wp2
      go_roundw
      case rel => exact HS1.out
      case measure => exact HLT.out
     ·have hq1 : (0 : Int) < (q : Int) := by omega
      have F := hid (headL2_end hn hs ho r1 hb (.inr (fun e => by rw [show p + 1 - 1 = p by omega] at e; rw [e] at hseg; exact hq hseg.1.symm)))
      clear hs ho r1 r2 hb hseg hcap
      go_wp2
      exact bodyPost_ret (v := .agg #[.slice (some ⟨b, off, none⟩) (p + 1) cA]) (by simp [results, Tryz.results102, go_sem, cR]) rfl F.out
theorem tot_le {xss : List (List Int)} {M : Nat} (h : ∀ j, (xss.getD j []).length ≤ M) : tot xss ≤ xss.length + xss.length * M := by
 have : ∀ k, k ≤ xss.length → sumL xss k ≤ k * M := fun k => by
  induction k with
  | zero => intro _; simp [sumL]
  | succ k ih =>
   intro hk
   rw [sumL_succ (by omega)]
   have h1 := ih (by omega)
   have h2 := h k
   rw [Nat.succ_mul]
   omega
 unfold tot
 have := this xss.length (Nat.le_refl _)
 omega
end plainOf
end
section
open Go.Lib (hid)
namespace matchSpec
open Go.RowKit base ints sig same term termOk endAt inside marks app sym sub segs segsHelp termFacts termMath posMath plainMath plain plainOf gives cursor matchMath
set_option maxRecDepth 100000
structure Tab (w : World) (T : Nat) (s : List (List Int)) : Prop where
 len : s.length = 24
 row : ∃ cs, Row w T 22 cs ∧ cs.size = 24 ∧ ∀ j, j < 24 → ∃ A n c, cs[j]? = some (.slice A n c) ∧ Own w (T + 1) (.slice A n c) (s.getD j [])
section
variable {w w' : World} {T : Nat} {s : List (List Int)}
theorem Tab.next (h : Tab w T s) (hb : Below w.heap.size w w') : Tab w' T s := by
 obtain ⟨cs, hr, hs, hc⟩ := h.row
 exact ⟨h.len, cs, hr.next hb, hs, fun j hj => by obtain ⟨A, n, c, e, ho⟩ := hc j hj; exact ⟨A, n, c, e, Own.next ho hb⟩⟩
theorem Tab.at (h : Tab w T s) {j : Nat} (hj : j < 24) : ∃ A n c, w.cell? ⟨T, j, none⟩ = some (.slice A n c) ∧ Own w (T + 1) (.slice A n c) (s.getD j []) := by
 obtain ⟨cs, hr, hs, hc⟩ := h.row
 obtain ⟨A, n, c, e, ho⟩ := hc j hj
 exact ⟨A, n, c, by rw [hr.cell j, e], ho⟩
theorem Tab.free (h : Tab w T s) (j : Nat) : w.frozen? ⟨T, j, none⟩ = false := by obtain ⟨cs, hr, _⟩ := h.row; exact hr.free j
theorem Tab.put (h : Tab w T s) {j : Nat} (hj : j < 24) {A : Option Addr} {n c : Nat} {ys : List Int} (ho : Own w (T + 1) (.slice A n c) ys) : Tab (w.setCell ⟨T, j, none⟩ (.slice A n c)) T (s.set j ys) := by
 obtain ⟨cs, hr, hs, hc⟩ := h.row
 have hg : w.grownBy (w.setCell ⟨T, j, none⟩ (.slice A n c)) (some T) := grown_put (World.grownBy.refl _ _) _ _
 have far : ∀ {A' : Option Addr} {n' c' : Nat} {zs : List Int}, Own w (T + 1) (.slice A' n' c') zs → Own (w.setCell ⟨T, j, none⟩ (.slice A n c)) (T + 1) (.slice A' n' c') zs := fun h => Own.far h hg (fun k hk => by injection hk; omega)
 refine ⟨by rw [List.length_set]; exact h.len, cs.setIfInBounds j (.slice A n c), hr.put j _, by rw [Array.size_setIfInBounds]; exact hs, fun i hi => ?_⟩
 by_cases e : j = i
 ·subst e
  exact ⟨A, n, c, by rw [Array.getElem?_setIfInBounds_self_of_lt (by omega)], by rw [set_get, if_pos ⟨rfl, by rw [h.len]; exact hj⟩]; exact far ho⟩
 ·obtain ⟨A', n', c', e', ho'⟩ := hc i hi
  exact ⟨A', n', c', by rw [Array.getElem?_setIfInBounds_ne e]; exact e', by rw [set_get, if_neg (fun hh => e hh.1)]; exact far ho'⟩
theorem Tab.segs (h : Tab w T s) : Segs w w.heap.size (some ⟨T, 0, none⟩) 24 s := by
 obtain ⟨cs, hr, hs, hc⟩ := h.row
 refine ⟨h.len, fun _ => ⟨T, 0, rfl, hr.lt, fun j hj => ?_⟩⟩
 obtain ⟨A, n, c, e, ho⟩ := hc j hj
 refine ⟨A, n, c, by rw [Nat.zero_add, hr.cell j, e], ?_, ?_⟩
 ·have := Own.len ho; exact Own.seg ho
 ·rcases ho.form with ⟨e1, _⟩ | ⟨g, c', cur, e1, _, _, _, _⟩
  ·injection e1 with e1 e2 e3; subst e1 e2 e3; exact ⟨Nat.le_refl _, by omega, fun _ => rfl⟩
  ·exact look.own_cap ho
end
theorem Tab.new (w : World) : Tab (w.alloc (.cells (madeCells #[.slice none 0 0] 24) 22)) w.heap.size s0 := by
 refine ⟨rfl, _, Row.new _ _ _, size_madeCells _ _, fun j hj => ⟨none, 0, 0, ?_, by rw [s0_get]; exact Own.nil _ _⟩⟩
 simp [madeCells, hj, Nat.mod_one]
def resL (R : Option (List (List Int))) : List (List Int) := match R with
 | some s => plainL (givesL s) 24
 | none => []
def AnsM (w : World) (xss : List (List Int)) (b : Bool) (e : Ending) (w' : World) : Prop := ∃ A n c, e = .returned (.tuple #[.agg #[.slice A n c], .bool b]) ∧ Owns w' w.heap.size w'.heap.size A n c xss ∧ Below w.heap.size w w'
theorem ansM_no {w w' : World} {R : Option (List (List Int))} (h : R = none) (hb : Below w.heap.size w w') : AnsM w (resL R) R.isSome (.returned (.tuple #[.agg #[.slice none 0 0], .bool false])) w' :=
 ⟨none, 0, 0, by rw [h]; rfl, by rw [h]; exact Owns.nil _ _ _, hb⟩
structure Mt (w wr : World) (A : Option Addr) (n c : Nat) (sg : List Int) (P : Option Addr) (pn : Nat) (p : List Int) (Q : Option Addr) (m : Nat) (t : List Int) (s : List (List Int)) : Prop where
 r0 : Row wr w.heap.size 42 #[.slice A n c]
 r1 : Row wr (w.heap.size + 1) 48 #[.slice none 0 0]
 r3 : Row wr (w.heap.size + 1 + 1 + 1) 48 #[.slice (some ⟨w.heap.size + 1 + 1, 0, none⟩) 24 24]
 tb : Tab wr (w.heap.size + 1 + 1) s
 ss : Seg wr w.heap.size A n sg
 sp : Seg wr w.heap.size P pn p
 st : Seg wr w.heap.size Q m t
 b : Below w.heap.size w wr
section
variable {w wr w' : World} {A : Option Addr} {n c : Nat} {sg : List Int} {P : Option Addr} {pn : Nat} {p : List Int} {Q : Option Addr} {m : Nat} {t : List Int} {s : List (List Int)}
theorem Mt.next (h : Mt w wr A n c sg P pn p Q m t s) (hb : Below wr.heap.size wr w') : Mt w w' A n c sg P pn p Q m t s :=
 have b : Below w.heap.size wr w' := hb.mono h.b.size
 ⟨h.r0.next hb, h.r1.next hb, h.r3.next hb, h.tb.next hb, h.ss.below b, h.sp.below b, h.st.below b, h.b.trans b⟩
theorem Mt.put (h : Mt w wr A n c sg P pn p Q m t s) {j : Nat} (hj : j < 24) {D : Option Addr} {dn dc : Nat} {ys : List Int} (ho : Own wr (w.heap.size + 1 + 1 + 1) (.slice D dn dc) ys) : Mt w (wr.setCell ⟨w.heap.size + 1 + 1, j, none⟩ (.slice D dn dc)) A n c sg P pn p Q m t (s.set j ys) :=
 ⟨h.r0.far (show w.heap.size ≠ w.heap.size + 1 + 1 by omega) _, h.r1.far (show w.heap.size + 1 ≠ w.heap.size + 1 + 1 by omega) _, h.r3.far (show w.heap.size + 1 + 1 + 1 ≠ w.heap.size + 1 + 1 by omega) _, h.tb.put hj ho, h.ss.put (show w.heap.size ≤ w.heap.size + 1 + 1 by omega) _, h.sp.put (show w.heap.size ≤ w.heap.size + 1 + 1 by omega) _, h.st.put (show w.heap.size ≤ w.heap.size + 1 + 1 by omega) _, h.b.setCell (show w.heap.size ≤ w.heap.size + 1 + 1 by omega) _⟩
end
set_option maxHeartbeats 1000000 in
theorem l4Match (A P Q : Option Addr) (n c pn pc m mc : Nat) (sg p t : List Int) (w : World) (h : Seg w w.heap.size A n sg) (hp : Seg w w.heap.size P pn p) (ht : Seg w w.heap.size Q m t) (hn : n ≤ 1048576) (hpn : pn ≤ 60) (hm : m ≤ 60) (hmc : m ≤ mc) (hmc2 : mc ≤ 9223372036854775807)
  (hokp : termOkB sg p = true) (hokt : termOkB sg t = true) :
  Calls Tryz.prog 84 #[.agg #[.slice A n c], .slice P pn pc, .slice Q m mc] w (AnsM w (resL (mst sg t p 0 s0)) (mst sg t p 0 s0).isSome) := by
 obtain ⟨W0, hW0⟩ : ∃ W, W = (w.alloc (.cells #[.slice A n c] 42)).alloc (.cells #[.slice none 0 0] 48) := ⟨_, rfl⟩
 have z0 : W0.heap.size = w.heap.size + 1 + 1 := by rw [hW0]; simp
 obtain ⟨W, hW⟩ : ∃ W, W = (W0.alloc (.cells (madeCells #[.slice none 0 0] 24) 22)).alloc (.cells #[.slice (some ⟨w.heap.size + 1 + 1, 0, none⟩) 24 24] 48) := ⟨_, rfl⟩
 have b0 : Below w.heap.size w W0 := by rw [hW0]; exact ((Below.refl _ _).alloc (Nat.le_refl _) _).alloc (by simp) _
 have b1 : Below w.heap.size w W := by rw [hW]; exact (b0.alloc b0.size _).alloc (by simp; omega) _
 have hmk : ∀ W : World, (Instr.makeSlice 31 (.int .i64 24) (.int .i64 24)).run Tryz.prog W = .ok (.slice (some ⟨W.heap.size, 0, none⟩) 24 24) (W.alloc (.cells (madeCells #[.slice none 0 0] 24) 22)) := fun W => run_make_lists 24 (by omega) W
 have M0 : Mt w W A n c sg P pn p Q m t s0 := by
  refine ⟨?_, ?_, ?_, ?_, h.below b1, hp.below b1, ht.below b1, b1⟩
  ·rw [hW, hW0]; exact (((Row.new w _ _).alloc _).alloc _).alloc _
  ·rw [hW, hW0]
   have := (((Row.new (w.alloc (.cells #[.slice A n c] 42)) 48 #[.slice none 0 0]).alloc (.cells (madeCells #[.slice none 0 0] 24) 22)).alloc (.cells #[.slice (some ⟨w.heap.size + 1 + 1, 0, none⟩) 24 24] 48))
   simpa using this
  ·rw [hW]
   have := Row.new (W0.alloc (.cells (madeCells #[.slice none 0 0] 24) 22)) 48 #[.slice (some ⟨w.heap.size + 1 + 1, 0, none⟩) 24 24]
   have e : (W0.alloc (.cells (madeCells #[.slice none 0 0] 24) 22)).heap.size = w.heap.size + 1 + 1 + 1 := by simp; omega
   rwa [e] at this
  ·rw [hW]
   have := (Tab.new W0).next ((Below.refl _ _).alloc (Nat.le_refl _) (.cells #[.slice (some ⟨w.heap.size + 1 + 1, 0, none⟩) 24 24] 48))
   rwa [z0] at this
 have HW := hid hW
 have HW0 := hid hW0
 have HLP := hid hp.1
 have HLT := hid ht.1
 have HT := hid hokt
 have HPM : Hid (∀ i, i < pn → -24 ≤ p.getD i 0) := hid (fun i hi => (term_num hokp (by rw [hp.1]; exact hi)).1)
 have hars := (sig_arities (termOk_parts hokt).1).1
 obtain ⟨R, hR⟩ : ∃ R, mst sg t p 0 s0 = R := ⟨_, rfl⟩
 rw [hR]
 have HR := hid hR
 have HM0 := hid M0
 clear hW hW0 h hp ht b0 b1 M0 hokp hokt hR z0
 go_enter Tryz.func84, Tryz.ntmps84
 go_wp2_with fail
 clear hmk
 go_loopg [9, 10] pn (fun g k i wr => ∃ (k' i' : Nat) (s : List (List Int)), k = .int .i64 k' ∧ i = .int .i64 i' ∧ i' + g = pn ∧ k' ≤ m ∧ mst sg t (p.drop i') k' s = R ∧ (∀ j, (s.getD j []).length ≤ 60) ∧ Mt w wr A n c sg P pn p Q m t s)
 case atStart =>
  have hM := HM0.out
  rw [HW.out, HW0.out] at hM
  exact ⟨0, 0, s0, rfl, rfl, by omega, Nat.zero_le _, HR.out, fun j => by rw [s0_get]; simp, hM⟩
 case round =>
  obtain ⟨k, i, s, rfl, rfl, hi, hk, hmst, hs60, M⟩ := hrel
  clear HM0 HW HW0
  have HI := hid hi
  have HMS := hid hmst
  have HS60 := hid hs60
  clear hi hmst hs60
  by_cases hip : i < pn
  ·have hgk := hid (show gk - 1 < gk ∧ i + 1 + (gk - 1) = pn by have := HI.out; omega)
   obtain ⟨bp, op, x, rfl, hbp, hx, ex⟩ := M.sp.spot hip
   have hx24 := HPM.out i hip
   rw [ex.out] at hx24
   have HD := hid (show p.drop i = x :: p.drop (i + 1) by rw [drop_cons (by rw [HLP.out]; exact hip), ex.out])
   have cR : wr.cell? ⟨w.heap.size + 1, 0, none⟩ = some (.slice none 0 0) := M.r1.cell 0
   have fR : wr.frozen? ⟨w.heap.size + 1, 0, none⟩ = false := M.r1.free 0
   by_cases hkm : k < m
   ·obtain ⟨bt, ot, y, rfl, hbt, hy, ey⟩ := M.st.spot hkm
    have hkl : ¬ t.length ≤ k := by rw [HLT.out]; omega
    by_cases hx0 : 0 ≤ x
    ·by_cases hxy : x = y
     ·subst hxy
      have S := hid (show mst sg t (p.drop (i + 1)) (k + 1) s = R by rw [← HMS.out, HD.out, mst_sym hkl hx0 ey.out.symm])
      have HM := hid (fun d => M.next (below_drewN (Below.refl _ _) d))
      have hd : (x != x) = false := by simp
      clear M ex ey HD
      go_wp2
      go_quiet (fail)
      go_wp2
      go_roundg (gk - 1)
      case measure => exact hgk.out.1
      case rel => exact ⟨k + 1, i + 1, s, by simp, by simp, hgk.out.2, by omega, S.out, HS60.out, HM.out _⟩
     ·have HN := hid (show R = none by rw [← HMS.out, HD.out, mst_symNo hkl hx0 (by rw [ey.out]; exact hxy)])
      have HM := hid (fun d => M.next (below_drewN (Below.refl _ _) d))
      have hd : (x != y) = true := by simp [hxy]
      have F1 := hid (fun d => ansM_no (w := w) HN.out (below_drewN M.b d))
      have F2 := hid (fun d => ansM_no (w := w) HN.out ((below_drewN M.b d).setCell (p := ⟨w.heap.size + 1, 0, none⟩) (show w.heap.size ≤ w.heap.size + 1 by omega) (.slice none 0 0)))
      clear M ex ey HD HM
      go_wp2
      go_quiet (fail)
      go_wp2
      first
       | exact bodyPost_ret (v := .tuple #[.agg #[.slice none 0 0], .bool false]) (by simp [results, Tryz.results84, go_sem, cR]) rfl (F1.out _)
       | exact bodyPost_ret (v := .tuple #[.agg #[.slice none 0 0], .bool false]) (by simp [results, Tryz.results84, go_sem, cR]) rfl (F2.out _)
    ·obtain ⟨v, hv⟩ : ∃ v : Nat, x = -1 - (v : Int) := ⟨(-1 - x).toNat, by omega⟩
     subst hv
     have hv24 : v < 24 := by omega
     have hvr : vr (-1 - (v : Int)) = v := by unfold vr; omega
     obtain ⟨t1, t2, t3⟩ := term_at HT.out (show k < t.length by rw [HLT.out]; exact hkm)
     rw [HLT.out] at t3
     have hsl := (sub_len1 HT.out (show k < t.length by rw [HLT.out]; exact hkm)).1
     have cA : wr.cell? ⟨w.heap.size, 0, none⟩ = some (.slice A n c) := M.r0.cell 0
     have LS := hid (l1Sub A (some ⟨bt, ot, none⟩) n c m mc sg t k (len1 sg t k) wr (M.ss.more M.b.size) (M.st.more M.b.size) hn (by omega) hmc hmc2 hars hkm t1 t2 t3)
     obtain ⟨ys, hys⟩ : ∃ ys, subL sg t k = ys := ⟨_, rfl⟩
     rw [hys] at LS hsl
     have HYS := hid hys
     have hyl : k + ys.length ≤ m := by rw [hsl]; exact t3
     have hyl60 : ys.length ≤ 60 := by omega
     have hwr := M.b.size
     have hw3 := M.r3.lt
     clear hys t1 t2 t3 hsl hy ey cR fR
     go_wp2_with fail
     refine LS.out.mono ?_
     rintro e w1 ⟨D, dn, dc, rfl, od, bb⟩
     replace M := M.next bb
     have hx1 : w1.cell? ⟨bp, op + i, none⟩ = some (.int .i64 (-1 - (v : Int))) := (bb.cell (p := ⟨bp, op + i, none⟩) (show bp < wr.heap.size by omega)).trans hx
     obtain rfl : dn = ys.length := Own.len od
     replace od := Own.lower (base' := w.heap.size + 1 + 1 + 1) od (by omega)
     obtain ⟨Ao, no, co, hc, oo⟩ := M.tb.at hv24
     obtain ⟨os, hos⟩ : ∃ os, s.getD v [] = os := ⟨_, rfl⟩
     rw [hos] at oo
     have HOS := hid hos
     have HNO := hid (Own.len oo)
     have hno60 : no ≤ 60 := by rw [HNO.out, ← hos]; exact HS60.out v
     have c3 : w1.cell? ⟨w.heap.size + 1 + 1 + 1, 0, none⟩ = some (.slice (some ⟨w.heap.size + 1 + 1, 0, none⟩) 24 24) := M.r3.cell 0
     have hw1 : IntKind.i64.wrap (-1 - (-1 - (v : Int))) = (v : Int) := by rw [IntKind.wrap_i64]; omega
     have hw2 : IntKind.i64.wrap (v : Int) = (v : Int) := by rw [IntKind.wrap_i64]; omega
     have j0 : (0 : Int) ≤ (v : Int) := by omega
     have j1 : (v : Int) < 24 := by omega
     have HMD := hid (fun d => M.next (below_drewN (Below.refl _ _) d))
     have HOD := hid (fun d => Own.drewN od d)
     have HOO := hid (fun d => Own.drewN oo d)
     have HC := hid hc
     have HX1 := hid hx1
     have HVR := hid hvr
     clear bb hx LS M od oo hos hvr
     go_wp2
     go_quiet (fail)
     generalize hd1 : w1.drewN _ = w2
     have M : Mt w w2 A n c sg (some ⟨bp, op, none⟩) pn p (some ⟨bt, ot, none⟩) m t s := by rw [← hd1]; exact HMD.out _
     have od : Own w2 (w.heap.size + 1 + 1 + 1) (.slice D ys.length dc) ys := by rw [← hd1]; exact HOD.out _
     have oo : Own w2 (w.heap.size + 1 + 1 + 1) (.slice Ao no co) os := by rw [← hd1]; exact HOO.out _
     clear hd1 HMD HOD HOO hx1 c3 hc
     have cR : w2.cell? ⟨w.heap.size + 1, 0, none⟩ = some (.slice none 0 0) := M.r1.cell 0
     have fR : w2.frozen? ⟨w.heap.size + 1, 0, none⟩ = false := M.r1.free 0
     by_cases hn0 : no = 0
     ·have hno2 : ¬ ((s.getD (vr (-1 - (v : Int))) []).length ≠ 0 ∧ s.getD (vr (-1 - (v : Int))) [] ≠ subL sg t k) := by
       rw [HVR.out, HOS.out]
       intro h
       exact h.1 (by rw [← HNO.out]; exact hn0)
      subst hn0
      have S := hid (show mst sg t (p.drop (i + 1)) (k + ys.length) (s.set v ys) = R by rw [← HMS.out, HD.out, mst_var hkl (show ¬ 0 ≤ -1 - (v : Int) by omega) hno2, HVR.out, HYS.out])
      have hs2 := hid (show ∀ j, ((s.set v ys).getD j []).length ≤ 60 from fun j => by rw [set_get]; split; exact hyl60; exact HS60.out j)
      have hxq : w2.cell? ⟨bp, op + i, none⟩ = some (.int .i64 (-1 - (v : Int))) := by
       obtain ⟨b', o', x', e', -, hq, ex'⟩ := M.sp.spot hip
       injection e' with e'
       injection e' with e1 e2
       subst e1 e2
       rw [hq, ← ex'.out, ex.out]
      have c3q : w2.cell? ⟨w.heap.size + 1 + 1 + 1, 0, none⟩ = some (.slice (some ⟨w.heap.size + 1 + 1, 0, none⟩) 24 24) := M.r3.cell 0
      have fT : w2.frozen? ⟨w.heap.size + 1 + 1, v, none⟩ = false := M.tb.free v
      obtain ⟨A9, n9, c9, hcq, -⟩ := M.tb.at hv24
      have HM2 := hid (fun d => (M.next (below_drewN (Below.refl _ _) d)).put hv24 (Own.drewN od d))
      clear M od
      go_wp2
      go_region
      go_wp2
      go_roundg (gk - 1)
      case measure => exact hgk.out.1
      case rel => exact ⟨k + ys.length, i + 1, s.set v ys, by simp, by simp, hgk.out.2, hyl, S.out, hs2.out, HM2.out _⟩
     ·have hpos : (0 : Int) < (no : Int) := by omega
      go_wp2_with fail
      refine (specSame Ao D no ys.length co dc os ys w2 (Own.seg oo) (Own.seg od) (by omega) (by omega)).mono ?_
      rintro e w3 ⟨he, d3, rfl⟩
      replace M := M.next (below_drewN (Below.refl _ _) d3)
      replace od := Own.drewN od d3
      clear oo cR fR
      generalize w2.drewN d3 = w3 at *
      have cR : w3.cell? ⟨w.heap.size + 1, 0, none⟩ = some (.slice none 0 0) := M.r1.cell 0
      have fR : w3.frozen? ⟨w.heap.size + 1, 0, none⟩ = false := M.r1.free 0
      by_cases hoy : os = ys
      ·rw [decide_eq_true hoy] at he
       subst he
       have hno2 : ¬ ((s.getD (vr (-1 - (v : Int))) []).length ≠ 0 ∧ s.getD (vr (-1 - (v : Int))) [] ≠ subL sg t k) := by
        rw [HVR.out, HOS.out, HYS.out]
        intro h
        exact h.2 hoy
       have S := hid (show mst sg t (p.drop (i + 1)) (k + ys.length) (s.set v ys) = R by rw [← HMS.out, HD.out, mst_var hkl (show ¬ 0 ≤ -1 - (v : Int) by omega) hno2, HVR.out, HYS.out])
       have hs2 := hid (show ∀ j, ((s.set v ys).getD j []).length ≤ 60 from fun j => by rw [set_get]; split; exact hyl60; exact HS60.out j)
       have hxq : w3.cell? ⟨bp, op + i, none⟩ = some (.int .i64 (-1 - (v : Int))) := by
        obtain ⟨b', o', x', e', -, hq, ex'⟩ := M.sp.spot hip
        injection e' with e'
        injection e' with e1 e2
        subst e1 e2
        rw [hq, ← ex'.out, ex.out]
       have c3q : w3.cell? ⟨w.heap.size + 1 + 1 + 1, 0, none⟩ = some (.slice (some ⟨w.heap.size + 1 + 1, 0, none⟩) 24 24) := M.r3.cell 0
       have fT : w3.frozen? ⟨w.heap.size + 1 + 1, v, none⟩ = false := M.tb.free v
       obtain ⟨A9, n9, c9, hcq, -⟩ := M.tb.at hv24
       have HM2 := hid (fun d => (M.next (below_drewN (Below.refl _ _) d)).put hv24 (Own.drewN od d))
       clear M od
       go_wp2
       go_region
       go_wp2
       go_roundg (gk - 1)
       case measure => exact hgk.out.1
       case rel => exact ⟨k + ys.length, i + 1, s.set v ys, by simp, by simp, hgk.out.2, hyl, S.out, hs2.out, HM2.out _⟩
      ·rw [decide_eq_false hoy] at he
       subst he
       have HN := hid (show R = none by
        rw [← HMS.out, HD.out, mst_varNo hkl (show ¬ 0 ≤ -1 - (v : Int) by omega) (by
         rw [HVR.out, HOS.out, HYS.out]
         exact ⟨by rw [← HNO.out]; exact hn0, hoy⟩)])
       have F1 := hid (ansM_no (w := w) HN.out M.b)
       have F2 := hid (ansM_no (w := w) HN.out ((M.b).setCell (p := ⟨w.heap.size + 1, 0, none⟩) (show w.heap.size ≤ w.heap.size + 1 by omega) (.slice none 0 0)))
       clear M od ex HD
       go_wp2
       first
        | exact bodyPost_ret (v := .tuple #[.agg #[.slice none 0 0], .bool false]) (by simp [results, Tryz.results84, go_sem, cR]) rfl F1.out
        | exact bodyPost_ret (v := .tuple #[.agg #[.slice none 0 0], .bool false]) (by simp [results, Tryz.results84, go_sem, cR]) rfl F2.out
   ·have HN := hid (show R = none by rw [← HMS.out, HD.out, mst_out (by rw [HLT.out]; omega)])
    have hge : (m : Int) ≤ (k : Int) := by omega
    have F1 := hid (ansM_no (w := w) HN.out M.b)
    have F2 := hid (ansM_no (w := w) HN.out ((M.b).setCell (p := ⟨w.heap.size + 1, 0, none⟩) (show w.heap.size ≤ w.heap.size + 1 by omega) (.slice none 0 0)))
    clear M ex HD
    go_wp2
    first
     | exact bodyPost_ret (v := .tuple #[.agg #[.slice none 0 0], .bool false]) (by simp [results, Tryz.results84, go_sem, cR]) rfl F1.out
     | exact bodyPost_ret (v := .tuple #[.agg #[.slice none 0 0], .bool false]) (by simp [results, Tryz.results84, go_sem, cR]) rfl F2.out
  ·have hipn : i = pn := by have := HI.out; omega
   have hRs : R = some s := by rw [← HMS.out, hipn, List.drop_eq_nil_of_le (by rw [HLP.out]; exact Nat.le_refl _)]; rfl
   have HRS := hid hRs
   have hlen := M.tb.len
   have htot : tot s ≤ 1048576 := by have := tot_le (M := 60) HS60.out; rw [hlen] at this; omega
   have LP := hid (l2Plain _ 24 24 s _ M.tb.segs htot)
   have c3 : wr.cell? ⟨w.heap.size + 1 + 1 + 1, 0, none⟩ = some (.slice (some ⟨w.heap.size + 1 + 1, 0, none⟩) 24 24) := M.r3.cell 0
   have z1 := M.b.size
   have r1 := M.r1
   have hb := M.b
   have zr := M.r3.lt
   clear hRs hlen htot M hipn
   go_wp2_with fail
   refine LP.out.mono ?_
   rintro e w2 ⟨D, dn, dc, rfl, od, bb⟩
   replace r1 := r1.next bb
   replace hb := next_trans hb bb
   have cR : w2.cell? ⟨w.heap.size + 1, 0, none⟩ = some (.slice none 0 0) := r1.cell 0
   have fR : w2.frozen? ⟨w.heap.size + 1, 0, none⟩ = false := r1.free 0
   have F : AnsM w (resL R) R.isSome (.returned (.tuple #[.agg #[.slice D dn dc], .bool true])) (w2.setCell ⟨w.heap.size + 1, 0, none⟩ (.slice D dn dc)) := by
    have hbt : Btw (w.heap.size + 1) (w.heap.size + 2) w2 (w2.setCell ⟨w.heap.size + 1, 0, none⟩ (.slice D dn dc)) := Btw.of_grown (grown_put (World.grownBy.refl _ _) _ _) (fun k hk => by injection hk; omega)
    have o2 := od.btw hbt (.inr (by omega))
    refine ⟨D, dn, dc, by rw [HRS.out]; rfl, ?_, hb.setCell (p := ⟨w.heap.size + 1, 0, none⟩) (show w.heap.size ≤ w.heap.size + 1 by omega) _⟩
    rw [HRS.out]
    exact o2.wider z1 (by simp)
   have HF := hid F
   clear F od bb hb r1 LP
   go_wp2
   exact bodyPost_ret (v := .tuple #[.agg #[.slice D dn dc], .bool true]) (by simp [results, Tryz.results84, go_sem, cR]) rfl HF.out
structure Mr (w wr : World) (A : Option Addr) (n c : Nat) (sg : List Int) (P : Option Addr) (pn : Nat) (p : List Int) (Q : Option Addr) (m : Nat) (t : List Int) : Prop where
 r0 : Row wr w.heap.size 42 #[.slice A n c]
 r1 : Row wr (w.heap.size + 1) 48 #[.slice none 0 0]
 ss : Seg wr wr.heap.size A n sg
 sp : Seg wr wr.heap.size P pn p
 st : Seg wr wr.heap.size Q m t
 b : Below w.heap.size w wr
section
variable {w wr w' : World} {A : Option Addr} {n c : Nat} {sg : List Int} {P : Option Addr} {pn : Nat} {p : List Int} {Q : Option Addr} {m : Nat} {t : List Int}
theorem Mr.next (h : Mr w wr A n c sg P pn p Q m t) (hb : Below wr.heap.size wr w') : Mr w w' A n c sg P pn p Q m t :=
 ⟨h.r0.next hb, h.r1.next hb, h.ss.next hb, h.sp.next hb, h.st.next hb, next_trans h.b hb⟩
end
end matchSpec
end
section
open Go.Lib (hid)
namespace concat
open Go.RowKit base ints marks app sym segs segsHelp
set_option maxRecDepth 100000
set_option maxHeartbeats 1000000 in
theorem growNil (s : Nat) (w : World) (hs : s ≤ 2097152) :
  Calls Tryz.prog 134 #[.slice none 0 0, .int .i64 (s : Int)] w (AnsList w []) := by
 by_cases h0 : s = 0
 ·subst h0
  go_enter Tryz.func134, Tryz.ntmps134
  go_wp2
  go_ret
  exact ⟨none, 0, 0, rfl, Own.nil _ _, Below.refl _ _⟩
 ·obtain ⟨i0, hi, hz0, hz1, hz2⟩ := info_parts info_i64
  obtain ⟨G, hG⟩ : ∃ G, G = grownCap w s 0 2 := ⟨_, rfl⟩
  have hge : s ≤ G := by rw [hG]; exact grownCap_ge w _ _ _
  have hcm : G ≤ maxLen := by rw [hG]; exact grownCap_le_maxLen w _ _ _ (by unfold maxLen; omega)
  obtain ⟨cs, hcs⟩ : ∃ cs, cs = Builtin.zeroCells (Value.int .i64 0).cells s ++ Builtin.zeroCells (Value.int .i64 0).cells (G - s) := ⟨_, rfl⟩
  have hsz : cs.size = G := by
   rw [hcs]
   have e : (Value.int .i64 0).cells.size = 1 := rfl
   simp only [Array.size_append, size_zeroCells, e]
   omega
  have hr : ∀ ty, (Builtin.append_ #[22, 3] ty #[.slice none 0 0, .int .i64 (s : Int)]).run Tryz.prog w = .ok (.slice (some ⟨w.heap.size, 0, none⟩) s G) (w.drew.alloc (.cells cs 2)) := fun ty => by
   rw [hG, hcs, hG]
   exact Lib.run_append_nil_zeros w 22 3 ty 2 i0 (.int .i64 0) .i64 .i64 Tryz.underlying22 Tryz.underlying3 hi hz0 s (by omega) (by rw [hz1]; omega) (by omega) (by rw [hz2]; omega)
  have hrow : Row (w.drew.alloc (.cells cs 2)) w.heap.size 2 cs := Row.new w.drew _ _
  have F : AnsList w [] (.returned (.slice (some ⟨w.heap.size, 0, none⟩) 0 G)) (w.drew.alloc (.cells cs 2)) :=
   ⟨_, _, _, rfl, Own.of_row hrow rfl hsz (Nat.zero_le _) (by unfold maxLen at hcm; omega) (Nat.le_refl _) (fun j hj => absurd hj (Nat.not_lt_zero _)), ((Below.refl _ _).drew).alloc (Nat.le_refl _) _⟩
  have HF := hid F
  have hG63 : G ≤ 9223372036854775807 := by unfold maxLen at hcm; omega
  clear F hrow hsz hcs hG hcm
  have h1 : (0 : Int) < (s : Int) := by omega
  go_enter Tryz.func134, Tryz.ntmps134
  go_wp2_with (at_builtin; refine Lib.wpList_append_run _ rfl _ _ _ _ rfl _ _ rfl rfl _ _ (hr _) ?_)
  go_wp2
  go_ret
  exact HF.out
def catL (xss : List (List Int)) (k : Nat) : List Int := (xss.take k).flatten
theorem cat_len {xss : List (List Int)} {k : Nat} : (catL xss k).length = sumL xss k := by unfold catL sumL; rw [List.length_flatten]
theorem cat_succ {xss : List (List Int)} {k : Nat} (h : k < xss.length) : catL xss (k + 1) = catL xss k ++ xss.getD k [] := by
 unfold catL
 rw [List.take_succ_eq_append_getElem h, List.flatten_append]
 simp [List.getD, h]
set_option maxHeartbeats 1000000 in
theorem concat (S : Option Addr) (k c : Nat) (xss : List (List Int)) (w : World) (h : Segs w w.heap.size S k xss) (ht : tot xss ≤ 1048576) :
  Calls Tryz.prog 124 #[.slice S k c] w (AnsList w xss.flatten) := by
 have HL := hid h.1
 have hk : k ≤ 1048576 := tot_len h.1 ht
 have hs1 : Hid (∀ j, j ≤ k → sumL xss j ≤ 1048576) := hid (fun j hj => by have := sumL_mono (xss := xss) (k := j) (m := xss.length) (by rw [h.1]; exact hj) (Nat.le_refl _); unfold tot at ht; omega)
 have HS : Hid (∀ j, j < k → sumL xss (j + 1) = sumL xss j + (xss.getD j []).length) := hid (fun j hj => sumL_succ (by rw [h.1]; exact hj))
 have HC : Hid (∀ j, j < k → catL xss (j + 1) = catL xss j ++ xss.getD j []) := hid (fun j hj => cat_succ (by rw [h.1]; exact hj))
 have HF := hid (show catL xss k = xss.flatten by unfold catL; rw [List.take_of_length_le (by rw [h.1]; exact Nat.le_refl _)])
 have HCL := hid (fun j => cat_len (xss := xss) (k := j))
 have HH := hid h
 have S0 := hid (show sumL xss 0 = 0 by simp [sumL])
 have C0 := hid (show catL xss 0 = [] by simp [catL])
 clear h ht
 go_enter Tryz.func124, Tryz.ntmps124
 go_wp2
 go_loopg [3, 11] k (fun g s i wr => w = wr ∧ ∃ j : Nat, i = .int .i64 j ∧ j + g = k ∧ s = .int .i64 (sumL xss j : Nat))
 case atStart => exact ⟨rfl, 0, rfl, by omega, by rw [S0.out]; rfl⟩
 case round =>
  obtain ⟨rfl, j, rfl, hj, rfl⟩ := hrel
  have HJ := hid hj
  clear hj
  by_cases hjk : j < k
  ·obtain ⟨b, off, A', n', c', rfl, hb, hc, hsg, hcap⟩ := HH.out.spot hjk
   have hl := hsg.1
   have hb1 := hs1.out j (by omega)
   have hb2 := hs1.out (j + 1) (by omega)
   have hsu := HS.out j hjk
   obtain ⟨s, hs⟩ : ∃ s, sumL xss j = s := ⟨_, rfl⟩
   have HSS := hid (show sumL xss (j + 1) = s + n' by rw [hsu, hs, hl])
   have hb3 : s + n' ≤ 1048576 := by rw [← HSS.out]; exact hb2
   rw [hs]
   clear hsg hcap hl hb1 hb2 hsu hs
   go_wp2
   go_roundg (gk - 1)
   case measure => have := HJ.out; omega
   case rel => exact ⟨rfl, j + 1, by simp, by have := HJ.out; omega, by rw [HSS.out]; simp⟩
  ·have hjk2 : j = k := by have := HJ.out; omega
   obtain ⟨s, hs⟩ : ∃ s, sumL xss j = s := ⟨_, rfl⟩
   have hs2 : s ≤ 2097152 := by rw [← hs]; have := hs1.out j (by omega); omega
   rw [hs]
   have LG := hid (growNil s w hs2)
   clear hs hs2 hjk2
   go_wp2_with fail
   refine LG.out.mono ?_
   rintro e w1 ⟨O, on, oc, rfl, o1, b1⟩
   have on0 : on = 0 := Own.len o1
   subst on0
   have P0 : Own w1 w.heap.size (.slice O 0 oc) (catL xss 0) := by rw [C0.out]; exact o1
   have HP := hid (And.intro P0 b1)
   clear P0 o1 b1 LG
   go_wp2
   go_loopg [6, 27] k (fun g s i wr => ∃ (j : Nat) (O : Option Addr) (on oc : Nat), i = .int .i64 j ∧ j + g = k ∧ s = .slice O on oc ∧ Own wr w.heap.size (.slice O on oc) (catL xss j) ∧ Below w.heap.size w wr)
   case atStart => exact ⟨0, O, 0, oc, rfl, by omega, rfl, HP.out.1, HP.out.2⟩
   case round =>
    obtain ⟨j, O, on, oc, rfl, hj, rfl, ho, hb⟩ := hrel
    clear HP
    have HJ := hid hj
    clear hj
    by_cases hjk : j < k
    ·have hsegs := (HH.out.below hb)
     obtain ⟨b, off, A', n', c', rfl, hbb, hc, hsg, hcap⟩ := hsegs.spot hjk
     have hon : on ≤ 1048576 := by rw [Own.len ho, HCL.out j]; exact hs1.out j (by omega)
     have hn' : n' ≤ 1048576 := by have h1 := hsg.1; have h2 := hs1.out (j + 1) (by omega); rw [HS.out j hjk, h1] at h2; omega
     have HCAP := hid hcap.2.2
     have hsz := hb.size
     clear hsegs hcap
     go_wp2_with (at_builtin; refine appAll rfl _ _ rfl w.heap.size O on oc (catL xss j) rfl ho A' n' c' w.heap.size (xss.getD j []) rfl hsg HCAP.out (by omega) (by omega) hsz ?_; intro O' oc' w3 ho3 b3)
     have S := hid (show Own w3 w.heap.size (.slice O' (on + n') oc') (catL xss (j + 1)) ∧ Below w.heap.size w w3 from ⟨by rw [HC.out j hjk]; exact ho3, hb.trans b3⟩)
     clear ho ho3 hb b3 hsg hc
     go_wp2
     go_roundg (gk - 1)
     case measure => have := HJ.out; omega
     case rel => exact ⟨j + 1, O', on + n', oc', by simp, by have := HJ.out; omega, rfl, S.out⟩
    ·have hjk2 : j = k := by have := HJ.out; omega
     have F : AnsList w xss.flatten (.returned (.slice O on oc)) wr := ⟨O, on, oc, rfl, by rw [← HF.out, ← hjk2]; exact ho, hb⟩
     have HFF := hid F
     clear F ho hb hjk2
     go_wp2
     go_ret
     exact HFF.out
end concat
end
end Go.Proofs.YtblhmplpcdcejaaGreat
