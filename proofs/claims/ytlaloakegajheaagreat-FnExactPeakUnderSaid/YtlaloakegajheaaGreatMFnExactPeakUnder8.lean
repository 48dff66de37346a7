/-
  MERGED: my texts PeakUnder, one behind the other, as they are. By an AI agent.
-/
import Derived.Test.YtlaloakegajheaaGreatMFnExactPeakUnder7
namespace Go.Proofs.YtlaloakegajheaaGreat
section
open Go.Lib (hid)
namespace peakUnder
open Go.RowKit base ints sig term termOk endAt marks app sym segs segsHelp kinds termFacts shape kindsR kindsP kindsT varsOf substOk filled und ruleMath ruleSpec stepMath walkMath peakMath peakSame peakSpec peakImpl
set_option maxRecDepth 100000
def AnsPeak (w : World) (p : Pk) (b : Bool) (e : Ending) (w' : World) : Prop := ∃ A0 n0 c0 A1 n1 c1 A2 n2 c2, e = .returned (.tuple #[.agg #[.slice A0 n0 c0, .slice A1 n1 c1, .slice A2 n2 c2, .int .i64 p.2.2.2.1, .int .i64 p.2.2.2.2.1, .int .i64 p.2.2.2.2.2], .bool b]) ∧ Owned w' w.heap.size w'.heap.size sPeak [.slice A0 n0 c0, .slice A1 n1 c1, .slice A2 n2 c2, .int .i64 p.2.2.2.1, .int .i64 p.2.2.2.2.1, .int .i64 p.2.2.2.2.2] p ∧ Below w.heap.size w w'
theorem owned_nil (w : World) (g : Nat) : Owned w g w.heap.size sI [.slice none 0 0] ([] : List Int) := ow_ints.2 (Ownd.of_own (Own.nil w g))
theorem ansPeak_no {w w' : World} {p : Pk} {b : Bool} (h : p = ([], [], [], 0, 0, 0) ∧ b = false) (hb : Below w.heap.size w w') : AnsPeak w p b (.returned (.tuple #[.agg #[.slice none 0 0, .slice none 0 0, .slice none 0 0, .int .i64 0, .int .i64 0, .int .i64 0], .bool false])) w' := by
 obtain ⟨rfl, rfl⟩ := h
 have o := owned_nil w' w'.heap.size
 exact ⟨none, 0, 0, none, 0, 0, none, 0, 0, rfl, join_Peak (d := (([], [], [], 0, 0, 0) : Dat sPeak)) (m0 := w'.heap.size) (m1 := w'.heap.size) (m2 := w'.heap.size) (m3 := w'.heap.size) (m4 := w'.heap.size) (m5 := w'.heap.size) (m6 := w'.heap.size) o o o (Owned.num _ _ _ _) (Owned.num _ _ _ _) (Owned.num _ _ _ _) (Nat.le_refl _) (Nat.le_refl _) (Nat.le_refl _) (Nat.le_refl _) (Nat.le_refl _) (Nat.le_refl _) hb.size (Nat.le_refl _), hb⟩
theorem ansPeak_yes {w T : World} {p : Pk} {b : Bool} {l0 l1 l2 : List Int} {x3 x4 x5 : Int} {m0 m1 m2 m3 : Nat} {A0 A1 A2 : Option Addr} {n0 c0 n1 c1 n2 c2 : Nat} (h : p = (l0, l1, l2, x3, x4, x5) ∧ b = true) (o0 : Owned T m0 m1 sI [.slice A0 n0 c0] l0) (o1 : Owned T m1 m2 sI [.slice A1 n1 c1] l1) (o2 : Owned T m2 m3 sI [.slice A2 n2 c2] l2) (y0 : m0 ≤ m1) (y1 : m1 ≤ m2) (y2 : m2 ≤ m3) (hl : w.heap.size ≤ m0) (hh : m3 ≤ T.heap.size) (hb : Below w.heap.size w T) :
  AnsPeak w p b (.returned (.tuple #[.agg #[.slice A0 n0 c0, .slice A1 n1 c1, .slice A2 n2 c2, .int .i64 x3, .int .i64 x4, .int .i64 x5], .bool true])) T := by
 obtain ⟨rfl, rfl⟩ := h
 exact ⟨A0, n0, c0, A1, n1, c1, A2, n2, c2, rfl, join_Peak (d := ((l0, l1, l2, x3, x4, x5) : Dat sPeak)) (m0 := m0) (m1 := m1) (m2 := m2) (m3 := m3) (m4 := m3) (m5 := m3) (m6 := m3) o0 o1 o2 (Owned.num _ _ _ _) (Owned.num _ _ _ _) (Owned.num _ _ _ _) y0 y1 y2 (Nat.le_refl _) (Nat.le_refl _) (Nat.le_refl _) hl hh, hb⟩
theorem under_sz {sg : List Int} {rs : List Rl} {p : Pk} {ss : List (List Int)} : sz sPeak (underP sg rs p ss) ≤ 1048576 := by
 obtain ⟨h0, h1, h2⟩ := under_len (sg := sg) (rs := rs) (p := p) (ss := ss)
 show sz sI (underP sg rs p ss).1 + (sz sI (underP sg rs p ss).2.1 + (sz sI (underP sg rs p ss).2.2.1 + (0 + (0 + 0)))) ≤ 1048576
 rw [sz_ints, sz_ints, sz_ints]
 omega
theorem box4 (w : World) (t0 t1 t2 t3 : TypeId) (c0 c1 c2 c3 : Array Value) : ∃ W, W = (((w.alloc (.cells c0 t0)).alloc (.cells c1 t1)).alloc (.cells c2 t2)).alloc (.cells c3 t3) ∧ Row W w.heap.size t0 c0 ∧ Row W (w.heap.size + 1) t1 c1 ∧ Row W (w.heap.size + 1 + 1) t2 c2 ∧ Row W (w.heap.size + 1 + 1 + 1) t3 c3 ∧ Below w.heap.size w W := by
 obtain ⟨W, hW, r0, r1, b⟩ := box2 w t0 t1 c0 c1
 obtain ⟨X, hX, r2, r3, b2⟩ := box2 W t2 t3 c2 c3
 have e : W.heap.size = w.heap.size + 1 + 1 := by rw [hW]; simp
 rw [e] at r2 r3
 exact ⟨X, by rw [hX, hW], r0.next b2, r1.next b2, r2, r3, next_trans b b2⟩
set_option maxHeartbeats 4000000 in
theorem specUnderC (A T0 T1 T2 S : Option Addr) (V : Value) (n cs tn tc un uc yn yc m c : Nat) (d : Dat sSystem) (t0 t1 t2 : List Int) (xa xu xo : Int) (ss : Dat sSubst) (w : World) (h : Rd w w.heap.size sSystem [.slice A n cs, V] d) (h' : Rd w w.heap.size sPeak [.slice T0 tn tc, .slice T1 un uc, .slice T2 yn yc, .int .i64 xa, .int .i64 xu, .int .i64 xo] (t0, t1, t2, xa, xu, xo)) (hA : Seg w w.heap.size A n d.1) (hS : Segs w w.heap.size S m ss) (s0 : Seg w w.heap.size T0 tn t0) (s1 : Seg w w.heap.size T1 un t1) (s2 : Seg w w.heap.size T2 yn t2) (hz : sz sSystem d ≤ 1048576) (hz' : sz sPeak ((t0, t1, t2, xa, xu, xo) : Dat sPeak) ≤ 1048576) (hn : n ≤ 1048576) (ht : tot ss ≤ 1048576) (b0 : tn ≤ 1048576) (b1 : un ≤ 1048576) (b2 : yn ≤ 1048576) :
  Calls Tryz.prog 31 #[.agg #[.slice A n cs, V], .agg #[.slice T0 tn tc, .slice T1 un uc, .slice T2 yn yc, .int .i64 xa, .int .i64 xu, .int .i64 xo], .agg #[.slice S m c]] w (AnsPeak w (underP d.1 d.2 (t0, t1, t2, xa, xu, xo) ss) (underB d.1 d.2 (t0, t1, t2, xa, xu, xo) ss)) := by
 obtain ⟨W, hW, rS, rP, rU, rZ, bel⟩ := box4 w 32 40 52 40 #[.slice A n cs, V] #[.slice T0 tn tc, .slice T1 un uc, .slice T2 yn yc, .int .i64 xa, .int .i64 xu, .int .i64 xo] #[.slice S m c] #[.slice none 0 0, .slice none 0 0, .slice none 0 0, .int .i64 0, .int .i64 0, .int .i64 0]
 have HW := hid hW
 have LO := hid (specPeakOk (.slice A n cs) V (.slice T0 tn tc) (.slice T1 un uc) (.slice T2 yn yc) d (t0, t1, t2, xa, xu, xo) W (h.next bel) (h'.next bel) hz hz')
 have LF0 := hid (fun (w1 : World) (bb : Below w.heap.size w w1) => filled.specFilledO A S T0 n cs m c tn tc d.1 ss t0 w1 (hA.next bb) (hS.next bb) (s0.next bb) hn ht b0)
 have LF1 := hid (fun (w1 : World) (bb : Below w.heap.size w w1) => filled.specFilledO A S T1 n cs m c un uc d.1 ss t1 w1 (hA.next bb) (hS.next bb) (s1.next bb) hn ht b1)
 have LF2 := hid (fun (w1 : World) (bb : Below w.heap.size w w1) => filled.specFilledO A S T2 n cs m c yn yc d.1 ss t2 w1 (hA.next bb) (hS.next bb) (s2.next bb) hn ht b2)
 obtain ⟨bp, hbp⟩ : ∃ z, peakB d.1 d.2 (t0, t1, t2, xa, xu, xo) = z := ⟨_, rfl⟩
 have HBP := hid hbp
 rw [show peakB d.1 d.2 ((t0, t1, t2, xa, xu, xo) : Pk) = bp from hbp] at LO
 clear h h' hA hS s0 s1 s2 hz hz' hbp
 have a0 : ((((w.alloc (.cells #[.slice A n cs, V] 32)).alloc (.cells #[.slice T0 tn tc, .slice T1 un uc, .slice T2 yn yc, .int .i64 xa, .int .i64 xu, .int .i64 xo] 40)).alloc (.cells #[.slice S m c] 52)).alloc (.cells #[.slice none 0 0, .slice none 0 0, .slice none 0 0, .int .i64 0, .int .i64 0, .int .i64 0] 40)).cell? ⟨w.heap.size, 0, none⟩ = some (.slice A n cs) := by rw [← hW]; exact rS.cell 0
 have a1 : ((((w.alloc (.cells #[.slice A n cs, V] 32)).alloc (.cells #[.slice T0 tn tc, .slice T1 un uc, .slice T2 yn yc, .int .i64 xa, .int .i64 xu, .int .i64 xo] 40)).alloc (.cells #[.slice S m c] 52)).alloc (.cells #[.slice none 0 0, .slice none 0 0, .slice none 0 0, .int .i64 0, .int .i64 0, .int .i64 0] 40)).cell? ⟨w.heap.size, 1, none⟩ = some (V) := by rw [← hW]; exact rS.cell 1
 have k0 : ((((w.alloc (.cells #[.slice A n cs, V] 32)).alloc (.cells #[.slice T0 tn tc, .slice T1 un uc, .slice T2 yn yc, .int .i64 xa, .int .i64 xu, .int .i64 xo] 40)).alloc (.cells #[.slice S m c] 52)).alloc (.cells #[.slice none 0 0, .slice none 0 0, .slice none 0 0, .int .i64 0, .int .i64 0, .int .i64 0] 40)).cell? ⟨w.heap.size + 1, 0, none⟩ = some (.slice T0 tn tc) := by rw [← hW]; exact rP.cell 0
 have k1 : ((((w.alloc (.cells #[.slice A n cs, V] 32)).alloc (.cells #[.slice T0 tn tc, .slice T1 un uc, .slice T2 yn yc, .int .i64 xa, .int .i64 xu, .int .i64 xo] 40)).alloc (.cells #[.slice S m c] 52)).alloc (.cells #[.slice none 0 0, .slice none 0 0, .slice none 0 0, .int .i64 0, .int .i64 0, .int .i64 0] 40)).cell? ⟨w.heap.size + 1, 1, none⟩ = some (.slice T1 un uc) := by rw [← hW]; exact rP.cell 1
 have k2 : ((((w.alloc (.cells #[.slice A n cs, V] 32)).alloc (.cells #[.slice T0 tn tc, .slice T1 un uc, .slice T2 yn yc, .int .i64 xa, .int .i64 xu, .int .i64 xo] 40)).alloc (.cells #[.slice S m c] 52)).alloc (.cells #[.slice none 0 0, .slice none 0 0, .slice none 0 0, .int .i64 0, .int .i64 0, .int .i64 0] 40)).cell? ⟨w.heap.size + 1, 2, none⟩ = some (.slice T2 yn yc) := by rw [← hW]; exact rP.cell 2
 have k3 : ((((w.alloc (.cells #[.slice A n cs, V] 32)).alloc (.cells #[.slice T0 tn tc, .slice T1 un uc, .slice T2 yn yc, .int .i64 xa, .int .i64 xu, .int .i64 xo] 40)).alloc (.cells #[.slice S m c] 52)).alloc (.cells #[.slice none 0 0, .slice none 0 0, .slice none 0 0, .int .i64 0, .int .i64 0, .int .i64 0] 40)).cell? ⟨w.heap.size + 1, 3, none⟩ = some (.int .i64 xa) := by rw [← hW]; exact rP.cell 3
 have k4 : ((((w.alloc (.cells #[.slice A n cs, V] 32)).alloc (.cells #[.slice T0 tn tc, .slice T1 un uc, .slice T2 yn yc, .int .i64 xa, .int .i64 xu, .int .i64 xo] 40)).alloc (.cells #[.slice S m c] 52)).alloc (.cells #[.slice none 0 0, .slice none 0 0, .slice none 0 0, .int .i64 0, .int .i64 0, .int .i64 0] 40)).cell? ⟨w.heap.size + 1, 4, none⟩ = some (.int .i64 xu) := by rw [← hW]; exact rP.cell 4
 have k5 : ((((w.alloc (.cells #[.slice A n cs, V] 32)).alloc (.cells #[.slice T0 tn tc, .slice T1 un uc, .slice T2 yn yc, .int .i64 xa, .int .i64 xu, .int .i64 xo] 40)).alloc (.cells #[.slice S m c] 52)).alloc (.cells #[.slice none 0 0, .slice none 0 0, .slice none 0 0, .int .i64 0, .int .i64 0, .int .i64 0] 40)).cell? ⟨w.heap.size + 1, 5, none⟩ = some (.int .i64 xo) := by rw [← hW]; exact rP.cell 5
 have e0 : ((((w.alloc (.cells #[.slice A n cs, V] 32)).alloc (.cells #[.slice T0 tn tc, .slice T1 un uc, .slice T2 yn yc, .int .i64 xa, .int .i64 xu, .int .i64 xo] 40)).alloc (.cells #[.slice S m c] 52)).alloc (.cells #[.slice none 0 0, .slice none 0 0, .slice none 0 0, .int .i64 0, .int .i64 0, .int .i64 0] 40)).cell? ⟨w.heap.size + 1 + 1, 0, none⟩ = some (.slice S m c) := by rw [← hW]; exact rU.cell 0
 clear hW
 go_enter Tryz.func31, Tryz.ntmps31
 go_wp2_with fail
 rw [← HW.out]
 refine LO.out.mono ?_
 rintro e w1 ⟨rfl, bb⟩
 replace rS := rS.next bb
 replace rP := rP.next bb
 replace rU := rU.next bb
 replace rZ := rZ.next bb
 replace bel := next_trans bel bb
 clear bb LO
 cases bp with
 | false =>
  clear a0 a1 k0 k1 k2 k3 k4 k5 e0 LF0 LF1 LF2
  have y0 : w1.cell? ⟨w.heap.size + 1 + 1 + 1, 0, none⟩ = some (.slice none 0 0) := rZ.cell 0
  have g0 := rZ.free 0
  have rr0 := rZ.put 0 (.slice none 0 0)
  have y1 : (w1.setCell ⟨w.heap.size + 1 + 1 + 1, 0, none⟩ (.slice none 0 0)).cell? ⟨w.heap.size + 1 + 1 + 1, 1, none⟩ = some (.slice none 0 0) := rr0.cell 1
  have g1 := rr0.free 1
  have rr1 := rr0.put 1 (.slice none 0 0)
  have y2 : ((w1.setCell ⟨w.heap.size + 1 + 1 + 1, 0, none⟩ (.slice none 0 0)).setCell ⟨w.heap.size + 1 + 1 + 1, 1, none⟩ (.slice none 0 0)).cell? ⟨w.heap.size + 1 + 1 + 1, 2, none⟩ = some (.slice none 0 0) := rr1.cell 2
  have g2 := rr1.free 2
  have rr2 := rr1.put 2 (.slice none 0 0)
  have y3 : (((w1.setCell ⟨w.heap.size + 1 + 1 + 1, 0, none⟩ (.slice none 0 0)).setCell ⟨w.heap.size + 1 + 1 + 1, 1, none⟩ (.slice none 0 0)).setCell ⟨w.heap.size + 1 + 1 + 1, 2, none⟩ (.slice none 0 0)).cell? ⟨w.heap.size + 1 + 1 + 1, 3, none⟩ = some (.int .i64 0) := rr2.cell 3
  have g3 := rr2.free 3
  have rr3 := rr2.put 3 (.int .i64 0)
  have y4 : ((((w1.setCell ⟨w.heap.size + 1 + 1 + 1, 0, none⟩ (.slice none 0 0)).setCell ⟨w.heap.size + 1 + 1 + 1, 1, none⟩ (.slice none 0 0)).setCell ⟨w.heap.size + 1 + 1 + 1, 2, none⟩ (.slice none 0 0)).setCell ⟨w.heap.size + 1 + 1 + 1, 3, none⟩ (.int .i64 0)).cell? ⟨w.heap.size + 1 + 1 + 1, 4, none⟩ = some (.int .i64 0) := rr3.cell 4
  have g4 := rr3.free 4
  have rr4 := rr3.put 4 (.int .i64 0)
  have y5 : (((((w1.setCell ⟨w.heap.size + 1 + 1 + 1, 0, none⟩ (.slice none 0 0)).setCell ⟨w.heap.size + 1 + 1 + 1, 1, none⟩ (.slice none 0 0)).setCell ⟨w.heap.size + 1 + 1 + 1, 2, none⟩ (.slice none 0 0)).setCell ⟨w.heap.size + 1 + 1 + 1, 3, none⟩ (.int .i64 0)).setCell ⟨w.heap.size + 1 + 1 + 1, 4, none⟩ (.int .i64 0)).cell? ⟨w.heap.size + 1 + 1 + 1, 5, none⟩ = some (.int .i64 0) := rr4.cell 5
  have g5 := rr4.free 5
  have rr5 := rr4.put 5 (.int .i64 0)
  have u0 : ((((((w1.setCell ⟨w.heap.size + 1 + 1 + 1, 0, none⟩ (.slice none 0 0)).setCell ⟨w.heap.size + 1 + 1 + 1, 1, none⟩ (.slice none 0 0)).setCell ⟨w.heap.size + 1 + 1 + 1, 2, none⟩ (.slice none 0 0)).setCell ⟨w.heap.size + 1 + 1 + 1, 3, none⟩ (.int .i64 0)).setCell ⟨w.heap.size + 1 + 1 + 1, 4, none⟩ (.int .i64 0)).setCell ⟨w.heap.size + 1 + 1 + 1, 5, none⟩ (.int .i64 0)).cell? ⟨w.heap.size + 1 + 1 + 1, 0, none⟩ = some (.slice none 0 0) := rr5.cell 0
  have u1 : ((((((w1.setCell ⟨w.heap.size + 1 + 1 + 1, 0, none⟩ (.slice none 0 0)).setCell ⟨w.heap.size + 1 + 1 + 1, 1, none⟩ (.slice none 0 0)).setCell ⟨w.heap.size + 1 + 1 + 1, 2, none⟩ (.slice none 0 0)).setCell ⟨w.heap.size + 1 + 1 + 1, 3, none⟩ (.int .i64 0)).setCell ⟨w.heap.size + 1 + 1 + 1, 4, none⟩ (.int .i64 0)).setCell ⟨w.heap.size + 1 + 1 + 1, 5, none⟩ (.int .i64 0)).cell? ⟨w.heap.size + 1 + 1 + 1, 1, none⟩ = some (.slice none 0 0) := rr5.cell 1
  have u2 : ((((((w1.setCell ⟨w.heap.size + 1 + 1 + 1, 0, none⟩ (.slice none 0 0)).setCell ⟨w.heap.size + 1 + 1 + 1, 1, none⟩ (.slice none 0 0)).setCell ⟨w.heap.size + 1 + 1 + 1, 2, none⟩ (.slice none 0 0)).setCell ⟨w.heap.size + 1 + 1 + 1, 3, none⟩ (.int .i64 0)).setCell ⟨w.heap.size + 1 + 1 + 1, 4, none⟩ (.int .i64 0)).setCell ⟨w.heap.size + 1 + 1 + 1, 5, none⟩ (.int .i64 0)).cell? ⟨w.heap.size + 1 + 1 + 1, 2, none⟩ = some (.slice none 0 0) := rr5.cell 2
  have u3 : ((((((w1.setCell ⟨w.heap.size + 1 + 1 + 1, 0, none⟩ (.slice none 0 0)).setCell ⟨w.heap.size + 1 + 1 + 1, 1, none⟩ (.slice none 0 0)).setCell ⟨w.heap.size + 1 + 1 + 1, 2, none⟩ (.slice none 0 0)).setCell ⟨w.heap.size + 1 + 1 + 1, 3, none⟩ (.int .i64 0)).setCell ⟨w.heap.size + 1 + 1 + 1, 4, none⟩ (.int .i64 0)).setCell ⟨w.heap.size + 1 + 1 + 1, 5, none⟩ (.int .i64 0)).cell? ⟨w.heap.size + 1 + 1 + 1, 3, none⟩ = some (.int .i64 0) := rr5.cell 3
  have u4 : ((((((w1.setCell ⟨w.heap.size + 1 + 1 + 1, 0, none⟩ (.slice none 0 0)).setCell ⟨w.heap.size + 1 + 1 + 1, 1, none⟩ (.slice none 0 0)).setCell ⟨w.heap.size + 1 + 1 + 1, 2, none⟩ (.slice none 0 0)).setCell ⟨w.heap.size + 1 + 1 + 1, 3, none⟩ (.int .i64 0)).setCell ⟨w.heap.size + 1 + 1 + 1, 4, none⟩ (.int .i64 0)).setCell ⟨w.heap.size + 1 + 1 + 1, 5, none⟩ (.int .i64 0)).cell? ⟨w.heap.size + 1 + 1 + 1, 4, none⟩ = some (.int .i64 0) := rr5.cell 4
  have u5 : ((((((w1.setCell ⟨w.heap.size + 1 + 1 + 1, 0, none⟩ (.slice none 0 0)).setCell ⟨w.heap.size + 1 + 1 + 1, 1, none⟩ (.slice none 0 0)).setCell ⟨w.heap.size + 1 + 1 + 1, 2, none⟩ (.slice none 0 0)).setCell ⟨w.heap.size + 1 + 1 + 1, 3, none⟩ (.int .i64 0)).setCell ⟨w.heap.size + 1 + 1 + 1, 4, none⟩ (.int .i64 0)).setCell ⟨w.heap.size + 1 + 1 + 1, 5, none⟩ (.int .i64 0)).cell? ⟨w.heap.size + 1 + 1 + 1, 5, none⟩ = some (.int .i64 0) := rr5.cell 5
  have FZ : AnsPeak w (underP d.1 d.2 (t0, t1, t2, xa, xu, xo) ss) (underB d.1 d.2 (t0, t1, t2, xa, xu, xo) ss) (.returned (.tuple #[.agg #[.slice none 0 0, .slice none 0 0, .slice none 0 0, .int .i64 0, .int .i64 0, .int .i64 0], .bool false])) ((((((w1.setCell ⟨w.heap.size + 1 + 1 + 1, 0, none⟩ (.slice none 0 0)).setCell ⟨w.heap.size + 1 + 1 + 1, 1, none⟩ (.slice none 0 0)).setCell ⟨w.heap.size + 1 + 1 + 1, 2, none⟩ (.slice none 0 0)).setCell ⟨w.heap.size + 1 + 1 + 1, 3, none⟩ (.int .i64 0)).setCell ⟨w.heap.size + 1 + 1 + 1, 4, none⟩ (.int .i64 0)).setCell ⟨w.heap.size + 1 + 1 + 1, 5, none⟩ (.int .i64 0)) := ansPeak_no (under_off (under_no0 HBP.out)) (Below.setCell (Below.setCell (Below.setCell (Below.setCell (Below.setCell (Below.setCell bel (show w.heap.size ≤ w.heap.size + 1 + 1 + 1 by omega) _) (show w.heap.size ≤ w.heap.size + 1 + 1 + 1 by omega) _) (show w.heap.size ≤ w.heap.size + 1 + 1 + 1 by omega) _) (show w.heap.size ≤ w.heap.size + 1 + 1 + 1 by omega) _) (show w.heap.size ≤ w.heap.size + 1 + 1 + 1 by omega) _) (show w.heap.size ≤ w.heap.size + 1 + 1 + 1 by omega) _)
  have HFZ := hid FZ
  clear FZ rr0 rr1 rr2 rr3 rr4 rr5 rS rP rU rZ bel
  go_wp2
  exact bodyPost_ret (v := .tuple #[.agg #[.slice none 0 0, .slice none 0 0, .slice none 0 0, .int .i64 0, .int .i64 0, .int .i64 0], .bool false]) (by simp [results, Tryz.results31, go_sem, u0, u1, u2, u3, u4, u5]) rfl HFZ.out
 | true =>
  have zz : w.heap.size + 1 + 1 + 1 < w1.heap.size := rZ.lt
  clear a0 a1 k0 k1 k2 k3 k4 k5 e0
  have a0 : w1.cell? ⟨w.heap.size, 0, none⟩ = some (.slice A n cs) := rS.cell 0
  have a1 : w1.cell? ⟨w.heap.size, 1, none⟩ = some (V) := rS.cell 1
  have k0 : w1.cell? ⟨w.heap.size + 1, 0, none⟩ = some (.slice T0 tn tc) := rP.cell 0
  have k1 : w1.cell? ⟨w.heap.size + 1, 1, none⟩ = some (.slice T1 un uc) := rP.cell 1
  have k2 : w1.cell? ⟨w.heap.size + 1, 2, none⟩ = some (.slice T2 yn yc) := rP.cell 2
  have k3 : w1.cell? ⟨w.heap.size + 1, 3, none⟩ = some (.int .i64 xa) := rP.cell 3
  have k4 : w1.cell? ⟨w.heap.size + 1, 4, none⟩ = some (.int .i64 xu) := rP.cell 4
  have k5 : w1.cell? ⟨w.heap.size + 1, 5, none⟩ = some (.int .i64 xo) := rP.cell 5
  have e0 : w1.cell? ⟨w.heap.size + 1 + 1, 0, none⟩ = some (.slice S m c) := rU.cell 0
  go_wp2_with fail
  refine (LF0.out w1 bel).mono ?_
  rintro e w2 ⟨X0, x0, z0, rfl, o0, bb⟩
  have q0 := ow_ints.2 (Ownd.of_own o0)
  clear o0 LF0
  replace rS := rS.next bb
  replace rP := rP.next bb
  replace rU := rU.next bb
  replace rZ := rZ.next bb
  replace bel := next_trans bel bb
  have y0 := bb.size
  clear bb
  obtain ⟨f0, hf0⟩ : ∃ z, filledB d.1 ss t0 = z := ⟨_, rfl⟩
  have HF0 := hid hf0
  rw [hf0]
  clear hf0
  clear a0 a1 k0 k1 k2 k3 k4 k5 e0
  have a0 : w2.cell? ⟨w.heap.size, 0, none⟩ = some (.slice A n cs) := rS.cell 0
  have a1 : w2.cell? ⟨w.heap.size, 1, none⟩ = some (V) := rS.cell 1
  have k0 : w2.cell? ⟨w.heap.size + 1, 0, none⟩ = some (.slice T0 tn tc) := rP.cell 0
  have k1 : w2.cell? ⟨w.heap.size + 1, 1, none⟩ = some (.slice T1 un uc) := rP.cell 1
  have k2 : w2.cell? ⟨w.heap.size + 1, 2, none⟩ = some (.slice T2 yn yc) := rP.cell 2
  have k3 : w2.cell? ⟨w.heap.size + 1, 3, none⟩ = some (.int .i64 xa) := rP.cell 3
  have k4 : w2.cell? ⟨w.heap.size + 1, 4, none⟩ = some (.int .i64 xu) := rP.cell 4
  have k5 : w2.cell? ⟨w.heap.size + 1, 5, none⟩ = some (.int .i64 xo) := rP.cell 5
  have e0 : w2.cell? ⟨w.heap.size + 1 + 1, 0, none⟩ = some (.slice S m c) := rU.cell 0
  go_wp2_with fail
  refine (LF1.out w2 bel).mono ?_
  rintro e w3 ⟨X1, x1, z1, rfl, o1, bb⟩
  have q1 := ow_ints.2 (Ownd.of_own o1)
  clear o1 LF1
  replace q0 := q0.next bb
  replace rS := rS.next bb
  replace rP := rP.next bb
  replace rU := rU.next bb
  replace rZ := rZ.next bb
  replace bel := next_trans bel bb
  have y1 := bb.size
  clear bb
  obtain ⟨f1, hf1⟩ : ∃ z, filledB d.1 ss t1 = z := ⟨_, rfl⟩
  have HF1 := hid hf1
  rw [hf1]
  clear hf1
  clear a0 a1 k0 k1 k2 k3 k4 k5 e0
  have a0 : w3.cell? ⟨w.heap.size, 0, none⟩ = some (.slice A n cs) := rS.cell 0
  have a1 : w3.cell? ⟨w.heap.size, 1, none⟩ = some (V) := rS.cell 1
  have k0 : w3.cell? ⟨w.heap.size + 1, 0, none⟩ = some (.slice T0 tn tc) := rP.cell 0
  have k1 : w3.cell? ⟨w.heap.size + 1, 1, none⟩ = some (.slice T1 un uc) := rP.cell 1
  have k2 : w3.cell? ⟨w.heap.size + 1, 2, none⟩ = some (.slice T2 yn yc) := rP.cell 2
  have k3 : w3.cell? ⟨w.heap.size + 1, 3, none⟩ = some (.int .i64 xa) := rP.cell 3
  have k4 : w3.cell? ⟨w.heap.size + 1, 4, none⟩ = some (.int .i64 xu) := rP.cell 4
  have k5 : w3.cell? ⟨w.heap.size + 1, 5, none⟩ = some (.int .i64 xo) := rP.cell 5
  have e0 : w3.cell? ⟨w.heap.size + 1 + 1, 0, none⟩ = some (.slice S m c) := rU.cell 0
  go_wp2_with fail
  refine (LF2.out w3 bel).mono ?_
  rintro e w4 ⟨X2, x2, z2, rfl, o2, bb⟩
  have q2 := ow_ints.2 (Ownd.of_own o2)
  clear o2 LF2
  replace q0 := q0.next bb
  replace q1 := q1.next bb
  replace rS := rS.next bb
  replace rP := rP.next bb
  replace rU := rU.next bb
  replace rZ := rZ.next bb
  replace bel := next_trans bel bb
  have y2 := bb.size
  clear bb
  obtain ⟨f2, hf2⟩ : ∃ z, filledB d.1 ss t2 = z := ⟨_, rfl⟩
  have HF2 := hid hf2
  rw [hf2]
  clear hf2
  clear a0 a1 k0 k1 k2 k3 k4 k5 e0
  have a0 : w4.cell? ⟨w.heap.size, 0, none⟩ = some (.slice A n cs) := rS.cell 0
  have a1 : w4.cell? ⟨w.heap.size, 1, none⟩ = some (V) := rS.cell 1
  have k0 : w4.cell? ⟨w.heap.size + 1, 0, none⟩ = some (.slice T0 tn tc) := rP.cell 0
  have k1 : w4.cell? ⟨w.heap.size + 1, 1, none⟩ = some (.slice T1 un uc) := rP.cell 1
  have k2 : w4.cell? ⟨w.heap.size + 1, 2, none⟩ = some (.slice T2 yn yc) := rP.cell 2
  have k3 : w4.cell? ⟨w.heap.size + 1, 3, none⟩ = some (.int .i64 xa) := rP.cell 3
  have k4 : w4.cell? ⟨w.heap.size + 1, 4, none⟩ = some (.int .i64 xu) := rP.cell 4
  have k5 : w4.cell? ⟨w.heap.size + 1, 5, none⟩ = some (.int .i64 xo) := rP.cell 5
  have e0 : w4.cell? ⟨w.heap.size + 1 + 1, 0, none⟩ = some (.slice S m c) := rU.cell 0
  cases f0 with
  | false =>
   clear a0 a1 k0 k1 k2 k3 k4 k5 e0 q0 q1 q2
   have y0 : w4.cell? ⟨w.heap.size + 1 + 1 + 1, 0, none⟩ = some (.slice none 0 0) := rZ.cell 0
   have g0 := rZ.free 0
   have rr0 := rZ.put 0 (.slice none 0 0)
   have y1 : (w4.setCell ⟨w.heap.size + 1 + 1 + 1, 0, none⟩ (.slice none 0 0)).cell? ⟨w.heap.size + 1 + 1 + 1, 1, none⟩ = some (.slice none 0 0) := rr0.cell 1
   have g1 := rr0.free 1
   have rr1 := rr0.put 1 (.slice none 0 0)
   have y2 : ((w4.setCell ⟨w.heap.size + 1 + 1 + 1, 0, none⟩ (.slice none 0 0)).setCell ⟨w.heap.size + 1 + 1 + 1, 1, none⟩ (.slice none 0 0)).cell? ⟨w.heap.size + 1 + 1 + 1, 2, none⟩ = some (.slice none 0 0) := rr1.cell 2
   have g2 := rr1.free 2
   have rr2 := rr1.put 2 (.slice none 0 0)
   have y3 : (((w4.setCell ⟨w.heap.size + 1 + 1 + 1, 0, none⟩ (.slice none 0 0)).setCell ⟨w.heap.size + 1 + 1 + 1, 1, none⟩ (.slice none 0 0)).setCell ⟨w.heap.size + 1 + 1 + 1, 2, none⟩ (.slice none 0 0)).cell? ⟨w.heap.size + 1 + 1 + 1, 3, none⟩ = some (.int .i64 0) := rr2.cell 3
   have g3 := rr2.free 3
   have rr3 := rr2.put 3 (.int .i64 0)
   have y4 : ((((w4.setCell ⟨w.heap.size + 1 + 1 + 1, 0, none⟩ (.slice none 0 0)).setCell ⟨w.heap.size + 1 + 1 + 1, 1, none⟩ (.slice none 0 0)).setCell ⟨w.heap.size + 1 + 1 + 1, 2, none⟩ (.slice none 0 0)).setCell ⟨w.heap.size + 1 + 1 + 1, 3, none⟩ (.int .i64 0)).cell? ⟨w.heap.size + 1 + 1 + 1, 4, none⟩ = some (.int .i64 0) := rr3.cell 4
   have g4 := rr3.free 4
   have rr4 := rr3.put 4 (.int .i64 0)
   have y5 : (((((w4.setCell ⟨w.heap.size + 1 + 1 + 1, 0, none⟩ (.slice none 0 0)).setCell ⟨w.heap.size + 1 + 1 + 1, 1, none⟩ (.slice none 0 0)).setCell ⟨w.heap.size + 1 + 1 + 1, 2, none⟩ (.slice none 0 0)).setCell ⟨w.heap.size + 1 + 1 + 1, 3, none⟩ (.int .i64 0)).setCell ⟨w.heap.size + 1 + 1 + 1, 4, none⟩ (.int .i64 0)).cell? ⟨w.heap.size + 1 + 1 + 1, 5, none⟩ = some (.int .i64 0) := rr4.cell 5
   have g5 := rr4.free 5
   have rr5 := rr4.put 5 (.int .i64 0)
   have u0 : ((((((w4.setCell ⟨w.heap.size + 1 + 1 + 1, 0, none⟩ (.slice none 0 0)).setCell ⟨w.heap.size + 1 + 1 + 1, 1, none⟩ (.slice none 0 0)).setCell ⟨w.heap.size + 1 + 1 + 1, 2, none⟩ (.slice none 0 0)).setCell ⟨w.heap.size + 1 + 1 + 1, 3, none⟩ (.int .i64 0)).setCell ⟨w.heap.size + 1 + 1 + 1, 4, none⟩ (.int .i64 0)).setCell ⟨w.heap.size + 1 + 1 + 1, 5, none⟩ (.int .i64 0)).cell? ⟨w.heap.size + 1 + 1 + 1, 0, none⟩ = some (.slice none 0 0) := rr5.cell 0
   have u1 : ((((((w4.setCell ⟨w.heap.size + 1 + 1 + 1, 0, none⟩ (.slice none 0 0)).setCell ⟨w.heap.size + 1 + 1 + 1, 1, none⟩ (.slice none 0 0)).setCell ⟨w.heap.size + 1 + 1 + 1, 2, none⟩ (.slice none 0 0)).setCell ⟨w.heap.size + 1 + 1 + 1, 3, none⟩ (.int .i64 0)).setCell ⟨w.heap.size + 1 + 1 + 1, 4, none⟩ (.int .i64 0)).setCell ⟨w.heap.size + 1 + 1 + 1, 5, none⟩ (.int .i64 0)).cell? ⟨w.heap.size + 1 + 1 + 1, 1, none⟩ = some (.slice none 0 0) := rr5.cell 1
   have u2 : ((((((w4.setCell ⟨w.heap.size + 1 + 1 + 1, 0, none⟩ (.slice none 0 0)).setCell ⟨w.heap.size + 1 + 1 + 1, 1, none⟩ (.slice none 0 0)).setCell ⟨w.heap.size + 1 + 1 + 1, 2, none⟩ (.slice none 0 0)).setCell ⟨w.heap.size + 1 + 1 + 1, 3, none⟩ (.int .i64 0)).setCell ⟨w.heap.size + 1 + 1 + 1, 4, none⟩ (.int .i64 0)).setCell ⟨w.heap.size + 1 + 1 + 1, 5, none⟩ (.int .i64 0)).cell? ⟨w.heap.size + 1 + 1 + 1, 2, none⟩ = some (.slice none 0 0) := rr5.cell 2
   have u3 : ((((((w4.setCell ⟨w.heap.size + 1 + 1 + 1, 0, none⟩ (.slice none 0 0)).setCell ⟨w.heap.size + 1 + 1 + 1, 1, none⟩ (.slice none 0 0)).setCell ⟨w.heap.size + 1 + 1 + 1, 2, none⟩ (.slice none 0 0)).setCell ⟨w.heap.size + 1 + 1 + 1, 3, none⟩ (.int .i64 0)).setCell ⟨w.heap.size + 1 + 1 + 1, 4, none⟩ (.int .i64 0)).setCell ⟨w.heap.size + 1 + 1 + 1, 5, none⟩ (.int .i64 0)).cell? ⟨w.heap.size + 1 + 1 + 1, 3, none⟩ = some (.int .i64 0) := rr5.cell 3
   have u4 : ((((((w4.setCell ⟨w.heap.size + 1 + 1 + 1, 0, none⟩ (.slice none 0 0)).setCell ⟨w.heap.size + 1 + 1 + 1, 1, none⟩ (.slice none 0 0)).setCell ⟨w.heap.size + 1 + 1 + 1, 2, none⟩ (.slice none 0 0)).setCell ⟨w.heap.size + 1 + 1 + 1, 3, none⟩ (.int .i64 0)).setCell ⟨w.heap.size + 1 + 1 + 1, 4, none⟩ (.int .i64 0)).setCell ⟨w.heap.size + 1 + 1 + 1, 5, none⟩ (.int .i64 0)).cell? ⟨w.heap.size + 1 + 1 + 1, 4, none⟩ = some (.int .i64 0) := rr5.cell 4
   have u5 : ((((((w4.setCell ⟨w.heap.size + 1 + 1 + 1, 0, none⟩ (.slice none 0 0)).setCell ⟨w.heap.size + 1 + 1 + 1, 1, none⟩ (.slice none 0 0)).setCell ⟨w.heap.size + 1 + 1 + 1, 2, none⟩ (.slice none 0 0)).setCell ⟨w.heap.size + 1 + 1 + 1, 3, none⟩ (.int .i64 0)).setCell ⟨w.heap.size + 1 + 1 + 1, 4, none⟩ (.int .i64 0)).setCell ⟨w.heap.size + 1 + 1 + 1, 5, none⟩ (.int .i64 0)).cell? ⟨w.heap.size + 1 + 1 + 1, 5, none⟩ = some (.int .i64 0) := rr5.cell 5
   have FZ : AnsPeak w (underP d.1 d.2 (t0, t1, t2, xa, xu, xo) ss) (underB d.1 d.2 (t0, t1, t2, xa, xu, xo) ss) (.returned (.tuple #[.agg #[.slice none 0 0, .slice none 0 0, .slice none 0 0, .int .i64 0, .int .i64 0, .int .i64 0], .bool false])) ((((((w4.setCell ⟨w.heap.size + 1 + 1 + 1, 0, none⟩ (.slice none 0 0)).setCell ⟨w.heap.size + 1 + 1 + 1, 1, none⟩ (.slice none 0 0)).setCell ⟨w.heap.size + 1 + 1 + 1, 2, none⟩ (.slice none 0 0)).setCell ⟨w.heap.size + 1 + 1 + 1, 3, none⟩ (.int .i64 0)).setCell ⟨w.heap.size + 1 + 1 + 1, 4, none⟩ (.int .i64 0)).setCell ⟨w.heap.size + 1 + 1 + 1, 5, none⟩ (.int .i64 0)) := ansPeak_no (under_off (under_no1 HF0.out)) (Below.setCell (Below.setCell (Below.setCell (Below.setCell (Below.setCell (Below.setCell bel (show w.heap.size ≤ w.heap.size + 1 + 1 + 1 by omega) _) (show w.heap.size ≤ w.heap.size + 1 + 1 + 1 by omega) _) (show w.heap.size ≤ w.heap.size + 1 + 1 + 1 by omega) _) (show w.heap.size ≤ w.heap.size + 1 + 1 + 1 by omega) _) (show w.heap.size ≤ w.heap.size + 1 + 1 + 1 by omega) _) (show w.heap.size ≤ w.heap.size + 1 + 1 + 1 by omega) _)
   have HFZ := hid FZ
   clear FZ rr0 rr1 rr2 rr3 rr4 rr5 rS rP rU rZ bel
   go_wp2
   exact bodyPost_ret (v := .tuple #[.agg #[.slice none 0 0, .slice none 0 0, .slice none 0 0, .int .i64 0, .int .i64 0, .int .i64 0], .bool false]) (by simp [results, Tryz.results31, go_sem, u0, u1, u2, u3, u4, u5]) rfl HFZ.out
  | true =>
   cases f1 with
   | false =>
    clear a0 a1 k0 k1 k2 k3 k4 k5 e0 q0 q1 q2
    have y0 : w4.cell? ⟨w.heap.size + 1 + 1 + 1, 0, none⟩ = some (.slice none 0 0) := rZ.cell 0
    have g0 := rZ.free 0
    have rr0 := rZ.put 0 (.slice none 0 0)
    have y1 : (w4.setCell ⟨w.heap.size + 1 + 1 + 1, 0, none⟩ (.slice none 0 0)).cell? ⟨w.heap.size + 1 + 1 + 1, 1, none⟩ = some (.slice none 0 0) := rr0.cell 1
    have g1 := rr0.free 1
    have rr1 := rr0.put 1 (.slice none 0 0)
    have y2 : ((w4.setCell ⟨w.heap.size + 1 + 1 + 1, 0, none⟩ (.slice none 0 0)).setCell ⟨w.heap.size + 1 + 1 + 1, 1, none⟩ (.slice none 0 0)).cell? ⟨w.heap.size + 1 + 1 + 1, 2, none⟩ = some (.slice none 0 0) := rr1.cell 2
    have g2 := rr1.free 2
    have rr2 := rr1.put 2 (.slice none 0 0)
    have y3 : (((w4.setCell ⟨w.heap.size + 1 + 1 + 1, 0, none⟩ (.slice none 0 0)).setCell ⟨w.heap.size + 1 + 1 + 1, 1, none⟩ (.slice none 0 0)).setCell ⟨w.heap.size + 1 + 1 + 1, 2, none⟩ (.slice none 0 0)).cell? ⟨w.heap.size + 1 + 1 + 1, 3, none⟩ = some (.int .i64 0) := rr2.cell 3
    have g3 := rr2.free 3
    have rr3 := rr2.put 3 (.int .i64 0)
    have y4 : ((((w4.setCell ⟨w.heap.size + 1 + 1 + 1, 0, none⟩ (.slice none 0 0)).setCell ⟨w.heap.size + 1 + 1 + 1, 1, none⟩ (.slice none 0 0)).setCell ⟨w.heap.size + 1 + 1 + 1, 2, none⟩ (.slice none 0 0)).setCell ⟨w.heap.size + 1 + 1 + 1, 3, none⟩ (.int .i64 0)).cell? ⟨w.heap.size + 1 + 1 + 1, 4, none⟩ = some (.int .i64 0) := rr3.cell 4
    have g4 := rr3.free 4
    have rr4 := rr3.put 4 (.int .i64 0)
    have y5 : (((((w4.setCell ⟨w.heap.size + 1 + 1 + 1, 0, none⟩ (.slice none 0 0)).setCell ⟨w.heap.size + 1 + 1 + 1, 1, none⟩ (.slice none 0 0)).setCell ⟨w.heap.size + 1 + 1 + 1, 2, none⟩ (.slice none 0 0)).setCell ⟨w.heap.size + 1 + 1 + 1, 3, none⟩ (.int .i64 0)).setCell ⟨w.heap.size + 1 + 1 + 1, 4, none⟩ (.int .i64 0)).cell? ⟨w.heap.size + 1 + 1 + 1, 5, none⟩ = some (.int .i64 0) := rr4.cell 5
    have g5 := rr4.free 5
    have rr5 := rr4.put 5 (.int .i64 0)
    have u0 : ((((((w4.setCell ⟨w.heap.size + 1 + 1 + 1, 0, none⟩ (.slice none 0 0)).setCell ⟨w.heap.size + 1 + 1 + 1, 1, none⟩ (.slice none 0 0)).setCell ⟨w.heap.size + 1 + 1 + 1, 2, none⟩ (.slice none 0 0)).setCell ⟨w.heap.size + 1 + 1 + 1, 3, none⟩ (.int .i64 0)).setCell ⟨w.heap.size + 1 + 1 + 1, 4, none⟩ (.int .i64 0)).setCell ⟨w.heap.size + 1 + 1 + 1, 5, none⟩ (.int .i64 0)).cell? ⟨w.heap.size + 1 + 1 + 1, 0, none⟩ = some (.slice none 0 0) := rr5.cell 0
    have u1 : ((((((w4.setCell ⟨w.heap.size + 1 + 1 + 1, 0, none⟩ (.slice none 0 0)).setCell ⟨w.heap.size + 1 + 1 + 1, 1, none⟩ (.slice none 0 0)).setCell ⟨w.heap.size + 1 + 1 + 1, 2, none⟩ (.slice none 0 0)).setCell ⟨w.heap.size + 1 + 1 + 1, 3, none⟩ (.int .i64 0)).setCell ⟨w.heap.size + 1 + 1 + 1, 4, none⟩ (.int .i64 0)).setCell ⟨w.heap.size + 1 + 1 + 1, 5, none⟩ (.int .i64 0)).cell? ⟨w.heap.size + 1 + 1 + 1, 1, none⟩ = some (.slice none 0 0) := rr5.cell 1
    have u2 : ((((((w4.setCell ⟨w.heap.size + 1 + 1 + 1, 0, none⟩ (.slice none 0 0)).setCell ⟨w.heap.size + 1 + 1 + 1, 1, none⟩ (.slice none 0 0)).setCell ⟨w.heap.size + 1 + 1 + 1, 2, none⟩ (.slice none 0 0)).setCell ⟨w.heap.size + 1 + 1 + 1, 3, none⟩ (.int .i64 0)).setCell ⟨w.heap.size + 1 + 1 + 1, 4, none⟩ (.int .i64 0)).setCell ⟨w.heap.size + 1 + 1 + 1, 5, none⟩ (.int .i64 0)).cell? ⟨w.heap.size + 1 + 1 + 1, 2, none⟩ = some (.slice none 0 0) := rr5.cell 2
    have u3 : ((((((w4.setCell ⟨w.heap.size + 1 + 1 + 1, 0, none⟩ (.slice none 0 0)).setCell ⟨w.heap.size + 1 + 1 + 1, 1, none⟩ (.slice none 0 0)).setCell ⟨w.heap.size + 1 + 1 + 1, 2, none⟩ (.slice none 0 0)).setCell ⟨w.heap.size + 1 + 1 + 1, 3, none⟩ (.int .i64 0)).setCell ⟨w.heap.size + 1 + 1 + 1, 4, none⟩ (.int .i64 0)).setCell ⟨w.heap.size + 1 + 1 + 1, 5, none⟩ (.int .i64 0)).cell? ⟨w.heap.size + 1 + 1 + 1, 3, none⟩ = some (.int .i64 0) := rr5.cell 3
    have u4 : ((((((w4.setCell ⟨w.heap.size + 1 + 1 + 1, 0, none⟩ (.slice none 0 0)).setCell ⟨w.heap.size + 1 + 1 + 1, 1, none⟩ (.slice none 0 0)).setCell ⟨w.heap.size + 1 + 1 + 1, 2, none⟩ (.slice none 0 0)).setCell ⟨w.heap.size + 1 + 1 + 1, 3, none⟩ (.int .i64 0)).setCell ⟨w.heap.size + 1 + 1 + 1, 4, none⟩ (.int .i64 0)).setCell ⟨w.heap.size + 1 + 1 + 1, 5, none⟩ (.int .i64 0)).cell? ⟨w.heap.size + 1 + 1 + 1, 4, none⟩ = some (.int .i64 0) := rr5.cell 4
    have u5 : ((((((w4.setCell ⟨w.heap.size + 1 + 1 + 1, 0, none⟩ (.slice none 0 0)).setCell ⟨w.heap.size + 1 + 1 + 1, 1, none⟩ (.slice none 0 0)).setCell ⟨w.heap.size + 1 + 1 + 1, 2, none⟩ (.slice none 0 0)).setCell ⟨w.heap.size + 1 + 1 + 1, 3, none⟩ (.int .i64 0)).setCell ⟨w.heap.size + 1 + 1 + 1, 4, none⟩ (.int .i64 0)).setCell ⟨w.heap.size + 1 + 1 + 1, 5, none⟩ (.int .i64 0)).cell? ⟨w.heap.size + 1 + 1 + 1, 5, none⟩ = some (.int .i64 0) := rr5.cell 5
    have FZ : AnsPeak w (underP d.1 d.2 (t0, t1, t2, xa, xu, xo) ss) (underB d.1 d.2 (t0, t1, t2, xa, xu, xo) ss) (.returned (.tuple #[.agg #[.slice none 0 0, .slice none 0 0, .slice none 0 0, .int .i64 0, .int .i64 0, .int .i64 0], .bool false])) ((((((w4.setCell ⟨w.heap.size + 1 + 1 + 1, 0, none⟩ (.slice none 0 0)).setCell ⟨w.heap.size + 1 + 1 + 1, 1, none⟩ (.slice none 0 0)).setCell ⟨w.heap.size + 1 + 1 + 1, 2, none⟩ (.slice none 0 0)).setCell ⟨w.heap.size + 1 + 1 + 1, 3, none⟩ (.int .i64 0)).setCell ⟨w.heap.size + 1 + 1 + 1, 4, none⟩ (.int .i64 0)).setCell ⟨w.heap.size + 1 + 1 + 1, 5, none⟩ (.int .i64 0)) := ansPeak_no (under_off (under_no2 HF1.out)) (Below.setCell (Below.setCell (Below.setCell (Below.setCell (Below.setCell (Below.setCell bel (show w.heap.size ≤ w.heap.size + 1 + 1 + 1 by omega) _) (show w.heap.size ≤ w.heap.size + 1 + 1 + 1 by omega) _) (show w.heap.size ≤ w.heap.size + 1 + 1 + 1 by omega) _) (show w.heap.size ≤ w.heap.size + 1 + 1 + 1 by omega) _) (show w.heap.size ≤ w.heap.size + 1 + 1 + 1 by omega) _) (show w.heap.size ≤ w.heap.size + 1 + 1 + 1 by omega) _)
    have HFZ := hid FZ
    clear FZ rr0 rr1 rr2 rr3 rr4 rr5 rS rP rU rZ bel
    go_wp2
    exact bodyPost_ret (v := .tuple #[.agg #[.slice none 0 0, .slice none 0 0, .slice none 0 0, .int .i64 0, .int .i64 0, .int .i64 0], .bool false]) (by simp [results, Tryz.results31, go_sem, u0, u1, u2, u3, u4, u5]) rfl HFZ.out
   | true =>
    cases f2 with
    | false =>
     clear a0 a1 k0 k1 k2 k3 k4 k5 e0 q0 q1 q2
     have y0 : w4.cell? ⟨w.heap.size + 1 + 1 + 1, 0, none⟩ = some (.slice none 0 0) := rZ.cell 0
     have g0 := rZ.free 0
     have rr0 := rZ.put 0 (.slice none 0 0)
     have y1 : (w4.setCell ⟨w.heap.size + 1 + 1 + 1, 0, none⟩ (.slice none 0 0)).cell? ⟨w.heap.size + 1 + 1 + 1, 1, none⟩ = some (.slice none 0 0) := rr0.cell 1
     have g1 := rr0.free 1
     have rr1 := rr0.put 1 (.slice none 0 0)
     have y2 : ((w4.setCell ⟨w.heap.size + 1 + 1 + 1, 0, none⟩ (.slice none 0 0)).setCell ⟨w.heap.size + 1 + 1 + 1, 1, none⟩ (.slice none 0 0)).cell? ⟨w.heap.size + 1 + 1 + 1, 2, none⟩ = some (.slice none 0 0) := rr1.cell 2
     have g2 := rr1.free 2
     have rr2 := rr1.put 2 (.slice none 0 0)
     have y3 : (((w4.setCell ⟨w.heap.size + 1 + 1 + 1, 0, none⟩ (.slice none 0 0)).setCell ⟨w.heap.size + 1 + 1 + 1, 1, none⟩ (.slice none 0 0)).setCell ⟨w.heap.size + 1 + 1 + 1, 2, none⟩ (.slice none 0 0)).cell? ⟨w.heap.size + 1 + 1 + 1, 3, none⟩ = some (.int .i64 0) := rr2.cell 3
     have g3 := rr2.free 3
     have rr3 := rr2.put 3 (.int .i64 0)
     have y4 : ((((w4.setCell ⟨w.heap.size + 1 + 1 + 1, 0, none⟩ (.slice none 0 0)).setCell ⟨w.heap.size + 1 + 1 + 1, 1, none⟩ (.slice none 0 0)).setCell ⟨w.heap.size + 1 + 1 + 1, 2, none⟩ (.slice none 0 0)).setCell ⟨w.heap.size + 1 + 1 + 1, 3, none⟩ (.int .i64 0)).cell? ⟨w.heap.size + 1 + 1 + 1, 4, none⟩ = some (.int .i64 0) := rr3.cell 4
     have g4 := rr3.free 4
     have rr4 := rr3.put 4 (.int .i64 0)
     have y5 : (((((w4.setCell ⟨w.heap.size + 1 + 1 + 1, 0, none⟩ (.slice none 0 0)).setCell ⟨w.heap.size + 1 + 1 + 1, 1, none⟩ (.slice none 0 0)).setCell ⟨w.heap.size + 1 + 1 + 1, 2, none⟩ (.slice none 0 0)).setCell ⟨w.heap.size + 1 + 1 + 1, 3, none⟩ (.int .i64 0)).setCell ⟨w.heap.size + 1 + 1 + 1, 4, none⟩ (.int .i64 0)).cell? ⟨w.heap.size + 1 + 1 + 1, 5, none⟩ = some (.int .i64 0) := rr4.cell 5
     have g5 := rr4.free 5
     have rr5 := rr4.put 5 (.int .i64 0)
     have u0 : ((((((w4.setCell ⟨w.heap.size + 1 + 1 + 1, 0, none⟩ (.slice none 0 0)).setCell ⟨w.heap.size + 1 + 1 + 1, 1, none⟩ (.slice none 0 0)).setCell ⟨w.heap.size + 1 + 1 + 1, 2, none⟩ (.slice none 0 0)).setCell ⟨w.heap.size + 1 + 1 + 1, 3, none⟩ (.int .i64 0)).setCell ⟨w.heap.size + 1 + 1 + 1, 4, none⟩ (.int .i64 0)).setCell ⟨w.heap.size + 1 + 1 + 1, 5, none⟩ (.int .i64 0)).cell? ⟨w.heap.size + 1 + 1 + 1, 0, none⟩ = some (.slice none 0 0) := rr5.cell 0
     have u1 : ((((((w4.setCell ⟨w.heap.size + 1 + 1 + 1, 0, none⟩ (.slice none 0 0)).setCell ⟨w.heap.size + 1 + 1 + 1, 1, none⟩ (.slice none 0 0)).setCell ⟨w.heap.size + 1 + 1 + 1, 2, none⟩ (.slice none 0 0)).setCell ⟨w.heap.size + 1 + 1 + 1, 3, none⟩ (.int .i64 0)).setCell ⟨w.heap.size + 1 + 1 + 1, 4, none⟩ (.int .i64 0)).setCell ⟨w.heap.size + 1 + 1 + 1, 5, none⟩ (.int .i64 0)).cell? ⟨w.heap.size + 1 + 1 + 1, 1, none⟩ = some (.slice none 0 0) := rr5.cell 1
     have u2 : ((((((w4.setCell ⟨w.heap.size + 1 + 1 + 1, 0, none⟩ (.slice none 0 0)).setCell ⟨w.heap.size + 1 + 1 + 1, 1, none⟩ (.slice none 0 0)).setCell ⟨w.heap.size + 1 + 1 + 1, 2, none⟩ (.slice none 0 0)).setCell ⟨w.heap.size + 1 + 1 + 1, 3, none⟩ (.int .i64 0)).setCell ⟨w.heap.size + 1 + 1 + 1, 4, none⟩ (.int .i64 0)).setCell ⟨w.heap.size + 1 + 1 + 1, 5, none⟩ (.int .i64 0)).cell? ⟨w.heap.size + 1 + 1 + 1, 2, none⟩ = some (.slice none 0 0) := rr5.cell 2
     have u3 : ((((((w4.setCell ⟨w.heap.size + 1 + 1 + 1, 0, none⟩ (.slice none 0 0)).setCell ⟨w.heap.size + 1 + 1 + 1, 1, none⟩ (.slice none 0 0)).setCell ⟨w.heap.size + 1 + 1 + 1, 2, none⟩ (.slice none 0 0)).setCell ⟨w.heap.size + 1 + 1 + 1, 3, none⟩ (.int .i64 0)).setCell ⟨w.heap.size + 1 + 1 + 1, 4, none⟩ (.int .i64 0)).setCell ⟨w.heap.size + 1 + 1 + 1, 5, none⟩ (.int .i64 0)).cell? ⟨w.heap.size + 1 + 1 + 1, 3, none⟩ = some (.int .i64 0) := rr5.cell 3
     have u4 : ((((((w4.setCell ⟨w.heap.size + 1 + 1 + 1, 0, none⟩ (.slice none 0 0)).setCell ⟨w.heap.size + 1 + 1 + 1, 1, none⟩ (.slice none 0 0)).setCell ⟨w.heap.size + 1 + 1 + 1, 2, none⟩ (.slice none 0 0)).setCell ⟨w.heap.size + 1 + 1 + 1, 3, none⟩ (.int .i64 0)).setCell ⟨w.heap.size + 1 + 1 + 1, 4, none⟩ (.int .i64 0)).setCell ⟨w.heap.size + 1 + 1 + 1, 5, none⟩ (.int .i64 0)).cell? ⟨w.heap.size + 1 + 1 + 1, 4, none⟩ = some (.int .i64 0) := rr5.cell 4
     have u5 : ((((((w4.setCell ⟨w.heap.size + 1 + 1 + 1, 0, none⟩ (.slice none 0 0)).setCell ⟨w.heap.size + 1 + 1 + 1, 1, none⟩ (.slice none 0 0)).setCell ⟨w.heap.size + 1 + 1 + 1, 2, none⟩ (.slice none 0 0)).setCell ⟨w.heap.size + 1 + 1 + 1, 3, none⟩ (.int .i64 0)).setCell ⟨w.heap.size + 1 + 1 + 1, 4, none⟩ (.int .i64 0)).setCell ⟨w.heap.size + 1 + 1 + 1, 5, none⟩ (.int .i64 0)).cell? ⟨w.heap.size + 1 + 1 + 1, 5, none⟩ = some (.int .i64 0) := rr5.cell 5
     have FZ : AnsPeak w (underP d.1 d.2 (t0, t1, t2, xa, xu, xo) ss) (underB d.1 d.2 (t0, t1, t2, xa, xu, xo) ss) (.returned (.tuple #[.agg #[.slice none 0 0, .slice none 0 0, .slice none 0 0, .int .i64 0, .int .i64 0, .int .i64 0], .bool false])) ((((((w4.setCell ⟨w.heap.size + 1 + 1 + 1, 0, none⟩ (.slice none 0 0)).setCell ⟨w.heap.size + 1 + 1 + 1, 1, none⟩ (.slice none 0 0)).setCell ⟨w.heap.size + 1 + 1 + 1, 2, none⟩ (.slice none 0 0)).setCell ⟨w.heap.size + 1 + 1 + 1, 3, none⟩ (.int .i64 0)).setCell ⟨w.heap.size + 1 + 1 + 1, 4, none⟩ (.int .i64 0)).setCell ⟨w.heap.size + 1 + 1 + 1, 5, none⟩ (.int .i64 0)) := ansPeak_no (under_off (under_no3 HF2.out)) (Below.setCell (Below.setCell (Below.setCell (Below.setCell (Below.setCell (Below.setCell bel (show w.heap.size ≤ w.heap.size + 1 + 1 + 1 by omega) _) (show w.heap.size ≤ w.heap.size + 1 + 1 + 1 by omega) _) (show w.heap.size ≤ w.heap.size + 1 + 1 + 1 by omega) _) (show w.heap.size ≤ w.heap.size + 1 + 1 + 1 by omega) _) (show w.heap.size ≤ w.heap.size + 1 + 1 + 1 by omega) _) (show w.heap.size ≤ w.heap.size + 1 + 1 + 1 by omega) _)
     have HFZ := hid FZ
     clear FZ rr0 rr1 rr2 rr3 rr4 rr5 rS rP rU rZ bel
     go_wp2
     exact bodyPost_ret (v := .tuple #[.agg #[.slice none 0 0, .slice none 0 0, .slice none 0 0, .int .i64 0, .int .i64 0, .int .i64 0], .bool false]) (by simp [results, Tryz.results31, go_sem, u0, u1, u2, u3, u4, u5]) rfl HFZ.out
    | true =>
     have HU := hid (under_yes (ss := ss) (p := (t0, t1, t2, xa, xu, xo)) HBP.out HF0.out HF1.out HF2.out)
     clear a0 a1 k0 k1 k2 e0
     have p0 := (Owned.put (g := w.heap.size + 1 + 1 + 1) (i := 5) (u := .int .i64 xo) (Owned.put (g := w.heap.size + 1 + 1 + 1) (i := 4) (u := .int .i64 xu) (Owned.put (g := w.heap.size + 1 + 1 + 1) (i := 3) (u := .int .i64 xa) (Owned.put (g := w.heap.size + 1 + 1 + 1) (i := 2) (u := .slice X2 x2 z2) (Owned.put (g := w.heap.size + 1 + 1 + 1) (i := 1) (u := .slice X1 x1 z1) (Owned.put (g := w.heap.size + 1 + 1 + 1) (i := 0) (u := .slice X0 x0 z0) q0 (by omega)) (by omega)) (by omega)) (by omega)) (by omega)) (by omega))
     have p1 := (Owned.put (g := w.heap.size + 1 + 1 + 1) (i := 5) (u := .int .i64 xo) (Owned.put (g := w.heap.size + 1 + 1 + 1) (i := 4) (u := .int .i64 xu) (Owned.put (g := w.heap.size + 1 + 1 + 1) (i := 3) (u := .int .i64 xa) (Owned.put (g := w.heap.size + 1 + 1 + 1) (i := 2) (u := .slice X2 x2 z2) (Owned.put (g := w.heap.size + 1 + 1 + 1) (i := 1) (u := .slice X1 x1 z1) (Owned.put (g := w.heap.size + 1 + 1 + 1) (i := 0) (u := .slice X0 x0 z0) q1 (by omega)) (by omega)) (by omega)) (by omega)) (by omega)) (by omega))
     have p2 := (Owned.put (g := w.heap.size + 1 + 1 + 1) (i := 5) (u := .int .i64 xo) (Owned.put (g := w.heap.size + 1 + 1 + 1) (i := 4) (u := .int .i64 xu) (Owned.put (g := w.heap.size + 1 + 1 + 1) (i := 3) (u := .int .i64 xa) (Owned.put (g := w.heap.size + 1 + 1 + 1) (i := 2) (u := .slice X2 x2 z2) (Owned.put (g := w.heap.size + 1 + 1 + 1) (i := 1) (u := .slice X1 x1 z1) (Owned.put (g := w.heap.size + 1 + 1 + 1) (i := 0) (u := .slice X0 x0 z0) q2 (by omega)) (by omega)) (by omega)) (by omega)) (by omega)) (by omega))
     clear q0 q1 q2
     have v0 : w4.cell? ⟨w.heap.size + 1 + 1 + 1, 0, none⟩ = some (.slice none 0 0) := rZ.cell 0
     have g0 := rZ.free 0
     have rr0 := rZ.put 0 (.slice X0 x0 z0)
     have v1 : (w4.setCell ⟨w.heap.size + 1 + 1 + 1, 0, none⟩ (.slice X0 x0 z0)).cell? ⟨w.heap.size + 1 + 1 + 1, 1, none⟩ = some (.slice none 0 0) := rr0.cell 1
     have g1 := rr0.free 1
     have rr1 := rr0.put 1 (.slice X1 x1 z1)
     have v2 : ((w4.setCell ⟨w.heap.size + 1 + 1 + 1, 0, none⟩ (.slice X0 x0 z0)).setCell ⟨w.heap.size + 1 + 1 + 1, 1, none⟩ (.slice X1 x1 z1)).cell? ⟨w.heap.size + 1 + 1 + 1, 2, none⟩ = some (.slice none 0 0) := rr1.cell 2
     have g2 := rr1.free 2
     have rr2 := rr1.put 2 (.slice X2 x2 z2)
     have v3 : (((w4.setCell ⟨w.heap.size + 1 + 1 + 1, 0, none⟩ (.slice X0 x0 z0)).setCell ⟨w.heap.size + 1 + 1 + 1, 1, none⟩ (.slice X1 x1 z1)).setCell ⟨w.heap.size + 1 + 1 + 1, 2, none⟩ (.slice X2 x2 z2)).cell? ⟨w.heap.size + 1 + 1 + 1, 3, none⟩ = some (.int .i64 0) := rr2.cell 3
     have g3 := rr2.free 3
     have rr3 := rr2.put 3 (.int .i64 xa)
     have v4 : ((((w4.setCell ⟨w.heap.size + 1 + 1 + 1, 0, none⟩ (.slice X0 x0 z0)).setCell ⟨w.heap.size + 1 + 1 + 1, 1, none⟩ (.slice X1 x1 z1)).setCell ⟨w.heap.size + 1 + 1 + 1, 2, none⟩ (.slice X2 x2 z2)).setCell ⟨w.heap.size + 1 + 1 + 1, 3, none⟩ (.int .i64 xa)).cell? ⟨w.heap.size + 1 + 1 + 1, 4, none⟩ = some (.int .i64 0) := rr3.cell 4
     have g4 := rr3.free 4
     have rr4 := rr3.put 4 (.int .i64 xu)
     have v5 : (((((w4.setCell ⟨w.heap.size + 1 + 1 + 1, 0, none⟩ (.slice X0 x0 z0)).setCell ⟨w.heap.size + 1 + 1 + 1, 1, none⟩ (.slice X1 x1 z1)).setCell ⟨w.heap.size + 1 + 1 + 1, 2, none⟩ (.slice X2 x2 z2)).setCell ⟨w.heap.size + 1 + 1 + 1, 3, none⟩ (.int .i64 xa)).setCell ⟨w.heap.size + 1 + 1 + 1, 4, none⟩ (.int .i64 xu)).cell? ⟨w.heap.size + 1 + 1 + 1, 5, none⟩ = some (.int .i64 0) := rr4.cell 5
     have g5 := rr4.free 5
     have rr5 := rr4.put 5 (.int .i64 xo)
     have u0 : ((((((w4.setCell ⟨w.heap.size + 1 + 1 + 1, 0, none⟩ (.slice X0 x0 z0)).setCell ⟨w.heap.size + 1 + 1 + 1, 1, none⟩ (.slice X1 x1 z1)).setCell ⟨w.heap.size + 1 + 1 + 1, 2, none⟩ (.slice X2 x2 z2)).setCell ⟨w.heap.size + 1 + 1 + 1, 3, none⟩ (.int .i64 xa)).setCell ⟨w.heap.size + 1 + 1 + 1, 4, none⟩ (.int .i64 xu)).setCell ⟨w.heap.size + 1 + 1 + 1, 5, none⟩ (.int .i64 xo)).cell? ⟨w.heap.size + 1 + 1 + 1, 0, none⟩ = some (.slice X0 x0 z0) := rr5.cell 0
     have u1 : ((((((w4.setCell ⟨w.heap.size + 1 + 1 + 1, 0, none⟩ (.slice X0 x0 z0)).setCell ⟨w.heap.size + 1 + 1 + 1, 1, none⟩ (.slice X1 x1 z1)).setCell ⟨w.heap.size + 1 + 1 + 1, 2, none⟩ (.slice X2 x2 z2)).setCell ⟨w.heap.size + 1 + 1 + 1, 3, none⟩ (.int .i64 xa)).setCell ⟨w.heap.size + 1 + 1 + 1, 4, none⟩ (.int .i64 xu)).setCell ⟨w.heap.size + 1 + 1 + 1, 5, none⟩ (.int .i64 xo)).cell? ⟨w.heap.size + 1 + 1 + 1, 1, none⟩ = some (.slice X1 x1 z1) := rr5.cell 1
     have u2 : ((((((w4.setCell ⟨w.heap.size + 1 + 1 + 1, 0, none⟩ (.slice X0 x0 z0)).setCell ⟨w.heap.size + 1 + 1 + 1, 1, none⟩ (.slice X1 x1 z1)).setCell ⟨w.heap.size + 1 + 1 + 1, 2, none⟩ (.slice X2 x2 z2)).setCell ⟨w.heap.size + 1 + 1 + 1, 3, none⟩ (.int .i64 xa)).setCell ⟨w.heap.size + 1 + 1 + 1, 4, none⟩ (.int .i64 xu)).setCell ⟨w.heap.size + 1 + 1 + 1, 5, none⟩ (.int .i64 xo)).cell? ⟨w.heap.size + 1 + 1 + 1, 2, none⟩ = some (.slice X2 x2 z2) := rr5.cell 2
     have u3 : ((((((w4.setCell ⟨w.heap.size + 1 + 1 + 1, 0, none⟩ (.slice X0 x0 z0)).setCell ⟨w.heap.size + 1 + 1 + 1, 1, none⟩ (.slice X1 x1 z1)).setCell ⟨w.heap.size + 1 + 1 + 1, 2, none⟩ (.slice X2 x2 z2)).setCell ⟨w.heap.size + 1 + 1 + 1, 3, none⟩ (.int .i64 xa)).setCell ⟨w.heap.size + 1 + 1 + 1, 4, none⟩ (.int .i64 xu)).setCell ⟨w.heap.size + 1 + 1 + 1, 5, none⟩ (.int .i64 xo)).cell? ⟨w.heap.size + 1 + 1 + 1, 3, none⟩ = some (.int .i64 xa) := rr5.cell 3
     have u4 : ((((((w4.setCell ⟨w.heap.size + 1 + 1 + 1, 0, none⟩ (.slice X0 x0 z0)).setCell ⟨w.heap.size + 1 + 1 + 1, 1, none⟩ (.slice X1 x1 z1)).setCell ⟨w.heap.size + 1 + 1 + 1, 2, none⟩ (.slice X2 x2 z2)).setCell ⟨w.heap.size + 1 + 1 + 1, 3, none⟩ (.int .i64 xa)).setCell ⟨w.heap.size + 1 + 1 + 1, 4, none⟩ (.int .i64 xu)).setCell ⟨w.heap.size + 1 + 1 + 1, 5, none⟩ (.int .i64 xo)).cell? ⟨w.heap.size + 1 + 1 + 1, 4, none⟩ = some (.int .i64 xu) := rr5.cell 4
     have u5 : ((((((w4.setCell ⟨w.heap.size + 1 + 1 + 1, 0, none⟩ (.slice X0 x0 z0)).setCell ⟨w.heap.size + 1 + 1 + 1, 1, none⟩ (.slice X1 x1 z1)).setCell ⟨w.heap.size + 1 + 1 + 1, 2, none⟩ (.slice X2 x2 z2)).setCell ⟨w.heap.size + 1 + 1 + 1, 3, none⟩ (.int .i64 xa)).setCell ⟨w.heap.size + 1 + 1 + 1, 4, none⟩ (.int .i64 xu)).setCell ⟨w.heap.size + 1 + 1 + 1, 5, none⟩ (.int .i64 xo)).cell? ⟨w.heap.size + 1 + 1 + 1, 5, none⟩ = some (.int .i64 xo) := rr5.cell 5
     have FZ : AnsPeak w (underP d.1 d.2 (t0, t1, t2, xa, xu, xo) ss) (underB d.1 d.2 (t0, t1, t2, xa, xu, xo) ss) (.returned (.tuple #[.agg #[.slice X0 x0 z0, .slice X1 x1 z1, .slice X2 x2 z2, .int .i64 xa, .int .i64 xu, .int .i64 xo], .bool true])) ((((((w4.setCell ⟨w.heap.size + 1 + 1 + 1, 0, none⟩ (.slice X0 x0 z0)).setCell ⟨w.heap.size + 1 + 1 + 1, 1, none⟩ (.slice X1 x1 z1)).setCell ⟨w.heap.size + 1 + 1 + 1, 2, none⟩ (.slice X2 x2 z2)).setCell ⟨w.heap.size + 1 + 1 + 1, 3, none⟩ (.int .i64 xa)).setCell ⟨w.heap.size + 1 + 1 + 1, 4, none⟩ (.int .i64 xu)).setCell ⟨w.heap.size + 1 + 1 + 1, 5, none⟩ (.int .i64 xo)) := ansPeak_yes HU.out p0 p1 p2 y0 y1 y2 (by omega) (by simp) (Below.setCell (Below.setCell (Below.setCell (Below.setCell (Below.setCell (Below.setCell bel (show w.heap.size ≤ w.heap.size + 1 + 1 + 1 by omega) _) (show w.heap.size ≤ w.heap.size + 1 + 1 + 1 by omega) _) (show w.heap.size ≤ w.heap.size + 1 + 1 + 1 by omega) _) (show w.heap.size ≤ w.heap.size + 1 + 1 + 1 by omega) _) (show w.heap.size ≤ w.heap.size + 1 + 1 + 1 by omega) _) (show w.heap.size ≤ w.heap.size + 1 + 1 + 1 by omega) _)
     have HFZ := hid FZ
     clear FZ rr0 rr1 rr2 rr3 rr4 rr5 rS rP rU rZ bel p0 p1 p2
     go_wp2
     exact bodyPost_ret (v := .tuple #[.agg #[.slice X0 x0 z0, .slice X1 x1 z1, .slice X2 x2 z2, .int .i64 xa, .int .i64 xu, .int .i64 xo], .bool true]) (by simp [results, Tryz.results31, go_sem, u0, u1, u2, u3, u4, u5]) rfl HFZ.out
theorem specPeakUnder (a v v0 v1 v2 u : Value) (d : Dat sSystem) (p : Dat sPeak) (ss : Dat sSubst) (w : World) (h : Rd w w.heap.size sSystem [a, v] d) (h' : Rd w w.heap.size sPeak [v0, v1, v2, .int .i64 p.2.2.2.1, .int .i64 p.2.2.2.2.1, .int .i64 p.2.2.2.2.2] p) (h2 : Rd w w.heap.size sSubst [u] ss) (hz : sz sSystem d ≤ 1048576) (hz' : sz sPeak p ≤ 1048576) (hz2 : sz sSubst ss ≤ 1048576) :
  Calls Tryz.prog 31 #[.agg #[a, v], .agg #[v0, v1, v2, .int .i64 p.2.2.2.1, .int .i64 p.2.2.2.2.1, .int .i64 p.2.2.2.2.2], .agg #[u]] w (AnsPeak w (underP d.1 d.2 p ss) (underB d.1 d.2 p ss)) := by
 obtain ⟨A, n, cs, V, q, cv, rfl, rfl, hs, -, -, -, hn, -⟩ := rd_sys h hz
 obtain ⟨T0, tn, tc, T1, un, uc, T2, yn, yc, rfl, rfl, rfl, s0, s1, s2, b0, b1, b2⟩ := rd_peak h' hz'
 obtain ⟨S, m, c, rfl, hS, htot, -⟩ := rd_subst h2 hz2
 exact specUnderC A T0 T1 T2 S _ n cs tn tc un uc yn yc m c d p.1 p.2.1 p.2.2.1 _ _ _ ss w h h' hs hS s0 s1 s2 hz hz' hn htot b0 b1 b2
set_option maxHeartbeats 4000000 in
theorem implUnderC (A T0 T1 T2 S : Option Addr) (V : Value) (n cs tn tc un uc yn yc m c : Nat) (d : Dat sSystem) (t0 t1 t2 : List Int) (xa xu xo : Int) (ss : Dat sSubst) (w : World) (h : Rd w w.heap.size sSystem [.slice A n cs, V] d) (h' : Rd w w.heap.size sPeak [.slice T0 tn tc, .slice T1 un uc, .slice T2 yn yc, .int .i64 xa, .int .i64 xu, .int .i64 xo] (t0, t1, t2, xa, xu, xo)) (hA : Seg w w.heap.size A n d.1) (hS : Segs w w.heap.size S m ss) (s0 : Seg w w.heap.size T0 tn t0) (s1 : Seg w w.heap.size T1 un t1) (s2 : Seg w w.heap.size T2 yn t2) (hz : sz sSystem d ≤ 1048576) (hz' : sz sPeak ((t0, t1, t2, xa, xu, xo) : Dat sPeak) ≤ 1048576) (hn : n ≤ 1048576) (ht : tot ss ≤ 1048576) (b0 : tn ≤ 1048576) (b1 : un ≤ 1048576) (b2 : yn ≤ 1048576) :
  Calls Tryz.prog 27 #[.agg #[.slice A n cs, V], .agg #[.slice T0 tn tc, .slice T1 un uc, .slice T2 yn yc, .int .i64 xa, .int .i64 xu, .int .i64 xo], .agg #[.slice S m c]] w (AnsPeak w (underP d.1 d.2 (t0, t1, t2, xa, xu, xo) ss) (underB d.1 d.2 (t0, t1, t2, xa, xu, xo) ss)) := by
 obtain ⟨W, hW, rS, rP, rU, rZ, bel⟩ := box4 w 32 40 52 40 #[.slice A n cs, V] #[.slice T0 tn tc, .slice T1 un uc, .slice T2 yn yc, .int .i64 xa, .int .i64 xu, .int .i64 xo] #[.slice S m c] #[.slice none 0 0, .slice none 0 0, .slice none 0 0, .int .i64 0, .int .i64 0, .int .i64 0]
 have HW := hid hW
 have LO := hid (implPeakOk (.slice A n cs) V (.slice T0 tn tc) (.slice T1 un uc) (.slice T2 yn yc) d (t0, t1, t2, xa, xu, xo) W (h.next bel) (h'.next bel) hz hz')
 have LF0 := hid (fun (w1 : World) (bb : Below w.heap.size w w1) => filled.implFilled A S T0 n cs m c tn tc d.1 ss t0 w1 (hA.next bb) (hS.next bb) (s0.next bb) hn ht b0)
 have LF1 := hid (fun (w1 : World) (bb : Below w.heap.size w w1) => filled.implFilled A S T1 n cs m c un uc d.1 ss t1 w1 (hA.next bb) (hS.next bb) (s1.next bb) hn ht b1)
 have LF2 := hid (fun (w1 : World) (bb : Below w.heap.size w w1) => filled.implFilled A S T2 n cs m c yn yc d.1 ss t2 w1 (hA.next bb) (hS.next bb) (s2.next bb) hn ht b2)
 obtain ⟨bp, hbp⟩ : ∃ z, peakB d.1 d.2 (t0, t1, t2, xa, xu, xo) = z := ⟨_, rfl⟩
 have HBP := hid hbp
 rw [show peakB d.1 d.2 ((t0, t1, t2, xa, xu, xo) : Pk) = bp from hbp] at LO
 clear h h' hA hS s0 s1 s2 hz hz' hbp
 have a0 : ((((w.alloc (.cells #[.slice A n cs, V] 32)).alloc (.cells #[.slice T0 tn tc, .slice T1 un uc, .slice T2 yn yc, .int .i64 xa, .int .i64 xu, .int .i64 xo] 40)).alloc (.cells #[.slice S m c] 52)).alloc (.cells #[.slice none 0 0, .slice none 0 0, .slice none 0 0, .int .i64 0, .int .i64 0, .int .i64 0] 40)).cell? ⟨w.heap.size, 0, none⟩ = some (.slice A n cs) := by rw [← hW]; exact rS.cell 0
 have a1 : ((((w.alloc (.cells #[.slice A n cs, V] 32)).alloc (.cells #[.slice T0 tn tc, .slice T1 un uc, .slice T2 yn yc, .int .i64 xa, .int .i64 xu, .int .i64 xo] 40)).alloc (.cells #[.slice S m c] 52)).alloc (.cells #[.slice none 0 0, .slice none 0 0, .slice none 0 0, .int .i64 0, .int .i64 0, .int .i64 0] 40)).cell? ⟨w.heap.size, 1, none⟩ = some (V) := by rw [← hW]; exact rS.cell 1
 have k0 : ((((w.alloc (.cells #[.slice A n cs, V] 32)).alloc (.cells #[.slice T0 tn tc, .slice T1 un uc, .slice T2 yn yc, .int .i64 xa, .int .i64 xu, .int .i64 xo] 40)).alloc (.cells #[.slice S m c] 52)).alloc (.cells #[.slice none 0 0, .slice none 0 0, .slice none 0 0, .int .i64 0, .int .i64 0, .int .i64 0] 40)).cell? ⟨w.heap.size + 1, 0, none⟩ = some (.slice T0 tn tc) := by rw [← hW]; exact rP.cell 0
 have k1 : ((((w.alloc (.cells #[.slice A n cs, V] 32)).alloc (.cells #[.slice T0 tn tc, .slice T1 un uc, .slice T2 yn yc, .int .i64 xa, .int .i64 xu, .int .i64 xo] 40)).alloc (.cells #[.slice S m c] 52)).alloc (.cells #[.slice none 0 0, .slice none 0 0, .slice none 0 0, .int .i64 0, .int .i64 0, .int .i64 0] 40)).cell? ⟨w.heap.size + 1, 1, none⟩ = some (.slice T1 un uc) := by rw [← hW]; exact rP.cell 1
 have k2 : ((((w.alloc (.cells #[.slice A n cs, V] 32)).alloc (.cells #[.slice T0 tn tc, .slice T1 un uc, .slice T2 yn yc, .int .i64 xa, .int .i64 xu, .int .i64 xo] 40)).alloc (.cells #[.slice S m c] 52)).alloc (.cells #[.slice none 0 0, .slice none 0 0, .slice none 0 0, .int .i64 0, .int .i64 0, .int .i64 0] 40)).cell? ⟨w.heap.size + 1, 2, none⟩ = some (.slice T2 yn yc) := by rw [← hW]; exact rP.cell 2
 have k3 : ((((w.alloc (.cells #[.slice A n cs, V] 32)).alloc (.cells #[.slice T0 tn tc, .slice T1 un uc, .slice T2 yn yc, .int .i64 xa, .int .i64 xu, .int .i64 xo] 40)).alloc (.cells #[.slice S m c] 52)).alloc (.cells #[.slice none 0 0, .slice none 0 0, .slice none 0 0, .int .i64 0, .int .i64 0, .int .i64 0] 40)).cell? ⟨w.heap.size + 1, 3, none⟩ = some (.int .i64 xa) := by rw [← hW]; exact rP.cell 3
 have k4 : ((((w.alloc (.cells #[.slice A n cs, V] 32)).alloc (.cells #[.slice T0 tn tc, .slice T1 un uc, .slice T2 yn yc, .int .i64 xa, .int .i64 xu, .int .i64 xo] 40)).alloc (.cells #[.slice S m c] 52)).alloc (.cells #[.slice none 0 0, .slice none 0 0, .slice none 0 0, .int .i64 0, .int .i64 0, .int .i64 0] 40)).cell? ⟨w.heap.size + 1, 4, none⟩ = some (.int .i64 xu) := by rw [← hW]; exact rP.cell 4
 have k5 : ((((w.alloc (.cells #[.slice A n cs, V] 32)).alloc (.cells #[.slice T0 tn tc, .slice T1 un uc, .slice T2 yn yc, .int .i64 xa, .int .i64 xu, .int .i64 xo] 40)).alloc (.cells #[.slice S m c] 52)).alloc (.cells #[.slice none 0 0, .slice none 0 0, .slice none 0 0, .int .i64 0, .int .i64 0, .int .i64 0] 40)).cell? ⟨w.heap.size + 1, 5, none⟩ = some (.int .i64 xo) := by rw [← hW]; exact rP.cell 5
 have e0 : ((((w.alloc (.cells #[.slice A n cs, V] 32)).alloc (.cells #[.slice T0 tn tc, .slice T1 un uc, .slice T2 yn yc, .int .i64 xa, .int .i64 xu, .int .i64 xo] 40)).alloc (.cells #[.slice S m c] 52)).alloc (.cells #[.slice none 0 0, .slice none 0 0, .slice none 0 0, .int .i64 0, .int .i64 0, .int .i64 0] 40)).cell? ⟨w.heap.size + 1 + 1, 0, none⟩ = some (.slice S m c) := by rw [← hW]; exact rU.cell 0
 clear hW
 go_enter Tryz.func27, Tryz.ntmps27
 go_wp2_with fail
 rw [← HW.out]
 refine LO.out.mono ?_
 rintro e w1 ⟨rfl, bb⟩
 replace rS := rS.next bb
 replace rP := rP.next bb
 replace rU := rU.next bb
 replace rZ := rZ.next bb
 replace bel := next_trans bel bb
 clear bb LO
 cases bp with
 | false =>
  clear a0 a1 k0 k1 k2 k3 k4 k5 e0 LF0 LF1 LF2
  have y0 : w1.cell? ⟨w.heap.size + 1 + 1 + 1, 0, none⟩ = some (.slice none 0 0) := rZ.cell 0
  have g0 := rZ.free 0
  have rr0 := rZ.put 0 (.slice none 0 0)
  have y1 : (w1.setCell ⟨w.heap.size + 1 + 1 + 1, 0, none⟩ (.slice none 0 0)).cell? ⟨w.heap.size + 1 + 1 + 1, 1, none⟩ = some (.slice none 0 0) := rr0.cell 1
  have g1 := rr0.free 1
  have rr1 := rr0.put 1 (.slice none 0 0)
  have y2 : ((w1.setCell ⟨w.heap.size + 1 + 1 + 1, 0, none⟩ (.slice none 0 0)).setCell ⟨w.heap.size + 1 + 1 + 1, 1, none⟩ (.slice none 0 0)).cell? ⟨w.heap.size + 1 + 1 + 1, 2, none⟩ = some (.slice none 0 0) := rr1.cell 2
  have g2 := rr1.free 2
  have rr2 := rr1.put 2 (.slice none 0 0)
  have y3 : (((w1.setCell ⟨w.heap.size + 1 + 1 + 1, 0, none⟩ (.slice none 0 0)).setCell ⟨w.heap.size + 1 + 1 + 1, 1, none⟩ (.slice none 0 0)).setCell ⟨w.heap.size + 1 + 1 + 1, 2, none⟩ (.slice none 0 0)).cell? ⟨w.heap.size + 1 + 1 + 1, 3, none⟩ = some (.int .i64 0) := rr2.cell 3
  have g3 := rr2.free 3
  have rr3 := rr2.put 3 (.int .i64 0)
  have y4 : ((((w1.setCell ⟨w.heap.size + 1 + 1 + 1, 0, none⟩ (.slice none 0 0)).setCell ⟨w.heap.size + 1 + 1 + 1, 1, none⟩ (.slice none 0 0)).setCell ⟨w.heap.size + 1 + 1 + 1, 2, none⟩ (.slice none 0 0)).setCell ⟨w.heap.size + 1 + 1 + 1, 3, none⟩ (.int .i64 0)).cell? ⟨w.heap.size + 1 + 1 + 1, 4, none⟩ = some (.int .i64 0) := rr3.cell 4
  have g4 := rr3.free 4
  have rr4 := rr3.put 4 (.int .i64 0)
  have y5 : (((((w1.setCell ⟨w.heap.size + 1 + 1 + 1, 0, none⟩ (.slice none 0 0)).setCell ⟨w.heap.size + 1 + 1 + 1, 1, none⟩ (.slice none 0 0)).setCell ⟨w.heap.size + 1 + 1 + 1, 2, none⟩ (.slice none 0 0)).setCell ⟨w.heap.size + 1 + 1 + 1, 3, none⟩ (.int .i64 0)).setCell ⟨w.heap.size + 1 + 1 + 1, 4, none⟩ (.int .i64 0)).cell? ⟨w.heap.size + 1 + 1 + 1, 5, none⟩ = some (.int .i64 0) := rr4.cell 5
  have g5 := rr4.free 5
  have rr5 := rr4.put 5 (.int .i64 0)
  have u0 : ((((((w1.setCell ⟨w.heap.size + 1 + 1 + 1, 0, none⟩ (.slice none 0 0)).setCell ⟨w.heap.size + 1 + 1 + 1, 1, none⟩ (.slice none 0 0)).setCell ⟨w.heap.size + 1 + 1 + 1, 2, none⟩ (.slice none 0 0)).setCell ⟨w.heap.size + 1 + 1 + 1, 3, none⟩ (.int .i64 0)).setCell ⟨w.heap.size + 1 + 1 + 1, 4, none⟩ (.int .i64 0)).setCell ⟨w.heap.size + 1 + 1 + 1, 5, none⟩ (.int .i64 0)).cell? ⟨w.heap.size + 1 + 1 + 1, 0, none⟩ = some (.slice none 0 0) := rr5.cell 0
  have u1 : ((((((w1.setCell ⟨w.heap.size + 1 + 1 + 1, 0, none⟩ (.slice none 0 0)).setCell ⟨w.heap.size + 1 + 1 + 1, 1, none⟩ (.slice none 0 0)).setCell ⟨w.heap.size + 1 + 1 + 1, 2, none⟩ (.slice none 0 0)).setCell ⟨w.heap.size + 1 + 1 + 1, 3, none⟩ (.int .i64 0)).setCell ⟨w.heap.size + 1 + 1 + 1, 4, none⟩ (.int .i64 0)).setCell ⟨w.heap.size + 1 + 1 + 1, 5, none⟩ (.int .i64 0)).cell? ⟨w.heap.size + 1 + 1 + 1, 1, none⟩ = some (.slice none 0 0) := rr5.cell 1
  have u2 : ((((((w1.setCell ⟨w.heap.size + 1 + 1 + 1, 0, none⟩ (.slice none 0 0)).setCell ⟨w.heap.size + 1 + 1 + 1, 1, none⟩ (.slice none 0 0)).setCell ⟨w.heap.size + 1 + 1 + 1, 2, none⟩ (.slice none 0 0)).setCell ⟨w.heap.size + 1 + 1 + 1, 3, none⟩ (.int .i64 0)).setCell ⟨w.heap.size + 1 + 1 + 1, 4, none⟩ (.int .i64 0)).setCell ⟨w.heap.size + 1 + 1 + 1, 5, none⟩ (.int .i64 0)).cell? ⟨w.heap.size + 1 + 1 + 1, 2, none⟩ = some (.slice none 0 0) := rr5.cell 2
  have u3 : ((((((w1.setCell ⟨w.heap.size + 1 + 1 + 1, 0, none⟩ (.slice none 0 0)).setCell ⟨w.heap.size + 1 + 1 + 1, 1, none⟩ (.slice none 0 0)).setCell ⟨w.heap.size + 1 + 1 + 1, 2, none⟩ (.slice none 0 0)).setCell ⟨w.heap.size + 1 + 1 + 1, 3, none⟩ (.int .i64 0)).setCell ⟨w.heap.size + 1 + 1 + 1, 4, none⟩ (.int .i64 0)).setCell ⟨w.heap.size + 1 + 1 + 1, 5, none⟩ (.int .i64 0)).cell? ⟨w.heap.size + 1 + 1 + 1, 3, none⟩ = some (.int .i64 0) := rr5.cell 3
  have u4 : ((((((w1.setCell ⟨w.heap.size + 1 + 1 + 1, 0, none⟩ (.slice none 0 0)).setCell ⟨w.heap.size + 1 + 1 + 1, 1, none⟩ (.slice none 0 0)).setCell ⟨w.heap.size + 1 + 1 + 1, 2, none⟩ (.slice none 0 0)).setCell ⟨w.heap.size + 1 + 1 + 1, 3, none⟩ (.int .i64 0)).setCell ⟨w.heap.size + 1 + 1 + 1, 4, none⟩ (.int .i64 0)).setCell ⟨w.heap.size + 1 + 1 + 1, 5, none⟩ (.int .i64 0)).cell? ⟨w.heap.size + 1 + 1 + 1, 4, none⟩ = some (.int .i64 0) := rr5.cell 4
  have u5 : ((((((w1.setCell ⟨w.heap.size + 1 + 1 + 1, 0, none⟩ (.slice none 0 0)).setCell ⟨w.heap.size + 1 + 1 + 1, 1, none⟩ (.slice none 0 0)).setCell ⟨w.heap.size + 1 + 1 + 1, 2, none⟩ (.slice none 0 0)).setCell ⟨w.heap.size + 1 + 1 + 1, 3, none⟩ (.int .i64 0)).setCell ⟨w.heap.size + 1 + 1 + 1, 4, none⟩ (.int .i64 0)).setCell ⟨w.heap.size + 1 + 1 + 1, 5, none⟩ (.int .i64 0)).cell? ⟨w.heap.size + 1 + 1 + 1, 5, none⟩ = some (.int .i64 0) := rr5.cell 5
  have FZ : AnsPeak w (underP d.1 d.2 (t0, t1, t2, xa, xu, xo) ss) (underB d.1 d.2 (t0, t1, t2, xa, xu, xo) ss) (.returned (.tuple #[.agg #[.slice none 0 0, .slice none 0 0, .slice none 0 0, .int .i64 0, .int .i64 0, .int .i64 0], .bool false])) ((((((w1.setCell ⟨w.heap.size + 1 + 1 + 1, 0, none⟩ (.slice none 0 0)).setCell ⟨w.heap.size + 1 + 1 + 1, 1, none⟩ (.slice none 0 0)).setCell ⟨w.heap.size + 1 + 1 + 1, 2, none⟩ (.slice none 0 0)).setCell ⟨w.heap.size + 1 + 1 + 1, 3, none⟩ (.int .i64 0)).setCell ⟨w.heap.size + 1 + 1 + 1, 4, none⟩ (.int .i64 0)).setCell ⟨w.heap.size + 1 + 1 + 1, 5, none⟩ (.int .i64 0)) := ansPeak_no (under_off (under_no0 HBP.out)) (Below.setCell (Below.setCell (Below.setCell (Below.setCell (Below.setCell (Below.setCell bel (show w.heap.size ≤ w.heap.size + 1 + 1 + 1 by omega) _) (show w.heap.size ≤ w.heap.size + 1 + 1 + 1 by omega) _) (show w.heap.size ≤ w.heap.size + 1 + 1 + 1 by omega) _) (show w.heap.size ≤ w.heap.size + 1 + 1 + 1 by omega) _) (show w.heap.size ≤ w.heap.size + 1 + 1 + 1 by omega) _) (show w.heap.size ≤ w.heap.size + 1 + 1 + 1 by omega) _)
  have HFZ := hid FZ
  clear FZ rr0 rr1 rr2 rr3 rr4 rr5 rS rP rU rZ bel
  go_wp2
  exact bodyPost_ret (v := .tuple #[.agg #[.slice none 0 0, .slice none 0 0, .slice none 0 0, .int .i64 0, .int .i64 0, .int .i64 0], .bool false]) (by simp [results, Tryz.results27, go_sem, u0, u1, u2, u3, u4, u5]) rfl HFZ.out
 | true =>
  have zz : w.heap.size + 1 + 1 + 1 < w1.heap.size := rZ.lt
  clear a0 a1 k0 k1 k2 k3 k4 k5 e0
  have a0 : w1.cell? ⟨w.heap.size, 0, none⟩ = some (.slice A n cs) := rS.cell 0
  have a1 : w1.cell? ⟨w.heap.size, 1, none⟩ = some (V) := rS.cell 1
  have k0 : w1.cell? ⟨w.heap.size + 1, 0, none⟩ = some (.slice T0 tn tc) := rP.cell 0
  have k1 : w1.cell? ⟨w.heap.size + 1, 1, none⟩ = some (.slice T1 un uc) := rP.cell 1
  have k2 : w1.cell? ⟨w.heap.size + 1, 2, none⟩ = some (.slice T2 yn yc) := rP.cell 2
  have k3 : w1.cell? ⟨w.heap.size + 1, 3, none⟩ = some (.int .i64 xa) := rP.cell 3
  have k4 : w1.cell? ⟨w.heap.size + 1, 4, none⟩ = some (.int .i64 xu) := rP.cell 4
  have k5 : w1.cell? ⟨w.heap.size + 1, 5, none⟩ = some (.int .i64 xo) := rP.cell 5
  have e0 : w1.cell? ⟨w.heap.size + 1 + 1, 0, none⟩ = some (.slice S m c) := rU.cell 0
  go_wp2_with fail
  refine (LF0.out w1 bel).mono ?_
  rintro e w2 ⟨X0, x0, z0, rfl, o0, bb⟩
  have q0 := ow_ints.2 (Ownd.of_own o0)
  clear o0 LF0
  replace rS := rS.next bb
  replace rP := rP.next bb
  replace rU := rU.next bb
  replace rZ := rZ.next bb
  replace bel := next_trans bel bb
  have y0 := bb.size
  clear bb
  obtain ⟨f0, hf0⟩ : ∃ z, filledB d.1 ss t0 = z := ⟨_, rfl⟩
  have HF0 := hid hf0
  rw [hf0]
  clear hf0
  clear a0 a1 k0 k1 k2 k3 k4 k5 e0
  have a0 : w2.cell? ⟨w.heap.size, 0, none⟩ = some (.slice A n cs) := rS.cell 0
  have a1 : w2.cell? ⟨w.heap.size, 1, none⟩ = some (V) := rS.cell 1
  have k0 : w2.cell? ⟨w.heap.size + 1, 0, none⟩ = some (.slice T0 tn tc) := rP.cell 0
  have k1 : w2.cell? ⟨w.heap.size + 1, 1, none⟩ = some (.slice T1 un uc) := rP.cell 1
  have k2 : w2.cell? ⟨w.heap.size + 1, 2, none⟩ = some (.slice T2 yn yc) := rP.cell 2
  have k3 : w2.cell? ⟨w.heap.size + 1, 3, none⟩ = some (.int .i64 xa) := rP.cell 3
  have k4 : w2.cell? ⟨w.heap.size + 1, 4, none⟩ = some (.int .i64 xu) := rP.cell 4
  have k5 : w2.cell? ⟨w.heap.size + 1, 5, none⟩ = some (.int .i64 xo) := rP.cell 5
  have e0 : w2.cell? ⟨w.heap.size + 1 + 1, 0, none⟩ = some (.slice S m c) := rU.cell 0
  go_wp2_with fail
  refine (LF1.out w2 bel).mono ?_
  rintro e w3 ⟨X1, x1, z1, rfl, o1, bb⟩
  have q1 := ow_ints.2 (Ownd.of_own o1)
  clear o1 LF1
  replace q0 := q0.next bb
  replace rS := rS.next bb
  replace rP := rP.next bb
  replace rU := rU.next bb
  replace rZ := rZ.next bb
  replace bel := next_trans bel bb
  have y1 := bb.size
  clear bb
  obtain ⟨f1, hf1⟩ : ∃ z, filledB d.1 ss t1 = z := ⟨_, rfl⟩
  have HF1 := hid hf1
  rw [hf1]
  clear hf1
  clear a0 a1 k0 k1 k2 k3 k4 k5 e0
  have a0 : w3.cell? ⟨w.heap.size, 0, none⟩ = some (.slice A n cs) := rS.cell 0
  have a1 : w3.cell? ⟨w.heap.size, 1, none⟩ = some (V) := rS.cell 1
  have k0 : w3.cell? ⟨w.heap.size + 1, 0, none⟩ = some (.slice T0 tn tc) := rP.cell 0
  have k1 : w3.cell? ⟨w.heap.size + 1, 1, none⟩ = some (.slice T1 un uc) := rP.cell 1
  have k2 : w3.cell? ⟨w.heap.size + 1, 2, none⟩ = some (.slice T2 yn yc) := rP.cell 2
  have k3 : w3.cell? ⟨w.heap.size + 1, 3, none⟩ = some (.int .i64 xa) := rP.cell 3
  have k4 : w3.cell? ⟨w.heap.size + 1, 4, none⟩ = some (.int .i64 xu) := rP.cell 4
  have k5 : w3.cell? ⟨w.heap.size + 1, 5, none⟩ = some (.int .i64 xo) := rP.cell 5
  have e0 : w3.cell? ⟨w.heap.size + 1 + 1, 0, none⟩ = some (.slice S m c) := rU.cell 0
  go_wp2_with fail
  refine (LF2.out w3 bel).mono ?_
  rintro e w4 ⟨X2, x2, z2, rfl, o2, bb⟩
  have q2 := ow_ints.2 (Ownd.of_own o2)
  clear o2 LF2
  replace q0 := q0.next bb
  replace q1 := q1.next bb
  replace rS := rS.next bb
  replace rP := rP.next bb
  replace rU := rU.next bb
  replace rZ := rZ.next bb
  replace bel := next_trans bel bb
  have y2 := bb.size
  clear bb
  obtain ⟨f2, hf2⟩ : ∃ z, filledB d.1 ss t2 = z := ⟨_, rfl⟩
  have HF2 := hid hf2
  rw [hf2]
  clear hf2
  clear a0 a1 k0 k1 k2 k3 k4 k5 e0
  have a0 : w4.cell? ⟨w.heap.size, 0, none⟩ = some (.slice A n cs) := rS.cell 0
  have a1 : w4.cell? ⟨w.heap.size, 1, none⟩ = some (V) := rS.cell 1
  have k0 : w4.cell? ⟨w.heap.size + 1, 0, none⟩ = some (.slice T0 tn tc) := rP.cell 0
  have k1 : w4.cell? ⟨w.heap.size + 1, 1, none⟩ = some (.slice T1 un uc) := rP.cell 1
  have k2 : w4.cell? ⟨w.heap.size + 1, 2, none⟩ = some (.slice T2 yn yc) := rP.cell 2
  have k3 : w4.cell? ⟨w.heap.size + 1, 3, none⟩ = some (.int .i64 xa) := rP.cell 3
  have k4 : w4.cell? ⟨w.heap.size + 1, 4, none⟩ = some (.int .i64 xu) := rP.cell 4
  have k5 : w4.cell? ⟨w.heap.size + 1, 5, none⟩ = some (.int .i64 xo) := rP.cell 5
  have e0 : w4.cell? ⟨w.heap.size + 1 + 1, 0, none⟩ = some (.slice S m c) := rU.cell 0
  cases f0 with
  | false =>
   clear a0 a1 k0 k1 k2 k3 k4 k5 e0 q0 q1 q2
   have y0 : w4.cell? ⟨w.heap.size + 1 + 1 + 1, 0, none⟩ = some (.slice none 0 0) := rZ.cell 0
   have g0 := rZ.free 0
   have rr0 := rZ.put 0 (.slice none 0 0)
   have y1 : (w4.setCell ⟨w.heap.size + 1 + 1 + 1, 0, none⟩ (.slice none 0 0)).cell? ⟨w.heap.size + 1 + 1 + 1, 1, none⟩ = some (.slice none 0 0) := rr0.cell 1
   have g1 := rr0.free 1
   have rr1 := rr0.put 1 (.slice none 0 0)
   have y2 : ((w4.setCell ⟨w.heap.size + 1 + 1 + 1, 0, none⟩ (.slice none 0 0)).setCell ⟨w.heap.size + 1 + 1 + 1, 1, none⟩ (.slice none 0 0)).cell? ⟨w.heap.size + 1 + 1 + 1, 2, none⟩ = some (.slice none 0 0) := rr1.cell 2
   have g2 := rr1.free 2
   have rr2 := rr1.put 2 (.slice none 0 0)
   have y3 : (((w4.setCell ⟨w.heap.size + 1 + 1 + 1, 0, none⟩ (.slice none 0 0)).setCell ⟨w.heap.size + 1 + 1 + 1, 1, none⟩ (.slice none 0 0)).setCell ⟨w.heap.size + 1 + 1 + 1, 2, none⟩ (.slice none 0 0)).cell? ⟨w.heap.size + 1 + 1 + 1, 3, none⟩ = some (.int .i64 0) := rr2.cell 3
   have g3 := rr2.free 3
   have rr3 := rr2.put 3 (.int .i64 0)
   have y4 : ((((w4.setCell ⟨w.heap.size + 1 + 1 + 1, 0, none⟩ (.slice none 0 0)).setCell ⟨w.heap.size + 1 + 1 + 1, 1, none⟩ (.slice none 0 0)).setCell ⟨w.heap.size + 1 + 1 + 1, 2, none⟩ (.slice none 0 0)).setCell ⟨w.heap.size + 1 + 1 + 1, 3, none⟩ (.int .i64 0)).cell? ⟨w.heap.size + 1 + 1 + 1, 4, none⟩ = some (.int .i64 0) := rr3.cell 4
   have g4 := rr3.free 4
   have rr4 := rr3.put 4 (.int .i64 0)
   have y5 : (((((w4.setCell ⟨w.heap.size + 1 + 1 + 1, 0, none⟩ (.slice none 0 0)).setCell ⟨w.heap.size + 1 + 1 + 1, 1, none⟩ (.slice none 0 0)).setCell ⟨w.heap.size + 1 + 1 + 1, 2, none⟩ (.slice none 0 0)).setCell ⟨w.heap.size + 1 + 1 + 1, 3, none⟩ (.int .i64 0)).setCell ⟨w.heap.size + 1 + 1 + 1, 4, none⟩ (.int .i64 0)).cell? ⟨w.heap.size + 1 + 1 + 1, 5, none⟩ = some (.int .i64 0) := rr4.cell 5
   have g5 := rr4.free 5
   have rr5 := rr4.put 5 (.int .i64 0)
   have u0 : ((((((w4.setCell ⟨w.heap.size + 1 + 1 + 1, 0, none⟩ (.slice none 0 0)).setCell ⟨w.heap.size + 1 + 1 + 1, 1, none⟩ (.slice none 0 0)).setCell ⟨w.heap.size + 1 + 1 + 1, 2, none⟩ (.slice none 0 0)).setCell ⟨w.heap.size + 1 + 1 + 1, 3, none⟩ (.int .i64 0)).setCell ⟨w.heap.size + 1 + 1 + 1, 4, none⟩ (.int .i64 0)).setCell ⟨w.heap.size + 1 + 1 + 1, 5, none⟩ (.int .i64 0)).cell? ⟨w.heap.size + 1 + 1 + 1, 0, none⟩ = some (.slice none 0 0) := rr5.cell 0
   have u1 : ((((((w4.setCell ⟨w.heap.size + 1 + 1 + 1, 0, none⟩ (.slice none 0 0)).setCell ⟨w.heap.size + 1 + 1 + 1, 1, none⟩ (.slice none 0 0)).setCell ⟨w.heap.size + 1 + 1 + 1, 2, none⟩ (.slice none 0 0)).setCell ⟨w.heap.size + 1 + 1 + 1, 3, none⟩ (.int .i64 0)).setCell ⟨w.heap.size + 1 + 1 + 1, 4, none⟩ (.int .i64 0)).setCell ⟨w.heap.size + 1 + 1 + 1, 5, none⟩ (.int .i64 0)).cell? ⟨w.heap.size + 1 + 1 + 1, 1, none⟩ = some (.slice none 0 0) := rr5.cell 1
   have u2 : ((((((w4.setCell ⟨w.heap.size + 1 + 1 + 1, 0, none⟩ (.slice none 0 0)).setCell ⟨w.heap.size + 1 + 1 + 1, 1, none⟩ (.slice none 0 0)).setCell ⟨w.heap.size + 1 + 1 + 1, 2, none⟩ (.slice none 0 0)).setCell ⟨w.heap.size + 1 + 1 + 1, 3, none⟩ (.int .i64 0)).setCell ⟨w.heap.size + 1 + 1 + 1, 4, none⟩ (.int .i64 0)).setCell ⟨w.heap.size + 1 + 1 + 1, 5, none⟩ (.int .i64 0)).cell? ⟨w.heap.size + 1 + 1 + 1, 2, none⟩ = some (.slice none 0 0) := rr5.cell 2
   have u3 : ((((((w4.setCell ⟨w.heap.size + 1 + 1 + 1, 0, none⟩ (.slice none 0 0)).setCell ⟨w.heap.size + 1 + 1 + 1, 1, none⟩ (.slice none 0 0)).setCell ⟨w.heap.size + 1 + 1 + 1, 2, none⟩ (.slice none 0 0)).setCell ⟨w.heap.size + 1 + 1 + 1, 3, none⟩ (.int .i64 0)).setCell ⟨w.heap.size + 1 + 1 + 1, 4, none⟩ (.int .i64 0)).setCell ⟨w.heap.size + 1 + 1 + 1, 5, none⟩ (.int .i64 0)).cell? ⟨w.heap.size + 1 + 1 + 1, 3, none⟩ = some (.int .i64 0) := rr5.cell 3
   have u4 : ((((((w4.setCell ⟨w.heap.size + 1 + 1 + 1, 0, none⟩ (.slice none 0 0)).setCell ⟨w.heap.size + 1 + 1 + 1, 1, none⟩ (.slice none 0 0)).setCell ⟨w.heap.size + 1 + 1 + 1, 2, none⟩ (.slice none 0 0)).setCell ⟨w.heap.size + 1 + 1 + 1, 3, none⟩ (.int .i64 0)).setCell ⟨w.heap.size + 1 + 1 + 1, 4, none⟩ (.int .i64 0)).setCell ⟨w.heap.size + 1 + 1 + 1, 5, none⟩ (.int .i64 0)).cell? ⟨w.heap.size + 1 + 1 + 1, 4, none⟩ = some (.int .i64 0) := rr5.cell 4
   have u5 : ((((((w4.setCell ⟨w.heap.size + 1 + 1 + 1, 0, none⟩ (.slice none 0 0)).setCell ⟨w.heap.size + 1 + 1 + 1, 1, none⟩ (.slice none 0 0)).setCell ⟨w.heap.size + 1 + 1 + 1, 2, none⟩ (.slice none 0 0)).setCell ⟨w.heap.size + 1 + 1 + 1, 3, none⟩ (.int .i64 0)).setCell ⟨w.heap.size + 1 + 1 + 1, 4, none⟩ (.int .i64 0)).setCell ⟨w.heap.size + 1 + 1 + 1, 5, none⟩ (.int .i64 0)).cell? ⟨w.heap.size + 1 + 1 + 1, 5, none⟩ = some (.int .i64 0) := rr5.cell 5
   have FZ : AnsPeak w (underP d.1 d.2 (t0, t1, t2, xa, xu, xo) ss) (underB d.1 d.2 (t0, t1, t2, xa, xu, xo) ss) (.returned (.tuple #[.agg #[.slice none 0 0, .slice none 0 0, .slice none 0 0, .int .i64 0, .int .i64 0, .int .i64 0], .bool false])) ((((((w4.setCell ⟨w.heap.size + 1 + 1 + 1, 0, none⟩ (.slice none 0 0)).setCell ⟨w.heap.size + 1 + 1 + 1, 1, none⟩ (.slice none 0 0)).setCell ⟨w.heap.size + 1 + 1 + 1, 2, none⟩ (.slice none 0 0)).setCell ⟨w.heap.size + 1 + 1 + 1, 3, none⟩ (.int .i64 0)).setCell ⟨w.heap.size + 1 + 1 + 1, 4, none⟩ (.int .i64 0)).setCell ⟨w.heap.size + 1 + 1 + 1, 5, none⟩ (.int .i64 0)) := ansPeak_no (under_off (under_no1 HF0.out)) (Below.setCell (Below.setCell (Below.setCell (Below.setCell (Below.setCell (Below.setCell bel (show w.heap.size ≤ w.heap.size + 1 + 1 + 1 by omega) _) (show w.heap.size ≤ w.heap.size + 1 + 1 + 1 by omega) _) (show w.heap.size ≤ w.heap.size + 1 + 1 + 1 by omega) _) (show w.heap.size ≤ w.heap.size + 1 + 1 + 1 by omega) _) (show w.heap.size ≤ w.heap.size + 1 + 1 + 1 by omega) _) (show w.heap.size ≤ w.heap.size + 1 + 1 + 1 by omega) _)
   have HFZ := hid FZ
   clear FZ rr0 rr1 rr2 rr3 rr4 rr5 rS rP rU rZ bel
   go_wp2
   exact bodyPost_ret (v := .tuple #[.agg #[.slice none 0 0, .slice none 0 0, .slice none 0 0, .int .i64 0, .int .i64 0, .int .i64 0], .bool false]) (by simp [results, Tryz.results27, go_sem, u0, u1, u2, u3, u4, u5]) rfl HFZ.out
  | true =>
   cases f1 with
   | false =>
    clear a0 a1 k0 k1 k2 k3 k4 k5 e0 q0 q1 q2
    have y0 : w4.cell? ⟨w.heap.size + 1 + 1 + 1, 0, none⟩ = some (.slice none 0 0) := rZ.cell 0
    have g0 := rZ.free 0
    have rr0 := rZ.put 0 (.slice none 0 0)
    have y1 : (w4.setCell ⟨w.heap.size + 1 + 1 + 1, 0, none⟩ (.slice none 0 0)).cell? ⟨w.heap.size + 1 + 1 + 1, 1, none⟩ = some (.slice none 0 0) := rr0.cell 1
    have g1 := rr0.free 1
    have rr1 := rr0.put 1 (.slice none 0 0)
    have y2 : ((w4.setCell ⟨w.heap.size + 1 + 1 + 1, 0, none⟩ (.slice none 0 0)).setCell ⟨w.heap.size + 1 + 1 + 1, 1, none⟩ (.slice none 0 0)).cell? ⟨w.heap.size + 1 + 1 + 1, 2, none⟩ = some (.slice none 0 0) := rr1.cell 2
    have g2 := rr1.free 2
    have rr2 := rr1.put 2 (.slice none 0 0)
    have y3 : (((w4.setCell ⟨w.heap.size + 1 + 1 + 1, 0, none⟩ (.slice none 0 0)).setCell ⟨w.heap.size + 1 + 1 + 1, 1, none⟩ (.slice none 0 0)).setCell ⟨w.heap.size + 1 + 1 + 1, 2, none⟩ (.slice none 0 0)).cell? ⟨w.heap.size + 1 + 1 + 1, 3, none⟩ = some (.int .i64 0) := rr2.cell 3
    have g3 := rr2.free 3
    have rr3 := rr2.put 3 (.int .i64 0)
    have y4 : ((((w4.setCell ⟨w.heap.size + 1 + 1 + 1, 0, none⟩ (.slice none 0 0)).setCell ⟨w.heap.size + 1 + 1 + 1, 1, none⟩ (.slice none 0 0)).setCell ⟨w.heap.size + 1 + 1 + 1, 2, none⟩ (.slice none 0 0)).setCell ⟨w.heap.size + 1 + 1 + 1, 3, none⟩ (.int .i64 0)).cell? ⟨w.heap.size + 1 + 1 + 1, 4, none⟩ = some (.int .i64 0) := rr3.cell 4
    have g4 := rr3.free 4
    have rr4 := rr3.put 4 (.int .i64 0)
    have y5 : (((((w4.setCell ⟨w.heap.size + 1 + 1 + 1, 0, none⟩ (.slice none 0 0)).setCell ⟨w.heap.size + 1 + 1 + 1, 1, none⟩ (.slice none 0 0)).setCell ⟨w.heap.size + 1 + 1 + 1, 2, none⟩ (.slice none 0 0)).setCell ⟨w.heap.size + 1 + 1 + 1, 3, none⟩ (.int .i64 0)).setCell ⟨w.heap.size + 1 + 1 + 1, 4, none⟩ (.int .i64 0)).cell? ⟨w.heap.size + 1 + 1 + 1, 5, none⟩ = some (.int .i64 0) := rr4.cell 5
    have g5 := rr4.free 5
    have rr5 := rr4.put 5 (.int .i64 0)
    have u0 : ((((((w4.setCell ⟨w.heap.size + 1 + 1 + 1, 0, none⟩ (.slice none 0 0)).setCell ⟨w.heap.size + 1 + 1 + 1, 1, none⟩ (.slice none 0 0)).setCell ⟨w.heap.size + 1 + 1 + 1, 2, none⟩ (.slice none 0 0)).setCell ⟨w.heap.size + 1 + 1 + 1, 3, none⟩ (.int .i64 0)).setCell ⟨w.heap.size + 1 + 1 + 1, 4, none⟩ (.int .i64 0)).setCell ⟨w.heap.size + 1 + 1 + 1, 5, none⟩ (.int .i64 0)).cell? ⟨w.heap.size + 1 + 1 + 1, 0, none⟩ = some (.slice none 0 0) := rr5.cell 0
    have u1 : ((((((w4.setCell ⟨w.heap.size + 1 + 1 + 1, 0, none⟩ (.slice none 0 0)).setCell ⟨w.heap.size + 1 + 1 + 1, 1, none⟩ (.slice none 0 0)).setCell ⟨w.heap.size + 1 + 1 + 1, 2, none⟩ (.slice none 0 0)).setCell ⟨w.heap.size + 1 + 1 + 1, 3, none⟩ (.int .i64 0)).setCell ⟨w.heap.size + 1 + 1 + 1, 4, none⟩ (.int .i64 0)).setCell ⟨w.heap.size + 1 + 1 + 1, 5, none⟩ (.int .i64 0)).cell? ⟨w.heap.size + 1 + 1 + 1, 1, none⟩ = some (.slice none 0 0) := rr5.cell 1
    have u2 : ((((((w4.setCell ⟨w.heap.size + 1 + 1 + 1, 0, none⟩ (.slice none 0 0)).setCell ⟨w.heap.size + 1 + 1 + 1, 1, none⟩ (.slice none 0 0)).setCell ⟨w.heap.size + 1 + 1 + 1, 2, none⟩ (.slice none 0 0)).setCell ⟨w.heap.size + 1 + 1 + 1, 3, none⟩ (.int .i64 0)).setCell ⟨w.heap.size + 1 + 1 + 1, 4, none⟩ (.int .i64 0)).setCell ⟨w.heap.size + 1 + 1 + 1, 5, none⟩ (.int .i64 0)).cell? ⟨w.heap.size + 1 + 1 + 1, 2, none⟩ = some (.slice none 0 0) := rr5.cell 2
    have u3 : ((((((w4.setCell ⟨w.heap.size + 1 + 1 + 1, 0, none⟩ (.slice none 0 0)).setCell ⟨w.heap.size + 1 + 1 + 1, 1, none⟩ (.slice none 0 0)).setCell ⟨w.heap.size + 1 + 1 + 1, 2, none⟩ (.slice none 0 0)).setCell ⟨w.heap.size + 1 + 1 + 1, 3, none⟩ (.int .i64 0)).setCell ⟨w.heap.size + 1 + 1 + 1, 4, none⟩ (.int .i64 0)).setCell ⟨w.heap.size + 1 + 1 + 1, 5, none⟩ (.int .i64 0)).cell? ⟨w.heap.size + 1 + 1 + 1, 3, none⟩ = some (.int .i64 0) := rr5.cell 3
    have u4 : ((((((w4.setCell ⟨w.heap.size + 1 + 1 + 1, 0, none⟩ (.slice none 0 0)).setCell ⟨w.heap.size + 1 + 1 + 1, 1, none⟩ (.slice none 0 0)).setCell ⟨w.heap.size + 1 + 1 + 1, 2, none⟩ (.slice none 0 0)).setCell ⟨w.heap.size + 1 + 1 + 1, 3, none⟩ (.int .i64 0)).setCell ⟨w.heap.size + 1 + 1 + 1, 4, none⟩ (.int .i64 0)).setCell ⟨w.heap.size + 1 + 1 + 1, 5, none⟩ (.int .i64 0)).cell? ⟨w.heap.size + 1 + 1 + 1, 4, none⟩ = some (.int .i64 0) := rr5.cell 4
    have u5 : ((((((w4.setCell ⟨w.heap.size + 1 + 1 + 1, 0, none⟩ (.slice none 0 0)).setCell ⟨w.heap.size + 1 + 1 + 1, 1, none⟩ (.slice none 0 0)).setCell ⟨w.heap.size + 1 + 1 + 1, 2, none⟩ (.slice none 0 0)).setCell ⟨w.heap.size + 1 + 1 + 1, 3, none⟩ (.int .i64 0)).setCell ⟨w.heap.size + 1 + 1 + 1, 4, none⟩ (.int .i64 0)).setCell ⟨w.heap.size + 1 + 1 + 1, 5, none⟩ (.int .i64 0)).cell? ⟨w.heap.size + 1 + 1 + 1, 5, none⟩ = some (.int .i64 0) := rr5.cell 5
    have FZ : AnsPeak w (underP d.1 d.2 (t0, t1, t2, xa, xu, xo) ss) (underB d.1 d.2 (t0, t1, t2, xa, xu, xo) ss) (.returned (.tuple #[.agg #[.slice none 0 0, .slice none 0 0, .slice none 0 0, .int .i64 0, .int .i64 0, .int .i64 0], .bool false])) ((((((w4.setCell ⟨w.heap.size + 1 + 1 + 1, 0, none⟩ (.slice none 0 0)).setCell ⟨w.heap.size + 1 + 1 + 1, 1, none⟩ (.slice none 0 0)).setCell ⟨w.heap.size + 1 + 1 + 1, 2, none⟩ (.slice none 0 0)).setCell ⟨w.heap.size + 1 + 1 + 1, 3, none⟩ (.int .i64 0)).setCell ⟨w.heap.size + 1 + 1 + 1, 4, none⟩ (.int .i64 0)).setCell ⟨w.heap.size + 1 + 1 + 1, 5, none⟩ (.int .i64 0)) := ansPeak_no (under_off (under_no2 HF1.out)) (Below.setCell (Below.setCell (Below.setCell (Below.setCell (Below.setCell (Below.setCell bel (show w.heap.size ≤ w.heap.size + 1 + 1 + 1 by omega) _) (show w.heap.size ≤ w.heap.size + 1 + 1 + 1 by omega) _) (show w.heap.size ≤ w.heap.size + 1 + 1 + 1 by omega) _) (show w.heap.size ≤ w.heap.size + 1 + 1 + 1 by omega) _) (show w.heap.size ≤ w.heap.size + 1 + 1 + 1 by omega) _) (show w.heap.size ≤ w.heap.size + 1 + 1 + 1 by omega) _)
    have HFZ := hid FZ
    clear FZ rr0 rr1 rr2 rr3 rr4 rr5 rS rP rU rZ bel
    go_wp2
    exact bodyPost_ret (v := .tuple #[.agg #[.slice none 0 0, .slice none 0 0, .slice none 0 0, .int .i64 0, .int .i64 0, .int .i64 0], .bool false]) (by simp [results, Tryz.results27, go_sem, u0, u1, u2, u3, u4, u5]) rfl HFZ.out
   | true =>
    cases f2 with
    | false =>
     clear a0 a1 k0 k1 k2 k3 k4 k5 e0 q0 q1 q2
     have y0 : w4.cell? ⟨w.heap.size + 1 + 1 + 1, 0, none⟩ = some (.slice none 0 0) := rZ.cell 0
     have g0 := rZ.free 0
     have rr0 := rZ.put 0 (.slice none 0 0)
     have y1 : (w4.setCell ⟨w.heap.size + 1 + 1 + 1, 0, none⟩ (.slice none 0 0)).cell? ⟨w.heap.size + 1 + 1 + 1, 1, none⟩ = some (.slice none 0 0) := rr0.cell 1
     have g1 := rr0.free 1
     have rr1 := rr0.put 1 (.slice none 0 0)
     have y2 : ((w4.setCell ⟨w.heap.size + 1 + 1 + 1, 0, none⟩ (.slice none 0 0)).setCell ⟨w.heap.size + 1 + 1 + 1, 1, none⟩ (.slice none 0 0)).cell? ⟨w.heap.size + 1 + 1 + 1, 2, none⟩ = some (.slice none 0 0) := rr1.cell 2
     have g2 := rr1.free 2
     have rr2 := rr1.put 2 (.slice none 0 0)
     have y3 : (((w4.setCell ⟨w.heap.size + 1 + 1 + 1, 0, none⟩ (.slice none 0 0)).setCell ⟨w.heap.size + 1 + 1 + 1, 1, none⟩ (.slice none 0 0)).setCell ⟨w.heap.size + 1 + 1 + 1, 2, none⟩ (.slice none 0 0)).cell? ⟨w.heap.size + 1 + 1 + 1, 3, none⟩ = some (.int .i64 0) := rr2.cell 3
     have g3 := rr2.free 3
     have rr3 := rr2.put 3 (.int .i64 0)
     have y4 : ((((w4.setCell ⟨w.heap.size + 1 + 1 + 1, 0, none⟩ (.slice none 0 0)).setCell ⟨w.heap.size + 1 + 1 + 1, 1, none⟩ (.slice none 0 0)).setCell ⟨w.heap.size + 1 + 1 + 1, 2, none⟩ (.slice none 0 0)).setCell ⟨w.heap.size + 1 + 1 + 1, 3, none⟩ (.int .i64 0)).cell? ⟨w.heap.size + 1 + 1 + 1, 4, none⟩ = some (.int .i64 0) := rr3.cell 4
     have g4 := rr3.free 4
     have rr4 := rr3.put 4 (.int .i64 0)
     have y5 : (((((w4.setCell ⟨w.heap.size + 1 + 1 + 1, 0, none⟩ (.slice none 0 0)).setCell ⟨w.heap.size + 1 + 1 + 1, 1, none⟩ (.slice none 0 0)).setCell ⟨w.heap.size + 1 + 1 + 1, 2, none⟩ (.slice none 0 0)).setCell ⟨w.heap.size + 1 + 1 + 1, 3, none⟩ (.int .i64 0)).setCell ⟨w.heap.size + 1 + 1 + 1, 4, none⟩ (.int .i64 0)).cell? ⟨w.heap.size + 1 + 1 + 1, 5, none⟩ = some (.int .i64 0) := rr4.cell 5
     have g5 := rr4.free 5
     have rr5 := rr4.put 5 (.int .i64 0)
     have u0 : ((((((w4.setCell ⟨w.heap.size + 1 + 1 + 1, 0, none⟩ (.slice none 0 0)).setCell ⟨w.heap.size + 1 + 1 + 1, 1, none⟩ (.slice none 0 0)).setCell ⟨w.heap.size + 1 + 1 + 1, 2, none⟩ (.slice none 0 0)).setCell ⟨w.heap.size + 1 + 1 + 1, 3, none⟩ (.int .i64 0)).setCell ⟨w.heap.size + 1 + 1 + 1, 4, none⟩ (.int .i64 0)).setCell ⟨w.heap.size + 1 + 1 + 1, 5, none⟩ (.int .i64 0)).cell? ⟨w.heap.size + 1 + 1 + 1, 0, none⟩ = some (.slice none 0 0) := rr5.cell 0
     have u1 : ((((((w4.setCell ⟨w.heap.size + 1 + 1 + 1, 0, none⟩ (.slice none 0 0)).setCell ⟨w.heap.size + 1 + 1 + 1, 1, none⟩ (.slice none 0 0)).setCell ⟨w.heap.size + 1 + 1 + 1, 2, none⟩ (.slice none 0 0)).setCell ⟨w.heap.size + 1 + 1 + 1, 3, none⟩ (.int .i64 0)).setCell ⟨w.heap.size + 1 + 1 + 1, 4, none⟩ (.int .i64 0)).setCell ⟨w.heap.size + 1 + 1 + 1, 5, none⟩ (.int .i64 0)).cell? ⟨w.heap.size + 1 + 1 + 1, 1, none⟩ = some (.slice none 0 0) := rr5.cell 1
     have u2 : ((((((w4.setCell ⟨w.heap.size + 1 + 1 + 1, 0, none⟩ (.slice none 0 0)).setCell ⟨w.heap.size + 1 + 1 + 1, 1, none⟩ (.slice none 0 0)).setCell ⟨w.heap.size + 1 + 1 + 1, 2, none⟩ (.slice none 0 0)).setCell ⟨w.heap.size + 1 + 1 + 1, 3, none⟩ (.int .i64 0)).setCell ⟨w.heap.size + 1 + 1 + 1, 4, none⟩ (.int .i64 0)).setCell ⟨w.heap.size + 1 + 1 + 1, 5, none⟩ (.int .i64 0)).cell? ⟨w.heap.size + 1 + 1 + 1, 2, none⟩ = some (.slice none 0 0) := rr5.cell 2
     have u3 : ((((((w4.setCell ⟨w.heap.size + 1 + 1 + 1, 0, none⟩ (.slice none 0 0)).setCell ⟨w.heap.size + 1 + 1 + 1, 1, none⟩ (.slice none 0 0)).setCell ⟨w.heap.size + 1 + 1 + 1, 2, none⟩ (.slice none 0 0)).setCell ⟨w.heap.size + 1 + 1 + 1, 3, none⟩ (.int .i64 0)).setCell ⟨w.heap.size + 1 + 1 + 1, 4, none⟩ (.int .i64 0)).setCell ⟨w.heap.size + 1 + 1 + 1, 5, none⟩ (.int .i64 0)).cell? ⟨w.heap.size + 1 + 1 + 1, 3, none⟩ = some (.int .i64 0) := rr5.cell 3
     have u4 : ((((((w4.setCell ⟨w.heap.size + 1 + 1 + 1, 0, none⟩ (.slice none 0 0)).setCell ⟨w.heap.size + 1 + 1 + 1, 1, none⟩ (.slice none 0 0)).setCell ⟨w.heap.size + 1 + 1 + 1, 2, none⟩ (.slice none 0 0)).setCell ⟨w.heap.size + 1 + 1 + 1, 3, none⟩ (.int .i64 0)).setCell ⟨w.heap.size + 1 + 1 + 1, 4, none⟩ (.int .i64 0)).setCell ⟨w.heap.size + 1 + 1 + 1, 5, none⟩ (.int .i64 0)).cell? ⟨w.heap.size + 1 + 1 + 1, 4, none⟩ = some (.int .i64 0) := rr5.cell 4
     have u5 : ((((((w4.setCell ⟨w.heap.size + 1 + 1 + 1, 0, none⟩ (.slice none 0 0)).setCell ⟨w.heap.size + 1 + 1 + 1, 1, none⟩ (.slice none 0 0)).setCell ⟨w.heap.size + 1 + 1 + 1, 2, none⟩ (.slice none 0 0)).setCell ⟨w.heap.size + 1 + 1 + 1, 3, none⟩ (.int .i64 0)).setCell ⟨w.heap.size + 1 + 1 + 1, 4, none⟩ (.int .i64 0)).setCell ⟨w.heap.size + 1 + 1 + 1, 5, none⟩ (.int .i64 0)).cell? ⟨w.heap.size + 1 + 1 + 1, 5, none⟩ = some (.int .i64 0) := rr5.cell 5
     have FZ : AnsPeak w (underP d.1 d.2 (t0, t1, t2, xa, xu, xo) ss) (underB d.1 d.2 (t0, t1, t2, xa, xu, xo) ss) (.returned (.tuple #[.agg #[.slice none 0 0, .slice none 0 0, .slice none 0 0, .int .i64 0, .int .i64 0, .int .i64 0], .bool false])) ((((((w4.setCell ⟨w.heap.size + 1 + 1 + 1, 0, none⟩ (.slice none 0 0)).setCell ⟨w.heap.size + 1 + 1 + 1, 1, none⟩ (.slice none 0 0)).setCell ⟨w.heap.size + 1 + 1 + 1, 2, none⟩ (.slice none 0 0)).setCell ⟨w.heap.size + 1 + 1 + 1, 3, none⟩ (.int .i64 0)).setCell ⟨w.heap.size + 1 + 1 + 1, 4, none⟩ (.int .i64 0)).setCell ⟨w.heap.size + 1 + 1 + 1, 5, none⟩ (.int .i64 0)) := ansPeak_no (under_off (under_no3 HF2.out)) (Below.setCell (Below.setCell (Below.setCell (Below.setCell (Below.setCell (Below.setCell bel (show w.heap.size ≤ w.heap.size + 1 + 1 + 1 by omega) _) (show w.heap.size ≤ w.heap.size + 1 + 1 + 1 by omega) _) (show w.heap.size ≤ w.heap.size + 1 + 1 + 1 by omega) _) (show w.heap.size ≤ w.heap.size + 1 + 1 + 1 by omega) _) (show w.heap.size ≤ w.heap.size + 1 + 1 + 1 by omega) _) (show w.heap.size ≤ w.heap.size + 1 + 1 + 1 by omega) _)
     have HFZ := hid FZ
     clear FZ rr0 rr1 rr2 rr3 rr4 rr5 rS rP rU rZ bel
     go_wp2
     exact bodyPost_ret (v := .tuple #[.agg #[.slice none 0 0, .slice none 0 0, .slice none 0 0, .int .i64 0, .int .i64 0, .int .i64 0], .bool false]) (by simp [results, Tryz.results27, go_sem, u0, u1, u2, u3, u4, u5]) rfl HFZ.out
    | true =>
     have HU := hid (under_yes (ss := ss) (p := (t0, t1, t2, xa, xu, xo)) HBP.out HF0.out HF1.out HF2.out)
     clear a0 a1 k0 k1 k2 e0
     have p0 := (Owned.put (g := w.heap.size + 1 + 1 + 1) (i := 5) (u := .int .i64 xo) (Owned.put (g := w.heap.size + 1 + 1 + 1) (i := 4) (u := .int .i64 xu) (Owned.put (g := w.heap.size + 1 + 1 + 1) (i := 3) (u := .int .i64 xa) (Owned.put (g := w.heap.size + 1 + 1 + 1) (i := 2) (u := .slice X2 x2 z2) (Owned.put (g := w.heap.size + 1 + 1 + 1) (i := 1) (u := .slice X1 x1 z1) (Owned.put (g := w.heap.size + 1 + 1 + 1) (i := 0) (u := .slice X0 x0 z0) q0 (by omega)) (by omega)) (by omega)) (by omega)) (by omega)) (by omega))
     have p1 := (Owned.put (g := w.heap.size + 1 + 1 + 1) (i := 5) (u := .int .i64 xo) (Owned.put (g := w.heap.size + 1 + 1 + 1) (i := 4) (u := .int .i64 xu) (Owned.put (g := w.heap.size + 1 + 1 + 1) (i := 3) (u := .int .i64 xa) (Owned.put (g := w.heap.size + 1 + 1 + 1) (i := 2) (u := .slice X2 x2 z2) (Owned.put (g := w.heap.size + 1 + 1 + 1) (i := 1) (u := .slice X1 x1 z1) (Owned.put (g := w.heap.size + 1 + 1 + 1) (i := 0) (u := .slice X0 x0 z0) q1 (by omega)) (by omega)) (by omega)) (by omega)) (by omega)) (by omega))
     have p2 := (Owned.put (g := w.heap.size + 1 + 1 + 1) (i := 5) (u := .int .i64 xo) (Owned.put (g := w.heap.size + 1 + 1 + 1) (i := 4) (u := .int .i64 xu) (Owned.put (g := w.heap.size + 1 + 1 + 1) (i := 3) (u := .int .i64 xa) (Owned.put (g := w.heap.size + 1 + 1 + 1) (i := 2) (u := .slice X2 x2 z2) (Owned.put (g := w.heap.size + 1 + 1 + 1) (i := 1) (u := .slice X1 x1 z1) (Owned.put (g := w.heap.size + 1 + 1 + 1) (i := 0) (u := .slice X0 x0 z0) q2 (by omega)) (by omega)) (by omega)) (by omega)) (by omega)) (by omega))
     clear q0 q1 q2
     have v0 : w4.cell? ⟨w.heap.size + 1 + 1 + 1, 0, none⟩ = some (.slice none 0 0) := rZ.cell 0
     have g0 := rZ.free 0
     have rr0 := rZ.put 0 (.slice X0 x0 z0)
     have v1 : (w4.setCell ⟨w.heap.size + 1 + 1 + 1, 0, none⟩ (.slice X0 x0 z0)).cell? ⟨w.heap.size + 1 + 1 + 1, 1, none⟩ = some (.slice none 0 0) := rr0.cell 1
     have g1 := rr0.free 1
     have rr1 := rr0.put 1 (.slice X1 x1 z1)
     have v2 : ((w4.setCell ⟨w.heap.size + 1 + 1 + 1, 0, none⟩ (.slice X0 x0 z0)).setCell ⟨w.heap.size + 1 + 1 + 1, 1, none⟩ (.slice X1 x1 z1)).cell? ⟨w.heap.size + 1 + 1 + 1, 2, none⟩ = some (.slice none 0 0) := rr1.cell 2
     have g2 := rr1.free 2
     have rr2 := rr1.put 2 (.slice X2 x2 z2)
     have v3 : (((w4.setCell ⟨w.heap.size + 1 + 1 + 1, 0, none⟩ (.slice X0 x0 z0)).setCell ⟨w.heap.size + 1 + 1 + 1, 1, none⟩ (.slice X1 x1 z1)).setCell ⟨w.heap.size + 1 + 1 + 1, 2, none⟩ (.slice X2 x2 z2)).cell? ⟨w.heap.size + 1 + 1 + 1, 3, none⟩ = some (.int .i64 0) := rr2.cell 3
     have g3 := rr2.free 3
     have rr3 := rr2.put 3 (.int .i64 xa)
     have v4 : ((((w4.setCell ⟨w.heap.size + 1 + 1 + 1, 0, none⟩ (.slice X0 x0 z0)).setCell ⟨w.heap.size + 1 + 1 + 1, 1, none⟩ (.slice X1 x1 z1)).setCell ⟨w.heap.size + 1 + 1 + 1, 2, none⟩ (.slice X2 x2 z2)).setCell ⟨w.heap.size + 1 + 1 + 1, 3, none⟩ (.int .i64 xa)).cell? ⟨w.heap.size + 1 + 1 + 1, 4, none⟩ = some (.int .i64 0) := rr3.cell 4
     have g4 := rr3.free 4
     have rr4 := rr3.put 4 (.int .i64 xu)
     have v5 : (((((w4.setCell ⟨w.heap.size + 1 + 1 + 1, 0, none⟩ (.slice X0 x0 z0)).setCell ⟨w.heap.size + 1 + 1 + 1, 1, none⟩ (.slice X1 x1 z1)).setCell ⟨w.heap.size + 1 + 1 + 1, 2, none⟩ (.slice X2 x2 z2)).setCell ⟨w.heap.size + 1 + 1 + 1, 3, none⟩ (.int .i64 xa)).setCell ⟨w.heap.size + 1 + 1 + 1, 4, none⟩ (.int .i64 xu)).cell? ⟨w.heap.size + 1 + 1 + 1, 5, none⟩ = some (.int .i64 0) := rr4.cell 5
     have g5 := rr4.free 5
     have rr5 := rr4.put 5 (.int .i64 xo)
     have u0 : ((((((w4.setCell ⟨w.heap.size + 1 + 1 + 1, 0, none⟩ (.slice X0 x0 z0)).setCell ⟨w.heap.size + 1 + 1 + 1, 1, none⟩ (.slice X1 x1 z1)).setCell ⟨w.heap.size + 1 + 1 + 1, 2, none⟩ (.slice X2 x2 z2)).setCell ⟨w.heap.size + 1 + 1 + 1, 3, none⟩ (.int .i64 xa)).setCell ⟨w.heap.size + 1 + 1 + 1, 4, none⟩ (.int .i64 xu)).setCell ⟨w.heap.size + 1 + 1 + 1, 5, none⟩ (.int .i64 xo)).cell? ⟨w.heap.size + 1 + 1 + 1, 0, none⟩ = some (.slice X0 x0 z0) := rr5.cell 0
     have u1 : ((((((w4.setCell ⟨w.heap.size + 1 + 1 + 1, 0, none⟩ (.slice X0 x0 z0)).setCell ⟨w.heap.size + 1 + 1 + 1, 1, none⟩ (.slice X1 x1 z1)).setCell ⟨w.heap.size + 1 + 1 + 1, 2, none⟩ (.slice X2 x2 z2)).setCell ⟨w.heap.size + 1 + 1 + 1, 3, none⟩ (.int .i64 xa)).setCell ⟨w.heap.size + 1 + 1 + 1, 4, none⟩ (.int .i64 xu)).setCell ⟨w.heap.size + 1 + 1 + 1, 5, none⟩ (.int .i64 xo)).cell? ⟨w.heap.size + 1 + 1 + 1, 1, none⟩ = some (.slice X1 x1 z1) := rr5.cell 1
     have u2 : ((((((w4.setCell ⟨w.heap.size + 1 + 1 + 1, 0, none⟩ (.slice X0 x0 z0)).setCell ⟨w.heap.size + 1 + 1 + 1, 1, none⟩ (.slice X1 x1 z1)).setCell ⟨w.heap.size + 1 + 1 + 1, 2, none⟩ (.slice X2 x2 z2)).setCell ⟨w.heap.size + 1 + 1 + 1, 3, none⟩ (.int .i64 xa)).setCell ⟨w.heap.size + 1 + 1 + 1, 4, none⟩ (.int .i64 xu)).setCell ⟨w.heap.size + 1 + 1 + 1, 5, none⟩ (.int .i64 xo)).cell? ⟨w.heap.size + 1 + 1 + 1, 2, none⟩ = some (.slice X2 x2 z2) := rr5.cell 2
     have u3 : ((((((w4.setCell ⟨w.heap.size + 1 + 1 + 1, 0, none⟩ (.slice X0 x0 z0)).setCell ⟨w.heap.size + 1 + 1 + 1, 1, none⟩ (.slice X1 x1 z1)).setCell ⟨w.heap.size + 1 + 1 + 1, 2, none⟩ (.slice X2 x2 z2)).setCell ⟨w.heap.size + 1 + 1 + 1, 3, none⟩ (.int .i64 xa)).setCell ⟨w.heap.size + 1 + 1 + 1, 4, none⟩ (.int .i64 xu)).setCell ⟨w.heap.size + 1 + 1 + 1, 5, none⟩ (.int .i64 xo)).cell? ⟨w.heap.size + 1 + 1 + 1, 3, none⟩ = some (.int .i64 xa) := rr5.cell 3
     have u4 : ((((((w4.setCell ⟨w.heap.size + 1 + 1 + 1, 0, none⟩ (.slice X0 x0 z0)).setCell ⟨w.heap.size + 1 + 1 + 1, 1, none⟩ (.slice X1 x1 z1)).setCell ⟨w.heap.size + 1 + 1 + 1, 2, none⟩ (.slice X2 x2 z2)).setCell ⟨w.heap.size + 1 + 1 + 1, 3, none⟩ (.int .i64 xa)).setCell ⟨w.heap.size + 1 + 1 + 1, 4, none⟩ (.int .i64 xu)).setCell ⟨w.heap.size + 1 + 1 + 1, 5, none⟩ (.int .i64 xo)).cell? ⟨w.heap.size + 1 + 1 + 1, 4, none⟩ = some (.int .i64 xu) := rr5.cell 4
     have u5 : ((((((w4.setCell ⟨w.heap.size + 1 + 1 + 1, 0, none⟩ (.slice X0 x0 z0)).setCell ⟨w.heap.size + 1 + 1 + 1, 1, none⟩ (.slice X1 x1 z1)).setCell ⟨w.heap.size + 1 + 1 + 1, 2, none⟩ (.slice X2 x2 z2)).setCell ⟨w.heap.size + 1 + 1 + 1, 3, none⟩ (.int .i64 xa)).setCell ⟨w.heap.size + 1 + 1 + 1, 4, none⟩ (.int .i64 xu)).setCell ⟨w.heap.size + 1 + 1 + 1, 5, none⟩ (.int .i64 xo)).cell? ⟨w.heap.size + 1 + 1 + 1, 5, none⟩ = some (.int .i64 xo) := rr5.cell 5
     have FZ : AnsPeak w (underP d.1 d.2 (t0, t1, t2, xa, xu, xo) ss) (underB d.1 d.2 (t0, t1, t2, xa, xu, xo) ss) (.returned (.tuple #[.agg #[.slice X0 x0 z0, .slice X1 x1 z1, .slice X2 x2 z2, .int .i64 xa, .int .i64 xu, .int .i64 xo], .bool true])) ((((((w4.setCell ⟨w.heap.size + 1 + 1 + 1, 0, none⟩ (.slice X0 x0 z0)).setCell ⟨w.heap.size + 1 + 1 + 1, 1, none⟩ (.slice X1 x1 z1)).setCell ⟨w.heap.size + 1 + 1 + 1, 2, none⟩ (.slice X2 x2 z2)).setCell ⟨w.heap.size + 1 + 1 + 1, 3, none⟩ (.int .i64 xa)).setCell ⟨w.heap.size + 1 + 1 + 1, 4, none⟩ (.int .i64 xu)).setCell ⟨w.heap.size + 1 + 1 + 1, 5, none⟩ (.int .i64 xo)) := ansPeak_yes HU.out p0 p1 p2 y0 y1 y2 (by omega) (by simp) (Below.setCell (Below.setCell (Below.setCell (Below.setCell (Below.setCell (Below.setCell bel (show w.heap.size ≤ w.heap.size + 1 + 1 + 1 by omega) _) (show w.heap.size ≤ w.heap.size + 1 + 1 + 1 by omega) _) (show w.heap.size ≤ w.heap.size + 1 + 1 + 1 by omega) _) (show w.heap.size ≤ w.heap.size + 1 + 1 + 1 by omega) _) (show w.heap.size ≤ w.heap.size + 1 + 1 + 1 by omega) _) (show w.heap.size ≤ w.heap.size + 1 + 1 + 1 by omega) _)
     have HFZ := hid FZ
     clear FZ rr0 rr1 rr2 rr3 rr4 rr5 rS rP rU rZ bel p0 p1 p2
     go_wp2
     exact bodyPost_ret (v := .tuple #[.agg #[.slice X0 x0 z0, .slice X1 x1 z1, .slice X2 x2 z2, .int .i64 xa, .int .i64 xu, .int .i64 xo], .bool true]) (by simp [results, Tryz.results27, go_sem, u0, u1, u2, u3, u4, u5]) rfl HFZ.out
theorem implPeakUnder (a v v0 v1 v2 u : Value) (d : Dat sSystem) (p : Dat sPeak) (ss : Dat sSubst) (w : World) (h : Rd w w.heap.size sSystem [a, v] d) (h' : Rd w w.heap.size sPeak [v0, v1, v2, .int .i64 p.2.2.2.1, .int .i64 p.2.2.2.2.1, .int .i64 p.2.2.2.2.2] p) (h2 : Rd w w.heap.size sSubst [u] ss) (hz : sz sSystem d ≤ 1048576) (hz' : sz sPeak p ≤ 1048576) (hz2 : sz sSubst ss ≤ 1048576) :
  Calls Tryz.prog 27 #[.agg #[a, v], .agg #[v0, v1, v2, .int .i64 p.2.2.2.1, .int .i64 p.2.2.2.2.1, .int .i64 p.2.2.2.2.2], .agg #[u]] w (AnsPeak w (underP d.1 d.2 p ss) (underB d.1 d.2 p ss)) := by
 obtain ⟨A, n, cs, V, q, cv, rfl, rfl, hs, -, -, -, hn, -⟩ := rd_sys h hz
 obtain ⟨T0, tn, tc, T1, un, uc, T2, yn, yc, rfl, rfl, rfl, s0, s1, s2, b0, b1, b2⟩ := rd_peak h' hz'
 obtain ⟨S, m, c, rfl, hS, htot, -⟩ := rd_subst h2 hz2
 exact implUnderC A T0 T1 T2 S _ n cs tn tc un uc yn yc m c d p.1 p.2.1 p.2.2.1 _ _ _ ss w h h' hs hS s0 s1 s2 hz hz' hn htot b0 b1 b2
end peakUnder
end
end Go.Proofs.YtlaloakegajheaaGreat
