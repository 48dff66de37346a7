/-
  MERGED: my texts SearchIn, LongImpl, ReachImplB, ReachX, NormsImpl, NormsX, WNormalsOf, one behind the other, as they are. By an AI agent.
-/
import Derived.Test.YthdmhhmnipoceaaMFnExactNormalsOf9
import Derived.Deep.RegionHeld3
namespace Go.Proofs.Ythdmhhmnipoceaa
section
open Go.Lib (hid)
namespace longest
open Go.RowKit base ints sig term termOk marks app sym sub segs segsHelp termFacts varsOf shape kindsR kindsW ruleMath ruleSpec ruleImpl stepMath walkMath stepSpec stepImpl reachMath findW findSpec bySpec iter
set_option maxRecDepth 100000
def AnsSrc (w : World) (a v : Value) (q : Bool) (e : Ending) (w' : World) : Prop := ∃ x1 x2 x3 y1 y2 y3 b, e = .returned (.tuple #[.agg #[.slice x1 x2 x3, .slice y1 y2 y3], .bool b]) ∧ b = q ∧ (b = true → .slice x1 x2 x3 = a ∧ .slice y1 y2 y3 = v) ∧ Below w.heap.size w w'
def srcB (sg : List Int) (rs : List Rl) (n : Int) (D : List (List Int)) : Bool := sysOkB sg rs && (stepsB n && D.all (termOkB sg))
set_option maxHeartbeats 4000000 in
theorem searchIn (a v : Value) (n : Int) (X : Option Addr) (xn xc : Nat) (D : List (List Int)) (d : Dat sSystem) (w : World) (h : Rd w w.heap.size sSystem [a, v] d) (hz : sz sSystem d ≤ 1048576) (hX : Rd w w.heap.size sTs [.slice X xn xc] D) (hxn : xn ≤ 1048576) (hD : ∀ k, (D.getD k []).length ≤ 1048576) :
  Calls Try.prog 41 #[.agg #[a, v], .int .i64 n, .slice X xn xc] w (AnsSrc w a v (srcB d.1 d.2 n D)) := by
 obtain ⟨q, hq⟩ : ∃ q, srcB d.1 d.2 n D = q := ⟨_, rfl⟩
 rw [hq]
 have h0 := h
 obtain ⟨A, m, cs, V, r, cv, rfl, rfl, hs, hc, hcv, hr, hm, hr1, hrs, hsg, hE⟩ := rd_sys h hz
 obtain ⟨W, hW, rA, rR, bel⟩ := box2 w 34 74 #[.slice A m cs, .slice V r cv] #[.slice none 0 0, .slice none 0 0]
 have HW := hid hW
 have LS := hid (systemOf _ _ d W (h0.next bel) hz)
 have HX := hid (show Rd w w.heap.size sTs [.slice X xn xc] D ∧ D.length = xn ∧ Seg w w.heap.size A m d.1 from ⟨hX, rd_ts hX, hs⟩)
 clear hW h h0 hz hX hs hc hcv hr hrs hsg hE
 cases ok : sysOkB d.1 d.2 with
 | false =>
  have HQ := hid (show false = q from by rw [← hq]; unfold srcB; rw [ok]; rfl)
  rw [ok] at LS
  clear hq ok
  go_enter Try.func41, Try.ntmps41
  go_wp2_with fail
  rw [← HW.out]
  refine LS.out.mono ?_
  rintro e w1 ⟨he, bb⟩
  have he : e = .returned (.tuple #[.agg #[.slice none 0 0, .slice none 0 0], .bool false]) := he
  subst he
  obtain ⟨sb, hsb⟩ : ∃ sb, w1.heap.size = sb := ⟨_, rfl⟩
  have HSB := hid (show w1.heap.size = sb ∧ True from ⟨hsb, trivial⟩)
  have H1 := hid (show Row (w1.alloc (.cells #[.slice none 0 0, .slice none 0 0] 74)) sb 74 #[.slice none 0 0, .slice none 0 0] ∧ Row (w1.alloc (.cells #[.slice none 0 0, .slice none 0 0] 74)) (w.heap.size + 1) 74 #[.slice none 0 0, .slice none 0 0] ∧ Below w.heap.size w (w1.alloc (.cells #[.slice none 0 0, .slice none 0 0] 74)) from ⟨by rw [← HSB.out.1]; exact Row.new _ _ _, (rR.next bb).alloc _, (next_trans bel bb).alloc (next_trans bel bb).size _⟩)
  clear bb bel rA rR LS HW
  go_wp2_with fail
  try rw [hsb]
  clear hsb
  go_loopg [9, 28] xn (fun g b_ i_ wr => ∃ i : Nat, b_ = .bool false ∧ i_ = .int .i64 (i : Int) ∧ i + g = xn ∧ Row wr sb 74 #[.slice none 0 0, .slice none 0 0] ∧ Row wr (w.heap.size + 1) 74 #[.slice none 0 0, .slice none 0 0] ∧ Below w.heap.size w wr)
  case atStart => exact ⟨0, by first | rfl | rw [decide_eq_false (by omega)], rfl, by omega, H1.out⟩
  case round =>
   obtain ⟨i, rfl, rfl, hg, rs, rr, bel⟩ := hrel
   by_cases hi : i < xn
   ·obtain ⟨b, off, T, tn, tc, rfl, hb, cT, -, -⟩ := rd_term HX.out.1 bel hi
    have i0 : (0 : Int) ≤ (i : Int) := by omega
    have i1 : (i : Int) < (xn : Int) := by omega
    have F := hid (show i + gk = xn ∧ Row wr sb 74 #[.slice none 0 0, .slice none 0 0] ∧ Row wr (w.heap.size + 1) 74 #[.slice none 0 0, .slice none 0 0] ∧ Below w.heap.size w wr from ⟨hg, rs, rr, bel⟩)
    clear hg rs rr bel
    go_wp2
    go_roundg (gk - 1)
    case measure => have := F.out.1; omega
    case rel => exact ⟨i + 1, rfl, by simp, by have := F.out.1; omega, F.out.2⟩
   ·have i1 : ¬ (i : Int) < (xn : Int) := by omega
    clear hg
    have c0 : wr.cell? ⟨sb, 0, none⟩ = some (.slice none 0 0) := rs.cell 0
    have c1 : wr.cell? ⟨sb, 1, none⟩ = some (.slice none 0 0) := rs.cell 1
    have y0 : wr.cell? ⟨w.heap.size + 1, 0, none⟩ = some (.slice none 0 0) := rr.cell 0
    have y1 : wr.cell? ⟨w.heap.size + 1, 1, none⟩ = some (.slice none 0 0) := rr.cell 1
    have g0 := rr.free 0
    have g1 := rr.free 1
    have ra := Row.put rr 0 (.slice none 0 0)
    have y2 : (wr.setCell ⟨w.heap.size + 1, 0, none⟩ (.slice none 0 0)).cell? ⟨w.heap.size + 1, 1, none⟩ = some (.slice none 0 0) := ra.cell 1
    have g2 := ra.free 1
    have rb := Row.put ra 1 (.slice none 0 0)
    have u0 : ((wr.setCell ⟨w.heap.size + 1, 0, none⟩ (.slice none 0 0)).setCell ⟨w.heap.size + 1, 1, none⟩ (.slice none 0 0)).cell? ⟨w.heap.size + 1, 0, none⟩ = some (.slice none 0 0) := rb.cell 0
    have u1 : ((wr.setCell ⟨w.heap.size + 1, 0, none⟩ (.slice none 0 0)).setCell ⟨w.heap.size + 1, 1, none⟩ (.slice none 0 0)).cell? ⟨w.heap.size + 1, 1, none⟩ = some (.slice none 0 0) := rb.cell 1
    have FZ : AnsSrc w (.slice A m cs) (.slice V r cv) q (.returned (.tuple #[.agg #[.slice none 0 0, .slice none 0 0], .bool false])) ((wr.setCell ⟨w.heap.size + 1, 0, none⟩ (.slice none 0 0)).setCell ⟨w.heap.size + 1, 1, none⟩ (.slice none 0 0)) := ⟨none, 0, 0, none, 0, 0, false, rfl, HQ.out, (fun e => by cases e), (bel.setCell (by show _ ≤ w.heap.size + 1; omega) _).setCell (by show _ ≤ w.heap.size + 1; omega) _⟩
    have HFZ := hid FZ
    clear FZ ra rb rs rr bel HQ
    go_wp2
    exact bodyPost_ret (v := .tuple #[.agg #[.slice none 0 0, .slice none 0 0], .bool false]) (by simp [results, Try.results41, go_sem, u0, u1]) rfl HFZ.out
 | true =>
  rw [ok] at LS
  by_cases hn0 : 0 ≤ n
  ·by_cases hn1 : n ≤ 20
   ·have HQ := hid (show q = D.all (termOkB d.1) from by rw [← hq]; unfold srcB; rw [ok, steps_in ⟨hn0, hn1⟩]; rfl)
    clear hq ok
    go_enter Try.func41, Try.ntmps41
    go_wp2_with fail
    rw [← HW.out]
    refine LS.out.mono ?_
    rintro e w1 ⟨he, bb⟩
    have he : e = .returned (.tuple #[.agg #[.slice A m cs, .slice V r cv], .bool true]) := he
    subst he
    obtain ⟨sb, hsb⟩ : ∃ sb, w1.heap.size = sb := ⟨_, rfl⟩
    have HSB := hid (show w1.heap.size = sb ∧ True from ⟨hsb, trivial⟩)
    have H1 := hid (show Row (w1.alloc (.cells #[.slice A m cs, .slice V r cv] 74)) sb 74 #[.slice A m cs, .slice V r cv] ∧ Row (w1.alloc (.cells #[.slice A m cs, .slice V r cv] 74)) (w.heap.size + 1) 74 #[.slice none 0 0, .slice none 0 0] ∧ Below w.heap.size w (w1.alloc (.cells #[.slice A m cs, .slice V r cv] 74)) from ⟨by rw [← HSB.out.1]; exact Row.new _ _ _, (rR.next bb).alloc _, (next_trans bel bb).alloc (next_trans bel bb).size _⟩)
    clear bb bel rA rR LS HW
    go_wp2_with fail
    try rw [hsb]
    clear hsb
    go_loopg [9, 28] xn (fun g b_ i_ wr => ∃ (i : Nat) (b : Bool), b_ = .bool b ∧ i_ = .int .i64 (i : Int) ∧ i + g = xn ∧ b = (D.take i).all (termOkB d.1) ∧ Row wr sb 74 #[.slice A m cs, .slice V r cv] ∧ Row wr (w.heap.size + 1) 74 #[.slice none 0 0, .slice none 0 0] ∧ Below w.heap.size w wr)
    case atStart => exact ⟨0, true, rfl, rfl, by omega, rfl, H1.out⟩
    case round =>
     obtain ⟨i, bo, rfl, rfl, hg, hbo, rs, rr, bel⟩ := hrel
     by_cases hi : i < xn
     ·obtain ⟨b, off, T, tn, tc, rfl, hb, cT, sT, hcT⟩ := rd_term HX.out.1 bel hi
      have i0 : (0 : Int) ≤ (i : Int) := by omega
      have i1 : (i : Int) < (xn : Int) := by omega
      have hil : i < D.length := by rw [HX.out.2.1]; exact hi
      have HB := hid (show (D.take (i + 1)).all (termOkB d.1) = (bo && termOkB d.1 (D.getD i [])) from by rw [List.take_succ_eq_append_getElem hil, List.all_append, ← hbo]; simp [List.getD, hil])
      have HG := hid (show i + gk = xn ∧ Row wr sb 74 #[.slice A m cs, .slice V r cv] ∧ Row wr (w.heap.size + 1) 74 #[.slice none 0 0, .slice none 0 0] ∧ Below w.heap.size w wr from ⟨hg, rs, rr, bel⟩)
      have k0 : wr.cell? ⟨sb, 0, none⟩ = some (.slice A m cs) := rs.cell 0
      have htn : tn ≤ 1048576 := by rw [← sT.1]; exact hD i
      have LT := hid (implTermOk A T m cs tn tc d.1 (D.getD i []) wr (HX.out.2.2.next bel) (sT.more bel.size) hm htn)
      clear hg rs rr bel sT hcT hbo
      cases bo with
      | false =>
       go_wp2
       go_roundg (gk - 1)
       case measure => have := HG.out.1; omega
       case rel => exact ⟨i + 1, false, rfl, by simp, by have := HG.out.1; omega, by rw [HB.out]; rfl, HG.out.2⟩
      | true =>
       obtain ⟨bt, hbt⟩ : ∃ b, termOkB d.1 (D.getD i []) = b := ⟨_, rfl⟩
       have HBT := hid hbt
       clear hbt
       go_wp2_with fail
       refine LT.out.mono ?_
       rintro e w2 ⟨rfl, bb⟩
       rw [HBT.out]
       have F := hid (show Row w2 sb 74 #[.slice A m cs, .slice V r cv] ∧ Row w2 (w.heap.size + 1) 74 #[.slice none 0 0, .slice none 0 0] ∧ Below w.heap.size w w2 from ⟨HG.out.2.1.next bb, HG.out.2.2.1.next bb, next_trans HG.out.2.2.2 bb⟩)
       have G := hid (show i + gk = xn ∧ (D.take (i + 1)).all (termOkB d.1) = bt from ⟨HG.out.1, by rw [HB.out, HBT.out]; rfl⟩)
       clear bb LT HG k0 HB HBT
       go_wp2
       go_roundg (gk - 1)
       case measure => have := G.out.1; omega
       case rel => exact ⟨i + 1, bt, rfl, by simp, by have := G.out.1; omega, G.out.2.symm, F.out⟩
     ·have i1 : ¬ (i : Int) < (xn : Int) := by omega
      have HB := hid (show bo = q from by rw [HQ.out, hbo, List.take_of_length_le (by rw [HX.out.2.1]; omega)])
      clear hg hbo
      have c0 : wr.cell? ⟨sb, 0, none⟩ = some (.slice A m cs) := rs.cell 0
      have c1 : wr.cell? ⟨sb, 1, none⟩ = some (.slice V r cv) := rs.cell 1
      have y0 : wr.cell? ⟨w.heap.size + 1, 0, none⟩ = some (.slice none 0 0) := rr.cell 0
      have y1 : wr.cell? ⟨w.heap.size + 1, 1, none⟩ = some (.slice none 0 0) := rr.cell 1
      have g0 := rr.free 0
      have g1 := rr.free 1
      have ra := Row.put rr 0 (.slice A m cs)
      have y2 : (wr.setCell ⟨w.heap.size + 1, 0, none⟩ (.slice A m cs)).cell? ⟨w.heap.size + 1, 1, none⟩ = some (.slice none 0 0) := ra.cell 1
      have g2 := ra.free 1
      have rb := Row.put ra 1 (.slice V r cv)
      have u0 : ((wr.setCell ⟨w.heap.size + 1, 0, none⟩ (.slice A m cs)).setCell ⟨w.heap.size + 1, 1, none⟩ (.slice V r cv)).cell? ⟨w.heap.size + 1, 0, none⟩ = some (.slice A m cs) := rb.cell 0
      have u1 : ((wr.setCell ⟨w.heap.size + 1, 0, none⟩ (.slice A m cs)).setCell ⟨w.heap.size + 1, 1, none⟩ (.slice V r cv)).cell? ⟨w.heap.size + 1, 1, none⟩ = some (.slice V r cv) := rb.cell 1
      have FZ : AnsSrc w (.slice A m cs) (.slice V r cv) q (.returned (.tuple #[.agg #[.slice A m cs, .slice V r cv], .bool bo])) ((wr.setCell ⟨w.heap.size + 1, 0, none⟩ (.slice A m cs)).setCell ⟨w.heap.size + 1, 1, none⟩ (.slice V r cv)) := ⟨A, m, cs, V, r, cv, bo, rfl, HB.out, fun _ => ⟨rfl, rfl⟩, (bel.setCell (by show _ ≤ w.heap.size + 1; omega) _).setCell (by show _ ≤ w.heap.size + 1; omega) _⟩
      have HFZ := hid FZ
      clear FZ ra rb rs rr bel HQ
      go_wp2
      exact bodyPost_ret (v := .tuple #[.agg #[.slice A m cs, .slice V r cv], .bool bo]) (by simp [results, Try.results41, go_sem, u0, u1]) rfl HFZ.out
   ·have HQ := hid (show false = q from by rw [← hq]; unfold srcB; rw [ok, steps_out (fun h => hn1 h.2)]; rfl)
    clear hq ok
    go_enter Try.func41, Try.ntmps41
    go_wp2_with fail
    rw [← HW.out]
    refine LS.out.mono ?_
    rintro e w1 ⟨he, bb⟩
    have he : e = .returned (.tuple #[.agg #[.slice A m cs, .slice V r cv], .bool true]) := he
    subst he
    obtain ⟨sb, hsb⟩ : ∃ sb, w1.heap.size = sb := ⟨_, rfl⟩
    have HSB := hid (show w1.heap.size = sb ∧ True from ⟨hsb, trivial⟩)
    have H1 := hid (show Row (w1.alloc (.cells #[.slice A m cs, .slice V r cv] 74)) sb 74 #[.slice A m cs, .slice V r cv] ∧ Row (w1.alloc (.cells #[.slice A m cs, .slice V r cv] 74)) (w.heap.size + 1) 74 #[.slice none 0 0, .slice none 0 0] ∧ Below w.heap.size w (w1.alloc (.cells #[.slice A m cs, .slice V r cv] 74)) from ⟨by rw [← HSB.out.1]; exact Row.new _ _ _, (rR.next bb).alloc _, (next_trans bel bb).alloc (next_trans bel bb).size _⟩)
    clear bb bel rA rR LS HW
    go_wp2_with fail
    try rw [hsb]
    clear hsb
    go_loopg [9, 28] xn (fun g b_ i_ wr => ∃ i : Nat, b_ = .bool false ∧ i_ = .int .i64 (i : Int) ∧ i + g = xn ∧ Row wr sb 74 #[.slice A m cs, .slice V r cv] ∧ Row wr (w.heap.size + 1) 74 #[.slice none 0 0, .slice none 0 0] ∧ Below w.heap.size w wr)
    case atStart => exact ⟨0, by first | rfl | rw [decide_eq_false (by omega)], rfl, by omega, H1.out⟩
    case round =>
     obtain ⟨i, rfl, rfl, hg, rs, rr, bel⟩ := hrel
     by_cases hi : i < xn
     ·obtain ⟨b, off, T, tn, tc, rfl, hb, cT, -, -⟩ := rd_term HX.out.1 bel hi
      have i0 : (0 : Int) ≤ (i : Int) := by omega
      have i1 : (i : Int) < (xn : Int) := by omega
      have F := hid (show i + gk = xn ∧ Row wr sb 74 #[.slice A m cs, .slice V r cv] ∧ Row wr (w.heap.size + 1) 74 #[.slice none 0 0, .slice none 0 0] ∧ Below w.heap.size w wr from ⟨hg, rs, rr, bel⟩)
      clear hg rs rr bel
      go_wp2
      go_roundg (gk - 1)
      case measure => have := F.out.1; omega
      case rel => exact ⟨i + 1, rfl, by simp, by have := F.out.1; omega, F.out.2⟩
     ·have i1 : ¬ (i : Int) < (xn : Int) := by omega
      clear hg
      have c0 : wr.cell? ⟨sb, 0, none⟩ = some (.slice A m cs) := rs.cell 0
      have c1 : wr.cell? ⟨sb, 1, none⟩ = some (.slice V r cv) := rs.cell 1
      have y0 : wr.cell? ⟨w.heap.size + 1, 0, none⟩ = some (.slice none 0 0) := rr.cell 0
      have y1 : wr.cell? ⟨w.heap.size + 1, 1, none⟩ = some (.slice none 0 0) := rr.cell 1
      have g0 := rr.free 0
      have g1 := rr.free 1
      have ra := Row.put rr 0 (.slice A m cs)
      have y2 : (wr.setCell ⟨w.heap.size + 1, 0, none⟩ (.slice A m cs)).cell? ⟨w.heap.size + 1, 1, none⟩ = some (.slice none 0 0) := ra.cell 1
      have g2 := ra.free 1
      have rb := Row.put ra 1 (.slice V r cv)
      have u0 : ((wr.setCell ⟨w.heap.size + 1, 0, none⟩ (.slice A m cs)).setCell ⟨w.heap.size + 1, 1, none⟩ (.slice V r cv)).cell? ⟨w.heap.size + 1, 0, none⟩ = some (.slice A m cs) := rb.cell 0
      have u1 : ((wr.setCell ⟨w.heap.size + 1, 0, none⟩ (.slice A m cs)).setCell ⟨w.heap.size + 1, 1, none⟩ (.slice V r cv)).cell? ⟨w.heap.size + 1, 1, none⟩ = some (.slice V r cv) := rb.cell 1
      have FZ : AnsSrc w (.slice A m cs) (.slice V r cv) q (.returned (.tuple #[.agg #[.slice A m cs, .slice V r cv], .bool false])) ((wr.setCell ⟨w.heap.size + 1, 0, none⟩ (.slice A m cs)).setCell ⟨w.heap.size + 1, 1, none⟩ (.slice V r cv)) := ⟨A, m, cs, V, r, cv, false, rfl, HQ.out, (fun e => by cases e), (bel.setCell (by show _ ≤ w.heap.size + 1; omega) _).setCell (by show _ ≤ w.heap.size + 1; omega) _⟩
      have HFZ := hid FZ
      clear FZ ra rb rs rr bel HQ
      go_wp2
      exact bodyPost_ret (v := .tuple #[.agg #[.slice A m cs, .slice V r cv], .bool false]) (by simp [results, Try.results41, go_sem, u0, u1]) rfl HFZ.out
  ·have HQ := hid (show false = q from by rw [← hq]; unfold srcB; rw [ok, steps_out (fun h => hn0 h.1)]; rfl)
   clear hq ok
   go_enter Try.func41, Try.ntmps41
   go_wp2_with fail
   rw [← HW.out]
   refine LS.out.mono ?_
   rintro e w1 ⟨he, bb⟩
   have he : e = .returned (.tuple #[.agg #[.slice A m cs, .slice V r cv], .bool true]) := he
   subst he
   obtain ⟨sb, hsb⟩ : ∃ sb, w1.heap.size = sb := ⟨_, rfl⟩
   have HSB := hid (show w1.heap.size = sb ∧ True from ⟨hsb, trivial⟩)
   have H1 := hid (show Row (w1.alloc (.cells #[.slice A m cs, .slice V r cv] 74)) sb 74 #[.slice A m cs, .slice V r cv] ∧ Row (w1.alloc (.cells #[.slice A m cs, .slice V r cv] 74)) (w.heap.size + 1) 74 #[.slice none 0 0, .slice none 0 0] ∧ Below w.heap.size w (w1.alloc (.cells #[.slice A m cs, .slice V r cv] 74)) from ⟨by rw [← HSB.out.1]; exact Row.new _ _ _, (rR.next bb).alloc _, (next_trans bel bb).alloc (next_trans bel bb).size _⟩)
   clear bb bel rA rR LS HW
   go_wp2_with fail
   try rw [hsb]
   clear hsb
   go_loopg [9, 28] xn (fun g b_ i_ wr => ∃ i : Nat, b_ = .bool false ∧ i_ = .int .i64 (i : Int) ∧ i + g = xn ∧ Row wr sb 74 #[.slice A m cs, .slice V r cv] ∧ Row wr (w.heap.size + 1) 74 #[.slice none 0 0, .slice none 0 0] ∧ Below w.heap.size w wr)
   case atStart => exact ⟨0, by first | rfl | rw [decide_eq_false (by omega)], rfl, by omega, H1.out⟩
   case round =>
    obtain ⟨i, rfl, rfl, hg, rs, rr, bel⟩ := hrel
    by_cases hi : i < xn
    ·obtain ⟨b, off, T, tn, tc, rfl, hb, cT, -, -⟩ := rd_term HX.out.1 bel hi
     have i0 : (0 : Int) ≤ (i : Int) := by omega
     have i1 : (i : Int) < (xn : Int) := by omega
     have F := hid (show i + gk = xn ∧ Row wr sb 74 #[.slice A m cs, .slice V r cv] ∧ Row wr (w.heap.size + 1) 74 #[.slice none 0 0, .slice none 0 0] ∧ Below w.heap.size w wr from ⟨hg, rs, rr, bel⟩)
     clear hg rs rr bel
     go_wp2
     go_roundg (gk - 1)
     case measure => have := F.out.1; omega
     case rel => exact ⟨i + 1, rfl, by simp, by have := F.out.1; omega, F.out.2⟩
    ·have i1 : ¬ (i : Int) < (xn : Int) := by omega
     clear hg
     have c0 : wr.cell? ⟨sb, 0, none⟩ = some (.slice A m cs) := rs.cell 0
     have c1 : wr.cell? ⟨sb, 1, none⟩ = some (.slice V r cv) := rs.cell 1
     have y0 : wr.cell? ⟨w.heap.size + 1, 0, none⟩ = some (.slice none 0 0) := rr.cell 0
     have y1 : wr.cell? ⟨w.heap.size + 1, 1, none⟩ = some (.slice none 0 0) := rr.cell 1
     have g0 := rr.free 0
     have g1 := rr.free 1
     have ra := Row.put rr 0 (.slice A m cs)
     have y2 : (wr.setCell ⟨w.heap.size + 1, 0, none⟩ (.slice A m cs)).cell? ⟨w.heap.size + 1, 1, none⟩ = some (.slice none 0 0) := ra.cell 1
     have g2 := ra.free 1
     have rb := Row.put ra 1 (.slice V r cv)
     have u0 : ((wr.setCell ⟨w.heap.size + 1, 0, none⟩ (.slice A m cs)).setCell ⟨w.heap.size + 1, 1, none⟩ (.slice V r cv)).cell? ⟨w.heap.size + 1, 0, none⟩ = some (.slice A m cs) := rb.cell 0
     have u1 : ((wr.setCell ⟨w.heap.size + 1, 0, none⟩ (.slice A m cs)).setCell ⟨w.heap.size + 1, 1, none⟩ (.slice V r cv)).cell? ⟨w.heap.size + 1, 1, none⟩ = some (.slice V r cv) := rb.cell 1
     have FZ : AnsSrc w (.slice A m cs) (.slice V r cv) q (.returned (.tuple #[.agg #[.slice A m cs, .slice V r cv], .bool false])) ((wr.setCell ⟨w.heap.size + 1, 0, none⟩ (.slice A m cs)).setCell ⟨w.heap.size + 1, 1, none⟩ (.slice V r cv)) := ⟨A, m, cs, V, r, cv, false, rfl, HQ.out, (fun e => by cases e), (bel.setCell (by show _ ≤ w.heap.size + 1; omega) _).setCell (by show _ ≤ w.heap.size + 1; omega) _⟩
     have HFZ := hid FZ
     clear FZ ra rb rs rr bel HQ
     go_wp2
     exact bodyPost_ret (v := .tuple #[.agg #[.slice A m cs, .slice V r cv], .bool false]) (by simp [results, Try.results41, go_sem, u0, u1]) rfl HFZ.out
end longest
end
section
namespace longest
open Go.RowKit base ints sig term termOk marks app sym sub segs segsHelp termFacts varsOf shape kindsR kindsW ruleMath ruleSpec ruleImpl stepMath walkMath stepSpec stepImpl reachMath findW findSpec bySpec iter
set_option maxRecDepth 100000
theorem src_one {sg : List Int} {rs : List Rl} {n : Int} {t : List Int} : srcB sg rs n [t] = right9 sg rs t n := by
 unfold srcB right9 rightB
 simp only [List.all_cons, List.all_nil, Bool.and_true]
 rw [Bool.and_assoc, Bool.and_comm (stepsB n)]
theorem one_small {t : List Int} (h : t.length ≤ 1048576) : ∀ k, (([t] : List (List Int)).getD k []).length ≤ 1048576 := fun k => by
 cases k with
 | zero => exact h
 | succ k => simp
end longest
end
section
open Go.Lib (hid)
namespace reachImplB
open Go.RowKit base ints sig term termOk marks app appAt sym sub segs segsHelp termFacts varsOf shape kindsR kindsW ruleMath ruleSpec ruleImpl stepMath walkMath stepSpec stepImpl reachMath findW findSpec bySpec iter longest ownL reachImpl known pickOwn reachSpec drawX
set_option maxRecDepth 100000
theorem seg_ad {w : World} {B m : Nat} {T : Option Addr} {t : List Int} (h : Seg w B T m t) (h0 : 0 < m) : ∃ b off, T = some ⟨b, off, none⟩ := by
 obtain ⟨b, off, e, -⟩ := h.2 h0
 exact ⟨b, off, e⟩
theorem right_pos {sg : List Int} {rs : List Rl} {t : List Int} (h : rightB sg rs t = true) : 0 < t.length := by
 unfold rightB at h
 rw [Bool.and_eq_true] at h
 exact (term_len h.2).1
theorem _root_.Go.Proofs.Ythdmhhmnipoceaa.reachSpec.AnsTs.next {w w1 w2 : World} {D : List (List Int)} {b : Bool} {e : Ending} (h : AnsTs w D b e w1) (hb : Below w1.heap.size w1 w2) : AnsTs w D b e w2 := by
 obtain ⟨A, n, c, h1, h2, h3⟩ := h
 exact ⟨A, n, c, h1, (h2.next hb).wider (Nat.le_refl _) hb.size, next_trans h3 hb⟩
structure Gath (V : World) (mid N rb : Nat) (L : List Fi) (G : Nat → List Nat) (cs : Array Value) (i : Nat) (A : Option Addr) (c : Nat) (wr : World) : Prop where
 row : ∃ vs, wr.ownsRow mid 22 1 (.slice A i c) i vs ∧ ∀ j f, j < i → L[j]? = some f → ∃ u, vs[j]? = some u ∧ Ow V sI [u] (termF f) (G j)
 nil : A = none → c = 0
 box : Row wr rb 81 cs
 bel : Below mid V wr
set_option maxHeartbeats 2000000 in
theorem implReachOfB (a v u : Value) (d : Dat sSystem) (t : List Int) (n : Int) (w : World) (h : Rd w w.heap.size sSystem [a, v] d) (ht : Rd w w.heap.size sI [u] t) (hz : sz sSystem d ≤ 1048576) (hz' : sz sI t ≤ 1048576) :
  Calls Try.prog 24 #[.agg #[a, v], u, .int .i64 n] w (AnsTs w (reachI d.1 d.2 t n) (allI d.1 d.2 t n)) := by
 obtain ⟨T, m, c, rfl, hT, hcT⟩ := rd_ints.1 ht
 have htl : t.length ≤ 1048576 := by rwa [sz_ints] at hz'
 obtain ⟨W, hW, rA, rL, bel⟩ := box2 w 34 22 #[a, v] #[.slice T m c]
 have HW := hid hW
 have LS := hid (searchIn a v n (some ⟨w.heap.size + 1, 0, none⟩) 1 1 [t] d W (h.next bel) hz (rd_one rL rL.lt (ht.next bel)) (by omega) (one_small htl))
 rw [src_one] at LS
 have HH := hid (show Rd w w.heap.size sSystem [a, v] d ∧ Seg w w.heap.size T m t ∧ sz sSystem d ≤ 1048576 from ⟨h, hT, hz⟩)
 clear hW h ht hT hcT rL hz
 cases ok : right9 d.1 d.2 t n with
 | false =>
  have HO := hid (reach_no ok)
  rw [ok] at LS
  clear ok
  go_enter Try.func24, Try.ntmps24
  go_wp2_with fail
  rw [← HW.out]
  refine LS.out.mono ?_
  rintro e w1 ⟨x1, x2, x3, y1, y2, y3, b, rfl, rfl, -, bb⟩
  have F := hid (show AnsTs w (reachI d.1 d.2 t n) (allI d.1 d.2 t n) (.returned (.tuple #[.slice none 0 0, .bool false])) (w1.alloc (.cells #[.slice x1 x2 x3, .slice y1 y2 y3] 74)) from
   ⟨none, 0, 0, by rw [HO.out.2], by rw [HO.out.1]; exact (OwnL.nil _ _ _ 22 sI).owned, (next_trans bel bb).alloc (next_trans bel bb).size _⟩)
  clear bb bel rA LS HW
  go_wp2
  go_ret2
  exact F.out
 | true =>
  obtain ⟨q1, q2, q3⟩ := r9_parts ok
  obtain ⟨N, rfl⟩ : ∃ N : Nat, n = (N : Int) := ⟨n.toNat, by omega⟩
  have HO := hid (reach_yes ok)
  rw [ok] at LS
  obtain ⟨bT, off, rfl⟩ := seg_ad HH.out.2.1 (by rw [← HH.out.2.1.1]; exact right_pos q1)
  have LL := hid (fun (w1 : World) (bb : Below w.heap.size w w1) => implReachOf a v bT off m c d t N w1 (HH.out.1.next bb) (HH.out.2.1.next bb) HH.out.2.2 q1 (by omega))
  clear ok q2 q3
  go_enter Try.func24, Try.ntmps24
  go_wp2_with fail
  rw [← HW.out]
  refine LS.out.mono ?_
  rintro e w1 ⟨x1, x2, x3, y1, y2, y3, b, rfl, rfl, hxy, bb⟩
  obtain ⟨rfl, rfl⟩ := hxy rfl
  have b2 : Below w.heap.size w (w1.alloc (.cells #[.slice x1 x2 x3, .slice y1 y2 y3] 74)) := (next_trans bel bb).alloc (next_trans bel bb).size _
  have L2 := hid (LL.out _ b2)
  have B2 := hid b2
  clear bb bel rA LS HW LL b2 hxy
  go_wp2_with fail
  refine L2.out.mono ?_
  rintro e w2 ⟨O, on, oc, mb, cnt, rfl, oL, -, hmb, bb⟩
  obtain ⟨S, hS⟩ : ∃ S, fdA d.1 d.2 t N = S := ⟨_, rfl⟩
  have hsm := fd_small (n := N) q1
  rw [hS] at oL hsm HO ⊢
  obtain ⟨vs, G, oG⟩ := named oL
  have hon : S.1.length = on := by have := oG.1; simpa using this
  obtain ⟨V, hV⟩ : ∃ V, V = w2.alloc (.cells #[.slice O on oc, .map (some mb), .bool S.2] 81) := ⟨_, rfl⟩
  have bV : Below w2.heap.size w2 V := by rw [hV]; exact (Below.refl _ _).alloc (Nat.le_refl _) _
  have b3 : Below w.heap.size w V := next_trans (next_trans B2.out bb) bV
  have rV : Row V w2.heap.size 81 #[.slice O on oc, .map (some mb), .bool S.2] := by rw [hV]; exact Row.new _ _ _
  have oV := oG.below bV
  have GS := hid (show Gath V V.heap.size on w2.heap.size S.1 G #[.slice O on oc, .map (some mb), .bool S.2] 0 none 0 V from ⟨⟨[], World.ownsRow_nil _ _ _ _, fun j f hj => by omega⟩, fun _ => rfl, rV, Below.refl _ _⟩)
  have HVV := hid (show V = w2.alloc (.cells #[.slice O on oc, .map (some mb), .bool S.2] 81) ∧ OwnG V (w1.alloc (.cells #[.slice x1 x2 x3, .slice y1 y2 y3] 74)).heap.size w2.heap.size 84 sFind O on oc (S.1.map fdat) vs G ∧ Below w.heap.size w V ∧ w2.heap.size < V.heap.size ∧ w.heap.size ≤ (w1.alloc (.cells #[.slice x1 x2 x3, .slice y1 y2 y3] 74)).heap.size ∧ (w1.alloc (.cells #[.slice x1 x2 x3, .slice y1 y2 y3] 74)).heap.size ≤ w2.heap.size from ⟨hV, oV, b3, rV.lt, B2.out.size, bb.size⟩)
  have HN := hid (show S.1.length = on ∧ on ≤ 60 from ⟨hon, by omega⟩)
  have k0 : V.cell? ⟨w2.heap.size, 0, none⟩ = some (.slice O on oc) := rV.cell 0
  have HS := hid (show reachI d.1 d.2 t (N : Int) = termsF S.1 ∧ allI d.1 d.2 t (N : Int) = S.2 from HO.out)
  clear oL oG oV hsm hS bb hV bV b3 rV hon L2 B2 q1 HH HO hmb
  go_wp2_with fail
  rw [← HVV.out.1]
  go_loopg [11, 31] on (fun g t_ i_ wr => ∃ (i : Nat) (A : Option Addr) (c : Nat), t_ = .slice A i c ∧ i_ = .int .i64 (i : Int) ∧ i + g = on ∧ Gath V V.heap.size on w2.heap.size S.1 G #[.slice O on oc, .map (some mb), .bool S.2] i A c wr)
  case atStart => exact ⟨0, none, 0, rfl, rfl, by omega, GS.out⟩
  case round =>
   clear GS
   obtain ⟨i, A, ac, rfl, rfl, hg, HG⟩ := hrel
   have HGG := hid (show i + gk = on ∧ Gath V V.heap.size on w2.heap.size S.1 G #[.slice O on oc, .map (some mb), .bool S.2] i A ac wr from ⟨hg, HG⟩)
   by_cases hi : i < on
   ·obtain ⟨f, hf⟩ : ∃ f, S.1[i]? = some f := ⟨_, List.getElem?_eq_getElem (by rw [HN.out.1]; exact hi)⟩
    obtain ⟨vs', hrow, hvs⟩ := HG.row
    obtain ⟨g, T', tn', tc', rfl, -, -, hgm, -, ⟨e0, e1, e2, e3, e4⟩, -, o2⟩ := HVV.out.2.1.find hf
    have hgv : g < V.heap.size := by have := HVV.out.2.2.2.1; omega
    replace e0 := (HG.bel.cell (p := ⟨g, i * 5, none⟩) hgv).trans e0
    replace e1 := (HG.bel.cell (p := ⟨g, i * 5 + 1, none⟩) hgv).trans e1
    replace e2 := (HG.bel.cell (p := ⟨g, i * 5 + 2, none⟩) hgv).trans e2
    replace e3 := (HG.bel.cell (p := ⟨g, i * 5 + 3, none⟩) hgv).trans e3
    replace e4 := (HG.bel.cell (p := ⟨g, i * 5 + 4, none⟩) hgv).trans e4
    have i0 : (0 : Int) ≤ (i : Int) := by omega
    have i1 : (i : Int) < (on : Int) := by omega
    have i5 : i ≤ 1048576 := by have := HN.out.2; omega
    have zV := HG.bel.size
    obtain ⟨V5, hV5⟩ : ∃ V5, V5 = (wr.alloc (.cells #[.int .i64 f.1.1, .int .i64 f.1.2.1, .slice T' tn' tc', .int .i64 (f.2.1 : Int), .int .i64 (f.2.2 : Int)] 84)).alloc (.cells #[.slice T' tn' tc'] 22) := ⟨_, rfl⟩
    have b5 : Below wr.heap.size wr V5 := by rw [hV5]; exact ((Below.refl _ _).alloc (Nat.le_refl _) _).alloc (by simp) _
    have r5 : Row V5 (wr.heap.size + 1) 22 #[.slice T' tn' tc'] := by
     rw [hV5]
     have := Row.new (wr.alloc (.cells #[.int .i64 f.1.1, .int .i64 f.1.2.1, .slice T' tn' tc', .int .i64 (f.2.1 : Int), .int .i64 (f.2.2 : Int)] 84)) 22 #[.slice T' tn' tc']
     simpa using this
    have h5 : V5.ownsRow V.heap.size 22 1 (.slice A i ac) i vs' := by rw [hV5]; exact (hrow.alloc _).alloc _
    have HV5 := hid (show V5 = (wr.alloc (.cells #[.int .i64 f.1.1, .int .i64 f.1.2.1, .slice T' tn' tc', .int .i64 (f.2.1 : Int), .int .i64 (f.2.2 : Int)] 84)).alloc (.cells #[.slice T' tn' tc'] 22) ∧ Below wr.heap.size wr V5 ∧ Row V5 (wr.heap.size + 1) 22 #[.slice T' tn' tc'] ∧ V5.ownsRow V.heap.size 22 1 (.slice A i ac) i vs' ∧ V.heap.size ≤ V5.heap.size from ⟨hV5, b5, r5, h5, Nat.le_trans zV b5.size⟩)
    have HO2 := hid (show (∀ j f, j < i → S.1[j]? = some f → ∃ u, vs'[j]? = some u ∧ Ow V sI [u] (termF f) (G j)) ∧ Ow V sI [.slice T' tn' tc'] (termF f) (G i) ∧ S.1[i]? = some f ∧ vs'.length = i from ⟨hvs, o2, hf, by have := hrow.1; omega⟩)
    have HB := hid (HG.box)
    clear hV5 b5 r5 h5 hrow hvs hf o2 hg HG hgm hgv
    go_wp2_with (at_builtin; rw [← HV5.out.1]; refine appR rfl _ _ 29 22 1 _ _ Try.underlying29 info_list rfl (by decide) (by decide) rfl V.heap.size A i ac vs' rfl HV5.out.2.2.2.1 (wr.heap.size + 1) 1 [.slice T' tn' tc'] rfl (by intro u hu; rw [List.mem_singleton.1 hu]; rfl) rfl (by intro q hq; have hq0 : q = 0 := (by have : q < 1 := hq; omega); subst hq0; exact HV5.out.2.2.1.cell 0) i5 HV5.out.2.2.2.2 ?_; intro g7 c7 w7 h7 hg7 hat7 b7; refine (?_ : Hid _).out)
    have F := hid (show Gath V V.heap.size on w2.heap.size S.1 G #[.slice (some ⟨g, 0, none⟩) on oc, .map (some mb), .bool S.2] (i + 1) (some ⟨g7, 0, none⟩) c7 w7 from by
     obtain ⟨p1, p2, p3, p4⟩ := HO2.out
     refine ⟨⟨_, h7, fun j f' hj hf' => ?_⟩, (fun e => by cases e), (HB.out.next HV5.out.2.1).below b7 HVV.out.2.2.2.1, (next_trans HGG.out.2.bel HV5.out.2.1).trans b7⟩
     by_cases hji : j < i
     ·obtain ⟨u, q1, q2⟩ := p1 j f' hji hf'
      exact ⟨u, by rw [List.getElem?_append_left (by omega)]; exact q1, q2⟩
     ·obtain rfl : j = i := by omega
      rw [p3] at hf'
      injection hf' with hf'
      subst hf'
      exact ⟨_, by rw [List.getElem?_append_right (by omega), p4, Nat.sub_self]; rfl, p2⟩)
    have G1 := hid HGG.out.1
    clear h7 hg7 hat7 b7 HO2 HB HGG HV5 e0 e1 e2 e3 e4 V5
    refine hid ?_
    go_wp2
    go_roundg (gk - 1)
    case measure => have := G1.out; omega
    case rel => exact ⟨i + 1, some ⟨g7, 0, none⟩, c7, rfl, by simp, by have := G1.out; omega, F.out⟩
   ·obtain rfl : i = on := by omega
    have i1 : ¬ (i : Int) < (i : Int) := by omega
    have k2 : wr.cell? ⟨w2.heap.size, 2, none⟩ = some (.bool S.2) := HG.box.cell 2
    have F := hid (show AnsTs w (reachI d.1 d.2 t (N : Int)) (allI d.1 d.2 t (N : Int)) (.returned (.tuple #[.slice A i ac, .bool S.2])) wr from by
     refine ⟨A, i, ac, by rw [HS.out.2], ?_, HVV.out.2.2.1.trans (HG.bel.mono HVV.out.2.2.1.size)⟩
     obtain ⟨vs', hrow, hvs⟩ := HG.row
     have hG := HVV.out.2.1.below (HG.bel.mono (by have := HVV.out.2.2.2.1; omega))
     rw [HS.out.1]
     refine (OwnL.owned (pick (s' := sI) (σ := fun j => j) hG (row_lower hrow (by have := HVV.out.2.2.2.1; omega)) HG.nil (HVV.out.2.2.2.2.2) (fun j hj => hj) (fun _ _ _ _ e => e) (by rw [termsF_len]; exact HN.out.1) fun j hj => ?_)).wider HVV.out.2.2.2.2.1 (Nat.le_refl _)
     obtain ⟨f, hf⟩ : ∃ f, S.1[j]? = some f := ⟨_, List.getElem?_eq_getElem (by rw [HN.out.1]; exact hj)⟩
     obtain ⟨u, q1, q2⟩ := hvs j f hj hf
     rw [show (termsF S.1).getD j (dft sI) = termF f from term_get hf]
     show Ow wr sI (cellsOf 1 vs' j) (termF f) (G j)
     rw [cells_one q1]
     exact q2.keep fun q hq => HG.bel.block q (q2.lt q hq))
    clear HG HGG
    go_wp2
    go_quiet (fail)
    go_wp2
    go_ret2
    exact F.out.next (Go.Proofs.Ythdmhhmnipoceaa.kinds.drewN_below wr nq)
end reachImplB
end
section
namespace reachX
open Go.RowKit base sig term marks app sym segs shape kindsR kindsW kindsT varsOf ruleMath ruleSpec stepMath walkMath stepSpec termFacts term reachMath reachSpec reachImplB
theorem lists_sz {L : List (List Int)} {C : Nat} (h : ∀ s ∈ L, s.length ≤ C) : sz sInt64SS L ≤ L.length * (C + 1) := by
 induction L with
 | nil => exact Nat.zero_le _
 | cons x r ih =>
  have h1 := ih (fun s hs => h s (List.mem_cons_of_mem _ hs))
  have h2 := h x (List.mem_cons_self ..)
  have e : sz sInt64SS (x :: r) = (r.length + 1) + (sz sI x + (r.map (sz sI)).sum) := rfl
  have e2 : sz sInt64SS r = r.length + (r.map (sz sI)).sum := rfl
  rw [e, sz_ints, List.length_cons, Nat.add_mul]
  rw [e2] at h1
  omega
theorem reach_sz {sg : List Int} {rs : List Rl} {t : List Int} {x : Int} : sz sInt64SS (reachI sg rs t x) ≤ 1048576 := by
 cases h : right9 sg rs t x with
 | false => rw [(reach_no h).1]; exact Nat.zero_le _
 | true =>
  have h1 := (longest.r9_parts h).1
  unfold reachI
  rw [if_pos h]
  have hI := fd_inv (sg := sg) (rs := rs) (t := t) (n := x.toNat)
  have h2 := h1
  unfold rightB at h2
  rw [Bool.and_eq_true] at h2
  have a := lists_sz (L := termsF (fdA sg rs t x.toNat).1) (C := 60) (fun s hs => by
   obtain ⟨f, hf, rfl⟩ := List.mem_map.1 hs
   exact (term_len (find_ok h2.1 h2.2 hI hf)).2)
  rw [termsF_len] at a
  have b : (fdA sg rs t x.toNat).1.length * (60 + 1) ≤ 60 * 61 := Nat.mul_le_mul hI.len60 (Nat.le_refl _)
  omega
end reachX
end
section
namespace normsImpl
open Go.RowKit Go.Shelf base ints sig term termOk marks app appAt sym sub segs segsHelp inside termFacts varsOf shape kindsR kindsW ruleMath ruleSpec ruleImpl stepMath walkMath stepSpec stepImpl reachMath findW findSpec iter longest ownL pickOwn reachSpec reachImplB delFunc reachX
set_option maxRecDepth 100000
set_option maxHeartbeats 1000000 in
theorem normTest (a v : Value) (sb lo : Nat) (d : Dat sSystem) (w : World) (hr : Row w sb 34 #[a, v]) (hsb : sb < lo) (h : Rd w sb sSystem [a, v] d) (hz : sz sSystem d ≤ 1048576) : TestsL 25 #[.pointer (some ⟨sb, 0, none⟩)] lo w (fun y => !normalB d.1 d.2 y) := by
 intro W D dn dc ys hb hs hn hc
 have k0 : W.cell? ⟨sb, 0, none⟩ = some a := (hr.below hb hsb).cell 0
 have k1 : W.cell? ⟨sb, 1, none⟩ = some v := (hr.below hb hsb).cell 1
 have zW : sb < W.heap.size := (hr.below hb hsb).lt
 have LN := Lib.hid (implNormalIn a v (.slice D dn dc) d ys W ((h.below (hb.mono (by omega))).more (by omega)) (rd_ints.2 ⟨D, dn, dc, rfl, hs, hc⟩) hz (by rw [sz_ints, hs.1]; exact hn))
 obtain ⟨b, hbv⟩ : ∃ b, normalB d.1 d.2 ys = b := ⟨_, rfl⟩
 show Calls _ _ _ W (Tells W (!normalB d.1 d.2 ys))
 rw [hbv] at LN ⊢
 clear hr h hs hc hbv hb
 go_enter Try.func25, Try.ntmps25
 cases b <;> go_wp2_with (first | (go_at_call 26; refine LN.out.mono ?_; rintro e w1 ⟨rfl, bb⟩))
 ·go_ret
  exact ⟨rfl, bb⟩
 ·go_ret
  exact ⟨rfl, bb⟩
set_option maxHeartbeats 1000000 in
theorem implNormalsOf (a v u : Value) (d : Dat sSystem) (t : List Int) (n : Int) (w : World) (h : Rd w w.heap.size sSystem [a, v] d) (ht : Rd w w.heap.size sI [u] t) (hz : sz sSystem d ≤ 1048576) (hz' : sz sI t ≤ 1048576) :
  Calls Try.prog 8 #[.agg #[a, v], u, .int .i64 n] w (Copy1 w sTs (normsI d.1 d.2 t n)) := by
 obtain ⟨W, hW, rA, bel⟩ := box1 w 34 #[a, v]
 have HW := Lib.hid hW
 have zW : W.heap.size = w.heap.size + 1 := by rw [hW]; simp
 have LR := Lib.hid (implReachOfB a v u d t n W (h.next bel) (ht.next bel) hz hz')
 have HH := Lib.hid (show Rd w w.heap.size sSystem [a, v] d ∧ sz sSystem d ≤ 1048576 ∧ Below w.heap.size w W ∧ Row W w.heap.size 34 #[a, v] ∧ W.heap.size = w.heap.size + 1 from ⟨h, hz, bel, rA, zW⟩)
 have eg := enters_of Try.func25 (by kernel_rfl) rfl
 clear hW h ht zW bel rA
 obtain ⟨al, hal⟩ : ∃ b, allI d.1 d.2 t n = b := ⟨_, rfl⟩
 rw [hal] at LR
 clear hal
 go_enter Try.func8, Try.ntmps8
 go_wp2_with fail
 rw [← HW.out]
 refine LR.out.mono ?_
 rintro e w2 ⟨A, m, c, rfl, oD, bb⟩
 have oL := owned_ownL (e := 22) oD
 have hml : (reachI d.1 d.2 t n).length = m := oL.1
 have hsz := reach_sz (sg := d.1) (rs := d.2) (t := t) (x := n)
 have LD := Lib.hid (delFunc 25 #[.pointer (some ⟨w.heap.size, 0, none⟩)] eg (fun y => !normalB d.1 d.2 y) A m c W.heap.size w2.heap.size (reachI d.1 d.2 t n) w2
  (normTest a v w.heap.size W.heap.size d w2 (HH.out.2.2.2.1.next bb) (by have := HH.out.2.2.2.2; omega) (HH.out.1.below (next_trans HH.out.2.2.1 bb)) HH.out.2.1) oL
  (by have := sz_len hsz; rw [hml] at this; exact this) (fun j => by
   by_cases hj : j < (reachI d.1 d.2 t n).length
   ·have := sz_each (e := 22) (s := sI) hsz hj
    have h9 : sz sI ((reachI d.1 d.2 t n).getD j []) ≤ 1048576 := this
    rwa [sz_ints] at h9
   ·simp [List.getD, List.getElem?_eq_none (show (reachI d.1 d.2 t n).length ≤ j by omega)]) bb.size)
 have H2 := Lib.hid (show Below w.heap.size w w2 ∧ w.heap.size ≤ W.heap.size from ⟨next_trans HH.out.2.2.1 bb, HH.out.2.2.1.size⟩)
 clear oD oL hml hsz bb LR HH eg
 go_wp2_with fail
 refine LD.out.mono ?_
 rintro e w3 ⟨k, rfl, oL, bb⟩
 have F := Lib.hid (show Copy1 w sTs (normsI d.1 d.2 t n) (.returned (.slice A k c)) w3 from ⟨A, k, c, rfl, by
  have e : ((reachI d.1 d.2 t n).filter fun x => !(!normalB d.1 d.2 x)) = normsI d.1 d.2 t n := by
   unfold normsI
   congr 1
   funext x
   simp
  have := oL.owned
  rw [e] at this
  exact this.wider H2.out.2 (Nat.le_refl _), H2.out.1.trans (bb.mono H2.out.2)⟩)
 clear oL bb LD H2
 go_wp2
 go_ret
 exact F.out
end normsImpl
end
section
namespace normsX
open Go.RowKit base sig term marks app sym segs shape kindsR kindsW kindsT varsOf ruleMath ruleSpec stepMath walkMath stepSpec termFacts reachMath reachSpec reachX normsSpec normsImpl
theorem norms_sz {sg : List Int} {rs : List Rl} {t : List Int} {x : Int} : sz sInt64SS (normsI sg rs t x) ≤ 1048576 := by
 cases h : right9 sg rs t x with
 | false => rw [norms_no h]; exact Nat.zero_le _
 | true =>
  have h1 := (longest.r9_parts h).1
  have h2 := h1
  unfold rightB at h2
  rw [Bool.and_eq_true] at h2
  have hI := fd_inv (sg := sg) (rs := rs) (t := t) (n := x.toNat)
  have e : reachI sg rs t x = termsF (fdA sg rs t x.toNat).1 := by unfold reachI; rw [if_pos h]
  have a := lists_sz (L := normsI sg rs t x) (C := 60) (fun s hs => by
   have hs := (List.mem_filter.1 hs).1
   rw [e] at hs
   obtain ⟨f, hf, rfl⟩ := List.mem_map.1 hs
   exact (term_len (find_ok h2.1 h2.2 hI hf)).2)
  have b : (normsI sg rs t x).length ≤ 60 := by
   have := List.length_filter_le (normalB sg rs) (reachI sg rs t x)
   rw [e, termsF_len] at this
   have h3 := hI.len60
   show ((reachI sg rs t x).filter (normalB sg rs)).length ≤ 60
   rw [e]; omega
  have c : (normsI sg rs t x).length * (60 + 1) ≤ 60 * 61 := Nat.mul_le_mul b (Nat.le_refl _)
  omega
theorem specNormalsOfX (a v u : Value) (d : Dat sSystem) (t : List Int) (n : Int) (w : World) (h : Rd w w.heap.size sSystem [a, v] d) (ht : Rd w w.heap.size sI [u] t) (hz : sz sSystem d ≤ 1048576) (hz' : sz sI t ≤ 1048576) (_ : -9223372036854775808 ≤ n) (_ : n ≤ 9223372036854775807) :
  Calls Try.prog 5 #[.agg #[a, v], u, .int .i64 n] w (Copy1 w sInt64SS (normsI d.1 d.2 t n)) := specNormalsOf a v u d t n w h ht hz hz'
theorem implNormalsOfX (a v u : Value) (d : Dat sSystem) (t : List Int) (n : Int) (w : World) (h : Rd w w.heap.size sSystem [a, v] d) (ht : Rd w w.heap.size sI [u] t) (hz : sz sSystem d ≤ 1048576) (hz' : sz sI t ≤ 1048576) (_ : -9223372036854775808 ≤ n) (_ : n ≤ 9223372036854775807) :
  Calls Try.prog 8 #[.agg #[a, v], u, .int .i64 n] w (Copy1 w sInt64SS (normsI d.1 d.2 t n)) := implNormalsOf a v u d t n w h ht hz hz'
end normsX
end
section
open Go.Lib (hid)
namespace wNormalsOf
open Go.RowKit base ints sig cursor marks app sym appAt segs segsHelp segsMark kinds shape varsOf kindsR kindsT ruleMath ruleSpec stepMath walkMath stepSpec reachMath reachSpec normsX
set_option maxRecDepth 100000
set_option maxHeartbeats 8000000 in
theorem law (v0_0 v0_1 : Value) (d0 : Dat sSystem) (a1 : Option Addr) (n1 c1 : Nat) (d1 : List Int) (x2 : Int) (w : World) (s0 : Rd w w.heap.size sSystem [v0_0, v0_1] d0) (s1 : Rd w w.heap.size sI [.slice a1 n1 c1] d1) (b2 : (Lit.int .i64 x2).wf = true) :
  Calls Try.prog 3 #[.agg #[v0_0, v0_1], .slice a1 n1 c1, .int .i64 x2] w (Fine w) := by
 have bd2 : -9223372036854775808 ≤ x2 ∧ x2 ≤ 9223372036854775807 := by simpa [Lit.wf, IntKind.min, IntKind.max, IntKind.signed, IntKind.bits] using b2
 obtain ⟨bl2, bh2⟩ := bd2
 clear b2
 have Hl1 := hid s1.seg.1
 have cp1 := (by obtain ⟨A, c, ec, hc⟩ := s1.slice; injection ec with e1 e2 e3; subst e1 e2 e3; exact hc : Cap a1 n1 c1)
 have hN1 : n1 ≤ 9223372036854775807 := Nat.le_trans cp1.1 cp1.2.1
 clear cp1
 obtain ⟨W, hW⟩ : ∃ W, W = w.alloc (.cells #[v0_0, v0_1] 27) := ⟨_, rfl⟩
 have rA0 : Row W (w.heap.size) 27 #[v0_0, v0_1] := by rw [hW]; have := Row.new (w) 27 #[v0_0, v0_1]; simpa using this
 have bW : Below w.heap.size w W := by rw [hW]; exact (Below.refl w.heap.size w).alloc (by simp) (.cells #[v0_0, v0_1] 27)
 have zA0 := rA0.lt
 replace s0 := s0.next bW
 replace s1 := s1.next bW
 have HW := hid hW
 clear hW
 obtain ⟨t0, ht0⟩ : ∃ z, sz sSystem d0 = z := ⟨_, rfl⟩
 have HT0 := hid ht0
 clear ht0
 by_cases h1 : n1 ≤ 1048576
 case neg =>
  go_enter Try.func3, Try.ntmps3
  go_wp2_with fail
  rw [← HW.out]
  go_ret
  exact ⟨rfl, bW⟩
 have hi1 : Hid (sz sI d1 ≤ 1048576) := hid (by rw [sz_ints, Hl1.out]; exact h1)
 have hn1 := h1
 clear h1
 have h1 := hi1
 clear hi1
 go_enter Try.func3, Try.ntmps3
 go_wp2_with fail
 rw [← HW.out]
 clear HW
 have bel := Below.refl W.heap.size W
 have cA0_0 : W.cell? ⟨w.heap.size, 0, none⟩ = some (v0_0) := (rA0.next bel).cell 0
 have cA0_1 : W.cell? ⟨w.heap.size, 1, none⟩ = some (v0_1) := (rA0.next bel).cell 1
 refine (szK_System _ _ d0 (1048576) _ (s0.next bel) (by omega) (by omega)).mono ?_
 rintro e w1 ⟨he, bb⟩
 rw [HT0.out] at he
 replace bel := next_trans bel bb
 have zw1 := bb.size
 clear bb
 by_cases q0 : t0 ≤ 1048576
 case neg =>
  rw [if_pos (by omega)] at he
  subst he
  have F := hid (bW.trans (bel.mono bW.size))
  clear bel bW cA0_0 cA0_1
  go_wp2
  go_ret
  exact ⟨rfl, F.out⟩
 rw [if_neg (by omega)] at he
 subst he
 have h0 : Hid (sz sSystem d0 ≤ 1048576) := hid (by rw [HT0.out]; omega)
 clear cA0_0 cA0_1
 have cA0_0 : w1.cell? ⟨w.heap.size, 0, none⟩ = some (v0_0) := (rA0.next bel).cell 0
 have cA0_1 : w1.cell? ⟨w.heap.size, 1, none⟩ = some (v0_1) := (rA0.next bel).cell 1
 have hlen : sz sInt64SS (normsI d0.1 d0.2 d1 x2) ≤ 1048576 := norms_sz
 obtain ⟨ys, hys⟩ : ∃ ys, normsI d0.1 d0.2 d1 x2 = ys := ⟨_, rfl⟩
 rw [hys] at hlen
 have HY := hid hys
 clear hys
 replace hlen := hid hlen
 obtain ⟨cg, hcg⟩ : ∃ z, cntv sInt64SS ys = z := ⟨_, rfl⟩
 have hcG : cg ≤ 1 * 1048576 := by have j1 := cntv_le sInt64SS ys; have j2 := hlen.out; have j3 : wd sInt64SS = 1 := rfl; rw [hcg, j3] at j1; omega
 have HCG := hid hcg
 clear hcg
 obtain ⟨k0, hk0⟩ : ∃ z, cntv sSystem d0 = z := ⟨_, rfl⟩
 have hK0 : k0 ≤ 3 * 1048576 := by have j1 := cntv_le sSystem d0; have j2 := h0.out; have j3 : wd sSystem = 3 := rfl; rw [hk0, j3] at j1; omega
 have HK0 := hid hk0
 clear hk0
 obtain ⟨k1, hk1⟩ : ∃ z, cntv sI d1 = z := ⟨_, rfl⟩
 have hK1 : k1 ≤ 1 * 1048576 := by have j1 := cntv_le sI d1; have j2 := h1.out; have j3 : wd sI = 1 := rfl; rw [hk1, j3] at j1; omega
 have HK1 := hid hk1
 clear hk1
 go_wp2_with fail
 refine (toK_System _ _ d0 _ (s0.next bel) h0.out).mono ?_
 rintro e w2 ⟨p0A0, p0n0, p0c0, p0A1, p0n1, p0c1, rfl, op0, bb⟩
 replace bel := next_trans bel bb
 have zw2 := bb.size
 clear bb
 clear cA0_0 cA0_1
 have cA0_0 : w2.cell? ⟨w.heap.size, 0, none⟩ = some (v0_0) := (rA0.next bel).cell 0
 have cA0_1 : w2.cell? ⟨w.heap.size, 1, none⟩ = some (v0_1) := (rA0.next bel).cell 1
 go_wp2_with fail
 refine (toK_ints _ d1 _ (s1.next bel) h1.out).mono ?_
 rintro e w3 ⟨p1A0, p1n0, p1c0, rfl, op1, bb⟩
 replace op0 := op0.next bb
 replace bel := next_trans bel bb
 have zw3 := bb.size
 clear bb
 clear cA0_0 cA0_1
 have cA0_0 : w3.cell? ⟨w.heap.size, 0, none⟩ = some (v0_0) := (rA0.next bel).cell 0
 have cA0_1 : w3.cell? ⟨w.heap.size, 1, none⟩ = some (v0_1) := (rA0.next bel).cell 1
 go_wp2_with fail
 refine (specNormalsOfX _ _ _ d0 d1 x2 _ op0.rd op1.rd h0.out h1.out bl2 bh2).mono ?_
 rintro e w4 ⟨wA, wn, wc, he, o0, bb⟩
 rw [HY.out] at o0
 subst he
 replace op0 := op0.next bb
 replace op1 := op1.next bb
 replace bel := next_trans bel bb
 have zw4 := bb.size
 clear bb
 have sw := o0.rd
 clear o0
 clear op0 op1
 clear cA0_0 cA0_1
 have cA0_0 : w4.cell? ⟨w.heap.size, 0, none⟩ = some (v0_0) := (rA0.next bel).cell 0
 have cA0_1 : w4.cell? ⟨w.heap.size, 1, none⟩ = some (v0_1) := (rA0.next bel).cell 1
 have belw := Below.refl w4.heap.size w4
 clear cA0_0 cA0_1
 have cA0_0 : w4.cell? ⟨w.heap.size, 0, none⟩ = some (v0_0) := (rA0.next bel).cell 0
 have cA0_1 : w4.cell? ⟨w.heap.size, 1, none⟩ = some (v0_1) := (rA0.next bel).cell 1
 go_wp2_with fail
 refine (toK_System _ _ d0 _ (s0.next bel) h0.out).mono ?_
 rintro e w5 ⟨x0A0, x0n0, x0c0, x0A1, x0n1, x0c1, rfl, ox0, bb⟩
 replace bel := next_trans bel bb
 replace belw := next_trans belw bb
 have zw5 := bb.size
 clear bb
 clear cA0_0 cA0_1
 have cA0_0 : w5.cell? ⟨w.heap.size, 0, none⟩ = some (v0_0) := (rA0.next bel).cell 0
 have cA0_1 : w5.cell? ⟨w.heap.size, 1, none⟩ = some (v0_1) := (rA0.next bel).cell 1
 have dA0_0 : (w5.alloc (.cells #[.slice x0A0 x0n0 x0c0, .slice x0A1 x0n1 x0c1] 34)).cell? ⟨w.heap.size, 0, none⟩ = some (v0_0) := ((rA0.next bel).alloc _).cell 0
 have dA0_1 : (w5.alloc (.cells #[.slice x0A0 x0n0 x0c0, .slice x0A1 x0n1 x0c1] 34)).cell? ⟨w.heap.size, 1, none⟩ = some (v0_1) := ((rA0.next bel).alloc _).cell 1
 go_wp2_with fail
 obtain ⟨w6, hw⟩ : ∃ W, W = w5.alloc (.cells #[.slice x0A0 x0n0 x0c0, .slice x0A1 x0n1 x0c1] 34) := ⟨_, rfl⟩
 rw [← hw]
 have rx0 : Row w6 w5.heap.size 34 #[.slice x0A0 x0n0 x0c0, .slice x0A1 x0n1 x0c1] := by rw [hw]; exact Row.new _ _ _
 have bb : Below w5.heap.size w5 w6 := by rw [hw]; exact (Below.refl _ _).alloc (Nat.le_refl _) _
 have yrx0 : w5.heap.size < w6.heap.size := by rw [hw]; simp
 clear hw
 replace ox0 := ox0.next bb
 replace bel := next_trans bel bb
 replace belw := next_trans belw bb
 have zw6 := bb.size
 clear bb
 clear dA0_0 dA0_1
 clear cA0_0 cA0_1
 have cA0_0 : w6.cell? ⟨w.heap.size, 0, none⟩ = some (v0_0) := (rA0.next bel).cell 0
 have cA0_1 : w6.cell? ⟨w.heap.size, 1, none⟩ = some (v0_1) := (rA0.next bel).cell 1
 have cx0_0 : w6.cell? ⟨w5.heap.size, 0, none⟩ = some (.slice x0A0 x0n0 x0c0) := (rx0).cell 0
 have cx0_1 : w6.cell? ⟨w5.heap.size, 1, none⟩ = some (.slice x0A1 x0n1 x0c1) := (rx0).cell 1
 refine (toK_ints _ d1 _ (s1.next bel) h1.out).mono ?_
 rintro e w7 ⟨x1A0, x1n0, x1c0, rfl, ox1, bb⟩
 replace ox0 := ox0.next bb
 replace rx0 := rx0.next bb
 replace bel := next_trans bel bb
 replace belw := next_trans belw bb
 have zw7 := bb.size
 clear bb
 clear cA0_0 cA0_1 cx0_0 cx0_1
 have cA0_0 : w7.cell? ⟨w.heap.size, 0, none⟩ = some (v0_0) := (rA0.next bel).cell 0
 have cA0_1 : w7.cell? ⟨w.heap.size, 1, none⟩ = some (v0_1) := (rA0.next bel).cell 1
 have cx0_0 : w7.cell? ⟨w5.heap.size, 0, none⟩ = some (.slice x0A0 x0n0 x0c0) := (rx0).cell 0
 have cx0_1 : w7.cell? ⟨w5.heap.size, 1, none⟩ = some (.slice x0A1 x0n1 x0c1) := (rx0).cell 1
 go_wp2_with fail
 refine (implNormalsOfX _ _ _ d0 d1 x2 _ ox0.rd ox1.rd h0.out h1.out bl2 bh2).mono ?_
 rintro e w8 ⟨gA, gn, gc, he, o0, bb⟩
 rw [HY.out] at o0
 subst he
 replace ox0 := ox0.next bb
 replace rx0 := rx0.next bb
 replace ox1 := ox1.next bb
 replace bel := next_trans bel bb
 replace belw := next_trans belw bb
 have zw8 := bb.size
 clear bb
 have og := o0
 clear o0
 clear cA0_0 cA0_1 cx0_0 cx0_1
 have cA0_0 : w8.cell? ⟨w.heap.size, 0, none⟩ = some (v0_0) := (rA0.next bel).cell 0
 have cA0_1 : w8.cell? ⟨w.heap.size, 1, none⟩ = some (v0_1) := (rA0.next bel).cell 1
 have cx0_0 : w8.cell? ⟨w5.heap.size, 0, none⟩ = some (.slice x0A0 x0n0 x0c0) := (rx0).cell 0
 have cx0_1 : w8.cell? ⟨w5.heap.size, 1, none⟩ = some (.slice x0A1 x0n1 x0c1) := (rx0).cell 1
 go_wp2_with fail
 refine (eqK_Int64SS _ _ ys _ og.rd (sw.next belw) hlen.out).mono ?_
 rintro e w9 ⟨rfl, bb⟩
 replace ox0 := ox0.next bb
 replace rx0 := rx0.next bb
 replace ox1 := ox1.next bb
 replace og := og.next bb
 replace bel := next_trans bel bb
 replace belw := next_trans belw bb
 have zw9 := bb.size
 clear bb
 clear cA0_0 cA0_1 cx0_0 cx0_1
 have cA0_0 : w9.cell? ⟨w.heap.size, 0, none⟩ = some (v0_0) := (rA0.next bel).cell 0
 have cA0_1 : w9.cell? ⟨w.heap.size, 1, none⟩ = some (v0_1) := (rA0.next bel).cell 1
 have cx0_0 : w9.cell? ⟨w5.heap.size, 0, none⟩ = some (.slice x0A0 x0n0 x0c0) := (rx0).cell 0
 have cx0_1 : w9.cell? ⟨w5.heap.size, 1, none⟩ = some (.slice x0A1 x0n1 x0c1) := (rx0).cell 1
 go_wp2_with fail
 replace ox0 := ox0.drew
 replace rx0 := rx0.drew
 replace ox1 := ox1.drew
 replace og := og.drew
 replace bel := bel.drew
 replace belw := belw.drew
 have zdw9 := (drew_below w9).size
 go_region_held3 (fun w' => w'.cell? ⟨w5.heap.size, 0, none⟩ = some (.slice x0A0 x0n0 x0c0) ∧ w'.cell? ⟨w5.heap.size, 1, none⟩ = some (.slice x0A1 x0n1 x0c1) ∧ w'.cell? ⟨w.heap.size, 0, none⟩ = some (v0_0) ∧ w'.cell? ⟨w.heap.size, 1, none⟩ = some (v0_1))
  (go_keep)
  (first
   | (go_at_call 6; refine (toK_System _ _ d0 _ (s0.next bel) h0.out).mono ?_; rintro e w10 ⟨t0A0, t0n0, t0c0, t0A1, t0n1, t0c1, rfl, ot, bb⟩; replace ox0 := ox0.next bb; replace rx0 := rx0.next bb; replace ox1 := ox1.next bb; replace og := og.next bb; replace bel := next_trans bel bb; replace belw := next_trans belw bb; have k0_0w10 : w10.cell? ⟨w.heap.size, 0, none⟩ = some (v0_0) := (rA0.next bel).cell 0; have k0_1w10 : w10.cell? ⟨w.heap.size, 1, none⟩ = some (v0_1) := (rA0.next bel).cell 1; have l0_0w10 : w10.cell? ⟨w5.heap.size, 0, none⟩ = some (.slice x0A0 x0n0 x0c0) := rx0.cell 0; have l0_1w10 : w10.cell? ⟨w5.heap.size, 1, none⟩ = some (.slice x0A1 x0n1 x0c1) := rx0.cell 1; have zqw10 := bb.size; clear bb)
   | (go_at_call 10; refine (eqK_System _ _ _ _ d0 _ ox0.rd ot.rd h0.out).mono ?_; rintro e w11 ⟨rfl, bb⟩; replace ox0 := ox0.next bb; replace rx0 := rx0.next bb; replace ox1 := ox1.next bb; replace og := og.next bb; replace bel := next_trans bel bb; replace belw := next_trans belw bb; have k0_0w11 : w11.cell? ⟨w.heap.size, 0, none⟩ = some (v0_0) := (rA0.next bel).cell 0; have k0_1w11 : w11.cell? ⟨w.heap.size, 1, none⟩ = some (v0_1) := (rA0.next bel).cell 1; have l0_0w11 : w11.cell? ⟨w5.heap.size, 0, none⟩ = some (.slice x0A0 x0n0 x0c0) := rx0.cell 0; have l0_1w11 : w11.cell? ⟨w5.heap.size, 1, none⟩ = some (.slice x0A1 x0n1 x0c1) := rx0.cell 1; have zqw11 := bb.size; clear bb ot))
 clear k0_0w10 l0_0w10 k0_1w10 l0_1w10 k0_0w11 l0_0w11 k0_1w11 l0_1w11
 clear cA0_0 cA0_1 cx0_0 cx0_1
 have cA0_0 : w11.cell? ⟨w.heap.size, 0, none⟩ = some (v0_0) := (rA0.next bel).cell 0
 have cA0_1 : w11.cell? ⟨w.heap.size, 1, none⟩ = some (v0_1) := (rA0.next bel).cell 1
 have cx0_0 : w11.cell? ⟨w5.heap.size, 0, none⟩ = some (.slice x0A0 x0n0 x0c0) := (rx0).cell 0
 have cx0_1 : w11.cell? ⟨w5.heap.size, 1, none⟩ = some (.slice x0A1 x0n1 x0c1) := (rx0).cell 1
 go_wp2_with fail
 refine (toK_ints _ d1 _ (s1.next bel) h1.out).mono ?_
 rintro e w12 ⟨t1A0, t1n0, t1c0, rfl, ot1, bb⟩
 replace ox0 := ox0.next bb
 replace rx0 := rx0.next bb
 replace ox1 := ox1.next bb
 replace og := og.next bb
 replace bel := next_trans bel bb
 replace belw := next_trans belw bb
 have zw12 := bb.size
 clear bb
 clear cA0_0 cA0_1 cx0_0 cx0_1
 have cA0_0 : w12.cell? ⟨w.heap.size, 0, none⟩ = some (v0_0) := (rA0.next bel).cell 0
 have cA0_1 : w12.cell? ⟨w.heap.size, 1, none⟩ = some (v0_1) := (rA0.next bel).cell 1
 have cx0_0 : w12.cell? ⟨w5.heap.size, 0, none⟩ = some (.slice x0A0 x0n0 x0c0) := (rx0).cell 0
 have cx0_1 : w12.cell? ⟨w5.heap.size, 1, none⟩ = some (.slice x0A1 x0n1 x0c1) := (rx0).cell 1
 go_wp2_with fail
 refine (eqK_ints _ _ d1 _ ox1.rd ot1.rd h1.out).mono ?_
 rintro e w13 ⟨rfl, bb⟩
 replace ox0 := ox0.next bb
 replace rx0 := rx0.next bb
 replace ox1 := ox1.next bb
 replace og := og.next bb
 replace ot1 := ot1.next bb
 replace bel := next_trans bel bb
 replace belw := next_trans belw bb
 have zw13 := bb.size
 clear bb
 clear ot1
 clear cA0_0 cA0_1 cx0_0 cx0_1
 have cA0_0 : w13.cell? ⟨w.heap.size, 0, none⟩ = some (v0_0) := (rA0.next bel).cell 0
 have cA0_1 : w13.cell? ⟨w.heap.size, 1, none⟩ = some (v0_1) := (rA0.next bel).cell 1
 have cx0_0 : w13.cell? ⟨w5.heap.size, 0, none⟩ = some (.slice x0A0 x0n0 x0c0) := (rx0).cell 0
 have cx0_1 : w13.cell? ⟨w5.heap.size, 1, none⟩ = some (.slice x0A1 x0n1 x0c1) := (rx0).cell 1
 obtain ⟨Fox0, fox0, nox0, box0⟩ := ox0
 go_wp2_with fail
 refine (markK_System _ _ d0 (1) Fox0 _ fox0 nox0 h0.out (by omega) (by rw [HK0.out]; omega)).mono ?_
 rintro e w14 ⟨he, omox0, onox0⟩
 rw [HK0.out] at he
 have bt := onox0.btw box0
 clear onox0
 clear omox0 fox0 nox0 box0
 subst he
 replace rx0 := Row.btw rx0 bt (by omega)
 replace ox1 := ox1.btw bt (by omega)
 replace og := og.btw bt (by omega)
 replace bel := Below.btw bel bt (by omega) bel.size
 replace belw := Below.btw belw bt (by omega) belw.size
 have zw14 := bt.size
 clear bt
 clear cA0_0 cA0_1 cx0_0 cx0_1
 have cA0_0 : w14.cell? ⟨w.heap.size, 0, none⟩ = some (v0_0) := (rA0.next bel).cell 0
 have cA0_1 : w14.cell? ⟨w.heap.size, 1, none⟩ = some (v0_1) := (rA0.next bel).cell 1
 have cx0_0 : w14.cell? ⟨w5.heap.size, 0, none⟩ = some (.slice x0A0 x0n0 x0c0) := (rx0).cell 0
 have cx0_1 : w14.cell? ⟨w5.heap.size, 1, none⟩ = some (.slice x0A1 x0n1 x0c1) := (rx0).cell 1
 obtain ⟨Fox1, fox1, nox1, box1⟩ := ox1
 go_wp2_with fail
 refine (markK_ints _ d1 (1 + (k0 : Int)) Fox1 _ fox1 h1.out (by omega) (by omega)).mono ?_
 rintro e w15 ⟨he, omox1, onox1⟩
 rw [HK1.out] at he
 have bt := onox1.btw box1
 clear onox1
 clear omox1 fox1 nox1 box1
 subst he
 replace rx0 := Row.btw rx0 bt (by omega)
 replace og := og.btw bt (by omega)
 replace bel := Below.btw bel bt (by omega) bel.size
 replace belw := Below.btw belw bt (by omega) belw.size
 have zw15 := bt.size
 clear bt
 clear cA0_0 cA0_1 cx0_0 cx0_1
 have cA0_0 : w15.cell? ⟨w.heap.size, 0, none⟩ = some (v0_0) := (rA0.next bel).cell 0
 have cA0_1 : w15.cell? ⟨w.heap.size, 1, none⟩ = some (v0_1) := (rA0.next bel).cell 1
 have cx0_0 : w15.cell? ⟨w5.heap.size, 0, none⟩ = some (.slice x0A0 x0n0 x0c0) := (rx0).cell 0
 have cx0_1 : w15.cell? ⟨w5.heap.size, 1, none⟩ = some (.slice x0A1 x0n1 x0c1) := (rx0).cell 1
 clear rx0
 clear cA0_0 cA0_1 cx0_0 cx0_1
 have cA0_0 : w15.cell? ⟨w.heap.size, 0, none⟩ = some (v0_0) := (rA0.next bel).cell 0
 have cA0_1 : w15.cell? ⟨w.heap.size, 1, none⟩ = some (v0_1) := (rA0.next bel).cell 1
 go_wp2_with fail
 refine (eqK_Int64SS _ _ ys _ og.rd (sw.next belw) hlen.out).mono ?_
 rintro e w16 ⟨rfl, bb⟩
 replace og := og.next bb
 replace bel := next_trans bel bb
 replace belw := next_trans belw bb
 have zw16 := bb.size
 clear bb
 clear cA0_0 cA0_1
 have cA0_0 : w16.cell? ⟨w.heap.size, 0, none⟩ = some (v0_0) := (rA0.next bel).cell 0
 have cA0_1 : w16.cell? ⟨w.heap.size, 1, none⟩ = some (v0_1) := (rA0.next bel).cell 1
 obtain ⟨Fog, fog, nog, bog⟩ := og
 go_wp2_with fail
 refine (markK_Int64SS _ ys (1) Fog _ fog nog hlen.out (by omega) (by rw [HCG.out]; omega)).mono ?_
 rintro e w17 ⟨he, omog, onog⟩
 rw [HCG.out] at he
 have bt := onog.btw bog
 clear onog
 have om : Owned w17 (w7.heap.size) (w8.heap.size) sInt64SS [.slice gA gn gc] (mkv sInt64SS 1 ys) := ⟨Fog, omog, nog, bog⟩
 clear omog fog nog bog
 subst he
 replace bel := Below.btw bel bt (by omega) bel.size
 replace belw := Below.btw belw bt (by omega) belw.size
 have zw17 := bt.size
 clear bt
 clear cA0_0 cA0_1
 have cA0_0 : w17.cell? ⟨w.heap.size, 0, none⟩ = some (v0_0) := (rA0.next bel).cell 0
 have cA0_1 : w17.cell? ⟨w.heap.size, 1, none⟩ = some (v0_1) := (rA0.next bel).cell 1
 go_wp2_with fail
 refine (heldK_Int64SS _ ys 1 _ om.rd hlen.out (by omega) (by rw [HCG.out]; omega)).mono ?_
 rintro e w18 ⟨he, bb⟩
 rw [HCG.out] at he
 subst he
 replace om := om.next bb
 replace bel := next_trans bel bb
 replace belw := next_trans belw bb
 have zw18 := bb.size
 clear bb
 clear cA0_0 cA0_1
 have cA0_0 : w18.cell? ⟨w.heap.size, 0, none⟩ = some (v0_0) := (rA0.next bel).cell 0
 have cA0_1 : w18.cell? ⟨w.heap.size, 1, none⟩ = some (v0_1) := (rA0.next bel).cell 1
 go_wp2_with fail
 refine (toK_System _ _ d0 _ (s0.next bel) h0.out).mono ?_
 rintro e w19 ⟨p0A0, p0n0, p0c0, p0A1, p0n1, p0c1, rfl, op0, bb⟩
 replace om := om.next bb
 replace bel := next_trans bel bb
 replace belw := next_trans belw bb
 have zw19 := bb.size
 clear bb
 clear cA0_0 cA0_1
 have cA0_0 : w19.cell? ⟨w.heap.size, 0, none⟩ = some (v0_0) := (rA0.next bel).cell 0
 have cA0_1 : w19.cell? ⟨w.heap.size, 1, none⟩ = some (v0_1) := (rA0.next bel).cell 1
 go_wp2_with fail
 refine (toK_ints _ d1 _ (s1.next bel) h1.out).mono ?_
 rintro e w20 ⟨p1A0, p1n0, p1c0, rfl, op1, bb⟩
 replace om := om.next bb
 replace op0 := op0.next bb
 replace bel := next_trans bel bb
 replace belw := next_trans belw bb
 have zw20 := bb.size
 clear bb
 clear cA0_0 cA0_1
 have cA0_0 : w20.cell? ⟨w.heap.size, 0, none⟩ = some (v0_0) := (rA0.next bel).cell 0
 have cA0_1 : w20.cell? ⟨w.heap.size, 1, none⟩ = some (v0_1) := (rA0.next bel).cell 1
 go_wp2_with fail
 refine (implNormalsOfX _ _ _ d0 d1 x2 _ op0.rd op1.rd h0.out h1.out bl2 bh2).mono ?_
 rintro e w21 ⟨hA, hn, hc, he, o0, bb⟩
 rw [HY.out] at o0
 subst he
 replace om := om.next bb
 replace op0 := op0.next bb
 replace op1 := op1.next bb
 replace bel := next_trans bel bb
 replace belw := next_trans belw bb
 have zw21 := bb.size
 clear bb
 have sh := o0.rd
 clear o0
 clear op0 op1
 clear cA0_0 cA0_1
 have cA0_0 : w21.cell? ⟨w.heap.size, 0, none⟩ = some (v0_0) := (rA0.next bel).cell 0
 have cA0_1 : w21.cell? ⟨w.heap.size, 1, none⟩ = some (v0_1) := (rA0.next bel).cell 1
 have belh := Below.refl w21.heap.size w21
 clear cA0_0 cA0_1
 have cA0_0 : w21.cell? ⟨w.heap.size, 0, none⟩ = some (v0_0) := (rA0.next bel).cell 0
 have cA0_1 : w21.cell? ⟨w.heap.size, 1, none⟩ = some (v0_1) := (rA0.next bel).cell 1
 go_wp2_with fail
 refine (eqK_Int64SS _ _ ys _ (sh.next belh) (sw.next belw) hlen.out).mono ?_
 rintro e w22 ⟨rfl, bb⟩
 replace om := om.next bb
 replace bel := next_trans bel bb
 replace belw := next_trans belw bb
 replace belh := next_trans belh bb
 have zw22 := bb.size
 clear bb
 clear cA0_0 cA0_1
 have cA0_0 : w22.cell? ⟨w.heap.size, 0, none⟩ = some (v0_0) := (rA0.next bel).cell 0
 have cA0_1 : w22.cell? ⟨w.heap.size, 1, none⟩ = some (v0_1) := (rA0.next bel).cell 1
 go_wp2_with fail
 refine (heldK_Int64SS _ ys 1 _ om.rd hlen.out (by omega) (by rw [HCG.out]; omega)).mono ?_
 rintro e w23 ⟨he, bb⟩
 rw [HCG.out] at he
 subst he
 replace om := om.next bb
 replace bel := next_trans bel bb
 replace belw := next_trans belw bb
 replace belh := next_trans belh bb
 have zw23 := bb.size
 clear bb
 clear cA0_0 cA0_1
 have cA0_0 : w23.cell? ⟨w.heap.size, 0, none⟩ = some (v0_0) := (rA0.next bel).cell 0
 have cA0_1 : w23.cell? ⟨w.heap.size, 1, none⟩ = some (v0_1) := (rA0.next bel).cell 1
 have F := hid (bW.trans (bel.mono bW.size))
 clear bel belw belh om bW cA0_0 cA0_1
 go_wp2
 go_ret
 exact ⟨rfl, F.out⟩
end wNormalsOf
end
end Go.Proofs.Ythdmhhmnipoceaa
