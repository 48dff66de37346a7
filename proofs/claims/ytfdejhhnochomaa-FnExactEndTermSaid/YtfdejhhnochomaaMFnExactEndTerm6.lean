/-
  MERGED: my texts WalkImpl, WalkX, WEndTerm, OpenX, one behind the other, as they are. By an AI agent.
-/
import Derived.Test.YtfdejhhnochomaaMFnExactEndTerm5
import Derived.Deep.RegionHeld3
import Derived.ProofKit
import Derived.OpenShut
import Derived.Lib.SmallJoins
import Derived.Deep.Slices
import Derived.Deep.Fields
namespace Go.Proofs.Ytfdejhhnochomaa
section
open Go.Lib (hid)
namespace walkImpl
open Go.RowKit base ints sig term termOk endAt endOf marks app sym sub segs segsHelp kinds termFacts same shifted shape kindsR kindsW varsOf ruleMath ruleSpec ruleImpl stepMath walkMath stepSpec stepImpl walkSpec
set_option maxRecDepth 100000
structure Wm (w : World) (a v f s : Value) (d : Dat sSystem) (k : Dat sWalk) (i : Nat) (now : Value) (wr : World) : Prop where
 r : Row wr w.heap.size 93 #[a, v]
 q : Row wr (w.heap.size + 1) 56 #[f, s]
 b : Below w.heap.size w wr
 n : ∃ N nn nc, now = .slice N nn nc
 t : ∃ t, Rd wr wr.heap.size sI [now] t ∧ sz sI t ≤ 1048576 ∧ goOn d.1 d.2 k.1 k.2 = goOn d.1 d.2 t (k.2.drop i)
set_option maxHeartbeats 4000000 in
theorem leads (a v u : Value) (U : Option Addr) (un uc : Nat) (d : Dat sSystem) (t y : List Int) (x r : Int) (w : World) (h : Rd w w.heap.size sSystem [a, v] d) (ht : Rd w w.heap.size sI [u] t) (hU : Seg w w.heap.size U un y) (hz : sz sSystem d ≤ 1048576) (hz' : sz sI t ≤ 1048576) (hun : un ≤ 1048576) (oks : sysOkB d.1 d.2 = true) :
  Calls Try.prog 112 #[.agg #[a, v], u, .agg #[.int .i64 x, .int .i64 r, .slice U un uc]] w (AnsB w (decide (stepAtO d.1 d.2 t x r = some y))) := by
 obtain ⟨W, hW, rA, rX, bel⟩ := box2 w 93 102 #[a, v] #[.int .i64 x, .int .i64 r, .slice U un uc]
 have HW := hid hW
 have LS := hid (stepAt a v u d t x r W (h.next bel) (ht.next bel) hz hz' oks)
 have HU := hid (hU.next bel)
 have K0 : ((w.alloc (.cells #[a, v] 93)).alloc (.cells #[.int .i64 x, .int .i64 r, .slice U un uc] 102)).cell? ⟨w.heap.size, 0, none⟩ = some a := by rw [← hW]; exact rA.cell 0
 have K1 : ((w.alloc (.cells #[a, v] 93)).alloc (.cells #[.int .i64 x, .int .i64 r, .slice U un uc] 102)).cell? ⟨w.heap.size, 1, none⟩ = some v := by rw [← hW]; exact rA.cell 1
 clear hW h ht hU hz hz'
 obtain ⟨o, ho⟩ : ∃ o, stepAtO d.1 d.2 t x r = o := ⟨_, rfl⟩
 rw [ho] at LS
 rw [ho]
 have HL := hid (show ∀ z, o = some z → z.length ≤ 60 from fun z hz => by subst hz; exact step_len (stepAt_parts ho).2)
 clear ho
 go_enter Try.func112, Try.ntmps112
 go_wp2_with fail
 rw [← HW.out]
 refine LS.out.mono ?_
 rintro e w2 ⟨X, xn, xc, rfl, oX, bb⟩
 replace rX := rX.next bb
 have b2 := next_trans bel bb
 have k2 : w2.cell? ⟨w.heap.size + 1, 2, none⟩ = some (.slice U un uc) := rX.cell 2
 cases o with
 | none =>
  have F := hid (show AnsB w (decide ((none : Option (List Int)) = some y)) (.returned (.bool false)) w2 from ⟨rfl, b2⟩)
  clear oX bb rA rX bel b2 HL HU LS K0 K1 k2
  go_wp2
  go_ret
  exact F.out
 | some z =>
  have oY : Own w2 W.heap.size (.slice X xn xc) z := oX
  have hxn : xn ≤ 1048576 := by have := HL.out z rfl; have := Own.len oY; omega
  have LE := hid (implSame X U xn un xc uc z y w2 (Own.seg oY) (HU.out.next bb) hxn hun)
  clear oX oY HU bb rX rA bel LS K0 K1 HL
  go_wp2_with fail
  refine LE.out.mono ?_
  rintro e w3 ⟨rfl, dd, rfl⟩
  have F := hid (show AnsB w (decide (some z = some y)) (.returned (.bool (decide (z = y)))) (w2.drewN dd) from ⟨by congr 2; simp, below_drewN b2 dd⟩)
  clear b2 k2 LE
  generalize decide (z = y) = bz at *
  go_wp2
  go_ret
  exact F.out
set_option maxHeartbeats 4000000 in
theorem makes (a v f s : Value) (d : Dat sSystem) (k : Dat sWalk) (w : World) (h : Rd w w.heap.size sSystem [a, v] d) (h' : Rd w w.heap.size sWalk [f, s] k) (hz : sz sSystem d ≤ 1048576) (hz' : sz sWalk k ≤ 1048576) (oks : sysOkB d.1 d.2 = true) :
  Calls Try.prog 72 #[.agg #[a, v], .agg #[f, s]] w (AnsB w (goOn d.1 d.2 k.1 k.2).isSome) := by
 obtain ⟨F, fn, fc, S, sn, sc, rfl, rfl, hF, hcF, hfn, hsn, hsn1, hcS, hrF, hrS, hzF, hzS⟩ := rd_walk h' hz'
 obtain ⟨W, hW, rA, rW, bel⟩ := box2 w 93 56 #[a, v] #[.slice F fn fc, .slice S sn sc]
 have HW := hid hW
 have LST := hid (fun (w1 : World) (bb : Below w.heap.size w w1) (u : Value) (U : Option Addr) (un uc : Nat) (t y : List Int) (x r : Int) ht hU hzt hun => leads a v u U un uc d t y x r w1 (h.next bb) ht hU hz hzt hun oks)
 have HRS := hid hrS
 have HSN := hid hsn
 have HZS := hid hzS
 have H0 := hid (show Wm w a v (.slice F fn fc) (.slice S sn sc) d k 0 (.slice F fn fc) W from ⟨rA, rW, bel, ⟨_, _, _, rfl⟩, k.1, hrF.next bel, hzF, rfl⟩)
 clear hW h h' hz hz' hF hcF hsn hcS hrF hrS hzF hzS rA rW bel oks
 go_enter Try.func72, Try.ntmps72
 go_wp2_with fail
 rw [← HW.out]
 clear HW
 go_loopg [5, 13] sn (fun g now i_ wr => ∃ i : Nat, i_ = .int .i64 i ∧ i + g = sn ∧ Wm w a v (.slice F fn fc) (.slice S sn sc) d k i now wr)
 case atStart => exact ⟨0, rfl, by omega, H0.out⟩
 case round =>
  clear H0
  obtain ⟨i, rfl, hg, T⟩ := hrel
  obtain ⟨N, nn, nc, rfl⟩ := T.n
  obtain ⟨t, ht, hzt, hgo⟩ := T.t
  have HG := hid hg
  have HGO := hid hgo
  clear hg hgo
  by_cases hi : i < sn
  ·obtain ⟨b, off, u, x, hA, hb, ex, c0, c1, c2, hx2⟩ := rd_step HRS.out T.b HSN.out hi
   subst hA
   obtain ⟨U, un, uc, rfl, hU, hcU⟩ := rd_ints.1 hx2
   have hzx : sz sI x.2.2 ≤ 1048576 := by rw [← ex.out]; exact HZS.out i hi
   have hun : un ≤ 1048576 := len_ints hU.1 hzx
   obtain ⟨xa, hxa⟩ : ∃ z, x.1 = z := ⟨_, rfl⟩
   obtain ⟨xr, hxr⟩ : ∃ z, x.2.1 = z := ⟨_, rfl⟩
   rw [hxa] at c0
   rw [hxr] at c1
   have b1 : Below wr.heap.size wr (wr.alloc (.cells #[.int .i64 xa, .int .i64 xr, .slice U un uc] 102)) := (Below.refl _ _).alloc (Nat.le_refl _) _
   have K0 : wr.cell? ⟨w.heap.size, 0, none⟩ = some a := T.r.cell 0
   have K1 : wr.cell? ⟨w.heap.size, 1, none⟩ = some v := T.r.cell 1
   obtain ⟨w1, hw1⟩ : ∃ w1, w1 = wr.alloc (.cells #[.int .i64 xa, .int .i64 xr, .slice U un uc] 102) := ⟨_, rfl⟩
   rw [← hw1] at b1
   have r1 := T.r.next b1
   have q1 := T.q.next b1
   have bel1 := T.b.trans (b1.mono T.b.size)
   have rX : Row w1 wr.heap.size 102 #[.int .i64 xa, .int .i64 xr, .slice U un uc] := by rw [hw1]; exact Row.new _ _ _
   have hU1 := (hU.more T.b.size).next b1
   have hx3 := (hx2.more T.b.size).next b1
   have LS := hid (LST.out w1 bel1 (.slice N nn nc) U un uc t x.2.2 xa xr (ht.next b1) hU1 hzt hun)
   obtain ⟨o, ho⟩ : ∃ o, stepAtO d.1 d.2 t xa xr = o := ⟨_, rfl⟩
   rw [ho] at LS
   have HO := hid (show stepAtO d.1 d.2 t x.1 x.2.1 = o by rw [hxa, hxr]; exact ho)
   have hil : i < k.2.length := by rw [HSN.out]; exact hi
   have EX := hid (show k.2.getD i (0, 0, []) = x from ex.out)
   have i0 : (0 : Int) ≤ (i : Int) := by omega
   have i1 : (i : Int) < (sn : Int) := by omega
   have R0 : (wr.alloc (.cells #[.int .i64 xa, .int .i64 xr, .slice U un uc] 102)).cell? ⟨w.heap.size, 0, none⟩ = some a := by rw [← hw1]; exact r1.cell 0
   have R1 : (wr.alloc (.cells #[.int .i64 xa, .int .i64 xr, .slice U un uc] 102)).cell? ⟨w.heap.size, 1, none⟩ = some v := by rw [← hw1]; exact r1.cell 1
   have X0 : (wr.alloc (.cells #[.int .i64 xa, .int .i64 xr, .slice U un uc] 102)).cell? ⟨wr.heap.size, 0, none⟩ = some (.int .i64 xa) := by rw [← hw1]; exact rX.cell 0
   have X1 : (wr.alloc (.cells #[.int .i64 xa, .int .i64 xr, .slice U un uc] 102)).cell? ⟨wr.heap.size, 1, none⟩ = some (.int .i64 xr) := by rw [← hw1]; exact rX.cell 1
   have X2 : (wr.alloc (.cells #[.int .i64 xa, .int .i64 xr, .slice U un uc] 102)).cell? ⟨wr.heap.size, 2, none⟩ = some (.slice U un uc) := by rw [← hw1]; exact rX.cell 2
   have HW1 := hid hw1
   clear ho hxa hxr hx2 hU hcU T ht hzt ex b1 hw1 hU1
   go_wp2_with fail
   rw [← HW1.out]
   refine LS.out.mono ?_
   rintro e w2 ⟨rfl, bb⟩
   have r2 := r1.next bb
   have q2 := q1.next bb
   have b2 := next_trans bel1 bb
   have rX2 := rX.next bb
   have RY := hid (hx3.next bb)
   have k2 : w2.cell? ⟨wr.heap.size, 2, none⟩ = some (.slice U un uc) := rX2.cell 2
   clear r1 q1 bel1 rX hx3 c0 c1 c2 K0 K1 R0 R1 X0 X1 X2 LS HW1
   by_cases hoy : o = some x.2.2
   ·have HGN := hid (go_step hil EX.out (HO.out.trans hoy) rfl)
    have F := hid (show Wm w a v (.slice F fn fc) (.slice (some ⟨b, off, none⟩) sn sc) d k (i + 1) (.slice U un uc) w2 from ⟨r2, q2, b2, ⟨_, _, _, rfl⟩, x.2.2, RY.out, hzx, by rw [HGO.out, HGN.out]⟩)
    rw [decide_eq_true hoy]
    clear r2 q2 b2 bb rX2 RY HO hoy
    go_wp2
    go_roundg (gk - 1)
    case measure => have := HG.out; omega
    case rel => exact ⟨i + 1, by simp, by have := HG.out; omega, F.out⟩
   ·have F := hid (ansB (b := (goOn d.1 d.2 k.1 k.2).isSome) (a := false) (by
     rw [HGO.out]
     cases o with
     | none => rw [go_none hil EX.out HO.out]; rfl
     | some y => rw [go_differ hil EX.out HO.out (fun q => hoy (by rw [q]))]; rfl) b2)
    rw [decide_eq_false hoy]
    clear r2 q2 b2 bb rX2 RY HO hoy k2
    go_wp2
    go_ret
    exact F.out
  ·have F := hid (ansB (b := (goOn d.1 d.2 k.1 k.2).isSome) (a := true) (by rw [HGO.out, go_all (by rw [HSN.out]; have := HG.out; omega)]; rfl) T.b)
   clear T ht hzt
   go_wp2
   go_ret
   exact F.out
theorem walk_sys {sg : List Int} {rs : List Rl} {k : Wk} (h : sysOkB sg rs = false) : walkB sg rs k = false := walk_noR (right_sys h)
theorem walk_term {sg : List Int} {rs : List Rl} {k : Wk} (h : termOkB sg k.1 = false) : walkB sg rs k = false := walk_noR (right_term h)
set_option maxHeartbeats 4000000 in
theorem implWalkOk (a v f s : Value) (d : Dat sSystem) (k : Dat sWalk) (w : World) (h : Rd w w.heap.size sSystem [a, v] d) (h' : Rd w w.heap.size sWalk [f, s] k) (hz : sz sSystem d ≤ 1048576) (hz' : sz sWalk k ≤ 1048576) :
  Calls Try.prog 32 #[.agg #[a, v], .agg #[f, s]] w (AnsB w (walkB d.1 d.2 k)) := by
 obtain ⟨F, fn, fc, S, sn, sc, rfl, rfl, hF, hcF, hfn, hsn, hsn1, hcS, hrF, hrS, hzF, hzS⟩ := rd_walk h' hz'
 have h0 := h
 obtain ⟨A, n, cs, V, q, cv, rfl, rfl, hs, hc, hcv, hq, hn, hq1, hrs, hsg, hE⟩ := rd_sys h hz
 obtain ⟨W, hW, rA, rW, bel⟩ := box2 w 42 56 #[.slice A n cs, .slice V q cv] #[.slice F fn fc, .slice S sn sc]
 have HW := hid hW
 have LS := hid (systemOf _ _ d W (h0.next bel) hz)
 have LT := hid (fun (w1 : World) (bb : Below w.heap.size w w1) => implTermOk A F n cs fn fc d.1 k.1 w1 (hs.next bb) (hF.next bb) hn hfn)
 have LM := hid (fun (w1 : World) (bb : Below w.heap.size w w1) oks => makes _ _ _ _ d k w1 (h0.next bb) (h'.next bb) hz hz' oks)
 have HSN := hid hsn
 clear hW h h0 h' hz hz' hs hc hcv hq hrs hsg hE hF hcF hsn hcS hrF hrS hzF hzS
 cases ok : sysOkB d.1 d.2 with
 | false =>
  have HS := hid ok
  clear ok
  go_enter Try.func32, Try.ntmps32
  go_wp2_with fail
  rw [← HW.out]
  refine LS.out.mono ?_
  rintro e w1 ⟨he, bb⟩
  rw [HS.out] at he
  have he : e = .returned (.tuple #[.agg #[.slice none 0 0, .slice none 0 0], .bool false]) := he
  subst he
  have F := hid (fun o => ansB (b := walkB d.1 d.2 k) (a := false) (by rw [walk_sys HS.out]) ((next_trans bel bb).alloc (next_trans bel bb).size o))
  clear bb bel rA rW LT LM
  go_wp2
  go_ret
  exact F.out _
 | true =>
  have HS := hid ok
  clear ok
  cases okt : termOkB d.1 k.1 with
  | false =>
   have HT := hid okt
   clear okt
   go_enter Try.func32, Try.ntmps32
   go_wp2_with fail
   rw [← HW.out]
   refine LS.out.mono ?_
   rintro e w1 ⟨he, bb⟩
   rw [HS.out] at he
   have he : e = .returned (.tuple #[.agg #[.slice A n cs, .slice V q cv], .bool true]) := he
   subst he
   have b2 := (Below.refl w1.heap.size w1).alloc (Nat.le_refl _) (.cells #[.slice A n cs, .slice V q cv] 93)
   have r2 := (rW.next bb).next b2
   have bel2 := next_trans (next_trans bel bb) b2
   have k0 : (w1.alloc (.cells #[.slice A n cs, .slice V q cv] 93)).cell? ⟨w.heap.size + 1, 0, none⟩ = some (.slice F fn fc) := r2.cell 0
   have LT1 := hid (LT.out _ bel2)
   have B2 := hid bel2
   clear bb bel rA rW LT LM b2 r2 bel2
   go_wp2_with fail
   refine LT1.out.mono ?_
   rintro e w3 ⟨he, bb⟩
   rw [HT.out] at he
   subst he
   have F := hid (ansB (b := walkB d.1 d.2 k) (a := false) (by rw [walk_term HT.out]) (next_trans B2.out bb))
   clear bb k0 LT1 B2
   go_wp2
   go_ret
   exact F.out
  | true =>
   have HT := hid okt
   clear okt
   by_cases h60 : sn ≤ 60
   ·have HYES := hid (walk_yes (k := k) (right_yes HS.out HT.out) HSN.out h60)
    have hle : (sn : Int) ≤ 60 := by omega
    go_enter Try.func32, Try.ntmps32
    go_wp2_with fail
    rw [← HW.out]
    refine LS.out.mono ?_
    rintro e w1 ⟨he, bb⟩
    rw [HS.out] at he
    have he : e = .returned (.tuple #[.agg #[.slice A n cs, .slice V q cv], .bool true]) := he
    subst he
    obtain ⟨w2, hw2⟩ : ∃ w2, w2 = w1.alloc (.cells #[.slice A n cs, .slice V q cv] 93) := ⟨_, rfl⟩
    have b2 : Below w1.heap.size w1 w2 := by rw [hw2]; exact (Below.refl w1.heap.size w1).alloc (Nat.le_refl _) (.cells #[.slice A n cs, .slice V q cv] 93)
    have r2 := (rW.next bb).next b2
    have rS : Row w2 w1.heap.size 93 #[.slice A n cs, .slice V q cv] := by rw [hw2]; exact Row.new _ _ _
    have bel2 := next_trans (next_trans bel bb) b2
    have k0 : (w1.alloc (.cells #[.slice A n cs, .slice V q cv] 93)).cell? ⟨w.heap.size + 1, 0, none⟩ = some (.slice F fn fc) := by rw [← hw2]; exact r2.cell 0
    have LT1 := hid (LT.out _ bel2)
    have HW2 := hid hw2
    clear bb bel rA rW LT b2 hw2
    go_wp2_with fail
    rw [← HW2.out]
    refine LT1.out.mono ?_
    rintro e w3 ⟨he, bb⟩
    rw [HT.out] at he
    subst he
    replace r2 := r2.next bb
    replace rS := rS.next bb
    replace bel2 := next_trans bel2 bb
    have k1 : w3.cell? ⟨w.heap.size + 1, 1, none⟩ = some (.slice S sn sc) := r2.cell 1
    have k2 : w3.cell? ⟨w.heap.size + 1, 0, none⟩ = some (.slice F fn fc) := r2.cell 0
    have k3 : w3.cell? ⟨w1.heap.size, 0, none⟩ = some (.slice A n cs) := rS.cell 0
    have k4 : w3.cell? ⟨w1.heap.size, 1, none⟩ = some (.slice V q cv) := rS.cell 1
    have LM1 := hid (LM.out w3 bel2 HS.out)
    clear bb k0 LT1 HW2 LM r2 rS
    go_wp2_with fail
    refine LM1.out.mono ?_
    rintro e w4 ⟨rfl, bb⟩
    have F := hid (show AnsB w (walkB d.1 d.2 k) (.returned (.bool (goOn d.1 d.2 k.1 k.2).isSome)) w4 from ⟨by rw [HYES.out], next_trans bel2 bb⟩)
    clear bb bel2 k1 k2 k3 k4 LM1 HYES
    generalize (goOn d.1 d.2 k.1 k.2).isSome = bz at *
    go_wp2
    go_ret
    exact F.out
   ·have hle : ¬ (sn : Int) ≤ 60 := by omega
    go_enter Try.func32, Try.ntmps32
    go_wp2_with fail
    rw [← HW.out]
    refine LS.out.mono ?_
    rintro e w1 ⟨he, bb⟩
    rw [HS.out] at he
    have he : e = .returned (.tuple #[.agg #[.slice A n cs, .slice V q cv], .bool true]) := he
    subst he
    have b2 := (Below.refl w1.heap.size w1).alloc (Nat.le_refl _) (.cells #[.slice A n cs, .slice V q cv] 93)
    have r2 := (rW.next bb).next b2
    have bel2 := next_trans (next_trans bel bb) b2
    have k0 : (w1.alloc (.cells #[.slice A n cs, .slice V q cv] 93)).cell? ⟨w.heap.size + 1, 0, none⟩ = some (.slice F fn fc) := r2.cell 0
    have LT1 := hid (LT.out _ bel2)
    have B2 := hid bel2
    have R2 := hid r2
    clear bb bel rA rW LT LM b2 r2 bel2
    go_wp2_with fail
    refine LT1.out.mono ?_
    rintro e w3 ⟨he, bb⟩
    rw [HT.out] at he
    subst he
    have k1 : w3.cell? ⟨w.heap.size + 1, 1, none⟩ = some (.slice S sn sc) := (R2.out.next bb).cell 1
    have F := hid (ansB (b := walkB d.1 d.2 k) (a := false) (by rw [walk_long HSN.out h60]) (next_trans B2.out bb))
    clear bb k0 LT1 B2
    go_wp2
    go_ret
    exact F.out
set_option maxHeartbeats 2000000 in
theorem endImpl (f s : Value) (k : Dat sWalk) (w : World) (h : Rd w w.heap.size sWalk [f, s] k) (hz : sz sWalk k ≤ 1048576) :
  Calls Try.prog 76 #[.agg #[f, s]] w fun e w' => ∃ A n c, e = .returned (.slice A n c) ∧ Rd w' w.heap.size sI [.slice A n c] (endL k) ∧ Below w.heap.size w w' := by
 obtain ⟨F, fn, fc, S, sn, sc, rfl, rfl, hF, hcF, hfn, hsn, hsn1, hcS, hrF, hrS, hzF, hzS⟩ := rd_walk h hz
 obtain ⟨W, hW, rW, bel⟩ := box1 w 56 #[.slice F fn fc, .slice S sn sc]
 have HW := hid hW
 by_cases h0 : sn = 0
 ·subst h0
  have F1 := hid (show ∃ A n c, Ending.returned (.slice F fn fc) = .returned (.slice A n c) ∧ Rd W w.heap.size sI [.slice A n c] (endL k) ∧ Below w.heap.size w W from ⟨_, _, _, rfl, by rw [end_none hsn]; exact hrF.below bel, bel⟩)
  clear hW h hz hF hcF hsn hcS hrF hrS hzF hzS bel rW
  go_enter Try.func76, Try.ntmps76
  go_wp2
  rw [← HW.out]
  go_ret
  exact F1.out
 ·obtain ⟨n, rfl⟩ : ∃ n, sn = n + 1 := ⟨sn - 1, by omega⟩
  obtain ⟨b, off, u, x, rfl, hb, ex, c0, c1, c2, hx2⟩ := rd_step hrS bel hsn (Nat.lt_succ_self n)
  obtain ⟨U, un, uc, rfl, hU, hcU⟩ := rd_ints.1 hx2
  have F1 := hid (show ∃ A n c, Ending.returned (.slice U un uc) = .returned (.slice A n c) ∧ Rd W w.heap.size sI [.slice A n c] (endL k) ∧ Below w.heap.size w W from ⟨_, _, _, rfl, by rw [end_last hsn ex.out]; exact hx2, bel⟩)
  have c2' : (w.alloc (.cells #[.slice F fn fc, .slice (some ⟨b, off, none⟩) (n + 1) sc] 56)).cell? ⟨b, off + n * 3 + 2, none⟩ = some (.slice U un uc) := by rw [← hW]; exact c2
  have i1 : ¬ ((n : Int) + 1 = 0) := by omega
  have i2 : ((n : Int) + 1) - 1 = (n : Int) := by omega
  have i3 : (0 : Int) ≤ (n : Int) := by omega
  have i4 : (n : Int) < (n : Int) + 1 := by omega
  clear hW h hz hF hcF hsn hcS hrF hrS hzF hzS ex hx2 hU hcU c0 c1 c2 h0 bel rW
  go_enter Try.func76, Try.ntmps76
  go_wp2
  rw [← HW.out]
  go_ret
  exact F1.out
set_option maxHeartbeats 2000000 in
theorem implEndTerm (a v f s : Value) (d : Dat sSystem) (k : Dat sWalk) (w : World) (h : Rd w w.heap.size sSystem [a, v] d) (h' : Rd w w.heap.size sWalk [f, s] k) (hz : sz sSystem d ≤ 1048576) (hz' : sz sWalk k ≤ 1048576) :
  Calls Try.prog 35 #[.agg #[a, v], .agg #[f, s]] w (AnsList w (endW d.1 d.2 k)) := by
 obtain ⟨W, hW, rA, rW, bel⟩ := box2 w 42 56 #[a, v] #[f, s]
 have HW := hid hW
 have L1 := hid (implWalkOk a v f s d k W (h.next bel) (h'.next bel) hz hz')
 have L2 := hid (fun (w1 : World) (bb : Below w.heap.size w w1) => endImpl f s k w1 (h'.next bb) hz')
 clear hW h h' hz hz'
 cases ok : walkB d.1 d.2 k with
 | false =>
  have HR := hid ok
  clear ok
  go_enter Try.func35, Try.ntmps35
  go_wp2_with fail
  rw [← HW.out]
  refine L1.out.mono ?_
  rintro e w1 ⟨he, bb⟩
  rw [HR.out] at he
  subst he
  have F := hid (show AnsList w (endW d.1 d.2 k) (.returned (.slice none 0 0)) w1 from ⟨_, 0, 0, rfl, by unfold endW; rw [if_neg (by rw [HR.out]; simp)]; exact Own.nil _ _, next_trans bel bb⟩)
  clear bb bel rA rW L2
  go_wp2
  go_ret
  exact F.out
 | true =>
  have HR := hid ok
  clear ok
  go_enter Try.func35, Try.ntmps35
  go_wp2_with fail
  rw [← HW.out]
  refine L1.out.mono ?_
  rintro e w1 ⟨he, bb⟩
  rw [HR.out] at he
  subst he
  replace rW := rW.next bb
  replace bel := next_trans bel bb
  have K0 : w1.cell? ⟨w.heap.size + 1, 0, none⟩ = some f := rW.cell 0
  have K1 : w1.cell? ⟨w.heap.size + 1, 1, none⟩ = some s := rW.cell 1
  clear bb L1 rW rA
  go_wp2_with fail
  refine (L2.out w1 bel).mono ?_
  rintro e w2 ⟨X, xn, xc, rfl, hX, bb⟩
  have hend : termOkB d.1 (endL k) = true := by
   obtain ⟨q1, q2, q3, q4⟩ := walk_parts HR.out
   exact (go_ok q2 q4).1
  have hsX := hX.seg
  have hxn : 1 ≤ xn ∧ xn ≤ 60 := by have := term_len hend; have := hsX.1; omega
  obtain ⟨b, off, y, rfl, -, -, -⟩ := hsX.spot (k := 0) (by omega)
  have LC := hid (cloneInts b off xn xc (endL k) w2 (hsX.more bb.size) (by omega))
  replace bel := next_trans bel bb
  clear bb hX hsX hend L2
  go_wp2_with fail
  refine LC.out.mono ?_
  rintro e w3 ⟨Y, yn, yc, rfl, oY, bb⟩
  have F := hid (show AnsList w (endW d.1 d.2 k) (.returned (.slice Y yn yc)) w3 from ⟨Y, yn, yc, rfl, by unfold endW; rw [if_pos HR.out]; exact Own.lower oY bel.size, next_trans bel bb⟩)
  clear oY bb bel LC K0 K1
  go_wp2
  go_ret
  exact F.out
end walkImpl
end
section
namespace walkX
open Go.RowKit base ints sig term marks app sym varsOf shape kindsR kindsW ruleMath walkMath walkSpec walkImpl
theorem specEndTermX (a v f s : Value) (d : Dat sSystem) (k : Dat sWalk) (w : World) (h : Rd w w.heap.size sSystem [a, v] d) (h' : Rd w w.heap.size sWalk [f, s] k) (hz : sz sSystem d ≤ 1048576) (hz' : sz sWalk k ≤ 1048576) :
  Calls Try.prog 34 #[.agg #[a, v], .agg #[f, s]] w (AnsSeg w (endW d.1 d.2 k)) :=
 (specEndTerm a v f s d k w h h' hz hz').mono fun _ _ ⟨A, n, c, e, o, b⟩ => ⟨A, n, c, e, Own.seg o, b⟩
end walkX
end
section
open Go.Lib (hid)
namespace wEndTerm
open Go.RowKit base ints sig cursor marks app sym appAt segs segsHelp segsMark kinds shape varsOf kindsR kindsW ruleMath stepMath walkMath stepSpec walkSpec walkImpl walkX
set_option maxRecDepth 100000
set_option maxHeartbeats 8000000 in
theorem law (v0_0 v0_1 : Value) (d0 : Dat sSystem) (v1_0 v1_1 : Value) (d1 : Dat sWalk) (w : World) (s0 : Rd w w.heap.size sSystem [v0_0, v0_1] d0) (s1 : Rd w w.heap.size sWalk [v1_0, v1_1] d1) :
  Calls Try.prog 7 #[.agg #[v0_0, v0_1], .agg #[v1_0, v1_1]] w (Fine w) := by
 obtain ⟨W, hW⟩ : ∃ W, W = (w.alloc (.cells #[v0_0, v0_1] 37)).alloc (.cells #[v1_0, v1_1] 51) := ⟨_, rfl⟩
 have rA0 : Row W (w.heap.size) 37 #[v0_0, v0_1] := by rw [hW]; have := (Row.new (w) 37 #[v0_0, v0_1]).alloc (.cells #[v1_0, v1_1] 51); simpa using this
 have rA1 : Row W (w.heap.size + 1) 51 #[v1_0, v1_1] := by rw [hW]; have := Row.new (w.alloc (.cells #[v0_0, v0_1] 37)) 51 #[v1_0, v1_1]; simpa using this
 have bW : Below w.heap.size w W := by rw [hW]; exact ((Below.refl w.heap.size w).alloc (by simp) (.cells #[v0_0, v0_1] 37)).alloc (by simp) (.cells #[v1_0, v1_1] 51)
 have zA0 := rA0.lt
 have zA1 := rA1.lt
 replace s0 := s0.next bW
 replace s1 := s1.next bW
 have HW := hid hW
 clear hW
 obtain ⟨t0, ht0⟩ : ∃ z, sz sSystem d0 = z := ⟨_, rfl⟩
 have HT0 := hid ht0
 clear ht0
 obtain ⟨t1, ht1⟩ : ∃ z, sz sWalk d1 = z := ⟨_, rfl⟩
 have HT1 := hid ht1
 clear ht1
 go_enter Try.func7, Try.ntmps7
 go_wp2_with fail
 rw [← HW.out]
 clear HW
 have bel := Below.refl W.heap.size W
 have cA0_0 : W.cell? ⟨w.heap.size, 0, none⟩ = some (v0_0) := (rA0.next bel).cell 0
 have cA0_1 : W.cell? ⟨w.heap.size, 1, none⟩ = some (v0_1) := (rA0.next bel).cell 1
 have cA1_0 : W.cell? ⟨w.heap.size + 1, 0, none⟩ = some (v1_0) := (rA1.next bel).cell 0
 have cA1_1 : W.cell? ⟨w.heap.size + 1, 1, none⟩ = some (v1_1) := (rA1.next bel).cell 1
 refine (szK_System _ _ d0 (1048576) _ (s0.next bel) (by omega) (by omega)).mono ?_
 rintro e w1 ⟨he, bb⟩
 rw [HT0.out] at he
 replace bel := next_trans bel bb
 have zw1 := bb.size
 clear bb
 by_cases q0 : t0 ≤ 1048576
 case neg =>
  rw [if_pos (by omega)] at he
  subst he
  have F := hid (bW.trans (bel.mono bW.size))
  clear bel bW cA0_0 cA0_1 cA1_0 cA1_1
  go_wp2
  go_ret
  exact ⟨rfl, F.out⟩
 rw [if_neg (by omega)] at he
 subst he
 have h0 : Hid (sz sSystem d0 ≤ 1048576) := hid (by rw [HT0.out]; omega)
 clear cA0_0 cA0_1 cA1_0 cA1_1
 have cA0_0 : w1.cell? ⟨w.heap.size, 0, none⟩ = some (v0_0) := (rA0.next bel).cell 0
 have cA0_1 : w1.cell? ⟨w.heap.size, 1, none⟩ = some (v0_1) := (rA0.next bel).cell 1
 have cA1_0 : w1.cell? ⟨w.heap.size + 1, 0, none⟩ = some (v1_0) := (rA1.next bel).cell 0
 have cA1_1 : w1.cell? ⟨w.heap.size + 1, 1, none⟩ = some (v1_1) := (rA1.next bel).cell 1
 go_wp2_with fail
 refine (szK_Walk _ _ d1 (1048576 - (t0 : Int)) _ (s1.next bel) (by omega) (by omega)).mono ?_
 rintro e w2 ⟨he, bb⟩
 rw [HT1.out] at he
 replace bel := next_trans bel bb
 have zw2 := bb.size
 clear bb
 by_cases q1 : t0 + t1 ≤ 1048576
 case neg =>
  rw [if_pos (by omega)] at he
  subst he
  have F := hid (bW.trans (bel.mono bW.size))
  clear bel bW cA0_0 cA0_1 cA1_0 cA1_1
  go_wp2
  go_ret
  exact ⟨rfl, F.out⟩
 rw [if_neg (by omega)] at he
 subst he
 have h1 : Hid (sz sWalk d1 ≤ 1048576) := hid (by rw [HT1.out]; omega)
 clear cA0_0 cA0_1 cA1_0 cA1_1
 have cA0_0 : w2.cell? ⟨w.heap.size, 0, none⟩ = some (v0_0) := (rA0.next bel).cell 0
 have cA0_1 : w2.cell? ⟨w.heap.size, 1, none⟩ = some (v0_1) := (rA0.next bel).cell 1
 have cA1_0 : w2.cell? ⟨w.heap.size + 1, 0, none⟩ = some (v1_0) := (rA1.next bel).cell 0
 have cA1_1 : w2.cell? ⟨w.heap.size + 1, 1, none⟩ = some (v1_1) := (rA1.next bel).cell 1
 have hlen : (endW d0.1 d0.2 d1).length ≤ 1048576 := endW_len h1.out
 obtain ⟨ys, hys⟩ : ∃ ys, endW d0.1 d0.2 d1 = ys := ⟨_, rfl⟩
 rw [hys] at hlen
 have HY := hid hys
 clear hys
 replace hlen := hid hlen
 obtain ⟨k0, hk0⟩ : ∃ z, cntv sSystem d0 = z := ⟨_, rfl⟩
 have hK0 : k0 ≤ 3 * 1048576 := by have j1 := cntv_le sSystem d0; have j2 := h0.out; have j3 : wd sSystem = 3 := rfl; rw [hk0, j3] at j1; omega
 have HK0 := hid hk0
 clear hk0
 obtain ⟨k1, hk1⟩ : ∃ z, cntv sWalk d1 = z := ⟨_, rfl⟩
 have hK1 : k1 ≤ 4 * 1048576 := by have j1 := cntv_le sWalk d1; have j2 := h1.out; have j3 : wd sWalk = 4 := rfl; rw [hk1, j3] at j1; omega
 have HK1 := hid hk1
 clear hk1
 go_wp2_with fail
 replace bel := bel.drew
 have zdw2 := (drew_below w2).size
 go_region_held3 (fun w' => w'.cell? ⟨w.heap.size, 0, none⟩ = some (v0_0) ∧ w'.cell? ⟨w.heap.size, 1, none⟩ = some (v0_1) ∧ w'.cell? ⟨w.heap.size + 1, 0, none⟩ = some (v1_0) ∧ w'.cell? ⟨w.heap.size + 1, 1, none⟩ = some (v1_1))
  (go_keep)
  (first
   | (go_at_call_of 23 (Value.agg #[v0_0, v0_1]); refine (toK_System _ _ d0 _ (s0.next bel) h0.out).mono ?_; rintro e w3 ⟨p0A0, p0n0, p0c0, p0A1, p0n1, p0c1, rfl, op0, bb⟩; replace bel := next_trans bel bb; have cA0_0w3 : w3.cell? ⟨w.heap.size, 0, none⟩ = some (v0_0) := (rA0.next bel).cell 0; have cA0_1w3 : w3.cell? ⟨w.heap.size, 1, none⟩ = some (v0_1) := (rA0.next bel).cell 1; have cA1_0w3 : w3.cell? ⟨w.heap.size + 1, 0, none⟩ = some (v1_0) := (rA1.next bel).cell 0; have cA1_1w3 : w3.cell? ⟨w.heap.size + 1, 1, none⟩ = some (v1_1) := (rA1.next bel).cell 1; have zqw3 := bb.size; clear bb)
   | (go_at_call_of 31 (Value.agg #[v1_0, v1_1]); refine (toK_Walk _ _ d1 _ (s1.next bel) h1.out).mono ?_; rintro e w4 ⟨p1A0, p1n0, p1c0, p1A1, p1n1, p1c1, rfl, op1, bb⟩; replace op0 := op0.next bb; replace bel := next_trans bel bb; have cA0_0w4 : w4.cell? ⟨w.heap.size, 0, none⟩ = some (v0_0) := (rA0.next bel).cell 0; have cA0_1w4 : w4.cell? ⟨w.heap.size, 1, none⟩ = some (v0_1) := (rA0.next bel).cell 1; have cA1_0w4 : w4.cell? ⟨w.heap.size + 1, 0, none⟩ = some (v1_0) := (rA1.next bel).cell 0; have cA1_1w4 : w4.cell? ⟨w.heap.size + 1, 1, none⟩ = some (v1_1) := (rA1.next bel).cell 1; have zqw4 := bb.size; clear bb)
   | (go_at_call 34; refine (specEndTermX _ _ _ _ d0 d1 _ op0.rd op1.rd h0.out h1.out).mono ?_; rintro e w5 ⟨wA, wn, wc, he, o0, bb⟩; rw [HY.out] at o0; subst he; replace bel := next_trans bel bb; have cA0_0w5 : w5.cell? ⟨w.heap.size, 0, none⟩ = some (v0_0) := (rA0.next bel).cell 0; have cA0_1w5 : w5.cell? ⟨w.heap.size, 1, none⟩ = some (v0_1) := (rA0.next bel).cell 1; have cA1_0w5 : w5.cell? ⟨w.heap.size + 1, 0, none⟩ = some (v1_0) := (rA1.next bel).cell 0; have cA1_1w5 : w5.cell? ⟨w.heap.size + 1, 1, none⟩ = some (v1_1) := (rA1.next bel).cell 1; have zqw5 := bb.size; clear bb op0 op1))
 have sw := o0
 clear o0
 have belw := Below.refl w5.heap.size w5
 clear cA0_0 cA0_1 cA1_0 cA1_1 cA0_0w5 cA0_1w5 cA1_0w5 cA1_1w5
 have cA0_0 : w5.cell? ⟨w.heap.size, 0, none⟩ = some (v0_0) := (rA0.next bel).cell 0
 have cA0_1 : w5.cell? ⟨w.heap.size, 1, none⟩ = some (v0_1) := (rA0.next bel).cell 1
 have cA1_0 : w5.cell? ⟨w.heap.size + 1, 0, none⟩ = some (v1_0) := (rA1.next bel).cell 0
 have cA1_1 : w5.cell? ⟨w.heap.size + 1, 1, none⟩ = some (v1_1) := (rA1.next bel).cell 1
 go_wp2_with fail
 refine (toK_System _ _ d0 _ (s0.next bel) h0.out).mono ?_
 rintro e w6 ⟨x0A0, x0n0, x0c0, x0A1, x0n1, x0c1, rfl, ox0, bb⟩
 replace bel := next_trans bel bb
 replace belw := next_trans belw bb
 have zw6 := bb.size
 clear bb
 clear cA0_0 cA0_1 cA1_0 cA1_1
 have cA0_0 : w6.cell? ⟨w.heap.size, 0, none⟩ = some (v0_0) := (rA0.next bel).cell 0
 have cA0_1 : w6.cell? ⟨w.heap.size, 1, none⟩ = some (v0_1) := (rA0.next bel).cell 1
 have cA1_0 : w6.cell? ⟨w.heap.size + 1, 0, none⟩ = some (v1_0) := (rA1.next bel).cell 0
 have cA1_1 : w6.cell? ⟨w.heap.size + 1, 1, none⟩ = some (v1_1) := (rA1.next bel).cell 1
 have dA0_0 : (w6.alloc (.cells #[.slice x0A0 x0n0 x0c0, .slice x0A1 x0n1 x0c1] 42)).cell? ⟨w.heap.size, 0, none⟩ = some (v0_0) := ((rA0.next bel).alloc _).cell 0
 have dA0_1 : (w6.alloc (.cells #[.slice x0A0 x0n0 x0c0, .slice x0A1 x0n1 x0c1] 42)).cell? ⟨w.heap.size, 1, none⟩ = some (v0_1) := ((rA0.next bel).alloc _).cell 1
 have dA1_0 : (w6.alloc (.cells #[.slice x0A0 x0n0 x0c0, .slice x0A1 x0n1 x0c1] 42)).cell? ⟨w.heap.size + 1, 0, none⟩ = some (v1_0) := ((rA1.next bel).alloc _).cell 0
 have dA1_1 : (w6.alloc (.cells #[.slice x0A0 x0n0 x0c0, .slice x0A1 x0n1 x0c1] 42)).cell? ⟨w.heap.size + 1, 1, none⟩ = some (v1_1) := ((rA1.next bel).alloc _).cell 1
 go_wp2_with fail
 obtain ⟨w7, hw⟩ : ∃ W, W = w6.alloc (.cells #[.slice x0A0 x0n0 x0c0, .slice x0A1 x0n1 x0c1] 42) := ⟨_, rfl⟩
 rw [← hw]
 have rx0 : Row w7 w6.heap.size 42 #[.slice x0A0 x0n0 x0c0, .slice x0A1 x0n1 x0c1] := by rw [hw]; exact Row.new _ _ _
 have bb : Below w6.heap.size w6 w7 := by rw [hw]; exact (Below.refl _ _).alloc (Nat.le_refl _) _
 have yrx0 : w6.heap.size < w7.heap.size := by rw [hw]; simp
 clear hw
 replace ox0 := ox0.next bb
 replace bel := next_trans bel bb
 replace belw := next_trans belw bb
 have zw7 := bb.size
 clear bb
 clear dA0_0 dA0_1 dA1_0 dA1_1
 clear cA0_0 cA0_1 cA1_0 cA1_1
 have cA0_0 : w7.cell? ⟨w.heap.size, 0, none⟩ = some (v0_0) := (rA0.next bel).cell 0
 have cA0_1 : w7.cell? ⟨w.heap.size, 1, none⟩ = some (v0_1) := (rA0.next bel).cell 1
 have cA1_0 : w7.cell? ⟨w.heap.size + 1, 0, none⟩ = some (v1_0) := (rA1.next bel).cell 0
 have cA1_1 : w7.cell? ⟨w.heap.size + 1, 1, none⟩ = some (v1_1) := (rA1.next bel).cell 1
 have cx0_0 : w7.cell? ⟨w6.heap.size, 0, none⟩ = some (.slice x0A0 x0n0 x0c0) := (rx0).cell 0
 have cx0_1 : w7.cell? ⟨w6.heap.size, 1, none⟩ = some (.slice x0A1 x0n1 x0c1) := (rx0).cell 1
 refine (toK_Walk _ _ d1 _ (s1.next bel) h1.out).mono ?_
 rintro e w8 ⟨x1A0, x1n0, x1c0, x1A1, x1n1, x1c1, rfl, ox1, bb⟩
 replace ox0 := ox0.next bb
 replace rx0 := rx0.next bb
 replace bel := next_trans bel bb
 replace belw := next_trans belw bb
 have zw8 := bb.size
 clear bb
 clear cA0_0 cA0_1 cA1_0 cA1_1 cx0_0 cx0_1
 have cA0_0 : w8.cell? ⟨w.heap.size, 0, none⟩ = some (v0_0) := (rA0.next bel).cell 0
 have cA0_1 : w8.cell? ⟨w.heap.size, 1, none⟩ = some (v0_1) := (rA0.next bel).cell 1
 have cA1_0 : w8.cell? ⟨w.heap.size + 1, 0, none⟩ = some (v1_0) := (rA1.next bel).cell 0
 have cA1_1 : w8.cell? ⟨w.heap.size + 1, 1, none⟩ = some (v1_1) := (rA1.next bel).cell 1
 have cx0_0 : w8.cell? ⟨w6.heap.size, 0, none⟩ = some (.slice x0A0 x0n0 x0c0) := (rx0).cell 0
 have cx0_1 : w8.cell? ⟨w6.heap.size, 1, none⟩ = some (.slice x0A1 x0n1 x0c1) := (rx0).cell 1
 have dA0_0 : (w8.alloc (.cells #[.slice x1A0 x1n0 x1c0, .slice x1A1 x1n1 x1c1] 56)).cell? ⟨w.heap.size, 0, none⟩ = some (v0_0) := ((rA0.next bel).alloc _).cell 0
 have dA0_1 : (w8.alloc (.cells #[.slice x1A0 x1n0 x1c0, .slice x1A1 x1n1 x1c1] 56)).cell? ⟨w.heap.size, 1, none⟩ = some (v0_1) := ((rA0.next bel).alloc _).cell 1
 have dA1_0 : (w8.alloc (.cells #[.slice x1A0 x1n0 x1c0, .slice x1A1 x1n1 x1c1] 56)).cell? ⟨w.heap.size + 1, 0, none⟩ = some (v1_0) := ((rA1.next bel).alloc _).cell 0
 have dA1_1 : (w8.alloc (.cells #[.slice x1A0 x1n0 x1c0, .slice x1A1 x1n1 x1c1] 56)).cell? ⟨w.heap.size + 1, 1, none⟩ = some (v1_1) := ((rA1.next bel).alloc _).cell 1
 have dx0_0 : (w8.alloc (.cells #[.slice x1A0 x1n0 x1c0, .slice x1A1 x1n1 x1c1] 56)).cell? ⟨w6.heap.size, 0, none⟩ = some (.slice x0A0 x0n0 x0c0) := ((rx0).alloc _).cell 0
 have dx0_1 : (w8.alloc (.cells #[.slice x1A0 x1n0 x1c0, .slice x1A1 x1n1 x1c1] 56)).cell? ⟨w6.heap.size, 1, none⟩ = some (.slice x0A1 x0n1 x0c1) := ((rx0).alloc _).cell 1
 go_wp2_with fail
 obtain ⟨w9, hw⟩ : ∃ W, W = w8.alloc (.cells #[.slice x1A0 x1n0 x1c0, .slice x1A1 x1n1 x1c1] 56) := ⟨_, rfl⟩
 rw [← hw]
 have rx1 : Row w9 w8.heap.size 56 #[.slice x1A0 x1n0 x1c0, .slice x1A1 x1n1 x1c1] := by rw [hw]; exact Row.new _ _ _
 have bb : Below w8.heap.size w8 w9 := by rw [hw]; exact (Below.refl _ _).alloc (Nat.le_refl _) _
 have yrx1 : w8.heap.size < w9.heap.size := by rw [hw]; simp
 clear hw
 replace ox0 := ox0.next bb
 replace rx0 := rx0.next bb
 replace ox1 := ox1.next bb
 replace bel := next_trans bel bb
 replace belw := next_trans belw bb
 have zw9 := bb.size
 clear bb
 clear dA0_0 dA0_1 dA1_0 dA1_1 dx0_0 dx0_1
 clear cA0_0 cA0_1 cA1_0 cA1_1 cx0_0 cx0_1
 have cA0_0 : w9.cell? ⟨w.heap.size, 0, none⟩ = some (v0_0) := (rA0.next bel).cell 0
 have cA0_1 : w9.cell? ⟨w.heap.size, 1, none⟩ = some (v0_1) := (rA0.next bel).cell 1
 have cA1_0 : w9.cell? ⟨w.heap.size + 1, 0, none⟩ = some (v1_0) := (rA1.next bel).cell 0
 have cA1_1 : w9.cell? ⟨w.heap.size + 1, 1, none⟩ = some (v1_1) := (rA1.next bel).cell 1
 have cx0_0 : w9.cell? ⟨w6.heap.size, 0, none⟩ = some (.slice x0A0 x0n0 x0c0) := (rx0).cell 0
 have cx0_1 : w9.cell? ⟨w6.heap.size, 1, none⟩ = some (.slice x0A1 x0n1 x0c1) := (rx0).cell 1
 have cx1_0 : w9.cell? ⟨w8.heap.size, 0, none⟩ = some (.slice x1A0 x1n0 x1c0) := (rx1).cell 0
 have cx1_1 : w9.cell? ⟨w8.heap.size, 1, none⟩ = some (.slice x1A1 x1n1 x1c1) := (rx1).cell 1
 refine (implEndTerm _ _ _ _ d0 d1 _ ox0.rd ox1.rd h0.out h1.out).mono ?_
 rintro e w10 ⟨gA, gn, gc, he, o0, bb⟩
 rw [HY.out] at o0
 subst he
 replace ox0 := ox0.next bb
 replace rx0 := rx0.next bb
 replace ox1 := ox1.next bb
 replace rx1 := rx1.next bb
 replace bel := next_trans bel bb
 replace belw := next_trans belw bb
 have zw10 := bb.size
 clear bb
 have og := Ownd.of_own o0
 clear o0
 clear cA0_0 cA0_1 cA1_0 cA1_1 cx0_0 cx0_1 cx1_0 cx1_1
 have cA0_0 : w10.cell? ⟨w.heap.size, 0, none⟩ = some (v0_0) := (rA0.next bel).cell 0
 have cA0_1 : w10.cell? ⟨w.heap.size, 1, none⟩ = some (v0_1) := (rA0.next bel).cell 1
 have cA1_0 : w10.cell? ⟨w.heap.size + 1, 0, none⟩ = some (v1_0) := (rA1.next bel).cell 0
 have cA1_1 : w10.cell? ⟨w.heap.size + 1, 1, none⟩ = some (v1_1) := (rA1.next bel).cell 1
 have cx0_0 : w10.cell? ⟨w6.heap.size, 0, none⟩ = some (.slice x0A0 x0n0 x0c0) := (rx0).cell 0
 have cx0_1 : w10.cell? ⟨w6.heap.size, 1, none⟩ = some (.slice x0A1 x0n1 x0c1) := (rx0).cell 1
 have cx1_0 : w10.cell? ⟨w8.heap.size, 0, none⟩ = some (.slice x1A0 x1n0 x1c0) := (rx1).cell 0
 have cx1_1 : w10.cell? ⟨w8.heap.size, 1, none⟩ = some (.slice x1A1 x1n1 x1c1) := (rx1).cell 1
 have hlenn : gn ≤ 1048576 := by rw [← og.rd.1]; exact hlen.out
 go_wp2_with fail
 refine (intsEq _ _ _ _ _ _ ys _ og.rd (sw.next belw) hlenn).mono ?_
 rintro e w11 ⟨rfl, bb⟩
 replace ox0 := ox0.next bb
 replace rx0 := rx0.next bb
 replace ox1 := ox1.next bb
 replace rx1 := rx1.next bb
 replace og := og.next bb
 replace bel := next_trans bel bb
 replace belw := next_trans belw bb
 have zw11 := bb.size
 clear bb
 clear cA0_0 cA0_1 cA1_0 cA1_1 cx0_0 cx0_1 cx1_0 cx1_1
 have cA0_0 : w11.cell? ⟨w.heap.size, 0, none⟩ = some (v0_0) := (rA0.next bel).cell 0
 have cA0_1 : w11.cell? ⟨w.heap.size, 1, none⟩ = some (v0_1) := (rA0.next bel).cell 1
 have cA1_0 : w11.cell? ⟨w.heap.size + 1, 0, none⟩ = some (v1_0) := (rA1.next bel).cell 0
 have cA1_1 : w11.cell? ⟨w.heap.size + 1, 1, none⟩ = some (v1_1) := (rA1.next bel).cell 1
 have cx0_0 : w11.cell? ⟨w6.heap.size, 0, none⟩ = some (.slice x0A0 x0n0 x0c0) := (rx0).cell 0
 have cx0_1 : w11.cell? ⟨w6.heap.size, 1, none⟩ = some (.slice x0A1 x0n1 x0c1) := (rx0).cell 1
 have cx1_0 : w11.cell? ⟨w8.heap.size, 0, none⟩ = some (.slice x1A0 x1n0 x1c0) := (rx1).cell 0
 have cx1_1 : w11.cell? ⟨w8.heap.size, 1, none⟩ = some (.slice x1A1 x1n1 x1c1) := (rx1).cell 1
 go_wp2_with fail
 replace ox0 := ox0.drew
 replace rx0 := rx0.drew
 replace ox1 := ox1.drew
 replace rx1 := rx1.drew
 replace og := og.drew
 replace bel := bel.drew
 replace belw := belw.drew
 have zdw11 := (drew_below w11).size
 go_region_held3 (fun w' => w'.cell? ⟨w6.heap.size, 0, none⟩ = some (.slice x0A0 x0n0 x0c0) ∧ w'.cell? ⟨w6.heap.size, 1, none⟩ = some (.slice x0A1 x0n1 x0c1) ∧ w'.cell? ⟨w.heap.size, 0, none⟩ = some (v0_0) ∧ w'.cell? ⟨w.heap.size, 1, none⟩ = some (v0_1))
  (go_keep)
  (first
   | (go_at_call 23; refine (toK_System _ _ d0 _ (s0.next bel) h0.out).mono ?_; rintro e w12 ⟨t0A0, t0n0, t0c0, t0A1, t0n1, t0c1, rfl, ot, bb⟩; replace ox0 := ox0.next bb; replace rx0 := rx0.next bb; replace ox1 := ox1.next bb; replace rx1 := rx1.next bb; replace og := og.next bb; replace bel := next_trans bel bb; replace belw := next_trans belw bb; have k0_0w12 : w12.cell? ⟨w.heap.size, 0, none⟩ = some (v0_0) := (rA0.next bel).cell 0; have k0_1w12 : w12.cell? ⟨w.heap.size, 1, none⟩ = some (v0_1) := (rA0.next bel).cell 1; have l0_0w12 : w12.cell? ⟨w6.heap.size, 0, none⟩ = some (.slice x0A0 x0n0 x0c0) := rx0.cell 0; have l0_1w12 : w12.cell? ⟨w6.heap.size, 1, none⟩ = some (.slice x0A1 x0n1 x0c1) := rx0.cell 1; have zqw12 := bb.size; clear bb)
   | (go_at_call 25; refine (eqK_System _ _ _ _ d0 _ ox0.rd ot.rd h0.out).mono ?_; rintro e w13 ⟨rfl, bb⟩; replace ox0 := ox0.next bb; replace rx0 := rx0.next bb; replace ox1 := ox1.next bb; replace rx1 := rx1.next bb; replace og := og.next bb; replace bel := next_trans bel bb; replace belw := next_trans belw bb; have k0_0w13 : w13.cell? ⟨w.heap.size, 0, none⟩ = some (v0_0) := (rA0.next bel).cell 0; have k0_1w13 : w13.cell? ⟨w.heap.size, 1, none⟩ = some (v0_1) := (rA0.next bel).cell 1; have l0_0w13 : w13.cell? ⟨w6.heap.size, 0, none⟩ = some (.slice x0A0 x0n0 x0c0) := rx0.cell 0; have l0_1w13 : w13.cell? ⟨w6.heap.size, 1, none⟩ = some (.slice x0A1 x0n1 x0c1) := rx0.cell 1; have zqw13 := bb.size; clear bb ot))
 clear k0_0w12 l0_0w12 k0_1w12 l0_1w12 k0_0w13 l0_0w13 k0_1w13 l0_1w13
 clear cA0_0 cA0_1 cA1_0 cA1_1 cx0_0 cx0_1 cx1_0 cx1_1
 have cA0_0 : w13.cell? ⟨w.heap.size, 0, none⟩ = some (v0_0) := (rA0.next bel).cell 0
 have cA0_1 : w13.cell? ⟨w.heap.size, 1, none⟩ = some (v0_1) := (rA0.next bel).cell 1
 have cA1_0 : w13.cell? ⟨w.heap.size + 1, 0, none⟩ = some (v1_0) := (rA1.next bel).cell 0
 have cA1_1 : w13.cell? ⟨w.heap.size + 1, 1, none⟩ = some (v1_1) := (rA1.next bel).cell 1
 have cx0_0 : w13.cell? ⟨w6.heap.size, 0, none⟩ = some (.slice x0A0 x0n0 x0c0) := (rx0).cell 0
 have cx0_1 : w13.cell? ⟨w6.heap.size, 1, none⟩ = some (.slice x0A1 x0n1 x0c1) := (rx0).cell 1
 have cx1_0 : w13.cell? ⟨w8.heap.size, 0, none⟩ = some (.slice x1A0 x1n0 x1c0) := (rx1).cell 0
 have cx1_1 : w13.cell? ⟨w8.heap.size, 1, none⟩ = some (.slice x1A1 x1n1 x1c1) := (rx1).cell 1
 go_wp2_with fail
 replace ox0 := ox0.drew
 replace rx0 := rx0.drew
 replace ox1 := ox1.drew
 replace rx1 := rx1.drew
 replace og := og.drew
 replace bel := bel.drew
 replace belw := belw.drew
 have zdw13 := (drew_below w13).size
 go_region_held3 (fun w' => w'.cell? ⟨w8.heap.size, 0, none⟩ = some (.slice x1A0 x1n0 x1c0) ∧ w'.cell? ⟨w8.heap.size, 1, none⟩ = some (.slice x1A1 x1n1 x1c1) ∧ w'.cell? ⟨w.heap.size + 1, 0, none⟩ = some (v1_0) ∧ w'.cell? ⟨w.heap.size + 1, 1, none⟩ = some (v1_1))
  (go_keep)
  (first
   | (go_at_call 31; refine (toK_Walk _ _ d1 _ (s1.next bel) h1.out).mono ?_; rintro e w14 ⟨t1A0, t1n0, t1c0, t1A1, t1n1, t1c1, rfl, ot, bb⟩; replace ox0 := ox0.next bb; replace rx0 := rx0.next bb; replace ox1 := ox1.next bb; replace rx1 := rx1.next bb; replace og := og.next bb; replace bel := next_trans bel bb; replace belw := next_trans belw bb; have k1_0w14 : w14.cell? ⟨w.heap.size + 1, 0, none⟩ = some (v1_0) := (rA1.next bel).cell 0; have k1_1w14 : w14.cell? ⟨w.heap.size + 1, 1, none⟩ = some (v1_1) := (rA1.next bel).cell 1; have l1_0w14 : w14.cell? ⟨w8.heap.size, 0, none⟩ = some (.slice x1A0 x1n0 x1c0) := rx1.cell 0; have l1_1w14 : w14.cell? ⟨w8.heap.size, 1, none⟩ = some (.slice x1A1 x1n1 x1c1) := rx1.cell 1; have zqw14 := bb.size; clear bb)
   | (go_at_call 33; refine (eqK_Walk _ _ _ _ d1 _ ox1.rd ot.rd h1.out).mono ?_; rintro e w15 ⟨rfl, bb⟩; replace ox0 := ox0.next bb; replace rx0 := rx0.next bb; replace ox1 := ox1.next bb; replace rx1 := rx1.next bb; replace og := og.next bb; replace bel := next_trans bel bb; replace belw := next_trans belw bb; have k1_0w15 : w15.cell? ⟨w.heap.size + 1, 0, none⟩ = some (v1_0) := (rA1.next bel).cell 0; have k1_1w15 : w15.cell? ⟨w.heap.size + 1, 1, none⟩ = some (v1_1) := (rA1.next bel).cell 1; have l1_0w15 : w15.cell? ⟨w8.heap.size, 0, none⟩ = some (.slice x1A0 x1n0 x1c0) := rx1.cell 0; have l1_1w15 : w15.cell? ⟨w8.heap.size, 1, none⟩ = some (.slice x1A1 x1n1 x1c1) := rx1.cell 1; have zqw15 := bb.size; clear bb ot))
 clear k1_0w14 l1_0w14 k1_1w14 l1_1w14 k1_0w15 l1_0w15 k1_1w15 l1_1w15
 clear cA0_0 cA0_1 cA1_0 cA1_1 cx0_0 cx0_1 cx1_0 cx1_1
 have cA0_0 : w15.cell? ⟨w.heap.size, 0, none⟩ = some (v0_0) := (rA0.next bel).cell 0
 have cA0_1 : w15.cell? ⟨w.heap.size, 1, none⟩ = some (v0_1) := (rA0.next bel).cell 1
 have cA1_0 : w15.cell? ⟨w.heap.size + 1, 0, none⟩ = some (v1_0) := (rA1.next bel).cell 0
 have cA1_1 : w15.cell? ⟨w.heap.size + 1, 1, none⟩ = some (v1_1) := (rA1.next bel).cell 1
 have cx0_0 : w15.cell? ⟨w6.heap.size, 0, none⟩ = some (.slice x0A0 x0n0 x0c0) := (rx0).cell 0
 have cx0_1 : w15.cell? ⟨w6.heap.size, 1, none⟩ = some (.slice x0A1 x0n1 x0c1) := (rx0).cell 1
 have cx1_0 : w15.cell? ⟨w8.heap.size, 0, none⟩ = some (.slice x1A0 x1n0 x1c0) := (rx1).cell 0
 have cx1_1 : w15.cell? ⟨w8.heap.size, 1, none⟩ = some (.slice x1A1 x1n1 x1c1) := (rx1).cell 1
 obtain ⟨Fox0, fox0, nox0, box0⟩ := ox0
 go_wp2_with fail
 refine (markK_System _ _ d0 (1) Fox0 _ fox0 nox0 h0.out (by omega) (by rw [HK0.out]; omega)).mono ?_
 rintro e w16 ⟨he, omox0, onox0⟩
 rw [HK0.out] at he
 have bt := onox0.btw box0
 clear onox0
 clear omox0 fox0 nox0 box0
 subst he
 replace rx0 := Row.btw rx0 bt (by omega)
 replace ox1 := ox1.btw bt (by omega)
 replace rx1 := Row.btw rx1 bt (by omega)
 replace og := og.btw bt (by omega)
 replace bel := Below.btw bel bt (by omega) bel.size
 replace belw := Below.btw belw bt (by omega) belw.size
 have zw16 := bt.size
 clear bt
 clear cA0_0 cA0_1 cA1_0 cA1_1 cx0_0 cx0_1 cx1_0 cx1_1
 have cA0_0 : w16.cell? ⟨w.heap.size, 0, none⟩ = some (v0_0) := (rA0.next bel).cell 0
 have cA0_1 : w16.cell? ⟨w.heap.size, 1, none⟩ = some (v0_1) := (rA0.next bel).cell 1
 have cA1_0 : w16.cell? ⟨w.heap.size + 1, 0, none⟩ = some (v1_0) := (rA1.next bel).cell 0
 have cA1_1 : w16.cell? ⟨w.heap.size + 1, 1, none⟩ = some (v1_1) := (rA1.next bel).cell 1
 have cx0_0 : w16.cell? ⟨w6.heap.size, 0, none⟩ = some (.slice x0A0 x0n0 x0c0) := (rx0).cell 0
 have cx0_1 : w16.cell? ⟨w6.heap.size, 1, none⟩ = some (.slice x0A1 x0n1 x0c1) := (rx0).cell 1
 have cx1_0 : w16.cell? ⟨w8.heap.size, 0, none⟩ = some (.slice x1A0 x1n0 x1c0) := (rx1).cell 0
 have cx1_1 : w16.cell? ⟨w8.heap.size, 1, none⟩ = some (.slice x1A1 x1n1 x1c1) := (rx1).cell 1
 obtain ⟨Fox1, fox1, nox1, box1⟩ := ox1
 go_wp2_with fail
 refine (markK_Walk _ _ d1 (1 + (k0 : Int)) Fox1 _ fox1 nox1 h1.out (by omega) (by rw [HK1.out]; omega)).mono ?_
 rintro e w17 ⟨he, omox1, onox1⟩
 rw [HK1.out] at he
 have bt := onox1.btw box1
 clear onox1
 clear omox1 fox1 nox1 box1
 subst he
 replace rx0 := Row.btw rx0 bt (by omega)
 replace rx1 := Row.btw rx1 bt (by omega)
 replace og := og.btw bt (by omega)
 replace bel := Below.btw bel bt (by omega) bel.size
 replace belw := Below.btw belw bt (by omega) belw.size
 have zw17 := bt.size
 clear bt
 clear cA0_0 cA0_1 cA1_0 cA1_1 cx0_0 cx0_1 cx1_0 cx1_1
 have cA0_0 : w17.cell? ⟨w.heap.size, 0, none⟩ = some (v0_0) := (rA0.next bel).cell 0
 have cA0_1 : w17.cell? ⟨w.heap.size, 1, none⟩ = some (v0_1) := (rA0.next bel).cell 1
 have cA1_0 : w17.cell? ⟨w.heap.size + 1, 0, none⟩ = some (v1_0) := (rA1.next bel).cell 0
 have cA1_1 : w17.cell? ⟨w.heap.size + 1, 1, none⟩ = some (v1_1) := (rA1.next bel).cell 1
 have cx0_0 : w17.cell? ⟨w6.heap.size, 0, none⟩ = some (.slice x0A0 x0n0 x0c0) := (rx0).cell 0
 have cx0_1 : w17.cell? ⟨w6.heap.size, 1, none⟩ = some (.slice x0A1 x0n1 x0c1) := (rx0).cell 1
 have cx1_0 : w17.cell? ⟨w8.heap.size, 0, none⟩ = some (.slice x1A0 x1n0 x1c0) := (rx1).cell 0
 have cx1_1 : w17.cell? ⟨w8.heap.size, 1, none⟩ = some (.slice x1A1 x1n1 x1c1) := (rx1).cell 1
 clear rx0
 clear rx1
 clear cA0_0 cA0_1 cA1_0 cA1_1 cx0_0 cx0_1 cx1_0 cx1_1
 have cA0_0 : w17.cell? ⟨w.heap.size, 0, none⟩ = some (v0_0) := (rA0.next bel).cell 0
 have cA0_1 : w17.cell? ⟨w.heap.size, 1, none⟩ = some (v0_1) := (rA0.next bel).cell 1
 have cA1_0 : w17.cell? ⟨w.heap.size + 1, 0, none⟩ = some (v1_0) := (rA1.next bel).cell 0
 have cA1_1 : w17.cell? ⟨w.heap.size + 1, 1, none⟩ = some (v1_1) := (rA1.next bel).cell 1
 go_wp2_with fail
 refine (intsEq _ _ _ _ _ _ ys _ og.rd (sw.next belw) hlenn).mono ?_
 rintro e w18 ⟨rfl, bb⟩
 replace og := og.next bb
 replace bel := next_trans bel bb
 replace belw := next_trans belw bb
 have zw18 := bb.size
 clear bb
 clear cA0_0 cA0_1 cA1_0 cA1_1
 have cA0_0 : w18.cell? ⟨w.heap.size, 0, none⟩ = some (v0_0) := (rA0.next bel).cell 0
 have cA0_1 : w18.cell? ⟨w.heap.size, 1, none⟩ = some (v0_1) := (rA0.next bel).cell 1
 have cA1_0 : w18.cell? ⟨w.heap.size + 1, 0, none⟩ = some (v1_0) := (rA1.next bel).cell 0
 have cA1_1 : w18.cell? ⟨w.heap.size + 1, 1, none⟩ = some (v1_1) := (rA1.next bel).cell 1
 go_wp2_with fail
 refine (intsMark (w9.heap.size) (w10.heap.size) _ _ _ ys 1 _ og hlenn (by omega) (by omega)).mono ?_
 rintro e w19 ⟨he, om, bt⟩
 subst he
 clear og
 replace bel := Below.btw bel bt (by omega) bel.size
 replace belw := Below.btw belw bt (by omega) belw.size
 have zw19 := bt.size
 clear bt
 clear cA0_0 cA0_1 cA1_0 cA1_1
 have cA0_0 : w19.cell? ⟨w.heap.size, 0, none⟩ = some (v0_0) := (rA0.next bel).cell 0
 have cA0_1 : w19.cell? ⟨w.heap.size, 1, none⟩ = some (v0_1) := (rA0.next bel).cell 1
 have cA1_0 : w19.cell? ⟨w.heap.size + 1, 0, none⟩ = some (v1_0) := (rA1.next bel).cell 0
 have cA1_1 : w19.cell? ⟨w.heap.size + 1, 1, none⟩ = some (v1_1) := (rA1.next bel).cell 1
 go_wp2_with fail
 refine (intsHeld _ _ _ 1 _ om.rd hlenn (by omega) (by omega)).mono ?_
 rintro e w20 ⟨rfl, bb⟩
 replace om := om.next bb
 replace bel := next_trans bel bb
 replace belw := next_trans belw bb
 have zw20 := bb.size
 clear bb
 clear cA0_0 cA0_1 cA1_0 cA1_1
 have cA0_0 : w20.cell? ⟨w.heap.size, 0, none⟩ = some (v0_0) := (rA0.next bel).cell 0
 have cA0_1 : w20.cell? ⟨w.heap.size, 1, none⟩ = some (v0_1) := (rA0.next bel).cell 1
 have cA1_0 : w20.cell? ⟨w.heap.size + 1, 0, none⟩ = some (v1_0) := (rA1.next bel).cell 0
 have cA1_1 : w20.cell? ⟨w.heap.size + 1, 1, none⟩ = some (v1_1) := (rA1.next bel).cell 1
 go_wp2_with fail
 replace om := om.drew
 replace bel := bel.drew
 replace belw := belw.drew
 have zdw20 := (drew_below w20).size
 go_region_held3 (fun w' => w'.cell? ⟨w.heap.size, 0, none⟩ = some (v0_0) ∧ w'.cell? ⟨w.heap.size, 1, none⟩ = some (v0_1) ∧ w'.cell? ⟨w.heap.size + 1, 0, none⟩ = some (v1_0) ∧ w'.cell? ⟨w.heap.size + 1, 1, none⟩ = some (v1_1))
  (go_keep)
  (first
   | (go_at_call_of 23 (Value.agg #[v0_0, v0_1]); refine (toK_System _ _ d0 _ (s0.next bel) h0.out).mono ?_; rintro e w21 ⟨p0A0, p0n0, p0c0, p0A1, p0n1, p0c1, rfl, op0, bb⟩; replace om := om.next bb; replace bel := next_trans bel bb; replace belw := next_trans belw bb; have cA0_0w21 : w21.cell? ⟨w.heap.size, 0, none⟩ = some (v0_0) := (rA0.next bel).cell 0; have cA0_1w21 : w21.cell? ⟨w.heap.size, 1, none⟩ = some (v0_1) := (rA0.next bel).cell 1; have cA1_0w21 : w21.cell? ⟨w.heap.size + 1, 0, none⟩ = some (v1_0) := (rA1.next bel).cell 0; have cA1_1w21 : w21.cell? ⟨w.heap.size + 1, 1, none⟩ = some (v1_1) := (rA1.next bel).cell 1; have zqw21 := bb.size; clear bb)
   | (go_at_call_of 31 (Value.agg #[v1_0, v1_1]); refine (toK_Walk _ _ d1 _ (s1.next bel) h1.out).mono ?_; rintro e w22 ⟨p1A0, p1n0, p1c0, p1A1, p1n1, p1c1, rfl, op1, bb⟩; replace om := om.next bb; replace op0 := op0.next bb; replace bel := next_trans bel bb; replace belw := next_trans belw bb; have cA0_0w22 : w22.cell? ⟨w.heap.size, 0, none⟩ = some (v0_0) := (rA0.next bel).cell 0; have cA0_1w22 : w22.cell? ⟨w.heap.size, 1, none⟩ = some (v0_1) := (rA0.next bel).cell 1; have cA1_0w22 : w22.cell? ⟨w.heap.size + 1, 0, none⟩ = some (v1_0) := (rA1.next bel).cell 0; have cA1_1w22 : w22.cell? ⟨w.heap.size + 1, 1, none⟩ = some (v1_1) := (rA1.next bel).cell 1; have zqw22 := bb.size; clear bb)
   | (go_at_call 35; refine (implEndTerm _ _ _ _ d0 d1 _ op0.rd op1.rd h0.out h1.out).mono ?_; rintro e w23 ⟨hA, hn, hc, he, o0, bb⟩; rw [HY.out] at o0; subst he; replace om := om.next bb; replace bel := next_trans bel bb; replace belw := next_trans belw bb; have cA0_0w23 : w23.cell? ⟨w.heap.size, 0, none⟩ = some (v0_0) := (rA0.next bel).cell 0; have cA0_1w23 : w23.cell? ⟨w.heap.size, 1, none⟩ = some (v0_1) := (rA0.next bel).cell 1; have cA1_0w23 : w23.cell? ⟨w.heap.size + 1, 0, none⟩ = some (v1_0) := (rA1.next bel).cell 0; have cA1_1w23 : w23.cell? ⟨w.heap.size + 1, 1, none⟩ = some (v1_1) := (rA1.next bel).cell 1; have zqw23 := bb.size; clear bb op0 op1))
 have sh := Own.seg o0
 clear o0
 have belh := Below.refl w23.heap.size w23
 clear cA0_0 cA0_1 cA1_0 cA1_1 cA0_0w23 cA0_1w23 cA1_0w23 cA1_1w23
 have cA0_0 : w23.cell? ⟨w.heap.size, 0, none⟩ = some (v0_0) := (rA0.next bel).cell 0
 have cA0_1 : w23.cell? ⟨w.heap.size, 1, none⟩ = some (v0_1) := (rA0.next bel).cell 1
 have cA1_0 : w23.cell? ⟨w.heap.size + 1, 0, none⟩ = some (v1_0) := (rA1.next bel).cell 0
 have cA1_1 : w23.cell? ⟨w.heap.size + 1, 1, none⟩ = some (v1_1) := (rA1.next bel).cell 1
 go_wp2_with fail
 refine (intsEq _ _ _ _ _ _ ys _ (sh.next belh) (sw.next belw) (by rw [← sh.1]; exact hlen.out)).mono ?_
 rintro e w24 ⟨rfl, bb⟩
 replace om := om.next bb
 replace bel := next_trans bel bb
 replace belw := next_trans belw bb
 replace belh := next_trans belh bb
 have zw24 := bb.size
 clear bb
 clear cA0_0 cA0_1 cA1_0 cA1_1
 have cA0_0 : w24.cell? ⟨w.heap.size, 0, none⟩ = some (v0_0) := (rA0.next bel).cell 0
 have cA0_1 : w24.cell? ⟨w.heap.size, 1, none⟩ = some (v0_1) := (rA0.next bel).cell 1
 have cA1_0 : w24.cell? ⟨w.heap.size + 1, 0, none⟩ = some (v1_0) := (rA1.next bel).cell 0
 have cA1_1 : w24.cell? ⟨w.heap.size + 1, 1, none⟩ = some (v1_1) := (rA1.next bel).cell 1
 go_wp2_with fail
 refine (intsHeld _ _ _ 1 _ om.rd hlenn (by omega) (by omega)).mono ?_
 rintro e w25 ⟨rfl, bb⟩
 replace om := om.next bb
 replace bel := next_trans bel bb
 replace belw := next_trans belw bb
 replace belh := next_trans belh bb
 have zw25 := bb.size
 clear bb
 clear cA0_0 cA0_1 cA1_0 cA1_1
 have cA0_0 : w25.cell? ⟨w.heap.size, 0, none⟩ = some (v0_0) := (rA0.next bel).cell 0
 have cA0_1 : w25.cell? ⟨w.heap.size, 1, none⟩ = some (v0_1) := (rA0.next bel).cell 1
 have cA1_0 : w25.cell? ⟨w.heap.size + 1, 0, none⟩ = some (v1_0) := (rA1.next bel).cell 0
 have cA1_1 : w25.cell? ⟨w.heap.size + 1, 1, none⟩ = some (v1_1) := (rA1.next bel).cell 1
 have F := hid (bW.trans (bel.mono bW.size))
 clear bel belw belh om bW cA0_0 cA0_1 cA1_0 cA1_1
 go_wp2
 go_ret
 exact ⟨rfl, F.out⟩
end wEndTerm
end
section
namespace openX
open Go.ChangeShapes Go.WideShapes Go.ChangeAt Go.RowKit base segs shape
def Wf : (s : Sh) → Dat s → Prop
 | .num, (x : Int) => -9223372036854775808 ≤ x ∧ x ≤ 9223372036854775807
 | .bit, _ => True
 | .row _ s, (d : List (Dat s)) => ∀ j, j < d.length → Wf s (d.getD j (dft s))
 | .cat a b, d => Wf a d.1 ∧ Wf b d.2
mutual
def fitsB (P : Program) : Nat → Sh → TypeId → Bool
 | 0, _, _ => false
 | n + 1, s, t => match P.underlying t with
  | some (.struct fs) => P.cellsOf t == nc s && fitsL P n fs.toList 0 s
  | some (.int .i64) => match s with | .num => true | _ => false
  | some .bool => match s with | .bit => true | _ => false
  | some (.slice e) => match s with | .row _ s' => P.cellsOf e == nc s' && fitsB P n s' e | _ => false
  | _ => false
def fitsL (P : Program) : Nat → List Field → Nat → Sh → Bool
 | 0, _, _, _ => false
 | _ + 1, [], _, _ => false
 | n + 1, [f], k, s => f.offset == k && (P.cellsOf f.type == nc s && fitsB P n s f.type)
 | n + 1, f :: g :: fs, k, s => match s with | .cat a b => f.offset == k && (P.cellsOf f.type == nc a && (fitsB P n a f.type && fitsL P n (g :: fs) (k + nc a) b)) | _ => false
end
section
variable {H : Type} {enc : TypeId × Value → H} {P : Program} {w : World} {held : Bool}
theorem addr_add {b off i : Nat} : (⟨b, off, none⟩ : Addr).add i = ⟨b, off + i, none⟩ := by unfold Addr.add; split <;> simp_all
theorem rd_trod : ∀ n : Nat, (∀ (s : Sh) (t : TypeId) (fuel : Nat) (cs : List Value) (x : DataW H × List MemPlace), fitsB P n s t = true → DataW.trod enc P w 0 (fun _ => true) held fuel t cs = some x → ∃ d, Rd w w.heap.size s cs d ∧ Wf s d) ∧
  (∀ (fs : List Field) (k : Nat) (s : Sh) (cs : List Value) (m : Nat), fitsL P n fs k s = true → (∀ (i : Nat) (f : Field), fs[i]? = some f → ∃ x, DataW.trod enc P w 0 (fun _ => true) held m f.type ((cs.drop f.offset).take (P.cellsOf f.type)) = some x) →
   ∃ d, Rd w w.heap.size s ((cs.drop k).take (nc s)) d ∧ Wf s d) := by
 intro n
 induction n with
 | zero => exact ⟨fun _ _ _ _ _ h => by simp [fitsB] at h, fun _ _ _ _ _ h => by simp [fitsL] at h⟩
 | succ n ih =>
  refine ⟨fun s t fuel cs x hf h => ?_, fun fs k s cs m hf h => ?_⟩
  ·unfold fitsB at hf
   split at hf
   ·rename_i fs hu
    simp only [Bool.and_eq_true, beq_iff_eq] at hf
    obtain ⟨xs, n', hfu, hx, hlen, hxl, hg⟩ := DataW.trod_struct hu h
    obtain ⟨d, hr, hw⟩ := ih.2 fs.toList 0 s cs n' hf.2 (fun i f hi => by
     have hi' : fs[i]? = some f := by simpa using hi
     have h1 := hg i f hi'
     have hlt : i < fs.size := (Array.getElem?_eq_some_iff.1 hi').1
     exact ⟨xs[i]'(by omega), by rw [h1]; exact List.getElem?_eq_getElem (by omega)⟩)
    rw [List.drop_zero, List.take_of_length_le (by omega)] at hr
    exact ⟨d, hr, hw⟩
   ·rename_i hu
    split at hf
    ·obtain ⟨z, e1, _, hw⟩ := DataW.trod_int hu h
     refine ⟨z, e1, ?_⟩
     show -9223372036854775808 ≤ z ∧ z ≤ 9223372036854775807
     simpa [Lit.wf, IntKind.min, IntKind.max, IntKind.signed, IntKind.bits] using hw
    ·cases hf
   ·rename_i hu
    split at hf
    ·obtain ⟨z, e1, _⟩ := DataW.trod_bool hu h
     exact ⟨z, e1, trivial⟩
    ·cases hf
   ·rename_i e hu
    split at hf
    ·rename_i e0 s'
     simp only [Bool.and_eq_true, beq_iff_eq] at hf
     rcases Go.Deep.open_slice hu h with ⟨hcs, _⟩ | ⟨a, len, cap, m, n', D, Pl, hcs, _, hl, hm, hmm, _, hi⟩
     ·exact ⟨[], ⟨none, 0, 0, hcs, ⟨by omega, by omega, fun _ => rfl⟩, rfl, fun h => absurd h (by omega)⟩, fun j hj => absurd hj (Nat.not_lt_zero _)⟩
     ·have hmc : m = cap := by simpa using hmm
      subst hmc
      have hd : ∀ j, j < len → ∃ (es : List Value) (dj : Dat s'), es.length = nc s' ∧ (∀ i, i < nc s' → w.cell? ((a.add (j * nc s')).add i) = es[i]?) ∧ Rd w w.heap.size s' es dj ∧ Wf s' dj := fun j hj => by
       obtain ⟨cs', hc, ht⟩ := hi j (by omega)
       obtain ⟨dj, hr, hw⟩ := ih.1 s' e n' cs' _ hf.2 ht
       rw [hf.1] at hc
       obtain ⟨_, hcl, hat⟩ := World.cells?_some hc
       exact ⟨cs', dj, hcl, hat, hr, hw⟩
      have hspot : 0 < len → a.spot = none := fun h0 => by
       obtain ⟨es, dj, h1, h2, _⟩ := hd 0 h0
       have hp := nc_pos s'
       have h3 := h2 0 (by omega)
       rw [List.getElem?_eq_getElem (by omega)] at h3
       have := World.cell?_spot h3
       simpa [Addr.add] using this
      obtain ⟨ds, hdl, hds⟩ : ∃ ds : List (Dat s'), ds.length = len ∧ ∀ j, j < len → ∃ es : List Value, es.length = nc s' ∧ (∀ i, i < nc s' → w.cell? ((a.add (j * nc s')).add i) = es[i]?) ∧ Rd w w.heap.size s' es (ds.getD j (dft s')) ∧ Wf s' (ds.getD j (dft s')) := by
       refine ⟨(List.range len).map fun j => if hj : j < len then Classical.choose (Classical.choose_spec (hd j hj)) else dft s', by simp, fun j hj => ?_⟩
       refine ⟨Classical.choose (hd j hj), ?_⟩
       have h1 := Classical.choose_spec (Classical.choose_spec (hd j hj))
       have e1 : ((List.range len).map fun j => if hj : j < len then Classical.choose (Classical.choose_spec (hd j hj)) else dft s').getD j (dft s') = Classical.choose (Classical.choose_spec (hd j hj)) := by simp [List.getD, hj]
       rw [e1]
       exact h1
      refine ⟨ds, ⟨some a, len, m, hcs, ⟨hl, by unfold maxLen at hm; omega, fun e => by cases e⟩, hdl, fun h0 => ?_⟩, fun j hj => by
       obtain ⟨es, _, _, _, hw⟩ := hds j (by rw [← hdl]; exact hj)
       exact hw⟩
      obtain ⟨b, off, spot⟩ := a
      have hs := hspot h0
      simp only at hs
      subst hs
      refine ⟨b, off, rfl, ?_, fun j hj => ?_⟩
      ·obtain ⟨es, h1, h2, _⟩ := hds 0 h0
       have hp := nc_pos s'
       have h3 := h2 0 (by omega)
       rw [List.getElem?_eq_getElem (by omega)] at h3
       have h4 := World.block_lt_of_cell? _ _ h3
       simpa [addr_add] using h4
      ·obtain ⟨es, h1, h2, h3, _⟩ := hds j hj
       refine ⟨es, h1, fun i hi2 => ?_, h3⟩
       have := h2 i (by omega)
       rw [addr_add, addr_add] at this
       exact this
    ·cases hf
   ·cases hf
  ·match fs, hf, h with
   | [], hf, _ => simp [fitsL] at hf
   | [f], hf, h =>
    unfold fitsL at hf
    simp only [Bool.and_eq_true, beq_iff_eq] at hf
    obtain ⟨h1, h2, h3⟩ := hf
    obtain ⟨x, hx⟩ := h 0 f rfl
    rw [h1, h2] at hx
    exact ih.1 s f.type m _ x h3 hx
   | f :: g :: fs, hf, h =>
    cases s with
    | cat a b =>
     unfold fitsL at hf
     simp only [Bool.and_eq_true, beq_iff_eq] at hf
     obtain ⟨h1, h2, h3, h4⟩ := hf
     obtain ⟨x, hx⟩ := h 0 f rfl
     rw [h1, h2] at hx
     obtain ⟨d1, r1, w1⟩ := ih.1 a f.type m _ x h3 hx
     obtain ⟨d2, r2, w2⟩ := ih.2 (g :: fs) (k + nc a) b cs m h4 (fun i f' hi => h (i + 1) f' hi)
     refine ⟨(d1, d2), ⟨_, _, ?_, r1, r2⟩, w1, w2⟩
     show List.take (nc a + nc b) (List.drop k cs) = _
     rw [List.take_add, List.drop_drop]
    | num => simp [fitsL] at hf
    | bit => simp [fitsL] at hf
    | row e s' => simp [fitsL] at hf
theorem open_val {s : Sh} {t : TypeId} {v : Value} {d : DataW H} {p : List MemPlace} {n : Nat} (hf : fitsB P n s t = true) (h : DataW.Trod enc P w 0 (fun _ => true) held t v d p) : ∃ x, Rd w w.heap.size s v.cells.toList x ∧ Wf s x := by
 obtain ⟨fuel, hfu⟩ := h
 exact (rd_trod n).1 s t fuel _ _ hf hfu
end
end openX
end
end Go.Proofs.Ytfdejhhnochomaa
