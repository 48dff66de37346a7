/-
  MERGED: my texts UnifSpec, Inside, Unified, UnifImpl, GenMath, SameSubst, PlainFacts, RenPure, UnifLaw, UnifX, WUnified, one behind the other, as they are. By an AI agent.
-/
import Derived.Test.YtobedfmagjgdcaaMFnExactUnified3
import Derived.Deep.LoopGhost
import Derived.Deep.QuietTactic
import Derived.BigQuiet
import Derived.Defers
import Derived.Recover
import Derived.Deep.RegionHeld3
namespace Go.Proofs.Ytobedfmagjgdcaa
section
open Go.Lib (hid)
namespace unifSpec
open Go.RowKit base ints sig term termOk endAt sub cursor marks app sym Go.Proofs.Ytobedfmagjgdcaa.look segs segsHelp kinds termFacts fillMath substOk gives shifted filled plainMath plain plainOf compMath rename matchMath unifMath bind
set_option maxRecDepth 100000
structure Good (sg a b : List Int) (ss : List (List Int)) : Prop where
 len : ss.length ≤ 24
 each : ∀ j, (ss.getD j []).length ≤ 60
 part : Part sg a b (givesL ss)
section
variable {sg a b : List Int} {ss : List (List Int)}
theorem Good.symm (h : Good sg a b ss) : Good sg b a ss := ⟨h.len, h.each, h.part.symm⟩
theorem Good.tot (h : Good sg a b ss) : tot ss ≤ 1048576 := by
 have h1 := tot_le h.each
 have h2 : ss.length * 60 ≤ 24 * 60 := Nat.mul_le_mul_right _ h.len
 have := h.len
 omega
theorem Good.g60 (h : Good sg a b ss) (k : Nat) : (givesL ss k).length ≤ 60 := by
 unfold givesL
 split
 ·simp [vt]
 ·exact h.each k
theorem Good.neg (h : Good sg a b ss) (k : Nat) (x : Int) (hx : x ∈ givesL ss k) (hk : k < 24) : -24 ≤ x := (h.part.sub.trm k hk).mem hx
theorem gives_nil : givesL [] = vt := by
 funext i
 exact gives_out (by simp)
theorem Good.start (sg a b : List Int) : Good sg a b [] := ⟨by simp, fun j => by simp, by rw [gives_nil]; exact Part.start sg a b⟩
theorem bound_gives {i : Nat} {t : List Int} (hi : i < 24) (ht : 1 ≤ t.length) (hl : ss.length ≤ 24) : givesL (outL (us1 i t) ss 24) = fun m => fillL (ones i t) (givesL ss m) := by
 have e : ∀ m, compL (us1 i t) ss m = fillL (ones i t) (givesL ss m) := fun m => by
  unfold compL
  exact fill_ext (fun x _ _ => us1_gives hi ht _)
 funext m
 by_cases hm : m < 24
 ·rw [out_gives hm, e]
 ·rw [gives_out (by rw [out_len]; omega), gives_out (by omega), fill_vti]
  unfold ones
  rw [if_neg (by omega)]
theorem Good.next {i : Nat} {t : List Int} (h : Good sg a b ss) (hi : i < 24) (ht : 1 ≤ t.length) (hp : Part sg a b (fun m => fillL (ones i t) (givesL ss m))) (hc : ∀ j, j < 24 → (compL (us1 i t) ss j).length ≤ 60) : Good sg a b (outL (us1 i t) ss 24) :=
 ⟨by rw [out_len]; omega, fun j => by
  by_cases hj : j < 24
  ·rw [out_get hj]; exact hc j hj
  ·simp [List.getD, out_len, hj], by rw [bound_gives hi ht h.len]; exact hp⟩
theorem fit_yes {t : List Int} (h : fitsB ss t = true) : fitL ss t = fillL (givesL ss) t ∧ (fillL (givesL ss) t).length ≤ 60 := by
 refine ⟨by unfold fitL; rw [if_pos h], ?_⟩
 unfold fitsB at h
 exact of_decide_eq_true h
end
def AnsUni (w : World) (sg a b : List Int) (e : Ending) (w' : World) : Prop :=
 Below w.heap.size w w' ∧ ((∃ S m c ss, e = .returned (.tuple #[.agg #[.slice S m c], .bool true]) ∧ Owns w' w.heap.size w'.heap.size S m c ss ∧ Good sg a b ss ∧ fillL (givesL ss) a = fillL (givesL ss) b ∧ (fillL (givesL ss) a).length ≤ 60) ∨ (e = .returned (.tuple #[.agg #[.slice none 0 0], .bool false]) ∧ ∀ M, ¬ Short sg a b M))
structure Uw (w wr : World) (A : Option Addr) (n c : Nat) (sg : List Int) (P : Option Addr) (pn : Nat) (a : List Int) (Q : Option Addr) (qn : Nat) (b : List Int) (S : Option Addr) (m cS : Nat) (ss : List (List Int)) : Prop where
 r0 : Row wr w.heap.size 29 #[.slice A n c]
 r1 : Row wr (w.heap.size + 1) 39 #[.slice S m cS]
 r2 : Row wr (w.heap.size + 1 + 1) 39 #[.slice none 0 0]
 s : Seg wr w.heap.size A n sg
 pa : Seg wr w.heap.size P pn a
 qb : Seg wr w.heap.size Q qn b
 sS : Owns wr (w.heap.size + 1 + 1 + 1) wr.heap.size S m cS ss
 bel : Below w.heap.size w wr
section
variable {w wr w' : World} {A : Option Addr} {n c : Nat} {sg : List Int} {P : Option Addr} {pn : Nat} {a : List Int} {Q : Option Addr} {qn : Nat} {b : List Int} {S : Option Addr} {m cS : Nat} {ss : List (List Int)}
theorem Uw.next (h : Uw w wr A n c sg P pn a Q qn b S m cS ss) (hb : Below wr.heap.size wr w') : Uw w w' A n c sg P pn a Q qn b S m cS ss :=
 have z := h.r0.lt
 have hw : Below w.heap.size wr w' := hb.mono (Nat.le_of_lt z)
 ⟨h.r0.next hb, h.r1.next hb, h.r2.next hb, h.s.below hw, h.pa.below hw, h.qb.below hw, (h.sS.next hb).wider (Nat.le_refl _) hb.size, h.bel.trans hw⟩
theorem Uw.c0 (h : Uw w wr A n c sg P pn a Q qn b S m cS ss) : wr.cell? ⟨w.heap.size, 0, none⟩ = some (.slice A n c) := h.r0.cell 0
theorem Uw.c1 (h : Uw w wr A n c sg P pn a Q qn b S m cS ss) : wr.cell? ⟨w.heap.size + 1, 0, none⟩ = some (.slice S m cS) := h.r1.cell 0
theorem Uw.c2 (h : Uw w wr A n c sg P pn a Q qn b S m cS ss) : wr.cell? ⟨w.heap.size + 1 + 1, 0, none⟩ = some (.slice none 0 0) := h.r2.cell 0
theorem Uw.f2 (h : Uw w wr A n c sg P pn a Q qn b S m cS ss) : wr.frozen? ⟨w.heap.size + 1 + 1, 0, none⟩ = false := h.r2.free 0
theorem Uw.size (h : Uw w wr A n c sg P pn a Q qn b S m cS ss) : w.heap.size + 1 + 1 < wr.heap.size := h.r2.lt
end
def HeadU (w : World) (A : Option Addr) (n c : Nat) (sg : List Int) (P : Option Addr) (pn : Nat) (a : List Int) (Q : Option Addr) (qn : Nat) (b : List Int) (g : Nat) (wr : World) : Prop :=
 ∃ S m cS ss, Uw w wr A n c sg P pn a Q qn b S m cS ss ∧ Good sg a b ss ∧ free (givesL ss) + 1 ≤ g
theorem uni_no {w w' : World} {sg a b : List Int} (h : ∀ M, ¬ Short sg a b M) (hb : Below w.heap.size w w') : AnsUni w sg a b (.returned (.tuple #[.agg #[.slice none 0 0], .bool false])) w' := ⟨hb, .inr ⟨rfl, h⟩⟩
theorem drew_below (w : World) (d : Nat) : Below w.heap.size w (w.drewN d) := ⟨rfl, rfl, rfl, Nat.le_refl _, fun _ _ => rfl⟩
theorem pre_step {x y : List Int} {k : Nat} (e : x.take k = y.take k) (hx : k < x.length) (hy : k < y.length) (h : x.getD k 0 = y.getD k 0) : x.take (k + 1) = y.take (k + 1) := by
 rw [List.take_succ_eq_append_getElem hx, List.take_succ_eq_append_getElem hy, e]
 simp [List.getD, hx, hy] at h
 rw [h]
theorem arm {sg a b xs ys : List Int} {ss : List (List Int)} {k : Nat} {p q : Int} (hx : xs = fillL (givesL ss) a) (hy : ys = fillL (givesL ss) b) (g : Good sg a b ss) (s : Spot sg a b (givesL ss) k) (ep : xs.getD k 0 = p) (eq : ys.getD k 0 = q) (h0 : p < 0) :
  (p ∈ subL sg ys k → ∀ M, ¬ Short sg a b M) ∧ vr p < 24 ∧ 1 ≤ (subL sg ys k).length ∧ (p ∉ subL sg ys k → (0 ≤ q ∨ p < q) →
   ((∀ j, j < 24 → (compL (us1 (vr p) (subL sg ys k)) ss j).length ≤ 60) → Good sg a b (outL (us1 (vr p) (subL sg ys k)) ss 24) ∧ free (givesL (outL (us1 (vr p) (subL sg ys k)) ss 24)) < free (givesL ss)) ∧
   ((∃ j, j < 24 ∧ 60 < (compL (us1 (vr p) (subL sg ys k)) ss j).length) → ∀ M, ¬ Short sg a b M)) := by
 subst hx
 subst hy
 subst ep
 subst eq
 have tx := g.part.sub.fill s.ta
 have ty := g.part.sub.fill s.tb
 have hm : (fillL (givesL ss) a).getD k 0 ∈ fillL (givesL ss) a := by have := s.kx; simp [List.getD, this]
 have hv : vr ((fillL (givesL ss) a).getD k 0) < 24 := by have := tx.mem hm; unfold vr; omega
 have h1 : 1 ≤ (subL sg (fillL (givesL ss) b) k).length := (sub_trm ty s.ky).1.pos
 refine ⟨fun hi M hM => s.occurs g.part h0 hi M hM.toUni, hv, h1, fun hi h3 => ?_⟩
 have hp := s.bind g.part h0 hi h3
 have hf := free_bind s g.part h0 hi
 refine ⟨fun hc => ⟨g.next hv h1 hp hc, by rw [bound_gives hv h1 g.len]; exact hf⟩, fun ⟨j, hj, hl⟩ M hM => ?_⟩
 have := hp.each hM j
 unfold compL at hl
 rw [fill_ext (L' := ones (vr ((fillL (givesL ss) a).getD k 0)) (subL sg (fillL (givesL ss) b) k)) (fun x _ _ => us1_gives hv h1 _)] at hl
 omega
theorem Uw.store {w wr : World} {A : Option Addr} {n c : Nat} {sg : List Int} {P : Option Addr} {pn : Nat} {a : List Int} {Q : Option Addr} {qn : Nat} {b : List Int} {S O : Option Addr} {m m' cS cO : Nat} {ss ss' : List (List Int)} (h : Uw w wr A n c sg P pn a Q qn b S m cS ss) (ho : Owns wr (w.heap.size + 1 + 1 + 1) wr.heap.size O m' cO ss') :
  Uw w (wr.setCell ⟨w.heap.size + 1, 0, none⟩ (.slice O m' cO)) A n c sg P pn a Q qn b O m' cO ss' := by
 refine ⟨h.r0.far (show w.heap.size ≠ w.heap.size + 1 by omega) _, ?_, h.r2.far (show w.heap.size + 1 + 1 ≠ w.heap.size + 1 by omega) _, h.s.put (p := ⟨w.heap.size + 1, 0, none⟩) (show w.heap.size ≤ w.heap.size + 1 by omega) _, h.pa.put (p := ⟨w.heap.size + 1, 0, none⟩) (show w.heap.size ≤ w.heap.size + 1 by omega) _, h.qb.put (p := ⟨w.heap.size + 1, 0, none⟩) (show w.heap.size ≤ w.heap.size + 1 by omega) _, ?_, h.bel.setCell (p := ⟨w.heap.size + 1, 0, none⟩) (show w.heap.size ≤ w.heap.size + 1 by omega) _⟩
 ·have := h.r1.put 0 (.slice O m' cO)
  simpa using this
 ·have := owns_put ho h.r1 (show w.heap.size + 1 < w.heap.size + 1 + 1 + 1 by omega) 0 (.slice O m' cO)
  simpa using this
set_option maxHeartbeats 1500000 in
theorem l5Unify (A P Q : Option Addr) (n c pn pc qn qc : Nat) (sg a b : List Int) (w : World) (h : Seg w w.heap.size A n sg) (hp : Seg w w.heap.size P pn a) (hq : Seg w w.heap.size Q qn b) (hn : n ≤ 1048576) (hpn : pn ≤ 60) (hqn : qn ≤ 60) (hoka : termOkB sg a = true) (hokb : termOkB sg b = true) :
  Calls Try.prog 55 #[.agg #[.slice A n c], .agg #[.slice none 0 0], .slice P pn pc, .slice Q qn qc] w (AnsUni w sg a b) := by
 obtain ⟨W, hW⟩ : ∃ W, W = ((w.alloc (.cells #[.slice A n c] 29)).alloc (.cells #[.slice none 0 0] 39)).alloc (.cells #[.slice none 0 0] 39) := ⟨_, rfl⟩
 have bW : Below w.heap.size w W := by rw [hW]; exact (((Below.refl _ _).alloc (Nat.le_refl _) _).alloc (by simp) _).alloc (by simp; omega) _
 have U0 : Uw w W A n c sg P pn a Q qn b none 0 0 [] := by
  refine ⟨?_, ?_, ?_, h.below bW, hp.below bW, hq.below bW, Owns.nil _ _ _, bW⟩
  ·rw [hW]; exact ((Row.new w _ _).alloc _).alloc _
  ·rw [hW]
   have := (Row.new (w.alloc (.cells #[.slice A n c] 29)) 39 #[.slice none 0 0]).alloc (.cells #[.slice none 0 0] 39)
   simpa using this
  ·rw [hW]
   have := Row.new ((w.alloc (.cells #[.slice A n c] 29)).alloc (.cells #[.slice none 0 0] 39)) 39 #[.slice none 0 0]
   simpa using this
 have HH := hid (show HeadU w A n c sg P pn a Q qn b 25 W from ⟨none, 0, 0, [], U0, Good.start sg a b, by have := free_le (givesL []); omega⟩)
 have HW := hid hW
 have HTA : Hid (Trm sg a) := hid (term_parts hoka).2.2
 have HTB : Hid (Trm sg b) := hid (term_parts hokb).2.2
 have hars := (sig_arities (termOk_parts hoka).1).1
 have hva := hid (fun x hx => (term_mem (x := x) hoka hx).1)
 have hvb := hid (fun x hx => (term_mem (x := x) hokb hx).1)
 clear U0 bW hW h hp hq hoka hokb
 go_enter Try.func55, Try.ntmps55
 go_wp2_with fail
 rw [← HW.out]
 go_loopg [] 25 (fun g wr => HeadU w A n c sg P pn a Q qn b g wr)
 case atStart => exact HH.out
 case round =>
  obtain ⟨S, m, cS, ss, U, hgood, hfree⟩ := hrel
  obtain ⟨G, hG⟩ : ∃ G, G = gk := ⟨_, rfl⟩
  subst hG
  clear HH
  have HG := hid hgood
  have HFR := hid hfree
  clear hgood hfree
  have c1 := U.c1
  obtain ⟨xs, hxs⟩ : ∃ x, fitL ss a = x := ⟨_, rfl⟩
  obtain ⟨ys, hys⟩ : ∃ x, fitL ss b = x := ⟨_, rfl⟩
  obtain ⟨fa, hfa⟩ : ∃ x, fitsB ss a = x := ⟨_, rfl⟩
  obtain ⟨fb, hfb⟩ : ∃ x, fitsB ss b = x := ⟨_, rfl⟩
  have HXS := hid hxs
  have HYS := hid hys
  have HFA := hid hfa
  have HFB := hid hfb
  clear hxs hys hfa hfb
  go_wp2_with fail
  refine (l2Filled S P m cS pn pc ss a wr U.sS.segs (U.pa.more (Nat.le_of_lt U.r0.lt)) HG.out.tot hpn hva.out HG.out.g60).mono ?_
  rintro e w1 ⟨X, xn, xc, he, ox, bb⟩
  rw [HFA.out] at he
  subst he
  rw [HXS.out] at ox
  have sx := Own.seg ox
  have kx := own_cap ox
  replace U := U.next bb
  clear ox bb c1
  have c1 := U.c1
  go_wp2_with fail
  refine (l2Filled S Q m cS qn qc ss b w1 U.sS.segs (U.qb.more (Nat.le_of_lt U.r0.lt)) HG.out.tot hqn hvb.out HG.out.g60).mono ?_
  rintro e w2 ⟨Y, yn, yc, he, oy, bb⟩
  rw [HFB.out] at he
  subst he
  rw [HYS.out] at oy
  have sy := Own.seg oy
  have ky := own_cap oy
  replace U := U.next bb
  replace sx := sx.next bb
  clear oy bb c1
  cases fa with
  | false =>
   have hno : ∀ M, ¬ Short sg a b M := fun M hM => by have h1 := HFA.out; unfold fitsB at h1; exact of_decide_eq_false h1 (HG.out.part.len hM).1
   have cR := U.c2
   have fR := U.f2
   have F1 := hid (uni_no (w := w) hno U.bel)
   have F2 := hid (uni_no (w := w) hno ((U.bel).setCell (p := ⟨w.heap.size + 1 + 1, 0, none⟩) (show w.heap.size ≤ w.heap.size + 1 + 1 by omega) (.slice none 0 0)))
   clear U hno sx sy
   go_wp2
   first
    | exact bodyPost_ret (v := .tuple #[.agg #[.slice none 0 0], .bool false]) (by simp [results, Try.results55, go_sem, cR]) rfl F1.out
    | exact bodyPost_ret (v := .tuple #[.agg #[.slice none 0 0], .bool false]) (by simp [results, Try.results55, go_sem, cR]) rfl F2.out
  | true =>
   cases fb with
   | false =>
    have hno : ∀ M, ¬ Short sg a b M := fun M hM => by have h1 := HFB.out; unfold fitsB at h1; exact of_decide_eq_false h1 (HG.out.part.len hM).2
    have cR := U.c2
    have fR := U.f2
    have F1 := hid (uni_no (w := w) hno U.bel)
    have F2 := hid (uni_no (w := w) hno ((U.bel).setCell (p := ⟨w.heap.size + 1 + 1, 0, none⟩) (show w.heap.size ≤ w.heap.size + 1 + 1 by omega) (.slice none 0 0)))
    clear U hno sx sy
    go_wp2
    first
     | exact bodyPost_ret (v := .tuple #[.agg #[.slice none 0 0], .bool false]) (by simp [results, Try.results55, go_sem, cR]) rfl F1.out
     | exact bodyPost_ret (v := .tuple #[.agg #[.slice none 0 0], .bool false]) (by simp [results, Try.results55, go_sem, cR]) rfl F2.out
   | true =>
    have HX := hid (HXS.out.symm.trans (fit_yes HFA.out).1)
    have HY := hid (HYS.out.symm.trans (fit_yes HFB.out).1)
    have hx60 : xn ≤ 60 := by rw [← sx.1, HX.out]; exact (fit_yes HFA.out).2
    have hy60 : yn ≤ 60 := by rw [← sy.1, HY.out]; exact (fit_yes HFB.out).2
    have HLX := hid sx.1
    have HLY := hid sy.1
    have HTX : Hid (Trm sg xs) := hid (by rw [HX.out]; exact HG.out.part.sub.fill HTA.out)
    have HTY : Hid (Trm sg ys) := hid (by rw [HY.out]; exact HG.out.part.sub.fill HTB.out)
    go_wp2_with fail
    go_loopg [14] xn (fun g k_ wr' => ∃ k d : Nat, k_ = .int .i64 k ∧ k + g = xn ∧ k ≤ yn ∧ xs.take k = ys.take k ∧ wr' = w2.drewN d)
    case atStart => exact ⟨0, 0, rfl, by omega, Nat.zero_le _, rfl, rfl⟩
    case round =>
     obtain ⟨k, d, rfl, hkg, hky, hpre, hwd⟩ := hrel
     have HKG := hid hkg
     have HPRE := hid hpre
     have i0 : (0 : Int) ≤ (k : Int) := by omega
     have bd : Below w2.heap.size w2 wr := by rw [hwd]; exact drew_below _ _
     have HWD := hid hwd
     replace U := U.next bd
     replace sx := sx.next bd
     replace sy := sy.next bd
     clear bd hwd hkg hpre
     by_cases hkx : k < xn
     ·have j1 : (k : Int) < (xn : Int) := by omega
      by_cases hky2 : k < yn
      ·have j2 : (k : Int) < (yn : Int) := by omega
       obtain ⟨b1, o1, p, rfl, hb1, hp, ep⟩ := sx.spot hkx
       obtain ⟨b2, o2, q, rfl, hb2, hq, eq⟩ := sy.spot hky2
       by_cases hpq : p = q
       ·subst hpq
        have S1 := hid (fun d' => (show ∃ k' d : Nat, (.int .i64 ((k : Int) + 1) : Value) = .int .i64 k' ∧ k' + (gk - 1) = xn ∧ k' ≤ yn ∧ xs.take k' = ys.take k' ∧ wr.drewN d' = w2.drewN d from ⟨k + 1, d + d', by simp, by have := HKG.out; omega, hky2, pre_step HPRE.out (by rw [HLX.out]; exact hkx) (by rw [HLY.out]; exact hky2) (by rw [ep.out, eq.out]), by rw [HWD.out, World.drewN_drewN]⟩))
        have hgk := hid (show gk - 1 < gk by have := HKG.out; omega)
        clear sx sy U ep eq
        go_wp2
        go_quiet (fail)
        go_wp2
        go_roundg (gk - 1)
        case measure => exact hgk.out
        case rel => exact S1.out _
       ·have HS := hid (show Spot sg a b (givesL ss) k from ⟨HTA.out, HTB.out, by rw [← HX.out, ← HY.out]; exact HPRE.out, by rw [← HX.out, HLX.out]; exact hkx, by rw [← HY.out, HLY.out]; exact hky2, by rw [← HX.out, ← HY.out, ep.out, eq.out]; exact hpq⟩)
        have HEP := hid ep.out
        have HEQ := hid eq.out
        have jx : ((k : Int) == (xn : Int)) = false := by simp; omega
        have hpd : (p == q) = false := by simp [hpq]
        have hp24 : -24 ≤ p := HTX.out.mem (by rw [← HEP.out]; have := HLX.out; simp [List.getD, show k < xs.length by omega])
        have hq24 : -24 ≤ q := HTY.out.mem (by rw [← HEQ.out]; have := HLY.out; simp [List.getD, show k < ys.length by omega])
        obtain ⟨jy, sy1, sy2, sy3⟩ := scan_at HTY.out (show k < ys.length by rw [HLY.out]; exact hky2)
        obtain ⟨jxx, sx1, sx2, sx3⟩ := scan_at HTX.out (show k < xs.length by rw [HLX.out]; exact hkx)
        rw [HLY.out] at sy3
        rw [HLX.out] at sx3
        have LX := hid (fun w' (hb : Below wr.heap.size wr w') => l1Sub A (some ⟨b1, o1, none⟩) n c xn xc sg xs k jxx w' ((U.next hb).s.more (Nat.le_of_lt (U.next hb).r0.lt)) (sx.next hb) hn (by omega) kx.1 kx.2.1 hars hkx sx1 sx2 sx3)
        have LY := hid (fun w' (hb : Below wr.heap.size wr w') => l1Sub A (some ⟨b2, o2, none⟩) n c yn yc sg ys k jy w' ((U.next hb).s.more (Nat.le_of_lt (U.next hb).r0.lt)) (sy.next hb) hn (by omega) ky.1 ky.2.1 hars hky2 sy1 sy2 sy3)
        have lenx : (subL sg xs k).length ≤ 60 := by unfold subL; rw [List.length_take, List.length_drop, HLX.out]; omega
        have leny : (subL sg ys k).length ≤ 60 := by unfold subL; rw [List.length_take, List.length_drop, HLY.out]; omega
        clear ep eq sy1 sy2 sy3 sx1 sx2 sx3
        go_wp2_with fail
        go_quiet (fail)
        have bd := drew_below wr nq
        replace U := U.next bd
        have p1 : (wr.drewN nq).cell? ⟨b1, o1 + k, none⟩ = some (.int .i64 p) := hp
        have q1 : (wr.drewN nq).cell? ⟨b2, o2 + k, none⟩ = some (.int .i64 q) := hq
        have LX := hid (fun w' (hb : Below (wr.drewN nq).heap.size (wr.drewN nq) w') => LX.out w' (next_trans bd hb))
        have LY := hid (fun w' (hb : Below (wr.drewN nq).heap.size (wr.drewN nq) w') => LY.out w' (next_trans bd hb))
        clear hp hq bd sx sy
        generalize wr.drewN nq = w3 at *
        have c0 := U.c0
        go_wp2_with fail
        refine (LY.out w3 (Below.refl _ _)).mono ?_
        rintro e w4 ⟨D, dn, dc, rfl, od, bb⟩
        have hdn : dn ≤ 60 := by rw [Own.len od]; exact leny
        have LX := hid (LX.out w4 bb)
        replace U := U.next bb
        clear LY bb c0 p1 q1
        by_cases hp0 : 0 ≤ p
        ·by_cases hq0 : 0 ≤ q
         ·have hno : ∀ M, ¬ Short sg a b M := fun M hM => HS.out.clash HG.out.part (by rw [← HX.out, HEP.out]; exact hp0) (by rw [← HY.out, HEQ.out]; exact hq0) M hM.toUni
          have cR := U.c2
          have fR := U.f2
          have F1 := hid (uni_no (w := w) hno U.bel)
          have F2 := hid (uni_no (w := w) hno ((U.bel).setCell (p := ⟨w.heap.size + 1 + 1, 0, none⟩) (show w.heap.size ≤ w.heap.size + 1 + 1 by omega) (.slice none 0 0)))
          clear U hno od LX
          go_wp2
          first
           | exact bodyPost_ret (v := .tuple #[.agg #[.slice none 0 0], .bool false]) (by simp [results, Try.results55, go_sem, cR]) rfl F1.out
           | exact bodyPost_ret (v := .tuple #[.agg #[.slice none 0 0], .bool false]) (by simp [results, Try.results55, go_sem, cR]) rfl F2.out
         ·have hq1 : q < 0 := by omega
          have HARM := hid (arm HY.out HX.out HG.out.symm HS.out.symm HEQ.out HEP.out (by omega))
          clear od hdn
          have c0 := U.c0
          go_wp2_with fail
          refine LX.out.mono ?_
          rintro e w5 ⟨D, dn, dc, rfl, od, bb⟩
          have hdn : dn ≤ 60 := by rw [Own.len od]; exact lenx
          replace U := U.next bb
          clear LX bb c0
          obtain ⟨v, hv⟩ : ∃ v : Nat, q = -1 - (v : Int) := ⟨(-1 - q).toNat, by omega⟩
          have HVR := hid (show vr q = v by unfold vr; omega)
          have HVV := hid hv
          clear hv
          have hv24 : v < 24 := by rw [← HVR.out]; exact HARM.out.2.1
          have HT1 := hid HARM.out.2.2.1
          have ht60 : (subL sg xs k).length ≤ 60 := by rw [← Own.len od]; exact hdn
          have sd := Own.seg od
          have kd := own_cap od
          obtain ⟨hm, ehm⟩ : ∃ z, decide (q ∈ subL sg xs k) = z := ⟨_, rfl⟩
          have HMM := hid ehm
          have LH := hid (l1Has D dn dc (subL sg xs k) q w5 sd (by omega))
          rw [ehm] at LH
          clear ehm
          cases hm with
          | true =>
           go_wp2_with fail
           refine LH.out.mono ?_
           rintro e w5 ⟨rfl, rfl⟩
           have hno : ∀ M, ¬ Short sg a b M := (fun M hM => (HARM.out.1 (of_decide_eq_true HMM.out)) M hM.symm)
           have cR := U.c2
           have fR := U.f2
           have F1 := hid (uni_no (w := w) hno U.bel)
           have F2 := hid (uni_no (w := w) hno ((U.bel).setCell (p := ⟨w.heap.size + 1 + 1, 0, none⟩) (show w.heap.size ≤ w.heap.size + 1 + 1 by omega) (.slice none 0 0)))
           clear U hno sd LH od
           go_wp2
           first
            | exact bodyPost_ret (v := .tuple #[.agg #[.slice none 0 0], .bool false]) (by simp [results, Try.results55, go_sem, cR]) rfl F1.out
            | exact bodyPost_ret (v := .tuple #[.agg #[.slice none 0 0], .bool false]) (by simp [results, Try.results55, go_sem, cR]) rfl F2.out
          | false =>
           have hwv : IntKind.i64.wrap (-1 - q) = (v : Int) := by have := HVV.out; rw [IntKind.wrap_i64]; omega
           have hwv2 := hid (show -1 - q = (v : Int) by have := HVV.out; omega)
           have HA4 := hid (HARM.out.2.2.2 (of_decide_eq_false HMM.out) (.inl hp0))
           rw [HVR.out] at HA4
           have c1 := U.c1
           have LB := hid (l5Bind S D m cS dn dc v ss (subL sg xs k) w5 U.sS.segs sd kd HG.out.tot hv24 HT1.out ht60 HG.out.g60 HG.out.neg)
           go_wp2_with fail
           refine LH.out.mono ?_
           rintro e w5 ⟨rfl, rfl⟩
           clear LH sd od
           go_wp2_with fail
           (try rw [hwv2.out])
           refine LB.out.mono ?_
           rintro e w6 ⟨bb, ⟨O, cO, rfl, oo, hall⟩ | ⟨rfl, hlong⟩⟩
           ·have hg2 := HA4.out.1 hall
            have hf2 := hg2.2
            have hz5 := U.size
            have hz6 := bb.size
            have U6 := U.next bb
            have B7 : Below w6.heap.size w6 (w6.alloc (.cells #[.slice O 24 cO] 39)) := (Below.refl _ _).alloc (Nat.le_refl _) _
            have U7 := U6.next B7
            have o7 : Owns (w6.alloc (.cells #[.slice O 24 cO] 39)) (w.heap.size + 1 + 1 + 1) (w6.alloc (.cells #[.slice O 24 cO] 39)).heap.size O 24 cO _ := (oo.next B7).wider (by omega) B7.size
            have HN := hid (show HeadU w A n c sg P pn a Q qn b (G - 1) ((w6.alloc (.cells #[.slice O 24 cO] 39)).setCell ⟨w.heap.size + 1, 0, none⟩ (.slice O 24 cO)) from ⟨O, 24, cO, _, U7.store o7, hg2.1.symm, by have := HFR.out; omega⟩)
            have hgk := hid (show G - 1 < G by have := HFR.out; omega)
            have c1 : (w6.alloc (.cells #[.slice O 24 cO] 39)).cell? ⟨w.heap.size + 1, 0, none⟩ = some (.slice S m cS) := U7.c1
            have f1 : (w6.alloc (.cells #[.slice O 24 cO] 39)).frozen? ⟨w.heap.size + 1, 0, none⟩ = false := U7.r1.free 0
            have d1 : w6.cell? ⟨w.heap.size + 1, 0, none⟩ = some (.slice S m cS) := U6.c1
            clear LB hg2 hf2 hz5 hz6 U6 U7 o7 oo bb B7 U hall
            go_wp2
            go_roundg (G - 1)
            case measure => exact hgk.out
            case rel => exact HN.out
           ·replace U := (U.next bb).next (w' := w6.alloc (.cells #[.slice none 0 0] 39)) ((Below.refl _ _).alloc (Nat.le_refl _) _)
            have hno : ∀ M, ¬ Short sg a b M := (fun M hM => (HA4.out.2 hlong) M hM.symm)
            have cR := U.c2
            have fR := U.f2
            have F1 := hid (uni_no (w := w) hno U.bel)
            have F2 := hid (uni_no (w := w) hno ((U.bel).setCell (p := ⟨w.heap.size + 1 + 1, 0, none⟩) (show w.heap.size ≤ w.heap.size + 1 + 1 by omega) (.slice none 0 0)))
            clear U hno LB bb c1
            go_wp2
            first
             | exact bodyPost_ret (v := .tuple #[.agg #[.slice none 0 0], .bool false]) (by simp [results, Try.results55, go_sem, cR]) rfl F1.out
             | exact bodyPost_ret (v := .tuple #[.agg #[.slice none 0 0], .bool false]) (by simp [results, Try.results55, go_sem, cR]) rfl F2.out
        ·have hp1 : p < 0 := by omega
         by_cases hq0 : q < 0
         ·by_cases hqp : q < p
          ·have HARM := hid (arm HY.out HX.out HG.out.symm HS.out.symm HEQ.out HEP.out (by omega))
           clear od hdn
           have c0 := U.c0
           go_wp2_with fail
           refine LX.out.mono ?_
           rintro e w5 ⟨D, dn, dc, rfl, od, bb⟩
           have hdn : dn ≤ 60 := by rw [Own.len od]; exact lenx
           replace U := U.next bb
           clear LX bb c0
           obtain ⟨v, hv⟩ : ∃ v : Nat, q = -1 - (v : Int) := ⟨(-1 - q).toNat, by omega⟩
           have HVR := hid (show vr q = v by unfold vr; omega)
           have HVV := hid hv
           clear hv
           have hv24 : v < 24 := by rw [← HVR.out]; exact HARM.out.2.1
           have HT1 := hid HARM.out.2.2.1
           have ht60 : (subL sg xs k).length ≤ 60 := by rw [← Own.len od]; exact hdn
           have sd := Own.seg od
           have kd := own_cap od
           obtain ⟨hm, ehm⟩ : ∃ z, decide (q ∈ subL sg xs k) = z := ⟨_, rfl⟩
           have HMM := hid ehm
           have LH := hid (l1Has D dn dc (subL sg xs k) q w5 sd (by omega))
           rw [ehm] at LH
           clear ehm
           cases hm with
           | true =>
            go_wp2_with fail
            refine LH.out.mono ?_
            rintro e w5 ⟨rfl, rfl⟩
            have hno : ∀ M, ¬ Short sg a b M := (fun M hM => (HARM.out.1 (of_decide_eq_true HMM.out)) M hM.symm)
            have cR := U.c2
            have fR := U.f2
            have F1 := hid (uni_no (w := w) hno U.bel)
            have F2 := hid (uni_no (w := w) hno ((U.bel).setCell (p := ⟨w.heap.size + 1 + 1, 0, none⟩) (show w.heap.size ≤ w.heap.size + 1 + 1 by omega) (.slice none 0 0)))
            clear U hno sd LH od
            go_wp2
            first
             | exact bodyPost_ret (v := .tuple #[.agg #[.slice none 0 0], .bool false]) (by simp [results, Try.results55, go_sem, cR]) rfl F1.out
             | exact bodyPost_ret (v := .tuple #[.agg #[.slice none 0 0], .bool false]) (by simp [results, Try.results55, go_sem, cR]) rfl F2.out
           | false =>
            have hwv : IntKind.i64.wrap (-1 - q) = (v : Int) := by have := HVV.out; rw [IntKind.wrap_i64]; omega
            have hwv2 := hid (show -1 - q = (v : Int) by have := HVV.out; omega)
            have HA4 := hid (HARM.out.2.2.2 (of_decide_eq_false HMM.out) (.inr hqp))
            rw [HVR.out] at HA4
            have c1 := U.c1
            have LB := hid (l5Bind S D m cS dn dc v ss (subL sg xs k) w5 U.sS.segs sd kd HG.out.tot hv24 HT1.out ht60 HG.out.g60 HG.out.neg)
            go_wp2_with fail
            refine LH.out.mono ?_
            rintro e w5 ⟨rfl, rfl⟩
            clear LH sd od
            go_wp2_with fail
            (try rw [hwv2.out])
            refine LB.out.mono ?_
            rintro e w6 ⟨bb, ⟨O, cO, rfl, oo, hall⟩ | ⟨rfl, hlong⟩⟩
            ·have hg2 := HA4.out.1 hall
             have hf2 := hg2.2
             have hz5 := U.size
             have hz6 := bb.size
             have U6 := U.next bb
             have B7 : Below w6.heap.size w6 (w6.alloc (.cells #[.slice O 24 cO] 39)) := (Below.refl _ _).alloc (Nat.le_refl _) _
             have U7 := U6.next B7
             have o7 : Owns (w6.alloc (.cells #[.slice O 24 cO] 39)) (w.heap.size + 1 + 1 + 1) (w6.alloc (.cells #[.slice O 24 cO] 39)).heap.size O 24 cO _ := (oo.next B7).wider (by omega) B7.size
             have HN := hid (show HeadU w A n c sg P pn a Q qn b (G - 1) ((w6.alloc (.cells #[.slice O 24 cO] 39)).setCell ⟨w.heap.size + 1, 0, none⟩ (.slice O 24 cO)) from ⟨O, 24, cO, _, U7.store o7, hg2.1.symm, by have := HFR.out; omega⟩)
             have hgk := hid (show G - 1 < G by have := HFR.out; omega)
             have c1 : (w6.alloc (.cells #[.slice O 24 cO] 39)).cell? ⟨w.heap.size + 1, 0, none⟩ = some (.slice S m cS) := U7.c1
             have f1 : (w6.alloc (.cells #[.slice O 24 cO] 39)).frozen? ⟨w.heap.size + 1, 0, none⟩ = false := U7.r1.free 0
             have d1 : w6.cell? ⟨w.heap.size + 1, 0, none⟩ = some (.slice S m cS) := U6.c1
             clear LB hg2 hf2 hz5 hz6 U6 U7 o7 oo bb B7 U hall
             go_wp2
             go_roundg (G - 1)
             case measure => exact hgk.out
             case rel => exact HN.out
            ·replace U := (U.next bb).next (w' := w6.alloc (.cells #[.slice none 0 0] 39)) ((Below.refl _ _).alloc (Nat.le_refl _) _)
             have hno : ∀ M, ¬ Short sg a b M := (fun M hM => (HA4.out.2 hlong) M hM.symm)
             have cR := U.c2
             have fR := U.f2
             have F1 := hid (uni_no (w := w) hno U.bel)
             have F2 := hid (uni_no (w := w) hno ((U.bel).setCell (p := ⟨w.heap.size + 1 + 1, 0, none⟩) (show w.heap.size ≤ w.heap.size + 1 + 1 by omega) (.slice none 0 0)))
             clear U hno LB bb c1
             go_wp2
             first
              | exact bodyPost_ret (v := .tuple #[.agg #[.slice none 0 0], .bool false]) (by simp [results, Try.results55, go_sem, cR]) rfl F1.out
              | exact bodyPost_ret (v := .tuple #[.agg #[.slice none 0 0], .bool false]) (by simp [results, Try.results55, go_sem, cR]) rfl F2.out
          ·have HARM := hid (arm HX.out HY.out HG.out HS.out HEP.out HEQ.out (by omega))
           clear LX
           obtain ⟨v, hv⟩ : ∃ v : Nat, p = -1 - (v : Int) := ⟨(-1 - p).toNat, by omega⟩
           have HVR := hid (show vr p = v by unfold vr; omega)
           have HVV := hid hv
           clear hv
           have hv24 : v < 24 := by rw [← HVR.out]; exact HARM.out.2.1
           have HT1 := hid HARM.out.2.2.1
           have ht60 : (subL sg ys k).length ≤ 60 := by rw [← Own.len od]; exact hdn
           have sd := Own.seg od
           have kd := own_cap od
           obtain ⟨hm, ehm⟩ : ∃ z, decide (p ∈ subL sg ys k) = z := ⟨_, rfl⟩
           have HMM := hid ehm
           have LH := hid (l1Has D dn dc (subL sg ys k) p w4 sd (by omega))
           rw [ehm] at LH
           clear ehm
           cases hm with
           | true =>
            go_wp2_with fail
            refine LH.out.mono ?_
            rintro e w5 ⟨rfl, rfl⟩
            have hno : ∀ M, ¬ Short sg a b M := HARM.out.1 (of_decide_eq_true HMM.out)
            have cR := U.c2
            have fR := U.f2
            have F1 := hid (uni_no (w := w) hno U.bel)
            have F2 := hid (uni_no (w := w) hno ((U.bel).setCell (p := ⟨w.heap.size + 1 + 1, 0, none⟩) (show w.heap.size ≤ w.heap.size + 1 + 1 by omega) (.slice none 0 0)))
            clear U hno sd LH od
            go_wp2
            first
             | exact bodyPost_ret (v := .tuple #[.agg #[.slice none 0 0], .bool false]) (by simp [results, Try.results55, go_sem, cR]) rfl F1.out
             | exact bodyPost_ret (v := .tuple #[.agg #[.slice none 0 0], .bool false]) (by simp [results, Try.results55, go_sem, cR]) rfl F2.out
           | false =>
            have hwv : IntKind.i64.wrap (-1 - p) = (v : Int) := by have := HVV.out; rw [IntKind.wrap_i64]; omega
            have hwv2 := hid (show -1 - p = (v : Int) by have := HVV.out; omega)
            have HA4 := hid (HARM.out.2.2.2 (of_decide_eq_false HMM.out) (.inr (by omega)))
            rw [HVR.out] at HA4
            have c1 := U.c1
            have LB := hid (l5Bind S D m cS dn dc v ss (subL sg ys k) w4 U.sS.segs sd kd HG.out.tot hv24 HT1.out ht60 HG.out.g60 HG.out.neg)
            go_wp2_with fail
            refine LH.out.mono ?_
            rintro e w5 ⟨rfl, rfl⟩
            clear LH sd od
            go_wp2_with fail
            (try rw [hwv2.out])
            refine LB.out.mono ?_
            rintro e w6 ⟨bb, ⟨O, cO, rfl, oo, hall⟩ | ⟨rfl, hlong⟩⟩
            ·have hg2 := HA4.out.1 hall
             have hf2 := hg2.2
             have hz5 := U.size
             have hz6 := bb.size
             have U6 := U.next bb
             have B7 : Below w6.heap.size w6 (w6.alloc (.cells #[.slice O 24 cO] 39)) := (Below.refl _ _).alloc (Nat.le_refl _) _
             have U7 := U6.next B7
             have o7 : Owns (w6.alloc (.cells #[.slice O 24 cO] 39)) (w.heap.size + 1 + 1 + 1) (w6.alloc (.cells #[.slice O 24 cO] 39)).heap.size O 24 cO _ := (oo.next B7).wider (by omega) B7.size
             have HN := hid (show HeadU w A n c sg P pn a Q qn b (G - 1) ((w6.alloc (.cells #[.slice O 24 cO] 39)).setCell ⟨w.heap.size + 1, 0, none⟩ (.slice O 24 cO)) from ⟨O, 24, cO, _, U7.store o7, hg2.1, by have := HFR.out; omega⟩)
             have hgk := hid (show G - 1 < G by have := HFR.out; omega)
             have c1 : (w6.alloc (.cells #[.slice O 24 cO] 39)).cell? ⟨w.heap.size + 1, 0, none⟩ = some (.slice S m cS) := U7.c1
             have f1 : (w6.alloc (.cells #[.slice O 24 cO] 39)).frozen? ⟨w.heap.size + 1, 0, none⟩ = false := U7.r1.free 0
             have d1 : w6.cell? ⟨w.heap.size + 1, 0, none⟩ = some (.slice S m cS) := U6.c1
             clear LB hg2 hf2 hz5 hz6 U6 U7 o7 oo bb B7 U hall
             go_wp2
             go_roundg (G - 1)
             case measure => exact hgk.out
             case rel => exact HN.out
            ·replace U := (U.next bb).next (w' := w6.alloc (.cells #[.slice none 0 0] 39)) ((Below.refl _ _).alloc (Nat.le_refl _) _)
             have hno : ∀ M, ¬ Short sg a b M := HA4.out.2 hlong
             have cR := U.c2
             have fR := U.f2
             have F1 := hid (uni_no (w := w) hno U.bel)
             have F2 := hid (uni_no (w := w) hno ((U.bel).setCell (p := ⟨w.heap.size + 1 + 1, 0, none⟩) (show w.heap.size ≤ w.heap.size + 1 + 1 by omega) (.slice none 0 0)))
             clear U hno LB bb c1
             go_wp2
             first
              | exact bodyPost_ret (v := .tuple #[.agg #[.slice none 0 0], .bool false]) (by simp [results, Try.results55, go_sem, cR]) rfl F1.out
              | exact bodyPost_ret (v := .tuple #[.agg #[.slice none 0 0], .bool false]) (by simp [results, Try.results55, go_sem, cR]) rfl F2.out
         ·have hq1 : 0 ≤ q := by omega
          have HARM := hid (arm HX.out HY.out HG.out HS.out HEP.out HEQ.out (by omega))
          clear LX
          obtain ⟨v, hv⟩ : ∃ v : Nat, p = -1 - (v : Int) := ⟨(-1 - p).toNat, by omega⟩
          have HVR := hid (show vr p = v by unfold vr; omega)
          have HVV := hid hv
          clear hv
          have hv24 : v < 24 := by rw [← HVR.out]; exact HARM.out.2.1
          have HT1 := hid HARM.out.2.2.1
          have ht60 : (subL sg ys k).length ≤ 60 := by rw [← Own.len od]; exact hdn
          have sd := Own.seg od
          have kd := own_cap od
          obtain ⟨hm, ehm⟩ : ∃ z, decide (p ∈ subL sg ys k) = z := ⟨_, rfl⟩
          have HMM := hid ehm
          have LH := hid (l1Has D dn dc (subL sg ys k) p w4 sd (by omega))
          rw [ehm] at LH
          clear ehm
          cases hm with
          | true =>
           go_wp2_with fail
           refine LH.out.mono ?_
           rintro e w5 ⟨rfl, rfl⟩
           have hno : ∀ M, ¬ Short sg a b M := HARM.out.1 (of_decide_eq_true HMM.out)
           have cR := U.c2
           have fR := U.f2
           have F1 := hid (uni_no (w := w) hno U.bel)
           have F2 := hid (uni_no (w := w) hno ((U.bel).setCell (p := ⟨w.heap.size + 1 + 1, 0, none⟩) (show w.heap.size ≤ w.heap.size + 1 + 1 by omega) (.slice none 0 0)))
           clear U hno sd LH od
           go_wp2
           first
            | exact bodyPost_ret (v := .tuple #[.agg #[.slice none 0 0], .bool false]) (by simp [results, Try.results55, go_sem, cR]) rfl F1.out
            | exact bodyPost_ret (v := .tuple #[.agg #[.slice none 0 0], .bool false]) (by simp [results, Try.results55, go_sem, cR]) rfl F2.out
          | false =>
           have hwv : IntKind.i64.wrap (-1 - p) = (v : Int) := by have := HVV.out; rw [IntKind.wrap_i64]; omega
           have hwv2 := hid (show -1 - p = (v : Int) by have := HVV.out; omega)
           have HA4 := hid (HARM.out.2.2.2 (of_decide_eq_false HMM.out) (.inl hq1))
           rw [HVR.out] at HA4
           have c1 := U.c1
           have LB := hid (l5Bind S D m cS dn dc v ss (subL sg ys k) w4 U.sS.segs sd kd HG.out.tot hv24 HT1.out ht60 HG.out.g60 HG.out.neg)
           go_wp2_with fail
           refine LH.out.mono ?_
           rintro e w5 ⟨rfl, rfl⟩
           clear LH sd od
           go_wp2_with fail
           (try rw [hwv2.out])
           refine LB.out.mono ?_
           rintro e w6 ⟨bb, ⟨O, cO, rfl, oo, hall⟩ | ⟨rfl, hlong⟩⟩
           ·have hg2 := HA4.out.1 hall
            have hf2 := hg2.2
            have hz5 := U.size
            have hz6 := bb.size
            have U6 := U.next bb
            have B7 : Below w6.heap.size w6 (w6.alloc (.cells #[.slice O 24 cO] 39)) := (Below.refl _ _).alloc (Nat.le_refl _) _
            have U7 := U6.next B7
            have o7 : Owns (w6.alloc (.cells #[.slice O 24 cO] 39)) (w.heap.size + 1 + 1 + 1) (w6.alloc (.cells #[.slice O 24 cO] 39)).heap.size O 24 cO _ := (oo.next B7).wider (by omega) B7.size
            have HN := hid (show HeadU w A n c sg P pn a Q qn b (G - 1) ((w6.alloc (.cells #[.slice O 24 cO] 39)).setCell ⟨w.heap.size + 1, 0, none⟩ (.slice O 24 cO)) from ⟨O, 24, cO, _, U7.store o7, hg2.1, by have := HFR.out; omega⟩)
            have hgk := hid (show G - 1 < G by have := HFR.out; omega)
            have c1 : (w6.alloc (.cells #[.slice O 24 cO] 39)).cell? ⟨w.heap.size + 1, 0, none⟩ = some (.slice S m cS) := U7.c1
            have f1 : (w6.alloc (.cells #[.slice O 24 cO] 39)).frozen? ⟨w.heap.size + 1, 0, none⟩ = false := U7.r1.free 0
            have d1 : w6.cell? ⟨w.heap.size + 1, 0, none⟩ = some (.slice S m cS) := U6.c1
            clear LB hg2 hf2 hz5 hz6 U6 U7 o7 oo bb B7 U hall
            go_wp2
            go_roundg (G - 1)
            case measure => exact hgk.out
            case rel => exact HN.out
           ·replace U := (U.next bb).next (w' := w6.alloc (.cells #[.slice none 0 0] 39)) ((Below.refl _ _).alloc (Nat.le_refl _) _)
            have hno : ∀ M, ¬ Short sg a b M := HA4.out.2 hlong
            have cR := U.c2
            have fR := U.f2
            have F1 := hid (uni_no (w := w) hno U.bel)
            have F2 := hid (uni_no (w := w) hno ((U.bel).setCell (p := ⟨w.heap.size + 1 + 1, 0, none⟩) (show w.heap.size ≤ w.heap.size + 1 + 1 by omega) (.slice none 0 0)))
            clear U hno LB bb c1
            go_wp2
            first
             | exact bodyPost_ret (v := .tuple #[.agg #[.slice none 0 0], .bool false]) (by simp [results, Try.results55, go_sem, cR]) rfl F1.out
             | exact bodyPost_ret (v := .tuple #[.agg #[.slice none 0 0], .bool false]) (by simp [results, Try.results55, go_sem, cR]) rfl F2.out
      ·have hyk : k = yn := by omega
       have := unifMath.differ HTX.out HTY.out HPRE.out (by rw [HLX.out]; omega) (by rw [HLY.out]; omega) (.inr (by rw [HLY.out]; exact hyk))
       have h1 := HLX.out
       rw [this, HLY.out] at h1
       omega
     ·have hxk : k = xn := by have := HKG.out; omega
      have he : fillL (givesL ss) a = fillL (givesL ss) b := by
       rw [← HX.out, ← HY.out]
       exact unifMath.differ HTX.out HTY.out HPRE.out (by rw [HLX.out]; omega) (by rw [HLY.out]; omega) (.inl (by rw [HLX.out]; exact hxk))
      have j1 : (xn : Int) ≤ (k : Int) := by omega
      have jj : ((k : Int) == (xn : Int)) = true := by simp [hxk]
      clear sx sy
      go_wp2_with fail
      go_quiet (fail)
      replace U := U.next (drew_below wr nq)
      generalize wr.drewN nq = w9 at *
      have cR := U.c2
      have fR := U.f2
      have c1 := U.c1
      have F : AnsUni w sg a b (.returned (.tuple #[.agg #[.slice S m cS], .bool true])) (w9.setCell ⟨w.heap.size + 1 + 1, 0, none⟩ (.slice S m cS)) :=
       ⟨(U.bel).setCell (p := ⟨w.heap.size + 1 + 1, 0, none⟩) (show w.heap.size ≤ w.heap.size + 1 + 1 by omega) _, .inl ⟨S, m, cS, ss, rfl, (owns_put U.sS U.r2 (Nat.lt_succ_self _) 0 _).wider (by omega) (by simp), HG.out, he, (fit_yes HFA.out).2⟩⟩
      have HF := hid F
      clear F U hxk he
      go_wp2
      exact bodyPost_ret (v := .tuple #[.agg #[.slice S m cS], .bool true]) (by simp [results, Try.results55, go_sem, cR]) rfl HF.out
end unifSpec
end
section
open Go.Lib (hid)
namespace inside
open Go.RowKit base ints sig term arity endOf cursor termOk endAt
set_option maxRecDepth 100000
def Tells (w : World) (b : Bool) (e : Ending) (w' : World) : Prop := e = .returned (.bool b) ∧ Below w.heap.size w w'
structure Fr (w wr : World) (A : Option Addr) (n c : Nat) (sg : List Int) (A' : Option Addr) (m : Nat) (t : List Int) : Prop where
 r : Row wr w.heap.size 29 #[.slice A n c]
 s : Seg wr w.heap.size A n sg
 s' : Seg wr w.heap.size A' m t
 b : Below w.heap.size w wr
section
variable {w wr w' : World} {A : Option Addr} {n c : Nat} {sg : List Int} {A' : Option Addr} {m : Nat} {t : List Int}
theorem Fr.start (h : Seg w w.heap.size A n sg) (h' : Seg w w.heap.size A' m t) : Fr w (w.alloc (.cells #[.slice A n c] 29)) A n c sg A' m t :=
 have b : Below w.heap.size w (w.alloc (.cells #[.slice A n c] 29)) := (Below.refl _ _).alloc (Nat.le_refl _) _
 ⟨Row.new _ _ _, h.below b, h'.below b, b⟩
theorem Fr.next (f : Fr w wr A n c sg A' m t) (hb : Below wr.heap.size wr w') : Fr w w' A n c sg A' m t :=
 have b : Below w.heap.size wr w' := hb.mono (Nat.le_of_lt f.r.lt)
 ⟨f.r.next hb, f.s.below b, f.s'.below b, f.b.trans b⟩
theorem Fr.over (f : Fr w wr A n c sg A' m t) (hb : Below (w.heap.size + 1) wr w') : Fr w w' A n c sg A' m t :=
 have b : Below w.heap.size wr w' := hb.mono (Nat.le_succ _)
 ⟨f.r.below hb (Nat.lt_succ_self _), f.s.below b, f.s'.below b, f.b.trans b⟩
theorem Fr.s1 (f : Fr w wr A n c sg A' m t) : Seg wr wr.heap.size A n sg := f.s.more (Nat.le_of_lt f.r.lt)
theorem Fr.t1 (f : Fr w wr A n c sg A' m t) : Seg wr wr.heap.size A' m t := f.s'.more (Nat.le_of_lt f.r.lt)
theorem Fr.size (f : Fr w wr A n c sg A' m t) : w.heap.size < wr.heap.size := f.r.lt
end
set_option maxHeartbeats 1000000 in
theorem right (A A' : Option Addr) (n c m c' : Nat) (sg t : List Int) (x : Int) (w : World) (h : Seg w w.heap.size A n sg) (h' : Seg w w.heap.size A' m t) (hn : n ≤ 1048576) (hm : m ≤ 1048576) :
  Calls Try.prog 124 #[.agg #[.slice A n c], .slice A' m c', .int .i64 x] w (Tells w (thereB sg t x)) := by
 obtain ⟨W, hW⟩ : ∃ W, W = w.alloc (.cells #[.slice A n c] 29) := ⟨_, rfl⟩
 have f : Fr w W A n c sg A' m t := by rw [hW]; exact Fr.start h h'
 have HW := hid hW
 have HL := hid h'.1
 have L := hid (specTermOk A A' n c m c' sg t W f.s1 f.t1 hn hm)
 clear hW h h'
 cases hok : termOkB sg t with
 | false =>
  have HS := hid hok
  have HT := hid (there_no (x := x) (.inl hok))
  clear hok
  go_enter Try.func124, Try.ntmps124
  go_wp2_with fail
  rw [← HW.out]
  refine L.out.mono ?_
  rintro e w1 ⟨he, bb⟩
  rw [HS.out] at he
  subst he
  have F := hid (show Tells w (thereB sg t x) (.returned (.bool false)) w1 from ⟨by rw [HT.out], (f.next bb).b⟩)
  clear f L bb HT
  go_wp2
  go_ret
  exact F.out
 | true =>
  have HS := hid hok
  obtain ⟨b, hb⟩ : ∃ b, decide (0 ≤ x ∧ x < (m : Int)) = b := ⟨_, rfl⟩
  have HD := hid hb
  have HT : thereB sg t x = b := by unfold thereB inB; rw [hok, HL.out, hb]; rfl
  replace HT := hid HT
  clear hok hb
  go_enter Try.func124, Try.ntmps124
  go_wp2_with fail
  rw [← HW.out]
  refine L.out.mono ?_
  rintro e w1 ⟨he, bb⟩
  rw [HS.out] at he
  subst he
  have F := hid (show Tells w (thereB sg t x) (.returned (.bool b)) w1 from ⟨by rw [HT.out], (f.next bb).b⟩)
  clear f L bb HT
  go_wp2_with fail
  refine (there _ _ _ x b _ hm HD.out).mono ?_
  rintro e w2 ⟨rfl, rfl⟩
  go_wp2
  go_ret
  exact F.out
end inside
end
section
open Go.Lib (hid)
namespace unified
open Go.RowKit base ints sig term termOk endAt sub cursor marks app sym Go.Proofs.Ytobedfmagjgdcaa.look segs segsHelp kinds termFacts fillMath substOk gives shifted filled plainMath plain plainOf compMath rename matchMath unifMath bind unifSpec inside
set_option maxRecDepth 100000
def AnsUB (w : World) (xss : List (List Int)) (b : Bool) (e : Ending) (w' : World) : Prop := ∃ A n c, e = .returned (.tuple #[.agg #[.slice A n c], .bool b]) ∧ Owns w' w.heap.size w'.heap.size A n c xss ∧ Below w.heap.size w w'
theorem ub_off {w w' : World} {sg a b : List Int} {v : Bool} {F : List (List Int)} (hU : IsU sg a b v F) (h : termOkB sg a = false ∨ termOkB sg b = false) (hb : Below w.heap.size w w') : AnsUB w F v (.returned (.tuple #[.agg #[.slice none 0 0], .bool false])) w' := by
 obtain ⟨rfl, rfl⟩ := isU_one hU (isU_off h)
 exact ⟨none, 0, 0, rfl, Owns.nil _ _ _, hb⟩
structure Mr (w wr : World) (A : Option Addr) (n c : Nat) (sg : List Int) (P : Option Addr) (pn : Nat) (p : List Int) (Q : Option Addr) (m : Nat) (t : List Int) : Prop where
 r0 : Row wr w.heap.size 29 #[.slice A n c]
 r1 : Row wr (w.heap.size + 1) 39 #[.slice none 0 0]
 ss : Seg wr wr.heap.size A n sg
 sp : Seg wr wr.heap.size P pn p
 st : Seg wr wr.heap.size Q m t
 b : Below w.heap.size w wr
section
variable {w wr w' : World} {A : Option Addr} {n c : Nat} {sg : List Int} {P : Option Addr} {pn : Nat} {p : List Int} {Q : Option Addr} {m : Nat} {t : List Int}
theorem Mr.start (h : Seg w w.heap.size A n sg) (hp : Seg w w.heap.size P pn p) (ht : Seg w w.heap.size Q m t) : Mr w ((w.alloc (.cells #[.slice A n c] 29)).alloc (.cells #[.slice none 0 0] 39)) A n c sg P pn p Q m t :=
 have b : Below w.heap.size w ((w.alloc (.cells #[.slice A n c] 29)).alloc (.cells #[.slice none 0 0] 39)) := ((Below.refl _ _).alloc (Nat.le_refl _) _).alloc (by simp) _
 ⟨(Row.new w _ _).alloc _, by have := Row.new (w.alloc (.cells #[.slice A n c] 29)) 39 #[.slice none 0 0]; simpa using this, h.next b, hp.next b, ht.next b, b⟩
theorem Mr.next (h : Mr w wr A n c sg P pn p Q m t) (hb : Below wr.heap.size wr w') : Mr w w' A n c sg P pn p Q m t :=
 ⟨h.r0.next hb, h.r1.next hb, h.ss.next hb, h.sp.next hb, h.st.next hb, next_trans h.b hb⟩
end
set_option maxHeartbeats 1000000 in
theorem specUnified (A P Q : Option Addr) (n c pn pc m mc : Nat) (sg p t : List Int) (w : World) (v : Bool) (F : List (List Int)) (hU : IsU sg p t v F) (h : Seg w w.heap.size A n sg) (hp : Seg w w.heap.size P pn p) (ht : Seg w w.heap.size Q m t) (hn : n ≤ 1048576) (hpn : pn ≤ 1048576) (hm : m ≤ 1048576) :
  Calls Try.prog 22 #[.agg #[.slice A n c], .slice P pn pc, .slice Q m mc] w (AnsUB w F v) := by
 obtain ⟨W, hW⟩ : ∃ W, W = (w.alloc (.cells #[.slice A n c] 29)).alloc (.cells #[.slice none 0 0] 39) := ⟨_, rfl⟩
 have M : Mr w W A n c sg P pn p Q m t := by rw [hW]; exact Mr.start h hp ht
 have HW := hid hW
 have L := hid (specTermOk A P n c pn pc sg p W M.ss M.sp hn hpn)
 have c0 : W.cell? ⟨w.heap.size, 0, none⟩ = some (.slice A n c) := M.r0.cell 0
 have c00 : ((w.alloc (.cells #[.slice A n c] 29)).alloc (.cells #[.slice none 0 0] 39)).cell? ⟨w.heap.size, 0, none⟩ = some (.slice A n c) := by rw [← hW]; exact c0
 have HU := hid hU
 clear hU hW h hp ht
 cases hokp : termOkB sg p with
 | false =>
  have HS := hid hokp
  clear hokp
  go_enter Try.func22, Try.ntmps22
  go_wp2_with fail
  rw [← HW.out]
  refine L.out.mono ?_
  rintro e w1 ⟨he, bb⟩
  rw [HS.out] at he
  subst he
  replace M := M.next bb
  have cR : w1.cell? ⟨w.heap.size + 1, 0, none⟩ = some (.slice none 0 0) := M.r1.cell 0
  have fR : w1.frozen? ⟨w.heap.size + 1, 0, none⟩ = false := M.r1.free 0
  have F1 := hid (ub_off (w := w) HU.out (.inl HS.out) M.b)
  have F2 := hid (ub_off (w := w) HU.out (.inl HS.out) ((M.b).setCell (p := ⟨w.heap.size + 1, 0, none⟩) (show w.heap.size ≤ w.heap.size + 1 by omega) (.slice none 0 0)))
  clear M L bb c0 c00
  go_wp2
  first
   | exact bodyPost_ret (v := .tuple #[.agg #[.slice none 0 0], .bool false]) (by simp [results, Try.results22, go_sem, cR]) rfl F1.out
   | exact bodyPost_ret (v := .tuple #[.agg #[.slice none 0 0], .bool false]) (by simp [results, Try.results22, go_sem, cR]) rfl F2.out
 | true =>
  have HSP := hid hokp
  have hp60 : pn ≤ 60 := by have h1 := (termOk_parts hokp).2.1; rw [M.sp.1] at h1; exact h1
  clear hokp
  cases hokt : termOkB sg t with
  | false =>
   have HS := hid hokt
   clear hokt
   go_enter Try.func22, Try.ntmps22
   go_wp2_with fail
   rw [← HW.out]
   refine L.out.mono ?_
   rintro e w1 ⟨he, bb⟩
   rw [HSP.out] at he
   subst he
   replace M := M.next bb
   clear bb L c0 c00
   have c0 : w1.cell? ⟨w.heap.size, 0, none⟩ = some (.slice A n c) := M.r0.cell 0
   go_wp2_with fail
   refine (specTermOk A Q n c m mc sg t _ M.ss M.st hn hm).mono ?_
   rintro e w2 ⟨he, bb⟩
   rw [HS.out] at he
   subst he
   replace M := M.next bb
   have cR : w2.cell? ⟨w.heap.size + 1, 0, none⟩ = some (.slice none 0 0) := M.r1.cell 0
   have fR : w2.frozen? ⟨w.heap.size + 1, 0, none⟩ = false := M.r1.free 0
   have F1 := hid (ub_off (w := w) HU.out (.inr HS.out) M.b)
   have F2 := hid (ub_off (w := w) HU.out (.inr HS.out) ((M.b).setCell (p := ⟨w.heap.size + 1, 0, none⟩) (show w.heap.size ≤ w.heap.size + 1 by omega) (.slice none 0 0)))
   clear M bb c0
   go_wp2
   first
    | exact bodyPost_ret (v := .tuple #[.agg #[.slice none 0 0], .bool false]) (by simp [results, Try.results22, go_sem, cR]) rfl F1.out
    | exact bodyPost_ret (v := .tuple #[.agg #[.slice none 0 0], .bool false]) (by simp [results, Try.results22, go_sem, cR]) rfl F2.out
  | true =>
   have HST := hid hokt
   have hm60 : m ≤ 60 := by have h1 := (termOk_parts hokt).2.1; rw [M.st.1] at h1; exact h1
   clear hokt
   go_enter Try.func22, Try.ntmps22
   go_wp2_with fail
   rw [← HW.out]
   refine L.out.mono ?_
   rintro e w1 ⟨he, bb⟩
   rw [HSP.out] at he
   subst he
   replace M := M.next bb
   clear bb L c0 c00
   have c0 : w1.cell? ⟨w.heap.size, 0, none⟩ = some (.slice A n c) := M.r0.cell 0
   go_wp2_with fail
   refine (specTermOk A Q n c m mc sg t _ M.ss M.st hn hm).mono ?_
   rintro e w2 ⟨he, bb⟩
   rw [HST.out] at he
   subst he
   replace M := M.next bb
   clear bb c0
   have c0 : w2.cell? ⟨w.heap.size, 0, none⟩ = some (.slice A n c) := M.r0.cell 0
   go_wp2_with fail
   refine (l5Unify A P Q n c pn pc m mc sg p t _ M.ss M.sp M.st hn hp60 hm60 HSP.out HST.out).mono ?_
   rintro e w3 ⟨bb, ⟨S, sm, cS, ss, rfl, os, hg, he, hl⟩ | ⟨rfl, hno⟩⟩
   ·obtain ⟨hv, hF⟩ := isU_one HU.out (isU_mg HSP.out HST.out (hg.part.done he) hg.g60 hl)
    have hsm : ss.length = sm := os.len
    have HF := hid (show plainL (givesL ss) sm = F by rw [hF]; exact (plain_24 (by rw [← hsm]; exact hg.len) (fun i hi => gives_out (by rw [hsm]; omega))).symm)
    have htot := hg.tot
    have B4 : Below w3.heap.size w3 (w3.alloc (.cells #[.slice S sm cS] 39)) := (Below.refl _ _).alloc (Nat.le_refl _) _
    have M4 := (M.next bb).next B4
    have LP := hid (l2Plain S sm cS ss (w3.alloc (.cells #[.slice S sm cS] 39)) (os.segs.next B4) htot)
    subst hv
    have z4 := M4.b.size
    have z5 := M4.r1.lt
    clear M bb os hg he hl hF hsm htot B4 c0
    go_wp2_with fail
    refine LP.out.mono ?_
    rintro e w5 ⟨D, dn, dc, rfl, od, bb⟩
    rw [HF.out] at od
    have M5 := M4.next bb
    have cR : w5.cell? ⟨w.heap.size + 1, 0, none⟩ = some (.slice none 0 0) := M5.r1.cell 0
    have fR : w5.frozen? ⟨w.heap.size + 1, 0, none⟩ = false := M5.r1.free 0
    have G : AnsUB w F true (.returned (.tuple #[.agg #[.slice D dn dc], .bool true])) (w5.setCell ⟨w.heap.size + 1, 0, none⟩ (.slice D dn dc)) := by
     have hbt : Btw (w.heap.size + 1) (w.heap.size + 2) w5 (w5.setCell ⟨w.heap.size + 1, 0, none⟩ (.slice D dn dc)) := Btw.of_grown (grown_put (World.grownBy.refl _ _) _ _) (fun k hk => by injection hk; omega)
     have o2 := od.btw hbt (.inr (by simp at z5 ⊢; omega))
     exact ⟨D, dn, dc, rfl, o2.wider (by simp at z4 ⊢; omega) (by simp), (M5.b).setCell (p := ⟨w.heap.size + 1, 0, none⟩) (show w.heap.size ≤ w.heap.size + 1 by omega) _⟩
    have HG := hid G
    clear G od bb M4 M5 LP
    go_wp2
    exact bodyPost_ret (v := .tuple #[.agg #[.slice D dn dc], .bool true]) (by simp [results, Try.results22, go_sem, cR]) rfl HG.out
   ·obtain ⟨hv, hF⟩ := isU_one HU.out (isU_no (a := p) (b := t) hno)
    subst hv
    subst hF
    have M3 := (M.next bb).next (w' := w3.alloc (.cells #[.slice none 0 0] 39)) ((Below.refl _ _).alloc (Nat.le_refl _) _)
    have cR : (w3.alloc (.cells #[.slice none 0 0] 39)).cell? ⟨w.heap.size + 1, 0, none⟩ = some (.slice none 0 0) := M3.r1.cell 0
    have fR : (w3.alloc (.cells #[.slice none 0 0] 39)).frozen? ⟨w.heap.size + 1, 0, none⟩ = false := M3.r1.free 0
    have F1 := hid (show AnsUB w [] false (.returned (.tuple #[.agg #[.slice none 0 0], .bool false])) _ from ⟨none, 0, 0, rfl, Owns.nil _ _ _, M3.b⟩)
    have F2 := hid (show AnsUB w [] false (.returned (.tuple #[.agg #[.slice none 0 0], .bool false])) ((w3.alloc (.cells #[.slice none 0 0] 39)).setCell ⟨w.heap.size + 1, 0, none⟩ (.slice none 0 0)) from ⟨none, 0, 0, rfl, Owns.nil _ _ _, (M3.b).setCell (p := ⟨w.heap.size + 1, 0, none⟩) (show w.heap.size ≤ w.heap.size + 1 by omega) _⟩)
    clear M M3 bb hno c0
    go_wp2
    first
     | exact bodyPost_ret (v := .tuple #[.agg #[.slice none 0 0], .bool false]) (by simp [results, Try.results22, go_sem, cR]) rfl F1.out
     | exact bodyPost_ret (v := .tuple #[.agg #[.slice none 0 0], .bool false]) (by simp [results, Try.results22, go_sem, cR]) rfl F2.out
end unified
end
section
open Go.Lib (hid)
namespace unifImpl
open Go.RowKit base ints sig term termOk endAt cursor marks segs segsHelp kinds fillMath Go.Proofs.Ytobedfmagjgdcaa.look plainMath plain unifMath unifDom thn unifRep unifStep unifRun unified inside
set_option maxRecDepth 100000
theorem catch_panicking (u : TypeId) (pv : Value) (older : List PanicEntry) (w : World) :
  CallsD Try.prog 58 #[] (.panicking ({ v := .iface u pv, recovered := false } :: older)) w fun e u' w' =>
   e = .returned (.tuple #[]) ∧ u' = .panicking ({ v := .iface u pv, recovered := true } :: older) ∧ w' = w := by
 refine callsD_of_wpS Try.func58 rfl fun c₀ cs hu => ?_
 apply wpS_region
 simp [wpOpsS, go_sem, recoverD, hu, Try.ntmps58, Exit.thenS, bodyPostS, results, Try.results58]
theorem catch_idle (w : World) :
  CallsD Try.prog 58 #[] .returning w fun e u' w' => e = .returned (.tuple #[]) ∧ u' = .returning ∧ w' = w := by
 refine callsD_of_wpS Try.func58 rfl fun c₀ cs hu => ?_
 apply wpS_region
 cases c₀
 simp_all [wpOpsS, go_sem, recoverD, Try.ntmps58, Exit.thenS, bodyPostS, results, Try.results58]
set_option maxHeartbeats 2000000 in
theorem implUnified (A P Q : Option Addr) (n c pn pc m mc : Nat) (sg p t : List Int) (w : World) (v : Bool) (F : List (List Int)) (hU : IsU sg p t v F) (h : Seg w w.heap.size A n sg) (hp : Seg w w.heap.size P pn p) (ht : Seg w w.heap.size Q m t) (hn : n ≤ 1048576) (hpn : pn ≤ 1048576) (hm : m ≤ 1048576) (kp : Cap P pn pc) (kq : Cap Q m mc) :
  Calls Try.prog 24 #[.agg #[.slice A n c], .slice P pn pc, .slice Q m mc] w (AnsUB w F v) := by
 obtain ⟨W, hW⟩ : ∃ W, W = (w.alloc (.cells #[.slice A n c] 29)).alloc (.cells #[.slice none 0 0] 39) := ⟨_, rfl⟩
 have M : Mr w W A n c sg P pn p Q m t := by rw [hW]; exact Mr.start h hp ht
 have HW := hid hW
 have L := hid (implTermOk A P n c pn pc sg p W M.ss M.sp hn hpn)
 have c0 : W.cell? ⟨w.heap.size, 0, none⟩ = some (.slice A n c) := M.r0.cell 0
 have c00 : ((w.alloc (.cells #[.slice A n c] 29)).alloc (.cells #[.slice none 0 0] 39)).cell? ⟨w.heap.size, 0, none⟩ = some (.slice A n c) := by rw [← hW]; exact c0
 have HU := hid hU
 have hmf : ∀ (fn : Fn) (first cap : Array Value) (w : World), (Instr.makeFunc fn first cap).run Try.prog w = .ok (.func fn first cap) w := fun _ _ _ _ => rfl
 clear hU hW h hp ht
 cases hokp : termOkB sg p with
 | false =>
  have HS := hid hokp
  clear hokp
  go_enter_defers Try.func24, Try.ntmps24
  go_wp2_with fail
  rw [← HW.out]
  refine L.out.mono ?_
  rintro e w1 ⟨he, bb⟩
  rw [HS.out] at he
  subst he
  replace M := M.next bb
  have cR : w1.cell? ⟨w.heap.size + 1, 0, none⟩ = some (.slice none 0 0) := M.r1.cell 0
  have fR : w1.frozen? ⟨w.heap.size + 1, 0, none⟩ = false := M.r1.free 0
  have F1 := hid (ub_off (w := w) HU.out (.inl HS.out) M.b)
  have F2 := hid (ub_off (w := w) HU.out (.inl HS.out) ((M.b).setCell (p := ⟨w.heap.size + 1, 0, none⟩) (show w.heap.size ≤ w.heap.size + 1 by omega) (.slice none 0 0)))
  clear M L bb c0 c00
  go_wp2
  first
   | exact ⟨.tuple #[.agg #[.slice none 0 0], .bool false], by simp [results, Try.results24, go_sem, cR], F1.out⟩
   | exact ⟨.tuple #[.agg #[.slice none 0 0], .bool false], by simp [results, Try.results24, go_sem, cR], F2.out⟩
 | true =>
  have HSP := hid hokp
  have hp60 : pn ≤ 60 := by have h1 := (termOk_parts hokp).2.1; rw [M.sp.1] at h1; exact h1
  clear hokp
  cases hokt : termOkB sg t with
  | false =>
   have HS := hid hokt
   clear hokt
   go_enter_defers Try.func24, Try.ntmps24
   go_wp2_with fail
   rw [← HW.out]
   refine L.out.mono ?_
   rintro e w1 ⟨he, bb⟩
   rw [HSP.out] at he
   subst he
   replace M := M.next bb
   clear bb L c0 c00
   have c0 : w1.cell? ⟨w.heap.size, 0, none⟩ = some (.slice A n c) := M.r0.cell 0
   go_wp2_with fail
   refine (implTermOk A Q n c m mc sg t _ M.ss M.st hn hm).mono ?_
   rintro e w2 ⟨he, bb⟩
   rw [HS.out] at he
   subst he
   replace M := M.next bb
   have cR : w2.cell? ⟨w.heap.size + 1, 0, none⟩ = some (.slice none 0 0) := M.r1.cell 0
   have fR : w2.frozen? ⟨w.heap.size + 1, 0, none⟩ = false := M.r1.free 0
   have F1 := hid (ub_off (w := w) HU.out (.inr HS.out) M.b)
   have F2 := hid (ub_off (w := w) HU.out (.inr HS.out) ((M.b).setCell (p := ⟨w.heap.size + 1, 0, none⟩) (show w.heap.size ≤ w.heap.size + 1 by omega) (.slice none 0 0)))
   clear M bb c0
   go_wp2
   first
    | exact ⟨.tuple #[.agg #[.slice none 0 0], .bool false], by simp [results, Try.results24, go_sem, cR], F1.out⟩
    | exact ⟨.tuple #[.agg #[.slice none 0 0], .bool false], by simp [results, Try.results24, go_sem, cR], F2.out⟩
  | true =>
   have HST := hid hokt
   have hm60 : m ≤ 60 := by have h1 := (termOk_parts hokt).2.1; rw [M.st.1] at h1; exact h1
   clear hokt
   go_enter_defers Try.func24, Try.ntmps24
   go_wp2_with fail
   rw [← HW.out]
   refine L.out.mono ?_
   rintro e w1 ⟨he, bb⟩
   rw [HSP.out] at he
   subst he
   replace M := M.next bb
   clear bb L c0 c00
   have c0 : w1.cell? ⟨w.heap.size, 0, none⟩ = some (.slice A n c) := M.r0.cell 0
   go_wp2_with fail
   refine (implTermOk A Q n c m mc sg t _ M.ss M.st hn hm).mono ?_
   rintro e w2 ⟨he, bb⟩
   rw [HST.out] at he
   subst he
   replace M := M.next bb
   clear bb c0
   have c0 : w2.cell? ⟨w.heap.size, 0, none⟩ = some (.slice A n c) := M.r0.cell 0
   obtain ⟨W3, hW3⟩ : ∃ W3, W3 = w2.alloc (.cells #[.slice A n c, .slice P pn pc, .slice Q m mc, .func (.func 59) #[] #[]] 67) := ⟨_, rfl⟩
   have b3 : Below w2.heap.size w2 W3 := by rw [hW3]; exact (Below.refl _ _).alloc (Nat.le_refl _) _
   have r3 : Row W3 w2.heap.size 67 #[.slice A n c, .slice P pn pc, .slice Q m mc, .func (.func 59) #[] #[]] := by rw [hW3]; exact Row.new _ _ _
   have M3 := M.next b3
   have LR := hid (run w2.heap.size A P Q n c pn pc m mc _ _ sg p t p t vt W3 ⟨r3, M3.ss, M3.sp, M3.st, kp, kq, enters_of Try.func59 (by kernel_rfl) rfl, lookVar _ _⟩ (Wy.start HSP.out HST.out) hn)
   have HW3 := hid hW3
   have hz : w.heap.size + 1 < w2.heap.size := M.r1.lt
   have HM3 := hid M3
   clear M b3 r3 M3 hW3
   go_wp2_with fail
   rw [← HW3.out]
   refine LR.out.mono ?_
   rintro e w4 ⟨hg, ⟨x, L', P', pn', pc', Q', qn', qc', gl', lb', rfl, U, WW⟩ | ⟨hno, u, pv, rfl⟩⟩
   ·have hs3 : W3.heap.size = w2.heap.size + 1 := by rw [HW3.out]; simp
    have b4 : Below w.heap.size w w4 := HM3.out.b.grown hg (by omega) (fun k hk => by injection hk; omega)
    have r4 := Row.away HM3.out.r1 hg (fun e => by injection e; omega)
    have c3 := U.c3
    have LP := hid (plain gl' lb' U.eg L' w4 U.lk.looks (fun i => WW.part.sub.pos i) (fun i => Nat.le_trans (WW.each i) (by omega)))
    obtain ⟨hv, hF⟩ := isU_one HU.out (WW.done rfl)
    subst hv
    subst hF
    have HB4 := hid b4
    have HR4 := hid r4
    clear U WW hg LR HM3 HU b4 r4 c0
    go_wp2_with fail
    refine LP.out.mono ?_
    rintro e w5 ⟨O, on, oc, rfl, ho, b5⟩
    have r5 := HR4.out.next b5
    have cR : w5.cell? ⟨w.heap.size + 1, 0, none⟩ = some (.slice none 0 0) := r5.cell 0
    have fR : w5.frozen? ⟨w.heap.size + 1, 0, none⟩ = false := r5.free 0
    have hs4 := HR4.out.lt
    have B5 := next_trans HB4.out b5
    have F := hid (show AnsUB w (plainL L' 24) true (.returned (.tuple #[.agg #[.slice O on oc], .bool true])) (w5.setCell ⟨w.heap.size + 1, 0, none⟩ (.slice O on oc)) from
     ⟨O, on, oc, rfl, (owns_put ho r5 hs4 0 _).wider (by have := HB4.out.size; omega) (by simp), B5.setCell (p := ⟨w.heap.size + 1, 0, none⟩) (show w.heap.size ≤ w.heap.size + 1 by omega) _⟩)
    clear LP ho b5 r5 HB4 HR4 B5 hs4
    go_wp2
    refine leaves_cons (f := 58) (args := #[]) (by simp) (by simp [go_sem]) ?_
    refine (catch_idle _).mono ?_
    rintro e u' w'' ⟨rfl, rfl, rfl⟩
    exact ⟨.tuple #[.agg #[.slice O on oc], .bool true], by simp [results, Try.results24, go_sem, cR], F.out⟩
   ·have hs3 : W3.heap.size = w2.heap.size + 1 := by rw [HW3.out]; simp
    have b4 : Below w.heap.size w w4 := HM3.out.b.grown hg (by omega) (fun k hk => by injection hk; omega)
    have r4 := Row.away HM3.out.r1 hg (fun e => by injection e; omega)
    have cR : w4.cell? ⟨w.heap.size + 1, 0, none⟩ = some (.slice none 0 0) := r4.cell 0
    obtain ⟨hv, hF⟩ := isU_one HU.out (isU_no hno)
    subst hv
    subst hF
    have F := hid (show AnsUB w [] false (.returned (.tuple #[.agg #[.slice none 0 0], .bool false])) w4 from ⟨none, 0, 0, rfl, Owns.nil _ _ _, b4⟩)
    refine leaves_cons (f := 58) (args := #[]) (by simp) (by simp [go_sem]) ?_
    refine (catch_panicking u pv [] w4).mono ?_
    rintro e u' w'' ⟨rfl, rfl, rfl⟩
    exact ⟨.tuple #[.agg #[.slice none 0 0], .bool false], by simp [results, Try.results24, go_sem, cR], F.out⟩
end unifImpl
end
section
namespace genMath
open sig term termOk termFacts endAt sub termMath fillMath posMath renMath matchMath unifMath
abbrev Tb := List (List Int × List Int)
section
variable {sg : List Int} {T T' : Tb} {n : Nat} {u w g : List Int}
end
def f1 (T : Tb) (i : Nat) : List Int := (T.getD i ([], [])).1
def f2 (T : Tb) (i : Nat) : List Int := (T.getD i ([], [])).2
end genMath
end
section
namespace sameSubst
open Go.RowKit base ints sig same marks sym segs segsHelp kinds varsOf fillMath Go.Proofs.Ytobedfmagjgdcaa.look substOk gives
set_option maxRecDepth 100000
end sameSubst
end
section
namespace plainFacts
open Go.RowKit base ints sig term termOk termFacts fillMath plainMath plainOf substOk gives sameSubst compMath filled
end plainFacts
end
section
namespace renPure
open sig term termOk termFacts varsMath fillMath renMath
end renPure
end
section
namespace unifLaw
open sig term termOk termFacts endAt sub termMath fillMath posMath renMath renPure segsHelp substOk gives plainMath plainOf plainFacts filled sameSubst compMath matchMath unifMath genMath
theorem isU_each {sg a b : List Int} {v : Bool} {F : List (List Int)} (h : IsU sg a b v F) : tot F ≤ 1048576 := by
 rcases h with ⟨_, _, _, L, m, s, rfl⟩ | ⟨_, rfl, _⟩
 ·have h3 := tot_le (plain_each (L := L) (m := 24) s.each)
  have h4 := plain_len L 24
  have h5 : (plainL L 24).length * 60 ≤ 24 * 60 := Nat.mul_le_mul_right _ h4
  omega
 ·simp [tot, sumL]
end unifLaw
end
section
namespace unifX
open Go.RowKit base sig segs inside unifMath unified unifImpl
section
variable (A P Q : Option Addr) (n c pn pc m mc : Nat) (sg p t : List Int) (w : World) (h : Seg w w.heap.size A n sg) (hp : Seg w w.heap.size P pn p) (ht : Seg w w.heap.size Q m t) (hn : n ≤ 1048576) (hpn : pn ≤ 1048576) (hm : m ≤ 1048576) (kp : Cap P pn pc) (kq : Cap Q m mc) {v : Bool} {F : List (List Int)} (hU : IsU sg p t v F)
include h hp ht hn hpn hm kp kq hU
set_option linter.unusedSectionVars false
theorem specUnifiedX : Calls Try.prog 22 #[.agg #[.slice A n c], .slice P pn pc, .slice Q m mc] w (AnsUB w F v) :=
 specUnified A P Q n c pn pc m mc sg p t w v F hU h hp ht hn hpn hm
theorem implUnifiedX : Calls Try.prog 24 #[.agg #[.slice A n c], .slice P pn pc, .slice Q m mc] w (AnsUB w F v) :=
 implUnified A P Q n c pn pc m mc sg p t w v F hU h hp ht hn hpn hm kp kq
end
end unifX
end
section
open Go.Lib (hid)
namespace wUnified
open Go.RowKit base ints sig cursor marks app sym appAt segs segsHelp segsMark kinds inside unifMath unified unifImpl unifLaw unifX
set_option maxRecDepth 100000
set_option maxHeartbeats 8000000 in
theorem law (a0 : Option Addr) (n0 c0 : Nat) (xs0 : List Int) (a1 : Option Addr) (n1 c1 : Nat) (xs1 : List Int) (a2 : Option Addr) (n2 c2 : Nat) (xs2 : List Int) (w : World) (s0 : Seg w w.heap.size a0 n0 xs0) (hN0 : n0 ≤ 9223372036854775807) (s1 : Seg w w.heap.size a1 n1 xs1) (hN1 : n1 ≤ 9223372036854775807) (s2 : Seg w w.heap.size a2 n2 xs2) (hN2 : n2 ≤ 9223372036854775807) :
  Calls Try.prog 4 #[.agg #[.slice a0 n0 c0], .slice a1 n1 c1, .slice a2 n2 c2] w (Fine w) := by
 obtain ⟨vv, FF, hU⟩ := isU_ex xs0 xs1 xs2
 obtain ⟨W, hW⟩ : ∃ W, W = w.alloc (.cells #[.slice a0 n0 c0] 24) := ⟨_, rfl⟩
 have rA0 : Row W (w.heap.size) 24 #[.slice a0 n0 c0] := by rw [hW]; have := Row.new (w) 24 #[.slice a0 n0 c0]; simpa using this
 have bW : Below w.heap.size w W := by rw [hW]; exact (Below.refl w.heap.size w).alloc (by simp) (.cells #[.slice a0 n0 c0] 24)
 have zA0 := rA0.lt
 replace s0 := s0.next bW
 have Hl0 := hid s0.1
 replace s1 := s1.next bW
 have Hl1 := hid s1.1
 replace s2 := s2.next bW
 have Hl2 := hid s2.1
 have HW := hid hW
 clear hW
 obtain ⟨v, hv⟩ : ∃ v, vv = v := ⟨_, rfl⟩
 have HV := hid hv
 clear hv
 have ev : (v != v) = false := by simp
 by_cases h1 : n1 ≤ 1048576
 case neg =>
  go_enter Try.func4, Try.ntmps4
  go_wp2_with fail
  rw [← HW.out]
  go_ret
  exact ⟨rfl, bW⟩
 by_cases h2 : n2 ≤ 1048576
 case neg =>
  go_enter Try.func4, Try.ntmps4
  go_wp2_with fail
  rw [← HW.out]
  go_ret
  exact ⟨rfl, bW⟩
 go_enter Try.func4, Try.ntmps4
 go_wp2_with fail
 rw [← HW.out]
 clear HW
 have bel := Below.refl W.heap.size W
 have cA0 : W.cell? ⟨w.heap.size, 0, none⟩ = some (.slice a0 n0 c0) := (rA0.next bel).cell 0
 refine (szSig _ _ _ (1048576) _ hN0 (by omega) (by omega)).mono ?_
 rintro e w1 ⟨he, bb⟩
 replace bel := next_trans bel bb
 have zw1 := bb.size
 clear bb
 by_cases q0 : n0 ≤ 1048576
 case neg =>
  rw [if_pos (by omega)] at he
  subst he
  have F := hid (bW.trans (bel.mono bW.size))
  clear bel bW cA0
  go_wp2
  go_ret
  exact ⟨rfl, F.out⟩
 rw [if_neg (by omega)] at he
 subst he
 have h0 : n0 ≤ 1048576 := by omega
 clear cA0
 have cA0 : w1.cell? ⟨w.heap.size, 0, none⟩ = some (.slice a0 n0 c0) := (rA0.next bel).cell 0
 have hlen : tot (FF) ≤ 1048576 := isU_each hU
 obtain ⟨ys, hys⟩ : ∃ ys, FF = ys := ⟨_, rfl⟩
 rw [hys] at hlen
 have HY := hid hys
 clear hys
 replace hlen := hid hlen
 go_wp2_with fail
 refine (sigTo _ _ _ xs0 _ (s0.next bel) h0).mono ?_
 rintro e w2 ⟨gp0, rfl, op0, yp0, bb⟩
 replace bel := next_trans bel bb
 have zw2 := bb.size
 clear bb
 clear cA0
 have cA0 : w2.cell? ⟨w.heap.size, 0, none⟩ = some (.slice a0 n0 c0) := (rA0.next bel).cell 0
 go_wp2_with fail
 refine (intsTo _ _ _ xs1 _ (s1.next bel) h1).mono ?_
 rintro e w3 ⟨gp1, rfl, op1, yp1, bb⟩
 replace op0 := op0.next bb
 replace bel := next_trans bel bb
 have zw3 := bb.size
 clear bb
 clear cA0
 have cA0 : w3.cell? ⟨w.heap.size, 0, none⟩ = some (.slice a0 n0 c0) := (rA0.next bel).cell 0
 go_wp2_with fail
 refine (intsTo _ _ _ xs2 _ (s2.next bel) h2).mono ?_
 rintro e w4 ⟨gp2, rfl, op2, yp2, bb⟩
 replace op0 := op0.next bb
 replace op1 := op1.next bb
 replace bel := next_trans bel bb
 have zw4 := bb.size
 clear bb
 clear cA0
 have cA0 : w4.cell? ⟨w.heap.size, 0, none⟩ = some (.slice a0 n0 c0) := (rA0.next bel).cell 0
 go_wp2_with fail
 refine (specUnifiedX _ _ _ _ _ _ _ _ _ xs0 xs1 xs2 _ op0.rd op1.rd op2.rd h0 h1 h2 ⟨Nat.le_refl _, by omega, fun e => by cases e⟩ ⟨Nat.le_refl _, by omega, fun e => by cases e⟩ hU).mono ?_
 rintro e w5 ⟨A0, m0, d0, he, o0, bb⟩
 rw [HV.out] at he
 subst he
 replace op0 := op0.next bb
 replace op1 := op1.next bb
 replace op2 := op2.next bb
 replace bel := next_trans bel bb
 have zw5 := bb.size
 clear bb
 rw [HY.out] at o0
 have sw := o0.rd
 clear o0
 clear op0 op1 op2
 clear cA0
 have cA0 : w5.cell? ⟨w.heap.size, 0, none⟩ = some (.slice a0 n0 c0) := (rA0.next bel).cell 0
 have dA0 : (w5.alloc (.cells #[.slice A0 m0 d0] 39)).cell? ⟨w.heap.size, 0, none⟩ = some (.slice a0 n0 c0) := ((rA0.next bel).alloc _).cell 0
 go_wp2_with fail
 obtain ⟨w6, hw⟩ : ∃ W, W = w5.alloc (.cells #[.slice A0 m0 d0] 39) := ⟨_, rfl⟩
 rw [← hw]
 have rw : Row w6 w5.heap.size 39 #[.slice A0 m0 d0] := by rw [hw]; exact Row.new _ _ _
 have bb : Below w5.heap.size w5 w6 := by rw [hw]; exact (Below.refl _ _).alloc (Nat.le_refl _) _
 have yrw : w5.heap.size < w6.heap.size := by rw [hw]; simp
 clear hw
 replace sw := sw.next bb
 replace bel := next_trans bel bb
 have zw6 := bb.size
 clear bb
 clear dA0
 obtain ⟨Aw, mw, dw, eA, em, ed⟩ : ∃ A m d, A = A0 ∧ m = m0 ∧ d = d0 := ⟨_, _, _, rfl, rfl, rfl⟩
 subst eA em ed
 have belw := Below.refl w6.heap.size w6
 clear cA0
 have cA0 : w6.cell? ⟨w.heap.size, 0, none⟩ = some (.slice a0 n0 c0) := (rA0.next bel).cell 0
 have cw : w6.cell? ⟨w5.heap.size, 0, none⟩ = some (.slice Aw mw dw) := (rw.next belw).cell 0
 refine (sigTo _ _ _ xs0 _ (s0.next bel) h0).mono ?_
 rintro e w7 ⟨gx0, rfl, ox0, yx0, bb⟩
 replace bel := next_trans bel bb
 replace belw := next_trans belw bb
 have zw7 := bb.size
 clear bb
 clear cA0 cw
 have cA0 : w7.cell? ⟨w.heap.size, 0, none⟩ = some (.slice a0 n0 c0) := (rA0.next bel).cell 0
 have cw : w7.cell? ⟨w5.heap.size, 0, none⟩ = some (.slice Aw mw dw) := (rw.next belw).cell 0
 have dA0 : (w7.alloc (.cells #[.slice (some ⟨gx0, 0, none⟩) n0 n0] 29)).cell? ⟨w.heap.size, 0, none⟩ = some (.slice a0 n0 c0) := ((rA0.next bel).alloc _).cell 0
 have dw : (w7.alloc (.cells #[.slice (some ⟨gx0, 0, none⟩) n0 n0] 29)).cell? ⟨w5.heap.size, 0, none⟩ = some (.slice Aw mw dw) := ((rw.next belw).alloc _).cell 0
 go_wp2_with fail
 obtain ⟨w8, hw⟩ : ∃ W, W = w7.alloc (.cells #[.slice (some ⟨gx0, 0, none⟩) n0 n0] 29) := ⟨_, rfl⟩
 rw [← hw]
 have rx0 : Row w8 w7.heap.size 29 #[.slice (some ⟨gx0, 0, none⟩) n0 n0] := by rw [hw]; exact Row.new _ _ _
 have bb : Below w7.heap.size w7 w8 := by rw [hw]; exact (Below.refl _ _).alloc (Nat.le_refl _) _
 have yrx0 : w7.heap.size < w8.heap.size := by rw [hw]; simp
 clear hw
 replace ox0 := ox0.next bb
 replace bel := next_trans bel bb
 replace belw := next_trans belw bb
 have zw8 := bb.size
 clear bb
 clear dA0 dw
 clear cA0 cw
 have cA0 : w8.cell? ⟨w.heap.size, 0, none⟩ = some (.slice a0 n0 c0) := (rA0.next bel).cell 0
 have cw : w8.cell? ⟨w5.heap.size, 0, none⟩ = some (.slice Aw mw dw) := (rw.next belw).cell 0
 have cx0 : w8.cell? ⟨w7.heap.size, 0, none⟩ = some (.slice (some ⟨gx0, 0, none⟩) n0 n0) := (rx0).cell 0
 refine (intsTo _ _ _ xs1 _ (s1.next bel) h1).mono ?_
 rintro e w9 ⟨gx1, rfl, ox1, yx1, bb⟩
 replace ox0 := ox0.next bb
 replace rx0 := rx0.next bb
 replace bel := next_trans bel bb
 replace belw := next_trans belw bb
 have zw9 := bb.size
 clear bb
 clear cA0 cw cx0
 have cA0 : w9.cell? ⟨w.heap.size, 0, none⟩ = some (.slice a0 n0 c0) := (rA0.next bel).cell 0
 have cw : w9.cell? ⟨w5.heap.size, 0, none⟩ = some (.slice Aw mw dw) := (rw.next belw).cell 0
 have cx0 : w9.cell? ⟨w7.heap.size, 0, none⟩ = some (.slice (some ⟨gx0, 0, none⟩) n0 n0) := (rx0).cell 0
 go_wp2_with fail
 refine (intsTo _ _ _ xs2 _ (s2.next bel) h2).mono ?_
 rintro e w10 ⟨gx2, rfl, ox2, yx2, bb⟩
 replace ox0 := ox0.next bb
 replace rx0 := rx0.next bb
 replace ox1 := ox1.next bb
 replace bel := next_trans bel bb
 replace belw := next_trans belw bb
 have zw10 := bb.size
 clear bb
 clear cA0 cw cx0
 have cA0 : w10.cell? ⟨w.heap.size, 0, none⟩ = some (.slice a0 n0 c0) := (rA0.next bel).cell 0
 have cw : w10.cell? ⟨w5.heap.size, 0, none⟩ = some (.slice Aw mw dw) := (rw.next belw).cell 0
 have cx0 : w10.cell? ⟨w7.heap.size, 0, none⟩ = some (.slice (some ⟨gx0, 0, none⟩) n0 n0) := (rx0).cell 0
 go_wp2_with fail
 refine (implUnifiedX _ _ _ _ _ _ _ _ _ xs0 xs1 xs2 _ ox0.rd ox1.rd ox2.rd h0 h1 h2 ⟨Nat.le_refl _, by omega, fun e => by cases e⟩ ⟨Nat.le_refl _, by omega, fun e => by cases e⟩ hU).mono ?_
 rintro e w11 ⟨A0, m0, d0, he, o0, bb⟩
 rw [HV.out] at he
 subst he
 replace ox0 := ox0.next bb
 replace rx0 := rx0.next bb
 replace ox1 := ox1.next bb
 replace ox2 := ox2.next bb
 replace bel := next_trans bel bb
 replace belw := next_trans belw bb
 have zw11 := bb.size
 clear bb
 rw [HY.out] at o0
 have og := o0
 clear o0
 obtain ⟨Ag, mg, dg, eA, em, ed⟩ : ∃ A m d, A = A0 ∧ m = m0 ∧ d = d0 := ⟨_, _, _, rfl, rfl, rfl⟩
 subst eA em ed
 clear cA0 cw cx0
 have cA0 : w11.cell? ⟨w.heap.size, 0, none⟩ = some (.slice a0 n0 c0) := (rA0.next bel).cell 0
 have cw : w11.cell? ⟨w5.heap.size, 0, none⟩ = some (.slice Aw mw dw) := (rw.next belw).cell 0
 have cx0 : w11.cell? ⟨w7.heap.size, 0, none⟩ = some (.slice (some ⟨gx0, 0, none⟩) n0 n0) := (rx0).cell 0
 have dA0 : (w11.alloc (.cells #[.slice Ag mg dg] 39)).cell? ⟨w.heap.size, 0, none⟩ = some (.slice a0 n0 c0) := ((rA0.next bel).alloc _).cell 0
 have dw : (w11.alloc (.cells #[.slice Ag mg dg] 39)).cell? ⟨w5.heap.size, 0, none⟩ = some (.slice Aw mw dw) := ((rw.next belw).alloc _).cell 0
 have dx0 : (w11.alloc (.cells #[.slice Ag mg dg] 39)).cell? ⟨w7.heap.size, 0, none⟩ = some (.slice (some ⟨gx0, 0, none⟩) n0 n0) := ((rx0).alloc _).cell 0
 go_wp2_with fail
 obtain ⟨w12, hw⟩ : ∃ W, W = w11.alloc (.cells #[.slice Ag mg dg] 39) := ⟨_, rfl⟩
 rw [← hw]
 have rg : Row w12 w11.heap.size 39 #[.slice Ag mg dg] := by rw [hw]; exact Row.new _ _ _
 have bb : Below w11.heap.size w11 w12 := by rw [hw]; exact (Below.refl _ _).alloc (Nat.le_refl _) _
 have yrg : w11.heap.size < w12.heap.size := by rw [hw]; simp
 clear hw
 replace ox0 := ox0.next bb
 replace rx0 := rx0.next bb
 replace ox1 := ox1.next bb
 replace ox2 := ox2.next bb
 replace og := og.next bb
 replace bel := next_trans bel bb
 replace belw := next_trans belw bb
 have zw12 := bb.size
 clear bb
 clear dA0 dw dx0
 clear cA0 cw cx0
 have cA0 : w12.cell? ⟨w.heap.size, 0, none⟩ = some (.slice a0 n0 c0) := (rA0.next bel).cell 0
 have cw : w12.cell? ⟨w5.heap.size, 0, none⟩ = some (.slice Aw mw dw) := (rw.next belw).cell 0
 have cx0 : w12.cell? ⟨w7.heap.size, 0, none⟩ = some (.slice (some ⟨gx0, 0, none⟩) n0 n0) := (rx0).cell 0
 have cg : w12.cell? ⟨w11.heap.size, 0, none⟩ = some (.slice Ag mg dg) := (rg).cell 0
 have hlenn : mg ≤ 1048576 := tot_len og.len hlen.out
 have hmg : sumL ys mg ≤ 1048576 := by have q := hlen.out; unfold tot at q; rw [og.len] at q; omega
 obtain ⟨zg, hzg⟩ : ∃ z, sumL ys mg = z := ⟨_, rfl⟩
 rw [hzg] at hmg
 have HZg := hid hzg
 clear hzg
 refine (substEq _ _ _ _ _ _ ys _ og.rd (sw.next belw) hlen.out).mono ?_
 rintro e w13 ⟨rfl, bb⟩
 replace ox0 := ox0.next bb
 replace rx0 := rx0.next bb
 replace ox1 := ox1.next bb
 replace ox2 := ox2.next bb
 replace og := og.next bb
 replace rg := rg.next bb
 replace bel := next_trans bel bb
 replace belw := next_trans belw bb
 have zw13 := bb.size
 clear bb
 clear cA0 cw cx0 cg
 have cA0 : w13.cell? ⟨w.heap.size, 0, none⟩ = some (.slice a0 n0 c0) := (rA0.next bel).cell 0
 have cw : w13.cell? ⟨w5.heap.size, 0, none⟩ = some (.slice Aw mw dw) := (rw.next belw).cell 0
 have cx0 : w13.cell? ⟨w7.heap.size, 0, none⟩ = some (.slice (some ⟨gx0, 0, none⟩) n0 n0) := (rx0).cell 0
 have cg : w13.cell? ⟨w11.heap.size, 0, none⟩ = some (.slice Ag mg dg) := (rg).cell 0
 go_wp2_with fail
 replace ox0 := ox0.drew
 replace rx0 := rx0.drew
 replace ox1 := ox1.drew
 replace ox2 := ox2.drew
 replace og := og.drew
 replace rg := rg.drew
 replace bel := bel.drew
 replace belw := belw.drew
 have zdw13 := (drew_below w13).size
 go_region_held3 (fun w' => w'.cell? ⟨w7.heap.size, 0, none⟩ = some (.slice (some ⟨gx0, 0, none⟩) n0 n0) ∧ w'.cell? ⟨w.heap.size, 0, none⟩ = some (.slice a0 n0 c0))
  (go_keep)
  (first
   | (go_at_call 12; refine (sigTo _ _ _ xs0 _ (s0.next bel) h0).mono ?_; rintro e w14 ⟨gt0, rfl, ot, yt0, bb⟩; replace ox0 := ox0.next bb; replace rx0 := rx0.next bb; replace ox1 := ox1.next bb; replace ox2 := ox2.next bb; replace og := og.next bb; replace rg := rg.next bb; replace bel := next_trans bel bb; replace belw := next_trans belw bb; have k0w14 : w14.cell? ⟨w.heap.size, 0, none⟩ = some (.slice a0 n0 c0) := (rA0.next bel).cell 0; have l0w14 : w14.cell? ⟨w7.heap.size, 0, none⟩ = some (.slice (some ⟨gx0, 0, none⟩) n0 n0) := rx0.cell 0; have zqw14 := bb.size; clear bb)
   | (go_at_call 16; refine (sigEq _ _ _ _ _ _ xs0 _ ox0.rd ot.rd h0).mono ?_; rintro e w15 ⟨rfl, bb⟩; replace ox0 := ox0.next bb; replace rx0 := rx0.next bb; replace ox1 := ox1.next bb; replace ox2 := ox2.next bb; replace og := og.next bb; replace rg := rg.next bb; replace bel := next_trans bel bb; replace belw := next_trans belw bb; have k0w15 : w15.cell? ⟨w.heap.size, 0, none⟩ = some (.slice a0 n0 c0) := (rA0.next bel).cell 0; have l0w15 : w15.cell? ⟨w7.heap.size, 0, none⟩ = some (.slice (some ⟨gx0, 0, none⟩) n0 n0) := rx0.cell 0; have zqw15 := bb.size; clear bb ot))
 clear k0w14 l0w14 k0w15 l0w15
 clear cA0 cw cx0 cg
 have cA0 : w15.cell? ⟨w.heap.size, 0, none⟩ = some (.slice a0 n0 c0) := (rA0.next bel).cell 0
 have cw : w15.cell? ⟨w5.heap.size, 0, none⟩ = some (.slice Aw mw dw) := (rw.next belw).cell 0
 have cx0 : w15.cell? ⟨w7.heap.size, 0, none⟩ = some (.slice (some ⟨gx0, 0, none⟩) n0 n0) := (rx0).cell 0
 have cg : w15.cell? ⟨w11.heap.size, 0, none⟩ = some (.slice Ag mg dg) := (rg).cell 0
 go_wp2_with fail
 refine (intsTo _ _ _ xs1 _ (s1.next bel) h1).mono ?_
 rintro e w16 ⟨gt1, rfl, ot1, yt1, bb⟩
 replace ox0 := ox0.next bb
 replace rx0 := rx0.next bb
 replace ox1 := ox1.next bb
 replace ox2 := ox2.next bb
 replace og := og.next bb
 replace rg := rg.next bb
 replace bel := next_trans bel bb
 replace belw := next_trans belw bb
 have zw16 := bb.size
 clear bb
 clear cA0 cw cx0 cg
 have cA0 : w16.cell? ⟨w.heap.size, 0, none⟩ = some (.slice a0 n0 c0) := (rA0.next bel).cell 0
 have cw : w16.cell? ⟨w5.heap.size, 0, none⟩ = some (.slice Aw mw dw) := (rw.next belw).cell 0
 have cx0 : w16.cell? ⟨w7.heap.size, 0, none⟩ = some (.slice (some ⟨gx0, 0, none⟩) n0 n0) := (rx0).cell 0
 have cg : w16.cell? ⟨w11.heap.size, 0, none⟩ = some (.slice Ag mg dg) := (rg).cell 0
 go_wp2_with fail
 refine (intsEq _ _ _ _ _ _ xs1 _ ox1.rd ot1.rd h1).mono ?_
 rintro e w17 ⟨rfl, bb⟩
 replace ox0 := ox0.next bb
 replace rx0 := rx0.next bb
 replace ox1 := ox1.next bb
 replace ox2 := ox2.next bb
 replace og := og.next bb
 replace rg := rg.next bb
 replace ot1 := ot1.next bb
 replace bel := next_trans bel bb
 replace belw := next_trans belw bb
 have zw17 := bb.size
 clear bb
 clear ot1
 clear cA0 cw cx0 cg
 have cA0 : w17.cell? ⟨w.heap.size, 0, none⟩ = some (.slice a0 n0 c0) := (rA0.next bel).cell 0
 have cw : w17.cell? ⟨w5.heap.size, 0, none⟩ = some (.slice Aw mw dw) := (rw.next belw).cell 0
 have cx0 : w17.cell? ⟨w7.heap.size, 0, none⟩ = some (.slice (some ⟨gx0, 0, none⟩) n0 n0) := (rx0).cell 0
 have cg : w17.cell? ⟨w11.heap.size, 0, none⟩ = some (.slice Ag mg dg) := (rg).cell 0
 go_wp2_with fail
 refine (intsTo _ _ _ xs2 _ (s2.next bel) h2).mono ?_
 rintro e w18 ⟨gt2, rfl, ot2, yt2, bb⟩
 replace ox0 := ox0.next bb
 replace rx0 := rx0.next bb
 replace ox1 := ox1.next bb
 replace ox2 := ox2.next bb
 replace og := og.next bb
 replace rg := rg.next bb
 replace bel := next_trans bel bb
 replace belw := next_trans belw bb
 have zw18 := bb.size
 clear bb
 clear cA0 cw cx0 cg
 have cA0 : w18.cell? ⟨w.heap.size, 0, none⟩ = some (.slice a0 n0 c0) := (rA0.next bel).cell 0
 have cw : w18.cell? ⟨w5.heap.size, 0, none⟩ = some (.slice Aw mw dw) := (rw.next belw).cell 0
 have cx0 : w18.cell? ⟨w7.heap.size, 0, none⟩ = some (.slice (some ⟨gx0, 0, none⟩) n0 n0) := (rx0).cell 0
 have cg : w18.cell? ⟨w11.heap.size, 0, none⟩ = some (.slice Ag mg dg) := (rg).cell 0
 go_wp2_with fail
 refine (intsEq _ _ _ _ _ _ xs2 _ ox2.rd ot2.rd h2).mono ?_
 rintro e w19 ⟨rfl, bb⟩
 replace ox0 := ox0.next bb
 replace rx0 := rx0.next bb
 replace ox1 := ox1.next bb
 replace ox2 := ox2.next bb
 replace og := og.next bb
 replace rg := rg.next bb
 replace ot2 := ot2.next bb
 replace bel := next_trans bel bb
 replace belw := next_trans belw bb
 have zw19 := bb.size
 clear bb
 clear ot2
 clear cA0 cw cx0 cg
 have cA0 : w19.cell? ⟨w.heap.size, 0, none⟩ = some (.slice a0 n0 c0) := (rA0.next bel).cell 0
 have cw : w19.cell? ⟨w5.heap.size, 0, none⟩ = some (.slice Aw mw dw) := (rw.next belw).cell 0
 have cx0 : w19.cell? ⟨w7.heap.size, 0, none⟩ = some (.slice (some ⟨gx0, 0, none⟩) n0 n0) := (rx0).cell 0
 have cg : w19.cell? ⟨w11.heap.size, 0, none⟩ = some (.slice Ag mg dg) := (rg).cell 0
 go_wp2_with fail
 refine (sigMark (w6.heap.size) (w7.heap.size) _ _ _ xs0 (1) _ ox0 h0 (by omega) (by omega)).mono ?_
 rintro e w20 ⟨he, -, bt⟩
 subst he
 clear ox0
 replace rx0 := Row.btw rx0 bt (by omega)
 replace ox1 := ox1.btw bt (by omega)
 replace ox2 := ox2.btw bt (by omega)
 replace og := og.btw bt (by omega)
 replace rg := Row.btw rg bt (by omega)
 replace bel := Below.btw bel bt (by omega) bel.size
 replace belw := Below.btw belw bt (by omega) belw.size
 have zw20 := bt.size
 clear bt
 clear cA0 cw cx0 cg
 have cA0 : w20.cell? ⟨w.heap.size, 0, none⟩ = some (.slice a0 n0 c0) := (rA0.next bel).cell 0
 have cw : w20.cell? ⟨w5.heap.size, 0, none⟩ = some (.slice Aw mw dw) := (rw.next belw).cell 0
 have cx0 : w20.cell? ⟨w7.heap.size, 0, none⟩ = some (.slice (some ⟨gx0, 0, none⟩) n0 n0) := (rx0).cell 0
 have cg : w20.cell? ⟨w11.heap.size, 0, none⟩ = some (.slice Ag mg dg) := (rg).cell 0
 go_wp2_with fail
 refine (intsMark (w8.heap.size) (w9.heap.size) _ _ _ xs1 (1 + (n0 : Int)) _ ox1 h1 (by omega) (by omega)).mono ?_
 rintro e w21 ⟨he, -, bt⟩
 subst he
 clear ox1
 replace rx0 := Row.btw rx0 bt (by omega)
 replace ox2 := ox2.btw bt (by omega)
 replace og := og.btw bt (by omega)
 replace rg := Row.btw rg bt (by omega)
 replace bel := Below.btw bel bt (by omega) bel.size
 replace belw := Below.btw belw bt (by omega) belw.size
 have zw21 := bt.size
 clear bt
 clear cA0 cw cx0 cg
 have cA0 : w21.cell? ⟨w.heap.size, 0, none⟩ = some (.slice a0 n0 c0) := (rA0.next bel).cell 0
 have cw : w21.cell? ⟨w5.heap.size, 0, none⟩ = some (.slice Aw mw dw) := (rw.next belw).cell 0
 have cx0 : w21.cell? ⟨w7.heap.size, 0, none⟩ = some (.slice (some ⟨gx0, 0, none⟩) n0 n0) := (rx0).cell 0
 have cg : w21.cell? ⟨w11.heap.size, 0, none⟩ = some (.slice Ag mg dg) := (rg).cell 0
 go_wp2_with fail
 refine (intsMark (w9.heap.size) (w10.heap.size) _ _ _ xs2 (1 + (n0 : Int) + (n1 : Int)) _ ox2 h2 (by omega) (by omega)).mono ?_
 rintro e w22 ⟨he, -, bt⟩
 subst he
 clear ox2
 replace rx0 := Row.btw rx0 bt (by omega)
 replace og := og.btw bt (by omega)
 replace rg := Row.btw rg bt (by omega)
 replace bel := Below.btw bel bt (by omega) bel.size
 replace belw := Below.btw belw bt (by omega) belw.size
 have zw22 := bt.size
 clear bt
 clear cA0 cw cx0 cg
 have cA0 : w22.cell? ⟨w.heap.size, 0, none⟩ = some (.slice a0 n0 c0) := (rA0.next bel).cell 0
 have cw : w22.cell? ⟨w5.heap.size, 0, none⟩ = some (.slice Aw mw dw) := (rw.next belw).cell 0
 have cx0 : w22.cell? ⟨w7.heap.size, 0, none⟩ = some (.slice (some ⟨gx0, 0, none⟩) n0 n0) := (rx0).cell 0
 have cg : w22.cell? ⟨w11.heap.size, 0, none⟩ = some (.slice Ag mg dg) := (rg).cell 0
 clear rx0
 clear cA0 cw cx0 cg
 have cA0 : w22.cell? ⟨w.heap.size, 0, none⟩ = some (.slice a0 n0 c0) := (rA0.next bel).cell 0
 have cw : w22.cell? ⟨w5.heap.size, 0, none⟩ = some (.slice Aw mw dw) := (rw.next belw).cell 0
 have cg : w22.cell? ⟨w11.heap.size, 0, none⟩ = some (.slice Ag mg dg) := (rg).cell 0
 go_wp2_with fail
 refine (substEq _ _ _ _ _ _ ys _ og.rd (sw.next belw) hlen.out).mono ?_
 rintro e w23 ⟨rfl, bb⟩
 replace og := og.next bb
 replace rg := rg.next bb
 replace bel := next_trans bel bb
 replace belw := next_trans belw bb
 have zw23 := bb.size
 clear bb
 clear cA0 cw cg
 have cA0 : w23.cell? ⟨w.heap.size, 0, none⟩ = some (.slice a0 n0 c0) := (rA0.next bel).cell 0
 have cw : w23.cell? ⟨w5.heap.size, 0, none⟩ = some (.slice Aw mw dw) := (rw.next belw).cell 0
 have cg : w23.cell? ⟨w11.heap.size, 0, none⟩ = some (.slice Ag mg dg) := (rg).cell 0
 go_wp2_with fail
 refine (substMark (w10.heap.size) (w11.heap.size) _ _ _ ys 1 _ og (by omega) hlen.out (by omega) (by omega)).mono ?_
 rintro e w24 ⟨he, om, bt⟩
 rw [HZg.out] at he
 subst he
 clear og
 replace rg := Row.btw rg bt (by omega)
 replace bel := Below.btw bel bt (by omega) bel.size
 replace belw := Below.btw belw bt (by omega) belw.size
 have zw24 := bt.size
 clear bt
 clear cA0 cw cg
 have cA0 : w24.cell? ⟨w.heap.size, 0, none⟩ = some (.slice a0 n0 c0) := (rA0.next bel).cell 0
 have cw : w24.cell? ⟨w5.heap.size, 0, none⟩ = some (.slice Aw mw dw) := (rw.next belw).cell 0
 have cg : w24.cell? ⟨w11.heap.size, 0, none⟩ = some (.slice Ag mg dg) := (rg).cell 0
 go_wp2_with fail
 refine (substHeld _ _ _ ys 1 _ om.rd hlen.out (by omega) (by omega)).mono ?_
 rintro e w25 ⟨he, bb⟩
 rw [HZg.out] at he
 subst he
 replace rg := rg.next bb
 replace om := om.next bb
 replace bel := next_trans bel bb
 replace belw := next_trans belw bb
 have zw25 := bb.size
 clear bb
 clear cA0 cw cg
 have cA0 : w25.cell? ⟨w.heap.size, 0, none⟩ = some (.slice a0 n0 c0) := (rA0.next bel).cell 0
 have cw : w25.cell? ⟨w5.heap.size, 0, none⟩ = some (.slice Aw mw dw) := (rw.next belw).cell 0
 have cg : w25.cell? ⟨w11.heap.size, 0, none⟩ = some (.slice Ag mg dg) := (rg).cell 0
 go_wp2_with fail
 refine (sigTo _ _ _ xs0 _ (s0.next bel) h0).mono ?_
 rintro e w26 ⟨gp0, rfl, op0, yp0, bb⟩
 replace rg := rg.next bb
 replace om := om.next bb
 replace bel := next_trans bel bb
 replace belw := next_trans belw bb
 have zw26 := bb.size
 clear bb
 clear cA0 cw cg
 have cA0 : w26.cell? ⟨w.heap.size, 0, none⟩ = some (.slice a0 n0 c0) := (rA0.next bel).cell 0
 have cw : w26.cell? ⟨w5.heap.size, 0, none⟩ = some (.slice Aw mw dw) := (rw.next belw).cell 0
 have cg : w26.cell? ⟨w11.heap.size, 0, none⟩ = some (.slice Ag mg dg) := (rg).cell 0
 go_wp2_with fail
 refine (intsTo _ _ _ xs1 _ (s1.next bel) h1).mono ?_
 rintro e w27 ⟨gp1, rfl, op1, yp1, bb⟩
 replace rg := rg.next bb
 replace om := om.next bb
 replace op0 := op0.next bb
 replace bel := next_trans bel bb
 replace belw := next_trans belw bb
 have zw27 := bb.size
 clear bb
 clear cA0 cw cg
 have cA0 : w27.cell? ⟨w.heap.size, 0, none⟩ = some (.slice a0 n0 c0) := (rA0.next bel).cell 0
 have cw : w27.cell? ⟨w5.heap.size, 0, none⟩ = some (.slice Aw mw dw) := (rw.next belw).cell 0
 have cg : w27.cell? ⟨w11.heap.size, 0, none⟩ = some (.slice Ag mg dg) := (rg).cell 0
 go_wp2_with fail
 refine (intsTo _ _ _ xs2 _ (s2.next bel) h2).mono ?_
 rintro e w28 ⟨gp2, rfl, op2, yp2, bb⟩
 replace rg := rg.next bb
 replace om := om.next bb
 replace op0 := op0.next bb
 replace op1 := op1.next bb
 replace bel := next_trans bel bb
 replace belw := next_trans belw bb
 have zw28 := bb.size
 clear bb
 clear cA0 cw cg
 have cA0 : w28.cell? ⟨w.heap.size, 0, none⟩ = some (.slice a0 n0 c0) := (rA0.next bel).cell 0
 have cw : w28.cell? ⟨w5.heap.size, 0, none⟩ = some (.slice Aw mw dw) := (rw.next belw).cell 0
 have cg : w28.cell? ⟨w11.heap.size, 0, none⟩ = some (.slice Ag mg dg) := (rg).cell 0
 go_wp2_with fail
 refine (implUnifiedX _ _ _ _ _ _ _ _ _ xs0 xs1 xs2 _ op0.rd op1.rd op2.rd h0 h1 h2 ⟨Nat.le_refl _, by omega, fun e => by cases e⟩ ⟨Nat.le_refl _, by omega, fun e => by cases e⟩ hU).mono ?_
 rintro e w29 ⟨A0, m0, d0, he, o0, bb⟩
 rw [HV.out] at he
 subst he
 replace rg := rg.next bb
 replace om := om.next bb
 replace op0 := op0.next bb
 replace op1 := op1.next bb
 replace op2 := op2.next bb
 replace bel := next_trans bel bb
 replace belw := next_trans belw bb
 have zw29 := bb.size
 clear bb
 rw [HY.out] at o0
 have sh := o0.rd
 clear o0
 clear op0 op1 op2
 clear cA0 cw cg
 have cA0 : w29.cell? ⟨w.heap.size, 0, none⟩ = some (.slice a0 n0 c0) := (rA0.next bel).cell 0
 have cw : w29.cell? ⟨w5.heap.size, 0, none⟩ = some (.slice Aw mw dw) := (rw.next belw).cell 0
 have cg : w29.cell? ⟨w11.heap.size, 0, none⟩ = some (.slice Ag mg dg) := (rg).cell 0
 have dA0 : (w29.alloc (.cells #[.slice A0 m0 d0] 39)).cell? ⟨w.heap.size, 0, none⟩ = some (.slice a0 n0 c0) := ((rA0.next bel).alloc _).cell 0
 have dw : (w29.alloc (.cells #[.slice A0 m0 d0] 39)).cell? ⟨w5.heap.size, 0, none⟩ = some (.slice Aw mw dw) := ((rw.next belw).alloc _).cell 0
 have dg : (w29.alloc (.cells #[.slice A0 m0 d0] 39)).cell? ⟨w11.heap.size, 0, none⟩ = some (.slice Ag mg dg) := ((rg).alloc _).cell 0
 go_wp2_with fail
 obtain ⟨w30, hw⟩ : ∃ W, W = w29.alloc (.cells #[.slice A0 m0 d0] 39) := ⟨_, rfl⟩
 rw [← hw]
 have rh : Row w30 w29.heap.size 39 #[.slice A0 m0 d0] := by rw [hw]; exact Row.new _ _ _
 have bb : Below w29.heap.size w29 w30 := by rw [hw]; exact (Below.refl _ _).alloc (Nat.le_refl _) _
 have yrh : w29.heap.size < w30.heap.size := by rw [hw]; simp
 clear hw
 replace rg := rg.next bb
 replace om := om.next bb
 replace sh := sh.next bb
 replace bel := next_trans bel bb
 replace belw := next_trans belw bb
 have zw30 := bb.size
 clear bb
 clear dA0 dw dg
 obtain ⟨Ah, mh, dh, eA, em, ed⟩ : ∃ A m d, A = A0 ∧ m = m0 ∧ d = d0 := ⟨_, _, _, rfl, rfl, rfl⟩
 subst eA em ed
 have belh := Below.refl w30.heap.size w30
 clear cA0 cw cg
 have cA0 : w30.cell? ⟨w.heap.size, 0, none⟩ = some (.slice a0 n0 c0) := (rA0.next bel).cell 0
 have cw : w30.cell? ⟨w5.heap.size, 0, none⟩ = some (.slice Aw mw dw) := (rw.next belw).cell 0
 have cg : w30.cell? ⟨w11.heap.size, 0, none⟩ = some (.slice Ag mg dg) := (rg).cell 0
 have ch : w30.cell? ⟨w29.heap.size, 0, none⟩ = some (.slice Ah mh dh) := (rh.next belh).cell 0
 refine (substEq _ _ _ _ _ _ ys _ (sh.next belh) (sw.next belw) hlen.out).mono ?_
 rintro e w31 ⟨rfl, bb⟩
 replace rg := rg.next bb
 replace om := om.next bb
 replace bel := next_trans bel bb
 replace belw := next_trans belw bb
 replace belh := next_trans belh bb
 have zw31 := bb.size
 clear bb
 clear cA0 cw cg ch
 have cA0 : w31.cell? ⟨w.heap.size, 0, none⟩ = some (.slice a0 n0 c0) := (rA0.next bel).cell 0
 have cw : w31.cell? ⟨w5.heap.size, 0, none⟩ = some (.slice Aw mw dw) := (rw.next belw).cell 0
 have cg : w31.cell? ⟨w11.heap.size, 0, none⟩ = some (.slice Ag mg dg) := (rg).cell 0
 have ch : w31.cell? ⟨w29.heap.size, 0, none⟩ = some (.slice Ah mh dh) := (rh.next belh).cell 0
 go_wp2_with fail
 refine (substHeld _ _ _ ys 1 _ om.rd hlen.out (by omega) (by omega)).mono ?_
 rintro e w32 ⟨he, bb⟩
 rw [HZg.out] at he
 subst he
 replace rg := rg.next bb
 replace om := om.next bb
 replace bel := next_trans bel bb
 replace belw := next_trans belw bb
 replace belh := next_trans belh bb
 have zw32 := bb.size
 clear bb
 clear cA0 cw cg ch
 have cA0 : w32.cell? ⟨w.heap.size, 0, none⟩ = some (.slice a0 n0 c0) := (rA0.next bel).cell 0
 have cw : w32.cell? ⟨w5.heap.size, 0, none⟩ = some (.slice Aw mw dw) := (rw.next belw).cell 0
 have cg : w32.cell? ⟨w11.heap.size, 0, none⟩ = some (.slice Ag mg dg) := (rg).cell 0
 have ch : w32.cell? ⟨w29.heap.size, 0, none⟩ = some (.slice Ah mh dh) := (rh.next belh).cell 0
 have F := hid (bW.trans (bel.mono bW.size))
 clear bel belw belh rg om bW cA0 cw cg ch
 go_wp2
 go_ret
 exact ⟨rfl, F.out⟩
end wUnified
end
end Go.Proofs.Ytobedfmagjgdcaa
