/-
  MERGED: my texts UnifSpec, Unified, UnifImpl, GenMath, SameSubst, PlainFacts, RenPure, UnifLaw, Max, CompSpec, CompImpl, Big, LawT, one behind the other, as they are. By an AI agent.
-/
import Derived.Test.YtobedfmagjgdcaaMFnUnified4
import Derived.Deep.LoopGhost
import Derived.Deep.QuietTactic
import Derived.BigQuiet
import Derived.Defers
import Derived.Recover
import Derived.Deep.RegionHeld3
import Derived.Deep.DeepCutAuto
import Derived.Laws.NewBlocks
import Derived.Laws.EntriesVeiled
namespace Go.Proofs.Ytobedfmagjgdcaa
section
open Go.Lib (hid)
namespace unifSpec
open Go.RowKit base ints sig term termOk endAt sub cursor marks app sym Go.Proofs.Ytobedfmagjgdcaa.look segs segsHelp kinds termFacts fillMath substOk gives shifted filled plainMath plain plainOf compMath rename matchMath unifMath bind
set_option maxRecDepth 100000
structure Good (sg a b : List Int) (ss : List (List Int)) : Prop where
 len : ss.length ≤ 24
 each : ∀ j, (ss.getD j []).length ≤ 60
 part : Part sg a b (givesL ss)
section
variable {sg a b : List Int} {ss : List (List Int)}
theorem Good.symm (h : Good sg a b ss) : Good sg b a ss := ⟨h.len, h.each, h.part.symm⟩
theorem Good.tot (h : Good sg a b ss) : tot ss ≤ 1048576 := by
 have h1 := tot_le h.each
 have h2 : ss.length * 60 ≤ 24 * 60 := Nat.mul_le_mul_right _ h.len
 have := h.len
 omega
theorem Good.g60 (h : Good sg a b ss) (k : Nat) : (givesL ss k).length ≤ 60 := by
 unfold givesL
 split
 ·simp [vt]
 ·exact h.each k
theorem Good.neg (h : Good sg a b ss) (k : Nat) (x : Int) (hx : x ∈ givesL ss k) (hk : k < 24) : -24 ≤ x := (h.part.sub.trm k hk).mem hx
theorem gives_nil : givesL [] = vt := by
 funext i
 exact gives_out (by simp)
theorem Good.start (sg a b : List Int) : Good sg a b [] := ⟨by simp, fun j => by simp, by rw [gives_nil]; exact Part.start sg a b⟩
theorem bound_gives {i : Nat} {t : List Int} (hi : i < 24) (ht : 1 ≤ t.length) (hl : ss.length ≤ 24) : givesL (outL (us1 i t) ss 24) = fun m => fillL (ones i t) (givesL ss m) := by
 have e : ∀ m, compL (us1 i t) ss m = fillL (ones i t) (givesL ss m) := fun m => by
  unfold compL
  exact fill_ext (fun x _ _ => us1_gives hi ht _)
 funext m
 by_cases hm : m < 24
 ·rw [out_gives hm, e]
 ·rw [gives_out (by rw [out_len]; omega), gives_out (by omega), fill_vti]
  unfold ones
  rw [if_neg (by omega)]
theorem Good.next {i : Nat} {t : List Int} (h : Good sg a b ss) (hi : i < 24) (ht : 1 ≤ t.length) (hp : Part sg a b (fun m => fillL (ones i t) (givesL ss m))) (hc : ∀ j, j < 24 → (compL (us1 i t) ss j).length ≤ 60) : Good sg a b (outL (us1 i t) ss 24) :=
 ⟨by rw [out_len]; omega, fun j => by
  by_cases hj : j < 24
  ·rw [out_get hj]; exact hc j hj
  ·simp [List.getD, out_len, hj], by rw [bound_gives hi ht h.len]; exact hp⟩
theorem fit_yes {t : List Int} (h : fitsB ss t = true) : fitL ss t = fillL (givesL ss) t ∧ (fillL (givesL ss) t).length ≤ 60 := by
 refine ⟨by unfold fitL; rw [if_pos h], ?_⟩
 unfold fitsB at h
 exact of_decide_eq_true h
end
def AnsUni (w : World) (sg a b : List Int) (e : Ending) (w' : World) : Prop :=
 Below w.heap.size w w' ∧ ((∃ S m c ss, e = .returned (.tuple #[.agg #[.slice S m c], .bool true]) ∧ Owns w' w.heap.size w'.heap.size S m c ss ∧ Good sg a b ss ∧ fillL (givesL ss) a = fillL (givesL ss) b ∧ (fillL (givesL ss) a).length ≤ 60) ∨ (e = .returned (.tuple #[.agg #[.slice none 0 0], .bool false]) ∧ ∀ M, ¬ Short sg a b M))
structure Uw (w wr : World) (A : Option Addr) (n c : Nat) (sg : List Int) (P : Option Addr) (pn : Nat) (a : List Int) (Q : Option Addr) (qn : Nat) (b : List Int) (S : Option Addr) (m cS : Nat) (ss : List (List Int)) : Prop where
 r0 : Row wr w.heap.size 29 #[.slice A n c]
 r1 : Row wr (w.heap.size + 1) 39 #[.slice S m cS]
 r2 : Row wr (w.heap.size + 1 + 1) 39 #[.slice none 0 0]
 s : Seg wr w.heap.size A n sg
 pa : Seg wr w.heap.size P pn a
 qb : Seg wr w.heap.size Q qn b
 sS : Owns wr (w.heap.size + 1 + 1 + 1) wr.heap.size S m cS ss
 bel : Below w.heap.size w wr
section
variable {w wr w' : World} {A : Option Addr} {n c : Nat} {sg : List Int} {P : Option Addr} {pn : Nat} {a : List Int} {Q : Option Addr} {qn : Nat} {b : List Int} {S : Option Addr} {m cS : Nat} {ss : List (List Int)}
theorem Uw.next (h : Uw w wr A n c sg P pn a Q qn b S m cS ss) (hb : Below wr.heap.size wr w') : Uw w w' A n c sg P pn a Q qn b S m cS ss :=
 have z := h.r0.lt
 have hw : Below w.heap.size wr w' := hb.mono (Nat.le_of_lt z)
 ⟨h.r0.next hb, h.r1.next hb, h.r2.next hb, h.s.below hw, h.pa.below hw, h.qb.below hw, (h.sS.next hb).wider (Nat.le_refl _) hb.size, h.bel.trans hw⟩
theorem Uw.c0 (h : Uw w wr A n c sg P pn a Q qn b S m cS ss) : wr.cell? ⟨w.heap.size, 0, none⟩ = some (.slice A n c) := h.r0.cell 0
theorem Uw.c1 (h : Uw w wr A n c sg P pn a Q qn b S m cS ss) : wr.cell? ⟨w.heap.size + 1, 0, none⟩ = some (.slice S m cS) := h.r1.cell 0
theorem Uw.c2 (h : Uw w wr A n c sg P pn a Q qn b S m cS ss) : wr.cell? ⟨w.heap.size + 1 + 1, 0, none⟩ = some (.slice none 0 0) := h.r2.cell 0
theorem Uw.f2 (h : Uw w wr A n c sg P pn a Q qn b S m cS ss) : wr.frozen? ⟨w.heap.size + 1 + 1, 0, none⟩ = false := h.r2.free 0
theorem Uw.size (h : Uw w wr A n c sg P pn a Q qn b S m cS ss) : w.heap.size + 1 + 1 < wr.heap.size := h.r2.lt
end
def HeadU (w : World) (A : Option Addr) (n c : Nat) (sg : List Int) (P : Option Addr) (pn : Nat) (a : List Int) (Q : Option Addr) (qn : Nat) (b : List Int) (g : Nat) (wr : World) : Prop :=
 ∃ S m cS ss, Uw w wr A n c sg P pn a Q qn b S m cS ss ∧ Good sg a b ss ∧ free (givesL ss) + 1 ≤ g
theorem uni_no {w w' : World} {sg a b : List Int} (h : ∀ M, ¬ Short sg a b M) (hb : Below w.heap.size w w') : AnsUni w sg a b (.returned (.tuple #[.agg #[.slice none 0 0], .bool false])) w' := ⟨hb, .inr ⟨rfl, h⟩⟩
theorem drew_below (w : World) (d : Nat) : Below w.heap.size w (w.drewN d) := ⟨rfl, rfl, rfl, Nat.le_refl _, fun _ _ => rfl⟩
theorem pre_step {x y : List Int} {k : Nat} (e : x.take k = y.take k) (hx : k < x.length) (hy : k < y.length) (h : x.getD k 0 = y.getD k 0) : x.take (k + 1) = y.take (k + 1) := by
 rw [List.take_succ_eq_append_getElem hx, List.take_succ_eq_append_getElem hy, e]
 simp [List.getD, hx, hy] at h
 rw [h]
theorem arm {sg a b xs ys : List Int} {ss : List (List Int)} {k : Nat} {p q : Int} (hx : xs = fillL (givesL ss) a) (hy : ys = fillL (givesL ss) b) (g : Good sg a b ss) (s : Spot sg a b (givesL ss) k) (ep : xs.getD k 0 = p) (eq : ys.getD k 0 = q) (h0 : p < 0) :
  (p ∈ subL sg ys k → ∀ M, ¬ Short sg a b M) ∧ vr p < 24 ∧ 1 ≤ (subL sg ys k).length ∧ (p ∉ subL sg ys k → (0 ≤ q ∨ p < q) →
   ((∀ j, j < 24 → (compL (us1 (vr p) (subL sg ys k)) ss j).length ≤ 60) → Good sg a b (outL (us1 (vr p) (subL sg ys k)) ss 24) ∧ free (givesL (outL (us1 (vr p) (subL sg ys k)) ss 24)) < free (givesL ss)) ∧
   ((∃ j, j < 24 ∧ 60 < (compL (us1 (vr p) (subL sg ys k)) ss j).length) → ∀ M, ¬ Short sg a b M)) := by
 subst hx
 subst hy
 subst ep
 subst eq
 have tx := g.part.sub.fill s.ta
 have ty := g.part.sub.fill s.tb
 have hm : (fillL (givesL ss) a).getD k 0 ∈ fillL (givesL ss) a := by have := s.kx; simp [List.getD, this]
 have hv : vr ((fillL (givesL ss) a).getD k 0) < 24 := by have := tx.mem hm; unfold vr; omega
 have h1 : 1 ≤ (subL sg (fillL (givesL ss) b) k).length := (sub_trm ty s.ky).1.pos
 refine ⟨fun hi M hM => s.occurs g.part h0 hi M hM.toUni, hv, h1, fun hi h3 => ?_⟩
 have hp := s.bind g.part h0 hi h3
 have hf := free_bind s g.part h0 hi
 refine ⟨fun hc => ⟨g.next hv h1 hp hc, by rw [bound_gives hv h1 g.len]; exact hf⟩, fun ⟨j, hj, hl⟩ M hM => ?_⟩
 have := hp.each hM j
 unfold compL at hl
 rw [fill_ext (L' := ones (vr ((fillL (givesL ss) a).getD k 0)) (subL sg (fillL (givesL ss) b) k)) (fun x _ _ => us1_gives hv h1 _)] at hl
 omega
theorem Uw.store {w wr : World} {A : Option Addr} {n c : Nat} {sg : List Int} {P : Option Addr} {pn : Nat} {a : List Int} {Q : Option Addr} {qn : Nat} {b : List Int} {S O : Option Addr} {m m' cS cO : Nat} {ss ss' : List (List Int)} (h : Uw w wr A n c sg P pn a Q qn b S m cS ss) (ho : Owns wr (w.heap.size + 1 + 1 + 1) wr.heap.size O m' cO ss') :
  Uw w (wr.setCell ⟨w.heap.size + 1, 0, none⟩ (.slice O m' cO)) A n c sg P pn a Q qn b O m' cO ss' := by
 refine ⟨h.r0.far (show w.heap.size ≠ w.heap.size + 1 by omega) _, ?_, h.r2.far (show w.heap.size + 1 + 1 ≠ w.heap.size + 1 by omega) _, h.s.put (p := ⟨w.heap.size + 1, 0, none⟩) (show w.heap.size ≤ w.heap.size + 1 by omega) _, h.pa.put (p := ⟨w.heap.size + 1, 0, none⟩) (show w.heap.size ≤ w.heap.size + 1 by omega) _, h.qb.put (p := ⟨w.heap.size + 1, 0, none⟩) (show w.heap.size ≤ w.heap.size + 1 by omega) _, ?_, h.bel.setCell (p := ⟨w.heap.size + 1, 0, none⟩) (show w.heap.size ≤ w.heap.size + 1 by omega) _⟩
 ·have := h.r1.put 0 (.slice O m' cO)
  simpa using this
 ·have := owns_put ho h.r1 (show w.heap.size + 1 < w.heap.size + 1 + 1 + 1 by omega) 0 (.slice O m' cO)
  simpa using this
set_option maxHeartbeats 1500000 in
theorem l5Unify (A P Q : Option Addr) (n c pn pc qn qc : Nat) (sg a b : List Int) (w : World) (h : Seg w w.heap.size A n sg) (hp : Seg w w.heap.size P pn a) (hq : Seg w w.heap.size Q qn b) (hn : n ≤ 1048576) (hpn : pn ≤ 60) (hqn : qn ≤ 60) (hoka : termOkB sg a = true) (hokb : termOkB sg b = true) :
  Calls Try.prog 55 #[.agg #[.slice A n c], .agg #[.slice none 0 0], .slice P pn pc, .slice Q qn qc] w (AnsUni w sg a b) := by
 obtain ⟨W, hW⟩ : ∃ W, W = ((w.alloc (.cells #[.slice A n c] 29)).alloc (.cells #[.slice none 0 0] 39)).alloc (.cells #[.slice none 0 0] 39) := ⟨_, rfl⟩
 have bW : Below w.heap.size w W := by rw [hW]; exact (((Below.refl _ _).alloc (Nat.le_refl _) _).alloc (by simp) _).alloc (by simp; omega) _
 have U0 : Uw w W A n c sg P pn a Q qn b none 0 0 [] := by
  refine ⟨?_, ?_, ?_, h.below bW, hp.below bW, hq.below bW, Owns.nil _ _ _, bW⟩
  ·rw [hW]; exact ((Row.new w _ _).alloc _).alloc _
  ·rw [hW]
   have := (Row.new (w.alloc (.cells #[.slice A n c] 29)) 39 #[.slice none 0 0]).alloc (.cells #[.slice none 0 0] 39)
   simpa using this
  ·rw [hW]
   have := Row.new ((w.alloc (.cells #[.slice A n c] 29)).alloc (.cells #[.slice none 0 0] 39)) 39 #[.slice none 0 0]
   simpa using this
 have HH := hid (show HeadU w A n c sg P pn a Q qn b 25 W from ⟨none, 0, 0, [], U0, Good.start sg a b, by have := free_le (givesL []); omega⟩)
 have HW := hid hW
 have HTA : Hid (Trm sg a) := hid (term_parts hoka).2.2
 have HTB : Hid (Trm sg b) := hid (term_parts hokb).2.2
 have hars := (sig_arities (termOk_parts hoka).1).1
 have hva := hid (fun x hx => (term_mem (x := x) hoka hx).1)
 have hvb := hid (fun x hx => (term_mem (x := x) hokb hx).1)
 clear U0 bW hW h hp hq hoka hokb
 go_enter Try.func55, Try.ntmps55
 go_wp2_with fail
 rw [← HW.out]
 go_loopg [] 25 (fun g wr => HeadU w A n c sg P pn a Q qn b g wr)
 case atStart => exact HH.out
 case round =>
  obtain ⟨S, m, cS, ss, U, hgood, hfree⟩ := hrel
  obtain ⟨G, hG⟩ : ∃ G, G = gk := ⟨_, rfl⟩
  subst hG
  clear HH
  have HG := hid hgood
  have HFR := hid hfree
  clear hgood hfree
  have c1 := U.c1
  obtain ⟨xs, hxs⟩ : ∃ x, fitL ss a = x := ⟨_, rfl⟩
  obtain ⟨ys, hys⟩ : ∃ x, fitL ss b = x := ⟨_, rfl⟩
  obtain ⟨fa, hfa⟩ : ∃ x, fitsB ss a = x := ⟨_, rfl⟩
  obtain ⟨fb, hfb⟩ : ∃ x, fitsB ss b = x := ⟨_, rfl⟩
  have HXS := hid hxs
  have HYS := hid hys
  have HFA := hid hfa
  have HFB := hid hfb
  clear hxs hys hfa hfb
  go_wp2_with fail
  refine (l2Filled S P m cS pn pc ss a wr U.sS.segs (U.pa.more (Nat.le_of_lt U.r0.lt)) HG.out.tot hpn hva.out HG.out.g60).mono ?_
  rintro e w1 ⟨X, xn, xc, he, ox, bb⟩
  rw [HFA.out] at he
  subst he
  rw [HXS.out] at ox
  have sx := Own.seg ox
  have kx := own_cap ox
  replace U := U.next bb
  clear ox bb c1
  have c1 := U.c1
  go_wp2_with fail
  refine (l2Filled S Q m cS qn qc ss b w1 U.sS.segs (U.qb.more (Nat.le_of_lt U.r0.lt)) HG.out.tot hqn hvb.out HG.out.g60).mono ?_
  rintro e w2 ⟨Y, yn, yc, he, oy, bb⟩
  rw [HFB.out] at he
  subst he
  rw [HYS.out] at oy
  have sy := Own.seg oy
  have ky := own_cap oy
  replace U := U.next bb
  replace sx := sx.next bb
  clear oy bb c1
  cases fa with
  | false =>
   have hno : ∀ M, ¬ Short sg a b M := fun M hM => by have h1 := HFA.out; unfold fitsB at h1; exact of_decide_eq_false h1 (HG.out.part.len hM).1
   have cR := U.c2
   have fR := U.f2
   have F1 := hid (uni_no (w := w) hno U.bel)
   have F2 := hid (uni_no (w := w) hno ((U.bel).setCell (p := ⟨w.heap.size + 1 + 1, 0, none⟩) (show w.heap.size ≤ w.heap.size + 1 + 1 by omega) (.slice none 0 0)))
   clear U hno sx sy
   go_wp2
   first
    | exact bodyPost_ret (v := .tuple #[.agg #[.slice none 0 0], .bool false]) (by simp [results, Try.results55, go_sem, cR]) rfl F1.out
    | exact bodyPost_ret (v := .tuple #[.agg #[.slice none 0 0], .bool false]) (by simp [results, Try.results55, go_sem, cR]) rfl F2.out
  | true =>
   cases fb with
   | false =>
    have hno : ∀ M, ¬ Short sg a b M := fun M hM => by have h1 := HFB.out; unfold fitsB at h1; exact of_decide_eq_false h1 (HG.out.part.len hM).2
    have cR := U.c2
    have fR := U.f2
    have F1 := hid (uni_no (w := w) hno U.bel)
    have F2 := hid (uni_no (w := w) hno ((U.bel).setCell (p := ⟨w.heap.size + 1 + 1, 0, none⟩) (show w.heap.size ≤ w.heap.size + 1 + 1 by omega) (.slice none 0 0)))
    clear U hno sx sy
    go_wp2
    first
     | exact bodyPost_ret (v := .tuple #[.agg #[.slice none 0 0], .bool false]) (by simp [results, Try.results55, go_sem, cR]) rfl F1.out
     | exact bodyPost_ret (v := .tuple #[.agg #[.slice none 0 0], .bool false]) (by simp [results, Try.results55, go_sem, cR]) rfl F2.out
   | true =>
    have HX := hid (HXS.out.symm.trans (fit_yes HFA.out).1)
    have HY := hid (HYS.out.symm.trans (fit_yes HFB.out).1)
    have hx60 : xn ≤ 60 := by rw [← sx.1, HX.out]; exact (fit_yes HFA.out).2
    have hy60 : yn ≤ 60 := by rw [← sy.1, HY.out]; exact (fit_yes HFB.out).2
    have HLX := hid sx.1
    have HLY := hid sy.1
    have HTX : Hid (Trm sg xs) := hid (by rw [HX.out]; exact HG.out.part.sub.fill HTA.out)
    have HTY : Hid (Trm sg ys) := hid (by rw [HY.out]; exact HG.out.part.sub.fill HTB.out)
    go_wp2_with fail
    go_loopg [14] xn (fun g k_ wr' => ∃ k d : Nat, k_ = .int .i64 k ∧ k + g = xn ∧ k ≤ yn ∧ xs.take k = ys.take k ∧ wr' = w2.drewN d)
    case atStart => exact ⟨0, 0, rfl, by omega, Nat.zero_le _, rfl, rfl⟩
    case round =>
     obtain ⟨k, d, rfl, hkg, hky, hpre, hwd⟩ := hrel
     have HKG := hid hkg
     have HPRE := hid hpre
     have i0 : (0 : Int) ≤ (k : Int) := by omega
     have bd : Below w2.heap.size w2 wr := by rw [hwd]; exact drew_below _ _
     have HWD := hid hwd
     replace U := U.next bd
     replace sx := sx.next bd
     replace sy := sy.next bd
     clear bd hwd hkg hpre
     by_cases hkx : k < xn
     ·have j1 : (k : Int) < (xn : Int) := by omega
      by_cases hky2 : k < yn
      ·have j2 : (k : Int) < (yn : Int) := by omega
       obtain ⟨b1, o1, p, rfl, hb1, hp, ep⟩ := sx.spot hkx
       obtain ⟨b2, o2, q, rfl, hb2, hq, eq⟩ := sy.spot hky2
       by_cases hpq : p = q
       ·subst hpq
        have S1 := hid (fun d' => (show ∃ k' d : Nat, (.int .i64 ((k : Int) + 1) : Value) = .int .i64 k' ∧ k' + (gk - 1) = xn ∧ k' ≤ yn ∧ xs.take k' = ys.take k' ∧ wr.drewN d' = w2.drewN d from ⟨k + 1, d + d', by simp, by have := HKG.out; omega, hky2, pre_step HPRE.out (by rw [HLX.out]; exact hkx) (by rw [HLY.out]; exact hky2) (by rw [ep.out, eq.out]), by rw [HWD.out, World.drewN_drewN]⟩))
        have hgk := hid (show gk - 1 < gk by have := HKG.out; omega)
        clear sx sy U ep eq
        go_wp2
        go_quiet (fail)
        go_wp2
        go_roundg (gk - 1)
        case measure => exact hgk.out
        case rel => exact S1.out _
       ·have HS := hid (show Spot sg a b (givesL ss) k from ⟨HTA.out, HTB.out, by rw [← HX.out, ← HY.out]; exact HPRE.out, by rw [← HX.out, HLX.out]; exact hkx, by rw [← HY.out, HLY.out]; exact hky2, by rw [← HX.out, ← HY.out, ep.out, eq.out]; exact hpq⟩)
        have HEP := hid ep.out
        have HEQ := hid eq.out
        have jx : ((k : Int) == (xn : Int)) = false := by simp; omega
        have hpd : (p == q) = false := by simp [hpq]
        have hp24 : -24 ≤ p := HTX.out.mem (by rw [← HEP.out]; have := HLX.out; simp [List.getD, show k < xs.length by omega])
        have hq24 : -24 ≤ q := HTY.out.mem (by rw [← HEQ.out]; have := HLY.out; simp [List.getD, show k < ys.length by omega])
        obtain ⟨jy, sy1, sy2, sy3⟩ := scan_at HTY.out (show k < ys.length by rw [HLY.out]; exact hky2)
        obtain ⟨jxx, sx1, sx2, sx3⟩ := scan_at HTX.out (show k < xs.length by rw [HLX.out]; exact hkx)
        rw [HLY.out] at sy3
        rw [HLX.out] at sx3
        have LX := hid (fun w' (hb : Below wr.heap.size wr w') => l1Sub A (some ⟨b1, o1, none⟩) n c xn xc sg xs k jxx w' ((U.next hb).s.more (Nat.le_of_lt (U.next hb).r0.lt)) (sx.next hb) hn (by omega) kx.1 kx.2.1 hars hkx sx1 sx2 sx3)
        have LY := hid (fun w' (hb : Below wr.heap.size wr w') => l1Sub A (some ⟨b2, o2, none⟩) n c yn yc sg ys k jy w' ((U.next hb).s.more (Nat.le_of_lt (U.next hb).r0.lt)) (sy.next hb) hn (by omega) ky.1 ky.2.1 hars hky2 sy1 sy2 sy3)
        have lenx : (subL sg xs k).length ≤ 60 := by unfold subL; rw [List.length_take, List.length_drop, HLX.out]; omega
        have leny : (subL sg ys k).length ≤ 60 := by unfold subL; rw [List.length_take, List.length_drop, HLY.out]; omega
        clear ep eq sy1 sy2 sy3 sx1 sx2 sx3
        go_wp2_with fail
        go_quiet (fail)
        have bd := drew_below wr nq
        replace U := U.next bd
        have p1 : (wr.drewN nq).cell? ⟨b1, o1 + k, none⟩ = some (.int .i64 p) := hp
        have q1 : (wr.drewN nq).cell? ⟨b2, o2 + k, none⟩ = some (.int .i64 q) := hq
        have LX := hid (fun w' (hb : Below (wr.drewN nq).heap.size (wr.drewN nq) w') => LX.out w' (next_trans bd hb))
        have LY := hid (fun w' (hb : Below (wr.drewN nq).heap.size (wr.drewN nq) w') => LY.out w' (next_trans bd hb))
        clear hp hq bd sx sy
        generalize wr.drewN nq = w3 at *
        have c0 := U.c0
        go_wp2_with fail
        refine (LY.out w3 (Below.refl _ _)).mono ?_
        rintro e w4 ⟨D, dn, dc, rfl, od, bb⟩
        have hdn : dn ≤ 60 := by rw [Own.len od]; exact leny
        have LX := hid (LX.out w4 bb)
        replace U := U.next bb
        clear LY bb c0 p1 q1
        by_cases hp0 : 0 ≤ p
        ·by_cases hq0 : 0 ≤ q
         ·have hno : ∀ M, ¬ Short sg a b M := fun M hM => HS.out.clash HG.out.part (by rw [← HX.out, HEP.out]; exact hp0) (by rw [← HY.out, HEQ.out]; exact hq0) M hM.toUni
          have cR := U.c2
          have fR := U.f2
          have F1 := hid (uni_no (w := w) hno U.bel)
          have F2 := hid (uni_no (w := w) hno ((U.bel).setCell (p := ⟨w.heap.size + 1 + 1, 0, none⟩) (show w.heap.size ≤ w.heap.size + 1 + 1 by omega) (.slice none 0 0)))
          clear U hno od LX
          go_wp2
          first
           | exact bodyPost_ret (v := .tuple #[.agg #[.slice none 0 0], .bool false]) (by simp [results, Try.results55, go_sem, cR]) rfl F1.out
           | exact bodyPost_ret (v := .tuple #[.agg #[.slice none 0 0], .bool false]) (by simp [results, Try.results55, go_sem, cR]) rfl F2.out
         ·have hq1 : q < 0 := by omega
          have HARM := hid (arm HY.out HX.out HG.out.symm HS.out.symm HEQ.out HEP.out (by omega))
          clear od hdn
          have c0 := U.c0
          go_wp2_with fail
          refine LX.out.mono ?_
          rintro e w5 ⟨D, dn, dc, rfl, od, bb⟩
          have hdn : dn ≤ 60 := by rw [Own.len od]; exact lenx
          replace U := U.next bb
          clear LX bb c0
          obtain ⟨v, hv⟩ : ∃ v : Nat, q = -1 - (v : Int) := ⟨(-1 - q).toNat, by omega⟩
          have HVR := hid (show vr q = v by unfold vr; omega)
          have HVV := hid hv
          clear hv
          have hv24 : v < 24 := by rw [← HVR.out]; exact HARM.out.2.1
          have HT1 := hid HARM.out.2.2.1
          have ht60 : (subL sg xs k).length ≤ 60 := by rw [← Own.len od]; exact hdn
          have sd := Own.seg od
          have kd := own_cap od
          obtain ⟨hm, ehm⟩ : ∃ z, decide (q ∈ subL sg xs k) = z := ⟨_, rfl⟩
          have HMM := hid ehm
          have LH := hid (l1Has D dn dc (subL sg xs k) q w5 sd (by omega))
          rw [ehm] at LH
          clear ehm
          cases hm with
          | true =>
           go_wp2_with fail
           refine LH.out.mono ?_
           rintro e w5 ⟨rfl, rfl⟩
           have hno : ∀ M, ¬ Short sg a b M := (fun M hM => (HARM.out.1 (of_decide_eq_true HMM.out)) M hM.symm)
           have cR := U.c2
           have fR := U.f2
           have F1 := hid (uni_no (w := w) hno U.bel)
           have F2 := hid (uni_no (w := w) hno ((U.bel).setCell (p := ⟨w.heap.size + 1 + 1, 0, none⟩) (show w.heap.size ≤ w.heap.size + 1 + 1 by omega) (.slice none 0 0)))
           clear U hno sd LH od
           go_wp2
           first
            | exact bodyPost_ret (v := .tuple #[.agg #[.slice none 0 0], .bool false]) (by simp [results, Try.results55, go_sem, cR]) rfl F1.out
            | exact bodyPost_ret (v := .tuple #[.agg #[.slice none 0 0], .bool false]) (by simp [results, Try.results55, go_sem, cR]) rfl F2.out
          | false =>
           have hwv : IntKind.i64.wrap (-1 - q) = (v : Int) := by have := HVV.out; rw [IntKind.wrap_i64]; omega
           have hwv2 := hid (show -1 - q = (v : Int) by have := HVV.out; omega)
           have HA4 := hid (HARM.out.2.2.2 (of_decide_eq_false HMM.out) (.inl hp0))
           rw [HVR.out] at HA4
           have c1 := U.c1
           have LB := hid (l5Bind S D m cS dn dc v ss (subL sg xs k) w5 U.sS.segs sd kd HG.out.tot hv24 HT1.out ht60 HG.out.g60 HG.out.neg)
           go_wp2_with fail
           refine LH.out.mono ?_
           rintro e w5 ⟨rfl, rfl⟩
           clear LH sd od
           go_wp2_with fail
           (try rw [hwv2.out])
           refine LB.out.mono ?_
           rintro e w6 ⟨bb, ⟨O, cO, rfl, oo, hall⟩ | ⟨rfl, hlong⟩⟩
           ·have hg2 := HA4.out.1 hall
            have hf2 := hg2.2
            have hz5 := U.size
            have hz6 := bb.size
            have U6 := U.next bb
            have B7 : Below w6.heap.size w6 (w6.alloc (.cells #[.slice O 24 cO] 39)) := (Below.refl _ _).alloc (Nat.le_refl _) _
            have U7 := U6.next B7
            have o7 : Owns (w6.alloc (.cells #[.slice O 24 cO] 39)) (w.heap.size + 1 + 1 + 1) (w6.alloc (.cells #[.slice O 24 cO] 39)).heap.size O 24 cO _ := (oo.next B7).wider (by omega) B7.size
            have HN := hid (show HeadU w A n c sg P pn a Q qn b (G - 1) ((w6.alloc (.cells #[.slice O 24 cO] 39)).setCell ⟨w.heap.size + 1, 0, none⟩ (.slice O 24 cO)) from ⟨O, 24, cO, _, U7.store o7, hg2.1.symm, by have := HFR.out; omega⟩)
            have hgk := hid (show G - 1 < G by have := HFR.out; omega)
            have c1 : (w6.alloc (.cells #[.slice O 24 cO] 39)).cell? ⟨w.heap.size + 1, 0, none⟩ = some (.slice S m cS) := U7.c1
            have f1 : (w6.alloc (.cells #[.slice O 24 cO] 39)).frozen? ⟨w.heap.size + 1, 0, none⟩ = false := U7.r1.free 0
            have d1 : w6.cell? ⟨w.heap.size + 1, 0, none⟩ = some (.slice S m cS) := U6.c1
            clear LB hg2 hf2 hz5 hz6 U6 U7 o7 oo bb B7 U hall
            go_wp2
            go_roundg (G - 1)
            case measure => exact hgk.out
            case rel => exact HN.out
           ·replace U := (U.next bb).next (w' := w6.alloc (.cells #[.slice none 0 0] 39)) ((Below.refl _ _).alloc (Nat.le_refl _) _)
            have hno : ∀ M, ¬ Short sg a b M := (fun M hM => (HA4.out.2 hlong) M hM.symm)
            have cR := U.c2
            have fR := U.f2
            have F1 := hid (uni_no (w := w) hno U.bel)
            have F2 := hid (uni_no (w := w) hno ((U.bel).setCell (p := ⟨w.heap.size + 1 + 1, 0, none⟩) (show w.heap.size ≤ w.heap.size + 1 + 1 by omega) (.slice none 0 0)))
            clear U hno LB bb c1
            go_wp2
            first
             | exact bodyPost_ret (v := .tuple #[.agg #[.slice none 0 0], .bool false]) (by simp [results, Try.results55, go_sem, cR]) rfl F1.out
             | exact bodyPost_ret (v := .tuple #[.agg #[.slice none 0 0], .bool false]) (by simp [results, Try.results55, go_sem, cR]) rfl F2.out
        ·have hp1 : p < 0 := by omega
         by_cases hq0 : q < 0
         ·by_cases hqp : q < p
          ·have HARM := hid (arm HY.out HX.out HG.out.symm HS.out.symm HEQ.out HEP.out (by omega))
           clear od hdn
           have c0 := U.c0
           go_wp2_with fail
           refine LX.out.mono ?_
           rintro e w5 ⟨D, dn, dc, rfl, od, bb⟩
           have hdn : dn ≤ 60 := by rw [Own.len od]; exact lenx
           replace U := U.next bb
           clear LX bb c0
           obtain ⟨v, hv⟩ : ∃ v : Nat, q = -1 - (v : Int) := ⟨(-1 - q).toNat, by omega⟩
           have HVR := hid (show vr q = v by unfold vr; omega)
           have HVV := hid hv
           clear hv
           have hv24 : v < 24 := by rw [← HVR.out]; exact HARM.out.2.1
           have HT1 := hid HARM.out.2.2.1
           have ht60 : (subL sg xs k).length ≤ 60 := by rw [← Own.len od]; exact hdn
           have sd := Own.seg od
           have kd := own_cap od
           obtain ⟨hm, ehm⟩ : ∃ z, decide (q ∈ subL sg xs k) = z := ⟨_, rfl⟩
           have HMM := hid ehm
           have LH := hid (l1Has D dn dc (subL sg xs k) q w5 sd (by omega))
           rw [ehm] at LH
           clear ehm
           cases hm with
           | true =>
            go_wp2_with fail
            refine LH.out.mono ?_
            rintro e w5 ⟨rfl, rfl⟩
            have hno : ∀ M, ¬ Short sg a b M := (fun M hM => (HARM.out.1 (of_decide_eq_true HMM.out)) M hM.symm)
            have cR := U.c2
            have fR := U.f2
            have F1 := hid (uni_no (w := w) hno U.bel)
            have F2 := hid (uni_no (w := w) hno ((U.bel).setCell (p := ⟨w.heap.size + 1 + 1, 0, none⟩) (show w.heap.size ≤ w.heap.size + 1 + 1 by omega) (.slice none 0 0)))
            clear U hno sd LH od
            go_wp2
            first
             | exact bodyPost_ret (v := .tuple #[.agg #[.slice none 0 0], .bool false]) (by simp [results, Try.results55, go_sem, cR]) rfl F1.out
             | exact bodyPost_ret (v := .tuple #[.agg #[.slice none 0 0], .bool false]) (by simp [results, Try.results55, go_sem, cR]) rfl F2.out
           | false =>
            have hwv : IntKind.i64.wrap (-1 - q) = (v : Int) := by have := HVV.out; rw [IntKind.wrap_i64]; omega
            have hwv2 := hid (show -1 - q = (v : Int) by have := HVV.out; omega)
            have HA4 := hid (HARM.out.2.2.2 (of_decide_eq_false HMM.out) (.inr hqp))
            rw [HVR.out] at HA4
            have c1 := U.c1
            have LB := hid (l5Bind S D m cS dn dc v ss (subL sg xs k) w5 U.sS.segs sd kd HG.out.tot hv24 HT1.out ht60 HG.out.g60 HG.out.neg)
            go_wp2_with fail
            refine LH.out.mono ?_
            rintro e w5 ⟨rfl, rfl⟩
            clear LH sd od
            go_wp2_with fail
            (try rw [hwv2.out])
            refine LB.out.mono ?_
            rintro e w6 ⟨bb, ⟨O, cO, rfl, oo, hall⟩ | ⟨rfl, hlong⟩⟩
            ·have hg2 := HA4.out.1 hall
             have hf2 := hg2.2
             have hz5 := U.size
             have hz6 := bb.size
             have U6 := U.next bb
             have B7 : Below w6.heap.size w6 (w6.alloc (.cells #[.slice O 24 cO] 39)) := (Below.refl _ _).alloc (Nat.le_refl _) _
             have U7 := U6.next B7
             have o7 : Owns (w6.alloc (.cells #[.slice O 24 cO] 39)) (w.heap.size + 1 + 1 + 1) (w6.alloc (.cells #[.slice O 24 cO] 39)).heap.size O 24 cO _ := (oo.next B7).wider (by omega) B7.size
             have HN := hid (show HeadU w A n c sg P pn a Q qn b (G - 1) ((w6.alloc (.cells #[.slice O 24 cO] 39)).setCell ⟨w.heap.size + 1, 0, none⟩ (.slice O 24 cO)) from ⟨O, 24, cO, _, U7.store o7, hg2.1.symm, by have := HFR.out; omega⟩)
             have hgk := hid (show G - 1 < G by have := HFR.out; omega)
             have c1 : (w6.alloc (.cells #[.slice O 24 cO] 39)).cell? ⟨w.heap.size + 1, 0, none⟩ = some (.slice S m cS) := U7.c1
             have f1 : (w6.alloc (.cells #[.slice O 24 cO] 39)).frozen? ⟨w.heap.size + 1, 0, none⟩ = false := U7.r1.free 0
             have d1 : w6.cell? ⟨w.heap.size + 1, 0, none⟩ = some (.slice S m cS) := U6.c1
             clear LB hg2 hf2 hz5 hz6 U6 U7 o7 oo bb B7 U hall
             go_wp2
             go_roundg (G - 1)
             case measure => exact hgk.out
             case rel => exact HN.out
            ·replace U := (U.next bb).next (w' := w6.alloc (.cells #[.slice none 0 0] 39)) ((Below.refl _ _).alloc (Nat.le_refl _) _)
             have hno : ∀ M, ¬ Short sg a b M := (fun M hM => (HA4.out.2 hlong) M hM.symm)
             have cR := U.c2
             have fR := U.f2
             have F1 := hid (uni_no (w := w) hno U.bel)
             have F2 := hid (uni_no (w := w) hno ((U.bel).setCell (p := ⟨w.heap.size + 1 + 1, 0, none⟩) (show w.heap.size ≤ w.heap.size + 1 + 1 by omega) (.slice none 0 0)))
             clear U hno LB bb c1
             go_wp2
             first
              | exact bodyPost_ret (v := .tuple #[.agg #[.slice none 0 0], .bool false]) (by simp [results, Try.results55, go_sem, cR]) rfl F1.out
              | exact bodyPost_ret (v := .tuple #[.agg #[.slice none 0 0], .bool false]) (by simp [results, Try.results55, go_sem, cR]) rfl F2.out
          ·have HARM := hid (arm HX.out HY.out HG.out HS.out HEP.out HEQ.out (by omega))
           clear LX
           obtain ⟨v, hv⟩ : ∃ v : Nat, p = -1 - (v : Int) := ⟨(-1 - p).toNat, by omega⟩
           have HVR := hid (show vr p = v by unfold vr; omega)
           have HVV := hid hv
           clear hv
           have hv24 : v < 24 := by rw [← HVR.out]; exact HARM.out.2.1
           have HT1 := hid HARM.out.2.2.1
           have ht60 : (subL sg ys k).length ≤ 60 := by rw [← Own.len od]; exact hdn
           have sd := Own.seg od
           have kd := own_cap od
           obtain ⟨hm, ehm⟩ : ∃ z, decide (p ∈ subL sg ys k) = z := ⟨_, rfl⟩
           have HMM := hid ehm
           have LH := hid (l1Has D dn dc (subL sg ys k) p w4 sd (by omega))
           rw [ehm] at LH
           clear ehm
           cases hm with
           | true =>
            go_wp2_with fail
            refine LH.out.mono ?_
            rintro e w5 ⟨rfl, rfl⟩
            have hno : ∀ M, ¬ Short sg a b M := HARM.out.1 (of_decide_eq_true HMM.out)
            have cR := U.c2
            have fR := U.f2
            have F1 := hid (uni_no (w := w) hno U.bel)
            have F2 := hid (uni_no (w := w) hno ((U.bel).setCell (p := ⟨w.heap.size + 1 + 1, 0, none⟩) (show w.heap.size ≤ w.heap.size + 1 + 1 by omega) (.slice none 0 0)))
            clear U hno sd LH od
            go_wp2
            first
             | exact bodyPost_ret (v := .tuple #[.agg #[.slice none 0 0], .bool false]) (by simp [results, Try.results55, go_sem, cR]) rfl F1.out
             | exact bodyPost_ret (v := .tuple #[.agg #[.slice none 0 0], .bool false]) (by simp [results, Try.results55, go_sem, cR]) rfl F2.out
           | false =>
            have hwv : IntKind.i64.wrap (-1 - p) = (v : Int) := by have := HVV.out; rw [IntKind.wrap_i64]; omega
            have hwv2 := hid (show -1 - p = (v : Int) by have := HVV.out; omega)
            have HA4 := hid (HARM.out.2.2.2 (of_decide_eq_false HMM.out) (.inr (by omega)))
            rw [HVR.out] at HA4
            have c1 := U.c1
            have LB := hid (l5Bind S D m cS dn dc v ss (subL sg ys k) w4 U.sS.segs sd kd HG.out.tot hv24 HT1.out ht60 HG.out.g60 HG.out.neg)
            go_wp2_with fail
            refine LH.out.mono ?_
            rintro e w5 ⟨rfl, rfl⟩
            clear LH sd od
            go_wp2_with fail
            (try rw [hwv2.out])
            refine LB.out.mono ?_
            rintro e w6 ⟨bb, ⟨O, cO, rfl, oo, hall⟩ | ⟨rfl, hlong⟩⟩
            ·have hg2 := HA4.out.1 hall
             have hf2 := hg2.2
             have hz5 := U.size
             have hz6 := bb.size
             have U6 := U.next bb
             have B7 : Below w6.heap.size w6 (w6.alloc (.cells #[.slice O 24 cO] 39)) := (Below.refl _ _).alloc (Nat.le_refl _) _
             have U7 := U6.next B7
             have o7 : Owns (w6.alloc (.cells #[.slice O 24 cO] 39)) (w.heap.size + 1 + 1 + 1) (w6.alloc (.cells #[.slice O 24 cO] 39)).heap.size O 24 cO _ := (oo.next B7).wider (by omega) B7.size
             have HN := hid (show HeadU w A n c sg P pn a Q qn b (G - 1) ((w6.alloc (.cells #[.slice O 24 cO] 39)).setCell ⟨w.heap.size + 1, 0, none⟩ (.slice O 24 cO)) from ⟨O, 24, cO, _, U7.store o7, hg2.1, by have := HFR.out; omega⟩)
             have hgk := hid (show G - 1 < G by have := HFR.out; omega)
             have c1 : (w6.alloc (.cells #[.slice O 24 cO] 39)).cell? ⟨w.heap.size + 1, 0, none⟩ = some (.slice S m cS) := U7.c1
             have f1 : (w6.alloc (.cells #[.slice O 24 cO] 39)).frozen? ⟨w.heap.size + 1, 0, none⟩ = false := U7.r1.free 0
             have d1 : w6.cell? ⟨w.heap.size + 1, 0, none⟩ = some (.slice S m cS) := U6.c1
             clear LB hg2 hf2 hz5 hz6 U6 U7 o7 oo bb B7 U hall
             go_wp2
             go_roundg (G - 1)
             case measure => exact hgk.out
             case rel => exact HN.out
            ·replace U := (U.next bb).next (w' := w6.alloc (.cells #[.slice none 0 0] 39)) ((Below.refl _ _).alloc (Nat.le_refl _) _)
             have hno : ∀ M, ¬ Short sg a b M := HA4.out.2 hlong
             have cR := U.c2
             have fR := U.f2
             have F1 := hid (uni_no (w := w) hno U.bel)
             have F2 := hid (uni_no (w := w) hno ((U.bel).setCell (p := ⟨w.heap.size + 1 + 1, 0, none⟩) (show w.heap.size ≤ w.heap.size + 1 + 1 by omega) (.slice none 0 0)))
             clear U hno LB bb c1
             go_wp2
             first
              | exact bodyPost_ret (v := .tuple #[.agg #[.slice none 0 0], .bool false]) (by simp [results, Try.results55, go_sem, cR]) rfl F1.out
              | exact bodyPost_ret (v := .tuple #[.agg #[.slice none 0 0], .bool false]) (by simp [results, Try.results55, go_sem, cR]) rfl F2.out
         ·have hq1 : 0 ≤ q := by omega
          have HARM := hid (arm HX.out HY.out HG.out HS.out HEP.out HEQ.out (by omega))
          clear LX
          obtain ⟨v, hv⟩ : ∃ v : Nat, p = -1 - (v : Int) := ⟨(-1 - p).toNat, by omega⟩
          have HVR := hid (show vr p = v by unfold vr; omega)
          have HVV := hid hv
          clear hv
          have hv24 : v < 24 := by rw [← HVR.out]; exact HARM.out.2.1
          have HT1 := hid HARM.out.2.2.1
          have ht60 : (subL sg ys k).length ≤ 60 := by rw [← Own.len od]; exact hdn
          have sd := Own.seg od
          have kd := own_cap od
          obtain ⟨hm, ehm⟩ : ∃ z, decide (p ∈ subL sg ys k) = z := ⟨_, rfl⟩
          have HMM := hid ehm
          have LH := hid (l1Has D dn dc (subL sg ys k) p w4 sd (by omega))
          rw [ehm] at LH
          clear ehm
          cases hm with
          | true =>
           go_wp2_with fail
           refine LH.out.mono ?_
           rintro e w5 ⟨rfl, rfl⟩
           have hno : ∀ M, ¬ Short sg a b M := HARM.out.1 (of_decide_eq_true HMM.out)
           have cR := U.c2
           have fR := U.f2
           have F1 := hid (uni_no (w := w) hno U.bel)
           have F2 := hid (uni_no (w := w) hno ((U.bel).setCell (p := ⟨w.heap.size + 1 + 1, 0, none⟩) (show w.heap.size ≤ w.heap.size + 1 + 1 by omega) (.slice none 0 0)))
           clear U hno sd LH od
           go_wp2
           first
            | exact bodyPost_ret (v := .tuple #[.agg #[.slice none 0 0], .bool false]) (by simp [results, Try.results55, go_sem, cR]) rfl F1.out
            | exact bodyPost_ret (v := .tuple #[.agg #[.slice none 0 0], .bool false]) (by simp [results, Try.results55, go_sem, cR]) rfl F2.out
          | false =>
           have hwv : IntKind.i64.wrap (-1 - p) = (v : Int) := by have := HVV.out; rw [IntKind.wrap_i64]; omega
           have hwv2 := hid (show -1 - p = (v : Int) by have := HVV.out; omega)
           have HA4 := hid (HARM.out.2.2.2 (of_decide_eq_false HMM.out) (.inl hq1))
           rw [HVR.out] at HA4
           have c1 := U.c1
           have LB := hid (l5Bind S D m cS dn dc v ss (subL sg ys k) w4 U.sS.segs sd kd HG.out.tot hv24 HT1.out ht60 HG.out.g60 HG.out.neg)
           go_wp2_with fail
           refine LH.out.mono ?_
           rintro e w5 ⟨rfl, rfl⟩
           clear LH sd od
           go_wp2_with fail
           (try rw [hwv2.out])
           refine LB.out.mono ?_
           rintro e w6 ⟨bb, ⟨O, cO, rfl, oo, hall⟩ | ⟨rfl, hlong⟩⟩
           ·have hg2 := HA4.out.1 hall
            have hf2 := hg2.2
            have hz5 := U.size
            have hz6 := bb.size
            have U6 := U.next bb
            have B7 : Below w6.heap.size w6 (w6.alloc (.cells #[.slice O 24 cO] 39)) := (Below.refl _ _).alloc (Nat.le_refl _) _
            have U7 := U6.next B7
            have o7 : Owns (w6.alloc (.cells #[.slice O 24 cO] 39)) (w.heap.size + 1 + 1 + 1) (w6.alloc (.cells #[.slice O 24 cO] 39)).heap.size O 24 cO _ := (oo.next B7).wider (by omega) B7.size
            have HN := hid (show HeadU w A n c sg P pn a Q qn b (G - 1) ((w6.alloc (.cells #[.slice O 24 cO] 39)).setCell ⟨w.heap.size + 1, 0, none⟩ (.slice O 24 cO)) from ⟨O, 24, cO, _, U7.store o7, hg2.1, by have := HFR.out; omega⟩)
            have hgk := hid (show G - 1 < G by have := HFR.out; omega)
            have c1 : (w6.alloc (.cells #[.slice O 24 cO] 39)).cell? ⟨w.heap.size + 1, 0, none⟩ = some (.slice S m cS) := U7.c1
            have f1 : (w6.alloc (.cells #[.slice O 24 cO] 39)).frozen? ⟨w.heap.size + 1, 0, none⟩ = false := U7.r1.free 0
            have d1 : w6.cell? ⟨w.heap.size + 1, 0, none⟩ = some (.slice S m cS) := U6.c1
            clear LB hg2 hf2 hz5 hz6 U6 U7 o7 oo bb B7 U hall
            go_wp2
            go_roundg (G - 1)
            case measure => exact hgk.out
            case rel => exact HN.out
           ·replace U := (U.next bb).next (w' := w6.alloc (.cells #[.slice none 0 0] 39)) ((Below.refl _ _).alloc (Nat.le_refl _) _)
            have hno : ∀ M, ¬ Short sg a b M := HA4.out.2 hlong
            have cR := U.c2
            have fR := U.f2
            have F1 := hid (uni_no (w := w) hno U.bel)
            have F2 := hid (uni_no (w := w) hno ((U.bel).setCell (p := ⟨w.heap.size + 1 + 1, 0, none⟩) (show w.heap.size ≤ w.heap.size + 1 + 1 by omega) (.slice none 0 0)))
            clear U hno LB bb c1
            go_wp2
            first
             | exact bodyPost_ret (v := .tuple #[.agg #[.slice none 0 0], .bool false]) (by simp [results, Try.results55, go_sem, cR]) rfl F1.out
             | exact bodyPost_ret (v := .tuple #[.agg #[.slice none 0 0], .bool false]) (by simp [results, Try.results55, go_sem, cR]) rfl F2.out
      ·have hyk : k = yn := by omega
       have := unifMath.differ HTX.out HTY.out HPRE.out (by rw [HLX.out]; omega) (by rw [HLY.out]; omega) (.inr (by rw [HLY.out]; exact hyk))
       have h1 := HLX.out
       rw [this, HLY.out] at h1
       omega
     ·have hxk : k = xn := by have := HKG.out; omega
      have he : fillL (givesL ss) a = fillL (givesL ss) b := by
       rw [← HX.out, ← HY.out]
       exact unifMath.differ HTX.out HTY.out HPRE.out (by rw [HLX.out]; omega) (by rw [HLY.out]; omega) (.inl (by rw [HLX.out]; exact hxk))
      have j1 : (xn : Int) ≤ (k : Int) := by omega
      have jj : ((k : Int) == (xn : Int)) = true := by simp [hxk]
      clear sx sy
      go_wp2_with fail
      go_quiet (fail)
      replace U := U.next (drew_below wr nq)
      generalize wr.drewN nq = w9 at *
      have cR := U.c2
      have fR := U.f2
      have c1 := U.c1
      have F : AnsUni w sg a b (.returned (.tuple #[.agg #[.slice S m cS], .bool true])) (w9.setCell ⟨w.heap.size + 1 + 1, 0, none⟩ (.slice S m cS)) :=
       ⟨(U.bel).setCell (p := ⟨w.heap.size + 1 + 1, 0, none⟩) (show w.heap.size ≤ w.heap.size + 1 + 1 by omega) _, .inl ⟨S, m, cS, ss, rfl, (owns_put U.sS U.r2 (Nat.lt_succ_self _) 0 _).wider (by omega) (by simp), HG.out, he, (fit_yes HFA.out).2⟩⟩
      have HF := hid F
      clear F U hxk he
      go_wp2
      exact bodyPost_ret (v := .tuple #[.agg #[.slice S m cS], .bool true]) (by simp [results, Try.results55, go_sem, cR]) rfl HF.out
end unifSpec
end
section
open Go.Lib (hid)
namespace unified
open Go.RowKit base ints sig term termOk endAt sub cursor marks app sym Go.Proofs.Ytobedfmagjgdcaa.look segs segsHelp kinds termFacts fillMath substOk gives shifted filled plainMath plain plainOf compMath rename matchMath unifMath bind unifSpec inside
set_option maxRecDepth 100000
def AnsUB (w : World) (xss : List (List Int)) (b : Bool) (e : Ending) (w' : World) : Prop := ∃ A n c, e = .returned (.tuple #[.agg #[.slice A n c], .bool b]) ∧ Owns w' w.heap.size w'.heap.size A n c xss ∧ Below w.heap.size w w'
theorem ub_off {w w' : World} {sg a b : List Int} {v : Bool} {F : List (List Int)} (hU : IsU sg a b v F) (h : termOkB sg a = false ∨ termOkB sg b = false) (hb : Below w.heap.size w w') : AnsUB w F v (.returned (.tuple #[.agg #[.slice none 0 0], .bool false])) w' := by
 obtain ⟨rfl, rfl⟩ := isU_one hU (isU_off h)
 exact ⟨none, 0, 0, rfl, Owns.nil _ _ _, hb⟩
structure Mr (w wr : World) (A : Option Addr) (n c : Nat) (sg : List Int) (P : Option Addr) (pn : Nat) (p : List Int) (Q : Option Addr) (m : Nat) (t : List Int) : Prop where
 r0 : Row wr w.heap.size 29 #[.slice A n c]
 r1 : Row wr (w.heap.size + 1) 39 #[.slice none 0 0]
 ss : Seg wr wr.heap.size A n sg
 sp : Seg wr wr.heap.size P pn p
 st : Seg wr wr.heap.size Q m t
 b : Below w.heap.size w wr
section
variable {w wr w' : World} {A : Option Addr} {n c : Nat} {sg : List Int} {P : Option Addr} {pn : Nat} {p : List Int} {Q : Option Addr} {m : Nat} {t : List Int}
theorem Mr.start (h : Seg w w.heap.size A n sg) (hp : Seg w w.heap.size P pn p) (ht : Seg w w.heap.size Q m t) : Mr w ((w.alloc (.cells #[.slice A n c] 29)).alloc (.cells #[.slice none 0 0] 39)) A n c sg P pn p Q m t :=
 have b : Below w.heap.size w ((w.alloc (.cells #[.slice A n c] 29)).alloc (.cells #[.slice none 0 0] 39)) := ((Below.refl _ _).alloc (Nat.le_refl _) _).alloc (by simp) _
 ⟨(Row.new w _ _).alloc _, by have := Row.new (w.alloc (.cells #[.slice A n c] 29)) 39 #[.slice none 0 0]; simpa using this, h.next b, hp.next b, ht.next b, b⟩
theorem Mr.next (h : Mr w wr A n c sg P pn p Q m t) (hb : Below wr.heap.size wr w') : Mr w w' A n c sg P pn p Q m t :=
 ⟨h.r0.next hb, h.r1.next hb, h.ss.next hb, h.sp.next hb, h.st.next hb, next_trans h.b hb⟩
end
set_option maxHeartbeats 1000000 in
theorem specUnified (A P Q : Option Addr) (n c pn pc m mc : Nat) (sg p t : List Int) (w : World) (v : Bool) (F : List (List Int)) (hU : IsU sg p t v F) (h : Seg w w.heap.size A n sg) (hp : Seg w w.heap.size P pn p) (ht : Seg w w.heap.size Q m t) (hn : n ≤ 1048576) (hpn : pn ≤ 1048576) (hm : m ≤ 1048576) :
  Calls Try.prog 22 #[.agg #[.slice A n c], .slice P pn pc, .slice Q m mc] w (AnsUB w F v) := by
 obtain ⟨W, hW⟩ : ∃ W, W = (w.alloc (.cells #[.slice A n c] 29)).alloc (.cells #[.slice none 0 0] 39) := ⟨_, rfl⟩
 have M : Mr w W A n c sg P pn p Q m t := by rw [hW]; exact Mr.start h hp ht
 have HW := hid hW
 have L := hid (specTermOk A P n c pn pc sg p W M.ss M.sp hn hpn)
 have c0 : W.cell? ⟨w.heap.size, 0, none⟩ = some (.slice A n c) := M.r0.cell 0
 have c00 : ((w.alloc (.cells #[.slice A n c] 29)).alloc (.cells #[.slice none 0 0] 39)).cell? ⟨w.heap.size, 0, none⟩ = some (.slice A n c) := by rw [← hW]; exact c0
 have HU := hid hU
 clear hU hW h hp ht
 cases hokp : termOkB sg p with
 | false =>
  have HS := hid hokp
  clear hokp
  go_enter Try.func22, Try.ntmps22
  go_wp2_with fail
  rw [← HW.out]
  refine L.out.mono ?_
  rintro e w1 ⟨he, bb⟩
  rw [HS.out] at he
  subst he
  replace M := M.next bb
  have cR : w1.cell? ⟨w.heap.size + 1, 0, none⟩ = some (.slice none 0 0) := M.r1.cell 0
  have fR : w1.frozen? ⟨w.heap.size + 1, 0, none⟩ = false := M.r1.free 0
  have F1 := hid (ub_off (w := w) HU.out (.inl HS.out) M.b)
  have F2 := hid (ub_off (w := w) HU.out (.inl HS.out) ((M.b).setCell (p := ⟨w.heap.size + 1, 0, none⟩) (show w.heap.size ≤ w.heap.size + 1 by omega) (.slice none 0 0)))
  clear M L bb c0 c00
  go_wp2
  first
   | exact bodyPost_ret (v := .tuple #[.agg #[.slice none 0 0], .bool false]) (by simp [results, Try.results22, go_sem, cR]) rfl F1.out
   | exact bodyPost_ret (v := .tuple #[.agg #[.slice none 0 0], .bool false]) (by simp [results, Try.results22, go_sem, cR]) rfl F2.out
 | true =>
  have HSP := hid hokp
  have hp60 : pn ≤ 60 := by have h1 := (termOk_parts hokp).2.1; rw [M.sp.1] at h1; exact h1
  clear hokp
  cases hokt : termOkB sg t with
  | false =>
   have HS := hid hokt
   clear hokt
   go_enter Try.func22, Try.ntmps22
   go_wp2_with fail
   rw [← HW.out]
   refine L.out.mono ?_
   rintro e w1 ⟨he, bb⟩
   rw [HSP.out] at he
   subst he
   replace M := M.next bb
   clear bb L c0 c00
   have c0 : w1.cell? ⟨w.heap.size, 0, none⟩ = some (.slice A n c) := M.r0.cell 0
   go_wp2_with fail
   refine (specTermOk A Q n c m mc sg t _ M.ss M.st hn hm).mono ?_
   rintro e w2 ⟨he, bb⟩
   rw [HS.out] at he
   subst he
   replace M := M.next bb
   have cR : w2.cell? ⟨w.heap.size + 1, 0, none⟩ = some (.slice none 0 0) := M.r1.cell 0
   have fR : w2.frozen? ⟨w.heap.size + 1, 0, none⟩ = false := M.r1.free 0
   have F1 := hid (ub_off (w := w) HU.out (.inr HS.out) M.b)
   have F2 := hid (ub_off (w := w) HU.out (.inr HS.out) ((M.b).setCell (p := ⟨w.heap.size + 1, 0, none⟩) (show w.heap.size ≤ w.heap.size + 1 by omega) (.slice none 0 0)))
   clear M bb c0
   go_wp2
   first
    | exact bodyPost_ret (v := .tuple #[.agg #[.slice none 0 0], .bool false]) (by simp [results, Try.results22, go_sem, cR]) rfl F1.out
    | exact bodyPost_ret (v := .tuple #[.agg #[.slice none 0 0], .bool false]) (by simp [results, Try.results22, go_sem, cR]) rfl F2.out
  | true =>
   have HST := hid hokt
   have hm60 : m ≤ 60 := by have h1 := (termOk_parts hokt).2.1; rw [M.st.1] at h1; exact h1
   clear hokt
   go_enter Try.func22, Try.ntmps22
   go_wp2_with fail
   rw [← HW.out]
   refine L.out.mono ?_
   rintro e w1 ⟨he, bb⟩
   rw [HSP.out] at he
   subst he
   replace M := M.next bb
   clear bb L c0 c00
   have c0 : w1.cell? ⟨w.heap.size, 0, none⟩ = some (.slice A n c) := M.r0.cell 0
   go_wp2_with fail
   refine (specTermOk A Q n c m mc sg t _ M.ss M.st hn hm).mono ?_
   rintro e w2 ⟨he, bb⟩
   rw [HST.out] at he
   subst he
   replace M := M.next bb
   clear bb c0
   have c0 : w2.cell? ⟨w.heap.size, 0, none⟩ = some (.slice A n c) := M.r0.cell 0
   go_wp2_with fail
   refine (l5Unify A P Q n c pn pc m mc sg p t _ M.ss M.sp M.st hn hp60 hm60 HSP.out HST.out).mono ?_
   rintro e w3 ⟨bb, ⟨S, sm, cS, ss, rfl, os, hg, he, hl⟩ | ⟨rfl, hno⟩⟩
   ·obtain ⟨hv, hF⟩ := isU_one HU.out (isU_mg HSP.out HST.out (hg.part.done he) hg.g60 hl)
    have hsm : ss.length = sm := os.len
    have HF := hid (show plainL (givesL ss) sm = F by rw [hF]; exact (plain_24 (by rw [← hsm]; exact hg.len) (fun i hi => gives_out (by rw [hsm]; omega))).symm)
    have htot := hg.tot
    have B4 : Below w3.heap.size w3 (w3.alloc (.cells #[.slice S sm cS] 39)) := (Below.refl _ _).alloc (Nat.le_refl _) _
    have M4 := (M.next bb).next B4
    have LP := hid (l2Plain S sm cS ss (w3.alloc (.cells #[.slice S sm cS] 39)) (os.segs.next B4) htot)
    subst hv
    have z4 := M4.b.size
    have z5 := M4.r1.lt
    clear M bb os hg he hl hF hsm htot B4 c0
    go_wp2_with fail
    refine LP.out.mono ?_
    rintro e w5 ⟨D, dn, dc, rfl, od, bb⟩
    rw [HF.out] at od
    have M5 := M4.next bb
    have cR : w5.cell? ⟨w.heap.size + 1, 0, none⟩ = some (.slice none 0 0) := M5.r1.cell 0
    have fR : w5.frozen? ⟨w.heap.size + 1, 0, none⟩ = false := M5.r1.free 0
    have G : AnsUB w F true (.returned (.tuple #[.agg #[.slice D dn dc], .bool true])) (w5.setCell ⟨w.heap.size + 1, 0, none⟩ (.slice D dn dc)) := by
     have hbt : Btw (w.heap.size + 1) (w.heap.size + 2) w5 (w5.setCell ⟨w.heap.size + 1, 0, none⟩ (.slice D dn dc)) := Btw.of_grown (grown_put (World.grownBy.refl _ _) _ _) (fun k hk => by injection hk; omega)
     have o2 := od.btw hbt (.inr (by simp at z5 ⊢; omega))
     exact ⟨D, dn, dc, rfl, o2.wider (by simp at z4 ⊢; omega) (by simp), (M5.b).setCell (p := ⟨w.heap.size + 1, 0, none⟩) (show w.heap.size ≤ w.heap.size + 1 by omega) _⟩
    have HG := hid G
    clear G od bb M4 M5 LP
    go_wp2
    exact bodyPost_ret (v := .tuple #[.agg #[.slice D dn dc], .bool true]) (by simp [results, Try.results22, go_sem, cR]) rfl HG.out
   ·obtain ⟨hv, hF⟩ := isU_one HU.out (isU_no (a := p) (b := t) hno)
    subst hv
    subst hF
    have M3 := (M.next bb).next (w' := w3.alloc (.cells #[.slice none 0 0] 39)) ((Below.refl _ _).alloc (Nat.le_refl _) _)
    have cR : (w3.alloc (.cells #[.slice none 0 0] 39)).cell? ⟨w.heap.size + 1, 0, none⟩ = some (.slice none 0 0) := M3.r1.cell 0
    have fR : (w3.alloc (.cells #[.slice none 0 0] 39)).frozen? ⟨w.heap.size + 1, 0, none⟩ = false := M3.r1.free 0
    have F1 := hid (show AnsUB w [] false (.returned (.tuple #[.agg #[.slice none 0 0], .bool false])) _ from ⟨none, 0, 0, rfl, Owns.nil _ _ _, M3.b⟩)
    have F2 := hid (show AnsUB w [] false (.returned (.tuple #[.agg #[.slice none 0 0], .bool false])) ((w3.alloc (.cells #[.slice none 0 0] 39)).setCell ⟨w.heap.size + 1, 0, none⟩ (.slice none 0 0)) from ⟨none, 0, 0, rfl, Owns.nil _ _ _, (M3.b).setCell (p := ⟨w.heap.size + 1, 0, none⟩) (show w.heap.size ≤ w.heap.size + 1 by omega) _⟩)
    clear M M3 bb hno c0
    go_wp2
    first
     | exact bodyPost_ret (v := .tuple #[.agg #[.slice none 0 0], .bool false]) (by simp [results, Try.results22, go_sem, cR]) rfl F1.out
     | exact bodyPost_ret (v := .tuple #[.agg #[.slice none 0 0], .bool false]) (by simp [results, Try.results22, go_sem, cR]) rfl F2.out
end unified
end
section
open Go.Lib (hid)
namespace unifImpl
open Go.RowKit base ints sig term termOk endAt cursor marks segs segsHelp kinds fillMath Go.Proofs.Ytobedfmagjgdcaa.look plainMath plain unifMath unifDom thn unifRep unifStep unifRun unified inside
set_option maxRecDepth 100000
theorem catch_panicking (u : TypeId) (pv : Value) (older : List PanicEntry) (w : World) :
  CallsD Try.prog 58 #[] (.panicking ({ v := .iface u pv, recovered := false } :: older)) w fun e u' w' =>
   e = .returned (.tuple #[]) ∧ u' = .panicking ({ v := .iface u pv, recovered := true } :: older) ∧ w' = w := by
 refine callsD_of_wpS Try.func58 rfl fun c₀ cs hu => ?_
 apply wpS_region
 simp [wpOpsS, go_sem, recoverD, hu, Try.ntmps58, Exit.thenS, bodyPostS, results, Try.results58]
theorem catch_idle (w : World) :
  CallsD Try.prog 58 #[] .returning w fun e u' w' => e = .returned (.tuple #[]) ∧ u' = .returning ∧ w' = w := by
 refine callsD_of_wpS Try.func58 rfl fun c₀ cs hu => ?_
 apply wpS_region
 cases c₀
 simp_all [wpOpsS, go_sem, recoverD, Try.ntmps58, Exit.thenS, bodyPostS, results, Try.results58]
set_option maxHeartbeats 2000000 in
theorem implUnified (A P Q : Option Addr) (n c pn pc m mc : Nat) (sg p t : List Int) (w : World) (v : Bool) (F : List (List Int)) (hU : IsU sg p t v F) (h : Seg w w.heap.size A n sg) (hp : Seg w w.heap.size P pn p) (ht : Seg w w.heap.size Q m t) (hn : n ≤ 1048576) (hpn : pn ≤ 1048576) (hm : m ≤ 1048576) (kp : Cap P pn pc) (kq : Cap Q m mc) :
  Calls Try.prog 24 #[.agg #[.slice A n c], .slice P pn pc, .slice Q m mc] w (AnsUB w F v) := by
 obtain ⟨W, hW⟩ : ∃ W, W = (w.alloc (.cells #[.slice A n c] 29)).alloc (.cells #[.slice none 0 0] 39) := ⟨_, rfl⟩
 have M : Mr w W A n c sg P pn p Q m t := by rw [hW]; exact Mr.start h hp ht
 have HW := hid hW
 have L := hid (implTermOk A P n c pn pc sg p W M.ss M.sp hn hpn)
 have c0 : W.cell? ⟨w.heap.size, 0, none⟩ = some (.slice A n c) := M.r0.cell 0
 have c00 : ((w.alloc (.cells #[.slice A n c] 29)).alloc (.cells #[.slice none 0 0] 39)).cell? ⟨w.heap.size, 0, none⟩ = some (.slice A n c) := by rw [← hW]; exact c0
 have HU := hid hU
 have hmf : ∀ (fn : Fn) (first cap : Array Value) (w : World), (Instr.makeFunc fn first cap).run Try.prog w = .ok (.func fn first cap) w := fun _ _ _ _ => rfl
 clear hU hW h hp ht
 cases hokp : termOkB sg p with
 | false =>
  have HS := hid hokp
  clear hokp
  go_enter_defers Try.func24, Try.ntmps24
  go_wp2_with fail
  rw [← HW.out]
  refine L.out.mono ?_
  rintro e w1 ⟨he, bb⟩
  rw [HS.out] at he
  subst he
  replace M := M.next bb
  have cR : w1.cell? ⟨w.heap.size + 1, 0, none⟩ = some (.slice none 0 0) := M.r1.cell 0
  have fR : w1.frozen? ⟨w.heap.size + 1, 0, none⟩ = false := M.r1.free 0
  have F1 := hid (ub_off (w := w) HU.out (.inl HS.out) M.b)
  have F2 := hid (ub_off (w := w) HU.out (.inl HS.out) ((M.b).setCell (p := ⟨w.heap.size + 1, 0, none⟩) (show w.heap.size ≤ w.heap.size + 1 by omega) (.slice none 0 0)))
  clear M L bb c0 c00
  go_wp2
  first
   | exact ⟨.tuple #[.agg #[.slice none 0 0], .bool false], by simp [results, Try.results24, go_sem, cR], F1.out⟩
   | exact ⟨.tuple #[.agg #[.slice none 0 0], .bool false], by simp [results, Try.results24, go_sem, cR], F2.out⟩
 | true =>
  have HSP := hid hokp
  have hp60 : pn ≤ 60 := by have h1 := (termOk_parts hokp).2.1; rw [M.sp.1] at h1; exact h1
  clear hokp
  cases hokt : termOkB sg t with
  | false =>
   have HS := hid hokt
   clear hokt
   go_enter_defers Try.func24, Try.ntmps24
   go_wp2_with fail
   rw [← HW.out]
   refine L.out.mono ?_
   rintro e w1 ⟨he, bb⟩
   rw [HSP.out] at he
   subst he
   replace M := M.next bb
   clear bb L c0 c00
   have c0 : w1.cell? ⟨w.heap.size, 0, none⟩ = some (.slice A n c) := M.r0.cell 0
   go_wp2_with fail
   refine (implTermOk A Q n c m mc sg t _ M.ss M.st hn hm).mono ?_
   rintro e w2 ⟨he, bb⟩
   rw [HS.out] at he
   subst he
   replace M := M.next bb
   have cR : w2.cell? ⟨w.heap.size + 1, 0, none⟩ = some (.slice none 0 0) := M.r1.cell 0
   have fR : w2.frozen? ⟨w.heap.size + 1, 0, none⟩ = false := M.r1.free 0
   have F1 := hid (ub_off (w := w) HU.out (.inr HS.out) M.b)
   have F2 := hid (ub_off (w := w) HU.out (.inr HS.out) ((M.b).setCell (p := ⟨w.heap.size + 1, 0, none⟩) (show w.heap.size ≤ w.heap.size + 1 by omega) (.slice none 0 0)))
   clear M bb c0
   go_wp2
   first
    | exact ⟨.tuple #[.agg #[.slice none 0 0], .bool false], by simp [results, Try.results24, go_sem, cR], F1.out⟩
    | exact ⟨.tuple #[.agg #[.slice none 0 0], .bool false], by simp [results, Try.results24, go_sem, cR], F2.out⟩
  | true =>
   have HST := hid hokt
   have hm60 : m ≤ 60 := by have h1 := (termOk_parts hokt).2.1; rw [M.st.1] at h1; exact h1
   clear hokt
   go_enter_defers Try.func24, Try.ntmps24
   go_wp2_with fail
   rw [← HW.out]
   refine L.out.mono ?_
   rintro e w1 ⟨he, bb⟩
   rw [HSP.out] at he
   subst he
   replace M := M.next bb
   clear bb L c0 c00
   have c0 : w1.cell? ⟨w.heap.size, 0, none⟩ = some (.slice A n c) := M.r0.cell 0
   go_wp2_with fail
   refine (implTermOk A Q n c m mc sg t _ M.ss M.st hn hm).mono ?_
   rintro e w2 ⟨he, bb⟩
   rw [HST.out] at he
   subst he
   replace M := M.next bb
   clear bb c0
   have c0 : w2.cell? ⟨w.heap.size, 0, none⟩ = some (.slice A n c) := M.r0.cell 0
   obtain ⟨W3, hW3⟩ : ∃ W3, W3 = w2.alloc (.cells #[.slice A n c, .slice P pn pc, .slice Q m mc, .func (.func 59) #[] #[]] 67) := ⟨_, rfl⟩
   have b3 : Below w2.heap.size w2 W3 := by rw [hW3]; exact (Below.refl _ _).alloc (Nat.le_refl _) _
   have r3 : Row W3 w2.heap.size 67 #[.slice A n c, .slice P pn pc, .slice Q m mc, .func (.func 59) #[] #[]] := by rw [hW3]; exact Row.new _ _ _
   have M3 := M.next b3
   have LR := hid (run w2.heap.size A P Q n c pn pc m mc _ _ sg p t p t vt W3 ⟨r3, M3.ss, M3.sp, M3.st, kp, kq, enters_of Try.func59 (by kernel_rfl) rfl, lookVar _ _⟩ (Wy.start HSP.out HST.out) hn)
   have HW3 := hid hW3
   have hz : w.heap.size + 1 < w2.heap.size := M.r1.lt
   have HM3 := hid M3
   clear M b3 r3 M3 hW3
   go_wp2_with fail
   rw [← HW3.out]
   refine LR.out.mono ?_
   rintro e w4 ⟨hg, ⟨x, L', P', pn', pc', Q', qn', qc', gl', lb', rfl, U, WW⟩ | ⟨hno, u, pv, rfl⟩⟩
   ·have hs3 : W3.heap.size = w2.heap.size + 1 := by rw [HW3.out]; simp
    have b4 : Below w.heap.size w w4 := HM3.out.b.grown hg (by omega) (fun k hk => by injection hk; omega)
    have r4 := Row.away HM3.out.r1 hg (fun e => by injection e; omega)
    have c3 := U.c3
    have LP := hid (plain gl' lb' U.eg L' w4 U.lk.looks (fun i => WW.part.sub.pos i) (fun i => Nat.le_trans (WW.each i) (by omega)))
    obtain ⟨hv, hF⟩ := isU_one HU.out (WW.done rfl)
    subst hv
    subst hF
    have HB4 := hid b4
    have HR4 := hid r4
    clear U WW hg LR HM3 HU b4 r4 c0
    go_wp2_with fail
    refine LP.out.mono ?_
    rintro e w5 ⟨O, on, oc, rfl, ho, b5⟩
    have r5 := HR4.out.next b5
    have cR : w5.cell? ⟨w.heap.size + 1, 0, none⟩ = some (.slice none 0 0) := r5.cell 0
    have fR : w5.frozen? ⟨w.heap.size + 1, 0, none⟩ = false := r5.free 0
    have hs4 := HR4.out.lt
    have B5 := next_trans HB4.out b5
    have F := hid (show AnsUB w (plainL L' 24) true (.returned (.tuple #[.agg #[.slice O on oc], .bool true])) (w5.setCell ⟨w.heap.size + 1, 0, none⟩ (.slice O on oc)) from
     ⟨O, on, oc, rfl, (owns_put ho r5 hs4 0 _).wider (by have := HB4.out.size; omega) (by simp), B5.setCell (p := ⟨w.heap.size + 1, 0, none⟩) (show w.heap.size ≤ w.heap.size + 1 by omega) _⟩)
    clear LP ho b5 r5 HB4 HR4 B5 hs4
    go_wp2
    refine leaves_cons (f := 58) (args := #[]) (by simp) (by simp [go_sem]) ?_
    refine (catch_idle _).mono ?_
    rintro e u' w'' ⟨rfl, rfl, rfl⟩
    exact ⟨.tuple #[.agg #[.slice O on oc], .bool true], by simp [results, Try.results24, go_sem, cR], F.out⟩
   ·have hs3 : W3.heap.size = w2.heap.size + 1 := by rw [HW3.out]; simp
    have b4 : Below w.heap.size w w4 := HM3.out.b.grown hg (by omega) (fun k hk => by injection hk; omega)
    have r4 := Row.away HM3.out.r1 hg (fun e => by injection e; omega)
    have cR : w4.cell? ⟨w.heap.size + 1, 0, none⟩ = some (.slice none 0 0) := r4.cell 0
    obtain ⟨hv, hF⟩ := isU_one HU.out (isU_no hno)
    subst hv
    subst hF
    have F := hid (show AnsUB w [] false (.returned (.tuple #[.agg #[.slice none 0 0], .bool false])) w4 from ⟨none, 0, 0, rfl, Owns.nil _ _ _, b4⟩)
    refine leaves_cons (f := 58) (args := #[]) (by simp) (by simp [go_sem]) ?_
    refine (catch_panicking u pv [] w4).mono ?_
    rintro e u' w'' ⟨rfl, rfl, rfl⟩
    exact ⟨.tuple #[.agg #[.slice none 0 0], .bool false], by simp [results, Try.results24, go_sem, cR], F.out⟩
set_option maxHeartbeats 1000000 in
theorem implUnifiesIn (A P Q : Option Addr) (n c pn pc m mc : Nat) (sg p t : List Int) (w : World) (v : Bool) (F : List (List Int)) (hU : IsU sg p t v F) (h : Seg w w.heap.size A n sg) (hp : Seg w w.heap.size P pn p) (ht : Seg w w.heap.size Q m t) (hn : n ≤ 1048576) (hpn : pn ≤ 1048576) (hm : m ≤ 1048576) (kp : Cap P pn pc) (kq : Cap Q m mc) :
  Calls Try.prog 29 #[.agg #[.slice A n c], .slice P pn pc, .slice Q m mc] w (Tells w v) := by
 obtain ⟨W, hW⟩ : ∃ W, W = w.alloc (.cells #[.slice A n c] 29) := ⟨_, rfl⟩
 have bW : Below w.heap.size w W := by rw [hW]; exact (Below.refl _ _).alloc (Nat.le_refl _) _
 have HW := hid hW
 have L := hid (implUnified A P Q n c pn pc m mc sg p t W v F hU (h.next bW) (hp.next bW) (ht.next bW) hn hpn hm kp kq)
 clear hU hW h hp ht
 go_enter Try.func29, Try.ntmps29
 go_wp2_with fail
 rw [← HW.out]
 refine L.out.mono ?_
 rintro e w1 ⟨D, dn, dc, rfl, od, bb⟩
 have F := hid (fun o => (show Tells w v (.returned (.bool v)) (w1.alloc o) from ⟨rfl, (next_trans bW bb).alloc (next_trans bW bb).size _⟩))
 have F0 := hid (show Tells w v (.returned (.bool v)) w1 from ⟨rfl, next_trans bW bb⟩)
 clear od bb L bW
 go_wp2
 go_ret
 first
  | exact F0.out
  | exact F.out _
end unifImpl
end
section
namespace genMath
open sig term termOk termFacts endAt sub termMath fillMath posMath renMath matchMath unifMath
abbrev Tb := List (List Int × List Int)
section
variable {sg : List Int} {T T' : Tb} {n : Nat} {u w g : List Int}
end
def f1 (T : Tb) (i : Nat) : List Int := (T.getD i ([], [])).1
def f2 (T : Tb) (i : Nat) : List Int := (T.getD i ([], [])).2
end genMath
end
section
open Go.Lib (hid)
open List (setIfInBounds_toArray set_cons_zero set_cons_succ getElem_toArray getElem_cons_zero getElem_cons_succ)
namespace sameSubst
open Go.RowKit base ints sig same marks sym segs segsHelp kinds varsOf fillMath Go.Proofs.Ytobedfmagjgdcaa.look substOk gives
set_option maxRecDepth 100000
def sameG (a b : List (List Int)) : Bool := (List.range 24).all fun i => decide (givesL a i = givesL b i)
def sameB (sg : List Int) (a b : List (List Int)) : Bool := substOkB sg a && (substOkB sg b && sameG a b)
theorem sameG_yes {a b : List (List Int)} (h : ∀ i, i < 24 → givesL a i = givesL b i) : sameG a b = true := by
 unfold sameG
 rw [List.all_eq_true]
 intro i hi
 exact decide_eq_true (h i (List.mem_range.1 hi))
theorem sameG_no {a b : List (List Int)} {i : Nat} (hi : i < 24) (h : givesL a i ≠ givesL b i) : sameG a b = false := by
 cases e : sameG a b with
 | false => rfl
 | true =>
  unfold sameG at e
  rw [List.all_eq_true] at e
  exact absurd (of_decide_eq_true (e i (List.mem_range.2 hi))) h
theorem same_a {sg : List Int} {a b : List (List Int)} (h : substOkB sg a = false) : sameB sg a b = false := by unfold sameB; rw [h, Bool.false_and]
theorem same_b {sg : List Int} {a b : List (List Int)} (h : substOkB sg b = false) : sameB sg a b = false := by unfold sameB; rw [h, Bool.false_and, Bool.and_false]
theorem same_ab {sg : List Int} {a b : List (List Int)} (h : substOkB sg a = true) (h' : substOkB sg b = true) : sameB sg a b = sameG a b := by unfold sameB; rw [h, h', Bool.true_and, Bool.true_and]
theorem boxesSS (w : World) (A : Option Addr) (n c : Nat) (S : Option Addr) (m c' : Nat) (T : Option Addr) (q cq : Nat) : ∃ W, W = ((w.alloc (.cells #[.slice A n c] 29)).alloc (.cells #[.slice S m c'] 39)).alloc (.cells #[.slice T q cq] 39) ∧
  Row W w.heap.size 29 #[.slice A n c] ∧ Row W (w.heap.size + 1) 39 #[.slice S m c'] ∧ Row W (w.heap.size + 2) 39 #[.slice T q cq] ∧ Below w.heap.size w W := by
 obtain ⟨W, hW, r1, r2, b⟩ := boxes2 w A n c S m c'
 have hz : W.heap.size = w.heap.size + 2 := by rw [hW]; simp
 refine ⟨_, rfl, ?_, ?_, ?_, ?_⟩
 ·rw [← hW]; exact r1.alloc _
 ·rw [← hW]; exact r2.alloc _
 ·rw [← hW, ← hz]; exact Row.new _ _ _
 ·rw [← hW]; exact b.alloc b.size _
theorem gives_each {ss : List (List Int)} (h : ∀ j, (ss.getD j []).length ≤ 1048576) (i : Nat) : (givesL ss i).length ≤ 1048576 := by
 unfold givesL
 split
 ·simp [vt]
 ·exact h i
theorem lookupB (S : Option Addr) (m c : Nat) (w : World) :
  Calls Try.prog 78 #[.agg #[.slice S m c]] w fun e w' => e = .returned (.func (.func 111) #[] #[.pointer (some ⟨w.heap.size, 0, none⟩)]) ∧ Row w' w.heap.size 39 #[.slice S m c] ∧ Below w.heap.size w w' :=
 (lookupIn S m c w).mono fun _ _ ⟨he, hw⟩ => ⟨he, by rw [hw]; exact Row.new _ _ _, by rw [hw]; exact (Below.refl _ _).alloc (Nat.le_refl _) _⟩
def HeadSS (w : World) (b1 b2 : Nat) (S : Option Addr) (m c : Nat) (T : Option Addr) (q cq : Nat) (xa xb : List (List Int)) (i : Value) (wr : World) : Prop :=
 ∃ k : Nat, k ≤ 24 ∧ i = .int .i64 k ∧ (∀ j, j < k → givesL xa j = givesL xb j) ∧ Row wr b1 39 #[.slice S m c] ∧ Row wr b2 39 #[.slice T q cq] ∧ Below w.heap.size w wr
theorem headSS_step {w wr w2 : World} {b1 b2 m c q cq k : Nat} {S T : Option Addr} {xa xb : List (List Int)} (hk : k < 24) (h : ∀ j, j < k → givesL xa j = givesL xb j) (he : givesL xa k = givesL xb k)
  (r1 : Row wr b1 39 #[.slice S m c]) (r2 : Row wr b2 39 #[.slice T q cq]) (hb : Below w.heap.size w wr) (bb : Below wr.heap.size wr w2) : HeadSS w b1 b2 S m c T q cq xa xb (.int .i64 ((k : Int) + 1)) w2 :=
 ⟨k + 1, hk, by simp, fun j hj => by
  by_cases e : j = k
  ·rw [e]; exact he
  ·exact h j (by omega), r1.next bb, r2.next bb, next_trans hb bb⟩
set_option maxHeartbeats 8000000 in
theorem specSameSubst (A S T : Option Addr) (n c m c' q cq : Nat) (sg : List Int) (xa xb : List (List Int)) (w : World) (h : Seg w w.heap.size A n sg) (h' : Segs w w.heap.size S m xa) (h2 : Segs w w.heap.size T q xb) (hn : n ≤ 1048576) (ht : tot xa ≤ 1048576) (ht2 : tot xb ≤ 1048576) :
  Calls Try.prog 36 #[.agg #[.slice A n c], .agg #[.slice S m c'], .agg #[.slice T q cq]] w (AnsB w (sameB sg xa xb)) := by
 obtain ⟨W, hW, rA, rS, rT, bel⟩ := boxesSS w A n c S m c' T q cq
 have HW := hid hW
 have hm : m ≤ 1048576 := tot_len h'.1 ht
 have hq : q ≤ 1048576 := tot_len h2.1 ht2
 have HE1 := hid (tot_each ht)
 have HE2 := hid (tot_each ht2)
 have HT1 := hid ht
 have HT2 := hid ht2
 have s := h.next bel
 have s1 := h'.next bel
 have s2 := h2.next bel
 have L := hid (specSubstOk A S n c m c' sg xa W s s1 hn ht)
 clear hW ht ht2
 cases hok : substOkB sg xa with
 | false =>
  have HS := hid hok
  clear hok s s1 s2 h h' h2
  go_enter Try.func36, Try.ntmps36
  go_wp2_with fail
  rw [← HW.out]
  refine L.out.mono ?_
  rintro e w1 ⟨he, bb⟩
  rw [HS.out] at he
  subst he
  have F := hid (ansB (b := sameB sg xa xb) (a := false) (by rw [same_a HS.out]) (next_trans bel bb))
  clear bb bel rA rS rT
  go_wp2
  go_ret
  exact F.out
 | true =>
  have HS := hid hok
  clear hok
  go_enter Try.func36, Try.ntmps36
  go_wp2_with fail
  rw [← HW.out]
  refine L.out.mono ?_
  rintro e w1 ⟨he, bb⟩
  rw [HS.out] at he
  subst he
  replace s := s.next bb
  replace s1 := s1.next bb
  replace s2 := s2.next bb
  replace rA := rA.next bb
  replace rS := rS.next bb
  replace rT := rT.next bb
  replace bel := next_trans bel bb
  have cA : w1.cell? ⟨w.heap.size, 0, none⟩ = some (.slice A n c) := rA.cell 0
  have cT : w1.cell? ⟨w.heap.size + 2, 0, none⟩ = some (.slice T q cq) := rT.cell 0
  have L2 := hid (specSubstOk A T n c q cq sg xb w1 s s2 hn HT2.out)
  clear bb L
  cases hok2 : substOkB sg xb with
  | false =>
   have HS2 := hid hok2
   clear hok2 s s1 s2 h h' h2
   go_wp2_with fail
   refine L2.out.mono ?_
   rintro e w2 ⟨he, bb⟩
   rw [HS2.out] at he
   subst he
   have F := hid (ansB (b := sameB sg xa xb) (a := false) (by rw [same_b HS2.out]) (next_trans bel bb))
   clear bb bel rA rS rT cA cT L2
   go_wp2
   go_ret
   exact F.out
  | true =>
   have HS2 := hid hok2
   clear hok2
   go_wp2_with fail
   refine L2.out.mono ?_
   rintro e w2 ⟨he, bb⟩
   rw [HS2.out] at he
   subst he
   replace s1 := s1.next bb
   replace s2 := s2.next bb
   replace rS := rS.next bb
   replace rT := rT.next bb
   replace bel := next_trans bel bb
   clear bb L2 cA cT rA s
   have H0 : HeadSS w (w.heap.size + 1) (w.heap.size + 2) S m c' T q cq xa xb (.int .i64 0) w2 := ⟨0, Nat.zero_le _, rfl, fun j hj => absurd hj (Nat.not_lt_zero _), rS, rT, bel⟩
   have HH := hid H0
   clear H0 s1 s2 rS rT bel
   go_wp2_with fail
   go_loopw [7] (fun i wr => HeadSS w (w.heap.size + 1) (w.heap.size + 2) S m c' T q cq xa xb i wr) (fun i _ => 24 - (intOf i).toNat)
   case atStart => exact HH.out
   case round =>
    obtain ⟨k, hk, rfl, hlow, r1, r2, hb⟩ := hrel
    clear HH
    have HLOW := hid hlow
    clear hlow
    by_cases hlt : k < 24
    ·have i0 : (0 : Int) ≤ (k : Int) := by omega
     have cS : wr.cell? ⟨w.heap.size + 1, 0, none⟩ = some (.slice S m c') := r1.cell 0
     have cT : wr.cell? ⟨w.heap.size + 2, 0, none⟩ = some (.slice T q cq) := r2.cell 0
     have LG := hid (l2Gives S m c' xa k wr.drew (((h'.below hb).more hb.size).drew) HT1.out (by omega))
     have t2 := (((h2.below hb).more hb.size).drew)
     have rd1 := r1.drew
     have rd2 := r2.drew
     have hya : (givesL xa k).length ≤ 1048576 := gives_each HE1.out k
     have hyb : (givesL xb k).length ≤ 1048576 := gives_each HE2.out k
     obtain ⟨ya, hya2⟩ : ∃ ya, givesL xa k = ya := ⟨_, rfl⟩
     rw [hya2] at LG hya
     have HYA := hid hya2
     clear hya2 h h' h2
     obtain ⟨z, hz⟩ : ∃ z, decide (ya = givesL xb k) = z := ⟨_, rfl⟩
     have HZ := hid hz
     clear hz
     go_wp2_with fail
     refine wp_region_held_drew (S := (fun w' => w'.cell? ⟨w.heap.size + 1, 0, none⟩ = some (.slice S m c') ∧ w'.cell? ⟨w.heap.size + 2, 0, none⟩ = some (.slice T q cq))) (by kernel_rfl) ⟨cS, cT⟩ (fun hHeld => ?_)
     refine wpAnyH_take (i := 0) (v := ?_) rfl (by kernel_rfl) (by kernel_rfl) (by kernel_rfl) (fun _ _ _ h => h) (Or.inl ⟨by rfl, ?_⟩) (by assumption) ?_
     rotate_left 1
     ·(intro w0 hSw; (try dsimp only at hSw); go_simp; try with_reducible rfl)
     try simp only [Act.put, setIfInBounds_toArray, set_cons_zero, set_cons_succ, getElem_toArray, getElem_cons_zero, getElem_cons_succ]
     refine wpAnyH_take (i := 1) (v := ?_) rfl (by kernel_rfl) (by kernel_rfl) (by kernel_rfl) (fun _ _ _ h => h) (Or.inl ⟨by rfl, ?_⟩) (by assumption) ?_
     rotate_left 1
     ·(intro w0 hSw; (try dsimp only at hSw); go_simp; try with_reducible rfl)
     try simp only [Act.put, setIfInBounds_toArray, set_cons_zero, set_cons_succ, getElem_toArray, getElem_cons_zero, getElem_cons_succ]
     refine wpAnyH_take (i := 3) (v := ?_) rfl (by kernel_rfl) (by kernel_rfl) (by kernel_rfl) (fun _ _ _ h => h) (Or.inl ⟨by rfl, ?_⟩) (by assumption) ?_
     rotate_left 1
     ·(intro w0 hSw; (try dsimp only at hSw); go_simp; try with_reducible rfl)
     try simp only [Act.put, setIfInBounds_toArray, set_cons_zero, set_cons_succ, getElem_toArray, getElem_cons_zero, getElem_cons_succ]
     refine wpAnyH_take (i := 4) (v := ?_) rfl (by kernel_rfl) (by kernel_rfl) (by kernel_rfl) (fun _ _ _ h => h) (Or.inl ⟨by rfl, ?_⟩) (by assumption) ?_
     rotate_left 1
     ·(intro w0 hSw; (try dsimp only at hSw); go_simp; try with_reducible rfl)
     try simp only [Act.put, setIfInBounds_toArray, set_cons_zero, set_cons_succ, getElem_toArray, getElem_cons_zero, getElem_cons_succ]
     refine wpAnyH_ready (rs := [2]) (by kernel_rfl) (by simp) (AllReadyH.cons rfl (fun K hK => ?_) AllReadyH.nil)
     go_simp
     refine LG.out.mono ?_; rintro e w3 ⟨X, xn, xc, rfl, oa, b1⟩; have u1 := rd1.next b1; have u2 := rd2.next b1; have x1 : w3.cell? ⟨w.heap.size + 1, 0, none⟩ = some (.slice S m c') := u1.cell 0; have x2 : w3.cell? ⟨w.heap.size + 2, 0, none⟩ = some (.slice T q cq) := u2.cell 0; go_wp2_with fail
     refine hK.out _ _ ?_ (fun hHeld => ?_)
     ·first | assumption | (dsimp only; assumption) | exact ⟨by assumption, by assumption⟩
     clear hK K
     try simp only [Act.put, setIfInBounds_toArray, set_cons_zero, set_cons_succ, getElem_toArray, getElem_cons_zero, getElem_cons_succ]
     refine wpAnyH_ready (rs := [5]) (by kernel_rfl) (by simp) (AllReadyH.cons rfl (fun K hK => ?_) AllReadyH.nil)
     go_simp
     refine (l2Gives T q cq xb k w3 (t2.next b1) HT2.out (by omega)).mono ?_; rintro e w4 ⟨Y, yn, yc, rfl, ob, b2⟩; have oa2 := oa.next b2; have v1 := u1.next b2; have v2 := u2.next b2; have x1 : w4.cell? ⟨w.heap.size + 1, 0, none⟩ = some (.slice S m c') := v1.cell 0; have x2 : w4.cell? ⟨w.heap.size + 2, 0, none⟩ = some (.slice T q cq) := v2.cell 0; go_wp2_with fail
     refine hK.out _ _ ?_ (fun hHeld => ?_)
     ·first | assumption | (dsimp only; assumption) | exact ⟨by assumption, by assumption⟩
     clear hK K
     try simp only [Act.put, setIfInBounds_toArray, set_cons_zero, set_cons_succ, getElem_toArray, getElem_cons_zero, getElem_cons_succ]
     refine wpAnyH_ready (rs := [6]) (by kernel_rfl) (by simp) (AllReadyH.cons rfl (fun K hK => ?_) AllReadyH.nil)
     go_simp
     refine (specSame X Y xn yn xc yc ya (givesL xb k) w4 (Own.seg oa2) (Own.seg ob) (by rw [Own.len oa]; exact hya) (by rw [Own.len ob]; exact hyb)).mono ?_; rintro e w5 ⟨he, d, rfl⟩; rw [HZ.out] at he; subst he; have x1 : (w4.drewN d).cell? ⟨w.heap.size + 1, 0, none⟩ = some (.slice S m c') := (v1.drewN d).cell 0; have x2 : (w4.drewN d).cell? ⟨w.heap.size + 2, 0, none⟩ = some (.slice T q cq) := (v2.drewN d).cell 0; go_wp2_with fail
     refine hK.out _ _ ?_ (fun hHeld => ?_)
     ·first | assumption | (dsimp only; assumption) | exact ⟨by assumption, by assumption⟩
     clear hK K
     try simp only [Act.put, setIfInBounds_toArray, set_cons_zero, set_cons_succ, getElem_toArray, getElem_cons_zero, getElem_cons_succ]
     refine wpAnyH_take (i := 7) (v := ?_) rfl (by kernel_rfl) (by kernel_rfl) (by kernel_rfl) (fun _ _ _ h => h) (Or.inl ⟨by rfl, ?_⟩) (by assumption) ?_
     rotate_left 1
     ·(intro w0 hSw; (try dsimp only at hSw); go_simp; try with_reducible rfl)
     try simp only [Act.put, setIfInBounds_toArray, set_cons_zero, set_cons_succ, getElem_toArray, getElem_cons_zero, getElem_cons_succ]
     refine wpAnyH_done (by kernel_rfl) ?_ _
     have HB : Hid (Below wr.heap.size wr (w4.drewN d)) := hid (next_trans (drew_below wr) (next_trans b1 (next_trans b2 (drewN_below _ d))))
     clear b1 b2 oa oa2 ob u1 u2 v1 v2 x1 x2 cS cT rd1 rd2 t2 LG
     cases z with
     | true =>
      have S1 := hid (headSS_step (xa := xa) (xb := xb) hlt HLOW.out (HYA.out.trans (of_decide_eq_true HZ.out)) r1 r2 hb HB.out)
      clear r1 r2 hb
      go_wp2
      go_roundw
      case rel => exact S1.out
      case measure => simp [intOf]; omega
     | false =>
      have F := hid (ansB (b := sameB sg xa xb) (a := false) (by rw [same_ab HS.out HS2.out, sameG_no hlt (by rw [HYA.out]; exact of_decide_eq_false HZ.out)]) (next_trans hb HB.out))
      clear r1 r2 hb
      go_wp2
      go_ret
      exact F.out
    ·have F := hid (ansB (b := sameB sg xa xb) (a := true) (by rw [same_ab HS.out HS2.out, sameG_yes (fun i hi => HLOW.out i (by omega))]) hb)
     clear r1 r2 hb h h' h2
     go_wp2
     go_ret
     exact F.out
set_option maxHeartbeats 8000000 in
theorem implSameSubst (A S T : Option Addr) (n c m c' q cq : Nat) (sg : List Int) (xa xb : List (List Int)) (w : World) (h : Seg w w.heap.size A n sg) (h' : Segs w w.heap.size S m xa) (h2 : Segs w w.heap.size T q xb) (hn : n ≤ 1048576) (ht : tot xa ≤ 1048576) (ht2 : tot xb ≤ 1048576) :
  Calls Try.prog 43 #[.agg #[.slice A n c], .agg #[.slice S m c'], .agg #[.slice T q cq]] w (AnsB w (sameB sg xa xb)) := by
 obtain ⟨W, hW, rA, rS, rT, bel⟩ := boxesSS w A n c S m c' T q cq
 have HW := hid hW
 have hm : m ≤ 1048576 := tot_len h'.1 ht
 have hq : q ≤ 1048576 := tot_len h2.1 ht2
 have HE1 := hid (tot_each ht)
 have HE2 := hid (tot_each ht2)
 have HT1 := hid ht
 have HT2 := hid ht2
 have s := h.next bel
 have s1 := h'.next bel
 have s2 := h2.next bel
 have L := hid (implSubstOk A S n c m c' sg xa W s s1 hn ht)
 clear hW ht ht2
 cases hok : substOkB sg xa with
 | false =>
  have HS := hid hok
  clear hok s s1 s2 h h' h2
  go_enter Try.func43, Try.ntmps43
  go_wp2_with fail
  rw [← HW.out]
  refine L.out.mono ?_
  rintro e w1 ⟨he, bb⟩
  rw [HS.out] at he
  subst he
  have F := hid (ansB (b := sameB sg xa xb) (a := false) (by rw [same_a HS.out]) (next_trans bel bb))
  clear bb bel rA rS rT
  go_wp2
  go_ret
  exact F.out
 | true =>
  have HS := hid hok
  clear hok
  go_enter Try.func43, Try.ntmps43
  go_wp2_with fail
  rw [← HW.out]
  refine L.out.mono ?_
  rintro e w1 ⟨he, bb⟩
  rw [HS.out] at he
  subst he
  replace s := s.next bb
  replace s1 := s1.next bb
  replace s2 := s2.next bb
  replace rA := rA.next bb
  replace rS := rS.next bb
  replace rT := rT.next bb
  replace bel := next_trans bel bb
  have cA : w1.cell? ⟨w.heap.size, 0, none⟩ = some (.slice A n c) := rA.cell 0
  have cT : w1.cell? ⟨w.heap.size + 2, 0, none⟩ = some (.slice T q cq) := rT.cell 0
  have L2 := hid (implSubstOk A T n c q cq sg xb w1 s s2 hn HT2.out)
  clear bb L
  cases hok2 : substOkB sg xb with
  | false =>
   have HS2 := hid hok2
   clear hok2 s s1 s2 h h' h2
   go_wp2_with fail
   refine L2.out.mono ?_
   rintro e w2 ⟨he, bb⟩
   rw [HS2.out] at he
   subst he
   have F := hid (ansB (b := sameB sg xa xb) (a := false) (by rw [same_b HS2.out]) (next_trans bel bb))
   clear bb bel rA rS rT cA cT L2
   go_wp2
   go_ret
   exact F.out
  | true =>
   have HS2 := hid hok2
   clear hok2
   go_wp2_with fail
   refine L2.out.mono ?_
   rintro e w2 ⟨he, bb⟩
   rw [HS2.out] at he
   subst he
   replace s1 := s1.next bb
   replace s2 := s2.next bb
   replace rS := rS.next bb
   replace rT := rT.next bb
   replace bel := next_trans bel bb
   clear bb L2 cA cT rA s
   have cS : w2.cell? ⟨w.heap.size + 1, 0, none⟩ = some (.slice S m c') := rS.cell 0
   have cT : w2.cell? ⟨w.heap.size + 2, 0, none⟩ = some (.slice T q cq) := rT.cell 0
   have d1 := rS.drew
   have d2 := rT.drew
   have sd1 := s1.drew
   have sd2 := s2.drew
   have bd := bel.drew
   clear rS rT s1 s2 bel
   go_wp2_with fail
   refine wp_region_held_drew (S := (fun w' => w'.cell? ⟨w.heap.size + 1, 0, none⟩ = some (.slice S m c') ∧ w'.cell? ⟨w.heap.size + 2, 0, none⟩ = some (.slice T q cq))) (by kernel_rfl) ⟨cS, cT⟩ (fun hHeld => ?_)
   refine wpAnyH_take (i := 0) (v := ?_) rfl (by kernel_rfl) (by kernel_rfl) (by kernel_rfl) (fun _ _ _ h => h) (Or.inl ⟨by rfl, ?_⟩) (by assumption) ?_
   rotate_left 1
   ·(intro w0 hSw; (try dsimp only at hSw); go_simp; try with_reducible rfl)
   try simp only [Act.put, setIfInBounds_toArray, set_cons_zero, set_cons_succ, getElem_toArray, getElem_cons_zero, getElem_cons_succ]
   refine wpAnyH_take (i := 2) (v := ?_) rfl (by kernel_rfl) (by kernel_rfl) (by kernel_rfl) (fun _ _ _ h => h) (Or.inl ⟨by rfl, ?_⟩) (by assumption) ?_
   rotate_left 1
   ·(intro w0 hSw; (try dsimp only at hSw); go_simp; try with_reducible rfl)
   try simp only [Act.put, setIfInBounds_toArray, set_cons_zero, set_cons_succ, getElem_toArray, getElem_cons_zero, getElem_cons_succ]
   refine wpAnyH_ready (rs := [1]) (by kernel_rfl) (by simp) (AllReadyH.cons rfl (fun K hK => ?_) AllReadyH.nil)
   go_simp
   refine (lookupB S m c' w2.drew).mono ?_; rintro e w3 ⟨rfl, ra, b3⟩; have u1 := d1.next b3; have u2 := d2.next b3; have x1 : w3.cell? ⟨w.heap.size + 1, 0, none⟩ = some (.slice S m c') := u1.cell 0; have x2 : w3.cell? ⟨w.heap.size + 2, 0, none⟩ = some (.slice T q cq) := u2.cell 0; go_wp2_with fail
   refine hK.out _ _ ?_ (fun hHeld => ?_)
   ·first | assumption | (dsimp only; assumption) | exact ⟨by assumption, by assumption⟩
   clear hK K
   try simp only [Act.put, setIfInBounds_toArray, set_cons_zero, set_cons_succ, getElem_toArray, getElem_cons_zero, getElem_cons_succ]
   refine wpAnyH_ready (rs := [3]) (by kernel_rfl) (by simp) (AllReadyH.cons rfl (fun K hK => ?_) AllReadyH.nil)
   go_simp
   refine (lookupB T q cq w3).mono ?_; rintro e w4 ⟨rfl, rb, b4⟩; have x1 : w4.cell? ⟨w.heap.size + 1, 0, none⟩ = some (.slice S m c') := (u1.next b4).cell 0; have x2 : w4.cell? ⟨w.heap.size + 2, 0, none⟩ = some (.slice T q cq) := (u2.next b4).cell 0; clear u1 u2; go_wp2_with fail
   refine hK.out _ _ ?_ (fun hHeld => ?_)
   ·first | assumption | (dsimp only; assumption) | exact ⟨by assumption, by assumption⟩
   clear hK K
   try simp only [Act.put, setIfInBounds_toArray, set_cons_zero, set_cons_succ, getElem_toArray, getElem_cons_zero, getElem_cons_succ]
   refine wpAnyH_take (i := 4) (v := ?_) rfl (by kernel_rfl) (by kernel_rfl) (by kernel_rfl) (fun _ _ _ h => h) (Or.inl ⟨by rfl, ?_⟩) (by assumption) ?_
   rotate_left 1
   ·(intro w0 hSw; (try dsimp only at hSw); go_simp; try with_reducible rfl)
   try simp only [Act.put, setIfInBounds_toArray, set_cons_zero, set_cons_succ, getElem_toArray, getElem_cons_zero, getElem_cons_succ]
   refine wpAnyH_take (i := 5) (v := ?_) rfl (by kernel_rfl) (by kernel_rfl) (by kernel_rfl) (fun _ _ _ h => h) (Or.inl ⟨by rfl, ?_⟩) (by assumption) ?_
   rotate_left 1
   ·(intro w0 hSw; (try dsimp only at hSw); go_simp; try with_reducible rfl)
   try simp only [Act.put, setIfInBounds_toArray, set_cons_zero, set_cons_succ, getElem_toArray, getElem_cons_zero, getElem_cons_succ]
   refine wpAnyH_done (by kernel_rfl) ?_ _
   have H0 : HeadSS w w2.heap.size w3.heap.size S m c' T q cq xa xb (.int .i64 0) w4 := ⟨0, Nat.zero_le _, rfl, fun j hj => absurd hj (Nat.not_lt_zero _), ra.next b4, rb, next_trans (next_trans bd b3) b4⟩
   have HH := hid H0
   have G1 := hid ((sd1.next b3).next b4)
   have G2 := hid ((sd2.next b3).next b4)
   clear H0 sd1 sd2 d1 d2 bd b3 b4 ra rb cS cT x1 x2
   go_wp2_with fail
   go_loopw [24] (fun i wr => HeadSS w w2.heap.size w3.heap.size S m c' T q cq xa xb i wr) (fun i _ => 24 - (intOf i).toNat)
   case atStart => exact HH.out
   case round =>
    obtain ⟨k, hk, rfl, hlow, r1, r2, hb⟩ := hrel
    clear HH
    have HLOW := hid hlow
    clear hlow
    by_cases hlt : k < 24
    ·have i0 : (0 : Int) ≤ (k : Int) := by omega
     have LA : Calls Try.prog 111 #[.int .i64 (k : Int), .pointer (some ⟨w2.heap.size, 0, none⟩)] wr (AnsLook wr.heap.size wr (givesL xa k)) := lookSubst w2.heap.size S m c' xa wr r1 ((h'.below hb).more hb.size) hm wr k (Below.refl _ _) hlt
     have t2 := (h2.below hb).more hb.size
     have hya : (givesL xa k).length ≤ 1048576 := gives_each HE1.out k
     have hyb : (givesL xb k).length ≤ 1048576 := gives_each HE2.out k
     obtain ⟨ya, hya2⟩ : ∃ ya, givesL xa k = ya := ⟨_, rfl⟩
     rw [hya2] at LA hya
     have HYA := hid hya2
     clear hya2 h h' h2
     obtain ⟨z, hz⟩ : ∃ z, decide (ya = givesL xb k) = z := ⟨_, rfl⟩
     have HZ := hid hz
     clear hz
     replace LA := hid LA
     go_wp2_with fail
     refine LA.out.mono ?_
     rintro e w5 ⟨X, xn, xc, rfl, oa, -, -, b1⟩
     have LB : Calls Try.prog 111 #[.int .i64 (k : Int), .pointer (some ⟨w3.heap.size, 0, none⟩)] w5 (AnsLook w5.heap.size w5 (givesL xb k)) := lookSubst w3.heap.size T q cq xb w5 (r2.next b1) (t2.next b1) hq w5 k (Below.refl _ _) hlt
     replace LB := hid LB
     clear t2
     go_wp2_with fail
     refine LB.out.mono ?_
     rintro e w6 ⟨Y, yn, yc, rfl, ob, -, -, b2⟩
     have oa2 := oa.next b2
     go_wp2_with fail
     refine (implSame X Y xn yn xc yc ya (givesL xb k) w6 oa2 ob (by rw [← oa.1]; exact hya) (by rw [← ob.1]; exact hyb)).mono ?_
     rintro e w7 ⟨he, d, rfl⟩
     rw [HZ.out] at he
     subst he
     have HB := hid (next_trans b1 (next_trans b2 (drewN_below _ d)))
     clear b1 b2 oa oa2 ob LA LB
     cases z with
     | true =>
      have S1 := hid (headSS_step (xa := xa) (xb := xb) hlt HLOW.out (HYA.out.trans (of_decide_eq_true HZ.out)) r1 r2 hb HB.out)
      clear r1 r2 hb
      go_wp2
      go_roundw
      case rel => exact S1.out
      case measure => simp [intOf]; omega
     | false =>
      have F := hid (ansB (b := sameB sg xa xb) (a := false) (by rw [same_ab HS.out HS2.out, sameG_no hlt (by rw [HYA.out]; exact of_decide_eq_false HZ.out)]) (next_trans hb HB.out))
      clear r1 r2 hb
      go_wp2
      go_ret
      exact F.out
    ·have F := hid (ansB (b := sameB sg xa xb) (a := true) (by rw [same_ab HS.out HS2.out, sameG_yes (fun i hi => HLOW.out i (by omega))]) hb)
     clear r1 r2 hb h h' h2
     go_wp2
     go_ret
     exact F.out
end sameSubst
end
section
namespace plainFacts
open Go.RowKit base ints sig term termOk termFacts fillMath plainMath plainOf substOk gives sameSubst compMath filled
theorem gives_plain {L : Nat → List Int} {m i : Nat} (hpos : ∀ i, 1 ≤ (L i).length) (hout : ∀ i, m ≤ i → L i = vt i) : givesL (plainL L m) i = L i := by
 have e := plain_get L m i
 by_cases h : i < m
 ·rw [rows_get h] at e
  unfold bare at e
  by_cases h2 : L i = vt i
  ·rw [if_pos h2] at e
   rw [gives_var (by rw [e]; rfl), h2]
  ·rw [if_neg h2] at e
   rw [gives_term (by rw [e]; have := hpos i; omega), e]
 ·have e0 : (rowsL L m).getD i [] = [] := by simp [List.getD, rows_len, h]
  rw [e0] at e
  rw [gives_var (by rw [e]; rfl), hout i (by omega)]
theorem plain_valid {sg : List Int} {L : Nat → List Int} {m : Nat} (hs : sigOkB sg = true) (hm : m ≤ 24) (hok : ∀ i, i < m → termOkB sg (L i) = true) : substOkB sg (plainL L m) = true := by
 have hl := plain_len L m
 refine subst_good hs (by omega) (fun j hj => ?_)
 rw [plain_get, rows_get (by omega)]
 unfold bare goodB
 split
 ·simp
 ·rw [hok j (by omega)]
  simp
theorem comp_gives {sg : List Int} {ss us : List (List Int)} (h : composedB sg ss us = true) (i : Nat) : givesL (composedI sg ss us) i = if i < 24 then compL us ss i else vt i := by
 rw [composed_yes h]
 have hs : substOkB sg ss = true := by unfold composedB at h; simp at h; exact h.1
 have hu : substOkB sg us = true := by unfold composedB at h; simp at h; exact h.2.1
 have e : compL us ss = fun i => compL us ss i := rfl
 have h1 := gives_plain (L := compL us ss) (m := 24) (i := i) (fun j => comp_pos us ss j) (fun j hj => comp_out (by have := (substOk_parts hs).2.1; omega) (by have := (substOk_parts hu).2.1; omega))
 rw [h1]
 split
 ·rfl
 ·rename_i h2
  exact comp_out (by have := (substOk_parts hs).2.1; omega) (by have := (substOk_parts hu).2.1; omega)
theorem comp_ok {sg : List Int} {ss us : List (List Int)} (h : composedB sg ss us = true) : substOkB sg (composedI sg ss us) = true := by
 have hs : substOkB sg ss = true := by unfold composedB at h; simp at h; exact h.1
 have hu : substOkB sg us = true := by unfold composedB at h; simp at h; exact h.2.1
 have hc : compOk us ss = true := by unfold composedB at h; simp at h; exact h.2.2
 rw [composed_yes h]
 refine plain_valid (substOk_parts hs).1 (Nat.le_refl _) (fun i hi => ?_)
 unfold compL
 refine fill_term (gives_ok hs hi) (fun x hx h0 => gives_ok hu ?_) (compOk_iff.1 hc i hi)
 have := term_mem (gives_ok hs hi) hx
 omega
theorem comp_fill {sg : List Int} {ss us : List (List Int)} {t : List Int} (h : composedB sg ss us = true) (ht : termOkB sg t = true) : fillL (givesL (composedI sg ss us)) t = fillL (givesL us) (fillL (givesL ss) t) := by
 rw [fill_fill]
 refine fill_ext (fun x hx h0 => ?_)
 rw [comp_gives h]
 have := term_mem ht hx
 rw [if_pos (by omega)]
 rfl
end plainFacts
end
section
namespace renPure
open sig term termOk termFacts varsMath fillMath renMath
end renPure
end
section
namespace unifLaw
open sig term termOk termFacts endAt sub termMath fillMath posMath renMath renPure segsHelp substOk gives plainMath plainOf plainFacts filled sameSubst compMath matchMath unifMath genMath
theorem sub_gives {sg : List Int} {L : Nat → List Int} (h : Sub sg L) (i : Nat) : givesL (plainL L 24) i = L i := gives_plain h.pos h.out
theorem sub_valid {sg : List Int} {L : Nat → List Int} (hs : sigOkB sg = true) (h : Sub sg L) (he : ∀ i, (L i).length ≤ 60) : substOkB sg (plainL L 24) = true :=
 plain_valid hs (Nat.le_refl _) (fun i hi => term_mk hs (he i) (h.trm i hi))
theorem gives_sub {sg : List Int} {us : List (List Int)} (h : substOkB sg us = true) : Sub sg (givesL us) :=
 ⟨fun _ hi => (term_parts (gives_ok h hi)).2.2, fun i hi => gives_out (by have := (substOk_parts h).2.1; omega)⟩
theorem fill_plain {sg : List Int} {L : Nat → List Int} (h : Sub sg L) (t : List Int) : fillL (givesL (plainL L 24)) t = fillL L t := fill_ext (fun _ _ _ => sub_gives h _)
theorem filled_plain {sg : List Int} {L : Nat → List Int} {t : List Int} (h : Sub sg L) (hv : substOkB sg (plainL L 24) = true) (ht : termOkB sg t = true) (hl : (fillL L t).length ≤ 60) : filledB sg (plainL L 24) t = true ∧ filledL sg (plainL L 24) t = fillL L t := by
 have hb : filledB sg (plainL L 24) t = true := by
  rw [filled_b hv ht]
  unfold fitsB
  rw [fill_plain h]
  exact decide_eq_true hl
 exact ⟨hb, by unfold filledL; rw [if_pos hb]; exact fill_plain h t⟩
theorem filled_parts {sg : List Int} {us : List (List Int)} {t : List Int} (h : filledB sg us t = true) : substOkB sg us = true ∧ termOkB sg t = true ∧ filledL sg us t = fillL (givesL us) t ∧ (fillL (givesL us) t).length ≤ 60 := by
 have e : filledL sg us t = fillL (givesL us) t := by unfold filledL; rw [if_pos h]
 have hl := filled_len sg us t
 rw [e] at hl
 unfold filledB at h
 rw [Bool.and_eq_true, Bool.and_eq_true] at h
 exact ⟨h.1, h.2.1, e, hl⟩
theorem isU_each {sg a b : List Int} {v : Bool} {F : List (List Int)} (h : IsU sg a b v F) : tot F ≤ 1048576 := by
 rcases h with ⟨_, _, _, L, m, s, rfl⟩ | ⟨_, rfl, _⟩
 ·have h3 := tot_le (plain_each (L := L) (m := 24) s.each)
  have h4 := plain_len L 24
  have h5 : (plainL L 24).length * 60 ≤ 24 * 60 := Nat.mul_le_mul_right _ h4
  omega
 ·simp [tot, sumL]
theorem isU_true {sg a b : List Int} {v : Bool} {F us : List (List Int)} (h : IsU sg a b v F) (h1 : filledB sg us a = true) (h2 : filledB sg us b = true) (he : filledL sg us a = filledL sg us b) : v = true := by
 obtain ⟨a1, a2, a3, a4⟩ := filled_parts h1
 obtain ⟨_, b2, b3, _⟩ := filled_parts h2
 rcases h with ⟨e, _⟩ | ⟨_, _, h⟩
 ·exact e
 ·rcases h with h | h | h
  ·rw [a2] at h; cases h
  ·rw [b2] at h; cases h
  ·exact absurd ⟨⟨gives_sub a1, by rw [← a3, ← b3, he]⟩, gives_len a1, a4⟩ (h (givesL us))
theorem isU_facts {sg a b : List Int} {F : List (List Int)} (h : IsU sg a b true F) : substOkB sg F = true ∧ sameB sg F F = true ∧ filledB sg F a = true ∧ filledB sg F b = true ∧ filledL sg F a = filledL sg F b ∧ (composedB sg F F = true → sameB sg (composedI sg F F) F = true) ∧
  ∀ us, filledB sg us a = true → filledB sg us b = true → filledL sg us a = filledL sg us b → composedB sg F us = true → filledB sg (composedI sg F us) a = true ∧ filledL sg (composedI sg F us) a = filledL sg us a := by
 rcases h with ⟨_, h1, h2, L, m, s, rfl⟩ | ⟨e, _⟩
 ·have hs := (term_parts h1).1
  have hv := sub_valid hs m.sub s.each
  obtain ⟨fa, la⟩ := filled_plain m.sub hv h1 s.all
  obtain ⟨fb, lb⟩ := filled_plain m.sub hv h2 (by rw [← m.eq]; exact s.all)
  refine ⟨hv, by unfold sameB; rw [hv, sameG_yes (fun _ _ => rfl)]; rfl, fa, fb, by rw [la, lb, m.eq], fun hc => ?_, fun us u1 u2 u3 hc => ?_⟩
  ·rw [same_ab (comp_ok hc) hv]
   refine sameG_yes (fun i hi => ?_)
   rw [comp_gives hc, if_pos hi]
   unfold compL
   rw [fill_plain m.sub, sub_gives m.sub]
   exact fill_same (fun x hx h0 => m.ide i x hx h0)
  ·obtain ⟨a1, _, a3, a4⟩ := filled_parts u1
   obtain ⟨_, _, b3, _⟩ := filled_parts u2
   have hU : Uni sg a b (givesL us) := ⟨gives_sub a1, by rw [← a3, ← b3, u3]⟩
   have e : fillL (givesL (composedI sg (plainL L 24) us)) a = fillL (givesL us) a := by
    rw [comp_fill hc h1, fill_plain m.sub]
    exact part_uni m.toPart hU a
   have hb : filledB sg (composedI sg (plainL L 24) us) a = true := by
    rw [filled_b (comp_ok hc) h1]
    unfold fitsB
    rw [e]
    exact decide_eq_true a4
   exact ⟨hb, by rw [a3]; unfold filledL; rw [if_pos hb]; exact e⟩
 ·cases e
theorem isU_symm {sg a b : List Int} {v : Bool} {F : List (List Int)} (h : IsU sg a b v F) : IsU sg b a v F := by
 rcases h with ⟨e, h1, h2, L, m, s, hF⟩ | ⟨e, hF, h⟩
 ·exact .inl ⟨e, h2, h1, L, m.symm, s.symm, hF⟩
 ·exact .inr ⟨e, hF, by
   rcases h with h | h | h
   ·exact .inr (.inl h)
   ·exact .inl h
   ·exact .inr (.inr (fun M hM => h M hM.symm))⟩
end unifLaw
end
section
namespace maxi
open Go.RowKit base
end maxi
end
section
namespace compSpec
open Go.RowKit base ints sig cursor marks app appAt sym segs segsHelp kinds termFacts fillMath substOk gives shifted filled plainMath plain plainOf compMath maxi
set_option maxRecDepth 100000
def AnsSubB (w : World) (xss : List (List Int)) (b : Bool) (e : Ending) (w' : World) : Prop := ∃ A n c, e = .returned (.tuple #[.agg #[.slice A n c], .bool b]) ∧ Owns w' w.heap.size w'.heap.size A n c xss ∧ Below w.heap.size w w'
theorem subB_no {w w' : World} {sg : List Int} {ss us : List (List Int)} (h : composedB sg ss us = false) (hb : Below w.heap.size w w') : AnsSubB w (composedI sg ss us) (composedB sg ss us) (.returned (.tuple #[.agg #[.slice none 0 0], .bool false])) w' :=
 ⟨none, 0, 0, by rw [h], by rw [composed_no h]; exact Owns.nil _ _ _, hb⟩
theorem boxes4 (w : World) (A : Option Addr) (n c : Nat) (S : Option Addr) (m c' : Nat) (T : Option Addr) (q cq : Nat) : ∃ W, W = (((w.alloc (.cells #[.slice A n c] 29)).alloc (.cells #[.slice S m c'] 39)).alloc (.cells #[.slice T q cq] 39)).alloc (.cells #[.slice none 0 0] 39) ∧
  Row W w.heap.size 29 #[.slice A n c] ∧ Row W (w.heap.size + 1) 39 #[.slice S m c'] ∧ Row W (w.heap.size + 2) 39 #[.slice T q cq] ∧ Row W (w.heap.size + 3) 39 #[.slice none 0 0] ∧ Below w.heap.size w W := by
 obtain ⟨W, hW, r1, r2, b⟩ := boxes2 w A n c S m c'
 have hz : W.heap.size = w.heap.size + 2 := by rw [hW]; simp
 have hz2 : (W.alloc (.cells #[.slice T q cq] 39)).heap.size = w.heap.size + 3 := by simp [hz]
 refine ⟨_, rfl, ?_, ?_, ?_, ?_, ?_⟩
 ·rw [← hW]; exact (r1.alloc _).alloc _
 ·rw [← hW]; exact (r2.alloc _).alloc _
 ·rw [← hW, ← hz]; exact (Row.new _ _ _).alloc _
 ·rw [← hW, ← hz2]; exact Row.new _ _ _
 ·rw [← hW]; exact (b.alloc b.size _).alloc (by simp; have := b.size; omega) _
end compSpec
end
section
open Go.Lib (hid)
namespace compImpl
open Go.RowKit base ints sig cursor marks app appAt sym segs segsHelp kinds termFacts fillMath Go.Proofs.Ytobedfmagjgdcaa.look substOk gives shifted filled plainMath plain plainOf compMath compSpec thn
set_option maxRecDepth 100000
def AnsIdx (w : World) (xss : List (List Int)) (e : Ending) (w' : World) : Prop := w = w' ∧ ∃ z : Int, e = .returned (.int .i64 z) ∧ -1 ≤ z ∧ z ≤ 1048576 ∧ decide (0 ≤ z) = anyLong xss
def HeadIdx (w : World) (n : Nat) (xss : List (List Int)) (i : Value) (wr : World) : Prop := ∃ k : Nat, k ≤ n ∧ i = .int .i64 k ∧ (∀ j, j < k → ¬ 60 < (xss.getD j []).length) ∧ w = wr
set_option maxHeartbeats 2000000 in
theorem indexLong (A : Option Addr) (n c : Nat) (xss : List (List Int)) (w : World) (h : Segs w w.heap.size A n xss) (hn : n ≤ 1048576) (hE : ∀ j, (xss.getD j []).length ≤ 1048576) :
  Calls Try.prog 86 #[.slice A n c, .func (.func 80) #[] #[]] w (AnsIdx w xss) := by
 have HE := hid hE
 have HL := hid h.1
 have HH : Hid (HeadIdx w n xss (.int .i64 0) w) := hid ⟨0, Nat.zero_le _, rfl, fun j hj => absurd hj (Nat.not_lt_zero _), rfl⟩
 clear hE
 go_enter Try.func86, Try.ntmps86
 go_wp2_with fail
 go_loopw [8] (fun i wr => HeadIdx w n xss i wr) (fun i _ => n - (intOf i).toNat)
 case atStart => exact HH.out
 case round =>
  obtain ⟨k, hk, rfl, hlow, rfl⟩ := hrel
  have HLOW := hid hlow
  clear hlow HH
  by_cases hlt : k < n
  ·obtain ⟨b, off, A', n', cc, rfl, hbB, hx, hseg, hcap⟩ := h.spot hlt
   have hn' : n' ≤ 1048576 := by rw [← hseg.1]; exact HE.out k
   have HG := hid hseg.1
   have i0 : (0 : Int) ≤ (k : Int) := by omega
   have i1 : (k : Int) < (n : Int) := by omega
   clear hseg hcap h
   go_wp2_with fail
   refine (tooLong A' n' cc w (by omega)).mono ?_
   rintro e w' ⟨rfl, rfl⟩
   by_cases h60 : 60 < n'
   ·rw [decide_eq_true h60]
    have F : AnsIdx w xss (.returned (.int .i64 (k : Int))) w := ⟨rfl, k, rfl, by omega, by omega, by rw [decide_eq_true (by omega)]; exact (anyLong_iff.2 ⟨k, by rw [HG.out]; exact h60⟩).symm⟩
    have HF := hid F
    clear F hx
    go_wp2
    go_ret
    exact HF.out
   ·rw [decide_eq_false h60]
    have S1 : HeadIdx w n xss (.int .i64 ((k : Int) + 1)) w := ⟨k + 1, hlt, by simp, fun j hj => by
     by_cases e : j = k
     ·rw [e, HG.out]; exact h60
     ·exact HLOW.out j (by omega), rfl⟩
    have HS1 := hid S1
    clear S1 hx
    go_wp2
    go_roundw
    case rel => exact HS1.out
    case measure => simp [intOf]; omega
  ·have F : AnsIdx w xss (.returned (.int .i64 (-1))) w := ⟨rfl, -1, rfl, by omega, by omega, by
    cases e : anyLong xss with
    | false => rfl
    | true =>
     obtain ⟨i, hi⟩ := anyLong_iff.1 e
     by_cases hin : i < n
     ·exact absurd hi (HLOW.out i (by omega))
     ·rw [show xss.getD i [] = [] by simp [List.getD, HL.out, hin]] at hi
      simp at hi⟩
   have HF := hid F
   clear F h
   go_wp2
   go_ret
   exact HF.out
theorem containsLong (A : Option Addr) (n c : Nat) (xss : List (List Int)) (w : World) (h : Segs w w.heap.size A n xss) (hn : n ≤ 1048576) (hE : ∀ j, (xss.getD j []).length ≤ 1048576) :
  Calls Try.prog 53 #[.slice A n c, .func (.func 80) #[] #[]] w fun e w' => w = w' ∧ e = .returned (.bool (anyLong xss)) := by
 have L := hid (indexLong A n c xss w h hn hE)
 clear h hE
 go_enter Try.func53, Try.ntmps53
 go_wp2_with fail
 refine L.out.mono ?_
 rintro e w' ⟨rfl, z, rfl, h1, h2, hz⟩
 have HZ := hid hz
 clear hz L
 go_wp2
 go_ret
 exact ⟨rfl, by rw [← HZ.out]; rfl⟩
theorem lookBoth (b1 b2 l1 l2 : Nat) (S : Option Addr) (m c : Nat) (T : Option Addr) (q cq : Nat) (sg : List Int) (ss us : List (List Int)) (w wx : World) (hok : substOkB sg ss = true) (hok2 : substOkB sg us = true) (hb : Below w.heap.size w wx) (h : Segs w w.heap.size S m ss) (h' : Segs w w.heap.size T q us)
  (c1 : wx.cell? ⟨b1, 0, none⟩ = some (.func (.func 111) #[] #[.pointer (some ⟨l1, 0, none⟩)])) (c2 : wx.cell? ⟨b2, 0, none⟩ = some (.func (.func 111) #[] #[.pointer (some ⟨l2, 0, none⟩)]))
  (k1 : wx.cell? ⟨l1, 0, none⟩ = some (.slice S m c)) (k2 : wx.cell? ⟨l2, 0, none⟩ = some (.slice T q cq)) :
  Calls Try.prog 61 #[.func (.func 112) #[] #[.pointer (some ⟨b2, 0, none⟩), .pointer (some ⟨b1, 0, none⟩)]] wx (fun e w' => ∃ O on oc, e = .returned (.agg #[.slice O on oc]) ∧ Owns w' wx.heap.size w'.heap.size O on oc (plainL (compL us ss) 24) ∧ Below wx.heap.size wx w' ∧ Below w.heap.size w wx) := by
 have m24 : m ≤ 1048576 := by have := (substOk_parts hok).2.1; rw [h.1] at this; omega
 have q24 : q ≤ 1048576 := by have := (substOk_parts hok2).2.1; rw [h'.1] at this; omega
 have eq := enters_of Try.func111 (by kernel_rfl) rfl
 have no : ∀ {g : Nat} {lb : Array Value} {L : Nat → List Int}, Looks g lb wx L 24 → LooksE none g lb wx L 24 := fun h W i hg hi => h W i ⟨hg.os, hg.tape, hg.output, hg.size, fun k hk => hg.block k hk (by simp)⟩ hi
 have LK := lookThen none b1 b2 _ _ _ _ eq eq (givesL ss) (givesL us) wx (World.block_lt_of_cell? _ _ c1) (World.block_lt_of_cell? _ _ c2) (by simp) (by simp) c1 c2
  (no (lookSubstC l1 S m c ss wx (World.block_lt_of_cell? _ _ k1) k1 (h.next hb) m24)) (no (lookSubstC l2 T q cq us wx (World.block_lt_of_cell? _ _ k2) k2 (h'.next hb) q24)) (fun i _ => gives_len hok i) (fun i hi y hy => (term_mem (x := y) (gives_ok hok hi) hy).1) (fun i => Nat.le_trans (gives_len hok2 i) (by omega))
 exact (plain 112 _ (enters_of Try.func112 (by kernel_rfl) rfl) (compL us ss) wx LK.looks (comp_pos us ss) (fun i => Nat.le_trans (comp_len hok hok2 i) (by omega))).mono fun _ _ ⟨O, on, oc, e1, e2, e3⟩ => ⟨O, on, oc, e1, e2, e3, hb⟩
def Got (w : World) (F : List (List Int)) (p : Value) (wx : World) : Prop :=
 ∃ (b : Nat) (O : Option Addr) (on oc : Nat), p = .pointer (some ⟨b, 0, none⟩) ∧ Row wx b 39 #[.slice O on oc] ∧ Owns wx w.heap.size wx.heap.size O on oc F ∧ w.heap.size ≤ b ∧ Below w.heap.size w wx
theorem got_after {w w1 w2 : World} {F : List (List Int)} {O : Option Addr} {on oc : Nat} (b1 : Below w.heap.size w w1) (ho : Owns w2 w1.heap.size w2.heap.size O on oc F) (b2 : Below w1.heap.size w1 w2) : Got w F (.pointer (some ⟨w2.heap.size, 0, none⟩)) (w2.alloc (.cells #[.slice O on oc] 39)) :=
 have B : Below w2.heap.size w2 (w2.alloc (.cells #[.slice O on oc] 39)) := (Below.refl _ _).alloc (Nat.le_refl _) _
 ⟨_, O, on, oc, rfl, Row.new _ _ _, (ho.next B).wider b1.size (by simp), Nat.le_trans b1.size b2.size, next_trans b1 (next_trans b2 B)⟩
theorem got_ahead {w w1 w2 : World} {F : List (List Int)} {O : Option Addr} {on oc b : Nat} (b1 : Below w.heap.size w w1) (hb : w.heap.size ≤ b) (r2 : Row w2 b 39 #[.slice none 0 0]) (hlt : b < w1.heap.size) (ho : Owns w2 w1.heap.size w2.heap.size O on oc F) (b2 : Below w1.heap.size w1 w2) : Got w F (.pointer (some ⟨b, 0, none⟩)) (w2.setCell ⟨b, 0, none⟩ (.slice O on oc)) :=
 ⟨b, O, on, oc, rfl, by have := r2.put 0 (.slice O on oc); simpa using this, (owns_put ho r2 hlt 0 _).wider b1.size (by simp), hb, (next_trans b1 b2).setCell hb _⟩
theorem sz_alloc (w : World) (o : Obj) : (w.alloc o).heap.size = w.heap.size + 1 := by simp
theorem sz_drew (w : World) : w.drew.heap.size = w.heap.size := rfl
theorem row_top {w : World} {t : TypeId} {cs : Array Value} {n : Nat} (hn : n = w.heap.size) : Row (w.alloc (.cells cs t)) n t cs := by subst hn; exact Row.new _ _ _
theorem row_alloc {w : World} {o : Obj} {t : TypeId} {cs : Array Value} {n : Nat} (h : Row w n t cs) : Row (w.alloc o) n t cs := h.alloc o
theorem row_drew {w : World} {t : TypeId} {cs : Array Value} {n : Nat} (h : Row w n t cs) : Row w.drew n t cs := h.drew
theorem keep_alloc {w : World} {a : Addr} {v : Value} {o : Obj} (h : w.cell? a = some v) : (w.alloc o).cell? a = some v := (World.cell?_alloc_some w a o (by rw [h]; rfl)).trans h
theorem cell_top {w : World} {v : Value} {t : TypeId} {n : Nat} (hn : n = w.heap.size) : (w.alloc (.cells #[v] t)).cell? ⟨n, 0, none⟩ = some v := by subst hn; simp
theorem keep_set {w : World} {p a : Addr} {u v : Value} (hne : p.block ≠ a.block) (h : w.cell? a = some v) : (w.setCell p u).cell? a = some v := (World.cell?_setCell_far w p a u hne).trans h
set_option maxHeartbeats 8000000 in
theorem implComposed (A S T : Option Addr) (n c m c' q cq : Nat) (sg : List Int) (ss us : List (List Int)) (w : World) (h : Seg w w.heap.size A n sg) (h' : Segs w w.heap.size S m ss) (h2 : Segs w w.heap.size T q us) (hn : n ≤ 1048576) (ht : tot ss ≤ 1048576) (ht2 : tot us ≤ 1048576) :
  Calls Try.prog 41 #[.agg #[.slice A n c], .agg #[.slice S m c'], .agg #[.slice T q cq]] w (AnsSubB w (composedI sg ss us) (composedB sg ss us)) := by
 obtain ⟨W, hW, rA, r1, r2, r3, bel⟩ := boxes4 w A n c S m c' T q cq
 have HW := hid hW
 have HT2 := hid ht2
 have s := h.next bel
 have s1 := h'.next bel
 have s2 := h2.next bel
 have L := hid (implSubstOk A S n c m c' sg ss W s s1 hn ht)
 clear hW ht ht2 h h' h2
 cases hok : substOkB sg ss with
 | false =>
  have HS := hid hok
  clear hok s s1 s2
  go_enter Try.func41, Try.ntmps41
  go_wp2_with fail
  rw [← HW.out]
  refine L.out.mono ?_
  rintro e w1 ⟨he, bb⟩
  rw [HS.out] at he
  subst he
  replace r3 := r3.next bb
  replace bel := next_trans bel bb
  have cR : w1.cell? ⟨w.heap.size + 3, 0, none⟩ = some (.slice none 0 0) := r3.cell 0
  have fR : w1.frozen? ⟨w.heap.size + 3, 0, none⟩ = false := r3.free 0
  have F1 := hid (subB_no (sg := sg) (ss := ss) (us := us) (composed_s HS.out) bel)
  have F2 := hid (subB_no (sg := sg) (ss := ss) (us := us) (composed_s HS.out) ((bel).setCell (p := ⟨w.heap.size + 3, 0, none⟩) (by simp) (.slice none 0 0)))
  clear bb bel rA r1 r2 r3
  go_wp2
  first
   | exact bodyPost_ret (v := .tuple #[.agg #[.slice none 0 0], .bool false]) (by simp [results, Try.results41, go_sem, cR]) rfl F1.out
   | exact bodyPost_ret (v := .tuple #[.agg #[.slice none 0 0], .bool false]) (by simp [results, Try.results41, go_sem, cR]) rfl F2.out
 | true =>
  have HS := hid hok
  clear hok
  have hmf : ∀ (fn : Fn) (first cap : Array Value) (w : World), (Instr.makeFunc fn first cap).run Try.prog w = .ok (.func fn first cap) w := fun _ _ _ _ => rfl
  go_enter Try.func41, Try.ntmps41
  go_wp2_with fail
  rw [← HW.out]
  refine L.out.mono ?_
  rintro e w1 ⟨he, bb⟩
  rw [HS.out] at he
  subst he
  replace s := s.next bb
  replace s1 := s1.next bb
  replace s2 := s2.next bb
  replace rA := rA.next bb
  replace r1 := r1.next bb
  replace r2 := r2.next bb
  replace r3 := r3.next bb
  replace bel := next_trans bel bb
  have cA : w1.cell? ⟨w.heap.size, 0, none⟩ = some (.slice A n c) := rA.cell 0
  have cT : w1.cell? ⟨w.heap.size + 2, 0, none⟩ = some (.slice T q cq) := r2.cell 0
  have L2 := hid (implSubstOk A T n c q cq sg us w1 s s2 hn HT2.out)
  clear bb L rA
  cases hok2 : substOkB sg us with
  | false =>
   have HS2 := hid hok2
   clear hok2 s s1 s2
   go_wp2_with fail
   refine L2.out.mono ?_
   rintro e w2 ⟨he, bb⟩
   rw [HS2.out] at he
   subst he
   replace r3 := r3.next bb
   replace bel := next_trans bel bb
   have cR : w2.cell? ⟨w.heap.size + 3, 0, none⟩ = some (.slice none 0 0) := r3.cell 0
   have fR : w2.frozen? ⟨w.heap.size + 3, 0, none⟩ = false := r3.free 0
   have F1 := hid (subB_no (sg := sg) (ss := ss) (us := us) (composed_u HS2.out) bel)
   have F2 := hid (subB_no (sg := sg) (ss := ss) (us := us) (composed_u HS2.out) ((bel).setCell (p := ⟨w.heap.size + 3, 0, none⟩) (by simp) (.slice none 0 0)))
   clear bb bel r1 r2 r3 cA cT L2 hmf
   go_wp2
   first
    | exact bodyPost_ret (v := .tuple #[.agg #[.slice none 0 0], .bool false]) (by simp [results, Try.results41, go_sem, cR]) rfl F1.out
    | exact bodyPost_ret (v := .tuple #[.agg #[.slice none 0 0], .bool false]) (by simp [results, Try.results41, go_sem, cR]) rfl F2.out
  | true =>
   have HS2 := hid hok2
   clear hok2
   go_wp2_with fail
   refine L2.out.mono ?_
   rintro e w2 ⟨he, bb⟩
   rw [HS2.out] at he
   subst he
   replace s1 := s1.next bb
   replace s2 := s2.next bb
   replace r1 := r1.next bb
   replace r2 := r2.next bb
   replace r3 := r3.next bb
   replace bel := next_trans bel bb
   clear bb L2 cA cT s
   have cS : w2.cell? ⟨w.heap.size + 1, 0, none⟩ = some (.slice S m c') := r1.cell 0
   have cT : w2.cell? ⟨w.heap.size + 2, 0, none⟩ = some (.slice T q cq) := r2.cell 0
   have z1 := r1.lt
   have z2 := r2.lt
   clear r1 r2
   go_wp2_with fail
   have LKB := hid (fun (wx : World) (b1 b2 l1 l2 : Nat) (hb : Below w2.heap.size w2 wx) => lookBoth b1 b2 l1 l2 S m c' T q cq sg ss us w2 wx HS.out HS2.out hb s1 s2)
   go_cut [8] (fun p8 wx => Got w2 (plainL (compL us ss) 24) p8 wx)
   case first =>
    clear bel r3 s1 s2
    go_region_held3 (fun w' => w'.cell? ⟨w.heap.size + 1, 0, none⟩ = some (.slice S m c') ∧ w'.cell? ⟨w.heap.size + 2, 0, none⟩ = some (.slice T q cq))
     (((try simp only [World.cell?_drew]); (refine ⟨?_, ?_⟩ <;> (repeat (first | assumption | (with_reducible apply keep_alloc) | (refine keep_set (by first | (simp only [sz_alloc, sz_drew]; omega) | (simp; done) | (simp; omega)) ?_))))))
     (first
      | (go_at_call 78; refine (lookupIn _ _ _ _).mono ?_; rintro e w3 ⟨rfl, rfl⟩)
      | (go_at_call 81; refine (thenC _ _ _ _ _).mono ?_; rintro e w3 ⟨rfl, rfl⟩)
      | (go_at_call 61; refine (LKB.out _ _ _ ?_ ?_ ?_ ?_ ?_ ?_ ?_).mono ?_; rotate_left 3; (focus (simp only [World.cell?_drew]; (repeat (first | ((with_reducible refine cell_top ?_); (simp only [sz_alloc, sz_drew]; done)) | (with_reducible refine keep_alloc ?_))))); (focus (simp only [World.cell?_drew]; (repeat (first | ((with_reducible refine cell_top ?_); (simp only [sz_alloc, sz_drew]; done)) | (with_reducible refine keep_alloc ?_))))); (focus (simp only [World.cell?_drew]; (repeat (first | ((with_reducible refine cell_top ?_); (simp only [sz_alloc, sz_drew]; done)) | (with_reducible refine keep_alloc ?_))))); (focus (simp only [World.cell?_drew]; (repeat (first | ((with_reducible refine cell_top ?_); (simp only [sz_alloc, sz_drew]; done)) | (with_reducible refine keep_alloc ?_))))); rotate_right 1; (focus (repeat (first | (with_reducible exact Below.refl _ _) | (with_reducible refine Below.drew ?_) | (with_reducible refine Below.alloc ?_ (by first | omega | (simp only [sz_alloc, sz_drew]; omega)) _)))); rintro e w4 ⟨O, on, oc, rfl, ho, b4, hbx⟩; have y1 : w4.cell? ⟨w.heap.size + 1, 0, none⟩ = some (.slice S m c') := (b4.cell (p := ⟨w.heap.size + 1, 0, none⟩) (by first | omega | (simp only [sz_alloc, sz_drew]; omega))).trans (by simp only [World.cell?_drew]; repeat (first | exact cS | (with_reducible apply keep_alloc))); have y2 : w4.cell? ⟨w.heap.size + 2, 0, none⟩ = some (.slice T q cq) := (b4.cell (p := ⟨w.heap.size + 2, 0, none⟩) (by first | omega | (simp only [sz_alloc, sz_drew]; omega))).trans (by simp only [World.cell?_drew]; repeat (first | exact cT | (with_reducible apply keep_alloc))); (try (obtain ⟨q4, -⟩ : Row w4 (w2.heap.size) 39 #[.slice none 0 0] ∧ True; (focus ((refine ⟨Go.Proofs.Ytobedfmagjgdcaa.base.Row.next ?_ b4, trivial⟩); (repeat (first | ((with_reducible refine row_top ?_); (simp only [sz_alloc, sz_drew]; done)) | (with_reducible refine row_drew ?_) | (with_reducible refine row_alloc ?_))); done)); have y3 : w4.cell? ⟨w2.heap.size, 0, none⟩ = some (.slice none 0 0) := q4.cell 0; have y4 : w4.frozen? ⟨w2.heap.size, 0, none⟩ = false := q4.free 0)); (try (obtain ⟨q4, -⟩ : Row w4 (w2.heap.size + 1) 39 #[.slice none 0 0] ∧ True; (focus ((refine ⟨Go.Proofs.Ytobedfmagjgdcaa.base.Row.next ?_ b4, trivial⟩); (repeat (first | ((with_reducible refine row_top ?_); (simp only [sz_alloc, sz_drew]; done)) | (with_reducible refine row_drew ?_) | (with_reducible refine row_alloc ?_))); done)); have y3 : w4.cell? ⟨w2.heap.size + 1, 0, none⟩ = some (.slice none 0 0) := q4.cell 0; have y4 : w4.frozen? ⟨w2.heap.size + 1, 0, none⟩ = false := q4.free 0)); (try (obtain ⟨q4, -⟩ : Row w4 (w2.heap.size + 1 + 1) 39 #[.slice none 0 0] ∧ True; (focus ((refine ⟨Go.Proofs.Ytobedfmagjgdcaa.base.Row.next ?_ b4, trivial⟩); (repeat (first | ((with_reducible refine row_top ?_); (simp only [sz_alloc, sz_drew]; done)) | (with_reducible refine row_drew ?_) | (with_reducible refine row_alloc ?_))); done)); have y3 : w4.cell? ⟨w2.heap.size + 1 + 1, 0, none⟩ = some (.slice none 0 0) := q4.cell 0; have y4 : w4.frozen? ⟨w2.heap.size + 1 + 1, 0, none⟩ = false := q4.free 0)); (try (obtain ⟨q4, -⟩ : Row w4 (w2.heap.size + 1 + 1 + 1 + 1) 39 #[.slice none 0 0] ∧ True; (focus ((refine ⟨Go.Proofs.Ytobedfmagjgdcaa.base.Row.next ?_ b4, trivial⟩); (repeat (first | ((with_reducible refine row_top ?_); (simp only [sz_alloc, sz_drew]; done)) | (with_reducible refine row_drew ?_) | (with_reducible refine row_alloc ?_))); done)); have y3 : w4.cell? ⟨w2.heap.size + 1 + 1 + 1 + 1, 0, none⟩ = some (.slice none 0 0) := q4.cell 0; have y4 : w4.frozen? ⟨w2.heap.size + 1 + 1 + 1 + 1, 0, none⟩ = false := q4.free 0)); all_goals skip))
    all_goals
     go_wp2_with fail
     go_meet
     first
      | exact got_after hbx ho b4
      | exact got_ahead hbx (by omega) q4 (by simp only [sz_alloc, sz_drew]; omega) ho b4
   case rest =>
    rename World => wc
    obtain ⟨b, O, on, oc, rfl, rb, ho, hwb, b4⟩ := hcut
    have HE := hid (plain_each (L := compL us ss) (m := 24) (comp_len HS.out HS2.out))
    have HLN := hid (plain_len (compL us ss) 24)
    have AL := hid (anyLong_comp us ss)
    have CB := hid (composed_b HS.out HS2.out)
    have r4 := r3.next b4
    have hlt3 := r3.lt
    have bel5 := next_trans bel b4
    have hon : on ≤ 24 := by rw [← ho.len]; exact HLN.out
    have LC := hid (containsLong O on oc (plainL (compL us ss) 24) wc ho.segs (by omega) (fun j => Nat.le_trans (HE.out j) (by omega)))
    have cR : wc.cell? ⟨w.heap.size + 3, 0, none⟩ = some (.slice none 0 0) := r4.cell 0
    have fR : wc.frozen? ⟨w.heap.size + 3, 0, none⟩ = false := r4.free 0
    have cO : wc.cell? ⟨b, 0, none⟩ = some (.slice O on oc) := rb.cell 0
    have F1 := hid (fun hno : composedB sg ss us = false => subB_no hno bel5)
    have F2 := hid (fun hno : composedB sg ss us = false => subB_no hno (bel5.setCell (p := ⟨w.heap.size + 3, 0, none⟩) (by simp) (.slice none 0 0)))
    have F3 : Hid (composedB sg ss us = true → AnsSubB w (composedI sg ss us) (composedB sg ss us) (.returned (.tuple #[.agg #[.slice O on oc], .bool true])) (wc.setCell ⟨w.heap.size + 3, 0, none⟩ (.slice O on oc))) :=
     hid fun hyes => ⟨O, on, oc, by rw [hyes], by rw [composed_yes hyes]; have hwc := bel.size; exact (owns_put ho r4 hlt3 0 _).wider hwc (by simp), bel5.setCell (by simp) _⟩
    clear r3 r4 ho b4 bel bel5 rb LKB
    go_wp2_with fail
    refine LC.out.mono ?_
    rintro e w6 ⟨rfl, rfl⟩
    rw [AL.out]
    cases hc : compOk us ss with
    | false =>
     have hno : composedB sg ss us = false := CB.out.trans hc
     have G1 := hid (F1.out hno)
     have G2 := hid (F2.out hno)
     clear hc hno F1 F2 F3 LC
     go_wp2
     first
      | exact bodyPost_ret (v := .tuple #[.agg #[.slice none 0 0], .bool false]) (by simp [results, Try.results41, go_sem, cR]) rfl G1.out
      | exact bodyPost_ret (v := .tuple #[.agg #[.slice none 0 0], .bool false]) (by simp [results, Try.results41, go_sem, cR]) rfl G2.out
    | true =>
     have G3 := hid (F3.out (CB.out.trans hc))
     clear hc F1 F2 F3 LC
     go_wp2
     exact bodyPost_ret (v := .tuple #[.agg #[.slice O on oc], .bool true]) (by simp [results, Try.results41, go_sem, cR]) rfl G3.out
end compImpl
end
section
namespace bigs
open Go.RowKit base ints
theorem bigAns (A : Option Addr) (n c : Nat) (b : Bool) (w : World) (hb : decide (4096 < n) = b) (hn : n ≤ 9223372036854775807) : Calls Try.prog 34 #[.slice A n c] w fun e w' => w = w' ∧ e = .returned (.bool b) := by
 cases b with
 | true =>
  have h : (4096 : Int) < (n : Int) := by have := of_decide_eq_true hb; omega
  clear hb
  go_enter Try.func34, Try.ntmps34
  go_wp2
  go_ret
  exact ⟨rfl, rfl⟩
 | false =>
  have h : ¬ (4096 : Int) < (n : Int) := by have := of_decide_eq_false hb; omega
  have h2 : decide (4096 < n) = false := hb
  clear hb
  go_enter Try.func34, Try.ntmps34
  go_wp2
  go_ret
  exact ⟨rfl, rfl⟩
end bigs
end
section
namespace lawT
open Go.RowKit base ints segs
set_option maxRecDepth 100000
structure T1 (w : World) (v3 : Nat) (S : Option Addr) (sn sc : Nat) (sg : List Int) (O : Option Addr) (on : Nat) (p : List Int) (Q : Option Addr) (qn : Nat) (t : List Int) (wr : World) : Prop where
 s : Seg wr wr.heap.size S sn sg
 o : Seg wr wr.heap.size O on p
 q : Seg wr wr.heap.size Q qn t
 r3 : Row wr v3 29 #[.slice S sn sc]
 bel : Below w.heap.size w wr
section
variable {w : World} {v3 : Nat} {S : Option Addr} {sn sc : Nat} {sg : List Int} {O : Option Addr} {on : Nat} {p : List Int} {Q : Option Addr} {qn : Nat} {t : List Int} {wr w' : World}
theorem T1.next (f : T1 w v3 S sn sc sg O on p Q qn t wr) (hb : Below wr.heap.size wr w') : T1 w v3 S sn sc sg O on p Q qn t w' :=
 ⟨f.s.next hb, f.o.next hb, f.q.next hb, f.r3.next hb, next_trans f.bel hb⟩
theorem T1.cell (f : T1 w v3 S sn sc sg O on p Q qn t wr) : wr.cell? ⟨v3, 0, none⟩ = some (.slice S sn sc) := f.r3.cell 0
end
structure Sv (wr : World) (v : Nat) (D : Option Addr) (dn dc : Nat) (xss : List (List Int)) : Prop where
 r : Row wr v 39 #[.slice D dn dc]
 s : Segs wr wr.heap.size D dn xss
section
variable {v : Nat} {D : Option Addr} {dn dc : Nat} {xss : List (List Int)} {wr w' : World}
theorem Sv.next (f : Sv wr v D dn dc xss) (hb : Below wr.heap.size wr w') : Sv w' v D dn dc xss := ⟨f.r.next hb, f.s.next hb⟩
theorem Sv.cell (f : Sv wr v D dn dc xss) : wr.cell? ⟨v, 0, none⟩ = some (.slice D dn dc) := f.r.cell 0
end
theorem below_alloc (w : World) (x : Obj) : Below w.heap.size w (w.alloc x) := (Below.refl _ _).alloc (Nat.le_refl _) _
theorem below_drewN (w : World) (d : Nat) : Below w.heap.size w (w.drewN d) := ⟨rfl, rfl, rfl, Nat.le_refl _, fun _ _ => rfl⟩
end lawT
end
end Go.Proofs.Ytobedfmagjgdcaa
