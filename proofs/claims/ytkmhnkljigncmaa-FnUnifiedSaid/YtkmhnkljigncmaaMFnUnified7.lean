/-
  MERGED: my texts UnifSpec, Unified, UnifImpl, GenMath, SameSubst, PlainFacts, RenPure, UnifLaw, Max, one behind the other, as they are. By an AI agent.
-/
import Derived.Test.YtkmhnkljigncmaaMFnUnified6
import Derived.Deep.LoopGhost
import Derived.Deep.QuietTactic
import Derived.BigQuiet
import Derived.Defers
import Derived.Recover
import Derived.Deep.RegionHeld3
section
/-
  CONTRACT: spec.l5Unify. Conditions: the slices read as lists ('Seg'), both are terms. (The arms of the switch by wip/tools/mkunif.py.) By an AI agent.
-/
namespace Go.Proofs.Ytkmhnkljigncmaa.unifSpec
open Go.RowKit Go.Proofs.Ytkmhnkljigncmaa.base Go.Proofs.Ytkmhnkljigncmaa.ints Go.Proofs.Ytkmhnkljigncmaa.sig Go.Proofs.Ytkmhnkljigncmaa.term Go.Proofs.Ytkmhnkljigncmaa.termOk Go.Proofs.Ytkmhnkljigncmaa.endAt Go.Proofs.Ytkmhnkljigncmaa.sub Go.Proofs.Ytkmhnkljigncmaa.cursor Go.Proofs.Ytkmhnkljigncmaa.marks Go.Proofs.Ytkmhnkljigncmaa.app Go.Proofs.Ytkmhnkljigncmaa.sym Go.Proofs.Ytkmhnkljigncmaa.look Go.Proofs.Ytkmhnkljigncmaa.segs Go.Proofs.Ytkmhnkljigncmaa.segsHelp Go.Proofs.Ytkmhnkljigncmaa.kinds Go.Proofs.Ytkmhnkljigncmaa.termFacts Go.Proofs.Ytkmhnkljigncmaa.fillMath Go.Proofs.Ytkmhnkljigncmaa.substOk Go.Proofs.Ytkmhnkljigncmaa.gives Go.Proofs.Ytkmhnkljigncmaa.shifted Go.Proofs.Ytkmhnkljigncmaa.filled Go.Proofs.Ytkmhnkljigncmaa.plainMath Go.Proofs.Ytkmhnkljigncmaa.plain Go.Proofs.Ytkmhnkljigncmaa.plainOf Go.Proofs.Ytkmhnkljigncmaa.compMath Go.Proofs.Ytkmhnkljigncmaa.rename Go.Proofs.Ytkmhnkljigncmaa.matchMath Go.Proofs.Ytkmhnkljigncmaa.unifMath Go.Proofs.Ytkmhnkljigncmaa.bind
set_option maxRecDepth 100000

/-- what is known of the substitution on the way -/
structure Good (sg a b : List Int) (ss : List (List Int)) : Prop where
  len : ss.length ≤ 24
  each : ∀ j, (ss.getD j []).length ≤ 60
  part : Part sg a b (givesL ss)
section
variable {sg a b : List Int} {ss : List (List Int)}
theorem Good.symm (h : Good sg a b ss) : Good sg b a ss := ⟨h.len, h.each, h.part.symm⟩
theorem Good.tot (h : Good sg a b ss) : tot ss ≤ 1048576 := by
  have h1 := tot_le h.each
  have h2 : ss.length * 60 ≤ 24 * 60 := Nat.mul_le_mul_right _ h.len
  have := h.len
  omega
theorem Good.g60 (h : Good sg a b ss) (k : Nat) : (givesL ss k).length ≤ 60 := by
  unfold givesL
  split
  · simp [vt]
  · exact h.each k
theorem Good.neg (h : Good sg a b ss) (k : Nat) (x : Int) (hx : x ∈ givesL ss k) (hk : k < 24) : -24 ≤ x := (h.part.sub.trm k hk).mem hx
theorem gives_nil : givesL [] = vt := by
  funext i
  exact gives_out (by simp)
theorem Good.start (sg a b : List Int) : Good sg a b [] := ⟨by simp, fun j => by simp, by rw [gives_nil]; exact Part.start sg a b⟩
theorem bound_gives {i : Nat} {t : List Int} (hi : i < 24) (ht : 1 ≤ t.length) (hl : ss.length ≤ 24) : givesL (outL (us1 i t) ss 24) = fun m => fillL (ones i t) (givesL ss m) := by
  have e : ∀ m, compL (us1 i t) ss m = fillL (ones i t) (givesL ss m) := fun m => by
    unfold compL
    exact fill_ext (fun x _ _ => us1_gives hi ht _)
  funext m
  by_cases hm : m < 24
  · rw [out_gives hm, e]
  · rw [gives_out (by rw [out_len]; omega), gives_out (by omega), fill_vti]
    unfold ones
    rw [if_neg (by omega)]
theorem Good.next {i : Nat} {t : List Int} (h : Good sg a b ss) (hi : i < 24) (ht : 1 ≤ t.length) (hp : Part sg a b (fun m => fillL (ones i t) (givesL ss m))) (hc : ∀ j, j < 24 → (compL (us1 i t) ss j).length ≤ 60) : Good sg a b (outL (us1 i t) ss 24) :=
  ⟨by rw [out_len]; omega, fun j => by
    by_cases hj : j < 24
    · rw [out_get hj]; exact hc j hj
    · simp [List.getD, out_len, hj], by rw [bound_gives hi ht h.len]; exact hp⟩
theorem fit_yes {t : List Int} (h : fitsB ss t = true) : fitL ss t = fillL (givesL ss) t ∧ (fillL (givesL ss) t).length ≤ 60 := by
  refine ⟨by unfold fitL; rw [if_pos h], ?_⟩
  unfold fitsB at h
  exact of_decide_eq_true h
end
/-- what is told -/
def AnsUni (w : World) (sg a b : List Int) (e : Ending) (w' : World) : Prop :=
  Below w.heap.size w w' ∧ ((∃ S m c ss, e = .returned (.tuple #[.agg #[.slice S m c], .bool true]) ∧ Owns w' w.heap.size w'.heap.size S m c ss ∧ Good sg a b ss ∧ fillL (givesL ss) a = fillL (givesL ss) b ∧ (fillL (givesL ss) a).length ≤ 60) ∨ (e = .returned (.tuple #[.agg #[.slice none 0 0], .bool false]) ∧ ∀ M, ¬ Short sg a b M))
/-- what stands in the course of the call -/
structure Uw (w wr : World) (A : Option Addr) (n c : Nat) (sg : List Int) (P : Option Addr) (pn : Nat) (a : List Int) (Q : Option Addr) (qn : Nat) (b : List Int) (S : Option Addr) (m cS : Nat) (ss : List (List Int)) : Prop where
  r0 : Row wr w.heap.size 26 #[.slice A n c]
  r1 : Row wr (w.heap.size + 1) 31 #[.slice S m cS]
  r2 : Row wr (w.heap.size + 1 + 1) 31 #[.slice none 0 0]
  s : Seg wr w.heap.size A n sg
  pa : Seg wr w.heap.size P pn a
  qb : Seg wr w.heap.size Q qn b
  sS : Owns wr (w.heap.size + 1 + 1 + 1) wr.heap.size S m cS ss
  bel : Below w.heap.size w wr
section
variable {w wr w' : World} {A : Option Addr} {n c : Nat} {sg : List Int} {P : Option Addr} {pn : Nat} {a : List Int} {Q : Option Addr} {qn : Nat} {b : List Int} {S : Option Addr} {m cS : Nat} {ss : List (List Int)}
theorem Uw.next (h : Uw w wr A n c sg P pn a Q qn b S m cS ss) (hb : Below wr.heap.size wr w') : Uw w w' A n c sg P pn a Q qn b S m cS ss :=
  have z := h.r0.lt
  have hw : Below w.heap.size wr w' := hb.mono (Nat.le_of_lt z)
  ⟨h.r0.next hb, h.r1.next hb, h.r2.next hb, h.s.below hw, h.pa.below hw, h.qb.below hw, (h.sS.next hb).wider (Nat.le_refl _) hb.size, h.bel.trans hw⟩
theorem Uw.c0 (h : Uw w wr A n c sg P pn a Q qn b S m cS ss) : wr.cell? ⟨w.heap.size, 0, none⟩ = some (.slice A n c) := h.r0.cell 0
theorem Uw.c1 (h : Uw w wr A n c sg P pn a Q qn b S m cS ss) : wr.cell? ⟨w.heap.size + 1, 0, none⟩ = some (.slice S m cS) := h.r1.cell 0
theorem Uw.c2 (h : Uw w wr A n c sg P pn a Q qn b S m cS ss) : wr.cell? ⟨w.heap.size + 1 + 1, 0, none⟩ = some (.slice none 0 0) := h.r2.cell 0
theorem Uw.f2 (h : Uw w wr A n c sg P pn a Q qn b S m cS ss) : wr.frozen? ⟨w.heap.size + 1 + 1, 0, none⟩ = false := h.r2.free 0
theorem Uw.size (h : Uw w wr A n c sg P pn a Q qn b S m cS ss) : w.heap.size + 1 + 1 < wr.heap.size := h.r2.lt
end
def HeadU (w : World) (A : Option Addr) (n c : Nat) (sg : List Int) (P : Option Addr) (pn : Nat) (a : List Int) (Q : Option Addr) (qn : Nat) (b : List Int) (g : Nat) (wr : World) : Prop :=
  ∃ S m cS ss, Uw w wr A n c sg P pn a Q qn b S m cS ss ∧ Good sg a b ss ∧ free (givesL ss) + 1 ≤ g
theorem uni_no {w w' : World} {sg a b : List Int} (h : ∀ M, ¬ Short sg a b M) (hb : Below w.heap.size w w') : AnsUni w sg a b (.returned (.tuple #[.agg #[.slice none 0 0], .bool false])) w' := ⟨hb, .inr ⟨rfl, h⟩⟩
theorem drew_below (w : World) (d : Nat) : Below w.heap.size w (w.drewN d) := ⟨rfl, rfl, rfl, Nat.le_refl _, fun _ _ => rfl⟩
theorem pre_step {x y : List Int} {k : Nat} (e : x.take k = y.take k) (hx : k < x.length) (hy : k < y.length) (h : x.getD k 0 = y.getD k 0) : x.take (k + 1) = y.take (k + 1) := by
  rw [List.take_succ_eq_append_getElem hx, List.take_succ_eq_append_getElem hy, e]
  simp [List.getD, hx, hy] at h
  rw [h]

/-- one side's variable, the other side's term -/
theorem arm {sg a b xs ys : List Int} {ss : List (List Int)} {k : Nat} {p q : Int} (hx : xs = fillL (givesL ss) a) (hy : ys = fillL (givesL ss) b) (g : Good sg a b ss) (s : Spot sg a b (givesL ss) k) (ep : xs.getD k 0 = p) (eq : ys.getD k 0 = q) (h0 : p < 0) :
    (p ∈ subL sg ys k → ∀ M, ¬ Short sg a b M) ∧ vr p < 24 ∧ 1 ≤ (subL sg ys k).length ∧ (p ∉ subL sg ys k → (0 ≤ q ∨ p < q) →
      ((∀ j, j < 24 → (compL (us1 (vr p) (subL sg ys k)) ss j).length ≤ 60) → Good sg a b (outL (us1 (vr p) (subL sg ys k)) ss 24) ∧ free (givesL (outL (us1 (vr p) (subL sg ys k)) ss 24)) < free (givesL ss)) ∧
      ((∃ j, j < 24 ∧ 60 < (compL (us1 (vr p) (subL sg ys k)) ss j).length) → ∀ M, ¬ Short sg a b M)) := by
  subst hx
  subst hy
  subst ep
  subst eq
  have tx := g.part.sub.fill s.ta
  have ty := g.part.sub.fill s.tb
  have hm : (fillL (givesL ss) a).getD k 0 ∈ fillL (givesL ss) a := by have := s.kx; simp [List.getD, this]
  have hv : vr ((fillL (givesL ss) a).getD k 0) < 24 := by have := tx.mem hm; unfold vr; omega
  have h1 : 1 ≤ (subL sg (fillL (givesL ss) b) k).length := (sub_trm ty s.ky).1.pos
  refine ⟨fun hi M hM => s.occurs g.part h0 hi M hM.toUni, hv, h1, fun hi h3 => ?_⟩
  have hp := s.bind g.part h0 hi h3
  have hf := free_bind s g.part h0 hi
  refine ⟨fun hc => ⟨g.next hv h1 hp hc, by rw [bound_gives hv h1 g.len]; exact hf⟩, fun ⟨j, hj, hl⟩ M hM => ?_⟩
  have := hp.each hM j
  unfold compL at hl
  rw [fill_ext (L' := ones (vr ((fillL (givesL ss) a).getD k 0)) (subL sg (fillL (givesL ss) b) k)) (fun x _ _ => us1_gives hv h1 _)] at hl
  omega
theorem Uw.store {w wr : World} {A : Option Addr} {n c : Nat} {sg : List Int} {P : Option Addr} {pn : Nat} {a : List Int} {Q : Option Addr} {qn : Nat} {b : List Int} {S O : Option Addr} {m m' cS cO : Nat} {ss ss' : List (List Int)} (h : Uw w wr A n c sg P pn a Q qn b S m cS ss) (ho : Owns wr (w.heap.size + 1 + 1 + 1) wr.heap.size O m' cO ss') :
    Uw w (wr.setCell ⟨w.heap.size + 1, 0, none⟩ (.slice O m' cO)) A n c sg P pn a Q qn b O m' cO ss' := by
  refine ⟨h.r0.far (show w.heap.size ≠ w.heap.size + 1 by omega) _, ?_, h.r2.far (show w.heap.size + 1 + 1 ≠ w.heap.size + 1 by omega) _, h.s.put (p := ⟨w.heap.size + 1, 0, none⟩) (show w.heap.size ≤ w.heap.size + 1 by omega) _, h.pa.put (p := ⟨w.heap.size + 1, 0, none⟩) (show w.heap.size ≤ w.heap.size + 1 by omega) _, h.qb.put (p := ⟨w.heap.size + 1, 0, none⟩) (show w.heap.size ≤ w.heap.size + 1 by omega) _, ?_, h.bel.setCell (p := ⟨w.heap.size + 1, 0, none⟩) (show w.heap.size ≤ w.heap.size + 1 by omega) _⟩
  · have := h.r1.put 0 (.slice O m' cO)
    simpa using this
  · have := owns_put ho h.r1 (show w.heap.size + 1 < w.heap.size + 1 + 1 + 1 by omega) 0 (.slice O m' cO)
    simpa using this

set_option maxHeartbeats 1500000 in
theorem l5Unify (A P Q : Option Addr) (n c pn pc qn qc : Nat) (sg a b : List Int) (w : World) (h : Seg w w.heap.size A n sg) (hp : Seg w w.heap.size P pn a) (hq : Seg w w.heap.size Q qn b) (hn : n ≤ 1048576) (hpn : pn ≤ 60) (hqn : qn ≤ 60) (hoka : termOkB sg a = true) (hokb : termOkB sg b = true) :
    Calls Try.prog 63 #[.agg #[.slice A n c], .agg #[.slice none 0 0], .slice P pn pc, .slice Q qn qc] w (AnsUni w sg a b) := by
  obtain ⟨W, hW⟩ : ∃ W, W = ((w.alloc (.cells #[.slice A n c] 26)).alloc (.cells #[.slice none 0 0] 31)).alloc (.cells #[.slice none 0 0] 31) := ⟨_, rfl⟩
  have bW : Below w.heap.size w W := by rw [hW]; exact (((Below.refl _ _).alloc (Nat.le_refl _) _).alloc (by simp) _).alloc (by simp; omega) _
  have U0 : Uw w W A n c sg P pn a Q qn b none 0 0 [] := by
    refine ⟨?_, ?_, ?_, h.below bW, hp.below bW, hq.below bW, Owns.nil _ _ _, bW⟩
    · rw [hW]; exact ((Row.new w _ _).alloc _).alloc _
    · rw [hW]
      have := (Row.new (w.alloc (.cells #[.slice A n c] 26)) 31 #[.slice none 0 0]).alloc (.cells #[.slice none 0 0] 31)
      simpa using this
    · rw [hW]
      have := Row.new ((w.alloc (.cells #[.slice A n c] 26)).alloc (.cells #[.slice none 0 0] 31)) 31 #[.slice none 0 0]
      simpa using this
  have HH := Lib.hid (show HeadU w A n c sg P pn a Q qn b 25 W from ⟨none, 0, 0, [], U0, Good.start sg a b, by have := free_le (givesL []); omega⟩)
  have HW := Lib.hid hW
  have HTA : Hid (Trm sg a) := Lib.hid (term_parts hoka).2.2
  have HTB : Hid (Trm sg b) := Lib.hid (term_parts hokb).2.2
  have hars := (sig_arities (termOk_parts hoka).1).1
  have hva := Lib.hid (fun x hx => (term_mem (x := x) hoka hx).1)
  have hvb := Lib.hid (fun x hx => (term_mem (x := x) hokb hx).1)
  clear U0 bW hW h hp hq hoka hokb
  go_enter Try.func63, Try.ntmps63
  go_wp2_with fail
  rw [← HW.out]
  go_loopg [] 25 (fun g wr => HeadU w A n c sg P pn a Q qn b g wr)
  case atStart => exact HH.out
  case round =>
    obtain ⟨S, m, cS, ss, U, hgood, hfree⟩ := hrel
    obtain ⟨G, hG⟩ : ∃ G, G = gk := ⟨_, rfl⟩
    subst hG
    clear HH
    have HG := Lib.hid hgood
    have HFR := Lib.hid hfree
    clear hgood hfree
    have c1 := U.c1
    obtain ⟨xs, hxs⟩ : ∃ x, fitL ss a = x := ⟨_, rfl⟩
    obtain ⟨ys, hys⟩ : ∃ x, fitL ss b = x := ⟨_, rfl⟩
    obtain ⟨fa, hfa⟩ : ∃ x, fitsB ss a = x := ⟨_, rfl⟩
    obtain ⟨fb, hfb⟩ : ∃ x, fitsB ss b = x := ⟨_, rfl⟩
    have HXS := Lib.hid hxs
    have HYS := Lib.hid hys
    have HFA := Lib.hid hfa
    have HFB := Lib.hid hfb
    clear hxs hys hfa hfb
    go_wp2_with fail
    refine (l2Filled S P m cS pn pc ss a wr U.sS.segs (U.pa.more (Nat.le_of_lt U.r0.lt)) HG.out.tot hpn hva.out HG.out.g60).mono ?_
    rintro e w1 ⟨X, xn, xc, he, ox, bb⟩
    rw [HFA.out] at he
    subst he
    rw [HXS.out] at ox
    have sx := Own.seg ox
    have kx := own_cap ox
    replace U := U.next bb
    clear ox bb c1
    have c1 := U.c1
    go_wp2_with fail
    refine (l2Filled S Q m cS qn qc ss b w1 U.sS.segs (U.qb.more (Nat.le_of_lt U.r0.lt)) HG.out.tot hqn hvb.out HG.out.g60).mono ?_
    rintro e w2 ⟨Y, yn, yc, he, oy, bb⟩
    rw [HFB.out] at he
    subst he
    rw [HYS.out] at oy
    have sy := Own.seg oy
    have ky := own_cap oy
    replace U := U.next bb
    replace sx := sx.next bb
    clear oy bb c1
    cases fa with
    | false =>
      have hno : ∀ M, ¬ Short sg a b M := fun M hM => by have h1 := HFA.out; unfold fitsB at h1; exact of_decide_eq_false h1 (HG.out.part.len hM).1
      have cR := U.c2
      have fR := U.f2
      have F1 := Lib.hid (uni_no (w := w) hno U.bel)
      have F2 := Lib.hid (uni_no (w := w) hno ((U.bel).setCell (p := ⟨w.heap.size + 1 + 1, 0, none⟩) (show w.heap.size ≤ w.heap.size + 1 + 1 by omega) (.slice none 0 0)))
      clear U hno sx sy
      go_wp2
      first
        | exact bodyPost_ret (v := .tuple #[.agg #[.slice none 0 0], .bool false]) (by simp [results, Try.results63, go_sem, cR]) rfl F1.out
        | exact bodyPost_ret (v := .tuple #[.agg #[.slice none 0 0], .bool false]) (by simp [results, Try.results63, go_sem, cR]) rfl F2.out
    | true =>
      cases fb with
      | false =>
        have hno : ∀ M, ¬ Short sg a b M := fun M hM => by have h1 := HFB.out; unfold fitsB at h1; exact of_decide_eq_false h1 (HG.out.part.len hM).2
        have cR := U.c2
        have fR := U.f2
        have F1 := Lib.hid (uni_no (w := w) hno U.bel)
        have F2 := Lib.hid (uni_no (w := w) hno ((U.bel).setCell (p := ⟨w.heap.size + 1 + 1, 0, none⟩) (show w.heap.size ≤ w.heap.size + 1 + 1 by omega) (.slice none 0 0)))
        clear U hno sx sy
        go_wp2
        first
          | exact bodyPost_ret (v := .tuple #[.agg #[.slice none 0 0], .bool false]) (by simp [results, Try.results63, go_sem, cR]) rfl F1.out
          | exact bodyPost_ret (v := .tuple #[.agg #[.slice none 0 0], .bool false]) (by simp [results, Try.results63, go_sem, cR]) rfl F2.out
      | true =>
        have HX := Lib.hid (HXS.out.symm.trans (fit_yes HFA.out).1)
        have HY := Lib.hid (HYS.out.symm.trans (fit_yes HFB.out).1)
        have hx60 : xn ≤ 60 := by rw [← sx.1, HX.out]; exact (fit_yes HFA.out).2
        have hy60 : yn ≤ 60 := by rw [← sy.1, HY.out]; exact (fit_yes HFB.out).2
        have HLX := Lib.hid sx.1
        have HLY := Lib.hid sy.1
        have HTX : Hid (Trm sg xs) := Lib.hid (by rw [HX.out]; exact HG.out.part.sub.fill HTA.out)
        have HTY : Hid (Trm sg ys) := Lib.hid (by rw [HY.out]; exact HG.out.part.sub.fill HTB.out)
        go_wp2_with fail
        go_loopg [14] xn (fun g k_ wr' => ∃ k d : Nat, k_ = .int .i64 k ∧ k + g = xn ∧ k ≤ yn ∧ xs.take k = ys.take k ∧ wr' = w2.drewN d)
        case atStart => exact ⟨0, 0, rfl, by omega, Nat.zero_le _, rfl, rfl⟩
        case round =>
          obtain ⟨k, d, rfl, hkg, hky, hpre, hwd⟩ := hrel
          have HKG := Lib.hid hkg
          have HPRE := Lib.hid hpre
          have i0 : (0 : Int) ≤ (k : Int) := by omega
          have bd : Below w2.heap.size w2 wr := by rw [hwd]; exact drew_below _ _
          have HWD := Lib.hid hwd
          replace U := U.next bd
          replace sx := sx.next bd
          replace sy := sy.next bd
          clear bd hwd hkg hpre
          by_cases hkx : k < xn
          · have j1 : (k : Int) < (xn : Int) := by omega
            by_cases hky2 : k < yn
            · have j2 : (k : Int) < (yn : Int) := by omega
              obtain ⟨b1, o1, p, rfl, hb1, hp, ep⟩ := sx.spot hkx
              obtain ⟨b2, o2, q, rfl, hb2, hq, eq⟩ := sy.spot hky2
              by_cases hpq : p = q
              · subst hpq
                have S1 := Lib.hid (fun d' => (show ∃ k' d : Nat, (.int .i64 ((k : Int) + 1) : Value) = .int .i64 k' ∧ k' + (gk - 1) = xn ∧ k' ≤ yn ∧ xs.take k' = ys.take k' ∧ wr.drewN d' = w2.drewN d from ⟨k + 1, d + d', by simp, by have := HKG.out; omega, hky2, pre_step HPRE.out (by rw [HLX.out]; exact hkx) (by rw [HLY.out]; exact hky2) (by rw [ep.out, eq.out]), by rw [HWD.out, World.drewN_drewN]⟩))
                have hgk := Lib.hid (show gk - 1 < gk by have := HKG.out; omega)
                clear sx sy U ep eq
                go_wp2
                go_quiet (fail)
                go_wp2
                go_roundg (gk - 1)
                case measure => exact hgk.out
                case rel => exact S1.out _
              · have HS := Lib.hid (show Spot sg a b (givesL ss) k from ⟨HTA.out, HTB.out, by rw [← HX.out, ← HY.out]; exact HPRE.out, by rw [← HX.out, HLX.out]; exact hkx, by rw [← HY.out, HLY.out]; exact hky2, by rw [← HX.out, ← HY.out, ep.out, eq.out]; exact hpq⟩)
                have HEP := Lib.hid ep.out
                have HEQ := Lib.hid eq.out
                have jx : ((k : Int) == (xn : Int)) = false := by simp; omega
                have hpd : (p == q) = false := by simp [hpq]
                have hp24 : -24 ≤ p := HTX.out.mem (by rw [← HEP.out]; have := HLX.out; simp [List.getD, show k < xs.length by omega])
                have hq24 : -24 ≤ q := HTY.out.mem (by rw [← HEQ.out]; have := HLY.out; simp [List.getD, show k < ys.length by omega])
                obtain ⟨jy, sy1, sy2, sy3⟩ := scan_at HTY.out (show k < ys.length by rw [HLY.out]; exact hky2)
                obtain ⟨jxx, sx1, sx2, sx3⟩ := scan_at HTX.out (show k < xs.length by rw [HLX.out]; exact hkx)
                rw [HLY.out] at sy3
                rw [HLX.out] at sx3
                have LX := Lib.hid (fun w' (hb : Below wr.heap.size wr w') => l1Sub A (some ⟨b1, o1, none⟩) n c xn xc sg xs k jxx w' ((U.next hb).s.more (Nat.le_of_lt (U.next hb).r0.lt)) (sx.next hb) hn (by omega) kx.1 kx.2.1 hars hkx sx1 sx2 sx3)
                have LY := Lib.hid (fun w' (hb : Below wr.heap.size wr w') => l1Sub A (some ⟨b2, o2, none⟩) n c yn yc sg ys k jy w' ((U.next hb).s.more (Nat.le_of_lt (U.next hb).r0.lt)) (sy.next hb) hn (by omega) ky.1 ky.2.1 hars hky2 sy1 sy2 sy3)
                have lenx : (subL sg xs k).length ≤ 60 := by unfold subL; rw [List.length_take, List.length_drop, HLX.out]; omega
                have leny : (subL sg ys k).length ≤ 60 := by unfold subL; rw [List.length_take, List.length_drop, HLY.out]; omega
                clear ep eq sy1 sy2 sy3 sx1 sx2 sx3
                go_wp2_with fail
                go_quiet (fail)
                have bd := drew_below wr nq
                replace U := U.next bd
                have p1 : (wr.drewN nq).cell? ⟨b1, o1 + k, none⟩ = some (.int .i64 p) := hp
                have q1 : (wr.drewN nq).cell? ⟨b2, o2 + k, none⟩ = some (.int .i64 q) := hq
                have LX := Lib.hid (fun w' (hb : Below (wr.drewN nq).heap.size (wr.drewN nq) w') => LX.out w' (next_trans bd hb))
                have LY := Lib.hid (fun w' (hb : Below (wr.drewN nq).heap.size (wr.drewN nq) w') => LY.out w' (next_trans bd hb))
                clear hp hq bd sx sy
                generalize wr.drewN nq = w3 at *
                have c0 := U.c0
                go_wp2_with fail
                refine (LY.out w3 (Below.refl _ _)).mono ?_
                rintro e w4 ⟨D, dn, dc, rfl, od, bb⟩
                have hdn : dn ≤ 60 := by rw [Own.len od]; exact leny
                have LX := Lib.hid (LX.out w4 bb)
                replace U := U.next bb
                clear LY bb c0 p1 q1
                by_cases hp0 : 0 ≤ p
                · by_cases hq0 : 0 ≤ q
                  · have hno : ∀ M, ¬ Short sg a b M := fun M hM => HS.out.clash HG.out.part (by rw [← HX.out, HEP.out]; exact hp0) (by rw [← HY.out, HEQ.out]; exact hq0) M hM.toUni
                    have cR := U.c2
                    have fR := U.f2
                    have F1 := Lib.hid (uni_no (w := w) hno U.bel)
                    have F2 := Lib.hid (uni_no (w := w) hno ((U.bel).setCell (p := ⟨w.heap.size + 1 + 1, 0, none⟩) (show w.heap.size ≤ w.heap.size + 1 + 1 by omega) (.slice none 0 0)))
                    clear U hno od LX
                    go_wp2
                    first
                      | exact bodyPost_ret (v := .tuple #[.agg #[.slice none 0 0], .bool false]) (by simp [results, Try.results63, go_sem, cR]) rfl F1.out
                      | exact bodyPost_ret (v := .tuple #[.agg #[.slice none 0 0], .bool false]) (by simp [results, Try.results63, go_sem, cR]) rfl F2.out
                  · have hq1 : q < 0 := by omega
                    have HARM := Lib.hid (arm HY.out HX.out HG.out.symm HS.out.symm HEQ.out HEP.out (by omega))
                    clear od hdn
                    have c0 := U.c0
                    go_wp2_with fail
                    refine LX.out.mono ?_
                    rintro e w5 ⟨D, dn, dc, rfl, od, bb⟩
                    have hdn : dn ≤ 60 := by rw [Own.len od]; exact lenx
                    replace U := U.next bb
                    clear LX bb c0
                    obtain ⟨v, hv⟩ : ∃ v : Nat, q = -1 - (v : Int) := ⟨(-1 - q).toNat, by omega⟩
                    have HVR := Lib.hid (show vr q = v by unfold vr; omega)
                    have HVV := Lib.hid hv
                    clear hv
                    have hv24 : v < 24 := by rw [← HVR.out]; exact HARM.out.2.1
                    have HT1 := Lib.hid HARM.out.2.2.1
                    have ht60 : (subL sg xs k).length ≤ 60 := by rw [← Own.len od]; exact hdn
                    have sd := Own.seg od
                    have kd := own_cap od
                    obtain ⟨hm, ehm⟩ : ∃ z, decide (q ∈ subL sg xs k) = z := ⟨_, rfl⟩
                    have HMM := Lib.hid ehm
                    have LH := Lib.hid (l1Has D dn dc (subL sg xs k) q w5 sd (by omega))
                    rw [ehm] at LH
                    clear ehm
                    cases hm with
                    | true =>
                      go_wp2_with fail
                      refine LH.out.mono ?_
                      rintro e w5 ⟨rfl, rfl⟩
                      have hno : ∀ M, ¬ Short sg a b M := (fun M hM => (HARM.out.1 (of_decide_eq_true HMM.out)) M hM.symm)
                      have cR := U.c2
                      have fR := U.f2
                      have F1 := Lib.hid (uni_no (w := w) hno U.bel)
                      have F2 := Lib.hid (uni_no (w := w) hno ((U.bel).setCell (p := ⟨w.heap.size + 1 + 1, 0, none⟩) (show w.heap.size ≤ w.heap.size + 1 + 1 by omega) (.slice none 0 0)))
                      clear U hno sd LH od
                      go_wp2
                      first
                        | exact bodyPost_ret (v := .tuple #[.agg #[.slice none 0 0], .bool false]) (by simp [results, Try.results63, go_sem, cR]) rfl F1.out
                        | exact bodyPost_ret (v := .tuple #[.agg #[.slice none 0 0], .bool false]) (by simp [results, Try.results63, go_sem, cR]) rfl F2.out
                    | false =>
                      have hwv : IntKind.i64.wrap (-1 - q) = (v : Int) := by have := HVV.out; rw [IntKind.wrap_i64]; omega
                      have hwv2 := Lib.hid (show -1 - q = (v : Int) by have := HVV.out; omega)
                      have HA4 := Lib.hid (HARM.out.2.2.2 (of_decide_eq_false HMM.out) (.inl hp0))
                      rw [HVR.out] at HA4
                      have c1 := U.c1
                      have LB := Lib.hid (l5Bind S D m cS dn dc v ss (subL sg xs k) w5 U.sS.segs sd kd HG.out.tot hv24 HT1.out ht60 HG.out.g60 HG.out.neg)
                      go_wp2_with fail
                      refine LH.out.mono ?_
                      rintro e w5 ⟨rfl, rfl⟩
                      clear LH sd od
                      go_wp2_with fail
                      (try rw [hwv2.out])
                      refine LB.out.mono ?_
                      rintro e w6 ⟨bb, ⟨O, cO, rfl, oo, hall⟩ | ⟨rfl, hlong⟩⟩
                      · have hg2 := HA4.out.1 hall
                        have hf2 := hg2.2
                        have hz5 := U.size
                        have hz6 := bb.size
                        have U6 := U.next bb
                        have B7 : Below w6.heap.size w6 (w6.alloc (.cells #[.slice O 24 cO] 31)) := (Below.refl _ _).alloc (Nat.le_refl _) _
                        have U7 := U6.next B7
                        have o7 : Owns (w6.alloc (.cells #[.slice O 24 cO] 31)) (w.heap.size + 1 + 1 + 1) (w6.alloc (.cells #[.slice O 24 cO] 31)).heap.size O 24 cO _ := (oo.next B7).wider (by omega) B7.size
                        have HN := Lib.hid (show HeadU w A n c sg P pn a Q qn b (G - 1) ((w6.alloc (.cells #[.slice O 24 cO] 31)).setCell ⟨w.heap.size + 1, 0, none⟩ (.slice O 24 cO)) from ⟨O, 24, cO, _, U7.store o7, hg2.1.symm, by have := HFR.out; omega⟩)
                        have hgk := Lib.hid (show G - 1 < G by have := HFR.out; omega)
                        have c1 : (w6.alloc (.cells #[.slice O 24 cO] 31)).cell? ⟨w.heap.size + 1, 0, none⟩ = some (.slice S m cS) := U7.c1
                        have f1 : (w6.alloc (.cells #[.slice O 24 cO] 31)).frozen? ⟨w.heap.size + 1, 0, none⟩ = false := U7.r1.free 0
                        have d1 : w6.cell? ⟨w.heap.size + 1, 0, none⟩ = some (.slice S m cS) := U6.c1
                        clear LB hg2 hf2 hz5 hz6 U6 U7 o7 oo bb B7 U hall
                        go_wp2
                        go_roundg (G - 1)
                        case measure => exact hgk.out
                        case rel => exact HN.out
                      · replace U := (U.next bb).next (w' := w6.alloc (.cells #[.slice none 0 0] 31)) ((Below.refl _ _).alloc (Nat.le_refl _) _)
                        have hno : ∀ M, ¬ Short sg a b M := (fun M hM => (HA4.out.2 hlong) M hM.symm)
                        have cR := U.c2
                        have fR := U.f2
                        have F1 := Lib.hid (uni_no (w := w) hno U.bel)
                        have F2 := Lib.hid (uni_no (w := w) hno ((U.bel).setCell (p := ⟨w.heap.size + 1 + 1, 0, none⟩) (show w.heap.size ≤ w.heap.size + 1 + 1 by omega) (.slice none 0 0)))
                        clear U hno LB bb c1
                        go_wp2
                        first
                          | exact bodyPost_ret (v := .tuple #[.agg #[.slice none 0 0], .bool false]) (by simp [results, Try.results63, go_sem, cR]) rfl F1.out
                          | exact bodyPost_ret (v := .tuple #[.agg #[.slice none 0 0], .bool false]) (by simp [results, Try.results63, go_sem, cR]) rfl F2.out
                · have hp1 : p < 0 := by omega
                  by_cases hq0 : q < 0
                  · by_cases hqp : q < p
                    · have HARM := Lib.hid (arm HY.out HX.out HG.out.symm HS.out.symm HEQ.out HEP.out (by omega))
                      clear od hdn
                      have c0 := U.c0
                      go_wp2_with fail
                      refine LX.out.mono ?_
                      rintro e w5 ⟨D, dn, dc, rfl, od, bb⟩
                      have hdn : dn ≤ 60 := by rw [Own.len od]; exact lenx
                      replace U := U.next bb
                      clear LX bb c0
                      obtain ⟨v, hv⟩ : ∃ v : Nat, q = -1 - (v : Int) := ⟨(-1 - q).toNat, by omega⟩
                      have HVR := Lib.hid (show vr q = v by unfold vr; omega)
                      have HVV := Lib.hid hv
                      clear hv
                      have hv24 : v < 24 := by rw [← HVR.out]; exact HARM.out.2.1
                      have HT1 := Lib.hid HARM.out.2.2.1
                      have ht60 : (subL sg xs k).length ≤ 60 := by rw [← Own.len od]; exact hdn
                      have sd := Own.seg od
                      have kd := own_cap od
                      obtain ⟨hm, ehm⟩ : ∃ z, decide (q ∈ subL sg xs k) = z := ⟨_, rfl⟩
                      have HMM := Lib.hid ehm
                      have LH := Lib.hid (l1Has D dn dc (subL sg xs k) q w5 sd (by omega))
                      rw [ehm] at LH
                      clear ehm
                      cases hm with
                      | true =>
                        go_wp2_with fail
                        refine LH.out.mono ?_
                        rintro e w5 ⟨rfl, rfl⟩
                        have hno : ∀ M, ¬ Short sg a b M := (fun M hM => (HARM.out.1 (of_decide_eq_true HMM.out)) M hM.symm)
                        have cR := U.c2
                        have fR := U.f2
                        have F1 := Lib.hid (uni_no (w := w) hno U.bel)
                        have F2 := Lib.hid (uni_no (w := w) hno ((U.bel).setCell (p := ⟨w.heap.size + 1 + 1, 0, none⟩) (show w.heap.size ≤ w.heap.size + 1 + 1 by omega) (.slice none 0 0)))
                        clear U hno sd LH od
                        go_wp2
                        first
                          | exact bodyPost_ret (v := .tuple #[.agg #[.slice none 0 0], .bool false]) (by simp [results, Try.results63, go_sem, cR]) rfl F1.out
                          | exact bodyPost_ret (v := .tuple #[.agg #[.slice none 0 0], .bool false]) (by simp [results, Try.results63, go_sem, cR]) rfl F2.out
                      | false =>
                        have hwv : IntKind.i64.wrap (-1 - q) = (v : Int) := by have := HVV.out; rw [IntKind.wrap_i64]; omega
                        have hwv2 := Lib.hid (show -1 - q = (v : Int) by have := HVV.out; omega)
                        have HA4 := Lib.hid (HARM.out.2.2.2 (of_decide_eq_false HMM.out) (.inr hqp))
                        rw [HVR.out] at HA4
                        have c1 := U.c1
                        have LB := Lib.hid (l5Bind S D m cS dn dc v ss (subL sg xs k) w5 U.sS.segs sd kd HG.out.tot hv24 HT1.out ht60 HG.out.g60 HG.out.neg)
                        go_wp2_with fail
                        refine LH.out.mono ?_
                        rintro e w5 ⟨rfl, rfl⟩
                        clear LH sd od
                        go_wp2_with fail
                        (try rw [hwv2.out])
                        refine LB.out.mono ?_
                        rintro e w6 ⟨bb, ⟨O, cO, rfl, oo, hall⟩ | ⟨rfl, hlong⟩⟩
                        · have hg2 := HA4.out.1 hall
                          have hf2 := hg2.2
                          have hz5 := U.size
                          have hz6 := bb.size
                          have U6 := U.next bb
                          have B7 : Below w6.heap.size w6 (w6.alloc (.cells #[.slice O 24 cO] 31)) := (Below.refl _ _).alloc (Nat.le_refl _) _
                          have U7 := U6.next B7
                          have o7 : Owns (w6.alloc (.cells #[.slice O 24 cO] 31)) (w.heap.size + 1 + 1 + 1) (w6.alloc (.cells #[.slice O 24 cO] 31)).heap.size O 24 cO _ := (oo.next B7).wider (by omega) B7.size
                          have HN := Lib.hid (show HeadU w A n c sg P pn a Q qn b (G - 1) ((w6.alloc (.cells #[.slice O 24 cO] 31)).setCell ⟨w.heap.size + 1, 0, none⟩ (.slice O 24 cO)) from ⟨O, 24, cO, _, U7.store o7, hg2.1.symm, by have := HFR.out; omega⟩)
                          have hgk := Lib.hid (show G - 1 < G by have := HFR.out; omega)
                          have c1 : (w6.alloc (.cells #[.slice O 24 cO] 31)).cell? ⟨w.heap.size + 1, 0, none⟩ = some (.slice S m cS) := U7.c1
                          have f1 : (w6.alloc (.cells #[.slice O 24 cO] 31)).frozen? ⟨w.heap.size + 1, 0, none⟩ = false := U7.r1.free 0
                          have d1 : w6.cell? ⟨w.heap.size + 1, 0, none⟩ = some (.slice S m cS) := U6.c1
                          clear LB hg2 hf2 hz5 hz6 U6 U7 o7 oo bb B7 U hall
                          go_wp2
                          go_roundg (G - 1)
                          case measure => exact hgk.out
                          case rel => exact HN.out
                        · replace U := (U.next bb).next (w' := w6.alloc (.cells #[.slice none 0 0] 31)) ((Below.refl _ _).alloc (Nat.le_refl _) _)
                          have hno : ∀ M, ¬ Short sg a b M := (fun M hM => (HA4.out.2 hlong) M hM.symm)
                          have cR := U.c2
                          have fR := U.f2
                          have F1 := Lib.hid (uni_no (w := w) hno U.bel)
                          have F2 := Lib.hid (uni_no (w := w) hno ((U.bel).setCell (p := ⟨w.heap.size + 1 + 1, 0, none⟩) (show w.heap.size ≤ w.heap.size + 1 + 1 by omega) (.slice none 0 0)))
                          clear U hno LB bb c1
                          go_wp2
                          first
                            | exact bodyPost_ret (v := .tuple #[.agg #[.slice none 0 0], .bool false]) (by simp [results, Try.results63, go_sem, cR]) rfl F1.out
                            | exact bodyPost_ret (v := .tuple #[.agg #[.slice none 0 0], .bool false]) (by simp [results, Try.results63, go_sem, cR]) rfl F2.out
                    · have HARM := Lib.hid (arm HX.out HY.out HG.out HS.out HEP.out HEQ.out (by omega))
                      clear LX
                      obtain ⟨v, hv⟩ : ∃ v : Nat, p = -1 - (v : Int) := ⟨(-1 - p).toNat, by omega⟩
                      have HVR := Lib.hid (show vr p = v by unfold vr; omega)
                      have HVV := Lib.hid hv
                      clear hv
                      have hv24 : v < 24 := by rw [← HVR.out]; exact HARM.out.2.1
                      have HT1 := Lib.hid HARM.out.2.2.1
                      have ht60 : (subL sg ys k).length ≤ 60 := by rw [← Own.len od]; exact hdn
                      have sd := Own.seg od
                      have kd := own_cap od
                      obtain ⟨hm, ehm⟩ : ∃ z, decide (p ∈ subL sg ys k) = z := ⟨_, rfl⟩
                      have HMM := Lib.hid ehm
                      have LH := Lib.hid (l1Has D dn dc (subL sg ys k) p w4 sd (by omega))
                      rw [ehm] at LH
                      clear ehm
                      cases hm with
                      | true =>
                        go_wp2_with fail
                        refine LH.out.mono ?_
                        rintro e w5 ⟨rfl, rfl⟩
                        have hno : ∀ M, ¬ Short sg a b M := HARM.out.1 (of_decide_eq_true HMM.out)
                        have cR := U.c2
                        have fR := U.f2
                        have F1 := Lib.hid (uni_no (w := w) hno U.bel)
                        have F2 := Lib.hid (uni_no (w := w) hno ((U.bel).setCell (p := ⟨w.heap.size + 1 + 1, 0, none⟩) (show w.heap.size ≤ w.heap.size + 1 + 1 by omega) (.slice none 0 0)))
                        clear U hno sd LH od
                        go_wp2
                        first
                          | exact bodyPost_ret (v := .tuple #[.agg #[.slice none 0 0], .bool false]) (by simp [results, Try.results63, go_sem, cR]) rfl F1.out
                          | exact bodyPost_ret (v := .tuple #[.agg #[.slice none 0 0], .bool false]) (by simp [results, Try.results63, go_sem, cR]) rfl F2.out
                      | false =>
                        have hwv : IntKind.i64.wrap (-1 - p) = (v : Int) := by have := HVV.out; rw [IntKind.wrap_i64]; omega
                        have hwv2 := Lib.hid (show -1 - p = (v : Int) by have := HVV.out; omega)
                        have HA4 := Lib.hid (HARM.out.2.2.2 (of_decide_eq_false HMM.out) (.inr (by omega)))
                        rw [HVR.out] at HA4
                        have c1 := U.c1
                        have LB := Lib.hid (l5Bind S D m cS dn dc v ss (subL sg ys k) w4 U.sS.segs sd kd HG.out.tot hv24 HT1.out ht60 HG.out.g60 HG.out.neg)
                        go_wp2_with fail
                        refine LH.out.mono ?_
                        rintro e w5 ⟨rfl, rfl⟩
                        clear LH sd od
                        go_wp2_with fail
                        (try rw [hwv2.out])
                        refine LB.out.mono ?_
                        rintro e w6 ⟨bb, ⟨O, cO, rfl, oo, hall⟩ | ⟨rfl, hlong⟩⟩
                        · have hg2 := HA4.out.1 hall
                          have hf2 := hg2.2
                          have hz5 := U.size
                          have hz6 := bb.size
                          have U6 := U.next bb
                          have B7 : Below w6.heap.size w6 (w6.alloc (.cells #[.slice O 24 cO] 31)) := (Below.refl _ _).alloc (Nat.le_refl _) _
                          have U7 := U6.next B7
                          have o7 : Owns (w6.alloc (.cells #[.slice O 24 cO] 31)) (w.heap.size + 1 + 1 + 1) (w6.alloc (.cells #[.slice O 24 cO] 31)).heap.size O 24 cO _ := (oo.next B7).wider (by omega) B7.size
                          have HN := Lib.hid (show HeadU w A n c sg P pn a Q qn b (G - 1) ((w6.alloc (.cells #[.slice O 24 cO] 31)).setCell ⟨w.heap.size + 1, 0, none⟩ (.slice O 24 cO)) from ⟨O, 24, cO, _, U7.store o7, hg2.1, by have := HFR.out; omega⟩)
                          have hgk := Lib.hid (show G - 1 < G by have := HFR.out; omega)
                          have c1 : (w6.alloc (.cells #[.slice O 24 cO] 31)).cell? ⟨w.heap.size + 1, 0, none⟩ = some (.slice S m cS) := U7.c1
                          have f1 : (w6.alloc (.cells #[.slice O 24 cO] 31)).frozen? ⟨w.heap.size + 1, 0, none⟩ = false := U7.r1.free 0
                          have d1 : w6.cell? ⟨w.heap.size + 1, 0, none⟩ = some (.slice S m cS) := U6.c1
                          clear LB hg2 hf2 hz5 hz6 U6 U7 o7 oo bb B7 U hall
                          go_wp2
                          go_roundg (G - 1)
                          case measure => exact hgk.out
                          case rel => exact HN.out
                        · replace U := (U.next bb).next (w' := w6.alloc (.cells #[.slice none 0 0] 31)) ((Below.refl _ _).alloc (Nat.le_refl _) _)
                          have hno : ∀ M, ¬ Short sg a b M := HA4.out.2 hlong
                          have cR := U.c2
                          have fR := U.f2
                          have F1 := Lib.hid (uni_no (w := w) hno U.bel)
                          have F2 := Lib.hid (uni_no (w := w) hno ((U.bel).setCell (p := ⟨w.heap.size + 1 + 1, 0, none⟩) (show w.heap.size ≤ w.heap.size + 1 + 1 by omega) (.slice none 0 0)))
                          clear U hno LB bb c1
                          go_wp2
                          first
                            | exact bodyPost_ret (v := .tuple #[.agg #[.slice none 0 0], .bool false]) (by simp [results, Try.results63, go_sem, cR]) rfl F1.out
                            | exact bodyPost_ret (v := .tuple #[.agg #[.slice none 0 0], .bool false]) (by simp [results, Try.results63, go_sem, cR]) rfl F2.out
                  · have hq1 : 0 ≤ q := by omega
                    have HARM := Lib.hid (arm HX.out HY.out HG.out HS.out HEP.out HEQ.out (by omega))
                    clear LX
                    obtain ⟨v, hv⟩ : ∃ v : Nat, p = -1 - (v : Int) := ⟨(-1 - p).toNat, by omega⟩
                    have HVR := Lib.hid (show vr p = v by unfold vr; omega)
                    have HVV := Lib.hid hv
                    clear hv
                    have hv24 : v < 24 := by rw [← HVR.out]; exact HARM.out.2.1
                    have HT1 := Lib.hid HARM.out.2.2.1
                    have ht60 : (subL sg ys k).length ≤ 60 := by rw [← Own.len od]; exact hdn
                    have sd := Own.seg od
                    have kd := own_cap od
                    obtain ⟨hm, ehm⟩ : ∃ z, decide (p ∈ subL sg ys k) = z := ⟨_, rfl⟩
                    have HMM := Lib.hid ehm
                    have LH := Lib.hid (l1Has D dn dc (subL sg ys k) p w4 sd (by omega))
                    rw [ehm] at LH
                    clear ehm
                    cases hm with
                    | true =>
                      go_wp2_with fail
                      refine LH.out.mono ?_
                      rintro e w5 ⟨rfl, rfl⟩
                      have hno : ∀ M, ¬ Short sg a b M := HARM.out.1 (of_decide_eq_true HMM.out)
                      have cR := U.c2
                      have fR := U.f2
                      have F1 := Lib.hid (uni_no (w := w) hno U.bel)
                      have F2 := Lib.hid (uni_no (w := w) hno ((U.bel).setCell (p := ⟨w.heap.size + 1 + 1, 0, none⟩) (show w.heap.size ≤ w.heap.size + 1 + 1 by omega) (.slice none 0 0)))
                      clear U hno sd LH od
                      go_wp2
                      first
                        | exact bodyPost_ret (v := .tuple #[.agg #[.slice none 0 0], .bool false]) (by simp [results, Try.results63, go_sem, cR]) rfl F1.out
                        | exact bodyPost_ret (v := .tuple #[.agg #[.slice none 0 0], .bool false]) (by simp [results, Try.results63, go_sem, cR]) rfl F2.out
                    | false =>
                      have hwv : IntKind.i64.wrap (-1 - p) = (v : Int) := by have := HVV.out; rw [IntKind.wrap_i64]; omega
                      have hwv2 := Lib.hid (show -1 - p = (v : Int) by have := HVV.out; omega)
                      have HA4 := Lib.hid (HARM.out.2.2.2 (of_decide_eq_false HMM.out) (.inl hq1))
                      rw [HVR.out] at HA4
                      have c1 := U.c1
                      have LB := Lib.hid (l5Bind S D m cS dn dc v ss (subL sg ys k) w4 U.sS.segs sd kd HG.out.tot hv24 HT1.out ht60 HG.out.g60 HG.out.neg)
                      go_wp2_with fail
                      refine LH.out.mono ?_
                      rintro e w5 ⟨rfl, rfl⟩
                      clear LH sd od
                      go_wp2_with fail
                      (try rw [hwv2.out])
                      refine LB.out.mono ?_
                      rintro e w6 ⟨bb, ⟨O, cO, rfl, oo, hall⟩ | ⟨rfl, hlong⟩⟩
                      · have hg2 := HA4.out.1 hall
                        have hf2 := hg2.2
                        have hz5 := U.size
                        have hz6 := bb.size
                        have U6 := U.next bb
                        have B7 : Below w6.heap.size w6 (w6.alloc (.cells #[.slice O 24 cO] 31)) := (Below.refl _ _).alloc (Nat.le_refl _) _
                        have U7 := U6.next B7
                        have o7 : Owns (w6.alloc (.cells #[.slice O 24 cO] 31)) (w.heap.size + 1 + 1 + 1) (w6.alloc (.cells #[.slice O 24 cO] 31)).heap.size O 24 cO _ := (oo.next B7).wider (by omega) B7.size
                        have HN := Lib.hid (show HeadU w A n c sg P pn a Q qn b (G - 1) ((w6.alloc (.cells #[.slice O 24 cO] 31)).setCell ⟨w.heap.size + 1, 0, none⟩ (.slice O 24 cO)) from ⟨O, 24, cO, _, U7.store o7, hg2.1, by have := HFR.out; omega⟩)
                        have hgk := Lib.hid (show G - 1 < G by have := HFR.out; omega)
                        have c1 : (w6.alloc (.cells #[.slice O 24 cO] 31)).cell? ⟨w.heap.size + 1, 0, none⟩ = some (.slice S m cS) := U7.c1
                        have f1 : (w6.alloc (.cells #[.slice O 24 cO] 31)).frozen? ⟨w.heap.size + 1, 0, none⟩ = false := U7.r1.free 0
                        have d1 : w6.cell? ⟨w.heap.size + 1, 0, none⟩ = some (.slice S m cS) := U6.c1
                        clear LB hg2 hf2 hz5 hz6 U6 U7 o7 oo bb B7 U hall
                        go_wp2
                        go_roundg (G - 1)
                        case measure => exact hgk.out
                        case rel => exact HN.out
                      · replace U := (U.next bb).next (w' := w6.alloc (.cells #[.slice none 0 0] 31)) ((Below.refl _ _).alloc (Nat.le_refl _) _)
                        have hno : ∀ M, ¬ Short sg a b M := HA4.out.2 hlong
                        have cR := U.c2
                        have fR := U.f2
                        have F1 := Lib.hid (uni_no (w := w) hno U.bel)
                        have F2 := Lib.hid (uni_no (w := w) hno ((U.bel).setCell (p := ⟨w.heap.size + 1 + 1, 0, none⟩) (show w.heap.size ≤ w.heap.size + 1 + 1 by omega) (.slice none 0 0)))
                        clear U hno LB bb c1
                        go_wp2
                        first
                          | exact bodyPost_ret (v := .tuple #[.agg #[.slice none 0 0], .bool false]) (by simp [results, Try.results63, go_sem, cR]) rfl F1.out
                          | exact bodyPost_ret (v := .tuple #[.agg #[.slice none 0 0], .bool false]) (by simp [results, Try.results63, go_sem, cR]) rfl F2.out
            · have hyk : k = yn := by omega
              have := unifMath.differ HTX.out HTY.out HPRE.out (by rw [HLX.out]; omega) (by rw [HLY.out]; omega) (.inr (by rw [HLY.out]; exact hyk))
              have h1 := HLX.out
              rw [this, HLY.out] at h1
              omega
          · have hxk : k = xn := by have := HKG.out; omega
            have he : fillL (givesL ss) a = fillL (givesL ss) b := by
              rw [← HX.out, ← HY.out]
              exact unifMath.differ HTX.out HTY.out HPRE.out (by rw [HLX.out]; omega) (by rw [HLY.out]; omega) (.inl (by rw [HLX.out]; exact hxk))
            have j1 : (xn : Int) ≤ (k : Int) := by omega
            have jj : ((k : Int) == (xn : Int)) = true := by simp [hxk]
            clear sx sy
            go_wp2_with fail
            go_quiet (fail)
            replace U := U.next (drew_below wr nq)
            generalize wr.drewN nq = w9 at *
            have cR := U.c2
            have fR := U.f2
            have c1 := U.c1
            have F : AnsUni w sg a b (.returned (.tuple #[.agg #[.slice S m cS], .bool true])) (w9.setCell ⟨w.heap.size + 1 + 1, 0, none⟩ (.slice S m cS)) :=
              ⟨(U.bel).setCell (p := ⟨w.heap.size + 1 + 1, 0, none⟩) (show w.heap.size ≤ w.heap.size + 1 + 1 by omega) _, .inl ⟨S, m, cS, ss, rfl, (owns_put U.sS U.r2 (Nat.lt_succ_self _) 0 _).wider (by omega) (by simp), HG.out, he, (fit_yes HFA.out).2⟩⟩
            have HF := Lib.hid F
            clear F U hxk he
            go_wp2
            exact bodyPost_ret (v := .tuple #[.agg #[.slice S m cS], .bool true]) (by simp [results, Try.results63, go_sem, cR]) rfl HF.out
end Go.Proofs.Ytkmhnkljigncmaa.unifSpec
end

section
/-
  CONTRACTS: spec.Unified, UnifiesIn. Conditions: the slices read as lists ('Seg'), at most 1048576 numbers; what is told of the two lists is given ('IsU'). By an AI agent.
-/
namespace Go.Proofs.Ytkmhnkljigncmaa.unified
open Go.RowKit Go.Proofs.Ytkmhnkljigncmaa.base Go.Proofs.Ytkmhnkljigncmaa.ints Go.Proofs.Ytkmhnkljigncmaa.sig Go.Proofs.Ytkmhnkljigncmaa.term Go.Proofs.Ytkmhnkljigncmaa.termOk Go.Proofs.Ytkmhnkljigncmaa.endAt Go.Proofs.Ytkmhnkljigncmaa.sub Go.Proofs.Ytkmhnkljigncmaa.cursor Go.Proofs.Ytkmhnkljigncmaa.marks Go.Proofs.Ytkmhnkljigncmaa.app Go.Proofs.Ytkmhnkljigncmaa.sym Go.Proofs.Ytkmhnkljigncmaa.look Go.Proofs.Ytkmhnkljigncmaa.segs Go.Proofs.Ytkmhnkljigncmaa.segsHelp Go.Proofs.Ytkmhnkljigncmaa.kinds Go.Proofs.Ytkmhnkljigncmaa.termFacts Go.Proofs.Ytkmhnkljigncmaa.fillMath Go.Proofs.Ytkmhnkljigncmaa.substOk Go.Proofs.Ytkmhnkljigncmaa.gives Go.Proofs.Ytkmhnkljigncmaa.shifted Go.Proofs.Ytkmhnkljigncmaa.filled Go.Proofs.Ytkmhnkljigncmaa.plainMath Go.Proofs.Ytkmhnkljigncmaa.plain Go.Proofs.Ytkmhnkljigncmaa.plainOf Go.Proofs.Ytkmhnkljigncmaa.compMath Go.Proofs.Ytkmhnkljigncmaa.rename Go.Proofs.Ytkmhnkljigncmaa.matchMath Go.Proofs.Ytkmhnkljigncmaa.unifMath Go.Proofs.Ytkmhnkljigncmaa.bind Go.Proofs.Ytkmhnkljigncmaa.unifSpec Go.Proofs.Ytkmhnkljigncmaa.inside
set_option maxRecDepth 100000

/-- a substitution of the call's own, and whether -/
def AnsUB (w : World) (xss : List (List Int)) (b : Bool) (e : Ending) (w' : World) : Prop := ∃ A n c, e = .returned (.tuple #[.agg #[.slice A n c], .bool b]) ∧ Owns w' w.heap.size w'.heap.size A n c xss ∧ Below w.heap.size w w'
theorem ub_off {w w' : World} {sg a b : List Int} {v : Bool} {F : List (List Int)} (hU : IsU sg a b v F) (h : termOkB sg a = false ∨ termOkB sg b = false) (hb : Below w.heap.size w w') : AnsUB w F v (.returned (.tuple #[.agg #[.slice none 0 0], .bool false])) w' := by
  obtain ⟨rfl, rfl⟩ := isU_one hU (isU_off h)
  exact ⟨none, 0, 0, rfl, Owns.nil _ _ _, hb⟩
/-- what stands in the course of a call with a boxed signature and a boxed result -/
structure Mr (w wr : World) (A : Option Addr) (n c : Nat) (sg : List Int) (P : Option Addr) (pn : Nat) (p : List Int) (Q : Option Addr) (m : Nat) (t : List Int) : Prop where
  r0 : Row wr w.heap.size 26 #[.slice A n c]
  r1 : Row wr (w.heap.size + 1) 31 #[.slice none 0 0]
  ss : Seg wr wr.heap.size A n sg
  sp : Seg wr wr.heap.size P pn p
  st : Seg wr wr.heap.size Q m t
  b : Below w.heap.size w wr
section
variable {w wr w' : World} {A : Option Addr} {n c : Nat} {sg : List Int} {P : Option Addr} {pn : Nat} {p : List Int} {Q : Option Addr} {m : Nat} {t : List Int}
theorem Mr.start (h : Seg w w.heap.size A n sg) (hp : Seg w w.heap.size P pn p) (ht : Seg w w.heap.size Q m t) : Mr w ((w.alloc (.cells #[.slice A n c] 26)).alloc (.cells #[.slice none 0 0] 31)) A n c sg P pn p Q m t :=
  have b : Below w.heap.size w ((w.alloc (.cells #[.slice A n c] 26)).alloc (.cells #[.slice none 0 0] 31)) := ((Below.refl _ _).alloc (Nat.le_refl _) _).alloc (by simp) _
  ⟨(Row.new w _ _).alloc _, by have := Row.new (w.alloc (.cells #[.slice A n c] 26)) 31 #[.slice none 0 0]; simpa using this, h.next b, hp.next b, ht.next b, b⟩
theorem Mr.next (h : Mr w wr A n c sg P pn p Q m t) (hb : Below wr.heap.size wr w') : Mr w w' A n c sg P pn p Q m t :=
  ⟨h.r0.next hb, h.r1.next hb, h.ss.next hb, h.sp.next hb, h.st.next hb, next_trans h.b hb⟩
end

set_option maxHeartbeats 1000000 in
theorem specUnified (A P Q : Option Addr) (n c pn pc m mc : Nat) (sg p t : List Int) (w : World) (v : Bool) (F : List (List Int)) (hU : IsU sg p t v F) (h : Seg w w.heap.size A n sg) (hp : Seg w w.heap.size P pn p) (ht : Seg w w.heap.size Q m t) (hn : n ≤ 1048576) (hpn : pn ≤ 1048576) (hm : m ≤ 1048576) :
    Calls Try.prog 15 #[.agg #[.slice A n c], .slice P pn pc, .slice Q m mc] w (AnsUB w F v) := by
  obtain ⟨W, hW⟩ : ∃ W, W = (w.alloc (.cells #[.slice A n c] 26)).alloc (.cells #[.slice none 0 0] 31) := ⟨_, rfl⟩
  have M : Mr w W A n c sg P pn p Q m t := by rw [hW]; exact Mr.start h hp ht
  have HW := Lib.hid hW
  have L := Lib.hid (specTermOk A P n c pn pc sg p W M.ss M.sp hn hpn)
  have c0 : W.cell? ⟨w.heap.size, 0, none⟩ = some (.slice A n c) := M.r0.cell 0
  have c00 : ((w.alloc (.cells #[.slice A n c] 26)).alloc (.cells #[.slice none 0 0] 31)).cell? ⟨w.heap.size, 0, none⟩ = some (.slice A n c) := by rw [← hW]; exact c0
  have HU := Lib.hid hU
  clear hU hW h hp ht
  cases hokp : termOkB sg p with
  | false =>
    have HS := Lib.hid hokp
    clear hokp
    go_enter Try.func15, Try.ntmps15
    go_wp2_with fail
    rw [← HW.out]
    refine L.out.mono ?_
    rintro e w1 ⟨he, bb⟩
    rw [HS.out] at he
    subst he
    replace M := M.next bb
    have cR : w1.cell? ⟨w.heap.size + 1, 0, none⟩ = some (.slice none 0 0) := M.r1.cell 0
    have fR : w1.frozen? ⟨w.heap.size + 1, 0, none⟩ = false := M.r1.free 0
    have F1 := Lib.hid (ub_off (w := w) HU.out (.inl HS.out) M.b)
    have F2 := Lib.hid (ub_off (w := w) HU.out (.inl HS.out) ((M.b).setCell (p := ⟨w.heap.size + 1, 0, none⟩) (show w.heap.size ≤ w.heap.size + 1 by omega) (.slice none 0 0)))
    clear M L bb c0 c00
    go_wp2
    first
      | exact bodyPost_ret (v := .tuple #[.agg #[.slice none 0 0], .bool false]) (by simp [results, Try.results15, go_sem, cR]) rfl F1.out
      | exact bodyPost_ret (v := .tuple #[.agg #[.slice none 0 0], .bool false]) (by simp [results, Try.results15, go_sem, cR]) rfl F2.out
  | true =>
    have HSP := Lib.hid hokp
    have hp60 : pn ≤ 60 := by have h1 := (termOk_parts hokp).2.1; rw [M.sp.1] at h1; exact h1
    clear hokp
    cases hokt : termOkB sg t with
    | false =>
      have HS := Lib.hid hokt
      clear hokt
      go_enter Try.func15, Try.ntmps15
      go_wp2_with fail
      rw [← HW.out]
      refine L.out.mono ?_
      rintro e w1 ⟨he, bb⟩
      rw [HSP.out] at he
      subst he
      replace M := M.next bb
      clear bb L c0 c00
      have c0 : w1.cell? ⟨w.heap.size, 0, none⟩ = some (.slice A n c) := M.r0.cell 0
      go_wp2_with fail
      refine (specTermOk A Q n c m mc sg t _ M.ss M.st hn hm).mono ?_
      rintro e w2 ⟨he, bb⟩
      rw [HS.out] at he
      subst he
      replace M := M.next bb
      have cR : w2.cell? ⟨w.heap.size + 1, 0, none⟩ = some (.slice none 0 0) := M.r1.cell 0
      have fR : w2.frozen? ⟨w.heap.size + 1, 0, none⟩ = false := M.r1.free 0
      have F1 := Lib.hid (ub_off (w := w) HU.out (.inr HS.out) M.b)
      have F2 := Lib.hid (ub_off (w := w) HU.out (.inr HS.out) ((M.b).setCell (p := ⟨w.heap.size + 1, 0, none⟩) (show w.heap.size ≤ w.heap.size + 1 by omega) (.slice none 0 0)))
      clear M bb c0
      go_wp2
      first
        | exact bodyPost_ret (v := .tuple #[.agg #[.slice none 0 0], .bool false]) (by simp [results, Try.results15, go_sem, cR]) rfl F1.out
        | exact bodyPost_ret (v := .tuple #[.agg #[.slice none 0 0], .bool false]) (by simp [results, Try.results15, go_sem, cR]) rfl F2.out
    | true =>
      have HST := Lib.hid hokt
      have hm60 : m ≤ 60 := by have h1 := (termOk_parts hokt).2.1; rw [M.st.1] at h1; exact h1
      clear hokt
      go_enter Try.func15, Try.ntmps15
      go_wp2_with fail
      rw [← HW.out]
      refine L.out.mono ?_
      rintro e w1 ⟨he, bb⟩
      rw [HSP.out] at he
      subst he
      replace M := M.next bb
      clear bb L c0 c00
      have c0 : w1.cell? ⟨w.heap.size, 0, none⟩ = some (.slice A n c) := M.r0.cell 0
      go_wp2_with fail
      refine (specTermOk A Q n c m mc sg t _ M.ss M.st hn hm).mono ?_
      rintro e w2 ⟨he, bb⟩
      rw [HST.out] at he
      subst he
      replace M := M.next bb
      clear bb c0
      have c0 : w2.cell? ⟨w.heap.size, 0, none⟩ = some (.slice A n c) := M.r0.cell 0
      go_wp2_with fail
      refine (l5Unify A P Q n c pn pc m mc sg p t _ M.ss M.sp M.st hn hp60 hm60 HSP.out HST.out).mono ?_
      rintro e w3 ⟨bb, ⟨S, sm, cS, ss, rfl, os, hg, he, hl⟩ | ⟨rfl, hno⟩⟩
      · obtain ⟨hv, hF⟩ := isU_one HU.out (isU_mg HSP.out HST.out (hg.part.done he) hg.g60 hl)
        have hsm : ss.length = sm := os.len
        have HF := Lib.hid (show plainL (givesL ss) sm = F by rw [hF]; exact (plain_24 (by rw [← hsm]; exact hg.len) (fun i hi => gives_out (by rw [hsm]; omega))).symm)
        have htot := hg.tot
        have B4 : Below w3.heap.size w3 (w3.alloc (.cells #[.slice S sm cS] 31)) := (Below.refl _ _).alloc (Nat.le_refl _) _
        have M4 := (M.next bb).next B4
        have LP := Lib.hid (l2Plain S sm cS ss (w3.alloc (.cells #[.slice S sm cS] 31)) (os.segs.next B4) htot)
        subst hv
        have z4 := M4.b.size
        have z5 := M4.r1.lt
        clear M bb os hg he hl hF hsm htot B4 c0
        go_wp2_with fail
        refine LP.out.mono ?_
        rintro e w5 ⟨D, dn, dc, rfl, od, bb⟩
        rw [HF.out] at od
        have M5 := M4.next bb
        have cR : w5.cell? ⟨w.heap.size + 1, 0, none⟩ = some (.slice none 0 0) := M5.r1.cell 0
        have fR : w5.frozen? ⟨w.heap.size + 1, 0, none⟩ = false := M5.r1.free 0
        have G : AnsUB w F true (.returned (.tuple #[.agg #[.slice D dn dc], .bool true])) (w5.setCell ⟨w.heap.size + 1, 0, none⟩ (.slice D dn dc)) := by
          have hbt : Btw (w.heap.size + 1) (w.heap.size + 2) w5 (w5.setCell ⟨w.heap.size + 1, 0, none⟩ (.slice D dn dc)) := Btw.of_grown (grown_put (World.grownBy.refl _ _) _ _) (fun k hk => by injection hk; omega)
          have o2 := od.btw hbt (.inr (by simp at z5 ⊢; omega))
          exact ⟨D, dn, dc, rfl, o2.wider (by simp at z4 ⊢; omega) (by simp), (M5.b).setCell (p := ⟨w.heap.size + 1, 0, none⟩) (show w.heap.size ≤ w.heap.size + 1 by omega) _⟩
        have HG := Lib.hid G
        clear G od bb M4 M5 LP
        go_wp2
        exact bodyPost_ret (v := .tuple #[.agg #[.slice D dn dc], .bool true]) (by simp [results, Try.results15, go_sem, cR]) rfl HG.out
      · obtain ⟨hv, hF⟩ := isU_one HU.out (isU_no (a := p) (b := t) hno)
        subst hv
        subst hF
        have M3 := (M.next bb).next (w' := w3.alloc (.cells #[.slice none 0 0] 31)) ((Below.refl _ _).alloc (Nat.le_refl _) _)
        have cR : (w3.alloc (.cells #[.slice none 0 0] 31)).cell? ⟨w.heap.size + 1, 0, none⟩ = some (.slice none 0 0) := M3.r1.cell 0
        have fR : (w3.alloc (.cells #[.slice none 0 0] 31)).frozen? ⟨w.heap.size + 1, 0, none⟩ = false := M3.r1.free 0
        have F1 := Lib.hid (show AnsUB w [] false (.returned (.tuple #[.agg #[.slice none 0 0], .bool false])) _ from ⟨none, 0, 0, rfl, Owns.nil _ _ _, M3.b⟩)
        have F2 := Lib.hid (show AnsUB w [] false (.returned (.tuple #[.agg #[.slice none 0 0], .bool false])) ((w3.alloc (.cells #[.slice none 0 0] 31)).setCell ⟨w.heap.size + 1, 0, none⟩ (.slice none 0 0)) from ⟨none, 0, 0, rfl, Owns.nil _ _ _, (M3.b).setCell (p := ⟨w.heap.size + 1, 0, none⟩) (show w.heap.size ≤ w.heap.size + 1 by omega) _⟩)
        clear M M3 bb hno c0
        go_wp2
        first
          | exact bodyPost_ret (v := .tuple #[.agg #[.slice none 0 0], .bool false]) (by simp [results, Try.results15, go_sem, cR]) rfl F1.out
          | exact bodyPost_ret (v := .tuple #[.agg #[.slice none 0 0], .bool false]) (by simp [results, Try.results15, go_sem, cR]) rfl F2.out

set_option maxHeartbeats 1000000 in
theorem specUnifiesIn (A P Q : Option Addr) (n c pn pc m mc : Nat) (sg p t : List Int) (w : World) (v : Bool) (F : List (List Int)) (hU : IsU sg p t v F) (h : Seg w w.heap.size A n sg) (hp : Seg w w.heap.size P pn p) (ht : Seg w w.heap.size Q m t) (hn : n ≤ 1048576) (hpn : pn ≤ 1048576) (hm : m ≤ 1048576) :
    Calls Try.prog 43 #[.agg #[.slice A n c], .slice P pn pc, .slice Q m mc] w (Tells w v) := by
  obtain ⟨W, hW⟩ : ∃ W, W = w.alloc (.cells #[.slice A n c] 26) := ⟨_, rfl⟩
  have bW : Below w.heap.size w W := by rw [hW]; exact (Below.refl _ _).alloc (Nat.le_refl _) _
  have HW := Lib.hid hW
  have L := Lib.hid (specUnified A P Q n c pn pc m mc sg p t W v F hU (h.next bW) (hp.next bW) (ht.next bW) hn hpn hm)
  clear hU hW h hp ht
  go_enter Try.func43, Try.ntmps43
  go_wp2_with fail
  rw [← HW.out]
  refine L.out.mono ?_
  rintro e w1 ⟨D, dn, dc, rfl, od, bb⟩
  have F := Lib.hid (fun o => (show Tells w v (.returned (.bool v)) (w1.alloc o) from ⟨rfl, (next_trans bW bb).alloc (next_trans bW bb).size _⟩))
  clear od bb L bW
  go_wp2
  go_ret
  exact F.out _
end Go.Proofs.Ytkmhnkljigncmaa.unified
end

section
/-
  CONTRACTS: impl.Unified (a failed unification panics and is recovered), impl.UnifiesIn. Conditions: the slices read as lists ('Seg'), at most 1048576 numbers; what is told is given ('IsU'). By an AI agent.
-/
namespace Go.Proofs.Ytkmhnkljigncmaa.unifImpl
open Go.RowKit Go.Proofs.Ytkmhnkljigncmaa.base Go.Proofs.Ytkmhnkljigncmaa.ints Go.Proofs.Ytkmhnkljigncmaa.sig Go.Proofs.Ytkmhnkljigncmaa.term Go.Proofs.Ytkmhnkljigncmaa.termOk Go.Proofs.Ytkmhnkljigncmaa.endAt Go.Proofs.Ytkmhnkljigncmaa.cursor Go.Proofs.Ytkmhnkljigncmaa.marks Go.Proofs.Ytkmhnkljigncmaa.segs Go.Proofs.Ytkmhnkljigncmaa.segsHelp Go.Proofs.Ytkmhnkljigncmaa.kinds Go.Proofs.Ytkmhnkljigncmaa.fillMath Go.Proofs.Ytkmhnkljigncmaa.look Go.Proofs.Ytkmhnkljigncmaa.plainMath Go.Proofs.Ytkmhnkljigncmaa.plain Go.Proofs.Ytkmhnkljigncmaa.unifMath Go.Proofs.Ytkmhnkljigncmaa.unifDom Go.Proofs.Ytkmhnkljigncmaa.thn Go.Proofs.Ytkmhnkljigncmaa.unifRep Go.Proofs.Ytkmhnkljigncmaa.unifStep Go.Proofs.Ytkmhnkljigncmaa.unifRun Go.Proofs.Ytkmhnkljigncmaa.unified Go.Proofs.Ytkmhnkljigncmaa.inside
set_option maxRecDepth 100000

/-- the deferred function, where the call panics: the panic is recovered -/
theorem catch_panicking (u : TypeId) (pv : Value) (older : List PanicEntry) (w : World) :
    CallsD Try.prog 58 #[] (.panicking ({ v := .iface u pv, recovered := false } :: older)) w fun e u' w' =>
      e = .returned (.tuple #[]) ∧ u' = .panicking ({ v := .iface u pv, recovered := true } :: older) ∧ w' = w := by
  refine callsD_of_wpS Try.func58 rfl fun c₀ cs hu => ?_
  apply wpS_region
  simp [wpOpsS, go_sem, recoverD, hu, Try.ntmps58, Exit.thenS, bodyPostS, results, Try.results58]
/-- where the call returns: nothing -/
theorem catch_idle (w : World) :
    CallsD Try.prog 58 #[] .returning w fun e u' w' => e = .returned (.tuple #[]) ∧ u' = .returning ∧ w' = w := by
  refine callsD_of_wpS Try.func58 rfl fun c₀ cs hu => ?_
  apply wpS_region
  cases c₀
  simp_all [wpOpsS, go_sem, recoverD, Try.ntmps58, Exit.thenS, bodyPostS, results, Try.results58]

set_option maxHeartbeats 2000000 in
theorem implUnified (A P Q : Option Addr) (n c pn pc m mc : Nat) (sg p t : List Int) (w : World) (v : Bool) (F : List (List Int)) (hU : IsU sg p t v F) (h : Seg w w.heap.size A n sg) (hp : Seg w w.heap.size P pn p) (ht : Seg w w.heap.size Q m t) (hn : n ≤ 1048576) (hpn : pn ≤ 1048576) (hm : m ≤ 1048576) (kp : Cap P pn pc) (kq : Cap Q m mc) :
    Calls Try.prog 14 #[.agg #[.slice A n c], .slice P pn pc, .slice Q m mc] w (AnsUB w F v) := by
  obtain ⟨W, hW⟩ : ∃ W, W = (w.alloc (.cells #[.slice A n c] 26)).alloc (.cells #[.slice none 0 0] 31) := ⟨_, rfl⟩
  have M : Mr w W A n c sg P pn p Q m t := by rw [hW]; exact Mr.start h hp ht
  have HW := Lib.hid hW
  have L := Lib.hid (implTermOk A P n c pn pc sg p W M.ss M.sp hn hpn)
  have c0 : W.cell? ⟨w.heap.size, 0, none⟩ = some (.slice A n c) := M.r0.cell 0
  have c00 : ((w.alloc (.cells #[.slice A n c] 26)).alloc (.cells #[.slice none 0 0] 31)).cell? ⟨w.heap.size, 0, none⟩ = some (.slice A n c) := by rw [← hW]; exact c0
  have HU := Lib.hid hU
  have hmf : ∀ (fn : Fn) (first cap : Array Value) (w : World), (Instr.makeFunc fn first cap).run Try.prog w = .ok (.func fn first cap) w := fun _ _ _ _ => rfl
  clear hU hW h hp ht
  cases hokp : termOkB sg p with
  | false =>
    have HS := Lib.hid hokp
    clear hokp
    go_enter_defers Try.func14, Try.ntmps14
    go_wp2_with fail
    rw [← HW.out]
    refine L.out.mono ?_
    rintro e w1 ⟨he, bb⟩
    rw [HS.out] at he
    subst he
    replace M := M.next bb
    have cR : w1.cell? ⟨w.heap.size + 1, 0, none⟩ = some (.slice none 0 0) := M.r1.cell 0
    have fR : w1.frozen? ⟨w.heap.size + 1, 0, none⟩ = false := M.r1.free 0
    have F1 := Lib.hid (ub_off (w := w) HU.out (.inl HS.out) M.b)
    have F2 := Lib.hid (ub_off (w := w) HU.out (.inl HS.out) ((M.b).setCell (p := ⟨w.heap.size + 1, 0, none⟩) (show w.heap.size ≤ w.heap.size + 1 by omega) (.slice none 0 0)))
    clear M L bb c0 c00
    go_wp2
    first
      | exact ⟨.tuple #[.agg #[.slice none 0 0], .bool false], by simp [results, Try.results14, go_sem, cR], F1.out⟩
      | exact ⟨.tuple #[.agg #[.slice none 0 0], .bool false], by simp [results, Try.results14, go_sem, cR], F2.out⟩
  | true =>
    have HSP := Lib.hid hokp
    have hp60 : pn ≤ 60 := by have h1 := (termOk_parts hokp).2.1; rw [M.sp.1] at h1; exact h1
    clear hokp
    cases hokt : termOkB sg t with
    | false =>
      have HS := Lib.hid hokt
      clear hokt
      go_enter_defers Try.func14, Try.ntmps14
      go_wp2_with fail
      rw [← HW.out]
      refine L.out.mono ?_
      rintro e w1 ⟨he, bb⟩
      rw [HSP.out] at he
      subst he
      replace M := M.next bb
      clear bb L c0 c00
      have c0 : w1.cell? ⟨w.heap.size, 0, none⟩ = some (.slice A n c) := M.r0.cell 0
      go_wp2_with fail
      refine (implTermOk A Q n c m mc sg t _ M.ss M.st hn hm).mono ?_
      rintro e w2 ⟨he, bb⟩
      rw [HS.out] at he
      subst he
      replace M := M.next bb
      have cR : w2.cell? ⟨w.heap.size + 1, 0, none⟩ = some (.slice none 0 0) := M.r1.cell 0
      have fR : w2.frozen? ⟨w.heap.size + 1, 0, none⟩ = false := M.r1.free 0
      have F1 := Lib.hid (ub_off (w := w) HU.out (.inr HS.out) M.b)
      have F2 := Lib.hid (ub_off (w := w) HU.out (.inr HS.out) ((M.b).setCell (p := ⟨w.heap.size + 1, 0, none⟩) (show w.heap.size ≤ w.heap.size + 1 by omega) (.slice none 0 0)))
      clear M bb c0
      go_wp2
      first
        | exact ⟨.tuple #[.agg #[.slice none 0 0], .bool false], by simp [results, Try.results14, go_sem, cR], F1.out⟩
        | exact ⟨.tuple #[.agg #[.slice none 0 0], .bool false], by simp [results, Try.results14, go_sem, cR], F2.out⟩
    | true =>
      have HST := Lib.hid hokt
      have hm60 : m ≤ 60 := by have h1 := (termOk_parts hokt).2.1; rw [M.st.1] at h1; exact h1
      clear hokt
      go_enter_defers Try.func14, Try.ntmps14
      go_wp2_with fail
      rw [← HW.out]
      refine L.out.mono ?_
      rintro e w1 ⟨he, bb⟩
      rw [HSP.out] at he
      subst he
      replace M := M.next bb
      clear bb L c0 c00
      have c0 : w1.cell? ⟨w.heap.size, 0, none⟩ = some (.slice A n c) := M.r0.cell 0
      go_wp2_with fail
      refine (implTermOk A Q n c m mc sg t _ M.ss M.st hn hm).mono ?_
      rintro e w2 ⟨he, bb⟩
      rw [HST.out] at he
      subst he
      replace M := M.next bb
      clear bb c0
      have c0 : w2.cell? ⟨w.heap.size, 0, none⟩ = some (.slice A n c) := M.r0.cell 0
      obtain ⟨W3, hW3⟩ : ∃ W3, W3 = w2.alloc (.cells #[.slice A n c, .slice P pn pc, .slice Q m mc, .func (.func 59) #[] #[]] 68) := ⟨_, rfl⟩
      have b3 : Below w2.heap.size w2 W3 := by rw [hW3]; exact (Below.refl _ _).alloc (Nat.le_refl _) _
      have r3 : Row W3 w2.heap.size 68 #[.slice A n c, .slice P pn pc, .slice Q m mc, .func (.func 59) #[] #[]] := by rw [hW3]; exact Row.new _ _ _
      have M3 := M.next b3
      have LR := Lib.hid (run w2.heap.size A P Q n c pn pc m mc _ _ sg p t p t vt W3 ⟨r3, M3.ss, M3.sp, M3.st, kp, kq, enters_of Try.func59 (by kernel_rfl) rfl, lookVar _ _⟩ (Wy.start HSP.out HST.out) hn)
      have HW3 := Lib.hid hW3
      have hz : w.heap.size + 1 < w2.heap.size := M.r1.lt
      have HM3 := Lib.hid M3
      clear M b3 r3 M3 hW3
      go_wp2_with fail
      rw [← HW3.out]
      refine LR.out.mono ?_
      rintro e w4 ⟨hg, ⟨x, L', P', pn', pc', Q', qn', qc', gl', lb', rfl, U, WW⟩ | ⟨hno, u, pv, rfl⟩⟩
      · have hs3 : W3.heap.size = w2.heap.size + 1 := by rw [HW3.out]; simp
        have b4 : Below w.heap.size w w4 := HM3.out.b.grown hg (by omega) (fun k hk => by injection hk; omega)
        have r4 := Row.away HM3.out.r1 hg (fun e => by injection e; omega)
        have c3 := U.c3
        have LP := Lib.hid (plain gl' lb' U.eg L' w4 U.lk.looks (fun i => WW.part.sub.pos i) (fun i => Nat.le_trans (WW.each i) (by omega)))
        obtain ⟨hv, hF⟩ := isU_one HU.out (WW.done rfl)
        subst hv
        subst hF
        have HB4 := Lib.hid b4
        have HR4 := Lib.hid r4
        clear U WW hg LR HM3 HU b4 r4 c0
        go_wp2_with fail
        refine LP.out.mono ?_
        rintro e w5 ⟨O, on, oc, rfl, ho, b5⟩
        have r5 := HR4.out.next b5
        have cR : w5.cell? ⟨w.heap.size + 1, 0, none⟩ = some (.slice none 0 0) := r5.cell 0
        have fR : w5.frozen? ⟨w.heap.size + 1, 0, none⟩ = false := r5.free 0
        have hs4 := HR4.out.lt
        have B5 := next_trans HB4.out b5
        have F := Lib.hid (show AnsUB w (plainL L' 24) true (.returned (.tuple #[.agg #[.slice O on oc], .bool true])) (w5.setCell ⟨w.heap.size + 1, 0, none⟩ (.slice O on oc)) from
          ⟨O, on, oc, rfl, (owns_put ho r5 hs4 0 _).wider (by have := HB4.out.size; omega) (by simp), B5.setCell (p := ⟨w.heap.size + 1, 0, none⟩) (show w.heap.size ≤ w.heap.size + 1 by omega) _⟩)
        clear LP ho b5 r5 HB4 HR4 B5 hs4
        go_wp2
        refine leaves_cons (f := 58) (args := #[]) (by simp) (by simp [go_sem]) ?_
        refine (catch_idle _).mono ?_
        rintro e u' w'' ⟨rfl, rfl, rfl⟩
        exact ⟨.tuple #[.agg #[.slice O on oc], .bool true], by simp [results, Try.results14, go_sem, cR], F.out⟩
      · have hs3 : W3.heap.size = w2.heap.size + 1 := by rw [HW3.out]; simp
        have b4 : Below w.heap.size w w4 := HM3.out.b.grown hg (by omega) (fun k hk => by injection hk; omega)
        have r4 := Row.away HM3.out.r1 hg (fun e => by injection e; omega)
        have cR : w4.cell? ⟨w.heap.size + 1, 0, none⟩ = some (.slice none 0 0) := r4.cell 0
        obtain ⟨hv, hF⟩ := isU_one HU.out (isU_no hno)
        subst hv
        subst hF
        have F := Lib.hid (show AnsUB w [] false (.returned (.tuple #[.agg #[.slice none 0 0], .bool false])) w4 from ⟨none, 0, 0, rfl, Owns.nil _ _ _, b4⟩)
        refine leaves_cons (f := 58) (args := #[]) (by simp) (by simp [go_sem]) ?_
        refine (catch_panicking u pv [] w4).mono ?_
        rintro e u' w'' ⟨rfl, rfl, rfl⟩
        exact ⟨.tuple #[.agg #[.slice none 0 0], .bool false], by simp [results, Try.results14, go_sem, cR], F.out⟩

set_option maxHeartbeats 1000000 in
theorem implUnifiesIn (A P Q : Option Addr) (n c pn pc m mc : Nat) (sg p t : List Int) (w : World) (v : Bool) (F : List (List Int)) (hU : IsU sg p t v F) (h : Seg w w.heap.size A n sg) (hp : Seg w w.heap.size P pn p) (ht : Seg w w.heap.size Q m t) (hn : n ≤ 1048576) (hpn : pn ≤ 1048576) (hm : m ≤ 1048576) (kp : Cap P pn pc) (kq : Cap Q m mc) :
    Calls Try.prog 20 #[.agg #[.slice A n c], .slice P pn pc, .slice Q m mc] w (Tells w v) := by
  obtain ⟨W, hW⟩ : ∃ W, W = w.alloc (.cells #[.slice A n c] 26) := ⟨_, rfl⟩
  have bW : Below w.heap.size w W := by rw [hW]; exact (Below.refl _ _).alloc (Nat.le_refl _) _
  have HW := Lib.hid hW
  have L := Lib.hid (implUnified A P Q n c pn pc m mc sg p t W v F hU (h.next bW) (hp.next bW) (ht.next bW) hn hpn hm kp kq)
  clear hU hW h hp ht
  go_enter Try.func20, Try.ntmps20
  go_wp2_with fail
  rw [← HW.out]
  refine L.out.mono ?_
  rintro e w1 ⟨D, dn, dc, rfl, od, bb⟩
  have F := Lib.hid (fun o => (show Tells w v (.returned (.bool v)) (w1.alloc o) from ⟨rfl, (next_trans bW bb).alloc (next_trans bW bb).size _⟩))
  have F0 := Lib.hid (show Tells w v (.returned (.bool v)) w1 from ⟨rfl, next_trans bW bb⟩)
  clear od bb L bW
  go_wp2
  go_ret
  first
    | exact F0.out
    | exact F.out _
end Go.Proofs.Ytkmhnkljigncmaa.unifImpl
end

section
/-
  PLAIN MATHEMATICS of generalisation (chapter 5): two sequences of terms read in step, the pairs that are met kept in a table ('Gs'); what comes of it is unique ('gs_one'), is there ('gs_ex'), turns into both ('gs_fill'), and every other common pattern turns into it ('gt_least'). Conditions: none. By an AI agent.
-/
namespace Go.Proofs.Ytkmhnkljigncmaa.genMath
open Go.Proofs.Ytkmhnkljigncmaa.sig Go.Proofs.Ytkmhnkljigncmaa.term Go.Proofs.Ytkmhnkljigncmaa.termOk Go.Proofs.Ytkmhnkljigncmaa.termFacts Go.Proofs.Ytkmhnkljigncmaa.endAt Go.Proofs.Ytkmhnkljigncmaa.sub Go.Proofs.Ytkmhnkljigncmaa.termMath Go.Proofs.Ytkmhnkljigncmaa.fillMath Go.Proofs.Ytkmhnkljigncmaa.posMath Go.Proofs.Ytkmhnkljigncmaa.renMath Go.Proofs.Ytkmhnkljigncmaa.matchMath Go.Proofs.Ytkmhnkljigncmaa.unifMath

/-- the pairs that were met -/
abbrev Tb := List (List Int × List Int)
/-- they don't begin with the same symbol -/
def Apt (s t : List Int) : Prop := ¬ (0 ≤ s.getD 0 0 ∧ s.getD 0 0 = t.getD 0 0)
/-- n terms of each side, the table before, what comes of it, the table behind -/
inductive Gs (sg : List Int) : Tb → Nat → List Int → List Int → List Int → Tb → Prop
  | nil (T : Tb) : Gs sg T 0 [] [] [] T
  | sym {T T' : Tb} {n : Nat} {u w g : List Int} {x : Int} : 0 ≤ x → ¬ ar sg x < 0 → Gs sg T (n + (ar sg x).toNat) u w g T' → Gs sg T (n + 1) (x :: u) (x :: w) (x :: g) T'
  | old {T T' : Tb} {n i : Nat} {s t u w g : List Int} : Trm sg s → Trm sg t → Apt s t → T[i]? = some (s, t) → Gs sg T n u w g T' → Gs sg T (n + 1) (s ++ u) (t ++ w) ((-1 - (i : Int)) :: g) T'
  | new {T T' : Tb} {n : Nat} {s t u w g : List Int} : Trm sg s → Trm sg t → Apt s t → (s, t) ∉ T → Gs sg (T ++ [(s, t)]) n u w g T' → Gs sg T (n + 1) (s ++ u) (t ++ w) ((-1 - (T.length : Int)) :: g) T'
section
variable {sg : List Int} {T T' : Tb} {n : Nat} {u w g : List Int}
theorem gs_ext (h : Gs sg T n u w g T') : ∃ E, T' = T ++ E := by
  induction h with
  | nil T => exact ⟨[], by simp⟩
  | sym _ _ _ ih => exact ih
  | old _ _ _ _ _ ih => exact ih
  | new _ _ _ _ _ ih => obtain ⟨E, e⟩ := ih; exact ⟨_, by rw [e, List.append_assoc]⟩
theorem gs_nodup (h : Gs sg T n u w g T') (hT : T.Nodup) : T'.Nodup := by
  induction h with
  | nil T => exact hT
  | sym _ _ _ ih => exact ih hT
  | old _ _ _ _ _ ih => exact ih hT
  | new _ _ _ hn _ ih =>
    refine ih ?_
    rw [List.nodup_append]
    refine ⟨hT, by simp, fun x hx y hy e => ?_⟩
    rw [List.mem_singleton] at hy
    subst e
    subst hy
    exact hn hx
theorem trm_cat {s u : List Int} (hs : Trm sg s) (hu : scan sg n u = some u.length) : scan sg (n + 1) (s ++ u) = some (s ++ u).length := by
  have := scan_cat hs hu
  rw [List.length_append, ← this, Nat.add_comm]
theorem gs_scan (h : Gs sg T n u w g T') : scan sg n u = some u.length ∧ scan sg n w = some w.length := by
  induction h with
  | nil T => exact ⟨rfl, rfl⟩
  | sym h0 ha _ ih => exact ⟨by rw [scan_step ha, ih.1]; rfl, by rw [scan_step ha, ih.2]; rfl⟩
  | old h1 h2 _ _ _ ih => exact ⟨trm_cat h1 ih.1, trm_cat h2 ih.2⟩
  | new h1 h2 _ _ _ ih => exact ⟨trm_cat h1 ih.1, trm_cat h2 ih.2⟩
end
/-- one behind the other -/
theorem gs_comp {sg : List Int} {T T1 T2 : Tb} {p q : Nat} {u w g U W G : List Int} (h : Gs sg T p u w g T1) : Gs sg T1 q U W G T2 → Gs sg T (p + q) (u ++ U) (w ++ W) (g ++ G) T2 := by
  induction h with
  | nil T => intro k; simpa using k
  | @sym T T' n u w g x h0 ha _ ih =>
    intro k
    have := ih k
    rw [show n + 1 + q = (n + q) + 1 by omega]
    exact .sym h0 ha (by rw [show n + q + (ar sg x).toNat = n + (ar sg x).toNat + q by omega]; exact this)
  | @old T T' n i s t u w g h1 h2 h3 h4 _ ih =>
    intro k
    rw [show n + 1 + q = (n + q) + 1 by omega, List.append_assoc, List.append_assoc]
    exact .old h1 h2 h3 h4 (ih k)
  | @new T T' n s t u w g h1 h2 h3 h4 _ ih =>
    intro k
    rw [show n + 1 + q = (n + q) + 1 by omega, List.append_assoc, List.append_assoc]
    exact .new h1 h2 h3 h4 (ih k)
/-- a term at the front is found -/
theorem trm_front {sg s s' u u' : List Int} (h : Trm sg s) (h' : Trm sg s') (e : s ++ u = s' ++ u') : s = s' ∧ u = u' := by
  have h1 := scan_append (r := u) h
  have h2 := scan_append (r := u') h'
  rw [e, h2] at h1
  injection h1 with h1
  have h3 := congrArg (List.take s.length) e
  rw [List.take_left' rfl, List.take_left' h1] at h3
  refine ⟨h3, ?_⟩
  rw [h3] at e
  exact List.append_cancel_left e
theorem trm_cons {sg s : List Int} (h : Trm sg s) : ∃ x r, s = x :: r ∧ s.getD 0 0 = x := by
  have := h.pos
  match s, this with
  | x :: r, _ => exact ⟨x, r, rfl, rfl⟩
theorem apt_head {sg s t u w u' w' : List Int} {x : Int} (hs : Trm sg s) (ht : Trm sg t) (h : Apt s t) (h0 : 0 ≤ x) (e1 : s ++ u = x :: u') (e2 : t ++ w = x :: w') : False := by
  obtain ⟨y, r, rfl, hy⟩ := trm_cons hs
  obtain ⟨z, r', rfl, hz⟩ := trm_cons ht
  injection e1 with e1 _
  injection e2 with e2 _
  exact h ⟨by rw [hy, e1]; exact h0, by rw [hy, hz, e1, e2]⟩
theorem nodup_ix {T : Tb} {i j : Nat} {a : List Int × List Int} (h : T.Nodup) (hi : T[i]? = some a) (hj : T[j]? = some a) : i = j := by
  exact (List.getElem?_inj (List.getElem?_eq_some_iff.1 hi).1 h).1 (hi.trans hj.symm)
theorem mem_ix {T : Tb} {i : Nat} {a : List Int × List Int} (h : T[i]? = some a) : a ∈ T := List.mem_of_getElem? h
/-- only one comes of it -/
theorem gs_one {sg : List Int} {T T' : Tb} {n : Nat} {u w g : List Int} (h : Gs sg T n u w g T') : T.Nodup → ∀ {g2 : List Int} {T2 : Tb}, Gs sg T n u w g2 T2 → g = g2 ∧ T' = T2 := by
  induction h with
  | nil T =>
    intro hT g2 T2 k
    cases k with
    | nil => exact ⟨rfl, rfl⟩
  | @sym T T' n u w g x h0 ha h1 ih =>
    intro hT g2 T2 k
    generalize eu : x :: u = U at k
    generalize ew : x :: w = W at k
    generalize en : n + 1 = m at k
    cases k with
    | nil => cases eu
    | sym k0 ka k1 =>
      injection eu with e1 e2
      injection ew with _ e3
      subst e1; subst e2; subst e3
      obtain rfl := Nat.succ.inj en
      obtain ⟨a, b⟩ := ih hT k1
      exact ⟨by rw [a], b⟩
    | old k1 k2 k3 _ _ => exact (apt_head k1 k2 k3 h0 eu.symm ew.symm).elim
    | new k1 k2 k3 _ _ => exact (apt_head k1 k2 k3 h0 eu.symm ew.symm).elim
  | @old T T' n i s t u w g h1 h2 h3 h4 h5 ih =>
    intro hT g2 T2 k
    generalize eu : s ++ u = U at k
    generalize ew : t ++ w = W at k
    generalize en : n + 1 = m at k
    cases k with
    | nil => cases en
    | sym k0 ka k1 => exact (apt_head h1 h2 h3 k0 eu ew).elim
    | @old _ _ n' i' s' t' u' w' g' k1 k2 k3 k4 k5 =>
      obtain ⟨rfl, rfl⟩ := trm_front h1 k1 eu
      obtain ⟨rfl, rfl⟩ := trm_front h2 k2 ew
      obtain rfl := Nat.succ.inj en
      obtain rfl := nodup_ix hT h4 k4
      obtain ⟨a, b⟩ := ih hT k5
      exact ⟨by rw [a], b⟩
    | new k1 k2 k3 k4 k5 =>
      obtain ⟨rfl, rfl⟩ := trm_front h1 k1 eu
      obtain ⟨rfl, rfl⟩ := trm_front h2 k2 ew
      exact absurd (mem_ix h4) k4
  | @new T T' n s t u w g h1 h2 h3 h4 h5 ih =>
    intro hT g2 T2 k
    have hN : (T ++ [(s, t)]).Nodup := by
      rw [List.nodup_append]
      refine ⟨hT, by simp, fun x hx y hy e => ?_⟩
      rw [List.mem_singleton] at hy
      subst e
      subst hy
      exact h4 hx
    generalize eu : s ++ u = U at k
    generalize ew : t ++ w = W at k
    generalize en : n + 1 = m at k
    cases k with
    | nil => cases en
    | sym k0 ka k1 => exact (apt_head h1 h2 h3 k0 eu ew).elim
    | old k1 k2 k3 k4 k5 =>
      obtain ⟨rfl, rfl⟩ := trm_front h1 k1 eu
      obtain ⟨rfl, rfl⟩ := trm_front h2 k2 ew
      exact absurd (mem_ix k4) h4
    | new k1 k2 k3 k4 k5 =>
      obtain ⟨rfl, rfl⟩ := trm_front h1 k1 eu
      obtain ⟨rfl, rfl⟩ := trm_front h2 k2 ew
      obtain rfl := Nat.succ.inj en
      obtain ⟨a, b⟩ := ih hN k5
      exact ⟨by rw [a], b⟩
/-- a sequence of terms: the first one and the others -/
theorem seq_front {sg u : List Int} {n : Nat} (h : scan sg (n + 1) u = some u.length) : ∃ s r, u = s ++ r ∧ Trm sg s ∧ scan sg n r = some r.length := by
  obtain ⟨j, h1, h2, h3, h4⟩ := scan_first (a := 0) (by rw [List.drop_zero]; exact h)
  rw [List.drop_zero] at h1
  rw [Nat.zero_add] at h4
  refine ⟨u.take j, u.drop j, (List.take_append_drop j u).symm, ?_, by rw [h4, List.length_drop]⟩
  unfold Trm
  rw [scan_take h1, List.length_take]
  congr 1
  omega
/-- and it is there -/
theorem gs_ex {sg : List Int} : ∀ (m : Nat) {T : Tb} {n : Nat} {u w : List Int}, u.length ≤ m → scan sg n u = some u.length → scan sg n w = some w.length → ∃ g T', Gs sg T n u w g T'
  | m, T, 0, u, w, _, hu, hw => by
    rw [scan_zero] at hu hw
    injection hu with hu
    injection hw with hw
    obtain rfl := List.eq_nil_of_length_eq_zero hu.symm
    obtain rfl := List.eq_nil_of_length_eq_zero hw.symm
    exact ⟨[], T, .nil T⟩
  | 0, T, n + 1, u, w, hm, hu, _ => by
    obtain rfl := List.eq_nil_of_length_eq_zero (Nat.le_zero.1 hm)
    rw [scan_nil] at hu; cases hu
  | m + 1, T, n + 1, u, w, hm, hu, hw => by
    obtain ⟨s, r, e1, hs, hr⟩ := seq_front hu
    obtain ⟨t, q, e2, ht, hq⟩ := seq_front hw
    have hsp := hs.pos
    by_cases ha : Apt s t
    · by_cases hx : (s, t) ∈ T
      · obtain ⟨i, hi⟩ := List.mem_iff_getElem?.1 hx
        obtain ⟨g, T', h⟩ := gs_ex (sg := sg) m (T := T) (n := n) (u := r) (w := q) (by rw [e1, List.length_append] at hm; omega) hr hq
        exact ⟨_, _, by rw [e1, e2]; exact .old hs ht ha hi h⟩
      · obtain ⟨g, T', h⟩ := gs_ex (sg := sg) m (T := T ++ [(s, t)]) (n := n) (u := r) (w := q) (by rw [e1, List.length_append] at hm; omega) hr hq
        exact ⟨_, _, by rw [e1, e2]; exact .new hs ht ha hx h⟩
    · unfold Apt at ha
      rw [Classical.not_not] at ha
      obtain ⟨x, s', rfl, hx⟩ := trm_cons hs
      obtain ⟨y, t', rfl, hy⟩ := trm_cons ht
      rw [hx, hy] at ha
      obtain ⟨h0, rfl⟩ := ha
      rw [e1] at hu
      rw [e2] at hw
      rw [List.cons_append] at hu hw
      have har : ¬ ar sg x < 0 := by
        intro hn
        rw [scan_bad hn] at hu; cases hu
      rw [scan_step har, Option.map_eq_some_iff] at hu hw
      obtain ⟨a, a1, a2⟩ := hu
      obtain ⟨b, b1, b2⟩ := hw
      obtain ⟨g, T', h⟩ := gs_ex (sg := sg) m (T := T) (n := n + (ar sg x).toNat) (u := s' ++ r) (w := t' ++ q) (by rw [e1] at hm; simp at hm ⊢; omega) (by rw [a1]; congr 1; simp at a2 ⊢; omega) (by rw [b1]; congr 1; simp at b2 ⊢; omega)
      exact ⟨_, _, by rw [e1, e2]; exact .sym h0 har h⟩
/-- read the other way round -/
theorem gs_swap {sg : List Int} {T T' : Tb} {n : Nat} {u w g : List Int} (h : Gs sg T n u w g T') : Gs sg (T.map Prod.swap) n w u g (T'.map Prod.swap) := by
  have apt : ∀ {s t : List Int}, Apt s t → Apt t s := fun h ⟨a, b⟩ => h ⟨by rw [← b]; exact a, b.symm⟩
  induction h with
  | nil T => exact .nil _
  | sym h0 ha _ ih => exact .sym h0 ha ih
  | old h1 h2 h3 h4 _ ih => exact .old h2 h1 (apt h3) (by rw [List.getElem?_map, h4]; rfl) ih
  | @new T T' n s t u w g h1 h2 h3 h4 _ ih =>
    have := Gs.new (sg := sg) (T := T.map Prod.swap) h2 h1 (apt h3) (fun hm => h4 (by
      rw [List.mem_map] at hm
      obtain ⟨⟨a, b⟩, m1, m2⟩ := hm
      injection m2 with m2 m3
      rw [← m2, ← m3]
      exact m1)) (by rw [List.map_append] at ih; exact ih)
    rw [List.length_map] at this
    exact this

/-! ### with a table that stays -/
inductive Gt (sg : List Int) (T : Tb) : Nat → List Int → List Int → List Int → Prop
  | nil : Gt sg T 0 [] [] []
  | sym {n : Nat} {u w g : List Int} {x : Int} : 0 ≤ x → ¬ ar sg x < 0 → Gt sg T (n + (ar sg x).toNat) u w g → Gt sg T (n + 1) (x :: u) (x :: w) (x :: g)
  | old {n i : Nat} {s t u w g : List Int} : Trm sg s → Trm sg t → Apt s t → T[i]? = some (s, t) → Gt sg T n u w g → Gt sg T (n + 1) (s ++ u) (t ++ w) ((-1 - (i : Int)) :: g)
theorem gs_gt {sg : List Int} {T T' : Tb} {n : Nat} {u w g : List Int} (h : Gs sg T n u w g T') : ∀ E, Gt sg (T' ++ E) n u w g := by
  induction h with
  | nil T => intro E; exact .nil
  | sym h0 ha _ ih => intro E; exact .sym h0 ha (ih E)
  | old h1 h2 h3 h4 k ih =>
    intro E
    obtain ⟨F, e⟩ := gs_ext k
    refine .old h1 h2 h3 ?_ (ih E)
    rw [e, List.append_assoc, List.getElem?_append_left (List.getElem?_eq_some_iff.1 h4).1]
    exact h4
  | new h1 h2 h3 h4 k ih =>
    intro E
    obtain ⟨F, e⟩ := gs_ext k
    refine .old h1 h2 h3 ?_ (ih E)
    rw [e, List.append_assoc, List.append_assoc]
    simp
/-- what stands on either side of a variable -/
def f1 (T : Tb) (i : Nat) : List Int := (T.getD i ([], [])).1
def f2 (T : Tb) (i : Nat) : List Int := (T.getD i ([], [])).2
theorem gt_fill {sg : List Int} {T : Tb} {n : Nat} {u w g : List Int} (h : Gt sg T n u w g) : fillL (f1 T) g = u ∧ fillL (f2 T) g = w ∧ ∀ x ∈ g, x < 0 → vr x < T.length ∧ Trm sg (f1 T (vr x)) ∧ Trm sg (f2 T (vr x)) := by
  induction h with
  | nil => exact ⟨rfl, rfl, fun x hx => absurd hx (List.not_mem_nil)⟩
  | @sym n u w g x h0 ha _ ih =>
    refine ⟨by rw [fill_cons, rep_sym h0, ih.1]; rfl, by rw [fill_cons, rep_sym h0, ih.2.1]; rfl, fun y hy hy0 => ?_⟩
    rcases List.mem_cons.1 hy with rfl | hy
    · omega
    · exact ih.2.2 y hy hy0
  | @old n i s t u w g h1 h2 h3 h4 _ ih =>
    have e1 : f1 T i = s := by unfold f1; rw [List.getD_eq_getElem?_getD, h4]; rfl
    have e2 : f2 T i = t := by unfold f2; rw [List.getD_eq_getElem?_getD, h4]; rfl
    refine ⟨by rw [fill_cons, rep_vr (by omega), vr_vt, e1, ih.1], by rw [fill_cons, rep_vr (by omega), vr_vt, e2, ih.2.1], fun y hy hy0 => ?_⟩
    rcases List.mem_cons.1 hy with rfl | hy
    · rw [vr_vt, e1, e2]
      exact ⟨(List.getElem?_eq_some_iff.1 h4).1, h1, h2⟩
    · exact ih.2.2 y hy hy0
theorem gt_scan {sg : List Int} {T : Tb} {n : Nat} {u w g : List Int} (hT : T.length ≤ 24) (h : Gt sg T n u w g) : scan sg n g = some g.length := by
  induction h with
  | nil => rfl
  | sym h0 ha _ ih => rw [scan_step ha, ih]; rfl
  | @old n i s t u w g h1 h2 h3 h4 _ ih =>
    have hi := (List.getElem?_eq_some_iff.1 h4).1
    have e : ar sg (-1 - (i : Int)) = 0 := ar_var (by omega)
    rw [scan_step (by rw [e]; omega), e]
    show (scan sg (n + 0) g).map (· + 1) = _
    rw [Nat.add_zero, ih]; rfl
theorem gt_one {sg : List Int} {T : Tb} (hT : T.Nodup) {n : Nat} {u w g : List Int} (h : Gt sg T n u w g) : ∀ {g2 : List Int}, Gt sg T n u w g2 → g = g2 := by
  induction h with
  | nil =>
    intro g2 k
    cases k with
    | nil => rfl
  | @sym n u w g x h0 ha h1 ih =>
    intro g2 k
    generalize eu : x :: u = U at k
    generalize ew : x :: w = W at k
    generalize en : n + 1 = m at k
    cases k with
    | nil => cases eu
    | sym k0 ka k1 =>
      injection eu with e1 e2
      injection ew with _ e3
      subst e1; subst e2; subst e3
      obtain rfl := Nat.succ.inj en
      rw [ih k1]
    | old k1 k2 k3 _ _ => exact (apt_head k1 k2 k3 h0 eu.symm ew.symm).elim
  | @old n i s t u w g h1 h2 h3 h4 h5 ih =>
    intro g2 k
    generalize eu : s ++ u = U at k
    generalize ew : t ++ w = W at k
    generalize en : n + 1 = m at k
    cases k with
    | nil => cases en
    | sym k0 ka k1 => exact (apt_head h1 h2 h3 k0 eu ew).elim
    | old k1 k2 k3 k4 k5 =>
      obtain ⟨rfl, rfl⟩ := trm_front h1 k1 eu
      obtain ⟨rfl, rfl⟩ := trm_front h2 k2 ew
      obtain rfl := Nat.succ.inj en
      obtain rfl := nodup_ix hT h4 k4
      rw [ih k5]
/-- the first so many terms, and the others -/
theorem gt_split {sg : List Int} {T : Tb} {m : Nat} {X Y g : List Int} (h : Gt sg T m X Y g) : ∀ {p q : Nat} {u w U W : List Int}, m = p + q → X = u ++ U → Y = w ++ W → scan sg p u = some u.length → scan sg p w = some w.length → ∃ g1 g2, g = g1 ++ g2 ∧ Gt sg T p u w g1 ∧ Gt sg T q U W g2 := by
  have zero : ∀ {m : Nat} {X Y g : List Int}, Gt sg T m X Y g → ∀ {q : Nat} {u w U W : List Int}, m = 0 + q → X = u ++ U → Y = w ++ W → scan sg 0 u = some u.length → scan sg 0 w = some w.length → ∃ g1 g2, g = g1 ++ g2 ∧ Gt sg T 0 u w g1 ∧ Gt sg T q U W g2 := by
    intro m X Y g h q u w U W e eX eY hu hw
    rw [scan_zero] at hu hw
    injection hu with hu
    injection hw with hw
    obtain rfl := List.eq_nil_of_length_eq_zero hu.symm
    obtain rfl := List.eq_nil_of_length_eq_zero hw.symm
    rw [Nat.zero_add] at e
    subst e
    rw [List.nil_append] at eX eY
    subst eX; subst eY
    exact ⟨[], g, rfl, .nil, h⟩
  induction h with
  | nil =>
    intro p q u w U W e eX eY hu hw
    cases p with
    | zero => exact zero .nil e eX eY hu hw
    | succ p => omega
  | @sym n X Y g x h0 ha h1 ih =>
    intro p q u w U W e eX eY hu hw
    cases p with
    | zero => exact zero (.sym h0 ha h1) e eX eY hu hw
    | succ p =>
      cases u with
      | nil => rw [scan_nil] at hu; cases hu
      | cons x' u =>
        cases w with
        | nil => rw [scan_nil] at hw; cases hw
        | cons y' w =>
          rw [List.cons_append] at eX eY
          injection eX with e1 e2
          injection eY with e3 e4
          subst e1; subst e3
          rw [scan_step ha, Option.map_eq_some_iff] at hu hw
          obtain ⟨a, a1, a2⟩ := hu
          obtain ⟨b, b1, b2⟩ := hw
          obtain ⟨g1, g2, k1, k2, k3⟩ := ih (p := p + (ar sg x).toNat) (q := q) (u := u) (w := w) (by omega) e2 e4 (by rw [a1]; congr 1; simp at a2; omega) (by rw [b1]; congr 1; simp at b2; omega)
          exact ⟨x :: g1, g2, by rw [k1]; rfl, .sym h0 ha k2, k3⟩
  | @old n i s t X Y g h1 h2 h3 h4 h5 ih =>
    intro p q u w U W e eX eY hu hw
    cases p with
    | zero => exact zero (.old h1 h2 h3 h4 h5) e eX eY hu hw
    | succ p =>
      obtain ⟨s', r, e1, hs, hr⟩ := seq_front hu
      obtain ⟨t', r', e2, ht, hr'⟩ := seq_front hw
      rw [e1, List.append_assoc] at eX
      rw [e2, List.append_assoc] at eY
      obtain ⟨es, eX2⟩ := trm_front h1 hs eX
      obtain ⟨et, eY2⟩ := trm_front h2 ht eY
      subst es; subst et
      obtain ⟨g1, g2, k1, k2, k3⟩ := ih (p := p) (q := q) (by omega) eX2 eY2 hr hr'
      exact ⟨(-1 - (i : Int)) :: g1, g2, by rw [k1]; rfl, by rw [e1, e2]; exact .old h1 h2 h3 h4 k2, k3⟩
/-- a pattern of both turns into what comes of them -/
theorem gt_least {sg : List Int} {T : Tb} (hT : T.Nodup) {A B : Nat → List Int} (hA : Sub sg A) (hB : Sub sg B) : ∃ M : Nat → List Int, ∀ {p : List Int} {n : Nat} {g : List Int}, scan sg n p = some p.length → Gt sg T n (fillL A p) (fillL B p) g → fillL M p = g ∧ ∀ x ∈ p, x < 0 → Gt sg T 1 (A (vr x)) (B (vr x)) (M (vr x)) := by
  have hch : ∀ i, ∃ m, (∃ m', Gt sg T 1 (A i) (B i) m') → Gt sg T 1 (A i) (B i) m := fun i => by
    by_cases h : ∃ m', Gt sg T 1 (A i) (B i) m'
    · obtain ⟨m', h'⟩ := h
      exact ⟨m', fun _ => h'⟩
    · exact ⟨[], fun h' => absurd h' h⟩
  refine ⟨fun i => (hch i).choose, fun {p} => ?_⟩
  induction p with
  | nil =>
    intro n g hs h
    cases n with
    | zero =>
      cases h with
      | nil => exact ⟨rfl, fun x hx => absurd hx (List.not_mem_nil)⟩
    | succ n => rw [scan_nil] at hs; cases hs
  | cons x r ih =>
    intro n g hs h
    cases n with
    | zero => rw [scan_zero] at hs; injection hs with hs; simp at hs
    | succ n =>
      have hx := scan_ar hs x (List.mem_cons_self ..)
      rw [scan_step hx, Option.map_eq_some_iff] at hs
      obtain ⟨a, a1, a2⟩ := hs
      have hr : scan sg (n + (ar sg x).toNat) r = some r.length := by rw [a1]; congr 1; simp at a2; omega
      rw [fill_cons, fill_cons] at h
      by_cases h0 : 0 ≤ x
      · rw [rep_sym h0, rep_sym h0] at h
        obtain ⟨g', rfl, h'⟩ : ∃ g', g = x :: g' ∧ Gt sg T (n + (ar sg x).toNat) (fillL A r) (fillL B r) g' := by
          generalize eu : [x] ++ fillL A r = U at h
          generalize ew : [x] ++ fillL B r = W at h
          generalize en : n + 1 = m at h
          cases h with
          | nil => cases eu
          | sym k0 ka k1 =>
            injection eu with e1 e2
            injection ew with _ e3
            subst e1
            have e2' : fillL A r = _ := e2
            have e3' : fillL B r = _ := e3
            rw [e2', e3']
            obtain rfl := Nat.succ.inj en
            exact ⟨_, rfl, k1⟩
          | old k1 k2 k3 _ _ => exact (apt_head k1 k2 k3 h0 eu.symm ew.symm).elim
        obtain ⟨i1, i2⟩ := ih hr h'
        refine ⟨by rw [fill_cons, rep_sym h0, i1]; rfl, fun y hy hy0 => ?_⟩
        rcases List.mem_cons.1 hy with rfl | hy
        · omega
        · exact i2 y hy hy0
      · have hv : vr x < 24 := by
          by_cases h24 : -24 ≤ x
          · unfold vr; omega
          · rw [ar_no (by omega) (by omega)] at hx; omega
        have hz : ar sg x = 0 := ar_var (by unfold vr at hv; omega)
        rw [rep_vr (by omega), rep_vr (by omega)] at h
        obtain ⟨g1, g2, e, k1, k2⟩ := gt_split h (show n + 1 = 1 + n by omega) rfl rfl (hA.trm _ hv) (hB.trm _ hv)
        have hc := (hch (vr x)).choose_spec ⟨_, k1⟩
        have hg1 := gt_one hT hc k1
        rw [hz] at hr
        obtain ⟨i1, i2⟩ := ih (n := n) hr k2
        refine ⟨by rw [fill_cons, rep_vr (by omega), e]; show (hch (vr x)).choose ++ _ = _; rw [hg1, i1], fun y hy hy0 => ?_⟩
        rcases List.mem_cons.1 hy with rfl | hy
        · exact hc
        · exact i2 y hy hy0
end Go.Proofs.Ytkmhnkljigncmaa.genMath
end

section
/-
  CONTRACTS: spec.SameSubst, impl.SameSubst. Conditions: the slices read as lists ('Seg', 'Segs'), at most 1048576 values. (The regions' walks by wip/tools/reg.py.) By an AI agent.
-/
namespace Go.Proofs.Ytkmhnkljigncmaa.sameSubst
open Go.RowKit Go.Proofs.Ytkmhnkljigncmaa.base Go.Proofs.Ytkmhnkljigncmaa.ints Go.Proofs.Ytkmhnkljigncmaa.sig Go.Proofs.Ytkmhnkljigncmaa.same Go.Proofs.Ytkmhnkljigncmaa.marks Go.Proofs.Ytkmhnkljigncmaa.sym Go.Proofs.Ytkmhnkljigncmaa.segs Go.Proofs.Ytkmhnkljigncmaa.segsHelp Go.Proofs.Ytkmhnkljigncmaa.kinds Go.Proofs.Ytkmhnkljigncmaa.varsOf Go.Proofs.Ytkmhnkljigncmaa.fillMath Go.Proofs.Ytkmhnkljigncmaa.look Go.Proofs.Ytkmhnkljigncmaa.substOk Go.Proofs.Ytkmhnkljigncmaa.gives
set_option maxRecDepth 100000

/-- what SameSubst answers -/
def sameG (a b : List (List Int)) : Bool := (List.range 24).all fun i => decide (givesL a i = givesL b i)
def sameB (sg : List Int) (a b : List (List Int)) : Bool := substOkB sg a && (substOkB sg b && sameG a b)
theorem sameG_yes {a b : List (List Int)} (h : ∀ i, i < 24 → givesL a i = givesL b i) : sameG a b = true := by
  unfold sameG
  rw [List.all_eq_true]
  intro i hi
  exact decide_eq_true (h i (List.mem_range.1 hi))
theorem sameG_no {a b : List (List Int)} {i : Nat} (hi : i < 24) (h : givesL a i ≠ givesL b i) : sameG a b = false := by
  cases e : sameG a b with
  | false => rfl
  | true =>
    unfold sameG at e
    rw [List.all_eq_true] at e
    exact absurd (of_decide_eq_true (e i (List.mem_range.2 hi))) h
theorem sameG_iff {a b : List (List Int)} : sameG a b = true ↔ ∀ i, i < 24 → givesL a i = givesL b i := by
  refine ⟨fun e i hi => ?_, sameG_yes⟩
  unfold sameG at e
  rw [List.all_eq_true] at e
  exact of_decide_eq_true (e i (List.mem_range.2 hi))
theorem same_a {sg : List Int} {a b : List (List Int)} (h : substOkB sg a = false) : sameB sg a b = false := by unfold sameB; rw [h, Bool.false_and]
theorem same_b {sg : List Int} {a b : List (List Int)} (h : substOkB sg b = false) : sameB sg a b = false := by unfold sameB; rw [h, Bool.false_and, Bool.and_false]
theorem same_ab {sg : List Int} {a b : List (List Int)} (h : substOkB sg a = true) (h' : substOkB sg b = true) : sameB sg a b = sameG a b := by unfold sameB; rw [h, h', Bool.true_and, Bool.true_and]
/-- three boxes -/
theorem boxesSS (w : World) (A : Option Addr) (n c : Nat) (S : Option Addr) (m c' : Nat) (T : Option Addr) (q cq : Nat) : ∃ W, W = ((w.alloc (.cells #[.slice A n c] 26)).alloc (.cells #[.slice S m c'] 31)).alloc (.cells #[.slice T q cq] 31) ∧
    Row W w.heap.size 26 #[.slice A n c] ∧ Row W (w.heap.size + 1) 31 #[.slice S m c'] ∧ Row W (w.heap.size + 2) 31 #[.slice T q cq] ∧ Below w.heap.size w W := by
  obtain ⟨W, hW, r1, r2, b⟩ := boxes2 w A n c S m c'
  have hz : W.heap.size = w.heap.size + 2 := by rw [hW]; simp
  refine ⟨_, rfl, ?_, ?_, ?_, ?_⟩
  · rw [← hW]; exact r1.alloc _
  · rw [← hW]; exact r2.alloc _
  · rw [← hW, ← hz]; exact Row.new _ _ _
  · rw [← hW]; exact b.alloc b.size _

theorem gives_each {ss : List (List Int)} (h : ∀ j, (ss.getD j []).length ≤ 1048576) (i : Nat) : (givesL ss i).length ≤ 1048576 := by
  unfold givesL
  split
  · simp [vt]
  · exact h i
theorem lookupB (S : Option Addr) (m c : Nat) (w : World) :
    Calls Try.prog 72 #[.agg #[.slice S m c]] w fun e w' => e = .returned (.func (.func 112) #[] #[.pointer (some ⟨w.heap.size, 0, none⟩)]) ∧ Row w' w.heap.size 31 #[.slice S m c] ∧ Below w.heap.size w w' :=
  (lookupIn S m c w).mono fun _ _ ⟨he, hw⟩ => ⟨he, by rw [hw]; exact Row.new _ _ _, by rw [hw]; exact (Below.refl _ _).alloc (Nat.le_refl _) _⟩

/-- the head of both loops: the boxes of the two substitutions lie at b1 and b2 -/
def HeadSS (w : World) (b1 b2 : Nat) (S : Option Addr) (m c : Nat) (T : Option Addr) (q cq : Nat) (xa xb : List (List Int)) (i : Value) (wr : World) : Prop :=
  ∃ k : Nat, k ≤ 24 ∧ i = .int .i64 k ∧ (∀ j, j < k → givesL xa j = givesL xb j) ∧ Row wr b1 31 #[.slice S m c] ∧ Row wr b2 31 #[.slice T q cq] ∧ Below w.heap.size w wr
theorem headSS_step {w wr w2 : World} {b1 b2 m c q cq k : Nat} {S T : Option Addr} {xa xb : List (List Int)} (hk : k < 24) (h : ∀ j, j < k → givesL xa j = givesL xb j) (he : givesL xa k = givesL xb k)
    (r1 : Row wr b1 31 #[.slice S m c]) (r2 : Row wr b2 31 #[.slice T q cq]) (hb : Below w.heap.size w wr) (bb : Below wr.heap.size wr w2) : HeadSS w b1 b2 S m c T q cq xa xb (.int .i64 ((k : Int) + 1)) w2 :=
  ⟨k + 1, hk, by simp, fun j hj => by
    by_cases e : j = k
    · rw [e]; exact he
    · exact h j (by omega), r1.next bb, r2.next bb, next_trans hb bb⟩

set_option maxHeartbeats 8000000 in
theorem specSameSubst (A S T : Option Addr) (n c m c' q cq : Nat) (sg : List Int) (xa xb : List (List Int)) (w : World) (h : Seg w w.heap.size A n sg) (h' : Segs w w.heap.size S m xa) (h2 : Segs w w.heap.size T q xb) (hn : n ≤ 1048576) (ht : tot xa ≤ 1048576) (ht2 : tot xb ≤ 1048576) :
    Calls Try.prog 16 #[.agg #[.slice A n c], .agg #[.slice S m c'], .agg #[.slice T q cq]] w (AnsB w (sameB sg xa xb)) := by
  obtain ⟨W, hW, rA, rS, rT, bel⟩ := boxesSS w A n c S m c' T q cq
  have HW := Lib.hid hW
  have hm : m ≤ 1048576 := tot_len h'.1 ht
  have hq : q ≤ 1048576 := tot_len h2.1 ht2
  have HE1 := Lib.hid (tot_each ht)
  have HE2 := Lib.hid (tot_each ht2)
  have HT1 := Lib.hid ht
  have HT2 := Lib.hid ht2
  have s := h.next bel
  have s1 := h'.next bel
  have s2 := h2.next bel
  have L := Lib.hid (specSubstOk A S n c m c' sg xa W s s1 hn ht)
  clear hW ht ht2
  cases hok : substOkB sg xa with
  | false =>
    have HS := Lib.hid hok
    clear hok s s1 s2 h h' h2
    go_enter Try.func16, Try.ntmps16
    go_wp2_with fail
    rw [← HW.out]
    refine L.out.mono ?_
    rintro e w1 ⟨he, bb⟩
    rw [HS.out] at he
    subst he
    have F := Lib.hid (ansB (b := sameB sg xa xb) (a := false) (by rw [same_a HS.out]) (next_trans bel bb))
    clear bb bel rA rS rT
    go_wp2
    go_ret
    exact F.out
  | true =>
    have HS := Lib.hid hok
    clear hok
    go_enter Try.func16, Try.ntmps16
    go_wp2_with fail
    rw [← HW.out]
    refine L.out.mono ?_
    rintro e w1 ⟨he, bb⟩
    rw [HS.out] at he
    subst he
    replace s := s.next bb
    replace s1 := s1.next bb
    replace s2 := s2.next bb
    replace rA := rA.next bb
    replace rS := rS.next bb
    replace rT := rT.next bb
    replace bel := next_trans bel bb
    have cA : w1.cell? ⟨w.heap.size, 0, none⟩ = some (.slice A n c) := rA.cell 0
    have cT : w1.cell? ⟨w.heap.size + 2, 0, none⟩ = some (.slice T q cq) := rT.cell 0
    have L2 := Lib.hid (specSubstOk A T n c q cq sg xb w1 s s2 hn HT2.out)
    clear bb L
    cases hok2 : substOkB sg xb with
    | false =>
      have HS2 := Lib.hid hok2
      clear hok2 s s1 s2 h h' h2
      go_wp2_with fail
      refine L2.out.mono ?_
      rintro e w2 ⟨he, bb⟩
      rw [HS2.out] at he
      subst he
      have F := Lib.hid (ansB (b := sameB sg xa xb) (a := false) (by rw [same_b HS2.out]) (next_trans bel bb))
      clear bb bel rA rS rT cA cT L2
      go_wp2
      go_ret
      exact F.out
    | true =>
      have HS2 := Lib.hid hok2
      clear hok2
      go_wp2_with fail
      refine L2.out.mono ?_
      rintro e w2 ⟨he, bb⟩
      rw [HS2.out] at he
      subst he
      replace s1 := s1.next bb
      replace s2 := s2.next bb
      replace rS := rS.next bb
      replace rT := rT.next bb
      replace bel := next_trans bel bb
      clear bb L2 cA cT rA s
      have H0 : HeadSS w (w.heap.size + 1) (w.heap.size + 2) S m c' T q cq xa xb (.int .i64 0) w2 := ⟨0, Nat.zero_le _, rfl, fun j hj => absurd hj (Nat.not_lt_zero _), rS, rT, bel⟩
      have HH := Lib.hid H0
      clear H0 s1 s2 rS rT bel
      go_wp2_with fail
      go_loopw [7] (fun i wr => HeadSS w (w.heap.size + 1) (w.heap.size + 2) S m c' T q cq xa xb i wr) (fun i _ => 24 - (intOf i).toNat)
      case atStart => exact HH.out
      case round =>
        obtain ⟨k, hk, rfl, hlow, r1, r2, hb⟩ := hrel
        clear HH
        have HLOW := Lib.hid hlow
        clear hlow
        by_cases hlt : k < 24
        · have i0 : (0 : Int) ≤ (k : Int) := by omega
          have cS : wr.cell? ⟨w.heap.size + 1, 0, none⟩ = some (.slice S m c') := r1.cell 0
          have cT : wr.cell? ⟨w.heap.size + 2, 0, none⟩ = some (.slice T q cq) := r2.cell 0
          have LG := Lib.hid (l2Gives S m c' xa k wr.drew (((h'.below hb).more hb.size).drew) HT1.out (by omega))
          have t2 := (((h2.below hb).more hb.size).drew)
          have rd1 := r1.drew
          have rd2 := r2.drew
          have hya : (givesL xa k).length ≤ 1048576 := gives_each HE1.out k
          have hyb : (givesL xb k).length ≤ 1048576 := gives_each HE2.out k
          obtain ⟨ya, hya2⟩ : ∃ ya, givesL xa k = ya := ⟨_, rfl⟩
          rw [hya2] at LG hya
          have HYA := Lib.hid hya2
          clear hya2 h h' h2
          obtain ⟨z, hz⟩ : ∃ z, decide (ya = givesL xb k) = z := ⟨_, rfl⟩
          have HZ := Lib.hid hz
          clear hz
          go_wp2_with fail
          refine wp_region_held_drew (S := (fun w' => w'.cell? ⟨w.heap.size + 1, 0, none⟩ = some (.slice S m c') ∧ w'.cell? ⟨w.heap.size + 2, 0, none⟩ = some (.slice T q cq))) (by kernel_rfl) ⟨cS, cT⟩ (fun hHeld => ?_)
          refine wpAnyH_take (i := 0) (v := ?_) rfl (by kernel_rfl) (by kernel_rfl) (by kernel_rfl) (fun _ _ _ h => h) (Or.inl ⟨by rfl, ?_⟩) (by assumption) ?_
          rotate_left 1
          · (intro w0 hSw; (try dsimp only at hSw); go_simp; try with_reducible rfl)
          try simp only [Act.put, List.setIfInBounds_toArray, List.set_cons_zero, List.set_cons_succ, List.getElem_toArray, List.getElem_cons_zero, List.getElem_cons_succ]
          refine wpAnyH_take (i := 1) (v := ?_) rfl (by kernel_rfl) (by kernel_rfl) (by kernel_rfl) (fun _ _ _ h => h) (Or.inl ⟨by rfl, ?_⟩) (by assumption) ?_
          rotate_left 1
          · (intro w0 hSw; (try dsimp only at hSw); go_simp; try with_reducible rfl)
          try simp only [Act.put, List.setIfInBounds_toArray, List.set_cons_zero, List.set_cons_succ, List.getElem_toArray, List.getElem_cons_zero, List.getElem_cons_succ]
          refine wpAnyH_take (i := 3) (v := ?_) rfl (by kernel_rfl) (by kernel_rfl) (by kernel_rfl) (fun _ _ _ h => h) (Or.inl ⟨by rfl, ?_⟩) (by assumption) ?_
          rotate_left 1
          · (intro w0 hSw; (try dsimp only at hSw); go_simp; try with_reducible rfl)
          try simp only [Act.put, List.setIfInBounds_toArray, List.set_cons_zero, List.set_cons_succ, List.getElem_toArray, List.getElem_cons_zero, List.getElem_cons_succ]
          refine wpAnyH_take (i := 4) (v := ?_) rfl (by kernel_rfl) (by kernel_rfl) (by kernel_rfl) (fun _ _ _ h => h) (Or.inl ⟨by rfl, ?_⟩) (by assumption) ?_
          rotate_left 1
          · (intro w0 hSw; (try dsimp only at hSw); go_simp; try with_reducible rfl)
          try simp only [Act.put, List.setIfInBounds_toArray, List.set_cons_zero, List.set_cons_succ, List.getElem_toArray, List.getElem_cons_zero, List.getElem_cons_succ]
          refine wpAnyH_ready (rs := [2]) (by kernel_rfl) (by simp) (AllReadyH.cons rfl (fun K hK => ?_) AllReadyH.nil)
          go_simp
          refine LG.out.mono ?_; rintro e w3 ⟨X, xn, xc, rfl, oa, b1⟩; have u1 := rd1.next b1; have u2 := rd2.next b1; have x1 : w3.cell? ⟨w.heap.size + 1, 0, none⟩ = some (.slice S m c') := u1.cell 0; have x2 : w3.cell? ⟨w.heap.size + 2, 0, none⟩ = some (.slice T q cq) := u2.cell 0; go_wp2_with fail
          refine hK.out _ _ ?_ (fun hHeld => ?_)
          · first | assumption | (dsimp only; assumption) | exact ⟨by assumption, by assumption⟩
          clear hK K
          try simp only [Act.put, List.setIfInBounds_toArray, List.set_cons_zero, List.set_cons_succ, List.getElem_toArray, List.getElem_cons_zero, List.getElem_cons_succ]
          refine wpAnyH_ready (rs := [5]) (by kernel_rfl) (by simp) (AllReadyH.cons rfl (fun K hK => ?_) AllReadyH.nil)
          go_simp
          refine (l2Gives T q cq xb k w3 (t2.next b1) HT2.out (by omega)).mono ?_; rintro e w4 ⟨Y, yn, yc, rfl, ob, b2⟩; have oa2 := oa.next b2; have v1 := u1.next b2; have v2 := u2.next b2; have x1 : w4.cell? ⟨w.heap.size + 1, 0, none⟩ = some (.slice S m c') := v1.cell 0; have x2 : w4.cell? ⟨w.heap.size + 2, 0, none⟩ = some (.slice T q cq) := v2.cell 0; go_wp2_with fail
          refine hK.out _ _ ?_ (fun hHeld => ?_)
          · first | assumption | (dsimp only; assumption) | exact ⟨by assumption, by assumption⟩
          clear hK K
          try simp only [Act.put, List.setIfInBounds_toArray, List.set_cons_zero, List.set_cons_succ, List.getElem_toArray, List.getElem_cons_zero, List.getElem_cons_succ]
          refine wpAnyH_ready (rs := [6]) (by kernel_rfl) (by simp) (AllReadyH.cons rfl (fun K hK => ?_) AllReadyH.nil)
          go_simp
          refine (specSame X Y xn yn xc yc ya (givesL xb k) w4 (Own.seg oa2) (Own.seg ob) (by rw [Own.len oa]; exact hya) (by rw [Own.len ob]; exact hyb)).mono ?_; rintro e w5 ⟨he, d, rfl⟩; rw [HZ.out] at he; subst he; have x1 : (w4.drewN d).cell? ⟨w.heap.size + 1, 0, none⟩ = some (.slice S m c') := (v1.drewN d).cell 0; have x2 : (w4.drewN d).cell? ⟨w.heap.size + 2, 0, none⟩ = some (.slice T q cq) := (v2.drewN d).cell 0; go_wp2_with fail
          refine hK.out _ _ ?_ (fun hHeld => ?_)
          · first | assumption | (dsimp only; assumption) | exact ⟨by assumption, by assumption⟩
          clear hK K
          try simp only [Act.put, List.setIfInBounds_toArray, List.set_cons_zero, List.set_cons_succ, List.getElem_toArray, List.getElem_cons_zero, List.getElem_cons_succ]
          refine wpAnyH_take (i := 7) (v := ?_) rfl (by kernel_rfl) (by kernel_rfl) (by kernel_rfl) (fun _ _ _ h => h) (Or.inl ⟨by rfl, ?_⟩) (by assumption) ?_
          rotate_left 1
          · (intro w0 hSw; (try dsimp only at hSw); go_simp; try with_reducible rfl)
          try simp only [Act.put, List.setIfInBounds_toArray, List.set_cons_zero, List.set_cons_succ, List.getElem_toArray, List.getElem_cons_zero, List.getElem_cons_succ]
          refine wpAnyH_done (by kernel_rfl) ?_ _
          have HB : Hid (Below wr.heap.size wr (w4.drewN d)) := Lib.hid (next_trans (drew_below wr) (next_trans b1 (next_trans b2 (drewN_below _ d))))
          clear b1 b2 oa oa2 ob u1 u2 v1 v2 x1 x2 cS cT rd1 rd2 t2 LG
          cases z with
          | true =>
            have S1 := Lib.hid (headSS_step (xa := xa) (xb := xb) hlt HLOW.out (HYA.out.trans (of_decide_eq_true HZ.out)) r1 r2 hb HB.out)
            clear r1 r2 hb
            go_wp2
            go_roundw
            case rel => exact S1.out
            case measure => simp [intOf]; omega
          | false =>
            have F := Lib.hid (ansB (b := sameB sg xa xb) (a := false) (by rw [same_ab HS.out HS2.out, sameG_no hlt (by rw [HYA.out]; exact of_decide_eq_false HZ.out)]) (next_trans hb HB.out))
            clear r1 r2 hb
            go_wp2
            go_ret
            exact F.out
        · have F := Lib.hid (ansB (b := sameB sg xa xb) (a := true) (by rw [same_ab HS.out HS2.out, sameG_yes (fun i hi => HLOW.out i (by omega))]) hb)
          clear r1 r2 hb h h' h2
          go_wp2
          go_ret
          exact F.out

set_option maxHeartbeats 8000000 in
theorem implSameSubst (A S T : Option Addr) (n c m c' q cq : Nat) (sg : List Int) (xa xb : List (List Int)) (w : World) (h : Seg w w.heap.size A n sg) (h' : Segs w w.heap.size S m xa) (h2 : Segs w w.heap.size T q xb) (hn : n ≤ 1048576) (ht : tot xa ≤ 1048576) (ht2 : tot xb ≤ 1048576) :
    Calls Try.prog 24 #[.agg #[.slice A n c], .agg #[.slice S m c'], .agg #[.slice T q cq]] w (AnsB w (sameB sg xa xb)) := by
  obtain ⟨W, hW, rA, rS, rT, bel⟩ := boxesSS w A n c S m c' T q cq
  have HW := Lib.hid hW
  have hm : m ≤ 1048576 := tot_len h'.1 ht
  have hq : q ≤ 1048576 := tot_len h2.1 ht2
  have HE1 := Lib.hid (tot_each ht)
  have HE2 := Lib.hid (tot_each ht2)
  have HT1 := Lib.hid ht
  have HT2 := Lib.hid ht2
  have s := h.next bel
  have s1 := h'.next bel
  have s2 := h2.next bel
  have L := Lib.hid (implSubstOk A S n c m c' sg xa W s s1 hn ht)
  clear hW ht ht2
  cases hok : substOkB sg xa with
  | false =>
    have HS := Lib.hid hok
    clear hok s s1 s2 h h' h2
    go_enter Try.func24, Try.ntmps24
    go_wp2_with fail
    rw [← HW.out]
    refine L.out.mono ?_
    rintro e w1 ⟨he, bb⟩
    rw [HS.out] at he
    subst he
    have F := Lib.hid (ansB (b := sameB sg xa xb) (a := false) (by rw [same_a HS.out]) (next_trans bel bb))
    clear bb bel rA rS rT
    go_wp2
    go_ret
    exact F.out
  | true =>
    have HS := Lib.hid hok
    clear hok
    go_enter Try.func24, Try.ntmps24
    go_wp2_with fail
    rw [← HW.out]
    refine L.out.mono ?_
    rintro e w1 ⟨he, bb⟩
    rw [HS.out] at he
    subst he
    replace s := s.next bb
    replace s1 := s1.next bb
    replace s2 := s2.next bb
    replace rA := rA.next bb
    replace rS := rS.next bb
    replace rT := rT.next bb
    replace bel := next_trans bel bb
    have cA : w1.cell? ⟨w.heap.size, 0, none⟩ = some (.slice A n c) := rA.cell 0
    have cT : w1.cell? ⟨w.heap.size + 2, 0, none⟩ = some (.slice T q cq) := rT.cell 0
    have L2 := Lib.hid (implSubstOk A T n c q cq sg xb w1 s s2 hn HT2.out)
    clear bb L
    cases hok2 : substOkB sg xb with
    | false =>
      have HS2 := Lib.hid hok2
      clear hok2 s s1 s2 h h' h2
      go_wp2_with fail
      refine L2.out.mono ?_
      rintro e w2 ⟨he, bb⟩
      rw [HS2.out] at he
      subst he
      have F := Lib.hid (ansB (b := sameB sg xa xb) (a := false) (by rw [same_b HS2.out]) (next_trans bel bb))
      clear bb bel rA rS rT cA cT L2
      go_wp2
      go_ret
      exact F.out
    | true =>
      have HS2 := Lib.hid hok2
      clear hok2
      go_wp2_with fail
      refine L2.out.mono ?_
      rintro e w2 ⟨he, bb⟩
      rw [HS2.out] at he
      subst he
      replace s1 := s1.next bb
      replace s2 := s2.next bb
      replace rS := rS.next bb
      replace rT := rT.next bb
      replace bel := next_trans bel bb
      clear bb L2 cA cT rA s
      have cS : w2.cell? ⟨w.heap.size + 1, 0, none⟩ = some (.slice S m c') := rS.cell 0
      have cT : w2.cell? ⟨w.heap.size + 2, 0, none⟩ = some (.slice T q cq) := rT.cell 0
      have d1 := rS.drew
      have d2 := rT.drew
      have sd1 := s1.drew
      have sd2 := s2.drew
      have bd := bel.drew
      clear rS rT s1 s2 bel
      go_wp2_with fail
      refine wp_region_held_drew (S := (fun w' => w'.cell? ⟨w.heap.size + 1, 0, none⟩ = some (.slice S m c') ∧ w'.cell? ⟨w.heap.size + 2, 0, none⟩ = some (.slice T q cq))) (by kernel_rfl) ⟨cS, cT⟩ (fun hHeld => ?_)
      refine wpAnyH_take (i := 0) (v := ?_) rfl (by kernel_rfl) (by kernel_rfl) (by kernel_rfl) (fun _ _ _ h => h) (Or.inl ⟨by rfl, ?_⟩) (by assumption) ?_
      rotate_left 1
      · (intro w0 hSw; (try dsimp only at hSw); go_simp; try with_reducible rfl)
      try simp only [Act.put, List.setIfInBounds_toArray, List.set_cons_zero, List.set_cons_succ, List.getElem_toArray, List.getElem_cons_zero, List.getElem_cons_succ]
      refine wpAnyH_take (i := 2) (v := ?_) rfl (by kernel_rfl) (by kernel_rfl) (by kernel_rfl) (fun _ _ _ h => h) (Or.inl ⟨by rfl, ?_⟩) (by assumption) ?_
      rotate_left 1
      · (intro w0 hSw; (try dsimp only at hSw); go_simp; try with_reducible rfl)
      try simp only [Act.put, List.setIfInBounds_toArray, List.set_cons_zero, List.set_cons_succ, List.getElem_toArray, List.getElem_cons_zero, List.getElem_cons_succ]
      refine wpAnyH_ready (rs := [1]) (by kernel_rfl) (by simp) (AllReadyH.cons rfl (fun K hK => ?_) AllReadyH.nil)
      go_simp
      refine (lookupB S m c' w2.drew).mono ?_; rintro e w3 ⟨rfl, ra, b3⟩; have u1 := d1.next b3; have u2 := d2.next b3; have x1 : w3.cell? ⟨w.heap.size + 1, 0, none⟩ = some (.slice S m c') := u1.cell 0; have x2 : w3.cell? ⟨w.heap.size + 2, 0, none⟩ = some (.slice T q cq) := u2.cell 0; go_wp2_with fail
      refine hK.out _ _ ?_ (fun hHeld => ?_)
      · first | assumption | (dsimp only; assumption) | exact ⟨by assumption, by assumption⟩
      clear hK K
      try simp only [Act.put, List.setIfInBounds_toArray, List.set_cons_zero, List.set_cons_succ, List.getElem_toArray, List.getElem_cons_zero, List.getElem_cons_succ]
      refine wpAnyH_ready (rs := [3]) (by kernel_rfl) (by simp) (AllReadyH.cons rfl (fun K hK => ?_) AllReadyH.nil)
      go_simp
      refine (lookupB T q cq w3).mono ?_; rintro e w4 ⟨rfl, rb, b4⟩; have x1 : w4.cell? ⟨w.heap.size + 1, 0, none⟩ = some (.slice S m c') := (u1.next b4).cell 0; have x2 : w4.cell? ⟨w.heap.size + 2, 0, none⟩ = some (.slice T q cq) := (u2.next b4).cell 0; clear u1 u2; go_wp2_with fail
      refine hK.out _ _ ?_ (fun hHeld => ?_)
      · first | assumption | (dsimp only; assumption) | exact ⟨by assumption, by assumption⟩
      clear hK K
      try simp only [Act.put, List.setIfInBounds_toArray, List.set_cons_zero, List.set_cons_succ, List.getElem_toArray, List.getElem_cons_zero, List.getElem_cons_succ]
      refine wpAnyH_take (i := 4) (v := ?_) rfl (by kernel_rfl) (by kernel_rfl) (by kernel_rfl) (fun _ _ _ h => h) (Or.inl ⟨by rfl, ?_⟩) (by assumption) ?_
      rotate_left 1
      · (intro w0 hSw; (try dsimp only at hSw); go_simp; try with_reducible rfl)
      try simp only [Act.put, List.setIfInBounds_toArray, List.set_cons_zero, List.set_cons_succ, List.getElem_toArray, List.getElem_cons_zero, List.getElem_cons_succ]
      refine wpAnyH_take (i := 5) (v := ?_) rfl (by kernel_rfl) (by kernel_rfl) (by kernel_rfl) (fun _ _ _ h => h) (Or.inl ⟨by rfl, ?_⟩) (by assumption) ?_
      rotate_left 1
      · (intro w0 hSw; (try dsimp only at hSw); go_simp; try with_reducible rfl)
      try simp only [Act.put, List.setIfInBounds_toArray, List.set_cons_zero, List.set_cons_succ, List.getElem_toArray, List.getElem_cons_zero, List.getElem_cons_succ]
      refine wpAnyH_done (by kernel_rfl) ?_ _
      have H0 : HeadSS w w2.heap.size w3.heap.size S m c' T q cq xa xb (.int .i64 0) w4 := ⟨0, Nat.zero_le _, rfl, fun j hj => absurd hj (Nat.not_lt_zero _), ra.next b4, rb, next_trans (next_trans bd b3) b4⟩
      have HH := Lib.hid H0
      have G1 := Lib.hid ((sd1.next b3).next b4)
      have G2 := Lib.hid ((sd2.next b3).next b4)
      clear H0 sd1 sd2 d1 d2 bd b3 b4 ra rb cS cT x1 x2
      go_wp2_with fail
      go_loopw [24] (fun i wr => HeadSS w w2.heap.size w3.heap.size S m c' T q cq xa xb i wr) (fun i _ => 24 - (intOf i).toNat)
      case atStart => exact HH.out
      case round =>
        obtain ⟨k, hk, rfl, hlow, r1, r2, hb⟩ := hrel
        clear HH
        have HLOW := Lib.hid hlow
        clear hlow
        by_cases hlt : k < 24
        · have i0 : (0 : Int) ≤ (k : Int) := by omega
          have LA : Calls Try.prog 112 #[.int .i64 (k : Int), .pointer (some ⟨w2.heap.size, 0, none⟩)] wr (AnsLook wr.heap.size wr (givesL xa k)) := lookSubst w2.heap.size S m c' xa wr r1 ((h'.below hb).more hb.size) hm wr k (Below.refl _ _) hlt
          have t2 := (h2.below hb).more hb.size
          have hya : (givesL xa k).length ≤ 1048576 := gives_each HE1.out k
          have hyb : (givesL xb k).length ≤ 1048576 := gives_each HE2.out k
          obtain ⟨ya, hya2⟩ : ∃ ya, givesL xa k = ya := ⟨_, rfl⟩
          rw [hya2] at LA hya
          have HYA := Lib.hid hya2
          clear hya2 h h' h2
          obtain ⟨z, hz⟩ : ∃ z, decide (ya = givesL xb k) = z := ⟨_, rfl⟩
          have HZ := Lib.hid hz
          clear hz
          replace LA := Lib.hid LA
          go_wp2_with fail
          refine LA.out.mono ?_
          rintro e w5 ⟨X, xn, xc, rfl, oa, -, -, b1⟩
          have LB : Calls Try.prog 112 #[.int .i64 (k : Int), .pointer (some ⟨w3.heap.size, 0, none⟩)] w5 (AnsLook w5.heap.size w5 (givesL xb k)) := lookSubst w3.heap.size T q cq xb w5 (r2.next b1) (t2.next b1) hq w5 k (Below.refl _ _) hlt
          replace LB := Lib.hid LB
          clear t2
          go_wp2_with fail
          refine LB.out.mono ?_
          rintro e w6 ⟨Y, yn, yc, rfl, ob, -, -, b2⟩
          have oa2 := oa.next b2
          go_wp2_with fail
          refine (implSame X Y xn yn xc yc ya (givesL xb k) w6 oa2 ob (by rw [← oa.1]; exact hya) (by rw [← ob.1]; exact hyb)).mono ?_
          rintro e w7 ⟨he, d, rfl⟩
          rw [HZ.out] at he
          subst he
          have HB := Lib.hid (next_trans b1 (next_trans b2 (drewN_below _ d)))
          clear b1 b2 oa oa2 ob LA LB
          cases z with
          | true =>
            have S1 := Lib.hid (headSS_step (xa := xa) (xb := xb) hlt HLOW.out (HYA.out.trans (of_decide_eq_true HZ.out)) r1 r2 hb HB.out)
            clear r1 r2 hb
            go_wp2
            go_roundw
            case rel => exact S1.out
            case measure => simp [intOf]; omega
          | false =>
            have F := Lib.hid (ansB (b := sameB sg xa xb) (a := false) (by rw [same_ab HS.out HS2.out, sameG_no hlt (by rw [HYA.out]; exact of_decide_eq_false HZ.out)]) (next_trans hb HB.out))
            clear r1 r2 hb
            go_wp2
            go_ret
            exact F.out
        · have F := Lib.hid (ansB (b := sameB sg xa xb) (a := true) (by rw [same_ab HS.out HS2.out, sameG_yes (fun i hi => HLOW.out i (by omega))]) hb)
          clear r1 r2 hb h h' h2
          go_wp2
          go_ret
          exact F.out
end Go.Proofs.Ytkmhnkljigncmaa.sameSubst
end

section
/-
  PLAIN MATHEMATICS of plain substitutions: the plain form is valid, replaces in the same way, and is unique; of compositions: they are valid and fill as one after the other. Conditions: those named. By an AI agent.
-/
namespace Go.Proofs.Ytkmhnkljigncmaa.plainFacts
open Go.RowKit Go.Proofs.Ytkmhnkljigncmaa.base Go.Proofs.Ytkmhnkljigncmaa.ints Go.Proofs.Ytkmhnkljigncmaa.sig Go.Proofs.Ytkmhnkljigncmaa.term Go.Proofs.Ytkmhnkljigncmaa.termOk Go.Proofs.Ytkmhnkljigncmaa.termFacts Go.Proofs.Ytkmhnkljigncmaa.fillMath Go.Proofs.Ytkmhnkljigncmaa.plainMath Go.Proofs.Ytkmhnkljigncmaa.plainOf Go.Proofs.Ytkmhnkljigncmaa.substOk Go.Proofs.Ytkmhnkljigncmaa.gives Go.Proofs.Ytkmhnkljigncmaa.sameSubst Go.Proofs.Ytkmhnkljigncmaa.compMath Go.Proofs.Ytkmhnkljigncmaa.filled

/-- a plain form gives what its look-up gives -/
theorem gives_plain {L : Nat → List Int} {m i : Nat} (hpos : ∀ i, 1 ≤ (L i).length) (hout : ∀ i, m ≤ i → L i = vt i) : givesL (plainL L m) i = L i := by
  have e := plain_get L m i
  by_cases h : i < m
  · rw [rows_get h] at e
    unfold bare at e
    by_cases h2 : L i = vt i
    · rw [if_pos h2] at e
      rw [gives_var (by rw [e]; rfl), h2]
    · rw [if_neg h2] at e
      rw [gives_term (by rw [e]; have := hpos i; omega), e]
  · have e0 : (rowsL L m).getD i [] = [] := by simp [List.getD, rows_len, h]
    rw [e0] at e
    rw [gives_var (by rw [e]; rfl), hout i (by omega)]
theorem plain_gives {ss : List (List Int)} (i : Nat) : givesL (plainL (givesL ss) ss.length) i = givesL ss i :=
  gives_plain (fun j => gives_pos ss j) (fun j hj => gives_out (by omega))
/-- a plain form is valid, if its look-up gives terms -/
theorem plain_valid {sg : List Int} {L : Nat → List Int} {m : Nat} (hs : sigOkB sg = true) (hm : m ≤ 24) (hok : ∀ i, i < m → termOkB sg (L i) = true) : substOkB sg (plainL L m) = true := by
  have hl := plain_len L m
  refine subst_good hs (by omega) (fun j hj => ?_)
  rw [plain_get, rows_get (by omega)]
  unfold bare goodB
  split
  · simp
  · rw [hok j (by omega)]
    simp
theorem plain_ok {sg : List Int} {ss : List (List Int)} (h : substOkB sg ss = true) : substOkB sg (plainL (givesL ss) ss.length) = true :=
  plain_valid (substOk_parts h).1 (substOk_parts h).2.1 (fun i hi => gives_ok h (by have := (substOk_parts h).2.1; omega))
theorem plain_eq_24 {ss : List (List Int)} (h : ss.length ≤ 24) : plainL (givesL ss) ss.length = plainL (givesL ss) 24 := (plain_24 h (fun i hi => gives_out (by omega))).symm
/-- two valid substitutions replace in the same way if and only if their plain forms are equal -/
theorem plain_iff {sg : List Int} {a b : List (List Int)} (ha : substOkB sg a = true) (hb : substOkB sg b = true) : sameB sg a b = decide (plainL (givesL a) a.length = plainL (givesL b) b.length) := by
  rw [same_ab ha hb]
  by_cases h : sameG a b = true
  · rw [h]
    symm
    rw [decide_eq_true_eq, plain_eq_24 (substOk_parts ha).2.1, plain_eq_24 (substOk_parts hb).2.1]
    exact plain_ext (fun i hi => sameG_iff.1 h i hi)
  · have h0 : sameG a b = false := by simpa using h
    rw [h0]
    symm
    rw [decide_eq_false_iff_not]
    intro e
    refine h (sameG_iff.2 (fun i _ => ?_))
    rw [← plain_gives (ss := a) i, ← plain_gives (ss := b) i, e]
theorem plain_self {sg : List Int} {a : List (List Int)} (ha : substOkB sg a = true) : sameB sg (plainL (givesL a) a.length) a = true := by
  rw [same_ab (plain_ok ha) ha]
  exact sameG_iff.2 (fun i _ => plain_gives i)
/-- nothing, or its last term is there -/
theorem plain_last (L : Nat → List Int) (m : Nat) : (plainL L m).length = 0 ∨ 0 < ((plainL L m).getD ((plainL L m).length - 1) []).length := by
  unfold plainL
  rcases strip_end (rowsL L m) with h | ⟨q, h1, h2⟩
  · exact .inl (by rw [h]; rfl)
  · refine .inr ?_
    rw [h1, Nat.add_sub_cancel]
    exact List.length_pos_iff.2 h2
/-- the composition, as a substitution -/
theorem comp_gives {sg : List Int} {ss us : List (List Int)} (h : composedB sg ss us = true) (i : Nat) : givesL (composedI sg ss us) i = if i < 24 then compL us ss i else vt i := by
  rw [composed_yes h]
  have hs : substOkB sg ss = true := by unfold composedB at h; simp at h; exact h.1
  have hu : substOkB sg us = true := by unfold composedB at h; simp at h; exact h.2.1
  have e : compL us ss = fun i => compL us ss i := rfl
  have h1 := gives_plain (L := compL us ss) (m := 24) (i := i) (fun j => comp_pos us ss j) (fun j hj => comp_out (by have := (substOk_parts hs).2.1; omega) (by have := (substOk_parts hu).2.1; omega))
  rw [h1]
  split
  · rfl
  · rename_i h2
    exact comp_out (by have := (substOk_parts hs).2.1; omega) (by have := (substOk_parts hu).2.1; omega)
theorem comp_ok {sg : List Int} {ss us : List (List Int)} (h : composedB sg ss us = true) : substOkB sg (composedI sg ss us) = true := by
  have hs : substOkB sg ss = true := by unfold composedB at h; simp at h; exact h.1
  have hu : substOkB sg us = true := by unfold composedB at h; simp at h; exact h.2.1
  have hc : compOk us ss = true := by unfold composedB at h; simp at h; exact h.2.2
  rw [composed_yes h]
  refine plain_valid (substOk_parts hs).1 (Nat.le_refl _) (fun i hi => ?_)
  unfold compL
  refine fill_term (gives_ok hs hi) (fun x hx h0 => gives_ok hu ?_) (compOk_iff.1 hc i hi)
  have := term_mem (gives_ok hs hi) hx
  omega
/-- filling by the composition is filling twice -/
theorem comp_fill {sg : List Int} {ss us : List (List Int)} {t : List Int} (h : composedB sg ss us = true) (ht : termOkB sg t = true) : fillL (givesL (composedI sg ss us)) t = fillL (givesL us) (fillL (givesL ss) t) := by
  rw [fill_fill]
  refine fill_ext (fun x hx h0 => ?_)
  rw [comp_gives h]
  have := term_mem ht hx
  rw [if_pos (by omega)]
  rfl
/-- both ways give the same -/
theorem comp_facts {sg : List Int} {ss us : List (List Int)} {t : List Int} (h : composedB sg ss us = true) (h1 : filledB sg ss t = true) (h2 : filledB sg us (filledL sg ss t) = true) :
    substOkB sg (composedI sg ss us) = true ∧ filledB sg (composedI sg ss us) t = true ∧ filledL sg (composedI sg ss us) t = filledL sg us (filledL sg ss t) := by
  have a1 : termOkB sg t = true := by unfold filledB at h1; simp at h1; exact h1.2.1
  have e1 : filledL sg ss t = fillL (givesL ss) t := by unfold filledL; rw [if_pos h1]
  have e2 : filledL sg us (filledL sg ss t) = fillL (givesL us) (fillL (givesL ss) t) := by unfold filledL; rw [if_pos (by have := h2; unfold filledL at this; exact this), if_pos h1]
  have a2 : fitsB us (filledL sg ss t) = true := by unfold filledB at h2; simp at h2; exact h2.2.2
  have hb : filledB sg (composedI sg ss us) t = true := by
    rw [filled_b (comp_ok h) a1]
    unfold fitsB at a2 ⊢
    rw [comp_fill h a1, ← e1]
    exact a2
  refine ⟨comp_ok h, hb, ?_⟩
  rw [e2]
  unfold filledL
  rw [if_pos hb]
  exact comp_fill h a1
end Go.Proofs.Ytkmhnkljigncmaa.plainFacts
end

section
/-
  PLAIN MATHEMATICS of renamed terms: a renamed term is a term, its variables are 0, 1, .., renamed again it stays. Conditions: none but those named. By an AI agent.
-/
namespace Go.Proofs.Ytkmhnkljigncmaa.renPure
open Go.Proofs.Ytkmhnkljigncmaa.sig Go.Proofs.Ytkmhnkljigncmaa.term Go.Proofs.Ytkmhnkljigncmaa.termOk Go.Proofs.Ytkmhnkljigncmaa.termFacts Go.Proofs.Ytkmhnkljigncmaa.varsMath Go.Proofs.Ytkmhnkljigncmaa.fillMath Go.Proofs.Ytkmhnkljigncmaa.renMath

theorem pigeon : ∀ (n : Nat) (l : List Nat), l.Nodup → (∀ x ∈ l, x < n) → l.length ≤ n
  | 0, l, _, h => by
    cases l with
    | nil => simp
    | cons a r => exact absurd (h a (List.mem_cons_self ..)) (Nat.not_lt_zero _)
  | n + 1, l, hd, h => by
    have h1 := pigeon n (l.erase n) (hd.erase n) (fun x hx => by
      have h2 := (hd.mem_erase_iff).1 hx
      have := h x h2.2
      omega)
    have h3 : l.length ≤ (l.erase n).length + 1 := by
      rw [List.length_erase]
      split <;> omega
    omega

theorem map_nodup {α β : Type} {f : α → β} : ∀ {l : List α}, l.Nodup → (∀ a ∈ l, ∀ b ∈ l, f a = f b → a = b) → (l.map f).Nodup
  | [], _, _ => List.nodup_nil
  | a :: r, h, hf => by
    have h1 := List.nodup_cons.1 h
    rw [List.map_cons, List.nodup_cons]
    refine ⟨fun hm => ?_, map_nodup h1.2 (fun x hx y hy => hf x (List.mem_cons_of_mem _ hx) y (List.mem_cons_of_mem _ hy))⟩
    obtain ⟨b, hb, e⟩ := List.mem_map.1 hm
    have := hf b (List.mem_cons_of_mem _ hb) a (List.mem_cons_self ..) e
    subst this
    exact h1.1 hb

/-- no more than 24 variables stand in a term -/
theorem order_24 {sg t : List Int} (h : termOkB sg t = true) : (orderL t).length ≤ 24 := by
  have h1 := pigeon 24 ((orderL t).map fun x => (-1 - x).toNat) (map_nodup (order_nodup t) (fun a ha b hb e => by
    have := (order_mem.1 ha).2
    have := (order_mem.1 hb).2
    omega)) (fun x hx => by
      obtain ⟨y, hy, rfl⟩ := List.mem_map.1 hx
      have h2 := order_mem.1 hy
      have h3 := term_mem h h2.1
      omega)
  simpa using h1

theorem ren_fill (t : List Int) (o : List Int) : fillL (fun i => vt (idx o (-1 - (i : Int)))) t = t.map (ren o) := by
  induction t with
  | nil => rfl
  | cons x r ih =>
    rw [fill_cons, ih, List.map_cons]
    unfold rep ren
    by_cases h : 0 ≤ x
    · rw [if_pos h, if_neg (by omega)]; rfl
    · rw [if_neg h, if_pos (by omega)]
      show vt (idx o (-1 - (((-1 - x).toNat : Nat) : Int))) ++ _ = _
      rw [show (-1 - (((-1 - x).toNat : Nat) : Int) : Int) = x by omega]
      rfl

theorem ren_ok {sg t : List Int} (h : termOkB sg t = true) : termOkB sg (renL t) = true := by
  have e : renL t = fillL (fun i => vt (idx (orderL t) (-1 - (i : Int)))) t := (ren_fill t (orderL t)).symm
  rw [e]
  refine fill_term h (fun x hx h0 => ?_) (by rw [← e, ren_len]; exact (term_len h).2)
  show termOkB sg (vt (idx (orderL t) (-1 - (((-1 - x).toNat : Nat) : Int)))) = true
  rw [show (-1 - (((-1 - x).toNat : Nat) : Int) : Int) = x by omega]
  refine var_term (term_parts h).1 ?_
  have h1 := idx_lt (order_mem.2 ⟨hx, h0⟩)
  have h2 := order_24 h
  omega

theorem ren_yes {o : List Int} {x : Int} (h : x < 0) : ren o x = -1 - (idx o x : Int) := by unfold ren; rw [if_pos h]
theorem ren_no {o : List Int} {x : Int} (h : ¬ x < 0) : ren o x = x := by unfold ren; rw [if_neg h]
theorem ren_neg {o : List Int} {x : Int} : ren o x < 0 ↔ x < 0 := by
  unfold ren
  split
  · omega
  · omega

theorem ren_inj {t : List Int} {a b : Int} (ha : a ∈ t) (hb : b ∈ t) (h : ren (orderL t) a = ren (orderL t) b) : a = b := by
  have n1 := @ren_neg (orderL t) a
  have n2 := @ren_neg (orderL t) b
  by_cases h0 : a < 0
  · have h1 : b < 0 := n2.1 (h ▸ n1.2 h0)
    unfold ren at h
    rw [if_pos h0, if_pos h1] at h
    have e : idx (orderL t) a = idx (orderL t) b := by omega
    have e1 := idx_get (order_mem.2 ⟨ha, h0⟩)
    have e2 := idx_get (order_mem.2 ⟨hb, h1⟩)
    rw [← e1, ← e2, e]
  · have h1 : ¬ b < 0 := fun hb0 => h0 (n1.1 (h ▸ n2.2 hb0))
    unfold ren at h
    rwa [if_neg h0, if_neg h1] at h

/-- the variables of a renamed term -/
theorem idx_map_on {f : Int → Int} {o : List Int} {x : Int} (hx : x ∈ o) (hf : ∀ a ∈ o, f a = f x → a = x) : idx (o.map f) (f x) = idx o x := by
  induction o with
  | nil => cases hx
  | cons y r ih =>
    rw [List.map_cons, idx, idx]
    by_cases h : y = x
    · rw [if_pos (by rw [h]), if_pos h]
    · rw [if_neg (fun e => h (hf y (List.mem_cons_self ..) e)), if_neg h]
      rcases List.mem_cons.1 hx with e | e
      · exact absurd e.symm h
      · rw [ih e (fun a ha => hf a (List.mem_cons_of_mem _ ha))]

theorem fold_map {f : Int → Int} {t : List Int} (hf : ∀ a ∈ t, ∀ b ∈ t, f a = f b → a = b) (hn : ∀ x, f x < 0 ↔ x < 0) : ∀ (l o : List Int), (∀ x ∈ l, x ∈ t) → (∀ x ∈ o, x ∈ t) → (l.map f).foldl extV (o.map f) = (l.foldl extV o).map f
  | [], _, _, _ => rfl
  | x :: l, o, hl, ho => by
    have hx := hl x (List.mem_cons_self ..)
    rw [List.map_cons, List.foldl_cons, List.foldl_cons]
    have e : extV (o.map f) (f x) = (extV o x).map f := by
      unfold extV
      by_cases h : x < 0
      · rw [if_pos ((hn x).2 h), if_pos h]
        unfold ext
        by_cases hm : x ∈ o
        · rw [if_pos hm, if_pos (List.mem_map.2 ⟨x, hm, rfl⟩)]
        · rw [if_neg hm, if_neg, List.map_append]
          · rfl
          · intro h2
            obtain ⟨y, hy, e⟩ := List.mem_map.1 h2
            exact hm (hf y (ho y hy) x hx e ▸ hy)
      · rw [if_neg (fun h2 => h ((hn x).1 h2)), if_neg h]
    rw [e]
    refine fold_map hf hn l (extV o x) (fun y hy => hl y (List.mem_cons_of_mem _ hy)) (fun y hy => ?_)
    rcases extV_mem.1 hy with ⟨rfl, _⟩ | h
    · exact hx
    · exact ho y h

theorem order_ren (t : List Int) : orderL (renL t) = (orderL t).map (ren (orderL t)) :=
  fold_map (t := t) (f := ren (orderL t)) (fun a ha b hb h => ren_inj ha hb h) (fun x => ren_neg) t [] (fun _ h => h) (fun x h => by cases h)

/-- renamed twice is renamed -/
theorem ren_ren (t : List Int) : renL (renL t) = renL t := by
  show (renL t).map (ren (orderL (renL t))) = renL t
  rw [order_ren]
  show (t.map (ren (orderL t))).map _ = t.map (ren (orderL t))
  rw [List.map_map]
  refine List.map_congr_left (fun x hx => ?_)
  show ren ((orderL t).map (ren (orderL t))) (ren (orderL t) x) = ren (orderL t) x
  by_cases h : x < 0
  · have h1 := (@ren_neg (orderL t) x).2 h
    have hm := order_mem.2 ⟨hx, h⟩
    have e := idx_map_on (f := ren (orderL t)) hm (fun a ha e => ren_inj (order_mem.1 ha).1 hx e)
    rw [ren_yes h1, e, ren_yes h]
  · have h1 : ¬ ren (orderL t) x < 0 := fun e => h (ren_neg.1 e)
    rw [ren_no h1]
end Go.Proofs.Ytkmhnkljigncmaa.renPure
end

section
/-
  PLAIN MATHEMATICS for the laws of chapter 5: what follows from what unification tells ('IsU'), from what generalisation tells ('IsG'), from what terms that are met tell ('met_facts'). Conditions: none. By an AI agent.
-/
namespace Go.Proofs.Ytkmhnkljigncmaa.unifLaw
open Go.Proofs.Ytkmhnkljigncmaa.sig Go.Proofs.Ytkmhnkljigncmaa.term Go.Proofs.Ytkmhnkljigncmaa.termOk Go.Proofs.Ytkmhnkljigncmaa.termFacts Go.Proofs.Ytkmhnkljigncmaa.endAt Go.Proofs.Ytkmhnkljigncmaa.sub Go.Proofs.Ytkmhnkljigncmaa.termMath Go.Proofs.Ytkmhnkljigncmaa.fillMath Go.Proofs.Ytkmhnkljigncmaa.posMath Go.Proofs.Ytkmhnkljigncmaa.renMath Go.Proofs.Ytkmhnkljigncmaa.renPure Go.Proofs.Ytkmhnkljigncmaa.segsHelp Go.Proofs.Ytkmhnkljigncmaa.substOk Go.Proofs.Ytkmhnkljigncmaa.gives Go.Proofs.Ytkmhnkljigncmaa.plainMath Go.Proofs.Ytkmhnkljigncmaa.plainOf Go.Proofs.Ytkmhnkljigncmaa.plainFacts Go.Proofs.Ytkmhnkljigncmaa.filled Go.Proofs.Ytkmhnkljigncmaa.sameSubst Go.Proofs.Ytkmhnkljigncmaa.compMath Go.Proofs.Ytkmhnkljigncmaa.matchMath Go.Proofs.Ytkmhnkljigncmaa.unifMath Go.Proofs.Ytkmhnkljigncmaa.genMath

/-! ### unification -/
theorem sub_gives {sg : List Int} {L : Nat → List Int} (h : Sub sg L) (i : Nat) : givesL (plainL L 24) i = L i := gives_plain h.pos h.out
theorem sub_valid {sg : List Int} {L : Nat → List Int} (hs : sigOkB sg = true) (h : Sub sg L) (he : ∀ i, (L i).length ≤ 60) : substOkB sg (plainL L 24) = true :=
  plain_valid hs (Nat.le_refl _) (fun i hi => term_mk hs (he i) (h.trm i hi))
theorem gives_sub {sg : List Int} {us : List (List Int)} (h : substOkB sg us = true) : Sub sg (givesL us) :=
  ⟨fun _ hi => (term_parts (gives_ok h hi)).2.2, fun i hi => gives_out (by have := (substOk_parts h).2.1; omega)⟩
theorem fill_plain {sg : List Int} {L : Nat → List Int} (h : Sub sg L) (t : List Int) : fillL (givesL (plainL L 24)) t = fillL L t := fill_ext (fun _ _ _ => sub_gives h _)
theorem filled_plain {sg : List Int} {L : Nat → List Int} {t : List Int} (h : Sub sg L) (hv : substOkB sg (plainL L 24) = true) (ht : termOkB sg t = true) (hl : (fillL L t).length ≤ 60) : filledB sg (plainL L 24) t = true ∧ filledL sg (plainL L 24) t = fillL L t := by
  have hb : filledB sg (plainL L 24) t = true := by
    rw [filled_b hv ht]
    unfold fitsB
    rw [fill_plain h]
    exact decide_eq_true hl
  exact ⟨hb, by unfold filledL; rw [if_pos hb]; exact fill_plain h t⟩
theorem filled_parts {sg : List Int} {us : List (List Int)} {t : List Int} (h : filledB sg us t = true) : substOkB sg us = true ∧ termOkB sg t = true ∧ filledL sg us t = fillL (givesL us) t ∧ (fillL (givesL us) t).length ≤ 60 := by
  have e : filledL sg us t = fillL (givesL us) t := by unfold filledL; rw [if_pos h]
  have hl := filled_len sg us t
  rw [e] at hl
  unfold filledB at h
  rw [Bool.and_eq_true, Bool.and_eq_true] at h
  exact ⟨h.1, h.2.1, e, hl⟩
theorem isU_each {sg a b : List Int} {v : Bool} {F : List (List Int)} (h : IsU sg a b v F) : tot F ≤ 1048576 := by
  rcases h with ⟨_, _, _, L, m, s, rfl⟩ | ⟨_, rfl, _⟩
  · have h3 := tot_le (plain_each (L := L) (m := 24) s.each)
    have h4 := plain_len L 24
    have h5 : (plainL L 24).length * 60 ≤ 24 * 60 := Nat.mul_le_mul_right _ h4
    omega
  · simp [tot, sumL]
/-- a substitution that makes both equal is there: so true is told -/
theorem isU_true {sg a b : List Int} {v : Bool} {F us : List (List Int)} (h : IsU sg a b v F) (h1 : filledB sg us a = true) (h2 : filledB sg us b = true) (he : filledL sg us a = filledL sg us b) : v = true := by
  obtain ⟨a1, a2, a3, a4⟩ := filled_parts h1
  obtain ⟨_, b2, b3, _⟩ := filled_parts h2
  rcases h with ⟨e, _⟩ | ⟨_, _, h⟩
  · exact e
  · rcases h with h | h | h
    · rw [a2] at h; cases h
    · rw [b2] at h; cases h
    · exact absurd ⟨⟨gives_sub a1, by rw [← a3, ← b3, he]⟩, gives_len a1, a4⟩ (h (givesL us))
/-- what true tells -/
theorem isU_facts {sg a b : List Int} {F : List (List Int)} (h : IsU sg a b true F) : substOkB sg F = true ∧ sameB sg F F = true ∧ filledB sg F a = true ∧ filledB sg F b = true ∧ filledL sg F a = filledL sg F b ∧ (composedB sg F F = true → sameB sg (composedI sg F F) F = true) ∧
    ∀ us, filledB sg us a = true → filledB sg us b = true → filledL sg us a = filledL sg us b → composedB sg F us = true → filledB sg (composedI sg F us) a = true ∧ filledL sg (composedI sg F us) a = filledL sg us a := by
  rcases h with ⟨_, h1, h2, L, m, s, rfl⟩ | ⟨e, _⟩
  · have hs := (term_parts h1).1
    have hv := sub_valid hs m.sub s.each
    obtain ⟨fa, la⟩ := filled_plain m.sub hv h1 s.all
    obtain ⟨fb, lb⟩ := filled_plain m.sub hv h2 (by rw [← m.eq]; exact s.all)
    refine ⟨hv, by unfold sameB; rw [hv, sameG_yes (fun _ _ => rfl)]; rfl, fa, fb, by rw [la, lb, m.eq], fun hc => ?_, fun us u1 u2 u3 hc => ?_⟩
    · rw [same_ab (comp_ok hc) hv]
      refine sameG_yes (fun i hi => ?_)
      rw [comp_gives hc, if_pos hi]
      unfold compL
      rw [fill_plain m.sub, sub_gives m.sub]
      exact fill_same (fun x hx h0 => m.ide i x hx h0)
    · obtain ⟨a1, _, a3, a4⟩ := filled_parts u1
      obtain ⟨_, _, b3, _⟩ := filled_parts u2
      have hU : Uni sg a b (givesL us) := ⟨gives_sub a1, by rw [← a3, ← b3, u3]⟩
      have e : fillL (givesL (composedI sg (plainL L 24) us)) a = fillL (givesL us) a := by
        rw [comp_fill hc h1, fill_plain m.sub]
        exact part_uni m.toPart hU a
      have hb : filledB sg (composedI sg (plainL L 24) us) a = true := by
        rw [filled_b (comp_ok hc) h1]
        unfold fitsB
        rw [e]
        exact decide_eq_true a4
      exact ⟨hb, by rw [a3]; unfold filledL; rw [if_pos hb]; exact e⟩
  · cases e
theorem isU_symm {sg a b : List Int} {v : Bool} {F : List (List Int)} (h : IsU sg a b v F) : IsU sg b a v F := by
  rcases h with ⟨e, h1, h2, L, m, s, hF⟩ | ⟨e, hF, h⟩
  · exact .inl ⟨e, h2, h1, L, m.symm, s.symm, hF⟩
  · exact .inr ⟨e, hF, by
      rcases h with h | h | h
      · exact .inr (.inl h)
      · exact .inl h
      · exact .inr (.inr (fun M hM => h M hM.symm))⟩

/-! ### generalisation -/
/-- what is told of two lists -/
def IsG (sg a b g : List Int) : Prop :=
  (termOkB sg a = true ∧ termOkB sg b = true ∧ ∃ G T', Gs sg [] 1 a b G T' ∧ g = if T'.length ≤ 24 then G else []) ∨ ((termOkB sg a = false ∨ termOkB sg b = false) ∧ g = [])
theorem isG_ex (sg a b : List Int) : ∃ g, IsG sg a b g := by
  cases h1 : termOkB sg a with
  | false => exact ⟨[], .inr ⟨.inl h1, rfl⟩⟩
  | true =>
    cases h2 : termOkB sg b with
    | false => exact ⟨[], .inr ⟨.inr h2, rfl⟩⟩
    | true =>
      obtain ⟨G, T', h⟩ := gs_ex (sg := sg) a.length (T := []) (Nat.le_refl _) (term_parts h1).2.2 (term_parts h2).2.2
      exact ⟨_, .inl ⟨h1, h2, G, T', h, rfl⟩⟩
theorem isG_one {sg a b g g' : List Int} (h : IsG sg a b g) (h' : IsG sg a b g') : g = g' := by
  rcases h with ⟨h1, h2, G, T', h, rfl⟩ | ⟨h, rfl⟩
  · rcases h' with ⟨_, _, G2, T2, h', rfl⟩ | ⟨h', _⟩
    · obtain ⟨rfl, rfl⟩ := gs_one h List.nodup_nil h'
      rfl
    · rcases h' with h' | h'
      · rw [h1] at h'; cases h'
      · rw [h2] at h'; cases h'
  · rcases h' with ⟨h1, h2, _⟩ | ⟨_, rfl⟩
    · rcases h with h | h
      · rw [h1] at h; cases h
      · rw [h2] at h; cases h
    · rfl
theorem isG_symm {sg a b g : List Int} (h : IsG sg a b g) : IsG sg b a g := by
  rcases h with ⟨h1, h2, G, T', h, e⟩ | ⟨h, e⟩
  · exact .inl ⟨h2, h1, G, _, gs_swap h, by rw [List.length_map]; exact e⟩
  · exact .inr ⟨h.symm, e⟩
theorem isG_len {sg a b g : List Int} (h : IsG sg a b g) : g.length ≤ 60 := by
  rcases h with ⟨h1, h2, G, T', h, rfl⟩ | ⟨_, rfl⟩
  · split
    · have ht := gs_gt h []
      rw [List.append_nil] at ht
      obtain ⟨f, _, hv⟩ := gt_fill ht
      have h3 : ∀ {l : List Int}, (∀ x ∈ l, x < 0 → 1 ≤ (f1 T' (vr x)).length) → l.length ≤ (fillL (f1 T') l).length := by
        intro l
        induction l with
        | nil => intro _; simp
        | cons x r ih =>
          intro hx
          have := ih (fun y hy => hx y (List.mem_cons_of_mem _ hy))
          rw [fill_cons, List.length_append, List.length_cons]
          by_cases h0 : 0 ≤ x
          · rw [rep_sym h0, List.length_singleton]; omega
          · rw [rep_vr (by omega)]
            have := hx x (List.mem_cons_self ..) (by omega)
            omega
      have h4 := h3 (fun x hx h0 => (hv x hx h0).2.1.pos)
      rw [f] at h4
      exact Nat.le_trans h4 (term_len h1).2
    · simp
  · simp
/-- what there is: both are instances, and of each common pattern it is one -/
theorem isG_facts {sg a b g : List Int} (h : IsG sg a b g) (hg : g ≠ []) : termOkB sg g = true ∧ instB sg g a = true ∧ instB sg g b = true ∧ ∀ p, instB sg p a = true → instB sg p b = true → instB sg p g = true := by
  have hl := isG_len h
  rcases h with ⟨h1, h2, G, T', h, e⟩ | ⟨_, e⟩
  · by_cases h24 : T'.length ≤ 24
    · rw [if_pos h24] at e
      subst e
      have ht := gs_gt h []
      rw [List.append_nil] at ht
      have tg : termOkB sg g = true := term_mk (term_parts h1).1 hl (gt_scan h24 ht)
      obtain ⟨fa, fb, hv⟩ := gt_fill ht
      refine ⟨tg, (inst_iff tg h1).2 ⟨f1 T', fa, fun x hx h0 => (hv x hx h0).2.1⟩, (inst_iff tg h2).2 ⟨f2 T', fb, fun x hx h0 => (hv x hx h0).2.2⟩, fun p p1 p2 => ?_⟩
      obtain ⟨hp, _⟩ := inst_ok p1
      obtain ⟨A, eA, hA⟩ := (inst_iff hp h1).1 p1
      obtain ⟨B, eB, hB⟩ := (inst_iff hp h2).1 p2
      -- look-ups that are terms everywhere
      have mk : ∀ C : Nat → List Int, (∀ x ∈ p, x < 0 → scan sg 1 (C (vr x)) = some (C (vr x)).length) → ∃ D, Sub sg D ∧ fillL D p = fillL C p := by
        intro C hC
        have hch : ∀ i, ∃ d, (i < 24 → Trm sg d) ∧ (24 ≤ i → d = vt i) ∧ (Trm sg (C i) → i < 24 → d = C i) := fun i => by
          by_cases hi : i < 24
          · by_cases ht : Trm sg (C i)
            · exact ⟨C i, fun _ => ht, fun h => absurd hi (by omega), fun _ _ => rfl⟩
            · exact ⟨vt i, fun _ => Trm.vt hi, fun _ => rfl, fun h _ => absurd h ht⟩
          · exact ⟨vt i, fun h => absurd h hi, fun _ => rfl, fun _ h => absurd h hi⟩
        refine ⟨fun i => (hch i).choose, ⟨fun i hi => (hch i).choose_spec.1 hi, fun i hi => (hch i).choose_spec.2.1 hi⟩, ?_⟩
        refine fill_ext (fun x hx h0 => ?_)
        have := term_mem hp hx
        exact (hch (vr x)).choose_spec.2.2 (hC x hx h0) (by unfold vr; omega)
      obtain ⟨A', sA, qA⟩ := mk A hA
      obtain ⟨B', sB, qB⟩ := mk B hB
      obtain ⟨M, hM⟩ := gt_least (gs_nodup h List.nodup_nil) sA sB
      obtain ⟨m1, m2⟩ := hM (p := p) (n := 1) (g := g) (term_parts hp).2.2 (by rw [qA, qB, eA, eB]; exact ht)
      exact (inst_iff hp tg).2 ⟨M, m1, fun x hx h0 => gt_scan h24 (m2 x hx h0)⟩
    · rw [if_neg h24] at e
      exact absurd e hg
  · exact absurd e hg

/-! ### terms that are met -/
/-- b is shifted by k; the filled term, renamed, is an instance of both -/
theorem met_facts {sg a b x : List Int} {k : Nat} {L : Nat → List Int} (hx : x = shiftL (k : Int) b) (ha : termOkB sg a = true) (hb : termOkB sg b = true) (hxo : termOkB sg x = true) (m : Mg sg a x L) (s : Short sg a x L) :
    instB sg a (renL (fillL L a)) = true ∧ instB sg b (renL (fillL L a)) = true ∧ renL (renL (fillL L a)) = renL (fillL L a) ∧ termOkB sg (renL (fillL L a)) = true := by
  have ht : termOkB sg (fillL L a) = true := term_mk (term_parts ha).1 s.all (m.sub.fill (term_parts ha).2.2)
  have hr := ren_ok ht
  have hv := inst_variant ht hr (ren_ren _).symm
  have i1 : instB sg a (fillL L a) = true := (inst_iff ha ht).2 ⟨L, rfl, fun y hy h0 => m.sub.trm _ (by have := term_mem ha hy; unfold vr; omega)⟩
  have i2 : instB sg b (fillL L a) = true := by
    have e : fillL L a = fillL (fun i => fillL L (vt (i + k))) b := by rw [← fill_fill, shift_fill, ← hx]; exact m.eq
    refine (inst_iff hb ht).2 ⟨_, e.symm, fun y hy h0 => ?_⟩
    show scan sg 1 (fillL L (vt (vr y + k))) = some (fillL L (vt (vr y + k))).length
    rw [fill_vti]
    have hy2 : sh (k : Int) y ∈ x := by rw [hx]; exact List.mem_map_of_mem hy
    have := term_mem hxo hy2
    exact m.sub.trm _ (by unfold sh at this; rw [if_pos h0] at this; unfold vr; omega)
  exact ⟨inst_trans i1 hv, inst_trans i2 hv, ren_ren _, hr⟩
end Go.Proofs.Ytkmhnkljigncmaa.unifLaw
end

section
/-
  CONTRACT of spec.l1Max. Conditions: none. By an AI agent.
-/
namespace Go.Proofs.Ytkmhnkljigncmaa.maxi
open Go.RowKit Go.Proofs.Ytkmhnkljigncmaa.base
theorem max_any (x y : Int) (w : World) : Calls Try.prog 126 #[.int .i64 x, .int .i64 y] w fun e w' => w = w' ∧ e = .returned (.int .i64 (max x y)) := by
  by_cases h : y < x
  · have e : max x y = x := by omega
    rw [e]
    go_enter Try.func126, Try.ntmps126
    go_wp2
    go_ret
    exact ⟨rfl, rfl⟩
  · have e : max x y = y := by omega
    rw [e]
    go_enter Try.func126, Try.ntmps126
    go_wp2
    go_ret
    exact ⟨rfl, rfl⟩
end Go.Proofs.Ytkmhnkljigncmaa.maxi
end
