/-
  MERGED: my texts UnifSpec, Unified, UnifImpl, Vars, Shelf, Sorted, VarsSort, VarsOf, Max, Behind, Apart, GenMath, SameSubst, one behind the other, as they are. By an AI agent.
-/
import Derived.Test.YtkmhnkljigncmaaGreatMFnMet5
import Derived.Deep.LoopGhost
import Derived.Deep.QuietTactic
import Derived.BigQuiet
import Derived.Defers
import Derived.Recover
import Derived.Shelf.SlGeneric
import Derived.Ground.SlgnProg
import Derived.Shelf.SortG.Plain
import Derived.Shelf.SortG.SortNone
import Derived.Shelf.SlicesG.CompactI
import Derived.Test.YtkmhnkljigncmaaGreatProg
import Derived.Deep.RegionHeld3
section
/-
  CONTRACT: spec.l5Unify. Conditions: the slices read as lists ('Seg'), both are terms. (The arms of the switch by wip/tools/mkunif.py.) By an AI agent.
-/
namespace Go.Proofs.YtkmhnkljigncmaaGreat.unifSpec
open Go.RowKit Go.Proofs.YtkmhnkljigncmaaGreat.base Go.Proofs.YtkmhnkljigncmaaGreat.ints Go.Proofs.YtkmhnkljigncmaaGreat.sig Go.Proofs.YtkmhnkljigncmaaGreat.term Go.Proofs.YtkmhnkljigncmaaGreat.termOk Go.Proofs.YtkmhnkljigncmaaGreat.endAt Go.Proofs.YtkmhnkljigncmaaGreat.sub Go.Proofs.YtkmhnkljigncmaaGreat.cursor Go.Proofs.YtkmhnkljigncmaaGreat.marks Go.Proofs.YtkmhnkljigncmaaGreat.app Go.Proofs.YtkmhnkljigncmaaGreat.sym Go.Proofs.YtkmhnkljigncmaaGreat.look Go.Proofs.YtkmhnkljigncmaaGreat.segs Go.Proofs.YtkmhnkljigncmaaGreat.segsHelp Go.Proofs.YtkmhnkljigncmaaGreat.kinds Go.Proofs.YtkmhnkljigncmaaGreat.termFacts Go.Proofs.YtkmhnkljigncmaaGreat.fillMath Go.Proofs.YtkmhnkljigncmaaGreat.substOk Go.Proofs.YtkmhnkljigncmaaGreat.gives Go.Proofs.YtkmhnkljigncmaaGreat.shifted Go.Proofs.YtkmhnkljigncmaaGreat.filled Go.Proofs.YtkmhnkljigncmaaGreat.plainMath Go.Proofs.YtkmhnkljigncmaaGreat.plain Go.Proofs.YtkmhnkljigncmaaGreat.plainOf Go.Proofs.YtkmhnkljigncmaaGreat.compMath Go.Proofs.YtkmhnkljigncmaaGreat.rename Go.Proofs.YtkmhnkljigncmaaGreat.matchMath Go.Proofs.YtkmhnkljigncmaaGreat.unifMath Go.Proofs.YtkmhnkljigncmaaGreat.bind
set_option maxRecDepth 100000

/-- what is known of the substitution on the way -/
structure Good (sg a b : List Int) (ss : List (List Int)) : Prop where
  len : ss.length ≤ 24
  each : ∀ j, (ss.getD j []).length ≤ 60
  part : Part sg a b (givesL ss)
section
variable {sg a b : List Int} {ss : List (List Int)}
theorem Good.symm (h : Good sg a b ss) : Good sg b a ss := ⟨h.len, h.each, h.part.symm⟩
theorem Good.tot (h : Good sg a b ss) : tot ss ≤ 1048576 := by
  have h1 := tot_le h.each
  have h2 : ss.length * 60 ≤ 24 * 60 := Nat.mul_le_mul_right _ h.len
  have := h.len
  omega
theorem Good.g60 (h : Good sg a b ss) (k : Nat) : (givesL ss k).length ≤ 60 := by
  unfold givesL
  split
  · simp [vt]
  · exact h.each k
theorem Good.neg (h : Good sg a b ss) (k : Nat) (x : Int) (hx : x ∈ givesL ss k) (hk : k < 24) : -24 ≤ x := (h.part.sub.trm k hk).mem hx
theorem gives_nil : givesL [] = vt := by
  funext i
  exact gives_out (by simp)
theorem Good.start (sg a b : List Int) : Good sg a b [] := ⟨by simp, fun j => by simp, by rw [gives_nil]; exact Part.start sg a b⟩
theorem bound_gives {i : Nat} {t : List Int} (hi : i < 24) (ht : 1 ≤ t.length) (hl : ss.length ≤ 24) : givesL (outL (us1 i t) ss 24) = fun m => fillL (ones i t) (givesL ss m) := by
  have e : ∀ m, compL (us1 i t) ss m = fillL (ones i t) (givesL ss m) := fun m => by
    unfold compL
    exact fill_ext (fun x _ _ => us1_gives hi ht _)
  funext m
  by_cases hm : m < 24
  · rw [out_gives hm, e]
  · rw [gives_out (by rw [out_len]; omega), gives_out (by omega), fill_vti]
    unfold ones
    rw [if_neg (by omega)]
theorem Good.next {i : Nat} {t : List Int} (h : Good sg a b ss) (hi : i < 24) (ht : 1 ≤ t.length) (hp : Part sg a b (fun m => fillL (ones i t) (givesL ss m))) (hc : ∀ j, j < 24 → (compL (us1 i t) ss j).length ≤ 60) : Good sg a b (outL (us1 i t) ss 24) :=
  ⟨by rw [out_len]; omega, fun j => by
    by_cases hj : j < 24
    · rw [out_get hj]; exact hc j hj
    · simp [List.getD, out_len, hj], by rw [bound_gives hi ht h.len]; exact hp⟩
theorem fit_yes {t : List Int} (h : fitsB ss t = true) : fitL ss t = fillL (givesL ss) t ∧ (fillL (givesL ss) t).length ≤ 60 := by
  refine ⟨by unfold fitL; rw [if_pos h], ?_⟩
  unfold fitsB at h
  exact of_decide_eq_true h
end
/-- what is told -/
def AnsUni (w : World) (sg a b : List Int) (e : Ending) (w' : World) : Prop :=
  Below w.heap.size w w' ∧ ((∃ S m c ss, e = .returned (.tuple #[.agg #[.slice S m c], .bool true]) ∧ Owns w' w.heap.size w'.heap.size S m c ss ∧ Good sg a b ss ∧ fillL (givesL ss) a = fillL (givesL ss) b ∧ (fillL (givesL ss) a).length ≤ 60) ∨ (e = .returned (.tuple #[.agg #[.slice none 0 0], .bool false]) ∧ ∀ M, ¬ Short sg a b M))
/-- what stands in the course of the call -/
structure Uw (w wr : World) (A : Option Addr) (n c : Nat) (sg : List Int) (P : Option Addr) (pn : Nat) (a : List Int) (Q : Option Addr) (qn : Nat) (b : List Int) (S : Option Addr) (m cS : Nat) (ss : List (List Int)) : Prop where
  r0 : Row wr w.heap.size 26 #[.slice A n c]
  r1 : Row wr (w.heap.size + 1) 35 #[.slice S m cS]
  r2 : Row wr (w.heap.size + 1 + 1) 35 #[.slice none 0 0]
  s : Seg wr w.heap.size A n sg
  pa : Seg wr w.heap.size P pn a
  qb : Seg wr w.heap.size Q qn b
  sS : Owns wr (w.heap.size + 1 + 1 + 1) wr.heap.size S m cS ss
  bel : Below w.heap.size w wr
section
variable {w wr w' : World} {A : Option Addr} {n c : Nat} {sg : List Int} {P : Option Addr} {pn : Nat} {a : List Int} {Q : Option Addr} {qn : Nat} {b : List Int} {S : Option Addr} {m cS : Nat} {ss : List (List Int)}
theorem Uw.next (h : Uw w wr A n c sg P pn a Q qn b S m cS ss) (hb : Below wr.heap.size wr w') : Uw w w' A n c sg P pn a Q qn b S m cS ss :=
  have z := h.r0.lt
  have hw : Below w.heap.size wr w' := hb.mono (Nat.le_of_lt z)
  ⟨h.r0.next hb, h.r1.next hb, h.r2.next hb, h.s.below hw, h.pa.below hw, h.qb.below hw, (h.sS.next hb).wider (Nat.le_refl _) hb.size, h.bel.trans hw⟩
theorem Uw.c0 (h : Uw w wr A n c sg P pn a Q qn b S m cS ss) : wr.cell? ⟨w.heap.size, 0, none⟩ = some (.slice A n c) := h.r0.cell 0
theorem Uw.c1 (h : Uw w wr A n c sg P pn a Q qn b S m cS ss) : wr.cell? ⟨w.heap.size + 1, 0, none⟩ = some (.slice S m cS) := h.r1.cell 0
theorem Uw.c2 (h : Uw w wr A n c sg P pn a Q qn b S m cS ss) : wr.cell? ⟨w.heap.size + 1 + 1, 0, none⟩ = some (.slice none 0 0) := h.r2.cell 0
theorem Uw.f2 (h : Uw w wr A n c sg P pn a Q qn b S m cS ss) : wr.frozen? ⟨w.heap.size + 1 + 1, 0, none⟩ = false := h.r2.free 0
theorem Uw.size (h : Uw w wr A n c sg P pn a Q qn b S m cS ss) : w.heap.size + 1 + 1 < wr.heap.size := h.r2.lt
end
def HeadU (w : World) (A : Option Addr) (n c : Nat) (sg : List Int) (P : Option Addr) (pn : Nat) (a : List Int) (Q : Option Addr) (qn : Nat) (b : List Int) (g : Nat) (wr : World) : Prop :=
  ∃ S m cS ss, Uw w wr A n c sg P pn a Q qn b S m cS ss ∧ Good sg a b ss ∧ free (givesL ss) + 1 ≤ g
theorem uni_no {w w' : World} {sg a b : List Int} (h : ∀ M, ¬ Short sg a b M) (hb : Below w.heap.size w w') : AnsUni w sg a b (.returned (.tuple #[.agg #[.slice none 0 0], .bool false])) w' := ⟨hb, .inr ⟨rfl, h⟩⟩
theorem drew_below (w : World) (d : Nat) : Below w.heap.size w (w.drewN d) := ⟨rfl, rfl, rfl, Nat.le_refl _, fun _ _ => rfl⟩
theorem pre_step {x y : List Int} {k : Nat} (e : x.take k = y.take k) (hx : k < x.length) (hy : k < y.length) (h : x.getD k 0 = y.getD k 0) : x.take (k + 1) = y.take (k + 1) := by
  rw [List.take_succ_eq_append_getElem hx, List.take_succ_eq_append_getElem hy, e]
  simp [List.getD, hx, hy] at h
  rw [h]

/-- one side's variable, the other side's term -/
theorem arm {sg a b xs ys : List Int} {ss : List (List Int)} {k : Nat} {p q : Int} (hx : xs = fillL (givesL ss) a) (hy : ys = fillL (givesL ss) b) (g : Good sg a b ss) (s : Spot sg a b (givesL ss) k) (ep : xs.getD k 0 = p) (eq : ys.getD k 0 = q) (h0 : p < 0) :
    (p ∈ subL sg ys k → ∀ M, ¬ Short sg a b M) ∧ vr p < 24 ∧ 1 ≤ (subL sg ys k).length ∧ (p ∉ subL sg ys k → (0 ≤ q ∨ p < q) →
      ((∀ j, j < 24 → (compL (us1 (vr p) (subL sg ys k)) ss j).length ≤ 60) → Good sg a b (outL (us1 (vr p) (subL sg ys k)) ss 24) ∧ free (givesL (outL (us1 (vr p) (subL sg ys k)) ss 24)) < free (givesL ss)) ∧
      ((∃ j, j < 24 ∧ 60 < (compL (us1 (vr p) (subL sg ys k)) ss j).length) → ∀ M, ¬ Short sg a b M)) := by
  subst hx
  subst hy
  subst ep
  subst eq
  have tx := g.part.sub.fill s.ta
  have ty := g.part.sub.fill s.tb
  have hm : (fillL (givesL ss) a).getD k 0 ∈ fillL (givesL ss) a := by have := s.kx; simp [List.getD, this]
  have hv : vr ((fillL (givesL ss) a).getD k 0) < 24 := by have := tx.mem hm; unfold vr; omega
  have h1 : 1 ≤ (subL sg (fillL (givesL ss) b) k).length := (sub_trm ty s.ky).1.pos
  refine ⟨fun hi M hM => s.occurs g.part h0 hi M hM.toUni, hv, h1, fun hi h3 => ?_⟩
  have hp := s.bind g.part h0 hi h3
  have hf := free_bind s g.part h0 hi
  refine ⟨fun hc => ⟨g.next hv h1 hp hc, by rw [bound_gives hv h1 g.len]; exact hf⟩, fun ⟨j, hj, hl⟩ M hM => ?_⟩
  have := hp.each hM j
  unfold compL at hl
  rw [fill_ext (L' := ones (vr ((fillL (givesL ss) a).getD k 0)) (subL sg (fillL (givesL ss) b) k)) (fun x _ _ => us1_gives hv h1 _)] at hl
  omega
theorem Uw.store {w wr : World} {A : Option Addr} {n c : Nat} {sg : List Int} {P : Option Addr} {pn : Nat} {a : List Int} {Q : Option Addr} {qn : Nat} {b : List Int} {S O : Option Addr} {m m' cS cO : Nat} {ss ss' : List (List Int)} (h : Uw w wr A n c sg P pn a Q qn b S m cS ss) (ho : Owns wr (w.heap.size + 1 + 1 + 1) wr.heap.size O m' cO ss') :
    Uw w (wr.setCell ⟨w.heap.size + 1, 0, none⟩ (.slice O m' cO)) A n c sg P pn a Q qn b O m' cO ss' := by
  refine ⟨h.r0.far (show w.heap.size ≠ w.heap.size + 1 by omega) _, ?_, h.r2.far (show w.heap.size + 1 + 1 ≠ w.heap.size + 1 by omega) _, h.s.put (p := ⟨w.heap.size + 1, 0, none⟩) (show w.heap.size ≤ w.heap.size + 1 by omega) _, h.pa.put (p := ⟨w.heap.size + 1, 0, none⟩) (show w.heap.size ≤ w.heap.size + 1 by omega) _, h.qb.put (p := ⟨w.heap.size + 1, 0, none⟩) (show w.heap.size ≤ w.heap.size + 1 by omega) _, ?_, h.bel.setCell (p := ⟨w.heap.size + 1, 0, none⟩) (show w.heap.size ≤ w.heap.size + 1 by omega) _⟩
  · have := h.r1.put 0 (.slice O m' cO)
    simpa using this
  · have := owns_put ho h.r1 (show w.heap.size + 1 < w.heap.size + 1 + 1 + 1 by omega) 0 (.slice O m' cO)
    simpa using this

set_option maxHeartbeats 1500000 in
theorem l5Unify (A P Q : Option Addr) (n c pn pc qn qc : Nat) (sg a b : List Int) (w : World) (h : Seg w w.heap.size A n sg) (hp : Seg w w.heap.size P pn a) (hq : Seg w w.heap.size Q qn b) (hn : n ≤ 1048576) (hpn : pn ≤ 60) (hqn : qn ≤ 60) (hoka : termOkB sg a = true) (hokb : termOkB sg b = true) :
    Calls Tryz.prog 71 #[.agg #[.slice A n c], .agg #[.slice none 0 0], .slice P pn pc, .slice Q qn qc] w (AnsUni w sg a b) := by
  obtain ⟨W, hW⟩ : ∃ W, W = ((w.alloc (.cells #[.slice A n c] 26)).alloc (.cells #[.slice none 0 0] 35)).alloc (.cells #[.slice none 0 0] 35) := ⟨_, rfl⟩
  have bW : Below w.heap.size w W := by rw [hW]; exact (((Below.refl _ _).alloc (Nat.le_refl _) _).alloc (by simp) _).alloc (by simp; omega) _
  have U0 : Uw w W A n c sg P pn a Q qn b none 0 0 [] := by
    refine ⟨?_, ?_, ?_, h.below bW, hp.below bW, hq.below bW, Owns.nil _ _ _, bW⟩
    · rw [hW]; exact ((Row.new w _ _).alloc _).alloc _
    · rw [hW]
      have := (Row.new (w.alloc (.cells #[.slice A n c] 26)) 35 #[.slice none 0 0]).alloc (.cells #[.slice none 0 0] 35)
      simpa using this
    · rw [hW]
      have := Row.new ((w.alloc (.cells #[.slice A n c] 26)).alloc (.cells #[.slice none 0 0] 35)) 35 #[.slice none 0 0]
      simpa using this
  have HH := Lib.hid (show HeadU w A n c sg P pn a Q qn b 25 W from ⟨none, 0, 0, [], U0, Good.start sg a b, by have := free_le (givesL []); omega⟩)
  have HW := Lib.hid hW
  have HTA : Hid (Trm sg a) := Lib.hid (term_parts hoka).2.2
  have HTB : Hid (Trm sg b) := Lib.hid (term_parts hokb).2.2
  have hars := (sig_arities (termOk_parts hoka).1).1
  have hva := Lib.hid (fun x hx => (term_mem (x := x) hoka hx).1)
  have hvb := Lib.hid (fun x hx => (term_mem (x := x) hokb hx).1)
  clear U0 bW hW h hp hq hoka hokb
  go_enter Tryz.func71, Tryz.ntmps71
  go_wp2_with fail
  rw [← HW.out]
  go_loopg [] 25 (fun g wr => HeadU w A n c sg P pn a Q qn b g wr)
  case atStart => exact HH.out
  case round =>
    obtain ⟨S, m, cS, ss, U, hgood, hfree⟩ := hrel
    obtain ⟨G, hG⟩ : ∃ G, G = gk := ⟨_, rfl⟩
    subst hG
    clear HH
    have HG := Lib.hid hgood
    have HFR := Lib.hid hfree
    clear hgood hfree
    have c1 := U.c1
    obtain ⟨xs, hxs⟩ : ∃ x, fitL ss a = x := ⟨_, rfl⟩
    obtain ⟨ys, hys⟩ : ∃ x, fitL ss b = x := ⟨_, rfl⟩
    obtain ⟨fa, hfa⟩ : ∃ x, fitsB ss a = x := ⟨_, rfl⟩
    obtain ⟨fb, hfb⟩ : ∃ x, fitsB ss b = x := ⟨_, rfl⟩
    have HXS := Lib.hid hxs
    have HYS := Lib.hid hys
    have HFA := Lib.hid hfa
    have HFB := Lib.hid hfb
    clear hxs hys hfa hfb
    go_wp2_with fail
    refine (l2Filled S P m cS pn pc ss a wr U.sS.segs (U.pa.more (Nat.le_of_lt U.r0.lt)) HG.out.tot hpn hva.out HG.out.g60).mono ?_
    rintro e w1 ⟨X, xn, xc, he, ox, bb⟩
    rw [HFA.out] at he
    subst he
    rw [HXS.out] at ox
    have sx := Own.seg ox
    have kx := own_cap ox
    replace U := U.next bb
    clear ox bb c1
    have c1 := U.c1
    go_wp2_with fail
    refine (l2Filled S Q m cS qn qc ss b w1 U.sS.segs (U.qb.more (Nat.le_of_lt U.r0.lt)) HG.out.tot hqn hvb.out HG.out.g60).mono ?_
    rintro e w2 ⟨Y, yn, yc, he, oy, bb⟩
    rw [HFB.out] at he
    subst he
    rw [HYS.out] at oy
    have sy := Own.seg oy
    have ky := own_cap oy
    replace U := U.next bb
    replace sx := sx.next bb
    clear oy bb c1
    cases fa with
    | false =>
      have hno : ∀ M, ¬ Short sg a b M := fun M hM => by have h1 := HFA.out; unfold fitsB at h1; exact of_decide_eq_false h1 (HG.out.part.len hM).1
      have cR := U.c2
      have fR := U.f2
      have F1 := Lib.hid (uni_no (w := w) hno U.bel)
      have F2 := Lib.hid (uni_no (w := w) hno ((U.bel).setCell (p := ⟨w.heap.size + 1 + 1, 0, none⟩) (show w.heap.size ≤ w.heap.size + 1 + 1 by omega) (.slice none 0 0)))
      clear U hno sx sy
      go_wp2
      first
        | exact bodyPost_ret (v := .tuple #[.agg #[.slice none 0 0], .bool false]) (by simp [results, Tryz.results71, go_sem, cR]) rfl F1.out
        | exact bodyPost_ret (v := .tuple #[.agg #[.slice none 0 0], .bool false]) (by simp [results, Tryz.results71, go_sem, cR]) rfl F2.out
    | true =>
      cases fb with
      | false =>
        have hno : ∀ M, ¬ Short sg a b M := fun M hM => by have h1 := HFB.out; unfold fitsB at h1; exact of_decide_eq_false h1 (HG.out.part.len hM).2
        have cR := U.c2
        have fR := U.f2
        have F1 := Lib.hid (uni_no (w := w) hno U.bel)
        have F2 := Lib.hid (uni_no (w := w) hno ((U.bel).setCell (p := ⟨w.heap.size + 1 + 1, 0, none⟩) (show w.heap.size ≤ w.heap.size + 1 + 1 by omega) (.slice none 0 0)))
        clear U hno sx sy
        go_wp2
        first
          | exact bodyPost_ret (v := .tuple #[.agg #[.slice none 0 0], .bool false]) (by simp [results, Tryz.results71, go_sem, cR]) rfl F1.out
          | exact bodyPost_ret (v := .tuple #[.agg #[.slice none 0 0], .bool false]) (by simp [results, Tryz.results71, go_sem, cR]) rfl F2.out
      | true =>
        have HX := Lib.hid (HXS.out.symm.trans (fit_yes HFA.out).1)
        have HY := Lib.hid (HYS.out.symm.trans (fit_yes HFB.out).1)
        have hx60 : xn ≤ 60 := by rw [← sx.1, HX.out]; exact (fit_yes HFA.out).2
        have hy60 : yn ≤ 60 := by rw [← sy.1, HY.out]; exact (fit_yes HFB.out).2
        have HLX := Lib.hid sx.1
        have HLY := Lib.hid sy.1
        have HTX : Hid (Trm sg xs) := Lib.hid (by rw [HX.out]; exact HG.out.part.sub.fill HTA.out)
        have HTY : Hid (Trm sg ys) := Lib.hid (by rw [HY.out]; exact HG.out.part.sub.fill HTB.out)
        go_wp2_with fail
        go_loopg [14] xn (fun g k_ wr' => ∃ k d : Nat, k_ = .int .i64 k ∧ k + g = xn ∧ k ≤ yn ∧ xs.take k = ys.take k ∧ wr' = w2.drewN d)
        case atStart => exact ⟨0, 0, rfl, by omega, Nat.zero_le _, rfl, rfl⟩
        case round =>
          obtain ⟨k, d, rfl, hkg, hky, hpre, hwd⟩ := hrel
          have HKG := Lib.hid hkg
          have HPRE := Lib.hid hpre
          have i0 : (0 : Int) ≤ (k : Int) := by omega
          have bd : Below w2.heap.size w2 wr := by rw [hwd]; exact drew_below _ _
          have HWD := Lib.hid hwd
          replace U := U.next bd
          replace sx := sx.next bd
          replace sy := sy.next bd
          clear bd hwd hkg hpre
          by_cases hkx : k < xn
          · have j1 : (k : Int) < (xn : Int) := by omega
            by_cases hky2 : k < yn
            · have j2 : (k : Int) < (yn : Int) := by omega
              obtain ⟨b1, o1, p, rfl, hb1, hp, ep⟩ := sx.spot hkx
              obtain ⟨b2, o2, q, rfl, hb2, hq, eq⟩ := sy.spot hky2
              by_cases hpq : p = q
              · subst hpq
                have S1 := Lib.hid (fun d' => (show ∃ k' d : Nat, (.int .i64 ((k : Int) + 1) : Value) = .int .i64 k' ∧ k' + (gk - 1) = xn ∧ k' ≤ yn ∧ xs.take k' = ys.take k' ∧ wr.drewN d' = w2.drewN d from ⟨k + 1, d + d', by simp, by have := HKG.out; omega, hky2, pre_step HPRE.out (by rw [HLX.out]; exact hkx) (by rw [HLY.out]; exact hky2) (by rw [ep.out, eq.out]), by rw [HWD.out, World.drewN_drewN]⟩))
                have hgk := Lib.hid (show gk - 1 < gk by have := HKG.out; omega)
                clear sx sy U ep eq
                go_wp2
                go_quiet (fail)
                go_wp2
                go_roundg (gk - 1)
                case measure => exact hgk.out
                case rel => exact S1.out _
              · have HS := Lib.hid (show Spot sg a b (givesL ss) k from ⟨HTA.out, HTB.out, by rw [← HX.out, ← HY.out]; exact HPRE.out, by rw [← HX.out, HLX.out]; exact hkx, by rw [← HY.out, HLY.out]; exact hky2, by rw [← HX.out, ← HY.out, ep.out, eq.out]; exact hpq⟩)
                have HEP := Lib.hid ep.out
                have HEQ := Lib.hid eq.out
                have jx : ((k : Int) == (xn : Int)) = false := by simp; omega
                have hpd : (p == q) = false := by simp [hpq]
                have hp24 : -24 ≤ p := HTX.out.mem (by rw [← HEP.out]; have := HLX.out; simp [List.getD, show k < xs.length by omega])
                have hq24 : -24 ≤ q := HTY.out.mem (by rw [← HEQ.out]; have := HLY.out; simp [List.getD, show k < ys.length by omega])
                obtain ⟨jy, sy1, sy2, sy3⟩ := scan_at HTY.out (show k < ys.length by rw [HLY.out]; exact hky2)
                obtain ⟨jxx, sx1, sx2, sx3⟩ := scan_at HTX.out (show k < xs.length by rw [HLX.out]; exact hkx)
                rw [HLY.out] at sy3
                rw [HLX.out] at sx3
                have LX := Lib.hid (fun w' (hb : Below wr.heap.size wr w') => l1Sub A (some ⟨b1, o1, none⟩) n c xn xc sg xs k jxx w' ((U.next hb).s.more (Nat.le_of_lt (U.next hb).r0.lt)) (sx.next hb) hn (by omega) kx.1 kx.2.1 hars hkx sx1 sx2 sx3)
                have LY := Lib.hid (fun w' (hb : Below wr.heap.size wr w') => l1Sub A (some ⟨b2, o2, none⟩) n c yn yc sg ys k jy w' ((U.next hb).s.more (Nat.le_of_lt (U.next hb).r0.lt)) (sy.next hb) hn (by omega) ky.1 ky.2.1 hars hky2 sy1 sy2 sy3)
                have lenx : (subL sg xs k).length ≤ 60 := by unfold subL; rw [List.length_take, List.length_drop, HLX.out]; omega
                have leny : (subL sg ys k).length ≤ 60 := by unfold subL; rw [List.length_take, List.length_drop, HLY.out]; omega
                clear ep eq sy1 sy2 sy3 sx1 sx2 sx3
                go_wp2_with fail
                go_quiet (fail)
                have bd := drew_below wr nq
                replace U := U.next bd
                have p1 : (wr.drewN nq).cell? ⟨b1, o1 + k, none⟩ = some (.int .i64 p) := hp
                have q1 : (wr.drewN nq).cell? ⟨b2, o2 + k, none⟩ = some (.int .i64 q) := hq
                have LX := Lib.hid (fun w' (hb : Below (wr.drewN nq).heap.size (wr.drewN nq) w') => LX.out w' (next_trans bd hb))
                have LY := Lib.hid (fun w' (hb : Below (wr.drewN nq).heap.size (wr.drewN nq) w') => LY.out w' (next_trans bd hb))
                clear hp hq bd sx sy
                generalize wr.drewN nq = w3 at *
                have c0 := U.c0
                go_wp2_with fail
                refine (LY.out w3 (Below.refl _ _)).mono ?_
                rintro e w4 ⟨D, dn, dc, rfl, od, bb⟩
                have hdn : dn ≤ 60 := by rw [Own.len od]; exact leny
                have LX := Lib.hid (LX.out w4 bb)
                replace U := U.next bb
                clear LY bb c0 p1 q1
                by_cases hp0 : 0 ≤ p
                · by_cases hq0 : 0 ≤ q
                  · have hno : ∀ M, ¬ Short sg a b M := fun M hM => HS.out.clash HG.out.part (by rw [← HX.out, HEP.out]; exact hp0) (by rw [← HY.out, HEQ.out]; exact hq0) M hM.toUni
                    have cR := U.c2
                    have fR := U.f2
                    have F1 := Lib.hid (uni_no (w := w) hno U.bel)
                    have F2 := Lib.hid (uni_no (w := w) hno ((U.bel).setCell (p := ⟨w.heap.size + 1 + 1, 0, none⟩) (show w.heap.size ≤ w.heap.size + 1 + 1 by omega) (.slice none 0 0)))
                    clear U hno od LX
                    go_wp2
                    first
                      | exact bodyPost_ret (v := .tuple #[.agg #[.slice none 0 0], .bool false]) (by simp [results, Tryz.results71, go_sem, cR]) rfl F1.out
                      | exact bodyPost_ret (v := .tuple #[.agg #[.slice none 0 0], .bool false]) (by simp [results, Tryz.results71, go_sem, cR]) rfl F2.out
                  · have hq1 : q < 0 := by omega
                    have HARM := Lib.hid (arm HY.out HX.out HG.out.symm HS.out.symm HEQ.out HEP.out (by omega))
                    clear od hdn
                    have c0 := U.c0
                    go_wp2_with fail
                    refine LX.out.mono ?_
                    rintro e w5 ⟨D, dn, dc, rfl, od, bb⟩
                    have hdn : dn ≤ 60 := by rw [Own.len od]; exact lenx
                    replace U := U.next bb
                    clear LX bb c0
                    obtain ⟨v, hv⟩ : ∃ v : Nat, q = -1 - (v : Int) := ⟨(-1 - q).toNat, by omega⟩
                    have HVR := Lib.hid (show vr q = v by unfold vr; omega)
                    have HVV := Lib.hid hv
                    clear hv
                    have hv24 : v < 24 := by rw [← HVR.out]; exact HARM.out.2.1
                    have HT1 := Lib.hid HARM.out.2.2.1
                    have ht60 : (subL sg xs k).length ≤ 60 := by rw [← Own.len od]; exact hdn
                    have sd := Own.seg od
                    have kd := own_cap od
                    obtain ⟨hm, ehm⟩ : ∃ z, decide (q ∈ subL sg xs k) = z := ⟨_, rfl⟩
                    have HMM := Lib.hid ehm
                    have LH := Lib.hid (l1Has D dn dc (subL sg xs k) q w5 sd (by omega))
                    rw [ehm] at LH
                    clear ehm
                    cases hm with
                    | true =>
                      go_wp2_with fail
                      refine LH.out.mono ?_
                      rintro e w5 ⟨rfl, rfl⟩
                      have hno : ∀ M, ¬ Short sg a b M := (fun M hM => (HARM.out.1 (of_decide_eq_true HMM.out)) M hM.symm)
                      have cR := U.c2
                      have fR := U.f2
                      have F1 := Lib.hid (uni_no (w := w) hno U.bel)
                      have F2 := Lib.hid (uni_no (w := w) hno ((U.bel).setCell (p := ⟨w.heap.size + 1 + 1, 0, none⟩) (show w.heap.size ≤ w.heap.size + 1 + 1 by omega) (.slice none 0 0)))
                      clear U hno sd LH od
                      go_wp2
                      first
                        | exact bodyPost_ret (v := .tuple #[.agg #[.slice none 0 0], .bool false]) (by simp [results, Tryz.results71, go_sem, cR]) rfl F1.out
                        | exact bodyPost_ret (v := .tuple #[.agg #[.slice none 0 0], .bool false]) (by simp [results, Tryz.results71, go_sem, cR]) rfl F2.out
                    | false =>
                      have hwv : IntKind.i64.wrap (-1 - q) = (v : Int) := by have := HVV.out; rw [IntKind.wrap_i64]; omega
                      have hwv2 := Lib.hid (show -1 - q = (v : Int) by have := HVV.out; omega)
                      have HA4 := Lib.hid (HARM.out.2.2.2 (of_decide_eq_false HMM.out) (.inl hp0))
                      rw [HVR.out] at HA4
                      have c1 := U.c1
                      have LB := Lib.hid (l5Bind S D m cS dn dc v ss (subL sg xs k) w5 U.sS.segs sd kd HG.out.tot hv24 HT1.out ht60 HG.out.g60 HG.out.neg)
                      go_wp2_with fail
                      refine LH.out.mono ?_
                      rintro e w5 ⟨rfl, rfl⟩
                      clear LH sd od
                      go_wp2_with fail
                      (try rw [hwv2.out])
                      refine LB.out.mono ?_
                      rintro e w6 ⟨bb, ⟨O, cO, rfl, oo, hall⟩ | ⟨rfl, hlong⟩⟩
                      · have hg2 := HA4.out.1 hall
                        have hf2 := hg2.2
                        have hz5 := U.size
                        have hz6 := bb.size
                        have U6 := U.next bb
                        have B7 : Below w6.heap.size w6 (w6.alloc (.cells #[.slice O 24 cO] 35)) := (Below.refl _ _).alloc (Nat.le_refl _) _
                        have U7 := U6.next B7
                        have o7 : Owns (w6.alloc (.cells #[.slice O 24 cO] 35)) (w.heap.size + 1 + 1 + 1) (w6.alloc (.cells #[.slice O 24 cO] 35)).heap.size O 24 cO _ := (oo.next B7).wider (by omega) B7.size
                        have HN := Lib.hid (show HeadU w A n c sg P pn a Q qn b (G - 1) ((w6.alloc (.cells #[.slice O 24 cO] 35)).setCell ⟨w.heap.size + 1, 0, none⟩ (.slice O 24 cO)) from ⟨O, 24, cO, _, U7.store o7, hg2.1.symm, by have := HFR.out; omega⟩)
                        have hgk := Lib.hid (show G - 1 < G by have := HFR.out; omega)
                        have c1 : (w6.alloc (.cells #[.slice O 24 cO] 35)).cell? ⟨w.heap.size + 1, 0, none⟩ = some (.slice S m cS) := U7.c1
                        have f1 : (w6.alloc (.cells #[.slice O 24 cO] 35)).frozen? ⟨w.heap.size + 1, 0, none⟩ = false := U7.r1.free 0
                        have d1 : w6.cell? ⟨w.heap.size + 1, 0, none⟩ = some (.slice S m cS) := U6.c1
                        clear LB hg2 hf2 hz5 hz6 U6 U7 o7 oo bb B7 U hall
                        go_wp2
                        go_roundg (G - 1)
                        case measure => exact hgk.out
                        case rel => exact HN.out
                      · replace U := (U.next bb).next (w' := w6.alloc (.cells #[.slice none 0 0] 35)) ((Below.refl _ _).alloc (Nat.le_refl _) _)
                        have hno : ∀ M, ¬ Short sg a b M := (fun M hM => (HA4.out.2 hlong) M hM.symm)
                        have cR := U.c2
                        have fR := U.f2
                        have F1 := Lib.hid (uni_no (w := w) hno U.bel)
                        have F2 := Lib.hid (uni_no (w := w) hno ((U.bel).setCell (p := ⟨w.heap.size + 1 + 1, 0, none⟩) (show w.heap.size ≤ w.heap.size + 1 + 1 by omega) (.slice none 0 0)))
                        clear U hno LB bb c1
                        go_wp2
                        first
                          | exact bodyPost_ret (v := .tuple #[.agg #[.slice none 0 0], .bool false]) (by simp [results, Tryz.results71, go_sem, cR]) rfl F1.out
                          | exact bodyPost_ret (v := .tuple #[.agg #[.slice none 0 0], .bool false]) (by simp [results, Tryz.results71, go_sem, cR]) rfl F2.out
                · have hp1 : p < 0 := by omega
                  by_cases hq0 : q < 0
                  · by_cases hqp : q < p
                    · have HARM := Lib.hid (arm HY.out HX.out HG.out.symm HS.out.symm HEQ.out HEP.out (by omega))
                      clear od hdn
                      have c0 := U.c0
                      go_wp2_with fail
                      refine LX.out.mono ?_
                      rintro e w5 ⟨D, dn, dc, rfl, od, bb⟩
                      have hdn : dn ≤ 60 := by rw [Own.len od]; exact lenx
                      replace U := U.next bb
                      clear LX bb c0
                      obtain ⟨v, hv⟩ : ∃ v : Nat, q = -1 - (v : Int) := ⟨(-1 - q).toNat, by omega⟩
                      have HVR := Lib.hid (show vr q = v by unfold vr; omega)
                      have HVV := Lib.hid hv
                      clear hv
                      have hv24 : v < 24 := by rw [← HVR.out]; exact HARM.out.2.1
                      have HT1 := Lib.hid HARM.out.2.2.1
                      have ht60 : (subL sg xs k).length ≤ 60 := by rw [← Own.len od]; exact hdn
                      have sd := Own.seg od
                      have kd := own_cap od
                      obtain ⟨hm, ehm⟩ : ∃ z, decide (q ∈ subL sg xs k) = z := ⟨_, rfl⟩
                      have HMM := Lib.hid ehm
                      have LH := Lib.hid (l1Has D dn dc (subL sg xs k) q w5 sd (by omega))
                      rw [ehm] at LH
                      clear ehm
                      cases hm with
                      | true =>
                        go_wp2_with fail
                        refine LH.out.mono ?_
                        rintro e w5 ⟨rfl, rfl⟩
                        have hno : ∀ M, ¬ Short sg a b M := (fun M hM => (HARM.out.1 (of_decide_eq_true HMM.out)) M hM.symm)
                        have cR := U.c2
                        have fR := U.f2
                        have F1 := Lib.hid (uni_no (w := w) hno U.bel)
                        have F2 := Lib.hid (uni_no (w := w) hno ((U.bel).setCell (p := ⟨w.heap.size + 1 + 1, 0, none⟩) (show w.heap.size ≤ w.heap.size + 1 + 1 by omega) (.slice none 0 0)))
                        clear U hno sd LH od
                        go_wp2
                        first
                          | exact bodyPost_ret (v := .tuple #[.agg #[.slice none 0 0], .bool false]) (by simp [results, Tryz.results71, go_sem, cR]) rfl F1.out
                          | exact bodyPost_ret (v := .tuple #[.agg #[.slice none 0 0], .bool false]) (by simp [results, Tryz.results71, go_sem, cR]) rfl F2.out
                      | false =>
                        have hwv : IntKind.i64.wrap (-1 - q) = (v : Int) := by have := HVV.out; rw [IntKind.wrap_i64]; omega
                        have hwv2 := Lib.hid (show -1 - q = (v : Int) by have := HVV.out; omega)
                        have HA4 := Lib.hid (HARM.out.2.2.2 (of_decide_eq_false HMM.out) (.inr hqp))
                        rw [HVR.out] at HA4
                        have c1 := U.c1
                        have LB := Lib.hid (l5Bind S D m cS dn dc v ss (subL sg xs k) w5 U.sS.segs sd kd HG.out.tot hv24 HT1.out ht60 HG.out.g60 HG.out.neg)
                        go_wp2_with fail
                        refine LH.out.mono ?_
                        rintro e w5 ⟨rfl, rfl⟩
                        clear LH sd od
                        go_wp2_with fail
                        (try rw [hwv2.out])
                        refine LB.out.mono ?_
                        rintro e w6 ⟨bb, ⟨O, cO, rfl, oo, hall⟩ | ⟨rfl, hlong⟩⟩
                        · have hg2 := HA4.out.1 hall
                          have hf2 := hg2.2
                          have hz5 := U.size
                          have hz6 := bb.size
                          have U6 := U.next bb
                          have B7 : Below w6.heap.size w6 (w6.alloc (.cells #[.slice O 24 cO] 35)) := (Below.refl _ _).alloc (Nat.le_refl _) _
                          have U7 := U6.next B7
                          have o7 : Owns (w6.alloc (.cells #[.slice O 24 cO] 35)) (w.heap.size + 1 + 1 + 1) (w6.alloc (.cells #[.slice O 24 cO] 35)).heap.size O 24 cO _ := (oo.next B7).wider (by omega) B7.size
                          have HN := Lib.hid (show HeadU w A n c sg P pn a Q qn b (G - 1) ((w6.alloc (.cells #[.slice O 24 cO] 35)).setCell ⟨w.heap.size + 1, 0, none⟩ (.slice O 24 cO)) from ⟨O, 24, cO, _, U7.store o7, hg2.1.symm, by have := HFR.out; omega⟩)
                          have hgk := Lib.hid (show G - 1 < G by have := HFR.out; omega)
                          have c1 : (w6.alloc (.cells #[.slice O 24 cO] 35)).cell? ⟨w.heap.size + 1, 0, none⟩ = some (.slice S m cS) := U7.c1
                          have f1 : (w6.alloc (.cells #[.slice O 24 cO] 35)).frozen? ⟨w.heap.size + 1, 0, none⟩ = false := U7.r1.free 0
                          have d1 : w6.cell? ⟨w.heap.size + 1, 0, none⟩ = some (.slice S m cS) := U6.c1
                          clear LB hg2 hf2 hz5 hz6 U6 U7 o7 oo bb B7 U hall
                          go_wp2
                          go_roundg (G - 1)
                          case measure => exact hgk.out
                          case rel => exact HN.out
                        · replace U := (U.next bb).next (w' := w6.alloc (.cells #[.slice none 0 0] 35)) ((Below.refl _ _).alloc (Nat.le_refl _) _)
                          have hno : ∀ M, ¬ Short sg a b M := (fun M hM => (HA4.out.2 hlong) M hM.symm)
                          have cR := U.c2
                          have fR := U.f2
                          have F1 := Lib.hid (uni_no (w := w) hno U.bel)
                          have F2 := Lib.hid (uni_no (w := w) hno ((U.bel).setCell (p := ⟨w.heap.size + 1 + 1, 0, none⟩) (show w.heap.size ≤ w.heap.size + 1 + 1 by omega) (.slice none 0 0)))
                          clear U hno LB bb c1
                          go_wp2
                          first
                            | exact bodyPost_ret (v := .tuple #[.agg #[.slice none 0 0], .bool false]) (by simp [results, Tryz.results71, go_sem, cR]) rfl F1.out
                            | exact bodyPost_ret (v := .tuple #[.agg #[.slice none 0 0], .bool false]) (by simp [results, Tryz.results71, go_sem, cR]) rfl F2.out
                    · have HARM := Lib.hid (arm HX.out HY.out HG.out HS.out HEP.out HEQ.out (by omega))
                      clear LX
                      obtain ⟨v, hv⟩ : ∃ v : Nat, p = -1 - (v : Int) := ⟨(-1 - p).toNat, by omega⟩
                      have HVR := Lib.hid (show vr p = v by unfold vr; omega)
                      have HVV := Lib.hid hv
                      clear hv
                      have hv24 : v < 24 := by rw [← HVR.out]; exact HARM.out.2.1
                      have HT1 := Lib.hid HARM.out.2.2.1
                      have ht60 : (subL sg ys k).length ≤ 60 := by rw [← Own.len od]; exact hdn
                      have sd := Own.seg od
                      have kd := own_cap od
                      obtain ⟨hm, ehm⟩ : ∃ z, decide (p ∈ subL sg ys k) = z := ⟨_, rfl⟩
                      have HMM := Lib.hid ehm
                      have LH := Lib.hid (l1Has D dn dc (subL sg ys k) p w4 sd (by omega))
                      rw [ehm] at LH
                      clear ehm
                      cases hm with
                      | true =>
                        go_wp2_with fail
                        refine LH.out.mono ?_
                        rintro e w5 ⟨rfl, rfl⟩
                        have hno : ∀ M, ¬ Short sg a b M := HARM.out.1 (of_decide_eq_true HMM.out)
                        have cR := U.c2
                        have fR := U.f2
                        have F1 := Lib.hid (uni_no (w := w) hno U.bel)
                        have F2 := Lib.hid (uni_no (w := w) hno ((U.bel).setCell (p := ⟨w.heap.size + 1 + 1, 0, none⟩) (show w.heap.size ≤ w.heap.size + 1 + 1 by omega) (.slice none 0 0)))
                        clear U hno sd LH od
                        go_wp2
                        first
                          | exact bodyPost_ret (v := .tuple #[.agg #[.slice none 0 0], .bool false]) (by simp [results, Tryz.results71, go_sem, cR]) rfl F1.out
                          | exact bodyPost_ret (v := .tuple #[.agg #[.slice none 0 0], .bool false]) (by simp [results, Tryz.results71, go_sem, cR]) rfl F2.out
                      | false =>
                        have hwv : IntKind.i64.wrap (-1 - p) = (v : Int) := by have := HVV.out; rw [IntKind.wrap_i64]; omega
                        have hwv2 := Lib.hid (show -1 - p = (v : Int) by have := HVV.out; omega)
                        have HA4 := Lib.hid (HARM.out.2.2.2 (of_decide_eq_false HMM.out) (.inr (by omega)))
                        rw [HVR.out] at HA4
                        have c1 := U.c1
                        have LB := Lib.hid (l5Bind S D m cS dn dc v ss (subL sg ys k) w4 U.sS.segs sd kd HG.out.tot hv24 HT1.out ht60 HG.out.g60 HG.out.neg)
                        go_wp2_with fail
                        refine LH.out.mono ?_
                        rintro e w5 ⟨rfl, rfl⟩
                        clear LH sd od
                        go_wp2_with fail
                        (try rw [hwv2.out])
                        refine LB.out.mono ?_
                        rintro e w6 ⟨bb, ⟨O, cO, rfl, oo, hall⟩ | ⟨rfl, hlong⟩⟩
                        · have hg2 := HA4.out.1 hall
                          have hf2 := hg2.2
                          have hz5 := U.size
                          have hz6 := bb.size
                          have U6 := U.next bb
                          have B7 : Below w6.heap.size w6 (w6.alloc (.cells #[.slice O 24 cO] 35)) := (Below.refl _ _).alloc (Nat.le_refl _) _
                          have U7 := U6.next B7
                          have o7 : Owns (w6.alloc (.cells #[.slice O 24 cO] 35)) (w.heap.size + 1 + 1 + 1) (w6.alloc (.cells #[.slice O 24 cO] 35)).heap.size O 24 cO _ := (oo.next B7).wider (by omega) B7.size
                          have HN := Lib.hid (show HeadU w A n c sg P pn a Q qn b (G - 1) ((w6.alloc (.cells #[.slice O 24 cO] 35)).setCell ⟨w.heap.size + 1, 0, none⟩ (.slice O 24 cO)) from ⟨O, 24, cO, _, U7.store o7, hg2.1, by have := HFR.out; omega⟩)
                          have hgk := Lib.hid (show G - 1 < G by have := HFR.out; omega)
                          have c1 : (w6.alloc (.cells #[.slice O 24 cO] 35)).cell? ⟨w.heap.size + 1, 0, none⟩ = some (.slice S m cS) := U7.c1
                          have f1 : (w6.alloc (.cells #[.slice O 24 cO] 35)).frozen? ⟨w.heap.size + 1, 0, none⟩ = false := U7.r1.free 0
                          have d1 : w6.cell? ⟨w.heap.size + 1, 0, none⟩ = some (.slice S m cS) := U6.c1
                          clear LB hg2 hf2 hz5 hz6 U6 U7 o7 oo bb B7 U hall
                          go_wp2
                          go_roundg (G - 1)
                          case measure => exact hgk.out
                          case rel => exact HN.out
                        · replace U := (U.next bb).next (w' := w6.alloc (.cells #[.slice none 0 0] 35)) ((Below.refl _ _).alloc (Nat.le_refl _) _)
                          have hno : ∀ M, ¬ Short sg a b M := HA4.out.2 hlong
                          have cR := U.c2
                          have fR := U.f2
                          have F1 := Lib.hid (uni_no (w := w) hno U.bel)
                          have F2 := Lib.hid (uni_no (w := w) hno ((U.bel).setCell (p := ⟨w.heap.size + 1 + 1, 0, none⟩) (show w.heap.size ≤ w.heap.size + 1 + 1 by omega) (.slice none 0 0)))
                          clear U hno LB bb c1
                          go_wp2
                          first
                            | exact bodyPost_ret (v := .tuple #[.agg #[.slice none 0 0], .bool false]) (by simp [results, Tryz.results71, go_sem, cR]) rfl F1.out
                            | exact bodyPost_ret (v := .tuple #[.agg #[.slice none 0 0], .bool false]) (by simp [results, Tryz.results71, go_sem, cR]) rfl F2.out
                  · have hq1 : 0 ≤ q := by omega
                    have HARM := Lib.hid (arm HX.out HY.out HG.out HS.out HEP.out HEQ.out (by omega))
                    clear LX
                    obtain ⟨v, hv⟩ : ∃ v : Nat, p = -1 - (v : Int) := ⟨(-1 - p).toNat, by omega⟩
                    have HVR := Lib.hid (show vr p = v by unfold vr; omega)
                    have HVV := Lib.hid hv
                    clear hv
                    have hv24 : v < 24 := by rw [← HVR.out]; exact HARM.out.2.1
                    have HT1 := Lib.hid HARM.out.2.2.1
                    have ht60 : (subL sg ys k).length ≤ 60 := by rw [← Own.len od]; exact hdn
                    have sd := Own.seg od
                    have kd := own_cap od
                    obtain ⟨hm, ehm⟩ : ∃ z, decide (p ∈ subL sg ys k) = z := ⟨_, rfl⟩
                    have HMM := Lib.hid ehm
                    have LH := Lib.hid (l1Has D dn dc (subL sg ys k) p w4 sd (by omega))
                    rw [ehm] at LH
                    clear ehm
                    cases hm with
                    | true =>
                      go_wp2_with fail
                      refine LH.out.mono ?_
                      rintro e w5 ⟨rfl, rfl⟩
                      have hno : ∀ M, ¬ Short sg a b M := HARM.out.1 (of_decide_eq_true HMM.out)
                      have cR := U.c2
                      have fR := U.f2
                      have F1 := Lib.hid (uni_no (w := w) hno U.bel)
                      have F2 := Lib.hid (uni_no (w := w) hno ((U.bel).setCell (p := ⟨w.heap.size + 1 + 1, 0, none⟩) (show w.heap.size ≤ w.heap.size + 1 + 1 by omega) (.slice none 0 0)))
                      clear U hno sd LH od
                      go_wp2
                      first
                        | exact bodyPost_ret (v := .tuple #[.agg #[.slice none 0 0], .bool false]) (by simp [results, Tryz.results71, go_sem, cR]) rfl F1.out
                        | exact bodyPost_ret (v := .tuple #[.agg #[.slice none 0 0], .bool false]) (by simp [results, Tryz.results71, go_sem, cR]) rfl F2.out
                    | false =>
                      have hwv : IntKind.i64.wrap (-1 - p) = (v : Int) := by have := HVV.out; rw [IntKind.wrap_i64]; omega
                      have hwv2 := Lib.hid (show -1 - p = (v : Int) by have := HVV.out; omega)
                      have HA4 := Lib.hid (HARM.out.2.2.2 (of_decide_eq_false HMM.out) (.inl hq1))
                      rw [HVR.out] at HA4
                      have c1 := U.c1
                      have LB := Lib.hid (l5Bind S D m cS dn dc v ss (subL sg ys k) w4 U.sS.segs sd kd HG.out.tot hv24 HT1.out ht60 HG.out.g60 HG.out.neg)
                      go_wp2_with fail
                      refine LH.out.mono ?_
                      rintro e w5 ⟨rfl, rfl⟩
                      clear LH sd od
                      go_wp2_with fail
                      (try rw [hwv2.out])
                      refine LB.out.mono ?_
                      rintro e w6 ⟨bb, ⟨O, cO, rfl, oo, hall⟩ | ⟨rfl, hlong⟩⟩
                      · have hg2 := HA4.out.1 hall
                        have hf2 := hg2.2
                        have hz5 := U.size
                        have hz6 := bb.size
                        have U6 := U.next bb
                        have B7 : Below w6.heap.size w6 (w6.alloc (.cells #[.slice O 24 cO] 35)) := (Below.refl _ _).alloc (Nat.le_refl _) _
                        have U7 := U6.next B7
                        have o7 : Owns (w6.alloc (.cells #[.slice O 24 cO] 35)) (w.heap.size + 1 + 1 + 1) (w6.alloc (.cells #[.slice O 24 cO] 35)).heap.size O 24 cO _ := (oo.next B7).wider (by omega) B7.size
                        have HN := Lib.hid (show HeadU w A n c sg P pn a Q qn b (G - 1) ((w6.alloc (.cells #[.slice O 24 cO] 35)).setCell ⟨w.heap.size + 1, 0, none⟩ (.slice O 24 cO)) from ⟨O, 24, cO, _, U7.store o7, hg2.1, by have := HFR.out; omega⟩)
                        have hgk := Lib.hid (show G - 1 < G by have := HFR.out; omega)
                        have c1 : (w6.alloc (.cells #[.slice O 24 cO] 35)).cell? ⟨w.heap.size + 1, 0, none⟩ = some (.slice S m cS) := U7.c1
                        have f1 : (w6.alloc (.cells #[.slice O 24 cO] 35)).frozen? ⟨w.heap.size + 1, 0, none⟩ = false := U7.r1.free 0
                        have d1 : w6.cell? ⟨w.heap.size + 1, 0, none⟩ = some (.slice S m cS) := U6.c1
                        clear LB hg2 hf2 hz5 hz6 U6 U7 o7 oo bb B7 U hall
                        go_wp2
                        go_roundg (G - 1)
                        case measure => exact hgk.out
                        case rel => exact HN.out
                      · replace U := (U.next bb).next (w' := w6.alloc (.cells #[.slice none 0 0] 35)) ((Below.refl _ _).alloc (Nat.le_refl _) _)
                        have hno : ∀ M, ¬ Short sg a b M := HA4.out.2 hlong
                        have cR := U.c2
                        have fR := U.f2
                        have F1 := Lib.hid (uni_no (w := w) hno U.bel)
                        have F2 := Lib.hid (uni_no (w := w) hno ((U.bel).setCell (p := ⟨w.heap.size + 1 + 1, 0, none⟩) (show w.heap.size ≤ w.heap.size + 1 + 1 by omega) (.slice none 0 0)))
                        clear U hno LB bb c1
                        go_wp2
                        first
                          | exact bodyPost_ret (v := .tuple #[.agg #[.slice none 0 0], .bool false]) (by simp [results, Tryz.results71, go_sem, cR]) rfl F1.out
                          | exact bodyPost_ret (v := .tuple #[.agg #[.slice none 0 0], .bool false]) (by simp [results, Tryz.results71, go_sem, cR]) rfl F2.out
            · have hyk : k = yn := by omega
              have := unifMath.differ HTX.out HTY.out HPRE.out (by rw [HLX.out]; omega) (by rw [HLY.out]; omega) (.inr (by rw [HLY.out]; exact hyk))
              have h1 := HLX.out
              rw [this, HLY.out] at h1
              omega
          · have hxk : k = xn := by have := HKG.out; omega
            have he : fillL (givesL ss) a = fillL (givesL ss) b := by
              rw [← HX.out, ← HY.out]
              exact unifMath.differ HTX.out HTY.out HPRE.out (by rw [HLX.out]; omega) (by rw [HLY.out]; omega) (.inl (by rw [HLX.out]; exact hxk))
            have j1 : (xn : Int) ≤ (k : Int) := by omega
            have jj : ((k : Int) == (xn : Int)) = true := by simp [hxk]
            clear sx sy
            go_wp2_with fail
            go_quiet (fail)
            replace U := U.next (drew_below wr nq)
            generalize wr.drewN nq = w9 at *
            have cR := U.c2
            have fR := U.f2
            have c1 := U.c1
            have F : AnsUni w sg a b (.returned (.tuple #[.agg #[.slice S m cS], .bool true])) (w9.setCell ⟨w.heap.size + 1 + 1, 0, none⟩ (.slice S m cS)) :=
              ⟨(U.bel).setCell (p := ⟨w.heap.size + 1 + 1, 0, none⟩) (show w.heap.size ≤ w.heap.size + 1 + 1 by omega) _, .inl ⟨S, m, cS, ss, rfl, (owns_put U.sS U.r2 (Nat.lt_succ_self _) 0 _).wider (by omega) (by simp), HG.out, he, (fit_yes HFA.out).2⟩⟩
            have HF := Lib.hid F
            clear F U hxk he
            go_wp2
            exact bodyPost_ret (v := .tuple #[.agg #[.slice S m cS], .bool true]) (by simp [results, Tryz.results71, go_sem, cR]) rfl HF.out
end Go.Proofs.YtkmhnkljigncmaaGreat.unifSpec
end

section
/-
  CONTRACTS: spec.Unified, UnifiesIn. Conditions: the slices read as lists ('Seg'), at most 1048576 numbers; what is told of the two lists is given ('IsU'). By an AI agent.
-/
namespace Go.Proofs.YtkmhnkljigncmaaGreat.unified
open Go.RowKit Go.Proofs.YtkmhnkljigncmaaGreat.base Go.Proofs.YtkmhnkljigncmaaGreat.ints Go.Proofs.YtkmhnkljigncmaaGreat.sig Go.Proofs.YtkmhnkljigncmaaGreat.term Go.Proofs.YtkmhnkljigncmaaGreat.termOk Go.Proofs.YtkmhnkljigncmaaGreat.endAt Go.Proofs.YtkmhnkljigncmaaGreat.sub Go.Proofs.YtkmhnkljigncmaaGreat.cursor Go.Proofs.YtkmhnkljigncmaaGreat.marks Go.Proofs.YtkmhnkljigncmaaGreat.app Go.Proofs.YtkmhnkljigncmaaGreat.sym Go.Proofs.YtkmhnkljigncmaaGreat.look Go.Proofs.YtkmhnkljigncmaaGreat.segs Go.Proofs.YtkmhnkljigncmaaGreat.segsHelp Go.Proofs.YtkmhnkljigncmaaGreat.kinds Go.Proofs.YtkmhnkljigncmaaGreat.termFacts Go.Proofs.YtkmhnkljigncmaaGreat.fillMath Go.Proofs.YtkmhnkljigncmaaGreat.substOk Go.Proofs.YtkmhnkljigncmaaGreat.gives Go.Proofs.YtkmhnkljigncmaaGreat.shifted Go.Proofs.YtkmhnkljigncmaaGreat.filled Go.Proofs.YtkmhnkljigncmaaGreat.plainMath Go.Proofs.YtkmhnkljigncmaaGreat.plain Go.Proofs.YtkmhnkljigncmaaGreat.plainOf Go.Proofs.YtkmhnkljigncmaaGreat.compMath Go.Proofs.YtkmhnkljigncmaaGreat.rename Go.Proofs.YtkmhnkljigncmaaGreat.matchMath Go.Proofs.YtkmhnkljigncmaaGreat.unifMath Go.Proofs.YtkmhnkljigncmaaGreat.bind Go.Proofs.YtkmhnkljigncmaaGreat.unifSpec Go.Proofs.YtkmhnkljigncmaaGreat.inside
set_option maxRecDepth 100000

/-- a substitution of the call's own, and whether -/
def AnsUB (w : World) (xss : List (List Int)) (b : Bool) (e : Ending) (w' : World) : Prop := ∃ A n c, e = .returned (.tuple #[.agg #[.slice A n c], .bool b]) ∧ Owns w' w.heap.size w'.heap.size A n c xss ∧ Below w.heap.size w w'
theorem ub_off {w w' : World} {sg a b : List Int} {v : Bool} {F : List (List Int)} (hU : IsU sg a b v F) (h : termOkB sg a = false ∨ termOkB sg b = false) (hb : Below w.heap.size w w') : AnsUB w F v (.returned (.tuple #[.agg #[.slice none 0 0], .bool false])) w' := by
  obtain ⟨rfl, rfl⟩ := isU_one hU (isU_off h)
  exact ⟨none, 0, 0, rfl, Owns.nil _ _ _, hb⟩
/-- what stands in the course of a call with a boxed signature and a boxed result -/
structure Mr (w wr : World) (A : Option Addr) (n c : Nat) (sg : List Int) (P : Option Addr) (pn : Nat) (p : List Int) (Q : Option Addr) (m : Nat) (t : List Int) : Prop where
  r0 : Row wr w.heap.size 26 #[.slice A n c]
  r1 : Row wr (w.heap.size + 1) 35 #[.slice none 0 0]
  ss : Seg wr wr.heap.size A n sg
  sp : Seg wr wr.heap.size P pn p
  st : Seg wr wr.heap.size Q m t
  b : Below w.heap.size w wr
section
variable {w wr w' : World} {A : Option Addr} {n c : Nat} {sg : List Int} {P : Option Addr} {pn : Nat} {p : List Int} {Q : Option Addr} {m : Nat} {t : List Int}
theorem Mr.start (h : Seg w w.heap.size A n sg) (hp : Seg w w.heap.size P pn p) (ht : Seg w w.heap.size Q m t) : Mr w ((w.alloc (.cells #[.slice A n c] 26)).alloc (.cells #[.slice none 0 0] 35)) A n c sg P pn p Q m t :=
  have b : Below w.heap.size w ((w.alloc (.cells #[.slice A n c] 26)).alloc (.cells #[.slice none 0 0] 35)) := ((Below.refl _ _).alloc (Nat.le_refl _) _).alloc (by simp) _
  ⟨(Row.new w _ _).alloc _, by have := Row.new (w.alloc (.cells #[.slice A n c] 26)) 35 #[.slice none 0 0]; simpa using this, h.next b, hp.next b, ht.next b, b⟩
theorem Mr.next (h : Mr w wr A n c sg P pn p Q m t) (hb : Below wr.heap.size wr w') : Mr w w' A n c sg P pn p Q m t :=
  ⟨h.r0.next hb, h.r1.next hb, h.ss.next hb, h.sp.next hb, h.st.next hb, next_trans h.b hb⟩
end

set_option maxHeartbeats 1000000 in
theorem specUnified (A P Q : Option Addr) (n c pn pc m mc : Nat) (sg p t : List Int) (w : World) (v : Bool) (F : List (List Int)) (hU : IsU sg p t v F) (h : Seg w w.heap.size A n sg) (hp : Seg w w.heap.size P pn p) (ht : Seg w w.heap.size Q m t) (hn : n ≤ 1048576) (hpn : pn ≤ 1048576) (hm : m ≤ 1048576) :
    Calls Tryz.prog 43 #[.agg #[.slice A n c], .slice P pn pc, .slice Q m mc] w (AnsUB w F v) := by
  obtain ⟨W, hW⟩ : ∃ W, W = (w.alloc (.cells #[.slice A n c] 26)).alloc (.cells #[.slice none 0 0] 35) := ⟨_, rfl⟩
  have M : Mr w W A n c sg P pn p Q m t := by rw [hW]; exact Mr.start h hp ht
  have HW := Lib.hid hW
  have L := Lib.hid (specTermOk A P n c pn pc sg p W M.ss M.sp hn hpn)
  have c0 : W.cell? ⟨w.heap.size, 0, none⟩ = some (.slice A n c) := M.r0.cell 0
  have c00 : ((w.alloc (.cells #[.slice A n c] 26)).alloc (.cells #[.slice none 0 0] 35)).cell? ⟨w.heap.size, 0, none⟩ = some (.slice A n c) := by rw [← hW]; exact c0
  have HU := Lib.hid hU
  clear hU hW h hp ht
  cases hokp : termOkB sg p with
  | false =>
    have HS := Lib.hid hokp
    clear hokp
    go_enter Tryz.func43, Tryz.ntmps43
    go_wp2_with fail
    rw [← HW.out]
    refine L.out.mono ?_
    rintro e w1 ⟨he, bb⟩
    rw [HS.out] at he
    subst he
    replace M := M.next bb
    have cR : w1.cell? ⟨w.heap.size + 1, 0, none⟩ = some (.slice none 0 0) := M.r1.cell 0
    have fR : w1.frozen? ⟨w.heap.size + 1, 0, none⟩ = false := M.r1.free 0
    have F1 := Lib.hid (ub_off (w := w) HU.out (.inl HS.out) M.b)
    have F2 := Lib.hid (ub_off (w := w) HU.out (.inl HS.out) ((M.b).setCell (p := ⟨w.heap.size + 1, 0, none⟩) (show w.heap.size ≤ w.heap.size + 1 by omega) (.slice none 0 0)))
    clear M L bb c0 c00
    go_wp2
    first
      | exact bodyPost_ret (v := .tuple #[.agg #[.slice none 0 0], .bool false]) (by simp [results, Tryz.results43, go_sem, cR]) rfl F1.out
      | exact bodyPost_ret (v := .tuple #[.agg #[.slice none 0 0], .bool false]) (by simp [results, Tryz.results43, go_sem, cR]) rfl F2.out
  | true =>
    have HSP := Lib.hid hokp
    have hp60 : pn ≤ 60 := by have h1 := (termOk_parts hokp).2.1; rw [M.sp.1] at h1; exact h1
    clear hokp
    cases hokt : termOkB sg t with
    | false =>
      have HS := Lib.hid hokt
      clear hokt
      go_enter Tryz.func43, Tryz.ntmps43
      go_wp2_with fail
      rw [← HW.out]
      refine L.out.mono ?_
      rintro e w1 ⟨he, bb⟩
      rw [HSP.out] at he
      subst he
      replace M := M.next bb
      clear bb L c0 c00
      have c0 : w1.cell? ⟨w.heap.size, 0, none⟩ = some (.slice A n c) := M.r0.cell 0
      go_wp2_with fail
      refine (specTermOk A Q n c m mc sg t _ M.ss M.st hn hm).mono ?_
      rintro e w2 ⟨he, bb⟩
      rw [HS.out] at he
      subst he
      replace M := M.next bb
      have cR : w2.cell? ⟨w.heap.size + 1, 0, none⟩ = some (.slice none 0 0) := M.r1.cell 0
      have fR : w2.frozen? ⟨w.heap.size + 1, 0, none⟩ = false := M.r1.free 0
      have F1 := Lib.hid (ub_off (w := w) HU.out (.inr HS.out) M.b)
      have F2 := Lib.hid (ub_off (w := w) HU.out (.inr HS.out) ((M.b).setCell (p := ⟨w.heap.size + 1, 0, none⟩) (show w.heap.size ≤ w.heap.size + 1 by omega) (.slice none 0 0)))
      clear M bb c0
      go_wp2
      first
        | exact bodyPost_ret (v := .tuple #[.agg #[.slice none 0 0], .bool false]) (by simp [results, Tryz.results43, go_sem, cR]) rfl F1.out
        | exact bodyPost_ret (v := .tuple #[.agg #[.slice none 0 0], .bool false]) (by simp [results, Tryz.results43, go_sem, cR]) rfl F2.out
    | true =>
      have HST := Lib.hid hokt
      have hm60 : m ≤ 60 := by have h1 := (termOk_parts hokt).2.1; rw [M.st.1] at h1; exact h1
      clear hokt
      go_enter Tryz.func43, Tryz.ntmps43
      go_wp2_with fail
      rw [← HW.out]
      refine L.out.mono ?_
      rintro e w1 ⟨he, bb⟩
      rw [HSP.out] at he
      subst he
      replace M := M.next bb
      clear bb L c0 c00
      have c0 : w1.cell? ⟨w.heap.size, 0, none⟩ = some (.slice A n c) := M.r0.cell 0
      go_wp2_with fail
      refine (specTermOk A Q n c m mc sg t _ M.ss M.st hn hm).mono ?_
      rintro e w2 ⟨he, bb⟩
      rw [HST.out] at he
      subst he
      replace M := M.next bb
      clear bb c0
      have c0 : w2.cell? ⟨w.heap.size, 0, none⟩ = some (.slice A n c) := M.r0.cell 0
      go_wp2_with fail
      refine (l5Unify A P Q n c pn pc m mc sg p t _ M.ss M.sp M.st hn hp60 hm60 HSP.out HST.out).mono ?_
      rintro e w3 ⟨bb, ⟨S, sm, cS, ss, rfl, os, hg, he, hl⟩ | ⟨rfl, hno⟩⟩
      · obtain ⟨hv, hF⟩ := isU_one HU.out (isU_mg HSP.out HST.out (hg.part.done he) hg.g60 hl)
        have hsm : ss.length = sm := os.len
        have HF := Lib.hid (show plainL (givesL ss) sm = F by rw [hF]; exact (plain_24 (by rw [← hsm]; exact hg.len) (fun i hi => gives_out (by rw [hsm]; omega))).symm)
        have htot := hg.tot
        have B4 : Below w3.heap.size w3 (w3.alloc (.cells #[.slice S sm cS] 35)) := (Below.refl _ _).alloc (Nat.le_refl _) _
        have M4 := (M.next bb).next B4
        have LP := Lib.hid (l2Plain S sm cS ss (w3.alloc (.cells #[.slice S sm cS] 35)) (os.segs.next B4) htot)
        subst hv
        have z4 := M4.b.size
        have z5 := M4.r1.lt
        clear M bb os hg he hl hF hsm htot B4 c0
        go_wp2_with fail
        refine LP.out.mono ?_
        rintro e w5 ⟨D, dn, dc, rfl, od, bb⟩
        rw [HF.out] at od
        have M5 := M4.next bb
        have cR : w5.cell? ⟨w.heap.size + 1, 0, none⟩ = some (.slice none 0 0) := M5.r1.cell 0
        have fR : w5.frozen? ⟨w.heap.size + 1, 0, none⟩ = false := M5.r1.free 0
        have G : AnsUB w F true (.returned (.tuple #[.agg #[.slice D dn dc], .bool true])) (w5.setCell ⟨w.heap.size + 1, 0, none⟩ (.slice D dn dc)) := by
          have hbt : Btw (w.heap.size + 1) (w.heap.size + 2) w5 (w5.setCell ⟨w.heap.size + 1, 0, none⟩ (.slice D dn dc)) := Btw.of_grown (grown_put (World.grownBy.refl _ _) _ _) (fun k hk => by injection hk; omega)
          have o2 := od.btw hbt (.inr (by simp at z5 ⊢; omega))
          exact ⟨D, dn, dc, rfl, o2.wider (by simp at z4 ⊢; omega) (by simp), (M5.b).setCell (p := ⟨w.heap.size + 1, 0, none⟩) (show w.heap.size ≤ w.heap.size + 1 by omega) _⟩
        have HG := Lib.hid G
        clear G od bb M4 M5 LP
        go_wp2
        exact bodyPost_ret (v := .tuple #[.agg #[.slice D dn dc], .bool true]) (by simp [results, Tryz.results43, go_sem, cR]) rfl HG.out
      · obtain ⟨hv, hF⟩ := isU_one HU.out (isU_no (a := p) (b := t) hno)
        subst hv
        subst hF
        have M3 := (M.next bb).next (w' := w3.alloc (.cells #[.slice none 0 0] 35)) ((Below.refl _ _).alloc (Nat.le_refl _) _)
        have cR : (w3.alloc (.cells #[.slice none 0 0] 35)).cell? ⟨w.heap.size + 1, 0, none⟩ = some (.slice none 0 0) := M3.r1.cell 0
        have fR : (w3.alloc (.cells #[.slice none 0 0] 35)).frozen? ⟨w.heap.size + 1, 0, none⟩ = false := M3.r1.free 0
        have F1 := Lib.hid (show AnsUB w [] false (.returned (.tuple #[.agg #[.slice none 0 0], .bool false])) _ from ⟨none, 0, 0, rfl, Owns.nil _ _ _, M3.b⟩)
        have F2 := Lib.hid (show AnsUB w [] false (.returned (.tuple #[.agg #[.slice none 0 0], .bool false])) ((w3.alloc (.cells #[.slice none 0 0] 35)).setCell ⟨w.heap.size + 1, 0, none⟩ (.slice none 0 0)) from ⟨none, 0, 0, rfl, Owns.nil _ _ _, (M3.b).setCell (p := ⟨w.heap.size + 1, 0, none⟩) (show w.heap.size ≤ w.heap.size + 1 by omega) _⟩)
        clear M M3 bb hno c0
        go_wp2
        first
          | exact bodyPost_ret (v := .tuple #[.agg #[.slice none 0 0], .bool false]) (by simp [results, Tryz.results43, go_sem, cR]) rfl F1.out
          | exact bodyPost_ret (v := .tuple #[.agg #[.slice none 0 0], .bool false]) (by simp [results, Tryz.results43, go_sem, cR]) rfl F2.out

end Go.Proofs.YtkmhnkljigncmaaGreat.unified
end

section
/-
  CONTRACTS: impl.Unified (a failed unification panics and is recovered), impl.UnifiesIn. Conditions: the slices read as lists ('Seg'), at most 1048576 numbers; what is told is given ('IsU'). By an AI agent.
-/
namespace Go.Proofs.YtkmhnkljigncmaaGreat.unifImpl
open Go.RowKit Go.Proofs.YtkmhnkljigncmaaGreat.base Go.Proofs.YtkmhnkljigncmaaGreat.ints Go.Proofs.YtkmhnkljigncmaaGreat.sig Go.Proofs.YtkmhnkljigncmaaGreat.term Go.Proofs.YtkmhnkljigncmaaGreat.termOk Go.Proofs.YtkmhnkljigncmaaGreat.endAt Go.Proofs.YtkmhnkljigncmaaGreat.cursor Go.Proofs.YtkmhnkljigncmaaGreat.marks Go.Proofs.YtkmhnkljigncmaaGreat.segs Go.Proofs.YtkmhnkljigncmaaGreat.segsHelp Go.Proofs.YtkmhnkljigncmaaGreat.kinds Go.Proofs.YtkmhnkljigncmaaGreat.fillMath Go.Proofs.YtkmhnkljigncmaaGreat.look Go.Proofs.YtkmhnkljigncmaaGreat.plainMath Go.Proofs.YtkmhnkljigncmaaGreat.plain Go.Proofs.YtkmhnkljigncmaaGreat.unifMath Go.Proofs.YtkmhnkljigncmaaGreat.unifDom Go.Proofs.YtkmhnkljigncmaaGreat.thn Go.Proofs.YtkmhnkljigncmaaGreat.unifRep Go.Proofs.YtkmhnkljigncmaaGreat.unifStep Go.Proofs.YtkmhnkljigncmaaGreat.unifRun Go.Proofs.YtkmhnkljigncmaaGreat.unified Go.Proofs.YtkmhnkljigncmaaGreat.inside
set_option maxRecDepth 100000

/-- the deferred function, where the call panics: the panic is recovered -/
theorem catch_panicking (u : TypeId) (pv : Value) (older : List PanicEntry) (w : World) :
    CallsD Tryz.prog 56 #[] (.panicking ({ v := .iface u pv, recovered := false } :: older)) w fun e u' w' =>
      e = .returned (.tuple #[]) ∧ u' = .panicking ({ v := .iface u pv, recovered := true } :: older) ∧ w' = w := by
  refine callsD_of_wpS Tryz.func56 rfl fun c₀ cs hu => ?_
  apply wpS_region
  simp [wpOpsS, go_sem, recoverD, hu, Tryz.ntmps56, Exit.thenS, bodyPostS, results, Tryz.results56]
/-- where the call returns: nothing -/
theorem catch_idle (w : World) :
    CallsD Tryz.prog 56 #[] .returning w fun e u' w' => e = .returned (.tuple #[]) ∧ u' = .returning ∧ w' = w := by
  refine callsD_of_wpS Tryz.func56 rfl fun c₀ cs hu => ?_
  apply wpS_region
  cases c₀
  simp_all [wpOpsS, go_sem, recoverD, Tryz.ntmps56, Exit.thenS, bodyPostS, results, Tryz.results56]

set_option maxHeartbeats 2000000 in
theorem implUnified (A P Q : Option Addr) (n c pn pc m mc : Nat) (sg p t : List Int) (w : World) (v : Bool) (F : List (List Int)) (hU : IsU sg p t v F) (h : Seg w w.heap.size A n sg) (hp : Seg w w.heap.size P pn p) (ht : Seg w w.heap.size Q m t) (hn : n ≤ 1048576) (hpn : pn ≤ 1048576) (hm : m ≤ 1048576) (kp : Cap P pn pc) (kq : Cap Q m mc) :
    Calls Tryz.prog 26 #[.agg #[.slice A n c], .slice P pn pc, .slice Q m mc] w (AnsUB w F v) := by
  obtain ⟨W, hW⟩ : ∃ W, W = (w.alloc (.cells #[.slice A n c] 26)).alloc (.cells #[.slice none 0 0] 35) := ⟨_, rfl⟩
  have M : Mr w W A n c sg P pn p Q m t := by rw [hW]; exact Mr.start h hp ht
  have HW := Lib.hid hW
  have L := Lib.hid (implTermOk A P n c pn pc sg p W M.ss M.sp hn hpn)
  have c0 : W.cell? ⟨w.heap.size, 0, none⟩ = some (.slice A n c) := M.r0.cell 0
  have c00 : ((w.alloc (.cells #[.slice A n c] 26)).alloc (.cells #[.slice none 0 0] 35)).cell? ⟨w.heap.size, 0, none⟩ = some (.slice A n c) := by rw [← hW]; exact c0
  have HU := Lib.hid hU
  have hmf : ∀ (fn : Fn) (first cap : Array Value) (w : World), (Instr.makeFunc fn first cap).run Tryz.prog w = .ok (.func fn first cap) w := fun _ _ _ _ => rfl
  clear hU hW h hp ht
  cases hokp : termOkB sg p with
  | false =>
    have HS := Lib.hid hokp
    clear hokp
    go_enter_defers Tryz.func26, Tryz.ntmps26
    go_wp2_with fail
    rw [← HW.out]
    refine L.out.mono ?_
    rintro e w1 ⟨he, bb⟩
    rw [HS.out] at he
    subst he
    replace M := M.next bb
    have cR : w1.cell? ⟨w.heap.size + 1, 0, none⟩ = some (.slice none 0 0) := M.r1.cell 0
    have fR : w1.frozen? ⟨w.heap.size + 1, 0, none⟩ = false := M.r1.free 0
    have F1 := Lib.hid (ub_off (w := w) HU.out (.inl HS.out) M.b)
    have F2 := Lib.hid (ub_off (w := w) HU.out (.inl HS.out) ((M.b).setCell (p := ⟨w.heap.size + 1, 0, none⟩) (show w.heap.size ≤ w.heap.size + 1 by omega) (.slice none 0 0)))
    clear M L bb c0 c00
    go_wp2
    first
      | exact ⟨.tuple #[.agg #[.slice none 0 0], .bool false], by simp [results, Tryz.results26, go_sem, cR], F1.out⟩
      | exact ⟨.tuple #[.agg #[.slice none 0 0], .bool false], by simp [results, Tryz.results26, go_sem, cR], F2.out⟩
  | true =>
    have HSP := Lib.hid hokp
    have hp60 : pn ≤ 60 := by have h1 := (termOk_parts hokp).2.1; rw [M.sp.1] at h1; exact h1
    clear hokp
    cases hokt : termOkB sg t with
    | false =>
      have HS := Lib.hid hokt
      clear hokt
      go_enter_defers Tryz.func26, Tryz.ntmps26
      go_wp2_with fail
      rw [← HW.out]
      refine L.out.mono ?_
      rintro e w1 ⟨he, bb⟩
      rw [HSP.out] at he
      subst he
      replace M := M.next bb
      clear bb L c0 c00
      have c0 : w1.cell? ⟨w.heap.size, 0, none⟩ = some (.slice A n c) := M.r0.cell 0
      go_wp2_with fail
      refine (implTermOk A Q n c m mc sg t _ M.ss M.st hn hm).mono ?_
      rintro e w2 ⟨he, bb⟩
      rw [HS.out] at he
      subst he
      replace M := M.next bb
      have cR : w2.cell? ⟨w.heap.size + 1, 0, none⟩ = some (.slice none 0 0) := M.r1.cell 0
      have fR : w2.frozen? ⟨w.heap.size + 1, 0, none⟩ = false := M.r1.free 0
      have F1 := Lib.hid (ub_off (w := w) HU.out (.inr HS.out) M.b)
      have F2 := Lib.hid (ub_off (w := w) HU.out (.inr HS.out) ((M.b).setCell (p := ⟨w.heap.size + 1, 0, none⟩) (show w.heap.size ≤ w.heap.size + 1 by omega) (.slice none 0 0)))
      clear M bb c0
      go_wp2
      first
        | exact ⟨.tuple #[.agg #[.slice none 0 0], .bool false], by simp [results, Tryz.results26, go_sem, cR], F1.out⟩
        | exact ⟨.tuple #[.agg #[.slice none 0 0], .bool false], by simp [results, Tryz.results26, go_sem, cR], F2.out⟩
    | true =>
      have HST := Lib.hid hokt
      have hm60 : m ≤ 60 := by have h1 := (termOk_parts hokt).2.1; rw [M.st.1] at h1; exact h1
      clear hokt
      go_enter_defers Tryz.func26, Tryz.ntmps26
      go_wp2_with fail
      rw [← HW.out]
      refine L.out.mono ?_
      rintro e w1 ⟨he, bb⟩
      rw [HSP.out] at he
      subst he
      replace M := M.next bb
      clear bb L c0 c00
      have c0 : w1.cell? ⟨w.heap.size, 0, none⟩ = some (.slice A n c) := M.r0.cell 0
      go_wp2_with fail
      refine (implTermOk A Q n c m mc sg t _ M.ss M.st hn hm).mono ?_
      rintro e w2 ⟨he, bb⟩
      rw [HST.out] at he
      subst he
      replace M := M.next bb
      clear bb c0
      have c0 : w2.cell? ⟨w.heap.size, 0, none⟩ = some (.slice A n c) := M.r0.cell 0
      obtain ⟨W3, hW3⟩ : ∃ W3, W3 = w2.alloc (.cells #[.slice A n c, .slice P pn pc, .slice Q m mc, .func (.func 30) #[] #[]] 74) := ⟨_, rfl⟩
      have b3 : Below w2.heap.size w2 W3 := by rw [hW3]; exact (Below.refl _ _).alloc (Nat.le_refl _) _
      have r3 : Row W3 w2.heap.size 74 #[.slice A n c, .slice P pn pc, .slice Q m mc, .func (.func 30) #[] #[]] := by rw [hW3]; exact Row.new _ _ _
      have M3 := M.next b3
      have LR := Lib.hid (run w2.heap.size A P Q n c pn pc m mc _ _ sg p t p t vt W3 ⟨r3, M3.ss, M3.sp, M3.st, kp, kq, enters_of Tryz.func30 (by kernel_rfl) rfl, lookVar _ _⟩ (Wy.start HSP.out HST.out) hn)
      have HW3 := Lib.hid hW3
      have hz : w.heap.size + 1 < w2.heap.size := M.r1.lt
      have HM3 := Lib.hid M3
      clear M b3 r3 M3 hW3
      go_wp2_with fail
      rw [← HW3.out]
      refine LR.out.mono ?_
      rintro e w4 ⟨hg, ⟨x, L', P', pn', pc', Q', qn', qc', gl', lb', rfl, U, WW⟩ | ⟨hno, u, pv, rfl⟩⟩
      · have hs3 : W3.heap.size = w2.heap.size + 1 := by rw [HW3.out]; simp
        have b4 : Below w.heap.size w w4 := HM3.out.b.grown hg (by omega) (fun k hk => by injection hk; omega)
        have r4 := Row.away HM3.out.r1 hg (fun e => by injection e; omega)
        have c3 := U.c3
        have LP := Lib.hid (plain gl' lb' U.eg L' w4 U.lk.looks (fun i => WW.part.sub.pos i) (fun i => Nat.le_trans (WW.each i) (by omega)))
        obtain ⟨hv, hF⟩ := isU_one HU.out (WW.done rfl)
        subst hv
        subst hF
        have HB4 := Lib.hid b4
        have HR4 := Lib.hid r4
        clear U WW hg LR HM3 HU b4 r4 c0
        go_wp2_with fail
        refine LP.out.mono ?_
        rintro e w5 ⟨O, on, oc, rfl, ho, b5⟩
        have r5 := HR4.out.next b5
        have cR : w5.cell? ⟨w.heap.size + 1, 0, none⟩ = some (.slice none 0 0) := r5.cell 0
        have fR : w5.frozen? ⟨w.heap.size + 1, 0, none⟩ = false := r5.free 0
        have hs4 := HR4.out.lt
        have B5 := next_trans HB4.out b5
        have F := Lib.hid (show AnsUB w (plainL L' 24) true (.returned (.tuple #[.agg #[.slice O on oc], .bool true])) (w5.setCell ⟨w.heap.size + 1, 0, none⟩ (.slice O on oc)) from
          ⟨O, on, oc, rfl, (owns_put ho r5 hs4 0 _).wider (by have := HB4.out.size; omega) (by simp), B5.setCell (p := ⟨w.heap.size + 1, 0, none⟩) (show w.heap.size ≤ w.heap.size + 1 by omega) _⟩)
        clear LP ho b5 r5 HB4 HR4 B5 hs4
        go_wp2
        refine leaves_cons (f := 56) (args := #[]) (by simp) (by simp [go_sem]) ?_
        refine (catch_idle _).mono ?_
        rintro e u' w'' ⟨rfl, rfl, rfl⟩
        exact ⟨.tuple #[.agg #[.slice O on oc], .bool true], by simp [results, Tryz.results26, go_sem, cR], F.out⟩
      · have hs3 : W3.heap.size = w2.heap.size + 1 := by rw [HW3.out]; simp
        have b4 : Below w.heap.size w w4 := HM3.out.b.grown hg (by omega) (fun k hk => by injection hk; omega)
        have r4 := Row.away HM3.out.r1 hg (fun e => by injection e; omega)
        have cR : w4.cell? ⟨w.heap.size + 1, 0, none⟩ = some (.slice none 0 0) := r4.cell 0
        obtain ⟨hv, hF⟩ := isU_one HU.out (isU_no hno)
        subst hv
        subst hF
        have F := Lib.hid (show AnsUB w [] false (.returned (.tuple #[.agg #[.slice none 0 0], .bool false])) w4 from ⟨none, 0, 0, rfl, Owns.nil _ _ _, b4⟩)
        refine leaves_cons (f := 56) (args := #[]) (by simp) (by simp [go_sem]) ?_
        refine (catch_panicking u pv [] w4).mono ?_
        rintro e u' w'' ⟨rfl, rfl, rfl⟩
        exact ⟨.tuple #[.agg #[.slice none 0 0], .bool false], by simp [results, Tryz.results26, go_sem, cR], F.out⟩

end Go.Proofs.YtkmhnkljigncmaaGreat.unifImpl
end

section
/-
  CONTRACTS: spec.l1Into, l2Vars, VarsOf, GroundIn; impl.VarsOf, GroundIn. Conditions: the slices read as lists ('Seg'), at most 1048576 numbers. By an AI agent.
-/
namespace Go.Proofs.YtkmhnkljigncmaaGreat.varsOf
open Go.RowKit Go.Proofs.YtkmhnkljigncmaaGreat.base Go.Proofs.YtkmhnkljigncmaaGreat.ints Go.Proofs.YtkmhnkljigncmaaGreat.sig Go.Proofs.YtkmhnkljigncmaaGreat.term Go.Proofs.YtkmhnkljigncmaaGreat.termOk Go.Proofs.YtkmhnkljigncmaaGreat.marks Go.Proofs.YtkmhnkljigncmaaGreat.app Go.Proofs.YtkmhnkljigncmaaGreat.sym Go.Proofs.YtkmhnkljigncmaaGreat.sub Go.Proofs.YtkmhnkljigncmaaGreat.segs Go.Proofs.YtkmhnkljigncmaaGreat.varsMath Go.Proofs.YtkmhnkljigncmaaGreat.termFacts
set_option maxRecDepth 100000

/-- a slice that reads as these numbers -/
def AnsInto (w : World) (ys : List Int) (e : Ending) (w' : World) : Prop := ∃ b off n c, e = .returned (.slice (some ⟨b, off, none⟩) n c) ∧ Seg w' w'.heap.size (some ⟨b, off, none⟩) n ys ∧ n ≤ c ∧ c ≤ 9223372036854775807 ∧ Below w.heap.size w w'

theorem Seg.pre {w : World} {B n k : Nat} {A : Option Addr} {xs : List Int} (h : Seg w B A n xs) (hk : k ≤ n) : Seg w B A k (xs.take k) := by
  refine ⟨by have := h.1; simp; omega, fun h0 => ?_⟩
  obtain ⟨b, off, e, hb, hc⟩ := h.2 (by omega)
  refine ⟨b, off, e, hb, fun j hj => ?_⟩
  rw [hc j (by omega)]
  simp [List.getD, List.getElem?_take, hj]
theorem Seg.post {w : World} {B n k b off : Nat} {xs : List Int} (h : Seg w B (some ⟨b, off, none⟩) n xs) (hk : k ≤ n) : Seg w B (some ⟨b, off + k, none⟩) (n - k) (xs.drop k) := by
  have h1 := Seg.cut (a := k) (j := n - k) h (by omega)
  rw [List.take_of_length_le (by have := h.1; simp; omega)] at h1
  exact h1
theorem into_ans {w w' : World} {base : Nat} {A : Option Addr} {n c : Nat} {xs ys : List Int} (h : Own w' base (.slice A n c) ys) (hn : 1 ≤ n) (e : ys = xs) (hb : Below w.heap.size w w') : AnsInto w xs (.returned (.slice A n c)) w' := by
  subst e
  have hl := Own.len h
  rcases own_form (n := n) (vs := ys.map (Value.int .i64)) (by rw [hl]; rw [hl] at h; exact h) with ⟨_, e, _⟩ | ⟨g, cur, rfl, _, _, h1, _, h3, _⟩
  · omega
  · exact ⟨g, 0, n, c, rfl, Own.seg h, h1, h3, hb⟩

def HeadInto (n : Nat) (xs : List Int) (x : Int) (i : Value) : Prop := ∃ k : Nat, k ≤ n ∧ i = .int .i64 k ∧ ∀ j, j < k → xs.getD j 0 < x

end Go.Proofs.YtkmhnkljigncmaaGreat.varsOf
end

section
/-
  DERIVED: THE SHELF's CONTRACTS AT THIS DUMP, IN PLAIN WORDS (tools/lay-plain.mjs out of 'YtkmhnkljigncmaaGreatShelfT.lean', which tools/lay-shelf.mjs wrote): THE SAME DECLARATIONS UNDER THE SAME NAMES: 'import', 'namespace', 'open', 'def', 'theorem' AND NOTHING ELSE: no command of the shelf's: FOR A HAND-IN. Each laying: the table of numbers ('.._ren') and one theorem, a field a fact of the dump's own or the kernel's comparison; each contract: ONE APPLICATION.
-/
namespace Go.Proofs
open Go.Shelf
def Tryz.laysSlgn53_ren : Go.Shelf.Ren := ⟨fun | 53 => 49 | 64 => 77 | 63 => 76 | 78 => 95 | 79 => 96 | 70 => 86 | 71 => 87 | 72 => 88 | 73 => 89 | 74 => 90 | 75 => 91 | 59 => 92 | 76 => 93 | 77 => 94 | 88 => 101 | 89 => 102 | 90 => 103 | 91 => 104 | 92 => 105 | 68 => 106 | 96 => 110 | n => n, fun | 22 => 24 | 23 => 2 | 3 => 3 | 51 => 91 | 0 => 0 | 67 => 108 | 69 => 110 | 4 => 4 | 61 => 100 | 60 => 99 | 44 => 105 | 5 => 5 | 9 => 9 | 75 => 115 | 79 => 119 | 83 => 124 | 84 => 125 | n => n, fun | n => n⟩
theorem Tryz.laysSlgn53 : Go.Proofs.SlLaysN.n53 Tryz.prog Tryz.laysSlgn53_ren := {
  mixed := by kernel_rfl
  f53 := ⟨Tryz.f49.name, by decide, Tryz.func49.trans (congrArg some (by kernel_rfl))⟩
  f59 := ⟨Tryz.f92.name, by decide, Tryz.func92.trans (congrArg some (by kernel_rfl))⟩
  f63 := ⟨Tryz.f76.name, by decide, Tryz.func76.trans (congrArg some (by kernel_rfl))⟩
  f64 := Tryz.func77.trans (congrArg some (by kernel_rfl))
  f68 := ⟨Tryz.f106.name, by decide, Tryz.func106.trans (congrArg some (by kernel_rfl))⟩
  f70 := ⟨Tryz.f86.name, by decide, Tryz.func86.trans (congrArg some (by kernel_rfl))⟩
  f71 := ⟨Tryz.f87.name, by decide, Tryz.func87.trans (congrArg some (by kernel_rfl))⟩
  f72 := ⟨Tryz.f88.name, by decide, Tryz.func88.trans (congrArg some (by kernel_rfl))⟩
  f73 := ⟨Tryz.f89.name, by decide, Tryz.func89.trans (congrArg some (by kernel_rfl))⟩
  f74 := ⟨Tryz.f90.name, by decide, Tryz.func90.trans (congrArg some (by kernel_rfl))⟩
  f75 := ⟨Tryz.f91.name, by decide, Tryz.func91.trans (congrArg some (by kernel_rfl))⟩
  f76 := ⟨Tryz.f93.name, by decide, Tryz.func93.trans (congrArg some (by kernel_rfl))⟩
  f77 := ⟨Tryz.f94.name, by decide, Tryz.func94.trans (congrArg some (by kernel_rfl))⟩
  f78 := Tryz.func95.trans (congrArg some (by kernel_rfl))
  f79 := Tryz.func96.trans (congrArg some (by kernel_rfl))
  f88 := ⟨Tryz.f101.name, by decide, Tryz.func101.trans (congrArg some (by kernel_rfl))⟩
  f89 := Tryz.func102.trans (congrArg some (by kernel_rfl))
  f90 := Tryz.func103.trans (congrArg some (by kernel_rfl))
  f91 := ⟨Tryz.f104.name, by decide, Tryz.func104.trans (congrArg some (by kernel_rfl))⟩
  f92 := ⟨Tryz.f105.name, by decide, Tryz.func105.trans (congrArg some (by kernel_rfl))⟩
  f96 := ⟨Tryz.f110.name, by decide, Tryz.func110.trans (congrArg some (by kernel_rfl))⟩
  t0 := Tryz.underlying0
  a0 := Tryz.isAgg0
  z0 := Tryz.sizeOf0
  v0 := Tryz.zeroValue0
  t3 := Tryz.underlying3
  a3 := Tryz.isAgg3
  z3 := Tryz.sizeOf3
  v3 := Tryz.zeroValue3
  t4 := Tryz.underlying4
  a4 := Tryz.isAgg4
  z4 := Tryz.sizeOf4
  v4 := Tryz.zeroValue4
  t5 := Tryz.underlying5
  a5 := Tryz.isAgg5
  z5 := Tryz.sizeOf5
  v5 := Tryz.zeroValue5
  t9 := Tryz.underlying9
  a9 := Tryz.isAgg9
  z9 := Tryz.sizeOf9
  v9 := Tryz.zeroValue9
  t22 := Tryz.underlying24
  a22 := Tryz.isAgg24
  z22 := Tryz.sizeOf24
  v22 := Tryz.zeroValue24
  t23 := Tryz.underlying2
  a23 := Tryz.isAgg2
  z23 := Tryz.sizeOf2
  v23 := Tryz.zeroValue2
  t44 := Tryz.underlying105
  a44 := Tryz.isAgg105
  z44 := Tryz.sizeOf105
  v44 := Tryz.zeroValue105
  t51 := Tryz.underlying91
  a51 := Tryz.isAgg91
  z51 := Tryz.sizeOf91
  v51 := Tryz.zeroValue91
  t60 := Tryz.underlying99
  a60 := Tryz.isAgg99
  z60 := Tryz.sizeOf99
  v60 := Tryz.zeroValue99
  t61 := Tryz.underlying100
  a61 := Tryz.isAgg100
  z61 := Tryz.sizeOf100
  v61 := Tryz.zeroValue100
  t67 := Tryz.underlying108
  a67 := Tryz.isAgg108
  z67 := Tryz.sizeOf108
  v67 := Tryz.zeroValue108
  t69 := Tryz.underlying110
  a69 := Tryz.isAgg110
  z69 := Tryz.sizeOf110
  v69 := Tryz.zeroValue110
  t75 := Tryz.underlying115
  a75 := Tryz.isAgg115
  z75 := Tryz.sizeOf115
  v75 := Tryz.zeroValue115
  t79 := Tryz.underlying119
  a79 := Tryz.isAgg119
  z79 := Tryz.sizeOf119
  v79 := Tryz.zeroValue119
  t83 := Tryz.underlying124
  a83 := Tryz.isAgg124
  z83 := Tryz.sizeOf124
  v83 := Tryz.zeroValue124
  t84 := Tryz.underlying125
  a84 := Tryz.isAgg125
  z84 := Tryz.sizeOf125
  v84 := Tryz.zeroValue125 }
open Go.Sort Go.RowKit in
theorem Tryz.slices_Sort_int (blk off cap : Nat) (zs : List Int) (w : World) (hH : Holds (Value.int .i64) w blk off zs.toArray) (hblk : blk < w.heap.size) (hsz : zs.length < 4611686018427387904) :
    Calls Tryz.prog 49 #[.slice (some ⟨blk, off, none⟩) zs.length cap] w fun e w' => e = .returned (.tuple #[]) ∧ ∃ n os, w' = grow (putRow (Value.int .i64) (Sort.ahead w n) blk off (zs.mergeSort fun x y => decide (x ≤ y)).toArray) os := AnyG.slices_Sort_int Tryz.laysSlgn53 blk off cap zs w hH hblk hsz
open Go.Sort Go.RowKit in
theorem Tryz.slices_Sort_int_none (p : Option Addr) (cap : Nat) (w : World) :
    Calls Tryz.prog 49 #[.slice p 0 cap] w fun e w' => e = .returned (.tuple #[]) ∧ w' = w := AnyG.slices_Sort_int_none Tryz.laysSlgn53 p cap w
def Tryz.laysSlgn43_ren : Go.Shelf.Ren := ⟨fun | 43 => 50 | n => n, fun | 22 => 24 | 23 => 2 | 3 => 3 | 4 => 4 | 0 => 0 | n => n, fun | n => n⟩
theorem Tryz.laysSlgn43 : Go.Proofs.SlLaysN.n43 Tryz.prog Tryz.laysSlgn43_ren := {
  mixed := by kernel_rfl
  f43 := ⟨Tryz.f50.name, by decide, Tryz.func50.trans (congrArg some (by kernel_rfl))⟩
  t0 := Tryz.underlying0
  a0 := Tryz.isAgg0
  z0 := Tryz.sizeOf0
  v0 := Tryz.zeroValue0
  t3 := Tryz.underlying3
  a3 := Tryz.isAgg3
  z3 := Tryz.sizeOf3
  v3 := Tryz.zeroValue3
  t4 := Tryz.underlying4
  a4 := Tryz.isAgg4
  z4 := Tryz.sizeOf4
  v4 := Tryz.zeroValue4
  t22 := Tryz.underlying24
  a22 := Tryz.isAgg24
  z22 := Tryz.sizeOf24
  v22 := Tryz.zeroValue24
  t23 := Tryz.underlying2
  a23 := Tryz.isAgg2
  z23 := Tryz.sizeOf2
  v23 := Tryz.zeroValue2
  i23 := by kernel_rfl }
open Go.Sort Go.RowKit in
theorem Tryz.slices_Compact_int (blk off cap : Nat) (zs : List Int) (w : World) (hH : Holds (Value.int .i64) w blk off zs.toArray) (hsz : zs.length ≤ 9223372036854775807) (hcap : zs.length ≤ cap) :
    Calls Tryz.prog 50 #[.slice (some ⟨blk, off, none⟩) zs.length cap] w fun e w' => e = .returned (.slice (some ⟨blk, off, none⟩) (Lib.compact zs).length cap) ∧ ∃ q, w' = putRow (Value.int .i64) (Sort.ahead w q) blk off (Lib.compact zs ++ List.replicate (zs.length - (Lib.compact zs).length) 0).toArray := AnyG.slices_Compact_int Tryz.laysSlgn43 blk off cap zs w hH hsz hcap
open Go.Sort Go.RowKit in
theorem Tryz.slices_Compact_int_empty (a : Option Addr) (cap : Nat) (w : World) :
    Calls Tryz.prog 50 #[.slice a 0 cap] w fun e w' => e = .returned (.slice a 0 cap) ∧ w' = w := AnyG.slices_Compact_int_empty Tryz.laysSlgn43 a cap w
end Go.Proofs
end

section
/-
  CONTRACTS: slices.Sort and slices.Compact at a slice of int64 of the call's own ('Own'), out of the library's. Conditions: none beyond the slice's. By an AI agent.
-/
namespace Go.Proofs.YtkmhnkljigncmaaGreat.sorted
open Go.RowKit Go.Proofs.YtkmhnkljigncmaaGreat.base Go.Proofs.YtkmhnkljigncmaaGreat.marks Go.Proofs.YtkmhnkljigncmaaGreat.app Go.Proofs.YtkmhnkljigncmaaGreat.sym Go.Proofs.YtkmhnkljigncmaaGreat.appAt Go.Proofs.YtkmhnkljigncmaaGreat.segs
set_option maxRecDepth 100000

theorem row_put {w : World} {g : Nat} {t : TypeId} {cs : Array Value} (h : Row w g t cs) (d : Array Int) : Row (Sort.putRow (Value.int .i64) w g 0 d) g t (Sort.putCells (Value.int .i64) 0 d cs) := by
  unfold Row at h ⊢
  show (w.heap.modify g (Sort.onCells (Sort.putCells (Value.int .i64) 0 d)))[g]? = _
  rw [Array.getElem?_modify, if_pos rfl, h]
  rfl
theorem grown_putRow (w : World) (g q : Nat) (d : Array Int) : w.grownBy (Sort.putRow (Value.int .i64) (Sort.ahead w q) g 0 d) (some g) := by
  refine ⟨rfl, rfl, rfl, ?_, fun i hi hne => ?_⟩
  · show w.heap.size ≤ (w.heap.modify g _).size
    simp
  · show (w.heap.modify g _)[i]? = _
    rw [Array.getElem?_modify, if_neg (fun e => hne (by rw [e]))]
theorem grown_grow {w w' : World} {r : Option Nat} (h : w.grownBy w' r) (os : Array Obj) : w.grownBy (Sort.grow w' os) r := by
  refine ⟨h.os, h.tape, h.output, by rw [Sort.size_grow]; have := h.size; omega, fun i hi hne => ?_⟩
  rw [Sort.heap_grow_old w' os (Nat.lt_of_lt_of_le hi h.size)]
  exact h.block i hi hne
theorem holds_own {w : World} {g : Nat} {t : TypeId} {cs : Array Value} {xs : List Int} (h : Row w g t cs) (hc : ∀ j, j < xs.length → cs[j]? = some ((xs.map (Value.int .i64)).getD j undef)) : Sort.Holds (Value.int .i64) w g 0 xs.toArray := by
  intro j hj
  have hj' : j < xs.length := by simpa using hj
  refine ⟨?_, by rw [Nat.zero_add]; exact h.free j⟩
  rw [Nat.zero_add, h.cell j, hc j hj']
  simp [List.getD, hj']
theorem putCells_get {cs : Array Value} {d : List Int} {j : Nat} (hj : j < d.length) (hs : d.length ≤ cs.size) : (Sort.putCells (Value.int .i64) 0 d.toArray cs)[j]? = some (.int .i64 (d.getD j 0)) := by
  unfold Sort.putCells
  rw [Array.getElem?_mapIdx, Array.getElem?_eq_getElem (by omega)]
  simp [hj, List.getD]

/-- what sorting leaves -/
def AnsSort (w : World) (base : Nat) (A : Option Addr) (n c : Nat) (ys : List Int) (e : Ending) (w' : World) : Prop := e = .returned (.tuple #[]) ∧ Own w' base (.slice A n c) ys ∧ w.grownBy w' (blk A)

def up (xs : List Int) : List Int := xs.mergeSort fun x y => decide (x ≤ y)

theorem sortOwn (base : Nat) (A : Option Addr) (n c : Nat) (xs : List Int) (w : World) (h : Own w base (.slice A n c) xs) (hn : n ≤ 1048576) :
    Calls Tryz.prog 49 #[.slice A n c] w (AnsSort w base A n c (up xs)) := by
  have hl := Own.len h
  subst hl
  rcases own_form (n := xs.length) h with ⟨rfl, h0, rfl, _⟩ | ⟨g, cs, rfl, hb, hr, hnc, hz, hmax, _, hc⟩
  · have hx : xs = [] := List.eq_nil_of_length_eq_zero h0
    subst hx
    refine (Tryz.slices_Sort_int_none none 0 w).mono ?_
    rintro e w' ⟨rfl, rfl⟩
    exact ⟨rfl, by simpa [up] using h, World.grownBy.refl _ _⟩
  · have hH := holds_own hr hc
    refine (Tryz.slices_Sort_int g 0 c xs w hH hr.lt (by omega)).mono ?_
    rintro e w' ⟨rfl, n, os, rfl⟩
    have hyl : (up xs).length = xs.length := List.length_mergeSort _
    refine ⟨rfl, ?_, grown_grow (grown_putRow w g n _) os⟩
    have r1 : Row (Sort.ahead w n) g 2 cs := hr
    have r2 := row_put r1 (up xs).toArray
    have r3 : Row (Sort.grow (Sort.putRow (Value.int .i64) (Sort.ahead w n) g 0 (up xs).toArray) os) g 2 _ := (Sort.heap_grow_old _ os r2.lt).trans r2
    exact Own.of_row r3 hyl (by simp [Sort.putCells, hz]) hnc hmax hb (fun j hj => putCells_get (by omega) (by omega))

theorem compact_le (zs : List Int) : (Lib.compact zs).length ≤ zs.length := by
  unfold Lib.compact Lib.compactUpTo
  rw [List.length_map]
  exact Nat.le_trans (List.length_filter_le _ _) (by simp)

/-- what compacting leaves: a slice of the same row, shorter perhaps -/
def AnsCompact (w : World) (base : Nat) (A : Option Addr) (ys : List Int) (e : Ending) (w' : World) : Prop := ∃ c, e = .returned (.slice A ys.length c) ∧ Own w' base (.slice A ys.length c) ys ∧ w.grownBy w' (blk A)

theorem compactOwn (base : Nat) (A : Option Addr) (n c : Nat) (xs : List Int) (w : World) (h : Own w base (.slice A n c) xs) (hn : n ≤ 1048576) :
    Calls Tryz.prog 50 #[.slice A n c] w (AnsCompact w base A (Lib.compact xs)) := by
  have hl := Own.len h
  subst hl
  rcases own_form (n := xs.length) h with ⟨rfl, h0, rfl, _⟩ | ⟨g, cs, rfl, hb, hr, hnc, hz, hmax, _, hc⟩
  · have hx : xs = [] := List.eq_nil_of_length_eq_zero h0
    subst hx
    refine (Tryz.slices_Compact_int_empty none 0 w).mono ?_
    rintro e w' ⟨rfl, rfl⟩
    exact ⟨0, rfl, h, World.grownBy.refl _ _⟩
  · have hH := holds_own hr hc
    have hle : (Lib.compact xs).length ≤ xs.length := compact_le xs
    refine (Tryz.slices_Compact_int g 0 c xs w hH (by omega) hnc).mono ?_
    rintro e w' ⟨rfl, q, rfl⟩
    refine ⟨c, rfl, ?_, grown_putRow w g q _⟩
    have r1 : Row (Sort.ahead w q) g 2 cs := hr
    have r2 := row_put r1 (Lib.compact xs ++ List.replicate (xs.length - (Lib.compact xs).length) 0).toArray
    refine Own.of_row r2 rfl (by simp [Sort.putCells, hz]) (by omega) hmax hb (fun j hj => ?_)
    rw [putCells_get (by simp; omega) (by simp; omega)]
    simp [List.getD, List.getElem?_append_left hj]
end Go.Proofs.YtkmhnkljigncmaaGreat.sorted
end

section
/-
  PLAIN MATHEMATICS: sorted and compacted, the negative numbers of a list are its variables. Conditions: none. By an AI agent.
-/
namespace Go.Proofs.YtkmhnkljigncmaaGreat.varsMath
open Go.Proofs.YtkmhnkljigncmaaGreat.term Go.Proofs.YtkmhnkljigncmaaGreat.termOk Go.Proofs.YtkmhnkljigncmaaGreat.sorted

theorem compact_cons_cons (x y : Int) (r : List Int) : Lib.compact (x :: y :: r) = if x = y then Lib.compact (y :: r) else x :: Lib.compact (y :: r) := by
  unfold Lib.compact Lib.compactUpTo
  have hr : List.range (x :: y :: r).length = 0 :: (List.range (y :: r).length).map (· + 1) := by
    rw [List.length_cons, List.range_succ_eq_map]
  have hr2 : List.range (y :: r).length = 0 :: (List.range r.length).map (· + 1) := by
    rw [List.length_cons, List.range_succ_eq_map]
  have k0 : Lib.keeps (x :: y :: r).toArray 0 = true := by simp [Lib.keeps]
  have k0' : Lib.keeps (y :: r).toArray 0 = true := by simp [Lib.keeps]
  have ks : ∀ j, Lib.keeps (x :: y :: r).toArray (j + 1 + 1) = Lib.keeps (y :: r).toArray (j + 1) := fun j => by
    simp [Lib.keeps]
  have gs : ∀ j, (x :: y :: r).toArray[j + 1]! = (y :: r).toArray[j]! := fun j => by simp
  rw [hr, hr2]
  simp only [List.map_cons, List.filter_cons, k0, k0', if_true, List.filter_map, List.map_map]
  have e1 : Lib.keeps (x :: y :: r).toArray ∘ (fun (j : Nat) => j + 1) ∘ (fun (j : Nat) => j + 1) = Lib.keeps (y :: r).toArray ∘ fun (j : Nat) => j + 1 := by
    funext j
    exact ks j
  have k1 : Lib.keeps (x :: y :: r).toArray (0 + 1) = decide (¬ x = y) := by
    simp [Lib.keeps, eq_comm]
  rw [e1, k1]
  have e2 : (fun j => (x :: y :: r).toArray[j]!) ∘ (fun (j : Nat) => j + 1) ∘ (fun (j : Nat) => j + 1) = (fun j => (y :: r).toArray[j]!) ∘ fun (j : Nat) => j + 1 := by
    funext j
    exact gs (j + 1)
  by_cases h : x = y
  · subst h
    simp [List.map_map, e2]
  · simp [h, List.map_map, e2]
theorem compact_one (x : Int) : Lib.compact [x] = [x] := by simp [Lib.compact, Lib.compactUpTo, Lib.keeps, List.range_succ]
theorem compact_nil : Lib.compact ([] : List Int) = [] := rfl
theorem compact_sorted : ∀ {l : List Int}, l.Pairwise (· ≤ ·) → Rises (Lib.compact l) ∧ (∀ x, x ∈ Lib.compact l ↔ x ∈ l)
  | [], _ => ⟨List.Pairwise.nil, fun x => by rw [compact_nil]⟩
  | [y], _ => ⟨by rw [compact_one]; simp [Rises], fun x => by rw [compact_one]⟩
  | x :: y :: r, h => by
    have h1 := List.pairwise_cons.1 h
    obtain ⟨h2, h3⟩ := compact_sorted h1.2
    rw [compact_cons_cons]
    by_cases e : x = y
    · subst e
      rw [if_pos rfl]
      exact ⟨h2, fun z => by rw [h3]; simp⟩
    · rw [if_neg e]
      refine ⟨List.pairwise_cons.2 ⟨fun z hz => ?_, h2⟩, fun z => by rw [List.mem_cons, h3, List.mem_cons (a := z) (b := x)]⟩
      have h4 := h1.1 y (List.mem_cons_self ..)
      rcases List.mem_cons.1 ((h3 z).1 hz) with e2 | e2
      · omega
      · have := (List.pairwise_cons.1 h1.2).1 z e2
        omega
theorem up_sorted (l : List Int) : (up l).Pairwise (· ≤ ·) := by
  have := List.pairwise_mergeSort (le := fun x y => decide (x ≤ y)) (fun a b c h1 h2 => by simp at *; omega) (fun a b => by simp; omega) l
  refine this.imp (fun h => ?_)
  simpa using h
theorem up_mem {l : List Int} {x : Int} : x ∈ up l ↔ x ∈ l := by unfold up; exact List.mem_mergeSort
theorem sorted_vars (t : List Int) : Lib.compact (up (negs t)) = vars t := by
  have h := compact_sorted (up_sorted (negs t))
  refine rises_unique h.1 (vars_rises t) (fun x => ?_)
  rw [h.2, up_mem, vars_mem]
end Go.Proofs.YtkmhnkljigncmaaGreat.varsMath
end

section
/-
  CONTRACTS: spec.l2Vars, VarsOf, GroundIn; impl.VarsOf, GroundIn. Conditions: the slices read as lists ('Seg'), at most 1048576 numbers. By an AI agent.
-/
namespace Go.Proofs.YtkmhnkljigncmaaGreat.varsOf
open Go.RowKit Go.Proofs.YtkmhnkljigncmaaGreat.base Go.Proofs.YtkmhnkljigncmaaGreat.ints Go.Proofs.YtkmhnkljigncmaaGreat.sig Go.Proofs.YtkmhnkljigncmaaGreat.term Go.Proofs.YtkmhnkljigncmaaGreat.termOk Go.Proofs.YtkmhnkljigncmaaGreat.marks Go.Proofs.YtkmhnkljigncmaaGreat.app Go.Proofs.YtkmhnkljigncmaaGreat.sym Go.Proofs.YtkmhnkljigncmaaGreat.sub Go.Proofs.YtkmhnkljigncmaaGreat.segs Go.Proofs.YtkmhnkljigncmaaGreat.sorted Go.Proofs.YtkmhnkljigncmaaGreat.varsMath Go.Proofs.YtkmhnkljigncmaaGreat.termFacts
set_option maxRecDepth 100000

/-- the head of the loop over the numbers -/
def HeadVars (w : World) (m : Nat) (t : List Int) (out i : Value) (wr : World) : Prop :=
  ∃ (k b off n c : Nat), k ≤ m ∧ i = .int .i64 k ∧ out = .slice (some ⟨b, off, none⟩) n c ∧ Seg wr wr.heap.size (some ⟨b, off, none⟩) n (vars (t.take k)) ∧ n ≤ c ∧ c ≤ 9223372036854775807 ∧ n ≤ m ∧ Below w.heap.size w wr
theorem vars_seg_len {t : List Int} {m k n : Nat} {w : World} {B : Nat} {A : Option Addr} (hm : t.length = m) (h : Seg w B A n (vars (t.take k))) : n ≤ m := by
  have h1 := vars_len (t.take k)
  have h2 := h.1
  simp at h1
  omega

/-- a slice that reads as these numbers, with its bounds -/
def AnsSeg (w : World) (ys : List Int) (e : Ending) (w' : World) : Prop := ∃ A n c, e = .returned (.slice A n c) ∧ Seg w' w'.heap.size A n ys ∧ Below w.heap.size w w'

/-- the head of the loop that collects -/
def HeadNegs (w : World) (A : Option Addr) (n c m : Nat) (t : List Int) (out i : Value) (wr : World) : Prop :=
  ∃ (k : Nat) (O : Option Addr) (on oc : Nat), k ≤ m ∧ i = .int .i64 k ∧ out = .slice O on oc ∧ Own wr (w.heap.size + 1) (.slice O on oc) (negs (t.take k)) ∧ Row wr w.heap.size 26 #[.slice A n c] ∧ Below w.heap.size w wr

set_option maxHeartbeats 2000000 in
theorem implVarsOf (A A' : Option Addr) (n c m c' : Nat) (sg t : List Int) (w : World) (h : Seg w w.heap.size A n sg) (h' : Seg w w.heap.size A' m t) (hn : n ≤ 1048576) (hm : m ≤ 1048576) :
    Calls Tryz.prog 22 #[.agg #[.slice A n c], .slice A' m c'] w (AnsList w (varsI sg t)) := by
  obtain ⟨W, hW⟩ : ∃ W, W = w.alloc (.cells #[.slice A n c] 26) := ⟨_, rfl⟩
  have rA : Row W w.heap.size 26 #[.slice A n c] := by rw [hW]; exact Row.new _ _ _
  have bel : Below w.heap.size w W := by rw [hW]; exact (Below.refl _ _).alloc (Nat.le_refl _) _
  have s := (h.below bel).more bel.size
  have s' := (h'.below bel).more bel.size
  have HW := Lib.hid hW
  have HL := Lib.hid h'.1
  have L := Lib.hid (implTermOk A A' n c m c' sg t W s s' hn hm)
  clear hW h s
  cases hok : termOkB sg t with
  | false =>
    have HS := Lib.hid hok
    clear hok s' h'
    go_enter Tryz.func22, Tryz.ntmps22
    go_wp2_with fail
    rw [← HW.out]
    refine L.out.mono ?_
    rintro e w1 ⟨he, bb⟩
    rw [HS.out] at he
    subst he
    have F : AnsList w (varsI sg t) (.returned (.slice none 0 0)) w1 := ⟨_, _, _, rfl, by unfold varsI; rw [if_neg (by rw [HS.out]; simp)]; exact Own.nil _ _, next_trans bel bb⟩
    have HF := Lib.hid F
    clear F bb bel rA
    go_wp2
    go_ret
    exact HF.out
  | true =>
    have HS := Lib.hid hok
    have HV := Lib.hid (fun x hx => (term_mem (x := x) hok hx).1)
    clear hok s'
    go_enter Tryz.func22, Tryz.ntmps22
    go_wp2_with fail
    rw [← HW.out]
    refine L.out.mono ?_
    rintro e w1 ⟨he, bb⟩
    rw [HS.out] at he
    subst he
    have S0 : HeadNegs w A n c m t (.slice none 0 0) (.int .i64 0) w1 := ⟨0, _, _, _, Nat.zero_le _, rfl, rfl, by simpa [negs] using Own.nil w1 (w.heap.size + 1), rA.next bb, next_trans bel bb⟩
    have HS0 := Lib.hid S0
    clear S0 bb bel rA L
    go_wp2_with fail
    go_loopw [5, 14] (fun out i wr => HeadNegs w A n c m t out i wr) (fun _ i _ => m - (intOf i).toNat)
    case atStart => exact HS0.out
    case round =>
      obtain ⟨k, O, on, oc, hk, rfl, rfl, ho, hr, hb⟩ := hrel
      clear HS0
      have hon : on ≤ m := by have h1 := Own.len ho; have h2 := negs_len (t.take k); simp at h2; have h3 := HL.out; omega
      by_cases hlt : k < m
      · obtain ⟨b, off, x, rfl, hbb, hx, ex⟩ := h'.spot hlt
        have hx1 : wr.cell? ⟨b, off + k, none⟩ = some (.int .i64 x) := (hb.cell (p := ⟨b, off + k, none⟩) hbb).trans hx
        have hsz := hr.lt
        have hmem : x ∈ t := by
          have hkl : k < t.length := by rw [HL.out]; exact hlt
          have := ex.out
          rw [← this]
          simp [List.getD, hkl]
        have hx24 : -24 ≤ x := HV.out x hmem
        clear hmem hx h'
        by_cases hneg : x < 0
        · have E := Lib.hid (negs_yes (t := t) (k := k) (by rw [HL.out]; exact hlt) ex.out hneg)
          clear ex
          go_wp2_with (at_builtin; refine app1 rfl _ _ rfl (w.heap.size + 1) O on oc (negs (t.take k)) rfl (Own.alloc ho _) wr.heap.size 1 (-1 - x) rfl ((Row.new _ _ _).cell 0) (by omega) (by simp; omega) ?_; intro O' oc' w2 ho2 b2)
          have S : HeadNegs w A n c m t (.slice O' (on + 1) oc') (.int .i64 ((k : Int) + 1)) w2 := ⟨k + 1, O', on + 1, oc', hlt, by simp, rfl, by rw [E.out]; exact ho2, ((hr.alloc _).below b2 (Nat.lt_succ_self _)), ((hb.alloc (Nat.le_of_lt hsz) _).trans (b2.mono (Nat.le_succ _)))⟩
          replace S := Lib.hid S
          clear ho2 b2 ho hr hb
          go_wp2
          go_roundw
          case rel => exact S.out
          case measure => simp [intOf]; omega
        · rw [← negs_no (t := t) (k := k) (by rw [HL.out]; exact hlt) ex.out hneg] at ho
          have S : HeadNegs w A n c m t (.slice O on oc) (.int .i64 ((k : Int) + 1)) wr := ⟨k + 1, O, on, oc, hlt, by simp, rfl, ho, hr, hb⟩
          replace S := Lib.hid S
          clear ho hr hb ex
          go_wp2
          go_roundw
          case rel => exact S.out
          case measure => simp [intOf]; omega
      · rw [List.take_of_length_le (by rw [HL.out]; omega)] at ho
        have hge := Own.ge ho
        have hsz := hr.lt
        have L2 := Lib.hid (sortOwn (w.heap.size + 1) O on oc (negs t) wr ho (by omega))
        clear ho hr h'
        go_wp2_with fail
        refine L2.out.mono ?_
        rintro e w2 ⟨rfl, o2, g2⟩
        have b2 := hb.grown g2 hb.size (fun k hk => by have := hge k hk; omega)
        have L3 := Lib.hid (compactOwn (w.heap.size + 1) O on oc (up (negs t)) w2 o2 (by omega))
        clear o2 g2 L2 hb
        go_wp2_with fail
        refine L3.out.mono ?_
        rintro e w3 ⟨c3, rfl, o3, g3⟩
        have b3 := b2.grown g3 b2.size (fun k hk => by have := hge k hk; omega)
        have F : AnsList w (varsI sg t) (.returned (.slice O (Lib.compact (up (negs t))).length c3)) w3 := ⟨O, _, c3, rfl, by unfold varsI; rw [if_pos HS.out, ← sorted_vars t]; exact Own.lower o3 (Nat.le_succ _), b3⟩
        have HF := Lib.hid F
        clear F o3 g3 b2 b3 L3 hge
        go_wp2
        go_ret
        exact HF.out

/-! ### GroundIn -/
def groundB (sg t : List Int) : Bool := termOkB sg t && decide ((vars t).length = 0)

end Go.Proofs.YtkmhnkljigncmaaGreat.varsOf
end

section
/-
  CONTRACT of spec.l1Max. Conditions: none. By an AI agent.
-/
namespace Go.Proofs.YtkmhnkljigncmaaGreat.maxi
open Go.RowKit Go.Proofs.YtkmhnkljigncmaaGreat.base
theorem max_any (x y : Int) (w : World) : Calls Tryz.prog 54 #[.int .i64 x, .int .i64 y] w fun e w' => w = w' ∧ e = .returned (.int .i64 (max x y)) := by
  by_cases h : y < x
  · have e : max x y = x := by omega
    rw [e]
    go_enter Tryz.func54, Tryz.ntmps54
    go_wp2
    go_ret
    exact ⟨rfl, rfl⟩
  · have e : max x y = y := by omega
    rw [e]
    go_enter Tryz.func54, Tryz.ntmps54
    go_wp2
    go_ret
    exact ⟨rfl, rfl⟩
end Go.Proofs.YtkmhnkljigncmaaGreat.maxi
end

section
/-
  CONTRACTS: spec.l5Behind, BehindOf, impl.BehindOf. Conditions: the slices read as lists ('Seg'), at most 1048576 numbers. By an AI agent.
-/
namespace Go.Proofs.YtkmhnkljigncmaaGreat.behind
open Go.RowKit Go.Proofs.YtkmhnkljigncmaaGreat.base Go.Proofs.YtkmhnkljigncmaaGreat.ints Go.Proofs.YtkmhnkljigncmaaGreat.sig Go.Proofs.YtkmhnkljigncmaaGreat.term Go.Proofs.YtkmhnkljigncmaaGreat.termOk Go.Proofs.YtkmhnkljigncmaaGreat.marks Go.Proofs.YtkmhnkljigncmaaGreat.app Go.Proofs.YtkmhnkljigncmaaGreat.sym Go.Proofs.YtkmhnkljigncmaaGreat.varsMath Go.Proofs.YtkmhnkljigncmaaGreat.termFacts Go.Proofs.YtkmhnkljigncmaaGreat.varsOf Go.Proofs.YtkmhnkljigncmaaGreat.maxi
set_option maxRecDepth 100000

/-- the largest variable number plus 1; 0 where there is none -/
def behindL (t : List Int) : Int := t.foldl (fun n x => max n (-x)) 0
def behindI (sg t : List Int) : Int := if termOkB sg t = true then behindL t else -1
theorem behind_take {t : List Int} {k : Nat} {x : Int} (hk : k < t.length) (hx : t.getD k 0 = x) : behindL (t.take (k + 1)) = max (behindL (t.take k)) (-x) := by
  unfold behindL
  rw [take_snoc hk hx, List.foldl_append]
  rfl
theorem fold_max : ∀ (t : List Int) (z : Int), (z ≤ t.foldl (fun n x => max n (-x)) z ∧ ∀ x ∈ t, -x ≤ t.foldl (fun n x => max n (-x)) z) ∧ (t.foldl (fun n x => max n (-x)) z = z ∨ ∃ x ∈ t, t.foldl (fun n x => max n (-x)) z = -x)
  | [], z => ⟨⟨Int.le_refl _, fun x hx => absurd hx (List.not_mem_nil)⟩, .inl rfl⟩
  | y :: r, z => by
    obtain ⟨⟨h1, h2⟩, h3⟩ := fold_max r (max z (-y))
    rw [List.foldl_cons]
    refine ⟨⟨by omega, fun x hx => ?_⟩, ?_⟩
    · rcases List.mem_cons.1 hx with rfl | hx
      · omega
      · exact h2 x hx
    · rcases h3 with h3 | ⟨x, hx, h3⟩
      · rw [h3]
        by_cases h : z < -y
        · exact .inr ⟨y, List.mem_cons_self .., by omega⟩
        · exact .inl (by omega)
      · exact .inr ⟨x, List.mem_cons_of_mem _ hx, h3⟩
/-- what a pass over a rising list gives -/
def lastP (ys : List Int) (k : Nat) : Int := if k = 0 then 0 else ys.getD (k - 1) 0 + 1
theorem lastP_succ {ys : List Int} {k : Nat} {x : Int} (hx : ys.getD k 0 = x) : lastP ys (k + 1) = x + 1 := by
  unfold lastP
  rw [if_neg (by omega), Nat.add_sub_cancel, hx]
theorem neg_mem {t : List Int} {i : Int} : i ∈ vars t ↔ -1 - i ∈ t ∧ 0 ≤ i := by
  rw [vars_mem]
  unfold negs
  rw [List.mem_map]
  constructor
  · rintro ⟨x, hx, rfl⟩
    obtain ⟨h1, h2⟩ := List.mem_filter.1 hx
    have h2 : x < 0 := by simpa using h2
    exact ⟨by rw [show -1 - (-1 - x) = x by omega]; exact h1, by omega⟩
  · rintro ⟨h1, h2⟩
    exact ⟨-1 - i, List.mem_filter.2 ⟨h1, by simp; omega⟩, by omega⟩
theorem behind_last (t : List Int) : lastP (vars t) (vars t).length = behindL t := by
  obtain ⟨⟨h1, h2⟩, h3⟩ := fold_max t 0
  have h0 : behindL t = t.foldl (fun n x => max n (-x)) 0 := rfl
  rw [← h0] at h1 h2 h3
  by_cases hz : (vars t).length = 0
  · have he := List.eq_nil_of_length_eq_zero hz
    unfold lastP
    rw [if_pos hz]
    rcases h3 with h3 | ⟨x, hx, h3⟩
    · exact h3.symm
    · have : ¬ x < 0 := fun hn => by
        have := (neg_mem (t := t) (i := -1 - x)).2 ⟨by rw [show -1 - (-1 - x) = x by omega]; exact hx, by omega⟩
        rw [he] at this
        exact absurd this (List.not_mem_nil)
      omega
  · unfold lastP
    rw [if_neg hz]
    have hl : (vars t).length - 1 < (vars t).length := by omega
    have hm : (vars t).getD ((vars t).length - 1) 0 ∈ vars t := by simp [List.getD, hl]
    have hr := vars_rises t
    obtain ⟨m1, m2⟩ := neg_mem.1 hm
    have a1 := h2 _ m1
    rcases h3 with h3 | ⟨x, hx, h3⟩
    · omega
    · by_cases hn : x < 0
      · have hv := (neg_mem (t := t) (i := -1 - x)).2 ⟨by rw [show -1 - (-1 - x) = x by omega]; exact hx, by omega⟩
        obtain ⟨j, hj, ej⟩ := List.getElem_of_mem hv
        have hle : -1 - x ≤ (vars t).getD ((vars t).length - 1) 0 := by
          rw [← ej]
          simp only [List.getD, hl, List.getElem?_eq_getElem, Option.getD_some]
          by_cases e : j = (vars t).length - 1
          · subst e; exact Int.le_refl _
          · exact Int.le_of_lt (List.pairwise_iff_getElem.1 hr j _ hj hl (by omega))
        omega
      · omega
theorem behind_ok {sg t : List Int} (h : termOkB sg t = true) : 0 ≤ behindL t ∧ behindL t ≤ 24 := by
  obtain ⟨⟨h1, _⟩, h3⟩ := fold_max t 0
  have h0 : behindL t = t.foldl (fun n x => max n (-x)) 0 := rfl
  rw [← h0] at h1 h3
  refine ⟨h1, ?_⟩
  rcases h3 with h3 | ⟨x, hx, h3⟩
  · omega
  · have := (term_mem h hx).1
    omega
theorem behindI_bd (sg t : List Int) : -1 ≤ behindI sg t ∧ behindI sg t ≤ 24 := by
  unfold behindI
  split
  · rename_i h; have := behind_ok h; omega
  · omega

def HeadB (m : Nat) (t : List Int) (n i : Value) (w wr : World) : Prop := ∃ k : Nat, k ≤ m ∧ i = .int .i64 k ∧ n = .int .i64 (behindL (t.take k)) ∧ w = wr
set_option maxHeartbeats 1000000 in
theorem l5Behind (A : Option Addr) (m c : Nat) (t : List Int) (w : World) (h : Seg w w.heap.size A m t) (hm : m ≤ 1048576) (hv : ∀ x ∈ t, -24 ≤ x ∧ x ≤ 8) :
    Calls Tryz.prog 24 #[.slice A m c] w fun e w' => w = w' ∧ e = .returned (.int .i64 (behindL t)) := by
  have HL := Lib.hid h.1
  have HV := Lib.hid hv
  have HH := Lib.hid (show HeadB m t (.int .i64 0) (.int .i64 0) w w from ⟨0, Nat.zero_le _, rfl, rfl, rfl⟩)
  clear hv
  go_enter Tryz.func24, Tryz.ntmps24
  go_wp2_with fail
  go_loopw [3, 4] (fun n i wr => HeadB m t n i w wr) (fun _ i _ => m - (intOf i).toNat)
  case atStart => exact HH.out
  case round =>
    obtain ⟨k, hk, rfl, rfl, rfl⟩ := hrel
    clear HH
    by_cases hlt : k < m
    · obtain ⟨b, off, x, rfl, -, hx, ex⟩ := h.spot hlt
      have hkl : k < t.length := by rw [HL.out]; exact hlt
      have hmem : x ∈ t := by
        rw [← ex.out]
        simp [List.getD, hkl]
      obtain ⟨v1, v2⟩ := HV.out x hmem
      have E := Lib.hid (behind_take hkl ex.out)
      have S : HeadB m t (.int .i64 (max (behindL (t.take k)) (-x))) (.int .i64 ((k : Int) + 1)) w w := ⟨k + 1, hlt, by simp, by rw [E.out], rfl⟩
      have HS := Lib.hid S
      clear S E h hmem hkl ex
      go_wp2_with fail
      refine (max_any _ _ _).mono ?_
      rintro e w' ⟨rfl, rfl⟩
      go_wp2
      go_roundw
      case rel => exact HS.out
      case measure => simp [intOf]; omega
    · have F : behindL (t.take k) = behindL t := by rw [List.take_of_length_le (by rw [HL.out]; omega)]
      have HF := Lib.hid F
      clear F h
      go_wp2
      go_ret
      exact ⟨rfl, by rw [← HF.out]; rfl⟩

/-- what is told -/
def AnsI (w : World) (z : Int) (e : Ending) (w' : World) : Prop := e = .returned (.int .i64 z) ∧ Below w.heap.size w w'
set_option maxHeartbeats 1000000 in
theorem specBehindOf (A A' : Option Addr) (n c m c' : Nat) (sg t : List Int) (w : World) (h : Seg w w.heap.size A n sg) (h' : Seg w w.heap.size A' m t) (hn : n ≤ 1048576) (hm : m ≤ 1048576) :
    Calls Tryz.prog 10 #[.agg #[.slice A n c], .slice A' m c'] w (AnsI w (behindI sg t)) := by
  obtain ⟨W, hW⟩ : ∃ W, W = w.alloc (.cells #[.slice A n c] 26) := ⟨_, rfl⟩
  have bel : Below w.heap.size w W := by rw [hW]; exact (Below.refl _ _).alloc (Nat.le_refl _) _
  have s := h.next bel
  have s1 := h'.next bel
  have L := Lib.hid (specTermOk A A' n c m c' sg t W s s1 hn hm)
  have HW := Lib.hid hW
  clear hW h h'
  cases hok : termOkB sg t with
  | false =>
    have F := Lib.hid (show behindI sg t = -1 by unfold behindI; rw [if_neg (by rw [hok]; simp)])
    have HS := Lib.hid hok
    clear hok s s1
    go_enter Tryz.func10, Tryz.ntmps10
    go_wp2_with fail
    rw [← HW.out]
    refine L.out.mono ?_
    rintro e w1 ⟨he, bb⟩
    rw [HS.out] at he
    subst he
    have B := Lib.hid (next_trans bel bb)
    clear bb bel L
    go_wp2
    go_ret
    exact ⟨by rw [F.out]; rfl, B.out⟩
  | true =>
    have F := Lib.hid (show behindI sg t = behindL t by unfold behindI; rw [if_pos hok])
    have HS := Lib.hid hok
    clear hok
    go_enter Tryz.func10, Tryz.ntmps10
    go_wp2_with fail
    rw [← HW.out]
    refine L.out.mono ?_
    rintro e w1 ⟨he, bb⟩
    rw [HS.out] at he
    subst he
    have B := Lib.hid (next_trans bel bb)
    have LB := Lib.hid (l5Behind A' m c' t w1 (s1.next bb) hm (fun x hx => by have := term_mem HS.out hx; omega))
    clear bb bel L s s1
    go_wp2_with fail
    refine LB.out.mono ?_
    rintro e w2 ⟨rfl, rfl⟩
    go_wp2
    go_ret
    exact ⟨by rw [F.out]; rfl, B.out⟩

def HeadL (w : World) (m : Nat) (ys : List Int) (z i : Value) (wr : World) : Prop := ∃ k : Nat, k ≤ m ∧ i = .int .i64 k ∧ z = .int .i64 (lastP ys k) ∧ Below w.heap.size w wr
set_option maxHeartbeats 1000000 in
theorem implBehindOf (A A' : Option Addr) (n c m c' : Nat) (sg t : List Int) (w : World) (h : Seg w w.heap.size A n sg) (h' : Seg w w.heap.size A' m t) (hn : n ≤ 1048576) (hm : m ≤ 1048576) :
    Calls Tryz.prog 9 #[.agg #[.slice A n c], .slice A' m c'] w (AnsI w (behindI sg t)) := by
  obtain ⟨W, hW⟩ : ∃ W, W = w.alloc (.cells #[.slice A n c] 26) := ⟨_, rfl⟩
  have bel : Below w.heap.size w W := by rw [hW]; exact (Below.refl _ _).alloc (Nat.le_refl _) _
  have r0 : Row W w.heap.size 26 #[.slice A n c] := by rw [hW]; exact Row.new _ _ _
  have s := h.next bel
  have s1 := h'.next bel
  have L := Lib.hid (implTermOk A A' n c m c' sg t W s s1 hn hm)
  have HW := Lib.hid hW
  clear hW h h'
  cases hok : termOkB sg t with
  | false =>
    have F := Lib.hid (show behindI sg t = -1 by unfold behindI; rw [if_neg (by rw [hok]; simp)])
    have HS := Lib.hid hok
    clear hok s s1 r0
    go_enter Tryz.func9, Tryz.ntmps9
    go_wp2_with fail
    rw [← HW.out]
    refine L.out.mono ?_
    rintro e w1 ⟨he, bb⟩
    rw [HS.out] at he
    subst he
    have B := Lib.hid (next_trans bel bb)
    clear bb bel L
    go_wp2
    go_ret
    exact ⟨by rw [F.out]; rfl, B.out⟩
  | true =>
    have F := Lib.hid (show behindI sg t = behindL t by unfold behindI; rw [if_pos hok])
    have HS := Lib.hid hok
    have hvs : varsI sg t = vars t := by unfold varsI; rw [if_pos hok]
    clear hok
    go_enter Tryz.func9, Tryz.ntmps9
    go_wp2_with fail
    rw [← HW.out]
    refine L.out.mono ?_
    rintro e w1 ⟨he, bb⟩
    rw [HS.out] at he
    subst he
    have LV := Lib.hid (implVarsOf A A' n c m c' sg t w1 (s.next bb) (s1.next bb) hn hm)
    replace r0 := r0.next bb
    have c0 : w1.cell? ⟨w.heap.size, 0, none⟩ = some (.slice A n c) := r0.cell 0
    have B := Lib.hid (next_trans bel bb)
    clear bb bel L s s1 r0
    go_wp2_with fail
    refine LV.out.mono ?_
    rintro e w2 ⟨O, on, oc, rfl, ho, bb⟩
    rw [hvs] at ho
    have so := Own.seg ho
    have HB := Lib.hid (next_trans B.out bb)
    have HL := Lib.hid so.1
    have h24 : on ≤ 60 := by rw [← so.1]; exact Nat.le_trans (vars_len t) (term_len HS.out).2
    have hv := Lib.hid (fun x (hx : x ∈ vars t) => by have h1 := neg_mem.1 hx; have h2 := term_mem HS.out h1.1; exact (⟨by omega, by omega⟩ : 0 ≤ x ∧ x < 24))
    have HBL := Lib.hid (behind_last t)
    clear bb ho LV c0 hvs B
    have HH := Lib.hid (show HeadL w2 on (vars t) (.int .i64 0) (.int .i64 0) w2 from ⟨0, Nat.zero_le _, rfl, rfl, Below.refl _ _⟩)
    go_wp2_with fail
    go_loopw [5, 16] (fun z i wr => HeadL w2 on (vars t) z i wr) (fun _ i _ => on - (intOf i).toNat)
    case atStart => exact HH.out
    case round =>
      obtain ⟨k, hk, rfl, rfl, hb⟩ := hrel
      clear HH
      by_cases hlt : k < on
      · obtain ⟨b, off, x, rfl, hbb, hx0, ex⟩ := so.spot hlt
        have hx : wr.cell? ⟨b, off + k, none⟩ = some (.int .i64 x) := (hb.cell (p := ⟨b, off + k, none⟩) hbb).trans hx0
        have hkl : k < (vars t).length := by rw [HL.out]; exact hlt
        have hmem : x ∈ vars t := by
          rw [← ex.out]
          simp [List.getD, hkl]
        obtain ⟨v1, v2⟩ := hv.out x hmem
        have S : HeadL w2 on (vars t) (.int .i64 (x + 1)) (.int .i64 ((k : Int) + 1)) wr := ⟨k + 1, hlt, by simp, by rw [lastP_succ ex.out], hb⟩
        have HS1 := Lib.hid S
        clear S ex hmem hkl so hx0 hb
        go_wp2
        go_roundw
        case rel => exact HS1.out
        case measure => simp [intOf]; omega
      · have hz : lastP (vars t) k = behindL t := by rw [← HBL.out, HL.out]; congr 1; omega
        have HZ := Lib.hid hz
        have HB2 := Lib.hid (next_trans HB.out hb)
        clear hz so hb
        go_wp2
        go_ret
        exact ⟨by rw [F.out, ← HZ.out]; rfl, HB2.out⟩
end Go.Proofs.YtkmhnkljigncmaaGreat.behind
end

section
/-
  CONTRACTS: spec.UnifiedApart, impl.UnifiedApart. Conditions: the slices read as lists ('Seg'), at most 1048576 numbers; what is told is given ('IsA'). (By wip/tools/mkapart.py.) By an AI agent.
-/
namespace Go.Proofs.YtkmhnkljigncmaaGreat.apart5
open Go.RowKit Go.Proofs.YtkmhnkljigncmaaGreat.base Go.Proofs.YtkmhnkljigncmaaGreat.ints Go.Proofs.YtkmhnkljigncmaaGreat.sig Go.Proofs.YtkmhnkljigncmaaGreat.term Go.Proofs.YtkmhnkljigncmaaGreat.termOk Go.Proofs.YtkmhnkljigncmaaGreat.termFacts Go.Proofs.YtkmhnkljigncmaaGreat.endAt Go.Proofs.YtkmhnkljigncmaaGreat.cursor Go.Proofs.YtkmhnkljigncmaaGreat.marks Go.Proofs.YtkmhnkljigncmaaGreat.segs Go.Proofs.YtkmhnkljigncmaaGreat.segsHelp Go.Proofs.YtkmhnkljigncmaaGreat.kinds Go.Proofs.YtkmhnkljigncmaaGreat.fillMath Go.Proofs.YtkmhnkljigncmaaGreat.look Go.Proofs.YtkmhnkljigncmaaGreat.shifted Go.Proofs.YtkmhnkljigncmaaGreat.plain Go.Proofs.YtkmhnkljigncmaaGreat.unifMath Go.Proofs.YtkmhnkljigncmaaGreat.unified Go.Proofs.YtkmhnkljigncmaaGreat.unifImpl Go.Proofs.YtkmhnkljigncmaaGreat.behind
set_option maxRecDepth 100000

/-- what is told: of the first and of the second, shifted behind the variables of the first -/
def IsA (sg a b : List Int) (v : Bool) (F : List (List Int)) : Prop :=
  (shiftedB sg b (behindI sg a) = true ∧ IsU sg a (shiftedL sg b (behindI sg a)) v F) ∨ (shiftedB sg b (behindI sg a) = false ∧ v = false ∧ F = [])
theorem isA_ex (sg a b : List Int) : ∃ v F, IsA sg a b v F := by
  cases h : shiftedB sg b (behindI sg a) with
  | true =>
    obtain ⟨v, F, hU⟩ := isU_ex sg a (shiftedL sg b (behindI sg a))
    exact ⟨v, F, .inl ⟨h, hU⟩⟩
  | false => exact ⟨false, [], .inr ⟨h, rfl, rfl⟩⟩
theorem isA_off {sg a b : List Int} {v : Bool} {F : List (List Int)} (h : IsA sg a b v F) (hs : shiftedB sg b (behindI sg a) = false) : v = false ∧ F = [] := by
  rcases h with ⟨e, _⟩ | ⟨_, h⟩
  · rw [hs] at e; cases e
  · exact h
theorem isA_on {sg a b : List Int} {v : Bool} {F : List (List Int)} (h : IsA sg a b v F) (hs : shiftedB sg b (behindI sg a) = true) : IsU sg a (shiftedL sg b (behindI sg a)) v F := by
  rcases h with ⟨_, h⟩ | ⟨e, _⟩
  · exact h
  · rw [hs] at e; cases e
theorem behind_no {sg a : List Int} (h : termOkB sg a = false) : behindI sg a = -1 := by unfold behindI; rw [if_neg (by rw [h]; simp)]
theorem behind_yes {sg a : List Int} (h : termOkB sg a = true) : behindI sg a = behindL a := by unfold behindI; rw [if_pos h]
theorem isA_bad {sg a b : List Int} {v : Bool} {F : List (List Int)} (h : IsA sg a b v F) (ha : termOkB sg a = false) : v = false ∧ F = [] :=
  isA_off h (shifted_no (.inr (.inl (by rw [behind_no ha]; omega))))
theorem shiftedL_len (sg b : List Int) (k : Int) : (shiftedL sg b k).length ≤ 60 := by
  unfold shiftedL
  split
  · rename_i h
    unfold shiftedB at h
    have h1 : termOkB sg b = true := by
      cases e : termOkB sg b with
      | true => rfl
      | false => rw [e] at h; simp at h
    unfold shiftL
    rw [List.length_map]
    exact (term_len h1).2
  · simp
theorem keep_drewN {w : World} {a : Addr} {v : Value} (h : w.cell? a = some v) (d : Nat) : (w.drewN d).cell? a = some v := h

set_option maxHeartbeats 2000000 in
theorem specUnifiedApart (A P Q : Option Addr) (n c pn pc m mc : Nat) (sg p t : List Int) (w : World) (v : Bool) (F : List (List Int)) (hU : IsA sg p t v F) (h : Seg w w.heap.size A n sg) (hp : Seg w w.heap.size P pn p) (ht : Seg w w.heap.size Q m t) (hn : n ≤ 1048576) (hpn : pn ≤ 1048576) (hm : m ≤ 1048576) :
    Calls Tryz.prog 17 #[.agg #[.slice A n c], .slice P pn pc, .slice Q m mc] w (AnsUB w F v) := by
  obtain ⟨W, hW⟩ : ∃ W, W = (w.alloc (.cells #[.slice A n c] 26)).alloc (.cells #[.slice none 0 0] 35) := ⟨_, rfl⟩
  have M : Mr w W A n c sg P pn p Q m t := by rw [hW]; exact Mr.start h hp ht
  have HW := Lib.hid hW
  have c0 : W.cell? ⟨w.heap.size, 0, none⟩ = some (.slice A n c) := M.r0.cell 0
  have HU := Lib.hid hU
  have hbd := behindI_bd sg p
  have hb1 := hbd.1
  have hb2 := hbd.2
  clear hU hW h hp ht hbd
  have L := Lib.hid (specTermOk A P n c pn pc sg p W M.ss M.sp hn hpn)
  cases hokp : termOkB sg p with
  | false =>
    obtain ⟨hv, hF⟩ := isA_bad HU.out hokp
    subst hv
    subst hF
    have HS := Lib.hid hokp
    clear hokp HU
    go_enter Tryz.func17, Tryz.ntmps17
    go_wp2_with fail
    rw [← HW.out]
    refine L.out.mono ?_
    rintro e w1 ⟨he, bb⟩
    rw [HS.out] at he
    subst he
    replace M := M.next bb
    have cR : w1.cell? ⟨w.heap.size + 1, 0, none⟩ = some (.slice none 0 0) := M.r1.cell 0
    have fR : w1.frozen? ⟨w.heap.size + 1, 0, none⟩ = false := M.r1.free 0
    have F1 := Lib.hid (show AnsUB w [] false (.returned (.tuple #[.agg #[.slice none 0 0], .bool false])) _ from ⟨none, 0, 0, rfl, Owns.nil _ _ _, M.b⟩)
    have F2 := Lib.hid (show AnsUB w [] false (.returned (.tuple #[.agg #[.slice none 0 0], .bool false])) (w1.setCell ⟨w.heap.size + 1, 0, none⟩ (.slice none 0 0)) from ⟨none, 0, 0, rfl, Owns.nil _ _ _, (M.b).setCell (p := ⟨w.heap.size + 1, 0, none⟩) (show w.heap.size ≤ w.heap.size + 1 by omega) _⟩)
    clear M L bb c0
    go_wp2
    first
      | exact bodyPost_ret (v := .tuple #[.agg #[.slice none 0 0], .bool false]) (by simp [results, Tryz.results17, go_sem, cR]) rfl F1.out
      | exact bodyPost_ret (v := .tuple #[.agg #[.slice none 0 0], .bool false]) (by simp [results, Tryz.results17, go_sem, cR]) rfl F2.out
  | true =>
    have HSP := Lib.hid hokp
    have HB := Lib.hid (behind_yes hokp)
    clear hokp
    go_enter Tryz.func17, Tryz.ntmps17
    go_wp2_with fail
    rw [← HW.out]
    refine L.out.mono ?_
    rintro e w1 ⟨he, bb⟩
    rw [HSP.out] at he
    subst he
    replace M := M.next bb
    clear bb L c0
    have c0 : w1.cell? ⟨w.heap.size, 0, none⟩ = some (.slice A n c) := M.r0.cell 0
    have MD := M.next (w' := w1.drew) ((Below.refl _ _).drew)
    have LB := Lib.hid (l5Behind P pn pc p w1.drew MD.sp hpn (fun x hx => by have := term_mem HSP.out hx; omega))
    rw [← HB.out] at LB
    have LS := Lib.hid (specShifted A Q n c m mc sg t (behindI sg p) w1.drew MD.ss MD.st hn hm (by omega) (by omega))
    have HMD := Lib.hid MD
    clear MD M
    generalize hz : behindI sg p = z at *
    go_wp2_with fail
    go_region_held3 (fun w' => w'.cell? ⟨w.heap.size, 0, none⟩ = some (.slice A n c))
      (first | assumption | exact c0 | exact keep_drewN c0 _)
      (first
        | (go_at_call 24; refine LB.out.mono ?_; rintro e w2 ⟨rfl, rfl⟩)
        | (go_at_call 42; refine LS.out.mono ?_; rintro e w3 ⟨X, xn, xc, rfl, sx, bb⟩; have M3 := HMD.out.next bb; have y0 : w3.cell? ⟨w.heap.size, 0, none⟩ = some (.slice A n c) := M3.r0.cell 0))
    have hxl := Lib.hid (shiftedL_len sg t z)
    cases hs : shiftedB sg t z with
    | false =>
      obtain ⟨hv, hF⟩ := isA_off HU.out (by rw [hz]; exact hs)
      subst hv
      subst hF
      have M := M3
      clear M3 HU hs
      have cR : w3.cell? ⟨w.heap.size + 1, 0, none⟩ = some (.slice none 0 0) := M.r1.cell 0
      have fR : w3.frozen? ⟨w.heap.size + 1, 0, none⟩ = false := M.r1.free 0
      have F1 := Lib.hid (show AnsUB w [] false (.returned (.tuple #[.agg #[.slice none 0 0], .bool false])) _ from ⟨none, 0, 0, rfl, Owns.nil _ _ _, M.b⟩)
      have F2 := Lib.hid (show AnsUB w [] false (.returned (.tuple #[.agg #[.slice none 0 0], .bool false])) (w3.setCell ⟨w.heap.size + 1, 0, none⟩ (.slice none 0 0)) from ⟨none, 0, 0, rfl, Owns.nil _ _ _, (M.b).setCell (p := ⟨w.heap.size + 1, 0, none⟩) (show w.heap.size ≤ w.heap.size + 1 by omega) _⟩)
      clear M LB LS HMD c0 y0 sx bb
      go_wp2
      first
        | exact bodyPost_ret (v := .tuple #[.agg #[.slice none 0 0], .bool false]) (by simp [results, Tryz.results17, go_sem, cR]) rfl F1.out
        | exact bodyPost_ret (v := .tuple #[.agg #[.slice none 0 0], .bool false]) (by simp [results, Tryz.results17, go_sem, cR]) rfl F2.out
    | true =>
      have hU2 := isA_on HU.out (by rw [hz]; exact hs)
      rw [hz] at hU2
      have hx60 : xn ≤ 1048576 := by rw [← sx.1]; exact Nat.le_trans hxl.out (by omega)
      have LU := Lib.hid (specUnified A P X n c pn pc xn xc sg p (shiftedL sg t z) w3 v F hU2 M3.ss M3.sp sx hn hpn hx60)
      have r3 := M3.r1
      have b3 := M3.b
      clear M3 HU hU2 hs LB LS HMD c0 sx bb
      go_wp2_with fail
      refine LU.out.mono ?_
      rintro e w4 ⟨O, on, oc, rfl, ho, b4⟩
      have r4 := r3.next b4
      have cR : w4.cell? ⟨w.heap.size + 1, 0, none⟩ = some (.slice none 0 0) := r4.cell 0
      have fR : w4.frozen? ⟨w.heap.size + 1, 0, none⟩ = false := r4.free 0
      have B4 := next_trans b3 b4
      have hs4 := r3.lt
      have F := Lib.hid (show AnsUB w F v (.returned (.tuple #[.agg #[.slice O on oc], .bool v])) (w4.setCell ⟨w.heap.size + 1, 0, none⟩ (.slice O on oc)) from ⟨O, on, oc, rfl, (owns_put ho r4 hs4 0 _).wider (by have := b3.size; omega) (by simp), B4.setCell (p := ⟨w.heap.size + 1, 0, none⟩) (show w.heap.size ≤ w.heap.size + 1 by omega) _⟩)
      clear LU ho b4 r4 r3 b3 B4 hs4 y0
      go_wp2
      exact bodyPost_ret (v := .tuple #[.agg #[.slice O on oc], .bool v]) (by simp [results, Tryz.results17, go_sem, cR]) rfl F.out

set_option maxHeartbeats 2000000 in
theorem implUnifiedApart (A P Q : Option Addr) (n c pn pc m mc : Nat) (sg p t : List Int) (w : World) (v : Bool) (F : List (List Int)) (hU : IsA sg p t v F) (h : Seg w w.heap.size A n sg) (hp : Seg w w.heap.size P pn p) (ht : Seg w w.heap.size Q m t) (hn : n ≤ 1048576) (hpn : pn ≤ 1048576) (hm : m ≤ 1048576) (kp : Cap P pn pc) :
    Calls Tryz.prog 11 #[.agg #[.slice A n c], .slice P pn pc, .slice Q m mc] w (AnsUB w F v) := by
  obtain ⟨W, hW⟩ : ∃ W, W = (w.alloc (.cells #[.slice A n c] 26)).alloc (.cells #[.slice none 0 0] 35) := ⟨_, rfl⟩
  have M : Mr w W A n c sg P pn p Q m t := by rw [hW]; exact Mr.start h hp ht
  have HW := Lib.hid hW
  have c0 : W.cell? ⟨w.heap.size, 0, none⟩ = some (.slice A n c) := M.r0.cell 0
  have HU := Lib.hid hU
  have hbd := behindI_bd sg p
  have hb1 := hbd.1
  have hb2 := hbd.2
  clear hU hW h hp ht hbd
  go_enter Tryz.func11, Tryz.ntmps11
  go_wp2_with fail
  rw [← HW.out]
  have MD := M.next (w' := W.drew) ((Below.refl _ _).drew)
  have LB := Lib.hid (implBehindOf A P n c pn pc sg p W.drew MD.ss MD.sp hn hpn)
  have LS := Lib.hid (fun (w2 : World) (b : Below W.drew.heap.size W.drew w2) => implShifted A Q n c m mc sg t (behindI sg p) w2 (MD.next b).ss (MD.next b).st hn hm (by omega) (by omega))
  have HMD := Lib.hid MD
  clear MD M
  generalize hz : behindI sg p = z at *
  go_region_held3 (fun w' => w'.cell? ⟨w.heap.size, 0, none⟩ = some (.slice A n c))
    (first | assumption | exact c0 | exact keep_drewN c0 _)
    (first
      | (go_at_call 9; refine LB.out.mono ?_; rintro e w2 ⟨rfl, b2⟩; have M2 := HMD.out.next b2; have x0 : w2.cell? ⟨w.heap.size, 0, none⟩ = some (.slice A n c) := M2.r0.cell 0; have HM2 := Lib.hid M2; clear M2)
      | (go_at_call 25; refine (LS.out w2 b2).mono ?_; rintro e w3 ⟨X, xn, xc, rfl, ox, bb⟩; have sx := Own.seg ox; have M3 := HM2.out.next bb; have y0 : w3.cell? ⟨w.heap.size, 0, none⟩ = some (.slice A n c) := M3.r0.cell 0))
  have hxl := Lib.hid (shiftedL_len sg t z)
  cases hs : shiftedB sg t z with
  | false =>
    obtain ⟨hv, hF⟩ := isA_off HU.out (by rw [hz]; exact hs)
    subst hv
    subst hF
    have M := M3
    clear M3 HU hs
    have cR : w3.cell? ⟨w.heap.size + 1, 0, none⟩ = some (.slice none 0 0) := M.r1.cell 0
    have fR : w3.frozen? ⟨w.heap.size + 1, 0, none⟩ = false := M.r1.free 0
    have F1 := Lib.hid (show AnsUB w [] false (.returned (.tuple #[.agg #[.slice none 0 0], .bool false])) _ from ⟨none, 0, 0, rfl, Owns.nil _ _ _, M.b⟩)
    have F2 := Lib.hid (show AnsUB w [] false (.returned (.tuple #[.agg #[.slice none 0 0], .bool false])) (w3.setCell ⟨w.heap.size + 1, 0, none⟩ (.slice none 0 0)) from ⟨none, 0, 0, rfl, Owns.nil _ _ _, (M.b).setCell (p := ⟨w.heap.size + 1, 0, none⟩) (show w.heap.size ≤ w.heap.size + 1 by omega) _⟩)
    clear M LB LS HMD c0 y0 sx bb ox x0 HM2 b2
    go_wp2
    first
      | exact bodyPost_ret (v := .tuple #[.agg #[.slice none 0 0], .bool false]) (by simp [results, Tryz.results11, go_sem, cR]) rfl F1.out
      | exact bodyPost_ret (v := .tuple #[.agg #[.slice none 0 0], .bool false]) (by simp [results, Tryz.results11, go_sem, cR]) rfl F2.out
  | true =>
    have hU2 := isA_on HU.out (by rw [hz]; exact hs)
    rw [hz] at hU2
    have hx60 : xn ≤ 1048576 := by rw [← sx.1]; exact Nat.le_trans hxl.out (by omega)
    have LU := Lib.hid (implUnified A P X n c pn pc xn xc sg p (shiftedL sg t z) w3 v F hU2 M3.ss M3.sp sx hn hpn hx60 kp (own_cap ox))
    have r3 := M3.r1
    have b3 := M3.b
    clear M3 HU hU2 hs LB LS HMD c0 sx bb ox x0 HM2 b2
    go_wp2_with fail
    refine LU.out.mono ?_
    rintro e w4 ⟨O, on, oc, rfl, ho, b4⟩
    have r4 := r3.next b4
    have cR : w4.cell? ⟨w.heap.size + 1, 0, none⟩ = some (.slice none 0 0) := r4.cell 0
    have fR : w4.frozen? ⟨w.heap.size + 1, 0, none⟩ = false := r4.free 0
    have B4 := next_trans b3 b4
    have hs4 := r3.lt
    have F := Lib.hid (show AnsUB w F v (.returned (.tuple #[.agg #[.slice O on oc], .bool v])) (w4.setCell ⟨w.heap.size + 1, 0, none⟩ (.slice O on oc)) from ⟨O, on, oc, rfl, (owns_put ho r4 hs4 0 _).wider (by have := b3.size; omega) (by simp), B4.setCell (p := ⟨w.heap.size + 1, 0, none⟩) (show w.heap.size ≤ w.heap.size + 1 by omega) _⟩)
    clear LU ho b4 r4 r3 b3 B4 hs4 y0
    go_wp2
    exact bodyPost_ret (v := .tuple #[.agg #[.slice O on oc], .bool v]) (by simp [results, Tryz.results11, go_sem, cR]) rfl F.out
end Go.Proofs.YtkmhnkljigncmaaGreat.apart5
end

section
/-
  PLAIN MATHEMATICS of generalisation (chapter 5): two sequences of terms read in step, the pairs that are met kept in a table ('Gs'); what comes of it is unique ('gs_one'), is there ('gs_ex'), turns into both ('gs_fill'), and every other common pattern turns into it ('gt_least'). Conditions: none. By an AI agent.
-/
namespace Go.Proofs.YtkmhnkljigncmaaGreat.genMath
open Go.Proofs.YtkmhnkljigncmaaGreat.sig Go.Proofs.YtkmhnkljigncmaaGreat.term Go.Proofs.YtkmhnkljigncmaaGreat.termOk Go.Proofs.YtkmhnkljigncmaaGreat.termFacts Go.Proofs.YtkmhnkljigncmaaGreat.endAt Go.Proofs.YtkmhnkljigncmaaGreat.sub Go.Proofs.YtkmhnkljigncmaaGreat.termMath Go.Proofs.YtkmhnkljigncmaaGreat.fillMath Go.Proofs.YtkmhnkljigncmaaGreat.posMath Go.Proofs.YtkmhnkljigncmaaGreat.renMath Go.Proofs.YtkmhnkljigncmaaGreat.matchMath Go.Proofs.YtkmhnkljigncmaaGreat.unifMath

/-- the pairs that were met -/
abbrev Tb := List (List Int × List Int)
/-- they don't begin with the same symbol -/
def Apt (s t : List Int) : Prop := ¬ (0 ≤ s.getD 0 0 ∧ s.getD 0 0 = t.getD 0 0)
/-- n terms of each side, the table before, what comes of it, the table behind -/
inductive Gs (sg : List Int) : Tb → Nat → List Int → List Int → List Int → Tb → Prop
  | nil (T : Tb) : Gs sg T 0 [] [] [] T
  | sym {T T' : Tb} {n : Nat} {u w g : List Int} {x : Int} : 0 ≤ x → ¬ ar sg x < 0 → Gs sg T (n + (ar sg x).toNat) u w g T' → Gs sg T (n + 1) (x :: u) (x :: w) (x :: g) T'
  | old {T T' : Tb} {n i : Nat} {s t u w g : List Int} : Trm sg s → Trm sg t → Apt s t → T[i]? = some (s, t) → Gs sg T n u w g T' → Gs sg T (n + 1) (s ++ u) (t ++ w) ((-1 - (i : Int)) :: g) T'
  | new {T T' : Tb} {n : Nat} {s t u w g : List Int} : Trm sg s → Trm sg t → Apt s t → (s, t) ∉ T → Gs sg (T ++ [(s, t)]) n u w g T' → Gs sg T (n + 1) (s ++ u) (t ++ w) ((-1 - (T.length : Int)) :: g) T'
section
variable {sg : List Int} {T T' : Tb} {n : Nat} {u w g : List Int}
theorem gs_ext (h : Gs sg T n u w g T') : ∃ E, T' = T ++ E := by
  induction h with
  | nil T => exact ⟨[], by simp⟩
  | sym _ _ _ ih => exact ih
  | old _ _ _ _ _ ih => exact ih
  | new _ _ _ _ _ ih => obtain ⟨E, e⟩ := ih; exact ⟨_, by rw [e, List.append_assoc]⟩
theorem gs_nodup (h : Gs sg T n u w g T') (hT : T.Nodup) : T'.Nodup := by
  induction h with
  | nil T => exact hT
  | sym _ _ _ ih => exact ih hT
  | old _ _ _ _ _ ih => exact ih hT
  | new _ _ _ hn _ ih =>
    refine ih ?_
    rw [List.nodup_append]
    refine ⟨hT, by simp, fun x hx y hy e => ?_⟩
    rw [List.mem_singleton] at hy
    subst e
    subst hy
    exact hn hx
theorem trm_cat {s u : List Int} (hs : Trm sg s) (hu : scan sg n u = some u.length) : scan sg (n + 1) (s ++ u) = some (s ++ u).length := by
  have := scan_cat hs hu
  rw [List.length_append, ← this, Nat.add_comm]
theorem gs_scan (h : Gs sg T n u w g T') : scan sg n u = some u.length ∧ scan sg n w = some w.length := by
  induction h with
  | nil T => exact ⟨rfl, rfl⟩
  | sym h0 ha _ ih => exact ⟨by rw [scan_step ha, ih.1]; rfl, by rw [scan_step ha, ih.2]; rfl⟩
  | old h1 h2 _ _ _ ih => exact ⟨trm_cat h1 ih.1, trm_cat h2 ih.2⟩
  | new h1 h2 _ _ _ ih => exact ⟨trm_cat h1 ih.1, trm_cat h2 ih.2⟩
end
/-- one behind the other -/
theorem gs_comp {sg : List Int} {T T1 T2 : Tb} {p q : Nat} {u w g U W G : List Int} (h : Gs sg T p u w g T1) : Gs sg T1 q U W G T2 → Gs sg T (p + q) (u ++ U) (w ++ W) (g ++ G) T2 := by
  induction h with
  | nil T => intro k; simpa using k
  | @sym T T' n u w g x h0 ha _ ih =>
    intro k
    have := ih k
    rw [show n + 1 + q = (n + q) + 1 by omega]
    exact .sym h0 ha (by rw [show n + q + (ar sg x).toNat = n + (ar sg x).toNat + q by omega]; exact this)
  | @old T T' n i s t u w g h1 h2 h3 h4 _ ih =>
    intro k
    rw [show n + 1 + q = (n + q) + 1 by omega, List.append_assoc, List.append_assoc]
    exact .old h1 h2 h3 h4 (ih k)
  | @new T T' n s t u w g h1 h2 h3 h4 _ ih =>
    intro k
    rw [show n + 1 + q = (n + q) + 1 by omega, List.append_assoc, List.append_assoc]
    exact .new h1 h2 h3 h4 (ih k)
/-- a term at the front is found -/
theorem trm_front {sg s s' u u' : List Int} (h : Trm sg s) (h' : Trm sg s') (e : s ++ u = s' ++ u') : s = s' ∧ u = u' := by
  have h1 := scan_append (r := u) h
  have h2 := scan_append (r := u') h'
  rw [e, h2] at h1
  injection h1 with h1
  have h3 := congrArg (List.take s.length) e
  rw [List.take_left' rfl, List.take_left' h1] at h3
  refine ⟨h3, ?_⟩
  rw [h3] at e
  exact List.append_cancel_left e
theorem trm_cons {sg s : List Int} (h : Trm sg s) : ∃ x r, s = x :: r ∧ s.getD 0 0 = x := by
  have := h.pos
  match s, this with
  | x :: r, _ => exact ⟨x, r, rfl, rfl⟩
theorem apt_head {sg s t u w u' w' : List Int} {x : Int} (hs : Trm sg s) (ht : Trm sg t) (h : Apt s t) (h0 : 0 ≤ x) (e1 : s ++ u = x :: u') (e2 : t ++ w = x :: w') : False := by
  obtain ⟨y, r, rfl, hy⟩ := trm_cons hs
  obtain ⟨z, r', rfl, hz⟩ := trm_cons ht
  injection e1 with e1 _
  injection e2 with e2 _
  exact h ⟨by rw [hy, e1]; exact h0, by rw [hy, hz, e1, e2]⟩
theorem nodup_ix {T : Tb} {i j : Nat} {a : List Int × List Int} (h : T.Nodup) (hi : T[i]? = some a) (hj : T[j]? = some a) : i = j := by
  exact (List.getElem?_inj (List.getElem?_eq_some_iff.1 hi).1 h).1 (hi.trans hj.symm)
theorem mem_ix {T : Tb} {i : Nat} {a : List Int × List Int} (h : T[i]? = some a) : a ∈ T := List.mem_of_getElem? h
/-- only one comes of it -/
theorem gs_one {sg : List Int} {T T' : Tb} {n : Nat} {u w g : List Int} (h : Gs sg T n u w g T') : T.Nodup → ∀ {g2 : List Int} {T2 : Tb}, Gs sg T n u w g2 T2 → g = g2 ∧ T' = T2 := by
  induction h with
  | nil T =>
    intro hT g2 T2 k
    cases k with
    | nil => exact ⟨rfl, rfl⟩
  | @sym T T' n u w g x h0 ha h1 ih =>
    intro hT g2 T2 k
    generalize eu : x :: u = U at k
    generalize ew : x :: w = W at k
    generalize en : n + 1 = m at k
    cases k with
    | nil => cases eu
    | sym k0 ka k1 =>
      injection eu with e1 e2
      injection ew with _ e3
      subst e1; subst e2; subst e3
      obtain rfl := Nat.succ.inj en
      obtain ⟨a, b⟩ := ih hT k1
      exact ⟨by rw [a], b⟩
    | old k1 k2 k3 _ _ => exact (apt_head k1 k2 k3 h0 eu.symm ew.symm).elim
    | new k1 k2 k3 _ _ => exact (apt_head k1 k2 k3 h0 eu.symm ew.symm).elim
  | @old T T' n i s t u w g h1 h2 h3 h4 h5 ih =>
    intro hT g2 T2 k
    generalize eu : s ++ u = U at k
    generalize ew : t ++ w = W at k
    generalize en : n + 1 = m at k
    cases k with
    | nil => cases en
    | sym k0 ka k1 => exact (apt_head h1 h2 h3 k0 eu ew).elim
    | @old _ _ n' i' s' t' u' w' g' k1 k2 k3 k4 k5 =>
      obtain ⟨rfl, rfl⟩ := trm_front h1 k1 eu
      obtain ⟨rfl, rfl⟩ := trm_front h2 k2 ew
      obtain rfl := Nat.succ.inj en
      obtain rfl := nodup_ix hT h4 k4
      obtain ⟨a, b⟩ := ih hT k5
      exact ⟨by rw [a], b⟩
    | new k1 k2 k3 k4 k5 =>
      obtain ⟨rfl, rfl⟩ := trm_front h1 k1 eu
      obtain ⟨rfl, rfl⟩ := trm_front h2 k2 ew
      exact absurd (mem_ix h4) k4
  | @new T T' n s t u w g h1 h2 h3 h4 h5 ih =>
    intro hT g2 T2 k
    have hN : (T ++ [(s, t)]).Nodup := by
      rw [List.nodup_append]
      refine ⟨hT, by simp, fun x hx y hy e => ?_⟩
      rw [List.mem_singleton] at hy
      subst e
      subst hy
      exact h4 hx
    generalize eu : s ++ u = U at k
    generalize ew : t ++ w = W at k
    generalize en : n + 1 = m at k
    cases k with
    | nil => cases en
    | sym k0 ka k1 => exact (apt_head h1 h2 h3 k0 eu ew).elim
    | old k1 k2 k3 k4 k5 =>
      obtain ⟨rfl, rfl⟩ := trm_front h1 k1 eu
      obtain ⟨rfl, rfl⟩ := trm_front h2 k2 ew
      exact absurd (mem_ix k4) h4
    | new k1 k2 k3 k4 k5 =>
      obtain ⟨rfl, rfl⟩ := trm_front h1 k1 eu
      obtain ⟨rfl, rfl⟩ := trm_front h2 k2 ew
      obtain rfl := Nat.succ.inj en
      obtain ⟨a, b⟩ := ih hN k5
      exact ⟨by rw [a], b⟩
/-- a sequence of terms: the first one and the others -/
theorem seq_front {sg u : List Int} {n : Nat} (h : scan sg (n + 1) u = some u.length) : ∃ s r, u = s ++ r ∧ Trm sg s ∧ scan sg n r = some r.length := by
  obtain ⟨j, h1, h2, h3, h4⟩ := scan_first (a := 0) (by rw [List.drop_zero]; exact h)
  rw [List.drop_zero] at h1
  rw [Nat.zero_add] at h4
  refine ⟨u.take j, u.drop j, (List.take_append_drop j u).symm, ?_, by rw [h4, List.length_drop]⟩
  unfold Trm
  rw [scan_take h1, List.length_take]
  congr 1
  omega
/-- and it is there -/
theorem gs_ex {sg : List Int} : ∀ (m : Nat) {T : Tb} {n : Nat} {u w : List Int}, u.length ≤ m → scan sg n u = some u.length → scan sg n w = some w.length → ∃ g T', Gs sg T n u w g T'
  | m, T, 0, u, w, _, hu, hw => by
    rw [scan_zero] at hu hw
    injection hu with hu
    injection hw with hw
    obtain rfl := List.eq_nil_of_length_eq_zero hu.symm
    obtain rfl := List.eq_nil_of_length_eq_zero hw.symm
    exact ⟨[], T, .nil T⟩
  | 0, T, n + 1, u, w, hm, hu, _ => by
    obtain rfl := List.eq_nil_of_length_eq_zero (Nat.le_zero.1 hm)
    rw [scan_nil] at hu; cases hu
  | m + 1, T, n + 1, u, w, hm, hu, hw => by
    obtain ⟨s, r, e1, hs, hr⟩ := seq_front hu
    obtain ⟨t, q, e2, ht, hq⟩ := seq_front hw
    have hsp := hs.pos
    by_cases ha : Apt s t
    · by_cases hx : (s, t) ∈ T
      · obtain ⟨i, hi⟩ := List.mem_iff_getElem?.1 hx
        obtain ⟨g, T', h⟩ := gs_ex (sg := sg) m (T := T) (n := n) (u := r) (w := q) (by rw [e1, List.length_append] at hm; omega) hr hq
        exact ⟨_, _, by rw [e1, e2]; exact .old hs ht ha hi h⟩
      · obtain ⟨g, T', h⟩ := gs_ex (sg := sg) m (T := T ++ [(s, t)]) (n := n) (u := r) (w := q) (by rw [e1, List.length_append] at hm; omega) hr hq
        exact ⟨_, _, by rw [e1, e2]; exact .new hs ht ha hx h⟩
    · unfold Apt at ha
      rw [Classical.not_not] at ha
      obtain ⟨x, s', rfl, hx⟩ := trm_cons hs
      obtain ⟨y, t', rfl, hy⟩ := trm_cons ht
      rw [hx, hy] at ha
      obtain ⟨h0, rfl⟩ := ha
      rw [e1] at hu
      rw [e2] at hw
      rw [List.cons_append] at hu hw
      have har : ¬ ar sg x < 0 := by
        intro hn
        rw [scan_bad hn] at hu; cases hu
      rw [scan_step har, Option.map_eq_some_iff] at hu hw
      obtain ⟨a, a1, a2⟩ := hu
      obtain ⟨b, b1, b2⟩ := hw
      obtain ⟨g, T', h⟩ := gs_ex (sg := sg) m (T := T) (n := n + (ar sg x).toNat) (u := s' ++ r) (w := t' ++ q) (by rw [e1] at hm; simp at hm ⊢; omega) (by rw [a1]; congr 1; simp at a2 ⊢; omega) (by rw [b1]; congr 1; simp at b2 ⊢; omega)
      exact ⟨_, _, by rw [e1, e2]; exact .sym h0 har h⟩
/-- read the other way round -/
theorem gs_swap {sg : List Int} {T T' : Tb} {n : Nat} {u w g : List Int} (h : Gs sg T n u w g T') : Gs sg (T.map Prod.swap) n w u g (T'.map Prod.swap) := by
  have apt : ∀ {s t : List Int}, Apt s t → Apt t s := fun h ⟨a, b⟩ => h ⟨by rw [← b]; exact a, b.symm⟩
  induction h with
  | nil T => exact .nil _
  | sym h0 ha _ ih => exact .sym h0 ha ih
  | old h1 h2 h3 h4 _ ih => exact .old h2 h1 (apt h3) (by rw [List.getElem?_map, h4]; rfl) ih
  | @new T T' n s t u w g h1 h2 h3 h4 _ ih =>
    have := Gs.new (sg := sg) (T := T.map Prod.swap) h2 h1 (apt h3) (fun hm => h4 (by
      rw [List.mem_map] at hm
      obtain ⟨⟨a, b⟩, m1, m2⟩ := hm
      injection m2 with m2 m3
      rw [← m2, ← m3]
      exact m1)) (by rw [List.map_append] at ih; exact ih)
    rw [List.length_map] at this
    exact this

/-! ### with a table that stays -/
inductive Gt (sg : List Int) (T : Tb) : Nat → List Int → List Int → List Int → Prop
  | nil : Gt sg T 0 [] [] []
  | sym {n : Nat} {u w g : List Int} {x : Int} : 0 ≤ x → ¬ ar sg x < 0 → Gt sg T (n + (ar sg x).toNat) u w g → Gt sg T (n + 1) (x :: u) (x :: w) (x :: g)
  | old {n i : Nat} {s t u w g : List Int} : Trm sg s → Trm sg t → Apt s t → T[i]? = some (s, t) → Gt sg T n u w g → Gt sg T (n + 1) (s ++ u) (t ++ w) ((-1 - (i : Int)) :: g)
theorem gs_gt {sg : List Int} {T T' : Tb} {n : Nat} {u w g : List Int} (h : Gs sg T n u w g T') : ∀ E, Gt sg (T' ++ E) n u w g := by
  induction h with
  | nil T => intro E; exact .nil
  | sym h0 ha _ ih => intro E; exact .sym h0 ha (ih E)
  | old h1 h2 h3 h4 k ih =>
    intro E
    obtain ⟨F, e⟩ := gs_ext k
    refine .old h1 h2 h3 ?_ (ih E)
    rw [e, List.append_assoc, List.getElem?_append_left (List.getElem?_eq_some_iff.1 h4).1]
    exact h4
  | new h1 h2 h3 h4 k ih =>
    intro E
    obtain ⟨F, e⟩ := gs_ext k
    refine .old h1 h2 h3 ?_ (ih E)
    rw [e, List.append_assoc, List.append_assoc]
    simp
/-- what stands on either side of a variable -/
def f1 (T : Tb) (i : Nat) : List Int := (T.getD i ([], [])).1
def f2 (T : Tb) (i : Nat) : List Int := (T.getD i ([], [])).2
theorem gt_fill {sg : List Int} {T : Tb} {n : Nat} {u w g : List Int} (h : Gt sg T n u w g) : fillL (f1 T) g = u ∧ fillL (f2 T) g = w ∧ ∀ x ∈ g, x < 0 → vr x < T.length ∧ Trm sg (f1 T (vr x)) ∧ Trm sg (f2 T (vr x)) := by
  induction h with
  | nil => exact ⟨rfl, rfl, fun x hx => absurd hx (List.not_mem_nil)⟩
  | @sym n u w g x h0 ha _ ih =>
    refine ⟨by rw [fill_cons, rep_sym h0, ih.1]; rfl, by rw [fill_cons, rep_sym h0, ih.2.1]; rfl, fun y hy hy0 => ?_⟩
    rcases List.mem_cons.1 hy with rfl | hy
    · omega
    · exact ih.2.2 y hy hy0
  | @old n i s t u w g h1 h2 h3 h4 _ ih =>
    have e1 : f1 T i = s := by unfold f1; rw [List.getD_eq_getElem?_getD, h4]; rfl
    have e2 : f2 T i = t := by unfold f2; rw [List.getD_eq_getElem?_getD, h4]; rfl
    refine ⟨by rw [fill_cons, rep_vr (by omega), vr_vt, e1, ih.1], by rw [fill_cons, rep_vr (by omega), vr_vt, e2, ih.2.1], fun y hy hy0 => ?_⟩
    rcases List.mem_cons.1 hy with rfl | hy
    · rw [vr_vt, e1, e2]
      exact ⟨(List.getElem?_eq_some_iff.1 h4).1, h1, h2⟩
    · exact ih.2.2 y hy hy0
theorem gt_scan {sg : List Int} {T : Tb} {n : Nat} {u w g : List Int} (hT : T.length ≤ 24) (h : Gt sg T n u w g) : scan sg n g = some g.length := by
  induction h with
  | nil => rfl
  | sym h0 ha _ ih => rw [scan_step ha, ih]; rfl
  | @old n i s t u w g h1 h2 h3 h4 _ ih =>
    have hi := (List.getElem?_eq_some_iff.1 h4).1
    have e : ar sg (-1 - (i : Int)) = 0 := ar_var (by omega)
    rw [scan_step (by rw [e]; omega), e]
    show (scan sg (n + 0) g).map (· + 1) = _
    rw [Nat.add_zero, ih]; rfl
theorem gt_one {sg : List Int} {T : Tb} (hT : T.Nodup) {n : Nat} {u w g : List Int} (h : Gt sg T n u w g) : ∀ {g2 : List Int}, Gt sg T n u w g2 → g = g2 := by
  induction h with
  | nil =>
    intro g2 k
    cases k with
    | nil => rfl
  | @sym n u w g x h0 ha h1 ih =>
    intro g2 k
    generalize eu : x :: u = U at k
    generalize ew : x :: w = W at k
    generalize en : n + 1 = m at k
    cases k with
    | nil => cases eu
    | sym k0 ka k1 =>
      injection eu with e1 e2
      injection ew with _ e3
      subst e1; subst e2; subst e3
      obtain rfl := Nat.succ.inj en
      rw [ih k1]
    | old k1 k2 k3 _ _ => exact (apt_head k1 k2 k3 h0 eu.symm ew.symm).elim
  | @old n i s t u w g h1 h2 h3 h4 h5 ih =>
    intro g2 k
    generalize eu : s ++ u = U at k
    generalize ew : t ++ w = W at k
    generalize en : n + 1 = m at k
    cases k with
    | nil => cases en
    | sym k0 ka k1 => exact (apt_head h1 h2 h3 k0 eu ew).elim
    | old k1 k2 k3 k4 k5 =>
      obtain ⟨rfl, rfl⟩ := trm_front h1 k1 eu
      obtain ⟨rfl, rfl⟩ := trm_front h2 k2 ew
      obtain rfl := Nat.succ.inj en
      obtain rfl := nodup_ix hT h4 k4
      rw [ih k5]
/-- the first so many terms, and the others -/
theorem gt_split {sg : List Int} {T : Tb} {m : Nat} {X Y g : List Int} (h : Gt sg T m X Y g) : ∀ {p q : Nat} {u w U W : List Int}, m = p + q → X = u ++ U → Y = w ++ W → scan sg p u = some u.length → scan sg p w = some w.length → ∃ g1 g2, g = g1 ++ g2 ∧ Gt sg T p u w g1 ∧ Gt sg T q U W g2 := by
  have zero : ∀ {m : Nat} {X Y g : List Int}, Gt sg T m X Y g → ∀ {q : Nat} {u w U W : List Int}, m = 0 + q → X = u ++ U → Y = w ++ W → scan sg 0 u = some u.length → scan sg 0 w = some w.length → ∃ g1 g2, g = g1 ++ g2 ∧ Gt sg T 0 u w g1 ∧ Gt sg T q U W g2 := by
    intro m X Y g h q u w U W e eX eY hu hw
    rw [scan_zero] at hu hw
    injection hu with hu
    injection hw with hw
    obtain rfl := List.eq_nil_of_length_eq_zero hu.symm
    obtain rfl := List.eq_nil_of_length_eq_zero hw.symm
    rw [Nat.zero_add] at e
    subst e
    rw [List.nil_append] at eX eY
    subst eX; subst eY
    exact ⟨[], g, rfl, .nil, h⟩
  induction h with
  | nil =>
    intro p q u w U W e eX eY hu hw
    cases p with
    | zero => exact zero .nil e eX eY hu hw
    | succ p => omega
  | @sym n X Y g x h0 ha h1 ih =>
    intro p q u w U W e eX eY hu hw
    cases p with
    | zero => exact zero (.sym h0 ha h1) e eX eY hu hw
    | succ p =>
      cases u with
      | nil => rw [scan_nil] at hu; cases hu
      | cons x' u =>
        cases w with
        | nil => rw [scan_nil] at hw; cases hw
        | cons y' w =>
          rw [List.cons_append] at eX eY
          injection eX with e1 e2
          injection eY with e3 e4
          subst e1; subst e3
          rw [scan_step ha, Option.map_eq_some_iff] at hu hw
          obtain ⟨a, a1, a2⟩ := hu
          obtain ⟨b, b1, b2⟩ := hw
          obtain ⟨g1, g2, k1, k2, k3⟩ := ih (p := p + (ar sg x).toNat) (q := q) (u := u) (w := w) (by omega) e2 e4 (by rw [a1]; congr 1; simp at a2; omega) (by rw [b1]; congr 1; simp at b2; omega)
          exact ⟨x :: g1, g2, by rw [k1]; rfl, .sym h0 ha k2, k3⟩
  | @old n i s t X Y g h1 h2 h3 h4 h5 ih =>
    intro p q u w U W e eX eY hu hw
    cases p with
    | zero => exact zero (.old h1 h2 h3 h4 h5) e eX eY hu hw
    | succ p =>
      obtain ⟨s', r, e1, hs, hr⟩ := seq_front hu
      obtain ⟨t', r', e2, ht, hr'⟩ := seq_front hw
      rw [e1, List.append_assoc] at eX
      rw [e2, List.append_assoc] at eY
      obtain ⟨es, eX2⟩ := trm_front h1 hs eX
      obtain ⟨et, eY2⟩ := trm_front h2 ht eY
      subst es; subst et
      obtain ⟨g1, g2, k1, k2, k3⟩ := ih (p := p) (q := q) (by omega) eX2 eY2 hr hr'
      exact ⟨(-1 - (i : Int)) :: g1, g2, by rw [k1]; rfl, by rw [e1, e2]; exact .old h1 h2 h3 h4 k2, k3⟩
/-- a pattern of both turns into what comes of them -/
theorem gt_least {sg : List Int} {T : Tb} (hT : T.Nodup) {A B : Nat → List Int} (hA : Sub sg A) (hB : Sub sg B) : ∃ M : Nat → List Int, ∀ {p : List Int} {n : Nat} {g : List Int}, scan sg n p = some p.length → Gt sg T n (fillL A p) (fillL B p) g → fillL M p = g ∧ ∀ x ∈ p, x < 0 → Gt sg T 1 (A (vr x)) (B (vr x)) (M (vr x)) := by
  have hch : ∀ i, ∃ m, (∃ m', Gt sg T 1 (A i) (B i) m') → Gt sg T 1 (A i) (B i) m := fun i => by
    by_cases h : ∃ m', Gt sg T 1 (A i) (B i) m'
    · obtain ⟨m', h'⟩ := h
      exact ⟨m', fun _ => h'⟩
    · exact ⟨[], fun h' => absurd h' h⟩
  refine ⟨fun i => (hch i).choose, fun {p} => ?_⟩
  induction p with
  | nil =>
    intro n g hs h
    cases n with
    | zero =>
      cases h with
      | nil => exact ⟨rfl, fun x hx => absurd hx (List.not_mem_nil)⟩
    | succ n => rw [scan_nil] at hs; cases hs
  | cons x r ih =>
    intro n g hs h
    cases n with
    | zero => rw [scan_zero] at hs; injection hs with hs; simp at hs
    | succ n =>
      have hx := scan_ar hs x (List.mem_cons_self ..)
      rw [scan_step hx, Option.map_eq_some_iff] at hs
      obtain ⟨a, a1, a2⟩ := hs
      have hr : scan sg (n + (ar sg x).toNat) r = some r.length := by rw [a1]; congr 1; simp at a2; omega
      rw [fill_cons, fill_cons] at h
      by_cases h0 : 0 ≤ x
      · rw [rep_sym h0, rep_sym h0] at h
        obtain ⟨g', rfl, h'⟩ : ∃ g', g = x :: g' ∧ Gt sg T (n + (ar sg x).toNat) (fillL A r) (fillL B r) g' := by
          generalize eu : [x] ++ fillL A r = U at h
          generalize ew : [x] ++ fillL B r = W at h
          generalize en : n + 1 = m at h
          cases h with
          | nil => cases eu
          | sym k0 ka k1 =>
            injection eu with e1 e2
            injection ew with _ e3
            subst e1
            have e2' : fillL A r = _ := e2
            have e3' : fillL B r = _ := e3
            rw [e2', e3']
            obtain rfl := Nat.succ.inj en
            exact ⟨_, rfl, k1⟩
          | old k1 k2 k3 _ _ => exact (apt_head k1 k2 k3 h0 eu.symm ew.symm).elim
        obtain ⟨i1, i2⟩ := ih hr h'
        refine ⟨by rw [fill_cons, rep_sym h0, i1]; rfl, fun y hy hy0 => ?_⟩
        rcases List.mem_cons.1 hy with rfl | hy
        · omega
        · exact i2 y hy hy0
      · have hv : vr x < 24 := by
          by_cases h24 : -24 ≤ x
          · unfold vr; omega
          · rw [ar_no (by omega) (by omega)] at hx; omega
        have hz : ar sg x = 0 := ar_var (by unfold vr at hv; omega)
        rw [rep_vr (by omega), rep_vr (by omega)] at h
        obtain ⟨g1, g2, e, k1, k2⟩ := gt_split h (show n + 1 = 1 + n by omega) rfl rfl (hA.trm _ hv) (hB.trm _ hv)
        have hc := (hch (vr x)).choose_spec ⟨_, k1⟩
        have hg1 := gt_one hT hc k1
        rw [hz] at hr
        obtain ⟨i1, i2⟩ := ih (n := n) hr k2
        refine ⟨by rw [fill_cons, rep_vr (by omega), e]; show (hch (vr x)).choose ++ _ = _; rw [hg1, i1], fun y hy hy0 => ?_⟩
        rcases List.mem_cons.1 hy with rfl | hy
        · exact hc
        · exact i2 y hy hy0
end Go.Proofs.YtkmhnkljigncmaaGreat.genMath
end

section
/-
  CONTRACTS: spec.SameSubst, impl.SameSubst. Conditions: the slices read as lists ('Seg', 'Segs'), at most 1048576 values. (The regions' walks by wip/tools/reg.py.) By an AI agent.
-/
namespace Go.Proofs.YtkmhnkljigncmaaGreat.sameSubst
open Go.RowKit Go.Proofs.YtkmhnkljigncmaaGreat.base Go.Proofs.YtkmhnkljigncmaaGreat.ints Go.Proofs.YtkmhnkljigncmaaGreat.sig Go.Proofs.YtkmhnkljigncmaaGreat.same Go.Proofs.YtkmhnkljigncmaaGreat.marks Go.Proofs.YtkmhnkljigncmaaGreat.sym Go.Proofs.YtkmhnkljigncmaaGreat.segs Go.Proofs.YtkmhnkljigncmaaGreat.segsHelp Go.Proofs.YtkmhnkljigncmaaGreat.kinds Go.Proofs.YtkmhnkljigncmaaGreat.varsOf Go.Proofs.YtkmhnkljigncmaaGreat.fillMath Go.Proofs.YtkmhnkljigncmaaGreat.look Go.Proofs.YtkmhnkljigncmaaGreat.substOk Go.Proofs.YtkmhnkljigncmaaGreat.gives
set_option maxRecDepth 100000

/-- what SameSubst answers -/
def sameG (a b : List (List Int)) : Bool := (List.range 24).all fun i => decide (givesL a i = givesL b i)
def sameB (sg : List Int) (a b : List (List Int)) : Bool := substOkB sg a && (substOkB sg b && sameG a b)
theorem sameG_yes {a b : List (List Int)} (h : ∀ i, i < 24 → givesL a i = givesL b i) : sameG a b = true := by
  unfold sameG
  rw [List.all_eq_true]
  intro i hi
  exact decide_eq_true (h i (List.mem_range.1 hi))
theorem sameG_no {a b : List (List Int)} {i : Nat} (hi : i < 24) (h : givesL a i ≠ givesL b i) : sameG a b = false := by
  cases e : sameG a b with
  | false => rfl
  | true =>
    unfold sameG at e
    rw [List.all_eq_true] at e
    exact absurd (of_decide_eq_true (e i (List.mem_range.2 hi))) h
theorem sameG_iff {a b : List (List Int)} : sameG a b = true ↔ ∀ i, i < 24 → givesL a i = givesL b i := by
  refine ⟨fun e i hi => ?_, sameG_yes⟩
  unfold sameG at e
  rw [List.all_eq_true] at e
  exact of_decide_eq_true (e i (List.mem_range.2 hi))
theorem same_a {sg : List Int} {a b : List (List Int)} (h : substOkB sg a = false) : sameB sg a b = false := by unfold sameB; rw [h, Bool.false_and]
theorem same_b {sg : List Int} {a b : List (List Int)} (h : substOkB sg b = false) : sameB sg a b = false := by unfold sameB; rw [h, Bool.false_and, Bool.and_false]
theorem same_ab {sg : List Int} {a b : List (List Int)} (h : substOkB sg a = true) (h' : substOkB sg b = true) : sameB sg a b = sameG a b := by unfold sameB; rw [h, h', Bool.true_and, Bool.true_and]
/-- three boxes -/
theorem boxesSS (w : World) (A : Option Addr) (n c : Nat) (S : Option Addr) (m c' : Nat) (T : Option Addr) (q cq : Nat) : ∃ W, W = ((w.alloc (.cells #[.slice A n c] 26)).alloc (.cells #[.slice S m c'] 35)).alloc (.cells #[.slice T q cq] 35) ∧
    Row W w.heap.size 26 #[.slice A n c] ∧ Row W (w.heap.size + 1) 35 #[.slice S m c'] ∧ Row W (w.heap.size + 2) 35 #[.slice T q cq] ∧ Below w.heap.size w W := by
  obtain ⟨W, hW, r1, r2, b⟩ := boxes2 w A n c S m c'
  have hz : W.heap.size = w.heap.size + 2 := by rw [hW]; simp
  refine ⟨_, rfl, ?_, ?_, ?_, ?_⟩
  · rw [← hW]; exact r1.alloc _
  · rw [← hW]; exact r2.alloc _
  · rw [← hW, ← hz]; exact Row.new _ _ _
  · rw [← hW]; exact b.alloc b.size _

theorem gives_each {ss : List (List Int)} (h : ∀ j, (ss.getD j []).length ≤ 1048576) (i : Nat) : (givesL ss i).length ≤ 1048576 := by
  unfold givesL
  split
  · simp [vt]
  · exact h i
theorem lookupB (S : Option Addr) (m c : Nat) (w : World) :
    Calls Tryz.prog 40 #[.agg #[.slice S m c]] w fun e w' => e = .returned (.func (.func 70) #[] #[.pointer (some ⟨w.heap.size, 0, none⟩)]) ∧ Row w' w.heap.size 35 #[.slice S m c] ∧ Below w.heap.size w w' :=
  (lookupIn S m c w).mono fun _ _ ⟨he, hw⟩ => ⟨he, by rw [hw]; exact Row.new _ _ _, by rw [hw]; exact (Below.refl _ _).alloc (Nat.le_refl _) _⟩

/-- the head of both loops: the boxes of the two substitutions lie at b1 and b2 -/
def HeadSS (w : World) (b1 b2 : Nat) (S : Option Addr) (m c : Nat) (T : Option Addr) (q cq : Nat) (xa xb : List (List Int)) (i : Value) (wr : World) : Prop :=
  ∃ k : Nat, k ≤ 24 ∧ i = .int .i64 k ∧ (∀ j, j < k → givesL xa j = givesL xb j) ∧ Row wr b1 35 #[.slice S m c] ∧ Row wr b2 35 #[.slice T q cq] ∧ Below w.heap.size w wr
theorem headSS_step {w wr w2 : World} {b1 b2 m c q cq k : Nat} {S T : Option Addr} {xa xb : List (List Int)} (hk : k < 24) (h : ∀ j, j < k → givesL xa j = givesL xb j) (he : givesL xa k = givesL xb k)
    (r1 : Row wr b1 35 #[.slice S m c]) (r2 : Row wr b2 35 #[.slice T q cq]) (hb : Below w.heap.size w wr) (bb : Below wr.heap.size wr w2) : HeadSS w b1 b2 S m c T q cq xa xb (.int .i64 ((k : Int) + 1)) w2 :=
  ⟨k + 1, hk, by simp, fun j hj => by
    by_cases e : j = k
    · rw [e]; exact he
    · exact h j (by omega), r1.next bb, r2.next bb, next_trans hb bb⟩

end Go.Proofs.YtkmhnkljigncmaaGreat.sameSubst
end
