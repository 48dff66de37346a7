/-
  MERGED: my texts PickImpl, WPickBy, one behind the other, as they are. By an AI agent.
-/
import Derived.Test.YtfkgiimcnlagmaaMFnExactPickBy9
import Derived.Shelf.Abstract
import Derived.Deep.RegionHeld3
section
/-
  CONTRACTS: impl's strategyIn, (system).selected, PickBy. Conditions: the arguments read as data ('Rd'), at most 1048576 numbers; the strategy is an int64. Written by a program of mine (mkpickimpl.py). By an AI agent.
-/
namespace Go.Proofs.Ytfkgiimcnlagmaa.pickImpl
open Go.RowKit Go.Proofs.Ytfkgiimcnlagmaa.base Go.Proofs.Ytfkgiimcnlagmaa.ints Go.Proofs.Ytfkgiimcnlagmaa.sig Go.Proofs.Ytfkgiimcnlagmaa.term Go.Proofs.Ytfkgiimcnlagmaa.termOk Go.Proofs.Ytfkgiimcnlagmaa.endAt Go.Proofs.Ytfkgiimcnlagmaa.endOf Go.Proofs.Ytfkgiimcnlagmaa.marks Go.Proofs.Ytfkgiimcnlagmaa.app Go.Proofs.Ytfkgiimcnlagmaa.sym Go.Proofs.Ytfkgiimcnlagmaa.sub Go.Proofs.Ytfkgiimcnlagmaa.segs Go.Proofs.Ytfkgiimcnlagmaa.segsHelp Go.Proofs.Ytfkgiimcnlagmaa.kinds Go.Proofs.Ytfkgiimcnlagmaa.termFacts Go.Proofs.Ytfkgiimcnlagmaa.shifted Go.Proofs.Ytfkgiimcnlagmaa.shape Go.Proofs.Ytfkgiimcnlagmaa.kindsR Go.Proofs.Ytfkgiimcnlagmaa.ruleMath Go.Proofs.Ytfkgiimcnlagmaa.ruleSpec Go.Proofs.Ytfkgiimcnlagmaa.ruleImpl Go.Proofs.Ytfkgiimcnlagmaa.stepMath Go.Proofs.Ytfkgiimcnlagmaa.walkMath Go.Proofs.Ytfkgiimcnlagmaa.stepsMath Go.Proofs.Ytfkgiimcnlagmaa.varsOf Go.Proofs.Ytfkgiimcnlagmaa.stepSpec Go.Proofs.Ytfkgiimcnlagmaa.stepImpl Go.Proofs.Ytfkgiimcnlagmaa.orderMath Go.Proofs.Ytfkgiimcnlagmaa.appAt Go.Proofs.Ytfkgiimcnlagmaa.orderSpec Go.Proofs.Ytfkgiimcnlagmaa.sortedC Go.Proofs.Ytfkgiimcnlagmaa.strat Go.Proofs.Ytfkgiimcnlagmaa.heldT Go.Proofs.Ytfkgiimcnlagmaa.orderImpl
set_option maxRecDepth 100000

/-- what strategyIn tells -/
def AnsStr (w : World) (a v : Value) (s : Int) (b : Bool) (e : Ending) (w' : World) : Prop := ∃ A1 n1 c1 A2 n2 c2 f, e = .returned (.tuple #[.agg #[.slice A1 n1 c1, .slice A2 n2 c2], f, .bool b]) ∧ (b = true → .slice A1 n1 c1 = a ∧ .slice A2 n2 c2 = v ∧ f = pickV a v s) ∧ Below w.heap.size w w'
theorem str_no1 {sg : List Int} {rs : List Rl} {t : List Int} {s : Int} (h : sysOkB sg rs = false) : (rightB sg rs t && stratB s) = false := by rw [right_sys h]; rfl

set_option maxHeartbeats 8000000 in
theorem strategyIn (a v u : Value) (d : Dat sSystem) (t : List Int) (s : Int) (w : World) (h : Rd w w.heap.size sSystem [a, v] d) (ht : Rd w w.heap.size sI [u] t) (hz : sz sSystem d ≤ 1048576) (hz' : sz sI t ≤ 1048576) (s1 : -9223372036854775808 ≤ s) (s2 : s ≤ 9223372036854775807) :
    Calls Try.prog 55 #[.agg #[a, v], u, .int .i64 s] w (AnsStr w a v s (rightB d.1 d.2 t && stratB s)) := by
  have h0 := h
  obtain ⟨T, m, c, rfl, hT, hcT⟩ := rd_ints.1 ht
  have hm := len_ints hT.1 hz'
  obtain ⟨A, n, cs, V, q, cv, rfl, rfl, hs, hc, hcv, hq, hn, hq1, hrs, hsg, hE⟩ := rd_sys h hz
  have hwf : (Lit.int .i64 s).wf = true := by simp [Lit.wf, IntKind.min, IntKind.max, IntKind.signed, IntKind.bits]; omega
  obtain ⟨W, hW, r0, r1, bel⟩ : ∃ W, W = (w.alloc (.cells #[.slice A n cs, .slice V q cv] 29)).alloc (.cells #[.slice none 0 0, .slice none 0 0] 66) ∧ Row W w.heap.size 29 #[.slice A n cs, .slice V q cv] ∧ Row W (w.heap.size + 1) 66 #[.slice none 0 0, .slice none 0 0] ∧ Below w.heap.size w W := by
    refine ⟨_, rfl, (Row.new w _ _).alloc _, ?_, ((Below.refl _ _).alloc (Nat.le_refl _) _).alloc (by simp) _⟩
    have := Row.new (w.alloc (.cells #[.slice A n cs, .slice V q cv] 29)) 66 #[.slice none 0 0, .slice none 0 0]
    simpa using this
  have HW := Lib.hid hW
  have LS := Lib.hid (systemOf _ _ d W (h0.next bel) hz)
  have LT := Lib.hid (fun (w1 : World) (bb : Below w.heap.size w w1) => implTermOk A T n cs m c d.1 t w1 (hs.next bb) (hT.next bb) hn hm)
  have K0 : W.cell? ⟨w.heap.size, 0, none⟩ = some (.slice A n cs) := r0.cell 0
  have K1 : W.cell? ⟨w.heap.size, 1, none⟩ = some (.slice V q cv) := r0.cell 1
  clear hW h h0 ht hT hcT hs hc hcv hq hrs hsg hE
  cases ok : sysOkB d.1 d.2 with
  | false =>
    have HS := Lib.hid (str_no1 (t := t) (s := s) ok)
    rw [ok] at LS
    have LS := Lib.hid (show Calls Try.prog 57 #[.agg #[.slice A n cs, .slice V q cv]] W (fun e w' => e = .returned (.tuple #[.agg #[.slice none 0 0, .slice none 0 0], .bool false]) ∧ Below W.heap.size W w') from LS.out)
    clear ok LT
    rw [HS.out]
    go_enter Try.func55, Try.ntmps55
    go_wp2_with fail
    rw [← HW.out]
    go_wp2_with fail
    refine LS.out.mono ?_
    rintro e w1 ⟨rfl, bb⟩
    replace r1 := r1.next bb
    replace bel := next_trans bel bb
    have zz1 : w.heap.size + 1 < w1.heap.size := r1.lt
    obtain ⟨W2, hW2⟩ : ∃ W2, W2 = w1.alloc (.cells #[.slice none 0 0, .slice none 0 0] 66) := ⟨_, rfl⟩
    have rS : Row W2 w1.heap.size 66 #[.slice none 0 0, .slice none 0 0] := by rw [hW2]; exact Row.new _ _ _
    have b2 : Below w1.heap.size w1 W2 := by rw [hW2]; exact (Below.refl _ _).alloc (Nat.le_refl _) _
    have j0 : W2.cell? ⟨w1.heap.size, 0, none⟩ = some (.slice none 0 0) := rS.cell 0
    have j1 : W2.cell? ⟨w1.heap.size, 1, none⟩ = some (.slice none 0 0) := rS.cell 1
    have LX := Lib.hid (strategies (.slice none 0 0) (.slice none 0 0) W2)
    have HW2 := Lib.hid hW2
    replace r1 := r1.next b2
    replace bel := next_trans bel b2
    clear bb b2 hW2 LS K0 K1 r0 HW
    go_wp2_with fail
    rw [← HW2.out]
    refine LX.out.mono ?_
    rintro e w3 ⟨b, rfl, hb, bb⟩
    obtain ⟨r, hr1, hr2, hr3⟩ := look_st (.slice none 0 0) (.slice none 0 0) s
    have hlk := run_look (P := Try.prog) (w := w3) Try.underlying123 Try.underlying2 hb s hwf .nilFunc (by kernel_rfl) r hr1
    rw [hr2, hr3] at hlk
    obtain ⟨pv, hpv⟩ : ∃ x, pickV (.slice none 0 0) (.slice none 0 0) s = x := ⟨_, rfl⟩
    obtain ⟨bs, hbs⟩ : ∃ x, stratB s = x := ⟨_, rfl⟩
    rw [hpv, hbs] at hlk
    clear hbs
    have HPV := Lib.hid hpv
    replace r1 := r1.next bb
    replace rS := rS.next bb
    replace bel := next_trans bel bb
    have zz2 : W2.heap.size ≤ w3.heap.size := bb.size
    clear hr1 hr2 hr3 hpv HW2 LX bb j0 j1 hb
    replace r1 := r1.next (drew_below w3)
    replace rS := rS.next (drew_below w3)
    replace bel := next_trans bel (drew_below w3)
    have c0 : w3.drew.cell? ⟨w1.heap.size, 0, none⟩ = some (.slice none 0 0) := rS.cell 0
    have c1 : w3.drew.cell? ⟨w1.heap.size, 1, none⟩ = some (.slice none 0 0) := rS.cell 1
    have HR1 := Lib.hid r1
    have HRS := Lib.hid rS
    have JB3 := Lib.hid bel
    clear r1 rS bel
    generalize w1.heap.size = B at *
    go_upto_region 3 with (fail)
    clear hlk
    refine AnyT.start (S := (fun w' => w'.cell? ⟨B, 0, none⟩ = some (.slice none 0 0) ∧ w'.cell? ⟨B, 1, none⟩ = some (.slice none 0 0))) (fun _ => false) (by kernel_rfl) ⟨c0, c1⟩ (fun hHeld => ?_)
    generalize w3.drew = w5 at *
    refine AnyT.take (i := 0) (v := ?_) rfl (by kernel_rfl) (by kernel_rfl) (by kernel_rfl) (by kernel_rfl) (fun _ _ _ h => h) (Or.inl ⟨by rfl, ?_⟩) (by assumption) ?_
    rotate_left 1
    · (intro w0 hSw; (try dsimp only at hSw); go_simp; try with_reducible rfl)
    try simp only [Act.put, List.setIfInBounds_toArray, List.set_cons_zero, List.set_cons_succ, List.getElem_toArray, List.getElem_cons_zero, List.getElem_cons_succ]
    refine AnyT.takeA (i := 1) (v := ?_) rfl (by kernel_rfl) (by kernel_rfl) (by kernel_rfl) (fun _ _ _ h => h) (Or.inl ⟨by rfl, ?_⟩) ?_
    rotate_left 1
    · (intro w0 _; go_simp; try with_reducible rfl)
    try simp only [Act.put, List.setIfInBounds_toArray, List.set_cons_zero, List.set_cons_succ, List.getElem_toArray, List.getElem_cons_zero, List.getElem_cons_succ]
    refine AnyT.takeA (i := 2) (v := ?_) rfl (by kernel_rfl) (by kernel_rfl) (by kernel_rfl) (fun _ _ _ h => h) (Or.inl ⟨by rfl, ?_⟩) ?_
    rotate_left 1
    · (intro w0 _; go_simp; try with_reducible rfl)
    try simp only [Act.put, List.setIfInBounds_toArray, List.set_cons_zero, List.set_cons_succ, List.getElem_toArray, List.getElem_cons_zero, List.getElem_cons_succ]
    refine AnyT.takeA (i := 3) (v := ?_) rfl (by kernel_rfl) (by kernel_rfl) (by kernel_rfl) (fun _ _ _ h => h) (Or.inl ⟨by rfl, ?_⟩) ?_
    rotate_left 1
    · (intro w0 _; go_simp; try with_reducible rfl)
    try simp only [Act.put, List.setIfInBounds_toArray, List.set_cons_zero, List.set_cons_succ, List.getElem_toArray, List.getElem_cons_zero, List.getElem_cons_succ]
    refine AnyT.takeA (i := 4) (v := undef) rfl (by kernel_rfl) (by kernel_rfl) (by kernel_rfl) (fun _ _ _ h => h) (Or.inr ⟨by rfl, rfl⟩) ?_
    try simp only [Act.put, List.setIfInBounds_toArray, List.set_cons_zero, List.set_cons_succ, List.getElem_toArray, List.getElem_cons_zero, List.getElem_cons_succ]
    refine AnyT.takeA (i := 5) (v := ?_) rfl (by kernel_rfl) (by kernel_rfl) (by kernel_rfl) (fun _ _ _ h => h) (Or.inl ⟨by rfl, ?_⟩) ?_
    rotate_left 1
    · (intro w0 _; go_simp; try with_reducible rfl)
    try simp only [Act.put, List.setIfInBounds_toArray, List.set_cons_zero, List.set_cons_succ, List.getElem_toArray, List.getElem_cons_zero, List.getElem_cons_succ]
    refine AnyT.takeA (i := 6) (v := ?_) rfl (by kernel_rfl) (by kernel_rfl) (by kernel_rfl) (fun _ _ _ h => h) (Or.inl ⟨by rfl, ?_⟩) ?_
    rotate_left 1
    · (intro w0 _; go_simp; try with_reducible rfl)
    try simp only [Act.put, List.setIfInBounds_toArray, List.set_cons_zero, List.set_cons_succ, List.getElem_toArray, List.getElem_cons_zero, List.getElem_cons_succ]
    refine AnyT.takeA (i := 7) (v := undef) rfl (by kernel_rfl) (by kernel_rfl) (by kernel_rfl) (fun _ _ _ h => h) (Or.inr ⟨by rfl, rfl⟩) ?_
    try simp only [Act.put, List.setIfInBounds_toArray, List.set_cons_zero, List.set_cons_succ, List.getElem_toArray, List.getElem_cons_zero, List.getElem_cons_succ]
    refine AnyT.takeA (i := 8) (v := undef) rfl (by kernel_rfl) (by kernel_rfl) (by kernel_rfl) (fun _ _ _ h => h) (Or.inr ⟨by rfl, rfl⟩) ?_
    try simp only [Act.put, List.setIfInBounds_toArray, List.set_cons_zero, List.set_cons_succ, List.getElem_toArray, List.getElem_cons_zero, List.getElem_cons_succ]
    refine AnyT.takeA (i := 9) (v := undef) rfl (by kernel_rfl) (by kernel_rfl) (by kernel_rfl) (fun _ _ _ h => h) (Or.inr ⟨by rfl, rfl⟩) ?_
    try simp only [Act.put, List.setIfInBounds_toArray, List.set_cons_zero, List.set_cons_succ, List.getElem_toArray, List.getElem_cons_zero, List.getElem_cons_succ]
    refine AnyT.call (i := 10) (by kernel_rfl) rfl (fun K hK => ?_)
    try simp only [Act.put, List.setIfInBounds_toArray, List.set_cons_zero, List.set_cons_succ, List.getElem_toArray, List.getElem_cons_zero, List.getElem_cons_succ]
    rw [if_neg (by intro h; cases h)]
    refine hK.out _ _ (fun _ h => h) (fun _ => ?_)
    clear hK K
    try simp only [Act.put, List.setIfInBounds_toArray, List.set_cons_zero, List.set_cons_succ, List.getElem_toArray, List.getElem_cons_zero, List.getElem_cons_succ]
    refine AnyT.takeA (i := 11) (v := ?_) rfl (by kernel_rfl) (by kernel_rfl) (by kernel_rfl) (fun _ _ _ h => h) (Or.inl ⟨by rfl, ?_⟩) ?_
    rotate_left 1
    · (intro w0 _; go_simp; try with_reducible rfl)
    try simp only [Act.put, List.setIfInBounds_toArray, List.set_cons_zero, List.set_cons_succ, List.getElem_toArray, List.getElem_cons_zero, List.getElem_cons_succ]
    have r9 := HR1.out
    have q9 := HRS.out
    have g0 := r9.free 0
    have g1 := r9.free 1
    have y0 : w5.cell? ⟨w.heap.size + 1, 0, none⟩ = some (.slice none 0 0) := r9.cell 0
    have y1 : w5.cell? ⟨w.heap.size + 1, 1, none⟩ = some (.slice none 0 0) := r9.cell 1
    have ra := r9.put 0 (.slice none 0 0)
    have y2 : (w5.setCell ⟨w.heap.size + 1, 0, none⟩ (.slice none 0 0)).cell? ⟨w.heap.size + 1, 1, none⟩ = some (.slice none 0 0) := ra.cell 1
    have g2 := ra.free 1
    have rb := ra.put 1 (.slice none 0 0)
    have u0 : ((w5.setCell ⟨w.heap.size + 1, 0, none⟩ (.slice none 0 0)).setCell ⟨w.heap.size + 1, 1, none⟩ (.slice none 0 0)).cell? ⟨w.heap.size + 1, 0, none⟩ = some (.slice none 0 0) := rb.cell 0
    have u1 : ((w5.setCell ⟨w.heap.size + 1, 0, none⟩ (.slice none 0 0)).setCell ⟨w.heap.size + 1, 1, none⟩ (.slice none 0 0)).cell? ⟨w.heap.size + 1, 1, none⟩ = some (.slice none 0 0) := rb.cell 1
    have a3 := (q9.far (show B ≠ w.heap.size + 1 by omega) (p := ⟨w.heap.size + 1, 0, none⟩) (.slice none 0 0)).far (show B ≠ w.heap.size + 1 by omega) (p := ⟨w.heap.size + 1, 1, none⟩) (.slice none 0 0)
    have HA3 := Lib.hid a3
    have hb9 : Below w.heap.size w w5 := JB3.out
    have HFZ := Lib.hid (show AnsStr w (.slice A n cs) (.slice V q cv) s false (.returned (.tuple #[.agg #[.slice none 0 0, .slice none 0 0], pv, .bool false])) ((w5.setCell ⟨w.heap.size + 1, 0, none⟩ (.slice none 0 0)).setCell ⟨w.heap.size + 1, 1, none⟩ (.slice none 0 0)) from ⟨_, _, _, _, _, _, pv, rfl, (fun e => by cases e), (hb9.setCell (show w.heap.size ≤ w.heap.size + 1 by omega) _).setCell (show w.heap.size ≤ w.heap.size + 1 by omega) _⟩)
    clear ra rb r9 q9 a3 hb9
    refine AnyT.call (i := 12) (by kernel_rfl) rfl (fun K hK => ?_)
    try simp only [Act.put, List.setIfInBounds_toArray, List.set_cons_zero, List.set_cons_succ, List.getElem_toArray, List.getElem_cons_zero, List.getElem_cons_succ]
    rw [if_pos (by rfl)]
    go_simp
    refine hK.out _ _ (fun _ _ => ?_) (fun hKeep => ?_)
    · exact ⟨HA3.out.cell 0, HA3.out.cell 1⟩
    replace hHeld := hKeep (by first | rfl | trivial) hHeld
    clear hK K hKeep
    try simp only [Act.put, List.setIfInBounds_toArray, List.set_cons_zero, List.set_cons_succ, List.getElem_toArray, List.getElem_cons_zero, List.getElem_cons_succ]
    refine AnyT.takeA (i := 13) (v := ?_) rfl (by kernel_rfl) (by kernel_rfl) (by kernel_rfl) (fun _ _ _ h => h) (Or.inl ⟨by rfl, ?_⟩) ?_
    rotate_left 1
    · (intro w0 _; go_simp; try with_reducible rfl)
    try simp only [Act.put, List.setIfInBounds_toArray, List.set_cons_zero, List.set_cons_succ, List.getElem_toArray, List.getElem_cons_zero, List.getElem_cons_succ]
    refine AnyT.takeA (i := 14) (v := ?_) rfl (by kernel_rfl) (by kernel_rfl) (by kernel_rfl) (fun _ _ _ h => h) (Or.inl ⟨by rfl, ?_⟩) ?_
    rotate_left 1
    · (intro w0 _; go_simp; try with_reducible rfl)
    try simp only [Act.put, List.setIfInBounds_toArray, List.set_cons_zero, List.set_cons_succ, List.getElem_toArray, List.getElem_cons_zero, List.getElem_cons_succ]
    refine AnyT.done (by kernel_rfl) ?_ _
    go_wp2
    exact bodyPost_ret (v := .tuple #[.agg #[.slice none 0 0, .slice none 0 0], pv, .bool false]) (by simp [results, Try.results55, go_sem, u0, u1]) rfl HFZ.out
  | true =>
    have HS := Lib.hid ok
    rw [ok] at LS
    have LS := Lib.hid (show Calls Try.prog 57 #[.agg #[.slice A n cs, .slice V q cv]] W (fun e w' => e = .returned (.tuple #[.agg #[.slice A n cs, .slice V q cv], .bool true]) ∧ Below W.heap.size W w') from LS.out)
    clear ok
    cases okst : stratB s with
    | false =>
      have HST := Lib.hid okst
      clear LT okst
      rw [show (rightB d.1 d.2 t && false) = false by simp]
      go_enter Try.func55, Try.ntmps55
      go_wp2_with fail
      rw [← HW.out]
      go_wp2_with fail
      refine LS.out.mono ?_
      rintro e w1 ⟨rfl, bb⟩
      replace r1 := r1.next bb
      replace bel := next_trans bel bb
      have zz1 : w.heap.size + 1 < w1.heap.size := r1.lt
      obtain ⟨W2, hW2⟩ : ∃ W2, W2 = w1.alloc (.cells #[.slice A n cs, .slice V q cv] 66) := ⟨_, rfl⟩
      have rS : Row W2 w1.heap.size 66 #[.slice A n cs, .slice V q cv] := by rw [hW2]; exact Row.new _ _ _
      have b2 : Below w1.heap.size w1 W2 := by rw [hW2]; exact (Below.refl _ _).alloc (Nat.le_refl _) _
      have j0 : W2.cell? ⟨w1.heap.size, 0, none⟩ = some (.slice A n cs) := rS.cell 0
      have j1 : W2.cell? ⟨w1.heap.size, 1, none⟩ = some (.slice V q cv) := rS.cell 1
      have LX := Lib.hid (strategies (.slice A n cs) (.slice V q cv) W2)
      have HW2 := Lib.hid hW2
      replace r1 := r1.next b2
      replace bel := next_trans bel b2
      clear bb b2 hW2 LS K0 K1 r0 HW
      go_wp2_with fail
      rw [← HW2.out]
      refine LX.out.mono ?_
      rintro e w3 ⟨b, rfl, hb, bb⟩
      obtain ⟨r, hr1, hr2, hr3⟩ := look_st (.slice A n cs) (.slice V q cv) s
      have hlk := run_look (P := Try.prog) (w := w3) Try.underlying123 Try.underlying2 hb s hwf .nilFunc (by kernel_rfl) r hr1
      rw [hr2, hr3] at hlk
      obtain ⟨pv, hpv⟩ : ∃ x, pickV (.slice A n cs) (.slice V q cv) s = x := ⟨_, rfl⟩
      rw [hpv, HST.out] at hlk
      have HPV := Lib.hid hpv
      replace r1 := r1.next bb
      replace rS := rS.next bb
      replace bel := next_trans bel bb
      have zz2 : W2.heap.size ≤ w3.heap.size := bb.size
      clear hr1 hr2 hr3 hpv HW2 LX bb j0 j1 hb
      replace r1 := r1.next (drew_below w3)
      replace rS := rS.next (drew_below w3)
      replace bel := next_trans bel (drew_below w3)
      have c0 : w3.drew.cell? ⟨w1.heap.size, 0, none⟩ = some (.slice A n cs) := rS.cell 0
      have c1 : w3.drew.cell? ⟨w1.heap.size, 1, none⟩ = some (.slice V q cv) := rS.cell 1
      have HR1 := Lib.hid r1
      have HRS := Lib.hid rS
      have JB3 := Lib.hid bel
      clear r1 rS bel
      generalize w1.heap.size = B at *
      go_upto_region 3 with (fail)
      clear hlk
      refine AnyT.start (S := (fun w' => w'.cell? ⟨B, 0, none⟩ = some (.slice A n cs) ∧ w'.cell? ⟨B, 1, none⟩ = some (.slice V q cv))) (fun _ => false) (by kernel_rfl) ⟨c0, c1⟩ (fun hHeld => ?_)
      generalize w3.drew = w5 at *
      refine AnyT.take (i := 0) (v := ?_) rfl (by kernel_rfl) (by kernel_rfl) (by kernel_rfl) (by kernel_rfl) (fun _ _ _ h => h) (Or.inl ⟨by rfl, ?_⟩) (by assumption) ?_
      rotate_left 1
      · (intro w0 hSw; (try dsimp only at hSw); go_simp; try with_reducible rfl)
      try simp only [Act.put, List.setIfInBounds_toArray, List.set_cons_zero, List.set_cons_succ, List.getElem_toArray, List.getElem_cons_zero, List.getElem_cons_succ]
      refine AnyT.takeA (i := 1) (v := ?_) rfl (by kernel_rfl) (by kernel_rfl) (by kernel_rfl) (fun _ _ _ h => h) (Or.inl ⟨by rfl, ?_⟩) ?_
      rotate_left 1
      · (intro w0 _; go_simp; try with_reducible rfl)
      try simp only [Act.put, List.setIfInBounds_toArray, List.set_cons_zero, List.set_cons_succ, List.getElem_toArray, List.getElem_cons_zero, List.getElem_cons_succ]
      refine AnyT.takeA (i := 2) (v := ?_) rfl (by kernel_rfl) (by kernel_rfl) (by kernel_rfl) (fun _ _ _ h => h) (Or.inl ⟨by rfl, ?_⟩) ?_
      rotate_left 1
      · (intro w0 _; go_simp; try with_reducible rfl)
      try simp only [Act.put, List.setIfInBounds_toArray, List.set_cons_zero, List.set_cons_succ, List.getElem_toArray, List.getElem_cons_zero, List.getElem_cons_succ]
      refine AnyT.takeA (i := 3) (v := ?_) rfl (by kernel_rfl) (by kernel_rfl) (by kernel_rfl) (fun _ _ _ h => h) (Or.inl ⟨by rfl, ?_⟩) ?_
      rotate_left 1
      · (intro w0 _; go_simp; try with_reducible rfl)
      try simp only [Act.put, List.setIfInBounds_toArray, List.set_cons_zero, List.set_cons_succ, List.getElem_toArray, List.getElem_cons_zero, List.getElem_cons_succ]
      refine AnyT.takeA (i := 4) (v := ?_) rfl (by kernel_rfl) (by kernel_rfl) (by kernel_rfl) (fun _ _ _ h => h) (Or.inl ⟨by rfl, ?_⟩) ?_
      rotate_left 1
      · (intro w0 _; go_simp; try with_reducible rfl)
      try simp only [Act.put, List.setIfInBounds_toArray, List.set_cons_zero, List.set_cons_succ, List.getElem_toArray, List.getElem_cons_zero, List.getElem_cons_succ]
      refine AnyT.takeA (i := 5) (v := ?_) rfl (by kernel_rfl) (by kernel_rfl) (by kernel_rfl) (fun _ _ _ h => h) (Or.inl ⟨by rfl, ?_⟩) ?_
      rotate_left 1
      · (intro w0 _; go_simp; try with_reducible rfl)
      try simp only [Act.put, List.setIfInBounds_toArray, List.set_cons_zero, List.set_cons_succ, List.getElem_toArray, List.getElem_cons_zero, List.getElem_cons_succ]
      refine AnyT.takeA (i := 6) (v := ?_) rfl (by kernel_rfl) (by kernel_rfl) (by kernel_rfl) (fun _ _ _ h => h) (Or.inl ⟨by rfl, ?_⟩) ?_
      rotate_left 1
      · (intro w0 _; go_simp; try with_reducible rfl)
      try simp only [Act.put, List.setIfInBounds_toArray, List.set_cons_zero, List.set_cons_succ, List.getElem_toArray, List.getElem_cons_zero, List.getElem_cons_succ]
      refine AnyT.takeA (i := 7) (v := undef) rfl (by kernel_rfl) (by kernel_rfl) (by kernel_rfl) (fun _ _ _ h => h) (Or.inr ⟨by rfl, rfl⟩) ?_
      try simp only [Act.put, List.setIfInBounds_toArray, List.set_cons_zero, List.set_cons_succ, List.getElem_toArray, List.getElem_cons_zero, List.getElem_cons_succ]
      refine AnyT.takeA (i := 8) (v := undef) rfl (by kernel_rfl) (by kernel_rfl) (by kernel_rfl) (fun _ _ _ h => h) (Or.inr ⟨by rfl, rfl⟩) ?_
      try simp only [Act.put, List.setIfInBounds_toArray, List.set_cons_zero, List.set_cons_succ, List.getElem_toArray, List.getElem_cons_zero, List.getElem_cons_succ]
      refine AnyT.takeA (i := 9) (v := undef) rfl (by kernel_rfl) (by kernel_rfl) (by kernel_rfl) (fun _ _ _ h => h) (Or.inr ⟨by rfl, rfl⟩) ?_
      try simp only [Act.put, List.setIfInBounds_toArray, List.set_cons_zero, List.set_cons_succ, List.getElem_toArray, List.getElem_cons_zero, List.getElem_cons_succ]
      refine AnyT.call (i := 10) (by kernel_rfl) rfl (fun K hK => ?_)
      try simp only [Act.put, List.setIfInBounds_toArray, List.set_cons_zero, List.set_cons_succ, List.getElem_toArray, List.getElem_cons_zero, List.getElem_cons_succ]
      rw [if_neg (by intro h; cases h)]
      refine hK.out _ _ (fun _ h => h) (fun _ => ?_)
      clear hK K
      try simp only [Act.put, List.setIfInBounds_toArray, List.set_cons_zero, List.set_cons_succ, List.getElem_toArray, List.getElem_cons_zero, List.getElem_cons_succ]
      refine AnyT.takeA (i := 11) (v := ?_) rfl (by kernel_rfl) (by kernel_rfl) (by kernel_rfl) (fun _ _ _ h => h) (Or.inl ⟨by rfl, ?_⟩) ?_
      rotate_left 1
      · (intro w0 _; go_simp; try with_reducible rfl)
      try simp only [Act.put, List.setIfInBounds_toArray, List.set_cons_zero, List.set_cons_succ, List.getElem_toArray, List.getElem_cons_zero, List.getElem_cons_succ]
      have r9 := HR1.out
      have q9 := HRS.out
      have g0 := r9.free 0
      have g1 := r9.free 1
      have y0 : w5.cell? ⟨w.heap.size + 1, 0, none⟩ = some (.slice none 0 0) := r9.cell 0
      have y1 : w5.cell? ⟨w.heap.size + 1, 1, none⟩ = some (.slice none 0 0) := r9.cell 1
      have ra := r9.put 0 (.slice A n cs)
      have y2 : (w5.setCell ⟨w.heap.size + 1, 0, none⟩ (.slice A n cs)).cell? ⟨w.heap.size + 1, 1, none⟩ = some (.slice none 0 0) := ra.cell 1
      have g2 := ra.free 1
      have rb := ra.put 1 (.slice V q cv)
      have u0 : ((w5.setCell ⟨w.heap.size + 1, 0, none⟩ (.slice A n cs)).setCell ⟨w.heap.size + 1, 1, none⟩ (.slice V q cv)).cell? ⟨w.heap.size + 1, 0, none⟩ = some (.slice A n cs) := rb.cell 0
      have u1 : ((w5.setCell ⟨w.heap.size + 1, 0, none⟩ (.slice A n cs)).setCell ⟨w.heap.size + 1, 1, none⟩ (.slice V q cv)).cell? ⟨w.heap.size + 1, 1, none⟩ = some (.slice V q cv) := rb.cell 1
      have a3 := (q9.far (show B ≠ w.heap.size + 1 by omega) (p := ⟨w.heap.size + 1, 0, none⟩) (.slice A n cs)).far (show B ≠ w.heap.size + 1 by omega) (p := ⟨w.heap.size + 1, 1, none⟩) (.slice V q cv)
      have HA3 := Lib.hid a3
      have hb9 : Below w.heap.size w w5 := JB3.out
      have HFZ := Lib.hid (show AnsStr w (.slice A n cs) (.slice V q cv) s false (.returned (.tuple #[.agg #[.slice A n cs, .slice V q cv], pv, .bool false])) ((w5.setCell ⟨w.heap.size + 1, 0, none⟩ (.slice A n cs)).setCell ⟨w.heap.size + 1, 1, none⟩ (.slice V q cv)) from ⟨_, _, _, _, _, _, pv, rfl, (fun e => by cases e), (hb9.setCell (show w.heap.size ≤ w.heap.size + 1 by omega) _).setCell (show w.heap.size ≤ w.heap.size + 1 by omega) _⟩)
      clear ra rb r9 q9 a3 hb9
      refine AnyT.call (i := 12) (by kernel_rfl) rfl (fun K hK => ?_)
      try simp only [Act.put, List.setIfInBounds_toArray, List.set_cons_zero, List.set_cons_succ, List.getElem_toArray, List.getElem_cons_zero, List.getElem_cons_succ]
      rw [if_pos (by rfl)]
      go_simp
      refine hK.out _ _ (fun _ _ => ?_) (fun hKeep => ?_)
      · exact ⟨HA3.out.cell 0, HA3.out.cell 1⟩
      replace hHeld := hKeep (by first | rfl | trivial) hHeld
      clear hK K hKeep
      try simp only [Act.put, List.setIfInBounds_toArray, List.set_cons_zero, List.set_cons_succ, List.getElem_toArray, List.getElem_cons_zero, List.getElem_cons_succ]
      refine AnyT.takeA (i := 13) (v := ?_) rfl (by kernel_rfl) (by kernel_rfl) (by kernel_rfl) (fun _ _ _ h => h) (Or.inl ⟨by rfl, ?_⟩) ?_
      rotate_left 1
      · (intro w0 _; go_simp; try with_reducible rfl)
      try simp only [Act.put, List.setIfInBounds_toArray, List.set_cons_zero, List.set_cons_succ, List.getElem_toArray, List.getElem_cons_zero, List.getElem_cons_succ]
      refine AnyT.takeA (i := 14) (v := ?_) rfl (by kernel_rfl) (by kernel_rfl) (by kernel_rfl) (fun _ _ _ h => h) (Or.inl ⟨by rfl, ?_⟩) ?_
      rotate_left 1
      · (intro w0 _; go_simp; try with_reducible rfl)
      try simp only [Act.put, List.setIfInBounds_toArray, List.set_cons_zero, List.set_cons_succ, List.getElem_toArray, List.getElem_cons_zero, List.getElem_cons_succ]
      refine AnyT.done (by kernel_rfl) ?_ _
      go_wp2
      exact bodyPost_ret (v := .tuple #[.agg #[.slice A n cs, .slice V q cv], pv, .bool false]) (by simp [results, Try.results55, go_sem, u0, u1]) rfl HFZ.out
    | true =>
      have HST := Lib.hid okst
      clear okst
      obtain ⟨bt, hbt⟩ : ∃ b, termOkB d.1 t = b := ⟨_, rfl⟩
      have HBT := Lib.hid (show rightB d.1 d.2 t = bt by unfold rightB; rw [HS.out, hbt]; rfl)
      rw [HBT.out, Bool.and_true]
      have HBE := Lib.hid hbt
      clear hbt
      go_enter Try.func55, Try.ntmps55
      go_wp2_with fail
      rw [← HW.out]
      go_wp2_with fail
      refine LS.out.mono ?_
      rintro e w1 ⟨rfl, bb⟩
      replace r1 := r1.next bb
      replace bel := next_trans bel bb
      have zz1 : w.heap.size + 1 < w1.heap.size := r1.lt
      obtain ⟨W2, hW2⟩ : ∃ W2, W2 = w1.alloc (.cells #[.slice A n cs, .slice V q cv] 66) := ⟨_, rfl⟩
      have rS : Row W2 w1.heap.size 66 #[.slice A n cs, .slice V q cv] := by rw [hW2]; exact Row.new _ _ _
      have b2 : Below w1.heap.size w1 W2 := by rw [hW2]; exact (Below.refl _ _).alloc (Nat.le_refl _) _
      have j0 : W2.cell? ⟨w1.heap.size, 0, none⟩ = some (.slice A n cs) := rS.cell 0
      have j1 : W2.cell? ⟨w1.heap.size, 1, none⟩ = some (.slice V q cv) := rS.cell 1
      have LX := Lib.hid (strategies (.slice A n cs) (.slice V q cv) W2)
      have HW2 := Lib.hid hW2
      replace r1 := r1.next b2
      replace bel := next_trans bel b2
      clear bb b2 hW2 LS K0 K1 r0 HW
      go_wp2_with fail
      rw [← HW2.out]
      refine LX.out.mono ?_
      rintro e w3 ⟨b, rfl, hb, bb⟩
      obtain ⟨r, hr1, hr2, hr3⟩ := look_st (.slice A n cs) (.slice V q cv) s
      have hlk := run_look (P := Try.prog) (w := w3) Try.underlying123 Try.underlying2 hb s hwf .nilFunc (by kernel_rfl) r hr1
      rw [hr2, hr3] at hlk
      obtain ⟨pv, hpv⟩ : ∃ x, pickV (.slice A n cs) (.slice V q cv) s = x := ⟨_, rfl⟩
      rw [hpv, HST.out] at hlk
      have HPV := Lib.hid hpv
      replace r1 := r1.next bb
      replace rS := rS.next bb
      replace bel := next_trans bel bb
      have zz2 : W2.heap.size ≤ w3.heap.size := bb.size
      clear hr1 hr2 hr3 hpv HW2 LX bb j0 j1 hb
      replace r1 := r1.next (drew_below w3)
      replace rS := rS.next (drew_below w3)
      replace bel := next_trans bel (drew_below w3)
      have c0 : w3.drew.cell? ⟨w1.heap.size, 0, none⟩ = some (.slice A n cs) := rS.cell 0
      have c1 : w3.drew.cell? ⟨w1.heap.size, 1, none⟩ = some (.slice V q cv) := rS.cell 1
      have HR1 := Lib.hid r1
      have HRS := Lib.hid rS
      have JB3 := Lib.hid bel
      clear r1 rS bel
      generalize w1.heap.size = B at *
      go_upto_region 3 with (fail)
      clear hlk
      have LT1 := Lib.hid (LT.out w3.drew JB3.out)
      unfold AnsTerm at LT1
      rw [HBE.out] at LT1
      clear LT
      have zB : B < w3.drew.heap.size := HRS.out.lt
      refine AnyT.start (S := (fun w' => w'.cell? ⟨B, 0, none⟩ = some (.slice A n cs) ∧ w'.cell? ⟨B, 1, none⟩ = some (.slice V q cv))) (fun _ => false) (by kernel_rfl) ⟨c0, c1⟩ (fun hHeld => ?_)
      generalize w3.drew = w5 at *
      refine AnyT.take (i := 0) (v := ?_) rfl (by kernel_rfl) (by kernel_rfl) (by kernel_rfl) (by kernel_rfl) (fun _ _ _ h => h) (Or.inl ⟨by rfl, ?_⟩) (by assumption) ?_
      rotate_left 1
      · (intro w0 hSw; (try dsimp only at hSw); go_simp; try with_reducible rfl)
      try simp only [Act.put, List.setIfInBounds_toArray, List.set_cons_zero, List.set_cons_succ, List.getElem_toArray, List.getElem_cons_zero, List.getElem_cons_succ]
      refine AnyT.takeA (i := 1) (v := ?_) rfl (by kernel_rfl) (by kernel_rfl) (by kernel_rfl) (fun _ _ _ h => h) (Or.inl ⟨by rfl, ?_⟩) ?_
      rotate_left 1
      · (intro w0 _; go_simp; try with_reducible rfl)
      try simp only [Act.put, List.setIfInBounds_toArray, List.set_cons_zero, List.set_cons_succ, List.getElem_toArray, List.getElem_cons_zero, List.getElem_cons_succ]
      refine AnyT.takeA (i := 2) (v := ?_) rfl (by kernel_rfl) (by kernel_rfl) (by kernel_rfl) (fun _ _ _ h => h) (Or.inl ⟨by rfl, ?_⟩) ?_
      rotate_left 1
      · (intro w0 _; go_simp; try with_reducible rfl)
      try simp only [Act.put, List.setIfInBounds_toArray, List.set_cons_zero, List.set_cons_succ, List.getElem_toArray, List.getElem_cons_zero, List.getElem_cons_succ]
      refine AnyT.takeA (i := 3) (v := ?_) rfl (by kernel_rfl) (by kernel_rfl) (by kernel_rfl) (fun _ _ _ h => h) (Or.inl ⟨by rfl, ?_⟩) ?_
      rotate_left 1
      · (intro w0 _; go_simp; try with_reducible rfl)
      try simp only [Act.put, List.setIfInBounds_toArray, List.set_cons_zero, List.set_cons_succ, List.getElem_toArray, List.getElem_cons_zero, List.getElem_cons_succ]
      refine AnyT.takeA (i := 4) (v := ?_) rfl (by kernel_rfl) (by kernel_rfl) (by kernel_rfl) (fun _ _ _ h => h) (Or.inl ⟨by rfl, ?_⟩) ?_
      rotate_left 1
      · (intro w0 _; go_simp; try with_reducible rfl)
      try simp only [Act.put, List.setIfInBounds_toArray, List.set_cons_zero, List.set_cons_succ, List.getElem_toArray, List.getElem_cons_zero, List.getElem_cons_succ]
      refine AnyT.takeA (i := 5) (v := ?_) rfl (by kernel_rfl) (by kernel_rfl) (by kernel_rfl) (fun _ _ _ h => h) (Or.inl ⟨by rfl, ?_⟩) ?_
      rotate_left 1
      · (intro w0 _; go_simp; try with_reducible rfl)
      try simp only [Act.put, List.setIfInBounds_toArray, List.set_cons_zero, List.set_cons_succ, List.getElem_toArray, List.getElem_cons_zero, List.getElem_cons_succ]
      refine AnyT.takeA (i := 6) (v := ?_) rfl (by kernel_rfl) (by kernel_rfl) (by kernel_rfl) (fun _ _ _ h => h) (Or.inl ⟨by rfl, ?_⟩) ?_
      rotate_left 1
      · (intro w0 _; go_simp; try with_reducible rfl)
      try simp only [Act.put, List.setIfInBounds_toArray, List.set_cons_zero, List.set_cons_succ, List.getElem_toArray, List.getElem_cons_zero, List.getElem_cons_succ]
      refine AnyT.takeA (i := 7) (v := ?_) rfl (by kernel_rfl) (by kernel_rfl) (by kernel_rfl) (fun _ _ _ h => h) (Or.inl ⟨by rfl, ?_⟩) ?_
      rotate_left 1
      · (intro w0 _; go_simp; try with_reducible rfl)
      try simp only [Act.put, List.setIfInBounds_toArray, List.set_cons_zero, List.set_cons_succ, List.getElem_toArray, List.getElem_cons_zero, List.getElem_cons_succ]
      refine AnyT.take (i := 8) (v := ?_) rfl (by kernel_rfl) (by kernel_rfl) (by kernel_rfl) (by kernel_rfl) (fun _ _ _ h => h) (Or.inl ⟨by rfl, ?_⟩) (by assumption) ?_
      rotate_left 1
      · (intro w0 hSw; (try dsimp only at hSw); go_simp; try with_reducible rfl)
      try simp only [Act.put, List.setIfInBounds_toArray, List.set_cons_zero, List.set_cons_succ, List.getElem_toArray, List.getElem_cons_zero, List.getElem_cons_succ]
      refine AnyT.takeA (i := 9) (v := ?_) rfl (by kernel_rfl) (by kernel_rfl) (by kernel_rfl) (fun _ _ _ h => h) (Or.inl ⟨by rfl, ?_⟩) ?_
      rotate_left 1
      · (intro w0 _; go_simp; try with_reducible rfl)
      try simp only [Act.put, List.setIfInBounds_toArray, List.set_cons_zero, List.set_cons_succ, List.getElem_toArray, List.getElem_cons_zero, List.getElem_cons_succ]
      refine AnyT.call (i := 10) (by kernel_rfl) rfl (fun K hK => ?_)
      try simp only [Act.put, List.setIfInBounds_toArray, List.set_cons_zero, List.set_cons_succ, List.getElem_toArray, List.getElem_cons_zero, List.getElem_cons_succ]
      rw [if_pos (by rfl)]
      go_simp
      (go_at_call 73; refine LT1.out.mono ?_; rintro e w9 ⟨rfl, bb9⟩; have e0 : w9.cell? ⟨B, 0, none⟩ = some (.slice A n cs) := (bb9.cell (p := ⟨B, 0, none⟩) zB).trans c0; have e1 : w9.cell? ⟨B, 1, none⟩ = some (.slice V q cv) := (bb9.cell (p := ⟨B, 1, none⟩) zB).trans c1; go_wp2_with fail)
      refine hK.out _ _ (fun _ _ => ?_) (fun hKeep => ?_)
      · exact ⟨e0, e1⟩
      replace hHeld := hKeep (by first | rfl | trivial) hHeld
      clear hK K hKeep
      try simp only [Act.put, List.setIfInBounds_toArray, List.set_cons_zero, List.set_cons_succ, List.getElem_toArray, List.getElem_cons_zero, List.getElem_cons_succ]
      refine AnyT.takeA (i := 11) (v := ?_) rfl (by kernel_rfl) (by kernel_rfl) (by kernel_rfl) (fun _ _ _ h => h) (Or.inl ⟨by rfl, ?_⟩) ?_
      rotate_left 1
      · (intro w0 _; go_simp; try with_reducible rfl)
      try simp only [Act.put, List.setIfInBounds_toArray, List.set_cons_zero, List.set_cons_succ, List.getElem_toArray, List.getElem_cons_zero, List.getElem_cons_succ]
      have r9 := HR1.out.next bb9
      have q9 := HRS.out.next bb9
      have g0 := r9.free 0
      have g1 := r9.free 1
      have y0 : w9.cell? ⟨w.heap.size + 1, 0, none⟩ = some (.slice none 0 0) := r9.cell 0
      have y1 : w9.cell? ⟨w.heap.size + 1, 1, none⟩ = some (.slice none 0 0) := r9.cell 1
      have ra := r9.put 0 (.slice A n cs)
      have y2 : (w9.setCell ⟨w.heap.size + 1, 0, none⟩ (.slice A n cs)).cell? ⟨w.heap.size + 1, 1, none⟩ = some (.slice none 0 0) := ra.cell 1
      have g2 := ra.free 1
      have rb := ra.put 1 (.slice V q cv)
      have u0 : ((w9.setCell ⟨w.heap.size + 1, 0, none⟩ (.slice A n cs)).setCell ⟨w.heap.size + 1, 1, none⟩ (.slice V q cv)).cell? ⟨w.heap.size + 1, 0, none⟩ = some (.slice A n cs) := rb.cell 0
      have u1 : ((w9.setCell ⟨w.heap.size + 1, 0, none⟩ (.slice A n cs)).setCell ⟨w.heap.size + 1, 1, none⟩ (.slice V q cv)).cell? ⟨w.heap.size + 1, 1, none⟩ = some (.slice V q cv) := rb.cell 1
      have a3 := (q9.far (show B ≠ w.heap.size + 1 by omega) (p := ⟨w.heap.size + 1, 0, none⟩) (.slice A n cs)).far (show B ≠ w.heap.size + 1 by omega) (p := ⟨w.heap.size + 1, 1, none⟩) (.slice V q cv)
      have HA3 := Lib.hid a3
      have hb9 : Below w.heap.size w w9 := next_trans JB3.out bb9
      have HFZ := Lib.hid (show AnsStr w (.slice A n cs) (.slice V q cv) s bt (.returned (.tuple #[.agg #[.slice A n cs, .slice V q cv], pv, .bool bt])) ((w9.setCell ⟨w.heap.size + 1, 0, none⟩ (.slice A n cs)).setCell ⟨w.heap.size + 1, 1, none⟩ (.slice V q cv)) from ⟨_, _, _, _, _, _, pv, rfl, (fun _ => ⟨rfl, rfl, HPV.out.symm⟩), (hb9.setCell (show w.heap.size ≤ w.heap.size + 1 by omega) _).setCell (show w.heap.size ≤ w.heap.size + 1 by omega) _⟩)
      clear ra rb r9 q9 a3 hb9
      refine AnyT.call (i := 12) (by kernel_rfl) rfl (fun K hK => ?_)
      try simp only [Act.put, List.setIfInBounds_toArray, List.set_cons_zero, List.set_cons_succ, List.getElem_toArray, List.getElem_cons_zero, List.getElem_cons_succ]
      rw [if_pos (by rfl)]
      go_simp
      refine hK.out _ _ (fun _ _ => ?_) (fun hKeep => ?_)
      · exact ⟨HA3.out.cell 0, HA3.out.cell 1⟩
      replace hHeld := hKeep (by first | rfl | trivial) hHeld
      clear hK K hKeep
      try simp only [Act.put, List.setIfInBounds_toArray, List.set_cons_zero, List.set_cons_succ, List.getElem_toArray, List.getElem_cons_zero, List.getElem_cons_succ]
      refine AnyT.takeA (i := 13) (v := ?_) rfl (by kernel_rfl) (by kernel_rfl) (by kernel_rfl) (fun _ _ _ h => h) (Or.inl ⟨by rfl, ?_⟩) ?_
      rotate_left 1
      · (intro w0 _; go_simp; try with_reducible rfl)
      try simp only [Act.put, List.setIfInBounds_toArray, List.set_cons_zero, List.set_cons_succ, List.getElem_toArray, List.getElem_cons_zero, List.getElem_cons_succ]
      refine AnyT.takeA (i := 14) (v := ?_) rfl (by kernel_rfl) (by kernel_rfl) (by kernel_rfl) (fun _ _ _ h => h) (Or.inl ⟨by rfl, ?_⟩) ?_
      rotate_left 1
      · (intro w0 _; go_simp; try with_reducible rfl)
      try simp only [Act.put, List.setIfInBounds_toArray, List.set_cons_zero, List.set_cons_succ, List.getElem_toArray, List.getElem_cons_zero, List.getElem_cons_succ]
      refine AnyT.done (by kernel_rfl) ?_ _
      go_wp2
      exact bodyPost_ret (v := .tuple #[.agg #[.slice A n cs, .slice V q cv], pv, .bool bt]) (by simp [results, Try.results55, go_sem, u0, u1]) rfl HFZ.out

/-- a strategy's function lists the places, the selected one first -/
def PickFn (g : Nat) (a v : Value) (d : Dat sSystem) (s : Int) (w : World) : Prop := ∀ (W : World) (u : Value) (t : List Int), Below w.heap.size w W → Rd W W.heap.size sI [u] t → rightB d.1 d.2 t = true → ∃ L, L.head? = (selL d.1 d.2 t s).head? ∧ L.length ≤ 60 ∧ Calls Try.prog g #[.agg #[a, v], u] W (AnsList W L)
theorem PickFn.next {g : Nat} {a v : Value} {d : Dat sSystem} {s : Int} {w w' : World} (h : PickFn g a v d s w) (hb : Below w.heap.size w w') : PickFn g a v d s w' := fun W u t bb ht hr => h W u t (next_trans hb bb) ht hr
theorem pickFn {a v : Value} {d : Dat sSystem} {w : World} {s : Int} (h : Rd w w.heap.size sSystem [a, v] d) (hz : sz sSystem d ≤ 1048576) (hs : stratB s = true) : (∀ args w, (callFunc (pickG s) args).run Try.prog w = .ok (.enter (pickG s) args) w) ∧ PickFn (pickG s) a v d s w := by
  have hs : 1 ≤ s ∧ s ≤ 3 := of_decide_eq_true hs
  have hs : s = 1 ∨ s = 2 ∨ s = 3 := by omega
  rcases hs with rfl | rfl | rfl
  · refine ⟨enters_of Try.func48 (by kernel_rfl) rfl, fun W u t bb ht hr => ?_⟩
    exact ⟨inmostI d.1 d.2 t, by unfold inmostI selL; rw [← placesL_eq hr]; rfl, Nat.le_trans (in_len _ _ _) placesI_len, inmost a v u d t W (h.next bb) ht hz hr⟩
  · refine ⟨enters_of Try.func49 (by kernel_rfl) rfl, fun W u t bb ht hr => ?_⟩
    exact ⟨outmostI d.1 d.2 t, by rw [outI_head]; unfold selL; rw [← placesL_eq hr]; rfl, Nat.le_trans (out_len _ _ _) placesI_len, outmost a v u d t W (h.next bb) ht hz hr⟩
  · refine ⟨enters_of Try.func121 (by kernel_rfl) rfl, fun W u t bb ht hr => ?_⟩
    exact ⟨(placesI d.1 d.2 t).reverse, by unfold selL; rw [← placesL_eq hr]; rfl, by rw [List.length_reverse]; exact placesI_len, backward a v u d t W (h.next bb) ht hz hr⟩

theorem red_pick {sg : List Int} {rs : List Rl} {t : List Int} {p j : Nat} (hr : rightB sg rs t = true) (hp : p < t.length) (hj : j < rs.length) : redexB sg rs t (p : Int) (j : Int) = redB sg (rs.getD j ([], [])) t p := by
  rw [redex_yes (there_mk (right_parts hr).1 (right_parts hr).2 (by omega) (by omega))]
  unfold rl
  rw [Int.toNat_natCast, Int.toNat_natCast]

set_option maxHeartbeats 4000000 in
theorem selected (g : Nat) (eg : ∀ args w, (callFunc g args).run Try.prog w = .ok (.enter g args) w) (a v u : Value) (d : Dat sSystem) (t : List Int) (s : Int) (w : World) (h : Rd w w.heap.size sSystem [a, v] d) (ht : Rd w w.heap.size sI [u] t) (hz : sz sSystem d ≤ 1048576) (hok : rightB d.1 d.2 t = true) (hg : PickFn g a v d s w) :
    Calls Try.prog 56 #[.agg #[a, v], u, .func (.func g) #[.agg #[a, v]] #[]] w (AnsPick w (pickL d.1 d.2 t s)) := by
  have ht60 := (term_len (right_parts hok).2).2
  have hz' : sz sI t ≤ 1048576 := by rw [sz_ints]; omega
  obtain ⟨W, hW, rA, bel⟩ := box1 w 66 #[a, v]
  have HW := Lib.hid hW
  obtain ⟨L, hL1, hL2, hL3⟩ := hg W u t bel (ht.next bel) hok
  have LG := Lib.hid hL3
  have LH := Lib.hid (fun (w1 : World) (bb : Below w.heap.size w w1) x r => hasRedex a v u d t x r w1 (h.next bb) (ht.next bb) hz hz' (right_parts hok).1)
  obtain ⟨T, m, c, rfl, -, -⟩ := rd_ints.1 ht
  have zW : w.heap.size < W.heap.size := rA.lt
  clear hW h ht hg hL3
  go_enter Try.func56, Try.ntmps56
  go_wp2_with (go_at_fn g; rw [← HW.out]; refine LG.out.mono ?_; rintro e w1 ⟨O, on, oc, rfl, oO, bb⟩; refine (?_ : Hid _).out)
  have hlen := Own.len oO
  replace rA := rA.next bb
  replace bel := next_trans bel bb
  cases hL : L with
  | nil =>
    rw [hL] at hL1 hlen
    replace hlen : on = 0 := hlen
    subst hlen
    have F := Lib.hid (ansPick_none (w := w) (pickL_nil hL1.symm) bel)
    clear oO bb bel rA LG LH HW hL1 hL hL2
    refine Lib.hid ?_
    go_wp2
    go_ret3
    exact F.out
  | cons x r =>
    rw [hL] at hL1 hlen hL2
    replace hlen : on = r.length + 1 := hlen
    obtain ⟨p, rfl, hp⟩ := sel_at hL1.symm
    obtain ⟨b, off, y, rfl, hb, cy, ey⟩ := (Own.seg oO).spot (k := 0) (by omega)
    have ey : y = (p : Int) := by have := ey.out; rw [hL] at this; simpa using this.symm
    subst ey
    obtain ⟨pa, k, epk, hpa, hk, hred, hlow, -⟩ := pick_step (s := s) hok (pickL_at hL1.symm)
    obtain ⟨q1, q2⟩ := Prod.mk.inj epk
    have e1 : pa = p := by omega
    have e2 : ruleF d.1 d.2 t p = (k : Int) := by simpa using q2
    subst e1
    have HPK := Lib.hid (show pickL d.1 d.2 t s = some ((pa : Int), (k : Int)) by rw [pickL_at hL1.symm]; simp [e2])
    have HLH := Lib.hid (fun (w1 : World) (bb : Below w.heap.size w w1) (j : Nat) (hj : j ≤ k) => (show Calls Try.prog 58 #[.agg #[a, v], .slice T m c, .int .i64 (pa : Int), .int .i64 (j : Int)] w1 (AnsB w1 (decide (j = k))) from by
      have h1 := LH.out w1 bb (pa : Int) (j : Int)
      rw [red_pick hok hpa (by omega)] at h1
      by_cases hjk : j = k
      · subst hjk
        rw [hred] at h1
        rw [decide_eq_true rfl]
        exact h1
      · rw [hlow j (by omega)] at h1
        rw [decide_eq_false hjk]
        exact h1))
    have H0 := Lib.hid (show Row w1 w.heap.size 66 #[a, v] ∧ Below w.heap.size w w1 from ⟨rA, bel⟩)
    have cy0 : w1.cell? ⟨b, off, none⟩ = some (.int .i64 (pa : Int)) := cy
    have on0 : 0 < on := by omega
    have on1 : (0 : Int) < (on : Int) := by omega
    have hne : ¬ on = 0 := by omega
    have hne2 : ¬ (on : Int) = 0 := by omega
    have hb0 : ((on : Int) == 0) = false := by simpa using hne2
    have hk12 : k ≤ 12 := by have := (sys_parts (right_parts hok).1).2.1; omega
    clear cy oO hL1 hL bb bel rA LG LH hlen hL2 epk hred hlow e2 q1 q2
    refine Lib.hid ?_
    go_wp2_with fail
    go_loopg [7] k (fun G r wr => ∃ j : Nat, r = .int .i64 j ∧ j + G = k ∧ Row wr w.heap.size 66 #[a, v] ∧ Below w.heap.size w wr)
    case atStart => exact ⟨0, rfl, by omega, H0.out.1, H0.out.2⟩
    case round =>
      clear H0 cy0
      obtain ⟨j, rfl, hj, rA, bel⟩ := hrel
      have HJ := Lib.hid hj
      have K0 : wr.cell? ⟨w.heap.size, 0, none⟩ = some a := rA.cell 0
      have K1 : wr.cell? ⟨w.heap.size, 1, none⟩ = some v := rA.cell 1
      have LX := Lib.hid (HLH.out wr bel j (by omega))
      by_cases hjk : j = k
      · rw [decide_eq_true hjk] at LX
        subst hjk
        have j0 : (0 : Int) ≤ (j : Int) := by omega
        clear hj
        go_wp2_with fail
        refine LX.out.mono ?_
        rintro e w2 ⟨rfl, bb⟩
        have F := Lib.hid (ansPick_some (w := w) HPK.out (next_trans bel bb))
        clear bb bel rA K0 K1 LX
        go_wp2
        go_ret3
        exact F.out
      · rw [decide_eq_false hjk] at LX
        have j0 : (0 : Int) ≤ (j : Int) := by omega
        have j1 : (j : Int) < 12 := by omega
        clear hj
        go_wp2_with fail
        refine LX.out.mono ?_
        rintro e w2 ⟨rfl, bb⟩
        have HA := Lib.hid (rA.next bb)
        have HB := Lib.hid (next_trans bel bb)
        clear bb bel rA K0 K1 LX
        go_wp2
        go_roundg (gk - 1)
        case measure => have := HJ.out; omega
        case rel => exact ⟨j + 1, by simp, by have := HJ.out; omega, HA.out, HB.out⟩

set_option maxHeartbeats 4000000 in
theorem implPickBy (a v u : Value) (d : Dat sSystem) (t : List Int) (s : Int) (w : World) (h : Rd w w.heap.size sSystem [a, v] d) (ht : Rd w w.heap.size sI [u] t) (hz : sz sSystem d ≤ 1048576) (hz' : sz sI t ≤ 1048576) (s1 : -9223372036854775808 ≤ s) (s2 : s ≤ 9223372036854775807) :
    Calls Try.prog 21 #[.agg #[a, v], u, .int .i64 s] w (AnsPick w (pickO d.1 d.2 t s)) := by
  have h0 := h
  have ht0 := ht
  obtain ⟨T, m, c, rfl, -, -⟩ := rd_ints.1 ht
  obtain ⟨A, n, cs, V, q, cv, rfl, rfl, -⟩ := rd_sys h hz
  obtain ⟨W, hW, rA, bel⟩ := box1 w 29 #[.slice A n cs, .slice V q cv]
  have HW := Lib.hid hW
  have LS := Lib.hid (strategyIn _ _ _ d t s W (h0.next bel) (ht0.next bel) hz hz' s1 s2)
  have HH := Lib.hid (And.intro h0 ht0)
  clear hW h ht h0 ht0
  cases ok : (rightB d.1 d.2 t && stratB s) with
  | false =>
    have HS := Lib.hid (pickO_no ok)
    rw [ok] at LS
    clear ok
    go_enter Try.func21, Try.ntmps21
    go_wp2_with fail
    rw [← HW.out]
    refine LS.out.mono ?_
    rintro e w1 ⟨A1, n1, c1, A2, n2, c2, f, rfl, -, bb⟩
    have b1 := next_trans bel bb
    have F := Lib.hid (ansPick_none (w := w) HS.out (b1.alloc b1.size (.cells #[.slice A1 n1 c1, .slice A2 n2 c2] 66)))
    clear bb bel b1 rA LS
    go_wp2
    go_ret3
    exact F.out
  | true =>
    have HS := Lib.hid ((Bool.and_eq_true _ _).mp ok)
    rw [ok] at LS
    clear ok
    go_enter Try.func21, Try.ntmps21
    go_wp2_with fail
    rw [← HW.out]
    refine LS.out.mono ?_
    rintro e w1 ⟨A1, n1, c1, A2, n2, c2, f, rfl, hv, bb⟩
    obtain ⟨e1, e2, rfl⟩ := hv rfl
    injection e1 with e11 e12 e13
    injection e2 with e21 e22 e23
    subst e11 e12 e13 e21 e22 e23
    rw [pickV_yes HS.out.2]
    have b1 := next_trans bel bb
    have b2 : Below w.heap.size w (w1.alloc (.cells #[.slice A1 n1 c1, .slice A2 n2 c2] 66)) := b1.alloc b1.size _
    have hpf := pickFn (HH.out.1.next b2) hz HS.out.2
    have LX := Lib.hid (selected (pickG s) hpf.1 _ _ _ d t s _ (HH.out.1.next b2) (HH.out.2.next b2) hz HS.out.1 hpf.2)
    rw [← pickO_yes HS.out.1 HS.out.2] at LX
    have HB2 := Lib.hid b2
    generalize pickG s = g at *
    generalize pickO d.1 d.2 t s = o at *
    clear bb bel b1 b2 rA LS hpf
    go_wp2_with fail
    refine LX.out.mono ?_
    rintro e w3 ⟨rfl, bb⟩
    have F := Lib.hid (show AnsPick w o (.returned (.tuple #[.int .i64 ((o.map (·.1)).getD 0), .int .i64 ((o.map (·.2)).getD 0), .bool o.isSome])) w3 from ⟨rfl, next_trans HB2.out bb⟩)
    clear bb LX
    generalize (o.map (·.1)).getD 0 = x1 at *
    generalize (o.map (·.2)).getD 0 = x2 at *
    generalize o.isSome = x3 at *
    go_wp2
    go_ret3
    exact F.out
end Go.Proofs.Ytfkgiimcnlagmaa.pickImpl
end

section
/-
  THE WALK of laws.FnExactPickBy: it returns true, whatever the arguments, and writes nothing that was there. Conditions: the arguments read as data. Written by a program of mine (gen_x.py). By an AI agent.
-/
namespace Go.Proofs.Ytfkgiimcnlagmaa.wPickBy
open Go.RowKit Go.Proofs.Ytfkgiimcnlagmaa.base Go.Proofs.Ytfkgiimcnlagmaa.ints Go.Proofs.Ytfkgiimcnlagmaa.sig Go.Proofs.Ytfkgiimcnlagmaa.cursor Go.Proofs.Ytfkgiimcnlagmaa.marks Go.Proofs.Ytfkgiimcnlagmaa.app Go.Proofs.Ytfkgiimcnlagmaa.sym Go.Proofs.Ytfkgiimcnlagmaa.appAt Go.Proofs.Ytfkgiimcnlagmaa.segs Go.Proofs.Ytfkgiimcnlagmaa.segsHelp Go.Proofs.Ytfkgiimcnlagmaa.segsMark Go.Proofs.Ytfkgiimcnlagmaa.kinds Go.Proofs.Ytfkgiimcnlagmaa.shape Go.Proofs.Ytfkgiimcnlagmaa.varsOf Go.Proofs.Ytfkgiimcnlagmaa.kindsR Go.Proofs.Ytfkgiimcnlagmaa.ruleMath Go.Proofs.Ytfkgiimcnlagmaa.ruleSpec Go.Proofs.Ytfkgiimcnlagmaa.stepMath Go.Proofs.Ytfkgiimcnlagmaa.walkMath Go.Proofs.Ytfkgiimcnlagmaa.stepSpec Go.Proofs.Ytfkgiimcnlagmaa.orderMath Go.Proofs.Ytfkgiimcnlagmaa.orderSpec Go.Proofs.Ytfkgiimcnlagmaa.byX Go.Proofs.Ytfkgiimcnlagmaa.pickImpl
set_option maxRecDepth 100000

set_option maxHeartbeats 8000000 in
theorem law (v0_0 v0_1 : Value) (d0 : Dat sSystem) (a1 : Option Addr) (n1 c1 : Nat) (d1 : List Int) (x2 : Int) (w : World) (s0 : Rd w w.heap.size sSystem [v0_0, v0_1] d0) (s1 : Rd w w.heap.size sI [.slice a1 n1 c1] d1) (b2 : (Lit.int .i64 x2).wf = true) :
    Calls Try.prog 4 #[.agg #[v0_0, v0_1], .slice a1 n1 c1, .int .i64 x2] w (Fine w) := by
  have bd2 : -9223372036854775808 ≤ x2 ∧ x2 ≤ 9223372036854775807 := by simpa [Lit.wf, IntKind.min, IntKind.max, IntKind.signed, IntKind.bits] using b2
  obtain ⟨bl2, bh2⟩ := bd2
  clear b2
  have Hl1 := Lib.hid s1.seg.1
  have cp1 := (by obtain ⟨A, c, ec, hc⟩ := s1.slice; injection ec with e1 e2 e3; subst e1 e2 e3; exact hc : Cap a1 n1 c1)
  have hN1 : n1 ≤ 9223372036854775807 := Nat.le_trans cp1.1 cp1.2.1
  clear cp1
  obtain ⟨W, hW⟩ : ∃ W, W = w.alloc (.cells #[v0_0, v0_1] 41) := ⟨_, rfl⟩
  have rA0 : Row W (w.heap.size) 41 #[v0_0, v0_1] := by rw [hW]; have := Row.new (w) 41 #[v0_0, v0_1]; simpa using this
  have bW : Below w.heap.size w W := by rw [hW]; exact (Below.refl w.heap.size w).alloc (by simp) (.cells #[v0_0, v0_1] 41)
  have zA0 := rA0.lt
  replace s0 := s0.next bW
  replace s1 := s1.next bW
  have HW := Lib.hid hW
  clear hW
  obtain ⟨t0, ht0⟩ : ∃ z, sz sSystem d0 = z := ⟨_, rfl⟩
  have HT0 := Lib.hid ht0
  clear ht0
  obtain ⟨v, hv⟩ : ∃ v, ((pickO d0.1 d0.2 d1 x2).map (·.1)).getD 0 = v := ⟨_, rfl⟩
  have HV := Lib.hid hv
  clear hv
  have ev : (v != v) = false := by simp
  obtain ⟨v2, hv⟩ : ∃ v, ((pickO d0.1 d0.2 d1 x2).map (·.2)).getD 0 = v := ⟨_, rfl⟩
  have HV2 := Lib.hid hv
  clear hv
  have ev2 : (v2 != v2) = false := by simp
  obtain ⟨v3, hv⟩ : ∃ v, (pickO d0.1 d0.2 d1 x2).isSome = v := ⟨_, rfl⟩
  have HV3 := Lib.hid hv
  clear hv
  have ev3 : (v3 != v3) = false := by simp
  by_cases h1 : n1 ≤ 1048576
  case neg =>
    go_enter Try.func4, Try.ntmps4
    go_wp2_with fail
    rw [← HW.out]
    go_ret
    exact ⟨rfl, bW⟩
  have hi1 : Hid (sz sI d1 ≤ 1048576) := Lib.hid (by rw [sz_ints, Hl1.out]; exact h1)
  have hn1 := h1
  clear h1
  have h1 := hi1
  clear hi1
  go_enter Try.func4, Try.ntmps4
  go_wp2_with fail
  rw [← HW.out]
  clear HW
  have bel := Below.refl W.heap.size W
  have cA0_0 : W.cell? ⟨w.heap.size, 0, none⟩ = some (v0_0) := (rA0.next bel).cell 0
  have cA0_1 : W.cell? ⟨w.heap.size, 1, none⟩ = some (v0_1) := (rA0.next bel).cell 1
  refine (szK_System _ _ d0 (1048576) _ (s0.next bel) (by omega) (by omega)).mono ?_
  rintro e w1 ⟨he, bb⟩
  rw [HT0.out] at he
  replace bel := next_trans bel bb
  have zw1 := bb.size
  clear bb
  by_cases q0 : t0 ≤ 1048576
  case neg =>
    rw [if_pos (by omega)] at he
    subst he
    have F := Lib.hid (bW.trans (bel.mono bW.size))
    clear bel bW cA0_0 cA0_1
    go_wp2
    go_ret
    exact ⟨rfl, F.out⟩
  rw [if_neg (by omega)] at he
  subst he
  have h0 : Hid (sz sSystem d0 ≤ 1048576) := Lib.hid (by rw [HT0.out]; omega)
  clear cA0_0 cA0_1
  have cA0_0 : w1.cell? ⟨w.heap.size, 0, none⟩ = some (v0_0) := (rA0.next bel).cell 0
  have cA0_1 : w1.cell? ⟨w.heap.size, 1, none⟩ = some (v0_1) := (rA0.next bel).cell 1
  go_wp2_with fail
  refine (toK_System _ _ d0 _ (s0.next bel) h0.out).mono ?_
  rintro e w2 ⟨p0A0, p0n0, p0c0, p0A1, p0n1, p0c1, rfl, op0, bb⟩
  replace bel := next_trans bel bb
  have zw2 := bb.size
  clear bb
  clear cA0_0 cA0_1
  have cA0_0 : w2.cell? ⟨w.heap.size, 0, none⟩ = some (v0_0) := (rA0.next bel).cell 0
  have cA0_1 : w2.cell? ⟨w.heap.size, 1, none⟩ = some (v0_1) := (rA0.next bel).cell 1
  go_wp2_with fail
  refine (toK_ints _ d1 _ (s1.next bel) h1.out).mono ?_
  rintro e w3 ⟨p1A0, p1n0, p1c0, rfl, op1, bb⟩
  replace op0 := op0.next bb
  replace bel := next_trans bel bb
  have zw3 := bb.size
  clear bb
  clear cA0_0 cA0_1
  have cA0_0 : w3.cell? ⟨w.heap.size, 0, none⟩ = some (v0_0) := (rA0.next bel).cell 0
  have cA0_1 : w3.cell? ⟨w.heap.size, 1, none⟩ = some (v0_1) := (rA0.next bel).cell 1
  go_wp2_with fail
  refine (specPickByX _ _ _ d0 d1 x2 _ op0.rd op1.rd h0.out h1.out bl2 bh2).mono ?_
  rintro e w4 ⟨he, bb⟩
  rw [HV.out, HV2.out, HV3.out] at he
  subst he
  replace op0 := op0.next bb
  replace op1 := op1.next bb
  replace bel := next_trans bel bb
  have zw4 := bb.size
  clear bb
  clear op0 op1
  clear cA0_0 cA0_1
  have cA0_0 : w4.cell? ⟨w.heap.size, 0, none⟩ = some (v0_0) := (rA0.next bel).cell 0
  have cA0_1 : w4.cell? ⟨w.heap.size, 1, none⟩ = some (v0_1) := (rA0.next bel).cell 1
  clear cA0_0 cA0_1
  have cA0_0 : w4.cell? ⟨w.heap.size, 0, none⟩ = some (v0_0) := (rA0.next bel).cell 0
  have cA0_1 : w4.cell? ⟨w.heap.size, 1, none⟩ = some (v0_1) := (rA0.next bel).cell 1
  go_wp2_with fail
  refine (toK_System _ _ d0 _ (s0.next bel) h0.out).mono ?_
  rintro e w5 ⟨x0A0, x0n0, x0c0, x0A1, x0n1, x0c1, rfl, ox0, bb⟩
  replace bel := next_trans bel bb
  have zw5 := bb.size
  clear bb
  clear cA0_0 cA0_1
  have cA0_0 : w5.cell? ⟨w.heap.size, 0, none⟩ = some (v0_0) := (rA0.next bel).cell 0
  have cA0_1 : w5.cell? ⟨w.heap.size, 1, none⟩ = some (v0_1) := (rA0.next bel).cell 1
  have dA0_0 : (w5.alloc (.cells #[.slice x0A0 x0n0 x0c0, .slice x0A1 x0n1 x0c1] 29)).cell? ⟨w.heap.size, 0, none⟩ = some (v0_0) := ((rA0.next bel).alloc _).cell 0
  have dA0_1 : (w5.alloc (.cells #[.slice x0A0 x0n0 x0c0, .slice x0A1 x0n1 x0c1] 29)).cell? ⟨w.heap.size, 1, none⟩ = some (v0_1) := ((rA0.next bel).alloc _).cell 1
  go_wp2_with fail
  obtain ⟨w6, hw⟩ : ∃ W, W = w5.alloc (.cells #[.slice x0A0 x0n0 x0c0, .slice x0A1 x0n1 x0c1] 29) := ⟨_, rfl⟩
  rw [← hw]
  have rx0 : Row w6 w5.heap.size 29 #[.slice x0A0 x0n0 x0c0, .slice x0A1 x0n1 x0c1] := by rw [hw]; exact Row.new _ _ _
  have bb : Below w5.heap.size w5 w6 := by rw [hw]; exact (Below.refl _ _).alloc (Nat.le_refl _) _
  have yrx0 : w5.heap.size < w6.heap.size := by rw [hw]; simp
  clear hw
  replace ox0 := ox0.next bb
  replace bel := next_trans bel bb
  have zw6 := bb.size
  clear bb
  clear dA0_0 dA0_1
  clear cA0_0 cA0_1
  have cA0_0 : w6.cell? ⟨w.heap.size, 0, none⟩ = some (v0_0) := (rA0.next bel).cell 0
  have cA0_1 : w6.cell? ⟨w.heap.size, 1, none⟩ = some (v0_1) := (rA0.next bel).cell 1
  have cx0_0 : w6.cell? ⟨w5.heap.size, 0, none⟩ = some (.slice x0A0 x0n0 x0c0) := (rx0).cell 0
  have cx0_1 : w6.cell? ⟨w5.heap.size, 1, none⟩ = some (.slice x0A1 x0n1 x0c1) := (rx0).cell 1
  refine (toK_ints _ d1 _ (s1.next bel) h1.out).mono ?_
  rintro e w7 ⟨x1A0, x1n0, x1c0, rfl, ox1, bb⟩
  replace ox0 := ox0.next bb
  replace rx0 := rx0.next bb
  replace bel := next_trans bel bb
  have zw7 := bb.size
  clear bb
  clear cA0_0 cA0_1 cx0_0 cx0_1
  have cA0_0 : w7.cell? ⟨w.heap.size, 0, none⟩ = some (v0_0) := (rA0.next bel).cell 0
  have cA0_1 : w7.cell? ⟨w.heap.size, 1, none⟩ = some (v0_1) := (rA0.next bel).cell 1
  have cx0_0 : w7.cell? ⟨w5.heap.size, 0, none⟩ = some (.slice x0A0 x0n0 x0c0) := (rx0).cell 0
  have cx0_1 : w7.cell? ⟨w5.heap.size, 1, none⟩ = some (.slice x0A1 x0n1 x0c1) := (rx0).cell 1
  go_wp2_with fail
  refine (implPickBy _ _ _ d0 d1 x2 _ ox0.rd ox1.rd h0.out h1.out bl2 bh2).mono ?_
  rintro e w8 ⟨he, bb⟩
  rw [HV.out, HV2.out, HV3.out] at he
  subst he
  replace ox0 := ox0.next bb
  replace rx0 := rx0.next bb
  replace ox1 := ox1.next bb
  replace bel := next_trans bel bb
  have zw8 := bb.size
  clear bb
  clear cA0_0 cA0_1 cx0_0 cx0_1
  have cA0_0 : w8.cell? ⟨w.heap.size, 0, none⟩ = some (v0_0) := (rA0.next bel).cell 0
  have cA0_1 : w8.cell? ⟨w.heap.size, 1, none⟩ = some (v0_1) := (rA0.next bel).cell 1
  have cx0_0 : w8.cell? ⟨w5.heap.size, 0, none⟩ = some (.slice x0A0 x0n0 x0c0) := (rx0).cell 0
  have cx0_1 : w8.cell? ⟨w5.heap.size, 1, none⟩ = some (.slice x0A1 x0n1 x0c1) := (rx0).cell 1
  go_wp2_with fail
  replace ox0 := ox0.drew
  replace rx0 := rx0.drew
  replace ox1 := ox1.drew
  replace bel := bel.drew
  have zdw8 := (drew_below w8).size
  go_region_held3 (fun w' => w'.cell? ⟨w5.heap.size, 0, none⟩ = some (.slice x0A0 x0n0 x0c0) ∧ w'.cell? ⟨w5.heap.size, 1, none⟩ = some (.slice x0A1 x0n1 x0c1) ∧ w'.cell? ⟨w.heap.size, 0, none⟩ = some (v0_0) ∧ w'.cell? ⟨w.heap.size, 1, none⟩ = some (v0_1))
    (go_keep)
    (first
      | (go_at_call 25; refine (toK_System _ _ d0 _ (s0.next bel) h0.out).mono ?_; rintro e w9 ⟨t0A0, t0n0, t0c0, t0A1, t0n1, t0c1, rfl, ot, bb⟩; replace ox0 := ox0.next bb; replace rx0 := rx0.next bb; replace ox1 := ox1.next bb; replace bel := next_trans bel bb; have k0_0w9 : w9.cell? ⟨w.heap.size, 0, none⟩ = some (v0_0) := (rA0.next bel).cell 0; have k0_1w9 : w9.cell? ⟨w.heap.size, 1, none⟩ = some (v0_1) := (rA0.next bel).cell 1; have l0_0w9 : w9.cell? ⟨w5.heap.size, 0, none⟩ = some (.slice x0A0 x0n0 x0c0) := rx0.cell 0; have l0_1w9 : w9.cell? ⟨w5.heap.size, 1, none⟩ = some (.slice x0A1 x0n1 x0c1) := rx0.cell 1; have zqw9 := bb.size; clear bb)
      | (go_at_call 27; refine (eqK_System _ _ _ _ d0 _ ox0.rd ot.rd h0.out).mono ?_; rintro e w10 ⟨rfl, bb⟩; replace ox0 := ox0.next bb; replace rx0 := rx0.next bb; replace ox1 := ox1.next bb; replace bel := next_trans bel bb; have k0_0w10 : w10.cell? ⟨w.heap.size, 0, none⟩ = some (v0_0) := (rA0.next bel).cell 0; have k0_1w10 : w10.cell? ⟨w.heap.size, 1, none⟩ = some (v0_1) := (rA0.next bel).cell 1; have l0_0w10 : w10.cell? ⟨w5.heap.size, 0, none⟩ = some (.slice x0A0 x0n0 x0c0) := rx0.cell 0; have l0_1w10 : w10.cell? ⟨w5.heap.size, 1, none⟩ = some (.slice x0A1 x0n1 x0c1) := rx0.cell 1; have zqw10 := bb.size; clear bb ot))
  clear k0_0w9 l0_0w9 k0_1w9 l0_1w9 k0_0w10 l0_0w10 k0_1w10 l0_1w10
  clear ox0 rx0
  clear cA0_0 cA0_1 cx0_0 cx0_1
  have cA0_0 : w10.cell? ⟨w.heap.size, 0, none⟩ = some (v0_0) := (rA0.next bel).cell 0
  have cA0_1 : w10.cell? ⟨w.heap.size, 1, none⟩ = some (v0_1) := (rA0.next bel).cell 1
  go_wp2_with fail
  refine (toK_ints _ d1 _ (s1.next bel) h1.out).mono ?_
  rintro e w11 ⟨t1A0, t1n0, t1c0, rfl, ot1, bb⟩
  replace ox1 := ox1.next bb
  replace bel := next_trans bel bb
  have zw11 := bb.size
  clear bb
  clear cA0_0 cA0_1
  have cA0_0 : w11.cell? ⟨w.heap.size, 0, none⟩ = some (v0_0) := (rA0.next bel).cell 0
  have cA0_1 : w11.cell? ⟨w.heap.size, 1, none⟩ = some (v0_1) := (rA0.next bel).cell 1
  go_wp2_with fail
  refine (eqK_ints _ _ d1 _ ox1.rd ot1.rd h1.out).mono ?_
  rintro e w12 ⟨rfl, bb⟩
  replace ox1 := ox1.next bb
  replace ot1 := ot1.next bb
  replace bel := next_trans bel bb
  have zw12 := bb.size
  clear bb
  clear ot1 ox1
  clear cA0_0 cA0_1
  have cA0_0 : w12.cell? ⟨w.heap.size, 0, none⟩ = some (v0_0) := (rA0.next bel).cell 0
  have cA0_1 : w12.cell? ⟨w.heap.size, 1, none⟩ = some (v0_1) := (rA0.next bel).cell 1
  have F := Lib.hid (bW.trans (bel.mono bW.size))
  clear bel bW cA0_0 cA0_1
  go_wp2
  go_ret
  exact ⟨rfl, F.out⟩
end Go.Proofs.Ytfkgiimcnlagmaa.wPickBy
end
