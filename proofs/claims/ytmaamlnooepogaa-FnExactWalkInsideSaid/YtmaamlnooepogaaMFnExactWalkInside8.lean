/-
  MERGED: my texts WalkSpecC, one behind the other, as they are. By an AI agent.
-/
import Derived.Test.YtmaamlnooepogaaMFnExactWalkInside7
section
/-
  CONTRACTS: spec.JoinedWalk. Conditions: the arguments read as data ('Rd'), at most 1048576 numbers. Written by a program of mine (mkwalkspecc.py). By an AI agent.
-/
namespace Go.Proofs.Ytmaamlnooepogaa.walkSpec
open Go.RowKit Go.Proofs.Ytmaamlnooepogaa.base Go.Proofs.Ytmaamlnooepogaa.ints Go.Proofs.Ytmaamlnooepogaa.sig Go.Proofs.Ytmaamlnooepogaa.term Go.Proofs.Ytmaamlnooepogaa.termOk Go.Proofs.Ytmaamlnooepogaa.endAt Go.Proofs.Ytmaamlnooepogaa.endOf Go.Proofs.Ytmaamlnooepogaa.marks Go.Proofs.Ytmaamlnooepogaa.app Go.Proofs.Ytmaamlnooepogaa.sym Go.Proofs.Ytmaamlnooepogaa.sub Go.Proofs.Ytmaamlnooepogaa.segs Go.Proofs.Ytmaamlnooepogaa.segsHelp Go.Proofs.Ytmaamlnooepogaa.kinds Go.Proofs.Ytmaamlnooepogaa.termFacts Go.Proofs.Ytmaamlnooepogaa.same Go.Proofs.Ytmaamlnooepogaa.shifted Go.Proofs.Ytmaamlnooepogaa.shape Go.Proofs.Ytmaamlnooepogaa.kindsR Go.Proofs.Ytmaamlnooepogaa.kindsW Go.Proofs.Ytmaamlnooepogaa.varsOf Go.Proofs.Ytmaamlnooepogaa.ruleMath Go.Proofs.Ytmaamlnooepogaa.ruleSpec Go.Proofs.Ytmaamlnooepogaa.stepMath Go.Proofs.Ytmaamlnooepogaa.walkMath Go.Proofs.Ytmaamlnooepogaa.stepSpec Go.Proofs.Ytmaamlnooepogaa.ownL Go.Proofs.Ytmaamlnooepogaa.heldT
set_option maxRecDepth 100000

/-! ### a walk and whether there is one -/
def AnsWalk (w : World) (k : Wk) (b : Bool) (e : Ending) (w' : World) : Prop := ∃ A0 n0 c0 A1 n1 c1, e = .returned (.tuple #[.agg #[.slice A0 n0 c0, .slice A1 n1 c1], .bool b]) ∧ Owned w' w.heap.size w'.heap.size sWalk [.slice A0 n0 c0, .slice A1 n1 c1] k ∧ Below w.heap.size w w'
theorem owned_zero (w : World) (lo hi : Nat) : Owned w lo hi sWalk [.slice none 0 0, .slice none 0 0] (([], []) : List Int × List St) :=
  ⟨[], ⟨[.slice none 0 0], [.slice none 0 0], [], [], rfl, rfl, ⟨none, 0, 0, rfl, rfl, .inl ⟨rfl, rfl, rfl, rfl⟩⟩, ⟨none, 0, 0, rfl, rfl, .inl ⟨rfl, rfl, rfl, rfl⟩⟩⟩, List.nodup_nil, fun k hk => by cases hk⟩
theorem owned_walk {w : World} {lo mid hi : Nat} {X O : Option Addr} {xn xc n c : Nat} {f : List Int} {L : List St} (h : Ownd w lo mid X xn xc f) (h2 : OwnL w mid hi 39 sStep O n c L) (h3 : lo ≤ mid) (h4 : mid ≤ hi) : Owned w lo hi sWalk [.slice X xn xc, .slice O n c] (f, L) :=
  Owned.cat (ow_ints.2 h) h2.owned (Nat.le_refl _) h3 h4
theorem ansWalk_no {w w' : World} {k : Wk} {b : Bool} (h : k = ([], []) ∧ b = false) (hb : Below w.heap.size w w') : AnsWalk w k b (.returned (.tuple #[.agg #[.slice none 0 0, .slice none 0 0], .bool false])) w' :=
  ⟨none, 0, 0, none, 0, 0, by rw [h.2], by rw [h.1]; exact owned_zero _ _ _, hb⟩
def joinB (sg : List Int) (rs : List Rl) (a b : Wk) : Bool := (walkB sg rs a && walkB sg rs b) && (decide (endL a = b.1) && decide (a.2.length + b.2.length ≤ 60))
def joinW (sg : List Int) (rs : List Rl) (a b : Wk) : Wk := if joinB sg rs a b = true then (a.1, a.2 ++ b.2) else ([], [])
section
variable {sg : List Int} {rs : List Rl} {a b : Wk}
theorem join_off (h : joinB sg rs a b = false) : joinW sg rs a b = ([], []) ∧ joinB sg rs a b = false := ⟨by unfold joinW; rw [if_neg (by rw [h]; simp)], h⟩
theorem join_no1 (h : walkB sg rs a = false) : joinW sg rs a b = ([], []) ∧ joinB sg rs a b = false := join_off (by unfold joinB; rw [h]; rfl)
theorem join_no2 (h : walkB sg rs b = false) : joinW sg rs a b = ([], []) ∧ joinB sg rs a b = false := join_off (by unfold joinB; rw [h, Bool.and_false]; rfl)
theorem join_no3 (h : decide (endL a = b.1) = false) : joinW sg rs a b = ([], []) ∧ joinB sg rs a b = false := join_off (by unfold joinB; rw [h]; simp)
theorem join_no4 (h : ¬ a.2.length + b.2.length ≤ 60) : joinW sg rs a b = ([], []) ∧ joinB sg rs a b = false := join_off (by unfold joinB; rw [decide_eq_false h]; simp)
theorem join_yes (h1 : walkB sg rs a = true) (h2 : walkB sg rs b = true) (h3 : decide (endL a = b.1) = true) (h4 : a.2.length + b.2.length ≤ 60) : joinW sg rs a b = (a.1, a.2 ++ b.2) ∧ joinB sg rs a b = true := by
  have h : joinB sg rs a b = true := by unfold joinB; rw [h1, h2, h3, decide_eq_true h4]; rfl
  exact ⟨by unfold joinW; rw [if_pos h], h⟩
end

structure Jn (w : World) (a v f s f' s' : Value) (wr : World) : Prop where
  r0 : Row wr w.heap.size 29 #[a, v]
  r1 : Row wr (w.heap.size + 1) 61 #[f, s]
  r2 : Row wr (w.heap.size + 1 + 1) 61 #[f', s']
  r3 : Row wr (w.heap.size + 1 + 1 + 1) 61 #[.slice none 0 0, .slice none 0 0]
  b : Below w.heap.size w wr
section
variable {w wr w' : World} {a v f s f' s' : Value}
theorem Jn.next (h : Jn w a v f s f' s' wr) (hb : Below wr.heap.size wr w') : Jn w a v f s f' s' w' := ⟨h.r0.next hb, h.r1.next hb, h.r2.next hb, h.r3.next hb, next_trans h.b hb⟩
theorem Jn.drew (h : Jn w a v f s f' s' wr) : Jn w a v f s f' s' wr.drew := h.next (drew_below wr)
theorem Jn.below {lo : Nat} (h : Jn w a v f s f' s' wr) (hb : Below lo wr w') (hl : w.heap.size + 1 + 1 + 1 + 1 ≤ lo) : Jn w a v f s f' s' w' := ⟨h.r0.below hb (by omega), h.r1.below hb (by omega), h.r2.below hb (by omega), h.r3.below hb (by omega), h.b.trans (hb.mono (by omega))⟩
theorem Jn.size (h : Jn w a v f s f' s' wr) : w.heap.size + 1 + 1 + 1 + 1 ≤ wr.heap.size := h.r3.lt
end
theorem jn_new (w : World) (a v f s f' s' : Value) : ∃ W, W = (((w.alloc (.cells #[a, v] 29)).alloc (.cells #[f, s] 61)).alloc (.cells #[f', s'] 61)).alloc (.cells #[.slice none 0 0, .slice none 0 0] 61) ∧ Jn w a v f s f' s' W := by
  refine ⟨_, rfl, ?_, ?_, ?_, ?_, ?_⟩
  · exact (((Row.new w _ _).alloc _).alloc _).alloc _
  · have := ((Row.new (w.alloc (.cells #[a, v] 29)) 61 #[f, s]).alloc (.cells #[f', s'] 61)).alloc (.cells #[.slice none 0 0, .slice none 0 0] 61)
    simpa using this
  · have := (Row.new ((w.alloc (.cells #[a, v] 29)).alloc (.cells #[f, s] 61)) 61 #[f', s']).alloc (.cells #[.slice none 0 0, .slice none 0 0] 61)
    simpa using this
  · have := Row.new (((w.alloc (.cells #[a, v] 29)).alloc (.cells #[f, s] 61)).alloc (.cells #[f', s'] 61)) 61 #[.slice none 0 0, .slice none 0 0]
    simpa using this
  · exact ((((Below.refl _ _).alloc (Nat.le_refl _) _).alloc (by simp) _).alloc (by simp; omega) _).alloc (by simp; omega) _

set_option maxHeartbeats 8000000 in
theorem specJoinedWalk (a v f s f' s' : Value) (d : Dat sSystem) (k k' : Dat sWalk) (w : World) (h : Rd w w.heap.size sSystem [a, v] d) (h1 : Rd w w.heap.size sWalk [f, s] k) (h2 : Rd w w.heap.size sWalk [f', s'] k') (hz : sz sSystem d ≤ 1048576) (hz1 : sz sWalk k ≤ 1048576) (hz2 : sz sWalk k' ≤ 1048576) :
    Calls Try.prog 43 #[.agg #[a, v], .agg #[f, s], .agg #[f', s']] w (AnsWalk w (joinW d.1 d.2 k k') (joinB d.1 d.2 k k')) := by
  obtain ⟨F, fn, fc, S, sn, sc, rfl, rfl, hF, hcF, hfn, hsn0, hsn, hcS, hrF, hrS, hzF, hzS⟩ := rd_walk h1 hz1
  obtain ⟨F', fn', fc', S', sn', sc', rfl, rfl, hF', hcF', hfn', hsn0', hsn', hcS', hrF', hrS', hzF', hzS'⟩ := rd_walk h2 hz2
  have hzS1 : sz sStepS k.2 ≤ 1048576 := by have hz0 : sz sI k.1 + sz sStepS k.2 ≤ 1048576 := hz1; omega
  have hzS2 : sz sStepS k'.2 ≤ 1048576 := by have hz0 : sz sI k'.1 + sz sStepS k'.2 ≤ 1048576 := hz2; omega
  have L1 := Lib.hid (fun (wr : World) (J : Jn w a v (.slice F fn fc) (.slice S sn sc) (.slice F' fn' fc') (.slice S' sn' sc') wr) => specWalkOk a v _ _ d k wr (h.next J.b) (h1.next J.b) hz hz1)
  have L2 := Lib.hid (fun (wr : World) (J : Jn w a v (.slice F fn fc) (.slice S sn sc) (.slice F' fn' fc') (.slice S' sn' sc') wr) => specWalkOk a v _ _ d k' wr (h.next J.b) (h2.next J.b) hz hz2)
  have L3 := Lib.hid (fun (wr : World) (J : Jn w a v (.slice F fn fc) (.slice S sn sc) (.slice F' fn' fc') (.slice S' sn' sc') wr) => l7End _ _ k wr (h1.next J.b) hz1)
  have L4 := Lib.hid (fun (wr : World) (J : Jn w a v (.slice F fn fc) (.slice S sn sc) (.slice F' fn' fc') (.slice S' sn' sc') wr) {lo : Nat} (X : Option Addr) (xn xc : Nat) (oX : Own wr lo (.slice X xn xc) (endL k)) => (specSame X F' xn fn' xc fc' (endL k) k'.1 wr (Own.seg oX) (hF'.next J.b) (by rw [Own.len oX]; exact end_len hz1) hfn').mono (R' := fun e w' => e = .returned (.bool (decide (endL k = k'.1))) ∧ Below wr.heap.size wr w') (fun _ _ hh => ⟨hh.1, by obtain ⟨dd, e2⟩ := hh.2; rw [e2]; exact drewN_below wr dd⟩))
  have LF := Lib.hid (fun (wr : World) (J : Jn w a v (.slice F fn fc) (.slice S sn sc) (.slice F' fn' fc') (.slice S' sn' sc') wr) => copyInts F fn fc k.1 wr (hF.next J.b) hcF.2.2 hfn)
  have LS := Lib.hid (fun (wr : World) (J : Jn w a v (.slice F fn fc) (.slice S sn sc) (.slice F' fn' fc') (.slice S' sn' sc') wr) => l7CopySteps S sn sc k.2 wr (hrS.next J.b) hzS1)
  have LT := Lib.hid (fun (wr : World) (J : Jn w a v (.slice F fn fc) (.slice S sn sc) (.slice F' fn' fc') (.slice S' sn' sc') wr) => l7CopySteps S' sn' sc' k'.2 wr (hrS'.next J.b) hzS2)
  have HL1 := Lib.hid hsn0
  have HL2 := Lib.hid hsn0'
  clear h h1 h2 hz hz1 hz2 hF hcF hcS hrF hrS hzF hzS hF' hcF' hcS' hrF' hrS' hzF' hzS' hzS1 hzS2 hsn0 hsn0' hfn hfn'
  obtain ⟨W, hW, J⟩ := jn_new w a v (.slice F fn fc) (.slice S sn sc) (.slice F' fn' fc') (.slice S' sn' sc')
  have HW := Lib.hid hW
  clear hW
  cases ha : walkB d.1 d.2 k with
  | false =>
    have HA := Lib.hid ha
    clear ha
    go_enter Try.func43, Try.ntmps43
    go_wp2_with fail
    rw [← HW.out]
    have c00 : W.cell? ⟨w.heap.size, 0, none⟩ = some (a) := J.r0.cell 0
    have c01 : W.cell? ⟨w.heap.size, 1, none⟩ = some (v) := J.r0.cell 1
    have c10 : W.cell? ⟨w.heap.size + 1, 0, none⟩ = some (.slice F fn fc) := J.r1.cell 0
    have c11 : W.cell? ⟨w.heap.size + 1, 1, none⟩ = some (.slice S sn sc) := J.r1.cell 1
    have c20 : W.cell? ⟨w.heap.size + 1 + 1, 0, none⟩ = some (.slice F' fn' fc') := J.r2.cell 0
    have c21 : W.cell? ⟨w.heap.size + 1 + 1, 1, none⟩ = some (.slice S' sn' sc') := J.r2.cell 1
    replace J := J.drew
    refine AnyT.start (S := (fun w' => w'.cell? ⟨w.heap.size, 0, none⟩ = some (a) ∧ w'.cell? ⟨w.heap.size, 1, none⟩ = some (v) ∧ w'.cell? ⟨w.heap.size + 1, 0, none⟩ = some (.slice F fn fc) ∧ w'.cell? ⟨w.heap.size + 1, 1, none⟩ = some (.slice S sn sc) ∧ w'.cell? ⟨w.heap.size + 1 + 1, 0, none⟩ = some (.slice F' fn' fc') ∧ w'.cell? ⟨w.heap.size + 1 + 1, 1, none⟩ = some (.slice S' sn' sc'))) (fun _ => false) (by kernel_rfl) ⟨c00, c01, c10, c11, c20, c21⟩ (fun hHeld => ?_)
    refine AnyT.take (i := 0) (v := ?_) rfl (by kernel_rfl) (by kernel_rfl) (by kernel_rfl) (by kernel_rfl) (fun _ _ _ h => h) (Or.inl ⟨by rfl, ?_⟩) (by assumption) ?_
    rotate_left 1
    · (intro w0 hSw; (try dsimp only at hSw); go_simp; try with_reducible rfl)
    try simp only [Act.put, List.setIfInBounds_toArray, List.set_cons_zero, List.set_cons_succ, List.getElem_toArray, List.getElem_cons_zero, List.getElem_cons_succ]
    refine AnyT.take (i := 1) (v := ?_) rfl (by kernel_rfl) (by kernel_rfl) (by kernel_rfl) (by kernel_rfl) (fun _ _ _ h => h) (Or.inl ⟨by rfl, ?_⟩) (by assumption) ?_
    rotate_left 1
    · (intro w0 hSw; (try dsimp only at hSw); go_simp; try with_reducible rfl)
    try simp only [Act.put, List.setIfInBounds_toArray, List.set_cons_zero, List.set_cons_succ, List.getElem_toArray, List.getElem_cons_zero, List.getElem_cons_succ]
    refine AnyT.call (i := 2) (by kernel_rfl) rfl (fun K hK => ?_)
    try simp only [Act.put, List.setIfInBounds_toArray, List.set_cons_zero, List.set_cons_succ, List.getElem_toArray, List.getElem_cons_zero, List.getElem_cons_succ]
    rw [if_pos (by rfl)]
    go_simp
    (go_at_call 36; refine (L1.out _ J).mono ?_; rintro e q1 ⟨he, bb⟩; rw [HA.out] at he; subst he; have done1 : True := trivial; replace J := J.next bb; have k00_1 : q1.cell? ⟨w.heap.size, 0, none⟩ = some (a) := J.r0.cell 0; have k01_1 : q1.cell? ⟨w.heap.size, 1, none⟩ = some (v) := J.r0.cell 1; have k10_1 : q1.cell? ⟨w.heap.size + 1, 0, none⟩ = some (.slice F fn fc) := J.r1.cell 0; have k11_1 : q1.cell? ⟨w.heap.size + 1, 1, none⟩ = some (.slice S sn sc) := J.r1.cell 1; have k20_1 : q1.cell? ⟨w.heap.size + 1 + 1, 0, none⟩ = some (.slice F' fn' fc') := J.r2.cell 0; have k21_1 : q1.cell? ⟨w.heap.size + 1 + 1, 1, none⟩ = some (.slice S' sn' sc') := J.r2.cell 1; clear bb; go_wp2_with fail)
    refine hK.out _ _ (fun _ _ => ?_) (fun hKeep => ?_)
    · exact ⟨k00_1, k01_1, k10_1, k11_1, k20_1, k21_1⟩
    replace hHeld := hKeep (by first | rfl | trivial) hHeld
    clear hK K hKeep
    try simp only [Act.put, List.setIfInBounds_toArray, List.set_cons_zero, List.set_cons_succ, List.getElem_toArray, List.getElem_cons_zero, List.getElem_cons_succ]
    refine AnyT.takeA (i := 3) (v := ?_) rfl (by kernel_rfl) (by kernel_rfl) (by kernel_rfl) (fun _ _ _ h => h) (Or.inl ⟨by rfl, ?_⟩) ?_
    rotate_left 1
    · (intro w0 _; go_simp; try with_reducible rfl)
    try simp only [Act.put, List.setIfInBounds_toArray, List.set_cons_zero, List.set_cons_succ, List.getElem_toArray, List.getElem_cons_zero, List.getElem_cons_succ]
    refine AnyT.takeA (i := 4) (v := ?_) rfl (by kernel_rfl) (by kernel_rfl) (by kernel_rfl) (fun _ _ _ h => h) (Or.inl ⟨by rfl, ?_⟩) ?_
    rotate_left 1
    · (intro w0 _; go_simp; try with_reducible rfl)
    try simp only [Act.put, List.setIfInBounds_toArray, List.set_cons_zero, List.set_cons_succ, List.getElem_toArray, List.getElem_cons_zero, List.getElem_cons_succ]
    refine AnyT.takeA (i := 5) (v := undef) rfl (by kernel_rfl) (by kernel_rfl) (by kernel_rfl) (fun _ _ _ h => h) (Or.inr ⟨by rfl, rfl⟩) ?_
    try simp only [Act.put, List.setIfInBounds_toArray, List.set_cons_zero, List.set_cons_succ, List.getElem_toArray, List.getElem_cons_zero, List.getElem_cons_succ]
    refine AnyT.takeA (i := 6) (v := undef) rfl (by kernel_rfl) (by kernel_rfl) (by kernel_rfl) (fun _ _ _ h => h) (Or.inr ⟨by rfl, rfl⟩) ?_
    try simp only [Act.put, List.setIfInBounds_toArray, List.set_cons_zero, List.set_cons_succ, List.getElem_toArray, List.getElem_cons_zero, List.getElem_cons_succ]
    refine AnyT.call (i := 7) (by kernel_rfl) rfl (fun K hK => ?_)
    try simp only [Act.put, List.setIfInBounds_toArray, List.set_cons_zero, List.set_cons_succ, List.getElem_toArray, List.getElem_cons_zero, List.getElem_cons_succ]
    rw [if_neg (by intro h; cases h)]
    refine hK.out _ _ (fun _ h => h) (fun _ => ?_)
    clear hK K
    try simp only [Act.put, List.setIfInBounds_toArray, List.set_cons_zero, List.set_cons_succ, List.getElem_toArray, List.getElem_cons_zero, List.getElem_cons_succ]
    refine AnyT.takeA (i := 8) (v := undef) rfl (by kernel_rfl) (by kernel_rfl) (by kernel_rfl) (fun _ _ _ h => h) (Or.inr ⟨by rfl, rfl⟩) ?_
    try simp only [Act.put, List.setIfInBounds_toArray, List.set_cons_zero, List.set_cons_succ, List.getElem_toArray, List.getElem_cons_zero, List.getElem_cons_succ]
    refine AnyT.takeA (i := 9) (v := ?_) rfl (by kernel_rfl) (by kernel_rfl) (by kernel_rfl) (fun _ _ _ h => h) (Or.inl ⟨by rfl, ?_⟩) ?_
    rotate_left 1
    · (intro w0 _; go_simp; try with_reducible rfl)
    try simp only [Act.put, List.setIfInBounds_toArray, List.set_cons_zero, List.set_cons_succ, List.getElem_toArray, List.getElem_cons_zero, List.getElem_cons_succ]
    refine AnyT.takeA (i := 10) (v := ?_) rfl (by kernel_rfl) (by kernel_rfl) (by kernel_rfl) (fun _ _ _ h => h) (Or.inl ⟨by rfl, ?_⟩) ?_
    rotate_left 1
    · (intro w0 _; go_simp; try with_reducible rfl)
    try simp only [Act.put, List.setIfInBounds_toArray, List.set_cons_zero, List.set_cons_succ, List.getElem_toArray, List.getElem_cons_zero, List.getElem_cons_succ]
    refine AnyT.takeA (i := 11) (v := undef) rfl (by kernel_rfl) (by kernel_rfl) (by kernel_rfl) (fun _ _ _ h => h) (Or.inr ⟨by rfl, rfl⟩) ?_
    try simp only [Act.put, List.setIfInBounds_toArray, List.set_cons_zero, List.set_cons_succ, List.getElem_toArray, List.getElem_cons_zero, List.getElem_cons_succ]
    refine AnyT.takeA (i := 13) (v := undef) rfl (by kernel_rfl) (by kernel_rfl) (by kernel_rfl) (fun _ _ _ h => h) (Or.inr ⟨by rfl, rfl⟩) ?_
    try simp only [Act.put, List.setIfInBounds_toArray, List.set_cons_zero, List.set_cons_succ, List.getElem_toArray, List.getElem_cons_zero, List.getElem_cons_succ]
    refine AnyT.takeA (i := 14) (v := undef) rfl (by kernel_rfl) (by kernel_rfl) (by kernel_rfl) (fun _ _ _ h => h) (Or.inr ⟨by rfl, rfl⟩) ?_
    try simp only [Act.put, List.setIfInBounds_toArray, List.set_cons_zero, List.set_cons_succ, List.getElem_toArray, List.getElem_cons_zero, List.getElem_cons_succ]
    refine AnyT.call (i := 12) (by kernel_rfl) rfl (fun K hK => ?_)
    try simp only [Act.put, List.setIfInBounds_toArray, List.set_cons_zero, List.set_cons_succ, List.getElem_toArray, List.getElem_cons_zero, List.getElem_cons_succ]
    rw [if_neg (by intro h; cases h)]
    refine hK.out _ _ (fun _ h => h) (fun _ => ?_)
    clear hK K
    try simp only [Act.put, List.setIfInBounds_toArray, List.set_cons_zero, List.set_cons_succ, List.getElem_toArray, List.getElem_cons_zero, List.getElem_cons_succ]
    refine AnyT.call (i := 15) (by kernel_rfl) rfl (fun K hK => ?_)
    try simp only [Act.put, List.setIfInBounds_toArray, List.set_cons_zero, List.set_cons_succ, List.getElem_toArray, List.getElem_cons_zero, List.getElem_cons_succ]
    rw [if_neg (by intro h; cases h)]
    refine hK.out _ _ (fun _ h => h) (fun _ => ?_)
    clear hK K
    try simp only [Act.put, List.setIfInBounds_toArray, List.set_cons_zero, List.set_cons_succ, List.getElem_toArray, List.getElem_cons_zero, List.getElem_cons_succ]
    refine AnyT.takeA (i := 16) (v := undef) rfl (by kernel_rfl) (by kernel_rfl) (by kernel_rfl) (fun _ _ _ h => h) (Or.inr ⟨by rfl, rfl⟩) ?_
    try simp only [Act.put, List.setIfInBounds_toArray, List.set_cons_zero, List.set_cons_succ, List.getElem_toArray, List.getElem_cons_zero, List.getElem_cons_succ]
    refine AnyT.takeA (i := 17) (v := ?_) rfl (by kernel_rfl) (by kernel_rfl) (by kernel_rfl) (fun _ _ _ h => h) (Or.inl ⟨by rfl, ?_⟩) ?_
    rotate_left 1
    · (intro w0 _; go_simp; try with_reducible rfl)
    try simp only [Act.put, List.setIfInBounds_toArray, List.set_cons_zero, List.set_cons_succ, List.getElem_toArray, List.getElem_cons_zero, List.getElem_cons_succ]
    refine AnyT.takeA (i := 18) (v := ?_) rfl (by kernel_rfl) (by kernel_rfl) (by kernel_rfl) (fun _ _ _ h => h) (Or.inl ⟨by rfl, ?_⟩) ?_
    rotate_left 1
    · (intro w0 _; go_simp; try with_reducible rfl)
    try simp only [Act.put, List.setIfInBounds_toArray, List.set_cons_zero, List.set_cons_succ, List.getElem_toArray, List.getElem_cons_zero, List.getElem_cons_succ]
    refine AnyT.takeA (i := 19) (v := undef) rfl (by kernel_rfl) (by kernel_rfl) (by kernel_rfl) (fun _ _ _ h => h) (Or.inr ⟨by rfl, rfl⟩) ?_
    try simp only [Act.put, List.setIfInBounds_toArray, List.set_cons_zero, List.set_cons_succ, List.getElem_toArray, List.getElem_cons_zero, List.getElem_cons_succ]
    refine AnyT.takeA (i := 20) (v := undef) rfl (by kernel_rfl) (by kernel_rfl) (by kernel_rfl) (fun _ _ _ h => h) (Or.inr ⟨by rfl, rfl⟩) ?_
    try simp only [Act.put, List.setIfInBounds_toArray, List.set_cons_zero, List.set_cons_succ, List.getElem_toArray, List.getElem_cons_zero, List.getElem_cons_succ]
    refine AnyT.takeA (i := 21) (v := undef) rfl (by kernel_rfl) (by kernel_rfl) (by kernel_rfl) (fun _ _ _ h => h) (Or.inr ⟨by rfl, rfl⟩) ?_
    try simp only [Act.put, List.setIfInBounds_toArray, List.set_cons_zero, List.set_cons_succ, List.getElem_toArray, List.getElem_cons_zero, List.getElem_cons_succ]
    refine AnyT.takeA (i := 22) (v := undef) rfl (by kernel_rfl) (by kernel_rfl) (by kernel_rfl) (fun _ _ _ h => h) (Or.inr ⟨by rfl, rfl⟩) ?_
    try simp only [Act.put, List.setIfInBounds_toArray, List.set_cons_zero, List.set_cons_succ, List.getElem_toArray, List.getElem_cons_zero, List.getElem_cons_succ]
    refine AnyT.takeA (i := 23) (v := undef) rfl (by kernel_rfl) (by kernel_rfl) (by kernel_rfl) (fun _ _ _ h => h) (Or.inr ⟨by rfl, rfl⟩) ?_
    try simp only [Act.put, List.setIfInBounds_toArray, List.set_cons_zero, List.set_cons_succ, List.getElem_toArray, List.getElem_cons_zero, List.getElem_cons_succ]
    refine AnyT.takeA (i := 24) (v := undef) rfl (by kernel_rfl) (by kernel_rfl) (by kernel_rfl) (fun _ _ _ h => h) (Or.inr ⟨by rfl, rfl⟩) ?_
    try simp only [Act.put, List.setIfInBounds_toArray, List.set_cons_zero, List.set_cons_succ, List.getElem_toArray, List.getElem_cons_zero, List.getElem_cons_succ]
    refine AnyT.takeA (i := 25) (v := undef) rfl (by kernel_rfl) (by kernel_rfl) (by kernel_rfl) (fun _ _ _ h => h) (Or.inr ⟨by rfl, rfl⟩) ?_
    try simp only [Act.put, List.setIfInBounds_toArray, List.set_cons_zero, List.set_cons_succ, List.getElem_toArray, List.getElem_cons_zero, List.getElem_cons_succ]
    refine AnyT.takeA (i := 26) (v := undef) rfl (by kernel_rfl) (by kernel_rfl) (by kernel_rfl) (fun _ _ _ h => h) (Or.inr ⟨by rfl, rfl⟩) ?_
    try simp only [Act.put, List.setIfInBounds_toArray, List.set_cons_zero, List.set_cons_succ, List.getElem_toArray, List.getElem_cons_zero, List.getElem_cons_succ]
    refine AnyT.takeA (i := 27) (v := ?_) rfl (by kernel_rfl) (by kernel_rfl) (by kernel_rfl) (fun _ _ _ h => h) (Or.inl ⟨by rfl, ?_⟩) ?_
    rotate_left 1
    · (intro w0 _; go_simp; try with_reducible rfl)
    try simp only [Act.put, List.setIfInBounds_toArray, List.set_cons_zero, List.set_cons_succ, List.getElem_toArray, List.getElem_cons_zero, List.getElem_cons_succ]
    refine AnyT.done (by kernel_rfl) ?_ _
    clear c00 c01 c10 c11 c20 c21
    have y0 : q1.cell? ⟨w.heap.size + 1 + 1 + 1, 0, none⟩ = some (.slice none 0 0) := J.r3.cell 0
    have y1 : q1.cell? ⟨w.heap.size + 1 + 1 + 1, 1, none⟩ = some (.slice none 0 0) := J.r3.cell 1
    have g0 := J.r3.free 0
    have g1 := J.r3.free 1
    have ra := J.r3.put 0 (.slice none 0 0)
    have y2 : (q1.setCell ⟨w.heap.size + 1 + 1 + 1, 0, none⟩ (.slice none 0 0)).cell? ⟨w.heap.size + 1 + 1 + 1, 1, none⟩ = some (.slice none 0 0) := ra.cell 1
    have g2 := ra.free 1
    have rb := ra.put 1 (.slice none 0 0)
    have u0 : ((q1.setCell ⟨w.heap.size + 1 + 1 + 1, 0, none⟩ (.slice none 0 0)).setCell ⟨w.heap.size + 1 + 1 + 1, 1, none⟩ (.slice none 0 0)).cell? ⟨w.heap.size + 1 + 1 + 1, 0, none⟩ = some (.slice none 0 0) := rb.cell 0
    have u1 : ((q1.setCell ⟨w.heap.size + 1 + 1 + 1, 0, none⟩ (.slice none 0 0)).setCell ⟨w.heap.size + 1 + 1 + 1, 1, none⟩ (.slice none 0 0)).cell? ⟨w.heap.size + 1 + 1 + 1, 1, none⟩ = some (.slice none 0 0) := rb.cell 1
    have FZ : AnsWalk w (joinW d.1 d.2 k k') (joinB d.1 d.2 k k') (.returned (.tuple #[.agg #[.slice none 0 0, .slice none 0 0], .bool false])) ((q1.setCell ⟨w.heap.size + 1 + 1 + 1, 0, none⟩ (.slice none 0 0)).setCell ⟨w.heap.size + 1 + 1 + 1, 1, none⟩ (.slice none 0 0)) := ansWalk_no (join_no1 HA.out) (((J.b).setCell (show w.heap.size ≤ w.heap.size + 1 + 1 + 1 by omega) _).setCell (show w.heap.size ≤ w.heap.size + 1 + 1 + 1 by omega) _)
    have HFZ := Lib.hid FZ
    clear FZ ra rb k00_1 k01_1 k10_1 k11_1 k20_1 k21_1 J
    go_wp2
    exact bodyPost_ret (v := .tuple #[.agg #[.slice none 0 0, .slice none 0 0], .bool false]) (by simp [results, Try.results43, go_sem, u0, u1]) rfl HFZ.out
  | true =>
    have HA := Lib.hid ha
    clear ha
    cases hb : walkB d.1 d.2 k' with
    | false =>
      have HB := Lib.hid hb
      clear hb
      go_enter Try.func43, Try.ntmps43
      go_wp2_with fail
      rw [← HW.out]
      have c00 : W.cell? ⟨w.heap.size, 0, none⟩ = some (a) := J.r0.cell 0
      have c01 : W.cell? ⟨w.heap.size, 1, none⟩ = some (v) := J.r0.cell 1
      have c10 : W.cell? ⟨w.heap.size + 1, 0, none⟩ = some (.slice F fn fc) := J.r1.cell 0
      have c11 : W.cell? ⟨w.heap.size + 1, 1, none⟩ = some (.slice S sn sc) := J.r1.cell 1
      have c20 : W.cell? ⟨w.heap.size + 1 + 1, 0, none⟩ = some (.slice F' fn' fc') := J.r2.cell 0
      have c21 : W.cell? ⟨w.heap.size + 1 + 1, 1, none⟩ = some (.slice S' sn' sc') := J.r2.cell 1
      replace J := J.drew
      refine AnyT.start (S := (fun w' => w'.cell? ⟨w.heap.size, 0, none⟩ = some (a) ∧ w'.cell? ⟨w.heap.size, 1, none⟩ = some (v) ∧ w'.cell? ⟨w.heap.size + 1, 0, none⟩ = some (.slice F fn fc) ∧ w'.cell? ⟨w.heap.size + 1, 1, none⟩ = some (.slice S sn sc) ∧ w'.cell? ⟨w.heap.size + 1 + 1, 0, none⟩ = some (.slice F' fn' fc') ∧ w'.cell? ⟨w.heap.size + 1 + 1, 1, none⟩ = some (.slice S' sn' sc'))) (fun _ => false) (by kernel_rfl) ⟨c00, c01, c10, c11, c20, c21⟩ (fun hHeld => ?_)
      refine AnyT.take (i := 0) (v := ?_) rfl (by kernel_rfl) (by kernel_rfl) (by kernel_rfl) (by kernel_rfl) (fun _ _ _ h => h) (Or.inl ⟨by rfl, ?_⟩) (by assumption) ?_
      rotate_left 1
      · (intro w0 hSw; (try dsimp only at hSw); go_simp; try with_reducible rfl)
      try simp only [Act.put, List.setIfInBounds_toArray, List.set_cons_zero, List.set_cons_succ, List.getElem_toArray, List.getElem_cons_zero, List.getElem_cons_succ]
      refine AnyT.take (i := 1) (v := ?_) rfl (by kernel_rfl) (by kernel_rfl) (by kernel_rfl) (by kernel_rfl) (fun _ _ _ h => h) (Or.inl ⟨by rfl, ?_⟩) (by assumption) ?_
      rotate_left 1
      · (intro w0 hSw; (try dsimp only at hSw); go_simp; try with_reducible rfl)
      try simp only [Act.put, List.setIfInBounds_toArray, List.set_cons_zero, List.set_cons_succ, List.getElem_toArray, List.getElem_cons_zero, List.getElem_cons_succ]
      refine AnyT.call (i := 2) (by kernel_rfl) rfl (fun K hK => ?_)
      try simp only [Act.put, List.setIfInBounds_toArray, List.set_cons_zero, List.set_cons_succ, List.getElem_toArray, List.getElem_cons_zero, List.getElem_cons_succ]
      rw [if_pos (by rfl)]
      go_simp
      (go_at_call 36; refine (L1.out _ J).mono ?_; rintro e q1 ⟨he, bb⟩; rw [HA.out] at he; subst he; have done1 : True := trivial; replace J := J.next bb; have k00_1 : q1.cell? ⟨w.heap.size, 0, none⟩ = some (a) := J.r0.cell 0; have k01_1 : q1.cell? ⟨w.heap.size, 1, none⟩ = some (v) := J.r0.cell 1; have k10_1 : q1.cell? ⟨w.heap.size + 1, 0, none⟩ = some (.slice F fn fc) := J.r1.cell 0; have k11_1 : q1.cell? ⟨w.heap.size + 1, 1, none⟩ = some (.slice S sn sc) := J.r1.cell 1; have k20_1 : q1.cell? ⟨w.heap.size + 1 + 1, 0, none⟩ = some (.slice F' fn' fc') := J.r2.cell 0; have k21_1 : q1.cell? ⟨w.heap.size + 1 + 1, 1, none⟩ = some (.slice S' sn' sc') := J.r2.cell 1; clear bb; go_wp2_with fail)
      refine hK.out _ _ (fun _ _ => ?_) (fun hKeep => ?_)
      · exact ⟨k00_1, k01_1, k10_1, k11_1, k20_1, k21_1⟩
      replace hHeld := hKeep (by first | rfl | trivial) hHeld
      clear hK K hKeep
      try simp only [Act.put, List.setIfInBounds_toArray, List.set_cons_zero, List.set_cons_succ, List.getElem_toArray, List.getElem_cons_zero, List.getElem_cons_succ]
      refine AnyT.takeA (i := 3) (v := ?_) rfl (by kernel_rfl) (by kernel_rfl) (by kernel_rfl) (fun _ _ _ h => h) (Or.inl ⟨by rfl, ?_⟩) ?_
      rotate_left 1
      · (intro w0 _; go_simp; try with_reducible rfl)
      try simp only [Act.put, List.setIfInBounds_toArray, List.set_cons_zero, List.set_cons_succ, List.getElem_toArray, List.getElem_cons_zero, List.getElem_cons_succ]
      refine AnyT.takeA (i := 4) (v := ?_) rfl (by kernel_rfl) (by kernel_rfl) (by kernel_rfl) (fun _ _ _ h => h) (Or.inl ⟨by rfl, ?_⟩) ?_
      rotate_left 1
      · (intro w0 _; go_simp; try with_reducible rfl)
      try simp only [Act.put, List.setIfInBounds_toArray, List.set_cons_zero, List.set_cons_succ, List.getElem_toArray, List.getElem_cons_zero, List.getElem_cons_succ]
      refine AnyT.take (i := 5) (v := ?_) rfl (by kernel_rfl) (by kernel_rfl) (by kernel_rfl) (by kernel_rfl) (fun _ _ _ h => h) (Or.inl ⟨by rfl, ?_⟩) (by assumption) ?_
      rotate_left 1
      · (intro w0 hSw; (try dsimp only at hSw); go_simp; try with_reducible rfl)
      try simp only [Act.put, List.setIfInBounds_toArray, List.set_cons_zero, List.set_cons_succ, List.getElem_toArray, List.getElem_cons_zero, List.getElem_cons_succ]
      refine AnyT.take (i := 6) (v := ?_) rfl (by kernel_rfl) (by kernel_rfl) (by kernel_rfl) (by kernel_rfl) (fun _ _ _ h => h) (Or.inl ⟨by rfl, ?_⟩) (by assumption) ?_
      rotate_left 1
      · (intro w0 hSw; (try dsimp only at hSw); go_simp; try with_reducible rfl)
      try simp only [Act.put, List.setIfInBounds_toArray, List.set_cons_zero, List.set_cons_succ, List.getElem_toArray, List.getElem_cons_zero, List.getElem_cons_succ]
      refine AnyT.call (i := 7) (by kernel_rfl) rfl (fun K hK => ?_)
      try simp only [Act.put, List.setIfInBounds_toArray, List.set_cons_zero, List.set_cons_succ, List.getElem_toArray, List.getElem_cons_zero, List.getElem_cons_succ]
      rw [if_pos (by rfl)]
      go_simp
      (have := done1; go_at_call 36; refine (L2.out _ J).mono ?_; rintro e q2 ⟨he, bb⟩; rw [HB.out] at he; subst he; replace J := J.next bb; have k00_2 : q2.cell? ⟨w.heap.size, 0, none⟩ = some (a) := J.r0.cell 0; have k01_2 : q2.cell? ⟨w.heap.size, 1, none⟩ = some (v) := J.r0.cell 1; have k10_2 : q2.cell? ⟨w.heap.size + 1, 0, none⟩ = some (.slice F fn fc) := J.r1.cell 0; have k11_2 : q2.cell? ⟨w.heap.size + 1, 1, none⟩ = some (.slice S sn sc) := J.r1.cell 1; have k20_2 : q2.cell? ⟨w.heap.size + 1 + 1, 0, none⟩ = some (.slice F' fn' fc') := J.r2.cell 0; have k21_2 : q2.cell? ⟨w.heap.size + 1 + 1, 1, none⟩ = some (.slice S' sn' sc') := J.r2.cell 1; clear bb; go_wp2_with fail)
      refine hK.out _ _ (fun _ _ => ?_) (fun hKeep => ?_)
      · exact ⟨k00_2, k01_2, k10_2, k11_2, k20_2, k21_2⟩
      replace hHeld := hKeep (by first | rfl | trivial) hHeld
      clear hK K hKeep
      try simp only [Act.put, List.setIfInBounds_toArray, List.set_cons_zero, List.set_cons_succ, List.getElem_toArray, List.getElem_cons_zero, List.getElem_cons_succ]
      refine AnyT.takeA (i := 8) (v := ?_) rfl (by kernel_rfl) (by kernel_rfl) (by kernel_rfl) (fun _ _ _ h => h) (Or.inl ⟨by rfl, ?_⟩) ?_
      rotate_left 1
      · (intro w0 _; go_simp; try with_reducible rfl)
      try simp only [Act.put, List.setIfInBounds_toArray, List.set_cons_zero, List.set_cons_succ, List.getElem_toArray, List.getElem_cons_zero, List.getElem_cons_succ]
      refine AnyT.takeA (i := 9) (v := ?_) rfl (by kernel_rfl) (by kernel_rfl) (by kernel_rfl) (fun _ _ _ h => h) (Or.inl ⟨by rfl, ?_⟩) ?_
      rotate_left 1
      · (intro w0 _; go_simp; try with_reducible rfl)
      try simp only [Act.put, List.setIfInBounds_toArray, List.set_cons_zero, List.set_cons_succ, List.getElem_toArray, List.getElem_cons_zero, List.getElem_cons_succ]
      refine AnyT.takeA (i := 10) (v := ?_) rfl (by kernel_rfl) (by kernel_rfl) (by kernel_rfl) (fun _ _ _ h => h) (Or.inl ⟨by rfl, ?_⟩) ?_
      rotate_left 1
      · (intro w0 _; go_simp; try with_reducible rfl)
      try simp only [Act.put, List.setIfInBounds_toArray, List.set_cons_zero, List.set_cons_succ, List.getElem_toArray, List.getElem_cons_zero, List.getElem_cons_succ]
      refine AnyT.takeA (i := 11) (v := undef) rfl (by kernel_rfl) (by kernel_rfl) (by kernel_rfl) (fun _ _ _ h => h) (Or.inr ⟨by rfl, rfl⟩) ?_
      try simp only [Act.put, List.setIfInBounds_toArray, List.set_cons_zero, List.set_cons_succ, List.getElem_toArray, List.getElem_cons_zero, List.getElem_cons_succ]
      refine AnyT.takeA (i := 13) (v := undef) rfl (by kernel_rfl) (by kernel_rfl) (by kernel_rfl) (fun _ _ _ h => h) (Or.inr ⟨by rfl, rfl⟩) ?_
      try simp only [Act.put, List.setIfInBounds_toArray, List.set_cons_zero, List.set_cons_succ, List.getElem_toArray, List.getElem_cons_zero, List.getElem_cons_succ]
      refine AnyT.takeA (i := 14) (v := undef) rfl (by kernel_rfl) (by kernel_rfl) (by kernel_rfl) (fun _ _ _ h => h) (Or.inr ⟨by rfl, rfl⟩) ?_
      try simp only [Act.put, List.setIfInBounds_toArray, List.set_cons_zero, List.set_cons_succ, List.getElem_toArray, List.getElem_cons_zero, List.getElem_cons_succ]
      refine AnyT.call (i := 12) (by kernel_rfl) rfl (fun K hK => ?_)
      try simp only [Act.put, List.setIfInBounds_toArray, List.set_cons_zero, List.set_cons_succ, List.getElem_toArray, List.getElem_cons_zero, List.getElem_cons_succ]
      rw [if_neg (by intro h; cases h)]
      refine hK.out _ _ (fun _ h => h) (fun _ => ?_)
      clear hK K
      try simp only [Act.put, List.setIfInBounds_toArray, List.set_cons_zero, List.set_cons_succ, List.getElem_toArray, List.getElem_cons_zero, List.getElem_cons_succ]
      refine AnyT.call (i := 15) (by kernel_rfl) rfl (fun K hK => ?_)
      try simp only [Act.put, List.setIfInBounds_toArray, List.set_cons_zero, List.set_cons_succ, List.getElem_toArray, List.getElem_cons_zero, List.getElem_cons_succ]
      rw [if_neg (by intro h; cases h)]
      refine hK.out _ _ (fun _ h => h) (fun _ => ?_)
      clear hK K
      try simp only [Act.put, List.setIfInBounds_toArray, List.set_cons_zero, List.set_cons_succ, List.getElem_toArray, List.getElem_cons_zero, List.getElem_cons_succ]
      refine AnyT.takeA (i := 16) (v := undef) rfl (by kernel_rfl) (by kernel_rfl) (by kernel_rfl) (fun _ _ _ h => h) (Or.inr ⟨by rfl, rfl⟩) ?_
      try simp only [Act.put, List.setIfInBounds_toArray, List.set_cons_zero, List.set_cons_succ, List.getElem_toArray, List.getElem_cons_zero, List.getElem_cons_succ]
      refine AnyT.takeA (i := 17) (v := ?_) rfl (by kernel_rfl) (by kernel_rfl) (by kernel_rfl) (fun _ _ _ h => h) (Or.inl ⟨by rfl, ?_⟩) ?_
      rotate_left 1
      · (intro w0 _; go_simp; try with_reducible rfl)
      try simp only [Act.put, List.setIfInBounds_toArray, List.set_cons_zero, List.set_cons_succ, List.getElem_toArray, List.getElem_cons_zero, List.getElem_cons_succ]
      refine AnyT.takeA (i := 18) (v := ?_) rfl (by kernel_rfl) (by kernel_rfl) (by kernel_rfl) (fun _ _ _ h => h) (Or.inl ⟨by rfl, ?_⟩) ?_
      rotate_left 1
      · (intro w0 _; go_simp; try with_reducible rfl)
      try simp only [Act.put, List.setIfInBounds_toArray, List.set_cons_zero, List.set_cons_succ, List.getElem_toArray, List.getElem_cons_zero, List.getElem_cons_succ]
      refine AnyT.takeA (i := 19) (v := undef) rfl (by kernel_rfl) (by kernel_rfl) (by kernel_rfl) (fun _ _ _ h => h) (Or.inr ⟨by rfl, rfl⟩) ?_
      try simp only [Act.put, List.setIfInBounds_toArray, List.set_cons_zero, List.set_cons_succ, List.getElem_toArray, List.getElem_cons_zero, List.getElem_cons_succ]
      refine AnyT.takeA (i := 20) (v := undef) rfl (by kernel_rfl) (by kernel_rfl) (by kernel_rfl) (fun _ _ _ h => h) (Or.inr ⟨by rfl, rfl⟩) ?_
      try simp only [Act.put, List.setIfInBounds_toArray, List.set_cons_zero, List.set_cons_succ, List.getElem_toArray, List.getElem_cons_zero, List.getElem_cons_succ]
      refine AnyT.takeA (i := 21) (v := undef) rfl (by kernel_rfl) (by kernel_rfl) (by kernel_rfl) (fun _ _ _ h => h) (Or.inr ⟨by rfl, rfl⟩) ?_
      try simp only [Act.put, List.setIfInBounds_toArray, List.set_cons_zero, List.set_cons_succ, List.getElem_toArray, List.getElem_cons_zero, List.getElem_cons_succ]
      refine AnyT.takeA (i := 22) (v := undef) rfl (by kernel_rfl) (by kernel_rfl) (by kernel_rfl) (fun _ _ _ h => h) (Or.inr ⟨by rfl, rfl⟩) ?_
      try simp only [Act.put, List.setIfInBounds_toArray, List.set_cons_zero, List.set_cons_succ, List.getElem_toArray, List.getElem_cons_zero, List.getElem_cons_succ]
      refine AnyT.takeA (i := 23) (v := undef) rfl (by kernel_rfl) (by kernel_rfl) (by kernel_rfl) (fun _ _ _ h => h) (Or.inr ⟨by rfl, rfl⟩) ?_
      try simp only [Act.put, List.setIfInBounds_toArray, List.set_cons_zero, List.set_cons_succ, List.getElem_toArray, List.getElem_cons_zero, List.getElem_cons_succ]
      refine AnyT.takeA (i := 24) (v := undef) rfl (by kernel_rfl) (by kernel_rfl) (by kernel_rfl) (fun _ _ _ h => h) (Or.inr ⟨by rfl, rfl⟩) ?_
      try simp only [Act.put, List.setIfInBounds_toArray, List.set_cons_zero, List.set_cons_succ, List.getElem_toArray, List.getElem_cons_zero, List.getElem_cons_succ]
      refine AnyT.takeA (i := 25) (v := undef) rfl (by kernel_rfl) (by kernel_rfl) (by kernel_rfl) (fun _ _ _ h => h) (Or.inr ⟨by rfl, rfl⟩) ?_
      try simp only [Act.put, List.setIfInBounds_toArray, List.set_cons_zero, List.set_cons_succ, List.getElem_toArray, List.getElem_cons_zero, List.getElem_cons_succ]
      refine AnyT.takeA (i := 26) (v := undef) rfl (by kernel_rfl) (by kernel_rfl) (by kernel_rfl) (fun _ _ _ h => h) (Or.inr ⟨by rfl, rfl⟩) ?_
      try simp only [Act.put, List.setIfInBounds_toArray, List.set_cons_zero, List.set_cons_succ, List.getElem_toArray, List.getElem_cons_zero, List.getElem_cons_succ]
      refine AnyT.takeA (i := 27) (v := ?_) rfl (by kernel_rfl) (by kernel_rfl) (by kernel_rfl) (fun _ _ _ h => h) (Or.inl ⟨by rfl, ?_⟩) ?_
      rotate_left 1
      · (intro w0 _; go_simp; try with_reducible rfl)
      try simp only [Act.put, List.setIfInBounds_toArray, List.set_cons_zero, List.set_cons_succ, List.getElem_toArray, List.getElem_cons_zero, List.getElem_cons_succ]
      refine AnyT.done (by kernel_rfl) ?_ _
      clear c00 c01 c10 c11 c20 c21
      have y0 : q2.cell? ⟨w.heap.size + 1 + 1 + 1, 0, none⟩ = some (.slice none 0 0) := J.r3.cell 0
      have y1 : q2.cell? ⟨w.heap.size + 1 + 1 + 1, 1, none⟩ = some (.slice none 0 0) := J.r3.cell 1
      have g0 := J.r3.free 0
      have g1 := J.r3.free 1
      have ra := J.r3.put 0 (.slice none 0 0)
      have y2 : (q2.setCell ⟨w.heap.size + 1 + 1 + 1, 0, none⟩ (.slice none 0 0)).cell? ⟨w.heap.size + 1 + 1 + 1, 1, none⟩ = some (.slice none 0 0) := ra.cell 1
      have g2 := ra.free 1
      have rb := ra.put 1 (.slice none 0 0)
      have u0 : ((q2.setCell ⟨w.heap.size + 1 + 1 + 1, 0, none⟩ (.slice none 0 0)).setCell ⟨w.heap.size + 1 + 1 + 1, 1, none⟩ (.slice none 0 0)).cell? ⟨w.heap.size + 1 + 1 + 1, 0, none⟩ = some (.slice none 0 0) := rb.cell 0
      have u1 : ((q2.setCell ⟨w.heap.size + 1 + 1 + 1, 0, none⟩ (.slice none 0 0)).setCell ⟨w.heap.size + 1 + 1 + 1, 1, none⟩ (.slice none 0 0)).cell? ⟨w.heap.size + 1 + 1 + 1, 1, none⟩ = some (.slice none 0 0) := rb.cell 1
      have FZ : AnsWalk w (joinW d.1 d.2 k k') (joinB d.1 d.2 k k') (.returned (.tuple #[.agg #[.slice none 0 0, .slice none 0 0], .bool false])) ((q2.setCell ⟨w.heap.size + 1 + 1 + 1, 0, none⟩ (.slice none 0 0)).setCell ⟨w.heap.size + 1 + 1 + 1, 1, none⟩ (.slice none 0 0)) := ansWalk_no (join_no2 HB.out) (((J.b).setCell (show w.heap.size ≤ w.heap.size + 1 + 1 + 1 by omega) _).setCell (show w.heap.size ≤ w.heap.size + 1 + 1 + 1 by omega) _)
      have HFZ := Lib.hid FZ
      clear FZ ra rb k00_1 k01_1 k10_1 k11_1 k20_1 k21_1 k00_2 k01_2 k10_2 k11_2 k20_2 k21_2 J
      go_wp2
      exact bodyPost_ret (v := .tuple #[.agg #[.slice none 0 0, .slice none 0 0], .bool false]) (by simp [results, Try.results43, go_sem, u0, u1]) rfl HFZ.out
    | true =>
      have HB := Lib.hid hb
      clear hb
      cases hc : decide (endL k = k'.1) with
      | false =>
        have HC := Lib.hid hc
        clear hc
        go_enter Try.func43, Try.ntmps43
        go_wp2_with fail
        rw [← HW.out]
        have c00 : W.cell? ⟨w.heap.size, 0, none⟩ = some (a) := J.r0.cell 0
        have c01 : W.cell? ⟨w.heap.size, 1, none⟩ = some (v) := J.r0.cell 1
        have c10 : W.cell? ⟨w.heap.size + 1, 0, none⟩ = some (.slice F fn fc) := J.r1.cell 0
        have c11 : W.cell? ⟨w.heap.size + 1, 1, none⟩ = some (.slice S sn sc) := J.r1.cell 1
        have c20 : W.cell? ⟨w.heap.size + 1 + 1, 0, none⟩ = some (.slice F' fn' fc') := J.r2.cell 0
        have c21 : W.cell? ⟨w.heap.size + 1 + 1, 1, none⟩ = some (.slice S' sn' sc') := J.r2.cell 1
        replace J := J.drew
        refine AnyT.start (S := (fun w' => w'.cell? ⟨w.heap.size, 0, none⟩ = some (a) ∧ w'.cell? ⟨w.heap.size, 1, none⟩ = some (v) ∧ w'.cell? ⟨w.heap.size + 1, 0, none⟩ = some (.slice F fn fc) ∧ w'.cell? ⟨w.heap.size + 1, 1, none⟩ = some (.slice S sn sc) ∧ w'.cell? ⟨w.heap.size + 1 + 1, 0, none⟩ = some (.slice F' fn' fc') ∧ w'.cell? ⟨w.heap.size + 1 + 1, 1, none⟩ = some (.slice S' sn' sc'))) (fun _ => false) (by kernel_rfl) ⟨c00, c01, c10, c11, c20, c21⟩ (fun hHeld => ?_)
        refine AnyT.take (i := 0) (v := ?_) rfl (by kernel_rfl) (by kernel_rfl) (by kernel_rfl) (by kernel_rfl) (fun _ _ _ h => h) (Or.inl ⟨by rfl, ?_⟩) (by assumption) ?_
        rotate_left 1
        · (intro w0 hSw; (try dsimp only at hSw); go_simp; try with_reducible rfl)
        try simp only [Act.put, List.setIfInBounds_toArray, List.set_cons_zero, List.set_cons_succ, List.getElem_toArray, List.getElem_cons_zero, List.getElem_cons_succ]
        refine AnyT.take (i := 1) (v := ?_) rfl (by kernel_rfl) (by kernel_rfl) (by kernel_rfl) (by kernel_rfl) (fun _ _ _ h => h) (Or.inl ⟨by rfl, ?_⟩) (by assumption) ?_
        rotate_left 1
        · (intro w0 hSw; (try dsimp only at hSw); go_simp; try with_reducible rfl)
        try simp only [Act.put, List.setIfInBounds_toArray, List.set_cons_zero, List.set_cons_succ, List.getElem_toArray, List.getElem_cons_zero, List.getElem_cons_succ]
        refine AnyT.call (i := 2) (by kernel_rfl) rfl (fun K hK => ?_)
        try simp only [Act.put, List.setIfInBounds_toArray, List.set_cons_zero, List.set_cons_succ, List.getElem_toArray, List.getElem_cons_zero, List.getElem_cons_succ]
        rw [if_pos (by rfl)]
        go_simp
        (go_at_call 36; refine (L1.out _ J).mono ?_; rintro e q1 ⟨he, bb⟩; rw [HA.out] at he; subst he; have done1 : True := trivial; replace J := J.next bb; have k00_1 : q1.cell? ⟨w.heap.size, 0, none⟩ = some (a) := J.r0.cell 0; have k01_1 : q1.cell? ⟨w.heap.size, 1, none⟩ = some (v) := J.r0.cell 1; have k10_1 : q1.cell? ⟨w.heap.size + 1, 0, none⟩ = some (.slice F fn fc) := J.r1.cell 0; have k11_1 : q1.cell? ⟨w.heap.size + 1, 1, none⟩ = some (.slice S sn sc) := J.r1.cell 1; have k20_1 : q1.cell? ⟨w.heap.size + 1 + 1, 0, none⟩ = some (.slice F' fn' fc') := J.r2.cell 0; have k21_1 : q1.cell? ⟨w.heap.size + 1 + 1, 1, none⟩ = some (.slice S' sn' sc') := J.r2.cell 1; clear bb; go_wp2_with fail)
        refine hK.out _ _ (fun _ _ => ?_) (fun hKeep => ?_)
        · exact ⟨k00_1, k01_1, k10_1, k11_1, k20_1, k21_1⟩
        replace hHeld := hKeep (by first | rfl | trivial) hHeld
        clear hK K hKeep
        try simp only [Act.put, List.setIfInBounds_toArray, List.set_cons_zero, List.set_cons_succ, List.getElem_toArray, List.getElem_cons_zero, List.getElem_cons_succ]
        refine AnyT.takeA (i := 3) (v := ?_) rfl (by kernel_rfl) (by kernel_rfl) (by kernel_rfl) (fun _ _ _ h => h) (Or.inl ⟨by rfl, ?_⟩) ?_
        rotate_left 1
        · (intro w0 _; go_simp; try with_reducible rfl)
        try simp only [Act.put, List.setIfInBounds_toArray, List.set_cons_zero, List.set_cons_succ, List.getElem_toArray, List.getElem_cons_zero, List.getElem_cons_succ]
        refine AnyT.takeA (i := 4) (v := ?_) rfl (by kernel_rfl) (by kernel_rfl) (by kernel_rfl) (fun _ _ _ h => h) (Or.inl ⟨by rfl, ?_⟩) ?_
        rotate_left 1
        · (intro w0 _; go_simp; try with_reducible rfl)
        try simp only [Act.put, List.setIfInBounds_toArray, List.set_cons_zero, List.set_cons_succ, List.getElem_toArray, List.getElem_cons_zero, List.getElem_cons_succ]
        refine AnyT.take (i := 5) (v := ?_) rfl (by kernel_rfl) (by kernel_rfl) (by kernel_rfl) (by kernel_rfl) (fun _ _ _ h => h) (Or.inl ⟨by rfl, ?_⟩) (by assumption) ?_
        rotate_left 1
        · (intro w0 hSw; (try dsimp only at hSw); go_simp; try with_reducible rfl)
        try simp only [Act.put, List.setIfInBounds_toArray, List.set_cons_zero, List.set_cons_succ, List.getElem_toArray, List.getElem_cons_zero, List.getElem_cons_succ]
        refine AnyT.take (i := 6) (v := ?_) rfl (by kernel_rfl) (by kernel_rfl) (by kernel_rfl) (by kernel_rfl) (fun _ _ _ h => h) (Or.inl ⟨by rfl, ?_⟩) (by assumption) ?_
        rotate_left 1
        · (intro w0 hSw; (try dsimp only at hSw); go_simp; try with_reducible rfl)
        try simp only [Act.put, List.setIfInBounds_toArray, List.set_cons_zero, List.set_cons_succ, List.getElem_toArray, List.getElem_cons_zero, List.getElem_cons_succ]
        refine AnyT.call (i := 7) (by kernel_rfl) rfl (fun K hK => ?_)
        try simp only [Act.put, List.setIfInBounds_toArray, List.set_cons_zero, List.set_cons_succ, List.getElem_toArray, List.getElem_cons_zero, List.getElem_cons_succ]
        rw [if_pos (by rfl)]
        go_simp
        (have := done1; go_at_call 36; refine (L2.out _ J).mono ?_; rintro e q2 ⟨he, bb⟩; rw [HB.out] at he; subst he; replace J := J.next bb; have k00_2 : q2.cell? ⟨w.heap.size, 0, none⟩ = some (a) := J.r0.cell 0; have k01_2 : q2.cell? ⟨w.heap.size, 1, none⟩ = some (v) := J.r0.cell 1; have k10_2 : q2.cell? ⟨w.heap.size + 1, 0, none⟩ = some (.slice F fn fc) := J.r1.cell 0; have k11_2 : q2.cell? ⟨w.heap.size + 1, 1, none⟩ = some (.slice S sn sc) := J.r1.cell 1; have k20_2 : q2.cell? ⟨w.heap.size + 1 + 1, 0, none⟩ = some (.slice F' fn' fc') := J.r2.cell 0; have k21_2 : q2.cell? ⟨w.heap.size + 1 + 1, 1, none⟩ = some (.slice S' sn' sc') := J.r2.cell 1; clear bb; go_wp2_with fail)
        refine hK.out _ _ (fun _ _ => ?_) (fun hKeep => ?_)
        · exact ⟨k00_2, k01_2, k10_2, k11_2, k20_2, k21_2⟩
        replace hHeld := hKeep (by first | rfl | trivial) hHeld
        clear hK K hKeep
        try simp only [Act.put, List.setIfInBounds_toArray, List.set_cons_zero, List.set_cons_succ, List.getElem_toArray, List.getElem_cons_zero, List.getElem_cons_succ]
        refine AnyT.takeA (i := 8) (v := ?_) rfl (by kernel_rfl) (by kernel_rfl) (by kernel_rfl) (fun _ _ _ h => h) (Or.inl ⟨by rfl, ?_⟩) ?_
        rotate_left 1
        · (intro w0 _; go_simp; try with_reducible rfl)
        try simp only [Act.put, List.setIfInBounds_toArray, List.set_cons_zero, List.set_cons_succ, List.getElem_toArray, List.getElem_cons_zero, List.getElem_cons_succ]
        refine AnyT.takeA (i := 9) (v := ?_) rfl (by kernel_rfl) (by kernel_rfl) (by kernel_rfl) (fun _ _ _ h => h) (Or.inl ⟨by rfl, ?_⟩) ?_
        rotate_left 1
        · (intro w0 _; go_simp; try with_reducible rfl)
        try simp only [Act.put, List.setIfInBounds_toArray, List.set_cons_zero, List.set_cons_succ, List.getElem_toArray, List.getElem_cons_zero, List.getElem_cons_succ]
        refine AnyT.takeA (i := 10) (v := ?_) rfl (by kernel_rfl) (by kernel_rfl) (by kernel_rfl) (fun _ _ _ h => h) (Or.inl ⟨by rfl, ?_⟩) ?_
        rotate_left 1
        · (intro w0 _; go_simp; try with_reducible rfl)
        try simp only [Act.put, List.setIfInBounds_toArray, List.set_cons_zero, List.set_cons_succ, List.getElem_toArray, List.getElem_cons_zero, List.getElem_cons_succ]
        refine AnyT.take (i := 11) (v := ?_) rfl (by kernel_rfl) (by kernel_rfl) (by kernel_rfl) (by kernel_rfl) (fun _ _ _ h => h) (Or.inl ⟨by rfl, ?_⟩) (by assumption) ?_
        rotate_left 1
        · (intro w0 hSw; (try dsimp only at hSw); go_simp; try with_reducible rfl)
        try simp only [Act.put, List.setIfInBounds_toArray, List.set_cons_zero, List.set_cons_succ, List.getElem_toArray, List.getElem_cons_zero, List.getElem_cons_succ]
        refine AnyT.takeA (i := 13) (v := ?_) rfl (by kernel_rfl) (by kernel_rfl) (by kernel_rfl) (fun _ _ _ h => h) (Or.inl ⟨by rfl, ?_⟩) ?_
        rotate_left 1
        · (intro w0 _; go_simp; try with_reducible rfl)
        try simp only [Act.put, List.setIfInBounds_toArray, List.set_cons_zero, List.set_cons_succ, List.getElem_toArray, List.getElem_cons_zero, List.getElem_cons_succ]
        refine AnyT.take (i := 14) (v := ?_) rfl (by kernel_rfl) (by kernel_rfl) (by kernel_rfl) (by kernel_rfl) (fun _ _ _ h => h) (Or.inl ⟨by rfl, ?_⟩) (by assumption) ?_
        rotate_left 1
        · (intro w0 hSw; (try dsimp only at hSw); go_simp; try with_reducible rfl)
        try simp only [Act.put, List.setIfInBounds_toArray, List.set_cons_zero, List.set_cons_succ, List.getElem_toArray, List.getElem_cons_zero, List.getElem_cons_succ]
        refine AnyT.call (i := 12) (by kernel_rfl) rfl (fun K hK => ?_)
        try simp only [Act.put, List.setIfInBounds_toArray, List.set_cons_zero, List.set_cons_succ, List.getElem_toArray, List.getElem_cons_zero, List.getElem_cons_succ]
        rw [if_pos (by rfl)]
        go_simp
        (go_at_call 81; refine (L3.out _ J).mono ?_; rintro e q3 ⟨X, xn, xc, rfl, oX, bb⟩; have hX := Lib.hid oX; replace J := J.next bb; have k00_3 : q3.cell? ⟨w.heap.size, 0, none⟩ = some (a) := J.r0.cell 0; have k01_3 : q3.cell? ⟨w.heap.size, 1, none⟩ = some (v) := J.r0.cell 1; have k10_3 : q3.cell? ⟨w.heap.size + 1, 0, none⟩ = some (.slice F fn fc) := J.r1.cell 0; have k11_3 : q3.cell? ⟨w.heap.size + 1, 1, none⟩ = some (.slice S sn sc) := J.r1.cell 1; have k20_3 : q3.cell? ⟨w.heap.size + 1 + 1, 0, none⟩ = some (.slice F' fn' fc') := J.r2.cell 0; have k21_3 : q3.cell? ⟨w.heap.size + 1 + 1, 1, none⟩ = some (.slice S' sn' sc') := J.r2.cell 1; clear bb; go_wp2_with fail)
        refine hK.out _ _ (fun _ _ => ?_) (fun hKeep => ?_)
        · exact ⟨k00_3, k01_3, k10_3, k11_3, k20_3, k21_3⟩
        replace hHeld := hKeep (by first | rfl | trivial) hHeld
        clear hK K hKeep
        try simp only [Act.put, List.setIfInBounds_toArray, List.set_cons_zero, List.set_cons_succ, List.getElem_toArray, List.getElem_cons_zero, List.getElem_cons_succ]
        refine AnyT.call (i := 15) (by kernel_rfl) rfl (fun K hK => ?_)
        try simp only [Act.put, List.setIfInBounds_toArray, List.set_cons_zero, List.set_cons_succ, List.getElem_toArray, List.getElem_cons_zero, List.getElem_cons_succ]
        rw [if_pos (by rfl)]
        go_simp
        (go_at_call 78; refine (L4.out _ J X xn xc oX).mono ?_; rintro e q4 ⟨he, bb⟩; rw [HC.out] at he; subst he; replace J := J.next bb; have k00_4 : q4.cell? ⟨w.heap.size, 0, none⟩ = some (a) := J.r0.cell 0; have k01_4 : q4.cell? ⟨w.heap.size, 1, none⟩ = some (v) := J.r0.cell 1; have k10_4 : q4.cell? ⟨w.heap.size + 1, 0, none⟩ = some (.slice F fn fc) := J.r1.cell 0; have k11_4 : q4.cell? ⟨w.heap.size + 1, 1, none⟩ = some (.slice S sn sc) := J.r1.cell 1; have k20_4 : q4.cell? ⟨w.heap.size + 1 + 1, 0, none⟩ = some (.slice F' fn' fc') := J.r2.cell 0; have k21_4 : q4.cell? ⟨w.heap.size + 1 + 1, 1, none⟩ = some (.slice S' sn' sc') := J.r2.cell 1; clear bb; go_wp2_with fail)
        refine hK.out _ _ (fun _ _ => ?_) (fun hKeep => ?_)
        · exact ⟨k00_4, k01_4, k10_4, k11_4, k20_4, k21_4⟩
        replace hHeld := hKeep (by first | rfl | trivial) hHeld
        clear hK K hKeep
        try simp only [Act.put, List.setIfInBounds_toArray, List.set_cons_zero, List.set_cons_succ, List.getElem_toArray, List.getElem_cons_zero, List.getElem_cons_succ]
        refine AnyT.takeA (i := 16) (v := ?_) rfl (by kernel_rfl) (by kernel_rfl) (by kernel_rfl) (fun _ _ _ h => h) (Or.inl ⟨by rfl, ?_⟩) ?_
        rotate_left 1
        · (intro w0 _; go_simp; try with_reducible rfl)
        try simp only [Act.put, List.setIfInBounds_toArray, List.set_cons_zero, List.set_cons_succ, List.getElem_toArray, List.getElem_cons_zero, List.getElem_cons_succ]
        refine AnyT.takeA (i := 17) (v := ?_) rfl (by kernel_rfl) (by kernel_rfl) (by kernel_rfl) (fun _ _ _ h => h) (Or.inl ⟨by rfl, ?_⟩) ?_
        rotate_left 1
        · (intro w0 _; go_simp; try with_reducible rfl)
        try simp only [Act.put, List.setIfInBounds_toArray, List.set_cons_zero, List.set_cons_succ, List.getElem_toArray, List.getElem_cons_zero, List.getElem_cons_succ]
        refine AnyT.takeA (i := 18) (v := ?_) rfl (by kernel_rfl) (by kernel_rfl) (by kernel_rfl) (fun _ _ _ h => h) (Or.inl ⟨by rfl, ?_⟩) ?_
        rotate_left 1
        · (intro w0 _; go_simp; try with_reducible rfl)
        try simp only [Act.put, List.setIfInBounds_toArray, List.set_cons_zero, List.set_cons_succ, List.getElem_toArray, List.getElem_cons_zero, List.getElem_cons_succ]
        refine AnyT.takeA (i := 19) (v := undef) rfl (by kernel_rfl) (by kernel_rfl) (by kernel_rfl) (fun _ _ _ h => h) (Or.inr ⟨by rfl, rfl⟩) ?_
        try simp only [Act.put, List.setIfInBounds_toArray, List.set_cons_zero, List.set_cons_succ, List.getElem_toArray, List.getElem_cons_zero, List.getElem_cons_succ]
        refine AnyT.takeA (i := 20) (v := undef) rfl (by kernel_rfl) (by kernel_rfl) (by kernel_rfl) (fun _ _ _ h => h) (Or.inr ⟨by rfl, rfl⟩) ?_
        try simp only [Act.put, List.setIfInBounds_toArray, List.set_cons_zero, List.set_cons_succ, List.getElem_toArray, List.getElem_cons_zero, List.getElem_cons_succ]
        refine AnyT.takeA (i := 21) (v := undef) rfl (by kernel_rfl) (by kernel_rfl) (by kernel_rfl) (fun _ _ _ h => h) (Or.inr ⟨by rfl, rfl⟩) ?_
        try simp only [Act.put, List.setIfInBounds_toArray, List.set_cons_zero, List.set_cons_succ, List.getElem_toArray, List.getElem_cons_zero, List.getElem_cons_succ]
        refine AnyT.takeA (i := 22) (v := undef) rfl (by kernel_rfl) (by kernel_rfl) (by kernel_rfl) (fun _ _ _ h => h) (Or.inr ⟨by rfl, rfl⟩) ?_
        try simp only [Act.put, List.setIfInBounds_toArray, List.set_cons_zero, List.set_cons_succ, List.getElem_toArray, List.getElem_cons_zero, List.getElem_cons_succ]
        refine AnyT.takeA (i := 23) (v := undef) rfl (by kernel_rfl) (by kernel_rfl) (by kernel_rfl) (fun _ _ _ h => h) (Or.inr ⟨by rfl, rfl⟩) ?_
        try simp only [Act.put, List.setIfInBounds_toArray, List.set_cons_zero, List.set_cons_succ, List.getElem_toArray, List.getElem_cons_zero, List.getElem_cons_succ]
        refine AnyT.takeA (i := 24) (v := undef) rfl (by kernel_rfl) (by kernel_rfl) (by kernel_rfl) (fun _ _ _ h => h) (Or.inr ⟨by rfl, rfl⟩) ?_
        try simp only [Act.put, List.setIfInBounds_toArray, List.set_cons_zero, List.set_cons_succ, List.getElem_toArray, List.getElem_cons_zero, List.getElem_cons_succ]
        refine AnyT.takeA (i := 25) (v := undef) rfl (by kernel_rfl) (by kernel_rfl) (by kernel_rfl) (fun _ _ _ h => h) (Or.inr ⟨by rfl, rfl⟩) ?_
        try simp only [Act.put, List.setIfInBounds_toArray, List.set_cons_zero, List.set_cons_succ, List.getElem_toArray, List.getElem_cons_zero, List.getElem_cons_succ]
        refine AnyT.takeA (i := 26) (v := undef) rfl (by kernel_rfl) (by kernel_rfl) (by kernel_rfl) (fun _ _ _ h => h) (Or.inr ⟨by rfl, rfl⟩) ?_
        try simp only [Act.put, List.setIfInBounds_toArray, List.set_cons_zero, List.set_cons_succ, List.getElem_toArray, List.getElem_cons_zero, List.getElem_cons_succ]
        refine AnyT.takeA (i := 27) (v := ?_) rfl (by kernel_rfl) (by kernel_rfl) (by kernel_rfl) (fun _ _ _ h => h) (Or.inl ⟨by rfl, ?_⟩) ?_
        rotate_left 1
        · (intro w0 _; go_simp; try with_reducible rfl)
        try simp only [Act.put, List.setIfInBounds_toArray, List.set_cons_zero, List.set_cons_succ, List.getElem_toArray, List.getElem_cons_zero, List.getElem_cons_succ]
        refine AnyT.done (by kernel_rfl) ?_ _
        clear c00 c01 c10 c11 c20 c21
        have y0 : q4.cell? ⟨w.heap.size + 1 + 1 + 1, 0, none⟩ = some (.slice none 0 0) := J.r3.cell 0
        have y1 : q4.cell? ⟨w.heap.size + 1 + 1 + 1, 1, none⟩ = some (.slice none 0 0) := J.r3.cell 1
        have g0 := J.r3.free 0
        have g1 := J.r3.free 1
        have ra := J.r3.put 0 (.slice none 0 0)
        have y2 : (q4.setCell ⟨w.heap.size + 1 + 1 + 1, 0, none⟩ (.slice none 0 0)).cell? ⟨w.heap.size + 1 + 1 + 1, 1, none⟩ = some (.slice none 0 0) := ra.cell 1
        have g2 := ra.free 1
        have rb := ra.put 1 (.slice none 0 0)
        have u0 : ((q4.setCell ⟨w.heap.size + 1 + 1 + 1, 0, none⟩ (.slice none 0 0)).setCell ⟨w.heap.size + 1 + 1 + 1, 1, none⟩ (.slice none 0 0)).cell? ⟨w.heap.size + 1 + 1 + 1, 0, none⟩ = some (.slice none 0 0) := rb.cell 0
        have u1 : ((q4.setCell ⟨w.heap.size + 1 + 1 + 1, 0, none⟩ (.slice none 0 0)).setCell ⟨w.heap.size + 1 + 1 + 1, 1, none⟩ (.slice none 0 0)).cell? ⟨w.heap.size + 1 + 1 + 1, 1, none⟩ = some (.slice none 0 0) := rb.cell 1
        have FZ : AnsWalk w (joinW d.1 d.2 k k') (joinB d.1 d.2 k k') (.returned (.tuple #[.agg #[.slice none 0 0, .slice none 0 0], .bool false])) ((q4.setCell ⟨w.heap.size + 1 + 1 + 1, 0, none⟩ (.slice none 0 0)).setCell ⟨w.heap.size + 1 + 1 + 1, 1, none⟩ (.slice none 0 0)) := ansWalk_no (join_no3 HC.out) (((J.b).setCell (show w.heap.size ≤ w.heap.size + 1 + 1 + 1 by omega) _).setCell (show w.heap.size ≤ w.heap.size + 1 + 1 + 1 by omega) _)
        have HFZ := Lib.hid FZ
        clear FZ ra rb k00_1 k01_1 k10_1 k11_1 k20_1 k21_1 k00_2 k01_2 k10_2 k11_2 k20_2 k21_2 k00_3 k01_3 k10_3 k11_3 k20_3 k21_3 k00_4 k01_4 k10_4 k11_4 k20_4 k21_4 J
        go_wp2
        exact bodyPost_ret (v := .tuple #[.agg #[.slice none 0 0, .slice none 0 0], .bool false]) (by simp [results, Try.results43, go_sem, u0, u1]) rfl HFZ.out
      | true =>
        have HC := Lib.hid hc
        clear hc
        have hwr : IntKind.i64.wrap ((sn : Int) + (sn' : Int)) = (sn : Int) + (sn' : Int) := by rw [IntKind.wrap_i64]; omega
        by_cases hlen : sn + sn' ≤ 60
        · have HLEN := Lib.hid (show k.2.length + k'.2.length ≤ 60 by rw [HL1.out, HL2.out]; exact hlen)
          have hle : ¬ (60 : Int) < (sn : Int) + (sn' : Int) := by omega
          clear hlen
          go_enter Try.func43, Try.ntmps43
          go_wp2_with fail
          rw [← HW.out]
          have c00 : W.cell? ⟨w.heap.size, 0, none⟩ = some (a) := J.r0.cell 0
          have c01 : W.cell? ⟨w.heap.size, 1, none⟩ = some (v) := J.r0.cell 1
          have c10 : W.cell? ⟨w.heap.size + 1, 0, none⟩ = some (.slice F fn fc) := J.r1.cell 0
          have c11 : W.cell? ⟨w.heap.size + 1, 1, none⟩ = some (.slice S sn sc) := J.r1.cell 1
          have c20 : W.cell? ⟨w.heap.size + 1 + 1, 0, none⟩ = some (.slice F' fn' fc') := J.r2.cell 0
          have c21 : W.cell? ⟨w.heap.size + 1 + 1, 1, none⟩ = some (.slice S' sn' sc') := J.r2.cell 1
          replace J := J.drew
          refine AnyT.start (S := (fun w' => w'.cell? ⟨w.heap.size, 0, none⟩ = some (a) ∧ w'.cell? ⟨w.heap.size, 1, none⟩ = some (v) ∧ w'.cell? ⟨w.heap.size + 1, 0, none⟩ = some (.slice F fn fc) ∧ w'.cell? ⟨w.heap.size + 1, 1, none⟩ = some (.slice S sn sc) ∧ w'.cell? ⟨w.heap.size + 1 + 1, 0, none⟩ = some (.slice F' fn' fc') ∧ w'.cell? ⟨w.heap.size + 1 + 1, 1, none⟩ = some (.slice S' sn' sc'))) (fun _ => false) (by kernel_rfl) ⟨c00, c01, c10, c11, c20, c21⟩ (fun hHeld => ?_)
          refine AnyT.take (i := 0) (v := ?_) rfl (by kernel_rfl) (by kernel_rfl) (by kernel_rfl) (by kernel_rfl) (fun _ _ _ h => h) (Or.inl ⟨by rfl, ?_⟩) (by assumption) ?_
          rotate_left 1
          · (intro w0 hSw; (try dsimp only at hSw); go_simp; try with_reducible rfl)
          try simp only [Act.put, List.setIfInBounds_toArray, List.set_cons_zero, List.set_cons_succ, List.getElem_toArray, List.getElem_cons_zero, List.getElem_cons_succ]
          refine AnyT.take (i := 1) (v := ?_) rfl (by kernel_rfl) (by kernel_rfl) (by kernel_rfl) (by kernel_rfl) (fun _ _ _ h => h) (Or.inl ⟨by rfl, ?_⟩) (by assumption) ?_
          rotate_left 1
          · (intro w0 hSw; (try dsimp only at hSw); go_simp; try with_reducible rfl)
          try simp only [Act.put, List.setIfInBounds_toArray, List.set_cons_zero, List.set_cons_succ, List.getElem_toArray, List.getElem_cons_zero, List.getElem_cons_succ]
          refine AnyT.call (i := 2) (by kernel_rfl) rfl (fun K hK => ?_)
          try simp only [Act.put, List.setIfInBounds_toArray, List.set_cons_zero, List.set_cons_succ, List.getElem_toArray, List.getElem_cons_zero, List.getElem_cons_succ]
          rw [if_pos (by rfl)]
          go_simp
          (go_at_call 36; refine (L1.out _ J).mono ?_; rintro e q1 ⟨he, bb⟩; rw [HA.out] at he; subst he; have done1 : True := trivial; replace J := J.next bb; have k00_1 : q1.cell? ⟨w.heap.size, 0, none⟩ = some (a) := J.r0.cell 0; have k01_1 : q1.cell? ⟨w.heap.size, 1, none⟩ = some (v) := J.r0.cell 1; have k10_1 : q1.cell? ⟨w.heap.size + 1, 0, none⟩ = some (.slice F fn fc) := J.r1.cell 0; have k11_1 : q1.cell? ⟨w.heap.size + 1, 1, none⟩ = some (.slice S sn sc) := J.r1.cell 1; have k20_1 : q1.cell? ⟨w.heap.size + 1 + 1, 0, none⟩ = some (.slice F' fn' fc') := J.r2.cell 0; have k21_1 : q1.cell? ⟨w.heap.size + 1 + 1, 1, none⟩ = some (.slice S' sn' sc') := J.r2.cell 1; clear bb; go_wp2_with fail)
          refine hK.out _ _ (fun _ _ => ?_) (fun hKeep => ?_)
          · exact ⟨k00_1, k01_1, k10_1, k11_1, k20_1, k21_1⟩
          replace hHeld := hKeep (by first | rfl | trivial) hHeld
          clear hK K hKeep
          try simp only [Act.put, List.setIfInBounds_toArray, List.set_cons_zero, List.set_cons_succ, List.getElem_toArray, List.getElem_cons_zero, List.getElem_cons_succ]
          refine AnyT.takeA (i := 3) (v := ?_) rfl (by kernel_rfl) (by kernel_rfl) (by kernel_rfl) (fun _ _ _ h => h) (Or.inl ⟨by rfl, ?_⟩) ?_
          rotate_left 1
          · (intro w0 _; go_simp; try with_reducible rfl)
          try simp only [Act.put, List.setIfInBounds_toArray, List.set_cons_zero, List.set_cons_succ, List.getElem_toArray, List.getElem_cons_zero, List.getElem_cons_succ]
          refine AnyT.takeA (i := 4) (v := ?_) rfl (by kernel_rfl) (by kernel_rfl) (by kernel_rfl) (fun _ _ _ h => h) (Or.inl ⟨by rfl, ?_⟩) ?_
          rotate_left 1
          · (intro w0 _; go_simp; try with_reducible rfl)
          try simp only [Act.put, List.setIfInBounds_toArray, List.set_cons_zero, List.set_cons_succ, List.getElem_toArray, List.getElem_cons_zero, List.getElem_cons_succ]
          refine AnyT.take (i := 5) (v := ?_) rfl (by kernel_rfl) (by kernel_rfl) (by kernel_rfl) (by kernel_rfl) (fun _ _ _ h => h) (Or.inl ⟨by rfl, ?_⟩) (by assumption) ?_
          rotate_left 1
          · (intro w0 hSw; (try dsimp only at hSw); go_simp; try with_reducible rfl)
          try simp only [Act.put, List.setIfInBounds_toArray, List.set_cons_zero, List.set_cons_succ, List.getElem_toArray, List.getElem_cons_zero, List.getElem_cons_succ]
          refine AnyT.take (i := 6) (v := ?_) rfl (by kernel_rfl) (by kernel_rfl) (by kernel_rfl) (by kernel_rfl) (fun _ _ _ h => h) (Or.inl ⟨by rfl, ?_⟩) (by assumption) ?_
          rotate_left 1
          · (intro w0 hSw; (try dsimp only at hSw); go_simp; try with_reducible rfl)
          try simp only [Act.put, List.setIfInBounds_toArray, List.set_cons_zero, List.set_cons_succ, List.getElem_toArray, List.getElem_cons_zero, List.getElem_cons_succ]
          refine AnyT.call (i := 7) (by kernel_rfl) rfl (fun K hK => ?_)
          try simp only [Act.put, List.setIfInBounds_toArray, List.set_cons_zero, List.set_cons_succ, List.getElem_toArray, List.getElem_cons_zero, List.getElem_cons_succ]
          rw [if_pos (by rfl)]
          go_simp
          (have := done1; go_at_call 36; refine (L2.out _ J).mono ?_; rintro e q2 ⟨he, bb⟩; rw [HB.out] at he; subst he; replace J := J.next bb; have k00_2 : q2.cell? ⟨w.heap.size, 0, none⟩ = some (a) := J.r0.cell 0; have k01_2 : q2.cell? ⟨w.heap.size, 1, none⟩ = some (v) := J.r0.cell 1; have k10_2 : q2.cell? ⟨w.heap.size + 1, 0, none⟩ = some (.slice F fn fc) := J.r1.cell 0; have k11_2 : q2.cell? ⟨w.heap.size + 1, 1, none⟩ = some (.slice S sn sc) := J.r1.cell 1; have k20_2 : q2.cell? ⟨w.heap.size + 1 + 1, 0, none⟩ = some (.slice F' fn' fc') := J.r2.cell 0; have k21_2 : q2.cell? ⟨w.heap.size + 1 + 1, 1, none⟩ = some (.slice S' sn' sc') := J.r2.cell 1; clear bb; go_wp2_with fail)
          refine hK.out _ _ (fun _ _ => ?_) (fun hKeep => ?_)
          · exact ⟨k00_2, k01_2, k10_2, k11_2, k20_2, k21_2⟩
          replace hHeld := hKeep (by first | rfl | trivial) hHeld
          clear hK K hKeep
          try simp only [Act.put, List.setIfInBounds_toArray, List.set_cons_zero, List.set_cons_succ, List.getElem_toArray, List.getElem_cons_zero, List.getElem_cons_succ]
          refine AnyT.takeA (i := 8) (v := ?_) rfl (by kernel_rfl) (by kernel_rfl) (by kernel_rfl) (fun _ _ _ h => h) (Or.inl ⟨by rfl, ?_⟩) ?_
          rotate_left 1
          · (intro w0 _; go_simp; try with_reducible rfl)
          try simp only [Act.put, List.setIfInBounds_toArray, List.set_cons_zero, List.set_cons_succ, List.getElem_toArray, List.getElem_cons_zero, List.getElem_cons_succ]
          refine AnyT.takeA (i := 9) (v := ?_) rfl (by kernel_rfl) (by kernel_rfl) (by kernel_rfl) (fun _ _ _ h => h) (Or.inl ⟨by rfl, ?_⟩) ?_
          rotate_left 1
          · (intro w0 _; go_simp; try with_reducible rfl)
          try simp only [Act.put, List.setIfInBounds_toArray, List.set_cons_zero, List.set_cons_succ, List.getElem_toArray, List.getElem_cons_zero, List.getElem_cons_succ]
          refine AnyT.takeA (i := 10) (v := ?_) rfl (by kernel_rfl) (by kernel_rfl) (by kernel_rfl) (fun _ _ _ h => h) (Or.inl ⟨by rfl, ?_⟩) ?_
          rotate_left 1
          · (intro w0 _; go_simp; try with_reducible rfl)
          try simp only [Act.put, List.setIfInBounds_toArray, List.set_cons_zero, List.set_cons_succ, List.getElem_toArray, List.getElem_cons_zero, List.getElem_cons_succ]
          refine AnyT.take (i := 11) (v := ?_) rfl (by kernel_rfl) (by kernel_rfl) (by kernel_rfl) (by kernel_rfl) (fun _ _ _ h => h) (Or.inl ⟨by rfl, ?_⟩) (by assumption) ?_
          rotate_left 1
          · (intro w0 hSw; (try dsimp only at hSw); go_simp; try with_reducible rfl)
          try simp only [Act.put, List.setIfInBounds_toArray, List.set_cons_zero, List.set_cons_succ, List.getElem_toArray, List.getElem_cons_zero, List.getElem_cons_succ]
          refine AnyT.takeA (i := 13) (v := ?_) rfl (by kernel_rfl) (by kernel_rfl) (by kernel_rfl) (fun _ _ _ h => h) (Or.inl ⟨by rfl, ?_⟩) ?_
          rotate_left 1
          · (intro w0 _; go_simp; try with_reducible rfl)
          try simp only [Act.put, List.setIfInBounds_toArray, List.set_cons_zero, List.set_cons_succ, List.getElem_toArray, List.getElem_cons_zero, List.getElem_cons_succ]
          refine AnyT.take (i := 14) (v := ?_) rfl (by kernel_rfl) (by kernel_rfl) (by kernel_rfl) (by kernel_rfl) (fun _ _ _ h => h) (Or.inl ⟨by rfl, ?_⟩) (by assumption) ?_
          rotate_left 1
          · (intro w0 hSw; (try dsimp only at hSw); go_simp; try with_reducible rfl)
          try simp only [Act.put, List.setIfInBounds_toArray, List.set_cons_zero, List.set_cons_succ, List.getElem_toArray, List.getElem_cons_zero, List.getElem_cons_succ]
          refine AnyT.call (i := 12) (by kernel_rfl) rfl (fun K hK => ?_)
          try simp only [Act.put, List.setIfInBounds_toArray, List.set_cons_zero, List.set_cons_succ, List.getElem_toArray, List.getElem_cons_zero, List.getElem_cons_succ]
          rw [if_pos (by rfl)]
          go_simp
          (go_at_call 81; refine (L3.out _ J).mono ?_; rintro e q3 ⟨X, xn, xc, rfl, oX, bb⟩; have hX := Lib.hid oX; replace J := J.next bb; have k00_3 : q3.cell? ⟨w.heap.size, 0, none⟩ = some (a) := J.r0.cell 0; have k01_3 : q3.cell? ⟨w.heap.size, 1, none⟩ = some (v) := J.r0.cell 1; have k10_3 : q3.cell? ⟨w.heap.size + 1, 0, none⟩ = some (.slice F fn fc) := J.r1.cell 0; have k11_3 : q3.cell? ⟨w.heap.size + 1, 1, none⟩ = some (.slice S sn sc) := J.r1.cell 1; have k20_3 : q3.cell? ⟨w.heap.size + 1 + 1, 0, none⟩ = some (.slice F' fn' fc') := J.r2.cell 0; have k21_3 : q3.cell? ⟨w.heap.size + 1 + 1, 1, none⟩ = some (.slice S' sn' sc') := J.r2.cell 1; clear bb; go_wp2_with fail)
          refine hK.out _ _ (fun _ _ => ?_) (fun hKeep => ?_)
          · exact ⟨k00_3, k01_3, k10_3, k11_3, k20_3, k21_3⟩
          replace hHeld := hKeep (by first | rfl | trivial) hHeld
          clear hK K hKeep
          try simp only [Act.put, List.setIfInBounds_toArray, List.set_cons_zero, List.set_cons_succ, List.getElem_toArray, List.getElem_cons_zero, List.getElem_cons_succ]
          refine AnyT.call (i := 15) (by kernel_rfl) rfl (fun K hK => ?_)
          try simp only [Act.put, List.setIfInBounds_toArray, List.set_cons_zero, List.set_cons_succ, List.getElem_toArray, List.getElem_cons_zero, List.getElem_cons_succ]
          rw [if_pos (by rfl)]
          go_simp
          (go_at_call 78; refine (L4.out _ J X xn xc oX).mono ?_; rintro e q4 ⟨he, bb⟩; rw [HC.out] at he; subst he; replace J := J.next bb; have k00_4 : q4.cell? ⟨w.heap.size, 0, none⟩ = some (a) := J.r0.cell 0; have k01_4 : q4.cell? ⟨w.heap.size, 1, none⟩ = some (v) := J.r0.cell 1; have k10_4 : q4.cell? ⟨w.heap.size + 1, 0, none⟩ = some (.slice F fn fc) := J.r1.cell 0; have k11_4 : q4.cell? ⟨w.heap.size + 1, 1, none⟩ = some (.slice S sn sc) := J.r1.cell 1; have k20_4 : q4.cell? ⟨w.heap.size + 1 + 1, 0, none⟩ = some (.slice F' fn' fc') := J.r2.cell 0; have k21_4 : q4.cell? ⟨w.heap.size + 1 + 1, 1, none⟩ = some (.slice S' sn' sc') := J.r2.cell 1; clear bb; go_wp2_with fail)
          refine hK.out _ _ (fun _ _ => ?_) (fun hKeep => ?_)
          · exact ⟨k00_4, k01_4, k10_4, k11_4, k20_4, k21_4⟩
          replace hHeld := hKeep (by first | rfl | trivial) hHeld
          clear hK K hKeep
          try simp only [Act.put, List.setIfInBounds_toArray, List.set_cons_zero, List.set_cons_succ, List.getElem_toArray, List.getElem_cons_zero, List.getElem_cons_succ]
          refine AnyT.takeA (i := 16) (v := ?_) rfl (by kernel_rfl) (by kernel_rfl) (by kernel_rfl) (fun _ _ _ h => h) (Or.inl ⟨by rfl, ?_⟩) ?_
          rotate_left 1
          · (intro w0 _; go_simp; try with_reducible rfl)
          try simp only [Act.put, List.setIfInBounds_toArray, List.set_cons_zero, List.set_cons_succ, List.getElem_toArray, List.getElem_cons_zero, List.getElem_cons_succ]
          refine AnyT.takeA (i := 17) (v := ?_) rfl (by kernel_rfl) (by kernel_rfl) (by kernel_rfl) (fun _ _ _ h => h) (Or.inl ⟨by rfl, ?_⟩) ?_
          rotate_left 1
          · (intro w0 _; go_simp; try with_reducible rfl)
          try simp only [Act.put, List.setIfInBounds_toArray, List.set_cons_zero, List.set_cons_succ, List.getElem_toArray, List.getElem_cons_zero, List.getElem_cons_succ]
          refine AnyT.takeA (i := 18) (v := ?_) rfl (by kernel_rfl) (by kernel_rfl) (by kernel_rfl) (fun _ _ _ h => h) (Or.inl ⟨by rfl, ?_⟩) ?_
          rotate_left 1
          · (intro w0 _; go_simp; try with_reducible rfl)
          try simp only [Act.put, List.setIfInBounds_toArray, List.set_cons_zero, List.set_cons_succ, List.getElem_toArray, List.getElem_cons_zero, List.getElem_cons_succ]
          refine AnyT.takeA (i := 19) (v := ?_) rfl (by kernel_rfl) (by kernel_rfl) (by kernel_rfl) (fun _ _ _ h => h) (Or.inl ⟨by rfl, ?_⟩) ?_
          rotate_left 1
          · (intro w0 _; go_simp; try with_reducible rfl)
          try simp only [Act.put, List.setIfInBounds_toArray, List.set_cons_zero, List.set_cons_succ, List.getElem_toArray, List.getElem_cons_zero, List.getElem_cons_succ]
          refine AnyT.take (i := 20) (v := ?_) rfl (by kernel_rfl) (by kernel_rfl) (by kernel_rfl) (by kernel_rfl) (fun _ _ _ h => h) (Or.inl ⟨by rfl, ?_⟩) (by assumption) ?_
          rotate_left 1
          · (intro w0 hSw; (try dsimp only at hSw); go_simp; try with_reducible rfl)
          try simp only [Act.put, List.setIfInBounds_toArray, List.set_cons_zero, List.set_cons_succ, List.getElem_toArray, List.getElem_cons_zero, List.getElem_cons_succ]
          refine AnyT.takeA (i := 21) (v := ?_) rfl (by kernel_rfl) (by kernel_rfl) (by kernel_rfl) (fun _ _ _ h => h) (Or.inl ⟨by rfl, ?_⟩) ?_
          rotate_left 1
          · (intro w0 _; go_simp; try with_reducible rfl)
          try simp only [Act.put, List.setIfInBounds_toArray, List.set_cons_zero, List.set_cons_succ, List.getElem_toArray, List.getElem_cons_zero, List.getElem_cons_succ]
          refine AnyT.takeA (i := 22) (v := ?_) rfl (by kernel_rfl) (by kernel_rfl) (by kernel_rfl) (fun _ _ _ h => h) (Or.inl ⟨by rfl, ?_⟩) ?_
          rotate_left 1
          · (intro w0 _; go_simp; try with_reducible rfl)
          try simp only [Act.put, List.setIfInBounds_toArray, List.set_cons_zero, List.set_cons_succ, List.getElem_toArray, List.getElem_cons_zero, List.getElem_cons_succ]
          refine AnyT.take (i := 23) (v := ?_) rfl (by kernel_rfl) (by kernel_rfl) (by kernel_rfl) (by kernel_rfl) (fun _ _ _ h => h) (Or.inl ⟨by rfl, ?_⟩) (by assumption) ?_
          rotate_left 1
          · (intro w0 hSw; (try dsimp only at hSw); go_simp; try with_reducible rfl)
          try simp only [Act.put, List.setIfInBounds_toArray, List.set_cons_zero, List.set_cons_succ, List.getElem_toArray, List.getElem_cons_zero, List.getElem_cons_succ]
          refine AnyT.takeA (i := 24) (v := ?_) rfl (by kernel_rfl) (by kernel_rfl) (by kernel_rfl) (fun _ _ _ h => h) (Or.inl ⟨by rfl, ?_⟩) ?_
          rotate_left 1
          · (intro w0 _; go_simp; try with_reducible rfl)
          try simp only [Act.put, List.setIfInBounds_toArray, List.set_cons_zero, List.set_cons_succ, List.getElem_toArray, List.getElem_cons_zero, List.getElem_cons_succ]
          refine AnyT.takeA (i := 25) (v := ?_) rfl (by kernel_rfl) (by kernel_rfl) (by kernel_rfl) (fun _ _ _ h => h) (Or.inl ⟨by rfl, ?_⟩) ?_
          rotate_left 1
          · (intro w0 _; go_simp; try with_reducible rfl)
          try simp only [Act.put, List.setIfInBounds_toArray, List.set_cons_zero, List.set_cons_succ, List.getElem_toArray, List.getElem_cons_zero, List.getElem_cons_succ]
          refine AnyT.takeA (i := 26) (v := ?_) rfl (by kernel_rfl) (by kernel_rfl) (by kernel_rfl) (fun _ _ _ h => h) (Or.inl ⟨by rfl, ?_⟩) ?_
          rotate_left 1
          · (intro w0 _; go_simp; try with_reducible rfl)
          try simp only [Act.put, List.setIfInBounds_toArray, List.set_cons_zero, List.set_cons_succ, List.getElem_toArray, List.getElem_cons_zero, List.getElem_cons_succ]
          refine AnyT.takeA (i := 27) (v := ?_) rfl (by kernel_rfl) (by kernel_rfl) (by kernel_rfl) (fun _ _ _ h => h) (Or.inl ⟨by rfl, ?_⟩) ?_
          rotate_left 1
          · (intro w0 _; go_simp; try with_reducible rfl)
          try simp only [Act.put, List.setIfInBounds_toArray, List.set_cons_zero, List.set_cons_succ, List.getElem_toArray, List.getElem_cons_zero, List.getElem_cons_succ]
          refine AnyT.done (by kernel_rfl) ?_ _
          clear c00 c01 c10 c11 c20 c21
          have J0 := J
          have J0sz := J.size
          have m0 : q4.cell? ⟨w.heap.size + 1, 0, none⟩ = some (.slice F fn fc) := J.r1.cell 0
          have m1 : q4.cell? ⟨w.heap.size + 1, 1, none⟩ = some (.slice S sn sc) := J.r1.cell 1
          have m2 : q4.cell? ⟨w.heap.size + 1 + 1, 1, none⟩ = some (.slice S' sn' sc') := J.r2.cell 1
          clear k00_1 k01_1 k10_1 k11_1 k20_1 k21_1 k00_2 k01_2 k10_2 k11_2 k20_2 k21_2 k00_3 k01_3 k10_3 k11_3 k20_3 k21_3 k00_4 k01_4 k10_4 k11_4 k20_4 k21_4 J0
          replace J := J.drew
          go_upto_region 3 with fail
          refine AnyT.start (S := (fun w' => w'.cell? ⟨w.heap.size + 1, 0, none⟩ = some (.slice F fn fc) ∧ w'.cell? ⟨w.heap.size + 1, 1, none⟩ = some (.slice S sn sc) ∧ w'.cell? ⟨w.heap.size + 1 + 1, 1, none⟩ = some (.slice S' sn' sc'))) (fun _ => false) (by kernel_rfl) ⟨m0, m1, m2⟩ (fun hHeld => ?_)
          refine AnyT.takeA (i := 0) (v := ?_) rfl (by kernel_rfl) (by kernel_rfl) (by kernel_rfl) (fun _ _ _ h => h) (Or.inl ⟨by rfl, ?_⟩) ?_
          rotate_left 1
          · (intro w0 _; go_simp; try with_reducible rfl)
          try simp only [Act.put, List.setIfInBounds_toArray, List.set_cons_zero, List.set_cons_succ, List.getElem_toArray, List.getElem_cons_zero, List.getElem_cons_succ]
          refine AnyT.take (i := 1) (v := ?_) rfl (by kernel_rfl) (by kernel_rfl) (by kernel_rfl) (by kernel_rfl) (fun _ _ _ h => h) (Or.inl ⟨by rfl, ?_⟩) (by assumption) ?_
          rotate_left 1
          · (intro w0 hSw; (try dsimp only at hSw); go_simp; try with_reducible rfl)
          try simp only [Act.put, List.setIfInBounds_toArray, List.set_cons_zero, List.set_cons_succ, List.getElem_toArray, List.getElem_cons_zero, List.getElem_cons_succ]
          refine AnyT.takeA (i := 3) (v := ?_) rfl (by kernel_rfl) (by kernel_rfl) (by kernel_rfl) (fun _ _ _ h => h) (Or.inl ⟨by rfl, ?_⟩) ?_
          rotate_left 1
          · (intro w0 _; go_simp; try with_reducible rfl)
          try simp only [Act.put, List.setIfInBounds_toArray, List.set_cons_zero, List.set_cons_succ, List.getElem_toArray, List.getElem_cons_zero, List.getElem_cons_succ]
          refine AnyT.take (i := 4) (v := ?_) rfl (by kernel_rfl) (by kernel_rfl) (by kernel_rfl) (by kernel_rfl) (fun _ _ _ h => h) (Or.inl ⟨by rfl, ?_⟩) (by assumption) ?_
          rotate_left 1
          · (intro w0 hSw; (try dsimp only at hSw); go_simp; try with_reducible rfl)
          try simp only [Act.put, List.setIfInBounds_toArray, List.set_cons_zero, List.set_cons_succ, List.getElem_toArray, List.getElem_cons_zero, List.getElem_cons_succ]
          refine AnyT.takeA (i := 6) (v := ?_) rfl (by kernel_rfl) (by kernel_rfl) (by kernel_rfl) (fun _ _ _ h => h) (Or.inl ⟨by rfl, ?_⟩) ?_
          rotate_left 1
          · (intro w0 _; go_simp; try with_reducible rfl)
          try simp only [Act.put, List.setIfInBounds_toArray, List.set_cons_zero, List.set_cons_succ, List.getElem_toArray, List.getElem_cons_zero, List.getElem_cons_succ]
          refine AnyT.take (i := 7) (v := ?_) rfl (by kernel_rfl) (by kernel_rfl) (by kernel_rfl) (by kernel_rfl) (fun _ _ _ h => h) (Or.inl ⟨by rfl, ?_⟩) (by assumption) ?_
          rotate_left 1
          · (intro w0 hSw; (try dsimp only at hSw); go_simp; try with_reducible rfl)
          try simp only [Act.put, List.setIfInBounds_toArray, List.set_cons_zero, List.set_cons_succ, List.getElem_toArray, List.getElem_cons_zero, List.getElem_cons_succ]
          refine AnyT.call (i := 2) (by kernel_rfl) rfl (fun K hK => ?_)
          try simp only [Act.put, List.setIfInBounds_toArray, List.set_cons_zero, List.set_cons_succ, List.getElem_toArray, List.getElem_cons_zero, List.getElem_cons_succ]
          rw [if_pos (by rfl)]
          go_simp
          (go_at_call 84; refine (LF.out _ J).mono ?_; rintro e v1 ⟨X, xn, xc, rfl, oX, bb⟩; have z1 := bb.size; replace J := J.next bb; replace oX := Ownd.of_own oX; have m0_1 : v1.cell? ⟨w.heap.size + 1, 0, none⟩ = some (.slice F fn fc) := J.r1.cell 0; have m1_1 : v1.cell? ⟨w.heap.size + 1, 1, none⟩ = some (.slice S sn sc) := J.r1.cell 1; have m2_1 : v1.cell? ⟨w.heap.size + 1 + 1, 1, none⟩ = some (.slice S' sn' sc') := J.r2.cell 1; clear bb; go_wp2_with fail)
          refine hK.out _ _ (fun _ _ => ?_) (fun hKeep => ?_)
          · exact ⟨m0_1, m1_1, m2_1⟩
          replace hHeld := hKeep (by first | rfl | trivial) hHeld
          clear hK K hKeep
          try simp only [Act.put, List.setIfInBounds_toArray, List.set_cons_zero, List.set_cons_succ, List.getElem_toArray, List.getElem_cons_zero, List.getElem_cons_succ]
          refine AnyT.call (i := 5) (by kernel_rfl) rfl (fun K hK => ?_)
          try simp only [Act.put, List.setIfInBounds_toArray, List.set_cons_zero, List.set_cons_succ, List.getElem_toArray, List.getElem_cons_zero, List.getElem_cons_succ]
          rw [if_pos (by rfl)]
          go_simp
          (go_at_call 85; refine (LS.out _ J).mono ?_; rintro e v2 ⟨g1, gc1, rfl, oL1, bb⟩; have z2 := bb.size; replace J := J.next bb; replace oX := oX.next bb; have m0_2 : v2.cell? ⟨w.heap.size + 1, 0, none⟩ = some (.slice F fn fc) := J.r1.cell 0; have m1_2 : v2.cell? ⟨w.heap.size + 1, 1, none⟩ = some (.slice S sn sc) := J.r1.cell 1; have m2_2 : v2.cell? ⟨w.heap.size + 1 + 1, 1, none⟩ = some (.slice S' sn' sc') := J.r2.cell 1; clear bb; go_wp2_with fail)
          refine hK.out _ _ (fun _ _ => ?_) (fun hKeep => ?_)
          · exact ⟨m0_2, m1_2, m2_2⟩
          replace hHeld := hKeep (by first | rfl | trivial) hHeld
          clear hK K hKeep
          try simp only [Act.put, List.setIfInBounds_toArray, List.set_cons_zero, List.set_cons_succ, List.getElem_toArray, List.getElem_cons_zero, List.getElem_cons_succ]
          refine AnyT.call (i := 8) (by kernel_rfl) rfl (fun K hK => ?_)
          try simp only [Act.put, List.setIfInBounds_toArray, List.set_cons_zero, List.set_cons_succ, List.getElem_toArray, List.getElem_cons_zero, List.getElem_cons_succ]
          rw [if_pos (by rfl)]
          go_simp
          (go_at_call 85; refine (LT.out _ J).mono ?_; rintro e v3 ⟨g2, gc2, rfl, oL2, bb⟩; have z3 := bb.size; replace J := J.next bb; replace oX := oX.next bb; replace oL1 := oL1.next bb; have m0_3 : v3.cell? ⟨w.heap.size + 1, 0, none⟩ = some (.slice F fn fc) := J.r1.cell 0; have m1_3 : v3.cell? ⟨w.heap.size + 1, 1, none⟩ = some (.slice S sn sc) := J.r1.cell 1; have m2_3 : v3.cell? ⟨w.heap.size + 1 + 1, 1, none⟩ = some (.slice S' sn' sc') := J.r2.cell 1; clear bb; go_wp2_with fail)
          refine hK.out _ _ (fun _ _ => ?_) (fun hKeep => ?_)
          · exact ⟨m0_3, m1_3, m2_3⟩
          replace hHeld := hKeep (by first | rfl | trivial) hHeld
          clear hK K hKeep
          try simp only [Act.put, List.setIfInBounds_toArray, List.set_cons_zero, List.set_cons_succ, List.getElem_toArray, List.getElem_cons_zero, List.getElem_cons_succ]
          have z1' : w.heap.size + 1 + 1 + 1 + 1 ≤ v1.heap.size := Nat.le_trans J0sz z1
          refine AnyT.call (i := 9) (by kernel_rfl) rfl (fun K hK => ?_)
          try simp only [Act.put, List.setIfInBounds_toArray, List.set_cons_zero, List.set_cons_succ, List.getElem_toArray, List.getElem_cons_zero, List.getElem_cons_succ]
          rw [if_pos (by rfl)]
          refine wp_appL _ _ 32 39 sStep _ _ Try.underlying32 info_StepS rfl (by decide) rfl v1.heap.size v2.heap.size v2.heap.size v3.heap.size (some ⟨g1, 0, none⟩) sn gc1 g2 sn' gc2 _ _ rfl oL1 rfl oL2 (Nat.le_refl _) z2 hsn hsn' (by omega) ?_
          intro A4 oc' v4 oL4 hg4 hat4 b4 hf4
          obtain ⟨O', rfl⟩ := hf4 (.inl (by simp))
          have J4 := J.below b4 z1'
          have oX4 := oX.btw (Btw.of_grown (lo := v1.heap.size) (hi := v4.heap.size) hg4 (fun q hq => by injection hq with hq; have := oL1.ge q (by rw [← hq]; rfl); have := oL4.1; have := b4.size; omega)) (.inl (Nat.le_refl _))
          refine hK.out _ _ (fun _ _ => ?_) (fun hKeep => ?_)
          · exact ⟨J4.r1.cell 0, J4.r1.cell 1, J4.r2.cell 1⟩
          replace hHeld := hKeep (by first | rfl | trivial) hHeld
          clear hK K hKeep
          try simp only [Act.put, List.setIfInBounds_toArray, List.set_cons_zero, List.set_cons_succ, List.getElem_toArray, List.getElem_cons_zero, List.getElem_cons_succ]
          refine AnyT.takeA (i := 10) (v := ?_) rfl (by kernel_rfl) (by kernel_rfl) (by kernel_rfl) (fun _ _ _ h => h) (Or.inl ⟨by rfl, ?_⟩) ?_
          rotate_left 1
          · (intro w0 _; go_simp; try with_reducible rfl)
          try simp only [Act.put, List.setIfInBounds_toArray, List.set_cons_zero, List.set_cons_succ, List.getElem_toArray, List.getElem_cons_zero, List.getElem_cons_succ]
          have y0 : v4.cell? ⟨w.heap.size + 1 + 1 + 1, 0, none⟩ = some (.slice none 0 0) := J4.r3.cell 0
          have y1 : v4.cell? ⟨w.heap.size + 1 + 1 + 1, 1, none⟩ = some (.slice none 0 0) := J4.r3.cell 1
          have g0 := J4.r3.free 0
          have g1 := J4.r3.free 1
          have ra := J4.r3.put 0 (.slice X xn xc)
          have y2 : (v4.setCell ⟨w.heap.size + 1 + 1 + 1, 0, none⟩ (.slice X xn xc)).cell? ⟨w.heap.size + 1 + 1 + 1, 1, none⟩ = some (.slice none 0 0) := ra.cell 1
          have g2 := ra.free 1
          have rb := ra.put 1 (.slice (some ⟨O', 0, none⟩) (sn + sn') oc')
          have u0 : ((v4.setCell ⟨w.heap.size + 1 + 1 + 1, 0, none⟩ (.slice X xn xc)).setCell ⟨w.heap.size + 1 + 1 + 1, 1, none⟩ (.slice (some ⟨O', 0, none⟩) (sn + sn') oc')).cell? ⟨w.heap.size + 1 + 1 + 1, 0, none⟩ = some (.slice X xn xc) := rb.cell 0
          have u1 : ((v4.setCell ⟨w.heap.size + 1 + 1 + 1, 0, none⟩ (.slice X xn xc)).setCell ⟨w.heap.size + 1 + 1 + 1, 1, none⟩ (.slice (some ⟨O', 0, none⟩) (sn + sn') oc')).cell? ⟨w.heap.size + 1 + 1 + 1, 1, none⟩ = some (.slice (some ⟨O', 0, none⟩) (sn + sn') oc') := rb.cell 1
          refine AnyT.call (i := 11) (by kernel_rfl) rfl (fun K hK => ?_)
          try simp only [Act.put, List.setIfInBounds_toArray, List.set_cons_zero, List.set_cons_succ, List.getElem_toArray, List.getElem_cons_zero, List.getElem_cons_succ]
          rw [if_pos (by rfl)]
          go_simp
          refine hK.out _ _ (fun _ _ => ?_) (fun hKeep => ?_)
          · exact ⟨((J4.r1.far (show w.heap.size + 1 ≠ w.heap.size + 1 + 1 + 1 by omega) _).far (show w.heap.size + 1 ≠ w.heap.size + 1 + 1 + 1 by omega) _).cell 0, ((J4.r1.far (show w.heap.size + 1 ≠ w.heap.size + 1 + 1 + 1 by omega) _).far (show w.heap.size + 1 ≠ w.heap.size + 1 + 1 + 1 by omega) _).cell 1, ((J4.r2.far (show w.heap.size + 1 + 1 ≠ w.heap.size + 1 + 1 + 1 by omega) _).far (show w.heap.size + 1 + 1 ≠ w.heap.size + 1 + 1 + 1 by omega) _).cell 1⟩
          replace hHeld := hKeep (by first | rfl | trivial) hHeld
          clear hK K hKeep
          try simp only [Act.put, List.setIfInBounds_toArray, List.set_cons_zero, List.set_cons_succ, List.getElem_toArray, List.getElem_cons_zero, List.getElem_cons_succ]
          refine AnyT.takeA (i := 12) (v := ?_) rfl (by kernel_rfl) (by kernel_rfl) (by kernel_rfl) (fun _ _ _ h => h) (Or.inl ⟨by rfl, ?_⟩) ?_
          rotate_left 1
          · (intro w0 _; go_simp; try with_reducible rfl)
          try simp only [Act.put, List.setIfInBounds_toArray, List.set_cons_zero, List.set_cons_succ, List.getElem_toArray, List.getElem_cons_zero, List.getElem_cons_succ]
          refine AnyT.done (by kernel_rfl) ?_ _
          have HJ := Lib.hid (join_yes HA.out HB.out HC.out HLEN.out)
          have FZ : AnsWalk w (joinW d.1 d.2 k k') (joinB d.1 d.2 k k') (.returned (.tuple #[.agg #[.slice X xn xc, .slice (some ⟨O', 0, none⟩) (sn + sn') oc'], .bool true])) ((v4.setCell ⟨w.heap.size + 1 + 1 + 1, 0, none⟩ (.slice X xn xc)).setCell ⟨w.heap.size + 1 + 1 + 1, 1, none⟩ (.slice (some ⟨O', 0, none⟩) (sn + sn') oc')) := by
            have oo := owned_walk (lo := w.heap.size + 1 + 1 + 1 + 1) (oX4.wider (by have := J0sz; simpa using this) (Nat.le_refl _)) oL4 z1' (by have := b4.size; omega)
            exact ⟨_, _, _, _, _, _, by rw [HJ.out.2], by rw [HJ.out.1]; exact ((oo.put (g := w.heap.size + 1 + 1 + 1) (i := 0) (by omega)).put (g := w.heap.size + 1 + 1 + 1) (i := 1) (by omega)).wider (by omega) (by simp), (J4.b.setCell (show w.heap.size ≤ w.heap.size + 1 + 1 + 1 by omega) _).setCell (show w.heap.size ≤ w.heap.size + 1 + 1 + 1 by omega) _⟩
          have HFZ := Lib.hid FZ
          clear FZ ra rb oX4 oL4 J4 J oX oL1 oL2 b4 hg4 hat4 hf4
          go_wp2
          exact bodyPost_ret (v := .tuple #[.agg #[.slice X xn xc, .slice (some ⟨O', 0, none⟩) (sn + sn') oc'], .bool true]) (by simp [results, Try.results43, go_sem, u0, u1]) rfl HFZ.out
        · have HLEN := Lib.hid (show ¬ k.2.length + k'.2.length ≤ 60 by rw [HL1.out, HL2.out]; exact hlen)
          have hgt : (60 : Int) < (sn : Int) + (sn' : Int) := by omega
          clear hlen
          go_enter Try.func43, Try.ntmps43
          go_wp2_with fail
          rw [← HW.out]
          have c00 : W.cell? ⟨w.heap.size, 0, none⟩ = some (a) := J.r0.cell 0
          have c01 : W.cell? ⟨w.heap.size, 1, none⟩ = some (v) := J.r0.cell 1
          have c10 : W.cell? ⟨w.heap.size + 1, 0, none⟩ = some (.slice F fn fc) := J.r1.cell 0
          have c11 : W.cell? ⟨w.heap.size + 1, 1, none⟩ = some (.slice S sn sc) := J.r1.cell 1
          have c20 : W.cell? ⟨w.heap.size + 1 + 1, 0, none⟩ = some (.slice F' fn' fc') := J.r2.cell 0
          have c21 : W.cell? ⟨w.heap.size + 1 + 1, 1, none⟩ = some (.slice S' sn' sc') := J.r2.cell 1
          replace J := J.drew
          refine AnyT.start (S := (fun w' => w'.cell? ⟨w.heap.size, 0, none⟩ = some (a) ∧ w'.cell? ⟨w.heap.size, 1, none⟩ = some (v) ∧ w'.cell? ⟨w.heap.size + 1, 0, none⟩ = some (.slice F fn fc) ∧ w'.cell? ⟨w.heap.size + 1, 1, none⟩ = some (.slice S sn sc) ∧ w'.cell? ⟨w.heap.size + 1 + 1, 0, none⟩ = some (.slice F' fn' fc') ∧ w'.cell? ⟨w.heap.size + 1 + 1, 1, none⟩ = some (.slice S' sn' sc'))) (fun _ => false) (by kernel_rfl) ⟨c00, c01, c10, c11, c20, c21⟩ (fun hHeld => ?_)
          refine AnyT.take (i := 0) (v := ?_) rfl (by kernel_rfl) (by kernel_rfl) (by kernel_rfl) (by kernel_rfl) (fun _ _ _ h => h) (Or.inl ⟨by rfl, ?_⟩) (by assumption) ?_
          rotate_left 1
          · (intro w0 hSw; (try dsimp only at hSw); go_simp; try with_reducible rfl)
          try simp only [Act.put, List.setIfInBounds_toArray, List.set_cons_zero, List.set_cons_succ, List.getElem_toArray, List.getElem_cons_zero, List.getElem_cons_succ]
          refine AnyT.take (i := 1) (v := ?_) rfl (by kernel_rfl) (by kernel_rfl) (by kernel_rfl) (by kernel_rfl) (fun _ _ _ h => h) (Or.inl ⟨by rfl, ?_⟩) (by assumption) ?_
          rotate_left 1
          · (intro w0 hSw; (try dsimp only at hSw); go_simp; try with_reducible rfl)
          try simp only [Act.put, List.setIfInBounds_toArray, List.set_cons_zero, List.set_cons_succ, List.getElem_toArray, List.getElem_cons_zero, List.getElem_cons_succ]
          refine AnyT.call (i := 2) (by kernel_rfl) rfl (fun K hK => ?_)
          try simp only [Act.put, List.setIfInBounds_toArray, List.set_cons_zero, List.set_cons_succ, List.getElem_toArray, List.getElem_cons_zero, List.getElem_cons_succ]
          rw [if_pos (by rfl)]
          go_simp
          (go_at_call 36; refine (L1.out _ J).mono ?_; rintro e q1 ⟨he, bb⟩; rw [HA.out] at he; subst he; have done1 : True := trivial; replace J := J.next bb; have k00_1 : q1.cell? ⟨w.heap.size, 0, none⟩ = some (a) := J.r0.cell 0; have k01_1 : q1.cell? ⟨w.heap.size, 1, none⟩ = some (v) := J.r0.cell 1; have k10_1 : q1.cell? ⟨w.heap.size + 1, 0, none⟩ = some (.slice F fn fc) := J.r1.cell 0; have k11_1 : q1.cell? ⟨w.heap.size + 1, 1, none⟩ = some (.slice S sn sc) := J.r1.cell 1; have k20_1 : q1.cell? ⟨w.heap.size + 1 + 1, 0, none⟩ = some (.slice F' fn' fc') := J.r2.cell 0; have k21_1 : q1.cell? ⟨w.heap.size + 1 + 1, 1, none⟩ = some (.slice S' sn' sc') := J.r2.cell 1; clear bb; go_wp2_with fail)
          refine hK.out _ _ (fun _ _ => ?_) (fun hKeep => ?_)
          · exact ⟨k00_1, k01_1, k10_1, k11_1, k20_1, k21_1⟩
          replace hHeld := hKeep (by first | rfl | trivial) hHeld
          clear hK K hKeep
          try simp only [Act.put, List.setIfInBounds_toArray, List.set_cons_zero, List.set_cons_succ, List.getElem_toArray, List.getElem_cons_zero, List.getElem_cons_succ]
          refine AnyT.takeA (i := 3) (v := ?_) rfl (by kernel_rfl) (by kernel_rfl) (by kernel_rfl) (fun _ _ _ h => h) (Or.inl ⟨by rfl, ?_⟩) ?_
          rotate_left 1
          · (intro w0 _; go_simp; try with_reducible rfl)
          try simp only [Act.put, List.setIfInBounds_toArray, List.set_cons_zero, List.set_cons_succ, List.getElem_toArray, List.getElem_cons_zero, List.getElem_cons_succ]
          refine AnyT.takeA (i := 4) (v := ?_) rfl (by kernel_rfl) (by kernel_rfl) (by kernel_rfl) (fun _ _ _ h => h) (Or.inl ⟨by rfl, ?_⟩) ?_
          rotate_left 1
          · (intro w0 _; go_simp; try with_reducible rfl)
          try simp only [Act.put, List.setIfInBounds_toArray, List.set_cons_zero, List.set_cons_succ, List.getElem_toArray, List.getElem_cons_zero, List.getElem_cons_succ]
          refine AnyT.take (i := 5) (v := ?_) rfl (by kernel_rfl) (by kernel_rfl) (by kernel_rfl) (by kernel_rfl) (fun _ _ _ h => h) (Or.inl ⟨by rfl, ?_⟩) (by assumption) ?_
          rotate_left 1
          · (intro w0 hSw; (try dsimp only at hSw); go_simp; try with_reducible rfl)
          try simp only [Act.put, List.setIfInBounds_toArray, List.set_cons_zero, List.set_cons_succ, List.getElem_toArray, List.getElem_cons_zero, List.getElem_cons_succ]
          refine AnyT.take (i := 6) (v := ?_) rfl (by kernel_rfl) (by kernel_rfl) (by kernel_rfl) (by kernel_rfl) (fun _ _ _ h => h) (Or.inl ⟨by rfl, ?_⟩) (by assumption) ?_
          rotate_left 1
          · (intro w0 hSw; (try dsimp only at hSw); go_simp; try with_reducible rfl)
          try simp only [Act.put, List.setIfInBounds_toArray, List.set_cons_zero, List.set_cons_succ, List.getElem_toArray, List.getElem_cons_zero, List.getElem_cons_succ]
          refine AnyT.call (i := 7) (by kernel_rfl) rfl (fun K hK => ?_)
          try simp only [Act.put, List.setIfInBounds_toArray, List.set_cons_zero, List.set_cons_succ, List.getElem_toArray, List.getElem_cons_zero, List.getElem_cons_succ]
          rw [if_pos (by rfl)]
          go_simp
          (have := done1; go_at_call 36; refine (L2.out _ J).mono ?_; rintro e q2 ⟨he, bb⟩; rw [HB.out] at he; subst he; replace J := J.next bb; have k00_2 : q2.cell? ⟨w.heap.size, 0, none⟩ = some (a) := J.r0.cell 0; have k01_2 : q2.cell? ⟨w.heap.size, 1, none⟩ = some (v) := J.r0.cell 1; have k10_2 : q2.cell? ⟨w.heap.size + 1, 0, none⟩ = some (.slice F fn fc) := J.r1.cell 0; have k11_2 : q2.cell? ⟨w.heap.size + 1, 1, none⟩ = some (.slice S sn sc) := J.r1.cell 1; have k20_2 : q2.cell? ⟨w.heap.size + 1 + 1, 0, none⟩ = some (.slice F' fn' fc') := J.r2.cell 0; have k21_2 : q2.cell? ⟨w.heap.size + 1 + 1, 1, none⟩ = some (.slice S' sn' sc') := J.r2.cell 1; clear bb; go_wp2_with fail)
          refine hK.out _ _ (fun _ _ => ?_) (fun hKeep => ?_)
          · exact ⟨k00_2, k01_2, k10_2, k11_2, k20_2, k21_2⟩
          replace hHeld := hKeep (by first | rfl | trivial) hHeld
          clear hK K hKeep
          try simp only [Act.put, List.setIfInBounds_toArray, List.set_cons_zero, List.set_cons_succ, List.getElem_toArray, List.getElem_cons_zero, List.getElem_cons_succ]
          refine AnyT.takeA (i := 8) (v := ?_) rfl (by kernel_rfl) (by kernel_rfl) (by kernel_rfl) (fun _ _ _ h => h) (Or.inl ⟨by rfl, ?_⟩) ?_
          rotate_left 1
          · (intro w0 _; go_simp; try with_reducible rfl)
          try simp only [Act.put, List.setIfInBounds_toArray, List.set_cons_zero, List.set_cons_succ, List.getElem_toArray, List.getElem_cons_zero, List.getElem_cons_succ]
          refine AnyT.takeA (i := 9) (v := ?_) rfl (by kernel_rfl) (by kernel_rfl) (by kernel_rfl) (fun _ _ _ h => h) (Or.inl ⟨by rfl, ?_⟩) ?_
          rotate_left 1
          · (intro w0 _; go_simp; try with_reducible rfl)
          try simp only [Act.put, List.setIfInBounds_toArray, List.set_cons_zero, List.set_cons_succ, List.getElem_toArray, List.getElem_cons_zero, List.getElem_cons_succ]
          refine AnyT.takeA (i := 10) (v := ?_) rfl (by kernel_rfl) (by kernel_rfl) (by kernel_rfl) (fun _ _ _ h => h) (Or.inl ⟨by rfl, ?_⟩) ?_
          rotate_left 1
          · (intro w0 _; go_simp; try with_reducible rfl)
          try simp only [Act.put, List.setIfInBounds_toArray, List.set_cons_zero, List.set_cons_succ, List.getElem_toArray, List.getElem_cons_zero, List.getElem_cons_succ]
          refine AnyT.take (i := 11) (v := ?_) rfl (by kernel_rfl) (by kernel_rfl) (by kernel_rfl) (by kernel_rfl) (fun _ _ _ h => h) (Or.inl ⟨by rfl, ?_⟩) (by assumption) ?_
          rotate_left 1
          · (intro w0 hSw; (try dsimp only at hSw); go_simp; try with_reducible rfl)
          try simp only [Act.put, List.setIfInBounds_toArray, List.set_cons_zero, List.set_cons_succ, List.getElem_toArray, List.getElem_cons_zero, List.getElem_cons_succ]
          refine AnyT.takeA (i := 13) (v := ?_) rfl (by kernel_rfl) (by kernel_rfl) (by kernel_rfl) (fun _ _ _ h => h) (Or.inl ⟨by rfl, ?_⟩) ?_
          rotate_left 1
          · (intro w0 _; go_simp; try with_reducible rfl)
          try simp only [Act.put, List.setIfInBounds_toArray, List.set_cons_zero, List.set_cons_succ, List.getElem_toArray, List.getElem_cons_zero, List.getElem_cons_succ]
          refine AnyT.take (i := 14) (v := ?_) rfl (by kernel_rfl) (by kernel_rfl) (by kernel_rfl) (by kernel_rfl) (fun _ _ _ h => h) (Or.inl ⟨by rfl, ?_⟩) (by assumption) ?_
          rotate_left 1
          · (intro w0 hSw; (try dsimp only at hSw); go_simp; try with_reducible rfl)
          try simp only [Act.put, List.setIfInBounds_toArray, List.set_cons_zero, List.set_cons_succ, List.getElem_toArray, List.getElem_cons_zero, List.getElem_cons_succ]
          refine AnyT.call (i := 12) (by kernel_rfl) rfl (fun K hK => ?_)
          try simp only [Act.put, List.setIfInBounds_toArray, List.set_cons_zero, List.set_cons_succ, List.getElem_toArray, List.getElem_cons_zero, List.getElem_cons_succ]
          rw [if_pos (by rfl)]
          go_simp
          (go_at_call 81; refine (L3.out _ J).mono ?_; rintro e q3 ⟨X, xn, xc, rfl, oX, bb⟩; have hX := Lib.hid oX; replace J := J.next bb; have k00_3 : q3.cell? ⟨w.heap.size, 0, none⟩ = some (a) := J.r0.cell 0; have k01_3 : q3.cell? ⟨w.heap.size, 1, none⟩ = some (v) := J.r0.cell 1; have k10_3 : q3.cell? ⟨w.heap.size + 1, 0, none⟩ = some (.slice F fn fc) := J.r1.cell 0; have k11_3 : q3.cell? ⟨w.heap.size + 1, 1, none⟩ = some (.slice S sn sc) := J.r1.cell 1; have k20_3 : q3.cell? ⟨w.heap.size + 1 + 1, 0, none⟩ = some (.slice F' fn' fc') := J.r2.cell 0; have k21_3 : q3.cell? ⟨w.heap.size + 1 + 1, 1, none⟩ = some (.slice S' sn' sc') := J.r2.cell 1; clear bb; go_wp2_with fail)
          refine hK.out _ _ (fun _ _ => ?_) (fun hKeep => ?_)
          · exact ⟨k00_3, k01_3, k10_3, k11_3, k20_3, k21_3⟩
          replace hHeld := hKeep (by first | rfl | trivial) hHeld
          clear hK K hKeep
          try simp only [Act.put, List.setIfInBounds_toArray, List.set_cons_zero, List.set_cons_succ, List.getElem_toArray, List.getElem_cons_zero, List.getElem_cons_succ]
          refine AnyT.call (i := 15) (by kernel_rfl) rfl (fun K hK => ?_)
          try simp only [Act.put, List.setIfInBounds_toArray, List.set_cons_zero, List.set_cons_succ, List.getElem_toArray, List.getElem_cons_zero, List.getElem_cons_succ]
          rw [if_pos (by rfl)]
          go_simp
          (go_at_call 78; refine (L4.out _ J X xn xc oX).mono ?_; rintro e q4 ⟨he, bb⟩; rw [HC.out] at he; subst he; replace J := J.next bb; have k00_4 : q4.cell? ⟨w.heap.size, 0, none⟩ = some (a) := J.r0.cell 0; have k01_4 : q4.cell? ⟨w.heap.size, 1, none⟩ = some (v) := J.r0.cell 1; have k10_4 : q4.cell? ⟨w.heap.size + 1, 0, none⟩ = some (.slice F fn fc) := J.r1.cell 0; have k11_4 : q4.cell? ⟨w.heap.size + 1, 1, none⟩ = some (.slice S sn sc) := J.r1.cell 1; have k20_4 : q4.cell? ⟨w.heap.size + 1 + 1, 0, none⟩ = some (.slice F' fn' fc') := J.r2.cell 0; have k21_4 : q4.cell? ⟨w.heap.size + 1 + 1, 1, none⟩ = some (.slice S' sn' sc') := J.r2.cell 1; clear bb; go_wp2_with fail)
          refine hK.out _ _ (fun _ _ => ?_) (fun hKeep => ?_)
          · exact ⟨k00_4, k01_4, k10_4, k11_4, k20_4, k21_4⟩
          replace hHeld := hKeep (by first | rfl | trivial) hHeld
          clear hK K hKeep
          try simp only [Act.put, List.setIfInBounds_toArray, List.set_cons_zero, List.set_cons_succ, List.getElem_toArray, List.getElem_cons_zero, List.getElem_cons_succ]
          refine AnyT.takeA (i := 16) (v := ?_) rfl (by kernel_rfl) (by kernel_rfl) (by kernel_rfl) (fun _ _ _ h => h) (Or.inl ⟨by rfl, ?_⟩) ?_
          rotate_left 1
          · (intro w0 _; go_simp; try with_reducible rfl)
          try simp only [Act.put, List.setIfInBounds_toArray, List.set_cons_zero, List.set_cons_succ, List.getElem_toArray, List.getElem_cons_zero, List.getElem_cons_succ]
          refine AnyT.takeA (i := 17) (v := ?_) rfl (by kernel_rfl) (by kernel_rfl) (by kernel_rfl) (fun _ _ _ h => h) (Or.inl ⟨by rfl, ?_⟩) ?_
          rotate_left 1
          · (intro w0 _; go_simp; try with_reducible rfl)
          try simp only [Act.put, List.setIfInBounds_toArray, List.set_cons_zero, List.set_cons_succ, List.getElem_toArray, List.getElem_cons_zero, List.getElem_cons_succ]
          refine AnyT.takeA (i := 18) (v := ?_) rfl (by kernel_rfl) (by kernel_rfl) (by kernel_rfl) (fun _ _ _ h => h) (Or.inl ⟨by rfl, ?_⟩) ?_
          rotate_left 1
          · (intro w0 _; go_simp; try with_reducible rfl)
          try simp only [Act.put, List.setIfInBounds_toArray, List.set_cons_zero, List.set_cons_succ, List.getElem_toArray, List.getElem_cons_zero, List.getElem_cons_succ]
          refine AnyT.takeA (i := 19) (v := ?_) rfl (by kernel_rfl) (by kernel_rfl) (by kernel_rfl) (fun _ _ _ h => h) (Or.inl ⟨by rfl, ?_⟩) ?_
          rotate_left 1
          · (intro w0 _; go_simp; try with_reducible rfl)
          try simp only [Act.put, List.setIfInBounds_toArray, List.set_cons_zero, List.set_cons_succ, List.getElem_toArray, List.getElem_cons_zero, List.getElem_cons_succ]
          refine AnyT.take (i := 20) (v := ?_) rfl (by kernel_rfl) (by kernel_rfl) (by kernel_rfl) (by kernel_rfl) (fun _ _ _ h => h) (Or.inl ⟨by rfl, ?_⟩) (by assumption) ?_
          rotate_left 1
          · (intro w0 hSw; (try dsimp only at hSw); go_simp; try with_reducible rfl)
          try simp only [Act.put, List.setIfInBounds_toArray, List.set_cons_zero, List.set_cons_succ, List.getElem_toArray, List.getElem_cons_zero, List.getElem_cons_succ]
          refine AnyT.takeA (i := 21) (v := ?_) rfl (by kernel_rfl) (by kernel_rfl) (by kernel_rfl) (fun _ _ _ h => h) (Or.inl ⟨by rfl, ?_⟩) ?_
          rotate_left 1
          · (intro w0 _; go_simp; try with_reducible rfl)
          try simp only [Act.put, List.setIfInBounds_toArray, List.set_cons_zero, List.set_cons_succ, List.getElem_toArray, List.getElem_cons_zero, List.getElem_cons_succ]
          refine AnyT.takeA (i := 22) (v := ?_) rfl (by kernel_rfl) (by kernel_rfl) (by kernel_rfl) (fun _ _ _ h => h) (Or.inl ⟨by rfl, ?_⟩) ?_
          rotate_left 1
          · (intro w0 _; go_simp; try with_reducible rfl)
          try simp only [Act.put, List.setIfInBounds_toArray, List.set_cons_zero, List.set_cons_succ, List.getElem_toArray, List.getElem_cons_zero, List.getElem_cons_succ]
          refine AnyT.take (i := 23) (v := ?_) rfl (by kernel_rfl) (by kernel_rfl) (by kernel_rfl) (by kernel_rfl) (fun _ _ _ h => h) (Or.inl ⟨by rfl, ?_⟩) (by assumption) ?_
          rotate_left 1
          · (intro w0 hSw; (try dsimp only at hSw); go_simp; try with_reducible rfl)
          try simp only [Act.put, List.setIfInBounds_toArray, List.set_cons_zero, List.set_cons_succ, List.getElem_toArray, List.getElem_cons_zero, List.getElem_cons_succ]
          refine AnyT.takeA (i := 24) (v := ?_) rfl (by kernel_rfl) (by kernel_rfl) (by kernel_rfl) (fun _ _ _ h => h) (Or.inl ⟨by rfl, ?_⟩) ?_
          rotate_left 1
          · (intro w0 _; go_simp; try with_reducible rfl)
          try simp only [Act.put, List.setIfInBounds_toArray, List.set_cons_zero, List.set_cons_succ, List.getElem_toArray, List.getElem_cons_zero, List.getElem_cons_succ]
          refine AnyT.takeA (i := 25) (v := ?_) rfl (by kernel_rfl) (by kernel_rfl) (by kernel_rfl) (fun _ _ _ h => h) (Or.inl ⟨by rfl, ?_⟩) ?_
          rotate_left 1
          · (intro w0 _; go_simp; try with_reducible rfl)
          try simp only [Act.put, List.setIfInBounds_toArray, List.set_cons_zero, List.set_cons_succ, List.getElem_toArray, List.getElem_cons_zero, List.getElem_cons_succ]
          refine AnyT.takeA (i := 26) (v := ?_) rfl (by kernel_rfl) (by kernel_rfl) (by kernel_rfl) (fun _ _ _ h => h) (Or.inl ⟨by rfl, ?_⟩) ?_
          rotate_left 1
          · (intro w0 _; go_simp; try with_reducible rfl)
          try simp only [Act.put, List.setIfInBounds_toArray, List.set_cons_zero, List.set_cons_succ, List.getElem_toArray, List.getElem_cons_zero, List.getElem_cons_succ]
          refine AnyT.takeA (i := 27) (v := ?_) rfl (by kernel_rfl) (by kernel_rfl) (by kernel_rfl) (fun _ _ _ h => h) (Or.inl ⟨by rfl, ?_⟩) ?_
          rotate_left 1
          · (intro w0 _; go_simp; try with_reducible rfl)
          try simp only [Act.put, List.setIfInBounds_toArray, List.set_cons_zero, List.set_cons_succ, List.getElem_toArray, List.getElem_cons_zero, List.getElem_cons_succ]
          refine AnyT.done (by kernel_rfl) ?_ _
          clear c00 c01 c10 c11 c20 c21
          have y0 : q4.cell? ⟨w.heap.size + 1 + 1 + 1, 0, none⟩ = some (.slice none 0 0) := J.r3.cell 0
          have y1 : q4.cell? ⟨w.heap.size + 1 + 1 + 1, 1, none⟩ = some (.slice none 0 0) := J.r3.cell 1
          have g0 := J.r3.free 0
          have g1 := J.r3.free 1
          have ra := J.r3.put 0 (.slice none 0 0)
          have y2 : (q4.setCell ⟨w.heap.size + 1 + 1 + 1, 0, none⟩ (.slice none 0 0)).cell? ⟨w.heap.size + 1 + 1 + 1, 1, none⟩ = some (.slice none 0 0) := ra.cell 1
          have g2 := ra.free 1
          have rb := ra.put 1 (.slice none 0 0)
          have u0 : ((q4.setCell ⟨w.heap.size + 1 + 1 + 1, 0, none⟩ (.slice none 0 0)).setCell ⟨w.heap.size + 1 + 1 + 1, 1, none⟩ (.slice none 0 0)).cell? ⟨w.heap.size + 1 + 1 + 1, 0, none⟩ = some (.slice none 0 0) := rb.cell 0
          have u1 : ((q4.setCell ⟨w.heap.size + 1 + 1 + 1, 0, none⟩ (.slice none 0 0)).setCell ⟨w.heap.size + 1 + 1 + 1, 1, none⟩ (.slice none 0 0)).cell? ⟨w.heap.size + 1 + 1 + 1, 1, none⟩ = some (.slice none 0 0) := rb.cell 1
          have FZ : AnsWalk w (joinW d.1 d.2 k k') (joinB d.1 d.2 k k') (.returned (.tuple #[.agg #[.slice none 0 0, .slice none 0 0], .bool false])) ((q4.setCell ⟨w.heap.size + 1 + 1 + 1, 0, none⟩ (.slice none 0 0)).setCell ⟨w.heap.size + 1 + 1 + 1, 1, none⟩ (.slice none 0 0)) := ansWalk_no (join_no4 HLEN.out) (((J.b).setCell (show w.heap.size ≤ w.heap.size + 1 + 1 + 1 by omega) _).setCell (show w.heap.size ≤ w.heap.size + 1 + 1 + 1 by omega) _)
          have HFZ := Lib.hid FZ
          clear FZ ra rb k00_1 k01_1 k10_1 k11_1 k20_1 k21_1 k00_2 k01_2 k10_2 k11_2 k20_2 k21_2 k00_3 k01_3 k10_3 k11_3 k20_3 k21_3 k00_4 k01_4 k10_4 k11_4 k20_4 k21_4 J
          go_wp2
          exact bodyPost_ret (v := .tuple #[.agg #[.slice none 0 0, .slice none 0 0], .bool false]) (by simp [results, Try.results43, go_sem, u0, u1]) rfl HFZ.out
end Go.Proofs.Ytmaamlnooepogaa.walkSpec
end
