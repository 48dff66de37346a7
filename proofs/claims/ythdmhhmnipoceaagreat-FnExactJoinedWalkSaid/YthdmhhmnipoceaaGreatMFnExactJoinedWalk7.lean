/-
  MERGED: my texts WalkSpecC, ConcatS, one behind the other, as they are. By an AI agent.
-/
import Derived.Test.YthdmhhmnipoceaaGreatMFnExactJoinedWalk6
import Derived.Lib.AppendZeros
import Derived.Deep.LoopGhost
namespace Go.Proofs.YthdmhhmnipoceaaGreat
section
open Go.Lib (hid)
open List (setIfInBounds_toArray set_cons_zero set_cons_succ getElem_toArray getElem_cons_zero getElem_cons_succ)
namespace walkSpec
open Go.RowKit base ints sig term termOk endAt endOf marks app sym sub segs segsHelp kinds termFacts same shifted shape kindsR kindsW varsOf ruleMath ruleSpec stepMath walkMath stepSpec ownL heldT
set_option maxRecDepth 100000
def AnsWalk (w : World) (k : Wk) (b : Bool) (e : Ending) (w' : World) : Prop := ∃ A0 n0 c0 A1 n1 c1, e = .returned (.tuple #[.agg #[.slice A0 n0 c0, .slice A1 n1 c1], .bool b]) ∧ Owned w' w.heap.size w'.heap.size sWalk [.slice A0 n0 c0, .slice A1 n1 c1] k ∧ Below w.heap.size w w'
theorem owned_zero (w : World) (lo hi : Nat) : Owned w lo hi sWalk [.slice none 0 0, .slice none 0 0] (([], []) : List Int × List St) :=
 ⟨[], ⟨[.slice none 0 0], [.slice none 0 0], [], [], rfl, rfl, ⟨none, 0, 0, rfl, rfl, .inl ⟨rfl, rfl, rfl, rfl⟩⟩, ⟨none, 0, 0, rfl, rfl, .inl ⟨rfl, rfl, rfl, rfl⟩⟩⟩, List.nodup_nil, fun k hk => by cases hk⟩
theorem owned_walk {w : World} {lo mid hi : Nat} {X O : Option Addr} {xn xc n c : Nat} {f : List Int} {L : List St} (h : Ownd w lo mid X xn xc f) (h2 : OwnL w mid hi 74 sStep O n c L) (h3 : lo ≤ mid) (h4 : mid ≤ hi) : Owned w lo hi sWalk [.slice X xn xc, .slice O n c] (f, L) :=
 Owned.cat (ow_ints.2 h) h2.owned (Nat.le_refl _) h3 h4
theorem ansWalk_no {w w' : World} {k : Wk} {b : Bool} (h : k = ([], []) ∧ b = false) (hb : Below w.heap.size w w') : AnsWalk w k b (.returned (.tuple #[.agg #[.slice none 0 0, .slice none 0 0], .bool false])) w' :=
 ⟨none, 0, 0, none, 0, 0, by rw [h.2], by rw [h.1]; exact owned_zero _ _ _, hb⟩
def joinB (sg : List Int) (rs : List Rl) (a b : Wk) : Bool := (walkB sg rs a && walkB sg rs b) && (decide (endL a = b.1) && decide (a.2.length + b.2.length ≤ 60))
def joinW (sg : List Int) (rs : List Rl) (a b : Wk) : Wk := if joinB sg rs a b = true then (a.1, a.2 ++ b.2) else ([], [])
section
variable {sg : List Int} {rs : List Rl} {a b : Wk}
theorem join_off (h : joinB sg rs a b = false) : joinW sg rs a b = ([], []) ∧ joinB sg rs a b = false := ⟨by unfold joinW; rw [if_neg (by rw [h]; simp)], h⟩
theorem join_no1 (h : walkB sg rs a = false) : joinW sg rs a b = ([], []) ∧ joinB sg rs a b = false := join_off (by unfold joinB; rw [h]; rfl)
theorem join_no2 (h : walkB sg rs b = false) : joinW sg rs a b = ([], []) ∧ joinB sg rs a b = false := join_off (by unfold joinB; rw [h, Bool.and_false]; rfl)
theorem join_no3 (h : decide (endL a = b.1) = false) : joinW sg rs a b = ([], []) ∧ joinB sg rs a b = false := join_off (by unfold joinB; rw [h]; simp)
theorem join_no4 (h : ¬ a.2.length + b.2.length ≤ 60) : joinW sg rs a b = ([], []) ∧ joinB sg rs a b = false := join_off (by unfold joinB; rw [decide_eq_false h]; simp)
theorem join_yes (h1 : walkB sg rs a = true) (h2 : walkB sg rs b = true) (h3 : decide (endL a = b.1) = true) (h4 : a.2.length + b.2.length ≤ 60) : joinW sg rs a b = (a.1, a.2 ++ b.2) ∧ joinB sg rs a b = true := by
 have h : joinB sg rs a b = true := by unfold joinB; rw [h1, h2, h3, decide_eq_true h4]; rfl
 exact ⟨by unfold joinW; rw [if_pos h], h⟩
end
structure Jn (w : World) (a v f s f' s' : Value) (wr : World) : Prop where
 r0 : Row wr w.heap.size 41 #[a, v]
 r1 : Row wr (w.heap.size + 1) 35 #[f, s]
 r2 : Row wr (w.heap.size + 1 + 1) 35 #[f', s']
 r3 : Row wr (w.heap.size + 1 + 1 + 1) 35 #[.slice none 0 0, .slice none 0 0]
 b : Below w.heap.size w wr
section
variable {w wr w' : World} {a v f s f' s' : Value}
theorem Jn.next (h : Jn w a v f s f' s' wr) (hb : Below wr.heap.size wr w') : Jn w a v f s f' s' w' := ⟨h.r0.next hb, h.r1.next hb, h.r2.next hb, h.r3.next hb, next_trans h.b hb⟩
theorem Jn.drew (h : Jn w a v f s f' s' wr) : Jn w a v f s f' s' wr.drew := h.next (drew_below wr)
theorem Jn.below {lo : Nat} (h : Jn w a v f s f' s' wr) (hb : Below lo wr w') (hl : w.heap.size + 1 + 1 + 1 + 1 ≤ lo) : Jn w a v f s f' s' w' := ⟨h.r0.below hb (by omega), h.r1.below hb (by omega), h.r2.below hb (by omega), h.r3.below hb (by omega), h.b.trans (hb.mono (by omega))⟩
theorem Jn.size (h : Jn w a v f s f' s' wr) : w.heap.size + 1 + 1 + 1 + 1 ≤ wr.heap.size := h.r3.lt
end
theorem jn_new (w : World) (a v f s f' s' : Value) : ∃ W, W = (((w.alloc (.cells #[a, v] 41)).alloc (.cells #[f, s] 35)).alloc (.cells #[f', s'] 35)).alloc (.cells #[.slice none 0 0, .slice none 0 0] 35) ∧ Jn w a v f s f' s' W := by
 refine ⟨_, rfl, ?_, ?_, ?_, ?_, ?_⟩
 ·exact (((Row.new w _ _).alloc _).alloc _).alloc _
 ·have := ((Row.new (w.alloc (.cells #[a, v] 41)) 35 #[f, s]).alloc (.cells #[f', s'] 35)).alloc (.cells #[.slice none 0 0, .slice none 0 0] 35)
  simpa using this
 ·have := (Row.new ((w.alloc (.cells #[a, v] 41)).alloc (.cells #[f, s] 35)) 35 #[f', s']).alloc (.cells #[.slice none 0 0, .slice none 0 0] 35)
  simpa using this
 ·have := Row.new (((w.alloc (.cells #[a, v] 41)).alloc (.cells #[f, s] 35)).alloc (.cells #[f', s'] 35)) 35 #[.slice none 0 0, .slice none 0 0]
  simpa using this
 ·exact ((((Below.refl _ _).alloc (Nat.le_refl _) _).alloc (by simp) _).alloc (by simp; omega) _).alloc (by simp; omega) _
set_option maxHeartbeats 8000000 in
theorem specJoinedWalk (a v f s f' s' : Value) (d : Dat sSystem) (k k' : Dat sWalk) (w : World) (h : Rd w w.heap.size sSystem [a, v] d) (h1 : Rd w w.heap.size sWalk [f, s] k) (h2 : Rd w w.heap.size sWalk [f', s'] k') (hz : sz sSystem d ≤ 1048576) (hz1 : sz sWalk k ≤ 1048576) (hz2 : sz sWalk k' ≤ 1048576) :
  Calls Tryz.prog 7 #[.agg #[a, v], .agg #[f, s], .agg #[f', s']] w (AnsWalk w (joinW d.1 d.2 k k') (joinB d.1 d.2 k k')) := by
 obtain ⟨F, fn, fc, S, sn, sc, rfl, rfl, hF, hcF, hfn, hsn0, hsn, hcS, hrF, hrS, hzF, hzS⟩ := rd_walk h1 hz1
 obtain ⟨F', fn', fc', S', sn', sc', rfl, rfl, hF', hcF', hfn', hsn0', hsn', hcS', hrF', hrS', hzF', hzS'⟩ := rd_walk h2 hz2
 have hzS1 : sz sStepS k.2 ≤ 1048576 := by have hz0 : sz sI k.1 + sz sStepS k.2 ≤ 1048576 := hz1; omega
 have hzS2 : sz sStepS k'.2 ≤ 1048576 := by have hz0 : sz sI k'.1 + sz sStepS k'.2 ≤ 1048576 := hz2; omega
 have L1 := hid (fun (wr : World) (J : Jn w a v (.slice F fn fc) (.slice S sn sc) (.slice F' fn' fc') (.slice S' sn' sc') wr) => specWalkOk a v _ _ d k wr (h.next J.b) (h1.next J.b) hz hz1)
 have L2 := hid (fun (wr : World) (J : Jn w a v (.slice F fn fc) (.slice S sn sc) (.slice F' fn' fc') (.slice S' sn' sc') wr) => specWalkOk a v _ _ d k' wr (h.next J.b) (h2.next J.b) hz hz2)
 have L3 := hid (fun (wr : World) (J : Jn w a v (.slice F fn fc) (.slice S sn sc) (.slice F' fn' fc') (.slice S' sn' sc') wr) => l7End _ _ k wr (h1.next J.b) hz1)
 have L4 := hid (fun (wr : World) (J : Jn w a v (.slice F fn fc) (.slice S sn sc) (.slice F' fn' fc') (.slice S' sn' sc') wr) {lo : Nat} (X : Option Addr) (xn xc : Nat) (oX : Own wr lo (.slice X xn xc) (endL k)) => (specSame X F' xn fn' xc fc' (endL k) k'.1 wr (Own.seg oX) (hF'.next J.b) (by rw [Own.len oX]; exact end_len hz1) hfn').mono (R' := fun e w' => e = .returned (.bool (decide (endL k = k'.1))) ∧ Below wr.heap.size wr w') (fun _ _ hh => ⟨hh.1, by obtain ⟨dd, e2⟩ := hh.2; rw [e2]; exact drewN_below wr dd⟩))
 have LF := hid (fun (wr : World) (J : Jn w a v (.slice F fn fc) (.slice S sn sc) (.slice F' fn' fc') (.slice S' sn' sc') wr) => copyInts F fn fc k.1 wr (hF.next J.b) hcF.2.2 hfn)
 have LS := hid (fun (wr : World) (J : Jn w a v (.slice F fn fc) (.slice S sn sc) (.slice F' fn' fc') (.slice S' sn' sc') wr) => l7CopySteps S sn sc k.2 wr (hrS.next J.b) hzS1)
 have LT := hid (fun (wr : World) (J : Jn w a v (.slice F fn fc) (.slice S sn sc) (.slice F' fn' fc') (.slice S' sn' sc') wr) => l7CopySteps S' sn' sc' k'.2 wr (hrS'.next J.b) hzS2)
 have HL1 := hid hsn0
 have HL2 := hid hsn0'
 clear h h1 h2 hz hz1 hz2 hF hcF hcS hrF hrS hzF hzS hF' hcF' hcS' hrF' hrS' hzF' hzS' hzS1 hzS2 hsn0 hsn0' hfn hfn'
 obtain ⟨W, hW, J⟩ := jn_new w a v (.slice F fn fc) (.slice S sn sc) (.slice F' fn' fc') (.slice S' sn' sc')
 have HW := hid hW
 clear hW
 cases ha : walkB d.1 d.2 k with
 | false =>
  have HA := hid ha
  clear ha
  go_enter Tryz.func7, Tryz.ntmps7
  go_wp2_with fail
  rw [← HW.out]
  have c00 : W.cell? ⟨w.heap.size, 0, none⟩ = some (a) := J.r0.cell 0
  have c01 : W.cell? ⟨w.heap.size, 1, none⟩ = some (v) := J.r0.cell 1
  have c10 : W.cell? ⟨w.heap.size + 1, 0, none⟩ = some (.slice F fn fc) := J.r1.cell 0
  have c11 : W.cell? ⟨w.heap.size + 1, 1, none⟩ = some (.slice S sn sc) := J.r1.cell 1
  have c20 : W.cell? ⟨w.heap.size + 1 + 1, 0, none⟩ = some (.slice F' fn' fc') := J.r2.cell 0
  have c21 : W.cell? ⟨w.heap.size + 1 + 1, 1, none⟩ = some (.slice S' sn' sc') := J.r2.cell 1
  replace J := J.drew
  refine AnyT.start (S := (fun w' => w'.cell? ⟨w.heap.size, 0, none⟩ = some (a) ∧ w'.cell? ⟨w.heap.size, 1, none⟩ = some (v) ∧ w'.cell? ⟨w.heap.size + 1, 0, none⟩ = some (.slice F fn fc) ∧ w'.cell? ⟨w.heap.size + 1, 1, none⟩ = some (.slice S sn sc) ∧ w'.cell? ⟨w.heap.size + 1 + 1, 0, none⟩ = some (.slice F' fn' fc') ∧ w'.cell? ⟨w.heap.size + 1 + 1, 1, none⟩ = some (.slice S' sn' sc'))) (fun _ => false) (by kernel_rfl) ⟨c00, c01, c10, c11, c20, c21⟩ (fun hHeld => ?_)
  refine AnyT.take (i := 0) (v := ?_) rfl (by kernel_rfl) (by kernel_rfl) (by kernel_rfl) (by kernel_rfl) (fun _ _ _ h => h) (Or.inl ⟨by rfl, ?_⟩) (by assumption) ?_
  rotate_left 1
  ·(intro w0 hSw; (try dsimp only at hSw); go_simp; try with_reducible rfl)
  try simp only [Act.put, setIfInBounds_toArray, set_cons_zero, set_cons_succ, getElem_toArray, getElem_cons_zero, getElem_cons_succ]
  refine AnyT.take (i := 1) (v := ?_) rfl (by kernel_rfl) (by kernel_rfl) (by kernel_rfl) (by kernel_rfl) (fun _ _ _ h => h) (Or.inl ⟨by rfl, ?_⟩) (by assumption) ?_
  rotate_left 1
  ·(intro w0 hSw; (try dsimp only at hSw); go_simp; try with_reducible rfl)
  try simp only [Act.put, setIfInBounds_toArray, set_cons_zero, set_cons_succ, getElem_toArray, getElem_cons_zero, getElem_cons_succ]
  refine AnyT.call (i := 2) (by kernel_rfl) rfl (fun K hK => ?_)
  try simp only [Act.put, setIfInBounds_toArray, set_cons_zero, set_cons_succ, getElem_toArray, getElem_cons_zero, getElem_cons_succ]
  rw [if_pos (by rfl)]
  go_simp
  (go_at_call 26; refine (L1.out _ J).mono ?_; rintro e q1 ⟨he, bb⟩; rw [HA.out] at he; subst he; have done1 : True := trivial; replace J := J.next bb; have k00_1 : q1.cell? ⟨w.heap.size, 0, none⟩ = some (a) := J.r0.cell 0; have k01_1 : q1.cell? ⟨w.heap.size, 1, none⟩ = some (v) := J.r0.cell 1; have k10_1 : q1.cell? ⟨w.heap.size + 1, 0, none⟩ = some (.slice F fn fc) := J.r1.cell 0; have k11_1 : q1.cell? ⟨w.heap.size + 1, 1, none⟩ = some (.slice S sn sc) := J.r1.cell 1; have k20_1 : q1.cell? ⟨w.heap.size + 1 + 1, 0, none⟩ = some (.slice F' fn' fc') := J.r2.cell 0; have k21_1 : q1.cell? ⟨w.heap.size + 1 + 1, 1, none⟩ = some (.slice S' sn' sc') := J.r2.cell 1; clear bb; go_wp2_with fail)
  refine hK.out _ _ (fun _ _ => ?_) (fun hKeep => ?_)
  ·exact ⟨k00_1, k01_1, k10_1, k11_1, k20_1, k21_1⟩
  replace hHeld := hKeep (by first | rfl | trivial) hHeld
  clear hK K hKeep
  try simp only [Act.put, setIfInBounds_toArray, set_cons_zero, set_cons_succ, getElem_toArray, getElem_cons_zero, getElem_cons_succ]
  refine AnyT.takeA (i := 3) (v := ?_) rfl (by kernel_rfl) (by kernel_rfl) (by kernel_rfl) (fun _ _ _ h => h) (Or.inl ⟨by rfl, ?_⟩) ?_
  rotate_left 1
  ·(intro w0 _; go_simp; try with_reducible rfl)
  try simp only [Act.put, setIfInBounds_toArray, set_cons_zero, set_cons_succ, getElem_toArray, getElem_cons_zero, getElem_cons_succ]
  refine AnyT.takeA (i := 4) (v := ?_) rfl (by kernel_rfl) (by kernel_rfl) (by kernel_rfl) (fun _ _ _ h => h) (Or.inl ⟨by rfl, ?_⟩) ?_
  rotate_left 1
  ·(intro w0 _; go_simp; try with_reducible rfl)
  try simp only [Act.put, setIfInBounds_toArray, set_cons_zero, set_cons_succ, getElem_toArray, getElem_cons_zero, getElem_cons_succ]
  refine AnyT.takeA (i := 5) (v := undef) rfl (by kernel_rfl) (by kernel_rfl) (by kernel_rfl) (fun _ _ _ h => h) (Or.inr ⟨by rfl, rfl⟩) ?_
  try simp only [Act.put, setIfInBounds_toArray, set_cons_zero, set_cons_succ, getElem_toArray, getElem_cons_zero, getElem_cons_succ]
  refine AnyT.takeA (i := 6) (v := undef) rfl (by kernel_rfl) (by kernel_rfl) (by kernel_rfl) (fun _ _ _ h => h) (Or.inr ⟨by rfl, rfl⟩) ?_
  try simp only [Act.put, setIfInBounds_toArray, set_cons_zero, set_cons_succ, getElem_toArray, getElem_cons_zero, getElem_cons_succ]
  refine AnyT.call (i := 7) (by kernel_rfl) rfl (fun K hK => ?_)
  try simp only [Act.put, setIfInBounds_toArray, set_cons_zero, set_cons_succ, getElem_toArray, getElem_cons_zero, getElem_cons_succ]
  rw [if_neg (by intro h; cases h)]
  refine hK.out _ _ (fun _ h => h) (fun _ => ?_)
  clear hK K
  try simp only [Act.put, setIfInBounds_toArray, set_cons_zero, set_cons_succ, getElem_toArray, getElem_cons_zero, getElem_cons_succ]
  refine AnyT.takeA (i := 8) (v := undef) rfl (by kernel_rfl) (by kernel_rfl) (by kernel_rfl) (fun _ _ _ h => h) (Or.inr ⟨by rfl, rfl⟩) ?_
  try simp only [Act.put, setIfInBounds_toArray, set_cons_zero, set_cons_succ, getElem_toArray, getElem_cons_zero, getElem_cons_succ]
  refine AnyT.takeA (i := 9) (v := ?_) rfl (by kernel_rfl) (by kernel_rfl) (by kernel_rfl) (fun _ _ _ h => h) (Or.inl ⟨by rfl, ?_⟩) ?_
  rotate_left 1
  ·(intro w0 _; go_simp; try with_reducible rfl)
  try simp only [Act.put, setIfInBounds_toArray, set_cons_zero, set_cons_succ, getElem_toArray, getElem_cons_zero, getElem_cons_succ]
  refine AnyT.takeA (i := 10) (v := ?_) rfl (by kernel_rfl) (by kernel_rfl) (by kernel_rfl) (fun _ _ _ h => h) (Or.inl ⟨by rfl, ?_⟩) ?_
  rotate_left 1
  ·(intro w0 _; go_simp; try with_reducible rfl)
  try simp only [Act.put, setIfInBounds_toArray, set_cons_zero, set_cons_succ, getElem_toArray, getElem_cons_zero, getElem_cons_succ]
  refine AnyT.takeA (i := 11) (v := undef) rfl (by kernel_rfl) (by kernel_rfl) (by kernel_rfl) (fun _ _ _ h => h) (Or.inr ⟨by rfl, rfl⟩) ?_
  try simp only [Act.put, setIfInBounds_toArray, set_cons_zero, set_cons_succ, getElem_toArray, getElem_cons_zero, getElem_cons_succ]
  refine AnyT.takeA (i := 13) (v := undef) rfl (by kernel_rfl) (by kernel_rfl) (by kernel_rfl) (fun _ _ _ h => h) (Or.inr ⟨by rfl, rfl⟩) ?_
  try simp only [Act.put, setIfInBounds_toArray, set_cons_zero, set_cons_succ, getElem_toArray, getElem_cons_zero, getElem_cons_succ]
  refine AnyT.takeA (i := 14) (v := undef) rfl (by kernel_rfl) (by kernel_rfl) (by kernel_rfl) (fun _ _ _ h => h) (Or.inr ⟨by rfl, rfl⟩) ?_
  try simp only [Act.put, setIfInBounds_toArray, set_cons_zero, set_cons_succ, getElem_toArray, getElem_cons_zero, getElem_cons_succ]
  refine AnyT.call (i := 12) (by kernel_rfl) rfl (fun K hK => ?_)
  try simp only [Act.put, setIfInBounds_toArray, set_cons_zero, set_cons_succ, getElem_toArray, getElem_cons_zero, getElem_cons_succ]
  rw [if_neg (by intro h; cases h)]
  refine hK.out _ _ (fun _ h => h) (fun _ => ?_)
  clear hK K
  try simp only [Act.put, setIfInBounds_toArray, set_cons_zero, set_cons_succ, getElem_toArray, getElem_cons_zero, getElem_cons_succ]
  refine AnyT.call (i := 15) (by kernel_rfl) rfl (fun K hK => ?_)
  try simp only [Act.put, setIfInBounds_toArray, set_cons_zero, set_cons_succ, getElem_toArray, getElem_cons_zero, getElem_cons_succ]
  rw [if_neg (by intro h; cases h)]
  refine hK.out _ _ (fun _ h => h) (fun _ => ?_)
  clear hK K
  try simp only [Act.put, setIfInBounds_toArray, set_cons_zero, set_cons_succ, getElem_toArray, getElem_cons_zero, getElem_cons_succ]
  refine AnyT.takeA (i := 16) (v := undef) rfl (by kernel_rfl) (by kernel_rfl) (by kernel_rfl) (fun _ _ _ h => h) (Or.inr ⟨by rfl, rfl⟩) ?_
  try simp only [Act.put, setIfInBounds_toArray, set_cons_zero, set_cons_succ, getElem_toArray, getElem_cons_zero, getElem_cons_succ]
  refine AnyT.takeA (i := 17) (v := ?_) rfl (by kernel_rfl) (by kernel_rfl) (by kernel_rfl) (fun _ _ _ h => h) (Or.inl ⟨by rfl, ?_⟩) ?_
  rotate_left 1
  ·(intro w0 _; go_simp; try with_reducible rfl)
  try simp only [Act.put, setIfInBounds_toArray, set_cons_zero, set_cons_succ, getElem_toArray, getElem_cons_zero, getElem_cons_succ]
  refine AnyT.takeA (i := 18) (v := ?_) rfl (by kernel_rfl) (by kernel_rfl) (by kernel_rfl) (fun _ _ _ h => h) (Or.inl ⟨by rfl, ?_⟩) ?_
  rotate_left 1
  ·(intro w0 _; go_simp; try with_reducible rfl)
  try simp only [Act.put, setIfInBounds_toArray, set_cons_zero, set_cons_succ, getElem_toArray, getElem_cons_zero, getElem_cons_succ]
  refine AnyT.takeA (i := 19) (v := undef) rfl (by kernel_rfl) (by kernel_rfl) (by kernel_rfl) (fun _ _ _ h => h) (Or.inr ⟨by rfl, rfl⟩) ?_
  try simp only [Act.put, setIfInBounds_toArray, set_cons_zero, set_cons_succ, getElem_toArray, getElem_cons_zero, getElem_cons_succ]
  refine AnyT.takeA (i := 20) (v := undef) rfl (by kernel_rfl) (by kernel_rfl) (by kernel_rfl) (fun _ _ _ h => h) (Or.inr ⟨by rfl, rfl⟩) ?_
  try simp only [Act.put, setIfInBounds_toArray, set_cons_zero, set_cons_succ, getElem_toArray, getElem_cons_zero, getElem_cons_succ]
  refine AnyT.takeA (i := 21) (v := undef) rfl (by kernel_rfl) (by kernel_rfl) (by kernel_rfl) (fun _ _ _ h => h) (Or.inr ⟨by rfl, rfl⟩) ?_
  try simp only [Act.put, setIfInBounds_toArray, set_cons_zero, set_cons_succ, getElem_toArray, getElem_cons_zero, getElem_cons_succ]
  refine AnyT.takeA (i := 22) (v := undef) rfl (by kernel_rfl) (by kernel_rfl) (by kernel_rfl) (fun _ _ _ h => h) (Or.inr ⟨by rfl, rfl⟩) ?_
  try simp only [Act.put, setIfInBounds_toArray, set_cons_zero, set_cons_succ, getElem_toArray, getElem_cons_zero, getElem_cons_succ]
  refine AnyT.takeA (i := 23) (v := undef) rfl (by kernel_rfl) (by kernel_rfl) (by kernel_rfl) (fun _ _ _ h => h) (Or.inr ⟨by rfl, rfl⟩) ?_
  try simp only [Act.put, setIfInBounds_toArray, set_cons_zero, set_cons_succ, getElem_toArray, getElem_cons_zero, getElem_cons_succ]
  refine AnyT.takeA (i := 24) (v := undef) rfl (by kernel_rfl) (by kernel_rfl) (by kernel_rfl) (fun _ _ _ h => h) (Or.inr ⟨by rfl, rfl⟩) ?_
  try simp only [Act.put, setIfInBounds_toArray, set_cons_zero, set_cons_succ, getElem_toArray, getElem_cons_zero, getElem_cons_succ]
  refine AnyT.takeA (i := 25) (v := undef) rfl (by kernel_rfl) (by kernel_rfl) (by kernel_rfl) (fun _ _ _ h => h) (Or.inr ⟨by rfl, rfl⟩) ?_
  try simp only [Act.put, setIfInBounds_toArray, set_cons_zero, set_cons_succ, getElem_toArray, getElem_cons_zero, getElem_cons_succ]
  refine AnyT.takeA (i := 26) (v := undef) rfl (by kernel_rfl) (by kernel_rfl) (by kernel_rfl) (fun _ _ _ h => h) (Or.inr ⟨by rfl, rfl⟩) ?_
  try simp only [Act.put, setIfInBounds_toArray, set_cons_zero, set_cons_succ, getElem_toArray, getElem_cons_zero, getElem_cons_succ]
  refine AnyT.takeA (i := 27) (v := ?_) rfl (by kernel_rfl) (by kernel_rfl) (by kernel_rfl) (fun _ _ _ h => h) (Or.inl ⟨by rfl, ?_⟩) ?_
  rotate_left 1
  ·(intro w0 _; go_simp; try with_reducible rfl)
  try simp only [Act.put, setIfInBounds_toArray, set_cons_zero, set_cons_succ, getElem_toArray, getElem_cons_zero, getElem_cons_succ]
  refine AnyT.done (by kernel_rfl) ?_ _
  clear c00 c01 c10 c11 c20 c21
  have y0 : q1.cell? ⟨w.heap.size + 1 + 1 + 1, 0, none⟩ = some (.slice none 0 0) := J.r3.cell 0
  have y1 : q1.cell? ⟨w.heap.size + 1 + 1 + 1, 1, none⟩ = some (.slice none 0 0) := J.r3.cell 1
  have g0 := J.r3.free 0
  have g1 := J.r3.free 1
  have ra := J.r3.put 0 (.slice none 0 0)
  have y2 : (q1.setCell ⟨w.heap.size + 1 + 1 + 1, 0, none⟩ (.slice none 0 0)).cell? ⟨w.heap.size + 1 + 1 + 1, 1, none⟩ = some (.slice none 0 0) := ra.cell 1
  have g2 := ra.free 1
  have rb := ra.put 1 (.slice none 0 0)
  have u0 : ((q1.setCell ⟨w.heap.size + 1 + 1 + 1, 0, none⟩ (.slice none 0 0)).setCell ⟨w.heap.size + 1 + 1 + 1, 1, none⟩ (.slice none 0 0)).cell? ⟨w.heap.size + 1 + 1 + 1, 0, none⟩ = some (.slice none 0 0) := rb.cell 0
  have u1 : ((q1.setCell ⟨w.heap.size + 1 + 1 + 1, 0, none⟩ (.slice none 0 0)).setCell ⟨w.heap.size + 1 + 1 + 1, 1, none⟩ (.slice none 0 0)).cell? ⟨w.heap.size + 1 + 1 + 1, 1, none⟩ = some (.slice none 0 0) := rb.cell 1
  have FZ : AnsWalk w (joinW d.1 d.2 k k') (joinB d.1 d.2 k k') (.returned (.tuple #[.agg #[.slice none 0 0, .slice none 0 0], .bool false])) ((q1.setCell ⟨w.heap.size + 1 + 1 + 1, 0, none⟩ (.slice none 0 0)).setCell ⟨w.heap.size + 1 + 1 + 1, 1, none⟩ (.slice none 0 0)) := ansWalk_no (join_no1 HA.out) (((J.b).setCell (show w.heap.size ≤ w.heap.size + 1 + 1 + 1 by omega) _).setCell (show w.heap.size ≤ w.heap.size + 1 + 1 + 1 by omega) _)
  have HFZ := hid FZ
  clear FZ ra rb k00_1 k01_1 k10_1 k11_1 k20_1 k21_1 J
  go_wp2
  exact bodyPost_ret (v := .tuple #[.agg #[.slice none 0 0, .slice none 0 0], .bool false]) (by simp [results, Tryz.results7, go_sem, u0, u1]) rfl HFZ.out
 | true =>
  have HA := hid ha
  clear ha
  cases hb : walkB d.1 d.2 k' with
  | false =>
   have HB := hid hb
   clear hb
   go_enter Tryz.func7, Tryz.ntmps7
   go_wp2_with fail
   rw [← HW.out]
   have c00 : W.cell? ⟨w.heap.size, 0, none⟩ = some (a) := J.r0.cell 0
   have c01 : W.cell? ⟨w.heap.size, 1, none⟩ = some (v) := J.r0.cell 1
   have c10 : W.cell? ⟨w.heap.size + 1, 0, none⟩ = some (.slice F fn fc) := J.r1.cell 0
   have c11 : W.cell? ⟨w.heap.size + 1, 1, none⟩ = some (.slice S sn sc) := J.r1.cell 1
   have c20 : W.cell? ⟨w.heap.size + 1 + 1, 0, none⟩ = some (.slice F' fn' fc') := J.r2.cell 0
   have c21 : W.cell? ⟨w.heap.size + 1 + 1, 1, none⟩ = some (.slice S' sn' sc') := J.r2.cell 1
   replace J := J.drew
   refine AnyT.start (S := (fun w' => w'.cell? ⟨w.heap.size, 0, none⟩ = some (a) ∧ w'.cell? ⟨w.heap.size, 1, none⟩ = some (v) ∧ w'.cell? ⟨w.heap.size + 1, 0, none⟩ = some (.slice F fn fc) ∧ w'.cell? ⟨w.heap.size + 1, 1, none⟩ = some (.slice S sn sc) ∧ w'.cell? ⟨w.heap.size + 1 + 1, 0, none⟩ = some (.slice F' fn' fc') ∧ w'.cell? ⟨w.heap.size + 1 + 1, 1, none⟩ = some (.slice S' sn' sc'))) (fun _ => false) (by kernel_rfl) ⟨c00, c01, c10, c11, c20, c21⟩ (fun hHeld => ?_)
   refine AnyT.take (i := 0) (v := ?_) rfl (by kernel_rfl) (by kernel_rfl) (by kernel_rfl) (by kernel_rfl) (fun _ _ _ h => h) (Or.inl ⟨by rfl, ?_⟩) (by assumption) ?_
   rotate_left 1
   ·(intro w0 hSw; (try dsimp only at hSw); go_simp; try with_reducible rfl)
   try simp only [Act.put, setIfInBounds_toArray, set_cons_zero, set_cons_succ, getElem_toArray, getElem_cons_zero, getElem_cons_succ]
   refine AnyT.take (i := 1) (v := ?_) rfl (by kernel_rfl) (by kernel_rfl) (by kernel_rfl) (by kernel_rfl) (fun _ _ _ h => h) (Or.inl ⟨by rfl, ?_⟩) (by assumption) ?_
   rotate_left 1
   ·(intro w0 hSw; (try dsimp only at hSw); go_simp; try with_reducible rfl)
   try simp only [Act.put, setIfInBounds_toArray, set_cons_zero, set_cons_succ, getElem_toArray, getElem_cons_zero, getElem_cons_succ]
   refine AnyT.call (i := 2) (by kernel_rfl) rfl (fun K hK => ?_)
   try simp only [Act.put, setIfInBounds_toArray, set_cons_zero, set_cons_succ, getElem_toArray, getElem_cons_zero, getElem_cons_succ]
   rw [if_pos (by rfl)]
   go_simp
   (go_at_call 26; refine (L1.out _ J).mono ?_; rintro e q1 ⟨he, bb⟩; rw [HA.out] at he; subst he; have done1 : True := trivial; replace J := J.next bb; have k00_1 : q1.cell? ⟨w.heap.size, 0, none⟩ = some (a) := J.r0.cell 0; have k01_1 : q1.cell? ⟨w.heap.size, 1, none⟩ = some (v) := J.r0.cell 1; have k10_1 : q1.cell? ⟨w.heap.size + 1, 0, none⟩ = some (.slice F fn fc) := J.r1.cell 0; have k11_1 : q1.cell? ⟨w.heap.size + 1, 1, none⟩ = some (.slice S sn sc) := J.r1.cell 1; have k20_1 : q1.cell? ⟨w.heap.size + 1 + 1, 0, none⟩ = some (.slice F' fn' fc') := J.r2.cell 0; have k21_1 : q1.cell? ⟨w.heap.size + 1 + 1, 1, none⟩ = some (.slice S' sn' sc') := J.r2.cell 1; clear bb; go_wp2_with fail)
   refine hK.out _ _ (fun _ _ => ?_) (fun hKeep => ?_)
   ·exact ⟨k00_1, k01_1, k10_1, k11_1, k20_1, k21_1⟩
   replace hHeld := hKeep (by first | rfl | trivial) hHeld
   clear hK K hKeep
   try simp only [Act.put, setIfInBounds_toArray, set_cons_zero, set_cons_succ, getElem_toArray, getElem_cons_zero, getElem_cons_succ]
   refine AnyT.takeA (i := 3) (v := ?_) rfl (by kernel_rfl) (by kernel_rfl) (by kernel_rfl) (fun _ _ _ h => h) (Or.inl ⟨by rfl, ?_⟩) ?_
   rotate_left 1
   ·(intro w0 _; go_simp; try with_reducible rfl)
   try simp only [Act.put, setIfInBounds_toArray, set_cons_zero, set_cons_succ, getElem_toArray, getElem_cons_zero, getElem_cons_succ]
   refine AnyT.takeA (i := 4) (v := ?_) rfl (by kernel_rfl) (by kernel_rfl) (by kernel_rfl) (fun _ _ _ h => h) (Or.inl ⟨by rfl, ?_⟩) ?_
   rotate_left 1
   ·(intro w0 _; go_simp; try with_reducible rfl)
   try simp only [Act.put, setIfInBounds_toArray, set_cons_zero, set_cons_succ, getElem_toArray, getElem_cons_zero, getElem_cons_succ]
   refine AnyT.take (i := 5) (v := ?_) rfl (by kernel_rfl) (by kernel_rfl) (by kernel_rfl) (by kernel_rfl) (fun _ _ _ h => h) (Or.inl ⟨by rfl, ?_⟩) (by assumption) ?_
   rotate_left 1
   ·(intro w0 hSw; (try dsimp only at hSw); go_simp; try with_reducible rfl)
   try simp only [Act.put, setIfInBounds_toArray, set_cons_zero, set_cons_succ, getElem_toArray, getElem_cons_zero, getElem_cons_succ]
   refine AnyT.take (i := 6) (v := ?_) rfl (by kernel_rfl) (by kernel_rfl) (by kernel_rfl) (by kernel_rfl) (fun _ _ _ h => h) (Or.inl ⟨by rfl, ?_⟩) (by assumption) ?_
   rotate_left 1
   ·(intro w0 hSw; (try dsimp only at hSw); go_simp; try with_reducible rfl)
   try simp only [Act.put, setIfInBounds_toArray, set_cons_zero, set_cons_succ, getElem_toArray, getElem_cons_zero, getElem_cons_succ]
   refine AnyT.call (i := 7) (by kernel_rfl) rfl (fun K hK => ?_)
   try simp only [Act.put, setIfInBounds_toArray, set_cons_zero, set_cons_succ, getElem_toArray, getElem_cons_zero, getElem_cons_succ]
   rw [if_pos (by rfl)]
   go_simp
   (have := done1; go_at_call 26; refine (L2.out _ J).mono ?_; rintro e q2 ⟨he, bb⟩; rw [HB.out] at he; subst he; replace J := J.next bb; have k00_2 : q2.cell? ⟨w.heap.size, 0, none⟩ = some (a) := J.r0.cell 0; have k01_2 : q2.cell? ⟨w.heap.size, 1, none⟩ = some (v) := J.r0.cell 1; have k10_2 : q2.cell? ⟨w.heap.size + 1, 0, none⟩ = some (.slice F fn fc) := J.r1.cell 0; have k11_2 : q2.cell? ⟨w.heap.size + 1, 1, none⟩ = some (.slice S sn sc) := J.r1.cell 1; have k20_2 : q2.cell? ⟨w.heap.size + 1 + 1, 0, none⟩ = some (.slice F' fn' fc') := J.r2.cell 0; have k21_2 : q2.cell? ⟨w.heap.size + 1 + 1, 1, none⟩ = some (.slice S' sn' sc') := J.r2.cell 1; clear bb; go_wp2_with fail)
   refine hK.out _ _ (fun _ _ => ?_) (fun hKeep => ?_)
   ·exact ⟨k00_2, k01_2, k10_2, k11_2, k20_2, k21_2⟩
   replace hHeld := hKeep (by first | rfl | trivial) hHeld
   clear hK K hKeep
   try simp only [Act.put, setIfInBounds_toArray, set_cons_zero, set_cons_succ, getElem_toArray, getElem_cons_zero, getElem_cons_succ]
   refine AnyT.takeA (i := 8) (v := ?_) rfl (by kernel_rfl) (by kernel_rfl) (by kernel_rfl) (fun _ _ _ h => h) (Or.inl ⟨by rfl, ?_⟩) ?_
   rotate_left 1
   ·(intro w0 _; go_simp; try with_reducible rfl)
   try simp only [Act.put, setIfInBounds_toArray, set_cons_zero, set_cons_succ, getElem_toArray, getElem_cons_zero, getElem_cons_succ]
   refine AnyT.takeA (i := 9) (v := ?_) rfl (by kernel_rfl) (by kernel_rfl) (by kernel_rfl) (fun _ _ _ h => h) (Or.inl ⟨by rfl, ?_⟩) ?_
   rotate_left 1
   ·(intro w0 _; go_simp; try with_reducible rfl)
   try simp only [Act.put, setIfInBounds_toArray, set_cons_zero, set_cons_succ, getElem_toArray, getElem_cons_zero, getElem_cons_succ]
   refine AnyT.takeA (i := 10) (v := ?_) rfl (by kernel_rfl) (by kernel_rfl) (by kernel_rfl) (fun _ _ _ h => h) (Or.inl ⟨by rfl, ?_⟩) ?_
   rotate_left 1
   ·(intro w0 _; go_simp; try with_reducible rfl)
   try simp only [Act.put, setIfInBounds_toArray, set_cons_zero, set_cons_succ, getElem_toArray, getElem_cons_zero, getElem_cons_succ]
   refine AnyT.takeA (i := 11) (v := undef) rfl (by kernel_rfl) (by kernel_rfl) (by kernel_rfl) (fun _ _ _ h => h) (Or.inr ⟨by rfl, rfl⟩) ?_
   try simp only [Act.put, setIfInBounds_toArray, set_cons_zero, set_cons_succ, getElem_toArray, getElem_cons_zero, getElem_cons_succ]
   refine AnyT.takeA (i := 13) (v := undef) rfl (by kernel_rfl) (by kernel_rfl) (by kernel_rfl) (fun _ _ _ h => h) (Or.inr ⟨by rfl, rfl⟩) ?_
   try simp only [Act.put, setIfInBounds_toArray, set_cons_zero, set_cons_succ, getElem_toArray, getElem_cons_zero, getElem_cons_succ]
   refine AnyT.takeA (i := 14) (v := undef) rfl (by kernel_rfl) (by kernel_rfl) (by kernel_rfl) (fun _ _ _ h => h) (Or.inr ⟨by rfl, rfl⟩) ?_
   try simp only [Act.put, setIfInBounds_toArray, set_cons_zero, set_cons_succ, getElem_toArray, getElem_cons_zero, getElem_cons_succ]
   refine AnyT.call (i := 12) (by kernel_rfl) rfl (fun K hK => ?_)
   try simp only [Act.put, setIfInBounds_toArray, set_cons_zero, set_cons_succ, getElem_toArray, getElem_cons_zero, getElem_cons_succ]
   rw [if_neg (by intro h; cases h)]
   refine hK.out _ _ (fun _ h => h) (fun _ => ?_)
   clear hK K
   try simp only [Act.put, setIfInBounds_toArray, set_cons_zero, set_cons_succ, getElem_toArray, getElem_cons_zero, getElem_cons_succ]
   refine AnyT.call (i := 15) (by kernel_rfl) rfl (fun K hK => ?_)
   try simp only [Act.put, setIfInBounds_toArray, set_cons_zero, set_cons_succ, getElem_toArray, getElem_cons_zero, getElem_cons_succ]
   rw [if_neg (by intro h; cases h)]
   refine hK.out _ _ (fun _ h => h) (fun _ => ?_)
   clear hK K
   try simp only [Act.put, setIfInBounds_toArray, set_cons_zero, set_cons_succ, getElem_toArray, getElem_cons_zero, getElem_cons_succ]
   refine AnyT.takeA (i := 16) (v := undef) rfl (by kernel_rfl) (by kernel_rfl) (by kernel_rfl) (fun _ _ _ h => h) (Or.inr ⟨by rfl, rfl⟩) ?_
   try simp only [Act.put, setIfInBounds_toArray, set_cons_zero, set_cons_succ, getElem_toArray, getElem_cons_zero, getElem_cons_succ]
   refine AnyT.takeA (i := 17) (v := ?_) rfl (by kernel_rfl) (by kernel_rfl) (by kernel_rfl) (fun _ _ _ h => h) (Or.inl ⟨by rfl, ?_⟩) ?_
   rotate_left 1
   ·(intro w0 _; go_simp; try with_reducible rfl)
   try simp only [Act.put, setIfInBounds_toArray, set_cons_zero, set_cons_succ, getElem_toArray, getElem_cons_zero, getElem_cons_succ]
   refine AnyT.takeA (i := 18) (v := ?_) rfl (by kernel_rfl) (by kernel_rfl) (by kernel_rfl) (fun _ _ _ h => h) (Or.inl ⟨by rfl, ?_⟩) ?_
   rotate_left 1
   ·(intro w0 _; go_simp; try with_reducible rfl)
   try simp only [Act.put, setIfInBounds_toArray, set_cons_zero, set_cons_succ, getElem_toArray, getElem_cons_zero, getElem_cons_succ]
   refine AnyT.takeA (i := 19) (v := undef) rfl (by kernel_rfl) (by kernel_rfl) (by kernel_rfl) (fun _ _ _ h => h) (Or.inr ⟨by rfl, rfl⟩) ?_
   try simp only [Act.put, setIfInBounds_toArray, set_cons_zero, set_cons_succ, getElem_toArray, getElem_cons_zero, getElem_cons_succ]
   refine AnyT.takeA (i := 20) (v := undef) rfl (by kernel_rfl) (by kernel_rfl) (by kernel_rfl) (fun _ _ _ h => h) (Or.inr ⟨by rfl, rfl⟩) ?_
   try simp only [Act.put, setIfInBounds_toArray, set_cons_zero, set_cons_succ, getElem_toArray, getElem_cons_zero, getElem_cons_succ]
   refine AnyT.takeA (i := 21) (v := undef) rfl (by kernel_rfl) (by kernel_rfl) (by kernel_rfl) (fun _ _ _ h => h) (Or.inr ⟨by rfl, rfl⟩) ?_
   try simp only [Act.put, setIfInBounds_toArray, set_cons_zero, set_cons_succ, getElem_toArray, getElem_cons_zero, getElem_cons_succ]
   refine AnyT.takeA (i := 22) (v := undef) rfl (by kernel_rfl) (by kernel_rfl) (by kernel_rfl) (fun _ _ _ h => h) (Or.inr ⟨by rfl, rfl⟩) ?_
   try simp only [Act.put, setIfInBounds_toArray, set_cons_zero, set_cons_succ, getElem_toArray, getElem_cons_zero, getElem_cons_succ]
   refine AnyT.takeA (i := 23) (v := undef) rfl (by kernel_rfl) (by kernel_rfl) (by kernel_rfl) (fun _ _ _ h => h) (Or.inr ⟨by rfl, rfl⟩) ?_
   try simp only [Act.put, setIfInBounds_toArray, set_cons_zero, set_cons_succ, getElem_toArray, getElem_cons_zero, getElem_cons_succ]
   refine AnyT.takeA (i := 24) (v := undef) rfl (by kernel_rfl) (by kernel_rfl) (by kernel_rfl) (fun _ _ _ h => h) (Or.inr ⟨by rfl, rfl⟩) ?_
   try simp only [Act.put, setIfInBounds_toArray, set_cons_zero, set_cons_succ, getElem_toArray, getElem_cons_zero, getElem_cons_succ]
   refine AnyT.takeA (i := 25) (v := undef) rfl (by kernel_rfl) (by kernel_rfl) (by kernel_rfl) (fun _ _ _ h => h) (Or.inr ⟨by rfl, rfl⟩) ?_
   try simp only [Act.put, setIfInBounds_toArray, set_cons_zero, set_cons_succ, getElem_toArray, getElem_cons_zero, getElem_cons_succ]
   refine AnyT.takeA (i := 26) (v := undef) rfl (by kernel_rfl) (by kernel_rfl) (by kernel_rfl) (fun _ _ _ h => h) (Or.inr ⟨by rfl, rfl⟩) ?_
   try simp only [Act.put, setIfInBounds_toArray, set_cons_zero, set_cons_succ, getElem_toArray, getElem_cons_zero, getElem_cons_succ]
   refine AnyT.takeA (i := 27) (v := ?_) rfl (by kernel_rfl) (by kernel_rfl) (by kernel_rfl) (fun _ _ _ h => h) (Or.inl ⟨by rfl, ?_⟩) ?_
   rotate_left 1
   ·(intro w0 _; go_simp; try with_reducible rfl)
   try simp only [Act.put, setIfInBounds_toArray, set_cons_zero, set_cons_succ, getElem_toArray, getElem_cons_zero, getElem_cons_succ]
   refine AnyT.done (by kernel_rfl) ?_ _
   clear c00 c01 c10 c11 c20 c21
   have y0 : q2.cell? ⟨w.heap.size + 1 + 1 + 1, 0, none⟩ = some (.slice none 0 0) := J.r3.cell 0
   have y1 : q2.cell? ⟨w.heap.size + 1 + 1 + 1, 1, none⟩ = some (.slice none 0 0) := J.r3.cell 1
   have g0 := J.r3.free 0
   have g1 := J.r3.free 1
   have ra := J.r3.put 0 (.slice none 0 0)
   have y2 : (q2.setCell ⟨w.heap.size + 1 + 1 + 1, 0, none⟩ (.slice none 0 0)).cell? ⟨w.heap.size + 1 + 1 + 1, 1, none⟩ = some (.slice none 0 0) := ra.cell 1
   have g2 := ra.free 1
   have rb := ra.put 1 (.slice none 0 0)
   have u0 : ((q2.setCell ⟨w.heap.size + 1 + 1 + 1, 0, none⟩ (.slice none 0 0)).setCell ⟨w.heap.size + 1 + 1 + 1, 1, none⟩ (.slice none 0 0)).cell? ⟨w.heap.size + 1 + 1 + 1, 0, none⟩ = some (.slice none 0 0) := rb.cell 0
   have u1 : ((q2.setCell ⟨w.heap.size + 1 + 1 + 1, 0, none⟩ (.slice none 0 0)).setCell ⟨w.heap.size + 1 + 1 + 1, 1, none⟩ (.slice none 0 0)).cell? ⟨w.heap.size + 1 + 1 + 1, 1, none⟩ = some (.slice none 0 0) := rb.cell 1
   have FZ : AnsWalk w (joinW d.1 d.2 k k') (joinB d.1 d.2 k k') (.returned (.tuple #[.agg #[.slice none 0 0, .slice none 0 0], .bool false])) ((q2.setCell ⟨w.heap.size + 1 + 1 + 1, 0, none⟩ (.slice none 0 0)).setCell ⟨w.heap.size + 1 + 1 + 1, 1, none⟩ (.slice none 0 0)) := ansWalk_no (join_no2 HB.out) (((J.b).setCell (show w.heap.size ≤ w.heap.size + 1 + 1 + 1 by omega) _).setCell (show w.heap.size ≤ w.heap.size + 1 + 1 + 1 by omega) _)
   have HFZ := hid FZ
   clear FZ ra rb k00_1 k01_1 k10_1 k11_1 k20_1 k21_1 k00_2 k01_2 k10_2 k11_2 k20_2 k21_2 J
   go_wp2
   exact bodyPost_ret (v := .tuple #[.agg #[.slice none 0 0, .slice none 0 0], .bool false]) (by simp [results, Tryz.results7, go_sem, u0, u1]) rfl HFZ.out
  | true =>
   have HB := hid hb
   clear hb
   cases hc : decide (endL k = k'.1) with
   | false =>
    have HC := hid hc
    clear hc
    go_enter Tryz.func7, Tryz.ntmps7
    go_wp2_with fail
    rw [← HW.out]
    have c00 : W.cell? ⟨w.heap.size, 0, none⟩ = some (a) := J.r0.cell 0
    have c01 : W.cell? ⟨w.heap.size, 1, none⟩ = some (v) := J.r0.cell 1
    have c10 : W.cell? ⟨w.heap.size + 1, 0, none⟩ = some (.slice F fn fc) := J.r1.cell 0
    have c11 : W.cell? ⟨w.heap.size + 1, 1, none⟩ = some (.slice S sn sc) := J.r1.cell 1
    have c20 : W.cell? ⟨w.heap.size + 1 + 1, 0, none⟩ = some (.slice F' fn' fc') := J.r2.cell 0
    have c21 : W.cell? ⟨w.heap.size + 1 + 1, 1, none⟩ = some (.slice S' sn' sc') := J.r2.cell 1
    replace J := J.drew
    refine AnyT.start (S := (fun w' => w'.cell? ⟨w.heap.size, 0, none⟩ = some (a) ∧ w'.cell? ⟨w.heap.size, 1, none⟩ = some (v) ∧ w'.cell? ⟨w.heap.size + 1, 0, none⟩ = some (.slice F fn fc) ∧ w'.cell? ⟨w.heap.size + 1, 1, none⟩ = some (.slice S sn sc) ∧ w'.cell? ⟨w.heap.size + 1 + 1, 0, none⟩ = some (.slice F' fn' fc') ∧ w'.cell? ⟨w.heap.size + 1 + 1, 1, none⟩ = some (.slice S' sn' sc'))) (fun _ => false) (by kernel_rfl) ⟨c00, c01, c10, c11, c20, c21⟩ (fun hHeld => ?_)
    refine AnyT.take (i := 0) (v := ?_) rfl (by kernel_rfl) (by kernel_rfl) (by kernel_rfl) (by kernel_rfl) (fun _ _ _ h => h) (Or.inl ⟨by rfl, ?_⟩) (by assumption) ?_
    rotate_left 1
    ·(intro w0 hSw; (try dsimp only at hSw); go_simp; try with_reducible rfl)
    try simp only [Act.put, setIfInBounds_toArray, set_cons_zero, set_cons_succ, getElem_toArray, getElem_cons_zero, getElem_cons_succ]
    refine AnyT.take (i := 1) (v := ?_) rfl (by kernel_rfl) (by kernel_rfl) (by kernel_rfl) (by kernel_rfl) (fun _ _ _ h => h) (Or.inl ⟨by rfl, ?_⟩) (by assumption) ?_
    rotate_left 1
    ·(intro w0 hSw; (try dsimp only at hSw); go_simp; try with_reducible rfl)
    try simp only [Act.put, setIfInBounds_toArray, set_cons_zero, set_cons_succ, getElem_toArray, getElem_cons_zero, getElem_cons_succ]
    refine AnyT.call (i := 2) (by kernel_rfl) rfl (fun K hK => ?_)
    try simp only [Act.put, setIfInBounds_toArray, set_cons_zero, set_cons_succ, getElem_toArray, getElem_cons_zero, getElem_cons_succ]
    rw [if_pos (by rfl)]
    go_simp
    (go_at_call 26; refine (L1.out _ J).mono ?_; rintro e q1 ⟨he, bb⟩; rw [HA.out] at he; subst he; have done1 : True := trivial; replace J := J.next bb; have k00_1 : q1.cell? ⟨w.heap.size, 0, none⟩ = some (a) := J.r0.cell 0; have k01_1 : q1.cell? ⟨w.heap.size, 1, none⟩ = some (v) := J.r0.cell 1; have k10_1 : q1.cell? ⟨w.heap.size + 1, 0, none⟩ = some (.slice F fn fc) := J.r1.cell 0; have k11_1 : q1.cell? ⟨w.heap.size + 1, 1, none⟩ = some (.slice S sn sc) := J.r1.cell 1; have k20_1 : q1.cell? ⟨w.heap.size + 1 + 1, 0, none⟩ = some (.slice F' fn' fc') := J.r2.cell 0; have k21_1 : q1.cell? ⟨w.heap.size + 1 + 1, 1, none⟩ = some (.slice S' sn' sc') := J.r2.cell 1; clear bb; go_wp2_with fail)
    refine hK.out _ _ (fun _ _ => ?_) (fun hKeep => ?_)
    ·exact ⟨k00_1, k01_1, k10_1, k11_1, k20_1, k21_1⟩
    replace hHeld := hKeep (by first | rfl | trivial) hHeld
    clear hK K hKeep
    try simp only [Act.put, setIfInBounds_toArray, set_cons_zero, set_cons_succ, getElem_toArray, getElem_cons_zero, getElem_cons_succ]
    refine AnyT.takeA (i := 3) (v := ?_) rfl (by kernel_rfl) (by kernel_rfl) (by kernel_rfl) (fun _ _ _ h => h) (Or.inl ⟨by rfl, ?_⟩) ?_
    rotate_left 1
    ·(intro w0 _; go_simp; try with_reducible rfl)
    try simp only [Act.put, setIfInBounds_toArray, set_cons_zero, set_cons_succ, getElem_toArray, getElem_cons_zero, getElem_cons_succ]
    refine AnyT.takeA (i := 4) (v := ?_) rfl (by kernel_rfl) (by kernel_rfl) (by kernel_rfl) (fun _ _ _ h => h) (Or.inl ⟨by rfl, ?_⟩) ?_
    rotate_left 1
    ·(intro w0 _; go_simp; try with_reducible rfl)
    try simp only [Act.put, setIfInBounds_toArray, set_cons_zero, set_cons_succ, getElem_toArray, getElem_cons_zero, getElem_cons_succ]
    refine AnyT.take (i := 5) (v := ?_) rfl (by kernel_rfl) (by kernel_rfl) (by kernel_rfl) (by kernel_rfl) (fun _ _ _ h => h) (Or.inl ⟨by rfl, ?_⟩) (by assumption) ?_
    rotate_left 1
    ·(intro w0 hSw; (try dsimp only at hSw); go_simp; try with_reducible rfl)
    try simp only [Act.put, setIfInBounds_toArray, set_cons_zero, set_cons_succ, getElem_toArray, getElem_cons_zero, getElem_cons_succ]
    refine AnyT.take (i := 6) (v := ?_) rfl (by kernel_rfl) (by kernel_rfl) (by kernel_rfl) (by kernel_rfl) (fun _ _ _ h => h) (Or.inl ⟨by rfl, ?_⟩) (by assumption) ?_
    rotate_left 1
    ·(intro w0 hSw; (try dsimp only at hSw); go_simp; try with_reducible rfl)
    try simp only [Act.put, setIfInBounds_toArray, set_cons_zero, set_cons_succ, getElem_toArray, getElem_cons_zero, getElem_cons_succ]
    refine AnyT.call (i := 7) (by kernel_rfl) rfl (fun K hK => ?_)
    try simp only [Act.put, setIfInBounds_toArray, set_cons_zero, set_cons_succ, getElem_toArray, getElem_cons_zero, getElem_cons_succ]
    rw [if_pos (by rfl)]
    go_simp
    (have := done1; go_at_call 26; refine (L2.out _ J).mono ?_; rintro e q2 ⟨he, bb⟩; rw [HB.out] at he; subst he; replace J := J.next bb; have k00_2 : q2.cell? ⟨w.heap.size, 0, none⟩ = some (a) := J.r0.cell 0; have k01_2 : q2.cell? ⟨w.heap.size, 1, none⟩ = some (v) := J.r0.cell 1; have k10_2 : q2.cell? ⟨w.heap.size + 1, 0, none⟩ = some (.slice F fn fc) := J.r1.cell 0; have k11_2 : q2.cell? ⟨w.heap.size + 1, 1, none⟩ = some (.slice S sn sc) := J.r1.cell 1; have k20_2 : q2.cell? ⟨w.heap.size + 1 + 1, 0, none⟩ = some (.slice F' fn' fc') := J.r2.cell 0; have k21_2 : q2.cell? ⟨w.heap.size + 1 + 1, 1, none⟩ = some (.slice S' sn' sc') := J.r2.cell 1; clear bb; go_wp2_with fail)
    refine hK.out _ _ (fun _ _ => ?_) (fun hKeep => ?_)
    ·exact ⟨k00_2, k01_2, k10_2, k11_2, k20_2, k21_2⟩
    replace hHeld := hKeep (by first | rfl | trivial) hHeld
    clear hK K hKeep
    try simp only [Act.put, setIfInBounds_toArray, set_cons_zero, set_cons_succ, getElem_toArray, getElem_cons_zero, getElem_cons_succ]
    refine AnyT.takeA (i := 8) (v := ?_) rfl (by kernel_rfl) (by kernel_rfl) (by kernel_rfl) (fun _ _ _ h => h) (Or.inl ⟨by rfl, ?_⟩) ?_
    rotate_left 1
    ·(intro w0 _; go_simp; try with_reducible rfl)
    try simp only [Act.put, setIfInBounds_toArray, set_cons_zero, set_cons_succ, getElem_toArray, getElem_cons_zero, getElem_cons_succ]
    refine AnyT.takeA (i := 9) (v := ?_) rfl (by kernel_rfl) (by kernel_rfl) (by kernel_rfl) (fun _ _ _ h => h) (Or.inl ⟨by rfl, ?_⟩) ?_
    rotate_left 1
    ·(intro w0 _; go_simp; try with_reducible rfl)
    try simp only [Act.put, setIfInBounds_toArray, set_cons_zero, set_cons_succ, getElem_toArray, getElem_cons_zero, getElem_cons_succ]
    refine AnyT.takeA (i := 10) (v := ?_) rfl (by kernel_rfl) (by kernel_rfl) (by kernel_rfl) (fun _ _ _ h => h) (Or.inl ⟨by rfl, ?_⟩) ?_
    rotate_left 1
    ·(intro w0 _; go_simp; try with_reducible rfl)
    try simp only [Act.put, setIfInBounds_toArray, set_cons_zero, set_cons_succ, getElem_toArray, getElem_cons_zero, getElem_cons_succ]
    refine AnyT.take (i := 11) (v := ?_) rfl (by kernel_rfl) (by kernel_rfl) (by kernel_rfl) (by kernel_rfl) (fun _ _ _ h => h) (Or.inl ⟨by rfl, ?_⟩) (by assumption) ?_
    rotate_left 1
    ·(intro w0 hSw; (try dsimp only at hSw); go_simp; try with_reducible rfl)
    try simp only [Act.put, setIfInBounds_toArray, set_cons_zero, set_cons_succ, getElem_toArray, getElem_cons_zero, getElem_cons_succ]
    refine AnyT.takeA (i := 13) (v := ?_) rfl (by kernel_rfl) (by kernel_rfl) (by kernel_rfl) (fun _ _ _ h => h) (Or.inl ⟨by rfl, ?_⟩) ?_
    rotate_left 1
    ·(intro w0 _; go_simp; try with_reducible rfl)
    try simp only [Act.put, setIfInBounds_toArray, set_cons_zero, set_cons_succ, getElem_toArray, getElem_cons_zero, getElem_cons_succ]
    refine AnyT.take (i := 14) (v := ?_) rfl (by kernel_rfl) (by kernel_rfl) (by kernel_rfl) (by kernel_rfl) (fun _ _ _ h => h) (Or.inl ⟨by rfl, ?_⟩) (by assumption) ?_
    rotate_left 1
    ·(intro w0 hSw; (try dsimp only at hSw); go_simp; try with_reducible rfl)
    try simp only [Act.put, setIfInBounds_toArray, set_cons_zero, set_cons_succ, getElem_toArray, getElem_cons_zero, getElem_cons_succ]
    refine AnyT.call (i := 12) (by kernel_rfl) rfl (fun K hK => ?_)
    try simp only [Act.put, setIfInBounds_toArray, set_cons_zero, set_cons_succ, getElem_toArray, getElem_cons_zero, getElem_cons_succ]
    rw [if_pos (by rfl)]
    go_simp
    (go_at_call 28; refine (L3.out _ J).mono ?_; rintro e q3 ⟨X, xn, xc, rfl, oX, bb⟩; have hX := hid oX; replace J := J.next bb; have k00_3 : q3.cell? ⟨w.heap.size, 0, none⟩ = some (a) := J.r0.cell 0; have k01_3 : q3.cell? ⟨w.heap.size, 1, none⟩ = some (v) := J.r0.cell 1; have k10_3 : q3.cell? ⟨w.heap.size + 1, 0, none⟩ = some (.slice F fn fc) := J.r1.cell 0; have k11_3 : q3.cell? ⟨w.heap.size + 1, 1, none⟩ = some (.slice S sn sc) := J.r1.cell 1; have k20_3 : q3.cell? ⟨w.heap.size + 1 + 1, 0, none⟩ = some (.slice F' fn' fc') := J.r2.cell 0; have k21_3 : q3.cell? ⟨w.heap.size + 1 + 1, 1, none⟩ = some (.slice S' sn' sc') := J.r2.cell 1; clear bb; go_wp2_with fail)
    refine hK.out _ _ (fun _ _ => ?_) (fun hKeep => ?_)
    ·exact ⟨k00_3, k01_3, k10_3, k11_3, k20_3, k21_3⟩
    replace hHeld := hKeep (by first | rfl | trivial) hHeld
    clear hK K hKeep
    try simp only [Act.put, setIfInBounds_toArray, set_cons_zero, set_cons_succ, getElem_toArray, getElem_cons_zero, getElem_cons_succ]
    refine AnyT.call (i := 15) (by kernel_rfl) rfl (fun K hK => ?_)
    try simp only [Act.put, setIfInBounds_toArray, set_cons_zero, set_cons_succ, getElem_toArray, getElem_cons_zero, getElem_cons_succ]
    rw [if_pos (by rfl)]
    go_simp
    (go_at_call 27; refine (L4.out _ J X xn xc oX).mono ?_; rintro e q4 ⟨he, bb⟩; rw [HC.out] at he; subst he; replace J := J.next bb; have k00_4 : q4.cell? ⟨w.heap.size, 0, none⟩ = some (a) := J.r0.cell 0; have k01_4 : q4.cell? ⟨w.heap.size, 1, none⟩ = some (v) := J.r0.cell 1; have k10_4 : q4.cell? ⟨w.heap.size + 1, 0, none⟩ = some (.slice F fn fc) := J.r1.cell 0; have k11_4 : q4.cell? ⟨w.heap.size + 1, 1, none⟩ = some (.slice S sn sc) := J.r1.cell 1; have k20_4 : q4.cell? ⟨w.heap.size + 1 + 1, 0, none⟩ = some (.slice F' fn' fc') := J.r2.cell 0; have k21_4 : q4.cell? ⟨w.heap.size + 1 + 1, 1, none⟩ = some (.slice S' sn' sc') := J.r2.cell 1; clear bb; go_wp2_with fail)
    refine hK.out _ _ (fun _ _ => ?_) (fun hKeep => ?_)
    ·exact ⟨k00_4, k01_4, k10_4, k11_4, k20_4, k21_4⟩
    replace hHeld := hKeep (by first | rfl | trivial) hHeld
    clear hK K hKeep
    try simp only [Act.put, setIfInBounds_toArray, set_cons_zero, set_cons_succ, getElem_toArray, getElem_cons_zero, getElem_cons_succ]
    refine AnyT.takeA (i := 16) (v := ?_) rfl (by kernel_rfl) (by kernel_rfl) (by kernel_rfl) (fun _ _ _ h => h) (Or.inl ⟨by rfl, ?_⟩) ?_
    rotate_left 1
    ·(intro w0 _; go_simp; try with_reducible rfl)
    try simp only [Act.put, setIfInBounds_toArray, set_cons_zero, set_cons_succ, getElem_toArray, getElem_cons_zero, getElem_cons_succ]
    refine AnyT.takeA (i := 17) (v := ?_) rfl (by kernel_rfl) (by kernel_rfl) (by kernel_rfl) (fun _ _ _ h => h) (Or.inl ⟨by rfl, ?_⟩) ?_
    rotate_left 1
    ·(intro w0 _; go_simp; try with_reducible rfl)
    try simp only [Act.put, setIfInBounds_toArray, set_cons_zero, set_cons_succ, getElem_toArray, getElem_cons_zero, getElem_cons_succ]
    refine AnyT.takeA (i := 18) (v := ?_) rfl (by kernel_rfl) (by kernel_rfl) (by kernel_rfl) (fun _ _ _ h => h) (Or.inl ⟨by rfl, ?_⟩) ?_
    rotate_left 1
    ·(intro w0 _; go_simp; try with_reducible rfl)
    try simp only [Act.put, setIfInBounds_toArray, set_cons_zero, set_cons_succ, getElem_toArray, getElem_cons_zero, getElem_cons_succ]
    refine AnyT.takeA (i := 19) (v := undef) rfl (by kernel_rfl) (by kernel_rfl) (by kernel_rfl) (fun _ _ _ h => h) (Or.inr ⟨by rfl, rfl⟩) ?_
    try simp only [Act.put, setIfInBounds_toArray, set_cons_zero, set_cons_succ, getElem_toArray, getElem_cons_zero, getElem_cons_succ]
    refine AnyT.takeA (i := 20) (v := undef) rfl (by kernel_rfl) (by kernel_rfl) (by kernel_rfl) (fun _ _ _ h => h) (Or.inr ⟨by rfl, rfl⟩) ?_
    try simp only [Act.put, setIfInBounds_toArray, set_cons_zero, set_cons_succ, getElem_toArray, getElem_cons_zero, getElem_cons_succ]
    refine AnyT.takeA (i := 21) (v := undef) rfl (by kernel_rfl) (by kernel_rfl) (by kernel_rfl) (fun _ _ _ h => h) (Or.inr ⟨by rfl, rfl⟩) ?_
    try simp only [Act.put, setIfInBounds_toArray, set_cons_zero, set_cons_succ, getElem_toArray, getElem_cons_zero, getElem_cons_succ]
    refine AnyT.takeA (i := 22) (v := undef) rfl (by kernel_rfl) (by kernel_rfl) (by kernel_rfl) (fun _ _ _ h => h) (Or.inr ⟨by rfl, rfl⟩) ?_
    try simp only [Act.put, setIfInBounds_toArray, set_cons_zero, set_cons_succ, getElem_toArray, getElem_cons_zero, getElem_cons_succ]
    refine AnyT.takeA (i := 23) (v := undef) rfl (by kernel_rfl) (by kernel_rfl) (by kernel_rfl) (fun _ _ _ h => h) (Or.inr ⟨by rfl, rfl⟩) ?_
    try simp only [Act.put, setIfInBounds_toArray, set_cons_zero, set_cons_succ, getElem_toArray, getElem_cons_zero, getElem_cons_succ]
    refine AnyT.takeA (i := 24) (v := undef) rfl (by kernel_rfl) (by kernel_rfl) (by kernel_rfl) (fun _ _ _ h => h) (Or.inr ⟨by rfl, rfl⟩) ?_
    try simp only [Act.put, setIfInBounds_toArray, set_cons_zero, set_cons_succ, getElem_toArray, getElem_cons_zero, getElem_cons_succ]
    refine AnyT.takeA (i := 25) (v := undef) rfl (by kernel_rfl) (by kernel_rfl) (by kernel_rfl) (fun _ _ _ h => h) (Or.inr ⟨by rfl, rfl⟩) ?_
    try simp only [Act.put, setIfInBounds_toArray, set_cons_zero, set_cons_succ, getElem_toArray, getElem_cons_zero, getElem_cons_succ]
    refine AnyT.takeA (i := 26) (v := undef) rfl (by kernel_rfl) (by kernel_rfl) (by kernel_rfl) (fun _ _ _ h => h) (Or.inr ⟨by rfl, rfl⟩) ?_
    try simp only [Act.put, setIfInBounds_toArray, set_cons_zero, set_cons_succ, getElem_toArray, getElem_cons_zero, getElem_cons_succ]
    refine AnyT.takeA (i := 27) (v := ?_) rfl (by kernel_rfl) (by kernel_rfl) (by kernel_rfl) (fun _ _ _ h => h) (Or.inl ⟨by rfl, ?_⟩) ?_
    rotate_left 1
    ·(intro w0 _; go_simp; try with_reducible rfl)
    try simp only [Act.put, setIfInBounds_toArray, set_cons_zero, set_cons_succ, getElem_toArray, getElem_cons_zero, getElem_cons_succ]
    refine AnyT.done (by kernel_rfl) ?_ _
    clear c00 c01 c10 c11 c20 c21
    have y0 : q4.cell? ⟨w.heap.size + 1 + 1 + 1, 0, none⟩ = some (.slice none 0 0) := J.r3.cell 0
    have y1 : q4.cell? ⟨w.heap.size + 1 + 1 + 1, 1, none⟩ = some (.slice none 0 0) := J.r3.cell 1
    have g0 := J.r3.free 0
    have g1 := J.r3.free 1
    have ra := J.r3.put 0 (.slice none 0 0)
    have y2 : (q4.setCell ⟨w.heap.size + 1 + 1 + 1, 0, none⟩ (.slice none 0 0)).cell? ⟨w.heap.size + 1 + 1 + 1, 1, none⟩ = some (.slice none 0 0) := ra.cell 1
    have g2 := ra.free 1
    have rb := ra.put 1 (.slice none 0 0)
    have u0 : ((q4.setCell ⟨w.heap.size + 1 + 1 + 1, 0, none⟩ (.slice none 0 0)).setCell ⟨w.heap.size + 1 + 1 + 1, 1, none⟩ (.slice none 0 0)).cell? ⟨w.heap.size + 1 + 1 + 1, 0, none⟩ = some (.slice none 0 0) := rb.cell 0
    have u1 : ((q4.setCell ⟨w.heap.size + 1 + 1 + 1, 0, none⟩ (.slice none 0 0)).setCell ⟨w.heap.size + 1 + 1 + 1, 1, none⟩ (.slice none 0 0)).cell? ⟨w.heap.size + 1 + 1 + 1, 1, none⟩ = some (.slice none 0 0) := rb.cell 1
    have FZ : AnsWalk w (joinW d.1 d.2 k k') (joinB d.1 d.2 k k') (.returned (.tuple #[.agg #[.slice none 0 0, .slice none 0 0], .bool false])) ((q4.setCell ⟨w.heap.size + 1 + 1 + 1, 0, none⟩ (.slice none 0 0)).setCell ⟨w.heap.size + 1 + 1 + 1, 1, none⟩ (.slice none 0 0)) := ansWalk_no (join_no3 HC.out) (((J.b).setCell (show w.heap.size ≤ w.heap.size + 1 + 1 + 1 by omega) _).setCell (show w.heap.size ≤ w.heap.size + 1 + 1 + 1 by omega) _)
    have HFZ := hid FZ
    clear FZ ra rb k00_1 k01_1 k10_1 k11_1 k20_1 k21_1 k00_2 k01_2 k10_2 k11_2 k20_2 k21_2 k00_3 k01_3 k10_3 k11_3 k20_3 k21_3 k00_4 k01_4 k10_4 k11_4 k20_4 k21_4 J
    go_wp2
    exact bodyPost_ret (v := .tuple #[.agg #[.slice none 0 0, .slice none 0 0], .bool false]) (by simp [results, Tryz.results7, go_sem, u0, u1]) rfl HFZ.out
   | true =>
    have HC := hid hc
    clear hc
    have hwr : IntKind.i64.wrap ((sn : Int) + (sn' : Int)) = (sn : Int) + (sn' : Int) := by rw [IntKind.wrap_i64]; omega
    by_cases hlen : sn + sn' ≤ 60
    ·have HLEN := hid (show k.2.length + k'.2.length ≤ 60 by rw [HL1.out, HL2.out]; exact hlen)
     have hle : ¬ (60 : Int) < (sn : Int) + (sn' : Int) := by omega
     clear hlen
     go_enter Tryz.func7, Tryz.ntmps7
     go_wp2_with fail
     rw [← HW.out]
     have c00 : W.cell? ⟨w.heap.size, 0, none⟩ = some (a) := J.r0.cell 0
     have c01 : W.cell? ⟨w.heap.size, 1, none⟩ = some (v) := J.r0.cell 1
     have c10 : W.cell? ⟨w.heap.size + 1, 0, none⟩ = some (.slice F fn fc) := J.r1.cell 0
     have c11 : W.cell? ⟨w.heap.size + 1, 1, none⟩ = some (.slice S sn sc) := J.r1.cell 1
     have c20 : W.cell? ⟨w.heap.size + 1 + 1, 0, none⟩ = some (.slice F' fn' fc') := J.r2.cell 0
     have c21 : W.cell? ⟨w.heap.size + 1 + 1, 1, none⟩ = some (.slice S' sn' sc') := J.r2.cell 1
     replace J := J.drew
     refine AnyT.start (S := (fun w' => w'.cell? ⟨w.heap.size, 0, none⟩ = some (a) ∧ w'.cell? ⟨w.heap.size, 1, none⟩ = some (v) ∧ w'.cell? ⟨w.heap.size + 1, 0, none⟩ = some (.slice F fn fc) ∧ w'.cell? ⟨w.heap.size + 1, 1, none⟩ = some (.slice S sn sc) ∧ w'.cell? ⟨w.heap.size + 1 + 1, 0, none⟩ = some (.slice F' fn' fc') ∧ w'.cell? ⟨w.heap.size + 1 + 1, 1, none⟩ = some (.slice S' sn' sc'))) (fun _ => false) (by kernel_rfl) ⟨c00, c01, c10, c11, c20, c21⟩ (fun hHeld => ?_)
     refine AnyT.take (i := 0) (v := ?_) rfl (by kernel_rfl) (by kernel_rfl) (by kernel_rfl) (by kernel_rfl) (fun _ _ _ h => h) (Or.inl ⟨by rfl, ?_⟩) (by assumption) ?_
     rotate_left 1
     ·(intro w0 hSw; (try dsimp only at hSw); go_simp; try with_reducible rfl)
     try simp only [Act.put, setIfInBounds_toArray, set_cons_zero, set_cons_succ, getElem_toArray, getElem_cons_zero, getElem_cons_succ]
     refine AnyT.take (i := 1) (v := ?_) rfl (by kernel_rfl) (by kernel_rfl) (by kernel_rfl) (by kernel_rfl) (fun _ _ _ h => h) (Or.inl ⟨by rfl, ?_⟩) (by assumption) ?_
     rotate_left 1
     ·(intro w0 hSw; (try dsimp only at hSw); go_simp; try with_reducible rfl)
     try simp only [Act.put, setIfInBounds_toArray, set_cons_zero, set_cons_succ, getElem_toArray, getElem_cons_zero, getElem_cons_succ]
     refine AnyT.call (i := 2) (by kernel_rfl) rfl (fun K hK => ?_)
     try simp only [Act.put, setIfInBounds_toArray, set_cons_zero, set_cons_succ, getElem_toArray, getElem_cons_zero, getElem_cons_succ]
     rw [if_pos (by rfl)]
     go_simp
     (go_at_call 26; refine (L1.out _ J).mono ?_; rintro e q1 ⟨he, bb⟩; rw [HA.out] at he; subst he; have done1 : True := trivial; replace J := J.next bb; have k00_1 : q1.cell? ⟨w.heap.size, 0, none⟩ = some (a) := J.r0.cell 0; have k01_1 : q1.cell? ⟨w.heap.size, 1, none⟩ = some (v) := J.r0.cell 1; have k10_1 : q1.cell? ⟨w.heap.size + 1, 0, none⟩ = some (.slice F fn fc) := J.r1.cell 0; have k11_1 : q1.cell? ⟨w.heap.size + 1, 1, none⟩ = some (.slice S sn sc) := J.r1.cell 1; have k20_1 : q1.cell? ⟨w.heap.size + 1 + 1, 0, none⟩ = some (.slice F' fn' fc') := J.r2.cell 0; have k21_1 : q1.cell? ⟨w.heap.size + 1 + 1, 1, none⟩ = some (.slice S' sn' sc') := J.r2.cell 1; clear bb; go_wp2_with fail)
     refine hK.out _ _ (fun _ _ => ?_) (fun hKeep => ?_)
     ·exact ⟨k00_1, k01_1, k10_1, k11_1, k20_1, k21_1⟩
     replace hHeld := hKeep (by first | rfl | trivial) hHeld
     clear hK K hKeep
     try simp only [Act.put, setIfInBounds_toArray, set_cons_zero, set_cons_succ, getElem_toArray, getElem_cons_zero, getElem_cons_succ]
     refine AnyT.takeA (i := 3) (v := ?_) rfl (by kernel_rfl) (by kernel_rfl) (by kernel_rfl) (fun _ _ _ h => h) (Or.inl ⟨by rfl, ?_⟩) ?_
     rotate_left 1
     ·(intro w0 _; go_simp; try with_reducible rfl)
     try simp only [Act.put, setIfInBounds_toArray, set_cons_zero, set_cons_succ, getElem_toArray, getElem_cons_zero, getElem_cons_succ]
     refine AnyT.takeA (i := 4) (v := ?_) rfl (by kernel_rfl) (by kernel_rfl) (by kernel_rfl) (fun _ _ _ h => h) (Or.inl ⟨by rfl, ?_⟩) ?_
     rotate_left 1
     ·(intro w0 _; go_simp; try with_reducible rfl)
     try simp only [Act.put, setIfInBounds_toArray, set_cons_zero, set_cons_succ, getElem_toArray, getElem_cons_zero, getElem_cons_succ]
     refine AnyT.take (i := 5) (v := ?_) rfl (by kernel_rfl) (by kernel_rfl) (by kernel_rfl) (by kernel_rfl) (fun _ _ _ h => h) (Or.inl ⟨by rfl, ?_⟩) (by assumption) ?_
     rotate_left 1
     ·(intro w0 hSw; (try dsimp only at hSw); go_simp; try with_reducible rfl)
     try simp only [Act.put, setIfInBounds_toArray, set_cons_zero, set_cons_succ, getElem_toArray, getElem_cons_zero, getElem_cons_succ]
     refine AnyT.take (i := 6) (v := ?_) rfl (by kernel_rfl) (by kernel_rfl) (by kernel_rfl) (by kernel_rfl) (fun _ _ _ h => h) (Or.inl ⟨by rfl, ?_⟩) (by assumption) ?_
     rotate_left 1
     ·(intro w0 hSw; (try dsimp only at hSw); go_simp; try with_reducible rfl)
     try simp only [Act.put, setIfInBounds_toArray, set_cons_zero, set_cons_succ, getElem_toArray, getElem_cons_zero, getElem_cons_succ]
     refine AnyT.call (i := 7) (by kernel_rfl) rfl (fun K hK => ?_)
     try simp only [Act.put, setIfInBounds_toArray, set_cons_zero, set_cons_succ, getElem_toArray, getElem_cons_zero, getElem_cons_succ]
     rw [if_pos (by rfl)]
     go_simp
     (have := done1; go_at_call 26; refine (L2.out _ J).mono ?_; rintro e q2 ⟨he, bb⟩; rw [HB.out] at he; subst he; replace J := J.next bb; have k00_2 : q2.cell? ⟨w.heap.size, 0, none⟩ = some (a) := J.r0.cell 0; have k01_2 : q2.cell? ⟨w.heap.size, 1, none⟩ = some (v) := J.r0.cell 1; have k10_2 : q2.cell? ⟨w.heap.size + 1, 0, none⟩ = some (.slice F fn fc) := J.r1.cell 0; have k11_2 : q2.cell? ⟨w.heap.size + 1, 1, none⟩ = some (.slice S sn sc) := J.r1.cell 1; have k20_2 : q2.cell? ⟨w.heap.size + 1 + 1, 0, none⟩ = some (.slice F' fn' fc') := J.r2.cell 0; have k21_2 : q2.cell? ⟨w.heap.size + 1 + 1, 1, none⟩ = some (.slice S' sn' sc') := J.r2.cell 1; clear bb; go_wp2_with fail)
     refine hK.out _ _ (fun _ _ => ?_) (fun hKeep => ?_)
     ·exact ⟨k00_2, k01_2, k10_2, k11_2, k20_2, k21_2⟩
     replace hHeld := hKeep (by first | rfl | trivial) hHeld
     clear hK K hKeep
     try simp only [Act.put, setIfInBounds_toArray, set_cons_zero, set_cons_succ, getElem_toArray, getElem_cons_zero, getElem_cons_succ]
     refine AnyT.takeA (i := 8) (v := ?_) rfl (by kernel_rfl) (by kernel_rfl) (by kernel_rfl) (fun _ _ _ h => h) (Or.inl ⟨by rfl, ?_⟩) ?_
     rotate_left 1
     ·(intro w0 _; go_simp; try with_reducible rfl)
     try simp only [Act.put, setIfInBounds_toArray, set_cons_zero, set_cons_succ, getElem_toArray, getElem_cons_zero, getElem_cons_succ]
     refine AnyT.takeA (i := 9) (v := ?_) rfl (by kernel_rfl) (by kernel_rfl) (by kernel_rfl) (fun _ _ _ h => h) (Or.inl ⟨by rfl, ?_⟩) ?_
     rotate_left 1
     ·(intro w0 _; go_simp; try with_reducible rfl)
     try simp only [Act.put, setIfInBounds_toArray, set_cons_zero, set_cons_succ, getElem_toArray, getElem_cons_zero, getElem_cons_succ]
     refine AnyT.takeA (i := 10) (v := ?_) rfl (by kernel_rfl) (by kernel_rfl) (by kernel_rfl) (fun _ _ _ h => h) (Or.inl ⟨by rfl, ?_⟩) ?_
     rotate_left 1
     ·(intro w0 _; go_simp; try with_reducible rfl)
     try simp only [Act.put, setIfInBounds_toArray, set_cons_zero, set_cons_succ, getElem_toArray, getElem_cons_zero, getElem_cons_succ]
     refine AnyT.take (i := 11) (v := ?_) rfl (by kernel_rfl) (by kernel_rfl) (by kernel_rfl) (by kernel_rfl) (fun _ _ _ h => h) (Or.inl ⟨by rfl, ?_⟩) (by assumption) ?_
     rotate_left 1
     ·(intro w0 hSw; (try dsimp only at hSw); go_simp; try with_reducible rfl)
     try simp only [Act.put, setIfInBounds_toArray, set_cons_zero, set_cons_succ, getElem_toArray, getElem_cons_zero, getElem_cons_succ]
     refine AnyT.takeA (i := 13) (v := ?_) rfl (by kernel_rfl) (by kernel_rfl) (by kernel_rfl) (fun _ _ _ h => h) (Or.inl ⟨by rfl, ?_⟩) ?_
     rotate_left 1
     ·(intro w0 _; go_simp; try with_reducible rfl)
     try simp only [Act.put, setIfInBounds_toArray, set_cons_zero, set_cons_succ, getElem_toArray, getElem_cons_zero, getElem_cons_succ]
     refine AnyT.take (i := 14) (v := ?_) rfl (by kernel_rfl) (by kernel_rfl) (by kernel_rfl) (by kernel_rfl) (fun _ _ _ h => h) (Or.inl ⟨by rfl, ?_⟩) (by assumption) ?_
     rotate_left 1
     ·(intro w0 hSw; (try dsimp only at hSw); go_simp; try with_reducible rfl)
     try simp only [Act.put, setIfInBounds_toArray, set_cons_zero, set_cons_succ, getElem_toArray, getElem_cons_zero, getElem_cons_succ]
     refine AnyT.call (i := 12) (by kernel_rfl) rfl (fun K hK => ?_)
     try simp only [Act.put, setIfInBounds_toArray, set_cons_zero, set_cons_succ, getElem_toArray, getElem_cons_zero, getElem_cons_succ]
     rw [if_pos (by rfl)]
     go_simp
     (go_at_call 28; refine (L3.out _ J).mono ?_; rintro e q3 ⟨X, xn, xc, rfl, oX, bb⟩; have hX := hid oX; replace J := J.next bb; have k00_3 : q3.cell? ⟨w.heap.size, 0, none⟩ = some (a) := J.r0.cell 0; have k01_3 : q3.cell? ⟨w.heap.size, 1, none⟩ = some (v) := J.r0.cell 1; have k10_3 : q3.cell? ⟨w.heap.size + 1, 0, none⟩ = some (.slice F fn fc) := J.r1.cell 0; have k11_3 : q3.cell? ⟨w.heap.size + 1, 1, none⟩ = some (.slice S sn sc) := J.r1.cell 1; have k20_3 : q3.cell? ⟨w.heap.size + 1 + 1, 0, none⟩ = some (.slice F' fn' fc') := J.r2.cell 0; have k21_3 : q3.cell? ⟨w.heap.size + 1 + 1, 1, none⟩ = some (.slice S' sn' sc') := J.r2.cell 1; clear bb; go_wp2_with fail)
     refine hK.out _ _ (fun _ _ => ?_) (fun hKeep => ?_)
     ·exact ⟨k00_3, k01_3, k10_3, k11_3, k20_3, k21_3⟩
     replace hHeld := hKeep (by first | rfl | trivial) hHeld
     clear hK K hKeep
     try simp only [Act.put, setIfInBounds_toArray, set_cons_zero, set_cons_succ, getElem_toArray, getElem_cons_zero, getElem_cons_succ]
     refine AnyT.call (i := 15) (by kernel_rfl) rfl (fun K hK => ?_)
     try simp only [Act.put, setIfInBounds_toArray, set_cons_zero, set_cons_succ, getElem_toArray, getElem_cons_zero, getElem_cons_succ]
     rw [if_pos (by rfl)]
     go_simp
     (go_at_call 27; refine (L4.out _ J X xn xc oX).mono ?_; rintro e q4 ⟨he, bb⟩; rw [HC.out] at he; subst he; replace J := J.next bb; have k00_4 : q4.cell? ⟨w.heap.size, 0, none⟩ = some (a) := J.r0.cell 0; have k01_4 : q4.cell? ⟨w.heap.size, 1, none⟩ = some (v) := J.r0.cell 1; have k10_4 : q4.cell? ⟨w.heap.size + 1, 0, none⟩ = some (.slice F fn fc) := J.r1.cell 0; have k11_4 : q4.cell? ⟨w.heap.size + 1, 1, none⟩ = some (.slice S sn sc) := J.r1.cell 1; have k20_4 : q4.cell? ⟨w.heap.size + 1 + 1, 0, none⟩ = some (.slice F' fn' fc') := J.r2.cell 0; have k21_4 : q4.cell? ⟨w.heap.size + 1 + 1, 1, none⟩ = some (.slice S' sn' sc') := J.r2.cell 1; clear bb; go_wp2_with fail)
     refine hK.out _ _ (fun _ _ => ?_) (fun hKeep => ?_)
     ·exact ⟨k00_4, k01_4, k10_4, k11_4, k20_4, k21_4⟩
     replace hHeld := hKeep (by first | rfl | trivial) hHeld
     clear hK K hKeep
     try simp only [Act.put, setIfInBounds_toArray, set_cons_zero, set_cons_succ, getElem_toArray, getElem_cons_zero, getElem_cons_succ]
     refine AnyT.takeA (i := 16) (v := ?_) rfl (by kernel_rfl) (by kernel_rfl) (by kernel_rfl) (fun _ _ _ h => h) (Or.inl ⟨by rfl, ?_⟩) ?_
     rotate_left 1
     ·(intro w0 _; go_simp; try with_reducible rfl)
     try simp only [Act.put, setIfInBounds_toArray, set_cons_zero, set_cons_succ, getElem_toArray, getElem_cons_zero, getElem_cons_succ]
     refine AnyT.takeA (i := 17) (v := ?_) rfl (by kernel_rfl) (by kernel_rfl) (by kernel_rfl) (fun _ _ _ h => h) (Or.inl ⟨by rfl, ?_⟩) ?_
     rotate_left 1
     ·(intro w0 _; go_simp; try with_reducible rfl)
     try simp only [Act.put, setIfInBounds_toArray, set_cons_zero, set_cons_succ, getElem_toArray, getElem_cons_zero, getElem_cons_succ]
     refine AnyT.takeA (i := 18) (v := ?_) rfl (by kernel_rfl) (by kernel_rfl) (by kernel_rfl) (fun _ _ _ h => h) (Or.inl ⟨by rfl, ?_⟩) ?_
     rotate_left 1
     ·(intro w0 _; go_simp; try with_reducible rfl)
     try simp only [Act.put, setIfInBounds_toArray, set_cons_zero, set_cons_succ, getElem_toArray, getElem_cons_zero, getElem_cons_succ]
     refine AnyT.takeA (i := 19) (v := ?_) rfl (by kernel_rfl) (by kernel_rfl) (by kernel_rfl) (fun _ _ _ h => h) (Or.inl ⟨by rfl, ?_⟩) ?_
     rotate_left 1
     ·(intro w0 _; go_simp; try with_reducible rfl)
     try simp only [Act.put, setIfInBounds_toArray, set_cons_zero, set_cons_succ, getElem_toArray, getElem_cons_zero, getElem_cons_succ]
     refine AnyT.take (i := 20) (v := ?_) rfl (by kernel_rfl) (by kernel_rfl) (by kernel_rfl) (by kernel_rfl) (fun _ _ _ h => h) (Or.inl ⟨by rfl, ?_⟩) (by assumption) ?_
     rotate_left 1
     ·(intro w0 hSw; (try dsimp only at hSw); go_simp; try with_reducible rfl)
     try simp only [Act.put, setIfInBounds_toArray, set_cons_zero, set_cons_succ, getElem_toArray, getElem_cons_zero, getElem_cons_succ]
     refine AnyT.takeA (i := 21) (v := ?_) rfl (by kernel_rfl) (by kernel_rfl) (by kernel_rfl) (fun _ _ _ h => h) (Or.inl ⟨by rfl, ?_⟩) ?_
     rotate_left 1
     ·(intro w0 _; go_simp; try with_reducible rfl)
     try simp only [Act.put, setIfInBounds_toArray, set_cons_zero, set_cons_succ, getElem_toArray, getElem_cons_zero, getElem_cons_succ]
     refine AnyT.takeA (i := 22) (v := ?_) rfl (by kernel_rfl) (by kernel_rfl) (by kernel_rfl) (fun _ _ _ h => h) (Or.inl ⟨by rfl, ?_⟩) ?_
     rotate_left 1
     ·(intro w0 _; go_simp; try with_reducible rfl)
     try simp only [Act.put, setIfInBounds_toArray, set_cons_zero, set_cons_succ, getElem_toArray, getElem_cons_zero, getElem_cons_succ]
     refine AnyT.take (i := 23) (v := ?_) rfl (by kernel_rfl) (by kernel_rfl) (by kernel_rfl) (by kernel_rfl) (fun _ _ _ h => h) (Or.inl ⟨by rfl, ?_⟩) (by assumption) ?_
     rotate_left 1
     ·(intro w0 hSw; (try dsimp only at hSw); go_simp; try with_reducible rfl)
     try simp only [Act.put, setIfInBounds_toArray, set_cons_zero, set_cons_succ, getElem_toArray, getElem_cons_zero, getElem_cons_succ]
     refine AnyT.takeA (i := 24) (v := ?_) rfl (by kernel_rfl) (by kernel_rfl) (by kernel_rfl) (fun _ _ _ h => h) (Or.inl ⟨by rfl, ?_⟩) ?_
     rotate_left 1
     ·(intro w0 _; go_simp; try with_reducible rfl)
     try simp only [Act.put, setIfInBounds_toArray, set_cons_zero, set_cons_succ, getElem_toArray, getElem_cons_zero, getElem_cons_succ]
     refine AnyT.takeA (i := 25) (v := ?_) rfl (by kernel_rfl) (by kernel_rfl) (by kernel_rfl) (fun _ _ _ h => h) (Or.inl ⟨by rfl, ?_⟩) ?_
     rotate_left 1
     ·(intro w0 _; go_simp; try with_reducible rfl)
     try simp only [Act.put, setIfInBounds_toArray, set_cons_zero, set_cons_succ, getElem_toArray, getElem_cons_zero, getElem_cons_succ]
     refine AnyT.takeA (i := 26) (v := ?_) rfl (by kernel_rfl) (by kernel_rfl) (by kernel_rfl) (fun _ _ _ h => h) (Or.inl ⟨by rfl, ?_⟩) ?_
     rotate_left 1
     ·(intro w0 _; go_simp; try with_reducible rfl)
     try simp only [Act.put, setIfInBounds_toArray, set_cons_zero, set_cons_succ, getElem_toArray, getElem_cons_zero, getElem_cons_succ]
     refine AnyT.takeA (i := 27) (v := ?_) rfl (by kernel_rfl) (by kernel_rfl) (by kernel_rfl) (fun _ _ _ h => h) (Or.inl ⟨by rfl, ?_⟩) ?_
     rotate_left 1
     ·(intro w0 _; go_simp; try with_reducible rfl)
     try simp only [Act.put, setIfInBounds_toArray, set_cons_zero, set_cons_succ, getElem_toArray, getElem_cons_zero, getElem_cons_succ]
     refine AnyT.done (by kernel_rfl) ?_ _
     clear c00 c01 c10 c11 c20 c21
     have J0 := J
     have J0sz := J.size
     have m0 : q4.cell? ⟨w.heap.size + 1, 0, none⟩ = some (.slice F fn fc) := J.r1.cell 0
     have m1 : q4.cell? ⟨w.heap.size + 1, 1, none⟩ = some (.slice S sn sc) := J.r1.cell 1
     have m2 : q4.cell? ⟨w.heap.size + 1 + 1, 1, none⟩ = some (.slice S' sn' sc') := J.r2.cell 1
     clear k00_1 k01_1 k10_1 k11_1 k20_1 k21_1 k00_2 k01_2 k10_2 k11_2 k20_2 k21_2 k00_3 k01_3 k10_3 k11_3 k20_3 k21_3 k00_4 k01_4 k10_4 k11_4 k20_4 k21_4 J0
     replace J := J.drew
     go_upto_region 3 with fail
     refine AnyT.start (S := (fun w' => w'.cell? ⟨w.heap.size + 1, 0, none⟩ = some (.slice F fn fc) ∧ w'.cell? ⟨w.heap.size + 1, 1, none⟩ = some (.slice S sn sc) ∧ w'.cell? ⟨w.heap.size + 1 + 1, 1, none⟩ = some (.slice S' sn' sc'))) (fun _ => false) (by kernel_rfl) ⟨m0, m1, m2⟩ (fun hHeld => ?_)
     refine AnyT.takeA (i := 0) (v := ?_) rfl (by kernel_rfl) (by kernel_rfl) (by kernel_rfl) (fun _ _ _ h => h) (Or.inl ⟨by rfl, ?_⟩) ?_
     rotate_left 1
     ·(intro w0 _; go_simp; try with_reducible rfl)
     try simp only [Act.put, setIfInBounds_toArray, set_cons_zero, set_cons_succ, getElem_toArray, getElem_cons_zero, getElem_cons_succ]
     refine AnyT.take (i := 1) (v := ?_) rfl (by kernel_rfl) (by kernel_rfl) (by kernel_rfl) (by kernel_rfl) (fun _ _ _ h => h) (Or.inl ⟨by rfl, ?_⟩) (by assumption) ?_
     rotate_left 1
     ·(intro w0 hSw; (try dsimp only at hSw); go_simp; try with_reducible rfl)
     try simp only [Act.put, setIfInBounds_toArray, set_cons_zero, set_cons_succ, getElem_toArray, getElem_cons_zero, getElem_cons_succ]
     refine AnyT.takeA (i := 3) (v := ?_) rfl (by kernel_rfl) (by kernel_rfl) (by kernel_rfl) (fun _ _ _ h => h) (Or.inl ⟨by rfl, ?_⟩) ?_
     rotate_left 1
     ·(intro w0 _; go_simp; try with_reducible rfl)
     try simp only [Act.put, setIfInBounds_toArray, set_cons_zero, set_cons_succ, getElem_toArray, getElem_cons_zero, getElem_cons_succ]
     refine AnyT.take (i := 4) (v := ?_) rfl (by kernel_rfl) (by kernel_rfl) (by kernel_rfl) (by kernel_rfl) (fun _ _ _ h => h) (Or.inl ⟨by rfl, ?_⟩) (by assumption) ?_
     rotate_left 1
     ·(intro w0 hSw; (try dsimp only at hSw); go_simp; try with_reducible rfl)
     try simp only [Act.put, setIfInBounds_toArray, set_cons_zero, set_cons_succ, getElem_toArray, getElem_cons_zero, getElem_cons_succ]
     refine AnyT.takeA (i := 6) (v := ?_) rfl (by kernel_rfl) (by kernel_rfl) (by kernel_rfl) (fun _ _ _ h => h) (Or.inl ⟨by rfl, ?_⟩) ?_
     rotate_left 1
     ·(intro w0 _; go_simp; try with_reducible rfl)
     try simp only [Act.put, setIfInBounds_toArray, set_cons_zero, set_cons_succ, getElem_toArray, getElem_cons_zero, getElem_cons_succ]
     refine AnyT.take (i := 7) (v := ?_) rfl (by kernel_rfl) (by kernel_rfl) (by kernel_rfl) (by kernel_rfl) (fun _ _ _ h => h) (Or.inl ⟨by rfl, ?_⟩) (by assumption) ?_
     rotate_left 1
     ·(intro w0 hSw; (try dsimp only at hSw); go_simp; try with_reducible rfl)
     try simp only [Act.put, setIfInBounds_toArray, set_cons_zero, set_cons_succ, getElem_toArray, getElem_cons_zero, getElem_cons_succ]
     refine AnyT.call (i := 2) (by kernel_rfl) rfl (fun K hK => ?_)
     try simp only [Act.put, setIfInBounds_toArray, set_cons_zero, set_cons_succ, getElem_toArray, getElem_cons_zero, getElem_cons_succ]
     rw [if_pos (by rfl)]
     go_simp
     (go_at_call 29; refine (LF.out _ J).mono ?_; rintro e v1 ⟨X, xn, xc, rfl, oX, bb⟩; have z1 := bb.size; replace J := J.next bb; replace oX := Ownd.of_own oX; have m0_1 : v1.cell? ⟨w.heap.size + 1, 0, none⟩ = some (.slice F fn fc) := J.r1.cell 0; have m1_1 : v1.cell? ⟨w.heap.size + 1, 1, none⟩ = some (.slice S sn sc) := J.r1.cell 1; have m2_1 : v1.cell? ⟨w.heap.size + 1 + 1, 1, none⟩ = some (.slice S' sn' sc') := J.r2.cell 1; clear bb; go_wp2_with fail)
     refine hK.out _ _ (fun _ _ => ?_) (fun hKeep => ?_)
     ·exact ⟨m0_1, m1_1, m2_1⟩
     replace hHeld := hKeep (by first | rfl | trivial) hHeld
     clear hK K hKeep
     try simp only [Act.put, setIfInBounds_toArray, set_cons_zero, set_cons_succ, getElem_toArray, getElem_cons_zero, getElem_cons_succ]
     refine AnyT.call (i := 5) (by kernel_rfl) rfl (fun K hK => ?_)
     try simp only [Act.put, setIfInBounds_toArray, set_cons_zero, set_cons_succ, getElem_toArray, getElem_cons_zero, getElem_cons_succ]
     rw [if_pos (by rfl)]
     go_simp
     (go_at_call 30; refine (LS.out _ J).mono ?_; rintro e v2 ⟨g1, gc1, rfl, oL1, bb⟩; have z2 := bb.size; replace J := J.next bb; replace oX := oX.next bb; have m0_2 : v2.cell? ⟨w.heap.size + 1, 0, none⟩ = some (.slice F fn fc) := J.r1.cell 0; have m1_2 : v2.cell? ⟨w.heap.size + 1, 1, none⟩ = some (.slice S sn sc) := J.r1.cell 1; have m2_2 : v2.cell? ⟨w.heap.size + 1 + 1, 1, none⟩ = some (.slice S' sn' sc') := J.r2.cell 1; clear bb; go_wp2_with fail)
     refine hK.out _ _ (fun _ _ => ?_) (fun hKeep => ?_)
     ·exact ⟨m0_2, m1_2, m2_2⟩
     replace hHeld := hKeep (by first | rfl | trivial) hHeld
     clear hK K hKeep
     try simp only [Act.put, setIfInBounds_toArray, set_cons_zero, set_cons_succ, getElem_toArray, getElem_cons_zero, getElem_cons_succ]
     refine AnyT.call (i := 8) (by kernel_rfl) rfl (fun K hK => ?_)
     try simp only [Act.put, setIfInBounds_toArray, set_cons_zero, set_cons_succ, getElem_toArray, getElem_cons_zero, getElem_cons_succ]
     rw [if_pos (by rfl)]
     go_simp
     (go_at_call 30; refine (LT.out _ J).mono ?_; rintro e v3 ⟨g2, gc2, rfl, oL2, bb⟩; have z3 := bb.size; replace J := J.next bb; replace oX := oX.next bb; replace oL1 := oL1.next bb; have m0_3 : v3.cell? ⟨w.heap.size + 1, 0, none⟩ = some (.slice F fn fc) := J.r1.cell 0; have m1_3 : v3.cell? ⟨w.heap.size + 1, 1, none⟩ = some (.slice S sn sc) := J.r1.cell 1; have m2_3 : v3.cell? ⟨w.heap.size + 1 + 1, 1, none⟩ = some (.slice S' sn' sc') := J.r2.cell 1; clear bb; go_wp2_with fail)
     refine hK.out _ _ (fun _ _ => ?_) (fun hKeep => ?_)
     ·exact ⟨m0_3, m1_3, m2_3⟩
     replace hHeld := hKeep (by first | rfl | trivial) hHeld
     clear hK K hKeep
     try simp only [Act.put, setIfInBounds_toArray, set_cons_zero, set_cons_succ, getElem_toArray, getElem_cons_zero, getElem_cons_succ]
     have z1' : w.heap.size + 1 + 1 + 1 + 1 ≤ v1.heap.size := Nat.le_trans J0sz z1
     refine AnyT.call (i := 9) (by kernel_rfl) rfl (fun K hK => ?_)
     try simp only [Act.put, setIfInBounds_toArray, set_cons_zero, set_cons_succ, getElem_toArray, getElem_cons_zero, getElem_cons_succ]
     rw [if_pos (by rfl)]
     refine wp_appL _ _ 33 74 sStep _ _ Tryz.underlying33 info_StepS rfl (by decide) rfl v1.heap.size v2.heap.size v2.heap.size v3.heap.size (some ⟨g1, 0, none⟩) sn gc1 g2 sn' gc2 _ _ rfl oL1 rfl oL2 (Nat.le_refl _) z2 hsn hsn' (by omega) ?_
     intro A4 oc' v4 oL4 hg4 hat4 b4 hf4
     obtain ⟨O', rfl⟩ := hf4 (.inl (by simp))
     have J4 := J.below b4 z1'
     have oX4 := oX.btw (Btw.of_grown (lo := v1.heap.size) (hi := v4.heap.size) hg4 (fun q hq => by injection hq with hq; have := oL1.ge q (by rw [← hq]; rfl); have := oL4.1; have := b4.size; omega)) (.inl (Nat.le_refl _))
     refine hK.out _ _ (fun _ _ => ?_) (fun hKeep => ?_)
     ·exact ⟨J4.r1.cell 0, J4.r1.cell 1, J4.r2.cell 1⟩
     replace hHeld := hKeep (by first | rfl | trivial) hHeld
     clear hK K hKeep
     try simp only [Act.put, setIfInBounds_toArray, set_cons_zero, set_cons_succ, getElem_toArray, getElem_cons_zero, getElem_cons_succ]
     refine AnyT.takeA (i := 10) (v := ?_) rfl (by kernel_rfl) (by kernel_rfl) (by kernel_rfl) (fun _ _ _ h => h) (Or.inl ⟨by rfl, ?_⟩) ?_
     rotate_left 1
     ·(intro w0 _; go_simp; try with_reducible rfl)
     try simp only [Act.put, setIfInBounds_toArray, set_cons_zero, set_cons_succ, getElem_toArray, getElem_cons_zero, getElem_cons_succ]
     have y0 : v4.cell? ⟨w.heap.size + 1 + 1 + 1, 0, none⟩ = some (.slice none 0 0) := J4.r3.cell 0
     have y1 : v4.cell? ⟨w.heap.size + 1 + 1 + 1, 1, none⟩ = some (.slice none 0 0) := J4.r3.cell 1
     have g0 := J4.r3.free 0
     have g1 := J4.r3.free 1
     have ra := J4.r3.put 0 (.slice X xn xc)
     have y2 : (v4.setCell ⟨w.heap.size + 1 + 1 + 1, 0, none⟩ (.slice X xn xc)).cell? ⟨w.heap.size + 1 + 1 + 1, 1, none⟩ = some (.slice none 0 0) := ra.cell 1
     have g2 := ra.free 1
     have rb := ra.put 1 (.slice (some ⟨O', 0, none⟩) (sn + sn') oc')
     have u0 : ((v4.setCell ⟨w.heap.size + 1 + 1 + 1, 0, none⟩ (.slice X xn xc)).setCell ⟨w.heap.size + 1 + 1 + 1, 1, none⟩ (.slice (some ⟨O', 0, none⟩) (sn + sn') oc')).cell? ⟨w.heap.size + 1 + 1 + 1, 0, none⟩ = some (.slice X xn xc) := rb.cell 0
     have u1 : ((v4.setCell ⟨w.heap.size + 1 + 1 + 1, 0, none⟩ (.slice X xn xc)).setCell ⟨w.heap.size + 1 + 1 + 1, 1, none⟩ (.slice (some ⟨O', 0, none⟩) (sn + sn') oc')).cell? ⟨w.heap.size + 1 + 1 + 1, 1, none⟩ = some (.slice (some ⟨O', 0, none⟩) (sn + sn') oc') := rb.cell 1
     refine AnyT.call (i := 11) (by kernel_rfl) rfl (fun K hK => ?_)
     try simp only [Act.put, setIfInBounds_toArray, set_cons_zero, set_cons_succ, getElem_toArray, getElem_cons_zero, getElem_cons_succ]
     rw [if_pos (by rfl)]
     go_simp
     refine hK.out _ _ (fun _ _ => ?_) (fun hKeep => ?_)
     ·exact ⟨((J4.r1.far (show w.heap.size + 1 ≠ w.heap.size + 1 + 1 + 1 by omega) _).far (show w.heap.size + 1 ≠ w.heap.size + 1 + 1 + 1 by omega) _).cell 0, ((J4.r1.far (show w.heap.size + 1 ≠ w.heap.size + 1 + 1 + 1 by omega) _).far (show w.heap.size + 1 ≠ w.heap.size + 1 + 1 + 1 by omega) _).cell 1, ((J4.r2.far (show w.heap.size + 1 + 1 ≠ w.heap.size + 1 + 1 + 1 by omega) _).far (show w.heap.size + 1 + 1 ≠ w.heap.size + 1 + 1 + 1 by omega) _).cell 1⟩
     replace hHeld := hKeep (by first | rfl | trivial) hHeld
     clear hK K hKeep
     try simp only [Act.put, setIfInBounds_toArray, set_cons_zero, set_cons_succ, getElem_toArray, getElem_cons_zero, getElem_cons_succ]
     refine AnyT.takeA (i := 12) (v := ?_) rfl (by kernel_rfl) (by kernel_rfl) (by kernel_rfl) (fun _ _ _ h => h) (Or.inl ⟨by rfl, ?_⟩) ?_
     rotate_left 1
     ·(intro w0 _; go_simp; try with_reducible rfl)
     try simp only [Act.put, setIfInBounds_toArray, set_cons_zero, set_cons_succ, getElem_toArray, getElem_cons_zero, getElem_cons_succ]
     refine AnyT.done (by kernel_rfl) ?_ _
     have HJ := hid (join_yes HA.out HB.out HC.out HLEN.out)
     have FZ : AnsWalk w (joinW d.1 d.2 k k') (joinB d.1 d.2 k k') (.returned (.tuple #[.agg #[.slice X xn xc, .slice (some ⟨O', 0, none⟩) (sn + sn') oc'], .bool true])) ((v4.setCell ⟨w.heap.size + 1 + 1 + 1, 0, none⟩ (.slice X xn xc)).setCell ⟨w.heap.size + 1 + 1 + 1, 1, none⟩ (.slice (some ⟨O', 0, none⟩) (sn + sn') oc')) := by
      have oo := owned_walk (lo := w.heap.size + 1 + 1 + 1 + 1) (oX4.wider (by have := J0sz; simpa using this) (Nat.le_refl _)) oL4 z1' (by have := b4.size; omega)
      exact ⟨_, _, _, _, _, _, by rw [HJ.out.2], by rw [HJ.out.1]; exact ((oo.put (g := w.heap.size + 1 + 1 + 1) (i := 0) (by omega)).put (g := w.heap.size + 1 + 1 + 1) (i := 1) (by omega)).wider (by omega) (by simp), (J4.b.setCell (show w.heap.size ≤ w.heap.size + 1 + 1 + 1 by omega) _).setCell (show w.heap.size ≤ w.heap.size + 1 + 1 + 1 by omega) _⟩
     have HFZ := hid FZ
     clear FZ ra rb oX4 oL4 J4 J oX oL1 oL2 b4 hg4 hat4 hf4
     go_wp2
     exact bodyPost_ret (v := .tuple #[.agg #[.slice X xn xc, .slice (some ⟨O', 0, none⟩) (sn + sn') oc'], .bool true]) (by simp [results, Tryz.results7, go_sem, u0, u1]) rfl HFZ.out
    ·have HLEN := hid (show ¬ k.2.length + k'.2.length ≤ 60 by rw [HL1.out, HL2.out]; exact hlen)
     have hgt : (60 : Int) < (sn : Int) + (sn' : Int) := by omega
     clear hlen
     go_enter Tryz.func7, Tryz.ntmps7
     go_wp2_with fail
     rw [← HW.out]
     have c00 : W.cell? ⟨w.heap.size, 0, none⟩ = some (a) := J.r0.cell 0
     have c01 : W.cell? ⟨w.heap.size, 1, none⟩ = some (v) := J.r0.cell 1
     have c10 : W.cell? ⟨w.heap.size + 1, 0, none⟩ = some (.slice F fn fc) := J.r1.cell 0
     have c11 : W.cell? ⟨w.heap.size + 1, 1, none⟩ = some (.slice S sn sc) := J.r1.cell 1
     have c20 : W.cell? ⟨w.heap.size + 1 + 1, 0, none⟩ = some (.slice F' fn' fc') := J.r2.cell 0
     have c21 : W.cell? ⟨w.heap.size + 1 + 1, 1, none⟩ = some (.slice S' sn' sc') := J.r2.cell 1
     replace J := J.drew
     refine AnyT.start (S := (fun w' => w'.cell? ⟨w.heap.size, 0, none⟩ = some (a) ∧ w'.cell? ⟨w.heap.size, 1, none⟩ = some (v) ∧ w'.cell? ⟨w.heap.size + 1, 0, none⟩ = some (.slice F fn fc) ∧ w'.cell? ⟨w.heap.size + 1, 1, none⟩ = some (.slice S sn sc) ∧ w'.cell? ⟨w.heap.size + 1 + 1, 0, none⟩ = some (.slice F' fn' fc') ∧ w'.cell? ⟨w.heap.size + 1 + 1, 1, none⟩ = some (.slice S' sn' sc'))) (fun _ => false) (by kernel_rfl) ⟨c00, c01, c10, c11, c20, c21⟩ (fun hHeld => ?_)
     refine AnyT.take (i := 0) (v := ?_) rfl (by kernel_rfl) (by kernel_rfl) (by kernel_rfl) (by kernel_rfl) (fun _ _ _ h => h) (Or.inl ⟨by rfl, ?_⟩) (by assumption) ?_
     rotate_left 1
     ·(intro w0 hSw; (try dsimp only at hSw); go_simp; try with_reducible rfl)
     try simp only [Act.put, setIfInBounds_toArray, set_cons_zero, set_cons_succ, getElem_toArray, getElem_cons_zero, getElem_cons_succ]
     refine AnyT.take (i := 1) (v := ?_) rfl (by kernel_rfl) (by kernel_rfl) (by kernel_rfl) (by kernel_rfl) (fun _ _ _ h => h) (Or.inl ⟨by rfl, ?_⟩) (by assumption) ?_
     rotate_left 1
     ·(intro w0 hSw; (try dsimp only at hSw); go_simp; try with_reducible rfl)
     try simp only [Act.put, setIfInBounds_toArray, set_cons_zero, set_cons_succ, getElem_toArray, getElem_cons_zero, getElem_cons_succ]
     refine AnyT.call (i := 2) (by kernel_rfl) rfl (fun K hK => ?_)
     try simp only [Act.put, setIfInBounds_toArray, set_cons_zero, set_cons_succ, getElem_toArray, getElem_cons_zero, getElem_cons_succ]
     rw [if_pos (by rfl)]
     go_simp
     (go_at_call 26; refine (L1.out _ J).mono ?_; rintro e q1 ⟨he, bb⟩; rw [HA.out] at he; subst he; have done1 : True := trivial; replace J := J.next bb; have k00_1 : q1.cell? ⟨w.heap.size, 0, none⟩ = some (a) := J.r0.cell 0; have k01_1 : q1.cell? ⟨w.heap.size, 1, none⟩ = some (v) := J.r0.cell 1; have k10_1 : q1.cell? ⟨w.heap.size + 1, 0, none⟩ = some (.slice F fn fc) := J.r1.cell 0; have k11_1 : q1.cell? ⟨w.heap.size + 1, 1, none⟩ = some (.slice S sn sc) := J.r1.cell 1; have k20_1 : q1.cell? ⟨w.heap.size + 1 + 1, 0, none⟩ = some (.slice F' fn' fc') := J.r2.cell 0; have k21_1 : q1.cell? ⟨w.heap.size + 1 + 1, 1, none⟩ = some (.slice S' sn' sc') := J.r2.cell 1; clear bb; go_wp2_with fail)
     refine hK.out _ _ (fun _ _ => ?_) (fun hKeep => ?_)
     ·exact ⟨k00_1, k01_1, k10_1, k11_1, k20_1, k21_1⟩
     replace hHeld := hKeep (by first | rfl | trivial) hHeld
     clear hK K hKeep
     try simp only [Act.put, setIfInBounds_toArray, set_cons_zero, set_cons_succ, getElem_toArray, getElem_cons_zero, getElem_cons_succ]
     refine AnyT.takeA (i := 3) (v := ?_) rfl (by kernel_rfl) (by kernel_rfl) (by kernel_rfl) (fun _ _ _ h => h) (Or.inl ⟨by rfl, ?_⟩) ?_
     rotate_left 1
     ·(intro w0 _; go_simp; try with_reducible rfl)
     try simp only [Act.put, setIfInBounds_toArray, set_cons_zero, set_cons_succ, getElem_toArray, getElem_cons_zero, getElem_cons_succ]
     refine AnyT.takeA (i := 4) (v := ?_) rfl (by kernel_rfl) (by kernel_rfl) (by kernel_rfl) (fun _ _ _ h => h) (Or.inl ⟨by rfl, ?_⟩) ?_
     rotate_left 1
     ·(intro w0 _; go_simp; try with_reducible rfl)
     try simp only [Act.put, setIfInBounds_toArray, set_cons_zero, set_cons_succ, getElem_toArray, getElem_cons_zero, getElem_cons_succ]
     refine AnyT.take (i := 5) (v := ?_) rfl (by kernel_rfl) (by kernel_rfl) (by kernel_rfl) (by kernel_rfl) (fun _ _ _ h => h) (Or.inl ⟨by rfl, ?_⟩) (by assumption) ?_
     rotate_left 1
     ·(intro w0 hSw; (try dsimp only at hSw); go_simp; try with_reducible rfl)
     try simp only [Act.put, setIfInBounds_toArray, set_cons_zero, set_cons_succ, getElem_toArray, getElem_cons_zero, getElem_cons_succ]
     refine AnyT.take (i := 6) (v := ?_) rfl (by kernel_rfl) (by kernel_rfl) (by kernel_rfl) (by kernel_rfl) (fun _ _ _ h => h) (Or.inl ⟨by rfl, ?_⟩) (by assumption) ?_
     rotate_left 1
     ·(intro w0 hSw; (try dsimp only at hSw); go_simp; try with_reducible rfl)
     try simp only [Act.put, setIfInBounds_toArray, set_cons_zero, set_cons_succ, getElem_toArray, getElem_cons_zero, getElem_cons_succ]
     refine AnyT.call (i := 7) (by kernel_rfl) rfl (fun K hK => ?_)
     try simp only [Act.put, setIfInBounds_toArray, set_cons_zero, set_cons_succ, getElem_toArray, getElem_cons_zero, getElem_cons_succ]
     rw [if_pos (by rfl)]
     go_simp
     (have := done1; go_at_call 26; refine (L2.out _ J).mono ?_; rintro e q2 ⟨he, bb⟩; rw [HB.out] at he; subst he; replace J := J.next bb; have k00_2 : q2.cell? ⟨w.heap.size, 0, none⟩ = some (a) := J.r0.cell 0; have k01_2 : q2.cell? ⟨w.heap.size, 1, none⟩ = some (v) := J.r0.cell 1; have k10_2 : q2.cell? ⟨w.heap.size + 1, 0, none⟩ = some (.slice F fn fc) := J.r1.cell 0; have k11_2 : q2.cell? ⟨w.heap.size + 1, 1, none⟩ = some (.slice S sn sc) := J.r1.cell 1; have k20_2 : q2.cell? ⟨w.heap.size + 1 + 1, 0, none⟩ = some (.slice F' fn' fc') := J.r2.cell 0; have k21_2 : q2.cell? ⟨w.heap.size + 1 + 1, 1, none⟩ = some (.slice S' sn' sc') := J.r2.cell 1; clear bb; go_wp2_with fail)
     refine hK.out _ _ (fun _ _ => ?_) (fun hKeep => ?_)
     ·exact ⟨k00_2, k01_2, k10_2, k11_2, k20_2, k21_2⟩
     replace hHeld := hKeep (by first | rfl | trivial) hHeld
     clear hK K hKeep
     try simp only [Act.put, setIfInBounds_toArray, set_cons_zero, set_cons_succ, getElem_toArray, getElem_cons_zero, getElem_cons_succ]
     refine AnyT.takeA (i := 8) (v := ?_) rfl (by kernel_rfl) (by kernel_rfl) (by kernel_rfl) (fun _ _ _ h => h) (Or.inl ⟨by rfl, ?_⟩) ?_
     rotate_left 1
     ·(intro w0 _; go_simp; try with_reducible rfl)
     try simp only [Act.put, setIfInBounds_toArray, set_cons_zero, set_cons_succ, getElem_toArray, getElem_cons_zero, getElem_cons_succ]
     refine AnyT.takeA (i := 9) (v := ?_) rfl (by kernel_rfl) (by kernel_rfl) (by kernel_rfl) (fun _ _ _ h => h) (Or.inl ⟨by rfl, ?_⟩) ?_
     rotate_left 1
     ·(intro w0 _; go_simp; try with_reducible rfl)
     try simp only [Act.put, setIfInBounds_toArray, set_cons_zero, set_cons_succ, getElem_toArray, getElem_cons_zero, getElem_cons_succ]
     refine AnyT.takeA (i := 10) (v := ?_) rfl (by kernel_rfl) (by kernel_rfl) (by kernel_rfl) (fun _ _ _ h => h) (Or.inl ⟨by rfl, ?_⟩) ?_
     rotate_left 1
     ·(intro w0 _; go_simp; try with_reducible rfl)
     try simp only [Act.put, setIfInBounds_toArray, set_cons_zero, set_cons_succ, getElem_toArray, getElem_cons_zero, getElem_cons_succ]
     refine AnyT.take (i := 11) (v := ?_) rfl (by kernel_rfl) (by kernel_rfl) (by kernel_rfl) (by kernel_rfl) (fun _ _ _ h => h) (Or.inl ⟨by rfl, ?_⟩) (by assumption) ?_
     rotate_left 1
     ·(intro w0 hSw; (try dsimp only at hSw); go_simp; try with_reducible rfl)
     try simp only [Act.put, setIfInBounds_toArray, set_cons_zero, set_cons_succ, getElem_toArray, getElem_cons_zero, getElem_cons_succ]
     refine AnyT.takeA (i := 13) (v := ?_) rfl (by kernel_rfl) (by kernel_rfl) (by kernel_rfl) (fun _ _ _ h => h) (Or.inl ⟨by rfl, ?_⟩) ?_
     rotate_left 1
     ·(intro w0 _; go_simp; try with_reducible rfl)
     try simp only [Act.put, setIfInBounds_toArray, set_cons_zero, set_cons_succ, getElem_toArray, getElem_cons_zero, getElem_cons_succ]
     refine AnyT.take (i := 14) (v := ?_) rfl (by kernel_rfl) (by kernel_rfl) (by kernel_rfl) (by kernel_rfl) (fun _ _ _ h => h) (Or.inl ⟨by rfl, ?_⟩) (by assumption) ?_
     rotate_left 1
     ·(intro w0 hSw; (try dsimp only at hSw); go_simp; try with_reducible rfl)
     try simp only [Act.put, setIfInBounds_toArray, set_cons_zero, set_cons_succ, getElem_toArray, getElem_cons_zero, getElem_cons_succ]
     refine AnyT.call (i := 12) (by kernel_rfl) rfl (fun K hK => ?_)
     try simp only [Act.put, setIfInBounds_toArray, set_cons_zero, set_cons_succ, getElem_toArray, getElem_cons_zero, getElem_cons_succ]
     rw [if_pos (by rfl)]
     go_simp
     (go_at_call 28; refine (L3.out _ J).mono ?_; rintro e q3 ⟨X, xn, xc, rfl, oX, bb⟩; have hX := hid oX; replace J := J.next bb; have k00_3 : q3.cell? ⟨w.heap.size, 0, none⟩ = some (a) := J.r0.cell 0; have k01_3 : q3.cell? ⟨w.heap.size, 1, none⟩ = some (v) := J.r0.cell 1; have k10_3 : q3.cell? ⟨w.heap.size + 1, 0, none⟩ = some (.slice F fn fc) := J.r1.cell 0; have k11_3 : q3.cell? ⟨w.heap.size + 1, 1, none⟩ = some (.slice S sn sc) := J.r1.cell 1; have k20_3 : q3.cell? ⟨w.heap.size + 1 + 1, 0, none⟩ = some (.slice F' fn' fc') := J.r2.cell 0; have k21_3 : q3.cell? ⟨w.heap.size + 1 + 1, 1, none⟩ = some (.slice S' sn' sc') := J.r2.cell 1; clear bb; go_wp2_with fail)
     refine hK.out _ _ (fun _ _ => ?_) (fun hKeep => ?_)
     ·exact ⟨k00_3, k01_3, k10_3, k11_3, k20_3, k21_3⟩
     replace hHeld := hKeep (by first | rfl | trivial) hHeld
     clear hK K hKeep
     try simp only [Act.put, setIfInBounds_toArray, set_cons_zero, set_cons_succ, getElem_toArray, getElem_cons_zero, getElem_cons_succ]
     refine AnyT.call (i := 15) (by kernel_rfl) rfl (fun K hK => ?_)
     try simp only [Act.put, setIfInBounds_toArray, set_cons_zero, set_cons_succ, getElem_toArray, getElem_cons_zero, getElem_cons_succ]
     rw [if_pos (by rfl)]
     go_simp
     (go_at_call 27; refine (L4.out _ J X xn xc oX).mono ?_; rintro e q4 ⟨he, bb⟩; rw [HC.out] at he; subst he; replace J := J.next bb; have k00_4 : q4.cell? ⟨w.heap.size, 0, none⟩ = some (a) := J.r0.cell 0; have k01_4 : q4.cell? ⟨w.heap.size, 1, none⟩ = some (v) := J.r0.cell 1; have k10_4 : q4.cell? ⟨w.heap.size + 1, 0, none⟩ = some (.slice F fn fc) := J.r1.cell 0; have k11_4 : q4.cell? ⟨w.heap.size + 1, 1, none⟩ = some (.slice S sn sc) := J.r1.cell 1; have k20_4 : q4.cell? ⟨w.heap.size + 1 + 1, 0, none⟩ = some (.slice F' fn' fc') := J.r2.cell 0; have k21_4 : q4.cell? ⟨w.heap.size + 1 + 1, 1, none⟩ = some (.slice S' sn' sc') := J.r2.cell 1; clear bb; go_wp2_with fail)
     refine hK.out _ _ (fun _ _ => ?_) (fun hKeep => ?_)
     ·exact ⟨k00_4, k01_4, k10_4, k11_4, k20_4, k21_4⟩
     replace hHeld := hKeep (by first | rfl | trivial) hHeld
     clear hK K hKeep
     try simp only [Act.put, setIfInBounds_toArray, set_cons_zero, set_cons_succ, getElem_toArray, getElem_cons_zero, getElem_cons_succ]
     refine AnyT.takeA (i := 16) (v := ?_) rfl (by kernel_rfl) (by kernel_rfl) (by kernel_rfl) (fun _ _ _ h => h) (Or.inl ⟨by rfl, ?_⟩) ?_
     rotate_left 1
     ·(intro w0 _; go_simp; try with_reducible rfl)
     try simp only [Act.put, setIfInBounds_toArray, set_cons_zero, set_cons_succ, getElem_toArray, getElem_cons_zero, getElem_cons_succ]
     refine AnyT.takeA (i := 17) (v := ?_) rfl (by kernel_rfl) (by kernel_rfl) (by kernel_rfl) (fun _ _ _ h => h) (Or.inl ⟨by rfl, ?_⟩) ?_
     rotate_left 1
     ·(intro w0 _; go_simp; try with_reducible rfl)
     try simp only [Act.put, setIfInBounds_toArray, set_cons_zero, set_cons_succ, getElem_toArray, getElem_cons_zero, getElem_cons_succ]
     refine AnyT.takeA (i := 18) (v := ?_) rfl (by kernel_rfl) (by kernel_rfl) (by kernel_rfl) (fun _ _ _ h => h) (Or.inl ⟨by rfl, ?_⟩) ?_
     rotate_left 1
     ·(intro w0 _; go_simp; try with_reducible rfl)
     try simp only [Act.put, setIfInBounds_toArray, set_cons_zero, set_cons_succ, getElem_toArray, getElem_cons_zero, getElem_cons_succ]
     refine AnyT.takeA (i := 19) (v := ?_) rfl (by kernel_rfl) (by kernel_rfl) (by kernel_rfl) (fun _ _ _ h => h) (Or.inl ⟨by rfl, ?_⟩) ?_
     rotate_left 1
     ·(intro w0 _; go_simp; try with_reducible rfl)
     try simp only [Act.put, setIfInBounds_toArray, set_cons_zero, set_cons_succ, getElem_toArray, getElem_cons_zero, getElem_cons_succ]
     refine AnyT.take (i := 20) (v := ?_) rfl (by kernel_rfl) (by kernel_rfl) (by kernel_rfl) (by kernel_rfl) (fun _ _ _ h => h) (Or.inl ⟨by rfl, ?_⟩) (by assumption) ?_
     rotate_left 1
     ·(intro w0 hSw; (try dsimp only at hSw); go_simp; try with_reducible rfl)
     try simp only [Act.put, setIfInBounds_toArray, set_cons_zero, set_cons_succ, getElem_toArray, getElem_cons_zero, getElem_cons_succ]
     refine AnyT.takeA (i := 21) (v := ?_) rfl (by kernel_rfl) (by kernel_rfl) (by kernel_rfl) (fun _ _ _ h => h) (Or.inl ⟨by rfl, ?_⟩) ?_
     rotate_left 1
     ·(intro w0 _; go_simp; try with_reducible rfl)
     try simp only [Act.put, setIfInBounds_toArray, set_cons_zero, set_cons_succ, getElem_toArray, getElem_cons_zero, getElem_cons_succ]
     refine AnyT.takeA (i := 22) (v := ?_) rfl (by kernel_rfl) (by kernel_rfl) (by kernel_rfl) (fun _ _ _ h => h) (Or.inl ⟨by rfl, ?_⟩) ?_
     rotate_left 1
     ·(intro w0 _; go_simp; try with_reducible rfl)
     try simp only [Act.put, setIfInBounds_toArray, set_cons_zero, set_cons_succ, getElem_toArray, getElem_cons_zero, getElem_cons_succ]
     refine AnyT.take (i := 23) (v := ?_) rfl (by kernel_rfl) (by kernel_rfl) (by kernel_rfl) (by kernel_rfl) (fun _ _ _ h => h) (Or.inl ⟨by rfl, ?_⟩) (by assumption) ?_
     rotate_left 1
     ·(intro w0 hSw; (try dsimp only at hSw); go_simp; try with_reducible rfl)
     try simp only [Act.put, setIfInBounds_toArray, set_cons_zero, set_cons_succ, getElem_toArray, getElem_cons_zero, getElem_cons_succ]
     refine AnyT.takeA (i := 24) (v := ?_) rfl (by kernel_rfl) (by kernel_rfl) (by kernel_rfl) (fun _ _ _ h => h) (Or.inl ⟨by rfl, ?_⟩) ?_
     rotate_left 1
     ·(intro w0 _; go_simp; try with_reducible rfl)
     try simp only [Act.put, setIfInBounds_toArray, set_cons_zero, set_cons_succ, getElem_toArray, getElem_cons_zero, getElem_cons_succ]
     refine AnyT.takeA (i := 25) (v := ?_) rfl (by kernel_rfl) (by kernel_rfl) (by kernel_rfl) (fun _ _ _ h => h) (Or.inl ⟨by rfl, ?_⟩) ?_
     rotate_left 1
     ·(intro w0 _; go_simp; try with_reducible rfl)
     try simp only [Act.put, setIfInBounds_toArray, set_cons_zero, set_cons_succ, getElem_toArray, getElem_cons_zero, getElem_cons_succ]
     refine AnyT.takeA (i := 26) (v := ?_) rfl (by kernel_rfl) (by kernel_rfl) (by kernel_rfl) (fun _ _ _ h => h) (Or.inl ⟨by rfl, ?_⟩) ?_
     rotate_left 1
     ·(intro w0 _; go_simp; try with_reducible rfl)
     try simp only [Act.put, setIfInBounds_toArray, set_cons_zero, set_cons_succ, getElem_toArray, getElem_cons_zero, getElem_cons_succ]
     refine AnyT.takeA (i := 27) (v := ?_) rfl (by kernel_rfl) (by kernel_rfl) (by kernel_rfl) (fun _ _ _ h => h) (Or.inl ⟨by rfl, ?_⟩) ?_
     rotate_left 1
     ·(intro w0 _; go_simp; try with_reducible rfl)
     try simp only [Act.put, setIfInBounds_toArray, set_cons_zero, set_cons_succ, getElem_toArray, getElem_cons_zero, getElem_cons_succ]
     refine AnyT.done (by kernel_rfl) ?_ _
     clear c00 c01 c10 c11 c20 c21
     have y0 : q4.cell? ⟨w.heap.size + 1 + 1 + 1, 0, none⟩ = some (.slice none 0 0) := J.r3.cell 0
     have y1 : q4.cell? ⟨w.heap.size + 1 + 1 + 1, 1, none⟩ = some (.slice none 0 0) := J.r3.cell 1
     have g0 := J.r3.free 0
     have g1 := J.r3.free 1
     have ra := J.r3.put 0 (.slice none 0 0)
     have y2 : (q4.setCell ⟨w.heap.size + 1 + 1 + 1, 0, none⟩ (.slice none 0 0)).cell? ⟨w.heap.size + 1 + 1 + 1, 1, none⟩ = some (.slice none 0 0) := ra.cell 1
     have g2 := ra.free 1
     have rb := ra.put 1 (.slice none 0 0)
     have u0 : ((q4.setCell ⟨w.heap.size + 1 + 1 + 1, 0, none⟩ (.slice none 0 0)).setCell ⟨w.heap.size + 1 + 1 + 1, 1, none⟩ (.slice none 0 0)).cell? ⟨w.heap.size + 1 + 1 + 1, 0, none⟩ = some (.slice none 0 0) := rb.cell 0
     have u1 : ((q4.setCell ⟨w.heap.size + 1 + 1 + 1, 0, none⟩ (.slice none 0 0)).setCell ⟨w.heap.size + 1 + 1 + 1, 1, none⟩ (.slice none 0 0)).cell? ⟨w.heap.size + 1 + 1 + 1, 1, none⟩ = some (.slice none 0 0) := rb.cell 1
     have FZ : AnsWalk w (joinW d.1 d.2 k k') (joinB d.1 d.2 k k') (.returned (.tuple #[.agg #[.slice none 0 0, .slice none 0 0], .bool false])) ((q4.setCell ⟨w.heap.size + 1 + 1 + 1, 0, none⟩ (.slice none 0 0)).setCell ⟨w.heap.size + 1 + 1 + 1, 1, none⟩ (.slice none 0 0)) := ansWalk_no (join_no4 HLEN.out) (((J.b).setCell (show w.heap.size ≤ w.heap.size + 1 + 1 + 1 by omega) _).setCell (show w.heap.size ≤ w.heap.size + 1 + 1 + 1 by omega) _)
     have HFZ := hid FZ
     clear FZ ra rb k00_1 k01_1 k10_1 k11_1 k20_1 k21_1 k00_2 k01_2 k10_2 k11_2 k20_2 k21_2 k00_3 k01_3 k10_3 k11_3 k20_3 k21_3 k00_4 k01_4 k10_4 k11_4 k20_4 k21_4 J
     go_wp2
     exact bodyPost_ret (v := .tuple #[.agg #[.slice none 0 0, .slice none 0 0], .bool false]) (by simp [results, Tryz.results7, go_sem, u0, u1]) rfl HFZ.out
end walkSpec
end
section
open Go.Lib (hid)
namespace concatS
open Go.RowKit base ints sig cursor marks app appAt sym segs shape drawX ownL kindsW
set_option maxRecDepth 100000
theorem Rd.one {w : World} {B : Nat} : ∀ {s : Sh} {cs : List Value} {d : Dat s}, Rd w B s cs d → ∀ u ∈ cs, u.oneCell' = true
 | .num, _, _, h, u, hu => by have h : _ = _ := h; rw [h] at hu; rw [List.mem_singleton.1 hu]; rfl
 | .bit, _, _, h, u, hu => by have h : _ = _ := h; rw [h] at hu; rw [List.mem_singleton.1 hu]; rfl
 | .row _ _, _, _, h, u, hu => by obtain ⟨A, n, c, e, _⟩ := h; rw [e] at hu; rw [List.mem_singleton.1 hu]; rfl
 | .cat a b, _, _, h, u, hu => by
  obtain ⟨ca, cb, e, h1, h2⟩ := h
  rw [e] at hu
  rcases List.mem_append.1 hu with hu | hu
  ·exact Rd.one h1 u hu
  ·exact Rd.one h2 u hu
def Flat (w : World) (B : Nat) (s : Sh) (vs : List Value) (n : Nat) (D : List (Dat s)) : Prop := D.length = n ∧ vs.length = n * nc s ∧ ∀ j, j < n → Rd w B s (cellsOf (nc s) vs j) (D.getD j (dft s))
section
variable {w w' : World} {B n m : Nat} {s : Sh} {vs us : List Value} {D E : List (Dat s)}
theorem Flat.nil (w : World) (B : Nat) (s : Sh) : Flat w B s [] 0 [] := ⟨rfl, by simp, fun j hj => absurd hj (Nat.not_lt_zero _)⟩
theorem Flat.below (h : Flat w B s vs n D) (hb : Below B w w') : Flat w' B s vs n D := ⟨h.1, h.2.1, fun j hj => (h.2.2 j hj).below hb⟩
theorem Flat.app (h : Flat w B s vs n D) (h' : Flat w B s us m E) : Flat w B s (vs ++ us) (n + m) (D ++ E) := by
 refine ⟨by rw [List.length_append, h.1, h'.1], by rw [List.length_append, h.2.1, h'.2.1, Nat.add_mul], fun j hj => ?_⟩
 by_cases ej : j < n
 ·rw [cells_left h.2.1 ej, show (D ++ E).getD j (dft s) = D.getD j (dft s) by simp [List.getD, List.getElem?_append_left (show j < D.length by rw [h.1]; exact ej)]]
  exact h.2.2 j ej
 ·obtain ⟨i, rfl⟩ : ∃ i, j = n + i := ⟨j - n, by omega⟩
  rw [cells_right h.2.1, show (D ++ E).getD (n + i) (dft s) = E.getD i (dft s) by simp [List.getD, List.getElem?_append_right (show D.length ≤ n + i by rw [h.1]; omega), h.1]]
  exact h'.2.2 i (by omega)
theorem rd_flat {e : TypeId} {S : Option Addr} {c : Nat} (h : Rd w B (.row e s) [.slice S m c] E) (hm : 0 < m) : ∃ b off us, S = some ⟨b, off, none⟩ ∧ b < B ∧ (∀ q u, us[q]? = some u → w.cell? ⟨b, off + q, none⟩ = some u) ∧ (∀ u ∈ us, u.oneCell' = true) ∧ Flat w B s us m E := by
 obtain ⟨A, n', c', e1, hc, hl, h1⟩ := h
 injection e1 with e1
 injection e1 with a1 a2 a3
 subst a1 a2 a3
 obtain ⟨b, off, rfl, hb, h2⟩ := h1 hm
 have hnp := nc_pos s
 obtain ⟨us, hus⟩ : ∃ us, us = (List.range (m * nc s)).map fun q => (w.cell? ⟨b, off + q, none⟩).getD undef := ⟨_, rfl⟩
 have hul : us.length = m * nc s := by rw [hus]; simp
 have hcell : ∀ j, j < m → ∃ es, es.length = nc s ∧ cellsOf (nc s) us j = es ∧ Piece w b (off + j * nc s) es ∧ Rd w B s es (E.getD j (dft s)) := fun j hj => by
  obtain ⟨es, he, hp, hr⟩ := h2 j hj
  have hjn : j * nc s + nc s ≤ m * nc s := by
   have := Nat.mul_le_mul_right (nc s) (show j + 1 ≤ m by omega)
   rw [Nat.add_mul] at this
   omega
  refine ⟨es, he, List.ext_getElem? fun i => ?_, hp, hr⟩
  unfold cellsOf
  rw [List.getElem?_take]
  split
  ·rename_i hi
   rw [List.getElem?_drop, hus, List.getElem?_map, List.getElem?_range (show j * nc s + i < m * nc s by omega)]
   have := hp i (by omega)
   show some ((w.cell? ⟨b, off + (j * nc s + i), none⟩).getD undef) = es[i]?
   rw [← Nat.add_assoc, this]
   have hie : i < es.length := by omega
   simp [hie]
  ·exact (List.getElem?_eq_none (by omega)).symm
 refine ⟨b, off, us, rfl, hb, fun q u hq => ?_, fun u hu => ?_, hl, hul, fun j hj => ?_⟩
 ·have hql := (List.getElem?_eq_some_iff.1 hq).1
  have hj : q / nc s < m := by rw [Nat.div_lt_iff_lt_mul hnp]; omega
  obtain ⟨es, he, hce, hp, _⟩ := hcell _ hj
  have hdm : q / nc s * nc s + q % nc s = q := by rw [Nat.mul_comm]; exact Nat.div_add_mod q (nc s)
  have hmod := Nat.mod_lt q hnp
  have h3 := hp (q % nc s) (by omega)
  rw [show off + q / nc s * nc s + q % nc s = off + q by omega] at h3
  rw [h3, ← hce]
  unfold cellsOf
  rw [List.getElem?_take, if_pos hmod, List.getElem?_drop, hdm]
  exact hq
 ·obtain ⟨q, hql, rfl⟩ := List.getElem_of_mem hu
  have hj : q / nc s < m := by rw [Nat.div_lt_iff_lt_mul hnp]; omega
  obtain ⟨es, he, hce, hp, hr⟩ := hcell _ hj
  have hdm : q / nc s * nc s + q % nc s = q := by rw [Nat.mul_comm]; exact Nat.div_add_mod q (nc s)
  have hmod := Nat.mod_lt q hnp
  refine Rd.one hr _ ?_
  rw [← hce]
  refine List.mem_of_getElem? (i := q % nc s) ?_
  unfold cellsOf
  rw [List.getElem?_take, if_pos hmod, List.getElem?_drop, hdm]
  exact List.getElem?_eq_getElem hql
 ·obtain ⟨es, _, hce, _, hr⟩ := hcell j hj
  rw [hce]; exact hr
end
theorem appF {w : World} {ops : Array Oper} {rest : List Oper} {o : Oper} {a : Act} {Q : Exit → Act → World → Prop} (hgd : o.guard = none) (sx x : Operand) (T e : TypeId) (s : Sh) (z : Value) (bytes : Nat) (hT : Tryz.prog.underlying T = some (.slice e))
  (hI : (Tryz.prog.info? e).map (fun i => (i.zero, i.size, i.bytes)) = some (some z, nc s, bytes)) (hzc : z.cells.size = nc s) (hby : bytes ≤ 4096)
  (ho : o.op = .call { callee := .builtin .append, args := #[sx, x], argTypes := #[T, T] })
  (lo B : Nat) (A : Option Addr) (n c : Nat) (vs : List Value) (D E : List (Dat s)) (hs : a.eval sx = .slice A n c) (hown : w.ownsRow lo e (nc s) (.slice A n c) n vs) (hF : Flat w B s vs n D)
  (S : Option Addr) (m c2 : Nat) (hx : a.eval x = .slice S m c2) (hR : Rd w B (.row e s) [.slice S m c2] E) (hB : B ≤ lo) (hn : n ≤ 1048576) (hm : m ≤ 1048576) (hlo : lo ≤ w.heap.size)
  (h : ∀ A' c' vs' w', w'.ownsRow lo e (nc s) (.slice A' (n + m) c') (n + m) vs' → Flat w' B s vs' (n + m) (D ++ E) → Below lo w w' → wpList Tryz.prog ops Q rest (a.put o.dst (.slice A' (n + m) c')) w') : wpList Tryz.prog ops Q (o :: rest) a w := by
 obtain ⟨i0, hi', hz0, hz1, hz2⟩ := info_parts hI
 rcases Nat.eq_zero_or_pos m with hm0 | hm0
 ·subst hm0
  have hE : E = [] := by
   obtain ⟨A', n', c', e1, _, hl, _⟩ := hR
   injection e1 with e1
   injection e1 with a1 a2 a3
   rw [← a2] at hl
   exact List.eq_nil_of_length_eq_zero hl
  subst hE
  cases S with
  | none =>
   have hc2 : c2 = 0 := by
    obtain ⟨A', n', c', e1, hc, _, _⟩ := hR
    injection e1 with e1
    injection e1 with a1 a2 a3
    rw [← a1, ← a3] at hc
    exact hc.2.2 rfl
   subst hc2
   refine wpList_append_own_none hgd sx x T ho lo e i0 (nc s) hT hi' (.slice A n c) n vs hs hown hx ?_
   exact h A c vs w hown (by rw [List.append_nil]; exact hF) (Below.refl _ _)
  | some ad =>
   refine wpList_append_own_at w hgd sx x T ho lo e i0 z (nc s) bytes hT hi' hz0 hz1 hz2 hzc (nc_pos s) (.slice A n c) n vs hs hown ad 0 c2 [] hx (by simp) (fun j u hj => by simp at hj) (fun u hu => by cases hu) (by unfold maxLen; omega) (by have h1 : (n + 0) * bytes ≤ 1048576 * 4096 := Nat.mul_le_mul (by omega) hby; omega) hlo ?_
   intro v' w' hown' hg hnn hat
   rw [List.append_nil] at hown'
   have hform : ∃ A' c', v' = .slice A' (n + 0) c' := by
    rcases hown'.2 with ⟨e1, h0⟩ | ⟨g', cap, cur, e1, _⟩
    ·exact ⟨none, 0, by rw [e1, h0]⟩
    ·exact ⟨_, _, e1⟩
   obtain ⟨A', c', rfl⟩ := hform
   rw [blk_own] at hg
   have hbl : Below lo w w' := (Below.refl lo w).grown hg hlo (fun k hk => (World.ownsRow.lt hown k (by rw [blk_own]; exact hk)).1)
   exact h A' c' vs w' hown' (by rw [List.append_nil]; exact hF.below (hbl.mono hB)) hbl
 ·obtain ⟨b, off, us, rfl, hb, hcell, hone, hFE⟩ := rd_flat hR hm0
  refine wpList_append_own_at w hgd sx x T ho lo e i0 z (nc s) bytes hT hi' hz0 hz1 hz2 hzc (nc_pos s) (.slice A n c) n vs hs hown ⟨b, off, none⟩ m c2 us hx hFE.2.1 (fun j u hj => ?_) hone (by unfold maxLen; omega) (by have h1 : (n + m) * bytes ≤ 2097152 * 4096 := Nat.mul_le_mul (by omega) hby; omega) hlo ?_
  ·have e2 : (⟨b, off, none⟩ : Addr).add j = ⟨b, off + j, none⟩ := by unfold Addr.add; split <;> simp_all
   rw [e2]; exact hcell j u hj
  ·intro v' w' hown' hg hnn hat
   have hform : ∃ A' c', v' = .slice A' (n + m) c' := by
    rcases hown'.2 with ⟨e1, h0⟩ | ⟨g', cap, cur, e1, _⟩
    ·omega
    ·exact ⟨_, _, e1⟩
   obtain ⟨A', c', rfl⟩ := hform
   rw [blk_own] at hg
   have hbl : Below lo w w' := (Below.refl lo w).grown hg hlo (fun k hk => (World.ownsRow.lt hown k (by rw [blk_own]; exact hk)).1)
   exact h A' c' (vs ++ us) w' hown' ((hF.app hFE).below (hbl.mono hB)) hbl
set_option maxHeartbeats 1000000 in
theorem growNilS (s : Nat) (w : World) (hs : s ≤ 2097152) :
  Calls Tryz.prog 73 #[.slice none 0 0, .int .i64 (s : Int)] w fun e w' => ∃ A c, e = .returned (.slice A 0 c) ∧ w'.ownsRow w.heap.size 74 3 (.slice A 0 c) 0 [] ∧ Below w.heap.size w w' := by
 by_cases h0 : s = 0
 ·subst h0
  go_enter Tryz.func73, Tryz.ntmps73
  go_wp2
  go_ret
  exact ⟨none, 0, rfl, ⟨by simp, .inl ⟨rfl, rfl⟩⟩, Below.refl _ _⟩
 ·obtain ⟨i0, hi, hz0, hz1, hz2⟩ := info_parts info_StepS
  obtain ⟨G, hG⟩ : ∃ G, G = grownCap w s 0 74 := ⟨_, rfl⟩
  have hge : s ≤ G := by rw [hG]; exact grownCap_ge w _ _ _
  have hcm : G ≤ maxLen := by rw [hG]; exact grownCap_le_maxLen w _ _ _ (by unfold maxLen; omega)
  obtain ⟨cs, hcs⟩ : ∃ cs, cs = Builtin.zeroCells (Value.agg #[.int .i64 0, .int .i64 0, .slice none 0 0]).cells s ++ Builtin.zeroCells (Value.agg #[.int .i64 0, .int .i64 0, .slice none 0 0]).cells (G - s) := ⟨_, rfl⟩
  have hsz : cs.size = G * 3 := by
   rw [hcs]
   have e : (Value.agg #[.int .i64 0, .int .i64 0, .slice none 0 0]).cells.size = 3 := rfl
   simp only [Array.size_append, size_zeroCells, e]
   omega
  have hr : ∀ ty, (Builtin.append_ #[33, 3] ty #[.slice none 0 0, .int .i64 (s : Int)]).run Tryz.prog w = .ok (.slice (some ⟨w.heap.size, 0, none⟩) s G) (w.drew.alloc (.cells cs 74)) := fun ty => by
   rw [hG, hcs, hG]
   exact Lib.run_append_nil_zeros w 33 3 ty 74 i0 (.agg #[.int .i64 0, .int .i64 0, .slice none 0 0]) .i64 .i64 Tryz.underlying33 Tryz.underlying3 hi hz0 s (by omega) (by rw [hz1]; omega) (by omega) (by rw [hz2]; omega)
  have hrow : Row (w.drew.alloc (.cells cs 74)) w.heap.size 74 cs := Row.new w.drew _ _
  have hG63 : G ≤ 9223372036854775807 := by unfold maxLen at hcm; omega
  have HF := hid (show ∃ A c, Ending.returned (.slice (some ⟨w.heap.size, 0, none⟩) 0 G) = .returned (.slice A 0 c) ∧ (w.drew.alloc (.cells cs 74)).ownsRow w.heap.size 74 3 (.slice A 0 c) 0 [] ∧ Below w.heap.size w (w.drew.alloc (.cells cs 74)) from
   ⟨_, _, rfl, ⟨by simp, .inr ⟨w.heap.size, G, cs, rfl, Nat.le_refl _, hrow, Nat.zero_le _, hcm, hsz, by simp⟩⟩, ((Below.refl _ _).drew).alloc (Nat.le_refl _) _⟩)
  clear hrow hsz hcs hG hcm
  have h1 : (0 : Int) < (s : Int) := by omega
  go_enter Tryz.func73, Tryz.ntmps73
  go_wp2_with (at_builtin; refine Lib.wpList_append_run _ rfl _ _ _ _ rfl _ _ rfl rfl _ _ (hr _) ?_)
  go_wp2
  go_ret
  exact HF.out
def sm (n m j : Nat) : Nat := if j = 0 then 0 else if j = 1 then n else n + m
def catS (a b : List (Int × Int × List Int)) (j : Nat) : List (Int × Int × List Int) := if j = 0 then [] else if j = 1 then a else a ++ b
set_option maxHeartbeats 2000000 in
theorem concat2 (G : Nat) (S S' : Option Addr) (n c n' c' B : Nat) (a b : List (Int × Int × List Int)) (w : World) (hG : G < w.heap.size) (h0 : w.cell? ⟨G, 0, none⟩ = some (.slice S n c)) (h1 : w.cell? ⟨G, 1, none⟩ = some (.slice S' n' c')) (ha : Rd w B sStepS [.slice S n c] a) (hb : Rd w B sStepS [.slice S' n' c'] b) (hB : B ≤ w.heap.size) (hn : n ≤ 1048576) (hn' : n' ≤ 1048576) :
  Calls Tryz.prog 38 #[.slice (some ⟨G, 0, none⟩) 2 2] w fun e w' => ∃ A cc vs, e = .returned (.slice A (n + n') cc) ∧ w'.ownsRow w.heap.size 74 3 (.slice A (n + n') cc) (n + n') vs ∧ Flat w' B sStep vs (n + n') (a ++ b) ∧ Below w.heap.size w w' := by
 have HA := hid ha
 have HB := hid hb
 clear ha hb
 go_enter Tryz.func38, Tryz.ntmps38
 go_wp2
 go_loopg [3, 11] 2 (fun g s i wr => w = wr ∧ ∃ j : Nat, i = .int .i64 j ∧ j + g = 2 ∧ s = .int .i64 (sm n n' j : Nat))
 case atStart => exact ⟨rfl, 0, rfl, by omega, rfl⟩
 case round =>
  obtain ⟨rfl, j, rfl, hj, rfl⟩ := hrel
  have hcases : j = 0 ∨ j = 1 ∨ j = 2 := by omega
  rcases hcases with rfl | rfl | rfl
  ·have HJ := hid hj
   clear hj
   have e0 : ((sm n n' 0 : Nat) : Int) = 0 := rfl
   rw [e0]
   go_wp2
   go_roundg (gk - 1)
   case measure => have := HJ.out; omega
   case rel => exact ⟨rfl, 1, by simp, by have := HJ.out; omega, by simp [sm]⟩
  ·have HJ := hid hj
   clear hj
   have e0 : ((sm n n' 1 : Nat) : Int) = (n : Int) := rfl
   rw [e0]
   go_wp2
   go_roundg (gk - 1)
   case measure => have := HJ.out; omega
   case rel => exact ⟨rfl, 2, by simp, by have := HJ.out; omega, by simp [sm]⟩
  ·have e0 : ((sm n n' 2 : Nat) : Int) = ((n + n' : Nat) : Int) := rfl
   rw [e0]
   have LG := hid (growNilS (n + n') w (by omega))
   clear hj e0
   go_wp2_with fail
   refine LG.out.mono ?_
   rintro e w1 ⟨O, oc, rfl, o1, b1⟩
   have HP := hid (show w1.ownsRow w.heap.size 74 3 (.slice O (sm n n' 0) oc) (sm n n' 0) [] ∧ Flat w1 B sStep [] (sm n n' 0) (catS a b 0) ∧ Below w.heap.size w w1 from ⟨o1, Flat.nil _ _ _, b1⟩)
   clear o1 b1 LG
   go_wp2
   go_loopg [6, 27] 2 (fun g s i wr => ∃ (j : Nat) (O : Option Addr) (oc : Nat) (vs : List Value), i = .int .i64 j ∧ j + g = 2 ∧ s = .slice O (sm n n' j) oc ∧ wr.ownsRow w.heap.size 74 3 (.slice O (sm n n' j) oc) (sm n n' j) vs ∧ Flat wr B sStep vs (sm n n' j) (catS a b j) ∧ Below w.heap.size w wr)
   case atStart => exact ⟨0, O, oc, [], rfl, by omega, rfl, HP.out.1, HP.out.2.1, HP.out.2.2⟩
   case round =>
    obtain ⟨j, O, oc, vs, rfl, hj, rfl, ho, hf, hbl⟩ := hrel
    clear HP
    have hcases : j = 0 ∨ j = 1 ∨ j = 2 := by omega
    have k0 : wr.cell? ⟨G, 0, none⟩ = some (.slice S n c) := (hbl.cell (p := ⟨G, 0, none⟩) hG).trans h0
    have k1 : wr.cell? ⟨G, 1, none⟩ = some (.slice S' n' c') := (hbl.cell (p := ⟨G, 1, none⟩) hG).trans h1
    have hsz := hbl.size
    rcases hcases with rfl | rfl | rfl
    ·have HJ := hid hj
     have hR := HA.out.below (hbl.mono hB)
     have ho : wr.ownsRow w.heap.size 74 (nc sStep) (.slice O 0 oc) 0 vs := ho
     have hf : Flat wr B sStep vs 0 [] := hf
     clear hj
     go_wp2_with (at_builtin; refine appF rfl _ _ 33 74 sStep _ _ Tryz.underlying33 info_StepS rfl (by decide) rfl w.heap.size B O 0 oc vs [] a rfl ho hf S n c rfl hR hB (by omega) hn hsz ?_; intro O' oc' vs' w3 ho3 hf3 b3)
     have F := hid (show w3.ownsRow w.heap.size 74 3 (.slice O' (sm n n' 1) oc') (sm n n' 1) vs' ∧ Flat w3 B sStep vs' (sm n n' 1) (catS a b 1) ∧ Below w.heap.size w w3 from ⟨by have := ho3; rw [Nat.zero_add] at this; exact this, by have := hf3; rw [Nat.zero_add] at this; exact this, hbl.trans b3⟩)
     clear ho ho3 hf hf3 hbl b3 k0 k1 hR
     go_wp2
     go_roundg (gk - 1)
     case measure => have := HJ.out; omega
     case rel => exact ⟨1, O', oc', vs', by simp, by have := HJ.out; omega, by simp [sm], F.out⟩
    ·have HJ := hid hj
     have hR := HB.out.below (hbl.mono hB)
     have ho : wr.ownsRow w.heap.size 74 (nc sStep) (.slice O n oc) n vs := ho
     have hf : Flat wr B sStep vs n a := hf
     clear hj
     have e0 : Value.slice O (sm n n' 1) oc = .slice O n oc := rfl
     rw [e0]
     go_wp2_with (at_builtin; refine appF rfl _ _ 33 74 sStep _ _ Tryz.underlying33 info_StepS rfl (by decide) rfl w.heap.size B O n oc vs a b rfl ho hf S' n' c' rfl hR hB hn hn' hsz ?_; intro O' oc' vs' w3 ho3 hf3 b3)
     have F := hid (show w3.ownsRow w.heap.size 74 3 (.slice O' (sm n n' 2) oc') (sm n n' 2) vs' ∧ Flat w3 B sStep vs' (sm n n' 2) (catS a b 2) ∧ Below w.heap.size w w3 from ⟨ho3, hf3, hbl.trans b3⟩)
     clear ho ho3 hf hf3 hbl b3 k0 k1 hR
     go_wp2
     go_roundg (gk - 1)
     case measure => have := HJ.out; omega
     case rel => exact ⟨2, O', oc', vs', by simp, by have := HJ.out; omega, by simp [sm], F.out⟩
    ·have F := hid (show ∃ A cc vs, Ending.returned (.slice O (n + n') oc) = .returned (.slice A (n + n') cc) ∧ wr.ownsRow w.heap.size 74 3 (.slice A (n + n') cc) (n + n') vs ∧ Flat wr B sStep vs (n + n') (a ++ b) ∧ Below w.heap.size w wr from ⟨O, oc, vs, rfl, ho, hf, hbl⟩)
     have e0 : Value.slice O (sm n n' 2) oc = .slice O (n + n') oc := rfl
     rw [e0]
     clear ho hf hbl k0 k1 hj
     go_wp2
     go_ret
     exact F.out
end concatS
end
end Go.Proofs.YthdmhhmnipoceaaGreat
