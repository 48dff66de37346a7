/-
  WHAT IS PROVED: Rows.FnExactWalkUnderSaid: for every input the Go law laws.FnExactWalkUnder returns true, and each argument reads afterwards as it read before. Conditions: none beyond the row.
  The frame is written by a program of mine (frame.py); the walk is YtblhmplpcdcejaaGreatWWalkUnder. By an AI agent.
-/
import Derived.Test.YtblhmplpcdcejaaGreatMFnExactWalkUnder9
import Derived.Test.YtblhmplpcdcejaaGreatRows
import Derived.WalkKit
import Derived.ProofKit
import Derived.OpenShut
import Derived.ShutString
import Derived.ChangeOld
import Derived.Below
namespace Go.Proofs.YtblhmplpcdcejaaGreat.fnExactWalkUnder
open Go.ChangeShapes Go.WideShapes Go.ChangeAt Go.RowKit Go.Proofs.YtblhmplpcdcejaaGreat.base Go.Proofs.YtblhmplpcdcejaaGreat.openArgs
set_option linter.unusedVariables false

theorem own : ownKnob Tryz.prog.godebug = none := by kernel_rfl
theorem laidOut : laidOutB Tryz.prog = true := by kernel_rfl

set_option maxRecDepth 100000 in
theorem lifted (os : Os) (started : os.Started) (H : Type) (enc : TypeId × Value → H) :
    ReturnsInHanded {} Tryz.checked os 3 .any (Rows.fnExactWalkUnderSpec.pre6 enc Tryz.prog Tryz.f3 Rows.fnExactWalkUnderRow.domain false) (Rows.fnExactWalkUnderSpec.post enc Tryz.prog Tryz.f3 false true false false) := by
  refine returnsInHanded_of_change (C := Tryz.checked) own started (by kernel_rfl) Tryz.func3
    (ChangeSpec.witness6 (enc := enc) (C := Tryz.checked) false ⟨#[], #[.agg #[.slice none 0 0, .slice none 0 0], .agg #[.slice none 0 0, .slice none 0 0], .agg #[.slice none 0 0]], []⟩ 8 (by kernel_rfl) (by kernel_rfl) (by kernel_rfl) (by kernel_rfl)) ?_
  intro W base args ds gs before hval0 hW hcnd _
  have hval : ∀ (j : Nat) t v, Tryz.f3.params[j]? = some t → args[j]? = some v → Value.okWide Tryz.prog W .any base t v := hval0
  have hW' := hW
  obtain ⟨p, q, hA0, hV, rfl, hfz, hnd⟩ := hW
  have hA : DataW.TrodAll enc Tryz.prog W 0 (fun _ => true) true Tryz.f3.params.toList args.toList ds p := hA0
  rw [Tryz.params3] at hA hval
  obtain ⟨v0, vs0, d0, ds0, p0, q0, hargs, rfl, rfl, h0, r0⟩ := trodAll_cons hA
  obtain ⟨v1, vs1, d1, ds1, p1, q1, rfl, rfl, rfl, h1, r1⟩ := trodAll_cons r0
  obtain ⟨v2, vs2, d2, ds2, p2, q2, rfl, rfl, rfl, h2, r2⟩ := trodAll_cons r1
  obtain ⟨rfl, rfl, rfl⟩ := trodAll_nil r2
  obtain rfl : args = #[v0, v1, v2] := by cases args; simp_all
  obtain ⟨rfl, rfl⟩ := trodVars_none hV
  have k0 := h0
  have lt0 : ∀ x ∈ p0, x.block < W.heap.size := by obtain ⟨m, hm⟩ := k0; exact DataW.trod_lt m _ _ _ hm
  obtain ⟨cs0, rfl, -⟩ := okWide_struct Tryz.underlying27 (hval 0 27 v0 rfl rfl)
  obtain ⟨y0, g0, -⟩ := Go.Proofs.YtblhmplpcdcejaaGreat.openX.open_val (s := Go.Proofs.YtblhmplpcdcejaaGreat.kindsR.sSystem) (n := 12) (by kernel_rfl) h0
  obtain ⟨u0_0, u0_1, e0⟩ := Go.Proofs.YtblhmplpcdcejaaGreat.kindsR.cells_System g0
  rw [e0] at g0
  obtain rfl : cs0 = #[u0_0, u0_1] := by have q : cs0.toList = [u0_0, u0_1] := e0; exact Array.toList_inj.1 q
  have k1 := h1
  have lt1 : ∀ x ∈ p1, x.block < W.heap.size := by obtain ⟨m, hm⟩ := k1; exact DataW.trod_lt m _ _ _ hm
  obtain ⟨cs1, rfl, -⟩ := okWide_struct Tryz.underlying30 (hval 1 30 v1 rfl rfl)
  obtain ⟨y1, g1, -⟩ := Go.Proofs.YtblhmplpcdcejaaGreat.openX.open_val (s := Go.Proofs.YtblhmplpcdcejaaGreat.kindsW.sWalk) (n := 12) (by kernel_rfl) h1
  obtain ⟨u1_0, u1_1, e1⟩ := Go.Proofs.YtblhmplpcdcejaaGreat.kindsW.cells_Walk g1
  rw [e1] at g1
  obtain rfl : cs1 = #[u1_0, u1_1] := by have q : cs1.toList = [u1_0, u1_1] := e1; exact Array.toList_inj.1 q
  have k2 := h2
  have lt2 : ∀ x ∈ p2, x.block < W.heap.size := by obtain ⟨m, hm⟩ := k2; exact DataW.trod_lt m _ _ _ hm
  obtain ⟨cs2, rfl, -⟩ := okWide_struct Tryz.underlying33 (hval 2 33 v2 rfl rfl)
  obtain ⟨y2, g2, -⟩ := Go.Proofs.YtblhmplpcdcejaaGreat.openX.open_val (s := Go.Proofs.YtblhmplpcdcejaaGreat.kindsT.sSubst) (n := 12) (by kernel_rfl) h2
  obtain ⟨u2_0, e2⟩ := Go.Proofs.YtblhmplpcdcejaaGreat.kindsT.cells_Subst g2
  rw [e2] at g2
  obtain rfl : cs2 = #[u2_0] := by have q : cs2.toList = [u2_0] := e2; exact Array.toList_inj.1 q
  clear hA0 hval0 hval
  refine (wWalkUnder.law u0_0 u0_1 y0 u1_0 u1_1 y1 u2_0 y2 W g0 g1 g2).mono fun e W' ⟨he, bel⟩ => ?_
  subst he
  exact ⟨_, rfl, _, _, _, [], _, [], hW', trodAll_mk1 (shut_bool Tryz.underlying4 _), (trodAll_cons_mk (Below.trod laidOut (by kernel_rfl) (of_decide_eq_true (by kernel_rfl)) k0 bel lt0) (trodAll_cons_mk (Below.trod laidOut (by kernel_rfl) (of_decide_eq_true (by kernel_rfl)) k1 bel lt1) (trodAll_cons_mk (Below.trod laidOut (by kernel_rfl) (of_decide_eq_true (by kernel_rfl)) k2 bel lt2) trodAll_mk0))), rfl, bel.frame _, fun h => by cases h⟩

theorem over : Rows.fnExactWalkUnderRow.holds Tryz.pinned (OpenSpec.ofChange Rows.fnExactWalkUnderSpec) :=
  OpenClaim.holds_of_wide 3 Tryz.f3 rfl rfl rfl rfl rfl rfl rfl ⟨rfl, rfl, rfl, rfl, rfl⟩ rfl rfl rfl rfl rfl (by kernel_rfl) Tryz.func3 (by kernel_rfl)
    (of_decide_eq_true (by kernel_rfl)) (by unfold Func.isWrapper; rw [if_neg (of_decide_eq_false (by kernel_rfl))]; exact ⟨rfl, rfl⟩)
    (fun os started H enc _ => lifted os started H enc)

theorem proved : Rows.FnExactWalkUnderSaid := over
end Go.Proofs.YtblhmplpcdcejaaGreat.fnExactWalkUnder
