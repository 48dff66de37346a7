/-
  WHAT IS PROVED: Rows.FnExactKboOrientsSaid: for every input the Go law laws.FnExactKboOrients returns true, and each argument reads afterwards as it read before. Conditions: none beyond the row.
  The frame is written by a program of mine (frame.py); the walk is YtiimbmkofpnebaaWKboOrients. By an AI agent.
-/
import Derived.Test.YtiimbmkofpnebaaMFnExactKboOrients6
import Derived.Test.YtiimbmkofpnebaaRows
import Derived.WalkKit
import Derived.ProofKit
import Derived.OpenShut
import Derived.ShutString
import Derived.ChangeOld
import Derived.Below
namespace Go.Proofs.Ytiimbmkofpnebaa.fnExactKboOrients
open Go.ChangeShapes Go.WideShapes Go.ChangeAt Go.RowKit Go.Proofs.Ytiimbmkofpnebaa.base Go.Proofs.Ytiimbmkofpnebaa.openArgs
set_option linter.unusedVariables false

theorem own : ownKnob Try.prog.godebug = none := by kernel_rfl
theorem laidOut : laidOutB Try.prog = true := by kernel_rfl

set_option maxRecDepth 100000 in
theorem lifted (os : Os) (started : os.Started) (H : Type) (enc : TypeId × Value → H) :
    ReturnsInHanded {} Try.checked os 11 .any (Rows.fnExactKboOrientsSpec.pre6 enc Try.prog Try.f11 Rows.fnExactKboOrientsRow.domain false) (Rows.fnExactKboOrientsSpec.post enc Try.prog Try.f11 false true false false) := by
  refine returnsInHanded_of_change (C := Try.checked) own started (by kernel_rfl) Try.func11
    (ChangeSpec.witness6 (enc := enc) (C := Try.checked) false ⟨#[], #[.agg #[.slice none 0 0, .slice none 0 0], .agg #[.int .i64 0, .slice none 0 0, .slice none 0 0]], []⟩ 8 (by kernel_rfl) (by kernel_rfl) (by kernel_rfl) (by kernel_rfl)) ?_
  intro W base args ds gs before hval0 hW hcnd _
  have hval : ∀ (j : Nat) t v, Try.f11.params[j]? = some t → args[j]? = some v → Value.okWide Try.prog W .any base t v := hval0
  have hW' := hW
  obtain ⟨p, q, hA0, hV, rfl, hfz, hnd⟩ := hW
  have hA : DataW.TrodAll enc Try.prog W 0 (fun _ => true) true Try.f11.params.toList args.toList ds p := hA0
  rw [Try.params11] at hA hval
  obtain ⟨v0, vs0, d0, ds0, p0, q0, hargs, rfl, rfl, h0, r0⟩ := trodAll_cons hA
  obtain ⟨v1, vs1, d1, ds1, p1, q1, rfl, rfl, rfl, h1, r1⟩ := trodAll_cons r0
  obtain ⟨rfl, rfl, rfl⟩ := trodAll_nil r1
  obtain rfl : args = #[v0, v1] := by cases args; simp_all
  obtain ⟨rfl, rfl⟩ := trodVars_none hV
  have k0 := h0
  have lt0 : ∀ x ∈ p0, x.block < W.heap.size := by obtain ⟨m, hm⟩ := k0; exact DataW.trod_lt m _ _ _ hm
  obtain ⟨cs0, rfl, -⟩ := okWide_struct Try.underlying73 (hval 0 73 v0 rfl rfl)
  obtain ⟨y0, g0, -⟩ := Go.Proofs.Ytiimbmkofpnebaa.openX.open_val (s := Go.Proofs.Ytiimbmkofpnebaa.kindsR.sSystem) (n := 12) (by kernel_rfl) h0
  obtain ⟨u0_0, u0_1, e0⟩ := Go.Proofs.Ytiimbmkofpnebaa.kindsR.cells_System g0
  rw [e0] at g0
  obtain rfl : cs0 = #[u0_0, u0_1] := by have q : cs0.toList = [u0_0, u0_1] := e0; exact Array.toList_inj.1 q
  have k1 := h1
  have lt1 : ∀ x ∈ p1, x.block < W.heap.size := by obtain ⟨m, hm⟩ := k1; exact DataW.trod_lt m _ _ _ hm
  obtain ⟨cs1, rfl, -⟩ := okWide_struct Try.underlying59 (hval 1 59 v1 rfl rfl)
  obtain ⟨y1, g1, -⟩ := Go.Proofs.Ytiimbmkofpnebaa.openX.open_val (s := Go.Proofs.Ytiimbmkofpnebaa.kindsK.sWeights) (n := 12) (by kernel_rfl) h1
  obtain ⟨u1_0, u1_1, e1⟩ := Go.Proofs.Ytiimbmkofpnebaa.kindsK.cells_Weights g1
  rw [e1] at g1
  obtain rfl : cs1 = #[.int .i64 y1.1, u1_0, u1_1] := by have q : cs1.toList = [.int .i64 y1.1, u1_0, u1_1] := e1; exact Array.toList_inj.1 q
  clear hA0 hval0 hval
  refine (wKboOrients.law u0_0 u0_1 y0 u1_0 u1_1 y1 W g0 g1).mono fun e W' ⟨he, bel⟩ => ?_
  subst he
  exact ⟨_, rfl, _, _, _, [], _, [], hW', trodAll_mk1 (shut_bool Try.underlying4 _), (trodAll_cons_mk (Below.trod laidOut (by kernel_rfl) (of_decide_eq_true (by kernel_rfl)) k0 bel lt0) (trodAll_cons_mk (Below.trod laidOut (by kernel_rfl) (of_decide_eq_true (by kernel_rfl)) k1 bel lt1) trodAll_mk0)), rfl, bel.frame _, fun h => by cases h⟩

theorem over : Rows.fnExactKboOrientsRow.holds Try.pinned (OpenSpec.ofChange Rows.fnExactKboOrientsSpec) :=
  OpenClaim.holds_of_wide 11 Try.f11 rfl rfl rfl rfl rfl rfl rfl ⟨rfl, rfl, rfl, rfl, rfl⟩ rfl rfl rfl rfl rfl (by kernel_rfl) Try.func11 (by kernel_rfl)
    (of_decide_eq_true (by kernel_rfl)) (by unfold Func.isWrapper; rw [if_neg (of_decide_eq_false (by kernel_rfl))]; exact ⟨rfl, rfl⟩)
    (fun os started H enc _ => lifted os started H enc)

theorem proved : Rows.FnExactKboOrientsSaid := over
end Go.Proofs.Ytiimbmkofpnebaa.fnExactKboOrients
