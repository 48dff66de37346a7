/-
  WHAT IS PROVED: Rows.FnExactKboLessSaid: for every input the Go law laws.FnExactKboLess returns true, and each argument reads afterwards as it read before. Conditions: none beyond the row.
  The frame is written by a program of mine (frame.py); the walk is YtiimbmkofpnebaaWKboLess. By an AI agent.
-/
import Derived.Test.YtiimbmkofpnebaaMFnExactKboLess5
import Derived.Test.YtiimbmkofpnebaaRows
import Derived.WalkKit
import Derived.ProofKit
import Derived.OpenShut
import Derived.ShutString
import Derived.ChangeOld
import Derived.Below
namespace Go.Proofs.Ytiimbmkofpnebaa.fnExactKboLess
open Go.ChangeShapes Go.WideShapes Go.ChangeAt Go.RowKit Go.Proofs.Ytiimbmkofpnebaa.base Go.Proofs.Ytiimbmkofpnebaa.openArgs
set_option linter.unusedVariables false

theorem own : ownKnob Try.prog.godebug = none := by kernel_rfl
theorem laidOut : laidOutB Try.prog = true := by kernel_rfl

set_option maxRecDepth 100000 in
theorem lifted (os : Os) (started : os.Started) (H : Type) (enc : TypeId × Value → H) :
    ReturnsInHanded {} Try.checked os 9 .any (Rows.fnExactKboLessSpec.pre6 enc Try.prog Try.f9 Rows.fnExactKboLessRow.domain false) (Rows.fnExactKboLessSpec.post enc Try.prog Try.f9 false true false false) := by
  refine returnsInHanded_of_change (C := Try.checked) own started (by kernel_rfl) Try.func9
    (ChangeSpec.witness6 (enc := enc) (C := Try.checked) false ⟨#[], #[.agg #[.slice none 0 0], .agg #[.int .i64 0, .slice none 0 0, .slice none 0 0], .slice none 0 0, .slice none 0 0], []⟩ 8 (by kernel_rfl) (by kernel_rfl) (by kernel_rfl) (by kernel_rfl)) ?_
  intro W base args ds gs before hval0 hW hcnd _
  have hval : ∀ (j : Nat) t v, Try.f9.params[j]? = some t → args[j]? = some v → Value.okWide Try.prog W .any base t v := hval0
  have hW' := hW
  obtain ⟨p, q, hA0, hV, rfl, hfz, hnd⟩ := hW
  have hA : DataW.TrodAll enc Try.prog W 0 (fun _ => true) true Try.f9.params.toList args.toList ds p := hA0
  rw [Try.params9] at hA hval
  obtain ⟨v0, vs0, d0, ds0, p0, q0, hargs, rfl, rfl, h0, r0⟩ := trodAll_cons hA
  obtain ⟨v1, vs1, d1, ds1, p1, q1, rfl, rfl, rfl, h1, r1⟩ := trodAll_cons r0
  obtain ⟨v2, vs2, d2, ds2, p2, q2, rfl, rfl, rfl, h2, r2⟩ := trodAll_cons r1
  obtain ⟨v3, vs3, d3, ds3, p3, q3, rfl, rfl, rfl, h3, r3⟩ := trodAll_cons r2
  obtain ⟨rfl, rfl, rfl⟩ := trodAll_nil r3
  obtain rfl : args = #[v0, v1, v2, v3] := by cases args; simp_all
  obtain ⟨rfl, rfl⟩ := trodVars_none hV
  have k0 := h0
  have lt0 : ∀ x ∈ p0, x.block < W.heap.size := by obtain ⟨m, hm⟩ := k0; exact DataW.trod_lt m _ _ _ hm
  obtain ⟨cs0, rfl, -⟩ := okWide_struct Try.underlying58 (hval 0 58 v0 rfl rfl)
  obtain ⟨y0, g0, -⟩ := Go.Proofs.Ytiimbmkofpnebaa.openX.open_val (s := Go.Proofs.Ytiimbmkofpnebaa.kindsR.sSig) (n := 12) (by kernel_rfl) h0
  obtain ⟨u0_0, e0⟩ := Go.Proofs.Ytiimbmkofpnebaa.kindsR.cells_Sig g0
  rw [e0] at g0
  obtain rfl : cs0 = #[u0_0] := by have q : cs0.toList = [u0_0] := e0; exact Array.toList_inj.1 q
  have k1 := h1
  have lt1 : ∀ x ∈ p1, x.block < W.heap.size := by obtain ⟨m, hm⟩ := k1; exact DataW.trod_lt m _ _ _ hm
  obtain ⟨cs1, rfl, -⟩ := okWide_struct Try.underlying59 (hval 1 59 v1 rfl rfl)
  obtain ⟨y1, g1, -⟩ := Go.Proofs.Ytiimbmkofpnebaa.openX.open_val (s := Go.Proofs.Ytiimbmkofpnebaa.kindsK.sWeights) (n := 12) (by kernel_rfl) h1
  obtain ⟨u1_0, u1_1, e1⟩ := Go.Proofs.Ytiimbmkofpnebaa.kindsK.cells_Weights g1
  rw [e1] at g1
  obtain rfl : cs1 = #[.int .i64 y1.1, u1_0, u1_1] := by have q : cs1.toList = [.int .i64 y1.1, u1_0, u1_1] := e1; exact Array.toList_inj.1 q
  have k2 := h2
  have lt2 : ∀ x ∈ p2, x.block < W.heap.size := by obtain ⟨m, hm⟩ := k2; exact DataW.trod_lt m _ _ _ hm
  obtain ⟨a2, n2, c2, rfl⟩ := okWide_slice Try.underlying27 (hval 2 27 v2 rfl rfl)
  obtain ⟨y2, g2, -⟩ := Go.Proofs.Ytiimbmkofpnebaa.openX.open_val (s := Go.Proofs.Ytiimbmkofpnebaa.shape.sI) (n := 12) (by kernel_rfl) h2
  have k3 := h3
  have lt3 : ∀ x ∈ p3, x.block < W.heap.size := by obtain ⟨m, hm⟩ := k3; exact DataW.trod_lt m _ _ _ hm
  obtain ⟨a3, n3, c3, rfl⟩ := okWide_slice Try.underlying27 (hval 3 27 v3 rfl rfl)
  obtain ⟨y3, g3, -⟩ := Go.Proofs.Ytiimbmkofpnebaa.openX.open_val (s := Go.Proofs.Ytiimbmkofpnebaa.shape.sI) (n := 12) (by kernel_rfl) h3
  clear hA0 hval0 hval
  refine (wKboLess.law u0_0 y0 u1_0 u1_1 y1 a2 n2 c2 y2 a3 n3 c3 y3 W g0 g1 g2 g3).mono fun e W' ⟨he, bel⟩ => ?_
  subst he
  exact ⟨_, rfl, _, _, _, [], _, [], hW', trodAll_mk1 (shut_bool Try.underlying4 _), (trodAll_cons_mk (Below.trod laidOut (by kernel_rfl) (of_decide_eq_true (by kernel_rfl)) k0 bel lt0) (trodAll_cons_mk (Below.trod laidOut (by kernel_rfl) (of_decide_eq_true (by kernel_rfl)) k1 bel lt1) (trodAll_cons_mk (Below.trod laidOut (by kernel_rfl) (of_decide_eq_true (by kernel_rfl)) k2 bel lt2) (trodAll_cons_mk (Below.trod laidOut (by kernel_rfl) (of_decide_eq_true (by kernel_rfl)) k3 bel lt3) trodAll_mk0)))), rfl, bel.frame _, fun h => by cases h⟩

theorem over : Rows.fnExactKboLessRow.holds Try.pinned (OpenSpec.ofChange Rows.fnExactKboLessSpec) :=
  OpenClaim.holds_of_wide 9 Try.f9 rfl rfl rfl rfl rfl rfl rfl ⟨rfl, rfl, rfl, rfl, rfl⟩ rfl rfl rfl rfl rfl (by kernel_rfl) Try.func9 (by kernel_rfl)
    (of_decide_eq_true (by kernel_rfl)) (by unfold Func.isWrapper; rw [if_neg (of_decide_eq_false (by kernel_rfl))]; exact ⟨rfl, rfl⟩)
    (fun os started H enc _ => lifted os started H enc)

theorem proved : Rows.FnExactKboLessSaid := over
end Go.Proofs.Ytiimbmkofpnebaa.fnExactKboLess
