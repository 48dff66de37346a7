/-
  WHAT IS PROVED: Rows.FnExactSubstTextSaid: for every input the Go law laws.FnExactSubstText returns true, and each argument reads afterwards as it read before. Conditions: none beyond the row.
  The frame is written by a program of mine (frame.py); the walk is YtlaloakegajheabDoorWSubstText. By an AI agent.
-/
import Derived.Test.YtlaloakegajheabDoorMFnExactSubstText4
import Derived.Test.YtlaloakegajheabDoorRows
import Derived.WalkKit
import Derived.ProofKit
import Derived.OpenShut
import Derived.ShutString
import Derived.ChangeOld
import Derived.Below
import Derived.Test.YtlaloakegajheabDoorTie
import Derived.Test.YtlaloakegajheabDoorCards
import Derived.Lay
import Derived.SevenTiedAt
import Derived.LaidHandle
namespace Go.Proofs.YtlaloakegajheabDoor.fnExactSubstText
open Go.ChangeShapes Go.WideShapes Go.ChangeAt Go.RowKit Go.Proofs.YtlaloakegajheabDoor.base Go.Proofs.YtlaloakegajheabDoor.openArgs
set_option linter.unusedVariables false

theorem own : ownKnob Tryd.prog.godebug = none := by kernel_rfl
theorem laidOut : laidOutB Tryd.prog = true := by kernel_rfl

theorem laidW (os : Os) (args : Array Value) : laidMetH Tryd.prog Rows.fnExactSubstTextRow.laid ((World.laidAll Tryd.prog os Rows.fnExactSubstTextRow.laid).forCall (fun _ _ => 0) ⟨#[], args, []⟩).memory :=
  (laidMet_laidAll (P := Tryd.prog) (os := os) (laid := Rows.fnExactSubstTextRow.laid) args (by kernel_rfl) (by kernel_rfl) :)

set_option maxRecDepth 100000 in
theorem lifted (os : Os) (started : os.Started) (H : Type) (enc : TypeId × Value → H) :
    ReturnsInHanded {} Tryd.checked os 7 .any (fun w args => (Rows.fnExactSubstTextSpec.pre enc Tryd.prog Tryd.f7 [] false w args ∧ laidMetH Tryd.prog Rows.fnExactSubstTextRow.laid w) ∧ sizedMet enc Tryd.prog Tryd.f7 (OpenSpec.ofChange Rows.fnExactSubstTextSpec) false w args) (Rows.fnExactSubstTextSpec.post enc Tryd.prog Tryd.f7 false true false false) := by
  refine returnsInHanded_of_change_and (C := Tryd.checked) (X := fun w _ => laidMetH Tryd.prog Rows.fnExactSubstTextRow.laid w) (fun _ _ _ hh h => h.of_heap hh) own started (by kernel_rfl) Tryd.func7
    (ChangeSpec.witness_at (enc := enc) (C := Tryd.checked) (os := os) (X := fun w _ => laidMetH Tryd.prog Rows.fnExactSubstTextRow.laid w) false (World.laidAll Tryd.prog os Rows.fnExactSubstTextRow.laid) #[.agg #[.slice none 0 0], .agg #[.slice none 0 0]] 8 (World.laidAll_os _ _ _) (by kernel_rfl) (by kernel_rfl) (by kernel_rfl) (by kernel_rfl) (by kernel_rfl) (laidW os _)) ?_
  intro W base args ds gs before hval0 hW hcnd _ hL _
  have hval : ∀ (j : Nat) t v, Tryd.f7.params[j]? = some t → args[j]? = some v → Value.okWide Tryd.prog W .any base t v := hval0
  have hW' := hW
  obtain ⟨p, q, hA0, hV, rfl, hfz, hnd⟩ := hW
  have hA : DataW.TrodAll enc Tryd.prog W 0 (fun _ => true) true Tryd.f7.params.toList args.toList ds p := hA0
  rw [Tryd.params7] at hA hval
  obtain ⟨v0, vs0, d0, ds0, p0, q0, hargs, rfl, rfl, h0, r0⟩ := trodAll_cons hA
  obtain ⟨v1, vs1, d1, ds1, p1, q1, rfl, rfl, rfl, h1, r1⟩ := trodAll_cons r0
  obtain ⟨rfl, rfl, rfl⟩ := trodAll_nil r1
  obtain rfl : args = #[v0, v1] := by cases args; simp_all
  obtain ⟨rfl, rfl⟩ := trodVars_none hV
  have k0 := h0
  have lt0 : ∀ x ∈ p0, x.block < W.heap.size := by obtain ⟨m, hm⟩ := k0; exact DataW.trod_lt m _ _ _ hm
  obtain ⟨cs0, rfl, -⟩ := okWide_struct Tryd.underlying24 (hval 0 24 v0 rfl rfl)
  obtain ⟨y0, g0, -⟩ := Go.Proofs.YtlaloakegajheabDoor.openX.open_val (s := Go.Proofs.YtlaloakegajheabDoor.kindsR.sSig) (n := 12) (by kernel_rfl) h0
  obtain ⟨u0_0, e0⟩ := Go.Proofs.YtlaloakegajheabDoor.kindsR.cells_Sig g0
  rw [e0] at g0
  obtain rfl : cs0 = #[u0_0] := by have q : cs0.toList = [u0_0] := e0; exact Array.toList_inj.1 q
  have k1 := h1
  have lt1 : ∀ x ∈ p1, x.block < W.heap.size := by obtain ⟨m, hm⟩ := k1; exact DataW.trod_lt m _ _ _ hm
  obtain ⟨cs1, rfl, -⟩ := okWide_struct Tryd.underlying50 (hval 1 50 v1 rfl rfl)
  obtain ⟨y1, g1, -⟩ := Go.Proofs.YtlaloakegajheabDoor.openX.open_val (s := Go.Proofs.YtlaloakegajheabDoor.kindsT.sSubst) (n := 12) (by kernel_rfl) h1
  obtain ⟨u1_0, e1⟩ := Go.Proofs.YtlaloakegajheabDoor.kindsT.cells_Subst g1
  rw [e1] at g1
  obtain rfl : cs1 = #[u1_0] := by have q : cs1.toList = [u1_0] := e1; exact Array.toList_inj.1 q
  clear hA0 hval0 hval
  refine (wSubstText.law u0_0 y0 u1_0 y1 W g0 g1).mono fun e W' ⟨he, bel⟩ => ?_
  subst he
  exact ⟨_, rfl, _, _, _, [], _, [], hW', trodAll_mk1 (shut_bool Tryd.underlying4 _), (trodAll_cons_mk (Below.trod laidOut (by kernel_rfl) (of_decide_eq_true (by kernel_rfl)) k0 bel lt0) (trodAll_cons_mk (Below.trod laidOut (by kernel_rfl) (of_decide_eq_true (by kernel_rfl)) k1 bel lt1) trodAll_mk0)), rfl, bel.frame _, fun h => by cases h⟩

theorem over : Rows.fnExactSubstTextRow.holds Tryd.pinned (OpenSpec.ofChange Rows.fnExactSubstTextSpec) :=
  OpenClaim.holds_of_wide 7 Tryd.f7 rfl rfl rfl rfl rfl rfl rfl ⟨rfl, rfl, rfl, rfl, rfl⟩ rfl rfl rfl rfl rfl (by kernel_rfl) Tryd.func7 (by kernel_rfl)
    (of_decide_eq_true (by kernel_rfl)) (by unfold Func.isWrapper; rw [if_neg (of_decide_eq_false (by kernel_rfl))]; exact ⟨rfl, rfl⟩)
    (fun os started H enc _ => lifted os started H enc)

theorem proved : Rows.FnExactSubstTextCardSaid :=
  Claim7.holds_tied_plain_at .later [] [.data, .data, .data] true (true, "e03eb5a31bdaee7a4aaa18b0ff03e812508b121ea95f3ef92dcacf57fe28e8ad") true
    over (fun _ h => by cases h) (by kernel_rfl) (fun _ h => by cases h) fnExactSubstText_row_tie rfl ⟨rfl, rfl⟩ (by kernel_rfl) rfl
    (fun f fn hf hfn => by
      obtain rfl : f = 7 := Option.some.inj ((show Tryd.prog.funcNamed "loop.example/g00895/laws.FnExactSubstText" = some 7 by kernel_rfl).symm.trans hf) |>.symm
      obtain rfl : fn = Tryd.f7 := (Option.some.inj (Tryd.func7.symm.trans hfn)).symm
      exact ⟨by kernel_rfl, fun j t ht => by
        rw [Tryd.params7] at ht
        rcases j with _ | j
        · have h3 : t = 24 := by simpa using ht.symm
          subst h3
          exact (show Tryd.prog.wantsStandIn 24 = false by kernel_rfl)
        rcases j with _ | j
        · have h3 : t = 50 := by simpa using ht.symm
          subst h3
          exact (show Tryd.prog.wantsStandIn 50 = false by kernel_rfl)
        simp at ht⟩)
    (by kernel_rfl)
end Go.Proofs.YtlaloakegajheabDoor.fnExactSubstText
