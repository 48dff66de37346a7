/-
  No cell of these rows narrows 'for every input' (looked for: loops, veiled, ifaces, maps, wideKeys, modest, calm, conditions, laid).
  DERIVED. THE GIVEN ROWS OF THIS SEAT. 4 by the template 'for every input the law returns true; each argument reads behind the call as it read before'; 0 by the template 'total and deterministic' (their statements: YtlaloakegajheaaGreatTotals.lean).
  GIVEN WITH THE SEED: the statements are not yours to turn. If you find one false, say at which input.
  Laid BY PROGRAM, IN A SANDBOX (cutbox-rows.mjs): the forced cells as the released guide's own fill.sh prints them over the translation 04184310505e89d9… (all of the seat's roots in one cut). By AI agents, Wed Nov 11 2026. No macro, syntax, notation, axiom, sorry.
-/
import Derived.Test.YtlaloakegajheaaGreatChecked
import GoSem.Claim
import GoSem.ClaimJoined
import GoSem.ClaimMapViews
import Derived.JoinedTies
import Derived.KernelRfl
namespace Go.Proofs.YtlaloakegajheaaGreat
/- THE CELL 'sum', in the pinned program and in every row, IS THE sha256 OF THE DUMP (.gsa) THAT YtlaloakegajheaaGreatProg.lean LOADS. Nothing in Lean hashes anything: it is a label: what it is worth is what the hold of that sum in a sandbox is worth. -/
noncomputable def Tryz.pinned : Pinned := { name := "ytlaloakegajheaagreat", sum := "04184310505e89d9b7658f235717672967815df4a323a4eb805f8b26ce4fcf1b", checked := Tryz.checked }
namespace Rows
def none {H : Type} : Left H := { results := [], args := [] }

/-- 'laws.FnPeakSteps': WHATEVER THE INPUT: true; the input reads as it did. -/
def fnPeakStepsSpec : ChangeSpec := { name := "fnPeakSteps", fn := fun _ => fun
  | [d] => { results := [.lit (.bool true)], args := [d] }
  | _ => none }
def fnPeakStepsRow : OpenClaim := { program := "ytlaloakegajheaagreat", sum := "04184310505e89d9b7658f235717672967815df4a323a4eb805f8b26ce4fcf1b", func := "loop.example/g00895/laws.FnPeakSteps", spec := "fnPeakSteps", unfollowed := true, recurses := true, apart := false }
def FnPeakStepsSaid : Prop := fnPeakStepsRow.holds Tryz.pinned (OpenSpec.ofChange fnPeakStepsSpec)

/-- ITS FALSE NEIGHBOUR: 'it returns false'. Refute it at one input. -/
def fnPeakStepsWrong : ChangeSpec := { name := "fnPeakSteps", fn := fun _ => fun
  | [d] => { results := [.lit (.bool false)], args := [d] }
  | _ => none }
def FnPeakStepsWrongFalsely : Prop := fnPeakStepsRow.holds Tryz.pinned (OpenSpec.ofChange fnPeakStepsWrong)

/-- 'laws.FnPeakGeneral': WHATEVER THE INPUT: true; the input reads as it did. -/
def fnPeakGeneralSpec : ChangeSpec := { name := "fnPeakGeneral", fn := fun _ => fun
  | [d] => { results := [.lit (.bool true)], args := [d] }
  | _ => none }
def fnPeakGeneralRow : OpenClaim := { program := "ytlaloakegajheaagreat", sum := "04184310505e89d9b7658f235717672967815df4a323a4eb805f8b26ce4fcf1b", func := "loop.example/g00895/laws.FnPeakGeneral", spec := "fnPeakGeneral", unfollowed := true, recurses := true, apart := false }
def FnPeakGeneralSaid : Prop := fnPeakGeneralRow.holds Tryz.pinned (OpenSpec.ofChange fnPeakGeneralSpec)

/-- ITS FALSE NEIGHBOUR: 'it returns false'. Refute it at one input. -/
def fnPeakGeneralWrong : ChangeSpec := { name := "fnPeakGeneral", fn := fun _ => fun
  | [d] => { results := [.lit (.bool false)], args := [d] }
  | _ => none }
def FnPeakGeneralWrongFalsely : Prop := fnPeakGeneralRow.holds Tryz.pinned (OpenSpec.ofChange fnPeakGeneralWrong)

/-- 'laws.FnExactPeakUnder': WHATEVER THE INPUT: true; the input reads as it did. -/
def fnExactPeakUnderSpec : ChangeSpec := { name := "fnExactPeakUnder", fn := fun _ => fun
  | [d1, d2, d3] => { results := [.lit (.bool true)], args := [d1, d2, d3] }
  | _ => none }
def fnExactPeakUnderRow : OpenClaim := { program := "ytlaloakegajheaagreat", sum := "04184310505e89d9b7658f235717672967815df4a323a4eb805f8b26ce4fcf1b", func := "loop.example/g00895/laws.FnExactPeakUnder", spec := "fnExactPeakUnder", unfollowed := true, recurses := true, apart := false }
def FnExactPeakUnderSaid : Prop := fnExactPeakUnderRow.holds Tryz.pinned (OpenSpec.ofChange fnExactPeakUnderSpec)

/-- ITS FALSE NEIGHBOUR: 'it returns false'. Refute it at one input. -/
def fnExactPeakUnderWrong : ChangeSpec := { name := "fnExactPeakUnder", fn := fun _ => fun
  | [d1, d2, d3] => { results := [.lit (.bool false)], args := [d1, d2, d3] }
  | _ => none }
def FnExactPeakUnderWrongFalsely : Prop := fnExactPeakUnderRow.holds Tryz.pinned (OpenSpec.ofChange fnExactPeakUnderWrong)

/-- 'laws.FnReached': WHATEVER THE INPUT: true; the input reads as it did. -/
def fnReachedSpec : ChangeSpec := { name := "fnReached", fn := fun _ => fun
  | [d] => { results := [.lit (.bool true)], args := [d] }
  | _ => none }
def fnReachedRow : OpenClaim := { program := "ytlaloakegajheaagreat", sum := "04184310505e89d9b7658f235717672967815df4a323a4eb805f8b26ce4fcf1b", func := "loop.example/g00895/laws.FnReached", spec := "fnReached", unfollowed := true, recurses := true, apart := false }
def FnReachedSaid : Prop := fnReachedRow.holds Tryz.pinned (OpenSpec.ofChange fnReachedSpec)

/-- ITS FALSE NEIGHBOUR: 'it returns false'. Refute it at one input. -/
def fnReachedWrong : ChangeSpec := { name := "fnReached", fn := fun _ => fun
  | [d] => { results := [.lit (.bool false)], args := [d] }
  | _ => none }
def FnReachedWrongFalsely : Prop := fnReachedRow.holds Tryz.pinned (OpenSpec.ofChange fnReachedWrong)

/- THE SECOND FORM. 'bulk': how many values and letters a reading holds, each counted each time it is reached (what is shared counts as often as it is met; a slice's spare places count too). A statement '..UptoSaid' is the law's where the arguments, and the package variables that the reading takes, are together of bulk at most 1048576: NARROWER than '..Said'. Prove '..Said' where nothing that the law and all that it calls make is longer than what came in: it says more and counts as full. Else prove '..UptoSaid'. A law counts once. -/
mutual
def uptoBulk {H : Type} : DataW H → Nat
  | .lit (.string bytes) => bytes.length + 1
  | .lit _ => 1
  | .nil => 1
  | .ptr d => uptoBulk d + 1
  | .slice elems spare => uptoBulkAll elems + uptoBulkAll spare + 1
  | .agg parts => uptoBulkAll parts + 1
  | .iface _ d => uptoBulk d + 1
  | .map entries => uptoBulkEntries entries + 1
  | .held _ => 1
def uptoBulkAll {H : Type} : List (DataW H) → Nat
  | [] => 0
  | d :: r => uptoBulk d + uptoBulkAll r
def uptoBulkEntries {H : Type} : List (Lit × DataW H) → Nat
  | [] => 0
  | x :: r => uptoBulkEntry x + uptoBulkEntries r
def uptoBulkEntry {H : Type} : Lit × DataW H → Nat
  | (.string bytes, d) => bytes.length + uptoBulk d + 1
  | (_, d) => uptoBulk d + 1
 end
def uptoSmall : (H : Type) → List (DataW H) → Bool := fun _ ds => decide (uptoBulkAll ds ≤ 1048576)
def OpenSpec.upto (s : _root_.Go.ChangeSpec) : _root_.Go.OpenSpec := { _root_.Go.OpenSpec.ofChange s with cond := some uptoSmall }

/-- 'laws.FnPeakSteps', WHERE WHAT IT READS IS OF BULK AT MOST 1048576: true; the input reads as it did. -/
def fnPeakStepsUptoRow : OpenClaim := { program := "ytlaloakegajheaagreat", sum := "04184310505e89d9b7658f235717672967815df4a323a4eb805f8b26ce4fcf1b", func := "loop.example/g00895/laws.FnPeakSteps", spec := "fnPeakSteps", unfollowed := true, recurses := true, apart := false, narrowed := true }
def FnPeakStepsUptoSaid : Prop := fnPeakStepsUptoRow.holds Tryz.pinned (OpenSpec.upto fnPeakStepsSpec)

/-- 'laws.FnPeakGeneral', WHERE WHAT IT READS IS OF BULK AT MOST 1048576: true; the input reads as it did. -/
def fnPeakGeneralUptoRow : OpenClaim := { program := "ytlaloakegajheaagreat", sum := "04184310505e89d9b7658f235717672967815df4a323a4eb805f8b26ce4fcf1b", func := "loop.example/g00895/laws.FnPeakGeneral", spec := "fnPeakGeneral", unfollowed := true, recurses := true, apart := false, narrowed := true }
def FnPeakGeneralUptoSaid : Prop := fnPeakGeneralUptoRow.holds Tryz.pinned (OpenSpec.upto fnPeakGeneralSpec)

/-- 'laws.FnExactPeakUnder', WHERE WHAT IT READS IS OF BULK AT MOST 1048576: true; the input reads as it did. -/
def fnExactPeakUnderUptoRow : OpenClaim := { program := "ytlaloakegajheaagreat", sum := "04184310505e89d9b7658f235717672967815df4a323a4eb805f8b26ce4fcf1b", func := "loop.example/g00895/laws.FnExactPeakUnder", spec := "fnExactPeakUnder", unfollowed := true, recurses := true, apart := false, narrowed := true }
def FnExactPeakUnderUptoSaid : Prop := fnExactPeakUnderUptoRow.holds Tryz.pinned (OpenSpec.upto fnExactPeakUnderSpec)

/-- 'laws.FnReached', WHERE WHAT IT READS IS OF BULK AT MOST 1048576: true; the input reads as it did. -/
def fnReachedUptoRow : OpenClaim := { program := "ytlaloakegajheaagreat", sum := "04184310505e89d9b7658f235717672967815df4a323a4eb805f8b26ce4fcf1b", func := "loop.example/g00895/laws.FnReached", spec := "fnReached", unfollowed := true, recurses := true, apart := false, narrowed := true }
def FnReachedUptoSaid : Prop := fnReachedUptoRow.holds Tryz.pinned (OpenSpec.upto fnReachedSpec)

end Rows
end Go.Proofs.YtlaloakegajheaaGreat
