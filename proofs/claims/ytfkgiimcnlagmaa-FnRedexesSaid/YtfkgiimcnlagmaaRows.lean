/-
  No cell of these rows narrows 'for every input' (looked for: loops, veiled, ifaces, maps, wideKeys, modest, calm, conditions, laid).
  DERIVED. THE GIVEN ROWS OF THIS SEAT. 8 by the template 'for every input the law returns true; each argument reads behind the call as it read before'; 0 by the template 'total and deterministic' (their statements: YtfkgiimcnlagmaaTotals.lean).
  GIVEN WITH THE SEED: the statements are not yours to turn. If you find one false, say at which input.
  Laid BY PROGRAM, IN A SANDBOX (cutbox-rows.mjs): the forced cells as the released guide's own fill.sh prints them over the translation 4f76a8ada257aa36… (all of the seat's roots in one cut). By AI agents, Wed Nov 11 2026. No macro, syntax, notation, axiom, sorry.
-/
import Derived.Test.YtfkgiimcnlagmaaChecked
import GoSem.Claim
import GoSem.ClaimJoined
import GoSem.ClaimMapViews
import Derived.JoinedTies
import Derived.KernelRfl
namespace Go.Proofs.Ytfkgiimcnlagmaa
/- THE CELL 'sum', in the pinned program and in every row, IS THE sha256 OF THE DUMP (.gsa) THAT YtfkgiimcnlagmaaProg.lean LOADS. Nothing in Lean hashes anything: it is a label: what it is worth is what the hold of that sum in a sandbox is worth. -/
noncomputable def Try.pinned : Pinned := { name := "ytfkgiimcnlagmaa", sum := "4f76a8ada257aa362c960fca8dc8c5b2c3b6adf15279ba415f9a2d289e764ab1", checked := Try.checked }
namespace Rows
def none {H : Type} : Left H := { results := [], args := [] }

/-- 'laws.FnRedexes': WHATEVER THE INPUT: true; the input reads as it did. -/
def fnRedexesSpec : ChangeSpec := { name := "fnRedexes", fn := fun _ => fun
  | [d] => { results := [.lit (.bool true)], args := [d] }
  | _ => none }
def fnRedexesRow : OpenClaim := { program := "ytfkgiimcnlagmaa", sum := "4f76a8ada257aa362c960fca8dc8c5b2c3b6adf15279ba415f9a2d289e764ab1", func := "loop.example/g00895/laws.FnRedexes", spec := "fnRedexes", unfollowed := true, recurses := true, apart := false }
def FnRedexesSaid : Prop := fnRedexesRow.holds Try.pinned (OpenSpec.ofChange fnRedexesSpec)

/-- ITS FALSE NEIGHBOUR: 'it returns false'. Refute it at one input. -/
def fnRedexesWrong : ChangeSpec := { name := "fnRedexes", fn := fun _ => fun
  | [d] => { results := [.lit (.bool false)], args := [d] }
  | _ => none }
def FnRedexesWrongFalsely : Prop := fnRedexesRow.holds Try.pinned (OpenSpec.ofChange fnRedexesWrong)

/-- 'laws.FnExactPickBy': WHATEVER THE INPUT: true; the input reads as it did. -/
def fnExactPickBySpec : ChangeSpec := { name := "fnExactPickBy", fn := fun _ => fun
  | [d1, d2, d3] => { results := [.lit (.bool true)], args := [d1, d2, d3] }
  | _ => none }
def fnExactPickByRow : OpenClaim := { program := "ytfkgiimcnlagmaa", sum := "4f76a8ada257aa362c960fca8dc8c5b2c3b6adf15279ba415f9a2d289e764ab1", func := "loop.example/g00895/laws.FnExactPickBy", spec := "fnExactPickBy", unfollowed := true, recurses := true, apart := false }
def FnExactPickBySaid : Prop := fnExactPickByRow.holds Try.pinned (OpenSpec.ofChange fnExactPickBySpec)

/-- ITS FALSE NEIGHBOUR: 'it returns false'. Refute it at one input. -/
def fnExactPickByWrong : ChangeSpec := { name := "fnExactPickBy", fn := fun _ => fun
  | [d1, d2, d3] => { results := [.lit (.bool false)], args := [d1, d2, d3] }
  | _ => none }
def FnExactPickByWrongFalsely : Prop := fnExactPickByRow.holds Try.pinned (OpenSpec.ofChange fnExactPickByWrong)

/-- 'laws.FnExactNormalBy': WHATEVER THE INPUT: true; the input reads as it did. -/
def fnExactNormalBySpec : ChangeSpec := { name := "fnExactNormalBy", fn := fun _ => fun
  | [d1, d2, d3, d4] => { results := [.lit (.bool true)], args := [d1, d2, d3, d4] }
  | _ => none }
def fnExactNormalByRow : OpenClaim := { program := "ytfkgiimcnlagmaa", sum := "4f76a8ada257aa362c960fca8dc8c5b2c3b6adf15279ba415f9a2d289e764ab1", func := "loop.example/g00895/laws.FnExactNormalBy", spec := "fnExactNormalBy", unfollowed := true, recurses := true, apart := false }
def FnExactNormalBySaid : Prop := fnExactNormalByRow.holds Try.pinned (OpenSpec.ofChange fnExactNormalBySpec)

/-- ITS FALSE NEIGHBOUR: 'it returns false'. Refute it at one input. -/
def fnExactNormalByWrong : ChangeSpec := { name := "fnExactNormalBy", fn := fun _ => fun
  | [d1, d2, d3, d4] => { results := [.lit (.bool false)], args := [d1, d2, d3, d4] }
  | _ => none }
def FnExactNormalByWrongFalsely : Prop := fnExactNormalByRow.holds Try.pinned (OpenSpec.ofChange fnExactNormalByWrong)

/-- 'laws.FnExactCountBy': WHATEVER THE INPUT: true; the input reads as it did. -/
def fnExactCountBySpec : ChangeSpec := { name := "fnExactCountBy", fn := fun _ => fun
  | [d1, d2, d3, d4] => { results := [.lit (.bool true)], args := [d1, d2, d3, d4] }
  | _ => none }
def fnExactCountByRow : OpenClaim := { program := "ytfkgiimcnlagmaa", sum := "4f76a8ada257aa362c960fca8dc8c5b2c3b6adf15279ba415f9a2d289e764ab1", func := "loop.example/g00895/laws.FnExactCountBy", spec := "fnExactCountBy", unfollowed := true, recurses := true, apart := false }
def FnExactCountBySaid : Prop := fnExactCountByRow.holds Try.pinned (OpenSpec.ofChange fnExactCountBySpec)

/-- ITS FALSE NEIGHBOUR: 'it returns false'. Refute it at one input. -/
def fnExactCountByWrong : ChangeSpec := { name := "fnExactCountBy", fn := fun _ => fun
  | [d1, d2, d3, d4] => { results := [.lit (.bool false)], args := [d1, d2, d3, d4] }
  | _ => none }
def FnExactCountByWrongFalsely : Prop := fnExactCountByRow.holds Try.pinned (OpenSpec.ofChange fnExactCountByWrong)

/-- 'laws.FnExactRedexesIn': WHATEVER THE INPUT: true; the input reads as it did. -/
def fnExactRedexesInSpec : ChangeSpec := { name := "fnExactRedexesIn", fn := fun _ => fun
  | [d1, d2] => { results := [.lit (.bool true)], args := [d1, d2] }
  | _ => none }
def fnExactRedexesInRow : OpenClaim := { program := "ytfkgiimcnlagmaa", sum := "4f76a8ada257aa362c960fca8dc8c5b2c3b6adf15279ba415f9a2d289e764ab1", func := "loop.example/g00895/laws.FnExactRedexesIn", spec := "fnExactRedexesIn", unfollowed := true, recurses := true, apart := false }
def FnExactRedexesInSaid : Prop := fnExactRedexesInRow.holds Try.pinned (OpenSpec.ofChange fnExactRedexesInSpec)

/-- ITS FALSE NEIGHBOUR: 'it returns false'. Refute it at one input. -/
def fnExactRedexesInWrong : ChangeSpec := { name := "fnExactRedexesIn", fn := fun _ => fun
  | [d1, d2] => { results := [.lit (.bool false)], args := [d1, d2] }
  | _ => none }
def FnExactRedexesInWrongFalsely : Prop := fnExactRedexesInRow.holds Try.pinned (OpenSpec.ofChange fnExactRedexesInWrong)

/-- 'laws.FnExactInmostIn': WHATEVER THE INPUT: true; the input reads as it did. -/
def fnExactInmostInSpec : ChangeSpec := { name := "fnExactInmostIn", fn := fun _ => fun
  | [d1, d2] => { results := [.lit (.bool true)], args := [d1, d2] }
  | _ => none }
def fnExactInmostInRow : OpenClaim := { program := "ytfkgiimcnlagmaa", sum := "4f76a8ada257aa362c960fca8dc8c5b2c3b6adf15279ba415f9a2d289e764ab1", func := "loop.example/g00895/laws.FnExactInmostIn", spec := "fnExactInmostIn", unfollowed := true, recurses := true, apart := false }
def FnExactInmostInSaid : Prop := fnExactInmostInRow.holds Try.pinned (OpenSpec.ofChange fnExactInmostInSpec)

/-- ITS FALSE NEIGHBOUR: 'it returns false'. Refute it at one input. -/
def fnExactInmostInWrong : ChangeSpec := { name := "fnExactInmostIn", fn := fun _ => fun
  | [d1, d2] => { results := [.lit (.bool false)], args := [d1, d2] }
  | _ => none }
def FnExactInmostInWrongFalsely : Prop := fnExactInmostInRow.holds Try.pinned (OpenSpec.ofChange fnExactInmostInWrong)

/-- 'laws.FnExactOutmostIn': WHATEVER THE INPUT: true; the input reads as it did. -/
def fnExactOutmostInSpec : ChangeSpec := { name := "fnExactOutmostIn", fn := fun _ => fun
  | [d1, d2] => { results := [.lit (.bool true)], args := [d1, d2] }
  | _ => none }
def fnExactOutmostInRow : OpenClaim := { program := "ytfkgiimcnlagmaa", sum := "4f76a8ada257aa362c960fca8dc8c5b2c3b6adf15279ba415f9a2d289e764ab1", func := "loop.example/g00895/laws.FnExactOutmostIn", spec := "fnExactOutmostIn", unfollowed := true, recurses := true, apart := false }
def FnExactOutmostInSaid : Prop := fnExactOutmostInRow.holds Try.pinned (OpenSpec.ofChange fnExactOutmostInSpec)

/-- ITS FALSE NEIGHBOUR: 'it returns false'. Refute it at one input. -/
def fnExactOutmostInWrong : ChangeSpec := { name := "fnExactOutmostIn", fn := fun _ => fun
  | [d1, d2] => { results := [.lit (.bool false)], args := [d1, d2] }
  | _ => none }
def FnExactOutmostInWrongFalsely : Prop := fnExactOutmostInRow.holds Try.pinned (OpenSpec.ofChange fnExactOutmostInWrong)

/-- 'laws.FnSteps': WHATEVER THE INPUT: true; the input reads as it did. -/
def fnStepsSpec : ChangeSpec := { name := "fnSteps", fn := fun _ => fun
  | [d] => { results := [.lit (.bool true)], args := [d] }
  | _ => none }
def fnStepsRow : OpenClaim := { program := "ytfkgiimcnlagmaa", sum := "4f76a8ada257aa362c960fca8dc8c5b2c3b6adf15279ba415f9a2d289e764ab1", func := "loop.example/g00895/laws.FnSteps", spec := "fnSteps", unfollowed := true, recurses := true, apart := false }
def FnStepsSaid : Prop := fnStepsRow.holds Try.pinned (OpenSpec.ofChange fnStepsSpec)

/-- ITS FALSE NEIGHBOUR: 'it returns false'. Refute it at one input. -/
def fnStepsWrong : ChangeSpec := { name := "fnSteps", fn := fun _ => fun
  | [d] => { results := [.lit (.bool false)], args := [d] }
  | _ => none }
def FnStepsWrongFalsely : Prop := fnStepsRow.holds Try.pinned (OpenSpec.ofChange fnStepsWrong)

/- THE SECOND FORM. 'bulk': how many values and letters a reading holds, each counted each time it is reached (what is shared counts as often as it is met; a slice's spare places count too). A statement '..UptoSaid' is the law's where the arguments, and the package variables that the reading takes, are together of bulk at most 1048576: NARROWER than '..Said'. Prove '..Said' where nothing that the law and all that it calls make is longer than what came in: it says more and counts as full. Else prove '..UptoSaid'. A law counts once. -/
mutual
def uptoBulk {H : Type} : DataW H → Nat
  | .lit (.string bytes) => bytes.length + 1
  | .lit _ => 1
  | .nil => 1
  | .ptr d => uptoBulk d + 1
  | .slice elems spare => uptoBulkAll elems + uptoBulkAll spare + 1
  | .agg parts => uptoBulkAll parts + 1
  | .iface _ d => uptoBulk d + 1
  | .map entries => uptoBulkEntries entries + 1
  | .held _ => 1
def uptoBulkAll {H : Type} : List (DataW H) → Nat
  | [] => 0
  | d :: r => uptoBulk d + uptoBulkAll r
def uptoBulkEntries {H : Type} : List (Lit × DataW H) → Nat
  | [] => 0
  | x :: r => uptoBulkEntry x + uptoBulkEntries r
def uptoBulkEntry {H : Type} : Lit × DataW H → Nat
  | (.string bytes, d) => bytes.length + uptoBulk d + 1
  | (_, d) => uptoBulk d + 1
 end
def uptoSmall : (H : Type) → List (DataW H) → Bool := fun _ ds => decide (uptoBulkAll ds ≤ 1048576)
def OpenSpec.upto (s : _root_.Go.ChangeSpec) : _root_.Go.OpenSpec := { _root_.Go.OpenSpec.ofChange s with cond := some uptoSmall }

/-- 'laws.FnRedexes', WHERE WHAT IT READS IS OF BULK AT MOST 1048576: true; the input reads as it did. -/
def fnRedexesUptoRow : OpenClaim := { program := "ytfkgiimcnlagmaa", sum := "4f76a8ada257aa362c960fca8dc8c5b2c3b6adf15279ba415f9a2d289e764ab1", func := "loop.example/g00895/laws.FnRedexes", spec := "fnRedexes", unfollowed := true, recurses := true, apart := false, narrowed := true }
def FnRedexesUptoSaid : Prop := fnRedexesUptoRow.holds Try.pinned (OpenSpec.upto fnRedexesSpec)

/-- 'laws.FnExactPickBy', WHERE WHAT IT READS IS OF BULK AT MOST 1048576: true; the input reads as it did. -/
def fnExactPickByUptoRow : OpenClaim := { program := "ytfkgiimcnlagmaa", sum := "4f76a8ada257aa362c960fca8dc8c5b2c3b6adf15279ba415f9a2d289e764ab1", func := "loop.example/g00895/laws.FnExactPickBy", spec := "fnExactPickBy", unfollowed := true, recurses := true, apart := false, narrowed := true }
def FnExactPickByUptoSaid : Prop := fnExactPickByUptoRow.holds Try.pinned (OpenSpec.upto fnExactPickBySpec)

/-- 'laws.FnExactNormalBy', WHERE WHAT IT READS IS OF BULK AT MOST 1048576: true; the input reads as it did. -/
def fnExactNormalByUptoRow : OpenClaim := { program := "ytfkgiimcnlagmaa", sum := "4f76a8ada257aa362c960fca8dc8c5b2c3b6adf15279ba415f9a2d289e764ab1", func := "loop.example/g00895/laws.FnExactNormalBy", spec := "fnExactNormalBy", unfollowed := true, recurses := true, apart := false, narrowed := true }
def FnExactNormalByUptoSaid : Prop := fnExactNormalByUptoRow.holds Try.pinned (OpenSpec.upto fnExactNormalBySpec)

/-- 'laws.FnExactCountBy', WHERE WHAT IT READS IS OF BULK AT MOST 1048576: true; the input reads as it did. -/
def fnExactCountByUptoRow : OpenClaim := { program := "ytfkgiimcnlagmaa", sum := "4f76a8ada257aa362c960fca8dc8c5b2c3b6adf15279ba415f9a2d289e764ab1", func := "loop.example/g00895/laws.FnExactCountBy", spec := "fnExactCountBy", unfollowed := true, recurses := true, apart := false, narrowed := true }
def FnExactCountByUptoSaid : Prop := fnExactCountByUptoRow.holds Try.pinned (OpenSpec.upto fnExactCountBySpec)

/-- 'laws.FnExactRedexesIn', WHERE WHAT IT READS IS OF BULK AT MOST 1048576: true; the input reads as it did. -/
def fnExactRedexesInUptoRow : OpenClaim := { program := "ytfkgiimcnlagmaa", sum := "4f76a8ada257aa362c960fca8dc8c5b2c3b6adf15279ba415f9a2d289e764ab1", func := "loop.example/g00895/laws.FnExactRedexesIn", spec := "fnExactRedexesIn", unfollowed := true, recurses := true, apart := false, narrowed := true }
def FnExactRedexesInUptoSaid : Prop := fnExactRedexesInUptoRow.holds Try.pinned (OpenSpec.upto fnExactRedexesInSpec)

/-- 'laws.FnExactInmostIn', WHERE WHAT IT READS IS OF BULK AT MOST 1048576: true; the input reads as it did. -/
def fnExactInmostInUptoRow : OpenClaim := { program := "ytfkgiimcnlagmaa", sum := "4f76a8ada257aa362c960fca8dc8c5b2c3b6adf15279ba415f9a2d289e764ab1", func := "loop.example/g00895/laws.FnExactInmostIn", spec := "fnExactInmostIn", unfollowed := true, recurses := true, apart := false, narrowed := true }
def FnExactInmostInUptoSaid : Prop := fnExactInmostInUptoRow.holds Try.pinned (OpenSpec.upto fnExactInmostInSpec)

/-- 'laws.FnExactOutmostIn', WHERE WHAT IT READS IS OF BULK AT MOST 1048576: true; the input reads as it did. -/
def fnExactOutmostInUptoRow : OpenClaim := { program := "ytfkgiimcnlagmaa", sum := "4f76a8ada257aa362c960fca8dc8c5b2c3b6adf15279ba415f9a2d289e764ab1", func := "loop.example/g00895/laws.FnExactOutmostIn", spec := "fnExactOutmostIn", unfollowed := true, recurses := true, apart := false, narrowed := true }
def FnExactOutmostInUptoSaid : Prop := fnExactOutmostInUptoRow.holds Try.pinned (OpenSpec.upto fnExactOutmostInSpec)

/-- 'laws.FnSteps', WHERE WHAT IT READS IS OF BULK AT MOST 1048576: true; the input reads as it did. -/
def fnStepsUptoRow : OpenClaim := { program := "ytfkgiimcnlagmaa", sum := "4f76a8ada257aa362c960fca8dc8c5b2c3b6adf15279ba415f9a2d289e764ab1", func := "loop.example/g00895/laws.FnSteps", spec := "fnSteps", unfollowed := true, recurses := true, apart := false, narrowed := true }
def FnStepsUptoSaid : Prop := fnStepsUptoRow.holds Try.pinned (OpenSpec.upto fnStepsSpec)

end Rows
end Go.Proofs.Ytfkgiimcnlagmaa
