/-
  No cell of these rows narrows 'for every input' (looked for: loops, veiled, ifaces, maps, wideKeys, modest, calm, conditions, laid).
  DERIVED. THE GIVEN ROWS OF THIS SEAT. 9 by the template 'for every input the law returns true; each argument reads behind the call as it read before'; 0 by the template 'total and deterministic' (their statements: YtmaamlnooepogaaTotals.lean).
  GIVEN WITH THE SEED: the statements are not yours to turn. If you find one false, say at which input.
  Laid BY PROGRAM, IN A SANDBOX (cutbox-rows.mjs): the forced cells as the released guide's own fill.sh prints them over the translation eedaa4a15fa87533… (all of the seat's roots in one cut). By AI agents, Wed Nov 11 2026. No macro, syntax, notation, axiom, sorry.
-/
import Derived.Test.YtmaamlnooepogaaChecked
import GoSem.Claim
import GoSem.ClaimJoined
import GoSem.ClaimMapViews
import Derived.JoinedTies
import Derived.KernelRfl
namespace Go.Proofs.Ytmaamlnooepogaa
/- THE CELL 'sum', in the pinned program and in every row, IS THE sha256 OF THE DUMP (.gsa) THAT YtmaamlnooepogaaProg.lean LOADS. Nothing in Lean hashes anything: it is a label: what it is worth is what the hold of that sum in a sandbox is worth. -/
noncomputable def Try.pinned : Pinned := { name := "ytmaamlnooepogaa", sum := "eedaa4a15fa8753328e37d1da4bc5939c4be6bd8558d2266969ecdac2afc165b", checked := Try.checked }
namespace Rows
def none {H : Type} : Left H := { results := [], args := [] }

/-- 'laws.FnSteps': WHATEVER THE INPUT: true; the input reads as it did. -/
def fnStepsSpec : ChangeSpec := { name := "fnSteps", fn := fun _ => fun
  | [d] => { results := [.lit (.bool true)], args := [d] }
  | _ => none }
def fnStepsRow : OpenClaim := { program := "ytmaamlnooepogaa", sum := "eedaa4a15fa8753328e37d1da4bc5939c4be6bd8558d2266969ecdac2afc165b", func := "loop.example/g00895/laws.FnSteps", spec := "fnSteps", unfollowed := true, recurses := true, apart := false }
def FnStepsSaid : Prop := fnStepsRow.holds Try.pinned (OpenSpec.ofChange fnStepsSpec)

/-- ITS FALSE NEIGHBOUR: 'it returns false'. Refute it at one input. -/
def fnStepsWrong : ChangeSpec := { name := "fnSteps", fn := fun _ => fun
  | [d] => { results := [.lit (.bool false)], args := [d] }
  | _ => none }
def FnStepsWrongFalsely : Prop := fnStepsRow.holds Try.pinned (OpenSpec.ofChange fnStepsWrong)

/-- 'laws.FnExactRedexAt': WHATEVER THE INPUT: true; the input reads as it did. -/
def fnExactRedexAtSpec : ChangeSpec := { name := "fnExactRedexAt", fn := fun _ => fun
  | [d1, d2, d3, d4] => { results := [.lit (.bool true)], args := [d1, d2, d3, d4] }
  | _ => none }
def fnExactRedexAtRow : OpenClaim := { program := "ytmaamlnooepogaa", sum := "eedaa4a15fa8753328e37d1da4bc5939c4be6bd8558d2266969ecdac2afc165b", func := "loop.example/g00895/laws.FnExactRedexAt", spec := "fnExactRedexAt", unfollowed := true, recurses := true, apart := false }
def FnExactRedexAtSaid : Prop := fnExactRedexAtRow.holds Try.pinned (OpenSpec.ofChange fnExactRedexAtSpec)

/-- ITS FALSE NEIGHBOUR: 'it returns false'. Refute it at one input. -/
def fnExactRedexAtWrong : ChangeSpec := { name := "fnExactRedexAt", fn := fun _ => fun
  | [d1, d2, d3, d4] => { results := [.lit (.bool false)], args := [d1, d2, d3, d4] }
  | _ => none }
def FnExactRedexAtWrongFalsely : Prop := fnExactRedexAtRow.holds Try.pinned (OpenSpec.ofChange fnExactRedexAtWrong)

/-- 'laws.FnExactStepAt': WHATEVER THE INPUT: true; the input reads as it did. -/
def fnExactStepAtSpec : ChangeSpec := { name := "fnExactStepAt", fn := fun _ => fun
  | [d1, d2, d3, d4] => { results := [.lit (.bool true)], args := [d1, d2, d3, d4] }
  | _ => none }
def fnExactStepAtRow : OpenClaim := { program := "ytmaamlnooepogaa", sum := "eedaa4a15fa8753328e37d1da4bc5939c4be6bd8558d2266969ecdac2afc165b", func := "loop.example/g00895/laws.FnExactStepAt", spec := "fnExactStepAt", unfollowed := true, recurses := true, apart := false }
def FnExactStepAtSaid : Prop := fnExactStepAtRow.holds Try.pinned (OpenSpec.ofChange fnExactStepAtSpec)

/-- ITS FALSE NEIGHBOUR: 'it returns false'. Refute it at one input. -/
def fnExactStepAtWrong : ChangeSpec := { name := "fnExactStepAt", fn := fun _ => fun
  | [d1, d2, d3, d4] => { results := [.lit (.bool false)], args := [d1, d2, d3, d4] }
  | _ => none }
def FnExactStepAtWrongFalsely : Prop := fnExactStepAtRow.holds Try.pinned (OpenSpec.ofChange fnExactStepAtWrong)

/-- 'laws.FnExactStepsFrom': WHATEVER THE INPUT: true; the input reads as it did. -/
def fnExactStepsFromSpec : ChangeSpec := { name := "fnExactStepsFrom", fn := fun _ => fun
  | [d1, d2] => { results := [.lit (.bool true)], args := [d1, d2] }
  | _ => none }
def fnExactStepsFromRow : OpenClaim := { program := "ytmaamlnooepogaa", sum := "eedaa4a15fa8753328e37d1da4bc5939c4be6bd8558d2266969ecdac2afc165b", func := "loop.example/g00895/laws.FnExactStepsFrom", spec := "fnExactStepsFrom", unfollowed := true, recurses := true, apart := false }
def FnExactStepsFromSaid : Prop := fnExactStepsFromRow.holds Try.pinned (OpenSpec.ofChange fnExactStepsFromSpec)

/-- ITS FALSE NEIGHBOUR: 'it returns false'. Refute it at one input. -/
def fnExactStepsFromWrong : ChangeSpec := { name := "fnExactStepsFrom", fn := fun _ => fun
  | [d1, d2] => { results := [.lit (.bool false)], args := [d1, d2] }
  | _ => none }
def FnExactStepsFromWrongFalsely : Prop := fnExactStepsFromRow.holds Try.pinned (OpenSpec.ofChange fnExactStepsFromWrong)

/-- 'laws.FnExactNormalIn': WHATEVER THE INPUT: true; the input reads as it did. -/
def fnExactNormalInSpec : ChangeSpec := { name := "fnExactNormalIn", fn := fun _ => fun
  | [d1, d2] => { results := [.lit (.bool true)], args := [d1, d2] }
  | _ => none }
def fnExactNormalInRow : OpenClaim := { program := "ytmaamlnooepogaa", sum := "eedaa4a15fa8753328e37d1da4bc5939c4be6bd8558d2266969ecdac2afc165b", func := "loop.example/g00895/laws.FnExactNormalIn", spec := "fnExactNormalIn", unfollowed := true, recurses := true, apart := false }
def FnExactNormalInSaid : Prop := fnExactNormalInRow.holds Try.pinned (OpenSpec.ofChange fnExactNormalInSpec)

/-- ITS FALSE NEIGHBOUR: 'it returns false'. Refute it at one input. -/
def fnExactNormalInWrong : ChangeSpec := { name := "fnExactNormalIn", fn := fun _ => fun
  | [d1, d2] => { results := [.lit (.bool false)], args := [d1, d2] }
  | _ => none }
def FnExactNormalInWrongFalsely : Prop := fnExactNormalInRow.holds Try.pinned (OpenSpec.ofChange fnExactNormalInWrong)

/-- 'laws.FnExactWalkOk': WHATEVER THE INPUT: true; the input reads as it did. -/
def fnExactWalkOkSpec : ChangeSpec := { name := "fnExactWalkOk", fn := fun _ => fun
  | [d1, d2] => { results := [.lit (.bool true)], args := [d1, d2] }
  | _ => none }
def fnExactWalkOkRow : OpenClaim := { program := "ytmaamlnooepogaa", sum := "eedaa4a15fa8753328e37d1da4bc5939c4be6bd8558d2266969ecdac2afc165b", func := "loop.example/g00895/laws.FnExactWalkOk", spec := "fnExactWalkOk", unfollowed := true, recurses := true, apart := false }
def FnExactWalkOkSaid : Prop := fnExactWalkOkRow.holds Try.pinned (OpenSpec.ofChange fnExactWalkOkSpec)

/-- ITS FALSE NEIGHBOUR: 'it returns false'. Refute it at one input. -/
def fnExactWalkOkWrong : ChangeSpec := { name := "fnExactWalkOk", fn := fun _ => fun
  | [d1, d2] => { results := [.lit (.bool false)], args := [d1, d2] }
  | _ => none }
def FnExactWalkOkWrongFalsely : Prop := fnExactWalkOkRow.holds Try.pinned (OpenSpec.ofChange fnExactWalkOkWrong)

/-- 'laws.FnExactEndTerm': WHATEVER THE INPUT: true; the input reads as it did. -/
def fnExactEndTermSpec : ChangeSpec := { name := "fnExactEndTerm", fn := fun _ => fun
  | [d1, d2] => { results := [.lit (.bool true)], args := [d1, d2] }
  | _ => none }
def fnExactEndTermRow : OpenClaim := { program := "ytmaamlnooepogaa", sum := "eedaa4a15fa8753328e37d1da4bc5939c4be6bd8558d2266969ecdac2afc165b", func := "loop.example/g00895/laws.FnExactEndTerm", spec := "fnExactEndTerm", unfollowed := true, recurses := true, apart := false }
def FnExactEndTermSaid : Prop := fnExactEndTermRow.holds Try.pinned (OpenSpec.ofChange fnExactEndTermSpec)

/-- ITS FALSE NEIGHBOUR: 'it returns false'. Refute it at one input. -/
def fnExactEndTermWrong : ChangeSpec := { name := "fnExactEndTerm", fn := fun _ => fun
  | [d1, d2] => { results := [.lit (.bool false)], args := [d1, d2] }
  | _ => none }
def FnExactEndTermWrongFalsely : Prop := fnExactEndTermRow.holds Try.pinned (OpenSpec.ofChange fnExactEndTermWrong)

/-- 'laws.FnExactJoinedWalk': WHATEVER THE INPUT: true; the input reads as it did. -/
def fnExactJoinedWalkSpec : ChangeSpec := { name := "fnExactJoinedWalk", fn := fun _ => fun
  | [d1, d2, d3] => { results := [.lit (.bool true)], args := [d1, d2, d3] }
  | _ => none }
def fnExactJoinedWalkRow : OpenClaim := { program := "ytmaamlnooepogaa", sum := "eedaa4a15fa8753328e37d1da4bc5939c4be6bd8558d2266969ecdac2afc165b", func := "loop.example/g00895/laws.FnExactJoinedWalk", spec := "fnExactJoinedWalk", unfollowed := true, recurses := true, apart := false }
def FnExactJoinedWalkSaid : Prop := fnExactJoinedWalkRow.holds Try.pinned (OpenSpec.ofChange fnExactJoinedWalkSpec)

/-- ITS FALSE NEIGHBOUR: 'it returns false'. Refute it at one input. -/
def fnExactJoinedWalkWrong : ChangeSpec := { name := "fnExactJoinedWalk", fn := fun _ => fun
  | [d1, d2, d3] => { results := [.lit (.bool false)], args := [d1, d2, d3] }
  | _ => none }
def FnExactJoinedWalkWrongFalsely : Prop := fnExactJoinedWalkRow.holds Try.pinned (OpenSpec.ofChange fnExactJoinedWalkWrong)

/-- 'laws.FnExactWalkInside': WHATEVER THE INPUT: true; the input reads as it did. -/
def fnExactWalkInsideSpec : ChangeSpec := { name := "fnExactWalkInside", fn := fun _ => fun
  | [d1, d2, d3, d4] => { results := [.lit (.bool true)], args := [d1, d2, d3, d4] }
  | _ => none }
def fnExactWalkInsideRow : OpenClaim := { program := "ytmaamlnooepogaa", sum := "eedaa4a15fa8753328e37d1da4bc5939c4be6bd8558d2266969ecdac2afc165b", func := "loop.example/g00895/laws.FnExactWalkInside", spec := "fnExactWalkInside", unfollowed := true, recurses := true, apart := false }
def FnExactWalkInsideSaid : Prop := fnExactWalkInsideRow.holds Try.pinned (OpenSpec.ofChange fnExactWalkInsideSpec)

/-- ITS FALSE NEIGHBOUR: 'it returns false'. Refute it at one input. -/
def fnExactWalkInsideWrong : ChangeSpec := { name := "fnExactWalkInside", fn := fun _ => fun
  | [d1, d2, d3, d4] => { results := [.lit (.bool false)], args := [d1, d2, d3, d4] }
  | _ => none }
def FnExactWalkInsideWrongFalsely : Prop := fnExactWalkInsideRow.holds Try.pinned (OpenSpec.ofChange fnExactWalkInsideWrong)

/- THE SECOND FORM. 'bulk': how many values and letters a reading holds, each counted each time it is reached (what is shared counts as often as it is met; a slice's spare places count too). A statement '..UptoSaid' is the law's where the arguments, and the package variables that the reading takes, are together of bulk at most 1048576: NARROWER than '..Said'. Prove '..Said' where nothing that the law and all that it calls make is longer than what came in: it says more and counts as full. Else prove '..UptoSaid'. A law counts once. -/
mutual
def uptoBulk {H : Type} : DataW H → Nat
  | .lit (.string bytes) => bytes.length + 1
  | .lit _ => 1
  | .nil => 1
  | .ptr d => uptoBulk d + 1
  | .slice elems spare => uptoBulkAll elems + uptoBulkAll spare + 1
  | .agg parts => uptoBulkAll parts + 1
  | .iface _ d => uptoBulk d + 1
  | .map entries => uptoBulkEntries entries + 1
  | .held _ => 1
def uptoBulkAll {H : Type} : List (DataW H) → Nat
  | [] => 0
  | d :: r => uptoBulk d + uptoBulkAll r
def uptoBulkEntries {H : Type} : List (Lit × DataW H) → Nat
  | [] => 0
  | x :: r => uptoBulkEntry x + uptoBulkEntries r
def uptoBulkEntry {H : Type} : Lit × DataW H → Nat
  | (.string bytes, d) => bytes.length + uptoBulk d + 1
  | (_, d) => uptoBulk d + 1
 end
def uptoSmall : (H : Type) → List (DataW H) → Bool := fun _ ds => decide (uptoBulkAll ds ≤ 1048576)
def OpenSpec.upto (s : _root_.Go.ChangeSpec) : _root_.Go.OpenSpec := { _root_.Go.OpenSpec.ofChange s with cond := some uptoSmall }

/-- 'laws.FnSteps', WHERE WHAT IT READS IS OF BULK AT MOST 1048576: true; the input reads as it did. -/
def fnStepsUptoRow : OpenClaim := { program := "ytmaamlnooepogaa", sum := "eedaa4a15fa8753328e37d1da4bc5939c4be6bd8558d2266969ecdac2afc165b", func := "loop.example/g00895/laws.FnSteps", spec := "fnSteps", unfollowed := true, recurses := true, apart := false, narrowed := true }
def FnStepsUptoSaid : Prop := fnStepsUptoRow.holds Try.pinned (OpenSpec.upto fnStepsSpec)

/-- 'laws.FnExactRedexAt', WHERE WHAT IT READS IS OF BULK AT MOST 1048576: true; the input reads as it did. -/
def fnExactRedexAtUptoRow : OpenClaim := { program := "ytmaamlnooepogaa", sum := "eedaa4a15fa8753328e37d1da4bc5939c4be6bd8558d2266969ecdac2afc165b", func := "loop.example/g00895/laws.FnExactRedexAt", spec := "fnExactRedexAt", unfollowed := true, recurses := true, apart := false, narrowed := true }
def FnExactRedexAtUptoSaid : Prop := fnExactRedexAtUptoRow.holds Try.pinned (OpenSpec.upto fnExactRedexAtSpec)

/-- 'laws.FnExactStepAt', WHERE WHAT IT READS IS OF BULK AT MOST 1048576: true; the input reads as it did. -/
def fnExactStepAtUptoRow : OpenClaim := { program := "ytmaamlnooepogaa", sum := "eedaa4a15fa8753328e37d1da4bc5939c4be6bd8558d2266969ecdac2afc165b", func := "loop.example/g00895/laws.FnExactStepAt", spec := "fnExactStepAt", unfollowed := true, recurses := true, apart := false, narrowed := true }
def FnExactStepAtUptoSaid : Prop := fnExactStepAtUptoRow.holds Try.pinned (OpenSpec.upto fnExactStepAtSpec)

/-- 'laws.FnExactStepsFrom', WHERE WHAT IT READS IS OF BULK AT MOST 1048576: true; the input reads as it did. -/
def fnExactStepsFromUptoRow : OpenClaim := { program := "ytmaamlnooepogaa", sum := "eedaa4a15fa8753328e37d1da4bc5939c4be6bd8558d2266969ecdac2afc165b", func := "loop.example/g00895/laws.FnExactStepsFrom", spec := "fnExactStepsFrom", unfollowed := true, recurses := true, apart := false, narrowed := true }
def FnExactStepsFromUptoSaid : Prop := fnExactStepsFromUptoRow.holds Try.pinned (OpenSpec.upto fnExactStepsFromSpec)

/-- 'laws.FnExactNormalIn', WHERE WHAT IT READS IS OF BULK AT MOST 1048576: true; the input reads as it did. -/
def fnExactNormalInUptoRow : OpenClaim := { program := "ytmaamlnooepogaa", sum := "eedaa4a15fa8753328e37d1da4bc5939c4be6bd8558d2266969ecdac2afc165b", func := "loop.example/g00895/laws.FnExactNormalIn", spec := "fnExactNormalIn", unfollowed := true, recurses := true, apart := false, narrowed := true }
def FnExactNormalInUptoSaid : Prop := fnExactNormalInUptoRow.holds Try.pinned (OpenSpec.upto fnExactNormalInSpec)

/-- 'laws.FnExactWalkOk', WHERE WHAT IT READS IS OF BULK AT MOST 1048576: true; the input reads as it did. -/
def fnExactWalkOkUptoRow : OpenClaim := { program := "ytmaamlnooepogaa", sum := "eedaa4a15fa8753328e37d1da4bc5939c4be6bd8558d2266969ecdac2afc165b", func := "loop.example/g00895/laws.FnExactWalkOk", spec := "fnExactWalkOk", unfollowed := true, recurses := true, apart := false, narrowed := true }
def FnExactWalkOkUptoSaid : Prop := fnExactWalkOkUptoRow.holds Try.pinned (OpenSpec.upto fnExactWalkOkSpec)

/-- 'laws.FnExactEndTerm', WHERE WHAT IT READS IS OF BULK AT MOST 1048576: true; the input reads as it did. -/
def fnExactEndTermUptoRow : OpenClaim := { program := "ytmaamlnooepogaa", sum := "eedaa4a15fa8753328e37d1da4bc5939c4be6bd8558d2266969ecdac2afc165b", func := "loop.example/g00895/laws.FnExactEndTerm", spec := "fnExactEndTerm", unfollowed := true, recurses := true, apart := false, narrowed := true }
def FnExactEndTermUptoSaid : Prop := fnExactEndTermUptoRow.holds Try.pinned (OpenSpec.upto fnExactEndTermSpec)

/-- 'laws.FnExactJoinedWalk', WHERE WHAT IT READS IS OF BULK AT MOST 1048576: true; the input reads as it did. -/
def fnExactJoinedWalkUptoRow : OpenClaim := { program := "ytmaamlnooepogaa", sum := "eedaa4a15fa8753328e37d1da4bc5939c4be6bd8558d2266969ecdac2afc165b", func := "loop.example/g00895/laws.FnExactJoinedWalk", spec := "fnExactJoinedWalk", unfollowed := true, recurses := true, apart := false, narrowed := true }
def FnExactJoinedWalkUptoSaid : Prop := fnExactJoinedWalkUptoRow.holds Try.pinned (OpenSpec.upto fnExactJoinedWalkSpec)

/-- 'laws.FnExactWalkInside', WHERE WHAT IT READS IS OF BULK AT MOST 1048576: true; the input reads as it did. -/
def fnExactWalkInsideUptoRow : OpenClaim := { program := "ytmaamlnooepogaa", sum := "eedaa4a15fa8753328e37d1da4bc5939c4be6bd8558d2266969ecdac2afc165b", func := "loop.example/g00895/laws.FnExactWalkInside", spec := "fnExactWalkInside", unfollowed := true, recurses := true, apart := false, narrowed := true }
def FnExactWalkInsideUptoSaid : Prop := fnExactWalkInsideUptoRow.holds Try.pinned (OpenSpec.upto fnExactWalkInsideSpec)

end Rows
end Go.Proofs.Ytmaamlnooepogaa
