/-
  No cell of these rows narrows 'for every input' (looked for: loops, veiled, ifaces, maps, wideKeys, modest, calm, conditions, laid).
  DERIVED. THE GIVEN ROWS OF THIS SEAT. 6 by the template 'for every input the law returns true; each argument reads behind the call as it read before'; 0 by the template 'total and deterministic' (their statements: YtblhmplpcdcejaaTotals.lean).
  GIVEN WITH THE SEED: the statements are not yours to turn. If you find one false, say at which input.
  Laid BY PROGRAM, IN A SANDBOX (cutbox-rows.mjs): the forced cells as the released guide's own fill.sh prints them over the translation d00622483bd922a7… (all of the seat's roots in one cut). By AI agents, Wed Nov 11 2026. No macro, syntax, notation, axiom, sorry.
-/
import Derived.Test.YtblhmplpcdcejaaChecked
import GoSem.Claim
import GoSem.ClaimJoined
import GoSem.ClaimMapViews
import Derived.JoinedTies
import Derived.KernelRfl
namespace Go.Proofs.Ytblhmplpcdcejaa
/- THE CELL 'sum', in the pinned program and in every row, IS THE sha256 OF THE DUMP (.gsa) THAT YtblhmplpcdcejaaProg.lean LOADS. Nothing in Lean hashes anything: it is a label: what it is worth is what the hold of that sum in a sandbox is worth. -/
noncomputable def Try.pinned : Pinned := { name := "ytblhmplpcdcejaa", sum := "d00622483bd922a7b034dc76d02342cd59a66c405ef0bede378cb20f28abcdb6", checked := Try.checked }
namespace Rows
def none {H : Type} : Left H := { results := [], args := [] }

/-- 'laws.FnExactPickBy': WHATEVER THE INPUT: true; the input reads as it did. -/
def fnExactPickBySpec : ChangeSpec := { name := "fnExactPickBy", fn := fun _ => fun
  | [d1, d2, d3] => { results := [.lit (.bool true)], args := [d1, d2, d3] }
  | _ => none }
def fnExactPickByRow : OpenClaim := { program := "ytblhmplpcdcejaa", sum := "d00622483bd922a7b034dc76d02342cd59a66c405ef0bede378cb20f28abcdb6", func := "loop.example/g00895/laws.FnExactPickBy", spec := "fnExactPickBy", unfollowed := true, recurses := true, apart := false }
def FnExactPickBySaid : Prop := fnExactPickByRow.holds Try.pinned (OpenSpec.ofChange fnExactPickBySpec)

/-- ITS FALSE NEIGHBOUR: 'it returns false'. Refute it at one input. -/
def fnExactPickByWrong : ChangeSpec := { name := "fnExactPickBy", fn := fun _ => fun
  | [d1, d2, d3] => { results := [.lit (.bool false)], args := [d1, d2, d3] }
  | _ => none }
def FnExactPickByWrongFalsely : Prop := fnExactPickByRow.holds Try.pinned (OpenSpec.ofChange fnExactPickByWrong)

/-- 'laws.FnExactNormalBy': WHATEVER THE INPUT: true; the input reads as it did. -/
def fnExactNormalBySpec : ChangeSpec := { name := "fnExactNormalBy", fn := fun _ => fun
  | [d1, d2, d3, d4] => { results := [.lit (.bool true)], args := [d1, d2, d3, d4] }
  | _ => none }
def fnExactNormalByRow : OpenClaim := { program := "ytblhmplpcdcejaa", sum := "d00622483bd922a7b034dc76d02342cd59a66c405ef0bede378cb20f28abcdb6", func := "loop.example/g00895/laws.FnExactNormalBy", spec := "fnExactNormalBy", unfollowed := true, recurses := true, apart := false }
def FnExactNormalBySaid : Prop := fnExactNormalByRow.holds Try.pinned (OpenSpec.ofChange fnExactNormalBySpec)

/-- ITS FALSE NEIGHBOUR: 'it returns false'. Refute it at one input. -/
def fnExactNormalByWrong : ChangeSpec := { name := "fnExactNormalBy", fn := fun _ => fun
  | [d1, d2, d3, d4] => { results := [.lit (.bool false)], args := [d1, d2, d3, d4] }
  | _ => none }
def FnExactNormalByWrongFalsely : Prop := fnExactNormalByRow.holds Try.pinned (OpenSpec.ofChange fnExactNormalByWrong)

/-- 'laws.FnExactCountBy': WHATEVER THE INPUT: true; the input reads as it did. -/
def fnExactCountBySpec : ChangeSpec := { name := "fnExactCountBy", fn := fun _ => fun
  | [d1, d2, d3, d4] => { results := [.lit (.bool true)], args := [d1, d2, d3, d4] }
  | _ => none }
def fnExactCountByRow : OpenClaim := { program := "ytblhmplpcdcejaa", sum := "d00622483bd922a7b034dc76d02342cd59a66c405ef0bede378cb20f28abcdb6", func := "loop.example/g00895/laws.FnExactCountBy", spec := "fnExactCountBy", unfollowed := true, recurses := true, apart := false }
def FnExactCountBySaid : Prop := fnExactCountByRow.holds Try.pinned (OpenSpec.ofChange fnExactCountBySpec)

/-- ITS FALSE NEIGHBOUR: 'it returns false'. Refute it at one input. -/
def fnExactCountByWrong : ChangeSpec := { name := "fnExactCountBy", fn := fun _ => fun
  | [d1, d2, d3, d4] => { results := [.lit (.bool false)], args := [d1, d2, d3, d4] }
  | _ => none }
def FnExactCountByWrongFalsely : Prop := fnExactCountByRow.holds Try.pinned (OpenSpec.ofChange fnExactCountByWrong)

/-- 'laws.FnExactJoinsIn': WHATEVER THE INPUT: true; the input reads as it did. -/
def fnExactJoinsInSpec : ChangeSpec := { name := "fnExactJoinsIn", fn := fun _ => fun
  | [d1, d2, d3, d4] => { results := [.lit (.bool true)], args := [d1, d2, d3, d4] }
  | _ => none }
def fnExactJoinsInRow : OpenClaim := { program := "ytblhmplpcdcejaa", sum := "d00622483bd922a7b034dc76d02342cd59a66c405ef0bede378cb20f28abcdb6", func := "loop.example/g00895/laws.FnExactJoinsIn", spec := "fnExactJoinsIn", unfollowed := true, recurses := true, apart := false }
def FnExactJoinsInSaid : Prop := fnExactJoinsInRow.holds Try.pinned (OpenSpec.ofChange fnExactJoinsInSpec)

/-- ITS FALSE NEIGHBOUR: 'it returns false'. Refute it at one input. -/
def fnExactJoinsInWrong : ChangeSpec := { name := "fnExactJoinsIn", fn := fun _ => fun
  | [d1, d2, d3, d4] => { results := [.lit (.bool false)], args := [d1, d2, d3, d4] }
  | _ => none }
def FnExactJoinsInWrongFalsely : Prop := fnExactJoinsInRow.holds Try.pinned (OpenSpec.ofChange fnExactJoinsInWrong)

/-- 'laws.FnExactJoinOf': WHATEVER THE INPUT: true; the input reads as it did. -/
def fnExactJoinOfSpec : ChangeSpec := { name := "fnExactJoinOf", fn := fun _ => fun
  | [d1, d2, d3, d4] => { results := [.lit (.bool true)], args := [d1, d2, d3, d4] }
  | _ => none }
def fnExactJoinOfRow : OpenClaim := { program := "ytblhmplpcdcejaa", sum := "d00622483bd922a7b034dc76d02342cd59a66c405ef0bede378cb20f28abcdb6", func := "loop.example/g00895/laws.FnExactJoinOf", spec := "fnExactJoinOf", unfollowed := true, recurses := true, apart := false }
def FnExactJoinOfSaid : Prop := fnExactJoinOfRow.holds Try.pinned (OpenSpec.ofChange fnExactJoinOfSpec)

/-- ITS FALSE NEIGHBOUR: 'it returns false'. Refute it at one input. -/
def fnExactJoinOfWrong : ChangeSpec := { name := "fnExactJoinOf", fn := fun _ => fun
  | [d1, d2, d3, d4] => { results := [.lit (.bool false)], args := [d1, d2, d3, d4] }
  | _ => none }
def FnExactJoinOfWrongFalsely : Prop := fnExactJoinOfRow.holds Try.pinned (OpenSpec.ofChange fnExactJoinOfWrong)

/-- 'laws.FnExactWalkTo': WHATEVER THE INPUT: true; the input reads as it did. -/
def fnExactWalkToSpec : ChangeSpec := { name := "fnExactWalkTo", fn := fun _ => fun
  | [d1, d2, d3, d4] => { results := [.lit (.bool true)], args := [d1, d2, d3, d4] }
  | _ => none }
def fnExactWalkToRow : OpenClaim := { program := "ytblhmplpcdcejaa", sum := "d00622483bd922a7b034dc76d02342cd59a66c405ef0bede378cb20f28abcdb6", func := "loop.example/g00895/laws.FnExactWalkTo", spec := "fnExactWalkTo", unfollowed := true, recurses := true, apart := false }
def FnExactWalkToSaid : Prop := fnExactWalkToRow.holds Try.pinned (OpenSpec.ofChange fnExactWalkToSpec)

/-- ITS FALSE NEIGHBOUR: 'it returns false'. Refute it at one input. -/
def fnExactWalkToWrong : ChangeSpec := { name := "fnExactWalkTo", fn := fun _ => fun
  | [d1, d2, d3, d4] => { results := [.lit (.bool false)], args := [d1, d2, d3, d4] }
  | _ => none }
def FnExactWalkToWrongFalsely : Prop := fnExactWalkToRow.holds Try.pinned (OpenSpec.ofChange fnExactWalkToWrong)

/- THE SECOND FORM. 'bulk': how many values and letters a reading holds, each counted each time it is reached (what is shared counts as often as it is met; a slice's spare places count too). A statement '..UptoSaid' is the law's where the arguments, and the package variables that the reading takes, are together of bulk at most 1048576: NARROWER than '..Said'. Prove '..Said' where nothing that the law and all that it calls make is longer than what came in: it says more and counts as full. Else prove '..UptoSaid'. A law counts once. -/
mutual
def uptoBulk {H : Type} : DataW H → Nat
  | .lit (.string bytes) => bytes.length + 1
  | .lit _ => 1
  | .nil => 1
  | .ptr d => uptoBulk d + 1
  | .slice elems spare => uptoBulkAll elems + uptoBulkAll spare + 1
  | .agg parts => uptoBulkAll parts + 1
  | .iface _ d => uptoBulk d + 1
  | .map entries => uptoBulkEntries entries + 1
  | .held _ => 1
def uptoBulkAll {H : Type} : List (DataW H) → Nat
  | [] => 0
  | d :: r => uptoBulk d + uptoBulkAll r
def uptoBulkEntries {H : Type} : List (Lit × DataW H) → Nat
  | [] => 0
  | x :: r => uptoBulkEntry x + uptoBulkEntries r
def uptoBulkEntry {H : Type} : Lit × DataW H → Nat
  | (.string bytes, d) => bytes.length + uptoBulk d + 1
  | (_, d) => uptoBulk d + 1
 end
def uptoSmall : (H : Type) → List (DataW H) → Bool := fun _ ds => decide (uptoBulkAll ds ≤ 1048576)
def OpenSpec.upto (s : _root_.Go.ChangeSpec) : _root_.Go.OpenSpec := { _root_.Go.OpenSpec.ofChange s with cond := some uptoSmall }

/-- 'laws.FnExactPickBy', WHERE WHAT IT READS IS OF BULK AT MOST 1048576: true; the input reads as it did. -/
def fnExactPickByUptoRow : OpenClaim := { program := "ytblhmplpcdcejaa", sum := "d00622483bd922a7b034dc76d02342cd59a66c405ef0bede378cb20f28abcdb6", func := "loop.example/g00895/laws.FnExactPickBy", spec := "fnExactPickBy", unfollowed := true, recurses := true, apart := false, narrowed := true }
def FnExactPickByUptoSaid : Prop := fnExactPickByUptoRow.holds Try.pinned (OpenSpec.upto fnExactPickBySpec)

/-- 'laws.FnExactNormalBy', WHERE WHAT IT READS IS OF BULK AT MOST 1048576: true; the input reads as it did. -/
def fnExactNormalByUptoRow : OpenClaim := { program := "ytblhmplpcdcejaa", sum := "d00622483bd922a7b034dc76d02342cd59a66c405ef0bede378cb20f28abcdb6", func := "loop.example/g00895/laws.FnExactNormalBy", spec := "fnExactNormalBy", unfollowed := true, recurses := true, apart := false, narrowed := true }
def FnExactNormalByUptoSaid : Prop := fnExactNormalByUptoRow.holds Try.pinned (OpenSpec.upto fnExactNormalBySpec)

/-- 'laws.FnExactCountBy', WHERE WHAT IT READS IS OF BULK AT MOST 1048576: true; the input reads as it did. -/
def fnExactCountByUptoRow : OpenClaim := { program := "ytblhmplpcdcejaa", sum := "d00622483bd922a7b034dc76d02342cd59a66c405ef0bede378cb20f28abcdb6", func := "loop.example/g00895/laws.FnExactCountBy", spec := "fnExactCountBy", unfollowed := true, recurses := true, apart := false, narrowed := true }
def FnExactCountByUptoSaid : Prop := fnExactCountByUptoRow.holds Try.pinned (OpenSpec.upto fnExactCountBySpec)

/-- 'laws.FnExactJoinsIn', WHERE WHAT IT READS IS OF BULK AT MOST 1048576: true; the input reads as it did. -/
def fnExactJoinsInUptoRow : OpenClaim := { program := "ytblhmplpcdcejaa", sum := "d00622483bd922a7b034dc76d02342cd59a66c405ef0bede378cb20f28abcdb6", func := "loop.example/g00895/laws.FnExactJoinsIn", spec := "fnExactJoinsIn", unfollowed := true, recurses := true, apart := false, narrowed := true }
def FnExactJoinsInUptoSaid : Prop := fnExactJoinsInUptoRow.holds Try.pinned (OpenSpec.upto fnExactJoinsInSpec)

/-- 'laws.FnExactJoinOf', WHERE WHAT IT READS IS OF BULK AT MOST 1048576: true; the input reads as it did. -/
def fnExactJoinOfUptoRow : OpenClaim := { program := "ytblhmplpcdcejaa", sum := "d00622483bd922a7b034dc76d02342cd59a66c405ef0bede378cb20f28abcdb6", func := "loop.example/g00895/laws.FnExactJoinOf", spec := "fnExactJoinOf", unfollowed := true, recurses := true, apart := false, narrowed := true }
def FnExactJoinOfUptoSaid : Prop := fnExactJoinOfUptoRow.holds Try.pinned (OpenSpec.upto fnExactJoinOfSpec)

/-- 'laws.FnExactWalkTo', WHERE WHAT IT READS IS OF BULK AT MOST 1048576: true; the input reads as it did. -/
def fnExactWalkToUptoRow : OpenClaim := { program := "ytblhmplpcdcejaa", sum := "d00622483bd922a7b034dc76d02342cd59a66c405ef0bede378cb20f28abcdb6", func := "loop.example/g00895/laws.FnExactWalkTo", spec := "fnExactWalkTo", unfollowed := true, recurses := true, apart := false, narrowed := true }
def FnExactWalkToUptoSaid : Prop := fnExactWalkToUptoRow.holds Try.pinned (OpenSpec.upto fnExactWalkToSpec)

end Rows
end Go.Proofs.Ytblhmplpcdcejaa
