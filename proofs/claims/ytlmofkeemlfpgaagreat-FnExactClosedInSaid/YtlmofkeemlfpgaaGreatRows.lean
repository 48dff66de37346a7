/-
  No cell of these rows narrows 'for every input' (looked for: loops, veiled, ifaces, maps, wideKeys, modest, calm, conditions, laid).
  DERIVED. THE GIVEN ROWS OF THIS SEAT. 4 by the template 'for every input the law returns true; each argument reads behind the call as it read before'; 0 by the template 'total and deterministic' (their statements: YtlmofkeemlfpgaaGreatTotals.lean).
  GIVEN WITH THE SEED: the statements are not yours to turn. If you find one false, say at which input.
  Laid BY PROGRAM, IN A SANDBOX (cutbox-rows.mjs): the forced cells as the released guide's own fill.sh prints them over the translation 47512917b2444f72… (all of the seat's roots in one cut). By AI agents, Wed Nov 11 2026. No macro, syntax, notation, axiom, sorry.
-/
import Derived.Test.YtlmofkeemlfpgaaGreatChecked
import GoSem.Claim
import GoSem.ClaimJoined
import GoSem.ClaimMapViews
import Derived.JoinedTies
import Derived.KernelRfl
namespace Go.Proofs.YtlmofkeemlfpgaaGreat
/- THE CELL 'sum', in the pinned program and in every row, IS THE sha256 OF THE DUMP (.gsa) THAT YtlmofkeemlfpgaaGreatProg.lean LOADS. Nothing in Lean hashes anything: it is a label: what it is worth is what the hold of that sum in a sandbox is worth. -/
noncomputable def Tryz.pinned : Pinned := { name := "ytlmofkeemlfpgaagreat", sum := "47512917b2444f7248a5e8f82b579aaabc979a8bfaf6c78481530fbe3f980bbb", checked := Tryz.checked }
namespace Rows
def none {H : Type} : Left H := { results := [], args := [] }

/-- 'laws.FnExactOrthogonalIn': WHATEVER THE INPUT: true; the input reads as it did. -/
def fnExactOrthogonalInSpec : ChangeSpec := { name := "fnExactOrthogonalIn", fn := fun _ => fun
  | [d] => { results := [.lit (.bool true)], args := [d] }
  | _ => none }
def fnExactOrthogonalInRow : OpenClaim := { program := "ytlmofkeemlfpgaagreat", sum := "47512917b2444f7248a5e8f82b579aaabc979a8bfaf6c78481530fbe3f980bbb", func := "loop.example/g00895/laws.FnExactOrthogonalIn", spec := "fnExactOrthogonalIn", unfollowed := true, recurses := true, apart := false }
def FnExactOrthogonalInSaid : Prop := fnExactOrthogonalInRow.holds Tryz.pinned (OpenSpec.ofChange fnExactOrthogonalInSpec)

/-- ITS FALSE NEIGHBOUR: 'it returns false'. Refute it at one input. -/
def fnExactOrthogonalInWrong : ChangeSpec := { name := "fnExactOrthogonalIn", fn := fun _ => fun
  | [d] => { results := [.lit (.bool false)], args := [d] }
  | _ => none }
def FnExactOrthogonalInWrongFalsely : Prop := fnExactOrthogonalInRow.holds Tryz.pinned (OpenSpec.ofChange fnExactOrthogonalInWrong)

/-- 'laws.FnExactWeaklyIn': WHATEVER THE INPUT: true; the input reads as it did. -/
def fnExactWeaklyInSpec : ChangeSpec := { name := "fnExactWeaklyIn", fn := fun _ => fun
  | [d] => { results := [.lit (.bool true)], args := [d] }
  | _ => none }
def fnExactWeaklyInRow : OpenClaim := { program := "ytlmofkeemlfpgaagreat", sum := "47512917b2444f7248a5e8f82b579aaabc979a8bfaf6c78481530fbe3f980bbb", func := "loop.example/g00895/laws.FnExactWeaklyIn", spec := "fnExactWeaklyIn", unfollowed := true, recurses := true, apart := false }
def FnExactWeaklyInSaid : Prop := fnExactWeaklyInRow.holds Tryz.pinned (OpenSpec.ofChange fnExactWeaklyInSpec)

/-- ITS FALSE NEIGHBOUR: 'it returns false'. Refute it at one input. -/
def fnExactWeaklyInWrong : ChangeSpec := { name := "fnExactWeaklyIn", fn := fun _ => fun
  | [d] => { results := [.lit (.bool false)], args := [d] }
  | _ => none }
def FnExactWeaklyInWrongFalsely : Prop := fnExactWeaklyInRow.holds Tryz.pinned (OpenSpec.ofChange fnExactWeaklyInWrong)

/-- 'laws.FnExactClosedIn': WHATEVER THE INPUT: true; the input reads as it did. -/
def fnExactClosedInSpec : ChangeSpec := { name := "fnExactClosedIn", fn := fun _ => fun
  | [d] => { results := [.lit (.bool true)], args := [d] }
  | _ => none }
def fnExactClosedInRow : OpenClaim := { program := "ytlmofkeemlfpgaagreat", sum := "47512917b2444f7248a5e8f82b579aaabc979a8bfaf6c78481530fbe3f980bbb", func := "loop.example/g00895/laws.FnExactClosedIn", spec := "fnExactClosedIn", unfollowed := true, recurses := true, apart := false }
def FnExactClosedInSaid : Prop := fnExactClosedInRow.holds Tryz.pinned (OpenSpec.ofChange fnExactClosedInSpec)

/-- ITS FALSE NEIGHBOUR: 'it returns false'. Refute it at one input. -/
def fnExactClosedInWrong : ChangeSpec := { name := "fnExactClosedIn", fn := fun _ => fun
  | [d] => { results := [.lit (.bool false)], args := [d] }
  | _ => none }
def FnExactClosedInWrongFalsely : Prop := fnExactClosedInRow.holds Tryz.pinned (OpenSpec.ofChange fnExactClosedInWrong)

/-- 'laws.FnExactSplitOf': WHATEVER THE INPUT: true; the input reads as it did. -/
def fnExactSplitOfSpec : ChangeSpec := { name := "fnExactSplitOf", fn := fun _ => fun
  | [d1, d2] => { results := [.lit (.bool true)], args := [d1, d2] }
  | _ => none }
def fnExactSplitOfRow : OpenClaim := { program := "ytlmofkeemlfpgaagreat", sum := "47512917b2444f7248a5e8f82b579aaabc979a8bfaf6c78481530fbe3f980bbb", func := "loop.example/g00895/laws.FnExactSplitOf", spec := "fnExactSplitOf", unfollowed := true, recurses := true, apart := false }
def FnExactSplitOfSaid : Prop := fnExactSplitOfRow.holds Tryz.pinned (OpenSpec.ofChange fnExactSplitOfSpec)

/-- ITS FALSE NEIGHBOUR: 'it returns false'. Refute it at one input. -/
def fnExactSplitOfWrong : ChangeSpec := { name := "fnExactSplitOf", fn := fun _ => fun
  | [d1, d2] => { results := [.lit (.bool false)], args := [d1, d2] }
  | _ => none }
def FnExactSplitOfWrongFalsely : Prop := fnExactSplitOfRow.holds Tryz.pinned (OpenSpec.ofChange fnExactSplitOfWrong)

/- THE SECOND FORM. 'bulk': how many values and letters a reading holds, each counted each time it is reached (what is shared counts as often as it is met; a slice's spare places count too). A statement '..UptoSaid' is the law's where the arguments, and the package variables that the reading takes, are together of bulk at most 1048576: NARROWER than '..Said'. Prove '..Said' where nothing that the law and all that it calls make is longer than what came in: it says more and counts as full. Else prove '..UptoSaid'. A law counts once. -/
mutual
def uptoBulk {H : Type} : DataW H → Nat
  | .lit (.string bytes) => bytes.length + 1
  | .lit _ => 1
  | .nil => 1
  | .ptr d => uptoBulk d + 1
  | .slice elems spare => uptoBulkAll elems + uptoBulkAll spare + 1
  | .agg parts => uptoBulkAll parts + 1
  | .iface _ d => uptoBulk d + 1
  | .map entries => uptoBulkEntries entries + 1
  | .held _ => 1
def uptoBulkAll {H : Type} : List (DataW H) → Nat
  | [] => 0
  | d :: r => uptoBulk d + uptoBulkAll r
def uptoBulkEntries {H : Type} : List (Lit × DataW H) → Nat
  | [] => 0
  | x :: r => uptoBulkEntry x + uptoBulkEntries r
def uptoBulkEntry {H : Type} : Lit × DataW H → Nat
  | (.string bytes, d) => bytes.length + uptoBulk d + 1
  | (_, d) => uptoBulk d + 1
 end
def uptoSmall : (H : Type) → List (DataW H) → Bool := fun _ ds => decide (uptoBulkAll ds ≤ 1048576)
def OpenSpec.upto (s : _root_.Go.ChangeSpec) : _root_.Go.OpenSpec := { _root_.Go.OpenSpec.ofChange s with cond := some uptoSmall }

/-- 'laws.FnExactOrthogonalIn', WHERE WHAT IT READS IS OF BULK AT MOST 1048576: true; the input reads as it did. -/
def fnExactOrthogonalInUptoRow : OpenClaim := { program := "ytlmofkeemlfpgaagreat", sum := "47512917b2444f7248a5e8f82b579aaabc979a8bfaf6c78481530fbe3f980bbb", func := "loop.example/g00895/laws.FnExactOrthogonalIn", spec := "fnExactOrthogonalIn", unfollowed := true, recurses := true, apart := false, narrowed := true }
def FnExactOrthogonalInUptoSaid : Prop := fnExactOrthogonalInUptoRow.holds Tryz.pinned (OpenSpec.upto fnExactOrthogonalInSpec)

/-- 'laws.FnExactWeaklyIn', WHERE WHAT IT READS IS OF BULK AT MOST 1048576: true; the input reads as it did. -/
def fnExactWeaklyInUptoRow : OpenClaim := { program := "ytlmofkeemlfpgaagreat", sum := "47512917b2444f7248a5e8f82b579aaabc979a8bfaf6c78481530fbe3f980bbb", func := "loop.example/g00895/laws.FnExactWeaklyIn", spec := "fnExactWeaklyIn", unfollowed := true, recurses := true, apart := false, narrowed := true }
def FnExactWeaklyInUptoSaid : Prop := fnExactWeaklyInUptoRow.holds Tryz.pinned (OpenSpec.upto fnExactWeaklyInSpec)

/-- 'laws.FnExactClosedIn', WHERE WHAT IT READS IS OF BULK AT MOST 1048576: true; the input reads as it did. -/
def fnExactClosedInUptoRow : OpenClaim := { program := "ytlmofkeemlfpgaagreat", sum := "47512917b2444f7248a5e8f82b579aaabc979a8bfaf6c78481530fbe3f980bbb", func := "loop.example/g00895/laws.FnExactClosedIn", spec := "fnExactClosedIn", unfollowed := true, recurses := true, apart := false, narrowed := true }
def FnExactClosedInUptoSaid : Prop := fnExactClosedInUptoRow.holds Tryz.pinned (OpenSpec.upto fnExactClosedInSpec)

/-- 'laws.FnExactSplitOf', WHERE WHAT IT READS IS OF BULK AT MOST 1048576: true; the input reads as it did. -/
def fnExactSplitOfUptoRow : OpenClaim := { program := "ytlmofkeemlfpgaagreat", sum := "47512917b2444f7248a5e8f82b579aaabc979a8bfaf6c78481530fbe3f980bbb", func := "loop.example/g00895/laws.FnExactSplitOf", spec := "fnExactSplitOf", unfollowed := true, recurses := true, apart := false, narrowed := true }
def FnExactSplitOfUptoSaid : Prop := fnExactSplitOfUptoRow.holds Tryz.pinned (OpenSpec.upto fnExactSplitOfSpec)

end Rows
end Go.Proofs.YtlmofkeemlfpgaaGreat
