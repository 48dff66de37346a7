/-
  No cell of these rows narrows 'for every input' (looked for: loops, veiled, ifaces, maps, wideKeys, modest, calm, conditions, laid).
  DERIVED. THE GIVEN ROWS OF THIS SEAT. 6 by the template 'for every input the law returns true; each argument reads behind the call as it read before'; 0 by the template 'total and deterministic' (their statements: YtobedfmagjgdcaaTotals.lean).
  GIVEN WITH THE SEED: the statements are not yours to turn. If you find one false, say at which input.
  Laid BY PROGRAM, IN A SANDBOX (cutbox-rows.mjs): the forced cells as the released guide's own fill.sh prints them over the translation 78c484f403d8999a… (all of the seat's roots in one cut). By AI agents, Wed Nov 11 2026. No macro, syntax, notation, axiom, sorry.
-/
import Derived.Test.YtobedfmagjgdcaaChecked
import GoSem.Claim
import GoSem.ClaimJoined
import GoSem.ClaimMapViews
import Derived.JoinedTies
import Derived.KernelRfl
namespace Go.Proofs.Ytobedfmagjgdcaa
/- THE CELL 'sum', in the pinned program and in every row, IS THE sha256 OF THE DUMP (.gsa) THAT YtobedfmagjgdcaaProg.lean LOADS. Nothing in Lean hashes anything: it is a label: what it is worth is what the hold of that sum in a sandbox is worth. -/
noncomputable def Try.pinned : Pinned := { name := "ytobedfmagjgdcaa", sum := "78c484f403d8999aee15e27dede4de9624a525f92901e46c09191f6b9d960725", checked := Try.checked }
namespace Rows
def none {H : Type} : Left H := { results := [], args := [] }

/-- 'laws.FnExactMostGeneral': WHATEVER THE INPUT: true; the input reads as it did. -/
def fnExactMostGeneralSpec : ChangeSpec := { name := "fnExactMostGeneral", fn := fun _ => fun
  | [d1, d2] => { results := [.lit (.bool true)], args := [d1, d2] }
  | _ => none }
def fnExactMostGeneralRow : OpenClaim := { program := "ytobedfmagjgdcaa", sum := "78c484f403d8999aee15e27dede4de9624a525f92901e46c09191f6b9d960725", func := "loop.example/g00895/laws.FnExactMostGeneral", spec := "fnExactMostGeneral", unfollowed := true, recurses := true, apart := false }
def FnExactMostGeneralSaid : Prop := fnExactMostGeneralRow.holds Try.pinned (OpenSpec.ofChange fnExactMostGeneralSpec)

/-- ITS FALSE NEIGHBOUR: 'it returns false'. Refute it at one input. -/
def fnExactMostGeneralWrong : ChangeSpec := { name := "fnExactMostGeneral", fn := fun _ => fun
  | [d1, d2] => { results := [.lit (.bool false)], args := [d1, d2] }
  | _ => none }
def FnExactMostGeneralWrongFalsely : Prop := fnExactMostGeneralRow.holds Try.pinned (OpenSpec.ofChange fnExactMostGeneralWrong)

/-- 'laws.FnExactUnified': WHATEVER THE INPUT: true; the input reads as it did. -/
def fnExactUnifiedSpec : ChangeSpec := { name := "fnExactUnified", fn := fun _ => fun
  | [d1, d2, d3] => { results := [.lit (.bool true)], args := [d1, d2, d3] }
  | _ => none }
def fnExactUnifiedRow : OpenClaim := { program := "ytobedfmagjgdcaa", sum := "78c484f403d8999aee15e27dede4de9624a525f92901e46c09191f6b9d960725", func := "loop.example/g00895/laws.FnExactUnified", spec := "fnExactUnified", unfollowed := true, recurses := true, apart := false }
def FnExactUnifiedSaid : Prop := fnExactUnifiedRow.holds Try.pinned (OpenSpec.ofChange fnExactUnifiedSpec)

/-- ITS FALSE NEIGHBOUR: 'it returns false'. Refute it at one input. -/
def fnExactUnifiedWrong : ChangeSpec := { name := "fnExactUnified", fn := fun _ => fun
  | [d1, d2, d3] => { results := [.lit (.bool false)], args := [d1, d2, d3] }
  | _ => none }
def FnExactUnifiedWrongFalsely : Prop := fnExactUnifiedRow.holds Try.pinned (OpenSpec.ofChange fnExactUnifiedWrong)

/-- 'laws.FnExactUnifiesIn': WHATEVER THE INPUT: true; the input reads as it did. -/
def fnExactUnifiesInSpec : ChangeSpec := { name := "fnExactUnifiesIn", fn := fun _ => fun
  | [d1, d2, d3] => { results := [.lit (.bool true)], args := [d1, d2, d3] }
  | _ => none }
def fnExactUnifiesInRow : OpenClaim := { program := "ytobedfmagjgdcaa", sum := "78c484f403d8999aee15e27dede4de9624a525f92901e46c09191f6b9d960725", func := "loop.example/g00895/laws.FnExactUnifiesIn", spec := "fnExactUnifiesIn", unfollowed := true, recurses := true, apart := false }
def FnExactUnifiesInSaid : Prop := fnExactUnifiesInRow.holds Try.pinned (OpenSpec.ofChange fnExactUnifiesInSpec)

/-- ITS FALSE NEIGHBOUR: 'it returns false'. Refute it at one input. -/
def fnExactUnifiesInWrong : ChangeSpec := { name := "fnExactUnifiesIn", fn := fun _ => fun
  | [d1, d2, d3] => { results := [.lit (.bool false)], args := [d1, d2, d3] }
  | _ => none }
def FnExactUnifiesInWrongFalsely : Prop := fnExactUnifiesInRow.holds Try.pinned (OpenSpec.ofChange fnExactUnifiesInWrong)

/-- 'laws.FnExactUnifiedApart': WHATEVER THE INPUT: true; the input reads as it did. -/
def fnExactUnifiedApartSpec : ChangeSpec := { name := "fnExactUnifiedApart", fn := fun _ => fun
  | [d1, d2, d3] => { results := [.lit (.bool true)], args := [d1, d2, d3] }
  | _ => none }
def fnExactUnifiedApartRow : OpenClaim := { program := "ytobedfmagjgdcaa", sum := "78c484f403d8999aee15e27dede4de9624a525f92901e46c09191f6b9d960725", func := "loop.example/g00895/laws.FnExactUnifiedApart", spec := "fnExactUnifiedApart", unfollowed := true, recurses := true, apart := false }
def FnExactUnifiedApartSaid : Prop := fnExactUnifiedApartRow.holds Try.pinned (OpenSpec.ofChange fnExactUnifiedApartSpec)

/-- ITS FALSE NEIGHBOUR: 'it returns false'. Refute it at one input. -/
def fnExactUnifiedApartWrong : ChangeSpec := { name := "fnExactUnifiedApart", fn := fun _ => fun
  | [d1, d2, d3] => { results := [.lit (.bool false)], args := [d1, d2, d3] }
  | _ => none }
def FnExactUnifiedApartWrongFalsely : Prop := fnExactUnifiedApartRow.holds Try.pinned (OpenSpec.ofChange fnExactUnifiedApartWrong)

/-- 'laws.FnExactMetOf': WHATEVER THE INPUT: true; the input reads as it did. -/
def fnExactMetOfSpec : ChangeSpec := { name := "fnExactMetOf", fn := fun _ => fun
  | [d1, d2, d3] => { results := [.lit (.bool true)], args := [d1, d2, d3] }
  | _ => none }
def fnExactMetOfRow : OpenClaim := { program := "ytobedfmagjgdcaa", sum := "78c484f403d8999aee15e27dede4de9624a525f92901e46c09191f6b9d960725", func := "loop.example/g00895/laws.FnExactMetOf", spec := "fnExactMetOf", unfollowed := true, recurses := true, apart := false }
def FnExactMetOfSaid : Prop := fnExactMetOfRow.holds Try.pinned (OpenSpec.ofChange fnExactMetOfSpec)

/-- ITS FALSE NEIGHBOUR: 'it returns false'. Refute it at one input. -/
def fnExactMetOfWrong : ChangeSpec := { name := "fnExactMetOf", fn := fun _ => fun
  | [d1, d2, d3] => { results := [.lit (.bool false)], args := [d1, d2, d3] }
  | _ => none }
def FnExactMetOfWrongFalsely : Prop := fnExactMetOfRow.holds Try.pinned (OpenSpec.ofChange fnExactMetOfWrong)

/-- 'laws.FnUnified': WHATEVER THE INPUT: true; the input reads as it did. -/
def fnUnifiedSpec : ChangeSpec := { name := "fnUnified", fn := fun _ => fun
  | [d] => { results := [.lit (.bool true)], args := [d] }
  | _ => none }
def fnUnifiedRow : OpenClaim := { program := "ytobedfmagjgdcaa", sum := "78c484f403d8999aee15e27dede4de9624a525f92901e46c09191f6b9d960725", func := "loop.example/g00895/laws.FnUnified", spec := "fnUnified", unfollowed := true, recurses := true, apart := false }
def FnUnifiedSaid : Prop := fnUnifiedRow.holds Try.pinned (OpenSpec.ofChange fnUnifiedSpec)

/-- ITS FALSE NEIGHBOUR: 'it returns false'. Refute it at one input. -/
def fnUnifiedWrong : ChangeSpec := { name := "fnUnified", fn := fun _ => fun
  | [d] => { results := [.lit (.bool false)], args := [d] }
  | _ => none }
def FnUnifiedWrongFalsely : Prop := fnUnifiedRow.holds Try.pinned (OpenSpec.ofChange fnUnifiedWrong)

/- THE SECOND FORM. 'bulk': how many values and letters a reading holds, each counted each time it is reached (what is shared counts as often as it is met; a slice's spare places count too). A statement '..UptoSaid' is the law's where the arguments, and the package variables that the reading takes, are together of bulk at most 1048576: NARROWER than '..Said'. Prove '..Said' where nothing that the law and all that it calls make is longer than what came in: it says more and counts as full. Else prove '..UptoSaid'. A law counts once. -/
mutual
def uptoBulk {H : Type} : DataW H → Nat
  | .lit (.string bytes) => bytes.length + 1
  | .lit _ => 1
  | .nil => 1
  | .ptr d => uptoBulk d + 1
  | .slice elems spare => uptoBulkAll elems + uptoBulkAll spare + 1
  | .agg parts => uptoBulkAll parts + 1
  | .iface _ d => uptoBulk d + 1
  | .map entries => uptoBulkEntries entries + 1
  | .held _ => 1
def uptoBulkAll {H : Type} : List (DataW H) → Nat
  | [] => 0
  | d :: r => uptoBulk d + uptoBulkAll r
def uptoBulkEntries {H : Type} : List (Lit × DataW H) → Nat
  | [] => 0
  | x :: r => uptoBulkEntry x + uptoBulkEntries r
def uptoBulkEntry {H : Type} : Lit × DataW H → Nat
  | (.string bytes, d) => bytes.length + uptoBulk d + 1
  | (_, d) => uptoBulk d + 1
 end
def uptoSmall : (H : Type) → List (DataW H) → Bool := fun _ ds => decide (uptoBulkAll ds ≤ 1048576)
def OpenSpec.upto (s : _root_.Go.ChangeSpec) : _root_.Go.OpenSpec := { _root_.Go.OpenSpec.ofChange s with cond := some uptoSmall }

/-- 'laws.FnExactMostGeneral', WHERE WHAT IT READS IS OF BULK AT MOST 1048576: true; the input reads as it did. -/
def fnExactMostGeneralUptoRow : OpenClaim := { program := "ytobedfmagjgdcaa", sum := "78c484f403d8999aee15e27dede4de9624a525f92901e46c09191f6b9d960725", func := "loop.example/g00895/laws.FnExactMostGeneral", spec := "fnExactMostGeneral", unfollowed := true, recurses := true, apart := false, narrowed := true }
def FnExactMostGeneralUptoSaid : Prop := fnExactMostGeneralUptoRow.holds Try.pinned (OpenSpec.upto fnExactMostGeneralSpec)

/-- 'laws.FnExactUnified', WHERE WHAT IT READS IS OF BULK AT MOST 1048576: true; the input reads as it did. -/
def fnExactUnifiedUptoRow : OpenClaim := { program := "ytobedfmagjgdcaa", sum := "78c484f403d8999aee15e27dede4de9624a525f92901e46c09191f6b9d960725", func := "loop.example/g00895/laws.FnExactUnified", spec := "fnExactUnified", unfollowed := true, recurses := true, apart := false, narrowed := true }
def FnExactUnifiedUptoSaid : Prop := fnExactUnifiedUptoRow.holds Try.pinned (OpenSpec.upto fnExactUnifiedSpec)

/-- 'laws.FnExactUnifiesIn', WHERE WHAT IT READS IS OF BULK AT MOST 1048576: true; the input reads as it did. -/
def fnExactUnifiesInUptoRow : OpenClaim := { program := "ytobedfmagjgdcaa", sum := "78c484f403d8999aee15e27dede4de9624a525f92901e46c09191f6b9d960725", func := "loop.example/g00895/laws.FnExactUnifiesIn", spec := "fnExactUnifiesIn", unfollowed := true, recurses := true, apart := false, narrowed := true }
def FnExactUnifiesInUptoSaid : Prop := fnExactUnifiesInUptoRow.holds Try.pinned (OpenSpec.upto fnExactUnifiesInSpec)

/-- 'laws.FnExactUnifiedApart', WHERE WHAT IT READS IS OF BULK AT MOST 1048576: true; the input reads as it did. -/
def fnExactUnifiedApartUptoRow : OpenClaim := { program := "ytobedfmagjgdcaa", sum := "78c484f403d8999aee15e27dede4de9624a525f92901e46c09191f6b9d960725", func := "loop.example/g00895/laws.FnExactUnifiedApart", spec := "fnExactUnifiedApart", unfollowed := true, recurses := true, apart := false, narrowed := true }
def FnExactUnifiedApartUptoSaid : Prop := fnExactUnifiedApartUptoRow.holds Try.pinned (OpenSpec.upto fnExactUnifiedApartSpec)

/-- 'laws.FnExactMetOf', WHERE WHAT IT READS IS OF BULK AT MOST 1048576: true; the input reads as it did. -/
def fnExactMetOfUptoRow : OpenClaim := { program := "ytobedfmagjgdcaa", sum := "78c484f403d8999aee15e27dede4de9624a525f92901e46c09191f6b9d960725", func := "loop.example/g00895/laws.FnExactMetOf", spec := "fnExactMetOf", unfollowed := true, recurses := true, apart := false, narrowed := true }
def FnExactMetOfUptoSaid : Prop := fnExactMetOfUptoRow.holds Try.pinned (OpenSpec.upto fnExactMetOfSpec)

/-- 'laws.FnUnified', WHERE WHAT IT READS IS OF BULK AT MOST 1048576: true; the input reads as it did. -/
def fnUnifiedUptoRow : OpenClaim := { program := "ytobedfmagjgdcaa", sum := "78c484f403d8999aee15e27dede4de9624a525f92901e46c09191f6b9d960725", func := "loop.example/g00895/laws.FnUnified", spec := "fnUnified", unfollowed := true, recurses := true, apart := false, narrowed := true }
def FnUnifiedUptoSaid : Prop := fnUnifiedUptoRow.holds Try.pinned (OpenSpec.upto fnUnifiedSpec)

end Rows
end Go.Proofs.Ytobedfmagjgdcaa
