/-
  No cell of these rows narrows 'for every input' (looked for: loops, veiled, ifaces, maps, wideKeys, modest, calm, conditions, laid).
  DERIVED. THE GIVEN ROWS OF THIS SEAT. 8 by the template 'for every input the law returns true; each argument reads behind the call as it read before'; 0 by the template 'total and deterministic' (their statements: YtghgnondlgdjdaaTotals.lean).
  GIVEN WITH THE SEED: the statements are not yours to turn. If you find one false, say at which input.
  Laid BY PROGRAM, IN A SANDBOX (cutbox-rows.mjs): the forced cells as the released guide's own fill.sh prints them over the translation f8f55a974553aea5… (all of the seat's roots in one cut). By AI agents, Wed Nov 11 2026. No macro, syntax, notation, axiom, sorry.
-/
import Derived.Test.YtghgnondlgdjdaaChecked
import GoSem.Claim
import GoSem.ClaimJoined
import GoSem.ClaimMapViews
import Derived.JoinedTies
import Derived.KernelRfl
namespace Go.Proofs.Ytghgnondlgdjdaa
/- THE CELL 'sum', in the pinned program and in every row, IS THE sha256 OF THE DUMP (.gsa) THAT YtghgnondlgdjdaaProg.lean LOADS. Nothing in Lean hashes anything: it is a label: what it is worth is what the hold of that sum in a sandbox is worth. -/
noncomputable def Try.pinned : Pinned := { name := "ytghgnondlgdjdaa", sum := "f8f55a974553aea5711b03af332a8dea35b6a20b0333befdc19d768f286a18f3", checked := Try.checked }
namespace Rows
def none {H : Type} : Left H := { results := [], args := [] }

/-- 'laws.FnExactPlainOf': WHATEVER THE INPUT: true; the input reads as it did. -/
def fnExactPlainOfSpec : ChangeSpec := { name := "fnExactPlainOf", fn := fun _ => fun
  | [d1, d2] => { results := [.lit (.bool true)], args := [d1, d2] }
  | _ => none }
def fnExactPlainOfRow : OpenClaim := { program := "ytghgnondlgdjdaa", sum := "f8f55a974553aea5711b03af332a8dea35b6a20b0333befdc19d768f286a18f3", func := "loop.example/g00895/laws.FnExactPlainOf", spec := "fnExactPlainOf", unfollowed := true, recurses := true, apart := false }
def FnExactPlainOfSaid : Prop := fnExactPlainOfRow.holds Try.pinned (OpenSpec.ofChange fnExactPlainOfSpec)

/-- ITS FALSE NEIGHBOUR: 'it returns false'. Refute it at one input. -/
def fnExactPlainOfWrong : ChangeSpec := { name := "fnExactPlainOf", fn := fun _ => fun
  | [d1, d2] => { results := [.lit (.bool false)], args := [d1, d2] }
  | _ => none }
def FnExactPlainOfWrongFalsely : Prop := fnExactPlainOfRow.holds Try.pinned (OpenSpec.ofChange fnExactPlainOfWrong)

/-- 'laws.FnExactComposed': WHATEVER THE INPUT: true; the input reads as it did. -/
def fnExactComposedSpec : ChangeSpec := { name := "fnExactComposed", fn := fun _ => fun
  | [d1, d2, d3] => { results := [.lit (.bool true)], args := [d1, d2, d3] }
  | _ => none }
def fnExactComposedRow : OpenClaim := { program := "ytghgnondlgdjdaa", sum := "f8f55a974553aea5711b03af332a8dea35b6a20b0333befdc19d768f286a18f3", func := "loop.example/g00895/laws.FnExactComposed", spec := "fnExactComposed", unfollowed := true, recurses := true, apart := false }
def FnExactComposedSaid : Prop := fnExactComposedRow.holds Try.pinned (OpenSpec.ofChange fnExactComposedSpec)

/-- ITS FALSE NEIGHBOUR: 'it returns false'. Refute it at one input. -/
def fnExactComposedWrong : ChangeSpec := { name := "fnExactComposed", fn := fun _ => fun
  | [d1, d2, d3] => { results := [.lit (.bool false)], args := [d1, d2, d3] }
  | _ => none }
def FnExactComposedWrongFalsely : Prop := fnExactComposedRow.holds Try.pinned (OpenSpec.ofChange fnExactComposedWrong)

/-- 'laws.FnPlain': WHATEVER THE INPUT: true; the input reads as it did. -/
def fnPlainSpec : ChangeSpec := { name := "fnPlain", fn := fun _ => fun
  | [d] => { results := [.lit (.bool true)], args := [d] }
  | _ => none }
def fnPlainRow : OpenClaim := { program := "ytghgnondlgdjdaa", sum := "f8f55a974553aea5711b03af332a8dea35b6a20b0333befdc19d768f286a18f3", func := "loop.example/g00895/laws.FnPlain", spec := "fnPlain", unfollowed := true, recurses := true, apart := false }
def FnPlainSaid : Prop := fnPlainRow.holds Try.pinned (OpenSpec.ofChange fnPlainSpec)

/-- ITS FALSE NEIGHBOUR: 'it returns false'. Refute it at one input. -/
def fnPlainWrong : ChangeSpec := { name := "fnPlain", fn := fun _ => fun
  | [d] => { results := [.lit (.bool false)], args := [d] }
  | _ => none }
def FnPlainWrongFalsely : Prop := fnPlainRow.holds Try.pinned (OpenSpec.ofChange fnPlainWrong)

/-- 'laws.FnFilled': WHATEVER THE INPUT: true; the input reads as it did. -/
def fnFilledSpec : ChangeSpec := { name := "fnFilled", fn := fun _ => fun
  | [d] => { results := [.lit (.bool true)], args := [d] }
  | _ => none }
def fnFilledRow : OpenClaim := { program := "ytghgnondlgdjdaa", sum := "f8f55a974553aea5711b03af332a8dea35b6a20b0333befdc19d768f286a18f3", func := "loop.example/g00895/laws.FnFilled", spec := "fnFilled", unfollowed := true, recurses := true, apart := false }
def FnFilledSaid : Prop := fnFilledRow.holds Try.pinned (OpenSpec.ofChange fnFilledSpec)

/-- ITS FALSE NEIGHBOUR: 'it returns false'. Refute it at one input. -/
def fnFilledWrong : ChangeSpec := { name := "fnFilled", fn := fun _ => fun
  | [d] => { results := [.lit (.bool false)], args := [d] }
  | _ => none }
def FnFilledWrongFalsely : Prop := fnFilledRow.holds Try.pinned (OpenSpec.ofChange fnFilledWrong)

/-- 'laws.FnExactMatched': WHATEVER THE INPUT: true; the input reads as it did. -/
def fnExactMatchedSpec : ChangeSpec := { name := "fnExactMatched", fn := fun _ => fun
  | [d1, d2, d3] => { results := [.lit (.bool true)], args := [d1, d2, d3] }
  | _ => none }
def fnExactMatchedRow : OpenClaim := { program := "ytghgnondlgdjdaa", sum := "f8f55a974553aea5711b03af332a8dea35b6a20b0333befdc19d768f286a18f3", func := "loop.example/g00895/laws.FnExactMatched", spec := "fnExactMatched", unfollowed := true, recurses := true, apart := false }
def FnExactMatchedSaid : Prop := fnExactMatchedRow.holds Try.pinned (OpenSpec.ofChange fnExactMatchedSpec)

/-- ITS FALSE NEIGHBOUR: 'it returns false'. Refute it at one input. -/
def fnExactMatchedWrong : ChangeSpec := { name := "fnExactMatched", fn := fun _ => fun
  | [d1, d2, d3] => { results := [.lit (.bool false)], args := [d1, d2, d3] }
  | _ => none }
def FnExactMatchedWrongFalsely : Prop := fnExactMatchedRow.holds Try.pinned (OpenSpec.ofChange fnExactMatchedWrong)

/-- 'laws.FnExactInstanceIn': WHATEVER THE INPUT: true; the input reads as it did. -/
def fnExactInstanceInSpec : ChangeSpec := { name := "fnExactInstanceIn", fn := fun _ => fun
  | [d1, d2, d3] => { results := [.lit (.bool true)], args := [d1, d2, d3] }
  | _ => none }
def fnExactInstanceInRow : OpenClaim := { program := "ytghgnondlgdjdaa", sum := "f8f55a974553aea5711b03af332a8dea35b6a20b0333befdc19d768f286a18f3", func := "loop.example/g00895/laws.FnExactInstanceIn", spec := "fnExactInstanceIn", unfollowed := true, recurses := true, apart := false }
def FnExactInstanceInSaid : Prop := fnExactInstanceInRow.holds Try.pinned (OpenSpec.ofChange fnExactInstanceInSpec)

/-- ITS FALSE NEIGHBOUR: 'it returns false'. Refute it at one input. -/
def fnExactInstanceInWrong : ChangeSpec := { name := "fnExactInstanceIn", fn := fun _ => fun
  | [d1, d2, d3] => { results := [.lit (.bool false)], args := [d1, d2, d3] }
  | _ => none }
def FnExactInstanceInWrongFalsely : Prop := fnExactInstanceInRow.holds Try.pinned (OpenSpec.ofChange fnExactInstanceInWrong)

/-- 'laws.FnExactMatchedAll': WHATEVER THE INPUT: true; the input reads as it did. -/
def fnExactMatchedAllSpec : ChangeSpec := { name := "fnExactMatchedAll", fn := fun _ => fun
  | [d1, d2, d3] => { results := [.lit (.bool true)], args := [d1, d2, d3] }
  | _ => none }
def fnExactMatchedAllRow : OpenClaim := { program := "ytghgnondlgdjdaa", sum := "f8f55a974553aea5711b03af332a8dea35b6a20b0333befdc19d768f286a18f3", func := "loop.example/g00895/laws.FnExactMatchedAll", spec := "fnExactMatchedAll", unfollowed := true, recurses := true, apart := false }
def FnExactMatchedAllSaid : Prop := fnExactMatchedAllRow.holds Try.pinned (OpenSpec.ofChange fnExactMatchedAllSpec)

/-- ITS FALSE NEIGHBOUR: 'it returns false'. Refute it at one input. -/
def fnExactMatchedAllWrong : ChangeSpec := { name := "fnExactMatchedAll", fn := fun _ => fun
  | [d1, d2, d3] => { results := [.lit (.bool false)], args := [d1, d2, d3] }
  | _ => none }
def FnExactMatchedAllWrongFalsely : Prop := fnExactMatchedAllRow.holds Try.pinned (OpenSpec.ofChange fnExactMatchedAllWrong)

/-- 'laws.FnExactMoreGeneral': WHATEVER THE INPUT: true; the input reads as it did. -/
def fnExactMoreGeneralSpec : ChangeSpec := { name := "fnExactMoreGeneral", fn := fun _ => fun
  | [d1, d2, d3] => { results := [.lit (.bool true)], args := [d1, d2, d3] }
  | _ => none }
def fnExactMoreGeneralRow : OpenClaim := { program := "ytghgnondlgdjdaa", sum := "f8f55a974553aea5711b03af332a8dea35b6a20b0333befdc19d768f286a18f3", func := "loop.example/g00895/laws.FnExactMoreGeneral", spec := "fnExactMoreGeneral", unfollowed := true, recurses := true, apart := false }
def FnExactMoreGeneralSaid : Prop := fnExactMoreGeneralRow.holds Try.pinned (OpenSpec.ofChange fnExactMoreGeneralSpec)

/-- ITS FALSE NEIGHBOUR: 'it returns false'. Refute it at one input. -/
def fnExactMoreGeneralWrong : ChangeSpec := { name := "fnExactMoreGeneral", fn := fun _ => fun
  | [d1, d2, d3] => { results := [.lit (.bool false)], args := [d1, d2, d3] }
  | _ => none }
def FnExactMoreGeneralWrongFalsely : Prop := fnExactMoreGeneralRow.holds Try.pinned (OpenSpec.ofChange fnExactMoreGeneralWrong)

/- THE SECOND FORM. 'bulk': how many values and letters a reading holds, each counted each time it is reached (what is shared counts as often as it is met; a slice's spare places count too). A statement '..UptoSaid' is the law's where the arguments, and the package variables that the reading takes, are together of bulk at most 1048576: NARROWER than '..Said'. Prove '..Said' where nothing that the law and all that it calls make is longer than what came in: it says more and counts as full. Else prove '..UptoSaid'. A law counts once. -/
mutual
def uptoBulk {H : Type} : DataW H → Nat
  | .lit (.string bytes) => bytes.length + 1
  | .lit _ => 1
  | .nil => 1
  | .ptr d => uptoBulk d + 1
  | .slice elems spare => uptoBulkAll elems + uptoBulkAll spare + 1
  | .agg parts => uptoBulkAll parts + 1
  | .iface _ d => uptoBulk d + 1
  | .map entries => uptoBulkEntries entries + 1
  | .held _ => 1
def uptoBulkAll {H : Type} : List (DataW H) → Nat
  | [] => 0
  | d :: r => uptoBulk d + uptoBulkAll r
def uptoBulkEntries {H : Type} : List (Lit × DataW H) → Nat
  | [] => 0
  | x :: r => uptoBulkEntry x + uptoBulkEntries r
def uptoBulkEntry {H : Type} : Lit × DataW H → Nat
  | (.string bytes, d) => bytes.length + uptoBulk d + 1
  | (_, d) => uptoBulk d + 1
 end
def uptoSmall : (H : Type) → List (DataW H) → Bool := fun _ ds => decide (uptoBulkAll ds ≤ 1048576)
def OpenSpec.upto (s : _root_.Go.ChangeSpec) : _root_.Go.OpenSpec := { _root_.Go.OpenSpec.ofChange s with cond := some uptoSmall }

/-- 'laws.FnExactPlainOf', WHERE WHAT IT READS IS OF BULK AT MOST 1048576: true; the input reads as it did. -/
def fnExactPlainOfUptoRow : OpenClaim := { program := "ytghgnondlgdjdaa", sum := "f8f55a974553aea5711b03af332a8dea35b6a20b0333befdc19d768f286a18f3", func := "loop.example/g00895/laws.FnExactPlainOf", spec := "fnExactPlainOf", unfollowed := true, recurses := true, apart := false, narrowed := true }
def FnExactPlainOfUptoSaid : Prop := fnExactPlainOfUptoRow.holds Try.pinned (OpenSpec.upto fnExactPlainOfSpec)

/-- 'laws.FnExactComposed', WHERE WHAT IT READS IS OF BULK AT MOST 1048576: true; the input reads as it did. -/
def fnExactComposedUptoRow : OpenClaim := { program := "ytghgnondlgdjdaa", sum := "f8f55a974553aea5711b03af332a8dea35b6a20b0333befdc19d768f286a18f3", func := "loop.example/g00895/laws.FnExactComposed", spec := "fnExactComposed", unfollowed := true, recurses := true, apart := false, narrowed := true }
def FnExactComposedUptoSaid : Prop := fnExactComposedUptoRow.holds Try.pinned (OpenSpec.upto fnExactComposedSpec)

/-- 'laws.FnPlain', WHERE WHAT IT READS IS OF BULK AT MOST 1048576: true; the input reads as it did. -/
def fnPlainUptoRow : OpenClaim := { program := "ytghgnondlgdjdaa", sum := "f8f55a974553aea5711b03af332a8dea35b6a20b0333befdc19d768f286a18f3", func := "loop.example/g00895/laws.FnPlain", spec := "fnPlain", unfollowed := true, recurses := true, apart := false, narrowed := true }
def FnPlainUptoSaid : Prop := fnPlainUptoRow.holds Try.pinned (OpenSpec.upto fnPlainSpec)

/-- 'laws.FnFilled', WHERE WHAT IT READS IS OF BULK AT MOST 1048576: true; the input reads as it did. -/
def fnFilledUptoRow : OpenClaim := { program := "ytghgnondlgdjdaa", sum := "f8f55a974553aea5711b03af332a8dea35b6a20b0333befdc19d768f286a18f3", func := "loop.example/g00895/laws.FnFilled", spec := "fnFilled", unfollowed := true, recurses := true, apart := false, narrowed := true }
def FnFilledUptoSaid : Prop := fnFilledUptoRow.holds Try.pinned (OpenSpec.upto fnFilledSpec)

/-- 'laws.FnExactMatched', WHERE WHAT IT READS IS OF BULK AT MOST 1048576: true; the input reads as it did. -/
def fnExactMatchedUptoRow : OpenClaim := { program := "ytghgnondlgdjdaa", sum := "f8f55a974553aea5711b03af332a8dea35b6a20b0333befdc19d768f286a18f3", func := "loop.example/g00895/laws.FnExactMatched", spec := "fnExactMatched", unfollowed := true, recurses := true, apart := false, narrowed := true }
def FnExactMatchedUptoSaid : Prop := fnExactMatchedUptoRow.holds Try.pinned (OpenSpec.upto fnExactMatchedSpec)

/-- 'laws.FnExactInstanceIn', WHERE WHAT IT READS IS OF BULK AT MOST 1048576: true; the input reads as it did. -/
def fnExactInstanceInUptoRow : OpenClaim := { program := "ytghgnondlgdjdaa", sum := "f8f55a974553aea5711b03af332a8dea35b6a20b0333befdc19d768f286a18f3", func := "loop.example/g00895/laws.FnExactInstanceIn", spec := "fnExactInstanceIn", unfollowed := true, recurses := true, apart := false, narrowed := true }
def FnExactInstanceInUptoSaid : Prop := fnExactInstanceInUptoRow.holds Try.pinned (OpenSpec.upto fnExactInstanceInSpec)

/-- 'laws.FnExactMatchedAll', WHERE WHAT IT READS IS OF BULK AT MOST 1048576: true; the input reads as it did. -/
def fnExactMatchedAllUptoRow : OpenClaim := { program := "ytghgnondlgdjdaa", sum := "f8f55a974553aea5711b03af332a8dea35b6a20b0333befdc19d768f286a18f3", func := "loop.example/g00895/laws.FnExactMatchedAll", spec := "fnExactMatchedAll", unfollowed := true, recurses := true, apart := false, narrowed := true }
def FnExactMatchedAllUptoSaid : Prop := fnExactMatchedAllUptoRow.holds Try.pinned (OpenSpec.upto fnExactMatchedAllSpec)

/-- 'laws.FnExactMoreGeneral', WHERE WHAT IT READS IS OF BULK AT MOST 1048576: true; the input reads as it did. -/
def fnExactMoreGeneralUptoRow : OpenClaim := { program := "ytghgnondlgdjdaa", sum := "f8f55a974553aea5711b03af332a8dea35b6a20b0333befdc19d768f286a18f3", func := "loop.example/g00895/laws.FnExactMoreGeneral", spec := "fnExactMoreGeneral", unfollowed := true, recurses := true, apart := false, narrowed := true }
def FnExactMoreGeneralUptoSaid : Prop := fnExactMoreGeneralUptoRow.holds Try.pinned (OpenSpec.upto fnExactMoreGeneralSpec)

end Rows
end Go.Proofs.Ytghgnondlgdjdaa
