/-
  No cell of these rows narrows 'for every input' (looked for: loops, veiled, ifaces, maps, wideKeys, modest, calm, conditions, laid).
  DERIVED. THE GIVEN ROWS OF THIS SEAT. 8 by the template 'for every input the law returns true; each argument reads behind the call as it read before'; 0 by the template 'total and deterministic' (their statements: YtfclafbdbdmlhaaTotals.lean).
  GIVEN WITH THE SEED: the statements are not yours to turn. If you find one false, say at which input.
  Laid BY PROGRAM, IN A SANDBOX (cutbox-rows.mjs): the forced cells as the released guide's own fill.sh prints them over the translation 56db16682a17561a… (all of the seat's roots in one cut). By AI agents, Wed Nov 11 2026. No macro, syntax, notation, axiom, sorry.
-/
import Derived.Test.YtfclafbdbdmlhaaChecked
import GoSem.Claim
import GoSem.ClaimJoined
import GoSem.ClaimMapViews
import Derived.JoinedTies
import Derived.KernelRfl
namespace Go.Proofs.Ytfclafbdbdmlhaa
/- THE CELL 'sum', in the pinned program and in every row, IS THE sha256 OF THE DUMP (.gsa) THAT YtfclafbdbdmlhaaProg.lean LOADS. Nothing in Lean hashes anything: it is a label: what it is worth is what the hold of that sum in a sandbox is worth. -/
noncomputable def Try.pinned : Pinned := { name := "ytfclafbdbdmlhaa", sum := "56db16682a17561a9d90d842827df7e80d39a8dde6d33c021264b377425d99c6", checked := Try.checked }
namespace Rows
def none {H : Type} : Left H := { results := [], args := [] }

/-- 'laws.FnRenamed': WHATEVER THE INPUT: true; the input reads as it did. -/
def fnRenamedSpec : ChangeSpec := { name := "fnRenamed", fn := fun _ => fun
  | [d] => { results := [.lit (.bool true)], args := [d] }
  | _ => none }
def fnRenamedRow : OpenClaim := { program := "ytfclafbdbdmlhaa", sum := "56db16682a17561a9d90d842827df7e80d39a8dde6d33c021264b377425d99c6", func := "loop.example/g00895/laws.FnRenamed", spec := "fnRenamed", unfollowed := true, recurses := true, apart := false }
def FnRenamedSaid : Prop := fnRenamedRow.holds Try.pinned (OpenSpec.ofChange fnRenamedSpec)

/-- ITS FALSE NEIGHBOUR: 'it returns false'. Refute it at one input. -/
def fnRenamedWrong : ChangeSpec := { name := "fnRenamed", fn := fun _ => fun
  | [d] => { results := [.lit (.bool false)], args := [d] }
  | _ => none }
def FnRenamedWrongFalsely : Prop := fnRenamedRow.holds Try.pinned (OpenSpec.ofChange fnRenamedWrong)

/-- 'laws.FnExactRenamed': WHATEVER THE INPUT: true; the input reads as it did. -/
def fnExactRenamedSpec : ChangeSpec := { name := "fnExactRenamed", fn := fun _ => fun
  | [d1, d2] => { results := [.lit (.bool true)], args := [d1, d2] }
  | _ => none }
def fnExactRenamedRow : OpenClaim := { program := "ytfclafbdbdmlhaa", sum := "56db16682a17561a9d90d842827df7e80d39a8dde6d33c021264b377425d99c6", func := "loop.example/g00895/laws.FnExactRenamed", spec := "fnExactRenamed", unfollowed := true, recurses := true, apart := false }
def FnExactRenamedSaid : Prop := fnExactRenamedRow.holds Try.pinned (OpenSpec.ofChange fnExactRenamedSpec)

/-- ITS FALSE NEIGHBOUR: 'it returns false'. Refute it at one input. -/
def fnExactRenamedWrong : ChangeSpec := { name := "fnExactRenamed", fn := fun _ => fun
  | [d1, d2] => { results := [.lit (.bool false)], args := [d1, d2] }
  | _ => none }
def FnExactRenamedWrongFalsely : Prop := fnExactRenamedRow.holds Try.pinned (OpenSpec.ofChange fnExactRenamedWrong)

/-- 'laws.FnExactVariantIn': WHATEVER THE INPUT: true; the input reads as it did. -/
def fnExactVariantInSpec : ChangeSpec := { name := "fnExactVariantIn", fn := fun _ => fun
  | [d1, d2, d3] => { results := [.lit (.bool true)], args := [d1, d2, d3] }
  | _ => none }
def fnExactVariantInRow : OpenClaim := { program := "ytfclafbdbdmlhaa", sum := "56db16682a17561a9d90d842827df7e80d39a8dde6d33c021264b377425d99c6", func := "loop.example/g00895/laws.FnExactVariantIn", spec := "fnExactVariantIn", unfollowed := true, recurses := true, apart := false }
def FnExactVariantInSaid : Prop := fnExactVariantInRow.holds Try.pinned (OpenSpec.ofChange fnExactVariantInSpec)

/-- ITS FALSE NEIGHBOUR: 'it returns false'. Refute it at one input. -/
def fnExactVariantInWrong : ChangeSpec := { name := "fnExactVariantIn", fn := fun _ => fun
  | [d1, d2, d3] => { results := [.lit (.bool false)], args := [d1, d2, d3] }
  | _ => none }
def FnExactVariantInWrongFalsely : Prop := fnExactVariantInRow.holds Try.pinned (OpenSpec.ofChange fnExactVariantInWrong)

/-- 'laws.FnPaths': WHATEVER THE INPUT: true; the input reads as it did. -/
def fnPathsSpec : ChangeSpec := { name := "fnPaths", fn := fun _ => fun
  | [d] => { results := [.lit (.bool true)], args := [d] }
  | _ => none }
def fnPathsRow : OpenClaim := { program := "ytfclafbdbdmlhaa", sum := "56db16682a17561a9d90d842827df7e80d39a8dde6d33c021264b377425d99c6", func := "loop.example/g00895/laws.FnPaths", spec := "fnPaths", recurses := true, apart := false }
def FnPathsSaid : Prop := fnPathsRow.holds Try.pinned (OpenSpec.ofChange fnPathsSpec)

/-- ITS FALSE NEIGHBOUR: 'it returns false'. Refute it at one input. -/
def fnPathsWrong : ChangeSpec := { name := "fnPaths", fn := fun _ => fun
  | [d] => { results := [.lit (.bool false)], args := [d] }
  | _ => none }
def FnPathsWrongFalsely : Prop := fnPathsRow.holds Try.pinned (OpenSpec.ofChange fnPathsWrong)

/-- 'laws.FnPut': WHATEVER THE INPUT: true; the input reads as it did. -/
def fnPutSpec : ChangeSpec := { name := "fnPut", fn := fun _ => fun
  | [d] => { results := [.lit (.bool true)], args := [d] }
  | _ => none }
def fnPutRow : OpenClaim := { program := "ytfclafbdbdmlhaa", sum := "56db16682a17561a9d90d842827df7e80d39a8dde6d33c021264b377425d99c6", func := "loop.example/g00895/laws.FnPut", spec := "fnPut", recurses := true, apart := false }
def FnPutSaid : Prop := fnPutRow.holds Try.pinned (OpenSpec.ofChange fnPutSpec)

/-- ITS FALSE NEIGHBOUR: 'it returns false'. Refute it at one input. -/
def fnPutWrong : ChangeSpec := { name := "fnPut", fn := fun _ => fun
  | [d] => { results := [.lit (.bool false)], args := [d] }
  | _ => none }
def FnPutWrongFalsely : Prop := fnPutRow.holds Try.pinned (OpenSpec.ofChange fnPutWrong)

/-- 'laws.FnExactPlaceOf': WHATEVER THE INPUT: true; the input reads as it did. -/
def fnExactPlaceOfSpec : ChangeSpec := { name := "fnExactPlaceOf", fn := fun _ => fun
  | [d1, d2, d3] => { results := [.lit (.bool true)], args := [d1, d2, d3] }
  | _ => none }
def fnExactPlaceOfRow : OpenClaim := { program := "ytfclafbdbdmlhaa", sum := "56db16682a17561a9d90d842827df7e80d39a8dde6d33c021264b377425d99c6", func := "loop.example/g00895/laws.FnExactPlaceOf", spec := "fnExactPlaceOf", apart := false }
def FnExactPlaceOfSaid : Prop := fnExactPlaceOfRow.holds Try.pinned (OpenSpec.ofChange fnExactPlaceOfSpec)

/-- ITS FALSE NEIGHBOUR: 'it returns false'. Refute it at one input. -/
def fnExactPlaceOfWrong : ChangeSpec := { name := "fnExactPlaceOf", fn := fun _ => fun
  | [d1, d2, d3] => { results := [.lit (.bool false)], args := [d1, d2, d3] }
  | _ => none }
def FnExactPlaceOfWrongFalsely : Prop := fnExactPlaceOfRow.holds Try.pinned (OpenSpec.ofChange fnExactPlaceOfWrong)

/-- 'laws.FnExactEmbedsIn': WHATEVER THE INPUT: true; the input reads as it did. -/
def fnExactEmbedsInSpec : ChangeSpec := { name := "fnExactEmbedsIn", fn := fun _ => fun
  | [d1, d2, d3] => { results := [.lit (.bool true)], args := [d1, d2, d3] }
  | _ => none }
def fnExactEmbedsInRow : OpenClaim := { program := "ytfclafbdbdmlhaa", sum := "56db16682a17561a9d90d842827df7e80d39a8dde6d33c021264b377425d99c6", func := "loop.example/g00895/laws.FnExactEmbedsIn", spec := "fnExactEmbedsIn", apart := false }
def FnExactEmbedsInSaid : Prop := fnExactEmbedsInRow.holds Try.pinned (OpenSpec.ofChange fnExactEmbedsInSpec)

/-- ITS FALSE NEIGHBOUR: 'it returns false'. Refute it at one input. -/
def fnExactEmbedsInWrong : ChangeSpec := { name := "fnExactEmbedsIn", fn := fun _ => fun
  | [d1, d2, d3] => { results := [.lit (.bool false)], args := [d1, d2, d3] }
  | _ => none }
def FnExactEmbedsInWrongFalsely : Prop := fnExactEmbedsInRow.holds Try.pinned (OpenSpec.ofChange fnExactEmbedsInWrong)

/-- 'laws.FnExactGeneralisedAll': WHATEVER THE INPUT: true; the input reads as it did. -/
def fnExactGeneralisedAllSpec : ChangeSpec := { name := "fnExactGeneralisedAll", fn := fun _ => fun
  | [d1, d2] => { results := [.lit (.bool true)], args := [d1, d2] }
  | _ => none }
def fnExactGeneralisedAllRow : OpenClaim := { program := "ytfclafbdbdmlhaa", sum := "56db16682a17561a9d90d842827df7e80d39a8dde6d33c021264b377425d99c6", func := "loop.example/g00895/laws.FnExactGeneralisedAll", spec := "fnExactGeneralisedAll", unfollowed := true, recurses := true, apart := false }
def FnExactGeneralisedAllSaid : Prop := fnExactGeneralisedAllRow.holds Try.pinned (OpenSpec.ofChange fnExactGeneralisedAllSpec)

/-- ITS FALSE NEIGHBOUR: 'it returns false'. Refute it at one input. -/
def fnExactGeneralisedAllWrong : ChangeSpec := { name := "fnExactGeneralisedAll", fn := fun _ => fun
  | [d1, d2] => { results := [.lit (.bool false)], args := [d1, d2] }
  | _ => none }
def FnExactGeneralisedAllWrongFalsely : Prop := fnExactGeneralisedAllRow.holds Try.pinned (OpenSpec.ofChange fnExactGeneralisedAllWrong)

/- THE SECOND FORM. 'bulk': how many values and letters a reading holds, each counted each time it is reached (what is shared counts as often as it is met; a slice's spare places count too). A statement '..UptoSaid' is the law's where the arguments, and the package variables that the reading takes, are together of bulk at most 1048576: NARROWER than '..Said'. Prove '..Said' where nothing that the law and all that it calls make is longer than what came in: it says more and counts as full. Else prove '..UptoSaid'. A law counts once. -/
mutual
def uptoBulk {H : Type} : DataW H → Nat
  | .lit (.string bytes) => bytes.length + 1
  | .lit _ => 1
  | .nil => 1
  | .ptr d => uptoBulk d + 1
  | .slice elems spare => uptoBulkAll elems + uptoBulkAll spare + 1
  | .agg parts => uptoBulkAll parts + 1
  | .iface _ d => uptoBulk d + 1
  | .map entries => uptoBulkEntries entries + 1
  | .held _ => 1
def uptoBulkAll {H : Type} : List (DataW H) → Nat
  | [] => 0
  | d :: r => uptoBulk d + uptoBulkAll r
def uptoBulkEntries {H : Type} : List (Lit × DataW H) → Nat
  | [] => 0
  | x :: r => uptoBulkEntry x + uptoBulkEntries r
def uptoBulkEntry {H : Type} : Lit × DataW H → Nat
  | (.string bytes, d) => bytes.length + uptoBulk d + 1
  | (_, d) => uptoBulk d + 1
 end
def uptoSmall : (H : Type) → List (DataW H) → Bool := fun _ ds => decide (uptoBulkAll ds ≤ 1048576)
def OpenSpec.upto (s : _root_.Go.ChangeSpec) : _root_.Go.OpenSpec := { _root_.Go.OpenSpec.ofChange s with cond := some uptoSmall }

/-- 'laws.FnRenamed', WHERE WHAT IT READS IS OF BULK AT MOST 1048576: true; the input reads as it did. -/
def fnRenamedUptoRow : OpenClaim := { program := "ytfclafbdbdmlhaa", sum := "56db16682a17561a9d90d842827df7e80d39a8dde6d33c021264b377425d99c6", func := "loop.example/g00895/laws.FnRenamed", spec := "fnRenamed", unfollowed := true, recurses := true, apart := false, narrowed := true }
def FnRenamedUptoSaid : Prop := fnRenamedUptoRow.holds Try.pinned (OpenSpec.upto fnRenamedSpec)

/-- 'laws.FnExactRenamed', WHERE WHAT IT READS IS OF BULK AT MOST 1048576: true; the input reads as it did. -/
def fnExactRenamedUptoRow : OpenClaim := { program := "ytfclafbdbdmlhaa", sum := "56db16682a17561a9d90d842827df7e80d39a8dde6d33c021264b377425d99c6", func := "loop.example/g00895/laws.FnExactRenamed", spec := "fnExactRenamed", unfollowed := true, recurses := true, apart := false, narrowed := true }
def FnExactRenamedUptoSaid : Prop := fnExactRenamedUptoRow.holds Try.pinned (OpenSpec.upto fnExactRenamedSpec)

/-- 'laws.FnExactVariantIn', WHERE WHAT IT READS IS OF BULK AT MOST 1048576: true; the input reads as it did. -/
def fnExactVariantInUptoRow : OpenClaim := { program := "ytfclafbdbdmlhaa", sum := "56db16682a17561a9d90d842827df7e80d39a8dde6d33c021264b377425d99c6", func := "loop.example/g00895/laws.FnExactVariantIn", spec := "fnExactVariantIn", unfollowed := true, recurses := true, apart := false, narrowed := true }
def FnExactVariantInUptoSaid : Prop := fnExactVariantInUptoRow.holds Try.pinned (OpenSpec.upto fnExactVariantInSpec)

/-- 'laws.FnPaths', WHERE WHAT IT READS IS OF BULK AT MOST 1048576: true; the input reads as it did. -/
def fnPathsUptoRow : OpenClaim := { program := "ytfclafbdbdmlhaa", sum := "56db16682a17561a9d90d842827df7e80d39a8dde6d33c021264b377425d99c6", func := "loop.example/g00895/laws.FnPaths", spec := "fnPaths", recurses := true, apart := false, narrowed := true }
def FnPathsUptoSaid : Prop := fnPathsUptoRow.holds Try.pinned (OpenSpec.upto fnPathsSpec)

/-- 'laws.FnPut', WHERE WHAT IT READS IS OF BULK AT MOST 1048576: true; the input reads as it did. -/
def fnPutUptoRow : OpenClaim := { program := "ytfclafbdbdmlhaa", sum := "56db16682a17561a9d90d842827df7e80d39a8dde6d33c021264b377425d99c6", func := "loop.example/g00895/laws.FnPut", spec := "fnPut", recurses := true, apart := false, narrowed := true }
def FnPutUptoSaid : Prop := fnPutUptoRow.holds Try.pinned (OpenSpec.upto fnPutSpec)

/-- 'laws.FnExactPlaceOf', WHERE WHAT IT READS IS OF BULK AT MOST 1048576: true; the input reads as it did. -/
def fnExactPlaceOfUptoRow : OpenClaim := { program := "ytfclafbdbdmlhaa", sum := "56db16682a17561a9d90d842827df7e80d39a8dde6d33c021264b377425d99c6", func := "loop.example/g00895/laws.FnExactPlaceOf", spec := "fnExactPlaceOf", apart := false, narrowed := true }
def FnExactPlaceOfUptoSaid : Prop := fnExactPlaceOfUptoRow.holds Try.pinned (OpenSpec.upto fnExactPlaceOfSpec)

/-- 'laws.FnExactEmbedsIn', WHERE WHAT IT READS IS OF BULK AT MOST 1048576: true; the input reads as it did. -/
def fnExactEmbedsInUptoRow : OpenClaim := { program := "ytfclafbdbdmlhaa", sum := "56db16682a17561a9d90d842827df7e80d39a8dde6d33c021264b377425d99c6", func := "loop.example/g00895/laws.FnExactEmbedsIn", spec := "fnExactEmbedsIn", apart := false, narrowed := true }
def FnExactEmbedsInUptoSaid : Prop := fnExactEmbedsInUptoRow.holds Try.pinned (OpenSpec.upto fnExactEmbedsInSpec)

/-- 'laws.FnExactGeneralisedAll', WHERE WHAT IT READS IS OF BULK AT MOST 1048576: true; the input reads as it did. -/
def fnExactGeneralisedAllUptoRow : OpenClaim := { program := "ytfclafbdbdmlhaa", sum := "56db16682a17561a9d90d842827df7e80d39a8dde6d33c021264b377425d99c6", func := "loop.example/g00895/laws.FnExactGeneralisedAll", spec := "fnExactGeneralisedAll", unfollowed := true, recurses := true, apart := false, narrowed := true }
def FnExactGeneralisedAllUptoSaid : Prop := fnExactGeneralisedAllUptoRow.holds Try.pinned (OpenSpec.upto fnExactGeneralisedAllSpec)

end Rows
end Go.Proofs.Ytfclafbdbdmlhaa
