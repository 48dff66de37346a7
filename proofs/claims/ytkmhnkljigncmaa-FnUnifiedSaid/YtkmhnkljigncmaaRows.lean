/-
  No cell of these rows narrows 'for every input' (looked for: loops, veiled, ifaces, maps, wideKeys, modest, calm, conditions, laid).
  DERIVED. THE GIVEN ROWS OF THIS SEAT. 9 by the template 'for every input the law returns true; each argument reads behind the call as it read before'; 0 by the template 'total and deterministic' (their statements: YtkmhnkljigncmaaTotals.lean).
  GIVEN WITH THE SEED: the statements are not yours to turn. If you find one false, say at which input.
  Laid BY PROGRAM, IN A SANDBOX (cutbox-rows.mjs): the forced cells as the released guide's own fill.sh prints them over the translation c07b8a111aabc08c… (all of the seat's roots in one cut). By AI agents, Wed Nov 11 2026. No macro, syntax, notation, axiom, sorry.
-/
import Derived.Test.YtkmhnkljigncmaaChecked
import GoSem.Claim
import GoSem.ClaimJoined
import GoSem.ClaimMapViews
import Derived.JoinedTies
import Derived.KernelRfl
namespace Go.Proofs.Ytkmhnkljigncmaa
/- THE CELL 'sum', in the pinned program and in every row, IS THE sha256 OF THE DUMP (.gsa) THAT YtkmhnkljigncmaaProg.lean LOADS. Nothing in Lean hashes anything: it is a label: what it is worth is what the hold of that sum in a sandbox is worth. -/
noncomputable def Try.pinned : Pinned := { name := "ytkmhnkljigncmaa", sum := "c07b8a111aabc08cb61fbde8b5c755118f38b74a6e67a4b8948be6486062a127", checked := Try.checked }
namespace Rows
def none {H : Type} : Left H := { results := [], args := [] }

/-- 'laws.FnUnified': WHATEVER THE INPUT: true; the input reads as it did. -/
def fnUnifiedSpec : ChangeSpec := { name := "fnUnified", fn := fun _ => fun
  | [d] => { results := [.lit (.bool true)], args := [d] }
  | _ => none }
def fnUnifiedRow : OpenClaim := { program := "ytkmhnkljigncmaa", sum := "c07b8a111aabc08cb61fbde8b5c755118f38b74a6e67a4b8948be6486062a127", func := "loop.example/g00895/laws.FnUnified", spec := "fnUnified", unfollowed := true, recurses := true, apart := false }
def FnUnifiedSaid : Prop := fnUnifiedRow.holds Try.pinned (OpenSpec.ofChange fnUnifiedSpec)

/-- ITS FALSE NEIGHBOUR: 'it returns false'. Refute it at one input. -/
def fnUnifiedWrong : ChangeSpec := { name := "fnUnified", fn := fun _ => fun
  | [d] => { results := [.lit (.bool false)], args := [d] }
  | _ => none }
def FnUnifiedWrongFalsely : Prop := fnUnifiedRow.holds Try.pinned (OpenSpec.ofChange fnUnifiedWrong)

/-- 'laws.FnGeneralised': WHATEVER THE INPUT: true; the input reads as it did. -/
def fnGeneralisedSpec : ChangeSpec := { name := "fnGeneralised", fn := fun _ => fun
  | [d] => { results := [.lit (.bool true)], args := [d] }
  | _ => none }
def fnGeneralisedRow : OpenClaim := { program := "ytkmhnkljigncmaa", sum := "c07b8a111aabc08cb61fbde8b5c755118f38b74a6e67a4b8948be6486062a127", func := "loop.example/g00895/laws.FnGeneralised", spec := "fnGeneralised", unfollowed := true, recurses := true, apart := false }
def FnGeneralisedSaid : Prop := fnGeneralisedRow.holds Try.pinned (OpenSpec.ofChange fnGeneralisedSpec)

/-- ITS FALSE NEIGHBOUR: 'it returns false'. Refute it at one input. -/
def fnGeneralisedWrong : ChangeSpec := { name := "fnGeneralised", fn := fun _ => fun
  | [d] => { results := [.lit (.bool false)], args := [d] }
  | _ => none }
def FnGeneralisedWrongFalsely : Prop := fnGeneralisedRow.holds Try.pinned (OpenSpec.ofChange fnGeneralisedWrong)

/-- 'laws.FnExactUnified': WHATEVER THE INPUT: true; the input reads as it did. -/
def fnExactUnifiedSpec : ChangeSpec := { name := "fnExactUnified", fn := fun _ => fun
  | [d1, d2, d3] => { results := [.lit (.bool true)], args := [d1, d2, d3] }
  | _ => none }
def fnExactUnifiedRow : OpenClaim := { program := "ytkmhnkljigncmaa", sum := "c07b8a111aabc08cb61fbde8b5c755118f38b74a6e67a4b8948be6486062a127", func := "loop.example/g00895/laws.FnExactUnified", spec := "fnExactUnified", unfollowed := true, recurses := true, apart := false }
def FnExactUnifiedSaid : Prop := fnExactUnifiedRow.holds Try.pinned (OpenSpec.ofChange fnExactUnifiedSpec)

/-- ITS FALSE NEIGHBOUR: 'it returns false'. Refute it at one input. -/
def fnExactUnifiedWrong : ChangeSpec := { name := "fnExactUnified", fn := fun _ => fun
  | [d1, d2, d3] => { results := [.lit (.bool false)], args := [d1, d2, d3] }
  | _ => none }
def FnExactUnifiedWrongFalsely : Prop := fnExactUnifiedRow.holds Try.pinned (OpenSpec.ofChange fnExactUnifiedWrong)

/-- 'laws.FnExactUnifiesIn': WHATEVER THE INPUT: true; the input reads as it did. -/
def fnExactUnifiesInSpec : ChangeSpec := { name := "fnExactUnifiesIn", fn := fun _ => fun
  | [d1, d2, d3] => { results := [.lit (.bool true)], args := [d1, d2, d3] }
  | _ => none }
def fnExactUnifiesInRow : OpenClaim := { program := "ytkmhnkljigncmaa", sum := "c07b8a111aabc08cb61fbde8b5c755118f38b74a6e67a4b8948be6486062a127", func := "loop.example/g00895/laws.FnExactUnifiesIn", spec := "fnExactUnifiesIn", unfollowed := true, recurses := true, apart := false }
def FnExactUnifiesInSaid : Prop := fnExactUnifiesInRow.holds Try.pinned (OpenSpec.ofChange fnExactUnifiesInSpec)

/-- ITS FALSE NEIGHBOUR: 'it returns false'. Refute it at one input. -/
def fnExactUnifiesInWrong : ChangeSpec := { name := "fnExactUnifiesIn", fn := fun _ => fun
  | [d1, d2, d3] => { results := [.lit (.bool false)], args := [d1, d2, d3] }
  | _ => none }
def FnExactUnifiesInWrongFalsely : Prop := fnExactUnifiesInRow.holds Try.pinned (OpenSpec.ofChange fnExactUnifiesInWrong)

/-- 'laws.FnExactBehindOf': WHATEVER THE INPUT: true; the input reads as it did. -/
def fnExactBehindOfSpec : ChangeSpec := { name := "fnExactBehindOf", fn := fun _ => fun
  | [d1, d2] => { results := [.lit (.bool true)], args := [d1, d2] }
  | _ => none }
def fnExactBehindOfRow : OpenClaim := { program := "ytkmhnkljigncmaa", sum := "c07b8a111aabc08cb61fbde8b5c755118f38b74a6e67a4b8948be6486062a127", func := "loop.example/g00895/laws.FnExactBehindOf", spec := "fnExactBehindOf", recurses := true, apart := false }
def FnExactBehindOfSaid : Prop := fnExactBehindOfRow.holds Try.pinned (OpenSpec.ofChange fnExactBehindOfSpec)

/-- ITS FALSE NEIGHBOUR: 'it returns false'. Refute it at one input. -/
def fnExactBehindOfWrong : ChangeSpec := { name := "fnExactBehindOf", fn := fun _ => fun
  | [d1, d2] => { results := [.lit (.bool false)], args := [d1, d2] }
  | _ => none }
def FnExactBehindOfWrongFalsely : Prop := fnExactBehindOfRow.holds Try.pinned (OpenSpec.ofChange fnExactBehindOfWrong)

/-- 'laws.FnExactUnifiedApart': WHATEVER THE INPUT: true; the input reads as it did. -/
def fnExactUnifiedApartSpec : ChangeSpec := { name := "fnExactUnifiedApart", fn := fun _ => fun
  | [d1, d2, d3] => { results := [.lit (.bool true)], args := [d1, d2, d3] }
  | _ => none }
def fnExactUnifiedApartRow : OpenClaim := { program := "ytkmhnkljigncmaa", sum := "c07b8a111aabc08cb61fbde8b5c755118f38b74a6e67a4b8948be6486062a127", func := "loop.example/g00895/laws.FnExactUnifiedApart", spec := "fnExactUnifiedApart", unfollowed := true, recurses := true, apart := false }
def FnExactUnifiedApartSaid : Prop := fnExactUnifiedApartRow.holds Try.pinned (OpenSpec.ofChange fnExactUnifiedApartSpec)

/-- ITS FALSE NEIGHBOUR: 'it returns false'. Refute it at one input. -/
def fnExactUnifiedApartWrong : ChangeSpec := { name := "fnExactUnifiedApart", fn := fun _ => fun
  | [d1, d2, d3] => { results := [.lit (.bool false)], args := [d1, d2, d3] }
  | _ => none }
def FnExactUnifiedApartWrongFalsely : Prop := fnExactUnifiedApartRow.holds Try.pinned (OpenSpec.ofChange fnExactUnifiedApartWrong)

/-- 'laws.FnExactMetOf': WHATEVER THE INPUT: true; the input reads as it did. -/
def fnExactMetOfSpec : ChangeSpec := { name := "fnExactMetOf", fn := fun _ => fun
  | [d1, d2, d3] => { results := [.lit (.bool true)], args := [d1, d2, d3] }
  | _ => none }
def fnExactMetOfRow : OpenClaim := { program := "ytkmhnkljigncmaa", sum := "c07b8a111aabc08cb61fbde8b5c755118f38b74a6e67a4b8948be6486062a127", func := "loop.example/g00895/laws.FnExactMetOf", spec := "fnExactMetOf", unfollowed := true, recurses := true, apart := false }
def FnExactMetOfSaid : Prop := fnExactMetOfRow.holds Try.pinned (OpenSpec.ofChange fnExactMetOfSpec)

/-- ITS FALSE NEIGHBOUR: 'it returns false'. Refute it at one input. -/
def fnExactMetOfWrong : ChangeSpec := { name := "fnExactMetOf", fn := fun _ => fun
  | [d1, d2, d3] => { results := [.lit (.bool false)], args := [d1, d2, d3] }
  | _ => none }
def FnExactMetOfWrongFalsely : Prop := fnExactMetOfRow.holds Try.pinned (OpenSpec.ofChange fnExactMetOfWrong)

/-- 'laws.FnExactGeneralised': WHATEVER THE INPUT: true; the input reads as it did. -/
def fnExactGeneralisedSpec : ChangeSpec := { name := "fnExactGeneralised", fn := fun _ => fun
  | [d1, d2, d3] => { results := [.lit (.bool true)], args := [d1, d2, d3] }
  | _ => none }
def fnExactGeneralisedRow : OpenClaim := { program := "ytkmhnkljigncmaa", sum := "c07b8a111aabc08cb61fbde8b5c755118f38b74a6e67a4b8948be6486062a127", func := "loop.example/g00895/laws.FnExactGeneralised", spec := "fnExactGeneralised", unfollowed := true, recurses := true, apart := false }
def FnExactGeneralisedSaid : Prop := fnExactGeneralisedRow.holds Try.pinned (OpenSpec.ofChange fnExactGeneralisedSpec)

/-- ITS FALSE NEIGHBOUR: 'it returns false'. Refute it at one input. -/
def fnExactGeneralisedWrong : ChangeSpec := { name := "fnExactGeneralised", fn := fun _ => fun
  | [d1, d2, d3] => { results := [.lit (.bool false)], args := [d1, d2, d3] }
  | _ => none }
def FnExactGeneralisedWrongFalsely : Prop := fnExactGeneralisedRow.holds Try.pinned (OpenSpec.ofChange fnExactGeneralisedWrong)

/-- 'laws.FnExactGeneralisedAll': WHATEVER THE INPUT: true; the input reads as it did. -/
def fnExactGeneralisedAllSpec : ChangeSpec := { name := "fnExactGeneralisedAll", fn := fun _ => fun
  | [d1, d2] => { results := [.lit (.bool true)], args := [d1, d2] }
  | _ => none }
def fnExactGeneralisedAllRow : OpenClaim := { program := "ytkmhnkljigncmaa", sum := "c07b8a111aabc08cb61fbde8b5c755118f38b74a6e67a4b8948be6486062a127", func := "loop.example/g00895/laws.FnExactGeneralisedAll", spec := "fnExactGeneralisedAll", unfollowed := true, recurses := true, apart := false }
def FnExactGeneralisedAllSaid : Prop := fnExactGeneralisedAllRow.holds Try.pinned (OpenSpec.ofChange fnExactGeneralisedAllSpec)

/-- ITS FALSE NEIGHBOUR: 'it returns false'. Refute it at one input. -/
def fnExactGeneralisedAllWrong : ChangeSpec := { name := "fnExactGeneralisedAll", fn := fun _ => fun
  | [d1, d2] => { results := [.lit (.bool false)], args := [d1, d2] }
  | _ => none }
def FnExactGeneralisedAllWrongFalsely : Prop := fnExactGeneralisedAllRow.holds Try.pinned (OpenSpec.ofChange fnExactGeneralisedAllWrong)

/- THE SECOND FORM. 'bulk': how many values and letters a reading holds, each counted each time it is reached (what is shared counts as often as it is met; a slice's spare places count too). A statement '..UptoSaid' is the law's where the arguments, and the package variables that the reading takes, are together of bulk at most 1048576: NARROWER than '..Said'. Prove '..Said' where nothing that the law and all that it calls make is longer than what came in: it says more and counts as full. Else prove '..UptoSaid'. A law counts once. -/
mutual
def uptoBulk {H : Type} : DataW H → Nat
  | .lit (.string bytes) => bytes.length + 1
  | .lit _ => 1
  | .nil => 1
  | .ptr d => uptoBulk d + 1
  | .slice elems spare => uptoBulkAll elems + uptoBulkAll spare + 1
  | .agg parts => uptoBulkAll parts + 1
  | .iface _ d => uptoBulk d + 1
  | .map entries => uptoBulkEntries entries + 1
  | .held _ => 1
def uptoBulkAll {H : Type} : List (DataW H) → Nat
  | [] => 0
  | d :: r => uptoBulk d + uptoBulkAll r
def uptoBulkEntries {H : Type} : List (Lit × DataW H) → Nat
  | [] => 0
  | x :: r => uptoBulkEntry x + uptoBulkEntries r
def uptoBulkEntry {H : Type} : Lit × DataW H → Nat
  | (.string bytes, d) => bytes.length + uptoBulk d + 1
  | (_, d) => uptoBulk d + 1
 end
def uptoSmall : (H : Type) → List (DataW H) → Bool := fun _ ds => decide (uptoBulkAll ds ≤ 1048576)
def OpenSpec.upto (s : _root_.Go.ChangeSpec) : _root_.Go.OpenSpec := { _root_.Go.OpenSpec.ofChange s with cond := some uptoSmall }

/-- 'laws.FnUnified', WHERE WHAT IT READS IS OF BULK AT MOST 1048576: true; the input reads as it did. -/
def fnUnifiedUptoRow : OpenClaim := { program := "ytkmhnkljigncmaa", sum := "c07b8a111aabc08cb61fbde8b5c755118f38b74a6e67a4b8948be6486062a127", func := "loop.example/g00895/laws.FnUnified", spec := "fnUnified", unfollowed := true, recurses := true, apart := false, narrowed := true }
def FnUnifiedUptoSaid : Prop := fnUnifiedUptoRow.holds Try.pinned (OpenSpec.upto fnUnifiedSpec)

/-- 'laws.FnGeneralised', WHERE WHAT IT READS IS OF BULK AT MOST 1048576: true; the input reads as it did. -/
def fnGeneralisedUptoRow : OpenClaim := { program := "ytkmhnkljigncmaa", sum := "c07b8a111aabc08cb61fbde8b5c755118f38b74a6e67a4b8948be6486062a127", func := "loop.example/g00895/laws.FnGeneralised", spec := "fnGeneralised", unfollowed := true, recurses := true, apart := false, narrowed := true }
def FnGeneralisedUptoSaid : Prop := fnGeneralisedUptoRow.holds Try.pinned (OpenSpec.upto fnGeneralisedSpec)

/-- 'laws.FnExactUnified', WHERE WHAT IT READS IS OF BULK AT MOST 1048576: true; the input reads as it did. -/
def fnExactUnifiedUptoRow : OpenClaim := { program := "ytkmhnkljigncmaa", sum := "c07b8a111aabc08cb61fbde8b5c755118f38b74a6e67a4b8948be6486062a127", func := "loop.example/g00895/laws.FnExactUnified", spec := "fnExactUnified", unfollowed := true, recurses := true, apart := false, narrowed := true }
def FnExactUnifiedUptoSaid : Prop := fnExactUnifiedUptoRow.holds Try.pinned (OpenSpec.upto fnExactUnifiedSpec)

/-- 'laws.FnExactUnifiesIn', WHERE WHAT IT READS IS OF BULK AT MOST 1048576: true; the input reads as it did. -/
def fnExactUnifiesInUptoRow : OpenClaim := { program := "ytkmhnkljigncmaa", sum := "c07b8a111aabc08cb61fbde8b5c755118f38b74a6e67a4b8948be6486062a127", func := "loop.example/g00895/laws.FnExactUnifiesIn", spec := "fnExactUnifiesIn", unfollowed := true, recurses := true, apart := false, narrowed := true }
def FnExactUnifiesInUptoSaid : Prop := fnExactUnifiesInUptoRow.holds Try.pinned (OpenSpec.upto fnExactUnifiesInSpec)

/-- 'laws.FnExactBehindOf', WHERE WHAT IT READS IS OF BULK AT MOST 1048576: true; the input reads as it did. -/
def fnExactBehindOfUptoRow : OpenClaim := { program := "ytkmhnkljigncmaa", sum := "c07b8a111aabc08cb61fbde8b5c755118f38b74a6e67a4b8948be6486062a127", func := "loop.example/g00895/laws.FnExactBehindOf", spec := "fnExactBehindOf", recurses := true, apart := false, narrowed := true }
def FnExactBehindOfUptoSaid : Prop := fnExactBehindOfUptoRow.holds Try.pinned (OpenSpec.upto fnExactBehindOfSpec)

/-- 'laws.FnExactUnifiedApart', WHERE WHAT IT READS IS OF BULK AT MOST 1048576: true; the input reads as it did. -/
def fnExactUnifiedApartUptoRow : OpenClaim := { program := "ytkmhnkljigncmaa", sum := "c07b8a111aabc08cb61fbde8b5c755118f38b74a6e67a4b8948be6486062a127", func := "loop.example/g00895/laws.FnExactUnifiedApart", spec := "fnExactUnifiedApart", unfollowed := true, recurses := true, apart := false, narrowed := true }
def FnExactUnifiedApartUptoSaid : Prop := fnExactUnifiedApartUptoRow.holds Try.pinned (OpenSpec.upto fnExactUnifiedApartSpec)

/-- 'laws.FnExactMetOf', WHERE WHAT IT READS IS OF BULK AT MOST 1048576: true; the input reads as it did. -/
def fnExactMetOfUptoRow : OpenClaim := { program := "ytkmhnkljigncmaa", sum := "c07b8a111aabc08cb61fbde8b5c755118f38b74a6e67a4b8948be6486062a127", func := "loop.example/g00895/laws.FnExactMetOf", spec := "fnExactMetOf", unfollowed := true, recurses := true, apart := false, narrowed := true }
def FnExactMetOfUptoSaid : Prop := fnExactMetOfUptoRow.holds Try.pinned (OpenSpec.upto fnExactMetOfSpec)

/-- 'laws.FnExactGeneralised', WHERE WHAT IT READS IS OF BULK AT MOST 1048576: true; the input reads as it did. -/
def fnExactGeneralisedUptoRow : OpenClaim := { program := "ytkmhnkljigncmaa", sum := "c07b8a111aabc08cb61fbde8b5c755118f38b74a6e67a4b8948be6486062a127", func := "loop.example/g00895/laws.FnExactGeneralised", spec := "fnExactGeneralised", unfollowed := true, recurses := true, apart := false, narrowed := true }
def FnExactGeneralisedUptoSaid : Prop := fnExactGeneralisedUptoRow.holds Try.pinned (OpenSpec.upto fnExactGeneralisedSpec)

/-- 'laws.FnExactGeneralisedAll', WHERE WHAT IT READS IS OF BULK AT MOST 1048576: true; the input reads as it did. -/
def fnExactGeneralisedAllUptoRow : OpenClaim := { program := "ytkmhnkljigncmaa", sum := "c07b8a111aabc08cb61fbde8b5c755118f38b74a6e67a4b8948be6486062a127", func := "loop.example/g00895/laws.FnExactGeneralisedAll", spec := "fnExactGeneralisedAll", unfollowed := true, recurses := true, apart := false, narrowed := true }
def FnExactGeneralisedAllUptoSaid : Prop := fnExactGeneralisedAllUptoRow.holds Try.pinned (OpenSpec.upto fnExactGeneralisedAllSpec)

end Rows
end Go.Proofs.Ytkmhnkljigncmaa
