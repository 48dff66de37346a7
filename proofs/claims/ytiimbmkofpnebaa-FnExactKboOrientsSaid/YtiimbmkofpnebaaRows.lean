/-
  No cell of these rows narrows 'for every input' (looked for: loops, veiled, ifaces, maps, wideKeys, modest, calm, conditions, laid).
  DERIVED. THE GIVEN ROWS OF THIS SEAT. 13 by the template 'for every input the law returns true; each argument reads behind the call as it read before'; 0 by the template 'total and deterministic' (their statements: YtiimbmkofpnebaaTotals.lean).
  GIVEN WITH THE SEED: the statements are not yours to turn. If you find one false, say at which input.
  Laid BY PROGRAM, IN A SANDBOX (cutbox-rows.mjs): the forced cells as the released guide's own fill.sh prints them over the translation 0d7f8e2704cde04c… (all of the seat's roots in one cut). By AI agents, Wed Nov 11 2026. No macro, syntax, notation, axiom, sorry.
-/
import Derived.Test.YtiimbmkofpnebaaChecked
import GoSem.Claim
import GoSem.ClaimJoined
import GoSem.ClaimMapViews
import Derived.JoinedTies
import Derived.KernelRfl
namespace Go.Proofs.Ytiimbmkofpnebaa
/- THE CELL 'sum', in the pinned program and in every row, IS THE sha256 OF THE DUMP (.gsa) THAT YtiimbmkofpnebaaProg.lean LOADS. Nothing in Lean hashes anything: it is a label: what it is worth is what the hold of that sum in a sandbox is worth. -/
noncomputable def Try.pinned : Pinned := { name := "ytiimbmkofpnebaa", sum := "0d7f8e2704cde04ce86ff79eeec6654b6a632f51752799c1a9b44ce25655d14e", checked := Try.checked }
namespace Rows
def none {H : Type} : Left H := { results := [], args := [] }

/-- 'laws.FnKboStable': WHATEVER THE INPUT: true; the input reads as it did. -/
def fnKboStableSpec : ChangeSpec := { name := "fnKboStable", fn := fun _ => fun
  | [d] => { results := [.lit (.bool true)], args := [d] }
  | _ => none }
def fnKboStableRow : OpenClaim := { program := "ytiimbmkofpnebaa", sum := "0d7f8e2704cde04ce86ff79eeec6654b6a632f51752799c1a9b44ce25655d14e", func := "loop.example/g00895/laws.FnKboStable", spec := "fnKboStable", unfollowed := true, recurses := true, apart := false }
def FnKboStableSaid : Prop := fnKboStableRow.holds Try.pinned (OpenSpec.ofChange fnKboStableSpec)

/-- ITS FALSE NEIGHBOUR: 'it returns false'. Refute it at one input. -/
def fnKboStableWrong : ChangeSpec := { name := "fnKboStable", fn := fun _ => fun
  | [d] => { results := [.lit (.bool false)], args := [d] }
  | _ => none }
def FnKboStableWrongFalsely : Prop := fnKboStableRow.holds Try.pinned (OpenSpec.ofChange fnKboStableWrong)

/-- 'laws.FnKboTotal': WHATEVER THE INPUT: true; the input reads as it did. -/
def fnKboTotalSpec : ChangeSpec := { name := "fnKboTotal", fn := fun _ => fun
  | [d] => { results := [.lit (.bool true)], args := [d] }
  | _ => none }
def fnKboTotalRow : OpenClaim := { program := "ytiimbmkofpnebaa", sum := "0d7f8e2704cde04ce86ff79eeec6654b6a632f51752799c1a9b44ce25655d14e", func := "loop.example/g00895/laws.FnKboTotal", spec := "fnKboTotal", unfollowed := true, recurses := true, apart := false }
def FnKboTotalSaid : Prop := fnKboTotalRow.holds Try.pinned (OpenSpec.ofChange fnKboTotalSpec)

/-- ITS FALSE NEIGHBOUR: 'it returns false'. Refute it at one input. -/
def fnKboTotalWrong : ChangeSpec := { name := "fnKboTotal", fn := fun _ => fun
  | [d] => { results := [.lit (.bool false)], args := [d] }
  | _ => none }
def FnKboTotalWrongFalsely : Prop := fnKboTotalRow.holds Try.pinned (OpenSpec.ofChange fnKboTotalWrong)

/-- 'laws.FnKboWalk': WHATEVER THE INPUT: true; the input reads as it did. -/
def fnKboWalkSpec : ChangeSpec := { name := "fnKboWalk", fn := fun _ => fun
  | [d] => { results := [.lit (.bool true)], args := [d] }
  | _ => none }
def fnKboWalkRow : OpenClaim := { program := "ytiimbmkofpnebaa", sum := "0d7f8e2704cde04ce86ff79eeec6654b6a632f51752799c1a9b44ce25655d14e", func := "loop.example/g00895/laws.FnKboWalk", spec := "fnKboWalk", unfollowed := true, recurses := true, apart := false }
def FnKboWalkSaid : Prop := fnKboWalkRow.holds Try.pinned (OpenSpec.ofChange fnKboWalkSpec)

/-- ITS FALSE NEIGHBOUR: 'it returns false'. Refute it at one input. -/
def fnKboWalkWrong : ChangeSpec := { name := "fnKboWalk", fn := fun _ => fun
  | [d] => { results := [.lit (.bool false)], args := [d] }
  | _ => none }
def FnKboWalkWrongFalsely : Prop := fnKboWalkRow.holds Try.pinned (OpenSpec.ofChange fnKboWalkWrong)

/-- 'laws.FnExactWeightsOk': WHATEVER THE INPUT: true; the input reads as it did. -/
def fnExactWeightsOkSpec : ChangeSpec := { name := "fnExactWeightsOk", fn := fun _ => fun
  | [d1, d2] => { results := [.lit (.bool true)], args := [d1, d2] }
  | _ => none }
def fnExactWeightsOkRow : OpenClaim := { program := "ytiimbmkofpnebaa", sum := "0d7f8e2704cde04ce86ff79eeec6654b6a632f51752799c1a9b44ce25655d14e", func := "loop.example/g00895/laws.FnExactWeightsOk", spec := "fnExactWeightsOk", apart := false }
def FnExactWeightsOkSaid : Prop := fnExactWeightsOkRow.holds Try.pinned (OpenSpec.ofChange fnExactWeightsOkSpec)

/-- ITS FALSE NEIGHBOUR: 'it returns false'. Refute it at one input. -/
def fnExactWeightsOkWrong : ChangeSpec := { name := "fnExactWeightsOk", fn := fun _ => fun
  | [d1, d2] => { results := [.lit (.bool false)], args := [d1, d2] }
  | _ => none }
def FnExactWeightsOkWrongFalsely : Prop := fnExactWeightsOkRow.holds Try.pinned (OpenSpec.ofChange fnExactWeightsOkWrong)

/-- 'laws.FnExactWeightOf': WHATEVER THE INPUT: true; the input reads as it did. -/
def fnExactWeightOfSpec : ChangeSpec := { name := "fnExactWeightOf", fn := fun _ => fun
  | [d1, d2, d3] => { results := [.lit (.bool true)], args := [d1, d2, d3] }
  | _ => none }
def fnExactWeightOfRow : OpenClaim := { program := "ytiimbmkofpnebaa", sum := "0d7f8e2704cde04ce86ff79eeec6654b6a632f51752799c1a9b44ce25655d14e", func := "loop.example/g00895/laws.FnExactWeightOf", spec := "fnExactWeightOf", apart := false }
def FnExactWeightOfSaid : Prop := fnExactWeightOfRow.holds Try.pinned (OpenSpec.ofChange fnExactWeightOfSpec)

/-- ITS FALSE NEIGHBOUR: 'it returns false'. Refute it at one input. -/
def fnExactWeightOfWrong : ChangeSpec := { name := "fnExactWeightOf", fn := fun _ => fun
  | [d1, d2, d3] => { results := [.lit (.bool false)], args := [d1, d2, d3] }
  | _ => none }
def FnExactWeightOfWrongFalsely : Prop := fnExactWeightOfRow.holds Try.pinned (OpenSpec.ofChange fnExactWeightOfWrong)

/-- 'laws.FnExactOftenIn': WHATEVER THE INPUT: true; the input reads as it did. -/
def fnExactOftenInSpec : ChangeSpec := { name := "fnExactOftenIn", fn := fun _ => fun
  | [d1, d2, d3] => { results := [.lit (.bool true)], args := [d1, d2, d3] }
  | _ => none }
def fnExactOftenInRow : OpenClaim := { program := "ytiimbmkofpnebaa", sum := "0d7f8e2704cde04ce86ff79eeec6654b6a632f51752799c1a9b44ce25655d14e", func := "loop.example/g00895/laws.FnExactOftenIn", spec := "fnExactOftenIn", unfollowed := true, recurses := true, apart := false }
def FnExactOftenInSaid : Prop := fnExactOftenInRow.holds Try.pinned (OpenSpec.ofChange fnExactOftenInSpec)

/-- ITS FALSE NEIGHBOUR: 'it returns false'. Refute it at one input. -/
def fnExactOftenInWrong : ChangeSpec := { name := "fnExactOftenIn", fn := fun _ => fun
  | [d1, d2, d3] => { results := [.lit (.bool false)], args := [d1, d2, d3] }
  | _ => none }
def FnExactOftenInWrongFalsely : Prop := fnExactOftenInRow.holds Try.pinned (OpenSpec.ofChange fnExactOftenInWrong)

/-- 'laws.FnExactKboLess': WHATEVER THE INPUT: true; the input reads as it did. -/
def fnExactKboLessSpec : ChangeSpec := { name := "fnExactKboLess", fn := fun _ => fun
  | [d1, d2, d3, d4] => { results := [.lit (.bool true)], args := [d1, d2, d3, d4] }
  | _ => none }
def fnExactKboLessRow : OpenClaim := { program := "ytiimbmkofpnebaa", sum := "0d7f8e2704cde04ce86ff79eeec6654b6a632f51752799c1a9b44ce25655d14e", func := "loop.example/g00895/laws.FnExactKboLess", spec := "fnExactKboLess", unfollowed := true, recurses := true, apart := false }
def FnExactKboLessSaid : Prop := fnExactKboLessRow.holds Try.pinned (OpenSpec.ofChange fnExactKboLessSpec)

/-- ITS FALSE NEIGHBOUR: 'it returns false'. Refute it at one input. -/
def fnExactKboLessWrong : ChangeSpec := { name := "fnExactKboLess", fn := fun _ => fun
  | [d1, d2, d3, d4] => { results := [.lit (.bool false)], args := [d1, d2, d3, d4] }
  | _ => none }
def FnExactKboLessWrongFalsely : Prop := fnExactKboLessRow.holds Try.pinned (OpenSpec.ofChange fnExactKboLessWrong)

/-- 'laws.FnExactKboWhy': WHATEVER THE INPUT: true; the input reads as it did. -/
def fnExactKboWhySpec : ChangeSpec := { name := "fnExactKboWhy", fn := fun _ => fun
  | [d1, d2, d3, d4] => { results := [.lit (.bool true)], args := [d1, d2, d3, d4] }
  | _ => none }
def fnExactKboWhyRow : OpenClaim := { program := "ytiimbmkofpnebaa", sum := "0d7f8e2704cde04ce86ff79eeec6654b6a632f51752799c1a9b44ce25655d14e", func := "loop.example/g00895/laws.FnExactKboWhy", spec := "fnExactKboWhy", unfollowed := true, recurses := true, apart := false }
def FnExactKboWhySaid : Prop := fnExactKboWhyRow.holds Try.pinned (OpenSpec.ofChange fnExactKboWhySpec)

/-- ITS FALSE NEIGHBOUR: 'it returns false'. Refute it at one input. -/
def fnExactKboWhyWrong : ChangeSpec := { name := "fnExactKboWhy", fn := fun _ => fun
  | [d1, d2, d3, d4] => { results := [.lit (.bool false)], args := [d1, d2, d3, d4] }
  | _ => none }
def FnExactKboWhyWrongFalsely : Prop := fnExactKboWhyRow.holds Try.pinned (OpenSpec.ofChange fnExactKboWhyWrong)

/-- 'laws.FnExactKboOrients': WHATEVER THE INPUT: true; the input reads as it did. -/
def fnExactKboOrientsSpec : ChangeSpec := { name := "fnExactKboOrients", fn := fun _ => fun
  | [d1, d2] => { results := [.lit (.bool true)], args := [d1, d2] }
  | _ => none }
def fnExactKboOrientsRow : OpenClaim := { program := "ytiimbmkofpnebaa", sum := "0d7f8e2704cde04ce86ff79eeec6654b6a632f51752799c1a9b44ce25655d14e", func := "loop.example/g00895/laws.FnExactKboOrients", spec := "fnExactKboOrients", unfollowed := true, recurses := true, apart := false }
def FnExactKboOrientsSaid : Prop := fnExactKboOrientsRow.holds Try.pinned (OpenSpec.ofChange fnExactKboOrientsSpec)

/-- ITS FALSE NEIGHBOUR: 'it returns false'. Refute it at one input. -/
def fnExactKboOrientsWrong : ChangeSpec := { name := "fnExactKboOrients", fn := fun _ => fun
  | [d1, d2] => { results := [.lit (.bool false)], args := [d1, d2] }
  | _ => none }
def FnExactKboOrientsWrongFalsely : Prop := fnExactKboOrientsRow.holds Try.pinned (OpenSpec.ofChange fnExactKboOrientsWrong)

/-- 'laws.FnExactLightestOf': WHATEVER THE INPUT: true; the input reads as it did. -/
def fnExactLightestOfSpec : ChangeSpec := { name := "fnExactLightestOf", fn := fun _ => fun
  | [d1, d2] => { results := [.lit (.bool true)], args := [d1, d2] }
  | _ => none }
def fnExactLightestOfRow : OpenClaim := { program := "ytiimbmkofpnebaa", sum := "0d7f8e2704cde04ce86ff79eeec6654b6a632f51752799c1a9b44ce25655d14e", func := "loop.example/g00895/laws.FnExactLightestOf", spec := "fnExactLightestOf", apart := false }
def FnExactLightestOfSaid : Prop := fnExactLightestOfRow.holds Try.pinned (OpenSpec.ofChange fnExactLightestOfSpec)

/-- ITS FALSE NEIGHBOUR: 'it returns false'. Refute it at one input. -/
def fnExactLightestOfWrong : ChangeSpec := { name := "fnExactLightestOf", fn := fun _ => fun
  | [d1, d2] => { results := [.lit (.bool false)], args := [d1, d2] }
  | _ => none }
def FnExactLightestOfWrongFalsely : Prop := fnExactLightestOfRow.holds Try.pinned (OpenSpec.ofChange fnExactLightestOfWrong)

/-- 'laws.FnExactPlainWeights': WHATEVER THE INPUT: true; the input reads as it did. -/
def fnExactPlainWeightsSpec : ChangeSpec := { name := "fnExactPlainWeights", fn := fun _ => fun
  | [d] => { results := [.lit (.bool true)], args := [d] }
  | _ => none }
def fnExactPlainWeightsRow : OpenClaim := { program := "ytiimbmkofpnebaa", sum := "0d7f8e2704cde04ce86ff79eeec6654b6a632f51752799c1a9b44ce25655d14e", func := "loop.example/g00895/laws.FnExactPlainWeights", spec := "fnExactPlainWeights", apart := false }
def FnExactPlainWeightsSaid : Prop := fnExactPlainWeightsRow.holds Try.pinned (OpenSpec.ofChange fnExactPlainWeightsSpec)

/-- ITS FALSE NEIGHBOUR: 'it returns false'. Refute it at one input. -/
def fnExactPlainWeightsWrong : ChangeSpec := { name := "fnExactPlainWeights", fn := fun _ => fun
  | [d] => { results := [.lit (.bool false)], args := [d] }
  | _ => none }
def FnExactPlainWeightsWrongFalsely : Prop := fnExactPlainWeightsRow.holds Try.pinned (OpenSpec.ofChange fnExactPlainWeightsWrong)

/-- 'laws.FnExactDuplicatingIn': WHATEVER THE INPUT: true; the input reads as it did. -/
def fnExactDuplicatingInSpec : ChangeSpec := { name := "fnExactDuplicatingIn", fn := fun _ => fun
  | [d] => { results := [.lit (.bool true)], args := [d] }
  | _ => none }
def fnExactDuplicatingInRow : OpenClaim := { program := "ytiimbmkofpnebaa", sum := "0d7f8e2704cde04ce86ff79eeec6654b6a632f51752799c1a9b44ce25655d14e", func := "loop.example/g00895/laws.FnExactDuplicatingIn", spec := "fnExactDuplicatingIn", unfollowed := true, recurses := true, apart := false }
def FnExactDuplicatingInSaid : Prop := fnExactDuplicatingInRow.holds Try.pinned (OpenSpec.ofChange fnExactDuplicatingInSpec)

/-- ITS FALSE NEIGHBOUR: 'it returns false'. Refute it at one input. -/
def fnExactDuplicatingInWrong : ChangeSpec := { name := "fnExactDuplicatingIn", fn := fun _ => fun
  | [d] => { results := [.lit (.bool false)], args := [d] }
  | _ => none }
def FnExactDuplicatingInWrongFalsely : Prop := fnExactDuplicatingInRow.holds Try.pinned (OpenSpec.ofChange fnExactDuplicatingInWrong)

/-- 'laws.FnForms': WHATEVER THE INPUT: true; the input reads as it did. -/
def fnFormsSpec : ChangeSpec := { name := "fnForms", fn := fun _ => fun
  | [d] => { results := [.lit (.bool true)], args := [d] }
  | _ => none }
def fnFormsRow : OpenClaim := { program := "ytiimbmkofpnebaa", sum := "0d7f8e2704cde04ce86ff79eeec6654b6a632f51752799c1a9b44ce25655d14e", func := "loop.example/g00895/laws.FnForms", spec := "fnForms", unfollowed := true, recurses := true, apart := false }
def FnFormsSaid : Prop := fnFormsRow.holds Try.pinned (OpenSpec.ofChange fnFormsSpec)

/-- ITS FALSE NEIGHBOUR: 'it returns false'. Refute it at one input. -/
def fnFormsWrong : ChangeSpec := { name := "fnForms", fn := fun _ => fun
  | [d] => { results := [.lit (.bool false)], args := [d] }
  | _ => none }
def FnFormsWrongFalsely : Prop := fnFormsRow.holds Try.pinned (OpenSpec.ofChange fnFormsWrong)

/- THE SECOND FORM. 'bulk': how many values and letters a reading holds, each counted each time it is reached (what is shared counts as often as it is met; a slice's spare places count too). A statement '..UptoSaid' is the law's where the arguments, and the package variables that the reading takes, are together of bulk at most 1048576: NARROWER than '..Said'. Prove '..Said' where nothing that the law and all that it calls make is longer than what came in: it says more and counts as full. Else prove '..UptoSaid'. A law counts once. -/
mutual
def uptoBulk {H : Type} : DataW H → Nat
  | .lit (.string bytes) => bytes.length + 1
  | .lit _ => 1
  | .nil => 1
  | .ptr d => uptoBulk d + 1
  | .slice elems spare => uptoBulkAll elems + uptoBulkAll spare + 1
  | .agg parts => uptoBulkAll parts + 1
  | .iface _ d => uptoBulk d + 1
  | .map entries => uptoBulkEntries entries + 1
  | .held _ => 1
def uptoBulkAll {H : Type} : List (DataW H) → Nat
  | [] => 0
  | d :: r => uptoBulk d + uptoBulkAll r
def uptoBulkEntries {H : Type} : List (Lit × DataW H) → Nat
  | [] => 0
  | x :: r => uptoBulkEntry x + uptoBulkEntries r
def uptoBulkEntry {H : Type} : Lit × DataW H → Nat
  | (.string bytes, d) => bytes.length + uptoBulk d + 1
  | (_, d) => uptoBulk d + 1
 end
def uptoSmall : (H : Type) → List (DataW H) → Bool := fun _ ds => decide (uptoBulkAll ds ≤ 1048576)
def OpenSpec.upto (s : _root_.Go.ChangeSpec) : _root_.Go.OpenSpec := { _root_.Go.OpenSpec.ofChange s with cond := some uptoSmall }

/-- 'laws.FnKboStable', WHERE WHAT IT READS IS OF BULK AT MOST 1048576: true; the input reads as it did. -/
def fnKboStableUptoRow : OpenClaim := { program := "ytiimbmkofpnebaa", sum := "0d7f8e2704cde04ce86ff79eeec6654b6a632f51752799c1a9b44ce25655d14e", func := "loop.example/g00895/laws.FnKboStable", spec := "fnKboStable", unfollowed := true, recurses := true, apart := false, narrowed := true }
def FnKboStableUptoSaid : Prop := fnKboStableUptoRow.holds Try.pinned (OpenSpec.upto fnKboStableSpec)

/-- 'laws.FnKboTotal', WHERE WHAT IT READS IS OF BULK AT MOST 1048576: true; the input reads as it did. -/
def fnKboTotalUptoRow : OpenClaim := { program := "ytiimbmkofpnebaa", sum := "0d7f8e2704cde04ce86ff79eeec6654b6a632f51752799c1a9b44ce25655d14e", func := "loop.example/g00895/laws.FnKboTotal", spec := "fnKboTotal", unfollowed := true, recurses := true, apart := false, narrowed := true }
def FnKboTotalUptoSaid : Prop := fnKboTotalUptoRow.holds Try.pinned (OpenSpec.upto fnKboTotalSpec)

/-- 'laws.FnKboWalk', WHERE WHAT IT READS IS OF BULK AT MOST 1048576: true; the input reads as it did. -/
def fnKboWalkUptoRow : OpenClaim := { program := "ytiimbmkofpnebaa", sum := "0d7f8e2704cde04ce86ff79eeec6654b6a632f51752799c1a9b44ce25655d14e", func := "loop.example/g00895/laws.FnKboWalk", spec := "fnKboWalk", unfollowed := true, recurses := true, apart := false, narrowed := true }
def FnKboWalkUptoSaid : Prop := fnKboWalkUptoRow.holds Try.pinned (OpenSpec.upto fnKboWalkSpec)

/-- 'laws.FnExactWeightsOk', WHERE WHAT IT READS IS OF BULK AT MOST 1048576: true; the input reads as it did. -/
def fnExactWeightsOkUptoRow : OpenClaim := { program := "ytiimbmkofpnebaa", sum := "0d7f8e2704cde04ce86ff79eeec6654b6a632f51752799c1a9b44ce25655d14e", func := "loop.example/g00895/laws.FnExactWeightsOk", spec := "fnExactWeightsOk", apart := false, narrowed := true }
def FnExactWeightsOkUptoSaid : Prop := fnExactWeightsOkUptoRow.holds Try.pinned (OpenSpec.upto fnExactWeightsOkSpec)

/-- 'laws.FnExactWeightOf', WHERE WHAT IT READS IS OF BULK AT MOST 1048576: true; the input reads as it did. -/
def fnExactWeightOfUptoRow : OpenClaim := { program := "ytiimbmkofpnebaa", sum := "0d7f8e2704cde04ce86ff79eeec6654b6a632f51752799c1a9b44ce25655d14e", func := "loop.example/g00895/laws.FnExactWeightOf", spec := "fnExactWeightOf", apart := false, narrowed := true }
def FnExactWeightOfUptoSaid : Prop := fnExactWeightOfUptoRow.holds Try.pinned (OpenSpec.upto fnExactWeightOfSpec)

/-- 'laws.FnExactOftenIn', WHERE WHAT IT READS IS OF BULK AT MOST 1048576: true; the input reads as it did. -/
def fnExactOftenInUptoRow : OpenClaim := { program := "ytiimbmkofpnebaa", sum := "0d7f8e2704cde04ce86ff79eeec6654b6a632f51752799c1a9b44ce25655d14e", func := "loop.example/g00895/laws.FnExactOftenIn", spec := "fnExactOftenIn", unfollowed := true, recurses := true, apart := false, narrowed := true }
def FnExactOftenInUptoSaid : Prop := fnExactOftenInUptoRow.holds Try.pinned (OpenSpec.upto fnExactOftenInSpec)

/-- 'laws.FnExactKboLess', WHERE WHAT IT READS IS OF BULK AT MOST 1048576: true; the input reads as it did. -/
def fnExactKboLessUptoRow : OpenClaim := { program := "ytiimbmkofpnebaa", sum := "0d7f8e2704cde04ce86ff79eeec6654b6a632f51752799c1a9b44ce25655d14e", func := "loop.example/g00895/laws.FnExactKboLess", spec := "fnExactKboLess", unfollowed := true, recurses := true, apart := false, narrowed := true }
def FnExactKboLessUptoSaid : Prop := fnExactKboLessUptoRow.holds Try.pinned (OpenSpec.upto fnExactKboLessSpec)

/-- 'laws.FnExactKboWhy', WHERE WHAT IT READS IS OF BULK AT MOST 1048576: true; the input reads as it did. -/
def fnExactKboWhyUptoRow : OpenClaim := { program := "ytiimbmkofpnebaa", sum := "0d7f8e2704cde04ce86ff79eeec6654b6a632f51752799c1a9b44ce25655d14e", func := "loop.example/g00895/laws.FnExactKboWhy", spec := "fnExactKboWhy", unfollowed := true, recurses := true, apart := false, narrowed := true }
def FnExactKboWhyUptoSaid : Prop := fnExactKboWhyUptoRow.holds Try.pinned (OpenSpec.upto fnExactKboWhySpec)

/-- 'laws.FnExactKboOrients', WHERE WHAT IT READS IS OF BULK AT MOST 1048576: true; the input reads as it did. -/
def fnExactKboOrientsUptoRow : OpenClaim := { program := "ytiimbmkofpnebaa", sum := "0d7f8e2704cde04ce86ff79eeec6654b6a632f51752799c1a9b44ce25655d14e", func := "loop.example/g00895/laws.FnExactKboOrients", spec := "fnExactKboOrients", unfollowed := true, recurses := true, apart := false, narrowed := true }
def FnExactKboOrientsUptoSaid : Prop := fnExactKboOrientsUptoRow.holds Try.pinned (OpenSpec.upto fnExactKboOrientsSpec)

/-- 'laws.FnExactLightestOf', WHERE WHAT IT READS IS OF BULK AT MOST 1048576: true; the input reads as it did. -/
def fnExactLightestOfUptoRow : OpenClaim := { program := "ytiimbmkofpnebaa", sum := "0d7f8e2704cde04ce86ff79eeec6654b6a632f51752799c1a9b44ce25655d14e", func := "loop.example/g00895/laws.FnExactLightestOf", spec := "fnExactLightestOf", apart := false, narrowed := true }
def FnExactLightestOfUptoSaid : Prop := fnExactLightestOfUptoRow.holds Try.pinned (OpenSpec.upto fnExactLightestOfSpec)

/-- 'laws.FnExactPlainWeights', WHERE WHAT IT READS IS OF BULK AT MOST 1048576: true; the input reads as it did. -/
def fnExactPlainWeightsUptoRow : OpenClaim := { program := "ytiimbmkofpnebaa", sum := "0d7f8e2704cde04ce86ff79eeec6654b6a632f51752799c1a9b44ce25655d14e", func := "loop.example/g00895/laws.FnExactPlainWeights", spec := "fnExactPlainWeights", apart := false, narrowed := true }
def FnExactPlainWeightsUptoSaid : Prop := fnExactPlainWeightsUptoRow.holds Try.pinned (OpenSpec.upto fnExactPlainWeightsSpec)

/-- 'laws.FnExactDuplicatingIn', WHERE WHAT IT READS IS OF BULK AT MOST 1048576: true; the input reads as it did. -/
def fnExactDuplicatingInUptoRow : OpenClaim := { program := "ytiimbmkofpnebaa", sum := "0d7f8e2704cde04ce86ff79eeec6654b6a632f51752799c1a9b44ce25655d14e", func := "loop.example/g00895/laws.FnExactDuplicatingIn", spec := "fnExactDuplicatingIn", unfollowed := true, recurses := true, apart := false, narrowed := true }
def FnExactDuplicatingInUptoSaid : Prop := fnExactDuplicatingInUptoRow.holds Try.pinned (OpenSpec.upto fnExactDuplicatingInSpec)

/-- 'laws.FnForms', WHERE WHAT IT READS IS OF BULK AT MOST 1048576: true; the input reads as it did. -/
def fnFormsUptoRow : OpenClaim := { program := "ytiimbmkofpnebaa", sum := "0d7f8e2704cde04ce86ff79eeec6654b6a632f51752799c1a9b44ce25655d14e", func := "loop.example/g00895/laws.FnForms", spec := "fnForms", unfollowed := true, recurses := true, apart := false, narrowed := true }
def FnFormsUptoSaid : Prop := fnFormsUptoRow.holds Try.pinned (OpenSpec.upto fnFormsSpec)

end Rows
end Go.Proofs.Ytiimbmkofpnebaa
