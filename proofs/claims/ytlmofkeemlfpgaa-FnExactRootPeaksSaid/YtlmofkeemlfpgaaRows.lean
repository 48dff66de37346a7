/-
  No cell of these rows narrows 'for every input' (looked for: loops, veiled, ifaces, maps, wideKeys, modest, calm, conditions, laid).
  DERIVED. THE GIVEN ROWS OF THIS SEAT. 11 by the template 'for every input the law returns true; each argument reads behind the call as it read before'; 0 by the template 'total and deterministic' (their statements: YtlmofkeemlfpgaaTotals.lean).
  GIVEN WITH THE SEED: the statements are not yours to turn. If you find one false, say at which input.
  Laid BY PROGRAM, IN A SANDBOX (cutbox-rows.mjs): the forced cells as the released guide's own fill.sh prints them over the translation d484fab57db93f96… (all of the seat's roots in one cut). By AI agents, Wed Nov 11 2026. No macro, syntax, notation, axiom, sorry.
-/
import Derived.Test.YtlmofkeemlfpgaaChecked
import GoSem.Claim
import GoSem.ClaimJoined
import GoSem.ClaimMapViews
import Derived.JoinedTies
import Derived.KernelRfl
namespace Go.Proofs.Ytlmofkeemlfpgaa
/- THE CELL 'sum', in the pinned program and in every row, IS THE sha256 OF THE DUMP (.gsa) THAT YtlmofkeemlfpgaaProg.lean LOADS. Nothing in Lean hashes anything: it is a label: what it is worth is what the hold of that sum in a sandbox is worth. -/
noncomputable def Try.pinned : Pinned := { name := "ytlmofkeemlfpgaa", sum := "d484fab57db93f967416dfc00416415f2f43212bef9caea835dae680951efc1f", checked := Try.checked }
namespace Rows
def none {H : Type} : Left H := { results := [], args := [] }

/-- 'laws.FnLpoTotal': WHATEVER THE INPUT: true; the input reads as it did. -/
def fnLpoTotalSpec : ChangeSpec := { name := "fnLpoTotal", fn := fun _ => fun
  | [d] => { results := [.lit (.bool true)], args := [d] }
  | _ => none }
def fnLpoTotalRow : OpenClaim := { program := "ytlmofkeemlfpgaa", sum := "d484fab57db93f967416dfc00416415f2f43212bef9caea835dae680951efc1f", func := "loop.example/g00895/laws.FnLpoTotal", spec := "fnLpoTotal", unfollowed := true, recurses := true, apart := false }
def FnLpoTotalSaid : Prop := fnLpoTotalRow.holds Try.pinned (OpenSpec.ofChange fnLpoTotalSpec)

/-- ITS FALSE NEIGHBOUR: 'it returns false'. Refute it at one input. -/
def fnLpoTotalWrong : ChangeSpec := { name := "fnLpoTotal", fn := fun _ => fun
  | [d] => { results := [.lit (.bool false)], args := [d] }
  | _ => none }
def FnLpoTotalWrongFalsely : Prop := fnLpoTotalRow.holds Try.pinned (OpenSpec.ofChange fnLpoTotalWrong)

/-- 'laws.FnLpoWalk': WHATEVER THE INPUT: true; the input reads as it did. -/
def fnLpoWalkSpec : ChangeSpec := { name := "fnLpoWalk", fn := fun _ => fun
  | [d] => { results := [.lit (.bool true)], args := [d] }
  | _ => none }
def fnLpoWalkRow : OpenClaim := { program := "ytlmofkeemlfpgaa", sum := "d484fab57db93f967416dfc00416415f2f43212bef9caea835dae680951efc1f", func := "loop.example/g00895/laws.FnLpoWalk", spec := "fnLpoWalk", unfollowed := true, recurses := true, apart := false }
def FnLpoWalkSaid : Prop := fnLpoWalkRow.holds Try.pinned (OpenSpec.ofChange fnLpoWalkSpec)

/-- ITS FALSE NEIGHBOUR: 'it returns false'. Refute it at one input. -/
def fnLpoWalkWrong : ChangeSpec := { name := "fnLpoWalk", fn := fun _ => fun
  | [d] => { results := [.lit (.bool false)], args := [d] }
  | _ => none }
def FnLpoWalkWrongFalsely : Prop := fnLpoWalkRow.holds Try.pinned (OpenSpec.ofChange fnLpoWalkWrong)

/-- 'laws.FnExactRankOk': WHATEVER THE INPUT: true; the input reads as it did. -/
def fnExactRankOkSpec : ChangeSpec := { name := "fnExactRankOk", fn := fun _ => fun
  | [d1, d2] => { results := [.lit (.bool true)], args := [d1, d2] }
  | _ => none }
def fnExactRankOkRow : OpenClaim := { program := "ytlmofkeemlfpgaa", sum := "d484fab57db93f967416dfc00416415f2f43212bef9caea835dae680951efc1f", func := "loop.example/g00895/laws.FnExactRankOk", spec := "fnExactRankOk", apart := false }
def FnExactRankOkSaid : Prop := fnExactRankOkRow.holds Try.pinned (OpenSpec.ofChange fnExactRankOkSpec)

/-- ITS FALSE NEIGHBOUR: 'it returns false'. Refute it at one input. -/
def fnExactRankOkWrong : ChangeSpec := { name := "fnExactRankOk", fn := fun _ => fun
  | [d1, d2] => { results := [.lit (.bool false)], args := [d1, d2] }
  | _ => none }
def FnExactRankOkWrongFalsely : Prop := fnExactRankOkRow.holds Try.pinned (OpenSpec.ofChange fnExactRankOkWrong)

/-- 'laws.FnExactLpoLess': WHATEVER THE INPUT: true; the input reads as it did. -/
def fnExactLpoLessSpec : ChangeSpec := { name := "fnExactLpoLess", fn := fun _ => fun
  | [d1, d2, d3, d4] => { results := [.lit (.bool true)], args := [d1, d2, d3, d4] }
  | _ => none }
def fnExactLpoLessRow : OpenClaim := { program := "ytlmofkeemlfpgaa", sum := "d484fab57db93f967416dfc00416415f2f43212bef9caea835dae680951efc1f", func := "loop.example/g00895/laws.FnExactLpoLess", spec := "fnExactLpoLess", unfollowed := true, recurses := true, apart := false }
def FnExactLpoLessSaid : Prop := fnExactLpoLessRow.holds Try.pinned (OpenSpec.ofChange fnExactLpoLessSpec)

/-- ITS FALSE NEIGHBOUR: 'it returns false'. Refute it at one input. -/
def fnExactLpoLessWrong : ChangeSpec := { name := "fnExactLpoLess", fn := fun _ => fun
  | [d1, d2, d3, d4] => { results := [.lit (.bool false)], args := [d1, d2, d3, d4] }
  | _ => none }
def FnExactLpoLessWrongFalsely : Prop := fnExactLpoLessRow.holds Try.pinned (OpenSpec.ofChange fnExactLpoLessWrong)

/-- 'laws.FnExactLpoWhy': WHATEVER THE INPUT: true; the input reads as it did. -/
def fnExactLpoWhySpec : ChangeSpec := { name := "fnExactLpoWhy", fn := fun _ => fun
  | [d1, d2, d3, d4] => { results := [.lit (.bool true)], args := [d1, d2, d3, d4] }
  | _ => none }
def fnExactLpoWhyRow : OpenClaim := { program := "ytlmofkeemlfpgaa", sum := "d484fab57db93f967416dfc00416415f2f43212bef9caea835dae680951efc1f", func := "loop.example/g00895/laws.FnExactLpoWhy", spec := "fnExactLpoWhy", unfollowed := true, recurses := true, apart := false }
def FnExactLpoWhySaid : Prop := fnExactLpoWhyRow.holds Try.pinned (OpenSpec.ofChange fnExactLpoWhySpec)

/-- ITS FALSE NEIGHBOUR: 'it returns false'. Refute it at one input. -/
def fnExactLpoWhyWrong : ChangeSpec := { name := "fnExactLpoWhy", fn := fun _ => fun
  | [d1, d2, d3, d4] => { results := [.lit (.bool false)], args := [d1, d2, d3, d4] }
  | _ => none }
def FnExactLpoWhyWrongFalsely : Prop := fnExactLpoWhyRow.holds Try.pinned (OpenSpec.ofChange fnExactLpoWhyWrong)

/-- 'laws.FnExactLpoCompare': WHATEVER THE INPUT: true; the input reads as it did. -/
def fnExactLpoCompareSpec : ChangeSpec := { name := "fnExactLpoCompare", fn := fun _ => fun
  | [d1, d2, d3, d4] => { results := [.lit (.bool true)], args := [d1, d2, d3, d4] }
  | _ => none }
def fnExactLpoCompareRow : OpenClaim := { program := "ytlmofkeemlfpgaa", sum := "d484fab57db93f967416dfc00416415f2f43212bef9caea835dae680951efc1f", func := "loop.example/g00895/laws.FnExactLpoCompare", spec := "fnExactLpoCompare", unfollowed := true, recurses := true, apart := false }
def FnExactLpoCompareSaid : Prop := fnExactLpoCompareRow.holds Try.pinned (OpenSpec.ofChange fnExactLpoCompareSpec)

/-- ITS FALSE NEIGHBOUR: 'it returns false'. Refute it at one input. -/
def fnExactLpoCompareWrong : ChangeSpec := { name := "fnExactLpoCompare", fn := fun _ => fun
  | [d1, d2, d3, d4] => { results := [.lit (.bool false)], args := [d1, d2, d3, d4] }
  | _ => none }
def FnExactLpoCompareWrongFalsely : Prop := fnExactLpoCompareRow.holds Try.pinned (OpenSpec.ofChange fnExactLpoCompareWrong)

/-- 'laws.FnExactMpoLess': WHATEVER THE INPUT: true; the input reads as it did. -/
def fnExactMpoLessSpec : ChangeSpec := { name := "fnExactMpoLess", fn := fun _ => fun
  | [d1, d2, d3, d4] => { results := [.lit (.bool true)], args := [d1, d2, d3, d4] }
  | _ => none }
def fnExactMpoLessRow : OpenClaim := { program := "ytlmofkeemlfpgaa", sum := "d484fab57db93f967416dfc00416415f2f43212bef9caea835dae680951efc1f", func := "loop.example/g00895/laws.FnExactMpoLess", spec := "fnExactMpoLess", unfollowed := true, recurses := true, apart := false }
def FnExactMpoLessSaid : Prop := fnExactMpoLessRow.holds Try.pinned (OpenSpec.ofChange fnExactMpoLessSpec)

/-- ITS FALSE NEIGHBOUR: 'it returns false'. Refute it at one input. -/
def fnExactMpoLessWrong : ChangeSpec := { name := "fnExactMpoLess", fn := fun _ => fun
  | [d1, d2, d3, d4] => { results := [.lit (.bool false)], args := [d1, d2, d3, d4] }
  | _ => none }
def FnExactMpoLessWrongFalsely : Prop := fnExactMpoLessRow.holds Try.pinned (OpenSpec.ofChange fnExactMpoLessWrong)

/-- 'laws.FnExactOrientsAll': WHATEVER THE INPUT: true; the input reads as it did. -/
def fnExactOrientsAllSpec : ChangeSpec := { name := "fnExactOrientsAll", fn := fun _ => fun
  | [d1, d2] => { results := [.lit (.bool true)], args := [d1, d2] }
  | _ => none }
def fnExactOrientsAllRow : OpenClaim := { program := "ytlmofkeemlfpgaa", sum := "d484fab57db93f967416dfc00416415f2f43212bef9caea835dae680951efc1f", func := "loop.example/g00895/laws.FnExactOrientsAll", spec := "fnExactOrientsAll", unfollowed := true, recurses := true, apart := false }
def FnExactOrientsAllSaid : Prop := fnExactOrientsAllRow.holds Try.pinned (OpenSpec.ofChange fnExactOrientsAllSpec)

/-- ITS FALSE NEIGHBOUR: 'it returns false'. Refute it at one input. -/
def fnExactOrientsAllWrong : ChangeSpec := { name := "fnExactOrientsAll", fn := fun _ => fun
  | [d1, d2] => { results := [.lit (.bool false)], args := [d1, d2] }
  | _ => none }
def FnExactOrientsAllWrongFalsely : Prop := fnExactOrientsAllRow.holds Try.pinned (OpenSpec.ofChange fnExactOrientsAllWrong)

/-- 'laws.FnExactOrientsBags': WHATEVER THE INPUT: true; the input reads as it did. -/
def fnExactOrientsBagsSpec : ChangeSpec := { name := "fnExactOrientsBags", fn := fun _ => fun
  | [d1, d2] => { results := [.lit (.bool true)], args := [d1, d2] }
  | _ => none }
def fnExactOrientsBagsRow : OpenClaim := { program := "ytlmofkeemlfpgaa", sum := "d484fab57db93f967416dfc00416415f2f43212bef9caea835dae680951efc1f", func := "loop.example/g00895/laws.FnExactOrientsBags", spec := "fnExactOrientsBags", unfollowed := true, recurses := true, apart := false }
def FnExactOrientsBagsSaid : Prop := fnExactOrientsBagsRow.holds Try.pinned (OpenSpec.ofChange fnExactOrientsBagsSpec)

/-- ITS FALSE NEIGHBOUR: 'it returns false'. Refute it at one input. -/
def fnExactOrientsBagsWrong : ChangeSpec := { name := "fnExactOrientsBags", fn := fun _ => fun
  | [d1, d2] => { results := [.lit (.bool false)], args := [d1, d2] }
  | _ => none }
def FnExactOrientsBagsWrongFalsely : Prop := fnExactOrientsBagsRow.holds Try.pinned (OpenSpec.ofChange fnExactOrientsBagsWrong)

/-- 'laws.FnExactLpoGreatest': WHATEVER THE INPUT: true; the input reads as it did. -/
def fnExactLpoGreatestSpec : ChangeSpec := { name := "fnExactLpoGreatest", fn := fun _ => fun
  | [d1, d2, d3] => { results := [.lit (.bool true)], args := [d1, d2, d3] }
  | _ => none }
def fnExactLpoGreatestRow : OpenClaim := { program := "ytlmofkeemlfpgaa", sum := "d484fab57db93f967416dfc00416415f2f43212bef9caea835dae680951efc1f", func := "loop.example/g00895/laws.FnExactLpoGreatest", spec := "fnExactLpoGreatest", unfollowed := true, recurses := true, apart := false }
def FnExactLpoGreatestSaid : Prop := fnExactLpoGreatestRow.holds Try.pinned (OpenSpec.ofChange fnExactLpoGreatestSpec)

/-- ITS FALSE NEIGHBOUR: 'it returns false'. Refute it at one input. -/
def fnExactLpoGreatestWrong : ChangeSpec := { name := "fnExactLpoGreatest", fn := fun _ => fun
  | [d1, d2, d3] => { results := [.lit (.bool false)], args := [d1, d2, d3] }
  | _ => none }
def FnExactLpoGreatestWrongFalsely : Prop := fnExactLpoGreatestRow.holds Try.pinned (OpenSpec.ofChange fnExactLpoGreatestWrong)

/-- 'laws.FnExactRootPeaks': WHATEVER THE INPUT: true; the input reads as it did. -/
def fnExactRootPeaksSpec : ChangeSpec := { name := "fnExactRootPeaks", fn := fun _ => fun
  | [d] => { results := [.lit (.bool true)], args := [d] }
  | _ => none }
def fnExactRootPeaksRow : OpenClaim := { program := "ytlmofkeemlfpgaa", sum := "d484fab57db93f967416dfc00416415f2f43212bef9caea835dae680951efc1f", func := "loop.example/g00895/laws.FnExactRootPeaks", spec := "fnExactRootPeaks", unfollowed := true, recurses := true, apart := false }
def FnExactRootPeaksSaid : Prop := fnExactRootPeaksRow.holds Try.pinned (OpenSpec.ofChange fnExactRootPeaksSpec)

/-- ITS FALSE NEIGHBOUR: 'it returns false'. Refute it at one input. -/
def fnExactRootPeaksWrong : ChangeSpec := { name := "fnExactRootPeaks", fn := fun _ => fun
  | [d] => { results := [.lit (.bool false)], args := [d] }
  | _ => none }
def FnExactRootPeaksWrongFalsely : Prop := fnExactRootPeaksRow.holds Try.pinned (OpenSpec.ofChange fnExactRootPeaksWrong)

/- THE SECOND FORM. 'bulk': how many values and letters a reading holds, each counted each time it is reached (what is shared counts as often as it is met; a slice's spare places count too). A statement '..UptoSaid' is the law's where the arguments, and the package variables that the reading takes, are together of bulk at most 1048576: NARROWER than '..Said'. Prove '..Said' where nothing that the law and all that it calls make is longer than what came in: it says more and counts as full. Else prove '..UptoSaid'. A law counts once. -/
mutual
def uptoBulk {H : Type} : DataW H → Nat
  | .lit (.string bytes) => bytes.length + 1
  | .lit _ => 1
  | .nil => 1
  | .ptr d => uptoBulk d + 1
  | .slice elems spare => uptoBulkAll elems + uptoBulkAll spare + 1
  | .agg parts => uptoBulkAll parts + 1
  | .iface _ d => uptoBulk d + 1
  | .map entries => uptoBulkEntries entries + 1
  | .held _ => 1
def uptoBulkAll {H : Type} : List (DataW H) → Nat
  | [] => 0
  | d :: r => uptoBulk d + uptoBulkAll r
def uptoBulkEntries {H : Type} : List (Lit × DataW H) → Nat
  | [] => 0
  | x :: r => uptoBulkEntry x + uptoBulkEntries r
def uptoBulkEntry {H : Type} : Lit × DataW H → Nat
  | (.string bytes, d) => bytes.length + uptoBulk d + 1
  | (_, d) => uptoBulk d + 1
 end
def uptoSmall : (H : Type) → List (DataW H) → Bool := fun _ ds => decide (uptoBulkAll ds ≤ 1048576)
def OpenSpec.upto (s : _root_.Go.ChangeSpec) : _root_.Go.OpenSpec := { _root_.Go.OpenSpec.ofChange s with cond := some uptoSmall }

/-- 'laws.FnLpoTotal', WHERE WHAT IT READS IS OF BULK AT MOST 1048576: true; the input reads as it did. -/
def fnLpoTotalUptoRow : OpenClaim := { program := "ytlmofkeemlfpgaa", sum := "d484fab57db93f967416dfc00416415f2f43212bef9caea835dae680951efc1f", func := "loop.example/g00895/laws.FnLpoTotal", spec := "fnLpoTotal", unfollowed := true, recurses := true, apart := false, narrowed := true }
def FnLpoTotalUptoSaid : Prop := fnLpoTotalUptoRow.holds Try.pinned (OpenSpec.upto fnLpoTotalSpec)

/-- 'laws.FnLpoWalk', WHERE WHAT IT READS IS OF BULK AT MOST 1048576: true; the input reads as it did. -/
def fnLpoWalkUptoRow : OpenClaim := { program := "ytlmofkeemlfpgaa", sum := "d484fab57db93f967416dfc00416415f2f43212bef9caea835dae680951efc1f", func := "loop.example/g00895/laws.FnLpoWalk", spec := "fnLpoWalk", unfollowed := true, recurses := true, apart := false, narrowed := true }
def FnLpoWalkUptoSaid : Prop := fnLpoWalkUptoRow.holds Try.pinned (OpenSpec.upto fnLpoWalkSpec)

/-- 'laws.FnExactRankOk', WHERE WHAT IT READS IS OF BULK AT MOST 1048576: true; the input reads as it did. -/
def fnExactRankOkUptoRow : OpenClaim := { program := "ytlmofkeemlfpgaa", sum := "d484fab57db93f967416dfc00416415f2f43212bef9caea835dae680951efc1f", func := "loop.example/g00895/laws.FnExactRankOk", spec := "fnExactRankOk", apart := false, narrowed := true }
def FnExactRankOkUptoSaid : Prop := fnExactRankOkUptoRow.holds Try.pinned (OpenSpec.upto fnExactRankOkSpec)

/-- 'laws.FnExactLpoLess', WHERE WHAT IT READS IS OF BULK AT MOST 1048576: true; the input reads as it did. -/
def fnExactLpoLessUptoRow : OpenClaim := { program := "ytlmofkeemlfpgaa", sum := "d484fab57db93f967416dfc00416415f2f43212bef9caea835dae680951efc1f", func := "loop.example/g00895/laws.FnExactLpoLess", spec := "fnExactLpoLess", unfollowed := true, recurses := true, apart := false, narrowed := true }
def FnExactLpoLessUptoSaid : Prop := fnExactLpoLessUptoRow.holds Try.pinned (OpenSpec.upto fnExactLpoLessSpec)

/-- 'laws.FnExactLpoWhy', WHERE WHAT IT READS IS OF BULK AT MOST 1048576: true; the input reads as it did. -/
def fnExactLpoWhyUptoRow : OpenClaim := { program := "ytlmofkeemlfpgaa", sum := "d484fab57db93f967416dfc00416415f2f43212bef9caea835dae680951efc1f", func := "loop.example/g00895/laws.FnExactLpoWhy", spec := "fnExactLpoWhy", unfollowed := true, recurses := true, apart := false, narrowed := true }
def FnExactLpoWhyUptoSaid : Prop := fnExactLpoWhyUptoRow.holds Try.pinned (OpenSpec.upto fnExactLpoWhySpec)

/-- 'laws.FnExactLpoCompare', WHERE WHAT IT READS IS OF BULK AT MOST 1048576: true; the input reads as it did. -/
def fnExactLpoCompareUptoRow : OpenClaim := { program := "ytlmofkeemlfpgaa", sum := "d484fab57db93f967416dfc00416415f2f43212bef9caea835dae680951efc1f", func := "loop.example/g00895/laws.FnExactLpoCompare", spec := "fnExactLpoCompare", unfollowed := true, recurses := true, apart := false, narrowed := true }
def FnExactLpoCompareUptoSaid : Prop := fnExactLpoCompareUptoRow.holds Try.pinned (OpenSpec.upto fnExactLpoCompareSpec)

/-- 'laws.FnExactMpoLess', WHERE WHAT IT READS IS OF BULK AT MOST 1048576: true; the input reads as it did. -/
def fnExactMpoLessUptoRow : OpenClaim := { program := "ytlmofkeemlfpgaa", sum := "d484fab57db93f967416dfc00416415f2f43212bef9caea835dae680951efc1f", func := "loop.example/g00895/laws.FnExactMpoLess", spec := "fnExactMpoLess", unfollowed := true, recurses := true, apart := false, narrowed := true }
def FnExactMpoLessUptoSaid : Prop := fnExactMpoLessUptoRow.holds Try.pinned (OpenSpec.upto fnExactMpoLessSpec)

/-- 'laws.FnExactOrientsAll', WHERE WHAT IT READS IS OF BULK AT MOST 1048576: true; the input reads as it did. -/
def fnExactOrientsAllUptoRow : OpenClaim := { program := "ytlmofkeemlfpgaa", sum := "d484fab57db93f967416dfc00416415f2f43212bef9caea835dae680951efc1f", func := "loop.example/g00895/laws.FnExactOrientsAll", spec := "fnExactOrientsAll", unfollowed := true, recurses := true, apart := false, narrowed := true }
def FnExactOrientsAllUptoSaid : Prop := fnExactOrientsAllUptoRow.holds Try.pinned (OpenSpec.upto fnExactOrientsAllSpec)

/-- 'laws.FnExactOrientsBags', WHERE WHAT IT READS IS OF BULK AT MOST 1048576: true; the input reads as it did. -/
def fnExactOrientsBagsUptoRow : OpenClaim := { program := "ytlmofkeemlfpgaa", sum := "d484fab57db93f967416dfc00416415f2f43212bef9caea835dae680951efc1f", func := "loop.example/g00895/laws.FnExactOrientsBags", spec := "fnExactOrientsBags", unfollowed := true, recurses := true, apart := false, narrowed := true }
def FnExactOrientsBagsUptoSaid : Prop := fnExactOrientsBagsUptoRow.holds Try.pinned (OpenSpec.upto fnExactOrientsBagsSpec)

/-- 'laws.FnExactLpoGreatest', WHERE WHAT IT READS IS OF BULK AT MOST 1048576: true; the input reads as it did. -/
def fnExactLpoGreatestUptoRow : OpenClaim := { program := "ytlmofkeemlfpgaa", sum := "d484fab57db93f967416dfc00416415f2f43212bef9caea835dae680951efc1f", func := "loop.example/g00895/laws.FnExactLpoGreatest", spec := "fnExactLpoGreatest", unfollowed := true, recurses := true, apart := false, narrowed := true }
def FnExactLpoGreatestUptoSaid : Prop := fnExactLpoGreatestUptoRow.holds Try.pinned (OpenSpec.upto fnExactLpoGreatestSpec)

/-- 'laws.FnExactRootPeaks', WHERE WHAT IT READS IS OF BULK AT MOST 1048576: true; the input reads as it did. -/
def fnExactRootPeaksUptoRow : OpenClaim := { program := "ytlmofkeemlfpgaa", sum := "d484fab57db93f967416dfc00416415f2f43212bef9caea835dae680951efc1f", func := "loop.example/g00895/laws.FnExactRootPeaks", spec := "fnExactRootPeaks", unfollowed := true, recurses := true, apart := false, narrowed := true }
def FnExactRootPeaksUptoSaid : Prop := fnExactRootPeaksUptoRow.holds Try.pinned (OpenSpec.upto fnExactRootPeaksSpec)

end Rows
end Go.Proofs.Ytlmofkeemlfpgaa
