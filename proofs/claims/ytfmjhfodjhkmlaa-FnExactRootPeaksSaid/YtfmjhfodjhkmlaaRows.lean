/-
  No cell of these rows narrows 'for every input' (looked for: loops, veiled, ifaces, maps, wideKeys, modest, calm, conditions, laid).
  DERIVED. THE GIVEN ROWS OF THIS SEAT. 4 by the template 'for every input the law returns true; each argument reads behind the call as it read before'; 0 by the template 'total and deterministic' (their statements: YtfmjhfodjhkmlaaTotals.lean).
  GIVEN WITH THE SEED: the statements are not yours to turn. If you find one false, say at which input.
  Laid BY PROGRAM, IN A SANDBOX (cutbox-rows.mjs): the forced cells as the released guide's own fill.sh prints them over the translation e273b84e5ec46f43… (all of the seat's roots in one cut). By AI agents, Wed Nov 11 2026. No macro, syntax, notation, axiom, sorry.
-/
import Derived.Test.YtfmjhfodjhkmlaaChecked
import GoSem.Claim
import GoSem.ClaimJoined
import GoSem.ClaimMapViews
import Derived.JoinedTies
import Derived.KernelRfl
namespace Go.Proofs.Ytfmjhfodjhkmlaa
/- THE CELL 'sum', in the pinned program and in every row, IS THE sha256 OF THE DUMP (.gsa) THAT YtfmjhfodjhkmlaaProg.lean LOADS. Nothing in Lean hashes anything: it is a label: what it is worth is what the hold of that sum in a sandbox is worth. -/
noncomputable def Try.pinned : Pinned := { name := "ytfmjhfodjhkmlaa", sum := "e273b84e5ec46f4384fe5a8078966a1a09a000994d93531d9da61f2cf5260a6e", checked := Try.checked }
namespace Rows
def none {H : Type} : Left H := { results := [], args := [] }

/-- 'laws.FnExactOverlapsIn': WHATEVER THE INPUT: true; the input reads as it did. -/
def fnExactOverlapsInSpec : ChangeSpec := { name := "fnExactOverlapsIn", fn := fun _ => fun
  | [d1, d2, d3] => { results := [.lit (.bool true)], args := [d1, d2, d3] }
  | _ => none }
def fnExactOverlapsInRow : OpenClaim := { program := "ytfmjhfodjhkmlaa", sum := "e273b84e5ec46f4384fe5a8078966a1a09a000994d93531d9da61f2cf5260a6e", func := "loop.example/g00895/laws.FnExactOverlapsIn", spec := "fnExactOverlapsIn", unfollowed := true, recurses := true, apart := false }
def FnExactOverlapsInSaid : Prop := fnExactOverlapsInRow.holds Try.pinned (OpenSpec.ofChange fnExactOverlapsInSpec)

/-- ITS FALSE NEIGHBOUR: 'it returns false'. Refute it at one input. -/
def fnExactOverlapsInWrong : ChangeSpec := { name := "fnExactOverlapsIn", fn := fun _ => fun
  | [d1, d2, d3] => { results := [.lit (.bool false)], args := [d1, d2, d3] }
  | _ => none }
def FnExactOverlapsInWrongFalsely : Prop := fnExactOverlapsInRow.holds Try.pinned (OpenSpec.ofChange fnExactOverlapsInWrong)

/-- 'laws.FnExactPeakAt': WHATEVER THE INPUT: true; the input reads as it did. -/
def fnExactPeakAtSpec : ChangeSpec := { name := "fnExactPeakAt", fn := fun _ => fun
  | [d1, d2, d3, d4] => { results := [.lit (.bool true)], args := [d1, d2, d3, d4] }
  | _ => none }
def fnExactPeakAtRow : OpenClaim := { program := "ytfmjhfodjhkmlaa", sum := "e273b84e5ec46f4384fe5a8078966a1a09a000994d93531d9da61f2cf5260a6e", func := "loop.example/g00895/laws.FnExactPeakAt", spec := "fnExactPeakAt", unfollowed := true, recurses := true, apart := false }
def FnExactPeakAtSaid : Prop := fnExactPeakAtRow.holds Try.pinned (OpenSpec.ofChange fnExactPeakAtSpec)

/-- ITS FALSE NEIGHBOUR: 'it returns false'. Refute it at one input. -/
def fnExactPeakAtWrong : ChangeSpec := { name := "fnExactPeakAt", fn := fun _ => fun
  | [d1, d2, d3, d4] => { results := [.lit (.bool false)], args := [d1, d2, d3, d4] }
  | _ => none }
def FnExactPeakAtWrongFalsely : Prop := fnExactPeakAtRow.holds Try.pinned (OpenSpec.ofChange fnExactPeakAtWrong)

/-- 'laws.FnExactPeaksOf': WHATEVER THE INPUT: true; the input reads as it did. -/
def fnExactPeaksOfSpec : ChangeSpec := { name := "fnExactPeaksOf", fn := fun _ => fun
  | [d] => { results := [.lit (.bool true)], args := [d] }
  | _ => none }
def fnExactPeaksOfRow : OpenClaim := { program := "ytfmjhfodjhkmlaa", sum := "e273b84e5ec46f4384fe5a8078966a1a09a000994d93531d9da61f2cf5260a6e", func := "loop.example/g00895/laws.FnExactPeaksOf", spec := "fnExactPeaksOf", unfollowed := true, recurses := true, apart := false }
def FnExactPeaksOfSaid : Prop := fnExactPeaksOfRow.holds Try.pinned (OpenSpec.ofChange fnExactPeaksOfSpec)

/-- ITS FALSE NEIGHBOUR: 'it returns false'. Refute it at one input. -/
def fnExactPeaksOfWrong : ChangeSpec := { name := "fnExactPeaksOf", fn := fun _ => fun
  | [d] => { results := [.lit (.bool false)], args := [d] }
  | _ => none }
def FnExactPeaksOfWrongFalsely : Prop := fnExactPeaksOfRow.holds Try.pinned (OpenSpec.ofChange fnExactPeaksOfWrong)

/-- 'laws.FnExactRootPeaks': WHATEVER THE INPUT: true; the input reads as it did. -/
def fnExactRootPeaksSpec : ChangeSpec := { name := "fnExactRootPeaks", fn := fun _ => fun
  | [d] => { results := [.lit (.bool true)], args := [d] }
  | _ => none }
def fnExactRootPeaksRow : OpenClaim := { program := "ytfmjhfodjhkmlaa", sum := "e273b84e5ec46f4384fe5a8078966a1a09a000994d93531d9da61f2cf5260a6e", func := "loop.example/g00895/laws.FnExactRootPeaks", spec := "fnExactRootPeaks", unfollowed := true, recurses := true, apart := false }
def FnExactRootPeaksSaid : Prop := fnExactRootPeaksRow.holds Try.pinned (OpenSpec.ofChange fnExactRootPeaksSpec)

/-- ITS FALSE NEIGHBOUR: 'it returns false'. Refute it at one input. -/
def fnExactRootPeaksWrong : ChangeSpec := { name := "fnExactRootPeaks", fn := fun _ => fun
  | [d] => { results := [.lit (.bool false)], args := [d] }
  | _ => none }
def FnExactRootPeaksWrongFalsely : Prop := fnExactRootPeaksRow.holds Try.pinned (OpenSpec.ofChange fnExactRootPeaksWrong)

/- THE SECOND FORM. 'bulk': how many values and letters a reading holds, each counted each time it is reached (what is shared counts as often as it is met; a slice's spare places count too). A statement '..UptoSaid' is the law's where the arguments, and the package variables that the reading takes, are together of bulk at most 1048576: NARROWER than '..Said'. Prove '..Said' where nothing that the law and all that it calls make is longer than what came in: it says more and counts as full. Else prove '..UptoSaid'. A law counts once. -/
mutual
def uptoBulk {H : Type} : DataW H → Nat
  | .lit (.string bytes) => bytes.length + 1
  | .lit _ => 1
  | .nil => 1
  | .ptr d => uptoBulk d + 1
  | .slice elems spare => uptoBulkAll elems + uptoBulkAll spare + 1
  | .agg parts => uptoBulkAll parts + 1
  | .iface _ d => uptoBulk d + 1
  | .map entries => uptoBulkEntries entries + 1
  | .held _ => 1
def uptoBulkAll {H : Type} : List (DataW H) → Nat
  | [] => 0
  | d :: r => uptoBulk d + uptoBulkAll r
def uptoBulkEntries {H : Type} : List (Lit × DataW H) → Nat
  | [] => 0
  | x :: r => uptoBulkEntry x + uptoBulkEntries r
def uptoBulkEntry {H : Type} : Lit × DataW H → Nat
  | (.string bytes, d) => bytes.length + uptoBulk d + 1
  | (_, d) => uptoBulk d + 1
 end
def uptoSmall : (H : Type) → List (DataW H) → Bool := fun _ ds => decide (uptoBulkAll ds ≤ 1048576)
def OpenSpec.upto (s : _root_.Go.ChangeSpec) : _root_.Go.OpenSpec := { _root_.Go.OpenSpec.ofChange s with cond := some uptoSmall }

/-- 'laws.FnExactOverlapsIn', WHERE WHAT IT READS IS OF BULK AT MOST 1048576: true; the input reads as it did. -/
def fnExactOverlapsInUptoRow : OpenClaim := { program := "ytfmjhfodjhkmlaa", sum := "e273b84e5ec46f4384fe5a8078966a1a09a000994d93531d9da61f2cf5260a6e", func := "loop.example/g00895/laws.FnExactOverlapsIn", spec := "fnExactOverlapsIn", unfollowed := true, recurses := true, apart := false, narrowed := true }
def FnExactOverlapsInUptoSaid : Prop := fnExactOverlapsInUptoRow.holds Try.pinned (OpenSpec.upto fnExactOverlapsInSpec)

/-- 'laws.FnExactPeakAt', WHERE WHAT IT READS IS OF BULK AT MOST 1048576: true; the input reads as it did. -/
def fnExactPeakAtUptoRow : OpenClaim := { program := "ytfmjhfodjhkmlaa", sum := "e273b84e5ec46f4384fe5a8078966a1a09a000994d93531d9da61f2cf5260a6e", func := "loop.example/g00895/laws.FnExactPeakAt", spec := "fnExactPeakAt", unfollowed := true, recurses := true, apart := false, narrowed := true }
def FnExactPeakAtUptoSaid : Prop := fnExactPeakAtUptoRow.holds Try.pinned (OpenSpec.upto fnExactPeakAtSpec)

/-- 'laws.FnExactPeaksOf', WHERE WHAT IT READS IS OF BULK AT MOST 1048576: true; the input reads as it did. -/
def fnExactPeaksOfUptoRow : OpenClaim := { program := "ytfmjhfodjhkmlaa", sum := "e273b84e5ec46f4384fe5a8078966a1a09a000994d93531d9da61f2cf5260a6e", func := "loop.example/g00895/laws.FnExactPeaksOf", spec := "fnExactPeaksOf", unfollowed := true, recurses := true, apart := false, narrowed := true }
def FnExactPeaksOfUptoSaid : Prop := fnExactPeaksOfUptoRow.holds Try.pinned (OpenSpec.upto fnExactPeaksOfSpec)

/-- 'laws.FnExactRootPeaks', WHERE WHAT IT READS IS OF BULK AT MOST 1048576: true; the input reads as it did. -/
def fnExactRootPeaksUptoRow : OpenClaim := { program := "ytfmjhfodjhkmlaa", sum := "e273b84e5ec46f4384fe5a8078966a1a09a000994d93531d9da61f2cf5260a6e", func := "loop.example/g00895/laws.FnExactRootPeaks", spec := "fnExactRootPeaks", unfollowed := true, recurses := true, apart := false, narrowed := true }
def FnExactRootPeaksUptoSaid : Prop := fnExactRootPeaksUptoRow.holds Try.pinned (OpenSpec.upto fnExactRootPeaksSpec)

end Rows
end Go.Proofs.Ytfmjhfodjhkmlaa
