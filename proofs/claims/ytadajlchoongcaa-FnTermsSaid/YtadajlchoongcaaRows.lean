/-
  No cell of these rows narrows 'for every input' (looked for: loops, veiled, ifaces, maps, wideKeys, modest, calm, conditions, laid).
  DERIVED. THE GIVEN ROWS OF THIS SEAT. 12 by the template 'for every input the law returns true; each argument reads behind the call as it read before'; 0 by the template 'total and deterministic' (their statements: YtadajlchoongcaaTotals.lean).
  GIVEN WITH THE SEED: the statements are not yours to turn. If you find one false, say at which input.
  Laid BY PROGRAM, IN A SANDBOX (cutbox-rows.mjs): the forced cells as the released guide's own fill.sh prints them over the translation 5ddb913f485fb922… (all of the seat's roots in one cut). By AI agents, Wed Nov 11 2026. No macro, syntax, notation, axiom, sorry.
-/
import Derived.Test.YtadajlchoongcaaChecked
import GoSem.Claim
import GoSem.ClaimJoined
import GoSem.ClaimMapViews
import Derived.JoinedTies
import Derived.KernelRfl
namespace Go.Proofs.Ytadajlchoongcaa
/- THE CELL 'sum', in the pinned program and in every row, IS THE sha256 OF THE DUMP (.gsa) THAT YtadajlchoongcaaProg.lean LOADS. Nothing in Lean hashes anything: it is a label: what it is worth is what the hold of that sum in a sandbox is worth. -/
noncomputable def Try.pinned : Pinned := { name := "ytadajlchoongcaa", sum := "5ddb913f485fb922170de4bde8b744386bb48b3d69e3abf0ad1af05cd936c005", checked := Try.checked }
namespace Rows
def none {H : Type} : Left H := { results := [], args := [] }

/-- 'laws.FnTerms': WHATEVER THE INPUT: true; the input reads as it did. -/
def fnTermsSpec : ChangeSpec := { name := "fnTerms", fn := fun _ => fun
  | [d] => { results := [.lit (.bool true)], args := [d] }
  | _ => none }
def fnTermsRow : OpenClaim := { program := "ytadajlchoongcaa", sum := "5ddb913f485fb922170de4bde8b744386bb48b3d69e3abf0ad1af05cd936c005", func := "loop.example/g00895/laws.FnTerms", spec := "fnTerms", recurses := true, apart := false }
def FnTermsSaid : Prop := fnTermsRow.holds Try.pinned (OpenSpec.ofChange fnTermsSpec)

/-- ITS FALSE NEIGHBOUR: 'it returns false'. Refute it at one input. -/
def fnTermsWrong : ChangeSpec := { name := "fnTerms", fn := fun _ => fun
  | [d] => { results := [.lit (.bool false)], args := [d] }
  | _ => none }
def FnTermsWrongFalsely : Prop := fnTermsRow.holds Try.pinned (OpenSpec.ofChange fnTermsWrong)

/-- 'laws.FnLess': WHATEVER THE INPUT: true; the input reads as it did. -/
def fnLessSpec : ChangeSpec := { name := "fnLess", fn := fun _ => fun
  | [d] => { results := [.lit (.bool true)], args := [d] }
  | _ => none }
def fnLessRow : OpenClaim := { program := "ytadajlchoongcaa", sum := "5ddb913f485fb922170de4bde8b744386bb48b3d69e3abf0ad1af05cd936c005", func := "loop.example/g00895/laws.FnLess", spec := "fnLess", recurses := true, apart := false }
def FnLessSaid : Prop := fnLessRow.holds Try.pinned (OpenSpec.ofChange fnLessSpec)

/-- ITS FALSE NEIGHBOUR: 'it returns false'. Refute it at one input. -/
def fnLessWrong : ChangeSpec := { name := "fnLess", fn := fun _ => fun
  | [d] => { results := [.lit (.bool false)], args := [d] }
  | _ => none }
def FnLessWrongFalsely : Prop := fnLessRow.holds Try.pinned (OpenSpec.ofChange fnLessWrong)

/-- 'laws.FnExactSigOk': WHATEVER THE INPUT: true; the input reads as it did. -/
def fnExactSigOkSpec : ChangeSpec := { name := "fnExactSigOk", fn := fun _ => fun
  | [d] => { results := [.lit (.bool true)], args := [d] }
  | _ => none }
def fnExactSigOkRow : OpenClaim := { program := "ytadajlchoongcaa", sum := "5ddb913f485fb922170de4bde8b744386bb48b3d69e3abf0ad1af05cd936c005", func := "loop.example/g00895/laws.FnExactSigOk", spec := "fnExactSigOk", apart := false }
def FnExactSigOkSaid : Prop := fnExactSigOkRow.holds Try.pinned (OpenSpec.ofChange fnExactSigOkSpec)

/-- ITS FALSE NEIGHBOUR: 'it returns false'. Refute it at one input. -/
def fnExactSigOkWrong : ChangeSpec := { name := "fnExactSigOk", fn := fun _ => fun
  | [d] => { results := [.lit (.bool false)], args := [d] }
  | _ => none }
def FnExactSigOkWrongFalsely : Prop := fnExactSigOkRow.holds Try.pinned (OpenSpec.ofChange fnExactSigOkWrong)

/-- 'laws.FnExactTermOk': WHATEVER THE INPUT: true; the input reads as it did. -/
def fnExactTermOkSpec : ChangeSpec := { name := "fnExactTermOk", fn := fun _ => fun
  | [d1, d2] => { results := [.lit (.bool true)], args := [d1, d2] }
  | _ => none }
def fnExactTermOkRow : OpenClaim := { program := "ytadajlchoongcaa", sum := "5ddb913f485fb922170de4bde8b744386bb48b3d69e3abf0ad1af05cd936c005", func := "loop.example/g00895/laws.FnExactTermOk", spec := "fnExactTermOk", apart := false }
def FnExactTermOkSaid : Prop := fnExactTermOkRow.holds Try.pinned (OpenSpec.ofChange fnExactTermOkSpec)

/-- ITS FALSE NEIGHBOUR: 'it returns false'. Refute it at one input. -/
def fnExactTermOkWrong : ChangeSpec := { name := "fnExactTermOk", fn := fun _ => fun
  | [d1, d2] => { results := [.lit (.bool false)], args := [d1, d2] }
  | _ => none }
def FnExactTermOkWrongFalsely : Prop := fnExactTermOkRow.holds Try.pinned (OpenSpec.ofChange fnExactTermOkWrong)

/-- 'laws.FnExactEndOf': WHATEVER THE INPUT: true; the input reads as it did. -/
def fnExactEndOfSpec : ChangeSpec := { name := "fnExactEndOf", fn := fun _ => fun
  | [d1, d2, d3] => { results := [.lit (.bool true)], args := [d1, d2, d3] }
  | _ => none }
def fnExactEndOfRow : OpenClaim := { program := "ytadajlchoongcaa", sum := "5ddb913f485fb922170de4bde8b744386bb48b3d69e3abf0ad1af05cd936c005", func := "loop.example/g00895/laws.FnExactEndOf", spec := "fnExactEndOf", apart := false }
def FnExactEndOfSaid : Prop := fnExactEndOfRow.holds Try.pinned (OpenSpec.ofChange fnExactEndOfSpec)

/-- ITS FALSE NEIGHBOUR: 'it returns false'. Refute it at one input. -/
def fnExactEndOfWrong : ChangeSpec := { name := "fnExactEndOf", fn := fun _ => fun
  | [d1, d2, d3] => { results := [.lit (.bool false)], args := [d1, d2, d3] }
  | _ => none }
def FnExactEndOfWrongFalsely : Prop := fnExactEndOfRow.holds Try.pinned (OpenSpec.ofChange fnExactEndOfWrong)

/-- 'laws.FnExactSubAt': WHATEVER THE INPUT: true; the input reads as it did. -/
def fnExactSubAtSpec : ChangeSpec := { name := "fnExactSubAt", fn := fun _ => fun
  | [d1, d2, d3] => { results := [.lit (.bool true)], args := [d1, d2, d3] }
  | _ => none }
def fnExactSubAtRow : OpenClaim := { program := "ytadajlchoongcaa", sum := "5ddb913f485fb922170de4bde8b744386bb48b3d69e3abf0ad1af05cd936c005", func := "loop.example/g00895/laws.FnExactSubAt", spec := "fnExactSubAt", apart := false }
def FnExactSubAtSaid : Prop := fnExactSubAtRow.holds Try.pinned (OpenSpec.ofChange fnExactSubAtSpec)

/-- ITS FALSE NEIGHBOUR: 'it returns false'. Refute it at one input. -/
def fnExactSubAtWrong : ChangeSpec := { name := "fnExactSubAt", fn := fun _ => fun
  | [d1, d2, d3] => { results := [.lit (.bool false)], args := [d1, d2, d3] }
  | _ => none }
def FnExactSubAtWrongFalsely : Prop := fnExactSubAtRow.holds Try.pinned (OpenSpec.ofChange fnExactSubAtWrong)

/-- 'laws.FnExactArgsAt': WHATEVER THE INPUT: true; the input reads as it did. -/
def fnExactArgsAtSpec : ChangeSpec := { name := "fnExactArgsAt", fn := fun _ => fun
  | [d1, d2, d3] => { results := [.lit (.bool true)], args := [d1, d2, d3] }
  | _ => none }
def fnExactArgsAtRow : OpenClaim := { program := "ytadajlchoongcaa", sum := "5ddb913f485fb922170de4bde8b744386bb48b3d69e3abf0ad1af05cd936c005", func := "loop.example/g00895/laws.FnExactArgsAt", spec := "fnExactArgsAt", apart := false }
def FnExactArgsAtSaid : Prop := fnExactArgsAtRow.holds Try.pinned (OpenSpec.ofChange fnExactArgsAtSpec)

/-- ITS FALSE NEIGHBOUR: 'it returns false'. Refute it at one input. -/
def fnExactArgsAtWrong : ChangeSpec := { name := "fnExactArgsAt", fn := fun _ => fun
  | [d1, d2, d3] => { results := [.lit (.bool false)], args := [d1, d2, d3] }
  | _ => none }
def FnExactArgsAtWrongFalsely : Prop := fnExactArgsAtRow.holds Try.pinned (OpenSpec.ofChange fnExactArgsAtWrong)

/-- 'laws.FnExactDepthOf': WHATEVER THE INPUT: true; the input reads as it did. -/
def fnExactDepthOfSpec : ChangeSpec := { name := "fnExactDepthOf", fn := fun _ => fun
  | [d1, d2] => { results := [.lit (.bool true)], args := [d1, d2] }
  | _ => none }
def fnExactDepthOfRow : OpenClaim := { program := "ytadajlchoongcaa", sum := "5ddb913f485fb922170de4bde8b744386bb48b3d69e3abf0ad1af05cd936c005", func := "loop.example/g00895/laws.FnExactDepthOf", spec := "fnExactDepthOf", recurses := true, apart := false }
def FnExactDepthOfSaid : Prop := fnExactDepthOfRow.holds Try.pinned (OpenSpec.ofChange fnExactDepthOfSpec)

/-- ITS FALSE NEIGHBOUR: 'it returns false'. Refute it at one input. -/
def fnExactDepthOfWrong : ChangeSpec := { name := "fnExactDepthOf", fn := fun _ => fun
  | [d1, d2] => { results := [.lit (.bool false)], args := [d1, d2] }
  | _ => none }
def FnExactDepthOfWrongFalsely : Prop := fnExactDepthOfRow.holds Try.pinned (OpenSpec.ofChange fnExactDepthOfWrong)

/-- 'laws.FnExactSymPlaces': WHATEVER THE INPUT: true; the input reads as it did. -/
def fnExactSymPlacesSpec : ChangeSpec := { name := "fnExactSymPlaces", fn := fun _ => fun
  | [d1, d2] => { results := [.lit (.bool true)], args := [d1, d2] }
  | _ => none }
def fnExactSymPlacesRow : OpenClaim := { program := "ytadajlchoongcaa", sum := "5ddb913f485fb922170de4bde8b744386bb48b3d69e3abf0ad1af05cd936c005", func := "loop.example/g00895/laws.FnExactSymPlaces", spec := "fnExactSymPlaces", apart := false }
def FnExactSymPlacesSaid : Prop := fnExactSymPlacesRow.holds Try.pinned (OpenSpec.ofChange fnExactSymPlacesSpec)

/-- ITS FALSE NEIGHBOUR: 'it returns false'. Refute it at one input. -/
def fnExactSymPlacesWrong : ChangeSpec := { name := "fnExactSymPlaces", fn := fun _ => fun
  | [d1, d2] => { results := [.lit (.bool false)], args := [d1, d2] }
  | _ => none }
def FnExactSymPlacesWrongFalsely : Prop := fnExactSymPlacesRow.holds Try.pinned (OpenSpec.ofChange fnExactSymPlacesWrong)

/-- 'laws.FnExactCountOf': WHATEVER THE INPUT: true; the input reads as it did. -/
def fnExactCountOfSpec : ChangeSpec := { name := "fnExactCountOf", fn := fun _ => fun
  | [d1, d2, d3] => { results := [.lit (.bool true)], args := [d1, d2, d3] }
  | _ => none }
def fnExactCountOfRow : OpenClaim := { program := "ytadajlchoongcaa", sum := "5ddb913f485fb922170de4bde8b744386bb48b3d69e3abf0ad1af05cd936c005", func := "loop.example/g00895/laws.FnExactCountOf", spec := "fnExactCountOf", apart := false }
def FnExactCountOfSaid : Prop := fnExactCountOfRow.holds Try.pinned (OpenSpec.ofChange fnExactCountOfSpec)

/-- ITS FALSE NEIGHBOUR: 'it returns false'. Refute it at one input. -/
def fnExactCountOfWrong : ChangeSpec := { name := "fnExactCountOf", fn := fun _ => fun
  | [d1, d2, d3] => { results := [.lit (.bool false)], args := [d1, d2, d3] }
  | _ => none }
def FnExactCountOfWrongFalsely : Prop := fnExactCountOfRow.holds Try.pinned (OpenSpec.ofChange fnExactCountOfWrong)

/-- 'laws.FnExactSameTerm': WHATEVER THE INPUT: true; the input reads as it did. -/
def fnExactSameTermSpec : ChangeSpec := { name := "fnExactSameTerm", fn := fun _ => fun
  | [d1, d2] => { results := [.lit (.bool true)], args := [d1, d2] }
  | _ => none }
def fnExactSameTermRow : OpenClaim := { program := "ytadajlchoongcaa", sum := "5ddb913f485fb922170de4bde8b744386bb48b3d69e3abf0ad1af05cd936c005", func := "loop.example/g00895/laws.FnExactSameTerm", spec := "fnExactSameTerm", apart := false }
def FnExactSameTermSaid : Prop := fnExactSameTermRow.holds Try.pinned (OpenSpec.ofChange fnExactSameTermSpec)

/-- ITS FALSE NEIGHBOUR: 'it returns false'. Refute it at one input. -/
def fnExactSameTermWrong : ChangeSpec := { name := "fnExactSameTerm", fn := fun _ => fun
  | [d1, d2] => { results := [.lit (.bool false)], args := [d1, d2] }
  | _ => none }
def FnExactSameTermWrongFalsely : Prop := fnExactSameTermRow.holds Try.pinned (OpenSpec.ofChange fnExactSameTermWrong)

/-- 'laws.FnExactLessTerm': WHATEVER THE INPUT: true; the input reads as it did. -/
def fnExactLessTermSpec : ChangeSpec := { name := "fnExactLessTerm", fn := fun _ => fun
  | [d1, d2] => { results := [.lit (.bool true)], args := [d1, d2] }
  | _ => none }
def fnExactLessTermRow : OpenClaim := { program := "ytadajlchoongcaa", sum := "5ddb913f485fb922170de4bde8b744386bb48b3d69e3abf0ad1af05cd936c005", func := "loop.example/g00895/laws.FnExactLessTerm", spec := "fnExactLessTerm", apart := false }
def FnExactLessTermSaid : Prop := fnExactLessTermRow.holds Try.pinned (OpenSpec.ofChange fnExactLessTermSpec)

/-- ITS FALSE NEIGHBOUR: 'it returns false'. Refute it at one input. -/
def fnExactLessTermWrong : ChangeSpec := { name := "fnExactLessTerm", fn := fun _ => fun
  | [d1, d2] => { results := [.lit (.bool false)], args := [d1, d2] }
  | _ => none }
def FnExactLessTermWrongFalsely : Prop := fnExactLessTermRow.holds Try.pinned (OpenSpec.ofChange fnExactLessTermWrong)

/- THE SECOND FORM. 'bulk': how many values and letters a reading holds, each counted each time it is reached (what is shared counts as often as it is met; a slice's spare places count too). A statement '..UptoSaid' is the law's where the arguments, and the package variables that the reading takes, are together of bulk at most 1048576: NARROWER than '..Said'. Prove '..Said' where nothing that the law and all that it calls make is longer than what came in: it says more and counts as full. Else prove '..UptoSaid'. A law counts once. -/
mutual
def uptoBulk {H : Type} : DataW H → Nat
  | .lit (.string bytes) => bytes.length + 1
  | .lit _ => 1
  | .nil => 1
  | .ptr d => uptoBulk d + 1
  | .slice elems spare => uptoBulkAll elems + uptoBulkAll spare + 1
  | .agg parts => uptoBulkAll parts + 1
  | .iface _ d => uptoBulk d + 1
  | .map entries => uptoBulkEntries entries + 1
  | .held _ => 1
def uptoBulkAll {H : Type} : List (DataW H) → Nat
  | [] => 0
  | d :: r => uptoBulk d + uptoBulkAll r
def uptoBulkEntries {H : Type} : List (Lit × DataW H) → Nat
  | [] => 0
  | x :: r => uptoBulkEntry x + uptoBulkEntries r
def uptoBulkEntry {H : Type} : Lit × DataW H → Nat
  | (.string bytes, d) => bytes.length + uptoBulk d + 1
  | (_, d) => uptoBulk d + 1
 end
def uptoSmall : (H : Type) → List (DataW H) → Bool := fun _ ds => decide (uptoBulkAll ds ≤ 1048576)
def OpenSpec.upto (s : _root_.Go.ChangeSpec) : _root_.Go.OpenSpec := { _root_.Go.OpenSpec.ofChange s with cond := some uptoSmall }

/-- 'laws.FnTerms', WHERE WHAT IT READS IS OF BULK AT MOST 1048576: true; the input reads as it did. -/
def fnTermsUptoRow : OpenClaim := { program := "ytadajlchoongcaa", sum := "5ddb913f485fb922170de4bde8b744386bb48b3d69e3abf0ad1af05cd936c005", func := "loop.example/g00895/laws.FnTerms", spec := "fnTerms", recurses := true, apart := false, narrowed := true }
def FnTermsUptoSaid : Prop := fnTermsUptoRow.holds Try.pinned (OpenSpec.upto fnTermsSpec)

/-- 'laws.FnLess', WHERE WHAT IT READS IS OF BULK AT MOST 1048576: true; the input reads as it did. -/
def fnLessUptoRow : OpenClaim := { program := "ytadajlchoongcaa", sum := "5ddb913f485fb922170de4bde8b744386bb48b3d69e3abf0ad1af05cd936c005", func := "loop.example/g00895/laws.FnLess", spec := "fnLess", recurses := true, apart := false, narrowed := true }
def FnLessUptoSaid : Prop := fnLessUptoRow.holds Try.pinned (OpenSpec.upto fnLessSpec)

/-- 'laws.FnExactSigOk', WHERE WHAT IT READS IS OF BULK AT MOST 1048576: true; the input reads as it did. -/
def fnExactSigOkUptoRow : OpenClaim := { program := "ytadajlchoongcaa", sum := "5ddb913f485fb922170de4bde8b744386bb48b3d69e3abf0ad1af05cd936c005", func := "loop.example/g00895/laws.FnExactSigOk", spec := "fnExactSigOk", apart := false, narrowed := true }
def FnExactSigOkUptoSaid : Prop := fnExactSigOkUptoRow.holds Try.pinned (OpenSpec.upto fnExactSigOkSpec)

/-- 'laws.FnExactTermOk', WHERE WHAT IT READS IS OF BULK AT MOST 1048576: true; the input reads as it did. -/
def fnExactTermOkUptoRow : OpenClaim := { program := "ytadajlchoongcaa", sum := "5ddb913f485fb922170de4bde8b744386bb48b3d69e3abf0ad1af05cd936c005", func := "loop.example/g00895/laws.FnExactTermOk", spec := "fnExactTermOk", apart := false, narrowed := true }
def FnExactTermOkUptoSaid : Prop := fnExactTermOkUptoRow.holds Try.pinned (OpenSpec.upto fnExactTermOkSpec)

/-- 'laws.FnExactEndOf', WHERE WHAT IT READS IS OF BULK AT MOST 1048576: true; the input reads as it did. -/
def fnExactEndOfUptoRow : OpenClaim := { program := "ytadajlchoongcaa", sum := "5ddb913f485fb922170de4bde8b744386bb48b3d69e3abf0ad1af05cd936c005", func := "loop.example/g00895/laws.FnExactEndOf", spec := "fnExactEndOf", apart := false, narrowed := true }
def FnExactEndOfUptoSaid : Prop := fnExactEndOfUptoRow.holds Try.pinned (OpenSpec.upto fnExactEndOfSpec)

/-- 'laws.FnExactSubAt', WHERE WHAT IT READS IS OF BULK AT MOST 1048576: true; the input reads as it did. -/
def fnExactSubAtUptoRow : OpenClaim := { program := "ytadajlchoongcaa", sum := "5ddb913f485fb922170de4bde8b744386bb48b3d69e3abf0ad1af05cd936c005", func := "loop.example/g00895/laws.FnExactSubAt", spec := "fnExactSubAt", apart := false, narrowed := true }
def FnExactSubAtUptoSaid : Prop := fnExactSubAtUptoRow.holds Try.pinned (OpenSpec.upto fnExactSubAtSpec)

/-- 'laws.FnExactArgsAt', WHERE WHAT IT READS IS OF BULK AT MOST 1048576: true; the input reads as it did. -/
def fnExactArgsAtUptoRow : OpenClaim := { program := "ytadajlchoongcaa", sum := "5ddb913f485fb922170de4bde8b744386bb48b3d69e3abf0ad1af05cd936c005", func := "loop.example/g00895/laws.FnExactArgsAt", spec := "fnExactArgsAt", apart := false, narrowed := true }
def FnExactArgsAtUptoSaid : Prop := fnExactArgsAtUptoRow.holds Try.pinned (OpenSpec.upto fnExactArgsAtSpec)

/-- 'laws.FnExactDepthOf', WHERE WHAT IT READS IS OF BULK AT MOST 1048576: true; the input reads as it did. -/
def fnExactDepthOfUptoRow : OpenClaim := { program := "ytadajlchoongcaa", sum := "5ddb913f485fb922170de4bde8b744386bb48b3d69e3abf0ad1af05cd936c005", func := "loop.example/g00895/laws.FnExactDepthOf", spec := "fnExactDepthOf", recurses := true, apart := false, narrowed := true }
def FnExactDepthOfUptoSaid : Prop := fnExactDepthOfUptoRow.holds Try.pinned (OpenSpec.upto fnExactDepthOfSpec)

/-- 'laws.FnExactSymPlaces', WHERE WHAT IT READS IS OF BULK AT MOST 1048576: true; the input reads as it did. -/
def fnExactSymPlacesUptoRow : OpenClaim := { program := "ytadajlchoongcaa", sum := "5ddb913f485fb922170de4bde8b744386bb48b3d69e3abf0ad1af05cd936c005", func := "loop.example/g00895/laws.FnExactSymPlaces", spec := "fnExactSymPlaces", apart := false, narrowed := true }
def FnExactSymPlacesUptoSaid : Prop := fnExactSymPlacesUptoRow.holds Try.pinned (OpenSpec.upto fnExactSymPlacesSpec)

/-- 'laws.FnExactCountOf', WHERE WHAT IT READS IS OF BULK AT MOST 1048576: true; the input reads as it did. -/
def fnExactCountOfUptoRow : OpenClaim := { program := "ytadajlchoongcaa", sum := "5ddb913f485fb922170de4bde8b744386bb48b3d69e3abf0ad1af05cd936c005", func := "loop.example/g00895/laws.FnExactCountOf", spec := "fnExactCountOf", apart := false, narrowed := true }
def FnExactCountOfUptoSaid : Prop := fnExactCountOfUptoRow.holds Try.pinned (OpenSpec.upto fnExactCountOfSpec)

/-- 'laws.FnExactSameTerm', WHERE WHAT IT READS IS OF BULK AT MOST 1048576: true; the input reads as it did. -/
def fnExactSameTermUptoRow : OpenClaim := { program := "ytadajlchoongcaa", sum := "5ddb913f485fb922170de4bde8b744386bb48b3d69e3abf0ad1af05cd936c005", func := "loop.example/g00895/laws.FnExactSameTerm", spec := "fnExactSameTerm", apart := false, narrowed := true }
def FnExactSameTermUptoSaid : Prop := fnExactSameTermUptoRow.holds Try.pinned (OpenSpec.upto fnExactSameTermSpec)

/-- 'laws.FnExactLessTerm', WHERE WHAT IT READS IS OF BULK AT MOST 1048576: true; the input reads as it did. -/
def fnExactLessTermUptoRow : OpenClaim := { program := "ytadajlchoongcaa", sum := "5ddb913f485fb922170de4bde8b744386bb48b3d69e3abf0ad1af05cd936c005", func := "loop.example/g00895/laws.FnExactLessTerm", spec := "fnExactLessTerm", apart := false, narrowed := true }
def FnExactLessTermUptoSaid : Prop := fnExactLessTermUptoRow.holds Try.pinned (OpenSpec.upto fnExactLessTermSpec)

end Rows
end Go.Proofs.Ytadajlchoongcaa
