/-
  No cell of these rows narrows 'for every input' (looked for: loops, veiled, ifaces, maps, wideKeys, modest, calm, conditions, laid).
  DERIVED. THE GIVEN ROWS OF THIS SEAT. 12 by the template 'for every input the law returns true; each argument reads behind the call as it read before'; 0 by the template 'total and deterministic' (their statements: YtdkjafjphgcbjaaTotals.lean).
  GIVEN WITH THE SEED: the statements are not yours to turn. If you find one false, say at which input.
  Laid BY PROGRAM, IN A SANDBOX (cutbox-rows.mjs): the forced cells as the released guide's own fill.sh prints them over the translation 8dbf0f4f79263d7d… (all of the seat's roots in one cut). By AI agents, Wed Nov 11 2026. No macro, syntax, notation, axiom, sorry.
-/
import Derived.Test.YtdkjafjphgcbjaaChecked
import GoSem.Claim
import GoSem.ClaimJoined
import GoSem.ClaimMapViews
import Derived.JoinedTies
import Derived.KernelRfl
namespace Go.Proofs.Ytdkjafjphgcbjaa
/- THE CELL 'sum', in the pinned program and in every row, IS THE sha256 OF THE DUMP (.gsa) THAT YtdkjafjphgcbjaaProg.lean LOADS. Nothing in Lean hashes anything: it is a label: what it is worth is what the hold of that sum in a sandbox is worth. -/
noncomputable def Try.pinned : Pinned := { name := "ytdkjafjphgcbjaa", sum := "8dbf0f4f79263d7dd6dccc97a195e667cfeb1dd9e196746f18390a30c66f0a78", checked := Try.checked }
namespace Rows
def none {H : Type} : Left H := { results := [], args := [] }

/-- 'laws.FnDefined': WHATEVER THE INPUT: true; the input reads as it did. -/
def fnDefinedSpec : ChangeSpec := { name := "fnDefined", fn := fun _ => fun
  | [d] => { results := [.lit (.bool true)], args := [d] }
  | _ => none }
def fnDefinedRow : OpenClaim := { program := "ytdkjafjphgcbjaa", sum := "8dbf0f4f79263d7dd6dccc97a195e667cfeb1dd9e196746f18390a30c66f0a78", func := "loop.example/g00895/laws.FnDefined", spec := "fnDefined", unfollowed := true, recurses := true, apart := false }
def FnDefinedSaid : Prop := fnDefinedRow.holds Try.pinned (OpenSpec.ofChange fnDefinedSpec)

/-- ITS FALSE NEIGHBOUR: 'it returns false'. Refute it at one input. -/
def fnDefinedWrong : ChangeSpec := { name := "fnDefined", fn := fun _ => fun
  | [d] => { results := [.lit (.bool false)], args := [d] }
  | _ => none }
def FnDefinedWrongFalsely : Prop := fnDefinedRow.holds Try.pinned (OpenSpec.ofChange fnDefinedWrong)

/-- 'laws.FnForms': WHATEVER THE INPUT: true; the input reads as it did. -/
def fnFormsSpec : ChangeSpec := { name := "fnForms", fn := fun _ => fun
  | [d] => { results := [.lit (.bool true)], args := [d] }
  | _ => none }
def fnFormsRow : OpenClaim := { program := "ytdkjafjphgcbjaa", sum := "8dbf0f4f79263d7dd6dccc97a195e667cfeb1dd9e196746f18390a30c66f0a78", func := "loop.example/g00895/laws.FnForms", spec := "fnForms", unfollowed := true, recurses := true, apart := false }
def FnFormsSaid : Prop := fnFormsRow.holds Try.pinned (OpenSpec.ofChange fnFormsSpec)

/-- ITS FALSE NEIGHBOUR: 'it returns false'. Refute it at one input. -/
def fnFormsWrong : ChangeSpec := { name := "fnForms", fn := fun _ => fun
  | [d] => { results := [.lit (.bool false)], args := [d] }
  | _ => none }
def FnFormsWrongFalsely : Prop := fnFormsRow.holds Try.pinned (OpenSpec.ofChange fnFormsWrong)

/-- 'laws.FnExactRuleOk': WHATEVER THE INPUT: true; the input reads as it did. -/
def fnExactRuleOkSpec : ChangeSpec := { name := "fnExactRuleOk", fn := fun _ => fun
  | [d1, d2] => { results := [.lit (.bool true)], args := [d1, d2] }
  | _ => none }
def fnExactRuleOkRow : OpenClaim := { program := "ytdkjafjphgcbjaa", sum := "8dbf0f4f79263d7dd6dccc97a195e667cfeb1dd9e196746f18390a30c66f0a78", func := "loop.example/g00895/laws.FnExactRuleOk", spec := "fnExactRuleOk", unfollowed := true, recurses := true, apart := false }
def FnExactRuleOkSaid : Prop := fnExactRuleOkRow.holds Try.pinned (OpenSpec.ofChange fnExactRuleOkSpec)

/-- ITS FALSE NEIGHBOUR: 'it returns false'. Refute it at one input. -/
def fnExactRuleOkWrong : ChangeSpec := { name := "fnExactRuleOk", fn := fun _ => fun
  | [d1, d2] => { results := [.lit (.bool false)], args := [d1, d2] }
  | _ => none }
def FnExactRuleOkWrongFalsely : Prop := fnExactRuleOkRow.holds Try.pinned (OpenSpec.ofChange fnExactRuleOkWrong)

/-- 'laws.FnExactSystemOk': WHATEVER THE INPUT: true; the input reads as it did. -/
def fnExactSystemOkSpec : ChangeSpec := { name := "fnExactSystemOk", fn := fun _ => fun
  | [d] => { results := [.lit (.bool true)], args := [d] }
  | _ => none }
def fnExactSystemOkRow : OpenClaim := { program := "ytdkjafjphgcbjaa", sum := "8dbf0f4f79263d7dd6dccc97a195e667cfeb1dd9e196746f18390a30c66f0a78", func := "loop.example/g00895/laws.FnExactSystemOk", spec := "fnExactSystemOk", unfollowed := true, recurses := true, apart := false }
def FnExactSystemOkSaid : Prop := fnExactSystemOkRow.holds Try.pinned (OpenSpec.ofChange fnExactSystemOkSpec)

/-- ITS FALSE NEIGHBOUR: 'it returns false'. Refute it at one input. -/
def fnExactSystemOkWrong : ChangeSpec := { name := "fnExactSystemOk", fn := fun _ => fun
  | [d] => { results := [.lit (.bool false)], args := [d] }
  | _ => none }
def FnExactSystemOkWrongFalsely : Prop := fnExactSystemOkRow.holds Try.pinned (OpenSpec.ofChange fnExactSystemOkWrong)

/-- 'laws.FnExactSameSystem': WHATEVER THE INPUT: true; the input reads as it did. -/
def fnExactSameSystemSpec : ChangeSpec := { name := "fnExactSameSystem", fn := fun _ => fun
  | [d1, d2] => { results := [.lit (.bool true)], args := [d1, d2] }
  | _ => none }
def fnExactSameSystemRow : OpenClaim := { program := "ytdkjafjphgcbjaa", sum := "8dbf0f4f79263d7dd6dccc97a195e667cfeb1dd9e196746f18390a30c66f0a78", func := "loop.example/g00895/laws.FnExactSameSystem", spec := "fnExactSameSystem", unfollowed := true, recurses := true, apart := false }
def FnExactSameSystemSaid : Prop := fnExactSameSystemRow.holds Try.pinned (OpenSpec.ofChange fnExactSameSystemSpec)

/-- ITS FALSE NEIGHBOUR: 'it returns false'. Refute it at one input. -/
def fnExactSameSystemWrong : ChangeSpec := { name := "fnExactSameSystem", fn := fun _ => fun
  | [d1, d2] => { results := [.lit (.bool false)], args := [d1, d2] }
  | _ => none }
def FnExactSameSystemWrongFalsely : Prop := fnExactSameSystemRow.holds Try.pinned (OpenSpec.ofChange fnExactSameSystemWrong)

/-- 'laws.FnExactLeftLinearIn': WHATEVER THE INPUT: true; the input reads as it did. -/
def fnExactLeftLinearInSpec : ChangeSpec := { name := "fnExactLeftLinearIn", fn := fun _ => fun
  | [d] => { results := [.lit (.bool true)], args := [d] }
  | _ => none }
def fnExactLeftLinearInRow : OpenClaim := { program := "ytdkjafjphgcbjaa", sum := "8dbf0f4f79263d7dd6dccc97a195e667cfeb1dd9e196746f18390a30c66f0a78", func := "loop.example/g00895/laws.FnExactLeftLinearIn", spec := "fnExactLeftLinearIn", unfollowed := true, recurses := true, apart := false }
def FnExactLeftLinearInSaid : Prop := fnExactLeftLinearInRow.holds Try.pinned (OpenSpec.ofChange fnExactLeftLinearInSpec)

/-- ITS FALSE NEIGHBOUR: 'it returns false'. Refute it at one input. -/
def fnExactLeftLinearInWrong : ChangeSpec := { name := "fnExactLeftLinearIn", fn := fun _ => fun
  | [d] => { results := [.lit (.bool false)], args := [d] }
  | _ => none }
def FnExactLeftLinearInWrongFalsely : Prop := fnExactLeftLinearInRow.holds Try.pinned (OpenSpec.ofChange fnExactLeftLinearInWrong)

/-- 'laws.FnExactCollapsingIn': WHATEVER THE INPUT: true; the input reads as it did. -/
def fnExactCollapsingInSpec : ChangeSpec := { name := "fnExactCollapsingIn", fn := fun _ => fun
  | [d] => { results := [.lit (.bool true)], args := [d] }
  | _ => none }
def fnExactCollapsingInRow : OpenClaim := { program := "ytdkjafjphgcbjaa", sum := "8dbf0f4f79263d7dd6dccc97a195e667cfeb1dd9e196746f18390a30c66f0a78", func := "loop.example/g00895/laws.FnExactCollapsingIn", spec := "fnExactCollapsingIn", unfollowed := true, recurses := true, apart := false }
def FnExactCollapsingInSaid : Prop := fnExactCollapsingInRow.holds Try.pinned (OpenSpec.ofChange fnExactCollapsingInSpec)

/-- ITS FALSE NEIGHBOUR: 'it returns false'. Refute it at one input. -/
def fnExactCollapsingInWrong : ChangeSpec := { name := "fnExactCollapsingIn", fn := fun _ => fun
  | [d] => { results := [.lit (.bool false)], args := [d] }
  | _ => none }
def FnExactCollapsingInWrongFalsely : Prop := fnExactCollapsingInRow.holds Try.pinned (OpenSpec.ofChange fnExactCollapsingInWrong)

/-- 'laws.FnExactDuplicatingIn': WHATEVER THE INPUT: true; the input reads as it did. -/
def fnExactDuplicatingInSpec : ChangeSpec := { name := "fnExactDuplicatingIn", fn := fun _ => fun
  | [d] => { results := [.lit (.bool true)], args := [d] }
  | _ => none }
def fnExactDuplicatingInRow : OpenClaim := { program := "ytdkjafjphgcbjaa", sum := "8dbf0f4f79263d7dd6dccc97a195e667cfeb1dd9e196746f18390a30c66f0a78", func := "loop.example/g00895/laws.FnExactDuplicatingIn", spec := "fnExactDuplicatingIn", unfollowed := true, recurses := true, apart := false }
def FnExactDuplicatingInSaid : Prop := fnExactDuplicatingInRow.holds Try.pinned (OpenSpec.ofChange fnExactDuplicatingInSpec)

/-- ITS FALSE NEIGHBOUR: 'it returns false'. Refute it at one input. -/
def fnExactDuplicatingInWrong : ChangeSpec := { name := "fnExactDuplicatingIn", fn := fun _ => fun
  | [d] => { results := [.lit (.bool false)], args := [d] }
  | _ => none }
def FnExactDuplicatingInWrongFalsely : Prop := fnExactDuplicatingInRow.holds Try.pinned (OpenSpec.ofChange fnExactDuplicatingInWrong)

/-- 'laws.FnExactDefinedIn': WHATEVER THE INPUT: true; the input reads as it did. -/
def fnExactDefinedInSpec : ChangeSpec := { name := "fnExactDefinedIn", fn := fun _ => fun
  | [d] => { results := [.lit (.bool true)], args := [d] }
  | _ => none }
def fnExactDefinedInRow : OpenClaim := { program := "ytdkjafjphgcbjaa", sum := "8dbf0f4f79263d7dd6dccc97a195e667cfeb1dd9e196746f18390a30c66f0a78", func := "loop.example/g00895/laws.FnExactDefinedIn", spec := "fnExactDefinedIn", unfollowed := true, recurses := true, apart := false }
def FnExactDefinedInSaid : Prop := fnExactDefinedInRow.holds Try.pinned (OpenSpec.ofChange fnExactDefinedInSpec)

/-- ITS FALSE NEIGHBOUR: 'it returns false'. Refute it at one input. -/
def fnExactDefinedInWrong : ChangeSpec := { name := "fnExactDefinedIn", fn := fun _ => fun
  | [d] => { results := [.lit (.bool false)], args := [d] }
  | _ => none }
def FnExactDefinedInWrongFalsely : Prop := fnExactDefinedInRow.holds Try.pinned (OpenSpec.ofChange fnExactDefinedInWrong)

/-- 'laws.FnExactConstructorsIn': WHATEVER THE INPUT: true; the input reads as it did. -/
def fnExactConstructorsInSpec : ChangeSpec := { name := "fnExactConstructorsIn", fn := fun _ => fun
  | [d] => { results := [.lit (.bool true)], args := [d] }
  | _ => none }
def fnExactConstructorsInRow : OpenClaim := { program := "ytdkjafjphgcbjaa", sum := "8dbf0f4f79263d7dd6dccc97a195e667cfeb1dd9e196746f18390a30c66f0a78", func := "loop.example/g00895/laws.FnExactConstructorsIn", spec := "fnExactConstructorsIn", unfollowed := true, recurses := true, apart := false }
def FnExactConstructorsInSaid : Prop := fnExactConstructorsInRow.holds Try.pinned (OpenSpec.ofChange fnExactConstructorsInSpec)

/-- ITS FALSE NEIGHBOUR: 'it returns false'. Refute it at one input. -/
def fnExactConstructorsInWrong : ChangeSpec := { name := "fnExactConstructorsIn", fn := fun _ => fun
  | [d] => { results := [.lit (.bool false)], args := [d] }
  | _ => none }
def FnExactConstructorsInWrongFalsely : Prop := fnExactConstructorsInRow.holds Try.pinned (OpenSpec.ofChange fnExactConstructorsInWrong)

/-- 'laws.FnExactConstructorSystem': WHATEVER THE INPUT: true; the input reads as it did. -/
def fnExactConstructorSystemSpec : ChangeSpec := { name := "fnExactConstructorSystem", fn := fun _ => fun
  | [d] => { results := [.lit (.bool true)], args := [d] }
  | _ => none }
def fnExactConstructorSystemRow : OpenClaim := { program := "ytdkjafjphgcbjaa", sum := "8dbf0f4f79263d7dd6dccc97a195e667cfeb1dd9e196746f18390a30c66f0a78", func := "loop.example/g00895/laws.FnExactConstructorSystem", spec := "fnExactConstructorSystem", unfollowed := true, recurses := true, apart := false }
def FnExactConstructorSystemSaid : Prop := fnExactConstructorSystemRow.holds Try.pinned (OpenSpec.ofChange fnExactConstructorSystemSpec)

/-- ITS FALSE NEIGHBOUR: 'it returns false'. Refute it at one input. -/
def fnExactConstructorSystemWrong : ChangeSpec := { name := "fnExactConstructorSystem", fn := fun _ => fun
  | [d] => { results := [.lit (.bool false)], args := [d] }
  | _ => none }
def FnExactConstructorSystemWrongFalsely : Prop := fnExactConstructorSystemRow.holds Try.pinned (OpenSpec.ofChange fnExactConstructorSystemWrong)

/-- 'laws.FnExactRenamedRule': WHATEVER THE INPUT: true; the input reads as it did. -/
def fnExactRenamedRuleSpec : ChangeSpec := { name := "fnExactRenamedRule", fn := fun _ => fun
  | [d1, d2] => { results := [.lit (.bool true)], args := [d1, d2] }
  | _ => none }
def fnExactRenamedRuleRow : OpenClaim := { program := "ytdkjafjphgcbjaa", sum := "8dbf0f4f79263d7dd6dccc97a195e667cfeb1dd9e196746f18390a30c66f0a78", func := "loop.example/g00895/laws.FnExactRenamedRule", spec := "fnExactRenamedRule", unfollowed := true, recurses := true, apart := false }
def FnExactRenamedRuleSaid : Prop := fnExactRenamedRuleRow.holds Try.pinned (OpenSpec.ofChange fnExactRenamedRuleSpec)

/-- ITS FALSE NEIGHBOUR: 'it returns false'. Refute it at one input. -/
def fnExactRenamedRuleWrong : ChangeSpec := { name := "fnExactRenamedRule", fn := fun _ => fun
  | [d1, d2] => { results := [.lit (.bool false)], args := [d1, d2] }
  | _ => none }
def FnExactRenamedRuleWrongFalsely : Prop := fnExactRenamedRuleRow.holds Try.pinned (OpenSpec.ofChange fnExactRenamedRuleWrong)

/- THE SECOND FORM. 'bulk': how many values and letters a reading holds, each counted each time it is reached (what is shared counts as often as it is met; a slice's spare places count too). A statement '..UptoSaid' is the law's where the arguments, and the package variables that the reading takes, are together of bulk at most 1048576: NARROWER than '..Said'. Prove '..Said' where nothing that the law and all that it calls make is longer than what came in: it says more and counts as full. Else prove '..UptoSaid'. A law counts once. -/
mutual
def uptoBulk {H : Type} : DataW H → Nat
  | .lit (.string bytes) => bytes.length + 1
  | .lit _ => 1
  | .nil => 1
  | .ptr d => uptoBulk d + 1
  | .slice elems spare => uptoBulkAll elems + uptoBulkAll spare + 1
  | .agg parts => uptoBulkAll parts + 1
  | .iface _ d => uptoBulk d + 1
  | .map entries => uptoBulkEntries entries + 1
  | .held _ => 1
def uptoBulkAll {H : Type} : List (DataW H) → Nat
  | [] => 0
  | d :: r => uptoBulk d + uptoBulkAll r
def uptoBulkEntries {H : Type} : List (Lit × DataW H) → Nat
  | [] => 0
  | x :: r => uptoBulkEntry x + uptoBulkEntries r
def uptoBulkEntry {H : Type} : Lit × DataW H → Nat
  | (.string bytes, d) => bytes.length + uptoBulk d + 1
  | (_, d) => uptoBulk d + 1
 end
def uptoSmall : (H : Type) → List (DataW H) → Bool := fun _ ds => decide (uptoBulkAll ds ≤ 1048576)
def OpenSpec.upto (s : _root_.Go.ChangeSpec) : _root_.Go.OpenSpec := { _root_.Go.OpenSpec.ofChange s with cond := some uptoSmall }

/-- 'laws.FnDefined', WHERE WHAT IT READS IS OF BULK AT MOST 1048576: true; the input reads as it did. -/
def fnDefinedUptoRow : OpenClaim := { program := "ytdkjafjphgcbjaa", sum := "8dbf0f4f79263d7dd6dccc97a195e667cfeb1dd9e196746f18390a30c66f0a78", func := "loop.example/g00895/laws.FnDefined", spec := "fnDefined", unfollowed := true, recurses := true, apart := false, narrowed := true }
def FnDefinedUptoSaid : Prop := fnDefinedUptoRow.holds Try.pinned (OpenSpec.upto fnDefinedSpec)

/-- 'laws.FnForms', WHERE WHAT IT READS IS OF BULK AT MOST 1048576: true; the input reads as it did. -/
def fnFormsUptoRow : OpenClaim := { program := "ytdkjafjphgcbjaa", sum := "8dbf0f4f79263d7dd6dccc97a195e667cfeb1dd9e196746f18390a30c66f0a78", func := "loop.example/g00895/laws.FnForms", spec := "fnForms", unfollowed := true, recurses := true, apart := false, narrowed := true }
def FnFormsUptoSaid : Prop := fnFormsUptoRow.holds Try.pinned (OpenSpec.upto fnFormsSpec)

/-- 'laws.FnExactRuleOk', WHERE WHAT IT READS IS OF BULK AT MOST 1048576: true; the input reads as it did. -/
def fnExactRuleOkUptoRow : OpenClaim := { program := "ytdkjafjphgcbjaa", sum := "8dbf0f4f79263d7dd6dccc97a195e667cfeb1dd9e196746f18390a30c66f0a78", func := "loop.example/g00895/laws.FnExactRuleOk", spec := "fnExactRuleOk", unfollowed := true, recurses := true, apart := false, narrowed := true }
def FnExactRuleOkUptoSaid : Prop := fnExactRuleOkUptoRow.holds Try.pinned (OpenSpec.upto fnExactRuleOkSpec)

/-- 'laws.FnExactSystemOk', WHERE WHAT IT READS IS OF BULK AT MOST 1048576: true; the input reads as it did. -/
def fnExactSystemOkUptoRow : OpenClaim := { program := "ytdkjafjphgcbjaa", sum := "8dbf0f4f79263d7dd6dccc97a195e667cfeb1dd9e196746f18390a30c66f0a78", func := "loop.example/g00895/laws.FnExactSystemOk", spec := "fnExactSystemOk", unfollowed := true, recurses := true, apart := false, narrowed := true }
def FnExactSystemOkUptoSaid : Prop := fnExactSystemOkUptoRow.holds Try.pinned (OpenSpec.upto fnExactSystemOkSpec)

/-- 'laws.FnExactSameSystem', WHERE WHAT IT READS IS OF BULK AT MOST 1048576: true; the input reads as it did. -/
def fnExactSameSystemUptoRow : OpenClaim := { program := "ytdkjafjphgcbjaa", sum := "8dbf0f4f79263d7dd6dccc97a195e667cfeb1dd9e196746f18390a30c66f0a78", func := "loop.example/g00895/laws.FnExactSameSystem", spec := "fnExactSameSystem", unfollowed := true, recurses := true, apart := false, narrowed := true }
def FnExactSameSystemUptoSaid : Prop := fnExactSameSystemUptoRow.holds Try.pinned (OpenSpec.upto fnExactSameSystemSpec)

/-- 'laws.FnExactLeftLinearIn', WHERE WHAT IT READS IS OF BULK AT MOST 1048576: true; the input reads as it did. -/
def fnExactLeftLinearInUptoRow : OpenClaim := { program := "ytdkjafjphgcbjaa", sum := "8dbf0f4f79263d7dd6dccc97a195e667cfeb1dd9e196746f18390a30c66f0a78", func := "loop.example/g00895/laws.FnExactLeftLinearIn", spec := "fnExactLeftLinearIn", unfollowed := true, recurses := true, apart := false, narrowed := true }
def FnExactLeftLinearInUptoSaid : Prop := fnExactLeftLinearInUptoRow.holds Try.pinned (OpenSpec.upto fnExactLeftLinearInSpec)

/-- 'laws.FnExactCollapsingIn', WHERE WHAT IT READS IS OF BULK AT MOST 1048576: true; the input reads as it did. -/
def fnExactCollapsingInUptoRow : OpenClaim := { program := "ytdkjafjphgcbjaa", sum := "8dbf0f4f79263d7dd6dccc97a195e667cfeb1dd9e196746f18390a30c66f0a78", func := "loop.example/g00895/laws.FnExactCollapsingIn", spec := "fnExactCollapsingIn", unfollowed := true, recurses := true, apart := false, narrowed := true }
def FnExactCollapsingInUptoSaid : Prop := fnExactCollapsingInUptoRow.holds Try.pinned (OpenSpec.upto fnExactCollapsingInSpec)

/-- 'laws.FnExactDuplicatingIn', WHERE WHAT IT READS IS OF BULK AT MOST 1048576: true; the input reads as it did. -/
def fnExactDuplicatingInUptoRow : OpenClaim := { program := "ytdkjafjphgcbjaa", sum := "8dbf0f4f79263d7dd6dccc97a195e667cfeb1dd9e196746f18390a30c66f0a78", func := "loop.example/g00895/laws.FnExactDuplicatingIn", spec := "fnExactDuplicatingIn", unfollowed := true, recurses := true, apart := false, narrowed := true }
def FnExactDuplicatingInUptoSaid : Prop := fnExactDuplicatingInUptoRow.holds Try.pinned (OpenSpec.upto fnExactDuplicatingInSpec)

/-- 'laws.FnExactDefinedIn', WHERE WHAT IT READS IS OF BULK AT MOST 1048576: true; the input reads as it did. -/
def fnExactDefinedInUptoRow : OpenClaim := { program := "ytdkjafjphgcbjaa", sum := "8dbf0f4f79263d7dd6dccc97a195e667cfeb1dd9e196746f18390a30c66f0a78", func := "loop.example/g00895/laws.FnExactDefinedIn", spec := "fnExactDefinedIn", unfollowed := true, recurses := true, apart := false, narrowed := true }
def FnExactDefinedInUptoSaid : Prop := fnExactDefinedInUptoRow.holds Try.pinned (OpenSpec.upto fnExactDefinedInSpec)

/-- 'laws.FnExactConstructorsIn', WHERE WHAT IT READS IS OF BULK AT MOST 1048576: true; the input reads as it did. -/
def fnExactConstructorsInUptoRow : OpenClaim := { program := "ytdkjafjphgcbjaa", sum := "8dbf0f4f79263d7dd6dccc97a195e667cfeb1dd9e196746f18390a30c66f0a78", func := "loop.example/g00895/laws.FnExactConstructorsIn", spec := "fnExactConstructorsIn", unfollowed := true, recurses := true, apart := false, narrowed := true }
def FnExactConstructorsInUptoSaid : Prop := fnExactConstructorsInUptoRow.holds Try.pinned (OpenSpec.upto fnExactConstructorsInSpec)

/-- 'laws.FnExactConstructorSystem', WHERE WHAT IT READS IS OF BULK AT MOST 1048576: true; the input reads as it did. -/
def fnExactConstructorSystemUptoRow : OpenClaim := { program := "ytdkjafjphgcbjaa", sum := "8dbf0f4f79263d7dd6dccc97a195e667cfeb1dd9e196746f18390a30c66f0a78", func := "loop.example/g00895/laws.FnExactConstructorSystem", spec := "fnExactConstructorSystem", unfollowed := true, recurses := true, apart := false, narrowed := true }
def FnExactConstructorSystemUptoSaid : Prop := fnExactConstructorSystemUptoRow.holds Try.pinned (OpenSpec.upto fnExactConstructorSystemSpec)

/-- 'laws.FnExactRenamedRule', WHERE WHAT IT READS IS OF BULK AT MOST 1048576: true; the input reads as it did. -/
def fnExactRenamedRuleUptoRow : OpenClaim := { program := "ytdkjafjphgcbjaa", sum := "8dbf0f4f79263d7dd6dccc97a195e667cfeb1dd9e196746f18390a30c66f0a78", func := "loop.example/g00895/laws.FnExactRenamedRule", spec := "fnExactRenamedRule", unfollowed := true, recurses := true, apart := false, narrowed := true }
def FnExactRenamedRuleUptoSaid : Prop := fnExactRenamedRuleUptoRow.holds Try.pinned (OpenSpec.upto fnExactRenamedRuleSpec)

end Rows
end Go.Proofs.Ytdkjafjphgcbjaa
