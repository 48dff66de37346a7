/-
  No cell of these rows narrows 'for every input' (looked for: loops, veiled, ifaces, maps, wideKeys, modest, calm, conditions, laid).
  DERIVED. THE GIVEN ROWS OF THIS SEAT. 14 by the template 'for every input the law returns true; each argument reads behind the call as it read before'; 0 by the template 'total and deterministic' (their statements: YtdeegjeopkcomaaTotals.lean).
  GIVEN WITH THE SEED: the statements are not yours to turn. If you find one false, say at which input.
  Laid BY PROGRAM, IN A SANDBOX (cutbox-rows.mjs): the forced cells as the released guide's own fill.sh prints them over the translation d2d3482e06a49025… (all of the seat's roots in one cut). By AI agents, Wed Nov 11 2026. No macro, syntax, notation, axiom, sorry.
-/
import Derived.Test.YtdeegjeopkcomaaChecked
import GoSem.Claim
import GoSem.ClaimJoined
import GoSem.ClaimMapViews
import Derived.JoinedTies
import Derived.KernelRfl
namespace Go.Proofs.Ytdeegjeopkcomaa
/- THE CELL 'sum', in the pinned program and in every row, IS THE sha256 OF THE DUMP (.gsa) THAT YtdeegjeopkcomaaProg.lean LOADS. Nothing in Lean hashes anything: it is a label: what it is worth is what the hold of that sum in a sandbox is worth. -/
noncomputable def Try.pinned : Pinned := { name := "ytdeegjeopkcomaa", sum := "d2d3482e06a4902513da685be42961d17b71402cdeac2e1cbd0abb81b92906e4", checked := Try.checked }
namespace Rows
def none {H : Type} : Left H := { results := [], args := [] }

/-- 'laws.FnFilled': WHATEVER THE INPUT: true; the input reads as it did. -/
def fnFilledSpec : ChangeSpec := { name := "fnFilled", fn := fun _ => fun
  | [d] => { results := [.lit (.bool true)], args := [d] }
  | _ => none }
def fnFilledRow : OpenClaim := { program := "ytdeegjeopkcomaa", sum := "d2d3482e06a4902513da685be42961d17b71402cdeac2e1cbd0abb81b92906e4", func := "loop.example/g00895/laws.FnFilled", spec := "fnFilled", unfollowed := true, recurses := true, apart := false }
def FnFilledSaid : Prop := fnFilledRow.holds Try.pinned (OpenSpec.ofChange fnFilledSpec)

/-- ITS FALSE NEIGHBOUR: 'it returns false'. Refute it at one input. -/
def fnFilledWrong : ChangeSpec := { name := "fnFilled", fn := fun _ => fun
  | [d] => { results := [.lit (.bool false)], args := [d] }
  | _ => none }
def FnFilledWrongFalsely : Prop := fnFilledRow.holds Try.pinned (OpenSpec.ofChange fnFilledWrong)

/-- 'laws.FnPlain': WHATEVER THE INPUT: true; the input reads as it did. -/
def fnPlainSpec : ChangeSpec := { name := "fnPlain", fn := fun _ => fun
  | [d] => { results := [.lit (.bool true)], args := [d] }
  | _ => none }
def fnPlainRow : OpenClaim := { program := "ytdeegjeopkcomaa", sum := "d2d3482e06a4902513da685be42961d17b71402cdeac2e1cbd0abb81b92906e4", func := "loop.example/g00895/laws.FnPlain", spec := "fnPlain", unfollowed := true, recurses := true, apart := false }
def FnPlainSaid : Prop := fnPlainRow.holds Try.pinned (OpenSpec.ofChange fnPlainSpec)

/-- ITS FALSE NEIGHBOUR: 'it returns false'. Refute it at one input. -/
def fnPlainWrong : ChangeSpec := { name := "fnPlain", fn := fun _ => fun
  | [d] => { results := [.lit (.bool false)], args := [d] }
  | _ => none }
def FnPlainWrongFalsely : Prop := fnPlainRow.holds Try.pinned (OpenSpec.ofChange fnPlainWrong)

/-- 'laws.FnRenamed': WHATEVER THE INPUT: true; the input reads as it did. -/
def fnRenamedSpec : ChangeSpec := { name := "fnRenamed", fn := fun _ => fun
  | [d] => { results := [.lit (.bool true)], args := [d] }
  | _ => none }
def fnRenamedRow : OpenClaim := { program := "ytdeegjeopkcomaa", sum := "d2d3482e06a4902513da685be42961d17b71402cdeac2e1cbd0abb81b92906e4", func := "loop.example/g00895/laws.FnRenamed", spec := "fnRenamed", unfollowed := true, recurses := true, apart := false }
def FnRenamedSaid : Prop := fnRenamedRow.holds Try.pinned (OpenSpec.ofChange fnRenamedSpec)

/-- ITS FALSE NEIGHBOUR: 'it returns false'. Refute it at one input. -/
def fnRenamedWrong : ChangeSpec := { name := "fnRenamed", fn := fun _ => fun
  | [d] => { results := [.lit (.bool false)], args := [d] }
  | _ => none }
def FnRenamedWrongFalsely : Prop := fnRenamedRow.holds Try.pinned (OpenSpec.ofChange fnRenamedWrong)

/-- 'laws.FnExactSubstOk': WHATEVER THE INPUT: true; the input reads as it did. -/
def fnExactSubstOkSpec : ChangeSpec := { name := "fnExactSubstOk", fn := fun _ => fun
  | [d1, d2] => { results := [.lit (.bool true)], args := [d1, d2] }
  | _ => none }
def fnExactSubstOkRow : OpenClaim := { program := "ytdeegjeopkcomaa", sum := "d2d3482e06a4902513da685be42961d17b71402cdeac2e1cbd0abb81b92906e4", func := "loop.example/g00895/laws.FnExactSubstOk", spec := "fnExactSubstOk", apart := false }
def FnExactSubstOkSaid : Prop := fnExactSubstOkRow.holds Try.pinned (OpenSpec.ofChange fnExactSubstOkSpec)

/-- ITS FALSE NEIGHBOUR: 'it returns false'. Refute it at one input. -/
def fnExactSubstOkWrong : ChangeSpec := { name := "fnExactSubstOk", fn := fun _ => fun
  | [d1, d2] => { results := [.lit (.bool false)], args := [d1, d2] }
  | _ => none }
def FnExactSubstOkWrongFalsely : Prop := fnExactSubstOkRow.holds Try.pinned (OpenSpec.ofChange fnExactSubstOkWrong)

/-- 'laws.FnExactPlainOf': WHATEVER THE INPUT: true; the input reads as it did. -/
def fnExactPlainOfSpec : ChangeSpec := { name := "fnExactPlainOf", fn := fun _ => fun
  | [d1, d2] => { results := [.lit (.bool true)], args := [d1, d2] }
  | _ => none }
def fnExactPlainOfRow : OpenClaim := { program := "ytdeegjeopkcomaa", sum := "d2d3482e06a4902513da685be42961d17b71402cdeac2e1cbd0abb81b92906e4", func := "loop.example/g00895/laws.FnExactPlainOf", spec := "fnExactPlainOf", unfollowed := true, recurses := true, apart := false }
def FnExactPlainOfSaid : Prop := fnExactPlainOfRow.holds Try.pinned (OpenSpec.ofChange fnExactPlainOfSpec)

/-- ITS FALSE NEIGHBOUR: 'it returns false'. Refute it at one input. -/
def fnExactPlainOfWrong : ChangeSpec := { name := "fnExactPlainOf", fn := fun _ => fun
  | [d1, d2] => { results := [.lit (.bool false)], args := [d1, d2] }
  | _ => none }
def FnExactPlainOfWrongFalsely : Prop := fnExactPlainOfRow.holds Try.pinned (OpenSpec.ofChange fnExactPlainOfWrong)

/-- 'laws.FnExactSameSubst': WHATEVER THE INPUT: true; the input reads as it did. -/
def fnExactSameSubstSpec : ChangeSpec := { name := "fnExactSameSubst", fn := fun _ => fun
  | [d1, d2, d3] => { results := [.lit (.bool true)], args := [d1, d2, d3] }
  | _ => none }
def fnExactSameSubstRow : OpenClaim := { program := "ytdeegjeopkcomaa", sum := "d2d3482e06a4902513da685be42961d17b71402cdeac2e1cbd0abb81b92906e4", func := "loop.example/g00895/laws.FnExactSameSubst", spec := "fnExactSameSubst", unfollowed := true, recurses := true, apart := false }
def FnExactSameSubstSaid : Prop := fnExactSameSubstRow.holds Try.pinned (OpenSpec.ofChange fnExactSameSubstSpec)

/-- ITS FALSE NEIGHBOUR: 'it returns false'. Refute it at one input. -/
def fnExactSameSubstWrong : ChangeSpec := { name := "fnExactSameSubst", fn := fun _ => fun
  | [d1, d2, d3] => { results := [.lit (.bool false)], args := [d1, d2, d3] }
  | _ => none }
def FnExactSameSubstWrongFalsely : Prop := fnExactSameSubstRow.holds Try.pinned (OpenSpec.ofChange fnExactSameSubstWrong)

/-- 'laws.FnExactVarsOf': WHATEVER THE INPUT: true; the input reads as it did. -/
def fnExactVarsOfSpec : ChangeSpec := { name := "fnExactVarsOf", fn := fun _ => fun
  | [d1, d2] => { results := [.lit (.bool true)], args := [d1, d2] }
  | _ => none }
def fnExactVarsOfRow : OpenClaim := { program := "ytdeegjeopkcomaa", sum := "d2d3482e06a4902513da685be42961d17b71402cdeac2e1cbd0abb81b92906e4", func := "loop.example/g00895/laws.FnExactVarsOf", spec := "fnExactVarsOf", recurses := true, apart := false }
def FnExactVarsOfSaid : Prop := fnExactVarsOfRow.holds Try.pinned (OpenSpec.ofChange fnExactVarsOfSpec)

/-- ITS FALSE NEIGHBOUR: 'it returns false'. Refute it at one input. -/
def fnExactVarsOfWrong : ChangeSpec := { name := "fnExactVarsOf", fn := fun _ => fun
  | [d1, d2] => { results := [.lit (.bool false)], args := [d1, d2] }
  | _ => none }
def FnExactVarsOfWrongFalsely : Prop := fnExactVarsOfRow.holds Try.pinned (OpenSpec.ofChange fnExactVarsOfWrong)

/-- 'laws.FnExactGroundIn': WHATEVER THE INPUT: true; the input reads as it did. -/
def fnExactGroundInSpec : ChangeSpec := { name := "fnExactGroundIn", fn := fun _ => fun
  | [d1, d2] => { results := [.lit (.bool true)], args := [d1, d2] }
  | _ => none }
def fnExactGroundInRow : OpenClaim := { program := "ytdeegjeopkcomaa", sum := "d2d3482e06a4902513da685be42961d17b71402cdeac2e1cbd0abb81b92906e4", func := "loop.example/g00895/laws.FnExactGroundIn", spec := "fnExactGroundIn", recurses := true, apart := false }
def FnExactGroundInSaid : Prop := fnExactGroundInRow.holds Try.pinned (OpenSpec.ofChange fnExactGroundInSpec)

/-- ITS FALSE NEIGHBOUR: 'it returns false'. Refute it at one input. -/
def fnExactGroundInWrong : ChangeSpec := { name := "fnExactGroundIn", fn := fun _ => fun
  | [d1, d2] => { results := [.lit (.bool false)], args := [d1, d2] }
  | _ => none }
def FnExactGroundInWrongFalsely : Prop := fnExactGroundInRow.holds Try.pinned (OpenSpec.ofChange fnExactGroundInWrong)

/-- 'laws.FnExactLinearIn': WHATEVER THE INPUT: true; the input reads as it did. -/
def fnExactLinearInSpec : ChangeSpec := { name := "fnExactLinearIn", fn := fun _ => fun
  | [d1, d2] => { results := [.lit (.bool true)], args := [d1, d2] }
  | _ => none }
def fnExactLinearInRow : OpenClaim := { program := "ytdeegjeopkcomaa", sum := "d2d3482e06a4902513da685be42961d17b71402cdeac2e1cbd0abb81b92906e4", func := "loop.example/g00895/laws.FnExactLinearIn", spec := "fnExactLinearIn", recurses := true, apart := false }
def FnExactLinearInSaid : Prop := fnExactLinearInRow.holds Try.pinned (OpenSpec.ofChange fnExactLinearInSpec)

/-- ITS FALSE NEIGHBOUR: 'it returns false'. Refute it at one input. -/
def fnExactLinearInWrong : ChangeSpec := { name := "fnExactLinearIn", fn := fun _ => fun
  | [d1, d2] => { results := [.lit (.bool false)], args := [d1, d2] }
  | _ => none }
def FnExactLinearInWrongFalsely : Prop := fnExactLinearInRow.holds Try.pinned (OpenSpec.ofChange fnExactLinearInWrong)

/-- 'laws.FnExactFilled': WHATEVER THE INPUT: true; the input reads as it did. -/
def fnExactFilledSpec : ChangeSpec := { name := "fnExactFilled", fn := fun _ => fun
  | [d1, d2, d3] => { results := [.lit (.bool true)], args := [d1, d2, d3] }
  | _ => none }
def fnExactFilledRow : OpenClaim := { program := "ytdeegjeopkcomaa", sum := "d2d3482e06a4902513da685be42961d17b71402cdeac2e1cbd0abb81b92906e4", func := "loop.example/g00895/laws.FnExactFilled", spec := "fnExactFilled", unfollowed := true, recurses := true, apart := false }
def FnExactFilledSaid : Prop := fnExactFilledRow.holds Try.pinned (OpenSpec.ofChange fnExactFilledSpec)

/-- ITS FALSE NEIGHBOUR: 'it returns false'. Refute it at one input. -/
def fnExactFilledWrong : ChangeSpec := { name := "fnExactFilled", fn := fun _ => fun
  | [d1, d2, d3] => { results := [.lit (.bool false)], args := [d1, d2, d3] }
  | _ => none }
def FnExactFilledWrongFalsely : Prop := fnExactFilledRow.holds Try.pinned (OpenSpec.ofChange fnExactFilledWrong)

/-- 'laws.FnExactComposed': WHATEVER THE INPUT: true; the input reads as it did. -/
def fnExactComposedSpec : ChangeSpec := { name := "fnExactComposed", fn := fun _ => fun
  | [d1, d2, d3] => { results := [.lit (.bool true)], args := [d1, d2, d3] }
  | _ => none }
def fnExactComposedRow : OpenClaim := { program := "ytdeegjeopkcomaa", sum := "d2d3482e06a4902513da685be42961d17b71402cdeac2e1cbd0abb81b92906e4", func := "loop.example/g00895/laws.FnExactComposed", spec := "fnExactComposed", unfollowed := true, recurses := true, apart := false }
def FnExactComposedSaid : Prop := fnExactComposedRow.holds Try.pinned (OpenSpec.ofChange fnExactComposedSpec)

/-- ITS FALSE NEIGHBOUR: 'it returns false'. Refute it at one input. -/
def fnExactComposedWrong : ChangeSpec := { name := "fnExactComposed", fn := fun _ => fun
  | [d1, d2, d3] => { results := [.lit (.bool false)], args := [d1, d2, d3] }
  | _ => none }
def FnExactComposedWrongFalsely : Prop := fnExactComposedRow.holds Try.pinned (OpenSpec.ofChange fnExactComposedWrong)

/-- 'laws.FnExactShifted': WHATEVER THE INPUT: true; the input reads as it did. -/
def fnExactShiftedSpec : ChangeSpec := { name := "fnExactShifted", fn := fun _ => fun
  | [d1, d2, d3] => { results := [.lit (.bool true)], args := [d1, d2, d3] }
  | _ => none }
def fnExactShiftedRow : OpenClaim := { program := "ytdeegjeopkcomaa", sum := "d2d3482e06a4902513da685be42961d17b71402cdeac2e1cbd0abb81b92906e4", func := "loop.example/g00895/laws.FnExactShifted", spec := "fnExactShifted", unfollowed := true, recurses := true, apart := false }
def FnExactShiftedSaid : Prop := fnExactShiftedRow.holds Try.pinned (OpenSpec.ofChange fnExactShiftedSpec)

/-- ITS FALSE NEIGHBOUR: 'it returns false'. Refute it at one input. -/
def fnExactShiftedWrong : ChangeSpec := { name := "fnExactShifted", fn := fun _ => fun
  | [d1, d2, d3] => { results := [.lit (.bool false)], args := [d1, d2, d3] }
  | _ => none }
def FnExactShiftedWrongFalsely : Prop := fnExactShiftedRow.holds Try.pinned (OpenSpec.ofChange fnExactShiftedWrong)

/-- 'laws.FnExactRenamed': WHATEVER THE INPUT: true; the input reads as it did. -/
def fnExactRenamedSpec : ChangeSpec := { name := "fnExactRenamed", fn := fun _ => fun
  | [d1, d2] => { results := [.lit (.bool true)], args := [d1, d2] }
  | _ => none }
def fnExactRenamedRow : OpenClaim := { program := "ytdeegjeopkcomaa", sum := "d2d3482e06a4902513da685be42961d17b71402cdeac2e1cbd0abb81b92906e4", func := "loop.example/g00895/laws.FnExactRenamed", spec := "fnExactRenamed", unfollowed := true, recurses := true, apart := false }
def FnExactRenamedSaid : Prop := fnExactRenamedRow.holds Try.pinned (OpenSpec.ofChange fnExactRenamedSpec)

/-- ITS FALSE NEIGHBOUR: 'it returns false'. Refute it at one input. -/
def fnExactRenamedWrong : ChangeSpec := { name := "fnExactRenamed", fn := fun _ => fun
  | [d1, d2] => { results := [.lit (.bool false)], args := [d1, d2] }
  | _ => none }
def FnExactRenamedWrongFalsely : Prop := fnExactRenamedRow.holds Try.pinned (OpenSpec.ofChange fnExactRenamedWrong)

/-- 'laws.FnExactVariantIn': WHATEVER THE INPUT: true; the input reads as it did. -/
def fnExactVariantInSpec : ChangeSpec := { name := "fnExactVariantIn", fn := fun _ => fun
  | [d1, d2, d3] => { results := [.lit (.bool true)], args := [d1, d2, d3] }
  | _ => none }
def fnExactVariantInRow : OpenClaim := { program := "ytdeegjeopkcomaa", sum := "d2d3482e06a4902513da685be42961d17b71402cdeac2e1cbd0abb81b92906e4", func := "loop.example/g00895/laws.FnExactVariantIn", spec := "fnExactVariantIn", unfollowed := true, recurses := true, apart := false }
def FnExactVariantInSaid : Prop := fnExactVariantInRow.holds Try.pinned (OpenSpec.ofChange fnExactVariantInSpec)

/-- ITS FALSE NEIGHBOUR: 'it returns false'. Refute it at one input. -/
def fnExactVariantInWrong : ChangeSpec := { name := "fnExactVariantIn", fn := fun _ => fun
  | [d1, d2, d3] => { results := [.lit (.bool false)], args := [d1, d2, d3] }
  | _ => none }
def FnExactVariantInWrongFalsely : Prop := fnExactVariantInRow.holds Try.pinned (OpenSpec.ofChange fnExactVariantInWrong)

/- THE SECOND FORM. 'bulk': how many values and letters a reading holds, each counted each time it is reached (what is shared counts as often as it is met; a slice's spare places count too). A statement '..UptoSaid' is the law's where the arguments, and the package variables that the reading takes, are together of bulk at most 1048576: NARROWER than '..Said'. Prove '..Said' where nothing that the law and all that it calls make is longer than what came in: it says more and counts as full. Else prove '..UptoSaid'. A law counts once. -/
mutual
def uptoBulk {H : Type} : DataW H → Nat
  | .lit (.string bytes) => bytes.length + 1
  | .lit _ => 1
  | .nil => 1
  | .ptr d => uptoBulk d + 1
  | .slice elems spare => uptoBulkAll elems + uptoBulkAll spare + 1
  | .agg parts => uptoBulkAll parts + 1
  | .iface _ d => uptoBulk d + 1
  | .map entries => uptoBulkEntries entries + 1
  | .held _ => 1
def uptoBulkAll {H : Type} : List (DataW H) → Nat
  | [] => 0
  | d :: r => uptoBulk d + uptoBulkAll r
def uptoBulkEntries {H : Type} : List (Lit × DataW H) → Nat
  | [] => 0
  | x :: r => uptoBulkEntry x + uptoBulkEntries r
def uptoBulkEntry {H : Type} : Lit × DataW H → Nat
  | (.string bytes, d) => bytes.length + uptoBulk d + 1
  | (_, d) => uptoBulk d + 1
 end
def uptoSmall : (H : Type) → List (DataW H) → Bool := fun _ ds => decide (uptoBulkAll ds ≤ 1048576)
def OpenSpec.upto (s : _root_.Go.ChangeSpec) : _root_.Go.OpenSpec := { _root_.Go.OpenSpec.ofChange s with cond := some uptoSmall }

/-- 'laws.FnFilled', WHERE WHAT IT READS IS OF BULK AT MOST 1048576: true; the input reads as it did. -/
def fnFilledUptoRow : OpenClaim := { program := "ytdeegjeopkcomaa", sum := "d2d3482e06a4902513da685be42961d17b71402cdeac2e1cbd0abb81b92906e4", func := "loop.example/g00895/laws.FnFilled", spec := "fnFilled", unfollowed := true, recurses := true, apart := false, narrowed := true }
def FnFilledUptoSaid : Prop := fnFilledUptoRow.holds Try.pinned (OpenSpec.upto fnFilledSpec)

/-- 'laws.FnPlain', WHERE WHAT IT READS IS OF BULK AT MOST 1048576: true; the input reads as it did. -/
def fnPlainUptoRow : OpenClaim := { program := "ytdeegjeopkcomaa", sum := "d2d3482e06a4902513da685be42961d17b71402cdeac2e1cbd0abb81b92906e4", func := "loop.example/g00895/laws.FnPlain", spec := "fnPlain", unfollowed := true, recurses := true, apart := false, narrowed := true }
def FnPlainUptoSaid : Prop := fnPlainUptoRow.holds Try.pinned (OpenSpec.upto fnPlainSpec)

/-- 'laws.FnRenamed', WHERE WHAT IT READS IS OF BULK AT MOST 1048576: true; the input reads as it did. -/
def fnRenamedUptoRow : OpenClaim := { program := "ytdeegjeopkcomaa", sum := "d2d3482e06a4902513da685be42961d17b71402cdeac2e1cbd0abb81b92906e4", func := "loop.example/g00895/laws.FnRenamed", spec := "fnRenamed", unfollowed := true, recurses := true, apart := false, narrowed := true }
def FnRenamedUptoSaid : Prop := fnRenamedUptoRow.holds Try.pinned (OpenSpec.upto fnRenamedSpec)

/-- 'laws.FnExactSubstOk', WHERE WHAT IT READS IS OF BULK AT MOST 1048576: true; the input reads as it did. -/
def fnExactSubstOkUptoRow : OpenClaim := { program := "ytdeegjeopkcomaa", sum := "d2d3482e06a4902513da685be42961d17b71402cdeac2e1cbd0abb81b92906e4", func := "loop.example/g00895/laws.FnExactSubstOk", spec := "fnExactSubstOk", apart := false, narrowed := true }
def FnExactSubstOkUptoSaid : Prop := fnExactSubstOkUptoRow.holds Try.pinned (OpenSpec.upto fnExactSubstOkSpec)

/-- 'laws.FnExactPlainOf', WHERE WHAT IT READS IS OF BULK AT MOST 1048576: true; the input reads as it did. -/
def fnExactPlainOfUptoRow : OpenClaim := { program := "ytdeegjeopkcomaa", sum := "d2d3482e06a4902513da685be42961d17b71402cdeac2e1cbd0abb81b92906e4", func := "loop.example/g00895/laws.FnExactPlainOf", spec := "fnExactPlainOf", unfollowed := true, recurses := true, apart := false, narrowed := true }
def FnExactPlainOfUptoSaid : Prop := fnExactPlainOfUptoRow.holds Try.pinned (OpenSpec.upto fnExactPlainOfSpec)

/-- 'laws.FnExactSameSubst', WHERE WHAT IT READS IS OF BULK AT MOST 1048576: true; the input reads as it did. -/
def fnExactSameSubstUptoRow : OpenClaim := { program := "ytdeegjeopkcomaa", sum := "d2d3482e06a4902513da685be42961d17b71402cdeac2e1cbd0abb81b92906e4", func := "loop.example/g00895/laws.FnExactSameSubst", spec := "fnExactSameSubst", unfollowed := true, recurses := true, apart := false, narrowed := true }
def FnExactSameSubstUptoSaid : Prop := fnExactSameSubstUptoRow.holds Try.pinned (OpenSpec.upto fnExactSameSubstSpec)

/-- 'laws.FnExactVarsOf', WHERE WHAT IT READS IS OF BULK AT MOST 1048576: true; the input reads as it did. -/
def fnExactVarsOfUptoRow : OpenClaim := { program := "ytdeegjeopkcomaa", sum := "d2d3482e06a4902513da685be42961d17b71402cdeac2e1cbd0abb81b92906e4", func := "loop.example/g00895/laws.FnExactVarsOf", spec := "fnExactVarsOf", recurses := true, apart := false, narrowed := true }
def FnExactVarsOfUptoSaid : Prop := fnExactVarsOfUptoRow.holds Try.pinned (OpenSpec.upto fnExactVarsOfSpec)

/-- 'laws.FnExactGroundIn', WHERE WHAT IT READS IS OF BULK AT MOST 1048576: true; the input reads as it did. -/
def fnExactGroundInUptoRow : OpenClaim := { program := "ytdeegjeopkcomaa", sum := "d2d3482e06a4902513da685be42961d17b71402cdeac2e1cbd0abb81b92906e4", func := "loop.example/g00895/laws.FnExactGroundIn", spec := "fnExactGroundIn", recurses := true, apart := false, narrowed := true }
def FnExactGroundInUptoSaid : Prop := fnExactGroundInUptoRow.holds Try.pinned (OpenSpec.upto fnExactGroundInSpec)

/-- 'laws.FnExactLinearIn', WHERE WHAT IT READS IS OF BULK AT MOST 1048576: true; the input reads as it did. -/
def fnExactLinearInUptoRow : OpenClaim := { program := "ytdeegjeopkcomaa", sum := "d2d3482e06a4902513da685be42961d17b71402cdeac2e1cbd0abb81b92906e4", func := "loop.example/g00895/laws.FnExactLinearIn", spec := "fnExactLinearIn", recurses := true, apart := false, narrowed := true }
def FnExactLinearInUptoSaid : Prop := fnExactLinearInUptoRow.holds Try.pinned (OpenSpec.upto fnExactLinearInSpec)

/-- 'laws.FnExactFilled', WHERE WHAT IT READS IS OF BULK AT MOST 1048576: true; the input reads as it did. -/
def fnExactFilledUptoRow : OpenClaim := { program := "ytdeegjeopkcomaa", sum := "d2d3482e06a4902513da685be42961d17b71402cdeac2e1cbd0abb81b92906e4", func := "loop.example/g00895/laws.FnExactFilled", spec := "fnExactFilled", unfollowed := true, recurses := true, apart := false, narrowed := true }
def FnExactFilledUptoSaid : Prop := fnExactFilledUptoRow.holds Try.pinned (OpenSpec.upto fnExactFilledSpec)

/-- 'laws.FnExactComposed', WHERE WHAT IT READS IS OF BULK AT MOST 1048576: true; the input reads as it did. -/
def fnExactComposedUptoRow : OpenClaim := { program := "ytdeegjeopkcomaa", sum := "d2d3482e06a4902513da685be42961d17b71402cdeac2e1cbd0abb81b92906e4", func := "loop.example/g00895/laws.FnExactComposed", spec := "fnExactComposed", unfollowed := true, recurses := true, apart := false, narrowed := true }
def FnExactComposedUptoSaid : Prop := fnExactComposedUptoRow.holds Try.pinned (OpenSpec.upto fnExactComposedSpec)

/-- 'laws.FnExactShifted', WHERE WHAT IT READS IS OF BULK AT MOST 1048576: true; the input reads as it did. -/
def fnExactShiftedUptoRow : OpenClaim := { program := "ytdeegjeopkcomaa", sum := "d2d3482e06a4902513da685be42961d17b71402cdeac2e1cbd0abb81b92906e4", func := "loop.example/g00895/laws.FnExactShifted", spec := "fnExactShifted", unfollowed := true, recurses := true, apart := false, narrowed := true }
def FnExactShiftedUptoSaid : Prop := fnExactShiftedUptoRow.holds Try.pinned (OpenSpec.upto fnExactShiftedSpec)

/-- 'laws.FnExactRenamed', WHERE WHAT IT READS IS OF BULK AT MOST 1048576: true; the input reads as it did. -/
def fnExactRenamedUptoRow : OpenClaim := { program := "ytdeegjeopkcomaa", sum := "d2d3482e06a4902513da685be42961d17b71402cdeac2e1cbd0abb81b92906e4", func := "loop.example/g00895/laws.FnExactRenamed", spec := "fnExactRenamed", unfollowed := true, recurses := true, apart := false, narrowed := true }
def FnExactRenamedUptoSaid : Prop := fnExactRenamedUptoRow.holds Try.pinned (OpenSpec.upto fnExactRenamedSpec)

/-- 'laws.FnExactVariantIn', WHERE WHAT IT READS IS OF BULK AT MOST 1048576: true; the input reads as it did. -/
def fnExactVariantInUptoRow : OpenClaim := { program := "ytdeegjeopkcomaa", sum := "d2d3482e06a4902513da685be42961d17b71402cdeac2e1cbd0abb81b92906e4", func := "loop.example/g00895/laws.FnExactVariantIn", spec := "fnExactVariantIn", unfollowed := true, recurses := true, apart := false, narrowed := true }
def FnExactVariantInUptoSaid : Prop := fnExactVariantInUptoRow.holds Try.pinned (OpenSpec.upto fnExactVariantInSpec)

end Rows
end Go.Proofs.Ytdeegjeopkcomaa
