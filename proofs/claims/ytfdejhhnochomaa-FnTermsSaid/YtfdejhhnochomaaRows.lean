/-
  No cell of these rows narrows 'for every input' (looked for: loops, veiled, ifaces, maps, wideKeys, modest, calm, conditions, laid).
  DERIVED. THE GIVEN ROWS OF THIS SEAT. 8 by the template 'for every input the law returns true; each argument reads behind the call as it read before'; 0 by the template 'total and deterministic' (their statements: YtfdejhhnochomaaTotals.lean).
  GIVEN WITH THE SEED: the statements are not yours to turn. If you find one false, say at which input.
  Laid BY PROGRAM, IN A SANDBOX (cutbox-rows.mjs): the forced cells as the released guide's own fill.sh prints them over the translation 7a13f9c79c8b3472… (all of the seat's roots in one cut). By AI agents, Wed Nov 11 2026. No macro, syntax, notation, axiom, sorry.
-/
import Derived.Test.YtfdejhhnochomaaChecked
import GoSem.Claim
import GoSem.ClaimJoined
import GoSem.ClaimMapViews
import Derived.JoinedTies
import Derived.KernelRfl
namespace Go.Proofs.Ytfdejhhnochomaa
/- THE CELL 'sum', in the pinned program and in every row, IS THE sha256 OF THE DUMP (.gsa) THAT YtfdejhhnochomaaProg.lean LOADS. Nothing in Lean hashes anything: it is a label: what it is worth is what the hold of that sum in a sandbox is worth. -/
noncomputable def Try.pinned : Pinned := { name := "ytfdejhhnochomaa", sum := "7a13f9c79c8b3472a9b1c3ff5ed3ed0af760fb2b51bc854669ffe1b401ee578d", checked := Try.checked }
namespace Rows
def none {H : Type} : Left H := { results := [], args := [] }

/-- 'laws.FnExactArgsAt': WHATEVER THE INPUT: true; the input reads as it did. -/
def fnExactArgsAtSpec : ChangeSpec := { name := "fnExactArgsAt", fn := fun _ => fun
  | [d1, d2, d3] => { results := [.lit (.bool true)], args := [d1, d2, d3] }
  | _ => none }
def fnExactArgsAtRow : OpenClaim := { program := "ytfdejhhnochomaa", sum := "7a13f9c79c8b3472a9b1c3ff5ed3ed0af760fb2b51bc854669ffe1b401ee578d", func := "loop.example/g00895/laws.FnExactArgsAt", spec := "fnExactArgsAt", apart := false }
def FnExactArgsAtSaid : Prop := fnExactArgsAtRow.holds Try.pinned (OpenSpec.ofChange fnExactArgsAtSpec)

/-- ITS FALSE NEIGHBOUR: 'it returns false'. Refute it at one input. -/
def fnExactArgsAtWrong : ChangeSpec := { name := "fnExactArgsAt", fn := fun _ => fun
  | [d1, d2, d3] => { results := [.lit (.bool false)], args := [d1, d2, d3] }
  | _ => none }
def FnExactArgsAtWrongFalsely : Prop := fnExactArgsAtRow.holds Try.pinned (OpenSpec.ofChange fnExactArgsAtWrong)

/-- 'laws.FnExactRedexAt': WHATEVER THE INPUT: true; the input reads as it did. -/
def fnExactRedexAtSpec : ChangeSpec := { name := "fnExactRedexAt", fn := fun _ => fun
  | [d1, d2, d3, d4] => { results := [.lit (.bool true)], args := [d1, d2, d3, d4] }
  | _ => none }
def fnExactRedexAtRow : OpenClaim := { program := "ytfdejhhnochomaa", sum := "7a13f9c79c8b3472a9b1c3ff5ed3ed0af760fb2b51bc854669ffe1b401ee578d", func := "loop.example/g00895/laws.FnExactRedexAt", spec := "fnExactRedexAt", unfollowed := true, recurses := true, apart := false }
def FnExactRedexAtSaid : Prop := fnExactRedexAtRow.holds Try.pinned (OpenSpec.ofChange fnExactRedexAtSpec)

/-- ITS FALSE NEIGHBOUR: 'it returns false'. Refute it at one input. -/
def fnExactRedexAtWrong : ChangeSpec := { name := "fnExactRedexAt", fn := fun _ => fun
  | [d1, d2, d3, d4] => { results := [.lit (.bool false)], args := [d1, d2, d3, d4] }
  | _ => none }
def FnExactRedexAtWrongFalsely : Prop := fnExactRedexAtRow.holds Try.pinned (OpenSpec.ofChange fnExactRedexAtWrong)

/-- 'laws.FnExactStepAt': WHATEVER THE INPUT: true; the input reads as it did. -/
def fnExactStepAtSpec : ChangeSpec := { name := "fnExactStepAt", fn := fun _ => fun
  | [d1, d2, d3, d4] => { results := [.lit (.bool true)], args := [d1, d2, d3, d4] }
  | _ => none }
def fnExactStepAtRow : OpenClaim := { program := "ytfdejhhnochomaa", sum := "7a13f9c79c8b3472a9b1c3ff5ed3ed0af760fb2b51bc854669ffe1b401ee578d", func := "loop.example/g00895/laws.FnExactStepAt", spec := "fnExactStepAt", unfollowed := true, recurses := true, apart := false }
def FnExactStepAtSaid : Prop := fnExactStepAtRow.holds Try.pinned (OpenSpec.ofChange fnExactStepAtSpec)

/-- ITS FALSE NEIGHBOUR: 'it returns false'. Refute it at one input. -/
def fnExactStepAtWrong : ChangeSpec := { name := "fnExactStepAt", fn := fun _ => fun
  | [d1, d2, d3, d4] => { results := [.lit (.bool false)], args := [d1, d2, d3, d4] }
  | _ => none }
def FnExactStepAtWrongFalsely : Prop := fnExactStepAtRow.holds Try.pinned (OpenSpec.ofChange fnExactStepAtWrong)

/-- 'laws.FnExactWalkOk': WHATEVER THE INPUT: true; the input reads as it did. -/
def fnExactWalkOkSpec : ChangeSpec := { name := "fnExactWalkOk", fn := fun _ => fun
  | [d1, d2] => { results := [.lit (.bool true)], args := [d1, d2] }
  | _ => none }
def fnExactWalkOkRow : OpenClaim := { program := "ytfdejhhnochomaa", sum := "7a13f9c79c8b3472a9b1c3ff5ed3ed0af760fb2b51bc854669ffe1b401ee578d", func := "loop.example/g00895/laws.FnExactWalkOk", spec := "fnExactWalkOk", unfollowed := true, recurses := true, apart := false }
def FnExactWalkOkSaid : Prop := fnExactWalkOkRow.holds Try.pinned (OpenSpec.ofChange fnExactWalkOkSpec)

/-- ITS FALSE NEIGHBOUR: 'it returns false'. Refute it at one input. -/
def fnExactWalkOkWrong : ChangeSpec := { name := "fnExactWalkOk", fn := fun _ => fun
  | [d1, d2] => { results := [.lit (.bool false)], args := [d1, d2] }
  | _ => none }
def FnExactWalkOkWrongFalsely : Prop := fnExactWalkOkRow.holds Try.pinned (OpenSpec.ofChange fnExactWalkOkWrong)

/-- 'laws.FnExactEndTerm': WHATEVER THE INPUT: true; the input reads as it did. -/
def fnExactEndTermSpec : ChangeSpec := { name := "fnExactEndTerm", fn := fun _ => fun
  | [d1, d2] => { results := [.lit (.bool true)], args := [d1, d2] }
  | _ => none }
def fnExactEndTermRow : OpenClaim := { program := "ytfdejhhnochomaa", sum := "7a13f9c79c8b3472a9b1c3ff5ed3ed0af760fb2b51bc854669ffe1b401ee578d", func := "loop.example/g00895/laws.FnExactEndTerm", spec := "fnExactEndTerm", unfollowed := true, recurses := true, apart := false }
def FnExactEndTermSaid : Prop := fnExactEndTermRow.holds Try.pinned (OpenSpec.ofChange fnExactEndTermSpec)

/-- ITS FALSE NEIGHBOUR: 'it returns false'. Refute it at one input. -/
def fnExactEndTermWrong : ChangeSpec := { name := "fnExactEndTerm", fn := fun _ => fun
  | [d1, d2] => { results := [.lit (.bool false)], args := [d1, d2] }
  | _ => none }
def FnExactEndTermWrongFalsely : Prop := fnExactEndTermRow.holds Try.pinned (OpenSpec.ofChange fnExactEndTermWrong)

/-- 'laws.FnExactWalkInside': WHATEVER THE INPUT: true; the input reads as it did. -/
def fnExactWalkInsideSpec : ChangeSpec := { name := "fnExactWalkInside", fn := fun _ => fun
  | [d1, d2, d3, d4] => { results := [.lit (.bool true)], args := [d1, d2, d3, d4] }
  | _ => none }
def fnExactWalkInsideRow : OpenClaim := { program := "ytfdejhhnochomaa", sum := "7a13f9c79c8b3472a9b1c3ff5ed3ed0af760fb2b51bc854669ffe1b401ee578d", func := "loop.example/g00895/laws.FnExactWalkInside", spec := "fnExactWalkInside", unfollowed := true, recurses := true, apart := false }
def FnExactWalkInsideSaid : Prop := fnExactWalkInsideRow.holds Try.pinned (OpenSpec.ofChange fnExactWalkInsideSpec)

/-- ITS FALSE NEIGHBOUR: 'it returns false'. Refute it at one input. -/
def fnExactWalkInsideWrong : ChangeSpec := { name := "fnExactWalkInside", fn := fun _ => fun
  | [d1, d2, d3, d4] => { results := [.lit (.bool false)], args := [d1, d2, d3, d4] }
  | _ => none }
def FnExactWalkInsideWrongFalsely : Prop := fnExactWalkInsideRow.holds Try.pinned (OpenSpec.ofChange fnExactWalkInsideWrong)

/-- 'laws.FnTerms': WHATEVER THE INPUT: true; the input reads as it did. -/
def fnTermsSpec : ChangeSpec := { name := "fnTerms", fn := fun _ => fun
  | [d] => { results := [.lit (.bool true)], args := [d] }
  | _ => none }
def fnTermsRow : OpenClaim := { program := "ytfdejhhnochomaa", sum := "7a13f9c79c8b3472a9b1c3ff5ed3ed0af760fb2b51bc854669ffe1b401ee578d", func := "loop.example/g00895/laws.FnTerms", spec := "fnTerms", recurses := true, apart := false }
def FnTermsSaid : Prop := fnTermsRow.holds Try.pinned (OpenSpec.ofChange fnTermsSpec)

/-- ITS FALSE NEIGHBOUR: 'it returns false'. Refute it at one input. -/
def fnTermsWrong : ChangeSpec := { name := "fnTerms", fn := fun _ => fun
  | [d] => { results := [.lit (.bool false)], args := [d] }
  | _ => none }
def FnTermsWrongFalsely : Prop := fnTermsRow.holds Try.pinned (OpenSpec.ofChange fnTermsWrong)

/-- 'laws.FnExactSubAt': WHATEVER THE INPUT: true; the input reads as it did. -/
def fnExactSubAtSpec : ChangeSpec := { name := "fnExactSubAt", fn := fun _ => fun
  | [d1, d2, d3] => { results := [.lit (.bool true)], args := [d1, d2, d3] }
  | _ => none }
def fnExactSubAtRow : OpenClaim := { program := "ytfdejhhnochomaa", sum := "7a13f9c79c8b3472a9b1c3ff5ed3ed0af760fb2b51bc854669ffe1b401ee578d", func := "loop.example/g00895/laws.FnExactSubAt", spec := "fnExactSubAt", apart := false }
def FnExactSubAtSaid : Prop := fnExactSubAtRow.holds Try.pinned (OpenSpec.ofChange fnExactSubAtSpec)

/-- ITS FALSE NEIGHBOUR: 'it returns false'. Refute it at one input. -/
def fnExactSubAtWrong : ChangeSpec := { name := "fnExactSubAt", fn := fun _ => fun
  | [d1, d2, d3] => { results := [.lit (.bool false)], args := [d1, d2, d3] }
  | _ => none }
def FnExactSubAtWrongFalsely : Prop := fnExactSubAtRow.holds Try.pinned (OpenSpec.ofChange fnExactSubAtWrong)

/- THE SECOND FORM. 'bulk': how many values and letters a reading holds, each counted each time it is reached (what is shared counts as often as it is met; a slice's spare places count too). A statement '..UptoSaid' is the law's where the arguments, and the package variables that the reading takes, are together of bulk at most 1048576: NARROWER than '..Said'. Prove '..Said' where nothing that the law and all that it calls make is longer than what came in: it says more and counts as full. Else prove '..UptoSaid'. A law counts once. -/
mutual
def uptoBulk {H : Type} : DataW H → Nat
  | .lit (.string bytes) => bytes.length + 1
  | .lit _ => 1
  | .nil => 1
  | .ptr d => uptoBulk d + 1
  | .slice elems spare => uptoBulkAll elems + uptoBulkAll spare + 1
  | .agg parts => uptoBulkAll parts + 1
  | .iface _ d => uptoBulk d + 1
  | .map entries => uptoBulkEntries entries + 1
  | .held _ => 1
def uptoBulkAll {H : Type} : List (DataW H) → Nat
  | [] => 0
  | d :: r => uptoBulk d + uptoBulkAll r
def uptoBulkEntries {H : Type} : List (Lit × DataW H) → Nat
  | [] => 0
  | x :: r => uptoBulkEntry x + uptoBulkEntries r
def uptoBulkEntry {H : Type} : Lit × DataW H → Nat
  | (.string bytes, d) => bytes.length + uptoBulk d + 1
  | (_, d) => uptoBulk d + 1
 end
def uptoSmall : (H : Type) → List (DataW H) → Bool := fun _ ds => decide (uptoBulkAll ds ≤ 1048576)
def OpenSpec.upto (s : _root_.Go.ChangeSpec) : _root_.Go.OpenSpec := { _root_.Go.OpenSpec.ofChange s with cond := some uptoSmall }

/-- 'laws.FnExactArgsAt', WHERE WHAT IT READS IS OF BULK AT MOST 1048576: true; the input reads as it did. -/
def fnExactArgsAtUptoRow : OpenClaim := { program := "ytfdejhhnochomaa", sum := "7a13f9c79c8b3472a9b1c3ff5ed3ed0af760fb2b51bc854669ffe1b401ee578d", func := "loop.example/g00895/laws.FnExactArgsAt", spec := "fnExactArgsAt", apart := false, narrowed := true }
def FnExactArgsAtUptoSaid : Prop := fnExactArgsAtUptoRow.holds Try.pinned (OpenSpec.upto fnExactArgsAtSpec)

/-- 'laws.FnExactRedexAt', WHERE WHAT IT READS IS OF BULK AT MOST 1048576: true; the input reads as it did. -/
def fnExactRedexAtUptoRow : OpenClaim := { program := "ytfdejhhnochomaa", sum := "7a13f9c79c8b3472a9b1c3ff5ed3ed0af760fb2b51bc854669ffe1b401ee578d", func := "loop.example/g00895/laws.FnExactRedexAt", spec := "fnExactRedexAt", unfollowed := true, recurses := true, apart := false, narrowed := true }
def FnExactRedexAtUptoSaid : Prop := fnExactRedexAtUptoRow.holds Try.pinned (OpenSpec.upto fnExactRedexAtSpec)

/-- 'laws.FnExactStepAt', WHERE WHAT IT READS IS OF BULK AT MOST 1048576: true; the input reads as it did. -/
def fnExactStepAtUptoRow : OpenClaim := { program := "ytfdejhhnochomaa", sum := "7a13f9c79c8b3472a9b1c3ff5ed3ed0af760fb2b51bc854669ffe1b401ee578d", func := "loop.example/g00895/laws.FnExactStepAt", spec := "fnExactStepAt", unfollowed := true, recurses := true, apart := false, narrowed := true }
def FnExactStepAtUptoSaid : Prop := fnExactStepAtUptoRow.holds Try.pinned (OpenSpec.upto fnExactStepAtSpec)

/-- 'laws.FnExactWalkOk', WHERE WHAT IT READS IS OF BULK AT MOST 1048576: true; the input reads as it did. -/
def fnExactWalkOkUptoRow : OpenClaim := { program := "ytfdejhhnochomaa", sum := "7a13f9c79c8b3472a9b1c3ff5ed3ed0af760fb2b51bc854669ffe1b401ee578d", func := "loop.example/g00895/laws.FnExactWalkOk", spec := "fnExactWalkOk", unfollowed := true, recurses := true, apart := false, narrowed := true }
def FnExactWalkOkUptoSaid : Prop := fnExactWalkOkUptoRow.holds Try.pinned (OpenSpec.upto fnExactWalkOkSpec)

/-- 'laws.FnExactEndTerm', WHERE WHAT IT READS IS OF BULK AT MOST 1048576: true; the input reads as it did. -/
def fnExactEndTermUptoRow : OpenClaim := { program := "ytfdejhhnochomaa", sum := "7a13f9c79c8b3472a9b1c3ff5ed3ed0af760fb2b51bc854669ffe1b401ee578d", func := "loop.example/g00895/laws.FnExactEndTerm", spec := "fnExactEndTerm", unfollowed := true, recurses := true, apart := false, narrowed := true }
def FnExactEndTermUptoSaid : Prop := fnExactEndTermUptoRow.holds Try.pinned (OpenSpec.upto fnExactEndTermSpec)

/-- 'laws.FnExactWalkInside', WHERE WHAT IT READS IS OF BULK AT MOST 1048576: true; the input reads as it did. -/
def fnExactWalkInsideUptoRow : OpenClaim := { program := "ytfdejhhnochomaa", sum := "7a13f9c79c8b3472a9b1c3ff5ed3ed0af760fb2b51bc854669ffe1b401ee578d", func := "loop.example/g00895/laws.FnExactWalkInside", spec := "fnExactWalkInside", unfollowed := true, recurses := true, apart := false, narrowed := true }
def FnExactWalkInsideUptoSaid : Prop := fnExactWalkInsideUptoRow.holds Try.pinned (OpenSpec.upto fnExactWalkInsideSpec)

/-- 'laws.FnTerms', WHERE WHAT IT READS IS OF BULK AT MOST 1048576: true; the input reads as it did. -/
def fnTermsUptoRow : OpenClaim := { program := "ytfdejhhnochomaa", sum := "7a13f9c79c8b3472a9b1c3ff5ed3ed0af760fb2b51bc854669ffe1b401ee578d", func := "loop.example/g00895/laws.FnTerms", spec := "fnTerms", recurses := true, apart := false, narrowed := true }
def FnTermsUptoSaid : Prop := fnTermsUptoRow.holds Try.pinned (OpenSpec.upto fnTermsSpec)

/-- 'laws.FnExactSubAt', WHERE WHAT IT READS IS OF BULK AT MOST 1048576: true; the input reads as it did. -/
def fnExactSubAtUptoRow : OpenClaim := { program := "ytfdejhhnochomaa", sum := "7a13f9c79c8b3472a9b1c3ff5ed3ed0af760fb2b51bc854669ffe1b401ee578d", func := "loop.example/g00895/laws.FnExactSubAt", spec := "fnExactSubAt", apart := false, narrowed := true }
def FnExactSubAtUptoSaid : Prop := fnExactSubAtUptoRow.holds Try.pinned (OpenSpec.upto fnExactSubAtSpec)

end Rows
end Go.Proofs.Ytfdejhhnochomaa
