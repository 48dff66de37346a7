/-
  No cell of these rows narrows 'for every input' (looked for: loops, veiled, ifaces, maps, wideKeys, modest, calm, conditions, laid).
  DERIVED. THE GIVEN ROWS OF THIS SEAT. 9 by the template 'for every input the law returns true; each argument reads behind the call as it read before'; 0 by the template 'total and deterministic' (their statements: YthbhiihhanochaaTotals.lean).
  GIVEN WITH THE SEED: the statements are not yours to turn. If you find one false, say at which input.
  Laid BY PROGRAM, IN A SANDBOX (cutbox-rows.mjs): the forced cells as the released guide's own fill.sh prints them over the translation 49f1e74c7b49865e… (all of the seat's roots in one cut). By AI agents, Wed Nov 11 2026. No macro, syntax, notation, axiom, sorry.
-/
import Derived.Test.YthbhiihhanochaaChecked
import GoSem.Claim
import GoSem.ClaimJoined
import GoSem.ClaimMapViews
import Derived.JoinedTies
import Derived.KernelRfl
namespace Go.Proofs.Ythbhiihhanochaa
/- THE CELL 'sum', in the pinned program and in every row, IS THE sha256 OF THE DUMP (.gsa) THAT YthbhiihhanochaaProg.lean LOADS. Nothing in Lean hashes anything: it is a label: what it is worth is what the hold of that sum in a sandbox is worth. -/
noncomputable def Try.pinned : Pinned := { name := "ythbhiihhanochaa", sum := "49f1e74c7b49865e2d82a43cbf2be904ef14fb8a1c0554eb8b6002962d7008fa", checked := Try.checked }
namespace Rows
def none {H : Type} : Left H := { results := [], args := [] }

/-- 'laws.FnMatched': WHATEVER THE INPUT: true; the input reads as it did. -/
def fnMatchedSpec : ChangeSpec := { name := "fnMatched", fn := fun _ => fun
  | [d] => { results := [.lit (.bool true)], args := [d] }
  | _ => none }
def fnMatchedRow : OpenClaim := { program := "ythbhiihhanochaa", sum := "49f1e74c7b49865e2d82a43cbf2be904ef14fb8a1c0554eb8b6002962d7008fa", func := "loop.example/g00895/laws.FnMatched", spec := "fnMatched", unfollowed := true, recurses := true, apart := false }
def FnMatchedSaid : Prop := fnMatchedRow.holds Try.pinned (OpenSpec.ofChange fnMatchedSpec)

/-- ITS FALSE NEIGHBOUR: 'it returns false'. Refute it at one input. -/
def fnMatchedWrong : ChangeSpec := { name := "fnMatched", fn := fun _ => fun
  | [d] => { results := [.lit (.bool false)], args := [d] }
  | _ => none }
def FnMatchedWrongFalsely : Prop := fnMatchedRow.holds Try.pinned (OpenSpec.ofChange fnMatchedWrong)

/-- 'laws.FnEmbeds': WHATEVER THE INPUT: true; the input reads as it did. -/
def fnEmbedsSpec : ChangeSpec := { name := "fnEmbeds", fn := fun _ => fun
  | [d] => { results := [.lit (.bool true)], args := [d] }
  | _ => none }
def fnEmbedsRow : OpenClaim := { program := "ythbhiihhanochaa", sum := "49f1e74c7b49865e2d82a43cbf2be904ef14fb8a1c0554eb8b6002962d7008fa", func := "loop.example/g00895/laws.FnEmbeds", spec := "fnEmbeds", unfollowed := true, recurses := true, apart := false }
def FnEmbedsSaid : Prop := fnEmbedsRow.holds Try.pinned (OpenSpec.ofChange fnEmbedsSpec)

/-- ITS FALSE NEIGHBOUR: 'it returns false'. Refute it at one input. -/
def fnEmbedsWrong : ChangeSpec := { name := "fnEmbeds", fn := fun _ => fun
  | [d] => { results := [.lit (.bool false)], args := [d] }
  | _ => none }
def FnEmbedsWrongFalsely : Prop := fnEmbedsRow.holds Try.pinned (OpenSpec.ofChange fnEmbedsWrong)

/-- 'laws.FnGeneral': WHATEVER THE INPUT: true; the input reads as it did. -/
def fnGeneralSpec : ChangeSpec := { name := "fnGeneral", fn := fun _ => fun
  | [d] => { results := [.lit (.bool true)], args := [d] }
  | _ => none }
def fnGeneralRow : OpenClaim := { program := "ythbhiihhanochaa", sum := "49f1e74c7b49865e2d82a43cbf2be904ef14fb8a1c0554eb8b6002962d7008fa", func := "loop.example/g00895/laws.FnGeneral", spec := "fnGeneral", unfollowed := true, recurses := true, apart := false }
def FnGeneralSaid : Prop := fnGeneralRow.holds Try.pinned (OpenSpec.ofChange fnGeneralSpec)

/-- ITS FALSE NEIGHBOUR: 'it returns false'. Refute it at one input. -/
def fnGeneralWrong : ChangeSpec := { name := "fnGeneral", fn := fun _ => fun
  | [d] => { results := [.lit (.bool false)], args := [d] }
  | _ => none }
def FnGeneralWrongFalsely : Prop := fnGeneralRow.holds Try.pinned (OpenSpec.ofChange fnGeneralWrong)

/-- 'laws.FnExactMatched': WHATEVER THE INPUT: true; the input reads as it did. -/
def fnExactMatchedSpec : ChangeSpec := { name := "fnExactMatched", fn := fun _ => fun
  | [d1, d2, d3] => { results := [.lit (.bool true)], args := [d1, d2, d3] }
  | _ => none }
def fnExactMatchedRow : OpenClaim := { program := "ythbhiihhanochaa", sum := "49f1e74c7b49865e2d82a43cbf2be904ef14fb8a1c0554eb8b6002962d7008fa", func := "loop.example/g00895/laws.FnExactMatched", spec := "fnExactMatched", unfollowed := true, recurses := true, apart := false }
def FnExactMatchedSaid : Prop := fnExactMatchedRow.holds Try.pinned (OpenSpec.ofChange fnExactMatchedSpec)

/-- ITS FALSE NEIGHBOUR: 'it returns false'. Refute it at one input. -/
def fnExactMatchedWrong : ChangeSpec := { name := "fnExactMatched", fn := fun _ => fun
  | [d1, d2, d3] => { results := [.lit (.bool false)], args := [d1, d2, d3] }
  | _ => none }
def FnExactMatchedWrongFalsely : Prop := fnExactMatchedRow.holds Try.pinned (OpenSpec.ofChange fnExactMatchedWrong)

/-- 'laws.FnExactInstanceIn': WHATEVER THE INPUT: true; the input reads as it did. -/
def fnExactInstanceInSpec : ChangeSpec := { name := "fnExactInstanceIn", fn := fun _ => fun
  | [d1, d2, d3] => { results := [.lit (.bool true)], args := [d1, d2, d3] }
  | _ => none }
def fnExactInstanceInRow : OpenClaim := { program := "ythbhiihhanochaa", sum := "49f1e74c7b49865e2d82a43cbf2be904ef14fb8a1c0554eb8b6002962d7008fa", func := "loop.example/g00895/laws.FnExactInstanceIn", spec := "fnExactInstanceIn", unfollowed := true, recurses := true, apart := false }
def FnExactInstanceInSaid : Prop := fnExactInstanceInRow.holds Try.pinned (OpenSpec.ofChange fnExactInstanceInSpec)

/-- ITS FALSE NEIGHBOUR: 'it returns false'. Refute it at one input. -/
def fnExactInstanceInWrong : ChangeSpec := { name := "fnExactInstanceIn", fn := fun _ => fun
  | [d1, d2, d3] => { results := [.lit (.bool false)], args := [d1, d2, d3] }
  | _ => none }
def FnExactInstanceInWrongFalsely : Prop := fnExactInstanceInRow.holds Try.pinned (OpenSpec.ofChange fnExactInstanceInWrong)

/-- 'laws.FnExactEmbedsIn': WHATEVER THE INPUT: true; the input reads as it did. -/
def fnExactEmbedsInSpec : ChangeSpec := { name := "fnExactEmbedsIn", fn := fun _ => fun
  | [d1, d2, d3] => { results := [.lit (.bool true)], args := [d1, d2, d3] }
  | _ => none }
def fnExactEmbedsInRow : OpenClaim := { program := "ythbhiihhanochaa", sum := "49f1e74c7b49865e2d82a43cbf2be904ef14fb8a1c0554eb8b6002962d7008fa", func := "loop.example/g00895/laws.FnExactEmbedsIn", spec := "fnExactEmbedsIn", apart := false }
def FnExactEmbedsInSaid : Prop := fnExactEmbedsInRow.holds Try.pinned (OpenSpec.ofChange fnExactEmbedsInSpec)

/-- ITS FALSE NEIGHBOUR: 'it returns false'. Refute it at one input. -/
def fnExactEmbedsInWrong : ChangeSpec := { name := "fnExactEmbedsIn", fn := fun _ => fun
  | [d1, d2, d3] => { results := [.lit (.bool false)], args := [d1, d2, d3] }
  | _ => none }
def FnExactEmbedsInWrongFalsely : Prop := fnExactEmbedsInRow.holds Try.pinned (OpenSpec.ofChange fnExactEmbedsInWrong)

/-- 'laws.FnExactMatchedAll': WHATEVER THE INPUT: true; the input reads as it did. -/
def fnExactMatchedAllSpec : ChangeSpec := { name := "fnExactMatchedAll", fn := fun _ => fun
  | [d1, d2, d3] => { results := [.lit (.bool true)], args := [d1, d2, d3] }
  | _ => none }
def fnExactMatchedAllRow : OpenClaim := { program := "ythbhiihhanochaa", sum := "49f1e74c7b49865e2d82a43cbf2be904ef14fb8a1c0554eb8b6002962d7008fa", func := "loop.example/g00895/laws.FnExactMatchedAll", spec := "fnExactMatchedAll", unfollowed := true, recurses := true, apart := false }
def FnExactMatchedAllSaid : Prop := fnExactMatchedAllRow.holds Try.pinned (OpenSpec.ofChange fnExactMatchedAllSpec)

/-- ITS FALSE NEIGHBOUR: 'it returns false'. Refute it at one input. -/
def fnExactMatchedAllWrong : ChangeSpec := { name := "fnExactMatchedAll", fn := fun _ => fun
  | [d1, d2, d3] => { results := [.lit (.bool false)], args := [d1, d2, d3] }
  | _ => none }
def FnExactMatchedAllWrongFalsely : Prop := fnExactMatchedAllRow.holds Try.pinned (OpenSpec.ofChange fnExactMatchedAllWrong)

/-- 'laws.FnExactMoreGeneral': WHATEVER THE INPUT: true; the input reads as it did. -/
def fnExactMoreGeneralSpec : ChangeSpec := { name := "fnExactMoreGeneral", fn := fun _ => fun
  | [d1, d2, d3] => { results := [.lit (.bool true)], args := [d1, d2, d3] }
  | _ => none }
def fnExactMoreGeneralRow : OpenClaim := { program := "ythbhiihhanochaa", sum := "49f1e74c7b49865e2d82a43cbf2be904ef14fb8a1c0554eb8b6002962d7008fa", func := "loop.example/g00895/laws.FnExactMoreGeneral", spec := "fnExactMoreGeneral", unfollowed := true, recurses := true, apart := false }
def FnExactMoreGeneralSaid : Prop := fnExactMoreGeneralRow.holds Try.pinned (OpenSpec.ofChange fnExactMoreGeneralSpec)

/-- ITS FALSE NEIGHBOUR: 'it returns false'. Refute it at one input. -/
def fnExactMoreGeneralWrong : ChangeSpec := { name := "fnExactMoreGeneral", fn := fun _ => fun
  | [d1, d2, d3] => { results := [.lit (.bool false)], args := [d1, d2, d3] }
  | _ => none }
def FnExactMoreGeneralWrongFalsely : Prop := fnExactMoreGeneralRow.holds Try.pinned (OpenSpec.ofChange fnExactMoreGeneralWrong)

/-- 'laws.FnExactMostGeneral': WHATEVER THE INPUT: true; the input reads as it did. -/
def fnExactMostGeneralSpec : ChangeSpec := { name := "fnExactMostGeneral", fn := fun _ => fun
  | [d1, d2] => { results := [.lit (.bool true)], args := [d1, d2] }
  | _ => none }
def fnExactMostGeneralRow : OpenClaim := { program := "ythbhiihhanochaa", sum := "49f1e74c7b49865e2d82a43cbf2be904ef14fb8a1c0554eb8b6002962d7008fa", func := "loop.example/g00895/laws.FnExactMostGeneral", spec := "fnExactMostGeneral", unfollowed := true, recurses := true, apart := false }
def FnExactMostGeneralSaid : Prop := fnExactMostGeneralRow.holds Try.pinned (OpenSpec.ofChange fnExactMostGeneralSpec)

/-- ITS FALSE NEIGHBOUR: 'it returns false'. Refute it at one input. -/
def fnExactMostGeneralWrong : ChangeSpec := { name := "fnExactMostGeneral", fn := fun _ => fun
  | [d1, d2] => { results := [.lit (.bool false)], args := [d1, d2] }
  | _ => none }
def FnExactMostGeneralWrongFalsely : Prop := fnExactMostGeneralRow.holds Try.pinned (OpenSpec.ofChange fnExactMostGeneralWrong)

/- THE SECOND FORM. 'bulk': how many values and letters a reading holds, each counted each time it is reached (what is shared counts as often as it is met; a slice's spare places count too). A statement '..UptoSaid' is the law's where the arguments, and the package variables that the reading takes, are together of bulk at most 1048576: NARROWER than '..Said'. Prove '..Said' where nothing that the law and all that it calls make is longer than what came in: it says more and counts as full. Else prove '..UptoSaid'. A law counts once. -/
mutual
def uptoBulk {H : Type} : DataW H → Nat
  | .lit (.string bytes) => bytes.length + 1
  | .lit _ => 1
  | .nil => 1
  | .ptr d => uptoBulk d + 1
  | .slice elems spare => uptoBulkAll elems + uptoBulkAll spare + 1
  | .agg parts => uptoBulkAll parts + 1
  | .iface _ d => uptoBulk d + 1
  | .map entries => uptoBulkEntries entries + 1
  | .held _ => 1
def uptoBulkAll {H : Type} : List (DataW H) → Nat
  | [] => 0
  | d :: r => uptoBulk d + uptoBulkAll r
def uptoBulkEntries {H : Type} : List (Lit × DataW H) → Nat
  | [] => 0
  | x :: r => uptoBulkEntry x + uptoBulkEntries r
def uptoBulkEntry {H : Type} : Lit × DataW H → Nat
  | (.string bytes, d) => bytes.length + uptoBulk d + 1
  | (_, d) => uptoBulk d + 1
 end
def uptoSmall : (H : Type) → List (DataW H) → Bool := fun _ ds => decide (uptoBulkAll ds ≤ 1048576)
def OpenSpec.upto (s : _root_.Go.ChangeSpec) : _root_.Go.OpenSpec := { _root_.Go.OpenSpec.ofChange s with cond := some uptoSmall }

/-- 'laws.FnMatched', WHERE WHAT IT READS IS OF BULK AT MOST 1048576: true; the input reads as it did. -/
def fnMatchedUptoRow : OpenClaim := { program := "ythbhiihhanochaa", sum := "49f1e74c7b49865e2d82a43cbf2be904ef14fb8a1c0554eb8b6002962d7008fa", func := "loop.example/g00895/laws.FnMatched", spec := "fnMatched", unfollowed := true, recurses := true, apart := false, narrowed := true }
def FnMatchedUptoSaid : Prop := fnMatchedUptoRow.holds Try.pinned (OpenSpec.upto fnMatchedSpec)

/-- 'laws.FnEmbeds', WHERE WHAT IT READS IS OF BULK AT MOST 1048576: true; the input reads as it did. -/
def fnEmbedsUptoRow : OpenClaim := { program := "ythbhiihhanochaa", sum := "49f1e74c7b49865e2d82a43cbf2be904ef14fb8a1c0554eb8b6002962d7008fa", func := "loop.example/g00895/laws.FnEmbeds", spec := "fnEmbeds", unfollowed := true, recurses := true, apart := false, narrowed := true }
def FnEmbedsUptoSaid : Prop := fnEmbedsUptoRow.holds Try.pinned (OpenSpec.upto fnEmbedsSpec)

/-- 'laws.FnGeneral', WHERE WHAT IT READS IS OF BULK AT MOST 1048576: true; the input reads as it did. -/
def fnGeneralUptoRow : OpenClaim := { program := "ythbhiihhanochaa", sum := "49f1e74c7b49865e2d82a43cbf2be904ef14fb8a1c0554eb8b6002962d7008fa", func := "loop.example/g00895/laws.FnGeneral", spec := "fnGeneral", unfollowed := true, recurses := true, apart := false, narrowed := true }
def FnGeneralUptoSaid : Prop := fnGeneralUptoRow.holds Try.pinned (OpenSpec.upto fnGeneralSpec)

/-- 'laws.FnExactMatched', WHERE WHAT IT READS IS OF BULK AT MOST 1048576: true; the input reads as it did. -/
def fnExactMatchedUptoRow : OpenClaim := { program := "ythbhiihhanochaa", sum := "49f1e74c7b49865e2d82a43cbf2be904ef14fb8a1c0554eb8b6002962d7008fa", func := "loop.example/g00895/laws.FnExactMatched", spec := "fnExactMatched", unfollowed := true, recurses := true, apart := false, narrowed := true }
def FnExactMatchedUptoSaid : Prop := fnExactMatchedUptoRow.holds Try.pinned (OpenSpec.upto fnExactMatchedSpec)

/-- 'laws.FnExactInstanceIn', WHERE WHAT IT READS IS OF BULK AT MOST 1048576: true; the input reads as it did. -/
def fnExactInstanceInUptoRow : OpenClaim := { program := "ythbhiihhanochaa", sum := "49f1e74c7b49865e2d82a43cbf2be904ef14fb8a1c0554eb8b6002962d7008fa", func := "loop.example/g00895/laws.FnExactInstanceIn", spec := "fnExactInstanceIn", unfollowed := true, recurses := true, apart := false, narrowed := true }
def FnExactInstanceInUptoSaid : Prop := fnExactInstanceInUptoRow.holds Try.pinned (OpenSpec.upto fnExactInstanceInSpec)

/-- 'laws.FnExactEmbedsIn', WHERE WHAT IT READS IS OF BULK AT MOST 1048576: true; the input reads as it did. -/
def fnExactEmbedsInUptoRow : OpenClaim := { program := "ythbhiihhanochaa", sum := "49f1e74c7b49865e2d82a43cbf2be904ef14fb8a1c0554eb8b6002962d7008fa", func := "loop.example/g00895/laws.FnExactEmbedsIn", spec := "fnExactEmbedsIn", apart := false, narrowed := true }
def FnExactEmbedsInUptoSaid : Prop := fnExactEmbedsInUptoRow.holds Try.pinned (OpenSpec.upto fnExactEmbedsInSpec)

/-- 'laws.FnExactMatchedAll', WHERE WHAT IT READS IS OF BULK AT MOST 1048576: true; the input reads as it did. -/
def fnExactMatchedAllUptoRow : OpenClaim := { program := "ythbhiihhanochaa", sum := "49f1e74c7b49865e2d82a43cbf2be904ef14fb8a1c0554eb8b6002962d7008fa", func := "loop.example/g00895/laws.FnExactMatchedAll", spec := "fnExactMatchedAll", unfollowed := true, recurses := true, apart := false, narrowed := true }
def FnExactMatchedAllUptoSaid : Prop := fnExactMatchedAllUptoRow.holds Try.pinned (OpenSpec.upto fnExactMatchedAllSpec)

/-- 'laws.FnExactMoreGeneral', WHERE WHAT IT READS IS OF BULK AT MOST 1048576: true; the input reads as it did. -/
def fnExactMoreGeneralUptoRow : OpenClaim := { program := "ythbhiihhanochaa", sum := "49f1e74c7b49865e2d82a43cbf2be904ef14fb8a1c0554eb8b6002962d7008fa", func := "loop.example/g00895/laws.FnExactMoreGeneral", spec := "fnExactMoreGeneral", unfollowed := true, recurses := true, apart := false, narrowed := true }
def FnExactMoreGeneralUptoSaid : Prop := fnExactMoreGeneralUptoRow.holds Try.pinned (OpenSpec.upto fnExactMoreGeneralSpec)

/-- 'laws.FnExactMostGeneral', WHERE WHAT IT READS IS OF BULK AT MOST 1048576: true; the input reads as it did. -/
def fnExactMostGeneralUptoRow : OpenClaim := { program := "ythbhiihhanochaa", sum := "49f1e74c7b49865e2d82a43cbf2be904ef14fb8a1c0554eb8b6002962d7008fa", func := "loop.example/g00895/laws.FnExactMostGeneral", spec := "fnExactMostGeneral", unfollowed := true, recurses := true, apart := false, narrowed := true }
def FnExactMostGeneralUptoSaid : Prop := fnExactMostGeneralUptoRow.holds Try.pinned (OpenSpec.upto fnExactMostGeneralSpec)

end Rows
end Go.Proofs.Ythbhiihhanochaa
