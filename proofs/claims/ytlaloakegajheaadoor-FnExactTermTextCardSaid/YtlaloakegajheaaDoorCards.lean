/-
  DERIVED. GIVEN WITH THE SEED: THE CARDS: each row of YtlaloakegajheaaDoorRows.lean that lists a variable, with what it lists TIED to the program's text (the seventh form; the later family's looks); each row that meets fmt, with fmt's text TOLD by the authors' own Lean function (tested against real Go, not proved from fmt's source: count such statements apart). THE CARD IS WHAT COUNTS. Prove the row's statement (the work); the ties are given (YtlaloakegajheaaDoorTie.lean); close each card by the builder's one call (the guide's Derived/Test/ToyasCard.lean, 'card_holds'). Laid BY PROGRAM, IN A SANDBOX (cutbox-door.mjs). By AI agents, Wed Nov 11 2026. No macro, syntax, notation, axiom, sorry.
-/
import Derived.Test.YtlaloakegajheaaDoorRows
import GoSem.ClaimSeven
namespace Go.Proofs.YtlaloakegajheaaDoor
namespace Rows

/-- THE TIED CARD OF 'laws.FnTermTexts'. -/
def fnTermTextsCard : Claim7 := { stood := { row := fnTermTextsRow, standIns := [], harness := (true, "f2e2fef744711ef14acfbc18c31697c04596f0a90568a21281f19d52c7b4d597"), looks := true }, kinds := [], alts := [], laidByText := true, laidKinds := [.data, .data, .data, .sentinel, .sentinel], laidTests := true, laidLooks := .later }
def FnTermTextsCardSaid : Prop := Claim7.holds Tryd.pinned (.plain (OpenSpec.ofChange fnTermTextsSpec)) fnTermTextsCard

/-- THE TIED CARD OF 'laws.FnExactTermText'. -/
def fnExactTermTextCard : Claim7 := { stood := { row := fnExactTermTextRow, standIns := [], harness := (true, "f2e2fef744711ef14acfbc18c31697c04596f0a90568a21281f19d52c7b4d597"), looks := true }, kinds := [], alts := [], laidByText := true, laidKinds := [.data, .data, .data], laidTests := true, laidLooks := .later }
def FnExactTermTextCardSaid : Prop := Claim7.holds Tryd.pinned (.plain (OpenSpec.ofChange fnExactTermTextSpec)) fnExactTermTextCard

/-- THE SECOND FORM's CARD OF 'laws.FnTermTexts'. -/
def fnTermTextsUptoCard : Claim7 := { stood := { row := fnTermTextsUptoRow, standIns := [], harness := (true, "f2e2fef744711ef14acfbc18c31697c04596f0a90568a21281f19d52c7b4d597"), looks := true }, kinds := [], alts := [], laidByText := true, laidKinds := [.data, .data, .data, .sentinel, .sentinel], laidTests := true, laidLooks := .later }
def FnTermTextsUptoCardSaid : Prop := Claim7.holds Tryd.pinned (.plain (OpenSpec.upto fnTermTextsSpec)) fnTermTextsUptoCard

/-- THE SECOND FORM's CARD OF 'laws.FnExactTermText'. -/
def fnExactTermTextUptoCard : Claim7 := { stood := { row := fnExactTermTextUptoRow, standIns := [], harness := (true, "f2e2fef744711ef14acfbc18c31697c04596f0a90568a21281f19d52c7b4d597"), looks := true }, kinds := [], alts := [], laidByText := true, laidKinds := [.data, .data, .data], laidTests := true, laidLooks := .later }
def FnExactTermTextUptoCardSaid : Prop := Claim7.holds Tryd.pinned (.plain (OpenSpec.upto fnExactTermTextSpec)) fnExactTermTextUptoCard
end Rows
end Go.Proofs.YtlaloakegajheaaDoor
