/-
  DERIVED. GIVEN WITH THE SEED: THE CARDS: each row of YtlaloakegajheabDoorRows.lean that lists a variable, with what it lists TIED to the program's text (the seventh form; the later family's looks); each row that meets fmt, with fmt's text TOLD by the authors' own Lean function (tested against real Go, not proved from fmt's source: count such statements apart). THE CARD IS WHAT COUNTS. Prove the row's statement (the work); the ties are given (YtlaloakegajheabDoorTie.lean); close each card by the builder's one call (the guide's Derived/Test/ToyasCard.lean, 'card_holds'). Laid BY PROGRAM, IN A SANDBOX (cutbox-door.mjs). By AI agents, Wed Nov 11 2026. No macro, syntax, notation, axiom, sorry.
-/
import Derived.Test.YtlaloakegajheabDoorRows
import GoSem.ClaimSeven
namespace Go.Proofs.YtlaloakegajheabDoor
namespace Rows

/-- THE TIED CARD OF 'laws.FnExactTextTerm'. -/
def fnExactTextTermCard : Claim7 := { stood := { row := fnExactTextTermRow, standIns := [], harness := (true, "e03eb5a31bdaee7a4aaa18b0ff03e812508b121ea95f3ef92dcacf57fe28e8ad"), looks := true }, kinds := [], alts := [], laidByText := true, laidKinds := [.data, .data, .data, .sentinel, .sentinel], laidTests := true, laidLooks := .later }
def FnExactTextTermCardSaid : Prop := Claim7.holds Tryd.pinned (.plain (OpenSpec.ofChange fnExactTextTermSpec)) fnExactTextTermCard

/-- THE TIED CARD OF 'laws.FnExactRuleText'. -/
def fnExactRuleTextCard : Claim7 := { stood := { row := fnExactRuleTextRow, standIns := [], harness := (true, "e03eb5a31bdaee7a4aaa18b0ff03e812508b121ea95f3ef92dcacf57fe28e8ad"), looks := true }, kinds := [], alts := [], laidByText := true, laidKinds := [.data, .data, .data], laidTests := true, laidLooks := .later }
def FnExactRuleTextCardSaid : Prop := Claim7.holds Tryd.pinned (.plain (OpenSpec.ofChange fnExactRuleTextSpec)) fnExactRuleTextCard

/-- THE TIED CARD OF 'laws.FnExactSigText'. -/
def fnExactSigTextCard : Claim7 := { stood := { row := fnExactSigTextRow, standIns := [], harness := (true, "e03eb5a31bdaee7a4aaa18b0ff03e812508b121ea95f3ef92dcacf57fe28e8ad"), looks := true }, kinds := [], alts := [], laidByText := true, laidKinds := [.data, .data, .data], laidTests := true, laidLooks := .later }
def FnExactSigTextCardSaid : Prop := Claim7.holds Tryd.pinned (.plain (OpenSpec.ofChange fnExactSigTextSpec)) fnExactSigTextCard

/-- THE TIED CARD OF 'laws.FnExactTextSig'. -/
def fnExactTextSigCard : Claim7 := { stood := { row := fnExactTextSigRow, standIns := [], harness := (true, "e03eb5a31bdaee7a4aaa18b0ff03e812508b121ea95f3ef92dcacf57fe28e8ad"), looks := true }, kinds := [], alts := [], laidByText := true, laidKinds := [.data, .data, .data, .data, .sentinel, .sentinel, .pinned], laidTests := true, laidLooks := .later }
def FnExactTextSigCardSaid : Prop := Claim7.holds Tryd.pinned (.plain (OpenSpec.ofChange fnExactTextSigSpec)) fnExactTextSigCard

/-- THE TIED CARD OF 'laws.FnExactSubstText'. -/
def fnExactSubstTextCard : Claim7 := { stood := { row := fnExactSubstTextRow, standIns := [], harness := (true, "e03eb5a31bdaee7a4aaa18b0ff03e812508b121ea95f3ef92dcacf57fe28e8ad"), looks := true }, kinds := [], alts := [], laidByText := true, laidKinds := [.data, .data, .data], laidTests := true, laidLooks := .later }
def FnExactSubstTextCardSaid : Prop := Claim7.holds Tryd.pinned (.plain (OpenSpec.ofChange fnExactSubstTextSpec)) fnExactSubstTextCard

/-- THE SECOND FORM's CARD OF 'laws.FnExactTextTerm'. -/
def fnExactTextTermUptoCard : Claim7 := { stood := { row := fnExactTextTermUptoRow, standIns := [], harness := (true, "e03eb5a31bdaee7a4aaa18b0ff03e812508b121ea95f3ef92dcacf57fe28e8ad"), looks := true }, kinds := [], alts := [], laidByText := true, laidKinds := [.data, .data, .data, .sentinel, .sentinel], laidTests := true, laidLooks := .later }
def FnExactTextTermUptoCardSaid : Prop := Claim7.holds Tryd.pinned (.plain (OpenSpec.upto fnExactTextTermSpec)) fnExactTextTermUptoCard

/-- THE SECOND FORM's CARD OF 'laws.FnExactRuleText'. -/
def fnExactRuleTextUptoCard : Claim7 := { stood := { row := fnExactRuleTextUptoRow, standIns := [], harness := (true, "e03eb5a31bdaee7a4aaa18b0ff03e812508b121ea95f3ef92dcacf57fe28e8ad"), looks := true }, kinds := [], alts := [], laidByText := true, laidKinds := [.data, .data, .data], laidTests := true, laidLooks := .later }
def FnExactRuleTextUptoCardSaid : Prop := Claim7.holds Tryd.pinned (.plain (OpenSpec.upto fnExactRuleTextSpec)) fnExactRuleTextUptoCard

/-- THE SECOND FORM's CARD OF 'laws.FnExactSigText'. -/
def fnExactSigTextUptoCard : Claim7 := { stood := { row := fnExactSigTextUptoRow, standIns := [], harness := (true, "e03eb5a31bdaee7a4aaa18b0ff03e812508b121ea95f3ef92dcacf57fe28e8ad"), looks := true }, kinds := [], alts := [], laidByText := true, laidKinds := [.data, .data, .data], laidTests := true, laidLooks := .later }
def FnExactSigTextUptoCardSaid : Prop := Claim7.holds Tryd.pinned (.plain (OpenSpec.upto fnExactSigTextSpec)) fnExactSigTextUptoCard

/-- THE SECOND FORM's CARD OF 'laws.FnExactTextSig'. -/
def fnExactTextSigUptoCard : Claim7 := { stood := { row := fnExactTextSigUptoRow, standIns := [], harness := (true, "e03eb5a31bdaee7a4aaa18b0ff03e812508b121ea95f3ef92dcacf57fe28e8ad"), looks := true }, kinds := [], alts := [], laidByText := true, laidKinds := [.data, .data, .data, .data, .sentinel, .sentinel, .pinned], laidTests := true, laidLooks := .later }
def FnExactTextSigUptoCardSaid : Prop := Claim7.holds Tryd.pinned (.plain (OpenSpec.upto fnExactTextSigSpec)) fnExactTextSigUptoCard

/-- THE SECOND FORM's CARD OF 'laws.FnExactSubstText'. -/
def fnExactSubstTextUptoCard : Claim7 := { stood := { row := fnExactSubstTextUptoRow, standIns := [], harness := (true, "e03eb5a31bdaee7a4aaa18b0ff03e812508b121ea95f3ef92dcacf57fe28e8ad"), looks := true }, kinds := [], alts := [], laidByText := true, laidKinds := [.data, .data, .data], laidTests := true, laidLooks := .later }
def FnExactSubstTextUptoCardSaid : Prop := Claim7.holds Tryd.pinned (.plain (OpenSpec.upto fnExactSubstTextSpec)) fnExactSubstTextUptoCard
end Rows
end Go.Proofs.YtlaloakegajheabDoor
