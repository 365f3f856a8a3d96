/-
  DERIVED. GIVEN WITH THE SEED: THE CARDS: each row of YtpejbbgifllkkaaDoorRows.lean that lists a variable, with what it lists TIED to the program's text (the seventh form; the later family's looks); each row that meets fmt, with fmt's text TOLD by the authors' own Lean function (tested against real Go, not proved from fmt's source: count such statements apart). THE CARD IS WHAT COUNTS. Prove the row's statement (the work); the ties are given (YtpejbbgifllkkaaDoorTie.lean); close each card by the builder's one call (the guide's Derived/Test/ToyasCard.lean, 'card_holds'). Laid BY PROGRAM, IN A SANDBOX (cutbox-door.mjs). By AI agents, Wed Nov 11 2026. No macro, syntax, notation, axiom, sorry.
-/
import Derived.Test.YtpejbbgifllkkaaDoorRows
import GoSem.ClaimSeven
namespace Go.Proofs.YtpejbbgifllkkaaDoor
namespace Rows

/-- THE TIED CARD OF 'laws.FnExactShiftParts'. -/
def fnExactShiftPartsCard : Claim7 := { stood := { row := fnExactShiftPartsRow, standIns := [], harness := (true, "2d12bd7e6ffa492922bf7b25857cced5b058cce21d30b06804c1b2eb0ce0a257"), looks := true }, kinds := [], alts := [], laidByText := true, laidKinds := [.sentinel, .sentinel, .sentinel, .sentinel], laidTests := true, laidLooks := .later }
def FnExactShiftPartsCardSaid : Prop := Claim7.holds Tryd.pinned (.plain (OpenSpec.ofChange fnExactShiftPartsSpec)) fnExactShiftPartsCard

/-- THE TIED CARD OF 'laws.FnExactDeedText'. -/
def fnExactDeedTextCard : Claim7 := { stood := { row := fnExactDeedTextRow, standIns := [], harness := (true, "2d12bd7e6ffa492922bf7b25857cced5b058cce21d30b06804c1b2eb0ce0a257"), looks := true }, kinds := [], alts := [], laidByText := true, laidKinds := [.data, .data, .data], laidTests := true, laidLooks := .later }
def FnExactDeedTextCardSaid : Prop := Claim7.holds Tryd.pinned (.plain (OpenSpec.ofChange fnExactDeedTextSpec)) fnExactDeedTextCard

/-- THE TIED CARD OF 'laws.FnExactDropsText'. -/
def fnExactDropsTextCard : Claim7 := { stood := { row := fnExactDropsTextRow, standIns := [], harness := (true, "2d12bd7e6ffa492922bf7b25857cced5b058cce21d30b06804c1b2eb0ce0a257"), looks := true }, kinds := [], alts := [], laidByText := true, laidKinds := [.data, .data, .data], laidTests := true, laidLooks := .later }
def FnExactDropsTextCardSaid : Prop := Claim7.holds Tryd.pinned (.plain (OpenSpec.ofChange fnExactDropsTextSpec)) fnExactDropsTextCard

/-- THE SECOND FORM's CARD OF 'laws.FnExactShiftParts'. -/
def fnExactShiftPartsUptoCard : Claim7 := { stood := { row := fnExactShiftPartsUptoRow, standIns := [], harness := (true, "2d12bd7e6ffa492922bf7b25857cced5b058cce21d30b06804c1b2eb0ce0a257"), looks := true }, kinds := [], alts := [], laidByText := true, laidKinds := [.sentinel, .sentinel, .sentinel, .sentinel], laidTests := true, laidLooks := .later }
def FnExactShiftPartsUptoCardSaid : Prop := Claim7.holds Tryd.pinned (.plain (OpenSpec.upto fnExactShiftPartsSpec)) fnExactShiftPartsUptoCard

/-- THE SECOND FORM's CARD OF 'laws.FnExactDeedText'. -/
def fnExactDeedTextUptoCard : Claim7 := { stood := { row := fnExactDeedTextUptoRow, standIns := [], harness := (true, "2d12bd7e6ffa492922bf7b25857cced5b058cce21d30b06804c1b2eb0ce0a257"), looks := true }, kinds := [], alts := [], laidByText := true, laidKinds := [.data, .data, .data], laidTests := true, laidLooks := .later }
def FnExactDeedTextUptoCardSaid : Prop := Claim7.holds Tryd.pinned (.plain (OpenSpec.upto fnExactDeedTextSpec)) fnExactDeedTextUptoCard

/-- THE SECOND FORM's CARD OF 'laws.FnExactDropsText'. -/
def fnExactDropsTextUptoCard : Claim7 := { stood := { row := fnExactDropsTextUptoRow, standIns := [], harness := (true, "2d12bd7e6ffa492922bf7b25857cced5b058cce21d30b06804c1b2eb0ce0a257"), looks := true }, kinds := [], alts := [], laidByText := true, laidKinds := [.data, .data, .data], laidTests := true, laidLooks := .later }
def FnExactDropsTextUptoCardSaid : Prop := Claim7.holds Tryd.pinned (.plain (OpenSpec.upto fnExactDropsTextSpec)) fnExactDropsTextUptoCard
end Rows
end Go.Proofs.YtpejbbgifllkkaaDoor
