/-
  DERIVED. GIVEN WITH THE SEED: THE CARDS: each row of YtjbbljlefmgieaaDoorRows.lean that lists a variable, with what it lists TIED to the program's text (the seventh form; the later family's looks); each row that meets fmt, with fmt's text TOLD by the authors' own Lean function (tested against real Go, not proved from fmt's source: count such statements apart). THE CARD IS WHAT COUNTS. Prove the row's statement (the work); the ties are given (YtjbbljlefmgieaaDoorTie.lean); close each card by the builder's one call (the guide's Derived/Test/ToyasCard.lean, 'card_holds'). Laid BY PROGRAM, IN A SANDBOX (cutbox-door.mjs). By AI agents, Wed Nov 11 2026. No macro, syntax, notation, axiom, sorry.
-/
import Derived.Test.YtjbbljlefmgieaaDoorRows
import GoSem.ClaimSeven
namespace Go.Proofs.YtjbbljlefmgieaaDoor
namespace Rows

/-- THE TIED CARD OF 'laws.FnExactReadDeed'. -/
def fnExactReadDeedCard : Claim7 := { stood := { row := fnExactReadDeedRow, standIns := [], harness := (true, "5c9081eef4d6f6d04f5f643c86a0402c7f0ccb25ace37842de1fe8e7cc871600"), looks := true }, kinds := [], alts := [], laidByText := true, laidKinds := [.data, .data, .data, .sentinel, .sentinel], laidTests := true, laidLooks := .later }
def FnExactReadDeedCardSaid : Prop := Claim7.holds Tryd.pinned (.plain (OpenSpec.ofChange fnExactReadDeedSpec)) fnExactReadDeedCard

/-- THE TIED CARD OF 'laws.FnExactReadDrops'. -/
def fnExactReadDropsCard : Claim7 := { stood := { row := fnExactReadDropsRow, standIns := [], harness := (true, "5c9081eef4d6f6d04f5f643c86a0402c7f0ccb25ace37842de1fe8e7cc871600"), looks := true }, kinds := [], alts := [], laidByText := true, laidKinds := [.data, .data, .data, .data, .sentinel, .sentinel, .pinned], laidTests := true, laidLooks := .later }
def FnExactReadDropsCardSaid : Prop := Claim7.holds Tryd.pinned (.plain (OpenSpec.ofChange fnExactReadDropsSpec)) fnExactReadDropsCard

/-- THE TIED CARD OF 'laws.FnExactOrdersText'. -/
def fnExactOrdersTextCard : Claim7 := { stood := { row := fnExactOrdersTextRow, standIns := [], harness := (true, "5c9081eef4d6f6d04f5f643c86a0402c7f0ccb25ace37842de1fe8e7cc871600"), looks := true }, kinds := [], alts := [], laidByText := true, laidKinds := [.data, .data, .data], laidTests := true, laidLooks := .later }
def FnExactOrdersTextCardSaid : Prop := Claim7.holds Tryd.pinned (.plain (OpenSpec.ofChange fnExactOrdersTextSpec)) fnExactOrdersTextCard

/-- THE SECOND FORM's CARD OF 'laws.FnExactReadDeed'. -/
def fnExactReadDeedUptoCard : Claim7 := { stood := { row := fnExactReadDeedUptoRow, standIns := [], harness := (true, "5c9081eef4d6f6d04f5f643c86a0402c7f0ccb25ace37842de1fe8e7cc871600"), looks := true }, kinds := [], alts := [], laidByText := true, laidKinds := [.data, .data, .data, .sentinel, .sentinel], laidTests := true, laidLooks := .later }
def FnExactReadDeedUptoCardSaid : Prop := Claim7.holds Tryd.pinned (.plain (OpenSpec.upto fnExactReadDeedSpec)) fnExactReadDeedUptoCard

/-- THE SECOND FORM's CARD OF 'laws.FnExactReadDrops'. -/
def fnExactReadDropsUptoCard : Claim7 := { stood := { row := fnExactReadDropsUptoRow, standIns := [], harness := (true, "5c9081eef4d6f6d04f5f643c86a0402c7f0ccb25ace37842de1fe8e7cc871600"), looks := true }, kinds := [], alts := [], laidByText := true, laidKinds := [.data, .data, .data, .data, .sentinel, .sentinel, .pinned], laidTests := true, laidLooks := .later }
def FnExactReadDropsUptoCardSaid : Prop := Claim7.holds Tryd.pinned (.plain (OpenSpec.upto fnExactReadDropsSpec)) fnExactReadDropsUptoCard

/-- THE SECOND FORM's CARD OF 'laws.FnExactOrdersText'. -/
def fnExactOrdersTextUptoCard : Claim7 := { stood := { row := fnExactOrdersTextUptoRow, standIns := [], harness := (true, "5c9081eef4d6f6d04f5f643c86a0402c7f0ccb25ace37842de1fe8e7cc871600"), looks := true }, kinds := [], alts := [], laidByText := true, laidKinds := [.data, .data, .data], laidTests := true, laidLooks := .later }
def FnExactOrdersTextUptoCardSaid : Prop := Claim7.holds Tryd.pinned (.plain (OpenSpec.upto fnExactOrdersTextSpec)) fnExactOrdersTextUptoCard
end Rows
end Go.Proofs.YtjbbljlefmgieaaDoor
