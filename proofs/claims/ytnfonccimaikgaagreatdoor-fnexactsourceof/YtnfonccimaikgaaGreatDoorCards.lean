/-
  DERIVED. GIVEN WITH THE SEED: THE CARDS: each row of YtnfonccimaikgaaGreatDoorRows.lean that lists a variable, with what it lists TIED to the program's text (the seventh form; the later family's looks); each row that meets fmt, with fmt's text TOLD by the authors' own Lean function (tested against real Go, not proved from fmt's source: count such statements apart). THE CARD IS WHAT COUNTS. Prove the row's statement (the work); the ties are given (YtnfonccimaikgaaGreatDoorTie.lean); close each card by the builder's one call (the guide's Derived/Test/ToyasCard.lean, 'card_holds'). Laid BY PROGRAM, IN A SANDBOX (cutbox-door.mjs). By AI agents, Wed Nov 11 2026. No macro, syntax, notation, axiom, sorry.
-/
import Derived.Test.YtnfonccimaikgaaGreatDoorRows
import GoSem.ClaimSeven
namespace Go.Proofs.YtnfonccimaikgaaGreatDoor
namespace Rows

/-- THE TIED CARD OF 'laws.FnExactListed'. -/
def fnExactListedCard : Claim7 := { stood := { row := fnExactListedRow, standIns := [], harness := (true, "3b35289476209492e6c3e97f566e03e54e87f9f0254e869d53c1ac802634b07c"), looks := false }, kinds := [], alts := [], laidByText := true, laidKinds := [.data, .data, .data, .data, .data, .data, .data, .data, .data, .data, .data, .data, .data, .pinned], laidTests := true, laidLooks := .later }
def FnExactListedCardSaid : Prop := Claim7.holds Tryz.pinned (.plain (OpenSpec.ofChange fnExactListedSpec)) fnExactListedCard

/-- THE TIED CARD OF 'laws.FnExactSourceOf'. -/
def fnExactSourceOfCard : Claim7 := { stood := { row := fnExactSourceOfRow, standIns := [], harness := (true, "3b35289476209492e6c3e97f566e03e54e87f9f0254e869d53c1ac802634b07c"), looks := false }, kinds := [], alts := [], laidByText := true, laidKinds := [.data, .data, .data, .data, .data, .data, .data, .data, .data, .data, .data, .data, .data, .pinned], laidTests := true, laidLooks := .later }
def FnExactSourceOfCardSaid : Prop := Claim7.holds Tryz.pinned (.plain (OpenSpec.ofChange fnExactSourceOfSpec)) fnExactSourceOfCard

/-- THE SECOND FORM's CARD OF 'laws.FnExactListed'. -/
def fnExactListedUptoCard : Claim7 := { stood := { row := fnExactListedUptoRow, standIns := [], harness := (true, "3b35289476209492e6c3e97f566e03e54e87f9f0254e869d53c1ac802634b07c"), looks := false }, kinds := [], alts := [], laidByText := true, laidKinds := [.data, .data, .data, .data, .data, .data, .data, .data, .data, .data, .data, .data, .data, .pinned], laidTests := true, laidLooks := .later }
def FnExactListedUptoCardSaid : Prop := Claim7.holds Tryz.pinned (.plain (OpenSpec.upto fnExactListedSpec)) fnExactListedUptoCard

/-- THE SECOND FORM's CARD OF 'laws.FnExactSourceOf'. -/
def fnExactSourceOfUptoCard : Claim7 := { stood := { row := fnExactSourceOfUptoRow, standIns := [], harness := (true, "3b35289476209492e6c3e97f566e03e54e87f9f0254e869d53c1ac802634b07c"), looks := false }, kinds := [], alts := [], laidByText := true, laidKinds := [.data, .data, .data, .data, .data, .data, .data, .data, .data, .data, .data, .data, .data, .pinned], laidTests := true, laidLooks := .later }
def FnExactSourceOfUptoCardSaid : Prop := Claim7.holds Tryz.pinned (.plain (OpenSpec.upto fnExactSourceOfSpec)) fnExactSourceOfUptoCard
end Rows
end Go.Proofs.YtnfonccimaikgaaGreatDoor
