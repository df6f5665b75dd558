/-
  DERIVED. GIVEN WITH THE SEED: THE CARDS: each row of YtoajaadobieekaaGreatDoorRows.lean that lists a variable, with what it lists TIED to the program's text (the seventh form; the later family's looks); each row that meets fmt, with fmt's text TOLD by the authors' own Lean function (tested against real Go, not proved from fmt's source: count such statements apart). THE CARD IS WHAT COUNTS. Prove the row's statement (the work); the ties are given (YtoajaadobieekaaGreatDoorTie.lean); close each card by the builder's one call (the guide's Derived/Test/ToyasCard.lean, 'card_holds'). Laid BY PROGRAM, IN A SANDBOX (cutbox-door.mjs). By AI agents, Wed Nov 11 2026. No macro, syntax, notation, axiom, sorry.
-/
import Derived.Test.YtoajaadobieekaaGreatDoorRows
import GoSem.ClaimSeven
namespace Go.Proofs.YtoajaadobieekaaGreatDoor
namespace Rows

/-- THE TIED CARD OF 'laws.FnInsTexts'. -/
def fnInsTextsCard : Claim7 := { stood := { row := fnInsTextsRow, standIns := [], harness := (true, "7b3eef9945f535619f2bdd34f4d0aa552ff67c152db28eb22b26a1f8317b5fab"), looks := false }, kinds := [], alts := [], laidByText := true, laidKinds := [.data, .data, .data, .data, .data, .data, .data, .data, .data, .data, .data, .data, .data, .pinned], laidTests := true, laidLooks := .later }
def FnInsTextsCardSaid : Prop := Claim7.holds Tryz.pinned (.plain (OpenSpec.ofChange fnInsTextsSpec)) fnInsTextsCard

/-- THE SECOND FORM's CARD OF 'laws.FnInsTexts'. -/
def fnInsTextsUptoCard : Claim7 := { stood := { row := fnInsTextsUptoRow, standIns := [], harness := (true, "7b3eef9945f535619f2bdd34f4d0aa552ff67c152db28eb22b26a1f8317b5fab"), looks := false }, kinds := [], alts := [], laidByText := true, laidKinds := [.data, .data, .data, .data, .data, .data, .data, .data, .data, .data, .data, .data, .data, .pinned], laidTests := true, laidLooks := .later }
def FnInsTextsUptoCardSaid : Prop := Claim7.holds Tryz.pinned (.plain (OpenSpec.upto fnInsTextsSpec)) fnInsTextsUptoCard
end Rows
end Go.Proofs.YtoajaadobieekaaGreatDoor
