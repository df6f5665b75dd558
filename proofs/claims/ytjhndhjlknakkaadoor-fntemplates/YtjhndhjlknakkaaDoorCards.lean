/-
  DERIVED. GIVEN WITH THE SEED: THE CARDS: each row of YtjhndhjlknakkaaDoorRows.lean that lists a variable, with what it lists TIED to the program's text (the seventh form; the later family's looks); each row that meets fmt, with fmt's text TOLD by the authors' own Lean function (tested against real Go, not proved from fmt's source: count such statements apart). THE CARD IS WHAT COUNTS. Prove the row's statement (the work); the ties are given (YtjhndhjlknakkaaDoorTie.lean); close each card by the builder's one call (the guide's Derived/Test/ToyasCard.lean, 'card_holds'). Laid BY PROGRAM, IN A SANDBOX (cutbox-door.mjs). By AI agents, Wed Nov 11 2026. No macro, syntax, notation, axiom, sorry.
-/
import Derived.Test.YtjhndhjlknakkaaDoorRows
import GoSem.ClaimSeven
namespace Go.Proofs.YtjhndhjlknakkaaDoor
namespace Rows

/-- THE TIED CARD OF 'laws.FnTemplates'. -/
def fnTemplatesCard : Claim7 := { stood := { row := fnTemplatesRow, standIns := [], harness := (true, "b9d3111312e51cfff23683cb437de657d625a1fa621fb499dfbb6589276c8b25"), looks := false }, kinds := [], alts := [], laidByText := true, laidKinds := [.data, .data, .data, .data, .data, .data, .data, .data, .data, .data, .data, .data], laidTests := true, laidLooks := .later }
def FnTemplatesCardSaid : Prop := Claim7.holds Tryd.pinned (.plain (OpenSpec.ofChange fnTemplatesSpec)) fnTemplatesCard

/-- THE SECOND FORM's CARD OF 'laws.FnTemplates'. -/
def fnTemplatesUptoCard : Claim7 := { stood := { row := fnTemplatesUptoRow, standIns := [], harness := (true, "b9d3111312e51cfff23683cb437de657d625a1fa621fb499dfbb6589276c8b25"), looks := false }, kinds := [], alts := [], laidByText := true, laidKinds := [.data, .data, .data, .data, .data, .data, .data, .data, .data, .data, .data, .data], laidTests := true, laidLooks := .later }
def FnTemplatesUptoCardSaid : Prop := Claim7.holds Tryd.pinned (.plain (OpenSpec.upto fnTemplatesSpec)) fnTemplatesUptoCard
end Rows
end Go.Proofs.YtjhndhjlknakkaaDoor
