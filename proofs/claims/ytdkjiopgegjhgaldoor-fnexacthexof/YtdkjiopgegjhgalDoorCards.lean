/-
  DERIVED. GIVEN WITH THE SEED: THE CARDS: each row of YtdkjiopgegjhgalDoorRows.lean that lists a variable, with what it lists TIED to the program's text (the seventh form; the later family's looks); each row that meets fmt, with fmt's text TOLD by the authors' own Lean function (tested against real Go, not proved from fmt's source: count such statements apart). THE CARD IS WHAT COUNTS. Prove the row's statement (the work); the ties are given (YtdkjiopgegjhgalDoorTie.lean); close each card by the builder's one call (the guide's Derived/Test/ToyasCard.lean, 'card_holds'). Laid BY PROGRAM, IN A SANDBOX (cutbox-door.mjs). By AI agents, Wed Nov 11 2026. No macro, syntax, notation, axiom, sorry.
-/
import Derived.Test.YtdkjiopgegjhgalDoorRows
import GoSem.ClaimSeven
namespace Go.Proofs.YtdkjiopgegjhgalDoor
namespace Rows

/-- THE TIED CARD OF 'laws.FnExactHexOf'. -/
def fnExactHexOfCard : Claim7 := { stood := { row := fnExactHexOfRow, standIns := [], harness := (true, "deae1431098268b8b5bfe4e7672c2e47ac0a3ec0ee19789b5b8696d4ea1c4a55"), looks := true }, kinds := [], alts := [], laidByText := true, laidKinds := [.data], laidTests := true, laidLooks := .later }
def FnExactHexOfCardSaid : Prop := Claim7.holds Tryd.pinned (.plain (OpenSpec.ofChange fnExactHexOfSpec)) fnExactHexOfCard

/-- THE TIED CARD OF 'laws.FnExactReadNum'. -/
def fnExactReadNumCard : Claim7 := { stood := { row := fnExactReadNumRow, standIns := [], harness := (true, "deae1431098268b8b5bfe4e7672c2e47ac0a3ec0ee19789b5b8696d4ea1c4a55"), looks := true }, kinds := [], alts := [], laidByText := true, laidKinds := [.data], laidTests := true, laidLooks := .later }
def FnExactReadNumCardSaid : Prop := Claim7.holds Tryd.pinned (.plain (OpenSpec.ofChange fnExactReadNumSpec)) fnExactReadNumCard

/-- THE TIED CARD OF 'laws.FnExactExprText'. -/
def fnExactExprTextCard : Claim7 := { stood := { row := fnExactExprTextRow, standIns := [], harness := (true, "deae1431098268b8b5bfe4e7672c2e47ac0a3ec0ee19789b5b8696d4ea1c4a55"), looks := true }, kinds := [], alts := [], laidByText := true, laidKinds := [.data, .data, .data, .data], laidTests := true, laidLooks := .later }
def FnExactExprTextCardSaid : Prop := Claim7.holds Tryd.pinned (.plain (OpenSpec.ofChange fnExactExprTextSpec)) fnExactExprTextCard

/-- THE SECOND FORM's CARD OF 'laws.FnExactHexOf'. -/
def fnExactHexOfUptoCard : Claim7 := { stood := { row := fnExactHexOfUptoRow, standIns := [], harness := (true, "deae1431098268b8b5bfe4e7672c2e47ac0a3ec0ee19789b5b8696d4ea1c4a55"), looks := true }, kinds := [], alts := [], laidByText := true, laidKinds := [.data], laidTests := true, laidLooks := .later }
def FnExactHexOfUptoCardSaid : Prop := Claim7.holds Tryd.pinned (.plain (OpenSpec.upto fnExactHexOfSpec)) fnExactHexOfUptoCard

/-- THE SECOND FORM's CARD OF 'laws.FnExactReadNum'. -/
def fnExactReadNumUptoCard : Claim7 := { stood := { row := fnExactReadNumUptoRow, standIns := [], harness := (true, "deae1431098268b8b5bfe4e7672c2e47ac0a3ec0ee19789b5b8696d4ea1c4a55"), looks := true }, kinds := [], alts := [], laidByText := true, laidKinds := [.data], laidTests := true, laidLooks := .later }
def FnExactReadNumUptoCardSaid : Prop := Claim7.holds Tryd.pinned (.plain (OpenSpec.upto fnExactReadNumSpec)) fnExactReadNumUptoCard

/-- THE SECOND FORM's CARD OF 'laws.FnExactExprText'. -/
def fnExactExprTextUptoCard : Claim7 := { stood := { row := fnExactExprTextUptoRow, standIns := [], harness := (true, "deae1431098268b8b5bfe4e7672c2e47ac0a3ec0ee19789b5b8696d4ea1c4a55"), looks := true }, kinds := [], alts := [], laidByText := true, laidKinds := [.data, .data, .data, .data], laidTests := true, laidLooks := .later }
def FnExactExprTextUptoCardSaid : Prop := Claim7.holds Tryd.pinned (.plain (OpenSpec.upto fnExactExprTextSpec)) fnExactExprTextUptoCard
end Rows
end Go.Proofs.YtdkjiopgegjhgalDoor
