/-
  DERIVED. GIVEN WITH THE SEED: THE CARDS: each row of YtdkjiopgegjhgaaDoorRows.lean that lists a variable, with what it lists TIED to the program's text (the seventh form; the later family's looks); each row that meets fmt, with fmt's text TOLD by the authors' own Lean function (tested against real Go, not proved from fmt's source: count such statements apart). THE CARD IS WHAT COUNTS. Prove the row's statement (the work); the ties are given (YtdkjiopgegjhgaaDoorTie.lean); close each card by the builder's one call (the guide's Derived/Test/ToyasCard.lean, 'card_holds'). Laid BY PROGRAM, IN A SANDBOX (cutbox-door.mjs). By AI agents, Wed Nov 11 2026. No macro, syntax, notation, axiom, sorry.
-/
import Derived.Test.YtdkjiopgegjhgaaDoorRows
import GoSem.ClaimSeven
namespace Go.Proofs.YtdkjiopgegjhgaaDoor
namespace Rows

/-- THE TIED CARD OF 'laws.FnHex'. -/
def fnHexCard : Claim7 := { stood := { row := fnHexRow, standIns := [], harness := (true, "7e5279fd037ccbcd653ad6d2457914de78c3ce3d169e22761f15f2310ae41841"), looks := true }, kinds := [], alts := [], laidByText := true, laidKinds := [.data], laidTests := true, laidLooks := .later }
def FnHexCardSaid : Prop := Claim7.holds Tryd.pinned (.plain (OpenSpec.ofChange fnHexSpec)) fnHexCard

/-- THE TIED CARD OF 'laws.FnNums'. -/
def fnNumsCard : Claim7 := { stood := { row := fnNumsRow, standIns := [], harness := (true, "7e5279fd037ccbcd653ad6d2457914de78c3ce3d169e22761f15f2310ae41841"), looks := true }, kinds := [], alts := [], laidByText := true, laidKinds := [.data], laidTests := true, laidLooks := .later }
def FnNumsCardSaid : Prop := Claim7.holds Tryd.pinned (.plain (OpenSpec.ofChange fnNumsSpec)) fnNumsCard

/-- THE TIED CARD OF 'laws.FnExprTexts'. -/
def fnExprTextsCard : Claim7 := { stood := { row := fnExprTextsRow, standIns := [], harness := (true, "7e5279fd037ccbcd653ad6d2457914de78c3ce3d169e22761f15f2310ae41841"), looks := true }, kinds := [], alts := [], laidByText := true, laidKinds := [.data, .data, .data, .data, .data, .data, .pinned], laidTests := true, laidLooks := .later }
def FnExprTextsCardSaid : Prop := Claim7.holds Tryd.pinned (.plain (OpenSpec.ofChange fnExprTextsSpec)) fnExprTextsCard

/-- THE TIED CARD OF 'laws.FnCompiled'. -/
def fnCompiledCard : Claim7 := { stood := { row := fnCompiledRow, standIns := [], harness := (true, "7e5279fd037ccbcd653ad6d2457914de78c3ce3d169e22761f15f2310ae41841"), looks := true }, kinds := [], alts := [], laidByText := true, laidKinds := [.data], laidTests := true, laidLooks := .later }
def FnCompiledCardSaid : Prop := Claim7.holds Tryd.pinned (.plain (OpenSpec.ofChange fnCompiledSpec)) fnCompiledCard

/-- THE TIED CARD OF 'laws.FnPrecedence'. -/
def fnPrecedenceCard : Claim7 := { stood := { row := fnPrecedenceRow, standIns := [], harness := (true, "7e5279fd037ccbcd653ad6d2457914de78c3ce3d169e22761f15f2310ae41841"), looks := true }, kinds := [], alts := [], laidByText := true, laidKinds := [.data], laidTests := true, laidLooks := .later }
def FnPrecedenceCardSaid : Prop := Claim7.holds Tryd.pinned (.plain (OpenSpec.ofChange fnPrecedenceSpec)) fnPrecedenceCard

/-- THE SECOND FORM's CARD OF 'laws.FnHex'. -/
def fnHexUptoCard : Claim7 := { stood := { row := fnHexUptoRow, standIns := [], harness := (true, "7e5279fd037ccbcd653ad6d2457914de78c3ce3d169e22761f15f2310ae41841"), looks := true }, kinds := [], alts := [], laidByText := true, laidKinds := [.data], laidTests := true, laidLooks := .later }
def FnHexUptoCardSaid : Prop := Claim7.holds Tryd.pinned (.plain (OpenSpec.upto fnHexSpec)) fnHexUptoCard

/-- THE SECOND FORM's CARD OF 'laws.FnNums'. -/
def fnNumsUptoCard : Claim7 := { stood := { row := fnNumsUptoRow, standIns := [], harness := (true, "7e5279fd037ccbcd653ad6d2457914de78c3ce3d169e22761f15f2310ae41841"), looks := true }, kinds := [], alts := [], laidByText := true, laidKinds := [.data], laidTests := true, laidLooks := .later }
def FnNumsUptoCardSaid : Prop := Claim7.holds Tryd.pinned (.plain (OpenSpec.upto fnNumsSpec)) fnNumsUptoCard

/-- THE SECOND FORM's CARD OF 'laws.FnExprTexts'. -/
def fnExprTextsUptoCard : Claim7 := { stood := { row := fnExprTextsUptoRow, standIns := [], harness := (true, "7e5279fd037ccbcd653ad6d2457914de78c3ce3d169e22761f15f2310ae41841"), looks := true }, kinds := [], alts := [], laidByText := true, laidKinds := [.data, .data, .data, .data, .data, .data, .pinned], laidTests := true, laidLooks := .later }
def FnExprTextsUptoCardSaid : Prop := Claim7.holds Tryd.pinned (.plain (OpenSpec.upto fnExprTextsSpec)) fnExprTextsUptoCard

/-- THE SECOND FORM's CARD OF 'laws.FnCompiled'. -/
def fnCompiledUptoCard : Claim7 := { stood := { row := fnCompiledUptoRow, standIns := [], harness := (true, "7e5279fd037ccbcd653ad6d2457914de78c3ce3d169e22761f15f2310ae41841"), looks := true }, kinds := [], alts := [], laidByText := true, laidKinds := [.data], laidTests := true, laidLooks := .later }
def FnCompiledUptoCardSaid : Prop := Claim7.holds Tryd.pinned (.plain (OpenSpec.upto fnCompiledSpec)) fnCompiledUptoCard

/-- THE SECOND FORM's CARD OF 'laws.FnPrecedence'. -/
def fnPrecedenceUptoCard : Claim7 := { stood := { row := fnPrecedenceUptoRow, standIns := [], harness := (true, "7e5279fd037ccbcd653ad6d2457914de78c3ce3d169e22761f15f2310ae41841"), looks := true }, kinds := [], alts := [], laidByText := true, laidKinds := [.data], laidTests := true, laidLooks := .later }
def FnPrecedenceUptoCardSaid : Prop := Claim7.holds Tryd.pinned (.plain (OpenSpec.upto fnPrecedenceSpec)) fnPrecedenceUptoCard
end Rows
end Go.Proofs.YtdkjiopgegjhgaaDoor
