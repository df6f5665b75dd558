/-
  DERIVED. GIVEN WITH THE SEED: THE CARDS: each row of YthagdgdnjjdbfaaDoorRows.lean that lists a variable, with what it lists TIED to the program's text (the seventh form; the later family's looks); each row that meets fmt, with fmt's text TOLD by the authors' own Lean function (tested against real Go, not proved from fmt's source: count such statements apart). THE CARD IS WHAT COUNTS. Prove the row's statement (the work); the ties are given (YthagdgdnjjdbfaaDoorTie.lean); close each card by the builder's one call (the guide's Derived/Test/ToyasCard.lean, 'card_holds'). Laid BY PROGRAM, IN A SANDBOX (cutbox-door.mjs). By AI agents, Wed Nov 11 2026. No macro, syntax, notation, axiom, sorry.
-/
import Derived.Test.YthagdgdnjjdbfaaDoorRows
import GoSem.ClaimSeven
namespace Go.Proofs.YthagdgdnjjdbfaaDoor
namespace Rows

/-- THE TIED CARD OF 'laws.FnExactTemplateOf'. -/
def fnExactTemplateOfCard : Claim7 := { stood := { row := fnExactTemplateOfRow, standIns := [], harness := (true, "e6193b374cdf7ede5647f3ce614fa757aec3657e1bb5e8b6a20481b5d5428585"), looks := false }, kinds := [], alts := [], laidByText := true, laidKinds := [.data, .data, .data, .data, .data, .data, .data, .data, .data, .data, .data, .data], laidTests := true, laidLooks := .later }
def FnExactTemplateOfCardSaid : Prop := Claim7.holds Tryd.pinned (.plain (OpenSpec.ofChange fnExactTemplateOfSpec)) fnExactTemplateOfCard

/-- THE TIED CARD OF 'laws.FnExactInsText'. -/
def fnExactInsTextCard : Claim7 := { stood := { row := fnExactInsTextRow, standIns := [], harness := (true, "e6193b374cdf7ede5647f3ce614fa757aec3657e1bb5e8b6a20481b5d5428585"), looks := false }, kinds := [], alts := [], laidByText := true, laidKinds := [.data, .data, .data, .data, .data, .data, .data, .data, .data, .data, .data, .data, .data, .pinned], laidTests := true, laidLooks := .later }
def FnExactInsTextCardSaid : Prop := Claim7.holds Tryd.pinned (.plain (OpenSpec.ofChange fnExactInsTextSpec)) fnExactInsTextCard

/-- THE TIED CARD OF 'laws.FnExactReadInsText'. -/
def fnExactReadInsTextCard : Claim7 := { stood := { row := fnExactReadInsTextRow, standIns := [], harness := (true, "e6193b374cdf7ede5647f3ce614fa757aec3657e1bb5e8b6a20481b5d5428585"), looks := false }, kinds := [], alts := [], laidByText := true, laidKinds := [.data, .data, .data, .data, .data, .data, .data, .data, .data, .data, .data, .data, .data, .pinned], laidTests := true, laidLooks := .later }
def FnExactReadInsTextCardSaid : Prop := Claim7.holds Tryd.pinned (.plain (OpenSpec.ofChange fnExactReadInsTextSpec)) fnExactReadInsTextCard

/-- THE SECOND FORM's CARD OF 'laws.FnExactTemplateOf'. -/
def fnExactTemplateOfUptoCard : Claim7 := { stood := { row := fnExactTemplateOfUptoRow, standIns := [], harness := (true, "e6193b374cdf7ede5647f3ce614fa757aec3657e1bb5e8b6a20481b5d5428585"), looks := false }, kinds := [], alts := [], laidByText := true, laidKinds := [.data, .data, .data, .data, .data, .data, .data, .data, .data, .data, .data, .data], laidTests := true, laidLooks := .later }
def FnExactTemplateOfUptoCardSaid : Prop := Claim7.holds Tryd.pinned (.plain (OpenSpec.upto fnExactTemplateOfSpec)) fnExactTemplateOfUptoCard

/-- THE SECOND FORM's CARD OF 'laws.FnExactInsText'. -/
def fnExactInsTextUptoCard : Claim7 := { stood := { row := fnExactInsTextUptoRow, standIns := [], harness := (true, "e6193b374cdf7ede5647f3ce614fa757aec3657e1bb5e8b6a20481b5d5428585"), looks := false }, kinds := [], alts := [], laidByText := true, laidKinds := [.data, .data, .data, .data, .data, .data, .data, .data, .data, .data, .data, .data, .data, .pinned], laidTests := true, laidLooks := .later }
def FnExactInsTextUptoCardSaid : Prop := Claim7.holds Tryd.pinned (.plain (OpenSpec.upto fnExactInsTextSpec)) fnExactInsTextUptoCard

/-- THE SECOND FORM's CARD OF 'laws.FnExactReadInsText'. -/
def fnExactReadInsTextUptoCard : Claim7 := { stood := { row := fnExactReadInsTextUptoRow, standIns := [], harness := (true, "e6193b374cdf7ede5647f3ce614fa757aec3657e1bb5e8b6a20481b5d5428585"), looks := false }, kinds := [], alts := [], laidByText := true, laidKinds := [.data, .data, .data, .data, .data, .data, .data, .data, .data, .data, .data, .data, .data, .pinned], laidTests := true, laidLooks := .later }
def FnExactReadInsTextUptoCardSaid : Prop := Claim7.holds Tryd.pinned (.plain (OpenSpec.upto fnExactReadInsTextSpec)) fnExactReadInsTextUptoCard
end Rows
end Go.Proofs.YthagdgdnjjdbfaaDoor
