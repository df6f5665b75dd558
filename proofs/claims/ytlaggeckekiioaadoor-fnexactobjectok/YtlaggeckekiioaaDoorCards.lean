/-
  DERIVED. GIVEN WITH THE SEED: THE CARDS: each row of YtlaggeckekiioaaDoorRows.lean that lists a variable, with what it lists TIED to the program's text (the seventh form; the later family's looks); each row that meets fmt, with fmt's text TOLD by the authors' own Lean function (tested against real Go, not proved from fmt's source: count such statements apart). THE CARD IS WHAT COUNTS. Prove the row's statement (the work); the ties are given (YtlaggeckekiioaaDoorTie.lean); close each card by the builder's one call (the guide's Derived/Test/ToyasCard.lean, 'card_holds'). Laid BY PROGRAM, IN A SANDBOX (cutbox-door.mjs). By AI agents, Wed Nov 11 2026. No macro, syntax, notation, axiom, sorry.
-/
import Derived.Test.YtlaggeckekiioaaDoorRows
import GoSem.ClaimSeven
namespace Go.Proofs.YtlaggeckekiioaaDoor
namespace Rows

/-- THE TIED CARD OF 'laws.FnExactSectionOk'. -/
def fnExactSectionOkCard : Claim7 := { stood := { row := fnExactSectionOkRow, standIns := [], harness := (true, "d765dd2c907079db32ea896d651f2ee4eedd86741d86387015627676796b441f"), looks := false }, kinds := [], alts := [], laidByText := true, laidKinds := [.data, .pinned], laidTests := true, laidLooks := .later }
def FnExactSectionOkCardSaid : Prop := Claim7.holds Tryd.pinned (.plain (OpenSpec.ofChange fnExactSectionOkSpec)) fnExactSectionOkCard

/-- THE TIED CARD OF 'laws.FnExactObjectOk'. -/
def fnExactObjectOkCard : Claim7 := { stood := { row := fnExactObjectOkRow, standIns := [], harness := (true, "d765dd2c907079db32ea896d651f2ee4eedd86741d86387015627676796b441f"), looks := false }, kinds := [], alts := [], laidByText := true, laidKinds := [.data, .pinned], laidTests := true, laidLooks := .later }
def FnExactObjectOkCardSaid : Prop := Claim7.holds Tryd.pinned (.plain (OpenSpec.ofChange fnExactObjectOkSpec)) fnExactObjectOkCard

/-- THE SECOND FORM's CARD OF 'laws.FnExactSectionOk'. -/
def fnExactSectionOkUptoCard : Claim7 := { stood := { row := fnExactSectionOkUptoRow, standIns := [], harness := (true, "d765dd2c907079db32ea896d651f2ee4eedd86741d86387015627676796b441f"), looks := false }, kinds := [], alts := [], laidByText := true, laidKinds := [.data, .pinned], laidTests := true, laidLooks := .later }
def FnExactSectionOkUptoCardSaid : Prop := Claim7.holds Tryd.pinned (.plain (OpenSpec.upto fnExactSectionOkSpec)) fnExactSectionOkUptoCard

/-- THE SECOND FORM's CARD OF 'laws.FnExactObjectOk'. -/
def fnExactObjectOkUptoCard : Claim7 := { stood := { row := fnExactObjectOkUptoRow, standIns := [], harness := (true, "d765dd2c907079db32ea896d651f2ee4eedd86741d86387015627676796b441f"), looks := false }, kinds := [], alts := [], laidByText := true, laidKinds := [.data, .pinned], laidTests := true, laidLooks := .later }
def FnExactObjectOkUptoCardSaid : Prop := Claim7.holds Tryd.pinned (.plain (OpenSpec.upto fnExactObjectOkSpec)) fnExactObjectOkUptoCard
end Rows
end Go.Proofs.YtlaggeckekiioaaDoor
