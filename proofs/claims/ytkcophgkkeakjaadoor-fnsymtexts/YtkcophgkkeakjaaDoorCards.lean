/-
  DERIVED. GIVEN WITH THE SEED: THE CARDS: each row of YtkcophgkkeakjaaDoorRows.lean that lists a variable, with what it lists TIED to the program's text (the seventh form; the later family's looks); each row that meets fmt, with fmt's text TOLD by the authors' own Lean function (tested against real Go, not proved from fmt's source: count such statements apart). THE CARD IS WHAT COUNTS. Prove the row's statement (the work); the ties are given (YtkcophgkkeakjaaDoorTie.lean); close each card by the builder's one call (the guide's Derived/Test/ToyasCard.lean, 'card_holds'). Laid BY PROGRAM, IN A SANDBOX (cutbox-door.mjs). By AI agents, Wed Nov 11 2026. No macro, syntax, notation, axiom, sorry.
-/
import Derived.Test.YtkcophgkkeakjaaDoorRows
import GoSem.ClaimSeven
namespace Go.Proofs.YtkcophgkkeakjaaDoor
namespace Rows

/-- THE TIED CARD OF 'laws.FnExactSymText'. -/
def fnExactSymTextCard : Claim7 := { stood := { row := fnExactSymTextRow, standIns := [], harness := (true, "749e3ee1a8de1d2bb5372da7b540167c23c668055d3a2c61f88605f095eb1ca8"), looks := false }, kinds := [], alts := [], laidByText := true, laidKinds := [.data], laidTests := true, laidLooks := .later }
def FnExactSymTextCardSaid : Prop := Claim7.holds Tryd.pinned (.plain (OpenSpec.ofChange fnExactSymTextSpec)) fnExactSymTextCard

/-- THE TIED CARD OF 'laws.FnExactReadSyms'. -/
def fnExactReadSymsCard : Claim7 := { stood := { row := fnExactReadSymsRow, standIns := [], harness := (true, "749e3ee1a8de1d2bb5372da7b540167c23c668055d3a2c61f88605f095eb1ca8"), looks := false }, kinds := [], alts := [], laidByText := true, laidKinds := [.data], laidTests := true, laidLooks := .later }
def FnExactReadSymsCardSaid : Prop := Claim7.holds Tryd.pinned (.plain (OpenSpec.ofChange fnExactReadSymsSpec)) fnExactReadSymsCard

/-- THE TIED CARD OF 'laws.FnSymTexts'. -/
def fnSymTextsCard : Claim7 := { stood := { row := fnSymTextsRow, standIns := [], harness := (true, "749e3ee1a8de1d2bb5372da7b540167c23c668055d3a2c61f88605f095eb1ca8"), looks := false }, kinds := [], alts := [], laidByText := true, laidKinds := [.data], laidTests := true, laidLooks := .later }
def FnSymTextsCardSaid : Prop := Claim7.holds Tryd.pinned (.plain (OpenSpec.ofChange fnSymTextsSpec)) fnSymTextsCard

/-- THE SECOND FORM's CARD OF 'laws.FnExactSymText'. -/
def fnExactSymTextUptoCard : Claim7 := { stood := { row := fnExactSymTextUptoRow, standIns := [], harness := (true, "749e3ee1a8de1d2bb5372da7b540167c23c668055d3a2c61f88605f095eb1ca8"), looks := false }, kinds := [], alts := [], laidByText := true, laidKinds := [.data], laidTests := true, laidLooks := .later }
def FnExactSymTextUptoCardSaid : Prop := Claim7.holds Tryd.pinned (.plain (OpenSpec.upto fnExactSymTextSpec)) fnExactSymTextUptoCard

/-- THE SECOND FORM's CARD OF 'laws.FnExactReadSyms'. -/
def fnExactReadSymsUptoCard : Claim7 := { stood := { row := fnExactReadSymsUptoRow, standIns := [], harness := (true, "749e3ee1a8de1d2bb5372da7b540167c23c668055d3a2c61f88605f095eb1ca8"), looks := false }, kinds := [], alts := [], laidByText := true, laidKinds := [.data], laidTests := true, laidLooks := .later }
def FnExactReadSymsUptoCardSaid : Prop := Claim7.holds Tryd.pinned (.plain (OpenSpec.upto fnExactReadSymsSpec)) fnExactReadSymsUptoCard

/-- THE SECOND FORM's CARD OF 'laws.FnSymTexts'. -/
def fnSymTextsUptoCard : Claim7 := { stood := { row := fnSymTextsUptoRow, standIns := [], harness := (true, "749e3ee1a8de1d2bb5372da7b540167c23c668055d3a2c61f88605f095eb1ca8"), looks := false }, kinds := [], alts := [], laidByText := true, laidKinds := [.data], laidTests := true, laidLooks := .later }
def FnSymTextsUptoCardSaid : Prop := Claim7.holds Tryd.pinned (.plain (OpenSpec.upto fnSymTextsSpec)) fnSymTextsUptoCard
end Rows
end Go.Proofs.YtkcophgkkeakjaaDoor
