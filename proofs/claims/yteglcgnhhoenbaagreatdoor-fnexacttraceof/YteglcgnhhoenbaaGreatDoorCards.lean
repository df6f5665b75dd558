/-
  DERIVED. GIVEN WITH THE SEED: THE CARDS: each row of YteglcgnhhoenbaaGreatDoorRows.lean that lists a variable, with what it lists TIED to the program's text (the seventh form; the later family's looks); each row that meets fmt, with fmt's text TOLD by the authors' own Lean function (tested against real Go, not proved from fmt's source: count such statements apart). THE CARD IS WHAT COUNTS. Prove the row's statement (the work); the ties are given (YteglcgnhhoenbaaGreatDoorTie.lean); close each card by the builder's one call (the guide's Derived/Test/ToyasCard.lean, 'card_holds'). Laid BY PROGRAM, IN A SANDBOX (cutbox-door.mjs). By AI agents, Wed Nov 11 2026. No macro, syntax, notation, axiom, sorry.
-/
import Derived.Test.YteglcgnhhoenbaaGreatDoorRows
import GoSem.ClaimSeven
namespace Go.Proofs.YteglcgnhhoenbaaGreatDoor
namespace Rows

/-- THE TIED CARD OF 'laws.FnRunTo'. -/
def fnRunToCard : Claim7 := { stood := { row := fnRunToRow, standIns := [], harness := (true, "0cdd554fdf025483af1eb7ee6fc4056350baaf07e9aa452b677fc44f32eccd0d"), looks := true }, kinds := [], alts := [], laidByText := true, laidKinds := [.data, .data], laidTests := true, laidLooks := .later }
def FnRunToCardSaid : Prop := Claim7.holds Tryz.pinned (.plain (OpenSpec.ofChange fnRunToSpec)) fnRunToCard

/-- THE TIED CARD OF 'laws.FnTrace'. -/
def fnTraceCard : Claim7 := { stood := { row := fnTraceRow, standIns := [], harness := (true, "0cdd554fdf025483af1eb7ee6fc4056350baaf07e9aa452b677fc44f32eccd0d"), looks := true }, kinds := [], alts := [], laidByText := true, laidKinds := [.data, .data, .data, .data, .data, .data, .data, .data, .data, .data, .data, .data, .data, .pinned], laidTests := true, laidLooks := .later }
def FnTraceCardSaid : Prop := Claim7.holds Tryz.pinned (.plain (OpenSpec.ofChange fnTraceSpec)) fnTraceCard

/-- THE TIED CARD OF 'laws.FnExactRunTo'. -/
def fnExactRunToCard : Claim7 := { stood := { row := fnExactRunToRow, standIns := [], harness := (true, "0cdd554fdf025483af1eb7ee6fc4056350baaf07e9aa452b677fc44f32eccd0d"), looks := true }, kinds := [], alts := [], laidByText := true, laidKinds := [.data, .data], laidTests := true, laidLooks := .later }
def FnExactRunToCardSaid : Prop := Claim7.holds Tryz.pinned (.plain (OpenSpec.ofChange fnExactRunToSpec)) fnExactRunToCard

/-- THE TIED CARD OF 'laws.FnExactTraceOf'. -/
def fnExactTraceOfCard : Claim7 := { stood := { row := fnExactTraceOfRow, standIns := [], harness := (true, "0cdd554fdf025483af1eb7ee6fc4056350baaf07e9aa452b677fc44f32eccd0d"), looks := true }, kinds := [], alts := [], laidByText := true, laidKinds := [.data, .data, .data, .data, .data, .data, .data, .data, .data, .data, .data, .data, .data, .pinned], laidTests := true, laidLooks := .later }
def FnExactTraceOfCardSaid : Prop := Claim7.holds Tryz.pinned (.plain (OpenSpec.ofChange fnExactTraceOfSpec)) fnExactTraceOfCard

/-- THE SECOND FORM's CARD OF 'laws.FnRunTo'. -/
def fnRunToUptoCard : Claim7 := { stood := { row := fnRunToUptoRow, standIns := [], harness := (true, "0cdd554fdf025483af1eb7ee6fc4056350baaf07e9aa452b677fc44f32eccd0d"), looks := true }, kinds := [], alts := [], laidByText := true, laidKinds := [.data, .data], laidTests := true, laidLooks := .later }
def FnRunToUptoCardSaid : Prop := Claim7.holds Tryz.pinned (.plain (OpenSpec.upto fnRunToSpec)) fnRunToUptoCard

/-- THE SECOND FORM's CARD OF 'laws.FnTrace'. -/
def fnTraceUptoCard : Claim7 := { stood := { row := fnTraceUptoRow, standIns := [], harness := (true, "0cdd554fdf025483af1eb7ee6fc4056350baaf07e9aa452b677fc44f32eccd0d"), looks := true }, kinds := [], alts := [], laidByText := true, laidKinds := [.data, .data, .data, .data, .data, .data, .data, .data, .data, .data, .data, .data, .data, .pinned], laidTests := true, laidLooks := .later }
def FnTraceUptoCardSaid : Prop := Claim7.holds Tryz.pinned (.plain (OpenSpec.upto fnTraceSpec)) fnTraceUptoCard

/-- THE SECOND FORM's CARD OF 'laws.FnExactRunTo'. -/
def fnExactRunToUptoCard : Claim7 := { stood := { row := fnExactRunToUptoRow, standIns := [], harness := (true, "0cdd554fdf025483af1eb7ee6fc4056350baaf07e9aa452b677fc44f32eccd0d"), looks := true }, kinds := [], alts := [], laidByText := true, laidKinds := [.data, .data], laidTests := true, laidLooks := .later }
def FnExactRunToUptoCardSaid : Prop := Claim7.holds Tryz.pinned (.plain (OpenSpec.upto fnExactRunToSpec)) fnExactRunToUptoCard

/-- THE SECOND FORM's CARD OF 'laws.FnExactTraceOf'. -/
def fnExactTraceOfUptoCard : Claim7 := { stood := { row := fnExactTraceOfUptoRow, standIns := [], harness := (true, "0cdd554fdf025483af1eb7ee6fc4056350baaf07e9aa452b677fc44f32eccd0d"), looks := true }, kinds := [], alts := [], laidByText := true, laidKinds := [.data, .data, .data, .data, .data, .data, .data, .data, .data, .data, .data, .data, .data, .pinned], laidTests := true, laidLooks := .later }
def FnExactTraceOfUptoCardSaid : Prop := Claim7.holds Tryz.pinned (.plain (OpenSpec.upto fnExactTraceOfSpec)) fnExactTraceOfUptoCard
end Rows
end Go.Proofs.YteglcgnhhoenbaaGreatDoor
