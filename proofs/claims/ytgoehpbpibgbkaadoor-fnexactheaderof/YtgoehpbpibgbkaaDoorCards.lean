/-
  DERIVED. GIVEN WITH THE SEED: THE CARDS: each row of YtgoehpbpibgbkaaDoorRows.lean that lists a variable, with what it lists TIED to the program's text (the seventh form; the later family's looks); each row that meets fmt, with fmt's text TOLD by the authors' own Lean function (tested against real Go, not proved from fmt's source: count such statements apart). THE CARD IS WHAT COUNTS. Prove the row's statement (the work); the ties are given (YtgoehpbpibgbkaaDoorTie.lean); close each card by the builder's one call (the guide's Derived/Test/ToyasCard.lean, 'card_holds'). Laid BY PROGRAM, IN A SANDBOX (cutbox-door.mjs). By AI agents, Wed Nov 11 2026. No macro, syntax, notation, axiom, sorry.
-/
import Derived.Test.YtgoehpbpibgbkaaDoorRows
import GoSem.ClaimSeven
namespace Go.Proofs.YtgoehpbpibgbkaaDoor
namespace Rows

/-- THE TIED CARD OF 'laws.FnExactHeaderOf'. -/
def fnExactHeaderOfCard : Claim7 := { stood := { row := fnExactHeaderOfRow, standIns := [], harness := (true, "12425c15242f558b7dd3ffa2c486ab0120eeb70a1f1f048dc4d42b0da2db3a59"), looks := false }, kinds := [], alts := [], laidByText := true, laidKinds := [.data, .pinned], laidTests := true, laidLooks := .later }
def FnExactHeaderOfCardSaid : Prop := Claim7.holds Tryd.pinned (.plain (OpenSpec.ofChange fnExactHeaderOfSpec)) fnExactHeaderOfCard

/-- THE SECOND FORM's CARD OF 'laws.FnExactHeaderOf'. -/
def fnExactHeaderOfUptoCard : Claim7 := { stood := { row := fnExactHeaderOfUptoRow, standIns := [], harness := (true, "12425c15242f558b7dd3ffa2c486ab0120eeb70a1f1f048dc4d42b0da2db3a59"), looks := false }, kinds := [], alts := [], laidByText := true, laidKinds := [.data, .pinned], laidTests := true, laidLooks := .later }
def FnExactHeaderOfUptoCardSaid : Prop := Claim7.holds Tryd.pinned (.plain (OpenSpec.upto fnExactHeaderOfSpec)) fnExactHeaderOfUptoCard
end Rows
end Go.Proofs.YtgoehpbpibgbkaaDoor
