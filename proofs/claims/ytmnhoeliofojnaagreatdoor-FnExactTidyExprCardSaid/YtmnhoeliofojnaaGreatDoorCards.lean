/-
  DERIVED. GIVEN WITH THE SEED: THE CARDS: each row of YtmnhoeliofojnaaGreatDoorRows.lean that lists a variable, with what it lists TIED to the program's text (the seventh form; the later family's looks); each row that meets fmt, with fmt's text TOLD by the authors' own Lean function (tested against real Go, not proved from fmt's source: count such statements apart). THE CARD IS WHAT COUNTS. Prove the row's statement (the work); the ties are given (YtmnhoeliofojnaaGreatDoorTie.lean); close each card by the builder's one call (the guide's Derived/Test/ToyasCard.lean, 'card_holds'). Laid BY PROGRAM, IN A SANDBOX (cutbox-door.mjs). By AI agents, Wed Nov 11 2026. No macro, syntax, notation, axiom, sorry.
-/
import Derived.Test.YtmnhoeliofojnaaGreatDoorRows
import GoSem.ClaimSeven
namespace Go.Proofs.YtmnhoeliofojnaaGreatDoor
namespace Rows

/-- THE TIED CARD OF 'laws.FnExactTidyExpr'. -/
def fnExactTidyExprCard : Claim7 := { stood := { row := fnExactTidyExprRow, standIns := [], harness := (true, "cda5516f786d9e6b62b68ce02b63cd0c9eae3d93fa6c5c3e5d90e5228632200a"), looks := true }, kinds := [], alts := [], laidByText := true, laidKinds := [.sentinel, .sentinel], laidTests := true, laidLooks := .later }
def FnExactTidyExprCardSaid : Prop := Claim7.holds Tryz.pinned (.plain (OpenSpec.ofChange fnExactTidyExprSpec)) fnExactTidyExprCard

/-- THE SECOND FORM's CARD OF 'laws.FnExactTidyExpr'. -/
def fnExactTidyExprUptoCard : Claim7 := { stood := { row := fnExactTidyExprUptoRow, standIns := [], harness := (true, "cda5516f786d9e6b62b68ce02b63cd0c9eae3d93fa6c5c3e5d90e5228632200a"), looks := true }, kinds := [], alts := [], laidByText := true, laidKinds := [.sentinel, .sentinel], laidTests := true, laidLooks := .later }
def FnExactTidyExprUptoCardSaid : Prop := Claim7.holds Tryz.pinned (.plain (OpenSpec.upto fnExactTidyExprSpec)) fnExactTidyExprUptoCard
end Rows
end Go.Proofs.YtmnhoeliofojnaaGreatDoor
