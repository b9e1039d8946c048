/-
  DERIVED. GIVEN WITH THE SEED: THE CARDS: each row of YthdcnadkdbcmmaaGreatDoorRows.lean that lists a variable, with what it lists TIED to the program's text (the seventh form; the later family's looks); each row that meets fmt, with fmt's text TOLD by the authors' own Lean function (tested against real Go, not proved from fmt's source: count such statements apart). THE CARD IS WHAT COUNTS. Prove the row's statement (the work); the ties are given (YthdcnadkdbcmmaaGreatDoorTie.lean); close each card by the builder's one call (the guide's Derived/Test/ToyasCard.lean, 'card_holds'). Laid BY PROGRAM, IN A SANDBOX (cutbox-door.mjs). By AI agents, Wed Nov 11 2026. No macro, syntax, notation, axiom, sorry.
-/
import Derived.Test.YthdcnadkdbcmmaaGreatDoorRows
import GoSem.ClaimSeven
namespace Go.Proofs.YthdcnadkdbcmmaaGreatDoor
namespace Rows

/-- THE TIED CARD OF 'laws.FnExactTidyExpr'. -/
def fnExactTidyExprCard : Claim7 := { stood := { row := fnExactTidyExprRow, standIns := [], harness := (true, "01b8ff36588732dbf831539c06c15446126edb049717b2fc6ceb7d35202f741a"), looks := true }, kinds := [], alts := [], laidByText := true, laidKinds := [.sentinel, .sentinel], laidTests := true, laidLooks := .later }
def FnExactTidyExprCardSaid : Prop := Claim7.holds Tryz.pinned (.plain (OpenSpec.ofChange fnExactTidyExprSpec)) fnExactTidyExprCard

/-- THE TIED CARD OF 'laws.FnExactTidyLibrary'. -/
def fnExactTidyLibraryCard : Claim7 := { stood := { row := fnExactTidyLibraryRow, standIns := [], harness := (true, "01b8ff36588732dbf831539c06c15446126edb049717b2fc6ceb7d35202f741a"), looks := true }, kinds := [], alts := [], laidByText := true, laidKinds := [.sentinel, .sentinel], laidTests := true, laidLooks := .later }
def FnExactTidyLibraryCardSaid : Prop := Claim7.holds Tryz.pinned (.plain (OpenSpec.ofChange fnExactTidyLibrarySpec)) fnExactTidyLibraryCard

/-- THE TIED CARD OF 'laws.FnExactInlineTidy'. -/
def fnExactInlineTidyCard : Claim7 := { stood := { row := fnExactInlineTidyRow, standIns := [], harness := (true, "01b8ff36588732dbf831539c06c15446126edb049717b2fc6ceb7d35202f741a"), looks := true }, kinds := [], alts := [], laidByText := true, laidKinds := [.sentinel, .sentinel], laidTests := true, laidLooks := .later }
def FnExactInlineTidyCardSaid : Prop := Claim7.holds Tryz.pinned (.plain (OpenSpec.ofChange fnExactInlineTidySpec)) fnExactInlineTidyCard

/-- THE SECOND FORM's CARD OF 'laws.FnExactTidyExpr'. -/
def fnExactTidyExprUptoCard : Claim7 := { stood := { row := fnExactTidyExprUptoRow, standIns := [], harness := (true, "01b8ff36588732dbf831539c06c15446126edb049717b2fc6ceb7d35202f741a"), looks := true }, kinds := [], alts := [], laidByText := true, laidKinds := [.sentinel, .sentinel], laidTests := true, laidLooks := .later }
def FnExactTidyExprUptoCardSaid : Prop := Claim7.holds Tryz.pinned (.plain (OpenSpec.upto fnExactTidyExprSpec)) fnExactTidyExprUptoCard

/-- THE SECOND FORM's CARD OF 'laws.FnExactTidyLibrary'. -/
def fnExactTidyLibraryUptoCard : Claim7 := { stood := { row := fnExactTidyLibraryUptoRow, standIns := [], harness := (true, "01b8ff36588732dbf831539c06c15446126edb049717b2fc6ceb7d35202f741a"), looks := true }, kinds := [], alts := [], laidByText := true, laidKinds := [.sentinel, .sentinel], laidTests := true, laidLooks := .later }
def FnExactTidyLibraryUptoCardSaid : Prop := Claim7.holds Tryz.pinned (.plain (OpenSpec.upto fnExactTidyLibrarySpec)) fnExactTidyLibraryUptoCard

/-- THE SECOND FORM's CARD OF 'laws.FnExactInlineTidy'. -/
def fnExactInlineTidyUptoCard : Claim7 := { stood := { row := fnExactInlineTidyUptoRow, standIns := [], harness := (true, "01b8ff36588732dbf831539c06c15446126edb049717b2fc6ceb7d35202f741a"), looks := true }, kinds := [], alts := [], laidByText := true, laidKinds := [.sentinel, .sentinel], laidTests := true, laidLooks := .later }
def FnExactInlineTidyUptoCardSaid : Prop := Claim7.holds Tryz.pinned (.plain (OpenSpec.upto fnExactInlineTidySpec)) fnExactInlineTidyUptoCard
end Rows
end Go.Proofs.YthdcnadkdbcmmaaGreatDoor
