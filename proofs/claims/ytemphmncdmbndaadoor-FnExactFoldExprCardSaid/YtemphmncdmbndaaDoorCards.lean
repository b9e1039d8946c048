/-
  DERIVED. GIVEN WITH THE SEED: THE CARDS: each row of YtemphmncdmbndaaDoorRows.lean that lists a variable, with what it lists TIED to the program's text (the seventh form; the later family's looks); each row that meets fmt, with fmt's text TOLD by the authors' own Lean function (tested against real Go, not proved from fmt's source: count such statements apart). THE CARD IS WHAT COUNTS. Prove the row's statement (the work); the ties are given (YtemphmncdmbndaaDoorTie.lean); close each card by the builder's one call (the guide's Derived/Test/ToyasCard.lean, 'card_holds'). Laid BY PROGRAM, IN A SANDBOX (cutbox-door.mjs). By AI agents, Wed Nov 11 2026. No macro, syntax, notation, axiom, sorry.
-/
import Derived.Test.YtemphmncdmbndaaDoorRows
import GoSem.ClaimSeven
namespace Go.Proofs.YtemphmncdmbndaaDoor
namespace Rows

/-- THE TIED CARD OF 'laws.FnExactFoldExpr'. -/
def fnExactFoldExprCard : Claim7 := { stood := { row := fnExactFoldExprRow, standIns := [], harness := (true, "f26f5e796b8d9d996fcae156d51ec00d28fae66df1630459de5167630fafd9a7"), looks := true }, kinds := [], alts := [], laidByText := true, laidKinds := [.sentinel, .sentinel], laidTests := true, laidLooks := .later }
def FnExactFoldExprCardSaid : Prop := Claim7.holds Tryd.pinned (.plain (OpenSpec.ofChange fnExactFoldExprSpec)) fnExactFoldExprCard

/-- THE SECOND FORM's CARD OF 'laws.FnExactFoldExpr'. -/
def fnExactFoldExprUptoCard : Claim7 := { stood := { row := fnExactFoldExprUptoRow, standIns := [], harness := (true, "f26f5e796b8d9d996fcae156d51ec00d28fae66df1630459de5167630fafd9a7"), looks := true }, kinds := [], alts := [], laidByText := true, laidKinds := [.sentinel, .sentinel], laidTests := true, laidLooks := .later }
def FnExactFoldExprUptoCardSaid : Prop := Claim7.holds Tryd.pinned (.plain (OpenSpec.upto fnExactFoldExprSpec)) fnExactFoldExprUptoCard
end Rows
end Go.Proofs.YtemphmncdmbndaaDoor
