/-
  DERIVED. GIVEN WITH THE SEED: THE CARDS: each row of YtgcdmikbdpkpcaaDoorRows.lean that lists a variable, with what it lists TIED to the program's text (the seventh form; the later family's looks); each row that meets fmt, with fmt's text TOLD by the authors' own Lean function (tested against real Go, not proved from fmt's source: count such statements apart). THE CARD IS WHAT COUNTS. Prove the row's statement (the work); the ties are given (YtgcdmikbdpkpcaaDoorTie.lean); close each card by the builder's one call (the guide's Derived/Test/ToyasCard.lean, 'card_holds'). Laid BY PROGRAM, IN A SANDBOX (cutbox-door.mjs). By AI agents, Wed Nov 11 2026. No macro, syntax, notation, axiom, sorry.
-/
import Derived.Test.YtgcdmikbdpkpcaaDoorRows
import GoSem.ClaimSeven
namespace Go.Proofs.YtgcdmikbdpkpcaaDoor
namespace Rows

/-- THE TIED CARD OF 'laws.FnExactFormatLibrary'. -/
def fnExactFormatLibraryCard : Claim7 := { stood := { row := fnExactFormatLibraryRow, standIns := [], harness := (true, "47e5b345eabbee453997ff078856f4c268433ebc3d511839122bd41ba4034b35"), looks := false }, kinds := [], alts := [], laidByText := true, laidKinds := [.data, .data, .data], laidTests := true, laidLooks := .later }
def FnExactFormatLibraryCardSaid : Prop := Claim7.holds Tryd.pinned (.plain (OpenSpec.ofChange fnExactFormatLibrarySpec)) fnExactFormatLibraryCard

/-- THE SECOND FORM's CARD OF 'laws.FnExactFormatLibrary'. -/
def fnExactFormatLibraryUptoCard : Claim7 := { stood := { row := fnExactFormatLibraryUptoRow, standIns := [], harness := (true, "47e5b345eabbee453997ff078856f4c268433ebc3d511839122bd41ba4034b35"), looks := false }, kinds := [], alts := [], laidByText := true, laidKinds := [.data, .data, .data], laidTests := true, laidLooks := .later }
def FnExactFormatLibraryUptoCardSaid : Prop := Claim7.holds Tryd.pinned (.plain (OpenSpec.upto fnExactFormatLibrarySpec)) fnExactFormatLibraryUptoCard
end Rows
end Go.Proofs.YtgcdmikbdpkpcaaDoor
