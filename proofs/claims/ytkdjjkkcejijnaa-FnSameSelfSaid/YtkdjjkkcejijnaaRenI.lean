/-
  impl.renumbered.
-/
import Derived.Test.YtkdjjkkcejijnaaRenV
import Derived.Test.YtkdjjkkcejijnaaRenL
import Derived.Test.YtkdjjkkcejijnaaRenO
namespace Go.Proofs.Ytkdjjkkcejijnaa
open Go.RowKit Go.Shelf
set_option maxRecDepth 100000

theorem ren_any (m : Nat) : ∀ (op n : Int) (k : Fo) (A : Option Addr) (c : Nat) (nu0 : Nat → Int) (nx0 : Nat) (w : World), k.size = m → Lies w 0 w.heap.size A 0 k → nx0 + k.size + 1 ≤ 4000 → I64 op ∧ I64 n → (∀ v, I64 (nu0 v)) → nameOk op n k.len = true → namesOkF k = true → RenC op n k A c nu0 nx0 w := by
  induction m using Nat.strongRecOn with
  | _ m ih =>
    intro op n k A c nu0 nx0 w hm hl hnx hi hnu hno hks
    subst hm
    by_cases h2 : op = 2
    · exact ren_var op n k A c nu0 nx0 w h2 hl hnx hi hnu hno hks
    · by_cases h7 : op = 7
      · exact ren_let op n k A c nu0 nx0 w h7 ih hl hnx hi hnu hno hks
      · exact ren_other op n k A c nu0 nx0 w h2 h7 ih hl hnx hi hnu hno hks
end Go.Proofs.Ytkdjjkkcejijnaa
