/-
  slices.Concat of a list of lists of numbers, whatever its length.
-/
import Derived.Test.YtiefobkddckkbaaSs
import Derived.Test.YtiefobkddckkbaaFresh
import Derived.Lib.AppendZeros
import Derived.Lib.Walk
namespace Go.Proofs.Ytiefobkddckkbaa
open Go.RowKit Go.Shelf
set_option maxRecDepth 100000

/-- Grow makes room in a new row. -/
def GrowsPost (w : World) (e : Ending) (w' : World) : Prop := ∃ v, e = .returned v ∧ w'.ownsRow w.heap.size 3 1 v 0 [] ∧ Below w.heap.size w w'

theorem flat_step {zss : List (List Int)} {j : Nat} {zs : List Int} (h : zss[j]? = some zs) : (zss.take (j + 1)).flatten = (zss.take j).flatten ++ zs := by
  rw [List.take_add_one, h]
  simp
theorem flat_le : ∀ (zss : List (List Int)) (j : Nat), (zss.take j).flatten.length ≤ zss.flatten.length
  | [], j => by simp
  | z :: r, 0 => by simp
  | z :: r, j + 1 => by have := flat_le r j; simp only [List.take_succ_cons, List.flatten_cons, List.length_append]; omega

end Go.Proofs.Ytiefobkddckkbaa
