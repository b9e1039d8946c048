/-
  Small facts on numbers, endings and forests.
-/
import Derived.Test.YtbpcggbmlaomjaaFo
namespace Go.Proofs.Ytbpcggbmlaomjaa
open Go.RowKit
set_option maxRecDepth 100000

/-- A number from 0 to 7. -/
def inVar (n : Int) : Bool := decide (0 ≤ n) && decide (n < 8)
theorem inVar_true {n : Int} (h : inVar n = true) : 0 ≤ n ∧ n < 8 := by simpa [inVar] using h
theorem inVar_false {n : Int} (h : inVar n = false) : n < 0 ∨ 8 ≤ n := by
  have : ¬ (0 ≤ n ∧ n < 8) := by simpa [inVar] using h
  omega
theorem inVar_mk {n : Int} (h0 : 0 ≤ n) (h1 : n < 8) : inVar n = true := by simp [inVar, h0, h1]
theorem inVar_mk' {n : Int} (h : n < 0 ∨ 8 ≤ n) : inVar n = false := by
  simp only [inVar, Bool.and_eq_false_iff, decide_eq_false_iff_not]; omega
theorem ret_int {k : IntKind} {a b : Int} (h : a = b) : Ending.returned (.int k a) = .returned (.int k b) := by rw [h]
theorem ret_bool {a b : Bool} (h : a = b) : Ending.returned (.bool a) = .returned (.bool b) := by rw [h]

theorem Fo.drop_size_le : ∀ (f : Fo) (j : Nat), (f.drop j).size ≤ f.size
  | f, 0 => by rw [Fo.drop_zero]; exact Nat.le_refl _
  | .nil, j + 1 => Nat.le_refl _
  | .cons _ _ k r, j + 1 => by have := Fo.drop_size_le r j; simp only [Fo.drop, Fo.size]; omega
end Go.Proofs.Ytbpcggbmlaomjaa
