/-
  spec.ExprSame: two trees of nodes are the same.
-/
import Derived.Test.YtiefobkddckkbaaFo
import Derived.Test.YtiefobkddckkbaaRows
import Derived.WalkKit
import Derived.WalkSpells
import Derived.Lib.Hide
import Derived.StillTailTactics
namespace Go.Proofs.Ytiefobkddckkbaa
open Go.RowKit
set_option maxRecDepth 100000

def sameFo : Fo → Fo → Bool
  | .nil, .nil => true
  | .cons op n k r, .cons op' n' k' r' => (decide (op = op') && decide (n = n') && sameFo k k') && sameFo r r'
  | .nil, .cons .. => false
  | .cons .., .nil => false
def sameN (op n : Int) (k : Fo) (op' n' : Int) (k' : Fo) : Bool := decide (op = op') && decide (n = n') && sameFo k k'
theorem sameFo_len : ∀ {f g : Fo}, sameFo f g = true → f.len = g.len
  | .nil, .nil, _ => rfl
  | .cons _ _ _ r, .cons _ _ _ r', h => by
    simp only [sameFo, Bool.and_eq_true] at h
    simp only [Fo.len, sameFo_len h.2]
  | .nil, .cons .., h => by simp [sameFo] at h
  | .cons .., .nil, h => by simp [sameFo] at h
theorem sameFo_ne {f g : Fo} (h : f.len ≠ g.len) : sameFo f g = false := by
  cases e : sameFo f g with
  | false => rfl
  | true => exact absurd (sameFo_len e) h
theorem sameFo_cons {f g : Fo} {op n op' n' : Int} {k k' r r' : Fo} (e1 : f = .cons op n k r) (e2 : g = .cons op' n' k' r') : sameFo f g = (sameN op n k op' n' k' && sameFo r r') := by
  subst e1 e2
  rfl
end Go.Proofs.Ytiefobkddckkbaa
