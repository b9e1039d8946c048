/-
  Names (data): what stays of the replacement where nothing is replaced.
-/
import Derived.Test.YtemphmncdmbndaaDoorFo
import Derived.Test.YtemphmncdmbndaaDoorShape
import Derived.Test.YtemphmncdmbndaaDoorTree
import Derived.Test.YtemphmncdmbndaaDoorSmall
import Derived.Test.YtemphmncdmbndaaDoorVp
namespace Go.Proofs.YtemphmncdmbndaaDoor
open Go.RowKit Go.Shelf
set_option maxRecDepth 100000

def nameOk (op n : Int) (l : Nat) : Bool := (!(decide (op = 2) || decide (op = 7)) || inVar n) && (!decide (op = 2) || decide (l = 0))
theorem nameOk_own {op n : Int} {S : Nat → Bool} {l : Nat} (hk : kidsOk op l = true) (h : ownOk op n S = true) : nameOk op n l = true := by
  unfold nameOk
  by_cases h2 : op = 2
  · subst h2
    have h3 : inVar n = true := by
      have h' : (inVar n && S n.toNat) = true := by simpa [ownOk] using h
      simp only [Bool.and_eq_true] at h'
      exact h'.1
    have h4 : l = 0 := by simpa [kidsOk] using hk
    simp [h3, h4]
  · by_cases h7 : op = 7
    · subst h7
      have : inVar n = true := by simpa [ownOk] using h
      simp [this]
    · simp [h2, h7]
def kid1 : Fo → Nd
  | .cons o m k _ => ⟨o, m, k⟩
  | .nil => ⟨0, 0, .nil⟩
def kid2 : Fo → Nd
  | .cons _ _ _ r => kid1 r
  | .nil => ⟨0, 0, .nil⟩
/-- A tree stays where a block below it is written. -/
theorem Tree.put {w : World} {base : Nat} {v : Value} {f : Fo} {bs : List Nat} (h : Tree w base v f bs) {p : Addr} (hp : p.block < base) (u : Value) : Tree (w.setCell p u) base v f bs :=
  h.keep fun q hq => Below.heap_setCell w p u q (by have := (h.lt q hq).1; omega)
end Go.Proofs.YtemphmncdmbndaaDoor
