/-
  Flags gathered over the nodes of a tree: which variables it has, which it binds.
-/
import Derived.Test.YtbpcggbmlaomjaaFlags
namespace Go.Proofs.Ytbpcggbmlaomjaa
open Go.RowKit
set_option maxRecDepth 100000

/-- Is a flag set by one of the nodes? -/
def hasF (q : Int → Int → Nat → Bool) : Fo → Nat → Bool
  | .nil, _ => false
  | .cons op n k r, v => (q op n v || hasF q k v) || hasF q r v
def hasB (q : Int → Int → Nat → Bool) (p : Nd) (v : Nat) : Bool := q p.op p.n v || hasF q p.k v
theorem hasF_cons {q : Int → Int → Nat → Bool} {f : Fo} {op n : Int} {k r : Fo} (e : f = .cons op n k r) (v : Nat) : hasF q f v = (hasB q ⟨op, n, k⟩ v || hasF q r v) := by subst e; rfl
theorem has_ordF (q : Int → Int → Nat → Bool) (v : Nat) : ∀ (p : Nd) (i : Nat) (k : Fo), (ordF (fun _ _ => false) p i k).any (fun x => q x.op x.n v) = hasF q k v
  | _, _, .nil => rfl
  | p, i, .cons op n k r => by
    have h1 := has_ordF q v p (i + 1) r
    have h2 := has_ordF q v ⟨op, n, k⟩ 0 k
    simp only [ordF, List.any_append, h1, hasF]
    simp [h2, Bool.or_comm]
theorem has_ordN (q : Int → Int → Nat → Bool) (v : Nat) (p : Nd) : (ordN (fun _ _ => false) p).any (fun x => q x.op x.n v) = hasB q p v := by
  simp [ordN, hasB, has_ordF]
def seenQ (q : Int → Int → Nat → Bool) (l : List Nd) (v : Nat) : Bool := l.any (fun x => q x.op x.n v)
theorem seenQ_snoc (q : Int → Int → Nat → Bool) (l : List Nd) (x : Nd) (v : Nat) : seenQ q (l ++ [x]) v = (seenQ q l v || q x.op x.n v) := by simp [seenQ]

/-- Is the node the variable v, or does it bind it? -/
def ownVL (op n : Int) (v : Nat) : Bool := (decide (op = 2) || decide (op = 7)) && decide (n = (v : Int))
/-- Does the node bind the variable v? -/
def ownLet (op n : Int) (v : Nat) : Bool := decide (op = 7) && decide (n = (v : Int))
end Go.Proofs.Ytbpcggbmlaomjaa
