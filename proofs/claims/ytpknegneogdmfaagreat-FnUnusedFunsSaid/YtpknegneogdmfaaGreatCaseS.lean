/-
  spec.l1Arity, spec.l1Case: an expression and a scope are drawn.
-/
import Derived.Test.YtpknegneogdmfaaGreatMutS
namespace Go.Proofs.YtpknegneogdmfaaGreat
open Go.RowKit Go.Shelf
set_option maxRecDepth 100000

theorem LiesY.small {w : World} {L B : Nat} {A : Option Addr} {bs : List Nat} (h : LiesY w L B A bs) : ∀ x, x ∈ bs → x < 256 := fun x hx => by
  obtain ⟨i, hlt, hi⟩ := List.getElem_of_mem hx
  obtain ⟨_, _, _, _, _, h5, _⟩ := h i x (by rw [List.getElem?_eq_getElem hlt, hi])
  exact h5

/-- A tree that a draw hands on: its own, not too great. -/
def Drawn (w : World) (base : Nat) (op n : Int) (k : Fo) (X : Option Addr) (c : Nat) : Prop := ∃ bl, (I64 op ∧ I64 n) ∧ Tree w base (.slice X k.len c) k bl ∧ k.size ≤ 500300

def CasePost (w : World) (e : Ending) (w' : World) : Prop :=
  ∃ op n k X c v zs, e = .returned (.tuple #[.agg #[.int .i64 op, .int .i64 n, .slice X (Fo.len k) c], v]) ∧ Drawn w' w.heap.size op n k X c ∧ w'.ownsRow w.heap.size 3 1 v (List.length zs) (zs.map (Value.int .i64)) ∧ zs.length ≤ 3 ∧ (∀ x, x ∈ zs → I64 x) ∧ Below w.heap.size w w'

/-- The same, and the scope's row is none of the tree's. -/
def CasePost2 (w : World) (e : Ending) (w' : World) : Prop :=
  ∃ op n k X c v zs bl, e = .returned (.tuple #[.agg #[.int .i64 op, .int .i64 n, .slice X (Fo.len k) c], v]) ∧ ((I64 op ∧ I64 n) ∧ Tree w' w.heap.size (.slice X k.len c) k bl ∧ k.size ≤ 500300) ∧ w'.ownsRow w.heap.size 3 1 v (List.length zs) (zs.map (Value.int .i64)) ∧ zs.length ≤ 3 ∧ (∀ x, x ∈ zs → I64 x) ∧ Below w.heap.size w w' ∧ (∀ z, v.ownBlock = some z → z ∈ bl → False)

end Go.Proofs.YtpknegneogdmfaaGreat
