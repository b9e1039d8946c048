/-
  Boxes of parameters: rows that the call makes at its beginning.
-/
import Derived.Test.YtjaabcfgnmomkaaLiesI
import Derived.Lib.Hide
namespace Go.Proofs.Ytjaabcfgnmomkaa
open Go.RowKit
set_option maxRecDepth 100000

theorem one_box (w : World) (t : TypeId) (cs : Array Value) : Below w.heap.size w (w.alloc (.cells cs t)) ∧ Row (w.alloc (.cells cs t)) w.heap.size t cs :=
  ⟨(Below.refl _ _).alloc (Nat.le_refl _) _, Row.fresh w _ _⟩
/-- Two boxes behind each other. -/
theorem two_boxes (w : World) (t t' : TypeId) (cs ds : Array Value) : Below w.heap.size w ((w.alloc (.cells cs t)).alloc (.cells ds t')) ∧ Row ((w.alloc (.cells cs t)).alloc (.cells ds t')) w.heap.size t cs ∧ Row ((w.alloc (.cells cs t)).alloc (.cells ds t')) (w.heap.size + 1) t' ds := by
  refine ⟨((Below.refl _ _).alloc (Nat.le_refl _) _).alloc (by simp) _, (Row.fresh w _ _).alloc _, ?_⟩
  have := Row.fresh (w.alloc (.cells cs t)) t' ds
  rw [World.size_alloc] at this
  exact this
end Go.Proofs.Ytjaabcfgnmomkaa
