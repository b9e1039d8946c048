/-
  An argument that reads as a list of expressions.
-/
import Derived.Test.YthjfinhfpgifiaaRead
namespace Go.Proofs.Ythjfinhfpgifiaa
open Go.WideShapes Go.ChangeAt Go.RowKit
set_option maxRecDepth 100000
variable {H : Type} {enc : TypeId × Value → H} {w : World} {sp : Nat → Bool} {hd : Bool}
theorem read_forest {A0 : Option Addr} {len cap : Nat} {d : DataW H} {ps : List MemPlace} (h : DataW.Trod enc Try.prog w 0 sp hd 23 (.slice A0 len cap) d ps) :
    ∃ (A : Option Addr) (c : Nat) (k : Fo), Value.slice A0 len cap = .slice A k.len c ∧ k.len ≤ maxLen ∧ Lies w 0 w.heap.size A 0 k := by
  obtain ⟨fuel, hf⟩ := h
  obtain ⟨A, c, k, e, hk, hc, hl⟩ := read_kids fuel _ _ hf
  simp [Value.cells] at e
  obtain ⟨rfl, rfl, rfl⟩ := e
  exact ⟨A0, cap, k, rfl, Nat.le_trans hk hc, hl⟩
end Go.Proofs.Ythjfinhfpgifiaa
