/-
  What reads as a slice of ints IS a list of numbers that lies in memory.
-/
import Derived.Test.YtiefobkddckkbaaRead
import Derived.Test.YtiefobkddckkbaaFo
namespace Go.Proofs.Ytiefobkddckkbaa
open Go.ChangeShapes Go.WideShapes Go.ChangeAt Go.RowKit
set_option maxRecDepth 100000

section
variable {H : Type} {enc : TypeId × Value → H} {w : World} {sp : Nat → Bool} {hd : Bool}

/-- An argument that reads as a slice of ints. -/
theorem read_ints {A0 : Option Addr} {len cap : Nat} {d : DataW H} {ps : List MemPlace} (h : DataW.Trod enc Try.prog w 0 sp hd 25 (.slice A0 len cap) d ps) :
    ∃ (A : Option Addr) (c : Nat) (zs : List Int), Value.slice A0 len cap = .slice A zs.length c ∧ zs.length ≤ maxLen ∧ LiesI w 0 w.heap.size A zs := by
  obtain ⟨fuel, hf⟩ := h
  rcases open_ints Try.underlying25 Try.underlying3 cI hf with ⟨hcs, _⟩ | ⟨a, len', cap', zs, hcs, _, hl, hm, hz, _, hcell, hwz⟩
  · simp [Value.cells] at hcs
    obtain ⟨rfl, rfl, rfl⟩ := hcs
    exact ⟨none, 0, [], rfl, Nat.zero_le _, fun i x hx => by simp at hx⟩
  · simp [Value.cells] at hcs
    obtain ⟨rfl, rfl, rfl⟩ := hcs
    have hzl : len ≤ zs.length := by rw [hz]; split <;> omega
    have htl : (zs.take len).length = len := by rw [List.length_take]; omega
    refine ⟨some a, cap, zs.take len, by rw [htl], by rw [htl]; omega, ?_⟩
    intro i x hx
    have hi : i < len := by have := (List.getElem?_eq_some_iff.1 hx).1; omega
    have hx2 : zs[i]? = some x := by rw [List.getElem?_take_of_lt hi] at hx; exact hx
    have hi2 := hcell i (by omega)
    have h0 := hcell 0 (by omega)
    obtain ⟨b, off, spot⟩ := a
    have hspot : spot = none := by simpa [Addr.add] using World.cell?_spot h0
    subst hspot
    rw [add_plain_] at hi2
    have hb : b < w.heap.size := World.block_lt_of_cell? _ _ hi2
    have hgd : zs.getD i 0 = x := by rw [List.getD_eq_getElem?_getD, hx2]; rfl
    rw [hgd] at hi2
    exact ⟨b, off, rfl, Nat.zero_le _, hb, i64_of_wf (hwz x (List.mem_of_getElem? hx2)), hi2⟩
end
end Go.Proofs.Ytiefobkddckkbaa
