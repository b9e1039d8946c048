/-
  What reads as a change of the laws is two numbers.
-/
import Derived.Test.YtomalpidfjhfnaaFo
import Derived.Test.YtomalpidfjhfnaaRows
import Derived.WalkKit
import Derived.ProofKit
namespace Go.Proofs.Ytomalpidfjhfnaa
open Go.ChangeShapes Go.WideShapes Go.ChangeAt Go.RowKit
set_option maxRecDepth 100000

section
variable {H : Type} {enc : TypeId × Value → H} {w : World} {sp : Nat → Bool} {hd : Bool}
theorem cellsChange : Try.prog.cellsOf 70 = 2 := by kernel_rfl
theorem cellsInt : Try.prog.cellsOf 3 = 1 := by kernel_rfl
theorem read_change {v : Value} {d : DataW H} {ps : List MemPlace} (h : DataW.Trod enc Try.prog w 0 sp hd 70 v d ps) (hs : ∃ cs, v = .agg cs) : ∃ (k n : Int), v = .agg #[.int .i64 k, .int .i64 n] := by
  obtain ⟨fuel, hf⟩ := h
  obtain ⟨cs, rfl⟩ := hs
  obtain ⟨xs, m, _, _, hlen, hxl, hf⟩ := DataW.trod_struct Try.underlying70 hf
  rw [cellsChange] at hlen
  have hlen' : cs.toList.length = 2 := hlen
  obtain ⟨v0, v1, hv⟩ : ∃ v0 v1, cs.toList = [v0, v1] := by
    match h : cs.toList, hlen' with
    | [v0, v1], _ => exact ⟨v0, v1, rfl⟩
  have g0 : DataW.trod enc Try.prog w 0 sp hd m 3 (List.take (Try.prog.cellsOf 3) cs.toList) = xs[0]? := hf 0 _ rfl
  have g1 : DataW.trod enc Try.prog w 0 sp hd m 3 (List.take (Try.prog.cellsOf 3) (cs.toList.drop 1)) = xs[1]? := hf 1 _ rfl
  have hx2 : xs.length = 2 := hxl
  rw [cellsInt, hv, List.getElem?_eq_getElem (by omega)] at g0 g1
  obtain ⟨k, e0, _, _⟩ := DataW.trod_int Try.underlying3 g0
  obtain ⟨n, e1, _, _⟩ := DataW.trod_int Try.underlying3 g1
  simp only [List.take_succ_cons, List.take_zero, List.drop_succ_cons, List.drop_zero, List.cons.injEq, and_true] at e0 e1
  subst e0 e1
  refine ⟨k, n, congrArg Value.agg ?_⟩
  rw [← Array.toArray_toList (xs := cs), hv]
end
end Go.Proofs.Ytomalpidfjhfnaa
