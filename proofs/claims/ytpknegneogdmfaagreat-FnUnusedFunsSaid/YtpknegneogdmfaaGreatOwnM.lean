/-
  A list of the call's own, seen as a list of numbers.
  The post of a function that returns a list of numbers in memory of its own.
  Rows of the call's own, seen from further below; eight flags that are made.
-/
import Derived.Test.YtpknegneogdmfaaGreatFo
import Derived.Test.YtpknegneogdmfaaGreatDe
import Derived.Laws.AppendOwn
import Derived.Test.YtpknegneogdmfaaGreatRows
import Derived.WalkKit
namespace Go.Proofs.YtpknegneogdmfaaGreat
open Go.RowKit
set_option maxRecDepth 100000

theorem own_other_row {w : World} {base : Nat} {e t : TypeId} {size : Nat} {v : Value} {n : Nat} {xs : List Value} {g : Nat} {cs : Array Value} (h : w.ownsRow base e size v n xs) (hr : Row w g t cs) (hne : t ≠ e) : some g ≠ v.ownBlock := by
  rcases h.2 with ⟨rfl, _⟩ | ⟨g2, cap, cur, rfl, _, hh, _⟩
  · simp [Value.ownBlock]
  · intro hg
    have h1 : g = g2 := by simpa [Value.ownBlock] using hg
    subst h1
    have h9 := Option.some.inj (Eq.trans (Eq.symm hr) hh)
    injection h9 with _ h10
    exact hne h10
theorem own_below {w w' : World} {base : Nat} {e : TypeId} {size : Nat} {v : Value} {n : Nat} {xs : List Value} (h : w.ownsRow base e size v n xs) (hb : Below w.heap.size w w') : w'.ownsRow base e size v n xs :=
  ownsRow_kc (X := fun _ => False) h (.of_below hb) (fun _ hf => hf.elim)
theorem own_ints {w : World} {base : Nat} {e : TypeId} {v : Value} {zs : List Int} (h : w.ownsRow base e 1 v zs.length (zs.map (Value.int .i64))) (hz : ∀ x ∈ zs, I64 x) : ∃ A c, v = .slice A zs.length c ∧ LiesI w base w.heap.size A zs := by
  rcases h.2 with ⟨rfl, h0⟩ | ⟨g, cap, cur, rfl, h2, h3, h4, _, h5, h6⟩
  · exact ⟨none, 0, by rw [h0], fun i x hx => absurd (List.getElem?_eq_some_iff.1 hx).1 (by omega)⟩
  · refine ⟨_, cap, rfl, fun i x hx => ⟨g, 0, rfl, h2, (Array.getElem?_eq_some_iff.1 h3).1, hz x (List.mem_of_getElem? hx), ?_⟩⟩
    have hi := (List.getElem?_eq_some_iff.1 hx).1
    have h7 : (cur.toList.take (zs.length * 1))[i]? = (zs.map (Value.int .i64))[i]? := by rw [h6]
    rw [List.getElem?_take_of_lt (by omega), List.getElem?_map, hx, Array.getElem?_toList] at h7
    rw [Nat.zero_add]
    exact (cell_of_row w g i cur _ _ h3).trans h7
end Go.Proofs.YtpknegneogdmfaaGreat

namespace Go.Proofs.YtpknegneogdmfaaGreat
open Go.RowKit
set_option maxRecDepth 100000

/-- The post of both: a list of the call's own. -/
def ListPost (zs : List Int) (w : World) (e : Ending) (w' : World) : Prop := ∃ v, e = .returned v ∧ w'.ownsRow w.heap.size 3 1 v zs.length (zs.map (Value.int .i64)) ∧ Below w.heap.size w w'
end Go.Proofs.YtpknegneogdmfaaGreat

namespace Go.Proofs.YtpknegneogdmfaaGreat
open Go.RowKit
set_option maxRecDepth 100000

theorem own_less {w : World} {base base' : Nat} {e : TypeId} {size : Nat} {v : Value} {n : Nat} {xs : List Value} (h : w.ownsRow base e size v n xs) (hb : base' ≤ base) : w.ownsRow base' e size v n xs := by
  refine ⟨h.1, ?_⟩
  rcases h.2 with h0 | ⟨g, cap, cur, h1, h2, h3⟩
  · exact .inl h0
  · exact .inr ⟨g, cap, cur, h1, by omega, h3⟩

theorem madeF_run (w : World) : (Instr.makeSlice 41 (.int .i64 8) (.int .i64 8)).run Tryz.prog w = .ok (.slice (some ⟨w.heap.size, 0, Option.none⟩) 8 8) (w.alloc (.cells (cells8 fun _ => false) 4)) := by kernel_rfl
end Go.Proofs.YtpknegneogdmfaaGreat
