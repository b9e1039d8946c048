/-
  spec.l9Paths, spec.PathsOf.
-/
import Derived.Test.YtababbjblaafiaaPathsI
namespace Go.Proofs.Ytababbjblaafiaa
open Go.RowKit Go.Shelf
set_option maxRecDepth 100000

theorem paths_push (pz : List Int) (k : Fo) (j : Nat) {o m : Int} {k1 : Fo} (e : k.drop j = .cons o m k1 (k.drop (j + 1))) :
    (pathsK (k.drop j) j).map (pz ++ ·) = (pathsP k1).map ((pz ++ [(j : Int)]) ++ ·) ++ (pathsK (k.drop (j + 1)) (j + 1)).map (pz ++ ·) := by
  rw [pathsK_drop e, List.map_append, List.map_map]
  congr 1
  refine List.map_congr_left fun z _ => ?_
  simp

/-- The world went on, and no block but the one of the list was turned. -/
theorem grown_trans {a b c : World} {r r2 : Option Nat} (h : a.grownBy b r) (k : b.grownBy c r2) (hr : r2 = r ∨ ∀ g, r2 = some g → a.heap.size ≤ g) : a.grownBy c r :=
  ⟨k.os.trans h.os, k.tape.trans h.tape, k.output.trans h.output, Nat.le_trans h.size k.size, fun q hq hn => (k.block q (Nat.lt_of_lt_of_le hq h.size) (fun e => by
    rcases hr with rfl | hr
    · exact hn e
    · have := hr q e.symm; omega)).trans (h.block q hq hn)⟩
theorem grown_below {a b : World} {r : Option Nat} (h : Below a.heap.size a b) : a.grownBy b r := ⟨h.os, h.tape, h.output, h.size, fun q hq _ => h.block q hq⟩

/-- The post of l9Paths. -/
def Paths9 (pre : List (List Int)) (k : Fo) (pz : List Int) (v : Value) (base : Nat) (bs : List Nat) (w : World) (e : Ending) (w' : World) : Prop :=
  ∃ A' c' bs', e = .returned (.slice A' (pre ++ (pathsP k).map (pz ++ ·)).length c') ∧ OwnSS w' base (.slice A' (pre ++ (pathsP k).map (pz ++ ·)).length c') (pre ++ (pathsP k).map (pz ++ ·)) bs' ∧ w.grownBy w' v.ownBlock ∧ (∀ b, b ∈ bs' → b ∈ bs ∨ w.heap.size ≤ b) ∧ (A'.map Addr.block = v.ownBlock ∨ ∀ a, A' = some a → w.heap.size ≤ a.block)

theorem paths_id (zss : List (List Int)) : zss.map (([] : List Int) ++ ·) = zss := by
  rw [show (fun x : List Int => ([] : List Int) ++ x) = id from funext fun x => List.nil_append x, List.map_id]

end Go.Proofs.Ytababbjblaafiaa
