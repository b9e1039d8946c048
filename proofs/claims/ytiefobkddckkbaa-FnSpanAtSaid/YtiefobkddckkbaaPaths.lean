/-
  The paths of all parts of a node, as data.
  impl.behind, impl.pathsIn, impl.PathsOf.
-/
import Derived.Test.YtiefobkddckkbaaCat
import Derived.Test.YtiefobkddckkbaaOpen
import Derived.Test.YtiefobkddckkbaaPath
namespace Go.Proofs.Ytiefobkddckkbaa
open Go.RowKit Go.Shelf
set_option maxRecDepth 100000

/-- The paths of the parts of the nodes of a list, the first of which has the index i. -/
def pathsK : Fo → Nat → List (List Int)
  | .nil, _ => []
  | .cons _ _ k r, i => ([] :: pathsK k 0).map (List.cons (i : Int)) ++ pathsK r (i + 1)
def pathsP (k : Fo) : List (List Int) := [] :: pathsK k 0
theorem pathsK_len : ∀ (f : Fo) (i : Nat), (pathsK f i).length = f.size
  | .nil, _ => rfl
  | .cons _ _ k r, i => by simp only [pathsK, List.length_append, List.length_map, List.length_cons, pathsK_len k 0, pathsK_len r (i + 1), Fo.size]; omega
theorem pathsP_len (k : Fo) : (pathsP k).length = k.size + 1 := by simp [pathsP, pathsK_len]
theorem pathsK_short : ∀ (f : Fo) (i : Nat) (zs : List Int), zs ∈ pathsK f i → zs.length ≤ f.size
  | .nil, _, zs, h => by simp [pathsK] at h
  | .cons _ _ k r, i, zs, h => by
    simp only [pathsK, List.mem_append, List.mem_map] at h
    simp only [Fo.size]
    rcases h with ⟨y, hy, rfl⟩ | h
    · rcases List.mem_cons.1 hy with rfl | hy
      · simp
      · have := pathsK_short k 0 y hy
        simp only [List.length_cons]; omega
    · have := pathsK_short r (i + 1) zs h
      omega
theorem pathsP_short {k : Fo} {zs : List Int} (h : zs ∈ pathsP k) : zs.length ≤ k.size := by
  rcases List.mem_cons.1 h with rfl | h
  · simp
  · exact pathsK_short k 0 zs h
theorem pathsK_drop {f : Fo} {j : Nat} {o m : Int} {k : Fo} (e : f.drop j = .cons o m k (f.drop (j + 1))) : pathsK (f.drop j) j = (pathsP k).map (List.cons (j : Int)) ++ pathsK (f.drop (j + 1)) (j + 1) := by rw [e]; rfl

/-- The post of a function that makes a list of lists. -/
def PathsPost (zss : List (List Int)) (w : World) (e : Ending) (w' : World) : Prop := ∃ A c bs, e = .returned (.slice A zss.length c) ∧ OwnSS w' w.heap.size (.slice A zss.length c) zss bs ∧ Below w.heap.size w w'

end Go.Proofs.Ytiefobkddckkbaa
