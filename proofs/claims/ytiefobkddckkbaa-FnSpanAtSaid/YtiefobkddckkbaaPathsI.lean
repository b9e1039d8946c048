/-
  impl.pathsIn, impl.PathsOf.
-/
import Derived.Test.YtiefobkddckkbaaPaths
namespace Go.Proofs.Ytiefobkddckkbaa
open Go.RowKit Go.Shelf
set_option maxRecDepth 100000

/-- The list of the empty list. -/
theorem OwnSS.start {w : World} {base g h : Nat} (h1 : Row w g 3 #[]) (h2 : Row w h 25 #[.slice (some ⟨g, 0, none⟩) 0 0]) (hg : base ≤ g) (hh : base ≤ h) (hne : h ≠ g) : OwnSS w base (.slice (some ⟨h, 0, none⟩) 1 1) [[]] [h, g] :=
  ⟨[⟨some ⟨g, 0, none⟩, [], 0⟩], [g], rfl, ⟨rfl, .inr ⟨h, 1, _, rfl, hh, h2, Nat.le_refl _, by decide, rfl, rfl⟩⟩, ⟨[], ⟨rfl, .inr ⟨g, 0, _, rfl, hg, h1, Nat.le_refl _, by decide, rfl, rfl⟩⟩, by simp, rfl, rfl⟩, rfl, by simp [hne]⟩

/-- What PathsOf returns. -/
def pathsB (p : Nd) : List (List Int) := if ndIs p then pathsP p.k else []
theorem nd_small {p : Nd} (h : ndIs p = true) : p.k.size ≤ 80 := by
  have h1 := ndIs_small h
  unfold smallOk at h1
  simp at h1
  omega
theorem pathsB_len (p : Nd) : (pathsB p).length ≤ 81 := by
  unfold pathsB
  split
  · rename_i h
    have := nd_small h
    rw [pathsP_len]; omega
  · simp

theorem flat_bound : ∀ (zss : List (List Int)) (b : Nat), (∀ zs, zs ∈ zss → zs.length ≤ b) → zss.flatten.length ≤ zss.length * b
  | [], b, _ => by simp
  | z :: r, b, h => by
    have h1 := flat_bound r b fun zs hz => h zs (List.mem_cons_of_mem _ hz)
    have h2 := h z (List.mem_cons_self ..)
    simp only [List.flatten_cons, List.length_append, List.length_cons, Nat.add_mul]
    omega
theorem pathsB_flat (p : Nd) : (pathsB p).flatten.length ≤ 1048576 := by
  have h := flat_bound (pathsB p) 80 fun zs hz => by
    unfold pathsB at hz
    split at hz
    · rename_i h
      exact Nat.le_trans (pathsP_short hz) (nd_small h)
    · cases hz
  have := pathsB_len p
  omega

end Go.Proofs.Ytiefobkddckkbaa
