/-
  spec.l1Any, impl.validOpen: valid with all variables in scope; CallsFit, both sides.
-/
import Derived.Test.YtbpcggbmlaomjaaOpen
import Derived.Test.YtbpcggbmlaomjaaScope
import Derived.Test.YtbpcggbmlaomjaaIsV
import Derived.Test.YtbpcggbmlaomjaaImplV
import Derived.Test.YtbpcggbmlaomjaaFitS
import Derived.Test.YtbpcggbmlaomjaaAllFit
import Derived.Deep.RegionHeld3
namespace Go.Proofs.Ytbpcggbmlaomjaa
open Go.RowKit
set_option maxRecDepth 100000

/-- All call names of a well-formed tree are functions: both ways to look a function up agree. -/
theorem fit_of_shape (ds : List De) : ∀ (f : Fo) (op n : Int) (i : Nat) (S : Nat → Bool) (d : Nat), shapeF op n i S d f = true → fitF (ariI ds) f = fitF (ariS ds) f
  | .nil, _, _, _, _, _, _ => rfl
  | .cons o m k r, op, n, i, S, d, h => by
    simp only [shapeF, Bool.and_eq_true] at h
    obtain ⟨⟨⟨⟨h1, h2⟩, h3⟩, h4⟩, h5⟩ := h
    have e1 := fit_of_shape ds k o m 0 _ _ h4
    have e2 := fit_of_shape ds r op n (i + 1) S d h5
    have e3 : okCall (ariI ds) o m k.len = okCall (ariS ds) o m k.len := by
      unfold okCall
      by_cases ho : o = 3
      · subst ho
        have hv : inVar m = true := by simpa [ownOk] using h3
        simp [ariI, hv]
      · simp [ho]
    simp only [fitF, e1, e2, e3]
theorem fit_of_is {ds : List De} {op n : Int} {k : Fo} {S : Nat → Bool} (h : nodeIs op n k S = true) : fitN (ariI ds) op n k = fitN (ariS ds) op n k := by
  unfold nodeIs nodeShape at h
  simp only [Bool.and_eq_true] at h
  obtain ⟨⟨⟨⟨h1, h2⟩, h3⟩, h4⟩, h5⟩ := h
  have e1 := fit_of_shape ds k op n 0 S _ h4
  have e3 : okCall (ariI ds) op n k.len = okCall (ariS ds) op n k.len := by
    unfold okCall
    by_cases ho : op = 3
    · subst ho
      have hv : inVar n = true := by simpa [ownOk] using h3
      simp [ariI, hv]
    · simp [ho]
  simp only [fitN, e1, e3]
end Go.Proofs.Ytbpcggbmlaomjaa
