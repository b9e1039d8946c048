/-
  impl.OldCalls.
  spec.OldCalls.
-/
import Derived.Test.YtgmhpfdhkcgbfaaGreatEffD
import Derived.Test.YtgmhpfdhkcgbfaaGreatLibVI
import Derived.Test.YtgmhpfdhkcgbfaaGreatCallsM
import Derived.Test.YtgmhpfdhkcgbfaaGreatFo
import Derived.Maps.AppendAt
import Derived.Test.YtgmhpfdhkcgbfaaGreatLibVD
import Derived.Test.YtgmhpfdhkcgbfaaGreatLibVS
namespace Go.Proofs.YtgmhpfdhkcgbfaaGreat
open Go.RowKit
set_option maxRecDepth 100000

end Go.Proofs.YtgmhpfdhkcgbfaaGreat

namespace Go.Proofs.YtgmhpfdhkcgbfaaGreat
open Go.RowKit
set_option maxRecDepth 100000

/-- A new empty list. -/
theorem own_empty0 (w : World) (base : Nat) (hb : base ≤ w.heap.size) : (w.alloc (Obj.cells #[] 3)).ownsRow base 3 1 (.slice (some ⟨w.heap.size, 0, none⟩) 0 0) 0 [] :=
  ⟨rfl, .inr ⟨w.heap.size, 0, #[], rfl, hb, heap_alloc_new _ _, Nat.le_refl _, by decide, rfl, rfl⟩⟩

/-- The place of a name that is there. -/
theorem place_there {x : Int} {ds : List De} {d : De} (h : fnd x ds = some d) : ∃ p : Nat, plcI x ds = (p : Int) ∧ ds[p]? = some d ∧ p < ds.length := by
  have h2 := plc_fnd x ds
  by_cases hp : plc x ds < ds.length
  · obtain ⟨d', e1, e2⟩ := h2.1 hp
    rw [h] at e2
    cases e2
    exact ⟨plc x ds, by unfold plcI; rw [if_pos hp], e1, hp⟩
  · rw [h2.2 hp] at h
    cases h

end Go.Proofs.YtgmhpfdhkcgbfaaGreat
