/-
  impl.hideNone: nothing is hidden.
-/
import Derived.Test.YtbpcggbmlaomjaaFo
import Derived.Test.YtbpcggbmlaomjaaRows
import Derived.WalkKit
namespace Go.Proofs.Ytbpcggbmlaomjaa
open Go.RowKit
set_option maxRecDepth 100000

theorem hideNone_any (op m : Int) (v : Value) (i : Int) (w : World) : Calls Try.prog 80 #[.agg #[.int .i64 op, .int .i64 m, v], .int .i64 i] w (Gives (.bool false) w) := by
  go_enter Try.func80, Try.ntmps80
  go_wp2
  go_ret
  exact ⟨rfl, (Below.refl _ _).alloc (Nat.le_refl _) _⟩
end Go.Proofs.Ytbpcggbmlaomjaa
