/-
  laws.eqSpan at two places that are the same.
-/
import Derived.Test.YtiefobkddckkbaaRows
import Derived.Test.YtiefobkddckkbaaFo
import Derived.WalkKit
import Derived.WalkSpells
namespace Go.Proofs.Ytiefobkddckkbaa
open Go.RowKit
set_option maxRecDepth 100000

theorem eqSpan_any (a z : Int) (w : World) : Calls Try.prog 11 #[.agg #[.int .i64 a, .int .i64 z], .agg #[.int .i64 a, .int .i64 z]] w (Gives (.bool true) w) := by
  obtain ⟨hb, r1, r2⟩ := two_boxes w 28 28 #[.int .i64 a, .int .i64 z] #[.int .i64 a, .int .i64 z]
  have a0 := r1.cell (i := 0) rfl
  have a1 := r1.cell (i := 1) rfl
  have b0 := r2.cell (i := 0) rfl
  have b1 := r2.cell (i := 1) rfl
  have HB := Lib.hid hb
  clear hb r1 r2
  go_enter Try.func11, Try.ntmps11
  go_wp2_with fail
  go_ret
  exact ⟨rfl, HB.out⟩
end Go.Proofs.Ytiefobkddckkbaa
