/-
  impl.isVar.
-/
import Derived.Test.YtbpcggbmlaomjaaBits
import Derived.Test.YtbpcggbmlaomjaaRows
import Derived.WalkKit
import Derived.WalkSpells
import Derived.WalkSmall
import Derived.Lib.Hide
import Derived.StillTailTactics
import Derived.BigQuiet
import Derived.Deep.QuietTactic
namespace Go.Proofs.Ytbpcggbmlaomjaa
open Go.RowKit
set_option maxRecDepth 100000

theorem isVar_any (n : Int) (w : World) : Calls Try.prog 58 #[.int .i64 n] w (Gives (.bool (inVar n)) w) := by
  by_cases h0 : 0 ≤ n
  · go_enter Try.func58, Try.ntmps58
    go_wp2
    go_ret
    exact ⟨ret_bool (by simp [inVar, h0]), Below.refl _ _⟩
  · go_enter Try.func58, Try.ntmps58
    go_wp2
    go_ret
    exact ⟨ret_bool (by rw [inVar_mk' (by omega)]), Below.refl _ _⟩
end Go.Proofs.Ytbpcggbmlaomjaa
