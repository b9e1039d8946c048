/-
  impl.isVar.
  impl.isFun.
  impl.bindsIn.
-/
import Derived.Test.YtancnbbmlidokaaFo
import Derived.Test.YtancnbbmlidokaaRows
import Derived.WalkKit
import Derived.WalkSpells
import Derived.WalkSmall
import Derived.Lib.Hide
import Derived.StillTailTactics
import Derived.BigQuiet
import Derived.Deep.QuietTactic
namespace Go.Proofs.Ytancnbbmlidokaa
open Go.RowKit
set_option maxRecDepth 100000

end Go.Proofs.Ytancnbbmlidokaa

namespace Go.Proofs.Ytancnbbmlidokaa
open Go.RowKit
set_option maxRecDepth 100000

theorem isFun_any (n : Int) (w : World) : Calls Try.prog 10 #[.int .i64 n] w (Gives (.bool (inVar n)) w) := by
  by_cases h0 : 0 ≤ n
  · go_enter Try.func10, Try.ntmps10
    go_wp2
    go_ret
    exact ⟨ret_bool (by simp [inVar, h0]), Below.refl _ _⟩
  · go_enter Try.func10, Try.ntmps10
    go_wp2
    go_ret
    exact ⟨ret_bool (by rw [inVar_mk' (by omega)]), Below.refl _ _⟩
end Go.Proofs.Ytancnbbmlidokaa

namespace Go.Proofs.Ytancnbbmlidokaa
open Go.RowKit
set_option maxRecDepth 100000

/-- Is the operand i of a node op the one in which it binds? -/
def binds (op i : Int) : Bool := decide (op = 7) && decide (i = 1)
end Go.Proofs.Ytancnbbmlidokaa
