/-
  impl.isVar.
  impl.isFun.
  impl.bindsIn.
-/
import Derived.Test.YthjfinhfpgifiaaFo
import Derived.Test.YthjfinhfpgifiaaRows
import Derived.WalkKit
import Derived.WalkSpells
import Derived.WalkSmall
import Derived.Lib.Hide
import Derived.StillTailTactics
import Derived.BigQuiet
import Derived.Deep.QuietTactic
namespace Go.Proofs.Ythjfinhfpgifiaa
open Go.RowKit
set_option maxRecDepth 100000

theorem isVar_any (n : Int) (w : World) : Calls Try.prog 50 #[.int .i64 n] w (Gives (.bool (inVar n)) w) := by
  by_cases h0 : 0 ≤ n
  · go_enter Try.func50, Try.ntmps50
    go_wp2
    go_ret
    exact ⟨ret_bool (by simp [inVar, h0]), Below.refl _ _⟩
  · go_enter Try.func50, Try.ntmps50
    go_wp2
    go_ret
    exact ⟨ret_bool (by rw [inVar_mk' (by omega)]), Below.refl _ _⟩
end Go.Proofs.Ythjfinhfpgifiaa

namespace Go.Proofs.Ythjfinhfpgifiaa
open Go.RowKit
set_option maxRecDepth 100000

theorem isFun_any (n : Int) (w : World) : Calls Try.prog 34 #[.int .i64 n] w (Gives (.bool (inVar n)) w) := by
  by_cases h0 : 0 ≤ n
  · go_enter Try.func34, Try.ntmps34
    go_wp2
    go_ret
    exact ⟨ret_bool (by simp [inVar, h0]), Below.refl _ _⟩
  · go_enter Try.func34, Try.ntmps34
    go_wp2
    go_ret
    exact ⟨ret_bool (by rw [inVar_mk' (by omega)]), Below.refl _ _⟩
end Go.Proofs.Ythjfinhfpgifiaa

namespace Go.Proofs.Ythjfinhfpgifiaa
open Go.RowKit
set_option maxRecDepth 100000

/-- Is the operand i of a node op the one in which it binds? -/
def binds (op i : Int) : Bool := decide (op = 7) && decide (i = 1)
theorem bindsIn_any (op n : Int) (v : Value) (i : Int) (w : World) : Calls Try.prog 70 #[.agg #[.int .i64 op, .int .i64 n, v], .int .i64 i] w (Gives (.bool (binds op i)) w) := by
  by_cases h0 : op = 7
  · subst h0
    go_enter Try.func70, Try.ntmps70
    go_wp2
    go_ret
    exact ⟨ret_bool (by simp [binds]; rfl), (Below.refl _ _).alloc (Nat.le_refl _) _⟩
  · have h1 : (op == 7) = false := by simpa using h0
    go_enter Try.func70, Try.ntmps70
    go_wp2
    go_ret
    exact ⟨ret_bool (by simp [binds, h0]), (Below.refl _ _).alloc (Nat.le_refl _) _⟩
end Go.Proofs.Ythjfinhfpgifiaa
