/-
  impl.isVar.
  impl.isFun.
  impl.bindsIn.
-/
import Derived.Test.YtpknegneogdmfaaGreatFo
import Derived.Test.YtpknegneogdmfaaGreatRows
import Derived.WalkKit
import Derived.WalkSpells
import Derived.WalkSmall
import Derived.Lib.Hide
import Derived.StillTailTactics
import Derived.BigQuiet
import Derived.Deep.QuietTactic
namespace Go.Proofs.YtpknegneogdmfaaGreat
open Go.RowKit
set_option maxRecDepth 100000

theorem isVar_any (n : Int) (w : World) : Calls Tryz.prog 50 #[.int .i64 n] w (Gives (.bool (inVar n)) w) := by
  by_cases h0 : 0 ≤ n
  · go_enter Tryz.func50, Tryz.ntmps50
    go_wp2
    go_ret
    exact ⟨ret_bool (by simp [inVar, h0]), Below.refl _ _⟩
  · go_enter Tryz.func50, Tryz.ntmps50
    go_wp2
    go_ret
    exact ⟨ret_bool (by rw [inVar_mk' (by omega)]), Below.refl _ _⟩
end Go.Proofs.YtpknegneogdmfaaGreat

namespace Go.Proofs.YtpknegneogdmfaaGreat
open Go.RowKit
set_option maxRecDepth 100000

theorem isFun_any (n : Int) (w : World) : Calls Tryz.prog 23 #[.int .i64 n] w (Gives (.bool (inVar n)) w) := by
  by_cases h0 : 0 ≤ n
  · go_enter Tryz.func23, Tryz.ntmps23
    go_wp2
    go_ret
    exact ⟨ret_bool (by simp [inVar, h0]), Below.refl _ _⟩
  · go_enter Tryz.func23, Tryz.ntmps23
    go_wp2
    go_ret
    exact ⟨ret_bool (by rw [inVar_mk' (by omega)]), Below.refl _ _⟩
end Go.Proofs.YtpknegneogdmfaaGreat

namespace Go.Proofs.YtpknegneogdmfaaGreat
open Go.RowKit
set_option maxRecDepth 100000

/-- Is the operand i of a node op the one in which it binds? -/
def binds (op i : Int) : Bool := decide (op = 7) && decide (i = 1)
theorem bindsIn_any (op n : Int) (v : Value) (i : Int) (w : World) : Calls Tryz.prog 83 #[.agg #[.int .i64 op, .int .i64 n, v], .int .i64 i] w (Gives (.bool (binds op i)) w) := by
  by_cases h0 : op = 7
  · subst h0
    go_enter Tryz.func83, Tryz.ntmps83
    go_wp2
    go_ret
    exact ⟨ret_bool (by simp [binds]; rfl), (Below.refl _ _).alloc (Nat.le_refl _) _⟩
  · have h1 : (op == 7) = false := by simpa using h0
    go_enter Tryz.func83, Tryz.ntmps83
    go_wp2
    go_ret
    exact ⟨ret_bool (by simp [binds, h0]), (Below.refl _ _).alloc (Nat.le_refl _) _⟩
end Go.Proofs.YtpknegneogdmfaaGreat
