/-
  Slices of int: eqIntS.
-/
import Derived.Test.YtoldlgkjbljhpaaFo
import Derived.Test.YtoldlgkjbljhpaaRows
import Derived.WalkKit
import Derived.WalkSpells
import Derived.Lib.Hide
import Derived.StillTailTactics
import Derived.BigQuiet
import Derived.Deep.QuietTactic
import Derived.WalkSmall
namespace Go.Proofs.Ytoldlgkjbljhpaa
open Go.RowKit
set_option maxRecDepth 100000

set_option maxHeartbeats 400000 in
theorem eqIntS_any (zs : List Int) (A A2 : Option Addr) (c c2 : Nat) (w : World) (hl : LiesI w 0 w.heap.size A zs) (hl2 : LiesI w 0 w.heap.size A2 zs) (hsz : zs.length ≤ 1048576) :
    Calls Try.prog 13 #[.slice A zs.length c, .slice A2 zs.length c2] w (Gives (.bool true) w) := by
  go_enter Try.func13, Try.ntmps13
  go_wp2
  go_loopw [5] (fun i wr => ∃ (j : Nat), j ≤ zs.length ∧ i = .int .i64 j ∧ Below w.heap.size w wr)
    (fun i _ => zs.length - (intOf i).toNat)
  case atStart => exact ⟨0, by omega, rfl, Below.refl _ _⟩
  case round =>
    obtain ⟨j, hj, rfl, hb⟩ := hrel
    by_cases hlt : j < zs.length
    · have e1 := List.getElem?_eq_getElem hlt
      generalize zs[j] = x at e1
      obtain ⟨b, o, hA, _, hbb, ix, g1⟩ := hl.below hb j x e1
      obtain ⟨b', o', hA', _, hbb', _, g1'⟩ := hl2.below hb j x e1
      subst hA hA'
      clear e1
      go_wp2
      go_quiet (fail)
      have hb2 := below_drewN hb nq
      clear g1 g1' hb
      go_wp2
      go_roundw
      case rel => exact ⟨j + 1, by omega, by go_num, hb2⟩
      case measure => simp [intOf]; omega
    · go_wp2
      go_ret
      exact ⟨rfl, hb⟩
end Go.Proofs.Ytoldlgkjbljhpaa
