/-
  spec.l1First: the scope of the first variables.
-/
import Derived.Test.YtcdckjmnnpppkaaFlags
import Derived.Test.YtcdckjmnnpppkaaScope
namespace Go.Proofs.Ytcdckjmnnpppkaa
open Go.RowKit
set_option maxRecDepth 100000

def firstS (n : Nat) : Nat → Bool := fun i => decide (i < n)
theorem madeG_run (w : World) : (Instr.makeSlice 52 (.int .i64 8) (.int .i64 8)).run Try.prog w = .ok (.slice (some ⟨w.heap.size, 0, Option.none⟩) 8 8) (w.alloc (.cells (cells8 fun _ => false) 4)) := by kernel_rfl

set_option maxHeartbeats 400000 in
theorem l1First_any (n : Nat) (hn : n ≤ 8) (w : World) :
    Calls Try.prog 31 #[.int .i64 (n : Int)] w fun e w' => ∃ A c, e = .returned (.slice A 8 c) ∧ LiesB w' w.heap.size w'.heap.size A (firstS n) ∧ Below w.heap.size w w' := by
  have hmk := madeG_run w
  go_enter Try.func31, Try.ntmps31
  go_wp2
  clear hmk
  have hr0 : Row (w.alloc (.cells (cells8 fun _ => false) 4)) w.heap.size 4 (cells8 (firstS 0)) := Row.fresh _ _ _
  go_loopw [4] (fun i wr => ∃ (j : Nat), j ≤ n ∧ i = .int .i64 j ∧ Row wr w.heap.size 4 (cells8 (firstS j)) ∧ Below w.heap.size w wr)
    (fun i _ => n - (intOf i).toNat)
  case atStart => exact ⟨0, by omega, rfl, hr0, (Below.refl _ _).alloc (Nat.le_refl _) _⟩
  case round =>
    clear hr0
    obtain ⟨j, hj, rfl, hrow, hb⟩ := hrel
    by_cases hlt : j < n
    · have h8 : j < 8 := by omega
      have q0 := hrow.cell (cells8_at (firstS j) h8)
      have f0 := hrow.free j
      have hp := hrow.put j (.bool true)
      rw [cells8_set _ h8, cells8_congr (T := firstS (j + 1)) (fun i _ => by unfold firstS; rw [Bool.eq_iff_iff]; simp; omega)] at hp
      have HP := Lib.hid hp
      have HB := Lib.hid (hb.setCell (p := ⟨w.heap.size, j, none⟩) (Nat.le_refl _) (.bool true))
      clear hp hrow hb
      go_wp2
      go_roundw
      case rel => exact ⟨j + 1, hlt, by go_num, HP.out, HB.out⟩
      case measure => simp [intOf]; omega
    · have e9 : j = n := by omega
      subst e9
      go_wp2
      go_ret
      exact ⟨_, _, rfl, ⟨_, 0, rfl, Nat.le_refl _, hrow.size, fun i hi => by rw [Nat.zero_add]; exact hrow.cell (cells8_at _ hi)⟩, hb⟩
end Go.Proofs.Ytcdckjmnnpppkaa
