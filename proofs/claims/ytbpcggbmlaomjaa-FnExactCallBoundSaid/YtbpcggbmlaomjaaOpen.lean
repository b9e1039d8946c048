/-
  impl.validOpen: valid with all variables in scope.
-/
import Derived.Test.YtbpcggbmlaomjaaScope
import Derived.Test.YtbpcggbmlaomjaaIsV
import Derived.Test.YtbpcggbmlaomjaaWith
import Derived.Test.YtbpcggbmlaomjaaDe
namespace Go.Proofs.Ytbpcggbmlaomjaa
open Go.RowKit
set_option maxRecDepth 100000

set_option maxHeartbeats 1000000 in
theorem validOpen_any (op n : Int) (k : Fo) (A : Option Addr) (c : Nat) (w : World) (hl : Lies w 0 w.heap.size A 0 k) (hlen : k.len ≤ maxLen) :
    Calls Try.prog 74 #[.agg #[.int .i64 op, .int .i64 n, .slice A k.len c]] w (Gives (.bool (nodeIs op n k (firstS 8))) w) := by
  have hb0 : Below w.heap.size w ((w.alloc (Obj.cells #[Value.int IntKind.i64 op, Value.int IntKind.i64 n, Value.slice A k.len c] 40)).alloc (Obj.cells #[.bool false, .bool false, .bool false, .bool false, .bool false, .bool false, .bool false, .bool false] 58)) :=
    ((Below.refl _ _).alloc (Nat.le_refl _) _).alloc (by simp) _
  have hr0 := (Row.fresh w 40 #[Value.int IntKind.i64 op, Value.int IntKind.i64 n, Value.slice A k.len c]).alloc (Obj.cells #[.bool false, .bool false, .bool false, .bool false, .bool false, .bool false, .bool false, .bool false] 58)
  have hk0 : Row ((w.alloc (Obj.cells #[Value.int IntKind.i64 op, Value.int IntKind.i64 n, Value.slice A k.len c] 40)).alloc (Obj.cells #[.bool false, .bool false, .bool false, .bool false, .bool false, .bool false, .bool false, .bool false] 58)) (w.heap.size + 1) 58 (cells8 (firstS 0)) := by
    have := Row.fresh (w.alloc (Obj.cells #[Value.int IntKind.i64 op, Value.int IntKind.i64 n, Value.slice A k.len c] 40)) 58 (cells8 (firstS 0))
    rw [World.size_alloc] at this
    exact this
  go_enter Try.func74, Try.ntmps74
  go_wp2_with fail
  go_loopw [5] (fun i wr => ∃ (j : Nat), j ≤ 8 ∧ i = .int .i64 j ∧ Row wr (w.heap.size + 1) 58 (cells8 (firstS j)) ∧ Row wr w.heap.size 40 #[Value.int IntKind.i64 op, Value.int IntKind.i64 n, Value.slice A k.len c] ∧ Below w.heap.size w wr)
    (fun i _ => 8 - (intOf i).toNat)
  case atStart => exact ⟨0, by omega, rfl, hk0, hr0, hb0⟩
  case round =>
    clear hk0 hr0 hb0
    obtain ⟨j, hj, rfl, hrow, hrE, hb⟩ := hrel
    by_cases h8 : j < 8
    · have q0 := hrow.cell (cells8_at (firstS j) h8)
      have f0 := hrow.free j
      have hp := hrow.put j (.bool true)
      rw [cells8_set _ h8, cells8_congr (T := firstS (j + 1)) (fun i _ => by unfold firstS; rw [Bool.eq_iff_iff]; simp; omega)] at hp
      have HP := Lib.hid hp
      have HE := Lib.hid (hrE.apart (p := ⟨w.heap.size + 1, j, none⟩) (by simp) (.bool true))
      have HB := Lib.hid (hb.setCell (p := ⟨w.heap.size + 1, j, none⟩) (by simp) (.bool true))
      clear hp hrow hrE hb
      go_wp2
      go_roundw
      case rel => exact ⟨j + 1, h8, by go_num, HP.out, HE.out, HB.out⟩
      case measure => simp [intOf]; omega
    · have e9 : j = 8 := by omega
      subst e9
      have HC := Lib.hid (validWith_any op n k A c (firstS 8) wr (hl.up hb) hlen)
      generalize firstS 8 = S at *
      have q0 := hrE.cell (i := 0) rfl
      have q1 := hrE.cell (i := 1) rfl
      have q2 := hrE.cell (i := 2) rfl
      have a0 := hrow.cell (cells8_at S (show 0 < 8 by decide))
      have a1 := hrow.cell (cells8_at S (show 1 < 8 by decide))
      have a2 := hrow.cell (cells8_at S (show 2 < 8 by decide))
      have a3 := hrow.cell (cells8_at S (show 3 < 8 by decide))
      have a4 := hrow.cell (cells8_at S (show 4 < 8 by decide))
      have a5 := hrow.cell (cells8_at S (show 5 < 8 by decide))
      have a6 := hrow.cell (cells8_at S (show 6 < 8 by decide))
      have a7 := hrow.cell (cells8_at S (show 7 < 8 by decide))
      clear hl
      go_wp2_with fail
      refine HC.out.mono ?_
      rintro e w2 ⟨rfl, hb2⟩
      have hb3 := hb.trans (hb2.mono hb.size)
      clear hb2 hb HC q0 q1 q2 a0 a1 a2 a3 a4 a5 a6 a7
      go_wp2
      go_ret
      exact ⟨rfl, hb3⟩
end Go.Proofs.Ytbpcggbmlaomjaa
