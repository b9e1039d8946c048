/-
  spec.FreshVar.
-/
import Derived.Test.YtkjgnfpedponlaaFreshD
namespace Go.Proofs.Ytkjgnfpedponlaa
open Go.RowKit Go.Shelf
set_option maxRecDepth 100000

theorem ret_two {a b : Value} {x y : Value} (h1 : a = x) (h2 : b = y) : Ending.returned (.tuple #[a, b]) = Ending.returned (.tuple #[x, y]) := by rw [h1, h2]

set_option maxHeartbeats 1000000 in
theorem specFresh_any (zs : List Int) (A : Option Addr) (c : Nat) (w : World) (hl : LiesI w 0 w.heap.size A zs) (hlen : zs.length ≤ 4194304) :
    Calls Try.prog 59 #[.slice A zs.length c] w (Gives (.tuple #[.int .i64 (((freshV zs).getD 0 : Nat) : Int), .bool (freshV zs).isSome]) w) := by
  go_enter Try.func59, Try.ntmps59
  go_wp2_with fail
  go_loopw [4] (fun i wr => ∃ (j : Nat), j ≤ 8 ∧ i = .int .i64 j ∧ freshV zs = freshL zs (8 - j) j ∧ Below w.heap.size w wr)
    (fun i _ => 8 - (intOf i).toNat)
  case atStart => exact ⟨0, by omega, rfl, rfl, Below.refl _ _⟩
  case round =>
    obtain ⟨j, hj, rfl, hf, hb⟩ := hrel
    by_cases hlt : j < 8
    · have HF := Lib.hid hf
      clear hf
      go_wp2_with fail
      refine (l1Has_any zs A c (j : Int) wr ((hl.below hb).mono_ (Nat.le_refl _) hb.size) hlen).mono ?_
      rintro e w2 ⟨rfl, hb2⟩
      have hb3 := hb.trans (hb2.mono hb.size)
      clear hb hb2
      by_cases hm : (j : Int) ∈ zs
      · have HF2 := Lib.hid (HF.out.trans (freshL_in hlt hm))
        rw [decide_eq_true hm]
        clear hm
        go_wp2_with fail
        go_roundw
        case rel => exact ⟨j + 1, hlt, by go_num, HF2.out, hb3⟩
        case measure => simp [intOf]; omega
      · have HF2 := Lib.hid (HF.out.trans (freshL_out hlt hm))
        rw [decide_eq_false hm]
        clear hm
        go_wp2_with fail
        go_ret2
        exact ⟨by rw [HF2.out]; rfl, hb3⟩
    · have e9 : j = 8 := by omega
      subst e9
      have HF2 := Lib.hid hf
      clear hf
      go_wp2_with fail
      go_ret2
      exact ⟨by rw [HF2.out]; rfl, hb⟩
end Go.Proofs.Ytkjgnfpedponlaa
