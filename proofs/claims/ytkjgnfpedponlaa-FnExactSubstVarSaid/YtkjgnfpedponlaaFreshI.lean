/-
  impl.FreshVar.
-/
import Derived.Test.YtkjgnfpedponlaaFreshD
import Derived.Test.YtkjgnfpedponlaaVarSet
namespace Go.Proofs.Ytkjgnfpedponlaa
open Go.RowKit Go.Shelf
set_option maxRecDepth 100000

def inS (zs : List Int) : Nat → Bool := fun i => decide ((i : Int) ∈ zs)
theorem inS_take {zs : List Int} {j : Nat} {x : Int} (h : zs[j]? = some x) : cells8 (inS (zs.take (j + 1))) = cells8 (addS (inS (zs.take j)) x) := by
  refine cells8_congr fun i _ => ?_
  exact has_take h (i : Int)

set_option maxHeartbeats 1000000 in
theorem implFresh_any (zs : List Int) (A : Option Addr) (c : Nat) (w : World) (hl : LiesI w 0 w.heap.size A zs) (hlen : zs.length ≤ 4194304) :
    Calls Try.prog 66 #[.slice A zs.length c] w (Gives (.tuple #[.int .i64 (((freshV zs).getD 0 : Nat) : Int), .bool (freshV zs).isSome]) w) := by
  obtain ⟨hb1, hr1⟩ := one_box w 60 #[.bool false, .bool false, .bool false, .bool false, .bool false, .bool false, .bool false, .bool false]
  go_enter Try.func66, Try.ntmps66
  go_wp2_with fail
  go_loopw [11] (fun i wr => ∃ (j : Nat), j ≤ zs.length ∧ i = .int .i64 j ∧ Row wr w.heap.size 60 (cells8 (inS (zs.take j))) ∧ Below w.heap.size w wr)
    (fun i _ => zs.length - (intOf i).toNat)
  case atStart => exact ⟨0, by omega, rfl, hr1, hb1⟩
  case round =>
    clear hb1 hr1
    obtain ⟨j, hj, rfl, hr, hb⟩ := hrel
    by_cases hlt : j < zs.length
    · have e1 := List.getElem?_eq_getElem hlt
      generalize zs[j] = x at e1
      obtain ⟨b, o, hA, _, hbb, ix, g1⟩ := (hl.below hb) j x e1
      have HT := Lib.hid (inS_take e1)
      have HC := Lib.hid (add_any w.heap.size (inS (zs.take j)) x wr hr)
      have HS := Lib.hid hr.size
      have HB := Lib.hid hb
      subst hA
      clear e1 hr hb hl
      go_wp2_with fail
      refine HC.out.mono ?_
      rintro e w2 ⟨rfl, hr2, hon2⟩
      have HR2 := Lib.hid hr2
      have HB2 := Lib.hid (HB.out.trans ((hon2.mono (B' := w.heap.size) (by have := HB.out.size; omega)).below (Nat.le_refl _)))
      clear hr2 hon2 g1 HC HB
      go_wp2_with fail
      go_roundw
      case rel => exact ⟨j + 1, hlt, by go_num, by rw [HT.out]; exact HR2.out, HB2.out⟩
      case measure => simp [intOf]; omega
    · have e9 : j = zs.length := by omega
      subst e9
      rw [List.take_length] at hr
      obtain ⟨S, hS⟩ : ∃ S, S = inS zs := ⟨_, rfl⟩
      rw [← hS] at hr
      have HS := Lib.hid hS
      clear hS
      have a0 := hr.cell (cells8_at S (show 0 < 8 by decide))
      have a1 := hr.cell (cells8_at S (show 1 < 8 by decide))
      have a2 := hr.cell (cells8_at S (show 2 < 8 by decide))
      have a3 := hr.cell (cells8_at S (show 3 < 8 by decide))
      have a4 := hr.cell (cells8_at S (show 4 < 8 by decide))
      have a5 := hr.cell (cells8_at S (show 5 < 8 by decide))
      have a6 := hr.cell (cells8_at S (show 6 < 8 by decide))
      have a7 := hr.cell (cells8_at S (show 7 < 8 by decide))
      clear hr hl
      go_wp2_with fail
      clear a0 a1 a2 a3 a4 a5 a6 a7
      go_loopw [19] (fun i wr2 => ∃ (j : Nat), j ≤ 8 ∧ i = .int .i64 j ∧ freshV zs = freshL zs (8 - j) j ∧ wr2 = wr)
        (fun i _ => 8 - (intOf i).toNat)
      case atStart => exact ⟨0, by omega, rfl, rfl, rfl⟩
      case round =>
        obtain ⟨j, hj, rfl, hf, rfl⟩ := hrel
        by_cases hlt : j < 8
        · have hix := indexV_run S hlt
          by_cases hm : (j : Int) ∈ zs
          · have HF2 := Lib.hid (hf.trans (freshL_in hlt hm))
            have hs : S j = true := by rw [HS.out]; unfold inS; exact decide_eq_true hm
            rw [hs] at hix
            clear hm hf hs
            go_wp2_with fail
            go_roundw
            case rel => exact ⟨j + 1, hlt, by go_num, HF2.out, trivial⟩
            case measure => simp [intOf]; omega
          · have HF2 := Lib.hid (hf.trans (freshL_out hlt hm))
            have hs : S j = false := by rw [HS.out]; unfold inS; exact decide_eq_false hm
            rw [hs] at hix
            clear hm hf hs
            go_wp2_with fail
            go_ret2
            exact ⟨by rw [HF2.out]; rfl, hb⟩
        · have e9 : j = 8 := by omega
          subst e9
          have HF2 := Lib.hid hf
          clear hf
          go_wp2_with fail
          go_ret2
          exact ⟨by rw [HF2.out]; rfl, hb⟩
end Go.Proofs.Ytkjgnfpedponlaa
