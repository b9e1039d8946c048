/-
  The walk of the law FnFreshVar: true at every input.
-/
import Derived.Test.YtoldlgkjbljhpaaDrawF
import Derived.Test.YtoldlgkjbljhpaaFreshS
import Derived.Test.YtoldlgkjbljhpaaFreshI
import Derived.Test.YtoldlgkjbljhpaaIntsEq
namespace Go.Proofs.Ytoldlgkjbljhpaa
open Go.RowKit Go.Shelf
set_option maxRecDepth 100000

set_option maxHeartbeats 2000000 in
theorem law_FreshN (bs : List Nat) (A : Option Addr) (c : Nat) (w : World) (hl : LiesY w 0 w.heap.size A bs) (hlc : bs.length ≤ c) (hc : c ≤ maxLen) :
    Calls Try.prog 3 #[.slice A bs.length c] w (Gives (.bool true) w) := by
  unfold maxLen at hc
  by_cases hsz : bs.length ≤ 1048576
  rotate_left
  · have hgt : 1048576 < bs.length := by omega
    go_enter Try.func3, Try.ntmps3
    go_wp2_with fail
    go_ret
    exact ⟨rfl, Below.refl _ _⟩
  have HC := Lib.hid (draw_any A c bs w hl hlc hc)
  clear hl
  go_enter Try.func3, Try.ntmps3
  go_wp2_with fail
  refine HC.out.mono ?_
  rintro e w1 ⟨v, zs, hzl, hzi, rfl, how, hb1⟩
  obtain ⟨A1, c1, rfl, hI1⟩ := own_ints how hzi
  have hL1 := hI1.mono_ (Nat.zero_le _) (Nat.le_refl _)
  have HL1 := Lib.hid hL1
  have HB1 := Lib.hid hb1
  clear how hI1 hL1 hb1 HC
  go_wp2_with fail
  refine (implFresh_any zs A1 c1 w1 HL1.out (by omega)).mono ?_
  rintro e w2 ⟨rfl, hb2⟩
  have HL2 := Lib.hid (HL1.out.up hb2)
  have HB2 := Lib.hid (HB1.out.trans (hb2.mono HB1.out.size))
  clear hb2 HL1 HB1
  obtain ⟨z1, hz1⟩ : ∃ z, (((freshV zs).getD 0 : Nat) : Int) = z := ⟨_, rfl⟩
  obtain ⟨z2, hz2⟩ : ∃ z, (freshV zs).isSome = z := ⟨_, rfl⟩
  rw [hz1, hz2]
  have HZ1 := Lib.hid hz1
  have HZ2 := Lib.hid hz2
  clear hz1 hz2
  go_wp2_with fail
  refine (specFresh_any zs A1 c1 w2 HL2.out (by omega)).mono ?_
  rintro e w3 ⟨rfl, hb3⟩
  have HL3 := Lib.hid (HL2.out.up hb3)
  have HB3 := Lib.hid (HB2.out.trans (hb3.mono HB2.out.size))
  clear hb3 HL2 HB2
  rw [HZ1.out, HZ2.out]
  go_wp2_with fail
  go_loopw [8] (fun i wr => ∃ (j : Nat), j ≤ 8 ∧ i = .int .i64 j ∧ freshV zs = freshL zs (8 - j) j ∧ Below w.heap.size w wr ∧ LiesI wr 0 wr.heap.size A1 zs)
    (fun i _ => 8 - (intOf i).toNat)
  case atStart => exact ⟨0, by omega, rfl, rfl, HB3.out, HL3.out⟩
  case round =>
    clear HB3 HL3
    obtain ⟨j, hj, rfl, hf, hb, hL⟩ := hrel
    by_cases hlt : j < 8
    · have HF := Lib.hid hf
      have HL := Lib.hid hL
      clear hf hL
      go_wp2_with fail
      refine (amIn_any zs A1 c1 (j : Int) wr HL.out (by omega)).mono ?_
      rintro e w4 ⟨rfl, hb4⟩
      have hb5 := hb.trans (hb4.mono hb.size)
      have HL4 := Lib.hid (HL.out.up hb4)
      clear hb hb4 HL
      by_cases hm : (j : Int) ∈ zs
      · have HF2 := Lib.hid (HF.out.trans (freshL_in hlt hm))
        rw [decide_eq_true hm]
        clear hm
        go_wp2_with fail
        go_roundw
        case rel => exact ⟨j + 1, hlt, by go_num, HF2.out, hb5, HL4.out⟩
        case measure => simp [intOf]; omega
      · have hF2 := HF.out.trans (freshL_out hlt hm)
        have h1 := HZ1.out
        have h2 := HZ2.out
        rw [hF2] at h1 h2
        simp only [Option.getD_some, Option.isSome_some] at h1 h2
        subst h1 h2
        rw [decide_eq_false hm]
        clear hm hF2
        go_wp2_with fail
        go_ret
        exact ⟨by simp, hb5⟩
    · have e9 : j = 8 := by omega
      subst e9
      have h1 := HZ1.out
      have h2 := HZ2.out
      have hf2 : freshV zs = none := hf
      rw [hf2] at h1 h2
      simp only [Option.getD_none, Option.isSome_none] at h1 h2
      subst h1 h2
      clear hf hf2
      go_wp2_with fail
      go_ret
      exact ⟨by simp, hb⟩
end Go.Proofs.Ytoldlgkjbljhpaa
