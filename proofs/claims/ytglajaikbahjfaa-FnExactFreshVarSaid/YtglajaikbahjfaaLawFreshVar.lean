/-
  The walk of the law FnExactFreshVar: true at every argument (made by gen_law.py).
-/
import Derived.Test.YtglajaikbahjfaaFreshS
import Derived.Test.YtglajaikbahjfaaFreshI
import Derived.Test.YtglajaikbahjfaaIntsEq
import Derived.Test.YtglajaikbahjfaaInts
import Derived.Test.YtglajaikbahjfaaFo
import Derived.Test.YtglajaikbahjfaaDe
import Derived.Deep.RegionHeld3
namespace Go.Proofs.Ytglajaikbahjfaa
open Go.RowKit
set_option maxRecDepth 100000

set_option maxHeartbeats 2000000 in
theorem law_FreshVar (zs1 : List Int) (A1 : Option Addr) (c1 : Nat) (w : World) (hl1 : LiesI w 0 w.heap.size A1 zs1) (hlen1 : zs1.length ≤ maxLen) :
    Calls Try.prog 4 #[.slice A1 zs1.length c1] w (Gives (.bool true) w) := by
  obtain ⟨z1, hz1⟩ : ∃ z, (((freshV zs1).getD 0 : Nat) : Int) = z := ⟨_, rfl⟩
  have HZz1 := Lib.hid hz1
  clear hz1
  obtain ⟨z2, hz2⟩ : ∃ z, (freshV zs1).isSome = z := ⟨_, rfl⟩
  have HZz2 := Lib.hid hz2
  clear hz2
  have hb : Below w.heap.size w w := Below.refl _ _
  have HB := Lib.hid hb
  have HS := Lib.hid (And.intro hb.size (show w.heap.size + 0 ≤ w.heap.size from by simp))
  clear hb
  have HL1 := Lib.hid hl1
  clear hl1
  by_cases hsz1 : zs1.length ≤ 1048576
  rotate_left
  · have hgt : ¬ zs1.length ≤ 1048576 := hsz1
    have hgt2 : 1048576 < zs1.length := by omega
    have hl9 := hlen1
    unfold maxLen at hl9
    go_enter Try.func4, Try.ntmps4
    go_wp2
    go_ret
    exact ⟨rfl, HB.out⟩
  go_enter Try.func4, Try.ntmps4
  go_wp2_with fail
  refine (toIntS_any zs1 A1 c1 _ (HL1.out.up HB.out) hsz1).mono ?_
  rintro e w1 ⟨As1, cs1, rfl, hks1, hcs1, hls1, hb⟩
  have HB' := Lib.hid (HB.out.trans (hb.mono HB.out.size))
  have HS' := Lib.hid (And.intro hb.size HS.out)
  clear hb HB HS
  have HB := HB'
  have HS := HS'
  clear HB' HS'
  go_wp2_with fail
  refine (specFresh_any zs1 As1 cs1 _ (hls1.mono_ (Nat.zero_le _) (Nat.le_refl _)) (by omega)).mono ?_
  rintro e w2 ⟨rfl, hb⟩
  rw [HZz1.out]
  rw [HZz2.out]
  have HB' := Lib.hid (HB.out.trans (hb.mono HB.out.size))
  have HS' := Lib.hid (And.intro hb.size HS.out)
  clear hb HB HS
  have HB := HB'
  have HS := HS'
  clear HB' HS'
  clear hls1
  go_wp2_with fail
  refine (toIntS_any zs1 A1 c1 _ (HL1.out.up HB.out) hsz1).mono ?_
  rintro e w3 ⟨Ax1, cx1, rfl, hkx1, hcx1, hlx1, hb⟩
  have HB' := Lib.hid (HB.out.trans (hb.mono HB.out.size))
  have HS' := Lib.hid (And.intro hb.size HS.out)
  clear hb HB HS
  have HB := HB'
  have HS := HS'
  clear HB' HS'
  have XL1 := Lib.hid hlx1
  clear hlx1
  have HC := Lib.hid (implFresh_any zs1 Ax1 cx1 w3 (XL1.out.mono_ (Nat.zero_le _) (by have hs := HS.out; omega)) (by omega))
  go_wp2_with fail
  refine HC.out.mono ?_
  rintro e w4 ⟨rfl, hb⟩
  rw [HZz1.out]
  rw [HZz2.out]
  clear HC
  have HB' := Lib.hid (HB.out.trans (hb.mono HB.out.size))
  have XL1' := Lib.hid (XL1.out.below (hb.mono (by have hs := HS.out; omega)))
  have HS' := Lib.hid (And.intro hb.size HS.out)
  clear hb HB XL1 HS
  have HB := HB'
  have XL1 := XL1'
  have HS := HS'
  clear HB' XL1' HS'
  go_wp2_with fail
  refine (toIntS_any zs1 A1 c1 _ (HL1.out.up HB.out) hsz1).mono ?_
  rintro e w5 ⟨At1, ct1, rfl, hkt1, hct1, hlt1, hb⟩
  have HB' := Lib.hid (HB.out.trans (hb.mono HB.out.size))
  have XL1' := Lib.hid (XL1.out.below (hb.mono (by have hs := HS.out; omega)))
  have HS' := Lib.hid (And.intro hb.size HS.out)
  clear hb HB XL1 HS
  have HB := HB'
  have XL1 := XL1'
  have HS := HS'
  clear HB' XL1' HS'
  go_wp2_with fail
  refine (eqIntS_any zs1 Ax1 At1 cx1 ct1 _ (XL1.out.mono_ (Nat.zero_le _) (by have hs := HS.out; omega)) (hlt1.mono_ (Nat.zero_le _) (Nat.le_refl _)) hsz1).mono ?_
  rintro e w6 ⟨rfl, hb⟩
  clear hlt1
  have HB' := Lib.hid (HB.out.trans (hb.mono HB.out.size))
  have XL1' := Lib.hid (XL1.out.below (hb.mono (by have hs := HS.out; omega)))
  have HS' := Lib.hid (And.intro hb.size HS.out)
  clear hb HB XL1 HS
  have HB := HB'
  have XL1 := XL1'
  have HS := HS'
  clear HB' XL1' HS'
  go_wp2
  go_ret
  exact ⟨rfl, HB.out⟩
end Go.Proofs.Ytglajaikbahjfaa
