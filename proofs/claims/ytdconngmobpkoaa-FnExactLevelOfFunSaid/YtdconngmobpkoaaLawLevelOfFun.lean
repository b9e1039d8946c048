/-
  The walk of the law FnExactLevelOfFun: true at every argument (made by gen_law.py).
-/
import Derived.Test.YtdconngmobpkoaaLvlI
import Derived.Test.YtdconngmobpkoaaLvl
import Derived.Test.YtdconngmobpkoaaTools
import Derived.Test.YtdconngmobpkoaaMkD
import Derived.Test.YtdconngmobpkoaaFo
import Derived.Deep.RegionHeld3
namespace Go.Proofs.Ytdconngmobpkoaa
open Go.RowKit
set_option maxRecDepth 100000

set_option maxHeartbeats 2000000 in
theorem law_LevelOfFun (ds1 : List De) (A1 : Option Addr) (c1 : Nat) (x2 : Int) (w : World) (hl1 : LiesD w 0 w.heap.size A1 ds1) (hlen1 : ds1.length ≤ maxLen)  :
    Calls Try.prog 5 #[.slice A1 ds1.length c1, .int .i64 x2] w (Gives (.bool true) w) := by
  obtain ⟨z1, hz1⟩ : ∃ z, ((lvlV ds1 x2 : Nat) : Int) = z := ⟨_, rfl⟩
  have HZz1 := Lib.hid hz1
  clear hz1
  obtain ⟨z2, hz2⟩ : ∃ z, lvlB ds1 x2 = z := ⟨_, rfl⟩
  have HZz2 := Lib.hid hz2
  clear hz2
  have hb : Below w.heap.size w w := Below.refl _ _
  have HB := Lib.hid hb
  have HS := Lib.hid (And.intro hb.size (show w.heap.size + 0 ≤ w.heap.size from by simp))
  clear hb
  have HL1 := Lib.hid hl1
  clear hl1
  go_enter Try.func5, Try.ntmps5
  go_wp2_with fail
  refine (szDefS_any ds1 A1 c1 _ 1048576 (HL1.out.up HB.out) hlen1 (by decide) (by decide)).mono ?_
  rintro e w1 ⟨r1, rfl, hr1, hb⟩
  have HB' := Lib.hid (HB.out.trans (hb.mono HB.out.size))
  have HS' := Lib.hid (And.intro hb.size HS.out)
  clear hb HB HS
  have HB := HB'
  have HS := HS'
  clear HB' HS'
  rcases hr1 with rfl | ⟨hrz1, hr1⟩
  · go_wp2
    go_ret
    exact ⟨rfl, HB.out⟩
  have hsz1 : sizeD ds1 ≤ 1048576 := by omega
  have hrb1 : r1 ≤ 1048576 := by omega
  clear hr1
  go_wp2_with fail
  refine (toDefS_any ds1 A1 c1 _ (HL1.out.up HB.out) hsz1).mono ?_
  rintro e w2 ⟨As1, cs1, rfl, hks1, hcs1, hls1, hals1, hb⟩
  have HB' := Lib.hid (HB.out.trans (hb.mono HB.out.size))
  have HS' := Lib.hid (And.intro hb.size HS.out)
  clear hb HB HS
  have HB := HB'
  have HS := HS'
  clear HB' HS'
  go_wp2_with fail
  refine (specLevel_any ds1 As1 cs1 x2 _ (hls1.mono_ (Nat.zero_le _) (Nat.le_refl _)) hsz1).mono ?_
  rintro e w3 ⟨rfl, hb⟩
  rw [HZz1.out]
  rw [HZz2.out]
  have HB' := Lib.hid (HB.out.trans (hb.mono HB.out.size))
  have HS' := Lib.hid (And.intro hb.size HS.out)
  clear hb HB HS
  have HB := HB'
  have HS := HS'
  clear HB' HS'
  clear hls1 hals1
  go_wp2_with fail
  refine (toDefS_any ds1 A1 c1 _ (HL1.out.up HB.out) hsz1).mono ?_
  rintro e w4 ⟨Ax1, cx1, rfl, hkx1, hcx1, hlx1, halx1, hb⟩
  have HB' := Lib.hid (HB.out.trans (hb.mono HB.out.size))
  have HS' := Lib.hid (And.intro hb.size HS.out)
  clear hb HB HS
  have HB := HB'
  have HS := HS'
  clear HB' HS'
  have XL1 := Lib.hid hlx1
  have XA1 := Lib.hid halx1
  clear hlx1 halx1
  have HC := Lib.hid (implLevel_r ds1 Ax1 cx1 w3.heap.size w4.heap.size x2 w4 XL1.out (by have hs := HS.out; omega) hsz1)
  go_wp2_with fail
  refine HC.out.mono ?_
  rintro e w5 ⟨rfl, hb⟩
  rw [HZz1.out]
  rw [HZz2.out]
  clear HC
  have HB' := Lib.hid (HB.out.trans (hb.mono HB.out.size))
  have XL1' := Lib.hid (XL1.out.below (hb.mono (by have hs := HS.out; omega)))
  have XA1' := Lib.hid (XA1.out.below hb (by have hs := HS.out; omega))
  have HS' := Lib.hid (And.intro hb.size HS.out)
  clear hb HB XL1 XA1 HS
  have HB := HB'
  have XL1 := XL1'
  have XA1 := XA1'
  have HS := HS'
  clear HB' XL1' XA1' HS'
  go_wp2_with fail
  refine (toDefS_any ds1 A1 c1 _ (HL1.out.up HB.out) hsz1).mono ?_
  rintro e w6 ⟨At1, ct1, rfl, hkt1, hct1, hlt1, halt1, hb⟩
  have HB' := Lib.hid (HB.out.trans (hb.mono HB.out.size))
  have XL1' := Lib.hid (XL1.out.below (hb.mono (by have hs := HS.out; omega)))
  have XA1' := Lib.hid (XA1.out.below hb (by have hs := HS.out; omega))
  have HS' := Lib.hid (And.intro hb.size HS.out)
  clear hb HB XL1 XA1 HS
  have HB := HB'
  have XL1 := XL1'
  have XA1 := XA1'
  have HS := HS'
  clear HB' XL1' XA1' HS'
  go_wp2_with fail
  refine (eqDefS_any ds1 Ax1 At1 cx1 ct1 _ (XL1.out.mono_ (Nat.zero_le _) (by have hs := HS.out; omega)) (hlt1.mono_ (Nat.zero_le _) (Nat.le_refl _)) hsz1).mono ?_
  rintro e w7 ⟨rfl, hb⟩
  clear hlt1 halt1
  have HB' := Lib.hid (HB.out.trans (hb.mono HB.out.size))
  have XL1' := Lib.hid (XL1.out.below (hb.mono (by have hs := HS.out; omega)))
  have XA1' := Lib.hid (XA1.out.below hb (by have hs := HS.out; omega))
  have HS' := Lib.hid (And.intro hb.size HS.out)
  clear hb HB XL1 XA1 HS
  have HB := HB'
  have XL1 := XL1'
  have XA1 := XA1'
  have HS := HS'
  clear HB' XL1' XA1' HS'
  go_wp2
  go_ret
  exact ⟨rfl, HB.out⟩
end Go.Proofs.Ytdconngmobpkoaa
