/-
  The walk of the law FnExactOrderOfFuns: true at every argument (made by gen_law.py).
-/
import Derived.Test.YtdconngmobpkoaaOrdS
import Derived.Test.YtdconngmobpkoaaOrdI
import Derived.Test.YtdconngmobpkoaaTools
import Derived.Test.YtdconngmobpkoaaMkD
import Derived.Test.YtdconngmobpkoaaFo
import Derived.Test.YtdconngmobpkoaaIntsM
import Derived.Deep.RegionHeld3
namespace Go.Proofs.Ytdconngmobpkoaa
open Go.RowKit
set_option maxRecDepth 100000

set_option maxHeartbeats 2000000 in
theorem law_OrderOfFuns (ds1 : List De) (A1 : Option Addr) (c1 : Nat) (w : World) (hl1 : LiesD w 0 w.heap.size A1 ds1) (hlen1 : ds1.length ≤ maxLen) :
    Calls Try.prog 4 #[.slice A1 ds1.length c1] w (Gives (.bool true) w) := by
  obtain ⟨okb, hokb⟩ : ∃ z, orderB ds1 = z := ⟨_, rfl⟩
  have HZokb := Lib.hid hokb
  clear hokb
  obtain ⟨zs, hzs⟩ : ∃ zs, zs = orderV ds1 := ⟨_, rfl⟩
  have hzi : ∀ x ∈ zs, I64 x := by rw [hzs]; exact fun x hx => orderV_small x hx
  have hzl : zs.length ≤ 1048576 := by rw [hzs]; exact Nat.le_trans (orderV_len ds1) (by decide)
  have HZS := Lib.hid hzs
  have HZI := Lib.hid hzi
  clear hzs hzi
  have hb : Below w.heap.size w w := Below.refl _ _
  have HB := Lib.hid hb
  have HS := Lib.hid (And.intro hb.size (show w.heap.size + 0 ≤ w.heap.size from by simp))
  clear hb
  have HL1 := Lib.hid hl1
  clear hl1
  go_enter Try.func4, Try.ntmps4
  go_wp2_with fail
  refine (szDefS_any ds1 A1 c1 _ 1048576 (HL1.out.up HB.out) hlen1 (by decide) (by decide)).mono ?_
  rintro e w1 ⟨r1, rfl, hr1, hb⟩
  have HB' := Lib.hid (HB.out.trans (hb.mono HB.out.size))
  have HS' := Lib.hid (And.intro hb.size HS.out)
  clear hb HB HS
  have HB := HB'
  have HS := HS'
  clear HB' HS'
  rcases hr1 with rfl | ⟨hrz1, hr1⟩
  · go_wp2
    go_ret
    exact ⟨rfl, HB.out⟩
  have hsz1 : sizeD ds1 ≤ 1048576 := by omega
  have hrb1 : r1 ≤ 1048576 := by omega
  clear hr1
  go_wp2_with fail
  refine (toDefS_any ds1 A1 c1 _ (HL1.out.up HB.out) hsz1).mono ?_
  rintro e w2 ⟨As1, cs1, rfl, hks1, hcs1, hls1, hals1, hb⟩
  have HB' := Lib.hid (HB.out.trans (hb.mono HB.out.size))
  have HS' := Lib.hid (And.intro hb.size HS.out)
  clear hb HB HS
  have HB := HB'
  have HS := HS'
  clear HB' HS'
  go_wp2_with fail
  refine (specOrder_any ds1 As1 cs1 _ (hls1.mono_ (Nat.zero_le _) (Nat.le_refl _)) hsz1).mono ?_
  rintro e w3 ⟨vw, rfl, howw, hb⟩
  rw [← HZS.out] at howw
  obtain ⟨Aw, cw, rfl, hIw⟩ := own_ints howw HZI.out
  rw [HZokb.out]
  have HB' := Lib.hid (HB.out.trans (hb.mono HB.out.size))
  have HS' := Lib.hid (And.intro hb.size HS.out)
  clear hb HB HS
  have HB := HB'
  have HS := HS'
  clear HB' HS'
  have WI := Lib.hid (hIw)
  clear hls1 hals1
  clear howw hIw
  go_wp2_with fail
  refine (toDefS_any ds1 A1 c1 _ (HL1.out.up HB.out) hsz1).mono ?_
  rintro e w4 ⟨Ax1, cx1, rfl, hkx1, hcx1, hlx1, halx1, hb⟩
  have HB' := Lib.hid (HB.out.trans (hb.mono HB.out.size))
  have WI' := Lib.hid (WI.out.below (hb.mono (by have hs := HS.out; omega)))
  have HS' := Lib.hid (And.intro hb.size HS.out)
  clear hb HB WI HS
  have HB := HB'
  have WI := WI'
  have HS := HS'
  clear HB' WI' HS'
  have XL1 := Lib.hid hlx1
  have XA1 := Lib.hid halx1
  clear hlx1 halx1
  have HC := Lib.hid (implOrder_r ds1 Ax1 cx1 w3.heap.size w4.heap.size w4 XL1.out (by have hs := HS.out; omega) hsz1)
  go_wp2_with fail
  refine HC.out.mono ?_
  rintro e w5 ⟨vg, rfl, howg, hb⟩
  rw [← HZS.out] at howg
  obtain ⟨Ag, cg, rfl, _⟩ := own_ints howg HZI.out
  rw [HZokb.out]
  clear HC
  have HB' := Lib.hid (HB.out.trans (hb.mono HB.out.size))
  have WI' := Lib.hid (WI.out.below (hb.mono (by have hs := HS.out; omega)))
  have XL1' := Lib.hid (XL1.out.below (hb.mono (by have hs := HS.out; omega)))
  have XA1' := Lib.hid (XA1.out.below hb (by have hs := HS.out; omega))
  have HS' := Lib.hid (And.intro hb.size HS.out)
  clear hb HB WI XL1 XA1 HS
  have HB := HB'
  have WI := WI'
  have XL1 := XL1'
  have XA1 := XA1'
  have HS := HS'
  clear HB' WI' XL1' XA1' HS'
  have GO := Lib.hid howg
  clear howg
  go_wp2_with fail
  refine (eqIntS_any zs Ag Aw cg cw _ ((own_lies GO.out HZI.out).mono_ (Nat.zero_le _) (Nat.le_refl _)) (WI.out.mono_ (Nat.zero_le _) (by have hs := HS.out; omega)) hzl).mono ?_
  rintro e w6 ⟨rfl, hb⟩
  have HB' := Lib.hid (HB.out.trans (hb.mono HB.out.size))
  have WI' := Lib.hid (WI.out.below (hb.mono (by have hs := HS.out; omega)))
  have XL1' := Lib.hid (XL1.out.below (hb.mono (by have hs := HS.out; omega)))
  have XA1' := Lib.hid (XA1.out.below hb (by have hs := HS.out; omega))
  have GO' := Lib.hid (own_below GO.out hb)
  have HS' := Lib.hid (And.intro hb.size HS.out)
  clear hb HB WI XL1 XA1 GO HS
  have HB := HB'
  have WI := WI'
  have XL1 := XL1'
  have XA1 := XA1'
  have GO := GO'
  have HS := HS'
  clear HB' WI' XL1' XA1' GO' HS'
  go_wp2_with fail
  refine (toDefS_any ds1 A1 c1 _ (HL1.out.up HB.out) hsz1).mono ?_
  rintro e w7 ⟨At1, ct1, rfl, hkt1, hct1, hlt1, halt1, hb⟩
  have HB' := Lib.hid (HB.out.trans (hb.mono HB.out.size))
  have WI' := Lib.hid (WI.out.below (hb.mono (by have hs := HS.out; omega)))
  have XL1' := Lib.hid (XL1.out.below (hb.mono (by have hs := HS.out; omega)))
  have XA1' := Lib.hid (XA1.out.below hb (by have hs := HS.out; omega))
  have GO' := Lib.hid (own_below GO.out hb)
  have HS' := Lib.hid (And.intro hb.size HS.out)
  clear hb HB WI XL1 XA1 GO HS
  have HB := HB'
  have WI := WI'
  have XL1 := XL1'
  have XA1 := XA1'
  have GO := GO'
  have HS := HS'
  clear HB' WI' XL1' XA1' GO' HS'
  go_wp2_with fail
  refine (eqDefS_any ds1 Ax1 At1 cx1 ct1 _ (XL1.out.mono_ (Nat.zero_le _) (by have hs := HS.out; omega)) (hlt1.mono_ (Nat.zero_le _) (Nat.le_refl _)) hsz1).mono ?_
  rintro e w8 ⟨rfl, hb⟩
  clear hlt1 halt1
  have HB' := Lib.hid (HB.out.trans (hb.mono HB.out.size))
  have WI' := Lib.hid (WI.out.below (hb.mono (by have hs := HS.out; omega)))
  have XL1' := Lib.hid (XL1.out.below (hb.mono (by have hs := HS.out; omega)))
  have XA1' := Lib.hid (XA1.out.below hb (by have hs := HS.out; omega))
  have GO' := Lib.hid (own_below GO.out hb)
  have HS' := Lib.hid (And.intro hb.size HS.out)
  clear hb HB WI XL1 XA1 GO HS
  have HB := HB'
  have WI := WI'
  have XL1 := XL1'
  have XA1 := XA1'
  have GO := GO'
  have HS := HS'
  clear HB' WI' XL1' XA1' GO' HS'
  go_wp2_with fail
  refine (mkDefS_any w3.heap.size w4.heap.size ds1 Ax1 cx1 _ 1 (LiesD.sk XA1.out XL1.out) hsz1 (by decide) (by omega)).mono ?_
  rintro e w9 ⟨kk1, rfl, hka1, hkb1, hm⟩
  have HB' := Lib.hid (hm.below HB.out (by have hs := HS.out; omega) (Nat.le_refl _))
  have WI' := Lib.hid (WI.out.keep (Nat.le_refl _) (Nat.le_refl _) fun p h1 h2 => hm.cell (by have hs := HS.out; omega) (by have hs := HS.out; omega))
  have GO' := Lib.hid (hm.owns GO.out (by have hs := HS.out; omega))
  have HS' := Lib.hid (And.intro hm.size HS.out)
  clear hm HB WI GO HS
  have HB := HB'
  have WI := WI'
  have GO := GO'
  have HS := HS'
  clear HB' WI' GO' HS'
  clear XL1 XA1
  have hk01 : 0 ≤ kk1 := by omega
  go_wp2_with fail
  refine (eqIntS_any zs Ag Aw cg cw _ ((own_lies GO.out HZI.out).mono_ (Nat.zero_le _) (Nat.le_refl _)) (WI.out.mono_ (Nat.zero_le _) (by have hs := HS.out; omega)) hzl).mono ?_
  rintro e w10 ⟨rfl, hb⟩
  have HB' := Lib.hid (HB.out.trans (hb.mono HB.out.size))
  have WI' := Lib.hid (WI.out.below (hb.mono (by have hs := HS.out; omega)))
  have GO' := Lib.hid (own_below GO.out hb)
  have HS' := Lib.hid (And.intro hb.size HS.out)
  clear hb HB WI GO HS
  have HB := HB'
  have WI := WI'
  have GO := GO'
  have HS := HS'
  clear HB' WI' GO' HS'
  obtain ⟨gg, hgg, hheld⟩ := own_held GO.out
  have GH := Lib.hid hheld
  clear hheld GO
  have HS' := Lib.hid (And.intro hgg HS.out)
  clear HS hgg
  have HS := HS'
  clear HS'
  go_wp2_with fail
  refine (markIntS_any zs.length gg Ag cg _ 1 GH.out hzl (by decide) (by decide)).mono ?_
  rintro e w11 ⟨rfl, hheld, hon⟩
  clear GH
  have HB' := Lib.hid (HB.out.trans ((hon.mono (B' := w.heap.size) (by have hs := HS.out; omega)).below (by have hs := HS.out; omega)))
  have WI' := Lib.hid (WI.out.keep (Nat.le_refl _) (Nat.le_refl _) fun p h1 h2 => hon.cell (by have hs := HS.out; omega) (by have hs := HS.out; omega))
  have HS' := Lib.hid (And.intro hon.size HS.out)
  clear hon HB WI HS
  have HB := HB'
  have WI := WI'
  have HS := HS'
  clear HB' WI' HS'
  have GH := Lib.hid hheld
  clear hheld
  have hzp : (1 : Int) + (zs.length : Int) ≤ 1048577 := by omega
  have hz0 : (0 : Int) ≤ 1 + (zs.length : Int) := by omega
  generalize hll : (1 : Int) + (zs.length : Int) = ll at hzp hz0
  have HLL := Lib.hid hll
  clear hll
  go_wp2_with fail
  refine (heldIntS_any zs.length gg Ag cg _ 1 GH.out hzl (by decide) (by decide)).mono ?_
  rintro e w12 ⟨rfl, hb⟩
  rw [HLL.out]
  have HB' := Lib.hid (HB.out.trans (hb.mono HB.out.size))
  have WI' := Lib.hid (WI.out.below (hb.mono (by have hs := HS.out; omega)))
  have GH' := Lib.hid (GH.out.below hb)
  have HS' := Lib.hid (And.intro hb.size HS.out)
  clear hb HB WI GH HS
  have HB := HB'
  have WI := WI'
  have GH := GH'
  have HS := HS'
  clear HB' WI' GH' HS'
  go_wp2_with fail
  refine (toDefS_any ds1 A1 c1 _ (HL1.out.up HB.out) hsz1).mono ?_
  rintro e w13 ⟨Ah1, ch1, rfl, hkh1, hch1, hlh1, halh1, hb⟩
  have HB' := Lib.hid (HB.out.trans (hb.mono HB.out.size))
  have WI' := Lib.hid (WI.out.below (hb.mono (by have hs := HS.out; omega)))
  have GH' := Lib.hid (GH.out.below hb)
  have HS' := Lib.hid (And.intro hb.size HS.out)
  clear hb HB WI GH HS
  have HB := HB'
  have WI := WI'
  have GH := GH'
  have HS := HS'
  clear HB' WI' GH' HS'
  go_wp2_with fail
  refine (implOrder_r ds1 Ah1 ch1 w12.heap.size w13.heap.size _ hlh1 (by have hs := HS.out; omega) hsz1).mono ?_
  rintro e w14 ⟨vh, rfl, howh, hb⟩
  rw [← HZS.out] at howh
  obtain ⟨Ah, ch, rfl, hIh⟩ := own_ints howh HZI.out
  rw [HZokb.out]
  have HB' := Lib.hid (HB.out.trans (hb.mono HB.out.size))
  have WI' := Lib.hid (WI.out.below (hb.mono (by have hs := HS.out; omega)))
  have GH' := Lib.hid (GH.out.below hb)
  have HS' := Lib.hid (And.intro hb.size HS.out)
  clear hb HB WI GH HS
  have HB := HB'
  have WI := WI'
  have GH := GH'
  have HS := HS'
  clear HB' WI' GH' HS'
  have HI := Lib.hid (hIh)
  clear hlh1 halh1
  clear howh hIh
  go_wp2_with fail
  refine (eqIntS_any zs Ah Aw ch cw _ (HI.out.mono_ (Nat.zero_le _) (by have hs := HS.out; omega)) (WI.out.mono_ (Nat.zero_le _) (by have hs := HS.out; omega)) hzl).mono ?_
  rintro e w15 ⟨rfl, hb⟩
  have HB' := Lib.hid (HB.out.trans (hb.mono HB.out.size))
  have GH' := Lib.hid (GH.out.below hb)
  have HS' := Lib.hid (And.intro hb.size HS.out)
  clear hb HB GH HS
  have HB := HB'
  have GH := GH'
  have HS := HS'
  clear HB' GH' HS'
  go_wp2_with fail
  refine (heldIntS_any zs.length gg Ag cg _ 1 GH.out hzl (by decide) (by decide)).mono ?_
  rintro e w16 ⟨rfl, hb⟩
  rw [HLL.out]
  have HB' := Lib.hid (HB.out.trans (hb.mono HB.out.size))
  have GH' := Lib.hid (GH.out.below hb)
  have HS' := Lib.hid (And.intro hb.size HS.out)
  clear hb HB GH HS
  have HB := HB'
  have GH := GH'
  have HS := HS'
  clear HB' GH' HS'
  go_wp2
  go_ret
  exact ⟨rfl, HB.out⟩
end Go.Proofs.Ytdconngmobpkoaa
