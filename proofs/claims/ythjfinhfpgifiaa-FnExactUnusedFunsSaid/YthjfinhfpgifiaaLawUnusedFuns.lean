/-
  The walk of the law FnExactUnusedFuns: true at every argument (made by gen_law.py).
-/
import Derived.Test.YthjfinhfpgifiaaUseS
import Derived.Test.YthjfinhfpgifiaaUseI
import Derived.Test.YthjfinhfpgifiaaForE
import Derived.Test.YthjfinhfpgifiaaTools
import Derived.Test.YthjfinhfpgifiaaMkD
import Derived.Test.YthjfinhfpgifiaaFo
import Derived.Test.YthjfinhfpgifiaaIntsM
import Derived.Deep.RegionHeld3
namespace Go.Proofs.Ythjfinhfpgifiaa
open Go.RowKit
set_option maxRecDepth 100000

set_option maxHeartbeats 2000000 in
theorem law_UnusedFuns (ds1 : List De) (A1 : Option Addr) (c1 : Nat) (k2 : Fo) (A2 : Option Addr) (c2 : Nat) (w : World) (hl1 : LiesD w 0 w.heap.size A1 ds1) (hlen1 : ds1.length ≤ maxLen) (hl2 : Lies w 0 w.heap.size A2 0 k2) (hlen2 : k2.len ≤ maxLen) :
    Calls Try.prog 3 #[.slice A1 ds1.length c1, .slice A2 k2.len c2] w (Gives (.bool true) w) := by
  obtain ⟨zs, hzs⟩ : ∃ zs, zs = unusedL ds1 k2 := ⟨_, rfl⟩
  have hzi : ∀ x ∈ zs, I64 x := by rw [hzs]; exact fun x hx => unusedL_small x hx
  have hzl : zs.length ≤ 1048576 := by rw [hzs]; exact Nat.le_trans (unusedL_len8 ds1 k2) (by decide)
  have HZS := Lib.hid hzs
  have HZI := Lib.hid hzi
  clear hzs hzi
  have hb : Below w.heap.size w w := Below.refl _ _
  have HB := Lib.hid hb
  have HS := Lib.hid (And.intro hb.size (show w.heap.size + 0 ≤ w.heap.size from by simp))
  clear hb
  have HL1 := Lib.hid hl1
  clear hl1
  have HL2 := Lib.hid hl2
  clear hl2
  go_enter Try.func3, Try.ntmps3
  go_wp2_with fail
  refine (szDefS_any ds1 A1 c1 _ 1048576 (HL1.out.up HB.out) hlen1 (by decide) (by decide)).mono ?_
  rintro e w1 ⟨r1, rfl, hr1, hb⟩
  have HB' := Lib.hid (HB.out.trans (hb.mono HB.out.size))
  have HS' := Lib.hid (And.intro hb.size HS.out)
  clear hb HB HS
  have HB := HB'
  have HS := HS'
  clear HB' HS'
  rcases hr1 with rfl | ⟨hrz1, hr1⟩
  · go_wp2
    go_ret
    exact ⟨rfl, HB.out⟩
  have hsz1 : sizeD ds1 ≤ 1048576 := by omega
  have hrb1 : r1 ≤ 1048576 := by omega
  clear hr1
  go_wp2_with fail
  refine (szExprS_any k2.size k2 A2 c2 _ r1 rfl (HL2.out.up HB.out) hlen2 hrz1 hrb1).mono ?_
  rintro e w2 ⟨r2, rfl, hr2, hb⟩
  have HB' := Lib.hid (HB.out.trans (hb.mono HB.out.size))
  have HS' := Lib.hid (And.intro hb.size HS.out)
  clear hb HB HS
  have HB := HB'
  have HS := HS'
  clear HB' HS'
  rcases hr2 with rfl | ⟨hrz2, hr2⟩
  · go_wp2
    go_ret
    exact ⟨rfl, HB.out⟩
  have hsz2 : k2.size ≤ 1048576 := by omega
  have hrb2 : r2 ≤ 1048576 := by omega
  clear hr2
  go_wp2_with fail
  refine (toDefS_any ds1 A1 c1 _ (HL1.out.up HB.out) hsz1).mono ?_
  rintro e w3 ⟨As1, cs1, rfl, hks1, hcs1, hls1, hals1, hb⟩
  have HB' := Lib.hid (HB.out.trans (hb.mono HB.out.size))
  have HS' := Lib.hid (And.intro hb.size HS.out)
  clear hb HB HS
  have HB := HB'
  have HS := HS'
  clear HB' HS'
  have SLs1 := Lib.hid hls1
  clear hls1
  have SAs1 := Lib.hid hals1
  clear hals1
  go_wp2_with fail
  refine (toExprS_f k2 A2 c2 _ (HL2.out.up HB.out) hsz2).mono ?_
  rintro e w4 ⟨As2, cs2, rfl, hks2, hcs2, hls2, hals2, hb⟩
  have HB' := Lib.hid (HB.out.trans (hb.mono HB.out.size))
  have SLs1' := Lib.hid (SLs1.out.below (hb.mono (by have hs := HS.out; omega)))
  have SAs1' := Lib.hid (SAs1.out.below hb (by have hs := HS.out; omega))
  have HS' := Lib.hid (And.intro hb.size HS.out)
  clear hb HB SLs1 SAs1 HS
  have HB := HB'
  have SLs1 := SLs1'
  have SAs1 := SAs1'
  have HS := HS'
  clear HB' SLs1' SAs1' HS'
  have SLs2 := Lib.hid hls2
  clear hls2
  have SAs2 := Lib.hid hals2
  clear hals2
  go_wp2_with fail
  refine (specUnused_any ds1 As1 cs1 k2 As2 cs2 _ (SLs1.out.mono_ (Nat.zero_le _) (by have hs := HS.out; omega)) (SLs2.out.mono_ (Nat.zero_le _) (by have hs := HS.out; omega)) hsz1 hsz2).mono ?_
  rintro e w5 ⟨vw, rfl, howw, hb⟩
  rw [← HZS.out] at howw
  obtain ⟨Aw, cw, rfl, hIw⟩ := own_ints howw HZI.out
  clear SLs1 SAs1
  clear SLs2 SAs2
  have HB' := Lib.hid (HB.out.trans (hb.mono HB.out.size))
  have HS' := Lib.hid (And.intro hb.size HS.out)
  clear hb HB HS
  have HB := HB'
  have HS := HS'
  clear HB' HS'
  have WI := Lib.hid (hIw)
  clear howw hIw
  go_wp2_with fail
  refine (toDefS_any ds1 A1 c1 _ (HL1.out.up HB.out) hsz1).mono ?_
  rintro e w6 ⟨Ax1, cx1, rfl, hkx1, hcx1, hlx1, halx1, hb⟩
  have HB' := Lib.hid (HB.out.trans (hb.mono HB.out.size))
  have WI' := Lib.hid (WI.out.below (hb.mono (by have hs := HS.out; omega)))
  have HS' := Lib.hid (And.intro hb.size HS.out)
  clear hb HB WI HS
  have HB := HB'
  have WI := WI'
  have HS := HS'
  clear HB' WI' HS'
  have XL1 := Lib.hid hlx1
  have XA1 := Lib.hid halx1
  clear hlx1 halx1
  go_wp2_with fail
  refine (toExprS_f k2 A2 c2 _ (HL2.out.up HB.out) hsz2).mono ?_
  rintro e w7 ⟨Ax2, cx2, rfl, hkx2, hcx2, hlx2, halx2, hb⟩
  have HB' := Lib.hid (HB.out.trans (hb.mono HB.out.size))
  have WI' := Lib.hid (WI.out.below (hb.mono (by have hs := HS.out; omega)))
  have XL1' := Lib.hid (XL1.out.below (hb.mono (by have hs := HS.out; omega)))
  have XA1' := Lib.hid (XA1.out.below hb (by have hs := HS.out; omega))
  have HS' := Lib.hid (And.intro hb.size HS.out)
  clear hb HB WI XL1 XA1 HS
  have HB := HB'
  have WI := WI'
  have XL1 := XL1'
  have XA1 := XA1'
  have HS := HS'
  clear HB' WI' XL1' XA1' HS'
  have XL2 := Lib.hid hlx2
  have XA2 := Lib.hid halx2
  clear hlx2 halx2
  have HC := Lib.hid (implUnused_r ds1 Ax1 cx1 k2 Ax2 cx2 w5.heap.size w6.heap.size w6.heap.size w7.heap.size w7 XL1.out (by have hs := HS.out; omega) XL2.out (by have hs := HS.out; omega) hsz1 hsz2)
  go_wp2_with fail
  refine HC.out.mono ?_
  rintro e w8 ⟨vg, rfl, howg, hb⟩
  rw [← HZS.out] at howg
  obtain ⟨Ag, cg, rfl, _⟩ := own_ints howg HZI.out
  clear HC
  have HB' := Lib.hid (HB.out.trans (hb.mono HB.out.size))
  have WI' := Lib.hid (WI.out.below (hb.mono (by have hs := HS.out; omega)))
  have XL1' := Lib.hid (XL1.out.below (hb.mono (by have hs := HS.out; omega)))
  have XA1' := Lib.hid (XA1.out.below hb (by have hs := HS.out; omega))
  have XL2' := Lib.hid (XL2.out.below (hb.mono (by have hs := HS.out; omega)))
  have XA2' := Lib.hid (XA2.out.below hb (by have hs := HS.out; omega))
  have HS' := Lib.hid (And.intro hb.size HS.out)
  clear hb HB WI XL1 XA1 XL2 XA2 HS
  have HB := HB'
  have WI := WI'
  have XL1 := XL1'
  have XA1 := XA1'
  have XL2 := XL2'
  have XA2 := XA2'
  have HS := HS'
  clear HB' WI' XL1' XA1' XL2' XA2' HS'
  have GO := Lib.hid howg
  clear howg
  go_wp2_with fail
  refine (eqIntS_any zs Ag Aw cg cw _ ((own_lies GO.out HZI.out).mono_ (Nat.zero_le _) (Nat.le_refl _)) (WI.out.mono_ (Nat.zero_le _) (by have hs := HS.out; omega)) hzl).mono ?_
  rintro e w9 ⟨rfl, hb⟩
  have HB' := Lib.hid (HB.out.trans (hb.mono HB.out.size))
  have WI' := Lib.hid (WI.out.below (hb.mono (by have hs := HS.out; omega)))
  have XL1' := Lib.hid (XL1.out.below (hb.mono (by have hs := HS.out; omega)))
  have XA1' := Lib.hid (XA1.out.below hb (by have hs := HS.out; omega))
  have XL2' := Lib.hid (XL2.out.below (hb.mono (by have hs := HS.out; omega)))
  have XA2' := Lib.hid (XA2.out.below hb (by have hs := HS.out; omega))
  have GO' := Lib.hid (own_below GO.out hb)
  have HS' := Lib.hid (And.intro hb.size HS.out)
  clear hb HB WI XL1 XA1 XL2 XA2 GO HS
  have HB := HB'
  have WI := WI'
  have XL1 := XL1'
  have XA1 := XA1'
  have XL2 := XL2'
  have XA2 := XA2'
  have GO := GO'
  have HS := HS'
  clear HB' WI' XL1' XA1' XL2' XA2' GO' HS'
  go_wp2_with fail
  refine (toDefS_any ds1 A1 c1 _ (HL1.out.up HB.out) hsz1).mono ?_
  rintro e w10 ⟨At1, ct1, rfl, hkt1, hct1, hlt1, halt1, hb⟩
  have HB' := Lib.hid (HB.out.trans (hb.mono HB.out.size))
  have WI' := Lib.hid (WI.out.below (hb.mono (by have hs := HS.out; omega)))
  have XL1' := Lib.hid (XL1.out.below (hb.mono (by have hs := HS.out; omega)))
  have XA1' := Lib.hid (XA1.out.below hb (by have hs := HS.out; omega))
  have XL2' := Lib.hid (XL2.out.below (hb.mono (by have hs := HS.out; omega)))
  have XA2' := Lib.hid (XA2.out.below hb (by have hs := HS.out; omega))
  have GO' := Lib.hid (own_below GO.out hb)
  have HS' := Lib.hid (And.intro hb.size HS.out)
  clear hb HB WI XL1 XA1 XL2 XA2 GO HS
  have HB := HB'
  have WI := WI'
  have XL1 := XL1'
  have XA1 := XA1'
  have XL2 := XL2'
  have XA2 := XA2'
  have GO := GO'
  have HS := HS'
  clear HB' WI' XL1' XA1' XL2' XA2' GO' HS'
  go_wp2_with fail
  refine (eqDefS_any ds1 Ax1 At1 cx1 ct1 _ (XL1.out.mono_ (Nat.zero_le _) (by have hs := HS.out; omega)) (hlt1.mono_ (Nat.zero_le _) (Nat.le_refl _)) hsz1).mono ?_
  rintro e w11 ⟨rfl, hb⟩
  clear hlt1 halt1
  have HB' := Lib.hid (HB.out.trans (hb.mono HB.out.size))
  have WI' := Lib.hid (WI.out.below (hb.mono (by have hs := HS.out; omega)))
  have XL1' := Lib.hid (XL1.out.below (hb.mono (by have hs := HS.out; omega)))
  have XA1' := Lib.hid (XA1.out.below hb (by have hs := HS.out; omega))
  have XL2' := Lib.hid (XL2.out.below (hb.mono (by have hs := HS.out; omega)))
  have XA2' := Lib.hid (XA2.out.below hb (by have hs := HS.out; omega))
  have GO' := Lib.hid (own_below GO.out hb)
  have HS' := Lib.hid (And.intro hb.size HS.out)
  clear hb HB WI XL1 XA1 XL2 XA2 GO HS
  have HB := HB'
  have WI := WI'
  have XL1 := XL1'
  have XA1 := XA1'
  have XL2 := XL2'
  have XA2 := XA2'
  have GO := GO'
  have HS := HS'
  clear HB' WI' XL1' XA1' XL2' XA2' GO' HS'
  go_wp2_with fail
  refine (toExprS_f k2 A2 c2 _ (HL2.out.up HB.out) hsz2).mono ?_
  rintro e w12 ⟨At2, ct2, rfl, hkt2, hct2, hlt2, halt2, hb⟩
  have HB' := Lib.hid (HB.out.trans (hb.mono HB.out.size))
  have WI' := Lib.hid (WI.out.below (hb.mono (by have hs := HS.out; omega)))
  have XL1' := Lib.hid (XL1.out.below (hb.mono (by have hs := HS.out; omega)))
  have XA1' := Lib.hid (XA1.out.below hb (by have hs := HS.out; omega))
  have XL2' := Lib.hid (XL2.out.below (hb.mono (by have hs := HS.out; omega)))
  have XA2' := Lib.hid (XA2.out.below hb (by have hs := HS.out; omega))
  have GO' := Lib.hid (own_below GO.out hb)
  have HS' := Lib.hid (And.intro hb.size HS.out)
  clear hb HB WI XL1 XA1 XL2 XA2 GO HS
  have HB := HB'
  have WI := WI'
  have XL1 := XL1'
  have XA1 := XA1'
  have XL2 := XL2'
  have XA2 := XA2'
  have GO := GO'
  have HS := HS'
  clear HB' WI' XL1' XA1' XL2' XA2' GO' HS'
  go_wp2_with fail
  refine (eqExprS_f k2 Ax2 At2 cx2 ct2 _ (XL2.out.mono_ (Nat.zero_le _) (by have hs := HS.out; omega)) (hlt2.mono_ (Nat.zero_le _) (Nat.le_refl _)) hsz2).mono ?_
  rintro e w13 ⟨rfl, hb⟩
  clear hlt2 halt2
  have HB' := Lib.hid (HB.out.trans (hb.mono HB.out.size))
  have WI' := Lib.hid (WI.out.below (hb.mono (by have hs := HS.out; omega)))
  have XL1' := Lib.hid (XL1.out.below (hb.mono (by have hs := HS.out; omega)))
  have XA1' := Lib.hid (XA1.out.below hb (by have hs := HS.out; omega))
  have XL2' := Lib.hid (XL2.out.below (hb.mono (by have hs := HS.out; omega)))
  have XA2' := Lib.hid (XA2.out.below hb (by have hs := HS.out; omega))
  have GO' := Lib.hid (own_below GO.out hb)
  have HS' := Lib.hid (And.intro hb.size HS.out)
  clear hb HB WI XL1 XA1 XL2 XA2 GO HS
  have HB := HB'
  have WI := WI'
  have XL1 := XL1'
  have XA1 := XA1'
  have XL2 := XL2'
  have XA2 := XA2'
  have GO := GO'
  have HS := HS'
  clear HB' WI' XL1' XA1' XL2' XA2' GO' HS'
  go_wp2_with fail
  refine (mkDefS_any w5.heap.size w6.heap.size ds1 Ax1 cx1 _ 1 (LiesD.sk XA1.out XL1.out) hsz1 (by decide) (by omega)).mono ?_
  rintro e w14 ⟨kk1, rfl, hka1, hkb1, hm⟩
  have HB' := Lib.hid (hm.below HB.out (by have hs := HS.out; omega) (Nat.le_refl _))
  have WI' := Lib.hid (WI.out.keep (Nat.le_refl _) (Nat.le_refl _) fun p h1 h2 => hm.cell (by have hs := HS.out; omega) (by have hs := HS.out; omega))
  have XL2' := Lib.hid (XL2.out.keep (Nat.le_refl _) (Nat.le_refl _) fun p h1 h2 => hm.cell (by have hs := HS.out; omega) (by have hs := HS.out; omega))
  have XA2' := Lib.hid (hm.rows XA2.out)
  have GO' := Lib.hid (hm.owns GO.out (by have hs := HS.out; omega))
  have HS' := Lib.hid (And.intro hm.size HS.out)
  clear hm HB WI XL2 XA2 GO HS
  have HB := HB'
  have WI := WI'
  have XL2 := XL2'
  have XA2 := XA2'
  have GO := GO'
  have HS := HS'
  clear HB' WI' XL2' XA2' GO' HS'
  clear XL1 XA1
  have hk01 : 0 ≤ kk1 := by omega
  go_wp2_with fail
  refine (mkExprS_f w6.heap.size w7.heap.size k2 Ax2 cx2 _ kk1 (Lies.sk XA2.out XL2.out) hk01 (by omega)).mono ?_
  rintro e w15 ⟨kk2, rfl, hka2, hkb2, hm⟩
  have HB' := Lib.hid (hm.below HB.out (by have hs := HS.out; omega) (Nat.le_refl _))
  have WI' := Lib.hid (WI.out.keep (Nat.le_refl _) (Nat.le_refl _) fun p h1 h2 => hm.cell (by have hs := HS.out; omega) (by have hs := HS.out; omega))
  have GO' := Lib.hid (hm.owns GO.out (by have hs := HS.out; omega))
  have HS' := Lib.hid (And.intro hm.size HS.out)
  clear hm HB WI GO HS
  have HB := HB'
  have WI := WI'
  have GO := GO'
  have HS := HS'
  clear HB' WI' GO' HS'
  clear XL2 XA2
  have hk02 : 0 ≤ kk2 := by omega
  go_wp2_with fail
  refine (eqIntS_any zs Ag Aw cg cw _ ((own_lies GO.out HZI.out).mono_ (Nat.zero_le _) (Nat.le_refl _)) (WI.out.mono_ (Nat.zero_le _) (by have hs := HS.out; omega)) hzl).mono ?_
  rintro e w16 ⟨rfl, hb⟩
  have HB' := Lib.hid (HB.out.trans (hb.mono HB.out.size))
  have WI' := Lib.hid (WI.out.below (hb.mono (by have hs := HS.out; omega)))
  have GO' := Lib.hid (own_below GO.out hb)
  have HS' := Lib.hid (And.intro hb.size HS.out)
  clear hb HB WI GO HS
  have HB := HB'
  have WI := WI'
  have GO := GO'
  have HS := HS'
  clear HB' WI' GO' HS'
  obtain ⟨gg, hgg, hheld⟩ := own_held GO.out
  have GH := Lib.hid hheld
  clear hheld GO
  have HS' := Lib.hid (And.intro hgg HS.out)
  clear HS hgg
  have HS := HS'
  clear HS'
  go_wp2_with fail
  refine (markIntS_any zs.length gg Ag cg _ 1 GH.out hzl (by decide) (by decide)).mono ?_
  rintro e w17 ⟨rfl, hheld, hon⟩
  clear GH
  have HB' := Lib.hid (HB.out.trans ((hon.mono (B' := w.heap.size) (by have hs := HS.out; omega)).below (by have hs := HS.out; omega)))
  have WI' := Lib.hid (WI.out.keep (Nat.le_refl _) (Nat.le_refl _) fun p h1 h2 => hon.cell (by have hs := HS.out; omega) (by have hs := HS.out; omega))
  have HS' := Lib.hid (And.intro hon.size HS.out)
  clear hon HB WI HS
  have HB := HB'
  have WI := WI'
  have HS := HS'
  clear HB' WI' HS'
  have GH := Lib.hid hheld
  clear hheld
  have hzp : (1 : Int) + (zs.length : Int) ≤ 1048577 := by omega
  have hz0 : (0 : Int) ≤ 1 + (zs.length : Int) := by omega
  generalize hll : (1 : Int) + (zs.length : Int) = ll at hzp hz0
  have HLL := Lib.hid hll
  clear hll
  go_wp2_with fail
  refine (heldIntS_any zs.length gg Ag cg _ 1 GH.out hzl (by decide) (by decide)).mono ?_
  rintro e w18 ⟨rfl, hb⟩
  rw [HLL.out]
  have HB' := Lib.hid (HB.out.trans (hb.mono HB.out.size))
  have WI' := Lib.hid (WI.out.below (hb.mono (by have hs := HS.out; omega)))
  have GH' := Lib.hid (GH.out.below hb)
  have HS' := Lib.hid (And.intro hb.size HS.out)
  clear hb HB WI GH HS
  have HB := HB'
  have WI := WI'
  have GH := GH'
  have HS := HS'
  clear HB' WI' GH' HS'
  go_wp2_with fail
  refine (toDefS_any ds1 A1 c1 _ (HL1.out.up HB.out) hsz1).mono ?_
  rintro e w19 ⟨Ah1, ch1, rfl, hkh1, hch1, hlh1, halh1, hb⟩
  have HB' := Lib.hid (HB.out.trans (hb.mono HB.out.size))
  have WI' := Lib.hid (WI.out.below (hb.mono (by have hs := HS.out; omega)))
  have GH' := Lib.hid (GH.out.below hb)
  have HS' := Lib.hid (And.intro hb.size HS.out)
  clear hb HB WI GH HS
  have HB := HB'
  have WI := WI'
  have GH := GH'
  have HS := HS'
  clear HB' WI' GH' HS'
  have SLh1 := Lib.hid hlh1
  clear hlh1
  have SAh1 := Lib.hid halh1
  clear halh1
  go_wp2_with fail
  refine (toExprS_f k2 A2 c2 _ (HL2.out.up HB.out) hsz2).mono ?_
  rintro e w20 ⟨Ah2, ch2, rfl, hkh2, hch2, hlh2, halh2, hb⟩
  have HB' := Lib.hid (HB.out.trans (hb.mono HB.out.size))
  have WI' := Lib.hid (WI.out.below (hb.mono (by have hs := HS.out; omega)))
  have GH' := Lib.hid (GH.out.below hb)
  have SLh1' := Lib.hid (SLh1.out.below (hb.mono (by have hs := HS.out; omega)))
  have SAh1' := Lib.hid (SAh1.out.below hb (by have hs := HS.out; omega))
  have HS' := Lib.hid (And.intro hb.size HS.out)
  clear hb HB WI GH SLh1 SAh1 HS
  have HB := HB'
  have WI := WI'
  have GH := GH'
  have SLh1 := SLh1'
  have SAh1 := SAh1'
  have HS := HS'
  clear HB' WI' GH' SLh1' SAh1' HS'
  have SLh2 := Lib.hid hlh2
  clear hlh2
  have SAh2 := Lib.hid halh2
  clear halh2
  go_wp2_with fail
  refine (implUnused_r ds1 Ah1 ch1 k2 Ah2 ch2 w18.heap.size w19.heap.size w19.heap.size w20.heap.size _ SLh1.out (by have hs := HS.out; omega) SLh2.out (by have hs := HS.out; omega) hsz1 hsz2).mono ?_
  rintro e w21 ⟨vh, rfl, howh, hb⟩
  rw [← HZS.out] at howh
  obtain ⟨Ah, ch, rfl, hIh⟩ := own_ints howh HZI.out
  clear SLh1 SAh1
  clear SLh2 SAh2
  have HB' := Lib.hid (HB.out.trans (hb.mono HB.out.size))
  have WI' := Lib.hid (WI.out.below (hb.mono (by have hs := HS.out; omega)))
  have GH' := Lib.hid (GH.out.below hb)
  have HS' := Lib.hid (And.intro hb.size HS.out)
  clear hb HB WI GH HS
  have HB := HB'
  have WI := WI'
  have GH := GH'
  have HS := HS'
  clear HB' WI' GH' HS'
  have HI := Lib.hid (hIh)
  clear howh hIh
  go_wp2_with fail
  refine (eqIntS_any zs Ah Aw ch cw _ (HI.out.mono_ (Nat.zero_le _) (by have hs := HS.out; omega)) (WI.out.mono_ (Nat.zero_le _) (by have hs := HS.out; omega)) hzl).mono ?_
  rintro e w22 ⟨rfl, hb⟩
  have HB' := Lib.hid (HB.out.trans (hb.mono HB.out.size))
  have GH' := Lib.hid (GH.out.below hb)
  have HS' := Lib.hid (And.intro hb.size HS.out)
  clear hb HB GH HS
  have HB := HB'
  have GH := GH'
  have HS := HS'
  clear HB' GH' HS'
  go_wp2_with fail
  refine (heldIntS_any zs.length gg Ag cg _ 1 GH.out hzl (by decide) (by decide)).mono ?_
  rintro e w23 ⟨rfl, hb⟩
  rw [HLL.out]
  have HB' := Lib.hid (HB.out.trans (hb.mono HB.out.size))
  have GH' := Lib.hid (GH.out.below hb)
  have HS' := Lib.hid (And.intro hb.size HS.out)
  clear hb HB GH HS
  have HB := HB'
  have GH := GH'
  have HS := HS'
  clear HB' GH' HS'
  go_wp2
  go_ret
  exact ⟨rfl, HB.out⟩
end Go.Proofs.Ythjfinhfpgifiaa
