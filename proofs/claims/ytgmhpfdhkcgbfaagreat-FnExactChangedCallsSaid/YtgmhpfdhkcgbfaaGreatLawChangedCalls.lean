/-
  The walk of the law FnExactChangedCalls: true at every argument (made by gen_law.py).
-/
import Derived.Test.YtgmhpfdhkcgbfaaGreatChgdI
import Derived.Test.YtgmhpfdhkcgbfaaGreatTools
import Derived.Test.YtgmhpfdhkcgbfaaGreatMkD
import Derived.Test.YtgmhpfdhkcgbfaaGreatFo
import Derived.Test.YtgmhpfdhkcgbfaaGreatIntsM
import Derived.Deep.RegionHeld3
namespace Go.Proofs.YtgmhpfdhkcgbfaaGreat
open Go.RowKit
set_option maxRecDepth 100000

set_option maxHeartbeats 2000000 in
theorem law_ChangedCalls (ds1 : List De) (A1 : Option Addr) (c1 : Nat) (ds2 : List De) (A2 : Option Addr) (c2 : Nat) (op3 n3 : Int) (k3 : Fo) (A3 : Option Addr) (c3 : Nat) (w : World) (hl1 : LiesD w 0 w.heap.size A1 ds1) (hlen1 : ds1.length ≤ maxLen) (hl2 : LiesD w 0 w.heap.size A2 ds2) (hlen2 : ds2.length ≤ maxLen) (hl3 : Lies w 0 w.heap.size A3 0 k3) (hlen3 : k3.len ≤ maxLen) :
    Calls Tryz.prog 3 #[.slice A1 ds1.length c1, .slice A2 ds2.length c2, .agg #[.int .i64 op3, .int .i64 n3, .slice A3 k3.len c3]] w (Gives (.bool true) w) := by
  obtain ⟨zs, hzs⟩ : ∃ zs, zs = changedL ds1 ds2 op3 n3 k3 := ⟨_, rfl⟩
  have hzi : ∀ x ∈ zs, I64 x := by rw [hzs]; exact fun x hx => changedL_small x hx
  have hzl : zs.length ≤ 1048576 := by rw [hzs]; exact Nat.le_trans (changedL_len ds1 ds2 op3 n3 k3) (by decide)
  have HZS := Lib.hid hzs
  have HZI := Lib.hid hzi
  clear hzs hzi
  obtain ⟨hb, r1⟩ := one_box w 25 #[Value.int IntKind.i64 op3, Value.int IntKind.i64 n3, Value.slice A3 k3.len c3]
  have HX3 := Lib.hid r1
  clear r1
  have HB := Lib.hid hb
  have HS := Lib.hid (And.intro hb.size (show w.heap.size + 1 ≤ (w.alloc (Obj.cells #[Value.int IntKind.i64 op3, Value.int IntKind.i64 n3, Value.slice A3 k3.len c3] 25)).heap.size from by simp))
  clear hb
  have HL1 := Lib.hid hl1
  clear hl1
  have HL2 := Lib.hid hl2
  clear hl2
  have HL3 := Lib.hid hl3
  clear hl3
  go_enter Tryz.func3, Tryz.ntmps3
  go_wp2_with fail
  refine (szDefS_any ds1 A1 c1 _ 1048576 (HL1.out.up HB.out) hlen1 (by decide) (by decide)).mono ?_
  rintro e w1 ⟨r1, rfl, hr1, hb⟩
  have HB' := Lib.hid (HB.out.trans (hb.mono HB.out.size))
  have HX3' := Lib.hid (HX3.out.below hb HX3.out.size)
  have HS' := Lib.hid (And.intro hb.size HS.out)
  clear hb HB HX3 HS
  have HB := HB'
  have HX3 := HX3'
  have HS := HS'
  clear HB' HX3' HS'
  rcases hr1 with rfl | ⟨hrz1, hr1⟩
  · go_wp2
    go_ret
    exact ⟨rfl, HB.out⟩
  have hsz1 : sizeD ds1 ≤ 1048576 := by omega
  have hrb1 : r1 ≤ 1048576 := by omega
  clear hr1
  go_wp2_with fail
  refine (szDefS_any ds2 A2 c2 _ r1 (HL2.out.up HB.out) hlen2 hrz1 hrb1).mono ?_
  rintro e w2 ⟨r2, rfl, hr2, hb⟩
  have HB' := Lib.hid (HB.out.trans (hb.mono HB.out.size))
  have HX3' := Lib.hid (HX3.out.below hb HX3.out.size)
  have HS' := Lib.hid (And.intro hb.size HS.out)
  clear hb HB HX3 HS
  have HB := HB'
  have HX3 := HX3'
  have HS := HS'
  clear HB' HX3' HS'
  rcases hr2 with rfl | ⟨hrz2, hr2⟩
  · go_wp2
    go_ret
    exact ⟨rfl, HB.out⟩
  have hsz2 : sizeD ds2 ≤ 1048576 := by omega
  have hrb2 : r2 ≤ 1048576 := by omega
  clear hr2
  have qHX3_0 := HX3.out.cell (i := 0) rfl
  have qHX3_1 := HX3.out.cell (i := 1) rfl
  have qHX3_2 := HX3.out.cell (i := 2) rfl
  go_wp2_with fail
  refine (szExpr_any op3 n3 k3 A3 c3 _ r2 (HL3.out.up HB.out) hlen3 hrz2 hrb2).mono ?_
  rintro e w3 ⟨r3, rfl, hr3, hb⟩
  clear qHX3_0 qHX3_1 qHX3_2
  have HB' := Lib.hid (HB.out.trans (hb.mono HB.out.size))
  have HX3' := Lib.hid (HX3.out.below hb HX3.out.size)
  have HS' := Lib.hid (And.intro hb.size HS.out)
  clear hb HB HX3 HS
  have HB := HB'
  have HX3 := HX3'
  have HS := HS'
  clear HB' HX3' HS'
  rcases hr3 with rfl | ⟨hrz3, hr3⟩
  · go_wp2
    go_ret
    exact ⟨rfl, HB.out⟩
  have hsz3 : k3.size ≤ 1048576 := by omega
  have hrb3 : r3 ≤ 1048576 := by omega
  clear hr3
  have qHX3_0 := HX3.out.cell (i := 0) rfl
  have qHX3_1 := HX3.out.cell (i := 1) rfl
  have qHX3_2 := HX3.out.cell (i := 2) rfl
  go_wp2_with fail
  have hb : Below w3.heap.size w3 w3.drew := (Below.refl _ _).drew
  have HB' := Lib.hid (HB.out.trans (hb.mono HB.out.size))
  have HX3' := Lib.hid (HX3.out.below hb HX3.out.size)
  have HS' := Lib.hid (And.intro hb.size HS.out)
  clear hb HB HX3 HS
  have HB := HB'
  have HX3 := HX3'
  have HS := HS'
  clear HB' HX3' HS'
  go_region_held3 (fun w' => w'.cell? ⟨w.heap.size, 0, none⟩ = some (Value.int IntKind.i64 op3) ∧ w'.cell? ⟨w.heap.size, 1, none⟩ = some (Value.int IntKind.i64 n3) ∧ w'.cell? ⟨w.heap.size, 2, none⟩ = some (Value.slice A3 k3.len c3))
    (first | exact ⟨qHX3_0, qHX3_1, qHX3_2⟩ | exact ⟨y0HX3_0, y0HX3_1, y0HX3_2⟩ | exact ⟨y1HX3_0, y1HX3_1, y1HX3_2⟩ | exact ⟨y2HX3_0, y2HX3_1, y2HX3_2⟩ | exact ⟨y3HX3_0, y3HX3_1, y3HX3_2⟩)
    (first
      | (go_at_call 6
         refine (specChanged_any ds1 As1 cs1 ds2 As2 cs2 op3 n3 k3 As3 cs3 _ (((hls1.mono_ (Nat.zero_le _) (Nat.le_refl _)).up hb5).up hb6) ((hls2.mono_ (Nat.zero_le _) (Nat.le_refl _)).up hb6) (hls3.mono_ (Nat.zero_le _) (Nat.le_refl _)) hsz1 hsz2 (Nat.le_trans hks3 hcs3) hsz3).mono ?_
         rintro e w7 ⟨vw, rfl, howw, hb7⟩
         rw [← HZS.out] at howw
         obtain ⟨Aw, cw, rfl, hIw⟩ := own_ints howw HZI.out
         have y3HX3_0 := (hb7.cell (p := ⟨w.heap.size, 0, none⟩) (show w.heap.size < w6.heap.size by have hs := HS.out; have zhb4 := hb4.size; have zhb5 := hb5.size; have zhb6 := hb6.size; omega)).trans y2HX3_0
         have y3HX3_1 := (hb7.cell (p := ⟨w.heap.size, 1, none⟩) (show w.heap.size < w6.heap.size by have hs := HS.out; have zhb4 := hb4.size; have zhb5 := hb5.size; have zhb6 := hb6.size; omega)).trans y2HX3_1
         have y3HX3_2 := (hb7.cell (p := ⟨w.heap.size, 2, none⟩) (show w.heap.size < w6.heap.size by have hs := HS.out; have zhb4 := hb4.size; have zhb5 := hb5.size; have zhb6 := hb6.size; omega)).trans y2HX3_2)
      | (go_at_call 8
         refine (toExpr_any op3 n3 k3 A3 c3 _ (HL3.out.up ((HB.out.trans (hb4.mono (HB.out).size)).trans (hb5.mono ((HB.out.trans (hb4.mono (HB.out).size))).size))) hsz3).mono ?_
         rintro e w6 ⟨As3, cs3, rfl, hks3, hcs3, hls3, hals3, hb6⟩
         have y2HX3_0 := (hb6.cell (p := ⟨w.heap.size, 0, none⟩) (show w.heap.size < w5.heap.size by have hs := HS.out; have zhb4 := hb4.size; have zhb5 := hb5.size; omega)).trans y1HX3_0
         have y2HX3_1 := (hb6.cell (p := ⟨w.heap.size, 1, none⟩) (show w.heap.size < w5.heap.size by have hs := HS.out; have zhb4 := hb4.size; have zhb5 := hb5.size; omega)).trans y1HX3_1
         have y2HX3_2 := (hb6.cell (p := ⟨w.heap.size, 2, none⟩) (show w.heap.size < w5.heap.size by have hs := HS.out; have zhb4 := hb4.size; have zhb5 := hb5.size; omega)).trans y1HX3_2)
      | (go_at_call 7
         refine (toDefS_any ds2 A2 c2 _ (HL2.out.up (HB.out.trans (hb4.mono (HB.out).size))) hsz2).mono ?_
         rintro e w5 ⟨As2, cs2, rfl, hks2, hcs2, hls2, hals2, hb5⟩
         have y1HX3_0 := (hb5.cell (p := ⟨w.heap.size, 0, none⟩) (show w.heap.size < w4.heap.size by have hs := HS.out; have zhb4 := hb4.size; omega)).trans y0HX3_0
         have y1HX3_1 := (hb5.cell (p := ⟨w.heap.size, 1, none⟩) (show w.heap.size < w4.heap.size by have hs := HS.out; have zhb4 := hb4.size; omega)).trans y0HX3_1
         have y1HX3_2 := (hb5.cell (p := ⟨w.heap.size, 2, none⟩) (show w.heap.size < w4.heap.size by have hs := HS.out; have zhb4 := hb4.size; omega)).trans y0HX3_2)
      | (go_at_call 7
         refine (toDefS_any ds1 A1 c1 _ (HL1.out.up HB.out) hsz1).mono ?_
         rintro e w4 ⟨As1, cs1, rfl, hks1, hcs1, hls1, hals1, hb4⟩
         have y0HX3_0 := (hb4.cell (p := ⟨w.heap.size, 0, none⟩) (show w.heap.size < w3.drew.heap.size by have hs := HS.out; omega)).trans qHX3_0
         have y0HX3_1 := (hb4.cell (p := ⟨w.heap.size, 1, none⟩) (show w.heap.size < w3.drew.heap.size by have hs := HS.out; omega)).trans qHX3_1
         have y0HX3_2 := (hb4.cell (p := ⟨w.heap.size, 2, none⟩) (show w.heap.size < w3.drew.heap.size by have hs := HS.out; omega)).trans qHX3_2))
  have hb : Below w3.drew.heap.size w3.drew w7 := (((hb4).trans (hb5.mono (hb4.size))).trans (hb6.mono (Nat.le_trans (hb4.size) hb5.size))).trans (hb7.mono (Nat.le_trans (Nat.le_trans (hb4.size) hb5.size) hb6.size))
  have HB' := Lib.hid (HB.out.trans (hb.mono HB.out.size))
  have HX3' := Lib.hid (HX3.out.below hb HX3.out.size)
  have HS' := Lib.hid (And.intro hb.size HS.out)
  clear hb HB HX3 HS
  have HB := HB'
  have HX3 := HX3'
  have HS := HS'
  clear HB' HX3' HS'
  have WI := Lib.hid (hIw)
  clear hb4 hb5 hb6 hb7 hls1 hals1 hls2 hals2 hls3 hals3 qHX3_0 qHX3_1 qHX3_2 y3HX3_0 y3HX3_1 y3HX3_2 y2HX3_0 y2HX3_1 y2HX3_2 y1HX3_0 y1HX3_1 y1HX3_2 y0HX3_0 y0HX3_1 y0HX3_2
  clear howw hIw
  go_wp2_with fail
  refine (toDefS_any ds1 A1 c1 _ (HL1.out.up HB.out) hsz1).mono ?_
  rintro e w8 ⟨Ax1, cx1, rfl, hkx1, hcx1, hlx1, halx1, hb⟩
  have HB' := Lib.hid (HB.out.trans (hb.mono HB.out.size))
  have HX3' := Lib.hid (HX3.out.below hb HX3.out.size)
  have WI' := Lib.hid (WI.out.below (hb.mono (by have hs := HS.out; omega)))
  have HS' := Lib.hid (And.intro hb.size HS.out)
  clear hb HB HX3 WI HS
  have HB := HB'
  have HX3 := HX3'
  have WI := WI'
  have HS := HS'
  clear HB' HX3' WI' HS'
  have XL1 := Lib.hid hlx1
  have XA1 := Lib.hid halx1
  clear hlx1 halx1
  go_wp2_with fail
  refine (toDefS_any ds2 A2 c2 _ (HL2.out.up HB.out) hsz2).mono ?_
  rintro e w9 ⟨Ax2, cx2, rfl, hkx2, hcx2, hlx2, halx2, hb⟩
  have HB' := Lib.hid (HB.out.trans (hb.mono HB.out.size))
  have HX3' := Lib.hid (HX3.out.below hb HX3.out.size)
  have WI' := Lib.hid (WI.out.below (hb.mono (by have hs := HS.out; omega)))
  have XL1' := Lib.hid (XL1.out.below (hb.mono (by have hs := HS.out; omega)))
  have XA1' := Lib.hid (XA1.out.below hb (by have hs := HS.out; omega))
  have HS' := Lib.hid (And.intro hb.size HS.out)
  clear hb HB HX3 WI XL1 XA1 HS
  have HB := HB'
  have HX3 := HX3'
  have WI := WI'
  have XL1 := XL1'
  have XA1 := XA1'
  have HS := HS'
  clear HB' HX3' WI' XL1' XA1' HS'
  have XL2 := Lib.hid hlx2
  have XA2 := Lib.hid halx2
  clear hlx2 halx2
  have qHX3_0 := HX3.out.cell (i := 0) rfl
  have qHX3_1 := HX3.out.cell (i := 1) rfl
  have qHX3_2 := HX3.out.cell (i := 2) rfl
  go_wp2_with fail
  refine (toExpr_any op3 n3 k3 A3 c3 _ (HL3.out.up HB.out) hsz3).mono ?_
  rintro e w10 ⟨Ax3, cx3, rfl, hkx3, hcx3, hlx3, halx3, hb⟩
  clear qHX3_0 qHX3_1 qHX3_2
  have HB' := Lib.hid (HB.out.trans (hb.mono HB.out.size))
  have HX3' := Lib.hid (HX3.out.below hb HX3.out.size)
  have WI' := Lib.hid (WI.out.below (hb.mono (by have hs := HS.out; omega)))
  have XL1' := Lib.hid (XL1.out.below (hb.mono (by have hs := HS.out; omega)))
  have XA1' := Lib.hid (XA1.out.below hb (by have hs := HS.out; omega))
  have XL2' := Lib.hid (XL2.out.below (hb.mono (by have hs := HS.out; omega)))
  have XA2' := Lib.hid (XA2.out.below hb (by have hs := HS.out; omega))
  have HS' := Lib.hid (And.intro hb.size HS.out)
  clear hb HB HX3 WI XL1 XA1 XL2 XA2 HS
  have HB := HB'
  have HX3 := HX3'
  have WI := WI'
  have XL1 := XL1'
  have XA1 := XA1'
  have XL2 := XL2'
  have XA2 := XA2'
  have HS := HS'
  clear HB' HX3' WI' XL1' XA1' XL2' XA2' HS'
  have XL3 := Lib.hid hlx3
  have XA3 := Lib.hid halx3
  clear hlx3 halx3
  obtain ⟨hb, r1⟩ := one_box w10 34 #[Value.int IntKind.i64 op3, Value.int IntKind.i64 n3, Value.slice Ax3 k3.len cx3]
  have HB' := Lib.hid (HB.out.trans (hb.mono HB.out.size))
  have HX3' := Lib.hid (HX3.out.below hb HX3.out.size)
  have WI' := Lib.hid (WI.out.below (hb.mono (by have hs := HS.out; omega)))
  have XL1' := Lib.hid (XL1.out.below (hb.mono (by have hs := HS.out; omega)))
  have XA1' := Lib.hid (XA1.out.below hb (by have hs := HS.out; omega))
  have XL2' := Lib.hid (XL2.out.below (hb.mono (by have hs := HS.out; omega)))
  have XA2' := Lib.hid (XA2.out.below hb (by have hs := HS.out; omega))
  have XL3' := Lib.hid (XL3.out.below (hb.mono (by have hs := HS.out; omega)))
  have XA3' := Lib.hid (XA3.out.below hb (by have hs := HS.out; omega))
  have HS' := Lib.hid (And.intro hb.size HS.out)
  clear hb HB HX3 WI XL1 XA1 XL2 XA2 XL3 XA3 HS
  have HB := HB'
  have HX3 := HX3'
  have WI := WI'
  have XL1 := XL1'
  have XA1 := XA1'
  have XL2 := XL2'
  have XA2 := XA2'
  have XL3 := XL3'
  have XA3 := XA3'
  have HS := HS'
  clear HB' HX3' WI' XL1' XA1' XL2' XA2' XL3' XA3' HS'
  have XB3 := Lib.hid r1
  have HS' := Lib.hid (And.intro (show w10.heap.size + 1 ≤ (w10.alloc (Obj.cells #[Value.int IntKind.i64 op3, Value.int IntKind.i64 n3, Value.slice Ax3 k3.len cx3] 34)).heap.size from by simp) HS.out)
  clear HS r1
  have HS := HS'
  clear HS'
  have HC := Lib.hid (implChanged_any ds1 Ax1 cx1 ds2 Ax2 cx2 op3 n3 k3 Ax3 cx3 w7.heap.size w8.heap.size w8.heap.size w9.heap.size w9.heap.size w10.heap.size (w10.alloc (Obj.cells #[Value.int IntKind.i64 op3, Value.int IntKind.i64 n3, Value.slice Ax3 k3.len cx3] 34)) XL1.out (by have hs := HS.out; omega) XA1.out XL2.out (by have hs := HS.out; omega) XA2.out XL3.out (by have hs := HS.out; omega) XA3.out hsz1 hsz2 hkx3 hcx3 hsz3)
  have xXB3_0 := XB3.out.cell (i := 0) rfl
  have xXB3_1 := XB3.out.cell (i := 1) rfl
  have xXB3_2 := XB3.out.cell (i := 2) rfl
  go_wp2_with fail
  refine HC.out.mono ?_
  rintro e w11 ⟨vg, rfl, howg, hb⟩
  rw [← HZS.out] at howg
  obtain ⟨Ag, cg, rfl, _⟩ := own_ints howg HZI.out
  clear HC
  clear xXB3_0 xXB3_1 xXB3_2
  have HB' := Lib.hid (HB.out.trans (hb.mono HB.out.size))
  have HX3' := Lib.hid (HX3.out.below hb HX3.out.size)
  have WI' := Lib.hid (WI.out.below (hb.mono (by have hs := HS.out; omega)))
  have XL1' := Lib.hid (XL1.out.below (hb.mono (by have hs := HS.out; omega)))
  have XA1' := Lib.hid (XA1.out.below hb (by have hs := HS.out; omega))
  have XL2' := Lib.hid (XL2.out.below (hb.mono (by have hs := HS.out; omega)))
  have XA2' := Lib.hid (XA2.out.below hb (by have hs := HS.out; omega))
  have XL3' := Lib.hid (XL3.out.below (hb.mono (by have hs := HS.out; omega)))
  have XA3' := Lib.hid (XA3.out.below hb (by have hs := HS.out; omega))
  have XB3' := Lib.hid (XB3.out.below hb XB3.out.size)
  have HS' := Lib.hid (And.intro hb.size HS.out)
  clear hb HB HX3 WI XL1 XA1 XL2 XA2 XL3 XA3 XB3 HS
  have HB := HB'
  have HX3 := HX3'
  have WI := WI'
  have XL1 := XL1'
  have XA1 := XA1'
  have XL2 := XL2'
  have XA2 := XA2'
  have XL3 := XL3'
  have XA3 := XA3'
  have XB3 := XB3'
  have HS := HS'
  clear HB' HX3' WI' XL1' XA1' XL2' XA2' XL3' XA3' XB3' HS'
  have GO := Lib.hid howg
  clear howg
  go_wp2_with fail
  refine (eqIntS_any zs Ag Aw cg cw _ ((own_lies GO.out HZI.out).mono_ (Nat.zero_le _) (Nat.le_refl _)) (WI.out.mono_ (Nat.zero_le _) (by have hs := HS.out; omega)) hzl).mono ?_
  rintro e w12 ⟨rfl, hb⟩
  have HB' := Lib.hid (HB.out.trans (hb.mono HB.out.size))
  have HX3' := Lib.hid (HX3.out.below hb HX3.out.size)
  have WI' := Lib.hid (WI.out.below (hb.mono (by have hs := HS.out; omega)))
  have XL1' := Lib.hid (XL1.out.below (hb.mono (by have hs := HS.out; omega)))
  have XA1' := Lib.hid (XA1.out.below hb (by have hs := HS.out; omega))
  have XL2' := Lib.hid (XL2.out.below (hb.mono (by have hs := HS.out; omega)))
  have XA2' := Lib.hid (XA2.out.below hb (by have hs := HS.out; omega))
  have XL3' := Lib.hid (XL3.out.below (hb.mono (by have hs := HS.out; omega)))
  have XA3' := Lib.hid (XA3.out.below hb (by have hs := HS.out; omega))
  have XB3' := Lib.hid (XB3.out.below hb XB3.out.size)
  have GO' := Lib.hid (own_below GO.out hb)
  have HS' := Lib.hid (And.intro hb.size HS.out)
  clear hb HB HX3 WI XL1 XA1 XL2 XA2 XL3 XA3 XB3 GO HS
  have HB := HB'
  have HX3 := HX3'
  have WI := WI'
  have XL1 := XL1'
  have XA1 := XA1'
  have XL2 := XL2'
  have XA2 := XA2'
  have XL3 := XL3'
  have XA3 := XA3'
  have XB3 := XB3'
  have GO := GO'
  have HS := HS'
  clear HB' HX3' WI' XL1' XA1' XL2' XA2' XL3' XA3' XB3' GO' HS'
  go_wp2_with fail
  refine (toDefS_any ds1 A1 c1 _ (HL1.out.up HB.out) hsz1).mono ?_
  rintro e w13 ⟨At1, ct1, rfl, hkt1, hct1, hlt1, halt1, hb⟩
  have HB' := Lib.hid (HB.out.trans (hb.mono HB.out.size))
  have HX3' := Lib.hid (HX3.out.below hb HX3.out.size)
  have WI' := Lib.hid (WI.out.below (hb.mono (by have hs := HS.out; omega)))
  have XL1' := Lib.hid (XL1.out.below (hb.mono (by have hs := HS.out; omega)))
  have XA1' := Lib.hid (XA1.out.below hb (by have hs := HS.out; omega))
  have XL2' := Lib.hid (XL2.out.below (hb.mono (by have hs := HS.out; omega)))
  have XA2' := Lib.hid (XA2.out.below hb (by have hs := HS.out; omega))
  have XL3' := Lib.hid (XL3.out.below (hb.mono (by have hs := HS.out; omega)))
  have XA3' := Lib.hid (XA3.out.below hb (by have hs := HS.out; omega))
  have XB3' := Lib.hid (XB3.out.below hb XB3.out.size)
  have GO' := Lib.hid (own_below GO.out hb)
  have HS' := Lib.hid (And.intro hb.size HS.out)
  clear hb HB HX3 WI XL1 XA1 XL2 XA2 XL3 XA3 XB3 GO HS
  have HB := HB'
  have HX3 := HX3'
  have WI := WI'
  have XL1 := XL1'
  have XA1 := XA1'
  have XL2 := XL2'
  have XA2 := XA2'
  have XL3 := XL3'
  have XA3 := XA3'
  have XB3 := XB3'
  have GO := GO'
  have HS := HS'
  clear HB' HX3' WI' XL1' XA1' XL2' XA2' XL3' XA3' XB3' GO' HS'
  go_wp2_with fail
  refine (eqDefS_any ds1 Ax1 At1 cx1 ct1 _ (XL1.out.mono_ (Nat.zero_le _) (by have hs := HS.out; omega)) (hlt1.mono_ (Nat.zero_le _) (Nat.le_refl _)) hsz1).mono ?_
  rintro e w14 ⟨rfl, hb⟩
  clear hlt1 halt1
  have HB' := Lib.hid (HB.out.trans (hb.mono HB.out.size))
  have HX3' := Lib.hid (HX3.out.below hb HX3.out.size)
  have WI' := Lib.hid (WI.out.below (hb.mono (by have hs := HS.out; omega)))
  have XL1' := Lib.hid (XL1.out.below (hb.mono (by have hs := HS.out; omega)))
  have XA1' := Lib.hid (XA1.out.below hb (by have hs := HS.out; omega))
  have XL2' := Lib.hid (XL2.out.below (hb.mono (by have hs := HS.out; omega)))
  have XA2' := Lib.hid (XA2.out.below hb (by have hs := HS.out; omega))
  have XL3' := Lib.hid (XL3.out.below (hb.mono (by have hs := HS.out; omega)))
  have XA3' := Lib.hid (XA3.out.below hb (by have hs := HS.out; omega))
  have XB3' := Lib.hid (XB3.out.below hb XB3.out.size)
  have GO' := Lib.hid (own_below GO.out hb)
  have HS' := Lib.hid (And.intro hb.size HS.out)
  clear hb HB HX3 WI XL1 XA1 XL2 XA2 XL3 XA3 XB3 GO HS
  have HB := HB'
  have HX3 := HX3'
  have WI := WI'
  have XL1 := XL1'
  have XA1 := XA1'
  have XL2 := XL2'
  have XA2 := XA2'
  have XL3 := XL3'
  have XA3 := XA3'
  have XB3 := XB3'
  have GO := GO'
  have HS := HS'
  clear HB' HX3' WI' XL1' XA1' XL2' XA2' XL3' XA3' XB3' GO' HS'
  go_wp2_with fail
  refine (toDefS_any ds2 A2 c2 _ (HL2.out.up HB.out) hsz2).mono ?_
  rintro e w15 ⟨At2, ct2, rfl, hkt2, hct2, hlt2, halt2, hb⟩
  have HB' := Lib.hid (HB.out.trans (hb.mono HB.out.size))
  have HX3' := Lib.hid (HX3.out.below hb HX3.out.size)
  have WI' := Lib.hid (WI.out.below (hb.mono (by have hs := HS.out; omega)))
  have XL1' := Lib.hid (XL1.out.below (hb.mono (by have hs := HS.out; omega)))
  have XA1' := Lib.hid (XA1.out.below hb (by have hs := HS.out; omega))
  have XL2' := Lib.hid (XL2.out.below (hb.mono (by have hs := HS.out; omega)))
  have XA2' := Lib.hid (XA2.out.below hb (by have hs := HS.out; omega))
  have XL3' := Lib.hid (XL3.out.below (hb.mono (by have hs := HS.out; omega)))
  have XA3' := Lib.hid (XA3.out.below hb (by have hs := HS.out; omega))
  have XB3' := Lib.hid (XB3.out.below hb XB3.out.size)
  have GO' := Lib.hid (own_below GO.out hb)
  have HS' := Lib.hid (And.intro hb.size HS.out)
  clear hb HB HX3 WI XL1 XA1 XL2 XA2 XL3 XA3 XB3 GO HS
  have HB := HB'
  have HX3 := HX3'
  have WI := WI'
  have XL1 := XL1'
  have XA1 := XA1'
  have XL2 := XL2'
  have XA2 := XA2'
  have XL3 := XL3'
  have XA3 := XA3'
  have XB3 := XB3'
  have GO := GO'
  have HS := HS'
  clear HB' HX3' WI' XL1' XA1' XL2' XA2' XL3' XA3' XB3' GO' HS'
  go_wp2_with fail
  refine (eqDefS_any ds2 Ax2 At2 cx2 ct2 _ (XL2.out.mono_ (Nat.zero_le _) (by have hs := HS.out; omega)) (hlt2.mono_ (Nat.zero_le _) (Nat.le_refl _)) hsz2).mono ?_
  rintro e w16 ⟨rfl, hb⟩
  clear hlt2 halt2
  have HB' := Lib.hid (HB.out.trans (hb.mono HB.out.size))
  have HX3' := Lib.hid (HX3.out.below hb HX3.out.size)
  have WI' := Lib.hid (WI.out.below (hb.mono (by have hs := HS.out; omega)))
  have XL1' := Lib.hid (XL1.out.below (hb.mono (by have hs := HS.out; omega)))
  have XA1' := Lib.hid (XA1.out.below hb (by have hs := HS.out; omega))
  have XL2' := Lib.hid (XL2.out.below (hb.mono (by have hs := HS.out; omega)))
  have XA2' := Lib.hid (XA2.out.below hb (by have hs := HS.out; omega))
  have XL3' := Lib.hid (XL3.out.below (hb.mono (by have hs := HS.out; omega)))
  have XA3' := Lib.hid (XA3.out.below hb (by have hs := HS.out; omega))
  have XB3' := Lib.hid (XB3.out.below hb XB3.out.size)
  have GO' := Lib.hid (own_below GO.out hb)
  have HS' := Lib.hid (And.intro hb.size HS.out)
  clear hb HB HX3 WI XL1 XA1 XL2 XA2 XL3 XA3 XB3 GO HS
  have HB := HB'
  have HX3 := HX3'
  have WI := WI'
  have XL1 := XL1'
  have XA1 := XA1'
  have XL2 := XL2'
  have XA2 := XA2'
  have XL3 := XL3'
  have XA3 := XA3'
  have XB3 := XB3'
  have GO := GO'
  have HS := HS'
  clear HB' HX3' WI' XL1' XA1' XL2' XA2' XL3' XA3' XB3' GO' HS'
  have qXB3_0 := XB3.out.cell (i := 0) rfl
  have qXB3_1 := XB3.out.cell (i := 1) rfl
  have qXB3_2 := XB3.out.cell (i := 2) rfl
  have qHX3_0 := HX3.out.cell (i := 0) rfl
  have qHX3_1 := HX3.out.cell (i := 1) rfl
  have qHX3_2 := HX3.out.cell (i := 2) rfl
  go_wp2_with fail
  have hb : Below w16.heap.size w16 w16.drew := (Below.refl _ _).drew
  have HB' := Lib.hid (HB.out.trans (hb.mono HB.out.size))
  have HX3' := Lib.hid (HX3.out.below hb HX3.out.size)
  have WI' := Lib.hid (WI.out.below (hb.mono (by have hs := HS.out; omega)))
  have XL1' := Lib.hid (XL1.out.below (hb.mono (by have hs := HS.out; omega)))
  have XA1' := Lib.hid (XA1.out.below hb (by have hs := HS.out; omega))
  have XL2' := Lib.hid (XL2.out.below (hb.mono (by have hs := HS.out; omega)))
  have XA2' := Lib.hid (XA2.out.below hb (by have hs := HS.out; omega))
  have XL3' := Lib.hid (XL3.out.below (hb.mono (by have hs := HS.out; omega)))
  have XA3' := Lib.hid (XA3.out.below hb (by have hs := HS.out; omega))
  have XB3' := Lib.hid (XB3.out.below hb XB3.out.size)
  have GO' := Lib.hid (own_below GO.out hb)
  have HS' := Lib.hid (And.intro hb.size HS.out)
  clear hb HB HX3 WI XL1 XA1 XL2 XA2 XL3 XA3 XB3 GO HS
  have HB := HB'
  have HX3 := HX3'
  have WI := WI'
  have XL1 := XL1'
  have XA1 := XA1'
  have XL2 := XL2'
  have XA2 := XA2'
  have XL3 := XL3'
  have XA3 := XA3'
  have XB3 := XB3'
  have GO := GO'
  have HS := HS'
  clear HB' HX3' WI' XL1' XA1' XL2' XA2' XL3' XA3' XB3' GO' HS'
  go_region_held3 (fun w' => w'.cell? ⟨w10.heap.size, 0, none⟩ = some (Value.int IntKind.i64 op3) ∧ w'.cell? ⟨w10.heap.size, 1, none⟩ = some (Value.int IntKind.i64 n3) ∧ w'.cell? ⟨w10.heap.size, 2, none⟩ = some (Value.slice Ax3 k3.len cx3) ∧ w'.cell? ⟨w.heap.size, 0, none⟩ = some (Value.int IntKind.i64 op3) ∧ w'.cell? ⟨w.heap.size, 1, none⟩ = some (Value.int IntKind.i64 n3) ∧ w'.cell? ⟨w.heap.size, 2, none⟩ = some (Value.slice A3 k3.len c3))
    (first | exact ⟨qXB3_0, qXB3_1, qXB3_2, qHX3_0, qHX3_1, qHX3_2⟩ | exact ⟨y0XB3_0, y0XB3_1, y0XB3_2, y0HX3_0, y0HX3_1, y0HX3_2⟩ | exact ⟨y1XB3_0, y1XB3_1, y1XB3_2, y1HX3_0, y1HX3_1, y1HX3_2⟩)
    (first
      | (go_at_call 12
         refine (eqExpr_any op3 n3 k3 Ax3 At3 cx3 ct3 _ ((XL3.out.mono_ (Nat.zero_le _) (by have hs := HS.out; omega)).up hb17) (hlt3.mono_ (Nat.zero_le _) (Nat.le_refl _)) hsz3).mono ?_
         rintro e w18 ⟨rfl, hb18⟩
         have y1XB3_0 := (hb18.cell (p := ⟨w10.heap.size, 0, none⟩) (show w10.heap.size < w17.heap.size by have hs := HS.out; have zhb17 := hb17.size; omega)).trans y0XB3_0
         have y1XB3_1 := (hb18.cell (p := ⟨w10.heap.size, 1, none⟩) (show w10.heap.size < w17.heap.size by have hs := HS.out; have zhb17 := hb17.size; omega)).trans y0XB3_1
         have y1XB3_2 := (hb18.cell (p := ⟨w10.heap.size, 2, none⟩) (show w10.heap.size < w17.heap.size by have hs := HS.out; have zhb17 := hb17.size; omega)).trans y0XB3_2
         have y1HX3_0 := (hb18.cell (p := ⟨w.heap.size, 0, none⟩) (show w.heap.size < w17.heap.size by have hs := HS.out; have zhb17 := hb17.size; omega)).trans y0HX3_0
         have y1HX3_1 := (hb18.cell (p := ⟨w.heap.size, 1, none⟩) (show w.heap.size < w17.heap.size by have hs := HS.out; have zhb17 := hb17.size; omega)).trans y0HX3_1
         have y1HX3_2 := (hb18.cell (p := ⟨w.heap.size, 2, none⟩) (show w.heap.size < w17.heap.size by have hs := HS.out; have zhb17 := hb17.size; omega)).trans y0HX3_2)
      | (go_at_call 8
         refine (toExpr_any op3 n3 k3 A3 c3 _ (HL3.out.up HB.out) hsz3).mono ?_
         rintro e w17 ⟨At3, ct3, rfl, hkt3, hct3, hlt3, halt3, hb17⟩
         have y0XB3_0 := (hb17.cell (p := ⟨w10.heap.size, 0, none⟩) (show w10.heap.size < w16.drew.heap.size by have hs := HS.out; omega)).trans qXB3_0
         have y0XB3_1 := (hb17.cell (p := ⟨w10.heap.size, 1, none⟩) (show w10.heap.size < w16.drew.heap.size by have hs := HS.out; omega)).trans qXB3_1
         have y0XB3_2 := (hb17.cell (p := ⟨w10.heap.size, 2, none⟩) (show w10.heap.size < w16.drew.heap.size by have hs := HS.out; omega)).trans qXB3_2
         have y0HX3_0 := (hb17.cell (p := ⟨w.heap.size, 0, none⟩) (show w.heap.size < w16.drew.heap.size by have hs := HS.out; omega)).trans qHX3_0
         have y0HX3_1 := (hb17.cell (p := ⟨w.heap.size, 1, none⟩) (show w.heap.size < w16.drew.heap.size by have hs := HS.out; omega)).trans qHX3_1
         have y0HX3_2 := (hb17.cell (p := ⟨w.heap.size, 2, none⟩) (show w.heap.size < w16.drew.heap.size by have hs := HS.out; omega)).trans qHX3_2))
  have hb : Below w16.drew.heap.size w16.drew w18 := (hb17).trans (hb18.mono (hb17.size))
  clear hb17 hb18 hlt3 halt3 qXB3_0 qXB3_1 qXB3_2 qHX3_0 qHX3_1 qHX3_2 y0XB3_0 y0XB3_1 y0XB3_2 y0HX3_0 y0HX3_1 y0HX3_2 y1XB3_0 y1XB3_1 y1XB3_2 y1HX3_0 y1HX3_1 y1HX3_2
  have HB' := Lib.hid (HB.out.trans (hb.mono HB.out.size))
  have HX3' := Lib.hid (HX3.out.below hb HX3.out.size)
  have WI' := Lib.hid (WI.out.below (hb.mono (by have hs := HS.out; omega)))
  have XL1' := Lib.hid (XL1.out.below (hb.mono (by have hs := HS.out; omega)))
  have XA1' := Lib.hid (XA1.out.below hb (by have hs := HS.out; omega))
  have XL2' := Lib.hid (XL2.out.below (hb.mono (by have hs := HS.out; omega)))
  have XA2' := Lib.hid (XA2.out.below hb (by have hs := HS.out; omega))
  have XL3' := Lib.hid (XL3.out.below (hb.mono (by have hs := HS.out; omega)))
  have XA3' := Lib.hid (XA3.out.below hb (by have hs := HS.out; omega))
  have XB3' := Lib.hid (XB3.out.below hb XB3.out.size)
  have GO' := Lib.hid (own_below GO.out hb)
  have HS' := Lib.hid (And.intro hb.size HS.out)
  clear hb HB HX3 WI XL1 XA1 XL2 XA2 XL3 XA3 XB3 GO HS
  have HB := HB'
  have HX3 := HX3'
  have WI := WI'
  have XL1 := XL1'
  have XA1 := XA1'
  have XL2 := XL2'
  have XA2 := XA2'
  have XL3 := XL3'
  have XA3 := XA3'
  have XB3 := XB3'
  have GO := GO'
  have HS := HS'
  clear HB' HX3' WI' XL1' XA1' XL2' XA2' XL3' XA3' XB3' GO' HS'
  go_wp2_with fail
  refine (mkDefS_any w7.heap.size w8.heap.size ds1 Ax1 cx1 _ 1 (LiesD.sk XA1.out XL1.out) hsz1 (by decide) (by omega)).mono ?_
  rintro e w19 ⟨kk1, rfl, hka1, hkb1, hm⟩
  have HB' := Lib.hid (hm.below HB.out (by have hs := HS.out; omega) (Nat.le_refl _))
  have HX3' := Lib.hid (hm.row HX3.out (by have hs := HS.out; omega))
  have WI' := Lib.hid (WI.out.keep (Nat.le_refl _) (Nat.le_refl _) fun p h1 h2 => hm.cell (by have hs := HS.out; omega) (by have hs := HS.out; omega))
  have XL2' := Lib.hid (XL2.out.keep (Nat.le_refl _) (Nat.le_refl _) fun p h1 h2 => hm.cell (by have hs := HS.out; omega) (by have hs := HS.out; omega))
  have XA2' := Lib.hid (hm.rows XA2.out)
  have XL3' := Lib.hid (XL3.out.keep (Nat.le_refl _) (Nat.le_refl _) fun p h1 h2 => hm.cell (by have hs := HS.out; omega) (by have hs := HS.out; omega))
  have XA3' := Lib.hid (hm.rows XA3.out)
  have XB3' := Lib.hid (hm.row XB3.out (by have hs := HS.out; omega))
  have GO' := Lib.hid (hm.owns GO.out (by have hs := HS.out; omega))
  have HS' := Lib.hid (And.intro hm.size HS.out)
  clear hm HB HX3 WI XL2 XA2 XL3 XA3 XB3 GO HS
  have HB := HB'
  have HX3 := HX3'
  have WI := WI'
  have XL2 := XL2'
  have XA2 := XA2'
  have XL3 := XL3'
  have XA3 := XA3'
  have XB3 := XB3'
  have GO := GO'
  have HS := HS'
  clear HB' HX3' WI' XL2' XA2' XL3' XA3' XB3' GO' HS'
  clear XL1 XA1
  have hk01 : 0 ≤ kk1 := by omega
  go_wp2_with fail
  refine (mkDefS_any w8.heap.size w9.heap.size ds2 Ax2 cx2 _ kk1 (LiesD.sk XA2.out XL2.out) hsz2 hk01 (by omega)).mono ?_
  rintro e w20 ⟨kk2, rfl, hka2, hkb2, hm⟩
  have HB' := Lib.hid (hm.below HB.out (by have hs := HS.out; omega) (Nat.le_refl _))
  have HX3' := Lib.hid (hm.row HX3.out (by have hs := HS.out; omega))
  have WI' := Lib.hid (WI.out.keep (Nat.le_refl _) (Nat.le_refl _) fun p h1 h2 => hm.cell (by have hs := HS.out; omega) (by have hs := HS.out; omega))
  have XL3' := Lib.hid (XL3.out.keep (Nat.le_refl _) (Nat.le_refl _) fun p h1 h2 => hm.cell (by have hs := HS.out; omega) (by have hs := HS.out; omega))
  have XA3' := Lib.hid (hm.rows XA3.out)
  have XB3' := Lib.hid (hm.row XB3.out (by have hs := HS.out; omega))
  have GO' := Lib.hid (hm.owns GO.out (by have hs := HS.out; omega))
  have HS' := Lib.hid (And.intro hm.size HS.out)
  clear hm HB HX3 WI XL3 XA3 XB3 GO HS
  have HB := HB'
  have HX3 := HX3'
  have WI := WI'
  have XL3 := XL3'
  have XA3 := XA3'
  have XB3 := XB3'
  have GO := GO'
  have HS := HS'
  clear HB' HX3' WI' XL3' XA3' XB3' GO' HS'
  clear XL2 XA2
  have hk02 : 0 ≤ kk2 := by omega
  have xXB3_0 := XB3.out.cell (i := 0) rfl
  have xXB3_1 := XB3.out.cell (i := 1) rfl
  have xXB3_2 := XB3.out.cell (i := 2) rfl
  go_wp2_with fail
  refine (mkExpr_any w9.heap.size w10.heap.size op3 n3 k3 Ax3 cx3 _ kk2 (Lies.sk XA3.out XL3.out) hk02 (by omega)).mono ?_
  rintro e w21 ⟨kk3, rfl, hka3, hkb3, hm⟩
  clear xXB3_0 xXB3_1 xXB3_2
  have HB' := Lib.hid (hm.below HB.out (by have hs := HS.out; omega) (Nat.le_refl _))
  have HX3' := Lib.hid (hm.row HX3.out (by have hs := HS.out; omega))
  have WI' := Lib.hid (WI.out.keep (Nat.le_refl _) (Nat.le_refl _) fun p h1 h2 => hm.cell (by have hs := HS.out; omega) (by have hs := HS.out; omega))
  have XB3' := Lib.hid (hm.row XB3.out (by have hs := HS.out; omega))
  have GO' := Lib.hid (hm.owns GO.out (by have hs := HS.out; omega))
  have HS' := Lib.hid (And.intro hm.size HS.out)
  clear hm HB HX3 WI XB3 GO HS
  have HB := HB'
  have HX3 := HX3'
  have WI := WI'
  have XB3 := XB3'
  have GO := GO'
  have HS := HS'
  clear HB' HX3' WI' XB3' GO' HS'
  clear XL3 XA3
  have hk03 : 0 ≤ kk3 := by omega
  go_wp2_with fail
  refine (eqIntS_any zs Ag Aw cg cw _ ((own_lies GO.out HZI.out).mono_ (Nat.zero_le _) (Nat.le_refl _)) (WI.out.mono_ (Nat.zero_le _) (by have hs := HS.out; omega)) hzl).mono ?_
  rintro e w22 ⟨rfl, hb⟩
  have HB' := Lib.hid (HB.out.trans (hb.mono HB.out.size))
  have HX3' := Lib.hid (HX3.out.below hb HX3.out.size)
  have WI' := Lib.hid (WI.out.below (hb.mono (by have hs := HS.out; omega)))
  have XB3' := Lib.hid (XB3.out.below hb XB3.out.size)
  have GO' := Lib.hid (own_below GO.out hb)
  have HS' := Lib.hid (And.intro hb.size HS.out)
  clear hb HB HX3 WI XB3 GO HS
  have HB := HB'
  have HX3 := HX3'
  have WI := WI'
  have XB3 := XB3'
  have GO := GO'
  have HS := HS'
  clear HB' HX3' WI' XB3' GO' HS'
  obtain ⟨gg, hgg, hheld⟩ := own_held GO.out
  have GH := Lib.hid hheld
  clear hheld GO
  clear XB3
  have HS' := Lib.hid (And.intro hgg HS.out)
  clear HS hgg
  have HS := HS'
  clear HS'
  go_wp2_with fail
  refine (markIntS_any zs.length gg Ag cg _ 1 GH.out hzl (by decide) (by decide)).mono ?_
  rintro e w23 ⟨rfl, hheld, hon⟩
  clear GH
  have HB' := Lib.hid (HB.out.trans ((hon.mono (B' := w.heap.size) (by have hs := HS.out; omega)).below (by have hs := HS.out; omega)))
  have HX3' := Lib.hid (HX3.out.only hon (by have hs := HS.out; omega) (by have hs := HS.out; omega))
  have WI' := Lib.hid (WI.out.keep (Nat.le_refl _) (Nat.le_refl _) fun p h1 h2 => hon.cell (by have hs := HS.out; omega) (by have hs := HS.out; omega))
  have HS' := Lib.hid (And.intro hon.size HS.out)
  clear hon HB HX3 WI HS
  have HB := HB'
  have HX3 := HX3'
  have WI := WI'
  have HS := HS'
  clear HB' HX3' WI' HS'
  have GH := Lib.hid hheld
  clear hheld
  have hzp : (1 : Int) + (zs.length : Int) ≤ 1048577 := by omega
  have hz0 : (0 : Int) ≤ 1 + (zs.length : Int) := by omega
  generalize hll : (1 : Int) + (zs.length : Int) = ll at hzp hz0
  have HLL := Lib.hid hll
  clear hll
  go_wp2_with fail
  refine (heldIntS_any zs.length gg Ag cg _ 1 GH.out hzl (by decide) (by decide)).mono ?_
  rintro e w24 ⟨rfl, hb⟩
  rw [HLL.out]
  have HB' := Lib.hid (HB.out.trans (hb.mono HB.out.size))
  have HX3' := Lib.hid (HX3.out.below hb HX3.out.size)
  have WI' := Lib.hid (WI.out.below (hb.mono (by have hs := HS.out; omega)))
  have GH' := Lib.hid (GH.out.below hb)
  have HS' := Lib.hid (And.intro hb.size HS.out)
  clear hb HB HX3 WI GH HS
  have HB := HB'
  have HX3 := HX3'
  have WI := WI'
  have GH := GH'
  have HS := HS'
  clear HB' HX3' WI' GH' HS'
  have qHX3_0 := HX3.out.cell (i := 0) rfl
  have qHX3_1 := HX3.out.cell (i := 1) rfl
  have qHX3_2 := HX3.out.cell (i := 2) rfl
  go_wp2_with fail
  have hb : Below w24.heap.size w24 w24.drew := (Below.refl _ _).drew
  have HB' := Lib.hid (HB.out.trans (hb.mono HB.out.size))
  have HX3' := Lib.hid (HX3.out.below hb HX3.out.size)
  have WI' := Lib.hid (WI.out.below (hb.mono (by have hs := HS.out; omega)))
  have GH' := Lib.hid (GH.out.below hb)
  have HS' := Lib.hid (And.intro hb.size HS.out)
  clear hb HB HX3 WI GH HS
  have HB := HB'
  have HX3 := HX3'
  have WI := WI'
  have GH := GH'
  have HS := HS'
  clear HB' HX3' WI' GH' HS'
  go_region_held3 (fun w' => w'.cell? ⟨w.heap.size, 0, none⟩ = some (Value.int IntKind.i64 op3) ∧ w'.cell? ⟨w.heap.size, 1, none⟩ = some (Value.int IntKind.i64 n3) ∧ w'.cell? ⟨w.heap.size, 2, none⟩ = some (Value.slice A3 k3.len c3))
    (first | exact ⟨qHX3_0, qHX3_1, qHX3_2⟩ | exact ⟨y0HX3_0, y0HX3_1, y0HX3_2⟩ | exact ⟨y1HX3_0, y1HX3_1, y1HX3_2⟩ | exact ⟨y2HX3_0, y2HX3_1, y2HX3_2⟩ | exact ⟨y3HX3_0, y3HX3_1, y3HX3_2⟩)
    (first
      | (go_at_call 9
         refine (implChanged_any ds1 Ah1 ch1 ds2 Ah2 ch2 op3 n3 k3 Ah3 ch3 w24.drew.heap.size w25.heap.size w25.heap.size w26.heap.size w26.heap.size w27.heap.size _ ((hlh1.below (hb26.mono (by have hs := HS.out; have zhb25 := hb25.size; have zhb26 := hb26.size; have zhb27 := hb27.size; omega))).below (hb27.mono (by have hs := HS.out; have zhb25 := hb25.size; have zhb26 := hb26.size; have zhb27 := hb27.size; omega))) (by have hs := HS.out; have zhb25 := hb25.size; have zhb26 := hb26.size; have zhb27 := hb27.size; omega) ((halh1.below hb26 (by have hs := HS.out; have zhb25 := hb25.size; have zhb26 := hb26.size; have zhb27 := hb27.size; omega)).below hb27 (by have hs := HS.out; have zhb25 := hb25.size; have zhb26 := hb26.size; have zhb27 := hb27.size; omega)) (hlh2.below (hb27.mono (by have hs := HS.out; have zhb25 := hb25.size; have zhb26 := hb26.size; have zhb27 := hb27.size; omega))) (by have hs := HS.out; have zhb25 := hb25.size; have zhb26 := hb26.size; have zhb27 := hb27.size; omega) (halh2.below hb27 (by have hs := HS.out; have zhb25 := hb25.size; have zhb26 := hb26.size; have zhb27 := hb27.size; omega)) hlh3 (by have hs := HS.out; have zhb25 := hb25.size; have zhb26 := hb26.size; have zhb27 := hb27.size; omega) halh3 hsz1 hsz2 hkh3 hch3 hsz3).mono ?_
         rintro e w28 ⟨vh, rfl, howh, hb28⟩
         rw [← HZS.out] at howh
         obtain ⟨Ah, ch, rfl, hIh⟩ := own_ints howh HZI.out
         have y3HX3_0 := (hb28.cell (p := ⟨w.heap.size, 0, none⟩) (show w.heap.size < w27.heap.size by have hs := HS.out; have zhb25 := hb25.size; have zhb26 := hb26.size; have zhb27 := hb27.size; omega)).trans y2HX3_0
         have y3HX3_1 := (hb28.cell (p := ⟨w.heap.size, 1, none⟩) (show w.heap.size < w27.heap.size by have hs := HS.out; have zhb25 := hb25.size; have zhb26 := hb26.size; have zhb27 := hb27.size; omega)).trans y2HX3_1
         have y3HX3_2 := (hb28.cell (p := ⟨w.heap.size, 2, none⟩) (show w.heap.size < w27.heap.size by have hs := HS.out; have zhb25 := hb25.size; have zhb26 := hb26.size; have zhb27 := hb27.size; omega)).trans y2HX3_2)
      | (go_at_call 8
         refine (toExpr_any op3 n3 k3 A3 c3 _ (HL3.out.up ((HB.out.trans (hb25.mono (HB.out).size)).trans (hb26.mono ((HB.out.trans (hb25.mono (HB.out).size))).size))) hsz3).mono ?_
         rintro e w27 ⟨Ah3, ch3, rfl, hkh3, hch3, hlh3, halh3, hb27⟩
         have y2HX3_0 := (hb27.cell (p := ⟨w.heap.size, 0, none⟩) (show w.heap.size < w26.heap.size by have hs := HS.out; have zhb25 := hb25.size; have zhb26 := hb26.size; omega)).trans y1HX3_0
         have y2HX3_1 := (hb27.cell (p := ⟨w.heap.size, 1, none⟩) (show w.heap.size < w26.heap.size by have hs := HS.out; have zhb25 := hb25.size; have zhb26 := hb26.size; omega)).trans y1HX3_1
         have y2HX3_2 := (hb27.cell (p := ⟨w.heap.size, 2, none⟩) (show w.heap.size < w26.heap.size by have hs := HS.out; have zhb25 := hb25.size; have zhb26 := hb26.size; omega)).trans y1HX3_2)
      | (go_at_call 7
         refine (toDefS_any ds2 A2 c2 _ (HL2.out.up (HB.out.trans (hb25.mono (HB.out).size))) hsz2).mono ?_
         rintro e w26 ⟨Ah2, ch2, rfl, hkh2, hch2, hlh2, halh2, hb26⟩
         have y1HX3_0 := (hb26.cell (p := ⟨w.heap.size, 0, none⟩) (show w.heap.size < w25.heap.size by have hs := HS.out; have zhb25 := hb25.size; omega)).trans y0HX3_0
         have y1HX3_1 := (hb26.cell (p := ⟨w.heap.size, 1, none⟩) (show w.heap.size < w25.heap.size by have hs := HS.out; have zhb25 := hb25.size; omega)).trans y0HX3_1
         have y1HX3_2 := (hb26.cell (p := ⟨w.heap.size, 2, none⟩) (show w.heap.size < w25.heap.size by have hs := HS.out; have zhb25 := hb25.size; omega)).trans y0HX3_2)
      | (go_at_call 7
         refine (toDefS_any ds1 A1 c1 _ (HL1.out.up HB.out) hsz1).mono ?_
         rintro e w25 ⟨Ah1, ch1, rfl, hkh1, hch1, hlh1, halh1, hb25⟩
         have y0HX3_0 := (hb25.cell (p := ⟨w.heap.size, 0, none⟩) (show w.heap.size < w24.drew.heap.size by have hs := HS.out; omega)).trans qHX3_0
         have y0HX3_1 := (hb25.cell (p := ⟨w.heap.size, 1, none⟩) (show w.heap.size < w24.drew.heap.size by have hs := HS.out; omega)).trans qHX3_1
         have y0HX3_2 := (hb25.cell (p := ⟨w.heap.size, 2, none⟩) (show w.heap.size < w24.drew.heap.size by have hs := HS.out; omega)).trans qHX3_2))
  have hb : Below w24.drew.heap.size w24.drew w28 := (((hb25).trans (hb26.mono (hb25.size))).trans (hb27.mono (Nat.le_trans (hb25.size) hb26.size))).trans (hb28.mono (Nat.le_trans (Nat.le_trans (hb25.size) hb26.size) hb27.size))
  have HB' := Lib.hid (HB.out.trans (hb.mono HB.out.size))
  have HX3' := Lib.hid (HX3.out.below hb HX3.out.size)
  have WI' := Lib.hid (WI.out.below (hb.mono (by have hs := HS.out; omega)))
  have GH' := Lib.hid (GH.out.below hb)
  have HS' := Lib.hid (And.intro hb.size HS.out)
  clear hb HB HX3 WI GH HS
  have HB := HB'
  have HX3 := HX3'
  have WI := WI'
  have GH := GH'
  have HS := HS'
  clear HB' HX3' WI' GH' HS'
  have HI := Lib.hid (hIh)
  clear hb25 hb26 hb27 hb28 hlh1 halh1 hlh2 halh2 hlh3 halh3 qHX3_0 qHX3_1 qHX3_2 y3HX3_0 y3HX3_1 y3HX3_2 y2HX3_0 y2HX3_1 y2HX3_2 y1HX3_0 y1HX3_1 y1HX3_2 y0HX3_0 y0HX3_1 y0HX3_2
  clear howh hIh
  go_wp2_with fail
  refine (eqIntS_any zs Ah Aw ch cw _ (HI.out.mono_ (Nat.zero_le _) (by have hs := HS.out; omega)) (WI.out.mono_ (Nat.zero_le _) (by have hs := HS.out; omega)) hzl).mono ?_
  rintro e w29 ⟨rfl, hb⟩
  have HB' := Lib.hid (HB.out.trans (hb.mono HB.out.size))
  have HX3' := Lib.hid (HX3.out.below hb HX3.out.size)
  have GH' := Lib.hid (GH.out.below hb)
  have HS' := Lib.hid (And.intro hb.size HS.out)
  clear hb HB HX3 GH HS
  have HB := HB'
  have HX3 := HX3'
  have GH := GH'
  have HS := HS'
  clear HB' HX3' GH' HS'
  go_wp2_with fail
  refine (heldIntS_any zs.length gg Ag cg _ 1 GH.out hzl (by decide) (by decide)).mono ?_
  rintro e w30 ⟨rfl, hb⟩
  rw [HLL.out]
  have HB' := Lib.hid (HB.out.trans (hb.mono HB.out.size))
  have HX3' := Lib.hid (HX3.out.below hb HX3.out.size)
  have GH' := Lib.hid (GH.out.below hb)
  have HS' := Lib.hid (And.intro hb.size HS.out)
  clear hb HB HX3 GH HS
  have HB := HB'
  have HX3 := HX3'
  have GH := GH'
  have HS := HS'
  clear HB' HX3' GH' HS'
  go_wp2
  go_ret
  exact ⟨rfl, HB.out⟩
end Go.Proofs.YtgmhpfdhkcgbfaaGreat
