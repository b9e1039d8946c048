/-
  The walk of the law FnExactCommutesWith: true at every argument (made by gen_law.py).
-/
import Derived.Test.YtfjhanfmcoebfaaComm
import Derived.Test.YtfjhanfmcoebfaaTools
import Derived.Test.YtfjhanfmcoebfaaFo
import Derived.Deep.RegionHeld3
namespace Go.Proofs.Ytfjhanfmcoebfaa
open Go.RowKit
set_option maxRecDepth 100000

set_option maxHeartbeats 2000000 in
theorem law_CommutesWith (ds1 : List De) (A1 : Option Addr) (c1 : Nat) (op2 n2 : Int) (k2 : Fo) (A2 : Option Addr) (c2 : Nat) (op3 n3 : Int) (k3 : Fo) (A3 : Option Addr) (c3 : Nat) (w : World) (hl1 : LiesD w 0 w.heap.size A1 ds1) (hlen1 : ds1.length ≤ maxLen) (hl2 : Lies w 0 w.heap.size A2 0 k2) (hlen2 : k2.len ≤ maxLen) (hl3 : Lies w 0 w.heap.size A3 0 k3) (hlen3 : k3.len ≤ maxLen) :
    Calls Try.prog 3 #[.slice A1 ds1.length c1, .agg #[.int .i64 op2, .int .i64 n2, .slice A2 k2.len c2], .agg #[.int .i64 op3, .int .i64 n3, .slice A3 k3.len c3]] w (Gives (.bool true) w) := by
  obtain ⟨z, hz⟩ : ∃ z, commB ds1 op2 n2 k2 op3 n3 k3 = z := ⟨_, rfl⟩
  have HZz := Lib.hid hz
  clear hz
  obtain ⟨hb, r1, r2⟩ := two_boxes w 25 25 #[Value.int IntKind.i64 op2, Value.int IntKind.i64 n2, Value.slice A2 k2.len c2] #[Value.int IntKind.i64 op3, Value.int IntKind.i64 n3, Value.slice A3 k3.len c3]
  have HX2 := Lib.hid r1
  have HX3 := Lib.hid r2
  clear r1 r2
  have HB := Lib.hid hb
  have HS := Lib.hid (And.intro hb.size (show w.heap.size + 2 ≤ ((w.alloc (Obj.cells #[Value.int IntKind.i64 op2, Value.int IntKind.i64 n2, Value.slice A2 k2.len c2] 25)).alloc (Obj.cells #[Value.int IntKind.i64 op3, Value.int IntKind.i64 n3, Value.slice A3 k3.len c3] 25)).heap.size from by simp))
  clear hb
  have HL1 := Lib.hid hl1
  clear hl1
  have HL2 := Lib.hid hl2
  clear hl2
  have HL3 := Lib.hid hl3
  clear hl3
  go_enter Try.func3, Try.ntmps3
  go_wp2_with fail
  refine (szDefS_any ds1 A1 c1 _ 1048576 (HL1.out.up HB.out) hlen1 (by decide) (by decide)).mono ?_
  rintro e w1 ⟨r1, rfl, hr1, hb⟩
  have HB' := Lib.hid (HB.out.trans (hb.mono HB.out.size))
  have HX2' := Lib.hid (HX2.out.below hb HX2.out.size)
  have HX3' := Lib.hid (HX3.out.below hb HX3.out.size)
  have HS' := Lib.hid (And.intro hb.size HS.out)
  clear hb HB HX2 HX3 HS
  have HB := HB'
  have HX2 := HX2'
  have HX3 := HX3'
  have HS := HS'
  clear HB' HX2' HX3' HS'
  rcases hr1 with rfl | ⟨hrz1, hr1⟩
  · go_wp2
    go_ret
    exact ⟨rfl, HB.out⟩
  have hsz1 : sizeD ds1 ≤ 1048576 := by omega
  have hrb1 : r1 ≤ 1048576 := by omega
  clear hr1
  have qHX2_0 := HX2.out.cell (i := 0) rfl
  have qHX2_1 := HX2.out.cell (i := 1) rfl
  have qHX2_2 := HX2.out.cell (i := 2) rfl
  go_wp2_with fail
  refine (szExpr_any op2 n2 k2 A2 c2 _ r1 (HL2.out.up HB.out) hlen2 hrz1 hrb1).mono ?_
  rintro e w2 ⟨r2, rfl, hr2, hb⟩
  clear qHX2_0 qHX2_1 qHX2_2
  have HB' := Lib.hid (HB.out.trans (hb.mono HB.out.size))
  have HX2' := Lib.hid (HX2.out.below hb HX2.out.size)
  have HX3' := Lib.hid (HX3.out.below hb HX3.out.size)
  have HS' := Lib.hid (And.intro hb.size HS.out)
  clear hb HB HX2 HX3 HS
  have HB := HB'
  have HX2 := HX2'
  have HX3 := HX3'
  have HS := HS'
  clear HB' HX2' HX3' HS'
  rcases hr2 with rfl | ⟨hrz2, hr2⟩
  · go_wp2
    go_ret
    exact ⟨rfl, HB.out⟩
  have hsz2 : k2.size ≤ 1048576 := by omega
  have hrb2 : r2 ≤ 1048576 := by omega
  clear hr2
  have qHX3_0 := HX3.out.cell (i := 0) rfl
  have qHX3_1 := HX3.out.cell (i := 1) rfl
  have qHX3_2 := HX3.out.cell (i := 2) rfl
  go_wp2_with fail
  refine (szExpr_any op3 n3 k3 A3 c3 _ r2 (HL3.out.up HB.out) hlen3 hrz2 hrb2).mono ?_
  rintro e w3 ⟨r3, rfl, hr3, hb⟩
  clear qHX3_0 qHX3_1 qHX3_2
  have HB' := Lib.hid (HB.out.trans (hb.mono HB.out.size))
  have HX2' := Lib.hid (HX2.out.below hb HX2.out.size)
  have HX3' := Lib.hid (HX3.out.below hb HX3.out.size)
  have HS' := Lib.hid (And.intro hb.size HS.out)
  clear hb HB HX2 HX3 HS
  have HB := HB'
  have HX2 := HX2'
  have HX3 := HX3'
  have HS := HS'
  clear HB' HX2' HX3' HS'
  rcases hr3 with rfl | ⟨hrz3, hr3⟩
  · go_wp2
    go_ret
    exact ⟨rfl, HB.out⟩
  have hsz3 : k3.size ≤ 1048576 := by omega
  have hrb3 : r3 ≤ 1048576 := by omega
  clear hr3
  have qHX2_0 := HX2.out.cell (i := 0) rfl
  have qHX2_1 := HX2.out.cell (i := 1) rfl
  have qHX2_2 := HX2.out.cell (i := 2) rfl
  have qHX3_0 := HX3.out.cell (i := 0) rfl
  have qHX3_1 := HX3.out.cell (i := 1) rfl
  have qHX3_2 := HX3.out.cell (i := 2) rfl
  go_wp2_with fail
  have hb : Below w3.heap.size w3 w3.drew := (Below.refl _ _).drew
  have HB' := Lib.hid (HB.out.trans (hb.mono HB.out.size))
  have HX2' := Lib.hid (HX2.out.below hb HX2.out.size)
  have HX3' := Lib.hid (HX3.out.below hb HX3.out.size)
  have HS' := Lib.hid (And.intro hb.size HS.out)
  clear hb HB HX2 HX3 HS
  have HB := HB'
  have HX2 := HX2'
  have HX3 := HX3'
  have HS := HS'
  clear HB' HX2' HX3' HS'
  go_region_held3 (fun w' => w'.cell? ⟨w.heap.size, 0, none⟩ = some (Value.int IntKind.i64 op2) ∧ w'.cell? ⟨w.heap.size, 1, none⟩ = some (Value.int IntKind.i64 n2) ∧ w'.cell? ⟨w.heap.size, 2, none⟩ = some (Value.slice A2 k2.len c2) ∧ w'.cell? ⟨w.heap.size + 1, 0, none⟩ = some (Value.int IntKind.i64 op3) ∧ w'.cell? ⟨w.heap.size + 1, 1, none⟩ = some (Value.int IntKind.i64 n3) ∧ w'.cell? ⟨w.heap.size + 1, 2, none⟩ = some (Value.slice A3 k3.len c3))
    (first | exact ⟨qHX2_0, qHX2_1, qHX2_2, qHX3_0, qHX3_1, qHX3_2⟩ | exact ⟨y0HX2_0, y0HX2_1, y0HX2_2, y0HX3_0, y0HX3_1, y0HX3_2⟩ | exact ⟨y1HX2_0, y1HX2_1, y1HX2_2, y1HX3_0, y1HX3_1, y1HX3_2⟩ | exact ⟨y2HX2_0, y2HX2_1, y2HX2_2, y2HX3_0, y2HX3_1, y2HX3_2⟩ | exact ⟨y3HX2_0, y3HX2_1, y3HX2_2, y3HX3_0, y3HX3_1, y3HX3_2⟩)
    (first
      | (go_at_call 7
         refine (specComm_any ds1 As1 cs1 op2 n2 k2 As2 cs2 op3 n3 k3 As3 cs3 _ (((hls1.mono_ (Nat.zero_le _) (Nat.le_refl _)).up hb5).up hb6) ((hls2.mono_ (Nat.zero_le _) (Nat.le_refl _)).up hb6) (hls3.mono_ (Nat.zero_le _) (Nat.le_refl _)) hsz1 (Nat.le_trans hks2 hcs2) (Nat.le_trans hks3 hcs3) hsz2 hsz3).mono ?_
         rintro e w7 ⟨rfl, hb7⟩
         rw [HZz.out]
         have y3HX2_0 := (hb7.cell (p := ⟨w.heap.size, 0, none⟩) (show w.heap.size < w6.heap.size by have hs := HS.out; have zhb4 := hb4.size; have zhb5 := hb5.size; have zhb6 := hb6.size; omega)).trans y2HX2_0
         have y3HX2_1 := (hb7.cell (p := ⟨w.heap.size, 1, none⟩) (show w.heap.size < w6.heap.size by have hs := HS.out; have zhb4 := hb4.size; have zhb5 := hb5.size; have zhb6 := hb6.size; omega)).trans y2HX2_1
         have y3HX2_2 := (hb7.cell (p := ⟨w.heap.size, 2, none⟩) (show w.heap.size < w6.heap.size by have hs := HS.out; have zhb4 := hb4.size; have zhb5 := hb5.size; have zhb6 := hb6.size; omega)).trans y2HX2_2
         have y3HX3_0 := (hb7.cell (p := ⟨w.heap.size + 1, 0, none⟩) (show w.heap.size + 1 < w6.heap.size by have hs := HS.out; have zhb4 := hb4.size; have zhb5 := hb5.size; have zhb6 := hb6.size; omega)).trans y2HX3_0
         have y3HX3_1 := (hb7.cell (p := ⟨w.heap.size + 1, 1, none⟩) (show w.heap.size + 1 < w6.heap.size by have hs := HS.out; have zhb4 := hb4.size; have zhb5 := hb5.size; have zhb6 := hb6.size; omega)).trans y2HX3_1
         have y3HX3_2 := (hb7.cell (p := ⟨w.heap.size + 1, 2, none⟩) (show w.heap.size + 1 < w6.heap.size by have hs := HS.out; have zhb4 := hb4.size; have zhb5 := hb5.size; have zhb6 := hb6.size; omega)).trans y2HX3_2)
      | (go_at_call 9
         refine (toExpr_any op3 n3 k3 A3 c3 _ (HL3.out.up ((HB.out.trans (hb4.mono (HB.out).size)).trans (hb5.mono ((HB.out.trans (hb4.mono (HB.out).size))).size))) hsz3).mono ?_
         rintro e w6 ⟨As3, cs3, rfl, hks3, hcs3, hls3, hals3, hb6⟩
         have y2HX2_0 := (hb6.cell (p := ⟨w.heap.size, 0, none⟩) (show w.heap.size < w5.heap.size by have hs := HS.out; have zhb4 := hb4.size; have zhb5 := hb5.size; omega)).trans y1HX2_0
         have y2HX2_1 := (hb6.cell (p := ⟨w.heap.size, 1, none⟩) (show w.heap.size < w5.heap.size by have hs := HS.out; have zhb4 := hb4.size; have zhb5 := hb5.size; omega)).trans y1HX2_1
         have y2HX2_2 := (hb6.cell (p := ⟨w.heap.size, 2, none⟩) (show w.heap.size < w5.heap.size by have hs := HS.out; have zhb4 := hb4.size; have zhb5 := hb5.size; omega)).trans y1HX2_2
         have y2HX3_0 := (hb6.cell (p := ⟨w.heap.size + 1, 0, none⟩) (show w.heap.size + 1 < w5.heap.size by have hs := HS.out; have zhb4 := hb4.size; have zhb5 := hb5.size; omega)).trans y1HX3_0
         have y2HX3_1 := (hb6.cell (p := ⟨w.heap.size + 1, 1, none⟩) (show w.heap.size + 1 < w5.heap.size by have hs := HS.out; have zhb4 := hb4.size; have zhb5 := hb5.size; omega)).trans y1HX3_1
         have y2HX3_2 := (hb6.cell (p := ⟨w.heap.size + 1, 2, none⟩) (show w.heap.size + 1 < w5.heap.size by have hs := HS.out; have zhb4 := hb4.size; have zhb5 := hb5.size; omega)).trans y1HX3_2)
      | (go_at_call 9
         refine (toExpr_any op2 n2 k2 A2 c2 _ (HL2.out.up (HB.out.trans (hb4.mono (HB.out).size))) hsz2).mono ?_
         rintro e w5 ⟨As2, cs2, rfl, hks2, hcs2, hls2, hals2, hb5⟩
         have y1HX2_0 := (hb5.cell (p := ⟨w.heap.size, 0, none⟩) (show w.heap.size < w4.heap.size by have hs := HS.out; have zhb4 := hb4.size; omega)).trans y0HX2_0
         have y1HX2_1 := (hb5.cell (p := ⟨w.heap.size, 1, none⟩) (show w.heap.size < w4.heap.size by have hs := HS.out; have zhb4 := hb4.size; omega)).trans y0HX2_1
         have y1HX2_2 := (hb5.cell (p := ⟨w.heap.size, 2, none⟩) (show w.heap.size < w4.heap.size by have hs := HS.out; have zhb4 := hb4.size; omega)).trans y0HX2_2
         have y1HX3_0 := (hb5.cell (p := ⟨w.heap.size + 1, 0, none⟩) (show w.heap.size + 1 < w4.heap.size by have hs := HS.out; have zhb4 := hb4.size; omega)).trans y0HX3_0
         have y1HX3_1 := (hb5.cell (p := ⟨w.heap.size + 1, 1, none⟩) (show w.heap.size + 1 < w4.heap.size by have hs := HS.out; have zhb4 := hb4.size; omega)).trans y0HX3_1
         have y1HX3_2 := (hb5.cell (p := ⟨w.heap.size + 1, 2, none⟩) (show w.heap.size + 1 < w4.heap.size by have hs := HS.out; have zhb4 := hb4.size; omega)).trans y0HX3_2)
      | (go_at_call 8
         refine (toDefS_any ds1 A1 c1 _ (HL1.out.up HB.out) hsz1).mono ?_
         rintro e w4 ⟨As1, cs1, rfl, hks1, hcs1, hls1, hals1, hb4⟩
         have y0HX2_0 := (hb4.cell (p := ⟨w.heap.size, 0, none⟩) (show w.heap.size < w3.drew.heap.size by have hs := HS.out; omega)).trans qHX2_0
         have y0HX2_1 := (hb4.cell (p := ⟨w.heap.size, 1, none⟩) (show w.heap.size < w3.drew.heap.size by have hs := HS.out; omega)).trans qHX2_1
         have y0HX2_2 := (hb4.cell (p := ⟨w.heap.size, 2, none⟩) (show w.heap.size < w3.drew.heap.size by have hs := HS.out; omega)).trans qHX2_2
         have y0HX3_0 := (hb4.cell (p := ⟨w.heap.size + 1, 0, none⟩) (show w.heap.size + 1 < w3.drew.heap.size by have hs := HS.out; omega)).trans qHX3_0
         have y0HX3_1 := (hb4.cell (p := ⟨w.heap.size + 1, 1, none⟩) (show w.heap.size + 1 < w3.drew.heap.size by have hs := HS.out; omega)).trans qHX3_1
         have y0HX3_2 := (hb4.cell (p := ⟨w.heap.size + 1, 2, none⟩) (show w.heap.size + 1 < w3.drew.heap.size by have hs := HS.out; omega)).trans qHX3_2))
  have hb : Below w3.drew.heap.size w3.drew w7 := (((hb4).trans (hb5.mono (hb4.size))).trans (hb6.mono (Nat.le_trans (hb4.size) hb5.size))).trans (hb7.mono (Nat.le_trans (Nat.le_trans (hb4.size) hb5.size) hb6.size))
  have HB' := Lib.hid (HB.out.trans (hb.mono HB.out.size))
  have HX2' := Lib.hid (HX2.out.below hb HX2.out.size)
  have HX3' := Lib.hid (HX3.out.below hb HX3.out.size)
  have HS' := Lib.hid (And.intro hb.size HS.out)
  clear hb HB HX2 HX3 HS
  have HB := HB'
  have HX2 := HX2'
  have HX3 := HX3'
  have HS := HS'
  clear HB' HX2' HX3' HS'
  clear hb4 hb5 hb6 hb7 hls1 hals1 hls2 hals2 hls3 hals3 qHX2_0 qHX2_1 qHX2_2 qHX3_0 qHX3_1 qHX3_2 y3HX2_0 y3HX2_1 y3HX2_2 y3HX3_0 y3HX3_1 y3HX3_2 y2HX2_0 y2HX2_1 y2HX2_2 y2HX3_0 y2HX3_1 y2HX3_2 y1HX2_0 y1HX2_1 y1HX2_2 y1HX3_0 y1HX3_1 y1HX3_2 y0HX2_0 y0HX2_1 y0HX2_2 y0HX3_0 y0HX3_1 y0HX3_2
  go_wp2_with fail
  refine (toDefS_any ds1 A1 c1 _ (HL1.out.up HB.out) hsz1).mono ?_
  rintro e w8 ⟨Ax1, cx1, rfl, hkx1, hcx1, hlx1, halx1, hb⟩
  have HB' := Lib.hid (HB.out.trans (hb.mono HB.out.size))
  have HX2' := Lib.hid (HX2.out.below hb HX2.out.size)
  have HX3' := Lib.hid (HX3.out.below hb HX3.out.size)
  have HS' := Lib.hid (And.intro hb.size HS.out)
  clear hb HB HX2 HX3 HS
  have HB := HB'
  have HX2 := HX2'
  have HX3 := HX3'
  have HS := HS'
  clear HB' HX2' HX3' HS'
  have XL1 := Lib.hid hlx1
  have XA1 := Lib.hid halx1
  clear hlx1 halx1
  have qHX2_0 := HX2.out.cell (i := 0) rfl
  have qHX2_1 := HX2.out.cell (i := 1) rfl
  have qHX2_2 := HX2.out.cell (i := 2) rfl
  go_wp2_with fail
  refine (toExpr_any op2 n2 k2 A2 c2 _ (HL2.out.up HB.out) hsz2).mono ?_
  rintro e w9 ⟨Ax2, cx2, rfl, hkx2, hcx2, hlx2, halx2, hb⟩
  clear qHX2_0 qHX2_1 qHX2_2
  have HB' := Lib.hid (HB.out.trans (hb.mono HB.out.size))
  have HX2' := Lib.hid (HX2.out.below hb HX2.out.size)
  have HX3' := Lib.hid (HX3.out.below hb HX3.out.size)
  have XL1' := Lib.hid (XL1.out.below (hb.mono (by have hs := HS.out; omega)))
  have XA1' := Lib.hid (XA1.out.below hb (by have hs := HS.out; omega))
  have HS' := Lib.hid (And.intro hb.size HS.out)
  clear hb HB HX2 HX3 XL1 XA1 HS
  have HB := HB'
  have HX2 := HX2'
  have HX3 := HX3'
  have XL1 := XL1'
  have XA1 := XA1'
  have HS := HS'
  clear HB' HX2' HX3' XL1' XA1' HS'
  have XL2 := Lib.hid hlx2
  have XA2 := Lib.hid halx2
  clear hlx2 halx2
  obtain ⟨hb, r1⟩ := one_box w9 33 #[Value.int IntKind.i64 op2, Value.int IntKind.i64 n2, Value.slice Ax2 k2.len cx2]
  have HB' := Lib.hid (HB.out.trans (hb.mono HB.out.size))
  have HX2' := Lib.hid (HX2.out.below hb HX2.out.size)
  have HX3' := Lib.hid (HX3.out.below hb HX3.out.size)
  have XL1' := Lib.hid (XL1.out.below (hb.mono (by have hs := HS.out; omega)))
  have XA1' := Lib.hid (XA1.out.below hb (by have hs := HS.out; omega))
  have XL2' := Lib.hid (XL2.out.below (hb.mono (by have hs := HS.out; omega)))
  have XA2' := Lib.hid (XA2.out.below hb (by have hs := HS.out; omega))
  have HS' := Lib.hid (And.intro hb.size HS.out)
  clear hb HB HX2 HX3 XL1 XA1 XL2 XA2 HS
  have HB := HB'
  have HX2 := HX2'
  have HX3 := HX3'
  have XL1 := XL1'
  have XA1 := XA1'
  have XL2 := XL2'
  have XA2 := XA2'
  have HS := HS'
  clear HB' HX2' HX3' XL1' XA1' XL2' XA2' HS'
  have XB2 := Lib.hid r1
  have HS' := Lib.hid (And.intro (show w9.heap.size + 1 ≤ (w9.alloc (Obj.cells #[Value.int IntKind.i64 op2, Value.int IntKind.i64 n2, Value.slice Ax2 k2.len cx2] 33)).heap.size from by simp) HS.out)
  clear HS r1
  have HS := HS'
  clear HS'
  have qHX3_0 := HX3.out.cell (i := 0) rfl
  have qHX3_1 := HX3.out.cell (i := 1) rfl
  have qHX3_2 := HX3.out.cell (i := 2) rfl
  go_wp2_with fail
  refine (toExpr_any op3 n3 k3 A3 c3 _ (HL3.out.up HB.out) hsz3).mono ?_
  rintro e w10 ⟨Ax3, cx3, rfl, hkx3, hcx3, hlx3, halx3, hb⟩
  clear qHX3_0 qHX3_1 qHX3_2
  have HB' := Lib.hid (HB.out.trans (hb.mono HB.out.size))
  have HX2' := Lib.hid (HX2.out.below hb HX2.out.size)
  have HX3' := Lib.hid (HX3.out.below hb HX3.out.size)
  have XL1' := Lib.hid (XL1.out.below (hb.mono (by have hs := HS.out; omega)))
  have XA1' := Lib.hid (XA1.out.below hb (by have hs := HS.out; omega))
  have XL2' := Lib.hid (XL2.out.below (hb.mono (by have hs := HS.out; omega)))
  have XA2' := Lib.hid (XA2.out.below hb (by have hs := HS.out; omega))
  have XB2' := Lib.hid (XB2.out.below hb XB2.out.size)
  have HS' := Lib.hid (And.intro hb.size HS.out)
  clear hb HB HX2 HX3 XL1 XA1 XL2 XA2 XB2 HS
  have HB := HB'
  have HX2 := HX2'
  have HX3 := HX3'
  have XL1 := XL1'
  have XA1 := XA1'
  have XL2 := XL2'
  have XA2 := XA2'
  have XB2 := XB2'
  have HS := HS'
  clear HB' HX2' HX3' XL1' XA1' XL2' XA2' XB2' HS'
  have XL3 := Lib.hid hlx3
  have XA3 := Lib.hid halx3
  clear hlx3 halx3
  obtain ⟨hb, r1⟩ := one_box w10 33 #[Value.int IntKind.i64 op3, Value.int IntKind.i64 n3, Value.slice Ax3 k3.len cx3]
  have HB' := Lib.hid (HB.out.trans (hb.mono HB.out.size))
  have HX2' := Lib.hid (HX2.out.below hb HX2.out.size)
  have HX3' := Lib.hid (HX3.out.below hb HX3.out.size)
  have XL1' := Lib.hid (XL1.out.below (hb.mono (by have hs := HS.out; omega)))
  have XA1' := Lib.hid (XA1.out.below hb (by have hs := HS.out; omega))
  have XL2' := Lib.hid (XL2.out.below (hb.mono (by have hs := HS.out; omega)))
  have XA2' := Lib.hid (XA2.out.below hb (by have hs := HS.out; omega))
  have XB2' := Lib.hid (XB2.out.below hb XB2.out.size)
  have XL3' := Lib.hid (XL3.out.below (hb.mono (by have hs := HS.out; omega)))
  have XA3' := Lib.hid (XA3.out.below hb (by have hs := HS.out; omega))
  have HS' := Lib.hid (And.intro hb.size HS.out)
  clear hb HB HX2 HX3 XL1 XA1 XL2 XA2 XB2 XL3 XA3 HS
  have HB := HB'
  have HX2 := HX2'
  have HX3 := HX3'
  have XL1 := XL1'
  have XA1 := XA1'
  have XL2 := XL2'
  have XA2 := XA2'
  have XB2 := XB2'
  have XL3 := XL3'
  have XA3 := XA3'
  have HS := HS'
  clear HB' HX2' HX3' XL1' XA1' XL2' XA2' XB2' XL3' XA3' HS'
  have XB3 := Lib.hid r1
  have HS' := Lib.hid (And.intro (show w10.heap.size + 1 ≤ (w10.alloc (Obj.cells #[Value.int IntKind.i64 op3, Value.int IntKind.i64 n3, Value.slice Ax3 k3.len cx3] 33)).heap.size from by simp) HS.out)
  clear HS r1
  have HS := HS'
  clear HS'
  have HC := Lib.hid (implComm_any ds1 Ax1 cx1 op2 n2 k2 Ax2 cx2 op3 n3 k3 Ax3 cx3 w7.heap.size w8.heap.size w8.heap.size w9.heap.size (w9.alloc (Obj.cells #[Value.int IntKind.i64 op2, Value.int IntKind.i64 n2, Value.slice Ax2 k2.len cx2] 33)).heap.size w10.heap.size (w10.alloc (Obj.cells #[Value.int IntKind.i64 op3, Value.int IntKind.i64 n3, Value.slice Ax3 k3.len cx3] 33)) XL1.out (by have hs := HS.out; omega) XL2.out (by have hs := HS.out; omega) XL3.out (by have hs := HS.out; omega) hsz1 hkx2 hcx2 hkx3 hcx3 hsz2 hsz3)
  have xXB2_0 := XB2.out.cell (i := 0) rfl
  have xXB2_1 := XB2.out.cell (i := 1) rfl
  have xXB2_2 := XB2.out.cell (i := 2) rfl
  have xXB3_0 := XB3.out.cell (i := 0) rfl
  have xXB3_1 := XB3.out.cell (i := 1) rfl
  have xXB3_2 := XB3.out.cell (i := 2) rfl
  go_wp2_with fail
  refine HC.out.mono ?_
  rintro e w11 ⟨rfl, hb⟩
  rw [HZz.out]
  clear HC
  clear xXB2_0 xXB2_1 xXB2_2 xXB3_0 xXB3_1 xXB3_2
  have HB' := Lib.hid (HB.out.trans (hb.mono HB.out.size))
  have HX2' := Lib.hid (HX2.out.below hb HX2.out.size)
  have HX3' := Lib.hid (HX3.out.below hb HX3.out.size)
  have XL1' := Lib.hid (XL1.out.below (hb.mono (by have hs := HS.out; omega)))
  have XA1' := Lib.hid (XA1.out.below hb (by have hs := HS.out; omega))
  have XL2' := Lib.hid (XL2.out.below (hb.mono (by have hs := HS.out; omega)))
  have XA2' := Lib.hid (XA2.out.below hb (by have hs := HS.out; omega))
  have XB2' := Lib.hid (XB2.out.below hb XB2.out.size)
  have XL3' := Lib.hid (XL3.out.below (hb.mono (by have hs := HS.out; omega)))
  have XA3' := Lib.hid (XA3.out.below hb (by have hs := HS.out; omega))
  have XB3' := Lib.hid (XB3.out.below hb XB3.out.size)
  have HS' := Lib.hid (And.intro hb.size HS.out)
  clear hb HB HX2 HX3 XL1 XA1 XL2 XA2 XB2 XL3 XA3 XB3 HS
  have HB := HB'
  have HX2 := HX2'
  have HX3 := HX3'
  have XL1 := XL1'
  have XA1 := XA1'
  have XL2 := XL2'
  have XA2 := XA2'
  have XB2 := XB2'
  have XL3 := XL3'
  have XA3 := XA3'
  have XB3 := XB3'
  have HS := HS'
  clear HB' HX2' HX3' XL1' XA1' XL2' XA2' XB2' XL3' XA3' XB3' HS'
  go_wp2_with fail
  refine (toDefS_any ds1 A1 c1 _ (HL1.out.up HB.out) hsz1).mono ?_
  rintro e w12 ⟨At1, ct1, rfl, hkt1, hct1, hlt1, halt1, hb⟩
  have HB' := Lib.hid (HB.out.trans (hb.mono HB.out.size))
  have HX2' := Lib.hid (HX2.out.below hb HX2.out.size)
  have HX3' := Lib.hid (HX3.out.below hb HX3.out.size)
  have XL1' := Lib.hid (XL1.out.below (hb.mono (by have hs := HS.out; omega)))
  have XA1' := Lib.hid (XA1.out.below hb (by have hs := HS.out; omega))
  have XL2' := Lib.hid (XL2.out.below (hb.mono (by have hs := HS.out; omega)))
  have XA2' := Lib.hid (XA2.out.below hb (by have hs := HS.out; omega))
  have XB2' := Lib.hid (XB2.out.below hb XB2.out.size)
  have XL3' := Lib.hid (XL3.out.below (hb.mono (by have hs := HS.out; omega)))
  have XA3' := Lib.hid (XA3.out.below hb (by have hs := HS.out; omega))
  have XB3' := Lib.hid (XB3.out.below hb XB3.out.size)
  have HS' := Lib.hid (And.intro hb.size HS.out)
  clear hb HB HX2 HX3 XL1 XA1 XL2 XA2 XB2 XL3 XA3 XB3 HS
  have HB := HB'
  have HX2 := HX2'
  have HX3 := HX3'
  have XL1 := XL1'
  have XA1 := XA1'
  have XL2 := XL2'
  have XA2 := XA2'
  have XB2 := XB2'
  have XL3 := XL3'
  have XA3 := XA3'
  have XB3 := XB3'
  have HS := HS'
  clear HB' HX2' HX3' XL1' XA1' XL2' XA2' XB2' XL3' XA3' XB3' HS'
  go_wp2_with fail
  refine (eqDefS_any ds1 Ax1 At1 cx1 ct1 _ (XL1.out.mono_ (Nat.zero_le _) (by have hs := HS.out; omega)) (hlt1.mono_ (Nat.zero_le _) (Nat.le_refl _)) hsz1).mono ?_
  rintro e w13 ⟨rfl, hb⟩
  clear hlt1 halt1
  have HB' := Lib.hid (HB.out.trans (hb.mono HB.out.size))
  have HX2' := Lib.hid (HX2.out.below hb HX2.out.size)
  have HX3' := Lib.hid (HX3.out.below hb HX3.out.size)
  have XL1' := Lib.hid (XL1.out.below (hb.mono (by have hs := HS.out; omega)))
  have XA1' := Lib.hid (XA1.out.below hb (by have hs := HS.out; omega))
  have XL2' := Lib.hid (XL2.out.below (hb.mono (by have hs := HS.out; omega)))
  have XA2' := Lib.hid (XA2.out.below hb (by have hs := HS.out; omega))
  have XB2' := Lib.hid (XB2.out.below hb XB2.out.size)
  have XL3' := Lib.hid (XL3.out.below (hb.mono (by have hs := HS.out; omega)))
  have XA3' := Lib.hid (XA3.out.below hb (by have hs := HS.out; omega))
  have XB3' := Lib.hid (XB3.out.below hb XB3.out.size)
  have HS' := Lib.hid (And.intro hb.size HS.out)
  clear hb HB HX2 HX3 XL1 XA1 XL2 XA2 XB2 XL3 XA3 XB3 HS
  have HB := HB'
  have HX2 := HX2'
  have HX3 := HX3'
  have XL1 := XL1'
  have XA1 := XA1'
  have XL2 := XL2'
  have XA2 := XA2'
  have XB2 := XB2'
  have XL3 := XL3'
  have XA3 := XA3'
  have XB3 := XB3'
  have HS := HS'
  clear HB' HX2' HX3' XL1' XA1' XL2' XA2' XB2' XL3' XA3' XB3' HS'
  have qXB2_0 := XB2.out.cell (i := 0) rfl
  have qXB2_1 := XB2.out.cell (i := 1) rfl
  have qXB2_2 := XB2.out.cell (i := 2) rfl
  have qHX2_0 := HX2.out.cell (i := 0) rfl
  have qHX2_1 := HX2.out.cell (i := 1) rfl
  have qHX2_2 := HX2.out.cell (i := 2) rfl
  go_wp2_with fail
  have hb : Below w13.heap.size w13 w13.drew := (Below.refl _ _).drew
  have HB' := Lib.hid (HB.out.trans (hb.mono HB.out.size))
  have HX2' := Lib.hid (HX2.out.below hb HX2.out.size)
  have HX3' := Lib.hid (HX3.out.below hb HX3.out.size)
  have XL1' := Lib.hid (XL1.out.below (hb.mono (by have hs := HS.out; omega)))
  have XA1' := Lib.hid (XA1.out.below hb (by have hs := HS.out; omega))
  have XL2' := Lib.hid (XL2.out.below (hb.mono (by have hs := HS.out; omega)))
  have XA2' := Lib.hid (XA2.out.below hb (by have hs := HS.out; omega))
  have XB2' := Lib.hid (XB2.out.below hb XB2.out.size)
  have XL3' := Lib.hid (XL3.out.below (hb.mono (by have hs := HS.out; omega)))
  have XA3' := Lib.hid (XA3.out.below hb (by have hs := HS.out; omega))
  have XB3' := Lib.hid (XB3.out.below hb XB3.out.size)
  have HS' := Lib.hid (And.intro hb.size HS.out)
  clear hb HB HX2 HX3 XL1 XA1 XL2 XA2 XB2 XL3 XA3 XB3 HS
  have HB := HB'
  have HX2 := HX2'
  have HX3 := HX3'
  have XL1 := XL1'
  have XA1 := XA1'
  have XL2 := XL2'
  have XA2 := XA2'
  have XB2 := XB2'
  have XL3 := XL3'
  have XA3 := XA3'
  have XB3 := XB3'
  have HS := HS'
  clear HB' HX2' HX3' XL1' XA1' XL2' XA2' XB2' XL3' XA3' XB3' HS'
  go_region_held3 (fun w' => w'.cell? ⟨w9.heap.size, 0, none⟩ = some (Value.int IntKind.i64 op2) ∧ w'.cell? ⟨w9.heap.size, 1, none⟩ = some (Value.int IntKind.i64 n2) ∧ w'.cell? ⟨w9.heap.size, 2, none⟩ = some (Value.slice Ax2 k2.len cx2) ∧ w'.cell? ⟨w.heap.size, 0, none⟩ = some (Value.int IntKind.i64 op2) ∧ w'.cell? ⟨w.heap.size, 1, none⟩ = some (Value.int IntKind.i64 n2) ∧ w'.cell? ⟨w.heap.size, 2, none⟩ = some (Value.slice A2 k2.len c2))
    (first | exact ⟨qXB2_0, qXB2_1, qXB2_2, qHX2_0, qHX2_1, qHX2_2⟩ | exact ⟨y0XB2_0, y0XB2_1, y0XB2_2, y0HX2_0, y0HX2_1, y0HX2_2⟩ | exact ⟨y1XB2_0, y1XB2_1, y1XB2_2, y1HX2_0, y1HX2_1, y1HX2_2⟩)
    (first
      | (go_at_call 12
         refine (eqExpr_any op2 n2 k2 Ax2 At2 cx2 ct2 _ ((XL2.out.mono_ (Nat.zero_le _) (by have hs := HS.out; omega)).up hb14) (hlt2.mono_ (Nat.zero_le _) (Nat.le_refl _)) hsz2).mono ?_
         rintro e w15 ⟨rfl, hb15⟩
         have y1XB2_0 := (hb15.cell (p := ⟨w9.heap.size, 0, none⟩) (show w9.heap.size < w14.heap.size by have hs := HS.out; have zhb14 := hb14.size; omega)).trans y0XB2_0
         have y1XB2_1 := (hb15.cell (p := ⟨w9.heap.size, 1, none⟩) (show w9.heap.size < w14.heap.size by have hs := HS.out; have zhb14 := hb14.size; omega)).trans y0XB2_1
         have y1XB2_2 := (hb15.cell (p := ⟨w9.heap.size, 2, none⟩) (show w9.heap.size < w14.heap.size by have hs := HS.out; have zhb14 := hb14.size; omega)).trans y0XB2_2
         have y1HX2_0 := (hb15.cell (p := ⟨w.heap.size, 0, none⟩) (show w.heap.size < w14.heap.size by have hs := HS.out; have zhb14 := hb14.size; omega)).trans y0HX2_0
         have y1HX2_1 := (hb15.cell (p := ⟨w.heap.size, 1, none⟩) (show w.heap.size < w14.heap.size by have hs := HS.out; have zhb14 := hb14.size; omega)).trans y0HX2_1
         have y1HX2_2 := (hb15.cell (p := ⟨w.heap.size, 2, none⟩) (show w.heap.size < w14.heap.size by have hs := HS.out; have zhb14 := hb14.size; omega)).trans y0HX2_2)
      | (go_at_call 9
         refine (toExpr_any op2 n2 k2 A2 c2 _ (HL2.out.up HB.out) hsz2).mono ?_
         rintro e w14 ⟨At2, ct2, rfl, hkt2, hct2, hlt2, halt2, hb14⟩
         have y0XB2_0 := (hb14.cell (p := ⟨w9.heap.size, 0, none⟩) (show w9.heap.size < w13.drew.heap.size by have hs := HS.out; omega)).trans qXB2_0
         have y0XB2_1 := (hb14.cell (p := ⟨w9.heap.size, 1, none⟩) (show w9.heap.size < w13.drew.heap.size by have hs := HS.out; omega)).trans qXB2_1
         have y0XB2_2 := (hb14.cell (p := ⟨w9.heap.size, 2, none⟩) (show w9.heap.size < w13.drew.heap.size by have hs := HS.out; omega)).trans qXB2_2
         have y0HX2_0 := (hb14.cell (p := ⟨w.heap.size, 0, none⟩) (show w.heap.size < w13.drew.heap.size by have hs := HS.out; omega)).trans qHX2_0
         have y0HX2_1 := (hb14.cell (p := ⟨w.heap.size, 1, none⟩) (show w.heap.size < w13.drew.heap.size by have hs := HS.out; omega)).trans qHX2_1
         have y0HX2_2 := (hb14.cell (p := ⟨w.heap.size, 2, none⟩) (show w.heap.size < w13.drew.heap.size by have hs := HS.out; omega)).trans qHX2_2))
  have hb : Below w13.drew.heap.size w13.drew w15 := (hb14).trans (hb15.mono (hb14.size))
  clear hb14 hb15 hlt2 halt2 qXB2_0 qXB2_1 qXB2_2 qHX2_0 qHX2_1 qHX2_2 y0XB2_0 y0XB2_1 y0XB2_2 y0HX2_0 y0HX2_1 y0HX2_2 y1XB2_0 y1XB2_1 y1XB2_2 y1HX2_0 y1HX2_1 y1HX2_2
  have HB' := Lib.hid (HB.out.trans (hb.mono HB.out.size))
  have HX2' := Lib.hid (HX2.out.below hb HX2.out.size)
  have HX3' := Lib.hid (HX3.out.below hb HX3.out.size)
  have XL1' := Lib.hid (XL1.out.below (hb.mono (by have hs := HS.out; omega)))
  have XA1' := Lib.hid (XA1.out.below hb (by have hs := HS.out; omega))
  have XL2' := Lib.hid (XL2.out.below (hb.mono (by have hs := HS.out; omega)))
  have XA2' := Lib.hid (XA2.out.below hb (by have hs := HS.out; omega))
  have XB2' := Lib.hid (XB2.out.below hb XB2.out.size)
  have XL3' := Lib.hid (XL3.out.below (hb.mono (by have hs := HS.out; omega)))
  have XA3' := Lib.hid (XA3.out.below hb (by have hs := HS.out; omega))
  have XB3' := Lib.hid (XB3.out.below hb XB3.out.size)
  have HS' := Lib.hid (And.intro hb.size HS.out)
  clear hb HB HX2 HX3 XL1 XA1 XL2 XA2 XB2 XL3 XA3 XB3 HS
  have HB := HB'
  have HX2 := HX2'
  have HX3 := HX3'
  have XL1 := XL1'
  have XA1 := XA1'
  have XL2 := XL2'
  have XA2 := XA2'
  have XB2 := XB2'
  have XL3 := XL3'
  have XA3 := XA3'
  have XB3 := XB3'
  have HS := HS'
  clear HB' HX2' HX3' XL1' XA1' XL2' XA2' XB2' XL3' XA3' XB3' HS'
  have qXB3_0 := XB3.out.cell (i := 0) rfl
  have qXB3_1 := XB3.out.cell (i := 1) rfl
  have qXB3_2 := XB3.out.cell (i := 2) rfl
  have qHX3_0 := HX3.out.cell (i := 0) rfl
  have qHX3_1 := HX3.out.cell (i := 1) rfl
  have qHX3_2 := HX3.out.cell (i := 2) rfl
  go_wp2_with fail
  have hb : Below w15.heap.size w15 w15.drew := (Below.refl _ _).drew
  have HB' := Lib.hid (HB.out.trans (hb.mono HB.out.size))
  have HX2' := Lib.hid (HX2.out.below hb HX2.out.size)
  have HX3' := Lib.hid (HX3.out.below hb HX3.out.size)
  have XL1' := Lib.hid (XL1.out.below (hb.mono (by have hs := HS.out; omega)))
  have XA1' := Lib.hid (XA1.out.below hb (by have hs := HS.out; omega))
  have XL2' := Lib.hid (XL2.out.below (hb.mono (by have hs := HS.out; omega)))
  have XA2' := Lib.hid (XA2.out.below hb (by have hs := HS.out; omega))
  have XB2' := Lib.hid (XB2.out.below hb XB2.out.size)
  have XL3' := Lib.hid (XL3.out.below (hb.mono (by have hs := HS.out; omega)))
  have XA3' := Lib.hid (XA3.out.below hb (by have hs := HS.out; omega))
  have XB3' := Lib.hid (XB3.out.below hb XB3.out.size)
  have HS' := Lib.hid (And.intro hb.size HS.out)
  clear hb HB HX2 HX3 XL1 XA1 XL2 XA2 XB2 XL3 XA3 XB3 HS
  have HB := HB'
  have HX2 := HX2'
  have HX3 := HX3'
  have XL1 := XL1'
  have XA1 := XA1'
  have XL2 := XL2'
  have XA2 := XA2'
  have XB2 := XB2'
  have XL3 := XL3'
  have XA3 := XA3'
  have XB3 := XB3'
  have HS := HS'
  clear HB' HX2' HX3' XL1' XA1' XL2' XA2' XB2' XL3' XA3' XB3' HS'
  go_region_held3 (fun w' => w'.cell? ⟨w10.heap.size, 0, none⟩ = some (Value.int IntKind.i64 op3) ∧ w'.cell? ⟨w10.heap.size, 1, none⟩ = some (Value.int IntKind.i64 n3) ∧ w'.cell? ⟨w10.heap.size, 2, none⟩ = some (Value.slice Ax3 k3.len cx3) ∧ w'.cell? ⟨w.heap.size + 1, 0, none⟩ = some (Value.int IntKind.i64 op3) ∧ w'.cell? ⟨w.heap.size + 1, 1, none⟩ = some (Value.int IntKind.i64 n3) ∧ w'.cell? ⟨w.heap.size + 1, 2, none⟩ = some (Value.slice A3 k3.len c3))
    (first | exact ⟨qXB3_0, qXB3_1, qXB3_2, qHX3_0, qHX3_1, qHX3_2⟩ | exact ⟨y0XB3_0, y0XB3_1, y0XB3_2, y0HX3_0, y0HX3_1, y0HX3_2⟩ | exact ⟨y1XB3_0, y1XB3_1, y1XB3_2, y1HX3_0, y1HX3_1, y1HX3_2⟩)
    (first
      | (go_at_call 12
         refine (eqExpr_any op3 n3 k3 Ax3 At3 cx3 ct3 _ ((XL3.out.mono_ (Nat.zero_le _) (by have hs := HS.out; omega)).up hb16) (hlt3.mono_ (Nat.zero_le _) (Nat.le_refl _)) hsz3).mono ?_
         rintro e w17 ⟨rfl, hb17⟩
         have y1XB3_0 := (hb17.cell (p := ⟨w10.heap.size, 0, none⟩) (show w10.heap.size < w16.heap.size by have hs := HS.out; have zhb16 := hb16.size; omega)).trans y0XB3_0
         have y1XB3_1 := (hb17.cell (p := ⟨w10.heap.size, 1, none⟩) (show w10.heap.size < w16.heap.size by have hs := HS.out; have zhb16 := hb16.size; omega)).trans y0XB3_1
         have y1XB3_2 := (hb17.cell (p := ⟨w10.heap.size, 2, none⟩) (show w10.heap.size < w16.heap.size by have hs := HS.out; have zhb16 := hb16.size; omega)).trans y0XB3_2
         have y1HX3_0 := (hb17.cell (p := ⟨w.heap.size + 1, 0, none⟩) (show w.heap.size + 1 < w16.heap.size by have hs := HS.out; have zhb16 := hb16.size; omega)).trans y0HX3_0
         have y1HX3_1 := (hb17.cell (p := ⟨w.heap.size + 1, 1, none⟩) (show w.heap.size + 1 < w16.heap.size by have hs := HS.out; have zhb16 := hb16.size; omega)).trans y0HX3_1
         have y1HX3_2 := (hb17.cell (p := ⟨w.heap.size + 1, 2, none⟩) (show w.heap.size + 1 < w16.heap.size by have hs := HS.out; have zhb16 := hb16.size; omega)).trans y0HX3_2)
      | (go_at_call 9
         refine (toExpr_any op3 n3 k3 A3 c3 _ (HL3.out.up HB.out) hsz3).mono ?_
         rintro e w16 ⟨At3, ct3, rfl, hkt3, hct3, hlt3, halt3, hb16⟩
         have y0XB3_0 := (hb16.cell (p := ⟨w10.heap.size, 0, none⟩) (show w10.heap.size < w15.drew.heap.size by have hs := HS.out; omega)).trans qXB3_0
         have y0XB3_1 := (hb16.cell (p := ⟨w10.heap.size, 1, none⟩) (show w10.heap.size < w15.drew.heap.size by have hs := HS.out; omega)).trans qXB3_1
         have y0XB3_2 := (hb16.cell (p := ⟨w10.heap.size, 2, none⟩) (show w10.heap.size < w15.drew.heap.size by have hs := HS.out; omega)).trans qXB3_2
         have y0HX3_0 := (hb16.cell (p := ⟨w.heap.size + 1, 0, none⟩) (show w.heap.size + 1 < w15.drew.heap.size by have hs := HS.out; omega)).trans qHX3_0
         have y0HX3_1 := (hb16.cell (p := ⟨w.heap.size + 1, 1, none⟩) (show w.heap.size + 1 < w15.drew.heap.size by have hs := HS.out; omega)).trans qHX3_1
         have y0HX3_2 := (hb16.cell (p := ⟨w.heap.size + 1, 2, none⟩) (show w.heap.size + 1 < w15.drew.heap.size by have hs := HS.out; omega)).trans qHX3_2))
  have hb : Below w15.drew.heap.size w15.drew w17 := (hb16).trans (hb17.mono (hb16.size))
  clear hb16 hb17 hlt3 halt3 qXB3_0 qXB3_1 qXB3_2 qHX3_0 qHX3_1 qHX3_2 y0XB3_0 y0XB3_1 y0XB3_2 y0HX3_0 y0HX3_1 y0HX3_2 y1XB3_0 y1XB3_1 y1XB3_2 y1HX3_0 y1HX3_1 y1HX3_2
  have HB' := Lib.hid (HB.out.trans (hb.mono HB.out.size))
  have HX2' := Lib.hid (HX2.out.below hb HX2.out.size)
  have HX3' := Lib.hid (HX3.out.below hb HX3.out.size)
  have XL1' := Lib.hid (XL1.out.below (hb.mono (by have hs := HS.out; omega)))
  have XA1' := Lib.hid (XA1.out.below hb (by have hs := HS.out; omega))
  have XL2' := Lib.hid (XL2.out.below (hb.mono (by have hs := HS.out; omega)))
  have XA2' := Lib.hid (XA2.out.below hb (by have hs := HS.out; omega))
  have XB2' := Lib.hid (XB2.out.below hb XB2.out.size)
  have XL3' := Lib.hid (XL3.out.below (hb.mono (by have hs := HS.out; omega)))
  have XA3' := Lib.hid (XA3.out.below hb (by have hs := HS.out; omega))
  have XB3' := Lib.hid (XB3.out.below hb XB3.out.size)
  have HS' := Lib.hid (And.intro hb.size HS.out)
  clear hb HB HX2 HX3 XL1 XA1 XL2 XA2 XB2 XL3 XA3 XB3 HS
  have HB := HB'
  have HX2 := HX2'
  have HX3 := HX3'
  have XL1 := XL1'
  have XA1 := XA1'
  have XL2 := XL2'
  have XA2 := XA2'
  have XB2 := XB2'
  have XL3 := XL3'
  have XA3 := XA3'
  have XB3 := XB3'
  have HS := HS'
  clear HB' HX2' HX3' XL1' XA1' XL2' XA2' XB2' XL3' XA3' XB3' HS'
  go_wp2
  go_ret
  exact ⟨rfl, HB.out⟩
end Go.Proofs.Ytfjhanfmcoebfaa
