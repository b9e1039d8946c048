/-
  The walk of the law FnExactSameNames: true at every argument (made by gen_law.py).
-/
import Derived.Test.YtkjgnfpedponlaaNamesS
import Derived.Test.YtkjgnfpedponlaaNamesI
import Derived.Test.YtkjgnfpedponlaaTools
import Derived.Test.YtkjgnfpedponlaaFo
import Derived.Deep.RegionHeld3
namespace Go.Proofs.Ytkjgnfpedponlaa
open Go.RowKit
set_option maxRecDepth 100000

set_option maxHeartbeats 2000000 in
theorem law_SameNames (op1 n1 : Int) (k1 : Fo) (A1 : Option Addr) (c1 : Nat) (op2 n2 : Int) (k2 : Fo) (A2 : Option Addr) (c2 : Nat) (w : World) (hl1 : Lies w 0 w.heap.size A1 0 k1) (hlen1 : k1.len ≤ maxLen) (hl2 : Lies w 0 w.heap.size A2 0 k2) (hlen2 : k2.len ≤ maxLen) :
    Calls Try.prog 5 #[.agg #[.int .i64 op1, .int .i64 n1, .slice A1 k1.len c1], .agg #[.int .i64 op2, .int .i64 n2, .slice A2 k2.len c2]] w (Gives (.bool true) w) := by
  obtain ⟨z, hz⟩ : ∃ z, namesB op1 n1 k1 op2 n2 k2 = z := ⟨_, rfl⟩
  have HZz := Lib.hid hz
  clear hz
  obtain ⟨hb, r1, r2⟩ := two_boxes w 24 24 #[Value.int IntKind.i64 op1, Value.int IntKind.i64 n1, Value.slice A1 k1.len c1] #[Value.int IntKind.i64 op2, Value.int IntKind.i64 n2, Value.slice A2 k2.len c2]
  have HX1 := Lib.hid r1
  have HX2 := Lib.hid r2
  clear r1 r2
  have HB := Lib.hid hb
  have HS := Lib.hid (And.intro hb.size (show w.heap.size + 2 ≤ ((w.alloc (Obj.cells #[Value.int IntKind.i64 op1, Value.int IntKind.i64 n1, Value.slice A1 k1.len c1] 24)).alloc (Obj.cells #[Value.int IntKind.i64 op2, Value.int IntKind.i64 n2, Value.slice A2 k2.len c2] 24)).heap.size from by simp))
  clear hb
  have HL1 := Lib.hid hl1
  clear hl1
  have HL2 := Lib.hid hl2
  clear hl2
  go_enter Try.func5, Try.ntmps5
  go_wp2_with fail
  refine (szExpr_any op1 n1 k1 A1 c1 _ 1048576 (HL1.out.up HB.out) hlen1 (by decide) (by decide)).mono ?_
  rintro e w1 ⟨r1, rfl, hr1, hb⟩
  have HB' := Lib.hid (HB.out.trans (hb.mono HB.out.size))
  have HX1' := Lib.hid (HX1.out.below hb HX1.out.size)
  have HX2' := Lib.hid (HX2.out.below hb HX2.out.size)
  have HS' := Lib.hid (And.intro hb.size HS.out)
  clear hb HB HX1 HX2 HS
  have HB := HB'
  have HX1 := HX1'
  have HX2 := HX2'
  have HS := HS'
  clear HB' HX1' HX2' HS'
  rcases hr1 with rfl | ⟨hrz1, hr1⟩
  · go_wp2
    go_ret
    exact ⟨rfl, HB.out⟩
  have hsz1 : k1.size ≤ 1048576 := by omega
  have hrb1 : r1 ≤ 1048576 := by omega
  clear hr1
  have qHX2_0 := HX2.out.cell (i := 0) rfl
  have qHX2_1 := HX2.out.cell (i := 1) rfl
  have qHX2_2 := HX2.out.cell (i := 2) rfl
  go_wp2_with fail
  refine (szExpr_any op2 n2 k2 A2 c2 _ r1 (HL2.out.up HB.out) hlen2 hrz1 hrb1).mono ?_
  rintro e w2 ⟨r2, rfl, hr2, hb⟩
  clear qHX2_0 qHX2_1 qHX2_2
  have HB' := Lib.hid (HB.out.trans (hb.mono HB.out.size))
  have HX1' := Lib.hid (HX1.out.below hb HX1.out.size)
  have HX2' := Lib.hid (HX2.out.below hb HX2.out.size)
  have HS' := Lib.hid (And.intro hb.size HS.out)
  clear hb HB HX1 HX2 HS
  have HB := HB'
  have HX1 := HX1'
  have HX2 := HX2'
  have HS := HS'
  clear HB' HX1' HX2' HS'
  rcases hr2 with rfl | ⟨hrz2, hr2⟩
  · go_wp2
    go_ret
    exact ⟨rfl, HB.out⟩
  have hsz2 : k2.size ≤ 1048576 := by omega
  have hrb2 : r2 ≤ 1048576 := by omega
  clear hr2
  have qHX1_0 := HX1.out.cell (i := 0) rfl
  have qHX1_1 := HX1.out.cell (i := 1) rfl
  have qHX1_2 := HX1.out.cell (i := 2) rfl
  have qHX2_0 := HX2.out.cell (i := 0) rfl
  have qHX2_1 := HX2.out.cell (i := 1) rfl
  have qHX2_2 := HX2.out.cell (i := 2) rfl
  go_wp2_with fail
  have hb : Below w2.heap.size w2 w2.drew := (Below.refl _ _).drew
  have HB' := Lib.hid (HB.out.trans (hb.mono HB.out.size))
  have HX1' := Lib.hid (HX1.out.below hb HX1.out.size)
  have HX2' := Lib.hid (HX2.out.below hb HX2.out.size)
  have HS' := Lib.hid (And.intro hb.size HS.out)
  clear hb HB HX1 HX2 HS
  have HB := HB'
  have HX1 := HX1'
  have HX2 := HX2'
  have HS := HS'
  clear HB' HX1' HX2' HS'
  go_region_held3 (fun w' => w'.cell? ⟨w.heap.size, 0, none⟩ = some (Value.int IntKind.i64 op1) ∧ w'.cell? ⟨w.heap.size, 1, none⟩ = some (Value.int IntKind.i64 n1) ∧ w'.cell? ⟨w.heap.size, 2, none⟩ = some (Value.slice A1 k1.len c1) ∧ w'.cell? ⟨w.heap.size + 1, 0, none⟩ = some (Value.int IntKind.i64 op2) ∧ w'.cell? ⟨w.heap.size + 1, 1, none⟩ = some (Value.int IntKind.i64 n2) ∧ w'.cell? ⟨w.heap.size + 1, 2, none⟩ = some (Value.slice A2 k2.len c2))
    (first | exact ⟨qHX1_0, qHX1_1, qHX1_2, qHX2_0, qHX2_1, qHX2_2⟩ | exact ⟨y0HX1_0, y0HX1_1, y0HX1_2, y0HX2_0, y0HX2_1, y0HX2_2⟩ | exact ⟨y1HX1_0, y1HX1_1, y1HX1_2, y1HX2_0, y1HX2_1, y1HX2_2⟩ | exact ⟨y2HX1_0, y2HX1_1, y2HX1_2, y2HX2_0, y2HX2_1, y2HX2_2⟩)
    (first
      | (go_at_call 15
         refine (specNames_any op1 n1 op2 n2 k1 k2 As1 As2 cs1 cs2 _ ((hls1.mono_ (Nat.zero_le _) (Nat.le_refl _)).up hb4) (hls2.mono_ (Nat.zero_le _) (Nat.le_refl _)) (Nat.le_trans hks1 hcs1) (Nat.le_trans hks2 hcs2)).mono ?_
         rintro e w5 ⟨rfl, hb5⟩
         rw [HZz.out]
         have y2HX1_0 := (hb5.cell (p := ⟨w.heap.size, 0, none⟩) (show w.heap.size < w4.heap.size by have hs := HS.out; have zhb3 := hb3.size; have zhb4 := hb4.size; omega)).trans y1HX1_0
         have y2HX1_1 := (hb5.cell (p := ⟨w.heap.size, 1, none⟩) (show w.heap.size < w4.heap.size by have hs := HS.out; have zhb3 := hb3.size; have zhb4 := hb4.size; omega)).trans y1HX1_1
         have y2HX1_2 := (hb5.cell (p := ⟨w.heap.size, 2, none⟩) (show w.heap.size < w4.heap.size by have hs := HS.out; have zhb3 := hb3.size; have zhb4 := hb4.size; omega)).trans y1HX1_2
         have y2HX2_0 := (hb5.cell (p := ⟨w.heap.size + 1, 0, none⟩) (show w.heap.size + 1 < w4.heap.size by have hs := HS.out; have zhb3 := hb3.size; have zhb4 := hb4.size; omega)).trans y1HX2_0
         have y2HX2_1 := (hb5.cell (p := ⟨w.heap.size + 1, 1, none⟩) (show w.heap.size + 1 < w4.heap.size by have hs := HS.out; have zhb3 := hb3.size; have zhb4 := hb4.size; omega)).trans y1HX2_1
         have y2HX2_2 := (hb5.cell (p := ⟨w.heap.size + 1, 2, none⟩) (show w.heap.size + 1 < w4.heap.size by have hs := HS.out; have zhb3 := hb3.size; have zhb4 := hb4.size; omega)).trans y1HX2_2)
      | (go_at_call 8
         refine (toExpr_any op2 n2 k2 A2 c2 _ (HL2.out.up (HB.out.trans (hb3.mono (HB.out).size))) hsz2).mono ?_
         rintro e w4 ⟨As2, cs2, rfl, hks2, hcs2, hls2, hals2, hb4⟩
         have y1HX1_0 := (hb4.cell (p := ⟨w.heap.size, 0, none⟩) (show w.heap.size < w3.heap.size by have hs := HS.out; have zhb3 := hb3.size; omega)).trans y0HX1_0
         have y1HX1_1 := (hb4.cell (p := ⟨w.heap.size, 1, none⟩) (show w.heap.size < w3.heap.size by have hs := HS.out; have zhb3 := hb3.size; omega)).trans y0HX1_1
         have y1HX1_2 := (hb4.cell (p := ⟨w.heap.size, 2, none⟩) (show w.heap.size < w3.heap.size by have hs := HS.out; have zhb3 := hb3.size; omega)).trans y0HX1_2
         have y1HX2_0 := (hb4.cell (p := ⟨w.heap.size + 1, 0, none⟩) (show w.heap.size + 1 < w3.heap.size by have hs := HS.out; have zhb3 := hb3.size; omega)).trans y0HX2_0
         have y1HX2_1 := (hb4.cell (p := ⟨w.heap.size + 1, 1, none⟩) (show w.heap.size + 1 < w3.heap.size by have hs := HS.out; have zhb3 := hb3.size; omega)).trans y0HX2_1
         have y1HX2_2 := (hb4.cell (p := ⟨w.heap.size + 1, 2, none⟩) (show w.heap.size + 1 < w3.heap.size by have hs := HS.out; have zhb3 := hb3.size; omega)).trans y0HX2_2)
      | (go_at_call 8
         refine (toExpr_any op1 n1 k1 A1 c1 _ (HL1.out.up HB.out) hsz1).mono ?_
         rintro e w3 ⟨As1, cs1, rfl, hks1, hcs1, hls1, hals1, hb3⟩
         have y0HX1_0 := (hb3.cell (p := ⟨w.heap.size, 0, none⟩) (show w.heap.size < w2.drew.heap.size by have hs := HS.out; omega)).trans qHX1_0
         have y0HX1_1 := (hb3.cell (p := ⟨w.heap.size, 1, none⟩) (show w.heap.size < w2.drew.heap.size by have hs := HS.out; omega)).trans qHX1_1
         have y0HX1_2 := (hb3.cell (p := ⟨w.heap.size, 2, none⟩) (show w.heap.size < w2.drew.heap.size by have hs := HS.out; omega)).trans qHX1_2
         have y0HX2_0 := (hb3.cell (p := ⟨w.heap.size + 1, 0, none⟩) (show w.heap.size + 1 < w2.drew.heap.size by have hs := HS.out; omega)).trans qHX2_0
         have y0HX2_1 := (hb3.cell (p := ⟨w.heap.size + 1, 1, none⟩) (show w.heap.size + 1 < w2.drew.heap.size by have hs := HS.out; omega)).trans qHX2_1
         have y0HX2_2 := (hb3.cell (p := ⟨w.heap.size + 1, 2, none⟩) (show w.heap.size + 1 < w2.drew.heap.size by have hs := HS.out; omega)).trans qHX2_2))
  have hb : Below w2.drew.heap.size w2.drew w5 := ((hb3).trans (hb4.mono (hb3.size))).trans (hb5.mono (Nat.le_trans (hb3.size) hb4.size))
  have HB' := Lib.hid (HB.out.trans (hb.mono HB.out.size))
  have HX1' := Lib.hid (HX1.out.below hb HX1.out.size)
  have HX2' := Lib.hid (HX2.out.below hb HX2.out.size)
  have HS' := Lib.hid (And.intro hb.size HS.out)
  clear hb HB HX1 HX2 HS
  have HB := HB'
  have HX1 := HX1'
  have HX2 := HX2'
  have HS := HS'
  clear HB' HX1' HX2' HS'
  clear hb3 hb4 hb5 hls1 hals1 hls2 hals2 qHX1_0 qHX1_1 qHX1_2 qHX2_0 qHX2_1 qHX2_2 y2HX1_0 y2HX1_1 y2HX1_2 y2HX2_0 y2HX2_1 y2HX2_2 y1HX1_0 y1HX1_1 y1HX1_2 y1HX2_0 y1HX2_1 y1HX2_2 y0HX1_0 y0HX1_1 y0HX1_2 y0HX2_0 y0HX2_1 y0HX2_2
  have qHX1_0 := HX1.out.cell (i := 0) rfl
  have qHX1_1 := HX1.out.cell (i := 1) rfl
  have qHX1_2 := HX1.out.cell (i := 2) rfl
  go_wp2_with fail
  refine (toExpr_any op1 n1 k1 A1 c1 _ (HL1.out.up HB.out) hsz1).mono ?_
  rintro e w6 ⟨Ax1, cx1, rfl, hkx1, hcx1, hlx1, halx1, hb⟩
  clear qHX1_0 qHX1_1 qHX1_2
  have HB' := Lib.hid (HB.out.trans (hb.mono HB.out.size))
  have HX1' := Lib.hid (HX1.out.below hb HX1.out.size)
  have HX2' := Lib.hid (HX2.out.below hb HX2.out.size)
  have HS' := Lib.hid (And.intro hb.size HS.out)
  clear hb HB HX1 HX2 HS
  have HB := HB'
  have HX1 := HX1'
  have HX2 := HX2'
  have HS := HS'
  clear HB' HX1' HX2' HS'
  have XL1 := Lib.hid hlx1
  have XA1 := Lib.hid halx1
  clear hlx1 halx1
  obtain ⟨hb, r1⟩ := one_box w6 28 #[Value.int IntKind.i64 op1, Value.int IntKind.i64 n1, Value.slice Ax1 k1.len cx1]
  have HB' := Lib.hid (HB.out.trans (hb.mono HB.out.size))
  have HX1' := Lib.hid (HX1.out.below hb HX1.out.size)
  have HX2' := Lib.hid (HX2.out.below hb HX2.out.size)
  have XL1' := Lib.hid (XL1.out.below (hb.mono (by have hs := HS.out; omega)))
  have XA1' := Lib.hid (XA1.out.below hb (by have hs := HS.out; omega))
  have HS' := Lib.hid (And.intro hb.size HS.out)
  clear hb HB HX1 HX2 XL1 XA1 HS
  have HB := HB'
  have HX1 := HX1'
  have HX2 := HX2'
  have XL1 := XL1'
  have XA1 := XA1'
  have HS := HS'
  clear HB' HX1' HX2' XL1' XA1' HS'
  have XB1 := Lib.hid r1
  have HS' := Lib.hid (And.intro (show w6.heap.size + 1 ≤ (w6.alloc (Obj.cells #[Value.int IntKind.i64 op1, Value.int IntKind.i64 n1, Value.slice Ax1 k1.len cx1] 28)).heap.size from by simp) HS.out)
  clear HS r1
  have HS := HS'
  clear HS'
  have qHX2_0 := HX2.out.cell (i := 0) rfl
  have qHX2_1 := HX2.out.cell (i := 1) rfl
  have qHX2_2 := HX2.out.cell (i := 2) rfl
  go_wp2_with fail
  refine (toExpr_any op2 n2 k2 A2 c2 _ (HL2.out.up HB.out) hsz2).mono ?_
  rintro e w7 ⟨Ax2, cx2, rfl, hkx2, hcx2, hlx2, halx2, hb⟩
  clear qHX2_0 qHX2_1 qHX2_2
  have HB' := Lib.hid (HB.out.trans (hb.mono HB.out.size))
  have HX1' := Lib.hid (HX1.out.below hb HX1.out.size)
  have HX2' := Lib.hid (HX2.out.below hb HX2.out.size)
  have XL1' := Lib.hid (XL1.out.below (hb.mono (by have hs := HS.out; omega)))
  have XA1' := Lib.hid (XA1.out.below hb (by have hs := HS.out; omega))
  have XB1' := Lib.hid (XB1.out.below hb XB1.out.size)
  have HS' := Lib.hid (And.intro hb.size HS.out)
  clear hb HB HX1 HX2 XL1 XA1 XB1 HS
  have HB := HB'
  have HX1 := HX1'
  have HX2 := HX2'
  have XL1 := XL1'
  have XA1 := XA1'
  have XB1 := XB1'
  have HS := HS'
  clear HB' HX1' HX2' XL1' XA1' XB1' HS'
  have XL2 := Lib.hid hlx2
  have XA2 := Lib.hid halx2
  clear hlx2 halx2
  obtain ⟨hb, r1⟩ := one_box w7 28 #[Value.int IntKind.i64 op2, Value.int IntKind.i64 n2, Value.slice Ax2 k2.len cx2]
  have HB' := Lib.hid (HB.out.trans (hb.mono HB.out.size))
  have HX1' := Lib.hid (HX1.out.below hb HX1.out.size)
  have HX2' := Lib.hid (HX2.out.below hb HX2.out.size)
  have XL1' := Lib.hid (XL1.out.below (hb.mono (by have hs := HS.out; omega)))
  have XA1' := Lib.hid (XA1.out.below hb (by have hs := HS.out; omega))
  have XB1' := Lib.hid (XB1.out.below hb XB1.out.size)
  have XL2' := Lib.hid (XL2.out.below (hb.mono (by have hs := HS.out; omega)))
  have XA2' := Lib.hid (XA2.out.below hb (by have hs := HS.out; omega))
  have HS' := Lib.hid (And.intro hb.size HS.out)
  clear hb HB HX1 HX2 XL1 XA1 XB1 XL2 XA2 HS
  have HB := HB'
  have HX1 := HX1'
  have HX2 := HX2'
  have XL1 := XL1'
  have XA1 := XA1'
  have XB1 := XB1'
  have XL2 := XL2'
  have XA2 := XA2'
  have HS := HS'
  clear HB' HX1' HX2' XL1' XA1' XB1' XL2' XA2' HS'
  have XB2 := Lib.hid r1
  have HS' := Lib.hid (And.intro (show w7.heap.size + 1 ≤ (w7.alloc (Obj.cells #[Value.int IntKind.i64 op2, Value.int IntKind.i64 n2, Value.slice Ax2 k2.len cx2] 28)).heap.size from by simp) HS.out)
  clear HS r1
  have HS := HS'
  clear HS'
  have HC := Lib.hid (implNames_any op1 n1 op2 n2 k1 k2 Ax1 Ax2 cx1 cx2 (w7.alloc (Obj.cells #[Value.int IntKind.i64 op2, Value.int IntKind.i64 n2, Value.slice Ax2 k2.len cx2] 28)) (XL1.out.mono_ (Nat.zero_le _) (by have hs := HS.out; omega)) (XL2.out.mono_ (Nat.zero_le _) (by have hs := HS.out; omega)) (Nat.le_trans hkx1 hcx1) (Nat.le_trans hkx2 hcx2))
  have xXB1_0 := XB1.out.cell (i := 0) rfl
  have xXB1_1 := XB1.out.cell (i := 1) rfl
  have xXB1_2 := XB1.out.cell (i := 2) rfl
  have xXB2_0 := XB2.out.cell (i := 0) rfl
  have xXB2_1 := XB2.out.cell (i := 1) rfl
  have xXB2_2 := XB2.out.cell (i := 2) rfl
  go_wp2_with fail
  refine HC.out.mono ?_
  rintro e w8 ⟨rfl, hb⟩
  rw [HZz.out]
  clear HC
  clear xXB1_0 xXB1_1 xXB1_2 xXB2_0 xXB2_1 xXB2_2
  have HB' := Lib.hid (HB.out.trans (hb.mono HB.out.size))
  have HX1' := Lib.hid (HX1.out.below hb HX1.out.size)
  have HX2' := Lib.hid (HX2.out.below hb HX2.out.size)
  have XL1' := Lib.hid (XL1.out.below (hb.mono (by have hs := HS.out; omega)))
  have XA1' := Lib.hid (XA1.out.below hb (by have hs := HS.out; omega))
  have XB1' := Lib.hid (XB1.out.below hb XB1.out.size)
  have XL2' := Lib.hid (XL2.out.below (hb.mono (by have hs := HS.out; omega)))
  have XA2' := Lib.hid (XA2.out.below hb (by have hs := HS.out; omega))
  have XB2' := Lib.hid (XB2.out.below hb XB2.out.size)
  have HS' := Lib.hid (And.intro hb.size HS.out)
  clear hb HB HX1 HX2 XL1 XA1 XB1 XL2 XA2 XB2 HS
  have HB := HB'
  have HX1 := HX1'
  have HX2 := HX2'
  have XL1 := XL1'
  have XA1 := XA1'
  have XB1 := XB1'
  have XL2 := XL2'
  have XA2 := XA2'
  have XB2 := XB2'
  have HS := HS'
  clear HB' HX1' HX2' XL1' XA1' XB1' XL2' XA2' XB2' HS'
  have qXB1_0 := XB1.out.cell (i := 0) rfl
  have qXB1_1 := XB1.out.cell (i := 1) rfl
  have qXB1_2 := XB1.out.cell (i := 2) rfl
  have qHX1_0 := HX1.out.cell (i := 0) rfl
  have qHX1_1 := HX1.out.cell (i := 1) rfl
  have qHX1_2 := HX1.out.cell (i := 2) rfl
  go_wp2_with fail
  have hb : Below w8.heap.size w8 w8.drew := (Below.refl _ _).drew
  have HB' := Lib.hid (HB.out.trans (hb.mono HB.out.size))
  have HX1' := Lib.hid (HX1.out.below hb HX1.out.size)
  have HX2' := Lib.hid (HX2.out.below hb HX2.out.size)
  have XL1' := Lib.hid (XL1.out.below (hb.mono (by have hs := HS.out; omega)))
  have XA1' := Lib.hid (XA1.out.below hb (by have hs := HS.out; omega))
  have XB1' := Lib.hid (XB1.out.below hb XB1.out.size)
  have XL2' := Lib.hid (XL2.out.below (hb.mono (by have hs := HS.out; omega)))
  have XA2' := Lib.hid (XA2.out.below hb (by have hs := HS.out; omega))
  have XB2' := Lib.hid (XB2.out.below hb XB2.out.size)
  have HS' := Lib.hid (And.intro hb.size HS.out)
  clear hb HB HX1 HX2 XL1 XA1 XB1 XL2 XA2 XB2 HS
  have HB := HB'
  have HX1 := HX1'
  have HX2 := HX2'
  have XL1 := XL1'
  have XA1 := XA1'
  have XB1 := XB1'
  have XL2 := XL2'
  have XA2 := XA2'
  have XB2 := XB2'
  have HS := HS'
  clear HB' HX1' HX2' XL1' XA1' XB1' XL2' XA2' XB2' HS'
  go_region_held3 (fun w' => w'.cell? ⟨w6.heap.size, 0, none⟩ = some (Value.int IntKind.i64 op1) ∧ w'.cell? ⟨w6.heap.size, 1, none⟩ = some (Value.int IntKind.i64 n1) ∧ w'.cell? ⟨w6.heap.size, 2, none⟩ = some (Value.slice Ax1 k1.len cx1) ∧ w'.cell? ⟨w.heap.size, 0, none⟩ = some (Value.int IntKind.i64 op1) ∧ w'.cell? ⟨w.heap.size, 1, none⟩ = some (Value.int IntKind.i64 n1) ∧ w'.cell? ⟨w.heap.size, 2, none⟩ = some (Value.slice A1 k1.len c1))
    (first | exact ⟨qXB1_0, qXB1_1, qXB1_2, qHX1_0, qHX1_1, qHX1_2⟩ | exact ⟨y0XB1_0, y0XB1_1, y0XB1_2, y0HX1_0, y0HX1_1, y0HX1_2⟩ | exact ⟨y1XB1_0, y1XB1_1, y1XB1_2, y1HX1_0, y1HX1_1, y1HX1_2⟩)
    (first
      | (go_at_call 10
         refine (eqExpr_any op1 n1 k1 Ax1 At1 cx1 ct1 _ ((XL1.out.mono_ (Nat.zero_le _) (by have hs := HS.out; omega)).up hb9) (hlt1.mono_ (Nat.zero_le _) (Nat.le_refl _)) hsz1).mono ?_
         rintro e w10 ⟨rfl, hb10⟩
         have y1XB1_0 := (hb10.cell (p := ⟨w6.heap.size, 0, none⟩) (show w6.heap.size < w9.heap.size by have hs := HS.out; have zhb9 := hb9.size; omega)).trans y0XB1_0
         have y1XB1_1 := (hb10.cell (p := ⟨w6.heap.size, 1, none⟩) (show w6.heap.size < w9.heap.size by have hs := HS.out; have zhb9 := hb9.size; omega)).trans y0XB1_1
         have y1XB1_2 := (hb10.cell (p := ⟨w6.heap.size, 2, none⟩) (show w6.heap.size < w9.heap.size by have hs := HS.out; have zhb9 := hb9.size; omega)).trans y0XB1_2
         have y1HX1_0 := (hb10.cell (p := ⟨w.heap.size, 0, none⟩) (show w.heap.size < w9.heap.size by have hs := HS.out; have zhb9 := hb9.size; omega)).trans y0HX1_0
         have y1HX1_1 := (hb10.cell (p := ⟨w.heap.size, 1, none⟩) (show w.heap.size < w9.heap.size by have hs := HS.out; have zhb9 := hb9.size; omega)).trans y0HX1_1
         have y1HX1_2 := (hb10.cell (p := ⟨w.heap.size, 2, none⟩) (show w.heap.size < w9.heap.size by have hs := HS.out; have zhb9 := hb9.size; omega)).trans y0HX1_2)
      | (go_at_call 8
         refine (toExpr_any op1 n1 k1 A1 c1 _ (HL1.out.up HB.out) hsz1).mono ?_
         rintro e w9 ⟨At1, ct1, rfl, hkt1, hct1, hlt1, halt1, hb9⟩
         have y0XB1_0 := (hb9.cell (p := ⟨w6.heap.size, 0, none⟩) (show w6.heap.size < w8.drew.heap.size by have hs := HS.out; omega)).trans qXB1_0
         have y0XB1_1 := (hb9.cell (p := ⟨w6.heap.size, 1, none⟩) (show w6.heap.size < w8.drew.heap.size by have hs := HS.out; omega)).trans qXB1_1
         have y0XB1_2 := (hb9.cell (p := ⟨w6.heap.size, 2, none⟩) (show w6.heap.size < w8.drew.heap.size by have hs := HS.out; omega)).trans qXB1_2
         have y0HX1_0 := (hb9.cell (p := ⟨w.heap.size, 0, none⟩) (show w.heap.size < w8.drew.heap.size by have hs := HS.out; omega)).trans qHX1_0
         have y0HX1_1 := (hb9.cell (p := ⟨w.heap.size, 1, none⟩) (show w.heap.size < w8.drew.heap.size by have hs := HS.out; omega)).trans qHX1_1
         have y0HX1_2 := (hb9.cell (p := ⟨w.heap.size, 2, none⟩) (show w.heap.size < w8.drew.heap.size by have hs := HS.out; omega)).trans qHX1_2))
  have hb : Below w8.drew.heap.size w8.drew w10 := (hb9).trans (hb10.mono (hb9.size))
  clear hb9 hb10 hlt1 halt1 qXB1_0 qXB1_1 qXB1_2 qHX1_0 qHX1_1 qHX1_2 y0XB1_0 y0XB1_1 y0XB1_2 y0HX1_0 y0HX1_1 y0HX1_2 y1XB1_0 y1XB1_1 y1XB1_2 y1HX1_0 y1HX1_1 y1HX1_2
  have HB' := Lib.hid (HB.out.trans (hb.mono HB.out.size))
  have HX1' := Lib.hid (HX1.out.below hb HX1.out.size)
  have HX2' := Lib.hid (HX2.out.below hb HX2.out.size)
  have XL1' := Lib.hid (XL1.out.below (hb.mono (by have hs := HS.out; omega)))
  have XA1' := Lib.hid (XA1.out.below hb (by have hs := HS.out; omega))
  have XB1' := Lib.hid (XB1.out.below hb XB1.out.size)
  have XL2' := Lib.hid (XL2.out.below (hb.mono (by have hs := HS.out; omega)))
  have XA2' := Lib.hid (XA2.out.below hb (by have hs := HS.out; omega))
  have XB2' := Lib.hid (XB2.out.below hb XB2.out.size)
  have HS' := Lib.hid (And.intro hb.size HS.out)
  clear hb HB HX1 HX2 XL1 XA1 XB1 XL2 XA2 XB2 HS
  have HB := HB'
  have HX1 := HX1'
  have HX2 := HX2'
  have XL1 := XL1'
  have XA1 := XA1'
  have XB1 := XB1'
  have XL2 := XL2'
  have XA2 := XA2'
  have XB2 := XB2'
  have HS := HS'
  clear HB' HX1' HX2' XL1' XA1' XB1' XL2' XA2' XB2' HS'
  have qXB2_0 := XB2.out.cell (i := 0) rfl
  have qXB2_1 := XB2.out.cell (i := 1) rfl
  have qXB2_2 := XB2.out.cell (i := 2) rfl
  have qHX2_0 := HX2.out.cell (i := 0) rfl
  have qHX2_1 := HX2.out.cell (i := 1) rfl
  have qHX2_2 := HX2.out.cell (i := 2) rfl
  go_wp2_with fail
  have hb : Below w10.heap.size w10 w10.drew := (Below.refl _ _).drew
  have HB' := Lib.hid (HB.out.trans (hb.mono HB.out.size))
  have HX1' := Lib.hid (HX1.out.below hb HX1.out.size)
  have HX2' := Lib.hid (HX2.out.below hb HX2.out.size)
  have XL1' := Lib.hid (XL1.out.below (hb.mono (by have hs := HS.out; omega)))
  have XA1' := Lib.hid (XA1.out.below hb (by have hs := HS.out; omega))
  have XB1' := Lib.hid (XB1.out.below hb XB1.out.size)
  have XL2' := Lib.hid (XL2.out.below (hb.mono (by have hs := HS.out; omega)))
  have XA2' := Lib.hid (XA2.out.below hb (by have hs := HS.out; omega))
  have XB2' := Lib.hid (XB2.out.below hb XB2.out.size)
  have HS' := Lib.hid (And.intro hb.size HS.out)
  clear hb HB HX1 HX2 XL1 XA1 XB1 XL2 XA2 XB2 HS
  have HB := HB'
  have HX1 := HX1'
  have HX2 := HX2'
  have XL1 := XL1'
  have XA1 := XA1'
  have XB1 := XB1'
  have XL2 := XL2'
  have XA2 := XA2'
  have XB2 := XB2'
  have HS := HS'
  clear HB' HX1' HX2' XL1' XA1' XB1' XL2' XA2' XB2' HS'
  go_region_held3 (fun w' => w'.cell? ⟨w7.heap.size, 0, none⟩ = some (Value.int IntKind.i64 op2) ∧ w'.cell? ⟨w7.heap.size, 1, none⟩ = some (Value.int IntKind.i64 n2) ∧ w'.cell? ⟨w7.heap.size, 2, none⟩ = some (Value.slice Ax2 k2.len cx2) ∧ w'.cell? ⟨w.heap.size + 1, 0, none⟩ = some (Value.int IntKind.i64 op2) ∧ w'.cell? ⟨w.heap.size + 1, 1, none⟩ = some (Value.int IntKind.i64 n2) ∧ w'.cell? ⟨w.heap.size + 1, 2, none⟩ = some (Value.slice A2 k2.len c2))
    (first | exact ⟨qXB2_0, qXB2_1, qXB2_2, qHX2_0, qHX2_1, qHX2_2⟩ | exact ⟨y0XB2_0, y0XB2_1, y0XB2_2, y0HX2_0, y0HX2_1, y0HX2_2⟩ | exact ⟨y1XB2_0, y1XB2_1, y1XB2_2, y1HX2_0, y1HX2_1, y1HX2_2⟩)
    (first
      | (go_at_call 10
         refine (eqExpr_any op2 n2 k2 Ax2 At2 cx2 ct2 _ ((XL2.out.mono_ (Nat.zero_le _) (by have hs := HS.out; omega)).up hb11) (hlt2.mono_ (Nat.zero_le _) (Nat.le_refl _)) hsz2).mono ?_
         rintro e w12 ⟨rfl, hb12⟩
         have y1XB2_0 := (hb12.cell (p := ⟨w7.heap.size, 0, none⟩) (show w7.heap.size < w11.heap.size by have hs := HS.out; have zhb11 := hb11.size; omega)).trans y0XB2_0
         have y1XB2_1 := (hb12.cell (p := ⟨w7.heap.size, 1, none⟩) (show w7.heap.size < w11.heap.size by have hs := HS.out; have zhb11 := hb11.size; omega)).trans y0XB2_1
         have y1XB2_2 := (hb12.cell (p := ⟨w7.heap.size, 2, none⟩) (show w7.heap.size < w11.heap.size by have hs := HS.out; have zhb11 := hb11.size; omega)).trans y0XB2_2
         have y1HX2_0 := (hb12.cell (p := ⟨w.heap.size + 1, 0, none⟩) (show w.heap.size + 1 < w11.heap.size by have hs := HS.out; have zhb11 := hb11.size; omega)).trans y0HX2_0
         have y1HX2_1 := (hb12.cell (p := ⟨w.heap.size + 1, 1, none⟩) (show w.heap.size + 1 < w11.heap.size by have hs := HS.out; have zhb11 := hb11.size; omega)).trans y0HX2_1
         have y1HX2_2 := (hb12.cell (p := ⟨w.heap.size + 1, 2, none⟩) (show w.heap.size + 1 < w11.heap.size by have hs := HS.out; have zhb11 := hb11.size; omega)).trans y0HX2_2)
      | (go_at_call 8
         refine (toExpr_any op2 n2 k2 A2 c2 _ (HL2.out.up HB.out) hsz2).mono ?_
         rintro e w11 ⟨At2, ct2, rfl, hkt2, hct2, hlt2, halt2, hb11⟩
         have y0XB2_0 := (hb11.cell (p := ⟨w7.heap.size, 0, none⟩) (show w7.heap.size < w10.drew.heap.size by have hs := HS.out; omega)).trans qXB2_0
         have y0XB2_1 := (hb11.cell (p := ⟨w7.heap.size, 1, none⟩) (show w7.heap.size < w10.drew.heap.size by have hs := HS.out; omega)).trans qXB2_1
         have y0XB2_2 := (hb11.cell (p := ⟨w7.heap.size, 2, none⟩) (show w7.heap.size < w10.drew.heap.size by have hs := HS.out; omega)).trans qXB2_2
         have y0HX2_0 := (hb11.cell (p := ⟨w.heap.size + 1, 0, none⟩) (show w.heap.size + 1 < w10.drew.heap.size by have hs := HS.out; omega)).trans qHX2_0
         have y0HX2_1 := (hb11.cell (p := ⟨w.heap.size + 1, 1, none⟩) (show w.heap.size + 1 < w10.drew.heap.size by have hs := HS.out; omega)).trans qHX2_1
         have y0HX2_2 := (hb11.cell (p := ⟨w.heap.size + 1, 2, none⟩) (show w.heap.size + 1 < w10.drew.heap.size by have hs := HS.out; omega)).trans qHX2_2))
  have hb : Below w10.drew.heap.size w10.drew w12 := (hb11).trans (hb12.mono (hb11.size))
  clear hb11 hb12 hlt2 halt2 qXB2_0 qXB2_1 qXB2_2 qHX2_0 qHX2_1 qHX2_2 y0XB2_0 y0XB2_1 y0XB2_2 y0HX2_0 y0HX2_1 y0HX2_2 y1XB2_0 y1XB2_1 y1XB2_2 y1HX2_0 y1HX2_1 y1HX2_2
  have HB' := Lib.hid (HB.out.trans (hb.mono HB.out.size))
  have HX1' := Lib.hid (HX1.out.below hb HX1.out.size)
  have HX2' := Lib.hid (HX2.out.below hb HX2.out.size)
  have XL1' := Lib.hid (XL1.out.below (hb.mono (by have hs := HS.out; omega)))
  have XA1' := Lib.hid (XA1.out.below hb (by have hs := HS.out; omega))
  have XB1' := Lib.hid (XB1.out.below hb XB1.out.size)
  have XL2' := Lib.hid (XL2.out.below (hb.mono (by have hs := HS.out; omega)))
  have XA2' := Lib.hid (XA2.out.below hb (by have hs := HS.out; omega))
  have XB2' := Lib.hid (XB2.out.below hb XB2.out.size)
  have HS' := Lib.hid (And.intro hb.size HS.out)
  clear hb HB HX1 HX2 XL1 XA1 XB1 XL2 XA2 XB2 HS
  have HB := HB'
  have HX1 := HX1'
  have HX2 := HX2'
  have XL1 := XL1'
  have XA1 := XA1'
  have XB1 := XB1'
  have XL2 := XL2'
  have XA2 := XA2'
  have XB2 := XB2'
  have HS := HS'
  clear HB' HX1' HX2' XL1' XA1' XB1' XL2' XA2' XB2' HS'
  go_wp2
  go_ret
  exact ⟨rfl, HB.out⟩
end Go.Proofs.Ytkjgnfpedponlaa
