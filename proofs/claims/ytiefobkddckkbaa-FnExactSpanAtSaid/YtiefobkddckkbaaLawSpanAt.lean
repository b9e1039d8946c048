/-
  The walk of the law FnExactSpanAt: true at every argument (made by gen_law.py).
-/
import Derived.Test.YtiefobkddckkbaaSpanI
import Derived.Test.YtiefobkddckkbaaSpanE
import Derived.Test.YtiefobkddckkbaaEqSpan
import Derived.Test.YtiefobkddckkbaaTools
import Derived.Test.YtiefobkddckkbaaMk
import Derived.Test.YtiefobkddckkbaaInts
import Derived.Test.YtiefobkddckkbaaFo
import Derived.Deep.RegionHeld3
namespace Go.Proofs.Ytiefobkddckkbaa
open Go.RowKit
set_option maxRecDepth 100000

set_option maxHeartbeats 4000000 in
theorem law_SpanAt (op1 n1 : Int) (k1 : Fo) (A1 : Option Addr) (c1 : Nat) (zs2 : List Int) (A2 : Option Addr) (c2 : Nat) (w : World) (hl1 : Lies w 0 w.heap.size A1 0 k1) (hlen1 : k1.len ≤ maxLen) (hi1 : I64 op1 ∧ I64 n1) (hl2 : LiesI w 0 w.heap.size A2 zs2) (hlen2 : zs2.length ≤ maxLen) :
    Calls Try.prog 3 #[.agg #[.int .i64 op1, .int .i64 n1, .slice A1 k1.len c1], .slice A2 zs2.length c2] w (Gives (.bool true) w) := by
  obtain ⟨sa, hsa⟩ : ∃ z, spanA ⟨op1, n1, k1⟩ zs2 = z := ⟨_, rfl⟩
  have HZsa := Lib.hid hsa
  clear hsa
  obtain ⟨sz, hsz⟩ : ∃ z, spanZ ⟨op1, n1, k1⟩ zs2 = z := ⟨_, rfl⟩
  have HZsz := Lib.hid hsz
  clear hsz
  obtain ⟨sok, hsok⟩ : ∃ z, spanOk ⟨op1, n1, k1⟩ zs2 = z := ⟨_, rfl⟩
  have HZsok := Lib.hid hsok
  clear hsok
  obtain ⟨hb, r1⟩ := one_box w 24 #[Value.int IntKind.i64 op1, Value.int IntKind.i64 n1, Value.slice A1 k1.len c1]
  have HX1 := Lib.hid r1
  clear r1
  have HB := Lib.hid hb
  have HS := Lib.hid (And.intro hb.size (show w.heap.size + 1 ≤ (w.alloc (Obj.cells #[Value.int IntKind.i64 op1, Value.int IntKind.i64 n1, Value.slice A1 k1.len c1] 24)).heap.size from by simp))
  clear hb
  have HL1 := Lib.hid hl1
  clear hl1
  have HL2 := Lib.hid hl2
  clear hl2
  by_cases hsz2 : zs2.length ≤ 1048576
  rotate_left
  · have hgt : ¬ zs2.length ≤ 1048576 := hsz2
    have hgt2 : 1048576 < zs2.length := by omega
    have hl9 := hlen2
    unfold maxLen at hl9
    go_enter Try.func3, Try.ntmps3
    go_wp2
    go_ret
    exact ⟨rfl, HB.out⟩
  go_enter Try.func3, Try.ntmps3
  go_wp2_with fail
  refine (szExpr_any op1 n1 k1 A1 c1 _ 1048576 (HL1.out.up HB.out) hlen1 (by decide) (by decide)).mono ?_
  rintro e w1 ⟨r1, rfl, hr1, hb⟩
  have HB' := Lib.hid (HB.out.trans (hb.mono HB.out.size))
  have HX1' := Lib.hid (HX1.out.below hb HX1.out.size)
  have HS' := Lib.hid (And.intro hb.size HS.out)
  clear hb HB HX1 HS
  have HB := HB'
  have HX1 := HX1'
  have HS := HS'
  clear HB' HX1' HS'
  rcases hr1 with rfl | ⟨hrz1, hr1⟩
  · go_wp2
    go_ret
    exact ⟨rfl, HB.out⟩
  have hsz1 : k1.size ≤ 1048576 := by omega
  have hrb1 : r1 ≤ 1048576 := by omega
  clear hr1
  have qHX1_0 := HX1.out.cell (i := 0) rfl
  have qHX1_1 := HX1.out.cell (i := 1) rfl
  have qHX1_2 := HX1.out.cell (i := 2) rfl
  go_wp2_with fail
  refine (toExpr_any op1 n1 k1 A1 c1 _ (HL1.out.up HB.out) hsz1).mono ?_
  rintro e w2 ⟨As1, cs1, rfl, hks1, hcs1, hls1, hals1, hb⟩
  clear qHX1_0 qHX1_1 qHX1_2
  have HB' := Lib.hid (HB.out.trans (hb.mono HB.out.size))
  have HX1' := Lib.hid (HX1.out.below hb HX1.out.size)
  have HS' := Lib.hid (And.intro hb.size HS.out)
  clear hb HB HX1 HS
  have HB := HB'
  have HX1 := HX1'
  have HS := HS'
  clear HB' HX1' HS'
  have SLs1 := Lib.hid hls1
  clear hls1
  have SAs1 := Lib.hid hals1
  clear hals1
  go_wp2_with fail
  refine (toIntS_any zs2 A2 c2 _ (HL2.out.up HB.out) hsz2).mono ?_
  rintro e w3 ⟨As2, cs2, rfl, hks2, hcs2, hls2, hb⟩
  have HB' := Lib.hid (HB.out.trans (hb.mono HB.out.size))
  have HX1' := Lib.hid (HX1.out.below hb HX1.out.size)
  have SLs1' := Lib.hid (SLs1.out.below (hb.mono (by have hs := HS.out; omega)))
  have SAs1' := Lib.hid (SAs1.out.below hb (by have hs := HS.out; omega))
  have HS' := Lib.hid (And.intro hb.size HS.out)
  clear hb HB HX1 SLs1 SAs1 HS
  have HB := HB'
  have HX1 := HX1'
  have SLs1 := SLs1'
  have SAs1 := SAs1'
  have HS := HS'
  clear HB' HX1' SLs1' SAs1' HS'
  have SLs2 := Lib.hid hls2
  clear hls2
  go_wp2_with fail
  refine (specSpan_any op1 n1 k1 As1 cs1 zs2 As2 cs2 _ (SLs1.out.mono_ (Nat.zero_le _) (by have hs := HS.out; omega)) (Nat.le_trans hks1 hcs1) (SLs2.out.mono_ (Nat.zero_le _) (by have hs := HS.out; omega)) hsz2 hsz1 hi1).mono ?_
  rintro e w4 ⟨rfl, hb⟩
  rw [HZsa.out]
  rw [HZsz.out]
  rw [HZsok.out]
  clear SLs1 SAs1
  clear SLs2
  have HB' := Lib.hid (HB.out.trans (hb.mono HB.out.size))
  have HX1' := Lib.hid (HX1.out.below hb HX1.out.size)
  have HS' := Lib.hid (And.intro hb.size HS.out)
  clear hb HB HX1 HS
  have HB := HB'
  have HX1 := HX1'
  have HS := HS'
  clear HB' HX1' HS'
  obtain ⟨hb, r1⟩ := one_box w4 28 #[Value.int IntKind.i64 (sa : Int), Value.int IntKind.i64 (sz : Int)]
  have HB' := Lib.hid (HB.out.trans (hb.mono HB.out.size))
  have HX1' := Lib.hid (HX1.out.below hb HX1.out.size)
  have HS' := Lib.hid (And.intro hb.size HS.out)
  clear hb HB HX1 HS
  have HB := HB'
  have HX1 := HX1'
  have HS := HS'
  clear HB' HX1' HS'
  have XW := Lib.hid r1
  have HS' := Lib.hid (And.intro (show w4.heap.size + 1 ≤ (w4.alloc (Obj.cells #[Value.int IntKind.i64 (sa : Int), Value.int IntKind.i64 (sz : Int)] 28)).heap.size from by simp) HS.out)
  clear HS r1
  have HS := HS'
  clear HS'
  have qHX1_0 := HX1.out.cell (i := 0) rfl
  have qHX1_1 := HX1.out.cell (i := 1) rfl
  have qHX1_2 := HX1.out.cell (i := 2) rfl
  go_wp2_with fail
  refine (toExpr_any op1 n1 k1 A1 c1 _ (HL1.out.up HB.out) hsz1).mono ?_
  rintro e w5 ⟨Ax1, cx1, rfl, hkx1, hcx1, hlx1, halx1, hb⟩
  clear qHX1_0 qHX1_1 qHX1_2
  have HB' := Lib.hid (HB.out.trans (hb.mono HB.out.size))
  have HX1' := Lib.hid (HX1.out.below hb HX1.out.size)
  have XW' := Lib.hid (XW.out.below hb XW.out.size)
  have HS' := Lib.hid (And.intro hb.size HS.out)
  clear hb HB HX1 XW HS
  have HB := HB'
  have HX1 := HX1'
  have XW := XW'
  have HS := HS'
  clear HB' HX1' XW' HS'
  have XL1 := Lib.hid hlx1
  have XA1 := Lib.hid halx1
  clear hlx1 halx1
  obtain ⟨hb, r1⟩ := one_box w5 33 #[Value.int IntKind.i64 op1, Value.int IntKind.i64 n1, Value.slice Ax1 k1.len cx1]
  have HB' := Lib.hid (HB.out.trans (hb.mono HB.out.size))
  have HX1' := Lib.hid (HX1.out.below hb HX1.out.size)
  have XW' := Lib.hid (XW.out.below hb XW.out.size)
  have XL1' := Lib.hid (XL1.out.below (hb.mono (by have hs := HS.out; omega)))
  have XA1' := Lib.hid (XA1.out.below hb (by have hs := HS.out; omega))
  have HS' := Lib.hid (And.intro hb.size HS.out)
  clear hb HB HX1 XW XL1 XA1 HS
  have HB := HB'
  have HX1 := HX1'
  have XW := XW'
  have XL1 := XL1'
  have XA1 := XA1'
  have HS := HS'
  clear HB' HX1' XW' XL1' XA1' HS'
  have XB1 := Lib.hid r1
  have HS' := Lib.hid (And.intro (show w5.heap.size + 1 ≤ (w5.alloc (Obj.cells #[Value.int IntKind.i64 op1, Value.int IntKind.i64 n1, Value.slice Ax1 k1.len cx1] 33)).heap.size from by simp) HS.out)
  clear HS r1
  have HS := HS'
  clear HS'
  go_wp2_with fail
  refine (toIntS_any zs2 A2 c2 _ (HL2.out.up HB.out) hsz2).mono ?_
  rintro e w6 ⟨Ax2, cx2, rfl, hkx2, hcx2, hlx2, hb⟩
  have HB' := Lib.hid (HB.out.trans (hb.mono HB.out.size))
  have HX1' := Lib.hid (HX1.out.below hb HX1.out.size)
  have XW' := Lib.hid (XW.out.below hb XW.out.size)
  have XL1' := Lib.hid (XL1.out.below (hb.mono (by have hs := HS.out; omega)))
  have XA1' := Lib.hid (XA1.out.below hb (by have hs := HS.out; omega))
  have XB1' := Lib.hid (XB1.out.below hb XB1.out.size)
  have HS' := Lib.hid (And.intro hb.size HS.out)
  clear hb HB HX1 XW XL1 XA1 XB1 HS
  have HB := HB'
  have HX1 := HX1'
  have XW := XW'
  have XL1 := XL1'
  have XA1 := XA1'
  have XB1 := XB1'
  have HS := HS'
  clear HB' HX1' XW' XL1' XA1' XB1' HS'
  have XL2 := Lib.hid hlx2
  clear hlx2
  have HC := Lib.hid (implSpan_r op1 n1 k1 Ax1 cx1 zs2 Ax2 cx2 w6 (XL1.out.mono_ (Nat.zero_le _) (by have hs := HS.out; omega)) hkx1 hcx1 (XL2.out.mono_ (Nat.zero_le _) (by have hs := HS.out; omega)) hsz2 hi1)
  have xXB1_0 := XB1.out.cell (i := 0) rfl
  have xXB1_1 := XB1.out.cell (i := 1) rfl
  have xXB1_2 := XB1.out.cell (i := 2) rfl
  go_wp2_with fail
  refine HC.out.mono ?_
  rintro e w7 ⟨rfl, hb⟩
  rw [HZsa.out]
  rw [HZsz.out]
  rw [HZsok.out]
  clear HC
  clear xXB1_0 xXB1_1 xXB1_2
  have HB' := Lib.hid (HB.out.trans (hb.mono HB.out.size))
  have HX1' := Lib.hid (HX1.out.below hb HX1.out.size)
  have XW' := Lib.hid (XW.out.below hb XW.out.size)
  have XL1' := Lib.hid (XL1.out.below (hb.mono (by have hs := HS.out; omega)))
  have XA1' := Lib.hid (XA1.out.below hb (by have hs := HS.out; omega))
  have XB1' := Lib.hid (XB1.out.below hb XB1.out.size)
  have XL2' := Lib.hid (XL2.out.below (hb.mono (by have hs := HS.out; omega)))
  have HS' := Lib.hid (And.intro hb.size HS.out)
  clear hb HB HX1 XW XL1 XA1 XB1 XL2 HS
  have HB := HB'
  have HX1 := HX1'
  have XW := XW'
  have XL1 := XL1'
  have XA1 := XA1'
  have XB1 := XB1'
  have XL2 := XL2'
  have HS := HS'
  clear HB' HX1' XW' XL1' XA1' XB1' XL2' HS'
  obtain ⟨hb, r1⟩ := one_box w7 28 #[Value.int IntKind.i64 (sa : Int), Value.int IntKind.i64 (sz : Int)]
  have HB' := Lib.hid (HB.out.trans (hb.mono HB.out.size))
  have HX1' := Lib.hid (HX1.out.below hb HX1.out.size)
  have XW' := Lib.hid (XW.out.below hb XW.out.size)
  have XL1' := Lib.hid (XL1.out.below (hb.mono (by have hs := HS.out; omega)))
  have XA1' := Lib.hid (XA1.out.below hb (by have hs := HS.out; omega))
  have XB1' := Lib.hid (XB1.out.below hb XB1.out.size)
  have XL2' := Lib.hid (XL2.out.below (hb.mono (by have hs := HS.out; omega)))
  have HS' := Lib.hid (And.intro hb.size HS.out)
  clear hb HB HX1 XW XL1 XA1 XB1 XL2 HS
  have HB := HB'
  have HX1 := HX1'
  have XW := XW'
  have XL1 := XL1'
  have XA1 := XA1'
  have XB1 := XB1'
  have XL2 := XL2'
  have HS := HS'
  clear HB' HX1' XW' XL1' XA1' XB1' XL2' HS'
  have XG := Lib.hid r1
  have HS' := Lib.hid (And.intro (show w7.heap.size + 1 ≤ (w7.alloc (Obj.cells #[Value.int IntKind.i64 (sa : Int), Value.int IntKind.i64 (sz : Int)] 28)).heap.size from by simp) HS.out)
  clear HS r1
  have HS := HS'
  clear HS'
  have zXG_0 := XG.out.cell (i := 0) rfl
  have zXG_1 := XG.out.cell (i := 1) rfl
  have zXW_0 := XW.out.cell (i := 0) rfl
  have zXW_1 := XW.out.cell (i := 1) rfl
  go_wp2_with fail
  refine (eqSpan_any (sa : Int) (sz : Int) _).mono ?_
  rintro e w8 ⟨rfl, hb⟩
  clear zXG_0 zXG_1 zXW_0 zXW_1
  have HB' := Lib.hid (HB.out.trans (hb.mono HB.out.size))
  have HX1' := Lib.hid (HX1.out.below hb HX1.out.size)
  have XW' := Lib.hid (XW.out.below hb XW.out.size)
  have XL1' := Lib.hid (XL1.out.below (hb.mono (by have hs := HS.out; omega)))
  have XA1' := Lib.hid (XA1.out.below hb (by have hs := HS.out; omega))
  have XB1' := Lib.hid (XB1.out.below hb XB1.out.size)
  have XL2' := Lib.hid (XL2.out.below (hb.mono (by have hs := HS.out; omega)))
  have XG' := Lib.hid (XG.out.below hb XG.out.size)
  have HS' := Lib.hid (And.intro hb.size HS.out)
  clear hb HB HX1 XW XL1 XA1 XB1 XL2 XG HS
  have HB := HB'
  have HX1 := HX1'
  have XW := XW'
  have XL1 := XL1'
  have XA1 := XA1'
  have XB1 := XB1'
  have XL2 := XL2'
  have XG := XG'
  have HS := HS'
  clear HB' HX1' XW' XL1' XA1' XB1' XL2' XG' HS'
  have qXB1_0 := XB1.out.cell (i := 0) rfl
  have qXB1_1 := XB1.out.cell (i := 1) rfl
  have qXB1_2 := XB1.out.cell (i := 2) rfl
  have qHX1_0 := HX1.out.cell (i := 0) rfl
  have qHX1_1 := HX1.out.cell (i := 1) rfl
  have qHX1_2 := HX1.out.cell (i := 2) rfl
  go_wp2_with fail
  have hb : Below w8.heap.size w8 w8.drew := (Below.refl _ _).drew
  have HB' := Lib.hid (HB.out.trans (hb.mono HB.out.size))
  have HX1' := Lib.hid (HX1.out.below hb HX1.out.size)
  have XW' := Lib.hid (XW.out.below hb XW.out.size)
  have XL1' := Lib.hid (XL1.out.below (hb.mono (by have hs := HS.out; omega)))
  have XA1' := Lib.hid (XA1.out.below hb (by have hs := HS.out; omega))
  have XB1' := Lib.hid (XB1.out.below hb XB1.out.size)
  have XL2' := Lib.hid (XL2.out.below (hb.mono (by have hs := HS.out; omega)))
  have XG' := Lib.hid (XG.out.below hb XG.out.size)
  have HS' := Lib.hid (And.intro hb.size HS.out)
  clear hb HB HX1 XW XL1 XA1 XB1 XL2 XG HS
  have HB := HB'
  have HX1 := HX1'
  have XW := XW'
  have XL1 := XL1'
  have XA1 := XA1'
  have XB1 := XB1'
  have XL2 := XL2'
  have XG := XG'
  have HS := HS'
  clear HB' HX1' XW' XL1' XA1' XB1' XL2' XG' HS'
  go_region_held3 (fun w' => w'.cell? ⟨w5.heap.size, 0, none⟩ = some (Value.int IntKind.i64 op1) ∧ w'.cell? ⟨w5.heap.size, 1, none⟩ = some (Value.int IntKind.i64 n1) ∧ w'.cell? ⟨w5.heap.size, 2, none⟩ = some (Value.slice Ax1 k1.len cx1) ∧ w'.cell? ⟨w.heap.size, 0, none⟩ = some (Value.int IntKind.i64 op1) ∧ w'.cell? ⟨w.heap.size, 1, none⟩ = some (Value.int IntKind.i64 n1) ∧ w'.cell? ⟨w.heap.size, 2, none⟩ = some (Value.slice A1 k1.len c1))
    (first | exact ⟨qXB1_0, qXB1_1, qXB1_2, qHX1_0, qHX1_1, qHX1_2⟩ | exact ⟨y0XB1_0, y0XB1_1, y0XB1_2, y0HX1_0, y0HX1_1, y0HX1_2⟩ | exact ⟨y1XB1_0, y1XB1_1, y1XB1_2, y1HX1_0, y1HX1_1, y1HX1_2⟩)
    (first
      | (go_at_call 12
         refine (eqExpr_any op1 n1 k1 Ax1 At1 cx1 ct1 _ ((XL1.out.mono_ (Nat.zero_le _) (by have hs := HS.out; omega)).up hb9) (hlt1.mono_ (Nat.zero_le _) (Nat.le_refl _)) hsz1).mono ?_
         rintro e w10 ⟨rfl, hb10⟩
         have y1XB1_0 := (hb10.cell (p := ⟨w5.heap.size, 0, none⟩) (show w5.heap.size < w9.heap.size by have hs := HS.out; have zhb9 := hb9.size; omega)).trans y0XB1_0
         have y1XB1_1 := (hb10.cell (p := ⟨w5.heap.size, 1, none⟩) (show w5.heap.size < w9.heap.size by have hs := HS.out; have zhb9 := hb9.size; omega)).trans y0XB1_1
         have y1XB1_2 := (hb10.cell (p := ⟨w5.heap.size, 2, none⟩) (show w5.heap.size < w9.heap.size by have hs := HS.out; have zhb9 := hb9.size; omega)).trans y0XB1_2
         have y1HX1_0 := (hb10.cell (p := ⟨w.heap.size, 0, none⟩) (show w.heap.size < w9.heap.size by have hs := HS.out; have zhb9 := hb9.size; omega)).trans y0HX1_0
         have y1HX1_1 := (hb10.cell (p := ⟨w.heap.size, 1, none⟩) (show w.heap.size < w9.heap.size by have hs := HS.out; have zhb9 := hb9.size; omega)).trans y0HX1_1
         have y1HX1_2 := (hb10.cell (p := ⟨w.heap.size, 2, none⟩) (show w.heap.size < w9.heap.size by have hs := HS.out; have zhb9 := hb9.size; omega)).trans y0HX1_2)
      | (go_at_call 8
         refine (toExpr_any op1 n1 k1 A1 c1 _ (HL1.out.up HB.out) hsz1).mono ?_
         rintro e w9 ⟨At1, ct1, rfl, hkt1, hct1, hlt1, halt1, hb9⟩
         have y0XB1_0 := (hb9.cell (p := ⟨w5.heap.size, 0, none⟩) (show w5.heap.size < w8.drew.heap.size by have hs := HS.out; omega)).trans qXB1_0
         have y0XB1_1 := (hb9.cell (p := ⟨w5.heap.size, 1, none⟩) (show w5.heap.size < w8.drew.heap.size by have hs := HS.out; omega)).trans qXB1_1
         have y0XB1_2 := (hb9.cell (p := ⟨w5.heap.size, 2, none⟩) (show w5.heap.size < w8.drew.heap.size by have hs := HS.out; omega)).trans qXB1_2
         have y0HX1_0 := (hb9.cell (p := ⟨w.heap.size, 0, none⟩) (show w.heap.size < w8.drew.heap.size by have hs := HS.out; omega)).trans qHX1_0
         have y0HX1_1 := (hb9.cell (p := ⟨w.heap.size, 1, none⟩) (show w.heap.size < w8.drew.heap.size by have hs := HS.out; omega)).trans qHX1_1
         have y0HX1_2 := (hb9.cell (p := ⟨w.heap.size, 2, none⟩) (show w.heap.size < w8.drew.heap.size by have hs := HS.out; omega)).trans qHX1_2))
  have hb : Below w8.drew.heap.size w8.drew w10 := (hb9).trans (hb10.mono (hb9.size))
  clear hb9 hb10 hlt1 halt1 qXB1_0 qXB1_1 qXB1_2 qHX1_0 qHX1_1 qHX1_2 y0XB1_0 y0XB1_1 y0XB1_2 y0HX1_0 y0HX1_1 y0HX1_2 y1XB1_0 y1XB1_1 y1XB1_2 y1HX1_0 y1HX1_1 y1HX1_2
  have HB' := Lib.hid (HB.out.trans (hb.mono HB.out.size))
  have HX1' := Lib.hid (HX1.out.below hb HX1.out.size)
  have XW' := Lib.hid (XW.out.below hb XW.out.size)
  have XL1' := Lib.hid (XL1.out.below (hb.mono (by have hs := HS.out; omega)))
  have XA1' := Lib.hid (XA1.out.below hb (by have hs := HS.out; omega))
  have XB1' := Lib.hid (XB1.out.below hb XB1.out.size)
  have XL2' := Lib.hid (XL2.out.below (hb.mono (by have hs := HS.out; omega)))
  have XG' := Lib.hid (XG.out.below hb XG.out.size)
  have HS' := Lib.hid (And.intro hb.size HS.out)
  clear hb HB HX1 XW XL1 XA1 XB1 XL2 XG HS
  have HB := HB'
  have HX1 := HX1'
  have XW := XW'
  have XL1 := XL1'
  have XA1 := XA1'
  have XB1 := XB1'
  have XL2 := XL2'
  have XG := XG'
  have HS := HS'
  clear HB' HX1' XW' XL1' XA1' XB1' XL2' XG' HS'
  go_wp2_with fail
  refine (toIntS_any zs2 A2 c2 _ (HL2.out.up HB.out) hsz2).mono ?_
  rintro e w11 ⟨At2, ct2, rfl, hkt2, hct2, hlt2, hb⟩
  have HB' := Lib.hid (HB.out.trans (hb.mono HB.out.size))
  have HX1' := Lib.hid (HX1.out.below hb HX1.out.size)
  have XW' := Lib.hid (XW.out.below hb XW.out.size)
  have XL1' := Lib.hid (XL1.out.below (hb.mono (by have hs := HS.out; omega)))
  have XA1' := Lib.hid (XA1.out.below hb (by have hs := HS.out; omega))
  have XB1' := Lib.hid (XB1.out.below hb XB1.out.size)
  have XL2' := Lib.hid (XL2.out.below (hb.mono (by have hs := HS.out; omega)))
  have XG' := Lib.hid (XG.out.below hb XG.out.size)
  have HS' := Lib.hid (And.intro hb.size HS.out)
  clear hb HB HX1 XW XL1 XA1 XB1 XL2 XG HS
  have HB := HB'
  have HX1 := HX1'
  have XW := XW'
  have XL1 := XL1'
  have XA1 := XA1'
  have XB1 := XB1'
  have XL2 := XL2'
  have XG := XG'
  have HS := HS'
  clear HB' HX1' XW' XL1' XA1' XB1' XL2' XG' HS'
  go_wp2_with fail
  refine (eqIntS_any zs2 Ax2 At2 cx2 ct2 _ (XL2.out.mono_ (Nat.zero_le _) (by have hs := HS.out; omega)) (hlt2.mono_ (Nat.zero_le _) (Nat.le_refl _)) hsz2).mono ?_
  rintro e w12 ⟨rfl, hb⟩
  clear hlt2
  have HB' := Lib.hid (HB.out.trans (hb.mono HB.out.size))
  have HX1' := Lib.hid (HX1.out.below hb HX1.out.size)
  have XW' := Lib.hid (XW.out.below hb XW.out.size)
  have XL1' := Lib.hid (XL1.out.below (hb.mono (by have hs := HS.out; omega)))
  have XA1' := Lib.hid (XA1.out.below hb (by have hs := HS.out; omega))
  have XB1' := Lib.hid (XB1.out.below hb XB1.out.size)
  have XL2' := Lib.hid (XL2.out.below (hb.mono (by have hs := HS.out; omega)))
  have XG' := Lib.hid (XG.out.below hb XG.out.size)
  have HS' := Lib.hid (And.intro hb.size HS.out)
  clear hb HB HX1 XW XL1 XA1 XB1 XL2 XG HS
  have HB := HB'
  have HX1 := HX1'
  have XW := XW'
  have XL1 := XL1'
  have XA1 := XA1'
  have XB1 := XB1'
  have XL2 := XL2'
  have XG := XG'
  have HS := HS'
  clear HB' HX1' XW' XL1' XA1' XB1' XL2' XG' HS'
  go_wp2
  go_ret
  exact ⟨rfl, HB.out⟩
end Go.Proofs.Ytiefobkddckkbaa
