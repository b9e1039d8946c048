/-
  The walk of the law FnExactIsSteps: true at every argument (made by gen_law.py).
-/
import Derived.Test.YtfkmlcpbijhahaaStpS
import Derived.Test.YtfkmlcpbijhahaaStpI
import Derived.Test.YtfkmlcpbijhahaaTools
import Derived.Test.YtfkmlcpbijhahaaFo
import Derived.Deep.RegionHeld3
namespace Go.Proofs.Ytfkmlcpbijhahaa
open Go.RowKit
set_option maxRecDepth 100000

set_option maxHeartbeats 2000000 in
theorem law_IsSteps (op1 n1 : Int) (k1 : Fo) (A1 : Option Addr) (c1 : Nat) (w : World) (hl1 : Lies w 0 w.heap.size A1 0 k1) (hlen1 : k1.len ≤ maxLen) :
    Calls Try.prog 3 #[.agg #[.int .i64 op1, .int .i64 n1, .slice A1 k1.len c1]] w (Gives (.bool true) w) := by
  obtain ⟨z, hz⟩ : ∃ z, stepsB op1 n1 k1 = z := ⟨_, rfl⟩
  have HZz := Lib.hid hz
  clear hz
  obtain ⟨hb, r1⟩ := one_box w 24 #[Value.int IntKind.i64 op1, Value.int IntKind.i64 n1, Value.slice A1 k1.len c1]
  have HX1 := Lib.hid r1
  clear r1
  have HB := Lib.hid hb
  have HS := Lib.hid (And.intro hb.size (show w.heap.size + 1 ≤ (w.alloc (Obj.cells #[Value.int IntKind.i64 op1, Value.int IntKind.i64 n1, Value.slice A1 k1.len c1] 24)).heap.size from by simp))
  clear hb
  have HL1 := Lib.hid hl1
  clear hl1
  go_enter Try.func3, Try.ntmps3
  go_wp2_with fail
  refine (szExpr_any op1 n1 k1 A1 c1 _ 1048576 (HL1.out.up HB.out) hlen1 (by decide) (by decide)).mono ?_
  rintro e w1 ⟨r1, rfl, hr1, hb⟩
  have HB' := Lib.hid (HB.out.trans (hb.mono HB.out.size))
  have HX1' := Lib.hid (HX1.out.below hb HX1.out.size)
  have HS' := Lib.hid (And.intro hb.size HS.out)
  clear hb HB HX1 HS
  have HB := HB'
  have HX1 := HX1'
  have HS := HS'
  clear HB' HX1' HS'
  rcases hr1 with rfl | ⟨hrz1, hr1⟩
  · go_wp2
    go_ret
    exact ⟨rfl, HB.out⟩
  have hsz1 : k1.size ≤ 1048576 := by omega
  have hrb1 : r1 ≤ 1048576 := by omega
  clear hr1
  have qHX1_0 := HX1.out.cell (i := 0) rfl
  have qHX1_1 := HX1.out.cell (i := 1) rfl
  have qHX1_2 := HX1.out.cell (i := 2) rfl
  go_wp2_with fail
  refine (toExpr_any op1 n1 k1 A1 c1 _ (HL1.out.up HB.out) hsz1).mono ?_
  rintro e w2 ⟨As1, cs1, rfl, hks1, hcs1, hls1, hals1, hb⟩
  clear qHX1_0 qHX1_1 qHX1_2
  have HB' := Lib.hid (HB.out.trans (hb.mono HB.out.size))
  have HX1' := Lib.hid (HX1.out.below hb HX1.out.size)
  have HS' := Lib.hid (And.intro hb.size HS.out)
  clear hb HB HX1 HS
  have HB := HB'
  have HX1 := HX1'
  have HS := HS'
  clear HB' HX1' HS'
  go_wp2_with fail
  refine (specSteps_any op1 n1 k1 As1 cs1 _ (hls1.mono_ (Nat.zero_le _) (Nat.le_refl _)) (Nat.le_trans hks1 hcs1) hsz1).mono ?_
  rintro e w3 ⟨rfl, hb⟩
  rw [HZz.out]
  have HB' := Lib.hid (HB.out.trans (hb.mono HB.out.size))
  have HX1' := Lib.hid (HX1.out.below hb HX1.out.size)
  have HS' := Lib.hid (And.intro hb.size HS.out)
  clear hb HB HX1 HS
  have HB := HB'
  have HX1 := HX1'
  have HS := HS'
  clear HB' HX1' HS'
  clear hls1 hals1
  have qHX1_0 := HX1.out.cell (i := 0) rfl
  have qHX1_1 := HX1.out.cell (i := 1) rfl
  have qHX1_2 := HX1.out.cell (i := 2) rfl
  go_wp2_with fail
  refine (toExpr_any op1 n1 k1 A1 c1 _ (HL1.out.up HB.out) hsz1).mono ?_
  rintro e w4 ⟨Ax1, cx1, rfl, hkx1, hcx1, hlx1, halx1, hb⟩
  clear qHX1_0 qHX1_1 qHX1_2
  have HB' := Lib.hid (HB.out.trans (hb.mono HB.out.size))
  have HX1' := Lib.hid (HX1.out.below hb HX1.out.size)
  have HS' := Lib.hid (And.intro hb.size HS.out)
  clear hb HB HX1 HS
  have HB := HB'
  have HX1 := HX1'
  have HS := HS'
  clear HB' HX1' HS'
  have XL1 := Lib.hid hlx1
  have XA1 := Lib.hid halx1
  clear hlx1 halx1
  obtain ⟨hb, r1⟩ := one_box w4 29 #[Value.int IntKind.i64 op1, Value.int IntKind.i64 n1, Value.slice Ax1 k1.len cx1]
  have HB' := Lib.hid (HB.out.trans (hb.mono HB.out.size))
  have HX1' := Lib.hid (HX1.out.below hb HX1.out.size)
  have XL1' := Lib.hid (XL1.out.below (hb.mono (by have hs := HS.out; omega)))
  have XA1' := Lib.hid (XA1.out.below hb (by have hs := HS.out; omega))
  have HS' := Lib.hid (And.intro hb.size HS.out)
  clear hb HB HX1 XL1 XA1 HS
  have HB := HB'
  have HX1 := HX1'
  have XL1 := XL1'
  have XA1 := XA1'
  have HS := HS'
  clear HB' HX1' XL1' XA1' HS'
  have XB1 := Lib.hid r1
  have HS' := Lib.hid (And.intro (show w4.heap.size + 1 ≤ (w4.alloc (Obj.cells #[Value.int IntKind.i64 op1, Value.int IntKind.i64 n1, Value.slice Ax1 k1.len cx1] 29)).heap.size from by simp) HS.out)
  clear HS r1
  have HS := HS'
  clear HS'
  have HC := Lib.hid (implSteps_any op1 n1 k1 Ax1 cx1 w3.heap.size w4.heap.size (w4.alloc (Obj.cells #[Value.int IntKind.i64 op1, Value.int IntKind.i64 n1, Value.slice Ax1 k1.len cx1] 29)) XL1.out (by have hs := HS.out; omega) XA1.out hkx1 hcx1 hsz1)
  have xXB1_0 := XB1.out.cell (i := 0) rfl
  have xXB1_1 := XB1.out.cell (i := 1) rfl
  have xXB1_2 := XB1.out.cell (i := 2) rfl
  go_wp2_with fail
  refine HC.out.mono ?_
  rintro e w5 ⟨rfl, hb⟩
  rw [HZz.out]
  clear HC
  clear xXB1_0 xXB1_1 xXB1_2
  have HB' := Lib.hid (HB.out.trans (hb.mono HB.out.size))
  have HX1' := Lib.hid (HX1.out.below hb HX1.out.size)
  have XL1' := Lib.hid (XL1.out.below (hb.mono (by have hs := HS.out; omega)))
  have XA1' := Lib.hid (XA1.out.below hb (by have hs := HS.out; omega))
  have XB1' := Lib.hid (XB1.out.below hb XB1.out.size)
  have HS' := Lib.hid (And.intro hb.size HS.out)
  clear hb HB HX1 XL1 XA1 XB1 HS
  have HB := HB'
  have HX1 := HX1'
  have XL1 := XL1'
  have XA1 := XA1'
  have XB1 := XB1'
  have HS := HS'
  clear HB' HX1' XL1' XA1' XB1' HS'
  have qXB1_0 := XB1.out.cell (i := 0) rfl
  have qXB1_1 := XB1.out.cell (i := 1) rfl
  have qXB1_2 := XB1.out.cell (i := 2) rfl
  have qHX1_0 := HX1.out.cell (i := 0) rfl
  have qHX1_1 := HX1.out.cell (i := 1) rfl
  have qHX1_2 := HX1.out.cell (i := 2) rfl
  go_wp2_with fail
  have hb : Below w5.heap.size w5 w5.drew := (Below.refl _ _).drew
  have HB' := Lib.hid (HB.out.trans (hb.mono HB.out.size))
  have HX1' := Lib.hid (HX1.out.below hb HX1.out.size)
  have XL1' := Lib.hid (XL1.out.below (hb.mono (by have hs := HS.out; omega)))
  have XA1' := Lib.hid (XA1.out.below hb (by have hs := HS.out; omega))
  have XB1' := Lib.hid (XB1.out.below hb XB1.out.size)
  have HS' := Lib.hid (And.intro hb.size HS.out)
  clear hb HB HX1 XL1 XA1 XB1 HS
  have HB := HB'
  have HX1 := HX1'
  have XL1 := XL1'
  have XA1 := XA1'
  have XB1 := XB1'
  have HS := HS'
  clear HB' HX1' XL1' XA1' XB1' HS'
  go_region_held3 (fun w' => w'.cell? ⟨w4.heap.size, 0, none⟩ = some (Value.int IntKind.i64 op1) ∧ w'.cell? ⟨w4.heap.size, 1, none⟩ = some (Value.int IntKind.i64 n1) ∧ w'.cell? ⟨w4.heap.size, 2, none⟩ = some (Value.slice Ax1 k1.len cx1) ∧ w'.cell? ⟨w.heap.size, 0, none⟩ = some (Value.int IntKind.i64 op1) ∧ w'.cell? ⟨w.heap.size, 1, none⟩ = some (Value.int IntKind.i64 n1) ∧ w'.cell? ⟨w.heap.size, 2, none⟩ = some (Value.slice A1 k1.len c1))
    (first | exact ⟨qXB1_0, qXB1_1, qXB1_2, qHX1_0, qHX1_1, qHX1_2⟩ | exact ⟨y0XB1_0, y0XB1_1, y0XB1_2, y0HX1_0, y0HX1_1, y0HX1_2⟩ | exact ⟨y1XB1_0, y1XB1_1, y1XB1_2, y1HX1_0, y1HX1_1, y1HX1_2⟩)
    (first
      | (go_at_call 8
         refine (eqExpr_any op1 n1 k1 Ax1 At1 cx1 ct1 _ ((XL1.out.mono_ (Nat.zero_le _) (by have hs := HS.out; omega)).up hb6) (hlt1.mono_ (Nat.zero_le _) (Nat.le_refl _)) hsz1).mono ?_
         rintro e w7 ⟨rfl, hb7⟩
         have y1XB1_0 := (hb7.cell (p := ⟨w4.heap.size, 0, none⟩) (show w4.heap.size < w6.heap.size by have hs := HS.out; have zhb6 := hb6.size; omega)).trans y0XB1_0
         have y1XB1_1 := (hb7.cell (p := ⟨w4.heap.size, 1, none⟩) (show w4.heap.size < w6.heap.size by have hs := HS.out; have zhb6 := hb6.size; omega)).trans y0XB1_1
         have y1XB1_2 := (hb7.cell (p := ⟨w4.heap.size, 2, none⟩) (show w4.heap.size < w6.heap.size by have hs := HS.out; have zhb6 := hb6.size; omega)).trans y0XB1_2
         have y1HX1_0 := (hb7.cell (p := ⟨w.heap.size, 0, none⟩) (show w.heap.size < w6.heap.size by have hs := HS.out; have zhb6 := hb6.size; omega)).trans y0HX1_0
         have y1HX1_1 := (hb7.cell (p := ⟨w.heap.size, 1, none⟩) (show w.heap.size < w6.heap.size by have hs := HS.out; have zhb6 := hb6.size; omega)).trans y0HX1_1
         have y1HX1_2 := (hb7.cell (p := ⟨w.heap.size, 2, none⟩) (show w.heap.size < w6.heap.size by have hs := HS.out; have zhb6 := hb6.size; omega)).trans y0HX1_2)
      | (go_at_call 6
         refine (toExpr_any op1 n1 k1 A1 c1 _ (HL1.out.up HB.out) hsz1).mono ?_
         rintro e w6 ⟨At1, ct1, rfl, hkt1, hct1, hlt1, halt1, hb6⟩
         have y0XB1_0 := (hb6.cell (p := ⟨w4.heap.size, 0, none⟩) (show w4.heap.size < w5.drew.heap.size by have hs := HS.out; omega)).trans qXB1_0
         have y0XB1_1 := (hb6.cell (p := ⟨w4.heap.size, 1, none⟩) (show w4.heap.size < w5.drew.heap.size by have hs := HS.out; omega)).trans qXB1_1
         have y0XB1_2 := (hb6.cell (p := ⟨w4.heap.size, 2, none⟩) (show w4.heap.size < w5.drew.heap.size by have hs := HS.out; omega)).trans qXB1_2
         have y0HX1_0 := (hb6.cell (p := ⟨w.heap.size, 0, none⟩) (show w.heap.size < w5.drew.heap.size by have hs := HS.out; omega)).trans qHX1_0
         have y0HX1_1 := (hb6.cell (p := ⟨w.heap.size, 1, none⟩) (show w.heap.size < w5.drew.heap.size by have hs := HS.out; omega)).trans qHX1_1
         have y0HX1_2 := (hb6.cell (p := ⟨w.heap.size, 2, none⟩) (show w.heap.size < w5.drew.heap.size by have hs := HS.out; omega)).trans qHX1_2))
  have hb : Below w5.drew.heap.size w5.drew w7 := (hb6).trans (hb7.mono (hb6.size))
  clear hb6 hb7 hlt1 halt1 qXB1_0 qXB1_1 qXB1_2 qHX1_0 qHX1_1 qHX1_2 y0XB1_0 y0XB1_1 y0XB1_2 y0HX1_0 y0HX1_1 y0HX1_2 y1XB1_0 y1XB1_1 y1XB1_2 y1HX1_0 y1HX1_1 y1HX1_2
  have HB' := Lib.hid (HB.out.trans (hb.mono HB.out.size))
  have HX1' := Lib.hid (HX1.out.below hb HX1.out.size)
  have XL1' := Lib.hid (XL1.out.below (hb.mono (by have hs := HS.out; omega)))
  have XA1' := Lib.hid (XA1.out.below hb (by have hs := HS.out; omega))
  have XB1' := Lib.hid (XB1.out.below hb XB1.out.size)
  have HS' := Lib.hid (And.intro hb.size HS.out)
  clear hb HB HX1 XL1 XA1 XB1 HS
  have HB := HB'
  have HX1 := HX1'
  have XL1 := XL1'
  have XA1 := XA1'
  have XB1 := XB1'
  have HS := HS'
  clear HB' HX1' XL1' XA1' XB1' HS'
  go_wp2
  go_ret
  exact ⟨rfl, HB.out⟩
end Go.Proofs.Ytfkmlcpbijhahaa
