/-
  The walk of the law FnExactRenameBound: true at every argument (made by gen_law.py).
-/
import Derived.Test.YtmnhoeliofojnaaReb
import Derived.Test.YtmnhoeliofojnaaNodeM
import Derived.Test.YtmnhoeliofojnaaTools
import Derived.Test.YtmnhoeliofojnaaMk
import Derived.Test.YtmnhoeliofojnaaFo
import Derived.Deep.RegionHeld3
namespace Go.Proofs.Ytmnhoeliofojnaa
open Go.RowKit
set_option maxRecDepth 100000

set_option maxHeartbeats 4000000 in
theorem law_RenameBound (op1 n1 : Int) (k1 : Fo) (A1 : Option Addr) (c1 : Nat) (x2 : Int) (w : World) (hl1 : Lies w 0 w.heap.size A1 0 k1) (hlen1 : k1.len ≤ maxLen)  :
    Calls Try.prog 3 #[.agg #[.int .i64 op1, .int .i64 n1, .slice A1 k1.len c1], .int .i64 x2] w (Gives (.bool true) w) := by
  obtain ⟨y, hy⟩ : ∃ y, y = (renB ⟨op1, n1, k1⟩ x2).getD nd0 := ⟨_, rfl⟩
  obtain ⟨ok, hok⟩ : ∃ ok, ok = (renB ⟨op1, n1, k1⟩ x2).isSome := ⟨_, rfl⟩
  have hys : y.k.size ≤ 1048576 := by rw [hy]; exact ren_le _ _
  have HY := Lib.hid hy
  have HOK := Lib.hid hok
  clear hy hok
  obtain ⟨hb, r1⟩ := one_box w 24 #[Value.int IntKind.i64 op1, Value.int IntKind.i64 n1, Value.slice A1 k1.len c1]
  have HX1 := Lib.hid r1
  clear r1
  have HB := Lib.hid hb
  have HS := Lib.hid (And.intro hb.size (show w.heap.size + 1 ≤ (w.alloc (Obj.cells #[Value.int IntKind.i64 op1, Value.int IntKind.i64 n1, Value.slice A1 k1.len c1] 24)).heap.size from by simp))
  clear hb
  have HL1 := Lib.hid hl1
  clear hl1
  go_enter Try.func3, Try.ntmps3
  go_wp2_with fail
  refine (szExpr_any op1 n1 k1 A1 c1 _ 1048576 (HL1.out.up HB.out) hlen1 (by decide) (by decide)).mono ?_
  rintro e w1 ⟨r1, rfl, hr1, hb⟩
  have HB' := Lib.hid (HB.out.trans (hb.mono HB.out.size))
  have HX1' := Lib.hid (HX1.out.below hb HX1.out.size)
  have HS' := Lib.hid (And.intro hb.size HS.out)
  clear hb HB HX1 HS
  have HB := HB'
  have HX1 := HX1'
  have HS := HS'
  clear HB' HX1' HS'
  rcases hr1 with rfl | ⟨hrz1, hr1⟩
  · go_wp2
    go_ret
    exact ⟨rfl, HB.out⟩
  have hsz1 : k1.size ≤ 1048576 := by omega
  have hrb1 : r1 ≤ 1048576 := by omega
  clear hr1
  have qHX1_0 := HX1.out.cell (i := 0) rfl
  have qHX1_1 := HX1.out.cell (i := 1) rfl
  have qHX1_2 := HX1.out.cell (i := 2) rfl
  go_wp2_with fail
  refine (toExpr_any op1 n1 k1 A1 c1 _ (HL1.out.up HB.out) hsz1).mono ?_
  rintro e w2 ⟨As1, cs1, rfl, hks1, hcs1, hls1, hals1, hb⟩
  clear qHX1_0 qHX1_1 qHX1_2
  have HB' := Lib.hid (HB.out.trans (hb.mono HB.out.size))
  have HX1' := Lib.hid (HX1.out.below hb HX1.out.size)
  have HS' := Lib.hid (And.intro hb.size HS.out)
  clear hb HB HX1 HS
  have HB := HB'
  have HX1 := HX1'
  have HS := HS'
  clear HB' HX1' HS'
  go_wp2_with fail
  refine (specReb_any op1 n1 k1 As1 cs1 x2 _ (hls1.mono_ (Nat.zero_le _) (Nat.le_refl _)) hsz1).mono ?_
  rintro e w3 ⟨Aw, cw, bsw, rfl, htw, hb⟩
  rw [← HY.out] at htw
  rw [← HY.out, ← HOK.out]
  have HB' := Lib.hid (HB.out.trans (hb.mono HB.out.size))
  have HX1' := Lib.hid (HX1.out.below hb HX1.out.size)
  have HS' := Lib.hid (And.intro hb.size HS.out)
  clear hb HB HX1 HS
  have HB := HB'
  have HX1 := HX1'
  have HS := HS'
  clear HB' HX1' HS'
  have WL := Lib.hid (htw.lies fun z hz => (htw.lt z hz).2)
  clear hls1 hals1
  clear htw
  obtain ⟨hb, r1⟩ := one_box w3 28 #[Value.int IntKind.i64 y.op, Value.int IntKind.i64 y.n, Value.slice Aw y.k.len cw]
  have HB' := Lib.hid (HB.out.trans (hb.mono HB.out.size))
  have HX1' := Lib.hid (HX1.out.below hb HX1.out.size)
  have WL' := Lib.hid (WL.out.below (hb.mono (by have hs := HS.out; omega)))
  have HS' := Lib.hid (And.intro hb.size HS.out)
  clear hb HB HX1 WL HS
  have HB := HB'
  have HX1 := HX1'
  have WL := WL'
  have HS := HS'
  clear HB' HX1' WL' HS'
  have XW := Lib.hid r1
  have HS' := Lib.hid (And.intro (show w3.heap.size + 1 ≤ (w3.alloc (Obj.cells #[Value.int IntKind.i64 y.op, Value.int IntKind.i64 y.n, Value.slice Aw y.k.len cw] 28)).heap.size from by simp) HS.out)
  clear HS r1
  have HS := HS'
  clear HS'
  have qHX1_0 := HX1.out.cell (i := 0) rfl
  have qHX1_1 := HX1.out.cell (i := 1) rfl
  have qHX1_2 := HX1.out.cell (i := 2) rfl
  go_wp2_with fail
  refine (toExpr_any op1 n1 k1 A1 c1 _ (HL1.out.up HB.out) hsz1).mono ?_
  rintro e w4 ⟨Ax1, cx1, rfl, hkx1, hcx1, hlx1, halx1, hb⟩
  clear qHX1_0 qHX1_1 qHX1_2
  have HB' := Lib.hid (HB.out.trans (hb.mono HB.out.size))
  have HX1' := Lib.hid (HX1.out.below hb HX1.out.size)
  have WL' := Lib.hid (WL.out.below (hb.mono (by have hs := HS.out; omega)))
  have XW' := Lib.hid (XW.out.below hb XW.out.size)
  have HS' := Lib.hid (And.intro hb.size HS.out)
  clear hb HB HX1 WL XW HS
  have HB := HB'
  have HX1 := HX1'
  have WL := WL'
  have XW := XW'
  have HS := HS'
  clear HB' HX1' WL' XW' HS'
  have XL1 := Lib.hid hlx1
  have XA1 := Lib.hid halx1
  clear hlx1 halx1
  obtain ⟨hb, r1⟩ := one_box w4 28 #[Value.int IntKind.i64 op1, Value.int IntKind.i64 n1, Value.slice Ax1 k1.len cx1]
  have HB' := Lib.hid (HB.out.trans (hb.mono HB.out.size))
  have HX1' := Lib.hid (HX1.out.below hb HX1.out.size)
  have WL' := Lib.hid (WL.out.below (hb.mono (by have hs := HS.out; omega)))
  have XW' := Lib.hid (XW.out.below hb XW.out.size)
  have XL1' := Lib.hid (XL1.out.below (hb.mono (by have hs := HS.out; omega)))
  have XA1' := Lib.hid (XA1.out.below hb (by have hs := HS.out; omega))
  have HS' := Lib.hid (And.intro hb.size HS.out)
  clear hb HB HX1 WL XW XL1 XA1 HS
  have HB := HB'
  have HX1 := HX1'
  have WL := WL'
  have XW := XW'
  have XL1 := XL1'
  have XA1 := XA1'
  have HS := HS'
  clear HB' HX1' WL' XW' XL1' XA1' HS'
  have XB1 := Lib.hid r1
  have HS' := Lib.hid (And.intro (show w4.heap.size + 1 ≤ (w4.alloc (Obj.cells #[Value.int IntKind.i64 op1, Value.int IntKind.i64 n1, Value.slice Ax1 k1.len cx1] 28)).heap.size from by simp) HS.out)
  clear HS r1
  have HS := HS'
  clear HS'
  have HC := Lib.hid (implReb_any op1 n1 k1 Ax1 cx1 x2 (w4.alloc (Obj.cells #[Value.int IntKind.i64 op1, Value.int IntKind.i64 n1, Value.slice Ax1 k1.len cx1] 28)) (XL1.out.mono_ (Nat.zero_le _) (by have hs := HS.out; omega)) (Nat.le_trans hkx1 hcx1))
  have xXB1_0 := XB1.out.cell (i := 0) rfl
  have xXB1_1 := XB1.out.cell (i := 1) rfl
  have xXB1_2 := XB1.out.cell (i := 2) rfl
  go_wp2_with fail
  refine HC.out.mono ?_
  rintro e w5 ⟨Ag, cg, bsg, rfl, htg, hb⟩
  rw [← HY.out] at htg
  rw [← HY.out, ← HOK.out]
  clear HC
  clear xXB1_0 xXB1_1 xXB1_2
  have HB' := Lib.hid (HB.out.trans (hb.mono HB.out.size))
  have HX1' := Lib.hid (HX1.out.below hb HX1.out.size)
  have WL' := Lib.hid (WL.out.below (hb.mono (by have hs := HS.out; omega)))
  have XW' := Lib.hid (XW.out.below hb XW.out.size)
  have XL1' := Lib.hid (XL1.out.below (hb.mono (by have hs := HS.out; omega)))
  have XA1' := Lib.hid (XA1.out.below hb (by have hs := HS.out; omega))
  have XB1' := Lib.hid (XB1.out.below hb XB1.out.size)
  have HS' := Lib.hid (And.intro hb.size HS.out)
  clear hb HB HX1 WL XW XL1 XA1 XB1 HS
  have HB := HB'
  have HX1 := HX1'
  have WL := WL'
  have XW := XW'
  have XL1 := XL1'
  have XA1 := XA1'
  have XB1 := XB1'
  have HS := HS'
  clear HB' HX1' WL' XW' XL1' XA1' XB1' HS'
  have GB := Lib.hid (show ∀ z, z ∈ bsg → (w4.alloc (Obj.cells #[Value.int IntKind.i64 op1, Value.int IntKind.i64 n1, Value.slice Ax1 k1.len cx1] 28)).heap.size ≤ z ∧ z < w5.heap.size from fun z hz => htg.lt z hz)
  have GT := Lib.hid htg
  clear htg
  obtain ⟨hb, r1⟩ := one_box w5 28 #[Value.int IntKind.i64 y.op, Value.int IntKind.i64 y.n, Value.slice Ag y.k.len cg]
  have HB' := Lib.hid (HB.out.trans (hb.mono HB.out.size))
  have HX1' := Lib.hid (HX1.out.below hb HX1.out.size)
  have WL' := Lib.hid (WL.out.below (hb.mono (by have hs := HS.out; omega)))
  have XW' := Lib.hid (XW.out.below hb XW.out.size)
  have XL1' := Lib.hid (XL1.out.below (hb.mono (by have hs := HS.out; omega)))
  have XA1' := Lib.hid (XA1.out.below hb (by have hs := HS.out; omega))
  have XB1' := Lib.hid (XB1.out.below hb XB1.out.size)
  have GT' := Lib.hid (GT.out.over hb)
  have HS' := Lib.hid (And.intro hb.size HS.out)
  clear hb HB HX1 WL XW XL1 XA1 XB1 GT HS
  have HB := HB'
  have HX1 := HX1'
  have WL := WL'
  have XW := XW'
  have XL1 := XL1'
  have XA1 := XA1'
  have XB1 := XB1'
  have GT := GT'
  have HS := HS'
  clear HB' HX1' WL' XW' XL1' XA1' XB1' GT' HS'
  have XG := Lib.hid r1
  have HS' := Lib.hid (And.intro (show w5.heap.size + 1 ≤ (w5.alloc (Obj.cells #[Value.int IntKind.i64 y.op, Value.int IntKind.i64 y.n, Value.slice Ag y.k.len cg] 28)).heap.size from by simp) HS.out)
  clear HS r1
  have HS := HS'
  clear HS'
  have zXG_0 := XG.out.cell (i := 0) rfl
  have zXG_1 := XG.out.cell (i := 1) rfl
  have zXG_2 := XG.out.cell (i := 2) rfl
  have zXW_0 := XW.out.cell (i := 0) rfl
  have zXW_1 := XW.out.cell (i := 1) rfl
  have zXW_2 := XW.out.cell (i := 2) rfl
  go_wp2_with fail
  refine (eqExpr_any y.op y.n y.k Ag Aw cg cw _ ((GT.out.lies fun z hz => (GT.out.lt z hz).2).mono_ (Nat.zero_le _) (Nat.le_refl _)) (WL.out.mono_ (Nat.zero_le _) (by have hs := HS.out; omega)) hys).mono ?_
  rintro e w6 ⟨rfl, hb⟩
  clear zXG_0 zXG_1 zXG_2 zXW_0 zXW_1 zXW_2
  have HB' := Lib.hid (HB.out.trans (hb.mono HB.out.size))
  have HX1' := Lib.hid (HX1.out.below hb HX1.out.size)
  have WL' := Lib.hid (WL.out.below (hb.mono (by have hs := HS.out; omega)))
  have XW' := Lib.hid (XW.out.below hb XW.out.size)
  have XL1' := Lib.hid (XL1.out.below (hb.mono (by have hs := HS.out; omega)))
  have XA1' := Lib.hid (XA1.out.below hb (by have hs := HS.out; omega))
  have XB1' := Lib.hid (XB1.out.below hb XB1.out.size)
  have GT' := Lib.hid (GT.out.over hb)
  have XG' := Lib.hid (XG.out.below hb XG.out.size)
  have HS' := Lib.hid (And.intro hb.size HS.out)
  clear hb HB HX1 WL XW XL1 XA1 XB1 GT XG HS
  have HB := HB'
  have HX1 := HX1'
  have WL := WL'
  have XW := XW'
  have XL1 := XL1'
  have XA1 := XA1'
  have XB1 := XB1'
  have GT := GT'
  have XG := XG'
  have HS := HS'
  clear HB' HX1' WL' XW' XL1' XA1' XB1' GT' XG' HS'
  have qXB1_0 := XB1.out.cell (i := 0) rfl
  have qXB1_1 := XB1.out.cell (i := 1) rfl
  have qXB1_2 := XB1.out.cell (i := 2) rfl
  have qHX1_0 := HX1.out.cell (i := 0) rfl
  have qHX1_1 := HX1.out.cell (i := 1) rfl
  have qHX1_2 := HX1.out.cell (i := 2) rfl
  go_wp2_with fail
  have hb : Below w6.heap.size w6 w6.drew := (Below.refl _ _).drew
  have HB' := Lib.hid (HB.out.trans (hb.mono HB.out.size))
  have HX1' := Lib.hid (HX1.out.below hb HX1.out.size)
  have WL' := Lib.hid (WL.out.below (hb.mono (by have hs := HS.out; omega)))
  have XW' := Lib.hid (XW.out.below hb XW.out.size)
  have XL1' := Lib.hid (XL1.out.below (hb.mono (by have hs := HS.out; omega)))
  have XA1' := Lib.hid (XA1.out.below hb (by have hs := HS.out; omega))
  have XB1' := Lib.hid (XB1.out.below hb XB1.out.size)
  have GT' := Lib.hid (GT.out.over hb)
  have XG' := Lib.hid (XG.out.below hb XG.out.size)
  have HS' := Lib.hid (And.intro hb.size HS.out)
  clear hb HB HX1 WL XW XL1 XA1 XB1 GT XG HS
  have HB := HB'
  have HX1 := HX1'
  have WL := WL'
  have XW := XW'
  have XL1 := XL1'
  have XA1 := XA1'
  have XB1 := XB1'
  have GT := GT'
  have XG := XG'
  have HS := HS'
  clear HB' HX1' WL' XW' XL1' XA1' XB1' GT' XG' HS'
  go_region_held3 (fun w' => w'.cell? ⟨w4.heap.size, 0, none⟩ = some (Value.int IntKind.i64 op1) ∧ w'.cell? ⟨w4.heap.size, 1, none⟩ = some (Value.int IntKind.i64 n1) ∧ w'.cell? ⟨w4.heap.size, 2, none⟩ = some (Value.slice Ax1 k1.len cx1) ∧ w'.cell? ⟨w.heap.size, 0, none⟩ = some (Value.int IntKind.i64 op1) ∧ w'.cell? ⟨w.heap.size, 1, none⟩ = some (Value.int IntKind.i64 n1) ∧ w'.cell? ⟨w.heap.size, 2, none⟩ = some (Value.slice A1 k1.len c1))
    (first | exact ⟨qXB1_0, qXB1_1, qXB1_2, qHX1_0, qHX1_1, qHX1_2⟩ | exact ⟨y0XB1_0, y0XB1_1, y0XB1_2, y0HX1_0, y0HX1_1, y0HX1_2⟩ | exact ⟨y1XB1_0, y1XB1_1, y1XB1_2, y1HX1_0, y1HX1_1, y1HX1_2⟩)
    (first
      | (go_at_call 11
         refine (eqExpr_any op1 n1 k1 Ax1 At1 cx1 ct1 _ ((XL1.out.mono_ (Nat.zero_le _) (by have hs := HS.out; omega)).up hb7) (hlt1.mono_ (Nat.zero_le _) (Nat.le_refl _)) hsz1).mono ?_
         rintro e w8 ⟨rfl, hb8⟩
         have y1XB1_0 := (hb8.cell (p := ⟨w4.heap.size, 0, none⟩) (show w4.heap.size < w7.heap.size by have hs := HS.out; have zhb7 := hb7.size; omega)).trans y0XB1_0
         have y1XB1_1 := (hb8.cell (p := ⟨w4.heap.size, 1, none⟩) (show w4.heap.size < w7.heap.size by have hs := HS.out; have zhb7 := hb7.size; omega)).trans y0XB1_1
         have y1XB1_2 := (hb8.cell (p := ⟨w4.heap.size, 2, none⟩) (show w4.heap.size < w7.heap.size by have hs := HS.out; have zhb7 := hb7.size; omega)).trans y0XB1_2
         have y1HX1_0 := (hb8.cell (p := ⟨w.heap.size, 0, none⟩) (show w.heap.size < w7.heap.size by have hs := HS.out; have zhb7 := hb7.size; omega)).trans y0HX1_0
         have y1HX1_1 := (hb8.cell (p := ⟨w.heap.size, 1, none⟩) (show w.heap.size < w7.heap.size by have hs := HS.out; have zhb7 := hb7.size; omega)).trans y0HX1_1
         have y1HX1_2 := (hb8.cell (p := ⟨w.heap.size, 2, none⟩) (show w.heap.size < w7.heap.size by have hs := HS.out; have zhb7 := hb7.size; omega)).trans y0HX1_2)
      | (go_at_call 9
         refine (toExpr_any op1 n1 k1 A1 c1 _ (HL1.out.up HB.out) hsz1).mono ?_
         rintro e w7 ⟨At1, ct1, rfl, hkt1, hct1, hlt1, halt1, hb7⟩
         have y0XB1_0 := (hb7.cell (p := ⟨w4.heap.size, 0, none⟩) (show w4.heap.size < w6.drew.heap.size by have hs := HS.out; omega)).trans qXB1_0
         have y0XB1_1 := (hb7.cell (p := ⟨w4.heap.size, 1, none⟩) (show w4.heap.size < w6.drew.heap.size by have hs := HS.out; omega)).trans qXB1_1
         have y0XB1_2 := (hb7.cell (p := ⟨w4.heap.size, 2, none⟩) (show w4.heap.size < w6.drew.heap.size by have hs := HS.out; omega)).trans qXB1_2
         have y0HX1_0 := (hb7.cell (p := ⟨w.heap.size, 0, none⟩) (show w.heap.size < w6.drew.heap.size by have hs := HS.out; omega)).trans qHX1_0
         have y0HX1_1 := (hb7.cell (p := ⟨w.heap.size, 1, none⟩) (show w.heap.size < w6.drew.heap.size by have hs := HS.out; omega)).trans qHX1_1
         have y0HX1_2 := (hb7.cell (p := ⟨w.heap.size, 2, none⟩) (show w.heap.size < w6.drew.heap.size by have hs := HS.out; omega)).trans qHX1_2))
  have hb : Below w6.drew.heap.size w6.drew w8 := (hb7).trans (hb8.mono (hb7.size))
  clear hb7 hb8 hlt1 halt1 qXB1_0 qXB1_1 qXB1_2 qHX1_0 qHX1_1 qHX1_2 y0XB1_0 y0XB1_1 y0XB1_2 y0HX1_0 y0HX1_1 y0HX1_2 y1XB1_0 y1XB1_1 y1XB1_2 y1HX1_0 y1HX1_1 y1HX1_2
  have HB' := Lib.hid (HB.out.trans (hb.mono HB.out.size))
  have HX1' := Lib.hid (HX1.out.below hb HX1.out.size)
  have WL' := Lib.hid (WL.out.below (hb.mono (by have hs := HS.out; omega)))
  have XW' := Lib.hid (XW.out.below hb XW.out.size)
  have XL1' := Lib.hid (XL1.out.below (hb.mono (by have hs := HS.out; omega)))
  have XA1' := Lib.hid (XA1.out.below hb (by have hs := HS.out; omega))
  have XB1' := Lib.hid (XB1.out.below hb XB1.out.size)
  have GT' := Lib.hid (GT.out.over hb)
  have XG' := Lib.hid (XG.out.below hb XG.out.size)
  have HS' := Lib.hid (And.intro hb.size HS.out)
  clear hb HB HX1 WL XW XL1 XA1 XB1 GT XG HS
  have HB := HB'
  have HX1 := HX1'
  have WL := WL'
  have XW := XW'
  have XL1 := XL1'
  have XA1 := XA1'
  have XB1 := XB1'
  have GT := GT'
  have XG := XG'
  have HS := HS'
  clear HB' HX1' WL' XW' XL1' XA1' XB1' GT' XG' HS'
  have xXB1_0 := XB1.out.cell (i := 0) rfl
  have xXB1_1 := XB1.out.cell (i := 1) rfl
  have xXB1_2 := XB1.out.cell (i := 2) rfl
  go_wp2_with fail
  refine (mkExpr_any (w3.alloc (Obj.cells #[Value.int IntKind.i64 y.op, Value.int IntKind.i64 y.n, Value.slice Aw y.k.len cw] 28)).heap.size w4.heap.size op1 n1 k1 Ax1 cx1 _ 1 (Lies.sk XA1.out XL1.out) (by decide) (by omega)).mono ?_
  rintro e w9 ⟨kk1, rfl, hka1, hkb1, hm⟩
  clear xXB1_0 xXB1_1 xXB1_2
  have HB' := Lib.hid (hm.below HB.out (by have hs := HS.out; omega) (Nat.le_refl _))
  have HX1' := Lib.hid (hm.row HX1.out (by have hs := HS.out; omega))
  have WL' := Lib.hid (WL.out.keep (Nat.le_refl _) (Nat.le_refl _) fun p h1 h2 => hm.cell (by have hs := HS.out; omega) (by have hs := HS.out; omega))
  have XW' := Lib.hid (hm.row XW.out (by have hs := HS.out; omega))
  have XB1' := Lib.hid (hm.row XB1.out (by have hs := HS.out; omega))
  have GT' := Lib.hid (hm.tree GT.out (by have hs := HS.out; omega))
  have XG' := Lib.hid (hm.row XG.out (by have hs := HS.out; omega))
  have HS' := Lib.hid (And.intro hm.size HS.out)
  clear hm HB HX1 WL XW XB1 GT XG HS
  have HB := HB'
  have HX1 := HX1'
  have WL := WL'
  have XW := XW'
  have XB1 := XB1'
  have GT := GT'
  have XG := XG'
  have HS := HS'
  clear HB' HX1' WL' XW' XB1' GT' XG' HS'
  clear XL1 XA1
  have hk01 : 0 ≤ kk1 := by omega
  have zXG_0 := XG.out.cell (i := 0) rfl
  have zXG_1 := XG.out.cell (i := 1) rfl
  have zXG_2 := XG.out.cell (i := 2) rfl
  have zXW_0 := XW.out.cell (i := 0) rfl
  have zXW_1 := XW.out.cell (i := 1) rfl
  have zXW_2 := XW.out.cell (i := 2) rfl
  go_wp2_with fail
  refine (eqExpr_any y.op y.n y.k Ag Aw cg cw _ ((GT.out.lies fun z hz => (GT.out.lt z hz).2).mono_ (Nat.zero_le _) (Nat.le_refl _)) (WL.out.mono_ (Nat.zero_le _) (by have hs := HS.out; omega)) hys).mono ?_
  rintro e w10 ⟨rfl, hb⟩
  clear zXG_0 zXG_1 zXG_2 zXW_0 zXW_1 zXW_2
  have HB' := Lib.hid (HB.out.trans (hb.mono HB.out.size))
  have HX1' := Lib.hid (HX1.out.below hb HX1.out.size)
  have WL' := Lib.hid (WL.out.below (hb.mono (by have hs := HS.out; omega)))
  have XW' := Lib.hid (XW.out.below hb XW.out.size)
  have XB1' := Lib.hid (XB1.out.below hb XB1.out.size)
  have GT' := Lib.hid (GT.out.over hb)
  have XG' := Lib.hid (XG.out.below hb XG.out.size)
  have HS' := Lib.hid (And.intro hb.size HS.out)
  clear hb HB HX1 WL XW XB1 GT XG HS
  have HB := HB'
  have HX1 := HX1'
  have WL := WL'
  have XW := XW'
  have XB1 := XB1'
  have GT := GT'
  have XG := XG'
  have HS := HS'
  clear HB' HX1' WL' XW' XB1' GT' XG' HS'
  clear XB1
  have zXG_0 := XG.out.cell (i := 0) rfl
  have zXG_1 := XG.out.cell (i := 1) rfl
  have zXG_2 := XG.out.cell (i := 2) rfl
  go_wp2_with fail
  refine (markOwn_any y.op y.n y.k Ag cg _ bsg _ 1 GT.out (by decide) (by omega)).mono ?_
  rintro e w11 ⟨rfl, htm, hon⟩
  clear GT
  clear zXG_0 zXG_1 zXG_2
  have HB' := Lib.hid (HB.out.trans (hon.below (fun z hz => by have hg := GB.out _ hz; have hs := HS.out; omega) HB.out.size))
  have HX1' := Lib.hid (hon.row HX1.out (fun hz => by have hg := GB.out _ hz; have hs := HS.out; omega))
  have WL' := Lib.hid (WL.out.keep (Nat.le_refl _) (Nat.le_refl _) fun p h1 h2 => hon.cell (by have hs := HS.out; omega) (fun hz => by have hg := GB.out _ hz; have hs := HS.out; omega))
  have XW' := Lib.hid (hon.row XW.out (fun hz => by have hg := GB.out _ hz; have hs := HS.out; omega))
  have XG' := Lib.hid (hon.row XG.out (fun hz => by have hg := GB.out _ hz; have hs := HS.out; omega))
  have HS' := Lib.hid (And.intro hon.size HS.out)
  clear hon HB HX1 WL XW XG HS
  have HB := HB'
  have HX1 := HX1'
  have WL := WL'
  have XW := XW'
  have XG := XG'
  have HS := HS'
  clear HB' HX1' WL' XW' XG' HS'
  have GL := Lib.hid (htm.lies fun z hz => (GB.out z hz).2)
  clear htm
  have hzp : (1 : Int) + 2 * (y.k.size : Int) ≤ 2097153 := by omega
  have hz0 : (0 : Int) ≤ 1 + 2 * (y.k.size : Int) := by omega
  generalize hll : (1 : Int) + 2 * (y.k.size : Int) = ll at hzp hz0
  have HLL := Lib.hid hll
  clear hll
  have zXG_0 := XG.out.cell (i := 0) rfl
  have zXG_1 := XG.out.cell (i := 1) rfl
  have zXG_2 := XG.out.cell (i := 2) rfl
  go_wp2_with fail
  refine (heldOwn_any y.op y.n y.k Ag cg _ 1 (GL.out.mono_ (Nat.zero_le _) (by have hs := HS.out; omega)) (by decide) (by omega)).mono ?_
  rintro e w12 ⟨rfl, hb⟩
  rw [HLL.out]
  clear zXG_0 zXG_1 zXG_2
  have HB' := Lib.hid (HB.out.trans (hb.mono HB.out.size))
  have HX1' := Lib.hid (HX1.out.below hb HX1.out.size)
  have WL' := Lib.hid (WL.out.below (hb.mono (by have hs := HS.out; omega)))
  have XW' := Lib.hid (XW.out.below hb XW.out.size)
  have XG' := Lib.hid (XG.out.below hb XG.out.size)
  have GL' := Lib.hid (GL.out.below (hb.mono (by have hs := HS.out; omega)))
  have HS' := Lib.hid (And.intro hb.size HS.out)
  clear hb HB HX1 WL XW XG GL HS
  have HB := HB'
  have HX1 := HX1'
  have WL := WL'
  have XW := XW'
  have XG := XG'
  have GL := GL'
  have HS := HS'
  clear HB' HX1' WL' XW' XG' GL' HS'
  have qHX1_0 := HX1.out.cell (i := 0) rfl
  have qHX1_1 := HX1.out.cell (i := 1) rfl
  have qHX1_2 := HX1.out.cell (i := 2) rfl
  go_wp2_with fail
  refine (toExpr_any op1 n1 k1 A1 c1 _ (HL1.out.up HB.out) hsz1).mono ?_
  rintro e w13 ⟨Ah1, ch1, rfl, hkh1, hch1, hlh1, halh1, hb⟩
  clear qHX1_0 qHX1_1 qHX1_2
  have HB' := Lib.hid (HB.out.trans (hb.mono HB.out.size))
  have HX1' := Lib.hid (HX1.out.below hb HX1.out.size)
  have WL' := Lib.hid (WL.out.below (hb.mono (by have hs := HS.out; omega)))
  have XW' := Lib.hid (XW.out.below hb XW.out.size)
  have XG' := Lib.hid (XG.out.below hb XG.out.size)
  have GL' := Lib.hid (GL.out.below (hb.mono (by have hs := HS.out; omega)))
  have HS' := Lib.hid (And.intro hb.size HS.out)
  clear hb HB HX1 WL XW XG GL HS
  have HB := HB'
  have HX1 := HX1'
  have WL := WL'
  have XW := XW'
  have XG := XG'
  have GL := GL'
  have HS := HS'
  clear HB' HX1' WL' XW' XG' GL' HS'
  go_wp2_with fail
  refine (implReb_any op1 n1 k1 Ah1 ch1 x2 _ (hlh1.mono_ (Nat.zero_le _) (Nat.le_refl _)) (Nat.le_trans hkh1 hch1)).mono ?_
  rintro e w14 ⟨Ah, ch, bsh, rfl, hth, hb⟩
  rw [← HY.out] at hth
  rw [← HY.out, ← HOK.out]
  have HB' := Lib.hid (HB.out.trans (hb.mono HB.out.size))
  have HX1' := Lib.hid (HX1.out.below hb HX1.out.size)
  have WL' := Lib.hid (WL.out.below (hb.mono (by have hs := HS.out; omega)))
  have XW' := Lib.hid (XW.out.below hb XW.out.size)
  have XG' := Lib.hid (XG.out.below hb XG.out.size)
  have GL' := Lib.hid (GL.out.below (hb.mono (by have hs := HS.out; omega)))
  have HS' := Lib.hid (And.intro hb.size HS.out)
  clear hb HB HX1 WL XW XG GL HS
  have HB := HB'
  have HX1 := HX1'
  have WL := WL'
  have XW := XW'
  have XG := XG'
  have GL := GL'
  have HS := HS'
  clear HB' HX1' WL' XW' XG' GL' HS'
  have HHL := Lib.hid (hth.lies fun z hz => (hth.lt z hz).2)
  clear hlh1 halh1
  clear hth
  obtain ⟨hb, r1⟩ := one_box w14 28 #[Value.int IntKind.i64 y.op, Value.int IntKind.i64 y.n, Value.slice Ah y.k.len ch]
  have HB' := Lib.hid (HB.out.trans (hb.mono HB.out.size))
  have HX1' := Lib.hid (HX1.out.below hb HX1.out.size)
  have WL' := Lib.hid (WL.out.below (hb.mono (by have hs := HS.out; omega)))
  have XW' := Lib.hid (XW.out.below hb XW.out.size)
  have XG' := Lib.hid (XG.out.below hb XG.out.size)
  have GL' := Lib.hid (GL.out.below (hb.mono (by have hs := HS.out; omega)))
  have HHL' := Lib.hid (HHL.out.below (hb.mono (by have hs := HS.out; omega)))
  have HS' := Lib.hid (And.intro hb.size HS.out)
  clear hb HB HX1 WL XW XG GL HHL HS
  have HB := HB'
  have HX1 := HX1'
  have WL := WL'
  have XW := XW'
  have XG := XG'
  have GL := GL'
  have HHL := HHL'
  have HS := HS'
  clear HB' HX1' WL' XW' XG' GL' HHL' HS'
  have XH := Lib.hid r1
  have HS' := Lib.hid (And.intro (show w14.heap.size + 1 ≤ (w14.alloc (Obj.cells #[Value.int IntKind.i64 y.op, Value.int IntKind.i64 y.n, Value.slice Ah y.k.len ch] 28)).heap.size from by simp) HS.out)
  clear HS r1
  have HS := HS'
  clear HS'
  have zXH_0 := XH.out.cell (i := 0) rfl
  have zXH_1 := XH.out.cell (i := 1) rfl
  have zXH_2 := XH.out.cell (i := 2) rfl
  have zXW_0 := XW.out.cell (i := 0) rfl
  have zXW_1 := XW.out.cell (i := 1) rfl
  have zXW_2 := XW.out.cell (i := 2) rfl
  go_wp2_with fail
  refine (eqExpr_any y.op y.n y.k Ah Aw ch cw _ (HHL.out.mono_ (Nat.zero_le _) (by have hs := HS.out; omega)) (WL.out.mono_ (Nat.zero_le _) (by have hs := HS.out; omega)) hys).mono ?_
  rintro e w15 ⟨rfl, hb⟩
  clear zXH_0 zXH_1 zXH_2 zXW_0 zXW_1 zXW_2
  have HB' := Lib.hid (HB.out.trans (hb.mono HB.out.size))
  have HX1' := Lib.hid (HX1.out.below hb HX1.out.size)
  have WL' := Lib.hid (WL.out.below (hb.mono (by have hs := HS.out; omega)))
  have XW' := Lib.hid (XW.out.below hb XW.out.size)
  have XG' := Lib.hid (XG.out.below hb XG.out.size)
  have GL' := Lib.hid (GL.out.below (hb.mono (by have hs := HS.out; omega)))
  have HHL' := Lib.hid (HHL.out.below (hb.mono (by have hs := HS.out; omega)))
  have XH' := Lib.hid (XH.out.below hb XH.out.size)
  have HS' := Lib.hid (And.intro hb.size HS.out)
  clear hb HB HX1 WL XW XG GL HHL XH HS
  have HB := HB'
  have HX1 := HX1'
  have WL := WL'
  have XW := XW'
  have XG := XG'
  have GL := GL'
  have HHL := HHL'
  have XH := XH'
  have HS := HS'
  clear HB' HX1' WL' XW' XG' GL' HHL' XH' HS'
  have zXG_0 := XG.out.cell (i := 0) rfl
  have zXG_1 := XG.out.cell (i := 1) rfl
  have zXG_2 := XG.out.cell (i := 2) rfl
  go_wp2_with fail
  refine (heldOwn_any y.op y.n y.k Ag cg _ 1 (GL.out.mono_ (Nat.zero_le _) (by have hs := HS.out; omega)) (by decide) (by omega)).mono ?_
  rintro e w16 ⟨rfl, hb⟩
  rw [HLL.out]
  clear zXG_0 zXG_1 zXG_2
  have HB' := Lib.hid (HB.out.trans (hb.mono HB.out.size))
  have HX1' := Lib.hid (HX1.out.below hb HX1.out.size)
  have WL' := Lib.hid (WL.out.below (hb.mono (by have hs := HS.out; omega)))
  have XW' := Lib.hid (XW.out.below hb XW.out.size)
  have XG' := Lib.hid (XG.out.below hb XG.out.size)
  have GL' := Lib.hid (GL.out.below (hb.mono (by have hs := HS.out; omega)))
  have HHL' := Lib.hid (HHL.out.below (hb.mono (by have hs := HS.out; omega)))
  have XH' := Lib.hid (XH.out.below hb XH.out.size)
  have HS' := Lib.hid (And.intro hb.size HS.out)
  clear hb HB HX1 WL XW XG GL HHL XH HS
  have HB := HB'
  have HX1 := HX1'
  have WL := WL'
  have XW := XW'
  have XG := XG'
  have GL := GL'
  have HHL := HHL'
  have XH := XH'
  have HS := HS'
  clear HB' HX1' WL' XW' XG' GL' HHL' XH' HS'
  go_wp2
  go_ret
  exact ⟨rfl, HB.out⟩
end Go.Proofs.Ytmnhoeliofojnaa
