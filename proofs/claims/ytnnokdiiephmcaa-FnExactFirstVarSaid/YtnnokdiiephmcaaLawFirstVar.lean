/-
  The walk of the law FnExactFirstVar: true at every argument (made by gen_law.py).
-/
import Derived.Test.YtnnokdiiephmcaaFirstT
import Derived.Test.YtnnokdiiephmcaaFirstIV
import Derived.Test.YtnnokdiiephmcaaTools
import Derived.Test.YtnnokdiiephmcaaFo
import Derived.Deep.RegionHeld3
namespace Go.Proofs.Ytnnokdiiephmcaa
open Go.RowKit
set_option maxRecDepth 100000

set_option maxHeartbeats 2000000 in
theorem law_FirstVar (ds1 : List De) (A1 : Option Addr) (c1 : Nat) (op2 n2 : Int) (k2 : Fo) (A2 : Option Addr) (c2 : Nat) (x3 : Int) (w : World) (hl1 : LiesD w 0 w.heap.size A1 ds1) (hlen1 : ds1.length ≤ maxLen) (hl2 : Lies w 0 w.heap.size A2 0 k2) (hlen2 : k2.len ≤ maxLen)  :
    Calls Try.prog 3 #[.slice A1 ds1.length c1, .agg #[.int .i64 op2, .int .i64 n2, .slice A2 k2.len c2], .int .i64 x3] w (Gives (.bool true) w) := by
  obtain ⟨z, hz⟩ : ∃ z, firstB ds1 op2 n2 k2 x3 = z := ⟨_, rfl⟩
  have HZz := Lib.hid hz
  clear hz
  obtain ⟨hb, r1⟩ := one_box w 25 #[Value.int IntKind.i64 op2, Value.int IntKind.i64 n2, Value.slice A2 k2.len c2]
  have HX2 := Lib.hid r1
  clear r1
  have HB := Lib.hid hb
  have HS := Lib.hid (And.intro hb.size (show w.heap.size + 1 ≤ (w.alloc (Obj.cells #[Value.int IntKind.i64 op2, Value.int IntKind.i64 n2, Value.slice A2 k2.len c2] 25)).heap.size from by simp))
  clear hb
  have HL1 := Lib.hid hl1
  clear hl1
  have HL2 := Lib.hid hl2
  clear hl2
  go_enter Try.func3, Try.ntmps3
  go_wp2_with fail
  refine (szDefS_any ds1 A1 c1 _ 1048576 (HL1.out.up HB.out) hlen1 (by decide) (by decide)).mono ?_
  rintro e w1 ⟨r1, rfl, hr1, hb⟩
  have HB' := Lib.hid (HB.out.trans (hb.mono HB.out.size))
  have HX2' := Lib.hid (HX2.out.below hb HX2.out.size)
  have HS' := Lib.hid (And.intro hb.size HS.out)
  clear hb HB HX2 HS
  have HB := HB'
  have HX2 := HX2'
  have HS := HS'
  clear HB' HX2' HS'
  rcases hr1 with rfl | ⟨hrz1, hr1⟩
  · go_wp2
    go_ret
    exact ⟨rfl, HB.out⟩
  have hsz1 : sizeD ds1 ≤ 1048576 := by omega
  have hrb1 : r1 ≤ 1048576 := by omega
  clear hr1
  have qHX2_0 := HX2.out.cell (i := 0) rfl
  have qHX2_1 := HX2.out.cell (i := 1) rfl
  have qHX2_2 := HX2.out.cell (i := 2) rfl
  go_wp2_with fail
  refine (szExpr_any op2 n2 k2 A2 c2 _ r1 (HL2.out.up HB.out) hlen2 hrz1 hrb1).mono ?_
  rintro e w2 ⟨r2, rfl, hr2, hb⟩
  clear qHX2_0 qHX2_1 qHX2_2
  have HB' := Lib.hid (HB.out.trans (hb.mono HB.out.size))
  have HX2' := Lib.hid (HX2.out.below hb HX2.out.size)
  have HS' := Lib.hid (And.intro hb.size HS.out)
  clear hb HB HX2 HS
  have HB := HB'
  have HX2 := HX2'
  have HS := HS'
  clear HB' HX2' HS'
  rcases hr2 with rfl | ⟨hrz2, hr2⟩
  · go_wp2
    go_ret
    exact ⟨rfl, HB.out⟩
  have hsz2 : k2.size ≤ 1048576 := by omega
  have hrb2 : r2 ≤ 1048576 := by omega
  clear hr2
  have qHX2_0 := HX2.out.cell (i := 0) rfl
  have qHX2_1 := HX2.out.cell (i := 1) rfl
  have qHX2_2 := HX2.out.cell (i := 2) rfl
  go_wp2_with fail
  have hb : Below w2.heap.size w2 w2.drew := (Below.refl _ _).drew
  have HB' := Lib.hid (HB.out.trans (hb.mono HB.out.size))
  have HX2' := Lib.hid (HX2.out.below hb HX2.out.size)
  have HS' := Lib.hid (And.intro hb.size HS.out)
  clear hb HB HX2 HS
  have HB := HB'
  have HX2 := HX2'
  have HS := HS'
  clear HB' HX2' HS'
  go_region_held3 (fun w' => w'.cell? ⟨w.heap.size, 0, none⟩ = some (Value.int IntKind.i64 op2) ∧ w'.cell? ⟨w.heap.size, 1, none⟩ = some (Value.int IntKind.i64 n2) ∧ w'.cell? ⟨w.heap.size, 2, none⟩ = some (Value.slice A2 k2.len c2))
    (first | exact ⟨qHX2_0, qHX2_1, qHX2_2⟩ | exact ⟨y0HX2_0, y0HX2_1, y0HX2_2⟩ | exact ⟨y1HX2_0, y1HX2_1, y1HX2_2⟩ | exact ⟨y2HX2_0, y2HX2_1, y2HX2_2⟩)
    (first
      | (go_at_call 6
         refine (specFirst_any ds1 As1 cs1 op2 n2 k2 As2 cs2 x3 _ ((hls1.mono_ (Nat.zero_le _) (Nat.le_refl _)).up hb4) (hls2.mono_ (Nat.zero_le _) (Nat.le_refl _)) hsz1 (Nat.le_trans hks2 hcs2) hsz2).mono ?_
         rintro e w5 ⟨rfl, hb5⟩
         rw [HZz.out]
         have y2HX2_0 := (hb5.cell (p := ⟨w.heap.size, 0, none⟩) (show w.heap.size < w4.heap.size by have hs := HS.out; have zhb3 := hb3.size; have zhb4 := hb4.size; omega)).trans y1HX2_0
         have y2HX2_1 := (hb5.cell (p := ⟨w.heap.size, 1, none⟩) (show w.heap.size < w4.heap.size by have hs := HS.out; have zhb3 := hb3.size; have zhb4 := hb4.size; omega)).trans y1HX2_1
         have y2HX2_2 := (hb5.cell (p := ⟨w.heap.size, 2, none⟩) (show w.heap.size < w4.heap.size by have hs := HS.out; have zhb3 := hb3.size; have zhb4 := hb4.size; omega)).trans y1HX2_2)
      | (go_at_call 8
         refine (toExpr_any op2 n2 k2 A2 c2 _ (HL2.out.up (HB.out.trans (hb3.mono (HB.out).size))) hsz2).mono ?_
         rintro e w4 ⟨As2, cs2, rfl, hks2, hcs2, hls2, hals2, hb4⟩
         have y1HX2_0 := (hb4.cell (p := ⟨w.heap.size, 0, none⟩) (show w.heap.size < w3.heap.size by have hs := HS.out; have zhb3 := hb3.size; omega)).trans y0HX2_0
         have y1HX2_1 := (hb4.cell (p := ⟨w.heap.size, 1, none⟩) (show w.heap.size < w3.heap.size by have hs := HS.out; have zhb3 := hb3.size; omega)).trans y0HX2_1
         have y1HX2_2 := (hb4.cell (p := ⟨w.heap.size, 2, none⟩) (show w.heap.size < w3.heap.size by have hs := HS.out; have zhb3 := hb3.size; omega)).trans y0HX2_2)
      | (go_at_call 7
         refine (toDefS_any ds1 A1 c1 _ (HL1.out.up HB.out) hsz1).mono ?_
         rintro e w3 ⟨As1, cs1, rfl, hks1, hcs1, hls1, hals1, hb3⟩
         have y0HX2_0 := (hb3.cell (p := ⟨w.heap.size, 0, none⟩) (show w.heap.size < w2.drew.heap.size by have hs := HS.out; omega)).trans qHX2_0
         have y0HX2_1 := (hb3.cell (p := ⟨w.heap.size, 1, none⟩) (show w.heap.size < w2.drew.heap.size by have hs := HS.out; omega)).trans qHX2_1
         have y0HX2_2 := (hb3.cell (p := ⟨w.heap.size, 2, none⟩) (show w.heap.size < w2.drew.heap.size by have hs := HS.out; omega)).trans qHX2_2))
  have hb : Below w2.drew.heap.size w2.drew w5 := ((hb3).trans (hb4.mono (hb3.size))).trans (hb5.mono (Nat.le_trans (hb3.size) hb4.size))
  have HB' := Lib.hid (HB.out.trans (hb.mono HB.out.size))
  have HX2' := Lib.hid (HX2.out.below hb HX2.out.size)
  have HS' := Lib.hid (And.intro hb.size HS.out)
  clear hb HB HX2 HS
  have HB := HB'
  have HX2 := HX2'
  have HS := HS'
  clear HB' HX2' HS'
  clear hb3 hb4 hb5 hls1 hals1 hls2 hals2 qHX2_0 qHX2_1 qHX2_2 y2HX2_0 y2HX2_1 y2HX2_2 y1HX2_0 y1HX2_1 y1HX2_2 y0HX2_0 y0HX2_1 y0HX2_2
  go_wp2_with fail
  refine (toDefS_any ds1 A1 c1 _ (HL1.out.up HB.out) hsz1).mono ?_
  rintro e w6 ⟨Ax1, cx1, rfl, hkx1, hcx1, hlx1, halx1, hb⟩
  have HB' := Lib.hid (HB.out.trans (hb.mono HB.out.size))
  have HX2' := Lib.hid (HX2.out.below hb HX2.out.size)
  have HS' := Lib.hid (And.intro hb.size HS.out)
  clear hb HB HX2 HS
  have HB := HB'
  have HX2 := HX2'
  have HS := HS'
  clear HB' HX2' HS'
  have XL1 := Lib.hid hlx1
  have XA1 := Lib.hid halx1
  clear hlx1 halx1
  have qHX2_0 := HX2.out.cell (i := 0) rfl
  have qHX2_1 := HX2.out.cell (i := 1) rfl
  have qHX2_2 := HX2.out.cell (i := 2) rfl
  go_wp2_with fail
  refine (toExpr_any op2 n2 k2 A2 c2 _ (HL2.out.up HB.out) hsz2).mono ?_
  rintro e w7 ⟨Ax2, cx2, rfl, hkx2, hcx2, hlx2, halx2, hb⟩
  clear qHX2_0 qHX2_1 qHX2_2
  have HB' := Lib.hid (HB.out.trans (hb.mono HB.out.size))
  have HX2' := Lib.hid (HX2.out.below hb HX2.out.size)
  have XL1' := Lib.hid (XL1.out.below (hb.mono (by have hs := HS.out; omega)))
  have XA1' := Lib.hid (XA1.out.below hb (by have hs := HS.out; omega))
  have HS' := Lib.hid (And.intro hb.size HS.out)
  clear hb HB HX2 XL1 XA1 HS
  have HB := HB'
  have HX2 := HX2'
  have XL1 := XL1'
  have XA1 := XA1'
  have HS := HS'
  clear HB' HX2' XL1' XA1' HS'
  have XL2 := Lib.hid hlx2
  have XA2 := Lib.hid halx2
  clear hlx2 halx2
  obtain ⟨hb, r1⟩ := one_box w7 33 #[Value.int IntKind.i64 op2, Value.int IntKind.i64 n2, Value.slice Ax2 k2.len cx2]
  have HB' := Lib.hid (HB.out.trans (hb.mono HB.out.size))
  have HX2' := Lib.hid (HX2.out.below hb HX2.out.size)
  have XL1' := Lib.hid (XL1.out.below (hb.mono (by have hs := HS.out; omega)))
  have XA1' := Lib.hid (XA1.out.below hb (by have hs := HS.out; omega))
  have XL2' := Lib.hid (XL2.out.below (hb.mono (by have hs := HS.out; omega)))
  have XA2' := Lib.hid (XA2.out.below hb (by have hs := HS.out; omega))
  have HS' := Lib.hid (And.intro hb.size HS.out)
  clear hb HB HX2 XL1 XA1 XL2 XA2 HS
  have HB := HB'
  have HX2 := HX2'
  have XL1 := XL1'
  have XA1 := XA1'
  have XL2 := XL2'
  have XA2 := XA2'
  have HS := HS'
  clear HB' HX2' XL1' XA1' XL2' XA2' HS'
  have XB2 := Lib.hid r1
  have HS' := Lib.hid (And.intro (show w7.heap.size + 1 ≤ (w7.alloc (Obj.cells #[Value.int IntKind.i64 op2, Value.int IntKind.i64 n2, Value.slice Ax2 k2.len cx2] 33)).heap.size from by simp) HS.out)
  clear HS r1
  have HS := HS'
  clear HS'
  have HC := Lib.hid (implFirst_any ds1 Ax1 cx1 op2 n2 k2 Ax2 cx2 x3 w5.heap.size w6.heap.size w6.heap.size w7.heap.size (w7.alloc (Obj.cells #[Value.int IntKind.i64 op2, Value.int IntKind.i64 n2, Value.slice Ax2 k2.len cx2] 33)) XL1.out (by have hs := HS.out; omega) XA1.out XL2.out (by have hs := HS.out; omega) XA2.out hsz1 hkx2 hcx2 hsz2)
  have xXB2_0 := XB2.out.cell (i := 0) rfl
  have xXB2_1 := XB2.out.cell (i := 1) rfl
  have xXB2_2 := XB2.out.cell (i := 2) rfl
  go_wp2_with fail
  refine HC.out.mono ?_
  rintro e w8 ⟨rfl, hb⟩
  rw [HZz.out]
  clear HC
  clear xXB2_0 xXB2_1 xXB2_2
  have HB' := Lib.hid (HB.out.trans (hb.mono HB.out.size))
  have HX2' := Lib.hid (HX2.out.below hb HX2.out.size)
  have XL1' := Lib.hid (XL1.out.below (hb.mono (by have hs := HS.out; omega)))
  have XA1' := Lib.hid (XA1.out.below hb (by have hs := HS.out; omega))
  have XL2' := Lib.hid (XL2.out.below (hb.mono (by have hs := HS.out; omega)))
  have XA2' := Lib.hid (XA2.out.below hb (by have hs := HS.out; omega))
  have XB2' := Lib.hid (XB2.out.below hb XB2.out.size)
  have HS' := Lib.hid (And.intro hb.size HS.out)
  clear hb HB HX2 XL1 XA1 XL2 XA2 XB2 HS
  have HB := HB'
  have HX2 := HX2'
  have XL1 := XL1'
  have XA1 := XA1'
  have XL2 := XL2'
  have XA2 := XA2'
  have XB2 := XB2'
  have HS := HS'
  clear HB' HX2' XL1' XA1' XL2' XA2' XB2' HS'
  go_wp2_with fail
  refine (toDefS_any ds1 A1 c1 _ (HL1.out.up HB.out) hsz1).mono ?_
  rintro e w9 ⟨At1, ct1, rfl, hkt1, hct1, hlt1, halt1, hb⟩
  have HB' := Lib.hid (HB.out.trans (hb.mono HB.out.size))
  have HX2' := Lib.hid (HX2.out.below hb HX2.out.size)
  have XL1' := Lib.hid (XL1.out.below (hb.mono (by have hs := HS.out; omega)))
  have XA1' := Lib.hid (XA1.out.below hb (by have hs := HS.out; omega))
  have XL2' := Lib.hid (XL2.out.below (hb.mono (by have hs := HS.out; omega)))
  have XA2' := Lib.hid (XA2.out.below hb (by have hs := HS.out; omega))
  have XB2' := Lib.hid (XB2.out.below hb XB2.out.size)
  have HS' := Lib.hid (And.intro hb.size HS.out)
  clear hb HB HX2 XL1 XA1 XL2 XA2 XB2 HS
  have HB := HB'
  have HX2 := HX2'
  have XL1 := XL1'
  have XA1 := XA1'
  have XL2 := XL2'
  have XA2 := XA2'
  have XB2 := XB2'
  have HS := HS'
  clear HB' HX2' XL1' XA1' XL2' XA2' XB2' HS'
  go_wp2_with fail
  refine (eqDefS_any ds1 Ax1 At1 cx1 ct1 _ (XL1.out.mono_ (Nat.zero_le _) (by have hs := HS.out; omega)) (hlt1.mono_ (Nat.zero_le _) (Nat.le_refl _)) hsz1).mono ?_
  rintro e w10 ⟨rfl, hb⟩
  clear hlt1 halt1
  have HB' := Lib.hid (HB.out.trans (hb.mono HB.out.size))
  have HX2' := Lib.hid (HX2.out.below hb HX2.out.size)
  have XL1' := Lib.hid (XL1.out.below (hb.mono (by have hs := HS.out; omega)))
  have XA1' := Lib.hid (XA1.out.below hb (by have hs := HS.out; omega))
  have XL2' := Lib.hid (XL2.out.below (hb.mono (by have hs := HS.out; omega)))
  have XA2' := Lib.hid (XA2.out.below hb (by have hs := HS.out; omega))
  have XB2' := Lib.hid (XB2.out.below hb XB2.out.size)
  have HS' := Lib.hid (And.intro hb.size HS.out)
  clear hb HB HX2 XL1 XA1 XL2 XA2 XB2 HS
  have HB := HB'
  have HX2 := HX2'
  have XL1 := XL1'
  have XA1 := XA1'
  have XL2 := XL2'
  have XA2 := XA2'
  have XB2 := XB2'
  have HS := HS'
  clear HB' HX2' XL1' XA1' XL2' XA2' XB2' HS'
  have qXB2_0 := XB2.out.cell (i := 0) rfl
  have qXB2_1 := XB2.out.cell (i := 1) rfl
  have qXB2_2 := XB2.out.cell (i := 2) rfl
  have qHX2_0 := HX2.out.cell (i := 0) rfl
  have qHX2_1 := HX2.out.cell (i := 1) rfl
  have qHX2_2 := HX2.out.cell (i := 2) rfl
  go_wp2_with fail
  have hb : Below w10.heap.size w10 w10.drew := (Below.refl _ _).drew
  have HB' := Lib.hid (HB.out.trans (hb.mono HB.out.size))
  have HX2' := Lib.hid (HX2.out.below hb HX2.out.size)
  have XL1' := Lib.hid (XL1.out.below (hb.mono (by have hs := HS.out; omega)))
  have XA1' := Lib.hid (XA1.out.below hb (by have hs := HS.out; omega))
  have XL2' := Lib.hid (XL2.out.below (hb.mono (by have hs := HS.out; omega)))
  have XA2' := Lib.hid (XA2.out.below hb (by have hs := HS.out; omega))
  have XB2' := Lib.hid (XB2.out.below hb XB2.out.size)
  have HS' := Lib.hid (And.intro hb.size HS.out)
  clear hb HB HX2 XL1 XA1 XL2 XA2 XB2 HS
  have HB := HB'
  have HX2 := HX2'
  have XL1 := XL1'
  have XA1 := XA1'
  have XL2 := XL2'
  have XA2 := XA2'
  have XB2 := XB2'
  have HS := HS'
  clear HB' HX2' XL1' XA1' XL2' XA2' XB2' HS'
  go_region_held3 (fun w' => w'.cell? ⟨w7.heap.size, 0, none⟩ = some (Value.int IntKind.i64 op2) ∧ w'.cell? ⟨w7.heap.size, 1, none⟩ = some (Value.int IntKind.i64 n2) ∧ w'.cell? ⟨w7.heap.size, 2, none⟩ = some (Value.slice Ax2 k2.len cx2) ∧ w'.cell? ⟨w.heap.size, 0, none⟩ = some (Value.int IntKind.i64 op2) ∧ w'.cell? ⟨w.heap.size, 1, none⟩ = some (Value.int IntKind.i64 n2) ∧ w'.cell? ⟨w.heap.size, 2, none⟩ = some (Value.slice A2 k2.len c2))
    (first | exact ⟨qXB2_0, qXB2_1, qXB2_2, qHX2_0, qHX2_1, qHX2_2⟩ | exact ⟨y0XB2_0, y0XB2_1, y0XB2_2, y0HX2_0, y0HX2_1, y0HX2_2⟩ | exact ⟨y1XB2_0, y1XB2_1, y1XB2_2, y1HX2_0, y1HX2_1, y1HX2_2⟩)
    (first
      | (go_at_call 11
         refine (eqExpr_any op2 n2 k2 Ax2 At2 cx2 ct2 _ ((XL2.out.mono_ (Nat.zero_le _) (by have hs := HS.out; omega)).up hb11) (hlt2.mono_ (Nat.zero_le _) (Nat.le_refl _)) hsz2).mono ?_
         rintro e w12 ⟨rfl, hb12⟩
         have y1XB2_0 := (hb12.cell (p := ⟨w7.heap.size, 0, none⟩) (show w7.heap.size < w11.heap.size by have hs := HS.out; have zhb11 := hb11.size; omega)).trans y0XB2_0
         have y1XB2_1 := (hb12.cell (p := ⟨w7.heap.size, 1, none⟩) (show w7.heap.size < w11.heap.size by have hs := HS.out; have zhb11 := hb11.size; omega)).trans y0XB2_1
         have y1XB2_2 := (hb12.cell (p := ⟨w7.heap.size, 2, none⟩) (show w7.heap.size < w11.heap.size by have hs := HS.out; have zhb11 := hb11.size; omega)).trans y0XB2_2
         have y1HX2_0 := (hb12.cell (p := ⟨w.heap.size, 0, none⟩) (show w.heap.size < w11.heap.size by have hs := HS.out; have zhb11 := hb11.size; omega)).trans y0HX2_0
         have y1HX2_1 := (hb12.cell (p := ⟨w.heap.size, 1, none⟩) (show w.heap.size < w11.heap.size by have hs := HS.out; have zhb11 := hb11.size; omega)).trans y0HX2_1
         have y1HX2_2 := (hb12.cell (p := ⟨w.heap.size, 2, none⟩) (show w.heap.size < w11.heap.size by have hs := HS.out; have zhb11 := hb11.size; omega)).trans y0HX2_2)
      | (go_at_call 8
         refine (toExpr_any op2 n2 k2 A2 c2 _ (HL2.out.up HB.out) hsz2).mono ?_
         rintro e w11 ⟨At2, ct2, rfl, hkt2, hct2, hlt2, halt2, hb11⟩
         have y0XB2_0 := (hb11.cell (p := ⟨w7.heap.size, 0, none⟩) (show w7.heap.size < w10.drew.heap.size by have hs := HS.out; omega)).trans qXB2_0
         have y0XB2_1 := (hb11.cell (p := ⟨w7.heap.size, 1, none⟩) (show w7.heap.size < w10.drew.heap.size by have hs := HS.out; omega)).trans qXB2_1
         have y0XB2_2 := (hb11.cell (p := ⟨w7.heap.size, 2, none⟩) (show w7.heap.size < w10.drew.heap.size by have hs := HS.out; omega)).trans qXB2_2
         have y0HX2_0 := (hb11.cell (p := ⟨w.heap.size, 0, none⟩) (show w.heap.size < w10.drew.heap.size by have hs := HS.out; omega)).trans qHX2_0
         have y0HX2_1 := (hb11.cell (p := ⟨w.heap.size, 1, none⟩) (show w.heap.size < w10.drew.heap.size by have hs := HS.out; omega)).trans qHX2_1
         have y0HX2_2 := (hb11.cell (p := ⟨w.heap.size, 2, none⟩) (show w.heap.size < w10.drew.heap.size by have hs := HS.out; omega)).trans qHX2_2))
  have hb : Below w10.drew.heap.size w10.drew w12 := (hb11).trans (hb12.mono (hb11.size))
  clear hb11 hb12 hlt2 halt2 qXB2_0 qXB2_1 qXB2_2 qHX2_0 qHX2_1 qHX2_2 y0XB2_0 y0XB2_1 y0XB2_2 y0HX2_0 y0HX2_1 y0HX2_2 y1XB2_0 y1XB2_1 y1XB2_2 y1HX2_0 y1HX2_1 y1HX2_2
  have HB' := Lib.hid (HB.out.trans (hb.mono HB.out.size))
  have HX2' := Lib.hid (HX2.out.below hb HX2.out.size)
  have XL1' := Lib.hid (XL1.out.below (hb.mono (by have hs := HS.out; omega)))
  have XA1' := Lib.hid (XA1.out.below hb (by have hs := HS.out; omega))
  have XL2' := Lib.hid (XL2.out.below (hb.mono (by have hs := HS.out; omega)))
  have XA2' := Lib.hid (XA2.out.below hb (by have hs := HS.out; omega))
  have XB2' := Lib.hid (XB2.out.below hb XB2.out.size)
  have HS' := Lib.hid (And.intro hb.size HS.out)
  clear hb HB HX2 XL1 XA1 XL2 XA2 XB2 HS
  have HB := HB'
  have HX2 := HX2'
  have XL1 := XL1'
  have XA1 := XA1'
  have XL2 := XL2'
  have XA2 := XA2'
  have XB2 := XB2'
  have HS := HS'
  clear HB' HX2' XL1' XA1' XL2' XA2' XB2' HS'
  go_wp2
  go_ret
  exact ⟨rfl, HB.out⟩
end Go.Proofs.Ytnnokdiiephmcaa
