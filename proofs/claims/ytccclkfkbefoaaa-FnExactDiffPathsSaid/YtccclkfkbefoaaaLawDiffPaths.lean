/-
  The walk of the law FnExactDiffPaths: true at every argument (made by gen_law.py).
-/
import Derived.Test.YtccclkfkbefoaaaDiffsS
import Derived.Test.YtccclkfkbefoaaaSsM
import Derived.Test.YtccclkfkbefoaaaNodeM
import Derived.Test.YtccclkfkbefoaaaTools
import Derived.Test.YtccclkfkbefoaaaMk
import Derived.Test.YtccclkfkbefoaaaInts
import Derived.Test.YtccclkfkbefoaaaIntsM
import Derived.Test.YtccclkfkbefoaaaFo
import Derived.Deep.RegionHeld3
namespace Go.Proofs.Ytccclkfkbefoaaa
open Go.RowKit
set_option maxRecDepth 100000

set_option maxHeartbeats 4000000 in
theorem law_DiffPaths (op1 n1 : Int) (k1 : Fo) (A1 : Option Addr) (c1 : Nat) (op2 n2 : Int) (k2 : Fo) (A2 : Option Addr) (c2 : Nat) (w : World) (hl1 : Lies w 0 w.heap.size A1 0 k1) (hlen1 : k1.len ≤ maxLen) (hl2 : Lies w 0 w.heap.size A2 0 k2) (hlen2 : k2.len ≤ maxLen) :
    Calls Try.prog 7 #[.agg #[.int .i64 op1, .int .i64 n1, .slice A1 k1.len c1], .agg #[.int .i64 op2, .int .i64 n2, .slice A2 k2.len c2]] w (Gives (.bool true) w) := by
  obtain ⟨zss, hzss⟩ : ∃ z : List (List Int), z = diffB ⟨op1, n1, k1⟩ ⟨op2, n2, k2⟩ := ⟨_, rfl⟩
  have hzl : zss.length ≤ 1048576 := by rw [hzss]; exact Nat.le_trans (diffB_len _ _) (by decide)
  have hzf : zss.flatten.length ≤ 1048576 := by rw [hzss]; exact diffB_flat _ _
  have HZS := Lib.hid hzss
  clear hzss
  obtain ⟨hb, r1, r2⟩ := two_boxes w 24 24 #[Value.int IntKind.i64 op1, Value.int IntKind.i64 n1, Value.slice A1 k1.len c1] #[Value.int IntKind.i64 op2, Value.int IntKind.i64 n2, Value.slice A2 k2.len c2]
  have HX1 := Lib.hid r1
  have HX2 := Lib.hid r2
  clear r1 r2
  have HB := Lib.hid hb
  have HS := Lib.hid (And.intro hb.size (show w.heap.size + 2 ≤ ((w.alloc (Obj.cells #[Value.int IntKind.i64 op1, Value.int IntKind.i64 n1, Value.slice A1 k1.len c1] 24)).alloc (Obj.cells #[Value.int IntKind.i64 op2, Value.int IntKind.i64 n2, Value.slice A2 k2.len c2] 24)).heap.size from by simp))
  clear hb
  have HL1 := Lib.hid hl1
  clear hl1
  have HL2 := Lib.hid hl2
  clear hl2
  go_enter Try.func7, Try.ntmps7
  go_wp2_with fail
  refine (szExpr_any op1 n1 k1 A1 c1 _ 1048576 (HL1.out.up HB.out) hlen1 (by decide) (by decide)).mono ?_
  rintro e w1 ⟨r1, rfl, hr1, hb⟩
  have HB' := Lib.hid (HB.out.trans (hb.mono HB.out.size))
  have HX1' := Lib.hid (HX1.out.below hb HX1.out.size)
  have HX2' := Lib.hid (HX2.out.below hb HX2.out.size)
  have HS' := Lib.hid (And.intro hb.size HS.out)
  clear hb HB HX1 HX2 HS
  have HB := HB'
  have HX1 := HX1'
  have HX2 := HX2'
  have HS := HS'
  clear HB' HX1' HX2' HS'
  rcases hr1 with rfl | ⟨hrz1, hr1⟩
  · go_wp2
    go_ret
    exact ⟨rfl, HB.out⟩
  have hsz1 : k1.size ≤ 1048576 := by omega
  have hrb1 : r1 ≤ 1048576 := by omega
  clear hr1
  have qHX2_0 := HX2.out.cell (i := 0) rfl
  have qHX2_1 := HX2.out.cell (i := 1) rfl
  have qHX2_2 := HX2.out.cell (i := 2) rfl
  go_wp2_with fail
  refine (szExpr_any op2 n2 k2 A2 c2 _ r1 (HL2.out.up HB.out) hlen2 hrz1 hrb1).mono ?_
  rintro e w2 ⟨r2, rfl, hr2, hb⟩
  clear qHX2_0 qHX2_1 qHX2_2
  have HB' := Lib.hid (HB.out.trans (hb.mono HB.out.size))
  have HX1' := Lib.hid (HX1.out.below hb HX1.out.size)
  have HX2' := Lib.hid (HX2.out.below hb HX2.out.size)
  have HS' := Lib.hid (And.intro hb.size HS.out)
  clear hb HB HX1 HX2 HS
  have HB := HB'
  have HX1 := HX1'
  have HX2 := HX2'
  have HS := HS'
  clear HB' HX1' HX2' HS'
  rcases hr2 with rfl | ⟨hrz2, hr2⟩
  · go_wp2
    go_ret
    exact ⟨rfl, HB.out⟩
  have hsz2 : k2.size ≤ 1048576 := by omega
  have hrb2 : r2 ≤ 1048576 := by omega
  clear hr2
  have qHX1_0 := HX1.out.cell (i := 0) rfl
  have qHX1_1 := HX1.out.cell (i := 1) rfl
  have qHX1_2 := HX1.out.cell (i := 2) rfl
  have qHX2_0 := HX2.out.cell (i := 0) rfl
  have qHX2_1 := HX2.out.cell (i := 1) rfl
  have qHX2_2 := HX2.out.cell (i := 2) rfl
  go_wp2_with fail
  have hb : Below w2.heap.size w2 w2.drew := (Below.refl _ _).drew
  have HB' := Lib.hid (HB.out.trans (hb.mono HB.out.size))
  have HX1' := Lib.hid (HX1.out.below hb HX1.out.size)
  have HX2' := Lib.hid (HX2.out.below hb HX2.out.size)
  have HS' := Lib.hid (And.intro hb.size HS.out)
  clear hb HB HX1 HX2 HS
  have HB := HB'
  have HX1 := HX1'
  have HX2 := HX2'
  have HS := HS'
  clear HB' HX1' HX2' HS'
  go_region_held3 (fun w' => w'.cell? ⟨w.heap.size, 0, none⟩ = some (Value.int IntKind.i64 op1) ∧ w'.cell? ⟨w.heap.size, 1, none⟩ = some (Value.int IntKind.i64 n1) ∧ w'.cell? ⟨w.heap.size, 2, none⟩ = some (Value.slice A1 k1.len c1) ∧ w'.cell? ⟨w.heap.size + 1, 0, none⟩ = some (Value.int IntKind.i64 op2) ∧ w'.cell? ⟨w.heap.size + 1, 1, none⟩ = some (Value.int IntKind.i64 n2) ∧ w'.cell? ⟨w.heap.size + 1, 2, none⟩ = some (Value.slice A2 k2.len c2))
    (first | exact ⟨qHX1_0, qHX1_1, qHX1_2, qHX2_0, qHX2_1, qHX2_2⟩ | exact ⟨y0HX1_0, y0HX1_1, y0HX1_2, y0HX2_0, y0HX2_1, y0HX2_2⟩ | exact ⟨y1HX1_0, y1HX1_1, y1HX1_2, y1HX2_0, y1HX2_1, y1HX2_2⟩ | exact ⟨y2HX1_0, y2HX1_1, y2HX1_2, y2HX2_0, y2HX2_1, y2HX2_2⟩)
    (first
      | (go_at_call 27
         refine (specDiffs_any op1 n1 op2 n2 k1 k2 As1 As2 cs1 cs2 _ ((hls1.mono_ (Nat.zero_le _) (Nat.le_refl _)).up hb4) (hls2.mono_ (Nat.zero_le _) (Nat.le_refl _)) (Nat.le_trans hks1 hcs1) (Nat.le_trans hks2 hcs2)).mono ?_
         rintro e w5 ⟨Aw, cw, bsw, rfl, how, hb5⟩
         rw [← HZS.out] at how
         rw [← HZS.out]
         have y2HX1_0 := (hb5.cell (p := ⟨w.heap.size, 0, none⟩) (show w.heap.size < w4.heap.size by have hs := HS.out; have zhb3 := hb3.size; have zhb4 := hb4.size; omega)).trans y1HX1_0
         have y2HX1_1 := (hb5.cell (p := ⟨w.heap.size, 1, none⟩) (show w.heap.size < w4.heap.size by have hs := HS.out; have zhb3 := hb3.size; have zhb4 := hb4.size; omega)).trans y1HX1_1
         have y2HX1_2 := (hb5.cell (p := ⟨w.heap.size, 2, none⟩) (show w.heap.size < w4.heap.size by have hs := HS.out; have zhb3 := hb3.size; have zhb4 := hb4.size; omega)).trans y1HX1_2
         have y2HX2_0 := (hb5.cell (p := ⟨w.heap.size + 1, 0, none⟩) (show w.heap.size + 1 < w4.heap.size by have hs := HS.out; have zhb3 := hb3.size; have zhb4 := hb4.size; omega)).trans y1HX2_0
         have y2HX2_1 := (hb5.cell (p := ⟨w.heap.size + 1, 1, none⟩) (show w.heap.size + 1 < w4.heap.size by have hs := HS.out; have zhb3 := hb3.size; have zhb4 := hb4.size; omega)).trans y1HX2_1
         have y2HX2_2 := (hb5.cell (p := ⟨w.heap.size + 1, 2, none⟩) (show w.heap.size + 1 < w4.heap.size by have hs := HS.out; have zhb3 := hb3.size; have zhb4 := hb4.size; omega)).trans y1HX2_2)
      | (go_at_call 10
         refine (toExpr_any op2 n2 k2 A2 c2 _ (HL2.out.up (HB.out.trans (hb3.mono (HB.out).size))) hsz2).mono ?_
         rintro e w4 ⟨As2, cs2, rfl, hks2, hcs2, hls2, hals2, hb4⟩
         have y1HX1_0 := (hb4.cell (p := ⟨w.heap.size, 0, none⟩) (show w.heap.size < w3.heap.size by have hs := HS.out; have zhb3 := hb3.size; omega)).trans y0HX1_0
         have y1HX1_1 := (hb4.cell (p := ⟨w.heap.size, 1, none⟩) (show w.heap.size < w3.heap.size by have hs := HS.out; have zhb3 := hb3.size; omega)).trans y0HX1_1
         have y1HX1_2 := (hb4.cell (p := ⟨w.heap.size, 2, none⟩) (show w.heap.size < w3.heap.size by have hs := HS.out; have zhb3 := hb3.size; omega)).trans y0HX1_2
         have y1HX2_0 := (hb4.cell (p := ⟨w.heap.size + 1, 0, none⟩) (show w.heap.size + 1 < w3.heap.size by have hs := HS.out; have zhb3 := hb3.size; omega)).trans y0HX2_0
         have y1HX2_1 := (hb4.cell (p := ⟨w.heap.size + 1, 1, none⟩) (show w.heap.size + 1 < w3.heap.size by have hs := HS.out; have zhb3 := hb3.size; omega)).trans y0HX2_1
         have y1HX2_2 := (hb4.cell (p := ⟨w.heap.size + 1, 2, none⟩) (show w.heap.size + 1 < w3.heap.size by have hs := HS.out; have zhb3 := hb3.size; omega)).trans y0HX2_2)
      | (go_at_call 10
         refine (toExpr_any op1 n1 k1 A1 c1 _ (HL1.out.up HB.out) hsz1).mono ?_
         rintro e w3 ⟨As1, cs1, rfl, hks1, hcs1, hls1, hals1, hb3⟩
         have y0HX1_0 := (hb3.cell (p := ⟨w.heap.size, 0, none⟩) (show w.heap.size < w2.drew.heap.size by have hs := HS.out; omega)).trans qHX1_0
         have y0HX1_1 := (hb3.cell (p := ⟨w.heap.size, 1, none⟩) (show w.heap.size < w2.drew.heap.size by have hs := HS.out; omega)).trans qHX1_1
         have y0HX1_2 := (hb3.cell (p := ⟨w.heap.size, 2, none⟩) (show w.heap.size < w2.drew.heap.size by have hs := HS.out; omega)).trans qHX1_2
         have y0HX2_0 := (hb3.cell (p := ⟨w.heap.size + 1, 0, none⟩) (show w.heap.size + 1 < w2.drew.heap.size by have hs := HS.out; omega)).trans qHX2_0
         have y0HX2_1 := (hb3.cell (p := ⟨w.heap.size + 1, 1, none⟩) (show w.heap.size + 1 < w2.drew.heap.size by have hs := HS.out; omega)).trans qHX2_1
         have y0HX2_2 := (hb3.cell (p := ⟨w.heap.size + 1, 2, none⟩) (show w.heap.size + 1 < w2.drew.heap.size by have hs := HS.out; omega)).trans qHX2_2))
  have hb : Below w2.drew.heap.size w2.drew w5 := ((hb3).trans (hb4.mono (hb3.size))).trans (hb5.mono (Nat.le_trans (hb3.size) hb4.size))
  have HB' := Lib.hid (HB.out.trans (hb.mono HB.out.size))
  have HX1' := Lib.hid (HX1.out.below hb HX1.out.size)
  have HX2' := Lib.hid (HX2.out.below hb HX2.out.size)
  have HS' := Lib.hid (And.intro hb.size HS.out)
  clear hb HB HX1 HX2 HS
  have HB := HB'
  have HX1 := HX1'
  have HX2 := HX2'
  have HS := HS'
  clear HB' HX1' HX2' HS'
  have WI := Lib.hid (how.lies)
  clear hb3 hb4 hb5 hls1 hals1 hls2 hals2 qHX1_0 qHX1_1 qHX1_2 qHX2_0 qHX2_1 qHX2_2 y2HX1_0 y2HX1_1 y2HX1_2 y2HX2_0 y2HX2_1 y2HX2_2 y1HX1_0 y1HX1_1 y1HX1_2 y1HX2_0 y1HX2_1 y1HX2_2 y0HX1_0 y0HX1_1 y0HX1_2 y0HX2_0 y0HX2_1 y0HX2_2
  clear how
  have qHX1_0 := HX1.out.cell (i := 0) rfl
  have qHX1_1 := HX1.out.cell (i := 1) rfl
  have qHX1_2 := HX1.out.cell (i := 2) rfl
  go_wp2_with fail
  refine (toExpr_any op1 n1 k1 A1 c1 _ (HL1.out.up HB.out) hsz1).mono ?_
  rintro e w6 ⟨Ax1, cx1, rfl, hkx1, hcx1, hlx1, halx1, hb⟩
  clear qHX1_0 qHX1_1 qHX1_2
  have HB' := Lib.hid (HB.out.trans (hb.mono HB.out.size))
  have HX1' := Lib.hid (HX1.out.below hb HX1.out.size)
  have HX2' := Lib.hid (HX2.out.below hb HX2.out.size)
  have WI' := Lib.hid (WI.out.below (hb.mono (by have hs := HS.out; omega)))
  have HS' := Lib.hid (And.intro hb.size HS.out)
  clear hb HB HX1 HX2 WI HS
  have HB := HB'
  have HX1 := HX1'
  have HX2 := HX2'
  have WI := WI'
  have HS := HS'
  clear HB' HX1' HX2' WI' HS'
  have XL1 := Lib.hid hlx1
  have XA1 := Lib.hid halx1
  clear hlx1 halx1
  obtain ⟨hb, r1⟩ := one_box w6 29 #[Value.int IntKind.i64 op1, Value.int IntKind.i64 n1, Value.slice Ax1 k1.len cx1]
  have HB' := Lib.hid (HB.out.trans (hb.mono HB.out.size))
  have HX1' := Lib.hid (HX1.out.below hb HX1.out.size)
  have HX2' := Lib.hid (HX2.out.below hb HX2.out.size)
  have WI' := Lib.hid (WI.out.below (hb.mono (by have hs := HS.out; omega)))
  have XL1' := Lib.hid (XL1.out.below (hb.mono (by have hs := HS.out; omega)))
  have XA1' := Lib.hid (XA1.out.below hb (by have hs := HS.out; omega))
  have HS' := Lib.hid (And.intro hb.size HS.out)
  clear hb HB HX1 HX2 WI XL1 XA1 HS
  have HB := HB'
  have HX1 := HX1'
  have HX2 := HX2'
  have WI := WI'
  have XL1 := XL1'
  have XA1 := XA1'
  have HS := HS'
  clear HB' HX1' HX2' WI' XL1' XA1' HS'
  have XB1 := Lib.hid r1
  have HS' := Lib.hid (And.intro (show w6.heap.size + 1 ≤ (w6.alloc (Obj.cells #[Value.int IntKind.i64 op1, Value.int IntKind.i64 n1, Value.slice Ax1 k1.len cx1] 29)).heap.size from by simp) HS.out)
  clear HS r1
  have HS := HS'
  clear HS'
  have qHX2_0 := HX2.out.cell (i := 0) rfl
  have qHX2_1 := HX2.out.cell (i := 1) rfl
  have qHX2_2 := HX2.out.cell (i := 2) rfl
  go_wp2_with fail
  refine (toExpr_any op2 n2 k2 A2 c2 _ (HL2.out.up HB.out) hsz2).mono ?_
  rintro e w7 ⟨Ax2, cx2, rfl, hkx2, hcx2, hlx2, halx2, hb⟩
  clear qHX2_0 qHX2_1 qHX2_2
  have HB' := Lib.hid (HB.out.trans (hb.mono HB.out.size))
  have HX1' := Lib.hid (HX1.out.below hb HX1.out.size)
  have HX2' := Lib.hid (HX2.out.below hb HX2.out.size)
  have WI' := Lib.hid (WI.out.below (hb.mono (by have hs := HS.out; omega)))
  have XL1' := Lib.hid (XL1.out.below (hb.mono (by have hs := HS.out; omega)))
  have XA1' := Lib.hid (XA1.out.below hb (by have hs := HS.out; omega))
  have XB1' := Lib.hid (XB1.out.below hb XB1.out.size)
  have HS' := Lib.hid (And.intro hb.size HS.out)
  clear hb HB HX1 HX2 WI XL1 XA1 XB1 HS
  have HB := HB'
  have HX1 := HX1'
  have HX2 := HX2'
  have WI := WI'
  have XL1 := XL1'
  have XA1 := XA1'
  have XB1 := XB1'
  have HS := HS'
  clear HB' HX1' HX2' WI' XL1' XA1' XB1' HS'
  have XL2 := Lib.hid hlx2
  have XA2 := Lib.hid halx2
  clear hlx2 halx2
  obtain ⟨hb, r1⟩ := one_box w7 29 #[Value.int IntKind.i64 op2, Value.int IntKind.i64 n2, Value.slice Ax2 k2.len cx2]
  have HB' := Lib.hid (HB.out.trans (hb.mono HB.out.size))
  have HX1' := Lib.hid (HX1.out.below hb HX1.out.size)
  have HX2' := Lib.hid (HX2.out.below hb HX2.out.size)
  have WI' := Lib.hid (WI.out.below (hb.mono (by have hs := HS.out; omega)))
  have XL1' := Lib.hid (XL1.out.below (hb.mono (by have hs := HS.out; omega)))
  have XA1' := Lib.hid (XA1.out.below hb (by have hs := HS.out; omega))
  have XB1' := Lib.hid (XB1.out.below hb XB1.out.size)
  have XL2' := Lib.hid (XL2.out.below (hb.mono (by have hs := HS.out; omega)))
  have XA2' := Lib.hid (XA2.out.below hb (by have hs := HS.out; omega))
  have HS' := Lib.hid (And.intro hb.size HS.out)
  clear hb HB HX1 HX2 WI XL1 XA1 XB1 XL2 XA2 HS
  have HB := HB'
  have HX1 := HX1'
  have HX2 := HX2'
  have WI := WI'
  have XL1 := XL1'
  have XA1 := XA1'
  have XB1 := XB1'
  have XL2 := XL2'
  have XA2 := XA2'
  have HS := HS'
  clear HB' HX1' HX2' WI' XL1' XA1' XB1' XL2' XA2' HS'
  have XB2 := Lib.hid r1
  have HS' := Lib.hid (And.intro (show w7.heap.size + 1 ≤ (w7.alloc (Obj.cells #[Value.int IntKind.i64 op2, Value.int IntKind.i64 n2, Value.slice Ax2 k2.len cx2] 29)).heap.size from by simp) HS.out)
  clear HS r1
  have HS := HS'
  clear HS'
  have HC := Lib.hid (implDiffs_any op1 n1 op2 n2 k1 k2 Ax1 Ax2 cx1 cx2 (w7.alloc (Obj.cells #[Value.int IntKind.i64 op2, Value.int IntKind.i64 n2, Value.slice Ax2 k2.len cx2] 29)) (XL1.out.mono_ (Nat.zero_le _) (by have hs := HS.out; omega)) (XL2.out.mono_ (Nat.zero_le _) (by have hs := HS.out; omega)) (Nat.le_trans hkx1 hcx1) (Nat.le_trans hkx2 hcx2))
  have xXB1_0 := XB1.out.cell (i := 0) rfl
  have xXB1_1 := XB1.out.cell (i := 1) rfl
  have xXB1_2 := XB1.out.cell (i := 2) rfl
  have xXB2_0 := XB2.out.cell (i := 0) rfl
  have xXB2_1 := XB2.out.cell (i := 1) rfl
  have xXB2_2 := XB2.out.cell (i := 2) rfl
  go_wp2_with fail
  refine HC.out.mono ?_
  rintro e w8 ⟨Ag, cg, bsg, rfl, hog, hb⟩
  rw [← HZS.out] at hog
  rw [← HZS.out]
  clear HC
  clear xXB1_0 xXB1_1 xXB1_2 xXB2_0 xXB2_1 xXB2_2
  have HB' := Lib.hid (HB.out.trans (hb.mono HB.out.size))
  have HX1' := Lib.hid (HX1.out.below hb HX1.out.size)
  have HX2' := Lib.hid (HX2.out.below hb HX2.out.size)
  have WI' := Lib.hid (WI.out.below (hb.mono (by have hs := HS.out; omega)))
  have XL1' := Lib.hid (XL1.out.below (hb.mono (by have hs := HS.out; omega)))
  have XA1' := Lib.hid (XA1.out.below hb (by have hs := HS.out; omega))
  have XB1' := Lib.hid (XB1.out.below hb XB1.out.size)
  have XL2' := Lib.hid (XL2.out.below (hb.mono (by have hs := HS.out; omega)))
  have XA2' := Lib.hid (XA2.out.below hb (by have hs := HS.out; omega))
  have XB2' := Lib.hid (XB2.out.below hb XB2.out.size)
  have HS' := Lib.hid (And.intro hb.size HS.out)
  clear hb HB HX1 HX2 WI XL1 XA1 XB1 XL2 XA2 XB2 HS
  have HB := HB'
  have HX1 := HX1'
  have HX2 := HX2'
  have WI := WI'
  have XL1 := XL1'
  have XA1 := XA1'
  have XB1 := XB1'
  have XL2 := XL2'
  have XA2 := XA2'
  have XB2 := XB2'
  have HS := HS'
  clear HB' HX1' HX2' WI' XL1' XA1' XB1' XL2' XA2' XB2' HS'
  have GB := Lib.hid (show ∀ z, z ∈ bsg → (w7.alloc (Obj.cells #[Value.int IntKind.i64 op2, Value.int IntKind.i64 n2, Value.slice Ax2 k2.len cx2] 29)).heap.size ≤ z ∧ z < w8.heap.size from fun z hz => hog.lt z hz)
  have GO := Lib.hid hog
  clear hog
  go_wp2_with fail
  refine (eqIntSS_any zss Ag Aw cg cw _ GO.out.lies0 (WI.out.mono_ (Nat.zero_le _) (by have hs := HS.out; omega)) hzl hzf).mono ?_
  rintro e w9 ⟨rfl, hb⟩
  have HB' := Lib.hid (HB.out.trans (hb.mono HB.out.size))
  have HX1' := Lib.hid (HX1.out.below hb HX1.out.size)
  have HX2' := Lib.hid (HX2.out.below hb HX2.out.size)
  have WI' := Lib.hid (WI.out.below (hb.mono (by have hs := HS.out; omega)))
  have XL1' := Lib.hid (XL1.out.below (hb.mono (by have hs := HS.out; omega)))
  have XA1' := Lib.hid (XA1.out.below hb (by have hs := HS.out; omega))
  have XB1' := Lib.hid (XB1.out.below hb XB1.out.size)
  have XL2' := Lib.hid (XL2.out.below (hb.mono (by have hs := HS.out; omega)))
  have XA2' := Lib.hid (XA2.out.below hb (by have hs := HS.out; omega))
  have XB2' := Lib.hid (XB2.out.below hb XB2.out.size)
  have GO' := Lib.hid (GO.out.over hb)
  have HS' := Lib.hid (And.intro hb.size HS.out)
  clear hb HB HX1 HX2 WI XL1 XA1 XB1 XL2 XA2 XB2 GO HS
  have HB := HB'
  have HX1 := HX1'
  have HX2 := HX2'
  have WI := WI'
  have XL1 := XL1'
  have XA1 := XA1'
  have XB1 := XB1'
  have XL2 := XL2'
  have XA2 := XA2'
  have XB2 := XB2'
  have GO := GO'
  have HS := HS'
  clear HB' HX1' HX2' WI' XL1' XA1' XB1' XL2' XA2' XB2' GO' HS'
  have qXB1_0 := XB1.out.cell (i := 0) rfl
  have qXB1_1 := XB1.out.cell (i := 1) rfl
  have qXB1_2 := XB1.out.cell (i := 2) rfl
  have qHX1_0 := HX1.out.cell (i := 0) rfl
  have qHX1_1 := HX1.out.cell (i := 1) rfl
  have qHX1_2 := HX1.out.cell (i := 2) rfl
  go_wp2_with fail
  have hb : Below w9.heap.size w9 w9.drew := (Below.refl _ _).drew
  have HB' := Lib.hid (HB.out.trans (hb.mono HB.out.size))
  have HX1' := Lib.hid (HX1.out.below hb HX1.out.size)
  have HX2' := Lib.hid (HX2.out.below hb HX2.out.size)
  have WI' := Lib.hid (WI.out.below (hb.mono (by have hs := HS.out; omega)))
  have XL1' := Lib.hid (XL1.out.below (hb.mono (by have hs := HS.out; omega)))
  have XA1' := Lib.hid (XA1.out.below hb (by have hs := HS.out; omega))
  have XB1' := Lib.hid (XB1.out.below hb XB1.out.size)
  have XL2' := Lib.hid (XL2.out.below (hb.mono (by have hs := HS.out; omega)))
  have XA2' := Lib.hid (XA2.out.below hb (by have hs := HS.out; omega))
  have XB2' := Lib.hid (XB2.out.below hb XB2.out.size)
  have GO' := Lib.hid (GO.out.over hb)
  have HS' := Lib.hid (And.intro hb.size HS.out)
  clear hb HB HX1 HX2 WI XL1 XA1 XB1 XL2 XA2 XB2 GO HS
  have HB := HB'
  have HX1 := HX1'
  have HX2 := HX2'
  have WI := WI'
  have XL1 := XL1'
  have XA1 := XA1'
  have XB1 := XB1'
  have XL2 := XL2'
  have XA2 := XA2'
  have XB2 := XB2'
  have GO := GO'
  have HS := HS'
  clear HB' HX1' HX2' WI' XL1' XA1' XB1' XL2' XA2' XB2' GO' HS'
  go_region_held3 (fun w' => w'.cell? ⟨w6.heap.size, 0, none⟩ = some (Value.int IntKind.i64 op1) ∧ w'.cell? ⟨w6.heap.size, 1, none⟩ = some (Value.int IntKind.i64 n1) ∧ w'.cell? ⟨w6.heap.size, 2, none⟩ = some (Value.slice Ax1 k1.len cx1) ∧ w'.cell? ⟨w.heap.size, 0, none⟩ = some (Value.int IntKind.i64 op1) ∧ w'.cell? ⟨w.heap.size, 1, none⟩ = some (Value.int IntKind.i64 n1) ∧ w'.cell? ⟨w.heap.size, 2, none⟩ = some (Value.slice A1 k1.len c1))
    (first | exact ⟨qXB1_0, qXB1_1, qXB1_2, qHX1_0, qHX1_1, qHX1_2⟩ | exact ⟨y0XB1_0, y0XB1_1, y0XB1_2, y0HX1_0, y0HX1_1, y0HX1_2⟩ | exact ⟨y1XB1_0, y1XB1_1, y1XB1_2, y1HX1_0, y1HX1_1, y1HX1_2⟩)
    (first
      | (go_at_call 13
         refine (eqExpr_any op1 n1 k1 Ax1 At1 cx1 ct1 _ ((XL1.out.mono_ (Nat.zero_le _) (by have hs := HS.out; omega)).up hb10) (hlt1.mono_ (Nat.zero_le _) (Nat.le_refl _)) hsz1).mono ?_
         rintro e w11 ⟨rfl, hb11⟩
         have y1XB1_0 := (hb11.cell (p := ⟨w6.heap.size, 0, none⟩) (show w6.heap.size < w10.heap.size by have hs := HS.out; have zhb10 := hb10.size; omega)).trans y0XB1_0
         have y1XB1_1 := (hb11.cell (p := ⟨w6.heap.size, 1, none⟩) (show w6.heap.size < w10.heap.size by have hs := HS.out; have zhb10 := hb10.size; omega)).trans y0XB1_1
         have y1XB1_2 := (hb11.cell (p := ⟨w6.heap.size, 2, none⟩) (show w6.heap.size < w10.heap.size by have hs := HS.out; have zhb10 := hb10.size; omega)).trans y0XB1_2
         have y1HX1_0 := (hb11.cell (p := ⟨w.heap.size, 0, none⟩) (show w.heap.size < w10.heap.size by have hs := HS.out; have zhb10 := hb10.size; omega)).trans y0HX1_0
         have y1HX1_1 := (hb11.cell (p := ⟨w.heap.size, 1, none⟩) (show w.heap.size < w10.heap.size by have hs := HS.out; have zhb10 := hb10.size; omega)).trans y0HX1_1
         have y1HX1_2 := (hb11.cell (p := ⟨w.heap.size, 2, none⟩) (show w.heap.size < w10.heap.size by have hs := HS.out; have zhb10 := hb10.size; omega)).trans y0HX1_2)
      | (go_at_call 10
         refine (toExpr_any op1 n1 k1 A1 c1 _ (HL1.out.up HB.out) hsz1).mono ?_
         rintro e w10 ⟨At1, ct1, rfl, hkt1, hct1, hlt1, halt1, hb10⟩
         have y0XB1_0 := (hb10.cell (p := ⟨w6.heap.size, 0, none⟩) (show w6.heap.size < w9.drew.heap.size by have hs := HS.out; omega)).trans qXB1_0
         have y0XB1_1 := (hb10.cell (p := ⟨w6.heap.size, 1, none⟩) (show w6.heap.size < w9.drew.heap.size by have hs := HS.out; omega)).trans qXB1_1
         have y0XB1_2 := (hb10.cell (p := ⟨w6.heap.size, 2, none⟩) (show w6.heap.size < w9.drew.heap.size by have hs := HS.out; omega)).trans qXB1_2
         have y0HX1_0 := (hb10.cell (p := ⟨w.heap.size, 0, none⟩) (show w.heap.size < w9.drew.heap.size by have hs := HS.out; omega)).trans qHX1_0
         have y0HX1_1 := (hb10.cell (p := ⟨w.heap.size, 1, none⟩) (show w.heap.size < w9.drew.heap.size by have hs := HS.out; omega)).trans qHX1_1
         have y0HX1_2 := (hb10.cell (p := ⟨w.heap.size, 2, none⟩) (show w.heap.size < w9.drew.heap.size by have hs := HS.out; omega)).trans qHX1_2))
  have hb : Below w9.drew.heap.size w9.drew w11 := (hb10).trans (hb11.mono (hb10.size))
  clear hb10 hb11 hlt1 halt1 qXB1_0 qXB1_1 qXB1_2 qHX1_0 qHX1_1 qHX1_2 y0XB1_0 y0XB1_1 y0XB1_2 y0HX1_0 y0HX1_1 y0HX1_2 y1XB1_0 y1XB1_1 y1XB1_2 y1HX1_0 y1HX1_1 y1HX1_2
  have HB' := Lib.hid (HB.out.trans (hb.mono HB.out.size))
  have HX1' := Lib.hid (HX1.out.below hb HX1.out.size)
  have HX2' := Lib.hid (HX2.out.below hb HX2.out.size)
  have WI' := Lib.hid (WI.out.below (hb.mono (by have hs := HS.out; omega)))
  have XL1' := Lib.hid (XL1.out.below (hb.mono (by have hs := HS.out; omega)))
  have XA1' := Lib.hid (XA1.out.below hb (by have hs := HS.out; omega))
  have XB1' := Lib.hid (XB1.out.below hb XB1.out.size)
  have XL2' := Lib.hid (XL2.out.below (hb.mono (by have hs := HS.out; omega)))
  have XA2' := Lib.hid (XA2.out.below hb (by have hs := HS.out; omega))
  have XB2' := Lib.hid (XB2.out.below hb XB2.out.size)
  have GO' := Lib.hid (GO.out.over hb)
  have HS' := Lib.hid (And.intro hb.size HS.out)
  clear hb HB HX1 HX2 WI XL1 XA1 XB1 XL2 XA2 XB2 GO HS
  have HB := HB'
  have HX1 := HX1'
  have HX2 := HX2'
  have WI := WI'
  have XL1 := XL1'
  have XA1 := XA1'
  have XB1 := XB1'
  have XL2 := XL2'
  have XA2 := XA2'
  have XB2 := XB2'
  have GO := GO'
  have HS := HS'
  clear HB' HX1' HX2' WI' XL1' XA1' XB1' XL2' XA2' XB2' GO' HS'
  have qXB2_0 := XB2.out.cell (i := 0) rfl
  have qXB2_1 := XB2.out.cell (i := 1) rfl
  have qXB2_2 := XB2.out.cell (i := 2) rfl
  have qHX2_0 := HX2.out.cell (i := 0) rfl
  have qHX2_1 := HX2.out.cell (i := 1) rfl
  have qHX2_2 := HX2.out.cell (i := 2) rfl
  go_wp2_with fail
  have hb : Below w11.heap.size w11 w11.drew := (Below.refl _ _).drew
  have HB' := Lib.hid (HB.out.trans (hb.mono HB.out.size))
  have HX1' := Lib.hid (HX1.out.below hb HX1.out.size)
  have HX2' := Lib.hid (HX2.out.below hb HX2.out.size)
  have WI' := Lib.hid (WI.out.below (hb.mono (by have hs := HS.out; omega)))
  have XL1' := Lib.hid (XL1.out.below (hb.mono (by have hs := HS.out; omega)))
  have XA1' := Lib.hid (XA1.out.below hb (by have hs := HS.out; omega))
  have XB1' := Lib.hid (XB1.out.below hb XB1.out.size)
  have XL2' := Lib.hid (XL2.out.below (hb.mono (by have hs := HS.out; omega)))
  have XA2' := Lib.hid (XA2.out.below hb (by have hs := HS.out; omega))
  have XB2' := Lib.hid (XB2.out.below hb XB2.out.size)
  have GO' := Lib.hid (GO.out.over hb)
  have HS' := Lib.hid (And.intro hb.size HS.out)
  clear hb HB HX1 HX2 WI XL1 XA1 XB1 XL2 XA2 XB2 GO HS
  have HB := HB'
  have HX1 := HX1'
  have HX2 := HX2'
  have WI := WI'
  have XL1 := XL1'
  have XA1 := XA1'
  have XB1 := XB1'
  have XL2 := XL2'
  have XA2 := XA2'
  have XB2 := XB2'
  have GO := GO'
  have HS := HS'
  clear HB' HX1' HX2' WI' XL1' XA1' XB1' XL2' XA2' XB2' GO' HS'
  go_region_held3 (fun w' => w'.cell? ⟨w7.heap.size, 0, none⟩ = some (Value.int IntKind.i64 op2) ∧ w'.cell? ⟨w7.heap.size, 1, none⟩ = some (Value.int IntKind.i64 n2) ∧ w'.cell? ⟨w7.heap.size, 2, none⟩ = some (Value.slice Ax2 k2.len cx2) ∧ w'.cell? ⟨w.heap.size + 1, 0, none⟩ = some (Value.int IntKind.i64 op2) ∧ w'.cell? ⟨w.heap.size + 1, 1, none⟩ = some (Value.int IntKind.i64 n2) ∧ w'.cell? ⟨w.heap.size + 1, 2, none⟩ = some (Value.slice A2 k2.len c2))
    (first | exact ⟨qXB2_0, qXB2_1, qXB2_2, qHX2_0, qHX2_1, qHX2_2⟩ | exact ⟨y0XB2_0, y0XB2_1, y0XB2_2, y0HX2_0, y0HX2_1, y0HX2_2⟩ | exact ⟨y1XB2_0, y1XB2_1, y1XB2_2, y1HX2_0, y1HX2_1, y1HX2_2⟩)
    (first
      | (go_at_call 13
         refine (eqExpr_any op2 n2 k2 Ax2 At2 cx2 ct2 _ ((XL2.out.mono_ (Nat.zero_le _) (by have hs := HS.out; omega)).up hb12) (hlt2.mono_ (Nat.zero_le _) (Nat.le_refl _)) hsz2).mono ?_
         rintro e w13 ⟨rfl, hb13⟩
         have y1XB2_0 := (hb13.cell (p := ⟨w7.heap.size, 0, none⟩) (show w7.heap.size < w12.heap.size by have hs := HS.out; have zhb12 := hb12.size; omega)).trans y0XB2_0
         have y1XB2_1 := (hb13.cell (p := ⟨w7.heap.size, 1, none⟩) (show w7.heap.size < w12.heap.size by have hs := HS.out; have zhb12 := hb12.size; omega)).trans y0XB2_1
         have y1XB2_2 := (hb13.cell (p := ⟨w7.heap.size, 2, none⟩) (show w7.heap.size < w12.heap.size by have hs := HS.out; have zhb12 := hb12.size; omega)).trans y0XB2_2
         have y1HX2_0 := (hb13.cell (p := ⟨w.heap.size + 1, 0, none⟩) (show w.heap.size + 1 < w12.heap.size by have hs := HS.out; have zhb12 := hb12.size; omega)).trans y0HX2_0
         have y1HX2_1 := (hb13.cell (p := ⟨w.heap.size + 1, 1, none⟩) (show w.heap.size + 1 < w12.heap.size by have hs := HS.out; have zhb12 := hb12.size; omega)).trans y0HX2_1
         have y1HX2_2 := (hb13.cell (p := ⟨w.heap.size + 1, 2, none⟩) (show w.heap.size + 1 < w12.heap.size by have hs := HS.out; have zhb12 := hb12.size; omega)).trans y0HX2_2)
      | (go_at_call 10
         refine (toExpr_any op2 n2 k2 A2 c2 _ (HL2.out.up HB.out) hsz2).mono ?_
         rintro e w12 ⟨At2, ct2, rfl, hkt2, hct2, hlt2, halt2, hb12⟩
         have y0XB2_0 := (hb12.cell (p := ⟨w7.heap.size, 0, none⟩) (show w7.heap.size < w11.drew.heap.size by have hs := HS.out; omega)).trans qXB2_0
         have y0XB2_1 := (hb12.cell (p := ⟨w7.heap.size, 1, none⟩) (show w7.heap.size < w11.drew.heap.size by have hs := HS.out; omega)).trans qXB2_1
         have y0XB2_2 := (hb12.cell (p := ⟨w7.heap.size, 2, none⟩) (show w7.heap.size < w11.drew.heap.size by have hs := HS.out; omega)).trans qXB2_2
         have y0HX2_0 := (hb12.cell (p := ⟨w.heap.size + 1, 0, none⟩) (show w.heap.size + 1 < w11.drew.heap.size by have hs := HS.out; omega)).trans qHX2_0
         have y0HX2_1 := (hb12.cell (p := ⟨w.heap.size + 1, 1, none⟩) (show w.heap.size + 1 < w11.drew.heap.size by have hs := HS.out; omega)).trans qHX2_1
         have y0HX2_2 := (hb12.cell (p := ⟨w.heap.size + 1, 2, none⟩) (show w.heap.size + 1 < w11.drew.heap.size by have hs := HS.out; omega)).trans qHX2_2))
  have hb : Below w11.drew.heap.size w11.drew w13 := (hb12).trans (hb13.mono (hb12.size))
  clear hb12 hb13 hlt2 halt2 qXB2_0 qXB2_1 qXB2_2 qHX2_0 qHX2_1 qHX2_2 y0XB2_0 y0XB2_1 y0XB2_2 y0HX2_0 y0HX2_1 y0HX2_2 y1XB2_0 y1XB2_1 y1XB2_2 y1HX2_0 y1HX2_1 y1HX2_2
  have HB' := Lib.hid (HB.out.trans (hb.mono HB.out.size))
  have HX1' := Lib.hid (HX1.out.below hb HX1.out.size)
  have HX2' := Lib.hid (HX2.out.below hb HX2.out.size)
  have WI' := Lib.hid (WI.out.below (hb.mono (by have hs := HS.out; omega)))
  have XL1' := Lib.hid (XL1.out.below (hb.mono (by have hs := HS.out; omega)))
  have XA1' := Lib.hid (XA1.out.below hb (by have hs := HS.out; omega))
  have XB1' := Lib.hid (XB1.out.below hb XB1.out.size)
  have XL2' := Lib.hid (XL2.out.below (hb.mono (by have hs := HS.out; omega)))
  have XA2' := Lib.hid (XA2.out.below hb (by have hs := HS.out; omega))
  have XB2' := Lib.hid (XB2.out.below hb XB2.out.size)
  have GO' := Lib.hid (GO.out.over hb)
  have HS' := Lib.hid (And.intro hb.size HS.out)
  clear hb HB HX1 HX2 WI XL1 XA1 XB1 XL2 XA2 XB2 GO HS
  have HB := HB'
  have HX1 := HX1'
  have HX2 := HX2'
  have WI := WI'
  have XL1 := XL1'
  have XA1 := XA1'
  have XB1 := XB1'
  have XL2 := XL2'
  have XA2 := XA2'
  have XB2 := XB2'
  have GO := GO'
  have HS := HS'
  clear HB' HX1' HX2' WI' XL1' XA1' XB1' XL2' XA2' XB2' GO' HS'
  have xXB1_0 := XB1.out.cell (i := 0) rfl
  have xXB1_1 := XB1.out.cell (i := 1) rfl
  have xXB1_2 := XB1.out.cell (i := 2) rfl
  go_wp2_with fail
  refine (mkExpr_any w5.heap.size w6.heap.size op1 n1 k1 Ax1 cx1 _ 1 (Lies.sk XA1.out XL1.out) (by decide) (by omega)).mono ?_
  rintro e w14 ⟨kk1, rfl, hka1, hkb1, hm⟩
  clear xXB1_0 xXB1_1 xXB1_2
  have HB' := Lib.hid (hm.below HB.out (by have hs := HS.out; omega) (Nat.le_refl _))
  have HX1' := Lib.hid (hm.row HX1.out (by have hs := HS.out; omega))
  have HX2' := Lib.hid (hm.row HX2.out (by have hs := HS.out; omega))
  have WI' := Lib.hid (WI.out.keep (Nat.le_refl _) (Nat.le_refl _) fun p h1 h2 => hm.cell (by have hs := HS.out; omega) (by have hs := HS.out; omega))
  have XB1' := Lib.hid (hm.row XB1.out (by have hs := HS.out; omega))
  have XL2' := Lib.hid (XL2.out.keep (Nat.le_refl _) (Nat.le_refl _) fun p h1 h2 => hm.cell (by have hs := HS.out; omega) (by have hs := HS.out; omega))
  have XA2' := Lib.hid (hm.rows XA2.out)
  have XB2' := Lib.hid (hm.row XB2.out (by have hs := HS.out; omega))
  have GO' := Lib.hid (hm.ss GO.out (by have hs := HS.out; omega))
  have HS' := Lib.hid (And.intro hm.size HS.out)
  clear hm HB HX1 HX2 WI XB1 XL2 XA2 XB2 GO HS
  have HB := HB'
  have HX1 := HX1'
  have HX2 := HX2'
  have WI := WI'
  have XB1 := XB1'
  have XL2 := XL2'
  have XA2 := XA2'
  have XB2 := XB2'
  have GO := GO'
  have HS := HS'
  clear HB' HX1' HX2' WI' XB1' XL2' XA2' XB2' GO' HS'
  clear XL1 XA1
  have hk01 : 0 ≤ kk1 := by omega
  have xXB2_0 := XB2.out.cell (i := 0) rfl
  have xXB2_1 := XB2.out.cell (i := 1) rfl
  have xXB2_2 := XB2.out.cell (i := 2) rfl
  go_wp2_with fail
  refine (mkExpr_any (w6.alloc (Obj.cells #[Value.int IntKind.i64 op1, Value.int IntKind.i64 n1, Value.slice Ax1 k1.len cx1] 29)).heap.size w7.heap.size op2 n2 k2 Ax2 cx2 _ kk1 (Lies.sk XA2.out XL2.out) hk01 (by omega)).mono ?_
  rintro e w15 ⟨kk2, rfl, hka2, hkb2, hm⟩
  clear xXB2_0 xXB2_1 xXB2_2
  have HB' := Lib.hid (hm.below HB.out (by have hs := HS.out; omega) (Nat.le_refl _))
  have HX1' := Lib.hid (hm.row HX1.out (by have hs := HS.out; omega))
  have HX2' := Lib.hid (hm.row HX2.out (by have hs := HS.out; omega))
  have WI' := Lib.hid (WI.out.keep (Nat.le_refl _) (Nat.le_refl _) fun p h1 h2 => hm.cell (by have hs := HS.out; omega) (by have hs := HS.out; omega))
  have XB1' := Lib.hid (hm.row XB1.out (by have hs := HS.out; omega))
  have XB2' := Lib.hid (hm.row XB2.out (by have hs := HS.out; omega))
  have GO' := Lib.hid (hm.ss GO.out (by have hs := HS.out; omega))
  have HS' := Lib.hid (And.intro hm.size HS.out)
  clear hm HB HX1 HX2 WI XB1 XB2 GO HS
  have HB := HB'
  have HX1 := HX1'
  have HX2 := HX2'
  have WI := WI'
  have XB1 := XB1'
  have XB2 := XB2'
  have GO := GO'
  have HS := HS'
  clear HB' HX1' HX2' WI' XB1' XB2' GO' HS'
  clear XL2 XA2
  have hk02 : 0 ≤ kk2 := by omega
  go_wp2_with fail
  refine (eqIntSS_any zss Ag Aw cg cw _ GO.out.lies0 (WI.out.mono_ (Nat.zero_le _) (by have hs := HS.out; omega)) hzl hzf).mono ?_
  rintro e w16 ⟨rfl, hb⟩
  have HB' := Lib.hid (HB.out.trans (hb.mono HB.out.size))
  have HX1' := Lib.hid (HX1.out.below hb HX1.out.size)
  have HX2' := Lib.hid (HX2.out.below hb HX2.out.size)
  have WI' := Lib.hid (WI.out.below (hb.mono (by have hs := HS.out; omega)))
  have XB1' := Lib.hid (XB1.out.below hb XB1.out.size)
  have XB2' := Lib.hid (XB2.out.below hb XB2.out.size)
  have GO' := Lib.hid (GO.out.over hb)
  have HS' := Lib.hid (And.intro hb.size HS.out)
  clear hb HB HX1 HX2 WI XB1 XB2 GO HS
  have HB := HB'
  have HX1 := HX1'
  have HX2 := HX2'
  have WI := WI'
  have XB1 := XB1'
  have XB2 := XB2'
  have GO := GO'
  have HS := HS'
  clear HB' HX1' HX2' WI' XB1' XB2' GO' HS'
  clear XB1
  clear XB2
  go_wp2_with fail
  refine (markSS_any zss Ag cg _ bsg _ 1 GO.out hzl hzf (by decide) (by decide)).mono ?_
  rintro e w17 ⟨rfl, hom, hon⟩
  clear GO
  have HB' := Lib.hid (HB.out.trans (hon.below (fun z hz => by have hg := GB.out _ hz; have hs := HS.out; omega) HB.out.size))
  have HX1' := Lib.hid (hon.row HX1.out (fun hz => by have hg := GB.out _ hz; have hs := HS.out; omega))
  have HX2' := Lib.hid (hon.row HX2.out (fun hz => by have hg := GB.out _ hz; have hs := HS.out; omega))
  have WI' := Lib.hid (WI.out.keep (Nat.le_refl _) (Nat.le_refl _) fun p h1 h2 => hon.cell (by have hs := HS.out; omega) (fun hz => by have hg := GB.out _ hz; have hs := HS.out; omega))
  have HS' := Lib.hid (And.intro hon.size HS.out)
  clear hon HB HX1 HX2 WI HS
  have HB := HB'
  have HX1 := HX1'
  have HX2 := HX2'
  have WI := WI'
  have HS := HS'
  clear HB' HX1' HX2' WI' HS'
  have GM := Lib.hid hom
  clear hom
  have hzp : (1 : Int) + (zss.flatten.length : Int) ≤ 1048577 := by omega
  have hz0 : (0 : Int) ≤ 1 + (zss.flatten.length : Int) := by omega
  generalize hll : (1 : Int) + (zss.flatten.length : Int) = ll at hzp hz0
  have HLL := Lib.hid hll
  clear hll
  go_wp2_with fail
  refine (heldSS_any zss Ag cg _ bsg _ 1 GM.out hzl hzf (by decide) (by decide)).mono ?_
  rintro e w18 ⟨rfl, hb⟩
  rw [HLL.out]
  have HB' := Lib.hid (HB.out.trans (hb.mono HB.out.size))
  have HX1' := Lib.hid (HX1.out.below hb HX1.out.size)
  have HX2' := Lib.hid (HX2.out.below hb HX2.out.size)
  have WI' := Lib.hid (WI.out.below (hb.mono (by have hs := HS.out; omega)))
  have GM' := Lib.hid (GM.out.over hb)
  have HS' := Lib.hid (And.intro hb.size HS.out)
  clear hb HB HX1 HX2 WI GM HS
  have HB := HB'
  have HX1 := HX1'
  have HX2 := HX2'
  have WI := WI'
  have GM := GM'
  have HS := HS'
  clear HB' HX1' HX2' WI' GM' HS'
  have qHX1_0 := HX1.out.cell (i := 0) rfl
  have qHX1_1 := HX1.out.cell (i := 1) rfl
  have qHX1_2 := HX1.out.cell (i := 2) rfl
  have qHX2_0 := HX2.out.cell (i := 0) rfl
  have qHX2_1 := HX2.out.cell (i := 1) rfl
  have qHX2_2 := HX2.out.cell (i := 2) rfl
  go_wp2_with fail
  have hb : Below w18.heap.size w18 w18.drew := (Below.refl _ _).drew
  have HB' := Lib.hid (HB.out.trans (hb.mono HB.out.size))
  have HX1' := Lib.hid (HX1.out.below hb HX1.out.size)
  have HX2' := Lib.hid (HX2.out.below hb HX2.out.size)
  have WI' := Lib.hid (WI.out.below (hb.mono (by have hs := HS.out; omega)))
  have GM' := Lib.hid (GM.out.over hb)
  have HS' := Lib.hid (And.intro hb.size HS.out)
  clear hb HB HX1 HX2 WI GM HS
  have HB := HB'
  have HX1 := HX1'
  have HX2 := HX2'
  have WI := WI'
  have GM := GM'
  have HS := HS'
  clear HB' HX1' HX2' WI' GM' HS'
  go_region_held3 (fun w' => w'.cell? ⟨w.heap.size, 0, none⟩ = some (Value.int IntKind.i64 op1) ∧ w'.cell? ⟨w.heap.size, 1, none⟩ = some (Value.int IntKind.i64 n1) ∧ w'.cell? ⟨w.heap.size, 2, none⟩ = some (Value.slice A1 k1.len c1) ∧ w'.cell? ⟨w.heap.size + 1, 0, none⟩ = some (Value.int IntKind.i64 op2) ∧ w'.cell? ⟨w.heap.size + 1, 1, none⟩ = some (Value.int IntKind.i64 n2) ∧ w'.cell? ⟨w.heap.size + 1, 2, none⟩ = some (Value.slice A2 k2.len c2))
    (first | exact ⟨qHX1_0, qHX1_1, qHX1_2, qHX2_0, qHX2_1, qHX2_2⟩ | exact ⟨y0HX1_0, y0HX1_1, y0HX1_2, y0HX2_0, y0HX2_1, y0HX2_2⟩ | exact ⟨y1HX1_0, y1HX1_1, y1HX1_2, y1HX2_0, y1HX2_1, y1HX2_2⟩ | exact ⟨y2HX1_0, y2HX1_1, y2HX1_2, y2HX2_0, y2HX2_1, y2HX2_2⟩)
    (first
      | (go_at_call 28
         refine (implDiffs_any op1 n1 op2 n2 k1 k2 Ah1 Ah2 ch1 ch2 _ ((hlh1.mono_ (Nat.zero_le _) (Nat.le_refl _)).up hb20) (hlh2.mono_ (Nat.zero_le _) (Nat.le_refl _)) (Nat.le_trans hkh1 hch1) (Nat.le_trans hkh2 hch2)).mono ?_
         rintro e w21 ⟨Ah, ch, bsh, rfl, hoh, hb21⟩
         rw [← HZS.out] at hoh
         rw [← HZS.out]
         have y2HX1_0 := (hb21.cell (p := ⟨w.heap.size, 0, none⟩) (show w.heap.size < w20.heap.size by have hs := HS.out; have zhb19 := hb19.size; have zhb20 := hb20.size; omega)).trans y1HX1_0
         have y2HX1_1 := (hb21.cell (p := ⟨w.heap.size, 1, none⟩) (show w.heap.size < w20.heap.size by have hs := HS.out; have zhb19 := hb19.size; have zhb20 := hb20.size; omega)).trans y1HX1_1
         have y2HX1_2 := (hb21.cell (p := ⟨w.heap.size, 2, none⟩) (show w.heap.size < w20.heap.size by have hs := HS.out; have zhb19 := hb19.size; have zhb20 := hb20.size; omega)).trans y1HX1_2
         have y2HX2_0 := (hb21.cell (p := ⟨w.heap.size + 1, 0, none⟩) (show w.heap.size + 1 < w20.heap.size by have hs := HS.out; have zhb19 := hb19.size; have zhb20 := hb20.size; omega)).trans y1HX2_0
         have y2HX2_1 := (hb21.cell (p := ⟨w.heap.size + 1, 1, none⟩) (show w.heap.size + 1 < w20.heap.size by have hs := HS.out; have zhb19 := hb19.size; have zhb20 := hb20.size; omega)).trans y1HX2_1
         have y2HX2_2 := (hb21.cell (p := ⟨w.heap.size + 1, 2, none⟩) (show w.heap.size + 1 < w20.heap.size by have hs := HS.out; have zhb19 := hb19.size; have zhb20 := hb20.size; omega)).trans y1HX2_2)
      | (go_at_call 10
         refine (toExpr_any op2 n2 k2 A2 c2 _ (HL2.out.up (HB.out.trans (hb19.mono (HB.out).size))) hsz2).mono ?_
         rintro e w20 ⟨Ah2, ch2, rfl, hkh2, hch2, hlh2, halh2, hb20⟩
         have y1HX1_0 := (hb20.cell (p := ⟨w.heap.size, 0, none⟩) (show w.heap.size < w19.heap.size by have hs := HS.out; have zhb19 := hb19.size; omega)).trans y0HX1_0
         have y1HX1_1 := (hb20.cell (p := ⟨w.heap.size, 1, none⟩) (show w.heap.size < w19.heap.size by have hs := HS.out; have zhb19 := hb19.size; omega)).trans y0HX1_1
         have y1HX1_2 := (hb20.cell (p := ⟨w.heap.size, 2, none⟩) (show w.heap.size < w19.heap.size by have hs := HS.out; have zhb19 := hb19.size; omega)).trans y0HX1_2
         have y1HX2_0 := (hb20.cell (p := ⟨w.heap.size + 1, 0, none⟩) (show w.heap.size + 1 < w19.heap.size by have hs := HS.out; have zhb19 := hb19.size; omega)).trans y0HX2_0
         have y1HX2_1 := (hb20.cell (p := ⟨w.heap.size + 1, 1, none⟩) (show w.heap.size + 1 < w19.heap.size by have hs := HS.out; have zhb19 := hb19.size; omega)).trans y0HX2_1
         have y1HX2_2 := (hb20.cell (p := ⟨w.heap.size + 1, 2, none⟩) (show w.heap.size + 1 < w19.heap.size by have hs := HS.out; have zhb19 := hb19.size; omega)).trans y0HX2_2)
      | (go_at_call 10
         refine (toExpr_any op1 n1 k1 A1 c1 _ (HL1.out.up HB.out) hsz1).mono ?_
         rintro e w19 ⟨Ah1, ch1, rfl, hkh1, hch1, hlh1, halh1, hb19⟩
         have y0HX1_0 := (hb19.cell (p := ⟨w.heap.size, 0, none⟩) (show w.heap.size < w18.drew.heap.size by have hs := HS.out; omega)).trans qHX1_0
         have y0HX1_1 := (hb19.cell (p := ⟨w.heap.size, 1, none⟩) (show w.heap.size < w18.drew.heap.size by have hs := HS.out; omega)).trans qHX1_1
         have y0HX1_2 := (hb19.cell (p := ⟨w.heap.size, 2, none⟩) (show w.heap.size < w18.drew.heap.size by have hs := HS.out; omega)).trans qHX1_2
         have y0HX2_0 := (hb19.cell (p := ⟨w.heap.size + 1, 0, none⟩) (show w.heap.size + 1 < w18.drew.heap.size by have hs := HS.out; omega)).trans qHX2_0
         have y0HX2_1 := (hb19.cell (p := ⟨w.heap.size + 1, 1, none⟩) (show w.heap.size + 1 < w18.drew.heap.size by have hs := HS.out; omega)).trans qHX2_1
         have y0HX2_2 := (hb19.cell (p := ⟨w.heap.size + 1, 2, none⟩) (show w.heap.size + 1 < w18.drew.heap.size by have hs := HS.out; omega)).trans qHX2_2))
  have hb : Below w18.drew.heap.size w18.drew w21 := ((hb19).trans (hb20.mono (hb19.size))).trans (hb21.mono (Nat.le_trans (hb19.size) hb20.size))
  have HB' := Lib.hid (HB.out.trans (hb.mono HB.out.size))
  have HX1' := Lib.hid (HX1.out.below hb HX1.out.size)
  have HX2' := Lib.hid (HX2.out.below hb HX2.out.size)
  have WI' := Lib.hid (WI.out.below (hb.mono (by have hs := HS.out; omega)))
  have GM' := Lib.hid (GM.out.over hb)
  have HS' := Lib.hid (And.intro hb.size HS.out)
  clear hb HB HX1 HX2 WI GM HS
  have HB := HB'
  have HX1 := HX1'
  have HX2 := HX2'
  have WI := WI'
  have GM := GM'
  have HS := HS'
  clear HB' HX1' HX2' WI' GM' HS'
  have HI := Lib.hid (hoh.lies)
  clear hb19 hb20 hb21 hlh1 halh1 hlh2 halh2 qHX1_0 qHX1_1 qHX1_2 qHX2_0 qHX2_1 qHX2_2 y2HX1_0 y2HX1_1 y2HX1_2 y2HX2_0 y2HX2_1 y2HX2_2 y1HX1_0 y1HX1_1 y1HX1_2 y1HX2_0 y1HX2_1 y1HX2_2 y0HX1_0 y0HX1_1 y0HX1_2 y0HX2_0 y0HX2_1 y0HX2_2
  clear hoh
  go_wp2_with fail
  refine (eqIntSS_any zss Ah Aw ch cw _ (HI.out.mono_ (Nat.zero_le _) (by have hs := HS.out; omega)) (WI.out.mono_ (Nat.zero_le _) (by have hs := HS.out; omega)) hzl hzf).mono ?_
  rintro e w22 ⟨rfl, hb⟩
  have HB' := Lib.hid (HB.out.trans (hb.mono HB.out.size))
  have HX1' := Lib.hid (HX1.out.below hb HX1.out.size)
  have HX2' := Lib.hid (HX2.out.below hb HX2.out.size)
  have WI' := Lib.hid (WI.out.below (hb.mono (by have hs := HS.out; omega)))
  have GM' := Lib.hid (GM.out.over hb)
  have HI' := Lib.hid (HI.out.below (hb.mono (by have hs := HS.out; omega)))
  have HS' := Lib.hid (And.intro hb.size HS.out)
  clear hb HB HX1 HX2 WI GM HI HS
  have HB := HB'
  have HX1 := HX1'
  have HX2 := HX2'
  have WI := WI'
  have GM := GM'
  have HI := HI'
  have HS := HS'
  clear HB' HX1' HX2' WI' GM' HI' HS'
  clear HI WI
  go_wp2_with fail
  refine (heldSS_any zss Ag cg _ bsg _ 1 GM.out hzl hzf (by decide) (by decide)).mono ?_
  rintro e w23 ⟨rfl, hb⟩
  rw [HLL.out]
  have HB' := Lib.hid (HB.out.trans (hb.mono HB.out.size))
  have HX1' := Lib.hid (HX1.out.below hb HX1.out.size)
  have HX2' := Lib.hid (HX2.out.below hb HX2.out.size)
  have GM' := Lib.hid (GM.out.over hb)
  have HS' := Lib.hid (And.intro hb.size HS.out)
  clear hb HB HX1 HX2 GM HS
  have HB := HB'
  have HX1 := HX1'
  have HX2 := HX2'
  have GM := GM'
  have HS := HS'
  clear HB' HX1' HX2' GM' HS'
  go_wp2
  go_ret
  exact ⟨rfl, HB.out⟩
end Go.Proofs.Ytccclkfkbefoaaa
