/-
  The walk of the law FnExactCallPaths: true at every argument (made by gen_law.py).
-/
import Derived.Test.YtccclkfkbefoaaaCallS
import Derived.Test.YtccclkfkbefoaaaSsM
import Derived.Test.YtccclkfkbefoaaaNodeM
import Derived.Test.YtccclkfkbefoaaaTools
import Derived.Test.YtccclkfkbefoaaaMk
import Derived.Test.YtccclkfkbefoaaaInts
import Derived.Test.YtccclkfkbefoaaaIntsM
import Derived.Test.YtccclkfkbefoaaaFo
import Derived.Deep.RegionHeld3
namespace Go.Proofs.Ytccclkfkbefoaaa
open Go.RowKit
set_option maxRecDepth 100000

set_option maxHeartbeats 4000000 in
theorem law_CallPaths (op1 n1 : Int) (k1 : Fo) (A1 : Option Addr) (c1 : Nat) (x2 : Int) (w : World) (hl1 : Lies w 0 w.heap.size A1 0 k1) (hlen1 : k1.len ≤ maxLen) (hi1 : I64 op1 ∧ I64 n1)  :
    Calls Try.prog 6 #[.agg #[.int .i64 op1, .int .i64 n1, .slice A1 k1.len c1], .int .i64 x2] w (Gives (.bool true) w) := by
  obtain ⟨zss, hzss⟩ : ∃ z : List (List Int), z = callsB ⟨op1, n1, k1⟩ x2 := ⟨_, rfl⟩
  have hzl : zss.length ≤ 1048576 := by rw [hzss]; exact Nat.le_trans (callsB_len _ _) (by decide)
  have hzf : zss.flatten.length ≤ 1048576 := by rw [hzss]; exact callsB_flat _ _
  have HZS := Lib.hid hzss
  clear hzss
  obtain ⟨hb, r1⟩ := one_box w 24 #[Value.int IntKind.i64 op1, Value.int IntKind.i64 n1, Value.slice A1 k1.len c1]
  have HX1 := Lib.hid r1
  clear r1
  have HB := Lib.hid hb
  have HS := Lib.hid (And.intro hb.size (show w.heap.size + 1 ≤ (w.alloc (Obj.cells #[Value.int IntKind.i64 op1, Value.int IntKind.i64 n1, Value.slice A1 k1.len c1] 24)).heap.size from by simp))
  clear hb
  have HL1 := Lib.hid hl1
  clear hl1
  go_enter Try.func6, Try.ntmps6
  go_wp2_with fail
  refine (szExpr_any op1 n1 k1 A1 c1 _ 1048576 (HL1.out.up HB.out) hlen1 (by decide) (by decide)).mono ?_
  rintro e w1 ⟨r1, rfl, hr1, hb⟩
  have HB' := Lib.hid (HB.out.trans (hb.mono HB.out.size))
  have HX1' := Lib.hid (HX1.out.below hb HX1.out.size)
  have HS' := Lib.hid (And.intro hb.size HS.out)
  clear hb HB HX1 HS
  have HB := HB'
  have HX1 := HX1'
  have HS := HS'
  clear HB' HX1' HS'
  rcases hr1 with rfl | ⟨hrz1, hr1⟩
  · go_wp2
    go_ret
    exact ⟨rfl, HB.out⟩
  have hsz1 : k1.size ≤ 1048576 := by omega
  have hrb1 : r1 ≤ 1048576 := by omega
  clear hr1
  have qHX1_0 := HX1.out.cell (i := 0) rfl
  have qHX1_1 := HX1.out.cell (i := 1) rfl
  have qHX1_2 := HX1.out.cell (i := 2) rfl
  go_wp2_with fail
  refine (toExpr_any op1 n1 k1 A1 c1 _ (HL1.out.up HB.out) hsz1).mono ?_
  rintro e w2 ⟨As1, cs1, rfl, hks1, hcs1, hls1, hals1, hb⟩
  clear qHX1_0 qHX1_1 qHX1_2
  have HB' := Lib.hid (HB.out.trans (hb.mono HB.out.size))
  have HX1' := Lib.hid (HX1.out.below hb HX1.out.size)
  have HS' := Lib.hid (And.intro hb.size HS.out)
  clear hb HB HX1 HS
  have HB := HB'
  have HX1 := HX1'
  have HS := HS'
  clear HB' HX1' HS'
  go_wp2_with fail
  refine (specCalls_any op1 n1 k1 As1 cs1 x2 _ (hls1.mono_ (Nat.zero_le _) (Nat.le_refl _)) (Nat.le_trans hks1 hcs1) hsz1 hi1).mono ?_
  rintro e w3 ⟨Aw, cw, bsw, rfl, how, hb⟩
  rw [← HZS.out] at how
  rw [← HZS.out]
  have HB' := Lib.hid (HB.out.trans (hb.mono HB.out.size))
  have HX1' := Lib.hid (HX1.out.below hb HX1.out.size)
  have HS' := Lib.hid (And.intro hb.size HS.out)
  clear hb HB HX1 HS
  have HB := HB'
  have HX1 := HX1'
  have HS := HS'
  clear HB' HX1' HS'
  have WI := Lib.hid (how.lies)
  clear hls1 hals1
  clear how
  have qHX1_0 := HX1.out.cell (i := 0) rfl
  have qHX1_1 := HX1.out.cell (i := 1) rfl
  have qHX1_2 := HX1.out.cell (i := 2) rfl
  go_wp2_with fail
  refine (toExpr_any op1 n1 k1 A1 c1 _ (HL1.out.up HB.out) hsz1).mono ?_
  rintro e w4 ⟨Ax1, cx1, rfl, hkx1, hcx1, hlx1, halx1, hb⟩
  clear qHX1_0 qHX1_1 qHX1_2
  have HB' := Lib.hid (HB.out.trans (hb.mono HB.out.size))
  have HX1' := Lib.hid (HX1.out.below hb HX1.out.size)
  have WI' := Lib.hid (WI.out.below (hb.mono (by have hs := HS.out; omega)))
  have HS' := Lib.hid (And.intro hb.size HS.out)
  clear hb HB HX1 WI HS
  have HB := HB'
  have HX1 := HX1'
  have WI := WI'
  have HS := HS'
  clear HB' HX1' WI' HS'
  have XL1 := Lib.hid hlx1
  have XA1 := Lib.hid halx1
  clear hlx1 halx1
  obtain ⟨hb, r1⟩ := one_box w4 29 #[Value.int IntKind.i64 op1, Value.int IntKind.i64 n1, Value.slice Ax1 k1.len cx1]
  have HB' := Lib.hid (HB.out.trans (hb.mono HB.out.size))
  have HX1' := Lib.hid (HX1.out.below hb HX1.out.size)
  have WI' := Lib.hid (WI.out.below (hb.mono (by have hs := HS.out; omega)))
  have XL1' := Lib.hid (XL1.out.below (hb.mono (by have hs := HS.out; omega)))
  have XA1' := Lib.hid (XA1.out.below hb (by have hs := HS.out; omega))
  have HS' := Lib.hid (And.intro hb.size HS.out)
  clear hb HB HX1 WI XL1 XA1 HS
  have HB := HB'
  have HX1 := HX1'
  have WI := WI'
  have XL1 := XL1'
  have XA1 := XA1'
  have HS := HS'
  clear HB' HX1' WI' XL1' XA1' HS'
  have XB1 := Lib.hid r1
  have HS' := Lib.hid (And.intro (show w4.heap.size + 1 ≤ (w4.alloc (Obj.cells #[Value.int IntKind.i64 op1, Value.int IntKind.i64 n1, Value.slice Ax1 k1.len cx1] 29)).heap.size from by simp) HS.out)
  clear HS r1
  have HS := HS'
  clear HS'
  have HC := Lib.hid (implCalls_any op1 n1 k1 Ax1 cx1 x2 (w4.alloc (Obj.cells #[Value.int IntKind.i64 op1, Value.int IntKind.i64 n1, Value.slice Ax1 k1.len cx1] 29)) (XL1.out.mono_ (Nat.zero_le _) (by have hs := HS.out; omega)) hkx1 hcx1 hi1)
  have xXB1_0 := XB1.out.cell (i := 0) rfl
  have xXB1_1 := XB1.out.cell (i := 1) rfl
  have xXB1_2 := XB1.out.cell (i := 2) rfl
  go_wp2_with fail
  refine HC.out.mono ?_
  rintro e w5 ⟨Ag, cg, bsg, rfl, hog, hb⟩
  rw [← HZS.out] at hog
  rw [← HZS.out]
  clear HC
  clear xXB1_0 xXB1_1 xXB1_2
  have HB' := Lib.hid (HB.out.trans (hb.mono HB.out.size))
  have HX1' := Lib.hid (HX1.out.below hb HX1.out.size)
  have WI' := Lib.hid (WI.out.below (hb.mono (by have hs := HS.out; omega)))
  have XL1' := Lib.hid (XL1.out.below (hb.mono (by have hs := HS.out; omega)))
  have XA1' := Lib.hid (XA1.out.below hb (by have hs := HS.out; omega))
  have XB1' := Lib.hid (XB1.out.below hb XB1.out.size)
  have HS' := Lib.hid (And.intro hb.size HS.out)
  clear hb HB HX1 WI XL1 XA1 XB1 HS
  have HB := HB'
  have HX1 := HX1'
  have WI := WI'
  have XL1 := XL1'
  have XA1 := XA1'
  have XB1 := XB1'
  have HS := HS'
  clear HB' HX1' WI' XL1' XA1' XB1' HS'
  have GB := Lib.hid (show ∀ z, z ∈ bsg → (w4.alloc (Obj.cells #[Value.int IntKind.i64 op1, Value.int IntKind.i64 n1, Value.slice Ax1 k1.len cx1] 29)).heap.size ≤ z ∧ z < w5.heap.size from fun z hz => hog.lt z hz)
  have GO := Lib.hid hog
  clear hog
  go_wp2_with fail
  refine (eqIntSS_any zss Ag Aw cg cw _ GO.out.lies0 (WI.out.mono_ (Nat.zero_le _) (by have hs := HS.out; omega)) hzl hzf).mono ?_
  rintro e w6 ⟨rfl, hb⟩
  have HB' := Lib.hid (HB.out.trans (hb.mono HB.out.size))
  have HX1' := Lib.hid (HX1.out.below hb HX1.out.size)
  have WI' := Lib.hid (WI.out.below (hb.mono (by have hs := HS.out; omega)))
  have XL1' := Lib.hid (XL1.out.below (hb.mono (by have hs := HS.out; omega)))
  have XA1' := Lib.hid (XA1.out.below hb (by have hs := HS.out; omega))
  have XB1' := Lib.hid (XB1.out.below hb XB1.out.size)
  have GO' := Lib.hid (GO.out.over hb)
  have HS' := Lib.hid (And.intro hb.size HS.out)
  clear hb HB HX1 WI XL1 XA1 XB1 GO HS
  have HB := HB'
  have HX1 := HX1'
  have WI := WI'
  have XL1 := XL1'
  have XA1 := XA1'
  have XB1 := XB1'
  have GO := GO'
  have HS := HS'
  clear HB' HX1' WI' XL1' XA1' XB1' GO' HS'
  have qXB1_0 := XB1.out.cell (i := 0) rfl
  have qXB1_1 := XB1.out.cell (i := 1) rfl
  have qXB1_2 := XB1.out.cell (i := 2) rfl
  have qHX1_0 := HX1.out.cell (i := 0) rfl
  have qHX1_1 := HX1.out.cell (i := 1) rfl
  have qHX1_2 := HX1.out.cell (i := 2) rfl
  go_wp2_with fail
  have hb : Below w6.heap.size w6 w6.drew := (Below.refl _ _).drew
  have HB' := Lib.hid (HB.out.trans (hb.mono HB.out.size))
  have HX1' := Lib.hid (HX1.out.below hb HX1.out.size)
  have WI' := Lib.hid (WI.out.below (hb.mono (by have hs := HS.out; omega)))
  have XL1' := Lib.hid (XL1.out.below (hb.mono (by have hs := HS.out; omega)))
  have XA1' := Lib.hid (XA1.out.below hb (by have hs := HS.out; omega))
  have XB1' := Lib.hid (XB1.out.below hb XB1.out.size)
  have GO' := Lib.hid (GO.out.over hb)
  have HS' := Lib.hid (And.intro hb.size HS.out)
  clear hb HB HX1 WI XL1 XA1 XB1 GO HS
  have HB := HB'
  have HX1 := HX1'
  have WI := WI'
  have XL1 := XL1'
  have XA1 := XA1'
  have XB1 := XB1'
  have GO := GO'
  have HS := HS'
  clear HB' HX1' WI' XL1' XA1' XB1' GO' HS'
  go_region_held3 (fun w' => w'.cell? ⟨w4.heap.size, 0, none⟩ = some (Value.int IntKind.i64 op1) ∧ w'.cell? ⟨w4.heap.size, 1, none⟩ = some (Value.int IntKind.i64 n1) ∧ w'.cell? ⟨w4.heap.size, 2, none⟩ = some (Value.slice Ax1 k1.len cx1) ∧ w'.cell? ⟨w.heap.size, 0, none⟩ = some (Value.int IntKind.i64 op1) ∧ w'.cell? ⟨w.heap.size, 1, none⟩ = some (Value.int IntKind.i64 n1) ∧ w'.cell? ⟨w.heap.size, 2, none⟩ = some (Value.slice A1 k1.len c1))
    (first | exact ⟨qXB1_0, qXB1_1, qXB1_2, qHX1_0, qHX1_1, qHX1_2⟩ | exact ⟨y0XB1_0, y0XB1_1, y0XB1_2, y0HX1_0, y0HX1_1, y0HX1_2⟩ | exact ⟨y1XB1_0, y1XB1_1, y1XB1_2, y1HX1_0, y1HX1_1, y1HX1_2⟩)
    (first
      | (go_at_call 13
         refine (eqExpr_any op1 n1 k1 Ax1 At1 cx1 ct1 _ ((XL1.out.mono_ (Nat.zero_le _) (by have hs := HS.out; omega)).up hb7) (hlt1.mono_ (Nat.zero_le _) (Nat.le_refl _)) hsz1).mono ?_
         rintro e w8 ⟨rfl, hb8⟩
         have y1XB1_0 := (hb8.cell (p := ⟨w4.heap.size, 0, none⟩) (show w4.heap.size < w7.heap.size by have hs := HS.out; have zhb7 := hb7.size; omega)).trans y0XB1_0
         have y1XB1_1 := (hb8.cell (p := ⟨w4.heap.size, 1, none⟩) (show w4.heap.size < w7.heap.size by have hs := HS.out; have zhb7 := hb7.size; omega)).trans y0XB1_1
         have y1XB1_2 := (hb8.cell (p := ⟨w4.heap.size, 2, none⟩) (show w4.heap.size < w7.heap.size by have hs := HS.out; have zhb7 := hb7.size; omega)).trans y0XB1_2
         have y1HX1_0 := (hb8.cell (p := ⟨w.heap.size, 0, none⟩) (show w.heap.size < w7.heap.size by have hs := HS.out; have zhb7 := hb7.size; omega)).trans y0HX1_0
         have y1HX1_1 := (hb8.cell (p := ⟨w.heap.size, 1, none⟩) (show w.heap.size < w7.heap.size by have hs := HS.out; have zhb7 := hb7.size; omega)).trans y0HX1_1
         have y1HX1_2 := (hb8.cell (p := ⟨w.heap.size, 2, none⟩) (show w.heap.size < w7.heap.size by have hs := HS.out; have zhb7 := hb7.size; omega)).trans y0HX1_2)
      | (go_at_call 10
         refine (toExpr_any op1 n1 k1 A1 c1 _ (HL1.out.up HB.out) hsz1).mono ?_
         rintro e w7 ⟨At1, ct1, rfl, hkt1, hct1, hlt1, halt1, hb7⟩
         have y0XB1_0 := (hb7.cell (p := ⟨w4.heap.size, 0, none⟩) (show w4.heap.size < w6.drew.heap.size by have hs := HS.out; omega)).trans qXB1_0
         have y0XB1_1 := (hb7.cell (p := ⟨w4.heap.size, 1, none⟩) (show w4.heap.size < w6.drew.heap.size by have hs := HS.out; omega)).trans qXB1_1
         have y0XB1_2 := (hb7.cell (p := ⟨w4.heap.size, 2, none⟩) (show w4.heap.size < w6.drew.heap.size by have hs := HS.out; omega)).trans qXB1_2
         have y0HX1_0 := (hb7.cell (p := ⟨w.heap.size, 0, none⟩) (show w.heap.size < w6.drew.heap.size by have hs := HS.out; omega)).trans qHX1_0
         have y0HX1_1 := (hb7.cell (p := ⟨w.heap.size, 1, none⟩) (show w.heap.size < w6.drew.heap.size by have hs := HS.out; omega)).trans qHX1_1
         have y0HX1_2 := (hb7.cell (p := ⟨w.heap.size, 2, none⟩) (show w.heap.size < w6.drew.heap.size by have hs := HS.out; omega)).trans qHX1_2))
  have hb : Below w6.drew.heap.size w6.drew w8 := (hb7).trans (hb8.mono (hb7.size))
  clear hb7 hb8 hlt1 halt1 qXB1_0 qXB1_1 qXB1_2 qHX1_0 qHX1_1 qHX1_2 y0XB1_0 y0XB1_1 y0XB1_2 y0HX1_0 y0HX1_1 y0HX1_2 y1XB1_0 y1XB1_1 y1XB1_2 y1HX1_0 y1HX1_1 y1HX1_2
  have HB' := Lib.hid (HB.out.trans (hb.mono HB.out.size))
  have HX1' := Lib.hid (HX1.out.below hb HX1.out.size)
  have WI' := Lib.hid (WI.out.below (hb.mono (by have hs := HS.out; omega)))
  have XL1' := Lib.hid (XL1.out.below (hb.mono (by have hs := HS.out; omega)))
  have XA1' := Lib.hid (XA1.out.below hb (by have hs := HS.out; omega))
  have XB1' := Lib.hid (XB1.out.below hb XB1.out.size)
  have GO' := Lib.hid (GO.out.over hb)
  have HS' := Lib.hid (And.intro hb.size HS.out)
  clear hb HB HX1 WI XL1 XA1 XB1 GO HS
  have HB := HB'
  have HX1 := HX1'
  have WI := WI'
  have XL1 := XL1'
  have XA1 := XA1'
  have XB1 := XB1'
  have GO := GO'
  have HS := HS'
  clear HB' HX1' WI' XL1' XA1' XB1' GO' HS'
  have xXB1_0 := XB1.out.cell (i := 0) rfl
  have xXB1_1 := XB1.out.cell (i := 1) rfl
  have xXB1_2 := XB1.out.cell (i := 2) rfl
  go_wp2_with fail
  refine (mkExpr_any w3.heap.size w4.heap.size op1 n1 k1 Ax1 cx1 _ 1 (Lies.sk XA1.out XL1.out) (by decide) (by omega)).mono ?_
  rintro e w9 ⟨kk1, rfl, hka1, hkb1, hm⟩
  clear xXB1_0 xXB1_1 xXB1_2
  have HB' := Lib.hid (hm.below HB.out (by have hs := HS.out; omega) (Nat.le_refl _))
  have HX1' := Lib.hid (hm.row HX1.out (by have hs := HS.out; omega))
  have WI' := Lib.hid (WI.out.keep (Nat.le_refl _) (Nat.le_refl _) fun p h1 h2 => hm.cell (by have hs := HS.out; omega) (by have hs := HS.out; omega))
  have XB1' := Lib.hid (hm.row XB1.out (by have hs := HS.out; omega))
  have GO' := Lib.hid (hm.ss GO.out (by have hs := HS.out; omega))
  have HS' := Lib.hid (And.intro hm.size HS.out)
  clear hm HB HX1 WI XB1 GO HS
  have HB := HB'
  have HX1 := HX1'
  have WI := WI'
  have XB1 := XB1'
  have GO := GO'
  have HS := HS'
  clear HB' HX1' WI' XB1' GO' HS'
  clear XL1 XA1
  have hk01 : 0 ≤ kk1 := by omega
  go_wp2_with fail
  refine (eqIntSS_any zss Ag Aw cg cw _ GO.out.lies0 (WI.out.mono_ (Nat.zero_le _) (by have hs := HS.out; omega)) hzl hzf).mono ?_
  rintro e w10 ⟨rfl, hb⟩
  have HB' := Lib.hid (HB.out.trans (hb.mono HB.out.size))
  have HX1' := Lib.hid (HX1.out.below hb HX1.out.size)
  have WI' := Lib.hid (WI.out.below (hb.mono (by have hs := HS.out; omega)))
  have XB1' := Lib.hid (XB1.out.below hb XB1.out.size)
  have GO' := Lib.hid (GO.out.over hb)
  have HS' := Lib.hid (And.intro hb.size HS.out)
  clear hb HB HX1 WI XB1 GO HS
  have HB := HB'
  have HX1 := HX1'
  have WI := WI'
  have XB1 := XB1'
  have GO := GO'
  have HS := HS'
  clear HB' HX1' WI' XB1' GO' HS'
  clear XB1
  go_wp2_with fail
  refine (markSS_any zss Ag cg _ bsg _ 1 GO.out hzl hzf (by decide) (by decide)).mono ?_
  rintro e w11 ⟨rfl, hom, hon⟩
  clear GO
  have HB' := Lib.hid (HB.out.trans (hon.below (fun z hz => by have hg := GB.out _ hz; have hs := HS.out; omega) HB.out.size))
  have HX1' := Lib.hid (hon.row HX1.out (fun hz => by have hg := GB.out _ hz; have hs := HS.out; omega))
  have WI' := Lib.hid (WI.out.keep (Nat.le_refl _) (Nat.le_refl _) fun p h1 h2 => hon.cell (by have hs := HS.out; omega) (fun hz => by have hg := GB.out _ hz; have hs := HS.out; omega))
  have HS' := Lib.hid (And.intro hon.size HS.out)
  clear hon HB HX1 WI HS
  have HB := HB'
  have HX1 := HX1'
  have WI := WI'
  have HS := HS'
  clear HB' HX1' WI' HS'
  have GM := Lib.hid hom
  clear hom
  have hzp : (1 : Int) + (zss.flatten.length : Int) ≤ 1048577 := by omega
  have hz0 : (0 : Int) ≤ 1 + (zss.flatten.length : Int) := by omega
  generalize hll : (1 : Int) + (zss.flatten.length : Int) = ll at hzp hz0
  have HLL := Lib.hid hll
  clear hll
  go_wp2_with fail
  refine (heldSS_any zss Ag cg _ bsg _ 1 GM.out hzl hzf (by decide) (by decide)).mono ?_
  rintro e w12 ⟨rfl, hb⟩
  rw [HLL.out]
  have HB' := Lib.hid (HB.out.trans (hb.mono HB.out.size))
  have HX1' := Lib.hid (HX1.out.below hb HX1.out.size)
  have WI' := Lib.hid (WI.out.below (hb.mono (by have hs := HS.out; omega)))
  have GM' := Lib.hid (GM.out.over hb)
  have HS' := Lib.hid (And.intro hb.size HS.out)
  clear hb HB HX1 WI GM HS
  have HB := HB'
  have HX1 := HX1'
  have WI := WI'
  have GM := GM'
  have HS := HS'
  clear HB' HX1' WI' GM' HS'
  have qHX1_0 := HX1.out.cell (i := 0) rfl
  have qHX1_1 := HX1.out.cell (i := 1) rfl
  have qHX1_2 := HX1.out.cell (i := 2) rfl
  go_wp2_with fail
  refine (toExpr_any op1 n1 k1 A1 c1 _ (HL1.out.up HB.out) hsz1).mono ?_
  rintro e w13 ⟨Ah1, ch1, rfl, hkh1, hch1, hlh1, halh1, hb⟩
  clear qHX1_0 qHX1_1 qHX1_2
  have HB' := Lib.hid (HB.out.trans (hb.mono HB.out.size))
  have HX1' := Lib.hid (HX1.out.below hb HX1.out.size)
  have WI' := Lib.hid (WI.out.below (hb.mono (by have hs := HS.out; omega)))
  have GM' := Lib.hid (GM.out.over hb)
  have HS' := Lib.hid (And.intro hb.size HS.out)
  clear hb HB HX1 WI GM HS
  have HB := HB'
  have HX1 := HX1'
  have WI := WI'
  have GM := GM'
  have HS := HS'
  clear HB' HX1' WI' GM' HS'
  go_wp2_with fail
  refine (implCalls_any op1 n1 k1 Ah1 ch1 x2 _ (hlh1.mono_ (Nat.zero_le _) (Nat.le_refl _)) hkh1 hch1 hi1).mono ?_
  rintro e w14 ⟨Ah, ch, bsh, rfl, hoh, hb⟩
  rw [← HZS.out] at hoh
  rw [← HZS.out]
  have HB' := Lib.hid (HB.out.trans (hb.mono HB.out.size))
  have HX1' := Lib.hid (HX1.out.below hb HX1.out.size)
  have WI' := Lib.hid (WI.out.below (hb.mono (by have hs := HS.out; omega)))
  have GM' := Lib.hid (GM.out.over hb)
  have HS' := Lib.hid (And.intro hb.size HS.out)
  clear hb HB HX1 WI GM HS
  have HB := HB'
  have HX1 := HX1'
  have WI := WI'
  have GM := GM'
  have HS := HS'
  clear HB' HX1' WI' GM' HS'
  have HI := Lib.hid (hoh.lies)
  clear hlh1 halh1
  clear hoh
  go_wp2_with fail
  refine (eqIntSS_any zss Ah Aw ch cw _ (HI.out.mono_ (Nat.zero_le _) (by have hs := HS.out; omega)) (WI.out.mono_ (Nat.zero_le _) (by have hs := HS.out; omega)) hzl hzf).mono ?_
  rintro e w15 ⟨rfl, hb⟩
  have HB' := Lib.hid (HB.out.trans (hb.mono HB.out.size))
  have HX1' := Lib.hid (HX1.out.below hb HX1.out.size)
  have WI' := Lib.hid (WI.out.below (hb.mono (by have hs := HS.out; omega)))
  have GM' := Lib.hid (GM.out.over hb)
  have HI' := Lib.hid (HI.out.below (hb.mono (by have hs := HS.out; omega)))
  have HS' := Lib.hid (And.intro hb.size HS.out)
  clear hb HB HX1 WI GM HI HS
  have HB := HB'
  have HX1 := HX1'
  have WI := WI'
  have GM := GM'
  have HI := HI'
  have HS := HS'
  clear HB' HX1' WI' GM' HI' HS'
  clear HI WI
  go_wp2_with fail
  refine (heldSS_any zss Ag cg _ bsg _ 1 GM.out hzl hzf (by decide) (by decide)).mono ?_
  rintro e w16 ⟨rfl, hb⟩
  rw [HLL.out]
  have HB' := Lib.hid (HB.out.trans (hb.mono HB.out.size))
  have HX1' := Lib.hid (HX1.out.below hb HX1.out.size)
  have GM' := Lib.hid (GM.out.over hb)
  have HS' := Lib.hid (And.intro hb.size HS.out)
  clear hb HB HX1 GM HS
  have HB := HB'
  have HX1 := HX1'
  have GM := GM'
  have HS := HS'
  clear HB' HX1' GM' HS'
  go_wp2
  go_ret
  exact ⟨rfl, HB.out⟩
end Go.Proofs.Ytccclkfkbefoaaa
