/-
  The walk of the law FnExactPartAt: true at every argument (made by gen_law.py).
-/
import Derived.Test.YtccclkfkbefoaaaPartI
import Derived.Test.YtccclkfkbefoaaaNodeM
import Derived.Test.YtccclkfkbefoaaaTools
import Derived.Test.YtccclkfkbefoaaaMk
import Derived.Test.YtccclkfkbefoaaaInts
import Derived.Test.YtccclkfkbefoaaaIntsM
import Derived.Test.YtccclkfkbefoaaaFo
import Derived.Deep.RegionHeld3
namespace Go.Proofs.Ytccclkfkbefoaaa
open Go.RowKit
set_option maxRecDepth 100000

set_option maxHeartbeats 4000000 in
theorem law_PartAt (op1 n1 : Int) (k1 : Fo) (A1 : Option Addr) (c1 : Nat) (zs2 : List Int) (A2 : Option Addr) (c2 : Nat) (w : World) (hl1 : Lies w 0 w.heap.size A1 0 k1) (hlen1 : k1.len ≤ maxLen) (hi1 : I64 op1 ∧ I64 n1) (hl2 : LiesI w 0 w.heap.size A2 zs2) (hlen2 : zs2.length ≤ maxLen) :
    Calls Try.prog 3 #[.agg #[.int .i64 op1, .int .i64 n1, .slice A1 k1.len c1], .slice A2 zs2.length c2] w (Gives (.bool true) w) := by
  obtain ⟨y, hy⟩ : ∃ y, y = (partN ⟨op1, n1, k1⟩ zs2).getD nd0 := ⟨_, rfl⟩
  obtain ⟨ok, hok⟩ : ∃ ok, ok = (partN ⟨op1, n1, k1⟩ zs2).isSome := ⟨_, rfl⟩
  have HY := Lib.hid hy
  have HOK := Lib.hid hok
  clear hy hok
  obtain ⟨hb, r1⟩ := one_box w 24 #[Value.int IntKind.i64 op1, Value.int IntKind.i64 n1, Value.slice A1 k1.len c1]
  have HX1 := Lib.hid r1
  clear r1
  have HB := Lib.hid hb
  have HS := Lib.hid (And.intro hb.size (show w.heap.size + 1 ≤ (w.alloc (Obj.cells #[Value.int IntKind.i64 op1, Value.int IntKind.i64 n1, Value.slice A1 k1.len c1] 24)).heap.size from by simp))
  clear hb
  have HL1 := Lib.hid hl1
  clear hl1
  have HL2 := Lib.hid hl2
  clear hl2
  by_cases hsz2 : zs2.length ≤ 1048576
  rotate_left
  · have hgt : ¬ zs2.length ≤ 1048576 := hsz2
    have hgt2 : 1048576 < zs2.length := by omega
    have hl9 := hlen2
    unfold maxLen at hl9
    go_enter Try.func3, Try.ntmps3
    go_wp2
    go_ret
    exact ⟨rfl, HB.out⟩
  go_enter Try.func3, Try.ntmps3
  go_wp2_with fail
  refine (szExpr_any op1 n1 k1 A1 c1 _ 1048576 (HL1.out.up HB.out) hlen1 (by decide) (by decide)).mono ?_
  rintro e w1 ⟨r1, rfl, hr1, hb⟩
  have HB' := Lib.hid (HB.out.trans (hb.mono HB.out.size))
  have HX1' := Lib.hid (HX1.out.below hb HX1.out.size)
  have HS' := Lib.hid (And.intro hb.size HS.out)
  clear hb HB HX1 HS
  have HB := HB'
  have HX1 := HX1'
  have HS := HS'
  clear HB' HX1' HS'
  rcases hr1 with rfl | ⟨hrz1, hr1⟩
  · go_wp2
    go_ret
    exact ⟨rfl, HB.out⟩
  have hsz1 : k1.size ≤ 1048576 := by omega
  have hrb1 : r1 ≤ 1048576 := by omega
  clear hr1
  have hys : y.k.size ≤ 1048576 := by rw [HY.out]; exact partN_le _ _ hsz1
  have qHX1_0 := HX1.out.cell (i := 0) rfl
  have qHX1_1 := HX1.out.cell (i := 1) rfl
  have qHX1_2 := HX1.out.cell (i := 2) rfl
  go_wp2_with fail
  refine (toExpr_any op1 n1 k1 A1 c1 _ (HL1.out.up HB.out) hsz1).mono ?_
  rintro e w2 ⟨As1, cs1, rfl, hks1, hcs1, hls1, hals1, hb⟩
  clear qHX1_0 qHX1_1 qHX1_2
  have HB' := Lib.hid (HB.out.trans (hb.mono HB.out.size))
  have HX1' := Lib.hid (HX1.out.below hb HX1.out.size)
  have HS' := Lib.hid (And.intro hb.size HS.out)
  clear hb HB HX1 HS
  have HB := HB'
  have HX1 := HX1'
  have HS := HS'
  clear HB' HX1' HS'
  have SLs1 := Lib.hid hls1
  clear hls1
  have SAs1 := Lib.hid hals1
  clear hals1
  go_wp2_with fail
  refine (toIntS_any zs2 A2 c2 _ (HL2.out.up HB.out) hsz2).mono ?_
  rintro e w3 ⟨As2, cs2, rfl, hks2, hcs2, hls2, hb⟩
  have HB' := Lib.hid (HB.out.trans (hb.mono HB.out.size))
  have HX1' := Lib.hid (HX1.out.below hb HX1.out.size)
  have SLs1' := Lib.hid (SLs1.out.below (hb.mono (by have hs := HS.out; omega)))
  have SAs1' := Lib.hid (SAs1.out.below hb (by have hs := HS.out; omega))
  have HS' := Lib.hid (And.intro hb.size HS.out)
  clear hb HB HX1 SLs1 SAs1 HS
  have HB := HB'
  have HX1 := HX1'
  have SLs1 := SLs1'
  have SAs1 := SAs1'
  have HS := HS'
  clear HB' HX1' SLs1' SAs1' HS'
  have SLs2 := Lib.hid hls2
  clear hls2
  go_wp2_with fail
  refine (specPart_any op1 n1 k1 As1 cs1 zs2 As2 cs2 _ (SLs1.out.mono_ (Nat.zero_le _) (by have hs := HS.out; omega)) (Nat.le_trans hks1 hcs1) (SLs2.out.mono_ (Nat.zero_le _) (by have hs := HS.out; omega)) hsz2 hsz1 hi1).mono ?_
  rintro e w4 ⟨Aw, cw, bsw, rfl, htw, hb⟩
  rw [← HY.out] at htw
  rw [← HY.out, ← HOK.out]
  clear SLs1 SAs1
  clear SLs2
  have HB' := Lib.hid (HB.out.trans (hb.mono HB.out.size))
  have HX1' := Lib.hid (HX1.out.below hb HX1.out.size)
  have HS' := Lib.hid (And.intro hb.size HS.out)
  clear hb HB HX1 HS
  have HB := HB'
  have HX1 := HX1'
  have HS := HS'
  clear HB' HX1' HS'
  have WL := Lib.hid (htw.lies fun z hz => (htw.lt z hz).2)
  clear htw
  obtain ⟨hb, r1⟩ := one_box w4 29 #[Value.int IntKind.i64 y.op, Value.int IntKind.i64 y.n, Value.slice Aw y.k.len cw]
  have HB' := Lib.hid (HB.out.trans (hb.mono HB.out.size))
  have HX1' := Lib.hid (HX1.out.below hb HX1.out.size)
  have WL' := Lib.hid (WL.out.below (hb.mono (by have hs := HS.out; omega)))
  have HS' := Lib.hid (And.intro hb.size HS.out)
  clear hb HB HX1 WL HS
  have HB := HB'
  have HX1 := HX1'
  have WL := WL'
  have HS := HS'
  clear HB' HX1' WL' HS'
  have XW := Lib.hid r1
  have HS' := Lib.hid (And.intro (show w4.heap.size + 1 ≤ (w4.alloc (Obj.cells #[Value.int IntKind.i64 y.op, Value.int IntKind.i64 y.n, Value.slice Aw y.k.len cw] 29)).heap.size from by simp) HS.out)
  clear HS r1
  have HS := HS'
  clear HS'
  have qHX1_0 := HX1.out.cell (i := 0) rfl
  have qHX1_1 := HX1.out.cell (i := 1) rfl
  have qHX1_2 := HX1.out.cell (i := 2) rfl
  go_wp2_with fail
  refine (toExpr_any op1 n1 k1 A1 c1 _ (HL1.out.up HB.out) hsz1).mono ?_
  rintro e w5 ⟨Ax1, cx1, rfl, hkx1, hcx1, hlx1, halx1, hb⟩
  clear qHX1_0 qHX1_1 qHX1_2
  have HB' := Lib.hid (HB.out.trans (hb.mono HB.out.size))
  have HX1' := Lib.hid (HX1.out.below hb HX1.out.size)
  have WL' := Lib.hid (WL.out.below (hb.mono (by have hs := HS.out; omega)))
  have XW' := Lib.hid (XW.out.below hb XW.out.size)
  have HS' := Lib.hid (And.intro hb.size HS.out)
  clear hb HB HX1 WL XW HS
  have HB := HB'
  have HX1 := HX1'
  have WL := WL'
  have XW := XW'
  have HS := HS'
  clear HB' HX1' WL' XW' HS'
  have XL1 := Lib.hid hlx1
  have XA1 := Lib.hid halx1
  clear hlx1 halx1
  obtain ⟨hb, r1⟩ := one_box w5 29 #[Value.int IntKind.i64 op1, Value.int IntKind.i64 n1, Value.slice Ax1 k1.len cx1]
  have HB' := Lib.hid (HB.out.trans (hb.mono HB.out.size))
  have HX1' := Lib.hid (HX1.out.below hb HX1.out.size)
  have WL' := Lib.hid (WL.out.below (hb.mono (by have hs := HS.out; omega)))
  have XW' := Lib.hid (XW.out.below hb XW.out.size)
  have XL1' := Lib.hid (XL1.out.below (hb.mono (by have hs := HS.out; omega)))
  have XA1' := Lib.hid (XA1.out.below hb (by have hs := HS.out; omega))
  have HS' := Lib.hid (And.intro hb.size HS.out)
  clear hb HB HX1 WL XW XL1 XA1 HS
  have HB := HB'
  have HX1 := HX1'
  have WL := WL'
  have XW := XW'
  have XL1 := XL1'
  have XA1 := XA1'
  have HS := HS'
  clear HB' HX1' WL' XW' XL1' XA1' HS'
  have XB1 := Lib.hid r1
  have HS' := Lib.hid (And.intro (show w5.heap.size + 1 ≤ (w5.alloc (Obj.cells #[Value.int IntKind.i64 op1, Value.int IntKind.i64 n1, Value.slice Ax1 k1.len cx1] 29)).heap.size from by simp) HS.out)
  clear HS r1
  have HS := HS'
  clear HS'
  go_wp2_with fail
  refine (toIntS_held zs2 A2 c2 _ (HL2.out.up HB.out) hsz2).mono ?_
  rintro e w6 ⟨Ax2, cx2, rfl, hkx2, hcx2, hlx2, hhx2, hgx2, hb⟩
  have HB' := Lib.hid (HB.out.trans (hb.mono HB.out.size))
  have HX1' := Lib.hid (HX1.out.below hb HX1.out.size)
  have WL' := Lib.hid (WL.out.below (hb.mono (by have hs := HS.out; omega)))
  have XW' := Lib.hid (XW.out.below hb XW.out.size)
  have XL1' := Lib.hid (XL1.out.below (hb.mono (by have hs := HS.out; omega)))
  have XA1' := Lib.hid (XA1.out.below hb (by have hs := HS.out; omega))
  have XB1' := Lib.hid (XB1.out.below hb XB1.out.size)
  have HS' := Lib.hid (And.intro hb.size HS.out)
  clear hb HB HX1 WL XW XL1 XA1 XB1 HS
  have HB := HB'
  have HX1 := HX1'
  have WL := WL'
  have XW := XW'
  have XL1 := XL1'
  have XA1 := XA1'
  have XB1 := XB1'
  have HS := HS'
  clear HB' HX1' WL' XW' XL1' XA1' XB1' HS'
  have XH2 := Lib.hid hhx2
  clear hhx2
  have HS' := Lib.hid (And.intro hgx2 HS.out)
  clear HS hgx2
  have HS := HS'
  clear HS'
  have XL2 := Lib.hid hlx2
  clear hlx2
  have HC := Lib.hid (implPart_any op1 n1 k1 Ax1 cx1 zs2 Ax2 cx2 (w4.alloc (Obj.cells #[Value.int IntKind.i64 y.op, Value.int IntKind.i64 y.n, Value.slice Aw y.k.len cw] 29)).heap.size w5.heap.size w6 XL1.out (by have hs := HS.out; omega) XA1.out hkx1 hcx1 (XL2.out.mono_ (Nat.zero_le _) (by have hs := HS.out; omega)) hsz2 hsz1 hi1)
  have xXB1_0 := XB1.out.cell (i := 0) rfl
  have xXB1_1 := XB1.out.cell (i := 1) rfl
  have xXB1_2 := XB1.out.cell (i := 2) rfl
  go_wp2_with fail
  refine HC.out.mono ?_
  rintro e w7 ⟨Ag, cg, bsg, rfl, htg, hb⟩
  rw [← HY.out] at htg
  rw [← HY.out, ← HOK.out]
  clear HC
  clear xXB1_0 xXB1_1 xXB1_2
  have HB' := Lib.hid (HB.out.trans (hb.mono HB.out.size))
  have HX1' := Lib.hid (HX1.out.below hb HX1.out.size)
  have WL' := Lib.hid (WL.out.below (hb.mono (by have hs := HS.out; omega)))
  have XW' := Lib.hid (XW.out.below hb XW.out.size)
  have XL1' := Lib.hid (XL1.out.below (hb.mono (by have hs := HS.out; omega)))
  have XA1' := Lib.hid (XA1.out.below hb (by have hs := HS.out; omega))
  have XB1' := Lib.hid (XB1.out.below hb XB1.out.size)
  have XH2' := Lib.hid (XH2.out.below hb)
  have XL2' := Lib.hid (XL2.out.below (hb.mono (by have hs := HS.out; omega)))
  have HS' := Lib.hid (And.intro hb.size HS.out)
  clear hb HB HX1 WL XW XL1 XA1 XB1 XH2 XL2 HS
  have HB := HB'
  have HX1 := HX1'
  have WL := WL'
  have XW := XW'
  have XL1 := XL1'
  have XA1 := XA1'
  have XB1 := XB1'
  have XH2 := XH2'
  have XL2 := XL2'
  have HS := HS'
  clear HB' HX1' WL' XW' XL1' XA1' XB1' XH2' XL2' HS'
  have GB := Lib.hid (show ∀ z, z ∈ bsg → w6.heap.size ≤ z ∧ z < w7.heap.size from fun z hz => htg.lt z hz)
  have GT := Lib.hid htg
  clear htg
  obtain ⟨hb, r1⟩ := one_box w7 29 #[Value.int IntKind.i64 y.op, Value.int IntKind.i64 y.n, Value.slice Ag y.k.len cg]
  have HB' := Lib.hid (HB.out.trans (hb.mono HB.out.size))
  have HX1' := Lib.hid (HX1.out.below hb HX1.out.size)
  have WL' := Lib.hid (WL.out.below (hb.mono (by have hs := HS.out; omega)))
  have XW' := Lib.hid (XW.out.below hb XW.out.size)
  have XL1' := Lib.hid (XL1.out.below (hb.mono (by have hs := HS.out; omega)))
  have XA1' := Lib.hid (XA1.out.below hb (by have hs := HS.out; omega))
  have XB1' := Lib.hid (XB1.out.below hb XB1.out.size)
  have XH2' := Lib.hid (XH2.out.below hb)
  have XL2' := Lib.hid (XL2.out.below (hb.mono (by have hs := HS.out; omega)))
  have GT' := Lib.hid (GT.out.over hb)
  have HS' := Lib.hid (And.intro hb.size HS.out)
  clear hb HB HX1 WL XW XL1 XA1 XB1 XH2 XL2 GT HS
  have HB := HB'
  have HX1 := HX1'
  have WL := WL'
  have XW := XW'
  have XL1 := XL1'
  have XA1 := XA1'
  have XB1 := XB1'
  have XH2 := XH2'
  have XL2 := XL2'
  have GT := GT'
  have HS := HS'
  clear HB' HX1' WL' XW' XL1' XA1' XB1' XH2' XL2' GT' HS'
  have XG := Lib.hid r1
  have HS' := Lib.hid (And.intro (show w7.heap.size + 1 ≤ (w7.alloc (Obj.cells #[Value.int IntKind.i64 y.op, Value.int IntKind.i64 y.n, Value.slice Ag y.k.len cg] 29)).heap.size from by simp) HS.out)
  clear HS r1
  have HS := HS'
  clear HS'
  have zXG_0 := XG.out.cell (i := 0) rfl
  have zXG_1 := XG.out.cell (i := 1) rfl
  have zXG_2 := XG.out.cell (i := 2) rfl
  have zXW_0 := XW.out.cell (i := 0) rfl
  have zXW_1 := XW.out.cell (i := 1) rfl
  have zXW_2 := XW.out.cell (i := 2) rfl
  go_wp2_with fail
  refine (eqExpr_any y.op y.n y.k Ag Aw cg cw _ ((GT.out.lies fun z hz => (GT.out.lt z hz).2).mono_ (Nat.zero_le _) (Nat.le_refl _)) (WL.out.mono_ (Nat.zero_le _) (by have hs := HS.out; omega)) hys).mono ?_
  rintro e w8 ⟨rfl, hb⟩
  clear zXG_0 zXG_1 zXG_2 zXW_0 zXW_1 zXW_2
  have HB' := Lib.hid (HB.out.trans (hb.mono HB.out.size))
  have HX1' := Lib.hid (HX1.out.below hb HX1.out.size)
  have WL' := Lib.hid (WL.out.below (hb.mono (by have hs := HS.out; omega)))
  have XW' := Lib.hid (XW.out.below hb XW.out.size)
  have XL1' := Lib.hid (XL1.out.below (hb.mono (by have hs := HS.out; omega)))
  have XA1' := Lib.hid (XA1.out.below hb (by have hs := HS.out; omega))
  have XB1' := Lib.hid (XB1.out.below hb XB1.out.size)
  have XH2' := Lib.hid (XH2.out.below hb)
  have XL2' := Lib.hid (XL2.out.below (hb.mono (by have hs := HS.out; omega)))
  have GT' := Lib.hid (GT.out.over hb)
  have XG' := Lib.hid (XG.out.below hb XG.out.size)
  have HS' := Lib.hid (And.intro hb.size HS.out)
  clear hb HB HX1 WL XW XL1 XA1 XB1 XH2 XL2 GT XG HS
  have HB := HB'
  have HX1 := HX1'
  have WL := WL'
  have XW := XW'
  have XL1 := XL1'
  have XA1 := XA1'
  have XB1 := XB1'
  have XH2 := XH2'
  have XL2 := XL2'
  have GT := GT'
  have XG := XG'
  have HS := HS'
  clear HB' HX1' WL' XW' XL1' XA1' XB1' XH2' XL2' GT' XG' HS'
  have qXB1_0 := XB1.out.cell (i := 0) rfl
  have qXB1_1 := XB1.out.cell (i := 1) rfl
  have qXB1_2 := XB1.out.cell (i := 2) rfl
  have qHX1_0 := HX1.out.cell (i := 0) rfl
  have qHX1_1 := HX1.out.cell (i := 1) rfl
  have qHX1_2 := HX1.out.cell (i := 2) rfl
  go_wp2_with fail
  have hb : Below w8.heap.size w8 w8.drew := (Below.refl _ _).drew
  have HB' := Lib.hid (HB.out.trans (hb.mono HB.out.size))
  have HX1' := Lib.hid (HX1.out.below hb HX1.out.size)
  have WL' := Lib.hid (WL.out.below (hb.mono (by have hs := HS.out; omega)))
  have XW' := Lib.hid (XW.out.below hb XW.out.size)
  have XL1' := Lib.hid (XL1.out.below (hb.mono (by have hs := HS.out; omega)))
  have XA1' := Lib.hid (XA1.out.below hb (by have hs := HS.out; omega))
  have XB1' := Lib.hid (XB1.out.below hb XB1.out.size)
  have XH2' := Lib.hid (XH2.out.below hb)
  have XL2' := Lib.hid (XL2.out.below (hb.mono (by have hs := HS.out; omega)))
  have GT' := Lib.hid (GT.out.over hb)
  have XG' := Lib.hid (XG.out.below hb XG.out.size)
  have HS' := Lib.hid (And.intro hb.size HS.out)
  clear hb HB HX1 WL XW XL1 XA1 XB1 XH2 XL2 GT XG HS
  have HB := HB'
  have HX1 := HX1'
  have WL := WL'
  have XW := XW'
  have XL1 := XL1'
  have XA1 := XA1'
  have XB1 := XB1'
  have XH2 := XH2'
  have XL2 := XL2'
  have GT := GT'
  have XG := XG'
  have HS := HS'
  clear HB' HX1' WL' XW' XL1' XA1' XB1' XH2' XL2' GT' XG' HS'
  go_region_held3 (fun w' => w'.cell? ⟨w5.heap.size, 0, none⟩ = some (Value.int IntKind.i64 op1) ∧ w'.cell? ⟨w5.heap.size, 1, none⟩ = some (Value.int IntKind.i64 n1) ∧ w'.cell? ⟨w5.heap.size, 2, none⟩ = some (Value.slice Ax1 k1.len cx1) ∧ w'.cell? ⟨w.heap.size, 0, none⟩ = some (Value.int IntKind.i64 op1) ∧ w'.cell? ⟨w.heap.size, 1, none⟩ = some (Value.int IntKind.i64 n1) ∧ w'.cell? ⟨w.heap.size, 2, none⟩ = some (Value.slice A1 k1.len c1))
    (first | exact ⟨qXB1_0, qXB1_1, qXB1_2, qHX1_0, qHX1_1, qHX1_2⟩ | exact ⟨y0XB1_0, y0XB1_1, y0XB1_2, y0HX1_0, y0HX1_1, y0HX1_2⟩ | exact ⟨y1XB1_0, y1XB1_1, y1XB1_2, y1HX1_0, y1HX1_1, y1HX1_2⟩)
    (first
      | (go_at_call 13
         refine (eqExpr_any op1 n1 k1 Ax1 At1 cx1 ct1 _ ((XL1.out.mono_ (Nat.zero_le _) (by have hs := HS.out; omega)).up hb9) (hlt1.mono_ (Nat.zero_le _) (Nat.le_refl _)) hsz1).mono ?_
         rintro e w10 ⟨rfl, hb10⟩
         have y1XB1_0 := (hb10.cell (p := ⟨w5.heap.size, 0, none⟩) (show w5.heap.size < w9.heap.size by have hs := HS.out; have zhb9 := hb9.size; omega)).trans y0XB1_0
         have y1XB1_1 := (hb10.cell (p := ⟨w5.heap.size, 1, none⟩) (show w5.heap.size < w9.heap.size by have hs := HS.out; have zhb9 := hb9.size; omega)).trans y0XB1_1
         have y1XB1_2 := (hb10.cell (p := ⟨w5.heap.size, 2, none⟩) (show w5.heap.size < w9.heap.size by have hs := HS.out; have zhb9 := hb9.size; omega)).trans y0XB1_2
         have y1HX1_0 := (hb10.cell (p := ⟨w.heap.size, 0, none⟩) (show w.heap.size < w9.heap.size by have hs := HS.out; have zhb9 := hb9.size; omega)).trans y0HX1_0
         have y1HX1_1 := (hb10.cell (p := ⟨w.heap.size, 1, none⟩) (show w.heap.size < w9.heap.size by have hs := HS.out; have zhb9 := hb9.size; omega)).trans y0HX1_1
         have y1HX1_2 := (hb10.cell (p := ⟨w.heap.size, 2, none⟩) (show w.heap.size < w9.heap.size by have hs := HS.out; have zhb9 := hb9.size; omega)).trans y0HX1_2)
      | (go_at_call 10
         refine (toExpr_any op1 n1 k1 A1 c1 _ (HL1.out.up HB.out) hsz1).mono ?_
         rintro e w9 ⟨At1, ct1, rfl, hkt1, hct1, hlt1, halt1, hb9⟩
         have y0XB1_0 := (hb9.cell (p := ⟨w5.heap.size, 0, none⟩) (show w5.heap.size < w8.drew.heap.size by have hs := HS.out; omega)).trans qXB1_0
         have y0XB1_1 := (hb9.cell (p := ⟨w5.heap.size, 1, none⟩) (show w5.heap.size < w8.drew.heap.size by have hs := HS.out; omega)).trans qXB1_1
         have y0XB1_2 := (hb9.cell (p := ⟨w5.heap.size, 2, none⟩) (show w5.heap.size < w8.drew.heap.size by have hs := HS.out; omega)).trans qXB1_2
         have y0HX1_0 := (hb9.cell (p := ⟨w.heap.size, 0, none⟩) (show w.heap.size < w8.drew.heap.size by have hs := HS.out; omega)).trans qHX1_0
         have y0HX1_1 := (hb9.cell (p := ⟨w.heap.size, 1, none⟩) (show w.heap.size < w8.drew.heap.size by have hs := HS.out; omega)).trans qHX1_1
         have y0HX1_2 := (hb9.cell (p := ⟨w.heap.size, 2, none⟩) (show w.heap.size < w8.drew.heap.size by have hs := HS.out; omega)).trans qHX1_2))
  have hb : Below w8.drew.heap.size w8.drew w10 := (hb9).trans (hb10.mono (hb9.size))
  clear hb9 hb10 hlt1 halt1 qXB1_0 qXB1_1 qXB1_2 qHX1_0 qHX1_1 qHX1_2 y0XB1_0 y0XB1_1 y0XB1_2 y0HX1_0 y0HX1_1 y0HX1_2 y1XB1_0 y1XB1_1 y1XB1_2 y1HX1_0 y1HX1_1 y1HX1_2
  have HB' := Lib.hid (HB.out.trans (hb.mono HB.out.size))
  have HX1' := Lib.hid (HX1.out.below hb HX1.out.size)
  have WL' := Lib.hid (WL.out.below (hb.mono (by have hs := HS.out; omega)))
  have XW' := Lib.hid (XW.out.below hb XW.out.size)
  have XL1' := Lib.hid (XL1.out.below (hb.mono (by have hs := HS.out; omega)))
  have XA1' := Lib.hid (XA1.out.below hb (by have hs := HS.out; omega))
  have XB1' := Lib.hid (XB1.out.below hb XB1.out.size)
  have XH2' := Lib.hid (XH2.out.below hb)
  have XL2' := Lib.hid (XL2.out.below (hb.mono (by have hs := HS.out; omega)))
  have GT' := Lib.hid (GT.out.over hb)
  have XG' := Lib.hid (XG.out.below hb XG.out.size)
  have HS' := Lib.hid (And.intro hb.size HS.out)
  clear hb HB HX1 WL XW XL1 XA1 XB1 XH2 XL2 GT XG HS
  have HB := HB'
  have HX1 := HX1'
  have WL := WL'
  have XW := XW'
  have XL1 := XL1'
  have XA1 := XA1'
  have XB1 := XB1'
  have XH2 := XH2'
  have XL2 := XL2'
  have GT := GT'
  have XG := XG'
  have HS := HS'
  clear HB' HX1' WL' XW' XL1' XA1' XB1' XH2' XL2' GT' XG' HS'
  go_wp2_with fail
  refine (toIntS_any zs2 A2 c2 _ (HL2.out.up HB.out) hsz2).mono ?_
  rintro e w11 ⟨At2, ct2, rfl, hkt2, hct2, hlt2, hb⟩
  have HB' := Lib.hid (HB.out.trans (hb.mono HB.out.size))
  have HX1' := Lib.hid (HX1.out.below hb HX1.out.size)
  have WL' := Lib.hid (WL.out.below (hb.mono (by have hs := HS.out; omega)))
  have XW' := Lib.hid (XW.out.below hb XW.out.size)
  have XL1' := Lib.hid (XL1.out.below (hb.mono (by have hs := HS.out; omega)))
  have XA1' := Lib.hid (XA1.out.below hb (by have hs := HS.out; omega))
  have XB1' := Lib.hid (XB1.out.below hb XB1.out.size)
  have XH2' := Lib.hid (XH2.out.below hb)
  have XL2' := Lib.hid (XL2.out.below (hb.mono (by have hs := HS.out; omega)))
  have GT' := Lib.hid (GT.out.over hb)
  have XG' := Lib.hid (XG.out.below hb XG.out.size)
  have HS' := Lib.hid (And.intro hb.size HS.out)
  clear hb HB HX1 WL XW XL1 XA1 XB1 XH2 XL2 GT XG HS
  have HB := HB'
  have HX1 := HX1'
  have WL := WL'
  have XW := XW'
  have XL1 := XL1'
  have XA1 := XA1'
  have XB1 := XB1'
  have XH2 := XH2'
  have XL2 := XL2'
  have GT := GT'
  have XG := XG'
  have HS := HS'
  clear HB' HX1' WL' XW' XL1' XA1' XB1' XH2' XL2' GT' XG' HS'
  go_wp2_with fail
  refine (eqIntS_any zs2 Ax2 At2 cx2 ct2 _ (XL2.out.mono_ (Nat.zero_le _) (by have hs := HS.out; omega)) (hlt2.mono_ (Nat.zero_le _) (Nat.le_refl _)) hsz2).mono ?_
  rintro e w12 ⟨rfl, hb⟩
  clear hlt2
  have HB' := Lib.hid (HB.out.trans (hb.mono HB.out.size))
  have HX1' := Lib.hid (HX1.out.below hb HX1.out.size)
  have WL' := Lib.hid (WL.out.below (hb.mono (by have hs := HS.out; omega)))
  have XW' := Lib.hid (XW.out.below hb XW.out.size)
  have XL1' := Lib.hid (XL1.out.below (hb.mono (by have hs := HS.out; omega)))
  have XA1' := Lib.hid (XA1.out.below hb (by have hs := HS.out; omega))
  have XB1' := Lib.hid (XB1.out.below hb XB1.out.size)
  have XH2' := Lib.hid (XH2.out.below hb)
  have XL2' := Lib.hid (XL2.out.below (hb.mono (by have hs := HS.out; omega)))
  have GT' := Lib.hid (GT.out.over hb)
  have XG' := Lib.hid (XG.out.below hb XG.out.size)
  have HS' := Lib.hid (And.intro hb.size HS.out)
  clear hb HB HX1 WL XW XL1 XA1 XB1 XH2 XL2 GT XG HS
  have HB := HB'
  have HX1 := HX1'
  have WL := WL'
  have XW := XW'
  have XL1 := XL1'
  have XA1 := XA1'
  have XB1 := XB1'
  have XH2 := XH2'
  have XL2 := XL2'
  have GT := GT'
  have XG := XG'
  have HS := HS'
  clear HB' HX1' WL' XW' XL1' XA1' XB1' XH2' XL2' GT' XG' HS'
  have xXB1_0 := XB1.out.cell (i := 0) rfl
  have xXB1_1 := XB1.out.cell (i := 1) rfl
  have xXB1_2 := XB1.out.cell (i := 2) rfl
  go_wp2_with fail
  refine (mkExpr_any (w4.alloc (Obj.cells #[Value.int IntKind.i64 y.op, Value.int IntKind.i64 y.n, Value.slice Aw y.k.len cw] 29)).heap.size w5.heap.size op1 n1 k1 Ax1 cx1 _ 1 (Lies.sk XA1.out XL1.out) (by decide) (by omega)).mono ?_
  rintro e w13 ⟨kk1, rfl, hka1, hkb1, hm⟩
  clear xXB1_0 xXB1_1 xXB1_2
  have HB' := Lib.hid (hm.below HB.out (by have hs := HS.out; omega) (Nat.le_refl _))
  have HX1' := Lib.hid (hm.row HX1.out (by have hs := HS.out; omega))
  have WL' := Lib.hid (WL.out.keep (Nat.le_refl _) (Nat.le_refl _) fun p h1 h2 => hm.cell (by have hs := HS.out; omega) (by have hs := HS.out; omega))
  have XW' := Lib.hid (hm.row XW.out (by have hs := HS.out; omega))
  have XB1' := Lib.hid (hm.row XB1.out (by have hs := HS.out; omega))
  have XH2' := Lib.hid (XH2.out.mk hm (by have hs := HS.out; omega))
  have XL2' := Lib.hid (XL2.out.keep (Nat.le_refl _) (Nat.le_refl _) fun p h1 h2 => hm.cell (by have hs := HS.out; omega) (by have hs := HS.out; omega))
  have GT' := Lib.hid (hm.tree GT.out (by have hs := HS.out; omega))
  have XG' := Lib.hid (hm.row XG.out (by have hs := HS.out; omega))
  have HS' := Lib.hid (And.intro hm.size HS.out)
  clear hm HB HX1 WL XW XB1 XH2 XL2 GT XG HS
  have HB := HB'
  have HX1 := HX1'
  have WL := WL'
  have XW := XW'
  have XB1 := XB1'
  have XH2 := XH2'
  have XL2 := XL2'
  have GT := GT'
  have XG := XG'
  have HS := HS'
  clear HB' HX1' WL' XW' XB1' XH2' XL2' GT' XG' HS'
  clear XL1 XA1
  have hk01 : 0 ≤ kk1 := by omega
  go_wp2_with fail
  refine (markIntS_any zs2.length (w5.alloc (Obj.cells #[Value.int IntKind.i64 op1, Value.int IntKind.i64 n1, Value.slice Ax1 k1.len cx1] 29)).heap.size Ax2 cx2 _ kk1 XH2.out hsz2 hk01 (by omega)).mono ?_
  rintro e w14 ⟨rfl, _, hon⟩
  clear XL2 XH2
  have HB' := Lib.hid (HB.out.trans ((hon.mono (B' := w.heap.size) (by have hs := HS.out; omega)).below (by have hs := HS.out; omega)))
  have HX1' := Lib.hid (HX1.out.only hon (by have hs := HS.out; omega) (by have hs := HS.out; omega))
  have WL' := Lib.hid (WL.out.keep (Nat.le_refl _) (Nat.le_refl _) fun p h1 h2 => hon.cell (by have hs := HS.out; omega) (by have hs := HS.out; omega))
  have XW' := Lib.hid (XW.out.only hon (by have hs := HS.out; omega) (by have hs := HS.out; omega))
  have XB1' := Lib.hid (XB1.out.only hon (by have hs := HS.out; omega) (by have hs := HS.out; omega))
  have GT' := Lib.hid (GT.out.keep fun z hz => hon.block z (by have hg := GB.out z hz; have hs := HS.out; omega) (by have hg := GB.out z hz; have hs := HS.out; omega))
  have XG' := Lib.hid (XG.out.only hon (by have hs := HS.out; omega) (by have hs := HS.out; omega))
  have HS' := Lib.hid (And.intro hon.size HS.out)
  clear hon HB HX1 WL XW XB1 GT XG HS
  have HB := HB'
  have HX1 := HX1'
  have WL := WL'
  have XW := XW'
  have XB1 := XB1'
  have GT := GT'
  have XG := XG'
  have HS := HS'
  clear HB' HX1' WL' XW' XB1' GT' XG' HS'
  obtain ⟨kk2, hkk2⟩ : ∃ z : Int, z = kk1 + (zs2.length : Int) := ⟨_, rfl⟩
  rw [← hkk2]
  have hk02 : 0 ≤ kk2 := by omega
  have hkb2 : kk2 ≤ kk1 + 1048576 := by omega
  clear hkk2
  have zXG_0 := XG.out.cell (i := 0) rfl
  have zXG_1 := XG.out.cell (i := 1) rfl
  have zXG_2 := XG.out.cell (i := 2) rfl
  have zXW_0 := XW.out.cell (i := 0) rfl
  have zXW_1 := XW.out.cell (i := 1) rfl
  have zXW_2 := XW.out.cell (i := 2) rfl
  go_wp2_with fail
  refine (eqExpr_any y.op y.n y.k Ag Aw cg cw _ ((GT.out.lies fun z hz => (GT.out.lt z hz).2).mono_ (Nat.zero_le _) (Nat.le_refl _)) (WL.out.mono_ (Nat.zero_le _) (by have hs := HS.out; omega)) hys).mono ?_
  rintro e w15 ⟨rfl, hb⟩
  clear zXG_0 zXG_1 zXG_2 zXW_0 zXW_1 zXW_2
  have HB' := Lib.hid (HB.out.trans (hb.mono HB.out.size))
  have HX1' := Lib.hid (HX1.out.below hb HX1.out.size)
  have WL' := Lib.hid (WL.out.below (hb.mono (by have hs := HS.out; omega)))
  have XW' := Lib.hid (XW.out.below hb XW.out.size)
  have XB1' := Lib.hid (XB1.out.below hb XB1.out.size)
  have GT' := Lib.hid (GT.out.over hb)
  have XG' := Lib.hid (XG.out.below hb XG.out.size)
  have HS' := Lib.hid (And.intro hb.size HS.out)
  clear hb HB HX1 WL XW XB1 GT XG HS
  have HB := HB'
  have HX1 := HX1'
  have WL := WL'
  have XW := XW'
  have XB1 := XB1'
  have GT := GT'
  have XG := XG'
  have HS := HS'
  clear HB' HX1' WL' XW' XB1' GT' XG' HS'
  clear XB1
  have zXG_0 := XG.out.cell (i := 0) rfl
  have zXG_1 := XG.out.cell (i := 1) rfl
  have zXG_2 := XG.out.cell (i := 2) rfl
  go_wp2_with fail
  refine (markOwn_any y.op y.n y.k Ag cg _ bsg _ 1 GT.out (by decide) (by omega)).mono ?_
  rintro e w16 ⟨rfl, htm, hon⟩
  clear GT
  clear zXG_0 zXG_1 zXG_2
  have HB' := Lib.hid (HB.out.trans (hon.below (fun z hz => by have hg := GB.out _ hz; have hs := HS.out; omega) HB.out.size))
  have HX1' := Lib.hid (hon.row HX1.out (fun hz => by have hg := GB.out _ hz; have hs := HS.out; omega))
  have WL' := Lib.hid (WL.out.keep (Nat.le_refl _) (Nat.le_refl _) fun p h1 h2 => hon.cell (by have hs := HS.out; omega) (fun hz => by have hg := GB.out _ hz; have hs := HS.out; omega))
  have XW' := Lib.hid (hon.row XW.out (fun hz => by have hg := GB.out _ hz; have hs := HS.out; omega))
  have XG' := Lib.hid (hon.row XG.out (fun hz => by have hg := GB.out _ hz; have hs := HS.out; omega))
  have HS' := Lib.hid (And.intro hon.size HS.out)
  clear hon HB HX1 WL XW XG HS
  have HB := HB'
  have HX1 := HX1'
  have WL := WL'
  have XW := XW'
  have XG := XG'
  have HS := HS'
  clear HB' HX1' WL' XW' XG' HS'
  have GL := Lib.hid (htm.lies fun z hz => (GB.out z hz).2)
  clear htm
  have hzp : (1 : Int) + 2 * (y.k.size : Int) ≤ 2097153 := by omega
  have hz0 : (0 : Int) ≤ 1 + 2 * (y.k.size : Int) := by omega
  generalize hll : (1 : Int) + 2 * (y.k.size : Int) = ll at hzp hz0
  have HLL := Lib.hid hll
  clear hll
  have zXG_0 := XG.out.cell (i := 0) rfl
  have zXG_1 := XG.out.cell (i := 1) rfl
  have zXG_2 := XG.out.cell (i := 2) rfl
  go_wp2_with fail
  refine (heldOwn_any y.op y.n y.k Ag cg _ 1 (GL.out.mono_ (Nat.zero_le _) (by have hs := HS.out; omega)) (by decide) (by omega)).mono ?_
  rintro e w17 ⟨rfl, hb⟩
  rw [HLL.out]
  clear zXG_0 zXG_1 zXG_2
  have HB' := Lib.hid (HB.out.trans (hb.mono HB.out.size))
  have HX1' := Lib.hid (HX1.out.below hb HX1.out.size)
  have WL' := Lib.hid (WL.out.below (hb.mono (by have hs := HS.out; omega)))
  have XW' := Lib.hid (XW.out.below hb XW.out.size)
  have XG' := Lib.hid (XG.out.below hb XG.out.size)
  have GL' := Lib.hid (GL.out.below (hb.mono (by have hs := HS.out; omega)))
  have HS' := Lib.hid (And.intro hb.size HS.out)
  clear hb HB HX1 WL XW XG GL HS
  have HB := HB'
  have HX1 := HX1'
  have WL := WL'
  have XW := XW'
  have XG := XG'
  have GL := GL'
  have HS := HS'
  clear HB' HX1' WL' XW' XG' GL' HS'
  have qHX1_0 := HX1.out.cell (i := 0) rfl
  have qHX1_1 := HX1.out.cell (i := 1) rfl
  have qHX1_2 := HX1.out.cell (i := 2) rfl
  go_wp2_with fail
  refine (toExpr_any op1 n1 k1 A1 c1 _ (HL1.out.up HB.out) hsz1).mono ?_
  rintro e w18 ⟨Ah1, ch1, rfl, hkh1, hch1, hlh1, halh1, hb⟩
  clear qHX1_0 qHX1_1 qHX1_2
  have HB' := Lib.hid (HB.out.trans (hb.mono HB.out.size))
  have HX1' := Lib.hid (HX1.out.below hb HX1.out.size)
  have WL' := Lib.hid (WL.out.below (hb.mono (by have hs := HS.out; omega)))
  have XW' := Lib.hid (XW.out.below hb XW.out.size)
  have XG' := Lib.hid (XG.out.below hb XG.out.size)
  have GL' := Lib.hid (GL.out.below (hb.mono (by have hs := HS.out; omega)))
  have HS' := Lib.hid (And.intro hb.size HS.out)
  clear hb HB HX1 WL XW XG GL HS
  have HB := HB'
  have HX1 := HX1'
  have WL := WL'
  have XW := XW'
  have XG := XG'
  have GL := GL'
  have HS := HS'
  clear HB' HX1' WL' XW' XG' GL' HS'
  have SLh1 := Lib.hid hlh1
  clear hlh1
  have SAh1 := Lib.hid halh1
  clear halh1
  go_wp2_with fail
  refine (toIntS_any zs2 A2 c2 _ (HL2.out.up HB.out) hsz2).mono ?_
  rintro e w19 ⟨Ah2, ch2, rfl, hkh2, hch2, hlh2, hb⟩
  have HB' := Lib.hid (HB.out.trans (hb.mono HB.out.size))
  have HX1' := Lib.hid (HX1.out.below hb HX1.out.size)
  have WL' := Lib.hid (WL.out.below (hb.mono (by have hs := HS.out; omega)))
  have XW' := Lib.hid (XW.out.below hb XW.out.size)
  have XG' := Lib.hid (XG.out.below hb XG.out.size)
  have GL' := Lib.hid (GL.out.below (hb.mono (by have hs := HS.out; omega)))
  have SLh1' := Lib.hid (SLh1.out.below (hb.mono (by have hs := HS.out; omega)))
  have SAh1' := Lib.hid (SAh1.out.below hb (by have hs := HS.out; omega))
  have HS' := Lib.hid (And.intro hb.size HS.out)
  clear hb HB HX1 WL XW XG GL SLh1 SAh1 HS
  have HB := HB'
  have HX1 := HX1'
  have WL := WL'
  have XW := XW'
  have XG := XG'
  have GL := GL'
  have SLh1 := SLh1'
  have SAh1 := SAh1'
  have HS := HS'
  clear HB' HX1' WL' XW' XG' GL' SLh1' SAh1' HS'
  have SLh2 := Lib.hid hlh2
  clear hlh2
  go_wp2_with fail
  refine (implPart_any op1 n1 k1 Ah1 ch1 zs2 Ah2 ch2 w17.heap.size w18.heap.size _ SLh1.out (by have hs := HS.out; omega) SAh1.out hkh1 hch1 (SLh2.out.mono_ (Nat.zero_le _) (by have hs := HS.out; omega)) hsz2 hsz1 hi1).mono ?_
  rintro e w20 ⟨Ah, ch, bsh, rfl, hth, hb⟩
  rw [← HY.out] at hth
  rw [← HY.out, ← HOK.out]
  clear SLh1 SAh1
  clear SLh2
  have HB' := Lib.hid (HB.out.trans (hb.mono HB.out.size))
  have HX1' := Lib.hid (HX1.out.below hb HX1.out.size)
  have WL' := Lib.hid (WL.out.below (hb.mono (by have hs := HS.out; omega)))
  have XW' := Lib.hid (XW.out.below hb XW.out.size)
  have XG' := Lib.hid (XG.out.below hb XG.out.size)
  have GL' := Lib.hid (GL.out.below (hb.mono (by have hs := HS.out; omega)))
  have HS' := Lib.hid (And.intro hb.size HS.out)
  clear hb HB HX1 WL XW XG GL HS
  have HB := HB'
  have HX1 := HX1'
  have WL := WL'
  have XW := XW'
  have XG := XG'
  have GL := GL'
  have HS := HS'
  clear HB' HX1' WL' XW' XG' GL' HS'
  have HHL := Lib.hid (hth.lies fun z hz => (hth.lt z hz).2)
  clear hth
  obtain ⟨hb, r1⟩ := one_box w20 29 #[Value.int IntKind.i64 y.op, Value.int IntKind.i64 y.n, Value.slice Ah y.k.len ch]
  have HB' := Lib.hid (HB.out.trans (hb.mono HB.out.size))
  have HX1' := Lib.hid (HX1.out.below hb HX1.out.size)
  have WL' := Lib.hid (WL.out.below (hb.mono (by have hs := HS.out; omega)))
  have XW' := Lib.hid (XW.out.below hb XW.out.size)
  have XG' := Lib.hid (XG.out.below hb XG.out.size)
  have GL' := Lib.hid (GL.out.below (hb.mono (by have hs := HS.out; omega)))
  have HHL' := Lib.hid (HHL.out.below (hb.mono (by have hs := HS.out; omega)))
  have HS' := Lib.hid (And.intro hb.size HS.out)
  clear hb HB HX1 WL XW XG GL HHL HS
  have HB := HB'
  have HX1 := HX1'
  have WL := WL'
  have XW := XW'
  have XG := XG'
  have GL := GL'
  have HHL := HHL'
  have HS := HS'
  clear HB' HX1' WL' XW' XG' GL' HHL' HS'
  have XH := Lib.hid r1
  have HS' := Lib.hid (And.intro (show w20.heap.size + 1 ≤ (w20.alloc (Obj.cells #[Value.int IntKind.i64 y.op, Value.int IntKind.i64 y.n, Value.slice Ah y.k.len ch] 29)).heap.size from by simp) HS.out)
  clear HS r1
  have HS := HS'
  clear HS'
  have zXH_0 := XH.out.cell (i := 0) rfl
  have zXH_1 := XH.out.cell (i := 1) rfl
  have zXH_2 := XH.out.cell (i := 2) rfl
  have zXW_0 := XW.out.cell (i := 0) rfl
  have zXW_1 := XW.out.cell (i := 1) rfl
  have zXW_2 := XW.out.cell (i := 2) rfl
  go_wp2_with fail
  refine (eqExpr_any y.op y.n y.k Ah Aw ch cw _ (HHL.out.mono_ (Nat.zero_le _) (by have hs := HS.out; omega)) (WL.out.mono_ (Nat.zero_le _) (by have hs := HS.out; omega)) hys).mono ?_
  rintro e w21 ⟨rfl, hb⟩
  clear zXH_0 zXH_1 zXH_2 zXW_0 zXW_1 zXW_2
  have HB' := Lib.hid (HB.out.trans (hb.mono HB.out.size))
  have HX1' := Lib.hid (HX1.out.below hb HX1.out.size)
  have WL' := Lib.hid (WL.out.below (hb.mono (by have hs := HS.out; omega)))
  have XW' := Lib.hid (XW.out.below hb XW.out.size)
  have XG' := Lib.hid (XG.out.below hb XG.out.size)
  have GL' := Lib.hid (GL.out.below (hb.mono (by have hs := HS.out; omega)))
  have HHL' := Lib.hid (HHL.out.below (hb.mono (by have hs := HS.out; omega)))
  have XH' := Lib.hid (XH.out.below hb XH.out.size)
  have HS' := Lib.hid (And.intro hb.size HS.out)
  clear hb HB HX1 WL XW XG GL HHL XH HS
  have HB := HB'
  have HX1 := HX1'
  have WL := WL'
  have XW := XW'
  have XG := XG'
  have GL := GL'
  have HHL := HHL'
  have XH := XH'
  have HS := HS'
  clear HB' HX1' WL' XW' XG' GL' HHL' XH' HS'
  have zXG_0 := XG.out.cell (i := 0) rfl
  have zXG_1 := XG.out.cell (i := 1) rfl
  have zXG_2 := XG.out.cell (i := 2) rfl
  go_wp2_with fail
  refine (heldOwn_any y.op y.n y.k Ag cg _ 1 (GL.out.mono_ (Nat.zero_le _) (by have hs := HS.out; omega)) (by decide) (by omega)).mono ?_
  rintro e w22 ⟨rfl, hb⟩
  rw [HLL.out]
  clear zXG_0 zXG_1 zXG_2
  have HB' := Lib.hid (HB.out.trans (hb.mono HB.out.size))
  have HX1' := Lib.hid (HX1.out.below hb HX1.out.size)
  have WL' := Lib.hid (WL.out.below (hb.mono (by have hs := HS.out; omega)))
  have XW' := Lib.hid (XW.out.below hb XW.out.size)
  have XG' := Lib.hid (XG.out.below hb XG.out.size)
  have GL' := Lib.hid (GL.out.below (hb.mono (by have hs := HS.out; omega)))
  have HHL' := Lib.hid (HHL.out.below (hb.mono (by have hs := HS.out; omega)))
  have XH' := Lib.hid (XH.out.below hb XH.out.size)
  have HS' := Lib.hid (And.intro hb.size HS.out)
  clear hb HB HX1 WL XW XG GL HHL XH HS
  have HB := HB'
  have HX1 := HX1'
  have WL := WL'
  have XW := XW'
  have XG := XG'
  have GL := GL'
  have HHL := HHL'
  have XH := XH'
  have HS := HS'
  clear HB' HX1' WL' XW' XG' GL' HHL' XH' HS'
  go_wp2
  go_ret
  exact ⟨rfl, HB.out⟩
end Go.Proofs.Ytccclkfkbefoaaa
