/-
  The walk of the law FnExactOutcomeSeen: true at every argument (made by gen_law.py).
-/
import Derived.Test.YtjaabcfgnmomkaaOut
import Derived.Test.YtjaabcfgnmomkaaOuTo
import Derived.Test.YtjaabcfgnmomkaaBoxes
import Derived.Deep.RegionHeld3
namespace Go.Proofs.Ytjaabcfgnmomkaa
open Go.RowKit
set_option maxRecDepth 100000

set_option maxHeartbeats 2000000 in
theorem law_OutSeen (o1 : Ou) (Aa1 Ab1 : Option Addr) (ca1 cb1 : Nat) (o2 : Ou) (Aa2 Ab2 : Option Addr) (ca2 cb2 : Nat) (w : World) (hla1 : LiesI w 0 w.heap.size Aa1 o1.out) (hlb1 : LiesI w 0 w.heap.size Ab1 o1.calls) (hlen1 : o1.out.length ≤ maxLen) (hlenb1 : o1.calls.length ≤ maxLen) (hla2 : LiesI w 0 w.heap.size Aa2 o2.out) (hlb2 : LiesI w 0 w.heap.size Ab2 o2.calls) (hlen2 : o2.out.length ≤ maxLen) (hlenb2 : o2.calls.length ≤ maxLen) :
    Calls Try.prog 4 #[.agg #[.int .i64 o1.code, .int .i64 o1.val, .slice Aa1 o1.out.length ca1, .slice Ab1 o1.calls.length cb1], .agg #[.int .i64 o2.code, .int .i64 o2.val, .slice Aa2 o2.out.length ca2, .slice Ab2 o2.calls.length cb2]] w (Gives (.bool true) w) := by
  obtain ⟨z, hz⟩ : ∃ z, seenB o1 o2 = z := ⟨_, rfl⟩
  have HZz := Lib.hid hz
  clear hz
  obtain ⟨hb, r1, r2⟩ := two_boxes w 24 24 #[Value.int IntKind.i64 o1.code, Value.int IntKind.i64 o1.val, Value.slice Aa1 o1.out.length ca1, Value.slice Ab1 o1.calls.length cb1] #[Value.int IntKind.i64 o2.code, Value.int IntKind.i64 o2.val, Value.slice Aa2 o2.out.length ca2, Value.slice Ab2 o2.calls.length cb2]
  have HX1 := Lib.hid r1
  have HX2 := Lib.hid r2
  clear r1 r2
  have HB := Lib.hid hb
  have HS := Lib.hid (And.intro hb.size (show w.heap.size + 2 ≤ ((w.alloc (Obj.cells #[Value.int IntKind.i64 o1.code, Value.int IntKind.i64 o1.val, Value.slice Aa1 o1.out.length ca1, Value.slice Ab1 o1.calls.length cb1] 24)).alloc (Obj.cells #[Value.int IntKind.i64 o2.code, Value.int IntKind.i64 o2.val, Value.slice Aa2 o2.out.length ca2, Value.slice Ab2 o2.calls.length cb2] 24)).heap.size from by simp))
  clear hb
  have HLa1 := Lib.hid hla1
  clear hla1
  have HLb1 := Lib.hid hlb1
  clear hlb1
  have HLa2 := Lib.hid hla2
  clear hla2
  have HLb2 := Lib.hid hlb2
  clear hlb2
  go_enter Try.func4, Try.ntmps4
  go_wp2_with fail
  refine (szOutcome_any o1 Aa1 Ab1 ca1 cb1 _ 1048576 hlen1 hlenb1 (by decide) (by decide)).mono ?_
  rintro e w1 ⟨r1, rfl, hr1, hb⟩
  have HB' := Lib.hid (HB.out.trans (hb.mono HB.out.size))
  have HX1' := Lib.hid (HX1.out.below hb HX1.out.size)
  have HX2' := Lib.hid (HX2.out.below hb HX2.out.size)
  have HS' := Lib.hid (And.intro hb.size HS.out)
  clear hb HB HX1 HX2 HS
  have HB := HB'
  have HX1 := HX1'
  have HX2 := HX2'
  have HS := HS'
  clear HB' HX1' HX2' HS'
  rcases hr1 with rfl | ⟨hrz1, hr1⟩
  · go_wp2
    go_ret
    exact ⟨rfl, HB.out⟩
  have hsz1 : o1.out.length ≤ 1048576 := by omega
  have hszb1 : o1.calls.length ≤ 1048576 := by omega
  have hrb1 : r1 ≤ 1048576 := by omega
  clear hr1
  have qHX2_0 := HX2.out.cell (i := 0) rfl
  have qHX2_1 := HX2.out.cell (i := 1) rfl
  have qHX2_2 := HX2.out.cell (i := 2) rfl
  have qHX2_3 := HX2.out.cell (i := 3) rfl
  go_wp2_with fail
  refine (szOutcome_any o2 Aa2 Ab2 ca2 cb2 _ r1 hlen2 hlenb2 hrz1 hrb1).mono ?_
  rintro e w2 ⟨r2, rfl, hr2, hb⟩
  clear qHX2_0 qHX2_1 qHX2_2 qHX2_3
  have HB' := Lib.hid (HB.out.trans (hb.mono HB.out.size))
  have HX1' := Lib.hid (HX1.out.below hb HX1.out.size)
  have HX2' := Lib.hid (HX2.out.below hb HX2.out.size)
  have HS' := Lib.hid (And.intro hb.size HS.out)
  clear hb HB HX1 HX2 HS
  have HB := HB'
  have HX1 := HX1'
  have HX2 := HX2'
  have HS := HS'
  clear HB' HX1' HX2' HS'
  rcases hr2 with rfl | ⟨hrz2, hr2⟩
  · go_wp2
    go_ret
    exact ⟨rfl, HB.out⟩
  have hsz2 : o2.out.length ≤ 1048576 := by omega
  have hszb2 : o2.calls.length ≤ 1048576 := by omega
  have hrb2 : r2 ≤ 1048576 := by omega
  clear hr2
  have qHX1_0 := HX1.out.cell (i := 0) rfl
  have qHX1_1 := HX1.out.cell (i := 1) rfl
  have qHX1_2 := HX1.out.cell (i := 2) rfl
  have qHX1_3 := HX1.out.cell (i := 3) rfl
  have qHX2_0 := HX2.out.cell (i := 0) rfl
  have qHX2_1 := HX2.out.cell (i := 1) rfl
  have qHX2_2 := HX2.out.cell (i := 2) rfl
  have qHX2_3 := HX2.out.cell (i := 3) rfl
  go_wp2_with fail
  have hb : Below w2.heap.size w2 w2.drew := (Below.refl _ _).drew
  have HB' := Lib.hid (HB.out.trans (hb.mono HB.out.size))
  have HX1' := Lib.hid (HX1.out.below hb HX1.out.size)
  have HX2' := Lib.hid (HX2.out.below hb HX2.out.size)
  have HS' := Lib.hid (And.intro hb.size HS.out)
  clear hb HB HX1 HX2 HS
  have HB := HB'
  have HX1 := HX1'
  have HX2 := HX2'
  have HS := HS'
  clear HB' HX1' HX2' HS'
  go_region_held3 (fun w' => w'.cell? ⟨w.heap.size, 0, none⟩ = some (Value.int IntKind.i64 o1.code) ∧ w'.cell? ⟨w.heap.size, 1, none⟩ = some (Value.int IntKind.i64 o1.val) ∧ w'.cell? ⟨w.heap.size, 2, none⟩ = some (Value.slice Aa1 o1.out.length ca1) ∧ w'.cell? ⟨w.heap.size, 3, none⟩ = some (Value.slice Ab1 o1.calls.length cb1) ∧ w'.cell? ⟨w.heap.size + 1, 0, none⟩ = some (Value.int IntKind.i64 o2.code) ∧ w'.cell? ⟨w.heap.size + 1, 1, none⟩ = some (Value.int IntKind.i64 o2.val) ∧ w'.cell? ⟨w.heap.size + 1, 2, none⟩ = some (Value.slice Aa2 o2.out.length ca2) ∧ w'.cell? ⟨w.heap.size + 1, 3, none⟩ = some (Value.slice Ab2 o2.calls.length cb2))
    (first | exact ⟨qHX1_0, qHX1_1, qHX1_2, qHX1_3, qHX2_0, qHX2_1, qHX2_2, qHX2_3⟩ | exact ⟨y0HX1_0, y0HX1_1, y0HX1_2, y0HX1_3, y0HX2_0, y0HX2_1, y0HX2_2, y0HX2_3⟩ | exact ⟨y1HX1_0, y1HX1_1, y1HX1_2, y1HX1_3, y1HX2_0, y1HX2_1, y1HX2_2, y1HX2_3⟩ | exact ⟨y2HX1_0, y2HX1_1, y2HX1_2, y2HX1_3, y2HX2_0, y2HX2_1, y2HX2_2, y2HX2_3⟩)
    (first
      | (go_at_call 10
         refine (specSeen_any o1 o2 Aas1 Abs1 Aas2 Abs2 cas1 cbs1 cas2 cbs2 _ ((hls1.mono_ (Nat.zero_le _) (Nat.le_refl _)).up hb4) (hls2.mono_ (Nat.zero_le _) (Nat.le_refl _)) hsz1 hsz2).mono ?_
         rintro e w5 ⟨rfl, hb5⟩
         rw [HZz.out]
         have y2HX1_0 := (hb5.cell (p := ⟨w.heap.size, 0, none⟩) (show w.heap.size < w4.heap.size by have hs := HS.out; have zhb3 := hb3.size; have zhb4 := hb4.size; omega)).trans y1HX1_0
         have y2HX1_1 := (hb5.cell (p := ⟨w.heap.size, 1, none⟩) (show w.heap.size < w4.heap.size by have hs := HS.out; have zhb3 := hb3.size; have zhb4 := hb4.size; omega)).trans y1HX1_1
         have y2HX1_2 := (hb5.cell (p := ⟨w.heap.size, 2, none⟩) (show w.heap.size < w4.heap.size by have hs := HS.out; have zhb3 := hb3.size; have zhb4 := hb4.size; omega)).trans y1HX1_2
         have y2HX1_3 := (hb5.cell (p := ⟨w.heap.size, 3, none⟩) (show w.heap.size < w4.heap.size by have hs := HS.out; have zhb3 := hb3.size; have zhb4 := hb4.size; omega)).trans y1HX1_3
         have y2HX2_0 := (hb5.cell (p := ⟨w.heap.size + 1, 0, none⟩) (show w.heap.size + 1 < w4.heap.size by have hs := HS.out; have zhb3 := hb3.size; have zhb4 := hb4.size; omega)).trans y1HX2_0
         have y2HX2_1 := (hb5.cell (p := ⟨w.heap.size + 1, 1, none⟩) (show w.heap.size + 1 < w4.heap.size by have hs := HS.out; have zhb3 := hb3.size; have zhb4 := hb4.size; omega)).trans y1HX2_1
         have y2HX2_2 := (hb5.cell (p := ⟨w.heap.size + 1, 2, none⟩) (show w.heap.size + 1 < w4.heap.size by have hs := HS.out; have zhb3 := hb3.size; have zhb4 := hb4.size; omega)).trans y1HX2_2
         have y2HX2_3 := (hb5.cell (p := ⟨w.heap.size + 1, 3, none⟩) (show w.heap.size + 1 < w4.heap.size by have hs := HS.out; have zhb3 := hb3.size; have zhb4 := hb4.size; omega)).trans y1HX2_3)
      | (go_at_call 7
         refine (toOutcome_any o2 Aa2 Ab2 ca2 cb2 _ (HLa2.out.up (HB.out.trans (hb3.mono (HB.out).size))) (HLb2.out.up (HB.out.trans (hb3.mono (HB.out).size))) hsz2 hszb2).mono ?_
         rintro e w4 ⟨Aas2, cas2, Abs2, cbs2, rfl, hks2, hcs2, hkbs2, hcbs2, hls2, hlbs2, hb4⟩
         have y1HX1_0 := (hb4.cell (p := ⟨w.heap.size, 0, none⟩) (show w.heap.size < w3.heap.size by have hs := HS.out; have zhb3 := hb3.size; omega)).trans y0HX1_0
         have y1HX1_1 := (hb4.cell (p := ⟨w.heap.size, 1, none⟩) (show w.heap.size < w3.heap.size by have hs := HS.out; have zhb3 := hb3.size; omega)).trans y0HX1_1
         have y1HX1_2 := (hb4.cell (p := ⟨w.heap.size, 2, none⟩) (show w.heap.size < w3.heap.size by have hs := HS.out; have zhb3 := hb3.size; omega)).trans y0HX1_2
         have y1HX1_3 := (hb4.cell (p := ⟨w.heap.size, 3, none⟩) (show w.heap.size < w3.heap.size by have hs := HS.out; have zhb3 := hb3.size; omega)).trans y0HX1_3
         have y1HX2_0 := (hb4.cell (p := ⟨w.heap.size + 1, 0, none⟩) (show w.heap.size + 1 < w3.heap.size by have hs := HS.out; have zhb3 := hb3.size; omega)).trans y0HX2_0
         have y1HX2_1 := (hb4.cell (p := ⟨w.heap.size + 1, 1, none⟩) (show w.heap.size + 1 < w3.heap.size by have hs := HS.out; have zhb3 := hb3.size; omega)).trans y0HX2_1
         have y1HX2_2 := (hb4.cell (p := ⟨w.heap.size + 1, 2, none⟩) (show w.heap.size + 1 < w3.heap.size by have hs := HS.out; have zhb3 := hb3.size; omega)).trans y0HX2_2
         have y1HX2_3 := (hb4.cell (p := ⟨w.heap.size + 1, 3, none⟩) (show w.heap.size + 1 < w3.heap.size by have hs := HS.out; have zhb3 := hb3.size; omega)).trans y0HX2_3)
      | (go_at_call 7
         refine (toOutcome_any o1 Aa1 Ab1 ca1 cb1 _ (HLa1.out.up HB.out) (HLb1.out.up HB.out) hsz1 hszb1).mono ?_
         rintro e w3 ⟨Aas1, cas1, Abs1, cbs1, rfl, hks1, hcs1, hkbs1, hcbs1, hls1, hlbs1, hb3⟩
         have y0HX1_0 := (hb3.cell (p := ⟨w.heap.size, 0, none⟩) (show w.heap.size < w2.drew.heap.size by have hs := HS.out; omega)).trans qHX1_0
         have y0HX1_1 := (hb3.cell (p := ⟨w.heap.size, 1, none⟩) (show w.heap.size < w2.drew.heap.size by have hs := HS.out; omega)).trans qHX1_1
         have y0HX1_2 := (hb3.cell (p := ⟨w.heap.size, 2, none⟩) (show w.heap.size < w2.drew.heap.size by have hs := HS.out; omega)).trans qHX1_2
         have y0HX1_3 := (hb3.cell (p := ⟨w.heap.size, 3, none⟩) (show w.heap.size < w2.drew.heap.size by have hs := HS.out; omega)).trans qHX1_3
         have y0HX2_0 := (hb3.cell (p := ⟨w.heap.size + 1, 0, none⟩) (show w.heap.size + 1 < w2.drew.heap.size by have hs := HS.out; omega)).trans qHX2_0
         have y0HX2_1 := (hb3.cell (p := ⟨w.heap.size + 1, 1, none⟩) (show w.heap.size + 1 < w2.drew.heap.size by have hs := HS.out; omega)).trans qHX2_1
         have y0HX2_2 := (hb3.cell (p := ⟨w.heap.size + 1, 2, none⟩) (show w.heap.size + 1 < w2.drew.heap.size by have hs := HS.out; omega)).trans qHX2_2
         have y0HX2_3 := (hb3.cell (p := ⟨w.heap.size + 1, 3, none⟩) (show w.heap.size + 1 < w2.drew.heap.size by have hs := HS.out; omega)).trans qHX2_3))
  have hb : Below w2.drew.heap.size w2.drew w5 := ((hb3).trans (hb4.mono (hb3.size))).trans (hb5.mono (Nat.le_trans (hb3.size) hb4.size))
  clear hb3 hb4 hb5 hls1 hlbs1 hls2 hlbs2 qHX1_0 qHX1_1 qHX1_2 qHX1_3 qHX2_0 qHX2_1 qHX2_2 qHX2_3 y2HX1_0 y2HX1_1 y2HX1_2 y2HX1_3 y2HX2_0 y2HX2_1 y2HX2_2 y2HX2_3 y1HX1_0 y1HX1_1 y1HX1_2 y1HX1_3 y1HX2_0 y1HX2_1 y1HX2_2 y1HX2_3 y0HX1_0 y0HX1_1 y0HX1_2 y0HX1_3 y0HX2_0 y0HX2_1 y0HX2_2 y0HX2_3
  have HB' := Lib.hid (HB.out.trans (hb.mono HB.out.size))
  have HX1' := Lib.hid (HX1.out.below hb HX1.out.size)
  have HX2' := Lib.hid (HX2.out.below hb HX2.out.size)
  have HS' := Lib.hid (And.intro hb.size HS.out)
  clear hb HB HX1 HX2 HS
  have HB := HB'
  have HX1 := HX1'
  have HX2 := HX2'
  have HS := HS'
  clear HB' HX1' HX2' HS'
  have qHX1_0 := HX1.out.cell (i := 0) rfl
  have qHX1_1 := HX1.out.cell (i := 1) rfl
  have qHX1_2 := HX1.out.cell (i := 2) rfl
  have qHX1_3 := HX1.out.cell (i := 3) rfl
  go_wp2_with fail
  refine (toOutcome_any o1 Aa1 Ab1 ca1 cb1 _ (HLa1.out.up HB.out) (HLb1.out.up HB.out) hsz1 hszb1).mono ?_
  rintro e w6 ⟨Aax1, cax1, Abx1, cbx1, rfl, hkx1, hcx1, hkbx1, hcbx1, hlx1, hlbx1, hb⟩
  clear qHX1_0 qHX1_1 qHX1_2 qHX1_3
  have HB' := Lib.hid (HB.out.trans (hb.mono HB.out.size))
  have HX1' := Lib.hid (HX1.out.below hb HX1.out.size)
  have HX2' := Lib.hid (HX2.out.below hb HX2.out.size)
  have HS' := Lib.hid (And.intro hb.size HS.out)
  clear hb HB HX1 HX2 HS
  have HB := HB'
  have HX1 := HX1'
  have HX2 := HX2'
  have HS := HS'
  clear HB' HX1' HX2' HS'
  have XL1 := Lib.hid hlx1
  have XM1 := Lib.hid hlbx1
  clear hlx1 hlbx1
  obtain ⟨hb, r1⟩ := one_box w6 27 #[Value.int IntKind.i64 o1.code, Value.int IntKind.i64 o1.val, Value.slice Aax1 o1.out.length cax1, Value.slice Abx1 o1.calls.length cbx1]
  have HB' := Lib.hid (HB.out.trans (hb.mono HB.out.size))
  have HX1' := Lib.hid (HX1.out.below hb HX1.out.size)
  have HX2' := Lib.hid (HX2.out.below hb HX2.out.size)
  have XL1' := Lib.hid (XL1.out.below (hb.mono (by have hs := HS.out; omega)))
  have XM1' := Lib.hid (XM1.out.below (hb.mono (by have hs := HS.out; omega)))
  have HS' := Lib.hid (And.intro hb.size HS.out)
  clear hb HB HX1 HX2 XL1 XM1 HS
  have HB := HB'
  have HX1 := HX1'
  have HX2 := HX2'
  have XL1 := XL1'
  have XM1 := XM1'
  have HS := HS'
  clear HB' HX1' HX2' XL1' XM1' HS'
  have XB1 := Lib.hid r1
  have HS' := Lib.hid (And.intro (show w6.heap.size + 1 ≤ (w6.alloc (Obj.cells #[Value.int IntKind.i64 o1.code, Value.int IntKind.i64 o1.val, Value.slice Aax1 o1.out.length cax1, Value.slice Abx1 o1.calls.length cbx1] 27)).heap.size from by simp) HS.out)
  clear HS r1
  have HS := HS'
  clear HS'
  have qHX2_0 := HX2.out.cell (i := 0) rfl
  have qHX2_1 := HX2.out.cell (i := 1) rfl
  have qHX2_2 := HX2.out.cell (i := 2) rfl
  have qHX2_3 := HX2.out.cell (i := 3) rfl
  go_wp2_with fail
  refine (toOutcome_any o2 Aa2 Ab2 ca2 cb2 _ (HLa2.out.up HB.out) (HLb2.out.up HB.out) hsz2 hszb2).mono ?_
  rintro e w7 ⟨Aax2, cax2, Abx2, cbx2, rfl, hkx2, hcx2, hkbx2, hcbx2, hlx2, hlbx2, hb⟩
  clear qHX2_0 qHX2_1 qHX2_2 qHX2_3
  have HB' := Lib.hid (HB.out.trans (hb.mono HB.out.size))
  have HX1' := Lib.hid (HX1.out.below hb HX1.out.size)
  have HX2' := Lib.hid (HX2.out.below hb HX2.out.size)
  have XL1' := Lib.hid (XL1.out.below (hb.mono (by have hs := HS.out; omega)))
  have XM1' := Lib.hid (XM1.out.below (hb.mono (by have hs := HS.out; omega)))
  have XB1' := Lib.hid (XB1.out.below hb XB1.out.size)
  have HS' := Lib.hid (And.intro hb.size HS.out)
  clear hb HB HX1 HX2 XL1 XM1 XB1 HS
  have HB := HB'
  have HX1 := HX1'
  have HX2 := HX2'
  have XL1 := XL1'
  have XM1 := XM1'
  have XB1 := XB1'
  have HS := HS'
  clear HB' HX1' HX2' XL1' XM1' XB1' HS'
  have XL2 := Lib.hid hlx2
  have XM2 := Lib.hid hlbx2
  clear hlx2 hlbx2
  obtain ⟨hb, r1⟩ := one_box w7 27 #[Value.int IntKind.i64 o2.code, Value.int IntKind.i64 o2.val, Value.slice Aax2 o2.out.length cax2, Value.slice Abx2 o2.calls.length cbx2]
  have HB' := Lib.hid (HB.out.trans (hb.mono HB.out.size))
  have HX1' := Lib.hid (HX1.out.below hb HX1.out.size)
  have HX2' := Lib.hid (HX2.out.below hb HX2.out.size)
  have XL1' := Lib.hid (XL1.out.below (hb.mono (by have hs := HS.out; omega)))
  have XM1' := Lib.hid (XM1.out.below (hb.mono (by have hs := HS.out; omega)))
  have XB1' := Lib.hid (XB1.out.below hb XB1.out.size)
  have XL2' := Lib.hid (XL2.out.below (hb.mono (by have hs := HS.out; omega)))
  have XM2' := Lib.hid (XM2.out.below (hb.mono (by have hs := HS.out; omega)))
  have HS' := Lib.hid (And.intro hb.size HS.out)
  clear hb HB HX1 HX2 XL1 XM1 XB1 XL2 XM2 HS
  have HB := HB'
  have HX1 := HX1'
  have HX2 := HX2'
  have XL1 := XL1'
  have XM1 := XM1'
  have XB1 := XB1'
  have XL2 := XL2'
  have XM2 := XM2'
  have HS := HS'
  clear HB' HX1' HX2' XL1' XM1' XB1' XL2' XM2' HS'
  have XB2 := Lib.hid r1
  have HS' := Lib.hid (And.intro (show w7.heap.size + 1 ≤ (w7.alloc (Obj.cells #[Value.int IntKind.i64 o2.code, Value.int IntKind.i64 o2.val, Value.slice Aax2 o2.out.length cax2, Value.slice Abx2 o2.calls.length cbx2] 27)).heap.size from by simp) HS.out)
  clear HS r1
  have HS := HS'
  clear HS'
  have HC := Lib.hid (implSeen_any o1 o2 Aax1 Abx1 Aax2 Abx2 cax1 cbx1 cax2 cbx2 (w7.alloc (Obj.cells #[Value.int IntKind.i64 o2.code, Value.int IntKind.i64 o2.val, Value.slice Aax2 o2.out.length cax2, Value.slice Abx2 o2.calls.length cbx2] 27)) (XL1.out.mono_ (Nat.zero_le _) (by have hs := HS.out; omega)) (XL2.out.mono_ (Nat.zero_le _) (by have hs := HS.out; omega)) hsz1 hsz2)
  have xXB1_0 := XB1.out.cell (i := 0) rfl
  have xXB1_1 := XB1.out.cell (i := 1) rfl
  have xXB1_2 := XB1.out.cell (i := 2) rfl
  have xXB1_3 := XB1.out.cell (i := 3) rfl
  have xXB2_0 := XB2.out.cell (i := 0) rfl
  have xXB2_1 := XB2.out.cell (i := 1) rfl
  have xXB2_2 := XB2.out.cell (i := 2) rfl
  have xXB2_3 := XB2.out.cell (i := 3) rfl
  go_wp2_with fail
  refine HC.out.mono ?_
  rintro e w8 ⟨rfl, hb⟩
  rw [HZz.out]
  clear HC
  clear xXB1_0 xXB1_1 xXB1_2 xXB1_3 xXB2_0 xXB2_1 xXB2_2 xXB2_3
  have HB' := Lib.hid (HB.out.trans (hb.mono HB.out.size))
  have HX1' := Lib.hid (HX1.out.below hb HX1.out.size)
  have HX2' := Lib.hid (HX2.out.below hb HX2.out.size)
  have XL1' := Lib.hid (XL1.out.below (hb.mono (by have hs := HS.out; omega)))
  have XM1' := Lib.hid (XM1.out.below (hb.mono (by have hs := HS.out; omega)))
  have XB1' := Lib.hid (XB1.out.below hb XB1.out.size)
  have XL2' := Lib.hid (XL2.out.below (hb.mono (by have hs := HS.out; omega)))
  have XM2' := Lib.hid (XM2.out.below (hb.mono (by have hs := HS.out; omega)))
  have XB2' := Lib.hid (XB2.out.below hb XB2.out.size)
  have HS' := Lib.hid (And.intro hb.size HS.out)
  clear hb HB HX1 HX2 XL1 XM1 XB1 XL2 XM2 XB2 HS
  have HB := HB'
  have HX1 := HX1'
  have HX2 := HX2'
  have XL1 := XL1'
  have XM1 := XM1'
  have XB1 := XB1'
  have XL2 := XL2'
  have XM2 := XM2'
  have XB2 := XB2'
  have HS := HS'
  clear HB' HX1' HX2' XL1' XM1' XB1' XL2' XM2' XB2' HS'
  have qXB1_0 := XB1.out.cell (i := 0) rfl
  have qXB1_1 := XB1.out.cell (i := 1) rfl
  have qXB1_2 := XB1.out.cell (i := 2) rfl
  have qXB1_3 := XB1.out.cell (i := 3) rfl
  have qHX1_0 := HX1.out.cell (i := 0) rfl
  have qHX1_1 := HX1.out.cell (i := 1) rfl
  have qHX1_2 := HX1.out.cell (i := 2) rfl
  have qHX1_3 := HX1.out.cell (i := 3) rfl
  go_wp2_with fail
  have hb : Below w8.heap.size w8 w8.drew := (Below.refl _ _).drew
  have HB' := Lib.hid (HB.out.trans (hb.mono HB.out.size))
  have HX1' := Lib.hid (HX1.out.below hb HX1.out.size)
  have HX2' := Lib.hid (HX2.out.below hb HX2.out.size)
  have XL1' := Lib.hid (XL1.out.below (hb.mono (by have hs := HS.out; omega)))
  have XM1' := Lib.hid (XM1.out.below (hb.mono (by have hs := HS.out; omega)))
  have XB1' := Lib.hid (XB1.out.below hb XB1.out.size)
  have XL2' := Lib.hid (XL2.out.below (hb.mono (by have hs := HS.out; omega)))
  have XM2' := Lib.hid (XM2.out.below (hb.mono (by have hs := HS.out; omega)))
  have XB2' := Lib.hid (XB2.out.below hb XB2.out.size)
  have HS' := Lib.hid (And.intro hb.size HS.out)
  clear hb HB HX1 HX2 XL1 XM1 XB1 XL2 XM2 XB2 HS
  have HB := HB'
  have HX1 := HX1'
  have HX2 := HX2'
  have XL1 := XL1'
  have XM1 := XM1'
  have XB1 := XB1'
  have XL2 := XL2'
  have XM2 := XM2'
  have XB2 := XB2'
  have HS := HS'
  clear HB' HX1' HX2' XL1' XM1' XB1' XL2' XM2' XB2' HS'
  go_region_held3 (fun w' => w'.cell? ⟨w6.heap.size, 0, none⟩ = some (Value.int IntKind.i64 o1.code) ∧ w'.cell? ⟨w6.heap.size, 1, none⟩ = some (Value.int IntKind.i64 o1.val) ∧ w'.cell? ⟨w6.heap.size, 2, none⟩ = some (Value.slice Aax1 o1.out.length cax1) ∧ w'.cell? ⟨w6.heap.size, 3, none⟩ = some (Value.slice Abx1 o1.calls.length cbx1) ∧ w'.cell? ⟨w.heap.size, 0, none⟩ = some (Value.int IntKind.i64 o1.code) ∧ w'.cell? ⟨w.heap.size, 1, none⟩ = some (Value.int IntKind.i64 o1.val) ∧ w'.cell? ⟨w.heap.size, 2, none⟩ = some (Value.slice Aa1 o1.out.length ca1) ∧ w'.cell? ⟨w.heap.size, 3, none⟩ = some (Value.slice Ab1 o1.calls.length cb1))
    (first | exact ⟨qXB1_0, qXB1_1, qXB1_2, qXB1_3, qHX1_0, qHX1_1, qHX1_2, qHX1_3⟩ | exact ⟨y0XB1_0, y0XB1_1, y0XB1_2, y0XB1_3, y0HX1_0, y0HX1_1, y0HX1_2, y0HX1_3⟩ | exact ⟨y1XB1_0, y1XB1_1, y1XB1_2, y1XB1_3, y1HX1_0, y1HX1_1, y1HX1_2, y1HX1_3⟩)
    (first
      | (go_at_call 9
         refine (eqOutcome_any o1 Aax1 Abx1 Aat1 Abt1 cax1 cbx1 cat1 cbt1 _ ((XL1.out.mono_ (Nat.zero_le _) (by have hs := HS.out; omega)).up hb9) ((XM1.out.mono_ (Nat.zero_le _) (by have hs := HS.out; omega)).up hb9) (hlt1.mono_ (Nat.zero_le _) (Nat.le_refl _)) (hlbt1.mono_ (Nat.zero_le _) (Nat.le_refl _)) hsz1 hszb1).mono ?_
         rintro e w10 ⟨rfl, hb10⟩
         have y1XB1_0 := (hb10.cell (p := ⟨w6.heap.size, 0, none⟩) (show w6.heap.size < w9.heap.size by have hs := HS.out; have zhb9 := hb9.size; omega)).trans y0XB1_0
         have y1XB1_1 := (hb10.cell (p := ⟨w6.heap.size, 1, none⟩) (show w6.heap.size < w9.heap.size by have hs := HS.out; have zhb9 := hb9.size; omega)).trans y0XB1_1
         have y1XB1_2 := (hb10.cell (p := ⟨w6.heap.size, 2, none⟩) (show w6.heap.size < w9.heap.size by have hs := HS.out; have zhb9 := hb9.size; omega)).trans y0XB1_2
         have y1XB1_3 := (hb10.cell (p := ⟨w6.heap.size, 3, none⟩) (show w6.heap.size < w9.heap.size by have hs := HS.out; have zhb9 := hb9.size; omega)).trans y0XB1_3
         have y1HX1_0 := (hb10.cell (p := ⟨w.heap.size, 0, none⟩) (show w.heap.size < w9.heap.size by have hs := HS.out; have zhb9 := hb9.size; omega)).trans y0HX1_0
         have y1HX1_1 := (hb10.cell (p := ⟨w.heap.size, 1, none⟩) (show w.heap.size < w9.heap.size by have hs := HS.out; have zhb9 := hb9.size; omega)).trans y0HX1_1
         have y1HX1_2 := (hb10.cell (p := ⟨w.heap.size, 2, none⟩) (show w.heap.size < w9.heap.size by have hs := HS.out; have zhb9 := hb9.size; omega)).trans y0HX1_2
         have y1HX1_3 := (hb10.cell (p := ⟨w.heap.size, 3, none⟩) (show w.heap.size < w9.heap.size by have hs := HS.out; have zhb9 := hb9.size; omega)).trans y0HX1_3)
      | (go_at_call 7
         refine (toOutcome_any o1 Aa1 Ab1 ca1 cb1 _ (HLa1.out.up HB.out) (HLb1.out.up HB.out) hsz1 hszb1).mono ?_
         rintro e w9 ⟨Aat1, cat1, Abt1, cbt1, rfl, hkt1, hct1, hkbt1, hcbt1, hlt1, hlbt1, hb9⟩
         have y0XB1_0 := (hb9.cell (p := ⟨w6.heap.size, 0, none⟩) (show w6.heap.size < w8.drew.heap.size by have hs := HS.out; omega)).trans qXB1_0
         have y0XB1_1 := (hb9.cell (p := ⟨w6.heap.size, 1, none⟩) (show w6.heap.size < w8.drew.heap.size by have hs := HS.out; omega)).trans qXB1_1
         have y0XB1_2 := (hb9.cell (p := ⟨w6.heap.size, 2, none⟩) (show w6.heap.size < w8.drew.heap.size by have hs := HS.out; omega)).trans qXB1_2
         have y0XB1_3 := (hb9.cell (p := ⟨w6.heap.size, 3, none⟩) (show w6.heap.size < w8.drew.heap.size by have hs := HS.out; omega)).trans qXB1_3
         have y0HX1_0 := (hb9.cell (p := ⟨w.heap.size, 0, none⟩) (show w.heap.size < w8.drew.heap.size by have hs := HS.out; omega)).trans qHX1_0
         have y0HX1_1 := (hb9.cell (p := ⟨w.heap.size, 1, none⟩) (show w.heap.size < w8.drew.heap.size by have hs := HS.out; omega)).trans qHX1_1
         have y0HX1_2 := (hb9.cell (p := ⟨w.heap.size, 2, none⟩) (show w.heap.size < w8.drew.heap.size by have hs := HS.out; omega)).trans qHX1_2
         have y0HX1_3 := (hb9.cell (p := ⟨w.heap.size, 3, none⟩) (show w.heap.size < w8.drew.heap.size by have hs := HS.out; omega)).trans qHX1_3))
  have hb : Below w8.drew.heap.size w8.drew w10 := (hb9).trans (hb10.mono (hb9.size))
  clear hb9 hb10 hlt1 hlbt1 qXB1_0 qXB1_1 qXB1_2 qXB1_3 qHX1_0 qHX1_1 qHX1_2 qHX1_3 y0XB1_0 y0XB1_1 y0XB1_2 y0XB1_3 y0HX1_0 y0HX1_1 y0HX1_2 y0HX1_3 y1XB1_0 y1XB1_1 y1XB1_2 y1XB1_3 y1HX1_0 y1HX1_1 y1HX1_2 y1HX1_3
  have HB' := Lib.hid (HB.out.trans (hb.mono HB.out.size))
  have HX1' := Lib.hid (HX1.out.below hb HX1.out.size)
  have HX2' := Lib.hid (HX2.out.below hb HX2.out.size)
  have XL1' := Lib.hid (XL1.out.below (hb.mono (by have hs := HS.out; omega)))
  have XM1' := Lib.hid (XM1.out.below (hb.mono (by have hs := HS.out; omega)))
  have XB1' := Lib.hid (XB1.out.below hb XB1.out.size)
  have XL2' := Lib.hid (XL2.out.below (hb.mono (by have hs := HS.out; omega)))
  have XM2' := Lib.hid (XM2.out.below (hb.mono (by have hs := HS.out; omega)))
  have XB2' := Lib.hid (XB2.out.below hb XB2.out.size)
  have HS' := Lib.hid (And.intro hb.size HS.out)
  clear hb HB HX1 HX2 XL1 XM1 XB1 XL2 XM2 XB2 HS
  have HB := HB'
  have HX1 := HX1'
  have HX2 := HX2'
  have XL1 := XL1'
  have XM1 := XM1'
  have XB1 := XB1'
  have XL2 := XL2'
  have XM2 := XM2'
  have XB2 := XB2'
  have HS := HS'
  clear HB' HX1' HX2' XL1' XM1' XB1' XL2' XM2' XB2' HS'
  have qXB2_0 := XB2.out.cell (i := 0) rfl
  have qXB2_1 := XB2.out.cell (i := 1) rfl
  have qXB2_2 := XB2.out.cell (i := 2) rfl
  have qXB2_3 := XB2.out.cell (i := 3) rfl
  have qHX2_0 := HX2.out.cell (i := 0) rfl
  have qHX2_1 := HX2.out.cell (i := 1) rfl
  have qHX2_2 := HX2.out.cell (i := 2) rfl
  have qHX2_3 := HX2.out.cell (i := 3) rfl
  go_wp2_with fail
  have hb : Below w10.heap.size w10 w10.drew := (Below.refl _ _).drew
  have HB' := Lib.hid (HB.out.trans (hb.mono HB.out.size))
  have HX1' := Lib.hid (HX1.out.below hb HX1.out.size)
  have HX2' := Lib.hid (HX2.out.below hb HX2.out.size)
  have XL1' := Lib.hid (XL1.out.below (hb.mono (by have hs := HS.out; omega)))
  have XM1' := Lib.hid (XM1.out.below (hb.mono (by have hs := HS.out; omega)))
  have XB1' := Lib.hid (XB1.out.below hb XB1.out.size)
  have XL2' := Lib.hid (XL2.out.below (hb.mono (by have hs := HS.out; omega)))
  have XM2' := Lib.hid (XM2.out.below (hb.mono (by have hs := HS.out; omega)))
  have XB2' := Lib.hid (XB2.out.below hb XB2.out.size)
  have HS' := Lib.hid (And.intro hb.size HS.out)
  clear hb HB HX1 HX2 XL1 XM1 XB1 XL2 XM2 XB2 HS
  have HB := HB'
  have HX1 := HX1'
  have HX2 := HX2'
  have XL1 := XL1'
  have XM1 := XM1'
  have XB1 := XB1'
  have XL2 := XL2'
  have XM2 := XM2'
  have XB2 := XB2'
  have HS := HS'
  clear HB' HX1' HX2' XL1' XM1' XB1' XL2' XM2' XB2' HS'
  go_region_held3 (fun w' => w'.cell? ⟨w7.heap.size, 0, none⟩ = some (Value.int IntKind.i64 o2.code) ∧ w'.cell? ⟨w7.heap.size, 1, none⟩ = some (Value.int IntKind.i64 o2.val) ∧ w'.cell? ⟨w7.heap.size, 2, none⟩ = some (Value.slice Aax2 o2.out.length cax2) ∧ w'.cell? ⟨w7.heap.size, 3, none⟩ = some (Value.slice Abx2 o2.calls.length cbx2) ∧ w'.cell? ⟨w.heap.size + 1, 0, none⟩ = some (Value.int IntKind.i64 o2.code) ∧ w'.cell? ⟨w.heap.size + 1, 1, none⟩ = some (Value.int IntKind.i64 o2.val) ∧ w'.cell? ⟨w.heap.size + 1, 2, none⟩ = some (Value.slice Aa2 o2.out.length ca2) ∧ w'.cell? ⟨w.heap.size + 1, 3, none⟩ = some (Value.slice Ab2 o2.calls.length cb2))
    (first | exact ⟨qXB2_0, qXB2_1, qXB2_2, qXB2_3, qHX2_0, qHX2_1, qHX2_2, qHX2_3⟩ | exact ⟨y0XB2_0, y0XB2_1, y0XB2_2, y0XB2_3, y0HX2_0, y0HX2_1, y0HX2_2, y0HX2_3⟩ | exact ⟨y1XB2_0, y1XB2_1, y1XB2_2, y1XB2_3, y1HX2_0, y1HX2_1, y1HX2_2, y1HX2_3⟩)
    (first
      | (go_at_call 9
         refine (eqOutcome_any o2 Aax2 Abx2 Aat2 Abt2 cax2 cbx2 cat2 cbt2 _ ((XL2.out.mono_ (Nat.zero_le _) (by have hs := HS.out; omega)).up hb11) ((XM2.out.mono_ (Nat.zero_le _) (by have hs := HS.out; omega)).up hb11) (hlt2.mono_ (Nat.zero_le _) (Nat.le_refl _)) (hlbt2.mono_ (Nat.zero_le _) (Nat.le_refl _)) hsz2 hszb2).mono ?_
         rintro e w12 ⟨rfl, hb12⟩
         have y1XB2_0 := (hb12.cell (p := ⟨w7.heap.size, 0, none⟩) (show w7.heap.size < w11.heap.size by have hs := HS.out; have zhb11 := hb11.size; omega)).trans y0XB2_0
         have y1XB2_1 := (hb12.cell (p := ⟨w7.heap.size, 1, none⟩) (show w7.heap.size < w11.heap.size by have hs := HS.out; have zhb11 := hb11.size; omega)).trans y0XB2_1
         have y1XB2_2 := (hb12.cell (p := ⟨w7.heap.size, 2, none⟩) (show w7.heap.size < w11.heap.size by have hs := HS.out; have zhb11 := hb11.size; omega)).trans y0XB2_2
         have y1XB2_3 := (hb12.cell (p := ⟨w7.heap.size, 3, none⟩) (show w7.heap.size < w11.heap.size by have hs := HS.out; have zhb11 := hb11.size; omega)).trans y0XB2_3
         have y1HX2_0 := (hb12.cell (p := ⟨w.heap.size + 1, 0, none⟩) (show w.heap.size + 1 < w11.heap.size by have hs := HS.out; have zhb11 := hb11.size; omega)).trans y0HX2_0
         have y1HX2_1 := (hb12.cell (p := ⟨w.heap.size + 1, 1, none⟩) (show w.heap.size + 1 < w11.heap.size by have hs := HS.out; have zhb11 := hb11.size; omega)).trans y0HX2_1
         have y1HX2_2 := (hb12.cell (p := ⟨w.heap.size + 1, 2, none⟩) (show w.heap.size + 1 < w11.heap.size by have hs := HS.out; have zhb11 := hb11.size; omega)).trans y0HX2_2
         have y1HX2_3 := (hb12.cell (p := ⟨w.heap.size + 1, 3, none⟩) (show w.heap.size + 1 < w11.heap.size by have hs := HS.out; have zhb11 := hb11.size; omega)).trans y0HX2_3)
      | (go_at_call 7
         refine (toOutcome_any o2 Aa2 Ab2 ca2 cb2 _ (HLa2.out.up HB.out) (HLb2.out.up HB.out) hsz2 hszb2).mono ?_
         rintro e w11 ⟨Aat2, cat2, Abt2, cbt2, rfl, hkt2, hct2, hkbt2, hcbt2, hlt2, hlbt2, hb11⟩
         have y0XB2_0 := (hb11.cell (p := ⟨w7.heap.size, 0, none⟩) (show w7.heap.size < w10.drew.heap.size by have hs := HS.out; omega)).trans qXB2_0
         have y0XB2_1 := (hb11.cell (p := ⟨w7.heap.size, 1, none⟩) (show w7.heap.size < w10.drew.heap.size by have hs := HS.out; omega)).trans qXB2_1
         have y0XB2_2 := (hb11.cell (p := ⟨w7.heap.size, 2, none⟩) (show w7.heap.size < w10.drew.heap.size by have hs := HS.out; omega)).trans qXB2_2
         have y0XB2_3 := (hb11.cell (p := ⟨w7.heap.size, 3, none⟩) (show w7.heap.size < w10.drew.heap.size by have hs := HS.out; omega)).trans qXB2_3
         have y0HX2_0 := (hb11.cell (p := ⟨w.heap.size + 1, 0, none⟩) (show w.heap.size + 1 < w10.drew.heap.size by have hs := HS.out; omega)).trans qHX2_0
         have y0HX2_1 := (hb11.cell (p := ⟨w.heap.size + 1, 1, none⟩) (show w.heap.size + 1 < w10.drew.heap.size by have hs := HS.out; omega)).trans qHX2_1
         have y0HX2_2 := (hb11.cell (p := ⟨w.heap.size + 1, 2, none⟩) (show w.heap.size + 1 < w10.drew.heap.size by have hs := HS.out; omega)).trans qHX2_2
         have y0HX2_3 := (hb11.cell (p := ⟨w.heap.size + 1, 3, none⟩) (show w.heap.size + 1 < w10.drew.heap.size by have hs := HS.out; omega)).trans qHX2_3))
  have hb : Below w10.drew.heap.size w10.drew w12 := (hb11).trans (hb12.mono (hb11.size))
  clear hb11 hb12 hlt2 hlbt2 qXB2_0 qXB2_1 qXB2_2 qXB2_3 qHX2_0 qHX2_1 qHX2_2 qHX2_3 y0XB2_0 y0XB2_1 y0XB2_2 y0XB2_3 y0HX2_0 y0HX2_1 y0HX2_2 y0HX2_3 y1XB2_0 y1XB2_1 y1XB2_2 y1XB2_3 y1HX2_0 y1HX2_1 y1HX2_2 y1HX2_3
  have HB' := Lib.hid (HB.out.trans (hb.mono HB.out.size))
  have HX1' := Lib.hid (HX1.out.below hb HX1.out.size)
  have HX2' := Lib.hid (HX2.out.below hb HX2.out.size)
  have XL1' := Lib.hid (XL1.out.below (hb.mono (by have hs := HS.out; omega)))
  have XM1' := Lib.hid (XM1.out.below (hb.mono (by have hs := HS.out; omega)))
  have XB1' := Lib.hid (XB1.out.below hb XB1.out.size)
  have XL2' := Lib.hid (XL2.out.below (hb.mono (by have hs := HS.out; omega)))
  have XM2' := Lib.hid (XM2.out.below (hb.mono (by have hs := HS.out; omega)))
  have XB2' := Lib.hid (XB2.out.below hb XB2.out.size)
  have HS' := Lib.hid (And.intro hb.size HS.out)
  clear hb HB HX1 HX2 XL1 XM1 XB1 XL2 XM2 XB2 HS
  have HB := HB'
  have HX1 := HX1'
  have HX2 := HX2'
  have XL1 := XL1'
  have XM1 := XM1'
  have XB1 := XB1'
  have XL2 := XL2'
  have XM2 := XM2'
  have XB2 := XB2'
  have HS := HS'
  clear HB' HX1' HX2' XL1' XM1' XB1' XL2' XM2' XB2' HS'
  go_wp2
  go_ret
  exact ⟨rfl, HB.out⟩
end Go.Proofs.Ytjaabcfgnmomkaa
