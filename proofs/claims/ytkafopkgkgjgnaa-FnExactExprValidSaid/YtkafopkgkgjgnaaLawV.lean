/-
  The walk of the law FnExactExprValid: true at every argument.
-/
import Derived.Test.YtkafopkgkgjgnaaTools
import Derived.Test.YtkafopkgkgjgnaaImplV
import Derived.Deep.RegionHeld3
namespace Go.Proofs.Ytkafopkgkgjgnaa
open Go.RowKit

set_option maxHeartbeats 800000 in
theorem law_valid (op n : Int) (k : Fo) (A : Option Addr) (c : Nat) (zs : List Int) (ZA : Option Addr) (Zc : Nat) (w : World) (hl : Lies w 0 w.heap.size A 0 k) (hlen : k.len ≤ maxLen)
    (hz : LiesI w 0 w.heap.size ZA zs) (hzl : zs.length ≤ maxLen) :
    Calls Try.prog 3 #[.agg #[.int .i64 op, .int .i64 n, .slice A k.len c], .slice ZA zs.length Zc] w (Gives (.bool true) w) := by
  have hb0 : Below w.heap.size w (w.alloc (Obj.cells #[Value.int IntKind.i64 op, Value.int IntKind.i64 n, Value.slice A k.len c] 24)) := (Below.refl _ _).alloc (Nat.le_refl _) _
  have hr0 := Row.fresh w 24 #[Value.int IntKind.i64 op, Value.int IntKind.i64 n, Value.slice A k.len c]
  have hs0 : w.heap.size + 1 ≤ (w.alloc (Obj.cells #[Value.int IntKind.i64 op, Value.int IntKind.i64 n, Value.slice A k.len c] 24)).heap.size := by simp
  have HLEN := Lib.hid hlen
  clear hlen
  unfold maxLen at hzl
  by_cases hzb : 1048576 < zs.length
  · go_enter Try.func3, Try.ntmps3
    go_wp2
    go_ret
    exact ⟨rfl, hb0⟩
  · have hz20 : zs.length ≤ 1048576 := by omega
    go_enter Try.func3, Try.ntmps3
    go_wp2_with fail
    refine (szExpr_any op n k A c _ 1048576 ((hl.below hb0).mono_ (Nat.le_refl _) hb0.size) HLEN.out (by decide) (by decide)).mono ?_
    rintro e w1 ⟨r, rfl, hr, hb1'⟩
    have hb1 := hb0.trans (hb1'.mono hb0.size)
    have hr1 := hr0.below hb1' (by omega)
    have hs1 : w.heap.size + 1 ≤ w1.heap.size := Nat.le_trans hs0 hb1'.size
    clear hb0 hr0 hs0 hb1'
    rcases hr with rfl | ⟨hr0, hr⟩
    · go_wp2
      go_ret
      exact ⟨rfl, hb1⟩
    · have hsz : k.size ≤ 1048576 := by omega
      have HR := Lib.hid hr
      clear hr
      have q0 := hr1.cell (i := 0) rfl
      have q1 := hr1.cell (i := 1) rfl
      have q2 := hr1.cell (i := 2) rfl
      go_wp2_with fail
      -- the model's answer
      refine (toExpr_any op n k A c w1 ((hl.below hb1).mono_ (Nat.le_refl _) hb1.size) hsz).mono ?_
      rintro e w2 ⟨A2, c2, rfl, ha2, hc2, hl2, hb2'⟩
      have hb2 := hb1.trans (hb2'.mono hb1.size)
      have hr2 := hr1.below hb2' (by omega)
      have hs2 : w.heap.size + 1 ≤ w2.heap.size := Nat.le_trans hs1 hb2'.size
      clear hr1 hb1 hs1 hb2' q0 q1 q2
      go_wp2_with fail
      refine (toIntS_any zs ZA Zc w2 ((hz.below hb2).mono_ (Nat.le_refl _) hb2.size) hz20).mono ?_
      rintro e w3 ⟨Z3, zc3, rfl, hzc3, hzm3, hz3, hb3'⟩
      have hb3 := hb2.trans (hb3'.mono hb2.size)
      have hr3 := hr2.below hb3' (by omega)
      have hl3 := (hl2.below hb3').mono_ (Nat.zero_le _) hb3'.size
      have hs3 : w.heap.size + 1 ≤ w3.heap.size := Nat.le_trans hs2 hb3'.size
      clear hr2 hb2 hs2 hb3' hl2
      go_wp2_with fail
      refine (specExprValid_any op n k A2 c2 zs Z3 zc3 w3 hl3 HLEN.out (hz3.mono_ (Nat.zero_le _) (Nat.le_refl _)) hz20).mono ?_
      rintro e w4 ⟨rfl, hb4'⟩
      have hb4 := hb3.trans (hb4'.mono hb3.size)
      have hr4 := hr3.below hb4' (by omega)
      have hs4 : w.heap.size + 1 ≤ w4.heap.size := Nat.le_trans hs3 hb4'.size
      have q0 := hr4.cell (i := 0) rfl
      have q1 := hr4.cell (i := 1) rfl
      have q2 := hr4.cell (i := 2) rfl
      clear hr3 hb3 hs3 hb4' hl3 hz3 hzc3 hzm3
      have HY : validOf op n k zs = validOf op n k zs := rfl
      generalize hy : validOf op n k zs = y at *
      have HYH := Lib.hid hy
      clear hy HY
      go_wp2_with fail
      -- the program's answer
      refine (toExpr_any op n k A c w4 ((hl.below hb4).mono_ (Nat.le_refl _) hb4.size) hsz).mono ?_
      rintro e w5 ⟨A5, c5, rfl, ha5, hc5, hl5, hb5'⟩
      have hb5 := (hb4.trans (hb5'.mono hb4.size)).alloc (by have := hb5'.size; omega) (Obj.cells #[Value.int IntKind.i64 op, Value.int IntKind.i64 n, Value.slice A5 k.len c5] 30)
      have hr5 := (hr4.below hb5' (by omega)).alloc (Obj.cells #[Value.int IntKind.i64 op, Value.int IntKind.i64 n, Value.slice A5 k.len c5] 30)
      have hx5 := Row.fresh w5 30 #[Value.int IntKind.i64 op, Value.int IntKind.i64 n, Value.slice A5 k.len c5]
      have hl6 := (hl5.below ((Below.refl _ _).alloc (Nat.le_refl _) (Obj.cells #[Value.int IntKind.i64 op, Value.int IntKind.i64 n, Value.slice A5 k.len c5] 30))).mono_ (Nat.zero_le _) (show w5.heap.size ≤ (w5.alloc (Obj.cells #[Value.int IntKind.i64 op, Value.int IntKind.i64 n, Value.slice A5 k.len c5] 30)).heap.size by simp)
      have hs6 : w5.heap.size + 1 ≤ (w5.alloc (Obj.cells #[Value.int IntKind.i64 op, Value.int IntKind.i64 n, Value.slice A5 k.len c5] 30)).heap.size := by simp
      have hs56 : w.heap.size + 1 ≤ w5.heap.size := Nat.le_trans hs4 hb5'.size
      clear q0 q1 q2 hb5' hl5 hr4 hb4 hs4
      go_wp2_with fail
      generalize w5.alloc (Obj.cells #[Value.int IntKind.i64 op, Value.int IntKind.i64 n, Value.slice A5 k.len c5] 30) = w6 at *
      refine (toIntS_any zs ZA Zc w6 ((hz.below hb5).mono_ (Nat.le_refl _) hb5.size) hz20).mono ?_
      rintro e w7 ⟨Z7, zc7, rfl, hzc7, hzm7, hz7, hb7'⟩
      have hb7 := hb5.trans (hb7'.mono hb5.size)
      have hr7 := hr5.below hb7' (by omega)
      have hx7 := hx5.below hb7' (by omega)
      have hl7 := (hl6.below hb7').mono_ (Nat.le_refl _) hb7'.size
      have hs7 : w5.heap.size + 1 ≤ w7.heap.size := Nat.le_trans hs6 hb7'.size
      clear hr5 hb5 hs6 hb7' hl6 hx5 hzc7 hzm7
      have x0 := hx7.cell (i := 0) rfl
      have x1 := hx7.cell (i := 1) rfl
      have x2 := hx7.cell (i := 2) rfl
      go_wp2_with fail
      refine (implExprValid_any op n k A5 c5 zs Z7 zc7 w7 hl7 HLEN.out (hz7.mono_ (Nat.zero_le _) (Nat.le_refl _)) hz20).mono ?_
      rintro e w8 ⟨rfl, hb8'⟩
      rw [HYH.out]
      have hb8 := hb7.trans (hb8'.mono hb7.size)
      have hr8 := hr7.below hb8' (by omega)
      have hx8 := hx7.below hb8' (by omega)
      have hl8 := (hl7.below hb8').mono_ (Nat.le_refl _) hb8'.size
      have hz8 := ((hz7.below hb8').mono_ (Nat.zero_le _) hb8'.size)
      have hs8 : w5.heap.size + 1 ≤ w8.heap.size := Nat.le_trans hs7 hb8'.size
      clear hr7 hb7 hs7 hb8' hl7 hx7 x0 x1 x2 hz7
      have x0 := hx8.cell (i := 0) rfl
      have x1 := hx8.cell (i := 1) rfl
      have x2 := hx8.cell (i := 2) rfl
      have q0 := hr8.cell (i := 0) rfl
      have q1 := hr8.cell (i := 1) rfl
      have q2 := hr8.cell (i := 2) rfl
      go_wp2_with fail
      have hb80 : Below w8.heap.size w8 w8.drew := (Below.refl _ _).drew
      have HLD : Lies w8.drew 0 w8.drew.heap.size A 0 k := (hl.below (w' := w8.drew) hb8.drew).mono_ (Nat.le_refl _) hb8.size
      have HLX : Lies w8.drew 0 w8.drew.heap.size A5 0 k := hl8.below (w' := w8.drew) hb80
      have HZX : LiesI w8.drew 0 w8.drew.heap.size Z7 zs := hz8.below (w' := w8.drew) hb80
      have HR := Lib.hid hr8
      have HX := Lib.hid hx8
      have HB8 := Lib.hid hb8
      have HWZ : w8.drew.heap.size = w8.heap.size := rfl
      have HL := Lib.hid hl
      have HLDH := Lib.hid HLD
      have HLXH := Lib.hid HLX
      have HZXH := Lib.hid HZX
      have HB80 := Lib.hid hb80
      clear hl hl8 hb8 hr8 hx8 hz8 HLD HLX HZX HWZ
      go_region_held3 (fun w' => w'.cell? ⟨w5.heap.size, 0, none⟩ = some (.int .i64 op) ∧ w'.cell? ⟨w5.heap.size, 1, none⟩ = some (.int .i64 n) ∧ w'.cell? ⟨w5.heap.size, 2, none⟩ = some (.slice A5 k.len c5) ∧
          w'.cell? ⟨w.heap.size, 0, none⟩ = some (.int .i64 op) ∧ w'.cell? ⟨w.heap.size, 1, none⟩ = some (.int .i64 n) ∧ w'.cell? ⟨w.heap.size, 2, none⟩ = some (.slice A k.len c))
        (first | exact ⟨x0, x1, x2, q0, q1, q2⟩ | exact ⟨y0, y1, y2, p0, p1, p2⟩ | exact ⟨u0, u1, u2, s0, s1, s2⟩)
        (first
          | (go_at_call 11
             refine (toExpr_any op n k A c _ HLDH.out hsz).mono ?_
             rintro e w9 ⟨A9, c9, rfl, ha9, hc9, hl9, hb9⟩
             have y0 := (hb9.cell (p := ⟨w5.heap.size, 0, none⟩) (show w5.heap.size < w8.heap.size by omega)).trans x0
             have y1 := (hb9.cell (p := ⟨w5.heap.size, 1, none⟩) (show w5.heap.size < w8.heap.size by omega)).trans x1
             have y2 := (hb9.cell (p := ⟨w5.heap.size, 2, none⟩) (show w5.heap.size < w8.heap.size by omega)).trans x2
             have p0 := (hb9.cell (p := ⟨w.heap.size, 0, none⟩) (show w.heap.size < w8.heap.size by omega)).trans q0
             have p1 := (hb9.cell (p := ⟨w.heap.size, 1, none⟩) (show w.heap.size < w8.heap.size by omega)).trans q1
             have p2 := (hb9.cell (p := ⟨w.heap.size, 2, none⟩) (show w.heap.size < w8.heap.size by omega)).trans q2)
          | (go_at_call 14
             refine (eqExpr_any op n k A5 A9 c5 c9 _ ((HLXH.out.below hb9).mono_ (Nat.le_refl _) hb9.size) (hl9.mono_ (Nat.zero_le _) (Nat.le_refl _)) hsz).mono ?_
             rintro e w10 ⟨rfl, hb10⟩
             have z9 := hb9.size
             have u0 := (hb10.cell (p := ⟨w5.heap.size, 0, none⟩) (Nat.lt_of_lt_of_le (show w5.heap.size < w8.heap.size by omega) hb9.size)).trans y0
             have u1 := (hb10.cell (p := ⟨w5.heap.size, 1, none⟩) (Nat.lt_of_lt_of_le (show w5.heap.size < w8.heap.size by omega) hb9.size)).trans y1
             have u2 := (hb10.cell (p := ⟨w5.heap.size, 2, none⟩) (Nat.lt_of_lt_of_le (show w5.heap.size < w8.heap.size by omega) hb9.size)).trans y2
             have s0 := (hb10.cell (p := ⟨w.heap.size, 0, none⟩) (Nat.lt_of_lt_of_le (show w.heap.size < w8.heap.size by omega) hb9.size)).trans p0
             have s1 := (hb10.cell (p := ⟨w.heap.size, 1, none⟩) (Nat.lt_of_lt_of_le (show w.heap.size < w8.heap.size by omega) hb9.size)).trans p1
             have s2 := (hb10.cell (p := ⟨w.heap.size, 2, none⟩) (Nat.lt_of_lt_of_le (show w.heap.size < w8.heap.size by omega) hb9.size)).trans p2))
      have hb9a : Below w8.heap.size w8 w9 := HB80.out.trans hb9
      have hb10a : Below w8.heap.size w8 w10 := hb9a.trans (hb10.mono hb9.size)
      have hbw : Below w.heap.size w w10 := HB8.out.trans (hb10a.mono HB8.out.size)
      have hz10 := (HZXH.out.below (hb9.trans (hb10.mono hb9.size))).mono_ (Nat.le_refl _) hb10a.size
      clear hb9a hb10a z9 u0 u1 u2 s0 s1 s2 y0 y1 y2 p0 p1 p2 x0 x1 x2 q0 q1 q2 hb80 hb9 hb10 hl9
      go_wp2_with fail
      refine (toIntS_any zs ZA Zc w10 ((hz.below hbw).mono_ (Nat.le_refl _) hbw.size) hz20).mono ?_
      rintro e w11 ⟨Z11, zc11, rfl, _, _, hz11, hb11'⟩
      have hb11 := hbw.trans (hb11'.mono hbw.size)
      have hz7' := (hz10.below hb11').mono_ (Nat.le_refl _) hb11'.size
      clear hbw hb11' hz10
      go_wp2_with fail
      refine (eqIntS_any zs Z7 Z11 zc7 zc11 w11 hz7' (hz11.mono_ (Nat.zero_le _) (Nat.le_refl _)) hz20).mono ?_
      rintro e w12 ⟨rfl, hb12'⟩
      have hb12 := hb11.trans (hb12'.mono hb11.size)
      clear hb11 hb12' hz11 hz7'
      go_wp2
      go_ret
      exact ⟨rfl, hb12⟩
end Go.Proofs.Ytkafopkgkgjgnaa
