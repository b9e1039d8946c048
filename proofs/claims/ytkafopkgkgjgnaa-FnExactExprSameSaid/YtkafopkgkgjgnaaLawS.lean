/-
  The walk of the law FnExactExprSame: true at every two arguments.
-/
import Derived.Test.YtkafopkgkgjgnaaTools
import Derived.Test.YtkafopkgkgjgnaaISame
import Derived.Deep.RegionHeld3
namespace Go.Proofs.Ytkafopkgkgjgnaa
open Go.RowKit

set_option maxHeartbeats 1000000 in
theorem law_same (op n op' n' : Int) (k k' : Fo) (A A' : Option Addr) (c c' : Nat) (w : World) (hl : Lies w 0 w.heap.size A 0 k) (hl' : Lies w 0 w.heap.size A' 0 k') (hlen : k.len ≤ maxLen) (hlen' : k'.len ≤ maxLen) :
    Calls Try.prog 4 #[.agg #[.int .i64 op, .int .i64 n, .slice A k.len c], .agg #[.int .i64 op', .int .i64 n', .slice A' k'.len c']] w (Gives (.bool true) w) := by
  have hb0 : Below w.heap.size w ((w.alloc (Obj.cells #[Value.int IntKind.i64 op, Value.int IntKind.i64 n, Value.slice A k.len c] 24)).alloc (Obj.cells #[Value.int IntKind.i64 op', Value.int IntKind.i64 n', Value.slice A' k'.len c'] 24)) :=
    ((Below.refl _ _).alloc (Nat.le_refl _) _).alloc (by simp) _
  have ha0 : Row ((w.alloc (Obj.cells #[Value.int IntKind.i64 op, Value.int IntKind.i64 n, Value.slice A k.len c] 24)).alloc (Obj.cells #[Value.int IntKind.i64 op', Value.int IntKind.i64 n', Value.slice A' k'.len c'] 24)) w.heap.size 24 #[Value.int IntKind.i64 op, Value.int IntKind.i64 n, Value.slice A k.len c] :=
    (Row.fresh _ _ _).alloc _
  have hr0 : Row ((w.alloc (Obj.cells #[Value.int IntKind.i64 op, Value.int IntKind.i64 n, Value.slice A k.len c] 24)).alloc (Obj.cells #[Value.int IntKind.i64 op', Value.int IntKind.i64 n', Value.slice A' k'.len c'] 24)) (w.heap.size + 1) 24 #[Value.int IntKind.i64 op', Value.int IntKind.i64 n', Value.slice A' k'.len c'] := by
    have := Row.fresh (w.alloc (Obj.cells #[Value.int IntKind.i64 op, Value.int IntKind.i64 n, Value.slice A k.len c] 24)) 24 #[Value.int IntKind.i64 op', Value.int IntKind.i64 n', Value.slice A' k'.len c']
    rw [World.size_alloc] at this
    exact this
  have hs0 : w.heap.size + 2 ≤ ((w.alloc (Obj.cells #[Value.int IntKind.i64 op, Value.int IntKind.i64 n, Value.slice A k.len c] 24)).alloc (Obj.cells #[Value.int IntKind.i64 op', Value.int IntKind.i64 n', Value.slice A' k'.len c'] 24)).heap.size := by simp
  have HLEN := Lib.hid hlen
  have HLEN' := Lib.hid hlen'
  clear hlen hlen'
  go_enter Try.func4, Try.ntmps4
  go_wp2_with fail
  refine (szExpr_any op n k A c _ 1048576 ((hl.below hb0).mono_ (Nat.le_refl _) hb0.size) HLEN.out (by decide) (by decide)).mono ?_
  rintro e w1 ⟨r, rfl, hr, hb1'⟩
  have hb1 := hb0.trans (hb1'.mono hb0.size)
  have ha1 := ha0.below hb1' (by omega)
  have hr1 := hr0.below hb1' (by omega)
  have hs1 : w.heap.size + 2 ≤ w1.heap.size := Nat.le_trans hs0 hb1'.size
  clear hb0 hr0 ha0 hs0 hb1'
  rcases hr with rfl | ⟨hrz, hr⟩
  · go_wp2
    go_ret
    exact ⟨rfl, hb1⟩
  · have hsz : k.size ≤ 1048576 := by omega
    have hrb : r ≤ 1048576 := by omega
    have q3 := hr1.cell (i := 0) rfl
    have q4 := hr1.cell (i := 1) rfl
    have q5 := hr1.cell (i := 2) rfl
    clear hr
    go_wp2_with fail
    refine (szExpr_any op' n' k' A' c' w1 r ((hl'.below hb1).mono_ (Nat.le_refl _) hb1.size) HLEN'.out hrz hrb).mono ?_
    rintro e w2 ⟨r2, rfl, hr2, hb2'⟩
    have hb2 := hb1.trans (hb2'.mono hb1.size)
    have ha2 := ha1.below hb2' (by omega)
    have hr2' := hr1.below hb2' (by omega)
    have hs2 : w.heap.size + 2 ≤ w2.heap.size := Nat.le_trans hs1 hb2'.size
    clear hb1 hr1 ha1 hs1 hb2' q3 q4 q5
    rcases hr2 with rfl | ⟨hrz2, hr2⟩
    · go_wp2
      go_ret
      exact ⟨rfl, hb2⟩
    · have hsz' : k'.size ≤ 1048576 := by omega
      clear hr2
      have q0 := ha2.cell (i := 0) rfl
      have q1 := ha2.cell (i := 1) rfl
      have q2 := ha2.cell (i := 2) rfl
      have q3 := hr2'.cell (i := 0) rfl
      have q4 := hr2'.cell (i := 1) rfl
      have q5 := hr2'.cell (i := 2) rfl
      go_wp2_with fail
      have HL1 : Lies w2.drew 0 w2.drew.heap.size A 0 k := (hl.below (w' := w2.drew) hb2.drew).mono_ (Nat.le_refl _) hb2.size
      have HL2 : Lies w2.drew 0 w2.drew.heap.size A' 0 k' := (hl'.below (w' := w2.drew) hb2.drew).mono_ (Nat.le_refl _) hb2.size
      have hbd : Below w2.heap.size w2 w2.drew := (Below.refl _ _).drew
      have HD1 := Lib.hid HL1
      have HD2 := Lib.hid HL2
      have HBD := Lib.hid hbd
      have HB2 := Lib.hid hb2
      have HA2 := Lib.hid ha2
      have HR2 := Lib.hid hr2'
      have HL := Lib.hid hl
      have HL' := Lib.hid hl'
      clear HL1 HL2 hbd hb2 ha2 hr2' hl hl'
      go_region_held3 (fun w' => w'.cell? ⟨w.heap.size, 0, none⟩ = some (.int .i64 op) ∧ w'.cell? ⟨w.heap.size, 1, none⟩ = some (.int .i64 n) ∧ w'.cell? ⟨w.heap.size, 2, none⟩ = some (.slice A k.len c) ∧
          w'.cell? ⟨w.heap.size + 1, 0, none⟩ = some (.int .i64 op') ∧ w'.cell? ⟨w.heap.size + 1, 1, none⟩ = some (.int .i64 n') ∧ w'.cell? ⟨w.heap.size + 1, 2, none⟩ = some (.slice A' k'.len c'))
        (first | exact ⟨q0, q1, q2, q3, q4, q5⟩ | exact ⟨y0, y1, y2, y3, y4, y5⟩ | exact ⟨u0, u1, u2, u3, u4, u5⟩ | exact ⟨s0, s1, s2, s3, s4, s5⟩)
        (first
          | (go_at_call 11
             refine (toExpr_any op' n' k' A' c' _ ((HD2.out.below hb3).mono_ (Nat.le_refl _) hb3.size) hsz').mono ?_
             rintro e w4 ⟨A4, c4, rfl, ha4, hc4, hl4, _, hb4⟩
             have z3 : w2.heap.size ≤ w3.heap.size := hb3.size
             have u0 := (hb4.cell (p := ⟨w.heap.size, 0, none⟩) (show w.heap.size < w3.heap.size by omega)).trans y0
             have u1 := (hb4.cell (p := ⟨w.heap.size, 1, none⟩) (show w.heap.size < w3.heap.size by omega)).trans y1
             have u2 := (hb4.cell (p := ⟨w.heap.size, 2, none⟩) (show w.heap.size < w3.heap.size by omega)).trans y2
             have u3 := (hb4.cell (p := ⟨w.heap.size + 1, 0, none⟩) (show w.heap.size + 1 < w3.heap.size by omega)).trans y3
             have u4 := (hb4.cell (p := ⟨w.heap.size + 1, 1, none⟩) (show w.heap.size + 1 < w3.heap.size by omega)).trans y4
             have u5 := (hb4.cell (p := ⟨w.heap.size + 1, 2, none⟩) (show w.heap.size + 1 < w3.heap.size by omega)).trans y5)
          | (go_at_call 16
             refine (specSame_any k.size op n op' n' k k' A3 A4 c3 c4 _ rfl ((hl3.below hb4).mono_ (Nat.zero_le _) hb4.size) (hl4.mono_ (Nat.zero_le _) (Nat.le_refl _)) hsz hsz').mono ?_
             rintro e w5 ⟨rfl, hb5⟩
             have z4 : w3.heap.size ≤ w4.heap.size := hb4.size
             have s0 := (hb5.cell (p := ⟨w.heap.size, 0, none⟩) (show w.heap.size < w4.heap.size by omega)).trans u0
             have s1 := (hb5.cell (p := ⟨w.heap.size, 1, none⟩) (show w.heap.size < w4.heap.size by omega)).trans u1
             have s2 := (hb5.cell (p := ⟨w.heap.size, 2, none⟩) (show w.heap.size < w4.heap.size by omega)).trans u2
             have s3 := (hb5.cell (p := ⟨w.heap.size + 1, 0, none⟩) (show w.heap.size + 1 < w4.heap.size by omega)).trans u3
             have s4 := (hb5.cell (p := ⟨w.heap.size + 1, 1, none⟩) (show w.heap.size + 1 < w4.heap.size by omega)).trans u4
             have s5 := (hb5.cell (p := ⟨w.heap.size + 1, 2, none⟩) (show w.heap.size + 1 < w4.heap.size by omega)).trans u5)
          | (go_at_call 11
             refine (toExpr_any op n k A c _ HD1.out hsz).mono ?_
             rintro e w3 ⟨A3, c3, rfl, ha3, hc3, hl3, _, hb3⟩
             have y0 := (hb3.cell (p := ⟨w.heap.size, 0, none⟩) (show w.heap.size < w2.heap.size by omega)).trans q0
             have y1 := (hb3.cell (p := ⟨w.heap.size, 1, none⟩) (show w.heap.size < w2.heap.size by omega)).trans q1
             have y2 := (hb3.cell (p := ⟨w.heap.size, 2, none⟩) (show w.heap.size < w2.heap.size by omega)).trans q2
             have y3 := (hb3.cell (p := ⟨w.heap.size + 1, 0, none⟩) (show w.heap.size + 1 < w2.heap.size by omega)).trans q3
             have y4 := (hb3.cell (p := ⟨w.heap.size + 1, 1, none⟩) (show w.heap.size + 1 < w2.heap.size by omega)).trans q4
             have y5 := (hb3.cell (p := ⟨w.heap.size + 1, 2, none⟩) (show w.heap.size + 1 < w2.heap.size by omega)).trans q5))
      have hb4' : Below w2.heap.size w3 w4 := hb4.mono hb3.size
      have hb5' : Below w2.heap.size w4 w5 := hb5.mono (Nat.le_trans hb3.size hb4.size)
      have hb25 : Below w2.heap.size w2 w5 := ((HBD.out.trans hb3).trans hb4').trans hb5'
      have hbw5 : Below w.heap.size w w5 := HB2.out.trans (hb25.mono HB2.out.size)
      have ha5 := HA2.out.below hb25 (show w.heap.size < w2.heap.size by omega)
      have hr5 := HR2.out.below hb25 (show w.heap.size + 1 < w2.heap.size by omega)
      have hs5 : w.heap.size + 2 ≤ w5.heap.size := Nat.le_trans hs2 hb25.size
      generalize hy : sameN op n k op' n' k' = y at *
      have HY := Lib.hid hy
      clear hy hb25 hb5' hb4' hb5 hb4 hb3 hl3 hl4 y0 y1 y2 y3 y4 y5 u0 u1 u2 u3 u4 u5 q0 q1 q2 q3 q4 q5 HD1 HD2 HBD HA2 HR2 HB2 z3 z4 hs2 ha3 hc3 ha4 hc4
      go_wp2_with fail
      refine (toExpr_any op n k A c w5 ((HL.out.below hbw5).mono_ (Nat.le_refl _) hbw5.size) hsz).mono ?_
      rintro e w6 ⟨A6, c6, rfl, hk6, hc6, hl6, hal6, hb6⟩
      have hs6 : w.heap.size + 2 ≤ w6.heap.size := Nat.le_trans hs5 hb6.size
      have hbw7 := (hbw5.trans (hb6.mono hbw5.size)).alloc (Nat.le_trans (by omega) hs6) (Obj.cells #[Value.int IntKind.i64 op, Value.int IntKind.i64 n, Value.slice A6 k.len c6] 30)
      have ha7 := (ha5.below hb6 (by omega)).alloc (Obj.cells #[Value.int IntKind.i64 op, Value.int IntKind.i64 n, Value.slice A6 k.len c6] 30)
      have hr7 := (hr5.below hb6 (by omega)).alloc (Obj.cells #[Value.int IntKind.i64 op, Value.int IntKind.i64 n, Value.slice A6 k.len c6] 30)
      have hx7 := Row.fresh w6 30 #[Value.int IntKind.i64 op, Value.int IntKind.i64 n, Value.slice A6 k.len c6]
      have hb67 : Below w6.heap.size w6 (w6.alloc (Obj.cells #[Value.int IntKind.i64 op, Value.int IntKind.i64 n, Value.slice A6 k.len c6] 30)) := (Below.refl _ _).alloc (Nat.le_refl _) _
      have hs7 : w6.heap.size + 1 ≤ (w6.alloc (Obj.cells #[Value.int IntKind.i64 op, Value.int IntKind.i64 n, Value.slice A6 k.len c6] 30)).heap.size := by simp
      have q3 := hr7.cell (i := 0) rfl
      have q4 := hr7.cell (i := 1) rfl
      have q5 := hr7.cell (i := 2) rfl
      clear s0 s1 s2 s3 s4 s5 hb6 ha5 hr5 hbw5 hs5
      go_wp2_with fail
      generalize w6.alloc (Obj.cells #[Value.int IntKind.i64 op, Value.int IntKind.i64 n, Value.slice A6 k.len c6] 30) = w7 at *
      refine (toExpr_any op' n' k' A' c' w7 ((HL'.out.below hbw7).mono_ (Nat.le_refl _) hbw7.size) hsz').mono ?_
      rintro e w8 ⟨A8, c8, rfl, hk8, hc8, hl8, hal8, hb8⟩
      have hs8 : w6.heap.size + 1 ≤ w8.heap.size := Nat.le_trans hs7 hb8.size
      have hb68 := hb67.trans (hb8.mono hb67.size)
      have hbw9 := (hbw7.trans (hb8.mono hbw7.size)).alloc (Nat.le_trans hbw7.size hb8.size) (Obj.cells #[Value.int IntKind.i64 op', Value.int IntKind.i64 n', Value.slice A8 k'.len c8] 30)
      have ha9 := (ha7.below hb8 (by omega)).alloc (Obj.cells #[Value.int IntKind.i64 op', Value.int IntKind.i64 n', Value.slice A8 k'.len c8] 30)
      have hr9 := (hr7.below hb8 (by omega)).alloc (Obj.cells #[Value.int IntKind.i64 op', Value.int IntKind.i64 n', Value.slice A8 k'.len c8] 30)
      have hx9 := (hx7.below hb8 (by omega)).alloc (Obj.cells #[Value.int IntKind.i64 op', Value.int IntKind.i64 n', Value.slice A8 k'.len c8] 30)
      have hy9 := Row.fresh w8 30 #[Value.int IntKind.i64 op', Value.int IntKind.i64 n', Value.slice A8 k'.len c8]
      have hb89 : Below w8.heap.size w8 (w8.alloc (Obj.cells #[Value.int IntKind.i64 op', Value.int IntKind.i64 n', Value.slice A8 k'.len c8] 30)) := (Below.refl _ _).alloc (Nat.le_refl _) _
      have hb69 := hb68.trans (hb89.mono hb68.size)
      have hs9 : w8.heap.size + 1 ≤ (w8.alloc (Obj.cells #[Value.int IntKind.i64 op', Value.int IntKind.i64 n', Value.slice A8 k'.len c8] 30)).heap.size := by simp
      have hl9 := hl6.below hb69
      have hal9 := hal6.below hb69 (Nat.le_refl _)
      have hl9' := hl8.below hb89
      have x0 := hx9.cell (i := 0) rfl
      have x1 := hx9.cell (i := 1) rfl
      have x2 := hx9.cell (i := 2) rfl
      have y0 := hy9.cell (i := 0) rfl
      have y1 := hy9.cell (i := 1) rfl
      have y2 := hy9.cell (i := 2) rfl
      clear q3 q4 q5 hb8 ha7 hr7 hx7 hbw7 hb67 hb68 hs7 hl6 hal6 hl8 hal8
      go_wp2_with fail
      generalize w8.alloc (Obj.cells #[Value.int IntKind.i64 op', Value.int IntKind.i64 n', Value.slice A8 k'.len c8] 30) = w9 at *
      refine (implSame_any op n op' n' k k' A6 A8 c6 c8 w9 (hl9.mono_ (Nat.zero_le _) hb69.size) (hl9'.mono_ (Nat.zero_le _) hb89.size) w5.heap.size w6.heap.size hl9 hb69.size hal9 hk6 hc6 hk8 hc8 hsz).mono ?_
      rintro e w10 ⟨rfl, hb10⟩
      rw [HY.out]
      have hbw10 := hbw9.trans (hb10.mono hbw9.size)
      have ha10 := ha9.below hb10 (by omega)
      have hr10 := hr9.below hb10 (by omega)
      have hx10 := hx9.below hb10 (by omega)
      have hy10 := hy9.below hb10 (by omega)
      have hs10 : w8.heap.size + 1 ≤ w10.heap.size := Nat.le_trans hs9 hb10.size
      have hl10 := ((hl9.mono_ (Nat.zero_le _) hb69.size).below hb10).mono_ (Nat.le_refl _) hb10.size
      have hl10' := ((hl9'.mono_ (Nat.zero_le _) hb89.size).below hb10).mono_ (Nat.le_refl _) hb10.size
      have q0 := ha10.cell (i := 0) rfl
      have q1 := ha10.cell (i := 1) rfl
      have q2 := ha10.cell (i := 2) rfl
      replace x0 := hx10.cell (i := 0) rfl
      replace x1 := hx10.cell (i := 1) rfl
      replace x2 := hx10.cell (i := 2) rfl
      clear y0 y1 y2 ha9 hr9 hx9 hy9 hb10 hb89 hb69 hl9 hl9' hal9 hbw9 hs9
      go_wp2_with fail
      have HLD : Lies w10.drew 0 w10.drew.heap.size A 0 k := (HL.out.below (w' := w10.drew) hbw10.drew).mono_ (Nat.le_refl _) hbw10.size
      have hbd : Below w10.heap.size w10 w10.drew := (Below.refl _ _).drew
      have HLX : Lies w10.drew 0 w10.drew.heap.size A6 0 k := hl10.below (w' := w10.drew) hbd
      have D1 := Lib.hid HLD
      have D2 := Lib.hid HLX
      have D3 := Lib.hid hbd
      have D4 := Lib.hid hl10'
      have D5 := Lib.hid hbw10
      have D6 := Lib.hid hr10
      have D7 := Lib.hid hy10
      clear HLD HLX hbd hl10 hl10' hbw10 hr10 hy10 ha10 hx10
      go_region_held3 (fun w' => w'.cell? ⟨w6.heap.size, 0, none⟩ = some (.int .i64 op) ∧ w'.cell? ⟨w6.heap.size, 1, none⟩ = some (.int .i64 n) ∧ w'.cell? ⟨w6.heap.size, 2, none⟩ = some (.slice A6 k.len c6) ∧
          w'.cell? ⟨w.heap.size, 0, none⟩ = some (.int .i64 op) ∧ w'.cell? ⟨w.heap.size, 1, none⟩ = some (.int .i64 n) ∧ w'.cell? ⟨w.heap.size, 2, none⟩ = some (.slice A k.len c))
        (first | exact ⟨x0, x1, x2, q0, q1, q2⟩ | exact ⟨y0, y1, y2, p0, p1, p2⟩ | exact ⟨u0, u1, u2, s0, s1, s2⟩)
        (first
          | (go_at_call 11
             refine (toExpr_any op n k A c _ D1.out hsz).mono ?_
             rintro e w11 ⟨A11, c11, rfl, _, _, hl11, _, hb11⟩
             have y0 := (hb11.cell (p := ⟨w6.heap.size, 0, none⟩) (show w6.heap.size < w10.heap.size by omega)).trans x0
             have y1 := (hb11.cell (p := ⟨w6.heap.size, 1, none⟩) (show w6.heap.size < w10.heap.size by omega)).trans x1
             have y2 := (hb11.cell (p := ⟨w6.heap.size, 2, none⟩) (show w6.heap.size < w10.heap.size by omega)).trans x2
             have p0 := (hb11.cell (p := ⟨w.heap.size, 0, none⟩) (show w.heap.size < w10.heap.size by omega)).trans q0
             have p1 := (hb11.cell (p := ⟨w.heap.size, 1, none⟩) (show w.heap.size < w10.heap.size by omega)).trans q1
             have p2 := (hb11.cell (p := ⟨w.heap.size, 2, none⟩) (show w.heap.size < w10.heap.size by omega)).trans q2)
          | (go_at_call 14
             refine (eqExpr_any op n k A6 A11 c6 c11 _ ((D2.out.below hb11).mono_ (Nat.le_refl _) hb11.size) (hl11.mono_ (Nat.zero_le _) (Nat.le_refl _)) hsz).mono ?_
             rintro e w12 ⟨rfl, hb12⟩
             have u0 := (hb12.cell (p := ⟨w6.heap.size, 0, none⟩) (Nat.lt_of_lt_of_le (show w6.heap.size < w10.heap.size by omega) hb11.size)).trans y0
             have u1 := (hb12.cell (p := ⟨w6.heap.size, 1, none⟩) (Nat.lt_of_lt_of_le (show w6.heap.size < w10.heap.size by omega) hb11.size)).trans y1
             have u2 := (hb12.cell (p := ⟨w6.heap.size, 2, none⟩) (Nat.lt_of_lt_of_le (show w6.heap.size < w10.heap.size by omega) hb11.size)).trans y2
             have s0 := (hb12.cell (p := ⟨w.heap.size, 0, none⟩) (Nat.lt_of_lt_of_le (show w.heap.size < w10.heap.size by omega) hb11.size)).trans p0
             have s1 := (hb12.cell (p := ⟨w.heap.size, 1, none⟩) (Nat.lt_of_lt_of_le (show w.heap.size < w10.heap.size by omega) hb11.size)).trans p1
             have s2 := (hb12.cell (p := ⟨w.heap.size, 2, none⟩) (Nat.lt_of_lt_of_le (show w.heap.size < w10.heap.size by omega) hb11.size)).trans p2))
      have hb1012 : Below w10.heap.size w10 w12 := (D3.out.trans hb11).trans (hb12.mono hb11.size)
      have hbw12 : Below w.heap.size w w12 := D5.out.trans (hb1012.mono D5.out.size)
      have hr12 := D6.out.below hb1012 (by omega)
      have hy12 := D7.out.below hb1012 (by omega)
      have hl12' := (D4.out.below hb1012).mono_ (Nat.le_refl _) hb1012.size
      have hs12 : w8.heap.size + 1 ≤ w12.heap.size := Nat.le_trans hs10 hb1012.size
      clear hb1012 hb11 hb12 hl11 x0 x1 x2 y0 y1 y2 q0 q1 q2 p0 p1 p2 u0 u1 u2 s0 s1 s2 D1 D2 D3 D4 D5 D6 D7
      have q0 := hr12.cell (i := 0) rfl
      have q1 := hr12.cell (i := 1) rfl
      have q2 := hr12.cell (i := 2) rfl
      have x0 := hy12.cell (i := 0) rfl
      have x1 := hy12.cell (i := 1) rfl
      have x2 := hy12.cell (i := 2) rfl
      go_wp2_with fail
      have HLD : Lies w12.drew 0 w12.drew.heap.size A' 0 k' := (HL'.out.below (w' := w12.drew) hbw12.drew).mono_ (Nat.le_refl _) hbw12.size
      have hbd : Below w12.heap.size w12 w12.drew := (Below.refl _ _).drew
      have HLX : Lies w12.drew 0 w12.drew.heap.size A8 0 k' := hl12'.below (w' := w12.drew) hbd
      have D1 := Lib.hid HLD
      have D2 := Lib.hid HLX
      have D3 := Lib.hid hbd
      have D5 := Lib.hid hbw12
      clear HLD HLX hbd hl12' hbw12 hr12 hy12
      go_region_held3 (fun w' => w'.cell? ⟨w8.heap.size, 0, none⟩ = some (.int .i64 op') ∧ w'.cell? ⟨w8.heap.size, 1, none⟩ = some (.int .i64 n') ∧ w'.cell? ⟨w8.heap.size, 2, none⟩ = some (.slice A8 k'.len c8) ∧
          w'.cell? ⟨w.heap.size + 1, 0, none⟩ = some (.int .i64 op') ∧ w'.cell? ⟨w.heap.size + 1, 1, none⟩ = some (.int .i64 n') ∧ w'.cell? ⟨w.heap.size + 1, 2, none⟩ = some (.slice A' k'.len c'))
        (first | exact ⟨x0, x1, x2, q0, q1, q2⟩ | exact ⟨y0, y1, y2, p0, p1, p2⟩ | exact ⟨u0, u1, u2, s0, s1, s2⟩)
        (first
          | (go_at_call 11
             refine (toExpr_any op' n' k' A' c' _ D1.out hsz').mono ?_
             rintro e w13 ⟨A13, c13, rfl, _, _, hl13, _, hb13⟩
             have y0 := (hb13.cell (p := ⟨w8.heap.size, 0, none⟩) (show w8.heap.size < w12.heap.size by omega)).trans x0
             have y1 := (hb13.cell (p := ⟨w8.heap.size, 1, none⟩) (show w8.heap.size < w12.heap.size by omega)).trans x1
             have y2 := (hb13.cell (p := ⟨w8.heap.size, 2, none⟩) (show w8.heap.size < w12.heap.size by omega)).trans x2
             have p0 := (hb13.cell (p := ⟨w.heap.size + 1, 0, none⟩) (show w.heap.size + 1 < w12.heap.size by omega)).trans q0
             have p1 := (hb13.cell (p := ⟨w.heap.size + 1, 1, none⟩) (show w.heap.size + 1 < w12.heap.size by omega)).trans q1
             have p2 := (hb13.cell (p := ⟨w.heap.size + 1, 2, none⟩) (show w.heap.size + 1 < w12.heap.size by omega)).trans q2)
          | (go_at_call 14
             refine (eqExpr_any op' n' k' A8 A13 c8 c13 _ ((D2.out.below hb13).mono_ (Nat.le_refl _) hb13.size) (hl13.mono_ (Nat.zero_le _) (Nat.le_refl _)) hsz').mono ?_
             rintro e w14 ⟨rfl, hb14⟩
             have u0 := (hb14.cell (p := ⟨w8.heap.size, 0, none⟩) (Nat.lt_of_lt_of_le (show w8.heap.size < w12.heap.size by omega) hb13.size)).trans y0
             have u1 := (hb14.cell (p := ⟨w8.heap.size, 1, none⟩) (Nat.lt_of_lt_of_le (show w8.heap.size < w12.heap.size by omega) hb13.size)).trans y1
             have u2 := (hb14.cell (p := ⟨w8.heap.size, 2, none⟩) (Nat.lt_of_lt_of_le (show w8.heap.size < w12.heap.size by omega) hb13.size)).trans y2
             have s0 := (hb14.cell (p := ⟨w.heap.size + 1, 0, none⟩) (Nat.lt_of_lt_of_le (show w.heap.size + 1 < w12.heap.size by omega) hb13.size)).trans p0
             have s1 := (hb14.cell (p := ⟨w.heap.size + 1, 1, none⟩) (Nat.lt_of_lt_of_le (show w.heap.size + 1 < w12.heap.size by omega) hb13.size)).trans p1
             have s2 := (hb14.cell (p := ⟨w.heap.size + 1, 2, none⟩) (Nat.lt_of_lt_of_le (show w.heap.size + 1 < w12.heap.size by omega) hb13.size)).trans p2))
      have hb1214 : Below w12.heap.size w12 w14 := (D3.out.trans hb13).trans (hb14.mono hb13.size)
      have hbw14 : Below w.heap.size w w14 := D5.out.trans (hb1214.mono D5.out.size)
      clear hb1214 hb13 hb14 hl13 x0 x1 x2 y0 y1 y2 q0 q1 q2 p0 p1 p2 u0 u1 u2 s0 s1 s2 D1 D2 D3 D5
      go_wp2
      go_ret
      exact ⟨rfl, hbw14⟩
end Go.Proofs.Ytkafopkgkgjgnaa
