/-
  The walk of the law FnExactSizeOf: true at every argument.
-/
import Derived.Test.YtedcdgjedocikaaTools
import Derived.Test.YtedcdgjedocikaaSize
import Derived.Test.YtedcdgjedocikaaISize
import Derived.Test.YtedcdgjedocikaaDe
import Derived.Deep.RegionHeld3
namespace Go.Proofs.Ytedcdgjedocikaa
open Go.RowKit

set_option maxHeartbeats 1000000 in
theorem law_size (op n : Int) (k : Fo) (A : Option Addr) (c : Nat) (w : World) (hl : Lies w 0 w.heap.size A 0 k) (hlen : k.len ≤ maxLen) :
    Calls Try.prog 3 #[.agg #[.int .i64 op, .int .i64 n, .slice A k.len c]] w (Gives (.bool true) w) := by
  have hb0 : Below w.heap.size w (w.alloc (Obj.cells #[Value.int IntKind.i64 op, Value.int IntKind.i64 n, Value.slice A k.len c] 24)) := (Below.refl _ _).alloc (Nat.le_refl _) _
  have ha0 : Row (w.alloc (Obj.cells #[Value.int IntKind.i64 op, Value.int IntKind.i64 n, Value.slice A k.len c] 24)) w.heap.size 24 #[Value.int IntKind.i64 op, Value.int IntKind.i64 n, Value.slice A k.len c] := Row.fresh _ _ _
  go_enter Try.func3, Try.ntmps3
  go_wp2_with fail
  refine (szExpr_any op n k A c _ 1048576 (hl.up hb0) hlen (by decide) (by decide)).mono ?_
  rintro e w1 ⟨r, rfl, hr, hb1'⟩
  have hb1 := hb0.trans (hb1'.mono hb0.size)
  have ha1 := ha0.below hb1' (by simp)
  clear hb0 ha0 hb1'
  rcases hr with rfl | ⟨hrz, hr⟩
  · go_wp2
    go_ret
    exact ⟨rfl, hb1⟩
  have hsz : k.size ≤ 1048576 := by omega
  have q0 := ha1.cell (i := 0) rfl
  have q1 := ha1.cell (i := 1) rfl
  have q2 := ha1.cell (i := 2) rfl
  clear hr hlen
  go_wp2_with fail
  refine (toExpr_any op n k A c w1 (hl.up hb1) hsz).mono ?_
  rintro e w2 ⟨A2, c2, rfl, _, _, hl2, _, hb2'⟩
  have hb2 := hb1.trans (hb2'.mono hb1.size)
  have ha2 := ha1.below hb2' ha1.size
  have hl2' := hl2.mono_ (Nat.zero_le _) (Nat.le_refl _)
  clear hb1 ha1 hb2' q0 q1 q2 hl2
  go_wp2_with fail
  refine (specSize_any k.size op n k A2 c2 w2 rfl hl2' hsz).mono ?_
  rintro e w3 ⟨rfl, hb3'⟩
  have hb3 := hb2.trans (hb3'.mono hb2.size)
  have ha3 := ha2.below hb3' ha2.size
  clear hb2 ha2 hb3' hl2'
  generalize hR : ((1 + k.size : Nat) : Int) = R
  have HR := Lib.hid hR
  clear hR
  have q0 := ha3.cell (i := 0) rfl
  have q1 := ha3.cell (i := 1) rfl
  have q2 := ha3.cell (i := 2) rfl
  go_wp2_with fail
  refine (toExpr_any op n k A c w3 (hl.up hb3) hsz).mono ?_
  rintro e w4 ⟨A4, c4, rfl, hk4, hc4, hl4, hal4, hb4'⟩
  have hb4 := hb3.trans (hb4'.mono hb3.size)
  have ha4 := ha3.below hb4' ha3.size
  have h34 := hb4'.size
  clear hb3 ha3 hb4' q0 q1 q2
  -- the box of x0
  have hb5 : Below w.heap.size w (w4.alloc (Obj.cells #[Value.int IntKind.i64 op, Value.int IntKind.i64 n, Value.slice A4 k.len c4] 29)) := hb4.alloc hb4.size _
  have hx5 : Below w4.heap.size w4 (w4.alloc (Obj.cells #[Value.int IntKind.i64 op, Value.int IntKind.i64 n, Value.slice A4 k.len c4] 29)) := (Below.refl _ _).alloc (Nat.le_refl _) _
  have ha5 := ha4.alloc (Obj.cells #[Value.int IntKind.i64 op, Value.int IntKind.i64 n, Value.slice A4 k.len c4] 29)
  have hr5 : Row (w4.alloc (Obj.cells #[Value.int IntKind.i64 op, Value.int IntKind.i64 n, Value.slice A4 k.len c4] 29)) w4.heap.size 29 #[Value.int IntKind.i64 op, Value.int IntKind.i64 n, Value.slice A4 k.len c4] := Row.fresh _ _ _
  have HC := Lib.hid (implSize_any op n k A4 c4 w3.heap.size w4.heap.size _ (hl4.below hx5) hx5.size (hal4.below hx5 (Nat.le_refl _)) hk4 hc4 hsz)
  have HL5 := Lib.hid ((hl4.mono_ (Nat.zero_le _) (Nat.le_refl _)).up hx5)
  have hne : w.heap.size < w4.heap.size := ha4.size
  have HB5 := Lib.hid hb5
  have HA5 := Lib.hid ha5
  have HR5 := Lib.hid hr5
  clear hb4 ha4 hb5 hx5 ha5 hr5 hl4 hal4 h34
  go_wp2_with fail
  refine HC.out.mono ?_
  rintro e w8 ⟨rfl, hb8⟩
  rw [HR.out]
  have hbw8 := HB5.out.trans (hb8.mono HB5.out.size)
  have ha8 := HA5.out.below hb8 HA5.out.size
  have hr8 := HR5.out.below hb8 HR5.out.size
  have hl8 := HL5.out.up hb8
  clear HB5 HA5 HR5 HL5 hb8 HC HR
  have q0 := ha8.cell (i := 0) rfl
  have q1 := ha8.cell (i := 1) rfl
  have q2 := ha8.cell (i := 2) rfl
  have x0 := hr8.cell (i := 0) rfl
  have x1 := hr8.cell (i := 1) rfl
  have x2 := hr8.cell (i := 2) rfl
  have hs8 := hr8.size
  have ht8 := ha8.size
  go_wp2_with fail
  have hbd : Below w8.heap.size w8 w8.drew := (Below.refl _ _).drew
  have D1 := Lib.hid (show Lies w8.drew 0 w8.drew.heap.size A 0 k from (hl.up (w' := w8.drew) hbw8.drew))
  have D2 := Lib.hid (show Lies w8.drew 0 w8.drew.heap.size A4 0 k from hl8.below (w' := w8.drew) hbd)
  have D3 := Lib.hid hbd
  have D5 := Lib.hid hbw8
  clear hbd hl8 hl hbw8 hr8 ha8
  go_region_held3 (fun w' => w'.cell? ⟨w4.heap.size, 0, none⟩ = some (.int .i64 op) ∧ w'.cell? ⟨w4.heap.size, 1, none⟩ = some (.int .i64 n) ∧ w'.cell? ⟨w4.heap.size, 2, none⟩ = some (.slice A4 k.len c4) ∧
      w'.cell? ⟨w.heap.size, 0, none⟩ = some (.int .i64 op) ∧ w'.cell? ⟨w.heap.size, 1, none⟩ = some (.int .i64 n) ∧ w'.cell? ⟨w.heap.size, 2, none⟩ = some (.slice A k.len c))
    (first | exact ⟨x0, x1, x2, q0, q1, q2⟩ | exact ⟨y0, y1, y2, p0, p1, p2⟩ | exact ⟨u0, u1, u2, s0, s1, s2⟩)
    (first
      | (go_at_call 11
         refine (toExpr_any op n k A c _ D1.out hsz).mono ?_
         rintro e w13 ⟨A13, c13, rfl, _, _, hl13, _, hb13⟩
         have y0 := (hb13.cell (p := ⟨w4.heap.size, 0, none⟩) (show w4.heap.size < w8.heap.size by omega)).trans x0
         have y1 := (hb13.cell (p := ⟨w4.heap.size, 1, none⟩) (show w4.heap.size < w8.heap.size by omega)).trans x1
         have y2 := (hb13.cell (p := ⟨w4.heap.size, 2, none⟩) (show w4.heap.size < w8.heap.size by omega)).trans x2
         have p0 := (hb13.cell (p := ⟨w.heap.size, 0, none⟩) (show w.heap.size < w8.heap.size by omega)).trans q0
         have p1 := (hb13.cell (p := ⟨w.heap.size, 1, none⟩) (show w.heap.size < w8.heap.size by omega)).trans q1
         have p2 := (hb13.cell (p := ⟨w.heap.size, 2, none⟩) (show w.heap.size < w8.heap.size by omega)).trans q2)
      | (go_at_call 13
         refine (eqExpr_any op n k A4 A13 c4 c13 _ (D2.out.up hb13) (hl13.mono_ (Nat.zero_le _) (Nat.le_refl _)) hsz).mono ?_
         rintro e w14 ⟨rfl, hb14⟩
         have u0 := (hb14.cell (p := ⟨w4.heap.size, 0, none⟩) (Nat.lt_of_lt_of_le (show w4.heap.size < w8.heap.size by omega) hb13.size)).trans y0
         have u1 := (hb14.cell (p := ⟨w4.heap.size, 1, none⟩) (Nat.lt_of_lt_of_le (show w4.heap.size < w8.heap.size by omega) hb13.size)).trans y1
         have u2 := (hb14.cell (p := ⟨w4.heap.size, 2, none⟩) (Nat.lt_of_lt_of_le (show w4.heap.size < w8.heap.size by omega) hb13.size)).trans y2
         have s0 := (hb14.cell (p := ⟨w.heap.size, 0, none⟩) (Nat.lt_of_lt_of_le (show w.heap.size < w8.heap.size by omega) hb13.size)).trans p0
         have s1 := (hb14.cell (p := ⟨w.heap.size, 1, none⟩) (Nat.lt_of_lt_of_le (show w.heap.size < w8.heap.size by omega) hb13.size)).trans p1
         have s2 := (hb14.cell (p := ⟨w.heap.size, 2, none⟩) (Nat.lt_of_lt_of_le (show w.heap.size < w8.heap.size by omega) hb13.size)).trans p2))
  have hb1214 : Below w8.heap.size w8 w14 := (D3.out.trans hb13).trans (hb14.mono hb13.size)
  have hbw14 : Below w.heap.size w w14 := D5.out.trans (hb1214.mono D5.out.size)
  clear hb1214 hb13 hb14 hl13 x0 x1 x2 y0 y1 y2 q0 q1 q2 p0 p1 p2 u0 u1 u2 s0 s1 s2 D1 D2 D3 D5
  go_wp2
  go_ret
  exact ⟨rfl, hbw14⟩
end Go.Proofs.Ytedcdgjedocikaa
