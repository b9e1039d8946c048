/-
  The walk of the law FnExactClientValid: true at every two arguments.
-/
import Derived.Test.YtcdckjmnnpppkaaClient
import Derived.Test.YtcdckjmnnpppkaaSzD
import Derived.Test.YtcdckjmnnpppkaaToD
import Derived.Test.YtcdckjmnnpppkaaEqD
import Derived.Deep.RegionHeld3
namespace Go.Proofs.Ytcdckjmnnpppkaa
open Go.RowKit
set_option maxRecDepth 100000

set_option maxHeartbeats 2000000 in
theorem law_client (ds : List De) (DA : Option Addr) (DC : Nat) (op n : Int) (k : Fo) (A : Option Addr) (c : Nat) (w : World) (hd : LiesD w 0 w.heap.size DA ds) (hdl : ds.length ≤ maxLen) (hl : Lies w 0 w.heap.size A 0 k) (hlen : k.len ≤ maxLen) :
    Calls Try.prog 5 #[.slice DA ds.length DC, .agg #[.int .i64 op, .int .i64 n, .slice A k.len c]] w (Gives (.bool true) w) := by
  have hb0 : Below w.heap.size w (w.alloc (Obj.cells #[Value.int IntKind.i64 op, Value.int IntKind.i64 n, Value.slice A k.len c] 31)) := (Below.refl _ _).alloc (Nat.le_refl _) _
  have ha0 : Row (w.alloc (Obj.cells #[Value.int IntKind.i64 op, Value.int IntKind.i64 n, Value.slice A k.len c] 31)) w.heap.size 31 #[Value.int IntKind.i64 op, Value.int IntKind.i64 n, Value.slice A k.len c] := Row.fresh _ _ _
  go_enter Try.func5, Try.ntmps5
  go_wp2_with fail
  refine (szDefS_any ds DA DC _ 1048576 (hd.up hb0) hdl (by decide) (by decide)).mono ?_
  rintro e w1 ⟨r, rfl, hr, hb1'⟩
  have hb1 := hb0.trans (hb1'.mono hb0.size)
  have ha1 := ha0.below hb1' (by simp)
  clear hb0 ha0 hb1'
  rcases hr with rfl | ⟨hrz, hr⟩
  · go_wp2
    go_ret
    exact ⟨rfl, hb1⟩
  have hdz : sizeD ds ≤ 1048576 := by omega
  have hrb : r ≤ 1048576 := by omega
  have hds := Nat.le_trans (sizeD_len ds) hdz
  have q0 := ha1.cell (i := 0) rfl
  have q1 := ha1.cell (i := 1) rfl
  have q2 := ha1.cell (i := 2) rfl
  clear hr hdl
  go_wp2_with fail
  refine (szExpr_any op n k A c w1 r (hl.up hb1) hlen hrz hrb).mono ?_
  rintro e w2 ⟨r2, rfl, hr2, hb2'⟩
  have hb2 := hb1.trans (hb2'.mono hb1.size)
  have ha2 := ha1.below hb2' ha1.size
  clear hb1 ha1 hb2' q0 q1 q2
  rcases hr2 with rfl | ⟨hrz2, hr2⟩
  · go_wp2
    go_ret
    exact ⟨rfl, hb2⟩
  have hsz : k.size ≤ 1048576 := by omega
  have hw2 := ha2.size
  have q0 := ha2.cell (i := 0) rfl
  have q1 := ha2.cell (i := 1) rfl
  have q2 := ha2.cell (i := 2) rfl
  clear hr2
  go_wp2_with fail
  have hbd : Below w2.heap.size w2 w2.drew := (Below.refl _ _).drew
  have D1 := Lib.hid (show LiesD w2.drew 0 w2.drew.heap.size DA ds from hd.up (w' := w2.drew) hb2.drew)
  have D2 := Lib.hid (show Lies w2.drew 0 w2.drew.heap.size A 0 k from hl.up (w' := w2.drew) hb2.drew)
  have D3 := Lib.hid hbd
  have HB2 := Lib.hid hb2
  have HA2 := Lib.hid ha2
  have HL := Lib.hid hl
  have HD := Lib.hid hd
  clear hbd hb2 ha2 hl hd
  go_region_held3 (fun w' => w'.cell? ⟨w.heap.size, 0, none⟩ = some (.int .i64 op) ∧ w'.cell? ⟨w.heap.size, 1, none⟩ = some (.int .i64 n) ∧ w'.cell? ⟨w.heap.size, 2, none⟩ = some (.slice A k.len c))
    (first | exact ⟨q0, q1, q2⟩ | exact ⟨y0, y1, y2⟩ | exact ⟨u0, u1, u2⟩ | exact ⟨s0, s1, s2⟩)
    (first
      | (go_at_call 10
         refine (toDefS_any ds DA DC _ D1.out hdz).mono ?_
         rintro e w3 ⟨A3, c3, rfl, _, _, hl3, _, hb3⟩
         have y0 := (hb3.cell (p := ⟨w.heap.size, 0, none⟩) hw2).trans q0
         have y1 := (hb3.cell (p := ⟨w.heap.size, 1, none⟩) hw2).trans q1
         have y2 := (hb3.cell (p := ⟨w.heap.size, 2, none⟩) hw2).trans q2)
      | (go_at_call 15
         refine (toExpr_any op n k A c w3 (D2.out.up hb3) hsz).mono ?_
         rintro e w4 ⟨A4, c4, rfl, hk4, hc4, hl4, _, hb4⟩
         have u0 := (hb4.cell (p := ⟨w.heap.size, 0, none⟩) (Nat.lt_of_lt_of_le hw2 hb3.size)).trans y0
         have u1 := (hb4.cell (p := ⟨w.heap.size, 1, none⟩) (Nat.lt_of_lt_of_le hw2 hb3.size)).trans y1
         have u2 := (hb4.cell (p := ⟨w.heap.size, 2, none⟩) (Nat.lt_of_lt_of_le hw2 hb3.size)).trans y2)
      | (go_at_call 18
         refine (specClient_any ds A3 c3 op n k A4 c4 w4 ((hl3.mono_ (Nat.zero_le _) (Nat.le_refl _)).up hb4) (hl4.mono_ (Nat.zero_le _) (Nat.le_refl _)) hdz (Nat.le_trans hk4 hc4) hsz).mono ?_
         rintro e w5 ⟨rfl, hb5⟩
         have s0 := (hb5.cell (p := ⟨w.heap.size, 0, none⟩) (Nat.lt_of_lt_of_le hw2 (Nat.le_trans hb3.size hb4.size))).trans u0
         have s1 := (hb5.cell (p := ⟨w.heap.size, 1, none⟩) (Nat.lt_of_lt_of_le hw2 (Nat.le_trans hb3.size hb4.size))).trans u1
         have s2 := (hb5.cell (p := ⟨w.heap.size, 2, none⟩) (Nat.lt_of_lt_of_le hw2 (Nat.le_trans hb3.size hb4.size))).trans u2))
  have hb25 : Below w2.heap.size w2 w5 := (D3.out.trans hb3).trans ((hb4.trans (hb5.mono hb4.size)).mono hb3.size)
  have hbw5 := HB2.out.trans (hb25.mono HB2.out.size)
  have ha5 := Lib.hid (HA2.out.below hb25 HA2.out.size)
  clear hb3 hb4 hb5 hb25 hl3 hl4 q0 q1 q2 y0 y1 y2 u0 u1 u2 s0 s1 s2 D1 D2 D3 HB2 HA2
  generalize hz : clientB ds op n k = z
  have HZ := Lib.hid hz
  clear hz
  go_wp2_with fail
  refine (toDefS_any ds DA DC w5 (HD.out.up hbw5) hdz).mono ?_
  rintro e w6 ⟨A6, c6, rfl, _, _, hl6, had6, hb6⟩
  have hbw6 := hbw5.trans (hb6.mono hbw5.size)
  have ha6 := ha5.out.below hb6 ha5.out.size
  have HL6 := Lib.hid (hl6.mono_ (Nat.zero_le _) (Nat.le_refl _))
  have HR6 := Lib.hid hl6
  have HT6 := Lib.hid had6
  clear hbw5 ha5 hb6 hl6 had6
  have q0 := ha6.cell (i := 0) rfl
  have q1 := ha6.cell (i := 1) rfl
  have q2 := ha6.cell (i := 2) rfl
  go_wp2_with fail
  refine (toExpr_any op n k A c w6 (HL.out.up hbw6) hsz).mono ?_
  rintro e w7 ⟨A7, c7, rfl, hk7, hc7, hl7, hal7, hb7⟩
  have hbw7 := hbw6.trans (hb7.mono hbw6.size)
  have ha7 := ha6.below hb7 ha6.size
  have HL67 := Lib.hid (HL6.out.up hb7)
  have HR7 := Lib.hid (HR6.out.below hb7)
  have HT7 := Lib.hid (HT6.out.below hb7 (Nat.le_refl _))
  have HS7 := Lib.hid hb7.size
  clear HR6 HT6 hbw6 ha6 hb7 HL6 q0 q1 q2
  -- the box of x1
  have hx8 : Below w7.heap.size w7 (w7.alloc (Obj.cells #[Value.int IntKind.i64 op, Value.int IntKind.i64 n, Value.slice A7 k.len c7] 36)) := (Below.refl _ _).alloc (Nat.le_refl _) _
  have hr8 : Row (w7.alloc (Obj.cells #[Value.int IntKind.i64 op, Value.int IntKind.i64 n, Value.slice A7 k.len c7] 36)) w7.heap.size 36 #[Value.int IntKind.i64 op, Value.int IntKind.i64 n, Value.slice A7 k.len c7] := Row.fresh _ _ _
  have HC := Lib.hid (implClient_any ds A6 c6 op n k A7 c7 _ _ w6.heap.size w7.heap.size _ (HR7.out.below (hx8.mono HS7.out)) (Nat.le_trans HS7.out hx8.size) (HT7.out.below hx8 HS7.out) (hl7.below hx8) hx8.size (hal7.below hx8 (Nat.le_refl _)) hdz hk7 hc7 hsz)
  have hne : w.heap.size < w7.heap.size := ha7.size
  have HB8 := Lib.hid (hbw7.trans (hx8.mono hbw7.size))
  have HA8 := Lib.hid (ha7.below hx8 ha7.size)
  have HR8 := Lib.hid hr8
  have HD8 := Lib.hid (HL67.out.up hx8)
  have HE8 := Lib.hid ((hl7.mono_ (Nat.zero_le _) (Nat.le_refl _)).up hx8)
  clear hbw7 ha7 hx8 hr8 hl7 hal7 HL67 HR7 HT7 HS7
  go_wp2_with fail
  refine HC.out.mono ?_
  rintro e w9 ⟨rfl, hb9⟩
  rw [HZ.out]
  have hbw9 := HB8.out.trans (hb9.mono HB8.out.size)
  have ha9 := Lib.hid (HA8.out.below hb9 HA8.out.size)
  have hr9 := Lib.hid (HR8.out.below hb9 HR8.out.size)
  have HD9 := Lib.hid (HD8.out.up hb9)
  have HE9 := Lib.hid (HE8.out.up hb9)
  clear HB8 HA8 HR8 HD8 HE8 hb9 HC HZ
  go_wp2_with fail
  refine (toDefS_any ds DA DC w9 (HD.out.up hbw9) hdz).mono ?_
  rintro e w10 ⟨A10, c10, rfl, _, _, hl10, _, hb10⟩
  have hbw10 := hbw9.trans (hb10.mono hbw9.size)
  have ha10 := Lib.hid (ha9.out.below hb10 ha9.out.size)
  have hr10 := Lib.hid (hr9.out.below hb10 hr9.out.size)
  have HD10 := Lib.hid (HD9.out.up hb10)
  have HE10 := Lib.hid (HE9.out.up hb10)
  have HF10 := Lib.hid (hl10.mono_ (Nat.zero_le _) (Nat.le_refl _))
  clear hbw9 ha9 hr9 HD9 HE9 hb10 hl10
  go_wp2_with fail
  refine (eqDefS_any ds A6 A10 c6 c10 w10 HD10.out HF10.out hdz).mono ?_
  rintro e w11 ⟨rfl, hb11⟩
  have hbw11 := hbw10.trans (hb11.mono hbw10.size)
  have ha11 := ha10.out.below hb11 ha10.out.size
  have hr11 := hr10.out.below hb11 hr10.out.size
  have hl11 := HE10.out.up hb11
  clear hbw10 ha10 hr10 HD10 HE10 HF10 hb11
  have q0 := ha11.cell (i := 0) rfl
  have q1 := ha11.cell (i := 1) rfl
  have q2 := ha11.cell (i := 2) rfl
  have x0 := hr11.cell (i := 0) rfl
  have x1 := hr11.cell (i := 1) rfl
  have x2 := hr11.cell (i := 2) rfl
  have hs11 := hr11.size
  have ht11 := ha11.size
  go_wp2_with fail
  have hbd : Below w11.heap.size w11 w11.drew := (Below.refl _ _).drew
  have D1 := Lib.hid (show Lies w11.drew 0 w11.drew.heap.size A 0 k from (HL.out.up (w' := w11.drew) hbw11.drew))
  have D2 := Lib.hid (show Lies w11.drew 0 w11.drew.heap.size A7 0 k from hl11.below (w' := w11.drew) hbd)
  have D3 := Lib.hid hbd
  have D5 := Lib.hid hbw11
  clear hbd hl11 HL hbw11 hr11 ha11
  go_region_held3 (fun w' => w'.cell? ⟨w7.heap.size, 0, none⟩ = some (.int .i64 op) ∧ w'.cell? ⟨w7.heap.size, 1, none⟩ = some (.int .i64 n) ∧ w'.cell? ⟨w7.heap.size, 2, none⟩ = some (.slice A7 k.len c7) ∧
      w'.cell? ⟨w.heap.size, 0, none⟩ = some (.int .i64 op) ∧ w'.cell? ⟨w.heap.size, 1, none⟩ = some (.int .i64 n) ∧ w'.cell? ⟨w.heap.size, 2, none⟩ = some (.slice A k.len c))
    (first | exact ⟨x0, x1, x2, q0, q1, q2⟩ | exact ⟨y0, y1, y2, p0, p1, p2⟩ | exact ⟨u0, u1, u2, s0, s1, s2⟩)
    (first
      | (go_at_call 15
         refine (toExpr_any op n k A c _ D1.out hsz).mono ?_
         rintro e w13 ⟨A13, c13, rfl, _, _, hl13, _, hb13⟩
         have y0 := (hb13.cell (p := ⟨w7.heap.size, 0, none⟩) hs11).trans x0
         have y1 := (hb13.cell (p := ⟨w7.heap.size, 1, none⟩) hs11).trans x1
         have y2 := (hb13.cell (p := ⟨w7.heap.size, 2, none⟩) hs11).trans x2
         have p0 := (hb13.cell (p := ⟨w.heap.size, 0, none⟩) ht11).trans q0
         have p1 := (hb13.cell (p := ⟨w.heap.size, 1, none⟩) ht11).trans q1
         have p2 := (hb13.cell (p := ⟨w.heap.size, 2, none⟩) ht11).trans q2)
      | (go_at_call 17
         refine (eqExpr_any op n k A7 A13 c7 c13 _ (D2.out.up hb13) (hl13.mono_ (Nat.zero_le _) (Nat.le_refl _)) hsz).mono ?_
         rintro e w14 ⟨rfl, hb14⟩
         have u0 := (hb14.cell (p := ⟨w7.heap.size, 0, none⟩) (Nat.lt_of_lt_of_le hs11 hb13.size)).trans y0
         have u1 := (hb14.cell (p := ⟨w7.heap.size, 1, none⟩) (Nat.lt_of_lt_of_le hs11 hb13.size)).trans y1
         have u2 := (hb14.cell (p := ⟨w7.heap.size, 2, none⟩) (Nat.lt_of_lt_of_le hs11 hb13.size)).trans y2
         have s0 := (hb14.cell (p := ⟨w.heap.size, 0, none⟩) (Nat.lt_of_lt_of_le ht11 hb13.size)).trans p0
         have s1 := (hb14.cell (p := ⟨w.heap.size, 1, none⟩) (Nat.lt_of_lt_of_le ht11 hb13.size)).trans p1
         have s2 := (hb14.cell (p := ⟨w.heap.size, 2, none⟩) (Nat.lt_of_lt_of_le ht11 hb13.size)).trans p2))
  have hb1214 : Below w11.heap.size w11 w14 := (D3.out.trans hb13).trans (hb14.mono hb13.size)
  have hbw14 : Below w.heap.size w w14 := D5.out.trans (hb1214.mono D5.out.size)
  clear hb1214 hb13 hb14 hl13 x0 x1 x2 y0 y1 y2 q0 q1 q2 p0 p1 p2 u0 u1 u2 s0 s1 s2 D1 D2 D3 D5
  go_wp2
  go_ret
  exact ⟨rfl, hbw14⟩
end Go.Proofs.Ytcdckjmnnpppkaa
