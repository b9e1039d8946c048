/-
  The walk of the law FnExprSame: true at every input.
-/
import Derived.Test.YtahjekhngaileaaDrawEq
import Derived.Test.YtahjekhngaileaaISame
import Derived.Test.YtahjekhngaileaaSame
namespace Go.Proofs.Ytahjekhngaileaa
open Go.RowKit Go.Shelf
set_option maxRecDepth 100000

theorem sameFo_refl : ∀ f : Fo, sameFo f f = true
  | .nil => rfl
  | .cons _ _ k r => by simp [sameFo, sameFo_refl k, sameFo_refl r]
theorem sameFo_symm : ∀ f g : Fo, sameFo f g = sameFo g f
  | .nil, .nil => rfl
  | .nil, .cons .. => rfl
  | .cons .., .nil => rfl
  | .cons o n k r, .cons o' n' k' r' => by
    simp only [sameFo]
    rw [sameFo_symm k k', sameFo_symm r r', show decide (o = o') = decide (o' = o) from by simp [eq_comm], show decide (n = n') = decide (n' = n) from by simp [eq_comm]]
theorem sameN_refl (op n : Int) (k : Fo) : sameN op n k op n k = true := by simp [sameN, sameFo_refl]
theorem sameN_symm (op n op' n' : Int) (k k' : Fo) : sameN op n k op' n' k' = sameN op' n' k' op n k := by
  unfold sameN
  rw [sameFo_symm k k', show decide (op = op') = decide (op' = op) from by simp [eq_comm], show decide (n = n') = decide (n' = n) from by simp [eq_comm]]

set_option maxHeartbeats 4000000 in
theorem law_NExprSame (bs : List Nat) (A : Option Addr) (c : Nat) (w : World) (hl : LiesY w 0 w.heap.size A bs) (hlc : bs.length ≤ c) (hc : c ≤ maxLen) :
    Calls Try.prog 4 #[.slice A bs.length c] w (Gives (.bool true) w) := by
  have HC := Lib.hid (drawExprSame_any A c bs w hl hlc hc)
  unfold maxLen at hc
  by_cases hsz : bs.length ≤ 1048576
  rotate_left
  · have hgt : 1048576 < bs.length := by omega
    clear hl
    go_enter Try.func4, Try.ntmps4
    go_wp2_with fail
    go_ret
    exact ⟨rfl, Below.refl _ _⟩
  clear hl
  go_enter Try.func4, Try.ntmps4
  go_wp2_with fail
  refine HC.out.mono ?_
  rintro e w1 ⟨op, n, k, X, cx, op2, n2, k2, X2, cx2, rfl, ⟨bl, hi, ht, hs⟩, ⟨bl2, hi2, ht2, hs2⟩, hb⟩
  obtain ⟨_, _, hX, hk1, hk2⟩ := ht.slice
  injection hX with hX1 hX2 hX3
  subst hX3
  obtain ⟨_, _, hY, hk3, hk4⟩ := ht2.slice
  injection hY with hY1 hY2 hY3
  subst hY3
  obtain ⟨W, hW⟩ : ∃ W, W = (w1.alloc (Obj.cells #[.int .i64 op, .int .i64 n, .slice X k.len cx] 25)).alloc (Obj.cells #[.int .i64 op2, .int .i64 n2, .slice X2 k2.len cx2] 25) := ⟨_, rfl⟩
  have hbW : Below w1.heap.size w1 W := by rw [hW]; exact ((Below.refl _ _).alloc (Nat.le_refl _) _).alloc (by simp) _
  have hx : Row W w1.heap.size 25 #[.int .i64 op, .int .i64 n, .slice X k.len cx] := by rw [hW]; exact (Row.fresh _ _ _).alloc _
  have hy : Row W (w1.heap.size + 1) 25 #[.int .i64 op2, .int .i64 n2, .slice X2 k2.len cx2] := by
    rw [hW]
    have := Row.fresh (w1.alloc (Obj.cells #[.int .i64 op, .int .i64 n, .slice X k.len cx] 25)) 25 #[.int .i64 op2, .int .i64 n2, .slice X2 k2.len cx2]
    rw [World.size_alloc] at this
    exact this
  have HX := Lib.hid hx
  have HY := Lib.hid hy
  have HH := Lib.hid ((ht.held).up hbW)
  have HK := Lib.hid ((ht2.held).up hbW)
  have HB := Lib.hid (hb.trans (hbW.mono hb.size))
  obtain ⟨z, hz⟩ : ∃ z, z = sameN op n k op2 n2 k2 := ⟨_, rfl⟩
  have HZ := Lib.hid hz
  have hzz : (z == z) = true := by simp
  clear hb hbW ht ht2 hX1 hY1 HC hi hi2 hz
  go_upto_region 4 with fail
  rw [← hW]
  clear hW
  have q0 := hx.cell (i := 0) rfl
  have q1 := hx.cell (i := 1) rfl
  have q2 := hx.cell (i := 2) rfl
  have p0 := hy.cell (i := 0) rfl
  have p1 := hy.cell (i := 1) rfl
  have p2 := hy.cell (i := 2) rfl
  clear hx hy
  go_wp2_with fail
  refine (implSame_r op n op2 n2 k k2 X X2 cx cx2 W HH.out.1 HK.out.1 0 W.heap.size HH.out.1 (Nat.le_refl _) HH.out.rows hk1 hk2 hk3 hk4 (by omega)).mono ?_
  rintro e w2 ⟨rfl, hb2⟩
  rw [← HZ.out]
  have hx := HX.out.below hb2 HX.out.size
  have hy := HY.out.below hb2 HY.out.size
  have HX2 := Lib.hid hx
  have HY2 := Lib.hid hy
  have HH2 := Lib.hid (HH.out.up hb2)
  have HK2 := Lib.hid (HK.out.up hb2)
  have HB2 := Lib.hid (HB.out.trans (hb2.mono HB.out.size))
  clear hb2 HX HY HH HK HB q0 q1 q2 p0 p1 p2
  have q0 := hx.cell (i := 0) rfl
  have q1 := hx.cell (i := 1) rfl
  have q2 := hx.cell (i := 2) rfl
  have p0 := hy.cell (i := 0) rfl
  have p1 := hy.cell (i := 1) rfl
  have p2 := hy.cell (i := 2) rfl
  clear hx hy
  go_wp2_with fail
  refine (specSame_any k.size op n op2 n2 k k2 X X2 cx cx2 w2 rfl HH2.out.1 HK2.out.1 (by omega) (by omega)).mono ?_
  rintro e w3 ⟨rfl, hb3⟩
  rw [← HZ.out]
  have hx := HX2.out.below hb3 HX2.out.size
  have hy := HY2.out.below hb3 HY2.out.size
  have HX3 := Lib.hid hx
  have HH3 := Lib.hid (HH2.out.up hb3)
  have HK3 := Lib.hid (HK2.out.up hb3)
  have HB3 := Lib.hid (HB2.out.trans (hb3.mono HB2.out.size))
  clear hb3 HX2 HY2 HH2 HK2 HB2 q0 q1 q2 p0 p1 p2
  have q0 := hx.cell (i := 0) rfl
  have q1 := hx.cell (i := 1) rfl
  have q2 := hx.cell (i := 2) rfl
  have p0 := hy.cell (i := 0) rfl
  have p1 := hy.cell (i := 1) rfl
  have p2 := hy.cell (i := 2) rfl
  clear hx hy
  go_wp2_with fail
  refine (implSame_r op2 n2 op n k2 k X2 X cx2 cx w3 HK3.out.1 HH3.out.1 0 w3.heap.size HK3.out.1 (Nat.le_refl _) HK3.out.rows hk3 hk4 hk1 hk2 (by omega)).mono ?_
  rintro e w4 ⟨rfl, hb4⟩
  rw [sameN_symm, ← HZ.out]
  have hx := HX3.out.below hb4 HX3.out.size
  have HH4 := Lib.hid (HH3.out.up hb4)
  have HB4 := Lib.hid (HB3.out.trans (hb4.mono HB3.out.size))
  clear hb4 HX3 HH3 HK3 HB3 q0 q1 q2 p0 p1 p2
  have q0 := hx.cell (i := 0) rfl
  have q1 := hx.cell (i := 1) rfl
  have q2 := hx.cell (i := 2) rfl
  clear hx
  go_wp2_with fail
  refine (implSame_r op n op n k k X X cx cx w4 HH4.out.1 HH4.out.1 0 w4.heap.size HH4.out.1 (Nat.le_refl _) HH4.out.rows hk1 hk2 hk1 hk2 (by omega)).mono ?_
  rintro e w5 ⟨rfl, hb5⟩
  rw [sameN_refl]
  have HB5 := Lib.hid (HB4.out.trans (hb5.mono HB4.out.size))
  clear hb5 q0 q1 q2
  go_wp2_with fail
  go_ret
  exact ⟨rfl, HB5.out⟩
end Go.Proofs.Ytahjekhngaileaa
