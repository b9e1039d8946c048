/-
  The walk of the law FnSubstNone: true at every input.
-/
import Derived.Test.YtlkicbekabcelaaDrawSub
import Derived.Test.YtlkicbekabcelaaSubR
import Derived.Test.YtlkicbekabcelaaSubE
import Derived.Test.YtlkicbekabcelaaISame
import Derived.Test.YtlkicbekabcelaaCntVar
namespace Go.Proofs.Ytlkicbekabcelaa
open Go.RowKit Go.Shelf
set_option maxRecDepth 100000

theorem sr_refl : ∀ f : Fo, sameFo f f = true
  | .nil => rfl
  | .cons _ _ k r => by simp [sameFo, sr_refl k, sr_refl r]
theorem srNrefl (op n : Int) (k : Fo) : sameN op n k op n k = true := by simp [sameN, sr_refl]

set_option maxHeartbeats 4000000 in
theorem law_NSubstNone (bs : List Nat) (A : Option Addr) (c : Nat) (w : World) (hl : LiesY w 0 w.heap.size A bs) (hlc : bs.length ≤ c) (hc : c ≤ maxLen) :
    Calls Try.prog 4 #[.slice A bs.length c] w (Gives (.bool true) w) := by
  have HC := Lib.hid (drawSubstVar_any A c bs w hl hlc hc)
  unfold maxLen at hc
  by_cases hsz : bs.length ≤ 1048576
  rotate_left
  · have hgt : 1048576 < bs.length := by omega
    clear hl
    go_enter Try.func4, Try.ntmps4
    go_wp2_with fail
    go_ret
    exact ⟨rfl, Below.refl _ _⟩
  clear hl
  go_enter Try.func4, Try.ntmps4
  go_wp2_with fail
  refine HC.out.mono ?_
  rintro e w1 ⟨op, n, k, X, cx, y, op2, n2, k2, X2, cx2, rfl, ⟨bl, hi, ht, hs⟩, ⟨bl2, hi2, ht2, hs2⟩, hy, hb⟩
  obtain ⟨_, _, hX, hk1, hk2⟩ := ht.slice
  injection hX with hX1 hX2 hX3
  subst hX3
  obtain ⟨_, _, hY, hk3, hk4⟩ := ht2.slice
  injection hY with hY1 hY2 hY3
  subst hY3
  obtain ⟨W, hW⟩ : ∃ W, W = (w1.alloc (Obj.cells #[.int .i64 op, .int .i64 n, .slice X k.len cx] 25)).alloc (Obj.cells #[.int .i64 op2, .int .i64 n2, .slice X2 k2.len cx2] 25) := ⟨_, rfl⟩
  have hbW : Below w1.heap.size w1 W := by rw [hW]; exact ((Below.refl _ _).alloc (Nat.le_refl _) _).alloc (by simp) _
  have hx : Row W w1.heap.size 25 #[.int .i64 op, .int .i64 n, .slice X k.len cx] := by rw [hW]; exact (Row.fresh _ _ _).alloc _
  have hx2 : Row W (w1.heap.size + 1) 25 #[.int .i64 op2, .int .i64 n2, .slice X2 k2.len cx2] := by
    rw [hW]
    have := Row.fresh (w1.alloc (Obj.cells #[.int .i64 op, .int .i64 n, .slice X k.len cx] 25)) 25 #[.int .i64 op2, .int .i64 n2, .slice X2 k2.len cx2]
    rw [World.size_alloc] at this
    exact this
  have HX := Lib.hid hx
  have HH := Lib.hid ((ht.held).up hbW)
  have HK := Lib.hid ((ht2.held).up hbW)
  have HB := Lib.hid (hb.trans (hbW.mono hb.size))
  have HXX := Lib.hid hx2
  have hkl : k.len ≤ maxLen := Nat.le_trans hk1 hk2
  clear hb hbW ht ht2 hX1 hY1 HC hi hi2 hx hx2
  go_upto_region 4 with fail
  rw [← hW]
  clear hW
  obtain ⟨V, hV⟩ : ∃ V, V = W := ⟨_, rfl⟩
  have bV : Below W.heap.size W V := by rw [hV]; exact Below.refl _ _
  have HZ := Lib.hid (show Row V (w1.heap.size + 1) 25 #[.int .i64 op2, .int .i64 n2, .slice X2 k2.len cx2] by rw [hV]; exact HXX.out)
  rw [← hV]
  clear hV
  have HX1 := Lib.hid (HX.out.below bV HX.out.size)
  have HH1 := Lib.hid (HH.out.up bV)
  have HK1 := Lib.hid (HK.out.up bV)
  have HB1 := Lib.hid (HB.out.trans (bV.mono HB.out.size))
  clear bV HX HH HK HB HXX
  have q0 := HX1.out.cell (i := 0) rfl
  have q1 := HX1.out.cell (i := 1) rfl
  have q2 := HX1.out.cell (i := 2) rfl
  have p0 := HZ.out.cell (i := 0) rfl
  have p1 := HZ.out.cell (i := 1) rfl
  have p2 := HZ.out.cell (i := 2) rfl
  go_wp2_with fail
  refine (implSub_e op n k y op2 n2 k2 X X2 cx cx2 V HH1.out.1 HK1.out.1 hkl hk3 hk4).mono ?_
  rintro e w3 ⟨A3, c3, b3, rfl, ht3, hb3⟩
  obtain ⟨r, hr⟩ : ∃ r, r = (subB ⟨op, n, k⟩ y ⟨op2, n2, k2⟩).getD nd0 := ⟨_, rfl⟩
  obtain ⟨okb, hok⟩ : ∃ b, b = (subB ⟨op, n, k⟩ y ⟨op2, n2, k2⟩).isSome := ⟨_, rfl⟩
  rw [← hr] at ht3
  rw [← hr, ← hok]
  have HR := Lib.hid hr
  have HOK := Lib.hid hok
  have hrs : r.k.size ≤ 79 := by rw [hr]; exact sub_size _ _ _
  obtain ⟨_, _, hA3, hr1, hr2⟩ := ht3.slice
  injection hA3 with ga3 gb3 hA3
  subst hA3
  clear ga3 gb3
  obtain ⟨w5, hw5⟩ : ∃ w5, w5 = w3.alloc (Obj.cells #[.int .i64 r.op, .int .i64 r.n, .slice A3 r.k.len c3] 25) := ⟨_, rfl⟩
  have b5 : Below w3.heap.size w3 w5 := by rw [hw5]; exact (Below.refl _ _).alloc (Nat.le_refl _) _
  have HS5 := Lib.hid (show Row w5 w3.heap.size 25 #[.int .i64 r.op, .int .i64 r.n, .slice A3 r.k.len c3] by rw [hw5]; exact Row.fresh _ _ _)
  have hb35 := hb3.trans (b5.mono hb3.size)
  have HX5 := Lib.hid (HX1.out.below hb35 HX1.out.size)
  have HZ5 := Lib.hid (HZ.out.below hb35 HZ.out.size)
  have HH5 := Lib.hid (HH1.out.up hb35)
  have HK5 := Lib.hid (HK1.out.up hb35)
  have HM5 := Lib.hid (ht3.held.up b5)
  have HB5 := Lib.hid (HB1.out.trans (hb35.mono HB1.out.size))
  clear hr hok ht3 hb3 b5 hb35 HX1 HZ HH1 HK1 HB1 q0 q1 q2 p0 p1 p2
  go_upto_region 5 with fail
  rw [← hw5]
  clear hw5
  have q0 := HX5.out.cell (i := 0) rfl
  have q1 := HX5.out.cell (i := 1) rfl
  have q2 := HX5.out.cell (i := 2) rfl
  have p0 := HZ5.out.cell (i := 0) rfl
  have p1 := HZ5.out.cell (i := 1) rfl
  have p2 := HZ5.out.cell (i := 2) rfl
  go_wp2_with fail
  refine (specSub_e op n k y op2 n2 k2 X X2 cx cx2 w5 HH5.out.1 HK5.out.1 (by omega) (Nat.le_trans hk3 hk4)).mono ?_
  rintro e w6 ⟨A6, c6, b6, rfl, ht6, hb6⟩
  rw [← HR.out] at ht6
  rw [← HR.out, ← HOK.out]
  obtain ⟨_, _, hA6, hr3, hr4⟩ := ht6.slice
  injection hA6 with ga6 gb6 hA6
  subst hA6
  clear ga6 gb6
  obtain ⟨w7, hw7⟩ : ∃ w7, w7 = w6.alloc (Obj.cells #[.int .i64 r.op, .int .i64 r.n, .slice A6 r.k.len c6] 25) := ⟨_, rfl⟩
  have b7 : Below w6.heap.size w6 w7 := by rw [hw7]; exact (Below.refl _ _).alloc (Nat.le_refl _) _
  have HT7 := Lib.hid (show Row w7 w6.heap.size 25 #[.int .i64 r.op, .int .i64 r.n, .slice A6 r.k.len c6] by rw [hw7]; exact Row.fresh _ _ _)
  have hb57 := hb6.trans (b7.mono hb6.size)
  have HX7 := Lib.hid (HX5.out.below hb57 HX5.out.size)
  have HS7 := Lib.hid (HS5.out.below hb57 HS5.out.size)
  have HH7 := Lib.hid (HH5.out.up hb57)
  have HM7 := Lib.hid (HM5.out.up hb57)
  have HN7 := Lib.hid (ht6.held.up b7)
  have HB7 := Lib.hid (HB5.out.trans (hb57.mono HB5.out.size))
  clear ht6 hb6 b7 hb57 HX5 HZ5 HS5 HH5 HK5 HM5 HB5 q0 q1 q2 p0 p1 p2
  go_upto_region 6 with fail
  rw [← hw7]
  clear hw7
  have hne : (okb != okb) = false := by simp
  have s0 := HS7.out.cell (i := 0) rfl
  have s1 := HS7.out.cell (i := 1) rfl
  have s2 := HS7.out.cell (i := 2) rfl
  have t0 := HT7.out.cell (i := 0) rfl
  have t1 := HT7.out.cell (i := 1) rfl
  have t2 := HT7.out.cell (i := 2) rfl
  go_wp2_with fail
  refine (implSame_r r.op r.n r.op r.n r.k r.k A3 A6 c3 c6 w7 HM7.out.1 HN7.out.1 0 w7.heap.size HM7.out.1 (Nat.le_refl _) HM7.out.rows hr1 hr2 hr3 hr4 (by omega)).mono ?_
  rintro e w8 ⟨rfl, hb8⟩
  rw [srNrefl]
  have HX8 := Lib.hid (HX7.out.below hb8 HX7.out.size)
  have HS8 := Lib.hid (HS7.out.below hb8 HS7.out.size)
  have HT8 := Lib.hid (HT7.out.below hb8 HT7.out.size)
  have HH8 := Lib.hid (HH7.out.up hb8)
  have HM8 := Lib.hid (HM7.out.up hb8)
  have HN8 := Lib.hid (HN7.out.up hb8)
  have HB8 := Lib.hid (HB7.out.trans (hb8.mono HB7.out.size))
  clear hb8 HX7 HS7 HT7 HH7 HM7 HN7 HB7 s0 s1 s2 t0 t1 t2 hne
  cases okb with
  | false =>
    have s0 := HS8.out.cell (i := 0) rfl
    have s1 := HS8.out.cell (i := 1) rfl
    have s2 := HS8.out.cell (i := 2) rfl
    have t0 := HT8.out.cell (i := 0) rfl
    have t1 := HT8.out.cell (i := 1) rfl
    have t2 := HT8.out.cell (i := 2) rfl
    go_wp2_with fail
    refine (implSame_r r.op r.n r.op r.n r.k r.k A3 A6 c3 c6 w8 HM8.out.1 HN8.out.1 0 w8.heap.size HM8.out.1 (Nat.le_refl _) HM8.out.rows hr1 hr2 hr3 hr4 (by omega)).mono ?_
    rintro e w10 ⟨rfl, hb10⟩
    rw [srNrefl]
    have HB10 := Lib.hid (HB8.out.trans (hb10.mono HB8.out.size))
    clear hb10
    go_wp2_with fail
    go_ret
    exact ⟨rfl, HB10.out⟩
  | true =>
    have q0 := HX8.out.cell (i := 0) rfl
    have q1 := HX8.out.cell (i := 1) rfl
    have q2 := HX8.out.cell (i := 2) rfl
    go_wp2_with fail
    refine (implCount_r op n y k X cx 0 w8.heap.size w8 HH8.out.1 (Nat.le_refl _) HH8.out.rows hk1 hk2 (by omega)).mono ?_
    rintro e w9 ⟨rfl, hb9⟩
    have HX9 := Lib.hid (HX8.out.below hb9 HX8.out.size)
    have HS9 := Lib.hid (HS8.out.below hb9 HS8.out.size)
    have HT9 := Lib.hid (HT8.out.below hb9 HT8.out.size)
    have HH9 := Lib.hid (HH8.out.up hb9)
    have HM9 := Lib.hid (HM8.out.up hb9)
    have HN9 := Lib.hid (HN8.out.up hb9)
    have HB9 := Lib.hid (HB8.out.trans (hb9.mono HB8.out.size))
    clear hb9 q0 q1 q2
    by_cases hz0 : cntN y op n k = 0
    · have HEQ := Lib.hid (show r = ⟨op, n, k⟩ from by
        cases hsb : (subB ⟨op, n, k⟩ y ⟨op2, n2, k2⟩) with
        | none => have := HOK.out; rw [hsb] at this; cases this
        | some z => have e := HR.out; rw [hsb] at e; exact e.trans (sub_none hz0 hsb))
      rw [hz0]
      have hg : decide (((0 : Nat) : Int) > 0) = false := by decide
      clear hz0
      have s0 := HS9.out.cell (i := 0) rfl
      have s1 := HS9.out.cell (i := 1) rfl
      have s2 := HS9.out.cell (i := 2) rfl
      have q0 := HX9.out.cell (i := 0) rfl
      have q1 := HX9.out.cell (i := 1) rfl
      have q2 := HX9.out.cell (i := 2) rfl
      go_wp2_with fail
      refine (implSame_r r.op r.n op n r.k k A3 X c3 cx w9 HM9.out.1 HH9.out.1 0 w9.heap.size HM9.out.1 (Nat.le_refl _) HM9.out.rows hr1 hr2 hk1 hk2 (by omega)).mono ?_
      rintro e w10 ⟨rfl, hb10⟩
      rw [show sameN r.op r.n r.k op n k = true from by rw [HEQ.out]; exact srNrefl _ _ _]
      have HB10 := Lib.hid (HB9.out.trans (hb10.mono HB9.out.size))
      clear hb10
      go_wp2_with fail
      go_ret
      exact ⟨rfl, HB10.out⟩
    · have hg : decide (((cntN y op n k : Nat) : Int) > 0) = true := by simp; omega
      have hg2 : 0 < cntN y op n k := by omega
      generalize cntN y op n k = m at hg hg2 ⊢
      clear hz0
      have s0 := HS9.out.cell (i := 0) rfl
      have s1 := HS9.out.cell (i := 1) rfl
      have s2 := HS9.out.cell (i := 2) rfl
      have t0 := HT9.out.cell (i := 0) rfl
      have t1 := HT9.out.cell (i := 1) rfl
      have t2 := HT9.out.cell (i := 2) rfl
      go_wp2_with fail
      refine (implSame_r r.op r.n r.op r.n r.k r.k A3 A6 c3 c6 w9 HM9.out.1 HN9.out.1 0 w9.heap.size HM9.out.1 (Nat.le_refl _) HM9.out.rows hr1 hr2 hr3 hr4 (by omega)).mono ?_
      rintro e w10 ⟨rfl, hb10⟩
      rw [srNrefl]
      have HB10 := Lib.hid (HB9.out.trans (hb10.mono HB9.out.size))
      clear hb10
      go_wp2_with fail
      go_ret
      exact ⟨rfl, HB10.out⟩
end Go.Proofs.Ytlkicbekabcelaa
