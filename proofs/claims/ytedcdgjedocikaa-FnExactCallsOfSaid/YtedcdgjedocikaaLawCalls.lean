/-
  The walk of the law FnExactCallsOf: true at every argument.
-/
import Derived.Test.YtedcdgjedocikaaMark
import Derived.Test.YtedcdgjedocikaaIntsMark
import Derived.Test.YtedcdgjedocikaaIntsEq
import Derived.Test.YtedcdgjedocikaaICalls
import Derived.Deep.RegionHeld3
namespace Go.Proofs.Ytedcdgjedocikaa
open Go.RowKit

set_option maxHeartbeats 2000000 in
theorem law_calls (op n : Int) (k : Fo) (A : Option Addr) (c : Nat) (w : World) (hl : Lies w 0 w.heap.size A 0 k) (hlen : k.len ≤ maxLen) :
    Calls Try.prog 5 #[.agg #[.int .i64 op, .int .i64 n, .slice A k.len c]] w (Gives (.bool true) w) := by
  have hb0 : Below w.heap.size w (w.alloc (Obj.cells #[Value.int IntKind.i64 op, Value.int IntKind.i64 n, Value.slice A k.len c] 24)) := (Below.refl _ _).alloc (Nat.le_refl _) _
  have ha0 : Row (w.alloc (Obj.cells #[Value.int IntKind.i64 op, Value.int IntKind.i64 n, Value.slice A k.len c] 24)) w.heap.size 24 #[Value.int IntKind.i64 op, Value.int IntKind.i64 n, Value.slice A k.len c] := Row.fresh _ _ _
  obtain ⟨zs, hzs⟩ : ∃ zs, zs = numsUpto (callB ⟨op, n, k⟩) 8 := ⟨_, rfl⟩
  have hzi : ∀ x ∈ zs, I64 x := by rw [hzs]; exact fun x hx => numsUpto_small (callB ⟨op, n, k⟩) 8 x (Nat.le_refl _) hx
  have hzl : zs.length ≤ 1048576 := by rw [hzs]; exact Nat.le_trans (numsUpto_len (callB ⟨op, n, k⟩) 8) (by decide)
  have HZS := Lib.hid hzs
  have HZI := Lib.hid hzi
  clear hzs hzi
  go_enter Try.func5, Try.ntmps5
  go_wp2_with fail
  refine (szExpr_any op n k A c _ 1048576 (hl.up hb0) hlen (by decide) (by decide)).mono ?_
  rintro e w1 ⟨r, rfl, hr, hb1'⟩
  have hb1 := hb0.trans (hb1'.mono hb0.size)
  have ha1 := ha0.below hb1' (by simp)
  clear hb0 ha0 hb1'
  rcases hr with rfl | ⟨hrz, hr⟩
  · go_wp2
    go_ret
    exact ⟨rfl, hb1⟩
  have hsz : k.size ≤ 1048576 := by omega
  have q0 := ha1.cell (i := 0) rfl
  have q1 := ha1.cell (i := 1) rfl
  have q2 := ha1.cell (i := 2) rfl
  clear hr hlen
  go_wp2_with fail
  refine (toExpr_any op n k A c w1 (hl.up hb1) hsz).mono ?_
  rintro e w2 ⟨A2, c2, rfl, _, _, hl2, _, hb2'⟩
  have hb2 := hb1.trans (hb2'.mono hb1.size)
  have ha2 := ha1.below hb2' ha1.size
  have hl2' := hl2.mono_ (Nat.zero_le _) (Nat.le_refl _)
  clear hb1 ha1 hb2' q0 q1 q2 hl2
  go_wp2_with fail
  refine (specCalls_any op n k A2 c2 w2 hl2' hsz).mono ?_
  rintro e w3 ⟨v3, rfl, hown3, hb3'⟩
  rw [← HZS.out] at hown3
  obtain ⟨A3, c3, rfl, hI3⟩ := own_ints hown3 HZI.out
  have hb3 := hb2.trans (hb3'.mono hb2.size)
  have ha3 := ha2.below hb3' ha2.size
  have hw2 := hb2.size
  have h23 := hb3'.size
  clear hb2 ha2 hb3' hl2' hown3
  have HI3 := Lib.hid hI3
  clear hI3
  have q0 := ha3.cell (i := 0) rfl
  have q1 := ha3.cell (i := 1) rfl
  have q2 := ha3.cell (i := 2) rfl
  go_wp2_with fail
  refine (toExpr_z op n k A c w3 (hl.up hb3) hsz).mono ?_
  rintro e w4 ⟨A4, c4, rfl, hk4, hc4, hl4, hal4, hb4'⟩
  have hb4 := hb3.trans (hb4'.mono hb3.size)
  have ha4 := ha3.below hb4' ha3.size
  have h34 := hb4'.size
  have hne : w.heap.size < w3.heap.size := ha3.size
  have HI4 := Lib.hid (HI3.out.below hb4')
  clear hb3 ha3 hb4' q0 q1 q2 HI3
  -- the box of x0
  have hb5 : Below w.heap.size w (w4.alloc (Obj.cells #[Value.int IntKind.i64 op, Value.int IntKind.i64 n, Value.slice A4 k.len c4] 29)) := hb4.alloc hb4.size _
  have hx5 : Below w4.heap.size w4 (w4.alloc (Obj.cells #[Value.int IntKind.i64 op, Value.int IntKind.i64 n, Value.slice A4 k.len c4] 29)) := (Below.refl _ _).alloc (Nat.le_refl _) _
  have ha5 := ha4.alloc (Obj.cells #[Value.int IntKind.i64 op, Value.int IntKind.i64 n, Value.slice A4 k.len c4] 29)
  have hr5 : Row (w4.alloc (Obj.cells #[Value.int IntKind.i64 op, Value.int IntKind.i64 n, Value.slice A4 k.len c4] 29)) w4.heap.size 29 #[Value.int IntKind.i64 op, Value.int IntKind.i64 n, Value.slice A4 k.len c4] := Row.fresh _ _ _
  have HC := Lib.hid (implCalls_any op n k A4 c4 w3.heap.size w4.heap.size _ (hl4.below hx5).lies hx5.size (hal4.below hx5 (Nat.le_refl _)) hk4 hc4 hsz)
  have HZ5 := Lib.hid (hl4.below hx5)
  have HI5 := Lib.hid (HI4.out.below (hx5.mono h34))
  have HR4 := Lib.hid (hal4.below hx5 (Nat.le_refl _))
  have HB5 := Lib.hid hb5
  have HA5 := Lib.hid ha5
  have HR5 := Lib.hid hr5
  have hs5 : (w4.alloc (Obj.cells #[Value.int IntKind.i64 op, Value.int IntKind.i64 n, Value.slice A4 k.len c4] 29)).heap.size = w4.heap.size + 1 := by simp
  have HS5 := Lib.hid hs5
  clear hb4 ha4 hb5 hx5 ha5 hr5 hl4 hal4 HI4 hs5
  go_wp2_with fail
  refine HC.out.mono ?_
  rintro e w8 ⟨v5, rfl, hown5, hb8⟩
  rw [← HZS.out, HS5.out] at hown5
  rw [HS5.out] at hb8
  have h48 : w4.heap.size + 1 ≤ w8.heap.size := Nat.le_trans (Nat.le_of_eq HS5.out.symm) hb8.size
  obtain ⟨g5, A5, c5, hv5, hg5, hheld5⟩ := Held.of_own hown5
  subst hv5
  obtain ⟨A5', c5', hv5', hI5⟩ := own_ints hown5 HZI.out
  obtain ⟨rfl, rfl⟩ : A5 = A5' ∧ c5 = c5' := by simp at hv5'; exact hv5'
  clear hv5'
  have hw4 : w.heap.size ≤ w4.heap.size + 1 := by omega
  have hbw8 := Lib.hid (HB5.out.trans (hb8.mono hw4))
  have ha8 := Lib.hid (HA5.out.below hb8 (by omega))
  have hr8 := Lib.hid (HR5.out.below hb8 (by omega))
  have hz8 := Lib.hid (HZ5.out.below (hb8.mono (by omega)))
  have HI8 := Lib.hid (HI5.out.below (hb8.mono (by omega)))
  have HAL8 := Lib.hid (HR4.out.below hb8 (by omega))
  have HH8 := Lib.hid hheld5
  have HOI8 := Lib.hid hI5
  have HOW8 := Lib.hid hown5
  clear HB5 HA5 HR5 HZ5 HI5 HR4 hb8 HC hown5 hheld5 hI5 HS5
  go_wp2_with fail
  refine (eqIntS_any zs A5 A3 c5 c3 w8 (HOI8.out.mono_ (Nat.zero_le _) (Nat.le_refl _)) (HI8.out.mono_ (Nat.zero_le _) (by omega)) hzl).mono ?_
  rintro e w9 ⟨rfl, hb9⟩
  have h89 := hb9.size
  have hbw9 := Lib.hid (hbw8.out.trans (hb9.mono (by omega)))
  have ha9 := Lib.hid (ha8.out.below hb9 (by omega))
  have hr9 := Lib.hid (hr8.out.below hb9 (by omega))
  have hz9 := Lib.hid (hz8.out.below (hb9.mono (by omega)))
  have HI9 := Lib.hid (HI8.out.below (hb9.mono (by omega)))
  have HAL9 := Lib.hid (HAL8.out.below hb9 (by omega))
  have HH9 := Lib.hid (HH8.out.below hb9)
  have HOW9 := Lib.hid (own_below HOW8.out hb9)
  clear hbw8 ha8 hr8 hz8 HI8 HAL8 HH8 HOW8 hb9 HOI8
  have q0 := ha9.out.cell (i := 0) rfl
  have q1 := ha9.out.cell (i := 1) rfl
  have q2 := ha9.out.cell (i := 2) rfl
  have x0 := hr9.out.cell (i := 0) rfl
  have x1 := hr9.out.cell (i := 1) rfl
  have x2 := hr9.out.cell (i := 2) rfl
  go_wp2_with fail
  have hbd : Below w9.heap.size w9 w9.drew := (Below.refl _ _).drew
  have D1 := Lib.hid (show Lies w9.drew 0 w9.drew.heap.size A 0 k from (hl.up (w' := w9.drew) hbw9.out.drew))
  have D2 := Lib.hid (show Lies w9.drew 0 w9.drew.heap.size A4 0 k from (hz9.out.lies.mono_ (Nat.zero_le _) (show w4.heap.size ≤ w9.heap.size by omega)).below (w' := w9.drew) hbd)
  have D3 := Lib.hid hbd
  have h49 : w4.heap.size < w9.heap.size := by omega
  have hw9 : w.heap.size < w9.heap.size := by omega
  have HX := Lib.hid (And.intro hne (And.intro h34 (And.intro hw2 (And.intro h23 (And.intro hg5 (And.intro h48 h89))))))
  clear hbd hne h34 hw2 h23 hg5 h48 h89
  go_region_held3 (fun w' => w'.cell? ⟨w4.heap.size, 0, none⟩ = some (.int .i64 op) ∧ w'.cell? ⟨w4.heap.size, 1, none⟩ = some (.int .i64 n) ∧ w'.cell? ⟨w4.heap.size, 2, none⟩ = some (.slice A4 k.len c4) ∧
      w'.cell? ⟨w.heap.size, 0, none⟩ = some (.int .i64 op) ∧ w'.cell? ⟨w.heap.size, 1, none⟩ = some (.int .i64 n) ∧ w'.cell? ⟨w.heap.size, 2, none⟩ = some (.slice A k.len c))
    (first | exact ⟨x0, x1, x2, q0, q1, q2⟩ | exact ⟨y0, y1, y2, p0, p1, p2⟩ | exact ⟨u0, u1, u2, s0, s1, s2⟩)
    (first
      | (go_at_call 11
         refine (toExpr_any op n k A c _ D1.out hsz).mono ?_
         rintro e w13 ⟨A13, c13, rfl, _, _, hl13, _, hb13⟩
         have y0 := (hb13.cell (p := ⟨w4.heap.size, 0, none⟩) h49).trans x0
         have y1 := (hb13.cell (p := ⟨w4.heap.size, 1, none⟩) h49).trans x1
         have y2 := (hb13.cell (p := ⟨w4.heap.size, 2, none⟩) h49).trans x2
         have p0 := (hb13.cell (p := ⟨w.heap.size, 0, none⟩) hw9).trans q0
         have p1 := (hb13.cell (p := ⟨w.heap.size, 1, none⟩) hw9).trans q1
         have p2 := (hb13.cell (p := ⟨w.heap.size, 2, none⟩) hw9).trans q2)
      | (go_at_call 13
         refine (eqExpr_any op n k A4 A13 c4 c13 _ (((D2.out.below hb13).mono_ (Nat.le_refl _) hb13.size)) (hl13.mono_ (Nat.zero_le _) (Nat.le_refl _)) hsz).mono ?_
         rintro e w14 ⟨rfl, hb14⟩
         have u0 := (hb14.cell (p := ⟨w4.heap.size, 0, none⟩) (Nat.lt_of_lt_of_le h49 hb13.size)).trans y0
         have u1 := (hb14.cell (p := ⟨w4.heap.size, 1, none⟩) (Nat.lt_of_lt_of_le h49 hb13.size)).trans y1
         have u2 := (hb14.cell (p := ⟨w4.heap.size, 2, none⟩) (Nat.lt_of_lt_of_le h49 hb13.size)).trans y2
         have s0 := (hb14.cell (p := ⟨w.heap.size, 0, none⟩) (Nat.lt_of_lt_of_le hw9 hb13.size)).trans p0
         have s1 := (hb14.cell (p := ⟨w.heap.size, 1, none⟩) (Nat.lt_of_lt_of_le hw9 hb13.size)).trans p1
         have s2 := (hb14.cell (p := ⟨w.heap.size, 2, none⟩) (Nat.lt_of_lt_of_le hw9 hb13.size)).trans p2))
  have hb914 : Below w9.heap.size w9 w14 := (D3.out.trans hb13).trans (hb14.mono hb13.size)
  have h914 := hb914.size
  clear hb13 hb14 hl13 x0 x1 x2 y0 y1 y2 q0 q1 q2 p0 p1 p2 u0 u1 u2 s0 s1 s2 D1 D2 D3
  obtain ⟨hne, h34, hw2, h23, hg5, h48, h89⟩ := HX.out
  have hbw14 := Lib.hid (hbw9.out.trans (hb914.mono (by omega)))
  have ha14 := Lib.hid (ha9.out.below hb914 (by omega))
  have hr14 := Lib.hid (hr9.out.below hb914 (by omega))
  have hz14 := Lib.hid (hz9.out.below (hb914.mono (by omega)))
  have HI14 := Lib.hid (HI9.out.below (hb914.mono (by omega)))
  have HAL14 := Lib.hid (HAL9.out.below hb914 (by omega))
  have HH14 := Lib.hid (HH9.out.below hb914)
  have HOW14 := Lib.hid (own_below HOW9.out hb914)
  clear hbw9 ha9 hr9 hz9 HI9 HAL9 HH9 HOW9 hb914 HX
  have x0 := hr14.out.cell (i := 0) rfl
  have x1 := hr14.out.cell (i := 1) rfl
  have x2 := hr14.out.cell (i := 2) rfl
  have HALN := Lib.hid (LiesZ.al HAL14.out hz14.out)
  go_wp2_with fail
  refine (markExpr_any w3.heap.size w4.heap.size op n k A4 c4 w14 1 HALN.out (by decide) (by omega)).mono ?_
  rintro e w15 ⟨rfl, hm⟩
  have hbw15 := Lib.hid (hm.below hbw14.out (by omega) (Nat.le_refl _))
  have ha15 := Lib.hid (hm.row ha14.out (.inl hne))
  have HI15 := Lib.hid (hm.ints HI14.out (by omega) (.inl (Nat.le_refl _)))
  have HOW15 := Lib.hid (hm.owns HOW14.out (Nat.le_succ _))
  have h1415 := hm.size
  clear hbw14 ha14 hr14 hz14 HI14 HAL14 HH14 HOW14 HALN hm x0 x1 x2
  obtain ⟨A6, c6, hv6, hI6⟩ := own_ints HOW15.out HZI.out
  obtain ⟨rfl, rfl⟩ : A5 = A6 ∧ c5 = c6 := by simp at hv6; exact hv6
  clear hv6
  have HOI15 := Lib.hid hI6
  clear hI6
  have hks : (0 : Int) ≤ 1 + 2 * (k.size : Int) := by omega
  generalize hkk : 1 + 2 * (k.size : Int) = kk at hks
  have HKK := Lib.hid hkk
  clear hkk
  go_wp2_with fail
  refine (eqIntS_any zs A5 A3 c5 c3 w15 (HOI15.out.mono_ (Nat.zero_le _) (Nat.le_refl _)) (HI15.out.mono_ (Nat.zero_le _) (by omega)) hzl).mono ?_
  rintro e w16 ⟨rfl, hb16⟩
  have h1516 := hb16.size
  have hbw16 := Lib.hid (hbw15.out.trans (hb16.mono (by omega)))
  have ha16 := Lib.hid (ha15.out.below hb16 (by omega))
  have HI16 := Lib.hid (HI15.out.below (hb16.mono (by omega)))
  have HOW16 := Lib.hid (own_below HOW15.out hb16)
  clear hbw15 ha15 HI15 HOW15 hb16 HOI15
  obtain ⟨g6, A6, c6, hv6, hg6, hheld6⟩ := Held.of_own HOW16.out
  obtain ⟨rfl, rfl⟩ : A5 = A6 ∧ c5 = c6 := by simp at hv6; exact hv6
  clear hv6
  have HH16 := Lib.hid hheld6
  clear hheld6 HOW16
  go_wp2_with fail
  refine (markIntS_any zs.length g6 A5 c5 w16 1 HH16.out hzl (by decide) (by decide)).mono ?_
  rintro e w17 ⟨rfl, hheld, hon⟩
  have h1617 := hon.size
  have hbw17 := Lib.hid (hbw16.out.trans ((hon.mono (B' := w.heap.size) (by omega)).below (by omega)))
  have ha17 := Lib.hid (ha16.out.only hon (by omega) (by omega))
  have HI17 := Lib.hid (HI16.out.keep (w' := w17) (Nat.le_refl _) (Nat.le_refl _) fun p h1 h2 => hon.cell (by omega) (by omega))
  have HH17 := Lib.hid hheld
  clear hbw16 ha16 HI16 HH16 hheld hon
  have hzp : (1 : Int) + (zs.length : Int) ≤ 1048577 := by omega
  have hz0 : (0 : Int) ≤ 1 + (zs.length : Int) := by omega
  generalize hll : (1 : Int) + (zs.length : Int) = ll at hzp hz0
  have HLL := Lib.hid hll
  clear hll
  go_wp2_with fail
  refine (heldIntS_any zs.length g6 A5 c5 w17 1 HH17.out hzl (by decide) (by decide)).mono ?_
  rintro e w18 ⟨rfl, hb18⟩
  rw [HLL.out]
  have h1718 := hb18.size
  have hbw18 := Lib.hid (hbw17.out.trans (hb18.mono (by omega)))
  have ha18 := Lib.hid (ha17.out.below hb18 (by omega))
  have HI18 := Lib.hid (HI17.out.below (hb18.mono (by omega)))
  have HH18 := Lib.hid (HH17.out.below hb18)
  clear hbw17 ha17 HI17 HH17 hb18
  have q0 := ha18.out.cell (i := 0) rfl
  have q1 := ha18.out.cell (i := 1) rfl
  have q2 := ha18.out.cell (i := 2) rfl
  go_wp2_with fail
  refine (toExpr_any op n k A c w18 (hl.up hbw18.out) hsz).mono ?_
  rintro e w19 ⟨A19, c19, rfl, hk19, hc19, hl19, hal19, hb19⟩
  have h1819 := hb19.size
  have hbw19 := Lib.hid (hbw18.out.trans (hb19.mono (by omega)))
  have HI19 := Lib.hid (HI18.out.below (hb19.mono (by omega)))
  have HH19 := Lib.hid (HH18.out.below hb19)
  have HC := Lib.hid (implCalls_any op n k A19 c19 w18.heap.size w19.heap.size w19 hl19 (Nat.le_refl _) hal19 hk19 hc19 hsz)
  clear hbw18 ha18 HI18 HH18 hb19 q0 q1 q2 hl19 hal19
  go_wp2_with fail
  refine HC.out.mono ?_
  rintro e w20 ⟨v20, rfl, hown20, hb20⟩
  rw [← HZS.out] at hown20
  obtain ⟨A20, c20, rfl, hI20⟩ := own_ints hown20 HZI.out
  have h1920 := hb20.size
  have hbw20 := Lib.hid (hbw19.out.trans (hb20.mono (by omega)))
  have HI20 := Lib.hid (HI19.out.below (hb20.mono (by omega)))
  have HH20 := Lib.hid (HH19.out.below hb20)
  have HJ20 := Lib.hid hI20
  clear hbw19 HI19 HH19 hb20 HC hown20 hI20
  go_wp2_with fail
  refine (eqIntS_any zs A20 A3 c20 c3 w20 (HJ20.out.mono_ (Nat.zero_le _) (Nat.le_refl _)) (HI20.out.mono_ (Nat.zero_le _) (by omega)) hzl).mono ?_
  rintro e w21 ⟨rfl, hb21⟩
  have hbw21 := Lib.hid (hbw20.out.trans (hb21.mono (by omega)))
  have HH21 := Lib.hid (HH20.out.below hb21)
  clear hbw20 HI20 HH20 hb21 HJ20
  go_wp2_with fail
  refine (heldIntS_any zs.length g6 A5 c5 w21 1 HH21.out hzl (by decide) (by decide)).mono ?_
  rintro e w22 ⟨rfl, hb22⟩
  rw [HLL.out]
  have hbw22 := hbw21.out.trans (hb22.mono hbw21.out.size)
  clear hbw21 HH21 hb22
  go_wp2
  go_ret
  exact ⟨rfl, hbw22⟩
end Go.Proofs.Ytedcdgjedocikaa
