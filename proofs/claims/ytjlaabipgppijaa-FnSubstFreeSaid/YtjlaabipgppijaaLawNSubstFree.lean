/-
  The walk of the law FnSubstFree: true at every input.
-/
import Derived.Test.YtjlaabipgppijaaDrawSub
import Derived.Test.YtjlaabipgppijaaSubR
import Derived.Test.YtjlaabipgppijaaSubE
import Derived.Test.YtjlaabipgppijaaISame
import Derived.Test.YtjlaabipgppijaaCntVar
import Derived.Test.YtjlaabipgppijaaSubC
import Derived.Test.YtjlaabipgppijaaISize
namespace Go.Proofs.Ytjlaabipgppijaa
open Go.RowKit Go.Shelf
set_option maxRecDepth 100000

theorem sr_refl : ∀ f : Fo, sameFo f f = true
  | .nil => rfl
  | .cons _ _ k r => by simp [sameFo, sr_refl k, sr_refl r]
theorem srNrefl (op n : Int) (k : Fo) : sameN op n k op n k = true := by simp [sameN, sr_refl]

set_option maxHeartbeats 4000000 in
theorem law_NSubstFree (bs : List Nat) (A : Option Addr) (c : Nat) (w : World) (hl : LiesY w 0 w.heap.size A bs) (hlc : bs.length ≤ c) (hc : c ≤ maxLen) :
    Calls Try.prog 4 #[.slice A bs.length c] w (Gives (.bool true) w) := by
  have HC := Lib.hid (drawSubstVar_any A c bs w hl hlc hc)
  unfold maxLen at hc
  by_cases hsz : bs.length ≤ 1048576
  rotate_left
  · have hgt : 1048576 < bs.length := by omega
    clear hl
    go_enter Try.func4, Try.ntmps4
    go_wp2_with fail
    go_ret
    exact ⟨rfl, Below.refl _ _⟩
  clear hl
  go_enter Try.func4, Try.ntmps4
  go_wp2_with fail
  refine HC.out.mono ?_
  rintro e w1 ⟨op, n, k, X, cx, y, op2, n2, k2, X2, cx2, rfl, ⟨bl, hi, ht, hs⟩, ⟨bl2, hi2, ht2, hs2⟩, hy, hb⟩
  obtain ⟨_, _, hX, hk1, hk2⟩ := ht.slice
  injection hX with hX1 hX2 hX3
  subst hX3
  obtain ⟨_, _, hY, hk3, hk4⟩ := ht2.slice
  injection hY with hY1 hY2 hY3
  subst hY3
  obtain ⟨W, hW⟩ : ∃ W, W = (w1.alloc (Obj.cells #[.int .i64 op, .int .i64 n, .slice X k.len cx] 25)).alloc (Obj.cells #[.int .i64 op2, .int .i64 n2, .slice X2 k2.len cx2] 25) := ⟨_, rfl⟩
  have hbW : Below w1.heap.size w1 W := by rw [hW]; exact ((Below.refl _ _).alloc (Nat.le_refl _) _).alloc (by simp) _
  have hx : Row W w1.heap.size 25 #[.int .i64 op, .int .i64 n, .slice X k.len cx] := by rw [hW]; exact (Row.fresh _ _ _).alloc _
  have hx2 : Row W (w1.heap.size + 1) 25 #[.int .i64 op2, .int .i64 n2, .slice X2 k2.len cx2] := by
    rw [hW]
    have := Row.fresh (w1.alloc (Obj.cells #[.int .i64 op, .int .i64 n, .slice X k.len cx] 25)) 25 #[.int .i64 op2, .int .i64 n2, .slice X2 k2.len cx2]
    rw [World.size_alloc] at this
    exact this
  have HX := Lib.hid hx
  have HH := Lib.hid ((ht.held).up hbW)
  have HK := Lib.hid ((ht2.held).up hbW)
  have HB := Lib.hid (hb.trans (hbW.mono hb.size))
  have HXX := Lib.hid hx2
  have hkl : k.len ≤ maxLen := Nat.le_trans hk1 hk2
  clear hb hbW ht ht2 hX1 hY1 HC hi hi2 hx hx2
  go_upto_region 4 with fail
  rw [← hW]
  clear hW
  obtain ⟨V, hV⟩ : ∃ V, V = W := ⟨_, rfl⟩
  have bV : Below W.heap.size W V := by rw [hV]; exact Below.refl _ _
  have HZ := Lib.hid (show Row V (w1.heap.size + 1) 25 #[.int .i64 op2, .int .i64 n2, .slice X2 k2.len cx2] by rw [hV]; exact HXX.out)
  rw [← hV]
  clear hV
  have HX1 := Lib.hid (HX.out.below bV HX.out.size)
  have HH1 := Lib.hid (HH.out.up bV)
  have HK1 := Lib.hid (HK.out.up bV)
  have HB1 := Lib.hid (HB.out.trans (bV.mono HB.out.size))
  clear bV HX HH HK HB HXX
  have q0 := HX1.out.cell (i := 0) rfl
  have q1 := HX1.out.cell (i := 1) rfl
  have q2 := HX1.out.cell (i := 2) rfl
  have p0 := HZ.out.cell (i := 0) rfl
  have p1 := HZ.out.cell (i := 1) rfl
  have p2 := HZ.out.cell (i := 2) rfl
  go_wp2_with fail
  refine (implSub_e op n k y op2 n2 k2 X X2 cx cx2 V HH1.out.1 HK1.out.1 hkl hk3 hk4).mono ?_
  rintro e w3 ⟨A3, c3, b3, rfl, ht3, hb3⟩
  obtain ⟨r, hr⟩ : ∃ r, r = (subB ⟨op, n, k⟩ y ⟨op2, n2, k2⟩).getD nd0 := ⟨_, rfl⟩
  obtain ⟨okb, hok⟩ : ∃ b, b = (subB ⟨op, n, k⟩ y ⟨op2, n2, k2⟩).isSome := ⟨_, rfl⟩
  rw [← hr] at ht3
  rw [← hr, ← hok]
  have HR := Lib.hid hr
  have HOK := Lib.hid hok
  have hrs : r.k.size ≤ 79 := by rw [hr]; exact sub_size _ _ _
  obtain ⟨_, _, hA3, hr1, hr2⟩ := ht3.slice
  injection hA3 with ga3 gb3 hA3
  subst hA3
  clear ga3 gb3
  obtain ⟨w5, hw5⟩ : ∃ w5, w5 = w3.alloc (Obj.cells #[.int .i64 r.op, .int .i64 r.n, .slice A3 r.k.len c3] 25) := ⟨_, rfl⟩
  have b5 : Below w3.heap.size w3 w5 := by rw [hw5]; exact (Below.refl _ _).alloc (Nat.le_refl _) _
  have HS5 := Lib.hid (show Row w5 w3.heap.size 25 #[.int .i64 r.op, .int .i64 r.n, .slice A3 r.k.len c3] by rw [hw5]; exact Row.fresh _ _ _)
  have hb35 := hb3.trans (b5.mono hb3.size)
  have HX5 := Lib.hid (HX1.out.below hb35 HX1.out.size)
  have HZ5 := Lib.hid (HZ.out.below hb35 HZ.out.size)
  have HH5 := Lib.hid (HH1.out.up hb35)
  have HK5 := Lib.hid (HK1.out.up hb35)
  have HM5 := Lib.hid (ht3.held.up b5)
  have HB5 := Lib.hid (HB1.out.trans (hb35.mono HB1.out.size))
  clear hr hok ht3 hb3 b5 hb35 HX1 HZ HH1 HK1 HB1 q0 q1 q2 p0 p1 p2
  go_upto_region 5 with fail
  rw [← hw5]
  clear hw5
  have q0 := HX5.out.cell (i := 0) rfl
  have q1 := HX5.out.cell (i := 1) rfl
  have q2 := HX5.out.cell (i := 2) rfl
  have p0 := HZ5.out.cell (i := 0) rfl
  have p1 := HZ5.out.cell (i := 1) rfl
  have p2 := HZ5.out.cell (i := 2) rfl
  go_wp2_with fail
  refine (specSub_e op n k y op2 n2 k2 X X2 cx cx2 w5 HH5.out.1 HK5.out.1 (by omega) (Nat.le_trans hk3 hk4)).mono ?_
  rintro e w6 ⟨A6, c6, b6, rfl, ht6, hb6⟩
  rw [← HR.out] at ht6
  rw [← HR.out, ← HOK.out]
  obtain ⟨_, _, hA6, hr3, hr4⟩ := ht6.slice
  injection hA6 with ga6 gb6 hA6
  subst hA6
  clear ga6 gb6
  obtain ⟨w7, hw7⟩ : ∃ w7, w7 = w6.alloc (Obj.cells #[.int .i64 r.op, .int .i64 r.n, .slice A6 r.k.len c6] 25) := ⟨_, rfl⟩
  have b7 : Below w6.heap.size w6 w7 := by rw [hw7]; exact (Below.refl _ _).alloc (Nat.le_refl _) _
  have HT7 := Lib.hid (show Row w7 w6.heap.size 25 #[.int .i64 r.op, .int .i64 r.n, .slice A6 r.k.len c6] by rw [hw7]; exact Row.fresh _ _ _)
  have hb57 := hb6.trans (b7.mono hb6.size)
  have HX7 := Lib.hid (HX5.out.below hb57 HX5.out.size)
  have HS7 := Lib.hid (HS5.out.below hb57 HS5.out.size)
  have HH7 := Lib.hid (HH5.out.up hb57)
  have HM7 := Lib.hid (HM5.out.up hb57)
  have HN7 := Lib.hid (ht6.held.up b7)
  have HB7 := Lib.hid (HB5.out.trans (hb57.mono HB5.out.size))
  have HZ7 := Lib.hid (HZ5.out.below hb57 HZ5.out.size)
  have HK7 := Lib.hid (HK5.out.up hb57)
  clear ht6 hb6 b7 hb57 HX5 HZ5 HS5 HH5 HK5 HM5 HB5 q0 q1 q2 p0 p1 p2
  go_upto_region 6 with fail
  rw [← hw7]
  clear hw7
  have hne : (okb != okb) = false := by simp
  have s0 := HS7.out.cell (i := 0) rfl
  have s1 := HS7.out.cell (i := 1) rfl
  have s2 := HS7.out.cell (i := 2) rfl
  have t0 := HT7.out.cell (i := 0) rfl
  have t1 := HT7.out.cell (i := 1) rfl
  have t2 := HT7.out.cell (i := 2) rfl
  go_wp2_with fail
  refine (implSame_r r.op r.n r.op r.n r.k r.k A3 A6 c3 c6 w7 HM7.out.1 HN7.out.1 0 w7.heap.size HM7.out.1 (Nat.le_refl _) HM7.out.rows hr1 hr2 hr3 hr4 (by omega)).mono ?_
  rintro e w8 ⟨rfl, hb8⟩
  rw [srNrefl]
  have HX8 := Lib.hid (HX7.out.below hb8 HX7.out.size)
  have HS8 := Lib.hid (HS7.out.below hb8 HS7.out.size)
  have HT8 := Lib.hid (HT7.out.below hb8 HT7.out.size)
  have HH8 := Lib.hid (HH7.out.up hb8)
  have HM8 := Lib.hid (HM7.out.up hb8)
  have HN8 := Lib.hid (HN7.out.up hb8)
  have HB8 := Lib.hid (HB7.out.trans (hb8.mono HB7.out.size))
  have HZ8 := Lib.hid (HZ7.out.below hb8 HZ7.out.size)
  have HK8 := Lib.hid (HK7.out.up hb8)
  clear hb8 HX7 HS7 HT7 HH7 HM7 HN7 HB7 s0 s1 s2 t0 t1 t2 hne
  cases okb with
  | false =>
    have s0 := HS8.out.cell (i := 0) rfl
    have s1 := HS8.out.cell (i := 1) rfl
    have s2 := HS8.out.cell (i := 2) rfl
    have t0 := HT8.out.cell (i := 0) rfl
    have t1 := HT8.out.cell (i := 1) rfl
    have t2 := HT8.out.cell (i := 2) rfl
    go_wp2_with fail
    refine (implSame_r r.op r.n r.op r.n r.k r.k A3 A6 c3 c6 w8 HM8.out.1 HN8.out.1 0 w8.heap.size HM8.out.1 (Nat.le_refl _) HM8.out.rows hr1 hr2 hr3 hr4 (by omega)).mono ?_
    rintro e w10 ⟨rfl, hb10⟩
    rw [srNrefl]
    have HB10 := Lib.hid (HB8.out.trans (hb10.mono HB8.out.size))
    clear hb10
    go_wp2_with fail
    go_ret
    exact ⟨rfl, HB10.out⟩
  | true =>
  obtain ⟨hput, hok1, hok2⟩ : putN (k.size + 1) ⟨op, n, k⟩ y ⟨op2, n2, k2⟩ = some r ∧ subOk ⟨op, n, k⟩ y ⟨op2, n2, k2⟩ = true ∧ ndIs r = true := by
    cases hsb : (subB ⟨op, n, k⟩ y ⟨op2, n2, k2⟩) with
    | none => have := HOK.out; rw [hsb] at this; cases this
    | some z =>
      have e := HR.out
      rw [hsb] at e
      have e : r = z := e
      obtain ⟨h1, h2, h3⟩ := subB_from hsb
      rw [e]
      exact ⟨h2, h1, h3⟩
  unfold subOk at hok1
  rw [Bool.and_eq_true, Bool.and_eq_true] at hok1
  have hfit : FitN ⟨op, n, k⟩ := fitN_is (S := firstS 8) hok1.1
  have hse : k.size ≤ 80 := by have h80 : k.size + 1 ≤ 80 := small_is (S := firstS 8) hok1.1; omega
  have hsx : k2.size ≤ 80 := by have h80 : k2.size + 1 ≤ 80 := small_is (S := firstS 8) hok1.2.1; omega
  obtain ⟨u, hu⟩ : ∃ u, u = cntN y op n k := ⟨_, rfl⟩
  have hul : u ≤ 81 := by rw [hu]; have := cntN_le y op n k; omega
  have HCNT := Lib.hid (show ∀ i : Nat, i < 8 → cntN (i : Int) r.op r.n r.k = u * cntN (i : Int) op2 n2 k2 + (if (i : Int) = y then 0 else cntN (i : Int) op n k) from fun i hi => by
    rw [hu]
    exact putN_cnt _ ⟨op, n, k⟩ r y ⟨op2, n2, k2⟩ (i : Int) (inVar_mk (by omega) (by omega)) hfit hput)
  have HSZ := Lib.hid (show r.k.size = k.size + u * k2.size by rw [hu]; exact putN_size _ ⟨op, n, k⟩ r hfit hput)
  have HU := Lib.hid hu
  have HKK := Lib.hid (show ∀ V, Below w8.heap.size w8 V → (V.cell? ⟨w1.heap.size, 0, none⟩ = some (Value.int .i64 op) ∧ V.cell? ⟨w1.heap.size, 1, none⟩ = some (Value.int .i64 n) ∧ V.cell? ⟨w1.heap.size, 2, none⟩ = some (Value.slice X k.len cx) ∧ V.cell? ⟨w1.heap.size + 1, 0, none⟩ = some (Value.int .i64 op2) ∧ V.cell? ⟨w1.heap.size + 1, 1, none⟩ = some (Value.int .i64 n2) ∧ V.cell? ⟨w1.heap.size + 1, 2, none⟩ = some (Value.slice X2 k2.len cx2) ∧ V.cell? ⟨w3.heap.size, 0, none⟩ = some (Value.int .i64 r.op) ∧ V.cell? ⟨w3.heap.size, 1, none⟩ = some (Value.int .i64 r.n) ∧ V.cell? ⟨w3.heap.size, 2, none⟩ = some (Value.slice A3 r.k.len c3)) ∧ Held V V.heap.size X k ∧ Held V V.heap.size X2 k2 ∧ Held V V.heap.size A3 r.k ∧ Below w.heap.size w V from fun V hV => by
    have h1 := HX8.out.below hV HX8.out.size
    have h2 := HZ8.out.below hV HZ8.out.size
    have h3 := HS8.out.below hV HS8.out.size
    exact ⟨⟨h1.cell rfl, h1.cell rfl, h1.cell rfl, h2.cell rfl, h2.cell rfl, h2.cell rfl, h3.cell rfl, h3.cell rfl, h3.cell rfl⟩, HH8.out.up hV, HK8.out.up hV, HM8.out.up hV, HB8.out.trans (hV.mono HB8.out.size)⟩)
  clear hput hok1 hok2 hfit hu
  obtain ⟨a0, a1, a2, b0, b1, b2, d0, d1, d2⟩ := (HKK.out w8 (Below.refl _ _)).1
  go_wp2_with fail
  refine (implCount_r op n y k X cx 0 w8.heap.size w8 HH8.out.1 (Nat.le_refl _) HH8.out.rows hk1 hk2 (by omega)).mono ?_
  rintro e w9 ⟨rfl, hb9⟩
  rw [← HU.out]
  have HB9 := Lib.hid hb9
  clear hb9 a0 a1 a2 b0 b1 b2 d0 d1 d2 HX8 HZ8 HS8 HT8 HH8 HK8 HM8 HN8 HB8
  go_wp2_with fail
  go_loopw [11] (fun a wr => ∃ (i : Nat), i ≤ 8 ∧ a = .int .i64 (i : Int) ∧ Below w8.heap.size w8 wr)
    (fun a _ => 8 - (intOf a).toNat)
  case atStart => exact ⟨0, by omega, rfl, HB9.out⟩
  case round =>
    clear HB9
    obtain ⟨wo, hwo⟩ : ∃ wo, wo = wr := ⟨_, rfl⟩
    rw [← hwo] at hrel ⊢
    clear hwo wr
    obtain ⟨wr, hwr⟩ : ∃ wr, wr = wo := ⟨_, rfl⟩
    rw [← hwr] at hrel ⊢
    clear hwr
    obtain ⟨i, hi, rfl, hbr⟩ := hrel
    have HBR := Lib.hid hbr
    obtain ⟨⟨a0, a1, a2, b0, b1, b2, d0, d1, d2⟩, hh, hk, hm, hbw⟩ := HKK.out wr hbr
    by_cases hlt : i < 8
    · have hii : (i : Int) < 8 := by omega
      have HC9 := Lib.hid (HCNT.out i hlt)
      obtain ⟨cx9, hcx9⟩ : ∃ z, z = cntN (i : Int) op2 n2 k2 := ⟨_, rfl⟩
      obtain ⟨ce9, hce9⟩ : ∃ z, z = cntN (i : Int) op n k := ⟨_, rfl⟩
      obtain ⟨cs9, hcs9⟩ : ∃ z, z = cntN (i : Int) r.op r.n r.k := ⟨_, rfl⟩
      have hx81 : cx9 ≤ 81 := by rw [hcx9]; have := cntN_le (i : Int) op2 n2 k2; omega
      have he81 : ce9 ≤ 81 := by rw [hce9]; have := cntN_le (i : Int) op n k; omega
      rw [← hcx9, ← hce9, ← hcs9] at HC9
      have HCX := Lib.hid hcx9
      have HCE := Lib.hid hce9
      have HCS := Lib.hid hcs9
      obtain ⟨m9, hm9⟩ : ∃ z, z = u * cx9 := ⟨_, rfl⟩
      have hml : m9 ≤ 6561 := by rw [hm9]; exact Nat.mul_le_mul hul hx81
      have hmul : ((u : Int) * (cx9 : Int)) = (m9 : Int) := by rw [hm9]; simp
      rw [← hm9] at HC9
      have HMUL := Lib.hid hmul
      have HRX := Lib.hid (implCount_r op2 n2 (i : Int) k2 X2 cx2 0 wr.heap.size wr hk.1 (Nat.le_refl _) hk.rows hk3 hk4 (by omega))
      rw [← HCX.out] at HRX
      clear hcx9 hce9 hcs9 hm9 hh hk hm hbw hbr hmul
      go_wp2_with fail
      refine HRX.out.mono ?_
      rintro e v1 ⟨rfl, hv1⟩
      have HB1 := Lib.hid (HBR.out.trans (hv1.mono HBR.out.size))
      clear hv1 a0 a1 a2 b0 b1 b2 d0 d1 d2 HRX
      obtain ⟨⟨a0, a1, a2, b0, b1, b2, d0, d1, d2⟩, hh, hk, hm, hbw⟩ := HKK.out v1 HB1.out
      have hmul := HMUL.out
      by_cases hiy : (i : Int) = y
      · have hne : ((i : Int) != y) = false := by simpa using hiy
        have HE9 := Lib.hid (show cs9 = m9 by rw [HC9.out, if_pos hiy, Nat.add_zero])
        have HRS := Lib.hid (implCount_r r.op r.n (i : Int) r.k A3 c3 0 v1.heap.size v1 hm.1 (Nat.le_refl _) hm.rows hr1 hr2 (by omega))
        rw [← HCS.out, HE9.out] at HRS
        clear hh hk hm hbw hiy
        go_wp2_with fail
        refine HRS.out.mono ?_
        rintro e v2 ⟨rfl, hv2⟩
        have HB2 := Lib.hid (HB1.out.trans (hv2.mono HB1.out.size))
        have hnn : ((m9 : Int) != (m9 : Int)) = false := by simp
        clear hv2 a0 a1 a2 b0 b1 b2 d0 d1 d2 HRS hne
        go_wp2_with fail
        go_roundw
        case rel => exact ⟨i + 1, by omega, by go_num, HB2.out⟩
        case measure => simp [intOf]; omega
      · have hne : ((i : Int) != y) = true := by simpa using hiy
        have HE9 := Lib.hid (show cs9 = m9 + ce9 by rw [HC9.out, if_neg hiy])
        have HRE := Lib.hid (implCount_r op n (i : Int) k X cx 0 v1.heap.size v1 hh.1 (Nat.le_refl _) hh.rows hk1 hk2 (by omega))
        rw [← HCE.out] at HRE
        clear hh hk hm hbw hiy
        go_wp2_with fail
        refine HRE.out.mono ?_
        rintro e v2 ⟨rfl, hv2⟩
        have HB2 := Lib.hid (HB1.out.trans (hv2.mono HB1.out.size))
        clear hv2 a0 a1 a2 b0 b1 b2 d0 d1 d2 HRE hne hmul
        obtain ⟨⟨a0, a1, a2, b0, b1, b2, d0, d1, d2⟩, hh, hk, hm, hbw⟩ := HKK.out v2 HB2.out
        have HRS := Lib.hid (implCount_r r.op r.n (i : Int) r.k A3 c3 0 v2.heap.size v2 hm.1 (Nat.le_refl _) hm.rows hr1 hr2 (by omega))
        rw [← HCS.out, HE9.out] at HRS
        clear hh hk hm hbw
        go_wp2_with fail
        refine HRS.out.mono ?_
        rintro e v3 ⟨rfl, hv3⟩
        have HB3 := Lib.hid (HB2.out.trans (hv3.mono HB2.out.size))
        have hnn : (((m9 + ce9 : Nat) : Int) != (m9 : Int) + (ce9 : Int)) = false := by simp
        clear hv3 a0 a1 a2 b0 b1 b2 d0 d1 d2 HRS
        go_wp2_with fail
        go_roundw
        case rel => exact ⟨i + 1, by omega, by go_num, HB3.out⟩
        case measure => simp [intOf]; omega
    · have hii : ¬ (i : Int) < 8 := by omega
      obtain ⟨m9, hm9⟩ : ∃ z, z = u * k2.size := ⟨_, rfl⟩
      have hml : m9 ≤ 6480 := by rw [hm9]; exact Nat.mul_le_mul hul hsx
      have hsub : (((1 + k2.size : Nat) : Int)) - 1 = (k2.size : Int) := by omega
      have hmul : ((u : Int) * (k2.size : Int)) = (m9 : Int) := by rw [hm9]; simp
      have hend : (((1 + r.k.size : Nat) : Int) == ((1 + k.size : Nat) : Int) + (m9 : Int)) = true := by rw [HSZ.out, ← hm9]; simp; omega
      have HFIN := Lib.hid (show (1 + (r.k.size : Int) == IntKind.i64.wrap (1 + (k.size : Int) + IntKind.i64.wrap ((u : Int) * IntKind.i64.wrap (1 + (k2.size : Int) - 1)))) = true from by
        have hw : ∀ y : Int, 0 ≤ y → y ≤ 9223372036854775807 → IntKind.i64.wrap y = y := fun y g1 g2 => by rw [IntKind.wrap_i64]; omega
        rw [show (1 + (k2.size : Int) - 1) = (k2.size : Int) by omega, hw (k2.size : Int) (by omega) (by omega), hmul, hw (m9 : Int) (by omega) (by omega), hw (1 + (k.size : Int) + (m9 : Int)) (by omega) (by omega), HSZ.out, ← hm9, beq_iff_eq]
        omega)
      have hsr : r.k.size ≤ 7000 := by rw [HSZ.out, ← hm9]; omega
      have hbd : Below wr.heap.size wr wr.drew := (Below.refl _ _).drew
      have HDR := Lib.hid (HBR.out.trans (hbd.mono HBR.out.size))
      have s0 := (HKK.out _ HDR.out).1
      clear hm9 a0 a1 a2 b0 b1 b2 d0 d1 d2 hh hk hm hbw hbr hbd hi
      go_upto_region 17 with fail
      refine wp_region_held_drew (S := fun w' => w'.cell? ⟨w1.heap.size, 0, none⟩ = some (Value.int .i64 op) ∧ w'.cell? ⟨w1.heap.size, 1, none⟩ = some (Value.int .i64 n) ∧ w'.cell? ⟨w1.heap.size, 2, none⟩ = some (Value.slice X k.len cx) ∧ w'.cell? ⟨w1.heap.size + 1, 0, none⟩ = some (Value.int .i64 op2) ∧ w'.cell? ⟨w1.heap.size + 1, 1, none⟩ = some (Value.int .i64 n2) ∧ w'.cell? ⟨w1.heap.size + 1, 2, none⟩ = some (Value.slice X2 k2.len cx2) ∧ w'.cell? ⟨w3.heap.size, 0, none⟩ = some (Value.int .i64 r.op) ∧ w'.cell? ⟨w3.heap.size, 1, none⟩ = some (Value.int .i64 r.n) ∧ w'.cell? ⟨w3.heap.size, 2, none⟩ = some (Value.slice A3 r.k.len c3)) (by kernel_rfl) s0 (fun hHeld => ?_)
      refine takeW 0 (v := ?vx1_0) rfl (by kernel_rfl) (fun _ _ _ h => h) (by rfl) (by assumption) ?yx1_0 ?rx1_0
      case yx1_0 => (intro w' hSw; (try dsimp only at hSw); go_simp; try with_reducible rfl)
      try simp only [Act.put, List.setIfInBounds_toArray, List.set_cons_zero, List.set_cons_succ, List.getElem_toArray, List.getElem_cons_zero]
      refine takeW 2 (v := ?vx1_2) rfl (by kernel_rfl) (fun _ _ _ h => h) (by rfl) (by assumption) ?yx1_2 ?rx1_2
      case yx1_2 => (intro w' hSw; (try dsimp only at hSw); go_simp; try with_reducible rfl)
      try simp only [Act.put, List.setIfInBounds_toArray, List.set_cons_zero, List.set_cons_succ, List.getElem_toArray, List.getElem_cons_succ, List.getElem_cons_zero]
      refine takeW 4 (v := ?vx1_4) rfl (by kernel_rfl) (fun _ _ _ h => h) (by rfl) (by assumption) ?yx1_4 ?rx1_4
      case yx1_4 => (intro w' hSw; (try dsimp only at hSw); go_simp; try with_reducible rfl)
      try simp only [Act.put, List.setIfInBounds_toArray, List.set_cons_zero, List.set_cons_succ, List.getElem_toArray, List.getElem_cons_succ, List.getElem_cons_zero]
      refine takeW 5 (v := ?vx1_5) rfl (by kernel_rfl) (fun _ _ _ h => h) (by rfl) (by assumption) ?yx1_5 ?rx1_5
      case yx1_5 => (intro w' hSw; (try dsimp only at hSw); go_simp; try with_reducible rfl)
      try simp only [Act.put, List.setIfInBounds_toArray, List.set_cons_zero, List.set_cons_succ, List.getElem_toArray, List.getElem_cons_succ, List.getElem_cons_zero]
      refine wpAnyH_ready (rs := [1]) (by kernel_rfl) (by simp) ?_
      refine AllReadyH.cons rfl (fun K hK => ?_) AllReadyH.nil
      go_simp
      refine (implSize_r r.op r.n r.k A3 c3 0 wr.drew.heap.size wr.drew ((HKK.out _ HDR.out).2.2.2.1).1 (Nat.le_refl _) ((HKK.out _ HDR.out).2.2.2.1).rows hr1 hr2 (by omega)).mono ?_
      rintro e v1 ⟨rfl, hv1⟩
      have HD1 := Lib.hid (show Below w8.heap.size w8 v1 from HDR.out.trans (hv1.mono HDR.out.size))
      have st1 := (HKK.out _ HD1.out).1
      clear hv1
      refine hK.out _ _ (st1) (fun hHeldB1 => ?_)
      clear hK K
      try simp only [Act.put, List.setIfInBounds_toArray, List.set_cons_zero, List.set_cons_succ, List.getElem_toArray, List.getElem_cons_succ, List.getElem_cons_zero]
      refine wpAnyH_ready (rs := [3]) (by kernel_rfl) (by simp) ?_
      refine AllReadyH.cons rfl (fun K hK => ?_) AllReadyH.nil
      go_simp
      refine (implSize_r op n k X cx 0 v1.heap.size v1 ((HKK.out _ HD1.out).2.1).1 (Nat.le_refl _) ((HKK.out _ HD1.out).2.1).rows hk1 hk2 (by omega)).mono ?_
      rintro e v2 ⟨rfl, hv2⟩
      have HD2 := Lib.hid (show Below w8.heap.size w8 v2 from HD1.out.trans (hv2.mono HD1.out.size))
      have st2 := (HKK.out _ HD2.out).1
      clear hv2
      refine hK.out _ _ (st2) (fun hHeldB2 => ?_)
      clear hK K
      try simp only [Act.put, List.setIfInBounds_toArray, List.set_cons_zero, List.set_cons_succ, List.getElem_toArray, List.getElem_cons_succ, List.getElem_cons_zero]
      refine wpAnyH_ready (rs := [6]) (by kernel_rfl) (by simp) ?_
      refine AllReadyH.cons rfl (fun K hK => ?_) AllReadyH.nil
      go_simp
      refine (implSize_r op2 n2 k2 X2 cx2 0 v2.heap.size v2 ((HKK.out _ HD2.out).2.2.1).1 (Nat.le_refl _) ((HKK.out _ HD2.out).2.2.1).rows hk3 hk4 (by omega)).mono ?_
      rintro e v3 ⟨rfl, hv3⟩
      have HD3 := Lib.hid (show Below w8.heap.size w8 v3 from HD2.out.trans (hv3.mono HD2.out.size))
      have st3 := (HKK.out _ HD3.out).1
      clear hv3
      refine hK.out _ _ (st3) (fun hHeldB3 => ?_)
      clear hK K
      try simp only [Act.put, List.setIfInBounds_toArray, List.set_cons_zero, List.set_cons_succ, List.getElem_toArray, List.getElem_cons_succ, List.getElem_cons_zero]
      refine takeW 7 (v := ?vx4_7) rfl (by kernel_rfl) (fun _ _ _ h => h) (by rfl) (by assumption) ?yx4_7 ?rx4_7
      case yx4_7 => (intro w' hSw; (try dsimp only at hSw); go_simp; try with_reducible rfl)
      try simp only [Act.put, List.setIfInBounds_toArray, List.set_cons_zero, List.set_cons_succ, List.getElem_toArray, List.getElem_cons_succ, List.getElem_cons_zero]
      refine takeW 8 (v := ?vx4_8) rfl (by kernel_rfl) (fun _ _ _ h => h) (by rfl) (by assumption) ?yx4_8 ?rx4_8
      case yx4_8 => (intro w' hSw; (try dsimp only at hSw); go_simp; try with_reducible rfl)
      try simp only [Act.put, List.setIfInBounds_toArray, List.set_cons_zero, List.set_cons_succ, List.getElem_toArray, List.getElem_cons_succ, List.getElem_cons_zero]
      refine takeW 9 (v := ?vx4_9) rfl (by kernel_rfl) (fun _ _ _ h => h) (by rfl) (by assumption) ?yx4_9 ?rx4_9
      case yx4_9 => (intro w' hSw; (try dsimp only at hSw); go_simp; try with_reducible rfl)
      try simp only [Act.put, List.setIfInBounds_toArray, List.set_cons_zero, List.set_cons_succ, List.getElem_toArray, List.getElem_cons_succ, List.getElem_cons_zero]
      refine takeW 10 (v := ?vx4_10) rfl (by kernel_rfl) (fun _ _ _ h => h) (by rfl) (by assumption) ?yx4_10 ?rx4_10
      case yx4_10 => (intro w' hSw; (try dsimp only at hSw); go_simp; try with_reducible rfl)
      try simp only [Act.put, List.setIfInBounds_toArray, List.set_cons_zero, List.set_cons_succ, List.getElem_toArray, List.getElem_cons_succ, List.getElem_cons_zero]
      refine takeW 11 (v := ?vx4_11) rfl (by kernel_rfl) (fun _ _ _ h => h) (by rfl) (by assumption) ?yx4_11 ?rx4_11
      case yx4_11 => (intro w' hSw; (try dsimp only at hSw); go_simp; try with_reducible rfl)
      try simp only [Act.put, List.setIfInBounds_toArray, List.set_cons_zero, List.set_cons_succ, List.getElem_toArray, List.getElem_cons_succ, List.getElem_cons_zero]
      refine wpAnyH_done (by kernel_rfl) ?_ _
      clear st1 st2 st3
      have HRE := Lib.hid (HKK.out _ HD3.out).2.2.2.2
      go_wp2_with fail
      go_ret
      exact ⟨congrArg (fun b => Ending.returned (Value.bool b)) HFIN.out, HRE.out⟩
end Go.Proofs.Ytjlaabipgppijaa
