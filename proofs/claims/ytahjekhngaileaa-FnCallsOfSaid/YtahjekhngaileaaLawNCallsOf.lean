/-
  The walk of the law FnCallsOf: true at every input.
-/
import Derived.Test.YtahjekhngaileaaDrawE
import Derived.Test.YtahjekhngaileaaTreeP
import Derived.Test.YtahjekhngaileaaAm
import Derived.Test.YtahjekhngaileaaCallsL
import Derived.Test.YtahjekhngaileaaCalls
namespace Go.Proofs.Ytahjekhngaileaa
open Go.RowKit Go.Shelf
set_option maxRecDepth 100000

set_option maxHeartbeats 4000000 in
theorem law_NCallsOf (bs : List Nat) (A : Option Addr) (c : Nat) (w : World) (hl : LiesY w 0 w.heap.size A bs) (hlc : bs.length ≤ c) (hc : c ≤ maxLen) :
    Calls Try.prog 6 #[.slice A bs.length c] w (Gives (.bool true) w) := by
  have HC := Lib.hid (drawCallsOf_any A c bs w hl hlc hc)
  unfold maxLen at hc
  by_cases hsz : bs.length ≤ 1048576
  rotate_left
  · have hgt : 1048576 < bs.length := by omega
    go_enter Try.func6, Try.ntmps6
    go_wp2_with fail
    go_ret
    exact ⟨rfl, Below.refl _ _⟩
  clear hl
  go_enter Try.func6, Try.ntmps6
  go_wp2_with fail
  refine HC.out.mono ?_
  rintro e w1 ⟨op, n, k, X, cx, rfl, ⟨bl, hi, ht, hs⟩, hb⟩
  obtain ⟨_, _, hX, hk1, hk2⟩ := ht.slice
  injection hX with hX1 hX2 hX3
  subst hX3
  obtain ⟨W, hW⟩ : ∃ W, W = w1.alloc (Obj.cells #[.int .i64 op, .int .i64 n, .slice X k.len cx] 25) := ⟨_, rfl⟩
  have hbW : Below w1.heap.size w1 W := by rw [hW]; exact (Below.refl _ _).alloc (Nat.le_refl _) _
  have HX := Lib.hid (show Row W w1.heap.size 25 #[.int .i64 op, .int .i64 n, .slice X k.len cx] by rw [hW]; exact Row.fresh _ _ _)
  have HH := Lib.hid ((ht.held).below hbW (Nat.le_refl _))
  have HB := Lib.hid (hb.trans (hbW.mono hb.size))
  have HZ := Lib.hid hbW.size
  have hkl : k.len ≤ 1048000 := Nat.le_trans (Fo.len_le_size k) hs
  clear hb hbW ht hX1 HC
  go_upto_region 4 with fail
  rw [← hW]
  clear hW
  have q0 := HX.out.cell (i := 0) rfl
  have q1 := HX.out.cell (i := 1) rfl
  have q2 := HX.out.cell (i := 2) rfl
  go_wp2_with fail
  refine (implCalls_r op n k X cx 0 w1.heap.size W HH.out.1 HZ.out HH.out.rows hk1 hk2 (by omega)).mono ?_
  rintro e w2 ⟨v2, rfl, ho2, hb2⟩
  obtain ⟨S, hS⟩ : ∃ S, S = callB ⟨op, n, k⟩ := ⟨_, rfl⟩
  rw [← hS] at ho2
  obtain ⟨zs, hzs⟩ : ∃ zs, zs = numsUpto S 8 := ⟨_, rfl⟩
  have hzi : ∀ x ∈ zs, I64 x := fun x hx => numsUpto_small _ 8 x (Nat.le_refl _) (hzs ▸ hx)
  have hzl : zs.length ≤ 8 := by rw [hzs]; exact numsUpto_len _ 8
  rw [← hzs] at ho2
  obtain ⟨A2, c2, rfl, hI2⟩ := own_ints ho2 hzi
  have hx2 := HX.out.below hb2 HX.out.size
  have HX2 := Lib.hid hx2
  have HH2 := Lib.hid (HH.out.below hb2 HZ.out)
  have HB2 := Lib.hid (HB.out.trans (hb2.mono HB.out.size))
  have HZ2 := Lib.hid (Nat.le_trans HZ.out hb2.size)
  have HI2 := Lib.hid (show LiesI w2 0 w2.heap.size A2 zs from hI2.mono_ (Nat.zero_le _) (Nat.le_refl _))
  have HS := Lib.hid hS
  have HZS := Lib.hid hzs
  have HZI := Lib.hid hzi
  clear q0 q1 q2 hb2 ho2 hI2 HX HH HB HZ hS hzs hzi
  have q0 := hx2.cell (i := 0) rfl
  have q1 := hx2.cell (i := 1) rfl
  have q2 := hx2.cell (i := 2) rfl
  clear hx2
  go_wp2_with fail
  refine (specCalls_any op n k X cx w2 (HH2.out.1.mono_ (Nat.le_refl _) HZ2.out) (by omega)).mono ?_
  rintro e w3 ⟨v3, rfl, ho3, hb3⟩
  rw [← HS.out, ← HZS.out] at ho3
  obtain ⟨A3, c3, rfl, hI3⟩ := own_ints ho3 HZI.out
  have HX3 := Lib.hid (HX2.out.below hb3 HX2.out.size)
  have HH3 := Lib.hid (HH2.out.below hb3 HZ2.out)
  have HB3 := Lib.hid (HB2.out.trans (hb3.mono HB2.out.size))
  have HZ3 := Lib.hid (Nat.le_trans HZ2.out hb3.size)
  have HI3 := Lib.hid (HI2.out.up hb3)
  have HJ3 := Lib.hid (show LiesI w3 0 w3.heap.size A3 zs from hI3.mono_ (Nat.zero_le _) (Nat.le_refl _))
  clear q0 q1 q2 hb3 ho3 hI3 HX2 HH2 HB2 HZ2 HI2
  go_wp2_with fail
  refine (amInts_any zs zs A2 A3 c2 c3 w3 HI3.out HJ3.out (by omega) (by omega)).mono ?_
  rintro e w4 ⟨rfl, hb4⟩
  rw [show decide (zs = zs) = true by simp]
  have HX4 := Lib.hid (HX3.out.below hb4 HX3.out.size)
  have HH4 := Lib.hid (HH3.out.below hb4 HZ3.out)
  have HB4 := Lib.hid (HB3.out.trans (hb4.mono HB3.out.size))
  have HZ4 := Lib.hid (Nat.le_trans HZ3.out hb4.size)
  have HI4 := Lib.hid (HI3.out.up hb4)
  clear hb4 HX3 HH3 HB3 HZ3 HI3 HJ3
  go_wp2_with fail
  go_loopw [5] (fun f wr => ∃ (v : Nat), v ≤ 8 ∧ f = .int .i64 (v : Int) ∧ Row wr w1.heap.size 25 #[.int .i64 op, .int .i64 n, .slice X k.len cx] ∧ Held wr w1.heap.size X k ∧ Below w.heap.size w wr ∧ w1.heap.size ≤ wr.heap.size ∧ LiesI wr 0 wr.heap.size A2 zs)
    (fun f _ => 8 - (intOf f).toNat)
  case atStart => exact ⟨0, by omega, rfl, HX4.out, HH4.out, HB4.out, HZ4.out, HI4.out⟩
  case round =>
    clear HX4 HH4 HB4 HZ4 HI4
    obtain ⟨v, hv, rfl, hx, hh, hb, hz, hI⟩ := hrel
    obtain ⟨wo, rfl⟩ : ∃ wo, wo = wr := ⟨_, rfl⟩
    have q0 := hx.cell (i := 0) rfl
    have q1 := hx.cell (i := 1) rfl
    have q2 := hx.cell (i := 2) rfl
    by_cases hv8 : v < 8
    rotate_left
    · go_wp2_with fail
      go_ret
      exact ⟨rfl, hb⟩
    have hv8d : decide ((v : Int) < 8) = true := by simp; omega
    have HX := Lib.hid hx
    have HH := Lib.hid hh
    have HB := Lib.hid hb
    have HZ := Lib.hid hz
    have HI := Lib.hid hI
    clear hx hh hb hz hI
    obtain ⟨s0, hs0⟩ : ∃ s0, s0 = ownCall op n v := ⟨_, rfl⟩
    have HS0 := Lib.hid (show (s0 || callF k v) = S v by rw [HS.out, hs0]; rfl)
    have h9 : (op = 3 ∧ n = (v : Int) ∧ s0 = true) ∨ (op = 3 ∧ n ≠ (v : Int) ∧ s0 = false) ∨ (op ≠ 3 ∧ s0 = false) := by
      rw [hs0]
      unfold ownCall
      by_cases h1 : op = 3 <;> by_cases h2 : n = (v : Int) <;> simp [h1, h2]
    clear hs0
    rcases h9 with ⟨h1, h2, rfl⟩ | ⟨h1, h2, rfl⟩ | ⟨h1, rfl⟩
    rotate_left
    rotate_left
    · have h3 : (op == 3) = false := by simpa using h1
      clear h1
      go_wp2_with fail
      clear h3 q0 q1 q2
      go_loopw [6, 7] (fun s i wr => ∃ (j : Nat) (t : Bool), j ≤ k.len ∧ i = .int .i64 (j : Int) ∧ s = .bool t ∧ (t || callF (k.drop j) v) = S v ∧ Row wr w1.heap.size 25 #[.int .i64 op, .int .i64 n, .slice X k.len cx] ∧ Held wr w1.heap.size X k ∧ Below w.heap.size w wr ∧ w1.heap.size ≤ wr.heap.size ∧ LiesI wr 0 wr.heap.size A2 zs)
        (fun _ i _ => k.len - (intOf i).toNat)
      case atStart => exact ⟨0, _, by omega, rfl, rfl, by rw [Fo.drop_zero]; exact HS0.out, HX.out, HH.out, HB.out, HZ.out, HI.out⟩
      case round =>
        clear HX HH HB HZ HI HS0
        obtain ⟨j, t, hj, rfl, rfl, ht, hx, hh, hb, hz, hI⟩ := hrel
        have q0 := hx.cell (i := 0) rfl
        have q1 := hx.cell (i := 1) rfl
        have q2 := hx.cell (i := 2) rfl
        have HX := Lib.hid hx
        have HB := Lib.hid hb
        have HI := Lib.hid hI
        clear hx hb hI
        by_cases hlt : j < k.len
        · obtain ⟨o1, m1, k1, e1, e2, e3⟩ := Fo.drop_of_lt k j hlt
          obtain ⟨b, o, A', c', rfl, hbb, hi1, g0, g1, g2, h1, h2, hh1⟩ := hh.kid e1
          rw [callF_cons e1] at ht
          have HH := Lib.hid hh
          clear hh e1 e3
          cases t with
          | true =>
            have HT := Lib.hid (show (true || callF (k.drop (j + 1)) v) = S v by simpa using ht)
            clear ht
            go_wp2_with fail
            go_roundw
            case rel => exact ⟨j + 1, true, by omega, by go_num, rfl, HT.out, HX.out, HH.out, HB.out, hz, HI.out⟩
            case measure => simp [intOf]; omega
          | false =>
            rw [Bool.false_or] at ht
            obtain ⟨tb, htb⟩ : ∃ tb, tb = callB ⟨o1, m1, k1⟩ v := ⟨_, rfl⟩
            rw [← htb] at ht
            have HT := Lib.hid ht
            clear ht
            go_wp2_with fail
            refine (implCalls_r o1 m1 k1 A' c' 0 w1.heap.size wr hh1.1 hz hh1.rows h1 h2 (by omega)).mono ?_
            rintro e w5 ⟨v5, rfl, ho5, hb5⟩
            obtain ⟨ys, hys⟩ : ∃ ys, ys = numsUpto (callB ⟨o1, m1, k1⟩) 8 := ⟨_, rfl⟩
            rw [← hys] at ho5
            have hyl : ys.length ≤ 8 := by rw [hys]; exact numsUpto_len _ 8
            obtain ⟨A5, c5, rfl, hI5⟩ := own_ints ho5 (fun x hx => numsUpto_small _ 8 x (Nat.le_refl _) (hys ▸ hx))
            have HD := Lib.hid (show decide ((v : Int) ∈ ys) = tb by rw [hys, htb]; exact nums_dec _ hv8)
            have HX5 := Lib.hid (HX.out.below hb5 HX.out.size)
            have HH5 := Lib.hid (HH.out.below hb5 hz)
            have HB5 := Lib.hid (HB.out.trans (hb5.mono HB.out.size))
            have HZ5 := Lib.hid (Nat.le_trans hz hb5.size)
            have HI5 := Lib.hid (HI.out.up hb5)
            have HJ5 := Lib.hid (hI5.mono_ (L' := 0) (Nat.zero_le _) (Nat.le_refl _))
            clear hb5 ho5 hI5 HX HH HB HI hys htb hh1 g0 g1 g2 q0 q1 q2
            go_wp2_with fail
            refine (amIn_any ys A5 c5 (v : Int) w5 HJ5.out (by omega)).mono ?_
            rintro e w6 ⟨rfl, hb6⟩
            rw [HD.out]
            have HX6 := Lib.hid (HX5.out.below hb6 HX5.out.size)
            have HH6 := Lib.hid (HH5.out.below hb6 HZ5.out)
            have HB6 := Lib.hid (HB5.out.trans (hb6.mono HB5.out.size))
            have HZ6 := Lib.hid (Nat.le_trans HZ5.out hb6.size)
            have HI6 := Lib.hid (HI5.out.up hb6)
            clear hb6 HX5 HH5 HB5 HZ5 HI5 HJ5 HD
            go_wp2_with fail
            go_roundw
            case rel => exact ⟨j + 1, _, by omega, by go_num, rfl, HT.out, HX6.out, HH6.out, HB6.out, HZ6.out, HI6.out⟩
            case measure => simp [intOf]; omega
        · have e9 : j = k.len := by omega
          have ht9 : t = S v := by rw [e9, Fo.drop_len] at ht; simpa [callF] using ht
          subst ht9
          have HH := Lib.hid hh
          clear ht hh
          go_wp2_with fail
          refine (amIn_any zs A2 c2 (v : Int) wr HI.out (by omega)).mono ?_
          rintro e w6 ⟨rfl, hb6⟩
          rw [show decide ((v : Int) ∈ zs) = S v by rw [HZS.out]; exact nums_dec S hv8]
          obtain ⟨sv, hsv⟩ : ∃ sv, S v = sv := ⟨_, rfl⟩
          rw [hsv]
          have hne : (sv != sv) = false := by simp
          have HX6 := Lib.hid (HX.out.below hb6 HX.out.size)
          have HH6 := Lib.hid (HH.out.below hb6 hz)
          have HB6 := Lib.hid (HB.out.trans (hb6.mono HB.out.size))
          have HZ6 := Lib.hid (Nat.le_trans hz hb6.size)
          have HI6 := Lib.hid (HI.out.up hb6)
          clear hb6 HX HH HB HI hsv q0 q1 q2
          go_wp2_with fail
          go_roundw
          case rel => exact ⟨v + 1, by omega, by go_num, HX6.out, HH6.out, HB6.out, HZ6.out, HI6.out⟩
          case measure => simp [intOf]; omega
    · have h3 : (op == 3) = true := by simpa using h1
      have h4 : (n == (v : Int)) = true := by simpa using h2
      clear h1 h2
      go_wp2_with fail
      clear h3 h4 q0 q1 q2
      go_loopw [6, 7] (fun s i wr => ∃ (j : Nat) (t : Bool), j ≤ k.len ∧ i = .int .i64 (j : Int) ∧ s = .bool t ∧ (t || callF (k.drop j) v) = S v ∧ Row wr w1.heap.size 25 #[.int .i64 op, .int .i64 n, .slice X k.len cx] ∧ Held wr w1.heap.size X k ∧ Below w.heap.size w wr ∧ w1.heap.size ≤ wr.heap.size ∧ LiesI wr 0 wr.heap.size A2 zs)
        (fun _ i _ => k.len - (intOf i).toNat)
      case atStart => exact ⟨0, _, by omega, rfl, rfl, by rw [Fo.drop_zero]; exact HS0.out, HX.out, HH.out, HB.out, HZ.out, HI.out⟩
      case round =>
        clear HX HH HB HZ HI HS0
        obtain ⟨j, t, hj, rfl, rfl, ht, hx, hh, hb, hz, hI⟩ := hrel
        have q0 := hx.cell (i := 0) rfl
        have q1 := hx.cell (i := 1) rfl
        have q2 := hx.cell (i := 2) rfl
        have HX := Lib.hid hx
        have HB := Lib.hid hb
        have HI := Lib.hid hI
        clear hx hb hI
        by_cases hlt : j < k.len
        · obtain ⟨o1, m1, k1, e1, e2, e3⟩ := Fo.drop_of_lt k j hlt
          obtain ⟨b, o, A', c', rfl, hbb, hi1, g0, g1, g2, h1, h2, hh1⟩ := hh.kid e1
          rw [callF_cons e1] at ht
          have HH := Lib.hid hh
          clear hh e1 e3
          cases t with
          | true =>
            have HT := Lib.hid (show (true || callF (k.drop (j + 1)) v) = S v by simpa using ht)
            clear ht
            go_wp2_with fail
            go_roundw
            case rel => exact ⟨j + 1, true, by omega, by go_num, rfl, HT.out, HX.out, HH.out, HB.out, hz, HI.out⟩
            case measure => simp [intOf]; omega
          | false =>
            rw [Bool.false_or] at ht
            obtain ⟨tb, htb⟩ : ∃ tb, tb = callB ⟨o1, m1, k1⟩ v := ⟨_, rfl⟩
            rw [← htb] at ht
            have HT := Lib.hid ht
            clear ht
            go_wp2_with fail
            refine (implCalls_r o1 m1 k1 A' c' 0 w1.heap.size wr hh1.1 hz hh1.rows h1 h2 (by omega)).mono ?_
            rintro e w5 ⟨v5, rfl, ho5, hb5⟩
            obtain ⟨ys, hys⟩ : ∃ ys, ys = numsUpto (callB ⟨o1, m1, k1⟩) 8 := ⟨_, rfl⟩
            rw [← hys] at ho5
            have hyl : ys.length ≤ 8 := by rw [hys]; exact numsUpto_len _ 8
            obtain ⟨A5, c5, rfl, hI5⟩ := own_ints ho5 (fun x hx => numsUpto_small _ 8 x (Nat.le_refl _) (hys ▸ hx))
            have HD := Lib.hid (show decide ((v : Int) ∈ ys) = tb by rw [hys, htb]; exact nums_dec _ hv8)
            have HX5 := Lib.hid (HX.out.below hb5 HX.out.size)
            have HH5 := Lib.hid (HH.out.below hb5 hz)
            have HB5 := Lib.hid (HB.out.trans (hb5.mono HB.out.size))
            have HZ5 := Lib.hid (Nat.le_trans hz hb5.size)
            have HI5 := Lib.hid (HI.out.up hb5)
            have HJ5 := Lib.hid (hI5.mono_ (L' := 0) (Nat.zero_le _) (Nat.le_refl _))
            clear hb5 ho5 hI5 HX HH HB HI hys htb hh1 g0 g1 g2 q0 q1 q2
            go_wp2_with fail
            refine (amIn_any ys A5 c5 (v : Int) w5 HJ5.out (by omega)).mono ?_
            rintro e w6 ⟨rfl, hb6⟩
            rw [HD.out]
            have HX6 := Lib.hid (HX5.out.below hb6 HX5.out.size)
            have HH6 := Lib.hid (HH5.out.below hb6 HZ5.out)
            have HB6 := Lib.hid (HB5.out.trans (hb6.mono HB5.out.size))
            have HZ6 := Lib.hid (Nat.le_trans HZ5.out hb6.size)
            have HI6 := Lib.hid (HI5.out.up hb6)
            clear hb6 HX5 HH5 HB5 HZ5 HI5 HJ5 HD
            go_wp2_with fail
            go_roundw
            case rel => exact ⟨j + 1, _, by omega, by go_num, rfl, HT.out, HX6.out, HH6.out, HB6.out, HZ6.out, HI6.out⟩
            case measure => simp [intOf]; omega
        · have e9 : j = k.len := by omega
          have ht9 : t = S v := by rw [e9, Fo.drop_len] at ht; simpa [callF] using ht
          subst ht9
          have HH := Lib.hid hh
          clear ht hh
          go_wp2_with fail
          refine (amIn_any zs A2 c2 (v : Int) wr HI.out (by omega)).mono ?_
          rintro e w6 ⟨rfl, hb6⟩
          rw [show decide ((v : Int) ∈ zs) = S v by rw [HZS.out]; exact nums_dec S hv8]
          obtain ⟨sv, hsv⟩ : ∃ sv, S v = sv := ⟨_, rfl⟩
          rw [hsv]
          have hne : (sv != sv) = false := by simp
          have HX6 := Lib.hid (HX.out.below hb6 HX.out.size)
          have HH6 := Lib.hid (HH.out.below hb6 hz)
          have HB6 := Lib.hid (HB.out.trans (hb6.mono HB.out.size))
          have HZ6 := Lib.hid (Nat.le_trans hz hb6.size)
          have HI6 := Lib.hid (HI.out.up hb6)
          clear hb6 HX HH HB HI hsv q0 q1 q2
          go_wp2_with fail
          go_roundw
          case rel => exact ⟨v + 1, by omega, by go_num, HX6.out, HH6.out, HB6.out, HZ6.out, HI6.out⟩
          case measure => simp [intOf]; omega
    · have h3 : (op == 3) = true := by simpa using h1
      have h4 : (n == (v : Int)) = false := by simpa using h2
      clear h1 h2
      go_wp2_with fail
      clear h3 h4 q0 q1 q2
      go_loopw [6, 7] (fun s i wr => ∃ (j : Nat) (t : Bool), j ≤ k.len ∧ i = .int .i64 (j : Int) ∧ s = .bool t ∧ (t || callF (k.drop j) v) = S v ∧ Row wr w1.heap.size 25 #[.int .i64 op, .int .i64 n, .slice X k.len cx] ∧ Held wr w1.heap.size X k ∧ Below w.heap.size w wr ∧ w1.heap.size ≤ wr.heap.size ∧ LiesI wr 0 wr.heap.size A2 zs)
        (fun _ i _ => k.len - (intOf i).toNat)
      case atStart => exact ⟨0, _, by omega, rfl, rfl, by rw [Fo.drop_zero]; exact HS0.out, HX.out, HH.out, HB.out, HZ.out, HI.out⟩
      case round =>
        clear HX HH HB HZ HI HS0
        obtain ⟨j, t, hj, rfl, rfl, ht, hx, hh, hb, hz, hI⟩ := hrel
        have q0 := hx.cell (i := 0) rfl
        have q1 := hx.cell (i := 1) rfl
        have q2 := hx.cell (i := 2) rfl
        have HX := Lib.hid hx
        have HB := Lib.hid hb
        have HI := Lib.hid hI
        clear hx hb hI
        by_cases hlt : j < k.len
        · obtain ⟨o1, m1, k1, e1, e2, e3⟩ := Fo.drop_of_lt k j hlt
          obtain ⟨b, o, A', c', rfl, hbb, hi1, g0, g1, g2, h1, h2, hh1⟩ := hh.kid e1
          rw [callF_cons e1] at ht
          have HH := Lib.hid hh
          clear hh e1 e3
          cases t with
          | true =>
            have HT := Lib.hid (show (true || callF (k.drop (j + 1)) v) = S v by simpa using ht)
            clear ht
            go_wp2_with fail
            go_roundw
            case rel => exact ⟨j + 1, true, by omega, by go_num, rfl, HT.out, HX.out, HH.out, HB.out, hz, HI.out⟩
            case measure => simp [intOf]; omega
          | false =>
            rw [Bool.false_or] at ht
            obtain ⟨tb, htb⟩ : ∃ tb, tb = callB ⟨o1, m1, k1⟩ v := ⟨_, rfl⟩
            rw [← htb] at ht
            have HT := Lib.hid ht
            clear ht
            go_wp2_with fail
            refine (implCalls_r o1 m1 k1 A' c' 0 w1.heap.size wr hh1.1 hz hh1.rows h1 h2 (by omega)).mono ?_
            rintro e w5 ⟨v5, rfl, ho5, hb5⟩
            obtain ⟨ys, hys⟩ : ∃ ys, ys = numsUpto (callB ⟨o1, m1, k1⟩) 8 := ⟨_, rfl⟩
            rw [← hys] at ho5
            have hyl : ys.length ≤ 8 := by rw [hys]; exact numsUpto_len _ 8
            obtain ⟨A5, c5, rfl, hI5⟩ := own_ints ho5 (fun x hx => numsUpto_small _ 8 x (Nat.le_refl _) (hys ▸ hx))
            have HD := Lib.hid (show decide ((v : Int) ∈ ys) = tb by rw [hys, htb]; exact nums_dec _ hv8)
            have HX5 := Lib.hid (HX.out.below hb5 HX.out.size)
            have HH5 := Lib.hid (HH.out.below hb5 hz)
            have HB5 := Lib.hid (HB.out.trans (hb5.mono HB.out.size))
            have HZ5 := Lib.hid (Nat.le_trans hz hb5.size)
            have HI5 := Lib.hid (HI.out.up hb5)
            have HJ5 := Lib.hid (hI5.mono_ (L' := 0) (Nat.zero_le _) (Nat.le_refl _))
            clear hb5 ho5 hI5 HX HH HB HI hys htb hh1 g0 g1 g2 q0 q1 q2
            go_wp2_with fail
            refine (amIn_any ys A5 c5 (v : Int) w5 HJ5.out (by omega)).mono ?_
            rintro e w6 ⟨rfl, hb6⟩
            rw [HD.out]
            have HX6 := Lib.hid (HX5.out.below hb6 HX5.out.size)
            have HH6 := Lib.hid (HH5.out.below hb6 HZ5.out)
            have HB6 := Lib.hid (HB5.out.trans (hb6.mono HB5.out.size))
            have HZ6 := Lib.hid (Nat.le_trans HZ5.out hb6.size)
            have HI6 := Lib.hid (HI5.out.up hb6)
            clear hb6 HX5 HH5 HB5 HZ5 HI5 HJ5 HD
            go_wp2_with fail
            go_roundw
            case rel => exact ⟨j + 1, _, by omega, by go_num, rfl, HT.out, HX6.out, HH6.out, HB6.out, HZ6.out, HI6.out⟩
            case measure => simp [intOf]; omega
        · have e9 : j = k.len := by omega
          have ht9 : t = S v := by rw [e9, Fo.drop_len] at ht; simpa [callF] using ht
          subst ht9
          have HH := Lib.hid hh
          clear ht hh
          go_wp2_with fail
          refine (amIn_any zs A2 c2 (v : Int) wr HI.out (by omega)).mono ?_
          rintro e w6 ⟨rfl, hb6⟩
          rw [show decide ((v : Int) ∈ zs) = S v by rw [HZS.out]; exact nums_dec S hv8]
          obtain ⟨sv, hsv⟩ : ∃ sv, S v = sv := ⟨_, rfl⟩
          rw [hsv]
          have hne : (sv != sv) = false := by simp
          have HX6 := Lib.hid (HX.out.below hb6 HX.out.size)
          have HH6 := Lib.hid (HH.out.below hb6 hz)
          have HB6 := Lib.hid (HB.out.trans (hb6.mono HB.out.size))
          have HZ6 := Lib.hid (Nat.le_trans hz hb6.size)
          have HI6 := Lib.hid (HI.out.up hb6)
          clear hb6 HX HH HB HI hsv q0 q1 q2
          go_wp2_with fail
          go_roundw
          case rel => exact ⟨v + 1, by omega, by go_num, HX6.out, HH6.out, HB6.out, HZ6.out, HI6.out⟩
          case measure => simp [intOf]; omega
end Go.Proofs.Ytahjekhngaileaa
