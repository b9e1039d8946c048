/-
  The walk of the law FnFreeUnion: true at every two inputs.
-/
import Derived.Test.YtahjekhngaileaaDrawE
import Derived.Test.YtahjekhngaileaaTreeP
import Derived.Test.YtahjekhngaileaaCntVar
import Derived.Test.YtahjekhngaileaaAm
namespace Go.Proofs.Ytahjekhngaileaa
open Go.RowKit Go.Shelf
set_option maxRecDepth 100000

theorem fu_twice (v op n op' n' : Int) (k k' : Fo) : cntN v 8 0 (.cons op n k (.cons op' n' k' .nil)) = cntN v op n k + cntN v op' n' k' := by simp [cntN, cntL, ownVar]
theorem fu_mem {op n : Int} {k : Fo} {v : Nat} : ∀ {j : Nat}, (v : Int) ∈ freeUpto op n k j ↔ v < j ∧ cntN (v : Int) op n k ≠ 0
  | 0 => by simp [freeUpto]
  | j + 1 => by
    unfold freeUpto
    rw [List.mem_append, fu_mem]
    constructor
    · rintro (⟨h1, h2⟩ | h)
      · exact ⟨by omega, h2⟩
      · split at h
        · simp at h
        · rename_i hs
          have := List.mem_singleton.1 h
          have e : v = j := by omega
          subst e
          exact ⟨by omega, hs⟩
    · rintro ⟨h1, h2⟩
      by_cases e : v = j
      · subst e; right; rw [if_neg h2]; simp
      · left; exact ⟨by omega, h2⟩
theorem fu_dec {op n : Int} {k : Fo} {j : Nat} (h : j < 8) : decide ((j : Int) ∈ freeUpto op n k 8) = decide (cntN (j : Int) op n k ≠ 0) := by
  rw [Bool.eq_iff_iff, decide_eq_true_eq, decide_eq_true_eq, fu_mem]
  exact ⟨fun h => h.2, fun h2 => ⟨h, h2⟩⟩
theorem fu_or (op n op' n' : Int) (k k' : Fo) {j : Nat} (h : j < 8) :
    decide ((j : Int) ∈ freeUpto 8 0 (.cons op n k (.cons op' n' k' .nil)) 8) = (decide ((j : Int) ∈ freeUpto op n k 8) || decide ((j : Int) ∈ freeUpto op' n' k' 8)) := by
  rw [fu_dec h, fu_dec h, fu_dec h, fu_twice, Bool.eq_iff_iff]
  simp only [decide_eq_true_iff, Bool.or_eq_true]
  omega

set_option maxHeartbeats 4000000 in
theorem law_NFreeUnion (bs bs2 : List Nat) (A : Option Addr) (c : Nat) (A2 : Option Addr) (c2 : Nat) (w : World) (hl : LiesY w 0 w.heap.size A bs) (hlc : bs.length ≤ c) (hc : c ≤ maxLen)
    (hl2 : LiesY w 0 w.heap.size A2 bs2) (hlc2 : bs2.length ≤ c2) (hc2 : c2 ≤ maxLen) :
    Calls Try.prog 9 #[.slice A bs.length c, .slice A2 bs2.length c2] w (Gives (.bool true) w) := by
  have HC := Lib.hid (drawFreeVars_any A c bs w hl hlc hc)
  have HY2 := Lib.hid hl2
  have HL2 := Lib.hid hlc2
  have HM2 := Lib.hid hc2
  unfold maxLen at hc hc2
  by_cases hsz : bs.length ≤ 1048576
  rotate_left
  · have hgt : 1048576 < bs.length := by omega
    clear hl hl2
    go_enter Try.func9, Try.ntmps9
    go_wp2_with fail
    go_ret
    exact ⟨rfl, Below.refl _ _⟩
  by_cases hsz2 : bs2.length ≤ 1048576
  rotate_left
  · have hgt : 1048576 < bs2.length := by omega
    clear hl hl2
    go_enter Try.func9, Try.ntmps9
    go_wp2_with fail
    go_ret
    exact ⟨rfl, Below.refl _ _⟩
  clear hl hl2
  go_enter Try.func9, Try.ntmps9
  go_wp2_with fail
  refine HC.out.mono ?_
  rintro e w1 ⟨op, n, k, X, cx, rfl, ⟨bl, hi, ht, hs⟩, hb⟩
  obtain ⟨_, _, hX, hk1, hk2⟩ := ht.slice
  injection hX with hX1 hX2 hX3
  subst hX3
  obtain ⟨W, hW⟩ : ∃ W, W = w1.alloc (Obj.cells #[.int .i64 op, .int .i64 n, .slice X k.len cx] 25) := ⟨_, rfl⟩
  have hbW : Below w1.heap.size w1 W := by rw [hW]; exact (Below.refl _ _).alloc (Nat.le_refl _) _
  have HX := Lib.hid (show Row W w1.heap.size 25 #[.int .i64 op, .int .i64 n, .slice X k.len cx] by rw [hW]; exact Row.fresh _ _ _)
  have HH := Lib.hid ((ht.held).up hbW)
  have hbb := hb.trans (hbW.mono hb.size)
  have HB := Lib.hid hbb
  have HC2 := Lib.hid (drawFreeVars_any A2 c2 bs2 W ((HY2.out.below hbb).keep (Nat.le_refl _) hbb.size fun _ _ _ => rfl) HL2.out HM2.out)
  have HI := Lib.hid hi
  clear hb hbb hbW ht hX1 HC HY2 hi
  go_upto_region 4 with fail
  rw [← hW]
  clear hW
  go_wp2_with fail
  refine HC2.out.mono ?_
  rintro e w2 ⟨op2, n2, k2, X2, cx2, rfl, ⟨bl2, hi2, ht2, hs2⟩, hb2⟩
  obtain ⟨_, _, hX2, hk21, hk22⟩ := ht2.slice
  injection hX2 with hX21 hX22 hX23
  subst hX23
  obtain ⟨V, hV⟩ : ∃ V, V = w2.alloc (Obj.cells #[.int .i64 op2, .int .i64 n2, .slice X2 k2.len cx2] 25) := ⟨_, rfl⟩
  have hbV : Below w2.heap.size w2 V := by rw [hV]; exact (Below.refl _ _).alloc (Nat.le_refl _) _
  have HX2 := Lib.hid (show Row V w2.heap.size 25 #[.int .i64 op2, .int .i64 n2, .slice X2 k2.len cx2] by rw [hV]; exact Row.fresh _ _ _)
  have HH2 := Lib.hid ((ht2.held).up hbV)
  have hbb := hb2.trans (hbV.mono hb2.size)
  have hx1 := HX.out.below hbb HX.out.size
  have HX1 := Lib.hid hx1
  have HH1 := Lib.hid (HH.out.up hbb)
  have HB1 := Lib.hid (HB.out.trans (hbb.mono HB.out.size))
  have HI2 := Lib.hid hi2
  clear hb2 hbb hbV ht2 hX21 HC2 HX HH HB hi2
  go_upto_region 5 with fail
  rw [← hV]
  clear hV
  have q0 := hx1.cell (i := 0) rfl
  have q1 := hx1.cell (i := 1) rfl
  have q2 := hx1.cell (i := 2) rfl
  clear hx1
  go_wp2_with fail
  refine (implFree_r op n k X cx 0 V.heap.size V HH1.out.1 (Nat.le_refl _) HH1.out.rows hk1 hk2 (by omega)).mono ?_
  rintro e w3 ⟨v3, rfl, hown3, hb3⟩
  obtain ⟨zs, hzs⟩ : ∃ zs, zs = freeUpto op n k 8 := ⟨_, rfl⟩
  rw [← hzs] at hown3
  have hzi : ∀ x ∈ zs, I64 x := by rw [hzs]; exact fun x hx => freeUpto_small op n k 8 x (Nat.le_refl _) hx
  have hzl : zs.length ≤ 4194304 := by rw [hzs]; exact Nat.le_trans (freeUpto_len op n k 8) (by decide)
  obtain ⟨Z, cz, rfl, hI3⟩ := own_ints hown3 hzi
  have HZS := Lib.hid hzs
  have HZ3 := Lib.hid (hI3.mono_ (Nat.zero_le _) (Nat.le_refl _))
  have HX3 := Lib.hid (HX1.out.below hb3 HX1.out.size)
  have hx3 := HX2.out.below hb3 HX2.out.size
  have HY3 := Lib.hid hx3
  have HH3 := Lib.hid (HH1.out.up hb3)
  have HK3 := Lib.hid (HH2.out.up hb3)
  have HB3 := Lib.hid (HB1.out.trans (hb3.mono HB1.out.size))
  clear hzs hown3 hzi hI3 q0 q1 q2 hb3 HX1 HX2 HH1 HH2 HB1
  have q0 := hx3.cell (i := 0) rfl
  have q1 := hx3.cell (i := 1) rfl
  have q2 := hx3.cell (i := 2) rfl
  clear hx3
  go_wp2_with fail
  refine (implFree_r op2 n2 k2 X2 cx2 0 w3.heap.size w3 HK3.out.1 (Nat.le_refl _) HK3.out.rows hk21 hk22 (by omega)).mono ?_
  rintro e w4 ⟨v4, rfl, hown4, hb4⟩
  obtain ⟨ys, hys⟩ : ∃ ys, ys = freeUpto op2 n2 k2 8 := ⟨_, rfl⟩
  rw [← hys] at hown4
  have hyi : ∀ x ∈ ys, I64 x := by rw [hys]; exact fun x hx => freeUpto_small op2 n2 k2 8 x (Nat.le_refl _) hx
  have hyl : ys.length ≤ 4194304 := by rw [hys]; exact Nat.le_trans (freeUpto_len op2 n2 k2 8) (by decide)
  obtain ⟨Y, cy, rfl, hI4⟩ := own_ints hown4 hyi
  have HYS := Lib.hid hys
  have HY4 := Lib.hid (hI4.mono_ (Nat.zero_le _) (Nat.le_refl _))
  have HZ4 := Lib.hid (HZ3.out.up hb4)
  have hx4 := HX3.out.below hb4 HX3.out.size
  have HX4 := Lib.hid hx4
  have HW4 := Lib.hid (HY3.out.below hb4 HY3.out.size)
  have HH4 := Lib.hid (HH3.out.up hb4)
  have HK4 := Lib.hid (HK3.out.up hb4)
  have HB4 := Lib.hid (HB3.out.trans (hb4.mono HB3.out.size))
  clear hys hown4 hyi hI4 q0 q1 q2 hb4 HZ3 HX3 HY3 HH3 HK3 HB3
  have q0 := hx4.cell (i := 0) rfl
  have q1 := hx4.cell (i := 1) rfl
  have q2 := hx4.cell (i := 2) rfl
  clear hx4
  go_wp2_with fail
  refine (specFree_any op n k X cx w4 HH4.out.1 (by omega)).mono ?_
  rintro e w5 ⟨v5, rfl, hown5, hb5⟩
  rw [← HZS.out] at hown5
  obtain ⟨Z5, cz5, rfl, hI5⟩ := own_ints hown5 (by rw [HZS.out]; exact fun x hx => freeUpto_small op n k 8 x (Nat.le_refl _) hx)
  have HE5 := Lib.hid (hI5.mono_ (Nat.zero_le _) (Nat.le_refl _))
  have HZ5 := Lib.hid (HZ4.out.up hb5)
  have HY5 := Lib.hid (HY4.out.up hb5)
  have HX5 := Lib.hid (HX4.out.below hb5 HX4.out.size)
  have HW5 := Lib.hid (HW4.out.below hb5 HW4.out.size)
  have HH5 := Lib.hid (HH4.out.up hb5)
  have HK5 := Lib.hid (HK4.out.up hb5)
  have HB5 := Lib.hid (HB4.out.trans (hb5.mono HB4.out.size))
  clear hown5 hI5 q0 q1 q2 hb5 HZ4 HY4 HX4 HW4 HH4 HK4 HB4
  go_wp2_with fail
  refine (amInts_any zs zs Z Z5 cz cz5 w5 HZ5.out HE5.out hzl hzl).mono ?_
  rintro e w6 ⟨rfl, hb6⟩
  rw [show decide (zs = zs) = true from by simp]
  have hx6 := HW5.out.below hb6 HW5.out.size
  have HZ6 := Lib.hid (HZ5.out.up hb6)
  have HY6 := Lib.hid (HY5.out.up hb6)
  have HX6 := Lib.hid (HX5.out.below hb6 HX5.out.size)
  have HW6 := Lib.hid hx6
  have HH6 := Lib.hid (HH5.out.up hb6)
  have HK6 := Lib.hid (HK5.out.up hb6)
  have HB6 := Lib.hid (HB5.out.trans (hb6.mono HB5.out.size))
  clear hb6 HZ5 HE5 HY5 HX5 HW5 HH5 HK5 HB5
  have q0 := hx6.cell (i := 0) rfl
  have q1 := hx6.cell (i := 1) rfl
  have q2 := hx6.cell (i := 2) rfl
  clear hx6
  go_wp2_with fail
  refine (specFree_any op2 n2 k2 X2 cx2 w6 HK6.out.1 (by omega)).mono ?_
  rintro e w7 ⟨v7, rfl, hown7, hb7⟩
  rw [← HYS.out] at hown7
  obtain ⟨Y7, cy7, rfl, hI7⟩ := own_ints hown7 (by rw [HYS.out]; exact fun x hx => freeUpto_small op2 n2 k2 8 x (Nat.le_refl _) hx)
  have HE7 := Lib.hid (hI7.mono_ (Nat.zero_le _) (Nat.le_refl _))
  have HZ7 := Lib.hid (HZ6.out.up hb7)
  have HY7 := Lib.hid (HY6.out.up hb7)
  have HX7 := Lib.hid (HX6.out.below hb7 HX6.out.size)
  have HW7 := Lib.hid (HW6.out.below hb7 HW6.out.size)
  have HH7 := Lib.hid (HH6.out.up hb7)
  have HK7 := Lib.hid (HK6.out.up hb7)
  have HB7 := Lib.hid (HB6.out.trans (hb7.mono HB6.out.size))
  clear hown7 hI7 q0 q1 q2 hb7 HZ6 HY6 HX6 HW6 HH6 HK6 HB6
  go_wp2_with fail
  refine (amInts_any ys ys Y Y7 cy cy7 w7 HY7.out HE7.out hyl hyl).mono ?_
  rintro e w8 ⟨rfl, hb8⟩
  rw [show decide (ys = ys) = true from by simp]
  have hx8 := HX7.out.below hb8 HX7.out.size
  have hy8 := HW7.out.below hb8 HW7.out.size
  have HZ8 := Lib.hid (HZ7.out.up hb8)
  have HY8 := Lib.hid (HY7.out.up hb8)
  have HH8 := Lib.hid (HH7.out.up hb8)
  have HK8 := Lib.hid (HK7.out.up hb8)
  have HB8 := Lib.hid (HB7.out.trans (hb8.mono HB7.out.size))
  clear hb8 HZ7 HE7 HY7 HX7 HW7 HH7 HK7 HB7
  have q0 := hx8.cell (i := 0) rfl
  have q1 := hx8.cell (i := 1) rfl
  have q2 := hx8.cell (i := 2) rfl
  have p0 := hy8.cell (i := 0) rfl
  have p1 := hy8.cell (i := 1) rfl
  have p2 := hy8.cell (i := 2) rfl
  clear hx8 hy8
  go_wp2_with fail
  obtain ⟨U, hU⟩ : ∃ U, U = w8.alloc (Obj.cells #[.int .i64 op, .int .i64 n, .slice X k.len cx, .int .i64 op2, .int .i64 n2, .slice X2 k2.len cx2] 25) := ⟨_, rfl⟩
  have hbU : Below w8.heap.size w8 U := by rw [hU]; exact (Below.refl _ _).alloc (Nat.le_refl _) _
  have hrU : Row U w8.heap.size 25 #[.int .i64 op, .int .i64 n, .slice X k.len cx, .int .i64 op2, .int .i64 n2, .slice X2 k2.len cx2] := by rw [hU]; exact Row.fresh _ _ _
  rw [← hU]
  have HT := Lib.hid (held_two (B := U.heap.size) hrU hrU.size (HH8.out.up hbU) (HK8.out.up hbU) HI.out HI2.out ⟨hk1, hk2⟩ ⟨hk21, hk22⟩)
  have HZ9 := Lib.hid (HZ8.out.up hbU)
  have HY9 := Lib.hid (HY8.out.up hbU)
  have HB9 := Lib.hid (HB8.out.trans (hbU.mono HB8.out.size))
  clear hU hbU hrU q0 q1 q2 p0 p1 p2 HZ8 HY8 HH8 HK8 HB8
  refine (implFree_r 8 0 (.cons op n k (.cons op2 n2 k2 .nil)) (some ⟨w8.heap.size, 0, none⟩) 2 0 U.heap.size U HT.out.1 (Nat.le_refl _) HT.out.rows (Nat.le_refl 2) (by unfold maxLen; omega) (by simp only [Fo.size]; omega)).mono ?_
  rintro e w9 ⟨v9, rfl, hown9, hb9⟩
  obtain ⟨us, hus⟩ : ∃ us, us = freeUpto 8 0 (.cons op n k (.cons op2 n2 k2 .nil)) 8 := ⟨_, rfl⟩
  rw [← hus] at hown9
  have hui : ∀ x ∈ us, I64 x := by rw [hus]; exact fun x hx => freeUpto_small _ _ _ 8 x (Nat.le_refl _) hx
  have hul : us.length ≤ 4194304 := by rw [hus]; exact Nat.le_trans (freeUpto_len _ _ _ 8) (by decide)
  obtain ⟨U9, cu, rfl, hI9⟩ := own_ints hown9 hui
  have HE9 := Lib.hid (hI9.mono_ (Nat.zero_le _) (Nat.le_refl _))
  have HZ10 := Lib.hid (HZ9.out.up hb9)
  have HY10 := Lib.hid (HY9.out.up hb9)
  have HB10 := Lib.hid (HB9.out.trans (hb9.mono HB9.out.size))
  have HOR := Lib.hid (show ∀ j : Nat, j < 8 → decide ((j : Int) ∈ us) = (decide ((j : Int) ∈ zs) || decide ((j : Int) ∈ ys)) from fun j hj => by rw [hus, HZS.out, HYS.out]; exact fu_or op n op2 n2 k k2 hj)
  clear hown9 hui hI9 hus hb9 HT HZ9 HY9 HB9 HZS HYS HI HI2 HL2 HM2
  go_wp2_with fail
  go_loopw [10] (fun i wr => ∃ (j : Nat), j ≤ 8 ∧ i = .int .i64 j ∧ Below w9.heap.size w9 wr)
    (fun i _ => 8 - (intOf i).toNat)
  case atStart => exact ⟨0, by omega, rfl, Below.refl _ _⟩
  case round =>
    obtain ⟨j, hj, rfl, hbr⟩ := hrel
    by_cases hlt : j < 8
    · have h8 : decide ((j : Int) < 8) = true := by simp; omega
      have ho := HOR.out j hlt
      obtain ⟨b1, hb1⟩ : ∃ b, b = decide ((j : Int) ∈ zs) := ⟨_, rfl⟩
      obtain ⟨b2, hb2⟩ : ∃ b, b = decide ((j : Int) ∈ ys) := ⟨_, rfl⟩
      rw [← hb1, ← hb2] at ho
      have C1 := Lib.hid ho
      have C2 := Lib.hid hb1
      have C3 := Lib.hid hb2
      have HBR := Lib.hid hbr
      clear ho hb1 hb2 hbr
      go_wp2_with fail
      refine (amIn_any us U9 cu j _ (HE9.out.up HBR.out) hul).mono ?_
      rintro e w11 ⟨rfl, hb11⟩
      rw [C1.out]
      have HB11 := Lib.hid (HBR.out.trans (hb11.mono HBR.out.size))
      clear hb11
      go_wp2_with fail
      refine (amIn_any zs Z cz j _ (HZ10.out.up HB11.out) hzl).mono ?_
      rintro e w12 ⟨rfl, hb12⟩
      rw [← C2.out]
      have HB12 := Lib.hid (HB11.out.trans (hb12.mono HB11.out.size))
      clear hb12
      cases b1 with
      | true =>
        rw [Bool.true_or]
        go_wp2_with fail
        go_roundw
        case rel => exact ⟨j + 1, hlt, by go_num, HB12.out⟩
        case measure => simp [intOf]; omega
      | false =>
        rw [Bool.false_or]
        go_wp2_with fail
        refine (amIn_any ys Y cy j _ (HY10.out.up HB12.out) hyl).mono ?_
        rintro e w13 ⟨rfl, hb13⟩
        rw [← C3.out]
        have HB13 := Lib.hid (HB12.out.trans (hb13.mono HB12.out.size))
        clear hb13
        cases b2 with
        | true =>
          go_wp2_with fail
          go_roundw
          case rel => exact ⟨j + 1, hlt, by go_num, HB13.out⟩
          case measure => simp [intOf]; omega
        | false =>
          go_wp2_with fail
          go_roundw
          case rel => exact ⟨j + 1, hlt, by go_num, HB13.out⟩
          case measure => simp [intOf]; omega
    · have h8 : decide ((j : Int) < 8) = false := by simp; omega
      go_wp2_with fail
      go_ret
      exact ⟨rfl, HB10.out.trans (hbr.mono HB10.out.size)⟩
end Go.Proofs.Ytahjekhngaileaa
