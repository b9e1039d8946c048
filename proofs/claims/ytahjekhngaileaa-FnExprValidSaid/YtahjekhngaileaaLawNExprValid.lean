/-
  The walk of the law FnExprValid: true at every input.
-/
import Derived.Test.YtahjekhngaileaaDrawV
import Derived.Test.YtahjekhngaileaaTreeP
import Derived.Test.YtahjekhngaileaaValD
import Derived.Test.YtahjekhngaileaaSpecV
import Derived.Test.YtahjekhngaileaaAm
namespace Go.Proofs.Ytahjekhngaileaa
open Go.RowKit Go.Shelf
set_option maxRecDepth 100000

theorem all_take {zs : List Int} {j : Nat} {x : Int} (h : zs[j]? = some x) (p : Int → Bool) : (zs.take (j + 1)).all p = ((zs.take j).all p && p x) := by
  rw [List.take_add_one, h]
  simp

set_option maxHeartbeats 4000000 in
theorem law_NExprValid (bs : List Nat) (A : Option Addr) (c : Nat) (w : World) (hl : LiesY w 0 w.heap.size A bs) (hlc : bs.length ≤ c) (hc : c ≤ maxLen) :
    Calls Try.prog 3 #[.slice A bs.length c] w (Gives (.bool true) w) := by
  have HC := Lib.hid (drawExprValid_any A c bs w hl hlc hc)
  unfold maxLen at hc
  by_cases hsz : bs.length ≤ 1048576
  rotate_left
  · have hgt : 1048576 < bs.length := by omega
    clear hl
    go_enter Try.func3, Try.ntmps3
    go_wp2_with fail
    go_ret
    exact ⟨rfl, Below.refl _ _⟩
  clear hl
  go_enter Try.func3, Try.ntmps3
  go_wp2_with fail
  refine HC.out.mono ?_
  rintro e w1 ⟨op, n, k, X, cx, v, zs, rfl, ⟨bl, hi, ht, hs⟩, hv, hzl4, hzi, hb⟩
  obtain ⟨Z, cz, rfl, hIZ⟩ := own_ints hv hzi
  obtain ⟨_, _, hX, hk1, hk2⟩ := ht.slice
  injection hX with hX1 hX2 hX3
  subst hX3
  obtain ⟨W, hW⟩ : ∃ W, W = w1.alloc (Obj.cells #[.int .i64 op, .int .i64 n, .slice X k.len cx] 25) := ⟨_, rfl⟩
  have hbW : Below w1.heap.size w1 W := by rw [hW]; exact (Below.refl _ _).alloc (Nat.le_refl _) _
  have hx := (show Row W w1.heap.size 25 #[.int .i64 op, .int .i64 n, .slice X k.len cx] by rw [hW]; exact Row.fresh _ _ _)
  have HX := Lib.hid hx
  have HH := Lib.hid ((ht.held).up hbW)
  have HZ := Lib.hid ((hIZ.mono_ (Nat.zero_le _) (Nat.le_refl _)).up hbW)
  have HB := Lib.hid (hb.trans (hbW.mono hb.size))
  have hzl : zs.length ≤ 1048576 := by omega
  have hkl : k.len ≤ maxLen := Nat.le_trans hk1 hk2
  clear hb hbW ht hX1 HC hIZ hv hi
  go_upto_region 4 with fail
  rw [← hW]
  clear hW
  have q0 := hx.cell (i := 0) rfl
  have q1 := hx.cell (i := 1) rfl
  have q2 := hx.cell (i := 2) rfl
  clear hx
  go_wp2_with fail
  refine (implExprValid_any op n k X cx zs Z cz W HH.out.1 hkl HZ.out hzl).mono ?_
  rintro e w2 ⟨rfl, hb2⟩
  obtain ⟨b0, hb0⟩ : ∃ b, b = validOf op n k zs := ⟨_, rfl⟩
  rw [← hb0]
  have HV0 := Lib.hid hb0
  have hx2 := HX.out.below hb2 HX.out.size
  have HX2 := Lib.hid hx2
  have HH2 := Lib.hid (HH.out.up hb2)
  have HZ2 := Lib.hid (HZ.out.up hb2)
  have HB2 := Lib.hid (HB.out.trans (hb2.mono HB.out.size))
  clear hb0 hb2 q0 q1 q2 HX HH HZ HB
  have q0 := hx2.cell (i := 0) rfl
  have q1 := hx2.cell (i := 1) rfl
  have q2 := hx2.cell (i := 2) rfl
  clear hx2
  go_wp2_with fail
  refine (implFree_r op n k X cx 0 w2.heap.size w2 HH2.out.1 (Nat.le_refl _) HH2.out.rows hk1 hk2 (by omega)).mono ?_
  rintro e w3 ⟨v3, rfl, hown3, hb3⟩
  obtain ⟨fs, hfs⟩ : ∃ fs, fs = freeUpto op n k 8 := ⟨_, rfl⟩
  rw [← hfs] at hown3
  have hfi : ∀ x ∈ fs, I64 x := by rw [hfs]; exact fun x hx => freeUpto_small op n k 8 x (Nat.le_refl _) hx
  have hfl : fs.length ≤ 8 := by rw [hfs]; exact freeUpto_len op n k 8
  obtain ⟨F, cf, rfl, hI3⟩ := own_ints hown3 hfi
  have HFS := Lib.hid hfs
  have HF3 := Lib.hid (hI3.mono_ (Nat.zero_le _) (Nat.le_refl _))
  have hx3 := HX2.out.below hb3 HX2.out.size
  have HX3 := Lib.hid hx3
  have HH3 := Lib.hid (HH2.out.up hb3)
  have HZ3 := Lib.hid (HZ2.out.up hb3)
  have HB3 := Lib.hid (HB2.out.trans (hb3.mono HB2.out.size))
  clear hfs hown3 hfi hI3 hb3 q0 q1 q2 HX2 HH2 HZ2 HB2
  have q0 := hx3.cell (i := 0) rfl
  have q1 := hx3.cell (i := 1) rfl
  have q2 := hx3.cell (i := 2) rfl
  clear hx3
  go_wp2_with fail
  refine (specExprValid_any op n k X cx zs Z cz w3 HH3.out.1 hkl HZ3.out hzl).mono ?_
  rintro e w4 ⟨rfl, hb4⟩
  rw [← HV0.out]
  have hne : (b0 != b0) = false := by simp
  have hx4 := HX3.out.below hb4 HX3.out.size
  have HX4 := Lib.hid hx4
  have HH4 := Lib.hid (HH3.out.up hb4)
  have HZ4 := Lib.hid (HZ3.out.up hb4)
  have HF4 := Lib.hid (HF3.out.up hb4)
  have HB4 := Lib.hid (HB3.out.trans (hb4.mono HB3.out.size))
  clear hb4 q0 q1 q2 HX3 HH3 HZ3 HF3 HB3
  have q0 := hx4.cell (i := 0) rfl
  have q1 := hx4.cell (i := 1) rfl
  have q2 := hx4.cell (i := 2) rfl
  clear hx4
  go_wp2_with fail
  refine (specFree_any op n k X cx w4 HH4.out.1 (by omega)).mono ?_
  rintro e w5 ⟨v5, rfl, hown5, hb5⟩
  rw [← HFS.out] at hown5
  obtain ⟨F5, cf5, rfl, hI5⟩ := own_ints hown5 (by rw [HFS.out]; exact fun x hx => freeUpto_small op n k 8 x (Nat.le_refl _) hx)
  have HE5 := Lib.hid (hI5.mono_ (Nat.zero_le _) (Nat.le_refl _))
  have HX5 := Lib.hid (HX4.out.below hb5 HX4.out.size)
  have HH5 := Lib.hid (HH4.out.up hb5)
  have HZ5 := Lib.hid (HZ4.out.up hb5)
  have HF5 := Lib.hid (HF4.out.up hb5)
  have HB5 := Lib.hid (HB4.out.trans (hb5.mono HB4.out.size))
  clear hown5 hI5 hb5 q0 q1 q2 HX4 HH4 HZ4 HF4 HB4
  go_wp2_with fail
  refine (amInts_any fs fs F F5 cf cf5 w5 HF5.out HE5.out (by omega) (by omega)).mono ?_
  rintro e w6 ⟨rfl, hb6⟩
  rw [show decide (fs = fs) = true from by simp]
  have HX6 := Lib.hid (HX5.out.below hb6 HX5.out.size)
  have HH6 := Lib.hid (HH5.out.up hb6)
  have HZ6 := Lib.hid (HZ5.out.up hb6)
  have HF6 := Lib.hid (HF5.out.up hb6)
  have HB6 := Lib.hid (HB5.out.trans (hb6.mono HB5.out.size))
  clear hb6 HE5 HX5 HH5 HZ5 HF5 HB5 hne
  go_wp2_with fail
  go_loopw [7, 8] (fun a i wr => ∃ (j : Nat), j ≤ fs.length ∧ i = .int .i64 j ∧ a = .bool ((fs.take j).all (fun x => decide (x ∈ zs))) ∧ Below w6.heap.size w6 wr)
    (fun _ i _ => fs.length - (intOf i).toNat)
  case atStart => exact ⟨0, by omega, rfl, by simp, Below.refl _ _⟩
  case round =>
    obtain ⟨j, hj, rfl, rfl, hbr⟩ := hrel
    by_cases hlt : j < fs.length
    · have e1 := List.getElem?_eq_getElem hlt
      generalize fs[j] = x at e1
      have ht := all_take e1 (fun x => decide (x ∈ zs))
      obtain ⟨b, o, hA, _, hbb, ix, g1⟩ := (HF6.out.up hbr) j x e1
      subst hA
      obtain ⟨y, hy⟩ : ∃ y, y = (fs.take j).all (fun x => decide (x ∈ zs)) := ⟨_, rfl⟩
      rw [← hy] at ht ⊢
      have HT := Lib.hid ht
      have HZR := Lib.hid (HZ6.out.up hbr)
      have HBR := Lib.hid hbr
      clear hy ht e1 hbr
      cases y with
      | true =>
        go_wp2_with fail
        refine (amIn_any zs Z cz x _ HZR.out (by omega)).mono ?_
        rintro e w8 ⟨rfl, hb8⟩
        obtain ⟨z, hz⟩ : ∃ z, z = decide (x ∈ zs) := ⟨_, rfl⟩
        rw [← hz]
        have HZZ := Lib.hid hz
        have HB8 := Lib.hid (HBR.out.trans (hb8.mono HBR.out.size))
        clear hz hb8 g1
        go_wp2_with fail
        go_roundw
        case rel => exact ⟨j + 1, hlt, by go_num, by rw [HT.out, HZZ.out]; rfl, HB8.out⟩
        case measure => simp [intOf]; omega
      | false =>
        go_wp2_with fail
        go_roundw
        case rel => exact ⟨j + 1, hlt, by go_num, by rw [HT.out]; rfl, HBR.out⟩
        case measure => simp [intOf]; omega
    · have e9 : j = fs.length := by omega
      subst e9
      rw [List.take_length]
      obtain ⟨y, hy⟩ : ∃ y, y = fs.all (fun x => decide (x ∈ zs)) := ⟨_, rfl⟩
      rw [← hy]
      have HY := Lib.hid hy
      have HX7 := Lib.hid (HX6.out.below hbr HX6.out.size)
      have HH7 := Lib.hid (HH6.out.up hbr)
      have HZ7 := Lib.hid (HZ6.out.up hbr)
      have HF7 := Lib.hid (HF6.out.up hbr)
      have HB7 := Lib.hid (HB6.out.trans (hbr.mono HB6.out.size))
      clear hy hbr HX6 HH6 HZ6 HF6 HB6
      go_wp2_with fail
      go_loopw [9, 10] (fun a i w' => ∃ (j : Nat), j ≤ zs.length ∧ i = .int .i64 j ∧ a = .bool ((zs.take j).all (fun x => decide (x ≥ 0) && decide (x < 8))) ∧ Below wr.heap.size wr w')
        (fun _ i _ => zs.length - (intOf i).toNat)
      case atStart => exact ⟨0, by omega, rfl, by simp, Below.refl _ _⟩
      case round =>
        obtain ⟨j, hj, rfl, rfl, hbr⟩ := hrel
        by_cases hlt : j < zs.length
        · have e1 := List.getElem?_eq_getElem hlt
          generalize zs[j] = x at e1
          have ht := all_take e1 (fun x => decide (x ≥ 0) && decide (x < 8))
          obtain ⟨b, o, hA, _, hbb, ix, g1⟩ := (HZ7.out.up hbr) j x e1
          subst hA
          obtain ⟨y2, hy2⟩ : ∃ y, y = (zs.take j).all (fun x => decide (x ≥ 0) && decide (x < 8)) := ⟨_, rfl⟩
          rw [← hy2] at ht ⊢
          have HBR := Lib.hid hbr
          clear hy2 e1 hbr
          by_cases h0 : 0 ≤ x
          · have d0 : decide (x ≥ 0) = true := by simp; omega
            by_cases h8 : x < 8
            · have d8 : decide (x < 8) = true := by simp; omega
              have HT := Lib.hid (ht.trans (show (y2 && (decide (x ≥ 0) && decide (x < 8))) = y2 by rw [d0, d8]; simp))
              clear ht
              cases y2 with
              | true =>
                go_wp2_with fail
                go_roundw
                case rel => exact ⟨j + 1, hlt, by go_num, by rw [HT.out], HBR.out⟩
                case measure => simp [intOf]; omega
              | false =>
                go_wp2_with fail
                go_roundw
                case rel => exact ⟨j + 1, hlt, by go_num, by rw [HT.out], HBR.out⟩
                case measure => simp [intOf]; omega
            · have d8 : decide (x < 8) = false := by simp; omega
              have HT := Lib.hid (ht.trans (show (y2 && (decide (x ≥ 0) && decide (x < 8))) = false by rw [d0, d8]; simp))
              clear ht
              cases y2 with
              | true =>
                go_wp2_with fail
                go_roundw
                case rel => exact ⟨j + 1, hlt, by go_num, by rw [HT.out], HBR.out⟩
                case measure => simp [intOf]; omega
              | false =>
                go_wp2_with fail
                go_roundw
                case rel => exact ⟨j + 1, hlt, by go_num, by rw [HT.out], HBR.out⟩
                case measure => simp [intOf]; omega
          · have d0 : decide (x ≥ 0) = false := by simp; omega
            have HT := Lib.hid (ht.trans (show (y2 && (decide (x ≥ 0) && decide (x < 8))) = false by rw [d0]; simp))
            clear ht
            cases y2 with
            | true =>
              go_wp2_with fail
              go_roundw
              case rel => exact ⟨j + 1, hlt, by go_num, by rw [HT.out], HBR.out⟩
              case measure => simp [intOf]; omega
            | false =>
              go_wp2_with fail
              go_roundw
              case rel => exact ⟨j + 1, hlt, by go_num, by rw [HT.out], HBR.out⟩
              case measure => simp [intOf]; omega
        · have e9 : j = zs.length := by omega
          subst e9
          rw [List.take_length]
          obtain ⟨y2, hy2⟩ : ∃ y, y = zs.all (fun x => decide (x ≥ 0) && decide (x < 8)) := ⟨_, rfl⟩
          rw [← hy2]
          have HY2 := Lib.hid hy2
          have hx8 := HX7.out.below hbr HX7.out.size
          have HH8 := Lib.hid (HH7.out.up hbr)
          have HF8 := Lib.hid (HF7.out.up hbr)
          have HB8 := Lib.hid (HB7.out.trans (hbr.mono HB7.out.size))
          have q0 := hx8.cell (i := 0) rfl
          have q1 := hx8.cell (i := 1) rfl
          have q2 := hx8.cell (i := 2) rfl
          clear hy2 hbr hx8 HX7 HH7 HZ7 HF7 HB7
          go_wp2_with fail
          refine (implExprValid_any op n k X cx fs F cf _ HH8.out.1 hkl HF8.out (by omega)).mono ?_
          rintro e w12 ⟨rfl, hb12⟩
          obtain ⟨b1, hb1⟩ : ∃ b, b = validOf op n k fs := ⟨_, rfl⟩
          rw [← hb1]
          have heq : b0 = (b1 && y && y2) := by rw [HV0.out, hb1, HY.out, HY2.out, HFS.out]; exact valid_free op n k zs
          have HB12 := Lib.hid (HB8.out.trans (hb12.mono HB8.out.size))
          clear hb1 hb12 q0 q1 q2 HV0 HFS HY HY2
          cases b1 <;> cases y <;> cases y2 <;> (subst heq; go_wp2_with fail; go_ret; exact ⟨rfl, HB12.out⟩)
end Go.Proofs.Ytahjekhngaileaa
