/-
  The walk of the law FnExprParts: true at every input.
-/
import Derived.Test.YtahjekhngaileaaDrawV
import Derived.Test.YtahjekhngaileaaTreeP
import Derived.Test.YtahjekhngaileaaValD
import Derived.Test.YtahjekhngaileaaSpecV
namespace Go.Proofs.Ytahjekhngaileaa
open Go.RowKit Go.Shelf
set_option maxRecDepth 100000

theorem kid_at : ∀ {k : Fo} {j : Nat}, j < k.len → ∃ o m k1, k.drop j = .cons o m k1 (k.drop (j + 1))
  | .nil, _, h => by simp [Fo.len] at h
  | .cons o m k1 r, 0, _ => ⟨o, m, k1, by simp [Fo.drop, Fo.drop_zero]⟩
  | .cons _ _ _ r, j + 1, h => by
    obtain ⟨o, m, k1, e⟩ := kid_at (k := r) (j := j) (by simp only [Fo.len] at h; omega)
    exact ⟨o, m, k1, by simpa [Fo.drop] using e⟩

set_option maxHeartbeats 4000000 in
theorem law_NExprParts (bs : List Nat) (A : Option Addr) (c : Nat) (w : World) (hl : LiesY w 0 w.heap.size A bs) (hlc : bs.length ≤ c) (hc : c ≤ maxLen) :
    Calls Try.prog 8 #[.slice A bs.length c] w (Gives (.bool true) w) := by
  have HC := Lib.hid (drawExprValid_any A c bs w hl hlc hc)
  unfold maxLen at hc
  by_cases hsz : bs.length ≤ 1048576
  rotate_left
  · have hgt : 1048576 < bs.length := by omega
    clear hl
    go_enter Try.func8, Try.ntmps8
    go_wp2_with fail
    go_ret
    exact ⟨rfl, Below.refl _ _⟩
  clear hl
  go_enter Try.func8, Try.ntmps8
  go_wp2_with fail
  refine HC.out.mono ?_
  rintro e w1 ⟨op, n, k, X, cx, v, zs, rfl, ⟨bl, hi, ht, hs⟩, hv, hzl4, hzi, hb⟩
  obtain ⟨Z, cz, rfl, hIZ⟩ := own_ints hv hzi
  obtain ⟨_, _, hX, hk1, hk2⟩ := ht.slice
  injection hX with hX1 hX2 hX3
  subst hX3
  obtain ⟨W, hW⟩ : ∃ W, W = w1.alloc (Obj.cells #[.int .i64 op, .int .i64 n, .slice X k.len cx] 25) := ⟨_, rfl⟩
  have hbW : Below w1.heap.size w1 W := by rw [hW]; exact (Below.refl _ _).alloc (Nat.le_refl _) _
  have hx := (show Row W w1.heap.size 25 #[.int .i64 op, .int .i64 n, .slice X k.len cx] by rw [hW]; exact Row.fresh _ _ _)
  have HX := Lib.hid hx
  have HH := Lib.hid ((ht.held).up hbW)
  have HZ := Lib.hid ((hIZ.mono_ (Nat.zero_le _) (Nat.le_refl _)).up hbW)
  have HB := Lib.hid (hb.trans (hbW.mono hb.size))
  have hzl : zs.length ≤ 1048576 := by omega
  have hkl : k.len ≤ maxLen := Nat.le_trans hk1 hk2
  have hkm := hkl
  unfold maxLen at hkm
  clear hb hbW ht hX1 HC hIZ hv hi
  go_upto_region 4 with fail
  rw [← hW]
  clear hW
  have q0 := hx.cell (i := 0) rfl
  have q1 := hx.cell (i := 1) rfl
  have q2 := hx.cell (i := 2) rfl
  clear hx
  go_wp2_with fail
  refine (implExprValid_any op n k X cx zs Z cz W HH.out.1 hkl HZ.out hzl).mono ?_
  rintro e w2 ⟨rfl, hb2⟩
  obtain ⟨b0, hb0⟩ : ∃ b, b = validOf op n k zs := ⟨_, rfl⟩
  rw [← hb0]
  have HV0 := Lib.hid hb0
  have hx2 := HX.out.below hb2 HX.out.size
  have HX2 := Lib.hid hx2
  have HH2 := Lib.hid (HH.out.up hb2)
  have HZ2 := Lib.hid (HZ.out.up hb2)
  have HB2 := Lib.hid (HB.out.trans (hb2.mono HB.out.size))
  clear hb0 hb2 q0 q1 q2 HX HH HZ HB
  have q0 := hx2.cell (i := 0) rfl
  have q1 := hx2.cell (i := 1) rfl
  have q2 := hx2.cell (i := 2) rfl
  clear hx2
  go_wp2_with fail
  refine (specExprValid_any op n k X cx zs Z cz w2 HH2.out.1 hkl HZ2.out hzl).mono ?_
  rintro e w3 ⟨rfl, hb3⟩
  rw [← HV0.out]
  have hne : (b0 != b0) = false := by simp
  have hx3 := HX2.out.below hb3 HX2.out.size
  have HX3 := Lib.hid hx3
  have HH3 := Lib.hid (HH2.out.up hb3)
  have HZ3 := Lib.hid (HZ2.out.up hb3)
  have HB3 := Lib.hid (HB2.out.trans (hb3.mono HB2.out.size))
  clear hb3 q0 q1 q2 HX2 HH2 HZ2 HB2
  cases b0 with
  | false =>
    have q0 := hx3.cell (i := 0) rfl
    have q1 := hx3.cell (i := 1) rfl
    have q2 := hx3.cell (i := 2) rfl
    clear hx3
    go_wp2_with fail
    refine (specExprValid_any op n k X cx zs Z cz w3 HH3.out.1 hkl HZ3.out hzl).mono ?_
    rintro e w4 ⟨rfl, hb4⟩
    rw [← HV0.out]
    have HB4 := Lib.hid (HB3.out.trans (hb4.mono HB3.out.size))
    clear hb4 q0 q1 q2
    go_wp2_with fail
    go_ret
    exact ⟨rfl, HB4.out⟩
  | true =>
    clear hx3
    go_wp2_with fail
    go_loopw [6] (fun i wr => ∃ (j : Nat), j ≤ k.len ∧ i = .int .i64 j ∧ Below w3.heap.size w3 wr)
      (fun i _ => k.len - (intOf i).toNat)
    case atStart => exact ⟨0, by omega, rfl, Below.refl _ _⟩
    case round =>
      obtain ⟨j, hj, rfl, hbr⟩ := hrel
      have hxr := HX3.out.below hbr HX3.out.size
      have q0 := hxr.cell (i := 0) rfl
      have q1 := hxr.cell (i := 1) rfl
      have q2 := hxr.cell (i := 2) rfl
      by_cases hlt : j < k.len
      · obtain ⟨o, m, k1, ek⟩ := kid_at hlt
        have hok := valid_kid HV0.out.symm ek
        obtain ⟨b, of, A', c', hA, hbb, hi1, g0, g1, g2, hc1, hc2, hh1⟩ := (HH3.out.up hbr).kid ek
        subst hA
        have HO := Lib.hid hok
        have HBR := Lib.hid hbr
        have HK := Lib.hid hh1
        have hkl1 : k1.len ≤ maxLen := Nat.le_trans hc1 hc2
        clear hok hbr hh1 ek hxr
        go_wp2_with fail
        obtain ⟨U, hU⟩ : ∃ U, U = wr.alloc (Obj.cells #[.int .i64 0, .int .i64 1, .int .i64 2, .int .i64 3, .int .i64 4, .int .i64 5, .int .i64 6, .int .i64 7] 3) := ⟨_, rfl⟩
        have hbU : Below wr.heap.size wr U := by rw [hU]; exact (Below.refl _ _).alloc (Nat.le_refl _) _
        have hz8 : LiesI U 0 U.heap.size (some ⟨wr.heap.size, 0, none⟩) [0, 1, 2, 3, 4, 5, 6, 7] := by rw [hU]; exact lies_new wr 0 [0, 1, 2, 3, 4, 5, 6, 7] (by intro x hx; simp at hx; unfold I64; omega) (Nat.zero_le _)
        rw [← hU]
        refine (implExprValid_any o m k1 A' c' [0, 1, 2, 3, 4, 5, 6, 7] (some ⟨wr.heap.size, 0, none⟩) 8 U (HK.out.up hbU).1 hkl1 hz8 (by decide)).mono ?_
        rintro e w9 ⟨rfl, hb9⟩
        rw [HO.out]
        have HB9 := Lib.hid ((HBR.out.trans (hbU.mono HBR.out.size)).trans (hb9.mono (Nat.le_trans HBR.out.size hbU.size)))
        clear hU hbU hz8 hb9 q0 q1 q2 g0 g1 g2
        go_wp2_with fail
        go_roundw
        case rel => exact ⟨j + 1, hlt, by go_num, HB9.out⟩
        case measure => simp [intOf]; omega
      · have HBE := Lib.hid (HB3.out.trans (hbr.mono HB3.out.size))
        clear hbr hxr
        go_wp2_with fail
        go_ret
        exact ⟨rfl, HBE.out⟩
end Go.Proofs.Ytahjekhngaileaa
