/-
  The walk of the law FnUniqueNames: true at every input.
-/
import Derived.Test.YtpoicdbjmhageaaDrawE
import Derived.Test.YtpoicdbjmhageaaTreeP
import Derived.Test.YtpoicdbjmhageaaImplAll
import Derived.Test.YtpoicdbjmhageaaImplBound
import Derived.Test.YtpoicdbjmhageaaUniqI
import Derived.Test.YtpoicdbjmhageaaUniqS
import Derived.Test.YtpoicdbjmhageaaUniqN
namespace Go.Proofs.Ytpoicdbjmhageaa
open Go.RowKit Go.Shelf
set_option maxRecDepth 100000

theorem un_i64 (S : Nat → Bool) : ∀ x, x ∈ numsUpto S 8 → I64 x := fun x hx => by
  obtain ⟨v, rfl, h, _⟩ := nums_of hx
  unfold I64
  omega

set_option maxHeartbeats 4000000 in
theorem law_NUniqueNames (bs : List Nat) (A : Option Addr) (c : Nat) (w : World) (hl : LiesY w 0 w.heap.size A bs) (hlc : bs.length ≤ c) (hc : c ≤ maxLen) :
    Calls Try.prog 4 #[.slice A bs.length c] w (Gives (.bool true) w) := by
  have HC := Lib.hid (drawUniqueNames_any A c bs w hl hlc hc)
  unfold maxLen at hc
  by_cases hsz : bs.length ≤ 1048576
  rotate_left
  · have hgt : 1048576 < bs.length := by omega
    clear hl
    go_enter Try.func4, Try.ntmps4
    go_wp2_with fail
    go_ret
    exact ⟨rfl, Below.refl _ _⟩
  clear hl
  go_enter Try.func4, Try.ntmps4
  go_wp2_with fail
  refine HC.out.mono ?_
  rintro e w1 ⟨op, n, k, X, cx, rfl, ⟨bl, hi, ht, hs⟩, hb⟩
  obtain ⟨_, _, hX, hk1, hk2⟩ := ht.slice
  injection hX with hX1 hX2 hX3
  subst hX3
  obtain ⟨W, hW⟩ : ∃ W, W = w1.alloc (Obj.cells #[.int .i64 op, .int .i64 n, .slice X k.len cx] 25) := ⟨_, rfl⟩
  have hbW : Below w1.heap.size w1 W := by rw [hW]; exact (Below.refl _ _).alloc (Nat.le_refl _) _
  have hx : Row W w1.heap.size 25 #[.int .i64 op, .int .i64 n, .slice X k.len cx] := by rw [hW]; exact Row.fresh _ _ _
  have HX := Lib.hid hx
  have HH := Lib.hid ((ht.held).up hbW)
  have HB := Lib.hid (hb.trans (hbW.mono hb.size))
  have hkl : k.len ≤ maxLen := Nat.le_trans hk1 hk2
  obtain ⟨az, haz⟩ : ∃ az, az = numsUpto (hasB ownVL ⟨op, n, k⟩) 8 := ⟨_, rfl⟩
  obtain ⟨ds, hds⟩ : ∃ ds, ds = numsUpto (hasB ownLet ⟨op, n, k⟩) 8 := ⟨_, rfl⟩
  obtain ⟨fs, hfs⟩ : ∃ fs, fs = freeUpto op n k 8 := ⟨_, rfl⟩
  have hal : az.length ≤ 8 := by rw [haz]; exact numsUpto_len _ 8
  have hdl : ds.length ≤ 8 := by rw [hds]; exact numsUpto_len _ 8
  have hfl : fs.length ≤ 8 := by rw [hfs]; exact freeUpto_len _ _ _ 8
  have HAI := Lib.hid (show ∀ x ∈ az, I64 x by rw [haz]; exact un_i64 _)
  have HDI := Lib.hid (show ∀ x ∈ ds, I64 x by rw [hds]; exact un_i64 _)
  have HFI := Lib.hid (show ∀ x ∈ fs, I64 x by rw [hfs]; exact fun x hx => freeUpto_small _ _ _ 8 x (Nat.le_refl _) hx)
  have HAS := Lib.hid haz
  have HDS := Lib.hid hds
  have HFS := Lib.hid hfs
  clear hb hbW ht hX1 HC hi haz hds hfs
  go_upto_region 4 with fail
  rw [← hW]
  clear hW
  have q0 := hx.cell (i := 0) rfl
  have q1 := hx.cell (i := 1) rfl
  have q2 := hx.cell (i := 2) rfl
  clear hx
  go_wp2_with fail
  refine (implUniq_r op n k X cx 0 W.heap.size W HH.out.1 (Nat.le_refl _) HH.out.rows hk1 hk2 (by omega)).mono ?_
  rintro e w2 ⟨rfl, hb2⟩
  obtain ⟨u, hu⟩ : ∃ u, u = uniB op n k := ⟨_, rfl⟩
  rw [← hu]
  have HU := Lib.hid hu
  have hx := HX.out.below hb2 HX.out.size
  have HX2 := Lib.hid hx
  have HH2 := Lib.hid (HH.out.up hb2)
  have HB2 := Lib.hid (HB.out.trans (hb2.mono HB.out.size))
  clear hu hb2 q0 q1 q2 HX HH HB
  have q0 := hx.cell (i := 0) rfl
  have q1 := hx.cell (i := 1) rfl
  have q2 := hx.cell (i := 2) rfl
  clear hx
  go_wp2_with fail
  refine (specUniq_any op n k X cx w2 HH2.out.1 hkl).mono ?_
  rintro e w3 ⟨rfl, hb3⟩
  rw [← HU.out]
  have hne : (u != u) = false := by simp
  have hx := HX2.out.below hb3 HX2.out.size
  have HX3 := Lib.hid hx
  have HH3 := Lib.hid (HH2.out.up hb3)
  have HB3 := Lib.hid (HB2.out.trans (hb3.mono HB2.out.size))
  clear hb3 q0 q1 q2 HX2 HH2 HB2
  have q0 := hx.cell (i := 0) rfl
  have q1 := hx.cell (i := 1) rfl
  have q2 := hx.cell (i := 2) rfl
  clear hx
  cases u with
  | false =>
    go_wp2_with fail
    refine (specUniq_any op n k X cx w3 HH3.out.1 hkl).mono ?_
    rintro e w4 ⟨rfl, hb4⟩
    rw [← HU.out]
    have HB4 := Lib.hid (HB3.out.trans (hb4.mono HB3.out.size))
    clear hb4 q0 q1 q2
    go_wp2_with fail
    go_ret
    exact ⟨rfl, HB4.out⟩
  | true =>
    go_wp2_with fail
    refine (implBound_r op n k X cx 0 w3.heap.size w3 HH3.out.1 (Nat.le_refl _) HH3.out.rows hk1 hk2 (by omega)).mono ?_
    rintro e w4 ⟨v4, rfl, hown, hb4⟩
    rw [← HDS.out] at hown
    obtain ⟨Zd, cd, rfl, hI4⟩ := own_ints hown HDI.out
    have HD4 := Lib.hid (hI4.mono_ (Nat.zero_le _) (Nat.le_refl _))
    have HX4 := Lib.hid (HX3.out.below hb4 HX3.out.size)
    have HH4 := Lib.hid (HH3.out.up hb4)
    have HB4 := Lib.hid (HB3.out.trans (hb4.mono HB3.out.size))
    have HZERO := Lib.hid (show ∀ x ∈ ds, cntN x op n k = 0 from fun x hx => by
      rw [HDS.out] at hx
      obtain ⟨v, rfl, h8, hv⟩ := nums_of hx
      exact uni_bound HU.out.symm h8 hv)
    have HSUM := Lib.hid (show ds.length + fs.length = az.length by rw [HDS.out, HFS.out, HAS.out]; exact uni_sum HU.out.symm)
    clear hown hI4 hb4 q0 q1 q2 HX3 HH3 HB3 HU
    go_wp2_with fail
    go_loopw [6] (fun i wr => ∃ (j : Nat), j ≤ ds.length ∧ i = .int .i64 j ∧ Below w4.heap.size w4 wr)
      (fun i _ => ds.length - (intOf i).toNat)
    case atStart => exact ⟨0, by omega, rfl, Below.refl _ _⟩
    case round =>
      obtain ⟨j, hj, rfl, hbr⟩ := hrel
      have hx := HX4.out.below hbr HX4.out.size
      have q0 := hx.cell (i := 0) rfl
      have q1 := hx.cell (i := 1) rfl
      have q2 := hx.cell (i := 2) rfl
      have p0 : wr.drew.cell? ⟨w1.heap.size, 0, none⟩ = some (.int .i64 op) := q0
      have p1 : wr.drew.cell? ⟨w1.heap.size, 1, none⟩ = some (.int .i64 n) := q1
      have p2 : wr.drew.cell? ⟨w1.heap.size, 2, none⟩ = some (.slice X k.len cx) := q2
      by_cases hlt : j < ds.length
      · have e1 := List.getElem?_eq_getElem hlt
        generalize ds[j] = x at e1
        have hz := HZERO.out x (List.mem_of_getElem? e1)
        obtain ⟨b, o, hA, _, hbb, ix, g1⟩ := (HD4.out.up hbr) j x e1
        subst hA
        have g2 : wr.drew.cell? ⟨b, o + j, none⟩ = some (.int .i64 x) := g1
        have hhr := HH4.out.up ((hbr).drew)
        have HCN := Lib.hid (implCount_r op n x k X cx 0 wr.drew.heap.size wr.drew hhr.1 (Nat.le_refl _) hhr.rows hk1 hk2 (by omega))
        have HBR := Lib.hid hbr
        have HZ := Lib.hid hz
        have hpos : decide (j < ds.length) = true := by simp; omega
        clear hz hhr hbr hx
        have E1 := Lib.hid e1
        clear e1
        go_wp2_with fail
        go_region_law (refine step_call (f := 16) rfl (by kernel_rfl) HCN.out ?_
                       rintro e w6 ⟨rfl, hb6⟩
                       refine ⟨_, rfl, ?_⟩
                       rw [HZ.out]
                       have HB6 := Lib.hid (HBR.out.trans (((Below.refl w4.heap.size wr).drew).trans (hb6.mono HBR.out.size)))
                       clear hb6)
        all_goals
          go_wp2_with fail
          go_roundw
          case rel => exact ⟨j + 1, hlt, by go_num, HB6.out⟩
          case measure => simp [intOf]; omega
      · have hhr := HH4.out.up ((hbr).drew)
        have HFC := Lib.hid (implFree_r op n k X cx 0 wr.drew.heap.size wr.drew hhr.1 (Nat.le_refl _) hhr.rows hk1 hk2 (by omega))
        have HHR := Lib.hid hhr
        have HXR := Lib.hid hx
        have HBR := Lib.hid (HB4.out.trans (hbr.mono HB4.out.size))
        clear hhr hbr hx
        go_wp2_with fail
        go_region_law (first
          | (refine step_call (f := 6) rfl (by kernel_rfl) HAC.out ?_
             rintro e w7 ⟨v7, rfl, hown7, hb7⟩
             rw [← HAS.out] at hown7
             obtain ⟨Za, ca, rfl, hI7⟩ := own_ints hown7 HAI.out
             refine ⟨_, rfl, ?_⟩
             have HB7 := Lib.hid (HB6.out.trans (hb7.mono HB6.out.size))
             clear hown7 hI7 hb7)
          | (refine step_call (f := 8) rfl (by kernel_rfl) HFC.out ?_
             rintro e w6 ⟨v6, rfl, hown6, hb6⟩
             rw [← HFS.out] at hown6
             obtain ⟨Zf, cf, rfl, hI6⟩ := own_ints hown6 HFI.out
             refine ⟨_, rfl, ?_⟩
             have hx6 := HXR.out.drew.below hb6 HXR.out.size
             have y0 := hx6.cell (i := 0) rfl
             have y1 := hx6.cell (i := 1) rfl
             have y2 := hx6.cell (i := 2) rfl
             have hh6 := HHR.out.up hb6
             have HAC := Lib.hid (implAll_r op n k X cx 0 w6.heap.size w6 hh6.1 (Nat.le_refl _) hh6.rows hk1 hk2 (by omega))
             have HB6 := Lib.hid (HBR.out.trans (((Below.refl w.heap.size wr).drew).trans (hb6.mono HBR.out.size)))
             clear hown6 hI6 hb6 hx6 hh6))
        all_goals
          have hsum : ((ds.length : Int) + (fs.length : Int) == (az.length : Int)) = true := by have := HSUM.out; simp; omega
          go_wp2_with fail
          go_ret
          exact ⟨ret_bool (by have := HSUM.out; first | rfl | (rw [IntKind.wrap_i64]; simp; omega) | (simp; omega)), HB7.out⟩
end Go.Proofs.Ytpoicdbjmhageaa
