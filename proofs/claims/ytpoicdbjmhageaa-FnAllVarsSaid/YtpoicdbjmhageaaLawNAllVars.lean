/-
  The walk of the law FnAllVars: true at every input.
-/
import Derived.Test.YtpoicdbjmhageaaDrawE
import Derived.Test.YtpoicdbjmhageaaTreeP
import Derived.Test.YtpoicdbjmhageaaImplAll
import Derived.Test.YtpoicdbjmhageaaImplBound
import Derived.Test.YtpoicdbjmhageaaSpecAll
import Derived.Test.YtpoicdbjmhageaaSpecBound
import Derived.Test.YtpoicdbjmhageaaAllD
import Derived.Test.YtpoicdbjmhageaaAm
namespace Go.Proofs.Ytpoicdbjmhageaa
open Go.RowKit Go.Shelf
set_option maxRecDepth 100000

theorem numsUpto_i64 (S : Nat → Bool) : ∀ x, x ∈ numsUpto S 8 → I64 x := fun x hx => by
  obtain ⟨v, rfl, h, _⟩ := nums_of hx
  unfold I64
  omega

set_option maxHeartbeats 4000000 in
theorem law_NAllVars (bs : List Nat) (A : Option Addr) (c : Nat) (w : World) (hl : LiesY w 0 w.heap.size A bs) (hlc : bs.length ≤ c) (hc : c ≤ maxLen) :
    Calls Try.prog 3 #[.slice A bs.length c] w (Gives (.bool true) w) := by
  have HC := Lib.hid (drawAllVars_any A c bs w hl hlc hc)
  unfold maxLen at hc
  by_cases hsz : bs.length ≤ 1048576
  rotate_left
  · have hgt : 1048576 < bs.length := by omega
    clear hl
    go_enter Try.func3, Try.ntmps3
    go_wp2_with fail
    go_ret
    exact ⟨rfl, Below.refl _ _⟩
  clear hl
  go_enter Try.func3, Try.ntmps3
  go_wp2_with fail
  refine HC.out.mono ?_
  rintro e w1 ⟨op, n, k, X, cx, rfl, ⟨bl, hi, ht, hs⟩, hb⟩
  obtain ⟨_, _, hX, hk1, hk2⟩ := ht.slice
  injection hX with hX1 hX2 hX3
  subst hX3
  obtain ⟨W, hW⟩ : ∃ W, W = w1.alloc (Obj.cells #[.int .i64 op, .int .i64 n, .slice X k.len cx] 25) := ⟨_, rfl⟩
  have hbW : Below w1.heap.size w1 W := by rw [hW]; exact (Below.refl _ _).alloc (Nat.le_refl _) _
  have hx : Row W w1.heap.size 25 #[.int .i64 op, .int .i64 n, .slice X k.len cx] := by rw [hW]; exact Row.fresh _ _ _
  have HX := Lib.hid hx
  have HH := Lib.hid ((ht.held).up hbW)
  have HB := Lib.hid (hb.trans (hbW.mono hb.size))
  obtain ⟨az, has⟩ : ∃ az, az = numsUpto (hasB ownVL ⟨op, n, k⟩) 8 := ⟨_, rfl⟩
  obtain ⟨ds, hds⟩ : ∃ ds, ds = numsUpto (hasB ownLet ⟨op, n, k⟩) 8 := ⟨_, rfl⟩
  obtain ⟨fs, hfs⟩ : ∃ fs, fs = freeUpto op n k 8 := ⟨_, rfl⟩
  have hal : az.length ≤ 8 := by rw [has]; exact numsUpto_len _ 8
  have hdl : ds.length ≤ 8 := by rw [hds]; exact numsUpto_len _ 8
  have hda : decide ((az.length : Int) ≥ (ds.length : Int)) = true := by
    have : ds.length ≤ az.length := by rw [has, hds]; exact nums_len_le (fun v h => bound_all v op n k h) 8
    simp; omega
  have hfa : decide ((az.length : Int) ≥ (fs.length : Int)) = true := by
    have : fs.length ≤ az.length := by rw [has, hfs, freeUpto_nums]; exact nums_len_le (fun v h => free_all v op n k (of_decide_eq_true h)) 8
    simp; omega
  have HDA := Lib.hid hda
  have HFA := Lib.hid hfa
  have hfl : fs.length ≤ 8 := by rw [hfs]; exact freeUpto_len _ _ _ 8
  have HAI := Lib.hid (show ∀ x ∈ az, I64 x by rw [has]; exact numsUpto_i64 _)
  have HDI := Lib.hid (show ∀ x ∈ ds, I64 x by rw [hds]; exact numsUpto_i64 _)
  have HFI := Lib.hid (show ∀ x ∈ fs, I64 x by rw [hfs]; exact fun x hx => freeUpto_small _ _ _ 8 x (Nat.le_refl _) hx)
  have HOR := Lib.hid (show ∀ x ∈ az, decide (x ∈ ds) = false → decide (x ∈ fs) = true from fun x hx hd => by
    rw [has] at hx
    obtain ⟨v, rfl, h8, hv⟩ := nums_of hx
    rw [hds, nums_dec _ h8] at hd
    rw [hfs, freeUpto_nums, nums_dec _ h8]
    rcases all_bound_free v op n k hv with h | h
    · rw [hd] at h; cases h
    · exact decide_eq_true h)
  have HAS := Lib.hid has
  have HDS := Lib.hid hds
  have HFS := Lib.hid hfs
  clear hb hbW ht hX1 HC hi has hds hfs hda hfa
  go_upto_region 4 with fail
  rw [← hW]
  clear hW
  have q0 := hx.cell (i := 0) rfl
  have q1 := hx.cell (i := 1) rfl
  have q2 := hx.cell (i := 2) rfl
  clear hx
  go_wp2_with fail
  refine (implAll_r op n k X cx 0 W.heap.size W HH.out.1 (Nat.le_refl _) HH.out.rows hk1 hk2 (by omega)).mono ?_
  rintro e w2 ⟨v2, rfl, hown, hb2⟩
  rw [← HAS.out] at hown
  obtain ⟨Za, ca, rfl, hI2⟩ := own_ints hown HAI.out
  have HA2 := Lib.hid (hI2.mono_ (Nat.zero_le _) (Nat.le_refl _))
  have hx := HX.out.below hb2 HX.out.size
  have HX2 := Lib.hid hx
  have HH2 := Lib.hid (HH.out.up hb2)
  have HB2 := Lib.hid (HB.out.trans (hb2.mono HB.out.size))
  clear hown hI2 hb2 q0 q1 q2 HX HH HB
  have q0 := hx.cell (i := 0) rfl
  have q1 := hx.cell (i := 1) rfl
  have q2 := hx.cell (i := 2) rfl
  clear hx
  go_wp2_with fail
  refine (implBound_r op n k X cx 0 w2.heap.size w2 HH2.out.1 (Nat.le_refl _) HH2.out.rows hk1 hk2 (by omega)).mono ?_
  rintro e w3 ⟨v3, rfl, hown, hb3⟩
  rw [← HDS.out] at hown
  obtain ⟨Zd, cd, rfl, hI3⟩ := own_ints hown HDI.out
  have HD3 := Lib.hid (hI3.mono_ (Nat.zero_le _) (Nat.le_refl _))
  have HA3 := Lib.hid (HA2.out.up hb3)
  have hx := HX2.out.below hb3 HX2.out.size
  have HX3 := Lib.hid hx
  have HH3 := Lib.hid (HH2.out.up hb3)
  have HB3 := Lib.hid (HB2.out.trans (hb3.mono HB2.out.size))
  clear hown hI3 hb3 q0 q1 q2 HX2 HH2 HB2 HA2
  have q0 := hx.cell (i := 0) rfl
  have q1 := hx.cell (i := 1) rfl
  have q2 := hx.cell (i := 2) rfl
  clear hx
  go_wp2_with fail
  refine (implFree_r op n k X cx 0 w3.heap.size w3 HH3.out.1 (Nat.le_refl _) HH3.out.rows hk1 hk2 (by omega)).mono ?_
  rintro e w4 ⟨v4, rfl, hown, hb4⟩
  rw [← HFS.out] at hown
  obtain ⟨Zf, cf, rfl, hI4⟩ := own_ints hown HFI.out
  have HF4 := Lib.hid (hI4.mono_ (Nat.zero_le _) (Nat.le_refl _))
  have HA4 := Lib.hid (HA3.out.up hb4)
  have HD4 := Lib.hid (HD3.out.up hb4)
  have hx := HX3.out.below hb4 HX3.out.size
  have HX4 := Lib.hid hx
  have HH4 := Lib.hid (HH3.out.up hb4)
  have HB4 := Lib.hid (HB3.out.trans (hb4.mono HB3.out.size))
  clear hown hI4 hb4 q0 q1 q2 HX3 HH3 HB3 HA3 HD3
  have q0 := hx.cell (i := 0) rfl
  have q1 := hx.cell (i := 1) rfl
  have q2 := hx.cell (i := 2) rfl
  clear hx
  go_wp2_with fail
  refine (specAll_any op n k X cx w4 HH4.out.1 (by omega)).mono ?_
  rintro e w5 ⟨v5, rfl, hown, hb5⟩
  rw [← HAS.out] at hown
  obtain ⟨Z5, c5, rfl, hI5⟩ := own_ints hown HAI.out
  have HE5 := Lib.hid (hI5.mono_ (Nat.zero_le _) (Nat.le_refl _))
  have HA5 := Lib.hid (HA4.out.up hb5)
  have HD5 := Lib.hid (HD4.out.up hb5)
  have HF5 := Lib.hid (HF4.out.up hb5)
  have HX5 := Lib.hid (HX4.out.below hb5 HX4.out.size)
  have HH5 := Lib.hid (HH4.out.up hb5)
  have HB5 := Lib.hid (HB4.out.trans (hb5.mono HB4.out.size))
  clear hown hI5 hb5 q0 q1 q2 HX4 HH4 HB4 HA4 HD4 HF4
  go_wp2_with fail
  refine (amInts_any az az Za Z5 ca c5 w5 HA5.out HE5.out (by omega) (by omega)).mono ?_
  rintro e w6 ⟨rfl, hb6⟩
  rw [show decide (az = az) = true from by simp]
  have hx := HX5.out.below hb6 HX5.out.size
  have HA6 := Lib.hid (HA5.out.up hb6)
  have HD6 := Lib.hid (HD5.out.up hb6)
  have HF6 := Lib.hid (HF5.out.up hb6)
  have HH6 := Lib.hid (HH5.out.up hb6)
  have HB6 := Lib.hid (HB5.out.trans (hb6.mono HB5.out.size))
  clear hb6 HX5 HH5 HB5 HA5 HD5 HF5 HE5
  have q0 := hx.cell (i := 0) rfl
  have q1 := hx.cell (i := 1) rfl
  have q2 := hx.cell (i := 2) rfl
  clear hx
  go_wp2_with fail
  refine (specBound_any op n k X cx w6 HH6.out.1 (by omega)).mono ?_
  rintro e w7 ⟨v7, rfl, hown, hb7⟩
  rw [← HDS.out] at hown
  obtain ⟨Z7, c7, rfl, hI7⟩ := own_ints hown HDI.out
  have HE7 := Lib.hid (hI7.mono_ (Nat.zero_le _) (Nat.le_refl _))
  have HA7 := Lib.hid (HA6.out.up hb7)
  have HD7 := Lib.hid (HD6.out.up hb7)
  have HF7 := Lib.hid (HF6.out.up hb7)
  have HB7 := Lib.hid (HB6.out.trans (hb7.mono HB6.out.size))
  clear hown hI7 hb7 q0 q1 q2 HH6 HB6 HA6 HD6 HF6
  go_wp2_with fail
  refine (amInts_any ds ds Zd Z7 cd c7 w7 HD7.out HE7.out (by omega) (by omega)).mono ?_
  rintro e w8 ⟨rfl, hb8⟩
  rw [show decide (ds = ds) = true from by simp]
  have HA8 := Lib.hid (HA7.out.up hb8)
  have HD8 := Lib.hid (HD7.out.up hb8)
  have HF8 := Lib.hid (HF7.out.up hb8)
  have HB8 := Lib.hid (HB7.out.trans (hb8.mono HB7.out.size))
  clear hb8 HB7 HA7 HD7 HF7 HE7
  go_wp2_with fail
  go_loopw [7] (fun i wr => ∃ (j : Nat), j ≤ az.length ∧ i = .int .i64 j ∧ Below w8.heap.size w8 wr)
    (fun i _ => az.length - (intOf i).toNat)
  case atStart => exact ⟨0, by omega, rfl, Below.refl _ _⟩
  case round =>
    obtain ⟨j, hj, rfl, hbr⟩ := hrel
    by_cases hlt : j < az.length
    · have e1 := List.getElem?_eq_getElem hlt
      generalize az[j] = x at e1
      have hm : x ∈ az := List.mem_of_getElem? e1
      have hor := HOR.out x hm
      obtain ⟨b, o, hA, _, hbb, ix, g1⟩ := (HA8.out.up hbr) j x e1
      subst hA
      have HBR := Lib.hid hbr
      obtain ⟨y, hy⟩ : ∃ y, y = decide (x ∈ ds) := ⟨_, rfl⟩
      rw [← hy] at hor
      have HY := Lib.hid hy
      have HO := Lib.hid hor
      clear hy hor hm hbr
      have E1 := Lib.hid e1
      clear e1
      go_wp2_with fail
      refine (amIn_any ds Zd cd x _ (HD8.out.up HBR.out) (by omega)).mono ?_
      rintro e w10 ⟨rfl, hb10⟩
      rw [← HY.out]
      have g2 := (hb10.cell (p := ⟨b, o + j, none⟩) (World.block_lt_of_cell? _ _ g1)).trans g1
      have HB10 := Lib.hid (HBR.out.trans (hb10.mono HBR.out.size))
      clear hb10 g1
      cases y with
      | true =>
        go_wp2_with fail
        go_roundw
        case rel => exact ⟨j + 1, hlt, by go_num, HB10.out⟩
        case measure => simp [intOf]; omega
      | false =>
        go_wp2_with fail
        refine (amIn_any fs Zf cf x _ (HF8.out.up HB10.out) (by omega)).mono ?_
        rintro e w11 ⟨rfl, hb11⟩
        rw [show decide (x ∈ fs) = true from by first | exact HO.out rfl | exact HO.out trivial]
        have HB11 := Lib.hid (HB10.out.trans (hb11.mono HB10.out.size))
        clear hb11 g2
        go_wp2_with fail
        go_roundw
        case rel => exact ⟨j + 1, hlt, by go_num, HB11.out⟩
        case measure => simp [intOf]; omega
    · have HBE := Lib.hid (HB8.out.trans (hbr.mono HB8.out.size))
      have h1 : decide (ds.length ≤ az.length) = true := by have h := HDA.out; simp at h ⊢; omega
      have h2 : decide (fs.length ≤ az.length) = true := by have h := HFA.out; simp at h ⊢; omega
      clear hbr
      go_wp2_with fail
      go_ret
      exact ⟨ret_bool (by first | rfl | exact h2), HBE.out⟩
end Go.Proofs.Ytpoicdbjmhageaa
