/-
  The walk of the law FnReplaceRoot: true at every input (made by gen_nrr.py).
-/
import Derived.Test.YtkdjjkkcejijnaaDrawRA
import Derived.Test.YtkdjjkkcejijnaaReplI
import Derived.Test.YtkdjjkkcejijnaaReplT
import Derived.Test.YtkdjjkkcejijnaaISame
import Derived.Test.YtkdjjkkcejijnaaFmtM
namespace Go.Proofs.Ytkdjjkkcejijnaa
open Go.RowKit Go.Shelf
set_option maxRecDepth 100000

theorem ra_refl : ∀ f : Fo, sameFo f f = true
  | .nil => rfl
  | .cons _ _ k r => by simp [sameFo, ra_refl k, ra_refl r]
theorem raNrefl (op n : Int) (k : Fo) : sameN op n k op n k = true := by simp [sameN, ra_refl]

set_option maxHeartbeats 4000000 in
theorem law_NReplaceRoot (bs : List Nat) (A : Option Addr) (c : Nat) (w : World) (hl : LiesY w 0 w.heap.size A bs) (hlc : bs.length ≤ c) (hc : c ≤ maxLen) :
    Calls Try.prog 5 #[.slice A bs.length c] w (Gives (.bool true) w) := by
  have HC := Lib.hid (drawReplaceAt_any A c bs w hl hlc hc)
  unfold maxLen at hc
  by_cases hsz : bs.length ≤ 1048576
  rotate_left
  · have hgt : 1048576 < bs.length := by omega
    clear hl
    go_enter Try.func5, Try.ntmps5
    go_wp2_with fail
    go_ret
    exact ⟨rfl, Below.refl _ _⟩
  clear hl
  go_enter Try.func5, Try.ntmps5
  go_wp2_with fail
  refine HC.out.mono ?_
  rintro e w1 ⟨op, n, k, X, cx, zs, A2, c2, op2, n2, k2, X2, cx2, rfl, ⟨bl, hi, ht, hs⟩, hz, hm1, hm2, hm3, ⟨bl2, hi2, ht2, hs2⟩, hb⟩
  obtain ⟨_, _, hX, me1, me2⟩ := ht.slice
  injection hX with hX1 hX2 hX3
  subst hX3
  obtain ⟨_, _, hY, mx1, mx2⟩ := ht2.slice
  injection hY with hY1 hY2 hY3
  subst hY3
  obtain ⟨W, hW⟩ : ∃ W, W = (w1.alloc (Obj.cells #[.int .i64 op, .int .i64 n, .slice X k.len cx] 25)).alloc (Obj.cells #[.int .i64 op2, .int .i64 n2, .slice X2 k2.len cx2] 25) := ⟨_, rfl⟩
  have hbW : Below w1.heap.size w1 W := by rw [hW]; exact ((Below.refl _ _).alloc (Nat.le_refl _) _).alloc (by simp) _
  have hx : Row W w1.heap.size 25 #[.int .i64 op, .int .i64 n, .slice X k.len cx] := by rw [hW]; exact (Row.fresh _ _ _).alloc _
  have hx2 : Row W (w1.heap.size + 1) 25 #[.int .i64 op2, .int .i64 n2, .slice X2 k2.len cx2] := by
    rw [hW]
    have := Row.fresh (w1.alloc (Obj.cells #[.int .i64 op, .int .i64 n, .slice X k.len cx] 25)) 25 #[.int .i64 op2, .int .i64 n2, .slice X2 k2.len cx2]
    rw [World.size_alloc] at this
    exact this
  have hzW : LiesI W 0 W.heap.size A2 zs := LiesI.up (hz.keep (Nat.zero_le _) (Nat.le_refl _) fun _ _ _ => rfl) hbW
  have FE := Lib.hid (show ∀ U, Below W.heap.size W U → (U.cell? ⟨w1.heap.size, 0, none⟩ = some (Value.int .i64 op) ∧ U.cell? ⟨w1.heap.size, 1, none⟩ = some (Value.int .i64 n) ∧ U.cell? ⟨w1.heap.size, 2, none⟩ = some (Value.slice X k.len cx) ∧ U.cell? ⟨(w1.heap.size + 1), 0, none⟩ = some (Value.int .i64 op2) ∧ U.cell? ⟨(w1.heap.size + 1), 1, none⟩ = some (Value.int .i64 n2) ∧ U.cell? ⟨(w1.heap.size + 1), 2, none⟩ = some (Value.slice X2 k2.len cx2)) ∧ Held U U.heap.size X k ∧ Held U U.heap.size X2 k2 ∧ LiesI U 0 U.heap.size A2 zs ∧ Below w.heap.size w U from fun U hU => by
    have h1 := hx.below hU hx.size
    have h2 := hx2.below hU hx2.size
    exact ⟨⟨h1.cell rfl, h1.cell rfl, h1.cell rfl, h2.cell rfl, h2.cell rfl, h2.cell rfl⟩, (ht.held.up hbW).up hU, (ht2.held.up hbW).up hU, hzW.up hU, (hb.trans (hbW.mono hb.size)).trans (hU.mono (hb.trans (hbW.mono hb.size)).size)⟩)
  have HI := Lib.hid hi
  have HI2 := Lib.hid hi2
  obtain ⟨y, hy⟩ : ∃ y, y = (resR ⟨op, n, k⟩ zs ⟨op2, n2, k2⟩).getD nd0 := ⟨_, rfl⟩
  obtain ⟨ok, hok⟩ : ∃ ok, ok = (resR ⟨op, n, k⟩ zs ⟨op2, n2, k2⟩).isSome := ⟨_, rfl⟩
  have hys : y.k.size ≤ 1048576 := by rw [hy]; exact resR_le _ _ _
  have HY := Lib.hid hy
  have HOK := Lib.hid hok
  have HIM := Lib.hid (show ∀ U : World, Below W.heap.size W U → Calls Try.prog 20 #[.agg #[.int .i64 op, .int .i64 n, .slice X k.len cx], .slice A2 zs.length c2, .agg #[.int .i64 op2, .int .i64 n2, .slice X2 k2.len cx2]] U (GivesN y ok U) from fun U hU => by
    obtain ⟨-, h1, h2, h3, -⟩ := FE.out U hU
    rw [HY.out, HOK.out]
    exact implRepl_any op n k X cx zs A2 c2 op2 n2 k2 X2 cx2 U h1.1 (Nat.le_trans me1 me2) h2.1 (Nat.le_trans mx1 mx2) h3 hm3 HI.out HI2.out)
  have HSP := Lib.hid (show ∀ U : World, Below W.heap.size W U → Calls Try.prog 21 #[.agg #[.int .i64 op, .int .i64 n, .slice X k.len cx], .slice A2 zs.length c2, .agg #[.int .i64 op2, .int .i64 n2, .slice X2 k2.len cx2]] U (GivesN y ok U) from fun U hU => by
    obtain ⟨-, h1, h2, h3, -⟩ := FE.out U hU
    rw [HY.out, HOK.out]
    exact specRepl_any op n k X cx zs A2 c2 op2 n2 k2 X2 cx2 U h1.1 (Nat.le_trans me1 me2) h2.1 (Nat.le_trans mx1 mx2) h3 hm3 hm1 hm2 (by omega) (by omega) HI.out HI2.out)
  clear hb hbW ht ht2 hX1 hX2 hY1 hY2 HC hi hi2 hz hx hx2 hzW hy hok
  go_upto_region 4 with fail
  rw [← hW]
  clear hW
  obtain ⟨⟨q0, q1, q2, p0, p1, p2⟩, -⟩ := FE.out W (Below.refl _ _)
  go_wp2_with fail
  refine (HIM.out W (Below.refl _ _)).mono ?_
  rintro e w2 ⟨A3, c3, b3, rfl, ht3, hb2⟩
  obtain ⟨_, _, hZ, my1, my2⟩ := ht3.slice
  injection hZ with hZ1 hZ2 hZ3
  subst hZ3
  clear hZ1 hZ2
  obtain ⟨W3, hW3⟩ : ∃ U, U = w2.alloc (Obj.cells #[.int .i64 y.op, .int .i64 y.n, .slice A3 y.k.len c3] 25) := ⟨_, rfl⟩
  have bW3 : Below w2.heap.size w2 W3 := by rw [hW3]; exact (Below.refl _ _).alloc (Nat.le_refl _) _
  have rW3 : Row W3 w2.heap.size 25 #[.int .i64 y.op, .int .i64 y.n, .slice A3 y.k.len c3] := by rw [hW3]; exact Row.fresh _ _ _
  have FY := Lib.hid (show ∀ U, Below W3.heap.size W3 U → (U.cell? ⟨w2.heap.size, 0, none⟩ = some (Value.int .i64 y.op) ∧ U.cell? ⟨w2.heap.size, 1, none⟩ = some (Value.int .i64 y.n) ∧ U.cell? ⟨w2.heap.size, 2, none⟩ = some (Value.slice A3 y.k.len c3)) ∧ Held U U.heap.size A3 y.k ∧ Below W.heap.size W U from fun U hU => by
    have h1 := rW3.below hU rW3.size
    exact ⟨⟨h1.cell rfl, h1.cell rfl, h1.cell rfl⟩, (ht3.held.up bW3).up hU, (hb2.trans (bW3.mono hb2.size)).trans (hU.mono (hb2.trans (bW3.mono hb2.size)).size)⟩)
  clear ht3 hb2 bW3 rW3
  clear q0 q1 q2 p0 p1 p2
  go_upto_region 5 with fail
  rw [← hW3]
  clear hW3
  obtain ⟨⟨q0, q1, q2, p0, p1, p2⟩, -⟩ := FE.out W3 (FY.out W3 (Below.refl _ _)).2.2
  go_wp2_with fail
  refine (HSP.out W3 (FY.out W3 (Below.refl _ _)).2.2).mono ?_
  rintro e w4 ⟨A5, c5, b5, rfl, ht5, hb4⟩
  obtain ⟨_, _, hZ, mwant1, mwant2⟩ := ht5.slice
  injection hZ with hZ1 hZ2 hZ3
  subst hZ3
  clear hZ1 hZ2
  obtain ⟨W5, hW5⟩ : ∃ U, U = w4.alloc (Obj.cells #[.int .i64 y.op, .int .i64 y.n, .slice A5 y.k.len c5] 25) := ⟨_, rfl⟩
  have bW5 : Below w4.heap.size w4 W5 := by rw [hW5]; exact (Below.refl _ _).alloc (Nat.le_refl _) _
  have rW5 : Row W5 w4.heap.size 25 #[.int .i64 y.op, .int .i64 y.n, .slice A5 y.k.len c5] := by rw [hW5]; exact Row.fresh _ _ _
  have FW := Lib.hid (show ∀ U, Below W5.heap.size W5 U → (U.cell? ⟨w4.heap.size, 0, none⟩ = some (Value.int .i64 y.op) ∧ U.cell? ⟨w4.heap.size, 1, none⟩ = some (Value.int .i64 y.n) ∧ U.cell? ⟨w4.heap.size, 2, none⟩ = some (Value.slice A5 y.k.len c5)) ∧ Held U U.heap.size A5 y.k ∧ Below W3.heap.size W3 U from fun U hU => by
    have h1 := rW5.below hU rW5.size
    exact ⟨⟨h1.cell rfl, h1.cell rfl, h1.cell rfl⟩, (ht5.held.up bW5).up hU, (hb4.trans (bW5.mono hb4.size)).trans (hU.mono (hb4.trans (bW5.mono hb4.size)).size)⟩)
  clear ht5 hb4 bW5 rW5
  clear q0 q1 q2 p0 p1 p2
  go_upto_region 6 with fail
  rw [← hW5]
  clear hW5
  have hne : (ok != ok) = false := by simp
  obtain ⟨⟨t0, t1, t2⟩, hw5, b35⟩ := FW.out W5 (Below.refl _ _)
  obtain ⟨⟨s0, s1, s2⟩, hv5, -⟩ := FY.out W5 b35
  have HW5 := Lib.hid hw5
  have HV5 := Lib.hid hv5
  clear hw5 hv5 b35
  go_wp2_with fail
  refine (implSame_r y.op y.n y.op y.n y.k y.k A3 A5 c3 c5 W5 HV5.out.1 HW5.out.1 0 W5.heap.size HV5.out.1 (Nat.le_refl _) HV5.out.rows my1 my2 mwant1 mwant2 hys).mono ?_
  rintro e w6 ⟨rfl, hb6⟩
  rw [raNrefl]
  have HB6 := Lib.hid hb6
  clear hb6 s0 s1 s2 t0 t1 t2 HW5 HV5
  obtain ⟨S1, hS1, hd1a, hd1b⟩ := fmt_empty op n k
  obtain ⟨S2, hS2, hd2a, hd2b⟩ := fmt_empty op2 n2 k2
  have HF1 := Lib.hid (show ∀ U : World, Below W.heap.size W U → Calls Try.prog 9 #[.agg #[.int .i64 op, .int .i64 n, .slice X k.len cx]] U (Gives (.string S1) U) from fun U hU => by
    obtain ⟨-, h1, -⟩ := FE.out U hU
    have h := implFmt_t op n k X cx U h1.1 (Nat.le_trans me1 me2)
    rw [hS1] at h
    exact h)
  have HF2 := Lib.hid (show ∀ U : World, Below W.heap.size W U → Calls Try.prog 9 #[.agg #[.int .i64 op2, .int .i64 n2, .slice X2 k2.len cx2]] U (Gives (.string S2) U) from fun U hU => by
    obtain ⟨-, -, h1, -⟩ := FE.out U hU
    have h := implFmt_t op2 n2 k2 X2 cx2 U h1.1 (Nat.le_trans mx1 mx2)
    rw [hS2] at h
    exact h)
  clear hS1 hS2
  have BW6 := Lib.hid (FY.out w6 (FW.out w6 HB6.out).2.2).2.2
  obtain ⟨⟨q0, q1, q2, p0, p1, p2⟩, -⟩ := FE.out w6 BW6.out
  go_wp2_with fail
  refine (HF1.out w6 BW6.out).mono ?_
  rintro e w7 ⟨rfl, hb7⟩
  have HB7 := Lib.hid (HB6.out.trans (hb7.mono HB6.out.size))
  have BW7 := Lib.hid (BW6.out.trans (hb7.mono BW6.out.size))
  clear hb7 q0 q1 q2 p0 p1 p2
  cases hn1 : nodeIs op n k (firstS 8) with
  | false =>
    have hd1 : S1 = ⟨#[]⟩ := hd1a hn1
    clear hd1a hd1b hd2a hd2b
    subst hd1
    obtain ⟨⟨t0, t1, t2⟩, hw6, b36⟩ := FW.out w7 HB7.out
    obtain ⟨⟨s0, s1, s2⟩, hv6, bw6⟩ := FY.out w7 b36
    have HW6 := Lib.hid hw6
    have HV6 := Lib.hid hv6
    have HBW := Lib.hid (FE.out w7 bw6).2.2.2.2
    clear hw6 hv6 b36 bw6
    go_wp2_with fail
    refine (implSame_r y.op y.n y.op y.n y.k y.k A3 A5 c3 c5 w7 HV6.out.1 HW6.out.1 0 w7.heap.size HV6.out.1 (Nat.le_refl _) HV6.out.rows my1 my2 mwant1 mwant2 hys).mono ?_
    rintro e w10 ⟨rfl, hb10⟩
    rw [raNrefl]
    have HB10 := Lib.hid (HBW.out.trans (hb10.mono HBW.out.size))
    clear hb10
    go_wp2_with fail
    go_ret
    exact ⟨by simp, HB10.out⟩
  | true =>
    have hd1x : ¬ S1.toList = [] := hd1b hn1
    have hd1y : (S1.toList == ([] : List UInt8)) = false := by simpa using hd1x
    obtain ⟨⟨q0, q1, q2, p0, p1, p2⟩, -⟩ := FE.out w7 BW7.out
    go_wp2_with fail
    refine (HF2.out w7 BW7.out).mono ?_
    rintro e w8 ⟨rfl, hb8⟩
    have HB8 := Lib.hid (HB7.out.trans (hb8.mono HB7.out.size))
    have BW8 := Lib.hid (BW7.out.trans (hb8.mono BW7.out.size))
    clear hb8 q0 q1 q2 p0 p1 p2
    cases hn2 : nodeIs op2 n2 k2 (firstS 8) with
    | false =>
      have hd2 : S2 = ⟨#[]⟩ := hd2a hn2
      clear hd1a hd1b hd2a hd2b
      subst hd2
      obtain ⟨⟨t0, t1, t2⟩, hw6, b36⟩ := FW.out w8 HB8.out
      obtain ⟨⟨s0, s1, s2⟩, hv6, bw6⟩ := FY.out w8 b36
      have HW6 := Lib.hid hw6
      have HV6 := Lib.hid hv6
      have HBW := Lib.hid (FE.out w8 bw6).2.2.2.2
      clear hw6 hv6 b36 bw6
      go_wp2_with fail
      refine (implSame_r y.op y.n y.op y.n y.k y.k A3 A5 c3 c5 w8 HV6.out.1 HW6.out.1 0 w8.heap.size HV6.out.1 (Nat.le_refl _) HV6.out.rows my1 my2 mwant1 mwant2 hys).mono ?_
      rintro e w10 ⟨rfl, hb10⟩
      rw [raNrefl]
      have HB10 := Lib.hid (HBW.out.trans (hb10.mono HBW.out.size))
      clear hb10
      go_wp2_with fail
      go_ret
      exact ⟨by simp, HB10.out⟩
    | true =>
      have hd2x : ¬ S2.toList = [] := hd2b hn2
      have hd2y : (S2.toList == ([] : List UInt8)) = false := by simpa using hd2x
      obtain ⟨xx, hxx⟩ : ∃ z : Nd, z = ⟨op2, n2, k2⟩ := ⟨_, rfl⟩
      have hres : resR ⟨op, n, k⟩ [] ⟨op2, n2, k2⟩ = some xx := by
        rw [hxx]
        simp [resR, partN, replN, ndIs, hn1, hn2]
      have HXX := Lib.hid hxx
      have hxs : xx.k.size ≤ 1048576 := by rw [hxx]; exact (by omega : k2.size ≤ 1048576)
      have HRB := Lib.hid (show Calls Try.prog 20 #[.agg #[.int .i64 op, .int .i64 n, .slice X k.len cx], .slice none 0 0, .agg #[.int .i64 op2, .int .i64 n2, .slice X2 k2.len cx2]] w8 (GivesN xx true w8) by
        obtain ⟨-, h1, h2, -⟩ := FE.out w8 BW8.out
        have h := implRepl_any op n k X cx [] none 0 op2 n2 k2 X2 cx2 w8 h1.1 (Nat.le_trans me1 me2) h2.1 (Nat.le_trans mx1 mx2) (by intro i x hx; simp at hx) (by simp) HI.out HI2.out
        rw [hres] at h
        exact h)
      clear hxx hres hn1 hn2
      obtain ⟨⟨q0, q1, q2, p0, p1, p2⟩, -⟩ := FE.out w8 BW8.out
      go_wp2_with fail
      refine HRB.out.mono ?_
      rintro e w9 ⟨A9, c9, b9, rfl, ht9, hb9⟩
      obtain ⟨_, _, hZ, mpart1, mpart2⟩ := ht9.slice
      injection hZ with hZ1 hZ2 hZ3
      subst hZ3
      clear hZ1 hZ2
      obtain ⟨W10, hW10⟩ : ∃ U, U = w9.alloc (Obj.cells #[.int .i64 xx.op, .int .i64 xx.n, .slice A9 xx.k.len c9] 25) := ⟨_, rfl⟩
      have bW10 : Below w9.heap.size w9 W10 := by rw [hW10]; exact (Below.refl _ _).alloc (Nat.le_refl _) _
      have rW10 : Row W10 w9.heap.size 25 #[.int .i64 xx.op, .int .i64 xx.n, .slice A9 xx.k.len c9] := by rw [hW10]; exact Row.fresh _ _ _
      have FP := Lib.hid (show ∀ U, Below W10.heap.size W10 U → (U.cell? ⟨w9.heap.size, 0, none⟩ = some (Value.int .i64 xx.op) ∧ U.cell? ⟨w9.heap.size, 1, none⟩ = some (Value.int .i64 xx.n) ∧ U.cell? ⟨w9.heap.size, 2, none⟩ = some (Value.slice A9 xx.k.len c9)) ∧ Held U U.heap.size A9 xx.k ∧ Below w8.heap.size w8 U from fun U hU => by
        have h1 := rW10.below hU rW10.size
        exact ⟨⟨h1.cell rfl, h1.cell rfl, h1.cell rfl⟩, (ht9.held.up bW10).up hU, (hb9.trans (bW10.mono hb9.size)).trans (hU.mono (hb9.trans (bW10.mono hb9.size)).size)⟩)
      clear ht9 hb9 bW10 rW10
      clear q0 q1 q2 p0 p1 p2
      go_upto_region 9 with fail
      rw [← hW10]
      clear hW10
      obtain ⟨⟨t0, t1, t2⟩, ho10, b8⟩ := FP.out W10 (Below.refl _ _)
      have BW10 := Lib.hid (BW8.out.trans (b8.mono BW8.out.size))
      obtain ⟨⟨q0, q1, q2, p0, p1, p2⟩, -, hh2, -, hbw⟩ := FE.out W10 BW10.out
      have HO10 := Lib.hid ho10
      have HH2 := Lib.hid hh2
      have HBW := Lib.hid hbw
      clear ho10 b8 hh2 hbw
      go_wp2_with fail
      refine (implSame_r xx.op xx.n op2 n2 xx.k k2 A9 X2 c9 cx2 W10 HO10.out.1 HH2.out.1 0 W10.heap.size HO10.out.1 (Nat.le_refl _) HO10.out.rows mpart1 mpart2 mx1 mx2 hxs).mono ?_
      rintro e w11 ⟨rfl, hb11⟩
      rw [show sameN xx.op xx.n xx.k op2 n2 k2 = true from by rw [HXX.out]; exact raNrefl _ _ _]
      have HB11 := Lib.hid (HBW.out.trans (hb11.mono HBW.out.size))
      clear hb11
      go_wp2_with fail
      go_ret
      exact ⟨rfl, HB11.out⟩
end Go.Proofs.Ytkdjjkkcejijnaa
