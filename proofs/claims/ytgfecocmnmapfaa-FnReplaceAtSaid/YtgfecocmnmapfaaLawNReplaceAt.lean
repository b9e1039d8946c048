/-
  The walk of the law FnReplaceAt: true at every input (made by gen_nra.py).
-/
import Derived.Test.YtgfecocmnmapfaaDrawRA
import Derived.Test.YtgfecocmnmapfaaReplA
import Derived.Test.YtgfecocmnmapfaaReplI
import Derived.Test.YtgfecocmnmapfaaReplT
import Derived.Test.YtgfecocmnmapfaaPartI
import Derived.Test.YtgfecocmnmapfaaISame
import Derived.Test.YtgfecocmnmapfaaISize
namespace Go.Proofs.Ytgfecocmnmapfaa
open Go.RowKit Go.Shelf
set_option maxRecDepth 100000

theorem ra_refl : ∀ f : Fo, sameFo f f = true
  | .nil => rfl
  | .cons _ _ k r => by simp [sameFo, ra_refl k, ra_refl r]
theorem raNrefl (op n : Int) (k : Fo) : sameN op n k op n k = true := by simp [sameN, ra_refl]

theorem part_i64A {w : World} {L B : Nat} : ∀ (zs : List Int) (p : Nd) (A : Option Addr) {q : Nd}, Lies w L B A 0 p.k → (I64 p.op ∧ I64 p.n) → partN p zs = some q → I64 q.op ∧ I64 q.n
  | [], p, _, q, _, h, e => by simp only [partN, Option.some.injEq] at e; rw [← e]; exact h
  | i :: r, p, A, q, hl, h, e => by
    by_cases h0 : 0 ≤ i
    · by_cases h1 : i.toNat < p.k.len
      · obtain ⟨o, m, k, e1, _, _⟩ := Fo.drop_of_lt p.k i.toNat h1
        rw [partN_in h0 e1] at e
        have ha := Lies.at_ i.toNat hl
        rw [e1] at ha
        obtain ⟨⟨b, o2, A', c', hA, hL, hB, x1, x2, x3, x4, x5, x6, x7, x8⟩, _⟩ := ha
        exact part_i64A r ⟨o, m, k⟩ A' x8 ⟨x1, x2⟩ e
      · rw [partN_out (by omega)] at e; cases e
    · rw [partN_neg (by omega)] at e; cases e

set_option maxHeartbeats 4000000 in
theorem law_NReplaceAt (bs : List Nat) (A : Option Addr) (c : Nat) (w : World) (hl : LiesY w 0 w.heap.size A bs) (hlc : bs.length ≤ c) (hc : c ≤ maxLen) :
    Calls Try.prog 3 #[.slice A bs.length c] w (Gives (.bool true) w) := by
  have HC := Lib.hid (drawReplaceAt_any A c bs w hl hlc hc)
  unfold maxLen at hc
  by_cases hsz : bs.length ≤ 1048576
  rotate_left
  · have hgt : 1048576 < bs.length := by omega
    clear hl
    go_enter Try.func3, Try.ntmps3
    go_wp2_with fail
    go_ret
    exact ⟨rfl, Below.refl _ _⟩
  clear hl
  go_enter Try.func3, Try.ntmps3
  go_wp2_with fail
  refine HC.out.mono ?_
  rintro e w1 ⟨op, n, k, X, cx, zs, A2, c2, op2, n2, k2, X2, cx2, rfl, ⟨bl, hi, ht, hs⟩, hz, hm1, hm2, hm3, ⟨bl2, hi2, ht2, hs2⟩, hb⟩
  obtain ⟨_, _, hX, me1, me2⟩ := ht.slice
  injection hX with hX1 hX2 hX3
  subst hX3
  obtain ⟨_, _, hY, mx1, mx2⟩ := ht2.slice
  injection hY with hY1 hY2 hY3
  subst hY3
  obtain ⟨W, hW⟩ : ∃ W, W = (w1.alloc (Obj.cells #[.int .i64 op, .int .i64 n, .slice X k.len cx] 25)).alloc (Obj.cells #[.int .i64 op2, .int .i64 n2, .slice X2 k2.len cx2] 25) := ⟨_, rfl⟩
  have hbW : Below w1.heap.size w1 W := by rw [hW]; exact ((Below.refl _ _).alloc (Nat.le_refl _) _).alloc (by simp) _
  have hx : Row W w1.heap.size 25 #[.int .i64 op, .int .i64 n, .slice X k.len cx] := by rw [hW]; exact (Row.fresh _ _ _).alloc _
  have hx2 : Row W (w1.heap.size + 1) 25 #[.int .i64 op2, .int .i64 n2, .slice X2 k2.len cx2] := by
    rw [hW]
    have := Row.fresh (w1.alloc (Obj.cells #[.int .i64 op, .int .i64 n, .slice X k.len cx] 25)) 25 #[.int .i64 op2, .int .i64 n2, .slice X2 k2.len cx2]
    rw [World.size_alloc] at this
    exact this
  have hzW : LiesI W 0 W.heap.size A2 zs := LiesI.up (hz.keep (Nat.zero_le _) (Nat.le_refl _) fun _ _ _ => rfl) hbW
  have FE := Lib.hid (show ∀ U, Below W.heap.size W U → (U.cell? ⟨w1.heap.size, 0, none⟩ = some (Value.int .i64 op) ∧ U.cell? ⟨w1.heap.size, 1, none⟩ = some (Value.int .i64 n) ∧ U.cell? ⟨w1.heap.size, 2, none⟩ = some (Value.slice X k.len cx) ∧ U.cell? ⟨(w1.heap.size + 1), 0, none⟩ = some (Value.int .i64 op2) ∧ U.cell? ⟨(w1.heap.size + 1), 1, none⟩ = some (Value.int .i64 n2) ∧ U.cell? ⟨(w1.heap.size + 1), 2, none⟩ = some (Value.slice X2 k2.len cx2)) ∧ Held U U.heap.size X k ∧ Held U U.heap.size X2 k2 ∧ LiesI U 0 U.heap.size A2 zs ∧ Below w.heap.size w U from fun U hU => by
    have h1 := hx.below hU hx.size
    have h2 := hx2.below hU hx2.size
    exact ⟨⟨h1.cell rfl, h1.cell rfl, h1.cell rfl, h2.cell rfl, h2.cell rfl, h2.cell rfl⟩, (ht.held.up hbW).up hU, (ht2.held.up hbW).up hU, hzW.up hU, (hb.trans (hbW.mono hb.size)).trans (hU.mono (hb.trans (hbW.mono hb.size)).size)⟩)
  have HI := Lib.hid hi
  have HI2 := Lib.hid hi2
  obtain ⟨y, hy⟩ : ∃ y, y = (resR ⟨op, n, k⟩ zs ⟨op2, n2, k2⟩).getD nd0 := ⟨_, rfl⟩
  obtain ⟨ok, hok⟩ : ∃ ok, ok = (resR ⟨op, n, k⟩ zs ⟨op2, n2, k2⟩).isSome := ⟨_, rfl⟩
  have hys : y.k.size ≤ 1048576 := by rw [hy]; exact resR_le _ _ _
  have HY := Lib.hid hy
  have HOK := Lib.hid hok
  have HIM := Lib.hid (show ∀ U : World, Below W.heap.size W U → Calls Try.prog 5 #[.agg #[.int .i64 op, .int .i64 n, .slice X k.len cx], .slice A2 zs.length c2, .agg #[.int .i64 op2, .int .i64 n2, .slice X2 k2.len cx2]] U (GivesN y ok U) from fun U hU => by
    obtain ⟨-, h1, h2, h3, -⟩ := FE.out U hU
    rw [HY.out, HOK.out]
    exact implRepl_any op n k X cx zs A2 c2 op2 n2 k2 X2 cx2 U h1.1 (Nat.le_trans me1 me2) h2.1 (Nat.le_trans mx1 mx2) h3 hm3 HI.out HI2.out)
  have HSP := Lib.hid (show ∀ U : World, Below W.heap.size W U → Calls Try.prog 6 #[.agg #[.int .i64 op, .int .i64 n, .slice X k.len cx], .slice A2 zs.length c2, .agg #[.int .i64 op2, .int .i64 n2, .slice X2 k2.len cx2]] U (GivesN y ok U) from fun U hU => by
    obtain ⟨-, h1, h2, h3, -⟩ := FE.out U hU
    rw [HY.out, HOK.out]
    exact specRepl_any op n k X cx zs A2 c2 op2 n2 k2 X2 cx2 U h1.1 (Nat.le_trans me1 me2) h2.1 (Nat.le_trans mx1 mx2) h3 hm3 hm1 hm2 (by omega) (by omega) HI.out HI2.out)
  clear hb hbW ht ht2 hX1 hX2 hY1 hY2 HC hi hi2 hz hx hx2 hzW hy hok
  go_upto_region 4 with fail
  rw [← hW]
  clear hW
  obtain ⟨⟨q0, q1, q2, p0, p1, p2⟩, -⟩ := FE.out W (Below.refl _ _)
  go_wp2_with fail
  refine (HIM.out W (Below.refl _ _)).mono ?_
  rintro e w2 ⟨A3, c3, b3, rfl, ht3, hb2⟩
  obtain ⟨_, _, hZ, my1, my2⟩ := ht3.slice
  injection hZ with hZ1 hZ2 hZ3
  subst hZ3
  clear hZ1 hZ2
  obtain ⟨W3, hW3⟩ : ∃ U, U = w2.alloc (Obj.cells #[.int .i64 y.op, .int .i64 y.n, .slice A3 y.k.len c3] 25) := ⟨_, rfl⟩
  have bW3 : Below w2.heap.size w2 W3 := by rw [hW3]; exact (Below.refl _ _).alloc (Nat.le_refl _) _
  have rW3 : Row W3 w2.heap.size 25 #[.int .i64 y.op, .int .i64 y.n, .slice A3 y.k.len c3] := by rw [hW3]; exact Row.fresh _ _ _
  have FY := Lib.hid (show ∀ U, Below W3.heap.size W3 U → (U.cell? ⟨w2.heap.size, 0, none⟩ = some (Value.int .i64 y.op) ∧ U.cell? ⟨w2.heap.size, 1, none⟩ = some (Value.int .i64 y.n) ∧ U.cell? ⟨w2.heap.size, 2, none⟩ = some (Value.slice A3 y.k.len c3)) ∧ Held U U.heap.size A3 y.k ∧ Below W.heap.size W U from fun U hU => by
    have h1 := rW3.below hU rW3.size
    exact ⟨⟨h1.cell rfl, h1.cell rfl, h1.cell rfl⟩, (ht3.held.up bW3).up hU, (hb2.trans (bW3.mono hb2.size)).trans (hU.mono (hb2.trans (bW3.mono hb2.size)).size)⟩)
  clear ht3 hb2 bW3 rW3
  clear q0 q1 q2 p0 p1 p2
  go_upto_region 5 with fail
  rw [← hW3]
  clear hW3
  obtain ⟨⟨q0, q1, q2, p0, p1, p2⟩, -⟩ := FE.out W3 (FY.out W3 (Below.refl _ _)).2.2
  go_wp2_with fail
  refine (HSP.out W3 (FY.out W3 (Below.refl _ _)).2.2).mono ?_
  rintro e w4 ⟨A5, c5, b5, rfl, ht5, hb4⟩
  obtain ⟨_, _, hZ, mwant1, mwant2⟩ := ht5.slice
  injection hZ with hZ1 hZ2 hZ3
  subst hZ3
  clear hZ1 hZ2
  obtain ⟨W5, hW5⟩ : ∃ U, U = w4.alloc (Obj.cells #[.int .i64 y.op, .int .i64 y.n, .slice A5 y.k.len c5] 25) := ⟨_, rfl⟩
  have bW5 : Below w4.heap.size w4 W5 := by rw [hW5]; exact (Below.refl _ _).alloc (Nat.le_refl _) _
  have rW5 : Row W5 w4.heap.size 25 #[.int .i64 y.op, .int .i64 y.n, .slice A5 y.k.len c5] := by rw [hW5]; exact Row.fresh _ _ _
  have FW := Lib.hid (show ∀ U, Below W5.heap.size W5 U → (U.cell? ⟨w4.heap.size, 0, none⟩ = some (Value.int .i64 y.op) ∧ U.cell? ⟨w4.heap.size, 1, none⟩ = some (Value.int .i64 y.n) ∧ U.cell? ⟨w4.heap.size, 2, none⟩ = some (Value.slice A5 y.k.len c5)) ∧ Held U U.heap.size A5 y.k ∧ Below W3.heap.size W3 U from fun U hU => by
    have h1 := rW5.below hU rW5.size
    exact ⟨⟨h1.cell rfl, h1.cell rfl, h1.cell rfl⟩, (ht5.held.up bW5).up hU, (hb4.trans (bW5.mono hb4.size)).trans (hU.mono (hb4.trans (bW5.mono hb4.size)).size)⟩)
  clear ht5 hb4 bW5 rW5
  clear q0 q1 q2 p0 p1 p2
  go_upto_region 6 with fail
  rw [← hW5]
  clear hW5
  have hne : (ok != ok) = false := by simp
  obtain ⟨⟨t0, t1, t2⟩, hw5, b35⟩ := FW.out W5 (Below.refl _ _)
  obtain ⟨⟨s0, s1, s2⟩, hv5, -⟩ := FY.out W5 b35
  have HW5 := Lib.hid hw5
  have HV5 := Lib.hid hv5
  clear hw5 hv5 b35
  go_wp2_with fail
  refine (implSame_r y.op y.n y.op y.n y.k y.k A3 A5 c3 c5 W5 HV5.out.1 HW5.out.1 0 W5.heap.size HV5.out.1 (Nat.le_refl _) HV5.out.rows my1 my2 mwant1 mwant2 hys).mono ?_
  rintro e w6 ⟨rfl, hb6⟩
  rw [raNrefl]
  have HB6 := Lib.hid hb6
  clear hb6 s0 s1 s2 t0 t1 t2 hne HW5 HV5
  cases ok with
  | false =>
    obtain ⟨⟨t0, t1, t2⟩, hw6, b36⟩ := FW.out w6 HB6.out
    obtain ⟨⟨s0, s1, s2⟩, hv6, bw6⟩ := FY.out w6 b36
    have HW6 := Lib.hid hw6
    have HV6 := Lib.hid hv6
    have HBW := Lib.hid (FE.out w6 bw6).2.2.2.2
    clear hw6 hv6 b36 bw6
    go_wp2_with fail
    refine (implSame_r y.op y.n y.op y.n y.k y.k A3 A5 c3 c5 w6 HV6.out.1 HW6.out.1 0 w6.heap.size HV6.out.1 (Nat.le_refl _) HV6.out.rows my1 my2 mwant1 mwant2 hys).mono ?_
    rintro e w10 ⟨rfl, hb10⟩
    rw [raNrefl]
    have HB10 := Lib.hid (HBW.out.trans (hb10.mono HBW.out.size))
    clear hb10
    go_wp2_with fail
    go_ret
    exact ⟨rfl, HB10.out⟩
  | true =>
    have hres : resR ⟨op, n, k⟩ zs ⟨op2, n2, k2⟩ = some y := by
      cases hp : resR ⟨op, n, k⟩ zs ⟨op2, n2, k2⟩ with
      | none => have := HOK.out; rw [hp] at this; cases this
      | some z => have := HY.out; rw [hp] at this; rw [this]; rfl
    obtain ⟨q, hq0, hq1, hq2, hq3, hq4, z1, z2, z3, z4⟩ := res_all hres
    have z1 : k.size ≤ 80 := z1
    have z2 : k2.size ≤ 80 := z2
    have hq4 : y.k.size + q.k.size = k.size + k2.size := hq4
    obtain ⟨xx, hxx⟩ : ∃ z : Nd, z = ⟨op2, n2, k2⟩ := ⟨_, rfl⟩
    obtain ⟨pp, hpp⟩ : ∃ z : Nd, z = ⟨op, n, k⟩ := ⟨_, rfl⟩
    have hyi : I64 y.op ∧ I64 y.n := by rw [hq0]; exact repl_i64 HI.out HI2.out zs
    have hqi : I64 q.op ∧ I64 q.n := part_i64A zs ⟨op, n, k⟩ X (FE.out W (Below.refl _ _)).2.1.1 HI.out hq1
    have HXX := Lib.hid hxx
    have HPP := Lib.hid hpp
    have HYI := Lib.hid hyi
    have HQI := Lib.hid hqi
    have HQ1 := Lib.hid hq1
    have HQ2 := Lib.hid (show partN ⟨y.op, y.n, y.k⟩ zs = some xx by rw [hxx]; exact hq2)
    have HQ3 := Lib.hid (show resR ⟨y.op, y.n, y.k⟩ zs ⟨q.op, q.n, q.k⟩ = some pp by rw [hpp]; exact hq3)
    have hps : pp.k.size ≤ 80 := by rw [hpp]; exact z1
    have hxs : xx.k.size ≤ 80 := by rw [hxx]; exact z2
    have HP1 := Lib.hid (show ∀ U : World, Below W3.heap.size W3 U → Calls Try.prog 8 #[.agg #[.int .i64 y.op, .int .i64 y.n, .slice A3 y.k.len c3], .slice A2 zs.length c2] U (GivesN xx true U) from fun U hU => by
      obtain ⟨-, h1, h2⟩ := FY.out U hU
      obtain ⟨-, -, -, h3, -⟩ := FE.out U h2
      have h := implPart_r y.op y.n y.k A3 c3 zs A2 c2 0 U.heap.size U h1.1 (Nat.le_refl _) h1.rows my1 my2 h3 hm3 hys HYI.out
      rw [HQ2.out] at h
      exact h)
    have HP2 := Lib.hid (show ∀ U : World, Below W.heap.size W U → Calls Try.prog 8 #[.agg #[.int .i64 op, .int .i64 n, .slice X k.len cx], .slice A2 zs.length c2] U (GivesN q true U) from fun U hU => by
      obtain ⟨-, h1, h2, h3, -⟩ := FE.out U hU
      have h := implPart_r op n k X cx zs A2 c2 0 U.heap.size U h1.1 (Nat.le_refl _) h1.rows me1 me2 h3 hm3 (by omega) HI.out
      rw [HQ1.out] at h
      exact h)
    clear hres hq0 hq1 hq2 hq3 hxx hpp hyi hqi HIM HSP HY HOK
    obtain ⟨-, -, b36⟩ := FW.out w6 HB6.out
    obtain ⟨⟨s0, s1, s2⟩, hv6, bw6⟩ := FY.out w6 b36
    have B36 := Lib.hid b36
    clear hv6 bw6 b36 FW
    go_wp2_with fail
    refine (HP1.out w6 B36.out).mono ?_
    rintro e w7 ⟨A7, c7, b7, rfl, ht7, hb7⟩
    obtain ⟨_, _, hZ, mpart1, mpart2⟩ := ht7.slice
    injection hZ with hZ1 hZ2 hZ3
    subst hZ3
    clear hZ1 hZ2
    obtain ⟨W8, hW8⟩ : ∃ U, U = w7.alloc (Obj.cells #[.int .i64 xx.op, .int .i64 xx.n, .slice A7 xx.k.len c7] 25) := ⟨_, rfl⟩
    have bW8 : Below w7.heap.size w7 W8 := by rw [hW8]; exact (Below.refl _ _).alloc (Nat.le_refl _) _
    have rW8 : Row W8 w7.heap.size 25 #[.int .i64 xx.op, .int .i64 xx.n, .slice A7 xx.k.len c7] := by rw [hW8]; exact Row.fresh _ _ _
    have FP := Lib.hid (show ∀ U, Below W8.heap.size W8 U → (U.cell? ⟨w7.heap.size, 0, none⟩ = some (Value.int .i64 xx.op) ∧ U.cell? ⟨w7.heap.size, 1, none⟩ = some (Value.int .i64 xx.n) ∧ U.cell? ⟨w7.heap.size, 2, none⟩ = some (Value.slice A7 xx.k.len c7)) ∧ Held U U.heap.size A7 xx.k ∧ Below w6.heap.size w6 U from fun U hU => by
      have h1 := rW8.below hU rW8.size
      exact ⟨⟨h1.cell rfl, h1.cell rfl, h1.cell rfl⟩, (ht7.held.up bW8).up hU, (hb7.trans (bW8.mono hb7.size)).trans (hU.mono (hb7.trans (bW8.mono hb7.size)).size)⟩)
    clear ht7 hb7 bW8 rW8
    clear s0 s1 s2
    go_upto_region 9 with fail
    rw [← hW8]
    clear hW8
    have B68 := Lib.hid (FP.out W8 (Below.refl _ _)).2.2
    have B38 := Lib.hid (B36.out.trans (B68.out.mono B36.out.size))
    have BW8 := Lib.hid (FY.out W8 B38.out).2.2
    obtain ⟨⟨q0, q1, q2, p0, p1, p2⟩, -⟩ := FE.out W8 BW8.out
    clear p0 p1 p2
    go_wp2_with fail
    refine (HP2.out W8 BW8.out).mono ?_
    rintro e w9 ⟨A9, c9, b9, rfl, ht9, hb9⟩
    obtain ⟨_, _, hZ, mold1, mold2⟩ := ht9.slice
    injection hZ with hZ1 hZ2 hZ3
    subst hZ3
    clear hZ1 hZ2
    obtain ⟨W10, hW10⟩ : ∃ U, U = w9.alloc (Obj.cells #[.int .i64 q.op, .int .i64 q.n, .slice A9 q.k.len c9] 25) := ⟨_, rfl⟩
    have bW10 : Below w9.heap.size w9 W10 := by rw [hW10]; exact (Below.refl _ _).alloc (Nat.le_refl _) _
    have rW10 : Row W10 w9.heap.size 25 #[.int .i64 q.op, .int .i64 q.n, .slice A9 q.k.len c9] := by rw [hW10]; exact Row.fresh _ _ _
    have FO := Lib.hid (show ∀ U, Below W10.heap.size W10 U → (U.cell? ⟨w9.heap.size, 0, none⟩ = some (Value.int .i64 q.op) ∧ U.cell? ⟨w9.heap.size, 1, none⟩ = some (Value.int .i64 q.n) ∧ U.cell? ⟨w9.heap.size, 2, none⟩ = some (Value.slice A9 q.k.len c9)) ∧ Held U U.heap.size A9 q.k ∧ Below W8.heap.size W8 U from fun U hU => by
      have h1 := rW10.below hU rW10.size
      exact ⟨⟨h1.cell rfl, h1.cell rfl, h1.cell rfl⟩, (ht9.held.up bW10).up hU, (hb9.trans (bW10.mono hb9.size)).trans (hU.mono (hb9.trans (bW10.mono hb9.size)).size)⟩)
    clear ht9 hb9 bW10 rW10
    clear q0 q1 q2
    go_upto_region 10 with fail
    rw [← hW10]
    clear hW10
    obtain ⟨⟨t0, t1, t2⟩, ho10, b8⟩ := FO.out W10 (Below.refl _ _)
    have B310 := Lib.hid (B38.out.trans (b8.mono B38.out.size))
    obtain ⟨⟨s0, s1, s2⟩, hv10, bw10⟩ := FY.out W10 B310.out
    have h := implRepl_any y.op y.n y.k A3 c3 zs A2 c2 q.op q.n q.k A9 c9 W10 hv10.1 (Nat.le_trans my1 my2) ho10.1 (Nat.le_trans mold1 mold2) (FE.out W10 bw10).2.2.2.1 hm3 HYI.out HQI.out
    rw [HQ3.out] at h
    have HRB := Lib.hid (show Calls Try.prog 5 #[.agg #[.int .i64 y.op, .int .i64 y.n, .slice A3 y.k.len c3], .slice A2 zs.length c2, .agg #[.int .i64 q.op, .int .i64 q.n, .slice A9 q.k.len c9]] W10 (GivesN pp true W10) from h)
    clear h ho10 b8 hv10 bw10
    go_wp2_with fail
    refine HRB.out.mono ?_
    rintro e w11 ⟨B1, d1, b11, rfl, ht11, hb11⟩
    obtain ⟨_, _, hZ, mback1, mback2⟩ := ht11.slice
    injection hZ with hZ1 hZ2 hZ3
    subst hZ3
    clear hZ1 hZ2
    obtain ⟨W12, hW12⟩ : ∃ U, U = w11.alloc (Obj.cells #[.int .i64 pp.op, .int .i64 pp.n, .slice B1 pp.k.len d1] 25) := ⟨_, rfl⟩
    have bW12 : Below w11.heap.size w11 W12 := by rw [hW12]; exact (Below.refl _ _).alloc (Nat.le_refl _) _
    have rW12 : Row W12 w11.heap.size 25 #[.int .i64 pp.op, .int .i64 pp.n, .slice B1 pp.k.len d1] := by rw [hW12]; exact Row.fresh _ _ _
    have FB := Lib.hid (show ∀ U, Below W12.heap.size W12 U → (U.cell? ⟨w11.heap.size, 0, none⟩ = some (Value.int .i64 pp.op) ∧ U.cell? ⟨w11.heap.size, 1, none⟩ = some (Value.int .i64 pp.n) ∧ U.cell? ⟨w11.heap.size, 2, none⟩ = some (Value.slice B1 pp.k.len d1)) ∧ Held U U.heap.size B1 pp.k ∧ Below W10.heap.size W10 U from fun U hU => by
      have h1 := rW12.below hU rW12.size
      exact ⟨⟨h1.cell rfl, h1.cell rfl, h1.cell rfl⟩, (ht11.held.up bW12).up hU, (hb11.trans (bW12.mono hb11.size)).trans (hU.mono (hb11.trans (bW12.mono hb11.size)).size)⟩)
    clear ht11 hb11 bW12 rW12
    clear t0 t1 t2 s0 s1 s2 HRB
    have HALL := Lib.hid (show ∀ U, Below W12.heap.size W12 U → (U.cell? ⟨w1.heap.size, 0, none⟩ = some (Value.int .i64 op) ∧ U.cell? ⟨w1.heap.size, 1, none⟩ = some (Value.int .i64 n) ∧ U.cell? ⟨w1.heap.size, 2, none⟩ = some (Value.slice X k.len cx) ∧ U.cell? ⟨(w1.heap.size + 1), 0, none⟩ = some (Value.int .i64 op2) ∧ U.cell? ⟨(w1.heap.size + 1), 1, none⟩ = some (Value.int .i64 n2) ∧ U.cell? ⟨(w1.heap.size + 1), 2, none⟩ = some (Value.slice X2 k2.len cx2) ∧ U.cell? ⟨w2.heap.size, 0, none⟩ = some (Value.int .i64 y.op) ∧ U.cell? ⟨w2.heap.size, 1, none⟩ = some (Value.int .i64 y.n) ∧ U.cell? ⟨w2.heap.size, 2, none⟩ = some (Value.slice A3 y.k.len c3) ∧ U.cell? ⟨w7.heap.size, 0, none⟩ = some (Value.int .i64 xx.op) ∧ U.cell? ⟨w7.heap.size, 1, none⟩ = some (Value.int .i64 xx.n) ∧ U.cell? ⟨w7.heap.size, 2, none⟩ = some (Value.slice A7 xx.k.len c7) ∧ U.cell? ⟨w9.heap.size, 0, none⟩ = some (Value.int .i64 q.op) ∧ U.cell? ⟨w9.heap.size, 1, none⟩ = some (Value.int .i64 q.n) ∧ U.cell? ⟨w9.heap.size, 2, none⟩ = some (Value.slice A9 q.k.len c9) ∧ U.cell? ⟨w11.heap.size, 0, none⟩ = some (Value.int .i64 pp.op) ∧ U.cell? ⟨w11.heap.size, 1, none⟩ = some (Value.int .i64 pp.n) ∧ U.cell? ⟨w11.heap.size, 2, none⟩ = some (Value.slice B1 pp.k.len d1)) ∧ Held U U.heap.size X k ∧ Held U U.heap.size X2 k2 ∧ Held U U.heap.size A3 y.k ∧ Held U U.heap.size A7 xx.k ∧ Held U U.heap.size A9 q.k ∧ Held U U.heap.size B1 pp.k ∧ Below w.heap.size w U from fun U hU => by
      obtain ⟨⟨f0, f1, f2⟩, hf, bf⟩ := FB.out U hU
      obtain ⟨⟨o0, o1, o2⟩, ho, bo⟩ := FO.out U bf
      obtain ⟨⟨a0, a1, a2⟩, ha, ba⟩ := FP.out U bo
      obtain ⟨⟨y0, y1, y2⟩, hy, byy⟩ := FY.out U (B36.out.trans (ba.mono B36.out.size))
      obtain ⟨⟨e0, e1, e2, x0, x1, x2⟩, he, hx, -, bw⟩ := FE.out U byy
      exact ⟨⟨e0, e1, e2, x0, x1, x2, y0, y1, y2, a0, a1, a2, o0, o1, o2, f0, f1, f2⟩, he, hx, hy, ha, ho, hf, bw⟩)
    have HFIN := Lib.hid (show (1 + (y.k.size : Int) == IntKind.i64.wrap (IntKind.i64.wrap (1 + (k.size : Int) - (1 + (q.k.size : Int))) + (1 + (k2.size : Int)))) = true from by
      have hw : ∀ z : Int, -1000 ≤ z → z ≤ 9223372036854775807 → IntKind.i64.wrap z = z := fun z g1 g2 => by rw [IntKind.wrap_i64]; omega
      rw [hw (1 + (k.size : Int) - (1 + (q.k.size : Int))) (by omega) (by omega), hw (1 + (k.size : Int) - (1 + (q.k.size : Int)) + (1 + (k2.size : Int))) (by omega) (by omega), beq_iff_eq]
      omega)
    have hbd : Below W12.heap.size W12 W12.drew := (Below.refl _ _).drew
    have HD0 := Lib.hid hbd
    have s0 := (HALL.out _ HD0.out).1
    clear hbd hq4
    go_upto_region 11 with fail
    rw [← hW12]
    clear hW12
    refine wp_region_held_drew (S := fun w' => w'.cell? ⟨w1.heap.size, 0, none⟩ = some (Value.int .i64 op) ∧ w'.cell? ⟨w1.heap.size, 1, none⟩ = some (Value.int .i64 n) ∧ w'.cell? ⟨w1.heap.size, 2, none⟩ = some (Value.slice X k.len cx) ∧ w'.cell? ⟨(w1.heap.size + 1), 0, none⟩ = some (Value.int .i64 op2) ∧ w'.cell? ⟨(w1.heap.size + 1), 1, none⟩ = some (Value.int .i64 n2) ∧ w'.cell? ⟨(w1.heap.size + 1), 2, none⟩ = some (Value.slice X2 k2.len cx2) ∧ w'.cell? ⟨w2.heap.size, 0, none⟩ = some (Value.int .i64 y.op) ∧ w'.cell? ⟨w2.heap.size, 1, none⟩ = some (Value.int .i64 y.n) ∧ w'.cell? ⟨w2.heap.size, 2, none⟩ = some (Value.slice A3 y.k.len c3) ∧ w'.cell? ⟨w7.heap.size, 0, none⟩ = some (Value.int .i64 xx.op) ∧ w'.cell? ⟨w7.heap.size, 1, none⟩ = some (Value.int .i64 xx.n) ∧ w'.cell? ⟨w7.heap.size, 2, none⟩ = some (Value.slice A7 xx.k.len c7) ∧ w'.cell? ⟨w9.heap.size, 0, none⟩ = some (Value.int .i64 q.op) ∧ w'.cell? ⟨w9.heap.size, 1, none⟩ = some (Value.int .i64 q.n) ∧ w'.cell? ⟨w9.heap.size, 2, none⟩ = some (Value.slice A9 q.k.len c9) ∧ w'.cell? ⟨w11.heap.size, 0, none⟩ = some (Value.int .i64 pp.op) ∧ w'.cell? ⟨w11.heap.size, 1, none⟩ = some (Value.int .i64 pp.n) ∧ w'.cell? ⟨w11.heap.size, 2, none⟩ = some (Value.slice B1 pp.k.len d1)) (by kernel_rfl) s0 (fun hHeld => ?_)
    refine takeW 0 (v := ?vx1_0) rfl (by kernel_rfl) (fun _ _ _ h => h) (by rfl) (by assumption) ?yx1_0 ?rx1_0
    case yx1_0 => (intro w' hSw; (try dsimp only at hSw); go_simp; try with_reducible rfl)
    try simp only [Act.put, List.setIfInBounds_toArray, List.set_cons_zero, List.set_cons_succ, List.getElem_toArray, List.getElem_cons_zero]
    refine takeW 1 (v := ?vx1_1) rfl (by kernel_rfl) (fun _ _ _ h => h) (by rfl) (by assumption) ?yx1_1 ?rx1_1
    case yx1_1 => (intro w' hSw; (try dsimp only at hSw); go_simp; try with_reducible rfl)
    try simp only [Act.put, List.setIfInBounds_toArray, List.set_cons_zero, List.set_cons_succ, List.getElem_toArray, List.getElem_cons_succ, List.getElem_cons_zero]
    refine takeW 2 (v := ?vx1_2) rfl (by kernel_rfl) (fun _ _ _ h => h) (by rfl) (by assumption) ?yx1_2 ?rx1_2
    case yx1_2 => (intro w' hSw; (try dsimp only at hSw); go_simp; try with_reducible rfl)
    try simp only [Act.put, List.setIfInBounds_toArray, List.set_cons_zero, List.set_cons_succ, List.getElem_toArray, List.getElem_cons_succ, List.getElem_cons_zero]
    refine takeW 3 (v := ?vx1_3) rfl (by kernel_rfl) (fun _ _ _ h => h) (by rfl) (by assumption) ?yx1_3 ?rx1_3
    case yx1_3 => (intro w' hSw; (try dsimp only at hSw); go_simp; try with_reducible rfl)
    try simp only [Act.put, List.setIfInBounds_toArray, List.set_cons_zero, List.set_cons_succ, List.getElem_toArray, List.getElem_cons_succ, List.getElem_cons_zero]
    refine wpAnyH_ready (rs := [4]) (by kernel_rfl) (by simp) ?_
    refine AllReadyH.cons rfl (fun K hK => ?_) AllReadyH.nil
    go_simp
    refine (implSame_r xx.op xx.n op2 n2 xx.k k2 A7 X2 c7 cx2 W12.drew (HALL.out _ HD0.out).2.2.2.2.1.1 (HALL.out _ HD0.out).2.2.1.1 0 W12.drew.heap.size (HALL.out _ HD0.out).2.2.2.2.1.1 (Nat.le_refl _) (HALL.out _ HD0.out).2.2.2.2.1.rows mpart1 mpart2 mx1 mx2 (by omega)).mono ?_
    rintro e v1 ⟨rfl, hv1⟩
    rw [show sameN xx.op xx.n xx.k op2 n2 k2 = true from by rw [HXX.out]; exact raNrefl _ _ _]
    have HD1 := Lib.hid (show Below W12.heap.size W12 v1 from HD0.out.trans (hv1.mono HD0.out.size))
    have st1 := (HALL.out _ HD1.out).1
    clear hv1
    refine hK.out _ _ (st1) (fun hHeldB1 => ?_)
    clear hK K
    try simp only [Act.put, List.setIfInBounds_toArray, List.set_cons_zero, List.set_cons_succ, List.getElem_toArray, List.getElem_cons_succ, List.getElem_cons_zero]
    refine takeW 5 (v := ?vx2_5) rfl (by kernel_rfl) (fun _ _ _ h => h) (by rfl) (by assumption) ?yx2_5 ?rx2_5
    case yx2_5 => (intro w' hSw; (try dsimp only at hSw); go_simp; try with_reducible rfl)
    try simp only [Act.put, List.setIfInBounds_toArray, List.set_cons_zero, List.set_cons_succ, List.getElem_toArray, List.getElem_cons_succ, List.getElem_cons_zero]
    refine takeW 6 (v := ?vx2_6) rfl (by kernel_rfl) (fun _ _ _ h => h) (by rfl) (by assumption) ?yx2_6 ?rx2_6
    case yx2_6 => (intro w' hSw; (try dsimp only at hSw); go_simp; try with_reducible rfl)
    try simp only [Act.put, List.setIfInBounds_toArray, List.set_cons_zero, List.set_cons_succ, List.getElem_toArray, List.getElem_cons_succ, List.getElem_cons_zero]
    refine takeW 7 (v := ?vx2_7) rfl (by kernel_rfl) (fun _ _ _ h => h) (by rfl) (by assumption) ?yx2_7 ?rx2_7
    case yx2_7 => (intro w' hSw; (try dsimp only at hSw); go_simp; try with_reducible rfl)
    try simp only [Act.put, List.setIfInBounds_toArray, List.set_cons_zero, List.set_cons_succ, List.getElem_toArray, List.getElem_cons_succ, List.getElem_cons_zero]
    refine takeW 8 (v := ?vx2_8) rfl (by kernel_rfl) (fun _ _ _ h => h) (by rfl) (by assumption) ?yx2_8 ?rx2_8
    case yx2_8 => (intro w' hSw; (try dsimp only at hSw); go_simp; try with_reducible rfl)
    try simp only [Act.put, List.setIfInBounds_toArray, List.set_cons_zero, List.set_cons_succ, List.getElem_toArray, List.getElem_cons_succ, List.getElem_cons_zero]
    refine takeW 9 (v := ?vx2_9) rfl (by kernel_rfl) (fun _ _ _ h => h) (by rfl) (by assumption) ?yx2_9 ?rx2_9
    case yx2_9 => (intro w' hSw; (try dsimp only at hSw); go_simp; try with_reducible rfl)
    try simp only [Act.put, List.setIfInBounds_toArray, List.set_cons_zero, List.set_cons_succ, List.getElem_toArray, List.getElem_cons_succ, List.getElem_cons_zero]
    refine takeW 10 (v := ?vx2_10) rfl (by kernel_rfl) (fun _ _ _ h => h) (by rfl) (by assumption) ?yx2_10 ?rx2_10
    case yx2_10 => (intro w' hSw; (try dsimp only at hSw); go_simp; try with_reducible rfl)
    try simp only [Act.put, List.setIfInBounds_toArray, List.set_cons_zero, List.set_cons_succ, List.getElem_toArray, List.getElem_cons_succ, List.getElem_cons_zero]
    refine takeW 11 (v := ?vx2_11) rfl (by kernel_rfl) (fun _ _ _ h => h) (by rfl) (by assumption) ?yx2_11 ?rx2_11
    case yx2_11 => (intro w' hSw; (try dsimp only at hSw); go_simp; try with_reducible rfl)
    try simp only [Act.put, List.setIfInBounds_toArray, List.set_cons_zero, List.set_cons_succ, List.getElem_toArray, List.getElem_cons_succ, List.getElem_cons_zero]
    refine wpAnyH_ready (rs := [12]) (by kernel_rfl) (by simp) ?_
    refine AllReadyH.cons rfl (fun K hK => ?_) AllReadyH.nil
    go_simp
    refine (implSame_r pp.op pp.n op n pp.k k B1 X d1 cx v1 (HALL.out _ HD1.out).2.2.2.2.2.2.1.1 (HALL.out _ HD1.out).2.1.1 0 v1.heap.size (HALL.out _ HD1.out).2.2.2.2.2.2.1.1 (Nat.le_refl _) (HALL.out _ HD1.out).2.2.2.2.2.2.1.rows mback1 mback2 me1 me2 (by omega)).mono ?_
    rintro e v2 ⟨rfl, hv2⟩
    rw [show sameN pp.op pp.n pp.k op n k = true from by rw [HPP.out]; exact raNrefl _ _ _]
    have HD2 := Lib.hid (show Below W12.heap.size W12 v2 from HD1.out.trans (hv2.mono HD1.out.size))
    have st2 := (HALL.out _ HD2.out).1
    clear hv2
    refine hK.out _ _ (st2) (fun hHeldB2 => ?_)
    clear hK K
    try simp only [Act.put, List.setIfInBounds_toArray, List.set_cons_zero, List.set_cons_succ, List.getElem_toArray, List.getElem_cons_succ, List.getElem_cons_zero]
    refine takeW 13 (v := ?vx3_13) rfl (by kernel_rfl) (fun _ _ _ h => h) (by rfl) (by assumption) ?yx3_13 ?rx3_13
    case yx3_13 => (intro w' hSw; (try dsimp only at hSw); go_simp; try with_reducible rfl)
    try simp only [Act.put, List.setIfInBounds_toArray, List.set_cons_zero, List.set_cons_succ, List.getElem_toArray, List.getElem_cons_succ, List.getElem_cons_zero]
    refine takeW 14 (v := ?vx3_14) rfl (by kernel_rfl) (fun _ _ _ h => h) (by rfl) (by assumption) ?yx3_14 ?rx3_14
    case yx3_14 => (intro w' hSw; (try dsimp only at hSw); go_simp; try with_reducible rfl)
    try simp only [Act.put, List.setIfInBounds_toArray, List.set_cons_zero, List.set_cons_succ, List.getElem_toArray, List.getElem_cons_succ, List.getElem_cons_zero]
    refine takeW 15 (v := ?vx3_15) rfl (by kernel_rfl) (fun _ _ _ h => h) (by rfl) (by assumption) ?yx3_15 ?rx3_15
    case yx3_15 => (intro w' hSw; (try dsimp only at hSw); go_simp; try with_reducible rfl)
    try simp only [Act.put, List.setIfInBounds_toArray, List.set_cons_zero, List.set_cons_succ, List.getElem_toArray, List.getElem_cons_succ, List.getElem_cons_zero]
    refine takeW 17 (v := ?vx3_17) rfl (by kernel_rfl) (fun _ _ _ h => h) (by rfl) (by assumption) ?yx3_17 ?rx3_17
    case yx3_17 => (intro w' hSw; (try dsimp only at hSw); go_simp; try with_reducible rfl)
    try simp only [Act.put, List.setIfInBounds_toArray, List.set_cons_zero, List.set_cons_succ, List.getElem_toArray, List.getElem_cons_succ, List.getElem_cons_zero]
    refine takeW 19 (v := ?vx3_19) rfl (by kernel_rfl) (fun _ _ _ h => h) (by rfl) (by assumption) ?yx3_19 ?rx3_19
    case yx3_19 => (intro w' hSw; (try dsimp only at hSw); go_simp; try with_reducible rfl)
    try simp only [Act.put, List.setIfInBounds_toArray, List.set_cons_zero, List.set_cons_succ, List.getElem_toArray, List.getElem_cons_succ, List.getElem_cons_zero]
    refine takeW 22 (v := ?vx3_22) rfl (by kernel_rfl) (fun _ _ _ h => h) (by rfl) (by assumption) ?yx3_22 ?rx3_22
    case yx3_22 => (intro w' hSw; (try dsimp only at hSw); go_simp; try with_reducible rfl)
    try simp only [Act.put, List.setIfInBounds_toArray, List.set_cons_zero, List.set_cons_succ, List.getElem_toArray, List.getElem_cons_succ, List.getElem_cons_zero]
    refine wpAnyH_ready (rs := [16]) (by kernel_rfl) (by simp) ?_
    refine AllReadyH.cons rfl (fun K hK => ?_) AllReadyH.nil
    go_simp
    refine (implSize_r y.op y.n y.k A3 c3 0 v2.heap.size v2 (HALL.out _ HD2.out).2.2.2.1.1 (Nat.le_refl _) (HALL.out _ HD2.out).2.2.2.1.rows my1 my2 (by omega)).mono ?_
    rintro e v3 ⟨rfl, hv3⟩
    have HD3 := Lib.hid (show Below W12.heap.size W12 v3 from HD2.out.trans (hv3.mono HD2.out.size))
    have st3 := (HALL.out _ HD3.out).1
    clear hv3
    refine hK.out _ _ (st3) (fun hHeldB3 => ?_)
    clear hK K
    try simp only [Act.put, List.setIfInBounds_toArray, List.set_cons_zero, List.set_cons_succ, List.getElem_toArray, List.getElem_cons_succ, List.getElem_cons_zero]
    refine wpAnyH_ready (rs := [18]) (by kernel_rfl) (by simp) ?_
    refine AllReadyH.cons rfl (fun K hK => ?_) AllReadyH.nil
    go_simp
    refine (implSize_r op n k X cx 0 v3.heap.size v3 (HALL.out _ HD3.out).2.1.1 (Nat.le_refl _) (HALL.out _ HD3.out).2.1.rows me1 me2 (by omega)).mono ?_
    rintro e v4 ⟨rfl, hv4⟩
    have HD4 := Lib.hid (show Below W12.heap.size W12 v4 from HD3.out.trans (hv4.mono HD3.out.size))
    have st4 := (HALL.out _ HD4.out).1
    clear hv4
    refine hK.out _ _ (st4) (fun hHeldB4 => ?_)
    clear hK K
    try simp only [Act.put, List.setIfInBounds_toArray, List.set_cons_zero, List.set_cons_succ, List.getElem_toArray, List.getElem_cons_succ, List.getElem_cons_zero]
    refine wpAnyH_ready (rs := [20]) (by kernel_rfl) (by simp) ?_
    refine AllReadyH.cons rfl (fun K hK => ?_) AllReadyH.nil
    go_simp
    refine (implSize_r q.op q.n q.k A9 c9 0 v4.heap.size v4 (HALL.out _ HD4.out).2.2.2.2.2.1.1 (Nat.le_refl _) (HALL.out _ HD4.out).2.2.2.2.2.1.rows mold1 mold2 (by omega)).mono ?_
    rintro e v5 ⟨rfl, hv5⟩
    have HD5 := Lib.hid (show Below W12.heap.size W12 v5 from HD4.out.trans (hv5.mono HD4.out.size))
    have st5 := (HALL.out _ HD5.out).1
    clear hv5
    refine hK.out _ _ (st5) (fun hHeldB5 => ?_)
    clear hK K
    try simp only [Act.put, List.setIfInBounds_toArray, List.set_cons_zero, List.set_cons_succ, List.getElem_toArray, List.getElem_cons_succ, List.getElem_cons_zero]
    refine takeW 21 (v := ?vx6_21) rfl (by kernel_rfl) (fun _ _ _ h => h) (by rfl) (by assumption) ?yx6_21 ?rx6_21
    case yx6_21 => (intro w' hSw; (try dsimp only at hSw); go_simp; try with_reducible rfl)
    try simp only [Act.put, List.setIfInBounds_toArray, List.set_cons_zero, List.set_cons_succ, List.getElem_toArray, List.getElem_cons_succ, List.getElem_cons_zero]
    refine wpAnyH_ready (rs := [23]) (by kernel_rfl) (by simp) ?_
    refine AllReadyH.cons rfl (fun K hK => ?_) AllReadyH.nil
    go_simp
    refine (implSize_r op2 n2 k2 X2 cx2 0 v5.heap.size v5 (HALL.out _ HD5.out).2.2.1.1 (Nat.le_refl _) (HALL.out _ HD5.out).2.2.1.rows mx1 mx2 (by omega)).mono ?_
    rintro e v6 ⟨rfl, hv6⟩
    have HD6 := Lib.hid (show Below W12.heap.size W12 v6 from HD5.out.trans (hv6.mono HD5.out.size))
    have st6 := (HALL.out _ HD6.out).1
    clear hv6
    refine hK.out _ _ (st6) (fun hHeldB6 => ?_)
    clear hK K
    try simp only [Act.put, List.setIfInBounds_toArray, List.set_cons_zero, List.set_cons_succ, List.getElem_toArray, List.getElem_cons_succ, List.getElem_cons_zero]
    refine takeW 24 (v := ?vx7_24) rfl (by kernel_rfl) (fun _ _ _ h => h) (by rfl) (by assumption) ?yx7_24 ?rx7_24
    case yx7_24 => (intro w' hSw; (try dsimp only at hSw); go_simp; try with_reducible rfl)
    try simp only [Act.put, List.setIfInBounds_toArray, List.set_cons_zero, List.set_cons_succ, List.getElem_toArray, List.getElem_cons_succ, List.getElem_cons_zero]
    refine takeW 25 (v := ?vx7_25) rfl (by kernel_rfl) (fun _ _ _ h => h) (by rfl) (by assumption) ?yx7_25 ?rx7_25
    case yx7_25 => (intro w' hSw; (try dsimp only at hSw); go_simp; try with_reducible rfl)
    try simp only [Act.put, List.setIfInBounds_toArray, List.set_cons_zero, List.set_cons_succ, List.getElem_toArray, List.getElem_cons_succ, List.getElem_cons_zero]
    refine takeW 26 (v := ?vx7_26) rfl (by kernel_rfl) (fun _ _ _ h => h) (by rfl) (by assumption) ?yx7_26 ?rx7_26
    case yx7_26 => (intro w' hSw; (try dsimp only at hSw); go_simp; try with_reducible rfl)
    try simp only [Act.put, List.setIfInBounds_toArray, List.set_cons_zero, List.set_cons_succ, List.getElem_toArray, List.getElem_cons_succ, List.getElem_cons_zero]
    refine takeW 27 (v := ?vx7_27) rfl (by kernel_rfl) (fun _ _ _ h => h) (by rfl) (by assumption) ?yx7_27 ?rx7_27
    case yx7_27 => (intro w' hSw; (try dsimp only at hSw); go_simp; try with_reducible rfl)
    try simp only [Act.put, List.setIfInBounds_toArray, List.set_cons_zero, List.set_cons_succ, List.getElem_toArray, List.getElem_cons_succ, List.getElem_cons_zero]
    refine wpAnyH_done (by kernel_rfl) ?_ _
    clear st1 st2 st3 st4 st5 st6
    have HRE := Lib.hid (HALL.out _ HD6.out).2.2.2.2.2.2.2
    go_wp2_with fail
    go_ret
    exact ⟨congrArg (fun b => Ending.returned (Value.bool b)) HFIN.out, HRE.out⟩
end Go.Proofs.Ytgfecocmnmapfaa
