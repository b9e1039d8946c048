/-
  The walk of the law FnRenameBound: true at every input (made by gen_nren.py).
-/
import Derived.Test.YtjlaabipgppijaaDrawRen
import Derived.Test.YtjlaabipgppijaaRenB
import Derived.Test.YtjlaabipgppijaaNamesI
import Derived.Test.YtjlaabipgppijaaAm
import Derived.Test.YtjlaabipgppijaaTake
import Derived.Test.YtjlaabipgppijaaISame
import Derived.Test.YtjlaabipgppijaaISize
namespace Go.Proofs.Ytjlaabipgppijaa
open Go.RowKit Go.Shelf
set_option maxRecDepth 100000

theorem rb_refl : ∀ f : Fo, sameFo f f = true
  | .nil => rfl
  | .cons _ _ k r => by simp [sameFo, rb_refl k, rb_refl r]
theorem rbNrefl (op n : Int) (k : Fo) : sameN op n k op n k = true := by simp [sameN, rb_refl]
theorem free_same {op n op2 n2 : Int} {k k2 : Fo} : ∀ j : Nat, j ≤ 8 → (∀ i : Nat, i < 8 → cntN (i : Int) op2 n2 k2 = cntN (i : Int) op n k) → freeUpto op2 n2 k2 j = freeUpto op n k j
  | 0, _, _ => rfl
  | j + 1, hj, h => by
    unfold freeUpto
    rw [free_same j (by omega) h, h j (by omega)]

set_option maxHeartbeats 4000000 in
theorem law_NRenameBound (bs : List Nat) (A : Option Addr) (c : Nat) (w : World) (hl : LiesY w 0 w.heap.size A bs) (hlc : bs.length ≤ c) (hc : c ≤ maxLen) :
    Calls Try.prog 3 #[.slice A bs.length c] w (Gives (.bool true) w) := by
  have HC := Lib.hid (drawRen_any A c bs w hl hlc hc)
  unfold maxLen at hc
  by_cases hsz : bs.length ≤ 1048576
  rotate_left
  · have hgt : 1048576 < bs.length := by omega
    clear hl
    go_enter Try.func3, Try.ntmps3
    go_wp2_with fail
    go_ret
    exact ⟨rfl, Below.refl _ _⟩
  clear hl
  go_enter Try.func3, Try.ntmps3
  go_wp2_with fail
  refine HC.out.mono ?_
  rintro e w1 ⟨op, n, k, X, cx, u, rfl, ⟨bl, hi, ht, hs⟩, hui, hb⟩
  obtain ⟨_, _, hX, me1, me2⟩ := ht.slice
  injection hX with hX1 hX2 hX3
  subst hX3
  obtain ⟨W, hW⟩ : ∃ W, W = w1.alloc (Obj.cells #[.int .i64 op, .int .i64 n, .slice X k.len cx] 25) := ⟨_, rfl⟩
  have hbW : Below w1.heap.size w1 W := by rw [hW]; exact (Below.refl _ _).alloc (Nat.le_refl _) _
  have hx : Row W w1.heap.size 25 #[.int .i64 op, .int .i64 n, .slice X k.len cx] := by rw [hW]; exact Row.fresh _ _ _
  have FE := Lib.hid (show ∀ U, Below W.heap.size W U → (U.cell? ⟨w1.heap.size, 0, none⟩ = some (Value.int .i64 op) ∧ U.cell? ⟨w1.heap.size, 1, none⟩ = some (Value.int .i64 n) ∧ U.cell? ⟨w1.heap.size, 2, none⟩ = some (Value.slice X k.len cx)) ∧ Held U U.heap.size X k ∧ Below w.heap.size w U from fun U hU => by
    have h1 := hx.below hU hx.size
    exact ⟨⟨h1.cell rfl, h1.cell rfl, h1.cell rfl⟩, (ht.held.up hbW).up hU, (hb.trans (hbW.mono hb.size)).trans (hU.mono (hb.trans (hbW.mono hb.size)).size)⟩)
  obtain ⟨y, hy⟩ : ∃ y, y = (renB ⟨op, n, k⟩ u).getD nd0 := ⟨_, rfl⟩
  obtain ⟨ok, hok⟩ : ∃ ok, ok = (renB ⟨op, n, k⟩ u).isSome := ⟨_, rfl⟩
  have hys : y.k.size ≤ 1048576 := by rw [hy]; exact ren_le _ _
  have HY := Lib.hid hy
  have HOK := Lib.hid hok
  have HIM := Lib.hid (show ∀ U : World, Below W.heap.size W U → Calls Try.prog 6 #[.agg #[.int .i64 op, .int .i64 n, .slice X k.len cx], .int .i64 u] U (GivesN y ok U) from fun U hU => by
    obtain ⟨-, h1, -⟩ := FE.out U hU
    rw [HY.out, HOK.out]
    exact implReb_any op n k X cx u U h1.1 (Nat.le_trans me1 me2))
  have HSP := Lib.hid (show ∀ U : World, Below W.heap.size W U → Calls Try.prog 7 #[.agg #[.int .i64 op, .int .i64 n, .slice X k.len cx], .int .i64 u] U (GivesN y ok U) from fun U hU => by
    obtain ⟨-, h1, -⟩ := FE.out U hU
    rw [HY.out, HOK.out]
    exact specReb_any op n k X cx u U h1.1 (by omega))
  clear hb hbW ht hX1 hX2 HC hi hui hx hy hok
  go_upto_region 4 with fail
  rw [← hW]
  clear hW
  obtain ⟨⟨q0, q1, q2⟩, -⟩ := FE.out W (Below.refl _ _)
  go_wp2_with fail
  refine (HIM.out W (Below.refl _ _)).mono ?_
  rintro e w2 ⟨A3, c3, b3, rfl, ht3, hb2⟩
  obtain ⟨_, _, hZ, my1, my2⟩ := ht3.slice
  injection hZ with hZ1 hZ2 hZ3
  subst hZ3
  clear hZ1 hZ2
  obtain ⟨W3, hW3⟩ : ∃ U, U = w2.alloc (Obj.cells #[.int .i64 y.op, .int .i64 y.n, .slice A3 y.k.len c3] 25) := ⟨_, rfl⟩
  have bW3 : Below w2.heap.size w2 W3 := by rw [hW3]; exact (Below.refl _ _).alloc (Nat.le_refl _) _
  have rW3 : Row W3 w2.heap.size 25 #[.int .i64 y.op, .int .i64 y.n, .slice A3 y.k.len c3] := by rw [hW3]; exact Row.fresh _ _ _
  have FY := Lib.hid (show ∀ U, Below W3.heap.size W3 U → (U.cell? ⟨w2.heap.size, 0, none⟩ = some (Value.int .i64 y.op) ∧ U.cell? ⟨w2.heap.size, 1, none⟩ = some (Value.int .i64 y.n) ∧ U.cell? ⟨w2.heap.size, 2, none⟩ = some (Value.slice A3 y.k.len c3)) ∧ Held U U.heap.size A3 y.k ∧ Below W.heap.size W U from fun U hU => by
    have h1 := rW3.below hU rW3.size
    exact ⟨⟨h1.cell rfl, h1.cell rfl, h1.cell rfl⟩, (ht3.held.up bW3).up hU, (hb2.trans (bW3.mono hb2.size)).trans (hU.mono (hb2.trans (bW3.mono hb2.size)).size)⟩)
  clear ht3 hb2 bW3 rW3
  clear q0 q1 q2
  go_upto_region 5 with fail
  rw [← hW3]
  clear hW3
  obtain ⟨⟨q0, q1, q2⟩, -⟩ := FE.out W3 (FY.out W3 (Below.refl _ _)).2.2
  go_wp2_with fail
  refine (HSP.out W3 (FY.out W3 (Below.refl _ _)).2.2).mono ?_
  rintro e w4 ⟨A5, c5, b5, rfl, ht5, hb4⟩
  obtain ⟨_, _, hZ, mwant1, mwant2⟩ := ht5.slice
  injection hZ with hZ1 hZ2 hZ3
  subst hZ3
  clear hZ1 hZ2
  obtain ⟨W5, hW5⟩ : ∃ U, U = w4.alloc (Obj.cells #[.int .i64 y.op, .int .i64 y.n, .slice A5 y.k.len c5] 25) := ⟨_, rfl⟩
  have bW5 : Below w4.heap.size w4 W5 := by rw [hW5]; exact (Below.refl _ _).alloc (Nat.le_refl _) _
  have rW5 : Row W5 w4.heap.size 25 #[.int .i64 y.op, .int .i64 y.n, .slice A5 y.k.len c5] := by rw [hW5]; exact Row.fresh _ _ _
  have FW := Lib.hid (show ∀ U, Below W5.heap.size W5 U → (U.cell? ⟨w4.heap.size, 0, none⟩ = some (Value.int .i64 y.op) ∧ U.cell? ⟨w4.heap.size, 1, none⟩ = some (Value.int .i64 y.n) ∧ U.cell? ⟨w4.heap.size, 2, none⟩ = some (Value.slice A5 y.k.len c5)) ∧ Held U U.heap.size A5 y.k ∧ Below W3.heap.size W3 U from fun U hU => by
    have h1 := rW5.below hU rW5.size
    exact ⟨⟨h1.cell rfl, h1.cell rfl, h1.cell rfl⟩, (ht5.held.up bW5).up hU, (hb4.trans (bW5.mono hb4.size)).trans (hU.mono (hb4.trans (bW5.mono hb4.size)).size)⟩)
  clear ht5 hb4 bW5 rW5
  clear q0 q1 q2
  go_upto_region 6 with fail
  rw [← hW5]
  clear hW5
  have hne : (ok != ok) = false := by simp
  obtain ⟨⟨t0, t1, t2⟩, hw5, b35⟩ := FW.out W5 (Below.refl _ _)
  obtain ⟨⟨s0, s1, s2⟩, hv5, -⟩ := FY.out W5 b35
  have HW5 := Lib.hid hw5
  have HV5 := Lib.hid hv5
  clear hw5 hv5 b35
  go_wp2_with fail
  refine (implSame_r y.op y.n y.op y.n y.k y.k A3 A5 c3 c5 W5 HV5.out.1 HW5.out.1 0 W5.heap.size HV5.out.1 (Nat.le_refl _) HV5.out.rows my1 my2 mwant1 mwant2 hys).mono ?_
  rintro e w6 ⟨rfl, hb6⟩
  rw [rbNrefl]
  have HB6 := Lib.hid hb6
  clear hb6 s0 s1 s2 t0 t1 t2 hne HW5 HV5
  cases ok with
  | false =>
    obtain ⟨⟨t0, t1, t2⟩, hw6, b36⟩ := FW.out w6 HB6.out
    obtain ⟨⟨s0, s1, s2⟩, hv6, bw6⟩ := FY.out w6 b36
    have HW6 := Lib.hid hw6
    have HV6 := Lib.hid hv6
    have HBW := Lib.hid (FE.out w6 bw6).2.2
    clear hw6 hv6 b36 bw6
    go_wp2_with fail
    refine (implSame_r y.op y.n y.op y.n y.k y.k A3 A5 c3 c5 w6 HV6.out.1 HW6.out.1 0 w6.heap.size HV6.out.1 (Nat.le_refl _) HV6.out.rows my1 my2 mwant1 mwant2 hys).mono ?_
    rintro e w10 ⟨rfl, hb10⟩
    rw [rbNrefl]
    have HB10 := Lib.hid (HBW.out.trans (hb10.mono HBW.out.size))
    clear hb10
    go_wp2_with fail
    go_ret
    exact ⟨rfl, HB10.out⟩
  | true =>
    have hres : renB ⟨op, n, k⟩ u = some y := by
      cases hp : renB ⟨op, n, k⟩ u with
      | none => have := HOK.out; rw [hp] at this; cases this
      | some z => have := HY.out; rw [hp] at this; rw [this]; rfl
    obtain ⟨hyn, hnm, hcn, hysz, hes⟩ := ren_all hres
    have hes : k.size ≤ 80 := hes
    have hysz : y.k.size = k.size := hysz
    have hnu : (y.n == u) = true := by rw [hyn]; exact beq_self_eq_true u
    have HNM := Lib.hid (show namesB op n k y.op y.n y.k = true from hnm)
    obtain ⟨fs, hfs⟩ : ∃ fs, fs = freeUpto op n k 8 := ⟨_, rfl⟩
    have HFS := Lib.hid hfs
    have HFY := Lib.hid (show freeUpto y.op y.n y.k 8 = fs by rw [hfs]; exact free_same 8 (Nat.le_refl _) hcn)
    have hfl : fs.length ≤ 8 := by rw [hfs]; exact freeUpto_len op n k 8
    have HFI := Lib.hid (show ∀ x, x ∈ fs → I64 x from fun x hx => by
      rw [hfs] at hx
      obtain ⟨v, rfl, hv, -⟩ := (free_of (Nat.le_refl _)).1 hx
      unfold I64
      omega)
    have HALL := Lib.hid (show ∀ U, Below w6.heap.size w6 U → (U.cell? ⟨w1.heap.size, 0, none⟩ = some (Value.int .i64 op) ∧ U.cell? ⟨w1.heap.size, 1, none⟩ = some (Value.int .i64 n) ∧ U.cell? ⟨w1.heap.size, 2, none⟩ = some (Value.slice X k.len cx) ∧ U.cell? ⟨w2.heap.size, 0, none⟩ = some (Value.int .i64 y.op) ∧ U.cell? ⟨w2.heap.size, 1, none⟩ = some (Value.int .i64 y.n) ∧ U.cell? ⟨w2.heap.size, 2, none⟩ = some (Value.slice A3 y.k.len c3)) ∧ Held U U.heap.size X k ∧ Held U U.heap.size A3 y.k ∧ Below w.heap.size w U from fun U hU => by
      obtain ⟨-, -, b36⟩ := FW.out U (HB6.out.trans (hU.mono HB6.out.size))
      obtain ⟨⟨y0, y1, y2⟩, hy, byy⟩ := FY.out U b36
      obtain ⟨⟨e0, e1, e2⟩, he, bw⟩ := FE.out U byy
      exact ⟨⟨e0, e1, e2, y0, y1, y2⟩, he, hy, bw⟩)
    have hbd : Below w6.heap.size w6 w6.drew := (Below.refl _ _).drew
    have HD0 := Lib.hid hbd
    have s0 := (HALL.out _ HD0.out).1
    have HNU := Lib.hid hnu
    have HEQ := Lib.hid (show (1 + (y.k.size : Int) == 1 + (k.size : Int)) = true by rw [hysz]; exact beq_self_eq_true _)
    clear hbd hres hyn hnm hcn hysz hfs hnu HIM HSP HY HOK
    go_upto_region 8 with fail
    refine wp_region_held_drew (S := fun w' => w'.cell? ⟨w1.heap.size, 0, none⟩ = some (Value.int .i64 op) ∧ w'.cell? ⟨w1.heap.size, 1, none⟩ = some (Value.int .i64 n) ∧ w'.cell? ⟨w1.heap.size, 2, none⟩ = some (Value.slice X k.len cx) ∧ w'.cell? ⟨w2.heap.size, 0, none⟩ = some (Value.int .i64 y.op) ∧ w'.cell? ⟨w2.heap.size, 1, none⟩ = some (Value.int .i64 y.n) ∧ w'.cell? ⟨w2.heap.size, 2, none⟩ = some (Value.slice A3 y.k.len c3)) (by kernel_rfl) s0 (fun hHeld => ?_)
    refine takeW 0 (v := ?vx1_0) rfl (by kernel_rfl) (fun _ _ _ h => h) (by rfl) (by assumption) ?yx1_0 ?rx1_0
    case yx1_0 => (intro w' hSw; (try dsimp only at hSw); go_simp; try with_reducible rfl)
    try simp only [Act.put, List.setIfInBounds_toArray, List.set_cons_zero, List.set_cons_succ, List.getElem_toArray, List.getElem_cons_zero]
    refine takeW 1 (v := ?vx1_1) rfl (by kernel_rfl) (fun _ _ _ h => h) (by rfl) (by assumption) ?yx1_1 ?rx1_1
    case yx1_1 => (intro w' hSw; (try dsimp only at hSw); go_simp; try with_reducible rfl)
    try simp only [Act.put, List.setIfInBounds_toArray, List.set_cons_zero, List.set_cons_succ, List.getElem_toArray, List.getElem_cons_succ, List.getElem_cons_zero]
    refine wpAnyH_ready (rs := [2]) (by kernel_rfl) (by simp) ?_
    refine AllReadyH.cons rfl (fun K hK => ?_) AllReadyH.nil
    go_simp
    refine (implNames_any op n y.op y.n k y.k X A3 cx c3 w6.drew (HALL.out _ HD0.out).2.1.1 (HALL.out _ HD0.out).2.2.1.1 (Nat.le_trans me1 me2) (Nat.le_trans my1 my2)).mono ?_
    rintro e v1 ⟨rfl, hv1⟩
    rw [HNM.out]
    have HD1 := Lib.hid (show Below w6.heap.size w6 v1 from HD0.out.trans (hv1.mono HD0.out.size))
    have st1 := (HALL.out _ HD1.out).1
    clear hv1
    refine hK.out _ _ (st1) (fun hHeldB1 => ?_)
    clear hK K
    try simp only [Act.put, List.setIfInBounds_toArray, List.set_cons_zero, List.set_cons_succ, List.getElem_toArray, List.getElem_cons_succ, List.getElem_cons_zero]
    refine takeW 3 (v := ?vx2_3) rfl (by kernel_rfl) (fun _ _ _ h => h) (by rfl) (by assumption) ?yx2_3 ?rx2_3
    case yx2_3 => (intro w' hSw; (try dsimp only at hSw); go_simp; try with_reducible rfl)
    try simp only [Act.put, List.setIfInBounds_toArray, List.set_cons_zero, List.set_cons_succ, List.getElem_toArray, List.getElem_cons_succ, List.getElem_cons_zero]
    refine takeW 4 (v := ?vx2_4) rfl (by kernel_rfl) (fun _ _ _ h => h) (by rfl) (by assumption) ?yx2_4 ?rx2_4
    case yx2_4 => (intro w' hSw; (try dsimp only at hSw); go_simp; try with_reducible rfl)
    try simp only [Act.put, List.setIfInBounds_toArray, List.set_cons_zero, List.set_cons_succ, List.getElem_toArray, List.getElem_cons_succ, List.getElem_cons_zero]
    refine takeW 6 (v := ?vx2_6) rfl (by kernel_rfl) (fun _ _ _ h => h) (by rfl) (by assumption) ?yx2_6 ?rx2_6
    case yx2_6 => (intro w' hSw; (try dsimp only at hSw); go_simp; try with_reducible rfl)
    try simp only [Act.put, List.setIfInBounds_toArray, List.set_cons_zero, List.set_cons_succ, List.getElem_toArray, List.getElem_cons_succ, List.getElem_cons_zero]
    refine wpAnyH_ready (rs := [5]) (by kernel_rfl) (by simp) ?_
    refine AllReadyH.cons rfl (fun K hK => ?_) AllReadyH.nil
    go_simp
    have hfr := implFree_r op n k X cx 0 v1.heap.size v1 (HALL.out _ HD1.out).2.1.1 (Nat.le_refl _) (HALL.out _ HD1.out).2.1.rows me1 me2 (by omega)
    rw [← HFS.out] at hfr
    refine hfr.mono ?_
    rintro e v2 ⟨fv2, rfl, hown2, hv2⟩
    obtain ⟨Fe, ge, rfl, hlie⟩ := own_ints hown2 HFI.out
    have HLe := Lib.hid (show LiesI v2 0 v2.heap.size Fe fs from hlie.mono_ (Nat.zero_le _) (Nat.le_refl _))
    have HD2 := Lib.hid (show Below w6.heap.size w6 v2 from HD1.out.trans (hv2.mono HD1.out.size))
    have st2 := (HALL.out _ HD2.out).1
    clear hfr hown2 hlie
    clear hv2
    refine hK.out _ _ (st2) (fun hHeldB2 => ?_)
    clear hK K
    try simp only [Act.put, List.setIfInBounds_toArray, List.set_cons_zero, List.set_cons_succ, List.getElem_toArray, List.getElem_cons_succ, List.getElem_cons_zero]
    refine wpAnyH_ready (rs := [7]) (by kernel_rfl) (by simp) ?_
    refine AllReadyH.cons rfl (fun K hK => ?_) AllReadyH.nil
    go_simp
    have hfr := implFree_r y.op y.n y.k A3 c3 0 v2.heap.size v2 (HALL.out _ HD2.out).2.2.1.1 (Nat.le_refl _) (HALL.out _ HD2.out).2.2.1.rows my1 my2 (by omega)
    rw [HFY.out] at hfr
    refine hfr.mono ?_
    rintro e v3 ⟨fv3, rfl, hown3, hv3⟩
    obtain ⟨Fy, gy, rfl, hliy⟩ := own_ints hown3 HFI.out
    have HLy := Lib.hid (show LiesI v3 0 v3.heap.size Fy fs from hliy.mono_ (Nat.zero_le _) (Nat.le_refl _))
    have HD3 := Lib.hid (show Below w6.heap.size w6 v3 from HD2.out.trans (hv3.mono HD2.out.size))
    have st3 := (HALL.out _ HD3.out).1
    clear hfr hown3 hliy
    have HLe2 := Lib.hid (HLe.out.up hv3)
    clear hv3
    refine hK.out _ _ (st3) (fun hHeldB3 => ?_)
    clear hK K
    try simp only [Act.put, List.setIfInBounds_toArray, List.set_cons_zero, List.set_cons_succ, List.getElem_toArray, List.getElem_cons_succ, List.getElem_cons_zero]
    refine wpAnyH_ready (rs := [8]) (by kernel_rfl) (by simp) ?_
    refine AllReadyH.cons rfl (fun K hK => ?_) AllReadyH.nil
    go_simp
    refine (amInts_any fs fs Fe Fy ge gy v3 HLe2.out HLy.out (by omega) (by omega)).mono ?_
    rintro e v4 ⟨rfl, hv4⟩
    rw [show decide (fs = fs) = true from decide_eq_true rfl]
    have HD4 := Lib.hid (show Below w6.heap.size w6 v4 from HD3.out.trans (hv4.mono HD3.out.size))
    have st4 := (HALL.out _ HD4.out).1
    clear hv4
    have hnu := HNU.out
    refine hK.out _ _ (st4) (fun hHeldB4 => ?_)
    clear hK K
    try simp only [Act.put, List.setIfInBounds_toArray, List.set_cons_zero, List.set_cons_succ, List.getElem_toArray, List.getElem_cons_succ, List.getElem_cons_zero]
    refine takeW 9 (v := ?vx5_9) rfl (by kernel_rfl) (fun _ _ _ h => h) (by rfl) (by assumption) ?yx5_9 ?rx5_9
    case yx5_9 => (intro w' hSw; (try dsimp only at hSw); go_simp; try with_reducible rfl)
    try simp only [Act.put, List.setIfInBounds_toArray, List.set_cons_zero, List.set_cons_succ, List.getElem_toArray, List.getElem_cons_succ, List.getElem_cons_zero]
    refine takeW 10 (v := ?vx5_10) rfl (by kernel_rfl) (fun _ _ _ h => h) (by rfl) (by assumption) ?yx5_10 ?rx5_10
    case yx5_10 => (intro w' hSw; (try dsimp only at hSw); go_simp; try with_reducible rfl)
    try simp only [Act.put, List.setIfInBounds_toArray, List.set_cons_zero, List.set_cons_succ, List.getElem_toArray, List.getElem_cons_succ, List.getElem_cons_zero]
    refine takeW 11 (v := ?vx5_11) rfl (by kernel_rfl) (fun _ _ _ h => h) (by rfl) (by assumption) ?yx5_11 ?rx5_11
    case yx5_11 => (intro w' hSw; (try dsimp only at hSw); go_simp; try with_reducible rfl)
    try simp only [Act.put, List.setIfInBounds_toArray, List.set_cons_zero, List.set_cons_succ, List.getElem_toArray, List.getElem_cons_succ, List.getElem_cons_zero]
    refine takeW 12 (v := ?vx5_12) rfl (by kernel_rfl) (fun _ _ _ h => h) (by rfl) (by assumption) ?yx5_12 ?rx5_12
    case yx5_12 => (intro w' hSw; (try dsimp only at hSw); go_simp; try with_reducible rfl)
    try simp only [Act.put, List.setIfInBounds_toArray, List.set_cons_zero, List.set_cons_succ, List.getElem_toArray, List.getElem_cons_succ, List.getElem_cons_zero]
    refine takeW 13 (v := ?vx5_13) rfl (by kernel_rfl) (fun _ _ _ h => h) (by rfl) (by assumption) ?yx5_13 ?rx5_13
    case yx5_13 => (intro w' hSw; (try dsimp only at hSw); go_simp; try with_reducible rfl)
    try simp only [Act.put, List.setIfInBounds_toArray, List.set_cons_zero, List.set_cons_succ, List.getElem_toArray, List.getElem_cons_succ, List.getElem_cons_zero]
    refine takeW 14 (v := .bool true) rfl (by kernel_rfl) (fun _ _ _ h => h) (by rfl) (by assumption) ?yx5_14 ?rx5_14
    case yx5_14 => (intro w' hSw; (try dsimp only at hSw); go_simp; try first | with_reducible rfl | simp [hnu])
    try simp only [Act.put, List.setIfInBounds_toArray, List.set_cons_zero, List.set_cons_succ, List.getElem_toArray, List.getElem_cons_succ, List.getElem_cons_zero]
    refine takeW 15 (v := ?vx5_15) rfl (by kernel_rfl) (fun _ _ _ h => h) (by rfl) (by assumption) ?yx5_15 ?rx5_15
    case yx5_15 => (intro w' hSw; (try dsimp only at hSw); go_simp; try with_reducible rfl)
    try simp only [Act.put, List.setIfInBounds_toArray, List.set_cons_zero, List.set_cons_succ, List.getElem_toArray, List.getElem_cons_succ, List.getElem_cons_zero]
    refine takeW 16 (v := ?vx5_16) rfl (by kernel_rfl) (fun _ _ _ h => h) (by rfl) (by assumption) ?yx5_16 ?rx5_16
    case yx5_16 => (intro w' hSw; (try dsimp only at hSw); go_simp; try with_reducible rfl)
    try simp only [Act.put, List.setIfInBounds_toArray, List.set_cons_zero, List.set_cons_succ, List.getElem_toArray, List.getElem_cons_succ, List.getElem_cons_zero]
    refine takeW 17 (v := ?vx5_17) rfl (by kernel_rfl) (fun _ _ _ h => h) (by rfl) (by assumption) ?yx5_17 ?rx5_17
    case yx5_17 => (intro w' hSw; (try dsimp only at hSw); go_simp; try with_reducible rfl)
    try simp only [Act.put, List.setIfInBounds_toArray, List.set_cons_zero, List.set_cons_succ, List.getElem_toArray, List.getElem_cons_succ, List.getElem_cons_zero]
    refine takeW 19 (v := ?vx5_19) rfl (by kernel_rfl) (fun _ _ _ h => h) (by rfl) (by assumption) ?yx5_19 ?rx5_19
    case yx5_19 => (intro w' hSw; (try dsimp only at hSw); go_simp; try with_reducible rfl)
    try simp only [Act.put, List.setIfInBounds_toArray, List.set_cons_zero, List.set_cons_succ, List.getElem_toArray, List.getElem_cons_succ, List.getElem_cons_zero]
    refine wpAnyH_ready (rs := [18]) (by kernel_rfl) (by simp) ?_
    refine AllReadyH.cons rfl (fun K hK => ?_) AllReadyH.nil
    go_simp
    refine (implSize_r y.op y.n y.k A3 c3 0 v4.heap.size v4 (HALL.out _ HD4.out).2.2.1.1 (Nat.le_refl _) (HALL.out _ HD4.out).2.2.1.rows my1 my2 (by omega)).mono ?_
    rintro e v5 ⟨rfl, hv5⟩
    have HD5 := Lib.hid (show Below w6.heap.size w6 v5 from HD4.out.trans (hv5.mono HD4.out.size))
    have st5 := (HALL.out _ HD5.out).1
    clear hv5
    refine hK.out _ _ (st5) (fun hHeldB5 => ?_)
    clear hK K
    try simp only [Act.put, List.setIfInBounds_toArray, List.set_cons_zero, List.set_cons_succ, List.getElem_toArray, List.getElem_cons_succ, List.getElem_cons_zero]
    refine wpAnyH_ready (rs := [20]) (by kernel_rfl) (by simp) ?_
    refine AllReadyH.cons rfl (fun K hK => ?_) AllReadyH.nil
    go_simp
    refine (implSize_r op n k X cx 0 v5.heap.size v5 (HALL.out _ HD5.out).2.1.1 (Nat.le_refl _) (HALL.out _ HD5.out).2.1.rows me1 me2 (by omega)).mono ?_
    rintro e v6 ⟨rfl, hv6⟩
    have HD6 := Lib.hid (show Below w6.heap.size w6 v6 from HD5.out.trans (hv6.mono HD5.out.size))
    have st6 := (HALL.out _ HD6.out).1
    clear hv6
    refine hK.out _ _ (st6) (fun hHeldB6 => ?_)
    clear hK K
    try simp only [Act.put, List.setIfInBounds_toArray, List.set_cons_zero, List.set_cons_succ, List.getElem_toArray, List.getElem_cons_succ, List.getElem_cons_zero]
    refine takeW 21 (v := ?vx7_21) rfl (by kernel_rfl) (fun _ _ _ h => h) (by rfl) (by assumption) ?yx7_21 ?rx7_21
    case yx7_21 => (intro w' hSw; (try dsimp only at hSw); go_simp; try with_reducible rfl)
    try simp only [Act.put, List.setIfInBounds_toArray, List.set_cons_zero, List.set_cons_succ, List.getElem_toArray, List.getElem_cons_succ, List.getElem_cons_zero]
    refine takeW 22 (v := ?vx7_22) rfl (by kernel_rfl) (fun _ _ _ h => h) (by rfl) (by assumption) ?yx7_22 ?rx7_22
    case yx7_22 => (intro w' hSw; (try dsimp only at hSw); go_simp; try with_reducible rfl)
    try simp only [Act.put, List.setIfInBounds_toArray, List.set_cons_zero, List.set_cons_succ, List.getElem_toArray, List.getElem_cons_succ, List.getElem_cons_zero]
    refine takeW 23 (v := ?vx7_23) rfl (by kernel_rfl) (fun _ _ _ h => h) (by rfl) (by assumption) ?yx7_23 ?rx7_23
    case yx7_23 => (intro w' hSw; (try dsimp only at hSw); go_simp; try with_reducible rfl)
    try simp only [Act.put, List.setIfInBounds_toArray, List.set_cons_zero, List.set_cons_succ, List.getElem_toArray, List.getElem_cons_succ, List.getElem_cons_zero]
    refine wpAnyH_done (by kernel_rfl) ?_ _
    clear st1 st2 st3 st4 st5 st6
    have HRE := Lib.hid (HALL.out _ HD6.out).2.2.2
    go_wp2_with fail
    go_ret
    exact ⟨rfl, HRE.out⟩
end Go.Proofs.Ytjlaabipgppijaa
