/-
  spec.DrawRenameBound (made by gen_drawren.py).
-/
import Derived.Test.YtjlaabipgppijaaCaseS
import Derived.Test.YtjlaabipgppijaaTreeP
import Derived.Test.YtjlaabipgppijaaPutI
namespace Go.Proofs.Ytjlaabipgppijaa
open Go.RowKit Go.Shelf
set_option maxRecDepth 100000

def RenDrawn (w : World) (e : Ending) (w' : World) : Prop :=
  ∃ op n k X c y, e = .returned (.tuple #[.agg #[.int .i64 op, .int .i64 n, .slice X (Fo.len k) c], .int .i64 y]) ∧ Drawn w' w.heap.size op n k X c ∧ I64 y ∧ Below w.heap.size w w'

set_option maxHeartbeats 4000000 in
theorem drawRen_any (A : Option Addr) (bc0 : Nat) (bs : List Nat) (w : World) (hB : LiesY w 0 w.heap.size A bs) (hl : bs.length ≤ bc0) (hc : bc0 ≤ maxLen) :
    Calls Try.prog 5 #[.slice A bs.length bc0] w (RenDrawn w) := by
  obtain ⟨W1, hW1⟩ : ∃ W1, W1 = w.alloc (Obj.cells #[.int .i64 0, .int .i64 0, .slice none 0 0] 25) := ⟨_, rfl⟩
  have hb1 : Below w.heap.size w W1 := by rw [hW1]; exact (Below.refl _ _).alloc (Nat.le_refl _) _
  have hx1 : Row W1 w.heap.size 25 #[.int .i64 0, .int .i64 0, .slice none 0 0] := by rw [hW1]; exact Row.fresh _ _ _
  have HCO := Lib.hid (open_any A bc0 bs W1 ((hB.below hb1).keep (Nat.le_refl _) hb1.size fun _ _ _ => rfl) hl hc)
  have HX1 := Lib.hid hx1
  have HB1 := Lib.hid hb1
  clear hb1 hx1 hB
  go_enter Try.func5, Try.ntmps5
  go_upto_region 1 with fail
  rw [← hW1]
  clear hW1
  go_wp2_with fail
  refine HCO.out.mono ?_
  rintro e V0 ⟨bs2, hl2, rfl, hY0, hr0, hb0, hz0⟩
  obtain ⟨Q, hQ⟩ := lim_ex bs2 hl2 hY0.small
  have HOK0 := Lib.hid (Ok.first hQ)
  have HY0 := Lib.hid hY0
  have HB0 := Lib.hid hb0
  have HZ0 := Lib.hid hz0
  have HBV := Lib.hid (show ∀ V, Only W1.heap.size V0.heap.size V0 V → Below W1.heap.size W1 V from fun V h => HB0.out.trans ((h.mono (Nat.le_of_lt HZ0.out)).below (Nat.le_refl _)))
  have HYV := Lib.hid (show ∀ V, Only W1.heap.size V0.heap.size V0 V → LiesY V 0 W1.heap.size A bs2 from fun V h => HY0.out.below ((h.mono (Nat.le_of_lt HZ0.out)).below (Nat.le_refl _)))
  have HOK1 := Lib.hid (HOK0.out.next hQ (by decide))
  have HP := Lib.hid (pick_v W1.heap.size W1.heap.size A bc0 bs2 0 3 V0 hr0 hY0 (Nat.le_refl _) hl2 (by decide) (by decide) (by decide))
  clear hY0 hr0 hb0 hz0 HCO HOK0
  go_wp2_with fail
  refine HP.out.mono ?_
  rintro e V1 ⟨rfl, hr1, hon1⟩
  obtain ⟨x0, hx0⟩ : ∃ x, x = pkL bs2 0 3 := ⟨_, rfl⟩
  have hx3 : x0 < 3 := by rw [hx0]; exact pkL_lt _ _ (by decide)
  rw [← hx0]
  have HOV1 := Lib.hid hon1
  have HRV1 := Lib.hid hr1
  have HZV1 := Lib.hid (Nat.lt_of_lt_of_le HZ0.out hon1.size)
  clear hx0 hr1 hon1 HP
  obtain ⟨V2, hV2⟩ : ∃ U, U = V1.alloc (Obj.cells #[.int .i64 0, .int .i64 1] 3) := ⟨_, rfl⟩
  have bV2 : Below V1.heap.size V1 V2 := by rw [hV2]; exact (Below.refl _ _).alloc (Nat.le_refl _) _
  have LXV2 := Lib.hid (show LiesI V2 (W1.heap.size + 1) V2.heap.size (some ⟨V1.heap.size, 0, none⟩) [0, 1] by rw [hV2]; exact lies_new V1 (W1.heap.size + 1) [0, 1] (by intro x hx; simp at hx; unfold I64; omega) HZV1.out)
  have HOV2 := Lib.hid (HOV1.out.trans ((Only.of_below (g := W1.heap.size) bV2).mono HOV1.out.size))
  have HRV2 := Lib.hid (Row.below HRV1.out bV2 HZV1.out)
  have HZV2 := Lib.hid (Nat.lt_of_lt_of_le HZV1.out bV2.size)
  clear bV2
  go_wp2_with fail
  rw [← hV2]
  clear hV2
  refine (arity_any V2).mono ?_
  rintro e V3 ⟨rfl, hV3⟩
  have bV3 : Below V2.heap.size V2 V3 := by rw [hV3]; exact (Below.refl _ _).alloc (Nat.le_refl _) _
  have LAV3 := Lib.hid (show LiesI V3 (W1.heap.size + 1) V3.heap.size (some ⟨V2.heap.size, 0, none⟩) [1, 2, 0, 3, -1, -1, 1, 2] by rw [hV3]; exact lies_new V2 (W1.heap.size + 1) [1, 2, 0, 3, -1, -1, 1, 2] (by intro x hx; simp at hx; unfold I64; omega) HZV2.out)
  have LXV3 := Lib.hid ((LXV2.out.below bV3).mono_ (Nat.le_refl _) bV3.size)
  have HOV3 := Lib.hid (HOV2.out.trans ((Only.of_below (g := W1.heap.size) bV3).mono HOV2.out.size))
  have HRV3 := Lib.hid (Row.below HRV2.out bV3 HZV2.out)
  have HZV3 := Lib.hid (Nat.lt_of_lt_of_le HZV2.out bV3.size)
  clear hV3 bV3
  have HS1 := Lib.hid (some_any 3 (by decide) W1.heap.size W1.heap.size A bc0 bs2 Q (0 + 1) (0 + 1) (some ⟨V1.heap.size, 0, none⟩) 2 [0, 1] (some ⟨V2.heap.size, 0, none⟩) 8 [1, 2, 0, 3, -1, -1, 1, 2] V3 HRV3.out (HYV.out _ HOV3.out) (Nat.le_refl _) hl2 hQ HOK1.out (by decide) LXV3.out (by simp only [List.length_cons, List.length_nil]; omega) LAV3.out (by decide) (by intro x hx; simp at hx; omega))
  go_wp2_with fail
  refine HS1.out.mono ?_
  rintro e V4 ⟨o1, n1, k1, X1, c1, bl1, p1, rfl, hi1, ht1, hs1, hrV4, hok1, honV4⟩
  have HT1 := Lib.hid ht1
  have HI1 := Lib.hid hi1
  have HK1 := Lib.hid (show k1.size + 1 ≤ nodesD 3 from hs1)
  have HOKs1 := Lib.hid (show Ok bs2 Q p1 ((0 + 1) + costD 3) from hok1)
  have HON1 := Lib.hid honV4
  have HOV4 := Lib.hid (HOV3.out.trans (honV4.mono HOV3.out.size))
  have HRV4 := Lib.hid hrV4
  have HZV4 := Lib.hid (Nat.lt_of_lt_of_le HZV3.out honV4.size)
  clear hi1 ht1 hs1 hok1 hrV4 honV4 HS1
  obtain ⟨V5, hV5⟩ : ∃ U, U = V4.alloc (Obj.cells #[.int .i64 0, .int .i64 1, .int .i64 2] 3) := ⟨_, rfl⟩
  have bV5 : Below V4.heap.size V4 V5 := by rw [hV5]; exact (Below.refl _ _).alloc (Nat.le_refl _) _
  have LXV5 := Lib.hid (show LiesI V5 (W1.heap.size + 1) V5.heap.size (some ⟨V4.heap.size, 0, none⟩) [0, 1, 2] by rw [hV5]; exact lies_new V4 (W1.heap.size + 1) [0, 1, 2] (by intro x hx; simp at hx; unfold I64; omega) HZV4.out)
  have HOV5 := Lib.hid (HOV4.out.trans ((Only.of_below (g := W1.heap.size) bV5).mono HOV4.out.size))
  have HRV5 := Lib.hid (Row.below HRV4.out bV5 HZV4.out)
  have HZV5 := Lib.hid (Nat.lt_of_lt_of_le HZV4.out bV5.size)
  have HX45 := Lib.hid (Only.of_below (g := W1.heap.size) bV5)
  clear bV5
  go_wp2_with fail
  rw [← hV5]
  clear hV5
  refine (arity_any V5).mono ?_
  rintro e V6 ⟨rfl, hV6⟩
  have bV6 : Below V5.heap.size V5 V6 := by rw [hV6]; exact (Below.refl _ _).alloc (Nat.le_refl _) _
  have LAV6 := Lib.hid (show LiesI V6 (W1.heap.size + 1) V6.heap.size (some ⟨V5.heap.size, 0, none⟩) [1, 2, 0, 3, -1, -1, 1, 2] by rw [hV6]; exact lies_new V5 (W1.heap.size + 1) [1, 2, 0, 3, -1, -1, 1, 2] (by intro x hx; simp at hx; unfold I64; omega) HZV5.out)
  have LXV6 := Lib.hid ((LXV5.out.below bV6).mono_ (Nat.le_refl _) bV6.size)
  have HOV6 := Lib.hid (HOV5.out.trans ((Only.of_below (g := W1.heap.size) bV6).mono HOV5.out.size))
  have HRV6 := Lib.hid (Row.below HRV5.out bV6 HZV5.out)
  have HZV6 := Lib.hid (Nat.lt_of_lt_of_le HZV5.out bV6.size)
  have HX46 := Lib.hid (HX45.out.trans ((Only.of_below (g := W1.heap.size) bV6).mono HX45.out.size))
  clear hV6 bV6 HX45
  have HS2 := Lib.hid (some_any 4 (by decide) W1.heap.size W1.heap.size A bc0 bs2 Q p1 ((0 + 1) + costD 3) (some ⟨V4.heap.size, 0, none⟩) 3 [0, 1, 2] (some ⟨V5.heap.size, 0, none⟩) 8 [1, 2, 0, 3, -1, -1, 1, 2] V6 HRV6.out (HYV.out _ HOV6.out) (Nat.le_refl _) hl2 hQ HOKs1.out (by decide) LXV6.out (by simp only [List.length_cons, List.length_nil]; omega) LAV6.out (by decide) (by intro x hx; simp at hx; omega))
  go_wp2_with fail
  refine HS2.out.mono ?_
  rintro e V7 ⟨o2, n2, k2, X2, c2, bl2, p2, rfl, hi2, ht2, hs2, hrV7, hok2, honV7⟩
  have HT2 := Lib.hid ht2
  have HI2 := Lib.hid hi2
  have HK2 := Lib.hid (show k2.size + 1 ≤ nodesD 4 from hs2)
  have HOKs2 := Lib.hid (show Ok bs2 Q p2 (((0 + 1) + costD 3) + costD 4) from hok2)
  have HON2 := Lib.hid honV7
  have HOV7 := Lib.hid (HOV6.out.trans (honV7.mono HOV6.out.size))
  have HRV7 := Lib.hid hrV7
  have HZV7 := Lib.hid (Nat.lt_of_lt_of_le HZV6.out honV7.size)
  clear hi2 ht2 hs2 hok2 hrV7 honV7 HS2
  -- the node is laid
  obtain ⟨V8, hV8⟩ : ∃ U, U = V7.alloc (Obj.cells #[.int .i64 o1, .int .i64 n1, .slice X1 k1.len c1, .int .i64 o2, .int .i64 n2, .slice X2 k2.len c2] 25) := ⟨_, rfl⟩
  obtain ⟨V9, hV9⟩ : ∃ U, U = V8.alloc (Obj.cells #[.int .i64 7, .int .i64 (x0 : Int), .slice (some ⟨V7.heap.size, 0, none⟩) 2 2] 25) := ⟨_, rfl⟩
  have b8 : Below V7.heap.size V7 V8 := by rw [hV8]; exact (Below.refl _ _).alloc (Nat.le_refl _) _
  have b9 : Below V8.heap.size V8 V9 := by rw [hV9]; exact (Below.refl _ _).alloc (Nat.le_refl _) _
  have b79 : Below V7.heap.size V7 V9 := b8.trans (b9.mono b8.size)
  have hrow : Row V9 V7.heap.size 25 #[.int .i64 o1, .int .i64 n1, .slice X1 k1.len c1, .int .i64 o2, .int .i64 n2, .slice X2 k2.len c2] := by rw [hV9, hV8]; exact (Row.fresh _ _ _).alloc _
  have HBX := Lib.hid (show Row V9 V8.heap.size 25 #[.int .i64 7, .int .i64 (x0 : Int), .slice (some ⟨V7.heap.size, 0, none⟩) 2 2] by rw [hV9]; exact Row.fresh _ _ _)
  have hz34 : V3.heap.size ≤ V4.heap.size := HON1.out.size
  have ho46 : Only W1.heap.size V4.heap.size V4 V6 := HX46.out
  have hz46 := ho46.size
  have hz67 := HON2.out.size
  have hzg := HZV3.out
  have ho47 : Only W1.heap.size V4.heap.size V4 V7 := ho46.trans (HON2.out.mono hz46)
  have t1 := (HT1.out.keep fun z hz => ho47.block z (HT1.out.lt z hz).2 (by have := (HT1.out.lt z hz).1; omega))
  have hd : ∀ q, q ∈ bl1 → q ∈ bl2 → False := fun q h1 h2 => by
    have := (HT1.out.lt q h1).2
    have := (HT2.out.lt q h2).1
    omega
  obtain ⟨blp, hpair⟩ := tree_pair (a := ⟨o1, n1, k1⟩) (b := ⟨o2, n2, k2⟩) (base := V3.heap.size) hrow (by omega) (t1.over b79) ((HT2.out.over b79).lower (by omega)) hd (fun h => by have := (HT1.out.lt _ h).2; omega) (fun h => by have := (HT2.out.lt _ h).2; omega) HI1.out HI2.out
  have HTP := Lib.hid (show Tree V9 V3.heap.size (.slice (some ⟨V7.heap.size, 0, none⟩) (pair ⟨o1, n1, k1⟩ ⟨o2, n2, k2⟩).len 2) (pair ⟨o1, n1, k1⟩ ⟨o2, n2, k2⟩) blp from hpair)
  have HPS := Lib.hid (show (pair ⟨o1, n1, k1⟩ ⟨o2, n2, k2⟩).size ≤ 80 by
    have h1 := HK1.out
    have h2 := HK2.out
    have h3 : nodesD 3 ≤ 20 := by decide
    have h4 : nodesD 4 ≤ 60 := by decide
    simp only [pair, Fo.size]
    omega)
  have HO9 := Lib.hid (HOV7.out.trans ((Only.of_below (g := W1.heap.size) b79).mono HOV7.out.size))
  have HR9 := Lib.hid (Row.below HRV7.out b79 HZV7.out)
  have HZ9 := Lib.hid (Nat.lt_of_lt_of_le HZV7.out b79.size)
  have HM := Lib.hid (mut_any (Q - p2) W1.heap.size W1.heap.size A bc0 bs2 Q p2 (((0 + 1) + costD 3) + costD 4) 7 (x0 : Int) (pair ⟨o1, n1, k1⟩ ⟨o2, n2, k2⟩) (some ⟨V7.heap.size, 0, none⟩) 2 V9 rfl HR9.out (HYV.out _ HO9.out) (Nat.le_refl _) hl2 hQ HOKs2.out (by decide) (HTP.out.held).1 ⟨by unfold I64; omega, by unfold I64; omega⟩ (by have := HPS.out; omega))
  have z0 := HBX.out.cell (i := 0) rfl
  have z1 := HBX.out.cell (i := 1) rfl
  have z2 := HBX.out.cell (i := 2) rfl
  have e8 : V8.heap.size = V7.heap.size + 1 := by rw [hV8]; exact World.size_alloc _ _
  rw [e8] at z0 z1 z2
  clear e8
  clear b8 b9 b79 hrow hz34 ho46 hz46 hz67 hzg ho47 t1 hd hpair HX46
  go_upto_region 3 with fail
  rw [← hV8, ← hV9]
  clear hV8 hV9
  go_wp2_with fail
  refine HM.out.mono ?_
  rintro e Va ⟨q2, m2, j2, Y2, f2, ml2, r2, rfl, gi2, gt2, gs2, hrVa, gok2, honVa⟩
  have HOVa := Lib.hid (HO9.out.trans (honVa.mono HO9.out.size))
  have HRVa := Lib.hid hrVa
  have HZVa := Lib.hid (Nat.lt_of_lt_of_le HZ9.out honVa.size)
  have HOKa := Lib.hid gok2
  have HGI := Lib.hid gi2
  have HGT := Lib.hid gt2
  have HGK := Lib.hid (show j2.size ≤ 500300 by have := gok2.lt; have := hQ.1; have := HPS.out; omega)
  clear gi2 gt2 gs2 hrVa gok2 honVa HM z0 z1 z2
  obtain ⟨Vb, hVb⟩ : ∃ U, U = Va.alloc (Obj.cells #[.int .i64 3, .int .i64 4, .int .i64 5, .int .i64 0, .int .i64 1, .int .i64 7, .int .i64 8, .int .i64 (-1)] 3) := ⟨_, rfl⟩
  have bVb : Below Va.heap.size Va Vb := by rw [hVb]; exact (Below.refl _ _).alloc (Nat.le_refl _) _
  have LNVb := Lib.hid (show LiesI Vb (W1.heap.size + 1) Vb.heap.size (some ⟨Va.heap.size, 0, none⟩) [3, 4, 5, 0, 1, 7, 8, -1] by rw [hVb]; exact lies_new Va (W1.heap.size + 1) [3, 4, 5, 0, 1, 7, 8, -1] (by intro x hx; simp at hx; unfold I64; omega) HZVa.out)
  have HOVb := Lib.hid (HOVa.out.trans ((Only.of_below (g := W1.heap.size) bVb).mono HOVa.out.size))
  have HRVb := Lib.hid (Row.below HRVa.out bVb HZVa.out)
  have HZVb := Lib.hid (Nat.lt_of_lt_of_le HZVa.out bVb.size)
  have HBab := Lib.hid bVb
  clear bVb
  go_wp2_with fail
  rw [← hVb]
  clear hVb
  refine (num_v W1.heap.size W1.heap.size A bc0 bs2 r2 (some ⟨Va.heap.size, 0, none⟩) 8 [3, 4, 5, 0, 1, 7, 8, -1] Vb HRVb.out (HYV.out _ HOVb.out) (Nat.le_refl _) hl2 (HOKa.out.pb hQ) LNVb.out (by decide) (by decide)).mono ?_
  rintro e Vc ⟨y, -, hyi, rfl, hrVc, honVc⟩
  have HOVc := Lib.hid (HOVb.out.trans (honVc.mono HOVb.out.size))
  have HBF := Lib.hid (HBV.out _ HOVc.out)
  have hab : Below Va.heap.size Va Vb := HBab.out
  have HGT2 := Lib.hid ((HGT.out.over hab).keep fun z hz => honVc.block z ((HGT.out.over hab).lt z hz).2 (by have := (HGT.out.lt z hz).1; have := HZ9.out; omega))
  have hX1 := HX1.out.below HBF.out HX1.out.size
  have HXF := Lib.hid hX1
  have f0 := hX1.free 0
  have f1 := hX1.free 1
  have f2' := hX1.free 2
  have d0 := hX1.cell (i := 0) rfl
  have d1 := hX1.cell (i := 1) rfl
  have d2 := hX1.cell (i := 2) rfl
  have HYI := Lib.hid hyi
  have HFIN := Lib.hid (show ∀ V : World, V = (((Vc.setCell ⟨w.heap.size, 0, none⟩ (.int .i64 q2)).setCell ⟨w.heap.size, 1, none⟩ (.int .i64 m2)).setCell ⟨w.heap.size, 2, none⟩ (.slice Y2 j2.len f2)) → RenDrawn w (.returned (.tuple #[.agg #[.int .i64 q2, .int .i64 m2, .slice Y2 j2.len f2], .int .i64 y])) V from fun V hV => by
    subst hV
    refine ⟨q2, m2, j2, Y2, f2, y, rfl, ⟨ml2, HGI.out, (HGT2.out.keep fun z hz => ?_).lower (Nat.le_trans (Nat.le_of_lt HX1.out.size) (Nat.le_of_lt HZ9.out)), HGK.out⟩, HYI.out, (((HB1.out.trans (HBF.out.mono HB1.out.size)).setCell (Nat.le_refl _) _).setCell (Nat.le_refl _) _).setCell (Nat.le_refl _) _⟩
    have hz1 := (HGT2.out.lt z hz).1
    have hz2 : z ≠ w.heap.size := by have := HX1.out.size; have := HZ9.out; omega
    rw [Below.heap_setCell _ _ _ z hz2, Below.heap_setCell _ _ _ z hz2, Below.heap_setCell _ _ _ z hz2])
  clear hX1 hrVc honVc hab hyi
  go_wp2_with fail
  have r7 := ((HXF.out.put 0 (.int .i64 q2)).put 1 (.int .i64 m2)).put 2 (.slice Y2 j2.len f2)
  have t0 := r7.cell (i := 0) rfl
  have t1 := r7.cell (i := 1) rfl
  have t2 := r7.cell (i := 2) rfl
  refine bodyPost_ret (v := .tuple #[.agg #[.int .i64 q2, .int .i64 m2, .slice Y2 j2.len f2], .int .i64 y]) ?_ rfl (by exact HFIN.out _ rfl)
  simp [results, Try.f5, go_sem, t0, t1, t2]
end Go.Proofs.Ytjlaabipgppijaa
