/-
  spec.DrawFirstVar (made by gen_nfir.py).
-/
import Derived.Test.YtiifgkommaeklaaCliS
import Derived.Test.YtiifgkommaeklaaMutS
namespace Go.Proofs.Ytiifgkommaeklaa
open Go.RowKit Go.Shelf
set_option maxRecDepth 100000

def FVPost (w : World) (e : Ending) (w' : World) : Prop :=
  ∃ (ds : List De) (X : Option Addr) (c : Nat) (op n : Int) (k : Fo) (Y : Option Addr) (cy : Nat) (bl : List Nat) (y : Int), e = .returned (.tuple #[.slice X ds.length c, .agg #[.int .i64 op, .int .i64 n, .slice Y k.len cy], .int .i64 y]) ∧
    (LiesD w' 0 w'.heap.size X ds ∧ ds.length ≤ c ∧ c ≤ maxLen ∧ ds.length ≤ 100 ∧ sizeD ds ≤ 1048576) ∧ (I64 op ∧ I64 n) ∧ Tree w' w.heap.size (.slice Y k.len cy) k bl ∧ k.size ≤ 1000000 ∧ I64 y ∧ Below w.heap.size w w'

set_option maxHeartbeats 4000000 in
theorem drawFV_any (A : Option Addr) (bc0 : Nat) (bs : List Nat) (w : World) (hB : LiesY w 0 w.heap.size A bs) (hl : bs.length ≤ bc0) (hc : bc0 ≤ maxLen) :
    Calls Try.prog 6 #[.slice A bs.length bc0] w (FVPost w) := by
  obtain ⟨W1, hW1⟩ : ∃ W1, W1 = w.alloc (Obj.cells #[.int .i64 0, .int .i64 0, .slice none 0 0] 26) := ⟨_, rfl⟩
  have hb1 : Below w.heap.size w W1 := by rw [hW1]; exact (Below.refl _ _).alloc (Nat.le_refl _) _
  have hx1 : Row W1 w.heap.size 26 #[.int .i64 0, .int .i64 0, .slice none 0 0] := by rw [hW1]; exact Row.fresh _ _ _
  have HCO := Lib.hid (open_any A bc0 bs W1 ((hB.below hb1).keep (Nat.le_refl _) hb1.size fun _ _ _ => rfl) hl hc)
  have HX1 := Lib.hid hx1
  have HB1 := Lib.hid hb1
  clear hb1 hx1 hB
  go_enter Try.func6, Try.ntmps6
  go_upto_region 1 with fail
  rw [← hW1]
  clear hW1
  go_wp2_with fail
  refine HCO.out.mono ?_
  rintro e V0 ⟨bs2, hl2, rfl, hY0, hr0, hb0, hz0⟩
  obtain ⟨Q, hQ⟩ := lim_ex bs2 hl2 hY0.bytes
  have HY0 := Lib.hid hY0
  have HB0 := Lib.hid hb0
  have HZ0 := Lib.hid hz0
  have HBV := Lib.hid (show ∀ V, Only W1.heap.size V0.heap.size V0 V → Below W1.heap.size W1 V from fun V h => HB0.out.trans ((h.mono (Nat.le_of_lt HZ0.out)).below (Nat.le_refl _)))
  have HYV := Lib.hid (show ∀ V, Only W1.heap.size V0.heap.size V0 V → LiesY V 0 W1.heap.size A bs2 from fun V h => HY0.out.below ((h.mono (Nat.le_of_lt HZ0.out)).below (Nat.le_refl _)))
  have HC := Lib.hid (l2Draw_any W1.heap.size W1.heap.size A bc0 bs2 Q 0 0 V0 hr0 hY0 (Nat.le_refl _) hl2 hQ (Ok.first hQ) (by decide))
  clear hY0 hr0 hb0 hz0 HCO
  go_wp2_with fail
  refine HC.out.mono ?_
  rintro e V1 ⟨v3, ds, bl, p3, rfl, hlok, ht3, hr3, hok3, hon3⟩
  obtain ⟨X3, c3, rfl, hc1, hc2⟩ := ht3.slice
  have hlen := libOk_len hlok
  have hsz : sizeD ds ≤ 1700 := by
    have h1 := sizeD_bound (m := 200) ds fun d hd => by
      have := small_le80 (libOk_small hlok d hd)
      omega
    have h2 : ds.length * (200 + 1) ≤ 8 * (200 + 1) := Nat.mul_le_mul_right _ hlen
    omega
  have har3 : ∀ d ∈ ds, d.ar ≤ 3 := fun d hd => by
    unfold libOk at hlok
    rw [Bool.and_eq_true] at hlok
    have h := okL_ar ds none hlok.2 d hd
    unfold arOk at h
    rw [Bool.and_eq_true] at h
    exact of_decide_eq_true h.2
  have hlt := ht3.lt
  have HL1 := Lib.hid (show LiesD V1 (W1.heap.size + 1) V1.heap.size X3 ds from (ht3.lies (B := V1.heap.size) fun z hz => (hlt z hz).2).mono_ HZ0.out (Nat.le_refl _))
  have HLV := Lib.hid (show ∀ V, Only W1.heap.size V1.heap.size V1 V → LiesD V 0 V.heap.size X3 ds from fun V h => (HL1.out.keep (Nat.zero_le _) h.size fun p h1 h2 => h.cell h2 (by omega)))
  have HOV1 := Lib.hid hon3
  have HRV1 := Lib.hid hr3
  have HOK1 := Lib.hid (show Ok bs2 Q p3 1 from hok3)
  have HZV1 := Lib.hid (Nat.lt_of_lt_of_le HZ0.out hon3.size)
  have HO1V1 := Lib.hid (Only.refl W1.heap.size V1.heap.size V1)
  have HAR := Lib.hid har3
  have HSZ := Lib.hid hsz
  clear ht3 hr3 hok3 hon3 hlt HC hlok har3
  obtain ⟨V2, hV2⟩ : ∃ U, U = V1.alloc (Obj.cells #[.int .i64 0, .int .i64 1] 3) := ⟨_, rfl⟩
  have bV2 : Below V1.heap.size V1 V2 := by rw [hV2]; exact (Below.refl _ _).alloc (Nat.le_refl _) _
  have LXV2 := Lib.hid (show LiesI V2 (W1.heap.size + 1) V2.heap.size (some ⟨V1.heap.size, 0, none⟩) [0, 1] by rw [hV2]; exact lies_new V1 (W1.heap.size + 1) [0, 1] (by intro x hx; simp at hx; unfold I64; omega) HZV1.out)
  have HOV2 := Lib.hid (HOV1.out.trans ((Only.of_below (g := W1.heap.size) bV2).mono HOV1.out.size))
  have HRV2 := Lib.hid (Row.below HRV1.out bV2 HZV1.out)
  have HZV2 := Lib.hid (Nat.lt_of_lt_of_le HZV1.out bV2.size)
  have HP2 := Lib.hid (show Only W1.heap.size V1.heap.size V1 V2 from Only.of_below bV2)
  clear bV2
  go_wp2_with fail
  rw [← hV2]
  clear hV2
  refine (l2Arity_any ds X3 c3 V2 (HLV.out _ HP2.out) (by omega) HAR.out).mono ?_
  rintro e V3 ⟨v4, ar, rfl, hown, har8, hari, har4, bV3⟩
  obtain ⟨RA, Rc, rfl, hRI⟩ := own_ints hown hari
  have HRI := Lib.hid (show LiesI V3 (W1.heap.size + 1) V3.heap.size RA ar from hRI.mono_ HZV2.out (Nat.le_refl _))
  have LXV3 := Lib.hid ((LXV2.out.below bV3).mono_ (Nat.le_refl _) bV3.size)
  have HOV3 := Lib.hid (HOV2.out.trans ((Only.of_below (g := W1.heap.size) bV3).mono HOV2.out.size))
  have HRV3 := Lib.hid (Row.below HRV2.out bV3 HZV2.out)
  have HZV3 := Lib.hid (Nat.lt_of_lt_of_le HZV2.out bV3.size)
  have HP3 := Lib.hid (HP2.out.trans ((Only.of_below (g := W1.heap.size) bV3).mono HP2.out.size))
  clear hown hRI bV3
  obtain ⟨V4, hV4⟩ : ∃ U, U = V3.alloc (Obj.cells #[.int .i64 3, .int .i64 4, .int .i64 2] 3) := ⟨_, rfl⟩
  have bV4 : Below V3.heap.size V3 V4 := by rw [hV4]; exact (Below.refl _ _).alloc (Nat.le_refl _) _
  have LNV4 := Lib.hid (show LiesI V4 (W1.heap.size + 1) V4.heap.size (some ⟨V3.heap.size, 0, none⟩) [3, 4, 2] by rw [hV4]; exact lies_new V3 (W1.heap.size + 1) [3, 4, 2] (by intro x hx; simp at hx; unfold I64; omega) HZV3.out)
  have LXV4 := Lib.hid ((LXV3.out.below bV4).mono_ (Nat.le_refl _) bV4.size)
  have HOV4 := Lib.hid (HOV3.out.trans ((Only.of_below (g := W1.heap.size) bV4).mono HOV3.out.size))
  have HRV4 := Lib.hid (Row.below HRV3.out bV4 HZV3.out)
  have HZV4 := Lib.hid (Nat.lt_of_lt_of_le HZV3.out bV4.size)
  have HRI4 := Lib.hid ((HRI.out.below bV4).mono_ (Nat.le_refl _) bV4.size)
  have HP4 := Lib.hid (HP3.out.trans ((Only.of_below (g := W1.heap.size) bV4).mono HP3.out.size))
  clear bV4
  go_wp2_with fail
  rw [← hV4]
  clear hV4
  refine (num_v W1.heap.size W1.heap.size A bc0 bs2 p3 (some ⟨V3.heap.size, 0, none⟩) 3 [3, 4, 2] V4 HRV4.out (HYV.out _ HOV4.out) (Nat.le_refl _) hl2 (HOK1.out.pb hQ) LNV4.out (by decide) (by decide)).mono ?_
  rintro e V5 ⟨y9, hym, -, rfl, hrV5, honV5⟩
  have hy := List.mem_of_getElem? hym
  simp at hy
  obtain ⟨d, rfl, hd1, hd5⟩ : ∃ d : Nat, y9 = (d : Int) ∧ 2 ≤ d ∧ d ≤ 4 := ⟨y9.toNat, by omega, by omega, by omega⟩
  have hcd : costD d ≤ 100 ∧ nodesD d ≤ 121 := by rcases (show d = 2 ∨ d = 3 ∨ d = 4 by omega) with rfl | rfl | rfl <;> first | decide | omega
  have HRI5 := Lib.hid (liesI_only HRI4.out honV5)
  have HP5 := Lib.hid (HP4.out.trans (honV5.mono HP4.out.size))
  have LXV5 := Lib.hid (liesI_only LXV4.out honV5)
  have HOV5 := Lib.hid (HOV4.out.trans (honV5.mono HOV4.out.size))
  have HRV5 := Lib.hid hrV5
  have HZV5 := Lib.hid (Nat.lt_of_lt_of_le HZV4.out honV5.size)
  have hs0 := some_any d (by omega) W1.heap.size W1.heap.size A bc0 bs2 Q (p3 + 1) (1 + 1) (some ⟨V1.heap.size, 0, none⟩) 2 [0, 1] RA Rc ar V5 HRV5.out (HYV.out _ HOV5.out) (Nat.le_refl _) hl2 hQ (HOK1.out.next hQ (by decide)) (by omega) LXV5.out (by simp only [List.length_cons, List.length_nil]; omega) HRI5.out (by omega) har4
  rw [har8] at hs0
  have HS := Lib.hid hs0
  clear hs0
  have HCD := Lib.hid hcd
  clear hym hy hrV5 honV5 hcd har8 hari har4
  go_wp2_with fail
  refine HS.out.mono ?_
  rintro e V6 ⟨o1, n1, k1, X1, c1, bl1, p1, rfl, hi1, ht1, hs1, hrV6, hok1, honV6⟩
  obtain ⟨V7, hV7⟩ : ∃ U, U = V6.alloc (Obj.cells #[.int .i64 o1, .int .i64 n1, .slice X1 k1.len c1] 26) := ⟨_, rfl⟩
  have bV7 : Below V6.heap.size V6 V7 := by rw [hV7]; exact (Below.refl _ _).alloc (Nat.le_refl _) _
  have HE7 := Lib.hid (show Row V7 V6.heap.size 26 #[.int .i64 o1, .int .i64 n1, .slice X1 k1.len c1] by rw [hV7]; exact Row.fresh _ _ _)
  have HT7 := Lib.hid (ht1.over bV7)
  have HI1 := Lib.hid hi1
  have HK1 := Lib.hid (show k1.size + 1 ≤ 121 from Nat.le_trans hs1 HCD.out.2)
  have HOK2 := Lib.hid (show Ok bs2 Q p1 (1 + 1 + 100) from hok1.mono (by have := HCD.out.1; omega))
  have HOV6 := Lib.hid (HOV5.out.trans (honV6.mono HOV5.out.size))
  have HRV6 := Lib.hid hrV6
  have HZV6 := Lib.hid (Nat.lt_of_lt_of_le HZV5.out honV6.size)
  have HOV7 := Lib.hid (HOV6.out.trans ((Only.of_below (g := W1.heap.size) bV7).mono HOV6.out.size))
  have HRV7 := Lib.hid (Row.below HRV6.out bV7 HZV6.out)
  have HZV7 := Lib.hid (Nat.lt_of_lt_of_le HZV6.out bV7.size)
  have HP7 := Lib.hid ((HP5.out.trans (honV6.mono HP5.out.size)).trans ((Only.of_below (g := W1.heap.size) bV7).mono (HP5.out.trans (honV6.mono HP5.out.size)).size))
  have z0 := HE7.out.cell (i := 0) rfl
  have z1 := HE7.out.cell (i := 1) rfl
  have z2 := HE7.out.cell (i := 2) rfl
  have HM := Lib.hid (mut_any (Q - p1) W1.heap.size W1.heap.size A bc0 bs2 Q p1 (1 + 1 + 100) o1 n1 k1 X1 c1 V7 rfl HRV7.out (HYV.out _ HOV7.out) (Nat.le_refl _) hl2 hQ HOK2.out (by decide) ((HT7.out.lies fun z hz => (HT7.out.lt z hz).2).mono_ (Nat.zero_le _) (Nat.le_refl _)) HI1.out (by have := HK1.out; omega))
  clear hi1 ht1 hs1 hok1 hrV6 honV6 bV7 HS
  go_upto_region 4 with fail
  rw [← hV7]
  clear hV7
  go_wp2_with fail
  refine HM.out.mono ?_
  rintro e Va ⟨q2, m2, j2, Y2, f2, ml2, r2, rfl, gi2, gt2, gs2, hrVa, gok2, honVa⟩
  have HGI := Lib.hid gi2
  have HGT := Lib.hid gt2
  have HOKa := Lib.hid gok2
  have HGK := Lib.hid (show j2.size ≤ 1000000 by have := gok2.lt; have := hQ.1; have := HK1.out; omega)
  have HPa := Lib.hid (HP7.out.trans (honVa.mono HP7.out.size))
  have HOVa := Lib.hid (HOV7.out.trans (honVa.mono HOV7.out.size))
  have HRVa := Lib.hid hrVa
  have HZVa := Lib.hid (Nat.lt_of_lt_of_le HZV7.out honVa.size)
  clear gi2 gt2 gs2 hrVa gok2 honVa HM z0 z1 z2
  obtain ⟨Vb, hVb⟩ : ∃ U, U = Va.alloc (Obj.cells #[.int .i64 0, .int .i64 1, .int .i64 0, .int .i64 2, .int .i64 (-1), .int .i64 8] 3) := ⟨_, rfl⟩
  have bVb : Below Va.heap.size Va Vb := by rw [hVb]; exact (Below.refl _ _).alloc (Nat.le_refl _) _
  have LNVb := Lib.hid (show LiesI Vb (W1.heap.size + 1) Vb.heap.size (some ⟨Va.heap.size, 0, none⟩) [0, 1, 0, 2, -1, 8] by rw [hVb]; exact lies_new Va (W1.heap.size + 1) [0, 1, 0, 2, -1, 8] (by intro x hx; simp at hx; unfold I64; omega) HZVa.out)
  have HOVb := Lib.hid (HOVa.out.trans ((Only.of_below (g := W1.heap.size) bVb).mono HOVa.out.size))
  have HRVb := Lib.hid (Row.below HRVa.out bVb HZVa.out)
  have HZVb := Lib.hid (Nat.lt_of_lt_of_le HZVa.out bVb.size)
  have HBab := Lib.hid bVb
  have HPb := Lib.hid (HPa.out.trans ((Only.of_below (g := W1.heap.size) bVb).mono HPa.out.size))
  clear bVb
  go_wp2_with fail
  rw [← hVb]
  clear hVb
  refine (num_v W1.heap.size W1.heap.size A bc0 bs2 r2 (some ⟨Va.heap.size, 0, none⟩) 6 [0, 1, 0, 2, -1, 8] Vb HRVb.out (HYV.out _ HOVb.out) (Nat.le_refl _) hl2 (HOKa.out.pb hQ) LNVb.out (by decide) (by decide)).mono ?_
  rintro e Vc ⟨y, -, hyi, rfl, hrVc, honVc⟩
  have HOVc := Lib.hid (HOVb.out.trans (honVc.mono HOVb.out.size))
  have HPc := Lib.hid (HPb.out.trans (honVc.mono HPb.out.size))
  have HBF := Lib.hid (HBV.out _ HOVc.out)
  have hab : Below Va.heap.size Va Vb := HBab.out
  have HGT2 := Lib.hid ((HGT.out.over hab).keep fun z hz => honVc.block z ((HGT.out.over hab).lt z hz).2 (by have := (HGT.out.lt z hz).1; have := HZV7.out; omega))
  have HLF := Lib.hid (show LiesD Vc (W1.heap.size + 1) Vc.heap.size X3 ds from HL1.out.keep (Nat.le_refl _) HPc.out.size fun p h1 h2 => HPc.out.cell h2 (by omega))
  have hX1 := HX1.out.below HBF.out HX1.out.size
  have HXF := Lib.hid hX1
  have f0 := hX1.free 0
  have f1 := hX1.free 1
  have f2' := hX1.free 2
  have d0 := hX1.cell (i := 0) rfl
  have d1 := hX1.cell (i := 1) rfl
  have d2 := hX1.cell (i := 2) rfl
  have HYI := Lib.hid hyi
  have hgw : w.heap.size < W1.heap.size := HX1.out.size
  have HFIN := Lib.hid (show ∀ V : World, V = (((Vc.setCell ⟨w.heap.size, 0, none⟩ (.int .i64 q2)).setCell ⟨w.heap.size, 1, none⟩ (.int .i64 m2)).setCell ⟨w.heap.size, 2, none⟩ (.slice Y2 j2.len f2)) → FVPost w (.returned (.tuple #[.slice X3 ds.length c3, .agg #[.int .i64 q2, .int .i64 m2, .slice Y2 j2.len f2], .int .i64 y])) V from fun V hV => by
    subst hV
    have hs2 := HSZ.out
    have far : ∀ z, w.heap.size + 1 ≤ z → (((Vc.setCell ⟨w.heap.size, 0, none⟩ (.int .i64 q2)).setCell ⟨w.heap.size, 1, none⟩ (.int .i64 m2)).setCell ⟨w.heap.size, 2, none⟩ (.slice Y2 j2.len f2)).heap[z]? = Vc.heap[z]? := fun z hz => by
      have hz2 : z ≠ w.heap.size := by omega
      rw [Below.heap_setCell _ _ _ z hz2, Below.heap_setCell _ _ _ z hz2, Below.heap_setCell _ _ _ z hz2]
    refine ⟨ds, X3, c3, q2, m2, j2, Y2, f2, ml2, y, rfl, ⟨HLF.out.keep (Nat.zero_le _) (by simp only [World.size_setCell]; exact Nat.le_refl _) fun p h1 _ => World.cell?_of_block (far p.block (by omega)), hc1, hc2, by omega, by omega⟩, HGI.out, (HGT2.out.keep fun z hz => far z ?_).lower (by have := HZV7.out; omega), HGK.out, HYI.out, (((HB1.out.trans (HBF.out.mono HB1.out.size)).setCell (Nat.le_refl _) _).setCell (Nat.le_refl _) _).setCell (Nat.le_refl _) _⟩
    have hz1 := (HGT2.out.lt z hz).1
    have := HZV7.out
    omega)
  clear hX1 hrVc honVc hab hyi
  go_wp2_with fail
  have r7 := ((HXF.out.put 0 (.int .i64 q2)).put 1 (.int .i64 m2)).put 2 (.slice Y2 j2.len f2)
  have t0 := r7.cell (i := 0) rfl
  have t1 := r7.cell (i := 1) rfl
  have t2 := r7.cell (i := 2) rfl
  refine bodyPost_ret (v := .tuple #[.slice X3 ds.length c3, .agg #[.int .i64 q2, .int .i64 m2, .slice Y2 j2.len f2], .int .i64 y]) ?_ rfl (by exact HFIN.out _ rfl)
  simp [results, Try.f6, go_sem, t0, t1, t2]
end Go.Proofs.Ytiifgkommaeklaa
