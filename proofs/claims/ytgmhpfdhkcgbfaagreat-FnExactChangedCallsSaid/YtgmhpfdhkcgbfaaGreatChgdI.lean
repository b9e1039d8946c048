/-
  impl.reportChanged, impl.ChangedCalls (made by gen_changed.py).
-/
import Derived.Test.YtgmhpfdhkcgbfaaGreatChgdS
import Derived.Test.YtgmhpfdhkcgbfaaGreatGoneI
import Derived.Test.YtgmhpfdhkcgbfaaGreatKeptI
import Derived.Test.YtgmhpfdhkcgbfaaGreatPutI
namespace Go.Proofs.YtgmhpfdhkcgbfaaGreat
open Go.RowKit Go.Shelf
set_option maxRecDepth 100000

theorem mem_numsUpto (S : Nat → Bool) (j f : Nat) (h : f < j) : decide ((f : Int) ∈ numsUpto S j) = S f := by
  rw [Bool.eq_iff_iff, decide_eq_true_iff, numsUpto_at]
  exact ⟨fun h => h.2, fun h2 => ⟨h, h2⟩⟩
theorem changedL_is {ds1 ds2 : List De} {op n : Int} {k : Fo} (h : goneOk ds1 ds2 op n k = true) : changedL ds1 ds2 op n k = (numsUpto (callB ⟨op, n, k⟩) 8).filter fun x => setT (fun i : Nat => !decide ((i : Int) ∈ keptL ds1 ds2)) ds1 x.toNat := by
  unfold changedL
  rw [if_pos h]
  refine List.filter_congr fun x hx => ?_
  obtain ⟨h1, hf⟩ := goneOk_fit h
  have h2 : libOk ds2 = true := by unfold goneOk at h; rw [Bool.and_eq_true] at h; exact h.1
  obtain ⟨hv, d, hd⟩ := called_there hf x hx
  obtain ⟨hm, hn⟩ := fnd_mem hd
  obtain ⟨e0, e8⟩ := inVar_nat hv
  have hs := setT_at (p := fun i : Nat => !decide ((i : Int) ∈ keptL ds1 ds2)) hm
  rw [hn] at hs
  rw [hs]
  unfold changedP keptL keptOk
  rw [h1, h2]
  simp only [Bool.and_self, if_true]
  rw [mem_numsUpto _ 8 x.toNat e8]
  unfold keptF
  rw [e0, hd]
  rfl

set_option maxHeartbeats 4000000 in
theorem reportChanged_any (ds1 : List De) (A1 : Option Addr) (c1 : Nat) (ds2 : List De) (A2 : Option Addr) (c2 : Nat) (L1 B1 L2 B2 : Nat) (w : World) (hd1 : LiesD w L1 B1 A1 ds1) (hB1 : B1 ≤ w.heap.size) (hd2 : LiesD w L2 B2 A2 ds2) (hB2 : B2 ≤ w.heap.size) (hz1 : sizeD ds1 ≤ 1048576) (hz2 : sizeD ds2 ≤ 1048576) (ha1 : AllRows w L1 B1) (ha2 : AllRows w L2 B2) (hn : ∀ d ∈ ds1, inVar d.nm = true) :
    Calls Tryz.prog 24 #[.slice A1 ds1.length c1, .slice A2 ds2.length c2] w (Gives (.agg (#[.slice A1 ds1.length c1, .slice A2 ds2.length c2] ++ cells8 (setT (fun i : Nat => !decide ((i : Int) ∈ keptL ds1 ds2)) ds1))) w) := by
  have hds1 := Nat.le_trans (sizeD_len ds1) hz1
  have hds2 := Nat.le_trans (sizeD_len ds2) hz2
  obtain ⟨W0, hW0⟩ : ∃ W, W = w.alloc (Obj.cells #[.slice none 0 0, .slice none 0 0, .bool false, .bool false, .bool false, .bool false, .bool false, .bool false, .bool false, .bool false] 55) := ⟨_, rfl⟩
  have hb0 : Below w.heap.size w W0 := by rw [hW0]; exact (Below.refl _ _).alloc (Nat.le_refl _) _
  have HR0 := Lib.hid (show Row W0 w.heap.size 55 #[.slice none 0 0, .slice none 0 0, .bool false, .bool false, .bool false, .bool false, .bool false, .bool false, .bool false, .bool false] by rw [hW0]; exact Row.fresh _ _ _)
  have HB0 := Lib.hid hb0
  have HD1 := Lib.hid hd1
  have HD2 := Lib.hid hd2
  clear hb0 hd1 hd2
  go_enter Tryz.func24, Tryz.ntmps24
  go_upto_region 1 with fail
  rw [← hW0]
  clear hW0
  go_wp2_with fail
  refine (implKept_any ds1 A1 c1 ds2 A2 c2 L1 B1 L2 B2 W0 (HD1.out.below (HB0.out.mono hB1)) (Nat.le_trans hB1 HB0.out.size) (ha1.below HB0.out hB1) (HD2.out.below (HB0.out.mono hB2)) (Nat.le_trans hB2 HB0.out.size) (ha2.below HB0.out hB2) hz1 hz2).mono ?_
  rintro e w1 ⟨vk, rfl, hok, hb1⟩
  obtain ⟨zs, hzs⟩ : ∃ z, z = keptL ds1 ds2 := ⟨_, rfl⟩
  have hzi : ∀ x ∈ zs, I64 x := by rw [hzs]; exact fun x hx => keptL_small x hx
  have hzl : zs.length ≤ 8 := by rw [hzs]; exact keptL_len ds1 ds2
  rw [← hzs] at hok
  obtain ⟨Az, cz, rfl, hIz⟩ := own_ints hok hzi
  have HIZ := Lib.hid (show LiesI w1 0 w1.heap.size Az zs from hIz.mono_ (Nat.zero_le _) (Nat.le_refl _))
  have HZS := Lib.hid hzs
  have HR1 := Lib.hid (HR0.out.below hb1 HR0.out.size)
  have HB1 := Lib.hid (HB0.out.trans (hb1.mono HB0.out.size))
  have HZ0 := Lib.hid (show w.heap.size < W0.heap.size from HR0.out.size)
  obtain ⟨P, hP⟩ : ∃ P : Nat → Bool, P = fun i : Nat => !decide ((i : Int) ∈ keptL ds1 ds2) := ⟨_, rfl⟩
  have HPP := Lib.hid hP
  have HPZ := Lib.hid (show ∀ i, P i = !decide ((i : Int) ∈ zs) by rw [hP, hzs]; exact fun _ => rfl)
  have HLT := Lib.hid (Nat.le_trans (Nat.le_of_lt HR0.out.size) hb1.size)
  clear hok hb1 hIz hzs hzi HR0 HB0 hP ha1 ha2
  obtain ⟨W1, hW1⟩ : ∃ W, W = w1.alloc (Obj.cells #[.bool false, .bool false, .bool false, .bool false, .bool false, .bool false, .bool false, .bool false] 53) := ⟨_, rfl⟩
  have hbb : Below w1.heap.size w1 W1 := by rw [hW1]; exact (Below.refl _ _).alloc (Nat.le_refl _) _
  have HG := Lib.hid (show Row W1 w1.heap.size 53 (cells8 (setT P (ds1.take 0))) by rw [hW1]; exact Row.fresh _ _ _)
  have HBB := Lib.hid hbb
  clear hbb
  go_upto_region 3 with fail
  rw [← hW1]
  clear hW1
  go_wp2_with fail
  go_loopw [14] (fun i wr => ∃ (j : Nat), j ≤ ds1.length ∧ i = .int .i64 (j : Int) ∧ Row wr w1.heap.size 53 (cells8 (setT P (ds1.take j))) ∧ Below w1.heap.size w1 wr)
    (fun i _ => ds1.length - (intOf i).toNat)
  case atStart => exact ⟨0, by omega, rfl, HG.out, HBB.out⟩
  case round =>
    clear HG HBB
    obtain ⟨j, hj, rfl, hr, hb⟩ := hrel
    by_cases hlt : j < ds1.length
    · obtain ⟨d, hd⟩ : ∃ d, ds1[j]? = some d := ⟨_, List.getElem?_eq_getElem hlt⟩
      have hin := hn d (List.mem_of_getElem? hd)
      obtain ⟨e0, e8⟩ := inVar_nat hin
      obtain ⟨b, o, A', c', rfl, _, hbw, hf, g0, g1, g2, g3, g4, g5, h7, h8, h9⟩ := (HD1.out.below ((HB1.out.trans (hb.mono HB1.out.size)).mono hB1)) j d hd
      obtain ⟨v, hv⟩ : ∃ v, v = d.nm.toNat := ⟨_, rfl⟩
      have hstep := setT_step (p := P) hd hv (by rw [hv]; exact e8)
      rw [← hv] at e0 e8
      rw [← e0] at g0
      obtain ⟨t, ht⟩ : ∃ t, decide ((v : Int) ∈ zs) = t := ⟨_, rfl⟩
      rw [HPZ.out v, ht] at hstep
      have HSTEP := Lib.hid hstep
      have HDEC := Lib.hid ht
      obtain ⟨Y, hY⟩ : ∃ Y, Y = wr.alloc (Obj.cells #[.int .i64 (v : Int), .int .i64 d.ar, .bool d.old, .int .i64 d.op, .int .i64 d.n, .slice A' d.k.len c'] 49) := ⟨_, rfl⟩
      have hbY : Below w1.heap.size w1 Y := by rw [hY]; exact hb.alloc hb.size _
      have HX := Lib.hid (show Row Y wr.heap.size 49 #[.int .i64 (v : Int), .int .i64 d.ar, .bool d.old, .int .i64 d.op, .int .i64 d.n, .slice A' d.k.len c'] by rw [hY]; exact Row.fresh _ _ _)
      have HRY := Lib.hid (show Row Y w1.heap.size 53 (cells8 (setT P (ds1.take j))) by rw [hY]; exact hr.alloc _)
      have HBY := Lib.hid hbY
      have HDY := Lib.hid (show Below w1.heap.size w1 Y.drew from hbY.drew)
      have HGD := Lib.hid (show w1.heap.size < wr.heap.size from hr.size)
      have hji : (j : Int) < (ds1.length : Int) := by omega
      clear hd hin e0 hv hf h9 hr hb hbY hstep ht
      go_upto_region 6 with fail
      rw [← hY]
      clear hY g0 g1 g2 g3 g4 g5
      have HS := Lib.hid (show ∀ w' : World, Only w1.heap.size Y.heap.size Y w' → w'.cell? ⟨wr.heap.size, 0, none⟩ = some (.int .i64 (v : Int)) from fun w' ho => (ho.cell (p := ⟨wr.heap.size, 0, none⟩) HX.out.size (Nat.ne_of_gt HGD.out)).trans (HX.out.cell (i := 0) rfl))
      have HDD := Lib.hid (Below.refl Y.heap.size Y).drew
      have s0 := HS.out _ (Only.refl w1.heap.size Y.heap.size Y).drew
      have hv8 : (v : Int) < 8 := by omega
      refine wp_region_held_drew (S := fun w' => w'.cell? ⟨wr.heap.size, 0, none⟩ = some (.int .i64 (v : Int))) (by kernel_rfl) s0 (fun hHeld => ?_)
      refine takeW 0 (v := ?vx1_0) rfl (by kernel_rfl) (fun _ _ _ h => h) (by rfl) (by assumption) ?yx1_0 ?rx1_0
      case yx1_0 => (intro w' hSw; (try dsimp only at hSw); go_simp; try with_reducible rfl)
      try simp only [Act.put, List.setIfInBounds_toArray, List.set_cons_zero, List.set_cons_succ, List.getElem_toArray, List.getElem_cons_zero]
      refine takeW 1 (v := ?vx1_1) rfl (by kernel_rfl) (fun _ _ _ h => h) (by rfl) (by assumption) ?yx1_1 ?rx1_1
      case yx1_1 => (intro w' hSw; (try dsimp only at hSw); go_simp; try with_reducible rfl)
      try simp only [Act.put, List.setIfInBounds_toArray, List.set_cons_zero, List.set_cons_succ, List.getElem_toArray, List.getElem_cons_succ, List.getElem_cons_zero]
      refine takeW 2 (v := ?vx1_2) rfl (by kernel_rfl) (fun _ _ _ h => h) (by rfl) (by assumption) ?yx1_2 ?rx1_2
      case yx1_2 => (intro w' hSw; (try dsimp only at hSw); go_simp; try with_reducible rfl)
      try simp only [Act.put, List.setIfInBounds_toArray, List.set_cons_zero, List.set_cons_succ, List.getElem_toArray, List.getElem_cons_succ, List.getElem_cons_zero]
      refine takeW 3 (v := ?vx1_3) rfl (by kernel_rfl) (fun _ _ _ h => h) (by rfl) (by assumption) ?yx1_3 ?rx1_3
      case yx1_3 => (intro w' hSw; (try dsimp only at hSw); go_simp; try with_reducible rfl)
      try simp only [Act.put, List.setIfInBounds_toArray, List.set_cons_zero, List.set_cons_succ, List.getElem_toArray, List.getElem_cons_succ, List.getElem_cons_zero]
      refine takeW 4 (v := ?vx1_4) rfl (by kernel_rfl) (fun _ _ _ h => h) (by rfl) (by assumption) ?yx1_4 ?rx1_4
      case yx1_4 => (intro w' hSw; (try dsimp only at hSw); go_simp; try with_reducible rfl)
      try simp only [Act.put, List.setIfInBounds_toArray, List.set_cons_zero, List.set_cons_succ, List.getElem_toArray, List.getElem_cons_succ, List.getElem_cons_zero]
      refine wpAnyH_ready (rs := [5]) (by kernel_rfl) (by simp) ?_
      refine AllReadyH.cons rfl (fun K hK => ?_) AllReadyH.nil
      go_simp
      refine (contains_any zs _ cz (v : Int) Y.drew (HIZ.out.up HDY.out) (by omega)).mono ?_
      rintro e w7 ⟨rfl, hb7⟩
      rw [HDEC.out]
      have HB7 := Lib.hid (show Below Y.heap.size Y w7 from HDD.out.trans (hb7.mono HDD.out.size))
      have s7 := HS.out _ (Only.of_below (g := w1.heap.size) HB7.out)
      have q8 := Row.cell (HRY.out.below HB7.out HRY.out.size) (cells8_at (setT P (ds1.take j)) e8)
      have f8 := Row.free (HRY.out.below HB7.out HRY.out.size) v
      clear hb7
      refine hK.out _ _ (s7) (fun hHeldB1 => ?_)
      clear hK K
      try simp only [Act.put, List.setIfInBounds_toArray, List.set_cons_zero, List.set_cons_succ, List.getElem_toArray, List.getElem_cons_succ, List.getElem_cons_zero]
      refine takeW 6 (v := ?vx2_6) rfl (by kernel_rfl) (fun _ _ _ h => h) (by rfl) (by assumption) ?yx2_6 ?rx2_6
      case yx2_6 => (intro w' hSw; (try dsimp only at hSw); go_simp; try with_reducible rfl)
      try simp only [Act.put, List.setIfInBounds_toArray, List.set_cons_zero, List.set_cons_succ, List.getElem_toArray, List.getElem_cons_succ, List.getElem_cons_zero]
      refine takeW 7 (v := ?vx2_7) rfl (by kernel_rfl) (fun _ _ _ h => h) (by rfl) (by assumption) ?yx2_7 ?rx2_7
      case yx2_7 => (intro w' hSw; (try dsimp only at hSw); go_simp; try with_reducible rfl)
      try simp only [Act.put, List.setIfInBounds_toArray, List.set_cons_zero, List.set_cons_succ, List.getElem_toArray, List.getElem_cons_succ, List.getElem_cons_zero]
      refine wpAnyH_ready (rs := [8]) (by kernel_rfl) (by simp) ?_
      refine AllReadyH.cons rfl (fun K hK => ?_) AllReadyH.nil
      go_simp
      have sz := HS.out _ ((Only.of_below (g := w1.heap.size) HB7.out).set (p := ⟨w1.heap.size, v, none⟩) (.inl rfl) (.bool (!t)))
      refine hK.out _ _ (sz) (fun hHeldB2 => ?_)
      clear hK K
      try simp only [Act.put, List.setIfInBounds_toArray, List.set_cons_zero, List.set_cons_succ, List.getElem_toArray, List.getElem_cons_succ, List.getElem_cons_zero]
      refine wpAnyH_done (by kernel_rfl) ?_ _
      clear sz s7
      go_wp2_with fail
      go_roundw
      case rel => exact ⟨j + 1, hlt, by go_num, by rw [← HSTEP.out]; exact (HRY.out.below HB7.out HRY.out.size).put v (.bool (!t)), (HBY.out.trans (HB7.out.mono HBY.out.size)).setCell (p := ⟨w1.heap.size, v, none⟩) (Nat.le_refl _) (.bool (!t))⟩
      case measure => simp [intOf]; omega
    · have e9 : j = ds1.length := by omega
      subst e9
      rw [List.take_length] at hr
      have hji : ¬ (ds1.length : Int) < (ds1.length : Int) := by omega
      obtain ⟨T, hT⟩ : ∃ T, T = setT P ds1 := ⟨_, rfl⟩
      rw [← hT] at hr
      have HT := Lib.hid hT
      have HRR := Lib.hid (HR1.out.below (hb.mono (Nat.le_refl _)) HR1.out.size)
      have HBR := Lib.hid (HB1.out.trans (hb.mono HB1.out.size))
      have ⟨p0, p1, p2, p3, p4, p5, p6, p7⟩ : wr.cell? ⟨w1.heap.size, 0, none⟩ = some (.bool (T 0)) ∧ wr.cell? ⟨w1.heap.size, 1, none⟩ = some (.bool (T 1)) ∧ wr.cell? ⟨w1.heap.size, 2, none⟩ = some (.bool (T 2)) ∧ wr.cell? ⟨w1.heap.size, 3, none⟩ = some (.bool (T 3)) ∧ wr.cell? ⟨w1.heap.size, 4, none⟩ = some (.bool (T 4)) ∧ wr.cell? ⟨w1.heap.size, 5, none⟩ = some (.bool (T 5)) ∧ wr.cell? ⟨w1.heap.size, 6, none⟩ = some (.bool (T 6)) ∧ wr.cell? ⟨w1.heap.size, 7, none⟩ = some (.bool (T 7)) :=
        ⟨hr.cell (i := 0) rfl, hr.cell (i := 1) rfl, hr.cell (i := 2) rfl, hr.cell (i := 3) rfl, hr.cell (i := 4) rfl, hr.cell (i := 5) rfl, hr.cell (i := 6) rfl, hr.cell (i := 7) rfl⟩
      have s0 := HRR.out.cell (i := 0) rfl
      have f0 := HRR.out.free 0
      have s1 := HRR.out.cell (i := 1) rfl
      have f1 := HRR.out.free 1
      have s2 := HRR.out.cell (i := 2) rfl
      have f2 := HRR.out.free 2
      have s3 := HRR.out.cell (i := 3) rfl
      have f3 := HRR.out.free 3
      have s4 := HRR.out.cell (i := 4) rfl
      have f4 := HRR.out.free 4
      have s5 := HRR.out.cell (i := 5) rfl
      have f5 := HRR.out.free 5
      have s6 := HRR.out.cell (i := 6) rfl
      have f6 := HRR.out.free 6
      have s7 := HRR.out.cell (i := 7) rfl
      have f7 := HRR.out.free 7
      have s8 := HRR.out.cell (i := 8) rfl
      have f8 := HRR.out.free 8
      have s9 := HRR.out.cell (i := 9) rfl
      have f9 := HRR.out.free 9
      obtain ⟨t0, t1, t2, t3, t4, t5, t6, t7, t8, t9, hbc⟩ := put10 HRR.out HBR.out (Nat.le_refl _) (.slice A1 ds1.length c1) (.slice A2 ds2.length c2) (.bool (T 0)) (.bool (T 1)) (.bool (T 2)) (.bool (T 3)) (.bool (T 4)) (.bool (T 5)) (.bool (T 6)) (.bool (T 7))
      have HBC := Lib.hid hbc
      clear hbc
      clear hr hb hT
      go_wp2_with fail
      refine bodyPost_ret (v := .agg #[.slice A1 ds1.length c1, .slice A2 ds2.length c2, .bool (T 0), .bool (T 1), .bool (T 2), .bool (T 3), .bool (T 4), .bool (T 5), .bool (T 6), .bool (T 7)]) ?_ rfl ⟨by rw [← HPP.out, ← HT.out]; rfl, HBC.out⟩
      simp [results, Tryz.f24, go_sem, t0, t1, t2, t3, t4, t5, t6, t7, t8, t9]

set_option maxHeartbeats 4000000 in
theorem implChanged_any (ds1 : List De) (A1 : Option Addr) (c1 : Nat) (ds2 : List De) (A2 : Option Addr) (c2 : Nat) (op n : Int) (k : Fo) (A : Option Addr) (c : Nat) (L1 B1 L2 B2 L B : Nat) (w : World) (hd1 : LiesD w L1 B1 A1 ds1) (hB1 : B1 ≤ w.heap.size) (ha1 : AllRows w L1 B1) (hd2 : LiesD w L2 B2 A2 ds2) (hB2 : B2 ≤ w.heap.size) (ha2 : AllRows w L2 B2) (hl : Lies w L B A 0 k) (hB : B ≤ w.heap.size) (_ha : AllRows w L B) (hz1 : sizeD ds1 ≤ 1048576) (hz2 : sizeD ds2 ≤ 1048576) (hk1 : k.len ≤ c) (hk2 : c ≤ maxLen) (hsz : k.size ≤ 1048576) :
    Calls Tryz.prog 9 #[.slice A1 ds1.length c1, .slice A2 ds2.length c2, .agg #[.int .i64 op, .int .i64 n, .slice A k.len c]] w (ListPost (changedL ds1 ds2 op n k) w) := by
  obtain ⟨hb0, hr0⟩ := one_box w 34 #[Value.int IntKind.i64 op, Value.int IntKind.i64 n, Value.slice A k.len c]
  have HF := Lib.hid (isFrom_any ds1 A1 c1 ds2 A2 c2 op n k A c L1 B1 L2 B2 L B _ (hd1.below (hb0.mono hB1)) (Nat.le_trans hB1 hb0.size) (hd2.below (hb0.mono hB2)) (Nat.le_trans hB2 hb0.size) (hl.below (hb0.mono hB)) (Nat.le_trans hB hb0.size) hz1 hz2 hk1 hk2 hsz)
  have HB := Lib.hid hb0
  have HR := Lib.hid hr0
  have HD1 := Lib.hid hd1
  have HD2 := Lib.hid hd2
  have HL := Lib.hid hl
  have HA1 := Lib.hid ha1
  have HA2 := Lib.hid ha2
  have q0 := hr0.cell (i := 0) rfl
  have q1 := hr0.cell (i := 1) rfl
  have q2 := hr0.cell (i := 2) rfl
  clear hb0 hr0 hd1 hd2 hl ha1 ha2
  cases hz : goneOk ds1 ds2 op n k with
  | false =>
    rw [hz] at HF
    have HZ := Lib.hid (show changedL ds1 ds2 op n k = [] by unfold changedL; rw [hz]; rfl)
    clear hz
    go_enter Tryz.func9, Tryz.ntmps9
    go_wp2_with fail
    refine HF.out.mono ?_
    rintro e w1 ⟨rfl, hb1⟩
    have HB1 := Lib.hid (HB.out.trans (hb1.mono HB.out.size))
    clear hb1 HF HB HR q0 q1 q2
    go_wp2_with fail
    go_ret
    exact ⟨_, rfl, by rw [HZ.out]; exact World.ownsRow_nil _ _ _ _, HB1.out⟩
  | true =>
    rw [hz] at HF
    have HZ := Lib.hid (changedL_is hz)
    have HOK := Lib.hid (goneOk_fit hz)
    clear hz
    obtain ⟨T, hT⟩ : ∃ T, T = setT (fun i : Nat => !decide ((i : Int) ∈ keptL ds1 ds2)) ds1 := ⟨_, rfl⟩
    rw [← hT] at HZ
    have HT := Lib.hid hT
    clear hT
    have hfd : ∀ w : World, (Instr.field 55 (.agg #[.slice A1 ds1.length c1, .slice A2 ds2.length c2, .bool (T 0), .bool (T 1), .bool (T 2), .bool (T 3), .bool (T 4), .bool (T 5), .bool (T 6), .bool (T 7)]) 2).run Tryz.prog w = .ok (.agg #[.bool (T 0), .bool (T 1), .bool (T 2), .bool (T 3), .bool (T 4), .bool (T 5), .bool (T 6), .bool (T 7)]) w := fun _ => by kernel_rfl
    go_enter Tryz.func9, Tryz.ntmps9
    go_wp2_with fail
    refine HF.out.mono ?_
    rintro e w1 ⟨rfl, hb1⟩
    have HB1 := Lib.hid (HB.out.trans (hb1.mono HB.out.size))
    have HR1 := Lib.hid (HR.out.below hb1 HR.out.size)
    clear hb1 HF HB HR q0 q1 q2
    have HS := Lib.hid (show ∀ V, Below w1.heap.size w1 V → V.cell? ⟨w.heap.size, 0, none⟩ = some (.int .i64 op) ∧ V.cell? ⟨w.heap.size, 1, none⟩ = some (.int .i64 n) ∧ V.cell? ⟨w.heap.size, 2, none⟩ = some (.slice A k.len c) from fun V hV => by
      have h := HR1.out.below hV HR1.out.size
      exact ⟨h.cell rfl, h.cell rfl, h.cell rfl⟩)
    have hbd : Below w1.heap.size w1 w1.drew := (Below.refl _ _).drew
    have s0 := HS.out _ hbd
    have HBD := Lib.hid (HB1.out.trans (hbd.mono HB1.out.size))
    have HBE := Lib.hid hbd
    have HCR := Lib.hid (reportChanged_any ds1 A1 c1 ds2 A2 c2 L1 B1 L2 B2 w1.drew (HD1.out.below (HBD.out.mono hB1)) (Nat.le_trans hB1 HBD.out.size) (HD2.out.below (HBD.out.mono hB2)) (Nat.le_trans hB2 HBD.out.size) hz1 hz2 (HA1.out.below HBD.out hB1) (HA2.out.below HBD.out hB2) (fun d hd => (libOk_named HOK.out.1 d hd).1))
    rw [← HT.out] at HCR
    have HSM := Lib.hid (callsFit_small HOK.out.2)
    clear hbd
    unfold cells8 at HCR
    go_upto_region 3 with fail
    go_region_held3 (fun w' => w'.cell? ⟨w.heap.size, 0, none⟩ = some (.int .i64 op) ∧ w'.cell? ⟨w.heap.size, 1, none⟩ = some (.int .i64 n) ∧ w'.cell? ⟨w.heap.size, 2, none⟩ = some (.slice A k.len c))
      (first | with_reducible exact s0 | with_reducible exact s2 | with_reducible exact s3 | fail)
      (first
        | (go_at_call 25
           refine (calledIn_any T op n k A c L B w2 (HL.out.below (HB2.out.mono hB)) (Nat.le_trans hB HB2.out.size) (RowsIf.small HSM.out) hk1 hk2 hsz).mono ?_
           rintro e w3 ⟨v3, rfl, ho3, hb3⟩
           have HB3 := Lib.hid (HB2.out.trans (hb3.mono HB2.out.size))
           have HO3 := Lib.hid (own_less ho3 HB2.out.size)
           have s3 := HS.out _ (HE2.out.trans (hb3.mono HE2.out.size))
           clear hb3 ho3)
        | (go_at_call 24
           refine HCR.out.mono ?_
           rintro e w2 ⟨rfl, hb2⟩
           have HB2 := Lib.hid (HBD.out.trans (hb2.mono HBD.out.size))
           have HE2 := Lib.hid (HBE.out.trans (hb2.mono HBE.out.size))
           have s2 := HS.out _ HE2.out
           clear hb2)
        | fail)
    all_goals
      go_wp2_with fail
      go_ret
      exact ⟨_, rfl, by rw [HZ.out]; exact HO3.out, HB3.out⟩
end Go.Proofs.YtgmhpfdhkcgbfaaGreat
