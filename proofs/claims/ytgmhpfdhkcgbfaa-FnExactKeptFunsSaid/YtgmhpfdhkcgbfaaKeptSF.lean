/-
  spec.KeptFuns (made by gen_kepti.py).
-/
import Derived.Test.YtgmhpfdhkcgbfaaKeptS
namespace Go.Proofs.Ytgmhpfdhkcgbfaa
open Go.RowKit Go.Shelf
set_option maxRecDepth 100000

set_option maxHeartbeats 4000000 in
theorem specKept_any (ds1 : List De) (A1 : Option Addr) (c1 : Nat) (ds2 : List De) (A2 : Option Addr) (c2 : Nat) (w : World) (hd1 : LiesD w 0 w.heap.size A1 ds1) (hd2 : LiesD w 0 w.heap.size A2 ds2) (hz1 : sizeD ds1 ≤ 1048576) (hz2 : sizeD ds2 ≤ 1048576) :
    Calls Try.prog 23 #[.slice A1 ds1.length c1, .slice A2 ds2.length c2] w (ListPost (keptL ds1 ds2) w) := by
  have hds1 := Nat.le_trans (sizeD_len ds1) hz1
  obtain ⟨W, hW⟩ : ∃ W, W = w.alloc (Obj.cells #[] 3) := ⟨_, rfl⟩
  have HO := Lib.hid (show W.ownsRow w.heap.size 3 1 (.slice (some ⟨w.heap.size, 0, none⟩) 0 0) 0 [] by rw [hW]; exact own_empty0 w w.heap.size (Nat.le_refl _))
  have HB := Lib.hid (show Below w.heap.size w W by rw [hW]; exact (Below.refl _ _).alloc (Nat.le_refl _) _)
  have HD1 := Lib.hid hd1
  have HD2 := Lib.hid hd2
  obtain ⟨v1, hv1⟩ : ∃ v, v = libOk ds1 := ⟨_, rfl⟩
  obtain ⟨v2, hv2⟩ : ∃ v, v = libOk ds2 := ⟨_, rfl⟩
  have H1 := Lib.hid hv1
  have H2 := Lib.hid hv2
  have HKO := Lib.hid (show keptOk ds1 ds2 = (v1 && v2) by rw [hv1, hv2]; rfl)
  clear hd1 hd2 hv1 hv2
  go_enter Try.func23, Try.ntmps23
  go_upto_region 2 with fail
  rw [← hW]
  clear hW
  go_wp2_with fail
  go_loopw [5, 6] (fun v i wr => ∃ (f : Nat), f ≤ 8 ∧ i = .int .i64 (f : Int) ∧ Hid ((v1 && v2) = false → f = 0) ∧ wr.ownsRow w.heap.size 3 1 v (numsUpto (keptF ds1 ds2) f).length ((numsUpto (keptF ds1 ds2) f).map (Value.int .i64)) ∧ Below w.heap.size w wr)
    (fun _ i _ => 8 - (intOf i).toNat)
  case atStart => exact ⟨0, by omega, rfl, Lib.hid (fun _ => rfl), HO.out, HB.out⟩
  case round =>
    clear HO HB
    obtain ⟨f, hf, rfl, HZ, hown, hb⟩ := hrel
    have HOWN := Lib.hid hown
    have HBR := Lib.hid hb
    by_cases hlt : f < 8
    · have hfi : (f : Int) < 8 := by omega
      have HV1 := Lib.hid (specLibValid_any ds1 A1 c1 wr (HD1.out.up hb) hz1)
      clear hown hb
      go_wp2_with fail
      refine HV1.out.mono ?_
      rintro e w3 ⟨rfl, hb3⟩
      rw [← H1.out]
      have HB3 := Lib.hid (HBR.out.trans (hb3.mono HBR.out.size))
      have HO3 := Lib.hid (own_below HOWN.out hb3)
      clear hb3 HBR HOWN HV1
      cases v1 with
      | false =>
        have HL := Lib.hid (show numsUpto (keptF ds1 ds2) f = keptL ds1 ds2 by rw [HZ.out rfl]; unfold keptL; rw [HKO.out]; rfl)
        go_wp2_with fail
        go_ret
        exact ⟨_, rfl, by rw [← HL.out]; exact HO3.out, HB3.out⟩
      | true =>
      have HV2 := Lib.hid (specLibValid_any ds2 A2 c2 w3 (HD2.out.up HB3.out) hz2)
      go_wp2_with fail
      refine HV2.out.mono ?_
      rintro e w4 ⟨rfl, hb4⟩
      rw [← H2.out]
      have HB4 := Lib.hid (HB3.out.trans (hb4.mono HB3.out.size))
      have HO4 := Lib.hid (own_below HO3.out hb4)
      clear hb4 HB3 HO3 HV2
      cases v2 with
      | false =>
        have HL := Lib.hid (show numsUpto (keptF ds1 ds2) f = keptL ds1 ds2 by rw [HZ.out rfl]; unfold keptL; rw [HKO.out]; rfl)
        go_wp2_with fail
        go_ret
        exact ⟨_, rfl, by rw [← HL.out]; exact HO4.out, HB4.out⟩
      | true =>
      have hcase := place_cases (f : Int) ds1
      have HP := Lib.hid (place_any ds1 A1 c1 w4 (f : Int) (HD1.out.up HB4.out) hds1)
      obtain ⟨x, hx⟩ : ∃ x, x = plcI (f : Int) ds1 := ⟨_, rfl⟩
      rw [← hx] at HP hcase
      have HCA := Lib.hid hcase
      clear hx hcase
      go_wp2_with fail
      refine HP.out.mono ?_
      rintro e w5 ⟨rfl, hb5⟩
      have HB5 := Lib.hid (HB4.out.trans (hb5.mono HB4.out.size))
      have HO5 := Lib.hid (own_below HO4.out hb5)
      clear hb5 HB4 HO4 HP
      rcases HCA.out with ⟨hn1, hv⟩ | ⟨p, d, hv, _, _, hf1⟩
      · have HF := Lib.hid (numsUpto_no (S := keptF ds1 ds2) (j := f) (by unfold keptF; rw [hn1]; rfl))
        subst hv
        clear HCA hn1
        go_wp2_with fail
        go_roundw
        case rel => exact ⟨f + 1, by omega, by go_num, Lib.hid (fun h => by cases h), by rw [HF.out]; exact HO5.out, HB5.out⟩
        case measure => simp [intOf]; omega
      · have hp0 : decide ((p : Int) ≥ 0) = true := by simp
        subst hv
        obtain ⟨t, ht⟩ : ∃ t, t = keptS ds1 ds2 (f : Int) := ⟨_, rfl⟩
        have HKF := Lib.hid (show keptF ds1 ds2 f = t by unfold keptF; rw [hf1, ht]; rfl)
        have HT := Lib.hid ht
        clear HCA hf1 ht
        go_wp2_with fail
        refine (l8Kept_any ds1 A1 c1 ds2 A2 c2 (f : Int) w5 (HD1.out.up HB5.out) (HD2.out.up HB5.out) hz1 hz2).mono ?_
        rintro e w6 ⟨rfl, hb6⟩
        rw [← HT.out]
        have HB6 := Lib.hid (HB5.out.trans (hb6.mono HB5.out.size))
        have HO6 := Lib.hid (own_below HO5.out hb6)
        have hnl := numsUpto_len (keptF ds1 ds2) f
        clear hb6 HB5 HO5 hp0
        cases t with
        | false =>
          have HF := Lib.hid (numsUpto_no (S := keptF ds1 ds2) (j := f) HKF.out)
          go_wp2_with fail
          go_roundw
          case rel => exact ⟨f + 1, by omega, by go_num, Lib.hid (fun h => by cases h), by rw [HF.out]; exact HO6.out, HB6.out⟩
          case measure => simp [intOf]; omega
        | true =>
          have HF := Lib.hid (numsUpto_yes (S := keptF ds1 ds2) (j := f) HKF.out)
          obtain ⟨iT, hiT, hiz0, hiz1, hiz2⟩ := info_parts (show (Try.prog.info? 3).map (fun i => (i.zero, i.size, i.bytes)) = some (some (.int .i64 0), 1, 8) by kernel_rfl)
          have HIT := Lib.hid hiT
          have HIZ0 := Lib.hid hiz0
          have HIZ1 := Lib.hid hiz1
          have HIZ2 := Lib.hid hiz2
          have C1 := Lib.hid (fresh_cells w6 3 #[Value.int .i64 (f : Int)])
          have HC2 := Lib.hid (show ∀ u ∈ [Value.int .i64 (f : Int)], u.oneCell' = true by intro u hu; rw [List.mem_singleton.1 hu]; rfl)
          have HC3 := Lib.hid (show (numsUpto (keptF ds1 ds2) f).length + 1 ≤ maxLen by unfold maxLen; omega)
          have HC4 := Lib.hid (show ((numsUpto (keptF ds1 ds2) f).length + 1) * 8 ≤ 140737488355328 by omega)
          have HC5 := Lib.hid (show w.heap.size ≤ (w6.alloc (.cells #[Value.int .i64 (f : Int)] 3)).heap.size by have := HB6.out.size; rw [World.size_alloc]; omega)
          have HOA := Lib.hid (HO6.out.alloc (.cells #[Value.int .i64 (f : Int)] 3))
          clear hiT hiz0 hiz1 hiz2
          go_wp2_with (at_builtin; refine wpList_append_own_at _ rfl _ _ 28 rfl w.heap.size 3 iT _ 1 8 Try.underlying28 HIT.out HIZ0.out HIZ1.out HIZ2.out rfl (by decide) _ _ _ rfl HOA.out ⟨w6.heap.size, 0, none⟩ 1 1 [Value.int .i64 (f : Int)] rfl rfl C1.out HC2.out HC3.out HC4.out HC5.out ?_; intro v' w' hown5 hgrow5 _ hblk)
          have HB7 := Lib.hid (show Below w.heap.size w w' from Below.grown (HB6.out.alloc HB6.out.size (.cells #[Value.int .i64 (f : Int)] 3)) hgrow5 HC5.out (fun g' hg' => own_at_least HO6.out hg'))
          have HO7 := Lib.hid hown5
          clear hown5 hgrow5 hblk
          go_wp2_with fail
          go_roundw
          case rel =>
            refine ⟨f + 1, by omega, by go_num, Lib.hid (fun h => by cases h), ?_, HB7.out⟩
            rw [HF.out, List.length_append, List.map_append]
            exact HO7.out
          case measure => simp [intOf]; omega
    · have e9 : f = 8 := by omega
      have HL := Lib.hid (show numsUpto (keptF ds1 ds2) f = keptL ds1 ds2 by
        unfold keptL
        rw [HKO.out]
        cases hz : (v1 && v2) with
        | true => rw [e9]; rfl
        | false => have := HZ.out hz; omega)
      have hfi : ¬ (f : Int) < 8 := by omega
      clear hown hb e9
      go_wp2_with fail
      go_ret
      exact ⟨_, rfl, by rw [← HL.out]; exact HOWN.out, HBR.out⟩
end Go.Proofs.Ytgmhpfdhkcgbfaa
