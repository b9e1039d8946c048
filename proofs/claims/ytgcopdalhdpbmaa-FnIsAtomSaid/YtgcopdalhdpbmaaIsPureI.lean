/-
  impl.IsPure.
-/
import Derived.Test.YtgcopdalhdpbmaaEffD
import Derived.Test.YtgcopdalhdpbmaaSets
import Derived.Test.YtgcopdalhdpbmaaLibVI
import Derived.Deep.RegionHeld3
namespace Go.Proofs.Ytgcopdalhdpbmaa
open Go.RowKit Go.Shelf
set_option maxRecDepth 100000

set_option maxHeartbeats 2000000 in
theorem implIsPure_any (ds : List De) (DA : Option Addr) (DC : Nat) (op n : Int) (k : Fo) (A : Option Addr) (c : Nat) (LD BD L B : Nat) (w : World) (hd : LiesD w LD BD DA ds) (hBD : BD ≤ w.heap.size) (hald : AllRows w LD BD) (hl : Lies w L B A 0 k) (hB : B ≤ w.heap.size) (hal : AllRows w L B) (hdz : sizeD ds ≤ 1048576) (hk1 : k.len ≤ c) (hk2 : c ≤ maxLen) (hsz : k.size ≤ 1048576) :
    Calls Try.prog 8 #[.slice DA ds.length DC, .agg #[.int .i64 op, .int .i64 n, .slice A k.len c]] w (Gives (.bool (isPureB ds op n k)) w) := by
  have hds := Nat.le_trans (sizeD_len ds) hdz
  obtain ⟨hb0, hr0⟩ := one_box w 25 #[Value.int IntKind.i64 op, Value.int IntKind.i64 n, Value.slice A k.len c]
  have hb1 := hb0.drew
  have hr1 := hr0.drew
  have HA := Lib.hid (implLibValid_any ds DA DC LD BD _ (hd.below (hb1.mono hBD)) (Nat.le_trans hBD hb1.size) (hald.below hb1 hBD) hdz)
  have HB1 := Lib.hid hb1
  have HR1 := Lib.hid hr1
  have HD := Lib.hid hd
  have HL := Lib.hid hl
  have HAL := Lib.hid hal
  have HALD := Lib.hid hald
  obtain ⟨q0, q1, q2⟩ := hr1.three
  clear hb0 hr0 hb1 hr1 hd hl hald hal
  cases hv : libOk ds with
  | false =>
    rw [hv] at HA
    have HZ := Lib.hid (show isPureB ds op n k = false by unfold isPureB; rw [hv]; rfl)
    clear hv
    go_enter Try.func8, Try.ntmps8
    go_wp2_with fail
    first
      | (go_region_with (first
          | (go_at_call 15
             with_reducible refine HA.out.mono ?_
             rintro e w2 ⟨rfl, hb2⟩)))
      | fail
    all_goals
      have HB2 := Lib.hid (HB1.out.trans (hb2.mono HB1.out.size))
      clear hb2 HA HB1 HR1 q0 q1 q2
      go_wp2
      go_ret
      exact ⟨by rw [HZ.out]; rfl, HB2.out⟩
  | true =>
    rw [hv] at HA
    have HC := Lib.hid (fun W (hb : Below w.heap.size w W) => implCallsFit_any ds DA DC op n k A c L B W ((HD.out.mono_ (Nat.zero_le _) hBD).up hb) (HL.out.below (hb.mono hB)) (Nat.le_trans hB hb.size) (HAL.out.below hb hB) hds hk1 hk2 hsz)
    cases hf : callsFitB ds op n k with
    | false =>
      rw [hf] at HC
      have HZ := Lib.hid (show isPureB ds op n k = false by unfold isPureB; rw [hv, hf]; rfl)
      clear hv hf
      go_enter Try.func8, Try.ntmps8
      go_wp2_with fail
      first
        | (go_region_with (first
            | (go_at_call 15
               with_reducible refine HA.out.mono ?_
               rintro e w2 ⟨rfl, hb2⟩
               have HB2 := Lib.hid (HB1.out.trans (hb2.mono HB1.out.size))
               have hr2 := HR1.out.below hb2 HR1.out.size
               obtain ⟨y0, y1, y2⟩ := hr2.three
               clear hb2)
            | (go_at_call 16
               with_reducible refine (HC.out _ HB2.out).mono ?_
               rintro e w3 ⟨rfl, hb3⟩)))
        | fail
      all_goals
        have HB3 := Lib.hid (HB2.out.trans (hb3.mono HB2.out.size))
        clear hb3 HA HB1 HR1 HB2 hr2 HC q0 q1 q2 y0 y1 y2
        go_wp2
        go_ret
        exact ⟨by rw [HZ.out]; rfl, HB3.out⟩
    | true =>
      rw [hf] at HC
      have HZ := Lib.hid (show isPureB ds op n k = pureW (pureT ds) op n k by unfold isPureB; rw [hv, hf, pure_is hv hf]; rfl)
      have HPF := Lib.hid (fun W (hb : Below w.heap.size w W) => pureFuns_any ds DA DC LD BD W (HD.out.below (hb.mono hBD)) (Nat.le_trans hBD hb.size) (HALD.out.below hb hBD) hdz hv)
      have HPW := Lib.hid (fun W (hb : Below w.heap.size w W) => isPureWith_any (pureT ds) op n k A c L B W (HL.out.below (hb.mono hB)) (Nat.le_trans hB hb.size) (HAL.out.below hb hB) hk1 hk2 hsz)
      clear hv hf
      have HSS := Lib.hid (fun w' (h : Below w.heap.size w w') (hr : Row w' w.heap.size 25 #[Value.int IntKind.i64 op, Value.int IntKind.i64 n, Value.slice A k.len c]) => hr.three)
      have s1 := HSS.out _ HB1.out HR1.out
      clear q0 q1 q2
      go_enter Try.func8, Try.ntmps8
      go_wp2_with fail
      go_region_held3 (fun w' => w'.cell? ⟨w.heap.size, 0, none⟩ = some (.int .i64 op) ∧ w'.cell? ⟨w.heap.size, 1, none⟩ = some (.int .i64 n) ∧ w'.cell? ⟨w.heap.size, 2, none⟩ = some (.slice A k.len c))
        (first | with_reducible exact s1 | with_reducible exact s2 | with_reducible exact s3 | with_reducible exact s4 | with_reducible exact s5 | fail)
        (first
          | (go_at_call 15
             with_reducible refine HA.out.mono ?_
             rintro e w2 ⟨rfl, hb2⟩
             have HB2 := Lib.hid (HB1.out.trans (hb2.mono HB1.out.size))
             have HR2 := Lib.hid (HR1.out.below hb2 HR1.out.size)
             have s2 := HSS.out _ HB2.out HR2.out
             clear hb2)
          | (go_at_call 16
             with_reducible refine (HC.out _ HB2.out).mono ?_
             rintro e w3 ⟨rfl, hb3⟩
             have HB3 := Lib.hid (HB2.out.trans (hb3.mono HB2.out.size))
             have HR3 := Lib.hid (HR2.out.below hb3 HR2.out.size)
             have s3 := HSS.out _ HB3.out HR3.out
             clear hb3)
          | (go_at_call 18
             with_reducible refine (HPF.out _ HB3.out).mono ?_
             rintro e w4 ⟨rfl, hb4⟩
             have HB4 := Lib.hid (HB3.out.trans (hb4.mono HB3.out.size))
             have HR4 := Lib.hid (HR3.out.below hb4 HR3.out.size)
             have s4 := HSS.out _ HB4.out HR4.out
             clear hb4)
          | (go_at_call 17
             with_reducible refine (HPW.out _ HB4.out).mono ?_
             rintro e w5 ⟨rfl, hb5⟩
             have HB5 := Lib.hid (HB4.out.trans (hb5.mono HB4.out.size))
             have HR5 := Lib.hid (HR4.out.below hb5 HR4.out.size)
             have s5 := HSS.out _ HB5.out HR5.out
             clear hb5))
      all_goals
        clear HA HB1 HR1 HB2 HR2 HC HB3 HR3 HB4 HR4 HR5 HPF HPW s1 s2 s3 s4 s5 HSS
        go_wp2
        go_ret
        exact ⟨by rw [HZ.out]; rfl, HB5.out⟩
end Go.Proofs.Ytgcopdalhdpbmaa
