/-
  impl.FirstVar.
-/
import Derived.Test.YtiifgkommaeklaaEffD
import Derived.Test.YtiifgkommaeklaaSets
import Derived.Test.YtiifgkommaeklaaLibVI
import Derived.Test.YtiifgkommaeklaaVisit
import Derived.Test.YtiifgkommaeklaaFirstC
import Derived.Deep.RegionHeld3
namespace Go.Proofs.Ytiifgkommaeklaa
open Go.RowKit Go.Shelf
set_option maxRecDepth 100000

set_option maxHeartbeats 2000000 in
theorem implFirst_r (ds : List De) (DA : Option Addr) (DC : Nat) (op n : Int) (k : Fo) (A : Option Addr) (c : Nat) (v : Int) (LD BD L B : Nat) (w : World) (hd : LiesD w LD BD DA ds) (hBD : BD ≤ w.heap.size) (hl : Lies w L B A 0 k) (hB : B ≤ w.heap.size) (hdz : sizeD ds ≤ 1048576) (hk1 : k.len ≤ c) (hk2 : c ≤ maxLen) (hsz : k.size ≤ 1048576) :
    Calls Try.prog 7 #[.slice DA ds.length DC, .agg #[.int .i64 op, .int .i64 n, .slice A k.len c], .int .i64 v] w (Gives (.bool (firstB ds op n k v)) w) := by
  have hds := Nat.le_trans (sizeD_len ds) hdz
  obtain ⟨hb1, hr1⟩ := one_box w 26 #[Value.int IntKind.i64 op, Value.int IntKind.i64 n, Value.slice A k.len c]
  have HB1 := Lib.hid hb1
  have HR1 := Lib.hid hr1
  have HD := Lib.hid hd
  have HL := Lib.hid hl
  have HI := Lib.hid (isVar_any v (w.alloc (Obj.cells #[Value.int IntKind.i64 op, Value.int IntKind.i64 n, Value.slice A k.len c] 26)))
  clear hb1 hr1 hd hl
  cases hi : inVar v with
  | false =>
    rw [hi] at HI
    have HZ := Lib.hid (show firstB ds op n k v = false by unfold firstB; rw [hi, Bool.and_false, Bool.false_and])
    clear hi
    go_enter Try.func7, Try.ntmps7
    go_wp2_with fail
    refine HI.out.mono ?_
    rintro e w2 ⟨rfl, hb2⟩
    have HB2 := Lib.hid (HB1.out.trans (hb2.mono HB1.out.size))
    clear hb2 HI HB1 HR1
    go_wp2
    go_ret
    exact ⟨by rw [HZ.out]; rfl, HB2.out⟩
  | true =>
    rw [hi] at HI
    have HA := Lib.hid (fun W (hb : Below w.heap.size w W) => implLibValid_r ds DA DC LD BD W (HD.out.below (hb.mono hBD)) (Nat.le_trans hBD hb.size) hdz)
    cases hv : libOk ds with
    | false =>
      rw [hv] at HA
      have HZ := Lib.hid (show firstB ds op n k v = false by unfold firstB; rw [hv]; rfl)
      clear hi hv
      go_enter Try.func7, Try.ntmps7
      go_wp2_with fail
      refine HI.out.mono ?_
      rintro e w2 ⟨rfl, hb2⟩
      have HB2 := Lib.hid (HB1.out.trans (hb2.mono HB1.out.size))
      clear hb2 HI HB1 HR1
      go_wp2_with fail
      refine (HA.out w2 HB2.out).mono ?_
      rintro e w3 ⟨rfl, hb3⟩
      have HB3 := Lib.hid (HB2.out.trans (hb3.mono HB2.out.size))
      clear hb3 HA HB2
      go_wp2
      go_ret
      exact ⟨by rw [HZ.out]; rfl, HB3.out⟩
    | true =>
      rw [hv] at HA
      have HC := Lib.hid (fun W (hb : Below w.heap.size w W) => implCallsFit_r ds DA DC op n k A c L B W ((HD.out.mono_ (Nat.zero_le _) hBD).up hb) (HL.out.below (hb.mono hB)) (Nat.le_trans hB hb.size) hds hk1 hk2 hsz)
      cases hf : callsFitB ds op n k with
      | false =>
        rw [hf] at HC
        have HZ := Lib.hid (show firstB ds op n k v = false by unfold firstB; rw [hv, hf]; rfl)
        clear hi hv hf
        go_enter Try.func7, Try.ntmps7
        go_wp2_with fail
        refine HI.out.mono ?_
        rintro e w2 ⟨rfl, hb2⟩
        have HB2 := Lib.hid (HB1.out.trans (hb2.mono HB1.out.size))
        have HR2 := Lib.hid (HR1.out.below hb2 HR1.out.size)
        clear hb2 HI HB1 HR1
        go_wp2_with fail
        refine (HA.out w2 HB2.out).mono ?_
        rintro e w3 ⟨rfl, hb3⟩
        have HB3 := Lib.hid (HB2.out.trans (hb3.mono HB2.out.size))
        have hr3 := HR2.out.below hb3 HR2.out.size
        obtain ⟨z0, z1, z2⟩ := hr3.three
        clear hb3 HA HB2 HR2 hr3
        go_wp2_with fail
        refine (HC.out w3 HB3.out).mono ?_
        rintro e w4 ⟨rfl, hb4⟩
        have HB4 := Lib.hid (HB3.out.trans (hb4.mono HB3.out.size))
        clear hb4 HC HB3 z0 z1 z2
        go_wp2
        go_ret
        exact ⟨by rw [HZ.out]; rfl, HB4.out⟩
      | true =>
        rw [hf] at HC
        have HZ := Lib.hid (show firstB ds op n k v = decide (ansI (pureT ds) v op n k = 1) by unfold firstB; rw [hv, hf, hi, ans_is hv hf]; rfl)
        have HW := Lib.hid (well_fit hf)
        have HSM := Lib.hid (show k.dep + 1 ≤ 14 ∧ k.size + 1 ≤ 80 by have := callsFit_small hf; unfold smallOk at this; rw [Bool.and_eq_true, decide_eq_true_iff, decide_eq_true_iff] at this; exact this)
        have HPF := Lib.hid (fun W (hb : Below w.heap.size w W) => show Calls Try.prog 27 _ W (Gives (.agg #[.bool (pureT ds 0), .bool (pureT ds 1), .bool (pureT ds 2), .bool (pureT ds 3), .bool (pureT ds 4), .bool (pureT ds 5), .bool (pureT ds 6), .bool (pureT ds 7)]) W) from
          pureFuns_r ds DA DC LD BD W (HD.out.below (hb.mono hBD)) (Nat.le_trans hBD hb.size) hdz hv)
        have HVI := Lib.hid (fun W (hb : Below w.heap.size w W) => show Calls Try.prog 26 #[.agg #[.bool (pureT ds 0), .bool (pureT ds 1), .bool (pureT ds 2), .bool (pureT ds 3), .bool (pureT ds 4), .bool (pureT ds 5), .bool (pureT ds 6), .bool (pureT ds 7)], .agg #[.int .i64 op, .int .i64 n, .slice A k.len c], .int .i64 v] W (Gives (.bool (decide (ansI (pureT ds) v op n k = 1))) W) from
          comesFirst_any (pureT ds) v op n k A c L B W (HL.out.below (hb.mono hB)) (Nat.le_trans hB hb.size) (.inl HSM.out) hk1 hk2 hsz HW.out)
        generalize ha : ansI (pureT ds) v op n k = a at HVI HZ
        generalize pureT ds = T at HPF HVI
        clear ha hi hv hf
        go_enter Try.func7, Try.ntmps7
        go_wp2_with fail
        refine HI.out.mono ?_
        rintro e w2 ⟨rfl, hb2⟩
        have HB2 := Lib.hid (HB1.out.trans (hb2.mono HB1.out.size))
        have HR2 := Lib.hid (HR1.out.below hb2 HR1.out.size)
        clear hb2 HI HB1 HR1
        go_wp2_with fail
        refine (HA.out w2 HB2.out).mono ?_
        rintro e w3 ⟨rfl, hb3⟩
        have HB3 := Lib.hid (HB2.out.trans (hb3.mono HB2.out.size))
        have HR3 := Lib.hid (HR2.out.below hb3 HR2.out.size)
        obtain ⟨z0, z1, z2⟩ := HR3.out.three
        clear hb3 HA HB2 HR2
        go_wp2_with fail
        refine (HC.out w3 HB3.out).mono ?_
        rintro e w4 ⟨rfl, hb4⟩
        have HB4 := Lib.hid (HB3.out.trans (hb4.mono HB3.out.size)).drew
        have HR4 := Lib.hid (HR3.out.below hb4 HR3.out.size).drew
        clear hb4 HC HB3 HR3 z0 z1 z2
        have HSS := Lib.hid (fun w' (hr : Row w' w.heap.size 26 #[Value.int IntKind.i64 op, Value.int IntKind.i64 n, Value.slice A k.len c]) => hr.three)
        have s4 := HSS.out _ HR4.out
        go_wp2_with fail
        go_region_held3 (fun w' => w'.cell? ⟨w.heap.size, 0, none⟩ = some (.int .i64 op) ∧ w'.cell? ⟨w.heap.size, 1, none⟩ = some (.int .i64 n) ∧ w'.cell? ⟨w.heap.size, 2, none⟩ = some (.slice A k.len c))
          (first | with_reducible exact s4 | with_reducible exact s5 | with_reducible exact s6 | fail)
          (first
            | (go_at_call 27
               with_reducible refine (HPF.out _ HB4.out).mono ?_
               rintro e w5 ⟨rfl, hb5⟩
               have HB5 := Lib.hid (HB4.out.trans (hb5.mono HB4.out.size))
               have HR5 := Lib.hid (HR4.out.below hb5 HR4.out.size)
               have s5 := HSS.out _ HR5.out
               clear hb5)
            | (go_at_call 26
               with_reducible refine (HVI.out _ HB5.out).mono ?_
               rintro e w6 ⟨rfl, hb6⟩
               have HB6 := Lib.hid (HB5.out.trans (hb6.mono HB5.out.size))
               have HR6 := Lib.hid (HR5.out.below hb6 HR5.out.size)
               have s6 := HSS.out _ HR6.out
               clear hb6))
        all_goals
          clear s4 s5 s6 HSS HPF HVI HB4 HB5 HR4 HR5 HR6
          go_wp2
          go_ret
          exact ⟨by rw [HZ.out]; rfl, HB6.out⟩
theorem implFirst_any (ds : List De) (DA : Option Addr) (DC : Nat) (op n : Int) (k : Fo) (A : Option Addr) (c : Nat) (v : Int) (LD BD L B : Nat) (w : World) (hd : LiesD w LD BD DA ds) (hBD : BD ≤ w.heap.size) (_hald : AllRows w LD BD) (hl : Lies w L B A 0 k) (hB : B ≤ w.heap.size) (_hal : AllRows w L B) (hdz : sizeD ds ≤ 1048576) (hk1 : k.len ≤ c) (hk2 : c ≤ maxLen) (hsz : k.size ≤ 1048576) :
    Calls Try.prog 7 #[.slice DA ds.length DC, .agg #[.int .i64 op, .int .i64 n, .slice A k.len c], .int .i64 v] w (Gives (.bool (firstB ds op n k v)) w) :=
  implFirst_r ds DA DC op n k A c v LD BD L B w hd hBD hl hB hdz hk1 hk2 hsz
end Go.Proofs.Ytiifgkommaeklaa
