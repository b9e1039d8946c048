/-
  spec.FirstVar.
-/
import Derived.Test.YtiifgkommaeklaaFirstS
namespace Go.Proofs.Ytiifgkommaeklaa
open Go.RowKit
set_option maxRecDepth 100000

set_option maxHeartbeats 2000000 in
theorem specFirst_any (ds : List De) (DA : Option Addr) (DC : Nat) (op n : Int) (k : Fo) (A : Option Addr) (c : Nat) (v : Int) (w : World) (hd : LiesD w 0 w.heap.size DA ds) (hl : Lies w 0 w.heap.size A 0 k) (hdz : sizeD ds ≤ 1048576) (hlen : k.len ≤ maxLen) (hsz : k.size ≤ 1048576) :
    Calls Try.prog 8 #[.slice DA ds.length DC, .agg #[.int .i64 op, .int .i64 n, .slice A k.len c], .int .i64 v] w (Gives (.bool (firstB ds op n k v)) w) := by
  obtain ⟨hb1, hr1⟩ := one_box w 26 #[Value.int .i64 op, Value.int .i64 n, Value.slice A k.len c]
  have HA := Lib.hid (l5Right_any ds DA DC op n k A c _ (hd.up hb1) (hl.up hb1) hdz hlen hsz)
  obtain ⟨q0, q1, q2⟩ : _ ∧ _ ∧ _ := ⟨hr1.cell (i := 0) rfl, hr1.cell (i := 1) rfl, hr1.cell (i := 2) rfl⟩
  have HB1 := Lib.hid hb1
  have HR1 := Lib.hid hr1
  have HD := Lib.hid hd
  have HL := Lib.hid hl
  clear hb1 hr1 hd hl
  cases hv : (libOk ds && callsFitB ds op n k) with
  | false =>
    rw [hv] at HA
    have HZ := Lib.hid (show firstB ds op n k v = false by unfold firstB; rw [hv]; rfl)
    clear hv
    go_enter Try.func8, Try.ntmps8
    go_wp2_with fail
    refine HA.out.mono ?_
    rintro e w2 ⟨rfl, hb2⟩
    have HB2 := Lib.hid (HB1.out.trans (hb2.mono HB1.out.size))
    clear hb2 HA HB1 HR1 q0 q1 q2
    go_wp2
    go_ret
    exact ⟨by rw [HZ.out]; rfl, HB2.out⟩
  | true =>
    rw [hv] at HA
    have hlib := (Bool.and_eq_true_iff.1 hv)
    have HN := Lib.hid (fun d (hd : d ∈ ds) => (libOk_named hlib.1 d hd).1)
    have HW := Lib.hid (well_fit hlib.2)
    have HZ := Lib.hid (show firstB ds op n k v = (inVar v && decide (ansS ds v op n k = 1)) by unfold firstB; rw [hv]; rfl)
    clear hv hlib
    by_cases h0 : 0 ≤ v
    · by_cases h8 : v < 8
      · have HZ2 := Lib.hid (show firstB ds op n k v = decide (ansS ds v op n k = 1) by rw [HZ.out, inVar_mk h0 h8, Bool.true_and])
        generalize hf : ansS ds v op n k = z at *
        have HF := Lib.hid hf
        clear hf HZ
        go_enter Try.func8, Try.ntmps8
        go_wp2_with fail
        refine HA.out.mono ?_
        rintro e w2 ⟨rfl, hb2⟩
        have HB2 := Lib.hid (HB1.out.trans (hb2.mono HB1.out.size))
        have hr2 := HR1.out.below hb2 HR1.out.size
        have z0 := hr2.cell (i := 0) rfl
        have z1 := hr2.cell (i := 1) rfl
        have z2 := hr2.cell (i := 2) rfl
        clear hb2 HA HB1 HR1 hr2 q0 q1 q2
        have HC := Lib.hid (l5First_any ds DA DC v hdz HN.out (k.size + 1) op n k A c w2 (Nat.lt_succ_self _) HW.out (HD.out.up HB2.out) (HL.out.up HB2.out) hsz)
        rw [HF.out] at HC
        go_wp2_with fail
        with_reducible refine HC.out.mono ?_
        rintro e w3 ⟨rfl, hb3⟩
        have HB3 := Lib.hid (HB2.out.trans (hb3.mono HB2.out.size))
        clear hb3 HB2 HC z0 z1 z2
        by_cases hz : z = 1
        · subst hz
          go_wp2
          go_ret
          exact ⟨by rw [HZ2.out]; rfl, HB3.out⟩
        · have t1 : ((z : Int) == 1) = false := by simp; omega
          have HZ3 := Lib.hid (HZ2.out.trans (decide_eq_false hz))
          clear hz HZ2
          go_wp2
          go_ret
          exact ⟨by rw [HZ3.out]; exact ret_bool (by simp), HB3.out⟩
      · have HZ2 := Lib.hid (show firstB ds op n k v = false by rw [HZ.out, inVar_mk' (.inr (by omega))]; rfl)
        clear HZ
        go_enter Try.func8, Try.ntmps8
        go_wp2_with fail
        refine HA.out.mono ?_
        rintro e w2 ⟨rfl, hb2⟩
        have HB2 := Lib.hid (HB1.out.trans (hb2.mono HB1.out.size))
        clear hb2 HA HB1 HR1 q0 q1 q2
        go_wp2
        go_ret
        exact ⟨by rw [HZ2.out]; rfl, HB2.out⟩
    · have HZ2 := Lib.hid (show firstB ds op n k v = false by rw [HZ.out, inVar_mk' (.inl (by omega))]; rfl)
      clear HZ
      go_enter Try.func8, Try.ntmps8
      go_wp2_with fail
      refine HA.out.mono ?_
      rintro e w2 ⟨rfl, hb2⟩
      have HB2 := Lib.hid (HB1.out.trans (hb2.mono HB1.out.size))
      clear hb2 HA HB1 HR1 q0 q1 q2
      go_wp2
      go_ret
      exact ⟨by rw [HZ2.out]; rfl, HB2.out⟩
end Go.Proofs.Ytiifgkommaeklaa
