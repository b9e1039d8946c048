/-
  CallsFit: the model and the program.
-/
import Derived.Test.YtbpcggbmlaomjaaAny
import Derived.Deep.RegionWith
namespace Go.Proofs.Ytbpcggbmlaomjaa
open Go.RowKit
set_option maxRecDepth 100000

def callsFitB (ds : List De) (op n : Int) (k : Fo) : Bool := nodeIs op n k (firstS 8) && fitN (ariS ds) op n k

set_option maxHeartbeats 2000000 in
theorem implCallsFit_any (ds : List De) (DA : Option Addr) (DC : Nat) (op n : Int) (k : Fo) (A : Option Addr) (c L B : Nat) (w : World) (hd : LiesD w 0 w.heap.size DA ds) (hl : Lies w L B A 0 k) (hB : B ≤ w.heap.size) (hal : AllRows w L B)
    (hds : ds.length ≤ 1048576) (hk1 : k.len ≤ c) (hk2 : c ≤ maxLen) (hsz : k.size ≤ 1048576) :
    Calls Try.prog 46 #[.slice DA ds.length DC, .agg #[.int .i64 op, .int .i64 n, .slice A k.len c]] w (Gives (.bool (callsFitB ds op n k)) w) := by
  have hb0 : Below w.heap.size w (w.alloc (Obj.cells #[Value.int IntKind.i64 op, Value.int IntKind.i64 n, Value.slice A k.len c] 40)).drew := ((Below.refl _ _).alloc (Nat.le_refl _) _).drew
  have hr0 := (Row.fresh w 40 #[Value.int IntKind.i64 op, Value.int IntKind.i64 n, Value.slice A k.len c]).drew
  have hlen := Fo.len_le_size k
  have q0 := hr0.cell (i := 0) rfl
  have q1 := hr0.cell (i := 1) rfl
  have q2 := hr0.cell (i := 2) rfl
  have HA := Lib.hid (validOpen_any op n k A c _ ((hl.mono_ (Nat.zero_le _) hB).up hb0) (Nat.le_trans hk1 hk2))
  have HB0 := Lib.hid hb0
  have hz0 : w.heap.size < (w.alloc (Obj.cells #[Value.int IntKind.i64 op, Value.int IntKind.i64 n, Value.slice A k.len c] 40)).drew.heap.size := by simp
  have HZ0 := Lib.hid hz0
  have HL := Lib.hid hl
  have HD := Lib.hid hd
  have HAL := Lib.hid hal
  clear hb0 hr0 hz0 hl hd hal
  unfold callsFitB
  cases hv : nodeIs op n k (firstS 8) with
  | false =>
    rw [hv] at HA
    rw [Bool.false_and]
    clear hv
    go_enter Try.func46, Try.ntmps46
    go_wp2_with fail
    first
      | (go_region_with (first
        | (go_at_call 74
           refine HA.out.mono ?_
           rintro e w3 ⟨rfl, hb3⟩
           have y0 := (hb3.cell (p := ⟨w.heap.size, 0, none⟩) HZ0.out).trans q0
           have y1 := (hb3.cell (p := ⟨w.heap.size, 1, none⟩) HZ0.out).trans q1
           have y2 := (hb3.cell (p := ⟨w.heap.size, 2, none⟩) HZ0.out).trans q2)))
      | fail
    all_goals
      have hb4 := HB0.out.trans (hb3.mono HB0.out.size)
      clear hb3 q0 q1 q2 y0 y1 y2 HB0 HA
      go_wp2
      go_ret
      exact ⟨rfl, hb4⟩
  | true =>
    rw [hv] at HA
    rw [Bool.true_and]
    have hfit : fitN (ariI ds) op n k = fitN (ariS ds) op n k := fit_of_is hv
    clear hv
    rw [← hfit]
    clear hfit
    generalize hz : fitN (ariI ds) op n k = z
    have HZ := Lib.hid hz
    clear hz
    go_enter Try.func46, Try.ntmps46
    go_wp2_with fail
    go_region_with (first
        | (go_at_call 74
           refine HA.out.mono ?_
           rintro e w3 ⟨rfl, hb3⟩
           have y0 := (hb3.cell (p := ⟨w.heap.size, 0, none⟩) HZ0.out).trans q0
           have y1 := (hb3.cell (p := ⟨w.heap.size, 1, none⟩) HZ0.out).trans q1
           have y2 := (hb3.cell (p := ⟨w.heap.size, 2, none⟩) HZ0.out).trans q2)
        | (go_at_call 55
           refine (defsByName_any ds DA DC w3 0 w.heap.size (HD.out.below (HB0.out.trans (hb3.mono HB0.out.size))) (Nat.le_trans HB0.out.size hb3.size) hds).mono ?_
           rintro e w4 ⟨es, rfl, hm4, hent4, hb4, hlt4⟩
           have u0 := (hb4.cell (p := ⟨w.heap.size, 0, none⟩) (Nat.lt_of_lt_of_le HZ0.out hb3.size)).trans y0
           have u1 := (hb4.cell (p := ⟨w.heap.size, 1, none⟩) (Nat.lt_of_lt_of_le HZ0.out hb3.size)).trans y1
           have u2 := (hb4.cell (p := ⟨w.heap.size, 2, none⟩) (Nat.lt_of_lt_of_le HZ0.out hb3.size)).trans y2)
        | (go_at_call 67
           refine (allCallsFit_any (ariI ds) w3.heap.size es op n k A c L B w4 hm4 hent4.knows
             ((HL.out.below (HB0.out.mono hB)).below ((hb3.trans (hb4.mono hb3.size)).mono (Nat.le_trans hB HB0.out.size))) (Nat.le_trans hB (Nat.le_trans HB0.out.size (Nat.le_trans hb3.size hb4.size)))
             ((HAL.out.below HB0.out hB).below (hb3.trans (hb4.mono hb3.size)) (Nat.le_trans hB HB0.out.size)) hk1 hk2 hsz).mono ?_
           rintro e w5 ⟨rfl, hb5⟩
           have s0 := (hb5.cell (p := ⟨w.heap.size, 0, none⟩) (Nat.lt_of_lt_of_le (Nat.lt_of_lt_of_le HZ0.out hb3.size) hb4.size)).trans u0
           have s1 := (hb5.cell (p := ⟨w.heap.size, 1, none⟩) (Nat.lt_of_lt_of_le (Nat.lt_of_lt_of_le HZ0.out hb3.size) hb4.size)).trans u1
           have s2 := (hb5.cell (p := ⟨w.heap.size, 2, none⟩) (Nat.lt_of_lt_of_le (Nat.lt_of_lt_of_le HZ0.out hb3.size) hb4.size)).trans u2))
    all_goals
      rw [HZ.out]
      have hb45 := hb3.trans ((hb4.trans (hb5.mono hb4.size)).mono hb3.size)
      have hb6 := HB0.out.trans (hb45.mono HB0.out.size)
      clear hb3 hb4 hb5 hb45 hm4 hent4 hlt4 q0 q1 q2 y0 y1 y2 u0 u1 u2 s0 s1 s2 HB0 HA HL HD HAL HZ0
      go_wp2
      go_ret
      exact ⟨rfl, hb6⟩
end Go.Proofs.Ytbpcggbmlaomjaa
