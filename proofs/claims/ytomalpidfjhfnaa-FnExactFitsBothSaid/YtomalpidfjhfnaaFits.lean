/-
  FitsBoth: the model and the program.
-/
import Derived.Test.YtomalpidfjhfnaaClient
namespace Go.Proofs.Ytomalpidfjhfnaa
open Go.RowKit
set_option maxRecDepth 100000

set_option maxHeartbeats 1000000 in
theorem specFits_any (ds1 : List De) (A1 : Option Addr) (c1 : Nat) (ds2 : List De) (A2 : Option Addr) (c2 : Nat) (op n : Int) (k : Fo) (A : Option Addr) (c : Nat) (w : World) (hd1 : LiesD w 0 w.heap.size A1 ds1) (hd2 : LiesD w 0 w.heap.size A2 ds2) (hl : Lies w 0 w.heap.size A 0 k) (hz1 : sizeD ds1 ≤ 1048576) (hz2 : sizeD ds2 ≤ 1048576) (hlen : k.len ≤ maxLen) (hsz : k.size ≤ 1048576) :
    Calls Try.prog 24 #[.slice A1 ds1.length c1, .slice A2 ds2.length c2, .agg #[.int .i64 op, .int .i64 n, .slice A k.len c]] w (Gives (.bool (clientB ds1 op n k && clientB ds2 op n k)) w) := by
  obtain ⟨hb0, hr0⟩ := one_box w 41 #[.int .i64 op, .int .i64 n, .slice A k.len c]
  have q0 := hr0.cell (i := 0) rfl
  have q1 := hr0.cell (i := 1) rfl
  have q2 := hr0.cell (i := 2) rfl
  have HB := Lib.hid hb0
  have HR := Lib.hid hr0
  have HC1 := Lib.hid (specClient_any ds1 A1 c1 op n k A c _ (hd1.up hb0) (hl.up hb0) hz1 hlen hsz)
  have HC2 := Lib.hid (fun (W : World) (hb : Below w.heap.size w W) => specClient_any ds2 A2 c2 op n k A c W (hd2.up hb) (hl.up hb) hz2 hlen hsz)
  clear hb0 hr0
  cases hv : clientB ds1 op n k with
  | false =>
    rw [hv] at HC1
    rw [Bool.false_and]
    clear hv
    go_enter Try.func24, Try.ntmps24
    go_wp2_with fail
    refine HC1.out.mono ?_
    rintro e w1 ⟨rfl, hb1⟩
    have HB1 := Lib.hid (HB.out.trans (hb1.mono HB.out.size))
    clear hb1 q0 q1 q2
    go_wp2
    go_ret
    exact ⟨rfl, HB1.out⟩
  | true =>
    rw [hv] at HC1
    rw [Bool.true_and]
    generalize hz : clientB ds2 op n k = z
    have HZ := Lib.hid hz
    clear hz hv
    go_enter Try.func24, Try.ntmps24
    go_wp2_with fail
    refine HC1.out.mono ?_
    rintro e w1 ⟨rfl, hb1⟩
    have hr1 := HR.out.below hb1 HR.out.size
    have s0 := hr1.cell (i := 0) rfl
    have s1 := hr1.cell (i := 1) rfl
    have s2 := hr1.cell (i := 2) rfl
    have HB1 := Lib.hid (HB.out.trans (hb1.mono HB.out.size))
    clear hb1 q0 q1 q2 hr1
    go_wp2_with fail
    refine (HC2.out w1 HB1.out).mono ?_
    rintro e w2 ⟨rfl, hb2⟩
    rw [HZ.out]
    have HB2 := Lib.hid (HB1.out.trans (hb2.mono HB1.out.size))
    clear hb2 s0 s1 s2
    go_wp2
    go_ret
    exact ⟨rfl, HB2.out⟩

set_option maxHeartbeats 1000000 in
theorem implFits_any (ds1 : List De) (A1 : Option Addr) (c1 : Nat) (ds2 : List De) (A2 : Option Addr) (c2 : Nat) (op n : Int) (k : Fo) (A : Option Addr) (c : Nat) (L1 B1 L2 B2 L B : Nat) (w : World) (hd1 : LiesD w L1 B1 A1 ds1) (hB1 : B1 ≤ w.heap.size) (ha1 : AllRows w L1 B1) (hd2 : LiesD w L2 B2 A2 ds2) (hB2 : B2 ≤ w.heap.size) (ha2 : AllRows w L2 B2) (hl : Lies w L B A 0 k) (hB : B ≤ w.heap.size) (ha : AllRows w L B) (hz1 : sizeD ds1 ≤ 1048576) (hz2 : sizeD ds2 ≤ 1048576) (hk1 : k.len ≤ c) (hk2 : c ≤ maxLen) (hsz : k.size ≤ 1048576) :
    Calls Try.prog 26 #[.slice A1 ds1.length c1, .slice A2 ds2.length c2, .agg #[.int .i64 op, .int .i64 n, .slice A k.len c]] w (Gives (.bool (clientB ds1 op n k && clientB ds2 op n k)) w) := by
  obtain ⟨hb0, hr0⟩ := one_box w 41 #[.int .i64 op, .int .i64 n, .slice A k.len c]
  have q0 := hr0.cell (i := 0) rfl
  have q1 := hr0.cell (i := 1) rfl
  have q2 := hr0.cell (i := 2) rfl
  have HB := Lib.hid hb0
  have HR := Lib.hid hr0
  have HC1 := Lib.hid (implClient_any ds1 A1 c1 op n k A c L1 B1 L B _ (hd1.below (hb0.mono hB1)) (Nat.le_trans hB1 hb0.size) (ha1.below hb0 hB1) (hl.below (hb0.mono hB)) (Nat.le_trans hB hb0.size) (ha.below hb0 hB) hz1 hk1 hk2 hsz)
  have HC2 := Lib.hid (fun (W : World) (hb : Below w.heap.size w W) => implClient_any ds2 A2 c2 op n k A c L2 B2 L B W (hd2.below (hb.mono hB2)) (Nat.le_trans hB2 hb.size) (ha2.below hb hB2) (hl.below (hb.mono hB)) (Nat.le_trans hB hb.size) (ha.below hb hB) hz2 hk1 hk2 hsz)
  clear hb0 hr0
  cases hv : clientB ds1 op n k with
  | false =>
    rw [hv] at HC1
    rw [Bool.false_and]
    clear hv
    go_enter Try.func26, Try.ntmps26
    go_wp2_with fail
    refine HC1.out.mono ?_
    rintro e w1 ⟨rfl, hb1⟩
    have HB1 := Lib.hid (HB.out.trans (hb1.mono HB.out.size))
    clear hb1 q0 q1 q2
    go_wp2
    go_ret
    exact ⟨rfl, HB1.out⟩
  | true =>
    rw [hv] at HC1
    rw [Bool.true_and]
    generalize hz : clientB ds2 op n k = z
    have HZ := Lib.hid hz
    clear hz hv
    go_enter Try.func26, Try.ntmps26
    go_wp2_with fail
    refine HC1.out.mono ?_
    rintro e w1 ⟨rfl, hb1⟩
    have hr1 := HR.out.below hb1 HR.out.size
    have s0 := hr1.cell (i := 0) rfl
    have s1 := hr1.cell (i := 1) rfl
    have s2 := hr1.cell (i := 2) rfl
    have HB1 := Lib.hid (HB.out.trans (hb1.mono HB.out.size))
    clear hb1 q0 q1 q2 hr1
    go_wp2_with fail
    refine (HC2.out w1 HB1.out).mono ?_
    rintro e w2 ⟨rfl, hb2⟩
    rw [HZ.out]
    have HB2 := Lib.hid (HB1.out.trans (hb2.mono HB1.out.size))
    clear hb2 s0 s1 s2
    go_wp2
    go_ret
    exact ⟨rfl, HB2.out⟩
end Go.Proofs.Ytomalpidfjhfnaa
