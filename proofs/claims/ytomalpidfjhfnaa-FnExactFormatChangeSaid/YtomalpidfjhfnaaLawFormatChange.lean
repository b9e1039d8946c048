/-
  The walk of the law FnExactFormatChange: true at every change.
-/
import Derived.Test.YtomalpidfjhfnaaFmtChI
namespace Go.Proofs.Ytomalpidfjhfnaa
open Go.RowKit
set_option maxRecDepth 100000

set_option maxHeartbeats 2000000 in
theorem law_FormatChange (k n : Int) (w : World) : Calls Try.prog 11 #[.agg #[.int .i64 k, .int .i64 n]] w (Gives (.bool true) w) := by
  obtain ⟨hb0, hr0⟩ := one_box w 70 #[.int .i64 k, .int .i64 n]
  have HC := Lib.hid (toChange_any k n)
  have HS := Lib.hid (specFmtCh_any k n)
  have HI := Lib.hid (implFmtCh_any k n)
  obtain ⟨s, hs⟩ : ∃ s, s = (fmtCh k n).toArray := ⟨_, rfl⟩
  have HT := Lib.hid (show txt (fmtCh k n) = .string ⟨s⟩ by rw [hs]; rfl)
  clear hs
  have q0 := hr0.cell (i := 0) rfl
  have q1 := hr0.cell (i := 1) rfl
  have HB := Lib.hid hb0
  have HR := Lib.hid hr0
  clear hb0 hr0
  go_enter Try.func11, Try.ntmps11
  go_wp2_with fail
  refine (HC.out _).mono ?_
  rintro e w1 ⟨rfl, hb1⟩
  have HB1 := Lib.hid (HB.out.trans (hb1.mono HB.out.size))
  have HR1 := Lib.hid (HR.out.below hb1 HR.out.size)
  clear hb1 q0 q1
  go_wp2_with fail
  refine (HS.out _).mono ?_
  rintro e w2 ⟨rfl, hb2⟩
  rw [HT.out]
  have HB2 := Lib.hid (HB1.out.trans (hb2.mono HB1.out.size))
  have HR2 := Lib.hid (HR1.out.below hb2 HR1.out.size)
  have q0 := HR2.out.cell (i := 0) rfl
  have q1 := HR2.out.cell (i := 1) rfl
  clear hb2
  go_wp2_with fail
  refine (HC.out _).mono ?_
  rintro e w3 ⟨rfl, hb3⟩
  have HB3 := Lib.hid (HB2.out.trans (hb3.mono HB2.out.size))
  clear hb3 q0 q1
  go_wp2_with fail
  refine (HI.out _).mono ?_
  rintro e w4 ⟨rfl, hb4⟩
  rw [HT.out]
  have HB4 := Lib.hid (HB3.out.trans (hb4.mono HB3.out.size))
  clear hb4
  go_wp2
  go_ret
  exact ⟨rfl, HB4.out⟩
end Go.Proofs.Ytomalpidfjhfnaa
