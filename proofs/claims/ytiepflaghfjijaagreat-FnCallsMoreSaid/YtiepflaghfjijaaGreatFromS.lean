/-
  spec.CallsFrom.
-/
import Derived.Test.YtiepflaghfjijaaGreatEffS
import Derived.Test.YtiepflaghfjijaaGreatLibVD
import Derived.Test.YtiepflaghfjijaaGreatLibVS
import Derived.Test.YtiepflaghfjijaaGreatOldM
import Derived.Deep.RegionWith
namespace Go.Proofs.YtiepflaghfjijaaGreat
open Go.RowKit
set_option maxRecDepth 100000

set_option maxHeartbeats 2000000 in
theorem specFrom_any (ds : List De) (DA : Option Addr) (DC : Nat) (op n : Int) (k : Fo) (A : Option Addr) (c : Nat) (w : World) (hd : LiesD w 0 w.heap.size DA ds) (hl : Lies w 0 w.heap.size A 0 k) (hdz : sizeD ds ≤ 1048576) (hlen : k.len ≤ maxLen) (hsz : k.size ≤ 1048576) :
    Calls Tryz.prog 8 #[.slice DA ds.length DC, .agg #[.int .i64 op, .int .i64 n, .slice A k.len c]] w (ListPost (fromL ds op n k) w) := by
  have hds := Nat.le_trans (sizeD_len ds) hdz
  obtain ⟨hb1, hr1⟩ := one_box w 26 #[Value.int IntKind.i64 op, Value.int IntKind.i64 n, Value.slice A k.len c]
  have HA := Lib.hid (specLibValid_any ds DA DC _ (hd.up hb1) hdz)
  have HB1 := Lib.hid hb1
  have HR1 := Lib.hid hr1
  have HD := Lib.hid hd
  have HL := Lib.hid hl
  clear hb1 hr1 hd hl
  cases hv : libOk ds with
  | false =>
    rw [hv] at HA
    have HZ := Lib.hid (fromL_no (op := op) (n := n) (k := k) (ds := ds) (by rw [hv]; rfl))
    clear hv
    go_enter Tryz.func8, Tryz.ntmps8
    go_wp2_with fail
    refine HA.out.mono ?_
    rintro e w2 ⟨rfl, hb2⟩
    have HB2 := Lib.hid (HB1.out.trans (hb2.mono HB1.out.size))
    clear hb2 HA HB1 HR1
    go_wp2
    go_ret
    exact ⟨_, rfl, by rw [HZ.out]; exact own_empty0 _ _ HB2.out.size, HB2.out.alloc HB2.out.size _⟩
  | true =>
    rw [hv] at HA
    generalize hf : callsFitB ds op n k = z
    cases z with
    | false =>
      have HZ := Lib.hid (fromL_no (op := op) (n := n) (k := k) (ds := ds) (by rw [hv, hf]; rfl))
      have HF := Lib.hid hf
      clear hv hf
      go_enter Tryz.func8, Tryz.ntmps8
      go_wp2_with fail
      refine HA.out.mono ?_
      rintro e w2 ⟨rfl, hb2⟩
      have HB2 := Lib.hid (HB1.out.trans (hb2.mono HB1.out.size))
      have HR2 := HR1.out.below hb2 HR1.out.size
      have q0 := HR2.cell (i := 0) rfl
      have q1 := HR2.cell (i := 1) rfl
      have q2 := HR2.cell (i := 2) rfl
      clear hb2 HA HB1 HR1 HR2
      go_wp2_with fail
      refine (specCallsFit_any ds DA DC op n k A c w2 (HD.out.up HB2.out) (HL.out.up HB2.out) hds hlen hsz).mono ?_
      rintro e w3 ⟨rfl, hb3⟩
      rw [HF.out]
      have HB3 := Lib.hid (HB2.out.trans (hb3.mono HB2.out.size))
      clear hb3 HB2 q0 q1 q2
      go_wp2
      go_ret
      exact ⟨_, rfl, by rw [HZ.out]; exact own_empty0 _ _ HB3.out.size, HB3.out.alloc HB3.out.size _⟩
    | true =>
      have HZ := Lib.hid (fromL_yes hv hf)
      have HF := Lib.hid hf
      clear hv hf
      go_enter Tryz.func8, Tryz.ntmps8
      go_wp2_with fail
      refine HA.out.mono ?_
      rintro e w2 ⟨rfl, hb2⟩
      have HB2 := Lib.hid (HB1.out.trans (hb2.mono HB1.out.size))
      have HR2 := HR1.out.below hb2 HR1.out.size
      have q0 := HR2.cell (i := 0) rfl
      have q1 := HR2.cell (i := 1) rfl
      have q2 := HR2.cell (i := 2) rfl
      have HR2' := Lib.hid HR2
      clear hb2 HA HB1 HR1 HR2
      go_wp2_with fail
      refine (specCallsFit_any ds DA DC op n k A c w2 (HD.out.up HB2.out) (HL.out.up HB2.out) hds hlen hsz).mono ?_
      rintro e w3 ⟨rfl, hb3⟩
      rw [HF.out]
      have HB3 := Lib.hid (HB2.out.trans (hb3.mono HB2.out.size))
      have HR3 := HR2'.out.below hb3 HR2'.out.size
      clear hb3 HB2 q0 q1 q2 HR2'
      have q0 := HR3.cell (i := 0) rfl
      have q1 := HR3.cell (i := 1) rfl
      have q2 := HR3.cell (i := 2) rfl
      clear HR3
      go_wp2_with fail
      refine (l2From_any ds DA DC op n k A c w3 (HD.out.up HB3.out) (HL.out.up HB3.out) hdz hsz).mono ?_
      rintro e w4 ⟨g, rfl, hrow, hg, hb4⟩
      have HB4 := Lib.hid (HB3.out.trans (hb4.mono HB3.out.size))
      clear hb4 HB3 q0 q1 q2 HF
      go_wp2_with fail
      refine (l1Numbers_any g w4 _ hrow).mono ?_
      rintro e w5 ⟨v, rfl, hown, hb5⟩
      have HB5 := Lib.hid (HB4.out.trans (hb5.mono HB4.out.size))
      have HO5 := Lib.hid (own_less hown HB4.out.size)
      clear hb5 hown hrow HB4
      go_wp2
      go_ret
      exact ⟨_, rfl, by rw [HZ.out]; exact HO5.out, HB5.out⟩
end Go.Proofs.YtiepflaghfjijaaGreat
