/-
  GoneCalls: the model and the program.
-/
import Derived.Test.YtgmhpfdhkcgbfaaGreatClient
import Derived.Test.YtgmhpfdhkcgbfaaGreatLibVI
import Derived.Test.YtgmhpfdhkcgbfaaGreatLibVS
import Derived.Test.YtgmhpfdhkcgbfaaGreatCallsM
import Derived.Test.YtgmhpfdhkcgbfaaGreatOwnM
import Derived.Test.YtgmhpfdhkcgbfaaGreatOldM
import Derived.Lib.SliceRun
import Derived.Deep.Cut
namespace Go.Proofs.YtgmhpfdhkcgbfaaGreat
open Go.RowKit Go.Shelf
set_option maxRecDepth 100000

/-- Is there no function with this name? -/
def goneP (ds : List De) (x : Int) : Bool := !(fnd x ds).isSome
def goneOk (ds1 ds2 : List De) (op n : Int) (k : Fo) : Bool := libOk ds2 && clientB ds1 op n k
def goneL (ds1 ds2 : List De) (op n : Int) (k : Fo) : List Int := if goneOk ds1 ds2 op n k then (numsUpto (callB ⟨op, n, k⟩) 8).filter (goneP ds2) else []
theorem goneL_small {ds1 ds2 : List De} {op n : Int} {k : Fo} : ∀ x ∈ goneL ds1 ds2 op n k, I64 x := by
  intro x hx
  unfold goneL at hx
  split at hx
  · exact numsUpto_small _ 8 x (Nat.le_refl _) (List.mem_filter.1 hx).1
  · simp at hx
theorem goneL_len (ds1 ds2 : List De) (op n : Int) (k : Fo) : (goneL ds1 ds2 op n k).length ≤ 8 := by
  unfold goneL
  split
  · exact Nat.le_trans (List.length_filter_le _ _) (numsUpto_len _ 8)
  · exact Nat.zero_le _

set_option maxHeartbeats 2000000 in
theorem l10Right_any (ds1 : List De) (A1 : Option Addr) (c1 : Nat) (ds2 : List De) (A2 : Option Addr) (c2 : Nat) (op n : Int) (k : Fo) (A : Option Addr) (c : Nat) (w : World) (hd1 : LiesD w 0 w.heap.size A1 ds1) (hd2 : LiesD w 0 w.heap.size A2 ds2) (hl : Lies w 0 w.heap.size A 0 k) (hz1 : sizeD ds1 ≤ 1048576) (hz2 : sizeD ds2 ≤ 1048576) (hlen : k.len ≤ maxLen) (hsz : k.size ≤ 1048576) :
    Calls Tryz.prog 19 #[.slice A1 ds1.length c1, .slice A2 ds2.length c2, .agg #[.int .i64 op, .int .i64 n, .slice A k.len c]] w (Gives (.bool (goneOk ds1 ds2 op n k)) w) := by
  obtain ⟨hb0, hr0⟩ := one_box w 34 #[Value.int IntKind.i64 op, Value.int IntKind.i64 n, Value.slice A k.len c]
  have HB := Lib.hid hb0
  have HR := Lib.hid hr0
  have HD1 := Lib.hid (hd1.up hb0)
  have HD2 := Lib.hid (hd2.up hb0)
  have HL := Lib.hid (hl.up hb0)
  have hds := Nat.le_trans (sizeD_len ds1) hz1
  obtain ⟨v1, hv1⟩ : ∃ v, v = libOk ds1 := ⟨_, rfl⟩
  obtain ⟨v2, hv2⟩ : ∃ v, v = libOk ds2 := ⟨_, rfl⟩
  obtain ⟨v3, hv3⟩ : ∃ v, v = (nodeIs op n k (firstS 0) && fitN (ariS ds1) op n k) := ⟨_, rfl⟩
  rw [show goneOk ds1 ds2 op n k = (v1 && (v2 && v3)) by rw [hv1, hv2, hv3]; unfold goneOk clientB; cases libOk ds1 <;> cases libOk ds2 <;> simp]
  have H1 := Lib.hid hv1
  have H2 := Lib.hid hv2
  have H3 := Lib.hid hv3
  clear hb0 hr0 hd1 hd2 hl hv1 hv2 hv3
  go_enter Tryz.func19, Tryz.ntmps19
  go_wp2_with fail
  refine (specLibValid_any ds1 A1 c1 _ HD1.out hz1).mono ?_
  rintro e w1 ⟨rfl, hb1⟩
  rw [← H1.out]
  have HB1 := Lib.hid (HB.out.trans (hb1.mono HB.out.size))
  have HR1 := Lib.hid (HR.out.below hb1 HR.out.size)
  have HE2 := Lib.hid (HD2.out.up hb1)
  have HE1 := Lib.hid (HD1.out.up hb1)
  have HM := Lib.hid (HL.out.up hb1)
  clear hb1 HB HR HD1 HD2 HL
  cases v1 with
  | false =>
    go_wp2_with fail
    go_ret
    exact ⟨rfl, HB1.out⟩
  | true =>
  go_wp2_with fail
  refine (specLibValid_any ds2 A2 c2 _ HE2.out hz2).mono ?_
  rintro e w2 ⟨rfl, hb2⟩
  rw [← H2.out]
  have HB2 := Lib.hid (HB1.out.trans (hb2.mono HB1.out.size))
  have hr2 := HR1.out.below hb2 HR1.out.size
  have HF1 := Lib.hid (HE1.out.up hb2)
  have HN := Lib.hid (HM.out.up hb2)
  have q0 := hr2.cell (i := 0) rfl
  have q1 := hr2.cell (i := 1) rfl
  have q2 := hr2.cell (i := 2) rfl
  clear hb2 HB1 HR1 HE1 HE2 HM hr2
  cases v2 with
  | false =>
    go_wp2_with fail
    go_ret
    exact ⟨rfl, HB2.out⟩
  | true =>
  go_wp2_with fail
  refine (l2Client_any ds1 A1 c1 op n k A c w2 HF1.out HN.out hds hlen hsz).mono ?_
  rintro e w3 ⟨rfl, hb3⟩
  rw [← H3.out]
  have HB3 := Lib.hid (HB2.out.trans (hb3.mono HB2.out.size))
  clear hb3 HB2 q0 q1 q2
  go_wp2_with fail
  go_ret
  exact ⟨by simp, HB3.out⟩

theorem plcI_gone (x : Int) (ds : List De) : decide (plcI x ds < 0) = goneP ds x := by
  obtain ⟨h1, h2⟩ := plc_fnd x ds
  unfold plcI goneP
  by_cases hp : plc x ds < ds.length
  · obtain ⟨d, _, hd⟩ := h1 hp
    rw [if_pos hp, hd]
    simp
  · rw [if_neg hp, h2 hp]
    rfl

end Go.Proofs.YtgmhpfdhkcgbfaaGreat
