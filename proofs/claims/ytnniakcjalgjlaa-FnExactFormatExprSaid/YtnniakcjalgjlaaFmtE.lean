/-
  FormatExpr: the text of an expression, on both sides.
-/
import Derived.Test.YtnniakcjalgjlaaWrite
import Derived.Test.YtnniakcjalgjlaaOpen
import Derived.Test.YtnniakcjalgjlaaTxtT
import Derived.Deep.CutRange
namespace Go.Proofs.Ytnniakcjalgjlaa
open Go.RowKit Go.Shelf
set_option maxRecDepth 100000

def fmtL (op n : Int) (k : Fo) : List UInt8 := if nodeIs op n k (firstS 8) = true then txtN op n k else []
theorem node_size {op n : Int} {k : Fo} {S : Nat → Bool} (h : nodeIs op n k S = true) : k.size ≤ 79 := by
  unfold nodeIs at h
  rw [Bool.and_eq_true, decide_eq_true_eq] at h
  omega
theorem fmtL_len (op n : Int) (k : Fo) : (fmtL op n k).length ≤ 500 := by
  unfold fmtL
  split
  · rename_i h
    have := node_size h
    have := txtN_len op n k
    omega
  · simp

set_option maxHeartbeats 1000000 in
theorem specFmt_any (op n : Int) (k : Fo) (A : Option Addr) (c : Nat) (w : World) (hl : Lies w 0 w.heap.size A 0 k) (hlen : k.len ≤ maxLen) :
    Calls Try.prog 5 #[.agg #[.int .i64 op, .int .i64 n, .slice A k.len c]] w (Gives (txt (fmtL op n k)) w) := by
  obtain ⟨hb1, hr1⟩ := one_box w 29 #[Value.int IntKind.i64 op, Value.int IntKind.i64 n, Value.slice A k.len c]
  have HA := Lib.hid (l1Any_any op n k A c _ (hl.up hb1) hlen)
  have q0 := hr1.cell (i := 0) rfl
  have q1 := hr1.cell (i := 1) rfl
  have q2 := hr1.cell (i := 2) rfl
  have HB1 := Lib.hid hb1
  have HR1 := Lib.hid hr1
  have HL := Lib.hid hl
  clear hb1 hr1 hl
  unfold fmtL
  cases hv : nodeIs op n k (firstS 8) with
  | false =>
    rw [hv] at HA
    rw [if_neg (by simp)]
    clear hv
    go_enter Try.func5, Try.ntmps5
    go_wp2_with fail
    refine HA.out.mono ?_
    rintro e w2 ⟨rfl, hb2⟩
    have HB2 := Lib.hid (HB1.out.trans (hb2.mono HB1.out.size))
    clear hb2 HA HB1 HR1 q0 q1 q2
    unfold txt
    go_wp2
    go_ret
    exact ⟨rfl, HB2.out⟩
  | true =>
    rw [hv] at HA
    rw [if_pos rfl]
    have HT := Lib.hid (fun (V : World) (hV : Below w.heap.size w V) => l1Text_any op n k A c V (HL.out.up hV) (by have := node_size hv; omega) (by
      have h := mok_is hv
      have h2 := h
      unfold mokN at h2
      rw [Bool.and_eq_true] at h2
      have h3 := mok_txt (.cons op n k .nil) (by rw [mokF_cons rfl, h]; rfl)
      rw [okF_cons rfl, Bool.and_eq_true] at h3
      exact h3.1))
    clear hv
    go_enter Try.func5, Try.ntmps5
    go_wp2_with fail
    refine HA.out.mono ?_
    rintro e w2 ⟨rfl, hb2⟩
    have HB2 := Lib.hid (HB1.out.trans (hb2.mono HB1.out.size))
    have HR2 := HR1.out.below hb2 HR1.out.size
    have z0 := HR2.cell (i := 0) rfl
    have z1 := HR2.cell (i := 1) rfl
    have z2 := HR2.cell (i := 2) rfl
    clear hb2 HA HB1 HR1 HR2 q0 q1 q2
    go_wp2_with fail
    refine (HT.out w2 HB2.out).mono ?_
    rintro e w3 ⟨rfl, hb3⟩
    have HB3 := Lib.hid (HB2.out.trans (hb3.mono HB2.out.size))
    clear hb3 HB2 z0 z1 z2
    unfold txt
    go_wp2
    go_ret
    exact ⟨rfl, HB3.out⟩

set_option maxHeartbeats 2000000 in
theorem implFmt_any (op n : Int) (k : Fo) (A : Option Addr) (c : Nat) (w : World) (hl : Lies w 0 w.heap.size A 0 k) (hlen : k.len ≤ maxLen) :
    Calls Try.prog 7 #[.agg #[.int .i64 op, .int .i64 n, .slice A k.len c]] w (Gives (txt (fmtL op n k)) w) := by
  obtain ⟨hb1, hr1⟩ := one_box w 29 #[Value.int IntKind.i64 op, Value.int IntKind.i64 n, Value.slice A k.len c]
  have HA := Lib.hid (validOpen_any op n k A c _ (hl.up hb1) hlen)
  have q0 := hr1.cell (i := 0) rfl
  have q1 := hr1.cell (i := 1) rfl
  have q2 := hr1.cell (i := 2) rfl
  have HB1 := Lib.hid hb1
  have HR1 := Lib.hid hr1
  have HL := Lib.hid hl
  clear hb1 hr1 hl
  unfold fmtL
  cases hv : nodeIs op n k (firstS 8) with
  | false =>
    rw [hv] at HA
    rw [if_neg (by simp)]
    clear hv
    go_enter Try.func7, Try.ntmps7
    go_wp2_with fail
    refine HA.out.mono ?_
    rintro e w2 ⟨rfl, hb2⟩
    have HB2 := Lib.hid (HB1.out.trans (hb2.mono HB1.out.size))
    clear hb2 HA HB1 HR1 q0 q1 q2
    unfold txt
    go_wp2
    go_ret
    exact ⟨rfl, HB2.out⟩
  | true =>
    rw [hv] at HA
    rw [if_pos rfl]
    have HMK := Lib.hid (mok_is hv)
    have HSZ := Lib.hid (show ([] : List UInt8).length + (txtN op n k).length ≤ 100000000 by
      have := node_size hv
      have := txtN_len op n k
      simp only [List.length_nil]
      omega)
    clear hv
    go_enter Try.func7, Try.ntmps7
    go_wp2_with fail
    refine HA.out.mono ?_
    rintro e w2 ⟨rfl, hb2⟩
    have HR2 := Lib.hid (HR1.out.below hb2 HR1.out.size)
    have HB2 := Lib.hid (HB1.out.trans (hb2.mono HB1.out.size))
    obtain ⟨V, hV⟩ : ∃ V, V = w2.alloc (Obj.cells #[.pointer none, .slice none 0 0] 39) := ⟨_, rfl⟩
    have hbv : Below w2.heap.size w2 V := by rw [hV]; exact (Below.refl _ _).alloc (Nat.le_refl _) _
    have his : IsBld w2.heap.size w2.heap.size (Lib.byteCells []) V := by rw [hV]; exact Lib.fresh_isBuilder 39 5 w2
    have hwr := wr_any w2.heap.size w2.heap.size (k.size + 1) op n k A c [] V (by omega) HMK.out ((HL.out.below (HB2.out.trans (hbv.mono HB2.out.size))).mono_ (Nat.le_refl _) HB2.out.size) his HSZ.out
    have HWR := Lib.hid hwr
    have HR3 := Lib.hid (HR2.out.below hbv HR2.out.size)
    have HBV := Lib.hid hbv
    clear hb2 HA HB1 HR1 q0 q1 q2 hbv his hwr
    go_upto_region 4 with fail
    rw [← hV]
    clear hV
    have z0 := HR3.out.cell (i := 0) rfl
    have z1 := HR3.out.cell (i := 1) rfl
    have z2 := HR3.out.cell (i := 2) rfl
    go_wp2_with fail
    refine HWR.out.mono ?_
    rintro e w3 ⟨rfl, hbd, hb3, hk3⟩
    have HS := Lib.hid (Try.Builder_String_any w2.heap.size w2.heap.size ([] ++ txtN op n k) w3 (.inr hbd) (Nat.le_of_lt (Lib.BuilderAt.lt hbd)))
    have HB3 := Lib.hid (HB2.out.trans ((HBV.out.trans hb3).mono HB2.out.size))
    clear hbd hb3 hk3 z0 z1 z2 HWR
    rw [List.nil_append] at HS
    go_wp2_with fail
    refine HS.out.mono ?_
    rintro e w4 ⟨rfl, hb4⟩
    have HB4 := Lib.hid (HB3.out.trans (hb4.mono HB2.out.size))
    clear hb4
    unfold txt
    go_wp2
    go_ret
    exact ⟨rfl, HB4.out⟩

theorem specFmt_t (op n : Int) (k : Fo) (A : Option Addr) (c : Nat) (w : World) (hl : Lies w 0 w.heap.size A 0 k) (hlen : k.len ≤ maxLen) :
    Calls Try.prog 5 #[.agg #[.int .i64 op, .int .i64 n, .slice A k.len c]] w (Gives (.string ⟨(fmtL op n k).toArray⟩) w) := specFmt_any op n k A c w hl hlen
theorem implFmt_t (op n : Int) (k : Fo) (A : Option Addr) (c : Nat) (w : World) (hl : Lies w 0 w.heap.size A 0 k) (hlen : k.len ≤ maxLen) :
    Calls Try.prog 7 #[.agg #[.int .i64 op, .int .i64 n, .slice A k.len c]] w (Gives (.string ⟨(fmtL op n k).toArray⟩) w) := implFmt_any op n k A c w hl hlen
end Go.Proofs.Ytnniakcjalgjlaa
