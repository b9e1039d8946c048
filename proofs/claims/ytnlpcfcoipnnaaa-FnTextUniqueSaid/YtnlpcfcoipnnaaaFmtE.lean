/-
  FormatExpr: the text of an expression; the model's side.
-/
import Derived.Test.YtnlpcfcoipnnaaaFmtM
import Derived.Test.YtnlpcfcoipnnaaaTxtT
namespace Go.Proofs.Ytnlpcfcoipnnaaa
open Go.RowKit Go.Shelf
set_option maxRecDepth 100000

set_option maxHeartbeats 1000000 in
theorem specFmt_any (op n : Int) (k : Fo) (A : Option Addr) (c : Nat) (w : World) (hl : Lies w 0 w.heap.size A 0 k) (hlen : k.len ≤ maxLen) :
    Calls Try.prog 6 #[.agg #[.int .i64 op, .int .i64 n, .slice A k.len c]] w (Gives (txt (fmtL op n k)) w) := by
  obtain ⟨hb1, hr1⟩ := one_box w 25 #[Value.int IntKind.i64 op, Value.int IntKind.i64 n, Value.slice A k.len c]
  have HA := Lib.hid (l1Any_any op n k A c _ (hl.up hb1) hlen)
  have q0 := hr1.cell (i := 0) rfl
  have q1 := hr1.cell (i := 1) rfl
  have q2 := hr1.cell (i := 2) rfl
  have HB1 := Lib.hid hb1
  have HR1 := Lib.hid hr1
  have HL := Lib.hid hl
  clear hb1 hr1 hl
  unfold fmtL
  cases hv : nodeIs op n k (firstS 8) with
  | false =>
    rw [hv] at HA
    rw [if_neg (by simp)]
    clear hv
    go_enter Try.func6, Try.ntmps6
    go_wp2_with fail
    refine HA.out.mono ?_
    rintro e w2 ⟨rfl, hb2⟩
    have HB2 := Lib.hid (HB1.out.trans (hb2.mono HB1.out.size))
    clear hb2 HA HB1 HR1 q0 q1 q2
    unfold txt
    go_wp2
    go_ret
    exact ⟨rfl, HB2.out⟩
  | true =>
    rw [hv] at HA
    rw [if_pos rfl]
    have HT := Lib.hid (fun (V : World) (hV : Below w.heap.size w V) => l1Text_any op n k A c V (HL.out.up hV) (by have := node_size hv; omega) (by
      have h := mok_is hv
      have h2 := h
      unfold mokN at h2
      rw [Bool.and_eq_true] at h2
      have h3 := mok_txt (.cons op n k .nil) (by rw [mokF_cons rfl, h]; rfl)
      rw [okF_cons rfl, Bool.and_eq_true] at h3
      exact h3.1))
    clear hv
    go_enter Try.func6, Try.ntmps6
    go_wp2_with fail
    refine HA.out.mono ?_
    rintro e w2 ⟨rfl, hb2⟩
    have HB2 := Lib.hid (HB1.out.trans (hb2.mono HB1.out.size))
    have HR2 := HR1.out.below hb2 HR1.out.size
    have z0 := HR2.cell (i := 0) rfl
    have z1 := HR2.cell (i := 1) rfl
    have z2 := HR2.cell (i := 2) rfl
    clear hb2 HA HB1 HR1 HR2 q0 q1 q2
    go_wp2_with fail
    refine (HT.out w2 HB2.out).mono ?_
    rintro e w3 ⟨rfl, hb3⟩
    have HB3 := Lib.hid (HB2.out.trans (hb3.mono HB2.out.size))
    clear hb3 HB2 z0 z1 z2
    unfold txt
    go_wp2
    go_ret
    exact ⟨rfl, HB3.out⟩

theorem specFmt_t (op n : Int) (k : Fo) (A : Option Addr) (c : Nat) (w : World) (hl : Lies w 0 w.heap.size A 0 k) (hlen : k.len ≤ maxLen) :
    Calls Try.prog 6 #[.agg #[.int .i64 op, .int .i64 n, .slice A k.len c]] w (Gives (.string ⟨(fmtL op n k).toArray⟩) w) := specFmt_any op n k A c w hl hlen
end Go.Proofs.Ytnlpcfcoipnnaaa
