/-
  The draws of one expression.
-/
import Derived.Test.YtnlpcfcoipnnaaaCaseS
namespace Go.Proofs.Ytnlpcfcoipnnaaa
open Go.RowKit Go.Shelf
set_option maxRecDepth 100000

def NodePost (w : World) (e : Ending) (w' : World) : Prop :=
  ∃ op n k X c, e = .returned (.agg #[.int .i64 op, .int .i64 n, .slice X (Fo.len k) c]) ∧ Drawn w' w.heap.size op n k X c ∧ Below w.heap.size w w'

set_option maxHeartbeats 1000000 in
theorem drawFormat_any (A : Option Addr) (bc : Nat) (bs : List Nat) (w : World) (hB : LiesY w 0 w.heap.size A bs) (hl : bs.length ≤ bc) (hc : bc ≤ maxLen) :
    Calls Try.prog 4 #[.slice A bs.length bc] w (NodePost w) := by
  obtain ⟨W1, hW1⟩ : ∃ W1, W1 = w.alloc (Obj.cells #[.int .i64 0, .int .i64 0, .slice none 0 0] 25) := ⟨_, rfl⟩
  have hb1 : Below w.heap.size w W1 := by rw [hW1]; exact (Below.refl _ _).alloc (Nat.le_refl _) _
  have hx1 : Row W1 w.heap.size 25 #[.int .i64 0, .int .i64 0, .slice none 0 0] := by rw [hW1]; exact Row.fresh _ _ _
  have HC := Lib.hid (case_any A bc bs W1 ((hB.below hb1).keep (Nat.le_refl _) hb1.size fun _ _ _ => rfl) hl hc)
  have HX1 := Lib.hid hx1
  have HB1 := Lib.hid hb1
  clear hb1 hx1 hB
  go_enter Try.func4, Try.ntmps4
  go_upto_region 1 with fail
  rw [← hW1]
  clear hW1
  go_wp2_with fail
  refine HC.out.mono ?_
  rintro e w8 ⟨o8, n8, k8, A8, c8, v8, zs8, rfl, ⟨b8, hi8, ht8, hs8⟩, hv8, -, -, hb8⟩
  have ba := (Below.refl w8.heap.size w8).alloc (Nat.le_refl _) (Obj.cells #[.int .i64 o8, .int .i64 n8, .slice A8 k8.len c8] 25)
  have hbx := hb8.trans (ba.mono hb8.size)
  have HT := Lib.hid ((ht8.over ba).lower (base' := w.heap.size + 1) HX1.out.size)
  have hxb := HX1.out.below hbx HX1.out.size
  have HXB := Lib.hid hxb
  have HB8 := Lib.hid (HB1.out.trans (hbx.mono HB1.out.size))
  have f0 := hxb.free 0
  have f1 := hxb.free 1
  have f2 := hxb.free 2
  have d0 := hxb.cell (i := 0) rfl
  have d1 := hxb.cell (i := 1) rfl
  have d2 := hxb.cell (i := 2) rfl
  have HI := Lib.hid hi8
  have HS := Lib.hid hs8
  clear hbx hxb ht8 hi8 hs8 hb8 HC ba hv8
  go_wp2_with fail
  have r7 := ((HXB.out.put 0 (.int .i64 o8)).put 1 (.int .i64 n8)).put 2 (.slice A8 k8.len c8)
  have t0 := r7.cell (i := 0) rfl
  have t1 := r7.cell (i := 1) rfl
  have t2 := r7.cell (i := 2) rfl
  refine bodyPost_ret (v := .agg #[.int .i64 o8, .int .i64 n8, .slice A8 k8.len c8]) ?_ rfl ⟨o8, n8, k8, A8, c8, rfl, ⟨b8, HI.out, (HT.out.keep fun z hz => ?_).lower (Nat.le_succ _), HS.out⟩, ((HB8.out.setCell (Nat.le_refl _) _).setCell (Nat.le_refl _) _).setCell (Nat.le_refl _) _⟩
  · simp [results, Try.f4, go_sem, t0, t1, t2]
  · have hz1 := (HT.out.lt z hz).1
    have hz2 : z ≠ w.heap.size := by omega
    rw [Below.heap_setCell _ _ _ z hz2, Below.heap_setCell _ _ _ z hz2, Below.heap_setCell _ _ _ z hz2]

end Go.Proofs.Ytnlpcfcoipnnaaa
