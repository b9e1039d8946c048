/-
  spec.DrawSpanAt.
-/
import Derived.Test.YtiefobkddckkbaaDrawPA
namespace Go.Proofs.Ytiefobkddckkbaa
open Go.RowKit Go.Shelf
set_option maxRecDepth 100000

set_option maxHeartbeats 2000000 in
theorem drawSpanAt_any (A : Option Addr) (bc : Nat) (bs : List Nat) (w : World) (hB : LiesY w 0 w.heap.size A bs) (hl : bs.length ≤ bc) (hc : bc ≤ maxLen) :
    Calls Try.prog 14 #[.slice A bs.length bc] w (PathDrawn w) := by
  obtain ⟨W1, hW1⟩ : ∃ W1, W1 = w.alloc (Obj.cells #[.int .i64 0, .int .i64 0, .slice none 0 0] 33) := ⟨_, rfl⟩
  have hb1 : Below w.heap.size w W1 := by rw [hW1]; exact (Below.refl _ _).alloc (Nat.le_refl _) _
  have hx1 : Row W1 w.heap.size 33 #[.int .i64 0, .int .i64 0, .slice none 0 0] := by rw [hW1]; exact Row.fresh _ _ _
  have hY1 : LiesY W1 0 W1.heap.size A bs := (hB.below hb1).keep (Nat.le_refl _) hb1.size fun _ _ _ => rfl
  have HC := Lib.hid (l9Case_any A bc bs W1 hY1 hl hc)
  have HX1 := Lib.hid hx1
  have HB1 := Lib.hid hb1
  clear hb1 hx1 hB hY1
  go_enter Try.func14, Try.ntmps14
  go_upto_region 1 with fail
  rw [← hW1]
  clear hW1
  go_wp2_with fail
  refine HC.out.mono ?_
  rintro e w3 ⟨o8, n8, k8, A8, c8, zs, A2, c2, rfl, ⟨b8, hi8, ht8, hs8⟩, hli, hm1, hm2, hm3, hb3⟩
  have hx3 := HX1.out.below hb3 HX1.out.size
  have HX3 := Lib.hid hx3
  have HT := Lib.hid (ht8.lower (base' := w.heap.size + 1) HX1.out.size)
  have HI := Lib.hid hi8
  have HS := Lib.hid hs8
  have HLI := Lib.hid hli
  have HB3 := Lib.hid hb3
  have f0 := hx3.free 0
  have f1 := hx3.free 1
  have f2 := hx3.free 2
  have d0 := hx3.cell (i := 0) rfl
  have d1 := hx3.cell (i := 1) rfl
  have d2 := hx3.cell (i := 2) rfl
  clear hx3 ht8 hi8 hs8 hli hb3 HC
  go_wp2_with fail
  have r9 := ((HX3.out.put 0 (.int .i64 o8)).put 1 (.int .i64 n8)).put 2 (.slice A8 k8.len c8)
  have t0 := r9.cell (i := 0) rfl
  have t1 := r9.cell (i := 1) rfl
  have t2 := r9.cell (i := 2) rfl
  refine bodyPost_ret (v := .tuple #[.agg #[.int .i64 o8, .int .i64 n8, .slice A8 k8.len c8], .slice A2 zs.length c2]) ?_ rfl ?_
  · simp [results, Try.f14, go_sem, t0, t1, t2]
  · have ho : Only w.heap.size w3.heap.size w3 _ := (((Only.refl w.heap.size w3.heap.size w3).set (p := ⟨w.heap.size, 0, none⟩) (.inl rfl) (.int .i64 o8)).set (p := ⟨w.heap.size, 1, none⟩) (.inl rfl) (.int .i64 n8)).set (p := ⟨w.heap.size, 2, none⟩) (.inl rfl) (.slice A8 k8.len c8)
    refine drawn_end (bl := b8) (HB1.out.trans (HB3.out.mono HB1.out.size)) ho HT.out HI.out HS.out ?_ hm1 hm2 hm3
    exact HLI.out.keep (Nat.le_of_lt HX1.out.size) (by simp only [World.size_setCell]; exact Nat.le_refl _) fun p h1 h2 => World.cell?_of_block (ho.block p.block h2 (by have := HX1.out.size; omega))
end Go.Proofs.Ytiefobkddckkbaa
