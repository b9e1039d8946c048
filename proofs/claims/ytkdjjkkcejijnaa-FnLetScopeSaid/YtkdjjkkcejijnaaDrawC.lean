/-
  spec.DrawCountVar.
-/
import Derived.Test.YtkdjjkkcejijnaaDrawE
namespace Go.Proofs.Ytkdjjkkcejijnaa
open Go.RowKit Go.Shelf
set_option maxRecDepth 100000

def CountPost (w : World) (e : Ending) (w' : World) : Prop :=
  ∃ op n k X c y, e = .returned (.tuple #[.agg #[.int .i64 op, .int .i64 n, .slice X (Fo.len k) c], .int .i64 y]) ∧ Drawn w' w.heap.size op n k X c ∧ I64 y ∧ Below w.heap.size w w'

set_option maxHeartbeats 2000000 in
theorem drawCountVar_any (A : Option Addr) (bc : Nat) (bs : List Nat) (w : World) (hB : LiesY w 0 w.heap.size A bs) (hl : bs.length ≤ bc) (hc : bc ≤ maxLen) :
    Calls Try.prog 6 #[.slice A bs.length bc] w (CountPost w) := by
  obtain ⟨W1, hW1⟩ : ∃ W1, W1 = w.alloc (Obj.cells #[.int .i64 0, .int .i64 0, .slice none 0 0] 25) := ⟨_, rfl⟩
  have hb1 : Below w.heap.size w W1 := by rw [hW1]; exact (Below.refl _ _).alloc (Nat.le_refl _) _
  have hx1 : Row W1 w.heap.size 25 #[.int .i64 0, .int .i64 0, .slice none 0 0] := by rw [hW1]; exact Row.fresh _ _ _
  have hY1 : LiesY W1 0 W1.heap.size A bs := (hB.below hb1).keep (Nat.le_refl _) hb1.size fun _ _ _ => rfl
  have HC := Lib.hid (drawFormat_any A bc bs W1 hY1 hl hc)
  have HY1 := Lib.hid hY1
  have HX1 := Lib.hid hx1
  have HB1 := Lib.hid hb1
  clear hb1 hx1 hB hY1
  go_enter Try.func6, Try.ntmps6
  go_upto_region 1 with fail
  rw [← hW1]
  clear hW1
  go_wp2_with fail
  refine HC.out.mono ?_
  rintro e w3 ⟨o8, n8, k8, A8, c8, rfl, ⟨b8, hi8, ht8, hs8⟩, hb3⟩
  have HCO := Lib.hid (open_any A bc bs w3 ((HY1.out.below hb3).keep (Nat.le_refl _) hb3.size fun _ _ _ => rfl) hl hc)
  have HX3 := Lib.hid (HX1.out.below hb3 HX1.out.size)
  have HB3 := Lib.hid (HB1.out.trans (hb3.mono HB1.out.size))
  have HT3 := Lib.hid (ht8.lower (base' := w.heap.size + 1) HX1.out.size)
  have HI := Lib.hid hi8
  have HS := Lib.hid hs8
  clear hb3 ht8 hi8 hs8 HX1 HB1 HC HY1
  go_wp2_with fail
  refine HCO.out.mono ?_
  rintro e w4 ⟨bs2, hl2, rfl, hY4, hr4, hb4, hz4⟩
  have ba := (Below.refl w4.heap.size w4).alloc (Nat.le_refl _) (Obj.cells #[.int .i64 0, .int .i64 1, .int .i64 2, .int .i64 3, .int .i64 (-1)] 3)
  have HN := Lib.hid (num_v w3.heap.size w3.heap.size A bc bs2 0 (some ⟨w4.heap.size, 0, none⟩) 5 [0, 1, 2, 3, -1] _ (Row.below hr4 ba hz4) (hY4.below (ba.mono hb4.size)) (Nat.le_refl _) hl2 (by decide) (lies_new w4 (w3.heap.size + 1) [0, 1, 2, 3, -1] (by intro x hx; simp at hx; unfold I64; omega) hz4) (by decide) (by decide))
  have hb5 := hb4.trans (ba.mono hb4.size)
  have HB5 := Lib.hid hb5
  clear ba hr4 hY4 hb4 hz4 hb5 HCO
  go_wp2_with fail
  refine HN.out.mono ?_
  rintro e w6 ⟨y, -, hyi, rfl, -, hon6⟩
  have hb6 : Below w3.heap.size w3 w6 := HB5.out.trans ((hon6.mono HB5.out.size).below (Nat.le_refl _))
  have hxb := HX3.out.below hb6 HX3.out.size
  have HXB := Lib.hid hxb
  have HB8 := Lib.hid (HB3.out.trans (hb6.mono HB3.out.size))
  have HT := Lib.hid (HT3.out.over hb6)
  have HYI := Lib.hid hyi
  have f0 := hxb.free 0
  have f1 := hxb.free 1
  have f2 := hxb.free 2
  have d0 := hxb.cell (i := 0) rfl
  have d1 := hxb.cell (i := 1) rfl
  have d2 := hxb.cell (i := 2) rfl
  clear hb6 hxb hon6 hyi HN HX3 HB3 HT3 HB5
  go_wp2_with fail
  have r7 := ((HXB.out.put 0 (.int .i64 o8)).put 1 (.int .i64 n8)).put 2 (.slice A8 k8.len c8)
  have t0 := r7.cell (i := 0) rfl
  have t1 := r7.cell (i := 1) rfl
  have t2 := r7.cell (i := 2) rfl
  refine bodyPost_ret (v := .tuple #[.agg #[.int .i64 o8, .int .i64 n8, .slice A8 k8.len c8], .int .i64 y]) ?_ rfl ⟨o8, n8, k8, A8, c8, y, rfl, ⟨b8, HI.out, (HT.out.keep fun z hz => ?_).lower (Nat.le_succ _), HS.out⟩, HYI.out, ((HB8.out.setCell (Nat.le_refl _) _).setCell (Nat.le_refl _) _).setCell (Nat.le_refl _) _⟩
  · simp [results, Try.f6, go_sem, t0, t1, t2]
  · have hz1 := (HT.out.lt z hz).1
    have hz2 : z ≠ w.heap.size := by omega
    rw [Below.heap_setCell _ _ _ z hz2, Below.heap_setCell _ _ _ z hz2, Below.heap_setCell _ _ _ z hz2]
end Go.Proofs.Ytkdjjkkcejijnaa
