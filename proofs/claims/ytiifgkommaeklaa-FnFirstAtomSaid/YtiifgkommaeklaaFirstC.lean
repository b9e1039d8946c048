/-
  impl.comesFirst.
-/
import Derived.Test.YtiifgkommaeklaaVisit
import Derived.Deep.RegionHeld3
import Derived.BigRegion
import Derived.Deep.CutRange
namespace Go.Proofs.Ytiifgkommaeklaa
open Go.RowKit Go.Shelf
set_option maxRecDepth 100000

set_option maxHeartbeats 4000000 in
theorem comesFirst_any (Q : Nat → Bool) (v op n : Int) (k : Fo) (A : Option Addr) (c L B : Nat) (w : World) (hl : Lies w L B A 0 k) (hB : B ≤ w.heap.size) (hal : Rr w L B k) (hk1 : k.len ≤ c) (hk2 : c ≤ maxLen) (hsz : k.size ≤ 1048576) (hw : wellN op n k = true) :
    Calls Try.prog 26 #[.agg (cells8 Q), .agg #[.int .i64 op, .int .i64 n, .slice A k.len c], .int .i64 v] w (Gives (.bool (decide (ansI Q v op n k = 1))) w) := by
  obtain ⟨hb, r0, r1⟩ := two_boxes w 50 26 (cells8 Q) #[Value.int IntKind.i64 op, Value.int IntKind.i64 n, Value.slice A k.len c]
  obtain ⟨W, hW⟩ : ∃ W, W = (w.alloc (Obj.cells (cells8 Q) 50)).alloc (Obj.cells #[Value.int IntKind.i64 op, Value.int IntKind.i64 n, Value.slice A k.len c] 26) := ⟨_, rfl⟩
  rw [← hW] at hb r0 r1
  have HB0 := Lib.hid hb
  have HR0 := Lib.hid r0
  have HR1 := Lib.hid r1
  have HS := Lib.hid (show ∀ w' : World, Below W.heap.size W w' → w'.cell? ⟨w.heap.size, 0, none⟩ = some (Value.bool (Q 0)) ∧ w'.cell? ⟨w.heap.size, 1, none⟩ = some (Value.bool (Q 1)) ∧ w'.cell? ⟨w.heap.size, 2, none⟩ = some (Value.bool (Q 2)) ∧ w'.cell? ⟨w.heap.size, 3, none⟩ = some (Value.bool (Q 3)) ∧ w'.cell? ⟨w.heap.size, 4, none⟩ = some (Value.bool (Q 4)) ∧ w'.cell? ⟨w.heap.size, 5, none⟩ = some (Value.bool (Q 5)) ∧ w'.cell? ⟨w.heap.size, 6, none⟩ = some (Value.bool (Q 6)) ∧ w'.cell? ⟨w.heap.size, 7, none⟩ = some (Value.bool (Q 7)) ∧ w'.cell? ⟨w.heap.size + 1, 0, none⟩ = some (Value.int .i64 op) ∧ w'.cell? ⟨w.heap.size + 1, 1, none⟩ = some (Value.int .i64 n) ∧ w'.cell? ⟨w.heap.size + 1, 2, none⟩ = some (Value.slice A k.len c) from fun w' hb' => by
    have h0 := HR0.out.below hb' HR0.out.size
    have h1 := HR1.out.below hb' HR1.out.size
    exact ⟨h0.cell (i := 0) rfl, h0.cell (i := 1) rfl, h0.cell (i := 2) rfl, h0.cell (i := 3) rfl, h0.cell (i := 4) rfl, h0.cell (i := 5) rfl, h0.cell (i := 6) rfl, h0.cell (i := 7) rfl, h1.cell (i := 0) rfl, h1.cell (i := 1) rfl, h1.cell (i := 2) rfl⟩)
  have hVI : ∀ W' : World, Below W.heap.size W W' → _ := fun W' hb' => visit_any Q v L B (k.size + 1) W' (by omega) (Nat.le_trans hB (Nat.le_trans hb.size hb'.size)) op n k A c W' (Nat.lt_succ_self _) hw (Below.refl _ _) (hl.below ((hb.trans (hb'.mono hb.size)).mono hB)) hk1 hk2 (hal.below (hb.trans (hb'.mono hb.size)) hB)
  have HVI := Lib.hid hVI
  obtain ⟨a, ha⟩ : ∃ a, a = ansI Q v op n k := ⟨_, rfl⟩
  rw [← ha] at HVI ⊢
  clear hb r0 r1 hVI ha hl hal hw
  unfold cells8 at hW ⊢
  go_enter Try.func26, Try.ntmps26
  go_upto_region 1 with fail
  rw [← hW]
  clear hW
  obtain ⟨v0, v1, v2, v3, v4, v5, v6, v7, v8, v9, v10⟩ := HS.out _ (Below.refl _ _)
  go_wp2_with fail
  refine (HVI.out _ (Below.refl _ _)).mono ?_
  rintro e w5 ⟨rfl, hb5⟩
  have HB5 := Lib.hid hb5
  clear hb5 HS HVI v0 v1 v2 v3 v4 v5 v6 v7 v8 v9 v10
  by_cases h1 : a = 1
  · subst h1
    go_wp2
    go_ret
    exact ⟨rfl, HB0.out.trans (HB5.out.mono HB0.out.size)⟩
  · have t1 : ((a : Int) == 1) = false := by simp; omega
    have HZ := Lib.hid (show decide (a = 1) = false by simpa using h1)
    rw [HZ.out]
    go_wp2
    go_ret
    exact ⟨ret_bool (by first | rfl | exact t1 | exact h1 | (simp; omega) | simpa using t1), HB0.out.trans (HB5.out.mono HB0.out.size)⟩
end Go.Proofs.Ytiifgkommaeklaa
