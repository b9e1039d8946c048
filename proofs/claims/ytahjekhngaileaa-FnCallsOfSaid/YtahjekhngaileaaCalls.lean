/-
  spec.CallsOf.
-/
import Derived.Test.YtahjekhngaileaaCallsL
import Derived.Test.YtahjekhngaileaaFresh
namespace Go.Proofs.Ytahjekhngaileaa
open Go.RowKit Go.Shelf
set_option maxRecDepth 100000

set_option maxHeartbeats 1000000 in
theorem specCalls_any (op n : Int) (k : Fo) (A : Option Addr) (c : Nat) (w : World) (hl : Lies w 0 w.heap.size A 0 k) (hsz : k.size ≤ 1048576) :
    Calls Try.prog 25 #[.agg #[.int .i64 op, .int .i64 n, .slice A k.len c]] w (ListPost (numsUpto (callB ⟨op, n, k⟩) 8) w) := by
  have hmk := madeF_run
  have hr0 := Row.fresh w 25 #[Value.int IntKind.i64 op, Value.int IntKind.i64 n, Value.slice A k.len c]
  have hb0 : Below w.heap.size w (w.alloc (Obj.cells #[Value.int IntKind.i64 op, Value.int IntKind.i64 n, Value.slice A k.len c] 25)) := (Below.refl _ _).alloc (Nat.le_refl _) _
  have q0 := hr0.cell (i := 0) rfl
  have q1 := hr0.cell (i := 1) rfl
  have q2 := hr0.cell (i := 2) rfl
  have p0 := (hr0.alloc (.cells (cells8 fun _ => false) 4)).cell (i := 0) rfl
  have p1 := (hr0.alloc (.cells (cells8 fun _ => false) 4)).cell (i := 1) rfl
  have p2 := (hr0.alloc (.cells (cells8 fun _ => false) 4)).cell (i := 2) rfl
  have hrow0 : Row ((w.alloc (Obj.cells #[Value.int IntKind.i64 op, Value.int IntKind.i64 n, Value.slice A k.len c] 25)).alloc (Obj.cells (cells8 fun _ => false) 4)).drew (w.heap.size + 1) 4 (cells8 fun _ => false) := by
    have := (Row.fresh (w.alloc (Obj.cells #[Value.int IntKind.i64 op, Value.int IntKind.i64 n, Value.slice A k.len c] 25)) 4 (cells8 fun _ => false)).drew
    rw [World.size_alloc] at this
    exact this
  have hb1 : Below w.heap.size w ((w.alloc (Obj.cells #[Value.int IntKind.i64 op, Value.int IntKind.i64 n, Value.slice A k.len c] 25)).alloc (Obj.cells (cells8 fun _ => false) 4)).drew := (hb0.alloc (by simp) _).drew
  have HB1 := Lib.hid hb1
  have hz1 : w.heap.size + 1 < ((w.alloc (Obj.cells #[Value.int IntKind.i64 op, Value.int IntKind.i64 n, Value.slice A k.len c] 25)).alloc (Obj.cells (cells8 fun _ => false) 4)).drew.heap.size := by simp
  have HZ1 := Lib.hid hz1
  have HC := Lib.hid (l1Calls_any k.size (w.heap.size + 1) 0 w.heap.size op n k A c _ (fun _ => false) rfl (hl.below hb1) hb1.size (.inr (Nat.le_succ _)) hrow0 hsz)
  clear hb0 hr0 hl hrow0 hb1 hz1
  go_enter Try.func25, Try.ntmps25
  go_wp2_with fail
  go_region_with (first
    | (go_at_call 46
       refine (l1Numbers_any (w.heap.size + 1) w5 _ hrow5).mono ?_
       rintro e w6 ⟨v6, rfl, hown6, hb6⟩)
    | (go_at_call 47
       refine HC.out.mono ?_
       rintro e w5 ⟨rfl, hrow5, hon5⟩))
  all_goals
    have hb5 : Below w.heap.size w w5 := HB1.out.trans ((hon5.mono (Nat.le_of_lt (Nat.lt_of_succ_lt HZ1.out))).below (Nat.le_succ _))
    have hcg : numsUpto (fun i => false || callB ⟨op, n, k⟩ i) 8 = numsUpto (callB ⟨op, n, k⟩) 8 := numsUpto_congr 8 (fun i _ => by simp)
    rw [hcg] at hown6
    have hown7 : w6.ownsRow w.heap.size 3 1 v6 (numsUpto (callB ⟨op, n, k⟩) 8).length ((numsUpto (callB ⟨op, n, k⟩) 8).map (Value.int .i64)) := own_less hown6 hb5.size
    have HO := Lib.hid hown7
    have HB := Lib.hid (hb5.trans (hb6.mono hb5.size))
    clear hown6 hown7 hrow5 hon5 hb5 hb6 hcg q0 q1 q2 p0 p1 p2 hmk HC HB1 HZ1
    go_wp2
    go_ret
    exact ⟨_, rfl, HO.out, HB.out⟩
end Go.Proofs.Ytahjekhngaileaa
