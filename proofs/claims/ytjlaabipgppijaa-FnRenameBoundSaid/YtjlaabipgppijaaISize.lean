/-
  impl.SizeOf: one and what lies below.
-/
import Derived.Test.YtjlaabipgppijaaNodesI
namespace Go.Proofs.Ytjlaabipgppijaa
open Go.RowKit Go.Shelf
set_option maxRecDepth 100000

attribute [local go_sem] Oper.semAt_some

set_option maxRecDepth 100000 in
set_option maxHeartbeats 2000000 in
theorem implSize_r (op m : Int) (k : Fo) (A : Option Addr) (c L B : Nat) (w : World) (hl : Lies w L B A 0 k) (hB : B ≤ w.heap.size) (hal : RowsIf w B A k) (hk1 : k.len ≤ c) (hk2 : c ≤ maxLen) (hsz : k.size ≤ 1048576) :
    Calls Try.prog 12 #[.agg #[.int .i64 op, .int .i64 m, .slice A k.len c]] w (Gives (.int .i64 ((1 + k.size : Nat) : Int)) w) := by
  refine (callsIn_wide (n := 9)).1 ?_
  refine callsIn_of_wp_marks Try.func12 rfl trivial ?_ rfl
  simp only [Try.ntmps12, List.size_toArray, List.length_cons, List.length_nil, Nat.reduceAdd, Nat.reduceSub, Array.replicate_succ, Array.replicate_zero, List.push_toArray, List.append_toArray, List.nil_append, List.cons_append]
  gi_wp2_with fail
  refine ⟨trivial, (callsIn_wide.2 (nodesOf_any op m k A c 37 #[] _)).mono ?_⟩
  rintro e w1 ⟨rfl, rfl⟩
  gi_wp2_with fail
  obtain ⟨W0, hW0⟩ : ∃ W0, W0 = (((w.alloc (Obj.cells #[Value.int .i64 op, Value.int .i64 m, Value.slice A k.len c] 25)).alloc (Obj.cells #[Value.int .i64 0] 3)).alloc
    (Obj.cells #[Value.int .i64 op, Value.int .i64 m, Value.slice A k.len c] 25)).alloc (Obj.cells #[Value.func (.func 37) #[] #[]] 57) := ⟨_, rfl⟩
  rw [← hW0]
  have hz0 : W0.heap.size = w.heap.size + 1 + 1 + 1 + 1 := by rw [hW0]; simp
  have hb0 : Below w.heap.size w W0 := by
    rw [hW0]
    exact ((((Below.refl _ _).alloc (Nat.le_refl _) _).alloc (by simp) _).alloc (by simp; omega) _).alloc (by simp; omega) _
  have rn : Row W0 (w.heap.size + 1) 3 #[Value.int .i64 0] := by
    rw [hW0]
    have := Row.fresh (w.alloc (Obj.cells #[Value.int .i64 op, Value.int .i64 m, Value.slice A k.len c] 25)) 3 #[Value.int .i64 0]
    rw [World.size_alloc] at this
    exact (this.alloc _).alloc _
  have r1 : Row W0 (w.heap.size + 1 + 1) 25 #[Value.int .i64 op, Value.int .i64 m, Value.slice A k.len c] := by
    rw [hW0]
    have := Row.fresh ((w.alloc (Obj.cells #[Value.int .i64 op, Value.int .i64 m, Value.slice A k.len c] 25)).alloc (Obj.cells #[Value.int .i64 0] 3)) 25 #[Value.int .i64 op, Value.int .i64 m, Value.slice A k.len c]
    simp only [World.size_alloc] at this
    exact this.alloc _
  have r2 : Row W0 (w.heap.size + 1 + 1 + 1) 57 #[Value.func (.func 37) #[] #[]] := by
    rw [hW0]
    have := Row.fresh (((w.alloc (Obj.cells #[Value.int .i64 op, Value.int .i64 m, Value.slice A k.len c] 25)).alloc (Obj.cells #[Value.int .i64 0] 3)).alloc (Obj.cells #[Value.int .i64 op, Value.int .i64 m, Value.slice A k.len c] 25)) 57 #[Value.func (.func 37) #[] #[]]
    simp only [World.size_alloc] at this
    exact this
  clear hW0
  have hN : (ordN (fun _ _ => false) ⟨op, m, k⟩).length = 1 + k.size := by simp [ordN, ordF_all]; omega
  refine range_own (X := fun g => g = w.heap.size + 1) rfl (by omega) (gf := 55) (lb := #[.pointer (some ⟨w.heap.size + 1 + 1, 0, none⟩), .pointer (some ⟨w.heap.size + 1 + 1 + 1, 0, none⟩)]) rfl trivial (enters_of Try.func55 (by kernel_rfl) rfl)
    (nodes_seqR 8 (fun _ _ => false) op m k A c L B (w.heap.size + 1 + 1) (w.heap.size + 1 + 1 + 1) 37 #[] (fun g => g = w.heap.size + 1) W0 (fun g hg => by omega) (by omega) (by omega) (fun g _ h2 => by omega) r1 (r2.cell (i := 0) rfl)
      (hl.below (hb0.mono hB)) (Nat.le_trans hB hb0.size) (hal.below hb0 hB) hk1 hk2 hsz (enters_of Try.func37 (by kernel_rfl) rfl) (fun x i V _ => hideNone_any x.op x.n _ i V))
    (Below.refl _ _) (fun _ => rfl)
    (fun pre W => Row W (w.heap.size + 1) 3 #[Value.int .i64 ((pre.length : Nat) : Int)] ∧ Below w.heap.size w W) (fun _ _ _ => False)
    (fun s V V' ⟨x1, x2⟩ hb => ⟨x1.below hb (by omega), x2.trans (hb.mono (by omega))⟩) (fun _ _ _ _ hf _ => hf) ⟨rn, hb0⟩
    (fun x a' _ => a' = { tmps := #[.agg #[.int .i64 op, .int .i64 m, .slice A k.len c], .pointer (some ⟨w.heap.size, 0, none⟩), .int .i64 0, .pointer (some ⟨w.heap.size + 1, 0, none⟩), .agg #[.int .i64 op, .int .i64 m, .slice A k.len c],
      .func (.func 55) #[] #[.pointer (some ⟨w.heap.size + 1 + 1, 0, none⟩), .pointer (some ⟨w.heap.size + 1 + 1 + 1, 0, none⟩)], x.val, undef, undef, undef], defers := [] })
    (fun _ _ _ _ h _ => h) ?assign ?body ?done ?stop
  case assign =>
    intro l pre x W K _ hi hK
    gi_wp2
    exact hK _ _ (Below.refl _ _) (by simp)
  case body =>
    rintro l pre x a' W _ ⟨hr, hb⟩ rfl hlen
    rw [hN] at hlen
    have q := hr.cell (i := 0) rfl
    have f := hr.free 0
    have hlp : pre.length ≤ 1048576 := by omega
    gi_wp2
    refine ⟨KeepsFrom.set (KeepsFrom.refl _ _) _ _, KC.set (X := fun g => g = w.heap.size + 1) (p := ⟨w.heap.size + 1, 0, none⟩) (KC.refl _ _) rfl _, ?_, hb.setCell (by simp) _⟩
    have := hr.put 0 (.int .i64 ((pre.length : Int) + 1))
    rw [List.length_append]
    exact this
  case done =>
    rintro D ys W hD hS ⟨hr, hb⟩ hK
    have hlen : ys.length = 1 + k.size := by rw [← hN, ← hS, List.length_map]
    have q := hr.cell (i := 0) rfl
    gi_wp2
    refine ⟨by simp, .inl ⟨_, _, rfl, run_takeDeferred hK, ?_⟩⟩
    refine ⟨_, results_tmp rfl _ _ _, by show Ending.returned (.int .i64 (1 + (k.size : Int))) = _; exact ret_int (by omega), hb.trans (below_put _ hK (by omega))⟩
  case stop =>
    rintro D c pre W _ _ h _
    exact h.elim
theorem implSize_any (op m : Int) (k : Fo) (A : Option Addr) (c L B : Nat) (w : World) (hl : Lies w L B A 0 k) (hB : B ≤ w.heap.size) (hal : AllRows w L B) (hk1 : k.len ≤ c) (hk2 : c ≤ maxLen) (hsz : k.size ≤ 1048576) :
    Calls Try.prog 12 #[.agg #[.int .i64 op, .int .i64 m, .slice A k.len c]] w (Gives (.int .i64 ((1 + k.size : Nat) : Int)) w) := implSize_r op m k A c L B w hl hB (.of hl hal) hk1 hk2 hsz
end Go.Proofs.Ytjlaabipgppijaa
