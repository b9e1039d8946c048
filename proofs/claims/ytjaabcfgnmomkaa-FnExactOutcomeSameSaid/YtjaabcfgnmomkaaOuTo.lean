/-
  toOutcome and eqOutcome.
-/
import Derived.Test.YtjaabcfgnmomkaaOu
namespace Go.Proofs.Ytjaabcfgnmomkaa
open Go.RowKit
set_option maxRecDepth 100000

set_option maxHeartbeats 800000 in
theorem toOutcome_any (o : Ou) (A A2 : Option Addr) (c c2 : Nat) (w : World) (hl : LiesI w 0 w.heap.size A o.out) (hl2 : LiesI w 0 w.heap.size A2 o.calls) (hsz : o.out.length ≤ 1048576) (hsz2 : o.calls.length ≤ 1048576) :
    Calls Try.prog 7 #[.agg #[.int .i64 o.code, .int .i64 o.val, .slice A o.out.length c, .slice A2 o.calls.length c2]] w (ToOut o w) := by
  unfold ToOut
  obtain ⟨code, val, out, calls⟩ := o
  dsimp only at *
  go_enter Try.func7, Try.ntmps7
  go_wp2_with fail
  generalize hw1 : (((w.alloc (Obj.cells #[Value.int IntKind.i64 code, Value.int IntKind.i64 val, Value.slice A out.length c, Value.slice A2 calls.length c2] 24)).alloc (Obj.cells #[Value.int IntKind.i64 0, Value.int IntKind.i64 0, Value.slice Option.none 0 0, Value.slice Option.none 0 0] 27)).alloc
    (Obj.cells #[Value.int IntKind.i64 code, Value.int IntKind.i64 val, Value.slice Option.none 0 0, Value.slice Option.none 0 0] 27)) = w1
  have hb1 : Below w.heap.size w w1 := by
    subst hw1
    exact (((Below.refl _ _).alloc (Nat.le_refl _) _).alloc (by simp) _).alloc (by simp; omega) _
  have hz1 : w1.heap.size = w.heap.size + 1 + 1 + 1 := by subst hw1; simp
  have r0 : Row w1 w.heap.size 24 #[Value.int IntKind.i64 code, Value.int IntKind.i64 val, Value.slice A out.length c, Value.slice A2 calls.length c2] := by
    subst hw1
    exact ((Row.fresh w _ _).alloc _).alloc _
  have r1 : Row w1 (w.heap.size + 1) 27 #[Value.int IntKind.i64 0, Value.int IntKind.i64 0, Value.slice Option.none 0 0, Value.slice Option.none 0 0] := by
    subst hw1
    have := Row.fresh (w.alloc (Obj.cells #[Value.int IntKind.i64 code, Value.int IntKind.i64 val, Value.slice A out.length c, Value.slice A2 calls.length c2] 24)) 27 #[Value.int IntKind.i64 0, Value.int IntKind.i64 0, Value.slice Option.none 0 0, Value.slice Option.none 0 0]
    simp only [World.size_alloc] at this
    exact this.alloc _
  have r2 : Row w1 (w.heap.size + 1 + 1) 27 #[Value.int IntKind.i64 code, Value.int IntKind.i64 val, Value.slice Option.none 0 0, Value.slice Option.none 0 0] := by
    subst hw1
    have := Row.fresh ((w.alloc (Obj.cells #[Value.int IntKind.i64 code, Value.int IntKind.i64 val, Value.slice A out.length c, Value.slice A2 calls.length c2] 24)).alloc (Obj.cells #[Value.int IntKind.i64 0, Value.int IntKind.i64 0, Value.slice Option.none 0 0, Value.slice Option.none 0 0] 27)) 27 #[Value.int IntKind.i64 code, Value.int IntKind.i64 val, Value.slice Option.none 0 0, Value.slice Option.none 0 0]
    simpa using this
  have hl1 := hl.up hb1
  have hl21 := hl2.up hb1
  have HL2 := Lib.hid hl2
  clear hw1 hl hl2
  have HZ := Lib.hid hz1
  refine (toIntS_any out A c w1 hl1 hsz).mono ?_
  rintro e w2 ⟨A', c', rfl, hc1, hc2, hR, hb⟩
  have r0' := r0.below hb (by omega)
  have q1 := r1.below hb (by omega)
  have q2 := r2.below hb (by omega)
  have hl22 := hl21.up hb
  have hb2 := hb1.trans (hb.mono hb1.size)
  have hs12 := hb.size
  clear r0 r1 r2 hl1 hl21 hz1
  have c0 := q2.cell (i := 0) rfl
  have c1 := q2.cell (i := 1) rfl
  have c2' := q2.cell (i := 2) rfl
  have f2 := q2.free 2
  have a3 := r0'.cell (i := 3) rfl
  go_wp2_with fail
  generalize hw3 : w2.setCell ⟨w.heap.size + 1 + 1, 2, none⟩ (.slice A' out.length c') = w3
  have r3 : Row w3 (w.heap.size + 1 + 1) 27 #[Value.int IntKind.i64 code, Value.int IntKind.i64 val, Value.slice A' out.length c', Value.slice Option.none 0 0] := by subst hw3; exact q2.put 2 (.slice A' out.length c')
  have q3 : Row w3 (w.heap.size + 1) 27 #[Value.int IntKind.i64 0, Value.int IntKind.i64 0, Value.slice Option.none 0 0, Value.slice Option.none 0 0] := by subst hw3; exact q1.apart (by simp) _
  have hb3 : Below w.heap.size w w3 := by subst hw3; exact hb2.setCell (by simp; omega) _
  have hR3 : LiesI w3 w1.heap.size w2.heap.size A' out := by subst hw3; exact hR.set (.inl (by rw [HZ.out]; simp)) _
  have hz3 : w3.heap.size = w2.heap.size := by subst hw3; simp [World.setCell]
  have hL3 : LiesI w3 0 w3.heap.size A2 calls := (HL2.out.below hb3).mono_ (Nat.le_refl 0) hb3.size
  clear hw3 q1 q2 hb2 hR hl22 r0' HL2
  refine (toIntS_any calls A2 c2 w3 hL3 hsz2).mono ?_
  rintro e w4 ⟨A4, c4, rfl, hc3, hc4, hR4, hb4⟩
  have k1 := q3.below hb4 (by rw [hz3]; have := hs12; rw [HZ.out] at this; omega)
  have k2 := r3.below hb4 (by rw [hz3]; have := hs12; rw [HZ.out] at this; omega)
  have hR5 := hR3.below (hb4.mono (by rw [hz3]; exact Nat.le_refl _))
  have hb5 := hb3.trans (hb4.mono hb3.size)
  have hs34 := hb4.size
  clear q3 r3 hR3 hb3 hL3 hb4 hb c0 c1 c2' f2 a3
  have c0 := k2.cell (i := 0) rfl
  have c1 := k2.cell (i := 1) rfl
  have c2' := k2.cell (i := 2) rfl
  have c3 := k2.cell (i := 3) rfl
  have f3 := k2.free 3
  have d0 := k1.cell (i := 0) rfl
  have d1 := k1.cell (i := 1) rfl
  have d2 := k1.cell (i := 2) rfl
  have d3 := k1.cell (i := 3) rfl
  have e0 := k1.free 0
  have e1 := k1.free 1
  have e2 := k1.free 2
  have e3 := k1.free 3
  have HS := Lib.hid (show w.heap.size + 1 + 1 < w1.heap.size ∧ w1.heap.size ≤ w2.heap.size ∧ w3.heap.size = w2.heap.size ∧ w3.heap.size ≤ w4.heap.size from ⟨by rw [HZ.out]; omega, hs12, hz3, hs34⟩)
  clear hz3 hs12 hs34
  go_wp2
  have q3 := (((((k1.apart (p := ⟨w.heap.size + 1 + 1, 3, Option.none⟩) (by simp) (.slice A4 calls.length c4)).put 0 (.int .i64 code)).put 1 (.int .i64 val)).put 2 (.slice A' out.length c')).put 3 (.slice A4 calls.length c4))
  refine bodyPost_ret (results_cell_row (P := Try.prog) rfl _ _ _ _ _ _ _ rfl q3 Try.underlying27 rfl (by kernel_rfl)) rfl ?_
  have hs := HS.out
  refine ⟨A', c', A4, c4, rfl, hc1, hc2, hc3, hc4, ?_, ?_, ?_⟩
  · refine (((((hR5.set (.inl ?_) _).set (.inl ?_) _).set (.inl ?_) _).set (.inl ?_) _).set (.inl ?_) _).mono_ hb1.size (by simp [World.setCell]; omega) <;> (dsimp only; omega)
  · refine (((((hR4.set (.inl ?_) _).set (.inl ?_) _).set (.inl ?_) _).set (.inl ?_) _).set (.inl ?_) _).mono_ (by omega) (by simp [World.setCell]) <;> (dsimp only; omega)
  · exact ((((hb5.setCell (by simp; omega) _).setCell (by simp) _).setCell (by simp) _).setCell (by simp) _).setCell (by simp) _

set_option maxHeartbeats 400000 in
theorem eqOutcome_any (o : Ou) (A A2 B B2 : Option Addr) (c c2 d d2 : Nat) (w : World) (hl : LiesI w 0 w.heap.size A o.out) (hl2 : LiesI w 0 w.heap.size A2 o.calls) (hm : LiesI w 0 w.heap.size B o.out) (hm2 : LiesI w 0 w.heap.size B2 o.calls) (hsz : o.out.length ≤ 1048576) (hsz2 : o.calls.length ≤ 1048576) :
    Calls Try.prog 9 #[.agg #[.int .i64 o.code, .int .i64 o.val, .slice A o.out.length c, .slice A2 o.calls.length c2], .agg #[.int .i64 o.code, .int .i64 o.val, .slice B o.out.length d, .slice B2 o.calls.length d2]] w (Gives (.bool true) w) := by
  obtain ⟨code, val, out, calls⟩ := o
  dsimp only at *
  generalize hw1 : (w.alloc (Obj.cells #[Value.int IntKind.i64 code, Value.int IntKind.i64 val, Value.slice A out.length c, Value.slice A2 calls.length c2] 27)).alloc (Obj.cells #[Value.int IntKind.i64 code, Value.int IntKind.i64 val, Value.slice B out.length d, Value.slice B2 calls.length d2] 27) = w1
  have hb1 : Below w.heap.size w w1 := by subst hw1; exact ((Below.refl _ _).alloc (Nat.le_refl _) _).alloc (by simp) _
  have r1 : Row w1 w.heap.size 27 #[Value.int IntKind.i64 code, Value.int IntKind.i64 val, Value.slice A out.length c, Value.slice A2 calls.length c2] := by subst hw1; exact (Row.fresh w _ #[Value.int IntKind.i64 code, Value.int IntKind.i64 val, Value.slice A out.length c, Value.slice A2 calls.length c2]).alloc _
  have r2 : Row w1 (w.heap.size + 1) 27 #[Value.int IntKind.i64 code, Value.int IntKind.i64 val, Value.slice B out.length d, Value.slice B2 calls.length d2] := by
    subst hw1
    have := Row.fresh (w.alloc (Obj.cells #[Value.int IntKind.i64 code, Value.int IntKind.i64 val, Value.slice A out.length c, Value.slice A2 calls.length c2] 27)) 27 #[Value.int IntKind.i64 code, Value.int IntKind.i64 val, Value.slice B out.length d, Value.slice B2 calls.length d2]
    simpa using this
  have H1 := Lib.hid (hl.up hb1)
  have H2 := Lib.hid (hm.up hb1)
  have H3 := Lib.hid (hl2.up hb1)
  have H4 := Lib.hid (hm2.up hb1)
  have HW := Lib.hid hw1
  clear hl hl2 hm hm2 hw1
  go_enter Try.func9, Try.ntmps9
  go_wp2_with fail
  rw [HW.out]
  refine (eqIntS_any out A B c d w1 H1.out H2.out hsz).mono ?_
  rintro e w2 ⟨rfl, hb2⟩
  have r3 := r1.below hb2 r1.size
  have r4 := r2.below hb2 r2.size
  have q3 := r3.cell (i := 3) rfl
  have q4 := r4.cell (i := 3) rfl
  have hb3 := hb1.trans (hb2.mono hb1.size)
  have H5 := Lib.hid (H3.out.up hb2)
  have H6 := Lib.hid (H4.out.up hb2)
  clear H1 H2 H3 H4 HW r1 r2 r3 r4 hb1 hb2
  go_wp2_with fail
  refine (eqIntS_any calls A2 B2 c2 d2 w2 H5.out H6.out hsz2).mono ?_
  rintro e w3 ⟨rfl, hb4⟩
  have hb5 := hb3.trans (hb4.mono hb3.size)
  clear H5 H6 q3 q4 hb3 hb4
  go_wp2
  go_ret
  exact ⟨rfl, hb5⟩
end Go.Proofs.Ytjaabcfgnmomkaa
