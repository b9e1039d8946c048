/-
  spec.l1Any, impl.validOpen: valid with all variables in scope; CallsFit, both sides.
-/
import Derived.Test.YthimgboeankpcaaScope
import Derived.Test.YthimgboeankpcaaIsV
import Derived.Test.YthimgboeankpcaaImplV
import Derived.Test.YthimgboeankpcaaFitS
import Derived.Test.YthimgboeankpcaaAllFit
import Derived.Deep.RegionHeld3
namespace Go.Proofs.Ythimgboeankpcaa
open Go.RowKit
set_option maxRecDepth 100000

/-- All call names of a well-formed tree are functions: both ways to look a function up agree. -/
theorem fit_of_shape (ds : List De) : ∀ (f : Fo) (op n : Int) (i : Nat) (S : Nat → Bool) (d : Nat), shapeF op n i S d f = true → fitF (ariI ds) f = fitF (ariS ds) f
  | .nil, _, _, _, _, _, _ => rfl
  | .cons o m k r, op, n, i, S, d, h => by
    simp only [shapeF, Bool.and_eq_true] at h
    obtain ⟨⟨⟨⟨h1, h2⟩, h3⟩, h4⟩, h5⟩ := h
    have e1 := fit_of_shape ds k o m 0 _ _ h4
    have e2 := fit_of_shape ds r op n (i + 1) S d h5
    have e3 : okCall (ariI ds) o m k.len = okCall (ariS ds) o m k.len := by
      unfold okCall
      by_cases ho : o = 3
      · subst ho
        have hv : inVar m = true := by simpa [ownOk] using h3
        simp [ariI, hv]
      · simp [ho]
    simp only [fitF, e1, e2, e3]
theorem fit_of_is {ds : List De} {op n : Int} {k : Fo} {S : Nat → Bool} (h : nodeIs op n k S = true) : fitN (ariI ds) op n k = fitN (ariS ds) op n k := by
  unfold nodeIs nodeShape at h
  simp only [Bool.and_eq_true] at h
  obtain ⟨⟨⟨⟨h1, h2⟩, h3⟩, h4⟩, h5⟩ := h
  have e1 := fit_of_shape ds k op n 0 S _ h4
  have e3 : okCall (ariI ds) op n k.len = okCall (ariS ds) op n k.len := by
    unfold okCall
    by_cases ho : op = 3
    · subst ho
      have hv : inVar n = true := by simpa [ownOk] using h3
      simp [ariI, hv]
    · simp [ho]
  simp only [fitN, e1, e3]

set_option maxHeartbeats 1000000 in
theorem l1Any_any (op n : Int) (k : Fo) (A : Option Addr) (c : Nat) (w : World) (hl : Lies w 0 w.heap.size A 0 k) (hlen : k.len ≤ maxLen) :
    Calls Try.prog 42 #[.agg #[.int .i64 op, .int .i64 n, .slice A k.len c]] w (Gives (.bool (nodeIs op n k (firstS 8))) w) := by
  have hb0 : Below w.heap.size w (w.alloc (Obj.cells #[Value.int IntKind.i64 op, Value.int IntKind.i64 n, Value.slice A k.len c] 34)).drew := ((Below.refl _ _).alloc (Nat.le_refl _) _).drew
  have hr0 := (Row.fresh w 34 #[Value.int IntKind.i64 op, Value.int IntKind.i64 n, Value.slice A k.len c]).drew
  have q0 := hr0.cell (i := 0) rfl
  have q1 := hr0.cell (i := 1) rfl
  have q2 := hr0.cell (i := 2) rfl
  have HB0 := Lib.hid hb0
  have hz : w.heap.size < (w.alloc (Obj.cells #[Value.int IntKind.i64 op, Value.int IntKind.i64 n, Value.slice A k.len c] 34)).drew.heap.size := by simp
  have HZ := Lib.hid hz
  have HL := Lib.hid hl
  have HLEN := Lib.hid hlen
  have h8 := l1First_any 8 (Nat.le_refl _) (w.alloc (Obj.cells #[Value.int IntKind.i64 op, Value.int IntKind.i64 n, Value.slice A k.len c] 34)).drew
  have H8 := Lib.hid h8
  clear hb0 hr0 hz hl hlen h8
  generalize hS : firstS 8 = S
  rw [hS] at H8
  clear hS
  go_enter Try.func42, Try.ntmps42
  go_wp2_with fail
  go_region_held3 (fun w' => w'.cell? ⟨w.heap.size, 0, none⟩ = some (.int .i64 op) ∧ w'.cell? ⟨w.heap.size, 1, none⟩ = some (.int .i64 n) ∧ w'.cell? ⟨w.heap.size, 2, none⟩ = some (.slice A k.len c))
    (first | exact ⟨q0, q1, q2⟩ | exact ⟨y0, y1, y2⟩ | exact ⟨u0, u1, u2⟩)
    (first
      | (go_at_call 40
         refine H8.out.mono ?_
         rintro e w3 ⟨A3, c3, rfl, hB3, hb3⟩
         have y0 := (hb3.cell (p := ⟨w.heap.size, 0, none⟩) HZ.out).trans q0
         have y1 := (hb3.cell (p := ⟨w.heap.size, 1, none⟩) HZ.out).trans q1
         have y2 := (hb3.cell (p := ⟨w.heap.size, 2, none⟩) HZ.out).trans q2)
      | (go_at_call 39
         refine (l1Is_any op n k A c S A3 c3 w3 ((HL.out.up HB0.out).up (hb3.mono HB0.out.size |> fun _ => hb3)) HLEN.out (hB3.mono_ (Nat.zero_le _) (Nat.le_refl _))).mono ?_
         rintro e w4 ⟨rfl, hb4⟩
         have u0 := (hb4.cell (p := ⟨w.heap.size, 0, none⟩) (Nat.lt_of_lt_of_le HZ.out hb3.size)).trans y0
         have u1 := (hb4.cell (p := ⟨w.heap.size, 1, none⟩) (Nat.lt_of_lt_of_le HZ.out hb3.size)).trans y1
         have u2 := (hb4.cell (p := ⟨w.heap.size, 2, none⟩) (Nat.lt_of_lt_of_le HZ.out hb3.size)).trans y2))
  have hb34 := HB0.out.trans ((hb3.trans (hb4.mono hb3.size)).mono HB0.out.size)
  clear hb3 hb4 hB3 q0 q1 q2 y0 y1 y2 u0 u1 u2 HB0 HZ HL H8
  go_wp2
  go_ret
  exact ⟨rfl, hb34⟩

set_option maxHeartbeats 1000000 in
theorem validOpen_any (op n : Int) (k : Fo) (A : Option Addr) (c : Nat) (w : World) (hl : Lies w 0 w.heap.size A 0 k) (hlen : k.len ≤ maxLen) :
    Calls Try.prog 48 #[.agg #[.int .i64 op, .int .i64 n, .slice A k.len c]] w (Gives (.bool (nodeIs op n k (firstS 8))) w) := by
  have hb0 : Below w.heap.size w ((w.alloc (Obj.cells #[Value.int IntKind.i64 op, Value.int IntKind.i64 n, Value.slice A k.len c] 34)).alloc (Obj.cells #[.bool false, .bool false, .bool false, .bool false, .bool false, .bool false, .bool false, .bool false] 76)) :=
    ((Below.refl _ _).alloc (Nat.le_refl _) _).alloc (by simp) _
  have hr0 := (Row.fresh w 34 #[Value.int IntKind.i64 op, Value.int IntKind.i64 n, Value.slice A k.len c]).alloc (Obj.cells #[.bool false, .bool false, .bool false, .bool false, .bool false, .bool false, .bool false, .bool false] 76)
  have hk0 : Row ((w.alloc (Obj.cells #[Value.int IntKind.i64 op, Value.int IntKind.i64 n, Value.slice A k.len c] 34)).alloc (Obj.cells #[.bool false, .bool false, .bool false, .bool false, .bool false, .bool false, .bool false, .bool false] 76)) (w.heap.size + 1) 76 (cells8 (firstS 0)) := by
    have := Row.fresh (w.alloc (Obj.cells #[Value.int IntKind.i64 op, Value.int IntKind.i64 n, Value.slice A k.len c] 34)) 76 (cells8 (firstS 0))
    rw [World.size_alloc] at this
    exact this
  go_enter Try.func48, Try.ntmps48
  go_wp2_with fail
  go_loopw [5] (fun i wr => ∃ (j : Nat), j ≤ 8 ∧ i = .int .i64 j ∧ Row wr (w.heap.size + 1) 76 (cells8 (firstS j)) ∧ Row wr w.heap.size 34 #[Value.int IntKind.i64 op, Value.int IntKind.i64 n, Value.slice A k.len c] ∧ Below w.heap.size w wr)
    (fun i _ => 8 - (intOf i).toNat)
  case atStart => exact ⟨0, by omega, rfl, hk0, hr0, hb0⟩
  case round =>
    clear hk0 hr0 hb0
    obtain ⟨j, hj, rfl, hrow, hrE, hb⟩ := hrel
    by_cases h8 : j < 8
    · have q0 := hrow.cell (cells8_at (firstS j) h8)
      have f0 := hrow.free j
      have hp := hrow.put j (.bool true)
      rw [cells8_set _ h8, cells8_congr (T := firstS (j + 1)) (fun i _ => by unfold firstS; rw [Bool.eq_iff_iff]; simp; omega)] at hp
      have HP := Lib.hid hp
      have HE := Lib.hid (hrE.apart (p := ⟨w.heap.size + 1, j, none⟩) (by simp) (.bool true))
      have HB := Lib.hid (hb.setCell (p := ⟨w.heap.size + 1, j, none⟩) (by simp) (.bool true))
      clear hp hrow hrE hb
      go_wp2
      go_roundw
      case rel => exact ⟨j + 1, h8, by go_num, HP.out, HE.out, HB.out⟩
      case measure => simp [intOf]; omega
    · have e9 : j = 8 := by omega
      subst e9
      have HC := Lib.hid (validWith_any op n k A c (firstS 8) wr (hl.up hb) hlen)
      generalize firstS 8 = S at *
      have q0 := hrE.cell (i := 0) rfl
      have q1 := hrE.cell (i := 1) rfl
      have q2 := hrE.cell (i := 2) rfl
      have a0 := hrow.cell (cells8_at S (show 0 < 8 by decide))
      have a1 := hrow.cell (cells8_at S (show 1 < 8 by decide))
      have a2 := hrow.cell (cells8_at S (show 2 < 8 by decide))
      have a3 := hrow.cell (cells8_at S (show 3 < 8 by decide))
      have a4 := hrow.cell (cells8_at S (show 4 < 8 by decide))
      have a5 := hrow.cell (cells8_at S (show 5 < 8 by decide))
      have a6 := hrow.cell (cells8_at S (show 6 < 8 by decide))
      have a7 := hrow.cell (cells8_at S (show 7 < 8 by decide))
      clear hl
      go_wp2_with fail
      refine HC.out.mono ?_
      rintro e w2 ⟨rfl, hb2⟩
      have hb3 := hb.trans (hb2.mono hb.size)
      clear hb2 hb HC q0 q1 q2 a0 a1 a2 a3 a4 a5 a6 a7
      go_wp2
      go_ret
      exact ⟨rfl, hb3⟩
end Go.Proofs.Ythimgboeankpcaa
