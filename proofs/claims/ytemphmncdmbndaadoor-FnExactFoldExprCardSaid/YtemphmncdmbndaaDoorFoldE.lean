/-
  impl.evaluate at the sum, or the comparison, of two numbers.
-/
import Derived.Test.YtemphmncdmbndaaDoorFoldD
import Derived.Deep.RegionHeld3
import Derived.BigRegion
namespace Go.Proofs.YtemphmncdmbndaaDoor
open Go.RowKit Go.Shelf
set_option maxRecDepth 100000

theorem makeMapF_run (W : World) : (Instr.makeMap 58 (some (.int .i64 8))).run Tryd.prog W = .ok (.map (some W.heap.size)) (W.alloc (.map #[] 0)) := by kernel_rfl
set_option maxHeartbeats 1000000 in
theorem defsNil_any (w : World) : Calls Tryd.prog 33 #[.slice none 0 0] w (fun e w' => ∃ r, e = .returned (.map (some r)) ∧ Below w.heap.size w w') := by
  have hmm := makeMapF_run
  have hb0 : Below w.heap.size w (w.alloc (Obj.map #[] 0)) := (Below.refl _ _).alloc (Nat.le_refl _) _
  go_enter Tryd.func33, Tryd.ntmps33
  go_wp2_with fail
  clear hmm
  go_loopw [11] (fun i wr => i = .int .i64 0 ∧ Below w.heap.size w wr)
    (fun i _ => 0)
  case atStart => exact ⟨rfl, hb0⟩
  case round =>
    clear hb0
    obtain ⟨rfl, hb⟩ := hrel
    have HB := Lib.hid hb
    clear hb
    go_wp2
    go_ret
    exact ⟨_, rfl, HB.out⟩

set_option maxHeartbeats 2000000 in
theorem valueNum_any (ev : Value) (m : Int) (A : Option Addr) (l c : Nat) (x0 x1 x2 x3 x4 x5 x6 x7 : Int) (w : World) :
    Calls Tryd.prog 34 #[ev, .agg #[.int .i64 1, .int .i64 m, .slice A l c], .agg #[.int .i64 x0, .int .i64 x1, .int .i64 x2, .int .i64 x3, .int .i64 x4, .int .i64 x5, .int .i64 x6, .int .i64 x7]] w (Gives (.tuple #[.int .i64 m, .nilIface]) w) := by
  obtain ⟨hb2, r1, r2⟩ := two_boxes w 28 53 #[Value.int .i64 1, Value.int .i64 m, Value.slice A l c] #[Value.int .i64 x0, Value.int .i64 x1, Value.int .i64 x2, Value.int .i64 x3, Value.int .i64 x4, Value.int .i64 x5, Value.int .i64 x6, Value.int .i64 x7]
  have q0 := r1.cell (i := 0) rfl
  have q1 := r1.cell (i := 1) rfl
  have HB := Lib.hid hb2
  clear hb2 r1 r2
  go_enter Tryd.func34, Tryd.ntmps34
  go_wp2
  refine bodyPost_ret (v := .tuple #[.int .i64 m, .nilIface]) ?_ rfl ⟨rfl, HB.out⟩
  simp [results, Tryd.f34, go_sem]

set_option maxHeartbeats 4000000 in
theorem pairAdd_any (ev : Value) (n ma mb : Int) (g : Nat) (c : Nat) (X X' : Option Addr) (la cx lb cx' : Nat) (x0 x1 x2 x3 x4 x5 x6 x7 : Int) (w : World) (g0 : w.cell? ⟨g, 0, none⟩ = some (.int .i64 1)) (g1 : w.cell? ⟨g, 1, none⟩ = some (.int .i64 ma)) (g2 : w.cell? ⟨g, 2, none⟩ = some (.slice X la cx)) (g3 : w.cell? ⟨g, 3, none⟩ = some (.int .i64 1)) (g4 : w.cell? ⟨g, 4, none⟩ = some (.int .i64 mb)) (g5 : w.cell? ⟨g, 5, none⟩ = some (.slice X' lb cx')) (ha : 0 ≤ ma ∧ ma ≤ 99) (hb9 : 0 ≤ mb ∧ mb ≤ 99) :
    Calls Tryd.prog 46 #[ev, .agg #[.int .i64 4, .int .i64 n, .slice (some ⟨g, 0, none⟩) 2 c], .agg #[.int .i64 x0, .int .i64 x1, .int .i64 x2, .int .i64 x3, .int .i64 x4, .int .i64 x5, .int .i64 x6, .int .i64 x7]] w (Gives (.tuple #[.int .i64 (foldV 4 ma mb), .nilIface]) w) := by
  have hg := World.block_lt_of_cell? _ _ g0
  obtain ⟨hb2, r1, r2⟩ := two_boxes w 28 53 #[Value.int .i64 4, Value.int .i64 n, Value.slice (some ⟨g, 0, none⟩) 2 c] #[Value.int .i64 x0, Value.int .i64 x1, Value.int .i64 x2, Value.int .i64 x3, Value.int .i64 x4, Value.int .i64 x5, Value.int .i64 x6, Value.int .i64 x7]
  obtain ⟨W, hW⟩ : ∃ W, W = (w.alloc (Obj.cells #[Value.int .i64 4, Value.int .i64 n, Value.slice (some ⟨g, 0, none⟩) 2 c] 28)).alloc (Obj.cells #[Value.int .i64 x0, Value.int .i64 x1, Value.int .i64 x2, Value.int .i64 x3, Value.int .i64 x4, Value.int .i64 x5, Value.int .i64 x6, Value.int .i64 x7] 53) := ⟨_, rfl⟩
  rw [← hW] at hb2 r1 r2
  have HB0 := Lib.hid hb2
  have HS := Lib.hid (show ∀ w' : World, Below W.heap.size W w' → w'.cell? ⟨w.heap.size, 0, none⟩ = some (Value.int .i64 4) ∧ w'.cell? ⟨w.heap.size, 2, none⟩ = some (Value.slice (some ⟨g, 0, none⟩) 2 c) ∧ w'.cell? ⟨w.heap.size + 1, 0, none⟩ = some (Value.int .i64 x0) ∧ w'.cell? ⟨w.heap.size + 1, 1, none⟩ = some (Value.int .i64 x1) ∧ w'.cell? ⟨w.heap.size + 1, 2, none⟩ = some (Value.int .i64 x2) ∧ w'.cell? ⟨w.heap.size + 1, 3, none⟩ = some (Value.int .i64 x3) ∧ w'.cell? ⟨w.heap.size + 1, 4, none⟩ = some (Value.int .i64 x4) ∧ w'.cell? ⟨w.heap.size + 1, 5, none⟩ = some (Value.int .i64 x5) ∧ w'.cell? ⟨w.heap.size + 1, 6, none⟩ = some (Value.int .i64 x6) ∧ w'.cell? ⟨w.heap.size + 1, 7, none⟩ = some (Value.int .i64 x7) ∧ w'.cell? ⟨g, 0, none⟩ = some (Value.int .i64 1) ∧ w'.cell? ⟨g, 1, none⟩ = some (Value.int .i64 ma) ∧ w'.cell? ⟨g, 2, none⟩ = some (Value.slice X la cx) ∧ w'.cell? ⟨g, 3, none⟩ = some (Value.int .i64 1) ∧ w'.cell? ⟨g, 4, none⟩ = some (Value.int .i64 mb) ∧ w'.cell? ⟨g, 5, none⟩ = some (Value.slice X' lb cx') from fun w' h => by
    have hr0 := r1.below h r1.size
    have hr1 := r2.below h r2.size
    have hb := hb2.trans (h.mono hb2.size)
    have hgs := hg
    exact ⟨hr0.cell (i := 0) rfl, hr0.cell (i := 2) rfl, hr1.cell (i := 0) rfl, hr1.cell (i := 1) rfl, hr1.cell (i := 2) rfl, hr1.cell (i := 3) rfl, hr1.cell (i := 4) rfl, hr1.cell (i := 5) rfl, hr1.cell (i := 6) rfl, hr1.cell (i := 7) rfl, (hb.cell (p := ⟨g, 0, none⟩) hgs).trans g0, (hb.cell (p := ⟨g, 1, none⟩) hgs).trans g1, (hb.cell (p := ⟨g, 2, none⟩) hgs).trans g2, (hb.cell (p := ⟨g, 3, none⟩) hgs).trans g3, (hb.cell (p := ⟨g, 4, none⟩) hgs).trans g4, (hb.cell (p := ⟨g, 5, none⟩) hgs).trans g5⟩)
  have HA := Lib.hid (fun w' : World => valueNum_any ev ma X la cx x0 x1 x2 x3 x4 x5 x6 x7 w')
  have HC := Lib.hid (fun w' : World => valueNum_any ev mb X' lb cx' x0 x1 x2 x3 x4 x5 x6 x7 w')
  have HW1 := Lib.hid (show IntKind.i64.wrap (ma + mb) = ma + mb by rw [IntKind.wrap_i64] <;> omega)
  have HW2 := Lib.hid (show Int.tmod (ma + mb) 100 = (ma + mb) % 100 by rw [Int.tmod_eq_emod_of_nonneg]; omega)
  have HB5z := Lib.hid (show Below W.heap.size W W.drew from (Below.refl _ _).drew)
  have s0 := HS.out _ HB5z.out
  clear hb2 r1 r2 g0 g1 g2 g3 g4 g5 hg
  go_enter Tryd.func46, Tryd.ntmps46
  go_upto_region 1 with fail
  rw [← hW]
  clear hW
  go_wp2_with fail
  go_region_held3 (fun w' => w'.cell? ⟨w.heap.size, 0, none⟩ = some (Value.int .i64 4) ∧ w'.cell? ⟨w.heap.size, 2, none⟩ = some (Value.slice (some ⟨g, 0, none⟩) 2 c) ∧ w'.cell? ⟨w.heap.size + 1, 0, none⟩ = some (Value.int .i64 x0) ∧ w'.cell? ⟨w.heap.size + 1, 1, none⟩ = some (Value.int .i64 x1) ∧ w'.cell? ⟨w.heap.size + 1, 2, none⟩ = some (Value.int .i64 x2) ∧ w'.cell? ⟨w.heap.size + 1, 3, none⟩ = some (Value.int .i64 x3) ∧ w'.cell? ⟨w.heap.size + 1, 4, none⟩ = some (Value.int .i64 x4) ∧ w'.cell? ⟨w.heap.size + 1, 5, none⟩ = some (Value.int .i64 x5) ∧ w'.cell? ⟨w.heap.size + 1, 6, none⟩ = some (Value.int .i64 x6) ∧ w'.cell? ⟨w.heap.size + 1, 7, none⟩ = some (Value.int .i64 x7) ∧ w'.cell? ⟨g, 0, none⟩ = some (Value.int .i64 1) ∧ w'.cell? ⟨g, 1, none⟩ = some (Value.int .i64 ma) ∧ w'.cell? ⟨g, 2, none⟩ = some (Value.slice X la cx) ∧ w'.cell? ⟨g, 3, none⟩ = some (Value.int .i64 1) ∧ w'.cell? ⟨g, 4, none⟩ = some (Value.int .i64 mb) ∧ w'.cell? ⟨g, 5, none⟩ = some (Value.slice X' lb cx'))
    (first | with_reducible exact s0 | with_reducible exact s5 | with_reducible exact s6 | fail)
    (first
      | (go_at_call 34
         with_reducible refine (HA.out _).mono ?_
         rintro e w5 ⟨rfl, hbw5⟩
         have HB5 := Lib.hid (HB5z.out.trans (hbw5.mono HB5z.out.size))
         have s5 := HS.out _ HB5.out
         clear hbw5)
      | fail)
  all_goals
    clear s0
    have HB5d := Lib.hid HB5.out.drew
    obtain ⟨v0, v1, v2, v3, v4, v5, v6, v7, v8, v9, v10, v11, v12, v13, v14, v15⟩ := HS.out _ HB5.out
    go_upto_region 6 with fail
    clear v0 v1 v2 v3 v4 v5 v6 v7 v8 v9 v10 v11 v12 v13 v14 v15 s5
    have s0 := HS.out _ HB5d.out
    go_wp2_with fail
    go_region_held3 (fun w' => w'.cell? ⟨w.heap.size, 0, none⟩ = some (Value.int .i64 4) ∧ w'.cell? ⟨w.heap.size, 2, none⟩ = some (Value.slice (some ⟨g, 0, none⟩) 2 c) ∧ w'.cell? ⟨w.heap.size + 1, 0, none⟩ = some (Value.int .i64 x0) ∧ w'.cell? ⟨w.heap.size + 1, 1, none⟩ = some (Value.int .i64 x1) ∧ w'.cell? ⟨w.heap.size + 1, 2, none⟩ = some (Value.int .i64 x2) ∧ w'.cell? ⟨w.heap.size + 1, 3, none⟩ = some (Value.int .i64 x3) ∧ w'.cell? ⟨w.heap.size + 1, 4, none⟩ = some (Value.int .i64 x4) ∧ w'.cell? ⟨w.heap.size + 1, 5, none⟩ = some (Value.int .i64 x5) ∧ w'.cell? ⟨w.heap.size + 1, 6, none⟩ = some (Value.int .i64 x6) ∧ w'.cell? ⟨w.heap.size + 1, 7, none⟩ = some (Value.int .i64 x7) ∧ w'.cell? ⟨g, 0, none⟩ = some (Value.int .i64 1) ∧ w'.cell? ⟨g, 1, none⟩ = some (Value.int .i64 ma) ∧ w'.cell? ⟨g, 2, none⟩ = some (Value.slice X la cx) ∧ w'.cell? ⟨g, 3, none⟩ = some (Value.int .i64 1) ∧ w'.cell? ⟨g, 4, none⟩ = some (Value.int .i64 mb) ∧ w'.cell? ⟨g, 5, none⟩ = some (Value.slice X' lb cx'))
      (first | with_reducible exact s0 | with_reducible exact s5 | with_reducible exact s6 | fail)
      (first
        | (go_at_call 34
           with_reducible refine (HC.out _).mono ?_
           rintro e w6 ⟨rfl, hbw6⟩
           have HB6 := Lib.hid (HB5d.out.trans (hbw6.mono HB5d.out.size))
           have s6 := HS.out _ HB6.out
           clear hbw6)
        | fail)
    all_goals
      clear s0
      clear s6
      obtain ⟨v0, v1, v2, v3, v4, v5, v6, v7, v8, v9, v10, v11, v12, v13, v14, v15⟩ := HS.out _ HB6.out
      have hw1 := HW1.out
      have hw2 := HW2.out
      have HV := Lib.hid (show foldV 4 ma mb = (ma + mb) % 100 from rfl)
      rw [HV.out]
      go_wp2
      refine bodyPost_ret (v := .tuple #[.int .i64 ((ma + mb) % 100), .nilIface]) ?_ rfl ⟨rfl, HB0.out.trans (HB6.out.mono HB0.out.size)⟩
      simp [results, Tryd.f46, go_sem]

set_option maxHeartbeats 4000000 in
theorem pairLess_any (ev : Value) (n ma mb : Int) (g : Nat) (c : Nat) (X X' : Option Addr) (la cx lb cx' : Nat) (x0 x1 x2 x3 x4 x5 x6 x7 : Int) (w : World) (g0 : w.cell? ⟨g, 0, none⟩ = some (.int .i64 1)) (g1 : w.cell? ⟨g, 1, none⟩ = some (.int .i64 ma)) (g2 : w.cell? ⟨g, 2, none⟩ = some (.slice X la cx)) (g3 : w.cell? ⟨g, 3, none⟩ = some (.int .i64 1)) (g4 : w.cell? ⟨g, 4, none⟩ = some (.int .i64 mb)) (g5 : w.cell? ⟨g, 5, none⟩ = some (.slice X' lb cx')) (ha : 0 ≤ ma ∧ ma ≤ 99) (hb9 : 0 ≤ mb ∧ mb ≤ 99) :
    Calls Tryd.prog 46 #[ev, .agg #[.int .i64 5, .int .i64 n, .slice (some ⟨g, 0, none⟩) 2 c], .agg #[.int .i64 x0, .int .i64 x1, .int .i64 x2, .int .i64 x3, .int .i64 x4, .int .i64 x5, .int .i64 x6, .int .i64 x7]] w (Gives (.tuple #[.int .i64 (foldV 5 ma mb), .nilIface]) w) := by
  have hg := World.block_lt_of_cell? _ _ g0
  obtain ⟨hb2, r1, r2⟩ := two_boxes w 28 53 #[Value.int .i64 5, Value.int .i64 n, Value.slice (some ⟨g, 0, none⟩) 2 c] #[Value.int .i64 x0, Value.int .i64 x1, Value.int .i64 x2, Value.int .i64 x3, Value.int .i64 x4, Value.int .i64 x5, Value.int .i64 x6, Value.int .i64 x7]
  obtain ⟨W, hW⟩ : ∃ W, W = (w.alloc (Obj.cells #[Value.int .i64 5, Value.int .i64 n, Value.slice (some ⟨g, 0, none⟩) 2 c] 28)).alloc (Obj.cells #[Value.int .i64 x0, Value.int .i64 x1, Value.int .i64 x2, Value.int .i64 x3, Value.int .i64 x4, Value.int .i64 x5, Value.int .i64 x6, Value.int .i64 x7] 53) := ⟨_, rfl⟩
  rw [← hW] at hb2 r1 r2
  have HB0 := Lib.hid hb2
  have HS := Lib.hid (show ∀ w' : World, Below W.heap.size W w' → w'.cell? ⟨w.heap.size, 0, none⟩ = some (Value.int .i64 5) ∧ w'.cell? ⟨w.heap.size, 2, none⟩ = some (Value.slice (some ⟨g, 0, none⟩) 2 c) ∧ w'.cell? ⟨w.heap.size + 1, 0, none⟩ = some (Value.int .i64 x0) ∧ w'.cell? ⟨w.heap.size + 1, 1, none⟩ = some (Value.int .i64 x1) ∧ w'.cell? ⟨w.heap.size + 1, 2, none⟩ = some (Value.int .i64 x2) ∧ w'.cell? ⟨w.heap.size + 1, 3, none⟩ = some (Value.int .i64 x3) ∧ w'.cell? ⟨w.heap.size + 1, 4, none⟩ = some (Value.int .i64 x4) ∧ w'.cell? ⟨w.heap.size + 1, 5, none⟩ = some (Value.int .i64 x5) ∧ w'.cell? ⟨w.heap.size + 1, 6, none⟩ = some (Value.int .i64 x6) ∧ w'.cell? ⟨w.heap.size + 1, 7, none⟩ = some (Value.int .i64 x7) ∧ w'.cell? ⟨g, 0, none⟩ = some (Value.int .i64 1) ∧ w'.cell? ⟨g, 1, none⟩ = some (Value.int .i64 ma) ∧ w'.cell? ⟨g, 2, none⟩ = some (Value.slice X la cx) ∧ w'.cell? ⟨g, 3, none⟩ = some (Value.int .i64 1) ∧ w'.cell? ⟨g, 4, none⟩ = some (Value.int .i64 mb) ∧ w'.cell? ⟨g, 5, none⟩ = some (Value.slice X' lb cx') from fun w' h => by
    have hr0 := r1.below h r1.size
    have hr1 := r2.below h r2.size
    have hb := hb2.trans (h.mono hb2.size)
    have hgs := hg
    exact ⟨hr0.cell (i := 0) rfl, hr0.cell (i := 2) rfl, hr1.cell (i := 0) rfl, hr1.cell (i := 1) rfl, hr1.cell (i := 2) rfl, hr1.cell (i := 3) rfl, hr1.cell (i := 4) rfl, hr1.cell (i := 5) rfl, hr1.cell (i := 6) rfl, hr1.cell (i := 7) rfl, (hb.cell (p := ⟨g, 0, none⟩) hgs).trans g0, (hb.cell (p := ⟨g, 1, none⟩) hgs).trans g1, (hb.cell (p := ⟨g, 2, none⟩) hgs).trans g2, (hb.cell (p := ⟨g, 3, none⟩) hgs).trans g3, (hb.cell (p := ⟨g, 4, none⟩) hgs).trans g4, (hb.cell (p := ⟨g, 5, none⟩) hgs).trans g5⟩)
  have HA := Lib.hid (fun w' : World => valueNum_any ev ma X la cx x0 x1 x2 x3 x4 x5 x6 x7 w')
  have HC := Lib.hid (fun w' : World => valueNum_any ev mb X' lb cx' x0 x1 x2 x3 x4 x5 x6 x7 w')
  have HW1 := Lib.hid (show IntKind.i64.wrap (ma + mb) = ma + mb by rw [IntKind.wrap_i64] <;> omega)
  have HW2 := Lib.hid (show Int.tmod (ma + mb) 100 = (ma + mb) % 100 by rw [Int.tmod_eq_emod_of_nonneg]; omega)
  have HB5z := Lib.hid (show Below W.heap.size W W.drew from (Below.refl _ _).drew)
  have s0 := HS.out _ HB5z.out
  clear hb2 r1 r2 g0 g1 g2 g3 g4 g5 hg
  go_enter Tryd.func46, Tryd.ntmps46
  go_upto_region 1 with fail
  rw [← hW]
  clear hW
  go_wp2_with fail
  go_region_held3 (fun w' => w'.cell? ⟨w.heap.size, 0, none⟩ = some (Value.int .i64 5) ∧ w'.cell? ⟨w.heap.size, 2, none⟩ = some (Value.slice (some ⟨g, 0, none⟩) 2 c) ∧ w'.cell? ⟨w.heap.size + 1, 0, none⟩ = some (Value.int .i64 x0) ∧ w'.cell? ⟨w.heap.size + 1, 1, none⟩ = some (Value.int .i64 x1) ∧ w'.cell? ⟨w.heap.size + 1, 2, none⟩ = some (Value.int .i64 x2) ∧ w'.cell? ⟨w.heap.size + 1, 3, none⟩ = some (Value.int .i64 x3) ∧ w'.cell? ⟨w.heap.size + 1, 4, none⟩ = some (Value.int .i64 x4) ∧ w'.cell? ⟨w.heap.size + 1, 5, none⟩ = some (Value.int .i64 x5) ∧ w'.cell? ⟨w.heap.size + 1, 6, none⟩ = some (Value.int .i64 x6) ∧ w'.cell? ⟨w.heap.size + 1, 7, none⟩ = some (Value.int .i64 x7) ∧ w'.cell? ⟨g, 0, none⟩ = some (Value.int .i64 1) ∧ w'.cell? ⟨g, 1, none⟩ = some (Value.int .i64 ma) ∧ w'.cell? ⟨g, 2, none⟩ = some (Value.slice X la cx) ∧ w'.cell? ⟨g, 3, none⟩ = some (Value.int .i64 1) ∧ w'.cell? ⟨g, 4, none⟩ = some (Value.int .i64 mb) ∧ w'.cell? ⟨g, 5, none⟩ = some (Value.slice X' lb cx'))
    (first | with_reducible exact s0 | with_reducible exact s5 | with_reducible exact s6 | fail)
    (first
      | (go_at_call 34
         with_reducible refine (HA.out _).mono ?_
         rintro e w5 ⟨rfl, hbw5⟩
         have HB5 := Lib.hid (HB5z.out.trans (hbw5.mono HB5z.out.size))
         have s5 := HS.out _ HB5.out
         clear hbw5)
      | fail)
  all_goals
    clear s0
    have HB5d := Lib.hid HB5.out.drew
    obtain ⟨v0, v1, v2, v3, v4, v5, v6, v7, v8, v9, v10, v11, v12, v13, v14, v15⟩ := HS.out _ HB5.out
    go_upto_region 6 with fail
    clear v0 v1 v2 v3 v4 v5 v6 v7 v8 v9 v10 v11 v12 v13 v14 v15 s5
    have s0 := HS.out _ HB5d.out
    go_wp2_with fail
    go_region_held3 (fun w' => w'.cell? ⟨w.heap.size, 0, none⟩ = some (Value.int .i64 5) ∧ w'.cell? ⟨w.heap.size, 2, none⟩ = some (Value.slice (some ⟨g, 0, none⟩) 2 c) ∧ w'.cell? ⟨w.heap.size + 1, 0, none⟩ = some (Value.int .i64 x0) ∧ w'.cell? ⟨w.heap.size + 1, 1, none⟩ = some (Value.int .i64 x1) ∧ w'.cell? ⟨w.heap.size + 1, 2, none⟩ = some (Value.int .i64 x2) ∧ w'.cell? ⟨w.heap.size + 1, 3, none⟩ = some (Value.int .i64 x3) ∧ w'.cell? ⟨w.heap.size + 1, 4, none⟩ = some (Value.int .i64 x4) ∧ w'.cell? ⟨w.heap.size + 1, 5, none⟩ = some (Value.int .i64 x5) ∧ w'.cell? ⟨w.heap.size + 1, 6, none⟩ = some (Value.int .i64 x6) ∧ w'.cell? ⟨w.heap.size + 1, 7, none⟩ = some (Value.int .i64 x7) ∧ w'.cell? ⟨g, 0, none⟩ = some (Value.int .i64 1) ∧ w'.cell? ⟨g, 1, none⟩ = some (Value.int .i64 ma) ∧ w'.cell? ⟨g, 2, none⟩ = some (Value.slice X la cx) ∧ w'.cell? ⟨g, 3, none⟩ = some (Value.int .i64 1) ∧ w'.cell? ⟨g, 4, none⟩ = some (Value.int .i64 mb) ∧ w'.cell? ⟨g, 5, none⟩ = some (Value.slice X' lb cx'))
      (first | with_reducible exact s0 | with_reducible exact s5 | with_reducible exact s6 | fail)
      (first
        | (go_at_call 34
           with_reducible refine (HC.out _).mono ?_
           rintro e w6 ⟨rfl, hbw6⟩
           have HB6 := Lib.hid (HB5d.out.trans (hbw6.mono HB5d.out.size))
           have s6 := HS.out _ HB6.out
           clear hbw6)
        | fail)
    all_goals
      clear s0
      clear s6
      obtain ⟨v0, v1, v2, v3, v4, v5, v6, v7, v8, v9, v10, v11, v12, v13, v14, v15⟩ := HS.out _ HB6.out
      by_cases hlt : ma < mb
      · have HV := Lib.hid (show foldV 5 ma mb = 1 by simp [foldV, hlt])
        have hl2 : decide (ma < mb) = true := by simp [hlt]
        go_wp2
        refine bodyPost_ret (v := .tuple #[.int .i64 1, .nilIface]) ?_ rfl (by rw [HV.out]; exact ⟨rfl, HB0.out.trans (HB6.out.mono HB0.out.size)⟩)
        simp [results, Tryd.f46, go_sem]
      · have HV := Lib.hid (show foldV 5 ma mb = 0 by simp [foldV, hlt])
        have hl2 : decide (ma < mb) = false := by simp [hlt]
        go_wp2
        refine bodyPost_ret (v := .tuple #[.int .i64 0, .nilIface]) ?_ rfl (by rw [HV.out]; exact ⟨rfl, HB0.out.trans (HB6.out.mono HB0.out.size)⟩)
        simp [results, Tryd.f46, go_sem]

set_option maxHeartbeats 4000000 in
theorem valueAdd_any (ev : Value) (n ma mb : Int) (g : Nat) (c : Nat) (X X' : Option Addr) (la cx lb cx' : Nat) (x0 x1 x2 x3 x4 x5 x6 x7 : Int) (w : World) (g0 : w.cell? ⟨g, 0, none⟩ = some (.int .i64 1)) (g1 : w.cell? ⟨g, 1, none⟩ = some (.int .i64 ma)) (g2 : w.cell? ⟨g, 2, none⟩ = some (.slice X la cx)) (g3 : w.cell? ⟨g, 3, none⟩ = some (.int .i64 1)) (g4 : w.cell? ⟨g, 4, none⟩ = some (.int .i64 mb)) (g5 : w.cell? ⟨g, 5, none⟩ = some (.slice X' lb cx')) (ha : 0 ≤ ma ∧ ma ≤ 99) (hb9 : 0 ≤ mb ∧ mb ≤ 99) :
    Calls Tryd.prog 34 #[ev, .agg #[.int .i64 4, .int .i64 n, .slice (some ⟨g, 0, none⟩) 2 c], .agg #[.int .i64 x0, .int .i64 x1, .int .i64 x2, .int .i64 x3, .int .i64 x4, .int .i64 x5, .int .i64 x6, .int .i64 x7]] w (Gives (.tuple #[.int .i64 (foldV 4 ma mb), .nilIface]) w) := by
  have hg := World.block_lt_of_cell? _ _ g0
  obtain ⟨hb2, r1, r2⟩ := two_boxes w 28 53 #[Value.int .i64 4, Value.int .i64 n, Value.slice (some ⟨g, 0, none⟩) 2 c] #[Value.int .i64 x0, Value.int .i64 x1, Value.int .i64 x2, Value.int .i64 x3, Value.int .i64 x4, Value.int .i64 x5, Value.int .i64 x6, Value.int .i64 x7]
  obtain ⟨W, hW⟩ : ∃ W, W = (w.alloc (Obj.cells #[Value.int .i64 4, Value.int .i64 n, Value.slice (some ⟨g, 0, none⟩) 2 c] 28)).alloc (Obj.cells #[Value.int .i64 x0, Value.int .i64 x1, Value.int .i64 x2, Value.int .i64 x3, Value.int .i64 x4, Value.int .i64 x5, Value.int .i64 x6, Value.int .i64 x7] 53) := ⟨_, rfl⟩
  rw [← hW] at hb2 r1 r2
  have HB0 := Lib.hid hb2
  have HP := Lib.hid (pairAdd_any ev n ma mb g c X X' la cx lb cx' x0 x1 x2 x3 x4 x5 x6 x7 W ((hb2.cell (p := ⟨g, 0, none⟩) hg).trans g0) ((hb2.cell (p := ⟨g, 1, none⟩) hg).trans g1) ((hb2.cell (p := ⟨g, 2, none⟩) hg).trans g2) ((hb2.cell (p := ⟨g, 3, none⟩) hg).trans g3) ((hb2.cell (p := ⟨g, 4, none⟩) hg).trans g4) ((hb2.cell (p := ⟨g, 5, none⟩) hg).trans g5) ha hb9)
  obtain ⟨v, hv⟩ : ∃ v, v = foldV 4 ma mb := ⟨_, rfl⟩
  rw [← hv] at HP ⊢
  have q0 := r1.cell (i := 0) rfl
  have q1 := r1.cell (i := 1) rfl
  have q2 := r1.cell (i := 2) rfl
  have e0 := r2.cell (i := 0) rfl
  have e1 := r2.cell (i := 1) rfl
  have e2 := r2.cell (i := 2) rfl
  have e3 := r2.cell (i := 3) rfl
  have e4 := r2.cell (i := 4) rfl
  have e5 := r2.cell (i := 5) rfl
  have e6 := r2.cell (i := 6) rfl
  have e7 := r2.cell (i := 7) rfl
  clear hb2 r1 r2 g0 g1 g2 g3 g4 g5 hg hv ha hb9
  go_enter Tryd.func34, Tryd.ntmps34
  go_upto_region 1 with fail
  rw [← hW]
  clear hW
  go_wp2_with fail
  refine HP.out.mono ?_
  rintro e w5 ⟨rfl, hb5⟩
  have HB5 := Lib.hid (HB0.out.trans (hb5.mono HB0.out.size))
  clear hb5 HP HB0 q0 q1 q2 e0 e1 e2 e3 e4 e5 e6 e7
  go_wp2
  refine bodyPost_ret (v := .tuple #[.int .i64 v, .nilIface]) ?_ rfl ⟨rfl, HB5.out⟩
  simp [results, Tryd.f34, go_sem]

set_option maxHeartbeats 4000000 in
theorem evalAdd_any (n ma mb : Int) (g : Nat) (c : Nat) (X X' : Option Addr) (la cx lb cx' : Nat) (w : World) (g0 : w.cell? ⟨g, 0, none⟩ = some (.int .i64 1)) (g1 : w.cell? ⟨g, 1, none⟩ = some (.int .i64 ma)) (g2 : w.cell? ⟨g, 2, none⟩ = some (.slice X la cx)) (g3 : w.cell? ⟨g, 3, none⟩ = some (.int .i64 1)) (g4 : w.cell? ⟨g, 4, none⟩ = some (.int .i64 mb)) (g5 : w.cell? ⟨g, 5, none⟩ = some (.slice X' lb cx')) (ha : 0 ≤ ma ∧ ma ≤ 99) (hb9 : 0 ≤ mb ∧ mb ≤ 99) :
    Calls Tryd.prog 25 #[.slice none 0 0, .agg #[.int .i64 4, .int .i64 n, .slice (some ⟨g, 0, none⟩) 2 c], .agg #[.int .i64 0, .int .i64 0, .int .i64 0, .int .i64 0, .int .i64 0, .int .i64 0, .int .i64 0, .int .i64 0], .int .i64 0] w (Gives (.agg #[.int .i64 0, .int .i64 (foldV 4 ma mb), .slice none 0 0, .slice none 0 0]) w) := by
  have hg := World.block_lt_of_cell? _ _ g0
  obtain ⟨W, hW⟩ : ∃ W, W = (((((((w.alloc (Obj.cells #[Value.int .i64 4, Value.int .i64 n, Value.slice (some ⟨g, 0, none⟩) 2 c] 28))).alloc (Obj.cells #[Value.int .i64 0, Value.int .i64 0, Value.int .i64 0, Value.int .i64 0, Value.int .i64 0, Value.int .i64 0, Value.int .i64 0, Value.int .i64 0] 53))).alloc (Obj.cells #[Value.int .i64 0, Value.int .i64 0, Value.slice none 0 0, Value.slice none 0 0] 50))).alloc (Obj.cells #[Value.slice none 0 0, Value.slice none 0 0] 57)) := ⟨_, rfl⟩
  have hb : Below w.heap.size w W := by rw [hW]; exact ((((Below.refl _ _).alloc (Nat.le_refl _) _).alloc (by simp) _).alloc (by simp; omega) _).alloc (by simp; omega) _
  have r0 : Row W (w.heap.size) 28 #[Value.int .i64 4, Value.int .i64 n, Value.slice (some ⟨g, 0, none⟩) 2 c] := by
    rw [hW]
    have := Row.fresh w 28 #[Value.int .i64 4, Value.int .i64 n, Value.slice (some ⟨g, 0, none⟩) 2 c]
    exact (((this).alloc _).alloc _).alloc _
  have r1 : Row W (w.heap.size + 1) 53 #[Value.int .i64 0, Value.int .i64 0, Value.int .i64 0, Value.int .i64 0, Value.int .i64 0, Value.int .i64 0, Value.int .i64 0, Value.int .i64 0] := by
    rw [hW]
    have := Row.fresh (w.alloc (Obj.cells #[Value.int .i64 4, Value.int .i64 n, Value.slice (some ⟨g, 0, none⟩) 2 c] 28)) 53 #[Value.int .i64 0, Value.int .i64 0, Value.int .i64 0, Value.int .i64 0, Value.int .i64 0, Value.int .i64 0, Value.int .i64 0, Value.int .i64 0]
    simp only [World.size_alloc] at this
    exact ((this).alloc _).alloc _
  have r2 : Row W (w.heap.size + 1 + 1) 50 #[Value.int .i64 0, Value.int .i64 0, Value.slice none 0 0, Value.slice none 0 0] := by
    rw [hW]
    have := Row.fresh (((w.alloc (Obj.cells #[Value.int .i64 4, Value.int .i64 n, Value.slice (some ⟨g, 0, none⟩) 2 c] 28))).alloc (Obj.cells #[Value.int .i64 0, Value.int .i64 0, Value.int .i64 0, Value.int .i64 0, Value.int .i64 0, Value.int .i64 0, Value.int .i64 0, Value.int .i64 0] 53)) 50 #[Value.int .i64 0, Value.int .i64 0, Value.slice none 0 0, Value.slice none 0 0]
    simp only [World.size_alloc] at this
    exact (this).alloc _
  have r3 : Row W (w.heap.size + 1 + 1 + 1) 57 #[Value.slice none 0 0, Value.slice none 0 0] := by
    rw [hW]
    have := Row.fresh (((((w.alloc (Obj.cells #[Value.int .i64 4, Value.int .i64 n, Value.slice (some ⟨g, 0, none⟩) 2 c] 28))).alloc (Obj.cells #[Value.int .i64 0, Value.int .i64 0, Value.int .i64 0, Value.int .i64 0, Value.int .i64 0, Value.int .i64 0, Value.int .i64 0, Value.int .i64 0] 53))).alloc (Obj.cells #[Value.int .i64 0, Value.int .i64 0, Value.slice none 0 0, Value.slice none 0 0] 50)) 57 #[Value.slice none 0 0, Value.slice none 0 0]
    simp only [World.size_alloc] at this
    exact this
  have HB0 := Lib.hid hb
  have HR0 := Lib.hid r0
  have HR1 := Lib.hid r1
  have HR2 := Lib.hid r2
  have HR3 := Lib.hid r3
  obtain ⟨v, hv⟩ : ∃ v, v = foldV 4 ma mb := ⟨_, rfl⟩
  have HVA := Lib.hid (show ∀ (ev : Value) (w' : World), Below w.heap.size w w' → Calls Tryd.prog 34 #[ev, .agg #[.int .i64 4, .int .i64 n, .slice (some ⟨g, 0, none⟩) 2 c], .agg #[.int .i64 0, .int .i64 0, .int .i64 0, .int .i64 0, .int .i64 0, .int .i64 0, .int .i64 0, .int .i64 0]] w' (Gives (.tuple #[.int .i64 v, .nilIface]) w') from fun ev w' h => by
    rw [hv]
    exact valueAdd_any ev n ma mb g c X X' la cx lb cx' 0 0 0 0 0 0 0 0 w' ((h.cell (p := ⟨g, 0, none⟩) hg).trans g0) ((h.cell (p := ⟨g, 1, none⟩) hg).trans g1) ((h.cell (p := ⟨g, 2, none⟩) hg).trans g2) ((h.cell (p := ⟨g, 3, none⟩) hg).trans g3) ((h.cell (p := ⟨g, 4, none⟩) hg).trans g4) ((h.cell (p := ⟨g, 5, none⟩) hg).trans g5) ha hb9)
  rw [← hv]
  have HDN := Lib.hid (defsNil_any W)
  clear hb r0 r1 r2 r3 g0 g1 g2 g3 g4 g5 hg hv ha hb9
  go_enter Tryd.func25, Tryd.ntmps25
  go_upto_region 2 with fail
  rw [← hW]
  clear hW
  go_wp2_with fail
  refine HDN.out.mono ?_
  rintro e w1 ⟨r, rfl, hb1⟩
  go_upto_region 3 with fail
  obtain ⟨w2, hw2⟩ : ∃ w2, w2 = w1.alloc (Obj.cells #[Value.map (some r), Value.int .i64 0, Value.int .i64 0, Value.iface 60 (.pointer (some ⟨w.heap.size + 1 + 1 + 1, 0, none⟩))] 64) := ⟨_, rfl⟩
  rw [← hw2]
  have hb2 : Below W.heap.size W w2 := by rw [hw2]; exact hb1.alloc hb1.size _
  have HB2 := Lib.hid (HB0.out.trans (hb2.mono HB0.out.size))
  have HX0 := Lib.hid (HR0.out.below hb2 HR0.out.size)
  have HX1 := Lib.hid (HR1.out.below hb2 HR1.out.size)
  have HX2 := Lib.hid (HR2.out.below hb2 HR2.out.size)
  have HX3 := Lib.hid (HR3.out.below hb2 HR3.out.size)
  have q0 := HX0.out.cell (i := 0) rfl
  have q1 := HX0.out.cell (i := 1) rfl
  have q2 := HX0.out.cell (i := 2) rfl
  have e0 := HX1.out.cell (i := 0) rfl
  have e1 := HX1.out.cell (i := 1) rfl
  have e2 := HX1.out.cell (i := 2) rfl
  have e3 := HX1.out.cell (i := 3) rfl
  have e4 := HX1.out.cell (i := 4) rfl
  have e5 := HX1.out.cell (i := 5) rfl
  have e6 := HX1.out.cell (i := 6) rfl
  have e7 := HX1.out.cell (i := 7) rfl
  clear hb1 hb2 hw2 HB0 HR0 HR1 HR2 HR3 HDN
  go_wp2_with fail
  refine (HVA.out _ _ HB2.out).mono ?_
  rintro e w3 ⟨rfl, hb3⟩
  have HY2 := Lib.hid (HX2.out.below hb3 HX2.out.size)
  have HB3 := Lib.hid (HB2.out.trans (hb3.mono HB2.out.size))
  have u0 := (HX3.out.below hb3 HX3.out.size).cell (i := 0) rfl
  have u1 := (HX3.out.below hb3 HX3.out.size).cell (i := 1) rfl
  clear hb3 q0 q1 q2 e0 e1 e2 e3 e4 e5 e6 e7 HX0 HX1 HX2 HX3 HVA HB2
  go_upto_region 5 with fail
  obtain ⟨w4, hw4⟩ : ∃ w4, w4 = w3.alloc (Obj.cells #[Value.int .i64 0, Value.int .i64 v, Value.slice none 0 0, Value.slice none 0 0] 50) := ⟨_, rfl⟩
  rw [← hw4]
  have hb4 : Below w3.heap.size w3 w4 := by rw [hw4]; exact (Below.refl _ _).alloc (Nat.le_refl _) _
  have hrn : Row w4 w3.heap.size 50 #[Value.int .i64 0, Value.int .i64 v, Value.slice none 0 0, Value.slice none 0 0] := by rw [hw4]; exact Row.fresh _ _ _
  have HB4 := Lib.hid (HB3.out.trans (hb4.mono HB3.out.size))
  have HZ2 := Lib.hid (HY2.out.below hb4 HY2.out.size)
  have n0 := hrn.cell (i := 0) rfl
  have n1 := hrn.cell (i := 1) rfl
  have n2 := hrn.cell (i := 2) rfl
  have n3 := hrn.cell (i := 3) rfl
  have c0 := HZ2.out.cell (i := 0) rfl
  have c1 := HZ2.out.cell (i := 1) rfl
  have c2 := HZ2.out.cell (i := 2) rfl
  have c3 := HZ2.out.cell (i := 3) rfl
  have f0 := HZ2.out.free 0
  have f1 := HZ2.out.free 1
  have f2 := HZ2.out.free 2
  have f3 := HZ2.out.free 3
  have hr4 := (((HZ2.out.put 0 (.int .i64 0)).put 1 (.int .i64 v)).put 2 (.slice none 0 0)).put 3 (.slice none 0 0)
  have r0 := hr4.cell (i := 0) rfl
  have r1 := hr4.cell (i := 1) rfl
  have r2 := hr4.cell (i := 2) rfl
  have r3 := hr4.cell (i := 3) rfl
  have HBZ := Lib.hid ((((HB4.out.setCell (p := ⟨w.heap.size + 1 + 1, 0, none⟩) (by dsimp only; omega) (.int .i64 0)).setCell (p := ⟨w.heap.size + 1 + 1, 1, none⟩) (by dsimp only; omega) (.int .i64 v)).setCell (p := ⟨w.heap.size + 1 + 1, 2, none⟩) (by dsimp only; omega) (.slice none 0 0)).setCell (p := ⟨w.heap.size + 1 + 1, 3, none⟩) (by dsimp only; omega) (.slice none 0 0))
  clear hb4 hrn hw4 HB3 HY2 u0 u1 hr4
  go_wp2_with fail
  refine bodyPost_ret (v := .agg #[.int .i64 0, .int .i64 v, .slice none 0 0, .slice none 0 0]) ?_ rfl ⟨rfl, HBZ.out⟩
  simp [results, Tryd.f25, go_sem, r0, r1, r2, r3]

set_option maxHeartbeats 4000000 in
theorem valueLess_any (ev : Value) (n ma mb : Int) (g : Nat) (c : Nat) (X X' : Option Addr) (la cx lb cx' : Nat) (x0 x1 x2 x3 x4 x5 x6 x7 : Int) (w : World) (g0 : w.cell? ⟨g, 0, none⟩ = some (.int .i64 1)) (g1 : w.cell? ⟨g, 1, none⟩ = some (.int .i64 ma)) (g2 : w.cell? ⟨g, 2, none⟩ = some (.slice X la cx)) (g3 : w.cell? ⟨g, 3, none⟩ = some (.int .i64 1)) (g4 : w.cell? ⟨g, 4, none⟩ = some (.int .i64 mb)) (g5 : w.cell? ⟨g, 5, none⟩ = some (.slice X' lb cx')) (ha : 0 ≤ ma ∧ ma ≤ 99) (hb9 : 0 ≤ mb ∧ mb ≤ 99) :
    Calls Tryd.prog 34 #[ev, .agg #[.int .i64 5, .int .i64 n, .slice (some ⟨g, 0, none⟩) 2 c], .agg #[.int .i64 x0, .int .i64 x1, .int .i64 x2, .int .i64 x3, .int .i64 x4, .int .i64 x5, .int .i64 x6, .int .i64 x7]] w (Gives (.tuple #[.int .i64 (foldV 5 ma mb), .nilIface]) w) := by
  have hg := World.block_lt_of_cell? _ _ g0
  obtain ⟨hb2, r1, r2⟩ := two_boxes w 28 53 #[Value.int .i64 5, Value.int .i64 n, Value.slice (some ⟨g, 0, none⟩) 2 c] #[Value.int .i64 x0, Value.int .i64 x1, Value.int .i64 x2, Value.int .i64 x3, Value.int .i64 x4, Value.int .i64 x5, Value.int .i64 x6, Value.int .i64 x7]
  obtain ⟨W, hW⟩ : ∃ W, W = (w.alloc (Obj.cells #[Value.int .i64 5, Value.int .i64 n, Value.slice (some ⟨g, 0, none⟩) 2 c] 28)).alloc (Obj.cells #[Value.int .i64 x0, Value.int .i64 x1, Value.int .i64 x2, Value.int .i64 x3, Value.int .i64 x4, Value.int .i64 x5, Value.int .i64 x6, Value.int .i64 x7] 53) := ⟨_, rfl⟩
  rw [← hW] at hb2 r1 r2
  have HB0 := Lib.hid hb2
  have HP := Lib.hid (pairLess_any ev n ma mb g c X X' la cx lb cx' x0 x1 x2 x3 x4 x5 x6 x7 W ((hb2.cell (p := ⟨g, 0, none⟩) hg).trans g0) ((hb2.cell (p := ⟨g, 1, none⟩) hg).trans g1) ((hb2.cell (p := ⟨g, 2, none⟩) hg).trans g2) ((hb2.cell (p := ⟨g, 3, none⟩) hg).trans g3) ((hb2.cell (p := ⟨g, 4, none⟩) hg).trans g4) ((hb2.cell (p := ⟨g, 5, none⟩) hg).trans g5) ha hb9)
  obtain ⟨v, hv⟩ : ∃ v, v = foldV 5 ma mb := ⟨_, rfl⟩
  rw [← hv] at HP ⊢
  have q0 := r1.cell (i := 0) rfl
  have q1 := r1.cell (i := 1) rfl
  have q2 := r1.cell (i := 2) rfl
  have e0 := r2.cell (i := 0) rfl
  have e1 := r2.cell (i := 1) rfl
  have e2 := r2.cell (i := 2) rfl
  have e3 := r2.cell (i := 3) rfl
  have e4 := r2.cell (i := 4) rfl
  have e5 := r2.cell (i := 5) rfl
  have e6 := r2.cell (i := 6) rfl
  have e7 := r2.cell (i := 7) rfl
  clear hb2 r1 r2 g0 g1 g2 g3 g4 g5 hg hv ha hb9
  go_enter Tryd.func34, Tryd.ntmps34
  go_upto_region 1 with fail
  rw [← hW]
  clear hW
  go_wp2_with fail
  refine HP.out.mono ?_
  rintro e w5 ⟨rfl, hb5⟩
  have HB5 := Lib.hid (HB0.out.trans (hb5.mono HB0.out.size))
  clear hb5 HP HB0 q0 q1 q2 e0 e1 e2 e3 e4 e5 e6 e7
  go_wp2
  refine bodyPost_ret (v := .tuple #[.int .i64 v, .nilIface]) ?_ rfl ⟨rfl, HB5.out⟩
  simp [results, Tryd.f34, go_sem]

set_option maxHeartbeats 4000000 in
theorem evalLess_any (n ma mb : Int) (g : Nat) (c : Nat) (X X' : Option Addr) (la cx lb cx' : Nat) (w : World) (g0 : w.cell? ⟨g, 0, none⟩ = some (.int .i64 1)) (g1 : w.cell? ⟨g, 1, none⟩ = some (.int .i64 ma)) (g2 : w.cell? ⟨g, 2, none⟩ = some (.slice X la cx)) (g3 : w.cell? ⟨g, 3, none⟩ = some (.int .i64 1)) (g4 : w.cell? ⟨g, 4, none⟩ = some (.int .i64 mb)) (g5 : w.cell? ⟨g, 5, none⟩ = some (.slice X' lb cx')) (ha : 0 ≤ ma ∧ ma ≤ 99) (hb9 : 0 ≤ mb ∧ mb ≤ 99) :
    Calls Tryd.prog 25 #[.slice none 0 0, .agg #[.int .i64 5, .int .i64 n, .slice (some ⟨g, 0, none⟩) 2 c], .agg #[.int .i64 0, .int .i64 0, .int .i64 0, .int .i64 0, .int .i64 0, .int .i64 0, .int .i64 0, .int .i64 0], .int .i64 0] w (Gives (.agg #[.int .i64 0, .int .i64 (foldV 5 ma mb), .slice none 0 0, .slice none 0 0]) w) := by
  have hg := World.block_lt_of_cell? _ _ g0
  obtain ⟨W, hW⟩ : ∃ W, W = (((((((w.alloc (Obj.cells #[Value.int .i64 5, Value.int .i64 n, Value.slice (some ⟨g, 0, none⟩) 2 c] 28))).alloc (Obj.cells #[Value.int .i64 0, Value.int .i64 0, Value.int .i64 0, Value.int .i64 0, Value.int .i64 0, Value.int .i64 0, Value.int .i64 0, Value.int .i64 0] 53))).alloc (Obj.cells #[Value.int .i64 0, Value.int .i64 0, Value.slice none 0 0, Value.slice none 0 0] 50))).alloc (Obj.cells #[Value.slice none 0 0, Value.slice none 0 0] 57)) := ⟨_, rfl⟩
  have hb : Below w.heap.size w W := by rw [hW]; exact ((((Below.refl _ _).alloc (Nat.le_refl _) _).alloc (by simp) _).alloc (by simp; omega) _).alloc (by simp; omega) _
  have r0 : Row W (w.heap.size) 28 #[Value.int .i64 5, Value.int .i64 n, Value.slice (some ⟨g, 0, none⟩) 2 c] := by
    rw [hW]
    have := Row.fresh w 28 #[Value.int .i64 5, Value.int .i64 n, Value.slice (some ⟨g, 0, none⟩) 2 c]
    exact (((this).alloc _).alloc _).alloc _
  have r1 : Row W (w.heap.size + 1) 53 #[Value.int .i64 0, Value.int .i64 0, Value.int .i64 0, Value.int .i64 0, Value.int .i64 0, Value.int .i64 0, Value.int .i64 0, Value.int .i64 0] := by
    rw [hW]
    have := Row.fresh (w.alloc (Obj.cells #[Value.int .i64 5, Value.int .i64 n, Value.slice (some ⟨g, 0, none⟩) 2 c] 28)) 53 #[Value.int .i64 0, Value.int .i64 0, Value.int .i64 0, Value.int .i64 0, Value.int .i64 0, Value.int .i64 0, Value.int .i64 0, Value.int .i64 0]
    simp only [World.size_alloc] at this
    exact ((this).alloc _).alloc _
  have r2 : Row W (w.heap.size + 1 + 1) 50 #[Value.int .i64 0, Value.int .i64 0, Value.slice none 0 0, Value.slice none 0 0] := by
    rw [hW]
    have := Row.fresh (((w.alloc (Obj.cells #[Value.int .i64 5, Value.int .i64 n, Value.slice (some ⟨g, 0, none⟩) 2 c] 28))).alloc (Obj.cells #[Value.int .i64 0, Value.int .i64 0, Value.int .i64 0, Value.int .i64 0, Value.int .i64 0, Value.int .i64 0, Value.int .i64 0, Value.int .i64 0] 53)) 50 #[Value.int .i64 0, Value.int .i64 0, Value.slice none 0 0, Value.slice none 0 0]
    simp only [World.size_alloc] at this
    exact (this).alloc _
  have r3 : Row W (w.heap.size + 1 + 1 + 1) 57 #[Value.slice none 0 0, Value.slice none 0 0] := by
    rw [hW]
    have := Row.fresh (((((w.alloc (Obj.cells #[Value.int .i64 5, Value.int .i64 n, Value.slice (some ⟨g, 0, none⟩) 2 c] 28))).alloc (Obj.cells #[Value.int .i64 0, Value.int .i64 0, Value.int .i64 0, Value.int .i64 0, Value.int .i64 0, Value.int .i64 0, Value.int .i64 0, Value.int .i64 0] 53))).alloc (Obj.cells #[Value.int .i64 0, Value.int .i64 0, Value.slice none 0 0, Value.slice none 0 0] 50)) 57 #[Value.slice none 0 0, Value.slice none 0 0]
    simp only [World.size_alloc] at this
    exact this
  have HB0 := Lib.hid hb
  have HR0 := Lib.hid r0
  have HR1 := Lib.hid r1
  have HR2 := Lib.hid r2
  have HR3 := Lib.hid r3
  obtain ⟨v, hv⟩ : ∃ v, v = foldV 5 ma mb := ⟨_, rfl⟩
  have HVA := Lib.hid (show ∀ (ev : Value) (w' : World), Below w.heap.size w w' → Calls Tryd.prog 34 #[ev, .agg #[.int .i64 5, .int .i64 n, .slice (some ⟨g, 0, none⟩) 2 c], .agg #[.int .i64 0, .int .i64 0, .int .i64 0, .int .i64 0, .int .i64 0, .int .i64 0, .int .i64 0, .int .i64 0]] w' (Gives (.tuple #[.int .i64 v, .nilIface]) w') from fun ev w' h => by
    rw [hv]
    exact valueLess_any ev n ma mb g c X X' la cx lb cx' 0 0 0 0 0 0 0 0 w' ((h.cell (p := ⟨g, 0, none⟩) hg).trans g0) ((h.cell (p := ⟨g, 1, none⟩) hg).trans g1) ((h.cell (p := ⟨g, 2, none⟩) hg).trans g2) ((h.cell (p := ⟨g, 3, none⟩) hg).trans g3) ((h.cell (p := ⟨g, 4, none⟩) hg).trans g4) ((h.cell (p := ⟨g, 5, none⟩) hg).trans g5) ha hb9)
  rw [← hv]
  have HDN := Lib.hid (defsNil_any W)
  clear hb r0 r1 r2 r3 g0 g1 g2 g3 g4 g5 hg hv ha hb9
  go_enter Tryd.func25, Tryd.ntmps25
  go_upto_region 2 with fail
  rw [← hW]
  clear hW
  go_wp2_with fail
  refine HDN.out.mono ?_
  rintro e w1 ⟨r, rfl, hb1⟩
  go_upto_region 3 with fail
  obtain ⟨w2, hw2⟩ : ∃ w2, w2 = w1.alloc (Obj.cells #[Value.map (some r), Value.int .i64 0, Value.int .i64 0, Value.iface 60 (.pointer (some ⟨w.heap.size + 1 + 1 + 1, 0, none⟩))] 64) := ⟨_, rfl⟩
  rw [← hw2]
  have hb2 : Below W.heap.size W w2 := by rw [hw2]; exact hb1.alloc hb1.size _
  have HB2 := Lib.hid (HB0.out.trans (hb2.mono HB0.out.size))
  have HX0 := Lib.hid (HR0.out.below hb2 HR0.out.size)
  have HX1 := Lib.hid (HR1.out.below hb2 HR1.out.size)
  have HX2 := Lib.hid (HR2.out.below hb2 HR2.out.size)
  have HX3 := Lib.hid (HR3.out.below hb2 HR3.out.size)
  have q0 := HX0.out.cell (i := 0) rfl
  have q1 := HX0.out.cell (i := 1) rfl
  have q2 := HX0.out.cell (i := 2) rfl
  have e0 := HX1.out.cell (i := 0) rfl
  have e1 := HX1.out.cell (i := 1) rfl
  have e2 := HX1.out.cell (i := 2) rfl
  have e3 := HX1.out.cell (i := 3) rfl
  have e4 := HX1.out.cell (i := 4) rfl
  have e5 := HX1.out.cell (i := 5) rfl
  have e6 := HX1.out.cell (i := 6) rfl
  have e7 := HX1.out.cell (i := 7) rfl
  clear hb1 hb2 hw2 HB0 HR0 HR1 HR2 HR3 HDN
  go_wp2_with fail
  refine (HVA.out _ _ HB2.out).mono ?_
  rintro e w3 ⟨rfl, hb3⟩
  have HY2 := Lib.hid (HX2.out.below hb3 HX2.out.size)
  have HB3 := Lib.hid (HB2.out.trans (hb3.mono HB2.out.size))
  have u0 := (HX3.out.below hb3 HX3.out.size).cell (i := 0) rfl
  have u1 := (HX3.out.below hb3 HX3.out.size).cell (i := 1) rfl
  clear hb3 q0 q1 q2 e0 e1 e2 e3 e4 e5 e6 e7 HX0 HX1 HX2 HX3 HVA HB2
  go_upto_region 5 with fail
  obtain ⟨w4, hw4⟩ : ∃ w4, w4 = w3.alloc (Obj.cells #[Value.int .i64 0, Value.int .i64 v, Value.slice none 0 0, Value.slice none 0 0] 50) := ⟨_, rfl⟩
  rw [← hw4]
  have hb4 : Below w3.heap.size w3 w4 := by rw [hw4]; exact (Below.refl _ _).alloc (Nat.le_refl _) _
  have hrn : Row w4 w3.heap.size 50 #[Value.int .i64 0, Value.int .i64 v, Value.slice none 0 0, Value.slice none 0 0] := by rw [hw4]; exact Row.fresh _ _ _
  have HB4 := Lib.hid (HB3.out.trans (hb4.mono HB3.out.size))
  have HZ2 := Lib.hid (HY2.out.below hb4 HY2.out.size)
  have n0 := hrn.cell (i := 0) rfl
  have n1 := hrn.cell (i := 1) rfl
  have n2 := hrn.cell (i := 2) rfl
  have n3 := hrn.cell (i := 3) rfl
  have c0 := HZ2.out.cell (i := 0) rfl
  have c1 := HZ2.out.cell (i := 1) rfl
  have c2 := HZ2.out.cell (i := 2) rfl
  have c3 := HZ2.out.cell (i := 3) rfl
  have f0 := HZ2.out.free 0
  have f1 := HZ2.out.free 1
  have f2 := HZ2.out.free 2
  have f3 := HZ2.out.free 3
  have hr4 := (((HZ2.out.put 0 (.int .i64 0)).put 1 (.int .i64 v)).put 2 (.slice none 0 0)).put 3 (.slice none 0 0)
  have r0 := hr4.cell (i := 0) rfl
  have r1 := hr4.cell (i := 1) rfl
  have r2 := hr4.cell (i := 2) rfl
  have r3 := hr4.cell (i := 3) rfl
  have HBZ := Lib.hid ((((HB4.out.setCell (p := ⟨w.heap.size + 1 + 1, 0, none⟩) (by dsimp only; omega) (.int .i64 0)).setCell (p := ⟨w.heap.size + 1 + 1, 1, none⟩) (by dsimp only; omega) (.int .i64 v)).setCell (p := ⟨w.heap.size + 1 + 1, 2, none⟩) (by dsimp only; omega) (.slice none 0 0)).setCell (p := ⟨w.heap.size + 1 + 1, 3, none⟩) (by dsimp only; omega) (.slice none 0 0))
  clear hb4 hrn hw4 HB3 HY2 u0 u1 hr4
  go_wp2_with fail
  refine bodyPost_ret (v := .agg #[.int .i64 0, .int .i64 v, .slice none 0 0, .slice none 0 0]) ?_ rfl ⟨rfl, HBZ.out⟩
  simp [results, Tryd.f25, go_sem, r0, r1, r2, r3]
end Go.Proofs.YtemphmncdmbndaaDoor
