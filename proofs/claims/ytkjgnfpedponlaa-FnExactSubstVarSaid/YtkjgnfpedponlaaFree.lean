/-
  FreeVars: the model and the program.
-/
import Derived.Test.YtkjgnfpedponlaaICnt
import Derived.Test.YtkjgnfpedponlaaFo
import Derived.Test.YtkjgnfpedponlaaOwn
import Derived.Test.YtkjgnfpedponlaaDe
import Derived.Maps.AppendAt
namespace Go.Proofs.Ytkjgnfpedponlaa
open Go.RowKit
set_option maxRecDepth 100000

def freeUpto (op n : Int) (k : Fo) : Nat → List Int
  | 0 => []
  | j + 1 => freeUpto op n k j ++ (if cntN (j : Int) op n k = 0 then [] else [(j : Int)])
theorem freeUpto_len (op n : Int) (k : Fo) : ∀ j, (freeUpto op n k j).length ≤ j
  | 0 => Nat.le_refl _
  | j + 1 => by have := freeUpto_len op n k j; simp only [freeUpto, List.length_append]; split <;> simp <;> omega
theorem freeUpto_zero {op n : Int} {k : Fo} {j : Nat} (h : cntN (j : Int) op n k = 0) : freeUpto op n k (j + 1) = freeUpto op n k j := by simp [freeUpto, h]
theorem freeUpto_some {op n : Int} {k : Fo} {j : Nat} (h : cntN (j : Int) op n k ≠ 0) : freeUpto op n k (j + 1) = freeUpto op n k j ++ [(j : Int)] := by simp [freeUpto, h]
theorem freeUpto_small (op n : Int) (k : Fo) : ∀ j x, j ≤ 8 → x ∈ freeUpto op n k j → I64 x
  | 0, x, _, h => by simp [freeUpto] at h
  | j + 1, x, hj, h => by
    rcases List.mem_append.1 h with h | h
    · exact freeUpto_small op n k j x (by omega) h
    · split at h
      · simp at h
      · rw [List.mem_singleton.1 h]
        unfold I64
        omega

set_option maxHeartbeats 1000000 in
theorem specFree_any (op n : Int) (k : Fo) (A : Option Addr) (c : Nat) (w : World) (hl : Lies w 0 w.heap.size A 0 k) (hsz : k.size ≤ 1048576) :
    Calls Try.prog 60 #[.agg #[.int .i64 op, .int .i64 n, .slice A k.len c]] w (ListPost (freeUpto op n k 8) w) := by
  have hb0 : Below w.heap.size w (w.alloc (Obj.cells #[Value.int IntKind.i64 op, Value.int IntKind.i64 n, Value.slice A k.len c] 28)) := (Below.refl _ _).alloc (Nat.le_refl _) _
  have hr0 := Row.fresh w 28 #[Value.int IntKind.i64 op, Value.int IntKind.i64 n, Value.slice A k.len c]
  go_enter Try.func60, Try.ntmps60
  go_wp2_with fail
  have hb1 : Below w.heap.size w ((w.alloc (Obj.cells #[Value.int IntKind.i64 op, Value.int IntKind.i64 n, Value.slice A k.len c] 28)).alloc (Obj.cells #[] 3)) := hb0.alloc hb0.size _
  have own0 : ((w.alloc (Obj.cells #[Value.int IntKind.i64 op, Value.int IntKind.i64 n, Value.slice A k.len c] 28)).alloc (Obj.cells #[] 3)).ownsRow w.heap.size 3 1 (.slice (some ⟨w.heap.size + 1, 0, none⟩) 0 0) (freeUpto op n k 0).length ((freeUpto op n k 0).map (Value.int .i64)) := by
    refine ⟨rfl, .inr ⟨w.heap.size + 1, 0, #[], rfl, by omega, ?_, Nat.le_refl _, by decide, rfl, rfl⟩⟩
    have := heap_alloc_new (w.alloc (Obj.cells #[Value.int IntKind.i64 op, Value.int IntKind.i64 n, Value.slice A k.len c] 28)) (Obj.cells #[] 3)
    rw [World.size_alloc] at this
    exact this
  have hr1 := hr0.alloc (Obj.cells #[] 3)
  clear hr0 hb0
  go_loopw [3, 4] (fun v i wr => ∃ (j : Nat), j ≤ 8 ∧ i = .int .i64 j ∧ wr.ownsRow w.heap.size 3 1 v (freeUpto op n k j).length ((freeUpto op n k j).map (Value.int .i64)) ∧
      Row wr w.heap.size 28 #[Value.int IntKind.i64 op, Value.int IntKind.i64 n, Value.slice A k.len c] ∧ Below w.heap.size w wr)
    (fun _ i _ => 8 - (intOf i).toNat)
  case atStart => exact ⟨0, by omega, rfl, own0, hr1, hb1⟩
  case round =>
    clear own0 hr1 hb1
    obtain ⟨j, hj, rfl, hown, hrow, hb⟩ := hrel
    by_cases hlt : j < 8
    · have q0 := hrow.cell (i := 0) rfl
      have q1 := hrow.cell (i := 1) rfl
      have q2 := hrow.cell (i := 2) rfl
      have HOWN := Lib.hid hown
      have HROW := Lib.hid hrow
      have hlen := freeUpto_len op n k j
      clear hown hrow
      go_wp2_with fail
      refine (specCount_any k.size (j : Int) op n k A c wr rfl (hl.up hb) hsz).mono ?_
      rintro e w2 ⟨rfl, hb2⟩
      have HO2 := Lib.hid (own_below HOWN.out hb2)
      have HR2 := Lib.hid (HROW.out.below hb2 HROW.out.size)
      have hb3 := hb.trans (hb2.mono hb.size)
      clear hb hb2 q0 q1 q2 HOWN HROW
      by_cases hc : cntN (j : Int) op n k = 0
      · have HF := Lib.hid (freeUpto_zero hc)
        rw [hc]
        clear hc
        go_wp2
        go_roundw
        case rel => exact ⟨j + 1, hlt, by go_num, by rw [HF.out]; exact HO2.out, HR2.out, hb3⟩
        case measure => simp [intOf]; omega
      · have HF := Lib.hid (freeUpto_some hc)
        have hpos : 0 < cntN (j : Int) op n k := Nat.pos_of_ne_zero hc
        generalize cntN (j : Int) op n k = cc at hpos ⊢
        clear hc
        obtain ⟨iT, hiT, hiz0, hiz1, hiz2⟩ := info_parts (show (Try.prog.info? 3).map (fun i => (i.zero, i.size, i.bytes)) = some (some (.int .i64 0), 1, 8) by kernel_rfl)
        have HIT := Lib.hid hiT
        have HIZ0 := Lib.hid hiz0
        have HIZ1 := Lib.hid hiz1
        have HIZ2 := Lib.hid hiz2
        have C1 := Lib.hid (fresh_cells w2 3 #[Value.int .i64 (j : Int)])
        have HC2 := Lib.hid (show ∀ u ∈ [Value.int .i64 (j : Int)], u.oneCell' = true by intro u hu; rw [List.mem_singleton.1 hu]; rfl)
        have HC3 := Lib.hid (show (freeUpto op n k j).length + 1 ≤ maxLen by unfold maxLen; omega)
        have HC4 := Lib.hid (show ((freeUpto op n k j).length + 1) * 8 ≤ 140737488355328 by omega)
        have HC5 := Lib.hid (show w.heap.size ≤ (w2.alloc (.cells #[Value.int .i64 (j : Int)] 3)).heap.size by have := hb3.size; rw [World.size_alloc]; omega)
        have HOA := Lib.hid (HO2.out.alloc (.cells #[Value.int .i64 (j : Int)] 3))
        clear hiT hiz0 hiz1 hiz2
        go_wp2_with (at_builtin; refine wpList_append_own_at _ rfl _ _ 42 rfl w.heap.size 3 iT _ 1 8 Try.underlying42 HIT.out HIZ0.out HIZ1.out HIZ2.out rfl (by decide) _ _ _ rfl HOA.out ⟨w2.heap.size, 0, none⟩ 1 1 [Value.int .i64 (j : Int)] rfl rfl C1.out HC2.out HC3.out HC4.out HC5.out ?_; intro v' w' hown5 hgrow5 _ hblk)
        have hb5 : Below w.heap.size w w' := Below.grown (hb3.alloc hb3.size (.cells #[Value.int .i64 (j : Int)] 3)) hgrow5 HC5.out (fun g' hg' => own_at_least HO2.out hg')
        have hr5 : Row w' w.heap.size 28 #[Value.int IntKind.i64 op, Value.int IntKind.i64 n, Value.slice A k.len c] := (hgrow5.block w.heap.size (HR2.out.alloc _).size (own_other_row HO2.out HR2.out (by decide))).trans (HR2.out.alloc _)
        have HO5 := Lib.hid hown5
        clear hown5 hgrow5 hblk
        go_wp2_with fail
        go_roundw
        case rel =>
          refine ⟨j + 1, hlt, by go_num, ?_, hr5, hb5⟩
          rw [HF.out, List.length_append, List.map_append]
          exact HO5.out
        case measure => simp [intOf]; omega
    · have e9 : j = 8 := by omega
      subst e9
      go_wp2
      go_ret
      exact ⟨_, rfl, hown, hb⟩

set_option maxHeartbeats 1000000 in
theorem implFree_r (op n : Int) (k : Fo) (A : Option Addr) (c L B : Nat) (w : World) (hlL : Lies w L B A 0 k) (hB : B ≤ w.heap.size) (hal : RowsIf w L B k) (hk1 : k.len ≤ c) (hk2 : c ≤ maxLen) (hsz : k.size ≤ 1048576) :
    Calls Try.prog 53 #[.agg #[.int .i64 op, .int .i64 n, .slice A k.len c]] w (ListPost (freeUpto op n k 8) w) := by
  have hb0 : Below w.heap.size w (w.alloc (Obj.cells #[Value.int IntKind.i64 op, Value.int IntKind.i64 n, Value.slice A k.len c] 28)) := (Below.refl _ _).alloc (Nat.le_refl _) _
  have hr0 := Row.fresh w 28 #[Value.int IntKind.i64 op, Value.int IntKind.i64 n, Value.slice A k.len c]
  go_enter Try.func53, Try.ntmps53
  go_wp2_with fail
  have own0 : (w.alloc (Obj.cells #[Value.int IntKind.i64 op, Value.int IntKind.i64 n, Value.slice A k.len c] 28)).ownsRow w.heap.size 3 1 (.slice none 0 0) (freeUpto op n k 0).length ((freeUpto op n k 0).map (Value.int .i64)) := World.ownsRow_nil _ _ _ _
  go_loopw [3, 5] (fun v i wr => ∃ (j : Nat), j ≤ 8 ∧ i = .int .i64 j ∧ wr.ownsRow w.heap.size 3 1 v (freeUpto op n k j).length ((freeUpto op n k j).map (Value.int .i64)) ∧
      Row wr w.heap.size 28 #[Value.int IntKind.i64 op, Value.int IntKind.i64 n, Value.slice A k.len c] ∧ Below w.heap.size w wr)
    (fun _ i _ => 8 - (intOf i).toNat)
  case atStart => exact ⟨0, by omega, rfl, own0, hr0, hb0⟩
  case round =>
    clear own0 hr0 hb0
    obtain ⟨j, hj, rfl, hown, hrow, hb⟩ := hrel
    by_cases hlt : j < 8
    · have q0 := hrow.cell (i := 0) rfl
      have q1 := hrow.cell (i := 1) rfl
      have q2 := hrow.cell (i := 2) rfl
      have HOWN := Lib.hid hown
      have HROW := Lib.hid hrow
      have hlen := freeUpto_len op n k j
      clear hown hrow
      go_wp2_with fail
      refine (implCount_r op n (j : Int) k A c L B wr (hlL.below (hb.mono hB)) (Nat.le_trans hB hb.size) (hal.below hb hB) hk1 hk2 hsz).mono ?_
      rintro e w2 ⟨rfl, hb2⟩
      have HO2 := Lib.hid (own_below HOWN.out hb2)
      have HR2 := Lib.hid (HROW.out.below hb2 HROW.out.size)
      have hb3 := hb.trans (hb2.mono hb.size)
      clear hb hb2 q0 q1 q2 HOWN HROW
      by_cases hc : cntN (j : Int) op n k = 0
      · have HF := Lib.hid (freeUpto_zero hc)
        rw [hc]
        clear hc
        go_wp2
        go_roundw
        case rel => exact ⟨j + 1, hlt, by go_num, by rw [HF.out]; exact HO2.out, HR2.out, hb3⟩
        case measure => simp [intOf]; omega
      · have HF := Lib.hid (freeUpto_some hc)
        have hpos : 0 < cntN (j : Int) op n k := Nat.pos_of_ne_zero hc
        generalize cntN (j : Int) op n k = cc at hpos ⊢
        clear hc
        obtain ⟨iT, hiT, hiz0, hiz1, hiz2⟩ := info_parts (show (Try.prog.info? 3).map (fun i => (i.zero, i.size, i.bytes)) = some (some (.int .i64 0), 1, 8) by kernel_rfl)
        have HIT := Lib.hid hiT
        have HIZ0 := Lib.hid hiz0
        have HIZ1 := Lib.hid hiz1
        have HIZ2 := Lib.hid hiz2
        have C1 := Lib.hid (fresh_cells w2 3 #[Value.int .i64 (j : Int)])
        have HC2 := Lib.hid (show ∀ u ∈ [Value.int .i64 (j : Int)], u.oneCell' = true by intro u hu; rw [List.mem_singleton.1 hu]; rfl)
        have HC3 := Lib.hid (show (freeUpto op n k j).length + 1 ≤ maxLen by unfold maxLen; omega)
        have HC4 := Lib.hid (show ((freeUpto op n k j).length + 1) * 8 ≤ 140737488355328 by omega)
        have HC5 := Lib.hid (show w.heap.size ≤ (w2.alloc (.cells #[Value.int .i64 (j : Int)] 3)).heap.size by have := hb3.size; rw [World.size_alloc]; omega)
        have HOA := Lib.hid (HO2.out.alloc (.cells #[Value.int .i64 (j : Int)] 3))
        clear hiT hiz0 hiz1 hiz2
        go_wp2_with (at_builtin; refine wpList_append_own_at _ rfl _ _ 42 rfl w.heap.size 3 iT _ 1 8 Try.underlying42 HIT.out HIZ0.out HIZ1.out HIZ2.out rfl (by decide) _ _ _ rfl HOA.out ⟨w2.heap.size, 0, none⟩ 1 1 [Value.int .i64 (j : Int)] rfl rfl C1.out HC2.out HC3.out HC4.out HC5.out ?_; intro v' w' hown5 hgrow5 _ hblk)
        have hb5 : Below w.heap.size w w' := Below.grown (hb3.alloc hb3.size (.cells #[Value.int .i64 (j : Int)] 3)) hgrow5 HC5.out (fun g' hg' => own_at_least HO2.out hg')
        have hr5 : Row w' w.heap.size 28 #[Value.int IntKind.i64 op, Value.int IntKind.i64 n, Value.slice A k.len c] := (hgrow5.block w.heap.size (HR2.out.alloc _).size (own_other_row HO2.out HR2.out (by decide))).trans (HR2.out.alloc _)
        have HO5 := Lib.hid hown5
        clear hown5 hgrow5 hblk
        go_wp2_with fail
        go_roundw
        case rel =>
          refine ⟨j + 1, hlt, by go_num, ?_, hr5, hb5⟩
          rw [HF.out, List.length_append, List.map_append]
          exact HO5.out
        case measure => simp [intOf]; omega
    · have e9 : j = 8 := by omega
      subst e9
      go_wp2
      go_ret
      exact ⟨_, rfl, hown, hb⟩
theorem implFree_any (op n : Int) (k : Fo) (A : Option Addr) (c L B : Nat) (w : World) (hlL : Lies w L B A 0 k) (hB : B ≤ w.heap.size) (hal : AllRows w L B) (hk1 : k.len ≤ c) (hk2 : c ≤ maxLen) (hsz : k.size ≤ 1048576) :
    Calls Try.prog 53 #[.agg #[.int .i64 op, .int .i64 n, .slice A k.len c]] w (ListPost (freeUpto op n k 8) w) :=
  implFree_r op n k A c L B w hlL hB (fun _ => hal) hk1 hk2 hsz
end Go.Proofs.Ytkjgnfpedponlaa
