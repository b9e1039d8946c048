/-
  spec.l1Numbers: the places that are set.
-/
import Derived.Test.YtkjgnfpedponlaaFlags
import Derived.Test.YtkjgnfpedponlaaNodesI
import Derived.Test.YtkjgnfpedponlaaOwn
import Derived.Test.YtkjgnfpedponlaaFo
import Derived.Test.YtkjgnfpedponlaaDe
import Derived.Maps.AppendAt
import Derived.Test.YtkjgnfpedponlaaHide
import Derived.Test.YtkjgnfpedponlaaIsVar
import Derived.Test.YtkjgnfpedponlaaSmall
import Derived.Deep.RegionWith
namespace Go.Proofs.Ytkjgnfpedponlaa
open Go.RowKit Go.Shelf
set_option maxRecDepth 100000

set_option maxHeartbeats 1000000 in
theorem l1Numbers_any (g : Nat) (w : World) (S : Nat → Bool) (hrow : Row w g 4 (cells8 S)) :
    Calls Try.prog 41 #[.slice (some ⟨g, 0, none⟩) 8 8] w (ListPost (numsUpto S 8) w) := by
  go_enter Try.func41, Try.ntmps41
  go_wp2_with fail
  have own0 : (w.alloc (Obj.cells #[] 3)).ownsRow w.heap.size 3 1 (.slice (some ⟨w.heap.size, 0, none⟩) 0 0) (numsUpto S 0).length ((numsUpto S 0).map (Value.int .i64)) :=
    ⟨rfl, .inr ⟨w.heap.size, 0, #[], rfl, Nat.le_refl _, heap_alloc_new _ _, Nat.le_refl _, by decide, rfl, rfl⟩⟩
  have hb1 : Below w.heap.size w (w.alloc (Obj.cells #[] 3)) := (Below.refl _ _).alloc (Nat.le_refl _) _
  go_loopw [3, 4] (fun v i wr => ∃ (j : Nat), j ≤ 8 ∧ i = .int .i64 j ∧ wr.ownsRow w.heap.size 3 1 v (numsUpto S j).length ((numsUpto S j).map (Value.int .i64)) ∧ Below w.heap.size w wr)
    (fun _ i _ => 8 - (intOf i).toNat)
  case atStart => exact ⟨0, by omega, rfl, own0, hb1⟩
  case round =>
    clear own0 hb1
    obtain ⟨j, hj, rfl, hown, hb3⟩ := hrel
    by_cases hlt : j < 8
    · have q0 := (hrow.below hb3 hrow.size).cell (cells8_at S hlt)
      have HO2 := Lib.hid hown
      have hlen := numsUpto_len S j
      clear hown
      cases hc : S j with
      | false =>
        have HF := Lib.hid (numsUpto_no hc)
        rw [hc] at q0
        clear hc
        go_wp2
        go_roundw
        case rel => exact ⟨j + 1, hlt, by go_num, by rw [HF.out]; exact HO2.out, hb3⟩
        case measure => simp [intOf]; omega
      | true =>
        have HF := Lib.hid (numsUpto_yes hc)
        rw [hc] at q0
        clear hc
        obtain ⟨iT, hiT, hiz0, hiz1, hiz2⟩ := info_parts (show (Try.prog.info? 3).map (fun i => (i.zero, i.size, i.bytes)) = some (some (.int .i64 0), 1, 8) by kernel_rfl)
        have HIT := Lib.hid hiT
        have HIZ0 := Lib.hid hiz0
        have HIZ1 := Lib.hid hiz1
        have HIZ2 := Lib.hid hiz2
        have C1 := Lib.hid (fresh_cells wr 3 #[Value.int .i64 (j : Int)])
        have HC2 := Lib.hid (show ∀ u ∈ [Value.int .i64 (j : Int)], u.oneCell' = true by intro u hu; rw [List.mem_singleton.1 hu]; rfl)
        have HC3 := Lib.hid (show (numsUpto S j).length + 1 ≤ maxLen by unfold maxLen; omega)
        have HC4 := Lib.hid (show ((numsUpto S j).length + 1) * 8 ≤ 140737488355328 by omega)
        have HC5 := Lib.hid (show w.heap.size ≤ (wr.alloc (.cells #[Value.int .i64 (j : Int)] 3)).heap.size by have := hb3.size; rw [World.size_alloc]; omega)
        have HOA := Lib.hid (HO2.out.alloc (.cells #[Value.int .i64 (j : Int)] 3))
        clear hiT hiz0 hiz1 hiz2
        go_wp2_with (at_builtin; refine wpList_append_own_at _ rfl _ _ 42 rfl w.heap.size 3 iT _ 1 8 Try.underlying42 HIT.out HIZ0.out HIZ1.out HIZ2.out rfl (by decide) _ _ _ rfl HOA.out ⟨wr.heap.size, 0, none⟩ 1 1 [Value.int .i64 (j : Int)] rfl rfl C1.out HC2.out HC3.out HC4.out HC5.out ?_; intro v' w' hown5 hgrow5 _ hblk)
        have hb5 : Below w.heap.size w w' := Below.grown (hb3.alloc hb3.size (.cells #[Value.int .i64 (j : Int)] 3)) hgrow5 HC5.out (fun g' hg' => own_at_least HO2.out hg')
        have HO5 := Lib.hid hown5
        clear hown5 hgrow5 hblk q0
        go_wp2_with fail
        go_roundw
        case rel =>
          refine ⟨j + 1, hlt, by go_num, ?_, hb5⟩
          rw [HF.out, List.length_append, List.map_append]
          exact HO5.out
        case measure => simp [intOf]; omega
    · have e9 : j = 8 := by omega
      subst e9
      go_wp2
      go_ret
      exact ⟨_, rfl, hown, hb3⟩

theorem own_less {w : World} {base base' : Nat} {e : TypeId} {size : Nat} {v : Value} {n : Nat} {xs : List Value} (h : w.ownsRow base e size v n xs) (hb : base' ≤ base) : w.ownsRow base' e size v n xs := by
  refine ⟨h.1, ?_⟩
  rcases h.2 with h0 | ⟨g, cap, cur, h1, h2, h3⟩
  · exact .inl h0
  · exact .inr ⟨g, cap, cur, h1, by omega, h3⟩

theorem madeF_run (w : World) : (Instr.makeSlice 53 (.int .i64 8) (.int .i64 8)).run Try.prog w = .ok (.slice (some ⟨w.heap.size, 0, Option.none⟩) 8 8) (w.alloc (.cells (cells8 fun _ => false) 4)) := by kernel_rfl
end Go.Proofs.Ytkjgnfpedponlaa
