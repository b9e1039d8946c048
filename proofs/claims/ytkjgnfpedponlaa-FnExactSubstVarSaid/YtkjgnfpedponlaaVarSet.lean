/-
  impl.varSet: its methods add and list.
-/
import Derived.Test.YtkjgnfpedponlaaNums
import Derived.Test.YtkjgnfpedponlaaMarkD
namespace Go.Proofs.Ytkjgnfpedponlaa
open Go.RowKit Go.Shelf
set_option maxRecDepth 100000

theorem inVar_nat {n : Int} (h : inVar n = true) : ∃ v : Nat, v < 8 ∧ n = (v : Int) := by
  obtain ⟨h0, h8⟩ := inVar_true h
  exact ⟨n.toNat, by omega, by omega⟩

theorem KC.of_only {g : Nat} {W W' : World} (h : Only g W.heap.size W W') : KC (fun x => x = g) W W' :=
  ⟨h.size, fun k _ _ _ hx hk => (h.block k (Array.getElem?_eq_some_iff.1 hk).1 hx).trans hk⟩
theorem KeepsFrom.of_only {B g : Nat} {W W' : World} (h : Only g W.heap.size W W') (hg : g < B) : KeepsFrom B W W' :=
  ⟨h.size, fun k _ hB hk _ => (h.block k (Array.getElem?_eq_some_iff.1 hk).1 (by omega)).trans hk⟩

/-- What the method add does to the flags. -/
def addS (S : Nat → Bool) (n : Int) : Nat → Bool := fun i => S i || decide (n = (i : Int))
theorem addS_no {S : Nat → Bool} {n : Int} (h : inVar n = false) : cells8 (addS S n) = cells8 S := by
  refine cells8_congr fun i hi => ?_
  have := inVar_false h
  have e : decide (n = (i : Int)) = false := by rw [decide_eq_false_iff_not]; omega
  unfold addS
  rw [e, Bool.or_false]
theorem addS_nat (S : Nat → Bool) {v : Nat} (h : v < 8) : (cells8 S).setIfInBounds v (.bool true) = cells8 (addS S (v : Int)) := by
  rw [cells8_set S h]
  refine cells8_congr fun i _ => ?_
  unfold addS
  congr 1
  rw [Bool.eq_iff_iff]
  simp
  omega

theorem add_any (g : Nat) (S : Nat → Bool) (n : Int) (w : World) (hrow : Row w g 60 (cells8 S)) :
    Calls Try.prog 48 #[.pointer (some ⟨g, 0, none⟩), .int .i64 n] w fun e w' =>
      e = .returned (.tuple #[]) ∧ Row w' g 60 (cells8 (addS S n)) ∧ Only g w.heap.size w w' := by
  go_enter Try.func48, Try.ntmps48
  go_wp2_with fail
  refine (isVar_any n w).mono ?_
  rintro e w2 ⟨rfl, hb2⟩
  have hr2 := hrow.below hb2 hrow.size
  have hon2 : Only g w.heap.size w w2 := Only.of_below hb2
  cases hv : inVar n with
  | true =>
    obtain ⟨v, hv8, rfl⟩ := inVar_nat hv
    have qv := hr2.cell (cells8_at S hv8)
    have fv := hr2.free v
    have HP := Lib.hid (hr2.put v (.bool true))
    rw [addS_nat S hv8] at HP
    have HO := Lib.hid (hon2.set (p := ⟨g, v, none⟩) (.inl rfl) (.bool true))
    clear hv hr2 hon2 hb2 hrow
    go_wp2
    go_end0
    exact ⟨rfl, HP.out, HO.out⟩
  | false =>
    have HP := Lib.hid hr2
    rw [← addS_no hv] at HP
    clear hv hr2 hrow
    go_wp2
    go_end0
    exact ⟨rfl, HP.out, hon2⟩

def arr8 (S : Nat → Bool) : Value := .agg (cells8 S)
theorem indexV_run (S : Nat → Bool) {j : Nat} (h : j < 8) (w : World) : Sem.run Try.prog (Instr.index 60 (.agg #[.bool (S 0), .bool (S 1), .bool (S 2), .bool (S 3), .bool (S 4), .bool (S 5), .bool (S 6), .bool (S 7)]) (.int .i64 (j : Int))) w = .ok (.bool (S j)) w := by
  rcases (show j = 0 ∨ j = 1 ∨ j = 2 ∨ j = 3 ∨ j = 4 ∨ j = 5 ∨ j = 6 ∨ j = 7 by omega) with rfl | rfl | rfl | rfl | rfl | rfl | rfl | rfl <;> kernel_rfl

set_option maxHeartbeats 1000000 in
theorem list_any (S : Nat → Bool) (w : World) :
    Calls Try.prog 49 #[.agg #[.bool (S 0), .bool (S 1), .bool (S 2), .bool (S 3), .bool (S 4), .bool (S 5), .bool (S 6), .bool (S 7)]] w (ListPost (numsUpto S 8) w) := by
  obtain ⟨hb1, hr1⟩ := one_box w 60 #[.bool (S 0), .bool (S 1), .bool (S 2), .bool (S 3), .bool (S 4), .bool (S 5), .bool (S 6), .bool (S 7)]
  have a0 := hr1.cell (i := 0) rfl
  have a1 := hr1.cell (i := 1) rfl
  have a2 := hr1.cell (i := 2) rfl
  have a3 := hr1.cell (i := 3) rfl
  have a4 := hr1.cell (i := 4) rfl
  have a5 := hr1.cell (i := 5) rfl
  have a6 := hr1.cell (i := 6) rfl
  have a7 := hr1.cell (i := 7) rfl
  go_enter Try.func49, Try.ntmps49
  go_wp2_with fail
  clear a0 a1 a2 a3 a4 a5 a6 a7 hr1
  go_loopw [3, 7] (fun v i wr => ∃ (j : Nat), j ≤ 8 ∧ i = .int .i64 j ∧ wr.ownsRow w.heap.size 3 1 v (numsUpto S j).length ((numsUpto S j).map (Value.int .i64)) ∧ Below w.heap.size w wr)
    (fun _ i _ => 8 - (intOf i).toNat)
  case atStart => exact ⟨0, by omega, rfl, World.ownsRow_nil _ _ _ _, hb1⟩
  case round =>
    clear hb1
    obtain ⟨j, hj, rfl, hown, hb3⟩ := hrel
    by_cases hlt : j < 8
    · have HO2 := Lib.hid hown
      have hlen := numsUpto_len S j
      have hix := indexV_run S hlt
      clear hown
      cases hc : S j with
      | false =>
        have HF := Lib.hid (numsUpto_no hc)
        rw [hc] at hix
        clear hc
        go_wp2_with fail
        go_roundw
        case rel => exact ⟨j + 1, hlt, by go_num, by rw [HF.out]; exact HO2.out, hb3⟩
        case measure => simp [intOf]; omega
      | true =>
        have HF := Lib.hid (numsUpto_yes hc)
        rw [hc] at hix
        clear hc
        obtain ⟨iT, hiT, hiz0, hiz1, hiz2⟩ := info_parts (show (Try.prog.info? 3).map (fun i => (i.zero, i.size, i.bytes)) = some (some (.int .i64 0), 1, 8) by kernel_rfl)
        have HIT := Lib.hid hiT
        have HIZ0 := Lib.hid hiz0
        have HIZ1 := Lib.hid hiz1
        have HIZ2 := Lib.hid hiz2
        have C1 := Lib.hid (fresh_cells wr 3 #[Value.int .i64 (j : Int)])
        have HC2 := Lib.hid (show ∀ u ∈ [Value.int .i64 (j : Int)], u.oneCell' = true by intro u hu; rw [List.mem_singleton.1 hu]; rfl)
        have HC3 := Lib.hid (show (numsUpto S j).length + 1 ≤ maxLen by unfold maxLen; omega)
        have HC4 := Lib.hid (show ((numsUpto S j).length + 1) * 8 ≤ 140737488355328 by omega)
        have HC5 := Lib.hid (show w.heap.size ≤ (wr.alloc (.cells #[Value.int .i64 (j : Int)] 3)).heap.size by have := hb3.size; rw [World.size_alloc]; omega)
        have HOA := Lib.hid (HO2.out.alloc (.cells #[Value.int .i64 (j : Int)] 3))
        clear hiT hiz0 hiz1 hiz2
        go_wp2_with (at_builtin; refine wpList_append_own_at _ rfl _ _ 42 rfl w.heap.size 3 iT _ 1 8 Try.underlying42 HIT.out HIZ0.out HIZ1.out HIZ2.out rfl (by decide) _ _ _ rfl HOA.out ⟨wr.heap.size, 0, none⟩ 1 1 [Value.int .i64 (j : Int)] rfl rfl C1.out HC2.out HC3.out HC4.out HC5.out ?_; intro v' w' hown5 hgrow5 _ hblk)
        have hb5 : Below w.heap.size w w' := Below.grown (hb3.alloc hb3.size (.cells #[Value.int .i64 (j : Int)] 3)) hgrow5 HC5.out (fun g' hg' => own_at_least HO2.out hg')
        have HO5 := Lib.hid hown5
        clear hown5 hgrow5 hblk hix
        go_wp2_with fail
        go_roundw
        case rel =>
          refine ⟨j + 1, hlt, by go_num, ?_, hb5⟩
          rw [HF.out, List.length_append, List.map_append]
          exact HO5.out
        case measure => simp [intOf]; omega
    · have e9 : j = 8 := by omega
      subst e9
      go_wp2
      go_ret
      exact ⟨_, rfl, hown, hb3⟩
end Go.Proofs.Ytkjgnfpedponlaa
