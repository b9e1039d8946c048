/-
  impl.argumentsOf: the variables that are the arguments of a function.
-/
import Derived.Test.YtbpcggbmlaomjaaFlags
import Derived.Test.YtbpcggbmlaomjaaDe
import Derived.Test.YtbpcggbmlaomjaaRows
import Derived.Test.YtbpcggbmlaomjaaFo
import Derived.WalkKit
import Derived.WalkSpells
import Derived.Lib.Hide
import Derived.Maps.AppendAt
namespace Go.Proofs.Ytbpcggbmlaomjaa
open Go.RowKit
set_option maxRecDepth 100000

def upto : Nat → List Int
  | 0 => []
  | j + 1 => upto j ++ [(j : Int)]
theorem upto_len : ∀ j, (upto j).length = j
  | 0 => rfl
  | j + 1 => by simp [upto, upto_len j]
theorem upto_mem : ∀ (j : Nat) (x : Int), x ∈ upto j ↔ 0 ≤ x ∧ x < j
  | 0, x => by simp only [upto, List.not_mem_nil, false_iff]; omega
  | j + 1, x => by simp [upto, upto_mem j x]; omega

theorem argumentsOf_any (d : De) (A : Option Addr) (c : Nat) (w : World) (r : Nat) (hr : d.ar = (r : Int)) (h3 : r ≤ 3) :
    Calls Try.prog 66 #[.agg #[.int .i64 d.nm, .int .i64 d.ar, .bool d.old, .int .i64 d.op, .int .i64 d.n, .slice A d.k.len c]] w fun e w' =>
      ∃ v, e = .returned v ∧ w'.ownsRow w.heap.size 3 1 v (upto r).length ((upto r).map (Value.int .i64)) ∧ Below w.heap.size w w' := by
  obtain ⟨nm, ar, old, op, n, k⟩ := d
  dsimp only at *
  subst hr
  go_enter Try.func66, Try.ntmps66
  go_wp2_with fail
  have own0 : (w.alloc (Obj.cells #[Value.int IntKind.i64 nm, Value.int IntKind.i64 (r : Int), Value.bool old, Value.int IntKind.i64 op, Value.int IntKind.i64 n, Value.slice A k.len c] 56)).ownsRow w.heap.size 3 1 (.slice none 0 0) (upto 0).length ((upto 0).map (Value.int .i64)) := World.ownsRow_nil _ _ _ _
  have hb0 : Below w.heap.size w (w.alloc (Obj.cells #[Value.int IntKind.i64 nm, Value.int IntKind.i64 (r : Int), Value.bool old, Value.int IntKind.i64 op, Value.int IntKind.i64 n, Value.slice A k.len c] 56)) := (Below.refl _ _).alloc (Nat.le_refl _) _
  go_loopw [3, 7] (fun v i wr => ∃ (j : Nat), j ≤ r ∧ i = .int .i64 j ∧ wr.ownsRow w.heap.size 3 1 v (upto j).length ((upto j).map (Value.int .i64)) ∧ Below w.heap.size w wr)
    (fun _ i _ => r - (intOf i).toNat)
  case atStart => exact ⟨0, by omega, rfl, own0, hb0⟩
  case round =>
    clear own0 hb0
    obtain ⟨j, hj, rfl, hown, hb3⟩ := hrel
    by_cases hlt : j < r
    · have HO2 := Lib.hid hown
      have hlen : (upto j).length = j := upto_len j
      obtain ⟨iT, hiT, hiz0, hiz1, hiz2⟩ := info_parts (show (Try.prog.info? 3).map (fun i => (i.zero, i.size, i.bytes)) = some (some (.int .i64 0), 1, 8) by kernel_rfl)
      have HIT := Lib.hid hiT
      have HIZ0 := Lib.hid hiz0
      have HIZ1 := Lib.hid hiz1
      have HIZ2 := Lib.hid hiz2
      have C1 := Lib.hid (fresh_cells wr 3 #[Value.int .i64 (j : Int)])
      have HC2 := Lib.hid (show ∀ u ∈ [Value.int .i64 (j : Int)], u.oneCell' = true by intro u hu; rw [List.mem_singleton.1 hu]; rfl)
      have HC3 := Lib.hid (show (upto j).length + 1 ≤ maxLen by unfold maxLen; omega)
      have HC4 := Lib.hid (show ((upto j).length + 1) * 8 ≤ 140737488355328 by omega)
      have HC5 := Lib.hid (show w.heap.size ≤ (wr.alloc (.cells #[Value.int .i64 (j : Int)] 3)).heap.size by have := hb3.size; rw [World.size_alloc]; omega)
      have HOA := Lib.hid (HO2.out.alloc (.cells #[Value.int .i64 (j : Int)] 3))
      clear hiT hiz0 hiz1 hiz2 hown hlen
      go_wp2_with (at_builtin; refine wpList_append_own_at _ rfl _ _ 24 rfl w.heap.size 3 iT _ 1 8 Try.underlying24 HIT.out HIZ0.out HIZ1.out HIZ2.out rfl (by decide) _ _ _ rfl HOA.out ⟨wr.heap.size, 0, none⟩ 1 1 [Value.int .i64 (j : Int)] rfl rfl C1.out HC2.out HC3.out HC4.out HC5.out ?_; intro v' w' hown5 hgrow5 _ hblk)
      have hb5 : Below w.heap.size w w' := Below.grown (hb3.alloc hb3.size (.cells #[Value.int .i64 (j : Int)] 3)) hgrow5 HC5.out (fun g' hg' => own_at_least HO2.out hg')
      have HO5 := Lib.hid hown5
      clear hown5 hgrow5 hblk
      go_wp2_with fail
      go_roundw
      case rel =>
        refine ⟨j + 1, hlt, by go_num, ?_, hb5⟩
        show w'.ownsRow w.heap.size 3 1 v' (upto j ++ [(j : Int)]).length ((upto j ++ [(j : Int)]).map (Value.int .i64))
        rw [List.length_append, List.map_append]
        exact HO5.out
      case measure => simp [intOf]; omega
    · have e9 : j = r := by omega
      subst e9
      go_wp2
      go_ret
      exact ⟨_, rfl, hown, hb3⟩
end Go.Proofs.Ytbpcggbmlaomjaa
