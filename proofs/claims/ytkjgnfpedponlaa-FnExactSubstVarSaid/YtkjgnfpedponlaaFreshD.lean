/-
  The first variable that is not in a list, as data; spec.l1Has.
-/
import Derived.Test.YtkjgnfpedponlaaNums
namespace Go.Proofs.Ytkjgnfpedponlaa
open Go.RowKit Go.Shelf
set_option maxRecDepth 100000

def freshL (zs : List Int) : Nat → Nat → Option Nat
  | 0, _ => none
  | f + 1, v => if ((v : Int) ∈ zs) then freshL zs f (v + 1) else some v
def freshV (zs : List Int) : Option Nat := freshL zs 8 0
theorem freshL_in {zs : List Int} {j : Nat} (hj : j < 8) (h : (j : Int) ∈ zs) : freshL zs (8 - j) j = freshL zs (8 - (j + 1)) (j + 1) := by
  rw [show 8 - j = (8 - (j + 1)) + 1 by omega]
  simp [freshL, h]
theorem freshL_out {zs : List Int} {j : Nat} (hj : j < 8) (h : ¬ (j : Int) ∈ zs) : freshL zs (8 - j) j = some j := by
  rw [show 8 - j = (8 - (j + 1)) + 1 by omega]
  simp [freshL, h]
theorem freshL_lt {zs : List Int} : ∀ {f v x : Nat}, freshL zs f v = some x → v ≤ x ∧ x < v + f ∧ ¬ ((x : Int) ∈ zs)
  | 0, _, _, h => by simp [freshL] at h
  | f + 1, v, x, h => by
    unfold freshL at h
    split at h
    · obtain ⟨h1, h2, h3⟩ := freshL_lt h
      exact ⟨by omega, by omega, h3⟩
    · cases h; rename_i h2; exact ⟨Nat.le_refl _, by omega, h2⟩
theorem freshV_lt {zs : List Int} {x : Nat} (h : freshV zs = some x) : x < 8 ∧ ¬ ((x : Int) ∈ zs) := by
  obtain ⟨_, h2, h3⟩ := freshL_lt h
  exact ⟨by omega, h3⟩

theorem has_take {zs : List Int} {j : Nat} {x : Int} (h : zs[j]? = some x) (n : Int) : decide (n ∈ zs.take (j + 1)) = (decide (n ∈ zs.take j) || decide (x = n)) := by
  rw [List.take_add_one, h, Bool.eq_iff_iff]
  simp only [decide_eq_true_iff, List.mem_append, Option.toList_some, List.mem_singleton, Bool.or_eq_true]
  exact or_congr Iff.rfl ⟨Eq.symm, Eq.symm⟩

set_option maxHeartbeats 1000000 in
theorem l1Has_any (zs : List Int) (A : Option Addr) (c : Nat) (n : Int) (w : World) (hl : LiesI w 0 w.heap.size A zs) (hlen : zs.length ≤ 4194304) :
    Calls Try.prog 20 #[.slice A zs.length c, .int .i64 n] w (Gives (.bool (decide (n ∈ zs))) w) := by
  go_enter Try.func20, Try.ntmps20
  go_wp2_with fail
  go_loopw [5] (fun i wr => ∃ (j : Nat), j ≤ zs.length ∧ i = .int .i64 j ∧ decide (n ∈ zs.take j) = false ∧ Below w.heap.size w wr)
    (fun i _ => zs.length - (intOf i).toNat)
  case atStart => exact ⟨0, by omega, rfl, by simp, Below.refl _ _⟩
  case round =>
    obtain ⟨j, hj, rfl, hno, hb⟩ := hrel
    by_cases hlt : j < zs.length
    · have e1 := List.getElem?_eq_getElem hlt
      generalize zs[j] = x at e1
      obtain ⟨b, o, hA, _, hbb, ix, g1⟩ := (hl.below hb) j x e1
      have hk := has_take e1 n
      rw [hno, Bool.false_or] at hk
      have hm : x ∈ zs := List.mem_of_getElem? e1
      subst hA
      by_cases hx : x = n
      · have HY := Lib.hid (show decide (n ∈ zs) = true by rw [← hx]; simpa using hm)
        clear hk hm hno e1
        go_wp2_with fail
        go_ret
        exact ⟨ret_bool HY.out.symm, hb⟩
      · have HN := Lib.hid (show decide (n ∈ zs.take (j + 1)) = false by rw [hk]; simpa using hx)
        clear hk hm hno e1
        go_wp2_with fail
        go_roundw
        case rel => exact ⟨j + 1, hlt, by go_num, HN.out, hb⟩
        case measure => simp [intOf]; omega
    · have e9 : j = zs.length := by omega
      subst e9
      rw [List.take_length] at hno
      have HN := Lib.hid hno
      clear hno
      go_wp2_with fail
      go_ret
      exact ⟨ret_bool HN.out.symm, hb⟩
end Go.Proofs.Ytkjgnfpedponlaa
