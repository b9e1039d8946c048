/-
  Two lists of numbers are compared: spec.l3Same and slices.Equal.
-/
import Derived.Test.YtjaabcfgnmomkaaLiesI
import Derived.Test.YtjaabcfgnmomkaaRows
import Derived.WalkKit
import Derived.WalkSpells
import Derived.Lib.Hide
import Derived.BigQuiet
import Derived.Deep.QuietTactic
import Derived.WalkSmall
namespace Go.Proofs.Ytjaabcfgnmomkaa
open Go.RowKit
set_option maxRecDepth 100000

/-- Are two lists of numbers equal? -/
def eqI (xs ys : List Int) : Bool := decide (xs = ys)

theorem eqI_lens {xs ys : List Int} (h : xs.length ≠ ys.length) : eqI xs ys = false := decide_eq_false fun e => h (by rw [e])
theorem eqI_part {xs ys : List Int} {j : Nat} {x y : Int} (hx : xs[j]? = some x) (hy : ys[j]? = some y) (h : x ≠ y) : eqI xs ys = false :=
  decide_eq_false fun e => h (by subst e; rw [hx] at hy; exact Option.some.inj hy)
theorem eqI_all {xs ys : List Int} {n : Nat} (hx : xs.length = n) (hy : ys.length = n) (h : xs.take n = ys.take n) : eqI xs ys = true := by
  refine decide_eq_true ?_
  rw [List.take_of_length_le (by omega), List.take_of_length_le (by omega)] at h
  exact h
theorem take_more {xs ys : List Int} {j : Nat} {x : Int} (hx : xs[j]? = some x) (hy : ys[j]? = some x) (h : xs.take j = ys.take j) : xs.take (j + 1) = ys.take (j + 1) := by
  rw [List.take_add_one, List.take_add_one, h, hx, hy]

set_option maxHeartbeats 400000 in
theorem l3Same_any (xs ys : List Int) (A A2 : Option Addr) (c c2 : Nat) (w : World) (hl : LiesI w 0 w.heap.size A xs) (hl2 : LiesI w 0 w.heap.size A2 ys) (hsz : xs.length ≤ 1048576) (hsz2 : ys.length ≤ 1048576) :
    Calls Try.prog 13 #[.slice A xs.length c, .slice A2 ys.length c2] w (Gives (.bool (eqI xs ys)) w) := by
  generalize hn : xs.length = n at hsz ⊢
  generalize hm : ys.length = m at hsz2 ⊢
  have HN := Lib.hid hn
  have HM := Lib.hid hm
  clear hn hm
  by_cases hnm : n = m
  · subst hnm
    go_enter Try.func13, Try.ntmps13
    go_wp2
    go_loopw [5] (fun i wr => ∃ (j : Nat), j ≤ n ∧ i = .int .i64 j ∧ Hid (xs.take j = ys.take j) ∧ Below w.heap.size w wr)
      (fun i _ => n - (intOf i).toNat)
    case atStart => exact ⟨0, by omega, rfl, Lib.hid (by simp), Below.refl _ _⟩
    case round =>
      obtain ⟨j, hj, rfl, ht, hb⟩ := hrel
      by_cases hlt : j < n
      · obtain ⟨x, e1⟩ : ∃ x, xs[j]? = some x := ⟨_, List.getElem?_eq_getElem (by rw [HN.out]; exact hlt)⟩
        obtain ⟨y, e2⟩ : ∃ y, ys[j]? = some y := ⟨_, List.getElem?_eq_getElem (by rw [HM.out]; exact hlt)⟩
        obtain ⟨b, o, hA, _, hbb, ix, g1⟩ := hl.below hb j x e1
        obtain ⟨b', o', hA', _, hbb', _, g1'⟩ := hl2.below hb j y e2
        subst hA hA'
        have E1 := Lib.hid e1
        have E2 := Lib.hid e2
        clear e1 e2
        by_cases hxy : x = y
        · subst hxy
          have HT := Lib.hid (take_more E1.out E2.out ht.out)
          go_wp2
          go_quiet (fail)
          have hb2 := below_drewN hb nq
          clear g1 g1' hb
          go_wp2
          go_roundw
          case rel => exact ⟨j + 1, by omega, by go_num, HT, hb2⟩
          case measure => simp [intOf]; omega
        · have HF := Lib.hid (eqI_part E1.out E2.out hxy)
          go_wp2
          go_quiet (fail)
          have hb2 := below_drewN hb nq
          clear g1 g1' hb
          go_wp2
          go_ret
          exact ⟨by rw [HF.out]; rfl, hb2⟩
      · have e9 : j = n := by omega
        subst e9
        have HF := Lib.hid (eqI_all HN.out HM.out ht.out)
        go_wp2
        go_ret
        exact ⟨by rw [HF.out]; rfl, hb⟩
  · have HF := Lib.hid (eqI_lens (xs := xs) (ys := ys) (by rw [HN.out, HM.out]; exact hnm))
    go_enter Try.func13, Try.ntmps13
    go_wp2
    go_ret
    exact ⟨by rw [HF.out]; rfl, Below.refl _ _⟩

set_option maxHeartbeats 400000 in
theorem slEqual_any (xs ys : List Int) (A A2 : Option Addr) (c c2 : Nat) (w : World) (hl : LiesI w 0 w.heap.size A xs) (hl2 : LiesI w 0 w.heap.size A2 ys) (hsz : xs.length ≤ 1048576) (hsz2 : ys.length ≤ 1048576) :
    Calls Try.prog 15 #[.slice A xs.length c, .slice A2 ys.length c2] w (Gives (.bool (eqI xs ys)) w) := by
  generalize hn : xs.length = n at hsz ⊢
  generalize hm : ys.length = m at hsz2 ⊢
  have HN := Lib.hid hn
  have HM := Lib.hid hm
  clear hn hm
  by_cases hnm : n = m
  · subst hnm
    go_enter Try.func15, Try.ntmps15
    go_wp2
    go_loopw [13] (fun i wr => ∃ (j : Nat), j ≤ n ∧ i = .int .i64 j ∧ Hid (xs.take j = ys.take j) ∧ Below w.heap.size w wr)
      (fun i _ => n - (intOf i).toNat)
    case atStart => exact ⟨0, by omega, rfl, Lib.hid (by simp), Below.refl _ _⟩
    case round =>
      obtain ⟨j, hj, rfl, ht, hb⟩ := hrel
      by_cases hlt : j < n
      · obtain ⟨x, e1⟩ : ∃ x, xs[j]? = some x := ⟨_, List.getElem?_eq_getElem (by rw [HN.out]; exact hlt)⟩
        obtain ⟨y, e2⟩ : ∃ y, ys[j]? = some y := ⟨_, List.getElem?_eq_getElem (by rw [HM.out]; exact hlt)⟩
        obtain ⟨b, o, hA, _, hbb, ix, g1⟩ := hl.below hb j x e1
        obtain ⟨b', o', hA', _, hbb', _, g1'⟩ := hl2.below hb j y e2
        subst hA hA'
        have E1 := Lib.hid e1
        have E2 := Lib.hid e2
        clear e1 e2
        by_cases hxy : x = y
        · subst hxy
          have HT := Lib.hid (take_more E1.out E2.out ht.out)
          go_wp2
          go_quiet (fail)
          have hb2 := below_drewN hb nq
          clear g1 g1' hb
          go_wp2
          go_roundw
          case rel => exact ⟨j + 1, by omega, by go_num, HT, hb2⟩
          case measure => simp [intOf]; omega
        · have HF := Lib.hid (eqI_part E1.out E2.out hxy)
          go_wp2
          go_quiet (fail)
          have hb2 := below_drewN hb nq
          clear g1 g1' hb
          go_wp2
          go_ret
          exact ⟨by rw [HF.out]; rfl, hb2⟩
      · have e9 : j = n := by omega
        subst e9
        have HF := Lib.hid (eqI_all HN.out HM.out ht.out)
        go_wp2
        go_ret
        exact ⟨by rw [HF.out]; rfl, hb⟩
  · have HF := Lib.hid (eqI_lens (xs := xs) (ys := ys) (by rw [HN.out, HM.out]; exact hnm))
    go_enter Try.func15, Try.ntmps15
    go_wp2
    go_ret
    exact ⟨by rw [HF.out]; rfl, Below.refl _ _⟩
end Go.Proofs.Ytjaabcfgnmomkaa
