/-
  laws.amIn, laws.amInts; which numbers stand in a list of those that are set.
-/
import Derived.Test.YtpknegneogdmfaaGreatFo
import Derived.Test.YtpknegneogdmfaaGreatOwnM
import Derived.Test.YtpknegneogdmfaaGreatDe
import Derived.Lib.Hide
import Derived.WalkSpells
import Derived.WalkSmall
import Derived.BigRegion
namespace Go.Proofs.YtpknegneogdmfaaGreat
open Go.RowKit
set_option maxRecDepth 100000

theorem has_take9 {zs : List Int} {j : Nat} {x : Int} (h : zs[j]? = some x) (n : Int) : decide (n ∈ zs.take (j + 1)) = (decide (n ∈ zs.take j) || decide (x = n)) := by
  rw [List.take_add_one, h, Bool.eq_iff_iff]
  simp only [decide_eq_true_iff, List.mem_append, Option.toList_some, List.mem_singleton, Bool.or_eq_true]
  exact or_congr Iff.rfl ⟨Eq.symm, Eq.symm⟩

set_option maxHeartbeats 1000000 in
theorem amIn_any (zs : List Int) (A : Option Addr) (c : Nat) (n : Int) (w : World) (hl : LiesI w 0 w.heap.size A zs) (hlen : zs.length ≤ 4194304) :
    Calls Tryz.prog 8 #[.slice A zs.length c, .int .i64 n] w (Gives (.bool (decide (n ∈ zs))) w) := by
  go_enter Tryz.func8, Tryz.ntmps8
  go_wp2_with fail
  go_loopw [5] (fun i wr => ∃ (j : Nat), j ≤ zs.length ∧ i = .int .i64 j ∧ decide (n ∈ zs.take j) = false ∧ Below w.heap.size w wr)
    (fun i _ => zs.length - (intOf i).toNat)
  case atStart => exact ⟨0, by omega, rfl, by simp, Below.refl _ _⟩
  case round =>
    obtain ⟨j, hj, rfl, hno, hb⟩ := hrel
    by_cases hlt : j < zs.length
    · have e1 := List.getElem?_eq_getElem hlt
      generalize zs[j] = x at e1
      obtain ⟨b, o, hA, _, hbb, ix, g1⟩ := (hl.below hb) j x e1
      have hk := has_take9 e1 n
      rw [hno, Bool.false_or] at hk
      have hm : x ∈ zs := List.mem_of_getElem? e1
      subst hA
      by_cases hx : x = n
      · have HY := Lib.hid (show decide (n ∈ zs) = true by rw [← hx]; simpa using hm)
        clear hk hm hno e1
        go_wp2_with fail
        go_ret
        exact ⟨ret_bool HY.out.symm, hb⟩
      · have HN := Lib.hid (show decide (n ∈ zs.take (j + 1)) = false by rw [hk]; simpa using hx)
        clear hk hm hno e1
        go_wp2_with fail
        go_roundw
        case rel => exact ⟨j + 1, hlt, by go_num, HN.out, hb⟩
        case measure => simp [intOf]; omega
    · have e9 : j = zs.length := by omega
      subst e9
      rw [List.take_length] at hno
      have HN := Lib.hid hno
      clear hno
      go_wp2_with fail
      go_ret
      exact ⟨ret_bool HN.out.symm, hb⟩

theorem nums_memA (S : Nat → Bool) : ∀ (j f : Nat), ((f : Int) ∈ numsUpto S j) ↔ (f < j ∧ S f = true)
  | 0, f => by simp [numsUpto]
  | j + 1, f => by
    have ih := nums_memA S j f
    simp only [numsUpto, List.mem_append, ih]
    by_cases h : S j = true
    · simp only [h, if_true, List.mem_singleton]
      constructor
      · rintro (⟨h1, h2⟩ | h1)
        · exact ⟨by omega, h2⟩
        · have : f = j := by omega
          subst this
          exact ⟨by omega, h⟩
      · rintro ⟨h1, h2⟩
        by_cases e : f = j
        · exact .inr (by omega)
        · exact .inl ⟨by omega, h2⟩
    · rw [if_neg h]
      simp only [List.not_mem_nil, or_false]
      constructor
      · rintro ⟨h1, h2⟩; exact ⟨by omega, h2⟩
      · rintro ⟨h1, h2⟩
        refine ⟨?_, h2⟩
        by_cases e : f = j
        · subst e; exact absurd h2 h
        · omega
theorem nums_dec (S : Nat → Bool) {f : Nat} (h : f < 8) : decide ((f : Int) ∈ numsUpto S 8) = S f := by
  rw [Bool.eq_iff_iff, decide_eq_true_eq, nums_memA]
  exact ⟨fun h => h.2, fun h2 => ⟨h, h2⟩⟩

theorem drop_eq {zs : List Int} {j : Nat} {x : Int} (h : zs[j]? = some x) : zs.drop j = x :: zs.drop (j + 1) := by
  obtain ⟨hi, rfl⟩ := List.getElem?_eq_some_iff.1 h
  exact List.drop_eq_getElem_cons hi

set_option maxHeartbeats 1000000 in
theorem amInts_any (zs ys : List Int) (A A' : Option Addr) (c c' : Nat) (w : World) (hl : LiesI w 0 w.heap.size A zs) (hl' : LiesI w 0 w.heap.size A' ys) (hz : zs.length ≤ 4194304) (_hy : ys.length ≤ 4194304) :
    Calls Tryz.prog 6 #[.slice A zs.length c, .slice A' ys.length c'] w (Gives (.bool (decide (zs = ys))) w) := by
  by_cases hlen : zs.length = ys.length
  rotate_left
  · have h1 : decide (zs = ys) = false := by simpa using fun e => hlen (by rw [e])
    rw [h1]
    have h2 : ((zs.length : Int) != (ys.length : Int)) = true := by simp; omega
    clear h1
    go_enter Tryz.func6, Tryz.ntmps6
    go_wp2_with fail
    go_ret
    exact ⟨rfl, Below.refl _ _⟩
  obtain ⟨z, hzz⟩ : ∃ z, decide (zs = ys) = z := ⟨_, rfl⟩
  rw [hzz]
  have HZ := Lib.hid hzz
  have h2 : ((zs.length : Int) != (ys.length : Int)) = false := by simp; omega
  have HLEN := Lib.hid hlen
  clear hzz hlen
  go_enter Tryz.func6, Tryz.ntmps6
  go_wp2_with fail
  clear h2
  go_loopw [5] (fun i wr => ∃ (j : Nat), j ≤ zs.length ∧ i = .int .i64 j ∧ decide (zs.drop j = ys.drop j) = z ∧ Below w.heap.size w wr)
    (fun i _ => zs.length - (intOf i).toNat)
  case atStart => exact ⟨0, by omega, rfl, by rw [List.drop_zero, List.drop_zero]; exact HZ.out, Below.refl _ _⟩
  case round =>
    obtain ⟨j, hj, rfl, hd, hb⟩ := hrel
    by_cases hlt : j < zs.length
    · have hlt' : j < ys.length := by have := HLEN.out; omega
      have e1 := List.getElem?_eq_getElem hlt
      have e2 := List.getElem?_eq_getElem hlt'
      generalize zs[j] = x at e1
      generalize ys[j] = y at e2
      obtain ⟨b, o, hA, _, hbb, ix, g1⟩ := (hl.below hb) j x e1
      obtain ⟨b', o', hA', _, hbb', ix', g2⟩ := (hl'.below hb) j y e2
      rw [drop_eq e1, drop_eq e2] at hd
      subst hA hA'
      clear e1 e2
      by_cases hx : x = y
      · subst hx
        have HD := Lib.hid (show decide (zs.drop (j + 1) = ys.drop (j + 1)) = z by rw [← hd]; simp)
        have h3 : (x != x) = false := by simp
        clear hd
        go_wp2_with fail
        go_region
        all_goals
          go_wp2_with fail
          go_roundw
          case rel => exact ⟨j + 1, hlt, by go_num, HD.out, hb.drew⟩
          case measure => simp [intOf]; omega
      · have h3 : (x != y) = true := by simpa using hx
        obtain rfl : false = z := by rw [← hd]; simp [hx]
        clear hd
        go_wp2_with fail
        go_region
        all_goals
          go_wp2_with fail
          go_ret
          exact ⟨rfl, hb.drew⟩
    · have e9 : j = zs.length := by omega
      have hd2 : true = z := by rw [← hd, e9, List.drop_length, HLEN.out, List.drop_length]; simp
      subst hd2
      clear hd
      go_wp2_with fail
      go_ret
      exact ⟨rfl, hb⟩
end Go.Proofs.YtpknegneogdmfaaGreat
