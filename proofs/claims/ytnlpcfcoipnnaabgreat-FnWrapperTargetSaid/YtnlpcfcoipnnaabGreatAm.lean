/-
  laws.amIn, laws.amInts; which numbers stand in a list of those that are set.
-/
import Derived.Test.YtnlpcfcoipnnaabGreatFo
import Derived.Test.YtnlpcfcoipnnaabGreatOwnM
import Derived.Test.YtnlpcfcoipnnaabGreatDe
import Derived.Lib.Hide
import Derived.WalkSpells
import Derived.WalkSmall
import Derived.BigRegion
namespace Go.Proofs.YtnlpcfcoipnnaabGreat
open Go.RowKit
set_option maxRecDepth 100000

theorem has_take9 {zs : List Int} {j : Nat} {x : Int} (h : zs[j]? = some x) (n : Int) : decide (n ∈ zs.take (j + 1)) = (decide (n ∈ zs.take j) || decide (x = n)) := by
  rw [List.take_add_one, h, Bool.eq_iff_iff]
  simp only [decide_eq_true_iff, List.mem_append, Option.toList_some, List.mem_singleton, Bool.or_eq_true]
  exact or_congr Iff.rfl ⟨Eq.symm, Eq.symm⟩

set_option maxHeartbeats 1000000 in
theorem amIn_any (zs : List Int) (A : Option Addr) (c : Nat) (n : Int) (w : World) (hl : LiesI w 0 w.heap.size A zs) (hlen : zs.length ≤ 4194304) :
    Calls Tryz.prog 9 #[.slice A zs.length c, .int .i64 n] w (Gives (.bool (decide (n ∈ zs))) w) := by
  go_enter Tryz.func9, Tryz.ntmps9
  go_wp2_with fail
  go_loopw [5] (fun i wr => ∃ (j : Nat), j ≤ zs.length ∧ i = .int .i64 j ∧ decide (n ∈ zs.take j) = false ∧ Below w.heap.size w wr)
    (fun i _ => zs.length - (intOf i).toNat)
  case atStart => exact ⟨0, by omega, rfl, by simp, Below.refl _ _⟩
  case round =>
    obtain ⟨j, hj, rfl, hno, hb⟩ := hrel
    by_cases hlt : j < zs.length
    · have e1 := List.getElem?_eq_getElem hlt
      generalize zs[j] = x at e1
      obtain ⟨b, o, hA, _, hbb, ix, g1⟩ := (hl.below hb) j x e1
      have hk := has_take9 e1 n
      rw [hno, Bool.false_or] at hk
      have hm : x ∈ zs := List.mem_of_getElem? e1
      subst hA
      by_cases hx : x = n
      · have HY := Lib.hid (show decide (n ∈ zs) = true by rw [← hx]; simpa using hm)
        clear hk hm hno e1
        go_wp2_with fail
        go_ret
        exact ⟨ret_bool HY.out.symm, hb⟩
      · have HN := Lib.hid (show decide (n ∈ zs.take (j + 1)) = false by rw [hk]; simpa using hx)
        clear hk hm hno e1
        go_wp2_with fail
        go_roundw
        case rel => exact ⟨j + 1, hlt, by go_num, HN.out, hb⟩
        case measure => simp [intOf]; omega
    · have e9 : j = zs.length := by omega
      subst e9
      rw [List.take_length] at hno
      have HN := Lib.hid hno
      clear hno
      go_wp2_with fail
      go_ret
      exact ⟨ret_bool HN.out.symm, hb⟩

theorem nums_memA (S : Nat → Bool) : ∀ (j f : Nat), ((f : Int) ∈ numsUpto S j) ↔ (f < j ∧ S f = true)
  | 0, f => by simp [numsUpto]
  | j + 1, f => by
    have ih := nums_memA S j f
    simp only [numsUpto, List.mem_append, ih]
    by_cases h : S j = true
    · simp only [h, if_true, List.mem_singleton]
      constructor
      · rintro (⟨h1, h2⟩ | h1)
        · exact ⟨by omega, h2⟩
        · have : f = j := by omega
          subst this
          exact ⟨by omega, h⟩
      · rintro ⟨h1, h2⟩
        by_cases e : f = j
        · exact .inr (by omega)
        · exact .inl ⟨by omega, h2⟩
    · rw [if_neg h]
      simp only [List.not_mem_nil, or_false]
      constructor
      · rintro ⟨h1, h2⟩; exact ⟨by omega, h2⟩
      · rintro ⟨h1, h2⟩
        refine ⟨?_, h2⟩
        by_cases e : f = j
        · subst e; exact absurd h2 h
        · omega
theorem nums_dec (S : Nat → Bool) {f : Nat} (h : f < 8) : decide ((f : Int) ∈ numsUpto S 8) = S f := by
  rw [Bool.eq_iff_iff, decide_eq_true_eq, nums_memA]
  exact ⟨fun h => h.2, fun h2 => ⟨h, h2⟩⟩

theorem drop_eq {zs : List Int} {j : Nat} {x : Int} (h : zs[j]? = some x) : zs.drop j = x :: zs.drop (j + 1) := by
  obtain ⟨hi, rfl⟩ := List.getElem?_eq_some_iff.1 h
  exact List.drop_eq_getElem_cons hi

end Go.Proofs.YtnlpcfcoipnnaabGreat
