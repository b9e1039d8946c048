/-
  An expression whose names are told apart: its bound variables are not free; all are these and those.
-/
import Derived.Test.YtpoicdbjmhageaaPutD
import Derived.Test.YtpoicdbjmhageaaAllD
import Derived.Test.YtpoicdbjmhageaaCntVar
namespace Go.Proofs.Ytpoicdbjmhageaa
open Go.RowKit
set_option maxRecDepth 100000

theorem lets_has (v : Nat) : ∀ f : Fo, hasF ownLet f v = true → letsF v f ≠ 0
  | .nil, h => by simp [hasF] at h
  | .cons o m k r, h => by
    simp only [hasF, Bool.or_eq_true] at h
    simp only [letsF]
    rcases h with (h | h) | h
    · have : ownLet1 v o m = 1 := by
        simp only [ownLet, Bool.and_eq_true, decide_eq_true_iff] at h
        unfold ownLet1
        rw [if_pos h]
      omega
    · have := lets_has v k h; omega
    · have := lets_has v r h; omega
theorem lets_hasN (v : Nat) (op n : Int) (k : Fo) (h : hasB ownLet ⟨op, n, k⟩ v = true) : letsN v op n k ≠ 0 := by
  simp only [hasB, Bool.or_eq_true] at h
  unfold letsN
  rcases h with h | h
  · have : ownLet1 v op n = 1 := by
      simp only [ownLet, Bool.and_eq_true, decide_eq_true_iff] at h
      unfold ownLet1
      rw [if_pos h]
    omega
  · have := lets_has v k h; omega
theorem uni_bound {op n : Int} {k : Fo} (h : uniB op n k = true) {v : Nat} (hv : v < 8) (hb : hasB ownLet ⟨op, n, k⟩ v = true) : cntN (v : Int) op n k = 0 := by
  unfold uniB at h
  rw [Bool.and_eq_true] at h
  obtain ⟨_, h2⟩ := uniUpto_iff.1 h.2 v hv
  exact h2.resolve_left (lets_hasN v op n k hb)
theorem nums_sum {S T U : Nat → Bool} : ∀ {j : Nat}, (∀ v, v < j → U v = (S v || T v) ∧ (S v && T v) = false) → (numsUpto S j).length + (numsUpto T j).length = (numsUpto U j).length
  | 0, _ => rfl
  | j + 1, h => by
    have ih := nums_sum (S := S) (T := T) (U := U) (j := j) (fun v hv => h v (by omega))
    obtain ⟨h1, h2⟩ := h j (Nat.lt_succ_self j)
    unfold numsUpto
    rw [List.length_append, List.length_append, List.length_append, h1]
    cases hs : S j <;> cases ht : T j
    · simp; omega
    · simp; omega
    · simp; omega
    · rw [hs, ht] at h2; cases h2
theorem uni_sum {op n : Int} {k : Fo} (h : uniB op n k = true) : (numsUpto (hasB ownLet ⟨op, n, k⟩) 8).length + (freeUpto op n k 8).length = (numsUpto (hasB ownVL ⟨op, n, k⟩) 8).length := by
  rw [freeUpto_nums]
  refine nums_sum fun v hv => ⟨?_, ?_⟩
  · rw [Bool.eq_iff_iff]
    simp only [Bool.or_eq_true, decide_eq_true_iff]
    exact ⟨all_bound_free v op n k, fun hh => hh.elim (bound_all v op n k) (free_all v op n k)⟩
  · rw [Bool.and_eq_false_iff]
    by_cases hb : hasB ownLet ⟨op, n, k⟩ v = true
    · right
      have := uni_bound h hv hb
      simp [this]
    · left
      simpa using hb
end Go.Proofs.Ytpoicdbjmhageaa
