/-
  All variables, those that are bound, those that are free.
-/
import Derived.Test.YtpoicdbjmhageaaFo
import Derived.Test.YtpoicdbjmhageaaCntVar
namespace Go.Proofs.Ytpoicdbjmhageaa
open Go.RowKit
set_option maxRecDepth 100000

theorem has_var (v : Nat) (f : Fo) : ∀ (s : Bool) (i : Nat), hasF ownVL f v = true → cntL (v : Int) s i f ≠ 0 ∨ hasF ownLet f v = true ∨ s = true := by
  induction f with
  | nil => intro s i h; simp [hasF] at h
  | cons o m k r ihk ihr =>
    intro s i h
    simp only [hasF, Bool.or_eq_true] at h
    cases s with
    | true => exact .inr (.inr rfl)
    | false =>
      simp only [cntL, hasF, Bool.or_eq_true]
      rw [if_neg (by simp)]
      rcases h with (h | h) | h
      · simp only [ownVL, Bool.and_eq_true, Bool.or_eq_true, decide_eq_true_iff] at h
        obtain ⟨h1 | h1, h2⟩ := h
        · left
          have : ownVar (v : Int) o m = 1 := by unfold ownVar; rw [if_pos ⟨h1, h2⟩]
          omega
        · exact .inr (.inl (.inl (.inl (by simp [ownLet, h1, h2]))))
      · rcases ihk (decide (o = 7 ∧ m = (v : Int))) 0 h with h | h | h
        · left; omega
        · exact .inr (.inl (.inl (.inr h)))
        · have := of_decide_eq_true h
          exact .inr (.inl (.inl (.inl (by simp [ownLet, this.1, this.2]))))
      · rcases ihr false (i + 1) h with h | h | h
        · left; omega
        · exact .inr (.inl (.inr h))
        · cases h
theorem all_bound_free (v : Nat) (op n : Int) (k : Fo) (h : hasB ownVL ⟨op, n, k⟩ v = true) : hasB ownLet ⟨op, n, k⟩ v = true ∨ cntN (v : Int) op n k ≠ 0 := by
  simp only [hasB, Bool.or_eq_true] at h ⊢
  unfold cntN
  rcases h with h | h
  · simp only [ownVL, Bool.and_eq_true, Bool.or_eq_true, decide_eq_true_iff] at h
    obtain ⟨h1 | h1, h2⟩ := h
    · right
      have : ownVar (v : Int) op n = 1 := by unfold ownVar; rw [if_pos ⟨h1, h2⟩]
      omega
    · exact .inl (.inl (by simp [ownLet, h1, h2]))
  · rcases has_var v k (decide (op = 7 ∧ n = (v : Int))) 0 h with h | h | h
    · right; omega
    · exact .inl (.inr h)
    · have := of_decide_eq_true h
      exact .inl (.inl (by simp [ownLet, this.1, this.2]))
theorem let_all (v : Nat) (f : Fo) : hasF ownLet f v = true → hasF ownVL f v = true := by
  induction f with
  | nil => intro h; simp [hasF] at h
  | cons o m k r ihk ihr =>
    intro h
    simp only [hasF, Bool.or_eq_true] at h ⊢
    rcases h with (h | h) | h
    · refine .inl (.inl ?_)
      simp only [ownLet, ownVL, Bool.and_eq_true, Bool.or_eq_true] at h ⊢
      exact ⟨.inr h.1, h.2⟩
    · exact .inl (.inr (ihk h))
    · exact .inr (ihr h)
theorem bound_all (v : Nat) (op n : Int) (k : Fo) (h : hasB ownLet ⟨op, n, k⟩ v = true) : hasB ownVL ⟨op, n, k⟩ v = true := by
  simp only [hasB, Bool.or_eq_true] at h ⊢
  rcases h with h | h
  · left
    simp only [ownLet, ownVL, Bool.and_eq_true, Bool.or_eq_true] at h ⊢
    exact ⟨.inr h.1, h.2⟩
  · exact .inr (let_all v k h)
theorem var_of (v : Nat) {o m : Int} (h : ownVar (v : Int) o m ≠ 0) : ownVL o m v = true := by
  unfold ownVar at h
  split at h
  · rename_i h2
    simp [ownVL, h2.1, h2.2]
  · exact absurd rfl h
theorem cnt_has (v : Nat) (f : Fo) : ∀ (s : Bool) (i : Nat), cntL (v : Int) s i f ≠ 0 → hasF ownVL f v = true := by
  induction f with
  | nil => intro s i h; exact absurd rfl h
  | cons o m k r ihk ihr =>
    intro s i h
    simp only [cntL] at h
    simp only [hasF, Bool.or_eq_true]
    by_cases hr : cntL (v : Int) s (i + 1) r = 0
    · left
      split at h
      · omega
      · by_cases ho : ownVar (v : Int) o m = 0
        · exact .inr (ihk (decide (o = 7 ∧ m = (v : Int))) 0 (by omega))
        · exact .inl (var_of v ho)
    · exact .inr (ihr s (i + 1) hr)
theorem free_all (v : Nat) (op n : Int) (k : Fo) (h : cntN (v : Int) op n k ≠ 0) : hasB ownVL ⟨op, n, k⟩ v = true := by
  simp only [hasB, Bool.or_eq_true]
  unfold cntN at h
  by_cases ho : ownVar (v : Int) op n = 0
  · exact .inr (cnt_has v k (decide (op = 7 ∧ n = (v : Int))) 0 (by omega))
  · exact .inl (var_of v ho)
theorem freeUpto_nums (op n : Int) (k : Fo) : ∀ j, freeUpto op n k j = numsUpto (fun v => decide (cntN (v : Int) op n k ≠ 0)) j
  | 0 => rfl
  | j + 1 => by
    unfold freeUpto numsUpto
    rw [freeUpto_nums op n k j]
    congr 1
    by_cases h : cntN (j : Int) op n k = 0 <;> simp [h]
theorem nums_len_le {S T : Nat → Bool} (h : ∀ v, S v = true → T v = true) : ∀ j, (numsUpto S j).length ≤ (numsUpto T j).length
  | 0 => Nat.le_refl _
  | j + 1 => by
    have ih := nums_len_le h j
    unfold numsUpto
    rw [List.length_append, List.length_append]
    by_cases hs : S j = true
    · rw [if_pos hs, if_pos (h j hs)]; simp; omega
    · rw [if_neg hs]; simp; omega
theorem nums_of {S : Nat → Bool} : ∀ {j : Nat} {x : Int}, x ∈ numsUpto S j → ∃ v : Nat, x = (v : Int) ∧ v < j ∧ S v = true
  | 0, x, h => by simp [numsUpto] at h
  | j + 1, x, h => by
    unfold numsUpto at h
    rcases List.mem_append.1 h with h | h
    · obtain ⟨v, h1, h2, h3⟩ := nums_of h
      exact ⟨v, h1, by omega, h3⟩
    · split at h
      · rename_i hs
        exact ⟨j, List.mem_singleton.1 h, by omega, hs⟩
      · simp at h
end Go.Proofs.Ytpoicdbjmhageaa
