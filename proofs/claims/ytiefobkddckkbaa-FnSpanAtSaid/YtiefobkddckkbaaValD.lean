/-
  What a valid expression wants of its scope: its free variables, and no more.
-/
import Derived.Test.YtiefobkddckkbaaOpen
import Derived.Test.YtiefobkddckkbaaCntVar
namespace Go.Proofs.Ytiefobkddckkbaa
open Go.RowKit
set_option maxRecDepth 100000

theorem setS_up {S : Nat → Bool} {v i : Nat} (h : S i = true) : setS S v i = true := by unfold setS; split <;> simp [h]
theorem inner_up {S : Nat → Bool} {op n : Int} {i v : Nat} (h : S v = true) : inner op n i S v = true := by
  unfold inner; split
  · exact setS_up h
  · exact h
theorem inner_own {S : Nat → Bool} {op n : Int} {i v : Nat} (h1 : op = 7 ∧ n = (v : Int)) (h2 : i = 1) : inner op n i S v = true := by
  unfold inner
  rw [if_pos ⟨h1.1, h2⟩]
  unfold setS
  rw [if_pos]
  have := h1.2
  omega

theorem vpF_up (f : Fo) : ∀ (i : Nat) (S T : Nat → Bool) (op n : Int), (∀ v : Nat, v < 8 → cntL (v : Int) (decide (op = 7 ∧ n = (v : Int))) i f ≠ 0 → T v = true) → vpF op n i S f = true → vpF op n i T f = true := by
  induction f with
  | nil => intros; rfl
  | cons o m k r ihk ihr =>
    intro i S T op n hT h
    simp only [vpF, Bool.and_eq_true] at h ⊢
    obtain ⟨⟨⟨h1, h2⟩, h3⟩, h4⟩ := h
    have key : ∀ v : Nat, v < 8 → ownVar (v : Int) o m + cntL (v : Int) (decide (o = 7 ∧ m = (v : Int))) 0 k ≠ 0 → inner op n i T v = true := fun v hv hc => by
      by_cases hs : (op = 7 ∧ n = (v : Int)) ∧ i = 1
      · exact inner_own hs.1 hs.2
      · refine inner_up (hT v hv ?_)
        simp only [cntL]
        rw [if_neg (by simpa using hs)]
        omega
    refine ⟨⟨⟨h1, ?_⟩, ihk 0 _ _ o m (fun v hv hc => key v hv (by omega)) h3⟩, ihr (i + 1) S T op n (fun v hv hc => hT v hv (by simp only [cntL]; omega)) h4⟩
    unfold ownOk at h2 ⊢
    by_cases e1 : o = 1
    · rw [if_pos e1] at h2 ⊢; exact h2
    · rw [if_neg e1] at h2 ⊢
      by_cases e2 : o = 2
      · rw [if_pos e2] at h2 ⊢
        simp only [Bool.and_eq_true] at h2 ⊢
        refine ⟨h2.1, ?_⟩
        obtain ⟨g1, g2⟩ := inVar_true h2.1
        obtain ⟨v, rfl⟩ := Int.eq_ofNat_of_zero_le g1
        refine key _ (by omega) ?_
        simp [ownVar, e2]
      · rw [if_neg e2] at h2 ⊢; exact h2

theorem ownOk_let {o m : Int} {S : Nat → Bool} (h : ownOk o m S = true) (ho : o = 7) : inVar m = true := by
  unfold ownOk at h
  rw [if_neg (by omega), if_neg (by omega), if_pos (.inl ho)] at h
  exact h

theorem vpF_free (f : Fo) : ∀ (i : Nat) (S : Nat → Bool) (op n : Int), (op = 7 → inVar n = true) → vpF op n i S f = true → ∀ v : Nat, v < 8 → cntL (v : Int) (decide (op = 7 ∧ n = (v : Int))) i f ≠ 0 → S v = true := by
  induction f with
  | nil => intro i S op n _ _ v _ h; exact absurd rfl h
  | cons o m k r ihk ihr =>
    intro i S op n hn h v hv hc
    simp only [vpF, Bool.and_eq_true] at h
    obtain ⟨⟨⟨h1, h2⟩, h3⟩, h4⟩ := h
    by_cases hr : cntL (v : Int) (decide (op = 7 ∧ n = (v : Int))) (i + 1) r = 0
    · simp only [cntL] at hc
      by_cases hs : (op = 7 ∧ n = (v : Int)) ∧ i = 1
      · rw [if_pos (by simpa using hs)] at hc
        omega
      · rw [if_neg (by simpa using hs)] at hc
        have hin : inner op n i S v = true := by
          by_cases ho : ownVar (v : Int) o m = 0
          · exact ihk 0 _ o m (ownOk_let h2) h3 v hv (by omega)
          · have he : o = 2 ∧ m = (v : Int) := by
              unfold ownVar at ho
              split at ho
              · assumption
              · exact absurd rfl ho
            obtain ⟨rfl, rfl⟩ := he
            unfold ownOk at h2
            rw [if_neg (by omega), if_pos rfl] at h2
            simp only [Bool.and_eq_true] at h2
            simpa using h2.2
        unfold inner at hin
        split at hin
        · rename_i h7
          unfold setS at hin
          split at hin
          · rename_i hvn
            have := inVar_true (hn h7.1)
            exact absurd ⟨⟨h7.1, by omega⟩, h7.2⟩ hs
          · exact hin
        · exact hin
    · exact ihr (i + 1) S op n hn h4 v hv hr

theorem nodeVp_up {op n : Int} {k : Fo} {S T : Nat → Bool} (hT : ∀ v : Nat, v < 8 → cntN (v : Int) op n k ≠ 0 → T v = true) (h : nodeVp op n k S = true) : nodeVp op n k T = true := by
  unfold nodeVp at h ⊢
  simp only [Bool.and_eq_true] at h ⊢
  obtain ⟨⟨h1, h2⟩, h3⟩ := h
  refine ⟨⟨h1, ?_⟩, vpF_up k 0 S T op n (fun v hv hc => hT v hv (by unfold cntN; omega)) h3⟩
  unfold ownOk at h2 ⊢
  by_cases e1 : op = 1
  · rw [if_pos e1] at h2 ⊢; exact h2
  · rw [if_neg e1] at h2 ⊢
    by_cases e2 : op = 2
    · rw [if_pos e2] at h2 ⊢
      simp only [Bool.and_eq_true] at h2 ⊢
      refine ⟨h2.1, ?_⟩
      obtain ⟨g1, g2⟩ := inVar_true h2.1
      obtain ⟨v, rfl⟩ := Int.eq_ofNat_of_zero_le g1
      refine hT _ (by omega) ?_
      simp [cntN, ownVar, e2]
    · rw [if_neg e2] at h2 ⊢; exact h2
theorem nodeVp_free {op n : Int} {k : Fo} {S : Nat → Bool} (h : nodeVp op n k S = true) : ∀ v : Nat, v < 8 → cntN (v : Int) op n k ≠ 0 → S v = true := by
  unfold nodeVp at h
  simp only [Bool.and_eq_true] at h
  obtain ⟨⟨h1, h2⟩, h3⟩ := h
  intro v hv hc
  by_cases ho : ownVar (v : Int) op n = 0
  · exact vpF_free k 0 S op n (ownOk_let h2) h3 v hv (by unfold cntN at hc; omega)
  · have he : op = 2 ∧ n = (v : Int) := by
      unfold ownVar at ho
      split at ho
      · assumption
      · exact absurd rfl ho
    obtain ⟨rfl, rfl⟩ := he
    unfold ownOk at h2
    rw [if_neg (by omega), if_pos rfl] at h2
    simp only [Bool.and_eq_true] at h2
    simpa using h2.2
theorem nodeIs_up {op n : Int} {k : Fo} {S T : Nat → Bool} (hT : ∀ v : Nat, v < 8 → cntN (v : Int) op n k ≠ 0 → T v = true) (h : nodeIs op n k S = true) : nodeIs op n k T = true := by
  rw [nodeIs_eq, Bool.and_eq_true] at h ⊢
  exact ⟨h.1, nodeVp_up hT h.2⟩
theorem nodeIs_free {op n : Int} {k : Fo} {S : Nat → Bool} (h : nodeIs op n k S = true) : ∀ v : Nat, v < 8 → cntN (v : Int) op n k ≠ 0 → S v = true := by
  rw [nodeIs_eq, Bool.and_eq_true] at h
  exact nodeVp_free h.2
theorem free_of {op n : Int} {k : Fo} : ∀ {j : Nat} {x : Int}, j ≤ 8 → (x ∈ freeUpto op n k j ↔ ∃ v : Nat, x = (v : Int) ∧ v < j ∧ cntN (v : Int) op n k ≠ 0)
  | 0, _, _ => by simp [freeUpto]
  | j + 1, x, hj => by
    unfold freeUpto
    rw [List.mem_append, free_of (by omega)]
    constructor
    · rintro (⟨v, h1, h2, h3⟩ | h)
      · exact ⟨v, h1, by omega, h3⟩
      · split at h
        · simp at h
        · rename_i hs
          exact ⟨j, List.mem_singleton.1 h, by omega, hs⟩
    · rintro ⟨v, h1, h2, h3⟩
      by_cases e : v = j
      · subst e; right; rw [if_neg h3]; simp [h1]
      · left; exact ⟨v, h1, by omega, h3⟩
theorem free_vars (op n : Int) (k : Fo) : allVars (freeUpto op n k 8) = true := by
  unfold allVars
  rw [List.all_eq_true]
  intro x hx
  obtain ⟨v, rfl, h, _⟩ := (free_of (Nat.le_refl 8)).1 hx
  unfold inVar
  simp
  omega
/-- Valid: valid with its own free variables; these are in the scope; the scope's are variables. -/
theorem valid_free (op n : Int) (k : Fo) (zs : List Int) : validOf op n k zs = ((validOf op n k (freeUpto op n k 8) && (freeUpto op n k 8).all (fun x => decide (x ∈ zs))) && zs.all (fun x => decide (x ≥ 0) && decide (x < 8))) := by
  have hv : zs.all (fun x => decide (x ≥ 0) && decide (x < 8)) = allVars zs := rfl
  rw [hv, Bool.eq_iff_iff]
  unfold validOf
  rw [free_vars]
  simp only [Bool.and_eq_true, List.all_eq_true, decide_eq_true_iff, true_and]
  constructor
  · rintro ⟨h1, h2⟩
    have hf := nodeIs_free h2
    refine ⟨⟨nodeIs_up (fun v hv hc => ?_) h2, fun x hx => ?_⟩, h1⟩
    · unfold scopeOf
      rw [decide_eq_true_iff, free_of (Nat.le_refl 8)]
      exact ⟨v, rfl, hv, hc⟩
    · obtain ⟨v, rfl, h8, hc⟩ := (free_of (Nat.le_refl 8)).1 hx
      have := hf v h8 hc
      unfold scopeOf at this
      exact of_decide_eq_true this
  · rintro ⟨⟨h1, h2⟩, h3⟩
    refine ⟨h3, nodeIs_up (fun v hv hc => ?_) h1⟩
    unfold scopeOf
    rw [decide_eq_true_iff]
    exact h2 _ ((free_of (Nat.le_refl 8)).2 ⟨v, rfl, hv, hc⟩)
/-- The operands of a valid expression are valid with all variables. -/
theorem valid_kid {op n : Int} {k : Fo} {zs : List Int} (h : validOf op n k zs = true) {j : Nat} {o m : Int} {k1 : Fo} (e : k.drop j = .cons o m k1 (k.drop (j + 1))) : validOf o m k1 [0, 1, 2, 3, 4, 5, 6, 7] = true := by
  have hall : scopeOf [0, 1, 2, 3, 4, 5, 6, 7] = scopeOf [0, 1, 2, 3, 4, 5, 6, 7] := rfl
  have hS : ∀ v : Nat, v < 8 → scopeOf [0, 1, 2, 3, 4, 5, 6, 7] v = true := fun v hv => by
    unfold scopeOf
    rw [decide_eq_true_iff]
    simp
    omega
  unfold validOf at h ⊢
  rw [Bool.and_eq_true] at h ⊢
  refine ⟨by decide, ?_⟩
  have h2 := h.2
  rw [nodeIs_eq, Bool.and_eq_true] at h2 ⊢
  obtain ⟨hs, hp⟩ := h2
  have hsub : ∀ (f : Fo) (j i : Nat), f.drop j = .cons o m k1 (f.drop (j + 1)) → vpF op n i (scopeOf zs) f = true → (k1.dep + 1 ≤ f.dep ∧ k1.size + 1 ≤ f.size) ∧ ∃ i' , nodeVp o m k1 (inner op n i' (scopeOf zs)) = true := by
    intro f
    induction f with
    | nil => intro j i e _; cases j <;> simp [Fo.drop] at e
    | cons o2 m2 k2 r ihk ihr =>
      intro j i e hp
      simp only [vpF, Bool.and_eq_true] at hp
      obtain ⟨⟨⟨g1, g2⟩, g3⟩, g4⟩ := hp
      cases j with
      | zero =>
        rw [Fo.drop_zero] at e
        injection e with e1 e2 e3 e4
        subst e1 e2 e3
        refine ⟨⟨by simp only [Fo.dep]; omega, by simp only [Fo.size]; omega⟩, i, ?_⟩
        unfold nodeVp
        rw [g1, g2, g3]
        rfl
      | succ j =>
        obtain ⟨⟨a, b⟩, c⟩ := ihr j (i + 1) (by simpa [Fo.drop] using e) g4
        exact ⟨⟨by simp only [Fo.dep]; omega, by simp only [Fo.size]; omega⟩, c⟩
  have hp' := hp
  unfold nodeVp at hp'
  simp only [Bool.and_eq_true] at hp'
  obtain ⟨⟨d1, d2⟩, i', hq⟩ := hsub k j 0 e hp'.2
  refine ⟨?_, nodeVp_up (fun v hv _ => hS v hv) hq⟩
  unfold smallOk at hs ⊢
  simp only [Bool.and_eq_true, decide_eq_true_iff] at hs ⊢
  omega
end Go.Proofs.Ytiefobkddckkbaa
