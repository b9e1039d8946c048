/-
  The functions out of use that an expression calls, as data.
-/
import Derived.Test.YthimgboeankpcaaCFit
import Derived.Test.YthimgboeankpcaaCalls
import Derived.Test.YthimgboeankpcaaLibV
namespace Go.Proofs.Ythimgboeankpcaa
open Go.RowKit
set_option maxRecDepth 100000

theorem fit_calls {ari : Int → Option Int} : ∀ (k : Fo) (v : Nat), fitF ari k = true → callF k v = true → ∃ a, ari (v : Int) = some a
  | .nil, v, _, h => by simp [callF] at h
  | .cons op n k r, v, hf, h => by
    rw [fitF_cons rfl, Bool.and_eq_true] at hf
    rw [callF_cons rfl, Bool.or_eq_true] at h
    rcases h with h | h
    · unfold fitN at hf
      rw [Bool.and_eq_true] at hf
      unfold callB at h
      rw [Bool.or_eq_true] at h
      rcases h with h | h
      · unfold ownCall at h
        rw [Bool.and_eq_true] at h
        have h3 := of_decide_eq_true h.1
        have hn := of_decide_eq_true h.2
        have ho := hf.1.1
        dsimp only at h3 hn
        unfold okCall at ho
        rw [if_pos h3] at ho
        rw [← hn]
        exact ⟨_, of_decide_eq_true ho⟩
      · exact fit_calls k v hf.1.2 h
    · exact fit_calls r v hf.2 h
theorem fitN_calls {ari : Int → Option Int} {op n : Int} {k : Fo} {v : Nat} (hf : fitN ari op n k = true) (h : callB ⟨op, n, k⟩ v = true) : ∃ a, ari (v : Int) = some a := by
  have h1 : fitF ari (.cons op n k .nil) = true := by rw [fitF_cons rfl, hf]; rfl
  exact fit_calls _ v h1 (by rw [callF_cons rfl, h]; rfl)

/-- Is the function with this name out of use? -/
def oldB (ds : List De) (x : Int) : Bool := match fnd x ds with | some d => d.old | none => false
def oldL (ds : List De) (op n : Int) (k : Fo) : List Int := if libOk ds && callsFitB ds op n k then (numsUpto (callB ⟨op, n, k⟩) 8).filter (oldB ds) else []

theorem numsUpto_mem {S : Nat → Bool} : ∀ (j : Nat) (x : Int), x ∈ numsUpto S j → ∃ v, v < j ∧ x = (v : Int) ∧ S v = true
  | 0, x, h => by simp [numsUpto] at h
  | j + 1, x, h => by
    rcases Bool.eq_false_or_eq_true (S j) with hs | hs
    · rw [numsUpto_yes hs] at h
      rcases List.mem_append.1 h with h | h
      · obtain ⟨v, h1, h2, h3⟩ := numsUpto_mem j x h
        exact ⟨v, by omega, h2, h3⟩
      · rw [List.mem_singleton] at h
        exact ⟨j, by omega, h, hs⟩
    · rw [numsUpto_no hs] at h
      obtain ⟨v, h1, h2, h3⟩ := numsUpto_mem j x h
      exact ⟨v, by omega, h2, h3⟩

/-- What a fitting expression calls is there. -/
theorem called_there {ds : List De} {op n : Int} {k : Fo} (hf : callsFitB ds op n k = true) : ∀ x ∈ numsUpto (callB ⟨op, n, k⟩) 8, inVar x = true ∧ ∃ d, fnd x ds = some d := by
  intro x hx
  obtain ⟨v, h1, rfl, h3⟩ := numsUpto_mem 8 x hx
  unfold callsFitB at hf
  rw [Bool.and_eq_true] at hf
  obtain ⟨a, ha⟩ := fitN_calls hf.2 h3
  refine ⟨by unfold inVar; simp; omega, ?_⟩
  unfold ariS at ha
  cases hq : fnd (v : Int) ds with
  | none => rw [hq] at ha; cases ha
  | some d => exact ⟨d, rfl⟩

theorem oldL_no {ds : List De} {op n : Int} {k : Fo} (h : (libOk ds && callsFitB ds op n k) = false) : oldL ds op n k = [] := by unfold oldL; rw [h]; rfl
theorem oldL_yes {ds : List De} {op n : Int} {k : Fo} (h1 : libOk ds = true) (h2 : callsFitB ds op n k = true) : oldL ds op n k = (numsUpto (callB ⟨op, n, k⟩) 8).filter (oldB ds) := by unfold oldL; rw [h1, h2]; rfl

theorem filter_take_no {p : Int → Bool} {zs : List Int} {j : Nat} {x : Int} (h : zs[j]? = some x) (hp : p x = false) : (zs.take (j + 1)).filter p = (zs.take j).filter p := by
  rw [List.take_add_one, h, List.filter_append]; simp [hp]
theorem filter_take_yes {p : Int → Bool} {zs : List Int} {j : Nat} {x : Int} (h : zs[j]? = some x) (hp : p x = true) : (zs.take (j + 1)).filter p = (zs.take j).filter p ++ [x] := by
  rw [List.take_add_one, h, List.filter_append]; simp [hp]
theorem filter_take_len (p : Int → Bool) (zs : List Int) (j : Nat) : ((zs.take j).filter p).length ≤ zs.length := by
  have h1 := List.length_filter_le p (zs.take j)
  have h2 := List.length_take_le j zs
  have h3 : (zs.take j).length ≤ zs.length := by rw [List.length_take]; omega
  omega
theorem oldL_small {ds : List De} {op n : Int} {k : Fo} : ∀ x ∈ oldL ds op n k, I64 x := by
  intro x hx
  unfold oldL at hx
  split at hx
  · exact numsUpto_small _ 8 x (Nat.le_refl _) (List.mem_filter.1 hx).1
  · simp at hx
theorem oldL_len (ds : List De) (op n : Int) (k : Fo) : (oldL ds op n k).length ≤ 8 := by
  unfold oldL
  split
  · exact Nat.le_trans (List.length_filter_le _ _) (numsUpto_len _ 8)
  · exact Nat.zero_le _
end Go.Proofs.Ythimgboeankpcaa
