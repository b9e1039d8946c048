/-
  An expression is the same as itself but for names.
-/
import Derived.Test.YtkdjjkkcejijnaaPutD
import Derived.Test.YtkdjjkkcejijnaaNamesD
namespace Go.Proofs.Ytkdjjkkcejijnaa
open Go.RowKit
set_option maxRecDepth 100000

theorem varSame_head (x y : Int) (L R : List Int) : varSame x y (x :: L) (y :: R) = true := by
  unfold varSame depR
  rw [if_pos rfl, if_pos rfl]
  simp
theorem varSame_cons {m m2 x y : Int} {L R : List Int} (h1 : ¬ m = x) (h2 : ¬ m2 = y) (h : varSame x y L R = true) : varSame x y (m :: L) (m2 :: R) = true := by
  unfold varSame at h ⊢
  simp only [Bool.and_eq_true, Bool.or_eq_true, decide_eq_true_iff] at h ⊢
  have e1 : depR (m :: L) x = if depR L x < 0 then -1 else depR L x + 1 := by rw [depR]; rw [if_neg h1]
  have e2 : depR (m2 :: R) y = if depR R y < 0 then -1 else depR R y + 1 := by rw [depR]; rw [if_neg h2]
  obtain ⟨g1, g2⟩ := h
  rw [e1, e2, g1]
  refine ⟨rfl, ?_⟩
  rcases g2 with g2 | g2
  · left
    rw [if_neg (by omega)]
    omega
  · exact .inr g2

/-- What lies around the operand i: the free variables of the operand stand there as they do outside, or are bound by the node itself. -/
theorem bound_same {o m x : Int} {i : Nat} {L R : List Int} (h : ¬ (o = 7 ∧ i = 1 ∧ m = x) → varSame x x L R = true) : varSame x x (bound o m i L) (bound o m i R) = true := by
  unfold bound
  by_cases hb : o = 7 ∧ i = 1
  · rw [if_pos hb, if_pos hb]
    by_cases e : m = x
    · subst e
      exact varSame_head m m L R
    · exact varSame_cons e e (h fun g => e g.2.2)
  · rw [if_neg hb, if_neg hb]
    exact h fun g => hb ⟨g.1, g.2.1⟩

theorem alikeF_self : ∀ (f : Fo) (op n : Int) (i : Nat) (L R : List Int), FitF f → (∀ x : Int, cntL x (decide (op = 7 ∧ n = x)) i f ≠ 0 → varSame x x L R = true) → alikeF op n n i f f L R = true
  | .nil, _, _, _, _, _, _, _ => rfl
  | .cons o m k r, op, n, i, L, R, hf, h => by
    rw [fitP_cons] at hf
    rw [alikeF_cons rfl rfl, Bool.and_eq_true]
    refine ⟨?_, alikeF_self r op n (i + 1) L R hf.2 fun x hx => h x (by rw [cntL_cons rfl]; omega)⟩
    have hk : ∀ x : Int, cntN x o m k ≠ 0 → varSame x x (bound op n i L) (bound op n i R) = true := fun x hx => bound_same fun g => h x (by
      rw [cntL_cons rfl, if_neg (by simp only [decide_eq_true_iff]; exact fun g2 => g ⟨g2.1.1, g2.2, g2.1.2⟩)]
      omega)
    unfold alikeN
    simp only [decide_true, Bool.true_and]
    by_cases h2 : o = 2
    · rw [if_pos h2]
      refine hk m ?_
      unfold cntN ownVar
      rw [if_pos ⟨h2, rfl⟩]
      omega
    · rw [if_neg h2]
      simp only [Bool.or_true, Bool.true_and]
      refine alikeF_self k o m 0 _ _ hf.1.2 fun x hx => hk x ?_
      unfold cntN
      omega
theorem alikeN_self {p : Nd} {L R : List Int} (hf : FitN p) (h : ∀ x : Int, cntP x p ≠ 0 → varSame x x L R = true) : alikeN p.op p.n p.k p.op p.n p.k L R = true := by
  unfold alikeN
  simp only [decide_true, Bool.true_and]
  by_cases h2 : p.op = 2
  · rw [if_pos h2]
    refine h p.n ?_
    unfold cntP cntN ownVar
    rw [if_pos ⟨h2, rfl⟩]
    omega
  · rw [if_neg h2]
    simp only [Bool.or_true, Bool.true_and]
    refine alikeF_self p.k p.op p.n 0 _ _ hf.2 fun x hx => h x ?_
    unfold cntP cntN
    omega
end Go.Proofs.Ytkdjjkkcejijnaa
