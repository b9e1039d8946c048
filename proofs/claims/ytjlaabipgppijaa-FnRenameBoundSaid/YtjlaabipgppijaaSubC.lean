/-
  Replacing a variable, as data: how often each variable stands free in the result.
-/
import Derived.Test.YtjlaabipgppijaaPutD
namespace Go.Proofs.Ytjlaabipgppijaa
open Go.RowKit
set_option maxRecDepth 100000

theorem kidsP_cnt {g : Nd → Option Nd} {u v : Int} {X : Nat} (hg : ∀ y b, FitN y → g y = some b → cntP u b = cntP v y * X + (if u = v then 0 else cntP u y)) : ∀ (k : Fo) (i : Nat) (t : Fo), FitF k → kidsP g false i k = some t → cntL u false i t = cntL v false i k * X + (if u = v then 0 else cntL u false i k)
  | .nil, _, _, _, h => by cases h; simp [cntL]
  | .cons o m k r, i, t, hf, h => by
    obtain ⟨a, t', h1, h2, rfl⟩ := kidsP_some h
    rw [fitP_cons] at hf
    have hr := kidsP_cnt hg r (i + 1) t' hf.2 h2
    have ha := hg _ _ hf.1 (by simpa using h1)
    unfold cntP at ha
    dsimp only at ha
    rw [cntL_cons rfl, cntL_cons rfl, cntL_cons rfl]
    simp only [Bool.false_eq_true, false_and, if_false]
    rw [hr, ha, Nat.add_mul]
    split <;> omega

theorem cnt_leaf {w : Nat} {u : Int} : cntP u ⟨2, w, .nil⟩ = if u = (w : Int) then 1 else 0 := by
  unfold cntP cntN ownVar
  by_cases h : u = (w : Int)
  · simp [h, cntL]
  · have : ¬ (w : Int) = u := fun e => h e.symm
    simp [h, this, cntL]
theorem cntL_absent {w : Nat} : ∀ (k : Fo) (s : Bool) (i : Nat), hasF ownVL k w = false → cntL (w : Int) s i k = 0
  | .nil, _, _, _ => rfl
  | .cons o m k r, s, i, h => by
    rw [hasF_cons rfl, Bool.or_eq_false_iff] at h
    have hr := cntL_absent r s (i + 1) h.2
    have h1 := h.1
    unfold hasB at h1
    rw [Bool.or_eq_false_iff] at h1
    have hk := cntL_absent k (decide (o = 7 ∧ m = (w : Int))) 0 h1.2
    have ho : ownVar (w : Int) o m = 0 := by
      have := h1.1
      unfold ownVL at this
      unfold ownVar
      split
      · rename_i e
        simp [e.1, e.2] at this
      · rfl
    rw [cntL_cons rfl, hr]
    split
    · rfl
    · rw [show cntN (w : Int) o m k = ownVar (w : Int) o m + cntL (w : Int) (decide (o = 7 ∧ m = (w : Int))) 0 k from rfl, ho, hk]
theorem cnt_absent {p : Nd} {w : Nat} (h : hasB ownVL p w = false) : cntP (w : Int) p = 0 := by
  unfold cntP
  have := cntL_absent (.cons p.op p.n p.k .nil) false 0 (by rw [hasF_cons rfl, h]; rfl)
  rw [cntL_cons rfl] at this
  simpa [cntL] using this

theorem putN_cnt : ∀ (f : Nat) (p b : Nd) (v : Int) (x : Nd) (u : Int), inVar u = true → FitN p → putN f p v x = some b → cntP u b = cntP v p * cntP u x + (if u = v then 0 else cntP u p)
  | 0, _, _, _, _, _, _, _, h => by cases h
  | f + 1, p, b, v, x, u, hu, hf, h => by
    unfold putN at h
    split at h
    · rename_i hv
      cases h
      have hk := hf.var hv.1
      have c1 : cntP v p = 1 := by
        unfold cntP cntN ownVar
        rw [if_pos hv, hk]
        simp [cntL]
      rw [c1, Nat.one_mul]
      by_cases huv : u = v
      · rw [if_pos huv, Nat.add_zero]
      · rw [if_neg huv]
        have : cntP u p = 0 := by
          unfold cntP cntN ownVar
          rw [if_neg (fun e => huv (e.2.symm.trans hv.2)), hk]
          simp [cntL]
        rw [this, Nat.add_zero]
    · rename_i hv
      split at h
      · rename_i hc
        have h3 := hc.2
        unfold capt reach at h3
        simp only [Bool.and_eq_true, Bool.not_eq_true', decide_eq_false_iff_not, decide_eq_true_iff] at h3
        obtain ⟨⟨h31, h32⟩, h33⟩ := h3
        cases e : newOf p v x with
        | none => rw [e] at h; cases h
        | some w =>
          rw [e] at h
          dsimp only at h
          obtain ⟨w8, n1, n2, n3⟩ := newOf_new e
          cases e2 : putN f (kid2 p.k) p.n ⟨2, w, .nil⟩ with
          | none => rw [e2] at h; cases h
          | some q =>
            rw [e2] at h
            dsimp only at h
            obtain ⟨o, m, k, o', m', k', ek⟩ := hf.two hc.1
            have hff := hf.2
            rw [ek, fitP_cons, fitP_cons] at hff
            have hfk2 : FitN (kid2 p.k) := by rw [ek]; exact hff.2.1
            have hq := putN_ren w8 f (kid2 p.k) q hfk2 n2 e2
            have e3' : ∃ t, kidsP (fun y => putN f y v x) false 0 (pair (kid1 p.k) q) = some t ∧ b = ⟨7, w, t⟩ := by
              cases e3 : kidsP (fun y => putN f y v x) false 0 (pair (kid1 p.k) q) with
              | none => rw [e3] at h; cases h
              | some t => rw [e3] at h; cases h; exact ⟨t, rfl, rfl⟩
            obtain ⟨t, e3, rfl⟩ := e3'
            have hwv : inVar (w : Int) = true := inVar_mk (by omega) (by omega)
            have hxw : cntP (w : Int) x = 0 := by
              cases hz : cntP (w : Int) x with
              | zero => rfl
              | succ z => exact absurd ((freeP_mem hwv).2 (by rw [hz]; omega)) n1
            have hnw : p.n ≠ (w : Int) := fun e => n1 (e ▸ h33)
            have hk2w : cntP (w : Int) (kid2 p.k) = 0 := cnt_absent n2
            -- the two kids
            unfold pair at e3
            obtain ⟨a1, t1, g1, g2, rfl⟩ := kidsP_some e3
            obtain ⟨a2, t2, g3, g4, rfl⟩ := kidsP_some g2
            cases g4
            have s1 := putN_cnt f (kid1 p.k) a1 v x u hu (by rw [ek]; exact hff.1) (by simpa using g1)
            have s2 := putN_cnt f q a2 v x u hu hq.fit (by simpa using g3)
            have c1 := hq.cnt v (fun e => h31 e.symm) n3.symm
            have cp : ∀ y : Int, cntP y p = cntP y (kid1 p.k) + (if p.n = y then 0 else cntP y (kid2 p.k)) := fun y => by
              unfold cntP
              rw [show cntN y p.op p.n p.k = ownVar y p.op p.n + cntL y (decide (p.op = 7 ∧ p.n = y)) 0 p.k from rfl, show ownVar y p.op p.n = 0 by unfold ownVar; rw [if_neg (by rw [hc.1]; omega)], ek, cntL_cons rfl, cntL_cons rfl]
              simp [hc.1, cntL, kid1, kid2]
            have cb : cntP u ⟨7, w, .cons a1.op a1.n a1.k (.cons a2.op a2.n a2.k .nil)⟩ = cntP u a1 + (if (w : Int) = u then 0 else cntP u a2) := by
              unfold cntP
              rw [show cntN u 7 (w : Int) (.cons a1.op a1.n a1.k (.cons a2.op a2.n a2.k .nil)) = ownVar u 7 w + cntL u (decide ((7 : Int) = 7 ∧ (w : Int) = u)) 0 (.cons a1.op a1.n a1.k (.cons a2.op a2.n a2.k .nil)) from rfl, show ownVar u 7 (w : Int) = 0 by unfold ownVar; rw [if_neg (by omega)], cntL_cons rfl, cntL_cons rfl]
              simp [cntL]
            rw [cb, s1, s2, cp v, cp u, c1, if_neg (fun e => h31 e : ¬ p.n = v), Nat.add_mul]
            by_cases huw : (w : Int) = u
            · subst huw
              rw [if_pos rfl, hxw, hk2w]
              simp [n3]
            · rw [if_neg huw]
              by_cases hun : u = p.n
              · have hq0 := putN_cnt f (kid2 p.k) q p.n ⟨2, w, .nil⟩ u hu hfk2 e2
                rw [cnt_leaf, if_neg (fun e => huw e.symm), if_pos hun, Nat.mul_zero, Nat.add_zero] at hq0
                rw [hq0, if_pos hun.symm]
                split <;> omega
              · have c2 := hq.cnt u hun (fun e => huw e.symm)
                rw [c2, if_neg (show ¬ p.n = u from fun e => hun e.symm)]
                split <;> omega
      · rename_i hc
        have e3' : ∃ t, kidsP (fun y => putN f y v x) (stays p v) 0 p.k = some t ∧ b = ⟨p.op, p.n, t⟩ := by
          cases e3 : kidsP (fun y => putN f y v x) (stays p v) 0 p.k with
          | none => rw [e3] at h; cases h
          | some t => rw [e3] at h; cases h; exact ⟨t, rfl, rfl⟩
        obtain ⟨t, e3, rfl⟩ := e3'
        by_cases h7 : p.op = 7
        · obtain ⟨o, m, k, o', m', k', ek⟩ := hf.two h7
          have hff := hf.2
          rw [ek, fitP_cons, fitP_cons] at hff
          rw [ek] at e3
          obtain ⟨a1, t1, g1, g2, rfl⟩ := kidsP_some e3
          obtain ⟨a2, t2, g3, g4, rfl⟩ := kidsP_some g2
          cases g4
          have s1 := putN_cnt f ⟨o, m, k⟩ a1 v x u hu hff.1 (by simpa using g1)
          have cp : ∀ y : Int, cntP y p = cntP y ⟨o, m, k⟩ + (if p.n = y then 0 else cntP y ⟨o', m', k'⟩) := fun y => by
            unfold cntP
            rw [show cntN y p.op p.n p.k = ownVar y p.op p.n + cntL y (decide (p.op = 7 ∧ p.n = y)) 0 p.k from rfl, show ownVar y p.op p.n = 0 by unfold ownVar; rw [if_neg (by rw [h7]; omega)], ek, cntL_cons rfl, cntL_cons rfl]
            simp [h7, cntL]
          have cb : cntP u ⟨p.op, p.n, .cons a1.op a1.n a1.k (.cons a2.op a2.n a2.k .nil)⟩ = cntP u a1 + (if p.n = u then 0 else cntP u a2) := by
            unfold cntP
            rw [show cntN u p.op p.n (.cons a1.op a1.n a1.k (.cons a2.op a2.n a2.k .nil)) = ownVar u p.op p.n + cntL u (decide (p.op = 7 ∧ p.n = u)) 0 (.cons a1.op a1.n a1.k (.cons a2.op a2.n a2.k .nil)) from rfl, show ownVar u p.op p.n = 0 by unfold ownVar; rw [if_neg (by rw [h7]; omega)], cntL_cons rfl, cntL_cons rfl]
            simp [h7, cntL]
          rw [cb, s1, cp v, cp u, Nat.add_mul]
          cases hst : stays p v with
          | true =>
            rw [hst] at g3
            have g3' : a2 = ⟨o', m', k'⟩ := by simpa using g3.symm
            subst g3'
            unfold stays reach at hst
            simp only [h7, ek, kid2, decide_true, Bool.true_and, Bool.not_and, Bool.not_not, Bool.or_eq_true, decide_eq_true_iff] at hst
            have hz : (if p.n = v then 0 else cntP v ⟨o', m', k'⟩) = 0 := by
              rcases hst with e | e
              · rw [if_pos e]
              · split
                · rfl
                · exact e
            rw [hz, Nat.zero_mul, Nat.add_zero]
            by_cases huv : u = v
            · subst huv
              rw [if_pos rfl, if_pos rfl, hz]
            · rw [if_neg huv, if_neg huv]
              omega
          | false =>
            rw [hst] at g3
            have s2 := putN_cnt f ⟨o', m', k'⟩ a2 v x u hu hff.2.1 (by simpa using g3)
            have hst2 := hst
            unfold stays at hst2
            rw [h7, decide_eq_true rfl, Bool.true_and] at hst2
            have hre : reach p v = true := by simpa using hst2
            have hnv : ¬ p.n = v := fun e => by unfold reach at hre; simp [e] at hre
            have hcf : capt p v x = false := by
              cases hcc : capt p v x with
              | false => rfl
              | true => exact absurd ⟨h7, hcc⟩ hc
            unfold capt at hcf
            rw [hre, Bool.true_and, decide_eq_false_iff_not] at hcf
            rw [if_neg hnv, s2]
            by_cases hun : p.n = u
            · have hx0 : cntP u x = 0 := by
                cases hz : cntP u x with
                | zero => rfl
                | succ z => exact absurd ((freeP_mem hu).2 (by rw [hz]; omega)) (hun ▸ hcf)
              rw [if_pos hun, if_pos hun, hx0]
              simp
            · rw [if_neg hun, if_neg hun]
              split <;> omega
        · have hst : stays p v = false := by unfold stays; simp [h7]
          rw [hst] at e3
          have hs := kidsP_cnt (u := u) (v := v) (X := cntP u x) (fun y b hy he => putN_cnt f y b v x u hu hy he) _ 0 t hf.2 e3
          have hown : ownVar v p.op p.n = 0 := by unfold ownVar; rw [if_neg hv]
          have cp : ∀ (y : Int) (r : Fo), cntP y ⟨p.op, p.n, r⟩ = ownVar y p.op p.n + cntL y false 0 r := fun y r => by
            unfold cntP
            rw [show cntN y p.op p.n r = ownVar y p.op p.n + cntL y (decide (p.op = 7 ∧ p.n = y)) 0 r from rfl, show decide (p.op = 7 ∧ p.n = y) = false by simp [h7]]
          have e1 := cp u t
          have e2 := cp u p.k
          have e4 := cp v p.k
          have ep : (⟨p.op, p.n, p.k⟩ : Nd) = p := rfl
          rw [ep] at e2 e4
          rw [e1, e2, e4, hs, hown, Nat.zero_add]
          by_cases huv : u = v
          · rw [if_pos huv, if_pos huv, huv, hown]
            omega
          · rw [if_neg huv, if_neg huv]
            omega
end Go.Proofs.Ytjlaabipgppijaa
