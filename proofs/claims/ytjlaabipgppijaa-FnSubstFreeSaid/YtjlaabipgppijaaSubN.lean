/-
  Replacing a variable that is not free, or by itself, leaves the tree.
-/
import Derived.Test.YtjlaabipgppijaaPutD
import Derived.Test.YtjlaabipgppijaaOpen
namespace Go.Proofs.Ytjlaabipgppijaa
open Go.RowKit
set_option maxRecDepth 100000

theorem kidsP_id (g : Nd → Option Nd) (s : Bool) (f : Fo) : ∀ i, (∀ j o m k r, f.drop j = .cons o m k r → (s = true ∧ i + j = 1) ∨ g ⟨o, m, k⟩ = some ⟨o, m, k⟩) → kidsP g s i f = some f := by
  induction f with
  | nil => intro i _; rfl
  | cons o m k r _ ihr =>
    intro i h
    have h0 := h 0 o m k r (by simp [Fo.drop_zero])
    have hr := ihr (i + 1) (fun j o' m' k' r' e => by
      have := h (j + 1) o' m' k' r' (by simpa [Fo.drop] using e)
      rcases this with h1 | h1
      · exact .inl ⟨h1.1, by omega⟩
      · exact .inr h1)
    unfold kidsP
    by_cases hs : s = true ∧ i = 1
    · rw [if_pos hs]
      simp only [hr]
    · rw [if_neg hs]
      have : g ⟨o, m, k⟩ = some ⟨o, m, k⟩ := by
        rcases h0 with h1 | h1
        · exact absurd ⟨h1.1, by omega⟩ hs
        · exact h1
      rw [this]
      simp only [hr]

theorem cnt_kid (v : Int) (skip : Bool) : ∀ (f : Fo) (i j : Nat) (o m : Int) (k r : Fo), f.drop j = .cons o m k r → ¬ (skip = true ∧ i + j = 1) → cntN v o m k ≤ cntL v skip i f
  | .nil, _, j, _, _, _, _, e, _ => by cases j <;> simp [Fo.drop] at e
  | .cons o2 m2 k2 r2, i, 0, o, m, k, r, e, hs => by
    rw [Fo.drop_zero] at e
    injection e with e1 e2 e3 e4
    subst e1 e2 e3
    simp only [cntL]
    rw [if_neg (by simpa using hs)]
    unfold cntN
    omega
  | .cons o2 m2 k2 r2, i, j + 1, o, m, k, r, e, hs => by
    have := cnt_kid v skip r2 (i + 1) j o m k r (by simpa [Fo.drop] using e) (by rwa [show i + 1 + j = i + (j + 1) by omega])
    simp only [cntL]
    omega
theorem subkid_size : ∀ (f : Fo) (j : Nat) (o m : Int) (k r : Fo), f.drop j = .cons o m k r → k.size + 1 ≤ f.size
  | .nil, j, _, _, _, _, e => by cases j <;> simp [Fo.drop] at e
  | .cons o2 m2 k2 r2, 0, o, m, k, r, e => by
    rw [Fo.drop_zero] at e
    injection e with e1 e2 e3 e4
    subst e3
    simp only [Fo.size]
    omega
  | .cons o2 m2 k2 r2, j + 1, o, m, k, r, e => by
    have := subkid_size r2 j o m k r (by simpa [Fo.drop] using e)
    simp only [Fo.size]
    omega
theorem kid2_cnt {v : Int} {p : Nd} (h : cntP v p = 0) (hn : p.n ≠ v) : cntP v (kid2 p.k) = 0 := by
  unfold cntP cntN at h
  have hs : decide (p.op = 7 ∧ p.n = v) = false := by simp [hn]
  rw [hs] at h
  cases hk : p.k with
  | nil => simp [kid2, cntP, cntN, ownVar, cntL]
  | cons o m k r =>
    cases r with
    | nil => simp [kid2, kid1, cntP, cntN, ownVar, cntL]
    | cons o2 m2 k2 r2 =>
      have := cnt_kid v false p.k 0 1 o2 m2 k2 r2 (by rw [hk]; simp [Fo.drop]) (by simp)
      simp only [kid2, kid1, cntP]
      omega

/-- A variable that is not free. -/
theorem putN_none (v : Int) (x : Nd) : ∀ (f : Nat) (p : Nd), p.k.size < f → cntP v p = 0 → putN f p v x = some p
  | 0, _, h, _ => absurd h (Nat.not_lt_zero _)
  | f + 1, p, hf, hc => by
    rw [putN_succ]
    have h2 : ¬ (p.op = 2 ∧ p.n = v) := fun h => by
      unfold cntP cntN at hc
      have : ownVar v p.op p.n = 1 := by unfold ownVar; rw [if_pos h]
      omega
    rw [if_neg h2]
    have h7 : ¬ (p.op = 7 ∧ capt p v x = true) := fun h => by
      have hr := h.2
      unfold capt reach at hr
      simp only [Bool.and_eq_true, Bool.not_eq_true', decide_eq_false_iff_not] at hr
      exact hr.1.2 (kid2_cnt hc hr.1.1)
    rw [if_neg h7, kidsP_id _ _ p.k 0 (fun j o m k r e => ?_)]
    by_cases hs : stays p v = true ∧ 0 + j = 1
    · exact .inl hs
    · right
      refine putN_none v x f ⟨o, m, k⟩ ?_ ?_
      · have := subkid_size p.k j o m k r e
        show k.size < f
        omega
      · have hle := cnt_kid v (decide (p.op = 7 ∧ p.n = v)) p.k 0 j o m k r e (fun h => by
          have hd := of_decide_eq_true h.1
          refine hs ⟨?_, h.2⟩
          unfold stays reach
          simp [hd.1, hd.2])
        unfold cntP cntN at hc
        show cntN v o m k = 0
        omega

theorem vp_kid (op n : Int) : ∀ (f : Fo) (i j : Nat) (S : Nat → Bool) (o m : Int) (k r : Fo), f.drop j = .cons o m k r → vpF op n i S f = true → ∃ T, nodeVp o m k T = true
  | .nil, _, j, _, _, _, _, _, e, _ => by cases j <;> simp [Fo.drop] at e
  | .cons o2 m2 k2 r2, i, 0, S, o, m, k, r, e, h => by
    rw [Fo.drop_zero] at e
    injection e with e1 e2 e3 e4
    subst e1 e2 e3
    simp only [vpF, Bool.and_eq_true] at h
    exact ⟨_, by unfold nodeVp; rw [h.1.1.1, h.1.1.2, h.1.2]; rfl⟩
  | .cons o2 m2 k2 r2, i, j + 1, S, o, m, k, r, e, h => by
    simp only [vpF, Bool.and_eq_true] at h
    exact vp_kid op n r2 (i + 1) j S o m k r (by simpa [Fo.drop] using e) h.2
theorem free_own (v : Int) : ∀ j : Nat, ∀ y, y ∈ freeUpto 2 v .nil j → y = v
  | 0, y, h => by simp [freeUpto] at h
  | j + 1, y, h => by
    unfold freeUpto at h
    rcases List.mem_append.1 h with h | h
    · exact free_own v j y h
    · split at h
      · simp at h
      · rename_i hs
        rw [List.mem_singleton.1 h]
        by_cases e : v = (j : Int)
        · exact e.symm
        · exact absurd (by simp [cntN, cntL, ownVar, e]) hs
/-- A variable by itself. -/
theorem putN_self (v : Int) : ∀ (f : Nat) (p : Nd) (S : Nat → Bool), p.k.size < f → nodeVp p.op p.n p.k S = true → putN f p v ⟨2, v, .nil⟩ = some p
  | 0, _, _, h, _ => absurd h (Nat.not_lt_zero _)
  | f + 1, p, S, hf, hv => by
    rw [putN_succ]
    have hv2 := hv
    unfold nodeVp at hv2
    simp only [Bool.and_eq_true] at hv2
    obtain ⟨⟨g1, g2⟩, g3⟩ := hv2
    by_cases h2 : p.op = 2 ∧ p.n = v
    · rw [if_pos h2]
      have hk : p.k.len = 0 := by
        unfold kidsOk at g1
        rw [if_pos (.inr h2.1)] at g1
        exact of_decide_eq_true g1
      have : p.k = .nil := by
        cases hk2 : p.k with
        | nil => rfl
        | cons _ _ _ _ => rw [hk2] at hk; simp [Fo.len] at hk
      obtain ⟨po, pn, pk⟩ := p
      simp only at h2 this
      obtain ⟨rfl, rfl⟩ := h2
      subst this
      rfl
    rw [if_neg h2]
    have h7 : ¬ (p.op = 7 ∧ capt p v ⟨2, v, .nil⟩ = true) := fun h => by
      have hr := h.2
      unfold capt reach at hr
      simp only [Bool.and_eq_true, Bool.not_eq_true', decide_eq_false_iff_not, decide_eq_true_iff] at hr
      exact hr.1.1 (free_own v 8 _ hr.2)
    rw [if_neg h7, kidsP_id _ _ p.k 0 (fun j o m k r e => ?_)]
    obtain ⟨T, hT⟩ := vp_kid p.op p.n p.k 0 j S o m k r e g3
    right
    refine putN_self v f ⟨o, m, k⟩ T ?_ hT
    have := subkid_size p.k j o m k r e
    show k.size < f
    omega
end Go.Proofs.Ytjlaabipgppijaa
