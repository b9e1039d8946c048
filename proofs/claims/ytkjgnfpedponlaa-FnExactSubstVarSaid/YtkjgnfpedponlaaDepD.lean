/-
  Trees that are equal but for bound names, as data: by places in lists of names, and by numbers.
-/
import Derived.Test.YtkjgnfpedponlaaRenD
import Derived.Test.YtkjgnfpedponlaaSameD
namespace Go.Proofs.Ytkjgnfpedponlaa
open Go.RowKit
set_option maxRecDepth 100000

/-- The place of a name in a list that has the last one first, or -1. -/
def depR : List Int → Int → Int
  | [], _ => -1
  | x :: L, v => if x = v then 0 else if depR L v < 0 then -1 else depR L v + 1
theorem depR_ge : ∀ (L : List Int) (v : Int), -1 ≤ depR L v
  | [], _ => by simp [depR]
  | x :: L, v => by
    have := depR_ge L v
    unfold depR
    split
    · omega
    · split <;> omega
theorem depR_lt : ∀ (L : List Int) (v : Int), depR L v < L.length
  | [], _ => by simp [depR]
  | x :: L, v => by
    have := depR_lt L v
    rw [List.length_cons]
    unfold depR
    split
    · omega
    · split <;> omega
theorem depR_none : ∀ {L : List Int} {v : Int}, ¬ v ∈ L → depR L v = -1
  | [], _, _ => rfl
  | x :: L, v, h => by
    have h1 : ¬ x = v := fun e => h (by simp [e])
    have h2 := depR_none (L := L) (v := v) (fun e => h (by simp [e]))
    unfold depR
    rw [if_neg h1, h2]
    rfl
theorem depR_app : ∀ {P : List Int} {v : Int} (Q : List Int), ¬ v ∈ P → depR (P ++ v :: Q) v = P.length
  | [], v, Q, _ => by simp [depR]
  | x :: P, v, Q, h => by
    have h1 : ¬ x = v := fun e => h (by simp [e])
    have h2 := depR_app (P := P) (v := v) Q (fun e => h (by simp [e]))
    show depR (x :: (P ++ v :: Q)) v = _
    unfold depR
    rw [if_neg h1, h2, if_neg (by omega), List.length_cons]
    omega

/-- The number of a variable where the names L are bound, the last one first. -/
def numR : List Int → Nat → Int
  | [], v => v
  | x :: L, v => if x = (v : Int) then 8 + (L.length : Int) else numR L v
theorem numR_lt : ∀ (L : List Int) (v : Nat), v < 8 → numR L v < 8 + (L.length : Int)
  | [], v, h => by simp [numR]; omega
  | x :: L, v, h => by
    have := numR_lt L v h
    rw [List.length_cons]
    unfold numR
    split <;> omega
theorem num_dep : ∀ (L R : List Int) (m m2 : Nat), L.length = R.length → m < 8 → m2 < 8 → (numR L m = numR R m2 ↔ depR L (m : Int) = depR R (m2 : Int) ∧ (0 ≤ depR L (m : Int) ∨ (m : Int) = (m2 : Int)))
  | [], [], m, m2, _, _, _ => by simp [numR, depR]
  | [], _ :: _, _, _, h, _, _ => by simp at h
  | _ :: _, [], _, _, h, _, _ => by simp at h
  | x :: L, y :: R, m, m2, h, h1, h2 => by
    have hl : L.length = R.length := by simpa using h
    have ih := num_dep L R m m2 hl h1 h2
    have a1 := numR_lt L m h1
    have a2 := numR_lt R m2 h2
    have b1 := depR_ge L (m : Int)
    have b2 := depR_ge R (m2 : Int)
    unfold numR depR
    by_cases hx : x = (m : Int)
    · by_cases hy : y = (m2 : Int)
      · simp [hx, hy, hl]
      · rw [if_pos hx, if_neg hy, if_pos hx, if_neg hy]
        constructor
        · intro e; omega
        · rintro ⟨e, _⟩
          split at e <;> omega
    · by_cases hy : y = (m2 : Int)
      · rw [if_neg hx, if_pos hy, if_neg hx, if_pos hy]
        constructor
        · intro e; omega
        · rintro ⟨e, _⟩
          split at e <;> omega
      · rw [if_neg hx, if_neg hy, if_neg hx, if_neg hy, ih]
        by_cases c1 : depR L (m : Int) < 0
        · by_cases c2 : depR R (m2 : Int) < 0
          · rw [if_pos c1, if_pos c2]
            constructor
            · rintro ⟨e, f⟩
              exact ⟨rfl, by omega⟩
            · rintro ⟨e, f⟩
              exact ⟨by omega, by omega⟩
          · rw [if_pos c1, if_neg c2]
            constructor
            · rintro ⟨e, f⟩; omega
            · rintro ⟨e, f⟩; omega
        · by_cases c2 : depR R (m2 : Int) < 0
          · rw [if_neg c1, if_pos c2]
            constructor
            · rintro ⟨e, f⟩; omega
            · rintro ⟨e, f⟩; omega
          · rw [if_neg c1, if_neg c2]
            constructor
            · rintro ⟨e, f⟩
              exact ⟨by omega, by omega⟩
            · rintro ⟨e, f⟩
              exact ⟨by omega, by omega⟩

/-- A binding has two Kids. -/
def letOk (op : Int) (l : Nat) : Bool := !decide (op = 7) || decide (l = 2)
def letsOkF : Fo → Bool
  | .nil => true
  | .cons op _ k r => (letOk op k.len && letsOkF k) && letsOkF r
theorem letOk_kids {op : Int} {l : Nat} (hk : kidsOk op l = true) : letOk op l = true := by
  unfold letOk
  by_cases h7 : op = 7
  · subst h7
    have : l = 2 := by simpa [kidsOk] using hk
    simp [this]
  · simp [h7]
theorem letOk_two {op : Int} {l : Nat} (h : letOk op l = true) (h7 : op = 7) : l = 2 := by
  subst h7
  simpa [letOk] using h
theorem lets_shape : ∀ (f : Fo) (op n : Int) (i : Nat) (S : Nat → Bool) (d : Nat), shapeF op n i S d f = true → letsOkF f = true
  | .nil, _, _, _, _, _, _ => rfl
  | .cons o m k r, op, n, i, S, d, h => by
    simp only [shapeF, Bool.and_eq_true] at h
    obtain ⟨⟨⟨⟨_, h2⟩, h3⟩, h4⟩, h5⟩ := h
    have e1 := lets_shape k o m 0 _ _ h4
    have e2 := lets_shape r op n (i + 1) S d h5
    simp [letsOkF, e1, e2, letOk_kids h2]
theorem lets_is {op n : Int} {k : Fo} {S : Nat → Bool} (h : nodeIs op n k S = true) : letOk op k.len = true ∧ letsOkF k = true := by
  unfold nodeIs nodeShape at h
  simp only [Bool.and_eq_true] at h
  obtain ⟨⟨⟨⟨_, h2⟩, h3⟩, h4⟩, _⟩ := h
  exact ⟨letOk_kids h2, lets_shape k op n 0 S _ h4⟩

/-- The names that are bound around the operand i. -/
def bound (op n : Int) (i : Nat) (L : List Int) : List Int := if op = 7 ∧ i = 1 then n :: L else L
/-- Are the nodes equal but for the bound names, of which L and R lie around them? -/
def varSame (m m2 : Int) (L R : List Int) : Bool := decide (depR L m = depR R m2) && (decide (0 ≤ depR L m) || decide (m = m2))
def alikeF (op n n2 : Int) : Nat → Fo → Fo → List Int → List Int → Bool
  | _, .nil, .nil, _, _ => true
  | i, .cons o m k r, .cons o2 m2 k2 r2, L, R =>
    (decide (o = o2) && decide (k.len = k2.len) && (if o = 2 then varSame m m2 (bound op n i L) (bound op n2 i R) else (decide (o = 7) || decide (m = m2)) && alikeF o m m2 0 k k2 (bound op n i L) (bound op n2 i R))) && alikeF op n n2 (i + 1) r r2 L R
  | _, .nil, .cons .., _, _ => false
  | _, .cons .., .nil, _, _ => false
def alikeN (o m : Int) (k : Fo) (o2 m2 : Int) (k2 : Fo) (L R : List Int) : Bool :=
  decide (o = o2) && decide (k.len = k2.len) && (if o = 2 then varSame m m2 L R else (decide (o = 7) || decide (m = m2)) && alikeF o m m2 0 k k2 L R)
theorem alikeF_cons {f f2 : Fo} {op n n2 : Int} {i : Nat} {o m o2 m2 : Int} {k r k2 r2 : Fo} {L R : List Int} (e : f = .cons o m k r) (e2 : f2 = .cons o2 m2 k2 r2) :
    alikeF op n n2 i f f2 L R = (alikeN o m k o2 m2 k2 (bound op n i L) (bound op n2 i R) && alikeF op n n2 (i + 1) r r2 L R) := by subst e e2; rfl

/-- The numbers nu are those of the names L, and nx is the next one. -/
def NumOf (L : List Int) (nu : Nat → Int) (nx : Int) : Prop := nx = 8 + (L.length : Int) ∧ ∀ v, v < 8 → nu v = numR L v
theorem NumOf.bind {L : List Int} {nu : Nat → Int} {nx n : Int} (h : NumOf L nu nx) (hn : inVar n = true) : NumOf (n :: L) (updN nu n.toNat nx) (nx + 1) := by
  obtain ⟨h1, h2⟩ := h
  obtain ⟨n0, n8⟩ := inVar_true hn
  refine ⟨by rw [List.length_cons]; omega, fun v hv => ?_⟩
  unfold updN numR
  by_cases e : v = n.toNat
  · rw [if_pos e, if_pos (by omega)]
    exact h1
  · rw [if_neg e, if_neg (by omega)]
    exact h2 v hv

/-- The operand i of a node: what lies around it. -/
theorem NumOf.inner {op n : Int} {l i : Nat} {L : List Int} {nu : Nat → Int} {nx : Int} (h : NumOf L nu nx) (hn : nameOk op n l = true) :
    NumOf (bound op n i L) (if binds op (i : Int) = true then updN nu n.toNat nx else nu) (if binds op (i : Int) = true then nx + 1 else nx) := by
  unfold bound
  by_cases hb : op = 7 ∧ i = 1
  · have e : binds op (i : Int) = true := by unfold binds; simp [hb.1, hb.2]
    rw [if_pos hb, if_pos e, if_pos e]
    exact h.bind (nameOk_var hn (.inr hb.1))
  · have e : ¬ binds op (i : Int) = true := by
      unfold binds
      simp
      intro h7 h1
      exact hb ⟨h7, by omega⟩
    rw [if_neg hb, if_neg e, if_neg e]
    exact h

theorem renM_same {o m m2 : Int} {l l2 : Nat} {L R : List Int} {nu nu2 : Nat → Int} {nx : Int} (hlen : L.length = R.length) (h1 : NumOf L nu nx) (h2 : NumOf R nu2 nx) (n1 : nameOk o m l = true) (n2 : nameOk o m2 l2 = true) :
    renM o m nu nx = renM o m2 nu2 nx ↔ if o = 2 then varSame m m2 L R = true else o = 7 ∨ m = m2 := by
  unfold renM
  by_cases h : o = 2
  · rw [if_pos h, if_pos h, if_pos h]
    obtain ⟨a0, a8⟩ := inVar_true (nameOk_var n1 (.inl h))
    obtain ⟨b0, b8⟩ := inVar_true (nameOk_var n2 (.inl h))
    obtain ⟨u, rfl⟩ : ∃ u : Nat, m = (u : Int) := ⟨m.toNat, by omega⟩
    obtain ⟨u2, rfl⟩ : ∃ u2 : Nat, m2 = (u2 : Int) := ⟨m2.toNat, by omega⟩
    rw [Int.toNat_natCast, Int.toNat_natCast, h1.2 u (by omega), h2.2 u2 (by omega), num_dep L R u u2 hlen (by omega) (by omega)]
    unfold varSame
    simp only [Bool.and_eq_true, Bool.or_eq_true, decide_eq_true_iff]
  · rw [if_neg h, if_neg h, if_neg h]
    by_cases h7 : o = 7
    · rw [if_pos h7, if_pos h7]
      exact ⟨fun _ => .inl h7, fun _ => rfl⟩
    · rw [if_neg h7, if_neg h7]
      exact ⟨fun e => .inr e, fun e => e.resolve_left h7⟩

theorem binds_no {op : Int} {i : Nat} (h : 2 ≤ i ∨ op ≠ 7) : binds op (i : Int) = false := by
  unfold binds
  rw [Bool.eq_false_iff]
  simp
  omega
theorem fo_nil {k : Fo} (h : k.len = 0) : k = .nil := by
  cases k with
  | nil => rfl
  | cons _ _ _ _ => simp [Fo.len] at h

/-- Equal but for names is: equal with numbers. The lists from the operand i on; behind the second operand of a binding nothing comes. -/
theorem alike_ren : ∀ (k k2 : Fo) (op n n2 : Int) (i l l2 : Nat) (L R : List Int) (nu nu2 : Nat → Int) (nx : Int), namesOkF k = true → namesOkF k2 = true → letsOkF k = true → letsOkF k2 = true → nameOk op n l = true → nameOk op n2 l2 = true →
    (op = 7 → i + k.len ≤ 2) → L.length = R.length → NumOf L nu nx → NumOf R nu2 nx → (alikeF op n n2 i k k2 L R = true ↔ sameFo (renF op n i nu nx k) (renF op n2 i nu2 nx k2) = true)
  | .nil, .nil, _, _, _, _, _, _, _, _, _, _, _, _, _, _, _, _, _, _, _, _, _ => by simp [alikeF, renF, sameFo]
  | .nil, .cons .., op, n, n2, i, _, _, _, _, nu, nu2, nx, _, _, _, _, _, _, _, _, _, _ => by
    simp only [alikeF, renF]
    split <;> simp [sameFo]
  | .cons .., .nil, op, n, n2, i, _, _, _, _, nu, nu2, nx, _, _, _, _, _, _, _, _, _, _ => by
    simp only [alikeF, renF]
    split <;> simp [sameFo]
  | .cons o m k r, .cons o2 m2 k2 r2, op, n, n2, i, l, l2, L, R, nu, nu2, nx, hk, hk2, hs, hs2, hn, hn2, hi, hlen, h1, h2 => by
    obtain ⟨⟨a1, a2⟩, a3⟩ := namesOkF_cons rfl hk
    obtain ⟨⟨b1, b2⟩, b3⟩ := namesOkF_cons rfl hk2
    simp only [letsOkF, Bool.and_eq_true] at hs hs2
    obtain ⟨⟨c1, c2⟩, c3⟩ := hs
    obtain ⟨⟨d1, d2⟩, d3⟩ := hs2
    have e1 := h1.inner (i := i) hn
    have e2 := h2.inner (i := i) hn2
    have hbl : (bound op n i L).length = (bound op n2 i R).length := by
      unfold bound
      split <;> simp [hlen]
    -- what comes behind
    have hrest : alikeF op n n2 (i + 1) r r2 L R = true ↔ sameFo (renF op n (i + 1) (if binds op (i : Int) = true then updN nu n.toNat nx else nu) (if binds op (i : Int) = true then nx + 1 else nx) r) (renF op n2 (i + 1) (if binds op (i : Int) = true then updN nu2 n2.toNat nx else nu2) (if binds op (i : Int) = true then nx + 1 else nx) r2) = true := by
      by_cases hb : binds op (i : Int) = true
      · rw [if_pos hb, if_pos hb, if_pos hb]
        have h7 : op = 7 ∧ i = 1 := by
          unfold binds at hb
          simp at hb
          exact ⟨hb.1, by omega⟩
        have hr : r = .nil := fo_nil (by have := hi h7.1; simp only [Fo.len] at this; omega)
        subst hr
        cases r2 with
        | nil => simp [alikeF, renF, sameFo]
        | cons _ _ _ _ =>
          simp only [alikeF, renF]
          split <;> simp [sameFo]
      · rw [if_neg hb, if_neg hb, if_neg hb]
        exact alike_ren r r2 op n n2 (i + 1) l l2 L R nu nu2 nx a3 b3 c3 d3 hn hn2 (fun h7 => by have := hi h7; simp only [Fo.len] at this; omega) hlen h1 h2
    have hx : ∀ (op n : Int) (nu : Nat → Int) (o m : Int) (k r : Fo), renF op n i nu nx (.cons o m k r) = .cons o (renM o m (if binds op (i : Int) = true then updN nu n.toNat nx else nu) (if binds op (i : Int) = true then nx + 1 else nx))
        (renF o m 0 (if binds op (i : Int) = true then updN nu n.toNat nx else nu) (if binds op (i : Int) = true then nx + 1 else nx) k) (renF op n (i + 1) (if binds op (i : Int) = true then updN nu n.toNat nx else nu) (if binds op (i : Int) = true then nx + 1 else nx) r) := by
      intro op n nu o m k r
      simp only [renF]
      split <;> rfl
    rw [hx, hx]
    generalize (if binds op (i : Int) = true then updN nu n.toNat nx else nu) = u1 at *
    generalize (if binds op (i : Int) = true then updN nu2 n2.toNat nx else nu2) = u2 at *
    generalize (if binds op (i : Int) = true then nx + 1 else nx) = x1 at *
    simp only [alikeF, sameFo, Bool.and_eq_true, decide_eq_true_iff, hrest]
    refine and_congr ?_ Iff.rfl
    by_cases ho : o = o2
    · subst ho
      have hm := renM_same hbl e1 e2 a1 b1
      by_cases h2' : o = 2
      · rw [if_pos h2'] at hm ⊢
        have k0 := fo_nil (nameOk_nil a1 h2')
        have k20 := fo_nil (nameOk_nil b1 h2')
        subst k0 k20
        rw [hm]
        simp [renF, sameFo]
      · rw [if_neg h2'] at hm ⊢
        have hkk := alike_ren k k2 o m m2 0 k.len k2.len _ _ u1 u2 x1 a2 b2 c2 d2 a1 b1 (fun h7 => by have := letOk_two c1 h7; omega) hbl e1 e2
        rw [hm]
        simp only [Bool.and_eq_true, Bool.or_eq_true, decide_eq_true_iff, hkk]
        constructor
        · rintro ⟨⟨_, _⟩, h, h'⟩
          exact ⟨⟨trivial, h⟩, h'⟩
        · rintro ⟨⟨_, h⟩, h'⟩
          refine ⟨⟨trivial, ?_⟩, h, h'⟩
          have := sameFo_len h'
          rwa [renF_len, renF_len] at this
    · simp [ho]

/-- SameNames at two nodes with all names to come. -/
def nu8 : Nat → Int := fun i => if i < 8 then (i : Int) else 0
theorem nu8_small : ∀ i, I64 (nu8 i) := fun i => by unfold nu8 I64; split <;> omega
theorem nu8_num : NumOf [] nu8 8 := ⟨rfl, fun v hv => by unfold nu8; rw [if_pos hv]; rfl⟩
theorem alike_node {o m o2 m2 : Int} {k k2 : Fo} (a1 : nameOk o m k.len = true) (a2 : namesOkF k = true) (b1 : nameOk o2 m2 k2.len = true) (b2 : namesOkF k2 = true) (c1 : letOk o k.len = true) (c2 : letsOkF k = true) (d2 : letsOkF k2 = true) :
    alikeN o m k o2 m2 k2 [] [] = sameN o (renM o m nu8 8) (renF o m 0 nu8 8 k) o2 (renM o2 m2 nu8 8) (renF o2 m2 0 nu8 8 k2) := by
  rw [Bool.eq_iff_iff]
  unfold alikeN sameN
  simp only [Bool.and_eq_true, decide_eq_true_iff]
  by_cases ho : o = o2
  · subst ho
    have hm := renM_same rfl nu8_num nu8_num a1 b1
    by_cases h2' : o = 2
    · rw [if_pos h2'] at hm ⊢
      have k0 := fo_nil (nameOk_nil a1 h2')
      have k20 := fo_nil (nameOk_nil b1 h2')
      subst k0 k20
      rw [hm]
      simp [renF, sameFo]
    · rw [if_neg h2'] at hm ⊢
      have hkk := alike_ren k k2 o m m2 0 k.len k2.len [] [] nu8 nu8 8 a2 b2 c2 d2 a1 b1 (fun h7 => by have := letOk_two c1 h7; omega) rfl nu8_num nu8_num
      rw [hm]
      simp only [Bool.and_eq_true, Bool.or_eq_true, decide_eq_true_iff, hkk]
      constructor
      · rintro ⟨⟨_, _⟩, h, h'⟩
        exact ⟨⟨trivial, h⟩, h'⟩
      · rintro ⟨⟨_, h⟩, h'⟩
        refine ⟨⟨trivial, ?_⟩, h, h'⟩
        have := sameFo_len h'
        rwa [renF_len, renF_len] at this
  · simp [ho]
end Go.Proofs.Ytkjgnfpedponlaa
