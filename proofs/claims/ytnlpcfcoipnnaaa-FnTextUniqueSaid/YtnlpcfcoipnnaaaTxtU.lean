/-
  Texts are unique: what is read off a text, and what is left of it, is one.
-/
import Derived.Test.YtnlpcfcoipnnaaaTxtD
import Derived.Test.YtnlpcfcoipnnaaaShape
namespace Go.Proofs.Ytnlpcfcoipnnaaa
open Go.RowKit
set_option maxRecDepth 100000

/-- A node's own fields are those of a valid one, whatever stands in scope. -/
def uokOwn (op n : Int) (l : Nat) : Bool := kidsOk op l && (if op = 1 then decide (0 ≤ n) && decide (n ≤ 99) else if op = 2 ∨ op = 3 ∨ op = 7 then inVar n else decide (n = 0))
def uokF : Fo → Bool
  | .nil => true
  | .cons op n k r => (uokOwn op n k.len && uokF k) && uokF r
def uokN (op n : Int) (k : Fo) : Bool := uokOwn op n k.len && uokF k
theorem uokF_cons {f : Fo} {op n : Int} {k r : Fo} (e : f = .cons op n k r) : uokF f = (uokN op n k && uokF r) := by subst e; rfl
theorem uok_own {op n : Int} {l : Nat} {S : Nat → Bool} (hk : kidsOk op l = true) (ho : ownOk op n S = true) : uokOwn op n l = true := by
  unfold uokOwn
  rw [hk, Bool.true_and]
  unfold ownOk at ho
  by_cases h1 : op = 1
  · rw [if_pos h1] at ho ⊢; exact ho
  · rw [if_neg h1] at ho ⊢
    by_cases h2 : op = 2
    · rw [if_pos h2, Bool.and_eq_true] at ho
      rw [if_pos (by omega)]; exact ho.1
    · rw [if_neg h2] at ho
      by_cases h3 : op = 7 ∨ op = 3
      · rw [if_pos h3] at ho
        rw [if_pos (by omega)]; exact ho
      · rw [if_neg h3] at ho
        rw [if_neg (by omega)]; exact ho
theorem uok_shape : ∀ (f : Fo) (op n : Int) (i : Nat) (S : Nat → Bool) (d : Nat), shapeF op n i S d f = true → uokF f = true
  | .nil, _, _, _, _, _, _ => rfl
  | .cons o m k r, op, n, i, S, d, h => by
    simp only [shapeF, Bool.and_eq_true] at h
    obtain ⟨⟨⟨⟨_, h2⟩, h3⟩, h4⟩, h5⟩ := h
    rw [uokF_cons rfl, uok_shape r op n (i + 1) S d h5, Bool.and_true]
    unfold uokN
    rw [uok_own h2 h3, uok_shape k o m 0 _ _ h4]; rfl
theorem uok_is {op n : Int} {k : Fo} {S : Nat → Bool} (h : nodeIs op n k S = true) : uokN op n k = true := by
  unfold nodeIs nodeShape at h
  simp only [Bool.and_eq_true] at h
  obtain ⟨⟨⟨⟨_, h2⟩, h3⟩, h4⟩, _⟩ := h
  unfold uokN
  rw [uok_own h2 h3, uok_shape k op n 0 S _ h4]; rfl

/-- It does not go on with a digit. -/
def noDig (r : List UInt8) : Prop := ∀ x s, r = x :: s → ¬ (48 ≤ x.toNat ∧ x.toNat ≤ 57)
theorem noDig_c {x : UInt8} {s : List UInt8} (h : ¬ (48 ≤ x.toNat ∧ x.toNat ≤ 57)) : noDig (x :: s) := by
  intro y t e
  cases e
  exact h
theorem of_nat {a : Nat} (h : a < 256) : (UInt8.ofNat a).toNat = a := by rw [UInt8.toNat_ofNat', Nat.mod_eq_of_lt h]
theorem dec_unique {n m : Int} {r t : List UInt8} (hn : 0 ≤ n ∧ n ≤ 99) (hm : 0 ≤ m ∧ m ≤ 99) (hr : noDig r) (ht : noDig t) (h : decL n ++ r = decL m ++ t) : n = m ∧ r = t := by
  unfold decL at h
  split at h <;> split at h
  · simp only [List.cons_append, List.nil_append, List.cons.injEq] at h
    have h1 := congrArg UInt8.toNat h.1
    rw [of_nat (by omega), of_nat (by omega)] at h1
    exact ⟨by omega, h.2⟩
  · simp only [List.cons_append, List.nil_append, List.cons.injEq] at h
    exact absurd (by rw [of_nat (by omega)]; omega) (hr _ _ h.2)
  · simp only [List.cons_append, List.nil_append, List.cons.injEq] at h
    exact absurd (by rw [of_nat (by omega)]; omega) (ht _ _ h.2.symm)
  · simp only [List.cons_append, List.nil_append, List.cons.injEq] at h
    have h1 := congrArg UInt8.toNat h.1
    have h2 := congrArg UInt8.toNat h.2.1
    rw [of_nat (by omega), of_nat (by omega)] at h1 h2
    exact ⟨by omega, h.2.2⟩

/-- What a text begins with. -/
theorem head_txt {o n : Int} {k : Fo} (h : uokN o n k = true) : ∃ (c : UInt8) (rest : List UInt8), txtN o n k = c :: rest ∧
    ((o = 1 ∧ 48 ≤ c.toNat ∧ c.toNat ≤ 57) ∨ (o = 2 ∧ 97 ≤ c.toNat ∧ c.toNat ≤ 104) ∨ (o = 3 ∧ 65 ≤ c.toNat ∧ c.toNat ≤ 72) ∨ ((o = 4 ∨ o = 5) ∧ c.toNat = 40) ∨ (o = 6 ∧ c.toNat = 91) ∨ ((o = 7 ∨ o = 8) ∧ c.toNat = 123) ∨ (o = 9 ∧ c.toNat = 33)) := by
  unfold uokN uokOwn at h
  simp only [Bool.and_eq_true] at h
  obtain ⟨⟨h1, h2⟩, _⟩ := h
  have h9 : o = 1 ∨ o = 2 ∨ o = 3 ∨ o = 4 ∨ o = 5 ∨ o = 6 ∨ o = 7 ∨ o = 8 ∨ o = 9 := by unfold kidsOk at h1; grind
  unfold txtN txtOf
  rcases h9 with e | e | e | e | e | e | e | e | e <;> subst e <;> simp [inVar] at h2
  · by_cases hn : n ≤ 9
    · simp [decL, hn]; omega
    · simp [decL, hn]; omega
  · simp [letL]; omega
  · simp [letL]; omega
  all_goals simp

/-- Behind an argument: a comma and the next one, or the end. -/
def tailT : Fo → List UInt8
  | .nil => [41]
  | .cons o m k r => 44 :: (txtN o m k ++ tailT r)
def argsT : Fo → List UInt8
  | .nil => [41]
  | .cons o m k r => txtN o m k ++ tailT r
theorem tail_is (o m : Int) (k : Fo) : ∀ r : Fo, commas (txtN o m k :: txtF r) ++ [41] = txtN o m k ++ tailT r := by
  intro r
  induction r generalizing o m k with
  | nil => simp [txtF, commas, tailT]
  | cons o2 m2 k2 r _ ih =>
    rw [show txtF (.cons o2 m2 k2 r) = txtN o2 m2 k2 :: txtF r from rfl]
    show txtN o m k ++ [44] ++ commas (txtN o2 m2 k2 :: txtF r) ++ [41] = _
    rw [List.append_assoc, ih, tailT]
    simp only [List.append_assoc, List.cons_append, List.nil_append]
theorem args_is (k : Fo) : commas (txtF k) ++ [41] = argsT k := by
  cases k with
  | nil => rfl
  | cons o m k r => exact tail_is o m k r

def Uq (s : Nat) : Prop := ∀ (o n o' n' : Int) (k k' : Fo) (r t : List UInt8), k.size < s → uokN o n k = true → uokN o' n' k' = true → noDig r → noDig t → txtN o n k ++ r = txtN o' n' k' ++ t → (o = o' ∧ n = n' ∧ k = k') ∧ r = t
theorem tail_noDig (f : Fo) (r : List UInt8) : noDig (tailT f ++ r) := by
  cases f with
  | nil => exact noDig_c (by decide)
  | cons o m k f => exact noDig_c (by decide)
theorem tail_unique {s : Nat} (ih : Uq s) : ∀ (f g : Fo) (r t : List UInt8), f.size ≤ s → uokF f = true → uokF g = true → tailT f ++ r = tailT g ++ t → f = g ∧ r = t
  | .nil, .nil, r, t, _, _, _, h => ⟨rfl, by simpa [tailT] using h⟩
  | .nil, .cons _ _ _ _, r, t, _, _, _, h => by simp [tailT] at h
  | .cons _ _ _ _, .nil, r, t, _, _, _, h => by simp [tailT] at h
  | .cons o n k f, .cons o' n' k' g, r, t, hs, hf, hg, h => by
    rw [uokF_cons rfl, Bool.and_eq_true] at hf hg
    simp only [tailT, List.cons_append, List.append_assoc, List.cons.injEq, true_and] at h
    simp only [Fo.size] at hs
    obtain ⟨⟨rfl, rfl, rfl⟩, h2⟩ := ih o n o' n' k k' _ _ (by omega) hf.1 hg.1 (tail_noDig f r) (tail_noDig g t) h
    obtain ⟨rfl, rfl⟩ := tail_unique ih f g r t (by omega) hf.2 hg.2 h2
    exact ⟨rfl, rfl⟩
theorem args_unique {s : Nat} (ih : Uq s) (f g : Fo) (r t : List UInt8) (hs : f.size ≤ s) (hf : uokF f = true) (hg : uokF g = true) (h : argsT f ++ r = argsT g ++ t) : f = g ∧ r = t := by
  cases f with
  | nil => cases g with
    | nil => exact ⟨rfl, by simpa [argsT] using h⟩
    | cons o' n' k' g =>
      rw [uokF_cons rfl, Bool.and_eq_true] at hg
      obtain ⟨c, rest, e, hc⟩ := head_txt hg.1
      simp only [argsT, e, List.cons_append, List.append_assoc, List.cons.injEq] at h
      have := congrArg UInt8.toNat h.1
      simp at this
      omega
  | cons o n k f => cases g with
    | nil =>
      rw [uokF_cons rfl, Bool.and_eq_true] at hf
      obtain ⟨c, rest, e, hc⟩ := head_txt hf.1
      simp only [argsT, e, List.cons_append, List.append_assoc, List.cons.injEq] at h
      have := congrArg UInt8.toNat h.1
      simp at this
      omega
    | cons o' n' k' g =>
      rw [uokF_cons rfl, Bool.and_eq_true] at hf hg
      simp only [argsT, List.append_assoc] at h
      simp only [Fo.size] at hs
      obtain ⟨⟨rfl, rfl, rfl⟩, h2⟩ := ih o n o' n' k k' _ _ (by omega) hf.1 hg.1 (tail_noDig f r) (tail_noDig g t) h
      obtain ⟨rfl, rfl⟩ := tail_unique ih f g r t (by omega) hf.2 hg.2 h2
      exact ⟨rfl, rfl⟩
/-- A text then a mark that is no digit. -/
theorem Uq.step {s : Nat} (ih : Uq s) {o n o' n' : Int} {k k' : Fo} {x y : UInt8} {r t : List UInt8} (hs : k.size < s) (h1 : uokN o n k = true) (h2 : uokN o' n' k' = true) (hx : ¬ (48 ≤ x.toNat ∧ x.toNat ≤ 57)) (hy : ¬ (48 ≤ y.toNat ∧ y.toNat ≤ 57)) (h : txtN o n k ++ x :: r = txtN o' n' k' ++ y :: t) : (o = o' ∧ n = n' ∧ k = k') ∧ x = y ∧ r = t := by
  obtain ⟨h3, h4⟩ := ih o n o' n' k k' _ _ hs h1 h2 (noDig_c hx) (noDig_c hy) h
  rw [List.cons.injEq] at h4
  exact ⟨h3, h4⟩
theorem one_of {k : Fo} (h : k.len = 1) : ∃ o m a, k = .cons o m a .nil := by
  match k, h with
  | .cons o m a .nil, _ => exact ⟨o, m, a, rfl⟩
  | .cons _ _ _ (.cons _ _ _ r), h => simp [Fo.len] at h
theorem two_of {k : Fo} (h : k.len = 2) : ∃ o m a p q b, k = .cons o m a (.cons p q b .nil) := by
  match k, h with
  | .cons _ _ _ .nil, h => simp [Fo.len] at h
  | .cons o m a (.cons p q b .nil), _ => exact ⟨o, m, a, p, q, b, rfl⟩
  | .cons _ _ _ (.cons _ _ _ (.cons _ _ _ r)), h => simp [Fo.len] at h
theorem three_of {k : Fo} (h : k.len = 3) : ∃ o m a p q b u v d, k = .cons o m a (.cons p q b (.cons u v d .nil)) := by
  match k, h with
  | .cons _ _ _ .nil, h => simp [Fo.len] at h
  | .cons _ _ _ (.cons _ _ _ .nil), h => simp [Fo.len] at h
  | .cons o m a (.cons p q b (.cons u v d .nil)), _ => exact ⟨o, m, a, p, q, b, u, v, d, rfl⟩
  | .cons _ _ _ (.cons _ _ _ (.cons _ _ _ (.cons _ _ _ r))), h => simp [Fo.len] at h
theorem nil_of {k : Fo} (h : k.len = 0) : k = .nil := by cases k with | nil => rfl | cons _ _ _ _ => simp [Fo.len] at h

section
variable (n o m p q u v : Int) (a b d : Fo) (r : List UInt8)
theorem tx3 (k : Fo) : txtN 3 n k ++ r = UInt8.ofNat (65 + n.toNat) :: 40 :: (argsT k ++ r) := by
  rw [← args_is]
  simp [txtN, txtOf, letL]
theorem tx4 : txtN 4 n (.cons o m a (.cons p q b .nil)) ++ r = 40 :: (txtN o m a ++ 43 :: (txtN p q b ++ 41 :: r)) := by simp [txtN, txtOf, txtF]
theorem tx5 : txtN 5 n (.cons o m a (.cons p q b .nil)) ++ r = 40 :: (txtN o m a ++ 60 :: (txtN p q b ++ 41 :: r)) := by simp [txtN, txtOf, txtF]
theorem tx6 : txtN 6 n (.cons o m a (.cons p q b (.cons u v d .nil))) ++ r = 91 :: (txtN o m a ++ 63 :: (txtN p q b ++ 58 :: (txtN u v d ++ 93 :: r))) := by simp [txtN, txtOf, txtF]
theorem tx7 : txtN 7 n (.cons o m a (.cons p q b .nil)) ++ r = 123 :: UInt8.ofNat (97 + n.toNat) :: 61 :: (txtN o m a ++ 59 :: (txtN p q b ++ 125 :: r)) := by simp [txtN, txtOf, txtF, letL]
theorem tx8 : txtN 8 n (.cons o m a (.cons p q b .nil)) ++ r = 123 :: (txtN o m a ++ 59 :: (txtN p q b ++ 125 :: r)) := by simp [txtN, txtOf, txtF]
theorem tx9 : txtN 9 n (.cons o m a .nil) ++ r = 33 :: (txtN o m a ++ r) := by simp [txtN, txtOf, txtF]
end
/-- A binding's text is none of a sequence. -/
theorem let_seq {n : Int} {o m : Int} {a : Fo} {r t : List UInt8} (hn : inVar n = true) (h2 : uokN o m a = true) (h : UInt8.ofNat (97 + n.toNat) :: 61 :: r = txtN o m a ++ 59 :: t) : False := by
  obtain ⟨h0, h8⟩ := inVar_true hn
  obtain ⟨c, rest, e, hc⟩ := head_txt h2
  have h1 := h
  rw [e, List.cons_append, List.cons.injEq] at h1
  have hcn := congrArg UInt8.toNat h1.1
  rw [of_nat (by omega)] at hcn
  obtain rfl : o = 2 := by omega
  unfold uokN uokOwn at h2
  simp only [Bool.and_eq_true] at h2
  obtain rfl := nil_of (k := a) (by simpa [kidsOk] using h2.1.1)
  have e2 : txtN 2 m .nil = letL 97 m := rfl
  rw [e2] at h
  simp [letL] at h

set_option maxHeartbeats 4000000 in
theorem txt_unique : ∀ s, Uq s := by
  intro s
  induction s with
  | zero => intro o n o' n' k k' r t hs; omega
  | succ s ih =>
  intro o n o' n' k k' r t hs h1 h2 hr ht h
  obtain ⟨c, rest, e, hc⟩ := head_txt h1
  obtain ⟨c', rest', e', hc'⟩ := head_txt h2
  have hcc : c.toNat = c'.toNat := by
    have h3 := h
    rw [e, e'] at h3
    simp only [List.cons_append, List.cons.injEq] at h3
    rw [h3.1]
  have g1 := h1
  have g2 := h2
  unfold uokN uokOwn at g1 g2
  simp only [Bool.and_eq_true] at g1 g2
  obtain ⟨⟨ka, oa⟩, fa⟩ := g1
  obtain ⟨⟨kb, ob⟩, fb⟩ := g2
  have hcl : (o = 1 ∧ o' = 1) ∨ (o = 2 ∧ o' = 2) ∨ (o = 3 ∧ o' = 3) ∨ ((o = 4 ∨ o = 5) ∧ (o' = 4 ∨ o' = 5)) ∨ (o = 6 ∧ o' = 6) ∨ ((o = 7 ∨ o = 8) ∧ (o' = 7 ∨ o' = 8)) ∨ (o = 9 ∧ o' = 9) := by omega
  clear hc hc' hcc e e'
  rcases hcl with ⟨rfl, rfl⟩ | ⟨rfl, rfl⟩ | ⟨rfl, rfl⟩ | ⟨ho, ho'⟩ | ⟨rfl, rfl⟩ | ⟨ho, ho'⟩ | ⟨rfl, rfl⟩
  · obtain rfl := nil_of (k := k) (by simpa [kidsOk] using ka)
    obtain rfl := nil_of (k := k') (by simpa [kidsOk] using kb)
    simp only [if_pos, Bool.and_eq_true, decide_eq_true_eq] at oa ob
    obtain ⟨rfl, rfl⟩ := dec_unique oa ob hr ht h
    exact ⟨⟨rfl, rfl, rfl⟩, rfl⟩
  · obtain rfl := nil_of (k := k) (by simpa [kidsOk] using ka)
    obtain rfl := nil_of (k := k') (by simpa [kidsOk] using kb)
    have va := inVar_true (show inVar n = true by simpa using oa)
    have vb := inVar_true (show inVar n' = true by simpa using ob)
    have h3 : letL 97 n ++ r = letL 97 n' ++ t := h
    simp only [letL, List.cons_append, List.nil_append, List.cons.injEq] at h3
    have h4 := congrArg UInt8.toNat h3.1
    rw [of_nat (by omega), of_nat (by omega)] at h4
    exact ⟨⟨rfl, by omega, rfl⟩, h3.2⟩
  · have va := inVar_true (show inVar n = true by simpa using oa)
    have vb := inVar_true (show inVar n' = true by simpa using ob)
    rw [tx3, tx3] at h
    simp only [List.cons.injEq, true_and] at h
    have h4 := congrArg UInt8.toNat h.1
    rw [of_nat (by omega), of_nat (by omega)] at h4
    obtain ⟨rfl, rfl⟩ := args_unique ih k k' r t (by omega) fa fb h.2
    exact ⟨⟨rfl, by omega, rfl⟩, rfl⟩
  · obtain ⟨o1, m1, k1, o2, m2, k2, rfl⟩ := two_of (k := k) (by rcases ho with rfl | rfl <;> simpa [kidsOk] using ka)
    obtain ⟨o3, m3, k3, o4, m4, k4, rfl⟩ := two_of (k := k') (by rcases ho' with rfl | rfl <;> simpa [kidsOk] using kb)
    have na : n = 0 := by rcases ho with rfl | rfl <;> simpa using oa
    have nb : n' = 0 := by rcases ho' with rfl | rfl <;> simpa using ob
    simp only [uokF, Bool.and_eq_true] at fa fb
    simp only [Fo.size] at hs
    have fa1 : uokN o1 m1 k1 = true := by unfold uokN; rw [Bool.and_eq_true]; exact fa.1
    have fa2 : uokN o2 m2 k2 = true := by unfold uokN; rw [Bool.and_eq_true]; exact fa.2.1
    have fb1 : uokN o3 m3 k3 = true := by unfold uokN; rw [Bool.and_eq_true]; exact fb.1
    have fb2 : uokN o4 m4 k4 = true := by unfold uokN; rw [Bool.and_eq_true]; exact fb.2.1
    have key : ∀ x y : UInt8, ¬ (48 ≤ x.toNat ∧ x.toNat ≤ 57) → ¬ (48 ≤ y.toNat ∧ y.toNat ≤ 57) → txtN o1 m1 k1 ++ x :: (txtN o2 m2 k2 ++ 41 :: r) = txtN o3 m3 k3 ++ y :: (txtN o4 m4 k4 ++ 41 :: t) → x = y ∧ (Fo.cons o1 m1 k1 (.cons o2 m2 k2 .nil) = .cons o3 m3 k3 (.cons o4 m4 k4 .nil)) ∧ r = t := by
      intro x y hx hy h3
      obtain ⟨⟨rfl, rfl, rfl⟩, rfl, h4⟩ := ih.step (by omega) fa1 fb1 hx hy h3
      obtain ⟨⟨rfl, rfl, rfl⟩, -, rfl⟩ := ih.step (by omega) fa2 fb2 (by decide) (by decide) h4
      exact ⟨rfl, rfl, rfl⟩
    subst na nb
    rcases ho with rfl | rfl <;> rcases ho' with rfl | rfl <;> simp only [tx4, tx5, List.cons.injEq, true_and] at h
    · obtain ⟨_, hk, rfl⟩ := key _ _ (by decide) (by decide) h
      exact ⟨⟨rfl, rfl, hk⟩, rfl⟩
    · obtain ⟨hx, _⟩ := key _ _ (by decide) (by decide) h
      exact absurd hx (by decide)
    · obtain ⟨hx, _⟩ := key _ _ (by decide) (by decide) h
      exact absurd hx (by decide)
    · obtain ⟨_, hk, rfl⟩ := key _ _ (by decide) (by decide) h
      exact ⟨⟨rfl, rfl, hk⟩, rfl⟩
  · obtain ⟨o1, m1, k1, o2, m2, k2, o5, m5, k5, rfl⟩ := three_of (k := k) (by simpa [kidsOk] using ka)
    obtain ⟨o3, m3, k3, o4, m4, k4, o6, m6, k6, rfl⟩ := three_of (k := k') (by simpa [kidsOk] using kb)
    have na : n = 0 := by simpa using oa
    have nb : n' = 0 := by simpa using ob
    simp only [uokF, Bool.and_eq_true] at fa fb
    simp only [Fo.size] at hs
    have fa1 : uokN o1 m1 k1 = true := by unfold uokN; rw [Bool.and_eq_true]; exact fa.1
    have fa2 : uokN o2 m2 k2 = true := by unfold uokN; rw [Bool.and_eq_true]; exact fa.2.1
    have fa3 : uokN o5 m5 k5 = true := by unfold uokN; rw [Bool.and_eq_true]; exact fa.2.2.1
    have fb1 : uokN o3 m3 k3 = true := by unfold uokN; rw [Bool.and_eq_true]; exact fb.1
    have fb2 : uokN o4 m4 k4 = true := by unfold uokN; rw [Bool.and_eq_true]; exact fb.2.1
    have fb3 : uokN o6 m6 k6 = true := by unfold uokN; rw [Bool.and_eq_true]; exact fb.2.2.1
    subst na nb
    simp only [tx6, List.cons.injEq, true_and] at h
    obtain ⟨⟨rfl, rfl, rfl⟩, -, h4⟩ := ih.step (by omega) fa1 fb1 (by decide) (by decide) h
    obtain ⟨⟨rfl, rfl, rfl⟩, -, h5⟩ := ih.step (by omega) fa2 fb2 (by decide) (by decide) h4
    obtain ⟨⟨rfl, rfl, rfl⟩, -, rfl⟩ := ih.step (by omega) fa3 fb3 (by decide) (by decide) h5
    exact ⟨⟨rfl, rfl, rfl⟩, rfl⟩
  · obtain ⟨o1, m1, k1, o2, m2, k2, rfl⟩ := two_of (k := k) (by rcases ho with rfl | rfl <;> simpa [kidsOk] using ka)
    obtain ⟨o3, m3, k3, o4, m4, k4, rfl⟩ := two_of (k := k') (by rcases ho' with rfl | rfl <;> simpa [kidsOk] using kb)
    simp only [uokF, Bool.and_eq_true] at fa fb
    simp only [Fo.size] at hs
    have fa1 : uokN o1 m1 k1 = true := by unfold uokN; rw [Bool.and_eq_true]; exact fa.1
    have fa2 : uokN o2 m2 k2 = true := by unfold uokN; rw [Bool.and_eq_true]; exact fa.2.1
    have fb1 : uokN o3 m3 k3 = true := by unfold uokN; rw [Bool.and_eq_true]; exact fb.1
    have fb2 : uokN o4 m4 k4 = true := by unfold uokN; rw [Bool.and_eq_true]; exact fb.2.1
    have key : txtN o1 m1 k1 ++ 59 :: (txtN o2 m2 k2 ++ 125 :: r) = txtN o3 m3 k3 ++ 59 :: (txtN o4 m4 k4 ++ 125 :: t) → (Fo.cons o1 m1 k1 (.cons o2 m2 k2 .nil) = .cons o3 m3 k3 (.cons o4 m4 k4 .nil)) ∧ r = t := by
      intro h3
      obtain ⟨⟨rfl, rfl, rfl⟩, -, h4⟩ := ih.step (by omega) fa1 fb1 (by decide) (by decide) h3
      obtain ⟨⟨rfl, rfl, rfl⟩, -, rfl⟩ := ih.step (by omega) fa2 fb2 (by decide) (by decide) h4
      exact ⟨rfl, rfl⟩
    rcases ho with rfl | rfl <;> rcases ho' with rfl | rfl <;> simp only [tx7, tx8, List.cons.injEq, true_and] at h
    · have va := inVar_true (show inVar n = true by simpa using oa)
      have vb := inVar_true (show inVar n' = true by simpa using ob)
      have h4 := congrArg UInt8.toNat h.1
      rw [of_nat (by omega), of_nat (by omega)] at h4
      obtain ⟨hk, rfl⟩ := key h.2
      exact ⟨⟨rfl, by omega, hk⟩, rfl⟩
    · exact (let_seq (show inVar n = true by simpa using oa) fb1 h).elim
    · exact (let_seq (show inVar n' = true by simpa using ob) fa1 h.symm).elim
    · have na : n = 0 := by simpa using oa
      have nb : n' = 0 := by simpa using ob
      obtain ⟨hk, rfl⟩ := key h
      exact ⟨⟨rfl, by omega, hk⟩, rfl⟩
  · obtain ⟨o1, m1, k1, rfl⟩ := one_of (k := k) (by simpa [kidsOk] using ka)
    obtain ⟨o3, m3, k3, rfl⟩ := one_of (k := k') (by simpa [kidsOk] using kb)
    have na : n = 0 := by simpa using oa
    have nb : n' = 0 := by simpa using ob
    simp only [uokF, Bool.and_eq_true] at fa fb
    simp only [Fo.size] at hs
    have fa1 : uokN o1 m1 k1 = true := by unfold uokN; rw [Bool.and_eq_true]; exact fa.1
    have fb1 : uokN o3 m3 k3 = true := by unfold uokN; rw [Bool.and_eq_true]; exact fb.1
    subst na nb
    simp only [tx9, List.cons.injEq, true_and] at h
    obtain ⟨⟨rfl, rfl, rfl⟩, rfl⟩ := ih o1 m1 o3 m3 k1 k3 r t (by omega) fa1 fb1 hr ht h
    exact ⟨⟨rfl, rfl, rfl⟩, rfl⟩
/-- Two valid expressions with one text are the same. -/
theorem txt_inj {o n o' n' : Int} {k k' : Fo} {S S' : Nat → Bool} (h1 : nodeIs o n k S = true) (h2 : nodeIs o' n' k' S' = true) (h : txtN o n k = txtN o' n' k') : o = o' ∧ n = n' ∧ k = k' :=
  (txt_unique (k.size + 1) o n o' n' k k' [] [] (Nat.lt_succ_self _) (uok_is h1) (uok_is h2) (fun _ _ e => by cases e) (fun _ _ e => by cases e) (by rw [h])).1
end Go.Proofs.Ytnlpcfcoipnnaaa
