/-
  The model's text of an expression: spec.l1Text, kind by kind.
-/
import Derived.Test.YtdpiklnadhpjjaaTxtS
import Derived.Deep.RegionHeld3
import Derived.Deep.RegionWith
namespace Go.Proofs.Ytdpiklnadhpjjaa
open Go.RowKit
set_option maxRecDepth 100000

theorem len_one {k : Fo} (h : k.len = 1) : ∃ o m a, k = .cons o m a .nil := by
  match k, h with
  | .cons o m a .nil, _ => exact ⟨o, m, a, rfl⟩
  | .cons _ _ _ (.cons _ _ _ r), h => simp [Fo.len] at h
theorem len_two {k : Fo} (h : k.len = 2) : ∃ o m a p q b, k = .cons o m a (.cons p q b .nil) := by
  match k, h with
  | .cons _ _ _ .nil, h => simp [Fo.len] at h
  | .cons o m a (.cons p q b .nil), _ => exact ⟨o, m, a, p, q, b, rfl⟩
  | .cons _ _ _ (.cons _ _ _ (.cons _ _ _ r)), h => simp [Fo.len] at h
theorem len_three {k : Fo} (h : k.len = 3) : ∃ o m a p q b s t d, k = .cons o m a (.cons p q b (.cons s t d .nil)) := by
  match k, h with
  | .cons _ _ _ .nil, h => simp [Fo.len] at h
  | .cons _ _ _ (.cons _ _ _ .nil), h => simp [Fo.len] at h
  | .cons o m a (.cons p q b (.cons s t d .nil)), _ => exact ⟨o, m, a, p, q, b, s, t, d, rfl⟩
  | .cons _ _ _ (.cons _ _ _ (.cons _ _ _ (.cons _ _ _ r))), h => simp [Fo.len] at h
theorem text_size (op n : Int) (k : Fo) (h : k.size ≤ 1048576) : (ByteArray.mk (txtN op n k).toArray).size ≤ 7000000 := by
  have := txtN_len op n k
  show (txtN op n k).length ≤ 7000000
  omega

/-! The call: a loop over its Kids. -/
theorem commas_snoc : ∀ (ts : List (List UInt8)) (t : List UInt8), ts ≠ [] → commas (ts ++ [t]) = commas ts ++ [44] ++ t
  | [], _, h => absurd rfl h
  | [x], t, _ => rfl
  | x :: y :: r, t, _ => by
    have := commas_snoc (y :: r) t (by simp)
    simp only [List.cons_append] at this
    show x ++ [44] ++ commas (y :: (r ++ [t])) = x ++ [44] ++ commas (y :: r) ++ [44] ++ t
    rw [this]
    simp only [List.append_assoc]
theorem sum_take : ∀ (l : List Nat) (j : Nat), (l.take j).sum ≤ l.sum
  | [], j => by simp
  | a :: l, 0 => by simp
  | a :: l, j + 1 => by have := sum_take l j; simp only [List.take_succ_cons, List.sum_cons]; omega
/-- What is written of a call ahead of its j-th operand. -/
def preT (n : Int) (k : Fo) (j : Nat) : List UInt8 := letL 65 n ++ [40] ++ commas ((txtF k).take j)
theorem preT_len (n : Int) (k : Fo) (j : Nat) (h : k.size ≤ 1048576) : (preT n k j).length ≤ 7000000 := by
  have h1 := commas_len ((txtF k).take j)
  have h2 := sum_take ((txtF k).map fun t => t.length + 1) j
  have h3 := txtF_sum k
  rw [List.map_take] at h1
  simp only [preT, letL, List.length_append, List.length_cons, List.length_nil]
  omega
theorem take_at {f : Fo} {j : Nat} {op n : Int} {k : Fo} (e : f.drop j = .cons op n k (f.drop (j + 1))) : (txtF f).take (j + 1) = (txtF f).take j ++ [txtN op n k] := by
  have h := txtF_drop f j
  rw [e] at h
  have hx : (txtF f)[j]? = some (txtN op n k) := by
    have : ((txtF f).drop j)[0]? = some (txtN op n k) := by rw [← h]; rfl
    rwa [List.getElem?_drop, Nat.add_zero] at this
  rw [List.take_add_one, hx]; rfl
theorem preT_step {n : Int} {f : Fo} {j : Nat} {op m : Int} {k : Fo} (e : f.drop j = .cons op m k (f.drop (j + 1))) (hj : j < f.len) : preT n f (j + 1) = (if j = 0 then preT n f j else preT n f j ++ [44]) ++ txtN op m k := by
  unfold preT
  rw [take_at e]
  by_cases h : j = 0
  · subst h
    simp [commas]
  · have hne : (txtF f).take j ≠ [] := by
      intro h0
      have := congrArg List.length h0
      rw [List.length_take, txtF_len] at this
      simp at this
      omega
    rw [if_neg h, commas_snoc _ _ hne]
    simp only [List.append_assoc]

theorem ownTxt_cases {op n : Int} {l : Nat} (h : ownTxt op n l = true) : (op = 1 ∧ 0 ≤ n ∧ n ≤ 99) ∨ (op = 2 ∧ 0 ≤ n ∧ n < 26) ∨ (op = 3 ∧ 0 ≤ n ∧ n < 26) ∨ (op = 4 ∧ l = 2) ∨ (op = 5 ∧ l = 2) ∨ (op = 6 ∧ l = 3) ∨ (op = 7 ∧ (0 ≤ n ∧ n < 26) ∧ l = 2) ∨ (op = 8 ∧ l = 2) ∨ (op = 9 ∧ l = 1) := by
  unfold ownTxt at h
  simp only [Bool.or_eq_true, Bool.and_eq_true, decide_eq_true_eq] at h
  rcases h with (((((((h | h) | h) | h) | h) | h) | h) | h) | h
  · exact .inl ⟨h.1.1, h.1.2, h.2⟩
  · exact .inr (.inl ⟨h.1.1, h.1.2, h.2⟩)
  · exact .inr (.inr (.inl ⟨h.1.1, h.1.2, h.2⟩))
  · exact .inr (.inr (.inr (.inl h)))
  · exact .inr (.inr (.inr (.inr (.inl h))))
  · exact .inr (.inr (.inr (.inr (.inr (.inl h)))))
  · exact .inr (.inr (.inr (.inr (.inr (.inr (.inl ⟨h.1.1.1, ⟨h.1.1.2, h.1.2⟩, h.2⟩))))))
  · exact .inr (.inr (.inr (.inr (.inr (.inr (.inr (.inl h)))))))
  · exact .inr (.inr (.inr (.inr (.inr (.inr (.inr (.inr h)))))))

end Go.Proofs.Ytdpiklnadhpjjaa
