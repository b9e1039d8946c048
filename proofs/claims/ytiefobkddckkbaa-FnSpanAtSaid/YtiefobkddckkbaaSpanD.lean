/-
  Where a part stands in a node's text.
-/
import Derived.Test.YtiefobkddckkbaaFmtM
import Derived.Test.YtiefobkddckkbaaPath
import Derived.Test.YtiefobkddckkbaaValD
namespace Go.Proofs.Ytiefobkddckkbaa
open Go.RowKit
set_option maxRecDepth 100000

/-- The text in front of operand i. -/
def offT (op n : Int) (ts : List (List UInt8)) (i : Nat) : List UInt8 := pre op n ts i ++ markL op n ts.length i
theorem off_split {op n : Int} {ts : List (List UInt8)} (h : kidsOk op ts.length = true) {i : Nat} (hi : i < ts.length) : ∃ post, txtOf op n ts = offT op n ts i ++ ts.getD i [] ++ post := by
  refine ⟨inter op n ts.length (i + 1) (ts.drop (i + 1)), ?_⟩
  rw [← inter_is ts h, pre_inter op n ts i (by omega)]
  rw [show ts.drop i = ts.getD i [] :: ts.drop (i + 1) by rw [List.drop_eq_getElem_cons hi]; simp [List.getD, List.getElem?_eq_getElem hi]]
  simp only [inter, offT, List.append_assoc]
/-- As the model counts it. -/
def leadN (op : Int) (ts : List (List UInt8)) : Nat → Nat
  | 0 => if op = 3 then 2 else if op = 7 then 3 else 1
  | i + 1 => leadN op ts i + ((ts.getD i []).length + 1)
theorem mark_len {op n : Int} {l i : Nat} (h : kidsOk op l = true) (hi : i < l) : (markL op n l i).length = if i = 0 then (if op = 3 then 2 else if op = 7 then 3 else 1) else 1 := by
  have h9 : op = 1 ∨ op = 2 ∨ op = 3 ∨ op = 4 ∨ op = 5 ∨ op = 6 ∨ op = 7 ∨ op = 8 ∨ op = 9 := by unfold kidsOk at h; grind
  have h3 : l ≤ 3 := by unfold kidsOk at h; grind
  have hl : l = 1 ∨ l = 2 ∨ l = 3 := by omega
  have hj : i = 0 ∨ i = 1 ∨ i = 2 := by omega
  rcases hl with e | e | e <;> subst e <;> rcases hj with e | e | e <;> subst e <;> rcases h9 with e | e | e | e | e | e | e | e | e <;> subst e <;> first
    | (exfalso; omega)
    | (exfalso; revert h; decide)
    | simp [markL, plainM, letL]
theorem off_len {op n : Int} {ts : List (List UInt8)} (h : kidsOk op ts.length = true) : ∀ i : Nat, i < ts.length → (offT op n ts i).length = leadN op ts i
  | 0, hi => by
    unfold offT leadN
    rw [List.length_append, mark_len h hi, if_pos rfl]
    simp [pre]
  | i + 1, hi => by
    have ih := off_len (n := n) h i (by omega)
    unfold offT at ih ⊢
    unfold leadN
    rw [← ih, List.length_append, mark_len h hi, if_neg (by omega)]
    simp only [pre, List.length_append]
    omega
theorem sp_scope : scopeOf [0, 1, 2, 3, 4, 5, 6, 7] = firstS 8 := by
  funext u
  unfold scopeOf firstS
  rw [Bool.eq_iff_iff]
  simp
  omega
theorem sp_kid {op n : Int} {k : Fo} (h : nodeIs op n k (firstS 8) = true) {j : Nat} {o m : Int} {k1 : Fo} (e : k.drop j = .cons o m k1 (k.drop (j + 1))) : nodeIs o m k1 (firstS 8) = true := by
  have h1 : validOf op n k [0, 1, 2, 3, 4, 5, 6, 7] = true := by
    unfold validOf
    rw [sp_scope, h]
    rfl
  have h2 := valid_kid h1 e
  unfold validOf at h2
  rw [sp_scope, Bool.and_eq_true] at h2
  exact h2.2
/-- Where the part at a path begins. -/
def spanN (p : Nd) : List Int → Nat
  | [] => 0
  | i :: r => leadN p.op (txtF p.k) i.toNat + (match p.k.drop i.toNat with
    | .cons o m k _ => spanN ⟨o, m, k⟩ r
    | .nil => 0)
theorem spanN_in {p : Nd} {i : Int} {r : List Int} {o m : Int} {k s : Fo} (e : p.k.drop i.toNat = .cons o m k s) : spanN p (i :: r) = leadN p.op (txtF p.k) i.toNat + spanN ⟨o, m, k⟩ r := by simp only [spanN, e]
theorem span_text : ∀ (zs : List Int) (p x : Nd), nodeIs p.op p.n p.k (firstS 8) = true → partN p zs = some x → ∃ a post, txtN p.op p.n p.k = a ++ txtN x.op x.n x.k ++ post ∧ a.length = spanN p zs
  | [], p, x, _, h => by
    simp only [partN, Option.some.injEq] at h
    subst h
    exact ⟨[], [], by simp, rfl⟩
  | i :: r, p, x, hp, h => by
    by_cases h0 : 0 ≤ i
    · by_cases h1 : i.toNat < p.k.len
      · obtain ⟨o, m, k, e1, _, _⟩ := Fo.drop_of_lt p.k i.toNat h1
        rw [partN_in h0 e1] at h
        obtain ⟨a, post, g1, g2⟩ := span_text r ⟨o, m, k⟩ x (sp_kid hp e1) h
        have hk : kidsOk p.op (txtF p.k).length = true := by
          unfold nodeIs nodeShape at hp
          simp only [Bool.and_eq_true] at hp
          rw [txtF_len]
          exact hp.1.1.1.2
        obtain ⟨post2, g3⟩ := off_split (n := p.n) hk (show i.toNat < (txtF p.k).length by rw [txtF_len]; exact h1)
        rw [txtF_at e1, g1] at g3
        refine ⟨offT p.op p.n (txtF p.k) i.toNat ++ a, post ++ post2, ?_, ?_⟩
        · unfold txtN at g3 ⊢
          rw [g3]
          simp only [List.append_assoc]
        · rw [List.length_append, off_len hk _ (by rw [txtF_len]; exact h1), g2]
          rw [spanN_in e1]
      · rw [partN_out (by omega)] at h; cases h
    · rw [partN_neg (by omega)] at h; cases h
theorem lead_pos (op : Int) (ts : List (List UInt8)) : ∀ i, 1 ≤ leadN op ts i
  | 0 => by unfold leadN; split <;> first | decide | (split <;> decide)
  | i + 1 => by unfold leadN; omega
theorem span_fits {p x : Nd} {zs : List Int} (hp : nodeIs p.op p.n p.k (firstS 8) = true) (h : partN p zs = some x) : spanN p zs + (txtN x.op x.n x.k).length ≤ (txtN p.op p.n p.k).length := by
  obtain ⟨a, post, h1, h2⟩ := span_text zs p x hp h
  rw [h1, ← h2]
  simp only [List.length_append]
  omega
theorem part_is8 : ∀ (zs : List Int) (p x : Nd), nodeIs p.op p.n p.k (firstS 8) = true → partN p zs = some x → nodeIs x.op x.n x.k (firstS 8) = true
  | [], p, x, hp, h => by
    simp only [partN, Option.some.injEq] at h
    subst h
    exact hp
  | i :: r, p, x, hp, h => by
    by_cases h0 : 0 ≤ i
    · by_cases h1 : i.toNat < p.k.len
      · obtain ⟨o, m, k, e1, _, _⟩ := Fo.drop_of_lt p.k i.toNat h1
        rw [partN_in h0 e1] at h
        exact part_is8 r ⟨o, m, k⟩ x (sp_kid hp e1) h
      · rw [partN_out (by omega)] at h; cases h
    · rw [partN_neg (by omega)] at h; cases h
theorem part_snoc : ∀ (ys : List Int) (p x : Nd) (i : Int), partN p (ys ++ [i]) = some x → ∃ y, partN p ys = some y ∧ partN y [i] = some x ∧ spanN p (ys ++ [i]) = spanN p ys + spanN y [i]
  | [], p, x, i, h => ⟨p, rfl, h, by simp [spanN]⟩
  | j :: r, p, x, i, h => by
    rw [List.cons_append] at h ⊢
    by_cases h0 : 0 ≤ j
    · by_cases h1 : j.toNat < p.k.len
      · obtain ⟨o, m, k, e1, _, _⟩ := Fo.drop_of_lt p.k j.toNat h1
        rw [partN_in h0 e1] at h
        obtain ⟨y, g1, g2, g3⟩ := part_snoc r ⟨o, m, k⟩ x i h
        refine ⟨y, by rw [partN_in h0 e1]; exact g1, g2, ?_⟩
        rw [spanN_in e1, spanN_in e1, g3, Nat.add_assoc]
      · rw [partN_out (by omega)] at h; cases h
    · rw [partN_neg (by omega)] at h; cases h
/-- What the law FnPartSpan says: a part lies within the one around it, and begins behind its beginning. -/
theorem span_within {ys : List Int} {p x : Nd} {i : Int} (hp : nodeIs p.op p.n p.k (firstS 8) = true) (h : partN p (ys ++ [i]) = some x) : ∃ y, partN p ys = some y ∧ spanN p ys < spanN p (ys ++ [i]) ∧ spanN p (ys ++ [i]) + (txtN x.op x.n x.k).length ≤ spanN p ys + (txtN y.op y.n y.k).length := by
  obtain ⟨y, h1, h2, h3⟩ := part_snoc ys p x i h
  have h4 := span_fits (part_is8 ys p y hp h1) h2
  refine ⟨y, h1, ?_, by rw [h3]; omega⟩
  rw [h3]
  have h5 := lead_pos y.op (txtF y.k) i.toNat
  have h6 : leadN y.op (txtF y.k) i.toNat ≤ spanN y [i] := by unfold spanN; exact Nat.le_add_right _ _
  omega
end Go.Proofs.Ytiefobkddckkbaa
