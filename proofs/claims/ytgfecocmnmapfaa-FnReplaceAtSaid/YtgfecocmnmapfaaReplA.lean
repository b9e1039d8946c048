/-
  A part replaced, and its place looked at again, as data.
-/
import Derived.Test.YtgfecocmnmapfaaReplS
import Derived.Test.YtgfecocmnmapfaaValD
namespace Go.Proofs.Ytgfecocmnmapfaa
open Go.RowKit
set_option maxRecDepth 100000

theorem setN_back (y y' : Int) (k' : Fo) {o m : Int} {k : Fo} : ∀ (i : Nat) (f : Fo) {s : Fo}, f.drop i = .cons o m k s → setN i (setN i f y y' k') o m k = f
  | _, .nil, s, h => by rw [Fo.drop_nil] at h; cases h
  | 0, .cons _ _ _ r, s, h => by
    rw [Fo.drop_zero] at h
    injection h with h1 h2 h3 h4
    subst h1 h2 h3
    simp only [setN]
  | i + 1, .cons _ _ _ r, s, h => by simp only [setN]; rw [setN_back y y' k' i r (by simpa only [Fo.drop] using h)]
theorem setN_size (y y' : Int) (k' : Fo) {o m : Int} {k : Fo} : ∀ (i : Nat) (f : Fo) {s : Fo}, f.drop i = .cons o m k s → (setN i f y y' k').size + k.size = f.size + k'.size
  | _, .nil, s, h => by rw [Fo.drop_nil] at h; cases h
  | 0, .cons _ _ _ r, s, h => by
    rw [Fo.drop_zero] at h
    injection h with h1 h2 h3 h4
    subst h1 h2 h3
    simp only [setN, Fo.size]
    omega
  | i + 1, .cons _ _ _ r, s, h => by
    have := setN_size y y' k' i r (by simpa only [Fo.drop] using h)
    simp only [setN, Fo.size]
    omega

theorem repl_all : ∀ (zs : List Int) (p x : Nd) {q : Nd}, partN p zs = some q → partN (replN p zs x) zs = some x ∧ replN (replN p zs x) zs q = p ∧ (replN p zs x).k.size + q.k.size = p.k.size + x.k.size
  | [], p, x, q, h => by
    simp only [partN, Option.some.injEq] at h
    subst h
    exact ⟨rfl, rfl, by simp only [replN]; omega⟩
  | i :: r, p, x, q, h => by
    by_cases h0 : 0 ≤ i
    · by_cases h1 : i.toNat < p.k.len
      · obtain ⟨o, m, k, e1, _, _⟩ := Fo.drop_of_lt p.k i.toNat h1
        rw [partN_in h0 e1] at h
        obtain ⟨a, b, c⟩ := repl_all r ⟨o, m, k⟩ x h
        have ea := setN_at (replN ⟨o, m, k⟩ r x).op (replN ⟨o, m, k⟩ r x).n (replN ⟨o, m, k⟩ r x).k i.toNat p.k h1
        rw [replN_in h0 e1]
        refine ⟨?_, ?_, ?_⟩
        · rw [partN_in h0 ea]; exact a
        · rw [replN_in (p := ⟨p.op, p.n, setN i.toNat p.k (replN ⟨o, m, k⟩ r x).op (replN ⟨o, m, k⟩ r x).n (replN ⟨o, m, k⟩ r x).k⟩) h0 ea]
          rw [show replN ⟨(replN ⟨o, m, k⟩ r x).op, (replN ⟨o, m, k⟩ r x).n, (replN ⟨o, m, k⟩ r x).k⟩ r q = ⟨o, m, k⟩ from b]
          dsimp only
          rw [setN_back _ _ _ _ _ e1]
        · have hs := setN_size (replN ⟨o, m, k⟩ r x).op (replN ⟨o, m, k⟩ r x).n (replN ⟨o, m, k⟩ r x).k i.toNat p.k e1
          dsimp only at c ⊢
          omega
      · rw [partN_out (by omega)] at h; cases h
    · rw [partN_neg (by omega)] at h; cases h

theorem nd_kid {p : Nd} (h : ndIs p = true) {j : Nat} {o m : Int} {k1 : Fo} (e : p.k.drop j = .cons o m k1 (p.k.drop (j + 1))) : ndIs ⟨o, m, k1⟩ = true := by
  have h1 : validOf p.op p.n p.k [0, 1, 2, 3, 4, 5, 6, 7] = true := by
    unfold validOf
    rw [Bool.and_eq_true]
    refine ⟨by decide, nodeIs_up (S := firstS 8) (fun v hv _ => ?_) h⟩
    unfold scopeOf
    rw [decide_eq_true_iff]
    simp
    omega
  have h2 := valid_kid h1 e
  unfold validOf at h2
  rw [Bool.and_eq_true] at h2
  exact nodeIs_up (fun v hv _ => by unfold firstS; exact decide_eq_true hv) h2.2
theorem part_nd : ∀ (zs : List Int) (p : Nd) {q : Nd}, ndIs p = true → partN p zs = some q → ndIs q = true
  | [], p, q, h, e => by
    simp only [partN, Option.some.injEq] at e
    subst e
    exact h
  | i :: r, p, q, h, e => by
    by_cases h0 : 0 ≤ i
    · by_cases h1 : i.toNat < p.k.len
      · obtain ⟨o, m, k, e1, _, _⟩ := Fo.drop_of_lt p.k i.toNat h1
        rw [partN_in h0 e1] at e
        exact part_nd r ⟨o, m, k⟩ (nd_kid h e1) e
      · rw [partN_out (by omega)] at e; cases e
    · rw [partN_neg (by omega)] at e; cases e

/-- Where ReplaceAt answers: the part is the new one, the old part put back gives the old expression, and the sizes. -/
theorem res_all {p x y : Nd} {zs : List Int} (h : resR p zs x = some y) : ∃ q, y = replN p zs x ∧ partN p zs = some q ∧ partN y zs = some x ∧ resR y zs q = some p ∧ y.k.size + q.k.size = p.k.size + x.k.size ∧ p.k.size ≤ 80 ∧ x.k.size ≤ 80 ∧ y.k.size ≤ 80 ∧ q.k.size ≤ 80 := by
  unfold resR at h
  split at h
  · rename_i hc
    simp only [Bool.and_eq_true] at hc
    obtain ⟨⟨⟨hc1, hc2⟩, hc3⟩, hc4⟩ := hc
    cases e : partN p zs with
    | none => rw [e] at hc1; cases hc1
    | some q =>
      obtain ⟨a, b, c⟩ := repl_all zs p x e
      injection h with h
      have hq := part_nd zs p hc2 e
      subst h
      have s : ∀ z : Nd, ndIs z = true → z.k.size ≤ 80 := fun z hz => by
        unfold ndIs nodeIs at hz
        rw [Bool.and_eq_true, decide_eq_true_iff] at hz
        have := hz.2
        omega
      refine ⟨q, rfl, rfl, a, ?_, c, s _ hc2, s _ hc3, s _ hc4, s _ hq⟩
      unfold resR
      rw [a, b, hc2, hc4, hq]
      rfl
  · cases h
theorem repl_i64 {p x : Nd} (hp : I64 p.op ∧ I64 p.n) (hx : I64 x.op ∧ I64 x.n) : ∀ zs : List Int, I64 (replN p zs x).op ∧ I64 (replN p zs x).n
  | [] => hx
  | i :: r => by obtain ⟨a, b⟩ := replN_top p x i r; rw [a, b]; exact hp
end Go.Proofs.Ytgfecocmnmapfaa
