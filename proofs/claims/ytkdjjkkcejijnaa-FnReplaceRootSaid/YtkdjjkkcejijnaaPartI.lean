/-
  impl.PartAt.
-/
import Derived.Test.YtkdjjkkcejijnaaPartS
import Derived.Test.YtkdjjkkcejijnaaCopyI
namespace Go.Proofs.Ytkdjjkkcejijnaa
open Go.RowKit Go.Shelf
set_option maxRecDepth 100000

theorem drop_dep : ∀ (f : Fo) (j : Nat) {o m : Int} {k r : Fo}, f.drop j = .cons o m k r → k.dep ≤ f.dep ∧ k.size ≤ f.size
  | .nil, j, _, _, _, _, e => by rw [Fo.drop_nil] at e; cases e
  | .cons _ _ _ _, 0, _, _, _, _, e => by rw [Fo.drop_zero] at e; cases e; simp only [Fo.dep, Fo.size]; omega
  | .cons _ _ _ r, j + 1, _, _, _, _, e => by
    have := drop_dep r j e
    simp only [Fo.dep, Fo.size]
    omega
theorem partN_small : ∀ (zs : List Int) (p : Nd) {q : Nd}, smallOk p.k 14 80 = true → partN p zs = some q → smallOk q.k 14 80 = true
  | [], p, q, h, e => by simp [partN] at e; rw [← e]; exact h
  | i :: r, p, q, h, e => by
    by_cases h0 : 0 ≤ i
    · by_cases h1 : i.toNat < p.k.len
      · obtain ⟨o, m, k, e1, e2, e3⟩ := Fo.drop_of_lt p.k i.toNat h1
        rw [partN_in h0 e1] at e
        refine partN_small r ⟨o, m, k⟩ ?_ e
        have hd := drop_dep p.k i.toNat e1
        unfold smallOk at h ⊢
        simp at h ⊢
        omega
      · rw [partN_out (by omega)] at e; cases e
    · rw [partN_neg (by omega)] at e; cases e

theorem plain_drop {w : World} {B : Nat} : ∀ (f : Fo) (j : Nat) {A : Option Addr} {i : Nat} {o m : Int} {k r : Fo}, PlainF w B A i f → f.drop j = .cons o m k r →
    ∃ b p A' c', A = some ⟨b, p, none⟩ ∧ w.cell? ⟨b, p + (i + j) * 3 + 2, none⟩ = some (.slice A' k.len c') ∧ PlainF w B A' 0 k
  | .nil, j, _, _, _, _, _, _, _, e => by cases j <;> simp [Fo.drop] at e
  | .cons _ _ _ _, 0, _, _, _, _, _, _, h, e => by
    simp only [Fo.drop, Fo.cons.injEq] at e
    obtain ⟨rfl, rfl, rfl, rfl⟩ := e
    obtain ⟨⟨b, p, A', c', hA, _, _, h3, h4⟩, _⟩ := h
    exact ⟨b, p, A', c', hA, h3, h4⟩
  | .cons _ _ _ s, j + 1, _, i, _, _, _, _, h, e => by
    obtain ⟨b, p, A', c', hA, h3, h4⟩ := plain_drop s j h.2 (by simpa only [Fo.drop] using e)
    rw [show i + 1 + j = i + (j + 1) by omega] at h3
    exact ⟨b, p, A', c', hA, h3, h4⟩
/-- The node at the end of a way stands in plain rows, if the first one's Kids do. -/
theorem plain_down {w : World} {B : Nat} : ∀ (zs : List Int) (p : Nd) (a b : Addr) (A : Option Addr) (c : Nat) {q : Nd}, w.cell? ⟨a.block, a.off + 2, none⟩ = some (.slice A p.k.len c) → PlainF w B A 0 p.k → Down w a zs b → partN p zs = some q →
    ∀ A' c', w.cell? ⟨b.block, b.off + 2, none⟩ = some (.slice A' q.k.len c') → PlainF w B A' 0 q.k
  | [], p, a, b, A, c, q, h, hp, hd, e, A', c', h' => by
    have hd : a = b := hd
    subst hd
    simp only [partN, Option.some.injEq] at e
    subst e
    have e2 := h.symm.trans h'
    injection e2 with e2
    injection e2 with e3
    rw [← e3]
    exact hp
  | i :: r, p, a, b, A, c, q, h, hp, ⟨g, o, l, c2, d1, d2, d3, d4⟩, e, A', c', h' => by
    have e2 := h.symm.trans d1
    injection e2 with e2
    injection e2 with e3 e4 _
    subst e3
    have hlt : i.toNat < p.k.len := by omega
    obtain ⟨o1, m1, k1, x1, _, _⟩ := Fo.drop_of_lt p.k i.toNat hlt
    rw [partN_in d2 x1] at e
    obtain ⟨b2, p2, A2, c3, hA, hc, hpl⟩ := plain_drop p.k i.toNat hp x1
    injection hA with hA
    injection hA with g1 g2
    subst g1
    subst g2
    rw [Nat.zero_add] at hc
    exact plain_down r ⟨o1, m1, k1⟩ ⟨g, o + i.toNat * 3, none⟩ b A2 c3 hc hpl d4 e A' c' h'

end Go.Proofs.Ytkdjjkkcejijnaa
