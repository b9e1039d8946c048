/-
  markDefS: numbers are written over a copy of a list of functions.
-/
import Derived.Test.YtlncbnjkajdoeaaMk
import Derived.Test.YtlncbnjkajdoeaaDe
import Derived.Test.YtlncbnjkajdoeaaTools
namespace Go.Proofs.Ytlncbnjkajdoeaa
open Go.RowKit
set_option maxRecDepth 100000

def SkD (w : World) (L B : Nat) (A : Option Addr) (ds : List De) : Prop := ∀ i d, ds[i]? = some d → ∃ b o A' c' t cs, A = some ⟨b, o, none⟩ ∧ L ≤ b ∧ b < B ∧ Row w b t cs ∧ o + i * 6 + 5 < cs.size ∧
  NS cs (o + i * 6) ∧ NS cs (o + i * 6 + 1) ∧ NS cs (o + i * 6 + 2) ∧ NS cs (o + i * 6 + 3) ∧ NS cs (o + i * 6 + 4) ∧ cs[o + i * 6 + 5]? = some (.slice A' d.k.len c') ∧ Sk w L B A' 0 d.k
theorem LiesD.sk {w : World} {L B : Nat} {A : Option Addr} {ds : List De} (ha : AllRows w L B) (h : LiesD w L B A ds) : SkD w L B A ds := by
  intro i d hd
  obtain ⟨b, o, A', c', hA, hl, hb, _, h1, h2, h3, h4, h5, h6, _, _, h9⟩ := h i d hd
  obtain ⟨t, cs, hr⟩ := ha b hl hb
  have hc := cell_row_ hr h6
  exact ⟨b, o, A', c', t, cs, hA, hl, hb, hr, (Array.getElem?_eq_some_iff.1 hc).1, NS.of (cell_row_ hr h1) rfl, NS.of (cell_row_ hr h2) rfl, NS.of (cell_row_ hr h3) rfl, NS.of (cell_row_ hr h4) rfl, NS.of (cell_row_ hr h5) rfl, hc, h9.sk ha⟩
theorem SkD.mk {w w' : World} {L B : Nat} {A : Option Addr} {ds : List De} (h : MkS L B w w') (hs : SkD w L B A ds) : SkD w' L B A ds := by
  intro i d hd
  obtain ⟨b, o, A', c', t, cs, hA, h1, h2, hr, hz, n0, n1, n2, n3, n4, hc, hk⟩ := hs i d hd
  obtain ⟨cs', r', s', e'⟩ := h.inn b t cs h1 h2 hr
  exact ⟨b, o, A', c', t, cs', hA, h1, h2, r', by omega, n0.keep s' e', n1.keep s' e', n2.keep s' e', n3.keep s' e', n4.keep s' e', (e' _ _ rfl).2 hc, hk.mk h⟩

theorem sizeD_append (xs ys : List De) : sizeD (xs ++ ys) = sizeD xs + sizeD ys := by
  induction xs with
  | nil => simp [sizeD]
  | cons d r ih => simp only [List.cons_append, sizeD, ih]; omega
theorem sizeD_take_le (ds : List De) (j : Nat) : sizeD (ds.take j) ≤ sizeD ds := by
  have h := sizeD_append (ds.take j) (ds.drop j)
  rw [List.take_append_drop] at h
  omega
theorem sizeD_take_succ {ds : List De} {j : Nat} {d : De} (h : ds[j]? = some d) : sizeD (ds.take (j + 1)) = sizeD (ds.take j) + (d.k.size + 1) := by
  rw [List.take_add_one, h, sizeD_append]
  simp only [Option.toList, sizeD]
  omega

end Go.Proofs.Ytlncbnjkajdoeaa
