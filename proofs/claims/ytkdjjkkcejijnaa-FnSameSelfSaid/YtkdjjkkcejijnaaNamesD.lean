/-
  SameNames as data: what a valid node says of its numbers, how deep and large the renumbered tree is.
-/
import Derived.Test.YtkdjjkkcejijnaaPutD
import Derived.Test.YtkdjjkkcejijnaaSmall
namespace Go.Proofs.Ytkdjjkkcejijnaa
open Go.RowKit
set_option maxRecDepth 100000

def namesB (op n : Int) (k : Fo) (op2 n2 : Int) (k2 : Fo) : Bool := nodeIs op n k (firstS 8) && nodeIs op2 n2 k2 (firstS 8) && alikeN op n k op2 n2 k2 [] []

theorem node_i64 {op n : Int} {k : Fo} {S : Nat → Bool} (h : nodeIs op n k S = true) : I64 op ∧ I64 n := by
  unfold nodeIs nodeShape at h
  simp only [Bool.and_eq_true] at h
  obtain ⟨⟨⟨⟨_, h2⟩, h3⟩, _⟩, _⟩ := h
  have ho : 1 ≤ op ∧ op ≤ 9 := by
    rcases kinds op with h | h | h | h | h | h | h | h | h | h
    iterate 9
      · omega
    · exfalso
      unfold kidsOk at h2
      rw [if_neg (by omega), if_neg (by omega), if_neg (by omega), if_neg (by omega), if_neg (by omega)] at h2
      cases h2
  have hn : 0 ≤ n ∧ n ≤ 99 := by
    unfold ownOk at h3
    split at h3
    · simpa using h3
    · split at h3
      · simp [inVar] at h3; omega
      · split at h3
        · simp [inVar] at h3; omega
        · simp at h3; omega
  unfold I64
  constructor <;> constructor <;> omega
theorem renF_dep (op n : Int) : ∀ (i : Nat) (nu : Nat → Int) (nx : Int) (k : Fo), (renF op n i nu nx k).dep = k.dep
  | _, _, _, .nil => rfl
  | i, nu, nx, .cons o m k r => by
    simp only [renF]
    split <;> simp only [Fo.dep, renF_dep op n (i + 1) _ _ r, renF_dep o m 0 _ _ k]
theorem ren_small (op n : Int) (i : Nat) (nu : Nat → Int) (nx : Int) (k : Fo) : smallOk (renF op n i nu nx k) 14 80 = smallOk k 14 80 := by
  unfold smallOk
  rw [renF_dep, renF_size]
end Go.Proofs.Ytkdjjkkcejijnaa
