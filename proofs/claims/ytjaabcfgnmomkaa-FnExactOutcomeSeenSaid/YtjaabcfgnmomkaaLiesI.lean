/-
  How a slice of ints lies in memory.
-/
import Derived.Test.YtjaabcfgnmomkaaFo
namespace Go.Proofs.Ytjaabcfgnmomkaa
open Go.RowKit
set_option maxRecDepth 100000

/-- The numbers zs lie in the slice at A, in a block from L on and below B. -/
def LiesI (w : World) (L B : Nat) (A : Option Addr) (zs : List Int) : Prop :=
  ∀ i x, zs[i]? = some x → ∃ b o, A = some ⟨b, o, none⟩ ∧ L ≤ b ∧ b < B ∧ I64 x ∧ w.cell? ⟨b, o + i, none⟩ = some (.int .i64 x)

theorem LiesI.keep {w w' : World} {L L' B B' : Nat} {A : Option Addr} {zs : List Int} (hL : L' ≤ L) (hB : B ≤ B') (hk : ∀ p : Addr, L ≤ p.block → p.block < B → w'.cell? p = w.cell? p) (h : LiesI w L B A zs) : LiesI w' L' B' A zs := by
  intro i x hx
  obtain ⟨b, o, h1, h2, h3, h4, h5⟩ := h i x hx
  exact ⟨b, o, h1, by omega, by omega, h4, (hk _ h2 h3).trans h5⟩
theorem LiesI.below {w w' : World} {L B : Nat} {A : Option Addr} {zs : List Int} (h : LiesI w L B A zs) (hb : Below B w w') : LiesI w' L B A zs := h.keep (Nat.le_refl _) (Nat.le_refl _) fun _ _ hp => hb.cell hp
theorem LiesI.mono_ {w : World} {L L' B B' : Nat} {A : Option Addr} {zs : List Int} (h : LiesI w L B A zs) (hL : L' ≤ L) (hB : B ≤ B') : LiesI w L' B' A zs := h.keep hL hB fun _ _ _ => rfl
end Go.Proofs.Ytjaabcfgnmomkaa
