/-
  The table for all rows from 1 to 2000.
-/
import Derived.Test.YtpknegneogdmfaaGreatDensT
set_option maxRecDepth 100000
namespace Go.Proofs.YtpknegneogdmfaaGreat.Dens
def fines (N : Nat) : List (Nat × Nat) → Bool
  | [] => true
  | (n, a) :: r => fine N a (many n a) n && fines N r
theorem fines_at {N m a : Nat} : ∀ l, fines N l = true → (m, a) ∈ l → good m
  | [], _, h => by simp at h
  | (n, b) :: r, h, hm => by
    simp only [fines, Bool.and_eq_true] at h
    rcases List.mem_cons.1 hm with e | hm
    · injection e with e1 e2
      exact ⟨N, a, many m a, by rw [e1, e2]; exact h.1⟩
    · exact fines_at r h.2 hm
theorem x22 : fines 22 [(7, 8), (135, 7), (263, 8), (636, 7), (647, 7), (903, 7)] = true := by kernel_rfl
theorem x23 : fines 23 [(1031, 7), (1127, 7), (1287, 7), (1415, 7), (1543, 7), (1863, 7), (1927, 7)] = true := by kernel_rfl
theorem x24 : fines 24 [(1799, 8)] = true := by kernel_rfl
theorem all_good {m : Nat} (h1 : 1 ≤ m) (h2 : m ≤ 2000) : good m := by
  by_cases hs : skip m = true
  · simp only [skip, Bool.or_eq_true, Nat.beq_eq] at hs
    rcases hs with ((((((((((((rfl | rfl) | rfl) | rfl) | rfl) | rfl) | rfl) | rfl) | rfl) | rfl) | rfl) | rfl) | rfl) | rfl
    · exact fines_at (a := 8) _ x22 (by simp)
    · exact fines_at (a := 7) _ x22 (by simp)
    · exact fines_at (a := 8) _ x22 (by simp)
    · exact fines_at (a := 7) _ x22 (by simp)
    · exact fines_at (a := 7) _ x22 (by simp)
    · exact fines_at (a := 7) _ x22 (by simp)
    · exact fines_at (a := 7) _ x23 (by simp)
    · exact fines_at (a := 7) _ x23 (by simp)
    · exact fines_at (a := 7) _ x23 (by simp)
    · exact fines_at (a := 7) _ x23 (by simp)
    · exact fines_at (a := 7) _ x23 (by simp)
    · exact fines_at (a := 8) _ x24 (by simp)
    · exact fines_at (a := 7) _ x23 (by simp)
    · exact fines_at (a := 7) _ x23 (by simp)
  · have hs := Bool.eq_false_iff.2 hs
    by_cases e0 : m < 401
    · exact G1 (by omega) e0 hs
    by_cases e1 : m < 801
    · exact G2 (by omega) e1 hs
    by_cases e2 : m < 1201
    · exact G3 (by omega) e2 hs
    by_cases e3 : m < 1601
    · exact G4 (by omega) e3 hs
    by_cases e4 : m < 2001
    · exact G5 (by omega) e4 hs
    omega

/-- Of every source with 1 to 2000 bytes: behind some place the threes are fewer than a third. -/
theorem rarely {n : Nat} (h1 : 1 ≤ n) (h2 : n ≤ 2000) : ∃ Q, Q ≤ 500000 ∧ ∀ b : Nat → Nat, (∀ i, b i < 256) → 3 * sum (thr b n) Q + 4008 ≤ Q := rare (by omega) (all_good h1 h2)
end Go.Proofs.YtpknegneogdmfaaGreat.Dens
