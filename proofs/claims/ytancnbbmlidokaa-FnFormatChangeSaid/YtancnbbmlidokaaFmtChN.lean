/-
  The text of a change says the change: two changes with a text have the same one only if they are the same.
-/
import Derived.Test.YtancnbbmlidokaaFmtCh
namespace Go.Proofs.Ytancnbbmlidokaa
open Go.RowKit
set_option maxRecDepth 100000

theorem fmtCh_bad {k n : Int} (h : ¬ ((1 ≤ k ∧ k ≤ 6) ∧ 0 ≤ n ∧ n < 8)) : fmtCh k n = [] := if_neg h
theorem fmtCh_ok {k n : Int} (h : (1 ≤ k ∧ k ≤ 6) ∧ 0 ≤ n ∧ n < 8) : fmtCh k n = chW k ++ [32, UInt8.ofNat (65 + n.toNat)] := if_pos h
theorem fmtCh_ne {k n : Int} (h : (1 ≤ k ∧ k ≤ 6) ∧ 0 ≤ n ∧ n < 8) : fmtCh k n ≠ [] := by rw [fmtCh_ok h]; simp
theorem fmtCh_inj {k n k' n' : Int} (h : (1 ≤ k ∧ k ≤ 6) ∧ 0 ≤ n ∧ n < 8) (h' : (1 ≤ k' ∧ k' ≤ 6) ∧ 0 ≤ n' ∧ n' < 8) (e : fmtCh k n = fmtCh k' n') : k = k' ∧ n = n' := by
  rw [fmtCh_ok h, fmtCh_ok h'] at e
  obtain ⟨e1, e2⟩ := List.append_inj' e rfl
  refine ⟨?_, ?_⟩
  · rcases kinds h.1 with h | h | h | h | h | h <;> subst h <;> rcases kinds h'.1 with h | h | h | h | h | h <;> subst h <;> first | rfl | exact absurd e1 (by decide)
  · rcases names h.2 with h | h | h | h | h | h | h | h <;> subst h <;> rcases names h'.2 with h | h | h | h | h | h | h | h <;> subst h <;> first | rfl | exact absurd e2 (by decide)
end Go.Proofs.Ytancnbbmlidokaa
