/-
  spec.CountVar: how often a variable stands free.
  impl.CountVar: how often a variable stands free.
  FreeVars: the model and the program.
-/
import Derived.Test.YtiefobkddckkbaaFo
import Derived.Test.YtiefobkddckkbaaRows
import Derived.WalkKit
import Derived.WalkSpells
import Derived.Lib.Hide
import Derived.Deep.CutRange
import Derived.Test.YtiefobkddckkbaaNodesI
import Derived.Test.YtiefobkddckkbaaVars
import Derived.Test.YtiefobkddckkbaaOwnM
import Derived.Test.YtiefobkddckkbaaDe
import Derived.Maps.AppendAt
namespace Go.Proofs.Ytiefobkddckkbaa
open Go.RowKit
set_option maxRecDepth 100000

def ownVar (x op n : Int) : Nat := if op = 2 ∧ n = x then 1 else 0
/-- The kids from the i-th on; of a let that binds x the second is passed over. -/
def cntL (x : Int) : Bool → Nat → Fo → Nat
  | _, _, .nil => 0
  | skip, i, .cons op n k r => (if skip = true ∧ i = 1 then 0 else ownVar x op n + cntL x (decide (op = 7 ∧ n = x)) 0 k) + cntL x skip (i + 1) r
def cntN (x op n : Int) (k : Fo) : Nat := ownVar x op n + cntL x (decide (op = 7 ∧ n = x)) 0 k
theorem ownVar_le (x op n : Int) : ownVar x op n ≤ 1 := by unfold ownVar; split <;> omega
theorem cntL_le (x : Int) : ∀ (s : Bool) (i : Nat) (f : Fo), cntL x s i f ≤ f.size
  | _, _, .nil => Nat.le_refl _
  | s, i, .cons op n k r => by
    have h1 := cntL_le x s (i + 1) r
    have h2 := cntL_le x (decide (op = 7 ∧ n = x)) 0 k
    have h3 := ownVar_le x op n
    simp only [cntL, Fo.size]
    split <;> omega
theorem cntN_le (x op n : Int) (k : Fo) : cntN x op n k ≤ 1 + k.size := by
  have h2 := cntL_le x (decide (op = 7 ∧ n = x)) 0 k
  have h3 := ownVar_le x op n
  unfold cntN
  omega
theorem cntL_cons {f : Fo} {x op n : Int} {s : Bool} {i : Nat} {k r : Fo} (e : f = .cons op n k r) : cntL x s i f = (if s = true ∧ i = 1 then 0 else cntN x op n k) + cntL x s (i + 1) r := by subst e; rfl

end Go.Proofs.Ytiefobkddckkbaa

namespace Go.Proofs.Ytiefobkddckkbaa
open Go.RowKit Go.Shelf
set_option maxRecDepth 100000

attribute [local go_sem] Oper.semAt_some

def hideX (x : Int) (p : Nd) (i : Nat) : Bool := binds p.op (i : Int) && decide (p.n = x)
def cntO (x : Int) : List Nd → Nat
  | [] => 0
  | p :: r => ownVar x p.op p.n + cntO x r
theorem cntO_append (x : Int) : ∀ (a b : List Nd), cntO x (a ++ b) = cntO x a + cntO x b
  | [], _ => by simp [cntO]
  | p :: r, b => by simp [cntO, cntO_append x r b]; omega
theorem cntO_le (x : Int) : ∀ (a : List Nd), cntO x a ≤ a.length
  | [] => Nat.le_refl _
  | p :: r => by have := cntO_le x r; have := ownVar_le x p.op p.n; simp [cntO]; omega
theorem cntO_ordF (x : Int) : ∀ (p : Nd) (i : Nat) (f : Fo), cntO x (ordF (hideX x) p i f) = cntL x (decide (p.op = 7 ∧ p.n = x)) i f
  | _, _, .nil => rfl
  | p, i, .cons op n k r => by
    have h1 := cntO_ordF x p (i + 1) r
    have h2 := cntO_ordF x ⟨op, n, k⟩ 0 k
    simp only at h2
    simp only [ordF, cntL, cntO_append, h1]
    by_cases h : p.op = 7 ∧ p.n = x
    · by_cases hi : i = 1
      · have e : hideX x p i = true := by simp [hideX, binds, h.1, h.2, hi]
        rw [if_pos e, if_pos ⟨by simpa using h, hi⟩]
        simp [cntO]
      · have e : ¬ hideX x p i = true := by
          simp [hideX, binds, h.1, h.2]
          omega
        rw [if_neg e, if_neg (fun hh => hi hh.2)]
        simp only [cntO, h2]
        omega
    · have e : ¬ hideX x p i = true := by
        simp [hideX, binds]
        intro h7 _ h8
        exact h ⟨h7, h8⟩
      rw [if_neg e, if_neg (fun hh => h (by simpa using hh.1))]
      simp only [cntO, h2]
      omega
theorem cntO_ordN (x op n : Int) (k : Fo) : cntO x (ordN (hideX x) ⟨op, n, k⟩) = cntN x op n k := by
  simp only [ordN, cntO, cntO_ordF, cntN]

end Go.Proofs.Ytiefobkddckkbaa

namespace Go.Proofs.Ytiefobkddckkbaa
open Go.RowKit
set_option maxRecDepth 100000

def freeUpto (op n : Int) (k : Fo) : Nat → List Int
  | 0 => []
  | j + 1 => freeUpto op n k j ++ (if cntN (j : Int) op n k = 0 then [] else [(j : Int)])
theorem freeUpto_len (op n : Int) (k : Fo) : ∀ j, (freeUpto op n k j).length ≤ j
  | 0 => Nat.le_refl _
  | j + 1 => by have := freeUpto_len op n k j; simp only [freeUpto, List.length_append]; split <;> simp <;> omega
theorem freeUpto_zero {op n : Int} {k : Fo} {j : Nat} (h : cntN (j : Int) op n k = 0) : freeUpto op n k (j + 1) = freeUpto op n k j := by simp [freeUpto, h]
theorem freeUpto_some {op n : Int} {k : Fo} {j : Nat} (h : cntN (j : Int) op n k ≠ 0) : freeUpto op n k (j + 1) = freeUpto op n k j ++ [(j : Int)] := by simp [freeUpto, h]
theorem freeUpto_small (op n : Int) (k : Fo) : ∀ j x, j ≤ 8 → x ∈ freeUpto op n k j → I64 x
  | 0, x, _, h => by simp [freeUpto] at h
  | j + 1, x, hj, h => by
    rcases List.mem_append.1 h with h | h
    · exact freeUpto_small op n k j x (by omega) h
    · split at h
      · simp at h
      · rw [List.mem_singleton.1 h]
        unfold I64
        omega

end Go.Proofs.Ytiefobkddckkbaa
