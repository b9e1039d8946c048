/-
  Eight flags, as a function and as cells; which functions a tree calls; the numbers that are set.
-/
import Derived.Test.YtbpcggbmlaomjaaNodes
namespace Go.Proofs.Ytbpcggbmlaomjaa
open Go.RowKit
set_option maxRecDepth 100000

def cells8 (S : Nat → Bool) : Array Value := #[.bool (S 0), .bool (S 1), .bool (S 2), .bool (S 3), .bool (S 4), .bool (S 5), .bool (S 6), .bool (S 7)]
theorem cells8_at (S : Nat → Bool) {i : Nat} (h : i < 8) : (cells8 S)[i]? = some (.bool (S i)) := by
  match i, h with
  | 0, _ => rfl
  | 1, _ => rfl
  | 2, _ => rfl
  | 3, _ => rfl
  | 4, _ => rfl
  | 5, _ => rfl
  | 6, _ => rfl
  | 7, _ => rfl
theorem cells8_set (S : Nat → Bool) {v : Nat} (h : v < 8) : (cells8 S).setIfInBounds v (.bool true) = cells8 (fun i => S i || decide (i = v)) := by
  match v, h with
  | 0, _ => simp [cells8]
  | 1, _ => simp [cells8]
  | 2, _ => simp [cells8]
  | 3, _ => simp [cells8]
  | 4, _ => simp [cells8]
  | 5, _ => simp [cells8]
  | 6, _ => simp [cells8]
  | 7, _ => simp [cells8]
theorem cells8_congr {S T : Nat → Bool} (h : ∀ i, i < 8 → S i = T i) : cells8 S = cells8 T := by
  simp only [cells8, h 0 (by decide), h 1 (by decide), h 2 (by decide), h 3 (by decide), h 4 (by decide), h 5 (by decide), h 6 (by decide), h 7 (by decide)]

/-- Is the node a call of function v? -/
def ownCall (op n : Int) (v : Nat) : Bool := decide (op = 3) && decide (n = (v : Int))
def callF : Fo → Nat → Bool
  | .nil, _ => false
  | .cons op n k r, v => (ownCall op n v || callF k v) || callF r v
def callB (p : Nd) (v : Nat) : Bool := ownCall p.op p.n v || callF p.k v
theorem callF_cons {f : Fo} {op n : Int} {k r : Fo} (e : f = .cons op n k r) (v : Nat) : callF f v = (callB ⟨op, n, k⟩ v || callF r v) := by subst e; rfl

theorem any_ordF (v : Nat) : ∀ (p : Nd) (i : Nat) (k : Fo), (ordF (fun _ _ => false) p i k).any (fun q => ownCall q.op q.n v) = callF k v
  | _, _, .nil => rfl
  | p, i, .cons op n k r => by
    have h1 := any_ordF v p (i + 1) r
    have h2 := any_ordF v ⟨op, n, k⟩ 0 k
    simp only [ordF, List.any_append, h1, callF]
    simp [h2, Bool.or_comm]
theorem any_ordN (v : Nat) (p : Nd) : (ordN (fun _ _ => false) p).any (fun q => ownCall q.op q.n v) = callB p v := by
  simp [ordN, callB, any_ordF]

/-- The numbers below j that are set. -/
def numsUpto (S : Nat → Bool) : Nat → List Int
  | 0 => []
  | j + 1 => numsUpto S j ++ (if S j = true then [(j : Int)] else [])
theorem numsUpto_len (S : Nat → Bool) : ∀ j, (numsUpto S j).length ≤ j
  | 0 => Nat.le_refl _
  | j + 1 => by have := numsUpto_len S j; simp only [numsUpto, List.length_append]; split <;> simp <;> omega
theorem numsUpto_no {S : Nat → Bool} {j : Nat} (h : S j = false) : numsUpto S (j + 1) = numsUpto S j := by simp [numsUpto, h]
theorem numsUpto_yes {S : Nat → Bool} {j : Nat} (h : S j = true) : numsUpto S (j + 1) = numsUpto S j ++ [(j : Int)] := by simp [numsUpto, h]
theorem numsUpto_small (S : Nat → Bool) : ∀ j x, j ≤ 8 → x ∈ numsUpto S j → I64 x
  | 0, x, _, h => by simp [numsUpto] at h
  | j + 1, x, hj, h => by
    rcases List.mem_append.1 h with h | h
    · exact numsUpto_small S j x (by omega) h
    · split at h
      · rw [List.mem_singleton.1 h]
        unfold I64
        omega
      · simp at h
theorem numsUpto_congr {S T : Nat → Bool} : ∀ j, (∀ i, i < j → S i = T i) → numsUpto S j = numsUpto T j
  | 0, _ => rfl
  | j + 1, h => by simp only [numsUpto, numsUpto_congr j (fun i hi => h i (by omega)), h j (by omega)]
end Go.Proofs.Ytbpcggbmlaomjaa
