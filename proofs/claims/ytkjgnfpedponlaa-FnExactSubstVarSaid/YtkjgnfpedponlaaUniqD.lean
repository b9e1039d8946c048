/-
  How often a tree binds each variable; that no variable is bound twice, or bound and free; as data.
-/
import Derived.Test.YtkjgnfpedponlaaMarkD
import Derived.Test.YtkjgnfpedponlaaShape
import Derived.Test.YtkjgnfpedponlaaScope
import Derived.Test.YtkjgnfpedponlaaCntVar
import Derived.Test.YtkjgnfpedponlaaIsV
namespace Go.Proofs.Ytkjgnfpedponlaa
open Go.RowKit
set_option maxRecDepth 100000

def ownLet1 (v : Nat) (op n : Int) : Nat := if op = 7 ∧ n = (v : Int) then 1 else 0
theorem ownLet1_le (v : Nat) (op n : Int) : ownLet1 v op n ≤ 1 := by unfold ownLet1; split <;> omega
def letsF (v : Nat) : Fo → Nat
  | .nil => 0
  | .cons op n k r => (ownLet1 v op n + letsF v k) + letsF v r
def letsN (v : Nat) (op n : Int) (k : Fo) : Nat := ownLet1 v op n + letsF v k
theorem letsF_cons {v : Nat} {f : Fo} {op n : Int} {k r : Fo} (e : f = .cons op n k r) : letsF v f = letsN v op n k + letsF v r := by subst e; rfl
theorem letsF_le (v : Nat) : ∀ f : Fo, letsF v f ≤ f.size
  | .nil => Nat.le_refl _
  | .cons op n k r => by
    have h1 := letsF_le v k
    have h2 := letsF_le v r
    have h3 := ownLet1_le v op n
    simp only [letsF, Fo.size]
    omega
theorem letsN_le (v : Nat) (op n : Int) (k : Fo) : letsN v op n k ≤ k.size + 1 := by
  have h1 := letsF_le v k
  have h3 := ownLet1_le v op n
  unfold letsN
  omega
def letsL (v : Nat) : List Nd → Nat
  | [] => 0
  | x :: r => ownLet1 v x.op x.n + letsL v r
theorem letsL_append (v : Nat) : ∀ a b : List Nd, letsL v (a ++ b) = letsL v a + letsL v b
  | [], _ => by simp [letsL]
  | x :: r, b => by simp [letsL, letsL_append v r b]; omega
theorem letsL_ordF (v : Nat) : ∀ (p : Nd) (i : Nat) (f : Fo), letsL v (ordF (fun _ _ => false) p i f) = letsF v f
  | _, _, .nil => rfl
  | p, i, .cons op n k r => by
    have h1 := letsL_ordF v p (i + 1) r
    have h2 := letsL_ordF v ⟨op, n, k⟩ 0 k
    simp only [ordF, letsL_append, h1, letsF]
    simp [letsL, h2]
    omega
theorem letsL_ordN (v : Nat) (op n : Int) (k : Fo) : letsL v (ordN (fun _ _ => false) ⟨op, n, k⟩) = letsN v op n k := by
  simp only [ordN, letsL, letsL_ordF, letsN]
theorem seen_lets (l : List Nd) (v : Nat) : seenQ ownLet l v = decide (letsL v l ≠ 0) := by
  induction l with
  | nil => rfl
  | cons x r ih =>
    have h : seenQ ownLet (x :: r) v = (ownLet x.op x.n v || seenQ ownLet r v) := rfl
    rw [h, ih, Bool.eq_iff_iff]
    simp only [letsL, ownLet, ownLet1, Bool.or_eq_true, Bool.and_eq_true, decide_eq_true_iff]
    by_cases hx : x.op = 7 ∧ x.n = (v : Int)
    · simp [hx]
    · simp [hx]

/-- No variable below j is bound twice, or bound and free: C counts the free ones, D the bindings. -/
def uniUpto (C D : Nat → Nat) : Nat → Bool
  | 0 => true
  | j + 1 => uniUpto C D j && decide (D j ≤ 1 ∧ (D j = 0 ∨ C j = 0))
theorem uniUpto_iff {C D : Nat → Nat} : ∀ {j : Nat}, uniUpto C D j = true ↔ ∀ v, v < j → D v ≤ 1 ∧ (D v = 0 ∨ C v = 0)
  | 0 => ⟨fun _ v h => absurd h (Nat.not_lt_zero v), fun _ => rfl⟩
  | j + 1 => by
    simp only [uniUpto, Bool.and_eq_true, decide_eq_true_iff, uniUpto_iff (j := j)]
    constructor
    · rintro ⟨h1, h2⟩ v hv
      by_cases e : v = j
      · subst e; exact h2
      · exact h1 v (by omega)
    · exact fun h => ⟨fun v hv => h v (by omega), h j (by omega)⟩
theorem uniUpto_bad {C D : Nat → Nat} {j v : Nat} (hv : v < j) (h : ¬ (D v ≤ 1 ∧ (D v = 0 ∨ C v = 0))) : uniUpto C D j = false := by
  rw [Bool.eq_false_iff]
  exact fun ht => h (uniUpto_iff.1 ht v hv)

/-- All variables that are bound are variables. -/
def bindOk (op n : Int) : Bool := !decide (op = 7) || inVar n
def bindsOkF : Fo → Bool
  | .nil => true
  | .cons op n k r => (bindOk op n && bindsOkF k) && bindsOkF r
def bindsOkN (op n : Int) (k : Fo) : Bool := bindOk op n && bindsOkF k
theorem bindsOkF_cons {f : Fo} {op n : Int} {k r : Fo} (e : f = .cons op n k r) (h : bindsOkF f = true) : bindsOkN op n k = true ∧ bindsOkF r = true := by
  subst e; simpa [bindsOkF, bindsOkN] using h
theorem bindOk_own {op n : Int} {S : Nat → Bool} (h : ownOk op n S = true) : bindOk op n = true := by
  unfold bindOk
  by_cases h7 : op = 7
  · subst h7
    have : inVar n = true := by simpa [ownOk] using h
    simp [this]
  · simp [h7]
theorem binds_shape : ∀ (f : Fo) (op n : Int) (i : Nat) (S : Nat → Bool) (d : Nat), shapeF op n i S d f = true → bindsOkF f = true
  | .nil, _, _, _, _, _, _ => rfl
  | .cons o m k r, op, n, i, S, d, h => by
    simp only [shapeF, Bool.and_eq_true] at h
    obtain ⟨⟨⟨⟨_, _⟩, h3⟩, h4⟩, h5⟩ := h
    have e1 := binds_shape k o m 0 _ _ h4
    have e2 := binds_shape r op n (i + 1) S d h5
    simp [bindsOkF, e1, e2, bindOk_own h3]
theorem binds_is {op n : Int} {k : Fo} {S : Nat → Bool} (h : nodeIs op n k S = true) : bindsOkN op n k = true := by
  unfold nodeIs nodeShape at h
  simp only [Bool.and_eq_true] at h
  obtain ⟨⟨⟨⟨_, _⟩, h3⟩, h4⟩, _⟩ := h
  simp [bindsOkN, bindOk_own h3, binds_shape k op n 0 S _ h4]
theorem small_is {op n : Int} {k : Fo} {S : Nat → Bool} (h : nodeIs op n k S = true) : k.size + 1 ≤ 80 := by
  unfold nodeIs at h
  simp only [Bool.and_eq_true, decide_eq_true_iff] at h
  exact h.2
theorem binds_ordF {x : Nd} : ∀ {p : Nd} {i : Nat} {f : Fo}, bindsOkF f = true → x ∈ ordF (fun _ _ => false) p i f → bindOk x.op x.n = true
  | _, _, .nil, _, h => by simp [ordF] at h
  | p, i, .cons op n k r, hk, h => by
    obtain ⟨h1, h2⟩ := bindsOkF_cons rfl hk
    simp only [bindsOkN, Bool.and_eq_true] at h1
    simp only [ordF, List.mem_append] at h
    rcases h with h | h
    · exact binds_ordF h2 h
    · rw [if_neg (by simp)] at h
      rcases List.mem_cons.1 h with rfl | h
      · exact h1.1
      · exact binds_ordF h1.2 h
theorem binds_ordN {x : Nd} {op n : Int} {k : Fo} (hk : bindsOkN op n k = true) (h : x ∈ ordN (fun _ _ => false) ⟨op, n, k⟩) : bindOk x.op x.n = true := by
  simp only [bindsOkN, Bool.and_eq_true] at hk
  rcases List.mem_cons.1 h with rfl | h
  · exact hk.1
  · exact binds_ordF hk.2 h

/-- UniqueNames as data. -/
def uniB (op n : Int) (k : Fo) : Bool := nodeIs op n k (firstS 8) && uniUpto (fun v => cntN (v : Int) op n k) (fun v => letsN v op n k) 8

/-- Eight numbers as cells. -/
def cellsN (D : Nat → Nat) : Array Value := #[.int .i64 ((D 0 : Nat) : Int), .int .i64 ((D 1 : Nat) : Int), .int .i64 ((D 2 : Nat) : Int), .int .i64 ((D 3 : Nat) : Int), .int .i64 ((D 4 : Nat) : Int), .int .i64 ((D 5 : Nat) : Int), .int .i64 ((D 6 : Nat) : Int), .int .i64 ((D 7 : Nat) : Int)]
theorem cellsN_at (D : Nat → Nat) {i : Nat} (h : i < 8) : (cellsN D)[i]? = some (.int .i64 ((D i : Nat) : Int)) := by
  match i, h with
  | 0, _ => rfl
  | 1, _ => rfl
  | 2, _ => rfl
  | 3, _ => rfl
  | 4, _ => rfl
  | 5, _ => rfl
  | 6, _ => rfl
  | 7, _ => rfl
def plus1 (D : Nat → Nat) (v : Nat) : Nat → Nat := fun i => D i + ownLet1 i 7 (v : Int)
theorem cellsN_set (D : Nat → Nat) {v : Nat} (h : v < 8) : (cellsN D).setIfInBounds v (.int .i64 ((D v : Int) + 1)) = cellsN (plus1 D v) := by
  match v, h with
  | 0, _ => simp [cellsN, plus1, ownLet1]
  | 1, _ => simp [cellsN, plus1, ownLet1]
  | 2, _ => simp [cellsN, plus1, ownLet1]
  | 3, _ => simp [cellsN, plus1, ownLet1]
  | 4, _ => simp [cellsN, plus1, ownLet1]
  | 5, _ => simp [cellsN, plus1, ownLet1]
  | 6, _ => simp [cellsN, plus1, ownLet1]
  | 7, _ => simp [cellsN, plus1, ownLet1]
theorem cellsN_congr {S T : Nat → Nat} (h : ∀ i, i < 8 → S i = T i) : cellsN S = cellsN T := by
  simp only [cellsN, h 0 (by decide), h 1 (by decide), h 2 (by decide), h 3 (by decide), h 4 (by decide), h 5 (by decide), h 6 (by decide), h 7 (by decide)]
end Go.Proofs.Ytkjgnfpedponlaa
