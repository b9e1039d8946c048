/-
  A tree with numbers in the place of the names that are bound, as data.
-/
import Derived.Test.YtkjgnfpedponlaaTree
import Derived.Test.YtkjgnfpedponlaaUniqD
import Derived.Test.YtkjgnfpedponlaaVars
namespace Go.Proofs.Ytkjgnfpedponlaa
open Go.RowKit
set_option maxRecDepth 100000

/-- The number of a node, where nu are the numbers of the variables and nx is the next number. -/
def renM (o m : Int) (nu : Nat → Int) (nx : Int) : Int := if o = 2 then nu m.toNat else if o = 7 then nx else m
def updN (nu : Nat → Int) (v : Nat) (x : Int) : Nat → Int := fun i => if i = v then x else nu i
def renF (op n : Int) : Nat → (Nat → Int) → Int → Fo → Fo
  | _, _, _, .nil => .nil
  | i, nu, nx, .cons o m k r =>
    if binds op (i : Int) = true then .cons o (renM o m (updN nu n.toNat nx) (nx + 1)) (renF o m 0 (updN nu n.toNat nx) (nx + 1) k) (renF op n (i + 1) (updN nu n.toNat nx) (nx + 1) r)
    else .cons o (renM o m nu nx) (renF o m 0 nu nx k) (renF op n (i + 1) nu nx r)
theorem renF_len (op n : Int) : ∀ (i : Nat) (nu : Nat → Int) (nx : Int) (k : Fo), (renF op n i nu nx k).len = k.len
  | _, _, _, .nil => rfl
  | i, nu, nx, .cons o m k r => by
    simp only [renF]
    split <;> simp only [Fo.len, renF_len op n (i + 1)]
theorem renF_size (op n : Int) : ∀ (i : Nat) (nu : Nat → Int) (nx : Int) (k : Fo), (renF op n i nu nx k).size = k.size
  | _, _, _, .nil => rfl
  | i, nu, nx, .cons o m k r => by
    simp only [renF]
    split <;> simp only [Fo.size, renF_size op n (i + 1) _ _ r, renF_size o m 0 _ _ k]
theorem renF_bind {f : Fo} {op n o m : Int} {i : Nat} {nu : Nat → Int} {nx : Int} {k r : Fo} (e : f = .cons o m k r) (h : binds op (i : Int) = true) :
    renF op n i nu nx f = .cons o (renM o m (updN nu n.toNat nx) (nx + 1)) (renF o m 0 (updN nu n.toNat nx) (nx + 1) k) (renF op n (i + 1) (updN nu n.toNat nx) (nx + 1) r) := by
  subst e; simp only [renF]; rw [if_pos h]
theorem renF_free {f : Fo} {op n o m : Int} {i : Nat} {nu : Nat → Int} {nx : Int} {k r : Fo} (e : f = .cons o m k r) (h : binds op (i : Int) = false) :
    renF op n i nu nx f = .cons o (renM o m nu nx) (renF o m 0 nu nx k) (renF op n (i + 1) nu nx r) := by
  subst e; simp only [renF]; rw [if_neg (by rw [h]; decide)]

/-- All names are names of variables, and a variable has no Kids. -/
def nameOk (op n : Int) (l : Nat) : Bool := (!(decide (op = 2) || decide (op = 7)) || inVar n) && (!decide (op = 2) || decide (l = 0))
theorem nameOk_var {n : Int} {op : Int} {l : Nat} (h : nameOk op n l = true) (h2 : op = 2 ∨ op = 7) : inVar n = true := by
  unfold nameOk at h
  simp only [Bool.and_eq_true] at h
  rcases h2 with rfl | rfl <;> simpa using h.1
theorem nameOk_nil {n : Int} {op : Int} {l : Nat} (h : nameOk op n l = true) (h2 : op = 2) : l = 0 := by
  unfold nameOk at h
  simp only [Bool.and_eq_true] at h
  subst h2
  simpa using h.2
def namesOkF : Fo → Bool
  | .nil => true
  | .cons op n k r => (nameOk op n k.len && namesOkF k) && namesOkF r
theorem namesOkF_cons {f : Fo} {op n : Int} {k r : Fo} (e : f = .cons op n k r) (h : namesOkF f = true) : (nameOk op n k.len = true ∧ namesOkF k = true) ∧ namesOkF r = true := by
  subst e; simpa [namesOkF] using h
theorem nameOk_own {op n : Int} {S : Nat → Bool} {l : Nat} (hk : kidsOk op l = true) (h : ownOk op n S = true) : nameOk op n l = true := by
  unfold nameOk
  by_cases h2 : op = 2
  · subst h2
    have h3 : inVar n = true := by
      have h' : (inVar n && S n.toNat) = true := by simpa [ownOk] using h
      simp only [Bool.and_eq_true] at h'
      exact h'.1
    have h4 : l = 0 := by simpa [kidsOk] using hk
    simp [h3, h4]
  · by_cases h7 : op = 7
    · subst h7
      have : inVar n = true := by simpa [ownOk] using h
      simp [this]
    · simp [h2, h7]
theorem names_shape : ∀ (f : Fo) (op n : Int) (i : Nat) (S : Nat → Bool) (d : Nat), shapeF op n i S d f = true → namesOkF f = true
  | .nil, _, _, _, _, _, _ => rfl
  | .cons o m k r, op, n, i, S, d, h => by
    simp only [shapeF, Bool.and_eq_true] at h
    obtain ⟨⟨⟨⟨_, h2⟩, h3⟩, h4⟩, h5⟩ := h
    have e1 := names_shape k o m 0 _ _ h4
    have e2 := names_shape r op n (i + 1) S d h5
    simp [namesOkF, e1, e2, nameOk_own h2 h3]
theorem names_is {op n : Int} {k : Fo} {S : Nat → Bool} (h : nodeIs op n k S = true) : nameOk op n k.len = true ∧ namesOkF k = true := by
  unfold nodeIs nodeShape at h
  simp only [Bool.and_eq_true] at h
  obtain ⟨⟨⟨⟨_, h2⟩, h3⟩, h4⟩, _⟩ := h
  exact ⟨nameOk_own h2 h3, names_shape k op n 0 S _ h4⟩

/-- Eight numbers as the cells of an array. -/
def cellsI (nu : Nat → Int) : Array Value := #[.int .i64 (nu 0), .int .i64 (nu 1), .int .i64 (nu 2), .int .i64 (nu 3), .int .i64 (nu 4), .int .i64 (nu 5), .int .i64 (nu 6), .int .i64 (nu 7)]
theorem cellsI_at (nu : Nat → Int) {i : Nat} (h : i < 8) : (cellsI nu)[i]? = some (.int .i64 (nu i)) := by
  match i, h with
  | 0, _ => rfl
  | 1, _ => rfl
  | 2, _ => rfl
  | 3, _ => rfl
  | 4, _ => rfl
  | 5, _ => rfl
  | 6, _ => rfl
  | 7, _ => rfl
theorem cellsI_set (nu : Nat → Int) {v : Nat} (h : v < 8) (x : Int) : (cellsI nu).setIfInBounds v (.int .i64 x) = cellsI (updN nu v x) := by
  match v, h with
  | 0, _ => simp [cellsI, updN]
  | 1, _ => simp [cellsI, updN]
  | 2, _ => simp [cellsI, updN]
  | 3, _ => simp [cellsI, updN]
  | 4, _ => simp [cellsI, updN]
  | 5, _ => simp [cellsI, updN]
  | 6, _ => simp [cellsI, updN]
  | 7, _ => simp [cellsI, updN]
theorem updN_small {nu : Nat → Int} {v : Nat} {x : Int} (h : ∀ i, I64 (nu i)) (hx : I64 x) : ∀ i, I64 (updN nu v x i) := fun i => by
  unfold updN
  split
  · exact hx
  · exact h i
end Go.Proofs.Ytkjgnfpedponlaa
