/-
  How often a tree binds each variable; that no variable is bound twice, or bound and free; as data.
  A tree with numbers in the place of the names that are bound, as data.
  Trees that are equal but for bound names, as data: by places in lists of names, and by numbers.
  Replacing a variable by an expression, as plain data.
-/
import Derived.Test.YtiefobkddckkbaaFo
import Derived.Test.YtiefobkddckkbaaShape
import Derived.Test.YtiefobkddckkbaaCntVar
import Derived.Test.YtiefobkddckkbaaTree
import Derived.Test.YtiefobkddckkbaaVars
import Derived.Test.YtiefobkddckkbaaSameD
import Derived.Test.YtiefobkddckkbaaFresh
namespace Go.Proofs.Ytiefobkddckkbaa
open Go.RowKit
set_option maxRecDepth 100000

def ownLet1 (v : Nat) (op n : Int) : Nat := if op = 7 ∧ n = (v : Int) then 1 else 0
theorem ownLet1_le (v : Nat) (op n : Int) : ownLet1 v op n ≤ 1 := by unfold ownLet1; split <;> omega
def letsF (v : Nat) : Fo → Nat
  | .nil => 0
  | .cons op n k r => (ownLet1 v op n + letsF v k) + letsF v r
def letsN (v : Nat) (op n : Int) (k : Fo) : Nat := ownLet1 v op n + letsF v k
theorem letsF_cons {v : Nat} {f : Fo} {op n : Int} {k r : Fo} (e : f = .cons op n k r) : letsF v f = letsN v op n k + letsF v r := by subst e; rfl
theorem letsF_le (v : Nat) : ∀ f : Fo, letsF v f ≤ f.size
  | .nil => Nat.le_refl _
  | .cons op n k r => by
    have h1 := letsF_le v k
    have h2 := letsF_le v r
    have h3 := ownLet1_le v op n
    simp only [letsF, Fo.size]
    omega
theorem letsN_le (v : Nat) (op n : Int) (k : Fo) : letsN v op n k ≤ k.size + 1 := by
  have h1 := letsF_le v k
  have h3 := ownLet1_le v op n
  unfold letsN
  omega
def letsL (v : Nat) : List Nd → Nat
  | [] => 0
  | x :: r => ownLet1 v x.op x.n + letsL v r
theorem letsL_append (v : Nat) : ∀ a b : List Nd, letsL v (a ++ b) = letsL v a + letsL v b
  | [], _ => by simp [letsL]
  | x :: r, b => by simp [letsL, letsL_append v r b]; omega
theorem letsL_ordF (v : Nat) : ∀ (p : Nd) (i : Nat) (f : Fo), letsL v (ordF (fun _ _ => false) p i f) = letsF v f
  | _, _, .nil => rfl
  | p, i, .cons op n k r => by
    have h1 := letsL_ordF v p (i + 1) r
    have h2 := letsL_ordF v ⟨op, n, k⟩ 0 k
    simp only [ordF, letsL_append, h1, letsF]
    simp [letsL, h2]
    omega
theorem letsL_ordN (v : Nat) (op n : Int) (k : Fo) : letsL v (ordN (fun _ _ => false) ⟨op, n, k⟩) = letsN v op n k := by
  simp only [ordN, letsL, letsL_ordF, letsN]
theorem seen_lets (l : List Nd) (v : Nat) : seenQ ownLet l v = decide (letsL v l ≠ 0) := by
  induction l with
  | nil => rfl
  | cons x r ih =>
    have h : seenQ ownLet (x :: r) v = (ownLet x.op x.n v || seenQ ownLet r v) := rfl
    rw [h, ih, Bool.eq_iff_iff]
    simp only [letsL, ownLet, ownLet1, Bool.or_eq_true, Bool.and_eq_true, decide_eq_true_iff]
    by_cases hx : x.op = 7 ∧ x.n = (v : Int)
    · simp [hx]
    · simp [hx]

/-- No variable below j is bound twice, or bound and free: C counts the free ones, D the bindings. -/
def uniUpto (C D : Nat → Nat) : Nat → Bool
  | 0 => true
  | j + 1 => uniUpto C D j && decide (D j ≤ 1 ∧ (D j = 0 ∨ C j = 0))
theorem uniUpto_iff {C D : Nat → Nat} : ∀ {j : Nat}, uniUpto C D j = true ↔ ∀ v, v < j → D v ≤ 1 ∧ (D v = 0 ∨ C v = 0)
  | 0 => ⟨fun _ v h => absurd h (Nat.not_lt_zero v), fun _ => rfl⟩
  | j + 1 => by
    simp only [uniUpto, Bool.and_eq_true, decide_eq_true_iff, uniUpto_iff (j := j)]
    constructor
    · rintro ⟨h1, h2⟩ v hv
      by_cases e : v = j
      · subst e; exact h2
      · exact h1 v (by omega)
    · exact fun h => ⟨fun v hv => h v (by omega), h j (by omega)⟩
theorem uniUpto_bad {C D : Nat → Nat} {j v : Nat} (hv : v < j) (h : ¬ (D v ≤ 1 ∧ (D v = 0 ∨ C v = 0))) : uniUpto C D j = false := by
  rw [Bool.eq_false_iff]
  exact fun ht => h (uniUpto_iff.1 ht v hv)

/-- All variables that are bound are variables. -/
def bindOk (op n : Int) : Bool := !decide (op = 7) || inVar n
def bindsOkF : Fo → Bool
  | .nil => true
  | .cons op n k r => (bindOk op n && bindsOkF k) && bindsOkF r
def bindsOkN (op n : Int) (k : Fo) : Bool := bindOk op n && bindsOkF k
theorem bindsOkF_cons {f : Fo} {op n : Int} {k r : Fo} (e : f = .cons op n k r) (h : bindsOkF f = true) : bindsOkN op n k = true ∧ bindsOkF r = true := by
  subst e; simpa [bindsOkF, bindsOkN] using h
theorem bindOk_own {op n : Int} {S : Nat → Bool} (h : ownOk op n S = true) : bindOk op n = true := by
  unfold bindOk
  by_cases h7 : op = 7
  · subst h7
    have : inVar n = true := by simpa [ownOk] using h
    simp [this]
  · simp [h7]
theorem binds_shape : ∀ (f : Fo) (op n : Int) (i : Nat) (S : Nat → Bool) (d : Nat), shapeF op n i S d f = true → bindsOkF f = true
  | .nil, _, _, _, _, _, _ => rfl
  | .cons o m k r, op, n, i, S, d, h => by
    simp only [shapeF, Bool.and_eq_true] at h
    obtain ⟨⟨⟨⟨_, _⟩, h3⟩, h4⟩, h5⟩ := h
    have e1 := binds_shape k o m 0 _ _ h4
    have e2 := binds_shape r op n (i + 1) S d h5
    simp [bindsOkF, e1, e2, bindOk_own h3]
theorem binds_is {op n : Int} {k : Fo} {S : Nat → Bool} (h : nodeIs op n k S = true) : bindsOkN op n k = true := by
  unfold nodeIs nodeShape at h
  simp only [Bool.and_eq_true] at h
  obtain ⟨⟨⟨⟨_, _⟩, h3⟩, h4⟩, _⟩ := h
  simp [bindsOkN, bindOk_own h3, binds_shape k op n 0 S _ h4]
theorem small_is {op n : Int} {k : Fo} {S : Nat → Bool} (h : nodeIs op n k S = true) : k.size + 1 ≤ 80 := by
  unfold nodeIs at h
  simp only [Bool.and_eq_true, decide_eq_true_iff] at h
  exact h.2
theorem binds_ordF {x : Nd} : ∀ {p : Nd} {i : Nat} {f : Fo}, bindsOkF f = true → x ∈ ordF (fun _ _ => false) p i f → bindOk x.op x.n = true
  | _, _, .nil, _, h => by simp [ordF] at h
  | p, i, .cons op n k r, hk, h => by
    obtain ⟨h1, h2⟩ := bindsOkF_cons rfl hk
    simp only [bindsOkN, Bool.and_eq_true] at h1
    simp only [ordF, List.mem_append] at h
    rcases h with h | h
    · exact binds_ordF h2 h
    · rw [if_neg (by simp)] at h
      rcases List.mem_cons.1 h with rfl | h
      · exact h1.1
      · exact binds_ordF h1.2 h
theorem binds_ordN {x : Nd} {op n : Int} {k : Fo} (hk : bindsOkN op n k = true) (h : x ∈ ordN (fun _ _ => false) ⟨op, n, k⟩) : bindOk x.op x.n = true := by
  simp only [bindsOkN, Bool.and_eq_true] at hk
  rcases List.mem_cons.1 h with rfl | h
  · exact hk.1
  · exact binds_ordF hk.2 h

/-- UniqueNames as data. -/
def uniB (op n : Int) (k : Fo) : Bool := nodeIs op n k (firstS 8) && uniUpto (fun v => cntN (v : Int) op n k) (fun v => letsN v op n k) 8

/-- Eight numbers as cells. -/
def cellsN (D : Nat → Nat) : Array Value := #[.int .i64 ((D 0 : Nat) : Int), .int .i64 ((D 1 : Nat) : Int), .int .i64 ((D 2 : Nat) : Int), .int .i64 ((D 3 : Nat) : Int), .int .i64 ((D 4 : Nat) : Int), .int .i64 ((D 5 : Nat) : Int), .int .i64 ((D 6 : Nat) : Int), .int .i64 ((D 7 : Nat) : Int)]
theorem cellsN_at (D : Nat → Nat) {i : Nat} (h : i < 8) : (cellsN D)[i]? = some (.int .i64 ((D i : Nat) : Int)) := by
  match i, h with
  | 0, _ => rfl
  | 1, _ => rfl
  | 2, _ => rfl
  | 3, _ => rfl
  | 4, _ => rfl
  | 5, _ => rfl
  | 6, _ => rfl
  | 7, _ => rfl
def plus1 (D : Nat → Nat) (v : Nat) : Nat → Nat := fun i => D i + ownLet1 i 7 (v : Int)
theorem cellsN_set (D : Nat → Nat) {v : Nat} (h : v < 8) : (cellsN D).setIfInBounds v (.int .i64 ((D v : Int) + 1)) = cellsN (plus1 D v) := by
  match v, h with
  | 0, _ => simp [cellsN, plus1, ownLet1]
  | 1, _ => simp [cellsN, plus1, ownLet1]
  | 2, _ => simp [cellsN, plus1, ownLet1]
  | 3, _ => simp [cellsN, plus1, ownLet1]
  | 4, _ => simp [cellsN, plus1, ownLet1]
  | 5, _ => simp [cellsN, plus1, ownLet1]
  | 6, _ => simp [cellsN, plus1, ownLet1]
  | 7, _ => simp [cellsN, plus1, ownLet1]
theorem cellsN_congr {S T : Nat → Nat} (h : ∀ i, i < 8 → S i = T i) : cellsN S = cellsN T := by
  simp only [cellsN, h 0 (by decide), h 1 (by decide), h 2 (by decide), h 3 (by decide), h 4 (by decide), h 5 (by decide), h 6 (by decide), h 7 (by decide)]
end Go.Proofs.Ytiefobkddckkbaa

namespace Go.Proofs.Ytiefobkddckkbaa
open Go.RowKit
set_option maxRecDepth 100000

/-- The number of a node, where nu are the numbers of the variables and nx is the next number. -/
def renM (o m : Int) (nu : Nat → Int) (nx : Int) : Int := if o = 2 then nu m.toNat else if o = 7 then nx else m
def updN (nu : Nat → Int) (v : Nat) (x : Int) : Nat → Int := fun i => if i = v then x else nu i
def renF (op n : Int) : Nat → (Nat → Int) → Int → Fo → Fo
  | _, _, _, .nil => .nil
  | i, nu, nx, .cons o m k r =>
    if binds op (i : Int) = true then .cons o (renM o m (updN nu n.toNat nx) (nx + 1)) (renF o m 0 (updN nu n.toNat nx) (nx + 1) k) (renF op n (i + 1) (updN nu n.toNat nx) (nx + 1) r)
    else .cons o (renM o m nu nx) (renF o m 0 nu nx k) (renF op n (i + 1) nu nx r)
theorem renF_len (op n : Int) : ∀ (i : Nat) (nu : Nat → Int) (nx : Int) (k : Fo), (renF op n i nu nx k).len = k.len
  | _, _, _, .nil => rfl
  | i, nu, nx, .cons o m k r => by
    simp only [renF]
    split <;> simp only [Fo.len, renF_len op n (i + 1)]
theorem renF_size (op n : Int) : ∀ (i : Nat) (nu : Nat → Int) (nx : Int) (k : Fo), (renF op n i nu nx k).size = k.size
  | _, _, _, .nil => rfl
  | i, nu, nx, .cons o m k r => by
    simp only [renF]
    split <;> simp only [Fo.size, renF_size op n (i + 1) _ _ r, renF_size o m 0 _ _ k]
theorem renF_bind {f : Fo} {op n o m : Int} {i : Nat} {nu : Nat → Int} {nx : Int} {k r : Fo} (e : f = .cons o m k r) (h : binds op (i : Int) = true) :
    renF op n i nu nx f = .cons o (renM o m (updN nu n.toNat nx) (nx + 1)) (renF o m 0 (updN nu n.toNat nx) (nx + 1) k) (renF op n (i + 1) (updN nu n.toNat nx) (nx + 1) r) := by
  subst e; simp only [renF]; rw [if_pos h]
theorem renF_free {f : Fo} {op n o m : Int} {i : Nat} {nu : Nat → Int} {nx : Int} {k r : Fo} (e : f = .cons o m k r) (h : binds op (i : Int) = false) :
    renF op n i nu nx f = .cons o (renM o m nu nx) (renF o m 0 nu nx k) (renF op n (i + 1) nu nx r) := by
  subst e; simp only [renF]; rw [if_neg (by rw [h]; decide)]

/-- All names are names of variables, and a variable has no Kids. -/
def nameOk (op n : Int) (l : Nat) : Bool := (!(decide (op = 2) || decide (op = 7)) || inVar n) && (!decide (op = 2) || decide (l = 0))
theorem nameOk_var {n : Int} {op : Int} {l : Nat} (h : nameOk op n l = true) (h2 : op = 2 ∨ op = 7) : inVar n = true := by
  unfold nameOk at h
  simp only [Bool.and_eq_true] at h
  rcases h2 with rfl | rfl <;> simpa using h.1
theorem nameOk_nil {n : Int} {op : Int} {l : Nat} (h : nameOk op n l = true) (h2 : op = 2) : l = 0 := by
  unfold nameOk at h
  simp only [Bool.and_eq_true] at h
  subst h2
  simpa using h.2
def namesOkF : Fo → Bool
  | .nil => true
  | .cons op n k r => (nameOk op n k.len && namesOkF k) && namesOkF r
theorem namesOkF_cons {f : Fo} {op n : Int} {k r : Fo} (e : f = .cons op n k r) (h : namesOkF f = true) : (nameOk op n k.len = true ∧ namesOkF k = true) ∧ namesOkF r = true := by
  subst e; simpa [namesOkF] using h
theorem nameOk_own {op n : Int} {S : Nat → Bool} {l : Nat} (hk : kidsOk op l = true) (h : ownOk op n S = true) : nameOk op n l = true := by
  unfold nameOk
  by_cases h2 : op = 2
  · subst h2
    have h3 : inVar n = true := by
      have h' : (inVar n && S n.toNat) = true := by simpa [ownOk] using h
      simp only [Bool.and_eq_true] at h'
      exact h'.1
    have h4 : l = 0 := by simpa [kidsOk] using hk
    simp [h3, h4]
  · by_cases h7 : op = 7
    · subst h7
      have : inVar n = true := by simpa [ownOk] using h
      simp [this]
    · simp [h2, h7]
theorem names_shape : ∀ (f : Fo) (op n : Int) (i : Nat) (S : Nat → Bool) (d : Nat), shapeF op n i S d f = true → namesOkF f = true
  | .nil, _, _, _, _, _, _ => rfl
  | .cons o m k r, op, n, i, S, d, h => by
    simp only [shapeF, Bool.and_eq_true] at h
    obtain ⟨⟨⟨⟨_, h2⟩, h3⟩, h4⟩, h5⟩ := h
    have e1 := names_shape k o m 0 _ _ h4
    have e2 := names_shape r op n (i + 1) S d h5
    simp [namesOkF, e1, e2, nameOk_own h2 h3]
theorem names_is {op n : Int} {k : Fo} {S : Nat → Bool} (h : nodeIs op n k S = true) : nameOk op n k.len = true ∧ namesOkF k = true := by
  unfold nodeIs nodeShape at h
  simp only [Bool.and_eq_true] at h
  obtain ⟨⟨⟨⟨_, h2⟩, h3⟩, h4⟩, _⟩ := h
  exact ⟨nameOk_own h2 h3, names_shape k op n 0 S _ h4⟩

/-- Eight numbers as the cells of an array. -/
def cellsI (nu : Nat → Int) : Array Value := #[.int .i64 (nu 0), .int .i64 (nu 1), .int .i64 (nu 2), .int .i64 (nu 3), .int .i64 (nu 4), .int .i64 (nu 5), .int .i64 (nu 6), .int .i64 (nu 7)]
theorem cellsI_at (nu : Nat → Int) {i : Nat} (h : i < 8) : (cellsI nu)[i]? = some (.int .i64 (nu i)) := by
  match i, h with
  | 0, _ => rfl
  | 1, _ => rfl
  | 2, _ => rfl
  | 3, _ => rfl
  | 4, _ => rfl
  | 5, _ => rfl
  | 6, _ => rfl
  | 7, _ => rfl
theorem cellsI_set (nu : Nat → Int) {v : Nat} (h : v < 8) (x : Int) : (cellsI nu).setIfInBounds v (.int .i64 x) = cellsI (updN nu v x) := by
  match v, h with
  | 0, _ => simp [cellsI, updN]
  | 1, _ => simp [cellsI, updN]
  | 2, _ => simp [cellsI, updN]
  | 3, _ => simp [cellsI, updN]
  | 4, _ => simp [cellsI, updN]
  | 5, _ => simp [cellsI, updN]
  | 6, _ => simp [cellsI, updN]
  | 7, _ => simp [cellsI, updN]
theorem updN_small {nu : Nat → Int} {v : Nat} {x : Int} (h : ∀ i, I64 (nu i)) (hx : I64 x) : ∀ i, I64 (updN nu v x i) := fun i => by
  unfold updN
  split
  · exact hx
  · exact h i
end Go.Proofs.Ytiefobkddckkbaa

namespace Go.Proofs.Ytiefobkddckkbaa
open Go.RowKit
set_option maxRecDepth 100000

/-- The place of a name in a list that has the last one first, or -1. -/
def depR : List Int → Int → Int
  | [], _ => -1
  | x :: L, v => if x = v then 0 else if depR L v < 0 then -1 else depR L v + 1
theorem depR_ge : ∀ (L : List Int) (v : Int), -1 ≤ depR L v
  | [], _ => by simp [depR]
  | x :: L, v => by
    have := depR_ge L v
    unfold depR
    split
    · omega
    · split <;> omega
theorem depR_lt : ∀ (L : List Int) (v : Int), depR L v < L.length
  | [], _ => by simp [depR]
  | x :: L, v => by
    have := depR_lt L v
    rw [List.length_cons]
    unfold depR
    split
    · omega
    · split <;> omega
theorem depR_none : ∀ {L : List Int} {v : Int}, ¬ v ∈ L → depR L v = -1
  | [], _, _ => rfl
  | x :: L, v, h => by
    have h1 : ¬ x = v := fun e => h (by simp [e])
    have h2 := depR_none (L := L) (v := v) (fun e => h (by simp [e]))
    unfold depR
    rw [if_neg h1, h2]
    rfl
theorem depR_app : ∀ {P : List Int} {v : Int} (Q : List Int), ¬ v ∈ P → depR (P ++ v :: Q) v = P.length
  | [], v, Q, _ => by simp [depR]
  | x :: P, v, Q, h => by
    have h1 : ¬ x = v := fun e => h (by simp [e])
    have h2 := depR_app (P := P) (v := v) Q (fun e => h (by simp [e]))
    show depR (x :: (P ++ v :: Q)) v = _
    unfold depR
    rw [if_neg h1, h2, if_neg (by omega), List.length_cons]
    omega

/-- The number of a variable where the names L are bound, the last one first. -/
def numR : List Int → Nat → Int
  | [], v => v
  | x :: L, v => if x = (v : Int) then 8 + (L.length : Int) else numR L v
theorem numR_lt : ∀ (L : List Int) (v : Nat), v < 8 → numR L v < 8 + (L.length : Int)
  | [], v, h => by simp [numR]; omega
  | x :: L, v, h => by
    have := numR_lt L v h
    rw [List.length_cons]
    unfold numR
    split <;> omega
theorem num_dep : ∀ (L R : List Int) (m m2 : Nat), L.length = R.length → m < 8 → m2 < 8 → (numR L m = numR R m2 ↔ depR L (m : Int) = depR R (m2 : Int) ∧ (0 ≤ depR L (m : Int) ∨ (m : Int) = (m2 : Int)))
  | [], [], m, m2, _, _, _ => by simp [numR, depR]
  | [], _ :: _, _, _, h, _, _ => by simp at h
  | _ :: _, [], _, _, h, _, _ => by simp at h
  | x :: L, y :: R, m, m2, h, h1, h2 => by
    have hl : L.length = R.length := by simpa using h
    have ih := num_dep L R m m2 hl h1 h2
    have a1 := numR_lt L m h1
    have a2 := numR_lt R m2 h2
    have b1 := depR_ge L (m : Int)
    have b2 := depR_ge R (m2 : Int)
    unfold numR depR
    by_cases hx : x = (m : Int)
    · by_cases hy : y = (m2 : Int)
      · simp [hx, hy, hl]
      · rw [if_pos hx, if_neg hy, if_pos hx, if_neg hy]
        constructor
        · intro e; omega
        · rintro ⟨e, _⟩
          split at e <;> omega
    · by_cases hy : y = (m2 : Int)
      · rw [if_neg hx, if_pos hy, if_neg hx, if_pos hy]
        constructor
        · intro e; omega
        · rintro ⟨e, _⟩
          split at e <;> omega
      · rw [if_neg hx, if_neg hy, if_neg hx, if_neg hy, ih]
        by_cases c1 : depR L (m : Int) < 0
        · by_cases c2 : depR R (m2 : Int) < 0
          · rw [if_pos c1, if_pos c2]
            constructor
            · rintro ⟨e, f⟩
              exact ⟨rfl, by omega⟩
            · rintro ⟨e, f⟩
              exact ⟨by omega, by omega⟩
          · rw [if_pos c1, if_neg c2]
            constructor
            · rintro ⟨e, f⟩; omega
            · rintro ⟨e, f⟩; omega
        · by_cases c2 : depR R (m2 : Int) < 0
          · rw [if_neg c1, if_pos c2]
            constructor
            · rintro ⟨e, f⟩; omega
            · rintro ⟨e, f⟩; omega
          · rw [if_neg c1, if_neg c2]
            constructor
            · rintro ⟨e, f⟩
              exact ⟨by omega, by omega⟩
            · rintro ⟨e, f⟩
              exact ⟨by omega, by omega⟩

/-- A binding has two Kids. -/
def letOk (op : Int) (l : Nat) : Bool := !decide (op = 7) || decide (l = 2)
def letsOkF : Fo → Bool
  | .nil => true
  | .cons op _ k r => (letOk op k.len && letsOkF k) && letsOkF r
theorem letOk_kids {op : Int} {l : Nat} (hk : kidsOk op l = true) : letOk op l = true := by
  unfold letOk
  by_cases h7 : op = 7
  · subst h7
    have : l = 2 := by simpa [kidsOk] using hk
    simp [this]
  · simp [h7]
theorem letOk_two {op : Int} {l : Nat} (h : letOk op l = true) (h7 : op = 7) : l = 2 := by
  subst h7
  simpa [letOk] using h
theorem lets_shape : ∀ (f : Fo) (op n : Int) (i : Nat) (S : Nat → Bool) (d : Nat), shapeF op n i S d f = true → letsOkF f = true
  | .nil, _, _, _, _, _, _ => rfl
  | .cons o m k r, op, n, i, S, d, h => by
    simp only [shapeF, Bool.and_eq_true] at h
    obtain ⟨⟨⟨⟨_, h2⟩, h3⟩, h4⟩, h5⟩ := h
    have e1 := lets_shape k o m 0 _ _ h4
    have e2 := lets_shape r op n (i + 1) S d h5
    simp [letsOkF, e1, e2, letOk_kids h2]
theorem lets_is {op n : Int} {k : Fo} {S : Nat → Bool} (h : nodeIs op n k S = true) : letOk op k.len = true ∧ letsOkF k = true := by
  unfold nodeIs nodeShape at h
  simp only [Bool.and_eq_true] at h
  obtain ⟨⟨⟨⟨_, h2⟩, h3⟩, h4⟩, _⟩ := h
  exact ⟨letOk_kids h2, lets_shape k op n 0 S _ h4⟩

/-- The names that are bound around the operand i. -/
def bound (op n : Int) (i : Nat) (L : List Int) : List Int := if op = 7 ∧ i = 1 then n :: L else L
/-- Are the nodes equal but for the bound names, of which L and R lie around them? -/
def varSame (m m2 : Int) (L R : List Int) : Bool := decide (depR L m = depR R m2) && (decide (0 ≤ depR L m) || decide (m = m2))
def alikeF (op n n2 : Int) : Nat → Fo → Fo → List Int → List Int → Bool
  | _, .nil, .nil, _, _ => true
  | i, .cons o m k r, .cons o2 m2 k2 r2, L, R =>
    (decide (o = o2) && decide (k.len = k2.len) && (if o = 2 then varSame m m2 (bound op n i L) (bound op n2 i R) else (decide (o = 7) || decide (m = m2)) && alikeF o m m2 0 k k2 (bound op n i L) (bound op n2 i R))) && alikeF op n n2 (i + 1) r r2 L R
  | _, .nil, .cons .., _, _ => false
  | _, .cons .., .nil, _, _ => false
def alikeN (o m : Int) (k : Fo) (o2 m2 : Int) (k2 : Fo) (L R : List Int) : Bool :=
  decide (o = o2) && decide (k.len = k2.len) && (if o = 2 then varSame m m2 L R else (decide (o = 7) || decide (m = m2)) && alikeF o m m2 0 k k2 L R)
theorem alikeF_cons {f f2 : Fo} {op n n2 : Int} {i : Nat} {o m o2 m2 : Int} {k r k2 r2 : Fo} {L R : List Int} (e : f = .cons o m k r) (e2 : f2 = .cons o2 m2 k2 r2) :
    alikeF op n n2 i f f2 L R = (alikeN o m k o2 m2 k2 (bound op n i L) (bound op n2 i R) && alikeF op n n2 (i + 1) r r2 L R) := by subst e e2; rfl

/-- The numbers nu are those of the names L, and nx is the next one. -/
def NumOf (L : List Int) (nu : Nat → Int) (nx : Int) : Prop := nx = 8 + (L.length : Int) ∧ ∀ v, v < 8 → nu v = numR L v
theorem NumOf.bind {L : List Int} {nu : Nat → Int} {nx n : Int} (h : NumOf L nu nx) (hn : inVar n = true) : NumOf (n :: L) (updN nu n.toNat nx) (nx + 1) := by
  obtain ⟨h1, h2⟩ := h
  obtain ⟨n0, n8⟩ := inVar_true hn
  refine ⟨by rw [List.length_cons]; omega, fun v hv => ?_⟩
  unfold updN numR
  by_cases e : v = n.toNat
  · rw [if_pos e, if_pos (by omega)]
    exact h1
  · rw [if_neg e, if_neg (by omega)]
    exact h2 v hv

/-- The operand i of a node: what lies around it. -/
theorem NumOf.inner {op n : Int} {l i : Nat} {L : List Int} {nu : Nat → Int} {nx : Int} (h : NumOf L nu nx) (hn : nameOk op n l = true) :
    NumOf (bound op n i L) (if binds op (i : Int) = true then updN nu n.toNat nx else nu) (if binds op (i : Int) = true then nx + 1 else nx) := by
  unfold bound
  by_cases hb : op = 7 ∧ i = 1
  · have e : binds op (i : Int) = true := by unfold binds; simp [hb.1, hb.2]
    rw [if_pos hb, if_pos e, if_pos e]
    exact h.bind (nameOk_var hn (.inr hb.1))
  · have e : ¬ binds op (i : Int) = true := by
      unfold binds
      simp
      intro h7 h1
      exact hb ⟨h7, by omega⟩
    rw [if_neg hb, if_neg e, if_neg e]
    exact h

theorem renM_same {o m m2 : Int} {l l2 : Nat} {L R : List Int} {nu nu2 : Nat → Int} {nx : Int} (hlen : L.length = R.length) (h1 : NumOf L nu nx) (h2 : NumOf R nu2 nx) (n1 : nameOk o m l = true) (n2 : nameOk o m2 l2 = true) :
    renM o m nu nx = renM o m2 nu2 nx ↔ if o = 2 then varSame m m2 L R = true else o = 7 ∨ m = m2 := by
  unfold renM
  by_cases h : o = 2
  · rw [if_pos h, if_pos h, if_pos h]
    obtain ⟨a0, a8⟩ := inVar_true (nameOk_var n1 (.inl h))
    obtain ⟨b0, b8⟩ := inVar_true (nameOk_var n2 (.inl h))
    obtain ⟨u, rfl⟩ : ∃ u : Nat, m = (u : Int) := ⟨m.toNat, by omega⟩
    obtain ⟨u2, rfl⟩ : ∃ u2 : Nat, m2 = (u2 : Int) := ⟨m2.toNat, by omega⟩
    rw [Int.toNat_natCast, Int.toNat_natCast, h1.2 u (by omega), h2.2 u2 (by omega), num_dep L R u u2 hlen (by omega) (by omega)]
    unfold varSame
    simp only [Bool.and_eq_true, Bool.or_eq_true, decide_eq_true_iff]
  · rw [if_neg h, if_neg h, if_neg h]
    by_cases h7 : o = 7
    · rw [if_pos h7, if_pos h7]
      exact ⟨fun _ => .inl h7, fun _ => rfl⟩
    · rw [if_neg h7, if_neg h7]
      exact ⟨fun e => .inr e, fun e => e.resolve_left h7⟩

theorem binds_no {op : Int} {i : Nat} (h : 2 ≤ i ∨ op ≠ 7) : binds op (i : Int) = false := by
  unfold binds
  rw [Bool.eq_false_iff]
  simp
  omega
theorem fo_nil {k : Fo} (h : k.len = 0) : k = .nil := by
  cases k with
  | nil => rfl
  | cons _ _ _ _ => simp [Fo.len] at h

/-- Equal but for names is: equal with numbers. The lists from the operand i on; behind the second operand of a binding nothing comes. -/
theorem alike_ren : ∀ (k k2 : Fo) (op n n2 : Int) (i l l2 : Nat) (L R : List Int) (nu nu2 : Nat → Int) (nx : Int), namesOkF k = true → namesOkF k2 = true → letsOkF k = true → letsOkF k2 = true → nameOk op n l = true → nameOk op n2 l2 = true →
    (op = 7 → i + k.len ≤ 2) → L.length = R.length → NumOf L nu nx → NumOf R nu2 nx → (alikeF op n n2 i k k2 L R = true ↔ sameFo (renF op n i nu nx k) (renF op n2 i nu2 nx k2) = true)
  | .nil, .nil, _, _, _, _, _, _, _, _, _, _, _, _, _, _, _, _, _, _, _, _, _ => by simp [alikeF, renF, sameFo]
  | .nil, .cons .., op, n, n2, i, _, _, _, _, nu, nu2, nx, _, _, _, _, _, _, _, _, _, _ => by
    simp only [alikeF, renF]
    split <;> simp [sameFo]
  | .cons .., .nil, op, n, n2, i, _, _, _, _, nu, nu2, nx, _, _, _, _, _, _, _, _, _, _ => by
    simp only [alikeF, renF]
    split <;> simp [sameFo]
  | .cons o m k r, .cons o2 m2 k2 r2, op, n, n2, i, l, l2, L, R, nu, nu2, nx, hk, hk2, hs, hs2, hn, hn2, hi, hlen, h1, h2 => by
    obtain ⟨⟨a1, a2⟩, a3⟩ := namesOkF_cons rfl hk
    obtain ⟨⟨b1, b2⟩, b3⟩ := namesOkF_cons rfl hk2
    simp only [letsOkF, Bool.and_eq_true] at hs hs2
    obtain ⟨⟨c1, c2⟩, c3⟩ := hs
    obtain ⟨⟨d1, d2⟩, d3⟩ := hs2
    have e1 := h1.inner (i := i) hn
    have e2 := h2.inner (i := i) hn2
    have hbl : (bound op n i L).length = (bound op n2 i R).length := by
      unfold bound
      split <;> simp [hlen]
    -- what comes behind
    have hrest : alikeF op n n2 (i + 1) r r2 L R = true ↔ sameFo (renF op n (i + 1) (if binds op (i : Int) = true then updN nu n.toNat nx else nu) (if binds op (i : Int) = true then nx + 1 else nx) r) (renF op n2 (i + 1) (if binds op (i : Int) = true then updN nu2 n2.toNat nx else nu2) (if binds op (i : Int) = true then nx + 1 else nx) r2) = true := by
      by_cases hb : binds op (i : Int) = true
      · rw [if_pos hb, if_pos hb, if_pos hb]
        have h7 : op = 7 ∧ i = 1 := by
          unfold binds at hb
          simp at hb
          exact ⟨hb.1, by omega⟩
        have hr : r = .nil := fo_nil (by have := hi h7.1; simp only [Fo.len] at this; omega)
        subst hr
        cases r2 with
        | nil => simp [alikeF, renF, sameFo]
        | cons _ _ _ _ =>
          simp only [alikeF, renF]
          split <;> simp [sameFo]
      · rw [if_neg hb, if_neg hb, if_neg hb]
        exact alike_ren r r2 op n n2 (i + 1) l l2 L R nu nu2 nx a3 b3 c3 d3 hn hn2 (fun h7 => by have := hi h7; simp only [Fo.len] at this; omega) hlen h1 h2
    have hx : ∀ (op n : Int) (nu : Nat → Int) (o m : Int) (k r : Fo), renF op n i nu nx (.cons o m k r) = .cons o (renM o m (if binds op (i : Int) = true then updN nu n.toNat nx else nu) (if binds op (i : Int) = true then nx + 1 else nx))
        (renF o m 0 (if binds op (i : Int) = true then updN nu n.toNat nx else nu) (if binds op (i : Int) = true then nx + 1 else nx) k) (renF op n (i + 1) (if binds op (i : Int) = true then updN nu n.toNat nx else nu) (if binds op (i : Int) = true then nx + 1 else nx) r) := by
      intro op n nu o m k r
      simp only [renF]
      split <;> rfl
    rw [hx, hx]
    generalize (if binds op (i : Int) = true then updN nu n.toNat nx else nu) = u1 at *
    generalize (if binds op (i : Int) = true then updN nu2 n2.toNat nx else nu2) = u2 at *
    generalize (if binds op (i : Int) = true then nx + 1 else nx) = x1 at *
    simp only [alikeF, sameFo, Bool.and_eq_true, decide_eq_true_iff, hrest]
    refine and_congr ?_ Iff.rfl
    by_cases ho : o = o2
    · subst ho
      have hm := renM_same hbl e1 e2 a1 b1
      by_cases h2' : o = 2
      · rw [if_pos h2'] at hm ⊢
        have k0 := fo_nil (nameOk_nil a1 h2')
        have k20 := fo_nil (nameOk_nil b1 h2')
        subst k0 k20
        rw [hm]
        simp [renF, sameFo]
      · rw [if_neg h2'] at hm ⊢
        have hkk := alike_ren k k2 o m m2 0 k.len k2.len _ _ u1 u2 x1 a2 b2 c2 d2 a1 b1 (fun h7 => by have := letOk_two c1 h7; omega) hbl e1 e2
        rw [hm]
        simp only [Bool.and_eq_true, Bool.or_eq_true, decide_eq_true_iff, hkk]
        constructor
        · rintro ⟨⟨_, _⟩, h, h'⟩
          exact ⟨⟨trivial, h⟩, h'⟩
        · rintro ⟨⟨_, h⟩, h'⟩
          refine ⟨⟨trivial, ?_⟩, h, h'⟩
          have := sameFo_len h'
          rwa [renF_len, renF_len] at this
    · simp [ho]

/-- SameNames at two nodes with all names to come. -/
def nu8 : Nat → Int := fun i => if i < 8 then (i : Int) else 0
theorem nu8_small : ∀ i, I64 (nu8 i) := fun i => by unfold nu8 I64; split <;> omega
theorem nu8_num : NumOf [] nu8 8 := ⟨rfl, fun v hv => by unfold nu8; rw [if_pos hv]; rfl⟩
theorem alike_node {o m o2 m2 : Int} {k k2 : Fo} (a1 : nameOk o m k.len = true) (a2 : namesOkF k = true) (b1 : nameOk o2 m2 k2.len = true) (b2 : namesOkF k2 = true) (c1 : letOk o k.len = true) (c2 : letsOkF k = true) (d2 : letsOkF k2 = true) :
    alikeN o m k o2 m2 k2 [] [] = sameN o (renM o m nu8 8) (renF o m 0 nu8 8 k) o2 (renM o2 m2 nu8 8) (renF o2 m2 0 nu8 8 k2) := by
  rw [Bool.eq_iff_iff]
  unfold alikeN sameN
  simp only [Bool.and_eq_true, decide_eq_true_iff]
  by_cases ho : o = o2
  · subst ho
    have hm := renM_same rfl nu8_num nu8_num a1 b1
    by_cases h2' : o = 2
    · rw [if_pos h2'] at hm ⊢
      have k0 := fo_nil (nameOk_nil a1 h2')
      have k20 := fo_nil (nameOk_nil b1 h2')
      subst k0 k20
      rw [hm]
      simp [renF, sameFo]
    · rw [if_neg h2'] at hm ⊢
      have hkk := alike_ren k k2 o m m2 0 k.len k2.len [] [] nu8 nu8 8 a2 b2 c2 d2 a1 b1 (fun h7 => by have := letOk_two c1 h7; omega) rfl nu8_num nu8_num
      rw [hm]
      simp only [Bool.and_eq_true, Bool.or_eq_true, decide_eq_true_iff, hkk]
      constructor
      · rintro ⟨⟨_, _⟩, h, h'⟩
        exact ⟨⟨trivial, h⟩, h'⟩
      · rintro ⟨⟨_, h⟩, h'⟩
        refine ⟨⟨trivial, ?_⟩, h, h'⟩
        have := sameFo_len h'
        rwa [renF_len, renF_len] at this
  · simp [ho]
end Go.Proofs.Ytiefobkddckkbaa

namespace Go.Proofs.Ytiefobkddckkbaa
open Go.RowKit
set_option maxRecDepth 100000

def kid1 : Fo → Nd
  | .cons o m k _ => ⟨o, m, k⟩
  | .nil => ⟨0, 0, .nil⟩
def kid2 : Fo → Nd
  | .cons _ _ _ r => kid1 r
  | .nil => ⟨0, 0, .nil⟩
def pair (a b : Nd) : Fo := .cons a.op a.n a.k (.cons b.op b.n b.k .nil)
def cntP (v : Int) (p : Nd) : Nat := cntN v p.op p.n p.k
def freeP (x : Nd) : List Int := freeUpto x.op x.n x.k 8
def varsP (p : Nd) : List Int := numsUpto (hasB ownVL p) 8
/-- There is something to replace in the second operand. -/
def reach (p : Nd) (v : Int) : Bool := !decide (p.n = v) && !decide (cntP v (kid2 p.k) = 0)
def capt (p : Nd) (v : Int) (x : Nd) : Bool := reach p v && decide (p.n ∈ freeP x)
def newOf (p : Nd) (v : Int) (x : Nd) : Option Nat := freshV (freeP x ++ varsP (kid2 p.k) ++ [v])
/-- The kids from the i-th on, each changed; the second is left as it is where s says so. -/
def kidsP (g : Nd → Option Nd) (s : Bool) : Nat → Fo → Option Fo
  | _, .nil => some .nil
  | i, .cons o m k r => match (if s = true ∧ i = 1 then some ⟨o, m, k⟩ else g ⟨o, m, k⟩) with
    | none => none
    | some a => match kidsP g s (i + 1) r with
      | none => none
      | some t => some (.cons a.op a.n a.k t)
def stays (p : Nd) (v : Int) : Bool := decide (p.op = 7) && !reach p v
def putN : Nat → Nd → Int → Nd → Option Nd
  | 0, _, _, _ => none
  | f + 1, p, v, x =>
    if p.op = 2 ∧ p.n = v then some x
    else if p.op = 7 ∧ capt p v x = true then
      match newOf p v x with
      | none => none
      | some w => match putN f (kid2 p.k) p.n ⟨2, w, .nil⟩ with
        | none => none
        | some b => match kidsP (fun y => putN f y v x) false 0 (pair (kid1 p.k) b) with
          | none => none
          | some t => some ⟨7, w, t⟩
    else match kidsP (fun y => putN f y v x) (stays p v) 0 p.k with
      | none => none
      | some t => some ⟨p.op, p.n, t⟩

theorem putN_succ (f : Nat) (p : Nd) (v : Int) (x : Nd) : putN (f + 1) p v x = (if p.op = 2 ∧ p.n = v then some x
    else if p.op = 7 ∧ capt p v x = true then
      match newOf p v x with
      | none => none
      | some w => match putN f (kid2 p.k) p.n ⟨2, w, .nil⟩ with
        | none => none
        | some b => match kidsP (fun y => putN f y v x) false 0 (pair (kid1 p.k) b) with
          | none => none
          | some t => some ⟨7, w, t⟩
    else match kidsP (fun y => putN f y v x) (stays p v) 0 p.k with
      | none => none
      | some t => some ⟨p.op, p.n, t⟩) := rfl
theorem putN_capt {f : Nat} {p : Nd} {v : Int} {x : Nd} (h7 : p.op = 7) (hc : capt p v x = true) : putN (f + 1) p v x = (match newOf p v x with
      | none => none
      | some w => match putN f (kid2 p.k) p.n ⟨2, w, .nil⟩ with
        | none => none
        | some b => match kidsP (fun y => putN f y v x) false 0 (pair (kid1 p.k) b) with
          | none => none
          | some t => some ⟨7, w, t⟩) := by
  rw [putN_succ, if_neg (by intro h; have := h7.symm.trans h.1; omega), if_pos ⟨h7, hc⟩]
theorem putN_var {f : Nat} {p : Nd} {v : Int} {x : Nd} (h : p.op = 2 ∧ p.n = v) : putN (f + 1) p v x = some x := by rw [putN_succ, if_pos h]
theorem putN_other {f : Nat} {p : Nd} {v : Int} {x : Nd} (h : ¬ (p.op = 2 ∧ p.n = v)) (hc : (decide (p.op = 7) && capt p v x) = false) : putN (f + 1) p v x = (match kidsP (fun y => putN f y v x) (stays p v) 0 p.k with
      | none => none
      | some t => some ⟨p.op, p.n, t⟩) := by
  rw [putN_succ, if_neg h, if_neg (by intro h2; rw [h2.2, Bool.and_true] at hc; exact absurd h2.1 (of_decide_eq_false hc))]
theorem kidsP_cons {g : Nd → Option Nd} {s : Bool} {i : Nat} {o m : Int} {k r : Fo} : kidsP g s i (.cons o m k r) = (match (if s = true ∧ i = 1 then some ⟨o, m, k⟩ else g ⟨o, m, k⟩) with
    | none => none
    | some a => match kidsP g s (i + 1) r with
      | none => none
      | some t => some (.cons a.op a.n a.k t)) := rfl
theorem kidsP_some {g : Nd → Option Nd} {s : Bool} {i : Nat} {o m : Int} {k r t : Fo} (h : kidsP g s i (.cons o m k r) = some t) :
    ∃ a t', (if s = true ∧ i = 1 then some ⟨o, m, k⟩ else g ⟨o, m, k⟩) = some a ∧ kidsP g s (i + 1) r = some t' ∧ t = .cons a.op a.n a.k t' := by
  rw [kidsP_cons] at h
  cases e1 : (if s = true ∧ i = 1 then some (⟨o, m, k⟩ : Nd) else g ⟨o, m, k⟩) with
  | none => rw [e1] at h; cases h
  | some a =>
    rw [e1] at h
    cases e2 : kidsP g s (i + 1) r with
    | none => rw [e2] at h; cases h
    | some t' => rw [e2] at h; cases h; exact ⟨a, t', rfl, rfl, rfl⟩
theorem kidsP_some2 {g : Nd → Option Nd} {s : Bool} {i : Nat} {o m : Int} {k r : Fo} {a : Nd} {t : Fo} (h1 : (if s = true ∧ i = 1 then some ⟨o, m, k⟩ else g ⟨o, m, k⟩) = some a) (h2 : kidsP g s (i + 1) r = some t) :
    kidsP g s i (.cons o m k r) = some (.cons a.op a.n a.k t) := by
  rw [kidsP_cons, h1, h2]

/-- Names in range, a variable without and a let with two operands. -/
def FitF (k : Fo) : Prop := namesOkF k = true ∧ letsOkF k = true
def FitN (p : Nd) : Prop := (nameOk p.op p.n p.k.len = true ∧ letOk p.op p.k.len = true) ∧ FitF p.k
theorem FitF.nil : FitF .nil := ⟨rfl, rfl⟩
theorem fitP_cons {o m : Int} {k r : Fo} : FitF (.cons o m k r) ↔ FitN ⟨o, m, k⟩ ∧ FitF r := by
  unfold FitN FitF
  simp only [namesOkF, letsOkF, Bool.and_eq_true]
  constructor
  · rintro ⟨⟨⟨h1, h2⟩, h3⟩, ⟨h4, h5⟩, h6⟩; exact ⟨⟨⟨h1, h4⟩, h2, h5⟩, h3, h6⟩
  · rintro ⟨⟨⟨h1, h4⟩, h2, h5⟩, h3, h6⟩; exact ⟨⟨⟨h1, h2⟩, h3⟩, ⟨h4, h5⟩, h6⟩
theorem fitN_is {op n : Int} {k : Fo} {S : Nat → Bool} (h : nodeIs op n k S = true) : FitN ⟨op, n, k⟩ := ⟨⟨(names_is h).1, (lets_is h).1⟩, (names_is h).2, (lets_is h).2⟩
theorem FitN.two {p : Nd} (h : FitN p) (h7 : p.op = 7) : ∃ o m k o' m' k', p.k = .cons o m k (.cons o' m' k' .nil) := by
  have h2 := letOk_two h.1.2 h7
  cases e : p.k with
  | nil => rw [e] at h2; simp [Fo.len] at h2
  | cons o m k r =>
    cases e2 : r with
    | nil => rw [e, e2] at h2; simp [Fo.len] at h2
    | cons o' m' k' r' =>
      cases e3 : r' with
      | nil => exact ⟨o, m, k, o', m', k', rfl⟩
      | cons _ _ _ _ => rw [e, e2, e3] at h2; simp [Fo.len] at h2
theorem FitN.var {p : Nd} (h : FitN p) (h2 : p.op = 2) : p.k = .nil := fo_nil (nameOk_nil h.1.1 h2)
theorem FitN.name {p : Nd} (h : FitN p) (h7 : p.op = 7) : inVar p.n = true := nameOk_var h.1.1 (.inr h7)

theorem freeP_leaf {w : Nat} {m : Int} (h : m ∈ freeP ⟨2, w, .nil⟩) : m = (w : Int) := by
  unfold freeP at h
  have : ∀ j, m ∈ freeUpto 2 (w : Int) .nil j → m = (w : Int) := by
    intro j
    induction j with
    | zero => intro h; simp [freeUpto] at h
    | succ j ih =>
      intro h
      rcases List.mem_append.1 h with h | h
      · exact ih h
      · split at h
        · simp at h
        · rename_i hc
          rw [List.mem_singleton.1 h]
          unfold cntN ownVar cntL at hc
          simp at hc
          exact hc.symm
  exact this 8 h

/-- What a renamed tree keeps. -/
structure RenP (n : Int) (w : Nat) (p b : Nd) : Prop where
  op : b.op = p.op
  len : b.k.len = p.k.len
  size : b.k.size = p.k.size
  dep : b.k.dep = p.k.dep
  fit : FitN b
  cnt : ∀ u : Int, u ≠ n → u ≠ (w : Int) → cntP u b = cntP u p
structure RenF (n : Int) (w : Nat) (i : Nat) (k t : Fo) : Prop where
  len : t.len = k.len
  size : t.size = k.size
  dep : t.dep = k.dep
  fit : FitF t
  cnt : ∀ u : Int, u ≠ n → u ≠ (w : Int) → ∀ s, cntL u s i t = cntL u s i k

theorem kidsP_ren {g : Nd → Option Nd} {s : Bool} {n : Int} {w : Nat} (hg : ∀ y b, FitN y → hasB ownVL y w = false → g y = some b → RenP n w y b) : ∀ (k : Fo) (i : Nat) (t : Fo), FitF k → hasF ownVL k w = false → kidsP g s i k = some t → RenF n w i k t
  | .nil, _, _, _, _, h => by cases h; exact ⟨rfl, rfl, rfl, FitF.nil, fun _ _ _ _ => rfl⟩
  | .cons o m k r, i, t, hf, hh, h => by
    obtain ⟨a, t', h1, h2, rfl⟩ := kidsP_some h
    rw [fitP_cons] at hf
    rw [hasF_cons rfl, Bool.or_eq_false_iff] at hh
    have hr := kidsP_ren hg r (i + 1) t' hf.2 hh.2 h2
    have ha : RenP n w ⟨o, m, k⟩ a := by
      split at h1
      · cases h1; exact ⟨rfl, rfl, rfl, rfl, hf.1, fun _ _ _ => rfl⟩
      · exact hg _ _ hf.1 hh.1 h1
    have e1 := ha.len; have e2 := ha.size; have e3 := ha.dep
    dsimp only at e1 e2 e3
    refine ⟨?_, ?_, ?_, fitP_cons.2 ⟨ha.fit, hr.fit⟩, fun u hu hw s' => ?_⟩
    · simp only [Fo.len, hr.len]
    · simp only [Fo.size, hr.size, e2]
    · simp only [Fo.dep, hr.dep, e3]
    · rw [cntL_cons rfl, cntL_cons rfl, hr.cnt u hu hw s']
      have := ha.cnt u hu hw
      unfold cntP at this
      rw [this]

theorem putN_ren {n : Int} {w : Nat} (hw8 : w < 8) : ∀ (f : Nat) (p b : Nd), FitN p → hasB ownVL p w = false → putN f p n ⟨2, w, .nil⟩ = some b → RenP n w p b
  | 0, _, _, _, _, h => by cases h
  | f + 1, p, b, hf, hh, h => by
    have hin : inVar (w : Int) = true := by unfold inVar; simp; omega
    unfold putN at h
    split at h
    · rename_i hv
      cases h
      have hk := hf.var hv.1
      refine ⟨hv.1.symm, by rw [hk], by rw [hk], by rw [hk], ⟨⟨by simp [nameOk, hin, Fo.len], rfl⟩, FitF.nil⟩, fun u hu hw => ?_⟩
      have h1 : ¬ (w : Int) = u := fun e => hw e.symm
      have h2 : ¬ p.n = u := fun e => hu (e.symm.trans hv.2)
      unfold cntP cntN ownVar
      rw [hk, hv.1]
      simp [h1, h2, cntL]
    · split at h
      · rename_i hv hc
        have h3 := hc.2
        unfold capt at h3
        simp only [Bool.and_eq_true, decide_eq_true_iff] at h3
        have h4 := freeP_leaf h3.2
        exfalso
        unfold hasB at hh
        rw [Bool.or_eq_false_iff] at hh
        have h5 := hh.1
        unfold ownVL at h5
        simp [hc.1, h4] at h5
      · cases e : kidsP (fun y => putN f y n ⟨2, w, .nil⟩) (stays p n) 0 p.k with
        | none => rw [e] at h; cases h
        | some t =>
          rw [e] at h
          cases h
          unfold hasB at hh
          rw [Bool.or_eq_false_iff] at hh
          have hr := kidsP_ren (n := n) (w := w) (fun y b hy hb he => putN_ren hw8 f y b hy hb he) p.k 0 t hf.2 hh.2 e
          refine ⟨rfl, hr.len, hr.size, hr.dep, ⟨⟨by rw [hr.len]; exact hf.1.1, by rw [hr.len]; exact hf.1.2⟩, hr.fit⟩, fun u hu hw => ?_⟩
          unfold cntP cntN
          dsimp only
          rw [hr.cnt u hu hw]

theorem kidsP_is {g : Nd → Option Nd} {s : Bool} {w f : Nat} (hg : ∀ y, FitN y → hasB ownVL y w = false → y.k.size < f → (g y).isSome = true) : ∀ (k : Fo) (i : Nat), FitF k → hasF ownVL k w = false → k.size ≤ f → (kidsP g s i k).isSome = true
  | .nil, _, _, _, _ => rfl
  | .cons o m k r, i, hf, hh, hs => by
    rw [fitP_cons] at hf
    rw [hasF_cons rfl, Bool.or_eq_false_iff] at hh
    simp only [Fo.size] at hs
    have hr := kidsP_is (s := s) hg r (i + 1) hf.2 hh.2 (by omega)
    obtain ⟨t, ht⟩ := Option.isSome_iff_exists.1 hr
    have ha : ∃ a, (if s = true ∧ i = 1 then some (⟨o, m, k⟩ : Nd) else g ⟨o, m, k⟩) = some a := by
      split
      · exact ⟨_, rfl⟩
      · exact Option.isSome_iff_exists.1 (hg ⟨o, m, k⟩ hf.1 hh.1 (by dsimp only; omega))
    obtain ⟨a, ha⟩ := ha
    rw [kidsP_some2 ha ht]; rfl
theorem putN_is {n : Int} {w : Nat} : ∀ (f : Nat) (p : Nd), FitN p → hasB ownVL p w = false → p.k.size < f → (putN f p n ⟨2, w, .nil⟩).isSome = true
  | 0, _, _, _, h => by omega
  | f + 1, p, hf, hh, hs => by
    unfold putN
    split
    · rfl
    · split
      · rename_i hv hc
        have h3 := hc.2
        unfold capt at h3
        simp only [Bool.and_eq_true, decide_eq_true_iff] at h3
        have h4 := freeP_leaf h3.2
        exfalso
        unfold hasB at hh
        rw [Bool.or_eq_false_iff] at hh
        have h5 := hh.1
        unfold ownVL at h5
        simp [hc.1, h4] at h5
      · unfold hasB at hh
        rw [Bool.or_eq_false_iff] at hh
        have := kidsP_is (s := stays p n) (fun y h1 h2 h3 => putN_is (n := n) f y h1 h2 h3) p.k 0 hf.2 hh.2 (by omega)
        obtain ⟨t, ht⟩ := Option.isSome_iff_exists.1 this
        rw [ht]; rfl

/-- A variable that is in no list of those is new. -/
theorem numsUpto_at {S : Nat → Bool} {v : Nat} : ∀ {j : Nat}, (v : Int) ∈ numsUpto S j ↔ v < j ∧ S v = true
  | 0 => by simp [numsUpto]
  | j + 1 => by
    unfold numsUpto
    rw [List.mem_append, numsUpto_at]
    constructor
    · rintro (⟨h1, h2⟩ | h)
      · exact ⟨by omega, h2⟩
      · split at h
        · rename_i hs
          have := List.mem_singleton.1 h
          have e : v = j := by omega
          subst e
          exact ⟨by omega, hs⟩
        · simp at h
    · rintro ⟨h1, h2⟩
      by_cases e : v = j
      · subst e; right; rw [if_pos h2]; simp
      · left; exact ⟨by omega, h2⟩
theorem freeUpto_mem {op n : Int} {k : Fo} {v : Nat} : ∀ {j : Nat}, (v : Int) ∈ freeUpto op n k j ↔ v < j ∧ cntN (v : Int) op n k ≠ 0
  | 0 => by simp [freeUpto]
  | j + 1 => by
    unfold freeUpto
    rw [List.mem_append, freeUpto_mem]
    constructor
    · rintro (⟨h1, h2⟩ | h)
      · exact ⟨by omega, h2⟩
      · split at h
        · simp at h
        · rename_i hs
          have := List.mem_singleton.1 h
          have e : v = j := by omega
          subst e
          exact ⟨by omega, hs⟩
    · rintro ⟨h1, h2⟩
      by_cases e : v = j
      · subst e; right; rw [if_neg h2]; simp
      · left; exact ⟨by omega, h2⟩
theorem freeP_mem {x : Nd} {m : Int} (h : inVar m = true) : m ∈ freeP x ↔ cntP m x ≠ 0 := by
  obtain ⟨v, hv, rfl⟩ : ∃ v : Nat, v < 8 ∧ m = (v : Int) := ⟨m.toNat, by unfold inVar at h; simp at h; omega, by unfold inVar at h; simp at h; omega⟩
  unfold freeP cntP
  rw [freeUpto_mem]
  constructor
  · exact fun h => h.2
  · exact fun h => ⟨hv, h⟩
theorem newOf_new {p x : Nd} {v : Int} {w : Nat} (h : newOf p v x = some w) : w < 8 ∧ ¬ ((w : Int) ∈ freeP x) ∧ hasB ownVL (kid2 p.k) w = false ∧ (w : Int) ≠ v := by
  obtain ⟨h1, h2⟩ := freshV_lt h
  simp only [List.mem_append, List.mem_singleton, not_or] at h2
  refine ⟨h1, h2.1.1, ?_, h2.2⟩
  have h3 := h2.1.2
  unfold varsP at h3
  rw [numsUpto_at] at h3
  cases e : hasB ownVL (kid2 p.k) w with
  | false => rfl
  | true => exact absurd ⟨h1, e⟩ h3

/-- How large the result is. -/
theorem kidsP_size {g : Nd → Option Nd} {v : Int} {X : Nat} (hg : ∀ y b, FitN y → g y = some b → b.k.size = y.k.size + cntP v y * X) : ∀ (k : Fo) (i : Nat) (t : Fo), FitF k → kidsP g false i k = some t → t.size = k.size + cntL v false i k * X
  | .nil, _, _, _, h => by cases h; simp [Fo.size, cntL]
  | .cons o m k r, i, t, hf, h => by
    obtain ⟨a, t', h1, h2, rfl⟩ := kidsP_some h
    rw [fitP_cons] at hf
    have hr := kidsP_size hg r (i + 1) t' hf.2 h2
    have ha := hg _ _ hf.1 (by simpa using h1)
    dsimp only at ha
    rw [cntL_cons rfl]
    simp only [Fo.size, hr, ha, Bool.false_eq_true, false_and, if_false]
    unfold cntP
    dsimp only
    rw [Nat.add_mul]
    omega
theorem putN_size {v : Int} {x : Nd} : ∀ (f : Nat) (p b : Nd), FitN p → putN f p v x = some b → b.k.size = p.k.size + cntP v p * x.k.size
  | 0, _, _, _, h => by cases h
  | f + 1, p, b, hf, h => by
    unfold putN at h
    split at h
    · rename_i hv
      cases h
      rw [hf.var hv.1]
      unfold cntP cntN ownVar
      rw [if_pos hv, hf.var hv.1]
      simp [Fo.size, cntL]
    · rename_i hv
      split at h
      · rename_i hc
        have h3 := hc.2
        unfold capt reach at h3
        simp only [Bool.and_eq_true, Bool.not_eq_true', decide_eq_false_iff_not, decide_eq_true_iff] at h3
        obtain ⟨⟨h31, h32⟩, h33⟩ := h3
        cases e : newOf p v x with
        | none => rw [e] at h; cases h
        | some w =>
          rw [e] at h
          dsimp only at h
          obtain ⟨w8, n1, n2, n3⟩ := newOf_new e
          cases e2 : putN f (kid2 p.k) p.n ⟨2, w, .nil⟩ with
          | none => rw [e2] at h; cases h
          | some q =>
            rw [e2] at h
            dsimp only at h
            obtain ⟨o, m, k, o', m', k', ek⟩ := hf.two hc.1
            have hff := hf.2
            rw [ek, fitP_cons, fitP_cons] at hff
            have hq := putN_ren w8 f (kid2 p.k) q (by rw [ek]; exact hff.2.1) n2 e2
            have e3' : ∃ t, kidsP (fun y => putN f y v x) false 0 (pair (kid1 p.k) q) = some t ∧ b = ⟨7, w, t⟩ := by
              cases e3 : kidsP (fun y => putN f y v x) false 0 (pair (kid1 p.k) q) with
              | none => rw [e3] at h; cases h
              | some t => rw [e3] at h; cases h; exact ⟨t, rfl, rfl⟩
            obtain ⟨t, e3, rfl⟩ := e3'
            have hs := kidsP_size (v := v) (X := x.k.size) (fun y b hy he => putN_size f y b hy he) _ 0 t (by
              unfold pair
              rw [fitP_cons, fitP_cons, ek]
              exact ⟨hff.1, hq.fit, FitF.nil⟩) e3
            dsimp only
            rw [hs]
            have c1 := hq.cnt v (fun e => h31 e.symm) n3.symm
            have c2 := hq.size
            rw [ek] at c1 c2 ⊢
            simp only [pair, kid1, kid2, Fo.size] at c2 ⊢
            have c3 : cntP v p = cntN v o m k + cntN v o' m' k' := by
              unfold cntP cntN
              rw [ek]
              have : decide (p.op = 7 ∧ p.n = v) = false := by simp [h31]
              rw [this, cntL_cons rfl, cntL_cons rfl]
              unfold ownVar cntN cntL
              simp [hc.1, h31, ownVar]
            rw [c3, c2, cntL_cons rfl, cntL_cons rfl]
            unfold cntP kid2 kid1 at c1
            simp only at c1
            simp only [Bool.false_eq_true, false_and, if_false, c1, cntL, Nat.add_zero]
      · rename_i hc
        have e3' : ∃ t, kidsP (fun y => putN f y v x) (stays p v) 0 p.k = some t ∧ b = ⟨p.op, p.n, t⟩ := by
          cases e3 : kidsP (fun y => putN f y v x) (stays p v) 0 p.k with
          | none => rw [e3] at h; cases h
          | some t => rw [e3] at h; cases h; exact ⟨t, rfl, rfl⟩
        obtain ⟨t, e3, rfl⟩ := e3'
        dsimp only
        by_cases h7 : p.op = 7
        · obtain ⟨o, m, k, o', m', k', ek⟩ := hf.two h7
          have hff := hf.2
          rw [ek, fitP_cons, fitP_cons] at hff
          rw [ek] at e3
          obtain ⟨a1, t1, g1, g2, rfl⟩ := kidsP_some e3
          obtain ⟨a2, t2, g3, g4, rfl⟩ := kidsP_some g2
          cases g4
          have s1 := putN_size f ⟨o, m, k⟩ a1 hff.1 (by simpa using g1)
          have hown : ownVar v p.op p.n = 0 := by unfold ownVar; rw [if_neg hv]
          have c3 : cntP v p = cntN v o m k + (if p.n = v then 0 else cntN v o' m' k') := by
            unfold cntP
            rw [show cntN v p.op p.n p.k = ownVar v p.op p.n + cntL v (decide (p.op = 7 ∧ p.n = v)) 0 p.k from rfl, hown, ek, cntL_cons rfl, cntL_cons rfl]
            simp [h7, cntL]
          rw [ek, c3]
          simp only [Fo.size]
          cases hst : stays p v with
          | true =>
            rw [hst] at g3
            have g3' : a2 = ⟨o', m', k'⟩ := by simpa using g3.symm
            subst g3'
            unfold stays reach at hst
            simp only [h7, ek, kid2, kid1, decide_true, Bool.true_and, Bool.not_and, Bool.not_not, Bool.or_eq_true, decide_eq_true_iff] at hst
            have hz : (if p.n = v then 0 else cntN v o' m' k') = 0 := by
              rcases hst with e | e
              · rw [if_pos e]
              · split
                · rfl
                · exact e
            rw [hz, Nat.add_zero]
            dsimp only at s1 ⊢
            unfold cntP at s1
            dsimp only at s1
            rw [s1]
            simp only [Nat.add_zero]
            omega
          | false =>
            rw [hst] at g3
            have s2 := putN_size f ⟨o', m', k'⟩ a2 hff.2.1 (by simpa using g3)
            unfold stays reach at hst
            have hnv : ¬ p.n = v := fun e => by simp [h7, e] at hst
            rw [if_neg hnv, Nat.add_mul]
            dsimp only at s1 s2 ⊢
            unfold cntP at s1 s2
            dsimp only at s1 s2
            omega
        · have hst : stays p v = false := by unfold stays; simp [h7]
          rw [hst] at e3
          have hs := kidsP_size (v := v) (X := x.k.size) (fun y b hy he => putN_size f y b hy he) _ 0 t hf.2 e3
          rw [hs]
          have hown : ownVar v p.op p.n = 0 := by unfold ownVar; rw [if_neg hv]
          unfold cntP
          rw [show cntN v p.op p.n p.k = ownVar v p.op p.n + cntL v (decide (p.op = 7 ∧ p.n = v)) 0 p.k from rfl, hown]
          simp [h7]
theorem putN_i64 {v : Int} {x : Nd} : ∀ {f : Nat} {p b : Nd}, (I64 p.op ∧ I64 p.n) → (I64 x.op ∧ I64 x.n) → putN f p v x = some b → I64 b.op ∧ I64 b.n
  | 0, _, _, _, _, h => by cases h
  | f + 1, p, b, hp, hx, h => by
    unfold putN at h
    split at h
    · cases h; exact hx
    · split at h
      · cases e : newOf p v x with
        | none => rw [e] at h; cases h
        | some w =>
          rw [e] at h
          dsimp only at h
          have w8 := (newOf_new e).1
          cases e2 : putN f (kid2 p.k) p.n ⟨2, w, .nil⟩ with
          | none => rw [e2] at h; cases h
          | some q =>
            rw [e2] at h
            dsimp only at h
            split at h
            · cases h
            · cases h
              unfold I64
              dsimp only
              omega
      · split at h
        · cases h
        · cases h; exact hp

/-- What is left to do joined to what is done. -/
def joinP (pre : Fo) : Option Fo → Option Fo
  | none => none
  | some t => some (pre.app t)
theorem kids_start (g : Nd → Option Nd) (s : Bool) (k : Fo) : kidsP g s 0 k = joinP .nil (kidsP g s 0 (k.drop 0)) := by
  rw [Fo.drop_zero]
  cases kidsP g s 0 k <;> rfl
theorem kids_step {g : Nd → Option Nd} {s : Bool} {j : Nat} {o m : Int} {k r pre : Fo} {a : Nd} {T : Option Fo} (h1 : (if s = true ∧ j = 1 then some ⟨o, m, k⟩ else g ⟨o, m, k⟩) = some a) (h : T = joinP pre (kidsP g s j (.cons o m k r))) :
    T = joinP (pre.snoc a.op a.n a.k) (kidsP g s (j + 1) r) := by
  rw [h, kidsP_cons, h1]
  cases kidsP g s (j + 1) r with
  | none => rfl
  | some t => simp only [joinP, Fo.snoc_app]
theorem kids_stop {g : Nd → Option Nd} {s : Bool} {j : Nat} {o m : Int} {k r pre : Fo} {T : Option Fo} (h1 : (if s = true ∧ j = 1 then some ⟨o, m, k⟩ else g ⟨o, m, k⟩) = none) (h : T = joinP pre (kidsP g s j (.cons o m k r))) : T = none := by
  rw [h, kidsP_cons, h1]; rfl
theorem kids_end {g : Nd → Option Nd} {s : Bool} {j : Nat} {pre : Fo} {T : Option Fo} (h : T = joinP pre (kidsP g s j .nil)) : T = some pre := by
  rw [h]; simp only [kidsP, joinP, Fo.app_nil]

/-- Replacing in a let, in the model's order. -/
theorem let_none {f : Nat} {n v : Int} {a b x : Nd} (h : putN f a v x = none) : putN (f + 1) ⟨7, n, pair a b⟩ v x = none := by
  rw [putN_succ, if_neg (by simp)]
  split
  · split
    · rfl
    · split
      · rfl
      · unfold pair kid1
        rw [kidsP_cons, if_neg (by simp)]
        dsimp only
        rw [show putN f ⟨a.op, a.n, a.k⟩ v x = none from h]
  · unfold pair
    rw [kidsP_cons, if_neg (by simp)]
    rw [show putN f ⟨a.op, a.n, a.k⟩ v x = none from h]
theorem let_stays {f : Nat} {n v : Int} {a a' b x : Nd} (h : putN f a v x = some a') (hr : reach ⟨7, n, pair a b⟩ v = false) : putN (f + 1) ⟨7, n, pair a b⟩ v x = some ⟨7, n, pair a' b⟩ := by
  rw [putN_other (by simp) (by unfold capt; rw [hr]; simp)]
  have hs : stays ⟨7, n, pair a b⟩ v = true := by unfold stays; rw [hr]; rfl
  rw [hs]
  have : kidsP (fun y => putN f y v x) true 0 (pair a b) = some (pair a' b) := by
    unfold pair
    exact kidsP_some2 (by rw [if_neg (by simp)]; exact h) (kidsP_some2 (a := b) (by rw [if_pos ⟨rfl, rfl⟩]) rfl)
  dsimp only
  rw [this]
theorem pair_in {g : Nd → Option Nd} {a a' b : Nd} (h : g a = some a') : kidsP g false 0 (pair a b) = (match g b with | none => none | some b' => some (pair a' b')) := by
  unfold pair
  rw [kidsP_cons, if_neg (by simp), show g ⟨a.op, a.n, a.k⟩ = some a' from h]
  dsimp only
  rw [kidsP_cons, if_neg (by simp)]
  rw [show g ⟨b.op, b.n, b.k⟩ = g b from rfl]
  cases g b <;> rfl
theorem let_in {f : Nat} {n v : Int} {a a' b x : Nd} (h : putN f a v x = some a') (hr : reach ⟨7, n, pair a b⟩ v = true) (hc : ¬ n ∈ freeP x) : putN (f + 1) ⟨7, n, pair a b⟩ v x = (match putN f b v x with | none => none | some b' => some ⟨7, n, pair a' b'⟩) := by
  rw [putN_other (by simp) (by unfold capt; rw [hr]; simp [hc])]
  have hs : stays ⟨7, n, pair a b⟩ v = false := by unfold stays; rw [hr]; rfl
  rw [hs]
  dsimp only
  rw [pair_in (g := fun y => putN f y v x) h]
  cases putN f b v x <;> rfl
theorem let_new {f : Nat} {n v : Int} {a a' b x : Nd} (h : putN f a v x = some a') (hr : reach ⟨7, n, pair a b⟩ v = true) (hc : n ∈ freeP x) : putN (f + 1) ⟨7, n, pair a b⟩ v x = (match freshV (freeP x ++ varsP b ++ [v]) with
    | none => none
    | some w => match putN f b n ⟨2, w, .nil⟩ with
      | none => none
      | some q => match putN f q v x with
        | none => none
        | some b' => some ⟨7, w, pair a' b'⟩) := by
  rw [putN_capt rfl (by unfold capt; rw [hr]; simp [hc])]
  show (match freshV (freeP x ++ varsP b ++ [v]) with
    | none => none
    | some w => match putN f b n ⟨2, w, .nil⟩ with
      | none => none
      | some q => match kidsP (fun y => putN f y v x) false 0 (pair a q) with
        | none => none
        | some t => some (⟨7, w, t⟩ : Nd)) = _
  cases freshV (freeP x ++ varsP b ++ [v]) with
  | none => rfl
  | some w =>
    dsimp only
    cases putN f b n ⟨2, w, .nil⟩ with
    | none => rfl
    | some q =>
      dsimp only
      rw [pair_in (g := fun y => putN f y v x) h]
      cases putN f q v x <;> rfl
end Go.Proofs.Ytiefobkddckkbaa
