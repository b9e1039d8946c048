/-
  Texts of expressions as plain data: how one is written, and how one is read at an offset.
-/
import Derived.Test.YtpknegneogdmfaaGreatFo
namespace Go.Proofs.YtpknegneogdmfaaGreat

/-- A number from 0 to 99 in decimal. -/
def decL (n : Int) : List UInt8 := if n ≤ 9 then [UInt8.ofNat (48 + n.toNat)] else [UInt8.ofNat (48 + n.toNat / 10), UInt8.ofNat (48 + n.toNat % 10)]
def letL (first : Nat) (n : Int) : List UInt8 := [UInt8.ofNat (first + n.toNat)]
/-- Texts with a comma between. -/
def commas : List (List UInt8) → List UInt8
  | [] => []
  | [x] => x
  | x :: y :: r => x ++ [44] ++ commas (y :: r)
/-- A node's text, given the texts of its Kids. -/
def txtOf (op n : Int) (ts : List (List UInt8)) : List UInt8 :=
  if op = 1 then decL n
  else if op = 2 then letL 97 n
  else if op = 4 then [40] ++ ts.getD 0 [] ++ [43] ++ ts.getD 1 [] ++ [41]
  else if op = 5 then [40] ++ ts.getD 0 [] ++ [60] ++ ts.getD 1 [] ++ [41]
  else if op = 6 then [91] ++ ts.getD 0 [] ++ [63] ++ ts.getD 1 [] ++ [58] ++ ts.getD 2 [] ++ [93]
  else if op = 7 then [123] ++ letL 97 n ++ [61] ++ ts.getD 0 [] ++ [59] ++ ts.getD 1 [] ++ [125]
  else if op = 8 then [123] ++ ts.getD 0 [] ++ [59] ++ ts.getD 1 [] ++ [125]
  else if op = 9 then [33] ++ ts.getD 0 []
  else letL 65 n ++ [40] ++ commas ts ++ [41]
def txtF : Fo → List (List UInt8)
  | .nil => []
  | .cons op n k r => txtOf op n (txtF k) :: txtF r
def txtN (op n : Int) (k : Fo) : List UInt8 := txtOf op n (txtF k)
theorem txtF_len : ∀ f : Fo, (txtF f).length = f.len
  | .nil => rfl
  | .cons _ _ _ r => by simp [txtF, Fo.len, txtF_len r]
theorem txtF_cons {f : Fo} {op n : Int} {k r : Fo} (e : f = .cons op n k r) : txtF f = txtN op n k :: txtF r := by subst e; rfl
theorem txtF_drop : ∀ (f : Fo) (j : Nat), txtF (f.drop j) = (txtF f).drop j
  | f, 0 => by simp [Fo.drop_zero]
  | .nil, j + 1 => by simp [Fo.drop, txtF]
  | .cons _ _ _ r, j + 1 => by simp [Fo.drop, txtF, txtF_drop r j]
theorem txtF_at {f : Fo} {j : Nat} {op n : Int} {k : Fo} (e : f.drop j = .cons op n k (f.drop (j + 1))) : (txtF f).getD j [] = txtN op n k := by
  have h := txtF_drop f j
  rw [e] at h
  have : ((txtF f).drop j)[0]? = some (txtN op n k) := by rw [← h]; rfl
  rw [List.getElem?_drop, Nat.add_zero] at this
  rw [List.getD_eq_getElem?_getD, this]; rfl

/-- May the node be written? Its Kids are as many as its kind has, its number is in range. -/
def ownTxt (op n : Int) (len : Nat) : Bool :=
  (decide (op = 1) && decide (0 ≤ n) && decide (n ≤ 99) || decide (op = 2) && decide (0 ≤ n) && decide (n < 26) || decide (op = 3) && decide (0 ≤ n) && decide (n < 26)
    || decide (op = 4) && decide (len = 2) || decide (op = 5) && decide (len = 2) || decide (op = 6) && decide (len = 3) || decide (op = 7) && decide (0 ≤ n) && decide (n < 26) && decide (len = 2) || decide (op = 8) && decide (len = 2) || decide (op = 9) && decide (len = 1))
def okF : Fo → Bool
  | .nil => true
  | .cons op n k r => ownTxt op n k.len && okF k && okF r
def okT (op n : Int) (k : Fo) : Bool := ownTxt op n k.len && okF k
theorem okF_cons {f : Fo} {op n : Int} {k r : Fo} (e : f = .cons op n k r) : okF f = (okT op n k && okF r) := by subst e; rfl
theorem okF_drop : ∀ (f : Fo) (j : Nat), okF f = true → okF (f.drop j) = true
  | f, 0, h => by simpa [Fo.drop_zero] using h
  | .nil, j + 1, h => by simp [Fo.drop, okF]
  | .cons _ _ _ r, j + 1, h => by
    simp only [okF, Bool.and_eq_true] at h
    exact okF_drop r j h.2
theorem okF_at {f : Fo} {j : Nat} {op n : Int} {k : Fo} (h : okF f = true) (e : f.drop j = .cons op n k (f.drop (j + 1))) : okT op n k = true := by
  have := okF_drop f j h
  rw [e] at this
  rw [okF_cons rfl, Bool.and_eq_true] at this
  exact this.1

/-! How long a text is. -/
theorem commas_len : ∀ ts : List (List UInt8), (commas ts).length ≤ (ts.map fun t => t.length + 1).sum
  | [] => Nat.zero_le _
  | [x] => by simp [commas]
  | x :: y :: r => by
    have := commas_len (y :: r)
    simp only [commas, List.length_append, List.map_cons, List.sum_cons, List.length_cons, List.length_nil] at this ⊢
    omega
theorem getD_len (ts : List (List UInt8)) (i : Nat) : (ts.getD i []).length ≤ (ts.map fun t => t.length + 1).sum := by
  induction ts generalizing i with
  | nil => simp
  | cons t r ih =>
    cases i with
    | zero => simp; omega
    | succ i =>
      have := ih i
      simp only [List.getD_cons_succ, List.map_cons, List.sum_cons]
      omega
theorem decL_len (n : Int) : (decL n).length ≤ 2 := by unfold decL; split <;> simp
theorem getD3_len (ts : List (List UInt8)) : (ts.getD 0 []).length + (ts.getD 1 []).length + (ts.getD 2 []).length ≤ (ts.map fun t => t.length + 1).sum := by
  match ts with
  | [] => simp
  | [a] => simp
  | [a, b] => simp; omega
  | a :: b :: c :: r => simp; omega
theorem txtOf_len (op n : Int) (ts : List (List UInt8)) : (txtOf op n ts).length ≤ (ts.map fun t => t.length + 1).sum + 5 := by
  have h1 := commas_len ts
  have h2 := getD3_len ts
  have h3 := decL_len n
  unfold txtOf
  split
  · omega
  split
  · simp [letL]
  split
  · simp only [List.length_append, List.length_cons, List.length_nil]; omega
  split
  · simp only [List.length_append, List.length_cons, List.length_nil]; omega
  split
  · simp only [List.length_append, List.length_cons, List.length_nil]; omega
  split
  · simp only [letL, List.length_append, List.length_cons, List.length_nil]; omega
  split
  · simp only [List.length_append, List.length_cons, List.length_nil]; omega
  split
  · simp only [List.length_append, List.length_cons, List.length_nil]; omega
  · simp only [letL, List.length_append, List.length_cons, List.length_nil]; omega
theorem txtF_sum : ∀ f : Fo, ((txtF f).map fun t => t.length + 1).sum ≤ 6 * f.size
  | .nil => by simp [txtF, Fo.size]
  | .cons op n k r => by
    have h1 := txtOf_len op n (txtF k)
    have h2 := txtF_sum k
    have h3 := txtF_sum r
    simp only [txtF, List.map_cons, List.sum_cons, Fo.size]
    omega
theorem txtN_len (op n : Int) (k : Fo) : (txtN op n k).length ≤ 6 * k.size + 5 := by
  have h1 := txtOf_len op n (txtF k)
  have h2 := txtF_sum k
  unfold txtN
  omega

/-! Reading. -/
/-- Up to three digits at an offset: the number that they are, and the offset behind them. -/
def numAt (s : List UInt8) : Nat → Nat → Int → Int × Nat
  | 0, e, n => (n, e)
  | m + 1, e, n => match s[e]? with
    | some c => if 48 ≤ c.toNat ∧ c.toNat ≤ 57 then numAt s m (e + 1) (n * 10 + ((c.toNat : Int) - 48)) else (n, e)
    | none => (n, e)
/-- Nodes at an offset, each in front of a byte; p reads a node. -/
def partsAt (s : List UInt8) (p : Nat → Option (Nd × Nat)) : List UInt8 → Nat → Option (Fo × Nat)
  | [], i => some (.nil, i)
  | c :: cs, i => match p i with
    | none => none
    | some (e, q) => if s[q]? = some c then match partsAt s p cs (q + 1) with
        | none => none
        | some (r, q2) => some (.cons e.op e.n e.k r, q2)
      else none
/-- The operands of a call behind its bracket. -/
def argsAt (s : List UInt8) (p : Nat → Option (Nd × Nat)) : Nat → Nat → Option (Fo × Nat)
  | 0, _ => none
  | m + 1, i => match p i with
    | none => none
    | some (e, q) => if s[q]? = some 41 then some (.cons e.op e.n e.k .nil, q + 1)
      else if s[q]? = some 44 then match argsAt s p m (q + 1) with
        | none => none
        | some (r, q2) => some (.cons e.op e.n e.k r, q2)
      else none
def callAt (s : List UInt8) (p : Nat → Option (Nd × Nat)) (c : UInt8) (i : Nat) : Option (Nd × Nat) :=
  if s[i + 1]? = some 40 then
    if s[i + 2]? = some 41 then some (⟨3, (c.toNat : Int) - 65, .nil⟩, i + 3)
    else match argsAt s p 4 (i + 2) with
      | none => none
      | some (k, q) => some (⟨3, (c.toNat : Int) - 65, k⟩, q)
  else none
def binAt (s : List UInt8) (p : Nat → Option (Nd × Nat)) (i : Nat) : Option (Nd × Nat) :=
  match p i with
  | none => none
  | some (a, m) => if s[m]? = some 43 ∨ s[m]? = some 60 then match p (m + 1) with
      | none => none
      | some (b, q) => if s[q]? = some 41 then some (⟨if s[m]? = some 43 then 4 else 5, 0, .cons a.op a.n a.k (.cons b.op b.n b.k .nil)⟩, q + 1) else none
    else none
def node (op n : Int) : Option (Fo × Nat) → Option (Nd × Nat)
  | none => none
  | some (k, q) => some (⟨op, n, k⟩, q)
/-- A let begins at the offset: a brace, a letter, a sign. -/
def letAt (s : List UInt8) (i : Nat) : Option Nat :=
  if s[i + 2]? = some 61 then match s[i + 1]? with
    | some c => if 97 ≤ c.toNat ∧ c.toNat ≤ 122 then some c.toNat else none
    | none => none
  else none
/-- A node at an offset, down to a depth. -/
def parseAt (s : List UInt8) : Nat → Nat → Option (Nd × Nat)
  | 0, _ => none
  | d + 1, i => match s[i]? with
    | none => none
    | some c =>
      if 48 ≤ c.toNat ∧ c.toNat ≤ 57 then some (⟨1, (numAt s 3 i 0).1, .nil⟩, (numAt s 3 i 0).2)
      else if 97 ≤ c.toNat ∧ c.toNat ≤ 122 then some (⟨2, (c.toNat : Int) - 97, .nil⟩, i + 1)
      else if 65 ≤ c.toNat ∧ c.toNat ≤ 90 then callAt s (parseAt s d) c i
      else if c.toNat = 33 then match parseAt s d (i + 1) with
        | none => none
        | some (e, q) => some (⟨9, 0, .cons e.op e.n e.k .nil⟩, q)
      else if c.toNat = 40 then binAt s (parseAt s d) (i + 1)
      else if c.toNat = 91 then node 6 0 (partsAt s (parseAt s d) [63, 58, 93] (i + 1))
      else if c.toNat = 123 then match letAt s i with
        | some v => node 7 ((v : Int) - 97) (partsAt s (parseAt s d) [59, 125] (i + 3))
        | none => node 8 0 (partsAt s (parseAt s d) [59, 125] (i + 1))
      else none
end Go.Proofs.YtpknegneogdmfaaGreat
