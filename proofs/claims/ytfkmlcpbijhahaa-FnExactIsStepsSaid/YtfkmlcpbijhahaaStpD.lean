/-
  Steps as data: which operands have to be atoms; the model's way and the program's way are the same.
-/
import Derived.Test.YtfkmlcpbijhahaaFo
import Derived.Test.YtfkmlcpbijhahaaAtom
import Derived.Test.YtfkmlcpbijhahaaShape
namespace Go.Proofs.Ytfkmlcpbijhahaa
open Go.RowKit
set_option maxRecDepth 100000

def takesB (op : Int) (i : Nat) : Bool := !(decide (op = 7) || decide (op = 8)) && (!decide (op = 6) || decide (i = 0))
/-- Of one node: each operand that has to be an atom is one. -/
def kidsT (op : Int) : Nat → Fo → Bool
  | _, .nil => true
  | i, .cons o _ k r => (!takesB op i || atomB o k) && kidsT op (i + 1) r
def okS (q : Nd) : Bool := kidsT q.op 0 q.k
def allStF : Fo → Bool
  | .nil => true
  | .cons o _ k r => (kidsT o 0 k && allStF k) && allStF r
def allSt (op : Int) (k : Fo) : Bool := kidsT op 0 k && allStF k
theorem allst_ordF : ∀ (p : Nd) (i : Nat) (k : Fo), (ordF (fun _ _ => false) p i k).all okS = allStF k
  | _, _, .nil => rfl
  | p, i, .cons op n k r => by
    have h1 := allst_ordF p (i + 1) r
    have h2 := allst_ordF ⟨op, n, k⟩ 0 k
    simp only [ordF, List.all_append, h1, allStF]
    simp [h2, okS, Bool.and_comm]
theorem allst_ordN (p : Nd) : (ordN (fun _ _ => false) p).all okS = allSt p.op p.k := by
  simp [ordN, allst_ordF, okS, allSt]
/-- As the model goes: into what has not to be an atom. -/
def kidsM (op : Int) : Nat → Fo → Bool
  | _, .nil => true
  | i, .cons o _ k r => (if takesB op i then atomB o k else kidsM o 0 k) && kidsM op (i + 1) r
theorem kidsM_cons {op : Int} {i : Nat} {f : Fo} {o n : Int} {k r : Fo} (e : f = .cons o n k r) : kidsM op i f = ((if takesB op i then atomB o k else kidsM o 0 k) && kidsM op (i + 1) r) := by subst e; rfl
theorem kidsT_cons {op : Int} {i : Nat} {f : Fo} {o n : Int} {k r : Fo} (e : f = .cons o n k r) : kidsT op i f = ((!takesB op i || atomB o k) && kidsT op (i + 1) r) := by subst e; rfl
theorem atom_nil {o : Int} {k : Fo} (h : atomB o k = true) : k = .nil := by
  unfold atomB at h
  have h2 := of_decide_eq_true (Bool.and_eq_true_iff.1 h).2
  cases k with
  | nil => rfl
  | cons a b c d => simp [Fo.len] at h2
theorem kidsM_is : ∀ (f : Fo) (op : Int) (i : Nat), kidsM op i f = (kidsT op i f && allStF f)
  | .nil, _, _ => rfl
  | .cons o n k r, op, i => by
    have h1 := kidsM_is k o 0
    have h2 := kidsM_is r op (i + 1)
    rw [kidsM_cons rfl, kidsT_cons rfl, h2]
    show _ = (((!takesB op i || atomB o k) && kidsT op (i + 1) r) && ((kidsT o 0 k && allStF k) && allStF r))
    cases ht : takesB op i with
    | true =>
      rw [if_pos rfl]
      cases ha : atomB o k with
      | true =>
        rw [atom_nil ha]
        simp [kidsT, allStF]
      | false => simp
    | false =>
      rw [if_neg (by simp), h1]
      simp only [Bool.not_false, Bool.true_or, Bool.true_and]
      cases kidsT o 0 k <;> cases allStF k <;> cases kidsT op (i + 1) r <;> cases allStF r <;> rfl
def stepsB (op n : Int) (k : Fo) : Bool := nodeIs op n k (firstS 8) && allSt op k
theorem steps_model (op n : Int) (k : Fo) : (nodeIs op n k (firstS 8) && kidsM op 0 k) = stepsB op n k := by
  unfold stepsB allSt
  rw [kidsM_is]
/-- Over the end of a round. -/
theorem kidsM_at {op : Int} : ∀ {f : Fo} (j : Nat) {i : Nat} {o n : Int} {k : Fo}, f.drop j = .cons o n k (f.drop (j + 1)) → kidsM op (i + j) (f.drop j) = ((if takesB op (i + j) then atomB o k else kidsM o 0 k) && kidsM op (i + (j + 1)) (f.drop (j + 1))) := fun j i o n k e => by rw [kidsM_cons e, Nat.add_assoc]
end Go.Proofs.Ytfkmlcpbijhahaa
