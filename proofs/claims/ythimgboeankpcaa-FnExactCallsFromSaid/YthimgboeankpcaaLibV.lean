/-
  LibraryValid, as data.
-/
import Derived.Test.YthimgboeankpcaaAny
import Derived.Test.YthimgboeankpcaaArgs
namespace Go.Proofs.Ythimgboeankpcaa
open Go.RowKit
set_option maxRecDepth 100000

/-- The order of the names. -/
def ascB (prev : Option Int) (x : Int) : Bool := match prev with | none => true | some p => decide (p < x)
def arOk (d : De) : Bool := decide (0 ≤ d.ar) && decide (d.ar ≤ 3)
def bodyOk (ds : List De) (d : De) : Bool := nodeIs d.op d.n d.k (firstS d.ar.toNat) && fitN (ariS ds) d.op d.n d.k
def headOk (prev : Option Int) (d : De) : Bool := inVar d.nm && arOk d && ascB prev d.nm
def okL (ds : List De) (prev : Option Int) : List De → Bool
  | [] => true
  | d :: r => (headOk prev d && bodyOk ds d) && okL ds (some d.nm) r
def libOk (ds : List De) : Bool := decide (ds.length ≤ 8) && okL ds none ds
def prevAt (ds : List De) (j : Nat) : Option Int := if j = 0 then none else (ds[j - 1]?).map (·.nm)
theorem prevAt_succ {ds : List De} {j : Nat} {d : De} (h : ds[j]? = some d) : prevAt ds (j + 1) = some d.nm := by simp [prevAt, h]
theorem okL_at {ds : List De} {j : Nat} {d : De} (h : ds[j]? = some d) : okL ds (prevAt ds j) (ds.drop j) = ((headOk (prevAt ds j) d && bodyOk ds d) && okL ds (prevAt ds (j + 1)) (ds.drop (j + 1))) := by
  rw [drop_at h, prevAt_succ h]; rfl

theorem scope_upto (r : Nat) : scopeOf (upto r) = firstS r := by
  funext i
  unfold scopeOf firstS
  rw [Bool.eq_iff_iff]
  simp only [decide_eq_true_eq, upto_mem]
  omega
theorem allVars_upto (r : Nat) (h : r ≤ 8) : allVars (upto r) = true := by
  unfold allVars
  rw [List.all_eq_true]
  intro x hx
  have := (upto_mem r x).1 hx
  exact inVar_mk this.1 (by omega)
theorem validOf_upto (op n : Int) (k : Fo) (r : Nat) (h : r ≤ 8) : validOf op n k (upto r) = nodeIs op n k (firstS r) := by
  unfold validOf
  rw [allVars_upto r h, scope_upto, Bool.true_and]
end Go.Proofs.Ythimgboeankpcaa
