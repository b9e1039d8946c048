/-
  LibraryValid, as data.
  What a valid library is good for, as data.
-/
import Derived.Test.YtbpcggbmlaomjaaAny
import Derived.Test.YtbpcggbmlaomjaaArgs
namespace Go.Proofs.Ytbpcggbmlaomjaa
open Go.RowKit
set_option maxRecDepth 100000

/-- The order of the names. -/
def ascB (prev : Option Int) (x : Int) : Bool := match prev with | none => true | some p => decide (p < x)
def arOk (d : De) : Bool := decide (0 ≤ d.ar) && decide (d.ar ≤ 3)
def bodyOk (ds : List De) (d : De) : Bool := nodeIs d.op d.n d.k (firstS d.ar.toNat) && fitN (ariS ds) d.op d.n d.k
def headOk (prev : Option Int) (d : De) : Bool := inVar d.nm && arOk d && ascB prev d.nm
def okL (ds : List De) (prev : Option Int) : List De → Bool
  | [] => true
  | d :: r => (headOk prev d && bodyOk ds d) && okL ds (some d.nm) r
def libOk (ds : List De) : Bool := decide (ds.length ≤ 8) && okL ds none ds
def prevAt (ds : List De) (j : Nat) : Option Int := if j = 0 then none else (ds[j - 1]?).map (·.nm)
theorem prevAt_succ {ds : List De} {j : Nat} {d : De} (h : ds[j]? = some d) : prevAt ds (j + 1) = some d.nm := by simp [prevAt, h]
theorem okL_at {ds : List De} {j : Nat} {d : De} (h : ds[j]? = some d) : okL ds (prevAt ds j) (ds.drop j) = ((headOk (prevAt ds j) d && bodyOk ds d) && okL ds (prevAt ds (j + 1)) (ds.drop (j + 1))) := by
  rw [drop_at h, prevAt_succ h]; rfl

theorem scope_upto (r : Nat) : scopeOf (upto r) = firstS r := by
  funext i
  unfold scopeOf firstS
  rw [Bool.eq_iff_iff]
  simp only [decide_eq_true_eq, upto_mem]
  omega
theorem allVars_upto (r : Nat) (h : r ≤ 8) : allVars (upto r) = true := by
  unfold allVars
  rw [List.all_eq_true]
  intro x hx
  have := (upto_mem r x).1 hx
  exact inVar_mk this.1 (by omega)
theorem validOf_upto (op n : Int) (k : Fo) (r : Nat) (h : r ≤ 8) : validOf op n k (upto r) = nodeIs op n k (firstS r) := by
  unfold validOf
  rw [allVars_upto r h, scope_upto, Bool.true_and]
end Go.Proofs.Ytbpcggbmlaomjaa

namespace Go.Proofs.Ytbpcggbmlaomjaa
open Go.RowKit
set_option maxRecDepth 100000

/-- Each function stands under its own name, and all names are functions. -/
def Named (ds : List De) : Prop := ∀ d ∈ ds, inVar d.nm = true ∧ fnd d.nm ds = some d

theorem inVar_nat {x : Int} (h : inVar x = true) : ((x.toNat : Nat) : Int) = x ∧ x.toNat < 8 := by
  unfold inVar at h
  simp at h
  omega

theorem fnd_mem {x : Int} {ds : List De} {d : De} (h : fnd x ds = some d) : d ∈ ds ∧ d.nm = x := by
  unfold fnd at h
  have h2 := List.find?_some h
  exact ⟨List.mem_of_find?_eq_some h, by simpa using h2⟩
-- a valid library
theorem okL_named {ds : List De} : ∀ (r : List De) (p : Option Int), okL ds p r = true → ∀ d ∈ r, inVar d.nm = true ∧ bodyOk ds d = true ∧ fnd d.nm r = some d ∧ (∀ q, p = some q → q < d.nm)
  | [], _, _, d, hd => by simp at hd
  | d0 :: r, p, h, d, hd => by
    have e : okL ds p (d0 :: r) = ((headOk p d0 && bodyOk ds d0) && okL ds (some d0.nm) r) := rfl
    rw [e, Bool.and_eq_true, Bool.and_eq_true] at h
    obtain ⟨⟨h1, h2⟩, h3⟩ := h
    unfold headOk at h1
    rw [Bool.and_eq_true, Bool.and_eq_true] at h1
    obtain ⟨⟨hv, _⟩, ha⟩ := h1
    have hp : ∀ q, p = some q → q < d0.nm := by
      intro q hq
      subst hq
      exact of_decide_eq_true ha
    rcases List.mem_cons.1 hd with rfl | hd
    · exact ⟨hv, h2, by rw [fnd_cons, if_pos rfl], hp⟩
    · obtain ⟨g1, g2, g3, g4⟩ := okL_named r (some d0.nm) h3 d hd
      have hlt := g4 _ rfl
      refine ⟨g1, g2, ?_, fun q hq => by have := hp q hq; omega⟩
      rw [fnd_cons, if_neg (by omega)]
      exact g3
theorem libOk_named {ds : List De} (h : libOk ds = true) : Named ds := by
  unfold libOk at h
  rw [Bool.and_eq_true] at h
  exact fun d hd => let ⟨a, _, b, _⟩ := okL_named ds none h.2 d hd; ⟨a, b⟩
theorem libOk_body {ds : List De} (h : libOk ds = true) : ∀ d ∈ ds, fitN (ariS ds) d.op d.n d.k = true := by
  unfold libOk at h
  rw [Bool.and_eq_true] at h
  intro d hd
  obtain ⟨_, hb, _⟩ := okL_named ds none h.2 d hd
  unfold bodyOk at hb
  rw [Bool.and_eq_true] at hb
  exact hb.2
theorem libOk_len {ds : List De} (h : libOk ds = true) : ds.length ≤ 8 := by
  unfold libOk at h
  rw [Bool.and_eq_true] at h
  exact of_decide_eq_true h.1
end Go.Proofs.Ytbpcggbmlaomjaa
