/-
  l1Is: a node is valid in a scope; scopes of lists.
-/
import Derived.Test.YtbpcggbmlaomjaaShape
import Derived.Test.YtbpcggbmlaomjaaCount
namespace Go.Proofs.Ytbpcggbmlaomjaa
open Go.RowKit
set_option maxRecDepth 100000

/-- The scope of a list of variables. -/
def scopeOf (zs : List Int) : Nat → Bool := fun i => decide ((i : Int) ∈ zs)
def allVars (zs : List Int) : Bool := zs.all inVar

theorem allVars_of_not {zs : List Int} {j : Nat} {x : Int} (h : zs[j]? = some x) (hx : inVar x = false) : allVars zs = false := by
  have hm : x ∈ zs := List.mem_of_getElem? h
  unfold allVars
  rw [List.all_eq_false]
  exact ⟨x, hm, by simp [hx]⟩

/-- A node is valid in a scope. -/
def nodeIs (op n : Int) (k : Fo) (S : Nat → Bool) : Bool := nodeShape op n k S 14 && decide (k.size + 1 ≤ 80)

theorem l1Is_any (op n : Int) (k : Fo) (A : Option Addr) (c : Nat) (S : Nat → Bool) (SA : Option Addr) (Sc : Nat) (w : World) (hl : Lies w 0 w.heap.size A 0 k) (hlen : k.len ≤ maxLen) (hS : LiesB w 0 w.heap.size SA S) :
    Calls Try.prog 60 #[.agg #[.int .i64 op, .int .i64 n, .slice A k.len c], .slice SA 8 Sc] w (Gives (.bool (nodeIs op n k S)) w) := by
  have hb0 : Below w.heap.size w (w.alloc (Obj.cells #[Value.int IntKind.i64 op, Value.int IntKind.i64 n, Value.slice A k.len c] 40)) := (Below.refl _ _).alloc (Nat.le_refl _) _
  have hr0 := Row.fresh w 40 #[Value.int IntKind.i64 op, Value.int IntKind.i64 n, Value.slice A k.len c]
  have hs0 : w.heap.size + 1 ≤ (w.alloc (Obj.cells #[Value.int IntKind.i64 op, Value.int IntKind.i64 n, Value.slice A k.len c] 40)).heap.size := by simp
  have C1 := Lib.hid (fun w2 h1 h2 h3 => l1Shape_any k.size op n k A c S SA Sc 14 w2 rfl h1 h2 h3 (by decide))
  have C2 := Lib.hid (fun w2 h1 h2 => l1Count_any k.size op n k A c 80 w2 rfl h1 h2 (by decide))
  cases hN : nodeShape op n k S 14
  all_goals
    have HN := Lib.hid hN
    clear hN
    go_enter Try.func60, Try.ntmps60
    go_wp2_with fail
    refine (C1.out _ ((hl.below hb0).mono_ (Nat.le_refl _) hb0.size) hlen ((hS.below hb0).mono_ (Nat.le_refl _) hb0.size)).mono ?_
    rintro e w2 ⟨rfl, hb2⟩
    rw [HN.out]
    have hb3 := hb0.trans (hb2.mono hb0.size)
  · clear hb0 hb2
    go_wp2
    go_ret
    exact ⟨ret_bool (by simp [nodeIs, HN.out]), hb3⟩
  · have hr2 := hr0.below hb2 hs0
    have q0 := hr2.cell (i := 0) rfl
    have q1 := hr2.cell (i := 1) rfl
    have q2 := hr2.cell (i := 2) rfl
    have z2 : w.heap.size ≤ w2.heap.size := hb3.size
    clear hb0 hb2 hr0 hs0
    go_wp2_with fail
    refine (C2.out _ ((hl.below hb3).mono_ (Nat.le_refl _) z2) hlen).mono ?_
    rintro e w3 ⟨rfl, hb4⟩
    have hb5 := hb3.trans (hb4.mono z2)
    clear hb3 hb4 q0 q1 q2 hr2 z2
    have hc : cntOf k.size 80 = min (k.size + 1) 81 := rfl
    have HC := Lib.hid hc
    clear hc
    generalize cntOf k.size 80 = y at *
    go_wp2
    go_ret
    exact ⟨ret_bool (by have := HC.out; rw [Bool.eq_iff_iff]; simp [nodeIs, HN.out]; omega), hb5⟩

/-- An expression is valid with a list of variables as scope. -/
def validOf (op n : Int) (k : Fo) (zs : List Int) : Bool := allVars zs && nodeIs op n k (scopeOf zs)
end Go.Proofs.Ytbpcggbmlaomjaa
