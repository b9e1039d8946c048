/-
  The kinds of expressions: formOf and fits.
  One node: which kinds, numbers and operands are right; the model's l1Kids and l1Own; scopes as slices of bools; l1With.
  l1With: a copy of a scope with a variable more.
  spec.l1First: the scope of the first variables.
  l1Shape: an expression is well-formed in a scope, down to a depth.
  l1Count: the number of nodes, up to a number.
  l1Is: a node is valid in a scope; scopes of lists.
-/
import Derived.Test.YtgcopdalhdpbmaaVars
import Derived.Test.YtgcopdalhdpbmaaRows
import Derived.WalkKit
import Derived.WalkSpells
import Derived.WalkSmall
import Derived.Lib.Hide
import Derived.StillTailTactics
import Derived.BigQuiet
import Derived.Deep.QuietTactic
import Derived.Test.YtgcopdalhdpbmaaFo
namespace Go.Proofs.Ytgcopdalhdpbmaa
open Go.RowKit
set_option maxRecDepth 100000

/-- What formOf hands back for the kinds that have no N: a slice of k marks in new memory. -/
def GivesPlain (k : Nat) (w : World) (e : Ending) (w' : World) : Prop :=
  ∃ a, e = .returned (.tuple #[.iface 84 (.slice a k k), .bool true]) ∧ Below w.heap.size w w'

/-- How many operands a kind without N has. -/
def plainOf (op : Int) : Nat := if op = 4 then 2 else if op = 5 then 2 else if op = 6 then 3 else if op = 8 then 2 else 1
def isPlain (op : Int) : Prop := op = 4 ∨ op = 5 ∨ op = 6 ∨ op = 8 ∨ op = 9
def isKind (op : Int) : Prop := op = 1 ∨ op = 2 ∨ op = 3 ∨ op = 7 ∨ isPlain op

theorem formOf_1 (w : World) : Calls Try.prog 41 #[.int .i64 1] w (Gives (.tuple #[.iface 80 (.agg #[]), .bool true]) w) := by
  go_enter Try.func41, Try.ntmps41
  go_wp2
  go_ret2
  exact ⟨rfl, Below.refl _ _⟩
theorem formOf_2 (w : World) : Calls Try.prog 41 #[.int .i64 2] w (Gives (.tuple #[.iface 81 (.agg #[]), .bool true]) w) := by
  go_enter Try.func41, Try.ntmps41
  go_wp2
  go_ret2
  exact ⟨rfl, Below.refl _ _⟩
theorem formOf_3 (w : World) : Calls Try.prog 41 #[.int .i64 3] w (Gives (.tuple #[.iface 82 (.agg #[]), .bool true]) w) := by
  go_enter Try.func41, Try.ntmps41
  go_wp2
  go_ret2
  exact ⟨rfl, Below.refl _ _⟩
theorem formOf_7 (w : World) : Calls Try.prog 41 #[.int .i64 7] w (Gives (.tuple #[.iface 85 (.agg #[]), .bool true]) w) := by
  go_enter Try.func41, Try.ntmps41
  go_wp2
  go_ret2
  exact ⟨rfl, Below.refl _ _⟩
theorem formOf_plain (op : Int) (h : isPlain op) (w : World) : Calls Try.prog 41 #[.int .i64 op] w (GivesPlain (plainOf op + 1) w) := by
  rcases h with rfl | rfl | rfl | rfl | rfl
  all_goals
    go_enter Try.func41, Try.ntmps41
    go_wp2
    go_ret2
    exact ⟨_, rfl, (Below.refl _ _).alloc (Nat.le_refl _) _⟩
theorem formOf_none (op : Int) (h : ¬ isKind op) (w : World) : Calls Try.prog 41 #[.int .i64 op] w (Gives (.tuple #[.nilIface, .bool false]) w) := by
  simp only [isKind, isPlain, not_or] at h
  obtain ⟨h1, h2, h3, h7, h4, h5, h6, h8, h9⟩ := h
  go_enter Try.func41, Try.ntmps41
  go_wp2
  go_ret2
  exact ⟨rfl, Below.refl _ _⟩

theorem numFits (n : Int) (A : Option Addr) (l c : Nat) (_hl : l ≤ maxLen) (op : Int) (w : World) :
    Calls Try.prog 68 #[.agg #[], .agg #[.int .i64 op, .int .i64 n, .slice A l c]] w (Gives (.bool (decide (0 ≤ n) && decide (n ≤ 99) && decide (l = 0))) w) := by
  unfold maxLen at _hl
  by_cases h0 : 0 ≤ n
  · by_cases h1 : n ≤ 99
    · go_enter Try.func68, Try.ntmps68
      go_wp2
      go_ret
      exact ⟨ret_bool (by rw [Bool.eq_iff_iff]; simp <;> omega), ((Below.refl _ _).alloc (Nat.le_refl _) _).alloc (by simp) _⟩
    · go_enter Try.func68, Try.ntmps68
      go_wp2
      go_ret
      exact ⟨ret_bool (by rw [Bool.eq_iff_iff]; simp <;> omega), ((Below.refl _ _).alloc (Nat.le_refl _) _).alloc (by simp) _⟩
  · go_enter Try.func68, Try.ntmps68
    go_wp2
    go_ret
    exact ⟨ret_bool (by rw [Bool.eq_iff_iff]; simp <;> omega), ((Below.refl _ _).alloc (Nat.le_refl _) _).alloc (by simp) _⟩
theorem varFits (n : Int) (A : Option Addr) (l c : Nat) (_hl : l ≤ maxLen) (op : Int) (w : World) :
    Calls Try.prog 70 #[.agg #[], .agg #[.int .i64 op, .int .i64 n, .slice A l c]] w (Gives (.bool (inVar n && decide (l = 0))) w) := by
  unfold maxLen at _hl
  cases hv : inVar n
  all_goals
    have HV := Lib.hid hv
    clear hv
    go_enter Try.func70, Try.ntmps70
    go_wp2_with fail
    refine (isVar_any _ _).mono ?_
    rintro e w' ⟨rfl, hb⟩
    rw [HV.out]
    have h2 := ((Row.fresh (w.alloc (Obj.cells #[] 81)) 25 #[Value.int IntKind.i64 op, Value.int IntKind.i64 n, Value.slice A l c]).below hb (by simp)).cell (i := 2) rfl
    have hb3 : Below w.heap.size w w' := (((Below.refl _ _).alloc (Nat.le_refl _) _).alloc (by simp) _).trans (hb.mono (by simp; omega))
    simp only [World.size_alloc] at h2
    clear hb
    go_wp2
    go_ret
    exact ⟨ret_bool (by rw [Bool.eq_iff_iff]; simp <;> omega), hb3⟩
theorem callFits (n : Int) (A : Option Addr) (l c : Nat) (_hl : l ≤ maxLen) (op : Int) (w : World) :
    Calls Try.prog 72 #[.agg #[], .agg #[.int .i64 op, .int .i64 n, .slice A l c]] w (Gives (.bool (inVar n && decide (l ≤ 3))) w) := by
  unfold maxLen at _hl
  cases hv : inVar n
  all_goals
    have HV := Lib.hid hv
    clear hv
    go_enter Try.func72, Try.ntmps72
    go_wp2_with fail
    refine (isFun_any _ _).mono ?_
    rintro e w' ⟨rfl, hb⟩
    rw [HV.out]
    have h2 := ((Row.fresh (w.alloc (Obj.cells #[] 82)) 25 #[Value.int IntKind.i64 op, Value.int IntKind.i64 n, Value.slice A l c]).below hb (by simp)).cell (i := 2) rfl
    have hb3 : Below w.heap.size w w' := (((Below.refl _ _).alloc (Nat.le_refl _) _).alloc (by simp) _).trans (hb.mono (by simp; omega))
    simp only [World.size_alloc] at h2
    clear hb
    go_wp2
    go_ret
    exact ⟨ret_bool (by rw [Bool.eq_iff_iff]; simp <;> omega), hb3⟩
theorem letFits (n : Int) (A : Option Addr) (l c : Nat) (_hl : l ≤ maxLen) (op : Int) (w : World) :
    Calls Try.prog 76 #[.agg #[], .agg #[.int .i64 op, .int .i64 n, .slice A l c]] w (Gives (.bool (inVar n && decide (l = 2))) w) := by
  unfold maxLen at _hl
  cases hv : inVar n
  all_goals
    have HV := Lib.hid hv
    clear hv
    go_enter Try.func76, Try.ntmps76
    go_wp2_with fail
    refine (isVar_any _ _).mono ?_
    rintro e w' ⟨rfl, hb⟩
    rw [HV.out]
    have h2 := ((Row.fresh (w.alloc (Obj.cells #[] 85)) 25 #[Value.int IntKind.i64 op, Value.int IntKind.i64 n, Value.slice A l c]).below hb (by simp)).cell (i := 2) rfl
    have hb3 : Below w.heap.size w w' := (((Below.refl _ _).alloc (Nat.le_refl _) _).alloc (by simp) _).trans (hb.mono (by simp; omega))
    simp only [World.size_alloc] at h2
    clear hb
    go_wp2
    go_ret
    exact ⟨ret_bool (by rw [Bool.eq_iff_iff]; simp <;> omega), hb3⟩
theorem plainFits (n : Int) (B : Option Addr) (k : Nat) (hk : k ≤ 10) (A : Option Addr) (l c : Nat) (_hl : l ≤ maxLen) (op : Int) (w : World) :
    Calls Try.prog 74 #[.slice B (k + 1) (k + 1), .agg #[.int .i64 op, .int .i64 n, .slice A l c]] w (Gives (.bool (decide (n = 0) && decide (l = k))) w) := by
  unfold maxLen at _hl
  by_cases h0 : n = 0
  · subst h0
    go_enter Try.func74, Try.ntmps74
    go_wp2
    go_ret
    exact ⟨ret_bool (by rw [Bool.eq_iff_iff]; simp <;> omega), (Below.refl _ _).alloc (Nat.le_refl _) _⟩
  · have h1 : (n == 0) = false := by simpa using h0
    go_enter Try.func74, Try.ntmps74
    go_wp2
    go_ret
    exact ⟨ret_bool (by rw [Bool.eq_iff_iff]; simp <;> omega), (Below.refl _ _).alloc (Nat.le_refl _) _⟩
end Go.Proofs.Ytgcopdalhdpbmaa

namespace Go.Proofs.Ytgcopdalhdpbmaa
open Go.RowKit
set_option maxRecDepth 100000

/-- The scope S lies in the slice of eight bools at A. -/
def LiesB (w : World) (L B : Nat) (A : Option Addr) (S : Nat → Bool) : Prop :=
  ∃ b o, A = some ⟨b, o, none⟩ ∧ L ≤ b ∧ b < B ∧ ∀ i, i < 8 → w.cell? ⟨b, o + i, none⟩ = some (.bool (S i))
theorem LiesB.keep {w w' : World} {L L' B B' : Nat} {A : Option Addr} {S : Nat → Bool} (hL : L' ≤ L) (hB : B ≤ B') (hk : ∀ p : Addr, L ≤ p.block → p.block < B → w'.cell? p = w.cell? p) (h : LiesB w L B A S) : LiesB w' L' B' A S := by
  obtain ⟨b, o, h1, h2, h3, h4⟩ := h
  exact ⟨b, o, h1, by omega, by omega, fun i hi => (hk _ h2 h3).trans (h4 i hi)⟩
theorem LiesB.below {w w' : World} {L B : Nat} {A : Option Addr} {S : Nat → Bool} (h : LiesB w L B A S) (hb : Below B w w') : LiesB w' L B A S := h.keep (Nat.le_refl _) (Nat.le_refl _) fun _ _ hp => hb.cell hp
theorem LiesB.mono_ {w : World} {L L' B B' : Nat} {A : Option Addr} {S : Nat → Bool} (h : LiesB w L B A S) (hL : L' ≤ L) (hB : B ≤ B') : LiesB w L' B' A S := h.keep hL hB fun _ _ _ => rfl

def setS (S : Nat → Bool) (v : Nat) : Nat → Bool := fun i => if i = v then true else S i

/-- The number of operands is right. -/
def kidsOk (op : Int) (l : Nat) : Bool :=
  if op = 1 ∨ op = 2 then decide (l = 0) else if op = 9 then decide (l = 1) else if op = 4 ∨ op = 5 ∨ op = 7 ∨ op = 8 then decide (l = 2) else if op = 6 then decide (l = 3) else if op = 3 then decide (l ≤ 3) else false
/-- The number of the node is right. -/
def ownOk (op n : Int) (S : Nat → Bool) : Bool :=
  if op = 1 then decide (0 ≤ n) && decide (n ≤ 99) else if op = 2 then inVar n && S n.toNat else if op = 7 ∨ op = 3 then inVar n else decide (n = 0)


theorem kinds (op : Int) : op = 1 ∨ op = 2 ∨ op = 3 ∨ op = 4 ∨ op = 5 ∨ op = 6 ∨ op = 7 ∨ op = 8 ∨ op = 9 ∨ ¬ (op = 1 ∨ op = 2 ∨ op = 3 ∨ op = 4 ∨ op = 5 ∨ op = 6 ∨ op = 7 ∨ op = 8 ∨ op = 9) := by omega

end Go.Proofs.Ytgcopdalhdpbmaa

namespace Go.Proofs.Ytgcopdalhdpbmaa
open Go.RowKit
set_option maxRecDepth 100000

theorem add_plain (b o j : Nat) : (⟨b, o, none⟩ : Addr).add j = ⟨b, o + j, none⟩ := by unfold Addr.add; split <;> simp_all

def newsB (S : Nat → Bool) : List Value := [.bool (S 0), .bool (S 1), .bool (S 2), .bool (S 3), .bool (S 4), .bool (S 5), .bool (S 6), .bool (S 7)]
theorem newsB_at (S : Nat → Bool) (i : Nat) (hi : i < 8) : (newsB S)[i]? = some (.bool (S i)) := by
  match i, hi with
  | 0, _ | 1, _ | 2, _ | 3, _ | 4, _ | 5, _ | 6, _ | 7, _ => rfl

/-- What l1With hands back. -/
def WithPost (S : Nat → Bool) (w : World) (e : Ending) (w' : World) : Prop :=
  ∃ A' c', e = .returned (.slice A' 8 c') ∧ LiesB w' w.heap.size w'.heap.size A' S ∧ Below w.heap.size w w'

end Go.Proofs.Ytgcopdalhdpbmaa

namespace Go.Proofs.Ytgcopdalhdpbmaa
open Go.RowKit
set_option maxRecDepth 100000

def firstS (n : Nat) : Nat → Bool := fun i => decide (i < n)
end Go.Proofs.Ytgcopdalhdpbmaa

namespace Go.Proofs.Ytgcopdalhdpbmaa
open Go.RowKit
set_option maxRecDepth 100000

/-- The scope of the operand i of a node. -/
def inner (op n : Int) (i : Nat) (S : Nat → Bool) : Nat → Bool := if op = 7 ∧ i = 1 then setS S n.toNat else S
/-- The nodes of a list, from the operand i of a parent on, are well-formed down to the depth d. -/
def shapeF (op n : Int) : Nat → (Nat → Bool) → Nat → Fo → Bool
  | _, _, _, .nil => true
  | i, S, d, .cons o m k r =>
    (decide (1 ≤ d) && kidsOk o k.len && ownOk o m (inner op n i S) && shapeF o m 0 (inner op n i S) (d - 1) k) && shapeF op n (i + 1) S d r
/-- A node is well-formed down to the depth d. -/
def nodeShape (op n : Int) (k : Fo) (S : Nat → Bool) (d : Nat) : Bool := decide (1 ≤ d) && kidsOk op k.len && ownOk op n S && shapeF op n 0 S (d - 1) k

end Go.Proofs.Ytgcopdalhdpbmaa

namespace Go.Proofs.Ytgcopdalhdpbmaa
open Go.RowKit
set_option maxRecDepth 100000

/-- What l1Count hands back at s nodes below the root. -/
def cntOf (s most : Nat) : Nat := min (s + 1) (most + 1)

end Go.Proofs.Ytgcopdalhdpbmaa

namespace Go.Proofs.Ytgcopdalhdpbmaa
open Go.RowKit
set_option maxRecDepth 100000

/-- The scope of a list of variables. -/
def scopeOf (zs : List Int) : Nat → Bool := fun i => decide ((i : Int) ∈ zs)
def allVars (zs : List Int) : Bool := zs.all inVar

theorem allVars_of_not {zs : List Int} {j : Nat} {x : Int} (h : zs[j]? = some x) (hx : inVar x = false) : allVars zs = false := by
  have hm : x ∈ zs := List.mem_of_getElem? h
  unfold allVars
  rw [List.all_eq_false]
  exact ⟨x, hm, by simp [hx]⟩

/-- A node is valid in a scope. -/
def nodeIs (op n : Int) (k : Fo) (S : Nat → Bool) : Bool := nodeShape op n k S 14 && decide (k.size + 1 ≤ 80)

/-- An expression is valid with a list of variables as scope. -/
def validOf (op n : Int) (k : Fo) (zs : List Int) : Bool := allVars zs && nodeIs op n k (scopeOf zs)
end Go.Proofs.Ytgcopdalhdpbmaa
