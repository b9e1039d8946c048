/-
  The kinds of expressions: formOf and fits.
-/
import Derived.Test.YtbpcggbmlaomjaaVars
import Derived.Test.YtbpcggbmlaomjaaRows
import Derived.WalkKit
import Derived.WalkSpells
import Derived.WalkSmall
import Derived.Lib.Hide
import Derived.StillTailTactics
import Derived.BigQuiet
import Derived.Deep.QuietTactic
namespace Go.Proofs.Ytbpcggbmlaomjaa
open Go.RowKit
set_option maxRecDepth 100000

/-- What formOf hands back for the kinds that have no N: a slice of k marks in new memory. -/
def GivesPlain (k : Nat) (w : World) (e : Ending) (w' : World) : Prop :=
  ∃ a, e = .returned (.tuple #[.iface 123 (.slice a k k), .bool true]) ∧ Below w.heap.size w w'

/-- How many operands a kind without N has. -/
def plainOf (op : Int) : Nat := if op = 4 then 2 else if op = 5 then 2 else if op = 6 then 3 else if op = 8 then 2 else 1
def isPlain (op : Int) : Prop := op = 4 ∨ op = 5 ∨ op = 6 ∨ op = 8 ∨ op = 9
def isKind (op : Int) : Prop := op = 1 ∨ op = 2 ∨ op = 3 ∨ op = 7 ∨ isPlain op

theorem formOf_1 (w : World) : Calls Try.prog 101 #[.int .i64 1] w (Gives (.tuple #[.iface 119 (.agg #[]), .bool true]) w) := by
  go_enter Try.func101, Try.ntmps101
  go_wp2
  go_ret2
  exact ⟨rfl, Below.refl _ _⟩
theorem formOf_2 (w : World) : Calls Try.prog 101 #[.int .i64 2] w (Gives (.tuple #[.iface 120 (.agg #[]), .bool true]) w) := by
  go_enter Try.func101, Try.ntmps101
  go_wp2
  go_ret2
  exact ⟨rfl, Below.refl _ _⟩
theorem formOf_3 (w : World) : Calls Try.prog 101 #[.int .i64 3] w (Gives (.tuple #[.iface 121 (.agg #[]), .bool true]) w) := by
  go_enter Try.func101, Try.ntmps101
  go_wp2
  go_ret2
  exact ⟨rfl, Below.refl _ _⟩
theorem formOf_7 (w : World) : Calls Try.prog 101 #[.int .i64 7] w (Gives (.tuple #[.iface 124 (.agg #[]), .bool true]) w) := by
  go_enter Try.func101, Try.ntmps101
  go_wp2
  go_ret2
  exact ⟨rfl, Below.refl _ _⟩
theorem formOf_plain (op : Int) (h : isPlain op) (w : World) : Calls Try.prog 101 #[.int .i64 op] w (GivesPlain (plainOf op + 1) w) := by
  rcases h with rfl | rfl | rfl | rfl | rfl
  all_goals
    go_enter Try.func101, Try.ntmps101
    go_wp2
    go_ret2
    exact ⟨_, rfl, (Below.refl _ _).alloc (Nat.le_refl _) _⟩
theorem formOf_none (op : Int) (h : ¬ isKind op) (w : World) : Calls Try.prog 101 #[.int .i64 op] w (Gives (.tuple #[.nilIface, .bool false]) w) := by
  simp only [isKind, isPlain, not_or] at h
  obtain ⟨h1, h2, h3, h7, h4, h5, h6, h8, h9⟩ := h
  go_enter Try.func101, Try.ntmps101
  go_wp2
  go_ret2
  exact ⟨rfl, Below.refl _ _⟩

theorem numFits (n : Int) (A : Option Addr) (l c : Nat) (_hl : l ≤ maxLen) (op : Int) (w : World) :
    Calls Try.prog 118 #[.agg #[], .agg #[.int .i64 op, .int .i64 n, .slice A l c]] w (Gives (.bool (decide (0 ≤ n) && decide (n ≤ 99) && decide (l = 0))) w) := by
  unfold maxLen at _hl
  by_cases h0 : 0 ≤ n
  · by_cases h1 : n ≤ 99
    · go_enter Try.func118, Try.ntmps118
      go_wp2
      go_ret
      exact ⟨ret_bool (by rw [Bool.eq_iff_iff]; simp <;> omega), ((Below.refl _ _).alloc (Nat.le_refl _) _).alloc (by simp) _⟩
    · go_enter Try.func118, Try.ntmps118
      go_wp2
      go_ret
      exact ⟨ret_bool (by rw [Bool.eq_iff_iff]; simp <;> omega), ((Below.refl _ _).alloc (Nat.le_refl _) _).alloc (by simp) _⟩
  · go_enter Try.func118, Try.ntmps118
    go_wp2
    go_ret
    exact ⟨ret_bool (by rw [Bool.eq_iff_iff]; simp <;> omega), ((Below.refl _ _).alloc (Nat.le_refl _) _).alloc (by simp) _⟩
theorem varFits (n : Int) (A : Option Addr) (l c : Nat) (_hl : l ≤ maxLen) (op : Int) (w : World) :
    Calls Try.prog 120 #[.agg #[], .agg #[.int .i64 op, .int .i64 n, .slice A l c]] w (Gives (.bool (inVar n && decide (l = 0))) w) := by
  unfold maxLen at _hl
  cases hv : inVar n
  all_goals
    have HV := Lib.hid hv
    clear hv
    go_enter Try.func120, Try.ntmps120
    go_wp2_with fail
    refine (isVar_any _ _).mono ?_
    rintro e w' ⟨rfl, hb⟩
    rw [HV.out]
    have h2 := ((Row.fresh (w.alloc (Obj.cells #[] 120)) 40 #[Value.int IntKind.i64 op, Value.int IntKind.i64 n, Value.slice A l c]).below hb (by simp)).cell (i := 2) rfl
    have hb3 : Below w.heap.size w w' := (((Below.refl _ _).alloc (Nat.le_refl _) _).alloc (by simp) _).trans (hb.mono (by simp; omega))
    simp only [World.size_alloc] at h2
    clear hb
    go_wp2
    go_ret
    exact ⟨ret_bool (by rw [Bool.eq_iff_iff]; simp <;> omega), hb3⟩
theorem callFits (n : Int) (A : Option Addr) (l c : Nat) (_hl : l ≤ maxLen) (op : Int) (w : World) :
    Calls Try.prog 122 #[.agg #[], .agg #[.int .i64 op, .int .i64 n, .slice A l c]] w (Gives (.bool (inVar n && decide (l ≤ 3))) w) := by
  unfold maxLen at _hl
  cases hv : inVar n
  all_goals
    have HV := Lib.hid hv
    clear hv
    go_enter Try.func122, Try.ntmps122
    go_wp2_with fail
    refine (isFun_any _ _).mono ?_
    rintro e w' ⟨rfl, hb⟩
    rw [HV.out]
    have h2 := ((Row.fresh (w.alloc (Obj.cells #[] 121)) 40 #[Value.int IntKind.i64 op, Value.int IntKind.i64 n, Value.slice A l c]).below hb (by simp)).cell (i := 2) rfl
    have hb3 : Below w.heap.size w w' := (((Below.refl _ _).alloc (Nat.le_refl _) _).alloc (by simp) _).trans (hb.mono (by simp; omega))
    simp only [World.size_alloc] at h2
    clear hb
    go_wp2
    go_ret
    exact ⟨ret_bool (by rw [Bool.eq_iff_iff]; simp <;> omega), hb3⟩
theorem letFits (n : Int) (A : Option Addr) (l c : Nat) (_hl : l ≤ maxLen) (op : Int) (w : World) :
    Calls Try.prog 126 #[.agg #[], .agg #[.int .i64 op, .int .i64 n, .slice A l c]] w (Gives (.bool (inVar n && decide (l = 2))) w) := by
  unfold maxLen at _hl
  cases hv : inVar n
  all_goals
    have HV := Lib.hid hv
    clear hv
    go_enter Try.func126, Try.ntmps126
    go_wp2_with fail
    refine (isVar_any _ _).mono ?_
    rintro e w' ⟨rfl, hb⟩
    rw [HV.out]
    have h2 := ((Row.fresh (w.alloc (Obj.cells #[] 124)) 40 #[Value.int IntKind.i64 op, Value.int IntKind.i64 n, Value.slice A l c]).below hb (by simp)).cell (i := 2) rfl
    have hb3 : Below w.heap.size w w' := (((Below.refl _ _).alloc (Nat.le_refl _) _).alloc (by simp) _).trans (hb.mono (by simp; omega))
    simp only [World.size_alloc] at h2
    clear hb
    go_wp2
    go_ret
    exact ⟨ret_bool (by rw [Bool.eq_iff_iff]; simp <;> omega), hb3⟩
theorem plainFits (n : Int) (B : Option Addr) (k : Nat) (hk : k ≤ 10) (A : Option Addr) (l c : Nat) (_hl : l ≤ maxLen) (op : Int) (w : World) :
    Calls Try.prog 124 #[.slice B (k + 1) (k + 1), .agg #[.int .i64 op, .int .i64 n, .slice A l c]] w (Gives (.bool (decide (n = 0) && decide (l = k))) w) := by
  unfold maxLen at _hl
  by_cases h0 : n = 0
  · subst h0
    go_enter Try.func124, Try.ntmps124
    go_wp2
    go_ret
    exact ⟨ret_bool (by rw [Bool.eq_iff_iff]; simp <;> omega), (Below.refl _ _).alloc (Nat.le_refl _) _⟩
  · have h1 : (n == 0) = false := by simpa using h0
    go_enter Try.func124, Try.ntmps124
    go_wp2
    go_ret
    exact ⟨ret_bool (by rw [Bool.eq_iff_iff]; simp <;> omega), (Below.refl _ _).alloc (Nat.le_refl _) _⟩
end Go.Proofs.Ytbpcggbmlaomjaa
