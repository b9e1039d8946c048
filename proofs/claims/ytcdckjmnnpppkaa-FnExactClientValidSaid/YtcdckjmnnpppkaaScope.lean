/-
  One node: which kinds, numbers and operands are right; the model's l1Kids and l1Own; scopes as slices of bools; l1With.
-/
import Derived.Test.YtcdckjmnnpppkaaLeaf
namespace Go.Proofs.Ytcdckjmnnpppkaa
open Go.RowKit
set_option maxRecDepth 100000

/-- The scope S lies in the slice of eight bools at A. -/
def LiesB (w : World) (L B : Nat) (A : Option Addr) (S : Nat → Bool) : Prop :=
  ∃ b o, A = some ⟨b, o, none⟩ ∧ L ≤ b ∧ b < B ∧ ∀ i, i < 8 → w.cell? ⟨b, o + i, none⟩ = some (.bool (S i))
theorem LiesB.keep {w w' : World} {L L' B B' : Nat} {A : Option Addr} {S : Nat → Bool} (hL : L' ≤ L) (hB : B ≤ B') (hk : ∀ p : Addr, L ≤ p.block → p.block < B → w'.cell? p = w.cell? p) (h : LiesB w L B A S) : LiesB w' L' B' A S := by
  obtain ⟨b, o, h1, h2, h3, h4⟩ := h
  exact ⟨b, o, h1, by omega, by omega, fun i hi => (hk _ h2 h3).trans (h4 i hi)⟩
theorem LiesB.below {w w' : World} {L B : Nat} {A : Option Addr} {S : Nat → Bool} (h : LiesB w L B A S) (hb : Below B w w') : LiesB w' L B A S := h.keep (Nat.le_refl _) (Nat.le_refl _) fun _ _ hp => hb.cell hp
theorem LiesB.mono_ {w : World} {L L' B B' : Nat} {A : Option Addr} {S : Nat → Bool} (h : LiesB w L B A S) (hL : L' ≤ L) (hB : B ≤ B') : LiesB w L' B' A S := h.keep hL hB fun _ _ _ => rfl

def setS (S : Nat → Bool) (v : Nat) : Nat → Bool := fun i => if i = v then true else S i

/-- The number of operands is right. -/
def kidsOk (op : Int) (l : Nat) : Bool :=
  if op = 1 ∨ op = 2 then decide (l = 0) else if op = 9 then decide (l = 1) else if op = 4 ∨ op = 5 ∨ op = 7 ∨ op = 8 then decide (l = 2) else if op = 6 then decide (l = 3) else if op = 3 then decide (l ≤ 3) else false
/-- The number of the node is right. -/
def ownOk (op n : Int) (S : Nat → Bool) : Bool :=
  if op = 1 then decide (0 ≤ n) && decide (n ≤ 99) else if op = 2 then inVar n && S n.toNat else if op = 7 ∨ op = 3 then inVar n else decide (n = 0)


theorem kinds (op : Int) : op = 1 ∨ op = 2 ∨ op = 3 ∨ op = 4 ∨ op = 5 ∨ op = 6 ∨ op = 7 ∨ op = 8 ∨ op = 9 ∨ ¬ (op = 1 ∨ op = 2 ∨ op = 3 ∨ op = 4 ∨ op = 5 ∨ op = 6 ∨ op = 7 ∨ op = 8 ∨ op = 9) := by omega

theorem l1Kids_any (op : Int) (l : Nat) (w : World) : Calls Try.prog 64 #[.int .i64 op, .int .i64 l] w (Gives (.bool (kidsOk op l)) w) := by
  rcases kinds op with rfl | rfl | rfl | rfl | rfl | rfl | rfl | rfl | rfl | h
  iterate 9
    · go_enter Try.func64, Try.ntmps64
      go_wp2
      go_ret
      exact ⟨ret_bool (by rw [Bool.eq_iff_iff]; simp [kidsOk] <;> omega), Below.refl _ _⟩
  · have e : kidsOk op l = false := by unfold kidsOk; repeat (rw [if_neg (by omega)])
    rw [e]
    go_enter Try.func64, Try.ntmps64
    go_wp2
    go_ret
    exact ⟨rfl, Below.refl _ _⟩

theorem l1Own_any (op n : Int) (v : Value) (A : Option Addr) (c : Nat) (S : Nat → Bool) (w : World) (hS : LiesB w 0 w.heap.size A S) :
    Calls Try.prog 65 #[.agg #[.int .i64 op, .int .i64 n, v], .slice A 8 c] w (Gives (.bool (ownOk op n S)) w) := by
  have hb : Below w.heap.size w (w.alloc (Obj.cells #[Value.int IntKind.i64 op, Value.int IntKind.i64 n, v] 36)) := (Below.refl _ _).alloc (Nat.le_refl _) _
  have HB := Lib.hid hb
  clear hb
  rcases kinds op with rfl | rfl | rfl | rfl | rfl | rfl | rfl | rfl | rfl | h
  case inr.inl =>
    obtain ⟨b, o, rfl, _, hbb, hc⟩ := hS
    cases hv : inVar n
    · have hn := inVar_false hv
      have HV := Lib.hid hv
      clear hv hc
      by_cases h0 : 0 ≤ n
      all_goals
        go_enter Try.func65, Try.ntmps65
        go_wp2
        go_ret
        exact ⟨ret_bool (by rw [Bool.eq_iff_iff]; simp [ownOk, HV.out] <;> omega), HB.out⟩
    · obtain ⟨h0, h1⟩ := inVar_true hv
      have HV := Lib.hid hv
      clear hv
      obtain ⟨m, rfl⟩ := Int.eq_ofNat_of_zero_le h0
      have g := (World.cell?_alloc_lt w (Obj.cells #[Value.int IntKind.i64 2, Value.int IntKind.i64 m, v] 36) ⟨b, o + m, none⟩ hbb).trans (hc m (by omega))
      clear hc
      go_enter Try.func65, Try.ntmps65
      go_wp2
      go_ret
      exact ⟨ret_bool (by simp [ownOk, HV.out]), HB.out⟩
  case inr.inr.inr.inr.inr.inr.inr.inr.inr =>
    clear hS
    have e : ownOk op n S = decide (n = 0) := by unfold ownOk; rw [if_neg (by omega), if_neg (by omega), if_neg (by omega)]
    rw [e]
    simp only [not_or] at h
    obtain ⟨h1, h2, h3, h4, h5, h6, h7, h8, h9⟩ := h
    go_enter Try.func65, Try.ntmps65
    go_wp2
    go_ret
    exact ⟨ret_bool (by rw [Bool.eq_iff_iff]; simp), HB.out⟩
  all_goals
    clear hS
    by_cases h0 : 0 ≤ n
    all_goals
      go_enter Try.func65, Try.ntmps65
      go_wp2
      go_ret
      exact ⟨ret_bool (by rw [Bool.eq_iff_iff]; simp [ownOk, inVar] <;> omega), HB.out⟩

end Go.Proofs.Ytcdckjmnnpppkaa
