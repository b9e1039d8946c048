/-
  The kinds of expressions: formOf and fits.
  One node: which kinds, numbers and operands are right; the model's l1Kids and l1Own; scopes as slices of bools; l1With.
  l1With: a copy of a scope with a variable more.
  spec.l1First: the scope of the first variables.
  l1Shape: an expression is well-formed in a scope, down to a depth.
  l1Count: the number of nodes, up to a number.
  l1Is: a node is valid in a scope; scopes of lists.
-/
import Derived.Test.YtpknegneogdmfaaGreatVars
import Derived.Test.YtpknegneogdmfaaGreatRows
import Derived.WalkKit
import Derived.WalkSpells
import Derived.WalkSmall
import Derived.Lib.Hide
import Derived.StillTailTactics
import Derived.BigQuiet
import Derived.Deep.QuietTactic
import Derived.Test.YtpknegneogdmfaaGreatFo
namespace Go.Proofs.YtpknegneogdmfaaGreat
open Go.RowKit
set_option maxRecDepth 100000

/-- What formOf hands back for the kinds that have no N: a slice of k marks in new memory. -/
def GivesPlain (k : Nat) (w : World) (e : Ending) (w' : World) : Prop :=
  ∃ a, e = .returned (.tuple #[.iface 137 (.slice a k k), .bool true]) ∧ Below w.heap.size w w'

/-- How many operands a kind without N has. -/
def plainOf (op : Int) : Nat := if op = 4 then 2 else if op = 5 then 2 else if op = 6 then 3 else if op = 8 then 2 else 1
def isPlain (op : Int) : Prop := op = 4 ∨ op = 5 ∨ op = 6 ∨ op = 8 ∨ op = 9
def isKind (op : Int) : Prop := op = 1 ∨ op = 2 ∨ op = 3 ∨ op = 7 ∨ isPlain op

theorem formOf_1 (w : World) : Calls Tryz.prog 82 #[.int .i64 1] w (Gives (.tuple #[.iface 134 (.agg #[]), .bool true]) w) := by
  go_enter Tryz.func82, Tryz.ntmps82
  go_wp2
  go_ret2
  exact ⟨rfl, Below.refl _ _⟩
theorem formOf_2 (w : World) : Calls Tryz.prog 82 #[.int .i64 2] w (Gives (.tuple #[.iface 135 (.agg #[]), .bool true]) w) := by
  go_enter Tryz.func82, Tryz.ntmps82
  go_wp2
  go_ret2
  exact ⟨rfl, Below.refl _ _⟩
theorem formOf_3 (w : World) : Calls Tryz.prog 82 #[.int .i64 3] w (Gives (.tuple #[.iface 136 (.agg #[]), .bool true]) w) := by
  go_enter Tryz.func82, Tryz.ntmps82
  go_wp2
  go_ret2
  exact ⟨rfl, Below.refl _ _⟩
theorem formOf_7 (w : World) : Calls Tryz.prog 82 #[.int .i64 7] w (Gives (.tuple #[.iface 138 (.agg #[]), .bool true]) w) := by
  go_enter Tryz.func82, Tryz.ntmps82
  go_wp2
  go_ret2
  exact ⟨rfl, Below.refl _ _⟩
theorem formOf_plain (op : Int) (h : isPlain op) (w : World) : Calls Tryz.prog 82 #[.int .i64 op] w (GivesPlain (plainOf op + 1) w) := by
  rcases h with rfl | rfl | rfl | rfl | rfl
  all_goals
    go_enter Tryz.func82, Tryz.ntmps82
    go_wp2
    go_ret2
    exact ⟨_, rfl, (Below.refl _ _).alloc (Nat.le_refl _) _⟩
theorem formOf_none (op : Int) (h : ¬ isKind op) (w : World) : Calls Tryz.prog 82 #[.int .i64 op] w (Gives (.tuple #[.nilIface, .bool false]) w) := by
  simp only [isKind, isPlain, not_or] at h
  obtain ⟨h1, h2, h3, h7, h4, h5, h6, h8, h9⟩ := h
  go_enter Tryz.func82, Tryz.ntmps82
  go_wp2
  go_ret2
  exact ⟨rfl, Below.refl _ _⟩

theorem numFits (n : Int) (A : Option Addr) (l c : Nat) (_hl : l ≤ maxLen) (op : Int) (w : World) :
    Calls Tryz.prog 118 #[.agg #[], .agg #[.int .i64 op, .int .i64 n, .slice A l c]] w (Gives (.bool (decide (0 ≤ n) && decide (n ≤ 99) && decide (l = 0))) w) := by
  unfold maxLen at _hl
  by_cases h0 : 0 ≤ n
  · by_cases h1 : n ≤ 99
    · go_enter Tryz.func118, Tryz.ntmps118
      go_wp2
      go_ret
      exact ⟨ret_bool (by rw [Bool.eq_iff_iff]; simp <;> omega), ((Below.refl _ _).alloc (Nat.le_refl _) _).alloc (by simp) _⟩
    · go_enter Tryz.func118, Tryz.ntmps118
      go_wp2
      go_ret
      exact ⟨ret_bool (by rw [Bool.eq_iff_iff]; simp <;> omega), ((Below.refl _ _).alloc (Nat.le_refl _) _).alloc (by simp) _⟩
  · go_enter Tryz.func118, Tryz.ntmps118
    go_wp2
    go_ret
    exact ⟨ret_bool (by rw [Bool.eq_iff_iff]; simp <;> omega), ((Below.refl _ _).alloc (Nat.le_refl _) _).alloc (by simp) _⟩
theorem varFits (n : Int) (A : Option Addr) (l c : Nat) (_hl : l ≤ maxLen) (op : Int) (w : World) :
    Calls Tryz.prog 120 #[.agg #[], .agg #[.int .i64 op, .int .i64 n, .slice A l c]] w (Gives (.bool (inVar n && decide (l = 0))) w) := by
  unfold maxLen at _hl
  cases hv : inVar n
  all_goals
    have HV := Lib.hid hv
    clear hv
    go_enter Tryz.func120, Tryz.ntmps120
    go_wp2_with fail
    refine (isVar_any _ _).mono ?_
    rintro e w' ⟨rfl, hb⟩
    rw [HV.out]
    have h2 := ((Row.fresh (w.alloc (Obj.cells #[] 135)) 36 #[Value.int IntKind.i64 op, Value.int IntKind.i64 n, Value.slice A l c]).below hb (by simp)).cell (i := 2) rfl
    have hb3 : Below w.heap.size w w' := (((Below.refl _ _).alloc (Nat.le_refl _) _).alloc (by simp) _).trans (hb.mono (by simp; omega))
    simp only [World.size_alloc] at h2
    clear hb
    go_wp2
    go_ret
    exact ⟨ret_bool (by rw [Bool.eq_iff_iff]; simp <;> omega), hb3⟩
theorem callFits (n : Int) (A : Option Addr) (l c : Nat) (_hl : l ≤ maxLen) (op : Int) (w : World) :
    Calls Tryz.prog 122 #[.agg #[], .agg #[.int .i64 op, .int .i64 n, .slice A l c]] w (Gives (.bool (inVar n && decide (l ≤ 3))) w) := by
  unfold maxLen at _hl
  cases hv : inVar n
  all_goals
    have HV := Lib.hid hv
    clear hv
    go_enter Tryz.func122, Tryz.ntmps122
    go_wp2_with fail
    refine (isFun_any _ _).mono ?_
    rintro e w' ⟨rfl, hb⟩
    rw [HV.out]
    have h2 := ((Row.fresh (w.alloc (Obj.cells #[] 136)) 36 #[Value.int IntKind.i64 op, Value.int IntKind.i64 n, Value.slice A l c]).below hb (by simp)).cell (i := 2) rfl
    have hb3 : Below w.heap.size w w' := (((Below.refl _ _).alloc (Nat.le_refl _) _).alloc (by simp) _).trans (hb.mono (by simp; omega))
    simp only [World.size_alloc] at h2
    clear hb
    go_wp2
    go_ret
    exact ⟨ret_bool (by rw [Bool.eq_iff_iff]; simp <;> omega), hb3⟩
theorem letFits (n : Int) (A : Option Addr) (l c : Nat) (_hl : l ≤ maxLen) (op : Int) (w : World) :
    Calls Tryz.prog 126 #[.agg #[], .agg #[.int .i64 op, .int .i64 n, .slice A l c]] w (Gives (.bool (inVar n && decide (l = 2))) w) := by
  unfold maxLen at _hl
  cases hv : inVar n
  all_goals
    have HV := Lib.hid hv
    clear hv
    go_enter Tryz.func126, Tryz.ntmps126
    go_wp2_with fail
    refine (isVar_any _ _).mono ?_
    rintro e w' ⟨rfl, hb⟩
    rw [HV.out]
    have h2 := ((Row.fresh (w.alloc (Obj.cells #[] 138)) 36 #[Value.int IntKind.i64 op, Value.int IntKind.i64 n, Value.slice A l c]).below hb (by simp)).cell (i := 2) rfl
    have hb3 : Below w.heap.size w w' := (((Below.refl _ _).alloc (Nat.le_refl _) _).alloc (by simp) _).trans (hb.mono (by simp; omega))
    simp only [World.size_alloc] at h2
    clear hb
    go_wp2
    go_ret
    exact ⟨ret_bool (by rw [Bool.eq_iff_iff]; simp <;> omega), hb3⟩
theorem plainFits (n : Int) (B : Option Addr) (k : Nat) (hk : k ≤ 10) (A : Option Addr) (l c : Nat) (_hl : l ≤ maxLen) (op : Int) (w : World) :
    Calls Tryz.prog 124 #[.slice B (k + 1) (k + 1), .agg #[.int .i64 op, .int .i64 n, .slice A l c]] w (Gives (.bool (decide (n = 0) && decide (l = k))) w) := by
  unfold maxLen at _hl
  by_cases h0 : n = 0
  · subst h0
    go_enter Tryz.func124, Tryz.ntmps124
    go_wp2
    go_ret
    exact ⟨ret_bool (by rw [Bool.eq_iff_iff]; simp <;> omega), (Below.refl _ _).alloc (Nat.le_refl _) _⟩
  · have h1 : (n == 0) = false := by simpa using h0
    go_enter Tryz.func124, Tryz.ntmps124
    go_wp2
    go_ret
    exact ⟨ret_bool (by rw [Bool.eq_iff_iff]; simp <;> omega), (Below.refl _ _).alloc (Nat.le_refl _) _⟩
end Go.Proofs.YtpknegneogdmfaaGreat

namespace Go.Proofs.YtpknegneogdmfaaGreat
open Go.RowKit
set_option maxRecDepth 100000

/-- The scope S lies in the slice of eight bools at A. -/
def LiesB (w : World) (L B : Nat) (A : Option Addr) (S : Nat → Bool) : Prop :=
  ∃ b o, A = some ⟨b, o, none⟩ ∧ L ≤ b ∧ b < B ∧ ∀ i, i < 8 → w.cell? ⟨b, o + i, none⟩ = some (.bool (S i))
theorem LiesB.keep {w w' : World} {L L' B B' : Nat} {A : Option Addr} {S : Nat → Bool} (hL : L' ≤ L) (hB : B ≤ B') (hk : ∀ p : Addr, L ≤ p.block → p.block < B → w'.cell? p = w.cell? p) (h : LiesB w L B A S) : LiesB w' L' B' A S := by
  obtain ⟨b, o, h1, h2, h3, h4⟩ := h
  exact ⟨b, o, h1, by omega, by omega, fun i hi => (hk _ h2 h3).trans (h4 i hi)⟩
theorem LiesB.below {w w' : World} {L B : Nat} {A : Option Addr} {S : Nat → Bool} (h : LiesB w L B A S) (hb : Below B w w') : LiesB w' L B A S := h.keep (Nat.le_refl _) (Nat.le_refl _) fun _ _ hp => hb.cell hp
theorem LiesB.mono_ {w : World} {L L' B B' : Nat} {A : Option Addr} {S : Nat → Bool} (h : LiesB w L B A S) (hL : L' ≤ L) (hB : B ≤ B') : LiesB w L' B' A S := h.keep hL hB fun _ _ _ => rfl

def setS (S : Nat → Bool) (v : Nat) : Nat → Bool := fun i => if i = v then true else S i

/-- The number of operands is right. -/
def kidsOk (op : Int) (l : Nat) : Bool :=
  if op = 1 ∨ op = 2 then decide (l = 0) else if op = 9 then decide (l = 1) else if op = 4 ∨ op = 5 ∨ op = 7 ∨ op = 8 then decide (l = 2) else if op = 6 then decide (l = 3) else if op = 3 then decide (l ≤ 3) else false
/-- The number of the node is right. -/
def ownOk (op n : Int) (S : Nat → Bool) : Bool :=
  if op = 1 then decide (0 ≤ n) && decide (n ≤ 99) else if op = 2 then inVar n && S n.toNat else if op = 7 ∨ op = 3 then inVar n else decide (n = 0)


theorem kinds (op : Int) : op = 1 ∨ op = 2 ∨ op = 3 ∨ op = 4 ∨ op = 5 ∨ op = 6 ∨ op = 7 ∨ op = 8 ∨ op = 9 ∨ ¬ (op = 1 ∨ op = 2 ∨ op = 3 ∨ op = 4 ∨ op = 5 ∨ op = 6 ∨ op = 7 ∨ op = 8 ∨ op = 9) := by omega

theorem l1Kids_any (op : Int) (l : Nat) (w : World) : Calls Tryz.prog 71 #[.int .i64 op, .int .i64 l] w (Gives (.bool (kidsOk op l)) w) := by
  rcases kinds op with rfl | rfl | rfl | rfl | rfl | rfl | rfl | rfl | rfl | h
  iterate 9
    · go_enter Tryz.func71, Tryz.ntmps71
      go_wp2
      go_ret
      exact ⟨ret_bool (by rw [Bool.eq_iff_iff]; simp [kidsOk] <;> omega), Below.refl _ _⟩
  · have e : kidsOk op l = false := by unfold kidsOk; repeat (rw [if_neg (by omega)])
    rw [e]
    go_enter Tryz.func71, Tryz.ntmps71
    go_wp2
    go_ret
    exact ⟨rfl, Below.refl _ _⟩

theorem l1Own_any (op n : Int) (v : Value) (A : Option Addr) (c : Nat) (S : Nat → Bool) (w : World) (hS : LiesB w 0 w.heap.size A S) :
    Calls Tryz.prog 72 #[.agg #[.int .i64 op, .int .i64 n, v], .slice A 8 c] w (Gives (.bool (ownOk op n S)) w) := by
  have hb : Below w.heap.size w (w.alloc (Obj.cells #[Value.int IntKind.i64 op, Value.int IntKind.i64 n, v] 36)) := (Below.refl _ _).alloc (Nat.le_refl _) _
  have HB := Lib.hid hb
  clear hb
  rcases kinds op with rfl | rfl | rfl | rfl | rfl | rfl | rfl | rfl | rfl | h
  case inr.inl =>
    obtain ⟨b, o, rfl, _, hbb, hc⟩ := hS
    cases hv : inVar n
    · have hn := inVar_false hv
      have HV := Lib.hid hv
      clear hv hc
      by_cases h0 : 0 ≤ n
      all_goals
        go_enter Tryz.func72, Tryz.ntmps72
        go_wp2
        go_ret
        exact ⟨ret_bool (by rw [Bool.eq_iff_iff]; simp [ownOk, HV.out] <;> omega), HB.out⟩
    · obtain ⟨h0, h1⟩ := inVar_true hv
      have HV := Lib.hid hv
      clear hv
      obtain ⟨m, rfl⟩ := Int.eq_ofNat_of_zero_le h0
      have g := (World.cell?_alloc_lt w (Obj.cells #[Value.int IntKind.i64 2, Value.int IntKind.i64 m, v] 36) ⟨b, o + m, none⟩ hbb).trans (hc m (by omega))
      clear hc
      go_enter Tryz.func72, Tryz.ntmps72
      go_wp2
      go_ret
      exact ⟨ret_bool (by simp [ownOk, HV.out]), HB.out⟩
  case inr.inr.inr.inr.inr.inr.inr.inr.inr =>
    clear hS
    have e : ownOk op n S = decide (n = 0) := by unfold ownOk; rw [if_neg (by omega), if_neg (by omega), if_neg (by omega)]
    rw [e]
    simp only [not_or] at h
    obtain ⟨h1, h2, h3, h4, h5, h6, h7, h8, h9⟩ := h
    go_enter Tryz.func72, Tryz.ntmps72
    go_wp2
    go_ret
    exact ⟨ret_bool (by rw [Bool.eq_iff_iff]; simp), HB.out⟩
  all_goals
    clear hS
    by_cases h0 : 0 ≤ n
    all_goals
      go_enter Tryz.func72, Tryz.ntmps72
      go_wp2
      go_ret
      exact ⟨ret_bool (by rw [Bool.eq_iff_iff]; simp [ownOk, inVar] <;> omega), HB.out⟩

end Go.Proofs.YtpknegneogdmfaaGreat

namespace Go.Proofs.YtpknegneogdmfaaGreat
open Go.RowKit
set_option maxRecDepth 100000

theorem add_plain (b o j : Nat) : (⟨b, o, none⟩ : Addr).add j = ⟨b, o + j, none⟩ := by unfold Addr.add; split <;> simp_all

def newsB (S : Nat → Bool) : List Value := [.bool (S 0), .bool (S 1), .bool (S 2), .bool (S 3), .bool (S 4), .bool (S 5), .bool (S 6), .bool (S 7)]
theorem newsB_at (S : Nat → Bool) (i : Nat) (hi : i < 8) : (newsB S)[i]? = some (.bool (S i)) := by
  match i, hi with
  | 0, _ | 1, _ | 2, _ | 3, _ | 4, _ | 5, _ | 6, _ | 7, _ => rfl

/-- What l1With hands back. -/
def WithPost (S : Nat → Bool) (w : World) (e : Ending) (w' : World) : Prop :=
  ∃ A' c', e = .returned (.slice A' 8 c') ∧ LiesB w' w.heap.size w'.heap.size A' S ∧ Below w.heap.size w w'

set_option maxHeartbeats 400000 in
theorem l1With_any (A : Option Addr) (c : Nat) (S : Nat → Bool) (m : Nat) (hm : m < 8) (w : World) (hS : LiesB w 0 w.heap.size A S) :
    Calls Tryz.prog 73 #[.slice A 8 c, .int .i64 m] w (WithPost (setS S m) w) := by
  obtain ⟨i, hi, hz0, hz1, hz2⟩ := info_parts (show (Tryz.prog.info? 4).map (fun i => (i.zero, i.size, i.bytes)) = some (some (.bool false), 1, 1) by kernel_rfl)
  obtain ⟨b, o, rfl, _, hbb, hc⟩ := hS
  have HC := Lib.hid hc
  clear hc
  have hown : (w.alloc (.cells #[] 4)).ownsRow w.heap.size 4 1 (.slice (some ⟨w.heap.size, 0, none⟩) 0 0) 0 [] :=
    ⟨rfl, .inr ⟨w.heap.size, 0, #[], rfl, Nat.le_refl _, heap_alloc_new _ _, Nat.le_refl _, Nat.zero_le _, rfl, rfl⟩⟩
  have HO := Lib.hid hown
  clear hown
  go_enter Tryz.func73, Tryz.ntmps73
  go_wp2_with (at_builtin; refine wpList_append_own _ rfl _ _ 41 rfl w.heap.size 4 i (.bool false) 1 1 Tryz.underlying41 hi hz0 hz1 hz2 rfl (by decide) _ _ _ rfl HO.out ⟨b, o, none⟩ 8 c (newsB S) rfl rfl ?c1 ?c2 ?c3 ?c4 ?c5 ?_)
  case c1 =>
    intro j u hj
    have hj8 : j < 8 := (List.getElem?_eq_some_iff.1 hj).1
    rw [newsB_at S j hj8] at hj
    cases hj
    rw [add_plain, World.cell?_alloc_lt _ _ _ hbb]
    exact HC.out j hj8
  case c2 => intro u hu; simp [newsB] at hu; rcases hu with rfl | rfl | rfl | rfl | rfl | rfl | rfl | rfl <;> rfl
  case c3 => unfold maxLen; omega
  case c4 => omega
  case c5 => simp
  intro v' w1 h1 h2 h3
  have hg0 : ∀ k, (Value.slice (some { block := w.heap.size, off := 0 }) 0 0).ownBlock = some k → w.heap.size ≤ k := fun k hk => by
    have : w.heap.size = k := by simpa [Value.ownBlock] using hk
    omega
  have hb1 : Below w.heap.size w w1 := ((Below.refl _ _).alloc (Nat.le_refl _) _).grown h2 (by simp) hg0
  obtain ⟨_, h1⟩ := h1
  rcases h1 with ⟨h1, _⟩ | ⟨g, cap, cur, rfl, hg, hrow0, hcap, hcm, hcs, htake⟩
  · exact absurd h1 h3
  have hrow : Row w1 g 4 cur := hrow0
  have hcur : ∀ i, i < 8 → cur[i]? = some (.bool (S i)) := fun i hi => by
    rw [← newsB_at S i hi, ← htake, List.getElem?_take_of_lt (by omega), Array.getElem?_toList]
  have q0 := hrow.cell (hcur m hm)
  have f0 := hrow.free m
  have HT := Lib.hid hcur
  have HS := Lib.hid hcs
  have HR := Lib.hid hrow0
  clear htake hcur hcs h3 h2 HO HC hrow0 hi hz0 hz1 hz2
  go_wp2
  go_ret
  have hr2 := hrow.put m (.bool true)
  refine ⟨_, _, rfl, ⟨g, 0, rfl, hg, hr2.size, fun i hi => ?_⟩, hb1.setCell hg _⟩
  rw [Nat.zero_add]
  refine hr2.cell ?_
  by_cases he : i = m
  · subst he
    rw [Array.getElem?_setIfInBounds_self_of_lt (by have := HS.out; omega)]
    simp [setS]
  · rw [Array.getElem?_setIfInBounds_ne (by omega), HT.out i hi]
    simp [setS, he]
end Go.Proofs.YtpknegneogdmfaaGreat

namespace Go.Proofs.YtpknegneogdmfaaGreat
open Go.RowKit
set_option maxRecDepth 100000

def firstS (n : Nat) : Nat → Bool := fun i => decide (i < n)
theorem madeG_run (w : World) : (Instr.makeSlice 41 (.int .i64 8) (.int .i64 8)).run Tryz.prog w = .ok (.slice (some ⟨w.heap.size, 0, Option.none⟩) 8 8) (w.alloc (.cells (cells8 fun _ => false) 4)) := by kernel_rfl

set_option maxHeartbeats 400000 in
theorem l1First_any (n : Nat) (hn : n ≤ 8) (w : World) :
    Calls Tryz.prog 42 #[.int .i64 (n : Int)] w fun e w' => ∃ A c, e = .returned (.slice A 8 c) ∧ LiesB w' w.heap.size w'.heap.size A (firstS n) ∧ Below w.heap.size w w' := by
  have hmk := madeG_run w
  go_enter Tryz.func42, Tryz.ntmps42
  go_wp2
  clear hmk
  have hr0 : Row (w.alloc (.cells (cells8 fun _ => false) 4)) w.heap.size 4 (cells8 (firstS 0)) := Row.fresh _ _ _
  go_loopw [4] (fun i wr => ∃ (j : Nat), j ≤ n ∧ i = .int .i64 j ∧ Row wr w.heap.size 4 (cells8 (firstS j)) ∧ Below w.heap.size w wr)
    (fun i _ => n - (intOf i).toNat)
  case atStart => exact ⟨0, by omega, rfl, hr0, (Below.refl _ _).alloc (Nat.le_refl _) _⟩
  case round =>
    clear hr0
    obtain ⟨j, hj, rfl, hrow, hb⟩ := hrel
    by_cases hlt : j < n
    · have h8 : j < 8 := by omega
      have q0 := hrow.cell (cells8_at (firstS j) h8)
      have f0 := hrow.free j
      have hp := hrow.put j (.bool true)
      rw [cells8_set _ h8, cells8_congr (T := firstS (j + 1)) (fun i _ => by unfold firstS; rw [Bool.eq_iff_iff]; simp; omega)] at hp
      have HP := Lib.hid hp
      have HB := Lib.hid (hb.setCell (p := ⟨w.heap.size, j, none⟩) (Nat.le_refl _) (.bool true))
      clear hp hrow hb
      go_wp2
      go_roundw
      case rel => exact ⟨j + 1, hlt, by go_num, HP.out, HB.out⟩
      case measure => simp [intOf]; omega
    · have e9 : j = n := by omega
      subst e9
      go_wp2
      go_ret
      exact ⟨_, _, rfl, ⟨_, 0, rfl, Nat.le_refl _, hrow.size, fun i hi => by rw [Nat.zero_add]; exact hrow.cell (cells8_at _ hi)⟩, hb⟩
end Go.Proofs.YtpknegneogdmfaaGreat

namespace Go.Proofs.YtpknegneogdmfaaGreat
open Go.RowKit
set_option maxRecDepth 100000

/-- The scope of the operand i of a node. -/
def inner (op n : Int) (i : Nat) (S : Nat → Bool) : Nat → Bool := if op = 7 ∧ i = 1 then setS S n.toNat else S
/-- The nodes of a list, from the operand i of a parent on, are well-formed down to the depth d. -/
def shapeF (op n : Int) : Nat → (Nat → Bool) → Nat → Fo → Bool
  | _, _, _, .nil => true
  | i, S, d, .cons o m k r =>
    (decide (1 ≤ d) && kidsOk o k.len && ownOk o m (inner op n i S) && shapeF o m 0 (inner op n i S) (d - 1) k) && shapeF op n (i + 1) S d r
/-- A node is well-formed down to the depth d. -/
def nodeShape (op n : Int) (k : Fo) (S : Nat → Bool) (d : Nat) : Bool := decide (1 ≤ d) && kidsOk op k.len && ownOk op n S && shapeF op n 0 S (d - 1) k

set_option maxHeartbeats 800000 in
theorem l1Shape_any (s : Nat) : ∀ (op n : Int) (k : Fo) (A : Option Addr) (c : Nat) (S : Nat → Bool) (SA : Option Addr) (Sc d : Nat) (w : World), k.size = s → Lies w 0 w.heap.size A 0 k → k.len ≤ maxLen → LiesB w 0 w.heap.size SA S → d ≤ 14 →
    Calls Tryz.prog 58 #[.agg #[.int .i64 op, .int .i64 n, .slice A k.len c], .slice SA 8 Sc, .int .i64 d] w (Gives (.bool (nodeShape op n k S d)) w) := by
  induction s using Nat.strongRecOn with
  | _ s ih =>
    intro op n k A c S SA Sc d w hs hl hlen hS hd
    unfold maxLen at hlen
    have hb0 : Below w.heap.size w (w.alloc (Obj.cells #[Value.int IntKind.i64 op, Value.int IntKind.i64 n, Value.slice A k.len c] 36)) := (Below.refl _ _).alloc (Nat.le_refl _) _
    have hr0 := Row.fresh w 36 #[Value.int IntKind.i64 op, Value.int IntKind.i64 n, Value.slice A k.len c]
    have hs0 : w.heap.size + 1 ≤ (w.alloc (Obj.cells #[Value.int IntKind.i64 op, Value.int IntKind.i64 n, Value.slice A k.len c] 36)).heap.size := by simp
    have KK := Lib.hid (l1Kids_any op k.len)
    have IH := Lib.hid ih
    clear ih
    match d, hd with
    | 0, _ =>
      go_enter Tryz.func58, Tryz.ntmps58
      go_wp2
      go_ret
      exact ⟨rfl, hb0⟩
    | d + 1, hd =>
      cases hk : kidsOk op k.len
      · have HK := Lib.hid hk
        clear hk hS
        go_enter Tryz.func58, Tryz.ntmps58
        go_wp2_with fail
        refine (KK.out _).mono ?_
        rintro e w2 ⟨rfl, hb2⟩
        rw [HK.out]
        have hb3 := hb0.trans (hb2.mono hb0.size)
        clear hb0 hb2 hr0
        go_wp2
        go_ret
        exact ⟨ret_bool (by simp [nodeShape, HK.out]), hb3⟩
      · have HK := Lib.hid hk
        clear hk
        cases ho : ownOk op n S
        · have HO := Lib.hid ho
          clear ho
          go_enter Tryz.func58, Tryz.ntmps58
          go_wp2_with fail
          refine (KK.out _).mono ?_
          rintro e w2 ⟨rfl, hb2⟩
          rw [HK.out]
          have hb3 := hb0.trans (hb2.mono hb0.size)
          have hr2 := hr0.below hb2 hs0
          have q0 := hr2.cell (i := 0) rfl
          have q1 := hr2.cell (i := 1) rfl
          have q2 := hr2.cell (i := 2) rfl
          have z2 : w.heap.size ≤ w2.heap.size := hb3.size
          clear hb0 hb2 hr0 hs0
          go_wp2_with fail
          refine (l1Own_any op n _ SA Sc S w2 ((hS.below hb3).mono_ (Nat.le_refl _) z2)).mono ?_
          rintro e w3 ⟨rfl, hb4⟩
          rw [HO.out]
          have hb5 := hb3.trans (hb4.mono z2)
          clear hb3 hb4 q0 q1 q2 hr2 z2
          go_wp2
          go_ret
          exact ⟨ret_bool (by simp [nodeShape, HO.out]), hb5⟩
        · have HO := Lib.hid ho
          clear ho
          go_enter Tryz.func58, Tryz.ntmps58
          go_wp2_with fail
          refine (KK.out _).mono ?_
          rintro e w2 ⟨rfl, hb2⟩
          rw [HK.out]
          have hb3 := hb0.trans (hb2.mono hb0.size)
          have hr2 := hr0.below hb2 hs0
          have q0 := hr2.cell (i := 0) rfl
          have q1 := hr2.cell (i := 1) rfl
          have q2 := hr2.cell (i := 2) rfl
          have z2 : w.heap.size + 1 ≤ w2.heap.size := Nat.le_trans hs0 hb2.size
          clear hb0 hb2 hr0 hs0
          go_wp2_with fail
          refine (l1Own_any op n _ SA Sc S w2 ((hS.below hb3).mono_ (Nat.le_refl _) (by omega))).mono ?_
          rintro e w3 ⟨rfl, hb4⟩
          rw [HO.out]
          have hb5 := hb3.trans (hb4.mono (by omega))
          have hr3 := hr2.below hb4 (by omega)
          have z3 : w.heap.size + 1 ≤ w3.heap.size := Nat.le_trans z2 hb4.size
          clear hb3 hb4 q0 q1 q2 hr2 z2
          go_wp2_with fail
          go_loopw [7] (fun i wr => ∃ j : Nat, j ≤ k.len ∧ i = .int .i64 j ∧ shapeF op n 0 S d k = shapeF op n j S d (k.drop j) ∧ Row wr w.heap.size 36 #[Value.int IntKind.i64 op, Value.int IntKind.i64 n, Value.slice A k.len c] ∧ w.heap.size + 1 ≤ wr.heap.size ∧ Below w.heap.size w wr)
            (fun i _ => k.len - (intOf i).toNat)
          case atStart => exact ⟨0, by omega, rfl, by rw [Fo.drop_zero], hr3, z3, hb5⟩
          case round =>
            clear hr3 z3 hb5
            obtain ⟨j, hj, rfl, hx, hrow, hsz, hb⟩ := hrel
            have q0 := hrow.cell (i := 0) rfl
            have q1 := hrow.cell (i := 1) rfl
            have q2 := hrow.cell (i := 2) rfl
            have HX := Lib.hid hx
            clear hx
            by_cases hlt : j < k.len
            · obtain ⟨op', n', k', e1, e2, e3⟩ := Fo.drop_of_lt k j hlt
              have hj' := (hl.below hb).at_ j
              rw [Nat.zero_add, e1] at hj'
              obtain ⟨⟨b, o, A', c', hA, _, hbb, i1, i2, g1, g2, g3, h1, h2, h3⟩, _⟩ := hj'
              have hz := HX.out
              rw [e1] at hz
              simp only [shapeF] at hz
              have HZ := Lib.hid hz
              clear HX e1 e3 hz
              subst hA
              have HL3 := Lib.hid h3
              clear h3
              by_cases hop : op = 7
              · subst hop
                by_cases hj1 : j = 1
                · have HIN := Lib.hid (show inner 7 n j S = setS S n.toNat by simp [inner, hj1])
                  have hjb : ((j : Int) == 1) = true := by simp [hj1]
                  clear hj1
                  have hn := HO.out
                  simp only [ownOk, show ¬ ((7 : Int) = 1) by decide, show ¬ ((7 : Int) = 2) by decide, if_false, true_or, if_true] at hn
                  obtain ⟨hn0, hn8⟩ := inVar_true hn
                  clear hn
                  obtain ⟨v, rfl⟩ := Int.eq_ofNat_of_zero_le hn0
                  go_wp2_with fail
                  refine (l1With_any SA Sc S v (by omega) wr ((hS.below hb).mono_ (Nat.le_refl _) (by omega))).mono ?_
                  rintro e w4 ⟨SA2, Sc2, rfl, hS2, hb4⟩
                  have hb8 := hb.trans (hb4.mono (by omega))
                  have hrow4 := hrow.below hb4 (by omega)
                  have hsz4 : w.heap.size + 1 ≤ w4.heap.size := Nat.le_trans hsz hb4.size
                  have h3' := HL3.out.below (hb4.mono (by omega))
                  clear HL3
                  have HL3 := Lib.hid h3'
                  clear h3'
                  have g1' := (hb4.cell (p := ⟨b, o + j * 3, none⟩) (show b < wr.heap.size by omega)).trans g1
                  have g2' := (hb4.cell (p := ⟨b, o + j * 3 + 1, none⟩) (show b < wr.heap.size by omega)).trans g2
                  have g3' := (hb4.cell (p := ⟨b, o + j * 3 + 2, none⟩) (show b < wr.heap.size by omega)).trans g3
                  clear q0 q1 q2 g1 g2 g3
                  have q0 := hrow4.cell (i := 0) rfl
                  have q1 := hrow4.cell (i := 1) rfl
                  have q2 := hrow4.cell (i := 2) rfl
                  have HROW := Lib.hid hrow4
                  have HSZ := Lib.hid hsz4
                  have g1 := g1'
                  have g2 := g2'
                  have g3 := g3'
                  clear g1' g2' g3'
                  simp only [Int.toNat_natCast] at HIN
                  cases hN : nodeShape op' n' k' (setS S v) d
                  all_goals
                    have HN := Lib.hid hN
                    clear hN
                    go_wp2_with fail
                    refine (IH.out k'.size (by omega) op' n' k' A' c' (setS S v) SA2 Sc2 d _ rfl (HL3.out.mono_ (Nat.le_refl _) (by omega)) (by omega) (hS2.mono_ (Nat.zero_le _) (Nat.le_refl _)) (by omega)).mono ?_
                    rintro e w5 ⟨rfl, hb6⟩
                    rw [HN.out]
                    have hb7 := hb8.trans (hb6.mono hb8.size)
                    have hrow5 := HROW.out.below hb6 (by omega)
                    have hsz5 := Nat.le_trans (show w.heap.size + 1 ≤ _ from HSZ.out) hb6.size
                    clear hb6 q0 q1 q2 g1 g2 g3
                    go_wp2
                  · go_ret
                    have hz := HZ.out
                    rw [HIN.out] at hz
                    have hn := HN.out
                    simp only [nodeShape] at hn
                    rw [hn, Bool.false_and] at hz
                    exact ⟨ret_bool (by simp [nodeShape, HK.out, HO.out, hz]), hb7⟩
                  · have hz := HZ.out
                    rw [HIN.out] at hz
                    have hn := HN.out
                    simp only [nodeShape] at hn
                    rw [hn, Bool.true_and] at hz
                    have HZ2 := Lib.hid hz
                    clear hz hn
                    go_roundw
                    case rel => exact ⟨j + 1, by omega, by go_num, HZ2.out, hrow5, hsz5, hb7⟩
                    case measure => simp [intOf]; omega
                  
                · have HIN := Lib.hid (show inner 7 n j S = S by simp [inner, hj1])
                  have hjb : ((j : Int) == 1) = false := by simp; omega
                  clear hj1
                  have HROW := Lib.hid hrow
                  have HSZ := Lib.hid hsz
                  cases hN : nodeShape op' n' k' (S) d
                  all_goals
                    have HN := Lib.hid hN
                    clear hN
                    go_wp2_with fail
                    refine (IH.out k'.size (by omega) op' n' k' A' c' (S) SA Sc d _ rfl (HL3.out.mono_ (Nat.le_refl _) (by omega)) (by omega) ((hS.below hb).mono_ (Nat.le_refl _) (by omega)) (by omega)).mono ?_
                    rintro e w5 ⟨rfl, hb6⟩
                    rw [HN.out]
                    have hb7 := hb.trans (hb6.mono hb.size)
                    have hrow5 := HROW.out.below hb6 (by omega)
                    have hsz5 := Nat.le_trans (show w.heap.size + 1 ≤ _ from HSZ.out) hb6.size
                    clear hb6 q0 q1 q2 g1 g2 g3
                    go_wp2
                  · go_ret
                    have hz := HZ.out
                    rw [HIN.out] at hz
                    have hn := HN.out
                    simp only [nodeShape] at hn
                    rw [hn, Bool.false_and] at hz
                    exact ⟨ret_bool (by simp [nodeShape, HK.out, HO.out, hz]), hb7⟩
                  · have hz := HZ.out
                    rw [HIN.out] at hz
                    have hn := HN.out
                    simp only [nodeShape] at hn
                    rw [hn, Bool.true_and] at hz
                    have HZ2 := Lib.hid hz
                    clear hz hn
                    go_roundw
                    case rel => exact ⟨j + 1, by omega, by go_num, HZ2.out, hrow5, hsz5, hb7⟩
                    case measure => simp [intOf]; omega
                  
              · have HIN := Lib.hid (show inner op n j S = S by simp [inner, hop])
                have hopb : (op == 7) = false := by simpa using hop
                clear hop
                have HROW := Lib.hid hrow
                have HSZ := Lib.hid hsz
                cases hN : nodeShape op' n' k' (S) d
                all_goals
                  have HN := Lib.hid hN
                  clear hN
                  go_wp2_with fail
                  refine (IH.out k'.size (by omega) op' n' k' A' c' (S) SA Sc d _ rfl (HL3.out.mono_ (Nat.le_refl _) (by omega)) (by omega) ((hS.below hb).mono_ (Nat.le_refl _) (by omega)) (by omega)).mono ?_
                  rintro e w5 ⟨rfl, hb6⟩
                  rw [HN.out]
                  have hb7 := hb.trans (hb6.mono hb.size)
                  have hrow5 := HROW.out.below hb6 (by omega)
                  have hsz5 := Nat.le_trans (show w.heap.size + 1 ≤ _ from HSZ.out) hb6.size
                  clear hb6 q0 q1 q2 g1 g2 g3
                  go_wp2
                · go_ret
                  have hz := HZ.out
                  rw [HIN.out] at hz
                  have hn := HN.out
                  simp only [nodeShape] at hn
                  rw [hn, Bool.false_and] at hz
                  exact ⟨ret_bool (by simp [nodeShape, HK.out, HO.out, hz]), hb7⟩
                · have hz := HZ.out
                  rw [HIN.out] at hz
                  have hn := HN.out
                  simp only [nodeShape] at hn
                  rw [hn, Bool.true_and] at hz
                  have HZ2 := Lib.hid hz
                  clear hz hn
                  go_roundw
                  case rel => exact ⟨j + 1, by omega, by go_num, HZ2.out, hrow5, hsz5, hb7⟩
                  case measure => simp [intOf]; omega
                
            · have e9 : j = k.len := by omega
              go_wp2
              go_ret
              have hz := HX.out
              rw [e9, Fo.drop_len] at hz
              exact ⟨ret_bool (by simp [nodeShape, HK.out, HO.out, hz, shapeF]), hb⟩
end Go.Proofs.YtpknegneogdmfaaGreat

namespace Go.Proofs.YtpknegneogdmfaaGreat
open Go.RowKit
set_option maxRecDepth 100000

/-- What l1Count hands back at s nodes below the root. -/
def cntOf (s most : Nat) : Nat := min (s + 1) (most + 1)

set_option maxHeartbeats 400000 in
theorem l1Count_any (s : Nat) : ∀ (op n : Int) (k : Fo) (A : Option Addr) (c : Nat) (most : Nat) (w : World), k.size = s → Lies w 0 w.heap.size A 0 k → k.len ≤ maxLen → most ≤ 80 →
    Calls Tryz.prog 59 #[.agg #[.int .i64 op, .int .i64 n, .slice A k.len c], .int .i64 most] w (Gives (.int .i64 (cntOf k.size most : Nat)) w) := by
  induction s using Nat.strongRecOn with
  | _ s ih =>
    intro op n k A c most w hs hl hlen hmost
    unfold maxLen at hlen
    have hb0 : Below w.heap.size w (w.alloc (Obj.cells #[Value.int IntKind.i64 op, Value.int IntKind.i64 n, Value.slice A k.len c] 36)) := (Below.refl _ _).alloc (Nat.le_refl _) _
    have hr0 := Row.fresh w 36 #[Value.int IntKind.i64 op, Value.int IntKind.i64 n, Value.slice A k.len c]
    have hs0 : w.heap.size + 1 ≤ (w.alloc (Obj.cells #[Value.int IntKind.i64 op, Value.int IntKind.i64 n, Value.slice A k.len c] 36)).heap.size := by simp
    go_enter Tryz.func59, Tryz.ntmps59
    go_wp2
    go_loopw [5, 6] (fun v i wr => ∃ (j x : Nat), j ≤ k.len ∧ i = .int .i64 j ∧ v = .int .i64 x ∧ x = min (1 + k.size - (k.drop j).size) (most + 1) ∧ Row wr w.heap.size 36 #[Value.int IntKind.i64 op, Value.int IntKind.i64 n, Value.slice A k.len c] ∧ w.heap.size + 1 ≤ wr.heap.size ∧ Below w.heap.size w wr)
      (fun _ i _ => k.len - (intOf i).toNat)
    case atStart => exact ⟨0, 1, by omega, rfl, rfl, by rw [Fo.drop_zero]; omega, hr0, hs0, hb0⟩
    case round =>
      clear hr0 hs0 hb0
      obtain ⟨j, x, hj, rfl, rfl, hx, hrow, hsz, hb⟩ := hrel
      have hd := Fo.drop_size_le k j
      have q2 := hrow.cell (i := 2) rfl
      have hxm : x ≤ most + 1 := by omega
      by_cases hlt : j < k.len
      · by_cases hm : x ≤ most
        · obtain ⟨op', n', k', e1, e2, e3⟩ := Fo.drop_of_lt k j hlt
          have hj' := (hl.below hb).at_ j
          rw [Nat.zero_add, e1] at hj'
          obtain ⟨⟨b, o, A', c', hA, _, hbb, i1, i2, g1, g2, g3, h1, h2, h3⟩, _⟩ := hj'
          subst hA
          have HX := Lib.hid hx
          have E3 := Lib.hid e3
          clear hx e1 e3
          have hz : ((most : Int) - x) = ((most - x : Nat) : Int) := by omega
          go_wp2_with fail
          refine (ih k'.size (by omega) op' n' k' A' c' (most - x) wr rfl (h3.mono_ (Nat.le_refl _) (by omega)) (by omega) (by omega)).mono ?_
          rintro e w2 ⟨rfl, hb2⟩
          have hrow2 := hrow.below hb2 (by omega)
          have hb3 := hb.trans (hb2.mono hb.size)
          have hsz2 : w.heap.size + 1 ≤ w2.heap.size := Nat.le_trans hsz hb2.size
          have hc1 : cntOf k'.size (most - x) ≤ 81 := by unfold cntOf; omega
          have hc2 : x + cntOf k'.size (most - x) = min (1 + k.size - (k.drop (j + 1)).size) (most + 1) := by
            have := HX.out
            have := E3.out
            unfold cntOf
            omega
          have HC := Lib.hid hc2
          clear hc2 hb hb2 hz q2 g1 g2 g3 ih hrow
          generalize cntOf k'.size (most - x) = y at *
          go_wp2
          go_roundw
          case rel => exact ⟨j + 1, x + y, by omega, by go_num, by go_num, HC.out, hrow2, hsz2, hb3⟩
          case measure => simp [intOf]; omega
        · have HX := Lib.hid hx
          clear hx
          go_wp2
          go_ret
          exact ⟨ret_int (by have := HX.out; unfold cntOf; omega), hb⟩
      · have e9 : j = k.len := by omega
        have HX := Lib.hid hx
        clear hx
        go_wp2
        go_ret
        refine ⟨ret_int ?_, hb⟩
        have := HX.out
        rw [e9, Fo.drop_len] at this
        simp only [Fo.size] at this
        unfold cntOf
        omega
end Go.Proofs.YtpknegneogdmfaaGreat

namespace Go.Proofs.YtpknegneogdmfaaGreat
open Go.RowKit
set_option maxRecDepth 100000

/-- The scope of a list of variables. -/
def scopeOf (zs : List Int) : Nat → Bool := fun i => decide ((i : Int) ∈ zs)
def allVars (zs : List Int) : Bool := zs.all inVar

theorem allVars_of_not {zs : List Int} {j : Nat} {x : Int} (h : zs[j]? = some x) (hx : inVar x = false) : allVars zs = false := by
  have hm : x ∈ zs := List.mem_of_getElem? h
  unfold allVars
  rw [List.all_eq_false]
  exact ⟨x, hm, by simp [hx]⟩

/-- A node is valid in a scope. -/
def nodeIs (op n : Int) (k : Fo) (S : Nat → Bool) : Bool := nodeShape op n k S 14 && decide (k.size + 1 ≤ 80)

theorem l1Is_any (op n : Int) (k : Fo) (A : Option Addr) (c : Nat) (S : Nat → Bool) (SA : Option Addr) (Sc : Nat) (w : World) (hl : Lies w 0 w.heap.size A 0 k) (hlen : k.len ≤ maxLen) (hS : LiesB w 0 w.heap.size SA S) :
    Calls Tryz.prog 41 #[.agg #[.int .i64 op, .int .i64 n, .slice A k.len c], .slice SA 8 Sc] w (Gives (.bool (nodeIs op n k S)) w) := by
  have hb0 : Below w.heap.size w (w.alloc (Obj.cells #[Value.int IntKind.i64 op, Value.int IntKind.i64 n, Value.slice A k.len c] 36)) := (Below.refl _ _).alloc (Nat.le_refl _) _
  have hr0 := Row.fresh w 36 #[Value.int IntKind.i64 op, Value.int IntKind.i64 n, Value.slice A k.len c]
  have hs0 : w.heap.size + 1 ≤ (w.alloc (Obj.cells #[Value.int IntKind.i64 op, Value.int IntKind.i64 n, Value.slice A k.len c] 36)).heap.size := by simp
  have C1 := Lib.hid (fun w2 h1 h2 h3 => l1Shape_any k.size op n k A c S SA Sc 14 w2 rfl h1 h2 h3 (by decide))
  have C2 := Lib.hid (fun w2 h1 h2 => l1Count_any k.size op n k A c 80 w2 rfl h1 h2 (by decide))
  cases hN : nodeShape op n k S 14
  all_goals
    have HN := Lib.hid hN
    clear hN
    go_enter Tryz.func41, Tryz.ntmps41
    go_wp2_with fail
    refine (C1.out _ ((hl.below hb0).mono_ (Nat.le_refl _) hb0.size) hlen ((hS.below hb0).mono_ (Nat.le_refl _) hb0.size)).mono ?_
    rintro e w2 ⟨rfl, hb2⟩
    rw [HN.out]
    have hb3 := hb0.trans (hb2.mono hb0.size)
  · clear hb0 hb2
    go_wp2
    go_ret
    exact ⟨ret_bool (by simp [nodeIs, HN.out]), hb3⟩
  · have hr2 := hr0.below hb2 hs0
    have q0 := hr2.cell (i := 0) rfl
    have q1 := hr2.cell (i := 1) rfl
    have q2 := hr2.cell (i := 2) rfl
    have z2 : w.heap.size ≤ w2.heap.size := hb3.size
    clear hb0 hb2 hr0 hs0
    go_wp2_with fail
    refine (C2.out _ ((hl.below hb3).mono_ (Nat.le_refl _) z2) hlen).mono ?_
    rintro e w3 ⟨rfl, hb4⟩
    have hb5 := hb3.trans (hb4.mono z2)
    clear hb3 hb4 q0 q1 q2 hr2 z2
    have hc : cntOf k.size 80 = min (k.size + 1) 81 := rfl
    have HC := Lib.hid hc
    clear hc
    generalize cntOf k.size 80 = y at *
    go_wp2
    go_ret
    exact ⟨ret_bool (by have := HC.out; rw [Bool.eq_iff_iff]; simp [nodeIs, HN.out]; omega), hb5⟩

/-- An expression is valid with a list of variables as scope. -/
def validOf (op n : Int) (k : Fo) (zs : List Int) : Bool := allVars zs && nodeIs op n k (scopeOf zs)
end Go.Proofs.YtpknegneogdmfaaGreat
