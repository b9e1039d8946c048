/-
  One node: which kinds, numbers and operands are right; the model's l1Kids and l1Own; scopes as slices of bools; l1With.
  l1With: a copy of a scope with a variable more.
  spec.l1First: the scope of the first variables.
-/
import Derived.Test.YtbpcggbmlaomjaaLeaf
import Derived.Test.YtbpcggbmlaomjaaFlags
namespace Go.Proofs.Ytbpcggbmlaomjaa
open Go.RowKit
set_option maxRecDepth 100000

/-- The scope S lies in the slice of eight bools at A. -/
def LiesB (w : World) (L B : Nat) (A : Option Addr) (S : Nat → Bool) : Prop :=
  ∃ b o, A = some ⟨b, o, none⟩ ∧ L ≤ b ∧ b < B ∧ ∀ i, i < 8 → w.cell? ⟨b, o + i, none⟩ = some (.bool (S i))
theorem LiesB.keep {w w' : World} {L L' B B' : Nat} {A : Option Addr} {S : Nat → Bool} (hL : L' ≤ L) (hB : B ≤ B') (hk : ∀ p : Addr, L ≤ p.block → p.block < B → w'.cell? p = w.cell? p) (h : LiesB w L B A S) : LiesB w' L' B' A S := by
  obtain ⟨b, o, h1, h2, h3, h4⟩ := h
  exact ⟨b, o, h1, by omega, by omega, fun i hi => (hk _ h2 h3).trans (h4 i hi)⟩
theorem LiesB.below {w w' : World} {L B : Nat} {A : Option Addr} {S : Nat → Bool} (h : LiesB w L B A S) (hb : Below B w w') : LiesB w' L B A S := h.keep (Nat.le_refl _) (Nat.le_refl _) fun _ _ hp => hb.cell hp
theorem LiesB.mono_ {w : World} {L L' B B' : Nat} {A : Option Addr} {S : Nat → Bool} (h : LiesB w L B A S) (hL : L' ≤ L) (hB : B ≤ B') : LiesB w L' B' A S := h.keep hL hB fun _ _ _ => rfl

def setS (S : Nat → Bool) (v : Nat) : Nat → Bool := fun i => if i = v then true else S i

/-- The number of operands is right. -/
def kidsOk (op : Int) (l : Nat) : Bool :=
  if op = 1 ∨ op = 2 then decide (l = 0) else if op = 9 then decide (l = 1) else if op = 4 ∨ op = 5 ∨ op = 7 ∨ op = 8 then decide (l = 2) else if op = 6 then decide (l = 3) else if op = 3 then decide (l ≤ 3) else false
/-- The number of the node is right. -/
def ownOk (op n : Int) (S : Nat → Bool) : Bool :=
  if op = 1 then decide (0 ≤ n) && decide (n ≤ 99) else if op = 2 then inVar n && S n.toNat else if op = 7 ∨ op = 3 then inVar n else decide (n = 0)


theorem kinds (op : Int) : op = 1 ∨ op = 2 ∨ op = 3 ∨ op = 4 ∨ op = 5 ∨ op = 6 ∨ op = 7 ∨ op = 8 ∨ op = 9 ∨ ¬ (op = 1 ∨ op = 2 ∨ op = 3 ∨ op = 4 ∨ op = 5 ∨ op = 6 ∨ op = 7 ∨ op = 8 ∨ op = 9) := by omega

theorem l1Kids_any (op : Int) (l : Nat) (w : World) : Calls Try.prog 95 #[.int .i64 op, .int .i64 l] w (Gives (.bool (kidsOk op l)) w) := by
  rcases kinds op with rfl | rfl | rfl | rfl | rfl | rfl | rfl | rfl | rfl | h
  iterate 9
    · go_enter Try.func95, Try.ntmps95
      go_wp2
      go_ret
      exact ⟨ret_bool (by rw [Bool.eq_iff_iff]; simp [kidsOk] <;> omega), Below.refl _ _⟩
  · have e : kidsOk op l = false := by unfold kidsOk; repeat (rw [if_neg (by omega)])
    rw [e]
    go_enter Try.func95, Try.ntmps95
    go_wp2
    go_ret
    exact ⟨rfl, Below.refl _ _⟩

theorem l1Own_any (op n : Int) (v : Value) (A : Option Addr) (c : Nat) (S : Nat → Bool) (w : World) (hS : LiesB w 0 w.heap.size A S) :
    Calls Try.prog 96 #[.agg #[.int .i64 op, .int .i64 n, v], .slice A 8 c] w (Gives (.bool (ownOk op n S)) w) := by
  have hb : Below w.heap.size w (w.alloc (Obj.cells #[Value.int IntKind.i64 op, Value.int IntKind.i64 n, v] 40)) := (Below.refl _ _).alloc (Nat.le_refl _) _
  have HB := Lib.hid hb
  clear hb
  rcases kinds op with rfl | rfl | rfl | rfl | rfl | rfl | rfl | rfl | rfl | h
  case inr.inl =>
    obtain ⟨b, o, rfl, _, hbb, hc⟩ := hS
    cases hv : inVar n
    · have hn := inVar_false hv
      have HV := Lib.hid hv
      clear hv hc
      by_cases h0 : 0 ≤ n
      all_goals
        go_enter Try.func96, Try.ntmps96
        go_wp2
        go_ret
        exact ⟨ret_bool (by rw [Bool.eq_iff_iff]; simp [ownOk, HV.out] <;> omega), HB.out⟩
    · obtain ⟨h0, h1⟩ := inVar_true hv
      have HV := Lib.hid hv
      clear hv
      obtain ⟨m, rfl⟩ := Int.eq_ofNat_of_zero_le h0
      have g := (World.cell?_alloc_lt w (Obj.cells #[Value.int IntKind.i64 2, Value.int IntKind.i64 m, v] 40) ⟨b, o + m, none⟩ hbb).trans (hc m (by omega))
      clear hc
      go_enter Try.func96, Try.ntmps96
      go_wp2
      go_ret
      exact ⟨ret_bool (by simp [ownOk, HV.out]), HB.out⟩
  case inr.inr.inr.inr.inr.inr.inr.inr.inr =>
    clear hS
    have e : ownOk op n S = decide (n = 0) := by unfold ownOk; rw [if_neg (by omega), if_neg (by omega), if_neg (by omega)]
    rw [e]
    simp only [not_or] at h
    obtain ⟨h1, h2, h3, h4, h5, h6, h7, h8, h9⟩ := h
    go_enter Try.func96, Try.ntmps96
    go_wp2
    go_ret
    exact ⟨ret_bool (by rw [Bool.eq_iff_iff]; simp), HB.out⟩
  all_goals
    clear hS
    by_cases h0 : 0 ≤ n
    all_goals
      go_enter Try.func96, Try.ntmps96
      go_wp2
      go_ret
      exact ⟨ret_bool (by rw [Bool.eq_iff_iff]; simp [ownOk, inVar] <;> omega), HB.out⟩

end Go.Proofs.Ytbpcggbmlaomjaa

namespace Go.Proofs.Ytbpcggbmlaomjaa
open Go.RowKit
set_option maxRecDepth 100000

theorem add_plain (b o j : Nat) : (⟨b, o, none⟩ : Addr).add j = ⟨b, o + j, none⟩ := by unfold Addr.add; split <;> simp_all

def newsB (S : Nat → Bool) : List Value := [.bool (S 0), .bool (S 1), .bool (S 2), .bool (S 3), .bool (S 4), .bool (S 5), .bool (S 6), .bool (S 7)]
theorem newsB_at (S : Nat → Bool) (i : Nat) (hi : i < 8) : (newsB S)[i]? = some (.bool (S i)) := by
  match i, hi with
  | 0, _ | 1, _ | 2, _ | 3, _ | 4, _ | 5, _ | 6, _ | 7, _ => rfl

/-- What l1With hands back. -/
def WithPost (S : Nat → Bool) (w : World) (e : Ending) (w' : World) : Prop :=
  ∃ A' c', e = .returned (.slice A' 8 c') ∧ LiesB w' w.heap.size w'.heap.size A' S ∧ Below w.heap.size w w'

set_option maxHeartbeats 400000 in
theorem l1With_any (A : Option Addr) (c : Nat) (S : Nat → Bool) (m : Nat) (hm : m < 8) (w : World) (hS : LiesB w 0 w.heap.size A S) :
    Calls Try.prog 97 #[.slice A 8 c, .int .i64 m] w (WithPost (setS S m) w) := by
  obtain ⟨i, hi, hz0, hz1, hz2⟩ := info_parts (show (Try.prog.info? 4).map (fun i => (i.zero, i.size, i.bytes)) = some (some (.bool false), 1, 1) by kernel_rfl)
  obtain ⟨b, o, rfl, _, hbb, hc⟩ := hS
  have HC := Lib.hid hc
  clear hc
  have hown : (w.alloc (.cells #[] 4)).ownsRow w.heap.size 4 1 (.slice (some ⟨w.heap.size, 0, none⟩) 0 0) 0 [] :=
    ⟨rfl, .inr ⟨w.heap.size, 0, #[], rfl, Nat.le_refl _, heap_alloc_new _ _, Nat.le_refl _, Nat.zero_le _, rfl, rfl⟩⟩
  have HO := Lib.hid hown
  clear hown
  go_enter Try.func97, Try.ntmps97
  go_wp2_with (at_builtin; refine wpList_append_own _ rfl _ _ 67 rfl w.heap.size 4 i (.bool false) 1 1 Try.underlying67 hi hz0 hz1 hz2 rfl (by decide) _ _ _ rfl HO.out ⟨b, o, none⟩ 8 c (newsB S) rfl rfl ?c1 ?c2 ?c3 ?c4 ?c5 ?_)
  case c1 =>
    intro j u hj
    have hj8 : j < 8 := (List.getElem?_eq_some_iff.1 hj).1
    rw [newsB_at S j hj8] at hj
    cases hj
    rw [add_plain, World.cell?_alloc_lt _ _ _ hbb]
    exact HC.out j hj8
  case c2 => intro u hu; simp [newsB] at hu; rcases hu with rfl | rfl | rfl | rfl | rfl | rfl | rfl | rfl <;> rfl
  case c3 => unfold maxLen; omega
  case c4 => omega
  case c5 => simp
  intro v' w1 h1 h2 h3
  have hg0 : ∀ k, (Value.slice (some { block := w.heap.size, off := 0 }) 0 0).ownBlock = some k → w.heap.size ≤ k := fun k hk => by
    have : w.heap.size = k := by simpa [Value.ownBlock] using hk
    omega
  have hb1 : Below w.heap.size w w1 := ((Below.refl _ _).alloc (Nat.le_refl _) _).grown h2 (by simp) hg0
  obtain ⟨_, h1⟩ := h1
  rcases h1 with ⟨h1, _⟩ | ⟨g, cap, cur, rfl, hg, hrow0, hcap, hcm, hcs, htake⟩
  · exact absurd h1 h3
  have hrow : Row w1 g 4 cur := hrow0
  have hcur : ∀ i, i < 8 → cur[i]? = some (.bool (S i)) := fun i hi => by
    rw [← newsB_at S i hi, ← htake, List.getElem?_take_of_lt (by omega), Array.getElem?_toList]
  have q0 := hrow.cell (hcur m hm)
  have f0 := hrow.free m
  have HT := Lib.hid hcur
  have HS := Lib.hid hcs
  have HR := Lib.hid hrow0
  clear htake hcur hcs h3 h2 HO HC hrow0 hi hz0 hz1 hz2
  go_wp2
  go_ret
  have hr2 := hrow.put m (.bool true)
  refine ⟨_, _, rfl, ⟨g, 0, rfl, hg, hr2.size, fun i hi => ?_⟩, hb1.setCell hg _⟩
  rw [Nat.zero_add]
  refine hr2.cell ?_
  by_cases he : i = m
  · subst he
    rw [Array.getElem?_setIfInBounds_self_of_lt (by have := HS.out; omega)]
    simp [setS]
  · rw [Array.getElem?_setIfInBounds_ne (by omega), HT.out i hi]
    simp [setS, he]
end Go.Proofs.Ytbpcggbmlaomjaa

namespace Go.Proofs.Ytbpcggbmlaomjaa
open Go.RowKit
set_option maxRecDepth 100000

def firstS (n : Nat) : Nat → Bool := fun i => decide (i < n)
theorem madeG_run (w : World) : (Instr.makeSlice 67 (.int .i64 8) (.int .i64 8)).run Try.prog w = .ok (.slice (some ⟨w.heap.size, 0, Option.none⟩) 8 8) (w.alloc (.cells (cells8 fun _ => false) 4)) := by kernel_rfl

set_option maxHeartbeats 400000 in
theorem l1First_any (n : Nat) (hn : n ≤ 8) (w : World) :
    Calls Try.prog 61 #[.int .i64 (n : Int)] w fun e w' => ∃ A c, e = .returned (.slice A 8 c) ∧ LiesB w' w.heap.size w'.heap.size A (firstS n) ∧ Below w.heap.size w w' := by
  have hmk := madeG_run w
  go_enter Try.func61, Try.ntmps61
  go_wp2
  clear hmk
  have hr0 : Row (w.alloc (.cells (cells8 fun _ => false) 4)) w.heap.size 4 (cells8 (firstS 0)) := Row.fresh _ _ _
  go_loopw [4] (fun i wr => ∃ (j : Nat), j ≤ n ∧ i = .int .i64 j ∧ Row wr w.heap.size 4 (cells8 (firstS j)) ∧ Below w.heap.size w wr)
    (fun i _ => n - (intOf i).toNat)
  case atStart => exact ⟨0, by omega, rfl, hr0, (Below.refl _ _).alloc (Nat.le_refl _) _⟩
  case round =>
    clear hr0
    obtain ⟨j, hj, rfl, hrow, hb⟩ := hrel
    by_cases hlt : j < n
    · have h8 : j < 8 := by omega
      have q0 := hrow.cell (cells8_at (firstS j) h8)
      have f0 := hrow.free j
      have hp := hrow.put j (.bool true)
      rw [cells8_set _ h8, cells8_congr (T := firstS (j + 1)) (fun i _ => by unfold firstS; rw [Bool.eq_iff_iff]; simp; omega)] at hp
      have HP := Lib.hid hp
      have HB := Lib.hid (hb.setCell (p := ⟨w.heap.size, j, none⟩) (Nat.le_refl _) (.bool true))
      clear hp hrow hb
      go_wp2
      go_roundw
      case rel => exact ⟨j + 1, hlt, by go_num, HP.out, HB.out⟩
      case measure => simp [intOf]; omega
    · have e9 : j = n := by omega
      subst e9
      go_wp2
      go_ret
      exact ⟨_, _, rfl, ⟨_, 0, rfl, Nat.le_refl _, hrow.size, fun i hi => by rw [Nat.zero_add]; exact hrow.cell (cells8_at _ hi)⟩, hb⟩
end Go.Proofs.Ytbpcggbmlaomjaa
