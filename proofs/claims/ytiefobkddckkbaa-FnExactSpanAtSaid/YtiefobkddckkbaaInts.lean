/-
  Slices of int: toIntS.
-/
import Derived.Test.YtiefobkddckkbaaIntsM
import Derived.Test.YtiefobkddckkbaaMk
import Derived.Test.YtiefobkddckkbaaRows
import Derived.WalkKit
import Derived.WalkSpells
import Derived.Lib.Hide
import Derived.StillTailTactics
import Derived.BigQuiet
import Derived.Deep.QuietTactic
import Derived.WalkSmall
namespace Go.Proofs.Ytiefobkddckkbaa
open Go.RowKit
set_option maxRecDepth 100000

/-- The post of toIntS: a new slice of the same numbers. -/
def ToInts (zs : List Int) (w : World) (e : Ending) (w' : World) : Prop :=
  ∃ A c, e = .returned (.slice A zs.length c) ∧ zs.length ≤ c ∧ c ≤ maxLen ∧ LiesI w' w.heap.size w'.heap.size A zs ∧ Below w.heap.size w w'

def madeI (n : Nat) : Array Value := madeCells #[Value.int IntKind.i64 0] (n * 1)
theorem madeI_run (n : Nat) (hn : n ≤ 3518437208883) (w : World) : (Instr.makeSlice 25 (.int .i64 (n : Int)) (.int .i64 (n : Int))).run Try.prog w = .ok (.slice (some ⟨w.heap.size, 0, Option.none⟩) n n) (w.alloc (.cells (madeI n) 3)) := by
  obtain ⟨i, hi, hz0, hz1, hz2⟩ := info_parts (show (Try.prog.info? 3).map (fun i => (i.zero, i.size, i.bytes)) = some (some (.int .i64 0), 1, 8) by kernel_rfl)
  have h := run_make (P := Try.prog) w 25 3 i _ Try.underlying25 hi hz0 .i64 .i64 (n : Int) (n : Int) (by omega) (by omega) (by rw [hz2]; omega) (by omega)
  rw [Int.toNat_natCast, hz1] at h
  exact h

theorem Held.mk {L B : Nat} {w w' : World} {g : Nat} {A : Option Addr} {n : Nat} {ok : Nat → Value → Prop} (h : Held w g A n ok) (hm : MkS L B w w') (hg : g < L ∨ B ≤ g) : Held w' g A n ok := by
  rcases h with rfl | ⟨h1, t, cs, h2, h3⟩
  · exact .inl rfl
  · exact .inr ⟨h1, t, cs, hm.row h2 hg, h3⟩

/-- The same, and the slice is a row of its own. -/
def ToIntsH (zs : List Int) (w : World) (e : Ending) (w' : World) : Prop :=
  ∃ A c, e = .returned (.slice A zs.length c) ∧ zs.length ≤ c ∧ c ≤ maxLen ∧ LiesI w' w.heap.size w'.heap.size A zs ∧ Held w' w.heap.size A zs.length (fun _ _ => True) ∧ w.heap.size + 1 ≤ w'.heap.size ∧ Below w.heap.size w w'

set_option maxHeartbeats 400000 in
theorem toIntS_held (zs : List Int) (A : Option Addr) (c : Nat) (w : World) (hl : LiesI w 0 w.heap.size A zs) (hsz : zs.length ≤ 1048576) :
    Calls Try.prog 9 #[.slice A zs.length c] w (ToIntsH zs w) := by
  have hmk := madeI_run zs.length (by omega)
  go_enter Try.func9, Try.ntmps9
  go_wp2
  clear hmk
  go_loopw [4] (fun i wr => ∃ (j : Nat) (cs : Array Value), j ≤ zs.length ∧ i = .int .i64 j ∧ Row wr w.heap.size 3 cs ∧ cs.size = zs.length ∧ (∀ i x, i < j → zs[i]? = some x → cs[i]? = some (.int .i64 x)) ∧ Below w.heap.size w wr)
    (fun i _ => zs.length - (intOf i).toNat)
  case atStart => exact ⟨0, _, by omega, rfl, Row.fresh _ _ _, by simp [madeI, size_madeCells], fun i x h => absurd h (by omega), (Below.refl _ _).alloc (Nat.le_refl _) _⟩
  case round =>
    obtain ⟨j, cs, hj, rfl, hrow, hcs, hall, hb⟩ := hrel
    by_cases hlt : j < zs.length
    · have e1 := List.getElem?_eq_getElem hlt
      generalize zs[j] = x at e1
      obtain ⟨b, o, hA, _, hbb, ix, g1⟩ := hl.below hb j x e1
      subst hA
      have hz := hrow.size
      obtain ⟨v0, p0⟩ : ∃ v, cs[j]? = some v := ⟨_, Array.getElem?_eq_getElem (by omega)⟩
      have q0 := hrow.cell p0
      have f0 := hrow.free j
      have H := Lib.hid (show cs.size = zs.length from hcs)
      have E1 := Lib.hid e1
      have HA := Lib.hid hall
      clear p0 hcs e1 hall
      go_wp2
      refine ⟨⟨j + 1, _, by omega, by go_num, hrow.put j _, by rw [Array.size_setIfInBounds]; exact H.out, ?_, hb.setCell (Nat.le_refl _) _⟩, by simp [intOf]; omega⟩
      intro i y hi hy
      by_cases hij : i = j
      · subst hij
        rw [E1.out] at hy
        cases hy
        exact Array.getElem?_setIfInBounds_self_of_lt (by rw [H.out]; omega)
      · rw [Array.getElem?_setIfInBounds_ne (by omega)]
        exact HA.out i y (by omega) hy
    · have e9 : zs.length = j := by omega
      go_wp2
      go_ret
      refine ⟨_, _, rfl, Nat.le_refl _, by unfold maxLen; omega, ?_, .inr ⟨rfl, _, cs, hrow, by omega, fun _ _ _ _ => trivial⟩, hrow.size, hb⟩
      intro i x hx
      have hi : i < zs.length := (List.getElem?_eq_some_iff.1 hx).1
      obtain ⟨b, o, _, _, _, ix, _⟩ := hl i x hx
      exact ⟨_, 0, rfl, Nat.le_refl _, hrow.size, ix, by rw [Nat.zero_add]; exact hrow.cell (hall i x (by omega) hx)⟩
theorem toIntS_any (zs : List Int) (A : Option Addr) (c : Nat) (w : World) (hl : LiesI w 0 w.heap.size A zs) (hsz : zs.length ≤ 1048576) :
    Calls Try.prog 9 #[.slice A zs.length c] w (ToInts zs w) :=
  (toIntS_held zs A c w hl hsz).mono fun _ _ ⟨A', c', h1, h2, h3, h4, _, _, h5⟩ => ⟨A', c', h1, h2, h3, h4, h5⟩
end Go.Proofs.Ytiefobkddckkbaa
