/-
  l1With: a copy of a scope with a variable more.
-/
import Derived.Test.YtcdckjmnnpppkaaScope
namespace Go.Proofs.Ytcdckjmnnpppkaa
open Go.RowKit
set_option maxRecDepth 100000

theorem add_plain (b o j : Nat) : (⟨b, o, none⟩ : Addr).add j = ⟨b, o + j, none⟩ := by unfold Addr.add; split <;> simp_all

def newsB (S : Nat → Bool) : List Value := [.bool (S 0), .bool (S 1), .bool (S 2), .bool (S 3), .bool (S 4), .bool (S 5), .bool (S 6), .bool (S 7)]
theorem newsB_at (S : Nat → Bool) (i : Nat) (hi : i < 8) : (newsB S)[i]? = some (.bool (S i)) := by
  match i, hi with
  | 0, _ | 1, _ | 2, _ | 3, _ | 4, _ | 5, _ | 6, _ | 7, _ => rfl

/-- What l1With hands back. -/
def WithPost (S : Nat → Bool) (w : World) (e : Ending) (w' : World) : Prop :=
  ∃ A' c', e = .returned (.slice A' 8 c') ∧ LiesB w' w.heap.size w'.heap.size A' S ∧ Below w.heap.size w w'

set_option maxHeartbeats 400000 in
theorem l1With_any (A : Option Addr) (c : Nat) (S : Nat → Bool) (m : Nat) (hm : m < 8) (w : World) (hS : LiesB w 0 w.heap.size A S) :
    Calls Try.prog 66 #[.slice A 8 c, .int .i64 m] w (WithPost (setS S m) w) := by
  obtain ⟨i, hi, hz0, hz1, hz2⟩ := info_parts (show (Try.prog.info? 4).map (fun i => (i.zero, i.size, i.bytes)) = some (some (.bool false), 1, 1) by kernel_rfl)
  obtain ⟨b, o, rfl, _, hbb, hc⟩ := hS
  have HC := Lib.hid hc
  clear hc
  have hown : (w.alloc (.cells #[] 4)).ownsRow w.heap.size 4 1 (.slice (some ⟨w.heap.size, 0, none⟩) 0 0) 0 [] :=
    ⟨rfl, .inr ⟨w.heap.size, 0, #[], rfl, Nat.le_refl _, heap_alloc_new _ _, Nat.le_refl _, Nat.zero_le _, rfl, rfl⟩⟩
  have HO := Lib.hid hown
  clear hown
  go_enter Try.func66, Try.ntmps66
  go_wp2_with (at_builtin; refine wpList_append_own _ rfl _ _ 52 rfl w.heap.size 4 i (.bool false) 1 1 Try.underlying52 hi hz0 hz1 hz2 rfl (by decide) _ _ _ rfl HO.out ⟨b, o, none⟩ 8 c (newsB S) rfl rfl ?c1 ?c2 ?c3 ?c4 ?c5 ?_)
  case c1 =>
    intro j u hj
    have hj8 : j < 8 := (List.getElem?_eq_some_iff.1 hj).1
    rw [newsB_at S j hj8] at hj
    cases hj
    rw [add_plain, World.cell?_alloc_lt _ _ _ hbb]
    exact HC.out j hj8
  case c2 => intro u hu; simp [newsB] at hu; rcases hu with rfl | rfl | rfl | rfl | rfl | rfl | rfl | rfl <;> rfl
  case c3 => unfold maxLen; omega
  case c4 => omega
  case c5 => simp
  intro v' w1 h1 h2 h3
  have hg0 : ∀ k, (Value.slice (some { block := w.heap.size, off := 0 }) 0 0).ownBlock = some k → w.heap.size ≤ k := fun k hk => by
    have : w.heap.size = k := by simpa [Value.ownBlock] using hk
    omega
  have hb1 : Below w.heap.size w w1 := ((Below.refl _ _).alloc (Nat.le_refl _) _).grown h2 (by simp) hg0
  obtain ⟨_, h1⟩ := h1
  rcases h1 with ⟨h1, _⟩ | ⟨g, cap, cur, rfl, hg, hrow0, hcap, hcm, hcs, htake⟩
  · exact absurd h1 h3
  have hrow : Row w1 g 4 cur := hrow0
  have hcur : ∀ i, i < 8 → cur[i]? = some (.bool (S i)) := fun i hi => by
    rw [← newsB_at S i hi, ← htake, List.getElem?_take_of_lt (by omega), Array.getElem?_toList]
  have q0 := hrow.cell (hcur m hm)
  have f0 := hrow.free m
  have HT := Lib.hid hcur
  have HS := Lib.hid hcs
  have HR := Lib.hid hrow0
  clear htake hcur hcs h3 h2 HO HC hrow0 hi hz0 hz1 hz2
  go_wp2
  go_ret
  have hr2 := hrow.put m (.bool true)
  refine ⟨_, _, rfl, ⟨g, 0, rfl, hg, hr2.size, fun i hi => ?_⟩, hb1.setCell hg _⟩
  rw [Nat.zero_add]
  refine hr2.cell ?_
  by_cases he : i = m
  · subst he
    rw [Array.getElem?_setIfInBounds_self_of_lt (by have := HS.out; omega)]
    simp [setS]
  · rw [Array.getElem?_setIfInBounds_ne (by omega), HT.out i hi]
    simp [setS, he]
end Go.Proofs.Ytcdckjmnnpppkaa
