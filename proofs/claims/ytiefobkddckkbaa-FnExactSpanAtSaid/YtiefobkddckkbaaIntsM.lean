/-
  Slices of int: eqIntS.
  markIntS and heldIntS: a list of the call's own is written over and read back.
  What a list of the call's own reads as; facts that go over into later worlds.
-/
import Derived.Test.YtiefobkddckkbaaFo
import Derived.Test.YtiefobkddckkbaaRows
import Derived.WalkKit
import Derived.WalkSpells
import Derived.Lib.Hide
import Derived.StillTailTactics
import Derived.BigQuiet
import Derived.Deep.QuietTactic
import Derived.WalkSmall
import Derived.Test.YtiefobkddckkbaaSmall
import Derived.Laws.AppendOwn
import Derived.Test.YtiefobkddckkbaaDe
import Derived.Test.YtiefobkddckkbaaOwnM
namespace Go.Proofs.Ytiefobkddckkbaa
open Go.RowKit
set_option maxRecDepth 100000

set_option maxHeartbeats 400000 in
theorem eqIntS_any (zs : List Int) (A A2 : Option Addr) (c c2 : Nat) (w : World) (hl : LiesI w 0 w.heap.size A zs) (hl2 : LiesI w 0 w.heap.size A2 zs) (hsz : zs.length ≤ 1048576) :
    Calls Try.prog 13 #[.slice A zs.length c, .slice A2 zs.length c2] w (Gives (.bool true) w) := by
  go_enter Try.func13, Try.ntmps13
  go_wp2
  go_loopw [5] (fun i wr => ∃ (j : Nat), j ≤ zs.length ∧ i = .int .i64 j ∧ Below w.heap.size w wr)
    (fun i _ => zs.length - (intOf i).toNat)
  case atStart => exact ⟨0, by omega, rfl, Below.refl _ _⟩
  case round =>
    obtain ⟨j, hj, rfl, hb⟩ := hrel
    by_cases hlt : j < zs.length
    · have e1 := List.getElem?_eq_getElem hlt
      generalize zs[j] = x at e1
      obtain ⟨b, o, hA, _, hbb, ix, g1⟩ := hl.below hb j x e1
      obtain ⟨b', o', hA', _, hbb', _, g1'⟩ := hl2.below hb j x e1
      subst hA hA'
      clear e1
      go_wp2
      go_quiet (fail)
      have hb2 := below_drewN hb nq
      clear g1 g1' hb
      go_wp2
      go_roundw
      case rel => exact ⟨j + 1, by omega, by go_num, hb2⟩
      case measure => simp [intOf]; omega
    · go_wp2
      go_ret
      exact ⟨rfl, hb⟩
end Go.Proofs.Ytiefobkddckkbaa

namespace Go.Proofs.Ytiefobkddckkbaa
open Go.RowKit
set_option maxRecDepth 100000

/-- A slice of n numbers at the head of row g; or there are none. -/
def Held (w : World) (g : Nat) (A : Option Addr) (n : Nat) (ok : Nat → Value → Prop) : Prop :=
  n = 0 ∨ (A = some ⟨g, 0, none⟩ ∧ ∃ t cs, Row w g t cs ∧ n ≤ cs.size ∧ ∀ i v, i < n → cs[i]? = some v → ok i v)

theorem Held.of_own {w : World} {base : Nat} {e : TypeId} {v : Value} {n : Nat} {xs : List Value} (h : w.ownsRow base e 1 v n xs) : ∃ g A c, v = .slice A n c ∧ base ≤ g ∧ Held w g A n (fun _ _ => True) := by
  rcases h.2 with ⟨rfl, rfl⟩ | ⟨g, cap, cur, rfl, h2, h3, h4, _, h5, _⟩
  · exact ⟨base, none, 0, rfl, Nat.le_refl _, .inl rfl⟩
  · exact ⟨g, _, cap, rfl, h2, .inr ⟨rfl, _, cur, h3, by omega, fun _ _ _ _ => trivial⟩⟩
theorem Held.below {w w' : World} {g : Nat} {A : Option Addr} {n : Nat} {ok : Nat → Value → Prop} (h : Held w g A n ok) (hb : Below w.heap.size w w') : Held w' g A n ok := by
  rcases h with rfl | ⟨h1, t, cs, h2, h3⟩
  · exact .inl rfl
  · exact .inr ⟨h1, t, cs, h2.below hb h2.size, h3⟩

end Go.Proofs.Ytiefobkddckkbaa

namespace Go.Proofs.Ytiefobkddckkbaa
open Go.RowKit
set_option maxRecDepth 100000

theorem own_lies {w : World} {base : Nat} {e : TypeId} {A : Option Addr} {c : Nat} {zs : List Int} (h : w.ownsRow base e 1 (.slice A zs.length c) zs.length (zs.map (Value.int .i64))) (hz : ∀ x ∈ zs, I64 x) : LiesI w base w.heap.size A zs := by
  obtain ⟨A', c', hv, hl⟩ := own_ints h hz
  injection hv with h1 _ _
  rw [h1]
  exact hl
theorem own_held {w : World} {base : Nat} {e : TypeId} {A : Option Addr} {n c : Nat} {xs : List Value} (h : w.ownsRow base e 1 (.slice A n c) n xs) : ∃ g, base ≤ g ∧ Held w g A n (fun _ _ => True) := by
  obtain ⟨g, A', c', hv, hg, hh⟩ := Held.of_own h
  injection hv with h1 _ _
  rw [h1]
  exact ⟨g, hg, hh⟩
end Go.Proofs.Ytiefobkddckkbaa
