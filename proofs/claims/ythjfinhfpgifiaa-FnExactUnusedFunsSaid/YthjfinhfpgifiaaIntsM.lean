/-
  Slices of int: eqIntS.
  markIntS and heldIntS: a list of the call's own is written over and read back.
  What a list of the call's own reads as; facts that go over into later worlds.
-/
import Derived.Test.YthjfinhfpgifiaaFo
import Derived.Test.YthjfinhfpgifiaaRows
import Derived.WalkKit
import Derived.WalkSpells
import Derived.Lib.Hide
import Derived.StillTailTactics
import Derived.BigQuiet
import Derived.Deep.QuietTactic
import Derived.WalkSmall
import Derived.Test.YthjfinhfpgifiaaSmall
import Derived.Laws.AppendOwn
import Derived.Test.YthjfinhfpgifiaaDe
import Derived.Test.YthjfinhfpgifiaaOwnM
namespace Go.Proofs.Ythjfinhfpgifiaa
open Go.RowKit
set_option maxRecDepth 100000

set_option maxHeartbeats 400000 in
theorem eqIntS_any (zs : List Int) (A A2 : Option Addr) (c c2 : Nat) (w : World) (hl : LiesI w 0 w.heap.size A zs) (hl2 : LiesI w 0 w.heap.size A2 zs) (hsz : zs.length ≤ 1048576) :
    Calls Try.prog 10 #[.slice A zs.length c, .slice A2 zs.length c2] w (Gives (.bool true) w) := by
  go_enter Try.func10, Try.ntmps10
  go_wp2
  go_loopw [5] (fun i wr => ∃ (j : Nat), j ≤ zs.length ∧ i = .int .i64 j ∧ Below w.heap.size w wr)
    (fun i _ => zs.length - (intOf i).toNat)
  case atStart => exact ⟨0, by omega, rfl, Below.refl _ _⟩
  case round =>
    obtain ⟨j, hj, rfl, hb⟩ := hrel
    by_cases hlt : j < zs.length
    · have e1 := List.getElem?_eq_getElem hlt
      generalize zs[j] = x at e1
      obtain ⟨b, o, hA, _, hbb, ix, g1⟩ := hl.below hb j x e1
      obtain ⟨b', o', hA', _, hbb', _, g1'⟩ := hl2.below hb j x e1
      subst hA hA'
      clear e1
      go_wp2
      go_quiet (fail)
      have hb2 := below_drewN hb nq
      clear g1 g1' hb
      go_wp2
      go_roundw
      case rel => exact ⟨j + 1, by omega, by go_num, hb2⟩
      case measure => simp [intOf]; omega
    · go_wp2
      go_ret
      exact ⟨rfl, hb⟩
end Go.Proofs.Ythjfinhfpgifiaa

namespace Go.Proofs.Ythjfinhfpgifiaa
open Go.RowKit
set_option maxRecDepth 100000

/-- A slice of n numbers at the head of row g; or there are none. -/
def Held (w : World) (g : Nat) (A : Option Addr) (n : Nat) (ok : Nat → Value → Prop) : Prop :=
  n = 0 ∨ (A = some ⟨g, 0, none⟩ ∧ ∃ t cs, Row w g t cs ∧ n ≤ cs.size ∧ ∀ i v, i < n → cs[i]? = some v → ok i v)

theorem Held.of_own {w : World} {base : Nat} {e : TypeId} {v : Value} {n : Nat} {xs : List Value} (h : w.ownsRow base e 1 v n xs) : ∃ g A c, v = .slice A n c ∧ base ≤ g ∧ Held w g A n (fun _ _ => True) := by
  rcases h.2 with ⟨rfl, rfl⟩ | ⟨g, cap, cur, rfl, h2, h3, h4, _, h5, _⟩
  · exact ⟨base, none, 0, rfl, Nat.le_refl _, .inl rfl⟩
  · exact ⟨g, _, cap, rfl, h2, .inr ⟨rfl, _, cur, h3, by omega, fun _ _ _ _ => trivial⟩⟩
theorem Held.below {w w' : World} {g : Nat} {A : Option Addr} {n : Nat} {ok : Nat → Value → Prop} (h : Held w g A n ok) (hb : Below w.heap.size w w') : Held w' g A n ok := by
  rcases h with rfl | ⟨h1, t, cs, h2, h3⟩
  · exact .inl rfl
  · exact .inr ⟨h1, t, cs, h2.below hb h2.size, h3⟩

set_option maxHeartbeats 400000 in
theorem markIntS_any (n g : Nat) (A : Option Addr) (c : Nat) (w : World) (x : Int) (hl : Held w g A n (fun _ _ => True)) (hn : n ≤ 1048576) (hx0 : 0 ≤ x) (hx1 : x ≤ 33554432) :
    Calls Try.prog 15 #[.slice A n c, .int .i64 x] w fun e w' => e = .returned (.int .i64 (x + (n : Int))) ∧ Held w' g A n (fun i v => v = .int .i64 (x + (i : Int))) ∧ Only g w.heap.size w w' := by
  rcases hl with rfl | ⟨rfl, t, cs, hr, hs, _⟩
  · go_enter Try.func15, Try.ntmps15
    go_wp2
    go_loopw [1, 5] (fun y i wr => y = .int .i64 x ∧ i = .int .i64 0 ∧ wr = w) (fun _ _ _ => 0)
    case atStart => exact ⟨rfl, rfl, rfl⟩
    case round =>
      obtain ⟨rfl, rfl, rfl⟩ := hrel
      go_wp2
      go_ret
      exact ⟨by simp [go_sem], .inl rfl, Only.refl _ _ _⟩
  · go_enter Try.func15, Try.ntmps15
    go_wp2
    go_loopw [1, 5] (fun y i wr => ∃ (j : Nat) (cs' : Array Value), j ≤ n ∧ i = .int .i64 j ∧ y = .int .i64 (x + (j : Int)) ∧ Row wr g t cs' ∧ cs'.size = cs.size ∧ (∀ i v, i < j → cs'[i]? = some v → v = .int .i64 (x + (i : Int))) ∧ Only g w.heap.size w wr)
      (fun _ i _ => n - (intOf i).toNat)
    case atStart => exact ⟨0, cs, by omega, rfl, by simp, hr, rfl, fun i v h => absurd h (by omega), Only.refl _ _ _⟩
    case round =>
      obtain ⟨j, cs', hj, rfl, rfl, hrow, hcs, hall, hon⟩ := hrel
      by_cases hlt : j < n
      · obtain ⟨v0, p0⟩ : ∃ v, cs'[j]? = some v := ⟨_, Array.getElem?_eq_getElem (by omega)⟩
        have q0 := hrow.cell p0
        have f0 := hrow.free j
        have H := Lib.hid (show cs'.size = cs.size from hcs)
        have HA := Lib.hid hall
        clear p0 hcs hall hr
        go_wp2
        go_roundw
        case rel =>
          refine ⟨j + 1, _, hlt, by go_num, by simp; omega, hrow.put j _, by rw [Array.size_setIfInBounds]; exact H.out, ?_, hon.set (.inl rfl) _⟩
          intro i v hi hv
          by_cases hij : i = j
          · subst hij
            rw [Array.getElem?_setIfInBounds_self_of_lt (by rw [H.out]; omega)] at hv
            cases hv
            rfl
          · rw [Array.getElem?_setIfInBounds_ne (by omega)] at hv
            exact HA.out i v (by omega) hv
        case measure => simp [intOf]; omega
      · have e9 : j = n := by omega
        subst e9
        go_wp2
        go_ret
        exact ⟨rfl, .inr ⟨rfl, t, cs', hrow, by omega, hall⟩, hon⟩

set_option maxHeartbeats 400000 in
theorem heldIntS_any (n g : Nat) (A : Option Addr) (c : Nat) (w : World) (x : Int) (hl : Held w g A n (fun i v => v = .int .i64 (x + (i : Int)))) (hn : n ≤ 1048576) (hx0 : 0 ≤ x) (hx1 : x ≤ 33554432) :
    Calls Try.prog 16 #[.slice A n c, .int .i64 x] w (Gives (.int .i64 (x + (n : Int))) w) := by
  go_enter Try.func16, Try.ntmps16
  go_wp2
  go_loopw [1, 5] (fun y i wr => ∃ (j : Nat), j ≤ n ∧ i = .int .i64 j ∧ y = .int .i64 (x + (j : Int)) ∧ wr = w)
    (fun _ i _ => n - (intOf i).toNat)
  case atStart => exact ⟨0, by omega, rfl, by simp, rfl⟩
  case round =>
    obtain ⟨j, hj, rfl, rfl, rfl⟩ := hrel
    by_cases hlt : j < n
    · rcases hl with rfl | ⟨rfl, t, cs, hr, hs, hok⟩
      · omega
      obtain ⟨v0, p0⟩ : ∃ v, cs[j]? = some v := ⟨_, Array.getElem?_eq_getElem (by omega)⟩
      have q0 := hr.cell p0
      rw [hok j v0 hlt p0] at q0
      clear p0 hok
      go_wp2
      go_roundw
      case rel => exact ⟨j + 1, hlt, by go_num, by simp; omega, trivial⟩
      case measure => simp [intOf]; omega
    · have e9 : j = n := by omega
      subst e9
      go_wp2
      go_ret
      exact ⟨rfl, Below.refl _ _⟩
end Go.Proofs.Ythjfinhfpgifiaa

namespace Go.Proofs.Ythjfinhfpgifiaa
open Go.RowKit
set_option maxRecDepth 100000

theorem own_lies {w : World} {base : Nat} {e : TypeId} {A : Option Addr} {c : Nat} {zs : List Int} (h : w.ownsRow base e 1 (.slice A zs.length c) zs.length (zs.map (Value.int .i64))) (hz : ∀ x ∈ zs, I64 x) : LiesI w base w.heap.size A zs := by
  obtain ⟨A', c', hv, hl⟩ := own_ints h hz
  injection hv with h1 _ _
  rw [h1]
  exact hl
theorem own_held {w : World} {base : Nat} {e : TypeId} {A : Option Addr} {n c : Nat} {xs : List Value} (h : w.ownsRow base e 1 (.slice A n c) n xs) : ∃ g, base ≤ g ∧ Held w g A n (fun _ _ => True) := by
  obtain ⟨g, A', c', hv, hg, hh⟩ := Held.of_own h
  injection hv with h1 _ _
  rw [h1]
  exact ⟨g, hg, hh⟩
end Go.Proofs.Ythjfinhfpgifiaa
