/-
  What a list of the call's own reads as; facts that go over into later worlds.
-/
import Derived.Test.YtglajaikbahjfaaFo
import Derived.Test.YtglajaikbahjfaaDe
import Derived.Test.YtglajaikbahjfaaOwn
import Derived.Test.YtglajaikbahjfaaIntsMark
namespace Go.Proofs.Ytglajaikbahjfaa
open Go.RowKit
set_option maxRecDepth 100000

theorem own_lies {w : World} {base : Nat} {e : TypeId} {A : Option Addr} {c : Nat} {zs : List Int} (h : w.ownsRow base e 1 (.slice A zs.length c) zs.length (zs.map (Value.int .i64))) (hz : ∀ x ∈ zs, I64 x) : LiesI w base w.heap.size A zs := by
  obtain ⟨A', c', hv, hl⟩ := own_ints h hz
  injection hv with h1 _ _
  rw [h1]
  exact hl
theorem own_held {w : World} {base : Nat} {e : TypeId} {A : Option Addr} {n c : Nat} {xs : List Value} (h : w.ownsRow base e 1 (.slice A n c) n xs) : ∃ g, base ≤ g ∧ Held w g A n (fun _ _ => True) := by
  obtain ⟨g, A', c', hv, hg, hh⟩ := Held.of_own h
  injection hv with h1 _ _
  rw [h1]
  exact ⟨g, hg, hh⟩
end Go.Proofs.Ytglajaikbahjfaa
