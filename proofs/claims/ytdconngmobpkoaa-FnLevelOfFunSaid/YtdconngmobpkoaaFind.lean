/-
  The place of a function in a list: spec.l2Place, spec.FindDef, impl.FindDef.
-/
import Derived.Test.YtdconngmobpkoaaLibVD
import Derived.Test.YtdconngmobpkoaaRows
import Derived.WalkKit
import Derived.WalkSpells
import Derived.Lib.Hide
namespace Go.Proofs.Ytdconngmobpkoaa
open Go.RowKit
set_option maxRecDepth 100000

def FindPost (x : Int) (ds : List De) (w : World) (e : Ending) (w' : World) : Prop :=
  e = .returned (.tuple #[.int .i64 (if plc x ds < ds.length then (plc x ds : Int) else 0), .bool (decide (plc x ds < ds.length))]) ∧ Below w.heap.size w w'

set_option maxHeartbeats 400000 in
theorem implFind_any (ds : List De) (A : Option Addr) (c : Nat) (w : World) (x : Int) (hl : LiesD w 0 w.heap.size A ds) (hsz : ds.length ≤ 1048576) :
    Calls Try.prog 30 #[.slice A ds.length c, .int .i64 x] w (FindPost x ds w) := by
  go_enter Try.func30, Try.ntmps30
  go_wp2
  go_loopw [10] (fun i wr => ∃ (j : Nat), j ≤ ds.length ∧ i = .int .i64 j ∧ Hid (plc x ds = j + plc x (ds.drop j)) ∧ Below w.heap.size w wr)
    (fun i _ => ds.length - (intOf i).toNat)
  case atStart => exact ⟨0, by omega, rfl, Lib.hid (by simp), Below.refl _ _⟩
  case round =>
    obtain ⟨j, hj, rfl, hp, hb⟩ := hrel
    by_cases hlt : j < ds.length
    · have e1 := List.getElem?_eq_getElem hlt
      generalize ds[j] = d at e1
      obtain ⟨b, o, A', c', hA, _, hbb, hf, g1, g2, g3, g4, g5, g6, _⟩ := hl.below hb j d e1
      subst hA
      have E1 := Lib.hid e1
      clear e1
      by_cases hx : d.nm = x
      · have HP := Lib.hid (plc_hit E1.out hp.out hx)
        go_wp2
        go_ret2
        unfold FindPost
        rw [HP.out, if_pos hlt, decide_eq_true hlt]
        exact ⟨rfl, hb.alloc hb.size _⟩
      · have hm := Lib.hid (plc_miss E1.out hp.out hx)
        go_wp2
        go_roundw
        case rel => exact ⟨j + 1, by omega, by go_num, hm, hb.alloc hb.size _⟩
        case measure => simp [intOf]; omega
    · have hpl := Lib.hid (plc_end (by omega) hp.out)
      go_wp2
      go_ret2
      unfold FindPost
      rw [hpl.out, if_neg hlt, decide_eq_false hlt]
      exact ⟨rfl, hb⟩
end Go.Proofs.Ytdconngmobpkoaa
