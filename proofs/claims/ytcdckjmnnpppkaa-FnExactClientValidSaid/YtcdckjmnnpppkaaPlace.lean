/-
  The place of a function in a list: spec.l2Place.
-/
import Derived.Test.YtcdckjmnnpppkaaDe
import Derived.Test.YtcdckjmnnpppkaaRows
import Derived.WalkKit
import Derived.WalkSpells
import Derived.Lib.Hide
namespace Go.Proofs.Ytcdckjmnnpppkaa
open Go.RowKit
set_option maxRecDepth 100000

/-- The place of the first element with the name x, or how many there are. -/
def plc (x : Int) : List De → Nat
  | [] => 0
  | d :: r => if d.nm = x then 0 else plc x r + 1
theorem plc_le (x : Int) : ∀ ds : List De, plc x ds ≤ ds.length
  | [] => Nat.le_refl _
  | d :: r => by have := plc_le x r; simp only [plc, List.length_cons]; split <;> omega
theorem plc_hit {x : Int} {ds : List De} {j : Nat} {d : De} (h : ds[j]? = some d) (hp : plc x ds = j + plc x (ds.drop j)) (hx : d.nm = x) : plc x ds = j := by
  rw [hp, drop_at h]; simp [plc, hx]
theorem plc_miss {x : Int} {ds : List De} {j : Nat} {d : De} (h : ds[j]? = some d) (hp : plc x ds = j + plc x (ds.drop j)) (hx : d.nm ≠ x) : plc x ds = j + 1 + plc x (ds.drop (j + 1)) := by
  rw [hp, drop_at h]; simp [plc, hx]; omega
theorem plc_end {x : Int} {ds : List De} {j : Nat} (hj : ds.length ≤ j) (hp : plc x ds = j + plc x (ds.drop j)) : plc x ds = j := by
  rw [hp, List.drop_eq_nil_iff.2 hj]; rfl
def plcI (x : Int) (ds : List De) : Int := if plc x ds < ds.length then (plc x ds : Int) else -1

set_option maxHeartbeats 400000 in
theorem place_any (ds : List De) (A : Option Addr) (c : Nat) (w : World) (x : Int) (hl : LiesD w 0 w.heap.size A ds) (hsz : ds.length ≤ 1048576) :
    Calls Try.prog 53 #[.slice A ds.length c, .int .i64 x] w (Gives (.int .i64 (plcI x ds)) w) := by
  go_enter Try.func53, Try.ntmps53
  go_wp2
  go_loopw [5] (fun i wr => ∃ (j : Nat), j ≤ ds.length ∧ i = .int .i64 j ∧ Hid (plc x ds = j + plc x (ds.drop j)) ∧ Below w.heap.size w wr)
    (fun i _ => ds.length - (intOf i).toNat)
  case atStart => exact ⟨0, by omega, rfl, Lib.hid (by simp), Below.refl _ _⟩
  case round =>
    obtain ⟨j, hj, rfl, hp, hb⟩ := hrel
    by_cases hlt : j < ds.length
    · have e1 := List.getElem?_eq_getElem hlt
      generalize ds[j] = d at e1
      obtain ⟨b, o, A', c', hA, _, hbb, hf, g1, _⟩ := hl.below hb j d e1
      subst hA
      have E1 := Lib.hid e1
      clear e1
      by_cases hx : d.nm = x
      · have hpl := plc_hit E1.out hp.out hx
        have HP := Lib.hid hpl
        clear hpl
        go_wp2
        go_ret
        have hpi : plcI x ds = (j : Int) := by unfold plcI; rw [if_pos (by rw [HP.out]; exact hlt), HP.out]
        rw [hpi]
        exact ⟨rfl, hb⟩
      · have hm := Lib.hid (plc_miss E1.out hp.out hx)
        go_wp2
        go_roundw
        case rel => exact ⟨j + 1, by omega, by go_num, hm, hb⟩
        case measure => simp [intOf]; omega
    · have hpl := Lib.hid (plc_end (by omega) hp.out)
      go_wp2
      go_ret
      have hpi : plcI x ds = -1 := by unfold plcI; rw [if_neg (by rw [hpl.out]; exact hlt)]
      rw [hpi]
      exact ⟨rfl, hb⟩
end Go.Proofs.Ytcdckjmnnpppkaa
