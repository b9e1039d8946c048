/-
  The walk of the law FnExactLibraryValid: true at every argument.
-/
import Derived.Test.YtcdckjmnnpppkaaSzD
import Derived.Test.YtcdckjmnnpppkaaToD
import Derived.Test.YtcdckjmnnpppkaaEqD
import Derived.Test.YtcdckjmnnpppkaaLibVS
import Derived.Test.YtcdckjmnnpppkaaLibVI
namespace Go.Proofs.Ytcdckjmnnpppkaa
open Go.RowKit
set_option maxRecDepth 100000

set_option maxHeartbeats 1000000 in
theorem law_libValid (ds : List De) (A : Option Addr) (c : Nat) (w : World) (hl : LiesD w 0 w.heap.size A ds) (hlen : ds.length ≤ maxLen) :
    Calls Try.prog 3 #[.slice A ds.length c] w (Gives (.bool true) w) := by
  go_enter Try.func3, Try.ntmps3
  go_wp2_with fail
  refine (szDefS_any ds A c w 1048576 hl hlen (by decide) (by decide)).mono ?_
  rintro e w1 ⟨r, rfl, hr, hb1⟩
  rcases hr with rfl | ⟨hrz, hr⟩
  · go_wp2
    go_ret
    exact ⟨rfl, hb1⟩
  have hsz : sizeD ds ≤ 1048576 := by omega
  clear hr hlen
  go_wp2_with fail
  refine (toDefS_any ds A c w1 (hl.up hb1) hsz).mono ?_
  rintro e w2 ⟨A2, c2, rfl, _, _, hl2, _, hb2⟩
  have hb12 := hb1.trans (hb2.mono hb1.size)
  have HL2 := Lib.hid (hl2.mono_ (Nat.zero_le _) (Nat.le_refl _))
  clear hb1 hb2 hl2
  go_wp2_with fail
  refine (specLibValid_any ds A2 c2 w2 HL2.out hsz).mono ?_
  rintro e w3 ⟨rfl, hb3⟩
  have hb13 := hb12.trans (hb3.mono hb12.size)
  clear hb12 hb3 HL2
  obtain ⟨z, hz⟩ : ∃ z, z = libOk ds := ⟨_, rfl⟩
  rw [← hz]
  have HZ := Lib.hid hz
  clear hz
  go_wp2_with fail
  refine (toDefS_any ds A c w3 (hl.up hb13) hsz).mono ?_
  rintro e w4 ⟨A4, c4, rfl, _, _, hl4, ha4, hb4⟩
  have hb14 := hb13.trans (hb4.mono hb13.size)
  have HA4 := Lib.hid ha4
  have HL4 := Lib.hid hl4
  clear hb13 hb4 hl4 ha4
  go_wp2_with fail
  refine (implLibValid_any ds A4 c4 _ _ w4 HL4.out (Nat.le_refl _) HA4.out hsz).mono ?_
  rintro e w5 ⟨rfl, hb5⟩
  have hb15 := hb14.trans (hb5.mono hb14.size)
  have HL5 := Lib.hid ((HL4.out.mono_ (Nat.zero_le _) (Nat.le_refl _)).up hb5)
  rw [← HZ.out]
  clear hb14 hb5 HL4 HA4 HZ
  cases z <;> (
    go_wp2_with fail
    refine (toDefS_any ds A c w5 (hl.up hb15) hsz).mono ?_
    rintro e w6 ⟨A6, c6, rfl, _, _, hl6, _, hb6⟩
    have hb16 := hb15.trans (hb6.mono hb15.size)
    have HL6 := Lib.hid (hl6.mono_ (Nat.zero_le _) (Nat.le_refl _))
    have HL56 := Lib.hid (HL5.out.up hb6)
    clear hb15 hb6 hl6 HL5
    go_wp2_with fail
    refine (eqDefS_any ds A4 A6 c4 c6 w6 HL56.out HL6.out hsz).mono ?_
    rintro e w7 ⟨rfl, hb7⟩
    have hb17 := hb16.trans (hb7.mono hb16.size)
    clear hb16 hb7 HL56 HL6
    go_wp2
    go_ret
    exact ⟨rfl, hb17⟩)
end Go.Proofs.Ytcdckjmnnpppkaa
