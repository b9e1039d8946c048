/-
  The walk of the law FnExactLibrarySame: true at every two arguments.
-/
import Derived.Test.YtedcdgjedocikaaSzD
import Derived.Test.YtedcdgjedocikaaToD
import Derived.Test.YtedcdgjedocikaaEqD
import Derived.Test.YtedcdgjedocikaaLibSameI
namespace Go.Proofs.Ytedcdgjedocikaa
open Go.RowKit

set_option maxHeartbeats 1000000 in
theorem law_libSame (ds es : List De) (A A' : Option Addr) (c c' : Nat) (w : World) (hl : LiesD w 0 w.heap.size A ds) (hl' : LiesD w 0 w.heap.size A' es) (hlen : ds.length ≤ maxLen) (hlen' : es.length ≤ maxLen) :
    Calls Try.prog 7 #[.slice A ds.length c, .slice A' es.length c'] w (Gives (.bool true) w) := by
  go_enter Try.func7, Try.ntmps7
  go_wp2_with fail
  refine (szDefS_any ds A c w 1048576 hl hlen (by decide) (by decide)).mono ?_
  rintro e w1 ⟨r, rfl, hr, hb1⟩
  rcases hr with rfl | ⟨hrz, hr⟩
  · go_wp2
    go_ret
    exact ⟨rfl, hb1⟩
  have hsz : sizeD ds ≤ 1048576 := by omega
  have hrb : r ≤ 1048576 := by omega
  clear hr hlen
  go_wp2_with fail
  refine (szDefS_any es A' c' w1 r (hl'.up hb1) hlen' hrz hrb).mono ?_
  rintro e w2 ⟨r2, rfl, hr2, hb2⟩
  have hb12 := hb1.trans (hb2.mono hb1.size)
  clear hb1 hb2
  rcases hr2 with rfl | ⟨hrz2, hr2⟩
  · go_wp2
    go_ret
    exact ⟨rfl, hb12⟩
  have hsz' : sizeD es ≤ 1048576 := by omega
  clear hr2 hlen' hrb hrz
  go_wp2_with fail
  refine (toDefS_any ds A c w2 (hl.up hb12) hsz).mono ?_
  rintro e w3 ⟨A3, c3, rfl, _, _, hl3, _, hb3⟩
  have hb13 := hb12.trans (hb3.mono hb12.size)
  have hl3' := Lib.hid (hl3.mono_ (Nat.zero_le _) (Nat.le_refl _))
  clear hb12 hb3 hl3
  go_wp2_with fail
  refine (toDefS_any es A' c' w3 (hl'.up hb13) hsz').mono ?_
  rintro e w4 ⟨A4, c4, rfl, _, _, hl4, _, hb4⟩
  have hb14 := hb13.trans (hb4.mono hb13.size)
  have hl34 := Lib.hid (hl3'.out.up hb4)
  have hl4' := Lib.hid (hl4.mono_ (Nat.zero_le _) (Nat.le_refl _))
  clear hb13 hb4 hl4 hl3'
  go_wp2_with fail
  refine (specLibSame_any ds es A3 A4 c3 c4 w4 hl34.out hl4'.out hsz hsz').mono ?_
  rintro e w5 ⟨rfl, hb5⟩
  have hb15 := hb14.trans (hb5.mono hb14.size)
  clear hb14 hb5 hl34 hl4'
  obtain ⟨z, hz⟩ : ∃ z, z = sameDs ds es := ⟨_, rfl⟩
  rw [← hz]
  have HZ := Lib.hid hz
  clear hz
  go_wp2_with fail
  refine (toDefS_any ds A c w5 (hl.up hb15) hsz).mono ?_
  rintro e w6 ⟨A6, c6, rfl, _, _, hl6, ha6, hb6⟩
  have hb16 := hb15.trans (hb6.mono hb15.size)
  have HA6 := Lib.hid ha6
  have HL6 := Lib.hid hl6
  clear hb15 hb6 hl6 ha6
  go_wp2_with fail
  refine (toDefS_any es A' c' w6 (hl'.up hb16) hsz').mono ?_
  rintro e w7 ⟨A7, c7, rfl, _, _, hl7, _, hb7⟩
  have hb17 := hb16.trans (hb7.mono hb16.size)
  have HL7 := Lib.hid (hl7.mono_ (Nat.zero_le _) (Nat.le_refl _))
  have HL67 := Lib.hid (HL6.out.below hb7)
  have HA67 := Lib.hid (HA6.out.below hb7 (Nat.le_refl _))
  have HS67 := Lib.hid hb7.size
  clear hb16 hb7 hl7 HL6 HA6
  go_wp2_with fail
  refine (implLibSame_any ds es A6 A7 c6 c7 w7 _ _ HL67.out HS67.out HA67.out HL7.out hsz hsz').mono ?_
  rintro e w8 ⟨rfl, hb8⟩
  have hb18 := hb17.trans (hb8.mono hb17.size)
  have HL68 := Lib.hid ((HL67.out.mono_ (Nat.zero_le _) HS67.out).up hb8)
  have HL78 := Lib.hid (HL7.out.up hb8)
  rw [← HZ.out]
  clear hb17 hb8 HL67 HA67 HS67 HL7 HZ
  cases z <;> (
    go_wp2_with fail
    refine (toDefS_any ds A c w8 (hl.up hb18) hsz).mono ?_
    rintro e w9 ⟨A9, c9, rfl, _, _, hl9, _, hb9⟩
    have hb19 := hb18.trans (hb9.mono hb18.size)
    have HL9 := Lib.hid (hl9.mono_ (Nat.zero_le _) (Nat.le_refl _))
    have HL69 := Lib.hid (HL68.out.up hb9)
    have HL79 := Lib.hid (HL78.out.up hb9)
    clear hb18 hb9 hl9 HL68 HL78
    go_wp2_with fail
    refine (eqDefS_any ds A6 A9 c6 c9 w9 HL69.out HL9.out hsz).mono ?_
    rintro e w10 ⟨rfl, hb10⟩
    have hb110 := hb19.trans (hb10.mono hb19.size)
    have HL710 := Lib.hid (HL79.out.up hb10)
    clear hb19 hb10 HL9 HL69 HL79
    go_wp2_with fail
    refine (toDefS_any es A' c' w10 (hl'.up hb110) hsz').mono ?_
    rintro e w11 ⟨A11, c11, rfl, _, _, hl11, _, hb11⟩
    have hb111 := hb110.trans (hb11.mono hb110.size)
    have HL11 := Lib.hid (hl11.mono_ (Nat.zero_le _) (Nat.le_refl _))
    have HL711 := Lib.hid (HL710.out.up hb11)
    clear hb110 hb11 hl11 HL710
    go_wp2_with fail
    refine (eqDefS_any es A7 A11 c7 c11 w11 HL711.out HL11.out hsz').mono ?_
    rintro e w12 ⟨rfl, hb12⟩
    have hb112 := hb111.trans (hb12.mono hb111.size)
    clear hb111 hb12 HL11 HL711
    go_wp2
    go_ret
    exact ⟨rfl, hb112⟩)
end Go.Proofs.Ytedcdgjedocikaa
