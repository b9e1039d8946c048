/-
  The walk of the law FnExactFindDef: true at every two arguments.
-/
import Derived.Test.YtedcdgjedocikaaSzD
import Derived.Test.YtedcdgjedocikaaToD
import Derived.Test.YtedcdgjedocikaaEqD
import Derived.Test.YtedcdgjedocikaaFind
namespace Go.Proofs.Ytedcdgjedocikaa
open Go.RowKit

set_option maxHeartbeats 1000000 in
theorem law_find (ds : List De) (x : Int) (A : Option Addr) (c : Nat) (w : World) (hl : LiesD w 0 w.heap.size A ds) (hlen : ds.length ≤ maxLen) :
    Calls Try.prog 8 #[.slice A ds.length c, .int .i64 x] w (Gives (.bool true) w) := by
  go_enter Try.func8, Try.ntmps8
  go_wp2_with fail
  refine (szDefS_any ds A c w 1048576 hl hlen (by decide) (by decide)).mono ?_
  rintro e w1 ⟨r, rfl, hr, hb1⟩
  rcases hr with rfl | ⟨hrz, hr⟩
  · go_wp2
    go_ret
    exact ⟨rfl, hb1⟩
  · have hsz : sizeD ds ≤ 1048576 := by omega
    clear hr hlen
    go_wp2_with fail
    refine (toDefS_any ds A c w1 (hl.up hb1) hsz).mono ?_
    rintro e w2 ⟨A2, c2, rfl, _, _, hl2, _, hb2⟩
    have hb12 := hb1.trans (hb2.mono hb1.size)
    have hl2' := hl2.mono_ (Nat.zero_le _) (Nat.le_refl _)
    have hds := Nat.le_trans (sizeD_len ds) hsz
    clear hb1 hb2 hl2
    go_wp2_with fail
    refine (specFind_any ds A2 c2 w2 x hl2' hds).mono ?_
    rintro e w3 ⟨rfl, hb3⟩
    have hb13 := hb12.trans (hb3.mono hb12.size)
    clear hb12 hb3 hl2'
    generalize hk : (if plc x ds < ds.length then (plc x ds : Int) else 0) = kk
    generalize hq : decide (plc x ds < ds.length) = qq
    have HK := Lib.hid hk
    have HQ := Lib.hid hq
    clear hk hq
    go_wp2_with fail
    refine (toDefS_any ds A c w3 (hl.up hb13) hsz).mono ?_
    rintro e w4 ⟨A4, c4, rfl, _, _, hl4, _, hb4⟩
    have hb14 := hb13.trans (hb4.mono hb13.size)
    have hl4' := Lib.hid (hl4.mono_ (Nat.zero_le _) (Nat.le_refl _))
    clear hb13 hb4 hl4
    go_wp2_with fail
    refine (implFind_any ds A4 c4 w4 x hl4'.out hds).mono ?_
    rintro e w5 ⟨rfl, hb5⟩
    have hb15 := hb14.trans (hb5.mono hb14.size)
    have hl5 := Lib.hid (hl4'.out.up hb5)
    rw [HK.out, HQ.out]
    clear hb14 hb5 hl4' HK HQ
    go_wp2_with fail
    refine (toDefS_any ds A c w5 (hl.up hb15) hsz).mono ?_
    rintro e w6 ⟨A6, c6, rfl, _, _, hl6, _, hb6⟩
    have hb16 := hb15.trans (hb6.mono hb15.size)
    have hl6' := hl6.mono_ (Nat.zero_le _) (Nat.le_refl _)
    have hl56 := hl5.out.up hb6
    clear hb15 hb6 hl6 hl5
    go_wp2_with fail
    refine (eqDefS_any ds A4 A6 c4 c6 w6 hl56 hl6' hsz).mono ?_
    rintro e w7 ⟨rfl, hb7⟩
    have hb17 := hb16.trans (hb7.mono hb16.size)
    clear hb16 hb7 hl56 hl6'
    go_wp2
    go_ret
    exact ⟨rfl, hb17⟩
end Go.Proofs.Ytedcdgjedocikaa
