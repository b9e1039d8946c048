/-
  The walk of the law FnEndingOrder: true at every input.
-/
import Derived.Test.YtdconngmobpkoaaMutLib
import Derived.Test.YtdconngmobpkoaaOrdS
import Derived.Test.YtdconngmobpkoaaOrdI
import Derived.Test.YtdconngmobpkoaaQuietI
import Derived.Test.YtdconngmobpkoaaAm
namespace Go.Proofs.Ytdconngmobpkoaa
open Go.RowKit Go.Shelf
set_option maxRecDepth 100000

theorem order_len {ds : List De} (h : orderB ds = true) : (funsP (endingS ds) ds).length = ds.length := by
  have hok := (Bool.and_eq_true_iff.1 h).1
  rw [funsP_yes hok, List.filter_eq_self.2 fun x hx => ?_, namesD_len]
  obtain ⟨d, hd, rfl⟩ := List.mem_map.1 hx
  exact order_all hok h d hd

set_option maxHeartbeats 1000000 in
theorem drawOrder_any (A : Option Addr) (bc : Nat) (bs : List Nat) (w : World) (hB : LiesY w 0 w.heap.size A bs) (hl : bs.length ≤ bc) (hc : bc ≤ maxLen) :
    Calls Try.prog 27 #[.slice A bs.length bc] w (LibPost w) := by
  have HC := Lib.hid (drawLV_any A bc bs w hB hl hc)
  clear hB
  go_enter Try.func27, Try.ntmps27
  go_wp2_with fail
  refine HC.out.mono ?_
  rintro e w1 ⟨ds, X, c, rfl, hd, hb1⟩
  have HPOST := Lib.hid (show LibPost w (.returned (.slice X ds.length c)) w1 from ⟨ds, X, c, rfl, hd, hb1⟩)
  clear hd hb1 HC
  go_wp2_with fail
  go_ret
  exact HPOST.out

set_option maxHeartbeats 4000000 in
theorem law_NEndingOrder (bs : List Nat) (A : Option Addr) (c : Nat) (w : World) (hl : LiesY w 0 w.heap.size A bs) (hlc : bs.length ≤ c) (hc : c ≤ maxLen) :
    Calls Try.prog 7 #[.slice A bs.length c] w (Gives (.bool true) w) := by
  have HC := Lib.hid (drawOrder_any A c bs w hl hlc hc)
  unfold maxLen at hc
  by_cases hsz : bs.length ≤ 1048576
  rotate_left
  · have hgt : 1048576 < bs.length := by omega
    clear hl
    go_enter Try.func7, Try.ntmps7
    go_wp2_with fail
    go_ret
    exact ⟨rfl, Below.refl _ _⟩
  clear hl
  go_enter Try.func7, Try.ntmps7
  go_wp2_with fail
  refine HC.out.mono ?_
  rintro e w1 ⟨ds, X, cx, rfl, ⟨h1, h2, h3, h4, h5⟩, hb1⟩
  have hs : sizeD ds ≤ 1048576 := by omega
  have HL := Lib.hid (show LiesD w1 0 w1.heap.size X ds from h1.mono_ (Nat.zero_le _) (Nat.le_refl _))
  have HB := Lib.hid hb1
  obtain ⟨zs, hzs⟩ : ∃ z, z = orderV ds := ⟨_, rfl⟩
  have hzl : zs.length ≤ 8 := by rw [hzs]; exact orderV_len ds
  have HZI := Lib.hid (show ∀ z ∈ zs, I64 z by rw [hzs]; exact fun z hz => orderV_small z hz)
  have HIC := Lib.hid (implOrder_r ds X cx 0 w1.heap.size w1 HL.out (Nat.le_refl _) hs)
  have HSC := Lib.hid (fun V (hV : Below w1.heap.size w1 V) => specOrder_any ds X cx V (HL.out.up hV) hs)
  rw [← hzs] at HIC HSC
  obtain ⟨ok, hokb⟩ : ∃ b, b = orderB ds := ⟨_, rfl⟩
  rw [← hokb] at HIC HSC
  have HOKB := Lib.hid hokb
  have hdl : ds.length ≤ 100 := h4
  clear h1 h2 h3 h5 hb1 HC hzs hokb
  go_wp2_with fail
  refine HIC.out.mono ?_
  rintro e w2 ⟨v2, rfl, ho2, hb2⟩
  obtain ⟨A2, c2, rfl, hI2⟩ := own_ints ho2 HZI.out
  have HB2 := Lib.hid hb2
  have HI2 := Lib.hid (show LiesI w2 0 w2.heap.size A2 zs from hI2.mono_ (Nat.zero_le _) (Nat.le_refl _))
  clear ho2 hb2 hI2 HIC
  go_wp2_with fail
  refine (HSC.out w2 HB2.out).mono ?_
  rintro e w3 ⟨v3, rfl, ho3, hb3⟩
  obtain ⟨A3, c3, rfl, hI3⟩ := own_ints ho3 HZI.out
  have HB3 := Lib.hid (HB2.out.trans (hb3.mono HB2.out.size))
  have HI3 := Lib.hid (show LiesI w3 0 w3.heap.size A3 zs from hI3.mono_ (Nat.zero_le _) (Nat.le_refl _))
  have HI23 := Lib.hid (HI2.out.up hb3)
  have HAMF := Lib.hid (fun V (hV : Below w3.heap.size w3 V) => show Calls Try.prog 23 #[.slice A2 zs.length c2, .slice A3 zs.length c3] V (Gives (.bool true) V) by
    have h := amInts_any zs zs A2 A3 c2 c3 V (HI23.out.up hV) (HI3.out.up hV) (by omega) (by omega)
    rw [decide_eq_true rfl] at h
    exact h)
  clear ho3 hb3 hI3 HI2 HB2 HSC
  go_wp2_with fail
  refine (HAMF.out w3 (Below.refl _ _)).mono ?_
  rintro e w4 ⟨rfl, hb4⟩
  have HB34 := Lib.hid hb4
  have HB4 := Lib.hid (HB3.out.trans (hb4.mono HB3.out.size))
  clear hb4
  cases ok with
  | false =>
    go_wp2_with fail
    refine (HAMF.out w4 HB34.out).mono ?_
    rintro e w5 ⟨rfl, hb5⟩
    have HB5 := Lib.hid (HB.out.trans ((HB4.out.trans (hb5.mono HB4.out.size)).mono HB.out.size))
    clear hb5
    go_wp2_with fail
    go_ret
    exact ⟨rfl, HB5.out⟩
  | true =>
    have HEN := Lib.hid (implEndingFuns_r ds X cx 0 w1.heap.size w4 (HL.out.below HB4.out) HB4.out.size hs)
    have HLN := Lib.hid (order_len HOKB.out.symm)
    go_wp2_with fail
    refine HEN.out.mono ?_
    rintro e w5 ⟨v5, rfl, ho5, hb5⟩
    obtain ⟨A5, c5, rfl, hI5⟩ := own_ints ho5 (fun x hx => funsP_small x hx)
    have HB5 := Lib.hid (HB.out.trans ((HB4.out.trans (hb5.mono HB4.out.size)).mono HB.out.size))
    rw [HLN.out]
    clear hb5 ho5 hI5
    go_wp2_with fail
    go_ret
    exact ⟨ret_bool (by simp), HB5.out⟩
end Go.Proofs.Ytdconngmobpkoaa
