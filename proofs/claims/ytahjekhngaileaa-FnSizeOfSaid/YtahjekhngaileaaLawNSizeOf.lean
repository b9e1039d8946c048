/-
  The walk of the law FnSizeOf: true at every input.
-/
import Derived.Test.YtahjekhngaileaaDrawE
import Derived.Test.YtahjekhngaileaaTreeP
import Derived.Test.YtahjekhngaileaaISize
import Derived.Test.YtahjekhngaileaaSize
namespace Go.Proofs.Ytahjekhngaileaa
open Go.RowKit Go.Shelf
set_option maxRecDepth 100000

set_option maxHeartbeats 2000000 in
theorem law_NSizeOf (bs : List Nat) (A : Option Addr) (c : Nat) (w : World) (hl : LiesY w 0 w.heap.size A bs) (hlc : bs.length ≤ c) (hc : c ≤ maxLen) :
    Calls Try.prog 5 #[.slice A bs.length c] w (Gives (.bool true) w) := by
  have HC := Lib.hid (drawSizeOf_any A c bs w hl hlc hc)
  unfold maxLen at hc
  by_cases hsz : bs.length ≤ 1048576
  rotate_left
  · have hgt : 1048576 < bs.length := by omega
    go_enter Try.func5, Try.ntmps5
    go_wp2_with fail
    go_ret
    exact ⟨rfl, Below.refl _ _⟩
  clear hl
  go_enter Try.func5, Try.ntmps5
  go_wp2_with fail
  refine HC.out.mono ?_
  rintro e w1 ⟨op, n, k, X, cx, rfl, ⟨bl, hi, ht, hs⟩, hb⟩
  obtain ⟨_, _, hX, hk1, hk2⟩ := ht.slice
  injection hX with hX1 hX2 hX3
  subst hX3
  obtain ⟨W, hW⟩ : ∃ W, W = w1.alloc (Obj.cells #[.int .i64 op, .int .i64 n, .slice X k.len cx] 25) := ⟨_, rfl⟩
  have hbW : Below w1.heap.size w1 W := by rw [hW]; exact (Below.refl _ _).alloc (Nat.le_refl _) _
  have HX := Lib.hid (show Row W w1.heap.size 25 #[.int .i64 op, .int .i64 n, .slice X k.len cx] by rw [hW]; exact Row.fresh _ _ _)
  have HH := Lib.hid ((ht.held).below hbW (Nat.le_refl _))
  have HB := Lib.hid (hb.trans (hbW.mono hb.size))
  have HZ := Lib.hid hbW.size
  clear hb hbW ht hX1 HC
  go_upto_region 4 with fail
  rw [← hW]
  clear hW
  have q0 := HX.out.cell (i := 0) rfl
  have q1 := HX.out.cell (i := 1) rfl
  have q2 := HX.out.cell (i := 2) rfl
  go_wp2_with fail
  refine (implSize_r op n k X cx 0 w1.heap.size W HH.out.1 HZ.out HH.out.rows hk1 hk2 (by omega)).mono ?_
  rintro e w2 ⟨rfl, hb2⟩
  have HX2 := Lib.hid (HX.out.below hb2 HX.out.size)
  have HH2 := Lib.hid (HH.out.below hb2 HZ.out)
  have HB2 := Lib.hid (HB.out.trans (hb2.mono HB.out.size))
  have HZ2 := Lib.hid (Nat.le_trans HZ.out hb2.size)
  clear q0 q1 q2 hb2 HX HH HB HZ
  go_wp2_with fail
  go_loopw [5, 6] (fun s i wr => ∃ (j t : Nat), j ≤ k.len ∧ i = .int .i64 (j : Int) ∧ s = .int .i64 (t : Int) ∧ t + (k.drop j).size = 1 + k.size ∧ Row wr w1.heap.size 25 #[.int .i64 op, .int .i64 n, .slice X k.len cx] ∧ Held wr w1.heap.size X k ∧ Below w.heap.size w wr ∧ w1.heap.size ≤ wr.heap.size)
    (fun _ i _ => k.len - (intOf i).toNat)
  case atStart => exact ⟨0, 1, by omega, rfl, rfl, by rw [Fo.drop_zero], HX2.out, HH2.out, HB2.out, HZ2.out⟩
  case round =>
    clear HX2 HH2 HB2 HZ2
    obtain ⟨j, t, hj, rfl, rfl, ht, hx, hh, hb, hz⟩ := hrel
    have q0 := hx.cell (i := 0) rfl
    have q1 := hx.cell (i := 1) rfl
    have q2 := hx.cell (i := 2) rfl
    have HX := Lib.hid hx
    have HH := Lib.hid hh
    have HB := Lib.hid hb
    clear hx hb
    have hkl : k.len ≤ 1048000 := Nat.le_trans (Fo.len_le_size k) hs
    by_cases hlt : j < k.len
    · obtain ⟨o1, m1, k1, e1, e2, e3⟩ := Fo.drop_of_lt k j hlt
      obtain ⟨b, o, A', c', rfl, hbb, hi1, g0, g1, g2, h1, h2, hh1⟩ := hh.kid e1
      have HT := Lib.hid (show t + (1 + k1.size) + (k.drop (j + 1)).size = 1 + k.size by omega)
      have htb : t + k1.size ≤ 1048001 := by omega
      clear hh e1 e3 ht
      go_wp2_with fail
      refine (implSize_r o1 m1 k1 A' c' 0 w1.heap.size wr hh1.1 hz hh1.rows h1 h2 (by omega)).mono ?_
      rintro e w3 ⟨rfl, hb3⟩
      have HX3 := Lib.hid (HX.out.below hb3 HX.out.size)
      have HH3 := Lib.hid (HH.out.below hb3 hz)
      have HB3 := Lib.hid (HB.out.trans (hb3.mono HB.out.size))
      have HZ3 := Lib.hid (Nat.le_trans hz hb3.size)
      clear q0 q1 q2 g0 g1 g2 hb3 HX HH HB hh1
      go_wp2_with fail
      go_roundw
      case rel => exact ⟨j + 1, t + (1 + k1.size), by omega, by go_num, by go_num, HT.out, HX3.out, HH3.out, HB3.out, HZ3.out⟩
      case measure => simp [intOf]; omega
    · have e9 : j = k.len := by omega
      have ht9 : t = 1 + k.size := by rw [e9, Fo.drop_len] at ht; simpa [Fo.size] using ht
      subst ht9
      clear ht
      go_wp2_with fail
      refine (specSize_any k.size op n k X cx wr rfl (hh.1.mono_ (Nat.le_refl _) hz) (by omega)).mono ?_
      rintro e w3 ⟨rfl, hb3⟩
      have HB3 := Lib.hid (HB.out.trans (hb3.mono HB.out.size))
      clear q0 q1 q2 hb3 hh HX HH HB
      go_wp2_with fail
      go_ret
      exact ⟨by simp, HB3.out⟩
end Go.Proofs.Ytahjekhngaileaa
