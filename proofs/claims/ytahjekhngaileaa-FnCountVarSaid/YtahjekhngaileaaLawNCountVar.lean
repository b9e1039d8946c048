/-
  The walk of the law FnCountVar: true at every input.
-/
import Derived.Test.YtahjekhngaileaaDrawC
import Derived.Test.YtahjekhngaileaaTreeP
import Derived.Test.YtahjekhngaileaaCntVar
import Derived.Test.YtahjekhngaileaaISize
namespace Go.Proofs.Ytahjekhngaileaa
open Go.RowKit Go.Shelf
set_option maxRecDepth 100000

theorem cnt_bound (v op n : Int) (k : Fo) : cntN v 7 v (.cons 1 0 .nil (.cons op n k .nil)) = 0 := by simp [cntN, cntL, ownVar]
theorem cnt_twice (v op n op' n' : Int) (k k' : Fo) : cntN v 8 0 (.cons op n k (.cons op' n' k' .nil)) = cntN v op n k + cntN v op' n' k' := by simp [cntN, cntL, ownVar]

set_option maxHeartbeats 4000000 in
theorem law_NCountVar (bs : List Nat) (A : Option Addr) (c : Nat) (w : World) (hl : LiesY w 0 w.heap.size A bs) (hlc : bs.length ≤ c) (hc : c ≤ maxLen) :
    Calls Try.prog 7 #[.slice A bs.length c] w (Gives (.bool true) w) := by
  have HC := Lib.hid (drawCountVar_any A c bs w hl hlc hc)
  unfold maxLen at hc
  by_cases hsz : bs.length ≤ 1048576
  rotate_left
  · have hgt : 1048576 < bs.length := by omega
    go_enter Try.func7, Try.ntmps7
    go_wp2_with fail
    go_ret
    exact ⟨rfl, Below.refl _ _⟩
  clear hl
  go_enter Try.func7, Try.ntmps7
  go_wp2_with fail
  refine HC.out.mono ?_
  rintro e w1 ⟨op, n, k, X, cx, v, rfl, ⟨bl, hi, ht, hs⟩, hv, hb⟩
  obtain ⟨_, _, hX, hk1, hk2⟩ := ht.slice
  injection hX with hX1 hX2 hX3
  subst hX3
  obtain ⟨W, hW⟩ : ∃ W, W = w1.alloc (Obj.cells #[.int .i64 op, .int .i64 n, .slice X k.len cx] 25) := ⟨_, rfl⟩
  have hbW : Below w1.heap.size w1 W := by rw [hW]; exact (Below.refl _ _).alloc (Nat.le_refl _) _
  have HX := Lib.hid (show Row W w1.heap.size 25 #[.int .i64 op, .int .i64 n, .slice X k.len cx] by rw [hW]; exact Row.fresh _ _ _)
  have HH := Lib.hid ((ht.held).up hbW)
  have HB := Lib.hid (hb.trans (hbW.mono hb.size))
  have hle := cntN_le v op n k
  clear hb hbW ht hX1 HC
  go_upto_region 4 with fail
  rw [← hW]
  clear hW
  have q0 := HX.out.cell (i := 0) rfl
  have q1 := HX.out.cell (i := 1) rfl
  have q2 := HX.out.cell (i := 2) rfl
  go_wp2_with fail
  refine (implCount_r op n v k X cx 0 W.heap.size W HH.out.1 (Nat.le_refl _) HH.out.rows hk1 hk2 (by omega)).mono ?_
  rintro e w2 ⟨rfl, hb2⟩
  obtain ⟨t, ht⟩ : ∃ t, t = cntN v op n k := ⟨_, rfl⟩
  rw [← ht]
  rw [← ht] at hle
  have HT := Lib.hid ht
  have hx2 := HX.out.below hb2 HX.out.size
  have HX2 := Lib.hid hx2
  have HH2 := Lib.hid (HH.out.up hb2)
  have HB2 := Lib.hid (HB.out.trans (hb2.mono HB.out.size))
  clear q0 q1 q2 hb2 HX HH HB ht
  have q0 := hx2.cell (i := 0) rfl
  have q1 := hx2.cell (i := 1) rfl
  have q2 := hx2.cell (i := 2) rfl
  clear hx2
  go_wp2_with fail
  refine (specCount_any k.size v op n k X cx w2 rfl HH2.out.1 (by omega)).mono ?_
  rintro e w3 ⟨rfl, hb3⟩
  rw [← HT.out]
  have hne : ((t : Int) != (t : Int)) = false := by simp
  have hx3 := HX2.out.below hb3 HX2.out.size
  have HX3 := Lib.hid hx3
  have HH3 := Lib.hid (HH2.out.up hb3)
  have HB3 := Lib.hid (HB2.out.trans (hb3.mono HB2.out.size))
  clear q0 q1 q2 hb3 HX2 HH2 HB2
  have q0 := hx3.cell (i := 0) rfl
  have q1 := hx3.cell (i := 1) rfl
  have q2 := hx3.cell (i := 2) rfl
  clear hx3
  have hzz := HX3.out.size
  go_upto_region 9 with fail
  obtain ⟨V3, hV3⟩ : ∃ V3, V3 = ((w3.alloc (Obj.cells #[.int .i64 1, .int .i64 0, .slice none 0 0] 25)).alloc (Obj.cells #[.int .i64 1, .int .i64 0, .slice none 0 0, .int .i64 op, .int .i64 n, .slice X k.len cx] 25)).alloc (Obj.cells #[.int .i64 7, .int .i64 v, .slice (some ⟨w3.heap.size + 1, 0, none⟩) 2 2] 25) := ⟨_, rfl⟩
  have hbv : Below w3.heap.size w3 V3 := by rw [hV3]; exact (((Below.refl _ _).alloc (Nat.le_refl _) _).alloc (by simp) _).alloc (by simp; omega) _
  have hr2 : Row V3 (w3.heap.size + 1) 25 #[.int .i64 1, .int .i64 0, .slice none 0 0, .int .i64 op, .int .i64 n, .slice X k.len cx] := by
    rw [hV3]
    have := Row.fresh (w3.alloc (Obj.cells #[.int .i64 1, .int .i64 0, .slice none 0 0] 25)) 25 #[.int .i64 1, .int .i64 0, .slice none 0 0, .int .i64 op, .int .i64 n, .slice X k.len cx]
    rw [World.size_alloc] at this
    exact this.alloc _
  have hr3 : Row V3 (w3.heap.size + 1 + 1) 25 #[.int .i64 7, .int .i64 v, .slice (some ⟨w3.heap.size + 1, 0, none⟩) 2 2] := by
    rw [hV3]
    have := Row.fresh ((w3.alloc (Obj.cells #[.int .i64 1, .int .i64 0, .slice none 0 0] 25)).alloc (Obj.cells #[.int .i64 1, .int .i64 0, .slice none 0 0, .int .i64 op, .int .i64 n, .slice X k.len cx] 25)) 25 #[.int .i64 7, .int .i64 v, .slice (some ⟨w3.heap.size + 1, 0, none⟩) 2 2]
    simp only [World.size_alloc] at this
    exact this
  rw [← hV3]
  have hxv := HX3.out.below hbv HX3.out.size
  have HHV := HH3.out.up hbv
  have HXV := Lib.hid hxv
  have HR2 := Lib.hid hr2
  have HR3 := Lib.hid hr3
  have HKV := Lib.hid HHV
  have HBV := Lib.hid (HB3.out.trans (hbv.mono HB3.out.size))
  clear hV3 q0 q1 q2 hbv hr2 hr3 HX3 HH3 HB3 hzz HHV
  have q0 := hxv.cell (i := 0) rfl
  have q1 := hxv.cell (i := 1) rfl
  have q2 := hxv.cell (i := 2) rfl
  have hzz := hxv.size
  clear hxv
  go_upto_region 10 with fail
  obtain ⟨V5, hV5⟩ : ∃ V5, V5 = (V3.alloc (Obj.cells #[.int .i64 op, .int .i64 n, .slice X k.len cx, .int .i64 op, .int .i64 n, .slice X k.len cx] 25)).alloc (Obj.cells #[.int .i64 8, .int .i64 0, .slice (some ⟨V3.heap.size, 0, none⟩) 2 2] 25) := ⟨_, rfl⟩
  have hb5 : Below V3.heap.size V3 V5 := by rw [hV5]; exact ((Below.refl _ _).alloc (Nat.le_refl _) _).alloc (by simp) _
  have hr4 : Row V5 V3.heap.size 25 #[.int .i64 op, .int .i64 n, .slice X k.len cx, .int .i64 op, .int .i64 n, .slice X k.len cx] := by rw [hV5]; exact (Row.fresh _ _ _).alloc _
  have hr5 : Row V5 (V3.heap.size + 1) 25 #[.int .i64 8, .int .i64 0, .slice (some ⟨V3.heap.size, 0, none⟩) 2 2] := by
    rw [hV5]
    have := Row.fresh (V3.alloc (Obj.cells #[.int .i64 op, .int .i64 n, .slice X k.len cx, .int .i64 op, .int .i64 n, .slice X k.len cx] 25)) 25 #[.int .i64 8, .int .i64 0, .slice (some ⟨V3.heap.size, 0, none⟩) 2 2]
    rw [World.size_alloc] at this
    exact this
  rw [← hV5]
  have HK5 := Lib.hid (HKV.out.up hb5)
  have HX5 := Lib.hid (HXV.out.below hb5 HXV.out.size)
  have HR5 := Lib.hid (HR3.out.below hb5 HR3.out.size)
  have HS5 := Lib.hid hr5
  have HH2 := Lib.hid (held_two (B := V5.heap.size) (HR2.out.below hb5 HR2.out.size) (Nat.lt_of_lt_of_le HR2.out.size hb5.size) (Held.empty _ _ _) HK5.out ⟨by unfold I64; omega, by unfold I64; omega⟩ hi ⟨by simp [Fo.len], by unfold maxLen; omega⟩ ⟨hk1, hk2⟩)
  have HH4 := Lib.hid (held_two (B := V5.heap.size) hr4 hr4.size HK5.out HK5.out hi hi ⟨hk1, hk2⟩ ⟨hk1, hk2⟩)
  have HB5 := Lib.hid (HBV.out.trans (hb5.mono HBV.out.size))
  have r0 := HR5.out.cell (i := 0) rfl
  have r1 := HR5.out.cell (i := 1) rfl
  have r2 := HR5.out.cell (i := 2) rfl
  clear hV5 hb5 hr4 hr5 q0 q1 q2 hzz HXV HR2 HR3 HKV HBV
  go_wp2_with fail
  refine (implCount_r 7 v v (.cons 1 0 .nil (.cons op n k .nil)) (some ⟨w3.heap.size + 1, 0, none⟩) 2 0 V5.heap.size V5 HH2.out.1 (Nat.le_refl _) HH2.out.rows (Nat.le_refl 2) (by unfold maxLen; omega) (by simp only [Fo.size]; omega)).mono ?_
  rintro e w6 ⟨rfl, hb6⟩
  rw [cnt_bound]
  have hs6 := HS5.out.below hb6 HS5.out.size
  have HX6 := Lib.hid (HX5.out.below hb6 HX5.out.size)
  have HK6 := Lib.hid (HK5.out.up hb6)
  have HH6 := Lib.hid (HH4.out.up hb6)
  have HB6 := Lib.hid (HB5.out.trans (hb6.mono HB5.out.size))
  clear r0 r1 r2 hb6 HX5 HK5 HR5 HH2 HH4 HB5 HS5
  have r0 := hs6.cell (i := 0) rfl
  have r1 := hs6.cell (i := 1) rfl
  have r2 := hs6.cell (i := 2) rfl
  clear hs6
  rw [show ((0 : Nat) : Int) = 0 from rfl]
  go_wp2_with fail
  refine (implCount_r 8 0 v (.cons op n k (.cons op n k .nil)) (some ⟨V3.heap.size, 0, none⟩) 2 0 w6.heap.size w6 HH6.out.1 (Nat.le_refl _) HH6.out.rows (Nat.le_refl 2) (by unfold maxLen; omega) (by simp only [Fo.size]; omega)).mono ?_
  rintro e w7 ⟨rfl, hb7⟩
  rw [cnt_twice, ← HT.out]
  have hx7 := HX6.out.below hb7 HX6.out.size
  have HK7 := Lib.hid (HK6.out.up hb7)
  have HB7 := Lib.hid (HB6.out.trans (hb7.mono HB6.out.size))
  have hm : (((t + t : Nat) : Int) == 2 * (t : Int)) = true := by simp; omega
  have hg0 : decide ((t : Int) ≥ 0) = true := by simp
  clear r0 r1 r2 hb7 HX6 HK6 HH6 HB6
  have q0 := hx7.cell (i := 0) rfl
  have q1 := hx7.cell (i := 1) rfl
  have q2 := hx7.cell (i := 2) rfl
  clear hx7
  go_wp2_with fail
  refine (implSize_r op n k X cx 0 w7.heap.size w7 HK7.out.1 (Nat.le_refl _) HK7.out.rows hk1 hk2 (by omega)).mono ?_
  rintro e w8 ⟨rfl, hb8⟩
  have HB8 := Lib.hid (HB7.out.trans (hb8.mono HB7.out.size))
  have hle2 : decide ((t : Int) ≤ ((1 + k.size : Nat) : Int)) = true := by simp; omega
  clear hb8 q0 q1 q2
  go_wp2_with fail
  go_ret
  exact ⟨by simp; omega, HB8.out⟩
end Go.Proofs.Ytahjekhngaileaa
