/-
  spec.DrawExprSame.
-/
import Derived.Test.YtahjekhngaileaaCaseS
import Derived.Test.YtahjekhngaileaaTreeP
namespace Go.Proofs.Ytahjekhngaileaa
open Go.RowKit Go.Shelf
set_option maxRecDepth 100000

def EqPost (w : World) (e : Ending) (w' : World) : Prop :=
  ∃ op n k X c op2 n2 k2 X2 c2, e = .returned (.tuple #[.agg #[.int .i64 op, .int .i64 n, .slice X (Fo.len k) c], .agg #[.int .i64 op2, .int .i64 n2, .slice X2 (Fo.len k2) c2]]) ∧ Drawn w' w.heap.size op n k X c ∧ Drawn w' w.heap.size op2 n2 k2 X2 c2 ∧ Below w.heap.size w w'

theorem eq_end {w V : World} {op n op2 n2 : Int} {k k2 : Fo} {X X2 : Option Addr} {c c2 : Nat} {bl bl2 : List Nat} {b1 b2 : Nat} (ht : Tree V b1 (.slice X k.len c) k bl) (ht2 : Tree V b2 (.slice X2 k2.len c2) k2 bl2) (h1 : w.heap.size + 2 ≤ b1) (h2 : w.heap.size + 2 ≤ b2)
    (hi : I64 op ∧ I64 n) (hi2 : I64 op2 ∧ I64 n2) (hs : k.size ≤ 500300) (hs2 : k2.size ≤ 500300) (hb : Below w.heap.size w V) :
    EqPost w (.returned (.tuple #[.agg #[.int .i64 op, .int .i64 n, .slice X k.len c], .agg #[.int .i64 op2, .int .i64 n2, .slice X2 k2.len c2]]))
      ((((((V.setCell ⟨w.heap.size, 0, none⟩ (.int .i64 op)).setCell ⟨w.heap.size, 1, none⟩ (.int .i64 n)).setCell ⟨w.heap.size, 2, none⟩ (.slice X k.len c)).setCell ⟨w.heap.size + 1, 0, none⟩ (.int .i64 op2)).setCell ⟨w.heap.size + 1, 1, none⟩ (.int .i64 n2)).setCell ⟨w.heap.size + 1, 2, none⟩ (.slice X2 k2.len c2)) := by
  have far : ∀ z, w.heap.size + 2 ≤ z → ((((((V.setCell ⟨w.heap.size, 0, none⟩ (.int .i64 op)).setCell ⟨w.heap.size, 1, none⟩ (.int .i64 n)).setCell ⟨w.heap.size, 2, none⟩ (.slice X k.len c)).setCell ⟨w.heap.size + 1, 0, none⟩ (.int .i64 op2)).setCell ⟨w.heap.size + 1, 1, none⟩ (.int .i64 n2)).setCell ⟨w.heap.size + 1, 2, none⟩ (.slice X2 k2.len c2)).heap[z]? = V.heap[z]? := fun z hz => by
    have e1 : z ≠ w.heap.size := by omega
    have e2 : z ≠ w.heap.size + 1 := by omega
    rw [Below.heap_setCell _ _ _ z e2, Below.heap_setCell _ _ _ z e2, Below.heap_setCell _ _ _ z e2, Below.heap_setCell _ _ _ z e1, Below.heap_setCell _ _ _ z e1, Below.heap_setCell _ _ _ z e1]
  refine ⟨op, n, k, X, c, op2, n2, k2, X2, c2, rfl, ⟨bl, hi, (ht.keep fun z hz => far z (Nat.le_trans h1 (ht.lt z hz).1)).lower (by omega), hs⟩, ⟨bl2, hi2, (ht2.keep fun z hz => far z (Nat.le_trans h2 (ht2.lt z hz).1)).lower (by omega), hs2⟩, ?_⟩
  exact (((((hb.setCell (Nat.le_refl _) _).setCell (Nat.le_refl _) _).setCell (Nat.le_refl _) _).setCell (Nat.le_succ _) _).setCell (Nat.le_succ _) _).setCell (Nat.le_succ _) _

set_option maxHeartbeats 4000000 in
theorem drawExprSame_any (A : Option Addr) (bc : Nat) (bs : List Nat) (w : World) (hB : LiesY w 0 w.heap.size A bs) (hl : bs.length ≤ bc) (hc : bc ≤ maxLen) :
    Calls Try.prog 17 #[.slice A bs.length bc] w (EqPost w) := by
  obtain ⟨W2, hW2⟩ : ∃ W2, W2 = (w.alloc (Obj.cells #[.int .i64 0, .int .i64 0, .slice none 0 0] 25)).alloc (Obj.cells #[.int .i64 0, .int .i64 0, .slice none 0 0] 25) := ⟨_, rfl⟩
  have hb2 : Below w.heap.size w W2 := by rw [hW2]; exact ((Below.refl _ _).alloc (Nat.le_refl _) _).alloc (by simp) _
  have hx1 : Row W2 w.heap.size 25 #[.int .i64 0, .int .i64 0, .slice none 0 0] := by rw [hW2]; exact (Row.fresh _ _ _).alloc _
  have hx2 : Row W2 (w.heap.size + 1) 25 #[.int .i64 0, .int .i64 0, .slice none 0 0] := by
    rw [hW2]
    have := Row.fresh (w.alloc (Obj.cells #[.int .i64 0, .int .i64 0, .slice none 0 0] 25)) 25 #[.int .i64 0, .int .i64 0, .slice none 0 0]
    rw [World.size_alloc] at this
    exact this
  have HCO := Lib.hid (open_any A bc bs W2 ((hB.below hb2).keep (Nat.le_refl _) hb2.size fun _ _ _ => rfl) hl hc)
  have HX1 := Lib.hid hx1
  have HX2 := Lib.hid hx2
  have HB2 := Lib.hid hb2
  clear hb2 hx1 hx2 hB
  go_enter Try.func17, Try.ntmps17
  go_upto_region 1 with fail
  rw [← hW2]
  clear hW2
  go_wp2_with fail
  refine HCO.out.mono ?_
  rintro e w3 ⟨bs2, hl2, rfl, hY3, hr3, hb3, hz3⟩
  obtain ⟨Q, hQ⟩ := lim_ex bs2 hl2 hY3.small
  obtain ⟨g, hg⟩ : ∃ g, g = W2.heap.size := ⟨_, rfl⟩
  obtain ⟨W4, hW4⟩ : ∃ W4, W4 = w3.alloc (Obj.cells #[.int .i64 0, .int .i64 1] 3) := ⟨_, rfl⟩
  have hb4 : Below w3.heap.size w3 W4 := by rw [hW4]; exact (Below.refl _ _).alloc (Nat.le_refl _) _
  have HL4 := Lib.hid (show LiesI W4 (W2.heap.size + 1) W4.heap.size (some ⟨w3.heap.size, 0, none⟩) [0, 1] by rw [hW4]; exact lies_new w3 (W2.heap.size + 1) [0, 1] (by intro x hx; simp at hx; unfold I64; omega) hz3)
  have HAR := Lib.hid (arity_any W4)
  have HR4 := Lib.hid (hr3.below hb4 hz3)
  have HY4 := Lib.hid (hY3.below (hb4.mono hb3.size))
  have HB4 := Lib.hid (hb3.trans (hb4.mono hb3.size))
  have HZ4 := Lib.hid (Nat.lt_of_lt_of_le hz3 hb4.size)
  have HWG := Lib.hid (show w.heap.size + 2 ≤ W2.heap.size from HX2.out.size)
  clear hb3 hb4 hr3 hY3 hz3 HCO hg
  go_wp2_with fail
  rw [← hW4]
  clear hW4
  refine HAR.out.mono ?_
  rintro e w5 ⟨rfl, hw5⟩
  have hb5 : Below W4.heap.size W4 w5 := by rw [hw5]; exact (Below.refl _ _).alloc (Nat.le_refl _) _
  have hA5 : LiesI w5 (W2.heap.size + 1) w5.heap.size (some ⟨W4.heap.size, 0, none⟩) [1, 2, 0, 3, -1, -1, 1, 2] := by rw [hw5]; exact lies_new W4 (W2.heap.size + 1) [1, 2, 0, 3, -1, -1, 1, 2] (by intro x hx; simp at hx; unfold I64; omega) HZ4.out
  have HS := Lib.hid (some_any 4 (by decide) W2.heap.size W2.heap.size A bc bs2 Q 0 0 (some ⟨w3.heap.size, 0, none⟩) 2 [0, 1] (some ⟨W4.heap.size, 0, none⟩) 8 [1, 2, 0, 3, -1, -1, 1, 2] w5 (Row.below HR4.out hb5 HZ4.out) (HY4.out.below (hb5.mono (Nat.le_of_lt HZ4.out))) (Nat.le_refl _) hl2 hQ (Ok.first hQ) (by decide) ((HL4.out.below hb5).mono_ (Nat.le_refl _) hb5.size) (by decide) hA5 (by decide) (by intro x hx; simp at hx; omega))
  have HB5 := Lib.hid (HB4.out.trans (hb5.mono (Nat.le_of_lt HZ4.out)))
  have HY5 := Lib.hid (HY4.out.below (hb5.mono (Nat.le_of_lt HZ4.out)))
  have HZ5 := Lib.hid (Nat.lt_of_lt_of_le HZ4.out hb5.size)
  clear hb5 hA5 hw5 HAR HL4 HR4 HB4 HZ4 HY4
  go_wp2_with fail
  refine HS.out.mono ?_
  rintro e w6 ⟨o, n, k, X, cx, bl, p, rfl, hi, ht, hs, hrd, hok, hon⟩
  obtain ⟨W7, hW7⟩ : ∃ W7, W7 = w6.alloc (Obj.cells #[.int .i64 o, .int .i64 n, .slice X k.len cx] 25) := ⟨_, rfl⟩
  have b7 : Below w6.heap.size w6 W7 := by rw [hW7]; exact (Below.refl _ _).alloc (Nat.le_refl _) _
  have hE7 : Row W7 w6.heap.size 25 #[.int .i64 o, .int .i64 n, .slice X k.len cx] := by rw [hW7]; exact Row.fresh _ _ _
  have h56 : Below W2.heap.size w5 w6 := (hon.mono (Nat.le_of_lt HZ5.out)).below (Nat.le_refl _)
  have hb6 : Below W2.heap.size W2 w6 := HB5.out.trans h56
  have h67 : Below W2.heap.size w6 W7 := b7.mono hb6.size
  have HB7 := Lib.hid (hb6.trans h67)
  have hr7 : Rd W7 W2.heap.size A bc bs2 p := Row.below hrd b7 (Row.size hrd)
  have hy7 : LiesY W7 0 W2.heap.size A bs2 := HY5.out.below (h56.trans h67)
  have HP := Lib.hid (pick_v W2.heap.size W2.heap.size A bc bs2 p 2 W7 hr7 hy7 (Nat.le_refl _) hl2 (hok.pb hQ) (by decide) (by decide))
  have HY7 := Lib.hid hy7
  have HT7 := Lib.hid (ht.over b7)
  have HE7 := Lib.hid hE7
  have HI := Lib.hid hi
  have HS4 := Lib.hid (show k.size + 1 ≤ 121 from Nat.le_trans hs (by decide))
  have HOK := Lib.hid (hok.next hQ (by decide))
  have HZ7 := Lib.hid (show W2.heap.size < w5.heap.size ∧ w5.heap.size ≤ w6.heap.size ∧ w6.heap.size < W7.heap.size from ⟨HZ5.out, hon.size, hE7.size⟩)
  clear hi ht hs hrd hok hon b7 hE7 h56 hb6 h67 hr7 hy7 HS HY5 HB5 HZ5
  go_upto_region 3 with fail
  rw [← hW7]
  clear hW7
  go_wp2_with fail
  refine HP.out.mono ?_
  rintro e w8 ⟨rfl, hr8, hon8⟩
  obtain ⟨x, hx⟩ : ∃ x, x = pkL bs2 p 2 := ⟨_, rfl⟩
  rw [← hx]
  clear hx
  have h78 : Below W2.heap.size W7 w8 := (hon8.mono (by have := HZ7.out; omega)).below (Nat.le_refl _)
  have HB8 := Lib.hid (HB7.out.trans h78)
  have HY8 := Lib.hid (HY7.out.below h78)
  have HR8 := Lib.hid hr8
  have HON8 := Lib.hid hon8
  have HE8 := Lib.hid (HE7.out.only hon8 HE7.out.size (by have := HZ7.out; omega))
  have HZ8 := Lib.hid hon8.size
  have q0 := HE8.out.cell (i := 0) rfl
  have q1 := HE8.out.cell (i := 1) rfl
  have q2 := HE8.out.cell (i := 2) rfl
  have p0 : w8.drew.cell? ⟨w6.heap.size, 0, none⟩ = some (.int .i64 o) := q0
  have p1 : w8.drew.cell? ⟨w6.heap.size, 1, none⟩ = some (.int .i64 n) := q1
  have p2 : w8.drew.cell? ⟨w6.heap.size, 2, none⟩ = some (.slice X k.len cx) := q2
  clear h78 hr8 hon8 HP HY7 HB7 HE7
  by_cases hx0 : x = 0
  · have h0 : ((x : Int) == 0) = true := by simp; omega
    clear hx0
    have bl8 : Below w8.heap.size w8 (w8.alloc (Obj.cells #[.int .i64 0, .int .i64 1] 3)) := (Below.refl _ _).alloc (Nat.le_refl _) _
    have hEl := HE8.out.below bl8 HE8.out.size
    have l0 := hEl.cell (i := 0) rfl
    have l1 := hEl.cell (i := 1) rfl
    have l2 := hEl.cell (i := 2) rfl
    have hEm : Row (w8.alloc (Obj.cells #[.int .i64 0, .int .i64 1] 3)).drew w6.heap.size 25 #[.int .i64 o, .int .i64 n, .slice X k.len cx] := hEl
    have m0 := hEm.cell (i := 0) rfl
    have m1 := hEm.cell (i := 1) rfl
    have m2 := hEm.cell (i := 2) rfl
    clear bl8 hEl hEm
    go_wp2_with fail
    go_region_law (first
      | (refine step_call (f := 38) rfl (by kernel_rfl) HS.out ?_
         rintro e w10 ⟨o2, n2, k2, X2, cx2, bl2, p', rfl, hi2, ht2, hs2, -, -, hon10⟩
         refine ⟨_, rfl, ?_⟩
         have hon : Only W2.heap.size W7.heap.size W7 w10 := HON8.out.trans ((Only.of_below (HBV.out.mono HZ8.out)).trans (hon10.mono (Nat.le_trans HZ8.out HBV.out.size)))
         have hEf := HE8.out.only ((Only.of_below HBV.out).trans (hon10.mono HBV.out.size)) HE8.out.size (by have := HZ7.out; omega)
         have hbf : Below W2.heap.size W2 w10 := HB8.out.trans ((((Only.of_below (g := W2.heap.size) HBV.out).trans (hon10.mono HBV.out.size)).mono (by have := HZ7.out; have := HZ8.out; omega)).below (Nat.le_refl _))
         have hX1 := HX1.out.below hbf (by have := HWG.out; omega)
         have hX2 := HX2.out.below hbf (by have := HWG.out; omega)
         have u0 := hEf.cell (i := 0) rfl
         have u1 := hEf.cell (i := 1) rfl
         have u2 := hEf.cell (i := 2) rfl
         have f0 := hX1.free 0
         have f1 := hX1.free 1
         have f2 := hX1.free 2
         have f3 := hX2.free 0
         have f4 := hX2.free 1
         have f5 := hX2.free 2
         have d0 := hX1.cell (i := 0) rfl
         have d1 := hX1.cell (i := 1) rfl
         have d2 := hX1.cell (i := 2) rfl
         have d3 := hX2.cell (i := 0) rfl
         have d4 := hX2.cell (i := 1) rfl
         have d5 := hX2.cell (i := 2) rfl
         have HONF := Lib.hid hon
         have HBF := Lib.hid hbf
         have HXF1 := Lib.hid hX1
         have HXF2 := Lib.hid hX2
         have HI2 := Lib.hid hi2
         have HT2 := Lib.hid ht2
         have HK2 := Lib.hid (show k2.size + 1 ≤ 121 from Nat.le_trans hs2 (by decide))
         clear hon hbf hX1 hX2 hEf hi2 ht2 hs2 hon10)
      | (refine step_call (f := 39) rfl (by kernel_rfl) (arity_any _) ?_
         rintro e w9 ⟨rfl, hw9⟩
         refine ⟨_, rfl, ?_⟩
         first
         | (have hb9 : Below w8.heap.size w8 w9 := by rw [hw9]; exact ((Below.refl w8.heap.size w8).drew).alloc (Nat.le_refl _) _
            have hA9 : LiesI w9 (W2.heap.size + 1) w9.heap.size (some ⟨w8.heap.size, 0, none⟩) [1, 2, 0, 3, -1, -1, 1, 2] := by rw [hw9]; exact lies_new w8.drew (W2.heap.size + 1) [1, 2, 0, 3, -1, -1, 1, 2] (by intro x hx; simp at hx; unfold I64; omega) HR8.out.size
            have bV : Below w9.heap.size w9 (w9.alloc (Obj.cells #[.int .i64 0, .int .i64 1] 3)) := (Below.refl _ _).alloc (Nat.le_refl _) _
            have hbV := hb9.trans (bV.mono hb9.size)
            have hL : LiesI (w9.alloc (Obj.cells #[.int .i64 0, .int .i64 1] 3)) (W2.heap.size + 1) (w9.alloc (Obj.cells #[.int .i64 0, .int .i64 1] 3)).heap.size (some ⟨w9.heap.size, 0, none⟩) [0, 1] := lies_new w9 (W2.heap.size + 1) [0, 1] (by intro x hx; simp at hx; unfold I64; omega) (Nat.le_trans HR8.out.size hb9.size)
            have HS := Lib.hid (some_any 4 (by decide) W2.heap.size W2.heap.size A bc bs2 Q (p + 1) (0 + costD 4 + 1) (some ⟨w9.heap.size, 0, none⟩) 2 [0, 1] (some ⟨w8.heap.size, 0, none⟩) 8 [1, 2, 0, 3, -1, -1, 1, 2] (w9.alloc (Obj.cells #[.int .i64 0, .int .i64 1] 3)) (Row.below HR8.out hbV HR8.out.size) (HY8.out.below (hbV.mono (by have := HZ7.out; have := HZ8.out; omega))) (Nat.le_refl _) hl2 hQ HOK.out (by decide) hL (by decide) ((hA9.below bV).mono_ (Nat.le_refl _) bV.size) (by decide) (by intro x hx; simp at hx; omega))
            have hE9 := HE8.out.below hb9 HE8.out.size
            have hEV := HE8.out.below hbV HE8.out.size
            have y0 := hE9.cell (i := 0) rfl
            have y1 := hE9.cell (i := 1) rfl
            have y2 := hE9.cell (i := 2) rfl
            have z0 := hEV.cell (i := 0) rfl
            have z1 := hEV.cell (i := 1) rfl
            have z2 := hEV.cell (i := 2) rfl
            have HBV := Lib.hid hbV
            clear hb9 hA9 bV hbV hL hE9 hEV hw9)
         | (have bV : Below w8.heap.size w8 (w8.alloc (Obj.cells #[.int .i64 0, .int .i64 1] 3)) := (Below.refl _ _).alloc (Nat.le_refl _) _
            have b9 : Below (w8.alloc (Obj.cells #[.int .i64 0, .int .i64 1] 3)).heap.size (w8.alloc (Obj.cells #[.int .i64 0, .int .i64 1] 3)) w9 := by rw [hw9]; exact ((Below.refl _ (w8.alloc (Obj.cells #[.int .i64 0, .int .i64 1] 3))).drew).alloc (Nat.le_refl _) _
            have hb9 : Below w8.heap.size w8 w9 := bV.trans (b9.mono bV.size)
            have hA9 : LiesI w9 (W2.heap.size + 1) w9.heap.size (some ⟨w8.heap.size + 1, 0, none⟩) [1, 2, 0, 3, -1, -1, 1, 2] := by
              have := lies_new (w8.alloc (Obj.cells #[.int .i64 0, .int .i64 1] 3)).drew (W2.heap.size + 1) [1, 2, 0, 3, -1, -1, 1, 2] (by intro x hx; simp at hx; unfold I64; omega) (Nat.le_trans HR8.out.size bV.size)
              rw [show (w8.alloc (Obj.cells #[.int .i64 0, .int .i64 1] 3)).drew.heap.size = w8.heap.size + 1 from World.size_alloc _ _] at this
              rw [hw9]
              exact this
            have hL : LiesI w9 (W2.heap.size + 1) w9.heap.size (some ⟨w8.heap.size, 0, none⟩) [0, 1] := ((lies_new w8 (W2.heap.size + 1) [0, 1] (by intro x hx; simp at hx; unfold I64; omega) HR8.out.size).below b9).mono_ (Nat.le_refl _) b9.size
            have HS := Lib.hid (some_any 4 (by decide) W2.heap.size W2.heap.size A bc bs2 Q (p + 1) (0 + costD 4 + 1) (some ⟨w8.heap.size, 0, none⟩) 2 [0, 1] (some ⟨w8.heap.size + 1, 0, none⟩) 8 [1, 2, 0, 3, -1, -1, 1, 2] w9 (Row.below HR8.out hb9 HR8.out.size) (HY8.out.below (hb9.mono (by have := HZ7.out; have := HZ8.out; omega))) (Nat.le_refl _) hl2 hQ HOK.out (by decide) hL (by decide) hA9 (by decide) (by intro x hx; simp at hx; omega))
            have hE9 := HE8.out.below hb9 HE8.out.size
            have y0 := hE9.cell (i := 0) rfl
            have y1 := hE9.cell (i := 1) rfl
            have y2 := hE9.cell (i := 2) rfl
            have HBV := Lib.hid hb9
            clear bV b9 hb9 hA9 hL hE9 hw9)))
    all_goals
      go_wp2_with fail
      have r7 := ((HXF1.out.put 0 (.int .i64 o)).put 1 (.int .i64 n)).put 2 (.slice X k.len cx)
      have r8 := (((((HXF2.out.apart (p := ⟨w.heap.size, 0, none⟩) (by dsimp only; omega) (.int .i64 o)).apart (p := ⟨w.heap.size, 1, none⟩) (by dsimp only; omega) (.int .i64 n)).apart (p := ⟨w.heap.size, 2, none⟩) (by dsimp only; omega) (.slice X k.len cx)).put 0 (.int .i64 o2)).put 1 (.int .i64 n2)).put 2 (.slice X2 k2.len cx2)
      have r9 := ((r7.apart (p := ⟨w.heap.size + 1, 0, none⟩) (by dsimp only; omega) (.int .i64 o2)).apart (p := ⟨w.heap.size + 1, 1, none⟩) (by dsimp only; omega) (.int .i64 n2)).apart (p := ⟨w.heap.size + 1, 2, none⟩) (by dsimp only; omega) (.slice X2 k2.len cx2)
      have t0 := r9.cell (i := 0) rfl
      have t1 := r9.cell (i := 1) rfl
      have t2 := r9.cell (i := 2) rfl
      have t3 := r8.cell (i := 0) rfl
      have t4 := r8.cell (i := 1) rfl
      have t5 := r8.cell (i := 2) rfl
      refine bodyPost_ret (v := .tuple #[.agg #[.int .i64 o, .int .i64 n, .slice X k.len cx], .agg #[.int .i64 o2, .int .i64 n2, .slice X2 k2.len cx2]]) ?_ rfl (eq_end (HT7.out.keep fun z hz => HONF.out.block z (HT7.out.lt z hz).2 (by have := (HT7.out.lt z hz).1; have := HZ7.out; omega)) HT2.out (by have := HWG.out; have := HZ7.out; omega) (by have := HWG.out; have := HZ7.out; have := HZ8.out; have := HBV.out.size; omega) HI.out HI2.out (by have := HS4.out; omega) (by have := HK2.out; omega) (HB2.out.trans (HBF.out.mono HB2.out.size)))
      simp [results, Try.f17, go_sem, t0, t1, t2, t3, t4, t5]
  have h0 : ((x : Int) == 0) = false := by simp; omega
  clear hx0
  have hl8 : Lies w8 0 w8.heap.size X 0 k := ((HT7.out.keep (w' := w8) fun z hz => HON8.out.block z (HT7.out.lt z hz).2 (by have := (HT7.out.lt z hz).1; have := HZ7.out; omega)).held).1
  have HL8 := Lib.hid (show Lies w8.drew 0 w8.drew.heap.size X 0 k from (hl8.below ((Below.refl w8.heap.size w8).drew)).mono_ (Nat.le_refl _) (Nat.le_refl _))
  clear hl8
  have HC1 := Lib.hid (mut_any (Q - (p + 1)) W2.heap.size W2.heap.size A bc bs2 Q (p + 1) (0 + costD 4 + 1) o n k X cx w8.drew rfl HR8.out HY8.out.drew (Nat.le_refl _) hl2 hQ HOK.out (by decide) HL8.out HI.out (by have := HS4.out; omega))
  go_wp2_with fail
  go_region_law (first
    | (refine step_call (f := 40) rfl (by kernel_rfl) HC2.out ?_
       rintro e w10 ⟨o2, n2, k2, X2, cx2, bl2, p', rfl, hi2, ht2, hs2, -, hok2, hon10⟩
       refine ⟨_, rfl, ?_⟩
       have hon : Only W2.heap.size W7.heap.size W7 w10 := HON9.out.trans (hon10.mono HON9.out.size)
       have hEf := HE9.out.only hon10 HE9.out.size (by have := HZ7.out; omega)
       have hbf : Below W2.heap.size W2 w10 := HB9.out.trans ((hon10.mono HB9.out.size).below (Nat.le_refl _))
       have hX1 := HX1.out.below hbf (by have := HWG.out; omega)
       have hX2 := HX2.out.below hbf (by have := HWG.out; omega)
       have u0 := hEf.cell (i := 0) rfl
       have u1 := hEf.cell (i := 1) rfl
       have u2 := hEf.cell (i := 2) rfl
       have f0 := hX1.free 0
       have f1 := hX1.free 1
       have f2 := hX1.free 2
       have f3 := hX2.free 0
       have f4 := hX2.free 1
       have f5 := hX2.free 2
       have d0 := hX1.cell (i := 0) rfl
       have d1 := hX1.cell (i := 1) rfl
       have d2 := hX1.cell (i := 2) rfl
       have d3 := hX2.cell (i := 0) rfl
       have d4 := hX2.cell (i := 1) rfl
       have d5 := hX2.cell (i := 2) rfl
       have HONF := Lib.hid hon
       have HBF := Lib.hid hbf
       have HXF1 := Lib.hid hX1
       have HXF2 := Lib.hid hX2
       have HI2 := Lib.hid hi2
       have HT2 := Lib.hid ht2
       have HK2 := Lib.hid (show k2.size ≤ 500300 by have := HK9.out; have := hok2.lt; have := hQ.1; omega)
       clear hon hbf hX1 hX2 hEf hi2 ht2 hs2 hon10 hok2)
    | (refine step_call (f := 40) rfl (by kernel_rfl) HC1.out ?_
       rintro e w9 ⟨o9, n9, k9, X9, cx9, bl9, p9, rfl, hi9, ht9, hs9, hrd9, hok9, hon9⟩
       refine ⟨_, rfl, ?_⟩
       have hon9' : Only W2.heap.size w8.heap.size w8 w9 := ((Only.refl W2.heap.size w8.heap.size w8).drew).trans hon9
       have hE9 := HE8.out.only hon9' HE8.out.size (by have := HZ7.out; omega)
       have y0 := hE9.cell (i := 0) rfl
       have y1 := hE9.cell (i := 1) rfl
       have y2 := hE9.cell (i := 2) rfl
       have h89 : Below W2.heap.size w8 w9 := (hon9'.mono (by have := HZ7.out; have := HZ8.out; omega)).below (Nat.le_refl _)
       have HC2 := Lib.hid (mut_any (Q - p9) W2.heap.size W2.heap.size A bc bs2 Q p9 (0 + costD 4 + 1 + 2) o9 n9 k9 X9 cx9 w9 rfl hrd9 (HY8.out.below h89) (Nat.le_refl _) hl2 hQ hok9 (by decide) ht9.held.1 hi9 (by have := HS4.out; omega))
       have HE9 := Lib.hid hE9
       have HON9 := Lib.hid (HON8.out.trans (hon9'.mono HON8.out.size))
       have HB9 := Lib.hid (HB8.out.trans h89)
       have HK9 := Lib.hid (show k9.size ≤ 121 + p9 by have := HS4.out; omega)
       have HZ9 := Lib.hid hon9'.size
       clear hi9 ht9 hs9 hrd9 hok9 hon9 hon9' hE9 h89))
  all_goals
    go_wp2_with fail
    have r7 := ((HXF1.out.put 0 (.int .i64 o)).put 1 (.int .i64 n)).put 2 (.slice X k.len cx)
    have r8 := (((((HXF2.out.apart (p := ⟨w.heap.size, 0, none⟩) (by dsimp only; omega) (.int .i64 o)).apart (p := ⟨w.heap.size, 1, none⟩) (by dsimp only; omega) (.int .i64 n)).apart (p := ⟨w.heap.size, 2, none⟩) (by dsimp only; omega) (.slice X k.len cx)).put 0 (.int .i64 o2)).put 1 (.int .i64 n2)).put 2 (.slice X2 k2.len cx2)
    have r9 := ((r7.apart (p := ⟨w.heap.size + 1, 0, none⟩) (by dsimp only; omega) (.int .i64 o2)).apart (p := ⟨w.heap.size + 1, 1, none⟩) (by dsimp only; omega) (.int .i64 n2)).apart (p := ⟨w.heap.size + 1, 2, none⟩) (by dsimp only; omega) (.slice X2 k2.len cx2)
    have t0 := r9.cell (i := 0) rfl
    have t1 := r9.cell (i := 1) rfl
    have t2 := r9.cell (i := 2) rfl
    have t3 := r8.cell (i := 0) rfl
    have t4 := r8.cell (i := 1) rfl
    have t5 := r8.cell (i := 2) rfl
    refine bodyPost_ret (v := .tuple #[.agg #[.int .i64 o, .int .i64 n, .slice X k.len cx], .agg #[.int .i64 o2, .int .i64 n2, .slice X2 k2.len cx2]]) ?_ rfl (eq_end (HT7.out.keep fun z hz => HONF.out.block z (HT7.out.lt z hz).2 (by have := (HT7.out.lt z hz).1; have := HZ7.out; omega)) HT2.out (by have := HWG.out; have := HZ7.out; omega) (by have := HWG.out; have := HZ7.out; have := HZ8.out; have := HZ9.out; omega) HI.out HI2.out (by have := HS4.out; omega) HK2.out (HB2.out.trans (HBF.out.mono HB2.out.size)))
    simp [results, Try.f17, go_sem, t0, t1, t2, t3, t4, t5]
end Go.Proofs.Ytahjekhngaileaa
