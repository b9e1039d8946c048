/-
  spec.DrawFormatChange.
-/
import Derived.Test.YtancnbbmlidokaaSrc
import Derived.Test.YtancnbbmlidokaaFmtChN
namespace Go.Proofs.Ytancnbbmlidokaa
open Go.RowKit Go.Shelf
set_option maxRecDepth 100000

/-- A change was drawn. -/
def ChgPost (w : World) (e : Ending) (w' : World) : Prop :=
  ∃ k n : Int, e = .returned (.agg #[.int .i64 k, .int .i64 n]) ∧ Below w.heap.size w w'

theorem ints_new (w : World) (L : Nat) (zs : List Int) (hI : ∀ x, x ∈ zs → I64 x) (hL : L ≤ w.heap.size) : LiesI (w.alloc (.cells (zs.map (Value.int .i64)).toArray 3)) L (w.alloc (.cells (zs.map (Value.int .i64)).toArray 3)).heap.size (some ⟨w.heap.size, 0, none⟩) zs := by
  intro i x hx
  have hr : Row (w.alloc (.cells (zs.map (Value.int .i64)).toArray 3)) w.heap.size 3 (zs.map (Value.int .i64)).toArray := Row.fresh _ _ _
  exact ⟨w.heap.size, 0, rfl, hL, hr.size, hI x (List.mem_of_getElem? hx), by rw [Nat.zero_add]; exact hr.cell (i := i) (by rw [List.getElem?_toArray, List.getElem?_map, hx]; rfl)⟩

theorem liesY_only1 {w V : World} {g base : Nat} {A : Option Addr} {bs : List Nat} (h : LiesY w 0 base A bs) (hon : Only g w.heap.size w V) (hb : base ≤ w.heap.size) (hg : base ≤ g) : LiesY V 0 base A bs := h.below ((hon.mono hb).below hg)

set_option maxHeartbeats 2000000 in
theorem drawFC_any (A : Option Addr) (bc : Nat) (bs : List Nat) (w : World) (hB : LiesY w 0 w.heap.size A bs) (hl : bs.length ≤ bc) (hc : bc ≤ maxLen) :
    Calls Try.prog 4 #[.slice A bs.length bc] w (ChgPost w) := by
  obtain ⟨W1, hW1⟩ : ∃ W1, W1 = w.alloc (Obj.cells #[.int .i64 0, .int .i64 0] 24) := ⟨_, rfl⟩
  have hb1 : Below w.heap.size w W1 := by rw [hW1]; exact (Below.refl _ _).alloc (Nat.le_refl _) _
  have hx1 : Row W1 w.heap.size 24 #[.int .i64 0, .int .i64 0] := by rw [hW1]; exact Row.fresh _ _ _
  have hY1 : LiesY W1 0 W1.heap.size A bs := (hB.below hb1).keep (Nat.le_refl _) hb1.size fun _ _ _ => rfl
  have HCO := Lib.hid (open_any A bc bs W1 hY1 hl hc)
  have HX1 := Lib.hid hx1
  have HB1 := Lib.hid hb1
  have HG1 := Lib.hid hx1.size
  clear hb1 hx1 hB hY1
  go_enter Try.func4, Try.ntmps4
  go_upto_region 1 with fail
  rw [← hW1]
  clear hW1
  go_wp2_with fail
  refine HCO.out.mono ?_
  rintro e w4 ⟨bs2, hl2, rfl, hY4, hr4, hb4, hz4⟩
  have HX4 := Lib.hid (HX1.out.below hb4 HX1.out.size)
  have HB4 := Lib.hid (HB1.out.trans (hb4.mono HB1.out.size))
  clear hb4 HCO HX1 HB1
  have ba := (Below.refl w4.heap.size w4).alloc (Nat.le_refl _) (Obj.cells #[.int .i64 1, .int .i64 2, .int .i64 3, .int .i64 4, .int .i64 5, .int .i64 6, .int .i64 0, .int .i64 7] 3)
  have hXa := HX4.out.below (ba.mono (Nat.le_refl _)) HX4.out.size
  have hYa := hY4.below (ba.mono (Nat.le_of_lt hz4))
  have hza : W1.heap.size < (w4.alloc (Obj.cells #[.int .i64 1, .int .i64 2, .int .i64 3, .int .i64 4, .int .i64 5, .int .i64 6, .int .i64 0, .int .i64 7] 3)).heap.size := Nat.lt_of_lt_of_le hz4 ba.size
  have HN := Lib.hid (num_v W1.heap.size W1.heap.size A bc bs2 0 (some ⟨w4.heap.size, 0, none⟩) 8 [1, 2, 3, 4, 5, 6, 0, 7] _ (Row.below hr4 ba hz4) hYa (Nat.le_refl _) hl2 (by decide) (ints_new w4 (W1.heap.size + 1) [1, 2, 3, 4, 5, 6, 0, 7] (by intro x hx; simp at hx; unfold I64; omega) hz4) (by decide) (by decide))
  have HXA := Lib.hid hXa
  have HYA := Lib.hid hYa
  have HZA := Lib.hid hza
  have HBA := Lib.hid (HB4.out.trans (ba.mono HB4.out.size))
  clear ba hr4 hY4 hz4 HX4 HB4 hXa hYa hza
  go_wp2_with fail
  refine HN.out.mono ?_
  rintro e w5 ⟨y, -, -, rfl, hr5, hon5⟩
  have hX5 := HXA.out.only hon5 (Nat.lt_trans HG1.out HZA.out) (Nat.ne_of_lt HG1.out)
  have hz5 := Nat.lt_of_lt_of_le HZA.out hon5.size
  have hY5 := liesY_only1 HYA.out hon5 (Nat.le_of_lt HZA.out) (Nat.le_refl _)
  have ba := (Below.refl w5.heap.size w5).alloc (Nat.le_refl _) (Obj.cells #[.int .i64 0, .int .i64 1, .int .i64 2, .int .i64 7, .int .i64 8, .int .i64 (-1)] 3)
  have HN2 := Lib.hid (num_v W1.heap.size W1.heap.size A bc bs2 1 (some ⟨w5.heap.size, 0, none⟩) 6 [0, 1, 2, 7, 8, -1] _ (Row.below hr5 ba hz5) (hY5.below (ba.mono (Nat.le_of_lt hz5))) (Nat.le_refl _) hl2 (by decide) (ints_new w5 (W1.heap.size + 1) [0, 1, 2, 7, 8, -1] (by intro x hx; simp at hx; unfold I64; omega) hz5) (by decide) (by decide))
  have HB5 := Lib.hid (HBA.out.trans (((hon5.mono HBA.out.size).below (Nat.le_of_lt HG1.out)).trans (ba.mono (Nat.le_trans HBA.out.size hon5.size))))
  have HX5 := Lib.hid (hX5.below ba (Nat.lt_trans HG1.out hz5))
  have HZ5 := Lib.hid (Nat.lt_of_lt_of_le hz5 ba.size)
  clear ba hz5 hY5 hX5 hr5 hon5 HN HBA HZA HYA HXA
  go_wp2_with fail
  refine HN2.out.mono ?_
  rintro e w6 ⟨z, -, -, rfl, -, hon6⟩
  have hX6 := HX5.out.only hon6 (Nat.lt_trans HG1.out HZ5.out) (Nat.ne_of_lt HG1.out)
  have HX6 := Lib.hid hX6
  have HB6 := Lib.hid (HB5.out.trans ((hon6.mono HB5.out.size).below (Nat.le_of_lt HG1.out)))
  have f0 := hX6.free 0
  have f1 := hX6.free 1
  have d0 := hX6.cell (i := 0) rfl
  have d1 := hX6.cell (i := 1) rfl
  clear hX6 hon6 HN2 HX5 HB5 HZ5
  go_wp2_with fail
  have r7 := (HX6.out.put 0 (.int .i64 y)).put 1 (.int .i64 z)
  have t0 := r7.cell (i := 0) rfl
  have t1 := r7.cell (i := 1) rfl
  refine bodyPost_ret (v := .agg #[.int .i64 y, .int .i64 z]) ?_ rfl ⟨y, z, rfl, (HB6.out.setCell (Nat.le_refl _) _).setCell (Nat.le_refl _) _⟩
  simp [results, Try.f4, go_sem, t0, t1]
end Go.Proofs.Ytancnbbmlidokaa
