/-
  The walk of the law FnExactReplaceAt: true at every argument (made by gen_law.py).
-/
import Derived.Test.YtababbjblaafiaaReplT
import Derived.Test.YtababbjblaafiaaReplI
import Derived.Test.YtababbjblaafiaaNodeM
import Derived.Test.YtababbjblaafiaaTools
import Derived.Test.YtababbjblaafiaaMk
import Derived.Test.YtababbjblaafiaaInts
import Derived.Test.YtababbjblaafiaaIntsM
import Derived.Test.YtababbjblaafiaaFo
import Derived.Deep.RegionHeld3
namespace Go.Proofs.Ytababbjblaafiaa
open Go.RowKit
set_option maxRecDepth 100000

theorem Tree.putL {w : World} {base : Nat} {v : Value} {f : Fo} {bs : List Nat} (h : Tree w base v f bs) {p : Addr} (hp : p.block < base) (u : Value) : Tree (w.setCell p u) base v f bs :=
  h.keep fun q hq => Below.heap_setCell w p u q (by have := (h.lt q hq).1; omega)

set_option maxHeartbeats 8000000 in
theorem law_ReplaceAt (op1 n1 : Int) (k1 : Fo) (A1 : Option Addr) (c1 : Nat) (zs2 : List Int) (A2 : Option Addr) (c2 : Nat) (op3 n3 : Int) (k3 : Fo) (A3 : Option Addr) (c3 : Nat) (w : World) (hl1 : Lies w 0 w.heap.size A1 0 k1) (hlen1 : k1.len ≤ maxLen) (hi1 : I64 op1 ∧ I64 n1) (hl2 : LiesI w 0 w.heap.size A2 zs2) (hlen2 : zs2.length ≤ maxLen) (hl3 : Lies w 0 w.heap.size A3 0 k3) (hlen3 : k3.len ≤ maxLen) (hi3 : I64 op3 ∧ I64 n3) :
    Calls Try.prog 3 #[.agg #[.int .i64 op1, .int .i64 n1, .slice A1 k1.len c1], .slice A2 zs2.length c2, .agg #[.int .i64 op3, .int .i64 n3, .slice A3 k3.len c3]] w (Gives (.bool true) w) := by
  obtain ⟨y, hy⟩ : ∃ y, y = (resR ⟨op1, n1, k1⟩ zs2 ⟨op3, n3, k3⟩).getD nd0 := ⟨_, rfl⟩
  obtain ⟨ok, hok⟩ : ∃ ok, ok = (resR ⟨op1, n1, k1⟩ zs2 ⟨op3, n3, k3⟩).isSome := ⟨_, rfl⟩
  have hys : y.k.size ≤ 1048576 := by rw [hy]; exact resR_le _ _ _
  have HY := Lib.hid hy
  have HOK := Lib.hid hok
  clear hy hok
  obtain ⟨hb, r1, r2⟩ := two_boxes w 24 24 #[Value.int IntKind.i64 op1, Value.int IntKind.i64 n1, Value.slice A1 k1.len c1] #[Value.int IntKind.i64 op3, Value.int IntKind.i64 n3, Value.slice A3 k3.len c3]
  have HX1 := Lib.hid r1
  have HX3 := Lib.hid r2
  clear r1 r2
  have HB := Lib.hid hb
  have HS := Lib.hid (And.intro hb.size (show w.heap.size + 2 ≤ ((w.alloc (Obj.cells #[Value.int IntKind.i64 op1, Value.int IntKind.i64 n1, Value.slice A1 k1.len c1] 24)).alloc (Obj.cells #[Value.int IntKind.i64 op3, Value.int IntKind.i64 n3, Value.slice A3 k3.len c3] 24)).heap.size from by simp))
  clear hb
  have HL1 := Lib.hid hl1
  clear hl1
  have HL2 := Lib.hid hl2
  clear hl2
  have HL3 := Lib.hid hl3
  clear hl3
  by_cases hsz2 : zs2.length ≤ 1048576
  rotate_left
  · have hgt : ¬ zs2.length ≤ 1048576 := hsz2
    have hgt2 : 1048576 < zs2.length := by omega
    have hl9 := hlen2
    unfold maxLen at hl9
    go_enter Try.func3, Try.ntmps3
    go_wp2
    go_ret
    exact ⟨rfl, HB.out⟩
  go_enter Try.func3, Try.ntmps3
  go_wp2_with fail
  refine (szExpr_any op1 n1 k1 A1 c1 _ 1048576 (HL1.out.up HB.out) hlen1 (by decide) (by decide)).mono ?_
  rintro e w1 ⟨r1, rfl, hr1, hb⟩
  have HB' := Lib.hid (HB.out.trans (hb.mono HB.out.size))
  have HX1' := Lib.hid (HX1.out.below hb HX1.out.size)
  have HX3' := Lib.hid (HX3.out.below hb HX3.out.size)
  have HS' := Lib.hid (And.intro hb.size HS.out)
  clear hb HB HX1 HX3 HS
  have HB := HB'
  have HX1 := HX1'
  have HX3 := HX3'
  have HS := HS'
  clear HB' HX1' HX3' HS'
  rcases hr1 with rfl | ⟨hrz1, hr1⟩
  · go_wp2
    go_ret
    exact ⟨rfl, HB.out⟩
  have hsz1 : k1.size ≤ 1048576 := by omega
  have hrb1 : r1 ≤ 1048576 := by omega
  clear hr1
  have qHX3_0 := HX3.out.cell (i := 0) rfl
  have qHX3_1 := HX3.out.cell (i := 1) rfl
  have qHX3_2 := HX3.out.cell (i := 2) rfl
  go_wp2_with fail
  refine (szExpr_any op3 n3 k3 A3 c3 _ r1 (HL3.out.up HB.out) hlen3 hrz1 hrb1).mono ?_
  rintro e w2 ⟨r3, rfl, hr3, hb⟩
  clear qHX3_0 qHX3_1 qHX3_2
  have HB' := Lib.hid (HB.out.trans (hb.mono HB.out.size))
  have HX1' := Lib.hid (HX1.out.below hb HX1.out.size)
  have HX3' := Lib.hid (HX3.out.below hb HX3.out.size)
  have HS' := Lib.hid (And.intro hb.size HS.out)
  clear hb HB HX1 HX3 HS
  have HB := HB'
  have HX1 := HX1'
  have HX3 := HX3'
  have HS := HS'
  clear HB' HX1' HX3' HS'
  rcases hr3 with rfl | ⟨hrz3, hr3⟩
  · go_wp2
    go_ret
    exact ⟨rfl, HB.out⟩
  have hsz3 : k3.size ≤ 1048576 := by omega
  have hrb3 : r3 ≤ 1048576 := by omega
  clear hr3
  go_upto_region 10 with fail
  have hS : ∀ w' : World, Below w2.heap.size w2 w' → w'.cell? ⟨w.heap.size, 0, none⟩ = some (Value.int IntKind.i64 op1) ∧ w'.cell? ⟨w.heap.size, 1, none⟩ = some (Value.int IntKind.i64 n1) ∧ w'.cell? ⟨w.heap.size, 2, none⟩ = some (Value.slice A1 k1.len c1) ∧ w'.cell? ⟨w.heap.size + 1, 0, none⟩ = some (Value.int IntKind.i64 op3) ∧ w'.cell? ⟨w.heap.size + 1, 1, none⟩ = some (Value.int IntKind.i64 n3) ∧ w'.cell? ⟨w.heap.size + 1, 2, none⟩ = some (Value.slice A3 k3.len c3) := fun w' hb => ⟨(hb.cell (p := ⟨w.heap.size, 0, none⟩) HX1.out.size).trans (HX1.out.cell (i := 0) rfl), (hb.cell (p := ⟨w.heap.size, 1, none⟩) HX1.out.size).trans (HX1.out.cell (i := 1) rfl), (hb.cell (p := ⟨w.heap.size, 2, none⟩) HX1.out.size).trans (HX1.out.cell (i := 2) rfl), (hb.cell (p := ⟨w.heap.size + 1, 0, none⟩) HX3.out.size).trans (HX3.out.cell (i := 0) rfl), (hb.cell (p := ⟨w.heap.size + 1, 1, none⟩) HX3.out.size).trans (HX3.out.cell (i := 1) rfl), (hb.cell (p := ⟨w.heap.size + 1, 2, none⟩) HX3.out.size).trans (HX3.out.cell (i := 2) rfl)⟩
  have HSS := Lib.hid hS
  clear hS
  have HT1 := Lib.hid (fun (w' : World) (hb' : Below w2.heap.size w2 w') => toExpr_any op1 n1 k1 A1 c1 w' ((HL1.out.up HB.out).up hb') hsz1)
  have HT2 := Lib.hid (fun (w' : World) (hb' : Below w2.heap.size w2 w') => toIntS_any zs2 A2 c2 w' ((HL2.out.up HB.out).up hb') hsz2)
  have HT3 := Lib.hid (fun (w' : World) (hb' : Below w2.heap.size w2 w') => toExpr_any op3 n3 k3 A3 c3 w' ((HL3.out.up HB.out).up hb') hsz3)
  go_cut [8, 9] from 33 to 42 (fun p s wd => ∃ g A9 c9 b9, p = .pointer (some ⟨g, 0, none⟩) ∧ s = .bool ok ∧ Row wd g 29 #[.int .i64 y.op, .int .i64 y.n, .slice A9 y.k.len c9] ∧ w2.heap.size ≤ g ∧ Tree wd w2.heap.size (.slice A9 y.k.len c9) y.k b9 ∧ Below w2.heap.size w2 wd)
  case first =>
    have b0 : Below w2.heap.size w2 w2.drew := (Below.refl _ _).drew
    have bp : Below w2.heap.size w2 (w2.alloc (Obj.cells #[Value.int .i64 0, Value.int .i64 0, Value.slice none 0 0] 29)).drew := ((Below.refl _ _).alloc (Nat.le_refl _) _).drew
    have C0 := Lib.hid (HT1.out _ b0)
    have CP := Lib.hid (HT1.out _ bp)
    have s0 := HSS.out _ b0
    have sp := HSS.out _ bp
    have B0 := Lib.hid b0
    have BP := Lib.hid bp
    have RP := Lib.hid (show Row (w2.alloc (Obj.cells #[Value.int .i64 0, Value.int .i64 0, Value.slice none 0 0] 29)).drew w2.heap.size 29 #[Value.int .i64 0, Value.int .i64 0, Value.slice none 0 0] from (Row.fresh _ _ _).drew)
    clear b0 bp
    go_region_held3 (fun w' => w'.cell? ⟨w.heap.size, 0, none⟩ = some (Value.int IntKind.i64 op1) ∧ w'.cell? ⟨w.heap.size, 1, none⟩ = some (Value.int IntKind.i64 n1) ∧ w'.cell? ⟨w.heap.size, 2, none⟩ = some (Value.slice A1 k1.len c1) ∧ w'.cell? ⟨w.heap.size + 1, 0, none⟩ = some (Value.int IntKind.i64 op3) ∧ w'.cell? ⟨w.heap.size + 1, 1, none⟩ = some (Value.int IntKind.i64 n3) ∧ w'.cell? ⟨w.heap.size + 1, 2, none⟩ = some (Value.slice A3 k3.len c3))
      (first | with_reducible exact s0 | with_reducible exact sp | with_reducible exact s1 | with_reducible exact s1l | with_reducible exact s2 | with_reducible exact s2l | with_reducible exact s3 | with_reducible exact s3l | with_reducible exact s3_ | with_reducible exact s4_ | with_reducible exact s3z | fail)
      (first
        | (go_at_call 5
           with_reducible refine (specRepl_any op1 n1 k1 As1 cs1 zs2 As2 cs2 op3 n3 k3 As3 cs3 _ LT1_3.out (Nat.le_trans hks1 hcs1) LT3_3.out (Nat.le_trans hks3 hcs3) LT2_3.out hsz2 hks2 hcs2 hsz1 hsz3 hi1 hi3).mono ?_
           rintro e vd ⟨A5, c5, b5, rfl, ht5, hb5⟩
           rw [← HY.out] at ht5
           rw [← HY.out, ← HOK.out]
           have hb := B3.out.trans (hb5.mono B3.out.size)
           have r5 := (RL0_3.out).below hb5 ((RL0_3.out).size)
           have f0 := r5.free 0
           have f1 := r5.free 1
           have f2 := r5.free 2
           have d0 := r5.cell (i := 0) rfl
           have d1 := r5.cell (i := 1) rfl
           have d2 := r5.cell (i := 2) rfl
           have hgl : w2.heap.size ≤ w2.heap.size := by first | exact Nat.le_refl _ | exact B1.out.size | exact B2.out.size | exact B3.out.size
           have hbs := ((hb.setCell (p := ⟨w2.heap.size, 0, none⟩) hgl (.int .i64 y.op)).setCell (p := ⟨w2.heap.size, 1, none⟩) hgl (.int .i64 y.n)).setCell (p := ⟨w2.heap.size, 2, none⟩) hgl (.slice A5 y.k.len c5)
           have s3_ := HSS.out _ hb
           have s4_ := HSS.out _ hbs
           have hzr := (RL0_3.out).size
           have HEND := Lib.hid (show ∃ g A6 c6 b6, Value.pointer (some ⟨w2.heap.size, 0, none⟩) = .pointer (some ⟨g, 0, none⟩) ∧ Row (((vd.setCell ⟨w2.heap.size, 0, none⟩ (.int .i64 y.op)).setCell ⟨w2.heap.size, 1, none⟩ (.int .i64 y.n)).setCell ⟨w2.heap.size, 2, none⟩ (.slice A5 y.k.len c5)) g 29 #[.int .i64 y.op, .int .i64 y.n, .slice A6 y.k.len c6] ∧ w2.heap.size ≤ g ∧ Tree (((vd.setCell ⟨w2.heap.size, 0, none⟩ (.int .i64 y.op)).setCell ⟨w2.heap.size, 1, none⟩ (.int .i64 y.n)).setCell ⟨w2.heap.size, 2, none⟩ (.slice A5 y.k.len c5)) w2.heap.size (.slice A6 y.k.len c6) y.k b6 ∧ Below w2.heap.size w2 (((vd.setCell ⟨w2.heap.size, 0, none⟩ (.int .i64 y.op)).setCell ⟨w2.heap.size, 1, none⟩ (.int .i64 y.n)).setCell ⟨w2.heap.size, 2, none⟩ (.slice A5 y.k.len c5)) from ⟨w2.heap.size, A5, c5, b5, rfl, ((r5.put 0 _).put 1 _).put 2 _, hgl, (((ht5.putL (p := ⟨w2.heap.size, 0, none⟩) hzr _).putL (p := ⟨w2.heap.size, 1, none⟩) hzr _).putL (p := ⟨w2.heap.size, 2, none⟩) hzr _).lower B3.out.size, hbs⟩)
           clear ht5 hb5 hb r5 hbs hgl hzr)
        | (go_at_call 5
           with_reducible refine (specRepl_any op1 n1 k1 As1 cs1 zs2 As2 cs2 op3 n3 k3 As3 cs3 _ LT1_3.out (Nat.le_trans hks1 hcs1) LT3_3.out (Nat.le_trans hks3 hcs3) LT2_3.out hsz2 hks2 hcs2 hsz1 hsz3 hi1 hi3).mono ?_
           rintro e vd ⟨A5, c5, b5, rfl, ht5, hb5⟩
           rw [← HY.out] at ht5
           rw [← HY.out, ← HOK.out]
           have hb := B3.out.trans (hb5.mono B3.out.size)
           have r5 := (RL1_3.out).below hb5 ((RL1_3.out).size)
           have f0 := r5.free 0
           have f1 := r5.free 1
           have f2 := r5.free 2
           have d0 := r5.cell (i := 0) rfl
           have d1 := r5.cell (i := 1) rfl
           have d2 := r5.cell (i := 2) rfl
           have hgl : w2.heap.size ≤ v1.heap.size := by first | exact Nat.le_refl _ | exact B1.out.size | exact B2.out.size | exact B3.out.size
           have hbs := ((hb.setCell (p := ⟨v1.heap.size, 0, none⟩) hgl (.int .i64 y.op)).setCell (p := ⟨v1.heap.size, 1, none⟩) hgl (.int .i64 y.n)).setCell (p := ⟨v1.heap.size, 2, none⟩) hgl (.slice A5 y.k.len c5)
           have s3_ := HSS.out _ hb
           have s4_ := HSS.out _ hbs
           have hzr := (RL1_3.out).size
           have HEND := Lib.hid (show ∃ g A6 c6 b6, Value.pointer (some ⟨v1.heap.size, 0, none⟩) = .pointer (some ⟨g, 0, none⟩) ∧ Row (((vd.setCell ⟨v1.heap.size, 0, none⟩ (.int .i64 y.op)).setCell ⟨v1.heap.size, 1, none⟩ (.int .i64 y.n)).setCell ⟨v1.heap.size, 2, none⟩ (.slice A5 y.k.len c5)) g 29 #[.int .i64 y.op, .int .i64 y.n, .slice A6 y.k.len c6] ∧ w2.heap.size ≤ g ∧ Tree (((vd.setCell ⟨v1.heap.size, 0, none⟩ (.int .i64 y.op)).setCell ⟨v1.heap.size, 1, none⟩ (.int .i64 y.n)).setCell ⟨v1.heap.size, 2, none⟩ (.slice A5 y.k.len c5)) w2.heap.size (.slice A6 y.k.len c6) y.k b6 ∧ Below w2.heap.size w2 (((vd.setCell ⟨v1.heap.size, 0, none⟩ (.int .i64 y.op)).setCell ⟨v1.heap.size, 1, none⟩ (.int .i64 y.n)).setCell ⟨v1.heap.size, 2, none⟩ (.slice A5 y.k.len c5)) from ⟨v1.heap.size, A5, c5, b5, rfl, ((r5.put 0 _).put 1 _).put 2 _, hgl, (((ht5.putL (p := ⟨v1.heap.size, 0, none⟩) hzr _).putL (p := ⟨v1.heap.size, 1, none⟩) hzr _).putL (p := ⟨v1.heap.size, 2, none⟩) hzr _).lower B3.out.size, hbs⟩)
           clear ht5 hb5 hb r5 hbs hgl hzr)
        | (go_at_call 5
           with_reducible refine (specRepl_any op1 n1 k1 As1 cs1 zs2 As2 cs2 op3 n3 k3 As3 cs3 _ LT1_3.out (Nat.le_trans hks1 hcs1) LT3_3.out (Nat.le_trans hks3 hcs3) LT2_3.out hsz2 hks2 hcs2 hsz1 hsz3 hi1 hi3).mono ?_
           rintro e vd ⟨A5, c5, b5, rfl, ht5, hb5⟩
           rw [← HY.out] at ht5
           rw [← HY.out, ← HOK.out]
           have hb := B3.out.trans (hb5.mono B3.out.size)
           have r5 := (RL2_3.out).below hb5 ((RL2_3.out).size)
           have f0 := r5.free 0
           have f1 := r5.free 1
           have f2 := r5.free 2
           have d0 := r5.cell (i := 0) rfl
           have d1 := r5.cell (i := 1) rfl
           have d2 := r5.cell (i := 2) rfl
           have hgl : w2.heap.size ≤ v2.heap.size := by first | exact Nat.le_refl _ | exact B1.out.size | exact B2.out.size | exact B3.out.size
           have hbs := ((hb.setCell (p := ⟨v2.heap.size, 0, none⟩) hgl (.int .i64 y.op)).setCell (p := ⟨v2.heap.size, 1, none⟩) hgl (.int .i64 y.n)).setCell (p := ⟨v2.heap.size, 2, none⟩) hgl (.slice A5 y.k.len c5)
           have s3_ := HSS.out _ hb
           have s4_ := HSS.out _ hbs
           have hzr := (RL2_3.out).size
           have HEND := Lib.hid (show ∃ g A6 c6 b6, Value.pointer (some ⟨v2.heap.size, 0, none⟩) = .pointer (some ⟨g, 0, none⟩) ∧ Row (((vd.setCell ⟨v2.heap.size, 0, none⟩ (.int .i64 y.op)).setCell ⟨v2.heap.size, 1, none⟩ (.int .i64 y.n)).setCell ⟨v2.heap.size, 2, none⟩ (.slice A5 y.k.len c5)) g 29 #[.int .i64 y.op, .int .i64 y.n, .slice A6 y.k.len c6] ∧ w2.heap.size ≤ g ∧ Tree (((vd.setCell ⟨v2.heap.size, 0, none⟩ (.int .i64 y.op)).setCell ⟨v2.heap.size, 1, none⟩ (.int .i64 y.n)).setCell ⟨v2.heap.size, 2, none⟩ (.slice A5 y.k.len c5)) w2.heap.size (.slice A6 y.k.len c6) y.k b6 ∧ Below w2.heap.size w2 (((vd.setCell ⟨v2.heap.size, 0, none⟩ (.int .i64 y.op)).setCell ⟨v2.heap.size, 1, none⟩ (.int .i64 y.n)).setCell ⟨v2.heap.size, 2, none⟩ (.slice A5 y.k.len c5)) from ⟨v2.heap.size, A5, c5, b5, rfl, ((r5.put 0 _).put 1 _).put 2 _, hgl, (((ht5.putL (p := ⟨v2.heap.size, 0, none⟩) hzr _).putL (p := ⟨v2.heap.size, 1, none⟩) hzr _).putL (p := ⟨v2.heap.size, 2, none⟩) hzr _).lower B3.out.size, hbs⟩)
           clear ht5 hb5 hb r5 hbs hgl hzr)
        | (go_at_call 5
           with_reducible refine (specRepl_any op1 n1 k1 As1 cs1 zs2 As2 cs2 op3 n3 k3 As3 cs3 _ (LT1_3.out.up ((Below.refl _ _).alloc (Nat.le_refl _) _)) (Nat.le_trans hks1 hcs1) (LT3_3.out.up ((Below.refl _ _).alloc (Nat.le_refl _) _)) (Nat.le_trans hks3 hcs3) (LT2_3.out.up ((Below.refl _ _).alloc (Nat.le_refl _) _)) hsz2 hks2 hcs2 hsz1 hsz3 hi1 hi3).mono ?_
           rintro e vd ⟨A5, c5, b5, rfl, ht5, hb5⟩
           rw [← HY.out] at ht5
           rw [← HY.out, ← HOK.out]
           have hb := B3L.out.trans (hb5.mono B3L.out.size)
           have r5 := (Row.fresh v3 29 #[Value.int .i64 0, Value.int .i64 0, Value.slice none 0 0]).below hb5 ((Row.fresh v3 29 #[Value.int .i64 0, Value.int .i64 0, Value.slice none 0 0]).size)
           have f0 := r5.free 0
           have f1 := r5.free 1
           have f2 := r5.free 2
           have d0 := r5.cell (i := 0) rfl
           have d1 := r5.cell (i := 1) rfl
           have d2 := r5.cell (i := 2) rfl
           have hgl : w2.heap.size ≤ v3.heap.size := by first | exact Nat.le_refl _ | exact B1.out.size | exact B2.out.size | exact B3.out.size
           have hbs := ((hb.setCell (p := ⟨v3.heap.size, 0, none⟩) hgl (.int .i64 y.op)).setCell (p := ⟨v3.heap.size, 1, none⟩) hgl (.int .i64 y.n)).setCell (p := ⟨v3.heap.size, 2, none⟩) hgl (.slice A5 y.k.len c5)
           have s3_ := HSS.out _ hb
           have s4_ := HSS.out _ hbs
           have hzr := (Row.fresh v3 29 #[Value.int .i64 0, Value.int .i64 0, Value.slice none 0 0]).size
           have HEND := Lib.hid (show ∃ g A6 c6 b6, Value.pointer (some ⟨v3.heap.size, 0, none⟩) = .pointer (some ⟨g, 0, none⟩) ∧ Row (((vd.setCell ⟨v3.heap.size, 0, none⟩ (.int .i64 y.op)).setCell ⟨v3.heap.size, 1, none⟩ (.int .i64 y.n)).setCell ⟨v3.heap.size, 2, none⟩ (.slice A5 y.k.len c5)) g 29 #[.int .i64 y.op, .int .i64 y.n, .slice A6 y.k.len c6] ∧ w2.heap.size ≤ g ∧ Tree (((vd.setCell ⟨v3.heap.size, 0, none⟩ (.int .i64 y.op)).setCell ⟨v3.heap.size, 1, none⟩ (.int .i64 y.n)).setCell ⟨v3.heap.size, 2, none⟩ (.slice A5 y.k.len c5)) w2.heap.size (.slice A6 y.k.len c6) y.k b6 ∧ Below w2.heap.size w2 (((vd.setCell ⟨v3.heap.size, 0, none⟩ (.int .i64 y.op)).setCell ⟨v3.heap.size, 1, none⟩ (.int .i64 y.n)).setCell ⟨v3.heap.size, 2, none⟩ (.slice A5 y.k.len c5)) from ⟨v3.heap.size, A5, c5, b5, rfl, ((r5.put 0 _).put 1 _).put 2 _, hgl, (((ht5.putL (p := ⟨v3.heap.size, 0, none⟩) hzr _).putL (p := ⟨v3.heap.size, 1, none⟩) hzr _).putL (p := ⟨v3.heap.size, 2, none⟩) hzr _).lower B3L.out.size, hbs⟩)
           clear ht5 hb5 hb r5 hbs hgl hzr)
        | (go_at_call 5
           with_reducible refine (specRepl_any op1 n1 k1 As1 cs1 zs2 As2 cs2 op3 n3 k3 As3 cs3 _ LT1_3.out (Nat.le_trans hks1 hcs1) LT3_3.out (Nat.le_trans hks3 hcs3) LT2_3.out hsz2 hks2 hcs2 hsz1 hsz3 hi1 hi3).mono ?_
           rintro e vd ⟨A5, c5, b5, rfl, ht5, hb5⟩
           rw [← HY.out] at ht5
           rw [← HY.out, ← HOK.out]
           have hb := B3.out.trans (hb5.mono B3.out.size)
           have hbl : Below vd.heap.size vd (vd.alloc (Obj.cells #[Value.int .i64 y.op, Value.int .i64 y.n, Value.slice A5 y.k.len c5] 29)) := (Below.refl _ _).alloc (Nat.le_refl _) _
           have hba := hb.trans (hbl.mono hb.size)
           have s3_ := HSS.out _ hb
           have s4_ := HSS.out _ hba
           have s3z := HSS.out _ (hb.alloc hb.size (Obj.cells #[Value.int .i64 0, Value.int .i64 0, Value.slice none 0 0] 29))
           have HEND := Lib.hid (show ∃ g A6 c6 b6, Value.pointer (some ⟨vd.heap.size, 0, none⟩) = .pointer (some ⟨g, 0, none⟩) ∧ Row (vd.alloc (Obj.cells #[Value.int .i64 y.op, Value.int .i64 y.n, Value.slice A5 y.k.len c5] 29)) g 29 #[.int .i64 y.op, .int .i64 y.n, .slice A6 y.k.len c6] ∧ w2.heap.size ≤ g ∧ Tree (vd.alloc (Obj.cells #[Value.int .i64 y.op, Value.int .i64 y.n, Value.slice A5 y.k.len c5] 29)) w2.heap.size (.slice A6 y.k.len c6) y.k b6 ∧ Below w2.heap.size w2 (vd.alloc (Obj.cells #[Value.int .i64 y.op, Value.int .i64 y.n, Value.slice A5 y.k.len c5] 29)) from ⟨vd.heap.size, A5, c5, b5, rfl, Row.fresh _ _ _, hb.size, (ht5.over hbl).lower B3.out.size, hba⟩)
           clear ht5 hb5 hb hbl hba)
        | (go_at_call 6
           with_reducible refine (HT3.out v2 B2.out).mono ?_
           rintro e v3 ⟨As3, cs3, rfl, hks3, hcs3, hls3, hals3, hb3⟩
           have RL0_3 := Lib.hid (RL0_2.out.below hb3 RL0_2.out.size)
           have LT1_3 := Lib.hid ((LT1_2.out).up hb3)
           have LT2_3 := Lib.hid ((LT2_2.out).up hb3)
           have LT3_3 := Lib.hid (hls3.mono_ (Nat.zero_le _) (Nat.le_refl _))
           have b3 := B2.out.trans (hb3.mono B2.out.size)
           have B3 := Lib.hid b3
           have B3L := Lib.hid (b3.alloc b3.size (Obj.cells #[Value.int .i64 0, Value.int .i64 0, Value.slice none 0 0] 29))
           have s3 := HSS.out _ b3
           have s3l := HSS.out _ B3L.out
           clear hb3 b3 hls3 hals3)
        | (go_at_call 6
           with_reducible refine (HT3.out v2 B2.out).mono ?_
           rintro e v3 ⟨As3, cs3, rfl, hks3, hcs3, hls3, hals3, hb3⟩
           have RL1_3 := Lib.hid (RL1_2.out.below hb3 RL1_2.out.size)
           have LT1_3 := Lib.hid ((LT1_2.out).up hb3)
           have LT2_3 := Lib.hid ((LT2_2.out).up hb3)
           have LT3_3 := Lib.hid (hls3.mono_ (Nat.zero_le _) (Nat.le_refl _))
           have b3 := B2.out.trans (hb3.mono B2.out.size)
           have B3 := Lib.hid b3
           have B3L := Lib.hid (b3.alloc b3.size (Obj.cells #[Value.int .i64 0, Value.int .i64 0, Value.slice none 0 0] 29))
           have s3 := HSS.out _ b3
           have s3l := HSS.out _ B3L.out
           clear hb3 b3 hls3 hals3)
        | (go_at_call 6
           with_reducible refine (HT3.out (v2.alloc (Obj.cells #[Value.int .i64 0, Value.int .i64 0, Value.slice none 0 0] 29)) B2L.out).mono ?_
           rintro e v3 ⟨As3, cs3, rfl, hks3, hcs3, hls3, hals3, hb3⟩
           have RL2_3 := Lib.hid ((Row.fresh v2 29 #[Value.int .i64 0, Value.int .i64 0, Value.slice none 0 0]).below hb3 (by simp))
           have LT1_3 := Lib.hid ((LT1_2.out.up ((Below.refl _ _).alloc (Nat.le_refl _) _)).up hb3)
           have LT2_3 := Lib.hid ((LT2_2.out.up ((Below.refl _ _).alloc (Nat.le_refl _) _)).up hb3)
           have LT3_3 := Lib.hid (hls3.mono_ (Nat.zero_le _) (Nat.le_refl _))
           have b3 := B2L.out.trans (hb3.mono B2L.out.size)
           have B3 := Lib.hid b3
           have B3L := Lib.hid (b3.alloc b3.size (Obj.cells #[Value.int .i64 0, Value.int .i64 0, Value.slice none 0 0] 29))
           have s3 := HSS.out _ b3
           have s3l := HSS.out _ B3L.out
           clear hb3 b3 hls3 hals3)
        | (go_at_call 6
           with_reducible refine (HT3.out v2 B2.out).mono ?_
           rintro e v3 ⟨As3, cs3, rfl, hks3, hcs3, hls3, hals3, hb3⟩
           have LT1_3 := Lib.hid ((LT1_2.out).up hb3)
           have LT2_3 := Lib.hid ((LT2_2.out).up hb3)
           have LT3_3 := Lib.hid (hls3.mono_ (Nat.zero_le _) (Nat.le_refl _))
           have b3 := B2.out.trans (hb3.mono B2.out.size)
           have B3 := Lib.hid b3
           have B3L := Lib.hid (b3.alloc b3.size (Obj.cells #[Value.int .i64 0, Value.int .i64 0, Value.slice none 0 0] 29))
           have s3 := HSS.out _ b3
           have s3l := HSS.out _ B3L.out
           clear hb3 b3 hls3 hals3)
        | (go_at_call 7
           with_reducible refine (HT2.out v1 B1.out).mono ?_
           rintro e v2 ⟨As2, cs2, rfl, hks2, hcs2, hls2, hb2⟩
           have RL0_2 := Lib.hid (RL0_1.out.below hb2 RL0_1.out.size)
           have LT1_2 := Lib.hid ((LT1_1.out).up hb2)
           have LT2_2 := Lib.hid (hls2.mono_ (Nat.zero_le _) (Nat.le_refl _))
           have b2 := B1.out.trans (hb2.mono B1.out.size)
           have B2 := Lib.hid b2
           have B2L := Lib.hid (b2.alloc b2.size (Obj.cells #[Value.int .i64 0, Value.int .i64 0, Value.slice none 0 0] 29))
           have s2 := HSS.out _ b2
           have s2l := HSS.out _ B2L.out
           clear hb2 b2 hls2)
        | (go_at_call 7
           with_reducible refine (HT2.out (v1.alloc (Obj.cells #[Value.int .i64 0, Value.int .i64 0, Value.slice none 0 0] 29)) B1L.out).mono ?_
           rintro e v2 ⟨As2, cs2, rfl, hks2, hcs2, hls2, hb2⟩
           have RL1_2 := Lib.hid ((Row.fresh v1 29 #[Value.int .i64 0, Value.int .i64 0, Value.slice none 0 0]).below hb2 (by simp))
           have LT1_2 := Lib.hid ((LT1_1.out.up ((Below.refl _ _).alloc (Nat.le_refl _) _)).up hb2)
           have LT2_2 := Lib.hid (hls2.mono_ (Nat.zero_le _) (Nat.le_refl _))
           have b2 := B1L.out.trans (hb2.mono B1L.out.size)
           have B2 := Lib.hid b2
           have B2L := Lib.hid (b2.alloc b2.size (Obj.cells #[Value.int .i64 0, Value.int .i64 0, Value.slice none 0 0] 29))
           have s2 := HSS.out _ b2
           have s2l := HSS.out _ B2L.out
           clear hb2 b2 hls2)
        | (go_at_call 7
           with_reducible refine (HT2.out v1 B1.out).mono ?_
           rintro e v2 ⟨As2, cs2, rfl, hks2, hcs2, hls2, hb2⟩
           have LT1_2 := Lib.hid ((LT1_1.out).up hb2)
           have LT2_2 := Lib.hid (hls2.mono_ (Nat.zero_le _) (Nat.le_refl _))
           have b2 := B1.out.trans (hb2.mono B1.out.size)
           have B2 := Lib.hid b2
           have B2L := Lib.hid (b2.alloc b2.size (Obj.cells #[Value.int .i64 0, Value.int .i64 0, Value.slice none 0 0] 29))
           have s2 := HSS.out _ b2
           have s2l := HSS.out _ B2L.out
           clear hb2 b2 hls2)
        | (go_at_call 6
           with_reducible refine CP.out.mono ?_
           rintro e v1 ⟨As1, cs1, rfl, hks1, hcs1, hls1, hals1, hb1⟩
           have RL0_1 := Lib.hid (RP.out.below hb1 RP.out.size)
           have LT1_1 := Lib.hid (hls1.mono_ (Nat.zero_le _) (Nat.le_refl _))
           have b1 := BP.out.trans (hb1.mono BP.out.size)
           have B1 := Lib.hid b1
           have B1L := Lib.hid (b1.alloc b1.size (Obj.cells #[Value.int .i64 0, Value.int .i64 0, Value.slice none 0 0] 29))
           have s1 := HSS.out _ b1
           have s1l := HSS.out _ B1L.out
           clear hb1 b1 hls1 hals1)
        | (go_at_call 6
           with_reducible refine C0.out.mono ?_
           rintro e v1 ⟨As1, cs1, rfl, hks1, hcs1, hls1, hals1, hb1⟩
           have LT1_1 := Lib.hid (hls1.mono_ (Nat.zero_le _) (Nat.le_refl _))
           have b1 := B0.out.trans (hb1.mono B0.out.size)
           have B1 := Lib.hid b1
           have B1L := Lib.hid (b1.alloc b1.size (Obj.cells #[Value.int .i64 0, Value.int .i64 0, Value.slice none 0 0] 29))
           have s1 := HSS.out _ b1
           have s1l := HSS.out _ B1L.out
           clear hb1 b1 hls1 hals1)
        | fail)
    all_goals
      go_wp2_with fail
      go_meet
      obtain ⟨g, A9', c9', b9', hp, hr⟩ := HEND.out
      exact ⟨g, A9', c9', b9', hp, rfl, hr⟩
  case rest =>
  obtain ⟨gAw, Aw, cw, bsw, rfl, rfl, hrw, hgw, htw, hb⟩ := hcut
  obtain ⟨w3, hw9⟩ : ∃ v, v = wc := ⟨_, rfl⟩
  rw [← hw9] at hrw htw hb ⊢
  clear hw9 wc HSS HT1 HT2 HT3
  have HB' := Lib.hid (HB.out.trans (hb.mono HB.out.size))
  have HX1' := Lib.hid (HX1.out.below hb HX1.out.size)
  have HX3' := Lib.hid (HX3.out.below hb HX3.out.size)
  have HS' := Lib.hid (And.intro hb.size HS.out)
  clear hb HB HX1 HX3 HS
  have HB := HB'
  have HX1 := HX1'
  have HX3 := HX3'
  have HS := HS'
  clear HB' HX1' HX3' HS'
  have XW := Lib.hid hrw
  have HS' := Lib.hid (And.intro hgw (And.intro hrw.size HS.out))
  clear HS hrw hgw
  have HS := HS'
  clear HS'
  have WL := Lib.hid (htw.lies fun z hz => (htw.lt z hz).2)
  clear htw
  have qHX1_0 := HX1.out.cell (i := 0) rfl
  have qHX1_1 := HX1.out.cell (i := 1) rfl
  have qHX1_2 := HX1.out.cell (i := 2) rfl
  go_wp2_with fail
  refine (toExpr_any op1 n1 k1 A1 c1 _ (HL1.out.up HB.out) hsz1).mono ?_
  rintro e w4 ⟨Ax1, cx1, rfl, hkx1, hcx1, hlx1, halx1, hb⟩
  clear qHX1_0 qHX1_1 qHX1_2
  have HB' := Lib.hid (HB.out.trans (hb.mono HB.out.size))
  have HX1' := Lib.hid (HX1.out.below hb HX1.out.size)
  have HX3' := Lib.hid (HX3.out.below hb HX3.out.size)
  have XW' := Lib.hid (XW.out.below hb XW.out.size)
  have WL' := Lib.hid (WL.out.below (hb.mono (by have hs := HS.out; omega)))
  have HS' := Lib.hid (And.intro hb.size HS.out)
  clear hb HB HX1 HX3 XW WL HS
  have HB := HB'
  have HX1 := HX1'
  have HX3 := HX3'
  have XW := XW'
  have WL := WL'
  have HS := HS'
  clear HB' HX1' HX3' XW' WL' HS'
  have XL1 := Lib.hid hlx1
  have XA1 := Lib.hid halx1
  clear hlx1 halx1
  obtain ⟨hb, r1⟩ := one_box w4 29 #[Value.int IntKind.i64 op1, Value.int IntKind.i64 n1, Value.slice Ax1 k1.len cx1]
  have HB' := Lib.hid (HB.out.trans (hb.mono HB.out.size))
  have HX1' := Lib.hid (HX1.out.below hb HX1.out.size)
  have HX3' := Lib.hid (HX3.out.below hb HX3.out.size)
  have XW' := Lib.hid (XW.out.below hb XW.out.size)
  have WL' := Lib.hid (WL.out.below (hb.mono (by have hs := HS.out; omega)))
  have XL1' := Lib.hid (XL1.out.below (hb.mono (by have hs := HS.out; omega)))
  have XA1' := Lib.hid (XA1.out.below hb (by have hs := HS.out; omega))
  have HS' := Lib.hid (And.intro hb.size HS.out)
  clear hb HB HX1 HX3 XW WL XL1 XA1 HS
  have HB := HB'
  have HX1 := HX1'
  have HX3 := HX3'
  have XW := XW'
  have WL := WL'
  have XL1 := XL1'
  have XA1 := XA1'
  have HS := HS'
  clear HB' HX1' HX3' XW' WL' XL1' XA1' HS'
  have XB1 := Lib.hid r1
  have HS' := Lib.hid (And.intro (show w4.heap.size + 1 ≤ (w4.alloc (Obj.cells #[Value.int IntKind.i64 op1, Value.int IntKind.i64 n1, Value.slice Ax1 k1.len cx1] 29)).heap.size from by simp) HS.out)
  clear HS r1
  have HS := HS'
  clear HS'
  go_wp2_with fail
  refine (toIntS_held zs2 A2 c2 _ (HL2.out.up HB.out) hsz2).mono ?_
  rintro e w5 ⟨Ax2, cx2, rfl, hkx2, hcx2, hlx2, hhx2, hgx2, hb⟩
  have HB' := Lib.hid (HB.out.trans (hb.mono HB.out.size))
  have HX1' := Lib.hid (HX1.out.below hb HX1.out.size)
  have HX3' := Lib.hid (HX3.out.below hb HX3.out.size)
  have XW' := Lib.hid (XW.out.below hb XW.out.size)
  have WL' := Lib.hid (WL.out.below (hb.mono (by have hs := HS.out; omega)))
  have XL1' := Lib.hid (XL1.out.below (hb.mono (by have hs := HS.out; omega)))
  have XA1' := Lib.hid (XA1.out.below hb (by have hs := HS.out; omega))
  have XB1' := Lib.hid (XB1.out.below hb XB1.out.size)
  have HS' := Lib.hid (And.intro hb.size HS.out)
  clear hb HB HX1 HX3 XW WL XL1 XA1 XB1 HS
  have HB := HB'
  have HX1 := HX1'
  have HX3 := HX3'
  have XW := XW'
  have WL := WL'
  have XL1 := XL1'
  have XA1 := XA1'
  have XB1 := XB1'
  have HS := HS'
  clear HB' HX1' HX3' XW' WL' XL1' XA1' XB1' HS'
  have XH2 := Lib.hid hhx2
  clear hhx2
  have HS' := Lib.hid (And.intro hgx2 HS.out)
  clear HS hgx2
  have HS := HS'
  clear HS'
  have XL2 := Lib.hid hlx2
  clear hlx2
  have qHX3_0 := HX3.out.cell (i := 0) rfl
  have qHX3_1 := HX3.out.cell (i := 1) rfl
  have qHX3_2 := HX3.out.cell (i := 2) rfl
  go_wp2_with fail
  refine (toExpr_any op3 n3 k3 A3 c3 _ (HL3.out.up HB.out) hsz3).mono ?_
  rintro e w6 ⟨Ax3, cx3, rfl, hkx3, hcx3, hlx3, halx3, hb⟩
  clear qHX3_0 qHX3_1 qHX3_2
  have HB' := Lib.hid (HB.out.trans (hb.mono HB.out.size))
  have HX1' := Lib.hid (HX1.out.below hb HX1.out.size)
  have HX3' := Lib.hid (HX3.out.below hb HX3.out.size)
  have XW' := Lib.hid (XW.out.below hb XW.out.size)
  have WL' := Lib.hid (WL.out.below (hb.mono (by have hs := HS.out; omega)))
  have XL1' := Lib.hid (XL1.out.below (hb.mono (by have hs := HS.out; omega)))
  have XA1' := Lib.hid (XA1.out.below hb (by have hs := HS.out; omega))
  have XB1' := Lib.hid (XB1.out.below hb XB1.out.size)
  have XH2' := Lib.hid (XH2.out.below hb)
  have XL2' := Lib.hid (XL2.out.below (hb.mono (by have hs := HS.out; omega)))
  have HS' := Lib.hid (And.intro hb.size HS.out)
  clear hb HB HX1 HX3 XW WL XL1 XA1 XB1 XH2 XL2 HS
  have HB := HB'
  have HX1 := HX1'
  have HX3 := HX3'
  have XW := XW'
  have WL := WL'
  have XL1 := XL1'
  have XA1 := XA1'
  have XB1 := XB1'
  have XH2 := XH2'
  have XL2 := XL2'
  have HS := HS'
  clear HB' HX1' HX3' XW' WL' XL1' XA1' XB1' XH2' XL2' HS'
  have XL3 := Lib.hid hlx3
  have XA3 := Lib.hid halx3
  clear hlx3 halx3
  obtain ⟨hb, r1⟩ := one_box w6 29 #[Value.int IntKind.i64 op3, Value.int IntKind.i64 n3, Value.slice Ax3 k3.len cx3]
  have HB' := Lib.hid (HB.out.trans (hb.mono HB.out.size))
  have HX1' := Lib.hid (HX1.out.below hb HX1.out.size)
  have HX3' := Lib.hid (HX3.out.below hb HX3.out.size)
  have XW' := Lib.hid (XW.out.below hb XW.out.size)
  have WL' := Lib.hid (WL.out.below (hb.mono (by have hs := HS.out; omega)))
  have XL1' := Lib.hid (XL1.out.below (hb.mono (by have hs := HS.out; omega)))
  have XA1' := Lib.hid (XA1.out.below hb (by have hs := HS.out; omega))
  have XB1' := Lib.hid (XB1.out.below hb XB1.out.size)
  have XH2' := Lib.hid (XH2.out.below hb)
  have XL2' := Lib.hid (XL2.out.below (hb.mono (by have hs := HS.out; omega)))
  have XL3' := Lib.hid (XL3.out.below (hb.mono (by have hs := HS.out; omega)))
  have XA3' := Lib.hid (XA3.out.below hb (by have hs := HS.out; omega))
  have HS' := Lib.hid (And.intro hb.size HS.out)
  clear hb HB HX1 HX3 XW WL XL1 XA1 XB1 XH2 XL2 XL3 XA3 HS
  have HB := HB'
  have HX1 := HX1'
  have HX3 := HX3'
  have XW := XW'
  have WL := WL'
  have XL1 := XL1'
  have XA1 := XA1'
  have XB1 := XB1'
  have XH2 := XH2'
  have XL2 := XL2'
  have XL3 := XL3'
  have XA3 := XA3'
  have HS := HS'
  clear HB' HX1' HX3' XW' WL' XL1' XA1' XB1' XH2' XL2' XL3' XA3' HS'
  have XB3 := Lib.hid r1
  have HS' := Lib.hid (And.intro (show w6.heap.size + 1 ≤ (w6.alloc (Obj.cells #[Value.int IntKind.i64 op3, Value.int IntKind.i64 n3, Value.slice Ax3 k3.len cx3] 29)).heap.size from by simp) HS.out)
  clear HS r1
  have HS := HS'
  clear HS'
  have HC := Lib.hid (implRepl_any op1 n1 k1 Ax1 cx1 zs2 Ax2 cx2 op3 n3 k3 Ax3 cx3 (w6.alloc (Obj.cells #[Value.int IntKind.i64 op3, Value.int IntKind.i64 n3, Value.slice Ax3 k3.len cx3] 29)) (XL1.out.mono_ (Nat.zero_le _) (by have hs := HS.out; omega)) (Nat.le_trans hkx1 hcx1) (XL3.out.mono_ (Nat.zero_le _) (by have hs := HS.out; omega)) (Nat.le_trans hkx3 hcx3) (XL2.out.mono_ (Nat.zero_le _) (by have hs := HS.out; omega)) hsz2 hi1 hi3)
  have xXB1_0 := XB1.out.cell (i := 0) rfl
  have xXB1_1 := XB1.out.cell (i := 1) rfl
  have xXB1_2 := XB1.out.cell (i := 2) rfl
  have xXB3_0 := XB3.out.cell (i := 0) rfl
  have xXB3_1 := XB3.out.cell (i := 1) rfl
  have xXB3_2 := XB3.out.cell (i := 2) rfl
  go_wp2_with fail
  refine HC.out.mono ?_
  rintro e w7 ⟨Ag, cg, bsg, rfl, htg, hb⟩
  rw [← HY.out] at htg
  rw [← HY.out, ← HOK.out]
  clear HC
  clear xXB1_0 xXB1_1 xXB1_2 xXB3_0 xXB3_1 xXB3_2
  have HB' := Lib.hid (HB.out.trans (hb.mono HB.out.size))
  have HX1' := Lib.hid (HX1.out.below hb HX1.out.size)
  have HX3' := Lib.hid (HX3.out.below hb HX3.out.size)
  have XW' := Lib.hid (XW.out.below hb XW.out.size)
  have WL' := Lib.hid (WL.out.below (hb.mono (by have hs := HS.out; omega)))
  have XL1' := Lib.hid (XL1.out.below (hb.mono (by have hs := HS.out; omega)))
  have XA1' := Lib.hid (XA1.out.below hb (by have hs := HS.out; omega))
  have XB1' := Lib.hid (XB1.out.below hb XB1.out.size)
  have XH2' := Lib.hid (XH2.out.below hb)
  have XL2' := Lib.hid (XL2.out.below (hb.mono (by have hs := HS.out; omega)))
  have XL3' := Lib.hid (XL3.out.below (hb.mono (by have hs := HS.out; omega)))
  have XA3' := Lib.hid (XA3.out.below hb (by have hs := HS.out; omega))
  have XB3' := Lib.hid (XB3.out.below hb XB3.out.size)
  have HS' := Lib.hid (And.intro hb.size HS.out)
  clear hb HB HX1 HX3 XW WL XL1 XA1 XB1 XH2 XL2 XL3 XA3 XB3 HS
  have HB := HB'
  have HX1 := HX1'
  have HX3 := HX3'
  have XW := XW'
  have WL := WL'
  have XL1 := XL1'
  have XA1 := XA1'
  have XB1 := XB1'
  have XH2 := XH2'
  have XL2 := XL2'
  have XL3 := XL3'
  have XA3 := XA3'
  have XB3 := XB3'
  have HS := HS'
  clear HB' HX1' HX3' XW' WL' XL1' XA1' XB1' XH2' XL2' XL3' XA3' XB3' HS'
  have GB := Lib.hid (show ∀ z, z ∈ bsg → (w6.alloc (Obj.cells #[Value.int IntKind.i64 op3, Value.int IntKind.i64 n3, Value.slice Ax3 k3.len cx3] 29)).heap.size ≤ z ∧ z < w7.heap.size from fun z hz => htg.lt z hz)
  have GT := Lib.hid htg
  clear htg
  obtain ⟨hb, r1⟩ := one_box w7 29 #[Value.int IntKind.i64 y.op, Value.int IntKind.i64 y.n, Value.slice Ag y.k.len cg]
  have HB' := Lib.hid (HB.out.trans (hb.mono HB.out.size))
  have HX1' := Lib.hid (HX1.out.below hb HX1.out.size)
  have HX3' := Lib.hid (HX3.out.below hb HX3.out.size)
  have XW' := Lib.hid (XW.out.below hb XW.out.size)
  have WL' := Lib.hid (WL.out.below (hb.mono (by have hs := HS.out; omega)))
  have XL1' := Lib.hid (XL1.out.below (hb.mono (by have hs := HS.out; omega)))
  have XA1' := Lib.hid (XA1.out.below hb (by have hs := HS.out; omega))
  have XB1' := Lib.hid (XB1.out.below hb XB1.out.size)
  have XH2' := Lib.hid (XH2.out.below hb)
  have XL2' := Lib.hid (XL2.out.below (hb.mono (by have hs := HS.out; omega)))
  have XL3' := Lib.hid (XL3.out.below (hb.mono (by have hs := HS.out; omega)))
  have XA3' := Lib.hid (XA3.out.below hb (by have hs := HS.out; omega))
  have XB3' := Lib.hid (XB3.out.below hb XB3.out.size)
  have GT' := Lib.hid (GT.out.over hb)
  have HS' := Lib.hid (And.intro hb.size HS.out)
  clear hb HB HX1 HX3 XW WL XL1 XA1 XB1 XH2 XL2 XL3 XA3 XB3 GT HS
  have HB := HB'
  have HX1 := HX1'
  have HX3 := HX3'
  have XW := XW'
  have WL := WL'
  have XL1 := XL1'
  have XA1 := XA1'
  have XB1 := XB1'
  have XH2 := XH2'
  have XL2 := XL2'
  have XL3 := XL3'
  have XA3 := XA3'
  have XB3 := XB3'
  have GT := GT'
  have HS := HS'
  clear HB' HX1' HX3' XW' WL' XL1' XA1' XB1' XH2' XL2' XL3' XA3' XB3' GT' HS'
  have XG := Lib.hid r1
  have HS' := Lib.hid (And.intro (show w7.heap.size + 1 ≤ (w7.alloc (Obj.cells #[Value.int IntKind.i64 y.op, Value.int IntKind.i64 y.n, Value.slice Ag y.k.len cg] 29)).heap.size from by simp) HS.out)
  clear HS r1
  have HS := HS'
  clear HS'
  have zXG_0 := XG.out.cell (i := 0) rfl
  have zXG_1 := XG.out.cell (i := 1) rfl
  have zXG_2 := XG.out.cell (i := 2) rfl
  have zXW_0 := XW.out.cell (i := 0) rfl
  have zXW_1 := XW.out.cell (i := 1) rfl
  have zXW_2 := XW.out.cell (i := 2) rfl
  go_wp2_with fail
  refine (eqExpr_any y.op y.n y.k Ag Aw cg cw _ ((GT.out.lies fun z hz => (GT.out.lt z hz).2).mono_ (Nat.zero_le _) (Nat.le_refl _)) (WL.out.mono_ (Nat.zero_le _) (by have hs := HS.out; omega)) hys).mono ?_
  rintro e w8 ⟨rfl, hb⟩
  clear zXG_0 zXG_1 zXG_2 zXW_0 zXW_1 zXW_2
  have HB' := Lib.hid (HB.out.trans (hb.mono HB.out.size))
  have HX1' := Lib.hid (HX1.out.below hb HX1.out.size)
  have HX3' := Lib.hid (HX3.out.below hb HX3.out.size)
  have XW' := Lib.hid (XW.out.below hb XW.out.size)
  have WL' := Lib.hid (WL.out.below (hb.mono (by have hs := HS.out; omega)))
  have XL1' := Lib.hid (XL1.out.below (hb.mono (by have hs := HS.out; omega)))
  have XA1' := Lib.hid (XA1.out.below hb (by have hs := HS.out; omega))
  have XB1' := Lib.hid (XB1.out.below hb XB1.out.size)
  have XH2' := Lib.hid (XH2.out.below hb)
  have XL2' := Lib.hid (XL2.out.below (hb.mono (by have hs := HS.out; omega)))
  have XL3' := Lib.hid (XL3.out.below (hb.mono (by have hs := HS.out; omega)))
  have XA3' := Lib.hid (XA3.out.below hb (by have hs := HS.out; omega))
  have XB3' := Lib.hid (XB3.out.below hb XB3.out.size)
  have GT' := Lib.hid (GT.out.over hb)
  have XG' := Lib.hid (XG.out.below hb XG.out.size)
  have HS' := Lib.hid (And.intro hb.size HS.out)
  clear hb HB HX1 HX3 XW WL XL1 XA1 XB1 XH2 XL2 XL3 XA3 XB3 GT XG HS
  have HB := HB'
  have HX1 := HX1'
  have HX3 := HX3'
  have XW := XW'
  have WL := WL'
  have XL1 := XL1'
  have XA1 := XA1'
  have XB1 := XB1'
  have XH2 := XH2'
  have XL2 := XL2'
  have XL3 := XL3'
  have XA3 := XA3'
  have XB3 := XB3'
  have GT := GT'
  have XG := XG'
  have HS := HS'
  clear HB' HX1' HX3' XW' WL' XL1' XA1' XB1' XH2' XL2' XL3' XA3' XB3' GT' XG' HS'
  have qXB1_0 := XB1.out.cell (i := 0) rfl
  have qXB1_1 := XB1.out.cell (i := 1) rfl
  have qXB1_2 := XB1.out.cell (i := 2) rfl
  have qHX1_0 := HX1.out.cell (i := 0) rfl
  have qHX1_1 := HX1.out.cell (i := 1) rfl
  have qHX1_2 := HX1.out.cell (i := 2) rfl
  go_wp2_with fail
  have hb : Below w8.heap.size w8 w8.drew := (Below.refl _ _).drew
  have HB' := Lib.hid (HB.out.trans (hb.mono HB.out.size))
  have HX1' := Lib.hid (HX1.out.below hb HX1.out.size)
  have HX3' := Lib.hid (HX3.out.below hb HX3.out.size)
  have XW' := Lib.hid (XW.out.below hb XW.out.size)
  have WL' := Lib.hid (WL.out.below (hb.mono (by have hs := HS.out; omega)))
  have XL1' := Lib.hid (XL1.out.below (hb.mono (by have hs := HS.out; omega)))
  have XA1' := Lib.hid (XA1.out.below hb (by have hs := HS.out; omega))
  have XB1' := Lib.hid (XB1.out.below hb XB1.out.size)
  have XH2' := Lib.hid (XH2.out.below hb)
  have XL2' := Lib.hid (XL2.out.below (hb.mono (by have hs := HS.out; omega)))
  have XL3' := Lib.hid (XL3.out.below (hb.mono (by have hs := HS.out; omega)))
  have XA3' := Lib.hid (XA3.out.below hb (by have hs := HS.out; omega))
  have XB3' := Lib.hid (XB3.out.below hb XB3.out.size)
  have GT' := Lib.hid (GT.out.over hb)
  have XG' := Lib.hid (XG.out.below hb XG.out.size)
  have HS' := Lib.hid (And.intro hb.size HS.out)
  clear hb HB HX1 HX3 XW WL XL1 XA1 XB1 XH2 XL2 XL3 XA3 XB3 GT XG HS
  have HB := HB'
  have HX1 := HX1'
  have HX3 := HX3'
  have XW := XW'
  have WL := WL'
  have XL1 := XL1'
  have XA1 := XA1'
  have XB1 := XB1'
  have XH2 := XH2'
  have XL2 := XL2'
  have XL3 := XL3'
  have XA3 := XA3'
  have XB3 := XB3'
  have GT := GT'
  have XG := XG'
  have HS := HS'
  clear HB' HX1' HX3' XW' WL' XL1' XA1' XB1' XH2' XL2' XL3' XA3' XB3' GT' XG' HS'
  go_region_held3 (fun w' => w'.cell? ⟨w4.heap.size, 0, none⟩ = some (Value.int IntKind.i64 op1) ∧ w'.cell? ⟨w4.heap.size, 1, none⟩ = some (Value.int IntKind.i64 n1) ∧ w'.cell? ⟨w4.heap.size, 2, none⟩ = some (Value.slice Ax1 k1.len cx1) ∧ w'.cell? ⟨w.heap.size, 0, none⟩ = some (Value.int IntKind.i64 op1) ∧ w'.cell? ⟨w.heap.size, 1, none⟩ = some (Value.int IntKind.i64 n1) ∧ w'.cell? ⟨w.heap.size, 2, none⟩ = some (Value.slice A1 k1.len c1))
    (first | exact ⟨qXB1_0, qXB1_1, qXB1_2, qHX1_0, qHX1_1, qHX1_2⟩ | exact ⟨y0XB1_0, y0XB1_1, y0XB1_2, y0HX1_0, y0HX1_1, y0HX1_2⟩ | exact ⟨y1XB1_0, y1XB1_1, y1XB1_2, y1HX1_0, y1HX1_1, y1HX1_2⟩)
    (first
      | (go_at_call 9
         refine (eqExpr_any op1 n1 k1 Ax1 At1 cx1 ct1 _ ((XL1.out.mono_ (Nat.zero_le _) (by have hs := HS.out; omega)).up hb9) (hlt1.mono_ (Nat.zero_le _) (Nat.le_refl _)) hsz1).mono ?_
         rintro e w10 ⟨rfl, hb10⟩
         have y1XB1_0 := (hb10.cell (p := ⟨w4.heap.size, 0, none⟩) (show w4.heap.size < w9.heap.size by have hs := HS.out; have zhb9 := hb9.size; omega)).trans y0XB1_0
         have y1XB1_1 := (hb10.cell (p := ⟨w4.heap.size, 1, none⟩) (show w4.heap.size < w9.heap.size by have hs := HS.out; have zhb9 := hb9.size; omega)).trans y0XB1_1
         have y1XB1_2 := (hb10.cell (p := ⟨w4.heap.size, 2, none⟩) (show w4.heap.size < w9.heap.size by have hs := HS.out; have zhb9 := hb9.size; omega)).trans y0XB1_2
         have y1HX1_0 := (hb10.cell (p := ⟨w.heap.size, 0, none⟩) (show w.heap.size < w9.heap.size by have hs := HS.out; have zhb9 := hb9.size; omega)).trans y0HX1_0
         have y1HX1_1 := (hb10.cell (p := ⟨w.heap.size, 1, none⟩) (show w.heap.size < w9.heap.size by have hs := HS.out; have zhb9 := hb9.size; omega)).trans y0HX1_1
         have y1HX1_2 := (hb10.cell (p := ⟨w.heap.size, 2, none⟩) (show w.heap.size < w9.heap.size by have hs := HS.out; have zhb9 := hb9.size; omega)).trans y0HX1_2)
      | (go_at_call 6
         refine (toExpr_any op1 n1 k1 A1 c1 _ (HL1.out.up HB.out) hsz1).mono ?_
         rintro e w9 ⟨At1, ct1, rfl, hkt1, hct1, hlt1, halt1, hb9⟩
         have y0XB1_0 := (hb9.cell (p := ⟨w4.heap.size, 0, none⟩) (show w4.heap.size < w8.drew.heap.size by have hs := HS.out; omega)).trans qXB1_0
         have y0XB1_1 := (hb9.cell (p := ⟨w4.heap.size, 1, none⟩) (show w4.heap.size < w8.drew.heap.size by have hs := HS.out; omega)).trans qXB1_1
         have y0XB1_2 := (hb9.cell (p := ⟨w4.heap.size, 2, none⟩) (show w4.heap.size < w8.drew.heap.size by have hs := HS.out; omega)).trans qXB1_2
         have y0HX1_0 := (hb9.cell (p := ⟨w.heap.size, 0, none⟩) (show w.heap.size < w8.drew.heap.size by have hs := HS.out; omega)).trans qHX1_0
         have y0HX1_1 := (hb9.cell (p := ⟨w.heap.size, 1, none⟩) (show w.heap.size < w8.drew.heap.size by have hs := HS.out; omega)).trans qHX1_1
         have y0HX1_2 := (hb9.cell (p := ⟨w.heap.size, 2, none⟩) (show w.heap.size < w8.drew.heap.size by have hs := HS.out; omega)).trans qHX1_2))
  have hb : Below w8.drew.heap.size w8.drew w10 := (hb9).trans (hb10.mono (hb9.size))
  clear hb9 hb10 hlt1 halt1 qXB1_0 qXB1_1 qXB1_2 qHX1_0 qHX1_1 qHX1_2 y0XB1_0 y0XB1_1 y0XB1_2 y0HX1_0 y0HX1_1 y0HX1_2 y1XB1_0 y1XB1_1 y1XB1_2 y1HX1_0 y1HX1_1 y1HX1_2
  have HB' := Lib.hid (HB.out.trans (hb.mono HB.out.size))
  have HX1' := Lib.hid (HX1.out.below hb HX1.out.size)
  have HX3' := Lib.hid (HX3.out.below hb HX3.out.size)
  have XW' := Lib.hid (XW.out.below hb XW.out.size)
  have WL' := Lib.hid (WL.out.below (hb.mono (by have hs := HS.out; omega)))
  have XL1' := Lib.hid (XL1.out.below (hb.mono (by have hs := HS.out; omega)))
  have XA1' := Lib.hid (XA1.out.below hb (by have hs := HS.out; omega))
  have XB1' := Lib.hid (XB1.out.below hb XB1.out.size)
  have XH2' := Lib.hid (XH2.out.below hb)
  have XL2' := Lib.hid (XL2.out.below (hb.mono (by have hs := HS.out; omega)))
  have XL3' := Lib.hid (XL3.out.below (hb.mono (by have hs := HS.out; omega)))
  have XA3' := Lib.hid (XA3.out.below hb (by have hs := HS.out; omega))
  have XB3' := Lib.hid (XB3.out.below hb XB3.out.size)
  have GT' := Lib.hid (GT.out.over hb)
  have XG' := Lib.hid (XG.out.below hb XG.out.size)
  have HS' := Lib.hid (And.intro hb.size HS.out)
  clear hb HB HX1 HX3 XW WL XL1 XA1 XB1 XH2 XL2 XL3 XA3 XB3 GT XG HS
  have HB := HB'
  have HX1 := HX1'
  have HX3 := HX3'
  have XW := XW'
  have WL := WL'
  have XL1 := XL1'
  have XA1 := XA1'
  have XB1 := XB1'
  have XH2 := XH2'
  have XL2 := XL2'
  have XL3 := XL3'
  have XA3 := XA3'
  have XB3 := XB3'
  have GT := GT'
  have XG := XG'
  have HS := HS'
  clear HB' HX1' HX3' XW' WL' XL1' XA1' XB1' XH2' XL2' XL3' XA3' XB3' GT' XG' HS'
  go_wp2_with fail
  refine (toIntS_any zs2 A2 c2 _ (HL2.out.up HB.out) hsz2).mono ?_
  rintro e w11 ⟨At2, ct2, rfl, hkt2, hct2, hlt2, hb⟩
  have HB' := Lib.hid (HB.out.trans (hb.mono HB.out.size))
  have HX1' := Lib.hid (HX1.out.below hb HX1.out.size)
  have HX3' := Lib.hid (HX3.out.below hb HX3.out.size)
  have XW' := Lib.hid (XW.out.below hb XW.out.size)
  have WL' := Lib.hid (WL.out.below (hb.mono (by have hs := HS.out; omega)))
  have XL1' := Lib.hid (XL1.out.below (hb.mono (by have hs := HS.out; omega)))
  have XA1' := Lib.hid (XA1.out.below hb (by have hs := HS.out; omega))
  have XB1' := Lib.hid (XB1.out.below hb XB1.out.size)
  have XH2' := Lib.hid (XH2.out.below hb)
  have XL2' := Lib.hid (XL2.out.below (hb.mono (by have hs := HS.out; omega)))
  have XL3' := Lib.hid (XL3.out.below (hb.mono (by have hs := HS.out; omega)))
  have XA3' := Lib.hid (XA3.out.below hb (by have hs := HS.out; omega))
  have XB3' := Lib.hid (XB3.out.below hb XB3.out.size)
  have GT' := Lib.hid (GT.out.over hb)
  have XG' := Lib.hid (XG.out.below hb XG.out.size)
  have HS' := Lib.hid (And.intro hb.size HS.out)
  clear hb HB HX1 HX3 XW WL XL1 XA1 XB1 XH2 XL2 XL3 XA3 XB3 GT XG HS
  have HB := HB'
  have HX1 := HX1'
  have HX3 := HX3'
  have XW := XW'
  have WL := WL'
  have XL1 := XL1'
  have XA1 := XA1'
  have XB1 := XB1'
  have XH2 := XH2'
  have XL2 := XL2'
  have XL3 := XL3'
  have XA3 := XA3'
  have XB3 := XB3'
  have GT := GT'
  have XG := XG'
  have HS := HS'
  clear HB' HX1' HX3' XW' WL' XL1' XA1' XB1' XH2' XL2' XL3' XA3' XB3' GT' XG' HS'
  go_wp2_with fail
  refine (eqIntS_any zs2 Ax2 At2 cx2 ct2 _ (XL2.out.mono_ (Nat.zero_le _) (by have hs := HS.out; omega)) (hlt2.mono_ (Nat.zero_le _) (Nat.le_refl _)) hsz2).mono ?_
  rintro e w12 ⟨rfl, hb⟩
  clear hlt2
  have HB' := Lib.hid (HB.out.trans (hb.mono HB.out.size))
  have HX1' := Lib.hid (HX1.out.below hb HX1.out.size)
  have HX3' := Lib.hid (HX3.out.below hb HX3.out.size)
  have XW' := Lib.hid (XW.out.below hb XW.out.size)
  have WL' := Lib.hid (WL.out.below (hb.mono (by have hs := HS.out; omega)))
  have XL1' := Lib.hid (XL1.out.below (hb.mono (by have hs := HS.out; omega)))
  have XA1' := Lib.hid (XA1.out.below hb (by have hs := HS.out; omega))
  have XB1' := Lib.hid (XB1.out.below hb XB1.out.size)
  have XH2' := Lib.hid (XH2.out.below hb)
  have XL2' := Lib.hid (XL2.out.below (hb.mono (by have hs := HS.out; omega)))
  have XL3' := Lib.hid (XL3.out.below (hb.mono (by have hs := HS.out; omega)))
  have XA3' := Lib.hid (XA3.out.below hb (by have hs := HS.out; omega))
  have XB3' := Lib.hid (XB3.out.below hb XB3.out.size)
  have GT' := Lib.hid (GT.out.over hb)
  have XG' := Lib.hid (XG.out.below hb XG.out.size)
  have HS' := Lib.hid (And.intro hb.size HS.out)
  clear hb HB HX1 HX3 XW WL XL1 XA1 XB1 XH2 XL2 XL3 XA3 XB3 GT XG HS
  have HB := HB'
  have HX1 := HX1'
  have HX3 := HX3'
  have XW := XW'
  have WL := WL'
  have XL1 := XL1'
  have XA1 := XA1'
  have XB1 := XB1'
  have XH2 := XH2'
  have XL2 := XL2'
  have XL3 := XL3'
  have XA3 := XA3'
  have XB3 := XB3'
  have GT := GT'
  have XG := XG'
  have HS := HS'
  clear HB' HX1' HX3' XW' WL' XL1' XA1' XB1' XH2' XL2' XL3' XA3' XB3' GT' XG' HS'
  have qXB3_0 := XB3.out.cell (i := 0) rfl
  have qXB3_1 := XB3.out.cell (i := 1) rfl
  have qXB3_2 := XB3.out.cell (i := 2) rfl
  have qHX3_0 := HX3.out.cell (i := 0) rfl
  have qHX3_1 := HX3.out.cell (i := 1) rfl
  have qHX3_2 := HX3.out.cell (i := 2) rfl
  go_wp2_with fail
  have hb : Below w12.heap.size w12 w12.drew := (Below.refl _ _).drew
  have HB' := Lib.hid (HB.out.trans (hb.mono HB.out.size))
  have HX1' := Lib.hid (HX1.out.below hb HX1.out.size)
  have HX3' := Lib.hid (HX3.out.below hb HX3.out.size)
  have XW' := Lib.hid (XW.out.below hb XW.out.size)
  have WL' := Lib.hid (WL.out.below (hb.mono (by have hs := HS.out; omega)))
  have XL1' := Lib.hid (XL1.out.below (hb.mono (by have hs := HS.out; omega)))
  have XA1' := Lib.hid (XA1.out.below hb (by have hs := HS.out; omega))
  have XB1' := Lib.hid (XB1.out.below hb XB1.out.size)
  have XH2' := Lib.hid (XH2.out.below hb)
  have XL2' := Lib.hid (XL2.out.below (hb.mono (by have hs := HS.out; omega)))
  have XL3' := Lib.hid (XL3.out.below (hb.mono (by have hs := HS.out; omega)))
  have XA3' := Lib.hid (XA3.out.below hb (by have hs := HS.out; omega))
  have XB3' := Lib.hid (XB3.out.below hb XB3.out.size)
  have GT' := Lib.hid (GT.out.over hb)
  have XG' := Lib.hid (XG.out.below hb XG.out.size)
  have HS' := Lib.hid (And.intro hb.size HS.out)
  clear hb HB HX1 HX3 XW WL XL1 XA1 XB1 XH2 XL2 XL3 XA3 XB3 GT XG HS
  have HB := HB'
  have HX1 := HX1'
  have HX3 := HX3'
  have XW := XW'
  have WL := WL'
  have XL1 := XL1'
  have XA1 := XA1'
  have XB1 := XB1'
  have XH2 := XH2'
  have XL2 := XL2'
  have XL3 := XL3'
  have XA3 := XA3'
  have XB3 := XB3'
  have GT := GT'
  have XG := XG'
  have HS := HS'
  clear HB' HX1' HX3' XW' WL' XL1' XA1' XB1' XH2' XL2' XL3' XA3' XB3' GT' XG' HS'
  go_region_held3 (fun w' => w'.cell? ⟨w6.heap.size, 0, none⟩ = some (Value.int IntKind.i64 op3) ∧ w'.cell? ⟨w6.heap.size, 1, none⟩ = some (Value.int IntKind.i64 n3) ∧ w'.cell? ⟨w6.heap.size, 2, none⟩ = some (Value.slice Ax3 k3.len cx3) ∧ w'.cell? ⟨w.heap.size + 1, 0, none⟩ = some (Value.int IntKind.i64 op3) ∧ w'.cell? ⟨w.heap.size + 1, 1, none⟩ = some (Value.int IntKind.i64 n3) ∧ w'.cell? ⟨w.heap.size + 1, 2, none⟩ = some (Value.slice A3 k3.len c3))
    (first | exact ⟨qXB3_0, qXB3_1, qXB3_2, qHX3_0, qHX3_1, qHX3_2⟩ | exact ⟨y0XB3_0, y0XB3_1, y0XB3_2, y0HX3_0, y0HX3_1, y0HX3_2⟩ | exact ⟨y1XB3_0, y1XB3_1, y1XB3_2, y1HX3_0, y1HX3_1, y1HX3_2⟩)
    (first
      | (go_at_call 9
         refine (eqExpr_any op3 n3 k3 Ax3 At3 cx3 ct3 _ ((XL3.out.mono_ (Nat.zero_le _) (by have hs := HS.out; omega)).up hb13) (hlt3.mono_ (Nat.zero_le _) (Nat.le_refl _)) hsz3).mono ?_
         rintro e w14 ⟨rfl, hb14⟩
         have y1XB3_0 := (hb14.cell (p := ⟨w6.heap.size, 0, none⟩) (show w6.heap.size < w13.heap.size by have hs := HS.out; have zhb13 := hb13.size; omega)).trans y0XB3_0
         have y1XB3_1 := (hb14.cell (p := ⟨w6.heap.size, 1, none⟩) (show w6.heap.size < w13.heap.size by have hs := HS.out; have zhb13 := hb13.size; omega)).trans y0XB3_1
         have y1XB3_2 := (hb14.cell (p := ⟨w6.heap.size, 2, none⟩) (show w6.heap.size < w13.heap.size by have hs := HS.out; have zhb13 := hb13.size; omega)).trans y0XB3_2
         have y1HX3_0 := (hb14.cell (p := ⟨w.heap.size + 1, 0, none⟩) (show w.heap.size + 1 < w13.heap.size by have hs := HS.out; have zhb13 := hb13.size; omega)).trans y0HX3_0
         have y1HX3_1 := (hb14.cell (p := ⟨w.heap.size + 1, 1, none⟩) (show w.heap.size + 1 < w13.heap.size by have hs := HS.out; have zhb13 := hb13.size; omega)).trans y0HX3_1
         have y1HX3_2 := (hb14.cell (p := ⟨w.heap.size + 1, 2, none⟩) (show w.heap.size + 1 < w13.heap.size by have hs := HS.out; have zhb13 := hb13.size; omega)).trans y0HX3_2)
      | (go_at_call 6
         refine (toExpr_any op3 n3 k3 A3 c3 _ (HL3.out.up HB.out) hsz3).mono ?_
         rintro e w13 ⟨At3, ct3, rfl, hkt3, hct3, hlt3, halt3, hb13⟩
         have y0XB3_0 := (hb13.cell (p := ⟨w6.heap.size, 0, none⟩) (show w6.heap.size < w12.drew.heap.size by have hs := HS.out; omega)).trans qXB3_0
         have y0XB3_1 := (hb13.cell (p := ⟨w6.heap.size, 1, none⟩) (show w6.heap.size < w12.drew.heap.size by have hs := HS.out; omega)).trans qXB3_1
         have y0XB3_2 := (hb13.cell (p := ⟨w6.heap.size, 2, none⟩) (show w6.heap.size < w12.drew.heap.size by have hs := HS.out; omega)).trans qXB3_2
         have y0HX3_0 := (hb13.cell (p := ⟨w.heap.size + 1, 0, none⟩) (show w.heap.size + 1 < w12.drew.heap.size by have hs := HS.out; omega)).trans qHX3_0
         have y0HX3_1 := (hb13.cell (p := ⟨w.heap.size + 1, 1, none⟩) (show w.heap.size + 1 < w12.drew.heap.size by have hs := HS.out; omega)).trans qHX3_1
         have y0HX3_2 := (hb13.cell (p := ⟨w.heap.size + 1, 2, none⟩) (show w.heap.size + 1 < w12.drew.heap.size by have hs := HS.out; omega)).trans qHX3_2))
  have hb : Below w12.drew.heap.size w12.drew w14 := (hb13).trans (hb14.mono (hb13.size))
  clear hb13 hb14 hlt3 halt3 qXB3_0 qXB3_1 qXB3_2 qHX3_0 qHX3_1 qHX3_2 y0XB3_0 y0XB3_1 y0XB3_2 y0HX3_0 y0HX3_1 y0HX3_2 y1XB3_0 y1XB3_1 y1XB3_2 y1HX3_0 y1HX3_1 y1HX3_2
  have HB' := Lib.hid (HB.out.trans (hb.mono HB.out.size))
  have HX1' := Lib.hid (HX1.out.below hb HX1.out.size)
  have HX3' := Lib.hid (HX3.out.below hb HX3.out.size)
  have XW' := Lib.hid (XW.out.below hb XW.out.size)
  have WL' := Lib.hid (WL.out.below (hb.mono (by have hs := HS.out; omega)))
  have XL1' := Lib.hid (XL1.out.below (hb.mono (by have hs := HS.out; omega)))
  have XA1' := Lib.hid (XA1.out.below hb (by have hs := HS.out; omega))
  have XB1' := Lib.hid (XB1.out.below hb XB1.out.size)
  have XH2' := Lib.hid (XH2.out.below hb)
  have XL2' := Lib.hid (XL2.out.below (hb.mono (by have hs := HS.out; omega)))
  have XL3' := Lib.hid (XL3.out.below (hb.mono (by have hs := HS.out; omega)))
  have XA3' := Lib.hid (XA3.out.below hb (by have hs := HS.out; omega))
  have XB3' := Lib.hid (XB3.out.below hb XB3.out.size)
  have GT' := Lib.hid (GT.out.over hb)
  have XG' := Lib.hid (XG.out.below hb XG.out.size)
  have HS' := Lib.hid (And.intro hb.size HS.out)
  clear hb HB HX1 HX3 XW WL XL1 XA1 XB1 XH2 XL2 XL3 XA3 XB3 GT XG HS
  have HB := HB'
  have HX1 := HX1'
  have HX3 := HX3'
  have XW := XW'
  have WL := WL'
  have XL1 := XL1'
  have XA1 := XA1'
  have XB1 := XB1'
  have XH2 := XH2'
  have XL2 := XL2'
  have XL3 := XL3'
  have XA3 := XA3'
  have XB3 := XB3'
  have GT := GT'
  have XG := XG'
  have HS := HS'
  clear HB' HX1' HX3' XW' WL' XL1' XA1' XB1' XH2' XL2' XL3' XA3' XB3' GT' XG' HS'
  have xXB1_0 := XB1.out.cell (i := 0) rfl
  have xXB1_1 := XB1.out.cell (i := 1) rfl
  have xXB1_2 := XB1.out.cell (i := 2) rfl
  go_wp2_with fail
  refine (mkExpr_any w3.heap.size w4.heap.size op1 n1 k1 Ax1 cx1 _ 1 (Lies.sk XA1.out XL1.out) (by decide) (by omega)).mono ?_
  rintro e w15 ⟨kk1, rfl, hka1, hkb1, hm⟩
  clear xXB1_0 xXB1_1 xXB1_2
  have HB' := Lib.hid (hm.below HB.out (by have hs := HS.out; omega) (Nat.le_refl _))
  have HX1' := Lib.hid (hm.row HX1.out (by have hs := HS.out; omega))
  have HX3' := Lib.hid (hm.row HX3.out (by have hs := HS.out; omega))
  have XW' := Lib.hid (hm.row XW.out (by have hs := HS.out; omega))
  have WL' := Lib.hid (WL.out.keep (Nat.le_refl _) (Nat.le_refl _) fun p h1 h2 => hm.cell (by have hs := HS.out; omega) (by have hs := HS.out; omega))
  have XB1' := Lib.hid (hm.row XB1.out (by have hs := HS.out; omega))
  have XH2' := Lib.hid (XH2.out.mk hm (by have hs := HS.out; omega))
  have XL2' := Lib.hid (XL2.out.keep (Nat.le_refl _) (Nat.le_refl _) fun p h1 h2 => hm.cell (by have hs := HS.out; omega) (by have hs := HS.out; omega))
  have XL3' := Lib.hid (XL3.out.keep (Nat.le_refl _) (Nat.le_refl _) fun p h1 h2 => hm.cell (by have hs := HS.out; omega) (by have hs := HS.out; omega))
  have XA3' := Lib.hid (hm.rows XA3.out)
  have XB3' := Lib.hid (hm.row XB3.out (by have hs := HS.out; omega))
  have GT' := Lib.hid (hm.tree GT.out (by have hs := HS.out; omega))
  have XG' := Lib.hid (hm.row XG.out (by have hs := HS.out; omega))
  have HS' := Lib.hid (And.intro hm.size HS.out)
  clear hm HB HX1 HX3 XW WL XB1 XH2 XL2 XL3 XA3 XB3 GT XG HS
  have HB := HB'
  have HX1 := HX1'
  have HX3 := HX3'
  have XW := XW'
  have WL := WL'
  have XB1 := XB1'
  have XH2 := XH2'
  have XL2 := XL2'
  have XL3 := XL3'
  have XA3 := XA3'
  have XB3 := XB3'
  have GT := GT'
  have XG := XG'
  have HS := HS'
  clear HB' HX1' HX3' XW' WL' XB1' XH2' XL2' XL3' XA3' XB3' GT' XG' HS'
  clear XL1 XA1
  have hk01 : 0 ≤ kk1 := by omega
  go_wp2_with fail
  refine (markIntS_any zs2.length (w4.alloc (Obj.cells #[Value.int IntKind.i64 op1, Value.int IntKind.i64 n1, Value.slice Ax1 k1.len cx1] 29)).heap.size Ax2 cx2 _ kk1 XH2.out hsz2 hk01 (by omega)).mono ?_
  rintro e w16 ⟨rfl, _, hon⟩
  clear XL2 XH2
  have HB' := Lib.hid (HB.out.trans ((hon.mono (B' := w.heap.size) (by have hs := HS.out; omega)).below (by have hs := HS.out; omega)))
  have HX1' := Lib.hid (HX1.out.only hon (by have hs := HS.out; omega) (by have hs := HS.out; omega))
  have HX3' := Lib.hid (HX3.out.only hon (by have hs := HS.out; omega) (by have hs := HS.out; omega))
  have XW' := Lib.hid (XW.out.only hon (by have hs := HS.out; omega) (by have hs := HS.out; omega))
  have WL' := Lib.hid (WL.out.keep (Nat.le_refl _) (Nat.le_refl _) fun p h1 h2 => hon.cell (by have hs := HS.out; omega) (by have hs := HS.out; omega))
  have XB1' := Lib.hid (XB1.out.only hon (by have hs := HS.out; omega) (by have hs := HS.out; omega))
  have XL3' := Lib.hid (XL3.out.keep (Nat.le_refl _) (Nat.le_refl _) fun p h1 h2 => hon.cell (by have hs := HS.out; omega) (by have hs := HS.out; omega))
  have XA3' := Lib.hid (show AllRows _ _ _ from fun z h1 h2 => let ⟨t, cs, hr⟩ := XA3.out z h1 h2; ⟨t, cs, hr.only hon (by have hs := HS.out; omega) (by have hs := HS.out; omega)⟩)
  have XB3' := Lib.hid (XB3.out.only hon (by have hs := HS.out; omega) (by have hs := HS.out; omega))
  have GT' := Lib.hid (GT.out.keep fun z hz => hon.block z (by have hg := GB.out z hz; have hs := HS.out; omega) (by have hg := GB.out z hz; have hs := HS.out; omega))
  have XG' := Lib.hid (XG.out.only hon (by have hs := HS.out; omega) (by have hs := HS.out; omega))
  have HS' := Lib.hid (And.intro hon.size HS.out)
  clear hon HB HX1 HX3 XW WL XB1 XL3 XA3 XB3 GT XG HS
  have HB := HB'
  have HX1 := HX1'
  have HX3 := HX3'
  have XW := XW'
  have WL := WL'
  have XB1 := XB1'
  have XL3 := XL3'
  have XA3 := XA3'
  have XB3 := XB3'
  have GT := GT'
  have XG := XG'
  have HS := HS'
  clear HB' HX1' HX3' XW' WL' XB1' XL3' XA3' XB3' GT' XG' HS'
  obtain ⟨kk2, hkk2⟩ : ∃ z : Int, z = kk1 + (zs2.length : Int) := ⟨_, rfl⟩
  rw [← hkk2]
  have hk02 : 0 ≤ kk2 := by omega
  have hkb2 : kk2 ≤ kk1 + 1048576 := by omega
  clear hkk2
  have xXB3_0 := XB3.out.cell (i := 0) rfl
  have xXB3_1 := XB3.out.cell (i := 1) rfl
  have xXB3_2 := XB3.out.cell (i := 2) rfl
  go_wp2_with fail
  refine (mkExpr_any w5.heap.size w6.heap.size op3 n3 k3 Ax3 cx3 _ kk2 (Lies.sk XA3.out XL3.out) hk02 (by omega)).mono ?_
  rintro e w17 ⟨kk3, rfl, hka3, hkb3, hm⟩
  clear xXB3_0 xXB3_1 xXB3_2
  have HB' := Lib.hid (hm.below HB.out (by have hs := HS.out; omega) (Nat.le_refl _))
  have HX1' := Lib.hid (hm.row HX1.out (by have hs := HS.out; omega))
  have HX3' := Lib.hid (hm.row HX3.out (by have hs := HS.out; omega))
  have XW' := Lib.hid (hm.row XW.out (by have hs := HS.out; omega))
  have WL' := Lib.hid (WL.out.keep (Nat.le_refl _) (Nat.le_refl _) fun p h1 h2 => hm.cell (by have hs := HS.out; omega) (by have hs := HS.out; omega))
  have XB1' := Lib.hid (hm.row XB1.out (by have hs := HS.out; omega))
  have XB3' := Lib.hid (hm.row XB3.out (by have hs := HS.out; omega))
  have GT' := Lib.hid (hm.tree GT.out (by have hs := HS.out; omega))
  have XG' := Lib.hid (hm.row XG.out (by have hs := HS.out; omega))
  have HS' := Lib.hid (And.intro hm.size HS.out)
  clear hm HB HX1 HX3 XW WL XB1 XB3 GT XG HS
  have HB := HB'
  have HX1 := HX1'
  have HX3 := HX3'
  have XW := XW'
  have WL := WL'
  have XB1 := XB1'
  have XB3 := XB3'
  have GT := GT'
  have XG := XG'
  have HS := HS'
  clear HB' HX1' HX3' XW' WL' XB1' XB3' GT' XG' HS'
  clear XL3 XA3
  have hk03 : 0 ≤ kk3 := by omega
  have zXG_0 := XG.out.cell (i := 0) rfl
  have zXG_1 := XG.out.cell (i := 1) rfl
  have zXG_2 := XG.out.cell (i := 2) rfl
  have zXW_0 := XW.out.cell (i := 0) rfl
  have zXW_1 := XW.out.cell (i := 1) rfl
  have zXW_2 := XW.out.cell (i := 2) rfl
  go_wp2_with fail
  refine (eqExpr_any y.op y.n y.k Ag Aw cg cw _ ((GT.out.lies fun z hz => (GT.out.lt z hz).2).mono_ (Nat.zero_le _) (Nat.le_refl _)) (WL.out.mono_ (Nat.zero_le _) (by have hs := HS.out; omega)) hys).mono ?_
  rintro e w18 ⟨rfl, hb⟩
  clear zXG_0 zXG_1 zXG_2 zXW_0 zXW_1 zXW_2
  have HB' := Lib.hid (HB.out.trans (hb.mono HB.out.size))
  have HX1' := Lib.hid (HX1.out.below hb HX1.out.size)
  have HX3' := Lib.hid (HX3.out.below hb HX3.out.size)
  have XW' := Lib.hid (XW.out.below hb XW.out.size)
  have WL' := Lib.hid (WL.out.below (hb.mono (by have hs := HS.out; omega)))
  have XB1' := Lib.hid (XB1.out.below hb XB1.out.size)
  have XB3' := Lib.hid (XB3.out.below hb XB3.out.size)
  have GT' := Lib.hid (GT.out.over hb)
  have XG' := Lib.hid (XG.out.below hb XG.out.size)
  have HS' := Lib.hid (And.intro hb.size HS.out)
  clear hb HB HX1 HX3 XW WL XB1 XB3 GT XG HS
  have HB := HB'
  have HX1 := HX1'
  have HX3 := HX3'
  have XW := XW'
  have WL := WL'
  have XB1 := XB1'
  have XB3 := XB3'
  have GT := GT'
  have XG := XG'
  have HS := HS'
  clear HB' HX1' HX3' XW' WL' XB1' XB3' GT' XG' HS'
  clear XB1
  clear XB3
  have zXG_0 := XG.out.cell (i := 0) rfl
  have zXG_1 := XG.out.cell (i := 1) rfl
  have zXG_2 := XG.out.cell (i := 2) rfl
  go_wp2_with fail
  refine (markOwn_any y.op y.n y.k Ag cg _ bsg _ 1 GT.out (by decide) (by omega)).mono ?_
  rintro e w19 ⟨rfl, htm, hon⟩
  clear GT
  clear zXG_0 zXG_1 zXG_2
  have HB' := Lib.hid (HB.out.trans (hon.below (fun z hz => by have hg := GB.out _ hz; have hs := HS.out; omega) HB.out.size))
  have HX1' := Lib.hid (hon.row HX1.out (fun hz => by have hg := GB.out _ hz; have hs := HS.out; omega))
  have HX3' := Lib.hid (hon.row HX3.out (fun hz => by have hg := GB.out _ hz; have hs := HS.out; omega))
  have XW' := Lib.hid (hon.row XW.out (fun hz => by have hg := GB.out _ hz; have hs := HS.out; omega))
  have WL' := Lib.hid (WL.out.keep (Nat.le_refl _) (Nat.le_refl _) fun p h1 h2 => hon.cell (by have hs := HS.out; omega) (fun hz => by have hg := GB.out _ hz; have hs := HS.out; omega))
  have XG' := Lib.hid (hon.row XG.out (fun hz => by have hg := GB.out _ hz; have hs := HS.out; omega))
  have HS' := Lib.hid (And.intro hon.size HS.out)
  clear hon HB HX1 HX3 XW WL XG HS
  have HB := HB'
  have HX1 := HX1'
  have HX3 := HX3'
  have XW := XW'
  have WL := WL'
  have XG := XG'
  have HS := HS'
  clear HB' HX1' HX3' XW' WL' XG' HS'
  have GL := Lib.hid (htm.lies fun z hz => (GB.out z hz).2)
  clear htm
  have hzp : (1 : Int) + 2 * (y.k.size : Int) ≤ 2097153 := by omega
  have hz0 : (0 : Int) ≤ 1 + 2 * (y.k.size : Int) := by omega
  generalize hll : (1 : Int) + 2 * (y.k.size : Int) = ll at hzp hz0
  have HLL := Lib.hid hll
  clear hll
  have zXG_0 := XG.out.cell (i := 0) rfl
  have zXG_1 := XG.out.cell (i := 1) rfl
  have zXG_2 := XG.out.cell (i := 2) rfl
  go_wp2_with fail
  refine (heldOwn_any y.op y.n y.k Ag cg _ 1 (GL.out.mono_ (Nat.zero_le _) (by have hs := HS.out; omega)) (by decide) (by omega)).mono ?_
  rintro e w20 ⟨rfl, hb⟩
  rw [HLL.out]
  clear zXG_0 zXG_1 zXG_2
  have HB' := Lib.hid (HB.out.trans (hb.mono HB.out.size))
  have HX1' := Lib.hid (HX1.out.below hb HX1.out.size)
  have HX3' := Lib.hid (HX3.out.below hb HX3.out.size)
  have XW' := Lib.hid (XW.out.below hb XW.out.size)
  have WL' := Lib.hid (WL.out.below (hb.mono (by have hs := HS.out; omega)))
  have XG' := Lib.hid (XG.out.below hb XG.out.size)
  have GL' := Lib.hid (GL.out.below (hb.mono (by have hs := HS.out; omega)))
  have HS' := Lib.hid (And.intro hb.size HS.out)
  clear hb HB HX1 HX3 XW WL XG GL HS
  have HB := HB'
  have HX1 := HX1'
  have HX3 := HX3'
  have XW := XW'
  have WL := WL'
  have XG := XG'
  have GL := GL'
  have HS := HS'
  clear HB' HX1' HX3' XW' WL' XG' GL' HS'
  go_upto_region 37 with fail
  have hS : ∀ w' : World, Below w20.heap.size w20 w' → w'.cell? ⟨w.heap.size, 0, none⟩ = some (Value.int IntKind.i64 op1) ∧ w'.cell? ⟨w.heap.size, 1, none⟩ = some (Value.int IntKind.i64 n1) ∧ w'.cell? ⟨w.heap.size, 2, none⟩ = some (Value.slice A1 k1.len c1) ∧ w'.cell? ⟨w.heap.size + 1, 0, none⟩ = some (Value.int IntKind.i64 op3) ∧ w'.cell? ⟨w.heap.size + 1, 1, none⟩ = some (Value.int IntKind.i64 n3) ∧ w'.cell? ⟨w.heap.size + 1, 2, none⟩ = some (Value.slice A3 k3.len c3) := fun w' hb => ⟨(hb.cell (p := ⟨w.heap.size, 0, none⟩) HX1.out.size).trans (HX1.out.cell (i := 0) rfl), (hb.cell (p := ⟨w.heap.size, 1, none⟩) HX1.out.size).trans (HX1.out.cell (i := 1) rfl), (hb.cell (p := ⟨w.heap.size, 2, none⟩) HX1.out.size).trans (HX1.out.cell (i := 2) rfl), (hb.cell (p := ⟨w.heap.size + 1, 0, none⟩) HX3.out.size).trans (HX3.out.cell (i := 0) rfl), (hb.cell (p := ⟨w.heap.size + 1, 1, none⟩) HX3.out.size).trans (HX3.out.cell (i := 1) rfl), (hb.cell (p := ⟨w.heap.size + 1, 2, none⟩) HX3.out.size).trans (HX3.out.cell (i := 2) rfl)⟩
  have HSS := Lib.hid hS
  clear hS
  have HT1 := Lib.hid (fun (w' : World) (hb' : Below w20.heap.size w20 w') => toExpr_any op1 n1 k1 A1 c1 w' ((HL1.out.up HB.out).up hb') hsz1)
  have HT2 := Lib.hid (fun (w' : World) (hb' : Below w20.heap.size w20 w') => toIntS_any zs2 A2 c2 w' ((HL2.out.up HB.out).up hb') hsz2)
  have HT3 := Lib.hid (fun (w' : World) (hb' : Below w20.heap.size w20 w') => toExpr_any op3 n3 k3 A3 c3 w' ((HL3.out.up HB.out).up hb') hsz3)
  go_cut [18, 19] from 113 to 122 (fun p s wd => ∃ g A9 c9 b9, p = .pointer (some ⟨g, 0, none⟩) ∧ s = .bool ok ∧ Row wd g 29 #[.int .i64 y.op, .int .i64 y.n, .slice A9 y.k.len c9] ∧ w20.heap.size ≤ g ∧ Tree wd w20.heap.size (.slice A9 y.k.len c9) y.k b9 ∧ Below w20.heap.size w20 wd)
  case first =>
    have b0 : Below w20.heap.size w20 w20.drew := (Below.refl _ _).drew
    have bp : Below w20.heap.size w20 (w20.alloc (Obj.cells #[Value.int .i64 0, Value.int .i64 0, Value.slice none 0 0] 29)).drew := ((Below.refl _ _).alloc (Nat.le_refl _) _).drew
    have C0 := Lib.hid (HT1.out _ b0)
    have CP := Lib.hid (HT1.out _ bp)
    have s0 := HSS.out _ b0
    have sp := HSS.out _ bp
    have B0 := Lib.hid b0
    have BP := Lib.hid bp
    have RP := Lib.hid (show Row (w20.alloc (Obj.cells #[Value.int .i64 0, Value.int .i64 0, Value.slice none 0 0] 29)).drew w20.heap.size 29 #[Value.int .i64 0, Value.int .i64 0, Value.slice none 0 0] from (Row.fresh _ _ _).drew)
    clear b0 bp
    go_region_held3 (fun w' => w'.cell? ⟨w.heap.size, 0, none⟩ = some (Value.int IntKind.i64 op1) ∧ w'.cell? ⟨w.heap.size, 1, none⟩ = some (Value.int IntKind.i64 n1) ∧ w'.cell? ⟨w.heap.size, 2, none⟩ = some (Value.slice A1 k1.len c1) ∧ w'.cell? ⟨w.heap.size + 1, 0, none⟩ = some (Value.int IntKind.i64 op3) ∧ w'.cell? ⟨w.heap.size + 1, 1, none⟩ = some (Value.int IntKind.i64 n3) ∧ w'.cell? ⟨w.heap.size + 1, 2, none⟩ = some (Value.slice A3 k3.len c3))
      (first | with_reducible exact s0 | with_reducible exact sp | with_reducible exact s1 | with_reducible exact s1l | with_reducible exact s2 | with_reducible exact s2l | with_reducible exact s3 | with_reducible exact s3l | with_reducible exact s3_ | with_reducible exact s4_ | with_reducible exact s3z | fail)
      (first
        | (go_at_call 8
           with_reducible refine (implRepl_any op1 n1 k1 Ah1 ch1 zs2 Ah2 ch2 op3 n3 k3 Ah3 ch3 _ LT1_3.out (Nat.le_trans hkh1 hch1) LT3_3.out (Nat.le_trans hkh3 hch3) LT2_3.out hsz2 hi1 hi3).mono ?_
           rintro e vd ⟨A5, c5, b5, rfl, ht5, hb5⟩
           rw [← HY.out] at ht5
           rw [← HY.out, ← HOK.out]
           have hb := B3.out.trans (hb5.mono B3.out.size)
           have r5 := (RL0_3.out).below hb5 ((RL0_3.out).size)
           have f0 := r5.free 0
           have f1 := r5.free 1
           have f2 := r5.free 2
           have d0 := r5.cell (i := 0) rfl
           have d1 := r5.cell (i := 1) rfl
           have d2 := r5.cell (i := 2) rfl
           have hgl : w20.heap.size ≤ w20.heap.size := by first | exact Nat.le_refl _ | exact B1.out.size | exact B2.out.size | exact B3.out.size
           have hbs := ((hb.setCell (p := ⟨w20.heap.size, 0, none⟩) hgl (.int .i64 y.op)).setCell (p := ⟨w20.heap.size, 1, none⟩) hgl (.int .i64 y.n)).setCell (p := ⟨w20.heap.size, 2, none⟩) hgl (.slice A5 y.k.len c5)
           have s3_ := HSS.out _ hb
           have s4_ := HSS.out _ hbs
           have hzr := (RL0_3.out).size
           have HEND := Lib.hid (show ∃ g A6 c6 b6, Value.pointer (some ⟨w20.heap.size, 0, none⟩) = .pointer (some ⟨g, 0, none⟩) ∧ Row (((vd.setCell ⟨w20.heap.size, 0, none⟩ (.int .i64 y.op)).setCell ⟨w20.heap.size, 1, none⟩ (.int .i64 y.n)).setCell ⟨w20.heap.size, 2, none⟩ (.slice A5 y.k.len c5)) g 29 #[.int .i64 y.op, .int .i64 y.n, .slice A6 y.k.len c6] ∧ w20.heap.size ≤ g ∧ Tree (((vd.setCell ⟨w20.heap.size, 0, none⟩ (.int .i64 y.op)).setCell ⟨w20.heap.size, 1, none⟩ (.int .i64 y.n)).setCell ⟨w20.heap.size, 2, none⟩ (.slice A5 y.k.len c5)) w20.heap.size (.slice A6 y.k.len c6) y.k b6 ∧ Below w20.heap.size w20 (((vd.setCell ⟨w20.heap.size, 0, none⟩ (.int .i64 y.op)).setCell ⟨w20.heap.size, 1, none⟩ (.int .i64 y.n)).setCell ⟨w20.heap.size, 2, none⟩ (.slice A5 y.k.len c5)) from ⟨w20.heap.size, A5, c5, b5, rfl, ((r5.put 0 _).put 1 _).put 2 _, hgl, (((ht5.putL (p := ⟨w20.heap.size, 0, none⟩) hzr _).putL (p := ⟨w20.heap.size, 1, none⟩) hzr _).putL (p := ⟨w20.heap.size, 2, none⟩) hzr _).lower B3.out.size, hbs⟩)
           clear ht5 hb5 hb r5 hbs hgl hzr)
        | (go_at_call 8
           with_reducible refine (implRepl_any op1 n1 k1 Ah1 ch1 zs2 Ah2 ch2 op3 n3 k3 Ah3 ch3 _ LT1_3.out (Nat.le_trans hkh1 hch1) LT3_3.out (Nat.le_trans hkh3 hch3) LT2_3.out hsz2 hi1 hi3).mono ?_
           rintro e vd ⟨A5, c5, b5, rfl, ht5, hb5⟩
           rw [← HY.out] at ht5
           rw [← HY.out, ← HOK.out]
           have hb := B3.out.trans (hb5.mono B3.out.size)
           have r5 := (RL1_3.out).below hb5 ((RL1_3.out).size)
           have f0 := r5.free 0
           have f1 := r5.free 1
           have f2 := r5.free 2
           have d0 := r5.cell (i := 0) rfl
           have d1 := r5.cell (i := 1) rfl
           have d2 := r5.cell (i := 2) rfl
           have hgl : w20.heap.size ≤ v1.heap.size := by first | exact Nat.le_refl _ | exact B1.out.size | exact B2.out.size | exact B3.out.size
           have hbs := ((hb.setCell (p := ⟨v1.heap.size, 0, none⟩) hgl (.int .i64 y.op)).setCell (p := ⟨v1.heap.size, 1, none⟩) hgl (.int .i64 y.n)).setCell (p := ⟨v1.heap.size, 2, none⟩) hgl (.slice A5 y.k.len c5)
           have s3_ := HSS.out _ hb
           have s4_ := HSS.out _ hbs
           have hzr := (RL1_3.out).size
           have HEND := Lib.hid (show ∃ g A6 c6 b6, Value.pointer (some ⟨v1.heap.size, 0, none⟩) = .pointer (some ⟨g, 0, none⟩) ∧ Row (((vd.setCell ⟨v1.heap.size, 0, none⟩ (.int .i64 y.op)).setCell ⟨v1.heap.size, 1, none⟩ (.int .i64 y.n)).setCell ⟨v1.heap.size, 2, none⟩ (.slice A5 y.k.len c5)) g 29 #[.int .i64 y.op, .int .i64 y.n, .slice A6 y.k.len c6] ∧ w20.heap.size ≤ g ∧ Tree (((vd.setCell ⟨v1.heap.size, 0, none⟩ (.int .i64 y.op)).setCell ⟨v1.heap.size, 1, none⟩ (.int .i64 y.n)).setCell ⟨v1.heap.size, 2, none⟩ (.slice A5 y.k.len c5)) w20.heap.size (.slice A6 y.k.len c6) y.k b6 ∧ Below w20.heap.size w20 (((vd.setCell ⟨v1.heap.size, 0, none⟩ (.int .i64 y.op)).setCell ⟨v1.heap.size, 1, none⟩ (.int .i64 y.n)).setCell ⟨v1.heap.size, 2, none⟩ (.slice A5 y.k.len c5)) from ⟨v1.heap.size, A5, c5, b5, rfl, ((r5.put 0 _).put 1 _).put 2 _, hgl, (((ht5.putL (p := ⟨v1.heap.size, 0, none⟩) hzr _).putL (p := ⟨v1.heap.size, 1, none⟩) hzr _).putL (p := ⟨v1.heap.size, 2, none⟩) hzr _).lower B3.out.size, hbs⟩)
           clear ht5 hb5 hb r5 hbs hgl hzr)
        | (go_at_call 8
           with_reducible refine (implRepl_any op1 n1 k1 Ah1 ch1 zs2 Ah2 ch2 op3 n3 k3 Ah3 ch3 _ LT1_3.out (Nat.le_trans hkh1 hch1) LT3_3.out (Nat.le_trans hkh3 hch3) LT2_3.out hsz2 hi1 hi3).mono ?_
           rintro e vd ⟨A5, c5, b5, rfl, ht5, hb5⟩
           rw [← HY.out] at ht5
           rw [← HY.out, ← HOK.out]
           have hb := B3.out.trans (hb5.mono B3.out.size)
           have r5 := (RL2_3.out).below hb5 ((RL2_3.out).size)
           have f0 := r5.free 0
           have f1 := r5.free 1
           have f2 := r5.free 2
           have d0 := r5.cell (i := 0) rfl
           have d1 := r5.cell (i := 1) rfl
           have d2 := r5.cell (i := 2) rfl
           have hgl : w20.heap.size ≤ v2.heap.size := by first | exact Nat.le_refl _ | exact B1.out.size | exact B2.out.size | exact B3.out.size
           have hbs := ((hb.setCell (p := ⟨v2.heap.size, 0, none⟩) hgl (.int .i64 y.op)).setCell (p := ⟨v2.heap.size, 1, none⟩) hgl (.int .i64 y.n)).setCell (p := ⟨v2.heap.size, 2, none⟩) hgl (.slice A5 y.k.len c5)
           have s3_ := HSS.out _ hb
           have s4_ := HSS.out _ hbs
           have hzr := (RL2_3.out).size
           have HEND := Lib.hid (show ∃ g A6 c6 b6, Value.pointer (some ⟨v2.heap.size, 0, none⟩) = .pointer (some ⟨g, 0, none⟩) ∧ Row (((vd.setCell ⟨v2.heap.size, 0, none⟩ (.int .i64 y.op)).setCell ⟨v2.heap.size, 1, none⟩ (.int .i64 y.n)).setCell ⟨v2.heap.size, 2, none⟩ (.slice A5 y.k.len c5)) g 29 #[.int .i64 y.op, .int .i64 y.n, .slice A6 y.k.len c6] ∧ w20.heap.size ≤ g ∧ Tree (((vd.setCell ⟨v2.heap.size, 0, none⟩ (.int .i64 y.op)).setCell ⟨v2.heap.size, 1, none⟩ (.int .i64 y.n)).setCell ⟨v2.heap.size, 2, none⟩ (.slice A5 y.k.len c5)) w20.heap.size (.slice A6 y.k.len c6) y.k b6 ∧ Below w20.heap.size w20 (((vd.setCell ⟨v2.heap.size, 0, none⟩ (.int .i64 y.op)).setCell ⟨v2.heap.size, 1, none⟩ (.int .i64 y.n)).setCell ⟨v2.heap.size, 2, none⟩ (.slice A5 y.k.len c5)) from ⟨v2.heap.size, A5, c5, b5, rfl, ((r5.put 0 _).put 1 _).put 2 _, hgl, (((ht5.putL (p := ⟨v2.heap.size, 0, none⟩) hzr _).putL (p := ⟨v2.heap.size, 1, none⟩) hzr _).putL (p := ⟨v2.heap.size, 2, none⟩) hzr _).lower B3.out.size, hbs⟩)
           clear ht5 hb5 hb r5 hbs hgl hzr)
        | (go_at_call 8
           with_reducible refine (implRepl_any op1 n1 k1 Ah1 ch1 zs2 Ah2 ch2 op3 n3 k3 Ah3 ch3 _ (LT1_3.out.up ((Below.refl _ _).alloc (Nat.le_refl _) _)) (Nat.le_trans hkh1 hch1) (LT3_3.out.up ((Below.refl _ _).alloc (Nat.le_refl _) _)) (Nat.le_trans hkh3 hch3) (LT2_3.out.up ((Below.refl _ _).alloc (Nat.le_refl _) _)) hsz2 hi1 hi3).mono ?_
           rintro e vd ⟨A5, c5, b5, rfl, ht5, hb5⟩
           rw [← HY.out] at ht5
           rw [← HY.out, ← HOK.out]
           have hb := B3L.out.trans (hb5.mono B3L.out.size)
           have r5 := (Row.fresh v3 29 #[Value.int .i64 0, Value.int .i64 0, Value.slice none 0 0]).below hb5 ((Row.fresh v3 29 #[Value.int .i64 0, Value.int .i64 0, Value.slice none 0 0]).size)
           have f0 := r5.free 0
           have f1 := r5.free 1
           have f2 := r5.free 2
           have d0 := r5.cell (i := 0) rfl
           have d1 := r5.cell (i := 1) rfl
           have d2 := r5.cell (i := 2) rfl
           have hgl : w20.heap.size ≤ v3.heap.size := by first | exact Nat.le_refl _ | exact B1.out.size | exact B2.out.size | exact B3.out.size
           have hbs := ((hb.setCell (p := ⟨v3.heap.size, 0, none⟩) hgl (.int .i64 y.op)).setCell (p := ⟨v3.heap.size, 1, none⟩) hgl (.int .i64 y.n)).setCell (p := ⟨v3.heap.size, 2, none⟩) hgl (.slice A5 y.k.len c5)
           have s3_ := HSS.out _ hb
           have s4_ := HSS.out _ hbs
           have hzr := (Row.fresh v3 29 #[Value.int .i64 0, Value.int .i64 0, Value.slice none 0 0]).size
           have HEND := Lib.hid (show ∃ g A6 c6 b6, Value.pointer (some ⟨v3.heap.size, 0, none⟩) = .pointer (some ⟨g, 0, none⟩) ∧ Row (((vd.setCell ⟨v3.heap.size, 0, none⟩ (.int .i64 y.op)).setCell ⟨v3.heap.size, 1, none⟩ (.int .i64 y.n)).setCell ⟨v3.heap.size, 2, none⟩ (.slice A5 y.k.len c5)) g 29 #[.int .i64 y.op, .int .i64 y.n, .slice A6 y.k.len c6] ∧ w20.heap.size ≤ g ∧ Tree (((vd.setCell ⟨v3.heap.size, 0, none⟩ (.int .i64 y.op)).setCell ⟨v3.heap.size, 1, none⟩ (.int .i64 y.n)).setCell ⟨v3.heap.size, 2, none⟩ (.slice A5 y.k.len c5)) w20.heap.size (.slice A6 y.k.len c6) y.k b6 ∧ Below w20.heap.size w20 (((vd.setCell ⟨v3.heap.size, 0, none⟩ (.int .i64 y.op)).setCell ⟨v3.heap.size, 1, none⟩ (.int .i64 y.n)).setCell ⟨v3.heap.size, 2, none⟩ (.slice A5 y.k.len c5)) from ⟨v3.heap.size, A5, c5, b5, rfl, ((r5.put 0 _).put 1 _).put 2 _, hgl, (((ht5.putL (p := ⟨v3.heap.size, 0, none⟩) hzr _).putL (p := ⟨v3.heap.size, 1, none⟩) hzr _).putL (p := ⟨v3.heap.size, 2, none⟩) hzr _).lower B3L.out.size, hbs⟩)
           clear ht5 hb5 hb r5 hbs hgl hzr)
        | (go_at_call 8
           with_reducible refine (implRepl_any op1 n1 k1 Ah1 ch1 zs2 Ah2 ch2 op3 n3 k3 Ah3 ch3 _ LT1_3.out (Nat.le_trans hkh1 hch1) LT3_3.out (Nat.le_trans hkh3 hch3) LT2_3.out hsz2 hi1 hi3).mono ?_
           rintro e vd ⟨A5, c5, b5, rfl, ht5, hb5⟩
           rw [← HY.out] at ht5
           rw [← HY.out, ← HOK.out]
           have hb := B3.out.trans (hb5.mono B3.out.size)
           have hbl : Below vd.heap.size vd (vd.alloc (Obj.cells #[Value.int .i64 y.op, Value.int .i64 y.n, Value.slice A5 y.k.len c5] 29)) := (Below.refl _ _).alloc (Nat.le_refl _) _
           have hba := hb.trans (hbl.mono hb.size)
           have s3_ := HSS.out _ hb
           have s4_ := HSS.out _ hba
           have s3z := HSS.out _ (hb.alloc hb.size (Obj.cells #[Value.int .i64 0, Value.int .i64 0, Value.slice none 0 0] 29))
           have HEND := Lib.hid (show ∃ g A6 c6 b6, Value.pointer (some ⟨vd.heap.size, 0, none⟩) = .pointer (some ⟨g, 0, none⟩) ∧ Row (vd.alloc (Obj.cells #[Value.int .i64 y.op, Value.int .i64 y.n, Value.slice A5 y.k.len c5] 29)) g 29 #[.int .i64 y.op, .int .i64 y.n, .slice A6 y.k.len c6] ∧ w20.heap.size ≤ g ∧ Tree (vd.alloc (Obj.cells #[Value.int .i64 y.op, Value.int .i64 y.n, Value.slice A5 y.k.len c5] 29)) w20.heap.size (.slice A6 y.k.len c6) y.k b6 ∧ Below w20.heap.size w20 (vd.alloc (Obj.cells #[Value.int .i64 y.op, Value.int .i64 y.n, Value.slice A5 y.k.len c5] 29)) from ⟨vd.heap.size, A5, c5, b5, rfl, Row.fresh _ _ _, hb.size, (ht5.over hbl).lower B3.out.size, hba⟩)
           clear ht5 hb5 hb hbl hba)
        | (go_at_call 6
           with_reducible refine (HT3.out v2 B2.out).mono ?_
           rintro e v3 ⟨Ah3, ch3, rfl, hkh3, hch3, hlh3, halh3, hb3⟩
           have RL0_3 := Lib.hid (RL0_2.out.below hb3 RL0_2.out.size)
           have LT1_3 := Lib.hid ((LT1_2.out).up hb3)
           have LT2_3 := Lib.hid ((LT2_2.out).up hb3)
           have LT3_3 := Lib.hid (hlh3.mono_ (Nat.zero_le _) (Nat.le_refl _))
           have b3 := B2.out.trans (hb3.mono B2.out.size)
           have B3 := Lib.hid b3
           have B3L := Lib.hid (b3.alloc b3.size (Obj.cells #[Value.int .i64 0, Value.int .i64 0, Value.slice none 0 0] 29))
           have s3 := HSS.out _ b3
           have s3l := HSS.out _ B3L.out
           clear hb3 b3 hlh3 halh3)
        | (go_at_call 6
           with_reducible refine (HT3.out v2 B2.out).mono ?_
           rintro e v3 ⟨Ah3, ch3, rfl, hkh3, hch3, hlh3, halh3, hb3⟩
           have RL1_3 := Lib.hid (RL1_2.out.below hb3 RL1_2.out.size)
           have LT1_3 := Lib.hid ((LT1_2.out).up hb3)
           have LT2_3 := Lib.hid ((LT2_2.out).up hb3)
           have LT3_3 := Lib.hid (hlh3.mono_ (Nat.zero_le _) (Nat.le_refl _))
           have b3 := B2.out.trans (hb3.mono B2.out.size)
           have B3 := Lib.hid b3
           have B3L := Lib.hid (b3.alloc b3.size (Obj.cells #[Value.int .i64 0, Value.int .i64 0, Value.slice none 0 0] 29))
           have s3 := HSS.out _ b3
           have s3l := HSS.out _ B3L.out
           clear hb3 b3 hlh3 halh3)
        | (go_at_call 6
           with_reducible refine (HT3.out (v2.alloc (Obj.cells #[Value.int .i64 0, Value.int .i64 0, Value.slice none 0 0] 29)) B2L.out).mono ?_
           rintro e v3 ⟨Ah3, ch3, rfl, hkh3, hch3, hlh3, halh3, hb3⟩
           have RL2_3 := Lib.hid ((Row.fresh v2 29 #[Value.int .i64 0, Value.int .i64 0, Value.slice none 0 0]).below hb3 (by simp))
           have LT1_3 := Lib.hid ((LT1_2.out.up ((Below.refl _ _).alloc (Nat.le_refl _) _)).up hb3)
           have LT2_3 := Lib.hid ((LT2_2.out.up ((Below.refl _ _).alloc (Nat.le_refl _) _)).up hb3)
           have LT3_3 := Lib.hid (hlh3.mono_ (Nat.zero_le _) (Nat.le_refl _))
           have b3 := B2L.out.trans (hb3.mono B2L.out.size)
           have B3 := Lib.hid b3
           have B3L := Lib.hid (b3.alloc b3.size (Obj.cells #[Value.int .i64 0, Value.int .i64 0, Value.slice none 0 0] 29))
           have s3 := HSS.out _ b3
           have s3l := HSS.out _ B3L.out
           clear hb3 b3 hlh3 halh3)
        | (go_at_call 6
           with_reducible refine (HT3.out v2 B2.out).mono ?_
           rintro e v3 ⟨Ah3, ch3, rfl, hkh3, hch3, hlh3, halh3, hb3⟩
           have LT1_3 := Lib.hid ((LT1_2.out).up hb3)
           have LT2_3 := Lib.hid ((LT2_2.out).up hb3)
           have LT3_3 := Lib.hid (hlh3.mono_ (Nat.zero_le _) (Nat.le_refl _))
           have b3 := B2.out.trans (hb3.mono B2.out.size)
           have B3 := Lib.hid b3
           have B3L := Lib.hid (b3.alloc b3.size (Obj.cells #[Value.int .i64 0, Value.int .i64 0, Value.slice none 0 0] 29))
           have s3 := HSS.out _ b3
           have s3l := HSS.out _ B3L.out
           clear hb3 b3 hlh3 halh3)
        | (go_at_call 7
           with_reducible refine (HT2.out v1 B1.out).mono ?_
           rintro e v2 ⟨Ah2, ch2, rfl, hkh2, hch2, hlh2, hb2⟩
           have RL0_2 := Lib.hid (RL0_1.out.below hb2 RL0_1.out.size)
           have LT1_2 := Lib.hid ((LT1_1.out).up hb2)
           have LT2_2 := Lib.hid (hlh2.mono_ (Nat.zero_le _) (Nat.le_refl _))
           have b2 := B1.out.trans (hb2.mono B1.out.size)
           have B2 := Lib.hid b2
           have B2L := Lib.hid (b2.alloc b2.size (Obj.cells #[Value.int .i64 0, Value.int .i64 0, Value.slice none 0 0] 29))
           have s2 := HSS.out _ b2
           have s2l := HSS.out _ B2L.out
           clear hb2 b2 hlh2)
        | (go_at_call 7
           with_reducible refine (HT2.out (v1.alloc (Obj.cells #[Value.int .i64 0, Value.int .i64 0, Value.slice none 0 0] 29)) B1L.out).mono ?_
           rintro e v2 ⟨Ah2, ch2, rfl, hkh2, hch2, hlh2, hb2⟩
           have RL1_2 := Lib.hid ((Row.fresh v1 29 #[Value.int .i64 0, Value.int .i64 0, Value.slice none 0 0]).below hb2 (by simp))
           have LT1_2 := Lib.hid ((LT1_1.out.up ((Below.refl _ _).alloc (Nat.le_refl _) _)).up hb2)
           have LT2_2 := Lib.hid (hlh2.mono_ (Nat.zero_le _) (Nat.le_refl _))
           have b2 := B1L.out.trans (hb2.mono B1L.out.size)
           have B2 := Lib.hid b2
           have B2L := Lib.hid (b2.alloc b2.size (Obj.cells #[Value.int .i64 0, Value.int .i64 0, Value.slice none 0 0] 29))
           have s2 := HSS.out _ b2
           have s2l := HSS.out _ B2L.out
           clear hb2 b2 hlh2)
        | (go_at_call 7
           with_reducible refine (HT2.out v1 B1.out).mono ?_
           rintro e v2 ⟨Ah2, ch2, rfl, hkh2, hch2, hlh2, hb2⟩
           have LT1_2 := Lib.hid ((LT1_1.out).up hb2)
           have LT2_2 := Lib.hid (hlh2.mono_ (Nat.zero_le _) (Nat.le_refl _))
           have b2 := B1.out.trans (hb2.mono B1.out.size)
           have B2 := Lib.hid b2
           have B2L := Lib.hid (b2.alloc b2.size (Obj.cells #[Value.int .i64 0, Value.int .i64 0, Value.slice none 0 0] 29))
           have s2 := HSS.out _ b2
           have s2l := HSS.out _ B2L.out
           clear hb2 b2 hlh2)
        | (go_at_call 6
           with_reducible refine CP.out.mono ?_
           rintro e v1 ⟨Ah1, ch1, rfl, hkh1, hch1, hlh1, halh1, hb1⟩
           have RL0_1 := Lib.hid (RP.out.below hb1 RP.out.size)
           have LT1_1 := Lib.hid (hlh1.mono_ (Nat.zero_le _) (Nat.le_refl _))
           have b1 := BP.out.trans (hb1.mono BP.out.size)
           have B1 := Lib.hid b1
           have B1L := Lib.hid (b1.alloc b1.size (Obj.cells #[Value.int .i64 0, Value.int .i64 0, Value.slice none 0 0] 29))
           have s1 := HSS.out _ b1
           have s1l := HSS.out _ B1L.out
           clear hb1 b1 hlh1 halh1)
        | (go_at_call 6
           with_reducible refine C0.out.mono ?_
           rintro e v1 ⟨Ah1, ch1, rfl, hkh1, hch1, hlh1, halh1, hb1⟩
           have LT1_1 := Lib.hid (hlh1.mono_ (Nat.zero_le _) (Nat.le_refl _))
           have b1 := B0.out.trans (hb1.mono B0.out.size)
           have B1 := Lib.hid b1
           have B1L := Lib.hid (b1.alloc b1.size (Obj.cells #[Value.int .i64 0, Value.int .i64 0, Value.slice none 0 0] 29))
           have s1 := HSS.out _ b1
           have s1l := HSS.out _ B1L.out
           clear hb1 b1 hlh1 halh1)
        | fail)
    all_goals
      go_wp2_with fail
      go_meet
      obtain ⟨g, A9', c9', b9', hp, hr⟩ := HEND.out
      exact ⟨g, A9', c9', b9', hp, rfl, hr⟩
  case rest =>
  obtain ⟨gAh, Ah, ch, bsh, rfl, rfl, hrw, hgw, htw, hb⟩ := hcut
  obtain ⟨w21, hw9⟩ : ∃ v, v = wc := ⟨_, rfl⟩
  rw [← hw9] at hrw htw hb ⊢
  clear hw9 wc HSS HT1 HT2 HT3
  have HB' := Lib.hid (HB.out.trans (hb.mono HB.out.size))
  have HX1' := Lib.hid (HX1.out.below hb HX1.out.size)
  have HX3' := Lib.hid (HX3.out.below hb HX3.out.size)
  have XW' := Lib.hid (XW.out.below hb XW.out.size)
  have WL' := Lib.hid (WL.out.below (hb.mono (by have hs := HS.out; omega)))
  have XG' := Lib.hid (XG.out.below hb XG.out.size)
  have GL' := Lib.hid (GL.out.below (hb.mono (by have hs := HS.out; omega)))
  have HS' := Lib.hid (And.intro hb.size HS.out)
  clear hb HB HX1 HX3 XW WL XG GL HS
  have HB := HB'
  have HX1 := HX1'
  have HX3 := HX3'
  have XW := XW'
  have WL := WL'
  have XG := XG'
  have GL := GL'
  have HS := HS'
  clear HB' HX1' HX3' XW' WL' XG' GL' HS'
  have XH := Lib.hid hrw
  have HS' := Lib.hid (And.intro hgw (And.intro hrw.size HS.out))
  clear HS hrw hgw
  have HS := HS'
  clear HS'
  have HHL := Lib.hid (htw.lies fun z hz => (htw.lt z hz).2)
  clear htw
  have zXH_0 := XH.out.cell (i := 0) rfl
  have zXH_1 := XH.out.cell (i := 1) rfl
  have zXH_2 := XH.out.cell (i := 2) rfl
  have zXW_0 := XW.out.cell (i := 0) rfl
  have zXW_1 := XW.out.cell (i := 1) rfl
  have zXW_2 := XW.out.cell (i := 2) rfl
  go_wp2_with fail
  refine (eqExpr_any y.op y.n y.k Ah Aw ch cw _ (HHL.out.mono_ (Nat.zero_le _) (by have hs := HS.out; omega)) (WL.out.mono_ (Nat.zero_le _) (by have hs := HS.out; omega)) hys).mono ?_
  rintro e w22 ⟨rfl, hb⟩
  clear zXH_0 zXH_1 zXH_2 zXW_0 zXW_1 zXW_2
  have HB' := Lib.hid (HB.out.trans (hb.mono HB.out.size))
  have HX1' := Lib.hid (HX1.out.below hb HX1.out.size)
  have HX3' := Lib.hid (HX3.out.below hb HX3.out.size)
  have XW' := Lib.hid (XW.out.below hb XW.out.size)
  have WL' := Lib.hid (WL.out.below (hb.mono (by have hs := HS.out; omega)))
  have XG' := Lib.hid (XG.out.below hb XG.out.size)
  have GL' := Lib.hid (GL.out.below (hb.mono (by have hs := HS.out; omega)))
  have XH' := Lib.hid (XH.out.below hb XH.out.size)
  have HHL' := Lib.hid (HHL.out.below (hb.mono (by have hs := HS.out; omega)))
  have HS' := Lib.hid (And.intro hb.size HS.out)
  clear hb HB HX1 HX3 XW WL XG GL XH HHL HS
  have HB := HB'
  have HX1 := HX1'
  have HX3 := HX3'
  have XW := XW'
  have WL := WL'
  have XG := XG'
  have GL := GL'
  have XH := XH'
  have HHL := HHL'
  have HS := HS'
  clear HB' HX1' HX3' XW' WL' XG' GL' XH' HHL' HS'
  have zXG_0 := XG.out.cell (i := 0) rfl
  have zXG_1 := XG.out.cell (i := 1) rfl
  have zXG_2 := XG.out.cell (i := 2) rfl
  go_wp2_with fail
  refine (heldOwn_any y.op y.n y.k Ag cg _ 1 (GL.out.mono_ (Nat.zero_le _) (by have hs := HS.out; omega)) (by decide) (by omega)).mono ?_
  rintro e w23 ⟨rfl, hb⟩
  rw [HLL.out]
  clear zXG_0 zXG_1 zXG_2
  have HB' := Lib.hid (HB.out.trans (hb.mono HB.out.size))
  have HX1' := Lib.hid (HX1.out.below hb HX1.out.size)
  have HX3' := Lib.hid (HX3.out.below hb HX3.out.size)
  have XW' := Lib.hid (XW.out.below hb XW.out.size)
  have WL' := Lib.hid (WL.out.below (hb.mono (by have hs := HS.out; omega)))
  have XG' := Lib.hid (XG.out.below hb XG.out.size)
  have GL' := Lib.hid (GL.out.below (hb.mono (by have hs := HS.out; omega)))
  have XH' := Lib.hid (XH.out.below hb XH.out.size)
  have HHL' := Lib.hid (HHL.out.below (hb.mono (by have hs := HS.out; omega)))
  have HS' := Lib.hid (And.intro hb.size HS.out)
  clear hb HB HX1 HX3 XW WL XG GL XH HHL HS
  have HB := HB'
  have HX1 := HX1'
  have HX3 := HX3'
  have XW := XW'
  have WL := WL'
  have XG := XG'
  have GL := GL'
  have XH := XH'
  have HHL := HHL'
  have HS := HS'
  clear HB' HX1' HX3' XW' WL' XG' GL' XH' HHL' HS'
  go_wp2
  go_ret
  exact ⟨rfl, HB.out⟩
end Go.Proofs.Ytababbjblaafiaa
