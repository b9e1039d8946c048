/-
  The walk of the law FnExactPutOnce: true at every argument (made by gen_law.py).
-/
import Derived.Test.YtmnhoeliofojnaaGreatTopO
import Derived.Test.YtmnhoeliofojnaaGreatNodeM
import Derived.Test.YtmnhoeliofojnaaGreatTools
import Derived.Test.YtmnhoeliofojnaaGreatMk
import Derived.Test.YtmnhoeliofojnaaGreatMkD
import Derived.Test.YtmnhoeliofojnaaGreatFo
import Derived.Deep.RegionHeld3
namespace Go.Proofs.YtmnhoeliofojnaaGreat
open Go.RowKit
set_option maxRecDepth 100000

set_option maxHeartbeats 4000000 in
theorem law_PutOnce (ds1 : List De) (A1 : Option Addr) (c1 : Nat) (op2 n2 : Int) (k2 : Fo) (A2 : Option Addr) (c2 : Nat) (w : World) (hl1 : LiesD w 0 w.heap.size A1 ds1) (hlen1 : ds1.length ≤ maxLen) (hl2 : Lies w 0 w.heap.size A2 0 k2) (hlen2 : k2.len ≤ maxLen) :
    Calls Tryz.prog 3 #[.slice A1 ds1.length c1, .agg #[.int .i64 op2, .int .i64 n2, .slice A2 k2.len c2]] w (Gives (.bool true) w) := by
  obtain ⟨y, hy⟩ : ∃ y, y = resOnce ds1 ⟨op2, n2, k2⟩ := ⟨_, rfl⟩
  obtain ⟨ok, hok⟩ : ∃ ok, ok = okLib ds1 ⟨op2, n2, k2⟩ := ⟨_, rfl⟩
  have hys : y.k.size ≤ 1048576 := by rw [hy]; exact resOnce_le _ _ _ _
  have HY := Lib.hid hy
  have HOK := Lib.hid hok
  clear hy hok
  obtain ⟨hb, r1⟩ := one_box w 25 #[Value.int IntKind.i64 op2, Value.int IntKind.i64 n2, Value.slice A2 k2.len c2]
  have HX2 := Lib.hid r1
  clear r1
  have HB := Lib.hid hb
  have HS := Lib.hid (And.intro hb.size (show w.heap.size + 1 ≤ (w.alloc (Obj.cells #[Value.int IntKind.i64 op2, Value.int IntKind.i64 n2, Value.slice A2 k2.len c2] 25)).heap.size from by simp))
  clear hb
  have HL1 := Lib.hid hl1
  clear hl1
  have HL2 := Lib.hid hl2
  clear hl2
  go_enter Tryz.func3, Tryz.ntmps3
  go_wp2_with fail
  refine (szDefS_any ds1 A1 c1 _ 1048576 (HL1.out.up HB.out) hlen1 (by decide) (by decide)).mono ?_
  rintro e w1 ⟨r1, rfl, hr1, hb⟩
  have HB' := Lib.hid (HB.out.trans (hb.mono HB.out.size))
  have HX2' := Lib.hid (HX2.out.below hb HX2.out.size)
  have HS' := Lib.hid (And.intro hb.size HS.out)
  clear hb HB HX2 HS
  have HB := HB'
  have HX2 := HX2'
  have HS := HS'
  clear HB' HX2' HS'
  rcases hr1 with rfl | ⟨hrz1, hr1⟩
  · go_wp2
    go_ret
    exact ⟨rfl, HB.out⟩
  have hsz1 : sizeD ds1 ≤ 1048576 := by omega
  have hrb1 : r1 ≤ 1048576 := by omega
  clear hr1
  have qHX2_0 := HX2.out.cell (i := 0) rfl
  have qHX2_1 := HX2.out.cell (i := 1) rfl
  have qHX2_2 := HX2.out.cell (i := 2) rfl
  go_wp2_with fail
  refine (szExpr_any op2 n2 k2 A2 c2 _ r1 (HL2.out.up HB.out) hlen2 hrz1 hrb1).mono ?_
  rintro e w2 ⟨r2, rfl, hr2, hb⟩
  clear qHX2_0 qHX2_1 qHX2_2
  have HB' := Lib.hid (HB.out.trans (hb.mono HB.out.size))
  have HX2' := Lib.hid (HX2.out.below hb HX2.out.size)
  have HS' := Lib.hid (And.intro hb.size HS.out)
  clear hb HB HX2 HS
  have HB := HB'
  have HX2 := HX2'
  have HS := HS'
  clear HB' HX2' HS'
  rcases hr2 with rfl | ⟨hrz2, hr2⟩
  · go_wp2
    go_ret
    exact ⟨rfl, HB.out⟩
  have hsz2 : k2.size ≤ 1048576 := by omega
  have hrb2 : r2 ≤ 1048576 := by omega
  clear hr2
  go_upto_region 8 with fail
  have hS : ∀ w' : World, Below w2.heap.size w2 w' → w'.cell? ⟨w.heap.size, 0, none⟩ = some (Value.int IntKind.i64 op2) ∧ w'.cell? ⟨w.heap.size, 1, none⟩ = some (Value.int IntKind.i64 n2) ∧ w'.cell? ⟨w.heap.size, 2, none⟩ = some (Value.slice A2 k2.len c2) := fun w' hb => ⟨(hb.cell (p := ⟨w.heap.size, 0, none⟩) HX2.out.size).trans (HX2.out.cell (i := 0) rfl), (hb.cell (p := ⟨w.heap.size, 1, none⟩) HX2.out.size).trans (HX2.out.cell (i := 1) rfl), (hb.cell (p := ⟨w.heap.size, 2, none⟩) HX2.out.size).trans (HX2.out.cell (i := 2) rfl)⟩
  have HSS := Lib.hid hS
  clear hS
  have HTA := Lib.hid (fun (w' : World) (hb' : Below w2.heap.size w2 w') => toDefS_any ds1 A1 c1 w' ((HL1.out.up HB.out).up hb') hsz1)
  have HTB := Lib.hid (fun (w' : World) (hb' : Below w2.heap.size w2 w') => toExpr_any op2 n2 k2 A2 c2 w' ((HL2.out.up HB.out).up hb') hsz2)
  go_cut [6, 7] from 27 to 34 (fun p s wd => ∃ g A9 c9 b9, p = .pointer (some ⟨g, 0, none⟩) ∧ s = .bool ok ∧ Row wd g 30 #[.int .i64 y.op, .int .i64 y.n, .slice A9 y.k.len c9] ∧ w2.heap.size ≤ g ∧ Tree wd w2.heap.size (.slice A9 y.k.len c9) y.k b9 ∧ Below w2.heap.size w2 wd)
  case first =>
    have b0 : Below w2.heap.size w2 w2.drew := (Below.refl _ _).drew
    have bp : Below w2.heap.size w2 (w2.alloc (Obj.cells #[Value.int .i64 0, Value.int .i64 0, Value.slice none 0 0] 30)).drew := ((Below.refl _ _).alloc (Nat.le_refl _) _).drew
    have C0 := Lib.hid (HTA.out _ b0)
    have CP := Lib.hid (HTA.out _ bp)
    have s0 := HSS.out _ b0
    have sp := HSS.out _ bp
    have B0 := Lib.hid b0
    have BP := Lib.hid bp
    have RP := Lib.hid (show Row (w2.alloc (Obj.cells #[Value.int .i64 0, Value.int .i64 0, Value.slice none 0 0] 30)).drew w2.heap.size 30 #[Value.int .i64 0, Value.int .i64 0, Value.slice none 0 0] from (Row.fresh _ _ _).drew)
    clear b0 bp
    go_region_held3 (fun w' => w'.cell? ⟨w.heap.size, 0, none⟩ = some (Value.int IntKind.i64 op2) ∧ w'.cell? ⟨w.heap.size, 1, none⟩ = some (Value.int IntKind.i64 n2) ∧ w'.cell? ⟨w.heap.size, 2, none⟩ = some (Value.slice A2 k2.len c2))
      (first | with_reducible exact s0 | with_reducible exact sp | with_reducible exact s1 | with_reducible exact s1l | with_reducible exact s2 | with_reducible exact s2l | with_reducible exact s3 | with_reducible exact s4 | with_reducible exact s3z | fail)
      (first
        | (go_at_call 6
           with_reducible refine (specPutOnce_any ds1 As1 cs1 op2 n2 k2 As2 cs2 _ LTA.out LTB.out hsz1 (Nat.le_trans hks2 hcs2) hsz2).mono ?_
           rintro e vd ⟨A5, c5, b5, rfl, ht5, hb5⟩
           rw [← HY.out] at ht5
           rw [← HY.out, ← HOK.out]
           have hb := B2.out.trans (hb5.mono B2.out.size)
           have r5 := (RLa2.out).below hb5 ((RLa2.out).size)
           have f0 := r5.free 0
           have f1 := r5.free 1
           have f2 := r5.free 2
           have d0 := r5.cell (i := 0) rfl
           have d1 := r5.cell (i := 1) rfl
           have d2 := r5.cell (i := 2) rfl
           have hgl : w2.heap.size ≤ w2.heap.size := by first | exact Nat.le_refl _ | exact B1.out.size | exact B2.out.size
           have hbs := ((hb.setCell (p := ⟨w2.heap.size, 0, none⟩) hgl (.int .i64 y.op)).setCell (p := ⟨w2.heap.size, 1, none⟩) hgl (.int .i64 y.n)).setCell (p := ⟨w2.heap.size, 2, none⟩) hgl (.slice A5 y.k.len c5)
           have s3 := HSS.out _ hb
           have s4 := HSS.out _ hbs
           have hzr := (RLa2.out).size
           have HEND := Lib.hid (show ∃ g A6 c6 b6, Value.pointer (some ⟨w2.heap.size, 0, none⟩) = .pointer (some ⟨g, 0, none⟩) ∧ Row (((vd.setCell ⟨w2.heap.size, 0, none⟩ (.int .i64 y.op)).setCell ⟨w2.heap.size, 1, none⟩ (.int .i64 y.n)).setCell ⟨w2.heap.size, 2, none⟩ (.slice A5 y.k.len c5)) g 30 #[.int .i64 y.op, .int .i64 y.n, .slice A6 y.k.len c6] ∧ w2.heap.size ≤ g ∧ Tree (((vd.setCell ⟨w2.heap.size, 0, none⟩ (.int .i64 y.op)).setCell ⟨w2.heap.size, 1, none⟩ (.int .i64 y.n)).setCell ⟨w2.heap.size, 2, none⟩ (.slice A5 y.k.len c5)) w2.heap.size (.slice A6 y.k.len c6) y.k b6 ∧ Below w2.heap.size w2 (((vd.setCell ⟨w2.heap.size, 0, none⟩ (.int .i64 y.op)).setCell ⟨w2.heap.size, 1, none⟩ (.int .i64 y.n)).setCell ⟨w2.heap.size, 2, none⟩ (.slice A5 y.k.len c5)) from ⟨w2.heap.size, A5, c5, b5, rfl, ((r5.put 0 _).put 1 _).put 2 _, hgl, (((ht5.put (p := ⟨w2.heap.size, 0, none⟩) hzr _).put (p := ⟨w2.heap.size, 1, none⟩) hzr _).put (p := ⟨w2.heap.size, 2, none⟩) hzr _).lower B2.out.size, hbs⟩)
           clear ht5 hb5 hb r5 hbs hgl hzr)
        | (go_at_call 6
           with_reducible refine (specPutOnce_any ds1 As1 cs1 op2 n2 k2 As2 cs2 _ LTA.out LTB.out hsz1 (Nat.le_trans hks2 hcs2) hsz2).mono ?_
           rintro e vd ⟨A5, c5, b5, rfl, ht5, hb5⟩
           rw [← HY.out] at ht5
           rw [← HY.out, ← HOK.out]
           have hb := B2.out.trans (hb5.mono B2.out.size)
           have r5 := (RLb2.out).below hb5 ((RLb2.out).size)
           have f0 := r5.free 0
           have f1 := r5.free 1
           have f2 := r5.free 2
           have d0 := r5.cell (i := 0) rfl
           have d1 := r5.cell (i := 1) rfl
           have d2 := r5.cell (i := 2) rfl
           have hgl : w2.heap.size ≤ va.heap.size := by first | exact Nat.le_refl _ | exact B1.out.size | exact B2.out.size
           have hbs := ((hb.setCell (p := ⟨va.heap.size, 0, none⟩) hgl (.int .i64 y.op)).setCell (p := ⟨va.heap.size, 1, none⟩) hgl (.int .i64 y.n)).setCell (p := ⟨va.heap.size, 2, none⟩) hgl (.slice A5 y.k.len c5)
           have s3 := HSS.out _ hb
           have s4 := HSS.out _ hbs
           have hzr := (RLb2.out).size
           have HEND := Lib.hid (show ∃ g A6 c6 b6, Value.pointer (some ⟨va.heap.size, 0, none⟩) = .pointer (some ⟨g, 0, none⟩) ∧ Row (((vd.setCell ⟨va.heap.size, 0, none⟩ (.int .i64 y.op)).setCell ⟨va.heap.size, 1, none⟩ (.int .i64 y.n)).setCell ⟨va.heap.size, 2, none⟩ (.slice A5 y.k.len c5)) g 30 #[.int .i64 y.op, .int .i64 y.n, .slice A6 y.k.len c6] ∧ w2.heap.size ≤ g ∧ Tree (((vd.setCell ⟨va.heap.size, 0, none⟩ (.int .i64 y.op)).setCell ⟨va.heap.size, 1, none⟩ (.int .i64 y.n)).setCell ⟨va.heap.size, 2, none⟩ (.slice A5 y.k.len c5)) w2.heap.size (.slice A6 y.k.len c6) y.k b6 ∧ Below w2.heap.size w2 (((vd.setCell ⟨va.heap.size, 0, none⟩ (.int .i64 y.op)).setCell ⟨va.heap.size, 1, none⟩ (.int .i64 y.n)).setCell ⟨va.heap.size, 2, none⟩ (.slice A5 y.k.len c5)) from ⟨va.heap.size, A5, c5, b5, rfl, ((r5.put 0 _).put 1 _).put 2 _, hgl, (((ht5.put (p := ⟨va.heap.size, 0, none⟩) hzr _).put (p := ⟨va.heap.size, 1, none⟩) hzr _).put (p := ⟨va.heap.size, 2, none⟩) hzr _).lower B2.out.size, hbs⟩)
           clear ht5 hb5 hb r5 hbs hgl hzr)
        | (go_at_call 6
           with_reducible refine (specPutOnce_any ds1 As1 cs1 op2 n2 k2 As2 cs2 _ (LTA.out.up ((Below.refl _ _).alloc (Nat.le_refl _) _)) (LTB.out.up ((Below.refl _ _).alloc (Nat.le_refl _) _)) hsz1 (Nat.le_trans hks2 hcs2) hsz2).mono ?_
           rintro e vd ⟨A5, c5, b5, rfl, ht5, hb5⟩
           rw [← HY.out] at ht5
           rw [← HY.out, ← HOK.out]
           have hb := B2L.out.trans (hb5.mono B2L.out.size)
           have r5 := (Row.fresh vb 30 #[Value.int .i64 0, Value.int .i64 0, Value.slice none 0 0]).below hb5 ((Row.fresh vb 30 #[Value.int .i64 0, Value.int .i64 0, Value.slice none 0 0]).size)
           have f0 := r5.free 0
           have f1 := r5.free 1
           have f2 := r5.free 2
           have d0 := r5.cell (i := 0) rfl
           have d1 := r5.cell (i := 1) rfl
           have d2 := r5.cell (i := 2) rfl
           have hgl : w2.heap.size ≤ vb.heap.size := by first | exact Nat.le_refl _ | exact B1.out.size | exact B2.out.size
           have hbs := ((hb.setCell (p := ⟨vb.heap.size, 0, none⟩) hgl (.int .i64 y.op)).setCell (p := ⟨vb.heap.size, 1, none⟩) hgl (.int .i64 y.n)).setCell (p := ⟨vb.heap.size, 2, none⟩) hgl (.slice A5 y.k.len c5)
           have s3 := HSS.out _ hb
           have s4 := HSS.out _ hbs
           have hzr := (Row.fresh vb 30 #[Value.int .i64 0, Value.int .i64 0, Value.slice none 0 0]).size
           have HEND := Lib.hid (show ∃ g A6 c6 b6, Value.pointer (some ⟨vb.heap.size, 0, none⟩) = .pointer (some ⟨g, 0, none⟩) ∧ Row (((vd.setCell ⟨vb.heap.size, 0, none⟩ (.int .i64 y.op)).setCell ⟨vb.heap.size, 1, none⟩ (.int .i64 y.n)).setCell ⟨vb.heap.size, 2, none⟩ (.slice A5 y.k.len c5)) g 30 #[.int .i64 y.op, .int .i64 y.n, .slice A6 y.k.len c6] ∧ w2.heap.size ≤ g ∧ Tree (((vd.setCell ⟨vb.heap.size, 0, none⟩ (.int .i64 y.op)).setCell ⟨vb.heap.size, 1, none⟩ (.int .i64 y.n)).setCell ⟨vb.heap.size, 2, none⟩ (.slice A5 y.k.len c5)) w2.heap.size (.slice A6 y.k.len c6) y.k b6 ∧ Below w2.heap.size w2 (((vd.setCell ⟨vb.heap.size, 0, none⟩ (.int .i64 y.op)).setCell ⟨vb.heap.size, 1, none⟩ (.int .i64 y.n)).setCell ⟨vb.heap.size, 2, none⟩ (.slice A5 y.k.len c5)) from ⟨vb.heap.size, A5, c5, b5, rfl, ((r5.put 0 _).put 1 _).put 2 _, hgl, (((ht5.put (p := ⟨vb.heap.size, 0, none⟩) hzr _).put (p := ⟨vb.heap.size, 1, none⟩) hzr _).put (p := ⟨vb.heap.size, 2, none⟩) hzr _).lower B2L.out.size, hbs⟩)
           clear ht5 hb5 hb r5 hbs hgl hzr)
        | (go_at_call 6
           with_reducible refine (specPutOnce_any ds1 As1 cs1 op2 n2 k2 As2 cs2 _ LTA.out LTB.out hsz1 (Nat.le_trans hks2 hcs2) hsz2).mono ?_
           rintro e vd ⟨A5, c5, b5, rfl, ht5, hb5⟩
           rw [← HY.out] at ht5
           rw [← HY.out, ← HOK.out]
           have hb := B2.out.trans (hb5.mono B2.out.size)
           have hbl : Below vd.heap.size vd (vd.alloc (Obj.cells #[Value.int .i64 y.op, Value.int .i64 y.n, Value.slice A5 y.k.len c5] 30)) := (Below.refl _ _).alloc (Nat.le_refl _) _
           have hba := hb.trans (hbl.mono hb.size)
           have s3 := HSS.out _ hb
           have s4 := HSS.out _ hba
           have s3z := HSS.out _ (hb.alloc hb.size (Obj.cells #[Value.int .i64 0, Value.int .i64 0, Value.slice none 0 0] 30))
           have HEND := Lib.hid (show ∃ g A6 c6 b6, Value.pointer (some ⟨vd.heap.size, 0, none⟩) = .pointer (some ⟨g, 0, none⟩) ∧ Row (vd.alloc (Obj.cells #[Value.int .i64 y.op, Value.int .i64 y.n, Value.slice A5 y.k.len c5] 30)) g 30 #[.int .i64 y.op, .int .i64 y.n, .slice A6 y.k.len c6] ∧ w2.heap.size ≤ g ∧ Tree (vd.alloc (Obj.cells #[Value.int .i64 y.op, Value.int .i64 y.n, Value.slice A5 y.k.len c5] 30)) w2.heap.size (.slice A6 y.k.len c6) y.k b6 ∧ Below w2.heap.size w2 (vd.alloc (Obj.cells #[Value.int .i64 y.op, Value.int .i64 y.n, Value.slice A5 y.k.len c5] 30)) from ⟨vd.heap.size, A5, c5, b5, rfl, Row.fresh _ _ _, hb.size, (ht5.over hbl).lower B2.out.size, hba⟩)
           clear ht5 hb5 hb hbl hba)
        | (go_at_call 8
           with_reducible refine (HTB.out va B1.out).mono ?_
           rintro e vb ⟨As2, cs2, rfl, hks2, hcs2, hls2, hals2, hb2⟩
           have RLa2 := Lib.hid (RLa1.out.below hb2 RLa1.out.size)
           have LTA := Lib.hid ((LT1.out).up hb2)
           have LTB := Lib.hid (hls2.mono_ (Nat.zero_le _) (Nat.le_refl _))
           have RGA := Lib.hid (fun (v : World) (hv : Below vb.heap.size vb v) => RGA1.out v (hb2.trans (hv.mono (Nat.le_trans (hb2).size (Nat.le_refl _)))))
           have RGB := Lib.hid (fun (v : World) (hv : Below vb.heap.size vb v) => And.intro (hls2.below hv) (And.intro (hals2.below hv (Nat.le_refl _)) hv.size))
           have b2 := B1.out.trans (hb2.mono B1.out.size)
           have B2 := Lib.hid b2
           have B2L := Lib.hid (b2.alloc b2.size (Obj.cells #[Value.int .i64 0, Value.int .i64 0, Value.slice none 0 0] 30))
           have s2 := HSS.out _ b2
           have s2l := HSS.out _ B2L.out
           clear hb2 b2 hls2 hals2)
        | (go_at_call 8
           with_reducible refine (HTB.out (va.alloc (Obj.cells #[Value.int .i64 0, Value.int .i64 0, Value.slice none 0 0] 30)) B1L.out).mono ?_
           rintro e vb ⟨As2, cs2, rfl, hks2, hcs2, hls2, hals2, hb2⟩
           have RLb2 := Lib.hid ((Row.fresh va 30 #[Value.int .i64 0, Value.int .i64 0, Value.slice none 0 0]).below hb2 (by simp))
           have LTA := Lib.hid ((LT1.out.up ((Below.refl _ _).alloc (Nat.le_refl _) _)).up hb2)
           have LTB := Lib.hid (hls2.mono_ (Nat.zero_le _) (Nat.le_refl _))
           have RGA := Lib.hid (fun (v : World) (hv : Below vb.heap.size vb v) => RGA1.out v ((((Below.refl va.heap.size va).alloc (Nat.le_refl _) _).trans (hb2.mono (by simp))).trans (hv.mono (Nat.le_trans ((((Below.refl va.heap.size va).alloc (Nat.le_refl _) _).trans (hb2.mono (by simp)))).size (Nat.le_refl _)))))
           have RGB := Lib.hid (fun (v : World) (hv : Below vb.heap.size vb v) => And.intro (hls2.below hv) (And.intro (hals2.below hv (Nat.le_refl _)) hv.size))
           have b2 := B1L.out.trans (hb2.mono B1L.out.size)
           have B2 := Lib.hid b2
           have B2L := Lib.hid (b2.alloc b2.size (Obj.cells #[Value.int .i64 0, Value.int .i64 0, Value.slice none 0 0] 30))
           have s2 := HSS.out _ b2
           have s2l := HSS.out _ B2L.out
           clear hb2 b2 hls2 hals2)
        | (go_at_call 8
           with_reducible refine (HTB.out va B1.out).mono ?_
           rintro e vb ⟨As2, cs2, rfl, hks2, hcs2, hls2, hals2, hb2⟩
           have LTA := Lib.hid ((LT1.out).up hb2)
           have LTB := Lib.hid (hls2.mono_ (Nat.zero_le _) (Nat.le_refl _))
           have RGA := Lib.hid (fun (v : World) (hv : Below vb.heap.size vb v) => RGA1.out v (hb2.trans (hv.mono (Nat.le_trans (hb2).size (Nat.le_refl _)))))
           have RGB := Lib.hid (fun (v : World) (hv : Below vb.heap.size vb v) => And.intro (hls2.below hv) (And.intro (hals2.below hv (Nat.le_refl _)) hv.size))
           have b2 := B1.out.trans (hb2.mono B1.out.size)
           have B2 := Lib.hid b2
           have B2L := Lib.hid (b2.alloc b2.size (Obj.cells #[Value.int .i64 0, Value.int .i64 0, Value.slice none 0 0] 30))
           have s2 := HSS.out _ b2
           have s2l := HSS.out _ B2L.out
           clear hb2 b2 hls2 hals2)
        | (go_at_call 7
           with_reducible refine CP.out.mono ?_
           rintro e va ⟨As1, cs1, rfl, hks1, hcs1, hls1, hals1, hb1⟩
           have RLa1 := Lib.hid (RP.out.below hb1 RP.out.size)
           have RGA1 := Lib.hid (fun (v : World) (hv : Below va.heap.size va v) => And.intro (hls1.below hv) (And.intro (hals1.below hv (Nat.le_refl _)) hv.size))
           have LT1 := Lib.hid (hls1.mono_ (Nat.zero_le _) (Nat.le_refl _))
           have b1 := BP.out.trans (hb1.mono BP.out.size)
           have B1 := Lib.hid b1
           have s1 := HSS.out _ b1
           clear hb1 b1 hls1 hals1)
        | (go_at_call 7
           with_reducible refine C0.out.mono ?_
           rintro e va ⟨As1, cs1, rfl, hks1, hcs1, hls1, hals1, hb1⟩
           have B1L := Lib.hid ((B0.out.trans (hb1.mono B0.out.size)).alloc (B0.out.trans (hb1.mono B0.out.size)).size (Obj.cells #[Value.int .i64 0, Value.int .i64 0, Value.slice none 0 0] 30))
           have s1l := HSS.out _ B1L.out
           have RGA1 := Lib.hid (fun (v : World) (hv : Below va.heap.size va v) => And.intro (hls1.below hv) (And.intro (hals1.below hv (Nat.le_refl _)) hv.size))
           have LT1 := Lib.hid (hls1.mono_ (Nat.zero_le _) (Nat.le_refl _))
           have b1 := B0.out.trans (hb1.mono B0.out.size)
           have B1 := Lib.hid b1
           have s1 := HSS.out _ b1
           clear hb1 b1 hls1 hals1)
        | fail)
    all_goals
      go_wp2_with fail
      go_meet
      obtain ⟨g, A9', c9', b9', hp, hr⟩ := HEND.out
      exact ⟨g, A9', c9', b9', hp, rfl, hr⟩
  case rest =>
  obtain ⟨gAw, Aw, cw, bsw, rfl, rfl, hrw, hgw, htw, hb⟩ := hcut
  obtain ⟨w3, hw9⟩ : ∃ v, v = wc := ⟨_, rfl⟩
  rw [← hw9] at hrw htw hb ⊢
  clear hw9 wc HSS HTA HTB
  have HB' := Lib.hid (HB.out.trans (hb.mono HB.out.size))
  have HX2' := Lib.hid (HX2.out.below hb HX2.out.size)
  have HS' := Lib.hid (And.intro hb.size HS.out)
  clear hb HB HX2 HS
  have HB := HB'
  have HX2 := HX2'
  have HS := HS'
  clear HB' HX2' HS'
  have XW := Lib.hid hrw
  have HS' := Lib.hid (And.intro hgw (And.intro hrw.size HS.out))
  clear HS hrw hgw
  have HS := HS'
  clear HS'
  have WL := Lib.hid (htw.lies fun z hz => (htw.lt z hz).2)
  clear htw
  go_wp2_with fail
  refine (toDefS_any ds1 A1 c1 _ (HL1.out.up HB.out) hsz1).mono ?_
  rintro e w4 ⟨Ax1, cx1, rfl, hkx1, hcx1, hlx1, halx1, hb⟩
  have HB' := Lib.hid (HB.out.trans (hb.mono HB.out.size))
  have HX2' := Lib.hid (HX2.out.below hb HX2.out.size)
  have XW' := Lib.hid (XW.out.below hb XW.out.size)
  have WL' := Lib.hid (WL.out.below (hb.mono (by have hs := HS.out; omega)))
  have HS' := Lib.hid (And.intro hb.size HS.out)
  clear hb HB HX2 XW WL HS
  have HB := HB'
  have HX2 := HX2'
  have XW := XW'
  have WL := WL'
  have HS := HS'
  clear HB' HX2' XW' WL' HS'
  have XL1 := Lib.hid hlx1
  have XA1 := Lib.hid halx1
  clear hlx1 halx1
  have qHX2_0 := HX2.out.cell (i := 0) rfl
  have qHX2_1 := HX2.out.cell (i := 1) rfl
  have qHX2_2 := HX2.out.cell (i := 2) rfl
  go_wp2_with fail
  refine (toExpr_any op2 n2 k2 A2 c2 _ (HL2.out.up HB.out) hsz2).mono ?_
  rintro e w5 ⟨Ax2, cx2, rfl, hkx2, hcx2, hlx2, halx2, hb⟩
  clear qHX2_0 qHX2_1 qHX2_2
  have HB' := Lib.hid (HB.out.trans (hb.mono HB.out.size))
  have HX2' := Lib.hid (HX2.out.below hb HX2.out.size)
  have XW' := Lib.hid (XW.out.below hb XW.out.size)
  have WL' := Lib.hid (WL.out.below (hb.mono (by have hs := HS.out; omega)))
  have XL1' := Lib.hid (XL1.out.below (hb.mono (by have hs := HS.out; omega)))
  have XA1' := Lib.hid (XA1.out.below hb (by have hs := HS.out; omega))
  have HS' := Lib.hid (And.intro hb.size HS.out)
  clear hb HB HX2 XW WL XL1 XA1 HS
  have HB := HB'
  have HX2 := HX2'
  have XW := XW'
  have WL := WL'
  have XL1 := XL1'
  have XA1 := XA1'
  have HS := HS'
  clear HB' HX2' XW' WL' XL1' XA1' HS'
  have XL2 := Lib.hid hlx2
  have XA2 := Lib.hid halx2
  clear hlx2 halx2
  obtain ⟨hb, r1⟩ := one_box w5 30 #[Value.int IntKind.i64 op2, Value.int IntKind.i64 n2, Value.slice Ax2 k2.len cx2]
  have HB' := Lib.hid (HB.out.trans (hb.mono HB.out.size))
  have HX2' := Lib.hid (HX2.out.below hb HX2.out.size)
  have XW' := Lib.hid (XW.out.below hb XW.out.size)
  have WL' := Lib.hid (WL.out.below (hb.mono (by have hs := HS.out; omega)))
  have XL1' := Lib.hid (XL1.out.below (hb.mono (by have hs := HS.out; omega)))
  have XA1' := Lib.hid (XA1.out.below hb (by have hs := HS.out; omega))
  have XL2' := Lib.hid (XL2.out.below (hb.mono (by have hs := HS.out; omega)))
  have XA2' := Lib.hid (XA2.out.below hb (by have hs := HS.out; omega))
  have HS' := Lib.hid (And.intro hb.size HS.out)
  clear hb HB HX2 XW WL XL1 XA1 XL2 XA2 HS
  have HB := HB'
  have HX2 := HX2'
  have XW := XW'
  have WL := WL'
  have XL1 := XL1'
  have XA1 := XA1'
  have XL2 := XL2'
  have XA2 := XA2'
  have HS := HS'
  clear HB' HX2' XW' WL' XL1' XA1' XL2' XA2' HS'
  have XB2 := Lib.hid r1
  have HS' := Lib.hid (And.intro (show w5.heap.size + 1 ≤ (w5.alloc (Obj.cells #[Value.int IntKind.i64 op2, Value.int IntKind.i64 n2, Value.slice Ax2 k2.len cx2] 30)).heap.size from by simp) HS.out)
  clear HS r1
  have HS := HS'
  clear HS'
  have HC := Lib.hid (implPutOnce_any ds1 Ax1 cx1 op2 n2 k2 Ax2 cx2 w3.heap.size w4.heap.size w4.heap.size w5.heap.size (w5.alloc (Obj.cells #[Value.int IntKind.i64 op2, Value.int IntKind.i64 n2, Value.slice Ax2 k2.len cx2] 30)) XL1.out (by have hs := HS.out; omega) XA1.out XL2.out (by have hs := HS.out; omega) XA2.out hsz1 hkx2 hcx2 hsz2)
  have xXB2_0 := XB2.out.cell (i := 0) rfl
  have xXB2_1 := XB2.out.cell (i := 1) rfl
  have xXB2_2 := XB2.out.cell (i := 2) rfl
  go_wp2_with fail
  refine HC.out.mono ?_
  rintro e w6 ⟨Ag, cg, bsg, rfl, htg, hb⟩
  rw [← HY.out] at htg
  rw [← HY.out, ← HOK.out]
  clear HC
  clear xXB2_0 xXB2_1 xXB2_2
  have HB' := Lib.hid (HB.out.trans (hb.mono HB.out.size))
  have HX2' := Lib.hid (HX2.out.below hb HX2.out.size)
  have XW' := Lib.hid (XW.out.below hb XW.out.size)
  have WL' := Lib.hid (WL.out.below (hb.mono (by have hs := HS.out; omega)))
  have XL1' := Lib.hid (XL1.out.below (hb.mono (by have hs := HS.out; omega)))
  have XA1' := Lib.hid (XA1.out.below hb (by have hs := HS.out; omega))
  have XL2' := Lib.hid (XL2.out.below (hb.mono (by have hs := HS.out; omega)))
  have XA2' := Lib.hid (XA2.out.below hb (by have hs := HS.out; omega))
  have XB2' := Lib.hid (XB2.out.below hb XB2.out.size)
  have HS' := Lib.hid (And.intro hb.size HS.out)
  clear hb HB HX2 XW WL XL1 XA1 XL2 XA2 XB2 HS
  have HB := HB'
  have HX2 := HX2'
  have XW := XW'
  have WL := WL'
  have XL1 := XL1'
  have XA1 := XA1'
  have XL2 := XL2'
  have XA2 := XA2'
  have XB2 := XB2'
  have HS := HS'
  clear HB' HX2' XW' WL' XL1' XA1' XL2' XA2' XB2' HS'
  have GB := Lib.hid (show ∀ z, z ∈ bsg → (w5.alloc (Obj.cells #[Value.int IntKind.i64 op2, Value.int IntKind.i64 n2, Value.slice Ax2 k2.len cx2] 30)).heap.size ≤ z ∧ z < w6.heap.size from fun z hz => htg.lt z hz)
  have GT := Lib.hid htg
  clear htg
  obtain ⟨hb, r1⟩ := one_box w6 30 #[Value.int IntKind.i64 y.op, Value.int IntKind.i64 y.n, Value.slice Ag y.k.len cg]
  have HB' := Lib.hid (HB.out.trans (hb.mono HB.out.size))
  have HX2' := Lib.hid (HX2.out.below hb HX2.out.size)
  have XW' := Lib.hid (XW.out.below hb XW.out.size)
  have WL' := Lib.hid (WL.out.below (hb.mono (by have hs := HS.out; omega)))
  have XL1' := Lib.hid (XL1.out.below (hb.mono (by have hs := HS.out; omega)))
  have XA1' := Lib.hid (XA1.out.below hb (by have hs := HS.out; omega))
  have XL2' := Lib.hid (XL2.out.below (hb.mono (by have hs := HS.out; omega)))
  have XA2' := Lib.hid (XA2.out.below hb (by have hs := HS.out; omega))
  have XB2' := Lib.hid (XB2.out.below hb XB2.out.size)
  have GT' := Lib.hid (GT.out.over hb)
  have HS' := Lib.hid (And.intro hb.size HS.out)
  clear hb HB HX2 XW WL XL1 XA1 XL2 XA2 XB2 GT HS
  have HB := HB'
  have HX2 := HX2'
  have XW := XW'
  have WL := WL'
  have XL1 := XL1'
  have XA1 := XA1'
  have XL2 := XL2'
  have XA2 := XA2'
  have XB2 := XB2'
  have GT := GT'
  have HS := HS'
  clear HB' HX2' XW' WL' XL1' XA1' XL2' XA2' XB2' GT' HS'
  have XG := Lib.hid r1
  have HS' := Lib.hid (And.intro (show w6.heap.size + 1 ≤ (w6.alloc (Obj.cells #[Value.int IntKind.i64 y.op, Value.int IntKind.i64 y.n, Value.slice Ag y.k.len cg] 30)).heap.size from by simp) HS.out)
  clear HS r1
  have HS := HS'
  clear HS'
  have zXG_0 := XG.out.cell (i := 0) rfl
  have zXG_1 := XG.out.cell (i := 1) rfl
  have zXG_2 := XG.out.cell (i := 2) rfl
  have zXW_0 := XW.out.cell (i := 0) rfl
  have zXW_1 := XW.out.cell (i := 1) rfl
  have zXW_2 := XW.out.cell (i := 2) rfl
  go_wp2_with fail
  refine (eqExpr_any y.op y.n y.k Ag Aw cg cw _ ((GT.out.lies fun z hz => (GT.out.lt z hz).2).mono_ (Nat.zero_le _) (Nat.le_refl _)) (WL.out.mono_ (Nat.zero_le _) (by have hs := HS.out; omega)) hys).mono ?_
  rintro e w7 ⟨rfl, hb⟩
  clear zXG_0 zXG_1 zXG_2 zXW_0 zXW_1 zXW_2
  have HB' := Lib.hid (HB.out.trans (hb.mono HB.out.size))
  have HX2' := Lib.hid (HX2.out.below hb HX2.out.size)
  have XW' := Lib.hid (XW.out.below hb XW.out.size)
  have WL' := Lib.hid (WL.out.below (hb.mono (by have hs := HS.out; omega)))
  have XL1' := Lib.hid (XL1.out.below (hb.mono (by have hs := HS.out; omega)))
  have XA1' := Lib.hid (XA1.out.below hb (by have hs := HS.out; omega))
  have XL2' := Lib.hid (XL2.out.below (hb.mono (by have hs := HS.out; omega)))
  have XA2' := Lib.hid (XA2.out.below hb (by have hs := HS.out; omega))
  have XB2' := Lib.hid (XB2.out.below hb XB2.out.size)
  have GT' := Lib.hid (GT.out.over hb)
  have XG' := Lib.hid (XG.out.below hb XG.out.size)
  have HS' := Lib.hid (And.intro hb.size HS.out)
  clear hb HB HX2 XW WL XL1 XA1 XL2 XA2 XB2 GT XG HS
  have HB := HB'
  have HX2 := HX2'
  have XW := XW'
  have WL := WL'
  have XL1 := XL1'
  have XA1 := XA1'
  have XL2 := XL2'
  have XA2 := XA2'
  have XB2 := XB2'
  have GT := GT'
  have XG := XG'
  have HS := HS'
  clear HB' HX2' XW' WL' XL1' XA1' XL2' XA2' XB2' GT' XG' HS'
  go_wp2_with fail
  refine (toDefS_any ds1 A1 c1 _ (HL1.out.up HB.out) hsz1).mono ?_
  rintro e w8 ⟨At1, ct1, rfl, hkt1, hct1, hlt1, halt1, hb⟩
  have HB' := Lib.hid (HB.out.trans (hb.mono HB.out.size))
  have HX2' := Lib.hid (HX2.out.below hb HX2.out.size)
  have XW' := Lib.hid (XW.out.below hb XW.out.size)
  have WL' := Lib.hid (WL.out.below (hb.mono (by have hs := HS.out; omega)))
  have XL1' := Lib.hid (XL1.out.below (hb.mono (by have hs := HS.out; omega)))
  have XA1' := Lib.hid (XA1.out.below hb (by have hs := HS.out; omega))
  have XL2' := Lib.hid (XL2.out.below (hb.mono (by have hs := HS.out; omega)))
  have XA2' := Lib.hid (XA2.out.below hb (by have hs := HS.out; omega))
  have XB2' := Lib.hid (XB2.out.below hb XB2.out.size)
  have GT' := Lib.hid (GT.out.over hb)
  have XG' := Lib.hid (XG.out.below hb XG.out.size)
  have HS' := Lib.hid (And.intro hb.size HS.out)
  clear hb HB HX2 XW WL XL1 XA1 XL2 XA2 XB2 GT XG HS
  have HB := HB'
  have HX2 := HX2'
  have XW := XW'
  have WL := WL'
  have XL1 := XL1'
  have XA1 := XA1'
  have XL2 := XL2'
  have XA2 := XA2'
  have XB2 := XB2'
  have GT := GT'
  have XG := XG'
  have HS := HS'
  clear HB' HX2' XW' WL' XL1' XA1' XL2' XA2' XB2' GT' XG' HS'
  go_wp2_with fail
  refine (eqDefS_any ds1 Ax1 At1 cx1 ct1 _ (XL1.out.mono_ (Nat.zero_le _) (by have hs := HS.out; omega)) (hlt1.mono_ (Nat.zero_le _) (Nat.le_refl _)) hsz1).mono ?_
  rintro e w9 ⟨rfl, hb⟩
  clear hlt1 halt1
  have HB' := Lib.hid (HB.out.trans (hb.mono HB.out.size))
  have HX2' := Lib.hid (HX2.out.below hb HX2.out.size)
  have XW' := Lib.hid (XW.out.below hb XW.out.size)
  have WL' := Lib.hid (WL.out.below (hb.mono (by have hs := HS.out; omega)))
  have XL1' := Lib.hid (XL1.out.below (hb.mono (by have hs := HS.out; omega)))
  have XA1' := Lib.hid (XA1.out.below hb (by have hs := HS.out; omega))
  have XL2' := Lib.hid (XL2.out.below (hb.mono (by have hs := HS.out; omega)))
  have XA2' := Lib.hid (XA2.out.below hb (by have hs := HS.out; omega))
  have XB2' := Lib.hid (XB2.out.below hb XB2.out.size)
  have GT' := Lib.hid (GT.out.over hb)
  have XG' := Lib.hid (XG.out.below hb XG.out.size)
  have HS' := Lib.hid (And.intro hb.size HS.out)
  clear hb HB HX2 XW WL XL1 XA1 XL2 XA2 XB2 GT XG HS
  have HB := HB'
  have HX2 := HX2'
  have XW := XW'
  have WL := WL'
  have XL1 := XL1'
  have XA1 := XA1'
  have XL2 := XL2'
  have XA2 := XA2'
  have XB2 := XB2'
  have GT := GT'
  have XG := XG'
  have HS := HS'
  clear HB' HX2' XW' WL' XL1' XA1' XL2' XA2' XB2' GT' XG' HS'
  have qXB2_0 := XB2.out.cell (i := 0) rfl
  have qXB2_1 := XB2.out.cell (i := 1) rfl
  have qXB2_2 := XB2.out.cell (i := 2) rfl
  have qHX2_0 := HX2.out.cell (i := 0) rfl
  have qHX2_1 := HX2.out.cell (i := 1) rfl
  have qHX2_2 := HX2.out.cell (i := 2) rfl
  go_wp2_with fail
  have hb : Below w9.heap.size w9 w9.drew := (Below.refl _ _).drew
  have HB' := Lib.hid (HB.out.trans (hb.mono HB.out.size))
  have HX2' := Lib.hid (HX2.out.below hb HX2.out.size)
  have XW' := Lib.hid (XW.out.below hb XW.out.size)
  have WL' := Lib.hid (WL.out.below (hb.mono (by have hs := HS.out; omega)))
  have XL1' := Lib.hid (XL1.out.below (hb.mono (by have hs := HS.out; omega)))
  have XA1' := Lib.hid (XA1.out.below hb (by have hs := HS.out; omega))
  have XL2' := Lib.hid (XL2.out.below (hb.mono (by have hs := HS.out; omega)))
  have XA2' := Lib.hid (XA2.out.below hb (by have hs := HS.out; omega))
  have XB2' := Lib.hid (XB2.out.below hb XB2.out.size)
  have GT' := Lib.hid (GT.out.over hb)
  have XG' := Lib.hid (XG.out.below hb XG.out.size)
  have HS' := Lib.hid (And.intro hb.size HS.out)
  clear hb HB HX2 XW WL XL1 XA1 XL2 XA2 XB2 GT XG HS
  have HB := HB'
  have HX2 := HX2'
  have XW := XW'
  have WL := WL'
  have XL1 := XL1'
  have XA1 := XA1'
  have XL2 := XL2'
  have XA2 := XA2'
  have XB2 := XB2'
  have GT := GT'
  have XG := XG'
  have HS := HS'
  clear HB' HX2' XW' WL' XL1' XA1' XL2' XA2' XB2' GT' XG' HS'
  go_region_held3 (fun w' => w'.cell? ⟨w5.heap.size, 0, none⟩ = some (Value.int IntKind.i64 op2) ∧ w'.cell? ⟨w5.heap.size, 1, none⟩ = some (Value.int IntKind.i64 n2) ∧ w'.cell? ⟨w5.heap.size, 2, none⟩ = some (Value.slice Ax2 k2.len cx2) ∧ w'.cell? ⟨w.heap.size, 0, none⟩ = some (Value.int IntKind.i64 op2) ∧ w'.cell? ⟨w.heap.size, 1, none⟩ = some (Value.int IntKind.i64 n2) ∧ w'.cell? ⟨w.heap.size, 2, none⟩ = some (Value.slice A2 k2.len c2))
    (first | exact ⟨qXB2_0, qXB2_1, qXB2_2, qHX2_0, qHX2_1, qHX2_2⟩ | exact ⟨y0XB2_0, y0XB2_1, y0XB2_2, y0HX2_0, y0HX2_1, y0HX2_2⟩ | exact ⟨y1XB2_0, y1XB2_1, y1XB2_2, y1HX2_0, y1HX2_1, y1HX2_2⟩)
    (first
      | (go_at_call 10
         refine (eqExpr_any op2 n2 k2 Ax2 At2 cx2 ct2 _ ((XL2.out.mono_ (Nat.zero_le _) (by have hs := HS.out; omega)).up hb10) (hlt2.mono_ (Nat.zero_le _) (Nat.le_refl _)) hsz2).mono ?_
         rintro e w11 ⟨rfl, hb11⟩
         have y1XB2_0 := (hb11.cell (p := ⟨w5.heap.size, 0, none⟩) (show w5.heap.size < w10.heap.size by have hs := HS.out; have zhb10 := hb10.size; omega)).trans y0XB2_0
         have y1XB2_1 := (hb11.cell (p := ⟨w5.heap.size, 1, none⟩) (show w5.heap.size < w10.heap.size by have hs := HS.out; have zhb10 := hb10.size; omega)).trans y0XB2_1
         have y1XB2_2 := (hb11.cell (p := ⟨w5.heap.size, 2, none⟩) (show w5.heap.size < w10.heap.size by have hs := HS.out; have zhb10 := hb10.size; omega)).trans y0XB2_2
         have y1HX2_0 := (hb11.cell (p := ⟨w.heap.size, 0, none⟩) (show w.heap.size < w10.heap.size by have hs := HS.out; have zhb10 := hb10.size; omega)).trans y0HX2_0
         have y1HX2_1 := (hb11.cell (p := ⟨w.heap.size, 1, none⟩) (show w.heap.size < w10.heap.size by have hs := HS.out; have zhb10 := hb10.size; omega)).trans y0HX2_1
         have y1HX2_2 := (hb11.cell (p := ⟨w.heap.size, 2, none⟩) (show w.heap.size < w10.heap.size by have hs := HS.out; have zhb10 := hb10.size; omega)).trans y0HX2_2)
      | (go_at_call 8
         refine (toExpr_any op2 n2 k2 A2 c2 _ (HL2.out.up HB.out) hsz2).mono ?_
         rintro e w10 ⟨At2, ct2, rfl, hkt2, hct2, hlt2, halt2, hb10⟩
         have y0XB2_0 := (hb10.cell (p := ⟨w5.heap.size, 0, none⟩) (show w5.heap.size < w9.drew.heap.size by have hs := HS.out; omega)).trans qXB2_0
         have y0XB2_1 := (hb10.cell (p := ⟨w5.heap.size, 1, none⟩) (show w5.heap.size < w9.drew.heap.size by have hs := HS.out; omega)).trans qXB2_1
         have y0XB2_2 := (hb10.cell (p := ⟨w5.heap.size, 2, none⟩) (show w5.heap.size < w9.drew.heap.size by have hs := HS.out; omega)).trans qXB2_2
         have y0HX2_0 := (hb10.cell (p := ⟨w.heap.size, 0, none⟩) (show w.heap.size < w9.drew.heap.size by have hs := HS.out; omega)).trans qHX2_0
         have y0HX2_1 := (hb10.cell (p := ⟨w.heap.size, 1, none⟩) (show w.heap.size < w9.drew.heap.size by have hs := HS.out; omega)).trans qHX2_1
         have y0HX2_2 := (hb10.cell (p := ⟨w.heap.size, 2, none⟩) (show w.heap.size < w9.drew.heap.size by have hs := HS.out; omega)).trans qHX2_2))
  have hb : Below w9.drew.heap.size w9.drew w11 := (hb10).trans (hb11.mono (hb10.size))
  clear hb10 hb11 hlt2 halt2 qXB2_0 qXB2_1 qXB2_2 qHX2_0 qHX2_1 qHX2_2 y0XB2_0 y0XB2_1 y0XB2_2 y0HX2_0 y0HX2_1 y0HX2_2 y1XB2_0 y1XB2_1 y1XB2_2 y1HX2_0 y1HX2_1 y1HX2_2
  have HB' := Lib.hid (HB.out.trans (hb.mono HB.out.size))
  have HX2' := Lib.hid (HX2.out.below hb HX2.out.size)
  have XW' := Lib.hid (XW.out.below hb XW.out.size)
  have WL' := Lib.hid (WL.out.below (hb.mono (by have hs := HS.out; omega)))
  have XL1' := Lib.hid (XL1.out.below (hb.mono (by have hs := HS.out; omega)))
  have XA1' := Lib.hid (XA1.out.below hb (by have hs := HS.out; omega))
  have XL2' := Lib.hid (XL2.out.below (hb.mono (by have hs := HS.out; omega)))
  have XA2' := Lib.hid (XA2.out.below hb (by have hs := HS.out; omega))
  have XB2' := Lib.hid (XB2.out.below hb XB2.out.size)
  have GT' := Lib.hid (GT.out.over hb)
  have XG' := Lib.hid (XG.out.below hb XG.out.size)
  have HS' := Lib.hid (And.intro hb.size HS.out)
  clear hb HB HX2 XW WL XL1 XA1 XL2 XA2 XB2 GT XG HS
  have HB := HB'
  have HX2 := HX2'
  have XW := XW'
  have WL := WL'
  have XL1 := XL1'
  have XA1 := XA1'
  have XL2 := XL2'
  have XA2 := XA2'
  have XB2 := XB2'
  have GT := GT'
  have XG := XG'
  have HS := HS'
  clear HB' HX2' XW' WL' XL1' XA1' XL2' XA2' XB2' GT' XG' HS'
  go_wp2_with fail
  refine (mkDefS_any w3.heap.size w4.heap.size ds1 Ax1 cx1 _ 1 (LiesD.sk XA1.out XL1.out) hsz1 (by decide) (by omega)).mono ?_
  rintro e w12 ⟨kk1, rfl, hka1, hkb1, hm⟩
  have HB' := Lib.hid (hm.below HB.out (by have hs := HS.out; omega) (Nat.le_refl _))
  have HX2' := Lib.hid (hm.row HX2.out (by have hs := HS.out; omega))
  have XW' := Lib.hid (hm.row XW.out (by have hs := HS.out; omega))
  have WL' := Lib.hid (WL.out.keep (Nat.le_refl _) (Nat.le_refl _) fun p h1 h2 => hm.cell (by have hs := HS.out; omega) (by have hs := HS.out; omega))
  have XL2' := Lib.hid (XL2.out.keep (Nat.le_refl _) (Nat.le_refl _) fun p h1 h2 => hm.cell (by have hs := HS.out; omega) (by have hs := HS.out; omega))
  have XA2' := Lib.hid (hm.rows XA2.out)
  have XB2' := Lib.hid (hm.row XB2.out (by have hs := HS.out; omega))
  have GT' := Lib.hid (hm.tree GT.out (by have hs := HS.out; omega))
  have XG' := Lib.hid (hm.row XG.out (by have hs := HS.out; omega))
  have HS' := Lib.hid (And.intro hm.size HS.out)
  clear hm HB HX2 XW WL XL2 XA2 XB2 GT XG HS
  have HB := HB'
  have HX2 := HX2'
  have XW := XW'
  have WL := WL'
  have XL2 := XL2'
  have XA2 := XA2'
  have XB2 := XB2'
  have GT := GT'
  have XG := XG'
  have HS := HS'
  clear HB' HX2' XW' WL' XL2' XA2' XB2' GT' XG' HS'
  clear XL1 XA1
  have hk01 : 0 ≤ kk1 := by omega
  have xXB2_0 := XB2.out.cell (i := 0) rfl
  have xXB2_1 := XB2.out.cell (i := 1) rfl
  have xXB2_2 := XB2.out.cell (i := 2) rfl
  go_wp2_with fail
  refine (mkExpr_any w4.heap.size w5.heap.size op2 n2 k2 Ax2 cx2 _ kk1 (Lies.sk XA2.out XL2.out) hk01 (by omega)).mono ?_
  rintro e w13 ⟨kk2, rfl, hka2, hkb2, hm⟩
  clear xXB2_0 xXB2_1 xXB2_2
  have HB' := Lib.hid (hm.below HB.out (by have hs := HS.out; omega) (Nat.le_refl _))
  have HX2' := Lib.hid (hm.row HX2.out (by have hs := HS.out; omega))
  have XW' := Lib.hid (hm.row XW.out (by have hs := HS.out; omega))
  have WL' := Lib.hid (WL.out.keep (Nat.le_refl _) (Nat.le_refl _) fun p h1 h2 => hm.cell (by have hs := HS.out; omega) (by have hs := HS.out; omega))
  have XB2' := Lib.hid (hm.row XB2.out (by have hs := HS.out; omega))
  have GT' := Lib.hid (hm.tree GT.out (by have hs := HS.out; omega))
  have XG' := Lib.hid (hm.row XG.out (by have hs := HS.out; omega))
  have HS' := Lib.hid (And.intro hm.size HS.out)
  clear hm HB HX2 XW WL XB2 GT XG HS
  have HB := HB'
  have HX2 := HX2'
  have XW := XW'
  have WL := WL'
  have XB2 := XB2'
  have GT := GT'
  have XG := XG'
  have HS := HS'
  clear HB' HX2' XW' WL' XB2' GT' XG' HS'
  clear XL2 XA2
  have hk02 : 0 ≤ kk2 := by omega
  have zXG_0 := XG.out.cell (i := 0) rfl
  have zXG_1 := XG.out.cell (i := 1) rfl
  have zXG_2 := XG.out.cell (i := 2) rfl
  have zXW_0 := XW.out.cell (i := 0) rfl
  have zXW_1 := XW.out.cell (i := 1) rfl
  have zXW_2 := XW.out.cell (i := 2) rfl
  go_wp2_with fail
  refine (eqExpr_any y.op y.n y.k Ag Aw cg cw _ ((GT.out.lies fun z hz => (GT.out.lt z hz).2).mono_ (Nat.zero_le _) (Nat.le_refl _)) (WL.out.mono_ (Nat.zero_le _) (by have hs := HS.out; omega)) hys).mono ?_
  rintro e w14 ⟨rfl, hb⟩
  clear zXG_0 zXG_1 zXG_2 zXW_0 zXW_1 zXW_2
  have HB' := Lib.hid (HB.out.trans (hb.mono HB.out.size))
  have HX2' := Lib.hid (HX2.out.below hb HX2.out.size)
  have XW' := Lib.hid (XW.out.below hb XW.out.size)
  have WL' := Lib.hid (WL.out.below (hb.mono (by have hs := HS.out; omega)))
  have XB2' := Lib.hid (XB2.out.below hb XB2.out.size)
  have GT' := Lib.hid (GT.out.over hb)
  have XG' := Lib.hid (XG.out.below hb XG.out.size)
  have HS' := Lib.hid (And.intro hb.size HS.out)
  clear hb HB HX2 XW WL XB2 GT XG HS
  have HB := HB'
  have HX2 := HX2'
  have XW := XW'
  have WL := WL'
  have XB2 := XB2'
  have GT := GT'
  have XG := XG'
  have HS := HS'
  clear HB' HX2' XW' WL' XB2' GT' XG' HS'
  clear XB2
  have zXG_0 := XG.out.cell (i := 0) rfl
  have zXG_1 := XG.out.cell (i := 1) rfl
  have zXG_2 := XG.out.cell (i := 2) rfl
  go_wp2_with fail
  refine (markOwn_any y.op y.n y.k Ag cg _ bsg _ 1 GT.out (by decide) (by omega)).mono ?_
  rintro e w15 ⟨rfl, htm, hon⟩
  clear GT
  clear zXG_0 zXG_1 zXG_2
  have HB' := Lib.hid (HB.out.trans (hon.below (fun z hz => by have hg := GB.out _ hz; have hs := HS.out; omega) HB.out.size))
  have HX2' := Lib.hid (hon.row HX2.out (fun hz => by have hg := GB.out _ hz; have hs := HS.out; omega))
  have XW' := Lib.hid (hon.row XW.out (fun hz => by have hg := GB.out _ hz; have hs := HS.out; omega))
  have WL' := Lib.hid (WL.out.keep (Nat.le_refl _) (Nat.le_refl _) fun p h1 h2 => hon.cell (by have hs := HS.out; omega) (fun hz => by have hg := GB.out _ hz; have hs := HS.out; omega))
  have XG' := Lib.hid (hon.row XG.out (fun hz => by have hg := GB.out _ hz; have hs := HS.out; omega))
  have HS' := Lib.hid (And.intro hon.size HS.out)
  clear hon HB HX2 XW WL XG HS
  have HB := HB'
  have HX2 := HX2'
  have XW := XW'
  have WL := WL'
  have XG := XG'
  have HS := HS'
  clear HB' HX2' XW' WL' XG' HS'
  have GL := Lib.hid (htm.lies fun z hz => (GB.out z hz).2)
  clear htm
  have hzp : (1 : Int) + 2 * (y.k.size : Int) ≤ 2097153 := by omega
  have hz0 : (0 : Int) ≤ 1 + 2 * (y.k.size : Int) := by omega
  generalize hll : (1 : Int) + 2 * (y.k.size : Int) = ll at hzp hz0
  have HLL := Lib.hid hll
  clear hll
  have zXG_0 := XG.out.cell (i := 0) rfl
  have zXG_1 := XG.out.cell (i := 1) rfl
  have zXG_2 := XG.out.cell (i := 2) rfl
  go_wp2_with fail
  refine (heldOwn_any y.op y.n y.k Ag cg _ 1 (GL.out.mono_ (Nat.zero_le _) (by have hs := HS.out; omega)) (by decide) (by omega)).mono ?_
  rintro e w16 ⟨rfl, hb⟩
  rw [HLL.out]
  clear zXG_0 zXG_1 zXG_2
  have HB' := Lib.hid (HB.out.trans (hb.mono HB.out.size))
  have HX2' := Lib.hid (HX2.out.below hb HX2.out.size)
  have XW' := Lib.hid (XW.out.below hb XW.out.size)
  have WL' := Lib.hid (WL.out.below (hb.mono (by have hs := HS.out; omega)))
  have XG' := Lib.hid (XG.out.below hb XG.out.size)
  have GL' := Lib.hid (GL.out.below (hb.mono (by have hs := HS.out; omega)))
  have HS' := Lib.hid (And.intro hb.size HS.out)
  clear hb HB HX2 XW WL XG GL HS
  have HB := HB'
  have HX2 := HX2'
  have XW := XW'
  have WL := WL'
  have XG := XG'
  have GL := GL'
  have HS := HS'
  clear HB' HX2' XW' WL' XG' GL' HS'
  go_upto_region 31 with fail
  have hS : ∀ w' : World, Below w16.heap.size w16 w' → w'.cell? ⟨w.heap.size, 0, none⟩ = some (Value.int IntKind.i64 op2) ∧ w'.cell? ⟨w.heap.size, 1, none⟩ = some (Value.int IntKind.i64 n2) ∧ w'.cell? ⟨w.heap.size, 2, none⟩ = some (Value.slice A2 k2.len c2) := fun w' hb => ⟨(hb.cell (p := ⟨w.heap.size, 0, none⟩) HX2.out.size).trans (HX2.out.cell (i := 0) rfl), (hb.cell (p := ⟨w.heap.size, 1, none⟩) HX2.out.size).trans (HX2.out.cell (i := 1) rfl), (hb.cell (p := ⟨w.heap.size, 2, none⟩) HX2.out.size).trans (HX2.out.cell (i := 2) rfl)⟩
  have HSS := Lib.hid hS
  clear hS
  have HTA := Lib.hid (fun (w' : World) (hb' : Below w16.heap.size w16 w') => toDefS_any ds1 A1 c1 w' ((HL1.out.up HB.out).up hb') hsz1)
  have HTB := Lib.hid (fun (w' : World) (hb' : Below w16.heap.size w16 w') => toExpr_any op2 n2 k2 A2 c2 w' ((HL2.out.up HB.out).up hb') hsz2)
  go_cut [15, 16] from 94 to 101 (fun p s wd => ∃ g A9 c9 b9, p = .pointer (some ⟨g, 0, none⟩) ∧ s = .bool ok ∧ Row wd g 30 #[.int .i64 y.op, .int .i64 y.n, .slice A9 y.k.len c9] ∧ w16.heap.size ≤ g ∧ Tree wd w16.heap.size (.slice A9 y.k.len c9) y.k b9 ∧ Below w16.heap.size w16 wd)
  case first =>
    have b0 : Below w16.heap.size w16 w16.drew := (Below.refl _ _).drew
    have bp : Below w16.heap.size w16 (w16.alloc (Obj.cells #[Value.int .i64 0, Value.int .i64 0, Value.slice none 0 0] 30)).drew := ((Below.refl _ _).alloc (Nat.le_refl _) _).drew
    have C0 := Lib.hid (HTA.out _ b0)
    have CP := Lib.hid (HTA.out _ bp)
    have s0 := HSS.out _ b0
    have sp := HSS.out _ bp
    have B0 := Lib.hid b0
    have BP := Lib.hid bp
    have RP := Lib.hid (show Row (w16.alloc (Obj.cells #[Value.int .i64 0, Value.int .i64 0, Value.slice none 0 0] 30)).drew w16.heap.size 30 #[Value.int .i64 0, Value.int .i64 0, Value.slice none 0 0] from (Row.fresh _ _ _).drew)
    clear b0 bp
    go_region_held3 (fun w' => w'.cell? ⟨w.heap.size, 0, none⟩ = some (Value.int IntKind.i64 op2) ∧ w'.cell? ⟨w.heap.size, 1, none⟩ = some (Value.int IntKind.i64 n2) ∧ w'.cell? ⟨w.heap.size, 2, none⟩ = some (Value.slice A2 k2.len c2))
      (first | with_reducible exact s0 | with_reducible exact sp | with_reducible exact s1 | with_reducible exact s1l | with_reducible exact s2 | with_reducible exact s2l | with_reducible exact s3 | with_reducible exact s4 | with_reducible exact s3z | fail)
      (first
        | (go_at_call 9
           with_reducible refine (implPutOnce_any ds1 Ah1 ch1 op2 n2 k2 Ah2 ch2 _ _ _ _ _ (RGA.out _ (Below.refl _ _)).1 (RGA.out _ (Below.refl _ _)).2.2 (RGA.out _ (Below.refl _ _)).2.1 (RGB.out _ (Below.refl _ _)).1 (RGB.out _ (Below.refl _ _)).2.2 (RGB.out _ (Below.refl _ _)).2.1 hsz1 hkh2 hch2 hsz2).mono ?_
           rintro e vd ⟨A5, c5, b5, rfl, ht5, hb5⟩
           rw [← HY.out] at ht5
           rw [← HY.out, ← HOK.out]
           have hb := B2.out.trans (hb5.mono B2.out.size)
           have r5 := (RLa2.out).below hb5 ((RLa2.out).size)
           have f0 := r5.free 0
           have f1 := r5.free 1
           have f2 := r5.free 2
           have d0 := r5.cell (i := 0) rfl
           have d1 := r5.cell (i := 1) rfl
           have d2 := r5.cell (i := 2) rfl
           have hgl : w16.heap.size ≤ w16.heap.size := by first | exact Nat.le_refl _ | exact B1.out.size | exact B2.out.size
           have hbs := ((hb.setCell (p := ⟨w16.heap.size, 0, none⟩) hgl (.int .i64 y.op)).setCell (p := ⟨w16.heap.size, 1, none⟩) hgl (.int .i64 y.n)).setCell (p := ⟨w16.heap.size, 2, none⟩) hgl (.slice A5 y.k.len c5)
           have s3 := HSS.out _ hb
           have s4 := HSS.out _ hbs
           have hzr := (RLa2.out).size
           have HEND := Lib.hid (show ∃ g A6 c6 b6, Value.pointer (some ⟨w16.heap.size, 0, none⟩) = .pointer (some ⟨g, 0, none⟩) ∧ Row (((vd.setCell ⟨w16.heap.size, 0, none⟩ (.int .i64 y.op)).setCell ⟨w16.heap.size, 1, none⟩ (.int .i64 y.n)).setCell ⟨w16.heap.size, 2, none⟩ (.slice A5 y.k.len c5)) g 30 #[.int .i64 y.op, .int .i64 y.n, .slice A6 y.k.len c6] ∧ w16.heap.size ≤ g ∧ Tree (((vd.setCell ⟨w16.heap.size, 0, none⟩ (.int .i64 y.op)).setCell ⟨w16.heap.size, 1, none⟩ (.int .i64 y.n)).setCell ⟨w16.heap.size, 2, none⟩ (.slice A5 y.k.len c5)) w16.heap.size (.slice A6 y.k.len c6) y.k b6 ∧ Below w16.heap.size w16 (((vd.setCell ⟨w16.heap.size, 0, none⟩ (.int .i64 y.op)).setCell ⟨w16.heap.size, 1, none⟩ (.int .i64 y.n)).setCell ⟨w16.heap.size, 2, none⟩ (.slice A5 y.k.len c5)) from ⟨w16.heap.size, A5, c5, b5, rfl, ((r5.put 0 _).put 1 _).put 2 _, hgl, (((ht5.put (p := ⟨w16.heap.size, 0, none⟩) hzr _).put (p := ⟨w16.heap.size, 1, none⟩) hzr _).put (p := ⟨w16.heap.size, 2, none⟩) hzr _).lower B2.out.size, hbs⟩)
           clear ht5 hb5 hb r5 hbs hgl hzr)
        | (go_at_call 9
           with_reducible refine (implPutOnce_any ds1 Ah1 ch1 op2 n2 k2 Ah2 ch2 _ _ _ _ _ (RGA.out _ (Below.refl _ _)).1 (RGA.out _ (Below.refl _ _)).2.2 (RGA.out _ (Below.refl _ _)).2.1 (RGB.out _ (Below.refl _ _)).1 (RGB.out _ (Below.refl _ _)).2.2 (RGB.out _ (Below.refl _ _)).2.1 hsz1 hkh2 hch2 hsz2).mono ?_
           rintro e vd ⟨A5, c5, b5, rfl, ht5, hb5⟩
           rw [← HY.out] at ht5
           rw [← HY.out, ← HOK.out]
           have hb := B2.out.trans (hb5.mono B2.out.size)
           have r5 := (RLb2.out).below hb5 ((RLb2.out).size)
           have f0 := r5.free 0
           have f1 := r5.free 1
           have f2 := r5.free 2
           have d0 := r5.cell (i := 0) rfl
           have d1 := r5.cell (i := 1) rfl
           have d2 := r5.cell (i := 2) rfl
           have hgl : w16.heap.size ≤ va.heap.size := by first | exact Nat.le_refl _ | exact B1.out.size | exact B2.out.size
           have hbs := ((hb.setCell (p := ⟨va.heap.size, 0, none⟩) hgl (.int .i64 y.op)).setCell (p := ⟨va.heap.size, 1, none⟩) hgl (.int .i64 y.n)).setCell (p := ⟨va.heap.size, 2, none⟩) hgl (.slice A5 y.k.len c5)
           have s3 := HSS.out _ hb
           have s4 := HSS.out _ hbs
           have hzr := (RLb2.out).size
           have HEND := Lib.hid (show ∃ g A6 c6 b6, Value.pointer (some ⟨va.heap.size, 0, none⟩) = .pointer (some ⟨g, 0, none⟩) ∧ Row (((vd.setCell ⟨va.heap.size, 0, none⟩ (.int .i64 y.op)).setCell ⟨va.heap.size, 1, none⟩ (.int .i64 y.n)).setCell ⟨va.heap.size, 2, none⟩ (.slice A5 y.k.len c5)) g 30 #[.int .i64 y.op, .int .i64 y.n, .slice A6 y.k.len c6] ∧ w16.heap.size ≤ g ∧ Tree (((vd.setCell ⟨va.heap.size, 0, none⟩ (.int .i64 y.op)).setCell ⟨va.heap.size, 1, none⟩ (.int .i64 y.n)).setCell ⟨va.heap.size, 2, none⟩ (.slice A5 y.k.len c5)) w16.heap.size (.slice A6 y.k.len c6) y.k b6 ∧ Below w16.heap.size w16 (((vd.setCell ⟨va.heap.size, 0, none⟩ (.int .i64 y.op)).setCell ⟨va.heap.size, 1, none⟩ (.int .i64 y.n)).setCell ⟨va.heap.size, 2, none⟩ (.slice A5 y.k.len c5)) from ⟨va.heap.size, A5, c5, b5, rfl, ((r5.put 0 _).put 1 _).put 2 _, hgl, (((ht5.put (p := ⟨va.heap.size, 0, none⟩) hzr _).put (p := ⟨va.heap.size, 1, none⟩) hzr _).put (p := ⟨va.heap.size, 2, none⟩) hzr _).lower B2.out.size, hbs⟩)
           clear ht5 hb5 hb r5 hbs hgl hzr)
        | (go_at_call 9
           with_reducible refine (implPutOnce_any ds1 Ah1 ch1 op2 n2 k2 Ah2 ch2 _ _ _ _ _ (RGA.out _ ((Below.refl _ _).alloc (Nat.le_refl _) _)).1 (RGA.out _ ((Below.refl _ _).alloc (Nat.le_refl _) _)).2.2 (RGA.out _ ((Below.refl _ _).alloc (Nat.le_refl _) _)).2.1 (RGB.out _ ((Below.refl _ _).alloc (Nat.le_refl _) _)).1 (RGB.out _ ((Below.refl _ _).alloc (Nat.le_refl _) _)).2.2 (RGB.out _ ((Below.refl _ _).alloc (Nat.le_refl _) _)).2.1 hsz1 hkh2 hch2 hsz2).mono ?_
           rintro e vd ⟨A5, c5, b5, rfl, ht5, hb5⟩
           rw [← HY.out] at ht5
           rw [← HY.out, ← HOK.out]
           have hb := B2L.out.trans (hb5.mono B2L.out.size)
           have r5 := (Row.fresh vb 30 #[Value.int .i64 0, Value.int .i64 0, Value.slice none 0 0]).below hb5 ((Row.fresh vb 30 #[Value.int .i64 0, Value.int .i64 0, Value.slice none 0 0]).size)
           have f0 := r5.free 0
           have f1 := r5.free 1
           have f2 := r5.free 2
           have d0 := r5.cell (i := 0) rfl
           have d1 := r5.cell (i := 1) rfl
           have d2 := r5.cell (i := 2) rfl
           have hgl : w16.heap.size ≤ vb.heap.size := by first | exact Nat.le_refl _ | exact B1.out.size | exact B2.out.size
           have hbs := ((hb.setCell (p := ⟨vb.heap.size, 0, none⟩) hgl (.int .i64 y.op)).setCell (p := ⟨vb.heap.size, 1, none⟩) hgl (.int .i64 y.n)).setCell (p := ⟨vb.heap.size, 2, none⟩) hgl (.slice A5 y.k.len c5)
           have s3 := HSS.out _ hb
           have s4 := HSS.out _ hbs
           have hzr := (Row.fresh vb 30 #[Value.int .i64 0, Value.int .i64 0, Value.slice none 0 0]).size
           have HEND := Lib.hid (show ∃ g A6 c6 b6, Value.pointer (some ⟨vb.heap.size, 0, none⟩) = .pointer (some ⟨g, 0, none⟩) ∧ Row (((vd.setCell ⟨vb.heap.size, 0, none⟩ (.int .i64 y.op)).setCell ⟨vb.heap.size, 1, none⟩ (.int .i64 y.n)).setCell ⟨vb.heap.size, 2, none⟩ (.slice A5 y.k.len c5)) g 30 #[.int .i64 y.op, .int .i64 y.n, .slice A6 y.k.len c6] ∧ w16.heap.size ≤ g ∧ Tree (((vd.setCell ⟨vb.heap.size, 0, none⟩ (.int .i64 y.op)).setCell ⟨vb.heap.size, 1, none⟩ (.int .i64 y.n)).setCell ⟨vb.heap.size, 2, none⟩ (.slice A5 y.k.len c5)) w16.heap.size (.slice A6 y.k.len c6) y.k b6 ∧ Below w16.heap.size w16 (((vd.setCell ⟨vb.heap.size, 0, none⟩ (.int .i64 y.op)).setCell ⟨vb.heap.size, 1, none⟩ (.int .i64 y.n)).setCell ⟨vb.heap.size, 2, none⟩ (.slice A5 y.k.len c5)) from ⟨vb.heap.size, A5, c5, b5, rfl, ((r5.put 0 _).put 1 _).put 2 _, hgl, (((ht5.put (p := ⟨vb.heap.size, 0, none⟩) hzr _).put (p := ⟨vb.heap.size, 1, none⟩) hzr _).put (p := ⟨vb.heap.size, 2, none⟩) hzr _).lower B2L.out.size, hbs⟩)
           clear ht5 hb5 hb r5 hbs hgl hzr)
        | (go_at_call 9
           with_reducible refine (implPutOnce_any ds1 Ah1 ch1 op2 n2 k2 Ah2 ch2 _ _ _ _ _ (RGA.out _ (Below.refl _ _)).1 (RGA.out _ (Below.refl _ _)).2.2 (RGA.out _ (Below.refl _ _)).2.1 (RGB.out _ (Below.refl _ _)).1 (RGB.out _ (Below.refl _ _)).2.2 (RGB.out _ (Below.refl _ _)).2.1 hsz1 hkh2 hch2 hsz2).mono ?_
           rintro e vd ⟨A5, c5, b5, rfl, ht5, hb5⟩
           rw [← HY.out] at ht5
           rw [← HY.out, ← HOK.out]
           have hb := B2.out.trans (hb5.mono B2.out.size)
           have hbl : Below vd.heap.size vd (vd.alloc (Obj.cells #[Value.int .i64 y.op, Value.int .i64 y.n, Value.slice A5 y.k.len c5] 30)) := (Below.refl _ _).alloc (Nat.le_refl _) _
           have hba := hb.trans (hbl.mono hb.size)
           have s3 := HSS.out _ hb
           have s4 := HSS.out _ hba
           have s3z := HSS.out _ (hb.alloc hb.size (Obj.cells #[Value.int .i64 0, Value.int .i64 0, Value.slice none 0 0] 30))
           have HEND := Lib.hid (show ∃ g A6 c6 b6, Value.pointer (some ⟨vd.heap.size, 0, none⟩) = .pointer (some ⟨g, 0, none⟩) ∧ Row (vd.alloc (Obj.cells #[Value.int .i64 y.op, Value.int .i64 y.n, Value.slice A5 y.k.len c5] 30)) g 30 #[.int .i64 y.op, .int .i64 y.n, .slice A6 y.k.len c6] ∧ w16.heap.size ≤ g ∧ Tree (vd.alloc (Obj.cells #[Value.int .i64 y.op, Value.int .i64 y.n, Value.slice A5 y.k.len c5] 30)) w16.heap.size (.slice A6 y.k.len c6) y.k b6 ∧ Below w16.heap.size w16 (vd.alloc (Obj.cells #[Value.int .i64 y.op, Value.int .i64 y.n, Value.slice A5 y.k.len c5] 30)) from ⟨vd.heap.size, A5, c5, b5, rfl, Row.fresh _ _ _, hb.size, (ht5.over hbl).lower B2.out.size, hba⟩)
           clear ht5 hb5 hb hbl hba)
        | (go_at_call 8
           with_reducible refine (HTB.out va B1.out).mono ?_
           rintro e vb ⟨Ah2, ch2, rfl, hkh2, hch2, hlh2, halh2, hb2⟩
           have RLa2 := Lib.hid (RLa1.out.below hb2 RLa1.out.size)
           have LTA := Lib.hid ((LT1.out).up hb2)
           have LTB := Lib.hid (hlh2.mono_ (Nat.zero_le _) (Nat.le_refl _))
           have RGA := Lib.hid (fun (v : World) (hv : Below vb.heap.size vb v) => RGA1.out v (hb2.trans (hv.mono (Nat.le_trans (hb2).size (Nat.le_refl _)))))
           have RGB := Lib.hid (fun (v : World) (hv : Below vb.heap.size vb v) => And.intro (hlh2.below hv) (And.intro (halh2.below hv (Nat.le_refl _)) hv.size))
           have b2 := B1.out.trans (hb2.mono B1.out.size)
           have B2 := Lib.hid b2
           have B2L := Lib.hid (b2.alloc b2.size (Obj.cells #[Value.int .i64 0, Value.int .i64 0, Value.slice none 0 0] 30))
           have s2 := HSS.out _ b2
           have s2l := HSS.out _ B2L.out
           clear hb2 b2 hlh2 halh2)
        | (go_at_call 8
           with_reducible refine (HTB.out (va.alloc (Obj.cells #[Value.int .i64 0, Value.int .i64 0, Value.slice none 0 0] 30)) B1L.out).mono ?_
           rintro e vb ⟨Ah2, ch2, rfl, hkh2, hch2, hlh2, halh2, hb2⟩
           have RLb2 := Lib.hid ((Row.fresh va 30 #[Value.int .i64 0, Value.int .i64 0, Value.slice none 0 0]).below hb2 (by simp))
           have LTA := Lib.hid ((LT1.out.up ((Below.refl _ _).alloc (Nat.le_refl _) _)).up hb2)
           have LTB := Lib.hid (hlh2.mono_ (Nat.zero_le _) (Nat.le_refl _))
           have RGA := Lib.hid (fun (v : World) (hv : Below vb.heap.size vb v) => RGA1.out v ((((Below.refl va.heap.size va).alloc (Nat.le_refl _) _).trans (hb2.mono (by simp))).trans (hv.mono (Nat.le_trans ((((Below.refl va.heap.size va).alloc (Nat.le_refl _) _).trans (hb2.mono (by simp)))).size (Nat.le_refl _)))))
           have RGB := Lib.hid (fun (v : World) (hv : Below vb.heap.size vb v) => And.intro (hlh2.below hv) (And.intro (halh2.below hv (Nat.le_refl _)) hv.size))
           have b2 := B1L.out.trans (hb2.mono B1L.out.size)
           have B2 := Lib.hid b2
           have B2L := Lib.hid (b2.alloc b2.size (Obj.cells #[Value.int .i64 0, Value.int .i64 0, Value.slice none 0 0] 30))
           have s2 := HSS.out _ b2
           have s2l := HSS.out _ B2L.out
           clear hb2 b2 hlh2 halh2)
        | (go_at_call 8
           with_reducible refine (HTB.out va B1.out).mono ?_
           rintro e vb ⟨Ah2, ch2, rfl, hkh2, hch2, hlh2, halh2, hb2⟩
           have LTA := Lib.hid ((LT1.out).up hb2)
           have LTB := Lib.hid (hlh2.mono_ (Nat.zero_le _) (Nat.le_refl _))
           have RGA := Lib.hid (fun (v : World) (hv : Below vb.heap.size vb v) => RGA1.out v (hb2.trans (hv.mono (Nat.le_trans (hb2).size (Nat.le_refl _)))))
           have RGB := Lib.hid (fun (v : World) (hv : Below vb.heap.size vb v) => And.intro (hlh2.below hv) (And.intro (halh2.below hv (Nat.le_refl _)) hv.size))
           have b2 := B1.out.trans (hb2.mono B1.out.size)
           have B2 := Lib.hid b2
           have B2L := Lib.hid (b2.alloc b2.size (Obj.cells #[Value.int .i64 0, Value.int .i64 0, Value.slice none 0 0] 30))
           have s2 := HSS.out _ b2
           have s2l := HSS.out _ B2L.out
           clear hb2 b2 hlh2 halh2)
        | (go_at_call 7
           with_reducible refine CP.out.mono ?_
           rintro e va ⟨Ah1, ch1, rfl, hkh1, hch1, hlh1, halh1, hb1⟩
           have RLa1 := Lib.hid (RP.out.below hb1 RP.out.size)
           have RGA1 := Lib.hid (fun (v : World) (hv : Below va.heap.size va v) => And.intro (hlh1.below hv) (And.intro (halh1.below hv (Nat.le_refl _)) hv.size))
           have LT1 := Lib.hid (hlh1.mono_ (Nat.zero_le _) (Nat.le_refl _))
           have b1 := BP.out.trans (hb1.mono BP.out.size)
           have B1 := Lib.hid b1
           have s1 := HSS.out _ b1
           clear hb1 b1 hlh1 halh1)
        | (go_at_call 7
           with_reducible refine C0.out.mono ?_
           rintro e va ⟨Ah1, ch1, rfl, hkh1, hch1, hlh1, halh1, hb1⟩
           have B1L := Lib.hid ((B0.out.trans (hb1.mono B0.out.size)).alloc (B0.out.trans (hb1.mono B0.out.size)).size (Obj.cells #[Value.int .i64 0, Value.int .i64 0, Value.slice none 0 0] 30))
           have s1l := HSS.out _ B1L.out
           have RGA1 := Lib.hid (fun (v : World) (hv : Below va.heap.size va v) => And.intro (hlh1.below hv) (And.intro (halh1.below hv (Nat.le_refl _)) hv.size))
           have LT1 := Lib.hid (hlh1.mono_ (Nat.zero_le _) (Nat.le_refl _))
           have b1 := B0.out.trans (hb1.mono B0.out.size)
           have B1 := Lib.hid b1
           have s1 := HSS.out _ b1
           clear hb1 b1 hlh1 halh1)
        | fail)
    all_goals
      go_wp2_with fail
      go_meet
      obtain ⟨g, A9', c9', b9', hp, hr⟩ := HEND.out
      exact ⟨g, A9', c9', b9', hp, rfl, hr⟩
  case rest =>
  obtain ⟨gAh, Ah, ch, bsh, rfl, rfl, hrw, hgw, htw, hb⟩ := hcut
  obtain ⟨w17, hw9⟩ : ∃ v, v = wc := ⟨_, rfl⟩
  rw [← hw9] at hrw htw hb ⊢
  clear hw9 wc HSS HTA HTB
  have HB' := Lib.hid (HB.out.trans (hb.mono HB.out.size))
  have HX2' := Lib.hid (HX2.out.below hb HX2.out.size)
  have XW' := Lib.hid (XW.out.below hb XW.out.size)
  have WL' := Lib.hid (WL.out.below (hb.mono (by have hs := HS.out; omega)))
  have XG' := Lib.hid (XG.out.below hb XG.out.size)
  have GL' := Lib.hid (GL.out.below (hb.mono (by have hs := HS.out; omega)))
  have HS' := Lib.hid (And.intro hb.size HS.out)
  clear hb HB HX2 XW WL XG GL HS
  have HB := HB'
  have HX2 := HX2'
  have XW := XW'
  have WL := WL'
  have XG := XG'
  have GL := GL'
  have HS := HS'
  clear HB' HX2' XW' WL' XG' GL' HS'
  have XH := Lib.hid hrw
  have HS' := Lib.hid (And.intro hgw (And.intro hrw.size HS.out))
  clear HS hrw hgw
  have HS := HS'
  clear HS'
  have HHL := Lib.hid (htw.lies fun z hz => (htw.lt z hz).2)
  clear htw
  have zXH_0 := XH.out.cell (i := 0) rfl
  have zXH_1 := XH.out.cell (i := 1) rfl
  have zXH_2 := XH.out.cell (i := 2) rfl
  have zXW_0 := XW.out.cell (i := 0) rfl
  have zXW_1 := XW.out.cell (i := 1) rfl
  have zXW_2 := XW.out.cell (i := 2) rfl
  go_wp2_with fail
  refine (eqExpr_any y.op y.n y.k Ah Aw ch cw _ (HHL.out.mono_ (Nat.zero_le _) (by have hs := HS.out; omega)) (WL.out.mono_ (Nat.zero_le _) (by have hs := HS.out; omega)) hys).mono ?_
  rintro e w18 ⟨rfl, hb⟩
  clear zXH_0 zXH_1 zXH_2 zXW_0 zXW_1 zXW_2
  have HB' := Lib.hid (HB.out.trans (hb.mono HB.out.size))
  have HX2' := Lib.hid (HX2.out.below hb HX2.out.size)
  have XW' := Lib.hid (XW.out.below hb XW.out.size)
  have WL' := Lib.hid (WL.out.below (hb.mono (by have hs := HS.out; omega)))
  have XG' := Lib.hid (XG.out.below hb XG.out.size)
  have GL' := Lib.hid (GL.out.below (hb.mono (by have hs := HS.out; omega)))
  have XH' := Lib.hid (XH.out.below hb XH.out.size)
  have HHL' := Lib.hid (HHL.out.below (hb.mono (by have hs := HS.out; omega)))
  have HS' := Lib.hid (And.intro hb.size HS.out)
  clear hb HB HX2 XW WL XG GL XH HHL HS
  have HB := HB'
  have HX2 := HX2'
  have XW := XW'
  have WL := WL'
  have XG := XG'
  have GL := GL'
  have XH := XH'
  have HHL := HHL'
  have HS := HS'
  clear HB' HX2' XW' WL' XG' GL' XH' HHL' HS'
  have zXG_0 := XG.out.cell (i := 0) rfl
  have zXG_1 := XG.out.cell (i := 1) rfl
  have zXG_2 := XG.out.cell (i := 2) rfl
  go_wp2_with fail
  refine (heldOwn_any y.op y.n y.k Ag cg _ 1 (GL.out.mono_ (Nat.zero_le _) (by have hs := HS.out; omega)) (by decide) (by omega)).mono ?_
  rintro e w19 ⟨rfl, hb⟩
  rw [HLL.out]
  clear zXG_0 zXG_1 zXG_2
  have HB' := Lib.hid (HB.out.trans (hb.mono HB.out.size))
  have HX2' := Lib.hid (HX2.out.below hb HX2.out.size)
  have XW' := Lib.hid (XW.out.below hb XW.out.size)
  have WL' := Lib.hid (WL.out.below (hb.mono (by have hs := HS.out; omega)))
  have XG' := Lib.hid (XG.out.below hb XG.out.size)
  have GL' := Lib.hid (GL.out.below (hb.mono (by have hs := HS.out; omega)))
  have XH' := Lib.hid (XH.out.below hb XH.out.size)
  have HHL' := Lib.hid (HHL.out.below (hb.mono (by have hs := HS.out; omega)))
  have HS' := Lib.hid (And.intro hb.size HS.out)
  clear hb HB HX2 XW WL XG GL XH HHL HS
  have HB := HB'
  have HX2 := HX2'
  have XW := XW'
  have WL := WL'
  have XG := XG'
  have GL := GL'
  have XH := XH'
  have HHL := HHL'
  have HS := HS'
  clear HB' HX2' XW' WL' XG' GL' XH' HHL' HS'
  go_wp2
  go_ret
  exact ⟨rfl, HB.out⟩
end Go.Proofs.YtmnhoeliofojnaaGreat
