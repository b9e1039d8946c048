/-
  The model's text of an expression: spec.l1Text, kind by kind.
-/
import Derived.Test.YtpknegneogdmfaaGreatTxtS
import Derived.Deep.RegionHeld3
import Derived.Deep.RegionWith
namespace Go.Proofs.YtpknegneogdmfaaGreat
open Go.RowKit
set_option maxRecDepth 100000

/-- What l1Text does at a node. -/
def TxtC (op n : Int) (k : Fo) : Prop := ∀ (A : Option Addr) (c : Nat) (w : World), Lies w 0 w.heap.size A 0 k → Calls Tryz.prog 62 #[.agg #[.int .i64 op, .int .i64 n, .slice A k.len c]] w (Gives (txt (txtN op n k)) w)
theorem len_one {k : Fo} (h : k.len = 1) : ∃ o m a, k = .cons o m a .nil := by
  match k, h with
  | .cons o m a .nil, _ => exact ⟨o, m, a, rfl⟩
  | .cons _ _ _ (.cons _ _ _ r), h => simp [Fo.len] at h
theorem len_two {k : Fo} (h : k.len = 2) : ∃ o m a p q b, k = .cons o m a (.cons p q b .nil) := by
  match k, h with
  | .cons _ _ _ .nil, h => simp [Fo.len] at h
  | .cons o m a (.cons p q b .nil), _ => exact ⟨o, m, a, p, q, b, rfl⟩
  | .cons _ _ _ (.cons _ _ _ (.cons _ _ _ r)), h => simp [Fo.len] at h
theorem len_three {k : Fo} (h : k.len = 3) : ∃ o m a p q b s t d, k = .cons o m a (.cons p q b (.cons s t d .nil)) := by
  match k, h with
  | .cons _ _ _ .nil, h => simp [Fo.len] at h
  | .cons _ _ _ (.cons _ _ _ .nil), h => simp [Fo.len] at h
  | .cons o m a (.cons p q b (.cons s t d .nil)), _ => exact ⟨o, m, a, p, q, b, s, t, d, rfl⟩
  | .cons _ _ _ (.cons _ _ _ (.cons _ _ _ (.cons _ _ _ r))), h => simp [Fo.len] at h
theorem text_size (op n : Int) (k : Fo) (h : k.size ≤ 1048576) : (ByteArray.mk (txtN op n k).toArray).size ≤ 7000000 := by
  have := txtN_len op n k
  show (txtN op n k).length ≤ 7000000
  omega

set_option maxHeartbeats 2000000 in
theorem txt_4 (n : Int) (o0 m0 : Int) (k0 : Fo) (o1 m1 : Int) (k1 : Fo) (hz0 : k0.size ≤ 1048576) (hz1 : k1.size ≤ 1048576) (hc0 : TxtC o0 m0 k0) (hc1 : TxtC o1 m1 k1) : TxtC 4 n (.cons o0 m0 k0 (.cons o1 m1 k1 .nil)) := by
  intro A c w hl
  obtain ⟨⟨b, o, A0, c0, hA, _, hb, _, _, g00, g01, g02, _, _, l0⟩, hl⟩ := hl
  subst hA
  obtain ⟨⟨b1, o1', A1, c1, hA1, _, _, _, _, g10, g11, g12, _, _, l1⟩, hl⟩ := hl
  injection hA1 with hA1; injection hA1 with hx1 hy1; subst hx1 hy1
  clear hl
  show Calls Tryz.prog 62 #[.agg #[.int .i64 4, .int .i64 n, .slice (some ⟨b, o, none⟩) 2 c]] w (Gives (txt (txtN 4 n (.cons o0 m0 k0 (.cons o1 m1 k1 .nil)))) w)
  obtain ⟨W, hW⟩ : ∃ W, W = w.alloc (Obj.cells #[.int .i64 4, .int .i64 n, .slice (some ⟨b, o, none⟩) 2 c] 36) := ⟨_, rfl⟩
  have hb0 : Below w.heap.size w W := by rw [hW]; exact (Below.refl _ _).alloc (Nat.le_refl _) _
  have hr0 : Row W w.heap.size 36 #[.int .i64 4, .int .i64 n, .slice (some ⟨b, o, none⟩) 2 c] := by rw [hW]; exact Row.fresh _ _ _
  have HG00 := Lib.hid (show W.cell? ⟨b, o, none⟩ = some (.int .i64 o0) from (hb0.cell (p := ⟨b, o, none⟩) hb).trans (by simpa [Nat.add_assoc] using g00))
  have HG01 := Lib.hid (show W.cell? ⟨b, o + 1, none⟩ = some (.int .i64 m0) from (hb0.cell (p := ⟨b, o + 1, none⟩) hb).trans (by simpa [Nat.add_assoc] using g01))
  have HG02 := Lib.hid (show W.cell? ⟨b, o + 2, none⟩ = some (.slice A0 k0.len c0) from (hb0.cell (p := ⟨b, o + 2, none⟩) hb).trans (by simpa [Nat.add_assoc] using g02))
  have HG10 := Lib.hid (show W.cell? ⟨b, o + 3, none⟩ = some (.int .i64 o1) from (hb0.cell (p := ⟨b, o + 3, none⟩) hb).trans (by simpa [Nat.add_assoc] using g10))
  have HG11 := Lib.hid (show W.cell? ⟨b, o + 4, none⟩ = some (.int .i64 m1) from (hb0.cell (p := ⟨b, o + 4, none⟩) hb).trans (by simpa [Nat.add_assoc] using g11))
  have HG12 := Lib.hid (show W.cell? ⟨b, o + 5, none⟩ = some (.slice A1 k1.len c1) from (hb0.cell (p := ⟨b, o + 5, none⟩) hb).trans (by simpa [Nat.add_assoc] using g12))
  have HBW := Lib.hid (Nat.lt_of_lt_of_le hb hb0.size)
  have HR0 := Lib.hid hr0
  have hS : ∀ w' : World, Below W.heap.size W w' → w'.cell? ⟨w.heap.size, 0, none⟩ = some (Value.int .i64 4) ∧ w'.cell? ⟨w.heap.size, 1, none⟩ = some (Value.int .i64 n) ∧ w'.cell? ⟨w.heap.size, 2, none⟩ = some (Value.slice (some ⟨b, o, none⟩) 2 c) ∧ w'.cell? ⟨b, o, none⟩ = some (Value.int .i64 o0) ∧ w'.cell? ⟨b, o + 1, none⟩ = some (Value.int .i64 m0) ∧ w'.cell? ⟨b, o + 2, none⟩ = some (Value.slice A0 k0.len c0) ∧ w'.cell? ⟨b, o + 3, none⟩ = some (Value.int .i64 o1) ∧ w'.cell? ⟨b, o + 4, none⟩ = some (Value.int .i64 m1) ∧ w'.cell? ⟨b, o + 5, none⟩ = some (Value.slice A1 k1.len c1) := fun w' hb => ⟨(hb.cell (p := ⟨w.heap.size, 0, none⟩) HR0.out.size).trans (HR0.out.cell (i := 0) rfl), (hb.cell (p := ⟨w.heap.size, 1, none⟩) HR0.out.size).trans (HR0.out.cell (i := 1) rfl), (hb.cell (p := ⟨w.heap.size, 2, none⟩) HR0.out.size).trans (HR0.out.cell (i := 2) rfl), (hb.cell (p := ⟨b, o, none⟩) HBW.out).trans (HG00.out), (hb.cell (p := ⟨b, o + 1, none⟩) HBW.out).trans (HG01.out), (hb.cell (p := ⟨b, o + 2, none⟩) HBW.out).trans (HG02.out), (hb.cell (p := ⟨b, o + 3, none⟩) HBW.out).trans (HG10.out), (hb.cell (p := ⟨b, o + 4, none⟩) HBW.out).trans (HG11.out), (hb.cell (p := ⟨b, o + 5, none⟩) HBW.out).trans (HG12.out)⟩
  have HS := Lib.hid hS
  have HB0 := Lib.hid hb0
  have b0 : Below W.heap.size W W.drew := (Below.refl _ _).drew
  have s0 := HS.out _ b0
  have B0 := Lib.hid b0
  obtain ⟨x0, hx0⟩ : ∃ x, x = ByteArray.mk (txtN o0 m0 k0).toArray := ⟨_, rfl⟩
  have HC0 := Lib.hid (fun (w' : World) (hb' : Below W.heap.size W w') => show Calls Tryz.prog 62 #[.agg #[.int .i64 o0, .int .i64 m0, .slice A0 k0.len c0]] w' (Gives (.string x0) w') by rw [hx0]; exact hc0 A0 c0 w' ((l0.up hb0).up hb'))
  have hy0 : x0.size ≤ 7000000 := by rw [hx0]; exact text_size _ _ _ hz0
  obtain ⟨x1, hx1⟩ : ∃ x, x = ByteArray.mk (txtN o1 m1 k1).toArray := ⟨_, rfl⟩
  have HC1 := Lib.hid (fun (w' : World) (hb' : Below W.heap.size W w') => show Calls Tryz.prog 62 #[.agg #[.int .i64 o1, .int .i64 m1, .slice A1 k1.len c1]] w' (Gives (.string x1) w') by rw [hx1]; exact hc1 A1 c1 w' ((l1.up hb0).up hb'))
  have hy1 : x1.size ≤ 7000000 := by rw [hx1]; exact text_size _ _ _ hz1
  have HT := Lib.hid (show txt (txtN 4 n (.cons o0 m0 k0 (.cons o1 m1 k1 .nil))) = .string (ByteArray.mk #[40] ++ x0 ++ ByteArray.mk #[43] ++ x1 ++ ByteArray.mk #[41]) by
    rw [hx0, hx1]
    show Value.string ⟨([40] ++ txtN o0 m0 k0 ++ [43] ++ txtN o1 m1 k1 ++ [41]).toArray⟩ = _
    refine congrArg Value.string ?_
    simp only [← ByteArray.mk_append_mk]
    try rfl)
  rw [HT.out]
  clear hx0 hx1 hb0 hr0 hS b0 hb g00 g01 g02 g10 g11 g12 l0 hc0 hz0 l1 hc1 hz1
  go_enter Tryz.func62, Tryz.ntmps62
  go_upto_region 1 with fail
  rw [← hW]
  clear hW
  have q0 : W.cell? ⟨w.heap.size, 0, none⟩ = some (.int .i64 4) := HR0.out.cell (i := 0) rfl
  go_upto_region 7 with fail
  have hs1 : ¬ 9223372036854775807 < 1 + x0.size := by omega
  have hs2 : ¬ 9223372036854775807 < 1 + x0.size + 1 := by omega
  have hs3 : ¬ 9223372036854775807 < 1 + x0.size + 1 + x1.size := by omega
  have hs4 : ¬ 9223372036854775807 < 1 + x0.size + 1 + x1.size + 1 := by omega
  clear q0
  go_region_held3 (fun w' => w'.cell? ⟨w.heap.size, 0, none⟩ = some (Value.int .i64 4) ∧ w'.cell? ⟨w.heap.size, 1, none⟩ = some (Value.int .i64 n) ∧ w'.cell? ⟨w.heap.size, 2, none⟩ = some (Value.slice (some ⟨b, o, none⟩) 2 c) ∧ w'.cell? ⟨b, o, none⟩ = some (Value.int .i64 o0) ∧ w'.cell? ⟨b, o + 1, none⟩ = some (Value.int .i64 m0) ∧ w'.cell? ⟨b, o + 2, none⟩ = some (Value.slice A0 k0.len c0) ∧ w'.cell? ⟨b, o + 3, none⟩ = some (Value.int .i64 o1) ∧ w'.cell? ⟨b, o + 4, none⟩ = some (Value.int .i64 m1) ∧ w'.cell? ⟨b, o + 5, none⟩ = some (Value.slice A1 k1.len c1))
    (first | with_reducible exact s0 | with_reducible exact s1 | with_reducible exact s2 | with_reducible exact s3 | fail)
    (first
      | (go_at_call 62
         with_reducible refine (HC1.out _ B1.out).mono ?_
         rintro e w2 ⟨rfl, hb2⟩
         have b2 := B1.out.trans (hb2.mono B1.out.size)
         have B2 := Lib.hid b2
         have s2 := HS.out _ b2
         clear hb2 b2)
      | (go_at_call 62
         with_reducible refine (HC0.out _ B0.out).mono ?_
         rintro e w1 ⟨rfl, hb1⟩
         have b1 := B0.out.trans (hb1.mono B0.out.size)
         have B1 := Lib.hid b1
         have s1 := HS.out _ b1
         clear hb1 b1)
      | fail)
  all_goals
    have HBZ := Lib.hid (HB0.out.trans (B2.out.mono HB0.out.size))
    clear s0 s1 s2
    go_wp2
    go_ret
    exact ⟨rfl, HBZ.out⟩

set_option maxHeartbeats 2000000 in
theorem txt_5 (n : Int) (o0 m0 : Int) (k0 : Fo) (o1 m1 : Int) (k1 : Fo) (hz0 : k0.size ≤ 1048576) (hz1 : k1.size ≤ 1048576) (hc0 : TxtC o0 m0 k0) (hc1 : TxtC o1 m1 k1) : TxtC 5 n (.cons o0 m0 k0 (.cons o1 m1 k1 .nil)) := by
  intro A c w hl
  obtain ⟨⟨b, o, A0, c0, hA, _, hb, _, _, g00, g01, g02, _, _, l0⟩, hl⟩ := hl
  subst hA
  obtain ⟨⟨b1, o1', A1, c1, hA1, _, _, _, _, g10, g11, g12, _, _, l1⟩, hl⟩ := hl
  injection hA1 with hA1; injection hA1 with hx1 hy1; subst hx1 hy1
  clear hl
  show Calls Tryz.prog 62 #[.agg #[.int .i64 5, .int .i64 n, .slice (some ⟨b, o, none⟩) 2 c]] w (Gives (txt (txtN 5 n (.cons o0 m0 k0 (.cons o1 m1 k1 .nil)))) w)
  obtain ⟨W, hW⟩ : ∃ W, W = w.alloc (Obj.cells #[.int .i64 5, .int .i64 n, .slice (some ⟨b, o, none⟩) 2 c] 36) := ⟨_, rfl⟩
  have hb0 : Below w.heap.size w W := by rw [hW]; exact (Below.refl _ _).alloc (Nat.le_refl _) _
  have hr0 : Row W w.heap.size 36 #[.int .i64 5, .int .i64 n, .slice (some ⟨b, o, none⟩) 2 c] := by rw [hW]; exact Row.fresh _ _ _
  have HG00 := Lib.hid (show W.cell? ⟨b, o, none⟩ = some (.int .i64 o0) from (hb0.cell (p := ⟨b, o, none⟩) hb).trans (by simpa [Nat.add_assoc] using g00))
  have HG01 := Lib.hid (show W.cell? ⟨b, o + 1, none⟩ = some (.int .i64 m0) from (hb0.cell (p := ⟨b, o + 1, none⟩) hb).trans (by simpa [Nat.add_assoc] using g01))
  have HG02 := Lib.hid (show W.cell? ⟨b, o + 2, none⟩ = some (.slice A0 k0.len c0) from (hb0.cell (p := ⟨b, o + 2, none⟩) hb).trans (by simpa [Nat.add_assoc] using g02))
  have HG10 := Lib.hid (show W.cell? ⟨b, o + 3, none⟩ = some (.int .i64 o1) from (hb0.cell (p := ⟨b, o + 3, none⟩) hb).trans (by simpa [Nat.add_assoc] using g10))
  have HG11 := Lib.hid (show W.cell? ⟨b, o + 4, none⟩ = some (.int .i64 m1) from (hb0.cell (p := ⟨b, o + 4, none⟩) hb).trans (by simpa [Nat.add_assoc] using g11))
  have HG12 := Lib.hid (show W.cell? ⟨b, o + 5, none⟩ = some (.slice A1 k1.len c1) from (hb0.cell (p := ⟨b, o + 5, none⟩) hb).trans (by simpa [Nat.add_assoc] using g12))
  have HBW := Lib.hid (Nat.lt_of_lt_of_le hb hb0.size)
  have HR0 := Lib.hid hr0
  have hS : ∀ w' : World, Below W.heap.size W w' → w'.cell? ⟨w.heap.size, 0, none⟩ = some (Value.int .i64 5) ∧ w'.cell? ⟨w.heap.size, 1, none⟩ = some (Value.int .i64 n) ∧ w'.cell? ⟨w.heap.size, 2, none⟩ = some (Value.slice (some ⟨b, o, none⟩) 2 c) ∧ w'.cell? ⟨b, o, none⟩ = some (Value.int .i64 o0) ∧ w'.cell? ⟨b, o + 1, none⟩ = some (Value.int .i64 m0) ∧ w'.cell? ⟨b, o + 2, none⟩ = some (Value.slice A0 k0.len c0) ∧ w'.cell? ⟨b, o + 3, none⟩ = some (Value.int .i64 o1) ∧ w'.cell? ⟨b, o + 4, none⟩ = some (Value.int .i64 m1) ∧ w'.cell? ⟨b, o + 5, none⟩ = some (Value.slice A1 k1.len c1) := fun w' hb => ⟨(hb.cell (p := ⟨w.heap.size, 0, none⟩) HR0.out.size).trans (HR0.out.cell (i := 0) rfl), (hb.cell (p := ⟨w.heap.size, 1, none⟩) HR0.out.size).trans (HR0.out.cell (i := 1) rfl), (hb.cell (p := ⟨w.heap.size, 2, none⟩) HR0.out.size).trans (HR0.out.cell (i := 2) rfl), (hb.cell (p := ⟨b, o, none⟩) HBW.out).trans (HG00.out), (hb.cell (p := ⟨b, o + 1, none⟩) HBW.out).trans (HG01.out), (hb.cell (p := ⟨b, o + 2, none⟩) HBW.out).trans (HG02.out), (hb.cell (p := ⟨b, o + 3, none⟩) HBW.out).trans (HG10.out), (hb.cell (p := ⟨b, o + 4, none⟩) HBW.out).trans (HG11.out), (hb.cell (p := ⟨b, o + 5, none⟩) HBW.out).trans (HG12.out)⟩
  have HS := Lib.hid hS
  have HB0 := Lib.hid hb0
  have b0 : Below W.heap.size W W.drew := (Below.refl _ _).drew
  have s0 := HS.out _ b0
  have B0 := Lib.hid b0
  obtain ⟨x0, hx0⟩ : ∃ x, x = ByteArray.mk (txtN o0 m0 k0).toArray := ⟨_, rfl⟩
  have HC0 := Lib.hid (fun (w' : World) (hb' : Below W.heap.size W w') => show Calls Tryz.prog 62 #[.agg #[.int .i64 o0, .int .i64 m0, .slice A0 k0.len c0]] w' (Gives (.string x0) w') by rw [hx0]; exact hc0 A0 c0 w' ((l0.up hb0).up hb'))
  have hy0 : x0.size ≤ 7000000 := by rw [hx0]; exact text_size _ _ _ hz0
  obtain ⟨x1, hx1⟩ : ∃ x, x = ByteArray.mk (txtN o1 m1 k1).toArray := ⟨_, rfl⟩
  have HC1 := Lib.hid (fun (w' : World) (hb' : Below W.heap.size W w') => show Calls Tryz.prog 62 #[.agg #[.int .i64 o1, .int .i64 m1, .slice A1 k1.len c1]] w' (Gives (.string x1) w') by rw [hx1]; exact hc1 A1 c1 w' ((l1.up hb0).up hb'))
  have hy1 : x1.size ≤ 7000000 := by rw [hx1]; exact text_size _ _ _ hz1
  have HT := Lib.hid (show txt (txtN 5 n (.cons o0 m0 k0 (.cons o1 m1 k1 .nil))) = .string (ByteArray.mk #[40] ++ x0 ++ ByteArray.mk #[60] ++ x1 ++ ByteArray.mk #[41]) by
    rw [hx0, hx1]
    show Value.string ⟨([40] ++ txtN o0 m0 k0 ++ [60] ++ txtN o1 m1 k1 ++ [41]).toArray⟩ = _
    refine congrArg Value.string ?_
    simp only [← ByteArray.mk_append_mk]
    try rfl)
  rw [HT.out]
  clear hx0 hx1 hb0 hr0 hS b0 hb g00 g01 g02 g10 g11 g12 l0 hc0 hz0 l1 hc1 hz1
  go_enter Tryz.func62, Tryz.ntmps62
  go_upto_region 1 with fail
  rw [← hW]
  clear hW
  have q0 : W.cell? ⟨w.heap.size, 0, none⟩ = some (.int .i64 5) := HR0.out.cell (i := 0) rfl
  go_upto_region 9 with fail
  have hs1 : ¬ 9223372036854775807 < 1 + x0.size := by omega
  have hs2 : ¬ 9223372036854775807 < 1 + x0.size + 1 := by omega
  have hs3 : ¬ 9223372036854775807 < 1 + x0.size + 1 + x1.size := by omega
  have hs4 : ¬ 9223372036854775807 < 1 + x0.size + 1 + x1.size + 1 := by omega
  clear q0
  go_region_held3 (fun w' => w'.cell? ⟨w.heap.size, 0, none⟩ = some (Value.int .i64 5) ∧ w'.cell? ⟨w.heap.size, 1, none⟩ = some (Value.int .i64 n) ∧ w'.cell? ⟨w.heap.size, 2, none⟩ = some (Value.slice (some ⟨b, o, none⟩) 2 c) ∧ w'.cell? ⟨b, o, none⟩ = some (Value.int .i64 o0) ∧ w'.cell? ⟨b, o + 1, none⟩ = some (Value.int .i64 m0) ∧ w'.cell? ⟨b, o + 2, none⟩ = some (Value.slice A0 k0.len c0) ∧ w'.cell? ⟨b, o + 3, none⟩ = some (Value.int .i64 o1) ∧ w'.cell? ⟨b, o + 4, none⟩ = some (Value.int .i64 m1) ∧ w'.cell? ⟨b, o + 5, none⟩ = some (Value.slice A1 k1.len c1))
    (first | with_reducible exact s0 | with_reducible exact s1 | with_reducible exact s2 | with_reducible exact s3 | fail)
    (first
      | (go_at_call 62
         with_reducible refine (HC1.out _ B1.out).mono ?_
         rintro e w2 ⟨rfl, hb2⟩
         have b2 := B1.out.trans (hb2.mono B1.out.size)
         have B2 := Lib.hid b2
         have s2 := HS.out _ b2
         clear hb2 b2)
      | (go_at_call 62
         with_reducible refine (HC0.out _ B0.out).mono ?_
         rintro e w1 ⟨rfl, hb1⟩
         have b1 := B0.out.trans (hb1.mono B0.out.size)
         have B1 := Lib.hid b1
         have s1 := HS.out _ b1
         clear hb1 b1)
      | fail)
  all_goals
    have HBZ := Lib.hid (HB0.out.trans (B2.out.mono HB0.out.size))
    clear s0 s1 s2
    go_wp2
    go_ret
    exact ⟨rfl, HBZ.out⟩

set_option maxHeartbeats 2000000 in
theorem txt_6 (n : Int) (o0 m0 : Int) (k0 : Fo) (o1 m1 : Int) (k1 : Fo) (o2 m2 : Int) (k2 : Fo) (hz0 : k0.size ≤ 1048576) (hz1 : k1.size ≤ 1048576) (hz2 : k2.size ≤ 1048576) (hc0 : TxtC o0 m0 k0) (hc1 : TxtC o1 m1 k1) (hc2 : TxtC o2 m2 k2) : TxtC 6 n (.cons o0 m0 k0 (.cons o1 m1 k1 (.cons o2 m2 k2 .nil))) := by
  intro A c w hl
  obtain ⟨⟨b, o, A0, c0, hA, _, hb, _, _, g00, g01, g02, _, _, l0⟩, hl⟩ := hl
  subst hA
  obtain ⟨⟨b1, o1', A1, c1, hA1, _, _, _, _, g10, g11, g12, _, _, l1⟩, hl⟩ := hl
  injection hA1 with hA1; injection hA1 with hx1 hy1; subst hx1 hy1
  obtain ⟨⟨b2, o2', A2, c2, hA2, _, _, _, _, g20, g21, g22, _, _, l2⟩, hl⟩ := hl
  injection hA2 with hA2; injection hA2 with hx2 hy2; subst hx2 hy2
  clear hl
  show Calls Tryz.prog 62 #[.agg #[.int .i64 6, .int .i64 n, .slice (some ⟨b, o, none⟩) 3 c]] w (Gives (txt (txtN 6 n (.cons o0 m0 k0 (.cons o1 m1 k1 (.cons o2 m2 k2 .nil))))) w)
  obtain ⟨W, hW⟩ : ∃ W, W = w.alloc (Obj.cells #[.int .i64 6, .int .i64 n, .slice (some ⟨b, o, none⟩) 3 c] 36) := ⟨_, rfl⟩
  have hb0 : Below w.heap.size w W := by rw [hW]; exact (Below.refl _ _).alloc (Nat.le_refl _) _
  have hr0 : Row W w.heap.size 36 #[.int .i64 6, .int .i64 n, .slice (some ⟨b, o, none⟩) 3 c] := by rw [hW]; exact Row.fresh _ _ _
  have HG00 := Lib.hid (show W.cell? ⟨b, o, none⟩ = some (.int .i64 o0) from (hb0.cell (p := ⟨b, o, none⟩) hb).trans (by simpa [Nat.add_assoc] using g00))
  have HG01 := Lib.hid (show W.cell? ⟨b, o + 1, none⟩ = some (.int .i64 m0) from (hb0.cell (p := ⟨b, o + 1, none⟩) hb).trans (by simpa [Nat.add_assoc] using g01))
  have HG02 := Lib.hid (show W.cell? ⟨b, o + 2, none⟩ = some (.slice A0 k0.len c0) from (hb0.cell (p := ⟨b, o + 2, none⟩) hb).trans (by simpa [Nat.add_assoc] using g02))
  have HG10 := Lib.hid (show W.cell? ⟨b, o + 3, none⟩ = some (.int .i64 o1) from (hb0.cell (p := ⟨b, o + 3, none⟩) hb).trans (by simpa [Nat.add_assoc] using g10))
  have HG11 := Lib.hid (show W.cell? ⟨b, o + 4, none⟩ = some (.int .i64 m1) from (hb0.cell (p := ⟨b, o + 4, none⟩) hb).trans (by simpa [Nat.add_assoc] using g11))
  have HG12 := Lib.hid (show W.cell? ⟨b, o + 5, none⟩ = some (.slice A1 k1.len c1) from (hb0.cell (p := ⟨b, o + 5, none⟩) hb).trans (by simpa [Nat.add_assoc] using g12))
  have HG20 := Lib.hid (show W.cell? ⟨b, o + 6, none⟩ = some (.int .i64 o2) from (hb0.cell (p := ⟨b, o + 6, none⟩) hb).trans (by simpa [Nat.add_assoc] using g20))
  have HG21 := Lib.hid (show W.cell? ⟨b, o + 7, none⟩ = some (.int .i64 m2) from (hb0.cell (p := ⟨b, o + 7, none⟩) hb).trans (by simpa [Nat.add_assoc] using g21))
  have HG22 := Lib.hid (show W.cell? ⟨b, o + 8, none⟩ = some (.slice A2 k2.len c2) from (hb0.cell (p := ⟨b, o + 8, none⟩) hb).trans (by simpa [Nat.add_assoc] using g22))
  have HBW := Lib.hid (Nat.lt_of_lt_of_le hb hb0.size)
  have HR0 := Lib.hid hr0
  have hS : ∀ w' : World, Below W.heap.size W w' → w'.cell? ⟨w.heap.size, 0, none⟩ = some (Value.int .i64 6) ∧ w'.cell? ⟨w.heap.size, 1, none⟩ = some (Value.int .i64 n) ∧ w'.cell? ⟨w.heap.size, 2, none⟩ = some (Value.slice (some ⟨b, o, none⟩) 3 c) ∧ w'.cell? ⟨b, o, none⟩ = some (Value.int .i64 o0) ∧ w'.cell? ⟨b, o + 1, none⟩ = some (Value.int .i64 m0) ∧ w'.cell? ⟨b, o + 2, none⟩ = some (Value.slice A0 k0.len c0) ∧ w'.cell? ⟨b, o + 3, none⟩ = some (Value.int .i64 o1) ∧ w'.cell? ⟨b, o + 4, none⟩ = some (Value.int .i64 m1) ∧ w'.cell? ⟨b, o + 5, none⟩ = some (Value.slice A1 k1.len c1) ∧ w'.cell? ⟨b, o + 6, none⟩ = some (Value.int .i64 o2) ∧ w'.cell? ⟨b, o + 7, none⟩ = some (Value.int .i64 m2) ∧ w'.cell? ⟨b, o + 8, none⟩ = some (Value.slice A2 k2.len c2) := fun w' hb => ⟨(hb.cell (p := ⟨w.heap.size, 0, none⟩) HR0.out.size).trans (HR0.out.cell (i := 0) rfl), (hb.cell (p := ⟨w.heap.size, 1, none⟩) HR0.out.size).trans (HR0.out.cell (i := 1) rfl), (hb.cell (p := ⟨w.heap.size, 2, none⟩) HR0.out.size).trans (HR0.out.cell (i := 2) rfl), (hb.cell (p := ⟨b, o, none⟩) HBW.out).trans (HG00.out), (hb.cell (p := ⟨b, o + 1, none⟩) HBW.out).trans (HG01.out), (hb.cell (p := ⟨b, o + 2, none⟩) HBW.out).trans (HG02.out), (hb.cell (p := ⟨b, o + 3, none⟩) HBW.out).trans (HG10.out), (hb.cell (p := ⟨b, o + 4, none⟩) HBW.out).trans (HG11.out), (hb.cell (p := ⟨b, o + 5, none⟩) HBW.out).trans (HG12.out), (hb.cell (p := ⟨b, o + 6, none⟩) HBW.out).trans (HG20.out), (hb.cell (p := ⟨b, o + 7, none⟩) HBW.out).trans (HG21.out), (hb.cell (p := ⟨b, o + 8, none⟩) HBW.out).trans (HG22.out)⟩
  have HS := Lib.hid hS
  have HB0 := Lib.hid hb0
  have b0 : Below W.heap.size W W.drew := (Below.refl _ _).drew
  have s0 := HS.out _ b0
  have B0 := Lib.hid b0
  obtain ⟨x0, hx0⟩ : ∃ x, x = ByteArray.mk (txtN o0 m0 k0).toArray := ⟨_, rfl⟩
  have HC0 := Lib.hid (fun (w' : World) (hb' : Below W.heap.size W w') => show Calls Tryz.prog 62 #[.agg #[.int .i64 o0, .int .i64 m0, .slice A0 k0.len c0]] w' (Gives (.string x0) w') by rw [hx0]; exact hc0 A0 c0 w' ((l0.up hb0).up hb'))
  have hy0 : x0.size ≤ 7000000 := by rw [hx0]; exact text_size _ _ _ hz0
  obtain ⟨x1, hx1⟩ : ∃ x, x = ByteArray.mk (txtN o1 m1 k1).toArray := ⟨_, rfl⟩
  have HC1 := Lib.hid (fun (w' : World) (hb' : Below W.heap.size W w') => show Calls Tryz.prog 62 #[.agg #[.int .i64 o1, .int .i64 m1, .slice A1 k1.len c1]] w' (Gives (.string x1) w') by rw [hx1]; exact hc1 A1 c1 w' ((l1.up hb0).up hb'))
  have hy1 : x1.size ≤ 7000000 := by rw [hx1]; exact text_size _ _ _ hz1
  obtain ⟨x2, hx2⟩ : ∃ x, x = ByteArray.mk (txtN o2 m2 k2).toArray := ⟨_, rfl⟩
  have HC2 := Lib.hid (fun (w' : World) (hb' : Below W.heap.size W w') => show Calls Tryz.prog 62 #[.agg #[.int .i64 o2, .int .i64 m2, .slice A2 k2.len c2]] w' (Gives (.string x2) w') by rw [hx2]; exact hc2 A2 c2 w' ((l2.up hb0).up hb'))
  have hy2 : x2.size ≤ 7000000 := by rw [hx2]; exact text_size _ _ _ hz2
  have HT := Lib.hid (show txt (txtN 6 n (.cons o0 m0 k0 (.cons o1 m1 k1 (.cons o2 m2 k2 .nil)))) = .string (ByteArray.mk #[91] ++ x0 ++ ByteArray.mk #[63] ++ x1 ++ ByteArray.mk #[58] ++ x2 ++ ByteArray.mk #[93]) by
    rw [hx0, hx1, hx2]
    show Value.string ⟨([91] ++ txtN o0 m0 k0 ++ [63] ++ txtN o1 m1 k1 ++ [58] ++ txtN o2 m2 k2 ++ [93]).toArray⟩ = _
    refine congrArg Value.string ?_
    simp only [← ByteArray.mk_append_mk]
    try rfl)
  rw [HT.out]
  clear hx0 hx1 hx2 hb0 hr0 hS b0 hb g00 g01 g02 g10 g11 g12 g20 g21 g22 l0 hc0 hz0 l1 hc1 hz1 l2 hc2 hz2
  go_enter Tryz.func62, Tryz.ntmps62
  go_upto_region 1 with fail
  rw [← hW]
  clear hW
  have q0 : W.cell? ⟨w.heap.size, 0, none⟩ = some (.int .i64 6) := HR0.out.cell (i := 0) rfl
  go_upto_region 11 with fail
  have hs1 : ¬ 9223372036854775807 < 1 + x0.size := by omega
  have hs2 : ¬ 9223372036854775807 < 1 + x0.size + 1 := by omega
  have hs3 : ¬ 9223372036854775807 < 1 + x0.size + 1 + x1.size := by omega
  have hs4 : ¬ 9223372036854775807 < 1 + x0.size + 1 + x1.size + 1 := by omega
  have hs5 : ¬ 9223372036854775807 < 1 + x0.size + 1 + x1.size + 1 + x2.size := by omega
  have hs6 : ¬ 9223372036854775807 < 1 + x0.size + 1 + x1.size + 1 + x2.size + 1 := by omega
  clear q0
  go_region_held3 (fun w' => w'.cell? ⟨w.heap.size, 0, none⟩ = some (Value.int .i64 6) ∧ w'.cell? ⟨w.heap.size, 1, none⟩ = some (Value.int .i64 n) ∧ w'.cell? ⟨w.heap.size, 2, none⟩ = some (Value.slice (some ⟨b, o, none⟩) 3 c) ∧ w'.cell? ⟨b, o, none⟩ = some (Value.int .i64 o0) ∧ w'.cell? ⟨b, o + 1, none⟩ = some (Value.int .i64 m0) ∧ w'.cell? ⟨b, o + 2, none⟩ = some (Value.slice A0 k0.len c0) ∧ w'.cell? ⟨b, o + 3, none⟩ = some (Value.int .i64 o1) ∧ w'.cell? ⟨b, o + 4, none⟩ = some (Value.int .i64 m1) ∧ w'.cell? ⟨b, o + 5, none⟩ = some (Value.slice A1 k1.len c1) ∧ w'.cell? ⟨b, o + 6, none⟩ = some (Value.int .i64 o2) ∧ w'.cell? ⟨b, o + 7, none⟩ = some (Value.int .i64 m2) ∧ w'.cell? ⟨b, o + 8, none⟩ = some (Value.slice A2 k2.len c2))
    (first | with_reducible exact s0 | with_reducible exact s1 | with_reducible exact s2 | with_reducible exact s3 | with_reducible exact s4 | fail)
    (first
      | (go_at_call 62
         with_reducible refine (HC2.out _ B2.out).mono ?_
         rintro e w3 ⟨rfl, hb3⟩
         have b3 := B2.out.trans (hb3.mono B2.out.size)
         have B3 := Lib.hid b3
         have s3 := HS.out _ b3
         clear hb3 b3)
      | (go_at_call 62
         with_reducible refine (HC1.out _ B1.out).mono ?_
         rintro e w2 ⟨rfl, hb2⟩
         have b2 := B1.out.trans (hb2.mono B1.out.size)
         have B2 := Lib.hid b2
         have s2 := HS.out _ b2
         clear hb2 b2)
      | (go_at_call 62
         with_reducible refine (HC0.out _ B0.out).mono ?_
         rintro e w1 ⟨rfl, hb1⟩
         have b1 := B0.out.trans (hb1.mono B0.out.size)
         have B1 := Lib.hid b1
         have s1 := HS.out _ b1
         clear hb1 b1)
      | fail)
  all_goals
    have HBZ := Lib.hid (HB0.out.trans (B3.out.mono HB0.out.size))
    clear s0 s1 s2 s3
    go_wp2
    go_ret
    exact ⟨rfl, HBZ.out⟩

set_option maxHeartbeats 2000000 in
theorem txt_7 (n : Int) (o0 m0 : Int) (k0 : Fo) (o1 m1 : Int) (k1 : Fo) (hz0 : k0.size ≤ 1048576) (hz1 : k1.size ≤ 1048576) (hc0 : TxtC o0 m0 k0) (hc1 : TxtC o1 m1 k1) (hn : 0 ≤ n ∧ n < 26) : TxtC 7 n (.cons o0 m0 k0 (.cons o1 m1 k1 .nil)) := by
  intro A c w hl
  obtain ⟨⟨b, o, A0, c0, hA, _, hb, _, _, g00, g01, g02, _, _, l0⟩, hl⟩ := hl
  subst hA
  obtain ⟨⟨b1, o1', A1, c1, hA1, _, _, _, _, g10, g11, g12, _, _, l1⟩, hl⟩ := hl
  injection hA1 with hA1; injection hA1 with hx1 hy1; subst hx1 hy1
  clear hl
  show Calls Tryz.prog 62 #[.agg #[.int .i64 7, .int .i64 n, .slice (some ⟨b, o, none⟩) 2 c]] w (Gives (txt (txtN 7 n (.cons o0 m0 k0 (.cons o1 m1 k1 .nil)))) w)
  obtain ⟨W, hW⟩ : ∃ W, W = w.alloc (Obj.cells #[.int .i64 7, .int .i64 n, .slice (some ⟨b, o, none⟩) 2 c] 36) := ⟨_, rfl⟩
  have hb0 : Below w.heap.size w W := by rw [hW]; exact (Below.refl _ _).alloc (Nat.le_refl _) _
  have hr0 : Row W w.heap.size 36 #[.int .i64 7, .int .i64 n, .slice (some ⟨b, o, none⟩) 2 c] := by rw [hW]; exact Row.fresh _ _ _
  have HG00 := Lib.hid (show W.cell? ⟨b, o, none⟩ = some (.int .i64 o0) from (hb0.cell (p := ⟨b, o, none⟩) hb).trans (by simpa [Nat.add_assoc] using g00))
  have HG01 := Lib.hid (show W.cell? ⟨b, o + 1, none⟩ = some (.int .i64 m0) from (hb0.cell (p := ⟨b, o + 1, none⟩) hb).trans (by simpa [Nat.add_assoc] using g01))
  have HG02 := Lib.hid (show W.cell? ⟨b, o + 2, none⟩ = some (.slice A0 k0.len c0) from (hb0.cell (p := ⟨b, o + 2, none⟩) hb).trans (by simpa [Nat.add_assoc] using g02))
  have HG10 := Lib.hid (show W.cell? ⟨b, o + 3, none⟩ = some (.int .i64 o1) from (hb0.cell (p := ⟨b, o + 3, none⟩) hb).trans (by simpa [Nat.add_assoc] using g10))
  have HG11 := Lib.hid (show W.cell? ⟨b, o + 4, none⟩ = some (.int .i64 m1) from (hb0.cell (p := ⟨b, o + 4, none⟩) hb).trans (by simpa [Nat.add_assoc] using g11))
  have HG12 := Lib.hid (show W.cell? ⟨b, o + 5, none⟩ = some (.slice A1 k1.len c1) from (hb0.cell (p := ⟨b, o + 5, none⟩) hb).trans (by simpa [Nat.add_assoc] using g12))
  have HBW := Lib.hid (Nat.lt_of_lt_of_le hb hb0.size)
  have HR0 := Lib.hid hr0
  have hS : ∀ w' : World, Below W.heap.size W w' → w'.cell? ⟨w.heap.size, 0, none⟩ = some (Value.int .i64 7) ∧ w'.cell? ⟨w.heap.size, 1, none⟩ = some (Value.int .i64 n) ∧ w'.cell? ⟨w.heap.size, 2, none⟩ = some (Value.slice (some ⟨b, o, none⟩) 2 c) ∧ w'.cell? ⟨b, o, none⟩ = some (Value.int .i64 o0) ∧ w'.cell? ⟨b, o + 1, none⟩ = some (Value.int .i64 m0) ∧ w'.cell? ⟨b, o + 2, none⟩ = some (Value.slice A0 k0.len c0) ∧ w'.cell? ⟨b, o + 3, none⟩ = some (Value.int .i64 o1) ∧ w'.cell? ⟨b, o + 4, none⟩ = some (Value.int .i64 m1) ∧ w'.cell? ⟨b, o + 5, none⟩ = some (Value.slice A1 k1.len c1) := fun w' hb => ⟨(hb.cell (p := ⟨w.heap.size, 0, none⟩) HR0.out.size).trans (HR0.out.cell (i := 0) rfl), (hb.cell (p := ⟨w.heap.size, 1, none⟩) HR0.out.size).trans (HR0.out.cell (i := 1) rfl), (hb.cell (p := ⟨w.heap.size, 2, none⟩) HR0.out.size).trans (HR0.out.cell (i := 2) rfl), (hb.cell (p := ⟨b, o, none⟩) HBW.out).trans (HG00.out), (hb.cell (p := ⟨b, o + 1, none⟩) HBW.out).trans (HG01.out), (hb.cell (p := ⟨b, o + 2, none⟩) HBW.out).trans (HG02.out), (hb.cell (p := ⟨b, o + 3, none⟩) HBW.out).trans (HG10.out), (hb.cell (p := ⟨b, o + 4, none⟩) HBW.out).trans (HG11.out), (hb.cell (p := ⟨b, o + 5, none⟩) HBW.out).trans (HG12.out)⟩
  have HS := Lib.hid hS
  have HB0 := Lib.hid hb0
  have b0 : Below W.heap.size W W.drew := (Below.refl _ _).drew
  have s0 := HS.out _ b0
  have B0 := Lib.hid b0
  obtain ⟨x0, hx0⟩ : ∃ x, x = ByteArray.mk (txtN o0 m0 k0).toArray := ⟨_, rfl⟩
  have HC0 := Lib.hid (fun (w' : World) (hb' : Below W.heap.size W w') => show Calls Tryz.prog 62 #[.agg #[.int .i64 o0, .int .i64 m0, .slice A0 k0.len c0]] w' (Gives (.string x0) w') by rw [hx0]; exact hc0 A0 c0 w' ((l0.up hb0).up hb'))
  have hy0 : x0.size ≤ 7000000 := by rw [hx0]; exact text_size _ _ _ hz0
  obtain ⟨x1, hx1⟩ : ∃ x, x = ByteArray.mk (txtN o1 m1 k1).toArray := ⟨_, rfl⟩
  have HC1 := Lib.hid (fun (w' : World) (hb' : Below W.heap.size W w') => show Calls Tryz.prog 62 #[.agg #[.int .i64 o1, .int .i64 m1, .slice A1 k1.len c1]] w' (Gives (.string x1) w') by rw [hx1]; exact hc1 A1 c1 w' ((l1.up hb0).up hb'))
  have hy1 : x1.size ≤ 7000000 := by rw [hx1]; exact text_size _ _ _ hz1
  obtain ⟨y, hy⟩ : ∃ y, y = UInt8.ofNat (97 + n.toNat) := ⟨_, rfl⟩
  have HCL := Lib.hid (show ∀ w', Calls Tryz.prog 80 #[.int .u8 97, .int .i64 n] w' (Gives (.string ⟨#[y]⟩) w') from fun w' => l1Letter_any y 97 n (by decide) hn.1 (by rw [hy, UInt8.toNat_ofNat', Nat.mod_eq_of_lt (by omega)]; omega) w')
  have HT := Lib.hid (show txt (txtN 7 n (.cons o0 m0 k0 (.cons o1 m1 k1 .nil))) = .string (ByteArray.mk #[123] ++ ByteArray.mk #[y] ++ ByteArray.mk #[61] ++ x0 ++ ByteArray.mk #[59] ++ x1 ++ ByteArray.mk #[125]) by
    rw [hx0, hx1, hy]
    show Value.string ⟨([123] ++ letL 97 n ++ [61] ++ txtN o0 m0 k0 ++ [59] ++ txtN o1 m1 k1 ++ [125]).toArray⟩ = _
    refine congrArg Value.string ?_
    simp only [← ByteArray.mk_append_mk]
    try rfl)
  rw [HT.out]
  clear hx0 hx1 hb0 hr0 hS b0 hb g00 g01 g02 g10 g11 g12 l0 hc0 hz0 l1 hc1 hz1 hy hn
  go_enter Tryz.func62, Tryz.ntmps62
  go_upto_region 1 with fail
  rw [← hW]
  clear hW
  have q0 : W.cell? ⟨w.heap.size, 0, none⟩ = some (.int .i64 7) := HR0.out.cell (i := 0) rfl
  go_upto_region 13 with fail
  have hs3 : ¬ 9223372036854775807 < 3 + x0.size := by omega
  have hs4 : ¬ 9223372036854775807 < 3 + x0.size + 1 := by omega
  have hs5 : ¬ 9223372036854775807 < 3 + x0.size + 1 + x1.size := by omega
  have hs6 : ¬ 9223372036854775807 < 3 + x0.size + 1 + x1.size + 1 := by omega
  clear q0
  go_region_held3 (fun w' => w'.cell? ⟨w.heap.size, 0, none⟩ = some (Value.int .i64 7) ∧ w'.cell? ⟨w.heap.size, 1, none⟩ = some (Value.int .i64 n) ∧ w'.cell? ⟨w.heap.size, 2, none⟩ = some (Value.slice (some ⟨b, o, none⟩) 2 c) ∧ w'.cell? ⟨b, o, none⟩ = some (Value.int .i64 o0) ∧ w'.cell? ⟨b, o + 1, none⟩ = some (Value.int .i64 m0) ∧ w'.cell? ⟨b, o + 2, none⟩ = some (Value.slice A0 k0.len c0) ∧ w'.cell? ⟨b, o + 3, none⟩ = some (Value.int .i64 o1) ∧ w'.cell? ⟨b, o + 4, none⟩ = some (Value.int .i64 m1) ∧ w'.cell? ⟨b, o + 5, none⟩ = some (Value.slice A1 k1.len c1))
    (first | with_reducible exact s0 | with_reducible exact s1 | with_reducible exact s2 | with_reducible exact s3 | fail)
    (first
      | (go_at_call 62
         with_reducible refine (HC1.out _ B2.out).mono ?_
         rintro e w3 ⟨rfl, hb3⟩
         have b3 := B2.out.trans (hb3.mono B2.out.size)
         have B3 := Lib.hid b3
         have s3 := HS.out _ b3
         clear hb3 b3)
      | (go_at_call 62
         with_reducible refine (HC0.out _ B1.out).mono ?_
         rintro e w2 ⟨rfl, hb2⟩
         have b2 := B1.out.trans (hb2.mono B1.out.size)
         have B2 := Lib.hid b2
         have s2 := HS.out _ b2
         clear hb2 b2)
      | (go_at_call 80
         with_reducible refine (HCL.out _).mono ?_
         rintro e w1 ⟨rfl, hb1⟩
         have b1 := B0.out.trans (hb1.mono B0.out.size)
         have B1 := Lib.hid b1
         have s1 := HS.out _ b1
         clear hb1 b1)
      | fail)
  all_goals
    have HBZ := Lib.hid (HB0.out.trans (B3.out.mono HB0.out.size))
    clear s0 s1 s2 s3
    go_wp2
    go_ret
    exact ⟨rfl, HBZ.out⟩

set_option maxHeartbeats 2000000 in
theorem txt_8 (n : Int) (o0 m0 : Int) (k0 : Fo) (o1 m1 : Int) (k1 : Fo) (hz0 : k0.size ≤ 1048576) (hz1 : k1.size ≤ 1048576) (hc0 : TxtC o0 m0 k0) (hc1 : TxtC o1 m1 k1) : TxtC 8 n (.cons o0 m0 k0 (.cons o1 m1 k1 .nil)) := by
  intro A c w hl
  obtain ⟨⟨b, o, A0, c0, hA, _, hb, _, _, g00, g01, g02, _, _, l0⟩, hl⟩ := hl
  subst hA
  obtain ⟨⟨b1, o1', A1, c1, hA1, _, _, _, _, g10, g11, g12, _, _, l1⟩, hl⟩ := hl
  injection hA1 with hA1; injection hA1 with hx1 hy1; subst hx1 hy1
  clear hl
  show Calls Tryz.prog 62 #[.agg #[.int .i64 8, .int .i64 n, .slice (some ⟨b, o, none⟩) 2 c]] w (Gives (txt (txtN 8 n (.cons o0 m0 k0 (.cons o1 m1 k1 .nil)))) w)
  obtain ⟨W, hW⟩ : ∃ W, W = w.alloc (Obj.cells #[.int .i64 8, .int .i64 n, .slice (some ⟨b, o, none⟩) 2 c] 36) := ⟨_, rfl⟩
  have hb0 : Below w.heap.size w W := by rw [hW]; exact (Below.refl _ _).alloc (Nat.le_refl _) _
  have hr0 : Row W w.heap.size 36 #[.int .i64 8, .int .i64 n, .slice (some ⟨b, o, none⟩) 2 c] := by rw [hW]; exact Row.fresh _ _ _
  have HG00 := Lib.hid (show W.cell? ⟨b, o, none⟩ = some (.int .i64 o0) from (hb0.cell (p := ⟨b, o, none⟩) hb).trans (by simpa [Nat.add_assoc] using g00))
  have HG01 := Lib.hid (show W.cell? ⟨b, o + 1, none⟩ = some (.int .i64 m0) from (hb0.cell (p := ⟨b, o + 1, none⟩) hb).trans (by simpa [Nat.add_assoc] using g01))
  have HG02 := Lib.hid (show W.cell? ⟨b, o + 2, none⟩ = some (.slice A0 k0.len c0) from (hb0.cell (p := ⟨b, o + 2, none⟩) hb).trans (by simpa [Nat.add_assoc] using g02))
  have HG10 := Lib.hid (show W.cell? ⟨b, o + 3, none⟩ = some (.int .i64 o1) from (hb0.cell (p := ⟨b, o + 3, none⟩) hb).trans (by simpa [Nat.add_assoc] using g10))
  have HG11 := Lib.hid (show W.cell? ⟨b, o + 4, none⟩ = some (.int .i64 m1) from (hb0.cell (p := ⟨b, o + 4, none⟩) hb).trans (by simpa [Nat.add_assoc] using g11))
  have HG12 := Lib.hid (show W.cell? ⟨b, o + 5, none⟩ = some (.slice A1 k1.len c1) from (hb0.cell (p := ⟨b, o + 5, none⟩) hb).trans (by simpa [Nat.add_assoc] using g12))
  have HBW := Lib.hid (Nat.lt_of_lt_of_le hb hb0.size)
  have HR0 := Lib.hid hr0
  have hS : ∀ w' : World, Below W.heap.size W w' → w'.cell? ⟨w.heap.size, 0, none⟩ = some (Value.int .i64 8) ∧ w'.cell? ⟨w.heap.size, 1, none⟩ = some (Value.int .i64 n) ∧ w'.cell? ⟨w.heap.size, 2, none⟩ = some (Value.slice (some ⟨b, o, none⟩) 2 c) ∧ w'.cell? ⟨b, o, none⟩ = some (Value.int .i64 o0) ∧ w'.cell? ⟨b, o + 1, none⟩ = some (Value.int .i64 m0) ∧ w'.cell? ⟨b, o + 2, none⟩ = some (Value.slice A0 k0.len c0) ∧ w'.cell? ⟨b, o + 3, none⟩ = some (Value.int .i64 o1) ∧ w'.cell? ⟨b, o + 4, none⟩ = some (Value.int .i64 m1) ∧ w'.cell? ⟨b, o + 5, none⟩ = some (Value.slice A1 k1.len c1) := fun w' hb => ⟨(hb.cell (p := ⟨w.heap.size, 0, none⟩) HR0.out.size).trans (HR0.out.cell (i := 0) rfl), (hb.cell (p := ⟨w.heap.size, 1, none⟩) HR0.out.size).trans (HR0.out.cell (i := 1) rfl), (hb.cell (p := ⟨w.heap.size, 2, none⟩) HR0.out.size).trans (HR0.out.cell (i := 2) rfl), (hb.cell (p := ⟨b, o, none⟩) HBW.out).trans (HG00.out), (hb.cell (p := ⟨b, o + 1, none⟩) HBW.out).trans (HG01.out), (hb.cell (p := ⟨b, o + 2, none⟩) HBW.out).trans (HG02.out), (hb.cell (p := ⟨b, o + 3, none⟩) HBW.out).trans (HG10.out), (hb.cell (p := ⟨b, o + 4, none⟩) HBW.out).trans (HG11.out), (hb.cell (p := ⟨b, o + 5, none⟩) HBW.out).trans (HG12.out)⟩
  have HS := Lib.hid hS
  have HB0 := Lib.hid hb0
  have b0 : Below W.heap.size W W.drew := (Below.refl _ _).drew
  have s0 := HS.out _ b0
  have B0 := Lib.hid b0
  obtain ⟨x0, hx0⟩ : ∃ x, x = ByteArray.mk (txtN o0 m0 k0).toArray := ⟨_, rfl⟩
  have HC0 := Lib.hid (fun (w' : World) (hb' : Below W.heap.size W w') => show Calls Tryz.prog 62 #[.agg #[.int .i64 o0, .int .i64 m0, .slice A0 k0.len c0]] w' (Gives (.string x0) w') by rw [hx0]; exact hc0 A0 c0 w' ((l0.up hb0).up hb'))
  have hy0 : x0.size ≤ 7000000 := by rw [hx0]; exact text_size _ _ _ hz0
  obtain ⟨x1, hx1⟩ : ∃ x, x = ByteArray.mk (txtN o1 m1 k1).toArray := ⟨_, rfl⟩
  have HC1 := Lib.hid (fun (w' : World) (hb' : Below W.heap.size W w') => show Calls Tryz.prog 62 #[.agg #[.int .i64 o1, .int .i64 m1, .slice A1 k1.len c1]] w' (Gives (.string x1) w') by rw [hx1]; exact hc1 A1 c1 w' ((l1.up hb0).up hb'))
  have hy1 : x1.size ≤ 7000000 := by rw [hx1]; exact text_size _ _ _ hz1
  have HT := Lib.hid (show txt (txtN 8 n (.cons o0 m0 k0 (.cons o1 m1 k1 .nil))) = .string (ByteArray.mk #[123] ++ x0 ++ ByteArray.mk #[59] ++ x1 ++ ByteArray.mk #[125]) by
    rw [hx0, hx1]
    show Value.string ⟨([123] ++ txtN o0 m0 k0 ++ [59] ++ txtN o1 m1 k1 ++ [125]).toArray⟩ = _
    refine congrArg Value.string ?_
    simp only [← ByteArray.mk_append_mk]
    try rfl)
  rw [HT.out]
  clear hx0 hx1 hb0 hr0 hS b0 hb g00 g01 g02 g10 g11 g12 l0 hc0 hz0 l1 hc1 hz1
  go_enter Tryz.func62, Tryz.ntmps62
  go_upto_region 1 with fail
  rw [← hW]
  clear hW
  have q0 : W.cell? ⟨w.heap.size, 0, none⟩ = some (.int .i64 8) := HR0.out.cell (i := 0) rfl
  go_upto_region 15 with fail
  have hs1 : ¬ 9223372036854775807 < 1 + x0.size := by omega
  have hs2 : ¬ 9223372036854775807 < 1 + x0.size + 1 := by omega
  have hs3 : ¬ 9223372036854775807 < 1 + x0.size + 1 + x1.size := by omega
  have hs4 : ¬ 9223372036854775807 < 1 + x0.size + 1 + x1.size + 1 := by omega
  clear q0
  go_region_held3 (fun w' => w'.cell? ⟨w.heap.size, 0, none⟩ = some (Value.int .i64 8) ∧ w'.cell? ⟨w.heap.size, 1, none⟩ = some (Value.int .i64 n) ∧ w'.cell? ⟨w.heap.size, 2, none⟩ = some (Value.slice (some ⟨b, o, none⟩) 2 c) ∧ w'.cell? ⟨b, o, none⟩ = some (Value.int .i64 o0) ∧ w'.cell? ⟨b, o + 1, none⟩ = some (Value.int .i64 m0) ∧ w'.cell? ⟨b, o + 2, none⟩ = some (Value.slice A0 k0.len c0) ∧ w'.cell? ⟨b, o + 3, none⟩ = some (Value.int .i64 o1) ∧ w'.cell? ⟨b, o + 4, none⟩ = some (Value.int .i64 m1) ∧ w'.cell? ⟨b, o + 5, none⟩ = some (Value.slice A1 k1.len c1))
    (first | with_reducible exact s0 | with_reducible exact s1 | with_reducible exact s2 | with_reducible exact s3 | fail)
    (first
      | (go_at_call 62
         with_reducible refine (HC1.out _ B1.out).mono ?_
         rintro e w2 ⟨rfl, hb2⟩
         have b2 := B1.out.trans (hb2.mono B1.out.size)
         have B2 := Lib.hid b2
         have s2 := HS.out _ b2
         clear hb2 b2)
      | (go_at_call 62
         with_reducible refine (HC0.out _ B0.out).mono ?_
         rintro e w1 ⟨rfl, hb1⟩
         have b1 := B0.out.trans (hb1.mono B0.out.size)
         have B1 := Lib.hid b1
         have s1 := HS.out _ b1
         clear hb1 b1)
      | fail)
  all_goals
    have HBZ := Lib.hid (HB0.out.trans (B2.out.mono HB0.out.size))
    clear s0 s1 s2
    go_wp2
    go_ret
    exact ⟨rfl, HBZ.out⟩

set_option maxHeartbeats 2000000 in
theorem txt_9 (n : Int) (o0 m0 : Int) (k0 : Fo) (hz0 : k0.size ≤ 1048576) (hc0 : TxtC o0 m0 k0) : TxtC 9 n (.cons o0 m0 k0 .nil) := by
  intro A c w hl
  obtain ⟨⟨b, o, A0, c0, hA, _, hb, _, _, g00, g01, g02, _, _, l0⟩, hl⟩ := hl
  subst hA
  clear hl
  show Calls Tryz.prog 62 #[.agg #[.int .i64 9, .int .i64 n, .slice (some ⟨b, o, none⟩) 1 c]] w (Gives (txt (txtN 9 n (.cons o0 m0 k0 .nil))) w)
  obtain ⟨W, hW⟩ : ∃ W, W = w.alloc (Obj.cells #[.int .i64 9, .int .i64 n, .slice (some ⟨b, o, none⟩) 1 c] 36) := ⟨_, rfl⟩
  have hb0 : Below w.heap.size w W := by rw [hW]; exact (Below.refl _ _).alloc (Nat.le_refl _) _
  have hr0 : Row W w.heap.size 36 #[.int .i64 9, .int .i64 n, .slice (some ⟨b, o, none⟩) 1 c] := by rw [hW]; exact Row.fresh _ _ _
  have HG00 := Lib.hid (show W.cell? ⟨b, o, none⟩ = some (.int .i64 o0) from (hb0.cell (p := ⟨b, o, none⟩) hb).trans (by simpa [Nat.add_assoc] using g00))
  have HG01 := Lib.hid (show W.cell? ⟨b, o + 1, none⟩ = some (.int .i64 m0) from (hb0.cell (p := ⟨b, o + 1, none⟩) hb).trans (by simpa [Nat.add_assoc] using g01))
  have HG02 := Lib.hid (show W.cell? ⟨b, o + 2, none⟩ = some (.slice A0 k0.len c0) from (hb0.cell (p := ⟨b, o + 2, none⟩) hb).trans (by simpa [Nat.add_assoc] using g02))
  have HBW := Lib.hid (Nat.lt_of_lt_of_le hb hb0.size)
  have HR0 := Lib.hid hr0
  have hS : ∀ w' : World, Below W.heap.size W w' → w'.cell? ⟨w.heap.size, 0, none⟩ = some (Value.int .i64 9) ∧ w'.cell? ⟨w.heap.size, 1, none⟩ = some (Value.int .i64 n) ∧ w'.cell? ⟨w.heap.size, 2, none⟩ = some (Value.slice (some ⟨b, o, none⟩) 1 c) ∧ w'.cell? ⟨b, o, none⟩ = some (Value.int .i64 o0) ∧ w'.cell? ⟨b, o + 1, none⟩ = some (Value.int .i64 m0) ∧ w'.cell? ⟨b, o + 2, none⟩ = some (Value.slice A0 k0.len c0) := fun w' hb => ⟨(hb.cell (p := ⟨w.heap.size, 0, none⟩) HR0.out.size).trans (HR0.out.cell (i := 0) rfl), (hb.cell (p := ⟨w.heap.size, 1, none⟩) HR0.out.size).trans (HR0.out.cell (i := 1) rfl), (hb.cell (p := ⟨w.heap.size, 2, none⟩) HR0.out.size).trans (HR0.out.cell (i := 2) rfl), (hb.cell (p := ⟨b, o, none⟩) HBW.out).trans (HG00.out), (hb.cell (p := ⟨b, o + 1, none⟩) HBW.out).trans (HG01.out), (hb.cell (p := ⟨b, o + 2, none⟩) HBW.out).trans (HG02.out)⟩
  have HS := Lib.hid hS
  have HB0 := Lib.hid hb0
  have b0 : Below W.heap.size W W.drew := (Below.refl _ _).drew
  have s0 := HS.out _ b0
  have B0 := Lib.hid b0
  obtain ⟨x0, hx0⟩ : ∃ x, x = ByteArray.mk (txtN o0 m0 k0).toArray := ⟨_, rfl⟩
  have HC0 := Lib.hid (fun (w' : World) (hb' : Below W.heap.size W w') => show Calls Tryz.prog 62 #[.agg #[.int .i64 o0, .int .i64 m0, .slice A0 k0.len c0]] w' (Gives (.string x0) w') by rw [hx0]; exact hc0 A0 c0 w' ((l0.up hb0).up hb'))
  have hy0 : x0.size ≤ 7000000 := by rw [hx0]; exact text_size _ _ _ hz0
  have HT := Lib.hid (show txt (txtN 9 n (.cons o0 m0 k0 .nil)) = .string (ByteArray.mk #[33] ++ x0) by
    rw [hx0]
    show Value.string ⟨([33] ++ txtN o0 m0 k0).toArray⟩ = _
    refine congrArg Value.string ?_
    simp only [← ByteArray.mk_append_mk]
    try rfl)
  rw [HT.out]
  clear hx0 hb0 hr0 hS b0 hb g00 g01 g02 l0 hc0 hz0
  go_enter Tryz.func62, Tryz.ntmps62
  go_upto_region 1 with fail
  rw [← hW]
  clear hW
  have q0 : W.cell? ⟨w.heap.size, 0, none⟩ = some (.int .i64 9) := HR0.out.cell (i := 0) rfl
  go_upto_region 17 with fail
  have hs1 : ¬ 9223372036854775807 < 1 + x0.size := by omega
  have q2 : W.cell? ⟨w.heap.size, 2, none⟩ = some (.slice (some ⟨b, o, none⟩) 1 c) := HR0.out.cell (i := 2) rfl
  have p0 := HG00.out
  have p1 := HG01.out
  have p2 := HG02.out
  go_wp2_with fail
  refine (HC0.out _ (Below.refl _ _)).mono ?_
  rintro e w1 ⟨rfl, hb1⟩
  have HB1 := Lib.hid (HB0.out.trans (hb1.mono HB0.out.size))
  clear hb1 q0 q2 p0 p1 p2
  go_wp2
  go_ret
  exact ⟨rfl, HB1.out⟩

/-! The call: a loop over its Kids. -/
theorem commas_snoc : ∀ (ts : List (List UInt8)) (t : List UInt8), ts ≠ [] → commas (ts ++ [t]) = commas ts ++ [44] ++ t
  | [], _, h => absurd rfl h
  | [x], t, _ => rfl
  | x :: y :: r, t, _ => by
    have := commas_snoc (y :: r) t (by simp)
    simp only [List.cons_append] at this
    show x ++ [44] ++ commas (y :: (r ++ [t])) = x ++ [44] ++ commas (y :: r) ++ [44] ++ t
    rw [this]
    simp only [List.append_assoc]
theorem sum_take : ∀ (l : List Nat) (j : Nat), (l.take j).sum ≤ l.sum
  | [], j => by simp
  | a :: l, 0 => by simp
  | a :: l, j + 1 => by have := sum_take l j; simp only [List.take_succ_cons, List.sum_cons]; omega
/-- What is written of a call ahead of its j-th operand. -/
def preT (n : Int) (k : Fo) (j : Nat) : List UInt8 := letL 65 n ++ [40] ++ commas ((txtF k).take j)
theorem preT_len (n : Int) (k : Fo) (j : Nat) (h : k.size ≤ 1048576) : (preT n k j).length ≤ 7000000 := by
  have h1 := commas_len ((txtF k).take j)
  have h2 := sum_take ((txtF k).map fun t => t.length + 1) j
  have h3 := txtF_sum k
  rw [List.map_take] at h1
  simp only [preT, letL, List.length_append, List.length_cons, List.length_nil]
  omega
theorem take_at {f : Fo} {j : Nat} {op n : Int} {k : Fo} (e : f.drop j = .cons op n k (f.drop (j + 1))) : (txtF f).take (j + 1) = (txtF f).take j ++ [txtN op n k] := by
  have h := txtF_drop f j
  rw [e] at h
  have hx : (txtF f)[j]? = some (txtN op n k) := by
    have : ((txtF f).drop j)[0]? = some (txtN op n k) := by rw [← h]; rfl
    rwa [List.getElem?_drop, Nat.add_zero] at this
  rw [List.take_add_one, hx]; rfl
theorem preT_step {n : Int} {f : Fo} {j : Nat} {op m : Int} {k : Fo} (e : f.drop j = .cons op m k (f.drop (j + 1))) (hj : j < f.len) : preT n f (j + 1) = (if j = 0 then preT n f j else preT n f j ++ [44]) ++ txtN op m k := by
  unfold preT
  rw [take_at e]
  by_cases h : j = 0
  · subst h
    simp [commas]
  · have hne : (txtF f).take j ≠ [] := by
      intro h0
      have := congrArg List.length h0
      rw [List.length_take, txtF_len] at this
      simp at this
      omega
    rw [if_neg h, commas_snoc _ _ hne]
    simp only [List.append_assoc]

set_option maxHeartbeats 2000000 in
theorem txt_3 (n : Int) (k : Fo) (hz : k.size ≤ 1048576) (hn : 0 ≤ n ∧ n < 26) (hc : ∀ j o m a, k.drop j = .cons o m a (k.drop (j + 1)) → TxtC o m a) : TxtC 3 n k := by
  intro A c w hl
  have hlen := Fo.len_le_size k
  obtain ⟨W, hW⟩ : ∃ W, W = w.alloc (Obj.cells #[.int .i64 3, .int .i64 n, .slice A k.len c] 36) := ⟨_, rfl⟩
  have hb0 : Below w.heap.size w W := by rw [hW]; exact (Below.refl _ _).alloc (Nat.le_refl _) _
  have hr0 : Row W w.heap.size 36 #[.int .i64 3, .int .i64 n, .slice A k.len c] := by rw [hW]; exact Row.fresh _ _ _
  have q0 := hr0.cell (i := 0) rfl
  have q1 := hr0.cell (i := 1) rfl
  obtain ⟨y, hy⟩ : ∃ y, y = UInt8.ofNat (65 + n.toNat) := ⟨_, rfl⟩
  have HCL := Lib.hid (show Calls Tryz.prog 80 #[.int .u8 65, .int .i64 n] W (Gives (.string ⟨#[y]⟩) W) from l1Letter_any y 65 n (by decide) hn.1 (by rw [hy, UInt8.toNat_ofNat', Nat.mod_eq_of_lt (by omega)]; omega) W)
  have HP0 := Lib.hid (show Value.string (ByteArray.mk #[y] ++ ByteArray.mk #[40]) = txt (preT n k 0) by
    refine congrArg Value.string ?_
    rw [hy]
    exact (ByteArray.mk_append_mk _ _).trans (by simp [preT, letL, commas]))
  have HB0 := Lib.hid hb0
  have HR0 := Lib.hid hr0
  have HC := Lib.hid hc
  have HL := Lib.hid hl
  have HE := Lib.hid (show txtN 3 n k = preT n k k.len ++ [41] by
    unfold txtN txtOf preT
    rw [List.take_of_length_le (Nat.le_of_eq (txtF_len k))]
    rfl)
  clear hy hb0 hr0 hc hl hn
  go_enter Tryz.func62, Tryz.ntmps62
  go_upto_region 1 with fail
  rw [← hW]
  clear hW
  go_wp2_with fail
  refine HCL.out.mono ?_
  rintro e w1 ⟨rfl, hb1⟩
  have HB1 := Lib.hid (HB0.out.trans (hb1.mono HB0.out.size))
  have HR1 := Lib.hid (HR0.out.below hb1 HR0.out.size)
  clear hb1 q0 q1 HB0 HR0 HCL
  go_wp2_with fail
  rw [HP0.out]
  clear HP0
  go_loopw [3, 4] (fun v i wr => ∃ (j : Nat), j ≤ k.len ∧ i = .int .i64 (j : Int) ∧ v = txt (preT n k j) ∧ Below w.heap.size w wr ∧ Row wr w.heap.size 36 #[.int .i64 3, .int .i64 n, .slice A k.len c])
    (fun _ i _ => k.len - (intOf i).toNat)
  case atStart => exact ⟨0, by omega, rfl, rfl, HB1.out, HR1.out⟩
  case round =>
    clear HB1 HR1
    obtain ⟨j, hj, rfl, rfl, hb, hr⟩ := hrel
    have q2 := hr.cell (i := 2) rfl
    have HB := Lib.hid hb
    have HR := Lib.hid hr
    obtain ⟨s, hs⟩ : ∃ s, s = ByteArray.mk (preT n k j).toArray := ⟨_, rfl⟩
    have hsz : s.size ≤ 7000000 := by rw [hs]; exact preT_len n k j hz
    rw [show txt (preT n k j) = .string s by rw [hs]; rfl]
    by_cases hlt : j < k.len
    · obtain ⟨o1, m1, k1, e1, e2, e3⟩ := Fo.drop_of_lt k j hlt
      have hj' := (HL.out.up hb).at_ j
      rw [Nat.zero_add, e1] at hj'
      obtain ⟨⟨b, o, A', c', hA, _, hbb, _, _, g1, g2, g3, _, _, h3⟩, _⟩ := hj'
      obtain ⟨x, hx⟩ : ∃ x, x = ByteArray.mk (txtN o1 m1 k1).toArray := ⟨_, rfl⟩
      have hxz : x.size ≤ 7000000 := by rw [hx]; exact text_size _ _ _ (by omega)
      have HCK := Lib.hid (show Calls Tryz.prog 62 #[.agg #[.int .i64 o1, .int .i64 m1, .slice A' k1.len c']] wr (Gives (.string x) wr) by rw [hx]; exact HC.out j o1 m1 k1 e1 A' c' wr h3)
      have HN := Lib.hid (show txt (preT n k (j + 1)) = .string ((if j = 0 then s else s ++ ByteArray.mk #[44]) ++ x) by
        rw [preT_step e1 hlt, hs, hx]
        refine congrArg Value.string ?_
        split
        · exact (ByteArray.mk_append_mk _ _).symm
        · exact ((congrArg (· ++ ByteArray.mk (txtN o1 m1 k1).toArray) (ByteArray.mk_append_mk (preT n k j) [44])).trans (ByteArray.mk_append_mk _ _)).symm)
      subst hA
      clear h3 e1 hs hx hb hr
      by_cases hj0 : j = 0
      · subst hj0
        simp only [Nat.zero_mul, Nat.add_zero] at g1 g2 g3
        go_wp2_with fail
        refine HCK.out.mono ?_
        rintro e w2 ⟨rfl, hb2⟩
        have HB2 := Lib.hid (HB.out.trans (hb2.mono HB.out.size))
        have HR2 := Lib.hid (HR.out.below hb2 HR.out.size)
        clear hb2 q2 g1 g2 g3 HCK HB HR
        go_wp2_with fail
        go_roundw
        case rel => exact ⟨1, hlt, rfl, HN.out.symm, HB2.out, HR2.out⟩
        case measure => simp [intOf]; omega
      · have h0 : 0 < j := by omega
        have HN2 := Lib.hid (show txt (preT n k (j + 1)) = .string (s ++ ByteArray.mk #[44] ++ x) by rw [HN.out, if_neg hj0])
        clear HN hj0
        go_wp2_with fail
        refine HCK.out.mono ?_
        rintro e w2 ⟨rfl, hb2⟩
        have HB2 := Lib.hid (HB.out.trans (hb2.mono HB.out.size))
        have HR2 := Lib.hid (HR.out.below hb2 HR.out.size)
        clear hb2 q2 g1 g2 g3 HCK HB HR
        go_wp2_with fail
        go_roundw
        case rel => exact ⟨j + 1, hlt, by go_num, HN2.out.symm, HB2.out, HR2.out⟩
        case measure => simp [intOf]; omega
    · have e9 : j = k.len := by omega
      have HZ := Lib.hid (show txt (txtN 3 n k) = .string (s ++ ByteArray.mk #[41]) by
        rw [HE.out, hs, e9]
        exact congrArg Value.string (ByteArray.mk_append_mk _ _).symm)
      clear hs
      go_wp2_with fail
      go_ret
      exact ⟨congrArg Ending.returned HZ.out.symm, HB.out⟩

set_option maxHeartbeats 1000000 in
theorem txt_1 (n : Int) (k : Fo) (hn : 0 ≤ n ∧ n ≤ 99) : TxtC 1 n k := by
  intro A c w hl
  obtain ⟨s, hs⟩ : ∃ s, s = (decL n).toArray := ⟨_, rfl⟩
  rw [show txt (txtN 1 n k) = .string ⟨s⟩ by rw [hs]; rfl]
  obtain ⟨hb0, hr0⟩ := one_box w 36 #[.int .i64 1, .int .i64 n, .slice A k.len c]
  have q0 := hr0.cell (i := 0) rfl
  have q1 := hr0.cell (i := 1) rfl
  have HB := Lib.hid hb0
  have HC := Lib.hid (show Calls Tryz.prog _ _ _ (Gives (.string ⟨s⟩) _) by rw [hs]; exact l16Dec_any n hn.1 hn.2 (w.alloc (Obj.cells #[.int .i64 1, .int .i64 n, .slice A k.len c] 36)))
  clear hb0 hr0 hl hn hs
  go_enter Tryz.func62, Tryz.ntmps62
  go_wp2_with fail
  refine HC.out.mono ?_
  rintro e w1 ⟨rfl, hb1⟩
  have HB1 := Lib.hid (HB.out.trans (hb1.mono HB.out.size))
  clear hb1 q0 q1
  go_wp2
  go_ret
  exact ⟨rfl, HB1.out⟩

set_option maxHeartbeats 1000000 in
theorem txt_2 (n : Int) (k : Fo) (hn : 0 ≤ n ∧ n < 26) : TxtC 2 n k := by
  intro A c w hl
  obtain ⟨s, hs⟩ : ∃ s, s = (letL 97 n).toArray := ⟨_, rfl⟩
  rw [show txt (txtN 2 n k) = .string ⟨s⟩ by rw [hs]; rfl]
  obtain ⟨hb0, hr0⟩ := one_box w 36 #[.int .i64 2, .int .i64 n, .slice A k.len c]
  have q0 := hr0.cell (i := 0) rfl
  have q1 := hr0.cell (i := 1) rfl
  have HB := Lib.hid hb0
  have HC := Lib.hid (show Calls Tryz.prog _ _ _ (Gives (.string ⟨s⟩) _) by rw [hs]; exact l1Letter_any (UInt8.ofNat (97 + n.toNat)) 97 n (by decide) hn.1 (by rw [UInt8.toNat_ofNat', Nat.mod_eq_of_lt (by omega)]; omega) (w.alloc (Obj.cells #[.int .i64 2, .int .i64 n, .slice A k.len c] 36)))
  clear hb0 hr0 hl hn hs
  go_enter Tryz.func62, Tryz.ntmps62
  go_wp2_with fail
  refine HC.out.mono ?_
  rintro e w1 ⟨rfl, hb1⟩
  have HB1 := Lib.hid (HB.out.trans (hb1.mono HB.out.size))
  clear hb1 q0 q1
  go_wp2
  go_ret
  exact ⟨rfl, HB1.out⟩

theorem ownTxt_cases {op n : Int} {l : Nat} (h : ownTxt op n l = true) : (op = 1 ∧ 0 ≤ n ∧ n ≤ 99) ∨ (op = 2 ∧ 0 ≤ n ∧ n < 26) ∨ (op = 3 ∧ 0 ≤ n ∧ n < 26) ∨ (op = 4 ∧ l = 2) ∨ (op = 5 ∧ l = 2) ∨ (op = 6 ∧ l = 3) ∨ (op = 7 ∧ (0 ≤ n ∧ n < 26) ∧ l = 2) ∨ (op = 8 ∧ l = 2) ∨ (op = 9 ∧ l = 1) := by
  unfold ownTxt at h
  simp only [Bool.or_eq_true, Bool.and_eq_true, decide_eq_true_eq] at h
  rcases h with (((((((h | h) | h) | h) | h) | h) | h) | h) | h
  · exact .inl ⟨h.1.1, h.1.2, h.2⟩
  · exact .inr (.inl ⟨h.1.1, h.1.2, h.2⟩)
  · exact .inr (.inr (.inl ⟨h.1.1, h.1.2, h.2⟩))
  · exact .inr (.inr (.inr (.inl h)))
  · exact .inr (.inr (.inr (.inr (.inl h))))
  · exact .inr (.inr (.inr (.inr (.inr (.inl h)))))
  · exact .inr (.inr (.inr (.inr (.inr (.inr (.inl ⟨h.1.1.1, ⟨h.1.1.2, h.1.2⟩, h.2⟩))))))
  · exact .inr (.inr (.inr (.inr (.inr (.inr (.inr (.inl h)))))))
  · exact .inr (.inr (.inr (.inr (.inr (.inr (.inr (.inr h)))))))

theorem l1Text_at (m : Nat) : ∀ (op n : Int) (k : Fo), k.size = m → k.size ≤ 1048576 → okT op n k = true → TxtC op n k := by
  induction m using Nat.strongRecOn with
  | _ m ih =>
    intro op n k hm hz hok
    unfold okT at hok
    rw [Bool.and_eq_true] at hok
    obtain ⟨hown, hkids⟩ := hok
    have kid : ∀ o m' a, okT o m' a = true → a.size < k.size → TxtC o m' a := fun o m' a h1 h2 => ih a.size (by omega) o m' a rfl (by omega) h1
    rcases ownTxt_cases hown with h | h | h | h | h | h | h | h | h
    · obtain ⟨rfl, h⟩ := h; exact txt_1 n k h
    · obtain ⟨rfl, h⟩ := h; exact txt_2 n k h
    · obtain ⟨rfl, h⟩ := h
      refine txt_3 n k hz h fun j o m' a e => ?_
      have h1 := okF_at hkids e
      refine kid o m' a h1 ?_
      have hlt : j < k.len := by
        rcases Nat.lt_or_ge j k.len with h | h
        · exact h
        · have : ∀ (f : Fo) (i : Nat), f.len ≤ i → f.drop i = .nil := fun f => by
            induction f with
            | nil => intro i _; exact Fo.drop_nil i
            | cons _ _ _ r _ ih2 =>
              intro i hi
              cases i with
              | zero => simp [Fo.len] at hi
              | succ i => exact ih2 i (by simpa [Fo.len] using hi)
          rw [this k j h] at e
          cases e
      obtain ⟨o2, m2, k2, f1, f2, f3⟩ := Fo.drop_of_lt k j hlt
      rw [e] at f1
      injection f1 with _ _ f4 _
      rw [f4]
      exact f2
    · obtain ⟨rfl, hl⟩ := h
      obtain ⟨o, p, a, q, r, b, rfl⟩ := len_two hl
      simp only [okF, Bool.and_true, Bool.and_eq_true] at hkids
      simp only [Fo.size] at hz hm kid
      exact txt_4 n o p a q r b (by omega) (by omega) (kid o p a (by unfold okT; rw [hkids.1.1, hkids.1.2]; rfl) (by omega)) (kid q r b (by unfold okT; rw [hkids.2.1, hkids.2.2]; rfl) (by omega))
    · obtain ⟨rfl, hl⟩ := h
      obtain ⟨o, p, a, q, r, b, rfl⟩ := len_two hl
      simp only [okF, Bool.and_true, Bool.and_eq_true] at hkids
      simp only [Fo.size] at hz hm kid
      exact txt_5 n o p a q r b (by omega) (by omega) (kid o p a (by unfold okT; rw [hkids.1.1, hkids.1.2]; rfl) (by omega)) (kid q r b (by unfold okT; rw [hkids.2.1, hkids.2.2]; rfl) (by omega))
    · obtain ⟨rfl, hl⟩ := h
      obtain ⟨o, p, a, q, r, b, s, t, d, rfl⟩ := len_three hl
      simp only [okF, Bool.and_true, Bool.and_eq_true] at hkids
      simp only [Fo.size] at hz hm kid
      exact txt_6 n o p a q r b s t d (by omega) (by omega) (by omega) (kid o p a (by unfold okT; rw [hkids.1.1, hkids.1.2]; rfl) (by omega)) (kid q r b (by unfold okT; rw [hkids.2.1.1, hkids.2.1.2]; rfl) (by omega)) (kid s t d (by unfold okT; rw [hkids.2.2.1, hkids.2.2.2]; rfl) (by omega))
    · obtain ⟨rfl, hn, hl⟩ := h
      obtain ⟨o, p, a, q, r, b, rfl⟩ := len_two hl
      simp only [okF, Bool.and_true, Bool.and_eq_true] at hkids
      simp only [Fo.size] at hz hm kid
      exact txt_7 n o p a q r b (by omega) (by omega) (kid o p a (by unfold okT; rw [hkids.1.1, hkids.1.2]; rfl) (by omega)) (kid q r b (by unfold okT; rw [hkids.2.1, hkids.2.2]; rfl) (by omega)) hn
    · obtain ⟨rfl, hl⟩ := h
      obtain ⟨o, p, a, q, r, b, rfl⟩ := len_two hl
      simp only [okF, Bool.and_true, Bool.and_eq_true] at hkids
      simp only [Fo.size] at hz hm kid
      exact txt_8 n o p a q r b (by omega) (by omega) (kid o p a (by unfold okT; rw [hkids.1.1, hkids.1.2]; rfl) (by omega)) (kid q r b (by unfold okT; rw [hkids.2.1, hkids.2.2]; rfl) (by omega))
    · obtain ⟨rfl, hl⟩ := h
      obtain ⟨o, p, a, rfl⟩ := len_one hl
      simp only [okF, Bool.and_true, Bool.and_eq_true] at hkids
      simp only [Fo.size] at hz hm kid
      exact txt_9 n o p a (by omega) (kid o p a (by unfold okT; rw [hkids.1, hkids.2]; rfl) (by omega))

theorem l1Text_any (op n : Int) (k : Fo) (A : Option Addr) (c : Nat) (w : World) (hl : Lies w 0 w.heap.size A 0 k) (hz : k.size ≤ 1048576) (hok : okT op n k = true) :
    Calls Tryz.prog 62 #[.agg #[.int .i64 op, .int .i64 n, .slice A k.len c]] w (Gives (txt (txtN op n k)) w) := l1Text_at k.size op n k rfl hz hok A c w hl
end Go.Proofs.YtpknegneogdmfaaGreat
