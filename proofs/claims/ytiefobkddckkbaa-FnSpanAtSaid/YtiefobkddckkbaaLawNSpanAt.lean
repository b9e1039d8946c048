/-
  The walk of the law FnSpanAt: true at every input (made by gen_nsp.py).
-/
import Derived.Test.YtiefobkddckkbaaDrawSA
import Derived.Test.YtiefobkddckkbaaSpanI
import Derived.Test.YtiefobkddckkbaaSpanE
namespace Go.Proofs.Ytiefobkddckkbaa
open Go.RowKit Go.Shelf
set_option maxRecDepth 100000

/-- What the law says of a part. -/
theorem span_law {p : Nd} {zs : List Int} (h : spanOk p zs = true) : ∃ x, partN p zs = some x ∧ nodeIs p.op p.n p.k (firstS 8) = true ∧ nodeIs x.op x.n x.k (firstS 8) = true ∧ spanA p zs < spanZ p zs ∧ spanZ p zs ≤ (txtN p.op p.n p.k).length ∧
    (ByteArray.mk (txtN p.op p.n p.k).toArray).extract (spanA p zs) (spanZ p zs) = ⟨(txtN x.op x.n x.k).toArray⟩ := by
  have h1 := h
  unfold spanOk at h1
  obtain ⟨h2, h3⟩ := Bool.and_eq_true_iff.1 h1
  obtain ⟨x, hx⟩ := Option.isSome_iff_exists.1 h2
  obtain ⟨a, post, h4, h5⟩ := span_text zs p x h3 hx
  have hne := txtN_ne x.op x.n x.k
  have hpos : 0 < (txtN x.op x.n x.k).length := List.length_pos_iff.2 hne
  refine ⟨x, hx, h3, part_is8 zs p x h3 hx, ?_, ?_, ?_⟩
  · rw [spanA_yes h, spanZ_yes h hx]; omega
  · rw [spanZ_yes h hx]; exact span_fits h3 hx
  · rw [spanA_yes h, spanZ_yes h hx, ByteArray.extract_mk, h4, ← h5, List.append_assoc, List.drop_left, Nat.add_sub_cancel_left, List.take_left]

set_option maxHeartbeats 4000000 in
theorem law_NSpanAt (bs : List Nat) (A : Option Addr) (c : Nat) (w : World) (hl : LiesY w 0 w.heap.size A bs) (hlc : bs.length ≤ c) (hc : c ≤ maxLen) :
    Calls Try.prog 4 #[.slice A bs.length c] w (Gives (.bool true) w) := by
  have HC := Lib.hid (drawSpanAt_any A c bs w hl hlc hc)
  unfold maxLen at hc
  by_cases hsz : bs.length ≤ 1048576
  rotate_left
  · have hgt : 1048576 < bs.length := by omega
    clear hl
    go_enter Try.func4, Try.ntmps4
    go_wp2_with fail
    go_ret
    exact ⟨rfl, Below.refl _ _⟩
  clear hl
  go_enter Try.func4, Try.ntmps4
  go_wp2_with fail
  refine HC.out.mono ?_
  rintro e w1 ⟨op, n, k, X, cx, zs, A2, c2, rfl, ⟨bl, hi, ht, hs⟩, hz, hm1, hm2, hm3, hb⟩
  obtain ⟨_, _, hX, hk1, hk2⟩ := ht.slice
  injection hX with hX1 hX2 hX3
  subst hX3
  obtain ⟨W, hW⟩ : ∃ W, W = w1.alloc (Obj.cells #[.int .i64 op, .int .i64 n, .slice X k.len cx] 33) := ⟨_, rfl⟩
  have hbW : Below w1.heap.size w1 W := by rw [hW]; exact (Below.refl _ _).alloc (Nat.le_refl _) _
  have hx : Row W w1.heap.size 33 #[.int .i64 op, .int .i64 n, .slice X k.len cx] := by rw [hW]; exact Row.fresh _ _ _
  have HH := Lib.hid ((ht.held).up hbW)
  have HZ := Lib.hid (show LiesI W 0 W.heap.size A2 zs from LiesI.up (hz.keep (Nat.zero_le _) (Nat.le_refl _) fun _ _ _ => rfl) hbW)
  have FE := Lib.hid (show ∀ U, Below W.heap.size W U → U.cell? ⟨w1.heap.size, 0, none⟩ = some (.int .i64 op) ∧ U.cell? ⟨w1.heap.size, 1, none⟩ = some (.int .i64 n) ∧ U.cell? ⟨w1.heap.size, 2, none⟩ = some (.slice X k.len cx) from fun U hU => by
    have h1 := hx.below hU hx.size
    exact ⟨h1.cell rfl, h1.cell rfl, h1.cell rfl⟩)
  have HB := Lib.hid (show ∀ U, Below W.heap.size W U → Below w.heap.size w U from fun U hU => (hb.trans (hbW.mono hb.size)).trans (hU.mono (hb.trans (hbW.mono hb.size)).size))
  have HI := Lib.hid hi
  obtain ⟨a, ha⟩ : ∃ z, z = spanA ⟨op, n, k⟩ zs := ⟨_, rfl⟩
  obtain ⟨z, hzz⟩ : ∃ y, y = spanZ ⟨op, n, k⟩ zs := ⟨_, rfl⟩
  obtain ⟨ok, hok⟩ : ∃ b, b = spanOk ⟨op, n, k⟩ zs := ⟨_, rfl⟩
  have HIMF := Lib.hid (show ∀ (zs' : List Int) (c' : Nat) w', Below W.heap.size W w' → LiesI w' 0 w'.heap.size A2 zs' → zs'.length ≤ 1048576 → Calls Try.prog 10 #[.agg #[.int .i64 op, .int .i64 n, .slice X k.len cx], .slice A2 zs'.length c'] w' (SpanPost (spanA ⟨op, n, k⟩ zs') (spanZ ⟨op, n, k⟩ zs') (spanOk ⟨op, n, k⟩ zs') w') from fun zs' c' w' hb' hz' hl' =>
    implSpan_r op n k X cx zs' A2 c' w' (HH.out.up hb').1 hk1 hk2 hz' hl' HI.out)
  have HIM := Lib.hid (HIMF.out zs c2 W (Below.refl _ _) HZ.out hm3)
  have HSP := Lib.hid (show ∀ w' : World, Below W.heap.size W w' → Calls Try.prog 7 #[.agg #[.int .i64 op, .int .i64 n, .slice X k.len cx], .slice A2 zs.length c2] w' (SpanPost a z ok w') from fun w' hb' => by rw [ha, hzz, hok]; exact specSpan_any op n k X cx zs A2 c2 w' (HH.out.up hb').1 (Nat.le_trans hk1 hk2) (HZ.out.up hb') hm3 (by omega) HI.out)
  rw [← ha, ← hzz, ← hok] at HIM
  have HA := Lib.hid ha
  have HZZ := Lib.hid hzz
  have HOK := Lib.hid hok
  have hks : k.size ≤ 1048576 := by omega
  have hkm : k.len ≤ maxLen := Nat.le_trans hk1 hk2
  clear hb hbW ht hX1 hX2 HC hi hz hx ha hzz hok hs
  go_upto_region 4 with fail
  rw [← hW]
  clear hW
  obtain ⟨q0, q1, q2⟩ := FE.out W (Below.refl _ _)
  go_wp2_with fail
  refine HIM.out.mono ?_
  rintro e w2 ⟨rfl, hb2⟩
  obtain ⟨W3, hW3⟩ : ∃ V, V = w2.alloc (Obj.cells #[.int .i64 (a : Int), .int .i64 (z : Int)] 28) := ⟨_, rfl⟩
  have HBW3 := Lib.hid (show Below W.heap.size W W3 by rw [hW3]; exact hb2.alloc hb2.size _)
  have HX3 := Lib.hid (show Row W3 w2.heap.size 28 #[.int .i64 (a : Int), .int .i64 (z : Int)] by rw [hW3]; exact Row.fresh _ _ _)
  clear hb2 q0 q1 q2 HIM
  go_upto_region 5 with fail
  rw [← hW3]
  clear hW3
  obtain ⟨q0, q1, q2⟩ := FE.out W3 HBW3.out
  go_wp2_with fail
  refine (HSP.out W3 HBW3.out).mono ?_
  rintro e w4 ⟨rfl, hb4⟩
  obtain ⟨W5, hW5⟩ : ∃ V, V = w4.alloc (Obj.cells #[.int .i64 (a : Int), .int .i64 (z : Int)] 28) := ⟨_, rfl⟩
  have hb45 : Below W3.heap.size W3 W5 := by rw [hW5]; exact hb4.alloc hb4.size _
  have HX5 := Lib.hid (show Row W5 w4.heap.size 28 #[.int .i64 (a : Int), .int .i64 (z : Int)] by rw [hW5]; exact Row.fresh _ _ _)
  have HX35 := Lib.hid (HX3.out.below hb45 HX3.out.size)
  have HBW5 := Lib.hid (HBW3.out.trans (hb45.mono HBW3.out.size))
  clear hb4 hb45 q0 q1 q2 HX3 HBW3 HSP
  go_upto_region 6 with fail
  rw [← hW5]
  clear hW5
  have s0 := HX35.out.cell (i := 0) rfl
  have s1 := HX35.out.cell (i := 1) rfl
  have t0 := HX5.out.cell (i := 0) rfl
  have t1 := HX5.out.cell (i := 1) rfl
  have hne : (ok != ok) = false := by simp
  cases ok with
  | false =>
    have HBW := Lib.hid (HB.out W5 HBW5.out)
    go_wp2_with fail
    go_ret
    exact ⟨rfl, HBW.out⟩
  | true =>
    obtain ⟨x, hx, hp8, hx8, hazn, hzl, hext⟩ := span_law HOK.out.symm
    rw [← HA.out, ← HZZ.out] at hazn hext
    rw [← HZZ.out] at hzl
    obtain ⟨ST, hST⟩ : ∃ S : ByteArray, S = ⟨(txtN op n k).toArray⟩ := ⟨_, rfl⟩
    obtain ⟨SX, hSX⟩ : ∃ S : ByteArray, S = ⟨(txtN x.op x.n x.k).toArray⟩ := ⟨_, rfl⟩
    have hext2 : ST.extract a z = SX := by rw [hST, hSX]; exact hext
    have hzs2 : z ≤ ST.size := by rw [hST, size_list]; exact hzl
    have HFE := Lib.hid (show ∀ V, Below W.heap.size W V → Calls Try.prog 16 #[.agg #[.int .i64 op, .int .i64 n, .slice X k.len cx]] V (Gives (.string ST) V) from fun V hV => by
      have h := implFmt_t op n k X cx V (HH.out.up hV).1 hkm
      unfold fmtL at h
      rw [if_pos hp8, ← hST] at h
      exact h)
    have HPT := Lib.hid (show ∀ V, Below W.heap.size W V → Calls Try.prog 15 #[.agg #[.int .i64 op, .int .i64 n, .slice X k.len cx], .slice A2 zs.length c2] V (GivesN x true V) from fun V hV => by
      have h := implPart_r op n k X cx zs A2 c2 0 V.heap.size V (HH.out.up hV).1 (Nat.le_refl _) (HH.out.up hV).rows hk1 hk2 (HZ.out.up hV) hm3 hks HI.out
      rw [hx] at h
      exact h)
    have HX8 := Lib.hid hx8
    have HSX := Lib.hid hSX
    have ha0 : (0 : Int) ≤ (a : Int) := by omega
    have haz : (a : Int) < (z : Int) := by omega
    have haz2 : (a : Int) ≤ (z : Int) := by omega
    have hzs : (z : Int) ≤ (ST.size : Int) := by omega
    clear hx hp8 hx8 hazn hzl hext hST hSX
    go_upto_region 8 with fail
    clear s0 s1 t0 t1
    obtain ⟨q0, q1, q2⟩ := FE.out W5 HBW5.out
    go_wp2_with fail
    refine (HPT.out W5 HBW5.out).mono ?_
    rintro e w6 ⟨A3, c3, b3, rfl, ht3, hb6⟩
    obtain ⟨_, _, hX, k31, k32⟩ := ht3.slice
    injection hX with gX1 gX2 gX3
    subst gX3
    clear gX1 gX2 q0 q1 q2
    obtain ⟨W8, hW8⟩ : ∃ V, V = w6.alloc (Obj.cells #[.int .i64 x.op, .int .i64 x.n, .slice A3 x.k.len c3] 33) := ⟨_, rfl⟩
    have b8' : Below w6.heap.size w6 W8 := by rw [hW8]; exact (Below.refl _ _).alloc (Nat.le_refl _) _
    have hx9 : Row W8 w6.heap.size 33 #[.int .i64 x.op, .int .i64 x.n, .slice A3 x.k.len c3] := by rw [hW8]; exact Row.fresh _ _ _
    have HH8 := Lib.hid ((ht3.held).up b8')
    have hb68 := hb6.trans (b8'.mono hb6.size)
    have HR35 := Lib.hid (HX35.out.below hb68 HX35.out.size)
    have HR9 := Lib.hid hx9
    have HBW7 := Lib.hid (HBW5.out.trans (hb68.mono HBW5.out.size))
    clear ht3 hb6 b8' hx9 hb68 HX35 HX5 HPT
    go_upto_region 9 with fail
    rw [← hW8]
    clear hW8
    obtain ⟨q0, q1, q2⟩ := FE.out W8 HBW7.out
    go_wp2_with fail
    refine (HFE.out W8 HBW7.out).mono ?_
    rintro e w8 ⟨rfl, hb8⟩
    have HBW8 := Lib.hid (HBW7.out.trans (hb8.mono HBW7.out.size))
    have HRS := Lib.hid (HR35.out.below hb8 HR35.out.size)
    have HRX := Lib.hid (HR9.out.below hb8 HR9.out.size)
    have HHX := Lib.hid (HH8.out.up hb8)
    clear hb8 q0 q1 q2 HR35 HR9 HH8 HBW7
    have HG := Lib.hid (show ∀ V, Below w8.heap.size w8 V → V.cell? ⟨w2.heap.size, 0, none⟩ = some (.int .i64 (a : Int)) ∧ V.cell? ⟨w2.heap.size, 1, none⟩ = some (.int .i64 (z : Int)) ∧ V.cell? ⟨w6.heap.size, 0, none⟩ = some (.int .i64 x.op) ∧ V.cell? ⟨w6.heap.size, 1, none⟩ = some (.int .i64 x.n) ∧ V.cell? ⟨w6.heap.size, 2, none⟩ = some (.slice A3 x.k.len c3) from fun V hV => by
      have h1 := HRS.out.below hV HRS.out.size
      have h2 := HRX.out.below hV HRX.out.size
      exact ⟨h1.cell (i := 0) rfl, h1.cell (i := 1) rfl, h2.cell (i := 0) rfl, h2.cell (i := 1) rfl, h2.cell (i := 2) rfl⟩)
    have HFX := Lib.hid (show ∀ V, Below w8.heap.size w8 V → Calls Try.prog 16 #[.agg #[.int .i64 x.op, .int .i64 x.n, .slice A3 x.k.len c3]] V (Gives (.string SX) V) from fun V hV => by
      have h := implFmt_t x.op x.n x.k A3 c3 V (HHX.out.up hV).1 (Nat.le_trans k31 k32)
      unfold fmtL at h
      rw [if_pos HX8.out, ← HSX.out] at h
      exact h)
    have HB9 := Lib.hid (show Below w8.heap.size w8 w8.drew from (Below.refl _ _).drew)
    have st0 := HG.out _ HB9.out
    go_upto_region 10 with fail
    refine wp_region_held_drew (S := fun w' => w'.cell? ⟨w2.heap.size, 0, none⟩ = some (.int .i64 (a : Int)) ∧ w'.cell? ⟨w2.heap.size, 1, none⟩ = some (.int .i64 (z : Int)) ∧ w'.cell? ⟨w6.heap.size, 0, none⟩ = some (.int .i64 x.op) ∧ w'.cell? ⟨w6.heap.size, 1, none⟩ = some (.int .i64 x.n) ∧ w'.cell? ⟨w6.heap.size, 2, none⟩ = some (.slice A3 x.k.len c3)) (by kernel_rfl) st0 (fun hHeld => ?_)
    refine takeW 0 (v := ?vx1_0) rfl (by kernel_rfl) (fun _ _ _ h => h) (by rfl) (by assumption) ?yx1_0 ?rx1_0
    case yx1_0 => (intro w' hSw; (try dsimp only at hSw); go_simp; try with_reducible rfl)
    try simp only [Act.put, List.setIfInBounds_toArray, List.set_cons_zero, List.set_cons_succ, List.getElem_toArray, List.getElem_cons_zero]
    refine takeW 1 (v := ?vx1_1) rfl (by kernel_rfl) (fun _ _ _ h => h) (by rfl) (by assumption) ?yx1_1 ?rx1_1
    case yx1_1 => (intro w' hSw; (try dsimp only at hSw); go_simp; try with_reducible rfl)
    try simp only [Act.put, List.setIfInBounds_toArray, List.set_cons_zero, List.set_cons_succ, List.getElem_toArray, List.getElem_cons_succ, List.getElem_cons_zero]
    refine takeW 2 (v := ?vx1_2) rfl (by kernel_rfl) (fun _ _ _ h => h) (by rfl) (by assumption) ?yx1_2 ?rx1_2
    case yx1_2 => (intro w' hSw; (try dsimp only at hSw); go_simp; try with_reducible rfl)
    try simp only [Act.put, List.setIfInBounds_toArray, List.set_cons_zero, List.set_cons_succ, List.getElem_toArray, List.getElem_cons_succ, List.getElem_cons_zero]
    refine takeW 3 (v := ?vx1_3) rfl (by kernel_rfl) (fun _ _ _ h => h) (by rfl) (by assumption) ?yx1_3 ?rx1_3
    case yx1_3 => (intro w' hSw; (try dsimp only at hSw); go_simp; try with_reducible rfl)
    try simp only [Act.put, List.setIfInBounds_toArray, List.set_cons_zero, List.set_cons_succ, List.getElem_toArray, List.getElem_cons_succ, List.getElem_cons_zero]
    refine takeW 4 (v := .bool true) rfl (by kernel_rfl) (fun _ _ _ h => h) (by rfl) (by assumption) ?yx1_4 ?rx1_4
    case yx1_4 => (intro w' hSw; (try dsimp only at hSw); go_simp; try first | with_reducible rfl | simp [ha0])
    try simp only [Act.put, List.setIfInBounds_toArray, List.set_cons_zero, List.set_cons_succ, List.getElem_toArray, List.getElem_cons_succ, List.getElem_cons_zero]
    refine takeW 5 (v := ?vx1_5) rfl (by kernel_rfl) (fun _ _ _ h => h) (by rfl) (by assumption) ?yx1_5 ?rx1_5
    case yx1_5 => (intro w' hSw; (try dsimp only at hSw); go_simp; try with_reducible rfl)
    try simp only [Act.put, List.setIfInBounds_toArray, List.set_cons_zero, List.set_cons_succ, List.getElem_toArray, List.getElem_cons_succ, List.getElem_cons_zero]
    refine takeW 6 (v := ?vx1_6) rfl (by kernel_rfl) (fun _ _ _ h => h) (by rfl) (by assumption) ?yx1_6 ?rx1_6
    case yx1_6 => (intro w' hSw; (try dsimp only at hSw); go_simp; try with_reducible rfl)
    try simp only [Act.put, List.setIfInBounds_toArray, List.set_cons_zero, List.set_cons_succ, List.getElem_toArray, List.getElem_cons_succ, List.getElem_cons_zero]
    refine takeW 7 (v := ?vx1_7) rfl (by kernel_rfl) (fun _ _ _ h => h) (by rfl) (by assumption) ?yx1_7 ?rx1_7
    case yx1_7 => (intro w' hSw; (try dsimp only at hSw); go_simp; try with_reducible rfl)
    try simp only [Act.put, List.setIfInBounds_toArray, List.set_cons_zero, List.set_cons_succ, List.getElem_toArray, List.getElem_cons_succ, List.getElem_cons_zero]
    refine takeW 8 (v := ?vx1_8) rfl (by kernel_rfl) (fun _ _ _ h => h) (by rfl) (by assumption) ?yx1_8 ?rx1_8
    case yx1_8 => (intro w' hSw; (try dsimp only at hSw); go_simp; try with_reducible rfl)
    try simp only [Act.put, List.setIfInBounds_toArray, List.set_cons_zero, List.set_cons_succ, List.getElem_toArray, List.getElem_cons_succ, List.getElem_cons_zero]
    refine takeW 9 (v := ?vx1_9) rfl (by kernel_rfl) (fun _ _ _ h => h) (by rfl) (by assumption) ?yx1_9 ?rx1_9
    case yx1_9 => (intro w' hSw; (try dsimp only at hSw); go_simp; try with_reducible rfl)
    try simp only [Act.put, List.setIfInBounds_toArray, List.set_cons_zero, List.set_cons_succ, List.getElem_toArray, List.getElem_cons_succ, List.getElem_cons_zero]
    refine takeW 10 (v := ?vx1_10) rfl (by kernel_rfl) (fun _ _ _ h => h) (by rfl) (by assumption) ?yx1_10 ?rx1_10
    case yx1_10 => (intro w' hSw; (try dsimp only at hSw); go_simp; try with_reducible rfl)
    try simp only [Act.put, List.setIfInBounds_toArray, List.set_cons_zero, List.set_cons_succ, List.getElem_toArray, List.getElem_cons_succ, List.getElem_cons_zero]
    refine takeW 11 (v := .bool true) rfl (by kernel_rfl) (fun _ _ _ h => h) (by rfl) (by assumption) ?yx1_11 ?rx1_11
    case yx1_11 => (intro w' hSw; (try dsimp only at hSw); go_simp; try first | with_reducible rfl | simp [haz])
    try simp only [Act.put, List.setIfInBounds_toArray, List.set_cons_zero, List.set_cons_succ, List.getElem_toArray, List.getElem_cons_succ, List.getElem_cons_zero]
    refine takeW 12 (v := ?vx1_12) rfl (by kernel_rfl) (fun _ _ _ h => h) (by rfl) (by assumption) ?yx1_12 ?rx1_12
    case yx1_12 => (intro w' hSw; (try dsimp only at hSw); go_simp; try with_reducible rfl)
    try simp only [Act.put, List.setIfInBounds_toArray, List.set_cons_zero, List.set_cons_succ, List.getElem_toArray, List.getElem_cons_succ, List.getElem_cons_zero]
    refine takeW 13 (v := ?vx1_13) rfl (by kernel_rfl) (fun _ _ _ h => h) (by rfl) (by assumption) ?yx1_13 ?rx1_13
    case yx1_13 => (intro w' hSw; (try dsimp only at hSw); go_simp; try with_reducible rfl)
    try simp only [Act.put, List.setIfInBounds_toArray, List.set_cons_zero, List.set_cons_succ, List.getElem_toArray, List.getElem_cons_succ, List.getElem_cons_zero]
    refine takeW 14 (v := ?vx1_14) rfl (by kernel_rfl) (fun _ _ _ h => h) (by rfl) (by assumption) ?yx1_14 ?rx1_14
    case yx1_14 => (intro w' hSw; (try dsimp only at hSw); go_simp; try with_reducible rfl)
    try simp only [Act.put, List.setIfInBounds_toArray, List.set_cons_zero, List.set_cons_succ, List.getElem_toArray, List.getElem_cons_succ, List.getElem_cons_zero]
    refine takeW 15 (v := ?vx1_15) rfl (by kernel_rfl) (fun _ _ _ h => h) (by rfl) (by assumption) ?yx1_15 ?rx1_15
    case yx1_15 => (intro w' hSw; (try dsimp only at hSw); go_simp; try with_reducible rfl)
    try simp only [Act.put, List.setIfInBounds_toArray, List.set_cons_zero, List.set_cons_succ, List.getElem_toArray, List.getElem_cons_succ, List.getElem_cons_zero]
    refine takeW 16 (v := ?vx1_16) rfl (by kernel_rfl) (fun _ _ _ h => h) (by rfl) (by assumption) ?yx1_16 ?rx1_16
    case yx1_16 => (intro w' hSw; (try dsimp only at hSw); go_simp; try with_reducible rfl)
    try simp only [Act.put, List.setIfInBounds_toArray, List.set_cons_zero, List.set_cons_succ, List.getElem_toArray, List.getElem_cons_succ, List.getElem_cons_zero]
    refine takeW 17 (v := ?vx1_17) rfl (by kernel_rfl) (fun _ _ _ h => h) (by rfl) (by assumption) ?yx1_17 ?rx1_17
    case yx1_17 => (intro w' hSw; (try dsimp only at hSw); go_simp; try with_reducible rfl)
    try simp only [Act.put, List.setIfInBounds_toArray, List.set_cons_zero, List.set_cons_succ, List.getElem_toArray, List.getElem_cons_succ, List.getElem_cons_zero]
    refine takeW 18 (v := .bool true) rfl (by kernel_rfl) (fun _ _ _ h => h) (by rfl) (by assumption) ?yx1_18 ?rx1_18
    case yx1_18 => (intro w' hSw; (try dsimp only at hSw); go_simp; try first | with_reducible rfl | simp [hzs])
    try simp only [Act.put, List.setIfInBounds_toArray, List.set_cons_zero, List.set_cons_succ, List.getElem_toArray, List.getElem_cons_succ, List.getElem_cons_zero]
    refine takeW 19 (v := ?vx1_19) rfl (by kernel_rfl) (fun _ _ _ h => h) (by rfl) (by assumption) ?yx1_19 ?rx1_19
    case yx1_19 => (intro w' hSw; (try dsimp only at hSw); go_simp; try with_reducible rfl)
    try simp only [Act.put, List.setIfInBounds_toArray, List.set_cons_zero, List.set_cons_succ, List.getElem_toArray, List.getElem_cons_succ, List.getElem_cons_zero]
    refine takeW 20 (v := ?vx1_20) rfl (by kernel_rfl) (fun _ _ _ h => h) (by rfl) (by assumption) ?yx1_20 ?rx1_20
    case yx1_20 => (intro w' hSw; (try dsimp only at hSw); go_simp; try with_reducible rfl)
    try simp only [Act.put, List.setIfInBounds_toArray, List.set_cons_zero, List.set_cons_succ, List.getElem_toArray, List.getElem_cons_succ, List.getElem_cons_zero]
    refine takeW 21 (v := ?vx1_21) rfl (by kernel_rfl) (fun _ _ _ h => h) (by rfl) (by assumption) ?yx1_21 ?rx1_21
    case yx1_21 => (intro w' hSw; (try dsimp only at hSw); go_simp; try with_reducible rfl)
    try simp only [Act.put, List.setIfInBounds_toArray, List.set_cons_zero, List.set_cons_succ, List.getElem_toArray, List.getElem_cons_succ, List.getElem_cons_zero]
    refine takeW 22 (v := ?vx1_22) rfl (by kernel_rfl) (fun _ _ _ h => h) (by rfl) (by assumption) ?yx1_22 ?rx1_22
    case yx1_22 => (intro w' hSw; (try dsimp only at hSw); go_simp; try with_reducible rfl)
    try simp only [Act.put, List.setIfInBounds_toArray, List.set_cons_zero, List.set_cons_succ, List.getElem_toArray, List.getElem_cons_succ, List.getElem_cons_zero]
    refine takeW 23 (v := ?vx1_23) rfl (by kernel_rfl) (fun _ _ _ h => h) (by rfl) (by assumption) ?yx1_23 ?rx1_23
    case yx1_23 => (intro w' hSw; (try dsimp only at hSw); go_simp; try with_reducible rfl)
    try simp only [Act.put, List.setIfInBounds_toArray, List.set_cons_zero, List.set_cons_succ, List.getElem_toArray, List.getElem_cons_succ, List.getElem_cons_zero]
    refine takeW 24 (v := ?vx1_24) rfl (by kernel_rfl) (fun _ _ _ h => h) (by rfl) (by assumption) ?yx1_24 ?rx1_24
    case yx1_24 => (intro w' hSw; (try dsimp only at hSw); go_simp; try with_reducible rfl)
    try simp only [Act.put, List.setIfInBounds_toArray, List.set_cons_zero, List.set_cons_succ, List.getElem_toArray, List.getElem_cons_succ, List.getElem_cons_zero]
    refine takeW 25 (v := ?vx1_25) rfl (by kernel_rfl) (fun _ _ _ h => h) (by rfl) (by assumption) ?yx1_25 ?rx1_25
    case yx1_25 => (intro w' hSw; (try dsimp only at hSw); go_simp; try with_reducible rfl)
    try simp only [Act.put, List.setIfInBounds_toArray, List.set_cons_zero, List.set_cons_succ, List.getElem_toArray, List.getElem_cons_succ, List.getElem_cons_zero]
    refine takeW 26 (v := ?vx1_26) rfl (by kernel_rfl) (fun _ _ _ h => h) (by rfl) (by assumption) ?yx1_26 ?rx1_26
    case yx1_26 => (intro w' hSw; (try dsimp only at hSw); go_simp; try with_reducible rfl)
    try simp only [Act.put, List.setIfInBounds_toArray, List.set_cons_zero, List.set_cons_succ, List.getElem_toArray, List.getElem_cons_succ, List.getElem_cons_zero]
    refine takeW 27 (v := ?vx1_27) rfl (by kernel_rfl) (fun _ _ _ h => h) (by rfl) (by assumption) ?yx1_27 ?rx1_27
    case yx1_27 => (intro w' hSw; (try dsimp only at hSw); go_simp; try with_reducible rfl)
    try simp only [Act.put, List.setIfInBounds_toArray, List.set_cons_zero, List.set_cons_succ, List.getElem_toArray, List.getElem_cons_succ, List.getElem_cons_zero]
    refine wpAnyH_ready (rs := [28]) (by kernel_rfl) (by simp) ?_
    refine AllReadyH.cons rfl (fun K hK => ?_) AllReadyH.nil
    go_simp
    with_reducible refine (HFX.out _ HB9.out).mono ?_
    rintro e v9 ⟨rfl, hb9⟩
    have HBV := Lib.hid (HB9.out.trans (hb9.mono HB9.out.size))
    have st1 := HG.out _ HBV.out
    clear hb9
    refine hK.out _ _ (st1) (fun hHeldB1 => ?_)
    clear hK K
    try simp only [Act.put, List.setIfInBounds_toArray, List.set_cons_zero, List.set_cons_succ, List.getElem_toArray, List.getElem_cons_succ, List.getElem_cons_zero]
    refine takeW 29 (v := .bool true) rfl (by kernel_rfl) (fun _ _ _ h => h) (by rfl) (by assumption) ?yx2_29 ?rx2_29
    case yx2_29 => (intro w' hSw; (try dsimp only at hSw); go_simp; try first | with_reducible rfl | simp [ha0])
    try simp only [Act.put, List.setIfInBounds_toArray, List.set_cons_zero, List.set_cons_succ, List.getElem_toArray, List.getElem_cons_succ, List.getElem_cons_zero]
    refine takeW 30 (v := ?vx2_30) rfl (by kernel_rfl) (fun _ _ _ h => h) (by rfl) (by assumption) ?yx2_30 ?rx2_30
    case yx2_30 => (intro w' hSw; (try dsimp only at hSw); go_simp; try with_reducible rfl)
    try simp only [Act.put, List.setIfInBounds_toArray, List.set_cons_zero, List.set_cons_succ, List.getElem_toArray, List.getElem_cons_succ, List.getElem_cons_zero]
    refine takeW 31 (v := ?vx2_31) rfl (by kernel_rfl) (fun _ _ _ h => h) (by rfl) (by assumption) ?yx2_31 ?rx2_31
    case yx2_31 => (intro w' hSw; (try dsimp only at hSw); go_simp; try with_reducible rfl)
    try simp only [Act.put, List.setIfInBounds_toArray, List.set_cons_zero, List.set_cons_succ, List.getElem_toArray, List.getElem_cons_succ, List.getElem_cons_zero]
    refine wpAnyH_done (by kernel_rfl) ?_ _
    clear st0 st1
    have HBW := Lib.hid (HB.out v9 (HBW8.out.trans (HBV.out.mono HBW8.out.size)))
    go_wp2
    go_ret
    exact ⟨rfl, HBW.out⟩
end Go.Proofs.Ytiefobkddckkbaa
