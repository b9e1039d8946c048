/-
  The walk of the law FnPartSpan: true at every input (made by gen_nsp.py).
-/
import Derived.Test.YtiefobkddckkbaaDrawSA
import Derived.Test.YtiefobkddckkbaaSpanI
import Derived.Test.YtiefobkddckkbaaSpanE
namespace Go.Proofs.Ytiefobkddckkbaa
open Go.RowKit Go.Shelf
set_option maxRecDepth 100000

/-- A place has been laid into a variable behind the world V. -/
def LaidS (V : World) (a z : Nat) (p : Value) (wd : World) : Prop :=
  ∃ g, p = .pointer (some ⟨g, 0, none⟩) ∧ Row wd g 28 #[.int .i64 (a : Int), .int .i64 (z : Int)] ∧ V.heap.size ≤ g ∧ Below V.heap.size V wd
theorem laidS_set {V v0 vd : World} {a z : Nat} (hbp : Below V.heap.size V v0) (hr : Row v0 V.heap.size 28 #[Value.int .i64 0, Value.int .i64 0]) (hb : Below v0.heap.size v0 vd) :
    LaidS V a z (.pointer (some ⟨V.heap.size, 0, none⟩)) ((vd.setCell ⟨V.heap.size, 0, none⟩ (.int .i64 (a : Int))).setCell ⟨V.heap.size, 1, none⟩ (.int .i64 (z : Int))) :=
  ⟨V.heap.size, rfl, span_put (hr.below hb hr.size) _ _, Nat.le_refl _, ((hbp.trans (hb.mono hbp.size)).setCell (p := ⟨V.heap.size, 0, none⟩) (Nat.le_refl _) _).setCell (p := ⟨V.heap.size, 1, none⟩) (Nat.le_refl _) _⟩
theorem laidS_new {V v0 vd : World} {a z : Nat} (hbp : Below V.heap.size V v0) (hb : Below v0.heap.size v0 vd) :
    LaidS V a z (.pointer (some ⟨vd.heap.size, 0, none⟩)) (vd.alloc (Obj.cells #[Value.int .i64 (a : Int), Value.int .i64 (z : Int)] 28)) :=
  ⟨vd.heap.size, rfl, Row.fresh _ _ _, (hbp.trans (hb.mono hbp.size)).size, (hbp.trans (hb.mono hbp.size)).alloc (hbp.trans (hb.mono hbp.size)).size _⟩
/-- What the law says of a path that is not empty. -/
theorem span_in {p : Nd} {ys : List Int} {i : Int} (h : spanOk p (ys ++ [i]) = true) : spanOk p ys = true ∧ spanA p ys < spanA p (ys ++ [i]) ∧ spanZ p (ys ++ [i]) ≤ spanZ p ys := by
  have h1 := h
  unfold spanOk at h1
  obtain ⟨h2, h3⟩ := Bool.and_eq_true_iff.1 h1
  obtain ⟨x, hx⟩ := Option.isSome_iff_exists.1 h2
  obtain ⟨y, hy, h4, h5⟩ := span_within h3 hx
  have h6 : spanOk p ys = true := (spanOk_some hy).trans h3
  exact ⟨h6, by rw [spanA_yes h6, spanA_yes h]; exact h4, by rw [spanZ_yes h6 hy, spanZ_yes h hx]; exact h5⟩

set_option maxHeartbeats 4000000 in
theorem law_NPartSpan (bs : List Nat) (A : Option Addr) (c : Nat) (w : World) (hl : LiesY w 0 w.heap.size A bs) (hlc : bs.length ≤ c) (hc : c ≤ maxLen) :
    Calls Try.prog 5 #[.slice A bs.length c] w (Gives (.bool true) w) := by
  have HC := Lib.hid (drawSpanAt_any A c bs w hl hlc hc)
  unfold maxLen at hc
  by_cases hsz : bs.length ≤ 1048576
  rotate_left
  · have hgt : 1048576 < bs.length := by omega
    clear hl
    go_enter Try.func5, Try.ntmps5
    go_wp2_with fail
    go_ret
    exact ⟨rfl, Below.refl _ _⟩
  clear hl
  go_enter Try.func5, Try.ntmps5
  go_wp2_with fail
  refine HC.out.mono ?_
  rintro e w1 ⟨op, n, k, X, cx, zs, A2, c2, rfl, ⟨bl, hi, ht, hs⟩, hz, hm1, hm2, hm3, hb⟩
  obtain ⟨_, _, hX, hk1, hk2⟩ := ht.slice
  injection hX with hX1 hX2 hX3
  subst hX3
  obtain ⟨W, hW⟩ : ∃ W, W = w1.alloc (Obj.cells #[.int .i64 op, .int .i64 n, .slice X k.len cx] 33) := ⟨_, rfl⟩
  have hbW : Below w1.heap.size w1 W := by rw [hW]; exact (Below.refl _ _).alloc (Nat.le_refl _) _
  have hx : Row W w1.heap.size 33 #[.int .i64 op, .int .i64 n, .slice X k.len cx] := by rw [hW]; exact Row.fresh _ _ _
  have HH := Lib.hid ((ht.held).up hbW)
  have HZ := Lib.hid (show LiesI W 0 W.heap.size A2 zs from LiesI.up (hz.keep (Nat.zero_le _) (Nat.le_refl _) fun _ _ _ => rfl) hbW)
  have FE := Lib.hid (show ∀ U, Below W.heap.size W U → U.cell? ⟨w1.heap.size, 0, none⟩ = some (.int .i64 op) ∧ U.cell? ⟨w1.heap.size, 1, none⟩ = some (.int .i64 n) ∧ U.cell? ⟨w1.heap.size, 2, none⟩ = some (.slice X k.len cx) from fun U hU => by
    have h1 := hx.below hU hx.size
    exact ⟨h1.cell rfl, h1.cell rfl, h1.cell rfl⟩)
  have HB := Lib.hid (show ∀ U, Below W.heap.size W U → Below w.heap.size w U from fun U hU => (hb.trans (hbW.mono hb.size)).trans (hU.mono (hb.trans (hbW.mono hb.size)).size))
  have HI := Lib.hid hi
  obtain ⟨a, ha⟩ : ∃ z, z = spanA ⟨op, n, k⟩ zs := ⟨_, rfl⟩
  obtain ⟨z, hzz⟩ : ∃ y, y = spanZ ⟨op, n, k⟩ zs := ⟨_, rfl⟩
  obtain ⟨ok, hok⟩ : ∃ b, b = spanOk ⟨op, n, k⟩ zs := ⟨_, rfl⟩
  have HIMF := Lib.hid (show ∀ (zs' : List Int) (c' : Nat) w', Below W.heap.size W w' → LiesI w' 0 w'.heap.size A2 zs' → zs'.length ≤ 1048576 → Calls Try.prog 10 #[.agg #[.int .i64 op, .int .i64 n, .slice X k.len cx], .slice A2 zs'.length c'] w' (SpanPost (spanA ⟨op, n, k⟩ zs') (spanZ ⟨op, n, k⟩ zs') (spanOk ⟨op, n, k⟩ zs') w') from fun zs' c' w' hb' hz' hl' =>
    implSpan_r op n k X cx zs' A2 c' w' (HH.out.up hb').1 hk1 hk2 hz' hl' HI.out)
  have HIM := Lib.hid (HIMF.out zs c2 W (Below.refl _ _) HZ.out hm3)
  have HSP := Lib.hid (show ∀ w' : World, Below W.heap.size W w' → Calls Try.prog 7 #[.agg #[.int .i64 op, .int .i64 n, .slice X k.len cx], .slice A2 zs.length c2] w' (SpanPost a z ok w') from fun w' hb' => by rw [ha, hzz, hok]; exact specSpan_any op n k X cx zs A2 c2 w' (HH.out.up hb').1 (Nat.le_trans hk1 hk2) (HZ.out.up hb') hm3 (by omega) HI.out)
  rw [← ha, ← hzz, ← hok] at HIM
  have HA := Lib.hid ha
  have HZZ := Lib.hid hzz
  have HOK := Lib.hid hok
  have hks : k.size ≤ 1048576 := by omega
  have hkm : k.len ≤ maxLen := Nat.le_trans hk1 hk2
  clear hb hbW ht hX1 hX2 HC hi hz hx ha hzz hok hs
  go_upto_region 4 with fail
  rw [← hW]
  clear hW
  obtain ⟨q0, q1, q2⟩ := FE.out W (Below.refl _ _)
  go_wp2_with fail
  refine HIM.out.mono ?_
  rintro e w2 ⟨rfl, hb2⟩
  obtain ⟨W3, hW3⟩ : ∃ V, V = w2.alloc (Obj.cells #[.int .i64 (a : Int), .int .i64 (z : Int)] 28) := ⟨_, rfl⟩
  have HBW3 := Lib.hid (show Below W.heap.size W W3 by rw [hW3]; exact hb2.alloc hb2.size _)
  have HX3 := Lib.hid (show Row W3 w2.heap.size 28 #[.int .i64 (a : Int), .int .i64 (z : Int)] by rw [hW3]; exact Row.fresh _ _ _)
  clear hb2 q0 q1 q2 HIM
  go_upto_region 5 with fail
  rw [← hW3]
  clear hW3
  obtain ⟨q0, q1, q2⟩ := FE.out W3 HBW3.out
  go_wp2_with fail
  refine (HSP.out W3 HBW3.out).mono ?_
  rintro e w4 ⟨rfl, hb4⟩
  obtain ⟨W5, hW5⟩ : ∃ V, V = w4.alloc (Obj.cells #[.int .i64 (a : Int), .int .i64 (z : Int)] 28) := ⟨_, rfl⟩
  have hb45 : Below W3.heap.size W3 W5 := by rw [hW5]; exact hb4.alloc hb4.size _
  have HX5 := Lib.hid (show Row W5 w4.heap.size 28 #[.int .i64 (a : Int), .int .i64 (z : Int)] by rw [hW5]; exact Row.fresh _ _ _)
  have HX35 := Lib.hid (HX3.out.below hb45 HX3.out.size)
  have HBW5 := Lib.hid (HBW3.out.trans (hb45.mono HBW3.out.size))
  clear hb4 hb45 q0 q1 q2 HX3 HBW3 HSP
  go_upto_region 6 with fail
  rw [← hW5]
  clear hW5
  have s0 := HX35.out.cell (i := 0) rfl
  have s1 := HX35.out.cell (i := 1) rfl
  have t0 := HX5.out.cell (i := 0) rfl
  have t1 := HX5.out.cell (i := 1) rfl
  have hne : (ok != ok) = false := by simp
  cases ok with
  | false =>
    have HBW := Lib.hid (HB.out W5 HBW5.out)
    go_wp2_with fail
    go_ret
    exact ⟨rfl, HBW.out⟩
  | true =>
    by_cases h0 : zs.length = 0
    · have hi0 : (zs.length : Int) = 0 := by omega
      have HBW := Lib.hid (HB.out W5 HBW5.out)
      clear h0
      go_wp2_with fail
      go_ret
      exact ⟨rfl, HBW.out⟩
    · obtain ⟨ys, i, rfl⟩ : ∃ ys i, zs = ys ++ [i] := by
        rcases List.eq_nil_or_concat zs with h | ⟨ys, i, h⟩
        · exact absurd (by rw [h]; rfl) h0
        · exact ⟨ys, i, by rw [h, List.concat_eq_append]⟩
      have hz1 : (ys ++ [i]).length = ys.length + 1 := by simp
      obtain ⟨h1, h2, h3⟩ := span_in HOK.out.symm
      rw [← HA.out] at h2
      rw [← HZZ.out] at h3
      obtain ⟨bz, oz, hAz, _, _, _, _⟩ := (HZ.out.up HBW5.out) 0 ((ys ++ [i])[0]'(by simp)) (List.getElem?_eq_getElem _)
      subst hAz
      have HYS := Lib.hid (show ∀ V, Below W5.heap.size W5 V → LiesI V 0 V.heap.size (some ⟨bz, oz, none⟩) ys from fun V hV => fun j x hx => (HZ.out.up (HBW5.out.trans (hV.mono HBW5.out.size))) j x (by rw [List.getElem?_append_left (List.getElem?_eq_some_iff.1 hx).1]; exact hx))
      have HC := Lib.hid (show ∀ V, Below W5.heap.size W5 V → Calls Try.prog 10 #[.agg #[.int .i64 op, .int .i64 n, .slice X k.len cx], .slice (some ⟨bz, oz, none⟩) ys.length c2] V (SpanPost (spanA ⟨op, n, k⟩ ys) (spanZ ⟨op, n, k⟩ ys) true V) from fun V hV => by
        have h := HIMF.out ys c2 V (HBW5.out.trans (hV.mono HBW5.out.size)) (HYS.out V hV) (by omega)
        rw [h1] at h
        exact h)
      generalize spanA ⟨op, n, k⟩ ys = a2 at HC h2
      generalize spanZ ⟨op, n, k⟩ ys = z2 at HC h3
      have hl1 : (a2 : Int) < (a : Int) := by omega
      have hl2 : (z : Int) ≤ (z2 : Int) := by omega
      have hyl : ys.length ≤ 1048575 := by omega
      have hyli : (ys.length : Int) ≤ 1048575 := by omega
      have hy0 : (0 : Int) ≤ (ys.length : Int) := by omega
      have hyw : IntKind.i64.wrap (ys.length : Int) = (ys.length : Int) := Go.IntWalk.i64_in _ (by omega)
      have hyc : (ys.length : Int) ≤ (c2 : Int) := by omega
      have hyc2 : ys.length ≤ c2 := by omega
      have hnz : ¬ ((ys.length : Int) + 1 = 0) := by omega
      have HSV := Lib.hid (show ∀ V, Below W5.heap.size W5 V → V.cell? ⟨w1.heap.size, 0, none⟩ = some (.int .i64 op) ∧ V.cell? ⟨w1.heap.size, 1, none⟩ = some (.int .i64 n) ∧ V.cell? ⟨w1.heap.size, 2, none⟩ = some (.slice X k.len cx) from fun V hV => FE.out V (HBW5.out.trans (hV.mono HBW5.out.size)))
      rw [hz1]
      clear h0 h1 h2 h3 hz1
      go_upto_region 8 with fail
      clear s0 s1 t0 t1
      go_cut [9, 10] from 56 to 65 (fun p s wd => s = .bool true ∧ LaidS W5 a2 z2 p wd)
      case first =>
        have b0 : Below W5.heap.size W5 W5.drew := (Below.refl _ _).drew
        have bp : Below W5.heap.size W5 (W5.alloc (Obj.cells #[Value.int .i64 0, Value.int .i64 0] 28)).drew := ((Below.refl _ _).alloc (Nat.le_refl _) _).drew
        have C0 := Lib.hid (HC.out _ b0)
        have CP := Lib.hid (HC.out _ bp)
        have s0 := HSV.out _ b0
        have sp := HSV.out _ bp
        have B0 := Lib.hid b0
        have BP := Lib.hid bp
        have RP := Lib.hid (show Row (W5.alloc (Obj.cells #[Value.int .i64 0, Value.int .i64 0] 28)).drew W5.heap.size 28 #[Value.int .i64 0, Value.int .i64 0] from (Row.fresh _ _ _).drew)
        clear b0 bp
        go_region_held3 (fun w' => w'.cell? ⟨w1.heap.size, 0, none⟩ = some (.int .i64 op) ∧ w'.cell? ⟨w1.heap.size, 1, none⟩ = some (.int .i64 n) ∧ w'.cell? ⟨w1.heap.size, 2, none⟩ = some (.slice X k.len cx))
          (first | with_reducible exact s0 | with_reducible exact sp | with_reducible exact s3 | with_reducible exact s4 | with_reducible exact s3z | fail)
          (first
            | (go_at_call 10
               refine CP.out.mono ?_
               rintro e vd ⟨rfl, hb5⟩
               have hb := BP.out.trans (hb5.mono BP.out.size)
               have r5 := (RP.out).below hb5 ((RP.out).size)
               have f0 := r5.free 0
               have f1 := r5.free 1
               have d0 := r5.cell (i := 0) rfl
               have d1 := r5.cell (i := 1) rfl
               have hbs := (hb.setCell (p := ⟨W5.heap.size, 0, none⟩) (Nat.le_refl _) (.int .i64 (a2 : Int))).setCell (p := ⟨W5.heap.size, 1, none⟩) (Nat.le_refl _) (.int .i64 (z2 : Int))
               have s3 := HSV.out _ hb
               have s4 := HSV.out _ hbs
               have HEND := Lib.hid (laidS_set (a := a2) (z := z2) BP.out RP.out hb5)
               clear hb5 hb r5 hbs)
            | (go_at_call 10
               refine C0.out.mono ?_
               rintro e vd ⟨rfl, hb5⟩
               have hb := B0.out.trans (hb5.mono B0.out.size)
               have hba := hb.alloc hb.size (Obj.cells #[Value.int .i64 (a2 : Int), Value.int .i64 (z2 : Int)] 28)
               have s3 := HSV.out _ hb
               have s4 := HSV.out _ hba
               have s3z := HSV.out _ (hb.alloc hb.size (Obj.cells #[Value.int .i64 0, Value.int .i64 0] 28))
               have HEND := Lib.hid (laidS_new (a := a2) (z := z2) B0.out hb5)
               clear hb5 hb hba)
            | fail)
        all_goals
          go_wp2_with fail
          go_meet
          exact ⟨rfl, HEND.out⟩
      case rest =>
        obtain ⟨rfl, g9, rfl, hr9, hg9, hb9⟩ := hcut
        obtain ⟨wz, hwz⟩ : ∃ v, v = wc := ⟨_, rfl⟩
        rw [← hwz] at hr9 hb9 ⊢
        have hr35 := HX35.out.below hb9 HX35.out.size
        have s0 := hr35.cell (i := 0) rfl
        have s1 := hr35.cell (i := 1) rfl
        have u0 := hr9.cell (i := 0) rfl
        have u1 := hr9.cell (i := 1) rfl
        have HBW := Lib.hid (HB.out wz (HBW5.out.trans (hb9.mono HBW5.out.size)))
        clear hr35 hr9 hb9 hwz
        go_wp2_with fail
        go_ret
        exact ⟨rfl, HBW.out⟩
end Go.Proofs.Ytiefobkddckkbaa
