/-
  Reading a sum or a comparison: spec.l1Binary.
-/
import Derived.Test.YtiepflaghfjijaaParN
import Derived.Deep.CutRange
namespace Go.Proofs.Ytiepflaghfjijaa
open Go.RowKit
set_option maxRecDepth 100000

set_option maxHeartbeats 2000000 in
theorem l1Binary_any (s : List UInt8) (hs : s.length ≤ 1000000000000) (d : Nat) (ih : ParC s d) (i : Nat) (hi : i ≤ s.length + 3) (w : World) :
    Calls Try.prog 68 #[.string ⟨s.toArray⟩, .int .i64 (i : Int), .int .i64 (d : Int)] w (ParPost (binAt s (parseAt s d) i) w) := by
  obtain ⟨W, hW⟩ : ∃ W, W = w.alloc (Obj.cells #[.int .i64 0, .int .i64 0, .slice none 0 0] 26) := ⟨_, rfl⟩
  have hbW : Below w.heap.size w W := by rw [hW]; exact (Below.refl _ _).alloc (Nat.le_refl _) _
  have HR := Lib.hid (show Row W w.heap.size 26 #[.int .i64 0, .int .i64 0, .slice none 0 0] by rw [hW]; exact Row.fresh _ _ _)
  have HB := Lib.hid hbW
  have HZ := Lib.hid (show w.heap.size + 1 ≤ W.heap.size by rw [hW]; simp)
  have HC1 := Lib.hid (ih i W hi)
  have HIH := Lib.hid ih
  clear hbW ih
  obtain ⟨r, hr⟩ : ∃ r, r = binAt s (parseAt s d) i := ⟨_, rfl⟩
  rw [← hr]
  have HX := Lib.hid hr
  clear hr
  go_enter Try.func68, Try.ntmps68
  go_upto_region 1 with fail
  rw [← hW]
  clear hW
  go_wp2_with fail
  refine HC1.out.mono ?_
  rintro e w1 ⟨y1, A1, c1, b1, q1, rfl, hi1, ht1, hb1, hres1⟩
  obtain ⟨W1, hW1⟩ : ∃ W1, W1 = w1.alloc (Obj.cells #[.int .i64 y1.op, .int .i64 y1.n, .slice A1 y1.k.len c1] 26) := ⟨_, rfl⟩
  have hbw1 : Below w1.heap.size w1 W1 := by rw [hW1]; exact (Below.refl _ _).alloc (Nat.le_refl _) _
  have HR1 := Lib.hid ((HR.out.below hb1 HR.out.size).below hbw1 (Nat.lt_of_lt_of_le HR.out.size hb1.size))
  have HX1 := Lib.hid (show Row W1 w1.heap.size 26 #[.int .i64 y1.op, .int .i64 y1.n, .slice A1 y1.k.len c1] by rw [hW1]; exact Row.fresh _ _ _)
  have HT1 := Lib.hid (ht1.over hbw1)
  have HG1 := Lib.hid ht1.lt
  have HB1 := Lib.hid (HB.out.trans ((hb1.trans (hbw1.mono hb1.size)).mono HB.out.size))
  have HZ1 := Lib.hid (show w.heap.size + 1 ≤ W.heap.size ∧ W.heap.size ≤ w1.heap.size ∧ w1.heap.size + 1 ≤ W1.heap.size from ⟨HZ.out, hb1.size, by rw [hW1]; simp⟩)
  have HI1 := Lib.hid hi1
  have HS1 := Lib.hid hres1
  clear ht1 hb1 hbw1 hi1 hres1 HC1 HR HB HZ
  go_upto_region 4 with fail
  rw [← hW1]
  clear hW1
  -- the failing end, at a later world
  have HN := Lib.hid (fun (V : World) (hb : Below w.heap.size w V) => par_none hb (Nat.le_refl w.heap.size) zeroNd zero_i64 (Tree.none V w.heap.size) (by simp))
  cases hp1 : parseAt s d i with
  | none =>
    rw [hp1] at HS1
    have hq1 : q1 = -1 := HS1.out
    subst hq1
    have HF := Lib.hid (show r = none by rw [HX.out]; unfold binAt; rw [hp1])
    clear hp1
    go_wp2_with fail
    refine (l1At_lit s (-1) 43 43 rfl W1).mono ?_
    rintro e w9 ⟨rfl, rfl⟩
    rw [atB_none]
    go_wp2_with fail
    refine (l1At_lit s (-1) 60 60 rfl W1).mono ?_
    rintro e w9 ⟨rfl, rfl⟩
    rw [atB_none]
    obtain ⟨t0, t1, t2⟩ := put3_cells HR1.out 0 0 (.slice none 0 0)
    have f0 := HR1.out.free 0
    have f1 := HR1.out.free 1
    have f2 := HR1.out.free 2
    have d0 := HR1.out.cell (i := 0) rfl
    have d1 := HR1.out.cell (i := 1) rfl
    have d2 := HR1.out.cell (i := 2) rfl
    go_wp2_with fail
    refine bodyPost_ret (v := .tuple #[.agg #[.int .i64 0, .int .i64 0, .slice none 0 0], .int .i64 (-1)]) ?_ rfl (by rw [HF.out]; exact HN.out W1 HB1.out)
    unfold put3 at t0 t1 t2
    simp [results, Try.f68, go_sem, t0, t1, t2]
  | some pr1 =>
    obtain ⟨y1', p1⟩ := pr1
    rw [hp1] at HS1
    obtain ⟨rfl, hq1⟩ : y1 = y1' ∧ q1 = (p1 : Int) := HS1.out
    subst hq1
    have HP := Lib.hid hp1
    clear hp1
    by_cases hc : s[p1]? = some 43
    · have hl1 := (List.getElem?_eq_some_iff.1 hc).1
      have HA := Lib.hid (show atB s (p1 : Int) 43 = true by rw [atB_nat, decide_eq_true hc])
      go_wp2_with fail
      refine (l1At_lit s (p1 : Int) 43 43 rfl W1).mono ?_
      rintro e w9 ⟨rfl, rfl⟩
      rw [HA.out]
      have HC2 := Lib.hid (show Calls Try.prog 63 #[.string ⟨s.toArray⟩, .int .i64 ((p1 : Int) + 1), .int .i64 (d : Int)] W1 (ParPost (parseAt s d (p1 + 1)) W1) from HIH.out (p1 + 1) W1 (by omega))
      go_wp2_with fail
      refine HC2.out.mono ?_
      rintro e w3 ⟨y2, A2, c2, b2, q2, rfl, hi2, ht2, hb2, hres2⟩
      obtain ⟨W3, hW3⟩ : ∃ W3, W3 = w3.alloc (Obj.cells #[.int .i64 y2.op, .int .i64 y2.n, .slice A2 y2.k.len c2] 26) := ⟨_, rfl⟩
      have hbw3 : Below w3.heap.size w3 W3 := by rw [hW3]; exact (Below.refl _ _).alloc (Nat.le_refl _) _
      have hb13 := hb2.trans (hbw3.mono hb2.size)
      have HR3 := Lib.hid (HR1.out.below hb13 HR1.out.size)
      have HX13 := Lib.hid (HX1.out.below hb13 HX1.out.size)
      have HX3 := Lib.hid (show Row W3 w3.heap.size 26 #[.int .i64 y2.op, .int .i64 y2.n, .slice A2 y2.k.len c2] by rw [hW3]; exact Row.fresh _ _ _)
      have HT13 := Lib.hid (HT1.out.over hb13)
      have HT3 := Lib.hid (ht2.over hbw3)
      have HG3 := Lib.hid ht2.lt
      have HB3 := Lib.hid (HB1.out.trans (hb13.mono HB1.out.size))
      have HZ3 := Lib.hid (show W1.heap.size ≤ w3.heap.size ∧ w3.heap.size + 1 ≤ W3.heap.size from ⟨hb2.size, by rw [hW3]; simp⟩)
      have HI3 := Lib.hid hi2
      clear ht2 hb2 hbw3 hb13 hi2 HC2 HR1 HX1 HT1
      go_upto_region 9 with fail
      rw [← hW3]
      clear hW3
      cases hp2 : parseAt s d (p1 + 1) with
      | none =>
        rw [hp2] at hres2
        have hq2 : q2 = -1 := hres2
        subst hq2
        have HF := Lib.hid (show r = none by rw [HX.out]; unfold binAt; rw [HP.out]; simp only []; rw [if_pos (by first | exact Or.inl hc | exact Or.inr hc), hp2])
        clear hp2 hres2
        go_wp2_with fail
        refine (l1At_lit s (-1) 41 41 rfl W3).mono ?_
        rintro e w9 ⟨rfl, rfl⟩
        rw [atB_none]
        obtain ⟨t0, t1, t2⟩ := put3_cells HR3.out 0 0 (.slice none 0 0)
        have f0 := HR3.out.free 0
        have f1 := HR3.out.free 1
        have f2 := HR3.out.free 2
        have d0 := HR3.out.cell (i := 0) rfl
        have d1 := HR3.out.cell (i := 1) rfl
        have d2 := HR3.out.cell (i := 2) rfl
        go_wp2_with fail
        refine bodyPost_ret (v := .tuple #[.agg #[.int .i64 0, .int .i64 0, .slice none 0 0], .int .i64 (-1)]) ?_ rfl (by rw [HF.out]; exact HN.out W3 HB3.out)
        unfold put3 at t0 t1 t2
        simp [results, Try.f68, go_sem, t0, t1, t2]
      | some pr2 =>
        obtain ⟨y2', p2⟩ := pr2
        rw [hp2] at hres2
        obtain ⟨rfl, hq2⟩ : y2 = y2' ∧ q2 = (p2 : Int) := hres2
        subst hq2
        by_cases hc2 : s[p2]? = some 41
        rotate_left
        · have HF := Lib.hid (show r = none by rw [HX.out]; unfold binAt; rw [HP.out]; simp only []; rw [if_pos (by first | exact Or.inl hc | exact Or.inr hc), hp2]; simp only []; rw [if_neg hc2])
          have HA := Lib.hid (show atB s (p2 : Int) 41 = false by rw [atB_nat, decide_eq_false hc2])
          clear hp2 hc2
          go_wp2_with fail
          refine (l1At_lit s (p2 : Int) 41 41 rfl W3).mono ?_
          rintro e w9 ⟨rfl, rfl⟩
          rw [HA.out]
          obtain ⟨t0, t1, t2⟩ := put3_cells HR3.out 0 0 (.slice none 0 0)
          have f0 := HR3.out.free 0
          have f1 := HR3.out.free 1
          have f2 := HR3.out.free 2
          have d0 := HR3.out.cell (i := 0) rfl
          have d1 := HR3.out.cell (i := 1) rfl
          have d2 := HR3.out.cell (i := 2) rfl
          go_wp2_with fail
          refine bodyPost_ret (v := .tuple #[.agg #[.int .i64 0, .int .i64 0, .slice none 0 0], .int .i64 (-1)]) ?_ rfl (by rw [HF.out]; exact HN.out W3 HB3.out)
          unfold put3 at t0 t1 t2
          simp [results, Try.f68, go_sem, t0, t1, t2]
        · have hl2 := (List.getElem?_eq_some_iff.1 hc2).1
          have HF := Lib.hid (show r = some (⟨4, 0, .cons y1.op y1.n y1.k (.cons y2.op y2.n y2.k .nil)⟩, p2 + 1) by
            rw [HX.out]; unfold binAt; rw [HP.out]; simp only []; rw [if_pos (by first | exact Or.inl hc | exact Or.inr hc), hp2]; simp only []; rw [if_pos hc2]; rw [if_pos hc])
          have HA := Lib.hid (show atB s (p2 : Int) 41 = true by rw [atB_nat, decide_eq_true hc2])
          clear hp2 hc2
          go_wp2_with fail
          refine (l1At_lit s (p2 : Int) 41 41 rfl W3).mono ?_
          rintro e w9 ⟨rfl, rfl⟩
          rw [HA.out]
          obtain ⟨W4, hW4⟩ : ∃ W4, W4 = W3.alloc (Obj.cells #[.int .i64 y1.op, .int .i64 y1.n, .slice A1 y1.k.len c1, .int .i64 y2.op, .int .i64 y2.n, .slice A2 y2.k.len c2] 26) := ⟨_, rfl⟩
          have hbw4 : Below W3.heap.size W3 W4 := by rw [hW4]; exact (Below.refl _ _).alloc (Nat.le_refl _) _
          have hr4 : Row W4 W3.heap.size 26 #[.int .i64 y1.op, .int .i64 y1.n, .slice A1 y1.k.len c1, .int .i64 y2.op, .int .i64 y2.n, .slice A2 y2.k.len c2] := by rw [hW4]; exact Row.fresh _ _ _
          have z1 := HZ1.out
          have z3 := HZ3.out
          have hT := tree_2 (base := w.heap.size) hr4 (by omega) ((HT13.out.over hbw4).lower (by omega)) ((HT3.out.over hbw4).lower (by omega)) (fun q h1 h2 => by have g1 := (HG1.out q h1).2; have g2 := (HG3.out q h2).1; omega)
            (fun h => by have g1 := (HG1.out _ h).2; omega) (fun h => by have g1 := (HG3.out _ h).2; omega) HI1.out HI3.out
          have hap : w.heap.size ∉ W3.heap.size :: (b1 ++ b2) := by
            intro h
            rcases List.mem_cons.1 h with h | h
            · omega
            · rcases List.mem_append.1 h with h | h
              · have g1 := (HG1.out _ h).1; omega
              · have g1 := (HG3.out _ h).1; omega
          have HEND := Lib.hid (par_some (HB3.out.trans (hbw4.mono HB3.out.size)) (Nat.le_refl w.heap.size) ⟨4, 0, .cons y1.op y1.n y1.k (.cons y2.op y2.n y2.k .nil)⟩ (p2 + 1) (A := some ⟨W3.heap.size, 0, none⟩) (c := 2) ⟨by show I64 4; unfold I64; omega, by show I64 0; unfold I64; omega⟩ hT hap)
          have HR4 := HR3.out.below hbw4 HR3.out.size
          obtain ⟨t0, t1, t2⟩ := put3_cells HR4 4 0 (.slice (some ⟨W3.heap.size, 0, none⟩) 2 2)
          have f0 := HR4.free 0
          have f1 := HR4.free 1
          have f2 := HR4.free 2
          have d0 := HR4.cell (i := 0) rfl
          have d1 := HR4.cell (i := 1) rfl
          have d2 := HR4.cell (i := 2) rfl
          have x0 := HX13.out.cell (i := 0) rfl
          have x1 := HX13.out.cell (i := 1) rfl
          have x2 := HX13.out.cell (i := 2) rfl
          have v0 := HX3.out.cell (i := 0) rfl
          have v1 := HX3.out.cell (i := 1) rfl
          have v2 := HX3.out.cell (i := 2) rfl
          rw [hW4] at f0 f1 f2 d0 d1 d2 t0 t1 t2 HEND
          clear hT hap hr4 hbw4 HR4 hW4
          unfold put3 at t0 t1 t2
          go_wp2_with fail
          refine bodyPost_ret (v := .tuple #[.agg #[.int .i64 4, .int .i64 0, .slice (some ⟨W3.heap.size, 0, none⟩) 2 2], .int .i64 ((p2 : Int) + 1)]) ?_ rfl (by rw [HF.out]; exact HEND.out)
          simp [results, Try.f68, go_sem, t0, t1, t2]
    by_cases hc43 : s[p1]? = some 43
    · exact absurd hc43 hc
    clear hc
    by_cases hc : s[p1]? = some 60
    · have hl1 := (List.getElem?_eq_some_iff.1 hc).1
      have HA := Lib.hid (show atB s (p1 : Int) 43 = false by rw [atB_nat, decide_eq_false hc43])
      have HA6 := Lib.hid (show atB s (p1 : Int) 60 = true by rw [atB_nat, decide_eq_true hc])
      go_wp2_with fail
      refine (l1At_lit s (p1 : Int) 43 43 rfl W1).mono ?_
      rintro e w9 ⟨rfl, rfl⟩
      rw [HA.out]
      go_wp2_with fail
      refine (l1At_lit s (p1 : Int) 60 60 rfl W1).mono ?_
      rintro e w9 ⟨rfl, rfl⟩
      rw [HA6.out]
      have HC2 := Lib.hid (show Calls Try.prog 63 #[.string ⟨s.toArray⟩, .int .i64 ((p1 : Int) + 1), .int .i64 (d : Int)] W1 (ParPost (parseAt s d (p1 + 1)) W1) from HIH.out (p1 + 1) W1 (by omega))
      go_wp2_with fail
      refine HC2.out.mono ?_
      rintro e w3 ⟨y2, A2, c2, b2, q2, rfl, hi2, ht2, hb2, hres2⟩
      obtain ⟨W3, hW3⟩ : ∃ W3, W3 = w3.alloc (Obj.cells #[.int .i64 y2.op, .int .i64 y2.n, .slice A2 y2.k.len c2] 26) := ⟨_, rfl⟩
      have hbw3 : Below w3.heap.size w3 W3 := by rw [hW3]; exact (Below.refl _ _).alloc (Nat.le_refl _) _
      have hb13 := hb2.trans (hbw3.mono hb2.size)
      have HR3 := Lib.hid (HR1.out.below hb13 HR1.out.size)
      have HX13 := Lib.hid (HX1.out.below hb13 HX1.out.size)
      have HX3 := Lib.hid (show Row W3 w3.heap.size 26 #[.int .i64 y2.op, .int .i64 y2.n, .slice A2 y2.k.len c2] by rw [hW3]; exact Row.fresh _ _ _)
      have HT13 := Lib.hid (HT1.out.over hb13)
      have HT3 := Lib.hid (ht2.over hbw3)
      have HG3 := Lib.hid ht2.lt
      have HB3 := Lib.hid (HB1.out.trans (hb13.mono HB1.out.size))
      have HZ3 := Lib.hid (show W1.heap.size ≤ w3.heap.size ∧ w3.heap.size + 1 ≤ W3.heap.size from ⟨hb2.size, by rw [hW3]; simp⟩)
      have HI3 := Lib.hid hi2
      clear ht2 hb2 hbw3 hb13 hi2 HC2 HR1 HX1 HT1
      go_upto_region 9 with fail
      rw [← hW3]
      clear hW3
      cases hp2 : parseAt s d (p1 + 1) with
      | none =>
        rw [hp2] at hres2
        have hq2 : q2 = -1 := hres2
        subst hq2
        have HF := Lib.hid (show r = none by rw [HX.out]; unfold binAt; rw [HP.out]; simp only []; rw [if_pos (by first | exact Or.inl hc | exact Or.inr hc), hp2])
        clear hp2 hres2
        go_wp2_with fail
        refine (l1At_lit s (-1) 41 41 rfl W3).mono ?_
        rintro e w9 ⟨rfl, rfl⟩
        rw [atB_none]
        obtain ⟨t0, t1, t2⟩ := put3_cells HR3.out 0 0 (.slice none 0 0)
        have f0 := HR3.out.free 0
        have f1 := HR3.out.free 1
        have f2 := HR3.out.free 2
        have d0 := HR3.out.cell (i := 0) rfl
        have d1 := HR3.out.cell (i := 1) rfl
        have d2 := HR3.out.cell (i := 2) rfl
        go_wp2_with fail
        refine bodyPost_ret (v := .tuple #[.agg #[.int .i64 0, .int .i64 0, .slice none 0 0], .int .i64 (-1)]) ?_ rfl (by rw [HF.out]; exact HN.out W3 HB3.out)
        unfold put3 at t0 t1 t2
        simp [results, Try.f68, go_sem, t0, t1, t2]
      | some pr2 =>
        obtain ⟨y2', p2⟩ := pr2
        rw [hp2] at hres2
        obtain ⟨rfl, hq2⟩ : y2 = y2' ∧ q2 = (p2 : Int) := hres2
        subst hq2
        by_cases hc2 : s[p2]? = some 41
        rotate_left
        · have HF := Lib.hid (show r = none by rw [HX.out]; unfold binAt; rw [HP.out]; simp only []; rw [if_pos (by first | exact Or.inl hc | exact Or.inr hc), hp2]; simp only []; rw [if_neg hc2])
          have HA := Lib.hid (show atB s (p2 : Int) 41 = false by rw [atB_nat, decide_eq_false hc2])
          clear hp2 hc2
          go_wp2_with fail
          refine (l1At_lit s (p2 : Int) 41 41 rfl W3).mono ?_
          rintro e w9 ⟨rfl, rfl⟩
          rw [HA.out]
          obtain ⟨t0, t1, t2⟩ := put3_cells HR3.out 0 0 (.slice none 0 0)
          have f0 := HR3.out.free 0
          have f1 := HR3.out.free 1
          have f2 := HR3.out.free 2
          have d0 := HR3.out.cell (i := 0) rfl
          have d1 := HR3.out.cell (i := 1) rfl
          have d2 := HR3.out.cell (i := 2) rfl
          go_wp2_with fail
          refine bodyPost_ret (v := .tuple #[.agg #[.int .i64 0, .int .i64 0, .slice none 0 0], .int .i64 (-1)]) ?_ rfl (by rw [HF.out]; exact HN.out W3 HB3.out)
          unfold put3 at t0 t1 t2
          simp [results, Try.f68, go_sem, t0, t1, t2]
        · have hl2 := (List.getElem?_eq_some_iff.1 hc2).1
          have HF := Lib.hid (show r = some (⟨5, 0, .cons y1.op y1.n y1.k (.cons y2.op y2.n y2.k .nil)⟩, p2 + 1) by
            rw [HX.out]; unfold binAt; rw [HP.out]; simp only []; rw [if_pos (by first | exact Or.inl hc | exact Or.inr hc), hp2]; simp only []; rw [if_pos hc2]; rw [if_neg hc43])
          have HA := Lib.hid (show atB s (p2 : Int) 41 = true by rw [atB_nat, decide_eq_true hc2])
          clear hp2 hc2
          go_wp2_with fail
          refine (l1At_lit s (p2 : Int) 41 41 rfl W3).mono ?_
          rintro e w9 ⟨rfl, rfl⟩
          rw [HA.out]
          obtain ⟨W4, hW4⟩ : ∃ W4, W4 = W3.alloc (Obj.cells #[.int .i64 y1.op, .int .i64 y1.n, .slice A1 y1.k.len c1, .int .i64 y2.op, .int .i64 y2.n, .slice A2 y2.k.len c2] 26) := ⟨_, rfl⟩
          have hbw4 : Below W3.heap.size W3 W4 := by rw [hW4]; exact (Below.refl _ _).alloc (Nat.le_refl _) _
          have hr4 : Row W4 W3.heap.size 26 #[.int .i64 y1.op, .int .i64 y1.n, .slice A1 y1.k.len c1, .int .i64 y2.op, .int .i64 y2.n, .slice A2 y2.k.len c2] := by rw [hW4]; exact Row.fresh _ _ _
          have z1 := HZ1.out
          have z3 := HZ3.out
          have hT := tree_2 (base := w.heap.size) hr4 (by omega) ((HT13.out.over hbw4).lower (by omega)) ((HT3.out.over hbw4).lower (by omega)) (fun q h1 h2 => by have g1 := (HG1.out q h1).2; have g2 := (HG3.out q h2).1; omega)
            (fun h => by have g1 := (HG1.out _ h).2; omega) (fun h => by have g1 := (HG3.out _ h).2; omega) HI1.out HI3.out
          have hap : w.heap.size ∉ W3.heap.size :: (b1 ++ b2) := by
            intro h
            rcases List.mem_cons.1 h with h | h
            · omega
            · rcases List.mem_append.1 h with h | h
              · have g1 := (HG1.out _ h).1; omega
              · have g1 := (HG3.out _ h).1; omega
          have HEND := Lib.hid (par_some (HB3.out.trans (hbw4.mono HB3.out.size)) (Nat.le_refl w.heap.size) ⟨5, 0, .cons y1.op y1.n y1.k (.cons y2.op y2.n y2.k .nil)⟩ (p2 + 1) (A := some ⟨W3.heap.size, 0, none⟩) (c := 2) ⟨by show I64 5; unfold I64; omega, by show I64 0; unfold I64; omega⟩ hT hap)
          have HR4 := HR3.out.below hbw4 HR3.out.size
          obtain ⟨t0, t1, t2⟩ := put3_cells HR4 5 0 (.slice (some ⟨W3.heap.size, 0, none⟩) 2 2)
          have f0 := HR4.free 0
          have f1 := HR4.free 1
          have f2 := HR4.free 2
          have d0 := HR4.cell (i := 0) rfl
          have d1 := HR4.cell (i := 1) rfl
          have d2 := HR4.cell (i := 2) rfl
          have x0 := HX13.out.cell (i := 0) rfl
          have x1 := HX13.out.cell (i := 1) rfl
          have x2 := HX13.out.cell (i := 2) rfl
          have v0 := HX3.out.cell (i := 0) rfl
          have v1 := HX3.out.cell (i := 1) rfl
          have v2 := HX3.out.cell (i := 2) rfl
          rw [hW4] at f0 f1 f2 d0 d1 d2 t0 t1 t2 HEND
          clear hT hap hr4 hbw4 HR4 hW4
          unfold put3 at t0 t1 t2
          go_wp2_with fail
          refine bodyPost_ret (v := .tuple #[.agg #[.int .i64 5, .int .i64 0, .slice (some ⟨W3.heap.size, 0, none⟩) 2 2], .int .i64 ((p2 : Int) + 1)]) ?_ rfl (by rw [HF.out]; exact HEND.out)
          simp [results, Try.f68, go_sem, t0, t1, t2]
    · have HF := Lib.hid (show r = none by rw [HX.out]; unfold binAt; rw [HP.out]; simp only []; rw [if_neg (fun h => h.elim hc43 hc)])
      have HA := Lib.hid (show atB s (p1 : Int) 43 = false by rw [atB_nat, decide_eq_false hc43])
      have HA6 := Lib.hid (show atB s (p1 : Int) 60 = false by rw [atB_nat, decide_eq_false hc])
      clear hc hc43
      go_wp2_with fail
      refine (l1At_lit s (p1 : Int) 43 43 rfl W1).mono ?_
      rintro e w9 ⟨rfl, rfl⟩
      rw [HA.out]
      go_wp2_with fail
      refine (l1At_lit s (p1 : Int) 60 60 rfl W1).mono ?_
      rintro e w9 ⟨rfl, rfl⟩
      rw [HA6.out]
      obtain ⟨t0, t1, t2⟩ := put3_cells HR1.out 0 0 (.slice none 0 0)
      have f0 := HR1.out.free 0
      have f1 := HR1.out.free 1
      have f2 := HR1.out.free 2
      have d0 := HR1.out.cell (i := 0) rfl
      have d1 := HR1.out.cell (i := 1) rfl
      have d2 := HR1.out.cell (i := 2) rfl
      go_wp2_with fail
      refine bodyPost_ret (v := .tuple #[.agg #[.int .i64 0, .int .i64 0, .slice none 0 0], .int .i64 (-1)]) ?_ rfl (by rw [HF.out]; exact HN.out W1 HB1.out)
      unfold put3 at t0 t1 t2
      simp [results, Try.f68, go_sem, t0, t1, t2]
end Go.Proofs.Ytiepflaghfjijaa
