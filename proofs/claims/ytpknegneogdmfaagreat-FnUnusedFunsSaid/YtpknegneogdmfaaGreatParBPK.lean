/-
  Reading a sum or a comparison: spec.l1Binary.
  Reading operands in front of bytes: spec.l1Parts.
  Reading a call: spec.l1Call.
-/
import Derived.Test.YtpknegneogdmfaaGreatParN
import Derived.Deep.CutRange
import Derived.Test.YtpknegneogdmfaaGreatReadY
namespace Go.Proofs.YtpknegneogdmfaaGreat
open Go.RowKit
set_option maxRecDepth 100000

set_option maxHeartbeats 2000000 in
theorem l1Binary_any (s : List UInt8) (hs : s.length ≤ 1000000000000) (d : Nat) (ih : ParC s d) (i : Nat) (hi : i ≤ s.length + 3) (w : World) :
    Calls Tryz.prog 76 #[.string ⟨s.toArray⟩, .int .i64 (i : Int), .int .i64 (d : Int)] w (ParPost (binAt s (parseAt s d) i) w) := by
  obtain ⟨W, hW⟩ : ∃ W, W = w.alloc (Obj.cells #[.int .i64 0, .int .i64 0, .slice none 0 0] 36) := ⟨_, rfl⟩
  have hbW : Below w.heap.size w W := by rw [hW]; exact (Below.refl _ _).alloc (Nat.le_refl _) _
  have HR := Lib.hid (show Row W w.heap.size 36 #[.int .i64 0, .int .i64 0, .slice none 0 0] by rw [hW]; exact Row.fresh _ _ _)
  have HB := Lib.hid hbW
  have HZ := Lib.hid (show w.heap.size + 1 ≤ W.heap.size by rw [hW]; simp)
  have HC1 := Lib.hid (ih i W hi)
  have HIH := Lib.hid ih
  clear hbW ih
  obtain ⟨r, hr⟩ : ∃ r, r = binAt s (parseAt s d) i := ⟨_, rfl⟩
  rw [← hr]
  have HX := Lib.hid hr
  clear hr
  go_enter Tryz.func76, Tryz.ntmps76
  go_upto_region 1 with fail
  rw [← hW]
  clear hW
  go_wp2_with fail
  refine HC1.out.mono ?_
  rintro e w1 ⟨y1, A1, c1, b1, q1, rfl, hi1, ht1, hb1, hres1⟩
  obtain ⟨W1, hW1⟩ : ∃ W1, W1 = w1.alloc (Obj.cells #[.int .i64 y1.op, .int .i64 y1.n, .slice A1 y1.k.len c1] 36) := ⟨_, rfl⟩
  have hbw1 : Below w1.heap.size w1 W1 := by rw [hW1]; exact (Below.refl _ _).alloc (Nat.le_refl _) _
  have HR1 := Lib.hid ((HR.out.below hb1 HR.out.size).below hbw1 (Nat.lt_of_lt_of_le HR.out.size hb1.size))
  have HX1 := Lib.hid (show Row W1 w1.heap.size 36 #[.int .i64 y1.op, .int .i64 y1.n, .slice A1 y1.k.len c1] by rw [hW1]; exact Row.fresh _ _ _)
  have HT1 := Lib.hid (ht1.over hbw1)
  have HG1 := Lib.hid ht1.lt
  have HB1 := Lib.hid (HB.out.trans ((hb1.trans (hbw1.mono hb1.size)).mono HB.out.size))
  have HZ1 := Lib.hid (show w.heap.size + 1 ≤ W.heap.size ∧ W.heap.size ≤ w1.heap.size ∧ w1.heap.size + 1 ≤ W1.heap.size from ⟨HZ.out, hb1.size, by rw [hW1]; simp⟩)
  have HI1 := Lib.hid hi1
  have HS1 := Lib.hid hres1
  clear ht1 hb1 hbw1 hi1 hres1 HC1 HR HB HZ
  go_upto_region 4 with fail
  rw [← hW1]
  clear hW1
  -- the failing end, at a later world
  have HN := Lib.hid (fun (V : World) (hb : Below w.heap.size w V) => par_none hb (Nat.le_refl w.heap.size) zeroNd zero_i64 (Tree.none V w.heap.size) (by simp))
  cases hp1 : parseAt s d i with
  | none =>
    rw [hp1] at HS1
    have hq1 : q1 = -1 := HS1.out
    subst hq1
    have HF := Lib.hid (show r = none by rw [HX.out]; unfold binAt; rw [hp1])
    clear hp1
    go_wp2_with fail
    refine (l1At_lit s (-1) 43 43 rfl W1).mono ?_
    rintro e w9 ⟨rfl, rfl⟩
    rw [atB_none]
    go_wp2_with fail
    refine (l1At_lit s (-1) 60 60 rfl W1).mono ?_
    rintro e w9 ⟨rfl, rfl⟩
    rw [atB_none]
    obtain ⟨t0, t1, t2⟩ := put3_cells HR1.out 0 0 (.slice none 0 0)
    have f0 := HR1.out.free 0
    have f1 := HR1.out.free 1
    have f2 := HR1.out.free 2
    have d0 := HR1.out.cell (i := 0) rfl
    have d1 := HR1.out.cell (i := 1) rfl
    have d2 := HR1.out.cell (i := 2) rfl
    go_wp2_with fail
    refine bodyPost_ret (v := .tuple #[.agg #[.int .i64 0, .int .i64 0, .slice none 0 0], .int .i64 (-1)]) ?_ rfl (by rw [HF.out]; exact HN.out W1 HB1.out)
    unfold put3 at t0 t1 t2
    simp [results, Tryz.f76, go_sem, t0, t1, t2]
  | some pr1 =>
    obtain ⟨y1', p1⟩ := pr1
    rw [hp1] at HS1
    obtain ⟨rfl, hq1⟩ : y1 = y1' ∧ q1 = (p1 : Int) := HS1.out
    subst hq1
    have HP := Lib.hid hp1
    clear hp1
    by_cases hc : s[p1]? = some 43
    · have hl1 := (List.getElem?_eq_some_iff.1 hc).1
      have HA := Lib.hid (show atB s (p1 : Int) 43 = true by rw [atB_nat, decide_eq_true hc])
      go_wp2_with fail
      refine (l1At_lit s (p1 : Int) 43 43 rfl W1).mono ?_
      rintro e w9 ⟨rfl, rfl⟩
      rw [HA.out]
      have HC2 := Lib.hid (show Calls Tryz.prog 60 #[.string ⟨s.toArray⟩, .int .i64 ((p1 : Int) + 1), .int .i64 (d : Int)] W1 (ParPost (parseAt s d (p1 + 1)) W1) from HIH.out (p1 + 1) W1 (by omega))
      go_wp2_with fail
      refine HC2.out.mono ?_
      rintro e w3 ⟨y2, A2, c2, b2, q2, rfl, hi2, ht2, hb2, hres2⟩
      obtain ⟨W3, hW3⟩ : ∃ W3, W3 = w3.alloc (Obj.cells #[.int .i64 y2.op, .int .i64 y2.n, .slice A2 y2.k.len c2] 36) := ⟨_, rfl⟩
      have hbw3 : Below w3.heap.size w3 W3 := by rw [hW3]; exact (Below.refl _ _).alloc (Nat.le_refl _) _
      have hb13 := hb2.trans (hbw3.mono hb2.size)
      have HR3 := Lib.hid (HR1.out.below hb13 HR1.out.size)
      have HX13 := Lib.hid (HX1.out.below hb13 HX1.out.size)
      have HX3 := Lib.hid (show Row W3 w3.heap.size 36 #[.int .i64 y2.op, .int .i64 y2.n, .slice A2 y2.k.len c2] by rw [hW3]; exact Row.fresh _ _ _)
      have HT13 := Lib.hid (HT1.out.over hb13)
      have HT3 := Lib.hid (ht2.over hbw3)
      have HG3 := Lib.hid ht2.lt
      have HB3 := Lib.hid (HB1.out.trans (hb13.mono HB1.out.size))
      have HZ3 := Lib.hid (show W1.heap.size ≤ w3.heap.size ∧ w3.heap.size + 1 ≤ W3.heap.size from ⟨hb2.size, by rw [hW3]; simp⟩)
      have HI3 := Lib.hid hi2
      clear ht2 hb2 hbw3 hb13 hi2 HC2 HR1 HX1 HT1
      go_upto_region 9 with fail
      rw [← hW3]
      clear hW3
      cases hp2 : parseAt s d (p1 + 1) with
      | none =>
        rw [hp2] at hres2
        have hq2 : q2 = -1 := hres2
        subst hq2
        have HF := Lib.hid (show r = none by rw [HX.out]; unfold binAt; rw [HP.out]; simp only []; rw [if_pos (by first | exact Or.inl hc | exact Or.inr hc), hp2])
        clear hp2 hres2
        go_wp2_with fail
        refine (l1At_lit s (-1) 41 41 rfl W3).mono ?_
        rintro e w9 ⟨rfl, rfl⟩
        rw [atB_none]
        obtain ⟨t0, t1, t2⟩ := put3_cells HR3.out 0 0 (.slice none 0 0)
        have f0 := HR3.out.free 0
        have f1 := HR3.out.free 1
        have f2 := HR3.out.free 2
        have d0 := HR3.out.cell (i := 0) rfl
        have d1 := HR3.out.cell (i := 1) rfl
        have d2 := HR3.out.cell (i := 2) rfl
        go_wp2_with fail
        refine bodyPost_ret (v := .tuple #[.agg #[.int .i64 0, .int .i64 0, .slice none 0 0], .int .i64 (-1)]) ?_ rfl (by rw [HF.out]; exact HN.out W3 HB3.out)
        unfold put3 at t0 t1 t2
        simp [results, Tryz.f76, go_sem, t0, t1, t2]
      | some pr2 =>
        obtain ⟨y2', p2⟩ := pr2
        rw [hp2] at hres2
        obtain ⟨rfl, hq2⟩ : y2 = y2' ∧ q2 = (p2 : Int) := hres2
        subst hq2
        by_cases hc2 : s[p2]? = some 41
        rotate_left
        · have HF := Lib.hid (show r = none by rw [HX.out]; unfold binAt; rw [HP.out]; simp only []; rw [if_pos (by first | exact Or.inl hc | exact Or.inr hc), hp2]; simp only []; rw [if_neg hc2])
          have HA := Lib.hid (show atB s (p2 : Int) 41 = false by rw [atB_nat, decide_eq_false hc2])
          clear hp2 hc2
          go_wp2_with fail
          refine (l1At_lit s (p2 : Int) 41 41 rfl W3).mono ?_
          rintro e w9 ⟨rfl, rfl⟩
          rw [HA.out]
          obtain ⟨t0, t1, t2⟩ := put3_cells HR3.out 0 0 (.slice none 0 0)
          have f0 := HR3.out.free 0
          have f1 := HR3.out.free 1
          have f2 := HR3.out.free 2
          have d0 := HR3.out.cell (i := 0) rfl
          have d1 := HR3.out.cell (i := 1) rfl
          have d2 := HR3.out.cell (i := 2) rfl
          go_wp2_with fail
          refine bodyPost_ret (v := .tuple #[.agg #[.int .i64 0, .int .i64 0, .slice none 0 0], .int .i64 (-1)]) ?_ rfl (by rw [HF.out]; exact HN.out W3 HB3.out)
          unfold put3 at t0 t1 t2
          simp [results, Tryz.f76, go_sem, t0, t1, t2]
        · have hl2 := (List.getElem?_eq_some_iff.1 hc2).1
          have HF := Lib.hid (show r = some (⟨4, 0, .cons y1.op y1.n y1.k (.cons y2.op y2.n y2.k .nil)⟩, p2 + 1) by
            rw [HX.out]; unfold binAt; rw [HP.out]; simp only []; rw [if_pos (by first | exact Or.inl hc | exact Or.inr hc), hp2]; simp only []; rw [if_pos hc2]; rw [if_pos hc])
          have HA := Lib.hid (show atB s (p2 : Int) 41 = true by rw [atB_nat, decide_eq_true hc2])
          clear hp2 hc2
          go_wp2_with fail
          refine (l1At_lit s (p2 : Int) 41 41 rfl W3).mono ?_
          rintro e w9 ⟨rfl, rfl⟩
          rw [HA.out]
          obtain ⟨W4, hW4⟩ : ∃ W4, W4 = W3.alloc (Obj.cells #[.int .i64 y1.op, .int .i64 y1.n, .slice A1 y1.k.len c1, .int .i64 y2.op, .int .i64 y2.n, .slice A2 y2.k.len c2] 36) := ⟨_, rfl⟩
          have hbw4 : Below W3.heap.size W3 W4 := by rw [hW4]; exact (Below.refl _ _).alloc (Nat.le_refl _) _
          have hr4 : Row W4 W3.heap.size 36 #[.int .i64 y1.op, .int .i64 y1.n, .slice A1 y1.k.len c1, .int .i64 y2.op, .int .i64 y2.n, .slice A2 y2.k.len c2] := by rw [hW4]; exact Row.fresh _ _ _
          have z1 := HZ1.out
          have z3 := HZ3.out
          have hT := tree_2 (base := w.heap.size) hr4 (by omega) ((HT13.out.over hbw4).lower (by omega)) ((HT3.out.over hbw4).lower (by omega)) (fun q h1 h2 => by have g1 := (HG1.out q h1).2; have g2 := (HG3.out q h2).1; omega)
            (fun h => by have g1 := (HG1.out _ h).2; omega) (fun h => by have g1 := (HG3.out _ h).2; omega) HI1.out HI3.out
          have hap : w.heap.size ∉ W3.heap.size :: (b1 ++ b2) := by
            intro h
            rcases List.mem_cons.1 h with h | h
            · omega
            · rcases List.mem_append.1 h with h | h
              · have g1 := (HG1.out _ h).1; omega
              · have g1 := (HG3.out _ h).1; omega
          have HEND := Lib.hid (par_some (HB3.out.trans (hbw4.mono HB3.out.size)) (Nat.le_refl w.heap.size) ⟨4, 0, .cons y1.op y1.n y1.k (.cons y2.op y2.n y2.k .nil)⟩ (p2 + 1) (A := some ⟨W3.heap.size, 0, none⟩) (c := 2) ⟨by show I64 4; unfold I64; omega, by show I64 0; unfold I64; omega⟩ hT hap)
          have HR4 := HR3.out.below hbw4 HR3.out.size
          obtain ⟨t0, t1, t2⟩ := put3_cells HR4 4 0 (.slice (some ⟨W3.heap.size, 0, none⟩) 2 2)
          have f0 := HR4.free 0
          have f1 := HR4.free 1
          have f2 := HR4.free 2
          have d0 := HR4.cell (i := 0) rfl
          have d1 := HR4.cell (i := 1) rfl
          have d2 := HR4.cell (i := 2) rfl
          have x0 := HX13.out.cell (i := 0) rfl
          have x1 := HX13.out.cell (i := 1) rfl
          have x2 := HX13.out.cell (i := 2) rfl
          have v0 := HX3.out.cell (i := 0) rfl
          have v1 := HX3.out.cell (i := 1) rfl
          have v2 := HX3.out.cell (i := 2) rfl
          rw [hW4] at f0 f1 f2 d0 d1 d2 t0 t1 t2 HEND
          clear hT hap hr4 hbw4 HR4 hW4
          unfold put3 at t0 t1 t2
          go_wp2_with fail
          refine bodyPost_ret (v := .tuple #[.agg #[.int .i64 4, .int .i64 0, .slice (some ⟨W3.heap.size, 0, none⟩) 2 2], .int .i64 ((p2 : Int) + 1)]) ?_ rfl (by rw [HF.out]; exact HEND.out)
          simp [results, Tryz.f76, go_sem, t0, t1, t2]
    by_cases hc43 : s[p1]? = some 43
    · exact absurd hc43 hc
    clear hc
    by_cases hc : s[p1]? = some 60
    · have hl1 := (List.getElem?_eq_some_iff.1 hc).1
      have HA := Lib.hid (show atB s (p1 : Int) 43 = false by rw [atB_nat, decide_eq_false hc43])
      have HA6 := Lib.hid (show atB s (p1 : Int) 60 = true by rw [atB_nat, decide_eq_true hc])
      go_wp2_with fail
      refine (l1At_lit s (p1 : Int) 43 43 rfl W1).mono ?_
      rintro e w9 ⟨rfl, rfl⟩
      rw [HA.out]
      go_wp2_with fail
      refine (l1At_lit s (p1 : Int) 60 60 rfl W1).mono ?_
      rintro e w9 ⟨rfl, rfl⟩
      rw [HA6.out]
      have HC2 := Lib.hid (show Calls Tryz.prog 60 #[.string ⟨s.toArray⟩, .int .i64 ((p1 : Int) + 1), .int .i64 (d : Int)] W1 (ParPost (parseAt s d (p1 + 1)) W1) from HIH.out (p1 + 1) W1 (by omega))
      go_wp2_with fail
      refine HC2.out.mono ?_
      rintro e w3 ⟨y2, A2, c2, b2, q2, rfl, hi2, ht2, hb2, hres2⟩
      obtain ⟨W3, hW3⟩ : ∃ W3, W3 = w3.alloc (Obj.cells #[.int .i64 y2.op, .int .i64 y2.n, .slice A2 y2.k.len c2] 36) := ⟨_, rfl⟩
      have hbw3 : Below w3.heap.size w3 W3 := by rw [hW3]; exact (Below.refl _ _).alloc (Nat.le_refl _) _
      have hb13 := hb2.trans (hbw3.mono hb2.size)
      have HR3 := Lib.hid (HR1.out.below hb13 HR1.out.size)
      have HX13 := Lib.hid (HX1.out.below hb13 HX1.out.size)
      have HX3 := Lib.hid (show Row W3 w3.heap.size 36 #[.int .i64 y2.op, .int .i64 y2.n, .slice A2 y2.k.len c2] by rw [hW3]; exact Row.fresh _ _ _)
      have HT13 := Lib.hid (HT1.out.over hb13)
      have HT3 := Lib.hid (ht2.over hbw3)
      have HG3 := Lib.hid ht2.lt
      have HB3 := Lib.hid (HB1.out.trans (hb13.mono HB1.out.size))
      have HZ3 := Lib.hid (show W1.heap.size ≤ w3.heap.size ∧ w3.heap.size + 1 ≤ W3.heap.size from ⟨hb2.size, by rw [hW3]; simp⟩)
      have HI3 := Lib.hid hi2
      clear ht2 hb2 hbw3 hb13 hi2 HC2 HR1 HX1 HT1
      go_upto_region 9 with fail
      rw [← hW3]
      clear hW3
      cases hp2 : parseAt s d (p1 + 1) with
      | none =>
        rw [hp2] at hres2
        have hq2 : q2 = -1 := hres2
        subst hq2
        have HF := Lib.hid (show r = none by rw [HX.out]; unfold binAt; rw [HP.out]; simp only []; rw [if_pos (by first | exact Or.inl hc | exact Or.inr hc), hp2])
        clear hp2 hres2
        go_wp2_with fail
        refine (l1At_lit s (-1) 41 41 rfl W3).mono ?_
        rintro e w9 ⟨rfl, rfl⟩
        rw [atB_none]
        obtain ⟨t0, t1, t2⟩ := put3_cells HR3.out 0 0 (.slice none 0 0)
        have f0 := HR3.out.free 0
        have f1 := HR3.out.free 1
        have f2 := HR3.out.free 2
        have d0 := HR3.out.cell (i := 0) rfl
        have d1 := HR3.out.cell (i := 1) rfl
        have d2 := HR3.out.cell (i := 2) rfl
        go_wp2_with fail
        refine bodyPost_ret (v := .tuple #[.agg #[.int .i64 0, .int .i64 0, .slice none 0 0], .int .i64 (-1)]) ?_ rfl (by rw [HF.out]; exact HN.out W3 HB3.out)
        unfold put3 at t0 t1 t2
        simp [results, Tryz.f76, go_sem, t0, t1, t2]
      | some pr2 =>
        obtain ⟨y2', p2⟩ := pr2
        rw [hp2] at hres2
        obtain ⟨rfl, hq2⟩ : y2 = y2' ∧ q2 = (p2 : Int) := hres2
        subst hq2
        by_cases hc2 : s[p2]? = some 41
        rotate_left
        · have HF := Lib.hid (show r = none by rw [HX.out]; unfold binAt; rw [HP.out]; simp only []; rw [if_pos (by first | exact Or.inl hc | exact Or.inr hc), hp2]; simp only []; rw [if_neg hc2])
          have HA := Lib.hid (show atB s (p2 : Int) 41 = false by rw [atB_nat, decide_eq_false hc2])
          clear hp2 hc2
          go_wp2_with fail
          refine (l1At_lit s (p2 : Int) 41 41 rfl W3).mono ?_
          rintro e w9 ⟨rfl, rfl⟩
          rw [HA.out]
          obtain ⟨t0, t1, t2⟩ := put3_cells HR3.out 0 0 (.slice none 0 0)
          have f0 := HR3.out.free 0
          have f1 := HR3.out.free 1
          have f2 := HR3.out.free 2
          have d0 := HR3.out.cell (i := 0) rfl
          have d1 := HR3.out.cell (i := 1) rfl
          have d2 := HR3.out.cell (i := 2) rfl
          go_wp2_with fail
          refine bodyPost_ret (v := .tuple #[.agg #[.int .i64 0, .int .i64 0, .slice none 0 0], .int .i64 (-1)]) ?_ rfl (by rw [HF.out]; exact HN.out W3 HB3.out)
          unfold put3 at t0 t1 t2
          simp [results, Tryz.f76, go_sem, t0, t1, t2]
        · have hl2 := (List.getElem?_eq_some_iff.1 hc2).1
          have HF := Lib.hid (show r = some (⟨5, 0, .cons y1.op y1.n y1.k (.cons y2.op y2.n y2.k .nil)⟩, p2 + 1) by
            rw [HX.out]; unfold binAt; rw [HP.out]; simp only []; rw [if_pos (by first | exact Or.inl hc | exact Or.inr hc), hp2]; simp only []; rw [if_pos hc2]; rw [if_neg hc43])
          have HA := Lib.hid (show atB s (p2 : Int) 41 = true by rw [atB_nat, decide_eq_true hc2])
          clear hp2 hc2
          go_wp2_with fail
          refine (l1At_lit s (p2 : Int) 41 41 rfl W3).mono ?_
          rintro e w9 ⟨rfl, rfl⟩
          rw [HA.out]
          obtain ⟨W4, hW4⟩ : ∃ W4, W4 = W3.alloc (Obj.cells #[.int .i64 y1.op, .int .i64 y1.n, .slice A1 y1.k.len c1, .int .i64 y2.op, .int .i64 y2.n, .slice A2 y2.k.len c2] 36) := ⟨_, rfl⟩
          have hbw4 : Below W3.heap.size W3 W4 := by rw [hW4]; exact (Below.refl _ _).alloc (Nat.le_refl _) _
          have hr4 : Row W4 W3.heap.size 36 #[.int .i64 y1.op, .int .i64 y1.n, .slice A1 y1.k.len c1, .int .i64 y2.op, .int .i64 y2.n, .slice A2 y2.k.len c2] := by rw [hW4]; exact Row.fresh _ _ _
          have z1 := HZ1.out
          have z3 := HZ3.out
          have hT := tree_2 (base := w.heap.size) hr4 (by omega) ((HT13.out.over hbw4).lower (by omega)) ((HT3.out.over hbw4).lower (by omega)) (fun q h1 h2 => by have g1 := (HG1.out q h1).2; have g2 := (HG3.out q h2).1; omega)
            (fun h => by have g1 := (HG1.out _ h).2; omega) (fun h => by have g1 := (HG3.out _ h).2; omega) HI1.out HI3.out
          have hap : w.heap.size ∉ W3.heap.size :: (b1 ++ b2) := by
            intro h
            rcases List.mem_cons.1 h with h | h
            · omega
            · rcases List.mem_append.1 h with h | h
              · have g1 := (HG1.out _ h).1; omega
              · have g1 := (HG3.out _ h).1; omega
          have HEND := Lib.hid (par_some (HB3.out.trans (hbw4.mono HB3.out.size)) (Nat.le_refl w.heap.size) ⟨5, 0, .cons y1.op y1.n y1.k (.cons y2.op y2.n y2.k .nil)⟩ (p2 + 1) (A := some ⟨W3.heap.size, 0, none⟩) (c := 2) ⟨by show I64 5; unfold I64; omega, by show I64 0; unfold I64; omega⟩ hT hap)
          have HR4 := HR3.out.below hbw4 HR3.out.size
          obtain ⟨t0, t1, t2⟩ := put3_cells HR4 5 0 (.slice (some ⟨W3.heap.size, 0, none⟩) 2 2)
          have f0 := HR4.free 0
          have f1 := HR4.free 1
          have f2 := HR4.free 2
          have d0 := HR4.cell (i := 0) rfl
          have d1 := HR4.cell (i := 1) rfl
          have d2 := HR4.cell (i := 2) rfl
          have x0 := HX13.out.cell (i := 0) rfl
          have x1 := HX13.out.cell (i := 1) rfl
          have x2 := HX13.out.cell (i := 2) rfl
          have v0 := HX3.out.cell (i := 0) rfl
          have v1 := HX3.out.cell (i := 1) rfl
          have v2 := HX3.out.cell (i := 2) rfl
          rw [hW4] at f0 f1 f2 d0 d1 d2 t0 t1 t2 HEND
          clear hT hap hr4 hbw4 HR4 hW4
          unfold put3 at t0 t1 t2
          go_wp2_with fail
          refine bodyPost_ret (v := .tuple #[.agg #[.int .i64 5, .int .i64 0, .slice (some ⟨W3.heap.size, 0, none⟩) 2 2], .int .i64 ((p2 : Int) + 1)]) ?_ rfl (by rw [HF.out]; exact HEND.out)
          simp [results, Tryz.f76, go_sem, t0, t1, t2]
    · have HF := Lib.hid (show r = none by rw [HX.out]; unfold binAt; rw [HP.out]; simp only []; rw [if_neg (fun h => h.elim hc43 hc)])
      have HA := Lib.hid (show atB s (p1 : Int) 43 = false by rw [atB_nat, decide_eq_false hc43])
      have HA6 := Lib.hid (show atB s (p1 : Int) 60 = false by rw [atB_nat, decide_eq_false hc])
      clear hc hc43
      go_wp2_with fail
      refine (l1At_lit s (p1 : Int) 43 43 rfl W1).mono ?_
      rintro e w9 ⟨rfl, rfl⟩
      rw [HA.out]
      go_wp2_with fail
      refine (l1At_lit s (p1 : Int) 60 60 rfl W1).mono ?_
      rintro e w9 ⟨rfl, rfl⟩
      rw [HA6.out]
      obtain ⟨t0, t1, t2⟩ := put3_cells HR1.out 0 0 (.slice none 0 0)
      have f0 := HR1.out.free 0
      have f1 := HR1.out.free 1
      have f2 := HR1.out.free 2
      have d0 := HR1.out.cell (i := 0) rfl
      have d1 := HR1.out.cell (i := 1) rfl
      have d2 := HR1.out.cell (i := 2) rfl
      go_wp2_with fail
      refine bodyPost_ret (v := .tuple #[.agg #[.int .i64 0, .int .i64 0, .slice none 0 0], .int .i64 (-1)]) ?_ rfl (by rw [HF.out]; exact HN.out W1 HB1.out)
      unfold put3 at t0 t1 t2
      simp [results, Tryz.f76, go_sem, t0, t1, t2]
end Go.Proofs.YtpknegneogdmfaaGreat

namespace Go.Proofs.YtpknegneogdmfaaGreat
open Go.RowKit
set_option maxRecDepth 100000

def PartsPost (r : Option (Fo × Nat)) (w : World) (e : Ending) (w' : World) : Prop :=
  ∃ (f : Fo) (A : Option Addr) (c : Nat) (bs : List Nat) (q : Int), e = .returned (.tuple #[.slice A f.len c, .int .i64 q]) ∧ Tree w' w.heap.size (.slice A f.len c) f bs ∧ Below w.heap.size w w' ∧
    (match r with
     | some (f', p) => f = f' ∧ q = (p : Int)
     | none => q = -1)
def combF (pre : Fo) : Option (Fo × Nat) → Option (Fo × Nat)
  | none => none
  | some (r, q) => some (pre.app r, q)

set_option maxHeartbeats 2000000 in
theorem l1Parts_any (s : List UInt8) (hs : s.length ≤ 1000000000000) (d : Nat) (ih : ParC s d) (cs : List UInt8) (hcs : cs.length ≤ 100) (C : Option Addr) (cc : Nat) (i : Nat) (hi : i ≤ s.length + 3) (w : World) (hc : LiesY w 0 w.heap.size C (cs.map UInt8.toNat)) :
    Calls Tryz.prog 77 #[.string ⟨s.toArray⟩, .int .i64 (i : Int), .slice C cs.length cc, .int .i64 (d : Int)] w (PartsPost (partsAt s (parseAt s d) cs i) w) := by
  have ht0 : Tree (w.alloc (Obj.cells #[] 36)) w.heap.size (.slice (some ⟨w.heap.size, 0, none⟩) 0 0) .nil [w.heap.size] :=
    ⟨[], [], ⟨rfl, .inr ⟨w.heap.size, 0, #[], rfl, Nat.le_refl _, Row.fresh w 36 #[], Nat.le_refl _, by decide, rfl, rfl⟩⟩, ⟨rfl, rfl⟩, rfl, by simp⟩
  have HT0 := Lib.hid ht0
  have HB0 := Lib.hid (show Below w.heap.size w (w.alloc (Obj.cells #[] 36)) from (Below.refl _ _).alloc (Nat.le_refl _) _)
  have HIH := Lib.hid ih
  have HC := Lib.hid hc
  obtain ⟨r, hr⟩ : ∃ r, r = partsAt s (parseAt s d) cs i := ⟨_, rfl⟩
  rw [← hr]
  have HX := Lib.hid hr
  clear ht0 ih hc hr
  go_enter Tryz.func77, Tryz.ntmps77
  go_wp2_with fail
  go_loopw [1, 10, 11] (fun a v i wr => ∃ (j p : Nat) (pre : Fo) (A1 : Option Addr) (c1 : Nat) (bs : List Nat), j ≤ cs.length ∧ i = .int .i64 (j : Int) ∧ a = .int .i64 (p : Int) ∧ v = .slice A1 pre.len c1 ∧ pre.len = j ∧ p ≤ s.length + 3 ∧
      r = combF pre (partsAt s (parseAt s d) (cs.drop j) p) ∧ Tree wr w.heap.size (.slice A1 pre.len c1) pre bs ∧ Below w.heap.size w wr) (fun _ _ i _ => cs.length - (intOf i).toNat)
  case atStart => exact ⟨0, i, .nil, _, _, _, Nat.zero_le _, rfl, rfl, rfl, rfl, hi, by rw [HX.out]; simp only [List.drop_zero, combF, Fo.app]; split <;> simp_all, HT0.out, HB0.out⟩
  case round =>
    clear HT0 HB0 HX
    obtain ⟨j, p, pre, A1, c1', bs, hj, rfl, rfl, rfl, hpl, hp, hpre, ht, hb⟩ := hrel
    by_cases hlt : j < cs.length
    · have ec := List.getElem?_eq_getElem hlt
      generalize cs[j] = ch at ec
      have hdr : cs.drop j = ch :: cs.drop (j + 1) := by
        obtain ⟨h1, h2⟩ := List.getElem?_eq_some_iff.1 ec
        rw [← h2]; exact List.drop_eq_getElem_cons h1
      obtain ⟨zb, zo, hC, _, hzb, _, hzc⟩ := HC.out j ch.toNat (by rw [List.getElem?_map, ec]; rfl)
      subst hC
      have HCP := Lib.hid (HIH.out p wr hp)
      have HT := Lib.hid ht
      have HB := Lib.hid hb
      have HPRE := Lib.hid hpre
      have HPL := Lib.hid hpl
      have HDR := Lib.hid hdr
      have HZC := Lib.hid (And.intro hzb ((hb.cell (p := ⟨zb, zo + j, none⟩) hzb).trans hzc))
      clear ht hb hpre hdr hzc
      go_wp2_with fail
      refine HCP.out.mono ?_
      rintro e w1 ⟨y1, Y1, c1, b1, q1, rfl, hi1, ht1, hb1, hres1⟩
      obtain ⟨W1, hW1⟩ : ∃ W1, W1 = w1.alloc (Obj.cells #[.int .i64 y1.op, .int .i64 y1.n, .slice Y1 y1.k.len c1] 36) := ⟨_, rfl⟩
      have hbw1 : Below w1.heap.size w1 W1 := by rw [hW1]; exact (Below.refl _ _).alloc (Nat.le_refl _) _
      have hb01 := hb1.trans (hbw1.mono hb1.size)
      have HX1 := Lib.hid (show Row W1 w1.heap.size 36 #[.int .i64 y1.op, .int .i64 y1.n, .slice Y1 y1.k.len c1] by rw [hW1]; exact Row.fresh _ _ _)
      have HT5 := Lib.hid (HT.out.over hb01)
      have HK5 := Lib.hid ((ht1.over hbw1).lower (base' := w.heap.size) HB.out.size)
      have HD5 := Lib.hid (show ∀ b, b ∈ bs → b ∈ b1 → False from fun q h1 h2 => by
        have e1 := (HT.out.lt q h1).2
        have e2 := (ht1.lt q h2).1
        omega)
      have HB5 := Lib.hid (HB.out.trans (hb01.mono HB.out.size))
      have qz : W1.cell? ⟨zb, zo + j, none⟩ = some (.int .u8 (ch.toNat : Int)) := (hb01.cell (p := ⟨zb, zo + j, none⟩) (Nat.lt_of_lt_of_le HZC.out.1 HB.out.size)).trans HZC.out.2
      have HI1 := Lib.hid hi1
      have HS1 := Lib.hid hres1
      have hpl2 : pre.len ≤ 1048576 := by omega
      clear hpl ht1 hb1 hbw1 hb01 hi1 hres1 HCP HT HB
      go_upto_region 6 with fail
      rw [← hW1]
      clear hW1
      cases hp1 : parseAt s d p with
      | none =>
        rw [hp1] at HS1
        have hq1 : q1 = -1 := HS1.out
        subst hq1
        have HF := Lib.hid (show r = none by rw [HPRE.out, HDR.out]; simp only [partsAt, hp1, combF])
        clear hp1
        go_wp2_with fail
        refine (l1At_any s (-1) ch W1).mono ?_
        rintro e w9 ⟨rfl, rfl⟩
        rw [atB_none]
        go_wp2_with fail
        go_ret2
        exact ⟨.nil, none, 0, [], _, rfl, Tree.none _ _, HB5.out, by rw [HF.out]⟩
      | some pr1 =>
        obtain ⟨y1', p1⟩ := pr1
        rw [hp1] at HS1
        obtain ⟨rfl, hq1⟩ : y1 = y1' ∧ q1 = (p1 : Int) := HS1.out
        subst hq1
        by_cases hch : s[p1]? = some ch
        rotate_left
        · have HF := Lib.hid (show r = none by rw [HPRE.out, HDR.out]; simp only [partsAt, hp1, combF]; rw [if_neg hch])
          have HA := Lib.hid (show atB s (p1 : Int) ch = false by rw [atB_nat, decide_eq_false hch])
          clear hp1 hch
          go_wp2_with fail
          refine (l1At_any s (p1 : Int) ch W1).mono ?_
          rintro e w9 ⟨rfl, rfl⟩
          rw [HA.out]
          go_wp2_with fail
          go_ret2
          exact ⟨.nil, none, 0, [], _, rfl, Tree.none _ _, HB5.out, by rw [HF.out]⟩
        · have hl1 := (List.getElem?_eq_some_iff.1 hch).1
          have HF := Lib.hid (show r = combF (pre.snoc y1.op y1.n y1.k) (partsAt s (parseAt s d) (cs.drop (j + 1)) (p1 + 1)) by
            rw [HPRE.out, HDR.out]
            simp only [partsAt, hp1]
            rw [if_pos hch]
            cases partsAt s (parseAt s d) (cs.drop (j + 1)) (p1 + 1) with
            | none => rfl
            | some x => obtain ⟨x1, x2⟩ := x; simp only [combF, Fo.snoc_app])
          have HA := Lib.hid (show atB s (p1 : Int) ch = true by rw [atB_nat, decide_eq_true hch])
          clear hp1 hch
          go_wp2_with fail
          refine (l1At_any s (p1 : Int) ch W1).mono ?_
          rintro e w9 ⟨rfl, rfl⟩
          rw [HA.out]
          have x0 := HX1.out.cell (i := 0) rfl
          have x1 := HX1.out.cell (i := 1) rfl
          have x2 := HX1.out.cell (i := 2) rfl
          go_wp2_with (at_builtin; refine wpList_push rfl _ _ rfl w.heap.size (.slice A1 pre.len c1') pre bs b1 y1.op y1.n y1.k Y1 c1 rfl rfl HT5.out HK5.out HI1.out HD5.out hpl2 HB5.out.size ?_; intro v6 w6 bs6 ht6 hg6 hin6; obtain ⟨A6, c6, rfl, hc61, hc62⟩ := ht6.slice; have HT6 := Lib.hid ht6; have HG6 := Lib.hid hg6; clear ht6 hg6 hin6 hc61 hc62)
          go_roundw
          case rel =>
            refine ⟨j + 1, p1 + 1, pre.snoc y1.op y1.n y1.k, A6, c6, bs6, hlt, by go_num, by go_num, rfl, by rw [Fo.snoc_len, HPL.out], by omega, HF.out, HT6.out, Below.grown HB5.out HG6.out HB5.out.size (fun g' hg' => ?_)⟩
            obtain ⟨st, b1', k1', k2', rfl, _⟩ := HT5.out
            exact (blk_lt k1' (by unfold blkV; rw [hg']; simp)).1
          case measure => simp [intOf]; omega
    · have e9 : j = cs.length := by omega
      have HF := Lib.hid (show r = some (pre, p) by rw [hpre, e9, List.drop_length]; simp only [partsAt, combF, Fo.app_nil])
      have HT := Lib.hid ht
      have HB := Lib.hid hb
      clear ht hb hpre hpl
      go_wp2_with fail
      go_ret2
      exact ⟨pre, A1, c1', bs, _, rfl, HT.out, HB.out, by rw [HF.out]; exact ⟨rfl, rfl⟩⟩
end Go.Proofs.YtpknegneogdmfaaGreat

namespace Go.Proofs.YtpknegneogdmfaaGreat
open Go.RowKit
set_option maxRecDepth 100000

def combN (N : Int) (pre : Fo) : Option (Fo × Nat) → Option (Nd × Nat)
  | none => none
  | some (k, q) => some (⟨3, N, pre.app k⟩, q)

set_option maxHeartbeats 4000000 in
theorem l1Call_any (s : List UInt8) (hs : s.length ≤ 1000000000000) (d : Nat) (ih : ParC s d) (ch : UInt8) (i : Nat) (hch : s[i]? = some ch) (h65 : 65 ≤ ch.toNat) (w : World) :
    Calls Tryz.prog 75 #[.string ⟨s.toArray⟩, .int .i64 (i : Int), .int .i64 (d : Int)] w (ParPost (callAt s (parseAt s d) ch i) w) := by
  have hlt := (List.getElem?_eq_some_iff.1 hch).1
  have hix := idx_of hch
  have h256 : ch.toNat < 256 := ch.toNat_lt
  have eu : IntKind.u8.wrap ((ch.toNat : Int) - 65) = (ch.toNat : Int) - 65 := by rw [IntKind.wrap_u8]; omega
  have ei : IntKind.i64.wrap ((ch.toNat : Int) - 65) = (ch.toNat : Int) - 65 := by rw [IntKind.wrap_i64]; omega
  obtain ⟨W, hW⟩ : ∃ W, W = (w.alloc (Obj.cells #[.int .i64 0, .int .i64 0, .slice none 0 0] 36)).alloc (Obj.cells #[.int .i64 3, .int .i64 ((ch.toNat : Int) - 65), .slice none 0 0] 36) := ⟨_, rfl⟩
  obtain ⟨hbW, hr0, hr8⟩ := two_boxes w 36 36 #[Value.int .i64 0, Value.int .i64 0, Value.slice none 0 0] #[Value.int .i64 3, Value.int .i64 ((ch.toNat : Int) - 65), Value.slice none 0 0]
  rw [← hW] at hbW hr0 hr8
  have HZ := Lib.hid (show w.heap.size + 1 + 1 ≤ W.heap.size by rw [hW]; simp)
  have HB := Lib.hid hbW
  have HR0 := Lib.hid hr0
  have HR8 := Lib.hid hr8
  have HIH := Lib.hid ih
  have HI3 := Lib.hid (show I64 3 ∧ I64 ((ch.toNat : Int) - 65) from ⟨by unfold I64; omega, by unfold I64; omega⟩)
  obtain ⟨r, hr⟩ : ∃ r, r = callAt s (parseAt s d) ch i := ⟨_, rfl⟩
  rw [← hr]
  have HX := Lib.hid hr
  clear hbW hr0 hr8 ih hr
  go_enter Tryz.func75, Tryz.ntmps75
  go_upto_region 2 with fail
  rw [← hW]
  clear hW hix eu ei
  by_cases ho : s[i + 1]? = some 40
  rotate_left
  · have HF := Lib.hid (show r = none by rw [HX.out]; unfold callAt; rw [if_neg ho])
    have HA := Lib.hid (show atB s ((i : Int) + 1) 40 = false by rw [show (i : Int) + 1 = ((i + 1 : Nat) : Int) by omega, atB_nat, decide_eq_false ho])
    clear ho
    go_wp2_with fail
    refine (l1At_lit s ((i : Int) + 1) 40 40 rfl W).mono ?_
    rintro e w9 ⟨rfl, rfl⟩
    rw [HA.out]
    obtain ⟨t0, t1, t2⟩ := put3_cells HR0.out 3 ((ch.toNat : Int) - 65) (.slice none 0 0)
    have f0 := HR0.out.free 0
    have f1 := HR0.out.free 1
    have f2 := HR0.out.free 2
    have d0 := HR0.out.cell (i := 0) rfl
    have d1 := HR0.out.cell (i := 1) rfl
    have d2 := HR0.out.cell (i := 2) rfl
    have v0 := HR8.out.cell (i := 0) rfl
    have v1 := HR8.out.cell (i := 1) rfl
    have v2 := HR8.out.cell (i := 2) rfl
    unfold put3 at t0 t1 t2
    go_wp2_with fail
    refine bodyPost_ret (v := .tuple #[.agg #[.int .i64 3, .int .i64 ((ch.toNat : Int) - 65), .slice none 0 0], .int .i64 (-1)]) ?_ rfl (by rw [HF.out]; exact par_none HB.out (Nat.le_refl w.heap.size) ⟨3, (ch.toNat : Int) - 65, .nil⟩ HI3.out (Tree.none W w.heap.size) (by simp))
    simp [results, Tryz.f75, go_sem, t0, t1, t2]
  have HA := Lib.hid (show atB s ((i : Int) + 1) 40 = true by rw [show (i : Int) + 1 = ((i + 1 : Nat) : Int) by omega, atB_nat, decide_eq_true ho])
  go_wp2_with fail
  refine (l1At_lit s ((i : Int) + 1) 40 40 rfl W).mono ?_
  rintro e w9 ⟨rfl, rfl⟩
  rw [HA.out]
  clear HA
  by_cases hz : s[i + 2]? = some 41
  · have HF := Lib.hid (show r = some (⟨3, (ch.toNat : Int) - 65, .nil⟩, i + 3) by rw [HX.out]; unfold callAt; rw [if_pos ho, if_pos hz])
    have HA := Lib.hid (show atB s ((i : Int) + 2) 41 = true by rw [show (i : Int) + 2 = ((i + 2 : Nat) : Int) by omega, atB_nat, decide_eq_true hz])
    clear ho hz
    go_wp2_with fail
    refine (l1At_lit s ((i : Int) + 2) 41 41 rfl W).mono ?_
    rintro e w9 ⟨rfl, rfl⟩
    rw [HA.out]
    obtain ⟨t0, t1, t2⟩ := put3_cells HR0.out 3 ((ch.toNat : Int) - 65) (.slice none 0 0)
    have f0 := HR0.out.free 0
    have f1 := HR0.out.free 1
    have f2 := HR0.out.free 2
    have d0 := HR0.out.cell (i := 0) rfl
    have d1 := HR0.out.cell (i := 1) rfl
    have d2 := HR0.out.cell (i := 2) rfl
    have v0 := HR8.out.cell (i := 0) rfl
    have v1 := HR8.out.cell (i := 1) rfl
    have v2 := HR8.out.cell (i := 2) rfl
    unfold put3 at t0 t1 t2
    go_wp2_with fail
    refine bodyPost_ret (v := .tuple #[.agg #[.int .i64 3, .int .i64 ((ch.toNat : Int) - 65), .slice none 0 0], .int .i64 ((i : Int) + 2 + 1)]) ?_ rfl (by rw [HF.out]; exact (show ParPost _ w (.returned (.tuple #[_, .int .i64 ((i : Int) + 2 + 1)])) _ by rw [show (i : Int) + 2 + 1 = ((i + 3 : Nat) : Int) by omega]; exact par_some HB.out (Nat.le_refl w.heap.size) ⟨3, (ch.toNat : Int) - 65, .nil⟩ (i + 3) HI3.out (Tree.none W w.heap.size) (by simp)))
    simp [results, Tryz.f75, go_sem, t0, t1, t2]
  have HX2 := Lib.hid (show r = combN ((ch.toNat : Int) - 65) .nil (argsAt s (parseAt s d) 4 (i + 2)) by
    rw [HX.out]; unfold callAt; rw [if_pos ho, if_neg hz]
    cases argsAt s (parseAt s d) 4 (i + 2) with
    | none => rfl
    | some x => obtain ⟨x1, x2⟩ := x; rfl)
  have HA := Lib.hid (show atB s ((i : Int) + 2) 41 = false by rw [show (i : Int) + 2 = ((i + 2 : Nat) : Int) by omega, atB_nat, decide_eq_false hz])
  clear ho hz
  go_wp2_with fail
  refine (l1At_lit s ((i : Int) + 2) 41 41 rfl W).mono ?_
  rintro e w9 ⟨rfl, rfl⟩
  rw [HA.out]
  clear HA
  go_wp2_with fail
  go_loopw [1, 9] (fun a u wr => ∃ (j p : Nat) (pre : Fo) (A1 : Option Addr) (c1 : Nat) (bs : List Nat), j ≤ 4 ∧ u = .int .i64 (j : Int) ∧ a = .int .i64 (p : Int) ∧ pre.len = j ∧ p ≤ s.length + 3 ∧
      r = combN ((ch.toNat : Int) - 65) pre (argsAt s (parseAt s d) (4 - j) p) ∧ Tree wr (w.heap.size + 1 + 1) (.slice A1 pre.len c1) pre bs ∧ Row wr w.heap.size 36 #[.int .i64 0, .int .i64 0, .slice none 0 0] ∧
      Row wr (w.heap.size + 1) 36 #[.int .i64 3, .int .i64 ((ch.toNat : Int) - 65), .slice A1 pre.len c1] ∧ Below w.heap.size w wr ∧ w.heap.size + 1 + 1 ≤ wr.heap.size) (fun _ u _ => 4 - (intOf u).toNat)
  case atStart => exact ⟨0, i + 2, .nil, none, 0, [], by omega, rfl, by go_num, rfl, by omega, HX2.out, Tree.none _ _, HR0.out, HR8.out, HB.out, HZ.out⟩
  case round =>
    clear HR0 HR8 HB HX HX2 HZ
    obtain ⟨j, p, pre, A1, c1', bs, hj, rfl, rfl, hpl, hp, hpre, ht, hr0, hr8, hb, hz⟩ := hrel
    have HT := Lib.hid ht
    have HR0 := Lib.hid hr0
    have HR8 := Lib.hid hr8
    have HB := Lib.hid hb
    have HPRE := Lib.hid hpre
    have HPL := Lib.hid hpl
    have HZ := Lib.hid hz
    have hpl2 : pre.len ≤ 1048576 := by omega
    clear hpl ht hr0 hr8 hb hpre hz
    by_cases h4 : j < 4
    rotate_left
    · have e4 : j = 4 := by omega
      have HF := Lib.hid (show r = none by rw [HPRE.out, e4]; rfl)
      have HT' := Lib.hid (HT.out.lower (base' := w.heap.size) (by omega))
      have HAP := Lib.hid (show w.heap.size ∉ bs from fun h => by have := (HT.out.lt _ h).1; omega)
      obtain ⟨t0, t1, t2⟩ := put3_cells HR0.out 3 ((ch.toNat : Int) - 65) (.slice A1 pre.len c1')
      have f0 := HR0.out.free 0
      have f1 := HR0.out.free 1
      have f2 := HR0.out.free 2
      have d0 := HR0.out.cell (i := 0) rfl
      have d1 := HR0.out.cell (i := 1) rfl
      have d2 := HR0.out.cell (i := 2) rfl
      have v0 := HR8.out.cell (i := 0) rfl
      have v1 := HR8.out.cell (i := 1) rfl
      have v2 := HR8.out.cell (i := 2) rfl
      unfold put3 at t0 t1 t2
      go_wp2_with fail
      refine bodyPost_ret (v := .tuple #[.agg #[.int .i64 3, .int .i64 ((ch.toNat : Int) - 65), .slice A1 pre.len c1'], .int .i64 (-1)]) ?_ rfl (by rw [HF.out]; exact par_none HB.out (Nat.le_refl w.heap.size) ⟨3, (ch.toNat : Int) - 65, pre⟩ HI3.out HT'.out HAP.out)
      simp [results, Tryz.f75, go_sem, t0, t1, t2]
    have HCP := Lib.hid (HIH.out p wr hp)
    obtain ⟨m4, hm4⟩ : ∃ m4, 4 - j = m4 + 1 := ⟨3 - j, by omega⟩
    have HM4 := Lib.hid (show m4 = 4 - (j + 1) by omega)
    rw [hm4] at HPRE
    clear hm4
    go_wp2_with fail
    refine HCP.out.mono ?_
    rintro e w1 ⟨y1, Y1, c1, b1, q1, rfl, hi1, ht1, hb1, hres1⟩
    obtain ⟨W1, hW1⟩ : ∃ W1, W1 = w1.alloc (Obj.cells #[.int .i64 y1.op, .int .i64 y1.n, .slice Y1 y1.k.len c1] 36) := ⟨_, rfl⟩
    have hbw1 : Below w1.heap.size w1 W1 := by rw [hW1]; exact (Below.refl _ _).alloc (Nat.le_refl _) _
    have hb01 := hb1.trans (hbw1.mono hb1.size)
    have HX1 := Lib.hid (show Row W1 w1.heap.size 36 #[.int .i64 y1.op, .int .i64 y1.n, .slice Y1 y1.k.len c1] by rw [hW1]; exact Row.fresh _ _ _)
    have HT5 := Lib.hid (HT.out.over hb01)
    have HK5 := Lib.hid ((ht1.over hbw1).lower (base' := w.heap.size + 1 + 1) HZ.out)
    have HD5 := Lib.hid (show ∀ b, b ∈ bs → b ∈ b1 → False from fun q h1 h2 => by
      have e1 := (HT.out.lt q h1).2
      have e2 := (ht1.lt q h2).1
      omega)
    have HB5 := Lib.hid (HB.out.trans (hb01.mono HB.out.size))
    have HR05 := Lib.hid (HR0.out.below hb01 HR0.out.size)
    have HR85 := Lib.hid (HR8.out.below hb01 HR8.out.size)
    have HZ5 := Lib.hid (Nat.le_trans HZ.out hb01.size)
    have HOB := Lib.hid (show ∀ g, (Value.slice A1 pre.len c1').ownBlock = some g → w.heap.size + 1 + 1 ≤ g ∧ g < wr.heap.size from fun g hg => by
      obtain ⟨st, b1', k1', k2', rfl, _⟩ := HT.out
      exact blk_lt k1' (by unfold blkV; rw [hg]; simp))
    have HGG := Lib.hid (show wr.heap.size ≤ w1.heap.size from hb1.size)
    have HI1 := Lib.hid hi1
    have HS1 := Lib.hid hres1
    clear ht1 hb1 hbw1 hb01 hi1 hres1 HCP HT HB HR0 HR8
    go_upto_region 11 with fail
    rw [← hW1]
    clear hW1
    have x0 := HX1.out.cell (i := 0) rfl
    have x1 := HX1.out.cell (i := 1) rfl
    have x2 := HX1.out.cell (i := 2) rfl
    have s0 := HR85.out.cell (i := 0) rfl
    have s1 := HR85.out.cell (i := 1) rfl
    have s2 := HR85.out.cell (i := 2) rfl
    go_wp2_with (at_builtin; refine wpList_push rfl _ _ rfl (w.heap.size + 1 + 1) (.slice A1 pre.len c1') pre bs b1 y1.op y1.n y1.k Y1 c1 rfl rfl HT5.out HK5.out HI1.out HD5.out hpl2 HZ5.out ?_
                 intro v6 w6 bs6 ht6 hg6 hin6
                 obtain ⟨A6, c6, rfl, hc61, hc62⟩ := ht6.slice
                 have hr86 := row_grown HR85.out hg6 (fun e => by have := HOB.out _ e.symm; omega)
                 have f86 := hr86.free 2
                 have s86 := hr86.cell (i := 2) rfl
                 have HR86 := Lib.hid hr86
                 have HR06 := Lib.hid (row_grown HR05.out hg6 (fun e => by have := HOB.out _ e.symm; omega))
                 have HT6 := Lib.hid ht6
                 have HG6 := Lib.hid hg6
                 clear ht6 hg6 hin6 hc61 hc62 hr86)
    obtain ⟨W7, hW7⟩ : ∃ W7, W7 = w6.setCell ⟨w.heap.size + 1, 2, none⟩ (.slice A6 (pre.snoc y1.op y1.n y1.k).len c6) := ⟨_, rfl⟩
    rw [← hW7]
    have HT7 := Lib.hid (show Tree W7 (w.heap.size + 1 + 1) (.slice A6 (pre.snoc y1.op y1.n y1.k).len c6) (pre.snoc y1.op y1.n y1.k) bs6 by
      rw [hW7]; exact HT6.out.keep fun q hq => Below.heap_setCell _ _ _ q (by have := (HT6.out.lt q hq).1; dsimp only; omega))
    have HR87 := Lib.hid (show Row W7 (w.heap.size + 1) 36 #[.int .i64 3, .int .i64 ((ch.toNat : Int) - 65), .slice A6 (pre.snoc y1.op y1.n y1.k).len c6] by rw [hW7]; exact HR86.out.put 2 _)
    have HR07 := Lib.hid (show Row W7 w.heap.size 36 #[.int .i64 0, .int .i64 0, .slice none 0 0] by rw [hW7]; exact HR06.out.apart (by simp) _)
    have HB7 := Lib.hid (show Below w.heap.size w W7 by
      rw [hW7]
      exact (Below.grown HB5.out HG6.out HB5.out.size (fun g' hg' => by have := HOB.out g' hg'; omega)).setCell (Nat.le_succ _) _)
    have HZ7 := Lib.hid (show w.heap.size + 1 + 1 ≤ W7.heap.size by have h1 := HG6.out.size; have h2 := HZ5.out; rw [hW7]; simp only [World.size_setCell]; omega)
    have HT7' := Lib.hid (HT7.out.lower (base' := w.heap.size) (by omega))
    have HAP := Lib.hid (show w.heap.size ∉ bs6 from fun h => by have := (HT7.out.lt _ h).1; omega)
    clear hW7 x0 x1 x2 s0 s1 s2 f86 s86 HR86 HR06 HT6 HG6 HX1 HR05 HR85 HT5 HK5 HD5 HB5
    cases hp1 : parseAt s d p with
    | none =>
      rw [hp1] at HS1
      have hq1 : q1 = -1 := HS1.out
      subst hq1
      have HF := Lib.hid (show r = none by rw [HPRE.out]; simp only [argsAt, hp1, combN])
      clear hp1
      refine (l1At_lit s (-1) 41 41 rfl W7).mono ?_
      rintro e w9 ⟨rfl, rfl⟩
      rw [atB_none]
      go_wp2_with fail
      refine (l1At_lit s (-1) 44 44 rfl W7).mono ?_
      rintro e w9 ⟨rfl, rfl⟩
      rw [atB_none]
      obtain ⟨t0, t1, t2⟩ := put3_cells HR07.out 3 ((ch.toNat : Int) - 65) (.slice A6 (pre.snoc y1.op y1.n y1.k).len c6)
      have f0 := HR07.out.free 0
      have f1 := HR07.out.free 1
      have f2 := HR07.out.free 2
      have d0 := HR07.out.cell (i := 0) rfl
      have d1 := HR07.out.cell (i := 1) rfl
      have d2 := HR07.out.cell (i := 2) rfl
      have v0 := HR87.out.cell (i := 0) rfl
      have v1 := HR87.out.cell (i := 1) rfl
      have v2 := HR87.out.cell (i := 2) rfl
      unfold put3 at t0 t1 t2
      go_wp2_with fail
      refine bodyPost_ret (v := .tuple #[.agg #[.int .i64 3, .int .i64 ((ch.toNat : Int) - 65), .slice A6 (pre.snoc y1.op y1.n y1.k).len c6], .int .i64 (-1)]) ?_ rfl (by rw [HF.out]; exact par_none HB7.out (Nat.le_refl w.heap.size) ⟨3, (ch.toNat : Int) - 65, pre.snoc y1.op y1.n y1.k⟩ HI3.out HT7'.out HAP.out)
      simp [results, Tryz.f75, go_sem, t0, t1, t2]
    | some pr1 =>
      obtain ⟨y1', p1⟩ := pr1
      rw [hp1] at HS1
      obtain ⟨rfl, hq1⟩ : y1 = y1' ∧ q1 = (p1 : Int) := HS1.out
      subst hq1
      by_cases hc : s[p1]? = some 41
      · have hl1 := (List.getElem?_eq_some_iff.1 hc).1
        have HF := Lib.hid (show r = some (⟨3, (ch.toNat : Int) - 65, pre.snoc y1.op y1.n y1.k⟩, p1 + 1) by
          rw [HPRE.out]; simp only [argsAt, hp1]; rw [if_pos hc]; simp only [combN]; rw [← Fo.snoc_app, Fo.app_nil])
        have HA := Lib.hid (show atB s (p1 : Int) 41 = true by rw [atB_nat, decide_eq_true hc])
        clear hp1 hc
        refine (l1At_lit s (p1 : Int) 41 41 rfl W7).mono ?_
        rintro e w9 ⟨rfl, rfl⟩
        rw [HA.out]
        obtain ⟨t0, t1, t2⟩ := put3_cells HR07.out 3 ((ch.toNat : Int) - 65) (.slice A6 (pre.snoc y1.op y1.n y1.k).len c6)
        have f0 := HR07.out.free 0
        have f1 := HR07.out.free 1
        have f2 := HR07.out.free 2
        have d0 := HR07.out.cell (i := 0) rfl
        have d1 := HR07.out.cell (i := 1) rfl
        have d2 := HR07.out.cell (i := 2) rfl
        have v0 := HR87.out.cell (i := 0) rfl
        have v1 := HR87.out.cell (i := 1) rfl
        have v2 := HR87.out.cell (i := 2) rfl
        unfold put3 at t0 t1 t2
        go_wp2_with fail
        refine bodyPost_ret (v := .tuple #[.agg #[.int .i64 3, .int .i64 ((ch.toNat : Int) - 65), .slice A6 (pre.snoc y1.op y1.n y1.k).len c6], .int .i64 ((p1 : Int) + 1)]) ?_ rfl (by rw [HF.out]; exact par_some HB7.out (Nat.le_refl w.heap.size) ⟨3, (ch.toNat : Int) - 65, pre.snoc y1.op y1.n y1.k⟩ (p1 + 1) HI3.out HT7'.out HAP.out)
        simp [results, Tryz.f75, go_sem, t0, t1, t2]
      have HA := Lib.hid (show atB s (p1 : Int) 41 = false by rw [atB_nat, decide_eq_false hc])
      by_cases hc4 : s[p1]? = some 44
      rotate_left
      · have HF := Lib.hid (show r = none by rw [HPRE.out]; simp only [argsAt, hp1]; rw [if_neg hc, if_neg hc4]; rfl)
        have HA4 := Lib.hid (show atB s (p1 : Int) 44 = false by rw [atB_nat, decide_eq_false hc4])
        clear hp1 hc hc4
        refine (l1At_lit s (p1 : Int) 41 41 rfl W7).mono ?_
        rintro e w9 ⟨rfl, rfl⟩
        rw [HA.out]
        go_wp2_with fail
        refine (l1At_lit s (p1 : Int) 44 44 rfl W7).mono ?_
        rintro e w9 ⟨rfl, rfl⟩
        rw [HA4.out]
        obtain ⟨t0, t1, t2⟩ := put3_cells HR07.out 3 ((ch.toNat : Int) - 65) (.slice A6 (pre.snoc y1.op y1.n y1.k).len c6)
        have f0 := HR07.out.free 0
        have f1 := HR07.out.free 1
        have f2 := HR07.out.free 2
        have d0 := HR07.out.cell (i := 0) rfl
        have d1 := HR07.out.cell (i := 1) rfl
        have d2 := HR07.out.cell (i := 2) rfl
        have v0 := HR87.out.cell (i := 0) rfl
        have v1 := HR87.out.cell (i := 1) rfl
        have v2 := HR87.out.cell (i := 2) rfl
        unfold put3 at t0 t1 t2
        go_wp2_with fail
        refine bodyPost_ret (v := .tuple #[.agg #[.int .i64 3, .int .i64 ((ch.toNat : Int) - 65), .slice A6 (pre.snoc y1.op y1.n y1.k).len c6], .int .i64 (-1)]) ?_ rfl (by rw [HF.out]; exact par_none HB7.out (Nat.le_refl w.heap.size) ⟨3, (ch.toNat : Int) - 65, pre.snoc y1.op y1.n y1.k⟩ HI3.out HT7'.out HAP.out)
        simp [results, Tryz.f75, go_sem, t0, t1, t2]
      have hl1 := (List.getElem?_eq_some_iff.1 hc4).1
      have HF := Lib.hid (show r = combN ((ch.toNat : Int) - 65) (pre.snoc y1.op y1.n y1.k) (argsAt s (parseAt s d) (4 - (j + 1)) (p1 + 1)) by
        rw [HPRE.out, ← HM4.out]; simp only [argsAt, hp1]; rw [if_neg hc, if_pos hc4]
        cases argsAt s (parseAt s d) m4 (p1 + 1) with
        | none => rfl
        | some x => obtain ⟨x1, x2⟩ := x; simp only [combN, Fo.snoc_app])
      have HA4 := Lib.hid (show atB s (p1 : Int) 44 = true by rw [atB_nat, decide_eq_true hc4])
      clear hp1 hc hc4
      refine (l1At_lit s (p1 : Int) 41 41 rfl W7).mono ?_
      rintro e w9 ⟨rfl, rfl⟩
      rw [HA.out]
      go_wp2_with fail
      refine (l1At_lit s (p1 : Int) 44 44 rfl W7).mono ?_
      rintro e w9 ⟨rfl, rfl⟩
      rw [HA4.out]
      go_wp2_with fail
      go_roundw
      case rel => exact ⟨j + 1, p1 + 1, pre.snoc y1.op y1.n y1.k, A6, c6, bs6, by omega, by go_num, by go_num, by rw [Fo.snoc_len, HPL.out], by omega, HF.out, HT7.out, HR07.out, HR87.out, HB7.out, HZ7.out⟩
      case measure => simp [intOf]; omega
end Go.Proofs.YtpknegneogdmfaaGreat
