/-
  spec.LibraryValid.
-/
import Derived.Test.YtpknegneogdmfaaGreatLibVD
import Derived.IntWalk
import Derived.BigQuiet
import Derived.Deep.QuietTactic
import Derived.Deep.RegionWith
namespace Go.Proofs.YtpknegneogdmfaaGreat
open Go.RowKit
set_option maxRecDepth 100000

set_option maxHeartbeats 8000000 in
theorem specLibValid_any (ds : List De) (A : Option Addr) (c : Nat) (w : World) (hd : LiesD w 0 w.heap.size A ds) (hdz : sizeD ds ≤ 1048576) :
    Calls Tryz.prog 24 #[.slice A ds.length c] w (Gives (.bool (libOk ds)) w) := by
  have hds := Nat.le_trans (sizeD_len ds) hdz
  unfold libOk
  by_cases h8 : ds.length ≤ 8
  · rw [decide_eq_true h8, Bool.true_and]
    go_enter Tryz.func24, Tryz.ntmps24
    go_wp2
    go_loopw [3] (fun i wr => ∃ (j : Nat), j ≤ ds.length ∧ i = .int .i64 j ∧ Hid (okL ds none ds = okL ds (prevAt ds j) (ds.drop j)) ∧ Below w.heap.size w wr)
      (fun i _ => ds.length - (intOf i).toNat)
    case atStart => exact ⟨0, by omega, rfl, Lib.hid rfl, Below.refl _ _⟩
    case round =>
      obtain ⟨j, hj, rfl, HO, hb⟩ := hrel
      by_cases hlt : j < ds.length
      · have e1 := List.getElem?_eq_getElem hlt
        generalize ds[j] = d at e1
        have HAT := Lib.hid (HO.out.trans (okL_at e1))
        have hkz := sizeD_at e1
        obtain ⟨b, o, A', c', hA, _, hbb, hf, g1, g2, g3, g4, g5, g6, h7, h8', h9⟩ := hd.below hb j d e1
        have hx := (Below.refl wr.heap.size wr).alloc (Nat.le_refl _) (Obj.cells #[Value.int IntKind.i64 d.nm, Value.int IntKind.i64 d.ar, Value.bool d.old, Value.int IntKind.i64 d.op, Value.int IntKind.i64 d.n, Value.slice A' d.k.len c'] 38)
        have hrx := Row.fresh wr 38 #[Value.int IntKind.i64 d.nm, Value.int IntKind.i64 d.ar, Value.bool d.old, Value.int IntKind.i64 d.op, Value.int IntKind.i64 d.n, Value.slice A' d.k.len c']
        have y0 := hrx.cell (i := 0) rfl
        have y1 := hrx.cell (i := 1) rfl
        have HBX := Lib.hid (hb.trans (hx.mono hb.size))
        have HRX := Lib.hid hrx
        have H9 := Lib.hid ((h9.mono_ (Nat.le_refl _) hb.size).up hx)
        have HDX := Lib.hid (hd.up (hb.trans (hx.mono hb.size)))
        have HX := Lib.hid hx
        have HB := Lib.hid hb
        have E1 := Lib.hid e1
        subst hA
        -- the head is not right
        have bad : headOk (prevAt ds j) d = false → Hid (okL ds none ds = false) := fun h => Lib.hid (by rw [HAT.out, h]; rfl)
        by_cases n1 : d.nm < 0
        · have t1 : decide (d.nm < 0) = true := by simpa using n1
          have HF := bad (by simp only [headOk, inVar_mk' (.inl n1), Bool.false_and])
          clear bad
          go_wp2
          go_quiet (fail)
          have HB2 := Lib.hid (below_drewN HBX.out nq)
          clear y0 y1 t1
          go_wp2
          go_ret
          exact ⟨ret_bool (by rw [HF.out]), HB2.out⟩
        have t1 : decide (d.nm < 0) = false := by simpa using n1
        by_cases n2 : 8 ≤ d.nm
        · have t2 : decide (8 ≤ d.nm) = true := by simpa using n2
          have HF := bad (by simp only [headOk, inVar_mk' (.inr n2), Bool.false_and])
          clear bad
          go_wp2
          go_quiet (fail)
          have HB2 := Lib.hid (below_drewN HBX.out nq)
          clear y0 y1 t1 t2
          go_wp2
          go_ret
          exact ⟨ret_bool (by rw [HF.out]), HB2.out⟩
        have t2 : decide (8 ≤ d.nm) = false := by simpa using n2
        have nv : inVar d.nm = true := inVar_mk (by omega) (by omega)
        by_cases n3 : d.ar < 0
        · have t3 : decide (d.ar < 0) = true := by simpa using n3
          have HF := bad (by have : arOk d = false := by unfold arOk; rw [decide_eq_false (by omega)]; rfl
                             simp only [headOk, this, Bool.and_false, Bool.false_and])
          clear bad
          go_wp2
          go_quiet (fail)
          have HB2 := Lib.hid (below_drewN HBX.out nq)
          clear y0 y1 t1 t2 t3
          go_wp2
          go_ret
          exact ⟨ret_bool (by rw [HF.out]), HB2.out⟩
        have t3 : decide (d.ar < 0) = false := by simpa using n3
        by_cases n4 : 3 < d.ar
        · have t4 : decide (3 < d.ar) = true := by simpa using n4
          have HF := bad (by have : arOk d = false := by unfold arOk; rw [decide_eq_false (show ¬ d.ar ≤ 3 by omega), Bool.and_false]
                             simp only [headOk, this, Bool.and_false, Bool.false_and])
          clear bad
          go_wp2
          go_quiet (fail)
          have HB2 := Lib.hid (below_drewN HBX.out nq)
          clear y0 y1 t1 t2 t3 t4
          go_wp2
          go_ret
          exact ⟨ret_bool (by rw [HF.out]), HB2.out⟩
        have t4 : decide (3 < d.ar) = false := by simpa using n4
        have na : arOk d = true := by unfold arOk; rw [decide_eq_true (show 0 ≤ d.ar by omega), decide_eq_true (show d.ar ≤ 3 by omega)]; rfl
        by_cases n5 : j = 0
        · have t5 : decide ((0 : Int) < (j : Int)) = false := by simp [n5]
          have t6 : decide (0 < j) = false := by simp [n5]
          have HGOOD := Lib.hid (show headOk (prevAt ds j) d = true by simp [headOk, nv, na, prevAt, n5, ascB])
          clear n5 nv na
          clear bad
          go_wp2
          go_quiet (fail)
          have HB9 := Lib.hid (below_drewN HBX.out nq)
          have HR9 := Lib.hid (show Row ((wr.alloc (Obj.cells #[Value.int IntKind.i64 d.nm, Value.int IntKind.i64 d.ar, Value.bool d.old, Value.int IntKind.i64 d.op, Value.int IntKind.i64 d.n, Value.slice A' d.k.len c'] 38)).drewN nq) wr.heap.size 38 #[Value.int IntKind.i64 d.nm, Value.int IntKind.i64 d.ar, Value.bool d.old, Value.int IntKind.i64 d.op, Value.int IntKind.i64 d.n, Value.slice A' d.k.len c'] from HRX.out)
          have hq9 := below_drewN (Below.refl (wr.alloc (Obj.cells #[Value.int IntKind.i64 d.nm, Value.int IntKind.i64 d.ar, Value.bool d.old, Value.int IntKind.i64 d.op, Value.int IntKind.i64 d.n, Value.slice A' d.k.len c'] 38)).heap.size (wr.alloc (Obj.cells #[Value.int IntKind.i64 d.nm, Value.int IntKind.i64 d.ar, Value.bool d.old, Value.int IntKind.i64 d.op, Value.int IntKind.i64 d.n, Value.slice A' d.k.len c'] 38))) nq
          have HL9 := Lib.hid (H9.out.up hq9)
          have HD9 := Lib.hid (HDX.out.up hq9)
          clear hq9
          clear y0 y1 t1 t2 t3 t4 t5 t6
          generalize ((wr.alloc (Obj.cells #[Value.int IntKind.i64 d.nm, Value.int IntKind.i64 d.ar, Value.bool d.old, Value.int IntKind.i64 d.op, Value.int IntKind.i64 d.n, Value.slice A' d.k.len c'] 38)).drewN nq) = w9 at *
          obtain ⟨rr, hrr⟩ : ∃ rr : Nat, d.ar = (rr : Int) := ⟨d.ar.toNat, by omega⟩
          have hr3 : rr ≤ 3 := by omega
          have hbody : bodyOk ds d = (nodeIs d.op d.n d.k (firstS rr) && fitN (ariS ds) d.op d.n d.k) := by unfold bodyOk; rw [hrr]; rfl
          have HBODY := Lib.hid hbody
          have hrd := HR9.out.drew
          have q0 := hrd.cell (i := 1) rfl
          have q3 := hrd.cell (i := 3) rfl
          have q4 := hrd.cell (i := 4) rfl
          have q5 := hrd.cell (i := 5) rfl
          rw [hrr] at q0
          have HZ9 := Lib.hid HR9.out.size
          have hbd : Below w9.heap.size w9 w9.drew := (Below.refl _ _).drew
          have HF9 := Lib.hid (l1First_any rr (by omega) w9.drew)
          have HBD := Lib.hid hbd
          have HLD := Lib.hid (HL9.out.up hbd)
          have HDD := Lib.hid (HD9.out.up hbd)
          have hkl : d.k.len ≤ maxLen := Nat.le_trans h7 h8'
          have HKL := Lib.hid hkl
          clear hbody hrd hbd hkl hrr
          generalize hS : firstS rr = SS at HBODY HF9
          clear hS
          cases hv : nodeIs d.op d.n d.k SS with
          | false =>
            have HF := Lib.hid (show okL ds none ds = false by rw [HAT.out, HBODY.out, hv]; simp)
            have HV := Lib.hid hv
            clear hv HAT HBODY
            go_wp2_with fail
            first
              | (go_region_with (first
                  | (go_at_call 42
                     refine HF9.out.mono ?_
                     rintro e w3 ⟨A3, c3, rfl, hB3, hb3⟩
                     have u3 := (hb3.cell (p := ⟨wr.heap.size, 3, none⟩) HZ9.out).trans q3
                     have u4 := (hb3.cell (p := ⟨wr.heap.size, 4, none⟩) HZ9.out).trans q4
                     have u5 := (hb3.cell (p := ⟨wr.heap.size, 5, none⟩) HZ9.out).trans q5)
                  | (go_at_call 41
                     refine (l1Is_any d.op d.n d.k A' c' SS A3 c3 w3 (HLD.out.up hb3) HKL.out (hB3.mono_ (Nat.zero_le _) (Nat.le_refl _))).mono ?_
                     rintro e w4 ⟨rfl, hb4⟩
                     rw [HV.out])))
              | fail
            all_goals
              have HB2 := Lib.hid (HB9.out.trans ((HBD.out.trans (hb3.trans (hb4.mono hb3.size))).mono HB9.out.size))
              clear hb3 hb4 hB3 q0 q3 q4 q5 u3 u4 u5
              go_wp2
              go_ret
              exact ⟨ret_bool (by rw [HF.out]), HB2.out⟩
          | true =>
            rw [hv, Bool.true_and] at HBODY
            have HV := Lib.hid hv
            clear hv
            obtain ⟨zf, hzf⟩ : ∃ zf, zf = fitN (ariS ds) d.op d.n d.k := ⟨_, rfl⟩
            rw [← hzf] at HBODY
            have HZF := Lib.hid hzf
            clear hzf
            have HNX := Lib.hid (show okL ds none ds = (zf && okL ds (prevAt ds (j + 1)) (ds.drop (j + 1))) by rw [HAT.out, HBODY.out, HGOOD.out, Bool.true_and])
            clear HAT HBODY
            go_wp2_with fail
            first
              | (go_region_with (first
                  | (go_at_call 42
                     refine HF9.out.mono ?_
                     rintro e w3 ⟨A3, c3, rfl, hB3, hb3⟩
                     have u3 := (hb3.cell (p := ⟨wr.heap.size, 3, none⟩) HZ9.out).trans q3
                     have u4 := (hb3.cell (p := ⟨wr.heap.size, 4, none⟩) HZ9.out).trans q4
                     have u5 := (hb3.cell (p := ⟨wr.heap.size, 5, none⟩) HZ9.out).trans q5)
                  | (go_at_call 41
                     refine (l1Is_any d.op d.n d.k A' c' SS A3 c3 w3 (HLD.out.up hb3) HKL.out (hB3.mono_ (Nat.zero_le _) (Nat.le_refl _))).mono ?_
                     rintro e w4 ⟨rfl, hb4⟩
                     rw [HV.out]
                     have v3 := (hb4.cell (p := ⟨wr.heap.size, 3, none⟩) (Nat.lt_of_lt_of_le HZ9.out hb3.size)).trans u3
                     have v4 := (hb4.cell (p := ⟨wr.heap.size, 4, none⟩) (Nat.lt_of_lt_of_le HZ9.out hb3.size)).trans u4
                     have v5 := (hb4.cell (p := ⟨wr.heap.size, 5, none⟩) (Nat.lt_of_lt_of_le HZ9.out hb3.size)).trans u5)
                  | (go_at_call 43
                     refine (l2Fit_any d.k.size ds (some ⟨b, o, none⟩) c hds d.op d.n d.k A' c' w4 rfl ((HDD.out.up hb3).up hb4) ((HLD.out.up hb3).up hb4) (by omega)).mono ?_
                     rintro e w5 ⟨rfl, hb5⟩
                     rw [← HZF.out])))
              | fail
            all_goals
              have HB2 := Lib.hid (HB9.out.trans ((HBD.out.trans (hb3.trans ((hb4.trans (hb5.mono hb4.size)).mono hb3.size))).mono HB9.out.size))
              clear hb3 hb4 hb5 hB3 q0 q3 q4 q5 u3 u4 u5 v3 v4 v5 HF9 HLD HDD HL9 HD9 HR9
              cases zf with
              | true =>
                go_wp2
                go_roundw
                case rel => exact ⟨j + 1, hlt, by go_num, Lib.hid (by rw [HNX.out, Bool.true_and]), HB2.out⟩
                case measure => simp [intOf]; omega
              | false =>
                go_wp2
                go_ret
                exact ⟨ret_bool (by rw [HNX.out, Bool.false_and]), HB2.out⟩
        · have t5 : decide ((0 : Int) < (j : Int)) = true := by simp; omega
          have t6 : decide (0 < j) = true := by simp; omega
          obtain ⟨i, hi⟩ : ∃ i, j = i + 1 := ⟨j - 1, by omega⟩
          have e2 := List.getElem?_eq_getElem (l := ds) (i := i) (by omega)
          generalize ds[i]'(by omega) = dp at e2
          obtain ⟨bp, op', _, _, hAp, _, hbp, _, gp, _⟩ := HDX.out i dp e2
          obtain ⟨rfl, rfl⟩ : b = bp ∧ o = op' := by simpa using hAp
          have hw : IntKind.i64.wrap ((j : Int) - 1) = (i : Int) := (IntWalk.i64_in _ (by omega)).trans (by omega)
          have hpv : prevAt ds j = some dp.nm := by rw [hi]; exact prevAt_succ e2
          have hil : i < ds.length := by omega
          have hil2 : (i : Int) < (ds.length : Int) := by omega
          have hil0 : (0 : Int) ≤ (i : Int) := by omega
          clear hAp e2
          by_cases n6 : d.nm ≤ dp.nm
          · have t7 : decide (d.nm ≤ dp.nm) = true := by simpa using n6
            have HF := bad (by simp [headOk, nv, na, hpv, ascB]; omega)
            clear hi hpv n6 nv na
            clear bad
            go_wp2
            go_quiet (fail)
            have HB2 := Lib.hid (below_drewN HBX.out nq)
            clear y0 y1 t1 t2 t3 t4 t5 t6 t7 hw gp
            go_wp2
            go_ret
            exact ⟨ret_bool (by rw [HF.out]), HB2.out⟩
          · have t7 : decide (d.nm ≤ dp.nm) = false := by simpa using n6
            have HGOOD := Lib.hid (show headOk (prevAt ds j) d = true by simp [headOk, nv, na, hpv, ascB]; omega)
            clear hi hpv n6 nv na
            clear bad
            go_wp2
            go_quiet (fail)
            have HB9 := Lib.hid (below_drewN HBX.out nq)
            have HR9 := Lib.hid (show Row ((wr.alloc (Obj.cells #[Value.int IntKind.i64 d.nm, Value.int IntKind.i64 d.ar, Value.bool d.old, Value.int IntKind.i64 d.op, Value.int IntKind.i64 d.n, Value.slice A' d.k.len c'] 38)).drewN nq) wr.heap.size 38 #[Value.int IntKind.i64 d.nm, Value.int IntKind.i64 d.ar, Value.bool d.old, Value.int IntKind.i64 d.op, Value.int IntKind.i64 d.n, Value.slice A' d.k.len c'] from HRX.out)
            have hq9 := below_drewN (Below.refl (wr.alloc (Obj.cells #[Value.int IntKind.i64 d.nm, Value.int IntKind.i64 d.ar, Value.bool d.old, Value.int IntKind.i64 d.op, Value.int IntKind.i64 d.n, Value.slice A' d.k.len c'] 38)).heap.size (wr.alloc (Obj.cells #[Value.int IntKind.i64 d.nm, Value.int IntKind.i64 d.ar, Value.bool d.old, Value.int IntKind.i64 d.op, Value.int IntKind.i64 d.n, Value.slice A' d.k.len c'] 38))) nq
            have HL9 := Lib.hid (H9.out.up hq9)
            have HD9 := Lib.hid (HDX.out.up hq9)
            clear hq9
            clear y0 y1 t1 t2 t3 t4 t5 t6 t7 hw gp
            generalize ((wr.alloc (Obj.cells #[Value.int IntKind.i64 d.nm, Value.int IntKind.i64 d.ar, Value.bool d.old, Value.int IntKind.i64 d.op, Value.int IntKind.i64 d.n, Value.slice A' d.k.len c'] 38)).drewN nq) = w9 at *
            obtain ⟨rr, hrr⟩ : ∃ rr : Nat, d.ar = (rr : Int) := ⟨d.ar.toNat, by omega⟩
            have hr3 : rr ≤ 3 := by omega
            have hbody : bodyOk ds d = (nodeIs d.op d.n d.k (firstS rr) && fitN (ariS ds) d.op d.n d.k) := by unfold bodyOk; rw [hrr]; rfl
            have HBODY := Lib.hid hbody
            have hrd := HR9.out.drew
            have q0 := hrd.cell (i := 1) rfl
            have q3 := hrd.cell (i := 3) rfl
            have q4 := hrd.cell (i := 4) rfl
            have q5 := hrd.cell (i := 5) rfl
            rw [hrr] at q0
            have HZ9 := Lib.hid HR9.out.size
            have hbd : Below w9.heap.size w9 w9.drew := (Below.refl _ _).drew
            have HF9 := Lib.hid (l1First_any rr (by omega) w9.drew)
            have HBD := Lib.hid hbd
            have HLD := Lib.hid (HL9.out.up hbd)
            have HDD := Lib.hid (HD9.out.up hbd)
            have hkl : d.k.len ≤ maxLen := Nat.le_trans h7 h8'
            have HKL := Lib.hid hkl
            clear hbody hrd hbd hkl hrr
            generalize hS : firstS rr = SS at HBODY HF9
            clear hS
            cases hv : nodeIs d.op d.n d.k SS with
            | false =>
              have HF := Lib.hid (show okL ds none ds = false by rw [HAT.out, HBODY.out, hv]; simp)
              have HV := Lib.hid hv
              clear hv HAT HBODY
              go_wp2_with fail
              first
                | (go_region_with (first
                    | (go_at_call 42
                       refine HF9.out.mono ?_
                       rintro e w3 ⟨A3, c3, rfl, hB3, hb3⟩
                       have u3 := (hb3.cell (p := ⟨wr.heap.size, 3, none⟩) HZ9.out).trans q3
                       have u4 := (hb3.cell (p := ⟨wr.heap.size, 4, none⟩) HZ9.out).trans q4
                       have u5 := (hb3.cell (p := ⟨wr.heap.size, 5, none⟩) HZ9.out).trans q5)
                    | (go_at_call 41
                       refine (l1Is_any d.op d.n d.k A' c' SS A3 c3 w3 (HLD.out.up hb3) HKL.out (hB3.mono_ (Nat.zero_le _) (Nat.le_refl _))).mono ?_
                       rintro e w4 ⟨rfl, hb4⟩
                       rw [HV.out])))
                | fail
              all_goals
                have HB2 := Lib.hid (HB9.out.trans ((HBD.out.trans (hb3.trans (hb4.mono hb3.size))).mono HB9.out.size))
                clear hb3 hb4 hB3 q0 q3 q4 q5 u3 u4 u5
                go_wp2
                go_ret
                exact ⟨ret_bool (by rw [HF.out]), HB2.out⟩
            | true =>
              rw [hv, Bool.true_and] at HBODY
              have HV := Lib.hid hv
              clear hv
              obtain ⟨zf, hzf⟩ : ∃ zf, zf = fitN (ariS ds) d.op d.n d.k := ⟨_, rfl⟩
              rw [← hzf] at HBODY
              have HZF := Lib.hid hzf
              clear hzf
              have HNX := Lib.hid (show okL ds none ds = (zf && okL ds (prevAt ds (j + 1)) (ds.drop (j + 1))) by rw [HAT.out, HBODY.out, HGOOD.out, Bool.true_and])
              clear HAT HBODY
              go_wp2_with fail
              first
                | (go_region_with (first
                    | (go_at_call 42
                       refine HF9.out.mono ?_
                       rintro e w3 ⟨A3, c3, rfl, hB3, hb3⟩
                       have u3 := (hb3.cell (p := ⟨wr.heap.size, 3, none⟩) HZ9.out).trans q3
                       have u4 := (hb3.cell (p := ⟨wr.heap.size, 4, none⟩) HZ9.out).trans q4
                       have u5 := (hb3.cell (p := ⟨wr.heap.size, 5, none⟩) HZ9.out).trans q5)
                    | (go_at_call 41
                       refine (l1Is_any d.op d.n d.k A' c' SS A3 c3 w3 (HLD.out.up hb3) HKL.out (hB3.mono_ (Nat.zero_le _) (Nat.le_refl _))).mono ?_
                       rintro e w4 ⟨rfl, hb4⟩
                       rw [HV.out]
                       have v3 := (hb4.cell (p := ⟨wr.heap.size, 3, none⟩) (Nat.lt_of_lt_of_le HZ9.out hb3.size)).trans u3
                       have v4 := (hb4.cell (p := ⟨wr.heap.size, 4, none⟩) (Nat.lt_of_lt_of_le HZ9.out hb3.size)).trans u4
                       have v5 := (hb4.cell (p := ⟨wr.heap.size, 5, none⟩) (Nat.lt_of_lt_of_le HZ9.out hb3.size)).trans u5)
                    | (go_at_call 43
                       refine (l2Fit_any d.k.size ds (some ⟨b, o, none⟩) c hds d.op d.n d.k A' c' w4 rfl ((HDD.out.up hb3).up hb4) ((HLD.out.up hb3).up hb4) (by omega)).mono ?_
                       rintro e w5 ⟨rfl, hb5⟩
                       rw [← HZF.out])))
                | fail
              all_goals
                have HB2 := Lib.hid (HB9.out.trans ((HBD.out.trans (hb3.trans ((hb4.trans (hb5.mono hb4.size)).mono hb3.size))).mono HB9.out.size))
                clear hb3 hb4 hb5 hB3 q0 q3 q4 q5 u3 u4 u5 v3 v4 v5 HF9 HLD HDD HL9 HD9 HR9
                cases zf with
                | true =>
                  go_wp2
                  go_roundw
                  case rel => exact ⟨j + 1, hlt, by go_num, Lib.hid (by rw [HNX.out, Bool.true_and]), HB2.out⟩
                  case measure => simp [intOf]; omega
                | false =>
                  go_wp2
                  go_ret
                  exact ⟨ret_bool (by rw [HNX.out, Bool.false_and]), HB2.out⟩
      · have e9 : j = ds.length := by omega
        have HZ := Lib.hid (show okL ds none ds = true by rw [HO.out, List.drop_eq_nil_iff.2 (by omega)]; rfl)
        clear HO
        go_wp2
        go_ret
        exact ⟨ret_bool (by rw [HZ.out]), hb⟩
  · rw [decide_eq_false h8, Bool.false_and]
    have h9 : decide ((8 : Int) < (ds.length : Int)) = true := by simp; omega
    go_enter Tryz.func24, Tryz.ntmps24
    go_wp2
    go_ret
    exact ⟨rfl, Below.refl _ _⟩
end Go.Proofs.YtpknegneogdmfaaGreat
