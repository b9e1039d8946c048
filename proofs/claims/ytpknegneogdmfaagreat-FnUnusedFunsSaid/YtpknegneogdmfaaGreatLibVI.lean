/-
  impl.LibraryValid. (Written by gen_libvi.py.)
-/
import Derived.Test.YtpknegneogdmfaaGreatLibVD
import Derived.Test.YtpknegneogdmfaaGreatOwnM
import Derived.IntWalk
import Derived.BigQuiet
import Derived.Deep.QuietTactic
import Derived.Deep.RegionWith
namespace Go.Proofs.YtpknegneogdmfaaGreat
open Go.RowKit
set_option maxRecDepth 100000

theorem upto_small (r : Nat) (h : r ≤ 3) : ∀ x ∈ upto r, I64 x := by
  intro x hx
  have := (upto_mem r x).1 hx
  unfold I64
  omega
theorem upto_le (r : Nat) (h : r ≤ 3) : (upto r).length ≤ 1048576 := by
  rw [upto_len]
  omega
theorem isFun_quiet (n : Int) (b : Bool) (hb : inVar n = b) (w : World) : Calls Tryz.prog 23 #[.int .i64 n] w fun e w' => e = .returned (.bool b) ∧ w' = w := by
  subst hb
  by_cases h0 : 0 ≤ n
  · go_enter Tryz.func23, Tryz.ntmps23
    go_wp2
    go_ret
    exact ⟨ret_bool (by simp [inVar, h0]), rfl⟩
  · go_enter Tryz.func23, Tryz.ntmps23
    go_wp2
    go_ret
    exact ⟨ret_bool (by simp [inVar]; omega), rfl⟩

set_option maxHeartbeats 16000000 in
theorem implLibValid_r (ds : List De) (A : Option Addr) (c L B : Nat) (w : World) (hd : LiesD w L B A ds) (hB : B ≤ w.heap.size) (hdz : sizeD ds ≤ 1048576) :
    Calls Tryz.prog 19 #[.slice A ds.length c] w (Gives (.bool (libOk ds)) w) := by
  have hds := Nat.le_trans (sizeD_len ds) hdz
  unfold libOk
  by_cases h8 : ds.length ≤ 8
  · rw [decide_eq_true h8, Bool.true_and]
    have HDEF := Lib.hid (defsByName_any ds A c w L B hd hB hds)
    go_enter Tryz.func19, Tryz.ntmps19
    go_wp2_with fail
    refine HDEF.out.mono ?_
    rintro e w1 ⟨es, rfl, hm1, hent1, hb1, hlt1⟩
    have HKN := Lib.hid hent1.knows
    clear hent1 HDEF
    go_wp2_with fail
    go_loopw [13] (fun i wr => ∃ (j : Nat), j ≤ ds.length ∧ i = .int .i64 j ∧ Hid (okL ds none ds = okL ds (prevAt ds j) (ds.drop j)) ∧ IM wr w.heap.size es ∧ Below w.heap.size w wr ∧ w.heap.size < wr.heap.size)
      (fun i _ => ds.length - (intOf i).toNat)
    case atStart => exact ⟨0, by omega, rfl, Lib.hid rfl, hm1, hb1, hlt1⟩
    case round =>
      clear hm1 hb1 hlt1
      obtain ⟨j, hj, rfl, HO, hm, hb, hn⟩ := hrel
      by_cases hlt : j < ds.length
      · have e1 := List.getElem?_eq_getElem hlt
        generalize ds[j] = d at e1
        have HAT := Lib.hid (HO.out.trans (okL_at e1))
        have hkz := sizeD_at e1
        obtain ⟨b, o, A', c', hA, _, hbb, hf, g1, g2, g3, g4, g5, g6, h7, h8', h9⟩ := hd.below (hb.mono hB) j d e1
        have hx := (Below.refl wr.heap.size wr).alloc (Nat.le_refl _) (Obj.cells #[Value.int IntKind.i64 d.nm, Value.int IntKind.i64 d.ar, Value.bool d.old, Value.int IntKind.i64 d.op, Value.int IntKind.i64 d.n, Value.slice A' d.k.len c'] 38)
        have hrx := Row.fresh wr 38 #[Value.int IntKind.i64 d.nm, Value.int IntKind.i64 d.ar, Value.bool d.old, Value.int IntKind.i64 d.op, Value.int IntKind.i64 d.n, Value.slice A' d.k.len c']
        have y0 := hrx.cell (i := 0) rfl
        have y1 := hrx.cell (i := 1) rfl
        have HBX := Lib.hid (hb.trans (hx.mono hb.size))
        have HRX := Lib.hid hrx
        have HMX := Lib.hid (hm.below hx hn)
        have HLX := Lib.hid (Nat.lt_of_lt_of_le hn hx.size)
        have HL := Lib.hid (show Lies w L B A' 0 d.k from h9.keep (Nat.le_refl _) (Nat.le_refl _) (fun p _ hp => (hb.cell (Nat.lt_of_lt_of_le hp hB)).symm))
        have HDX := Lib.hid ((hd.below (hb.mono hB)).below (hx.mono (Nat.le_trans hB hb.size)))
        have HK1 := Lib.hid h7
        have HK2 := Lib.hid h8'
        have HKL := Lib.hid (Nat.le_trans h7 h8')
        have HKZ := Lib.hid (show d.k.size ≤ 1048576 by omega)
        have E1 := Lib.hid e1
        have HD := Lib.hid hd
        have HB := Lib.hid hb
        subst hA
        clear h9 hx hrx hm hn hkz h7 h8' hb e1 hd
        have bad : headOk (prevAt ds j) d = false → Hid (okL ds none ds = false) := fun h => Lib.hid (by rw [HAT.out, h]; rfl)
        cases nv : inVar d.nm with
        | false =>
          have HF := bad (by simp only [headOk, nv, Bool.false_and])
          have HNV := Lib.hid nv
          clear bad nv
          go_wp2_with fail
          go_quiet ((go_at_call 23; exact Calls.quiet_of_same (isFun_quiet d.nm false HNV.out _)))
          have HB2 := Lib.hid (below_drewN HBX.out nq)
          clear y0 y1 
          go_wp2
          go_ret
          exact ⟨ret_bool (by rw [HF.out]), HB2.out⟩
        | true =>
          have HNV := Lib.hid nv
          by_cases n5 : j = 0
          · have t5 : decide ((0 : Int) < (j : Int)) = false := by simp [n5]
            have t6 : decide (0 < j) = false := by simp [n5]
            have hpv : prevAt ds j = none := by rw [n5]; rfl
            clear n5
            by_cases n3 : d.ar < 0
            · have t3 : decide (d.ar < 0) = true := by simpa using n3
              have HF := bad (by have : arOk d = false := by unfold arOk; rw [decide_eq_false (by omega)]; rfl
                                 simp only [headOk, this, Bool.and_false, Bool.false_and])
              clear bad
              go_wp2_with fail
              go_quiet ((go_at_call 23; exact Calls.quiet_of_same (isFun_quiet d.nm true HNV.out _)))
              have HB2 := Lib.hid (below_drewN HBX.out nq)
              clear y0 y1 t3
              go_wp2
              go_ret
              exact ⟨ret_bool (by rw [HF.out]), HB2.out⟩
            have t3 : decide (d.ar < 0) = false := by simpa using n3
            by_cases n4 : 3 < d.ar
            · have t4 : decide (3 < d.ar) = true := by simpa using n4
              have HF := bad (by have : arOk d = false := by unfold arOk; rw [decide_eq_false (show ¬ d.ar ≤ 3 by omega), Bool.and_false]
                                 simp only [headOk, this, Bool.and_false, Bool.false_and])
              clear bad
              go_wp2_with fail
              go_quiet ((go_at_call 23; exact Calls.quiet_of_same (isFun_quiet d.nm true HNV.out _)))
              have HB2 := Lib.hid (below_drewN HBX.out nq)
              clear y0 y1 t3 t4
              go_wp2
              go_ret
              exact ⟨ret_bool (by rw [HF.out]), HB2.out⟩
            have t4 : decide (3 < d.ar) = false := by simpa using n4
            have na : arOk d = true := by unfold arOk; rw [decide_eq_true (show 0 ≤ d.ar by omega), decide_eq_true (show d.ar ≤ 3 by omega)]; rfl
            have HGOOD := Lib.hid (show headOk (prevAt ds j) d = true by simp [headOk, nv, na, hpv, ascB])
            clear bad nv na hpv
            go_wp2_with fail
            go_quiet ((go_at_call 23; exact Calls.quiet_of_same (isFun_quiet d.nm true HNV.out _)))
            clear t5 t6
            have HB9 := Lib.hid (below_drewN HBX.out nq)
            have HR9 := Lib.hid (show Row ((wr.alloc (Obj.cells #[Value.int IntKind.i64 d.nm, Value.int IntKind.i64 d.ar, Value.bool d.old, Value.int IntKind.i64 d.op, Value.int IntKind.i64 d.n, Value.slice A' d.k.len c'] 38)).drewN nq) wr.heap.size 38 #[Value.int IntKind.i64 d.nm, Value.int IntKind.i64 d.ar, Value.bool d.old, Value.int IntKind.i64 d.op, Value.int IntKind.i64 d.n, Value.slice A' d.k.len c'] from HRX.out)
            have hq9 := below_drewN (Below.refl (wr.alloc (Obj.cells #[Value.int IntKind.i64 d.nm, Value.int IntKind.i64 d.ar, Value.bool d.old, Value.int IntKind.i64 d.op, Value.int IntKind.i64 d.n, Value.slice A' d.k.len c'] 38)).heap.size (wr.alloc (Obj.cells #[Value.int IntKind.i64 d.nm, Value.int IntKind.i64 d.ar, Value.bool d.old, Value.int IntKind.i64 d.op, Value.int IntKind.i64 d.n, Value.slice A' d.k.len c'] 38))) nq
            have HM9 := Lib.hid (HMX.out.below hq9 HLX.out)
            have HN9 := Lib.hid (Nat.lt_of_lt_of_le HLX.out hq9.size)
            have HS9 := Lib.hid (Nat.le_trans HBX.out.size hq9.size)
            clear y0 y1 hq9
            generalize ((wr.alloc (Obj.cells #[Value.int IntKind.i64 d.nm, Value.int IntKind.i64 d.ar, Value.bool d.old, Value.int IntKind.i64 d.op, Value.int IntKind.i64 d.n, Value.slice A' d.k.len c'] 38)).drewN nq) = w9 at *
            obtain ⟨rr, hrr⟩ : ∃ rr : Nat, d.ar = (rr : Int) := ⟨d.ar.toNat, by omega⟩
            have hr3 : rr ≤ 3 := by omega
            clear n3 n4
            have HR3 := Lib.hid hr3
            have HRR := Lib.hid hrr
            have hbody : bodyOk ds d = (nodeIs d.op d.n d.k (firstS rr) && fitN (ariS ds) d.op d.n d.k) := by unfold bodyOk; rw [hrr]; rfl
            have HBODY := Lib.hid hbody
            have HVU := Lib.hid (validOf_upto d.op d.n d.k rr (by omega))
            have HW9 := Lib.hid (Below.refl w9.heap.size w9).drew
            have HZ9 := Lib.hid HR9.out.size
            have HZD := Lib.hid (Nat.lt_of_lt_of_le HZ9.out HW9.out.size)
            have hu := HR9.out
            have hz := HR9.out.drew
            have u0 := hu.cell (i := 0) rfl
            have u1 := hu.cell (i := 1) rfl
            have u2 := hu.cell (i := 2) rfl
            have u3 := hu.cell (i := 3) rfl
            have u4 := hu.cell (i := 4) rfl
            have u5 := hu.cell (i := 5) rfl
            have z0 := hz.cell (i := 0) rfl
            have z1 := hz.cell (i := 1) rfl
            have z2 := hz.cell (i := 2) rfl
            have z3 := hz.cell (i := 3) rfl
            have z4 := hz.cell (i := 4) rfl
            have z5 := hz.cell (i := 5) rfl
            have HLD := Lib.hid ((HL.out.below (HB9.out.mono hB)).below (HW9.out.mono (Nat.le_trans hB HS9.out)))
            have HMD := Lib.hid (HM9.out.below HW9.out HN9.out)
            have HND := Lib.hid (Nat.lt_of_lt_of_le HN9.out HW9.out.size)
            have HSD := Lib.hid (Nat.le_trans HS9.out HW9.out.size)
            clear hbody hrr hr3 hu hz
            cases hv : nodeIs d.op d.n d.k (firstS rr) with
            | false =>
              have HF := Lib.hid (show okL ds none ds = false by rw [HAT.out, HBODY.out, hv]; simp)
              rw [hv] at HVU
              clear hv HAT HBODY
              go_wp2_with fail
              first
                | (go_region_with (first
                    | (go_at_call 35
                       refine (argumentsOf_any d A' c' _ rr HRR.out HR3.out).mono ?_
                       rintro e w4 ⟨v4, rfl, hown4, hb4⟩
                       obtain ⟨ZA, Zc, rfl, hzi4⟩ := own_ints hown4 (upto_small rr HR3.out)
                       have p0 := (hb4.cell (p := ⟨wr.heap.size, 0, none⟩) HZD.out).trans z0
                       have p1 := (hb4.cell (p := ⟨wr.heap.size, 1, none⟩) HZD.out).trans z1
                       have p2 := (hb4.cell (p := ⟨wr.heap.size, 2, none⟩) HZD.out).trans z2
                       have p3 := (hb4.cell (p := ⟨wr.heap.size, 3, none⟩) HZD.out).trans z3
                       have p4 := (hb4.cell (p := ⟨wr.heap.size, 4, none⟩) HZD.out).trans z4
                       have p5 := (hb4.cell (p := ⟨wr.heap.size, 5, none⟩) HZD.out).trans z5
                       clear hown4)
                    | (go_at_call 34
                       refine (implExprValid_any d.op d.n d.k A' c' (upto rr) ZA Zc w4 ((HLD.out.below (hb4.mono (Nat.le_trans hB HSD.out))).mono_ (Nat.zero_le _) (Nat.le_trans hB (Nat.le_trans HSD.out hb4.size))) HKL.out (hzi4.keep (Nat.zero_le _) (Nat.le_refl _) (fun _ _ _ => rfl)) (upto_le rr HR3.out)).mono ?_
                       rintro e w5 ⟨rfl, hb5⟩
                       rw [HVU.out]
                       have hb45 := hb4.trans (hb5.mono hb4.size)
                       have x0 := (hb5.cell (p := ⟨wr.heap.size, 0, none⟩) (Nat.lt_of_lt_of_le HZD.out hb4.size)).trans p0
                       have x1 := (hb5.cell (p := ⟨wr.heap.size, 1, none⟩) (Nat.lt_of_lt_of_le HZD.out hb4.size)).trans p1
                       have x2 := (hb5.cell (p := ⟨wr.heap.size, 2, none⟩) (Nat.lt_of_lt_of_le HZD.out hb4.size)).trans p2
                       have x3 := (hb5.cell (p := ⟨wr.heap.size, 3, none⟩) (Nat.lt_of_lt_of_le HZD.out hb4.size)).trans p3
                       have x4 := (hb5.cell (p := ⟨wr.heap.size, 4, none⟩) (Nat.lt_of_lt_of_le HZD.out hb4.size)).trans p4
                       have x5 := (hb5.cell (p := ⟨wr.heap.size, 5, none⟩) (Nat.lt_of_lt_of_le HZD.out hb4.size)).trans p5
                       clear hzi4)))
                | fail
              all_goals
                have HB2 := Lib.hid (HB9.out.trans ((HW9.out.trans (hb45.mono HW9.out.size)).mono HS9.out))
                clear hb4 hb5 hb45 u0 u1 u2 u3 u4 u5 z0 z1 z2 z3 z4 z5 p0 p1 p2 p3 p4 p5 x0 x1 x2 x3 x4 x5
                go_wp2
                go_ret
                exact ⟨ret_bool (by rw [HF.out]), HB2.out⟩
            | true =>
              rw [hv, Bool.true_and] at HBODY
              rw [hv] at HVU
              have hfit : fitN (ariI ds) d.op d.n d.k = fitN (ariS ds) d.op d.n d.k := fit_of_is hv
              have HSM := Lib.hid (show smallOk d.k 14 80 = true by rw [nodeIs_eq, Bool.and_eq_true] at hv; exact hv.1)
              rw [← hfit] at HBODY
              clear hv hfit
              obtain ⟨zf, hzf⟩ : ∃ zf, zf = fitN (ariI ds) d.op d.n d.k := ⟨_, rfl⟩
              rw [← hzf] at HBODY
              have HZF := Lib.hid hzf
              clear hzf
              have HNX := Lib.hid (show okL ds none ds = (zf && okL ds (prevAt ds (j + 1)) (ds.drop (j + 1))) by rw [HAT.out, HBODY.out, HGOOD.out, Bool.true_and])
              clear HAT HBODY
              go_wp2_with fail
              first
                | (go_region_with (first
                    | (go_at_call 35
                       refine (argumentsOf_any d A' c' _ rr HRR.out HR3.out).mono ?_
                       rintro e w4 ⟨v4, rfl, hown4, hb4⟩
                       obtain ⟨ZA, Zc, rfl, hzi4⟩ := own_ints hown4 (upto_small rr HR3.out)
                       have p0 := (hb4.cell (p := ⟨wr.heap.size, 0, none⟩) HZD.out).trans z0
                       have p1 := (hb4.cell (p := ⟨wr.heap.size, 1, none⟩) HZD.out).trans z1
                       have p2 := (hb4.cell (p := ⟨wr.heap.size, 2, none⟩) HZD.out).trans z2
                       have p3 := (hb4.cell (p := ⟨wr.heap.size, 3, none⟩) HZD.out).trans z3
                       have p4 := (hb4.cell (p := ⟨wr.heap.size, 4, none⟩) HZD.out).trans z4
                       have p5 := (hb4.cell (p := ⟨wr.heap.size, 5, none⟩) HZD.out).trans z5
                       clear hown4)
                    | (go_at_call 34
                       refine (implExprValid_any d.op d.n d.k A' c' (upto rr) ZA Zc w4 ((HLD.out.below (hb4.mono (Nat.le_trans hB HSD.out))).mono_ (Nat.zero_le _) (Nat.le_trans hB (Nat.le_trans HSD.out hb4.size))) HKL.out (hzi4.keep (Nat.zero_le _) (Nat.le_refl _) (fun _ _ _ => rfl)) (upto_le rr HR3.out)).mono ?_
                       rintro e w5 ⟨rfl, hb5⟩
                       rw [HVU.out]
                       have hb45 := hb4.trans (hb5.mono hb4.size)
                       have x0 := (hb5.cell (p := ⟨wr.heap.size, 0, none⟩) (Nat.lt_of_lt_of_le HZD.out hb4.size)).trans p0
                       have x1 := (hb5.cell (p := ⟨wr.heap.size, 1, none⟩) (Nat.lt_of_lt_of_le HZD.out hb4.size)).trans p1
                       have x2 := (hb5.cell (p := ⟨wr.heap.size, 2, none⟩) (Nat.lt_of_lt_of_le HZD.out hb4.size)).trans p2
                       have x3 := (hb5.cell (p := ⟨wr.heap.size, 3, none⟩) (Nat.lt_of_lt_of_le HZD.out hb4.size)).trans p3
                       have x4 := (hb5.cell (p := ⟨wr.heap.size, 4, none⟩) (Nat.lt_of_lt_of_le HZD.out hb4.size)).trans p4
                       have x5 := (hb5.cell (p := ⟨wr.heap.size, 5, none⟩) (Nat.lt_of_lt_of_le HZD.out hb4.size)).trans p5
                       clear hzi4)
                    | (go_at_call 36
                       refine (allCallsFit_any (ariI ds) w.heap.size es d.op d.n d.k A' c' L B w5 (HMD.out.below hb45 HND.out) HKN.out (HLD.out.below (hb45.mono (Nat.le_trans hB HSD.out))) (Nat.le_trans hB (Nat.le_trans HSD.out hb45.size)) (RowsIf.small HSM.out) HK1.out HK2.out HKZ.out).mono ?_
                       rintro e w6 ⟨rfl, hb6⟩
                       rw [← HZF.out]
                       have s0 := (hb6.cell (p := ⟨wr.heap.size, 0, none⟩) (Nat.lt_of_lt_of_le HZD.out hb45.size)).trans x0
                       have s1 := (hb6.cell (p := ⟨wr.heap.size, 1, none⟩) (Nat.lt_of_lt_of_le HZD.out hb45.size)).trans x1
                       have s2 := (hb6.cell (p := ⟨wr.heap.size, 2, none⟩) (Nat.lt_of_lt_of_le HZD.out hb45.size)).trans x2
                       have s3 := (hb6.cell (p := ⟨wr.heap.size, 3, none⟩) (Nat.lt_of_lt_of_le HZD.out hb45.size)).trans x3
                       have s4 := (hb6.cell (p := ⟨wr.heap.size, 4, none⟩) (Nat.lt_of_lt_of_le HZD.out hb45.size)).trans x4
                       have s5 := (hb6.cell (p := ⟨wr.heap.size, 5, none⟩) (Nat.lt_of_lt_of_le HZD.out hb45.size)).trans x5)))
                | fail
              all_goals
                have hb46 := hb45.trans (hb6.mono hb45.size)
                have HB2 := Lib.hid (HB9.out.trans ((HW9.out.trans (hb46.mono HW9.out.size)).mono HS9.out))
                have HM2 := Lib.hid (HMD.out.below hb46 HND.out)
                have HN2 := Lib.hid (Nat.lt_of_lt_of_le HND.out hb46.size)
                clear hb4 hb5 hb45 hb6 hb46 u0 u1 u2 u3 u4 u5 z0 z1 z2 z3 z4 z5 p0 p1 p2 p3 p4 p5 x0 x1 x2 x3 x4 x5 s0 s1 s2 s3 s4 s5
                cases zf with
                | true =>
                  go_wp2
                  go_roundw
                  case rel => exact ⟨j + 1, hlt, by go_num, Lib.hid (by rw [HNX.out, Bool.true_and]), HM2.out, HB2.out, HN2.out⟩
                  case measure => simp [intOf]; omega
                | false =>
                  go_wp2
                  go_ret
                  exact ⟨ret_bool (by rw [HNX.out, Bool.false_and]), HB2.out⟩
          · have t5 : decide ((0 : Int) < (j : Int)) = true := by simp; omega
            have t6 : decide (0 < j) = true := by simp; omega
            obtain ⟨i, hi⟩ : ∃ i, j = i + 1 := ⟨j - 1, by omega⟩
            have e2 := List.getElem?_eq_getElem (l := ds) (i := i) (by omega)
            generalize ds[i]'(by omega) = dp at e2
            obtain ⟨bp, op', _, _, hAp, _, hbp, _, gp, _⟩ := HDX.out i dp e2
            obtain ⟨rfl, rfl⟩ : b = bp ∧ o = op' := by simpa using hAp
            have hw : IntKind.i64.wrap ((j : Int) - 1) = (i : Int) := (IntWalk.i64_in _ (by omega)).trans (by omega)
            have hpv : prevAt ds j = some dp.nm := by rw [hi]; exact prevAt_succ e2
            have hil : i < ds.length := by omega
            have hil2 : (i : Int) < (ds.length : Int) := by omega
            have hil0 : (0 : Int) ≤ (i : Int) := by omega
            clear hAp e2
            by_cases n6 : d.nm ≤ dp.nm
            · have t7 : decide (d.nm ≤ dp.nm) = true := by simpa using n6
              have HF := bad (by simp [headOk, nv, hpv, ascB]; omega)
              clear hi hpv n6 bad nv
              go_wp2_with fail
              go_quiet ((go_at_call 23; exact Calls.quiet_of_same (isFun_quiet d.nm true HNV.out _)))
              have HB2 := Lib.hid (below_drewN HBX.out nq)
              clear y0 y1 gp hbp hw t5 t6 t7
              go_wp2
              go_ret
              exact ⟨ret_bool (by rw [HF.out]), HB2.out⟩
            · have t7 : decide (d.nm ≤ dp.nm) = false := by simpa using n6
              clear hi
              by_cases n3 : d.ar < 0
              · have t3 : decide (d.ar < 0) = true := by simpa using n3
                have HF := bad (by have : arOk d = false := by unfold arOk; rw [decide_eq_false (by omega)]; rfl
                                   simp only [headOk, this, Bool.and_false, Bool.false_and])
                clear bad
                go_wp2_with fail
                go_quiet ((go_at_call 23; exact Calls.quiet_of_same (isFun_quiet d.nm true HNV.out _)))
                have HB2 := Lib.hid (below_drewN HBX.out nq)
                clear y0 y1 t3
                go_wp2
                go_ret
                exact ⟨ret_bool (by rw [HF.out]), HB2.out⟩
              have t3 : decide (d.ar < 0) = false := by simpa using n3
              by_cases n4 : 3 < d.ar
              · have t4 : decide (3 < d.ar) = true := by simpa using n4
                have HF := bad (by have : arOk d = false := by unfold arOk; rw [decide_eq_false (show ¬ d.ar ≤ 3 by omega), Bool.and_false]
                                   simp only [headOk, this, Bool.and_false, Bool.false_and])
                clear bad
                go_wp2_with fail
                go_quiet ((go_at_call 23; exact Calls.quiet_of_same (isFun_quiet d.nm true HNV.out _)))
                have HB2 := Lib.hid (below_drewN HBX.out nq)
                clear y0 y1 t3 t4
                go_wp2
                go_ret
                exact ⟨ret_bool (by rw [HF.out]), HB2.out⟩
              have t4 : decide (3 < d.ar) = false := by simpa using n4
              have na : arOk d = true := by unfold arOk; rw [decide_eq_true (show 0 ≤ d.ar by omega), decide_eq_true (show d.ar ≤ 3 by omega)]; rfl
              have HGOOD := Lib.hid (show headOk (prevAt ds j) d = true by simp [headOk, nv, na, hpv, ascB]; omega)
              clear bad nv na hpv
              go_wp2_with fail
              go_quiet ((go_at_call 23; exact Calls.quiet_of_same (isFun_quiet d.nm true HNV.out _)))
              clear gp hbp hw t5 t6 t7
              have HB9 := Lib.hid (below_drewN HBX.out nq)
              have HR9 := Lib.hid (show Row ((wr.alloc (Obj.cells #[Value.int IntKind.i64 d.nm, Value.int IntKind.i64 d.ar, Value.bool d.old, Value.int IntKind.i64 d.op, Value.int IntKind.i64 d.n, Value.slice A' d.k.len c'] 38)).drewN nq) wr.heap.size 38 #[Value.int IntKind.i64 d.nm, Value.int IntKind.i64 d.ar, Value.bool d.old, Value.int IntKind.i64 d.op, Value.int IntKind.i64 d.n, Value.slice A' d.k.len c'] from HRX.out)
              have hq9 := below_drewN (Below.refl (wr.alloc (Obj.cells #[Value.int IntKind.i64 d.nm, Value.int IntKind.i64 d.ar, Value.bool d.old, Value.int IntKind.i64 d.op, Value.int IntKind.i64 d.n, Value.slice A' d.k.len c'] 38)).heap.size (wr.alloc (Obj.cells #[Value.int IntKind.i64 d.nm, Value.int IntKind.i64 d.ar, Value.bool d.old, Value.int IntKind.i64 d.op, Value.int IntKind.i64 d.n, Value.slice A' d.k.len c'] 38))) nq
              have HM9 := Lib.hid (HMX.out.below hq9 HLX.out)
              have HN9 := Lib.hid (Nat.lt_of_lt_of_le HLX.out hq9.size)
              have HS9 := Lib.hid (Nat.le_trans HBX.out.size hq9.size)
              clear y0 y1 hq9
              generalize ((wr.alloc (Obj.cells #[Value.int IntKind.i64 d.nm, Value.int IntKind.i64 d.ar, Value.bool d.old, Value.int IntKind.i64 d.op, Value.int IntKind.i64 d.n, Value.slice A' d.k.len c'] 38)).drewN nq) = w9 at *
              obtain ⟨rr, hrr⟩ : ∃ rr : Nat, d.ar = (rr : Int) := ⟨d.ar.toNat, by omega⟩
              have hr3 : rr ≤ 3 := by omega
              clear n3 n4
              have HR3 := Lib.hid hr3
              have HRR := Lib.hid hrr
              have hbody : bodyOk ds d = (nodeIs d.op d.n d.k (firstS rr) && fitN (ariS ds) d.op d.n d.k) := by unfold bodyOk; rw [hrr]; rfl
              have HBODY := Lib.hid hbody
              have HVU := Lib.hid (validOf_upto d.op d.n d.k rr (by omega))
              have HW9 := Lib.hid (Below.refl w9.heap.size w9).drew
              have HZ9 := Lib.hid HR9.out.size
              have HZD := Lib.hid (Nat.lt_of_lt_of_le HZ9.out HW9.out.size)
              have hu := HR9.out
              have hz := HR9.out.drew
              have u0 := hu.cell (i := 0) rfl
              have u1 := hu.cell (i := 1) rfl
              have u2 := hu.cell (i := 2) rfl
              have u3 := hu.cell (i := 3) rfl
              have u4 := hu.cell (i := 4) rfl
              have u5 := hu.cell (i := 5) rfl
              have z0 := hz.cell (i := 0) rfl
              have z1 := hz.cell (i := 1) rfl
              have z2 := hz.cell (i := 2) rfl
              have z3 := hz.cell (i := 3) rfl
              have z4 := hz.cell (i := 4) rfl
              have z5 := hz.cell (i := 5) rfl
              have HLD := Lib.hid ((HL.out.below (HB9.out.mono hB)).below (HW9.out.mono (Nat.le_trans hB HS9.out)))
              have HMD := Lib.hid (HM9.out.below HW9.out HN9.out)
              have HND := Lib.hid (Nat.lt_of_lt_of_le HN9.out HW9.out.size)
              have HSD := Lib.hid (Nat.le_trans HS9.out HW9.out.size)
              clear hbody hrr hr3 hu hz
              cases hv : nodeIs d.op d.n d.k (firstS rr) with
              | false =>
                have HF := Lib.hid (show okL ds none ds = false by rw [HAT.out, HBODY.out, hv]; simp)
                rw [hv] at HVU
                clear hv HAT HBODY
                go_wp2_with fail
                first
                  | (go_region_with (first
                      | (go_at_call 35
                         refine (argumentsOf_any d A' c' _ rr HRR.out HR3.out).mono ?_
                         rintro e w4 ⟨v4, rfl, hown4, hb4⟩
                         obtain ⟨ZA, Zc, rfl, hzi4⟩ := own_ints hown4 (upto_small rr HR3.out)
                         have p0 := (hb4.cell (p := ⟨wr.heap.size, 0, none⟩) HZD.out).trans z0
                         have p1 := (hb4.cell (p := ⟨wr.heap.size, 1, none⟩) HZD.out).trans z1
                         have p2 := (hb4.cell (p := ⟨wr.heap.size, 2, none⟩) HZD.out).trans z2
                         have p3 := (hb4.cell (p := ⟨wr.heap.size, 3, none⟩) HZD.out).trans z3
                         have p4 := (hb4.cell (p := ⟨wr.heap.size, 4, none⟩) HZD.out).trans z4
                         have p5 := (hb4.cell (p := ⟨wr.heap.size, 5, none⟩) HZD.out).trans z5
                         clear hown4)
                      | (go_at_call 34
                         refine (implExprValid_any d.op d.n d.k A' c' (upto rr) ZA Zc w4 ((HLD.out.below (hb4.mono (Nat.le_trans hB HSD.out))).mono_ (Nat.zero_le _) (Nat.le_trans hB (Nat.le_trans HSD.out hb4.size))) HKL.out (hzi4.keep (Nat.zero_le _) (Nat.le_refl _) (fun _ _ _ => rfl)) (upto_le rr HR3.out)).mono ?_
                         rintro e w5 ⟨rfl, hb5⟩
                         rw [HVU.out]
                         have hb45 := hb4.trans (hb5.mono hb4.size)
                         have x0 := (hb5.cell (p := ⟨wr.heap.size, 0, none⟩) (Nat.lt_of_lt_of_le HZD.out hb4.size)).trans p0
                         have x1 := (hb5.cell (p := ⟨wr.heap.size, 1, none⟩) (Nat.lt_of_lt_of_le HZD.out hb4.size)).trans p1
                         have x2 := (hb5.cell (p := ⟨wr.heap.size, 2, none⟩) (Nat.lt_of_lt_of_le HZD.out hb4.size)).trans p2
                         have x3 := (hb5.cell (p := ⟨wr.heap.size, 3, none⟩) (Nat.lt_of_lt_of_le HZD.out hb4.size)).trans p3
                         have x4 := (hb5.cell (p := ⟨wr.heap.size, 4, none⟩) (Nat.lt_of_lt_of_le HZD.out hb4.size)).trans p4
                         have x5 := (hb5.cell (p := ⟨wr.heap.size, 5, none⟩) (Nat.lt_of_lt_of_le HZD.out hb4.size)).trans p5
                         clear hzi4)))
                  | fail
                all_goals
                  have HB2 := Lib.hid (HB9.out.trans ((HW9.out.trans (hb45.mono HW9.out.size)).mono HS9.out))
                  clear hb4 hb5 hb45 u0 u1 u2 u3 u4 u5 z0 z1 z2 z3 z4 z5 p0 p1 p2 p3 p4 p5 x0 x1 x2 x3 x4 x5
                  go_wp2
                  go_ret
                  exact ⟨ret_bool (by rw [HF.out]), HB2.out⟩
              | true =>
                rw [hv, Bool.true_and] at HBODY
                rw [hv] at HVU
                have hfit : fitN (ariI ds) d.op d.n d.k = fitN (ariS ds) d.op d.n d.k := fit_of_is hv
                have HSM := Lib.hid (show smallOk d.k 14 80 = true by rw [nodeIs_eq, Bool.and_eq_true] at hv; exact hv.1)
                rw [← hfit] at HBODY
                clear hv hfit
                obtain ⟨zf, hzf⟩ : ∃ zf, zf = fitN (ariI ds) d.op d.n d.k := ⟨_, rfl⟩
                rw [← hzf] at HBODY
                have HZF := Lib.hid hzf
                clear hzf
                have HNX := Lib.hid (show okL ds none ds = (zf && okL ds (prevAt ds (j + 1)) (ds.drop (j + 1))) by rw [HAT.out, HBODY.out, HGOOD.out, Bool.true_and])
                clear HAT HBODY
                go_wp2_with fail
                first
                  | (go_region_with (first
                      | (go_at_call 35
                         refine (argumentsOf_any d A' c' _ rr HRR.out HR3.out).mono ?_
                         rintro e w4 ⟨v4, rfl, hown4, hb4⟩
                         obtain ⟨ZA, Zc, rfl, hzi4⟩ := own_ints hown4 (upto_small rr HR3.out)
                         have p0 := (hb4.cell (p := ⟨wr.heap.size, 0, none⟩) HZD.out).trans z0
                         have p1 := (hb4.cell (p := ⟨wr.heap.size, 1, none⟩) HZD.out).trans z1
                         have p2 := (hb4.cell (p := ⟨wr.heap.size, 2, none⟩) HZD.out).trans z2
                         have p3 := (hb4.cell (p := ⟨wr.heap.size, 3, none⟩) HZD.out).trans z3
                         have p4 := (hb4.cell (p := ⟨wr.heap.size, 4, none⟩) HZD.out).trans z4
                         have p5 := (hb4.cell (p := ⟨wr.heap.size, 5, none⟩) HZD.out).trans z5
                         clear hown4)
                      | (go_at_call 34
                         refine (implExprValid_any d.op d.n d.k A' c' (upto rr) ZA Zc w4 ((HLD.out.below (hb4.mono (Nat.le_trans hB HSD.out))).mono_ (Nat.zero_le _) (Nat.le_trans hB (Nat.le_trans HSD.out hb4.size))) HKL.out (hzi4.keep (Nat.zero_le _) (Nat.le_refl _) (fun _ _ _ => rfl)) (upto_le rr HR3.out)).mono ?_
                         rintro e w5 ⟨rfl, hb5⟩
                         rw [HVU.out]
                         have hb45 := hb4.trans (hb5.mono hb4.size)
                         have x0 := (hb5.cell (p := ⟨wr.heap.size, 0, none⟩) (Nat.lt_of_lt_of_le HZD.out hb4.size)).trans p0
                         have x1 := (hb5.cell (p := ⟨wr.heap.size, 1, none⟩) (Nat.lt_of_lt_of_le HZD.out hb4.size)).trans p1
                         have x2 := (hb5.cell (p := ⟨wr.heap.size, 2, none⟩) (Nat.lt_of_lt_of_le HZD.out hb4.size)).trans p2
                         have x3 := (hb5.cell (p := ⟨wr.heap.size, 3, none⟩) (Nat.lt_of_lt_of_le HZD.out hb4.size)).trans p3
                         have x4 := (hb5.cell (p := ⟨wr.heap.size, 4, none⟩) (Nat.lt_of_lt_of_le HZD.out hb4.size)).trans p4
                         have x5 := (hb5.cell (p := ⟨wr.heap.size, 5, none⟩) (Nat.lt_of_lt_of_le HZD.out hb4.size)).trans p5
                         clear hzi4)
                      | (go_at_call 36
                         refine (allCallsFit_any (ariI ds) w.heap.size es d.op d.n d.k A' c' L B w5 (HMD.out.below hb45 HND.out) HKN.out (HLD.out.below (hb45.mono (Nat.le_trans hB HSD.out))) (Nat.le_trans hB (Nat.le_trans HSD.out hb45.size)) (RowsIf.small HSM.out) HK1.out HK2.out HKZ.out).mono ?_
                         rintro e w6 ⟨rfl, hb6⟩
                         rw [← HZF.out]
                         have s0 := (hb6.cell (p := ⟨wr.heap.size, 0, none⟩) (Nat.lt_of_lt_of_le HZD.out hb45.size)).trans x0
                         have s1 := (hb6.cell (p := ⟨wr.heap.size, 1, none⟩) (Nat.lt_of_lt_of_le HZD.out hb45.size)).trans x1
                         have s2 := (hb6.cell (p := ⟨wr.heap.size, 2, none⟩) (Nat.lt_of_lt_of_le HZD.out hb45.size)).trans x2
                         have s3 := (hb6.cell (p := ⟨wr.heap.size, 3, none⟩) (Nat.lt_of_lt_of_le HZD.out hb45.size)).trans x3
                         have s4 := (hb6.cell (p := ⟨wr.heap.size, 4, none⟩) (Nat.lt_of_lt_of_le HZD.out hb45.size)).trans x4
                         have s5 := (hb6.cell (p := ⟨wr.heap.size, 5, none⟩) (Nat.lt_of_lt_of_le HZD.out hb45.size)).trans x5)))
                  | fail
                all_goals
                  have hb46 := hb45.trans (hb6.mono hb45.size)
                  have HB2 := Lib.hid (HB9.out.trans ((HW9.out.trans (hb46.mono HW9.out.size)).mono HS9.out))
                  have HM2 := Lib.hid (HMD.out.below hb46 HND.out)
                  have HN2 := Lib.hid (Nat.lt_of_lt_of_le HND.out hb46.size)
                  clear hb4 hb5 hb45 hb6 hb46 u0 u1 u2 u3 u4 u5 z0 z1 z2 z3 z4 z5 p0 p1 p2 p3 p4 p5 x0 x1 x2 x3 x4 x5 s0 s1 s2 s3 s4 s5
                  cases zf with
                  | true =>
                    go_wp2
                    go_roundw
                    case rel => exact ⟨j + 1, hlt, by go_num, Lib.hid (by rw [HNX.out, Bool.true_and]), HM2.out, HB2.out, HN2.out⟩
                    case measure => simp [intOf]; omega
                  | false =>
                    go_wp2
                    go_ret
                    exact ⟨ret_bool (by rw [HNX.out, Bool.false_and]), HB2.out⟩
      · have e9 : j = ds.length := by omega
        have HZ := Lib.hid (show okL ds none ds = true by rw [HO.out, List.drop_eq_nil_iff.2 (by omega)]; rfl)
        clear HO
        go_wp2
        go_ret
        exact ⟨ret_bool (by rw [HZ.out]), hb⟩
  · rw [decide_eq_false h8, Bool.false_and]
    have h9 : decide ((8 : Int) < (ds.length : Int)) = true := by simp; omega
    go_enter Tryz.func19, Tryz.ntmps19
    go_wp2
    go_ret
    exact ⟨rfl, Below.refl _ _⟩

theorem implLibValid_any (ds : List De) (A : Option Addr) (c L B : Nat) (w : World) (hd : LiesD w L B A ds) (hB : B ≤ w.heap.size) (_hal : AllRows w L B) (hdz : sizeD ds ≤ 1048576) :
    Calls Tryz.prog 19 #[.slice A ds.length c] w (Gives (.bool (libOk ds)) w) := implLibValid_r ds A c L B w hd hB hdz
end Go.Proofs.YtpknegneogdmfaaGreat
