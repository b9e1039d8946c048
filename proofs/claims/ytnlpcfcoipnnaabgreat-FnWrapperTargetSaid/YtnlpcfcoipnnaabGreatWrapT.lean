/-
  WrapperTarget: the model and the program.
-/
import Derived.Test.YtnlpcfcoipnnaabGreatWrapTD
import Derived.Deep.Cut
namespace Go.Proofs.YtnlpcfcoipnnaabGreat
open Go.RowKit
set_option maxRecDepth 100000

/-- What WrapperTarget answers, as values. -/
def ansW (r : Option Int) : Value := .tuple #[.int .i64 (r.getD 0), .bool r.isSome]

theorem cells8_mark (T : Nat → Bool) {v : Nat} (h : v < 8) : (cells8 T).setIfInBounds v (.bool true) = cells8 (fun i => if i = v then true else T i) := by
  rw [cells8_set T h]
  exact cells8_congr fun i _ => by by_cases hi : i = v <;> simp [hi]

theorem fnd_place {x : Int} {ds : List De} {d : De} (h : fnd x ds = some d) : ∃ p : Nat, plcI x ds = (p : Int) ∧ ds[p]? = some d ∧ p < ds.length := by
  have h2 := plc_fnd x ds
  by_cases hp : plc x ds < ds.length
  · obtain ⟨d', e1, e2⟩ := h2.1 hp
    rw [h] at e2
    cases e2
    exact ⟨plc x ds, by unfold plcI; rw [if_pos hp], e1, hp⟩
  · rw [h2.2 hp] at h
    cases h

set_option maxHeartbeats 2000000 in
theorem specWrapT_any (ds : List De) (A : Option Addr) (c : Nat) (w : World) (x : Int) (hl : LiesD w 0 w.heap.size A ds) (hdz : sizeD ds ≤ 1048576) :
    Calls Tryz.prog 6 #[.slice A ds.length c, .int .i64 x] w (Gives (ansW (resW x ds)) w) := by
  have hsz : ds.length ≤ 1048576 := Nat.le_trans (sizeD_len ds) hdz
  have HC := Lib.hid (specIsWrap_any ds A c w x hl hdz)
  have HL := Lib.hid hl
  clear hl
  cases hw : isWrapB x ds with
  | false =>
    rw [hw] at HC
    have HR := Lib.hid (show resW x ds = none by unfold resW; rw [hw]; rfl)
    clear hw
    go_enter Tryz.func6, Tryz.ntmps6
    go_wp2_with fail
    refine HC.out.mono ?_
    rintro e w1 ⟨rfl, hb1⟩
    have HB1 := Lib.hid hb1
    clear hb1 HC
    go_wp2_with fail
    go_ret2
    exact ⟨by rw [HR.out]; rfl, HB1.out⟩
  | true =>
    rw [hw] at HC
    have HR := Lib.hid (show tgtW ds (ds.length + 1 - 0) x = resW x ds by unfold resW; rw [hw]; rfl)
    have hv : libOk ds = true := by unfold isWrapB at hw; rw [Bool.and_eq_true] at hw; exact hw.1
    have HV := Lib.hid hv
    have HF := Lib.hid (show ∃ d, fnd x ds = some d by
      unfold isWrapB wrapAt at hw
      rw [Bool.and_eq_true] at hw
      cases h : fnd x ds with
      | none => rw [h] at hw; exact absurd hw.2 (by simp)
      | some d => exact ⟨d, rfl⟩)
    have HSM := Lib.hid (libOk_small hv)
    clear hw hv
    go_enter Tryz.func6, Tryz.ntmps6
    go_wp2_with fail
    refine HC.out.mono ?_
    rintro e w1 ⟨rfl, hb1⟩
    have HB1 := Lib.hid hb1
    clear hb1 HC
    go_wp2_with fail
    go_loopw [1, 6] (fun nm i wr => ∃ (j : Nat) (y : Int), i = .int .i64 (j : Int) ∧ nm = .int .i64 y ∧ j ≤ ds.length + 1 ∧ Hid (∃ d, fnd y ds = some d) ∧ Hid (tgtW ds (ds.length + 1 - j) y = resW x ds) ∧ Below w.heap.size w wr)
      (fun _ i _ => ds.length + 1 - (intOf i).toNat)
    case atStart => exact ⟨0, x, rfl, rfl, by omega, HF, HR, HB1.out⟩
    case round =>
      obtain ⟨j, y, rfl, rfl, hj, HFY, HT, hb⟩ := hrel
      by_cases hlt : j ≤ ds.length
      · have hji : (j : Int) ≤ (ds.length : Int) := by omega
        obtain ⟨d, hd⟩ := HFY.out
        obtain ⟨p, hp1, hp2, hp3⟩ := fnd_place hd
        have HP := Lib.hid (place_any ds A c wr y (HL.out.up hb) hsz)
        rw [hp1] at HP
        obtain ⟨b, o, A', c', rfl, hLb, hbB, hf, g1, g2, g3, g4, g5, g6, h7, h8, h9⟩ := HL.out p d hp2
        have HG := Lib.hid (show ∀ V, Below w.heap.size w V → V.cell? ⟨b, o + p * 6, none⟩ = some (.int .i64 d.nm) ∧ V.cell? ⟨b, o + p * 6 + 1, none⟩ = some (.int .i64 d.ar) ∧ V.cell? ⟨b, o + p * 6 + 2, none⟩ = some (.bool d.old) ∧ V.cell? ⟨b, o + p * 6 + 3, none⟩ = some (.int .i64 d.op) ∧ V.cell? ⟨b, o + p * 6 + 4, none⟩ = some (.int .i64 d.n) ∧ V.cell? ⟨b, o + p * 6 + 5, none⟩ = some (.slice A' d.k.len c') from fun V hV =>
          ⟨(hV.cell (p := ⟨b, o + p * 6, none⟩) hbB).trans g1, (hV.cell (p := ⟨b, o + p * 6 + 1, none⟩) hbB).trans g2, (hV.cell (p := ⟨b, o + p * 6 + 2, none⟩) hbB).trans g3, (hV.cell (p := ⟨b, o + p * 6 + 3, none⟩) hbB).trans g4, (hV.cell (p := ⟨b, o + p * 6 + 4, none⟩) hbB).trans g5, (hV.cell (p := ⟨b, o + p * 6 + 5, none⟩) hbB).trans g6⟩)
        have HK := Lib.hid h9
        have HND := Lib.hid (nxtW_is d hd)
        have hpi : (p : Int) < (ds.length : Int) := by omega
        have hkl := Nat.le_trans h7 h8
        have HBR := Lib.hid hb
        clear hd hp1 hp2 hf g1 g2 g3 g4 g5 g6 h9 hb
        go_wp2_with fail
        refine HP.out.mono ?_
        rintro e w2 ⟨rfl, hb2⟩
        have HB2 := Lib.hid (HBR.out.trans (hb2.mono HBR.out.size))
        obtain ⟨q0, q1, q2, q3, q4, q5⟩ := HG.out w2 HB2.out
        clear hb2 HP
        obtain ⟨W, hW⟩ : ∃ W, W = w2.alloc (Obj.cells #[.int .i64 d.nm, .int .i64 d.ar, .bool d.old, .int .i64 d.op, .int .i64 d.n, .slice A' d.k.len c'] 36) := ⟨_, rfl⟩
        have hbW : Below w2.heap.size w2 W := by rw [hW]; exact (Below.refl _ _).alloc (Nat.le_refl _) _
        have HX := Lib.hid (show Row W w2.heap.size 36 #[.int .i64 d.nm, .int .i64 d.ar, .bool d.old, .int .i64 d.op, .int .i64 d.n, .slice A' d.k.len c'] by rw [hW]; exact Row.fresh _ _ _)
        have HBW := Lib.hid (HB2.out.trans (hbW.mono HB2.out.size))
        clear hbW
        go_upto_region 7 with fail
        rw [← hW]
        clear hW q0 q1 q2 q3 q4 q5
        have r0 := HX.out.cell (i := 0) rfl
        have r1 := HX.out.cell (i := 1) rfl
        have r2 := HX.out.cell (i := 2) rfl
        have r3 := HX.out.cell (i := 3) rfl
        have r4 := HX.out.cell (i := 4) rfl
        have r5 := HX.out.cell (i := 5) rfl
        go_wp2_with fail
        refine (l7Wraps_any d.nm d.ar d.old d.op d.n d.k A' c' W ((HK.out.below HBW.out).mono_ (Nat.zero_le _) HBW.out.size) hkl).mono ?_
        rintro e w3 ⟨rfl, hb3⟩
        obtain ⟨z, hz⟩ : ∃ z, z = wrapN d.nm d.op d.n d.k := ⟨_, rfl⟩
        rw [← hz] at HND ⊢
        have HB3 := Lib.hid (HBW.out.trans (hb3.mono HBW.out.size))
        have hx3 := HX.out.below hb3 HX.out.size
        clear r0 r1 r2 r3 r4 r5 hb3 HX hz
        cases z with
        | false =>
          have HA := Lib.hid (show resW x ds = some y by
            rw [← HT.out, show ds.length + 1 - j = (ds.length - j) + 1 by omega]
            exact tgtW_none (by rw [HND.out]; rfl) _)
          clear hx3
          go_wp2_with fail
          go_ret2
          exact ⟨by rw [HA.out]; rfl, HB3.out⟩
        | true =>
          have hny : nxtW ds y = some d.n := by rw [HND.out]; rfl
          have HF9 := Lib.hid (nxtW_fun HV.out hny)
          have HT9 := Lib.hid (show tgtW ds (ds.length + 1 - (j + 1)) d.n = resW x ds by
            rw [← HT.out, show ds.length + 1 - j = (ds.length - j) + 1 by omega, tgtW_some hny]
            congr 1
            omega)
          have r4 := hx3.cell (i := 4) rfl
          clear hx3 hny
          go_wp2_with fail
          go_roundw
          case rel => exact ⟨j + 1, d.n, by go_num, rfl, by omega, HF9, HT9, HB3.out⟩
          case measure => simp [intOf]; omega
      · have hji : ¬ (j : Int) ≤ (ds.length : Int) := by omega
        have HA := Lib.hid (show resW x ds = none by
          rw [← HT.out, show ds.length + 1 - j = 0 by omega]; rfl)
        have HBR := Lib.hid hb
        clear hb
        go_wp2_with fail
        go_ret2
        exact ⟨by rw [HA.out]; rfl, HBR.out⟩

set_option maxHeartbeats 4000000 in
theorem implWrapT_r (ds : List De) (A : Option Addr) (c L B : Nat) (w : World) (x : Int) (hd : LiesD w L B A ds) (hB : B ≤ w.heap.size) (hdz : sizeD ds ≤ 1048576) :
    Calls Tryz.prog 5 #[.slice A ds.length c, .int .i64 x] w (Gives (ansW (resW x ds)) w) := by
  have hsz : ds.length ≤ 1048576 := Nat.le_trans (sizeD_len ds) hdz
  have HC := Lib.hid (implIsWrap_r ds A c L B w x hd hB hdz)
  have HD := Lib.hid hd
  clear hd
  cases hw : isWrapB x ds with
  | false =>
    rw [hw] at HC
    have HR := Lib.hid (show resW x ds = none by unfold resW; rw [hw]; rfl)
    clear hw
    go_enter Tryz.func5, Tryz.ntmps5
    go_wp2_with fail
    refine HC.out.mono ?_
    rintro e w1 ⟨rfl, hb1⟩
    have HB1 := Lib.hid hb1
    clear hb1 HC
    go_wp2_with fail
    go_ret2
    exact ⟨by rw [HR.out]; rfl, HB1.out⟩
  | true =>
    rw [hw] at HC
    have HR := Lib.hid (show resW x ds = tgtW ds (ds.length + 1) x by unfold resW; rw [hw]; rfl)
    have hv : libOk ds = true := by unfold isWrapB at hw; rw [Bool.and_eq_true] at hw; exact hw.1
    have HV := Lib.hid hv
    have HF := Lib.hid (show ∃ d, fnd x ds = some d by
      unfold isWrapB wrapAt at hw
      rw [Bool.and_eq_true] at hw
      cases h : fnd x ds with
      | none => rw [h] at hw; exact absurd hw.2 (by simp)
      | some d => exact ⟨d, rfl⟩)
    clear hw hv
    go_enter Tryz.func5, Tryz.ntmps5
    go_wp2_with fail
    refine HC.out.mono ?_
    rintro e w1 ⟨rfl, hb1⟩
    have HB1 := Lib.hid hb1
    clear hb1 HC
    go_wp2_with fail
    refine (defsByName_any ds A c w1 L B (HD.out.below (HB1.out.mono hB)) (Nat.le_trans hB HB1.out.size) hsz).mono ?_
    rintro e w2 ⟨es, rfl, hm2, hent2, hb2, hlt2⟩
    have HB2 := Lib.hid (HB1.out.trans (hb2.mono HB1.out.size))
    have HM := Lib.hid hm2
    have HE := Lib.hid hent2
    have hB2 : B ≤ w2.heap.size := Nat.le_trans hB HB2.out.size
    obtain ⟨W, hW⟩ : ∃ W, W = w2.alloc (Obj.cells (cells8 fun _ => false) 41) := ⟨_, rfl⟩
    have HWR := Lib.hid (show Row W w2.heap.size 41 (cells8 fun _ => false) by rw [hW]; exact Row.fresh _ _ _)
    have HWB := Lib.hid (show Below w2.heap.size w2 W by rw [hW]; exact (Below.refl _ _).alloc (Nat.le_refl _) _)
    unfold cells8 at hW
    clear hb2 hm2 hent2 HD
    go_wp2_with fail
    rw [← hW]
    clear hW
    go_loopg [1] (unv ds fun _ => false) (fun gk nm wr => ∃ (y : Int) (T : Nat → Bool) (k : Nat), gk = unv ds T ∧ nm = .int .i64 y ∧ Hid (y = itW ds x k) ∧ Hid (∃ d, fnd y ds = some d) ∧ Hid (∀ v, T v = true → ∃ j, j < k ∧ itW ds x j = (v : Int)) ∧ Hid (∀ j, j < k → (nxtW ds (itW ds x j)).isSome = true) ∧ Hid (k + unv ds T ≤ ds.length) ∧ Row wr w2.heap.size 41 (cells8 T) ∧ Below w2.heap.size w2 wr)
    case atStart => exact ⟨x, fun _ => false, 0, rfl, rfl, Lib.hid rfl, HF, Lib.hid (fun v h => by simp at h), Lib.hid (fun j h => by omega), Lib.hid (by have := unv_le (fun _ => false) ds; omega), HWR.out, HWB.out⟩
    case round =>
      clear HWR HWB HF
      obtain ⟨y, T, k, rfl, rfl, HY, HF, HT, HS, HK, hr, hb⟩ := hrel
      obtain ⟨d, hd⟩ := HF.out
      obtain ⟨e0, e8⟩ := inVar_nat (libOk_inVar HV.out hd)
      obtain ⟨v, hv⟩ : ∃ v, v = y.toNat := ⟨_, rfl⟩
      rw [← hv] at e0 e8
      clear hv
      subst e0
      have HBR := Lib.hid hb
      have HRR := Lib.hid hr
      have q0 := hr.cell (cells8_at T e8)
      cases hT : T v with
      | true =>
        rw [hT] at q0
        have HA := Lib.hid (show resW x ds = none by
          rw [HR.out]
          obtain ⟨i, hi, he⟩ := HT.out v hT
          refine tgtW_never _ x fun m => ?_
          obtain ⟨j, hj, e⟩ := itW_circle hi (by rw [he, ← HY.out] : itW ds x k = itW ds x i) m
          rw [e]
          exact HS.out j hj)
        have HB3 := Lib.hid (HB2.out.trans (hb.mono HB2.out.size))
        clear hT hd hr hb
        go_wp2_with fail
        go_ret2
        exact ⟨by rw [HA.out]; rfl, HB3.out⟩
      | false =>
        rw [hT] at q0
        have f0 := hr.free v
        have HND := Lib.hid (nxtW_is d hd)
        have HU := Lib.hid (unv_less (T := T) (v := v) ds ⟨d, (fnd_mem hd).1, by rw [(fnd_mem hd).2]; simp, hT⟩)
        have HP := Lib.hid (hr.put v (.bool true))
        have HB4 := Lib.hid (hb.setCell (p := ⟨w2.heap.size, v, none⟩) (Nat.le_refl _) (.bool true))
        obtain ⟨V, hV⟩ : ∃ V, V = wr.setCell ⟨w2.heap.size, v, none⟩ (.bool true) := ⟨_, rfl⟩
        rw [← hV] at HP HB4
        obtain ⟨nm, ar, old, op, n, kk, A', c', hlo, hk, hkl, hw, hdn⟩ := wrap_look (HE.out.below (HB4.out.mono hB2)) HV.out (v : Int)
        have hlk := im_lookup1 (P := Tryz.prog) (a := (v : Int)) Tryz.underlying38 Tryz.underlying3 (show (zeroValue 36).run Tryz.prog V = .ok (.agg #[.int .i64 0, .int .i64 0, .bool false, .int .i64 0, .int .i64 0, .slice none 0 0]) V by kernel_rfl) (HM.out.below HB4.out hlt2)
        rw [hlo] at hlk
        have hdn := hdn d hd
        have HW := Lib.hid hw
        have HLK := Lib.hid hlk
        have HKL := Lib.hid (hk.mono_ (Nat.zero_le _) (Nat.le_trans hB2 HB4.out.size))
        have HWN := Lib.hid (show wrapN nm op n kk = wrapN d.nm d.op d.n d.k by rw [hw]; unfold wrapAt; rw [hd])
        have HDN := Lib.hid hdn
        have HVV := Lib.hid hV
        clear hd hr hb hlo hk hw hdn hlk hV
        go_upto_region 7 with fail
        rw [← HVV.out]
        have hlk := HLK.out
        go_wp2_with fail
        refine (wrapped_any nm ar old op n kk A' c' V HKL.out hkl).mono ?_
        rintro e w3 ⟨rfl, hb3⟩
        rw [HWN.out, ← HDN.out]
        obtain ⟨z, hz⟩ : ∃ z, z = wrapN d.nm d.op d.n d.k := ⟨_, rfl⟩
        rw [← hz] at HND ⊢
        have HB5 := Lib.hid (HB4.out.trans (hb3.mono HB4.out.size))
        have HP5 := Lib.hid (HP.out.below hb3 HP.out.size)
        clear hb3 hz hlk HLK HP
        cases z with
        | false =>
          have HA := Lib.hid (show resW x ds = some (v : Int) by
            rw [HR.out, HY.out]
            exact tgtW_hit k _ x HS.out (by rw [← HY.out, HND.out]; rfl) (by have := HK.out; omega))
          have HB6 := Lib.hid (HB2.out.trans (HB5.out.mono HB2.out.size))
          clear hT
          go_wp2_with fail
          go_ret2
          exact ⟨by rw [HA.out]; rfl, HB6.out⟩
        | true =>
          have hny : nxtW ds (v : Int) = some d.n := by rw [HND.out]; rfl
          have HF9 := Lib.hid (nxtW_fun HV.out hny)
          have HY9 := Lib.hid (show d.n = itW ds x (k + 1) by rw [itW, ← HY.out, hny]; rfl)
          have HT9 := Lib.hid (show ∀ u, (fun i => if i = v then true else T i) u = true → ∃ j, j < k + 1 ∧ itW ds x j = (u : Int) from fun u hu => by
            by_cases huv : u = v
            · exact ⟨k, by omega, by rw [huv, HY.out]⟩
            · have hu : (if u = v then true else T u) = true := hu
              rw [if_neg huv] at hu
              obtain ⟨j, hj, he⟩ := HT.out u hu
              exact ⟨j, by omega, he⟩)
          have HS9 := Lib.hid (show ∀ j, j < k + 1 → (nxtW ds (itW ds x j)).isSome = true from fun j hj => by
            by_cases hjk : j < k
            · exact HS.out j hjk
            · have : j = k := by omega
              rw [this, ← HY.out, hny]
              rfl)
          have HK9 := Lib.hid (show k + 1 + unv ds (fun i => if i = v then true else T i) ≤ ds.length by have h1 := HK.out; have h2 := HU.out; omega)
          have HP9 := Lib.hid (show Row w3 w2.heap.size 41 (cells8 fun i => if i = v then true else T i) by rw [← cells8_mark T e8]; exact HP5.out)
          clear hny hT
          go_wp2_with fail
          go_roundg (unv ds fun i => if i = v then true else T i)
          case measure => have := HU.out; omega
          case rel => exact ⟨d.n, _, k + 1, rfl, rfl, HY9, HF9, HT9, HS9, HK9, HP9.out, HB5.out⟩
theorem implWrapT_any (ds : List De) (A : Option Addr) (c L B : Nat) (w : World) (x : Int) (hd : LiesD w L B A ds) (hB : B ≤ w.heap.size) (_hal : AllRows w L B) (hdz : sizeD ds ≤ 1048576) :
    Calls Tryz.prog 5 #[.slice A ds.length c, .int .i64 x] w (Gives (ansW (resW x ds)) w) :=
  implWrapT_r ds A c L B w x hd hB hdz
theorem specWrapT_v (ds : List De) (A : Option Addr) (c : Nat) (w : World) (x : Int) (hl : LiesD w 0 w.heap.size A ds) (hdz : sizeD ds ≤ 1048576) :
    Calls Tryz.prog 6 #[.slice A ds.length c, .int .i64 x] w (Gives (.tuple #[.int .i64 ((resW x ds).getD 0), .bool (resW x ds).isSome]) w) := specWrapT_any ds A c w x hl hdz
theorem implWrapT_v (ds : List De) (A : Option Addr) (c L B : Nat) (w : World) (x : Int) (hd : LiesD w L B A ds) (hB : B ≤ w.heap.size) (hal : AllRows w L B) (hdz : sizeD ds ≤ 1048576) :
    Calls Tryz.prog 5 #[.slice A ds.length c, .int .i64 x] w (Gives (.tuple #[.int .i64 ((resW x ds).getD 0), .bool (resW x ds).isSome]) w) := implWrapT_any ds A c L B w x hd hB hal hdz
end Go.Proofs.YtnlpcfcoipnnaabGreat
