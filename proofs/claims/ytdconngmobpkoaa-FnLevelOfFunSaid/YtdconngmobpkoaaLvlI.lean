/-
  impl.LevelOfFun.
-/
import Derived.Test.YtdconngmobpkoaaLvl
import Derived.Test.YtdconngmobpkoaaOrdI
namespace Go.Proofs.Ytdconngmobpkoaa
open Go.RowKit Go.Shelf
set_option maxRecDepth 100000

-- the order, place by place
theorem OrdI.at {ds : List De} {out : List Int} (h : OrdI ds out) : ∀ {j : Nat} {x : Int}, out[j]? = some x → ∃ d ∈ ds, d.nm = x ∧ readyD (inL (out.take j)) d = true := by
  induction h with
  | nil => intro j x hx; simp at hx
  | @add out d h hn ih =>
    intro j x hx
    by_cases hj : j < out.length
    · rw [List.getElem?_append_left hj] at hx
      obtain ⟨e, h1, h2, h3⟩ := ih hx
      exact ⟨e, h1, h2, by rw [List.take_append_of_le_length (by omega)]; exact h3⟩
    · have hl := (List.getElem?_eq_some_iff.1 hx).1
      rw [List.length_append, List.length_singleton] at hl
      have hje : j = out.length := by omega
      subst hje
      rw [List.getElem?_append_right (Nat.le_refl _), Nat.sub_self] at hx
      have hx2 : d.nm = x := by simpa using hx
      obtain ⟨h1, h2⟩ := nxt_mem hn
      refine ⟨d, h1, hx2, ?_⟩
      rw [List.take_left]
      exact h2
theorem order_lvl {ds : List De} (hok : libOk ds = true) (x : Int) : decide (x ∈ orderL ds) = lvlB ds x := by
  unfold lvlB
  rw [hok, Bool.true_and]
  cases hf : fnd x ds with
  | none =>
    refine decide_eq_false fun hm => ?_
    obtain ⟨j, hj⟩ := List.getElem?_of_mem hm
    obtain ⟨d, hd, rfl, _⟩ := (orderL_I ds).1.at hj
    rw [(libOk_named hok d hd).2] at hf
    cases hf
  | some d =>
    obtain ⟨hm, hx⟩ := fnd_mem hf
    have h1 := order_ends hok hm
    rw [inL_mem (libOk_named hok d hm).1 ((orderL_I ds).1.nums hok), hx] at h1
    rw [h1]
    rfl

-- the levels in memory
def cellsL (L : Nat → Nat) : Array Value := #[.int .i64 (L 0 : Int), .int .i64 (L 1 : Int), .int .i64 (L 2 : Int), .int .i64 (L 3 : Int), .int .i64 (L 4 : Int), .int .i64 (L 5 : Int), .int .i64 (L 6 : Int), .int .i64 (L 7 : Int)]
theorem cellsL_at (L : Nat → Nat) {i : Nat} (h : i < 8) : (cellsL L)[i]? = some (.int .i64 (L i : Int)) := by
  rcases i with _ | _ | _ | _ | _ | _ | _ | _ | i
  all_goals first | rfl | omega
theorem cellsL_put (L : Nat → Nat) (n : Nat) {v : Nat} (h : v < 8) : (cellsL L).setIfInBounds v (.int .i64 (n : Int)) = cellsL (fun f => if f = v then n else L f) := by
  rcases v with _ | _ | _ | _ | _ | _ | _ | _ | v
  all_goals first | rfl | omega
theorem cellsL_congr {L M : Nat → Nat} (h : ∀ f, f < 8 → L f = M f) : cellsL L = cellsL M := by
  unfold cellsL
  rw [h 0 (by decide), h 1 (by decide), h 2 (by decide), h 3 (by decide), h 4 (by decide), h 5 (by decide), h 6 (by decide), h 7 (by decide)]
/-- The levels when the first ones of the order are done, and some of the calls of the next one. -/
def lvAt (ds : List De) (done : List Int) (f : Nat) : Nat := if inL done f then lvl ds f else 0
def lvIn (ds : List De) (done : List Int) (v : Nat) (ys : List Int) (f : Nat) : Nat := if f = v then maxOver (lvl ds) ys 0 else lvAt ds done f

set_option maxHeartbeats 4000000 in
theorem implLevel_r (ds : List De) (DA : Option Addr) (DC L B : Nat) (x : Int) (w : World) (hd : LiesD w L B DA ds) (hB : B ≤ w.heap.size) (hdz : sizeD ds ≤ 1048576) :
    Calls Try.prog 21 #[.slice DA ds.length DC, .int .i64 x] w (LvlPost (lvlV ds x) (lvlB ds x) w) := by
  have HV := Lib.hid (implLibValid_r ds DA DC L B w hd hB hdz)
  cases hok : libOk ds with
  | false =>
    have hb0 : lvlB ds x = false := by unfold lvlB; rw [hok]; rfl
    rw [hb0, lvlB_no hb0]
    rw [hok] at HV
    clear hok hb0
    go_enter Try.func21, Try.ntmps21
    go_wp2_with fail
    refine HV.out.mono ?_
    rintro e w2 ⟨rfl, hb2⟩
    have HB2 := Lib.hid hb2
    clear hb2 HV
    go_wp2_with fail
    refine bodyPost_ret (v := .tuple #[.int .i64 0, .bool false]) ?_ rfl ⟨rfl, HB2.out⟩
    simp [results, Try.f21, go_sem]
  | true =>
    have HOK := Lib.hid hok
    have HD := Lib.hid hd
    rw [hok] at HV
    have hl8 := libOk_len hok
    have HOL := Lib.hid (order_lvl hok x)
    clear hok hd
    go_enter Try.func21, Try.ntmps21
    go_wp2_with fail
    refine HV.out.mono ?_
    rintro e w2 ⟨rfl, hb2⟩
    have HB2 := Lib.hid hb2
    have HG := Lib.hid (graphOf_any ds DA DC L B w2 (HD.out.below (hb2.mono hB)) (Nat.le_trans hB hb2.size) hdz HOK.out)
    clear hb2 HV
    go_wp2_with fail
    refine HG.out.mono ?_
    rintro e w3 ⟨rfl, hb3⟩
    have HB3 := Lib.hid (HB2.out.trans (hb3.mono HB2.out.size))
    clear hb3 HB2 HG
    obtain ⟨WG, hWG⟩ : ∃ W, W = (w3.alloc (Obj.cells #[Value.int IntKind.u8 (bv (edge ds 0) : Int), Value.int IntKind.u8 (bv (edge ds 1) : Int), Value.int IntKind.u8 (bv (edge ds 2) : Int), Value.int IntKind.u8 (bv (edge ds 3) : Int), Value.int IntKind.u8 (bv (edge ds 4) : Int), Value.int IntKind.u8 (bv (edge ds 5) : Int), Value.int IntKind.u8 (bv (edge ds 6) : Int), Value.int IntKind.u8 (bv (edge ds 7) : Int)] 61)) := ⟨_, rfl⟩
    have hg0 : Row WG w3.heap.size 61 (cellsG (edge ds)) := by rw [hWG]; exact Row.fresh _ _ _
    have hbg : Below w3.heap.size w3 WG := by rw [hWG]; exact (Below.refl _ _).alloc (Nat.le_refl _) _
    have hgs : WG.heap.size = w3.heap.size + 1 := by rw [hWG]; simp
    unfold cellsG
    go_upto_region 4 with fail
    rw [← hWG]
    clear hWG
    obtain ⟨WL, hWL⟩ : ∃ W, W = WG.alloc (Obj.cells #[Value.int IntKind.i64 0, Value.int IntKind.i64 0, Value.int IntKind.i64 0, Value.int IntKind.i64 0, Value.int IntKind.i64 0, Value.int IntKind.i64 0, Value.int IntKind.i64 0, Value.int IntKind.i64 0] 68) := ⟨_, rfl⟩
    have hgl : Row WL w3.heap.size 61 (cellsG (edge ds)) := by rw [hWL]; exact hg0.alloc _
    have hll : Row WL (w3.heap.size + 1) 68 (cellsL (lvAt ds [])) := by rw [hWL, ← hgs]; exact Row.fresh _ _ _
    have hbl : Below w3.heap.size w3 WL := by rw [hWL]; exact hbg.alloc hbg.size _
    have hls : WL.heap.size = w3.heap.size + 2 := by rw [hWL, World.size_alloc, hgs]
    go_upto_region 5 with fail
    rw [← hWL]
    clear hWL hg0 hbg
    obtain ⟨b0, b1, b2, b3, b4, b5, b6, b7⟩ := hgl.eightG
    have HO := Lib.hid (order_any ds DA DC L B WL (HD.out.below ((HB3.out.trans (hbl.mono HB3.out.size)).mono hB)) (Nat.le_trans hB (Nat.le_trans HB3.out.size hbl.size)) hdz HOK.out)
    have HGL := Lib.hid hgl
    have HLL := Lib.hid hll
    have HBL := Lib.hid (HB3.out.trans (hbl.mono HB3.out.size))
    have HSZ := Lib.hid (show w.heap.size ≤ w3.heap.size ∧ WL.heap.size = w3.heap.size + 2 from ⟨HB3.out.size, hls⟩)
    clear hgl hll hbl hls hgs HB3
    go_wp2_with fail
    refine HO.out.mono ?_
    rintro e w4 ⟨v4, rfl, ho4, hb4⟩
    obtain ⟨zs, hzs⟩ : ∃ z, z = orderL ds := ⟨_, rfl⟩
    have hoi : OrdI ds zs := by rw [hzs]; exact (orderL_I ds).1
    rw [← hzs] at ho4 HOL
    have hzl : zs.length ≤ 8 := Nat.le_trans hoi.len hl8
    have HOI := Lib.hid hoi
    obtain ⟨A4, c4, rfl, hI4⟩ := own_ints ho4 (fun z hz => by have := inVar_true (hoi.nums HOK.out z hz); unfold I64; omega)
    have HI4 := Lib.hid hI4
    have HG4 := Lib.hid (HGL.out.below hb4 HGL.out.size)
    have HL4 := Lib.hid (HLL.out.below hb4 HLL.out.size)
    have HB4 := Lib.hid (HBL.out.trans (hb4.mono HBL.out.size))
    have HS4 := Lib.hid hb4.size
    clear b0 b1 b2 b3 b4 b5 b6 b7 hb4 ho4 hI4 hoi hzs HO HGL HLL HBL
    go_wp2_with fail
    go_loopw [21] (fun i wr => ∃ (j : Nat), j ≤ zs.length ∧ i = .int .i64 (j : Int) ∧ decide (x ∈ zs.take j) = false ∧ Row wr w3.heap.size 61 (cellsG (edge ds)) ∧ Row wr (w3.heap.size + 1) 68 (cellsL (lvAt ds (zs.take j))) ∧ LiesI wr WL.heap.size w4.heap.size A4 zs ∧ w4.heap.size ≤ wr.heap.size ∧ Below w.heap.size w wr)
      (fun i _ => zs.length - (intOf i).toNat)
    case atStart => exact ⟨0, Nat.zero_le _, rfl, by simp, HG4.out, HL4.out, HI4.out, Nat.le_refl _, HB4.out⟩
    case round =>
      clear HG4 HL4 HI4 HB4
      obtain ⟨wo, rfl⟩ : ∃ wo : World, wo = wr := ⟨_, rfl⟩
      obtain ⟨j, hj, rfl, hnx, hg, hl, hI, hz4, hb⟩ := hrel
      have HNX := Lib.hid hnx
      have HG := Lib.hid hg
      have HL := Lib.hid hl
      have HI := Lib.hid hI
      have HZ4 := Lib.hid hz4
      have HB := Lib.hid hb
      clear hnx hg hl hI hz4 hb
      by_cases hlt : j < zs.length
      · have e1 := List.getElem?_eq_getElem hlt
        generalize zs[j] = y at e1
        obtain ⟨d, hdm, rfl, hrd⟩ := HOI.out.at e1
        obtain ⟨en, e8⟩ := inVar_nat (libOk_named HOK.out d hdm).1
        obtain ⟨hr1, hr2⟩ := Bool.and_eq_true_iff.1 hrd
        have HR1 := Lib.hid (show inL (zs.take j) d.nm.toNat = false by simpa using hr1)
        have HOE := Lib.hid (outE_at HOK.out hdm)
        have HR2 := Lib.hid (show ∀ c, c ∈ outE ds d.nm.toNat → ∃ v : Nat, v < 8 ∧ c = (v : Int) ∧ inL (zs.take j) v = true ∧ v ≠ d.nm.toNat ∧ lvl ds v < 8 from fun c hc => by
          rw [HOE.out] at hc
          obtain ⟨v, h8, rfl, hv⟩ := (nums_iff _ 8 c).1 hc
          have h3 := (allT_iff _ _).1 hr2 v h8 hv
          have hin : inL zs v = true := by
            obtain ⟨z, hz, hz2⟩ := List.any_eq_true.1 h3
            exact List.any_eq_true.2 ⟨z, List.mem_of_mem_take hz, hz2⟩
          obtain ⟨e, hem, hex⟩ := made_in HOI.out.made v hin
          have h5 := lvl_le8 HOK.out hem (end_made HOK.out HOI.out.made _ (by rw [hex]; exact hin))
          rw [hex] at h5
          exact ⟨v, h8, rfl, h3, (fun h => by rw [h, HR1.out] at h3; cases h3), h5⟩)
        have HEND := Lib.hid (show Ends ds d.nm.toNat from end_made HOK.out HOI.out.made _ (List.any_eq_true.2 ⟨d.nm, List.mem_of_getElem? e1, decide_eq_true rfl⟩))
        have HTK := Lib.hid (show zs.take (j + 1) = zs.take j ++ [d.nm] by rw [List.take_add_one, e1]; rfl)
        have HME := Lib.hid (List.mem_of_getElem? e1)
        obtain ⟨b, o, hA, _, hbb, hx7, g7⟩ := HI.out j d.nm e1
        subst hA
        have gv := HG.out.cell (cellsG_at (edge ds) e8)
        have i0 : (0 : Int) ≤ d.nm := by omega
        have i8 : d.nm < 8 := by omega
        have HBL := Lib.hid (bitsList_any (edge ds d.nm.toNat) wo)
        clear hr1 hr2 hrd e1
        go_wp2_with fail
        refine HBL.out.mono ?_
        rintro e w5 ⟨v5, rfl, ho5, hb5⟩
        obtain ⟨ys, hys⟩ : ∃ z, z = numsUpto (edge ds d.nm.toNat) 8 := ⟨_, rfl⟩
        have hyl : ys.length ≤ 8 := by rw [hys]; exact numsUpto_len _ 8
        have HYS := Lib.hid (show outE ds d.nm.toNat = ys from hys.symm)
        rw [← hys] at ho5
        obtain ⟨A5, c5, rfl, hI5⟩ := own_ints ho5 (fun z hz => numsUpto_small _ 8 z (Nat.le_refl _) (hys ▸ hz))
        have HI5 := Lib.hid hI5
        have HG5 := Lib.hid (HG.out.below hb5 HG.out.size)
        have HL5 := Lib.hid (HL.out.below hb5 HL.out.size)
        have HII5 := Lib.hid (HI.out.below (hb5.mono HZ4.out))
        have HZ5 := Lib.hid hb5.size
        have HB5 := Lib.hid (HB.out.trans (hb5.mono HB.out.size))
        clear hys ho5 hI5 hb5 gv g7 HBL HG HL HI HB
        go_wp2_with fail
        go_loopw [30] (fun i wr => ∃ (k : Nat), k ≤ ys.length ∧ i = .int .i64 (k : Int) ∧ Row wr w3.heap.size 61 (cellsG (edge ds)) ∧ Row wr (w3.heap.size + 1) 68 (cellsL (lvIn ds (zs.take j) d.nm.toNat (ys.take k))) ∧ LiesI wr WL.heap.size w4.heap.size (some ⟨b, o, none⟩) zs ∧ LiesI wr wo.heap.size w5.heap.size A5 ys ∧ w5.heap.size ≤ wr.heap.size ∧ Below w.heap.size w wr)
          (fun i _ => ys.length - (intOf i).toNat)
        case atStart =>
          refine ⟨0, Nat.zero_le _, rfl, HG5.out, ?_, HII5.out, HI5.out, Nat.le_refl _, HB5.out⟩
          rw [cellsL_congr (M := lvAt ds (zs.take j)) fun f _ => by
            unfold lvIn
            by_cases hf : f = d.nm.toNat
            · rw [if_pos hf, hf]; unfold lvAt; rw [HR1.out]; rfl
            · rw [if_neg hf]]
          exact HL5.out
        case round =>
          clear HG5 HL5 HII5 HI5 HB5
          obtain ⟨wx, rfl⟩ : ∃ wx : World, wx = wr := ⟨_, rfl⟩
          obtain ⟨k, hk, rfl, hg, hl, hI, hI5, hz5, hb⟩ := hrel
          by_cases hkl : k < ys.length
          · have e2 := List.getElem?_eq_getElem hkl
            have hcm := List.getElem_mem hkl
            generalize ys[k] = c at e2 hcm
            obtain ⟨u, hu8, rfl, hu1, hu2, hu3⟩ := HR2.out c (by rw [HYS.out]; exact hcm)
            obtain ⟨b2, o2, hA2, hlo2, hbb2, hx8, g8⟩ := hI5 k _ e2
            subst hA2
            have lv := hl.cell (cellsL_at _ e8)
            have lu := hl.cell (cellsL_at _ hu8)
            have lf := hl.free d.nm.toNat
            have ev : lvIn ds (zs.take j) d.nm.toNat (ys.take k) d.nm.toNat = maxOver (lvl ds) (ys.take k) 0 := by unfold lvIn; rw [if_pos rfl]
            have eu : lvIn ds (zs.take j) d.nm.toNat (ys.take k) u = lvl ds u := by unfold lvIn lvAt; rw [if_neg hu2, hu1]; rfl
            rw [ev] at lv
            rw [eu] at lu
            have hm8 : maxOver (lvl ds) (ys.take k) 0 ≤ 8 := maxOver_le8 HOK.out HEND.out fun x hx => by rw [HYS.out]; exact List.mem_of_mem_take hx
            have HPUT := Lib.hid (show (cellsL (lvIn ds (zs.take j) d.nm.toNat (ys.take k))).setIfInBounds d.nm.toNat (.int .i64 ((max (maxOver (lvl ds) (ys.take k) 0) (lvl ds u + 1) : Nat) : Int)) = cellsL (lvIn ds (zs.take j) d.nm.toNat (ys.take (k + 1))) by
              rw [cellsL_put _ _ e8]
              refine cellsL_congr fun f _ => ?_
              unfold lvIn
              by_cases hf : f = d.nm.toNat
              · rw [if_pos hf, if_pos hf, maxOver_take e2]; rfl
              · rw [if_neg hf, if_neg hf, if_neg hf])
            have HG := Lib.hid hg
            have HL := Lib.hid hl
            have HI := Lib.hid hI
            have HI5 := Lib.hid hI5
            have HZ5x := Lib.hid hz5
            have HB := Lib.hid hb
            generalize maxOver (lvl ds) (ys.take k) 0 = n at lv hm8 HPUT
            generalize lvl ds u = q at lu hu3 HPUT
            have HMX := Lib.hid (show (if (n : Int) < (q : Int) + 1 then (q : Int) + 1 else (n : Int)) = ((max n (q + 1) : Nat) : Int) by split <;> omega)
            clear ev eu e2 hcm hg hl hI hI5 hz5 hb
            go_wp2_with fail
            go_region
            all_goals
              clear lv lu lf g8
              go_wp2
              go_roundw
              case rel =>
                rw [HMX.out]
                have hs1 := HSZ.out.2
                have hs2 := HZ4.out
                have hs3 := HS4.out
                refine ⟨k + 1, hkl, by go_num, HG.out.apart (p := ⟨w3.heap.size + 1, d.nm.toNat, none⟩) (by simp) _, ?_, HI.out.set (p := ⟨w3.heap.size + 1, d.nm.toNat, none⟩) (.inl (show w3.heap.size + 1 < WL.heap.size by omega)) _, HI5.out.set (p := ⟨w3.heap.size + 1, d.nm.toNat, none⟩) (.inl (show w3.heap.size + 1 < wo.heap.size by omega)) _, by simpa using HZ5x.out, (HB.out.setCell (p := ⟨w3.heap.size + 1, d.nm.toNat, none⟩) (show w.heap.size ≤ w3.heap.size + 1 by have := HSZ.out.1; omega) _).drew⟩
                rw [← HPUT.out]
                exact HL.out.put d.nm.toNat _
              case measure => simp [intOf]; omega
          · have hke : ys.take k = ys := List.take_of_length_le (by omega)
            rw [hke, cellsL_congr (M := lvAt ds (zs.take (j + 1))) fun f _ => by
              unfold lvIn lvAt
              rw [HTK.out, inL_snoc]
              by_cases hf : f = d.nm.toNat
              · rw [if_pos hf, hf]
                show maxOver (lvl ds) ys 0 = if (inL (zs.take j) d.nm.toNat || decide (d.nm.toNat = d.nm.toNat)) = true then lvl ds d.nm.toNat else 0
                rw [decide_eq_true rfl, Bool.or_true, if_pos rfl, lvl_is HOK.out HEND.out, HYS.out]
              · rw [if_neg hf]
                show (if inL (zs.take j) f = true then lvl ds f else 0) = if (inL (zs.take j) f || decide (f = d.nm.toNat)) = true then lvl ds f else 0
                rw [decide_eq_false hf, Bool.or_false]] at hl
            have lv := hl.cell (cellsL_at _ e8)
            have elv : lvAt ds (zs.take (j + 1)) d.nm.toNat = lvl ds d.nm.toNat := by
              unfold lvAt
              rw [HTK.out, inL_snoc]
              show (if (inL (zs.take j) d.nm.toNat || decide (d.nm.toNat = d.nm.toNat)) = true then lvl ds d.nm.toNat else 0) = _
              rw [decide_eq_true rfl, Bool.or_true, if_pos rfl]
            rw [elv] at lv
            have HG := Lib.hid hg
            have HL := Lib.hid hl
            have HI := Lib.hid hI
            have HZX := Lib.hid (Nat.le_trans HZ4.out (Nat.le_trans HZ5.out hz5))
            have HB := Lib.hid hb
            clear hke elv hg hl hI hI5 hz5 hb
            by_cases hxy : d.nm = x
            · subst hxy
              have hB1 : lvlB ds d.nm = true := by rw [← HOL.out]; exact decide_eq_true HME.out
              have HPOST := Lib.hid (show LvlPost (lvlV ds d.nm) (lvlB ds d.nm) w (.returned (.tuple #[.int .i64 (lvl ds d.nm.toNat : Int), .bool true])) wx from ⟨by rw [lvlB_yes hB1, hB1], HB.out⟩)
              clear hB1
              go_wp2_with fail
              refine bodyPost_ret (v := .tuple #[.int .i64 (lvl ds d.nm.toNat : Int), .bool true]) ?_ rfl HPOST.out
              simp [results, Try.f21, go_sem]
            · have HNX2 := Lib.hid (show decide (x ∈ zs.take (j + 1)) = false by
                rw [HTK.out]
                refine decide_eq_false fun hm => ?_
                rcases List.mem_append.1 hm with h | h
                · exact of_decide_eq_false HNX.out h
                · exact hxy (List.mem_singleton.1 h).symm)
              clear lv
              go_wp2_with fail
              go_roundw
              case rel => exact ⟨j + 1, hlt, by go_num, HNX2.out, HG.out, HL.out, HI.out, HZX.out, HB.out⟩
              case measure => simp [intOf]; omega
      · have hje : zs.take j = zs := List.take_of_length_le (by omega)
        have hB0 : lvlB ds x = false := by rw [← HOL.out, ← hje]; exact HNX.out
        have HPOST := Lib.hid (show LvlPost (lvlV ds x) (lvlB ds x) w (.returned (.tuple #[.int .i64 0, .bool false])) wo from ⟨by rw [lvlB_no hB0, hB0]; rfl, HB.out⟩)
        clear hje hB0
        go_wp2_with fail
        refine bodyPost_ret (v := .tuple #[.int .i64 0, .bool false]) ?_ rfl HPOST.out
        simp [results, Try.f21, go_sem]
end Go.Proofs.Ytdconngmobpkoaa
