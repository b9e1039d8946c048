/-
  spec.CallPaths.
-/
import Derived.Test.YtbbieamgjbijlaaCallP
import Derived.Test.YtbbieamgjbijlaaPartS
namespace Go.Proofs.Ytbbieamgjbijlaa
open Go.RowKit Go.Shelf
set_option maxRecDepth 100000

set_option maxHeartbeats 4000000 in
theorem specCallPaths_any (op n : Int) (k : Fo) (A : Option Addr) (c : Nat) (x : Int) (w : World) (hl : Lies w 0 w.heap.size A 0 k) (hk : k.len ≤ maxLen) (hsz : k.size ≤ 1048576) (hi : I64 op ∧ I64 n) :
    Calls Try.prog 18 #[.agg #[.int .i64 op, .int .i64 n, .slice A k.len c], .int .i64 x] w (PathsPost (callsB ⟨op, n, k⟩ x) w) := by
  obtain ⟨W, hW⟩ : ∃ W, W = (w.alloc (Obj.cells #[Value.int IntKind.i64 op, Value.int IntKind.i64 n, Value.slice A k.len c] 25)).alloc (Obj.cells #[] 32) := ⟨_, rfl⟩
  obtain ⟨hb, r1, r2⟩ := two_boxes w 25 32 #[Value.int IntKind.i64 op, Value.int IntKind.i64 n, Value.slice A k.len c] #[]
  rw [← hW] at hb r1 r2
  have HB := Lib.hid hb
  have HR1 := Lib.hid r1
  have HO0 := Lib.hid (show OwnSS W w.heap.size (.slice (some ⟨w.heap.size + 1, 0, none⟩) 0 0) [] [w.heap.size + 1] from ⟨[], [], rfl, ⟨rfl, .inr ⟨w.heap.size + 1, 0, #[], rfl, Nat.le_succ _, r2, Nat.le_refl _, by decide, rfl, rfl⟩⟩, rfl, rfl, by simp⟩)
  have HZ0 := Lib.hid r2.size
  have HP := Lib.hid (specPaths_any op n k A c W (hl.up hb) hk)
  have HL := Lib.hid hl
  have HI := Lib.hid hi
  have q0 := r1.cell (i := 0) rfl
  have q1 := r1.cell (i := 1) rfl
  have q2 := r1.cell (i := 2) rfl
  obtain ⟨zss, hzss⟩ : ∃ z, z = pathsB ⟨op, n, k⟩ := ⟨_, rfl⟩
  have hzl : zss.length ≤ 81 := by rw [hzss]; exact pathsB_len _
  have hzm : ∀ zs, zs ∈ zss → zs.length ≤ 80 := fun zs hz => by rw [hzss] at hz; exact pathsB_short hz
  obtain ⟨goal, hgoal⟩ : ∃ z, z = callsB ⟨op, n, k⟩ x := ⟨_, rfl⟩
  have hgz : goal = zss.filter (callsF ⟨op, n, k⟩ x) := by rw [hgoal, hzss]; rfl
  rw [← hgoal]
  rw [← hzss] at HP
  have HZM := Lib.hid hzm
  have HGZ := Lib.hid hgz
  clear hb r1 r2 hl hi hzm hgz hgoal hzss
  go_enter Try.func18, Try.ntmps18
  go_upto_region 2 with fail
  rw [← hW]
  clear hW
  go_wp2_with fail
  refine HP.out.mono ?_
  rintro e w1 ⟨Al, cl, bl, rfl, hol, hb1⟩
  have hol' := hol.lower (base' := w.heap.size) HB.out.size
  obtain ⟨st, hst, hstl, hpk⟩ := Pk.start hol' (HO0.out.over hb1) (fun b hb h2 => by
    have h1 := (hol.lt b h2).1
    have h3 := HZ0.out
    simp at hb
    omega)
  have HPK := Lib.hid hpk
  have HST := Lib.hid hst
  have HB1 := Lib.hid (HB.out.trans (hb1.mono HB.out.size))
  have HR2 := Lib.hid (HR1.out.below hb1 HR1.out.size)
  rw [← hstl]
  have hsl : st.length ≤ 81 := by omega
  clear HP hol hol' hpk hst hb1 q0 q1 q2 hstl HO0 HZ0
  go_wp2_with fail
  go_loopw [5, 7] (fun v i wr => ∃ (j : Nat) (acc : List (List Int)) (bs : List Nat) (A5 : Option Addr) (c5 : Nat), j ≤ st.length ∧ i = .int .i64 (j : Int) ∧ v = .slice A5 acc.length c5 ∧ acc = (zss.take j).filter (callsF ⟨op, n, k⟩ x) ∧ Pk wr w.heap.size Al cl st j (.slice A5 acc.length c5) acc bs ∧ Row wr w.heap.size 25 #[Value.int IntKind.i64 op, Value.int IntKind.i64 n, Value.slice A k.len c] ∧ Below w.heap.size w wr)
    (fun _ i _ => st.length - (intOf i).toNat)
  case atStart => exact ⟨0, [], _, some ⟨w.heap.size + 1, 0, none⟩, 0, Nat.zero_le _, rfl, rfl, by simp, HPK.out, HR2.out, HB1.out⟩
  case round =>
    clear HPK HB1 HR2 HR1 HB
    obtain ⟨j, acc, bs, A5, c5, hj, rfl, rfl, hacc, hpk, hre, hb⟩ := hrel
    have hal : acc.length ≤ 81 := by rw [hacc]; exact Nat.le_trans (List.length_filter_le _ _) (by rw [List.length_take]; omega)
    have HACC := Lib.hid hacc
    clear hacc
    by_cases hlt : j < st.length
    · have e1 := List.getElem?_eq_getElem hlt
      generalize st[j] = h at e1
      obtain ⟨g, hA, hc, hg, hli⟩ := hpk.head e1
      subst hA
      have ez : zss[j]? = some h.zs := by rw [← HST.out, List.getElem?_map, e1]; rfl
      have hzl2 := HZM.out h.zs (List.mem_of_getElem? ez)
      unfold Hd.val at hc
      have hS : ∀ w' : World, Below wr.heap.size wr w' → w'.cell? ⟨w.heap.size, 0, none⟩ = some (Value.int .i64 op) ∧ w'.cell? ⟨w.heap.size, 1, none⟩ = some (Value.int .i64 n) ∧ w'.cell? ⟨w.heap.size, 2, none⟩ = some (Value.slice A k.len c) ∧ w'.cell? ⟨g, j, none⟩ = some (Value.slice h.A h.zs.length h.c) := fun w' hb' => ⟨(hre.below hb' hre.size).cell (i := 0) rfl, (hre.below hb' hre.size).cell (i := 1) rfl, (hre.below hb' hre.size).cell (i := 2) rfl, (hb'.cell (p := ⟨g, j, none⟩) hg).trans hc⟩
      have hcon := fun (w' : World) (hb' : Below wr.heap.size wr w') => specPart_any op n k A c h.zs h.A h.c w' ((HL.out.up hb).up hb') hk (hli.up hb') (by omega) hsz HI.out
      obtain ⟨y, hy⟩ : ∃ y, y = (partN ⟨op, n, k⟩ h.zs).getD nd0 := ⟨_, rfl⟩
      obtain ⟨ok, hok⟩ : ∃ ok, ok = (partN ⟨op, n, k⟩ h.zs).isSome := ⟨_, rfl⟩
      rw [← hy, ← hok] at hcon
      have HS := Lib.hid hS
      have HCON := Lib.hid hcon
      have HY := Lib.hid hy
      have HOK := Lib.hid hok
      have HPK := Lib.hid hpk
      have HE1 := Lib.hid e1
      have HFS := Lib.hid (filter_step (callsF ⟨op, n, k⟩ x) ez)
      have HRE := Lib.hid hre
      have HBR := Lib.hid hb
      have HF := Lib.hid (show callsF ⟨op, n, k⟩ x h.zs = (decide (y.op = 3) && decide (y.n = x)) by rw [hy]; rfl)
      clear hpk hre hb hli e1 ez hS hcon hy hok hc
      have qc := (HS.out wr (Below.refl _ _)).2.2.2
      go_upto_region 6 with fail
      clear qc
      go_cut [8, 9] from 19 to 28 (fun p s wd => ∃ g A9 c9, p = .pointer (some ⟨g, 0, none⟩) ∧ s = .bool ok ∧ Row wd g 25 #[.int .i64 y.op, .int .i64 y.n, .slice A9 y.k.len c9] ∧ wr.heap.size ≤ g ∧ Below wr.heap.size wr wd)
      case first =>
        have b0 : Below wr.heap.size wr wr.drew := (Below.refl _ _).drew
        have bp : Below wr.heap.size wr (wr.alloc (Obj.cells #[Value.int .i64 0, Value.int .i64 0, Value.slice none 0 0] 25)).drew := ((Below.refl _ _).alloc (Nat.le_refl _) _).drew
        have C0 := Lib.hid (HCON.out _ b0)
        have CP := Lib.hid (HCON.out _ bp)
        have s0 := HS.out _ b0
        have sp := HS.out _ bp
        have B0 := Lib.hid b0
        have BP := Lib.hid bp
        have RP := Lib.hid (show Row (wr.alloc (Obj.cells #[Value.int .i64 0, Value.int .i64 0, Value.slice none 0 0] 25)).drew wr.heap.size 25 #[Value.int .i64 0, Value.int .i64 0, Value.slice none 0 0] from (Row.fresh _ _ _).drew)
        clear b0 bp
        go_region_held3 (fun w' => w'.cell? ⟨w.heap.size, 0, none⟩ = some (Value.int .i64 op) ∧ w'.cell? ⟨w.heap.size, 1, none⟩ = some (Value.int .i64 n) ∧ w'.cell? ⟨w.heap.size, 2, none⟩ = some (Value.slice A k.len c) ∧ w'.cell? ⟨g, j, none⟩ = some (Value.slice h.A h.zs.length h.c))
          (first | with_reducible exact s0 | with_reducible exact sp | with_reducible exact s3 | with_reducible exact s4 | with_reducible exact s3z | fail)
          (first
            | (go_at_call 14
               with_reducible refine CP.out.mono ?_
               rintro e vd ⟨A5, c5, b5, rfl, ht5, hb5⟩
               skip
               have hb := BP.out.trans (hb5.mono BP.out.size)
               have r5 := (RP.out).below hb5 ((RP.out).size)
               have f0 := r5.free 0
               have f1 := r5.free 1
               have f2 := r5.free 2
               have d0 := r5.cell (i := 0) rfl
               have d1 := r5.cell (i := 1) rfl
               have d2 := r5.cell (i := 2) rfl
               have hbs := ((hb.setCell (p := ⟨wr.heap.size, 0, none⟩) (Nat.le_refl _) (.int .i64 y.op)).setCell (p := ⟨wr.heap.size, 1, none⟩) (Nat.le_refl _) (.int .i64 y.n)).setCell (p := ⟨wr.heap.size, 2, none⟩) (Nat.le_refl _) (.slice A5 y.k.len c5)
               have s3 := HS.out _ hb
               have s4 := HS.out _ hbs
               have HEND := Lib.hid (show ∃ g A6 c6, Value.pointer (some ⟨wr.heap.size, 0, none⟩) = .pointer (some ⟨g, 0, none⟩) ∧ Row (((vd.setCell ⟨wr.heap.size, 0, none⟩ (.int .i64 y.op)).setCell ⟨wr.heap.size, 1, none⟩ (.int .i64 y.n)).setCell ⟨wr.heap.size, 2, none⟩ (.slice A5 y.k.len c5)) g 25 #[.int .i64 y.op, .int .i64 y.n, .slice A6 y.k.len c6] ∧ wr.heap.size ≤ g ∧ Below wr.heap.size wr (((vd.setCell ⟨wr.heap.size, 0, none⟩ (.int .i64 y.op)).setCell ⟨wr.heap.size, 1, none⟩ (.int .i64 y.n)).setCell ⟨wr.heap.size, 2, none⟩ (.slice A5 y.k.len c5)) from ⟨wr.heap.size, A5, c5, rfl, ((r5.put 0 _).put 1 _).put 2 _, Nat.le_refl _, hbs⟩)
               clear ht5 hb5 hb r5 hbs)
            | (go_at_call 14
               with_reducible refine C0.out.mono ?_
               rintro e vd ⟨A5, c5, b5, rfl, ht5, hb5⟩
               skip
               have hb := B0.out.trans (hb5.mono B0.out.size)
               have hba := hb.alloc hb.size (Obj.cells #[Value.int .i64 y.op, Value.int .i64 y.n, Value.slice A5 y.k.len c5] 25)
               have s3 := HS.out _ hb
               have s4 := HS.out _ hba
               have s3z := HS.out _ (hb.alloc hb.size (Obj.cells #[Value.int .i64 0, Value.int .i64 0, Value.slice none 0 0] 25))
               have HEND := Lib.hid (show ∃ g A6 c6, Value.pointer (some ⟨vd.heap.size, 0, none⟩) = .pointer (some ⟨g, 0, none⟩) ∧ Row (vd.alloc (Obj.cells #[Value.int .i64 y.op, Value.int .i64 y.n, Value.slice A5 y.k.len c5] 25)) g 25 #[.int .i64 y.op, .int .i64 y.n, .slice A6 y.k.len c6] ∧ wr.heap.size ≤ g ∧ Below wr.heap.size wr (vd.alloc (Obj.cells #[Value.int .i64 y.op, Value.int .i64 y.n, Value.slice A5 y.k.len c5] 25)) from ⟨vd.heap.size, A5, c5, rfl, Row.fresh _ _ _, hb.size, hba⟩)
               clear ht5 hb5 hb hba)
            | fail)
        all_goals
          go_wp2_with fail
          go_meet
          obtain ⟨g, A9', c9', hp, hr⟩ := HEND.out
          exact ⟨g, A9', c9', hp, rfl, hr⟩
      case rest =>
        obtain ⟨g9, A9, c9, rfl, rfl, hr9, hg9, hb9⟩ := hcut
        obtain ⟨wz, hwz⟩ : ∃ v, v = wc := ⟨_, rfl⟩
        rw [← hwz] at hr9 hb9 ⊢
        have hbz := HBR.out.trans (hb9.mono HBR.out.size)
        have hpk := HPK.out.over hb9
        have hre := HRE.out.below hb9 HRE.out.size
        have qc := (HS.out wz hb9).2.2.2
        obtain ⟨A7, c7, w7, bs7, hrun, hpk7, hg7⟩ := hpk.take HE1.out (by omega) hbz.size
        have HRUN := Lib.hid (hrun 27)
        have HPK7 := Lib.hid hpk7
        have HB7 := Lib.hid (Below.grown hbz hg7 hbz.size (fun z hz => by obtain ⟨q, k1, _⟩ := hpk; exact (k1.lt z (k1.own z hz)).1))
        have HR7 := Lib.hid (row_grown' hre hg7 (fun e => by obtain ⟨q, k1, _⟩ := hpk; obtain ⟨st', b1', h0', h1', _⟩ := k1; exact own_other_row h1' hre (by decide) e))
        have HSK := Lib.hid (hpk.skip HE1.out)
        have HREZ := Lib.hid hre
        have HBZ := Lib.hid hbz
        unfold Hd.val at HRUN
        have d0 := hr9.cell (i := 0) rfl
        have d1 := hr9.cell (i := 1) rfl
        clear hwz wc HCON HS hpk hre hbz hrun hpk7 hg7 hr9 hb9 hg9 HPK HRE HBR
        by_cases h3 : y.op = 3
        · by_cases h4 : y.n = x
          · have HFT := Lib.hid (show callsF ⟨op, n, k⟩ x h.zs = true by rw [HF.out]; simp [h3, h4])
            have b1 : (y.op == 3) = true := by simpa using h3
            have b2 : (y.n == x) = true := by simpa using h4
            clear h3 h4
            go_wp2_with (at_builtin; refine wpList_append_ran rfl _ _ 27 rfl _ _ _ rfl rfl HRUN.out ?_)
            go_roundw
            case rel => exact ⟨j + 1, acc ++ [h.zs], bs7, A7, c7, hlt, by go_num, by simp, by rw [HFS.out, HFT.out, ← HACC.out]; rfl, by simpa using HPK7.out, HR7.out, HB7.out⟩
            case measure => simp [intOf]; omega
          · have HFT := Lib.hid (show callsF ⟨op, n, k⟩ x h.zs = false by rw [HF.out]; simp [h4])
            have b1 : (y.op == 3) = true := by simpa using h3
            have b2 : (y.n == x) = false := by simpa using h4
            clear h3 h4
            go_wp2_with fail
            go_roundw
            case rel => exact ⟨j + 1, acc, bs, A5, c5, hlt, by go_num, rfl, by rw [HFS.out, HFT.out, ← HACC.out]; simp, HSK.out, HREZ.out, HBZ.out⟩
            case measure => simp [intOf]; omega
        · have HFT := Lib.hid (show callsF ⟨op, n, k⟩ x h.zs = false by rw [HF.out]; simp [h3])
          have b1 : (y.op == 3) = false := by simpa using h3
          clear h3
          go_wp2_with fail
          go_roundw
          case rel => exact ⟨j + 1, acc, bs, A5, c5, hlt, by go_num, rfl, by rw [HFS.out, HFT.out, ← HACC.out]; simp, HSK.out, HREZ.out, HBZ.out⟩
          case measure => simp [intOf]; omega
    · have e9 : j = st.length := by omega
      have hall : acc = goal := by rw [HACC.out, HGZ.out, e9, show st.length = zss.length by rw [← HST.out]; simp, List.take_length]
      subst hall
      obtain ⟨q, ho, _⟩ := hpk
      have HO := Lib.hid ho
      have HBZ := Lib.hid hb
      clear ho hb hre
      go_wp2_with fail
      go_ret
      exact ⟨A5, c5, bs, rfl, HO.out, HBZ.out⟩
end Go.Proofs.Ytbbieamgjbijlaa
