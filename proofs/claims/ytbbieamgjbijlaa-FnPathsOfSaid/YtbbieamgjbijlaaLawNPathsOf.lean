/-
  The walk of the law FnPathsOf: true at every input.
-/
import Derived.Test.YtbbieamgjbijlaaDrawE
import Derived.Test.YtbbieamgjbijlaaTreeP
import Derived.Test.YtbbieamgjbijlaaISize
import Derived.Test.YtbbieamgjbijlaaPartI
import Derived.Test.YtbbieamgjbijlaaAmP
namespace Go.Proofs.Ytbbieamgjbijlaa
open Go.RowKit Go.Shelf
set_option maxRecDepth 100000

theorem pathsB_part {o m : Int} {k : Fo} {zs : List Int} (h : zs ∈ pathsB ⟨o, m, k⟩) : (partN ⟨o, m, k⟩ zs).isSome = true ∧ smallOk k 14 80 = true ∧ zs.length ≤ 80 := by
  unfold pathsB at h
  split at h
  · rename_i hv
    exact ⟨pathsP_part h, ndIs_small hv, Nat.le_trans (pathsP_short h) (nd_small hv)⟩
  · cases h
theorem pathsB_full {o m : Int} {k : Fo} (h : 0 < (pathsB ⟨o, m, k⟩).length) : (pathsB ⟨o, m, k⟩).length = 1 + k.size ∧ (pathsB ⟨o, m, k⟩)[0]? = some [] := by
  unfold pathsB at h ⊢
  split at h
  · rename_i hv
    rw [if_pos hv, pathsP_len]
    exact ⟨by dsimp only; omega, rfl⟩
  · simp at h

set_option maxHeartbeats 4000000 in
theorem law_NPathsOf (bs : List Nat) (A : Option Addr) (c : Nat) (w : World) (hl : LiesY w 0 w.heap.size A bs) (hlc : bs.length ≤ c) (hc : c ≤ maxLen) :
    Calls Try.prog 3 #[.slice A bs.length c] w (Gives (.bool true) w) := by
  have HC := Lib.hid (drawPathsOf_any A c bs w hl hlc hc)
  unfold maxLen at hc
  by_cases hsz : bs.length ≤ 1048576
  rotate_left
  · have hgt : 1048576 < bs.length := by omega
    go_enter Try.func3, Try.ntmps3
    go_wp2_with fail
    go_ret
    exact ⟨rfl, Below.refl _ _⟩
  clear hl
  go_enter Try.func3, Try.ntmps3
  go_wp2_with fail
  refine HC.out.mono ?_
  rintro e w1 ⟨op, n, k, X, cx, rfl, ⟨bl, hi, ht, hs⟩, hb⟩
  obtain ⟨_, _, hX, hk1, hk2⟩ := ht.slice
  injection hX with hX1 hX2 hX3
  subst hX3
  obtain ⟨W, hW⟩ : ∃ W, W = w1.alloc (Obj.cells #[.int .i64 op, .int .i64 n, .slice X k.len cx] 25) := ⟨_, rfl⟩
  have hbW : Below w1.heap.size w1 W := by rw [hW]; exact (Below.refl _ _).alloc (Nat.le_refl _) _
  have hx : Row W w1.heap.size 25 #[.int .i64 op, .int .i64 n, .slice X k.len cx] := by rw [hW]; exact Row.fresh _ _ _
  have HX := Lib.hid hx
  have HH := Lib.hid ((ht.held).up hbW)
  have HB := Lib.hid (hb.trans (hbW.mono hb.size))
  have HI := Lib.hid hi
  obtain ⟨zss, hzss⟩ : ∃ z, z = pathsB ⟨op, n, k⟩ := ⟨_, rfl⟩
  have HZS := Lib.hid hzss
  have HPT := Lib.hid (show ∀ zs, zs ∈ zss → (partN ⟨op, n, k⟩ zs).isSome = true ∧ smallOk k 14 80 = true ∧ zs.length ≤ 80 from fun zs hz => by rw [hzss] at hz; exact pathsB_part hz)
  have HFL := Lib.hid (show 0 < zss.length → zss.length = 1 + k.size ∧ zss[0]? = some [] from fun h => by rw [hzss] at h ⊢; exact pathsB_full h)
  have hzl : zss.length ≤ 81 := by rw [hzss]; exact pathsB_len _
  have HIM := Lib.hid (show ∀ w' : World, Below W.heap.size W w' → Calls Try.prog 8 #[.agg #[.int .i64 op, .int .i64 n, .slice X k.len cx]] w' (PathsPost zss w') from fun w' hb' => by rw [hzss]; exact implPaths_any op n k X cx w' (HH.out.up hb').1 (Nat.le_trans hk1 hk2))
  have HSP := Lib.hid (show ∀ w' : World, Below W.heap.size W w' → Calls Try.prog 10 #[.agg #[.int .i64 op, .int .i64 n, .slice X k.len cx]] w' (PathsPost zss w') from fun w' hb' => by rw [hzss]; exact specPaths_any op n k X cx w' (HH.out.up hb').1 (Nat.le_trans hk1 hk2))
  clear hb hbW ht hX1 HC hi hzss
  go_upto_region 4 with fail
  rw [← hW]
  clear hW
  have q0 := hx.cell (i := 0) rfl
  have q1 := hx.cell (i := 1) rfl
  have q2 := hx.cell (i := 2) rfl
  clear hx
  go_wp2_with fail
  refine (HIM.out W (Below.refl _ _)).mono ?_
  rintro e w2 ⟨Al, cl, bl2, rfl, hol, hb2⟩
  have HLL := Lib.hid hol.lies0
  have hx := HX.out.below hb2 HX.out.size
  have HX2 := Lib.hid hx
  have HBW2 := Lib.hid hb2
  have HB2 := Lib.hid (HB.out.trans (hb2.mono HB.out.size))
  clear hol hb2 q0 q1 q2
  have q0 := hx.cell (i := 0) rfl
  have q1 := hx.cell (i := 1) rfl
  have q2 := hx.cell (i := 2) rfl
  clear hx
  go_wp2_with fail
  refine (HSP.out w2 HBW2.out).mono ?_
  rintro e w3 ⟨Am, cm, bl3, rfl, hom, hb3⟩
  have HLM := Lib.hid hom.lies0
  have HL3 := Lib.hid (HLL.out.up hb3)
  have HX3 := Lib.hid (HX2.out.below hb3 HX2.out.size)
  have HBW3 := Lib.hid (HBW2.out.trans (hb3.mono HBW2.out.size))
  have HB3 := Lib.hid (HB2.out.trans (hb3.mono HB2.out.size))
  clear hom hb3 q0 q1 q2 HX2 HBW2 HB2 HLL
  go_wp2_with fail
  refine (amPaths_any zss Al Am cl cm w3 HL3.out HLM.out (by omega) (fun zs hz => Nat.le_trans (HPT.out zs hz).2.2 (by decide))).mono ?_
  rintro e w4 ⟨rfl, hb4⟩
  have HL4 := Lib.hid (HL3.out.up hb4)
  have hx := HX3.out.below hb4 HX3.out.size
  have HX4 := Lib.hid hx
  have HBW4 := Lib.hid (HBW3.out.trans (hb4.mono HBW3.out.size))
  have HB4 := Lib.hid (HB3.out.trans (hb4.mono HB3.out.size))
  clear hb4 HX3 HBW3 HB3 HL3 HLM
  by_cases hz0 : zss.length = 0
  · have b1 : ((zss.length : Int) == 0) = true := by rw [hz0]; rfl
    have q0 := hx.cell (i := 0) rfl
    have q1 := hx.cell (i := 1) rfl
    have q2 := hx.cell (i := 2) rfl
    have HZ0 := Lib.hid hz0
    clear hx hz0
    go_wp2_with fail
    refine (HSP.out w4 HBW4.out).mono ?_
    rintro e w5 ⟨An, cn, bl5, rfl, hon, hb5⟩
    have HLN := Lib.hid hon.lies0
    have HL5 := Lib.hid (HL4.out.up hb5)
    have HB5 := Lib.hid (HB4.out.trans (hb5.mono HB4.out.size))
    clear hon hb5 q0 q1 q2
    go_wp2_with fail
    refine (amPaths_any zss Al An cl cn w5 HL5.out HLN.out (by omega) (fun zs hz => Nat.le_trans (HPT.out zs hz).2.2 (by decide))).mono ?_
    rintro e w6 ⟨rfl, hb6⟩
    have HB6 := Lib.hid (HB5.out.trans (hb6.mono HB5.out.size))
    clear hb6
    go_wp2_with fail
    go_ret
    exact ⟨rfl, HB6.out⟩
  · have b1 : ((zss.length : Int) == 0) = false := beq_eq_false_iff_ne.2 (by omega)
    obtain ⟨hfull, hfirst⟩ := HFL.out (by omega)
    have HFU := Lib.hid hfull
    have HFI := Lib.hid hfirst
    clear hx hz0 hfull hfirst HIM HSP
    go_wp2_with fail
    go_loopw [5] (fun i wr => ∃ (j : Nat), j ≤ zss.length ∧ i = .int .i64 (j : Int) ∧ Below w4.heap.size w4 wr)
      (fun i _ => zss.length - (intOf i).toNat)
    case atStart => exact ⟨0, Nat.zero_le _, rfl, Below.refl _ _⟩
    case round =>
      obtain ⟨j, hj, rfl, hbr⟩ := hrel
      have hx := HX4.out.below hbr HX4.out.size
      have hlr := HL4.out.up hbr
      have hbW := HBW4.out.trans (hbr.mono HBW4.out.size)
      have hb := HB4.out.trans (hbr.mono HB4.out.size)
      have hh := HH.out.up hbW
      by_cases hlt : j < zss.length
      · have e1 := List.getElem?_eq_getElem hlt
        generalize zss[j] = zs at e1
        obtain ⟨hps, hsm, hsl⟩ := HPT.out zs (List.mem_of_getElem? e1)
        obtain ⟨b, o, A', c', hA, _, hbb, hc, hli⟩ := hlr j zs e1
        subst hA
        have hS : ∀ w' : World, Below wr.heap.size wr w' → w'.cell? ⟨w1.heap.size, 0, none⟩ = some (Value.int .i64 op) ∧ w'.cell? ⟨w1.heap.size, 1, none⟩ = some (Value.int .i64 n) ∧ w'.cell? ⟨w1.heap.size, 2, none⟩ = some (Value.slice X k.len cx) ∧ w'.cell? ⟨b, o + j, none⟩ = some (Value.slice A' zs.length c') := fun w' hb' => ⟨(hx.below hb' hx.size).cell (i := 0) rfl, (hx.below hb' hx.size).cell (i := 1) rfl, (hx.below hb' hx.size).cell (i := 2) rfl, (hb'.cell (p := ⟨b, o + j, none⟩) hbb).trans hc⟩
        obtain ⟨y, hy⟩ : ∃ y, y = (partN ⟨op, n, k⟩ zs).getD nd0 := ⟨_, rfl⟩
        have hcon := fun (w' : World) (hb' : Below wr.heap.size wr w') => implPart_o op n k X cx zs A' c' 0 w'.heap.size w' (hh.up hb').1 (Nat.le_refl _) (.inl hsm) hk1 hk2 (hli.up hb') (by omega) (by omega) HI.out
        rw [← hy, hps] at hcon
        have HS := Lib.hid hS
        have HCON := Lib.hid hcon
        have HBR := Lib.hid hbr
        have qc := hc
        clear hx hlr hbW hb hh e1 hps hsm hS hcon hbr hc hli hy
        go_upto_region 10 with fail
        clear qc
        go_cut [6, 7] from 35 to 44 (fun _ s wd => s = .bool true ∧ Below wr.heap.size wr wd)
        case first =>
          have b0 : Below wr.heap.size wr wr.drew := (Below.refl _ _).drew
          have bp : Below wr.heap.size wr (wr.alloc (Obj.cells #[Value.int .i64 0, Value.int .i64 0, Value.slice none 0 0] 25)).drew := ((Below.refl _ _).alloc (Nat.le_refl _) _).drew
          have C0 := Lib.hid (HCON.out _ b0)
          have CP := Lib.hid (HCON.out _ bp)
          have s0 := HS.out _ b0
          have sp := HS.out _ bp
          have B0 := Lib.hid b0
          have BP := Lib.hid bp
          have RP := Lib.hid (show Row (wr.alloc (Obj.cells #[Value.int .i64 0, Value.int .i64 0, Value.slice none 0 0] 25)).drew wr.heap.size 25 #[Value.int .i64 0, Value.int .i64 0, Value.slice none 0 0] from (Row.fresh _ _ _).drew)
          clear b0 bp
          go_region_held3 (fun w' => w'.cell? ⟨w1.heap.size, 0, none⟩ = some (Value.int .i64 op) ∧ w'.cell? ⟨w1.heap.size, 1, none⟩ = some (Value.int .i64 n) ∧ w'.cell? ⟨w1.heap.size, 2, none⟩ = some (Value.slice X k.len cx) ∧ w'.cell? ⟨b, o + j, none⟩ = some (Value.slice A' zs.length c'))
            (first | with_reducible exact s0 | with_reducible exact sp | with_reducible exact s3 | with_reducible exact s4 | with_reducible exact s3z | fail)
            (first
            | (go_at_call 11
               with_reducible refine CP.out.mono ?_
               rintro e vd ⟨A5, c5, b5, rfl, ht5, hb5⟩
               have hb := BP.out.trans (hb5.mono BP.out.size)
               have r5 := (RP.out).below hb5 ((RP.out).size)
               have f0 := r5.free 0
               have f1 := r5.free 1
               have f2 := r5.free 2
               have d0 := r5.cell (i := 0) rfl
               have d1 := r5.cell (i := 1) rfl
               have d2 := r5.cell (i := 2) rfl
               have hbs := ((hb.setCell (p := ⟨wr.heap.size, 0, none⟩) (Nat.le_refl _) (.int .i64 y.op)).setCell (p := ⟨wr.heap.size, 1, none⟩) (Nat.le_refl _) (.int .i64 y.n)).setCell (p := ⟨wr.heap.size, 2, none⟩) (Nat.le_refl _) (.slice A5 y.k.len c5)
               have s3 := HS.out _ hb
               have s4 := HS.out _ hbs
               have HEND := Lib.hid hbs
               clear ht5 hb5 hb r5 hbs)
            | (go_at_call 11
               with_reducible refine C0.out.mono ?_
               rintro e vd ⟨A5, c5, b5, rfl, ht5, hb5⟩
               have hb := B0.out.trans (hb5.mono B0.out.size)
               have hba := hb.alloc hb.size (Obj.cells #[Value.int .i64 y.op, Value.int .i64 y.n, Value.slice A5 y.k.len c5] 25)
               have s3 := HS.out _ hb
               have s4 := HS.out _ hba
               have s3z := HS.out _ (hb.alloc hb.size (Obj.cells #[Value.int .i64 0, Value.int .i64 0, Value.slice none 0 0] 25))
               have HEND := Lib.hid hba
               clear ht5 hb5 hb hba)
            | fail)
          all_goals
            go_wp2_with fail
            go_meet
            exact ⟨rfl, HEND.out⟩
        case rest =>
          obtain ⟨rfl, hb9⟩ := hcut
          have HB9 := Lib.hid (HBR.out.trans (hb9.mono HBR.out.size))
          clear hb9 HCON HS HBR
          go_wp2_with fail
          go_roundw
          case rel => exact ⟨j + 1, hlt, by go_num, HB9.out⟩
          case measure => simp [intOf]; omega
      · obtain ⟨b, o, A', c', hA, _, hbb, hc, hli⟩ := hlr 0 [] HFI.out
        subst hA
        have qc : wr.cell? ⟨b, o, none⟩ = some (.slice A' 0 c') := hc
        have q0 := hx.cell (i := 0) rfl
        have q1 := hx.cell (i := 1) rfl
        have q2 := hx.cell (i := 2) rfl
        have b2 : ((zss.length : Int) == 1 + (k.size : Int)) = true := by rw [HFU.out]; simp
        have HSZ := Lib.hid (implSize_r op n k X cx 0 wr.heap.size wr hh.1 (Nat.le_refl _) hh.rows hk1 hk2 (by omega))
        have HBZ := Lib.hid hb
        have hpos : 0 < zss.length := by rw [HFU.out]; omega
        clear hx hlr hbW hb hh hbr hc hli
        go_wp2_with fail
        refine HSZ.out.mono ?_
        rintro e w5 ⟨rfl, hb5⟩
        have qc5 := (hb5.cell (p := ⟨b, o, none⟩) hbb).trans qc
        have HB5 := Lib.hid (HBZ.out.trans (hb5.mono HBZ.out.size))
        clear HSZ hb5 q0 q1 q2 qc
        go_wp2_with fail
        go_ret
        exact ⟨rfl, HB5.out⟩
end Go.Proofs.Ytbbieamgjbijlaa
