/-
  spec.CallersOf (made by gen_gra.py).
-/
import Derived.Test.YtdconngmobpkoaaGraD
import Derived.Test.YtdconngmobpkoaaLibVS
import Derived.Test.YtdconngmobpkoaaCallsM
import Derived.Test.YtdconngmobpkoaaFresh
import Derived.Maps.AppendAt
namespace Go.Proofs.Ytdconngmobpkoaa
open Go.RowKit Go.Shelf
set_option maxRecDepth 100000

theorem callersL_filter {ds : List De} (h : libOk ds = true) (x : Int) : callersL ds x = (namesD ds).filter fun y => (fnd y ds).any fun d => callI d x := by
  unfold callersL
  rw [if_pos h, filter_names h]
theorem callI_mem (d : De) (x : Int) : decide (x ∈ numsUpto (callD d) 8) = callI d x := by
  unfold callI
  cases h : inVar x && callD d x.toNat with
  | true =>
    obtain ⟨h1, h2⟩ := Bool.and_eq_true_iff.1 h
    obtain ⟨e0, e8⟩ := inVar_nat h1
    exact decide_eq_true ((nums_iff _ 8 x).2 ⟨x.toNat, e8, e0.symm, h2⟩)
  | false =>
    refine decide_eq_false fun hm => ?_
    obtain ⟨v, h8, rfl, hv⟩ := (nums_iff _ 8 x).1 hm
    rw [inVar_mk (by omega) (by omega), Bool.true_and] at h
    have h2 : callD d v = false := h
    rw [hv] at h2
    cases h2
set_option maxHeartbeats 2000000 in
theorem specCallers_any (ds : List De) (DA : Option Addr) (DC : Nat) (x : Int) (w : World) (hd : LiesD w 0 w.heap.size DA ds) (hdz : sizeD ds ≤ 1048576) :
    Calls Try.prog 10 #[.slice DA ds.length DC, .int .i64 x] w (ListPost (callersL ds x) w) := by
  have hds := Nat.le_trans (sizeD_len ds) hdz
  have own0 : (w.alloc (Obj.cells #[] 3)).ownsRow w.heap.size 3 1 (.slice (some ⟨w.heap.size, 0, none⟩) 0 0) 0 [] :=
    ⟨rfl, .inr ⟨w.heap.size, 0, #[], rfl, Nat.le_refl _, heap_alloc_new _ _, Nat.le_refl _, by decide, rfl, rfl⟩⟩
  have hb1 : Below w.heap.size w (w.alloc (Obj.cells #[] 3)) := (Below.refl _ _).alloc (Nat.le_refl _) _
  have HOWN := Lib.hid own0
  have HB1 := Lib.hid hb1
  have HD := Lib.hid hd
  clear own0 hb1 hd
  by_cases h0 : ds.length = 0
  · have hz0 : ds = [] := List.eq_nil_of_length_eq_zero h0
    subst hz0
    have HZ := Lib.hid (show callersL [] x = [] by unfold callersL; split <;> rfl)
    go_enter Try.func10, Try.ntmps10
    go_wp2_with fail
    go_loopw [5, 6] (fun v i wr => v = .slice (some ⟨w.heap.size, 0, none⟩) 0 0 ∧ i = .int .i64 0 ∧ wr.ownsRow w.heap.size 3 1 (.slice (some ⟨w.heap.size, 0, none⟩) 0 0) 0 [] ∧ Below w.heap.size w wr) (fun _ _ _ => 0)
    case atStart => exact ⟨rfl, rfl, HOWN.out, HB1.out⟩
    case round =>
      clear HOWN HB1
      obtain ⟨rfl, rfl, hown, hb⟩ := hrel
      go_wp2
      go_ret
      exact ⟨_, rfl, by rw [HZ.out]; exact hown, hb⟩
  · cases hok : libOk ds with
    | false =>
      have HZ := Lib.hid (callersL_no hok x)
      have HV := Lib.hid (specLibValid_any ds DA DC _ (HD.out.up HB1.out) hdz)
      rw [hok] at HV
      have hpos : (0 : Int) < (ds.length : Int) := by omega
      clear hok
      go_enter Try.func10, Try.ntmps10
      go_wp2_with fail
      go_loopw [5, 6] (fun v i wr => v = .slice (some ⟨w.heap.size, 0, none⟩) 0 0 ∧ i = .int .i64 0 ∧ wr = w.alloc (Obj.cells #[] 3)) (fun _ _ _ => 0)
      case atStart => exact ⟨rfl, rfl, rfl⟩
      case round =>
        obtain ⟨rfl, rfl, rfl⟩ := hrel
        go_wp2_with fail
        refine HV.out.mono ?_
        rintro e w2 ⟨rfl, hb2⟩
        have HB2 := Lib.hid (HB1.out.trans (hb2.mono HB1.out.size))
        have HO2 := Lib.hid (own_below HOWN.out hb2)
        clear hb2 HV HOWN HB1
        go_wp2
        go_ret
        exact ⟨_, rfl, by rw [HZ.out]; exact HO2.out, HB2.out⟩
    | true =>
      obtain ⟨p, hp⟩ : ∃ p : Int → Bool, p = fun y => (fnd y ds).any fun d => callI d x := ⟨_, rfl⟩
      have HZ := Lib.hid (show callersL ds x = (namesD ds).filter p by rw [hp]; exact callersL_filter hok x)
      have HP := Lib.hid (show ∀ d ∈ ds, p d.nm = decide (x ∈ numsUpto (callD d) 8) from fun d hd => by rw [hp, callI_mem]; show (fnd d.nm ds).any _ = _; rw [(libOk_named hok d hd).2]; rfl)
      have HV := Lib.hid (fun W (hb : Below w.heap.size w W) => show Calls Try.prog 32 _ W (Gives (.bool true) W) from hok ▸ specLibValid_any ds DA DC W (HD.out.up hb) hdz)
      clear hok hp
      go_enter Try.func10, Try.ntmps10
      go_wp2_with fail
      go_loopw [5, 6] (fun v i wr => ∃ (j : Nat), j ≤ ds.length ∧ i = .int .i64 j ∧ wr.ownsRow w.heap.size 3 1 v (((namesD ds).take j).filter p).length ((((namesD ds).take j).filter p).map (Value.int .i64)) ∧ Below w.heap.size w wr)
        (fun _ i _ => ds.length - (intOf i).toNat)
      case atStart => exact ⟨0, by omega, rfl, HOWN.out, HB1.out⟩
      case round =>
        clear HOWN HB1
        obtain ⟨j, hj, rfl, hown, hb⟩ := hrel
        by_cases hlt : j < ds.length
        · have e1 := List.getElem?_eq_getElem hlt
          generalize ds[j] = d at e1
          have e2 := namesD_at e1
          have hfl := filter_take_len p (namesD ds) j
          rw [namesD_len] at hfl
          have hsd := sizeD_at e1
          have HE2 := Lib.hid e2
          have HE1 := Lib.hid e1
          have HPD := Lib.hid (HP.out d (List.mem_of_getElem? e1))
          have HOW := Lib.hid hown
          have HB := Lib.hid hb
          clear e1 e2 hown hb
          go_wp2_with fail
          refine (HV.out wr HB.out).mono ?_
          rintro e w2 ⟨rfl, hb2⟩
          have HB2 := Lib.hid (HB.out.trans (hb2.mono HB.out.size))
          have HO2 := Lib.hid (own_below HOW.out hb2)
          clear hb2 HOW HB
          obtain ⟨b, o, A', c', hA, _, hbb, hf, g1, g2, g3, g4, g5, g6, h7, h8, h9⟩ := HD.out.below HB2.out j d HE1.out
          subst hA
          have HQ := Lib.hid (specCalls_any d.op d.n d.k A' c' w2 (h9.mono_ (Nat.le_refl _) HB2.out.size) (by omega))
          have HG1 := Lib.hid g1
          go_wp2_with fail
          refine HQ.out.mono ?_
          rintro e w3 ⟨v3, rfl, ho3, hb3⟩
          obtain ⟨A4, c4, rfl, hI4⟩ := own_ints ho3 (fun y hy => numsUpto_small _ 8 y (Nat.le_refl _) hy)
          have HB3 := Lib.hid (HB2.out.trans (hb3.mono HB2.out.size))
          have HO3 := Lib.hid (own_below HO2.out hb3)
          have k1 := (hb3.cell (p := ⟨b, o + j * 6, none⟩) (World.block_lt_of_cell? _ _ HG1.out)).trans HG1.out
          have HH := Lib.hid (l1Has_any (numsUpto (callD d) 8) A4 c4 x w3 (hI4.mono_ (Nat.zero_le _) (Nat.le_refl _)) (Nat.le_trans (numsUpto_len _ 8) (by decide)))
          have HK1 := Lib.hid k1
          clear hb3 HB2 HO2 HQ g1 g2 g3 g4 g5 g6 h7 h8 h9 hf HG1 ho3 hI4
          go_wp2_with fail
          refine HH.out.mono ?_
          rintro e w4 ⟨rfl, hb4⟩
          have HB4 := Lib.hid (HB3.out.trans (hb4.mono HB3.out.size))
          have HO4 := Lib.hid (own_below HO3.out hb4)
          have k2 := (hb4.cell (p := ⟨b, o + j * 6, none⟩) (World.block_lt_of_cell? _ _ HK1.out)).trans HK1.out
          rw [← HPD.out]
          clear hb4 HB3 HO3 HH k1 HK1
          cases hT : p d.nm with
          | false =>
            have HF := Lib.hid (filter_take_no (p := p) HE2.out hT)
            clear hT
            go_wp2
            go_roundw
            case rel => exact ⟨j + 1, hlt, by go_num, by rw [HF.out]; exact HO4.out, HB4.out⟩
            case measure => simp [intOf]; omega
          | true =>
            have HF := Lib.hid (filter_take_yes (p := p) HE2.out hT)
            clear hT
            obtain ⟨iT, hiT, hiz0, hiz1, hiz2⟩ := info_parts (show (Try.prog.info? 3).map (fun i => (i.zero, i.size, i.bytes)) = some (some (.int .i64 0), 1, 8) by kernel_rfl)
            have HIT := Lib.hid hiT
            have HIZ0 := Lib.hid hiz0
            have HIZ1 := Lib.hid hiz1
            have HIZ2 := Lib.hid hiz2
            have C1 := Lib.hid (fresh_cells w4 3 #[Value.int .i64 d.nm])
            have HC2 := Lib.hid (show ∀ u ∈ [Value.int .i64 d.nm], u.oneCell' = true by intro u hu; rw [List.mem_singleton.1 hu]; rfl)
            have HC3 := Lib.hid (show (((namesD ds).take j).filter p).length + 1 ≤ maxLen by unfold maxLen; omega)
            have HC4 := Lib.hid (show ((((namesD ds).take j).filter p).length + 1) * 8 ≤ 140737488355328 by omega)
            have HC5 := Lib.hid (show w.heap.size ≤ (w4.alloc (.cells #[Value.int .i64 d.nm] 3)).heap.size by have := HB4.out.size; rw [World.size_alloc]; omega)
            have HOA := Lib.hid (HO4.out.alloc (.cells #[Value.int .i64 d.nm] 3))
            clear hiT hiz0 hiz1 hiz2
            go_wp2_with (at_builtin; refine wpList_append_own_at _ rfl _ _ 24 rfl (w.heap.size) 3 iT _ 1 8 Try.underlying24 HIT.out HIZ0.out HIZ1.out HIZ2.out rfl (by decide) _ _ _ rfl HOA.out ⟨w4.heap.size, 0, none⟩ 1 1 [Value.int .i64 d.nm] rfl rfl C1.out HC2.out HC3.out HC4.out HC5.out ?_; intro v' w' hown5 hgrow5 _ hblk)
            have hb5 : Below w.heap.size w w' := Below.grown (HB4.out.alloc HB4.out.size (.cells #[Value.int .i64 d.nm] 3)) hgrow5 (Nat.le_trans (by omega) HC5.out) (fun g' hg' => by have := own_at_least HO4.out hg'; omega)
            have HO5 := Lib.hid hown5
            have HB5 := Lib.hid hb5
            clear hown5 hgrow5 hblk hb5 k2
            go_wp2_with fail
            go_roundw
            case rel =>
              refine ⟨j + 1, hlt, by go_num, ?_, HB5.out⟩
              rw [HF.out, List.length_append, List.map_append]
              exact HO5.out
            case measure => simp [intOf]; omega
        · have e9 : j = ds.length := by omega
          subst e9
          have HE : (namesD ds).take ds.length = namesD ds := by rw [← namesD_len ds]; exact List.take_length
          rw [HE] at hown
          go_wp2
          go_ret
          exact ⟨_, rfl, by rw [HZ.out]; exact hown, hb⟩
end Go.Proofs.Ytdconngmobpkoaa
