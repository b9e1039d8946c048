/-
  spec.l10Changed, spec.ChangedCalls (made by gen_changed.py).
-/
import Derived.Test.YtgmhpfdhkcgbfaaGreatGone
import Derived.Test.YtgmhpfdhkcgbfaaGreatKeptSF
namespace Go.Proofs.YtgmhpfdhkcgbfaaGreat
open Go.RowKit Go.Shelf
set_option maxRecDepth 100000

/-- Is the function not kept? -/
def changedP (ds1 ds2 : List De) (x : Int) : Bool := !keptS ds1 ds2 x
def changedL (ds1 ds2 : List De) (op n : Int) (k : Fo) : List Int := if goneOk ds1 ds2 op n k then (numsUpto (callB ⟨op, n, k⟩) 8).filter (changedP ds1 ds2) else []
theorem changedL_small {ds1 ds2 : List De} {op n : Int} {k : Fo} : ∀ x ∈ changedL ds1 ds2 op n k, I64 x := by
  intro x hx
  unfold changedL at hx
  split at hx
  · exact numsUpto_small _ 8 x (Nat.le_refl _) (List.mem_filter.1 hx).1
  · simp at hx
theorem changedL_len (ds1 ds2 : List De) (op n : Int) (k : Fo) : (changedL ds1 ds2 op n k).length ≤ 8 := by
  unfold changedL
  split
  · exact Nat.le_trans (List.length_filter_le _ _) (numsUpto_len _ 8)
  · exact Nat.zero_le _

set_option maxHeartbeats 4000000 in
theorem l10Changed_any (ds1 : List De) (A1 : Option Addr) (c1 : Nat) (ds2 : List De) (A2 : Option Addr) (c2 : Nat) (op n : Int) (k : Fo) (A : Option Addr) (c : Nat) (w : World) (hd1 : LiesD w 0 w.heap.size A1 ds1) (hd2 : LiesD w 0 w.heap.size A2 ds2) (hl : Lies w 0 w.heap.size A 0 k) (hz1 : sizeD ds1 ≤ 1048576) (hz2 : sizeD ds2 ≤ 1048576) (_hlen : k.len ≤ maxLen) (hsz : k.size ≤ 1048576) :
    Calls Tryz.prog 20 #[.slice A1 ds1.length c1, .slice A2 ds2.length c2, .agg #[.int .i64 op, .int .i64 n, .slice A k.len c]] w (ListPost ((numsUpto (callB ⟨op, n, k⟩) 8).filter (changedP ds1 ds2)) w) := by
  obtain ⟨hb0, hr0⟩ := one_box w 34 #[Value.int IntKind.i64 op, Value.int IntKind.i64 n, Value.slice A k.len c]
  obtain ⟨W0, hW0⟩ : ∃ W, W = w.alloc (Obj.cells #[Value.int IntKind.i64 op, Value.int IntKind.i64 n, Value.slice A k.len c] 34) := ⟨_, rfl⟩
  obtain ⟨W, hW⟩ : ∃ W, W = W0.alloc (Obj.cells #[] 3) := ⟨_, rfl⟩
  have hb1 : Below w.heap.size w W := by rw [hW, hW0]; exact hb0.alloc hb0.size _
  have HR := Lib.hid (show Row W w.heap.size 34 #[Value.int IntKind.i64 op, Value.int IntKind.i64 n, Value.slice A k.len c] by rw [hW, hW0]; exact hr0.alloc _)
  have HO := Lib.hid (show W.ownsRow w.heap.size 3 1 (.slice (some ⟨w.heap.size + 1, 0, none⟩) 0 0) 0 [] by
    have := own_empty0 W0 w.heap.size (by rw [hW0]; exact hb0.size)
    rw [hW]
    rw [hW0] at this ⊢
    rw [World.size_alloc] at this
    exact this)
  have HB := Lib.hid hb1
  have HK := Lib.hid (show ∀ V, Below w.heap.size w V → LiesD V 0 V.heap.size A1 ds1 ∧ LiesD V 0 V.heap.size A2 ds2 ∧ Lies V 0 V.heap.size A 0 k from fun V hV => ⟨hd1.up hV, hd2.up hV, hl.up hV⟩)
  have HWS := Lib.hid (show W.heap.size = w.heap.size + 2 by rw [hW, hW0]; simp)
  clear hb0 hr0 hb1 hd1 hd2 hl
  go_enter Tryz.func20, Tryz.ntmps20
  go_upto_region 2 with fail
  rw [← hW0, ← hW]
  clear hW hW0
  have q0 := HR.out.cell (i := 0) rfl
  have q1 := HR.out.cell (i := 1) rfl
  have q2 := HR.out.cell (i := 2) rfl
  go_wp2_with fail
  refine (specCalls_any op n k A c W (HK.out W HB.out).2.2 hsz).mono ?_
  rintro e w1 ⟨v1, rfl, ho1, hb1⟩
  obtain ⟨zs, hzs⟩ : ∃ zs, zs = numsUpto (callB ⟨op, n, k⟩) 8 := ⟨_, rfl⟩
  have hzi : ∀ x ∈ zs, I64 x := fun x hx => numsUpto_small _ 8 x (Nat.le_refl _) (hzs ▸ hx)
  have hzl : zs.length ≤ 8 := by rw [hzs]; exact numsUpto_len _ 8
  rw [← hzs] at ho1
  obtain ⟨A4, c4, rfl, hI4⟩ := own_ints ho1 hzi
  have HI := Lib.hid hI4
  have HS1 := Lib.hid hb1.size
  have HO1 := Lib.hid (own_below HO.out hb1)
  have HR1 := Lib.hid (HR.out.below hb1 HR.out.size)
  have HB1 := Lib.hid (HB.out.trans (hb1.mono HB.out.size))
  have HZS := Lib.hid hzs
  clear q0 q1 q2 hb1 ho1 hI4 HO HR HB hzs hzi
  go_wp2_with fail
  go_loopw [7, 9] (fun v i wr => ∃ (j : Nat), j ≤ zs.length ∧ i = .int .i64 (j : Int) ∧ wr.ownsRow w.heap.size 3 1 v ((zs.take j).filter (changedP ds1 ds2)).length (((zs.take j).filter (changedP ds1 ds2)).map (Value.int .i64)) ∧ (∀ g, v.ownBlock = some g → (w.heap.size < g ∧ g < W.heap.size) ∨ w1.heap.size ≤ g) ∧ LiesI wr W.heap.size w1.heap.size A4 zs ∧ w1.heap.size ≤ wr.heap.size ∧ Row wr w.heap.size 34 #[Value.int IntKind.i64 op, Value.int IntKind.i64 n, Value.slice A k.len c] ∧ Below w.heap.size w wr)
    (fun _ i _ => zs.length - (intOf i).toNat)
  case atStart => exact ⟨0, by omega, rfl, HO1.out, fun g hg => .inl (by have := HWS.out; simp [Value.ownBlock] at hg; omega), HI.out, Nat.le_refl _, HR1.out, HB1.out⟩
  case round =>
    clear HO1 HI HR1 HB1
    obtain ⟨j, hj, rfl, hown, hgv, hI, hwz, hr, hb⟩ := hrel
    by_cases hlt : j < zs.length
    · obtain ⟨x, hx⟩ : ∃ x, zs[j]? = some x := ⟨_, List.getElem?_eq_getElem hlt⟩
      have q0 := hr.cell (i := 0) rfl
      have q1 := hr.cell (i := 1) rfl
      have q2 := hr.cell (i := 2) rfl
      have HOWN := Lib.hid hown
      have HGV := Lib.hid hgv
      have HI := Lib.hid hI
      have HR := Lib.hid hr
      have HB := Lib.hid hb
      have HX := Lib.hid hx
      have hji : (j : Int) < (zs.length : Int) := by omega
      have HWZ := Lib.hid hwz
      clear hown hI hr hb hx hgv hwz
      have hb3 : Below wr.heap.size wr wr := Below.refl _ _
      obtain ⟨w3, hw3⟩ : ∃ v, v = wr := ⟨_, rfl⟩
      rw [← hw3] at HOWN HI HR HB HWZ q0 q1 q2 ⊢
      clear hw3 hb3
      have HOWN3 := HOWN
      have HI3 := HI
      have HWZ3 := HWZ
      have HR3 := HR
      have HB3 := HB
      clear HOWN HI HR HB HWZ q0 q1 q2
      · obtain ⟨b4, o4, rfl, _, hbb4, hxi, g4⟩ := HI3.out j x HX.out
        go_wp2_with fail
        refine (l8Kept_any ds1 A1 c1 ds2 A2 c2 x w3 (HK.out w3 HB3.out).1 (HK.out w3 HB3.out).2.1 hz1 hz2).mono ?_
        rintro e w4 ⟨rfl, hb4⟩
        obtain ⟨t, ht⟩ : ∃ t, t = changedP ds1 ds2 x := ⟨_, rfl⟩
        have hkk : keptS ds1 ds2 x = !t := by rw [ht]; unfold changedP; simp
        rw [hkk]
        have HT := Lib.hid ht
        have HOWN4 := Lib.hid (own_below HOWN3.out hb4)
        have HI4 := Lib.hid (HI3.out.below (hb4.mono HWZ3.out))
        have HWZ4 := Lib.hid (Nat.le_trans HWZ3.out hb4.size)
        have HR4 := Lib.hid (HR3.out.below hb4 HR3.out.size)
        have HB4 := Lib.hid (HB3.out.trans (hb4.mono HB3.out.size))
        have hfl := filter_take_len (changedP ds1 ds2) zs j
        have g5 := (hb4.cell (p := ⟨b4, o4 + j, none⟩) (Nat.lt_of_lt_of_le hbb4 HWZ3.out)).trans g4
        clear g4 hb4 ht HOWN3 HI3 HR3 HB3 hkk
        cases t with
        | false =>
          have HF := Lib.hid (filter_take_no (p := changedP ds1 ds2) HX.out HT.out.symm)
          go_wp2_with fail
          go_roundw
          case rel => exact ⟨j + 1, hlt, by go_num, by rw [HF.out]; exact HOWN4.out, HGV.out, HI4.out, HWZ4.out, HR4.out, HB4.out⟩
          case measure => simp [intOf]; omega
        | true =>
          have HF := Lib.hid (filter_take_yes (p := changedP ds1 ds2) HX.out HT.out.symm)
          obtain ⟨iT, hiT, hiz0, hiz1, hiz2⟩ := info_parts (show (Tryz.prog.info? 3).map (fun i => (i.zero, i.size, i.bytes)) = some (some (.int .i64 0), 1, 8) by kernel_rfl)
          have HIT := Lib.hid hiT
          have HIZ0 := Lib.hid hiz0
          have HIZ1 := Lib.hid hiz1
          have HIZ2 := Lib.hid hiz2
          have C1 := Lib.hid (fresh_cells w4 3 #[Value.int .i64 x])
          have HC2 := Lib.hid (show ∀ u ∈ [Value.int .i64 x], u.oneCell' = true by intro u hu; rw [List.mem_singleton.1 hu]; rfl)
          have HC3 := Lib.hid (show ((zs.take j).filter (changedP ds1 ds2)).length + 1 ≤ maxLen by unfold maxLen; omega)
          have HC4 := Lib.hid (show (((zs.take j).filter (changedP ds1 ds2)).length + 1) * 8 ≤ 140737488355328 by omega)
          have HC5 := Lib.hid (show w.heap.size ≤ (w4.alloc (.cells #[Value.int .i64 x] 3)).heap.size by have := HB4.out.size; rw [World.size_alloc]; omega)
          have HOA := Lib.hid (HOWN4.out.alloc (.cells #[Value.int .i64 x] 3))
          clear hiT hiz0 hiz1 hiz2
          go_wp2_with (at_builtin; refine wpList_append_own_at _ rfl _ _ 28 rfl w.heap.size 3 iT _ 1 8 Tryz.underlying28 HIT.out HIZ0.out HIZ1.out HIZ2.out rfl (by decide) _ _ _ rfl HOA.out ⟨w4.heap.size, 0, none⟩ 1 1 [Value.int .i64 x] rfl rfl C1.out HC2.out HC3.out HC4.out HC5.out ?_; intro v' w' hown5 hgrow5 _ hblk)
          have hb6 : Below w.heap.size w w' := Below.grown (HB4.out.alloc HB4.out.size (.cells #[Value.int .i64 x] 3)) hgrow5 HC5.out (fun g' hg' => own_at_least HOWN4.out hg')
          have hs5 : (w4.alloc (.cells #[Value.int .i64 x] 3)).heap.size = w4.heap.size + 1 := by simp
          have hwz4 := HWZ4.out
          have hws := HWS.out
          have hs1 := HS1.out
          have hI6 : LiesI w' W.heap.size w1.heap.size (some ⟨b4, o4, none⟩) zs := by
            refine (HI4.out.below (((Below.refl w4.heap.size w4).alloc (Nat.le_refl _) (.cells #[Value.int .i64 x] 3)).mono hwz4)).keep (Nat.le_refl _) (Nat.le_refl _) fun p h1 h2 => ?_
            refine World.cell?_of_block (hgrow5.block p.block (by rw [hs5]; omega) fun hg => ?_)
            have := HGV.out p.block hg.symm
            omega
          have hgv6 : ∀ g, v'.ownBlock = some g → (w.heap.size < g ∧ g < W.heap.size) ∨ w1.heap.size ≤ g := by
            intro g hg
            rcases hblk with h | h
            · exact HGV.out g (h.symm.trans hg)
            · have h9 := h.symm.trans hg
              rw [hs5] at h9
              injection h9 with h9
              omega
          have hr6 : Row w' w.heap.size 34 #[Value.int IntKind.i64 op, Value.int IntKind.i64 n, Value.slice A k.len c] := by
            refine (hgrow5.block w.heap.size (by rw [hs5]; omega) fun hg => ?_).trans (HR4.out.alloc (.cells #[Value.int .i64 x] 3))
            have := HGV.out w.heap.size hg.symm
            omega
          have hs6 : w1.heap.size ≤ w'.heap.size := by have := hgrow5.size; rw [hs5] at this; omega
          have HO6 := Lib.hid hown5
          have HB6 := Lib.hid hb6
          have HI6 := Lib.hid hI6
          have HG6 := Lib.hid hgv6
          have HR6 := Lib.hid hr6
          have HS6 := Lib.hid hs6
          clear hown5 hgrow5 hblk hb6 hI6 hgv6 hs5 hr6 hs6 hwz4 hws hs1
          go_wp2_with fail
          go_roundw
          case rel =>
            refine ⟨j + 1, hlt, by go_num, ?_, HG6.out, HI6.out, HS6.out, HR6.out, HB6.out⟩
            rw [HF.out, List.length_append, List.map_append]
            exact HO6.out
          case measure => simp [intOf]; omega
    · have e9 : j = zs.length := by omega
      have hL : (zs.take j).filter (changedP ds1 ds2) = (numsUpto (callB ⟨op, n, k⟩) 8).filter (changedP ds1 ds2) := by rw [e9, List.take_length, HZS.out]
      have HL := Lib.hid hL
      have HOWN := Lib.hid hown
      have HB := Lib.hid hb
      have hji : ¬ (j : Int) < (zs.length : Int) := by omega
      clear hown hb hr hI hgv hwz e9 hL
      go_wp2_with fail
      go_ret
      exact ⟨_, rfl, by rw [← HL.out]; exact HOWN.out, HB.out⟩

set_option maxHeartbeats 2000000 in
theorem specChanged_any (ds1 : List De) (A1 : Option Addr) (c1 : Nat) (ds2 : List De) (A2 : Option Addr) (c2 : Nat) (op n : Int) (k : Fo) (A : Option Addr) (c : Nat) (w : World) (hd1 : LiesD w 0 w.heap.size A1 ds1) (hd2 : LiesD w 0 w.heap.size A2 ds2) (hl : Lies w 0 w.heap.size A 0 k) (hz1 : sizeD ds1 ≤ 1048576) (hz2 : sizeD ds2 ≤ 1048576) (hlen : k.len ≤ maxLen) (hsz : k.size ≤ 1048576) :
    Calls Tryz.prog 6 #[.slice A1 ds1.length c1, .slice A2 ds2.length c2, .agg #[.int .i64 op, .int .i64 n, .slice A k.len c]] w (ListPost (changedL ds1 ds2 op n k) w) := by
  obtain ⟨hb0, hr0⟩ := one_box w 34 #[Value.int IntKind.i64 op, Value.int IntKind.i64 n, Value.slice A k.len c]
  have HF := Lib.hid (l10Right_any ds1 A1 c1 ds2 A2 c2 op n k A c _ (hd1.up hb0) (hd2.up hb0) (hl.up hb0) hz1 hz2 hlen hsz)
  have HB := Lib.hid hb0
  have HR := Lib.hid hr0
  have HK := Lib.hid (show ∀ V, Below w.heap.size w V → LiesD V 0 V.heap.size A1 ds1 ∧ LiesD V 0 V.heap.size A2 ds2 ∧ Lies V 0 V.heap.size A 0 k from fun V hV => ⟨hd1.up hV, hd2.up hV, hl.up hV⟩)
  have q0 := hr0.cell (i := 0) rfl
  have q1 := hr0.cell (i := 1) rfl
  have q2 := hr0.cell (i := 2) rfl
  obtain ⟨z, hz⟩ : ∃ z, z = goneOk ds1 ds2 op n k := ⟨_, rfl⟩
  rw [← hz] at HF
  have HZ := Lib.hid hz
  clear hb0 hr0 hd1 hd2 hl hz
  go_enter Tryz.func6, Tryz.ntmps6
  go_wp2_with fail
  refine HF.out.mono ?_
  rintro e w1 ⟨rfl, hb1⟩
  have HB1 := Lib.hid (HB.out.trans (hb1.mono HB.out.size))
  have hr1 := HR.out.below hb1 HR.out.size
  clear hb1 HF HB HR q0 q1 q2
  have q0 := hr1.cell (i := 0) rfl
  have q1 := hr1.cell (i := 1) rfl
  have q2 := hr1.cell (i := 2) rfl
  clear hr1
  cases z with
  | false =>
    have HL := Lib.hid (show changedL ds1 ds2 op n k = [] by unfold changedL; rw [← HZ.out]; rfl)
    have HO := Lib.hid (own_empty0 w1 w.heap.size HB1.out.size)
    have HB2 := Lib.hid (HB1.out.alloc HB1.out.size (Obj.cells #[] 3))
    clear q0 q1 q2
    go_wp2_with fail
    go_ret
    exact ⟨_, rfl, by rw [HL.out]; exact HO.out, HB2.out⟩
  | true =>
    have HL := Lib.hid (show changedL ds1 ds2 op n k = (numsUpto (callB ⟨op, n, k⟩) 8).filter (changedP ds1 ds2) by unfold changedL; rw [← HZ.out]; rfl)
    go_wp2_with fail
    refine (l10Changed_any ds1 A1 c1 ds2 A2 c2 op n k A c w1 (HK.out w1 HB1.out).1 (HK.out w1 HB1.out).2.1 (HK.out w1 HB1.out).2.2 hz1 hz2 hlen hsz).mono ?_
    rintro e w2 ⟨v2, rfl, ho2, hb2⟩
    have HB2 := Lib.hid (HB1.out.trans (hb2.mono HB1.out.size))
    have HO2 := Lib.hid (own_less ho2 HB1.out.size)
    clear hb2 ho2 q0 q1 q2
    go_wp2_with fail
    go_ret
    exact ⟨_, rfl, by rw [HL.out]; exact HO2.out, HB2.out⟩
end Go.Proofs.YtgmhpfdhkcgbfaaGreat
