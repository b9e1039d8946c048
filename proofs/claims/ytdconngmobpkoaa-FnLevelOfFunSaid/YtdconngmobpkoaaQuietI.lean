/-
  impl.QuietFuns and impl.EndingFuns.
-/
import Derived.Test.YtdconngmobpkoaaSets
import Derived.Test.YtdconngmobpkoaaLibVI
import Derived.Maps.AppendAt
namespace Go.Proofs.Ytdconngmobpkoaa
open Go.RowKit Go.Shelf
set_option maxRecDepth 100000

set_option maxHeartbeats 2000000 in
theorem namesIn_any (T : Nat → Bool) (ds : List De) (DA : Option Addr) (DC : Nat) (w : World) (hd : LiesD w 0 w.heap.size DA ds) (hds : ds.length ≤ 1048576) (hnm : ∀ d ∈ ds, inVar d.nm = true) :
    Calls Try.prog 55 #[.agg (cells8 T), .slice DA ds.length DC] w (ListPost (namesT T ds) w) := by
  obtain ⟨hb1, hr1⟩ := one_box w 80 (cells8 T)
  have HB1 := Lib.hid hb1
  have HR1 := Lib.hid hr1
  have HD := Lib.hid hd
  have HN := Lib.hid hnm
  clear hb1 hr1 hd hnm
  unfold cells8 at *
  go_enter Try.func55, Try.ntmps55
  go_wp2_with fail
  go_loopw [5, 10] (fun v i wr => ∃ (j : Nat), j ≤ ds.length ∧ i = .int .i64 j ∧ wr.ownsRow (w.heap.size + 1) 3 1 v (((namesD ds).take j).filter fun x => T x.toNat).length ((((namesD ds).take j).filter fun x => T x.toNat).map (Value.int .i64)) ∧ Row wr w.heap.size 80 (cells8 T) ∧ Below w.heap.size w wr ∧ w.heap.size + 1 ≤ wr.heap.size)
    (fun _ i _ => ds.length - (intOf i).toNat)
  case atStart => exact ⟨0, by omega, rfl, World.ownsRow_nil _ _ _ _, HR1.out, HB1.out, by simp⟩
  case round =>
    clear HB1 HR1
    obtain ⟨j, hj, rfl, hown, hrt, hb, hzz⟩ := hrel
    by_cases hlt : j < ds.length
    · have e1 := List.getElem?_eq_getElem hlt
      generalize ds[j] = d at e1
      obtain ⟨b, o, A', c', hA, _, hbb, hf', g1, g2, g3, g4, g5, g6, h7, h8, h9⟩ := (HD.out.below hb) j d e1
      subst hA
      obtain ⟨en, e8⟩ := inVar_nat (HN.out d (List.mem_of_getElem? e1))
      have i0 : (0 : Int) ≤ d.nm := by omega
      have i8 : d.nm < 8 := by omega
      have e2 := namesD_at e1
      have hfl := filter_take_len (fun x : Int => T x.toNat) (namesD ds) j
      rw [namesD_len] at hfl
      have HBX := Lib.hid (hb.alloc (hb.size) (Obj.cells #[Value.int IntKind.i64 d.nm, Value.int IntKind.i64 d.ar, Value.bool d.old, Value.int IntKind.i64 d.op, Value.int IntKind.i64 d.n, Value.slice A' d.k.len c'] 47))
      have HRT := Lib.hid (hrt.alloc (Obj.cells #[Value.int IntKind.i64 d.nm, Value.int IntKind.i64 d.ar, Value.bool d.old, Value.int IntKind.i64 d.op, Value.int IntKind.i64 d.n, Value.slice A' d.k.len c'] 47))
      have HOW := Lib.hid (hown.alloc (Obj.cells #[Value.int IntKind.i64 d.nm, Value.int IntKind.i64 d.ar, Value.bool d.old, Value.int IntKind.i64 d.op, Value.int IntKind.i64 d.n, Value.slice A' d.k.len c'] 47))
      have HRD := Lib.hid (Row.fresh wr 47 #[Value.int IntKind.i64 d.nm, Value.int IntKind.i64 d.ar, Value.bool d.old, Value.int IntKind.i64 d.op, Value.int IntKind.i64 d.n, Value.slice A' d.k.len c'])
      have HZZ := Lib.hid (show w.heap.size + 1 ≤ (wr.alloc (Obj.cells #[Value.int IntKind.i64 d.nm, Value.int IntKind.i64 d.ar, Value.bool d.old, Value.int IntKind.i64 d.op, Value.int IntKind.i64 d.n, Value.slice A' d.k.len c'] 47)).heap.size by simp; omega)
      have qv := HRT.out.cell (cells8_at T e8)
      have hq := HRD.out.cell (i := 0) rfl
      have HE2 := Lib.hid e2
      clear hown hrt hb hf' h9 e1 e2 hzz
      cases hT : T d.nm.toNat with
      | false =>
        rw [hT] at qv
        have HF := Lib.hid (filter_take_no (p := fun x : Int => T x.toNat) HE2.out hT)
        clear hT
        go_wp2
        go_roundw
        case rel => exact ⟨j + 1, hlt, by go_num, by rw [HF.out]; exact HOW.out, HRT.out, HBX.out, HZZ.out⟩
        case measure => simp [intOf]; omega
      | true =>
        rw [hT] at qv
        have HF := Lib.hid (filter_take_yes (p := fun x : Int => T x.toNat) HE2.out hT)
        clear hT
        obtain ⟨iT, hiT, hiz0, hiz1, hiz2⟩ := info_parts (show (Try.prog.info? 3).map (fun i => (i.zero, i.size, i.bytes)) = some (some (.int .i64 0), 1, 8) by kernel_rfl)
        have HIT := Lib.hid hiT
        have HIZ0 := Lib.hid hiz0
        have HIZ1 := Lib.hid hiz1
        have HIZ2 := Lib.hid hiz2
        have c1 := fresh_cells (wr.alloc (Obj.cells #[Value.int IntKind.i64 d.nm, Value.int IntKind.i64 d.ar, Value.bool d.old, Value.int IntKind.i64 d.op, Value.int IntKind.i64 d.n, Value.slice A' d.k.len c'] 47)) 3 #[Value.int .i64 d.nm]
        rw [World.size_alloc] at c1
        have C1 := Lib.hid c1
        clear c1
        have HC2 := Lib.hid (show ∀ u ∈ [Value.int .i64 d.nm], u.oneCell' = true by intro u hu; rw [List.mem_singleton.1 hu]; rfl)
        have HC3 := Lib.hid (show (((namesD ds).take j).filter fun x => T x.toNat).length + 1 ≤ maxLen by unfold maxLen; omega)
        have HC4 := Lib.hid (show ((((namesD ds).take j).filter fun x => T x.toNat).length + 1) * 8 ≤ 140737488355328 by omega)
        have HC5 := Lib.hid (show w.heap.size + 1 ≤ ((wr.alloc (Obj.cells #[Value.int IntKind.i64 d.nm, Value.int IntKind.i64 d.ar, Value.bool d.old, Value.int IntKind.i64 d.op, Value.int IntKind.i64 d.n, Value.slice A' d.k.len c'] 47)).alloc (.cells #[Value.int .i64 d.nm] 3)).heap.size by have := HZZ.out; simp at this ⊢; omega)
        have HOA := Lib.hid (HOW.out.alloc (.cells #[Value.int .i64 d.nm] 3))
        clear hiT hiz0 hiz1 hiz2
        go_wp2_with (at_builtin; refine wpList_append_own_at _ rfl _ _ 24 rfl (w.heap.size + 1) 3 iT _ 1 8 Try.underlying24 HIT.out HIZ0.out HIZ1.out HIZ2.out rfl (by decide) _ _ _ rfl HOA.out ⟨wr.heap.size + 1, 0, none⟩ 1 1 [Value.int .i64 d.nm] rfl rfl C1.out HC2.out HC3.out HC4.out HC5.out ?_; intro v' w' hown5 hgrow5 _ hblk)
        have hb6 : Below w.heap.size w w' := Below.grown (HBX.out.alloc HBX.out.size (.cells #[Value.int .i64 d.nm] 3)) hgrow5 (by have := HC5.out; omega) (fun g' hg' => by have := own_at_least HOW.out hg'; omega)
        have hr6 : Row w' w.heap.size 80 (cells8 T) := (hgrow5.block _ (HRT.out.alloc (.cells #[Value.int .i64 d.nm] 3)).size (own_other_row (HOW.out.alloc (.cells #[Value.int .i64 d.nm] 3)) (HRT.out.alloc (.cells #[Value.int .i64 d.nm] 3)) (by decide))).trans (HRT.out.alloc (.cells #[Value.int .i64 d.nm] 3))
        have HO6 := Lib.hid hown5
        have HB7 := Lib.hid hb6
        have HR7 := Lib.hid hr6
        have HZ7 := Lib.hid (Nat.le_trans HC5.out hgrow5.size)
        clear hown5 hgrow5 hblk hb6 hr6
        go_wp2_with fail
        go_roundw
        case rel =>
          refine ⟨j + 1, hlt, by go_num, ?_, HR7.out, HB7.out, HZ7.out⟩
          rw [HF.out, List.length_append, List.map_append]
          exact HO6.out
        case measure => simp [intOf]; omega
    · have e9 : j = ds.length := by omega
      subst e9
      have HE : (namesD ds).take ds.length = namesD ds := by rw [← namesD_len ds]; exact List.take_length
      rw [HE] at hown
      have HO9 := Lib.hid (own_less hown (Nat.le_succ _))
      have HB9 := Lib.hid hb
      clear hown HE hb hrt
      go_wp2
      go_ret
      exact ⟨_, rfl, HO9.out, HB9.out⟩

set_option maxHeartbeats 1000000 in
theorem implEndingFuns_r (ds : List De) (DA : Option Addr) (DC L B : Nat) (w : World) (hd : LiesD w L B DA ds) (hB : B ≤ w.heap.size) (hdz : sizeD ds ≤ 1048576) :
    Calls Try.prog 28 #[.slice DA ds.length DC] w (ListPost (funsP (endingS ds) ds) w) := by
  have hds := Nat.le_trans (sizeD_len ds) hdz
  have HV := Lib.hid (implLibValid_r ds DA DC L B w hd hB hdz)
  have HD := Lib.hid hd
  clear hd
  cases hok : libOk ds with
  | false =>
    have HZ := Lib.hid (funsP_no (p := endingS ds) hok)
    rw [hok] at HV
    clear hok
    go_enter Try.func28, Try.ntmps28
    go_wp2_with fail
    refine HV.out.mono ?_
    rintro e w2 ⟨rfl, hb2⟩
    go_wp2
    go_ret
    exact ⟨_, rfl, by rw [HZ.out]; exact World.ownsRow_nil _ _ _ _, hb2⟩
  | true =>
    have HZ := Lib.hid ((funsP_yes (p := endingS ds) hok).trans (namesT_filter (T := endingT ds) (fun d hd => endingT_at hok hd)).symm)
    have HN := Lib.hid (fun d (hd : d ∈ ds) => (libOk_named hok d hd).1)
    have HC := Lib.hid (fun W (hb : Below w.heap.size w W) => endingFuns_r ds DA DC L B W (HD.out.below (hb.mono hB)) (Nat.le_trans hB hb.size) hdz hok)
    rw [hok] at HV
    clear hok
    go_enter Try.func28, Try.ntmps28
    go_wp2_with fail
    refine HV.out.mono ?_
    rintro e w2 ⟨rfl, hb2⟩
    have HB2 := Lib.hid hb2
    clear hb2
    go_wp2_with fail
    refine (HC.out w2 HB2.out).mono ?_
    rintro e w3 ⟨rfl, hb3⟩
    have HB3 := Lib.hid (HB2.out.trans (hb3.mono HB2.out.size))
    clear hb3 HB2
    go_wp2_with fail
    refine (namesIn_any (endingT ds) ds DA DC w3 ((HD.out.below (HB3.out.mono hB)).mono_ (Nat.zero_le _) (Nat.le_trans hB HB3.out.size)) hds HN.out).mono ?_
    rintro e w4 ⟨v4, rfl, hown4, hb4⟩
    have HB4 := Lib.hid (HB3.out.trans (hb4.mono HB3.out.size))
    have HO4 := Lib.hid (own_less hown4 HB3.out.size)
    clear hb4 hown4 HB3
    go_wp2
    go_ret
    exact ⟨_, rfl, by rw [HZ.out]; exact HO4.out, HB4.out⟩


theorem implEndingFuns_any (ds : List De) (DA : Option Addr) (DC L B : Nat) (w : World) (hd : LiesD w L B DA ds) (hB : B ≤ w.heap.size) (_hal : AllRows w L B) (hdz : sizeD ds ≤ 1048576) :
    Calls Try.prog 28 #[.slice DA ds.length DC] w (ListPost (funsP (endingS ds) ds) w) :=
  implEndingFuns_r ds DA DC L B w hd hB hdz

end Go.Proofs.Ytdconngmobpkoaa
