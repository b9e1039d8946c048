/-
  spec.l8Kept, spec.KeptFuns (made by gen_kepts.py).
-/
import Derived.Test.YtgmhpfdhkcgbfaaGreatKeptD
import Derived.Test.YtgmhpfdhkcgbfaaGreatEffS
import Derived.Test.YtgmhpfdhkcgbfaaGreatSame
import Derived.Test.YtgmhpfdhkcgbfaaGreatLibVS
import Derived.Test.YtgmhpfdhkcgbfaaGreatOldM
import Derived.Test.YtgmhpfdhkcgbfaaGreatTake
import Derived.Deep.Cut
namespace Go.Proofs.YtgmhpfdhkcgbfaaGreat
open Go.RowKit Go.Shelf
set_option maxRecDepth 100000

theorem sameAt_none1 {ds1 ds2 : List De} {i : Nat} (h : fnd (i : Int) ds1 = none) : sameAt ds1 ds2 i = false := by unfold sameAt; rw [h]
theorem sameAt_none2 {ds1 ds2 : List De} {i : Nat} (h : fnd (i : Int) ds2 = none) : sameAt ds1 ds2 i = false := by unfold sameAt; rw [h]; cases fnd (i : Int) ds1 <;> rfl
theorem sameAt_both {ds1 ds2 : List De} {i : Nat} {d e : De} (h1 : fnd (i : Int) ds1 = some d) (h2 : fnd (i : Int) ds2 = some e) : sameAt ds1 ds2 i = (decide (d.ar = e.ar) && sameN d.op d.n d.k e.op e.n e.k) := by unfold sameAt; rw [h1, h2]
/-- What is said of the first i functions. -/
def keptTo (F : Nat → Bool) (ds1 ds2 : List De) (i : Nat) : Bool := (List.range i).all fun j => !(F j && !sameAt ds1 ds2 j)
theorem keptTo_step (F : Nat → Bool) (ds1 ds2 : List De) (i : Nat) : keptTo F ds1 ds2 (i + 1) = (keptTo F ds1 ds2 i && !(F i && !sameAt ds1 ds2 i)) := by
  unfold keptTo
  rw [List.range_succ, List.all_append]
  simp
theorem keptTo_no (F : Nat → Bool) (ds1 ds2 : List De) {i : Nat} (hi : i < 8) (h : (F i && !sameAt ds1 ds2 i) = true) : keptTo F ds1 ds2 8 = false := by
  unfold keptTo
  rw [List.all_eq_false]
  exact ⟨i, List.mem_range.2 hi, by simp [h]⟩
/-- The place of a name: there, or not. -/
theorem place_cases (x : Int) (ds : List De) : (fnd x ds = none ∧ plcI x ds = -1) ∨ ∃ (p : Nat) (d : De), plcI x ds = (p : Int) ∧ ds[p]? = some d ∧ p < ds.length ∧ fnd x ds = some d := by
  cases h : fnd x ds with
  | none =>
    left
    refine ⟨rfl, ?_⟩
    obtain ⟨h1, h2⟩ := plc_fnd x ds
    unfold plcI
    by_cases hp : plc x ds < ds.length
    · obtain ⟨d, _, hd⟩ := h1 hp
      rw [h] at hd; cases hd
    · rw [if_neg hp]
  | some d =>
    right
    obtain ⟨p, h1, h2, h3⟩ := place_there h
    exact ⟨p, d, h1, h2, h3, rfl⟩

set_option maxHeartbeats 8000000 in
theorem l8Kept_any (ds1 : List De) (A1 : Option Addr) (c1 : Nat) (ds2 : List De) (A2 : Option Addr) (c2 : Nat) (f : Int) (w : World) (hd1 : LiesD w 0 w.heap.size A1 ds1) (hd2 : LiesD w 0 w.heap.size A2 ds2) (hz1 : sizeD ds1 ≤ 1048576) (hz2 : sizeD ds2 ≤ 1048576) :
    Calls Tryz.prog 32 #[.slice A1 ds1.length c1, .slice A2 ds2.length c2, .int .i64 f] w (Gives (.bool (keptS ds1 ds2 f)) w) := by
  have hds1 := Nat.le_trans (sizeD_len ds1) hz1
  have hds2 := Nat.le_trans (sizeD_len ds2) hz2
  obtain ⟨F, hF⟩ : ∃ F, F = fromS ds1 3 f .nil := ⟨_, rfl⟩
  have HQ := Lib.hid (show keptS ds1 ds2 f = keptTo F ds1 ds2 8 by rw [hF]; rfl)
  have HC := Lib.hid (show Calls Tryz.prog 45 #[.slice A1 ds1.length c1, .agg #[.int .i64 3, .int .i64 f, .slice none 0 0]] w (FromPost F w) from hF ▸ l2From_any ds1 A1 c1 3 f .nil none 0 w hd1 trivial hz1 (Nat.zero_le _))
  have HD1 := Lib.hid hd1
  have HD2 := Lib.hid hd2
  clear hF hd1 hd2
  go_enter Tryz.func32, Tryz.ntmps32
  go_wp2_with fail
  refine HC.out.mono ?_
  rintro e w2 ⟨g, rfl, hrow, hg, hb2⟩
  have HR2 := Lib.hid hrow
  have HB2 := Lib.hid hb2
  clear hrow hb2 HC
  go_wp2_with fail
  go_loopw [8] (fun a wr => ∃ (i : Nat), i ≤ 8 ∧ a = .int .i64 (i : Int) ∧ Hid (keptTo F ds1 ds2 i = true) ∧ Row wr g 4 (cells8 F) ∧ Below w.heap.size w wr)
    (fun a _ => 8 - (intOf a).toNat)
  case atStart => exact ⟨0, by omega, rfl, Lib.hid rfl, HR2.out, HB2.out⟩
  case round =>
    clear HR2 HB2
    obtain ⟨i, hi, rfl, HALL, hrow, hb⟩ := hrel
    by_cases hlt : i < 8
    · have HB := Lib.hid hb
      have HR := Lib.hid hrow
      have HP1 := Lib.hid (place_any ds1 A1 c1 wr (i : Int) (HD1.out.up hb) hds1)
      have hii : (i : Int) < 8 := by omega
      have hcase1 := place_cases (i : Int) ds1
      have hcase2 := place_cases (i : Int) ds2
      obtain ⟨x1, hx1⟩ : ∃ x, x = plcI (i : Int) ds1 := ⟨_, rfl⟩
      obtain ⟨x2, hx2⟩ : ∃ x, x = plcI (i : Int) ds2 := ⟨_, rfl⟩
      rw [← hx1] at HP1 hcase1
      rw [← hx2] at hcase2
      have HX2 := Lib.hid hx2
      have HCA1 := Lib.hid hcase1
      have HCA2 := Lib.hid hcase2
      clear hrow hb hx1 hx2 hcase1 hcase2
      go_wp2_with fail
      refine HP1.out.mono ?_
      rintro e w4 ⟨rfl, hb4⟩
      have HB4 := Lib.hid (HB.out.trans (hb4.mono HB.out.size))
      have HR4 := Lib.hid (HR.out.below hb4 HR.out.size)
      have HP2 := Lib.hid (place_any ds2 A2 c2 w4 (i : Int) (HD2.out.up HB4.out) hds2)
      rw [← HX2.out] at HP2
      clear hb4 HB HR HP1
      go_wp2_with fail
      refine HP2.out.mono ?_
      rintro e w6 ⟨rfl, hb6⟩
      have HB6 := Lib.hid (HB4.out.trans (hb6.mono HB4.out.size))
      have HR6 := Lib.hid (HR4.out.below hb6 HR4.out.size)
      have HSTEP := Lib.hid (keptTo_step F ds1 ds2 i)
      clear hb6 HB4 HR4 HP2
      obtain ⟨t, ht⟩ : ∃ t, t = F i := ⟨_, rfl⟩
      have hq := HR6.out.cell (cells8_at F hlt)
      rw [← ht] at hq
      have HTT := Lib.hid ht
      have HFL := Lib.hid hq
      have HBX := Lib.hid (Below.refl w6.heap.size w6).drew
      have HBD := Lib.hid (show Below w.heap.size w w6.drew from HB6.out.drew)
      have HRD := Lib.hid (show Row w6.drew g 4 (cells8 F) from HR6.out.drew)
      clear ht hq
      cases t with
      | false =>
        have HYES := Lib.hid (show keptTo F ds1 ds2 (i + 1) = true by rw [HSTEP.out, HALL.out, ← HTT.out]; rfl)
        have s0 : w6.drew.cell? ⟨g, i, none⟩ = some (Value.bool false) := HFL.out
        clear HCA1 HCA2
        go_upto_region 7 with fail
        refine wp_region_held_drew (S := fun w' => w'.cell? ⟨g, i, none⟩ = some (Value.bool false)) (by kernel_rfl) s0 (fun hHeld => ?_)
        refine takeW 0 (v := ?vx1_0) rfl (by kernel_rfl) (fun _ _ _ h => h) (by rfl) (by assumption) ?yx1_0 ?rx1_0
        case yx1_0 => (intro w' hSw; (try dsimp only at hSw); go_simp; try with_reducible rfl)
        try simp only [Act.put, List.setIfInBounds_toArray, List.set_cons_zero, List.set_cons_succ, List.getElem_toArray, List.getElem_cons_zero]
        refine takeW 1 (v := ?vx1_1) rfl (by kernel_rfl) (fun _ _ _ h => h) (by rfl) (by assumption) ?yx1_1 ?rx1_1
        case yx1_1 => (intro w' hSw; (try dsimp only at hSw); go_simp; try with_reducible rfl)
        try simp only [Act.put, List.setIfInBounds_toArray, List.set_cons_zero, List.set_cons_succ, List.getElem_toArray, List.getElem_cons_succ, List.getElem_cons_zero]
        refine takeW 2 (v := ?vx1_2) rfl (by kernel_rfl) (fun _ _ _ h => h) (by rfl) (by assumption) ?yx1_2 ?rx1_2
        case yx1_2 => (intro w' hSw; (try dsimp only at hSw); go_simp; try with_reducible rfl)
        try simp only [Act.put, List.setIfInBounds_toArray, List.set_cons_zero, List.set_cons_succ, List.getElem_toArray, List.getElem_cons_succ, List.getElem_cons_zero]
        refine takeW 3 (v := ?vx1_3) rfl (by kernel_rfl) (fun _ _ _ h => h) (by rfl) (by assumption) ?yx1_3 ?rx1_3
        case yx1_3 => (intro w' hSw; (try dsimp only at hSw); go_simp; try with_reducible rfl)
        try simp only [Act.put, List.setIfInBounds_toArray, List.set_cons_zero, List.set_cons_succ, List.getElem_toArray, List.getElem_cons_succ, List.getElem_cons_zero]
        refine takeW 4 (v := ?vx1_4) rfl (by kernel_rfl) (fun _ _ _ h => h) (by rfl) (by assumption) ?yx1_4 ?rx1_4
        case yx1_4 => (intro w' hSw; (try dsimp only at hSw); go_simp; try with_reducible rfl)
        try simp only [Act.put, List.setIfInBounds_toArray, List.set_cons_zero, List.set_cons_succ, List.getElem_toArray, List.getElem_cons_succ, List.getElem_cons_zero]
        refine takeN 5 rfl (by kernel_rfl) (fun _ _ _ h => h) (by rfl) (by assumption) ?rx1_5
        try simp only [Act.put, List.setIfInBounds_toArray, List.set_cons_zero, List.set_cons_succ, List.getElem_toArray, List.getElem_cons_succ, List.getElem_cons_zero]
        refine takeN 6 rfl (by kernel_rfl) (fun _ _ _ h => h) (by rfl) (by assumption) ?rx1_6
        try simp only [Act.put, List.setIfInBounds_toArray, List.set_cons_zero, List.set_cons_succ, List.getElem_toArray, List.getElem_cons_succ, List.getElem_cons_zero]
        refine takeN 7 rfl (by kernel_rfl) (fun _ _ _ h => h) (by rfl) (by assumption) ?rx1_7
        try simp only [Act.put, List.setIfInBounds_toArray, List.set_cons_zero, List.set_cons_succ, List.getElem_toArray, List.getElem_cons_succ, List.getElem_cons_zero]
        refine takeN 8 rfl (by kernel_rfl) (fun _ _ _ h => h) (by rfl) (by assumption) ?rx1_8
        try simp only [Act.put, List.setIfInBounds_toArray, List.set_cons_zero, List.set_cons_succ, List.getElem_toArray, List.getElem_cons_succ, List.getElem_cons_zero]
        refine takeN 9 rfl (by kernel_rfl) (fun _ _ _ h => h) (by rfl) (by assumption) ?rx1_9
        try simp only [Act.put, List.setIfInBounds_toArray, List.set_cons_zero, List.set_cons_succ, List.getElem_toArray, List.getElem_cons_succ, List.getElem_cons_zero]
        refine takeN 10 rfl (by kernel_rfl) (fun _ _ _ h => h) (by rfl) (by assumption) ?rx1_10
        try simp only [Act.put, List.setIfInBounds_toArray, List.set_cons_zero, List.set_cons_succ, List.getElem_toArray, List.getElem_cons_succ, List.getElem_cons_zero]
        refine takeN 11 rfl (by kernel_rfl) (fun _ _ _ h => h) (by rfl) (by assumption) ?rx1_11
        try simp only [Act.put, List.setIfInBounds_toArray, List.set_cons_zero, List.set_cons_succ, List.getElem_toArray, List.getElem_cons_succ, List.getElem_cons_zero]
        refine takeN 12 rfl (by kernel_rfl) (fun _ _ _ h => h) (by rfl) (by assumption) ?rx1_12
        try simp only [Act.put, List.setIfInBounds_toArray, List.set_cons_zero, List.set_cons_succ, List.getElem_toArray, List.getElem_cons_succ, List.getElem_cons_zero]
        refine takeN 13 rfl (by kernel_rfl) (fun _ _ _ h => h) (by rfl) (by assumption) ?rx1_13
        try simp only [Act.put, List.setIfInBounds_toArray, List.set_cons_zero, List.set_cons_succ, List.getElem_toArray, List.getElem_cons_succ, List.getElem_cons_zero]
        refine takeN 14 rfl (by kernel_rfl) (fun _ _ _ h => h) (by rfl) (by assumption) ?rx1_14
        try simp only [Act.put, List.setIfInBounds_toArray, List.set_cons_zero, List.set_cons_succ, List.getElem_toArray, List.getElem_cons_succ, List.getElem_cons_zero]
        refine takeN 15 rfl (by kernel_rfl) (fun _ _ _ h => h) (by rfl) (by assumption) ?rx1_15
        try simp only [Act.put, List.setIfInBounds_toArray, List.set_cons_zero, List.set_cons_succ, List.getElem_toArray, List.getElem_cons_succ, List.getElem_cons_zero]
        refine takeN 16 rfl (by kernel_rfl) (fun _ _ _ h => h) (by rfl) (by assumption) ?rx1_16
        try simp only [Act.put, List.setIfInBounds_toArray, List.set_cons_zero, List.set_cons_succ, List.getElem_toArray, List.getElem_cons_succ, List.getElem_cons_zero]
        refine takeN 17 rfl (by kernel_rfl) (fun _ _ _ h => h) (by rfl) (by assumption) ?rx1_17
        try simp only [Act.put, List.setIfInBounds_toArray, List.set_cons_zero, List.set_cons_succ, List.getElem_toArray, List.getElem_cons_succ, List.getElem_cons_zero]
        refine takeN 18 rfl (by kernel_rfl) (fun _ _ _ h => h) (by rfl) (by assumption) ?rx1_18
        try simp only [Act.put, List.setIfInBounds_toArray, List.set_cons_zero, List.set_cons_succ, List.getElem_toArray, List.getElem_cons_succ, List.getElem_cons_zero]
        refine takeN 19 rfl (by kernel_rfl) (fun _ _ _ h => h) (by rfl) (by assumption) ?rx1_19
        try simp only [Act.put, List.setIfInBounds_toArray, List.set_cons_zero, List.set_cons_succ, List.getElem_toArray, List.getElem_cons_succ, List.getElem_cons_zero]
        refine takeN 20 rfl (by kernel_rfl) (fun _ _ _ h => h) (by rfl) (by assumption) ?rx1_20
        try simp only [Act.put, List.setIfInBounds_toArray, List.set_cons_zero, List.set_cons_succ, List.getElem_toArray, List.getElem_cons_succ, List.getElem_cons_zero]
        refine takeN 21 rfl (by kernel_rfl) (fun _ _ _ h => h) (by rfl) (by assumption) ?rx1_21
        try simp only [Act.put, List.setIfInBounds_toArray, List.set_cons_zero, List.set_cons_succ, List.getElem_toArray, List.getElem_cons_succ, List.getElem_cons_zero]
        refine takeN 22 rfl (by kernel_rfl) (fun _ _ _ h => h) (by rfl) (by assumption) ?rx1_22
        try simp only [Act.put, List.setIfInBounds_toArray, List.set_cons_zero, List.set_cons_succ, List.getElem_toArray, List.getElem_cons_succ, List.getElem_cons_zero]
        refine takeN 23 rfl (by kernel_rfl) (fun _ _ _ h => h) (by rfl) (by assumption) ?rx1_23
        try simp only [Act.put, List.setIfInBounds_toArray, List.set_cons_zero, List.set_cons_succ, List.getElem_toArray, List.getElem_cons_succ, List.getElem_cons_zero]
        refine takeN 24 rfl (by kernel_rfl) (fun _ _ _ h => h) (by rfl) (by assumption) ?rx1_24
        try simp only [Act.put, List.setIfInBounds_toArray, List.set_cons_zero, List.set_cons_succ, List.getElem_toArray, List.getElem_cons_succ, List.getElem_cons_zero]
        refine takeN 25 rfl (by kernel_rfl) (fun _ _ _ h => h) (by rfl) (by assumption) ?rx1_25
        try simp only [Act.put, List.setIfInBounds_toArray, List.set_cons_zero, List.set_cons_succ, List.getElem_toArray, List.getElem_cons_succ, List.getElem_cons_zero]
        refine takeN 26 rfl (by kernel_rfl) (fun _ _ _ h => h) (by rfl) (by assumption) ?rx1_26
        try simp only [Act.put, List.setIfInBounds_toArray, List.set_cons_zero, List.set_cons_succ, List.getElem_toArray, List.getElem_cons_succ, List.getElem_cons_zero]
        refine takeN 27 rfl (by kernel_rfl) (fun _ _ _ h => h) (by rfl) (by assumption) ?rx1_27
        try simp only [Act.put, List.setIfInBounds_toArray, List.set_cons_zero, List.set_cons_succ, List.getElem_toArray, List.getElem_cons_succ, List.getElem_cons_zero]
        refine takeN 28 rfl (by kernel_rfl) (fun _ _ _ h => h) (by rfl) (by assumption) ?rx1_28
        try simp only [Act.put, List.setIfInBounds_toArray, List.set_cons_zero, List.set_cons_succ, List.getElem_toArray, List.getElem_cons_succ, List.getElem_cons_zero]
        refine takeN 29 rfl (by kernel_rfl) (fun _ _ _ h => h) (by rfl) (by assumption) ?rx1_29
        try simp only [Act.put, List.setIfInBounds_toArray, List.set_cons_zero, List.set_cons_succ, List.getElem_toArray, List.getElem_cons_succ, List.getElem_cons_zero]
        refine takeN 30 rfl (by kernel_rfl) (fun _ _ _ h => h) (by rfl) (by assumption) ?rx1_30
        try simp only [Act.put, List.setIfInBounds_toArray, List.set_cons_zero, List.set_cons_succ, List.getElem_toArray, List.getElem_cons_succ, List.getElem_cons_zero]
        refine takeN 31 rfl (by kernel_rfl) (fun _ _ _ h => h) (by rfl) (by assumption) ?rx1_31
        try simp only [Act.put, List.setIfInBounds_toArray, List.set_cons_zero, List.set_cons_succ, List.getElem_toArray, List.getElem_cons_succ, List.getElem_cons_zero]
        refine takeN 32 rfl (by kernel_rfl) (fun _ _ _ h => h) (by rfl) (by assumption) ?rx1_32
        try simp only [Act.put, List.setIfInBounds_toArray, List.set_cons_zero, List.set_cons_succ, List.getElem_toArray, List.getElem_cons_succ, List.getElem_cons_zero]
        refine takeN 33 rfl (by kernel_rfl) (fun _ _ _ h => h) (by rfl) (by assumption) ?rx1_33
        try simp only [Act.put, List.setIfInBounds_toArray, List.set_cons_zero, List.set_cons_succ, List.getElem_toArray, List.getElem_cons_succ, List.getElem_cons_zero]
        refine takeN 34 rfl (by kernel_rfl) (fun _ _ _ h => h) (by rfl) (by assumption) ?rx1_34
        try simp only [Act.put, List.setIfInBounds_toArray, List.set_cons_zero, List.set_cons_succ, List.getElem_toArray, List.getElem_cons_succ, List.getElem_cons_zero]
        refine takeN 35 rfl (by kernel_rfl) (fun _ _ _ h => h) (by rfl) (by assumption) ?rx1_35
        try simp only [Act.put, List.setIfInBounds_toArray, List.set_cons_zero, List.set_cons_succ, List.getElem_toArray, List.getElem_cons_succ, List.getElem_cons_zero]
        refine takeN 36 rfl (by kernel_rfl) (fun _ _ _ h => h) (by rfl) (by assumption) ?rx1_36
        try simp only [Act.put, List.setIfInBounds_toArray, List.set_cons_zero, List.set_cons_succ, List.getElem_toArray, List.getElem_cons_succ, List.getElem_cons_zero]
        refine takeN 37 rfl (by kernel_rfl) (fun _ _ _ h => h) (by rfl) (by assumption) ?rx1_37
        try simp only [Act.put, List.setIfInBounds_toArray, List.set_cons_zero, List.set_cons_succ, List.getElem_toArray, List.getElem_cons_succ, List.getElem_cons_zero]
        refine takeW 38 (v := ?vx1_38) rfl (by kernel_rfl) (fun _ _ _ h => h) (by rfl) (by assumption) ?yx1_38 ?rx1_38
        case yx1_38 => (intro w' hSw; (try dsimp only at hSw); go_simp; try with_reducible rfl)
        try simp only [Act.put, List.setIfInBounds_toArray, List.set_cons_zero, List.set_cons_succ, List.getElem_toArray, List.getElem_cons_succ, List.getElem_cons_zero]
        refine wpAnyH_done (by kernel_rfl) ?_ _
        go_wp2_with fail
        go_roundw
        case rel => exact ⟨i + 1, by omega, by go_num, HYES, HRD.out, HBD.out⟩
        case measure => simp [intOf]; omega
      | true =>
      have HNOT := Lib.hid (show sameAt ds1 ds2 i = false → keptS ds1 ds2 f = false from fun h => by rw [HQ.out]; exact keptTo_no F ds1 ds2 hlt (by rw [← HTT.out, h]; rfl))
      have HYET := Lib.hid (show sameAt ds1 ds2 i = true → keptTo F ds1 ds2 (i + 1) = true from fun h => by rw [HSTEP.out, HALL.out, h]; simp)
      rcases HCA1.out with ⟨hn1, hv1⟩ | ⟨p1, d1, hv1, hpd1, hpl1, hf1⟩
      · have HNO := Lib.hid (show Ending.returned (Value.bool false) = .returned (.bool (keptS ds1 ds2 f)) by rw [HNOT.out (sameAt_none1 hn1)])
        have s0 : w6.drew.cell? ⟨g, i, none⟩ = some (Value.bool true) := HFL.out
        subst hv1
        clear HCA1 HCA2 hn1
        go_upto_region 7 with fail
        refine wp_region_held_drew (S := fun w' => w'.cell? ⟨g, i, none⟩ = some (Value.bool true)) (by kernel_rfl) s0 (fun hHeld => ?_)
        refine takeW 0 (v := ?vx2_0) rfl (by kernel_rfl) (fun _ _ _ h => h) (by rfl) (by assumption) ?yx2_0 ?rx2_0
        case yx2_0 => (intro w' hSw; (try dsimp only at hSw); go_simp; try with_reducible rfl)
        try simp only [Act.put, List.setIfInBounds_toArray, List.set_cons_zero, List.set_cons_succ, List.getElem_toArray, List.getElem_cons_zero]
        refine takeW 1 (v := ?vx2_1) rfl (by kernel_rfl) (fun _ _ _ h => h) (by rfl) (by assumption) ?yx2_1 ?rx2_1
        case yx2_1 => (intro w' hSw; (try dsimp only at hSw); go_simp; try with_reducible rfl)
        try simp only [Act.put, List.setIfInBounds_toArray, List.set_cons_zero, List.set_cons_succ, List.getElem_toArray, List.getElem_cons_succ, List.getElem_cons_zero]
        refine takeW 2 (v := ?vx2_2) rfl (by kernel_rfl) (fun _ _ _ h => h) (by rfl) (by assumption) ?yx2_2 ?rx2_2
        case yx2_2 => (intro w' hSw; (try dsimp only at hSw); go_simp; try with_reducible rfl)
        try simp only [Act.put, List.setIfInBounds_toArray, List.set_cons_zero, List.set_cons_succ, List.getElem_toArray, List.getElem_cons_succ, List.getElem_cons_zero]
        refine takeW 3 (v := ?vx2_3) rfl (by kernel_rfl) (fun _ _ _ h => h) (by rfl) (by assumption) ?yx2_3 ?rx2_3
        case yx2_3 => (intro w' hSw; (try dsimp only at hSw); go_simp; try with_reducible rfl)
        try simp only [Act.put, List.setIfInBounds_toArray, List.set_cons_zero, List.set_cons_succ, List.getElem_toArray, List.getElem_cons_succ, List.getElem_cons_zero]
        refine takeW 4 (v := ?vx2_4) rfl (by kernel_rfl) (fun _ _ _ h => h) (by rfl) (by assumption) ?yx2_4 ?rx2_4
        case yx2_4 => (intro w' hSw; (try dsimp only at hSw); go_simp; try with_reducible rfl)
        try simp only [Act.put, List.setIfInBounds_toArray, List.set_cons_zero, List.set_cons_succ, List.getElem_toArray, List.getElem_cons_succ, List.getElem_cons_zero]
        refine takeW 5 (v := ?vx2_5) rfl (by kernel_rfl) (fun _ _ _ h => h) (by rfl) (by assumption) ?yx2_5 ?rx2_5
        case yx2_5 => (intro w' hSw; (try dsimp only at hSw); go_simp; try with_reducible rfl)
        try simp only [Act.put, List.setIfInBounds_toArray, List.set_cons_zero, List.set_cons_succ, List.getElem_toArray, List.getElem_cons_succ, List.getElem_cons_zero]
        refine takeW 6 (v := ?vx2_6) rfl (by kernel_rfl) (fun _ _ _ h => h) (by rfl) (by assumption) ?yx2_6 ?rx2_6
        case yx2_6 => (intro w' hSw; (try dsimp only at hSw); go_simp; try with_reducible rfl)
        try simp only [Act.put, List.setIfInBounds_toArray, List.set_cons_zero, List.set_cons_succ, List.getElem_toArray, List.getElem_cons_succ, List.getElem_cons_zero]
        refine takeW 7 (v := ?vx2_7) rfl (by kernel_rfl) (fun _ _ _ h => h) (by rfl) (by assumption) ?yx2_7 ?rx2_7
        case yx2_7 => (intro w' hSw; (try dsimp only at hSw); go_simp; try with_reducible rfl)
        try simp only [Act.put, List.setIfInBounds_toArray, List.set_cons_zero, List.set_cons_succ, List.getElem_toArray, List.getElem_cons_succ, List.getElem_cons_zero]
        refine takeN 8 rfl (by kernel_rfl) (fun _ _ _ h => h) (by rfl) (by assumption) ?rx2_8
        try simp only [Act.put, List.setIfInBounds_toArray, List.set_cons_zero, List.set_cons_succ, List.getElem_toArray, List.getElem_cons_succ, List.getElem_cons_zero]
        refine takeN 9 rfl (by kernel_rfl) (fun _ _ _ h => h) (by rfl) (by assumption) ?rx2_9
        try simp only [Act.put, List.setIfInBounds_toArray, List.set_cons_zero, List.set_cons_succ, List.getElem_toArray, List.getElem_cons_succ, List.getElem_cons_zero]
        refine takeW 10 (v := ?vx2_10) rfl (by kernel_rfl) (fun _ _ _ h => h) (by rfl) (by assumption) ?yx2_10 ?rx2_10
        case yx2_10 => (intro w' hSw; (try dsimp only at hSw); go_simp; try with_reducible rfl)
        try simp only [Act.put, List.setIfInBounds_toArray, List.set_cons_zero, List.set_cons_succ, List.getElem_toArray, List.getElem_cons_succ, List.getElem_cons_zero]
        refine takeW 11 (v := ?vx2_11) rfl (by kernel_rfl) (fun _ _ _ h => h) (by rfl) (by assumption) ?yx2_11 ?rx2_11
        case yx2_11 => (intro w' hSw; (try dsimp only at hSw); go_simp; try with_reducible rfl)
        try simp only [Act.put, List.setIfInBounds_toArray, List.set_cons_zero, List.set_cons_succ, List.getElem_toArray, List.getElem_cons_succ, List.getElem_cons_zero]
        refine takeN 12 rfl (by kernel_rfl) (fun _ _ _ h => h) (by rfl) (by assumption) ?rx2_12
        try simp only [Act.put, List.setIfInBounds_toArray, List.set_cons_zero, List.set_cons_succ, List.getElem_toArray, List.getElem_cons_succ, List.getElem_cons_zero]
        refine takeN 13 rfl (by kernel_rfl) (fun _ _ _ h => h) (by rfl) (by assumption) ?rx2_13
        try simp only [Act.put, List.setIfInBounds_toArray, List.set_cons_zero, List.set_cons_succ, List.getElem_toArray, List.getElem_cons_succ, List.getElem_cons_zero]
        refine takeN 14 rfl (by kernel_rfl) (fun _ _ _ h => h) (by rfl) (by assumption) ?rx2_14
        try simp only [Act.put, List.setIfInBounds_toArray, List.set_cons_zero, List.set_cons_succ, List.getElem_toArray, List.getElem_cons_succ, List.getElem_cons_zero]
        refine takeN 15 rfl (by kernel_rfl) (fun _ _ _ h => h) (by rfl) (by assumption) ?rx2_15
        try simp only [Act.put, List.setIfInBounds_toArray, List.set_cons_zero, List.set_cons_succ, List.getElem_toArray, List.getElem_cons_succ, List.getElem_cons_zero]
        refine takeN 16 rfl (by kernel_rfl) (fun _ _ _ h => h) (by rfl) (by assumption) ?rx2_16
        try simp only [Act.put, List.setIfInBounds_toArray, List.set_cons_zero, List.set_cons_succ, List.getElem_toArray, List.getElem_cons_succ, List.getElem_cons_zero]
        refine takeN 17 rfl (by kernel_rfl) (fun _ _ _ h => h) (by rfl) (by assumption) ?rx2_17
        try simp only [Act.put, List.setIfInBounds_toArray, List.set_cons_zero, List.set_cons_succ, List.getElem_toArray, List.getElem_cons_succ, List.getElem_cons_zero]
        refine takeN 18 rfl (by kernel_rfl) (fun _ _ _ h => h) (by rfl) (by assumption) ?rx2_18
        try simp only [Act.put, List.setIfInBounds_toArray, List.set_cons_zero, List.set_cons_succ, List.getElem_toArray, List.getElem_cons_succ, List.getElem_cons_zero]
        refine takeN 19 rfl (by kernel_rfl) (fun _ _ _ h => h) (by rfl) (by assumption) ?rx2_19
        try simp only [Act.put, List.setIfInBounds_toArray, List.set_cons_zero, List.set_cons_succ, List.getElem_toArray, List.getElem_cons_succ, List.getElem_cons_zero]
        refine takeN 20 rfl (by kernel_rfl) (fun _ _ _ h => h) (by rfl) (by assumption) ?rx2_20
        try simp only [Act.put, List.setIfInBounds_toArray, List.set_cons_zero, List.set_cons_succ, List.getElem_toArray, List.getElem_cons_succ, List.getElem_cons_zero]
        refine takeN 21 rfl (by kernel_rfl) (fun _ _ _ h => h) (by rfl) (by assumption) ?rx2_21
        try simp only [Act.put, List.setIfInBounds_toArray, List.set_cons_zero, List.set_cons_succ, List.getElem_toArray, List.getElem_cons_succ, List.getElem_cons_zero]
        refine takeN 22 rfl (by kernel_rfl) (fun _ _ _ h => h) (by rfl) (by assumption) ?rx2_22
        try simp only [Act.put, List.setIfInBounds_toArray, List.set_cons_zero, List.set_cons_succ, List.getElem_toArray, List.getElem_cons_succ, List.getElem_cons_zero]
        refine takeW 23 (v := ?vx2_23) rfl (by kernel_rfl) (fun _ _ _ h => h) (by rfl) (by assumption) ?yx2_23 ?rx2_23
        case yx2_23 => (intro w' hSw; (try dsimp only at hSw); go_simp; try with_reducible rfl)
        try simp only [Act.put, List.setIfInBounds_toArray, List.set_cons_zero, List.set_cons_succ, List.getElem_toArray, List.getElem_cons_succ, List.getElem_cons_zero]
        refine takeW 24 (v := ?vx2_24) rfl (by kernel_rfl) (fun _ _ _ h => h) (by rfl) (by assumption) ?yx2_24 ?rx2_24
        case yx2_24 => (intro w' hSw; (try dsimp only at hSw); go_simp; try with_reducible rfl)
        try simp only [Act.put, List.setIfInBounds_toArray, List.set_cons_zero, List.set_cons_succ, List.getElem_toArray, List.getElem_cons_succ, List.getElem_cons_zero]
        refine takeN 25 rfl (by kernel_rfl) (fun _ _ _ h => h) (by rfl) (by assumption) ?rx2_25
        try simp only [Act.put, List.setIfInBounds_toArray, List.set_cons_zero, List.set_cons_succ, List.getElem_toArray, List.getElem_cons_succ, List.getElem_cons_zero]
        refine takeN 26 rfl (by kernel_rfl) (fun _ _ _ h => h) (by rfl) (by assumption) ?rx2_26
        try simp only [Act.put, List.setIfInBounds_toArray, List.set_cons_zero, List.set_cons_succ, List.getElem_toArray, List.getElem_cons_succ, List.getElem_cons_zero]
        refine takeN 27 rfl (by kernel_rfl) (fun _ _ _ h => h) (by rfl) (by assumption) ?rx2_27
        try simp only [Act.put, List.setIfInBounds_toArray, List.set_cons_zero, List.set_cons_succ, List.getElem_toArray, List.getElem_cons_succ, List.getElem_cons_zero]
        refine takeN 28 rfl (by kernel_rfl) (fun _ _ _ h => h) (by rfl) (by assumption) ?rx2_28
        try simp only [Act.put, List.setIfInBounds_toArray, List.set_cons_zero, List.set_cons_succ, List.getElem_toArray, List.getElem_cons_succ, List.getElem_cons_zero]
        refine takeN 29 rfl (by kernel_rfl) (fun _ _ _ h => h) (by rfl) (by assumption) ?rx2_29
        try simp only [Act.put, List.setIfInBounds_toArray, List.set_cons_zero, List.set_cons_succ, List.getElem_toArray, List.getElem_cons_succ, List.getElem_cons_zero]
        refine takeN 30 rfl (by kernel_rfl) (fun _ _ _ h => h) (by rfl) (by assumption) ?rx2_30
        try simp only [Act.put, List.setIfInBounds_toArray, List.set_cons_zero, List.set_cons_succ, List.getElem_toArray, List.getElem_cons_succ, List.getElem_cons_zero]
        refine takeN 31 rfl (by kernel_rfl) (fun _ _ _ h => h) (by rfl) (by assumption) ?rx2_31
        try simp only [Act.put, List.setIfInBounds_toArray, List.set_cons_zero, List.set_cons_succ, List.getElem_toArray, List.getElem_cons_succ, List.getElem_cons_zero]
        refine takeN 32 rfl (by kernel_rfl) (fun _ _ _ h => h) (by rfl) (by assumption) ?rx2_32
        try simp only [Act.put, List.setIfInBounds_toArray, List.set_cons_zero, List.set_cons_succ, List.getElem_toArray, List.getElem_cons_succ, List.getElem_cons_zero]
        refine takeN 33 rfl (by kernel_rfl) (fun _ _ _ h => h) (by rfl) (by assumption) ?rx2_33
        try simp only [Act.put, List.setIfInBounds_toArray, List.set_cons_zero, List.set_cons_succ, List.getElem_toArray, List.getElem_cons_succ, List.getElem_cons_zero]
        refine takeN 34 rfl (by kernel_rfl) (fun _ _ _ h => h) (by rfl) (by assumption) ?rx2_34
        try simp only [Act.put, List.setIfInBounds_toArray, List.set_cons_zero, List.set_cons_succ, List.getElem_toArray, List.getElem_cons_succ, List.getElem_cons_zero]
        refine takeN 35 rfl (by kernel_rfl) (fun _ _ _ h => h) (by rfl) (by assumption) ?rx2_35
        try simp only [Act.put, List.setIfInBounds_toArray, List.set_cons_zero, List.set_cons_succ, List.getElem_toArray, List.getElem_cons_succ, List.getElem_cons_zero]
        refine takeN 36 rfl (by kernel_rfl) (fun _ _ _ h => h) (by rfl) (by assumption) ?rx2_36
        try simp only [Act.put, List.setIfInBounds_toArray, List.set_cons_zero, List.set_cons_succ, List.getElem_toArray, List.getElem_cons_succ, List.getElem_cons_zero]
        refine takeW 37 (v := ?vx2_37) rfl (by kernel_rfl) (fun _ _ _ h => h) (by rfl) (by assumption) ?yx2_37 ?rx2_37
        case yx2_37 => (intro w' hSw; (try dsimp only at hSw); go_simp; try with_reducible rfl)
        try simp only [Act.put, List.setIfInBounds_toArray, List.set_cons_zero, List.set_cons_succ, List.getElem_toArray, List.getElem_cons_succ, List.getElem_cons_zero]
        refine takeW 38 (v := ?vx2_38) rfl (by kernel_rfl) (fun _ _ _ h => h) (by rfl) (by assumption) ?yx2_38 ?rx2_38
        case yx2_38 => (intro w' hSw; (try dsimp only at hSw); go_simp; try with_reducible rfl)
        try simp only [Act.put, List.setIfInBounds_toArray, List.set_cons_zero, List.set_cons_succ, List.getElem_toArray, List.getElem_cons_succ, List.getElem_cons_zero]
        refine wpAnyH_done (by kernel_rfl) ?_ _
        go_wp2_with fail
        go_ret
        exact ⟨HNO.out, HBD.out⟩
      rcases HCA2.out with ⟨hn2, hv2⟩ | ⟨p2, d2, hv2, hpd2, hpl2, hf2⟩
      · have HNO := Lib.hid (show Ending.returned (Value.bool false) = .returned (.bool (keptS ds1 ds2 f)) by rw [HNOT.out (sameAt_none2 hn2)])
        have s0 : w6.drew.cell? ⟨g, i, none⟩ = some (Value.bool true) := HFL.out
        subst hv1 hv2
        clear HCA1 HCA2 hn2 hf1
        go_upto_region 7 with fail
        refine wp_region_held_drew (S := fun w' => w'.cell? ⟨g, i, none⟩ = some (Value.bool true)) (by kernel_rfl) s0 (fun hHeld => ?_)
        refine takeW 0 (v := ?vx3_0) rfl (by kernel_rfl) (fun _ _ _ h => h) (by rfl) (by assumption) ?yx3_0 ?rx3_0
        case yx3_0 => (intro w' hSw; (try dsimp only at hSw); go_simp; try with_reducible rfl)
        try simp only [Act.put, List.setIfInBounds_toArray, List.set_cons_zero, List.set_cons_succ, List.getElem_toArray, List.getElem_cons_zero]
        refine takeW 1 (v := ?vx3_1) rfl (by kernel_rfl) (fun _ _ _ h => h) (by rfl) (by assumption) ?yx3_1 ?rx3_1
        case yx3_1 => (intro w' hSw; (try dsimp only at hSw); go_simp; try with_reducible rfl)
        try simp only [Act.put, List.setIfInBounds_toArray, List.set_cons_zero, List.set_cons_succ, List.getElem_toArray, List.getElem_cons_succ, List.getElem_cons_zero]
        refine takeW 2 (v := ?vx3_2) rfl (by kernel_rfl) (fun _ _ _ h => h) (by rfl) (by assumption) ?yx3_2 ?rx3_2
        case yx3_2 => (intro w' hSw; (try dsimp only at hSw); go_simp; try with_reducible rfl)
        try simp only [Act.put, List.setIfInBounds_toArray, List.set_cons_zero, List.set_cons_succ, List.getElem_toArray, List.getElem_cons_succ, List.getElem_cons_zero]
        refine takeW 3 (v := ?vx3_3) rfl (by kernel_rfl) (fun _ _ _ h => h) (by rfl) (by assumption) ?yx3_3 ?rx3_3
        case yx3_3 => (intro w' hSw; (try dsimp only at hSw); go_simp; try with_reducible rfl)
        try simp only [Act.put, List.setIfInBounds_toArray, List.set_cons_zero, List.set_cons_succ, List.getElem_toArray, List.getElem_cons_succ, List.getElem_cons_zero]
        refine takeW 4 (v := ?vx3_4) rfl (by kernel_rfl) (fun _ _ _ h => h) (by rfl) (by assumption) ?yx3_4 ?rx3_4
        case yx3_4 => (intro w' hSw; (try dsimp only at hSw); go_simp; try with_reducible rfl)
        try simp only [Act.put, List.setIfInBounds_toArray, List.set_cons_zero, List.set_cons_succ, List.getElem_toArray, List.getElem_cons_succ, List.getElem_cons_zero]
        refine takeW 5 (v := ?vx3_5) rfl (by kernel_rfl) (fun _ _ _ h => h) (by rfl) (by assumption) ?yx3_5 ?rx3_5
        case yx3_5 => (intro w' hSw; (try dsimp only at hSw); go_simp; try with_reducible rfl)
        try simp only [Act.put, List.setIfInBounds_toArray, List.set_cons_zero, List.set_cons_succ, List.getElem_toArray, List.getElem_cons_succ, List.getElem_cons_zero]
        refine takeW 6 (v := ?vx3_6) rfl (by kernel_rfl) (fun _ _ _ h => h) (by rfl) (by assumption) ?yx3_6 ?rx3_6
        case yx3_6 => (intro w' hSw; (try dsimp only at hSw); go_simp; try with_reducible rfl)
        try simp only [Act.put, List.setIfInBounds_toArray, List.set_cons_zero, List.set_cons_succ, List.getElem_toArray, List.getElem_cons_succ, List.getElem_cons_zero]
        refine takeW 7 (v := ?vx3_7) rfl (by kernel_rfl) (fun _ _ _ h => h) (by rfl) (by assumption) ?yx3_7 ?rx3_7
        case yx3_7 => (intro w' hSw; (try dsimp only at hSw); go_simp; try with_reducible rfl)
        try simp only [Act.put, List.setIfInBounds_toArray, List.set_cons_zero, List.set_cons_succ, List.getElem_toArray, List.getElem_cons_succ, List.getElem_cons_zero]
        refine takeW 8 (v := ?vx3_8) rfl (by kernel_rfl) (fun _ _ _ h => h) (by rfl) (by assumption) ?yx3_8 ?rx3_8
        case yx3_8 => (intro w' hSw; (try dsimp only at hSw); go_simp; try with_reducible rfl)
        try simp only [Act.put, List.setIfInBounds_toArray, List.set_cons_zero, List.set_cons_succ, List.getElem_toArray, List.getElem_cons_succ, List.getElem_cons_zero]
        refine takeW 9 (v := ?vx3_9) rfl (by kernel_rfl) (fun _ _ _ h => h) (by rfl) (by assumption) ?yx3_9 ?rx3_9
        case yx3_9 => (intro w' hSw; (try dsimp only at hSw); go_simp; try with_reducible rfl)
        try simp only [Act.put, List.setIfInBounds_toArray, List.set_cons_zero, List.set_cons_succ, List.getElem_toArray, List.getElem_cons_succ, List.getElem_cons_zero]
        refine takeW 10 (v := ?vx3_10) rfl (by kernel_rfl) (fun _ _ _ h => h) (by rfl) (by assumption) ?yx3_10 ?rx3_10
        case yx3_10 => (intro w' hSw; (try dsimp only at hSw); go_simp; try with_reducible rfl)
        try simp only [Act.put, List.setIfInBounds_toArray, List.set_cons_zero, List.set_cons_succ, List.getElem_toArray, List.getElem_cons_succ, List.getElem_cons_zero]
        refine takeW 11 (v := ?vx3_11) rfl (by kernel_rfl) (fun _ _ _ h => h) (by rfl) (by assumption) ?yx3_11 ?rx3_11
        case yx3_11 => (intro w' hSw; (try dsimp only at hSw); go_simp; try with_reducible rfl)
        try simp only [Act.put, List.setIfInBounds_toArray, List.set_cons_zero, List.set_cons_succ, List.getElem_toArray, List.getElem_cons_succ, List.getElem_cons_zero]
        refine takeN 12 rfl (by kernel_rfl) (fun _ _ _ h => h) (by rfl) (by assumption) ?rx3_12
        try simp only [Act.put, List.setIfInBounds_toArray, List.set_cons_zero, List.set_cons_succ, List.getElem_toArray, List.getElem_cons_succ, List.getElem_cons_zero]
        refine takeN 13 rfl (by kernel_rfl) (fun _ _ _ h => h) (by rfl) (by assumption) ?rx3_13
        try simp only [Act.put, List.setIfInBounds_toArray, List.set_cons_zero, List.set_cons_succ, List.getElem_toArray, List.getElem_cons_succ, List.getElem_cons_zero]
        refine takeN 14 rfl (by kernel_rfl) (fun _ _ _ h => h) (by rfl) (by assumption) ?rx3_14
        try simp only [Act.put, List.setIfInBounds_toArray, List.set_cons_zero, List.set_cons_succ, List.getElem_toArray, List.getElem_cons_succ, List.getElem_cons_zero]
        refine takeN 15 rfl (by kernel_rfl) (fun _ _ _ h => h) (by rfl) (by assumption) ?rx3_15
        try simp only [Act.put, List.setIfInBounds_toArray, List.set_cons_zero, List.set_cons_succ, List.getElem_toArray, List.getElem_cons_succ, List.getElem_cons_zero]
        refine takeN 16 rfl (by kernel_rfl) (fun _ _ _ h => h) (by rfl) (by assumption) ?rx3_16
        try simp only [Act.put, List.setIfInBounds_toArray, List.set_cons_zero, List.set_cons_succ, List.getElem_toArray, List.getElem_cons_succ, List.getElem_cons_zero]
        refine takeN 17 rfl (by kernel_rfl) (fun _ _ _ h => h) (by rfl) (by assumption) ?rx3_17
        try simp only [Act.put, List.setIfInBounds_toArray, List.set_cons_zero, List.set_cons_succ, List.getElem_toArray, List.getElem_cons_succ, List.getElem_cons_zero]
        refine takeN 18 rfl (by kernel_rfl) (fun _ _ _ h => h) (by rfl) (by assumption) ?rx3_18
        try simp only [Act.put, List.setIfInBounds_toArray, List.set_cons_zero, List.set_cons_succ, List.getElem_toArray, List.getElem_cons_succ, List.getElem_cons_zero]
        refine takeN 19 rfl (by kernel_rfl) (fun _ _ _ h => h) (by rfl) (by assumption) ?rx3_19
        try simp only [Act.put, List.setIfInBounds_toArray, List.set_cons_zero, List.set_cons_succ, List.getElem_toArray, List.getElem_cons_succ, List.getElem_cons_zero]
        refine takeN 20 rfl (by kernel_rfl) (fun _ _ _ h => h) (by rfl) (by assumption) ?rx3_20
        try simp only [Act.put, List.setIfInBounds_toArray, List.set_cons_zero, List.set_cons_succ, List.getElem_toArray, List.getElem_cons_succ, List.getElem_cons_zero]
        refine takeN 21 rfl (by kernel_rfl) (fun _ _ _ h => h) (by rfl) (by assumption) ?rx3_21
        try simp only [Act.put, List.setIfInBounds_toArray, List.set_cons_zero, List.set_cons_succ, List.getElem_toArray, List.getElem_cons_succ, List.getElem_cons_zero]
        refine takeN 22 rfl (by kernel_rfl) (fun _ _ _ h => h) (by rfl) (by assumption) ?rx3_22
        try simp only [Act.put, List.setIfInBounds_toArray, List.set_cons_zero, List.set_cons_succ, List.getElem_toArray, List.getElem_cons_succ, List.getElem_cons_zero]
        refine takeW 23 (v := ?vx3_23) rfl (by kernel_rfl) (fun _ _ _ h => h) (by rfl) (by assumption) ?yx3_23 ?rx3_23
        case yx3_23 => (intro w' hSw; (try dsimp only at hSw); go_simp; try with_reducible rfl)
        try simp only [Act.put, List.setIfInBounds_toArray, List.set_cons_zero, List.set_cons_succ, List.getElem_toArray, List.getElem_cons_succ, List.getElem_cons_zero]
        refine takeW 24 (v := ?vx3_24) rfl (by kernel_rfl) (fun _ _ _ h => h) (by rfl) (by assumption) ?yx3_24 ?rx3_24
        case yx3_24 => (intro w' hSw; (try dsimp only at hSw); go_simp; try with_reducible rfl)
        try simp only [Act.put, List.setIfInBounds_toArray, List.set_cons_zero, List.set_cons_succ, List.getElem_toArray, List.getElem_cons_succ, List.getElem_cons_zero]
        refine takeN 25 rfl (by kernel_rfl) (fun _ _ _ h => h) (by rfl) (by assumption) ?rx3_25
        try simp only [Act.put, List.setIfInBounds_toArray, List.set_cons_zero, List.set_cons_succ, List.getElem_toArray, List.getElem_cons_succ, List.getElem_cons_zero]
        refine takeN 26 rfl (by kernel_rfl) (fun _ _ _ h => h) (by rfl) (by assumption) ?rx3_26
        try simp only [Act.put, List.setIfInBounds_toArray, List.set_cons_zero, List.set_cons_succ, List.getElem_toArray, List.getElem_cons_succ, List.getElem_cons_zero]
        refine takeN 27 rfl (by kernel_rfl) (fun _ _ _ h => h) (by rfl) (by assumption) ?rx3_27
        try simp only [Act.put, List.setIfInBounds_toArray, List.set_cons_zero, List.set_cons_succ, List.getElem_toArray, List.getElem_cons_succ, List.getElem_cons_zero]
        refine takeN 28 rfl (by kernel_rfl) (fun _ _ _ h => h) (by rfl) (by assumption) ?rx3_28
        try simp only [Act.put, List.setIfInBounds_toArray, List.set_cons_zero, List.set_cons_succ, List.getElem_toArray, List.getElem_cons_succ, List.getElem_cons_zero]
        refine takeN 29 rfl (by kernel_rfl) (fun _ _ _ h => h) (by rfl) (by assumption) ?rx3_29
        try simp only [Act.put, List.setIfInBounds_toArray, List.set_cons_zero, List.set_cons_succ, List.getElem_toArray, List.getElem_cons_succ, List.getElem_cons_zero]
        refine takeN 30 rfl (by kernel_rfl) (fun _ _ _ h => h) (by rfl) (by assumption) ?rx3_30
        try simp only [Act.put, List.setIfInBounds_toArray, List.set_cons_zero, List.set_cons_succ, List.getElem_toArray, List.getElem_cons_succ, List.getElem_cons_zero]
        refine takeN 31 rfl (by kernel_rfl) (fun _ _ _ h => h) (by rfl) (by assumption) ?rx3_31
        try simp only [Act.put, List.setIfInBounds_toArray, List.set_cons_zero, List.set_cons_succ, List.getElem_toArray, List.getElem_cons_succ, List.getElem_cons_zero]
        refine takeN 32 rfl (by kernel_rfl) (fun _ _ _ h => h) (by rfl) (by assumption) ?rx3_32
        try simp only [Act.put, List.setIfInBounds_toArray, List.set_cons_zero, List.set_cons_succ, List.getElem_toArray, List.getElem_cons_succ, List.getElem_cons_zero]
        refine takeN 33 rfl (by kernel_rfl) (fun _ _ _ h => h) (by rfl) (by assumption) ?rx3_33
        try simp only [Act.put, List.setIfInBounds_toArray, List.set_cons_zero, List.set_cons_succ, List.getElem_toArray, List.getElem_cons_succ, List.getElem_cons_zero]
        refine takeN 34 rfl (by kernel_rfl) (fun _ _ _ h => h) (by rfl) (by assumption) ?rx3_34
        try simp only [Act.put, List.setIfInBounds_toArray, List.set_cons_zero, List.set_cons_succ, List.getElem_toArray, List.getElem_cons_succ, List.getElem_cons_zero]
        refine takeN 35 rfl (by kernel_rfl) (fun _ _ _ h => h) (by rfl) (by assumption) ?rx3_35
        try simp only [Act.put, List.setIfInBounds_toArray, List.set_cons_zero, List.set_cons_succ, List.getElem_toArray, List.getElem_cons_succ, List.getElem_cons_zero]
        refine takeN 36 rfl (by kernel_rfl) (fun _ _ _ h => h) (by rfl) (by assumption) ?rx3_36
        try simp only [Act.put, List.setIfInBounds_toArray, List.set_cons_zero, List.set_cons_succ, List.getElem_toArray, List.getElem_cons_succ, List.getElem_cons_zero]
        refine takeW 37 (v := ?vx3_37) rfl (by kernel_rfl) (fun _ _ _ h => h) (by rfl) (by assumption) ?yx3_37 ?rx3_37
        case yx3_37 => (intro w' hSw; (try dsimp only at hSw); go_simp; try with_reducible rfl)
        try simp only [Act.put, List.setIfInBounds_toArray, List.set_cons_zero, List.set_cons_succ, List.getElem_toArray, List.getElem_cons_succ, List.getElem_cons_zero]
        refine takeW 38 (v := ?vx3_38) rfl (by kernel_rfl) (fun _ _ _ h => h) (by rfl) (by assumption) ?yx3_38 ?rx3_38
        case yx3_38 => (intro w' hSw; (try dsimp only at hSw); go_simp; try with_reducible rfl)
        try simp only [Act.put, List.setIfInBounds_toArray, List.set_cons_zero, List.set_cons_succ, List.getElem_toArray, List.getElem_cons_succ, List.getElem_cons_zero]
        refine wpAnyH_done (by kernel_rfl) ?_ _
        go_wp2_with fail
        go_ret
        exact ⟨HNO.out, HBD.out⟩
      have HSA := Lib.hid (sameAt_both hf1 hf2)
      have hs1 := sizeD_at hpd1
      have hs2 := sizeD_at hpd2
      have hks1 : d1.k.size ≤ 1048576 := by omega
      have hks2 : d2.k.size ≤ 1048576 := by omega
      obtain ⟨b1, o1, K1, e1, rfl, _, hb1, hg1, a0, a1, a2, a3, a4, a5, a7, a8, a9⟩ := (HD1.out.up HB6.out) p1 d1 hpd1
      obtain ⟨b2, o2, K2, e2, rfl, _, hb2, hg2, m0, m1, m2, m3, m4, m5, m7, m8, m9⟩ := (HD2.out.up HB6.out) p2 d2 hpd2
      have HK1 := Lib.hid a9
      have HK2 := Lib.hid m9
      have HS := Lib.hid (show ∀ w' : World, Below w6.heap.size w6 w' → w'.cell? ⟨g, i, none⟩ = some (Value.bool true) ∧ w'.cell? ⟨b1, o1 + p1 * 6 + 1, none⟩ = some (Value.int .i64 d1.ar) ∧ w'.cell? ⟨b1, o1 + p1 * 6 + 3, none⟩ = some (Value.int .i64 d1.op) ∧ w'.cell? ⟨b1, o1 + p1 * 6 + 4, none⟩ = some (Value.int .i64 d1.n) ∧ w'.cell? ⟨b1, o1 + p1 * 6 + 5, none⟩ = some (Value.slice K1 d1.k.len e1) ∧ w'.cell? ⟨b2, o2 + p2 * 6 + 1, none⟩ = some (Value.int .i64 d2.ar) ∧ w'.cell? ⟨b2, o2 + p2 * 6 + 3, none⟩ = some (Value.int .i64 d2.op) ∧ w'.cell? ⟨b2, o2 + p2 * 6 + 4, none⟩ = some (Value.int .i64 d2.n) ∧ w'.cell? ⟨b2, o2 + p2 * 6 + 5, none⟩ = some (Value.slice K2 d2.k.len e2) from fun w' hb =>
        ⟨(hb.cell (p := ⟨g, i, none⟩) HR6.out.size).trans HFL.out, (hb.cell (p := ⟨b1, o1 + p1 * 6 + 1, none⟩) hb1).trans a1, (hb.cell (p := ⟨b1, o1 + p1 * 6 + 3, none⟩) hb1).trans a3, (hb.cell (p := ⟨b1, o1 + p1 * 6 + 4, none⟩) hb1).trans a4, (hb.cell (p := ⟨b1, o1 + p1 * 6 + 5, none⟩) hb1).trans a5,
          (hb.cell (p := ⟨b2, o2 + p2 * 6 + 1, none⟩) hb2).trans m1, (hb.cell (p := ⟨b2, o2 + p2 * 6 + 3, none⟩) hb2).trans m3, (hb.cell (p := ⟨b2, o2 + p2 * 6 + 4, none⟩) hb2).trans m4, (hb.cell (p := ⟨b2, o2 + p2 * 6 + 5, none⟩) hb2).trans m5⟩)
      have s0 := HS.out _ HBX.out
      have hpi1 : (p1 : Int) < (ds1.length : Int) := by omega
      have hpi2 : (p2 : Int) < (ds2.length : Int) := by omega
      subst hv1 hv2
      clear HCA1 HCA2 hf1 hf2 hpd1 hpd2 hg1 hg2 a0 a1 a2 a3 a4 a5 a9 m0 m1 m2 m3 m4 m5 m9
      by_cases hne' : d1.ar = d2.ar
      rotate_left
      · have HNO := Lib.hid (show Ending.returned (Value.bool false) = .returned (.bool (keptS ds1 ds2 f)) by rw [HNOT.out (by rw [HSA.out, decide_eq_false hne']; rfl)])
        have hne : (d1.ar != d2.ar) = true := by simpa using hne'
        clear hne'
        go_upto_region 7 with fail
        refine wp_region_held_drew (S := fun w' => w'.cell? ⟨g, i, none⟩ = some (Value.bool true) ∧ w'.cell? ⟨b1, o1 + p1 * 6 + 1, none⟩ = some (Value.int .i64 d1.ar) ∧ w'.cell? ⟨b1, o1 + p1 * 6 + 3, none⟩ = some (Value.int .i64 d1.op) ∧ w'.cell? ⟨b1, o1 + p1 * 6 + 4, none⟩ = some (Value.int .i64 d1.n) ∧ w'.cell? ⟨b1, o1 + p1 * 6 + 5, none⟩ = some (Value.slice K1 d1.k.len e1) ∧ w'.cell? ⟨b2, o2 + p2 * 6 + 1, none⟩ = some (Value.int .i64 d2.ar) ∧ w'.cell? ⟨b2, o2 + p2 * 6 + 3, none⟩ = some (Value.int .i64 d2.op) ∧ w'.cell? ⟨b2, o2 + p2 * 6 + 4, none⟩ = some (Value.int .i64 d2.n) ∧ w'.cell? ⟨b2, o2 + p2 * 6 + 5, none⟩ = some (Value.slice K2 d2.k.len e2)) (by kernel_rfl) s0 (fun hHeld => ?_)
        refine takeW 0 (v := ?vx4_0) rfl (by kernel_rfl) (fun _ _ _ h => h) (by rfl) (by assumption) ?yx4_0 ?rx4_0
        case yx4_0 => (intro w' hSw; (try dsimp only at hSw); go_simp; try with_reducible rfl)
        try simp only [Act.put, List.setIfInBounds_toArray, List.set_cons_zero, List.set_cons_succ, List.getElem_toArray, List.getElem_cons_zero]
        refine takeW 1 (v := ?vx4_1) rfl (by kernel_rfl) (fun _ _ _ h => h) (by rfl) (by assumption) ?yx4_1 ?rx4_1
        case yx4_1 => (intro w' hSw; (try dsimp only at hSw); go_simp; try with_reducible rfl)
        try simp only [Act.put, List.setIfInBounds_toArray, List.set_cons_zero, List.set_cons_succ, List.getElem_toArray, List.getElem_cons_succ, List.getElem_cons_zero]
        refine takeW 2 (v := ?vx4_2) rfl (by kernel_rfl) (fun _ _ _ h => h) (by rfl) (by assumption) ?yx4_2 ?rx4_2
        case yx4_2 => (intro w' hSw; (try dsimp only at hSw); go_simp; try with_reducible rfl)
        try simp only [Act.put, List.setIfInBounds_toArray, List.set_cons_zero, List.set_cons_succ, List.getElem_toArray, List.getElem_cons_succ, List.getElem_cons_zero]
        refine takeW 3 (v := ?vx4_3) rfl (by kernel_rfl) (fun _ _ _ h => h) (by rfl) (by assumption) ?yx4_3 ?rx4_3
        case yx4_3 => (intro w' hSw; (try dsimp only at hSw); go_simp; try with_reducible rfl)
        try simp only [Act.put, List.setIfInBounds_toArray, List.set_cons_zero, List.set_cons_succ, List.getElem_toArray, List.getElem_cons_succ, List.getElem_cons_zero]
        refine takeW 4 (v := ?vx4_4) rfl (by kernel_rfl) (fun _ _ _ h => h) (by rfl) (by assumption) ?yx4_4 ?rx4_4
        case yx4_4 => (intro w' hSw; (try dsimp only at hSw); go_simp; try with_reducible rfl)
        try simp only [Act.put, List.setIfInBounds_toArray, List.set_cons_zero, List.set_cons_succ, List.getElem_toArray, List.getElem_cons_succ, List.getElem_cons_zero]
        refine takeW 5 (v := ?vx4_5) rfl (by kernel_rfl) (fun _ _ _ h => h) (by rfl) (by assumption) ?yx4_5 ?rx4_5
        case yx4_5 => (intro w' hSw; (try dsimp only at hSw); go_simp; try with_reducible rfl)
        try simp only [Act.put, List.setIfInBounds_toArray, List.set_cons_zero, List.set_cons_succ, List.getElem_toArray, List.getElem_cons_succ, List.getElem_cons_zero]
        refine takeW 6 (v := ?vx4_6) rfl (by kernel_rfl) (fun _ _ _ h => h) (by rfl) (by assumption) ?yx4_6 ?rx4_6
        case yx4_6 => (intro w' hSw; (try dsimp only at hSw); go_simp; try with_reducible rfl)
        try simp only [Act.put, List.setIfInBounds_toArray, List.set_cons_zero, List.set_cons_succ, List.getElem_toArray, List.getElem_cons_succ, List.getElem_cons_zero]
        refine takeW 7 (v := ?vx4_7) rfl (by kernel_rfl) (fun _ _ _ h => h) (by rfl) (by assumption) ?yx4_7 ?rx4_7
        case yx4_7 => (intro w' hSw; (try dsimp only at hSw); go_simp; try with_reducible rfl)
        try simp only [Act.put, List.setIfInBounds_toArray, List.set_cons_zero, List.set_cons_succ, List.getElem_toArray, List.getElem_cons_succ, List.getElem_cons_zero]
        refine takeW 8 (v := ?vx4_8) rfl (by kernel_rfl) (fun _ _ _ h => h) (by rfl) (by assumption) ?yx4_8 ?rx4_8
        case yx4_8 => (intro w' hSw; (try dsimp only at hSw); go_simp; try with_reducible rfl)
        try simp only [Act.put, List.setIfInBounds_toArray, List.set_cons_zero, List.set_cons_succ, List.getElem_toArray, List.getElem_cons_succ, List.getElem_cons_zero]
        refine takeW 9 (v := ?vx4_9) rfl (by kernel_rfl) (fun _ _ _ h => h) (by rfl) (by assumption) ?yx4_9 ?rx4_9
        case yx4_9 => (intro w' hSw; (try dsimp only at hSw); go_simp; try with_reducible rfl)
        try simp only [Act.put, List.setIfInBounds_toArray, List.set_cons_zero, List.set_cons_succ, List.getElem_toArray, List.getElem_cons_succ, List.getElem_cons_zero]
        refine takeW 10 (v := ?vx4_10) rfl (by kernel_rfl) (fun _ _ _ h => h) (by rfl) (by assumption) ?yx4_10 ?rx4_10
        case yx4_10 => (intro w' hSw; (try dsimp only at hSw); go_simp; try with_reducible rfl)
        try simp only [Act.put, List.setIfInBounds_toArray, List.set_cons_zero, List.set_cons_succ, List.getElem_toArray, List.getElem_cons_succ, List.getElem_cons_zero]
        refine takeW 11 (v := ?vx4_11) rfl (by kernel_rfl) (fun _ _ _ h => h) (by rfl) (by assumption) ?yx4_11 ?rx4_11
        case yx4_11 => (intro w' hSw; (try dsimp only at hSw); go_simp; try with_reducible rfl)
        try simp only [Act.put, List.setIfInBounds_toArray, List.set_cons_zero, List.set_cons_succ, List.getElem_toArray, List.getElem_cons_succ, List.getElem_cons_zero]
        refine takeW 12 (v := ?vx4_12) rfl (by kernel_rfl) (fun _ _ _ h => h) (by rfl) (by assumption) ?yx4_12 ?rx4_12
        case yx4_12 => (intro w' hSw; (try dsimp only at hSw); go_simp; try with_reducible rfl)
        try simp only [Act.put, List.setIfInBounds_toArray, List.set_cons_zero, List.set_cons_succ, List.getElem_toArray, List.getElem_cons_succ, List.getElem_cons_zero]
        refine takeW 13 (v := ?vx4_13) rfl (by kernel_rfl) (fun _ _ _ h => h) (by rfl) (by assumption) ?yx4_13 ?rx4_13
        case yx4_13 => (intro w' hSw; (try dsimp only at hSw); go_simp; try with_reducible rfl)
        try simp only [Act.put, List.setIfInBounds_toArray, List.set_cons_zero, List.set_cons_succ, List.getElem_toArray, List.getElem_cons_succ, List.getElem_cons_zero]
        refine takeW 14 (v := ?vx4_14) rfl (by kernel_rfl) (fun _ _ _ h => h) (by rfl) (by assumption) ?yx4_14 ?rx4_14
        case yx4_14 => (intro w' hSw; (try dsimp only at hSw); go_simp; try with_reducible rfl)
        try simp only [Act.put, List.setIfInBounds_toArray, List.set_cons_zero, List.set_cons_succ, List.getElem_toArray, List.getElem_cons_succ, List.getElem_cons_zero]
        refine takeW 15 (v := ?vx4_15) rfl (by kernel_rfl) (fun _ _ _ h => h) (by rfl) (by assumption) ?yx4_15 ?rx4_15
        case yx4_15 => (intro w' hSw; (try dsimp only at hSw); go_simp; try with_reducible rfl)
        try simp only [Act.put, List.setIfInBounds_toArray, List.set_cons_zero, List.set_cons_succ, List.getElem_toArray, List.getElem_cons_succ, List.getElem_cons_zero]
        refine takeW 16 (v := ?vx4_16) rfl (by kernel_rfl) (fun _ _ _ h => h) (by rfl) (by assumption) ?yx4_16 ?rx4_16
        case yx4_16 => (intro w' hSw; (try dsimp only at hSw); go_simp; try with_reducible rfl)
        try simp only [Act.put, List.setIfInBounds_toArray, List.set_cons_zero, List.set_cons_succ, List.getElem_toArray, List.getElem_cons_succ, List.getElem_cons_zero]
        refine takeW 17 (v := ?vx4_17) rfl (by kernel_rfl) (fun _ _ _ h => h) (by rfl) (by assumption) ?yx4_17 ?rx4_17
        case yx4_17 => (intro w' hSw; (try dsimp only at hSw); go_simp; try with_reducible rfl)
        try simp only [Act.put, List.setIfInBounds_toArray, List.set_cons_zero, List.set_cons_succ, List.getElem_toArray, List.getElem_cons_succ, List.getElem_cons_zero]
        refine takeW 18 (v := ?vx4_18) rfl (by kernel_rfl) (fun _ _ _ h => h) (by rfl) (by assumption) ?yx4_18 ?rx4_18
        case yx4_18 => (intro w' hSw; (try dsimp only at hSw); go_simp; try with_reducible rfl)
        try simp only [Act.put, List.setIfInBounds_toArray, List.set_cons_zero, List.set_cons_succ, List.getElem_toArray, List.getElem_cons_succ, List.getElem_cons_zero]
        refine takeW 19 (v := ?vx4_19) rfl (by kernel_rfl) (fun _ _ _ h => h) (by rfl) (by assumption) ?yx4_19 ?rx4_19
        case yx4_19 => (intro w' hSw; (try dsimp only at hSw); go_simp; try with_reducible rfl)
        try simp only [Act.put, List.setIfInBounds_toArray, List.set_cons_zero, List.set_cons_succ, List.getElem_toArray, List.getElem_cons_succ, List.getElem_cons_zero]
        refine takeW 20 (v := ?vx4_20) rfl (by kernel_rfl) (fun _ _ _ h => h) (by rfl) (by assumption) ?yx4_20 ?rx4_20
        case yx4_20 => (intro w' hSw; (try dsimp only at hSw); go_simp; try with_reducible rfl)
        try simp only [Act.put, List.setIfInBounds_toArray, List.set_cons_zero, List.set_cons_succ, List.getElem_toArray, List.getElem_cons_succ, List.getElem_cons_zero]
        refine takeW 21 (v := ?vx4_21) rfl (by kernel_rfl) (fun _ _ _ h => h) (by rfl) (by assumption) ?yx4_21 ?rx4_21
        case yx4_21 => (intro w' hSw; (try dsimp only at hSw); go_simp; try with_reducible rfl)
        try simp only [Act.put, List.setIfInBounds_toArray, List.set_cons_zero, List.set_cons_succ, List.getElem_toArray, List.getElem_cons_succ, List.getElem_cons_zero]
        refine takeW 22 (v := .bool true) rfl (by kernel_rfl) (fun _ _ _ h => h) (by rfl) (by assumption) ?yx4_22 ?rx4_22
        case yx4_22 => (intro w' hSw; (try dsimp only at hSw); go_simp; try first | with_reducible rfl | simp [hne])
        try simp only [Act.put, List.setIfInBounds_toArray, List.set_cons_zero, List.set_cons_succ, List.getElem_toArray, List.getElem_cons_succ, List.getElem_cons_zero]
        refine takeW 23 (v := ?vx4_23) rfl (by kernel_rfl) (fun _ _ _ h => h) (by rfl) (by assumption) ?yx4_23 ?rx4_23
        case yx4_23 => (intro w' hSw; (try dsimp only at hSw); go_simp; try with_reducible rfl)
        try simp only [Act.put, List.setIfInBounds_toArray, List.set_cons_zero, List.set_cons_succ, List.getElem_toArray, List.getElem_cons_succ, List.getElem_cons_zero]
        refine takeW 24 (v := ?vx4_24) rfl (by kernel_rfl) (fun _ _ _ h => h) (by rfl) (by assumption) ?yx4_24 ?rx4_24
        case yx4_24 => (intro w' hSw; (try dsimp only at hSw); go_simp; try with_reducible rfl)
        try simp only [Act.put, List.setIfInBounds_toArray, List.set_cons_zero, List.set_cons_succ, List.getElem_toArray, List.getElem_cons_succ, List.getElem_cons_zero]
        refine takeN 25 rfl (by kernel_rfl) (fun _ _ _ h => h) (by rfl) (by assumption) ?rx4_25
        try simp only [Act.put, List.setIfInBounds_toArray, List.set_cons_zero, List.set_cons_succ, List.getElem_toArray, List.getElem_cons_succ, List.getElem_cons_zero]
        refine takeN 26 rfl (by kernel_rfl) (fun _ _ _ h => h) (by rfl) (by assumption) ?rx4_26
        try simp only [Act.put, List.setIfInBounds_toArray, List.set_cons_zero, List.set_cons_succ, List.getElem_toArray, List.getElem_cons_succ, List.getElem_cons_zero]
        refine takeN 27 rfl (by kernel_rfl) (fun _ _ _ h => h) (by rfl) (by assumption) ?rx4_27
        try simp only [Act.put, List.setIfInBounds_toArray, List.set_cons_zero, List.set_cons_succ, List.getElem_toArray, List.getElem_cons_succ, List.getElem_cons_zero]
        refine takeN 28 rfl (by kernel_rfl) (fun _ _ _ h => h) (by rfl) (by assumption) ?rx4_28
        try simp only [Act.put, List.setIfInBounds_toArray, List.set_cons_zero, List.set_cons_succ, List.getElem_toArray, List.getElem_cons_succ, List.getElem_cons_zero]
        refine takeN 29 rfl (by kernel_rfl) (fun _ _ _ h => h) (by rfl) (by assumption) ?rx4_29
        try simp only [Act.put, List.setIfInBounds_toArray, List.set_cons_zero, List.set_cons_succ, List.getElem_toArray, List.getElem_cons_succ, List.getElem_cons_zero]
        refine takeN 30 rfl (by kernel_rfl) (fun _ _ _ h => h) (by rfl) (by assumption) ?rx4_30
        try simp only [Act.put, List.setIfInBounds_toArray, List.set_cons_zero, List.set_cons_succ, List.getElem_toArray, List.getElem_cons_succ, List.getElem_cons_zero]
        refine takeN 31 rfl (by kernel_rfl) (fun _ _ _ h => h) (by rfl) (by assumption) ?rx4_31
        try simp only [Act.put, List.setIfInBounds_toArray, List.set_cons_zero, List.set_cons_succ, List.getElem_toArray, List.getElem_cons_succ, List.getElem_cons_zero]
        refine takeN 32 rfl (by kernel_rfl) (fun _ _ _ h => h) (by rfl) (by assumption) ?rx4_32
        try simp only [Act.put, List.setIfInBounds_toArray, List.set_cons_zero, List.set_cons_succ, List.getElem_toArray, List.getElem_cons_succ, List.getElem_cons_zero]
        refine takeN 33 rfl (by kernel_rfl) (fun _ _ _ h => h) (by rfl) (by assumption) ?rx4_33
        try simp only [Act.put, List.setIfInBounds_toArray, List.set_cons_zero, List.set_cons_succ, List.getElem_toArray, List.getElem_cons_succ, List.getElem_cons_zero]
        refine takeN 34 rfl (by kernel_rfl) (fun _ _ _ h => h) (by rfl) (by assumption) ?rx4_34
        try simp only [Act.put, List.setIfInBounds_toArray, List.set_cons_zero, List.set_cons_succ, List.getElem_toArray, List.getElem_cons_succ, List.getElem_cons_zero]
        refine takeN 35 rfl (by kernel_rfl) (fun _ _ _ h => h) (by rfl) (by assumption) ?rx4_35
        try simp only [Act.put, List.setIfInBounds_toArray, List.set_cons_zero, List.set_cons_succ, List.getElem_toArray, List.getElem_cons_succ, List.getElem_cons_zero]
        refine takeN 36 rfl (by kernel_rfl) (fun _ _ _ h => h) (by rfl) (by assumption) ?rx4_36
        try simp only [Act.put, List.setIfInBounds_toArray, List.set_cons_zero, List.set_cons_succ, List.getElem_toArray, List.getElem_cons_succ, List.getElem_cons_zero]
        refine takeW 37 (v := ?vx4_37) rfl (by kernel_rfl) (fun _ _ _ h => h) (by rfl) (by assumption) ?yx4_37 ?rx4_37
        case yx4_37 => (intro w' hSw; (try dsimp only at hSw); go_simp; try with_reducible rfl)
        try simp only [Act.put, List.setIfInBounds_toArray, List.set_cons_zero, List.set_cons_succ, List.getElem_toArray, List.getElem_cons_succ, List.getElem_cons_zero]
        refine takeW 38 (v := ?vx4_38) rfl (by kernel_rfl) (fun _ _ _ h => h) (by rfl) (by assumption) ?yx4_38 ?rx4_38
        case yx4_38 => (intro w' hSw; (try dsimp only at hSw); go_simp; try with_reducible rfl)
        try simp only [Act.put, List.setIfInBounds_toArray, List.set_cons_zero, List.set_cons_succ, List.getElem_toArray, List.getElem_cons_succ, List.getElem_cons_zero]
        refine wpAnyH_done (by kernel_rfl) ?_ _
        go_wp2_with fail
        go_ret
        exact ⟨HNO.out, HBD.out⟩
      · have HAR := Lib.hid hne'
        have hne : (d1.ar != d2.ar) = false := by simpa using hne'
        clear hne'
        obtain ⟨z, hz⟩ : ∃ z, sameN d1.op d1.n d1.k d2.op d2.n d2.k = z := ⟨_, rfl⟩
        have HSM := Lib.hid hz
        clear hz
        cases z with
        | true =>
          have HYES := Lib.hid (HYET.out (by rw [HSA.out, HSM.out, decide_eq_true HAR.out]; rfl))
          go_upto_region 7 with fail
          refine wp_region_held_drew (S := fun w' => w'.cell? ⟨g, i, none⟩ = some (Value.bool true) ∧ w'.cell? ⟨b1, o1 + p1 * 6 + 1, none⟩ = some (Value.int .i64 d1.ar) ∧ w'.cell? ⟨b1, o1 + p1 * 6 + 3, none⟩ = some (Value.int .i64 d1.op) ∧ w'.cell? ⟨b1, o1 + p1 * 6 + 4, none⟩ = some (Value.int .i64 d1.n) ∧ w'.cell? ⟨b1, o1 + p1 * 6 + 5, none⟩ = some (Value.slice K1 d1.k.len e1) ∧ w'.cell? ⟨b2, o2 + p2 * 6 + 1, none⟩ = some (Value.int .i64 d2.ar) ∧ w'.cell? ⟨b2, o2 + p2 * 6 + 3, none⟩ = some (Value.int .i64 d2.op) ∧ w'.cell? ⟨b2, o2 + p2 * 6 + 4, none⟩ = some (Value.int .i64 d2.n) ∧ w'.cell? ⟨b2, o2 + p2 * 6 + 5, none⟩ = some (Value.slice K2 d2.k.len e2)) (by kernel_rfl) s0 (fun hHeld => ?_)
          refine takeW 0 (v := ?vx5_0) rfl (by kernel_rfl) (fun _ _ _ h => h) (by rfl) (by assumption) ?yx5_0 ?rx5_0
          case yx5_0 => (intro w' hSw; (try dsimp only at hSw); go_simp; try with_reducible rfl)
          try simp only [Act.put, List.setIfInBounds_toArray, List.set_cons_zero, List.set_cons_succ, List.getElem_toArray, List.getElem_cons_zero]
          refine takeW 1 (v := ?vx5_1) rfl (by kernel_rfl) (fun _ _ _ h => h) (by rfl) (by assumption) ?yx5_1 ?rx5_1
          case yx5_1 => (intro w' hSw; (try dsimp only at hSw); go_simp; try with_reducible rfl)
          try simp only [Act.put, List.setIfInBounds_toArray, List.set_cons_zero, List.set_cons_succ, List.getElem_toArray, List.getElem_cons_succ, List.getElem_cons_zero]
          refine takeW 2 (v := ?vx5_2) rfl (by kernel_rfl) (fun _ _ _ h => h) (by rfl) (by assumption) ?yx5_2 ?rx5_2
          case yx5_2 => (intro w' hSw; (try dsimp only at hSw); go_simp; try with_reducible rfl)
          try simp only [Act.put, List.setIfInBounds_toArray, List.set_cons_zero, List.set_cons_succ, List.getElem_toArray, List.getElem_cons_succ, List.getElem_cons_zero]
          refine takeW 3 (v := ?vx5_3) rfl (by kernel_rfl) (fun _ _ _ h => h) (by rfl) (by assumption) ?yx5_3 ?rx5_3
          case yx5_3 => (intro w' hSw; (try dsimp only at hSw); go_simp; try with_reducible rfl)
          try simp only [Act.put, List.setIfInBounds_toArray, List.set_cons_zero, List.set_cons_succ, List.getElem_toArray, List.getElem_cons_succ, List.getElem_cons_zero]
          refine takeW 4 (v := ?vx5_4) rfl (by kernel_rfl) (fun _ _ _ h => h) (by rfl) (by assumption) ?yx5_4 ?rx5_4
          case yx5_4 => (intro w' hSw; (try dsimp only at hSw); go_simp; try with_reducible rfl)
          try simp only [Act.put, List.setIfInBounds_toArray, List.set_cons_zero, List.set_cons_succ, List.getElem_toArray, List.getElem_cons_succ, List.getElem_cons_zero]
          refine takeW 5 (v := ?vx5_5) rfl (by kernel_rfl) (fun _ _ _ h => h) (by rfl) (by assumption) ?yx5_5 ?rx5_5
          case yx5_5 => (intro w' hSw; (try dsimp only at hSw); go_simp; try with_reducible rfl)
          try simp only [Act.put, List.setIfInBounds_toArray, List.set_cons_zero, List.set_cons_succ, List.getElem_toArray, List.getElem_cons_succ, List.getElem_cons_zero]
          refine takeW 6 (v := ?vx5_6) rfl (by kernel_rfl) (fun _ _ _ h => h) (by rfl) (by assumption) ?yx5_6 ?rx5_6
          case yx5_6 => (intro w' hSw; (try dsimp only at hSw); go_simp; try with_reducible rfl)
          try simp only [Act.put, List.setIfInBounds_toArray, List.set_cons_zero, List.set_cons_succ, List.getElem_toArray, List.getElem_cons_succ, List.getElem_cons_zero]
          refine takeW 7 (v := ?vx5_7) rfl (by kernel_rfl) (fun _ _ _ h => h) (by rfl) (by assumption) ?yx5_7 ?rx5_7
          case yx5_7 => (intro w' hSw; (try dsimp only at hSw); go_simp; try with_reducible rfl)
          try simp only [Act.put, List.setIfInBounds_toArray, List.set_cons_zero, List.set_cons_succ, List.getElem_toArray, List.getElem_cons_succ, List.getElem_cons_zero]
          refine takeW 8 (v := ?vx5_8) rfl (by kernel_rfl) (fun _ _ _ h => h) (by rfl) (by assumption) ?yx5_8 ?rx5_8
          case yx5_8 => (intro w' hSw; (try dsimp only at hSw); go_simp; try with_reducible rfl)
          try simp only [Act.put, List.setIfInBounds_toArray, List.set_cons_zero, List.set_cons_succ, List.getElem_toArray, List.getElem_cons_succ, List.getElem_cons_zero]
          refine takeW 9 (v := ?vx5_9) rfl (by kernel_rfl) (fun _ _ _ h => h) (by rfl) (by assumption) ?yx5_9 ?rx5_9
          case yx5_9 => (intro w' hSw; (try dsimp only at hSw); go_simp; try with_reducible rfl)
          try simp only [Act.put, List.setIfInBounds_toArray, List.set_cons_zero, List.set_cons_succ, List.getElem_toArray, List.getElem_cons_succ, List.getElem_cons_zero]
          refine takeW 10 (v := ?vx5_10) rfl (by kernel_rfl) (fun _ _ _ h => h) (by rfl) (by assumption) ?yx5_10 ?rx5_10
          case yx5_10 => (intro w' hSw; (try dsimp only at hSw); go_simp; try with_reducible rfl)
          try simp only [Act.put, List.setIfInBounds_toArray, List.set_cons_zero, List.set_cons_succ, List.getElem_toArray, List.getElem_cons_succ, List.getElem_cons_zero]
          refine takeW 11 (v := ?vx5_11) rfl (by kernel_rfl) (fun _ _ _ h => h) (by rfl) (by assumption) ?yx5_11 ?rx5_11
          case yx5_11 => (intro w' hSw; (try dsimp only at hSw); go_simp; try with_reducible rfl)
          try simp only [Act.put, List.setIfInBounds_toArray, List.set_cons_zero, List.set_cons_succ, List.getElem_toArray, List.getElem_cons_succ, List.getElem_cons_zero]
          refine takeW 12 (v := ?vx5_12) rfl (by kernel_rfl) (fun _ _ _ h => h) (by rfl) (by assumption) ?yx5_12 ?rx5_12
          case yx5_12 => (intro w' hSw; (try dsimp only at hSw); go_simp; try with_reducible rfl)
          try simp only [Act.put, List.setIfInBounds_toArray, List.set_cons_zero, List.set_cons_succ, List.getElem_toArray, List.getElem_cons_succ, List.getElem_cons_zero]
          refine takeW 13 (v := ?vx5_13) rfl (by kernel_rfl) (fun _ _ _ h => h) (by rfl) (by assumption) ?yx5_13 ?rx5_13
          case yx5_13 => (intro w' hSw; (try dsimp only at hSw); go_simp; try with_reducible rfl)
          try simp only [Act.put, List.setIfInBounds_toArray, List.set_cons_zero, List.set_cons_succ, List.getElem_toArray, List.getElem_cons_succ, List.getElem_cons_zero]
          refine takeW 14 (v := ?vx5_14) rfl (by kernel_rfl) (fun _ _ _ h => h) (by rfl) (by assumption) ?yx5_14 ?rx5_14
          case yx5_14 => (intro w' hSw; (try dsimp only at hSw); go_simp; try with_reducible rfl)
          try simp only [Act.put, List.setIfInBounds_toArray, List.set_cons_zero, List.set_cons_succ, List.getElem_toArray, List.getElem_cons_succ, List.getElem_cons_zero]
          refine takeW 15 (v := ?vx5_15) rfl (by kernel_rfl) (fun _ _ _ h => h) (by rfl) (by assumption) ?yx5_15 ?rx5_15
          case yx5_15 => (intro w' hSw; (try dsimp only at hSw); go_simp; try with_reducible rfl)
          try simp only [Act.put, List.setIfInBounds_toArray, List.set_cons_zero, List.set_cons_succ, List.getElem_toArray, List.getElem_cons_succ, List.getElem_cons_zero]
          refine takeW 16 (v := ?vx5_16) rfl (by kernel_rfl) (fun _ _ _ h => h) (by rfl) (by assumption) ?yx5_16 ?rx5_16
          case yx5_16 => (intro w' hSw; (try dsimp only at hSw); go_simp; try with_reducible rfl)
          try simp only [Act.put, List.setIfInBounds_toArray, List.set_cons_zero, List.set_cons_succ, List.getElem_toArray, List.getElem_cons_succ, List.getElem_cons_zero]
          refine takeW 17 (v := ?vx5_17) rfl (by kernel_rfl) (fun _ _ _ h => h) (by rfl) (by assumption) ?yx5_17 ?rx5_17
          case yx5_17 => (intro w' hSw; (try dsimp only at hSw); go_simp; try with_reducible rfl)
          try simp only [Act.put, List.setIfInBounds_toArray, List.set_cons_zero, List.set_cons_succ, List.getElem_toArray, List.getElem_cons_succ, List.getElem_cons_zero]
          refine takeW 18 (v := ?vx5_18) rfl (by kernel_rfl) (fun _ _ _ h => h) (by rfl) (by assumption) ?yx5_18 ?rx5_18
          case yx5_18 => (intro w' hSw; (try dsimp only at hSw); go_simp; try with_reducible rfl)
          try simp only [Act.put, List.setIfInBounds_toArray, List.set_cons_zero, List.set_cons_succ, List.getElem_toArray, List.getElem_cons_succ, List.getElem_cons_zero]
          refine takeW 19 (v := ?vx5_19) rfl (by kernel_rfl) (fun _ _ _ h => h) (by rfl) (by assumption) ?yx5_19 ?rx5_19
          case yx5_19 => (intro w' hSw; (try dsimp only at hSw); go_simp; try with_reducible rfl)
          try simp only [Act.put, List.setIfInBounds_toArray, List.set_cons_zero, List.set_cons_succ, List.getElem_toArray, List.getElem_cons_succ, List.getElem_cons_zero]
          refine takeW 20 (v := ?vx5_20) rfl (by kernel_rfl) (fun _ _ _ h => h) (by rfl) (by assumption) ?yx5_20 ?rx5_20
          case yx5_20 => (intro w' hSw; (try dsimp only at hSw); go_simp; try with_reducible rfl)
          try simp only [Act.put, List.setIfInBounds_toArray, List.set_cons_zero, List.set_cons_succ, List.getElem_toArray, List.getElem_cons_succ, List.getElem_cons_zero]
          refine takeW 21 (v := ?vx5_21) rfl (by kernel_rfl) (fun _ _ _ h => h) (by rfl) (by assumption) ?yx5_21 ?rx5_21
          case yx5_21 => (intro w' hSw; (try dsimp only at hSw); go_simp; try with_reducible rfl)
          try simp only [Act.put, List.setIfInBounds_toArray, List.set_cons_zero, List.set_cons_succ, List.getElem_toArray, List.getElem_cons_succ, List.getElem_cons_zero]
          refine takeW 22 (v := .bool false) rfl (by kernel_rfl) (fun _ _ _ h => h) (by rfl) (by assumption) ?yx5_22 ?rx5_22
          case yx5_22 => (intro w' hSw; (try dsimp only at hSw); go_simp; try first | with_reducible rfl | simp [hne])
          try simp only [Act.put, List.setIfInBounds_toArray, List.set_cons_zero, List.set_cons_succ, List.getElem_toArray, List.getElem_cons_succ, List.getElem_cons_zero]
          refine takeW 23 (v := ?vx5_23) rfl (by kernel_rfl) (fun _ _ _ h => h) (by rfl) (by assumption) ?yx5_23 ?rx5_23
          case yx5_23 => (intro w' hSw; (try dsimp only at hSw); go_simp; try with_reducible rfl)
          try simp only [Act.put, List.setIfInBounds_toArray, List.set_cons_zero, List.set_cons_succ, List.getElem_toArray, List.getElem_cons_succ, List.getElem_cons_zero]
          refine takeW 24 (v := ?vx5_24) rfl (by kernel_rfl) (fun _ _ _ h => h) (by rfl) (by assumption) ?yx5_24 ?rx5_24
          case yx5_24 => (intro w' hSw; (try dsimp only at hSw); go_simp; try with_reducible rfl)
          try simp only [Act.put, List.setIfInBounds_toArray, List.set_cons_zero, List.set_cons_succ, List.getElem_toArray, List.getElem_cons_succ, List.getElem_cons_zero]
          refine takeW 25 (v := ?vx5_25) rfl (by kernel_rfl) (fun _ _ _ h => h) (by rfl) (by assumption) ?yx5_25 ?rx5_25
          case yx5_25 => (intro w' hSw; (try dsimp only at hSw); go_simp; try with_reducible rfl)
          try simp only [Act.put, List.setIfInBounds_toArray, List.set_cons_zero, List.set_cons_succ, List.getElem_toArray, List.getElem_cons_succ, List.getElem_cons_zero]
          refine takeW 26 (v := ?vx5_26) rfl (by kernel_rfl) (fun _ _ _ h => h) (by rfl) (by assumption) ?yx5_26 ?rx5_26
          case yx5_26 => (intro w' hSw; (try dsimp only at hSw); go_simp; try with_reducible rfl)
          try simp only [Act.put, List.setIfInBounds_toArray, List.set_cons_zero, List.set_cons_succ, List.getElem_toArray, List.getElem_cons_succ, List.getElem_cons_zero]
          refine takeW 27 (v := ?vx5_27) rfl (by kernel_rfl) (fun _ _ _ h => h) (by rfl) (by assumption) ?yx5_27 ?rx5_27
          case yx5_27 => (intro w' hSw; (try dsimp only at hSw); go_simp; try with_reducible rfl)
          try simp only [Act.put, List.setIfInBounds_toArray, List.set_cons_zero, List.set_cons_succ, List.getElem_toArray, List.getElem_cons_succ, List.getElem_cons_zero]
          refine takeW 28 (v := ?vx5_28) rfl (by kernel_rfl) (fun _ _ _ h => h) (by rfl) (by assumption) ?yx5_28 ?rx5_28
          case yx5_28 => (intro w' hSw; (try dsimp only at hSw); go_simp; try with_reducible rfl)
          try simp only [Act.put, List.setIfInBounds_toArray, List.set_cons_zero, List.set_cons_succ, List.getElem_toArray, List.getElem_cons_succ, List.getElem_cons_zero]
          refine takeW 29 (v := ?vx5_29) rfl (by kernel_rfl) (fun _ _ _ h => h) (by rfl) (by assumption) ?yx5_29 ?rx5_29
          case yx5_29 => (intro w' hSw; (try dsimp only at hSw); go_simp; try with_reducible rfl)
          try simp only [Act.put, List.setIfInBounds_toArray, List.set_cons_zero, List.set_cons_succ, List.getElem_toArray, List.getElem_cons_succ, List.getElem_cons_zero]
          refine takeW 30 (v := ?vx5_30) rfl (by kernel_rfl) (fun _ _ _ h => h) (by rfl) (by assumption) ?yx5_30 ?rx5_30
          case yx5_30 => (intro w' hSw; (try dsimp only at hSw); go_simp; try with_reducible rfl)
          try simp only [Act.put, List.setIfInBounds_toArray, List.set_cons_zero, List.set_cons_succ, List.getElem_toArray, List.getElem_cons_succ, List.getElem_cons_zero]
          refine takeW 31 (v := ?vx5_31) rfl (by kernel_rfl) (fun _ _ _ h => h) (by rfl) (by assumption) ?yx5_31 ?rx5_31
          case yx5_31 => (intro w' hSw; (try dsimp only at hSw); go_simp; try with_reducible rfl)
          try simp only [Act.put, List.setIfInBounds_toArray, List.set_cons_zero, List.set_cons_succ, List.getElem_toArray, List.getElem_cons_succ, List.getElem_cons_zero]
          refine takeW 32 (v := ?vx5_32) rfl (by kernel_rfl) (fun _ _ _ h => h) (by rfl) (by assumption) ?yx5_32 ?rx5_32
          case yx5_32 => (intro w' hSw; (try dsimp only at hSw); go_simp; try with_reducible rfl)
          try simp only [Act.put, List.setIfInBounds_toArray, List.set_cons_zero, List.set_cons_succ, List.getElem_toArray, List.getElem_cons_succ, List.getElem_cons_zero]
          refine takeW 33 (v := ?vx5_33) rfl (by kernel_rfl) (fun _ _ _ h => h) (by rfl) (by assumption) ?yx5_33 ?rx5_33
          case yx5_33 => (intro w' hSw; (try dsimp only at hSw); go_simp; try with_reducible rfl)
          try simp only [Act.put, List.setIfInBounds_toArray, List.set_cons_zero, List.set_cons_succ, List.getElem_toArray, List.getElem_cons_succ, List.getElem_cons_zero]
          refine takeW 34 (v := ?vx5_34) rfl (by kernel_rfl) (fun _ _ _ h => h) (by rfl) (by assumption) ?yx5_34 ?rx5_34
          case yx5_34 => (intro w' hSw; (try dsimp only at hSw); go_simp; try with_reducible rfl)
          try simp only [Act.put, List.setIfInBounds_toArray, List.set_cons_zero, List.set_cons_succ, List.getElem_toArray, List.getElem_cons_succ, List.getElem_cons_zero]
          refine wpAnyH_ready (rs := [35]) (by kernel_rfl) (by simp) ?_
          refine AllReadyH.cons rfl (fun K hK => ?_) AllReadyH.nil
          go_simp
          refine (specSame_any d1.k.size d1.op d1.n d2.op d2.n d1.k d2.k K1 K2 e1 e2 w6.drew rfl (HK1.out.up HBX.out) (HK2.out.up HBX.out) hks1 hks2).mono ?_
          rintro e w7 ⟨rfl, hb7⟩
          rw [HSM.out]
          have HB7 := Lib.hid (show Below w6.heap.size w6 w7 from HBX.out.trans (hb7.mono HBX.out.size))
          have st7 := HS.out _ HB7.out
          refine hK.out _ _ (st7) (fun hHeldB1 => ?_)
          clear hK K
          try simp only [Act.put, List.setIfInBounds_toArray, List.set_cons_zero, List.set_cons_succ, List.getElem_toArray, List.getElem_cons_succ, List.getElem_cons_zero]
          refine takeW 36 (v := ?vx6_36) rfl (by kernel_rfl) (fun _ _ _ h => h) (by rfl) (by assumption) ?yx6_36 ?rx6_36
          case yx6_36 => (intro w' hSw; (try dsimp only at hSw); go_simp; try with_reducible rfl)
          try simp only [Act.put, List.setIfInBounds_toArray, List.set_cons_zero, List.set_cons_succ, List.getElem_toArray, List.getElem_cons_succ, List.getElem_cons_zero]
          refine takeW 37 (v := ?vx6_37) rfl (by kernel_rfl) (fun _ _ _ h => h) (by rfl) (by assumption) ?yx6_37 ?rx6_37
          case yx6_37 => (intro w' hSw; (try dsimp only at hSw); go_simp; try with_reducible rfl)
          try simp only [Act.put, List.setIfInBounds_toArray, List.set_cons_zero, List.set_cons_succ, List.getElem_toArray, List.getElem_cons_succ, List.getElem_cons_zero]
          refine takeW 38 (v := ?vx6_38) rfl (by kernel_rfl) (fun _ _ _ h => h) (by rfl) (by assumption) ?yx6_38 ?rx6_38
          case yx6_38 => (intro w' hSw; (try dsimp only at hSw); go_simp; try with_reducible rfl)
          try simp only [Act.put, List.setIfInBounds_toArray, List.set_cons_zero, List.set_cons_succ, List.getElem_toArray, List.getElem_cons_succ, List.getElem_cons_zero]
          refine wpAnyH_done (by kernel_rfl) ?_ _
          clear st7
          go_wp2_with fail
          go_roundw
          case rel => exact ⟨i + 1, by omega, by go_num, HYES, HR6.out.below HB7.out HR6.out.size, HB6.out.trans (HB7.out.mono HB6.out.size)⟩
          case measure => simp [intOf]; omega
        | false =>
          have HNO := Lib.hid (show Ending.returned (Value.bool false) = .returned (.bool (keptS ds1 ds2 f)) by rw [HNOT.out (by rw [HSA.out, HSM.out]; simp)])
          go_upto_region 7 with fail
          refine wp_region_held_drew (S := fun w' => w'.cell? ⟨g, i, none⟩ = some (Value.bool true) ∧ w'.cell? ⟨b1, o1 + p1 * 6 + 1, none⟩ = some (Value.int .i64 d1.ar) ∧ w'.cell? ⟨b1, o1 + p1 * 6 + 3, none⟩ = some (Value.int .i64 d1.op) ∧ w'.cell? ⟨b1, o1 + p1 * 6 + 4, none⟩ = some (Value.int .i64 d1.n) ∧ w'.cell? ⟨b1, o1 + p1 * 6 + 5, none⟩ = some (Value.slice K1 d1.k.len e1) ∧ w'.cell? ⟨b2, o2 + p2 * 6 + 1, none⟩ = some (Value.int .i64 d2.ar) ∧ w'.cell? ⟨b2, o2 + p2 * 6 + 3, none⟩ = some (Value.int .i64 d2.op) ∧ w'.cell? ⟨b2, o2 + p2 * 6 + 4, none⟩ = some (Value.int .i64 d2.n) ∧ w'.cell? ⟨b2, o2 + p2 * 6 + 5, none⟩ = some (Value.slice K2 d2.k.len e2)) (by kernel_rfl) s0 (fun hHeld => ?_)
          refine takeW 0 (v := ?vx7_0) rfl (by kernel_rfl) (fun _ _ _ h => h) (by rfl) (by assumption) ?yx7_0 ?rx7_0
          case yx7_0 => (intro w' hSw; (try dsimp only at hSw); go_simp; try with_reducible rfl)
          try simp only [Act.put, List.setIfInBounds_toArray, List.set_cons_zero, List.set_cons_succ, List.getElem_toArray, List.getElem_cons_zero]
          refine takeW 1 (v := ?vx7_1) rfl (by kernel_rfl) (fun _ _ _ h => h) (by rfl) (by assumption) ?yx7_1 ?rx7_1
          case yx7_1 => (intro w' hSw; (try dsimp only at hSw); go_simp; try with_reducible rfl)
          try simp only [Act.put, List.setIfInBounds_toArray, List.set_cons_zero, List.set_cons_succ, List.getElem_toArray, List.getElem_cons_succ, List.getElem_cons_zero]
          refine takeW 2 (v := ?vx7_2) rfl (by kernel_rfl) (fun _ _ _ h => h) (by rfl) (by assumption) ?yx7_2 ?rx7_2
          case yx7_2 => (intro w' hSw; (try dsimp only at hSw); go_simp; try with_reducible rfl)
          try simp only [Act.put, List.setIfInBounds_toArray, List.set_cons_zero, List.set_cons_succ, List.getElem_toArray, List.getElem_cons_succ, List.getElem_cons_zero]
          refine takeW 3 (v := ?vx7_3) rfl (by kernel_rfl) (fun _ _ _ h => h) (by rfl) (by assumption) ?yx7_3 ?rx7_3
          case yx7_3 => (intro w' hSw; (try dsimp only at hSw); go_simp; try with_reducible rfl)
          try simp only [Act.put, List.setIfInBounds_toArray, List.set_cons_zero, List.set_cons_succ, List.getElem_toArray, List.getElem_cons_succ, List.getElem_cons_zero]
          refine takeW 4 (v := ?vx7_4) rfl (by kernel_rfl) (fun _ _ _ h => h) (by rfl) (by assumption) ?yx7_4 ?rx7_4
          case yx7_4 => (intro w' hSw; (try dsimp only at hSw); go_simp; try with_reducible rfl)
          try simp only [Act.put, List.setIfInBounds_toArray, List.set_cons_zero, List.set_cons_succ, List.getElem_toArray, List.getElem_cons_succ, List.getElem_cons_zero]
          refine takeW 5 (v := ?vx7_5) rfl (by kernel_rfl) (fun _ _ _ h => h) (by rfl) (by assumption) ?yx7_5 ?rx7_5
          case yx7_5 => (intro w' hSw; (try dsimp only at hSw); go_simp; try with_reducible rfl)
          try simp only [Act.put, List.setIfInBounds_toArray, List.set_cons_zero, List.set_cons_succ, List.getElem_toArray, List.getElem_cons_succ, List.getElem_cons_zero]
          refine takeW 6 (v := ?vx7_6) rfl (by kernel_rfl) (fun _ _ _ h => h) (by rfl) (by assumption) ?yx7_6 ?rx7_6
          case yx7_6 => (intro w' hSw; (try dsimp only at hSw); go_simp; try with_reducible rfl)
          try simp only [Act.put, List.setIfInBounds_toArray, List.set_cons_zero, List.set_cons_succ, List.getElem_toArray, List.getElem_cons_succ, List.getElem_cons_zero]
          refine takeW 7 (v := ?vx7_7) rfl (by kernel_rfl) (fun _ _ _ h => h) (by rfl) (by assumption) ?yx7_7 ?rx7_7
          case yx7_7 => (intro w' hSw; (try dsimp only at hSw); go_simp; try with_reducible rfl)
          try simp only [Act.put, List.setIfInBounds_toArray, List.set_cons_zero, List.set_cons_succ, List.getElem_toArray, List.getElem_cons_succ, List.getElem_cons_zero]
          refine takeW 8 (v := ?vx7_8) rfl (by kernel_rfl) (fun _ _ _ h => h) (by rfl) (by assumption) ?yx7_8 ?rx7_8
          case yx7_8 => (intro w' hSw; (try dsimp only at hSw); go_simp; try with_reducible rfl)
          try simp only [Act.put, List.setIfInBounds_toArray, List.set_cons_zero, List.set_cons_succ, List.getElem_toArray, List.getElem_cons_succ, List.getElem_cons_zero]
          refine takeW 9 (v := ?vx7_9) rfl (by kernel_rfl) (fun _ _ _ h => h) (by rfl) (by assumption) ?yx7_9 ?rx7_9
          case yx7_9 => (intro w' hSw; (try dsimp only at hSw); go_simp; try with_reducible rfl)
          try simp only [Act.put, List.setIfInBounds_toArray, List.set_cons_zero, List.set_cons_succ, List.getElem_toArray, List.getElem_cons_succ, List.getElem_cons_zero]
          refine takeW 10 (v := ?vx7_10) rfl (by kernel_rfl) (fun _ _ _ h => h) (by rfl) (by assumption) ?yx7_10 ?rx7_10
          case yx7_10 => (intro w' hSw; (try dsimp only at hSw); go_simp; try with_reducible rfl)
          try simp only [Act.put, List.setIfInBounds_toArray, List.set_cons_zero, List.set_cons_succ, List.getElem_toArray, List.getElem_cons_succ, List.getElem_cons_zero]
          refine takeW 11 (v := ?vx7_11) rfl (by kernel_rfl) (fun _ _ _ h => h) (by rfl) (by assumption) ?yx7_11 ?rx7_11
          case yx7_11 => (intro w' hSw; (try dsimp only at hSw); go_simp; try with_reducible rfl)
          try simp only [Act.put, List.setIfInBounds_toArray, List.set_cons_zero, List.set_cons_succ, List.getElem_toArray, List.getElem_cons_succ, List.getElem_cons_zero]
          refine takeW 12 (v := ?vx7_12) rfl (by kernel_rfl) (fun _ _ _ h => h) (by rfl) (by assumption) ?yx7_12 ?rx7_12
          case yx7_12 => (intro w' hSw; (try dsimp only at hSw); go_simp; try with_reducible rfl)
          try simp only [Act.put, List.setIfInBounds_toArray, List.set_cons_zero, List.set_cons_succ, List.getElem_toArray, List.getElem_cons_succ, List.getElem_cons_zero]
          refine takeW 13 (v := ?vx7_13) rfl (by kernel_rfl) (fun _ _ _ h => h) (by rfl) (by assumption) ?yx7_13 ?rx7_13
          case yx7_13 => (intro w' hSw; (try dsimp only at hSw); go_simp; try with_reducible rfl)
          try simp only [Act.put, List.setIfInBounds_toArray, List.set_cons_zero, List.set_cons_succ, List.getElem_toArray, List.getElem_cons_succ, List.getElem_cons_zero]
          refine takeW 14 (v := ?vx7_14) rfl (by kernel_rfl) (fun _ _ _ h => h) (by rfl) (by assumption) ?yx7_14 ?rx7_14
          case yx7_14 => (intro w' hSw; (try dsimp only at hSw); go_simp; try with_reducible rfl)
          try simp only [Act.put, List.setIfInBounds_toArray, List.set_cons_zero, List.set_cons_succ, List.getElem_toArray, List.getElem_cons_succ, List.getElem_cons_zero]
          refine takeW 15 (v := ?vx7_15) rfl (by kernel_rfl) (fun _ _ _ h => h) (by rfl) (by assumption) ?yx7_15 ?rx7_15
          case yx7_15 => (intro w' hSw; (try dsimp only at hSw); go_simp; try with_reducible rfl)
          try simp only [Act.put, List.setIfInBounds_toArray, List.set_cons_zero, List.set_cons_succ, List.getElem_toArray, List.getElem_cons_succ, List.getElem_cons_zero]
          refine takeW 16 (v := ?vx7_16) rfl (by kernel_rfl) (fun _ _ _ h => h) (by rfl) (by assumption) ?yx7_16 ?rx7_16
          case yx7_16 => (intro w' hSw; (try dsimp only at hSw); go_simp; try with_reducible rfl)
          try simp only [Act.put, List.setIfInBounds_toArray, List.set_cons_zero, List.set_cons_succ, List.getElem_toArray, List.getElem_cons_succ, List.getElem_cons_zero]
          refine takeW 17 (v := ?vx7_17) rfl (by kernel_rfl) (fun _ _ _ h => h) (by rfl) (by assumption) ?yx7_17 ?rx7_17
          case yx7_17 => (intro w' hSw; (try dsimp only at hSw); go_simp; try with_reducible rfl)
          try simp only [Act.put, List.setIfInBounds_toArray, List.set_cons_zero, List.set_cons_succ, List.getElem_toArray, List.getElem_cons_succ, List.getElem_cons_zero]
          refine takeW 18 (v := ?vx7_18) rfl (by kernel_rfl) (fun _ _ _ h => h) (by rfl) (by assumption) ?yx7_18 ?rx7_18
          case yx7_18 => (intro w' hSw; (try dsimp only at hSw); go_simp; try with_reducible rfl)
          try simp only [Act.put, List.setIfInBounds_toArray, List.set_cons_zero, List.set_cons_succ, List.getElem_toArray, List.getElem_cons_succ, List.getElem_cons_zero]
          refine takeW 19 (v := ?vx7_19) rfl (by kernel_rfl) (fun _ _ _ h => h) (by rfl) (by assumption) ?yx7_19 ?rx7_19
          case yx7_19 => (intro w' hSw; (try dsimp only at hSw); go_simp; try with_reducible rfl)
          try simp only [Act.put, List.setIfInBounds_toArray, List.set_cons_zero, List.set_cons_succ, List.getElem_toArray, List.getElem_cons_succ, List.getElem_cons_zero]
          refine takeW 20 (v := ?vx7_20) rfl (by kernel_rfl) (fun _ _ _ h => h) (by rfl) (by assumption) ?yx7_20 ?rx7_20
          case yx7_20 => (intro w' hSw; (try dsimp only at hSw); go_simp; try with_reducible rfl)
          try simp only [Act.put, List.setIfInBounds_toArray, List.set_cons_zero, List.set_cons_succ, List.getElem_toArray, List.getElem_cons_succ, List.getElem_cons_zero]
          refine takeW 21 (v := ?vx7_21) rfl (by kernel_rfl) (fun _ _ _ h => h) (by rfl) (by assumption) ?yx7_21 ?rx7_21
          case yx7_21 => (intro w' hSw; (try dsimp only at hSw); go_simp; try with_reducible rfl)
          try simp only [Act.put, List.setIfInBounds_toArray, List.set_cons_zero, List.set_cons_succ, List.getElem_toArray, List.getElem_cons_succ, List.getElem_cons_zero]
          refine takeW 22 (v := .bool false) rfl (by kernel_rfl) (fun _ _ _ h => h) (by rfl) (by assumption) ?yx7_22 ?rx7_22
          case yx7_22 => (intro w' hSw; (try dsimp only at hSw); go_simp; try first | with_reducible rfl | simp [hne])
          try simp only [Act.put, List.setIfInBounds_toArray, List.set_cons_zero, List.set_cons_succ, List.getElem_toArray, List.getElem_cons_succ, List.getElem_cons_zero]
          refine takeW 23 (v := ?vx7_23) rfl (by kernel_rfl) (fun _ _ _ h => h) (by rfl) (by assumption) ?yx7_23 ?rx7_23
          case yx7_23 => (intro w' hSw; (try dsimp only at hSw); go_simp; try with_reducible rfl)
          try simp only [Act.put, List.setIfInBounds_toArray, List.set_cons_zero, List.set_cons_succ, List.getElem_toArray, List.getElem_cons_succ, List.getElem_cons_zero]
          refine takeW 24 (v := ?vx7_24) rfl (by kernel_rfl) (fun _ _ _ h => h) (by rfl) (by assumption) ?yx7_24 ?rx7_24
          case yx7_24 => (intro w' hSw; (try dsimp only at hSw); go_simp; try with_reducible rfl)
          try simp only [Act.put, List.setIfInBounds_toArray, List.set_cons_zero, List.set_cons_succ, List.getElem_toArray, List.getElem_cons_succ, List.getElem_cons_zero]
          refine takeW 25 (v := ?vx7_25) rfl (by kernel_rfl) (fun _ _ _ h => h) (by rfl) (by assumption) ?yx7_25 ?rx7_25
          case yx7_25 => (intro w' hSw; (try dsimp only at hSw); go_simp; try with_reducible rfl)
          try simp only [Act.put, List.setIfInBounds_toArray, List.set_cons_zero, List.set_cons_succ, List.getElem_toArray, List.getElem_cons_succ, List.getElem_cons_zero]
          refine takeW 26 (v := ?vx7_26) rfl (by kernel_rfl) (fun _ _ _ h => h) (by rfl) (by assumption) ?yx7_26 ?rx7_26
          case yx7_26 => (intro w' hSw; (try dsimp only at hSw); go_simp; try with_reducible rfl)
          try simp only [Act.put, List.setIfInBounds_toArray, List.set_cons_zero, List.set_cons_succ, List.getElem_toArray, List.getElem_cons_succ, List.getElem_cons_zero]
          refine takeW 27 (v := ?vx7_27) rfl (by kernel_rfl) (fun _ _ _ h => h) (by rfl) (by assumption) ?yx7_27 ?rx7_27
          case yx7_27 => (intro w' hSw; (try dsimp only at hSw); go_simp; try with_reducible rfl)
          try simp only [Act.put, List.setIfInBounds_toArray, List.set_cons_zero, List.set_cons_succ, List.getElem_toArray, List.getElem_cons_succ, List.getElem_cons_zero]
          refine takeW 28 (v := ?vx7_28) rfl (by kernel_rfl) (fun _ _ _ h => h) (by rfl) (by assumption) ?yx7_28 ?rx7_28
          case yx7_28 => (intro w' hSw; (try dsimp only at hSw); go_simp; try with_reducible rfl)
          try simp only [Act.put, List.setIfInBounds_toArray, List.set_cons_zero, List.set_cons_succ, List.getElem_toArray, List.getElem_cons_succ, List.getElem_cons_zero]
          refine takeW 29 (v := ?vx7_29) rfl (by kernel_rfl) (fun _ _ _ h => h) (by rfl) (by assumption) ?yx7_29 ?rx7_29
          case yx7_29 => (intro w' hSw; (try dsimp only at hSw); go_simp; try with_reducible rfl)
          try simp only [Act.put, List.setIfInBounds_toArray, List.set_cons_zero, List.set_cons_succ, List.getElem_toArray, List.getElem_cons_succ, List.getElem_cons_zero]
          refine takeW 30 (v := ?vx7_30) rfl (by kernel_rfl) (fun _ _ _ h => h) (by rfl) (by assumption) ?yx7_30 ?rx7_30
          case yx7_30 => (intro w' hSw; (try dsimp only at hSw); go_simp; try with_reducible rfl)
          try simp only [Act.put, List.setIfInBounds_toArray, List.set_cons_zero, List.set_cons_succ, List.getElem_toArray, List.getElem_cons_succ, List.getElem_cons_zero]
          refine takeW 31 (v := ?vx7_31) rfl (by kernel_rfl) (fun _ _ _ h => h) (by rfl) (by assumption) ?yx7_31 ?rx7_31
          case yx7_31 => (intro w' hSw; (try dsimp only at hSw); go_simp; try with_reducible rfl)
          try simp only [Act.put, List.setIfInBounds_toArray, List.set_cons_zero, List.set_cons_succ, List.getElem_toArray, List.getElem_cons_succ, List.getElem_cons_zero]
          refine takeW 32 (v := ?vx7_32) rfl (by kernel_rfl) (fun _ _ _ h => h) (by rfl) (by assumption) ?yx7_32 ?rx7_32
          case yx7_32 => (intro w' hSw; (try dsimp only at hSw); go_simp; try with_reducible rfl)
          try simp only [Act.put, List.setIfInBounds_toArray, List.set_cons_zero, List.set_cons_succ, List.getElem_toArray, List.getElem_cons_succ, List.getElem_cons_zero]
          refine takeW 33 (v := ?vx7_33) rfl (by kernel_rfl) (fun _ _ _ h => h) (by rfl) (by assumption) ?yx7_33 ?rx7_33
          case yx7_33 => (intro w' hSw; (try dsimp only at hSw); go_simp; try with_reducible rfl)
          try simp only [Act.put, List.setIfInBounds_toArray, List.set_cons_zero, List.set_cons_succ, List.getElem_toArray, List.getElem_cons_succ, List.getElem_cons_zero]
          refine takeW 34 (v := ?vx7_34) rfl (by kernel_rfl) (fun _ _ _ h => h) (by rfl) (by assumption) ?yx7_34 ?rx7_34
          case yx7_34 => (intro w' hSw; (try dsimp only at hSw); go_simp; try with_reducible rfl)
          try simp only [Act.put, List.setIfInBounds_toArray, List.set_cons_zero, List.set_cons_succ, List.getElem_toArray, List.getElem_cons_succ, List.getElem_cons_zero]
          refine wpAnyH_ready (rs := [35]) (by kernel_rfl) (by simp) ?_
          refine AllReadyH.cons rfl (fun K hK => ?_) AllReadyH.nil
          go_simp
          refine (specSame_any d1.k.size d1.op d1.n d2.op d2.n d1.k d2.k K1 K2 e1 e2 w6.drew rfl (HK1.out.up HBX.out) (HK2.out.up HBX.out) hks1 hks2).mono ?_
          rintro e w7 ⟨rfl, hb7⟩
          rw [HSM.out]
          have HB7 := Lib.hid (show Below w6.heap.size w6 w7 from HBX.out.trans (hb7.mono HBX.out.size))
          have st7 := HS.out _ HB7.out
          refine hK.out _ _ (st7) (fun hHeldB1 => ?_)
          clear hK K
          try simp only [Act.put, List.setIfInBounds_toArray, List.set_cons_zero, List.set_cons_succ, List.getElem_toArray, List.getElem_cons_succ, List.getElem_cons_zero]
          refine takeW 36 (v := ?vx8_36) rfl (by kernel_rfl) (fun _ _ _ h => h) (by rfl) (by assumption) ?yx8_36 ?rx8_36
          case yx8_36 => (intro w' hSw; (try dsimp only at hSw); go_simp; try with_reducible rfl)
          try simp only [Act.put, List.setIfInBounds_toArray, List.set_cons_zero, List.set_cons_succ, List.getElem_toArray, List.getElem_cons_succ, List.getElem_cons_zero]
          refine takeW 37 (v := ?vx8_37) rfl (by kernel_rfl) (fun _ _ _ h => h) (by rfl) (by assumption) ?yx8_37 ?rx8_37
          case yx8_37 => (intro w' hSw; (try dsimp only at hSw); go_simp; try with_reducible rfl)
          try simp only [Act.put, List.setIfInBounds_toArray, List.set_cons_zero, List.set_cons_succ, List.getElem_toArray, List.getElem_cons_succ, List.getElem_cons_zero]
          refine takeW 38 (v := ?vx8_38) rfl (by kernel_rfl) (fun _ _ _ h => h) (by rfl) (by assumption) ?yx8_38 ?rx8_38
          case yx8_38 => (intro w' hSw; (try dsimp only at hSw); go_simp; try with_reducible rfl)
          try simp only [Act.put, List.setIfInBounds_toArray, List.set_cons_zero, List.set_cons_succ, List.getElem_toArray, List.getElem_cons_succ, List.getElem_cons_zero]
          refine wpAnyH_done (by kernel_rfl) ?_ _
          clear st7
          go_wp2_with fail
          go_ret
          exact ⟨HNO.out, HB6.out.trans (HB7.out.mono HB6.out.size)⟩
    · have e9 : i = 8 := by omega
      subst e9
      have HF := Lib.hid (show Ending.returned (Value.bool true) = .returned (.bool (keptS ds1 ds2 f)) by rw [HQ.out, HALL.out])
      have hii : ¬ ((8 : Nat) : Int) < 8 := by omega
      clear hrow
      go_wp2_with fail
      go_ret
      exact ⟨HF.out, hb⟩
end Go.Proofs.YtgmhpfdhkcgbfaaGreat
