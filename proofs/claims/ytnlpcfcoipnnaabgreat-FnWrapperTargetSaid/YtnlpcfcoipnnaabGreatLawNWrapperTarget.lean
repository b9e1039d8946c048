/-
  The walk of the law FnWrapperTarget: true at every input (made by gen_nwt.py).
-/
import Derived.Test.YtnlpcfcoipnnaabGreatMutLib
import Derived.Test.YtnlpcfcoipnnaabGreatWrapT
import Derived.Test.YtnlpcfcoipnnaabGreatFromIR
import Derived.Test.YtnlpcfcoipnnaabGreatAm
import Derived.Test.YtnlpcfcoipnnaabGreatFind
import Derived.Test.YtnlpcfcoipnnaabGreatValD
import Derived.Test.YtnlpcfcoipnnaabGreatTake
namespace Go.Proofs.YtnlpcfcoipnnaabGreat
open Go.RowKit Go.Shelf
set_option maxRecDepth 100000

set_option maxHeartbeats 1000000 in
theorem drawIW_any (A : Option Addr) (bc : Nat) (bs : List Nat) (w : World) (hB : LiesY w 0 w.heap.size A bs) (hl : bs.length ≤ bc) (hc : bc ≤ maxLen) :
    Calls Tryz.prog 11 #[.slice A bs.length bc] w (FindDPost w) := by
  have HC := Lib.hid (drawLV_any A bc bs w hB hl hc)
  have HY := Lib.hid hB
  clear hB
  go_enter Tryz.func11, Tryz.ntmps11
  go_wp2_with fail
  refine HC.out.mono ?_
  rintro e w1 ⟨ds, X, c, rfl, hd, hb1⟩
  have HCO := Lib.hid (open_any A bc bs w1 ((HY.out.below hb1).keep (Nat.le_refl _) hb1.size fun _ _ _ => rfl) hl hc)
  have HD := Lib.hid hd
  have HB1 := Lib.hid hb1
  clear hd hb1 HC HY
  go_wp2_with fail
  refine HCO.out.mono ?_
  rintro e w2 ⟨bs2, hl2, rfl, hY2, hr2, hb2, hz2⟩
  have ba := (Below.refl w2.heap.size w2).alloc (Nat.le_refl _) (Obj.cells #[.int .i64 1, .int .i64 0, .int .i64 2, .int .i64 3, .int .i64 4, .int .i64 7, .int .i64 (-1)] 3)
  have HN := Lib.hid (num_v w1.heap.size w1.heap.size A bc bs2 0 (some ⟨w2.heap.size, 0, none⟩) 7 [1, 0, 2, 3, 4, 7, -1] _ (Row.below hr2 ba hz2) (hY2.below (ba.mono hb2.size)) (Nat.le_refl _) hl2 (by decide) (lies_new w2 (w1.heap.size + 1) [1, 0, 2, 3, 4, 7, -1] (by intro x hx; simp at hx; unfold I64; omega) hz2) (by decide) (by decide))
  have HB2 := Lib.hid (hb2.trans (ba.mono hb2.size))
  clear ba hY2 hr2 hb2 hz2 HCO
  go_wp2_with fail
  refine HN.out.mono ?_
  rintro e w3 ⟨y, -, hyi, rfl, -, hon3⟩
  have hb3 : Below w1.heap.size w1 w3 := HB2.out.trans ((hon3.mono HB2.out.size).below (Nat.le_refl _))
  obtain ⟨h1, h2, h3, h4, h5⟩ := HD.out
  have HPOST := Lib.hid (show FindDPost w (.returned (.tuple #[.slice X ds.length c, .int .i64 y])) w3 from ⟨ds, X, c, y, rfl, ⟨(h1.below hb3).mono_ (Nat.le_refl _) hb3.size, h2, h3, h4, h5⟩, hyi, HB1.out.trans (hb3.mono HB1.out.size)⟩)
  clear hyi hon3 hb3 h1 h2 h3 h4 h5 HN HD
  go_wp2_with fail
  refine bodyPost_ret (v := .tuple #[.slice X ds.length c, .int .i64 y]) ?_ rfl HPOST.out
  simp [results, Tryz.f11, go_sem]
set_option maxHeartbeats 1000000 in
theorem drawWT_any (A : Option Addr) (bc : Nat) (bs : List Nat) (w : World) (hB : LiesY w 0 w.heap.size A bs) (hl : bs.length ≤ bc) (hc : bc ≤ maxLen) :
    Calls Tryz.prog 4 #[.slice A bs.length bc] w (FindDPost w) := by
  have HC := Lib.hid (drawIW_any A bc bs w hB hl hc)
  clear hB
  go_enter Tryz.func4, Tryz.ntmps4
  go_wp2_with fail
  refine HC.out.mono ?_
  rintro e w1 ⟨ds, X, c, x, rfl, hd, hi, hb⟩
  have HD := Lib.hid (And.intro hd (And.intro hi hb))
  clear hd hi hb
  go_wp2_with fail
  refine bodyPost_ret (v := .tuple #[.slice X ds.length c, .int .i64 x]) ?_ rfl ⟨ds, X, c, x, rfl, HD.out.1, HD.out.2.1, HD.out.2.2⟩
  simp [results, Tryz.f4, go_sem]

theorem body_fitsW {ds : List De} (h : libOk ds = true) {d : De} (hd : d ∈ ds) : callsFitB ds d.op d.n d.k = true := by
  have hf := libOk_body h d hd
  unfold libOk at h
  rw [Bool.and_eq_true] at h
  obtain ⟨_, hb, _⟩ := okL_named ds none h.2 d hd
  unfold bodyOk at hb
  rw [Bool.and_eq_true] at hb
  unfold callsFitB
  rw [hf, Bool.and_true]
  exact nodeIs_up (fun v hv _ => by unfold firstS; simpa using hv) hb.1
theorem nxt_edge {ds : List De} (hv : libOk ds = true) {v : Nat} {y : Int} (h : nxtW ds (v : Int) = some y) : ∃ u : Nat, y = (u : Int) ∧ u < 8 ∧ edge ds v u = true := by
  obtain ⟨d1, hd1⟩ := nxtW_fun hv h
  obtain ⟨h0, h8⟩ := inVar_true (libOk_inVar hv hd1)
  obtain ⟨u, rfl⟩ := Int.eq_ofNat_of_zero_le h0
  refine ⟨u, rfl, by omega, ?_⟩
  unfold nxtW at h
  split at h
  · rename_i d hd
    split at h
    · rename_i hw
      injection h with h
      unfold edge
      rw [hd]
      show callB ⟨d.op, d.n, d.k⟩ u = true
      unfold callB
      rw [Bool.or_eq_true]
      left
      unfold ownCall
      simp [(wrapN_call hw).1, h]
    · cases h
  · cases h
/-- Where the rounds end: at no wrapper, reached by calls. -/
theorem tgt_end {ds : List De} (hv : libOk ds = true) {S : Nat → Bool} : ∀ (f : Nat) (v : Nat) (y : Int), Rch S (edge ds) v → v < 8 → tgtW ds f (v : Int) = some y → nxtW ds y = none ∧ ∃ u : Nat, y = (u : Int) ∧ u < 8 ∧ Rch S (edge ds) u
  | 0, _, _, _, _, h => by cases h
  | f + 1, v, y, hr, h8, h => by
    cases hn : nxtW ds (v : Int) with
    | none =>
      rw [tgtW_none hn] at h
      cases h
      exact ⟨hn, v, rfl, h8, hr⟩
    | some z =>
      rw [tgtW_some hn] at h
      obtain ⟨u, rfl, hu8, he⟩ := nxt_edge hv hn
      exact tgt_end hv f u y (.step hr he) hu8 h
/-- What is said of a target. -/
theorem target_is {ds : List De} {x y : Int} (h : resW x ds = some y) : isWrapB x ds = true ∧ isWrapB y ds = false ∧ ∃ d, ds[plc x ds]? = some d ∧ plc x ds < ds.length ∧ smallOk d.k 14 80 = true ∧ decide (y ∈ fromL ds d.op d.n d.k) = true := by
  unfold resW at h
  split at h
  · rename_i hw
    have hw2 := hw
    unfold isWrapB at hw2
    rw [Bool.and_eq_true] at hw2
    obtain ⟨hv, hwa⟩ := hw2
    unfold wrapAt at hwa
    split at hwa
    · rename_i d hd
      have hp : plc x ds < ds.length := Nat.lt_of_not_le fun hn => by rw [(plc_fnd x ds).2 (by omega)] at hd; cases hd
      obtain ⟨d9, h2, hd9⟩ := (plc_fnd x ds).1 hp
      rw [hd] at hd9
      cases hd9
      obtain ⟨h0, h8⟩ := inVar_true (libOk_inVar hv hd)
      obtain ⟨v, rfl⟩ := Int.eq_ofNat_of_zero_le h0
      have hnx : nxtW ds (v : Int) = some d.n := by rw [nxtW_is d hd, if_pos hwa]
      obtain ⟨u, hu, hu8, he⟩ := nxt_edge hv hnx
      have hcb : callB ⟨d.op, d.n, d.k⟩ u = true := by unfold edge at he; rw [hd] at he; exact he
      rw [tgtW_some hnx, hu] at h
      obtain ⟨g1, t, rfl, ht8, hr⟩ := tgt_end hv (S := callB ⟨d.op, d.n, d.k⟩) _ u y (.base hcb) hu8 h
      have hm := fnd_mem hd
      have hf := body_fitsW hv hm.1
      refine ⟨hw, ?_, d, h2, hp, libOk_small hv d hm.1, ?_⟩
      · unfold isWrapB wrapAt
        rw [hv, Bool.true_and]
        unfold nxtW at g1
        split at g1
        · rename_i d2 hd2
          split at g1
          · cases g1
          · rename_i hw3
            (try rw [hd2])
            simpa using hw3
        · rename_i hd2
          (try rw [hd2])
          try rfl
      · rw [decide_eq_true_iff, fromL_yes hv hf]
        exact (numsUpto_iff _ 8 _).2 ⟨t, ht8, rfl, (fromS_iff hv hf t).2 hr⟩
    · cases hwa
  · cases h
set_option maxHeartbeats 2000000 in
theorem law_NWrapperTarget (bs : List Nat) (A : Option Addr) (c : Nat) (w : World) (hl : LiesY w 0 w.heap.size A bs) (hlc : bs.length ≤ c) (hc : c ≤ maxLen) :
    Calls Tryz.prog 3 #[.slice A bs.length c] w (Gives (.bool true) w) := by
  have HC := Lib.hid (drawWT_any A c bs w hl hlc hc)
  unfold maxLen at hc
  by_cases hsz : bs.length ≤ 1048576
  rotate_left
  · have hgt : 1048576 < bs.length := by omega
    clear hl
    go_enter Tryz.func3, Tryz.ntmps3
    go_wp2_with fail
    go_ret
    exact ⟨rfl, Below.refl _ _⟩
  clear hl
  go_enter Tryz.func3, Tryz.ntmps3
  go_wp2_with fail
  refine HC.out.mono ?_
  rintro e w1 ⟨ds, X, cx, x, rfl, ⟨h1, h2, h3, h4, h5⟩, hxi, hb1⟩
  have FE := Lib.hid (show ∀ U, Below w1.heap.size w1 U → LiesD U 0 w1.heap.size X ds ∧ w1.heap.size ≤ U.heap.size ∧ Below w.heap.size w U from fun U hU => ⟨(h1.below hU).mono_ (Nat.zero_le _) (Nat.le_refl _), hU.size, hb1.trans (hU.mono hb1.size)⟩)
  have hdz : sizeD ds ≤ 1048576 := by omega
  have HIW := Lib.hid (show ∀ U, Below w1.heap.size w1 U → ∀ z, Calls Tryz.prog 8 #[.slice X ds.length cx, .int .i64 z] U (Gives (.bool (isWrapB z ds)) U) from fun U hU z =>
    implIsWrap_r ds X cx 0 w1.heap.size U z (FE.out U hU).1 (FE.out U hU).2.1 hdz)
  have HI := Lib.hid (show ∀ U, Below w1.heap.size w1 U → Calls Tryz.prog 5 #[.slice X ds.length cx, .int .i64 x] U (Gives (.tuple #[.int .i64 ((resW x ds).getD 0), .bool (resW x ds).isSome]) U) from fun U hU =>
    implWrapT_r ds X cx 0 w1.heap.size U x (FE.out U hU).1 (FE.out U hU).2.1 hdz)
  have HS := Lib.hid (show ∀ U, Below w1.heap.size w1 U → Calls Tryz.prog 6 #[.slice X ds.length cx, .int .i64 x] U (Gives (.tuple #[.int .i64 ((resW x ds).getD 0), .bool (resW x ds).isSome]) U) from fun U hU =>
    specWrapT_v ds X cx U x ((FE.out U hU).1.mono_ (Nat.le_refl _) (FE.out U hU).2.1) hdz)
  have HF := Lib.hid (show ∀ U, Below w1.heap.size w1 U → Calls Tryz.prog 7 #[.slice X ds.length cx, .int .i64 x] U (FindPost x ds U) from fun U hU =>
    implFind_any ds X cx U x ((FE.out U hU).1.mono_ (Nat.le_refl _) (FE.out U hU).2.1) (by omega))
  clear h1 hb1 HC
  cases hr : resW x ds with
  | none =>
    rw [hr] at HI HS
    have HI2 := Lib.hid (show ∀ U, Below w1.heap.size w1 U → Calls Tryz.prog 5 #[.slice X ds.length cx, .int .i64 x] U (Gives (.tuple #[.int .i64 0, .bool false]) U) from HI.out)
    have HS2 := Lib.hid (show ∀ U, Below w1.heap.size w1 U → Calls Tryz.prog 6 #[.slice X ds.length cx, .int .i64 x] U (Gives (.tuple #[.int .i64 0, .bool false]) U) from HS.out)
    clear HI HS hr HF HIW
    go_wp2_with fail
    refine (HI2.out w1 (Below.refl _ _)).mono ?_
    rintro e w2 ⟨rfl, hb2⟩
    have HB2 := Lib.hid hb2
    clear hb2
    go_wp2_with fail
    refine (HS2.out w2 HB2.out).mono ?_
    rintro e w3 ⟨rfl, hb3⟩
    have HB3 := Lib.hid (HB2.out.trans (hb3.mono HB2.out.size))
    have HBW := Lib.hid (FE.out w3 HB3.out).2.2
    clear hb3
    go_wp2_with fail
    go_ret
    exact ⟨by simp, HBW.out⟩
  | some y =>
    obtain ⟨i1, i2, d, hd, hp, hsm, hm⟩ := target_is hr
    rw [hr] at HI HS
    have HI2 := Lib.hid (show ∀ U, Below w1.heap.size w1 U → Calls Tryz.prog 5 #[.slice X ds.length cx, .int .i64 x] U (Gives (.tuple #[.int .i64 y, .bool true]) U) from HI.out)
    have HS2 := Lib.hid (show ∀ U, Below w1.heap.size w1 U → Calls Tryz.prog 6 #[.slice X ds.length cx, .int .i64 x] U (Gives (.tuple #[.int .i64 y, .bool true]) U) from HS.out)
    have HW1 := Lib.hid (show ∀ U, Below w1.heap.size w1 U → Calls Tryz.prog 8 #[.slice X ds.length cx, .int .i64 x] U (Gives (.bool true) U) from fun U hU => i1 ▸ HIW.out U hU x)
    have HW2 := Lib.hid (show ∀ U, Below w1.heap.size w1 U → Calls Tryz.prog 8 #[.slice X ds.length cx, .int .i64 y] U (Gives (.bool false) U) from fun U hU => i2 ▸ HIW.out U hU y)
    unfold FindPost at HF
    rw [if_pos hp, decide_eq_true hp] at HF
    have HD := Lib.hid hd
    have HSM := Lib.hid hsm
    have HM := Lib.hid hm
    clear HI HS hr HIW i1 i2 hd hsm hm
    generalize plc x ds = p at HF HD hp
    have hpi : (p : Int) < (ds.length : Int) := by omega
    have y1 : (y != y) = false := by simp
    have y2 : (y == y) = true := by simp
    go_wp2_with fail
    refine (HI2.out w1 (Below.refl _ _)).mono ?_
    rintro e w2 ⟨rfl, hb2⟩
    have HB2 := Lib.hid hb2
    clear hb2
    go_wp2_with fail
    refine (HS2.out w2 HB2.out).mono ?_
    rintro e w3 ⟨rfl, hb3⟩
    have HB3 := Lib.hid (HB2.out.trans (hb3.mono HB2.out.size))
    clear hb3
    go_wp2_with fail
    refine (HF.out w3 HB3.out).mono ?_
    rintro e w4 ⟨rfl, hb4⟩
    have HB4 := Lib.hid (HB3.out.trans (hb4.mono HB3.out.size))
    clear hb4
    go_wp2_with fail
    refine (HW1.out w4 HB4.out).mono ?_
    rintro e w5 ⟨rfl, hb5⟩
    have HB5 := Lib.hid (HB4.out.trans (hb5.mono HB4.out.size))
    clear hb5
    go_wp2_with fail
    refine (HW2.out w5 HB5.out).mono ?_
    rintro e w6 ⟨rfl, hb6⟩
    have HB6 := Lib.hid (HB5.out.trans (hb6.mono HB5.out.size))
    clear hb6 HI2 HS2 HF HW1 HW2
    obtain ⟨hLD, hLZ, hBW⟩ := FE.out w6 HB6.out
    have hLD' := hLD
    obtain ⟨b, o, A', c', hX, hbb, hbw, hf, g0, g1, gg, g3, g4, g5, h7, h8, h9⟩ := hLD p d HD.out
    have hs80 := small_le80 HSM.out
    have HFR := Lib.hid (implFrom_r ds X cx d.op d.n d.k A' c' 0 w1.heap.size 0 w1.heap.size w6 hLD' hLZ h9 hLZ hdz h7 h8 (by omega))
    have HBW := Lib.hid hBW
    have HFL := Lib.hid (fromL_len ds d.op d.n d.k)
    have HZI := Lib.hid (show ∀ x ∈ fromL ds d.op d.n d.k, I64 x from fun x hx => fromL_small x hx)
    generalize fromL ds d.op d.n d.k = zs at HFR HFL HZI HM
    subst hX
    clear hLD hLD' hLZ hBW hbb hf g0 g1 gg h9 HSM
    go_wp2_with fail
    refine HFR.out.mono ?_
    rintro e w7 ⟨vo, rfl, ho7, hb7⟩
    obtain ⟨A7, c7, rfl, hI7⟩ := own_ints ho7 HZI.out
    have HB7 := Lib.hid hb7
    have HI7 := Lib.hid (show LiesI w7 0 w7.heap.size A7 zs from hI7.mono_ (Nat.zero_le _) (Nat.le_refl _))
    have HBX := Lib.hid (HBW.out.trans (hb7.mono HBW.out.size))
    clear hb7 ho7 hI7 HFR g3 g4 g5
    go_wp2_with fail
    refine (amIn_any zs A7 c7 y w7 HI7.out (by have := HFL.out; omega)).mono ?_
    rintro e w8 ⟨rfl, hb8⟩
    rw [HM.out]
    have HBY := Lib.hid (HBX.out.trans (hb8.mono HBX.out.size))
    clear hb8
    go_wp2_with fail
    go_ret
    exact ⟨by simp, HBY.out⟩
end Go.Proofs.YtnlpcfcoipnnaabGreat
