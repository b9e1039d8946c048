/-
  The walk of the law FnEndingFuns: true at every input (made by gen_nef.py).
-/
import Derived.Test.YtiifgkommaeklaaGreatMutLib
import Derived.Test.YtiifgkommaeklaaGreatQuietI
import Derived.Test.YtiifgkommaeklaaGreatQuietE
import Derived.Test.YtiifgkommaeklaaGreatFromIR
import Derived.Test.YtiifgkommaeklaaGreatAm
import Derived.Test.YtiifgkommaeklaaGreatFind
import Derived.Test.YtiifgkommaeklaaGreatTreeP
import Derived.Test.YtiifgkommaeklaaGreatTake
namespace Go.Proofs.YtiifgkommaeklaaGreat
open Go.RowKit Go.Shelf
set_option maxRecDepth 100000

set_option maxHeartbeats 1000000 in
theorem drawEF_any (A : Option Addr) (bc : Nat) (bs : List Nat) (w : World) (hB : LiesY w 0 w.heap.size A bs) (hl : bs.length ≤ bc) (hc : bc ≤ maxLen) :
    Calls Tryz.prog 4 #[.slice A bs.length bc] w (LibPost w) := by
  have HC := Lib.hid (drawLV_any A bc bs w hB hl hc)
  clear hB
  go_enter Tryz.func4, Tryz.ntmps4
  go_wp2_with fail
  refine HC.out.mono ?_
  rintro e w1 ⟨ds, X, c, rfl, hd, hb⟩
  have HD := Lib.hid (And.intro hd hb)
  clear hd hb
  go_wp2
  go_ret
  exact ⟨ds, X, c, rfl, HD.out.1, HD.out.2⟩

theorem end_mem {ds : List De} {x : Int} (hv : libOk ds = true) : x ∈ funsP (endingS ds) ds ↔ ∃ d ∈ ds, d.nm = x ∧ endingS ds x = true := by
  rw [funsP_yes hv, List.mem_filter]
  unfold namesD
  rw [List.mem_map]
  constructor
  · rintro ⟨⟨d, hd, rfl⟩, h⟩
    exact ⟨d, hd, rfl, h⟩
  · rintro ⟨d, hd, rfl, h⟩
    exact ⟨⟨d, hd, rfl⟩, h⟩
/-- An ending function is found, is not called from itself, and those that it calls are ending. -/
theorem end_in {ds : List De} {x : Int} (hx : x ∈ funsP (endingS ds) ds) : ∃ (p : Nat) (d : De), plc x ds = p ∧ p < ds.length ∧ ds[p]? = some d ∧ smallOk d.k 14 80 = true ∧ (∀ y, y ∈ numsUpto (callB ⟨d.op, d.n, d.k⟩) 8 → y ∈ funsP (endingS ds) ds) ∧ decide (x ∈ fromL ds d.op d.n d.k) = false := by
  cases hv : libOk ds with
  | false => rw [funsP_no hv] at hx; simp at hx
  | true =>
    obtain ⟨d0, hd0, hn0, he⟩ := (end_mem hv).1 hx
    obtain ⟨hin, hfn⟩ := libOk_named hv d0 hd0
    rw [hn0] at hin hfn
    have hp : plc x ds < ds.length := Nat.lt_of_not_le fun hn => by rw [(plc_fnd x ds).2 (by omega)] at hfn; cases hfn
    obtain ⟨d9, h2, hd9⟩ := (plc_fnd x ds).1 hp
    rw [hfn] at hd9
    cases hd9
    obtain ⟨v, rfl⟩ := Int.eq_ofNat_of_zero_le (inVar_true hin).1
    have he2 := he
    rw [← hn0] at he2
    have hE := (ending_iff hv hd0).1 he2
    rw [hn0, Int.toNat_natCast] at hE
    refine ⟨_, d0, rfl, hp, h2, libOk_small hv d0 hd0, fun y hy => ?_, ?_⟩
    · obtain ⟨u, hu8, rfl, hc⟩ := numsUpto_mem 8 y hy
      have hed : edge ds v u = true := by unfold edge; rw [hfn]; exact hc
      have hEu := hE.call hed
      obtain ⟨a, ha⟩ := fitN_calls (libOk_body hv d0 hd0) hc
      unfold ariS at ha
      rw [Option.map_eq_some_iff] at ha
      obtain ⟨d1, hd1, _⟩ := ha
      have hm := fnd_mem hd1
      refine (end_mem hv).2 ⟨d1, hm.1, hm.2, ?_⟩
      have h5 := (ending_iff hv hm.1).2 (by rw [hm.2, Int.toNat_natCast]; exact hEu)
      rw [hm.2] at h5
      exact h5
    · rw [decide_eq_false_iff_not]
      intro hf
      cases h6 : libOk ds && callsFitB ds d0.op d0.n d0.k with
      | false => rw [fromL_no h6] at hf; simp at hf
      | true =>
        rw [Bool.and_eq_true] at h6
        rw [fromL_yes hv h6.2] at hf
        obtain ⟨u, _, hu, hs⟩ := numsUpto_mem 8 _ hf
        have huv : u = v := by omega
        subst huv
        have hr := (fromS_iff hv h6.2 u).1 hs
        obtain ⟨c0, hc0, hrc⟩ := set_split hr
        exact hE u (rch_just u) c0 (by unfold edge; rw [hfn]; exact hc0) hrc

set_option maxHeartbeats 4000000 in
theorem law_NEndingFuns (bs : List Nat) (A : Option Addr) (c : Nat) (w : World) (hl : LiesY w 0 w.heap.size A bs) (hlc : bs.length ≤ c) (hc : c ≤ maxLen) :
    Calls Tryz.prog 3 #[.slice A bs.length c] w (Gives (.bool true) w) := by
  have HC := Lib.hid (drawEF_any A c bs w hl hlc hc)
  unfold maxLen at hc
  by_cases hsz : bs.length ≤ 1048576
  rotate_left
  · have hgt : 1048576 < bs.length := by omega
    clear hl
    go_enter Tryz.func3, Tryz.ntmps3
    go_wp2_with fail
    go_ret
    exact ⟨rfl, Below.refl _ _⟩
  clear hl
  go_enter Tryz.func3, Tryz.ntmps3
  go_wp2_with fail
  refine HC.out.mono ?_
  rintro e w1 ⟨ds, X, cx, rfl, ⟨hL, hc1, hc2, hn, hs9⟩, hb1⟩
  have hs : sizeD ds ≤ 1048576 := by omega
  have hL0 : LiesD w1 0 w1.heap.size X ds := hL.mono_ (Nat.zero_le _) (Nat.le_refl _)
  have HK := Lib.hid (show ∀ V, Below w1.heap.size w1 V → LiesD V 0 w1.heap.size X ds ∧ w1.heap.size ≤ V.heap.size ∧ Below w.heap.size w V from fun V hV =>
    ⟨hL0.below hV, hV.size, hb1.trans (hV.mono hb1.size)⟩)
  clear hL hL0 hb1 HC hs9
  obtain ⟨zs, hzs⟩ : ∃ z, z = funsP (endingS ds) ds := ⟨_, rfl⟩
  have hzi : ∀ x ∈ zs, I64 x := by rw [hzs]; exact fun x hx => funsP_small x hx
  have hzl : zs.length ≤ 8 := by rw [hzs]; exact funsP_len _ ds
  have HZS := Lib.hid hzs
  have HZI := Lib.hid hzi
  clear hzs hzi
  go_wp2_with fail
  refine (implEndingFuns_r ds X cx 0 w1.heap.size w1 (HK.out w1 (Below.refl _ _)).1 (Nat.le_refl _) hs).mono ?_
  rintro e w2 ⟨vo, rfl, ho2, hb2⟩
  rw [← HZS.out] at ho2
  obtain ⟨A2, c2, rfl, hI2⟩ := own_ints ho2 HZI.out
  have HB2 := Lib.hid hb2
  have HI := Lib.hid (show ∀ V, Below w2.heap.size w2 V → LiesI V 0 V.heap.size A2 zs from fun V hV => (hI2.mono_ (Nat.zero_le _) (Nat.le_refl _)).up hV)
  clear hb2 ho2 hI2
  go_wp2_with fail
  refine (specEndingFuns_any ds X cx w2 ((HK.out w2 HB2.out).1.mono_ (Nat.le_refl _) HB2.out.size) hs).mono ?_
  rintro e w3 ⟨vo, rfl, ho3, hb3⟩
  rw [← HZS.out] at ho3
  obtain ⟨A3, c3, rfl, hI3⟩ := own_ints ho3 HZI.out
  have HJ3 := Lib.hid (show LiesI w3 0 w3.heap.size A3 zs from hI3.mono_ (Nat.zero_le _) (Nat.le_refl _))
  have HB3 := Lib.hid (HB2.out.trans (hb3.mono HB2.out.size))
  have HD3 := Lib.hid hb3
  clear hb3 ho3 hI3
  go_wp2_with fail
  refine (amInts_any zs zs A2 A3 c2 c3 w3 (HI.out w3 HD3.out) HJ3.out (by omega) (by omega)).mono ?_
  rintro e w4 ⟨rfl, hb4⟩
  rw [show decide (zs = zs) = true by simp]
  have HB4 := Lib.hid (HB3.out.trans (hb4.mono HB3.out.size))
  have HD4 := Lib.hid (HD3.out.trans (hb4.mono HD3.out.size))
  clear hb4 HJ3 HB3 HD3
  have HFI := Lib.hid (show ∀ x ∈ zs, ∃ (p : Nat) (d : De), plc x ds = p ∧ p < ds.length ∧ ds[p]? = some d ∧ smallOk d.k 14 80 = true ∧ (∀ y, y ∈ numsUpto (callB ⟨d.op, d.n, d.k⟩) 8 → y ∈ zs) ∧ decide (x ∈ fromL ds d.op d.n d.k) = false by rw [HZS.out]; exact fun x hx => end_in hx)
  clear HZS HZI
  go_wp2_with fail
  go_loopw [5] (fun i wr => ∃ (j : Nat), j ≤ zs.length ∧ i = .int .i64 (j : Int) ∧ Below w4.heap.size w4 wr)
    (fun i _ => zs.length - (intOf i).toNat)
  case atStart => exact ⟨0, by omega, rfl, Below.refl _ _⟩
  case round =>
    obtain ⟨wo, hwo⟩ : ∃ wo, wo = wr := ⟨_, rfl⟩
    rw [← hwo] at hrel ⊢
    clear hwo
    obtain ⟨j, hj, rfl, hbr⟩ := hrel
    by_cases hlt : j < zs.length
    · obtain ⟨x, hx⟩ : ∃ x, zs[j]? = some x := ⟨_, List.getElem?_eq_getElem hlt⟩
      obtain ⟨p, d, hp1, hp2, hp3, hp4, hp5, hp6⟩ := HFI.out x (List.mem_of_getElem? hx)
      have HIN := Lib.hid hp5
      have HSM := Lib.hid hp4
      have hD := HD4.out.trans (hbr.mono HD4.out.size)
      obtain ⟨b2, o2, hA2, _, hbb2, hxi, g2⟩ := (HI.out wo hD) j x hx
      have HA2 := Lib.hid hA2
      have hLD := (HK.out wo (HB4.out.trans (hbr.mono HB4.out.size))).1
      have hLZ := (HK.out wo (HB4.out.trans (hbr.mono HB4.out.size))).2.1
      have HP := Lib.hid (implFind_any ds X cx wo x (hLD.mono_ (Nat.le_refl _) hLZ) (by omega))
      unfold FindPost at HP
      rw [hp1, if_pos hp2, decide_eq_true hp2] at HP
      obtain ⟨b, o, A', c', hX, hbb, hbw, hf, g0, g1, gg, g3, g4, g5, h7, h8, h9⟩ := hLD p d hp3
      have hs80 := small_le80 hp4
      have HG := Lib.hid (show ∀ V, Below wo.heap.size wo V → V.cell? ⟨b, o + p * 6 + 3, none⟩ = some (.int .i64 d.op) ∧ V.cell? ⟨b, o + p * 6 + 4, none⟩ = some (.int .i64 d.n) ∧ V.cell? ⟨b, o + p * 6 + 5, none⟩ = some (.slice A' d.k.len c') ∧ Lies V 0 w1.heap.size A' 0 d.k from fun V hV =>
        ⟨(hV.cell (p := ⟨b, o + p * 6 + 3, none⟩) (Nat.lt_of_lt_of_le hbw hLZ)).trans g3, (hV.cell (p := ⟨b, o + p * 6 + 4, none⟩) (Nat.lt_of_lt_of_le hbw hLZ)).trans g4, (hV.cell (p := ⟨b, o + p * 6 + 5, none⟩) (Nat.lt_of_lt_of_le hbw hLZ)).trans g5, h9.below (hV.mono hLZ)⟩)
      have hji : (j : Int) < (zs.length : Int) := by omega
      have hpi : (p : Int) < (ds.length : Int) := by omega
      have HBR := Lib.hid hbr
      have HLZ := Lib.hid hLZ
      have hA2' := HA2.out
      subst hA2' hX
      obtain ⟨fl, hfl⟩ : ∃ fl, fl = fromL ds d.op d.n d.k := ⟨_, rfl⟩
      have hfll : fl.length ≤ 8 := by rw [hfl]; exact fromL_len _ _ _ _
      have HFLI := Lib.hid (show ∀ x ∈ fl, I64 x by rw [hfl]; exact fun x hx => fromL_small x hx)
      have HNO := Lib.hid (show decide (x ∈ fl) = false by rw [hfl]; exact hp6)
      have HFL := Lib.hid hfl
      have HCF := Lib.hid (show ∀ V, Below wo.heap.size wo V → Calls Tryz.prog 10 #[.slice (some ⟨b, o, none⟩) ds.length cx, .agg #[.int .i64 d.op, .int .i64 d.n, .slice A' d.k.len c']] V (ListPost (fromL ds d.op d.n d.k) V) from fun V hV =>
        implFrom_r ds _ cx d.op d.n d.k A' c' 0 w1.heap.size 0 w1.heap.size V (hLD.below (hV.mono hLZ)) (Nat.le_trans hLZ hV.size) (HG.out V hV).2.2.2 (Nat.le_trans hLZ hV.size) hs h7 h8 (by omega))
      have HG4 := Lib.hid (show ∀ V, Below wo.heap.size wo V → V.cell? ⟨b, o + p * 6 + 3, none⟩ = some (.int .i64 d.op) ∧ V.cell? ⟨b, o + p * 6 + 4, none⟩ = some (.int .i64 d.n) ∧ V.cell? ⟨b, o + p * 6 + 5, none⟩ = some (.slice A' d.k.len c') ∧ V.cell? ⟨b2, o2 + j, none⟩ = some (.int .i64 x) from fun V hV =>
        ⟨(HG.out V hV).1, (HG.out V hV).2.1, (HG.out V hV).2.2.1, (hV.cell (p := ⟨b2, o2 + j, none⟩) hbb2).trans g2⟩)
      clear hfl
      clear hx hp1 hp3 hp4 hp5 hp6 hD hf g0 g1 gg g3 g4 g5 h9 hbr hLZ HA2 hLD
      go_wp2_with fail
      refine HP.out.mono ?_
      rintro e w5 ⟨rfl, hb5⟩
      have HB5 := Lib.hid (show Below wo.heap.size wo w5.drew from hb5.drew)
      have st0 := HG4.out _ HB5.out
      clear hb5 HP g2
      go_wp2_with fail
      refine wp_region_held_drew (S := fun w' => w'.cell? ⟨b, o + p * 6 + 3, none⟩ = some (.int .i64 d.op) ∧ w'.cell? ⟨b, o + p * 6 + 4, none⟩ = some (.int .i64 d.n) ∧ w'.cell? ⟨b, o + p * 6 + 5, none⟩ = some (.slice A' d.k.len c') ∧ w'.cell? ⟨b2, o2 + j, none⟩ = some (.int .i64 x)) (by kernel_rfl) st0 (fun hHeld => ?_)
      refine takeW 0 (v := ?vx1_0) rfl (by kernel_rfl) (fun _ _ _ h => h) (by rfl) (by assumption) ?yx1_0 ?rx1_0
      case yx1_0 => (intro w' hSw; (try dsimp only at hSw); go_simp; try with_reducible rfl)
      try simp only [Act.put, List.setIfInBounds_toArray, List.set_cons_zero, List.set_cons_succ, List.getElem_toArray, List.getElem_cons_zero]
      refine takeW 1 (v := ?vx1_1) rfl (by kernel_rfl) (fun _ _ _ h => h) (by rfl) (by assumption) ?yx1_1 ?rx1_1
      case yx1_1 => (intro w' hSw; (try dsimp only at hSw); go_simp; try with_reducible rfl)
      try simp only [Act.put, List.setIfInBounds_toArray, List.set_cons_zero, List.set_cons_succ, List.getElem_toArray, List.getElem_cons_succ, List.getElem_cons_zero]
      refine takeW 2 (v := ?vx1_2) rfl (by kernel_rfl) (fun _ _ _ h => h) (by rfl) (by assumption) ?yx1_2 ?rx1_2
      case yx1_2 => (intro w' hSw; (try dsimp only at hSw); go_simp; try with_reducible rfl)
      try simp only [Act.put, List.setIfInBounds_toArray, List.set_cons_zero, List.set_cons_succ, List.getElem_toArray, List.getElem_cons_succ, List.getElem_cons_zero]
      refine takeW 3 (v := ?vx1_3) rfl (by kernel_rfl) (fun _ _ _ h => h) (by rfl) (by assumption) ?yx1_3 ?rx1_3
      case yx1_3 => (intro w' hSw; (try dsimp only at hSw); go_simp; try with_reducible rfl)
      try simp only [Act.put, List.setIfInBounds_toArray, List.set_cons_zero, List.set_cons_succ, List.getElem_toArray, List.getElem_cons_succ, List.getElem_cons_zero]
      refine takeW 4 (v := ?vx1_4) rfl (by kernel_rfl) (fun _ _ _ h => h) (by rfl) (by assumption) ?yx1_4 ?rx1_4
      case yx1_4 => (intro w' hSw; (try dsimp only at hSw); go_simp; try with_reducible rfl)
      try simp only [Act.put, List.setIfInBounds_toArray, List.set_cons_zero, List.set_cons_succ, List.getElem_toArray, List.getElem_cons_succ, List.getElem_cons_zero]
      refine takeW 5 (v := ?vx1_5) rfl (by kernel_rfl) (fun _ _ _ h => h) (by rfl) (by assumption) ?yx1_5 ?rx1_5
      case yx1_5 => (intro w' hSw; (try dsimp only at hSw); go_simp; try with_reducible rfl)
      try simp only [Act.put, List.setIfInBounds_toArray, List.set_cons_zero, List.set_cons_succ, List.getElem_toArray, List.getElem_cons_succ, List.getElem_cons_zero]
      refine takeW 6 (v := ?vx1_6) rfl (by kernel_rfl) (fun _ _ _ h => h) (by rfl) (by assumption) ?yx1_6 ?rx1_6
      case yx1_6 => (intro w' hSw; (try dsimp only at hSw); go_simp; try with_reducible rfl)
      try simp only [Act.put, List.setIfInBounds_toArray, List.set_cons_zero, List.set_cons_succ, List.getElem_toArray, List.getElem_cons_succ, List.getElem_cons_zero]
      refine takeW 7 (v := ?vx1_7) rfl (by kernel_rfl) (fun _ _ _ h => h) (by rfl) (by assumption) ?yx1_7 ?rx1_7
      case yx1_7 => (intro w' hSw; (try dsimp only at hSw); go_simp; try with_reducible rfl)
      try simp only [Act.put, List.setIfInBounds_toArray, List.set_cons_zero, List.set_cons_succ, List.getElem_toArray, List.getElem_cons_succ, List.getElem_cons_zero]
      refine takeW 8 (v := ?vx1_8) rfl (by kernel_rfl) (fun _ _ _ h => h) (by rfl) (by assumption) ?yx1_8 ?rx1_8
      case yx1_8 => (intro w' hSw; (try dsimp only at hSw); go_simp; try with_reducible rfl)
      try simp only [Act.put, List.setIfInBounds_toArray, List.set_cons_zero, List.set_cons_succ, List.getElem_toArray, List.getElem_cons_succ, List.getElem_cons_zero]
      refine takeW 10 (v := ?vx1_10) rfl (by kernel_rfl) (fun _ _ _ h => h) (by rfl) (by assumption) ?yx1_10 ?rx1_10
      case yx1_10 => (intro w' hSw; (try dsimp only at hSw); go_simp; try with_reducible rfl)
      try simp only [Act.put, List.setIfInBounds_toArray, List.set_cons_zero, List.set_cons_succ, List.getElem_toArray, List.getElem_cons_succ, List.getElem_cons_zero]
      refine takeW 11 (v := ?vx1_11) rfl (by kernel_rfl) (fun _ _ _ h => h) (by rfl) (by assumption) ?yx1_11 ?rx1_11
      case yx1_11 => (intro w' hSw; (try dsimp only at hSw); go_simp; try with_reducible rfl)
      try simp only [Act.put, List.setIfInBounds_toArray, List.set_cons_zero, List.set_cons_succ, List.getElem_toArray, List.getElem_cons_succ, List.getElem_cons_zero]
      refine takeW 12 (v := ?vx1_12) rfl (by kernel_rfl) (fun _ _ _ h => h) (by rfl) (by assumption) ?yx1_12 ?rx1_12
      case yx1_12 => (intro w' hSw; (try dsimp only at hSw); go_simp; try with_reducible rfl)
      try simp only [Act.put, List.setIfInBounds_toArray, List.set_cons_zero, List.set_cons_succ, List.getElem_toArray, List.getElem_cons_succ, List.getElem_cons_zero]
      refine takeW 13 (v := ?vx1_13) rfl (by kernel_rfl) (fun _ _ _ h => h) (by rfl) (by assumption) ?yx1_13 ?rx1_13
      case yx1_13 => (intro w' hSw; (try dsimp only at hSw); go_simp; try with_reducible rfl)
      try simp only [Act.put, List.setIfInBounds_toArray, List.set_cons_zero, List.set_cons_succ, List.getElem_toArray, List.getElem_cons_succ, List.getElem_cons_zero]
      refine wpAnyH_ready (rs := [9]) (by kernel_rfl) (by simp) ?_
      refine AllReadyH.cons rfl (fun K hK => ?_) AllReadyH.nil
      go_simp
      with_reducible refine (HCF.out _ HB5.out).mono ?_
      rintro e w7 ⟨vf, rfl, hof, hb7⟩
      rw [← HFL.out] at hof
      obtain ⟨A7, c7, rfl, hI7⟩ := own_ints hof HFLI.out
      have HI7 := Lib.hid (show LiesI w7 0 w7.heap.size A7 fl from hI7.mono_ (Nat.zero_le _) (Nat.le_refl _))
      have HB7 := Lib.hid (HB5.out.trans (hb7.mono HB5.out.size))
      have st1 := HG4.out _ HB7.out
      clear hb7 hof hI7
      refine hK.out _ _ (st1) (fun hHeldB1 => ?_)
      clear hK K
      try simp only [Act.put, List.setIfInBounds_toArray, List.set_cons_zero, List.set_cons_succ, List.getElem_toArray, List.getElem_cons_succ, List.getElem_cons_zero]
      refine wpAnyH_ready (rs := [14]) (by kernel_rfl) (by simp) ?_
      refine AllReadyH.cons rfl (fun K hK => ?_) AllReadyH.nil
      go_simp
      with_reducible refine (amIn_any fl A7 c7 x w7 HI7.out (by omega)).mono ?_
      rintro e w8 ⟨rfl, hb8⟩
      rw [HNO.out]
      have HB8 := Lib.hid (HB7.out.trans (hb8.mono HB7.out.size))
      have st2 := HG4.out _ HB8.out
      clear hb8
      refine hK.out _ _ (st2) (fun hHeldB2 => ?_)
      clear hK K
      try simp only [Act.put, List.setIfInBounds_toArray, List.set_cons_zero, List.set_cons_succ, List.getElem_toArray, List.getElem_cons_succ, List.getElem_cons_zero]
      refine takeW 15 (v := ?vx3_15) rfl (by kernel_rfl) (fun _ _ _ h => h) (by rfl) (by assumption) ?yx3_15 ?rx3_15
      case yx3_15 => (intro w' hSw; (try dsimp only at hSw); go_simp; try with_reducible rfl)
      try simp only [Act.put, List.setIfInBounds_toArray, List.set_cons_zero, List.set_cons_succ, List.getElem_toArray, List.getElem_cons_succ, List.getElem_cons_zero]
      refine wpAnyH_done (by kernel_rfl) ?_ _
      clear st0 st1 st2
      obtain ⟨s3, s4, s5, hkl9⟩ := HG.out w8 HB8.out
      have HKL := Lib.hid hkl9
      clear hkl9
      go_wp2_with fail
      refine (implCalls_r d.op d.n d.k A' c' 0 w1.heap.size w8 HKL.out (Nat.le_trans HLZ.out HB8.out.size) (RowsIf.small HSM.out) h7 h8 (by omega)).mono ?_
      rintro e w6 ⟨vc, rfl, ho6, hb6⟩
      obtain ⟨cl, hcl⟩ : ∃ cl, cl = numsUpto (callB ⟨d.op, d.n, d.k⟩) 8 := ⟨_, rfl⟩
      have hcli : ∀ x ∈ cl, I64 x := fun x hx => numsUpto_small _ 8 x (Nat.le_refl _) (hcl ▸ hx)
      have hcll : cl.length ≤ 8 := by rw [hcl]; exact numsUpto_len _ 8
      rw [← hcl] at ho6 HIN
      obtain ⟨A6, c6, rfl, hI6⟩ := own_ints ho6 hcli
      have HI6 := Lib.hid (show LiesI w6 0 w6.heap.size A6 cl from hI6.mono_ (Nat.zero_le _) (Nat.le_refl _))
      have HB6 := Lib.hid (show Below w4.heap.size w4 w6 from HBR.out.trans ((HB8.out.trans (hb6.mono HB8.out.size)).mono HBR.out.size))
      have HD6 := Lib.hid (HD4.out.trans (HB6.out.mono HD4.out.size))
      clear s3 s4 s5 hb6 ho6 hI6 hcl hcli HB5 HBR HG HKL HG4 HCF
      go_wp2_with fail
      go_loopw [9] (fun i wr => ∃ (j : Nat), j ≤ cl.length ∧ i = .int .i64 (j : Int) ∧ Below w6.heap.size w6 wr)
        (fun i _ => cl.length - (intOf i).toNat)
      case atStart => exact ⟨0, by omega, rfl, Below.refl _ _⟩
      case round =>
        obtain ⟨woi, hwoi⟩ : ∃ wo, wo = wr := ⟨_, rfl⟩
        rw [← hwoi] at hrel ⊢
        clear hwoi
        obtain ⟨ji, hji, rfl, hbri⟩ := hrel
        by_cases hlti : ji < cl.length
        · obtain ⟨xi, hxi⟩ : ∃ x, cl[ji]? = some x := ⟨_, List.getElem?_eq_getElem hlti⟩
          have HXMi := Lib.hid (HIN.out xi (List.mem_of_getElem? hxi))
          obtain ⟨b4i, o4i, rfl, _, hbb4i, hxii, g4i⟩ := (HI6.out.up hbri) ji xi hxi
          have hjii : (ji : Int) < (cl.length : Int) := by omega
          have HBRi := Lib.hid hbri
          clear hxi hbri
          go_wp2_with fail
          refine (amIn_any zs _ c2 xi woi (HI.out woi (HD6.out.trans (HBRi.out.mono HD6.out.size))) (by omega)).mono ?_
          rintro e w9i ⟨rfl, hb9i⟩
          rw [show decide (xi ∈ zs) = true by simpa using HXMi.out]
          have HB9i := Lib.hid (HBRi.out.trans (hb9i.mono HBRi.out.size))
          clear hb9i g4i HBRi
          go_wp2_with fail
          go_roundw
          case rel => exact ⟨ji + 1, by omega, by go_num, HB9i.out⟩
          case measure => simp [intOf]; omega
        · have hjii : ¬ (ji : Int) < (cl.length : Int) := by omega
          have HBRi := Lib.hid hbri
          clear hbri
          go_wp2_with fail
          go_roundw
          case rel => exact ⟨j + 1, by omega, by go_num, HB6.out.trans (HBRi.out.mono HB6.out.size)⟩
          case measure => simp [intOf]; omega
    · have hji : ¬ (j : Int) < (zs.length : Int) := by omega
      have HR := Lib.hid (HK.out wo (HB4.out.trans (hbr.mono HB4.out.size))).2.2
      clear hbr
      go_wp2_with fail
      go_ret
      exact ⟨rfl, HR.out⟩
end Go.Proofs.YtiifgkommaeklaaGreat
