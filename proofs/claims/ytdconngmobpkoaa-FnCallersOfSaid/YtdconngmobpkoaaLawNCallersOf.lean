/-
  The walk of the law FnCallersOf: true at every input (made by gen_nco.py).
-/
import Derived.Test.YtdconngmobpkoaaMutLib
import Derived.Test.YtdconngmobpkoaaGraS
import Derived.Test.YtdconngmobpkoaaGraI
import Derived.Test.YtdconngmobpkoaaAm
import Derived.Test.YtdconngmobpkoaaTreeP
import Derived.Test.YtdconngmobpkoaaTake
namespace Go.Proofs.Ytdconngmobpkoaa
open Go.RowKit Go.Shelf
set_option maxRecDepth 100000

theorem callers_at {ds : List De} (h : libOk ds = true) {d : De} (hd : d ∈ ds) (x : Int) : decide (d.nm ∈ callersL ds x) = decide (x ∈ numsUpto (callB ⟨d.op, d.n, d.k⟩) 8) := by
  have h1 : decide (x ∈ numsUpto (callB ⟨d.op, d.n, d.k⟩) 8) = callI d x := callI_mem d x
  rw [h1]
  have h2 : d.nm ∈ callersL ds x ↔ callI d x = true := by
    unfold callersL
    rw [if_pos h, List.mem_map]
    constructor
    · rintro ⟨e, he, hn⟩
      obtain ⟨he1, he2⟩ := List.mem_filter.1 he
      have h3 := (libOk_named h e he1).2
      rw [hn, (libOk_named h d hd).2] at h3
      injection h3 with h3
      rw [h3]
      exact he2
    · intro hc
      exact ⟨d, List.mem_filter.2 ⟨hd, hc⟩, rfl⟩
  cases hc : callI d x with
  | true => exact decide_eq_true (h2.2 hc)
  | false => exact decide_eq_false fun hm => by rw [h2.1 hm] at hc; cases hc

set_option maxHeartbeats 1000000 in
theorem drawCallers_any (A : Option Addr) (bc : Nat) (bs : List Nat) (w : World) (hB : LiesY w 0 w.heap.size A bs) (hl : bs.length ≤ bc) (hc : bc ≤ maxLen) :
    Calls Try.prog 22 #[.slice A bs.length bc] w (FindDPost w) := by
  have HC := Lib.hid (drawFind_any A bc bs w hB hl hc)
  clear hB
  go_enter Try.func22, Try.ntmps22
  go_wp2_with fail
  refine HC.out.mono ?_
  rintro e w1 ⟨ds, X, c, y, rfl, hd, hyi, hb1⟩
  have HPOST := Lib.hid (show FindDPost w (.returned (.tuple #[.slice X ds.length c, .int .i64 y])) w1 from ⟨ds, X, c, y, rfl, hd, hyi, hb1⟩)
  clear hd hyi hb1 HC
  go_wp2_with fail
  refine bodyPost_ret (v := .tuple #[.slice X ds.length c, .int .i64 y]) ?_ rfl HPOST.out
  simp [results, Try.f22, go_sem]

set_option maxHeartbeats 4000000 in
theorem law_NCallersOf (bs : List Nat) (A : Option Addr) (c : Nat) (w : World) (hl : LiesY w 0 w.heap.size A bs) (hlc : bs.length ≤ c) (hc : c ≤ maxLen) :
    Calls Try.prog 6 #[.slice A bs.length c] w (Gives (.bool true) w) := by
  have HC := Lib.hid (drawCallers_any A c bs w hl hlc hc)
  unfold maxLen at hc
  by_cases hsz : bs.length ≤ 1048576
  rotate_left
  · have hgt : 1048576 < bs.length := by omega
    clear hl
    go_enter Try.func6, Try.ntmps6
    go_wp2_with fail
    go_ret
    exact ⟨rfl, Below.refl _ _⟩
  clear hl
  go_enter Try.func6, Try.ntmps6
  go_wp2_with fail
  refine HC.out.mono ?_
  rintro e w1 ⟨ds, X, cx, x, rfl, ⟨h1, h2, h3, h4, h5⟩, hxi, hb1⟩
  have hs : sizeD ds ≤ 1048576 := by omega
  have HL := Lib.hid (show LiesD w1 0 w1.heap.size X ds from h1.mono_ (Nat.zero_le _) (Nat.le_refl _))
  have HB := Lib.hid hb1
  have HV := Lib.hid (fun V (hV : Below w1.heap.size w1 V) => implLibValid_r ds X cx 0 w1.heap.size V (HL.out.below hV) hV.size hs)
  have HSC := Lib.hid (fun V (hV : Below w1.heap.size w1 V) => specCallers_any ds X cx x V (HL.out.up hV) hs)
  obtain ⟨zs, hzs⟩ : ∃ z, z = callersL ds x := ⟨_, rfl⟩
  have hzl : zs.length ≤ 8 := by rw [hzs]; exact callersL_len ds x
  have HZI := Lib.hid (show ∀ z ∈ zs, I64 z by rw [hzs]; exact callersL_small x)
  have HIC := Lib.hid (implCallers_r ds X cx 0 w1.heap.size x w1 HL.out (Nat.le_refl _) hs)
  rw [← hzs] at HSC HIC
  have HZS := Lib.hid hzs
  clear h1 h2 h3 h5 hb1 HC hxi hzs
  go_wp2_with fail
  refine HIC.out.mono ?_
  rintro e w2 ⟨v2, rfl, ho2, hb2⟩
  obtain ⟨A2, c2, rfl, hI2⟩ := own_ints ho2 HZI.out
  have HB2 := Lib.hid hb2
  have HI2 := Lib.hid (show LiesI w2 0 w2.heap.size A2 zs from hI2.mono_ (Nat.zero_le _) (Nat.le_refl _))
  clear ho2 hb2 hI2 HIC
  go_wp2_with fail
  refine (HSC.out w2 HB2.out).mono ?_
  rintro e w3 ⟨v3, rfl, ho3, hb3⟩
  obtain ⟨A3, c3, rfl, hI3⟩ := own_ints ho3 HZI.out
  have HB3 := Lib.hid (HB2.out.trans (hb3.mono HB2.out.size))
  have HI3 := Lib.hid (show LiesI w3 0 w3.heap.size A3 zs from hI3.mono_ (Nat.zero_le _) (Nat.le_refl _))
  have HI23 := Lib.hid (HI2.out.up hb3)
  have HAM := Lib.hid (amInts_any zs zs A2 A3 c2 c3 w3 HI23.out HI3.out (by omega) (by omega))
  rw [decide_eq_true rfl] at HAM
  clear ho3 hb3 hI3 HI2 HB2
  go_wp2_with fail
  refine HAM.out.mono ?_
  rintro e w4 ⟨rfl, hb4⟩
  have HB4 := Lib.hid (HB3.out.trans (hb4.mono HB3.out.size))
  have HI4 := Lib.hid (HI23.out.up hb4)
  clear hb4 HB3 HI3 HI23 HAM
  go_wp2_with fail
  refine (HV.out w4 HB4.out).mono ?_
  rintro e w5 ⟨rfl, hb5⟩
  have HB5 := Lib.hid (HB4.out.trans (hb5.mono HB4.out.size))
  have HI5 := Lib.hid (HI4.out.up hb5)
  clear hb5 HB4 HI4 HV
  cases hok : libOk ds with
  | false =>
    clear hok
    go_wp2_with fail
    refine (HSC.out w5 HB5.out).mono ?_
    rintro e w6 ⟨v6, rfl, ho6, hb6⟩
    obtain ⟨A6, c6, rfl, hI6⟩ := own_ints ho6 HZI.out
    have HB6 := Lib.hid (HB5.out.trans (hb6.mono HB5.out.size))
    have HI56 := Lib.hid (HI5.out.up hb6)
    have HAM := Lib.hid (amInts_any zs zs A2 A6 c2 c6 w6 HI56.out (hI6.mono_ (Nat.zero_le _) (Nat.le_refl _)) (by omega) (by omega))
    rw [decide_eq_true rfl] at HAM
    clear ho6 hb6 hI6 HI5 HB5
    go_wp2_with fail
    refine HAM.out.mono ?_
    rintro e w7 ⟨rfl, hb7⟩
    have HB7 := Lib.hid (HB.out.trans ((HB6.out.trans (hb7.mono HB6.out.size)).mono HB.out.size))
    clear hb7 HB6
    go_wp2_with fail
    go_ret
    exact ⟨rfl, HB7.out⟩
  | true =>
    have HOK := Lib.hid hok
    have HBW0 := Lib.hid (HB.out.trans (HB5.out.mono HB.out.size))
    clear hok HSC
    go_wp2_with fail
    go_loopw [6] (fun i wr => ∃ (j : Nat), j ≤ ds.length ∧ i = .int .i64 (j : Int) ∧ Below w5.heap.size w5 wr) (fun i _ => ds.length - (intOf i).toNat)
    case atStart => exact ⟨0, Nat.zero_le _, rfl, Below.refl _ _⟩
    case round =>
      obtain ⟨j, hj, rfl, hbr⟩ := hrel
      by_cases hlt : j < ds.length
      · have e1 := List.getElem?_eq_getElem hlt
        generalize ds[j] = d at e1
        have hdm : d ∈ ds := List.mem_of_getElem? e1
        have hsd := sizeD_at e1
        have hji : (j : Int) < (ds.length : Int) := by omega
        have hbw1 : Below w1.heap.size w1 wr := HB5.out.trans (hbr.mono HB5.out.size)
        obtain ⟨b, o, A', c', hA, _, hbb, hf', g1, g2, g3, g4, g5, g6, h7, h8, h9⟩ := (HL.out.below hbw1) j d e1
        subst hA
        have hsm : smallOk d.k 14 80 = true := libOk_small HOK.out d hdm
        have hbbr : b < wr.heap.size := World.block_lt_of_cell? _ _ g1
        have HG4 := Lib.hid (show ∀ V, Below wr.heap.size wr V → V.cell? ⟨b, o + j * 6, none⟩ = some (.int .i64 d.nm) ∧ V.cell? ⟨b, o + j * 6 + 3, none⟩ = some (.int .i64 d.op) ∧ V.cell? ⟨b, o + j * 6 + 4, none⟩ = some (.int .i64 d.n) ∧ V.cell? ⟨b, o + j * 6 + 5, none⟩ = some (.slice A' d.k.len c') from fun V hV =>
          ⟨(hV.cell (p := ⟨b, o + j * 6, none⟩) hbbr).trans g1, (hV.cell (p := ⟨b, o + j * 6 + 3, none⟩) hbbr).trans g4, (hV.cell (p := ⟨b, o + j * 6 + 4, none⟩) hbbr).trans g5, (hV.cell (p := ⟨b, o + j * 6 + 5, none⟩) hbbr).trans g6⟩)
        have HCA := Lib.hid (show ∀ V, Below wr.heap.size wr V → Calls Try.prog 26 #[.agg #[.int .i64 d.op, .int .i64 d.n, .slice A' d.k.len c']] V (ListPost (numsUpto (callB ⟨d.op, d.n, d.k⟩) 8) V) from fun V hV =>
          implCalls_r d.op d.n d.k A' c' 0 wr.heap.size V ((h9.mono_ (Nat.le_refl _) hbw1.size).below hV) hV.size (.small hsm) h7 h8 (by omega))
        have HA6 := Lib.hid (amIn_any zs A2 c2 d.nm wr.drew (HI5.out.up hbr.drew) (by omega))
        have HEQ := Lib.hid (show d.nm ∈ zs ↔ x ∈ numsUpto (callB ⟨d.op, d.n, d.k⟩) 8 by rw [HZS.out]; exact decide_eq_decide.1 (callers_at HOK.out hdm x))
        have HBR := Lib.hid (HBW0.out.trans (hbr.mono HBW0.out.size))
        have HBR5 := Lib.hid hbr
        have st0 := HG4.out wr.drew (Below.refl _ _).drew
        clear hsm hbbr hbw1 hbr h9 hf' g1 g2 g3 g4 g5 g6 e1 hdm hsd
        go_upto_region 10 with fail
        clear hji
        refine wp_region_held_drew (S := fun w' => w'.cell? ⟨b, o + j * 6, none⟩ = some (.int .i64 d.nm) ∧ w'.cell? ⟨b, o + j * 6 + 3, none⟩ = some (.int .i64 d.op) ∧ w'.cell? ⟨b, o + j * 6 + 4, none⟩ = some (.int .i64 d.n) ∧ w'.cell? ⟨b, o + j * 6 + 5, none⟩ = some (.slice A' d.k.len c')) (by kernel_rfl) st0 (fun hHeld => ?_)
        refine takeW 0 (v := ?vx1_0) rfl (by kernel_rfl) (fun _ _ _ h => h) (by rfl) (by assumption) ?yx1_0 ?rx1_0
        case yx1_0 => (intro w' hSw; (try dsimp only at hSw); go_simp; try with_reducible rfl)
        try simp only [Act.put, List.setIfInBounds_toArray, List.set_cons_zero, List.set_cons_succ, List.getElem_toArray, List.getElem_cons_zero]
        refine takeW 1 (v := ?vx1_1) rfl (by kernel_rfl) (fun _ _ _ h => h) (by rfl) (by assumption) ?yx1_1 ?rx1_1
        case yx1_1 => (intro w' hSw; (try dsimp only at hSw); go_simp; try with_reducible rfl)
        try simp only [Act.put, List.setIfInBounds_toArray, List.set_cons_zero, List.set_cons_succ, List.getElem_toArray, List.getElem_cons_succ, List.getElem_cons_zero]
        refine takeW 2 (v := ?vx1_2) rfl (by kernel_rfl) (fun _ _ _ h => h) (by rfl) (by assumption) ?yx1_2 ?rx1_2
        case yx1_2 => (intro w' hSw; (try dsimp only at hSw); go_simp; try with_reducible rfl)
        try simp only [Act.put, List.setIfInBounds_toArray, List.set_cons_zero, List.set_cons_succ, List.getElem_toArray, List.getElem_cons_succ, List.getElem_cons_zero]
        refine takeW 3 (v := ?vx1_3) rfl (by kernel_rfl) (fun _ _ _ h => h) (by rfl) (by assumption) ?yx1_3 ?rx1_3
        case yx1_3 => (intro w' hSw; (try dsimp only at hSw); go_simp; try with_reducible rfl)
        try simp only [Act.put, List.setIfInBounds_toArray, List.set_cons_zero, List.set_cons_succ, List.getElem_toArray, List.getElem_cons_succ, List.getElem_cons_zero]
        refine takeW 4 (v := ?vx1_4) rfl (by kernel_rfl) (fun _ _ _ h => h) (by rfl) (by assumption) ?yx1_4 ?rx1_4
        case yx1_4 => (intro w' hSw; (try dsimp only at hSw); go_simp; try with_reducible rfl)
        try simp only [Act.put, List.setIfInBounds_toArray, List.set_cons_zero, List.set_cons_succ, List.getElem_toArray, List.getElem_cons_succ, List.getElem_cons_zero]
        refine takeW 5 (v := ?vx1_5) rfl (by kernel_rfl) (fun _ _ _ h => h) (by rfl) (by assumption) ?yx1_5 ?rx1_5
        case yx1_5 => (intro w' hSw; (try dsimp only at hSw); go_simp; try with_reducible rfl)
        try simp only [Act.put, List.setIfInBounds_toArray, List.set_cons_zero, List.set_cons_succ, List.getElem_toArray, List.getElem_cons_succ, List.getElem_cons_zero]
        refine takeW 7 (v := ?vx1_7) rfl (by kernel_rfl) (fun _ _ _ h => h) (by rfl) (by assumption) ?yx1_7 ?rx1_7
        case yx1_7 => (intro w' hSw; (try dsimp only at hSw); go_simp; try with_reducible rfl)
        try simp only [Act.put, List.setIfInBounds_toArray, List.set_cons_zero, List.set_cons_succ, List.getElem_toArray, List.getElem_cons_succ, List.getElem_cons_zero]
        refine takeW 8 (v := ?vx1_8) rfl (by kernel_rfl) (fun _ _ _ h => h) (by rfl) (by assumption) ?yx1_8 ?rx1_8
        case yx1_8 => (intro w' hSw; (try dsimp only at hSw); go_simp; try with_reducible rfl)
        try simp only [Act.put, List.setIfInBounds_toArray, List.set_cons_zero, List.set_cons_succ, List.getElem_toArray, List.getElem_cons_succ, List.getElem_cons_zero]
        refine takeW 9 (v := ?vx1_9) rfl (by kernel_rfl) (fun _ _ _ h => h) (by rfl) (by assumption) ?yx1_9 ?rx1_9
        case yx1_9 => (intro w' hSw; (try dsimp only at hSw); go_simp; try with_reducible rfl)
        try simp only [Act.put, List.setIfInBounds_toArray, List.set_cons_zero, List.set_cons_succ, List.getElem_toArray, List.getElem_cons_succ, List.getElem_cons_zero]
        refine takeW 10 (v := ?vx1_10) rfl (by kernel_rfl) (fun _ _ _ h => h) (by rfl) (by assumption) ?yx1_10 ?rx1_10
        case yx1_10 => (intro w' hSw; (try dsimp only at hSw); go_simp; try with_reducible rfl)
        try simp only [Act.put, List.setIfInBounds_toArray, List.set_cons_zero, List.set_cons_succ, List.getElem_toArray, List.getElem_cons_succ, List.getElem_cons_zero]
        refine takeW 11 (v := ?vx1_11) rfl (by kernel_rfl) (fun _ _ _ h => h) (by rfl) (by assumption) ?yx1_11 ?rx1_11
        case yx1_11 => (intro w' hSw; (try dsimp only at hSw); go_simp; try with_reducible rfl)
        try simp only [Act.put, List.setIfInBounds_toArray, List.set_cons_zero, List.set_cons_succ, List.getElem_toArray, List.getElem_cons_succ, List.getElem_cons_zero]
        refine takeW 13 (v := ?vx1_13) rfl (by kernel_rfl) (fun _ _ _ h => h) (by rfl) (by assumption) ?yx1_13 ?rx1_13
        case yx1_13 => (intro w' hSw; (try dsimp only at hSw); go_simp; try with_reducible rfl)
        try simp only [Act.put, List.setIfInBounds_toArray, List.set_cons_zero, List.set_cons_succ, List.getElem_toArray, List.getElem_cons_succ, List.getElem_cons_zero]
        refine wpAnyH_ready (rs := [6]) (by kernel_rfl) (by simp) ?_
        refine AllReadyH.cons rfl (fun K hK => ?_) AllReadyH.nil
        go_simp
        with_reducible refine HA6.out.mono ?_
        rintro e v6 ⟨rfl, hb6⟩
        have HB6 := Lib.hid ((Below.refl wr.heap.size wr).drew.trans hb6)
        have st1 := HG4.out _ HB6.out
        clear hb6
        refine hK.out _ _ (st1) (fun hHeldB1 => ?_)
        clear hK K
        try simp only [Act.put, List.setIfInBounds_toArray, List.set_cons_zero, List.set_cons_succ, List.getElem_toArray, List.getElem_cons_succ, List.getElem_cons_zero]
        refine wpAnyH_ready (rs := [12]) (by kernel_rfl) (by simp) ?_
        refine AllReadyH.cons rfl (fun K hK => ?_) AllReadyH.nil
        go_simp
        with_reducible refine (HCA.out _ HB6.out).mono ?_
        rintro e v7 ⟨vf, rfl, hof, hb7⟩
        obtain ⟨A7, c7, rfl, hI7⟩ := own_ints hof (fun y hy => numsUpto_small _ 8 y (Nat.le_refl _) hy)
        have HI7 := Lib.hid (show LiesI v7 0 v7.heap.size A7 (numsUpto (callB ⟨d.op, d.n, d.k⟩) 8) from hI7.mono_ (Nat.zero_le _) (Nat.le_refl _))
        have HB7 := Lib.hid (HB6.out.trans (hb7.mono HB6.out.size))
        have st2 := HG4.out _ HB7.out
        clear hb7 hof hI7
        refine hK.out _ _ (st2) (fun hHeldB2 => ?_)
        clear hK K
        try simp only [Act.put, List.setIfInBounds_toArray, List.set_cons_zero, List.set_cons_succ, List.getElem_toArray, List.getElem_cons_succ, List.getElem_cons_zero]
        refine wpAnyH_ready (rs := [14]) (by kernel_rfl) (by simp) ?_
        refine AllReadyH.cons rfl (fun K hK => ?_) AllReadyH.nil
        go_simp
        with_reducible refine (amIn_any (numsUpto (callB ⟨d.op, d.n, d.k⟩) 8) A7 c7 x v7 HI7.out (Nat.le_trans (numsUpto_len _ 8) (by decide))).mono ?_
        rintro e v8 ⟨rfl, hb8⟩
        have HB8 := Lib.hid (HB7.out.trans (hb8.mono HB7.out.size))
        have st3 := HG4.out _ HB8.out
        clear hb8
        refine hK.out _ _ (st3) (fun hHeldB3 => ?_)
        clear hK K
        try simp only [Act.put, List.setIfInBounds_toArray, List.set_cons_zero, List.set_cons_succ, List.getElem_toArray, List.getElem_cons_succ, List.getElem_cons_zero]
        refine takeW 15 (v := .bool false) rfl (by kernel_rfl) (fun _ _ _ h => h) (by rfl) (by assumption) ?yx4_15 ?rx4_15
        case yx4_15 => (intro w' hSw; (try dsimp only at hSw); go_simp; try first | with_reducible rfl | simp [HEQ.out])
        try simp only [Act.put, List.setIfInBounds_toArray, List.set_cons_zero, List.set_cons_succ, List.getElem_toArray, List.getElem_cons_succ, List.getElem_cons_zero]
        refine wpAnyH_done (by kernel_rfl) ?_ _
        clear st0 st1 st2 st3
        have HBW := Lib.hid (HBR5.out.trans (HB8.out.mono HBR5.out.size))
        clear HA6 HCA HG4 HB6 HB7 HB8 HI7 HBR HBR5
        go_wp2_with fail
        go_roundw
        case rel => exact ⟨j + 1, hlt, by go_num, HBW.out⟩
        case measure => simp [intOf]; omega
      · have e9 : j = ds.length := by omega
        subst e9
        have HBW := Lib.hid (HBW0.out.trans (hbr.mono HBW0.out.size))
        clear hbr
        go_wp2_with fail
        go_ret
        exact ⟨rfl, HBW.out⟩
end Go.Proofs.Ytdconngmobpkoaa
