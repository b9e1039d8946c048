/-
  The walk of the law FnSameSelf: true at every input (made by gen_nss.py).
-/
import Derived.Test.YtkdjjkkcejijnaaDrawE
import Derived.Test.YtkdjjkkcejijnaaTreeP
import Derived.Test.YtkdjjkkcejijnaaFmtM
import Derived.Test.YtkdjjkkcejijnaaNamesI
import Derived.Test.YtkdjjkkcejijnaaNamesS
import Derived.Test.YtkdjjkkcejijnaaImplAll
import Derived.Test.YtkdjjkkcejijnaaSpecAll
import Derived.Test.YtkdjjkkcejijnaaAlikN
import Derived.Test.YtkdjjkkcejijnaaAm
import Derived.Test.YtkdjjkkcejijnaaTake
namespace Go.Proofs.Ytkdjjkkcejijnaa
open Go.RowKit Go.Shelf
set_option maxRecDepth 100000

set_option maxHeartbeats 1000000 in
theorem drawAllVars_any (A : Option Addr) (bc : Nat) (bs : List Nat) (w : World) (hB : LiesY w 0 w.heap.size A bs) (hl : bs.length ≤ bc) (hc : bc ≤ maxLen) :
    Calls Try.prog 13 #[.slice A bs.length bc] w (NodePost w) := by
  obtain ⟨W1, hW1⟩ : ∃ W1, W1 = w.alloc (Obj.cells #[.int .i64 0, .int .i64 0, .slice none 0 0] 25) := ⟨_, rfl⟩
  have hb1 : Below w.heap.size w W1 := by rw [hW1]; exact (Below.refl _ _).alloc (Nat.le_refl _) _
  have hx1 : Row W1 w.heap.size 25 #[.int .i64 0, .int .i64 0, .slice none 0 0] := by rw [hW1]; exact Row.fresh _ _ _
  have HC := Lib.hid (drawFormat_any A bc bs W1 ((hB.below hb1).keep (Nat.le_refl _) hb1.size fun _ _ _ => rfl) hl hc)
  have HX1 := Lib.hid hx1
  have HB1 := Lib.hid hb1
  clear hb1 hx1 hB
  go_enter Try.func13, Try.ntmps13
  go_upto_region 1 with fail
  rw [← hW1]
  clear hW1
  go_wp2_with fail
  refine HC.out.mono ?_
  rintro e w8 ⟨o8, n8, k8, A8, c8, rfl, ⟨b8, hi8, ht8, hs8⟩, hb8⟩
  have hbx := hb8
  have HT := Lib.hid (ht8.lower (base' := w.heap.size + 1) HX1.out.size)
  have hxb := HX1.out.below hbx HX1.out.size
  have HXB := Lib.hid hxb
  have HB8 := Lib.hid (HB1.out.trans (hbx.mono HB1.out.size))
  have f0 := hxb.free 0
  have f1 := hxb.free 1
  have f2 := hxb.free 2
  have d0 := hxb.cell (i := 0) rfl
  have d1 := hxb.cell (i := 1) rfl
  have d2 := hxb.cell (i := 2) rfl
  have HI := Lib.hid hi8
  have HS := Lib.hid hs8
  clear hbx hxb ht8 hi8 hs8 hb8 HC
  go_wp2_with fail
  have r7 := ((HXB.out.put 0 (.int .i64 o8)).put 1 (.int .i64 n8)).put 2 (.slice A8 k8.len c8)
  have t0 := r7.cell (i := 0) rfl
  have t1 := r7.cell (i := 1) rfl
  have t2 := r7.cell (i := 2) rfl
  refine bodyPost_ret (v := .agg #[.int .i64 o8, .int .i64 n8, .slice A8 k8.len c8]) ?_ rfl ⟨o8, n8, k8, A8, c8, rfl, ⟨b8, HI.out, (HT.out.keep fun z hz => ?_).lower (Nat.le_succ _), HS.out⟩, ((HB8.out.setCell (Nat.le_refl _) _).setCell (Nat.le_refl _) _).setCell (Nat.le_refl _) _⟩
  · simp [results, Try.f13, go_sem, t0, t1, t2]
  · have hz1 := (HT.out.lt z hz).1
    have hz2 : z ≠ w.heap.size := by omega
    rw [Below.heap_setCell _ _ _ z hz2, Below.heap_setCell _ _ _ z hz2, Below.heap_setCell _ _ _ z hz2]


theorem names_self (op n : Int) (k : Fo) : namesB op n k op n k = nodeIs op n k (firstS 8) := by
  unfold namesB
  cases h : nodeIs op n k (firstS 8) with
  | false => rfl
  | true =>
    rw [alikeN_self (p := ⟨op, n, k⟩) (fitN_is h) (fun x _ => by simp [varSame])]
    rfl
theorem numsUpto_i64 (S : Nat → Bool) : ∀ x, x ∈ numsUpto S 8 → I64 x := fun x hx => numsUpto_small _ 8 x (Nat.le_refl _) hx

set_option maxHeartbeats 4000000 in
theorem law_NSameSelf (bs : List Nat) (A : Option Addr) (c : Nat) (w : World) (hl : LiesY w 0 w.heap.size A bs) (hlc : bs.length ≤ c) (hc : c ≤ maxLen) :
    Calls Try.prog 4 #[.slice A bs.length c] w (Gives (.bool true) w) := by
  have HC := Lib.hid (drawAllVars_any A c bs w hl hlc hc)
  unfold maxLen at hc
  by_cases hsz : bs.length ≤ 1048576
  rotate_left
  · have hgt : 1048576 < bs.length := by omega
    clear hl
    go_enter Try.func4, Try.ntmps4
    go_wp2_with fail
    go_ret
    exact ⟨rfl, Below.refl _ _⟩
  clear hl
  go_enter Try.func4, Try.ntmps4
  go_wp2_with fail
  refine HC.out.mono ?_
  rintro e w1 ⟨op, n, k, X, cx, rfl, ⟨bl, hi, ht, hs⟩, hb⟩
  obtain ⟨_, _, hX, hk1, hk2⟩ := ht.slice
  injection hX with hX1 hX2 hX3
  subst hX3
  obtain ⟨W, hW⟩ : ∃ W, W = w1.alloc (Obj.cells #[.int .i64 op, .int .i64 n, .slice X k.len cx] 25) := ⟨_, rfl⟩
  have hbW : Below w1.heap.size w1 W := by rw [hW]; exact (Below.refl _ _).alloc (Nat.le_refl _) _
  have hx : Row W w1.heap.size 25 #[.int .i64 op, .int .i64 n, .slice X k.len cx] := by rw [hW]; exact Row.fresh _ _ _
  have hh0 := ht.held
  have FE := Lib.hid (show ∀ U, Below W.heap.size W U → (U.cell? ⟨w1.heap.size, 0, none⟩ = some (.int .i64 op) ∧ U.cell? ⟨w1.heap.size, 1, none⟩ = some (.int .i64 n) ∧ U.cell? ⟨w1.heap.size, 2, none⟩ = some (.slice X k.len cx)) ∧ Held U U.heap.size X k ∧ Below w.heap.size w U from fun U hU => by
    have h1 := hx.below hU hx.size
    exact ⟨⟨h1.cell rfl, h1.cell rfl, h1.cell rfl⟩, (hh0.up hbW).up hU, (hb.trans (hbW.mono hb.size)).trans (hU.mono (hb.trans (hbW.mono hb.size)).size)⟩)
  obtain ⟨az, has⟩ : ∃ az, az = numsUpto (hasB ownVL ⟨op, n, k⟩) 8 := ⟨_, rfl⟩
  have hal : az.length ≤ 8 := by rw [has]; exact numsUpto_len _ 8
  have HAI := Lib.hid (show ∀ x ∈ az, I64 x by rw [has]; exact numsUpto_i64 _)
  have HAS := Lib.hid has
  obtain ⟨S1, hS1, hd1a, hd1b⟩ := fmt_empty op n k
  have HSM := Lib.hid (show ∀ U, Below W.heap.size W U → Calls Try.prog 14 #[.agg #[.int .i64 op, .int .i64 n, .slice X k.len cx], .agg #[.int .i64 op, .int .i64 n, .slice X k.len cx]] U (Gives (.bool (nodeIs op n k (firstS 8))) U) from fun U hU => by
    obtain ⟨-, h1, -⟩ := FE.out U hU
    rw [← names_self]
    exact implNames_any op n op n k k X X cx cx U h1.1 h1.1 (Nat.le_trans hk1 hk2) (Nat.le_trans hk1 hk2))
  have HSS := Lib.hid (show ∀ U, Below W.heap.size W U → Calls Try.prog 15 #[.agg #[.int .i64 op, .int .i64 n, .slice X k.len cx], .agg #[.int .i64 op, .int .i64 n, .slice X k.len cx]] U (Gives (.bool (nodeIs op n k (firstS 8))) U) from fun U hU => by
    obtain ⟨-, h1, -⟩ := FE.out U hU
    rw [← names_self]
    exact specNames_any op n op n k k X X cx cx U h1.1 h1.1 (Nat.le_trans hk1 hk2) (Nat.le_trans hk1 hk2))
  have HF := Lib.hid (show ∀ U, Below W.heap.size W U → Calls Try.prog 9 #[.agg #[.int .i64 op, .int .i64 n, .slice X k.len cx]] U (Gives (.string S1) U) from fun U hU => by
    obtain ⟨-, h1, -⟩ := FE.out U hU
    have h := implFmt_t op n k X cx U h1.1 (Nat.le_trans hk1 hk2)
    rw [hS1] at h
    exact h)
  have HIA := Lib.hid (fun U (hU : Below W.heap.size W U) => implAll_r op n k X cx 0 U.heap.size U (FE.out U hU).2.1.1 (Nat.le_refl _) (FE.out U hU).2.1.rows hk1 hk2 (by omega))
  have HSA := Lib.hid (fun U (hU : Below W.heap.size W U) => specAll_any op n k X cx U (FE.out U hU).2.1.1 (by omega))
  generalize nodeIs op n k (firstS 8) = z at *
  clear hb hbW ht hh0 hX1 HC hi hx hs has hS1
  go_upto_region 4 with fail
  rw [← hW]
  clear hW
  obtain ⟨⟨q0, q1, q2⟩, -⟩ := FE.out W (Below.refl _ _)
  go_wp2_with fail
  refine (HSM.out W (Below.refl _ _)).mono ?_
  rintro e w2 ⟨rfl, hb2⟩
  have HB1 := Lib.hid (show Below W.heap.size W w2.drew from hb2.drew)
  have s1 := (FE.out _ HB1.out).1
  clear hb2 q0 q1 q2 HSM
  cases z with
  | false =>
    have hd1 : S1 = ⟨#[]⟩ := hd1a rfl
    clear hd1a hd1b
    subst hd1
    have hzz : (false == false) = true := rfl
    have hd1 : (1 : Nat) = 1 := rfl
    go_wp2_with fail
    refine wp_region_held_drew (S := fun w' => w'.cell? ⟨w1.heap.size, 0, none⟩ = some (.int .i64 op) ∧ w'.cell? ⟨w1.heap.size, 1, none⟩ = some (.int .i64 n) ∧ w'.cell? ⟨w1.heap.size, 2, none⟩ = some (.slice X k.len cx)) (by kernel_rfl) s1 (fun hHeld => ?_)
    refine takeW 0 (v := ?vx1_0) rfl (by kernel_rfl) (fun _ _ _ h => h) (by rfl) (by assumption) ?yx1_0 ?rx1_0
    case yx1_0 => (intro w' hSw; (try dsimp only at hSw); go_simp; try with_reducible rfl)
    try simp only [Act.put, List.setIfInBounds_toArray, List.set_cons_zero, List.set_cons_succ, List.getElem_toArray, List.getElem_cons_zero]
    refine takeW 1 (v := ?vx1_1) rfl (by kernel_rfl) (fun _ _ _ h => h) (by rfl) (by assumption) ?yx1_1 ?rx1_1
    case yx1_1 => (intro w' hSw; (try dsimp only at hSw); go_simp; try with_reducible rfl)
    try simp only [Act.put, List.setIfInBounds_toArray, List.set_cons_zero, List.set_cons_succ, List.getElem_toArray, List.getElem_cons_succ, List.getElem_cons_zero]
    refine takeW 2 (v := ?vx1_2) rfl (by kernel_rfl) (fun _ _ _ h => h) (by rfl) (by assumption) ?yx1_2 ?rx1_2
    case yx1_2 => (intro w' hSw; (try dsimp only at hSw); go_simp; try with_reducible rfl)
    try simp only [Act.put, List.setIfInBounds_toArray, List.set_cons_zero, List.set_cons_succ, List.getElem_toArray, List.getElem_cons_succ, List.getElem_cons_zero]
    refine wpAnyH_ready (rs := [3]) (by kernel_rfl) (by simp) ?_
    refine AllReadyH.cons rfl (fun K hK => ?_) AllReadyH.nil
    go_simp
    with_reducible refine (HSS.out _ HB1.out).mono ?_
    rintro e w3 ⟨rfl, hb⟩
    have HB2 := Lib.hid (HB1.out.trans (hb.mono HB1.out.size))
    have s2 := (FE.out _ HB2.out).1
    clear hb
    refine hK.out _ _ (s2) (fun hHeldB1 => ?_)
    clear hK K
    try simp only [Act.put, List.setIfInBounds_toArray, List.set_cons_zero, List.set_cons_succ, List.getElem_toArray, List.getElem_cons_succ, List.getElem_cons_zero]
    refine takeW 4 (v := .bool true) rfl (by kernel_rfl) (fun _ _ _ h => h) (by rfl) (by assumption) ?yx2_4 ?rx2_4
    case yx2_4 => (intro w' hSw; (try dsimp only at hSw); go_simp; try first | with_reducible rfl | simp [hzz])
    try simp only [Act.put, List.setIfInBounds_toArray, List.set_cons_zero, List.set_cons_succ, List.getElem_toArray, List.getElem_cons_succ, List.getElem_cons_zero]
    refine takeW 5 (v := ?vx2_5) rfl (by kernel_rfl) (fun _ _ _ h => h) (by rfl) (by assumption) ?yx2_5 ?rx2_5
    case yx2_5 => (intro w' hSw; (try dsimp only at hSw); go_simp; try with_reducible rfl)
    try simp only [Act.put, List.setIfInBounds_toArray, List.set_cons_zero, List.set_cons_succ, List.getElem_toArray, List.getElem_cons_succ, List.getElem_cons_zero]
    refine takeW 6 (v := ?vx2_6) rfl (by kernel_rfl) (fun _ _ _ h => h) (by rfl) (by assumption) ?yx2_6 ?rx2_6
    case yx2_6 => (intro w' hSw; (try dsimp only at hSw); go_simp; try with_reducible rfl)
    try simp only [Act.put, List.setIfInBounds_toArray, List.set_cons_zero, List.set_cons_succ, List.getElem_toArray, List.getElem_cons_succ, List.getElem_cons_zero]
    refine takeW 7 (v := ?vx2_7) rfl (by kernel_rfl) (fun _ _ _ h => h) (by rfl) (by assumption) ?yx2_7 ?rx2_7
    case yx2_7 => (intro w' hSw; (try dsimp only at hSw); go_simp; try with_reducible rfl)
    try simp only [Act.put, List.setIfInBounds_toArray, List.set_cons_zero, List.set_cons_succ, List.getElem_toArray, List.getElem_cons_succ, List.getElem_cons_zero]
    refine wpAnyH_ready (rs := [8]) (by kernel_rfl) (by simp) ?_
    refine AllReadyH.cons rfl (fun K hK => ?_) AllReadyH.nil
    go_simp
    with_reducible refine (HF.out _ HB2.out).mono ?_
    rintro e w4 ⟨rfl, hb⟩
    have HB3 := Lib.hid (HB2.out.trans (hb.mono HB2.out.size))
    have s3 := (FE.out _ HB3.out).1
    clear hb
    refine hK.out _ _ (s3) (fun hHeldB2 => ?_)
    clear hK K
    try simp only [Act.put, List.setIfInBounds_toArray, List.set_cons_zero, List.set_cons_succ, List.getElem_toArray, List.getElem_cons_succ, List.getElem_cons_zero]
    refine takeW 9 (v := .bool false) rfl (by kernel_rfl) (fun _ _ _ h => h) (by rfl) (by assumption) ?yx3_9 ?rx3_9
    case yx3_9 => (intro w' hSw; (try dsimp only at hSw); go_simp; try first | with_reducible rfl | simp [hd1])
    try simp only [Act.put, List.setIfInBounds_toArray, List.set_cons_zero, List.set_cons_succ, List.getElem_toArray, List.getElem_cons_succ, List.getElem_cons_zero]
    refine takeW 10 (v := .bool true) rfl (by kernel_rfl) (fun _ _ _ h => h) (by rfl) (by assumption) ?yx3_10 ?rx3_10
    case yx3_10 => (intro w' hSw; (try dsimp only at hSw); go_simp; try first | with_reducible rfl | simp [hzz])
    try simp only [Act.put, List.setIfInBounds_toArray, List.set_cons_zero, List.set_cons_succ, List.getElem_toArray, List.getElem_cons_succ, List.getElem_cons_zero]
    refine takeW 11 (v := ?vx3_11) rfl (by kernel_rfl) (fun _ _ _ h => h) (by rfl) (by assumption) ?yx3_11 ?rx3_11
    case yx3_11 => (intro w' hSw; (try dsimp only at hSw); go_simp; try with_reducible rfl)
    try simp only [Act.put, List.setIfInBounds_toArray, List.set_cons_zero, List.set_cons_succ, List.getElem_toArray, List.getElem_cons_succ, List.getElem_cons_zero]
    refine takeW 12 (v := ?vx3_12) rfl (by kernel_rfl) (fun _ _ _ h => h) (by rfl) (by assumption) ?yx3_12 ?rx3_12
    case yx3_12 => (intro w' hSw; (try dsimp only at hSw); go_simp; try with_reducible rfl)
    try simp only [Act.put, List.setIfInBounds_toArray, List.set_cons_zero, List.set_cons_succ, List.getElem_toArray, List.getElem_cons_succ, List.getElem_cons_zero]
    refine takeW 13 (v := ?vx3_13) rfl (by kernel_rfl) (fun _ _ _ h => h) (by rfl) (by assumption) ?yx3_13 ?rx3_13
    case yx3_13 => (intro w' hSw; (try dsimp only at hSw); go_simp; try with_reducible rfl)
    try simp only [Act.put, List.setIfInBounds_toArray, List.set_cons_zero, List.set_cons_succ, List.getElem_toArray, List.getElem_cons_succ, List.getElem_cons_zero]
    refine takeW 15 (v := ?vx3_15) rfl (by kernel_rfl) (fun _ _ _ h => h) (by rfl) (by assumption) ?yx3_15 ?rx3_15
    case yx3_15 => (intro w' hSw; (try dsimp only at hSw); go_simp; try with_reducible rfl)
    try simp only [Act.put, List.setIfInBounds_toArray, List.set_cons_zero, List.set_cons_succ, List.getElem_toArray, List.getElem_cons_succ, List.getElem_cons_zero]
    refine wpAnyH_ready (rs := [14]) (by kernel_rfl) (by simp) ?_
    refine AllReadyH.cons rfl (fun K hK => ?_) AllReadyH.nil
    go_simp
    with_reducible refine (HIA.out _ HB3.out).mono ?_
    rintro e w5 ⟨v3, rfl, hown, hb⟩
    rw [← HAS.out] at hown
    obtain ⟨ZA, cZA, rfl, hI⟩ := own_ints hown HAI.out
    have HZA := Lib.hid (show ∀ U, Below w5.heap.size w5 U → LiesI U 0 U.heap.size ZA az from fun U hU => (hI.mono_ (Nat.zero_le _) (Nat.le_refl _)).up hU)
    have HB4 := Lib.hid (HB3.out.trans (hb.mono HB3.out.size))
    have HP4 := Lib.hid hb
    have s4 := (FE.out _ HB4.out).1
    clear hb hI hown
    refine hK.out _ _ (s4) (fun hHeldB3 => ?_)
    clear hK K
    try simp only [Act.put, List.setIfInBounds_toArray, List.set_cons_zero, List.set_cons_succ, List.getElem_toArray, List.getElem_cons_succ, List.getElem_cons_zero]
    refine wpAnyH_ready (rs := [16]) (by kernel_rfl) (by simp) ?_
    refine AllReadyH.cons rfl (fun K hK => ?_) AllReadyH.nil
    go_simp
    with_reducible refine (HSA.out _ HB4.out).mono ?_
    rintro e w6 ⟨v4, rfl, hown, hb⟩
    rw [← HAS.out] at hown
    obtain ⟨ZB, cZB, rfl, hI⟩ := own_ints hown HAI.out
    have HZB := Lib.hid (show ∀ U, Below w6.heap.size w6 U → LiesI U 0 U.heap.size ZB az from fun U hU => (hI.mono_ (Nat.zero_le _) (Nat.le_refl _)).up hU)
    have HB5 := Lib.hid (HB4.out.trans (hb.mono HB4.out.size))
    have HP5 := Lib.hid hb
    have s5 := (FE.out _ HB5.out).1
    clear hb hI hown
    refine hK.out _ _ (s5) (fun hHeldB4 => ?_)
    clear hK K
    try simp only [Act.put, List.setIfInBounds_toArray, List.set_cons_zero, List.set_cons_succ, List.getElem_toArray, List.getElem_cons_succ, List.getElem_cons_zero]
    refine wpAnyH_ready (rs := [17]) (by kernel_rfl) (by simp) ?_
    refine AllReadyH.cons rfl (fun K hK => ?_) AllReadyH.nil
    go_simp
    with_reducible refine (amInts_any az az ZA ZB cZA cZB w6 (HZA.out _ HP5.out) (HZB.out _ (Below.refl _ _)) (by omega) (by omega)).mono ?_
    rintro e w7 ⟨rfl, hb⟩
    rw [show decide (az = az) = true from by simp]
    have HB6 := Lib.hid (HB5.out.trans (hb.mono HB5.out.size))
    have s6 := (FE.out _ HB6.out).1
    clear hb
    refine hK.out _ _ (s6) (fun hHeldB5 => ?_)
    clear hK K
    try simp only [Act.put, List.setIfInBounds_toArray, List.set_cons_zero, List.set_cons_succ, List.getElem_toArray, List.getElem_cons_succ, List.getElem_cons_zero]
    refine takeW 18 (v := ?vx6_18) rfl (by kernel_rfl) (fun _ _ _ h => h) (by rfl) (by assumption) ?yx6_18 ?rx6_18
    case yx6_18 => (intro w' hSw; (try dsimp only at hSw); go_simp; try with_reducible rfl)
    try simp only [Act.put, List.setIfInBounds_toArray, List.set_cons_zero, List.set_cons_succ, List.getElem_toArray, List.getElem_cons_succ, List.getElem_cons_zero]
    refine takeW 19 (v := ?vx6_19) rfl (by kernel_rfl) (fun _ _ _ h => h) (by rfl) (by assumption) ?yx6_19 ?rx6_19
    case yx6_19 => (intro w' hSw; (try dsimp only at hSw); go_simp; try with_reducible rfl)
    try simp only [Act.put, List.setIfInBounds_toArray, List.set_cons_zero, List.set_cons_succ, List.getElem_toArray, List.getElem_cons_succ, List.getElem_cons_zero]
    refine wpAnyH_done (by kernel_rfl) ?_ _
    clear s1 s2 s3 s4 s5 s6
    have HBW := Lib.hid (FE.out _ HB6.out).2.2
    go_wp2_with fail
    go_ret
    exact ⟨rfl, HBW.out⟩
  | true =>
    have hd1x : ¬ S1.toList = [] := hd1b rfl
    clear hd1a hd1b
    have hzz : (true == true) = true := rfl
    go_wp2_with fail
    refine wp_region_held_drew (S := fun w' => w'.cell? ⟨w1.heap.size, 0, none⟩ = some (.int .i64 op) ∧ w'.cell? ⟨w1.heap.size, 1, none⟩ = some (.int .i64 n) ∧ w'.cell? ⟨w1.heap.size, 2, none⟩ = some (.slice X k.len cx)) (by kernel_rfl) s1 (fun hHeld => ?_)
    refine takeW 0 (v := ?vx7_0) rfl (by kernel_rfl) (fun _ _ _ h => h) (by rfl) (by assumption) ?yx7_0 ?rx7_0
    case yx7_0 => (intro w' hSw; (try dsimp only at hSw); go_simp; try with_reducible rfl)
    try simp only [Act.put, List.setIfInBounds_toArray, List.set_cons_zero, List.set_cons_succ, List.getElem_toArray, List.getElem_cons_zero]
    refine takeW 1 (v := ?vx7_1) rfl (by kernel_rfl) (fun _ _ _ h => h) (by rfl) (by assumption) ?yx7_1 ?rx7_1
    case yx7_1 => (intro w' hSw; (try dsimp only at hSw); go_simp; try with_reducible rfl)
    try simp only [Act.put, List.setIfInBounds_toArray, List.set_cons_zero, List.set_cons_succ, List.getElem_toArray, List.getElem_cons_succ, List.getElem_cons_zero]
    refine takeW 2 (v := ?vx7_2) rfl (by kernel_rfl) (fun _ _ _ h => h) (by rfl) (by assumption) ?yx7_2 ?rx7_2
    case yx7_2 => (intro w' hSw; (try dsimp only at hSw); go_simp; try with_reducible rfl)
    try simp only [Act.put, List.setIfInBounds_toArray, List.set_cons_zero, List.set_cons_succ, List.getElem_toArray, List.getElem_cons_succ, List.getElem_cons_zero]
    refine wpAnyH_ready (rs := [3]) (by kernel_rfl) (by simp) ?_
    refine AllReadyH.cons rfl (fun K hK => ?_) AllReadyH.nil
    go_simp
    with_reducible refine (HSS.out _ HB1.out).mono ?_
    rintro e w3 ⟨rfl, hb⟩
    have HB2 := Lib.hid (HB1.out.trans (hb.mono HB1.out.size))
    have s2 := (FE.out _ HB2.out).1
    clear hb
    refine hK.out _ _ (s2) (fun hHeldB1 => ?_)
    clear hK K
    try simp only [Act.put, List.setIfInBounds_toArray, List.set_cons_zero, List.set_cons_succ, List.getElem_toArray, List.getElem_cons_succ, List.getElem_cons_zero]
    refine takeW 4 (v := .bool true) rfl (by kernel_rfl) (fun _ _ _ h => h) (by rfl) (by assumption) ?yx8_4 ?rx8_4
    case yx8_4 => (intro w' hSw; (try dsimp only at hSw); go_simp; try first | with_reducible rfl | simp [hzz])
    try simp only [Act.put, List.setIfInBounds_toArray, List.set_cons_zero, List.set_cons_succ, List.getElem_toArray, List.getElem_cons_succ, List.getElem_cons_zero]
    refine takeW 5 (v := ?vx8_5) rfl (by kernel_rfl) (fun _ _ _ h => h) (by rfl) (by assumption) ?yx8_5 ?rx8_5
    case yx8_5 => (intro w' hSw; (try dsimp only at hSw); go_simp; try with_reducible rfl)
    try simp only [Act.put, List.setIfInBounds_toArray, List.set_cons_zero, List.set_cons_succ, List.getElem_toArray, List.getElem_cons_succ, List.getElem_cons_zero]
    refine takeW 6 (v := ?vx8_6) rfl (by kernel_rfl) (fun _ _ _ h => h) (by rfl) (by assumption) ?yx8_6 ?rx8_6
    case yx8_6 => (intro w' hSw; (try dsimp only at hSw); go_simp; try with_reducible rfl)
    try simp only [Act.put, List.setIfInBounds_toArray, List.set_cons_zero, List.set_cons_succ, List.getElem_toArray, List.getElem_cons_succ, List.getElem_cons_zero]
    refine takeW 7 (v := ?vx8_7) rfl (by kernel_rfl) (fun _ _ _ h => h) (by rfl) (by assumption) ?yx8_7 ?rx8_7
    case yx8_7 => (intro w' hSw; (try dsimp only at hSw); go_simp; try with_reducible rfl)
    try simp only [Act.put, List.setIfInBounds_toArray, List.set_cons_zero, List.set_cons_succ, List.getElem_toArray, List.getElem_cons_succ, List.getElem_cons_zero]
    refine wpAnyH_ready (rs := [8]) (by kernel_rfl) (by simp) ?_
    refine AllReadyH.cons rfl (fun K hK => ?_) AllReadyH.nil
    go_simp
    with_reducible refine (HF.out _ HB2.out).mono ?_
    rintro e w4 ⟨rfl, hb⟩
    have HB3 := Lib.hid (HB2.out.trans (hb.mono HB2.out.size))
    have s3 := (FE.out _ HB3.out).1
    clear hb
    refine hK.out _ _ (s3) (fun hHeldB2 => ?_)
    clear hK K
    try simp only [Act.put, List.setIfInBounds_toArray, List.set_cons_zero, List.set_cons_succ, List.getElem_toArray, List.getElem_cons_succ, List.getElem_cons_zero]
    refine takeW 9 (v := .bool true) rfl (by kernel_rfl) (fun _ _ _ h => h) (by rfl) (by assumption) ?yx9_9 ?rx9_9
    case yx9_9 => (intro w' hSw; (try dsimp only at hSw); go_simp; try first | with_reducible rfl | simp [hd1x])
    try simp only [Act.put, List.setIfInBounds_toArray, List.set_cons_zero, List.set_cons_succ, List.getElem_toArray, List.getElem_cons_succ, List.getElem_cons_zero]
    refine takeW 10 (v := .bool true) rfl (by kernel_rfl) (fun _ _ _ h => h) (by rfl) (by assumption) ?yx9_10 ?rx9_10
    case yx9_10 => (intro w' hSw; (try dsimp only at hSw); go_simp; try first | with_reducible rfl | simp [hzz])
    try simp only [Act.put, List.setIfInBounds_toArray, List.set_cons_zero, List.set_cons_succ, List.getElem_toArray, List.getElem_cons_succ, List.getElem_cons_zero]
    refine takeW 11 (v := ?vx9_11) rfl (by kernel_rfl) (fun _ _ _ h => h) (by rfl) (by assumption) ?yx9_11 ?rx9_11
    case yx9_11 => (intro w' hSw; (try dsimp only at hSw); go_simp; try with_reducible rfl)
    try simp only [Act.put, List.setIfInBounds_toArray, List.set_cons_zero, List.set_cons_succ, List.getElem_toArray, List.getElem_cons_succ, List.getElem_cons_zero]
    refine takeW 12 (v := ?vx9_12) rfl (by kernel_rfl) (fun _ _ _ h => h) (by rfl) (by assumption) ?yx9_12 ?rx9_12
    case yx9_12 => (intro w' hSw; (try dsimp only at hSw); go_simp; try with_reducible rfl)
    try simp only [Act.put, List.setIfInBounds_toArray, List.set_cons_zero, List.set_cons_succ, List.getElem_toArray, List.getElem_cons_succ, List.getElem_cons_zero]
    refine takeW 13 (v := ?vx9_13) rfl (by kernel_rfl) (fun _ _ _ h => h) (by rfl) (by assumption) ?yx9_13 ?rx9_13
    case yx9_13 => (intro w' hSw; (try dsimp only at hSw); go_simp; try with_reducible rfl)
    try simp only [Act.put, List.setIfInBounds_toArray, List.set_cons_zero, List.set_cons_succ, List.getElem_toArray, List.getElem_cons_succ, List.getElem_cons_zero]
    refine takeW 15 (v := ?vx9_15) rfl (by kernel_rfl) (fun _ _ _ h => h) (by rfl) (by assumption) ?yx9_15 ?rx9_15
    case yx9_15 => (intro w' hSw; (try dsimp only at hSw); go_simp; try with_reducible rfl)
    try simp only [Act.put, List.setIfInBounds_toArray, List.set_cons_zero, List.set_cons_succ, List.getElem_toArray, List.getElem_cons_succ, List.getElem_cons_zero]
    refine wpAnyH_ready (rs := [14]) (by kernel_rfl) (by simp) ?_
    refine AllReadyH.cons rfl (fun K hK => ?_) AllReadyH.nil
    go_simp
    with_reducible refine (HIA.out _ HB3.out).mono ?_
    rintro e w5 ⟨v3, rfl, hown, hb⟩
    rw [← HAS.out] at hown
    obtain ⟨ZA, cZA, rfl, hI⟩ := own_ints hown HAI.out
    have HZA := Lib.hid (show ∀ U, Below w5.heap.size w5 U → LiesI U 0 U.heap.size ZA az from fun U hU => (hI.mono_ (Nat.zero_le _) (Nat.le_refl _)).up hU)
    have HB4 := Lib.hid (HB3.out.trans (hb.mono HB3.out.size))
    have HP4 := Lib.hid hb
    have s4 := (FE.out _ HB4.out).1
    clear hb hI hown
    refine hK.out _ _ (s4) (fun hHeldB3 => ?_)
    clear hK K
    try simp only [Act.put, List.setIfInBounds_toArray, List.set_cons_zero, List.set_cons_succ, List.getElem_toArray, List.getElem_cons_succ, List.getElem_cons_zero]
    refine wpAnyH_ready (rs := [16]) (by kernel_rfl) (by simp) ?_
    refine AllReadyH.cons rfl (fun K hK => ?_) AllReadyH.nil
    go_simp
    with_reducible refine (HSA.out _ HB4.out).mono ?_
    rintro e w6 ⟨v4, rfl, hown, hb⟩
    rw [← HAS.out] at hown
    obtain ⟨ZB, cZB, rfl, hI⟩ := own_ints hown HAI.out
    have HZB := Lib.hid (show ∀ U, Below w6.heap.size w6 U → LiesI U 0 U.heap.size ZB az from fun U hU => (hI.mono_ (Nat.zero_le _) (Nat.le_refl _)).up hU)
    have HB5 := Lib.hid (HB4.out.trans (hb.mono HB4.out.size))
    have HP5 := Lib.hid hb
    have s5 := (FE.out _ HB5.out).1
    clear hb hI hown
    refine hK.out _ _ (s5) (fun hHeldB4 => ?_)
    clear hK K
    try simp only [Act.put, List.setIfInBounds_toArray, List.set_cons_zero, List.set_cons_succ, List.getElem_toArray, List.getElem_cons_succ, List.getElem_cons_zero]
    refine wpAnyH_ready (rs := [17]) (by kernel_rfl) (by simp) ?_
    refine AllReadyH.cons rfl (fun K hK => ?_) AllReadyH.nil
    go_simp
    with_reducible refine (amInts_any az az ZA ZB cZA cZB w6 (HZA.out _ HP5.out) (HZB.out _ (Below.refl _ _)) (by omega) (by omega)).mono ?_
    rintro e w7 ⟨rfl, hb⟩
    rw [show decide (az = az) = true from by simp]
    have HB6 := Lib.hid (HB5.out.trans (hb.mono HB5.out.size))
    have s6 := (FE.out _ HB6.out).1
    clear hb
    refine hK.out _ _ (s6) (fun hHeldB5 => ?_)
    clear hK K
    try simp only [Act.put, List.setIfInBounds_toArray, List.set_cons_zero, List.set_cons_succ, List.getElem_toArray, List.getElem_cons_succ, List.getElem_cons_zero]
    refine takeW 18 (v := ?vx12_18) rfl (by kernel_rfl) (fun _ _ _ h => h) (by rfl) (by assumption) ?yx12_18 ?rx12_18
    case yx12_18 => (intro w' hSw; (try dsimp only at hSw); go_simp; try with_reducible rfl)
    try simp only [Act.put, List.setIfInBounds_toArray, List.set_cons_zero, List.set_cons_succ, List.getElem_toArray, List.getElem_cons_succ, List.getElem_cons_zero]
    refine takeW 19 (v := ?vx12_19) rfl (by kernel_rfl) (fun _ _ _ h => h) (by rfl) (by assumption) ?yx12_19 ?rx12_19
    case yx12_19 => (intro w' hSw; (try dsimp only at hSw); go_simp; try with_reducible rfl)
    try simp only [Act.put, List.setIfInBounds_toArray, List.set_cons_zero, List.set_cons_succ, List.getElem_toArray, List.getElem_cons_succ, List.getElem_cons_zero]
    refine wpAnyH_done (by kernel_rfl) ?_ _
    clear s1 s2 s3 s4 s5 s6
    have HBW := Lib.hid (FE.out _ HB6.out).2.2
    go_wp2_with fail
    go_ret
    exact ⟨rfl, HBW.out⟩
end Go.Proofs.Ytkdjjkkcejijnaa
