/-
  The walk of the law FnLetScope: true at every input (made by gen_nls.py).
-/
import Derived.Test.YtkdjjkkcejijnaaDrawC
import Derived.Test.YtkdjjkkcejijnaaTreeP
import Derived.Test.YtkdjjkkcejijnaaCntVar
import Derived.Test.YtkdjjkkcejijnaaValD
import Derived.Test.YtkdjjkkcejijnaaFmtM
import Derived.Test.YtkdjjkkcejijnaaAm
import Derived.Test.YtkdjjkkcejijnaaTake
namespace Go.Proofs.Ytkdjjkkcejijnaa
open Go.RowKit Go.Shelf
set_option maxRecDepth 100000

theorem cnt_let (v op n : Int) (k : Fo) : cntN v 7 v (.cons 1 0 .nil (.cons op n k .nil)) = 0 := by simp [cntN, cntL, ownVar]
theorem let_free (v op n : Int) (k : Fo) : decide (v ∈ freeUpto 7 v (.cons 1 0 .nil (.cons op n k .nil)) 8) = false := by
  rw [decide_eq_false_iff_not, free_of (Nat.le_refl 8)]
  rintro ⟨u, rfl, _, h⟩
  exact h (cnt_let _ _ _ _)
theorem let_scope {v op n : Int} {k : Fo} (h : nodeIs 7 v (.cons 1 0 .nil (.cons op n k .nil)) (firstS 8) = true) : validOf 7 v (.cons 1 0 .nil (.cons op n k .nil)) (freeUpto 7 v (.cons 1 0 .nil (.cons op n k .nil)) 8) = true := by
  unfold validOf
  rw [Bool.and_eq_true]
  refine ⟨free_vars _ _ _, nodeIs_up (fun u hu hc => ?_) h⟩
  unfold scopeOf
  exact decide_eq_true ((free_of (Nat.le_refl 8)).2 ⟨u, rfl, hu, hc⟩)

set_option maxHeartbeats 4000000 in
theorem law_NLetScope (bs : List Nat) (A : Option Addr) (c : Nat) (w : World) (hl : LiesY w 0 w.heap.size A bs) (hlc : bs.length ≤ c) (hc : c ≤ maxLen) :
    Calls Try.prog 3 #[.slice A bs.length c] w (Gives (.bool true) w) := by
  have HC := Lib.hid (drawCountVar_any A c bs w hl hlc hc)
  unfold maxLen at hc
  by_cases hsz : bs.length ≤ 1048576
  rotate_left
  · have hgt : 1048576 < bs.length := by omega
    clear hl
    go_enter Try.func3, Try.ntmps3
    go_wp2_with fail
    go_ret
    exact ⟨rfl, Below.refl _ _⟩
  clear hl
  go_enter Try.func3, Try.ntmps3
  go_wp2_with fail
  refine HC.out.mono ?_
  rintro e w1 ⟨op, n, k, X, cx, v, rfl, ⟨bl, hi, ht, hs⟩, hvi, hb⟩
  obtain ⟨_, _, hX, hk1, hk2⟩ := ht.slice
  injection hX with hX1 hX2 hX3
  subst hX3
  obtain ⟨W, hW⟩ : ∃ W, W = w1.alloc (Obj.cells #[.int .i64 op, .int .i64 n, .slice X k.len cx] 25) := ⟨_, rfl⟩
  have hbW : Below w1.heap.size w1 W := by rw [hW]; exact (Below.refl _ _).alloc (Nat.le_refl _) _
  have hx : Row W w1.heap.size 25 #[.int .i64 op, .int .i64 n, .slice X k.len cx] := by rw [hW]; exact Row.fresh _ _ _
  have hh0 := ht.held
  have FE := Lib.hid (show ∀ U, Below W.heap.size W U → (U.cell? ⟨w1.heap.size, 0, none⟩ = some (.int .i64 op) ∧ U.cell? ⟨w1.heap.size, 1, none⟩ = some (.int .i64 n) ∧ U.cell? ⟨w1.heap.size, 2, none⟩ = some (.slice X k.len cx)) ∧ Held U U.heap.size X k ∧ Below w.heap.size w U from fun U hU => by
    have h1 := hx.below hU hx.size
    exact ⟨⟨h1.cell rfl, h1.cell rfl, h1.cell rfl⟩, (hh0.up hbW).up hU, (hb.trans (hbW.mono hb.size)).trans (hU.mono (hb.trans (hbW.mono hb.size)).size)⟩)
  obtain ⟨S1, hS1, hd1a, hd1b⟩ := fmt_empty op n k
  obtain ⟨m, hm⟩ : ∃ m : Int, m = (cntN v op n k : Nat) := ⟨_, rfl⟩
  have HIM := Lib.hid (show ∀ U, Below W.heap.size W U → Calls Try.prog 7 #[.agg #[.int .i64 op, .int .i64 n, .slice X k.len cx], .int .i64 v] U (Gives (.int .i64 m) U) from fun U hU => by
    obtain ⟨-, h1, -⟩ := FE.out U hU
    rw [hm]
    exact implCount_r op n v k X cx 0 U.heap.size U h1.1 (Nat.le_refl _) h1.rows hk1 hk2 (by omega))
  have HSP := Lib.hid (show ∀ U, Below W.heap.size W U → Calls Try.prog 8 #[.agg #[.int .i64 op, .int .i64 n, .slice X k.len cx], .int .i64 v] U (Gives (.int .i64 m) U) from fun U hU => by
    obtain ⟨-, h1, -⟩ := FE.out U hU
    rw [hm]
    exact specCount_any k.size v op n k X cx U rfl h1.1 (by omega))
  have HF := Lib.hid (show ∀ U, Below W.heap.size W U → Calls Try.prog 9 #[.agg #[.int .i64 op, .int .i64 n, .slice X k.len cx]] U (Gives (.string S1) U) from fun U hU => by
    obtain ⟨-, h1, -⟩ := FE.out U hU
    have h := implFmt_t op n k X cx U h1.1 (Nat.le_trans hk1 hk2)
    rw [hS1] at h
    exact h)
  have HI := Lib.hid (And.intro hi (And.intro hk1 (And.intro hk2 (And.intro (show k.size ≤ 1000000 by omega) hvi))))
  clear hb hbW ht hh0 hX1 HC hi hx hs hS1 hm hvi
  generalize nodeIs op n k (firstS 8) = z at hd1a hd1b
  go_upto_region 4 with fail
  rw [← hW]
  clear hW
  have HB1 := Lib.hid (show Below W.heap.size W W.drew from (Below.refl _ _).drew)
  have s1 := (FE.out _ HB1.out).1
  have hff : (m != m) = false := by simp
  by_cases hv0 : v < 0
  · have g0 : decide (v < 0) = true := decide_eq_true hv0
    go_wp2_with fail
    refine wp_region_held_drew (S := fun w' => w'.cell? ⟨w1.heap.size, 0, none⟩ = some (.int .i64 op) ∧ w'.cell? ⟨w1.heap.size, 1, none⟩ = some (.int .i64 n) ∧ w'.cell? ⟨w1.heap.size, 2, none⟩ = some (.slice X k.len cx)) (by kernel_rfl) s1 (fun hHeld => ?_)
    refine takeW 0 (v := ?vx1_0) rfl (by kernel_rfl) (fun _ _ _ h => h) (by rfl) (by assumption) ?yx1_0 ?rx1_0
    case yx1_0 => (intro w' hSw; (try dsimp only at hSw); go_simp; try with_reducible rfl)
    try simp only [Act.put, List.setIfInBounds_toArray, List.set_cons_zero, List.set_cons_succ, List.getElem_toArray, List.getElem_cons_zero]
    refine takeW 1 (v := ?vx1_1) rfl (by kernel_rfl) (fun _ _ _ h => h) (by rfl) (by assumption) ?yx1_1 ?rx1_1
    case yx1_1 => (intro w' hSw; (try dsimp only at hSw); go_simp; try with_reducible rfl)
    try simp only [Act.put, List.setIfInBounds_toArray, List.set_cons_zero, List.set_cons_succ, List.getElem_toArray, List.getElem_cons_succ, List.getElem_cons_zero]
    refine takeW 3 (v := ?vx1_3) rfl (by kernel_rfl) (fun _ _ _ h => h) (by rfl) (by assumption) ?yx1_3 ?rx1_3
    case yx1_3 => (intro w' hSw; (try dsimp only at hSw); go_simp; try with_reducible rfl)
    try simp only [Act.put, List.setIfInBounds_toArray, List.set_cons_zero, List.set_cons_succ, List.getElem_toArray, List.getElem_cons_succ, List.getElem_cons_zero]
    refine takeW 4 (v := ?vx1_4) rfl (by kernel_rfl) (fun _ _ _ h => h) (by rfl) (by assumption) ?yx1_4 ?rx1_4
    case yx1_4 => (intro w' hSw; (try dsimp only at hSw); go_simp; try with_reducible rfl)
    try simp only [Act.put, List.setIfInBounds_toArray, List.set_cons_zero, List.set_cons_succ, List.getElem_toArray, List.getElem_cons_succ, List.getElem_cons_zero]
    refine wpAnyH_ready (rs := [2]) (by kernel_rfl) (by simp) ?_
    refine AllReadyH.cons rfl (fun K hK => ?_) AllReadyH.nil
    go_simp
    with_reducible refine (HIM.out _ HB1.out).mono ?_
    rintro e w2 ⟨rfl, hb⟩
    have HB2 := Lib.hid (HB1.out.trans (hb.mono HB1.out.size))
    have s2 := (FE.out _ HB2.out).1
    clear hb
    refine hK.out _ _ (s2) (fun hHeldB1 => ?_)
    clear hK K
    try simp only [Act.put, List.setIfInBounds_toArray, List.set_cons_zero, List.set_cons_succ, List.getElem_toArray, List.getElem_cons_succ, List.getElem_cons_zero]
    refine wpAnyH_ready (rs := [5]) (by kernel_rfl) (by simp) ?_
    refine AllReadyH.cons rfl (fun K hK => ?_) AllReadyH.nil
    go_simp
    with_reducible refine (HSP.out _ HB2.out).mono ?_
    rintro e w3 ⟨rfl, hb⟩
    have HB3 := Lib.hid (HB2.out.trans (hb.mono HB2.out.size))
    have s3 := (FE.out _ HB3.out).1
    clear hb
    refine hK.out _ _ (s3) (fun hHeldB2 => ?_)
    clear hK K
    try simp only [Act.put, List.setIfInBounds_toArray, List.set_cons_zero, List.set_cons_succ, List.getElem_toArray, List.getElem_cons_succ, List.getElem_cons_zero]
    refine takeW 6 (v := .bool false) rfl (by kernel_rfl) (fun _ _ _ h => h) (by rfl) (by assumption) ?yx3_6 ?rx3_6
    case yx3_6 => (intro w' hSw; (try dsimp only at hSw); go_simp; try first | with_reducible rfl | simp [hff])
    try simp only [Act.put, List.setIfInBounds_toArray, List.set_cons_zero, List.set_cons_succ, List.getElem_toArray, List.getElem_cons_succ, List.getElem_cons_zero]
    refine takeW 7 (v := ?vx3_7) rfl (by kernel_rfl) (fun _ _ _ h => h) (by rfl) (by assumption) ?yx3_7 ?rx3_7
    case yx3_7 => (intro w' hSw; (try dsimp only at hSw); go_simp; try with_reducible rfl)
    try simp only [Act.put, List.setIfInBounds_toArray, List.set_cons_zero, List.set_cons_succ, List.getElem_toArray, List.getElem_cons_succ, List.getElem_cons_zero]
    refine takeW 8 (v := ?vx3_8) rfl (by kernel_rfl) (fun _ _ _ h => h) (by rfl) (by assumption) ?yx3_8 ?rx3_8
    case yx3_8 => (intro w' hSw; (try dsimp only at hSw); go_simp; try with_reducible rfl)
    try simp only [Act.put, List.setIfInBounds_toArray, List.set_cons_zero, List.set_cons_succ, List.getElem_toArray, List.getElem_cons_succ, List.getElem_cons_zero]
    refine takeW 9 (v := .bool true) rfl (by kernel_rfl) (fun _ _ _ h => h) (by rfl) (by assumption) ?yx3_9 ?rx3_9
    case yx3_9 => (intro w' hSw; (try dsimp only at hSw); go_simp; try first | with_reducible rfl | simp [g0])
    try simp only [Act.put, List.setIfInBounds_toArray, List.set_cons_zero, List.set_cons_succ, List.getElem_toArray, List.getElem_cons_succ, List.getElem_cons_zero]
    refine takeW 10 (v := ?vx3_10) rfl (by kernel_rfl) (fun _ _ _ h => h) (by rfl) (by assumption) ?yx3_10 ?rx3_10
    case yx3_10 => (intro w' hSw; (try dsimp only at hSw); go_simp; try with_reducible rfl)
    try simp only [Act.put, List.setIfInBounds_toArray, List.set_cons_zero, List.set_cons_succ, List.getElem_toArray, List.getElem_cons_succ, List.getElem_cons_zero]
    refine takeW 11 (v := ?vx3_11) rfl (by kernel_rfl) (fun _ _ _ h => h) (by rfl) (by assumption) ?yx3_11 ?rx3_11
    case yx3_11 => (intro w' hSw; (try dsimp only at hSw); go_simp; try with_reducible rfl)
    try simp only [Act.put, List.setIfInBounds_toArray, List.set_cons_zero, List.set_cons_succ, List.getElem_toArray, List.getElem_cons_succ, List.getElem_cons_zero]
    refine takeN 12 rfl (by kernel_rfl) (fun _ _ _ h => h) (by rfl) (by assumption) ?rx3_12
    try simp only [Act.put, List.setIfInBounds_toArray, List.set_cons_zero, List.set_cons_succ, List.getElem_toArray, List.getElem_cons_succ, List.getElem_cons_zero]
    refine takeN 13 rfl (by kernel_rfl) (fun _ _ _ h => h) (by rfl) (by assumption) ?rx3_13
    try simp only [Act.put, List.setIfInBounds_toArray, List.set_cons_zero, List.set_cons_succ, List.getElem_toArray, List.getElem_cons_succ, List.getElem_cons_zero]
    refine takeW 14 (v := ?vx3_14) rfl (by kernel_rfl) (fun _ _ _ h => h) (by rfl) (by assumption) ?yx3_14 ?rx3_14
    case yx3_14 => (intro w' hSw; (try dsimp only at hSw); go_simp; try with_reducible rfl)
    try simp only [Act.put, List.setIfInBounds_toArray, List.set_cons_zero, List.set_cons_succ, List.getElem_toArray, List.getElem_cons_succ, List.getElem_cons_zero]
    refine takeW 15 (v := ?vx3_15) rfl (by kernel_rfl) (fun _ _ _ h => h) (by rfl) (by assumption) ?yx3_15 ?rx3_15
    case yx3_15 => (intro w' hSw; (try dsimp only at hSw); go_simp; try with_reducible rfl)
    try simp only [Act.put, List.setIfInBounds_toArray, List.set_cons_zero, List.set_cons_succ, List.getElem_toArray, List.getElem_cons_succ, List.getElem_cons_zero]
    refine takeN 16 rfl (by kernel_rfl) (fun _ _ _ h => h) (by rfl) (by assumption) ?rx3_16
    try simp only [Act.put, List.setIfInBounds_toArray, List.set_cons_zero, List.set_cons_succ, List.getElem_toArray, List.getElem_cons_succ, List.getElem_cons_zero]
    refine takeN 17 rfl (by kernel_rfl) (fun _ _ _ h => h) (by rfl) (by assumption) ?rx3_17
    try simp only [Act.put, List.setIfInBounds_toArray, List.set_cons_zero, List.set_cons_succ, List.getElem_toArray, List.getElem_cons_succ, List.getElem_cons_zero]
    refine takeN 18 rfl (by kernel_rfl) (fun _ _ _ h => h) (by rfl) (by assumption) ?rx3_18
    try simp only [Act.put, List.setIfInBounds_toArray, List.set_cons_zero, List.set_cons_succ, List.getElem_toArray, List.getElem_cons_succ, List.getElem_cons_zero]
    refine takeW 19 (v := ?vx3_19) rfl (by kernel_rfl) (fun _ _ _ h => h) (by rfl) (by assumption) ?yx3_19 ?rx3_19
    case yx3_19 => (intro w' hSw; (try dsimp only at hSw); go_simp; try with_reducible rfl)
    try simp only [Act.put, List.setIfInBounds_toArray, List.set_cons_zero, List.set_cons_succ, List.getElem_toArray, List.getElem_cons_succ, List.getElem_cons_zero]
    refine wpAnyH_done (by kernel_rfl) ?_ _
    clear s1 s2 s3
    have HB20 := Lib.hid (show Below W.heap.size W w3.drew from HB3.out.drew)
    have s20 := (FE.out _ HB20.out).1
    go_wp2_with fail
    go_region_held3 (fun w' => w'.cell? ⟨w1.heap.size, 0, none⟩ = some (.int .i64 op) ∧ w'.cell? ⟨w1.heap.size, 1, none⟩ = some (.int .i64 n) ∧ w'.cell? ⟨w1.heap.size, 2, none⟩ = some (.slice X k.len cx))
      (first | with_reducible exact s20 | with_reducible exact s21 | with_reducible exact s22 | fail)
      (first
        | (go_at_call 7
           with_reducible refine (HIM.out _ HB20.out).mono ?_
           rintro e w21 ⟨rfl, hb⟩
           have HB21 := Lib.hid (HB20.out.trans (hb.mono HB20.out.size))
           have s21 := (FE.out _ HB21.out).1
           clear hb)
        | (go_at_call 8
           with_reducible refine (HSP.out _ HB21.out).mono ?_
           rintro e w22 ⟨rfl, hb⟩
           have HB22 := Lib.hid (HB21.out.trans (hb.mono HB21.out.size))
           have s22 := (FE.out _ HB22.out).1
           clear hb))
    all_goals
      clear s20 s21 s22
      have HBW := Lib.hid (FE.out _ HB22.out).2.2
      go_wp2_with fail
      go_ret
      exact ⟨by simp, HBW.out⟩
  by_cases hv8 : v ≥ 8
  · have g0 : decide (v < 0) = false := decide_eq_false hv0
    have g8 : decide (v ≥ 8) = true := decide_eq_true hv8
    go_wp2_with fail
    refine wp_region_held_drew (S := fun w' => w'.cell? ⟨w1.heap.size, 0, none⟩ = some (.int .i64 op) ∧ w'.cell? ⟨w1.heap.size, 1, none⟩ = some (.int .i64 n) ∧ w'.cell? ⟨w1.heap.size, 2, none⟩ = some (.slice X k.len cx)) (by kernel_rfl) s1 (fun hHeld => ?_)
    refine takeW 0 (v := ?vx4_0) rfl (by kernel_rfl) (fun _ _ _ h => h) (by rfl) (by assumption) ?yx4_0 ?rx4_0
    case yx4_0 => (intro w' hSw; (try dsimp only at hSw); go_simp; try with_reducible rfl)
    try simp only [Act.put, List.setIfInBounds_toArray, List.set_cons_zero, List.set_cons_succ, List.getElem_toArray, List.getElem_cons_zero]
    refine takeW 1 (v := ?vx4_1) rfl (by kernel_rfl) (fun _ _ _ h => h) (by rfl) (by assumption) ?yx4_1 ?rx4_1
    case yx4_1 => (intro w' hSw; (try dsimp only at hSw); go_simp; try with_reducible rfl)
    try simp only [Act.put, List.setIfInBounds_toArray, List.set_cons_zero, List.set_cons_succ, List.getElem_toArray, List.getElem_cons_succ, List.getElem_cons_zero]
    refine takeW 3 (v := ?vx4_3) rfl (by kernel_rfl) (fun _ _ _ h => h) (by rfl) (by assumption) ?yx4_3 ?rx4_3
    case yx4_3 => (intro w' hSw; (try dsimp only at hSw); go_simp; try with_reducible rfl)
    try simp only [Act.put, List.setIfInBounds_toArray, List.set_cons_zero, List.set_cons_succ, List.getElem_toArray, List.getElem_cons_succ, List.getElem_cons_zero]
    refine takeW 4 (v := ?vx4_4) rfl (by kernel_rfl) (fun _ _ _ h => h) (by rfl) (by assumption) ?yx4_4 ?rx4_4
    case yx4_4 => (intro w' hSw; (try dsimp only at hSw); go_simp; try with_reducible rfl)
    try simp only [Act.put, List.setIfInBounds_toArray, List.set_cons_zero, List.set_cons_succ, List.getElem_toArray, List.getElem_cons_succ, List.getElem_cons_zero]
    refine wpAnyH_ready (rs := [2]) (by kernel_rfl) (by simp) ?_
    refine AllReadyH.cons rfl (fun K hK => ?_) AllReadyH.nil
    go_simp
    with_reducible refine (HIM.out _ HB1.out).mono ?_
    rintro e w2 ⟨rfl, hb⟩
    have HB2 := Lib.hid (HB1.out.trans (hb.mono HB1.out.size))
    have s2 := (FE.out _ HB2.out).1
    clear hb
    refine hK.out _ _ (s2) (fun hHeldB1 => ?_)
    clear hK K
    try simp only [Act.put, List.setIfInBounds_toArray, List.set_cons_zero, List.set_cons_succ, List.getElem_toArray, List.getElem_cons_succ, List.getElem_cons_zero]
    refine wpAnyH_ready (rs := [5]) (by kernel_rfl) (by simp) ?_
    refine AllReadyH.cons rfl (fun K hK => ?_) AllReadyH.nil
    go_simp
    with_reducible refine (HSP.out _ HB2.out).mono ?_
    rintro e w3 ⟨rfl, hb⟩
    have HB3 := Lib.hid (HB2.out.trans (hb.mono HB2.out.size))
    have s3 := (FE.out _ HB3.out).1
    clear hb
    refine hK.out _ _ (s3) (fun hHeldB2 => ?_)
    clear hK K
    try simp only [Act.put, List.setIfInBounds_toArray, List.set_cons_zero, List.set_cons_succ, List.getElem_toArray, List.getElem_cons_succ, List.getElem_cons_zero]
    refine takeW 6 (v := .bool false) rfl (by kernel_rfl) (fun _ _ _ h => h) (by rfl) (by assumption) ?yx6_6 ?rx6_6
    case yx6_6 => (intro w' hSw; (try dsimp only at hSw); go_simp; try first | with_reducible rfl | simp [hff])
    try simp only [Act.put, List.setIfInBounds_toArray, List.set_cons_zero, List.set_cons_succ, List.getElem_toArray, List.getElem_cons_succ, List.getElem_cons_zero]
    refine takeW 7 (v := ?vx6_7) rfl (by kernel_rfl) (fun _ _ _ h => h) (by rfl) (by assumption) ?yx6_7 ?rx6_7
    case yx6_7 => (intro w' hSw; (try dsimp only at hSw); go_simp; try with_reducible rfl)
    try simp only [Act.put, List.setIfInBounds_toArray, List.set_cons_zero, List.set_cons_succ, List.getElem_toArray, List.getElem_cons_succ, List.getElem_cons_zero]
    refine takeW 8 (v := ?vx6_8) rfl (by kernel_rfl) (fun _ _ _ h => h) (by rfl) (by assumption) ?yx6_8 ?rx6_8
    case yx6_8 => (intro w' hSw; (try dsimp only at hSw); go_simp; try with_reducible rfl)
    try simp only [Act.put, List.setIfInBounds_toArray, List.set_cons_zero, List.set_cons_succ, List.getElem_toArray, List.getElem_cons_succ, List.getElem_cons_zero]
    refine takeW 9 (v := .bool false) rfl (by kernel_rfl) (fun _ _ _ h => h) (by rfl) (by assumption) ?yx6_9 ?rx6_9
    case yx6_9 => (intro w' hSw; (try dsimp only at hSw); go_simp; try first | with_reducible rfl | simp [g0])
    try simp only [Act.put, List.setIfInBounds_toArray, List.set_cons_zero, List.set_cons_succ, List.getElem_toArray, List.getElem_cons_succ, List.getElem_cons_zero]
    refine takeW 10 (v := ?vx6_10) rfl (by kernel_rfl) (fun _ _ _ h => h) (by rfl) (by assumption) ?yx6_10 ?rx6_10
    case yx6_10 => (intro w' hSw; (try dsimp only at hSw); go_simp; try with_reducible rfl)
    try simp only [Act.put, List.setIfInBounds_toArray, List.set_cons_zero, List.set_cons_succ, List.getElem_toArray, List.getElem_cons_succ, List.getElem_cons_zero]
    refine takeW 11 (v := ?vx6_11) rfl (by kernel_rfl) (fun _ _ _ h => h) (by rfl) (by assumption) ?yx6_11 ?rx6_11
    case yx6_11 => (intro w' hSw; (try dsimp only at hSw); go_simp; try with_reducible rfl)
    try simp only [Act.put, List.setIfInBounds_toArray, List.set_cons_zero, List.set_cons_succ, List.getElem_toArray, List.getElem_cons_succ, List.getElem_cons_zero]
    refine takeW 12 (v := ?vx6_12) rfl (by kernel_rfl) (fun _ _ _ h => h) (by rfl) (by assumption) ?yx6_12 ?rx6_12
    case yx6_12 => (intro w' hSw; (try dsimp only at hSw); go_simp; try with_reducible rfl)
    try simp only [Act.put, List.setIfInBounds_toArray, List.set_cons_zero, List.set_cons_succ, List.getElem_toArray, List.getElem_cons_succ, List.getElem_cons_zero]
    refine takeW 13 (v := .bool true) rfl (by kernel_rfl) (fun _ _ _ h => h) (by rfl) (by assumption) ?yx6_13 ?rx6_13
    case yx6_13 => (intro w' hSw; (try dsimp only at hSw); go_simp; try first | with_reducible rfl | simp [g8])
    try simp only [Act.put, List.setIfInBounds_toArray, List.set_cons_zero, List.set_cons_succ, List.getElem_toArray, List.getElem_cons_succ, List.getElem_cons_zero]
    refine takeW 14 (v := ?vx6_14) rfl (by kernel_rfl) (fun _ _ _ h => h) (by rfl) (by assumption) ?yx6_14 ?rx6_14
    case yx6_14 => (intro w' hSw; (try dsimp only at hSw); go_simp; try with_reducible rfl)
    try simp only [Act.put, List.setIfInBounds_toArray, List.set_cons_zero, List.set_cons_succ, List.getElem_toArray, List.getElem_cons_succ, List.getElem_cons_zero]
    refine takeW 15 (v := ?vx6_15) rfl (by kernel_rfl) (fun _ _ _ h => h) (by rfl) (by assumption) ?yx6_15 ?rx6_15
    case yx6_15 => (intro w' hSw; (try dsimp only at hSw); go_simp; try with_reducible rfl)
    try simp only [Act.put, List.setIfInBounds_toArray, List.set_cons_zero, List.set_cons_succ, List.getElem_toArray, List.getElem_cons_succ, List.getElem_cons_zero]
    refine takeN 16 rfl (by kernel_rfl) (fun _ _ _ h => h) (by rfl) (by assumption) ?rx6_16
    try simp only [Act.put, List.setIfInBounds_toArray, List.set_cons_zero, List.set_cons_succ, List.getElem_toArray, List.getElem_cons_succ, List.getElem_cons_zero]
    refine takeN 17 rfl (by kernel_rfl) (fun _ _ _ h => h) (by rfl) (by assumption) ?rx6_17
    try simp only [Act.put, List.setIfInBounds_toArray, List.set_cons_zero, List.set_cons_succ, List.getElem_toArray, List.getElem_cons_succ, List.getElem_cons_zero]
    refine takeN 18 rfl (by kernel_rfl) (fun _ _ _ h => h) (by rfl) (by assumption) ?rx6_18
    try simp only [Act.put, List.setIfInBounds_toArray, List.set_cons_zero, List.set_cons_succ, List.getElem_toArray, List.getElem_cons_succ, List.getElem_cons_zero]
    refine takeW 19 (v := ?vx6_19) rfl (by kernel_rfl) (fun _ _ _ h => h) (by rfl) (by assumption) ?yx6_19 ?rx6_19
    case yx6_19 => (intro w' hSw; (try dsimp only at hSw); go_simp; try with_reducible rfl)
    try simp only [Act.put, List.setIfInBounds_toArray, List.set_cons_zero, List.set_cons_succ, List.getElem_toArray, List.getElem_cons_succ, List.getElem_cons_zero]
    refine wpAnyH_done (by kernel_rfl) ?_ _
    clear s1 s2 s3
    have HB20 := Lib.hid (show Below W.heap.size W w3.drew from HB3.out.drew)
    have s20 := (FE.out _ HB20.out).1
    go_wp2_with fail
    go_region_held3 (fun w' => w'.cell? ⟨w1.heap.size, 0, none⟩ = some (.int .i64 op) ∧ w'.cell? ⟨w1.heap.size, 1, none⟩ = some (.int .i64 n) ∧ w'.cell? ⟨w1.heap.size, 2, none⟩ = some (.slice X k.len cx))
      (first | with_reducible exact s20 | with_reducible exact s21 | with_reducible exact s22 | fail)
      (first
        | (go_at_call 7
           with_reducible refine (HIM.out _ HB20.out).mono ?_
           rintro e w21 ⟨rfl, hb⟩
           have HB21 := Lib.hid (HB20.out.trans (hb.mono HB20.out.size))
           have s21 := (FE.out _ HB21.out).1
           clear hb)
        | (go_at_call 8
           with_reducible refine (HSP.out _ HB21.out).mono ?_
           rintro e w22 ⟨rfl, hb⟩
           have HB22 := Lib.hid (HB21.out.trans (hb.mono HB21.out.size))
           have s22 := (FE.out _ HB22.out).1
           clear hb))
    all_goals
      clear s20 s21 s22
      have HBW := Lib.hid (FE.out _ HB22.out).2.2
      go_wp2_with fail
      go_ret
      exact ⟨by simp, HBW.out⟩
  have g0 : decide (v < 0) = false := decide_eq_false hv0
  have g8 : decide (v ≥ 8) = false := decide_eq_false hv8
  cases z with
  | false =>
    have hd1 : S1 = ⟨#[]⟩ := hd1a rfl
    clear hd1a hd1b
    subst hd1
    have hd1 : (1 : Nat) = 1 := rfl
    go_wp2_with fail
    refine wp_region_held_drew (S := fun w' => w'.cell? ⟨w1.heap.size, 0, none⟩ = some (.int .i64 op) ∧ w'.cell? ⟨w1.heap.size, 1, none⟩ = some (.int .i64 n) ∧ w'.cell? ⟨w1.heap.size, 2, none⟩ = some (.slice X k.len cx)) (by kernel_rfl) s1 (fun hHeld => ?_)
    refine takeW 0 (v := ?vx7_0) rfl (by kernel_rfl) (fun _ _ _ h => h) (by rfl) (by assumption) ?yx7_0 ?rx7_0
    case yx7_0 => (intro w' hSw; (try dsimp only at hSw); go_simp; try with_reducible rfl)
    try simp only [Act.put, List.setIfInBounds_toArray, List.set_cons_zero, List.set_cons_succ, List.getElem_toArray, List.getElem_cons_zero]
    refine takeW 1 (v := ?vx7_1) rfl (by kernel_rfl) (fun _ _ _ h => h) (by rfl) (by assumption) ?yx7_1 ?rx7_1
    case yx7_1 => (intro w' hSw; (try dsimp only at hSw); go_simp; try with_reducible rfl)
    try simp only [Act.put, List.setIfInBounds_toArray, List.set_cons_zero, List.set_cons_succ, List.getElem_toArray, List.getElem_cons_succ, List.getElem_cons_zero]
    refine takeW 3 (v := ?vx7_3) rfl (by kernel_rfl) (fun _ _ _ h => h) (by rfl) (by assumption) ?yx7_3 ?rx7_3
    case yx7_3 => (intro w' hSw; (try dsimp only at hSw); go_simp; try with_reducible rfl)
    try simp only [Act.put, List.setIfInBounds_toArray, List.set_cons_zero, List.set_cons_succ, List.getElem_toArray, List.getElem_cons_succ, List.getElem_cons_zero]
    refine takeW 4 (v := ?vx7_4) rfl (by kernel_rfl) (fun _ _ _ h => h) (by rfl) (by assumption) ?yx7_4 ?rx7_4
    case yx7_4 => (intro w' hSw; (try dsimp only at hSw); go_simp; try with_reducible rfl)
    try simp only [Act.put, List.setIfInBounds_toArray, List.set_cons_zero, List.set_cons_succ, List.getElem_toArray, List.getElem_cons_succ, List.getElem_cons_zero]
    refine wpAnyH_ready (rs := [2]) (by kernel_rfl) (by simp) ?_
    refine AllReadyH.cons rfl (fun K hK => ?_) AllReadyH.nil
    go_simp
    with_reducible refine (HIM.out _ HB1.out).mono ?_
    rintro e w2 ⟨rfl, hb⟩
    have HB2 := Lib.hid (HB1.out.trans (hb.mono HB1.out.size))
    have s2 := (FE.out _ HB2.out).1
    clear hb
    refine hK.out _ _ (s2) (fun hHeldB1 => ?_)
    clear hK K
    try simp only [Act.put, List.setIfInBounds_toArray, List.set_cons_zero, List.set_cons_succ, List.getElem_toArray, List.getElem_cons_succ, List.getElem_cons_zero]
    refine wpAnyH_ready (rs := [5]) (by kernel_rfl) (by simp) ?_
    refine AllReadyH.cons rfl (fun K hK => ?_) AllReadyH.nil
    go_simp
    with_reducible refine (HSP.out _ HB2.out).mono ?_
    rintro e w3 ⟨rfl, hb⟩
    have HB3 := Lib.hid (HB2.out.trans (hb.mono HB2.out.size))
    have s3 := (FE.out _ HB3.out).1
    clear hb
    refine hK.out _ _ (s3) (fun hHeldB2 => ?_)
    clear hK K
    try simp only [Act.put, List.setIfInBounds_toArray, List.set_cons_zero, List.set_cons_succ, List.getElem_toArray, List.getElem_cons_succ, List.getElem_cons_zero]
    refine takeW 6 (v := .bool false) rfl (by kernel_rfl) (fun _ _ _ h => h) (by rfl) (by assumption) ?yx9_6 ?rx9_6
    case yx9_6 => (intro w' hSw; (try dsimp only at hSw); go_simp; try first | with_reducible rfl | simp [hff])
    try simp only [Act.put, List.setIfInBounds_toArray, List.set_cons_zero, List.set_cons_succ, List.getElem_toArray, List.getElem_cons_succ, List.getElem_cons_zero]
    refine takeW 7 (v := ?vx9_7) rfl (by kernel_rfl) (fun _ _ _ h => h) (by rfl) (by assumption) ?yx9_7 ?rx9_7
    case yx9_7 => (intro w' hSw; (try dsimp only at hSw); go_simp; try with_reducible rfl)
    try simp only [Act.put, List.setIfInBounds_toArray, List.set_cons_zero, List.set_cons_succ, List.getElem_toArray, List.getElem_cons_succ, List.getElem_cons_zero]
    refine takeW 8 (v := ?vx9_8) rfl (by kernel_rfl) (fun _ _ _ h => h) (by rfl) (by assumption) ?yx9_8 ?rx9_8
    case yx9_8 => (intro w' hSw; (try dsimp only at hSw); go_simp; try with_reducible rfl)
    try simp only [Act.put, List.setIfInBounds_toArray, List.set_cons_zero, List.set_cons_succ, List.getElem_toArray, List.getElem_cons_succ, List.getElem_cons_zero]
    refine takeW 9 (v := .bool false) rfl (by kernel_rfl) (fun _ _ _ h => h) (by rfl) (by assumption) ?yx9_9 ?rx9_9
    case yx9_9 => (intro w' hSw; (try dsimp only at hSw); go_simp; try first | with_reducible rfl | simp [g0])
    try simp only [Act.put, List.setIfInBounds_toArray, List.set_cons_zero, List.set_cons_succ, List.getElem_toArray, List.getElem_cons_succ, List.getElem_cons_zero]
    refine takeW 10 (v := ?vx9_10) rfl (by kernel_rfl) (fun _ _ _ h => h) (by rfl) (by assumption) ?yx9_10 ?rx9_10
    case yx9_10 => (intro w' hSw; (try dsimp only at hSw); go_simp; try with_reducible rfl)
    try simp only [Act.put, List.setIfInBounds_toArray, List.set_cons_zero, List.set_cons_succ, List.getElem_toArray, List.getElem_cons_succ, List.getElem_cons_zero]
    refine takeW 11 (v := ?vx9_11) rfl (by kernel_rfl) (fun _ _ _ h => h) (by rfl) (by assumption) ?yx9_11 ?rx9_11
    case yx9_11 => (intro w' hSw; (try dsimp only at hSw); go_simp; try with_reducible rfl)
    try simp only [Act.put, List.setIfInBounds_toArray, List.set_cons_zero, List.set_cons_succ, List.getElem_toArray, List.getElem_cons_succ, List.getElem_cons_zero]
    refine takeW 12 (v := ?vx9_12) rfl (by kernel_rfl) (fun _ _ _ h => h) (by rfl) (by assumption) ?yx9_12 ?rx9_12
    case yx9_12 => (intro w' hSw; (try dsimp only at hSw); go_simp; try with_reducible rfl)
    try simp only [Act.put, List.setIfInBounds_toArray, List.set_cons_zero, List.set_cons_succ, List.getElem_toArray, List.getElem_cons_succ, List.getElem_cons_zero]
    refine takeW 13 (v := .bool false) rfl (by kernel_rfl) (fun _ _ _ h => h) (by rfl) (by assumption) ?yx9_13 ?rx9_13
    case yx9_13 => (intro w' hSw; (try dsimp only at hSw); go_simp; try first | with_reducible rfl | simp [g8])
    try simp only [Act.put, List.setIfInBounds_toArray, List.set_cons_zero, List.set_cons_succ, List.getElem_toArray, List.getElem_cons_succ, List.getElem_cons_zero]
    refine takeW 14 (v := ?vx9_14) rfl (by kernel_rfl) (fun _ _ _ h => h) (by rfl) (by assumption) ?yx9_14 ?rx9_14
    case yx9_14 => (intro w' hSw; (try dsimp only at hSw); go_simp; try with_reducible rfl)
    try simp only [Act.put, List.setIfInBounds_toArray, List.set_cons_zero, List.set_cons_succ, List.getElem_toArray, List.getElem_cons_succ, List.getElem_cons_zero]
    refine takeW 15 (v := ?vx9_15) rfl (by kernel_rfl) (fun _ _ _ h => h) (by rfl) (by assumption) ?yx9_15 ?rx9_15
    case yx9_15 => (intro w' hSw; (try dsimp only at hSw); go_simp; try with_reducible rfl)
    try simp only [Act.put, List.setIfInBounds_toArray, List.set_cons_zero, List.set_cons_succ, List.getElem_toArray, List.getElem_cons_succ, List.getElem_cons_zero]
    refine takeW 16 (v := ?vx9_16) rfl (by kernel_rfl) (fun _ _ _ h => h) (by rfl) (by assumption) ?yx9_16 ?rx9_16
    case yx9_16 => (intro w' hSw; (try dsimp only at hSw); go_simp; try with_reducible rfl)
    try simp only [Act.put, List.setIfInBounds_toArray, List.set_cons_zero, List.set_cons_succ, List.getElem_toArray, List.getElem_cons_succ, List.getElem_cons_zero]
    refine wpAnyH_ready (rs := [17]) (by kernel_rfl) (by simp) ?_
    refine AllReadyH.cons rfl (fun K hK => ?_) AllReadyH.nil
    go_simp
    with_reducible refine (HF.out _ HB3.out).mono ?_
    rintro e w4 ⟨rfl, hb⟩
    have HB4 := Lib.hid (HB3.out.trans (hb.mono HB3.out.size))
    have s4 := (FE.out _ HB4.out).1
    clear hb
    refine hK.out _ _ (s4) (fun hHeldB3 => ?_)
    clear hK K
    try simp only [Act.put, List.setIfInBounds_toArray, List.set_cons_zero, List.set_cons_succ, List.getElem_toArray, List.getElem_cons_succ, List.getElem_cons_zero]
    refine takeW 18 (v := .bool true) rfl (by kernel_rfl) (fun _ _ _ h => h) (by rfl) (by assumption) ?yx10_18 ?rx10_18
    case yx10_18 => (intro w' hSw; (try dsimp only at hSw); go_simp; try first | with_reducible rfl | simp [hd1])
    try simp only [Act.put, List.setIfInBounds_toArray, List.set_cons_zero, List.set_cons_succ, List.getElem_toArray, List.getElem_cons_succ, List.getElem_cons_zero]
    refine takeW 19 (v := ?vx10_19) rfl (by kernel_rfl) (fun _ _ _ h => h) (by rfl) (by assumption) ?yx10_19 ?rx10_19
    case yx10_19 => (intro w' hSw; (try dsimp only at hSw); go_simp; try with_reducible rfl)
    try simp only [Act.put, List.setIfInBounds_toArray, List.set_cons_zero, List.set_cons_succ, List.getElem_toArray, List.getElem_cons_succ, List.getElem_cons_zero]
    refine wpAnyH_done (by kernel_rfl) ?_ _
    clear s1 s2 s3 s4
    have HB20 := Lib.hid (show Below W.heap.size W w4.drew from HB4.out.drew)
    have s20 := (FE.out _ HB20.out).1
    go_wp2_with fail
    go_region_held3 (fun w' => w'.cell? ⟨w1.heap.size, 0, none⟩ = some (.int .i64 op) ∧ w'.cell? ⟨w1.heap.size, 1, none⟩ = some (.int .i64 n) ∧ w'.cell? ⟨w1.heap.size, 2, none⟩ = some (.slice X k.len cx))
      (first | with_reducible exact s20 | with_reducible exact s21 | with_reducible exact s22 | fail)
      (first
        | (go_at_call 7
           with_reducible refine (HIM.out _ HB20.out).mono ?_
           rintro e w21 ⟨rfl, hb⟩
           have HB21 := Lib.hid (HB20.out.trans (hb.mono HB20.out.size))
           have s21 := (FE.out _ HB21.out).1
           clear hb)
        | (go_at_call 8
           with_reducible refine (HSP.out _ HB21.out).mono ?_
           rintro e w22 ⟨rfl, hb⟩
           have HB22 := Lib.hid (HB21.out.trans (hb.mono HB21.out.size))
           have s22 := (FE.out _ HB22.out).1
           clear hb))
    all_goals
      clear s20 s21 s22
      have HBW := Lib.hid (FE.out _ HB22.out).2.2
      go_wp2_with fail
      go_ret
      exact ⟨by simp, HBW.out⟩
  | true =>
    have hd1x : ¬ S1.toList = [] := hd1b rfl
    clear hd1a hd1b
    go_wp2_with fail
    refine wp_region_held_drew (S := fun w' => w'.cell? ⟨w1.heap.size, 0, none⟩ = some (.int .i64 op) ∧ w'.cell? ⟨w1.heap.size, 1, none⟩ = some (.int .i64 n) ∧ w'.cell? ⟨w1.heap.size, 2, none⟩ = some (.slice X k.len cx)) (by kernel_rfl) s1 (fun hHeld => ?_)
    refine takeW 0 (v := ?vx11_0) rfl (by kernel_rfl) (fun _ _ _ h => h) (by rfl) (by assumption) ?yx11_0 ?rx11_0
    case yx11_0 => (intro w' hSw; (try dsimp only at hSw); go_simp; try with_reducible rfl)
    try simp only [Act.put, List.setIfInBounds_toArray, List.set_cons_zero, List.set_cons_succ, List.getElem_toArray, List.getElem_cons_zero]
    refine takeW 1 (v := ?vx11_1) rfl (by kernel_rfl) (fun _ _ _ h => h) (by rfl) (by assumption) ?yx11_1 ?rx11_1
    case yx11_1 => (intro w' hSw; (try dsimp only at hSw); go_simp; try with_reducible rfl)
    try simp only [Act.put, List.setIfInBounds_toArray, List.set_cons_zero, List.set_cons_succ, List.getElem_toArray, List.getElem_cons_succ, List.getElem_cons_zero]
    refine takeW 3 (v := ?vx11_3) rfl (by kernel_rfl) (fun _ _ _ h => h) (by rfl) (by assumption) ?yx11_3 ?rx11_3
    case yx11_3 => (intro w' hSw; (try dsimp only at hSw); go_simp; try with_reducible rfl)
    try simp only [Act.put, List.setIfInBounds_toArray, List.set_cons_zero, List.set_cons_succ, List.getElem_toArray, List.getElem_cons_succ, List.getElem_cons_zero]
    refine takeW 4 (v := ?vx11_4) rfl (by kernel_rfl) (fun _ _ _ h => h) (by rfl) (by assumption) ?yx11_4 ?rx11_4
    case yx11_4 => (intro w' hSw; (try dsimp only at hSw); go_simp; try with_reducible rfl)
    try simp only [Act.put, List.setIfInBounds_toArray, List.set_cons_zero, List.set_cons_succ, List.getElem_toArray, List.getElem_cons_succ, List.getElem_cons_zero]
    refine wpAnyH_ready (rs := [2]) (by kernel_rfl) (by simp) ?_
    refine AllReadyH.cons rfl (fun K hK => ?_) AllReadyH.nil
    go_simp
    with_reducible refine (HIM.out _ HB1.out).mono ?_
    rintro e w2 ⟨rfl, hb⟩
    have HB2 := Lib.hid (HB1.out.trans (hb.mono HB1.out.size))
    have s2 := (FE.out _ HB2.out).1
    clear hb
    refine hK.out _ _ (s2) (fun hHeldB1 => ?_)
    clear hK K
    try simp only [Act.put, List.setIfInBounds_toArray, List.set_cons_zero, List.set_cons_succ, List.getElem_toArray, List.getElem_cons_succ, List.getElem_cons_zero]
    refine wpAnyH_ready (rs := [5]) (by kernel_rfl) (by simp) ?_
    refine AllReadyH.cons rfl (fun K hK => ?_) AllReadyH.nil
    go_simp
    with_reducible refine (HSP.out _ HB2.out).mono ?_
    rintro e w3 ⟨rfl, hb⟩
    have HB3 := Lib.hid (HB2.out.trans (hb.mono HB2.out.size))
    have s3 := (FE.out _ HB3.out).1
    clear hb
    refine hK.out _ _ (s3) (fun hHeldB2 => ?_)
    clear hK K
    try simp only [Act.put, List.setIfInBounds_toArray, List.set_cons_zero, List.set_cons_succ, List.getElem_toArray, List.getElem_cons_succ, List.getElem_cons_zero]
    refine takeW 6 (v := .bool false) rfl (by kernel_rfl) (fun _ _ _ h => h) (by rfl) (by assumption) ?yx13_6 ?rx13_6
    case yx13_6 => (intro w' hSw; (try dsimp only at hSw); go_simp; try first | with_reducible rfl | simp [hff])
    try simp only [Act.put, List.setIfInBounds_toArray, List.set_cons_zero, List.set_cons_succ, List.getElem_toArray, List.getElem_cons_succ, List.getElem_cons_zero]
    refine takeW 7 (v := ?vx13_7) rfl (by kernel_rfl) (fun _ _ _ h => h) (by rfl) (by assumption) ?yx13_7 ?rx13_7
    case yx13_7 => (intro w' hSw; (try dsimp only at hSw); go_simp; try with_reducible rfl)
    try simp only [Act.put, List.setIfInBounds_toArray, List.set_cons_zero, List.set_cons_succ, List.getElem_toArray, List.getElem_cons_succ, List.getElem_cons_zero]
    refine takeW 8 (v := ?vx13_8) rfl (by kernel_rfl) (fun _ _ _ h => h) (by rfl) (by assumption) ?yx13_8 ?rx13_8
    case yx13_8 => (intro w' hSw; (try dsimp only at hSw); go_simp; try with_reducible rfl)
    try simp only [Act.put, List.setIfInBounds_toArray, List.set_cons_zero, List.set_cons_succ, List.getElem_toArray, List.getElem_cons_succ, List.getElem_cons_zero]
    refine takeW 9 (v := .bool false) rfl (by kernel_rfl) (fun _ _ _ h => h) (by rfl) (by assumption) ?yx13_9 ?rx13_9
    case yx13_9 => (intro w' hSw; (try dsimp only at hSw); go_simp; try first | with_reducible rfl | simp [g0])
    try simp only [Act.put, List.setIfInBounds_toArray, List.set_cons_zero, List.set_cons_succ, List.getElem_toArray, List.getElem_cons_succ, List.getElem_cons_zero]
    refine takeW 10 (v := ?vx13_10) rfl (by kernel_rfl) (fun _ _ _ h => h) (by rfl) (by assumption) ?yx13_10 ?rx13_10
    case yx13_10 => (intro w' hSw; (try dsimp only at hSw); go_simp; try with_reducible rfl)
    try simp only [Act.put, List.setIfInBounds_toArray, List.set_cons_zero, List.set_cons_succ, List.getElem_toArray, List.getElem_cons_succ, List.getElem_cons_zero]
    refine takeW 11 (v := ?vx13_11) rfl (by kernel_rfl) (fun _ _ _ h => h) (by rfl) (by assumption) ?yx13_11 ?rx13_11
    case yx13_11 => (intro w' hSw; (try dsimp only at hSw); go_simp; try with_reducible rfl)
    try simp only [Act.put, List.setIfInBounds_toArray, List.set_cons_zero, List.set_cons_succ, List.getElem_toArray, List.getElem_cons_succ, List.getElem_cons_zero]
    refine takeW 12 (v := ?vx13_12) rfl (by kernel_rfl) (fun _ _ _ h => h) (by rfl) (by assumption) ?yx13_12 ?rx13_12
    case yx13_12 => (intro w' hSw; (try dsimp only at hSw); go_simp; try with_reducible rfl)
    try simp only [Act.put, List.setIfInBounds_toArray, List.set_cons_zero, List.set_cons_succ, List.getElem_toArray, List.getElem_cons_succ, List.getElem_cons_zero]
    refine takeW 13 (v := .bool false) rfl (by kernel_rfl) (fun _ _ _ h => h) (by rfl) (by assumption) ?yx13_13 ?rx13_13
    case yx13_13 => (intro w' hSw; (try dsimp only at hSw); go_simp; try first | with_reducible rfl | simp [g8])
    try simp only [Act.put, List.setIfInBounds_toArray, List.set_cons_zero, List.set_cons_succ, List.getElem_toArray, List.getElem_cons_succ, List.getElem_cons_zero]
    refine takeW 14 (v := ?vx13_14) rfl (by kernel_rfl) (fun _ _ _ h => h) (by rfl) (by assumption) ?yx13_14 ?rx13_14
    case yx13_14 => (intro w' hSw; (try dsimp only at hSw); go_simp; try with_reducible rfl)
    try simp only [Act.put, List.setIfInBounds_toArray, List.set_cons_zero, List.set_cons_succ, List.getElem_toArray, List.getElem_cons_succ, List.getElem_cons_zero]
    refine takeW 15 (v := ?vx13_15) rfl (by kernel_rfl) (fun _ _ _ h => h) (by rfl) (by assumption) ?yx13_15 ?rx13_15
    case yx13_15 => (intro w' hSw; (try dsimp only at hSw); go_simp; try with_reducible rfl)
    try simp only [Act.put, List.setIfInBounds_toArray, List.set_cons_zero, List.set_cons_succ, List.getElem_toArray, List.getElem_cons_succ, List.getElem_cons_zero]
    refine takeW 16 (v := ?vx13_16) rfl (by kernel_rfl) (fun _ _ _ h => h) (by rfl) (by assumption) ?yx13_16 ?rx13_16
    case yx13_16 => (intro w' hSw; (try dsimp only at hSw); go_simp; try with_reducible rfl)
    try simp only [Act.put, List.setIfInBounds_toArray, List.set_cons_zero, List.set_cons_succ, List.getElem_toArray, List.getElem_cons_succ, List.getElem_cons_zero]
    refine wpAnyH_ready (rs := [17]) (by kernel_rfl) (by simp) ?_
    refine AllReadyH.cons rfl (fun K hK => ?_) AllReadyH.nil
    go_simp
    with_reducible refine (HF.out _ HB3.out).mono ?_
    rintro e w4 ⟨rfl, hb⟩
    have HB4 := Lib.hid (HB3.out.trans (hb.mono HB3.out.size))
    have s4 := (FE.out _ HB4.out).1
    clear hb
    refine hK.out _ _ (s4) (fun hHeldB3 => ?_)
    clear hK K
    try simp only [Act.put, List.setIfInBounds_toArray, List.set_cons_zero, List.set_cons_succ, List.getElem_toArray, List.getElem_cons_succ, List.getElem_cons_zero]
    refine takeW 18 (v := .bool false) rfl (by kernel_rfl) (fun _ _ _ h => h) (by rfl) (by assumption) ?yx14_18 ?rx14_18
    case yx14_18 => (intro w' hSw; (try dsimp only at hSw); go_simp; try first | with_reducible rfl | simp [hd1x])
    try simp only [Act.put, List.setIfInBounds_toArray, List.set_cons_zero, List.set_cons_succ, List.getElem_toArray, List.getElem_cons_succ, List.getElem_cons_zero]
    refine takeW 19 (v := ?vx14_19) rfl (by kernel_rfl) (fun _ _ _ h => h) (by rfl) (by assumption) ?yx14_19 ?rx14_19
    case yx14_19 => (intro w' hSw; (try dsimp only at hSw); go_simp; try with_reducible rfl)
    try simp only [Act.put, List.setIfInBounds_toArray, List.set_cons_zero, List.set_cons_succ, List.getElem_toArray, List.getElem_cons_succ, List.getElem_cons_zero]
    refine wpAnyH_done (by kernel_rfl) ?_ _
    clear s1 s2 s3 s4 HIM HSP HF hff hd1x hHeld hHeldB1 hHeldB2 hHeldB3
    obtain ⟨⟨q0, q1, q2⟩, -⟩ := FE.out w4 HB4.out
    obtain ⟨V, hV⟩ : ∃ V, V = (w4.alloc (Obj.cells #[.int .i64 1, .int .i64 0, .slice none 0 0, .int .i64 op, .int .i64 n, .slice X k.len cx] 25)).alloc (Obj.cells #[.int .i64 7, .int .i64 v, .slice (some ⟨w4.heap.size, 0, none⟩) 2 2] 25) := ⟨_, rfl⟩
    have hbV : Below w4.heap.size w4 V := by rw [hV]; exact ((Below.refl _ _).alloc (Nat.le_refl _) _).alloc (by simp) _
    have hr2 : Row V w4.heap.size 25 #[.int .i64 1, .int .i64 0, .slice none 0 0, .int .i64 op, .int .i64 n, .slice X k.len cx] := by rw [hV]; exact (Row.fresh w4 _ _).alloc _
    have hr3 : Row V (w4.heap.size + 1) 25 #[.int .i64 7, .int .i64 v, .slice (some ⟨w4.heap.size, 0, none⟩) 2 2] := by
      rw [hV]
      have h := Row.fresh (w4.alloc (Obj.cells #[.int .i64 1, .int .i64 0, .slice none 0 0, .int .i64 op, .int .i64 n, .slice X k.len cx] 25)) 25 #[.int .i64 7, .int .i64 v, .slice (some ⟨w4.heap.size, 0, none⟩) 2 2]
      rwa [World.size_alloc] at h
    have HBV := Lib.hid (HB4.out.trans (hbV.mono HB4.out.size))
    have HR := Lib.hid (And.intro hr2 hr3)
    have HCV := Lib.hid (show ∀ U, Below V.heap.size V U → (U.cell? ⟨w4.heap.size + 1, 0, none⟩ = some (.int .i64 7) ∧ U.cell? ⟨w4.heap.size + 1, 1, none⟩ = some (.int .i64 v) ∧ U.cell? ⟨w4.heap.size + 1, 2, none⟩ = some (.slice (some ⟨w4.heap.size, 0, none⟩) 2 2)) ∧ Held U U.heap.size (some ⟨w4.heap.size, 0, none⟩) (.cons 1 0 .nil (.cons op n k .nil)) ∧ Below w.heap.size w U from fun U hU => by
      have g2 := HR.out.1.below hU HR.out.1.size
      have g3 := HR.out.2.below hU HR.out.2.size
      have hbu := HBV.out.trans (hU.mono HBV.out.size)
      obtain ⟨-, hh, hbw⟩ := FE.out U hbu
      obtain ⟨hi, hk1, hk2, -, hvi⟩ := HI.out
      exact ⟨⟨g3.cell rfl, g3.cell rfl, g3.cell rfl⟩, held_two (ak := .nil) (Aa := none) (ca := 0) g2 g2.size (Held.empty U _ none) hh ⟨by unfold I64; omega, by unfold I64; omega⟩ hi ⟨Nat.le_refl _, by unfold maxLen; omega⟩ ⟨hk1, hk2⟩, hbw⟩)
    obtain ⟨fs, hfs⟩ : ∃ fs, fs = freeUpto 7 v (.cons 1 0 .nil (.cons op n k .nil)) 8 := ⟨_, rfl⟩
    have hfl : fs.length ≤ 8 := by rw [hfs]; exact freeUpto_len _ _ _ 8
    have hsz2 : Fo.size (.cons 1 0 .nil (.cons op n k .nil)) ≤ 1048576 := by have := HI.out.2.2.2.1; simp only [Fo.size]; omega
    have HFI := Lib.hid (show ∀ x ∈ fs, I64 x by rw [hfs]; exact fun x hx => freeUpto_small _ _ _ 8 x (Nat.le_refl _) hx)
    have HFN := Lib.hid (show decide (v ∈ fs) = false by rw [hfs]; exact let_free v op n k)
    have HFV := Lib.hid (show nodeIs 7 v (.cons 1 0 .nil (.cons op n k .nil)) (firstS 8) = true → validOf 7 v (.cons 1 0 .nil (.cons op n k .nil)) fs = true by rw [hfs]; exact fun h => let_scope h)
    have HFR := Lib.hid (show Calls Try.prog 10 #[.agg #[.int .i64 7, .int .i64 v, .slice (some ⟨w4.heap.size, 0, none⟩) 2 2]] V (ListPost fs V) by
      rw [hfs]
      obtain ⟨-, hh, -⟩ := HCV.out V (Below.refl _ _)
      exact implFree_r 7 v (.cons 1 0 .nil (.cons op n k .nil)) (some ⟨w4.heap.size, 0, none⟩) 2 0 V.heap.size V hh.1 (Nat.le_refl _) hh.rows (Nat.le_refl _) (by unfold maxLen; omega) hsz2)
    obtain ⟨S2, hS2, hd2a, hd2b⟩ := fmt_empty 7 v (.cons 1 0 .nil (.cons op n k .nil))
    have HF2 := Lib.hid (show ∀ U : World, Below V.heap.size V U → Calls Try.prog 9 #[.agg #[.int .i64 7, .int .i64 v, .slice (some ⟨w4.heap.size, 0, none⟩) 2 2]] U (Gives (.string S2) U) from fun U hU => by
      obtain ⟨-, hh, -⟩ := HCV.out U hU
      have h := implFmt_t 7 v (.cons 1 0 .nil (.cons op n k .nil)) (some ⟨w4.heap.size, 0, none⟩) 2 U hh.1 (by simp [Fo.len, maxLen])
      rw [hS2] at h
      exact h)
    have HEV := Lib.hid (fun (U : World) (hU : Below V.heap.size V U) (ZA : Option Addr) (Zc : Nat) (hz : LiesI U 0 U.heap.size ZA fs) => show Calls Try.prog 12 #[.agg #[.int .i64 7, .int .i64 v, .slice (some ⟨w4.heap.size, 0, none⟩) 2 2], .slice ZA fs.length Zc] U (Gives (.bool (validOf 7 v (.cons 1 0 .nil (.cons op n k .nil)) fs)) U) from
      implExprValid_any 7 v (.cons 1 0 .nil (.cons op n k .nil)) (some ⟨w4.heap.size, 0, none⟩) 2 fs ZA Zc U (HCV.out U hU).2.1.1 (by simp [Fo.len, maxLen]) hz (by omega))
    clear hbV hr2 hr3 hfs hS2 hsz2
    generalize nodeIs 7 v (.cons 1 0 .nil (.cons op n k .nil)) (firstS 8) = zv at hd2a hd2b HFV
    generalize validOf 7 v (.cons 1 0 .nil (.cons op n k .nil)) fs = ev at HFV HEV
    go_upto_region 7 with fail
    rw [← hV]
    clear hV q0 q1 q2
    obtain ⟨⟨q0, q1, q2⟩, -⟩ := HCV.out V (Below.refl _ _)
    go_wp2_with fail
    refine HFR.out.mono ?_
    rintro e w5 ⟨vf, rfl, hown, hb5⟩
    obtain ⟨ZA, Zc, rfl, hI⟩ := own_ints hown HFI.out
    have HZ := Lib.hid (show ∀ U, Below w5.heap.size w5 U → LiesI U 0 U.heap.size ZA fs from fun U hU => (hI.mono_ (Nat.zero_le _) (Nat.le_refl _)).up hU)
    have HB5 := Lib.hid hb5
    clear hb5 hown hI q0 q1 q2
    go_wp2_with fail
    refine (amIn_any fs ZA Zc v w5 (HZ.out _ (Below.refl _ _)) (by omega)).mono ?_
    rintro e w6 ⟨rfl, hb6⟩
    rw [HFN.out]
    have HP6 := Lib.hid hb6
    have HB6 := Lib.hid (HB5.out.trans (hb6.mono HB5.out.size))
    clear hb6
    obtain ⟨⟨q0, q1, q2⟩, -⟩ := HCV.out w6 HB6.out
    go_wp2_with fail
    refine (HF2.out w6 HB6.out).mono ?_
    rintro e w7 ⟨rfl, hb7⟩
    have HP7 := Lib.hid (HP6.out.trans (hb7.mono HP6.out.size))
    have HB7 := Lib.hid (HB6.out.trans (hb7.mono HB6.out.size))
    clear hb7 q0 q1 q2
    cases zv with
    | false =>
      have hd2 : S2 = ⟨#[]⟩ := hd2a rfl
      clear hd2a hd2b
      subst hd2
      have HBW := Lib.hid (HCV.out w7 HB7.out).2.2
      go_wp2_with fail
      go_ret
      exact ⟨rfl, HBW.out⟩
    | true =>
      have hd2x : ¬ S2.toList = [] := hd2b rfl
      have hd2y : (S2.toList == ([] : List UInt8)) = false := by simpa using hd2x
      clear hd2a hd2b
      have hev : ev = true := HFV.out rfl
      subst hev
      obtain ⟨⟨q0, q1, q2⟩, -⟩ := HCV.out w7 HB7.out
      go_wp2_with fail
      refine (HEV.out w7 HB7.out ZA Zc (HZ.out _ HP7.out)).mono ?_
      rintro e w8 ⟨rfl, hb8⟩
      have HBW := Lib.hid ((HCV.out w7 HB7.out).2.2.trans (hb8.mono (HCV.out w7 HB7.out).2.2.size))
      clear hb8
      go_wp2_with fail
      go_ret
      exact ⟨rfl, HBW.out⟩
end Go.Proofs.Ytkdjjkkcejijnaa
