/-
  The walk of the law FnFirstAtom: true at every input (made by gen_nfat.py). A variable comes first in itself, and in a sum that begins with it.
-/
import Derived.Test.YtiifgkommaeklaaDrawFV
import Derived.Test.YtiifgkommaeklaaFirstIV
import Derived.Test.YtiifgkommaeklaaFirstT
import Derived.Test.YtiifgkommaeklaaTreeP
namespace Go.Proofs.Ytiifgkommaeklaa
open Go.RowKit Go.Shelf
set_option maxRecDepth 100000

theorem first_own {ds : List De} {v : Int} (h : libOk ds = true) (hv : inVar v = true) : firstB ds 2 v .nil v = true := by
  have h1 : nodeIs 2 v .nil (firstS 8) = true := by
    have hv' := hv
    unfold inVar at hv'
    simp only [Bool.and_eq_true, decide_eq_true_eq] at hv'
    rcases (show v = 0 ∨ v = 1 ∨ v = 2 ∨ v = 3 ∨ v = 4 ∨ v = 5 ∨ v = 6 ∨ v = 7 by omega) with e | e | e | e | e | e | e | e <;> subst e <;> rfl
  have h2 : callsFitB ds 2 v .nil = true := by
    unfold callsFitB
    rw [h1]
    rfl
  unfold firstB
  rw [h, h2, hv]
  unfold ansS
  rw [ans_other (by decide) (by omega)]
  simp [ansL, firstNZ, behindN]
theorem first_sum {ds : List De} {v op n : Int} {k : Fo} (h : libOk ds = true) (hv : inVar v = true) (hf : callsFitB ds 4 0 (.cons 2 v .nil (.cons op n k .nil)) = true) : firstB ds 4 0 (.cons 2 v .nil (.cons op n k .nil)) v = true := by
  unfold firstB
  rw [h, hf, hv]
  unfold ansS
  rw [ans_other (by decide) (by omega), firstNZ_cons rfl, ans_other (by decide) (by omega)]
  simp [ansL, firstNZ, behindN]

set_option maxHeartbeats 4000000 in
theorem law_NFirstAtom (bs : List Nat) (A : Option Addr) (c : Nat) (w : World) (hl : LiesY w 0 w.heap.size A bs) (hlc : bs.length ≤ c) (hc : c ≤ maxLen) :
    Calls Try.prog 3 #[.slice A bs.length c] w (Gives (.bool true) w) := by
  have HC := Lib.hid (drawFV_any A c bs w hl hlc hc)
  unfold maxLen at hc
  by_cases hsz : bs.length ≤ 1048576
  rotate_left
  · have hgt : 1048576 < bs.length := by omega
    clear hl
    go_enter Try.func3, Try.ntmps3
    go_wp2_with fail
    go_ret
    exact ⟨rfl, Below.refl _ _⟩
  clear hl
  go_enter Try.func3, Try.ntmps3
  go_wp2_with fail
  refine HC.out.mono ?_
  rintro e w1 ⟨ds, X, cx, op, n, k, Y, cy, bl, v, rfl, ⟨hd, h1, h2, h3, h4⟩, hi, ht, hks, hvi, hb⟩
  obtain ⟨_, _, hX, hk1, hk2⟩ := ht.slice
  injection hX with hX1 hX2 hX3
  subst hX3
  obtain ⟨W, hW⟩ : ∃ W, W = w1.alloc (Obj.cells #[.int .i64 op, .int .i64 n, .slice Y k.len cy] 26) := ⟨_, rfl⟩
  have hbW : Below w1.heap.size w1 W := by rw [hW]; exact (Below.refl _ _).alloc (Nat.le_refl _) _
  have hh0 := ht.held
  have hx : Row W w1.heap.size 26 #[.int .i64 op, .int .i64 n, .slice Y k.len cy] := by rw [hW]; exact Row.fresh _ _ _
  have FE := Lib.hid (show ∀ U, Below W.heap.size W U → (U.cell? ⟨w1.heap.size, 0, none⟩ = some (.int .i64 op) ∧ U.cell? ⟨w1.heap.size, 1, none⟩ = some (.int .i64 n) ∧ U.cell? ⟨w1.heap.size, 2, none⟩ = some (.slice Y k.len cy)) ∧ LiesD U 0 U.heap.size X ds ∧ Lies U 0 U.heap.size Y 0 k ∧ Held U U.heap.size Y k ∧ Below w.heap.size w U from fun U hU => by
    have h1 := hx.below hU hx.size
    have hh := (hh0.up hbW).up hU
    exact ⟨⟨h1.cell rfl, h1.cell rfl, h1.cell rfl⟩, (hd.up hbW).up hU, hh.1, hh, (hb.trans (hbW.mono hb.size)).trans (hU.mono (hb.trans (hbW.mono hb.size)).size)⟩)
  have HIM := Lib.hid (show ∀ U, Below W.heap.size W U → Calls Try.prog 7 #[.slice X ds.length cx, .agg #[.int .i64 op, .int .i64 n, .slice Y k.len cy], .int .i64 v] U (Gives (.bool (firstB ds op n k v)) U) from fun U hU => by
    obtain ⟨-, g1, g2, -⟩ := FE.out U hU
    exact implFirst_r ds X cx op n k Y cy v 0 U.heap.size 0 U.heap.size U g1 (Nat.le_refl _) g2 (Nat.le_refl _) h4 hk1 hk2 (by omega))
  have HSP := Lib.hid (show ∀ U, Below W.heap.size W U → Calls Try.prog 8 #[.slice X ds.length cx, .agg #[.int .i64 op, .int .i64 n, .slice Y k.len cy], .int .i64 v] U (Gives (.bool (firstB ds op n k v)) U) from fun U hU => by
    obtain ⟨-, g1, g2, -⟩ := FE.out U hU
    exact specFirst_any ds X cx op n k Y cy v U g1 g2 h4 (Nat.le_trans hk1 hk2) (by omega))
  have HLV := Lib.hid (show ∀ U, Below W.heap.size W U → Calls Try.prog 9 #[.slice X ds.length cx] U (Gives (.bool (libOk ds)) U) from fun U hU => by
    obtain ⟨-, g1, g2, -⟩ := FE.out U hU
    exact implLibValid_r ds X cx 0 U.heap.size U g1 (Nat.le_refl _) h4)
  have HI := Lib.hid (And.intro hi (And.intro hk1 (And.intro hk2 (And.intro hks hvi))))
  have HDZ := Lib.hid (And.intro h3 h4)
  generalize firstB ds op n k v = first at HIM HSP
  clear hb hbW ht hh0 hd hX1 hX2 HC hi hvi hx hks h1 h2 h3 h4
  go_upto_region 4 with fail
  rw [← hW]
  clear hW
  have HB1 := Lib.hid (show Below W.heap.size W W.drew from (Below.refl _ _).drew)
  have s1 := (FE.out _ HB1.out).1
  have hff : (first != first) = false := by simp
  by_cases hv0 : v < 0
  · have g0 : decide (v < 0) = true := decide_eq_true hv0
    go_wp2_with fail
    refine wp_region_held_drew (S := fun w' => w'.cell? ⟨w1.heap.size, 0, none⟩ = some (.int .i64 op) ∧ w'.cell? ⟨w1.heap.size, 1, none⟩ = some (.int .i64 n) ∧ w'.cell? ⟨w1.heap.size, 2, none⟩ = some (.slice Y k.len cy)) (by kernel_rfl) s1 (fun hHeld => ?_)
    refine takeW 0 (v := ?vx1_0) rfl (by kernel_rfl) (fun _ _ _ h => h) (by rfl) (by assumption) ?yx1_0 ?rx1_0
    case yx1_0 => (intro w' hSw; (try dsimp only at hSw); go_simp; try with_reducible rfl)
    try simp only [Act.put, List.setIfInBounds_toArray, List.set_cons_zero, List.set_cons_succ, List.getElem_toArray, List.getElem_cons_zero]
    refine takeW 1 (v := ?vx1_1) rfl (by kernel_rfl) (fun _ _ _ h => h) (by rfl) (by assumption) ?yx1_1 ?rx1_1
    case yx1_1 => (intro w' hSw; (try dsimp only at hSw); go_simp; try with_reducible rfl)
    try simp only [Act.put, List.setIfInBounds_toArray, List.set_cons_zero, List.set_cons_succ, List.getElem_toArray, List.getElem_cons_succ, List.getElem_cons_zero]
    refine takeW 2 (v := ?vx1_2) rfl (by kernel_rfl) (fun _ _ _ h => h) (by rfl) (by assumption) ?yx1_2 ?rx1_2
    case yx1_2 => (intro w' hSw; (try dsimp only at hSw); go_simp; try with_reducible rfl)
    try simp only [Act.put, List.setIfInBounds_toArray, List.set_cons_zero, List.set_cons_succ, List.getElem_toArray, List.getElem_cons_succ, List.getElem_cons_zero]
    refine takeW 4 (v := ?vx1_4) rfl (by kernel_rfl) (fun _ _ _ h => h) (by rfl) (by assumption) ?yx1_4 ?rx1_4
    case yx1_4 => (intro w' hSw; (try dsimp only at hSw); go_simp; try with_reducible rfl)
    try simp only [Act.put, List.setIfInBounds_toArray, List.set_cons_zero, List.set_cons_succ, List.getElem_toArray, List.getElem_cons_succ, List.getElem_cons_zero]
    refine takeW 5 (v := ?vx1_5) rfl (by kernel_rfl) (fun _ _ _ h => h) (by rfl) (by assumption) ?yx1_5 ?rx1_5
    case yx1_5 => (intro w' hSw; (try dsimp only at hSw); go_simp; try with_reducible rfl)
    try simp only [Act.put, List.setIfInBounds_toArray, List.set_cons_zero, List.set_cons_succ, List.getElem_toArray, List.getElem_cons_succ, List.getElem_cons_zero]
    refine takeW 6 (v := ?vx1_6) rfl (by kernel_rfl) (fun _ _ _ h => h) (by rfl) (by assumption) ?yx1_6 ?rx1_6
    case yx1_6 => (intro w' hSw; (try dsimp only at hSw); go_simp; try with_reducible rfl)
    try simp only [Act.put, List.setIfInBounds_toArray, List.set_cons_zero, List.set_cons_succ, List.getElem_toArray, List.getElem_cons_succ, List.getElem_cons_zero]
    refine wpAnyH_ready (rs := [3]) (by kernel_rfl) (by simp) ?_
    refine AllReadyH.cons rfl (fun K hK => ?_) AllReadyH.nil
    go_simp
    with_reducible refine (HIM.out _ HB1.out).mono ?_
    rintro e w2 ⟨rfl, hb⟩
    have HB2 := Lib.hid (HB1.out.trans (hb.mono HB1.out.size))
    have s2 := (FE.out _ HB2.out).1
    clear hb
    refine hK.out _ _ (s2) (fun hHeldB1 => ?_)
    clear hK K
    try simp only [Act.put, List.setIfInBounds_toArray, List.set_cons_zero, List.set_cons_succ, List.getElem_toArray, List.getElem_cons_succ, List.getElem_cons_zero]
    refine wpAnyH_ready (rs := [7]) (by kernel_rfl) (by simp) ?_
    refine AllReadyH.cons rfl (fun K hK => ?_) AllReadyH.nil
    go_simp
    with_reducible refine (HSP.out _ HB2.out).mono ?_
    rintro e w3 ⟨rfl, hb⟩
    have HB3 := Lib.hid (HB2.out.trans (hb.mono HB2.out.size))
    have s3 := (FE.out _ HB3.out).1
    clear hb
    refine hK.out _ _ (s3) (fun hHeldB2 => ?_)
    clear hK K
    try simp only [Act.put, List.setIfInBounds_toArray, List.set_cons_zero, List.set_cons_succ, List.getElem_toArray, List.getElem_cons_succ, List.getElem_cons_zero]
    refine takeW 8 (v := .bool false) rfl (by kernel_rfl) (fun _ _ _ h => h) (by rfl) (by assumption) ?yx3_8 ?rx3_8
    case yx3_8 => (intro w' hSw; (try dsimp only at hSw); go_simp; try first | with_reducible rfl | simp [hff])
    try simp only [Act.put, List.setIfInBounds_toArray, List.set_cons_zero, List.set_cons_succ, List.getElem_toArray, List.getElem_cons_succ, List.getElem_cons_zero]
    refine takeW 9 (v := ?vx3_9) rfl (by kernel_rfl) (fun _ _ _ h => h) (by rfl) (by assumption) ?yx3_9 ?rx3_9
    case yx3_9 => (intro w' hSw; (try dsimp only at hSw); go_simp; try with_reducible rfl)
    try simp only [Act.put, List.setIfInBounds_toArray, List.set_cons_zero, List.set_cons_succ, List.getElem_toArray, List.getElem_cons_succ, List.getElem_cons_zero]
    refine takeW 10 (v := ?vx3_10) rfl (by kernel_rfl) (fun _ _ _ h => h) (by rfl) (by assumption) ?yx3_10 ?rx3_10
    case yx3_10 => (intro w' hSw; (try dsimp only at hSw); go_simp; try with_reducible rfl)
    try simp only [Act.put, List.setIfInBounds_toArray, List.set_cons_zero, List.set_cons_succ, List.getElem_toArray, List.getElem_cons_succ, List.getElem_cons_zero]
    refine takeW 11 (v := .bool true) rfl (by kernel_rfl) (fun _ _ _ h => h) (by rfl) (by assumption) ?yx3_11 ?rx3_11
    case yx3_11 => (intro w' hSw; (try dsimp only at hSw); go_simp; try first | with_reducible rfl | simp [g0])
    try simp only [Act.put, List.setIfInBounds_toArray, List.set_cons_zero, List.set_cons_succ, List.getElem_toArray, List.getElem_cons_succ, List.getElem_cons_zero]
    refine takeW 12 (v := ?vx3_12) rfl (by kernel_rfl) (fun _ _ _ h => h) (by rfl) (by assumption) ?yx3_12 ?rx3_12
    case yx3_12 => (intro w' hSw; (try dsimp only at hSw); go_simp; try with_reducible rfl)
    try simp only [Act.put, List.setIfInBounds_toArray, List.set_cons_zero, List.set_cons_succ, List.getElem_toArray, List.getElem_cons_succ, List.getElem_cons_zero]
    refine takeW 13 (v := ?vx3_13) rfl (by kernel_rfl) (fun _ _ _ h => h) (by rfl) (by assumption) ?yx3_13 ?rx3_13
    case yx3_13 => (intro w' hSw; (try dsimp only at hSw); go_simp; try with_reducible rfl)
    try simp only [Act.put, List.setIfInBounds_toArray, List.set_cons_zero, List.set_cons_succ, List.getElem_toArray, List.getElem_cons_succ, List.getElem_cons_zero]
    refine takeN 14 rfl (by kernel_rfl) (fun _ _ _ h => h) (by rfl) (by assumption) ?rx3_14
    try simp only [Act.put, List.setIfInBounds_toArray, List.set_cons_zero, List.set_cons_succ, List.getElem_toArray, List.getElem_cons_succ, List.getElem_cons_zero]
    refine takeN 15 rfl (by kernel_rfl) (fun _ _ _ h => h) (by rfl) (by assumption) ?rx3_15
    try simp only [Act.put, List.setIfInBounds_toArray, List.set_cons_zero, List.set_cons_succ, List.getElem_toArray, List.getElem_cons_succ, List.getElem_cons_zero]
    refine takeW 16 (v := ?vx3_16) rfl (by kernel_rfl) (fun _ _ _ h => h) (by rfl) (by assumption) ?yx3_16 ?rx3_16
    case yx3_16 => (intro w' hSw; (try dsimp only at hSw); go_simp; try with_reducible rfl)
    try simp only [Act.put, List.setIfInBounds_toArray, List.set_cons_zero, List.set_cons_succ, List.getElem_toArray, List.getElem_cons_succ, List.getElem_cons_zero]
    refine takeW 17 (v := ?vx3_17) rfl (by kernel_rfl) (fun _ _ _ h => h) (by rfl) (by assumption) ?yx3_17 ?rx3_17
    case yx3_17 => (intro w' hSw; (try dsimp only at hSw); go_simp; try with_reducible rfl)
    try simp only [Act.put, List.setIfInBounds_toArray, List.set_cons_zero, List.set_cons_succ, List.getElem_toArray, List.getElem_cons_succ, List.getElem_cons_zero]
    refine takeN 18 rfl (by kernel_rfl) (fun _ _ _ h => h) (by rfl) (by assumption) ?rx3_18
    try simp only [Act.put, List.setIfInBounds_toArray, List.set_cons_zero, List.set_cons_succ, List.getElem_toArray, List.getElem_cons_succ, List.getElem_cons_zero]
    refine takeN 19 rfl (by kernel_rfl) (fun _ _ _ h => h) (by rfl) (by assumption) ?rx3_19
    try simp only [Act.put, List.setIfInBounds_toArray, List.set_cons_zero, List.set_cons_succ, List.getElem_toArray, List.getElem_cons_succ, List.getElem_cons_zero]
    refine takeN 20 rfl (by kernel_rfl) (fun _ _ _ h => h) (by rfl) (by assumption) ?rx3_20
    try simp only [Act.put, List.setIfInBounds_toArray, List.set_cons_zero, List.set_cons_succ, List.getElem_toArray, List.getElem_cons_succ, List.getElem_cons_zero]
    refine takeW 21 (v := ?vx3_21) rfl (by kernel_rfl) (fun _ _ _ h => h) (by rfl) (by assumption) ?yx3_21 ?rx3_21
    case yx3_21 => (intro w' hSw; (try dsimp only at hSw); go_simp; try with_reducible rfl)
    try simp only [Act.put, List.setIfInBounds_toArray, List.set_cons_zero, List.set_cons_succ, List.getElem_toArray, List.getElem_cons_succ, List.getElem_cons_zero]
    refine wpAnyH_done (by kernel_rfl) ?_ _
    all_goals
      clear s1 s2 s3
      have HB20 := Lib.hid (show Below W.heap.size W w3.drew from HB3.out.drew)
      have s20 := (FE.out _ HB20.out).1
      go_wp2_with fail
      go_region_held3 (fun w' => w'.cell? ⟨w1.heap.size, 0, none⟩ = some (.int .i64 op) ∧ w'.cell? ⟨w1.heap.size, 1, none⟩ = some (.int .i64 n) ∧ w'.cell? ⟨w1.heap.size, 2, none⟩ = some (.slice Y k.len cy))
        (first | with_reducible exact s20 | with_reducible exact s21 | with_reducible exact s22 | fail)
        (first
          | (go_at_call 7
             with_reducible refine (HIM.out _ HB20.out).mono ?_
             rintro e w21 ⟨rfl, hb⟩
             have HB21 := Lib.hid (HB20.out.trans (hb.mono HB20.out.size))
             have s21 := (FE.out _ HB21.out).1
             clear hb)
          | (go_at_call 8
             with_reducible refine (HSP.out _ HB21.out).mono ?_
             rintro e w22 ⟨rfl, hb⟩
             have HB22 := Lib.hid (HB21.out.trans (hb.mono HB21.out.size))
             have s22 := (FE.out _ HB22.out).1
             clear hb))
      all_goals
        clear s20 s21 s22
        have HBW := Lib.hid (FE.out _ HB22.out).2.2.2.2
        go_wp2_with fail
        go_ret
        exact ⟨by simp, HBW.out⟩
  by_cases hv8 : v ≥ 8
  · have g0 : decide (v < 0) = false := decide_eq_false hv0
    have g8 : decide (v ≥ 8) = true := decide_eq_true hv8
    go_wp2_with fail
    refine wp_region_held_drew (S := fun w' => w'.cell? ⟨w1.heap.size, 0, none⟩ = some (.int .i64 op) ∧ w'.cell? ⟨w1.heap.size, 1, none⟩ = some (.int .i64 n) ∧ w'.cell? ⟨w1.heap.size, 2, none⟩ = some (.slice Y k.len cy)) (by kernel_rfl) s1 (fun hHeld => ?_)
    refine takeW 0 (v := ?vx4_0) rfl (by kernel_rfl) (fun _ _ _ h => h) (by rfl) (by assumption) ?yx4_0 ?rx4_0
    case yx4_0 => (intro w' hSw; (try dsimp only at hSw); go_simp; try with_reducible rfl)
    try simp only [Act.put, List.setIfInBounds_toArray, List.set_cons_zero, List.set_cons_succ, List.getElem_toArray, List.getElem_cons_zero]
    refine takeW 1 (v := ?vx4_1) rfl (by kernel_rfl) (fun _ _ _ h => h) (by rfl) (by assumption) ?yx4_1 ?rx4_1
    case yx4_1 => (intro w' hSw; (try dsimp only at hSw); go_simp; try with_reducible rfl)
    try simp only [Act.put, List.setIfInBounds_toArray, List.set_cons_zero, List.set_cons_succ, List.getElem_toArray, List.getElem_cons_succ, List.getElem_cons_zero]
    refine takeW 2 (v := ?vx4_2) rfl (by kernel_rfl) (fun _ _ _ h => h) (by rfl) (by assumption) ?yx4_2 ?rx4_2
    case yx4_2 => (intro w' hSw; (try dsimp only at hSw); go_simp; try with_reducible rfl)
    try simp only [Act.put, List.setIfInBounds_toArray, List.set_cons_zero, List.set_cons_succ, List.getElem_toArray, List.getElem_cons_succ, List.getElem_cons_zero]
    refine takeW 4 (v := ?vx4_4) rfl (by kernel_rfl) (fun _ _ _ h => h) (by rfl) (by assumption) ?yx4_4 ?rx4_4
    case yx4_4 => (intro w' hSw; (try dsimp only at hSw); go_simp; try with_reducible rfl)
    try simp only [Act.put, List.setIfInBounds_toArray, List.set_cons_zero, List.set_cons_succ, List.getElem_toArray, List.getElem_cons_succ, List.getElem_cons_zero]
    refine takeW 5 (v := ?vx4_5) rfl (by kernel_rfl) (fun _ _ _ h => h) (by rfl) (by assumption) ?yx4_5 ?rx4_5
    case yx4_5 => (intro w' hSw; (try dsimp only at hSw); go_simp; try with_reducible rfl)
    try simp only [Act.put, List.setIfInBounds_toArray, List.set_cons_zero, List.set_cons_succ, List.getElem_toArray, List.getElem_cons_succ, List.getElem_cons_zero]
    refine takeW 6 (v := ?vx4_6) rfl (by kernel_rfl) (fun _ _ _ h => h) (by rfl) (by assumption) ?yx4_6 ?rx4_6
    case yx4_6 => (intro w' hSw; (try dsimp only at hSw); go_simp; try with_reducible rfl)
    try simp only [Act.put, List.setIfInBounds_toArray, List.set_cons_zero, List.set_cons_succ, List.getElem_toArray, List.getElem_cons_succ, List.getElem_cons_zero]
    refine wpAnyH_ready (rs := [3]) (by kernel_rfl) (by simp) ?_
    refine AllReadyH.cons rfl (fun K hK => ?_) AllReadyH.nil
    go_simp
    with_reducible refine (HIM.out _ HB1.out).mono ?_
    rintro e w2 ⟨rfl, hb⟩
    have HB2 := Lib.hid (HB1.out.trans (hb.mono HB1.out.size))
    have s2 := (FE.out _ HB2.out).1
    clear hb
    refine hK.out _ _ (s2) (fun hHeldB1 => ?_)
    clear hK K
    try simp only [Act.put, List.setIfInBounds_toArray, List.set_cons_zero, List.set_cons_succ, List.getElem_toArray, List.getElem_cons_succ, List.getElem_cons_zero]
    refine wpAnyH_ready (rs := [7]) (by kernel_rfl) (by simp) ?_
    refine AllReadyH.cons rfl (fun K hK => ?_) AllReadyH.nil
    go_simp
    with_reducible refine (HSP.out _ HB2.out).mono ?_
    rintro e w3 ⟨rfl, hb⟩
    have HB3 := Lib.hid (HB2.out.trans (hb.mono HB2.out.size))
    have s3 := (FE.out _ HB3.out).1
    clear hb
    refine hK.out _ _ (s3) (fun hHeldB2 => ?_)
    clear hK K
    try simp only [Act.put, List.setIfInBounds_toArray, List.set_cons_zero, List.set_cons_succ, List.getElem_toArray, List.getElem_cons_succ, List.getElem_cons_zero]
    refine takeW 8 (v := .bool false) rfl (by kernel_rfl) (fun _ _ _ h => h) (by rfl) (by assumption) ?yx6_8 ?rx6_8
    case yx6_8 => (intro w' hSw; (try dsimp only at hSw); go_simp; try first | with_reducible rfl | simp [hff])
    try simp only [Act.put, List.setIfInBounds_toArray, List.set_cons_zero, List.set_cons_succ, List.getElem_toArray, List.getElem_cons_succ, List.getElem_cons_zero]
    refine takeW 9 (v := ?vx6_9) rfl (by kernel_rfl) (fun _ _ _ h => h) (by rfl) (by assumption) ?yx6_9 ?rx6_9
    case yx6_9 => (intro w' hSw; (try dsimp only at hSw); go_simp; try with_reducible rfl)
    try simp only [Act.put, List.setIfInBounds_toArray, List.set_cons_zero, List.set_cons_succ, List.getElem_toArray, List.getElem_cons_succ, List.getElem_cons_zero]
    refine takeW 10 (v := ?vx6_10) rfl (by kernel_rfl) (fun _ _ _ h => h) (by rfl) (by assumption) ?yx6_10 ?rx6_10
    case yx6_10 => (intro w' hSw; (try dsimp only at hSw); go_simp; try with_reducible rfl)
    try simp only [Act.put, List.setIfInBounds_toArray, List.set_cons_zero, List.set_cons_succ, List.getElem_toArray, List.getElem_cons_succ, List.getElem_cons_zero]
    refine takeW 11 (v := .bool false) rfl (by kernel_rfl) (fun _ _ _ h => h) (by rfl) (by assumption) ?yx6_11 ?rx6_11
    case yx6_11 => (intro w' hSw; (try dsimp only at hSw); go_simp; try first | with_reducible rfl | simp [g0])
    try simp only [Act.put, List.setIfInBounds_toArray, List.set_cons_zero, List.set_cons_succ, List.getElem_toArray, List.getElem_cons_succ, List.getElem_cons_zero]
    refine takeW 12 (v := ?vx6_12) rfl (by kernel_rfl) (fun _ _ _ h => h) (by rfl) (by assumption) ?yx6_12 ?rx6_12
    case yx6_12 => (intro w' hSw; (try dsimp only at hSw); go_simp; try with_reducible rfl)
    try simp only [Act.put, List.setIfInBounds_toArray, List.set_cons_zero, List.set_cons_succ, List.getElem_toArray, List.getElem_cons_succ, List.getElem_cons_zero]
    refine takeW 13 (v := ?vx6_13) rfl (by kernel_rfl) (fun _ _ _ h => h) (by rfl) (by assumption) ?yx6_13 ?rx6_13
    case yx6_13 => (intro w' hSw; (try dsimp only at hSw); go_simp; try with_reducible rfl)
    try simp only [Act.put, List.setIfInBounds_toArray, List.set_cons_zero, List.set_cons_succ, List.getElem_toArray, List.getElem_cons_succ, List.getElem_cons_zero]
    refine takeW 14 (v := ?vx6_14) rfl (by kernel_rfl) (fun _ _ _ h => h) (by rfl) (by assumption) ?yx6_14 ?rx6_14
    case yx6_14 => (intro w' hSw; (try dsimp only at hSw); go_simp; try with_reducible rfl)
    try simp only [Act.put, List.setIfInBounds_toArray, List.set_cons_zero, List.set_cons_succ, List.getElem_toArray, List.getElem_cons_succ, List.getElem_cons_zero]
    refine takeW 15 (v := .bool true) rfl (by kernel_rfl) (fun _ _ _ h => h) (by rfl) (by assumption) ?yx6_15 ?rx6_15
    case yx6_15 => (intro w' hSw; (try dsimp only at hSw); go_simp; try first | with_reducible rfl | simp [g8])
    try simp only [Act.put, List.setIfInBounds_toArray, List.set_cons_zero, List.set_cons_succ, List.getElem_toArray, List.getElem_cons_succ, List.getElem_cons_zero]
    refine takeW 16 (v := ?vx6_16) rfl (by kernel_rfl) (fun _ _ _ h => h) (by rfl) (by assumption) ?yx6_16 ?rx6_16
    case yx6_16 => (intro w' hSw; (try dsimp only at hSw); go_simp; try with_reducible rfl)
    try simp only [Act.put, List.setIfInBounds_toArray, List.set_cons_zero, List.set_cons_succ, List.getElem_toArray, List.getElem_cons_succ, List.getElem_cons_zero]
    refine takeW 17 (v := ?vx6_17) rfl (by kernel_rfl) (fun _ _ _ h => h) (by rfl) (by assumption) ?yx6_17 ?rx6_17
    case yx6_17 => (intro w' hSw; (try dsimp only at hSw); go_simp; try with_reducible rfl)
    try simp only [Act.put, List.setIfInBounds_toArray, List.set_cons_zero, List.set_cons_succ, List.getElem_toArray, List.getElem_cons_succ, List.getElem_cons_zero]
    refine takeN 18 rfl (by kernel_rfl) (fun _ _ _ h => h) (by rfl) (by assumption) ?rx6_18
    try simp only [Act.put, List.setIfInBounds_toArray, List.set_cons_zero, List.set_cons_succ, List.getElem_toArray, List.getElem_cons_succ, List.getElem_cons_zero]
    refine takeN 19 rfl (by kernel_rfl) (fun _ _ _ h => h) (by rfl) (by assumption) ?rx6_19
    try simp only [Act.put, List.setIfInBounds_toArray, List.set_cons_zero, List.set_cons_succ, List.getElem_toArray, List.getElem_cons_succ, List.getElem_cons_zero]
    refine takeN 20 rfl (by kernel_rfl) (fun _ _ _ h => h) (by rfl) (by assumption) ?rx6_20
    try simp only [Act.put, List.setIfInBounds_toArray, List.set_cons_zero, List.set_cons_succ, List.getElem_toArray, List.getElem_cons_succ, List.getElem_cons_zero]
    refine takeW 21 (v := ?vx6_21) rfl (by kernel_rfl) (fun _ _ _ h => h) (by rfl) (by assumption) ?yx6_21 ?rx6_21
    case yx6_21 => (intro w' hSw; (try dsimp only at hSw); go_simp; try with_reducible rfl)
    try simp only [Act.put, List.setIfInBounds_toArray, List.set_cons_zero, List.set_cons_succ, List.getElem_toArray, List.getElem_cons_succ, List.getElem_cons_zero]
    refine wpAnyH_done (by kernel_rfl) ?_ _
    all_goals
      clear s1 s2 s3
      have HB20 := Lib.hid (show Below W.heap.size W w3.drew from HB3.out.drew)
      have s20 := (FE.out _ HB20.out).1
      go_wp2_with fail
      go_region_held3 (fun w' => w'.cell? ⟨w1.heap.size, 0, none⟩ = some (.int .i64 op) ∧ w'.cell? ⟨w1.heap.size, 1, none⟩ = some (.int .i64 n) ∧ w'.cell? ⟨w1.heap.size, 2, none⟩ = some (.slice Y k.len cy))
        (first | with_reducible exact s20 | with_reducible exact s21 | with_reducible exact s22 | fail)
        (first
          | (go_at_call 7
             with_reducible refine (HIM.out _ HB20.out).mono ?_
             rintro e w21 ⟨rfl, hb⟩
             have HB21 := Lib.hid (HB20.out.trans (hb.mono HB20.out.size))
             have s21 := (FE.out _ HB21.out).1
             clear hb)
          | (go_at_call 8
             with_reducible refine (HSP.out _ HB21.out).mono ?_
             rintro e w22 ⟨rfl, hb⟩
             have HB22 := Lib.hid (HB21.out.trans (hb.mono HB21.out.size))
             have s22 := (FE.out _ HB22.out).1
             clear hb))
      all_goals
        clear s20 s21 s22
        have HBW := Lib.hid (FE.out _ HB22.out).2.2.2.2
        go_wp2_with fail
        go_ret
        exact ⟨by simp, HBW.out⟩
  have g0 : decide (v < 0) = false := decide_eq_false hv0
  have g8 : decide (v ≥ 8) = false := decide_eq_false hv8
  have HV := Lib.hid (show inVar v = true by unfold inVar; simp; omega)
  cases hlo : libOk ds with
  | false =>
    rw [hlo] at HLV
    clear hlo
    go_wp2_with fail
    refine wp_region_held_drew (S := fun w' => w'.cell? ⟨w1.heap.size, 0, none⟩ = some (.int .i64 op) ∧ w'.cell? ⟨w1.heap.size, 1, none⟩ = some (.int .i64 n) ∧ w'.cell? ⟨w1.heap.size, 2, none⟩ = some (.slice Y k.len cy)) (by kernel_rfl) s1 (fun hHeld => ?_)
    refine takeW 0 (v := ?vx7_0) rfl (by kernel_rfl) (fun _ _ _ h => h) (by rfl) (by assumption) ?yx7_0 ?rx7_0
    case yx7_0 => (intro w' hSw; (try dsimp only at hSw); go_simp; try with_reducible rfl)
    try simp only [Act.put, List.setIfInBounds_toArray, List.set_cons_zero, List.set_cons_succ, List.getElem_toArray, List.getElem_cons_zero]
    refine takeW 1 (v := ?vx7_1) rfl (by kernel_rfl) (fun _ _ _ h => h) (by rfl) (by assumption) ?yx7_1 ?rx7_1
    case yx7_1 => (intro w' hSw; (try dsimp only at hSw); go_simp; try with_reducible rfl)
    try simp only [Act.put, List.setIfInBounds_toArray, List.set_cons_zero, List.set_cons_succ, List.getElem_toArray, List.getElem_cons_succ, List.getElem_cons_zero]
    refine takeW 2 (v := ?vx7_2) rfl (by kernel_rfl) (fun _ _ _ h => h) (by rfl) (by assumption) ?yx7_2 ?rx7_2
    case yx7_2 => (intro w' hSw; (try dsimp only at hSw); go_simp; try with_reducible rfl)
    try simp only [Act.put, List.setIfInBounds_toArray, List.set_cons_zero, List.set_cons_succ, List.getElem_toArray, List.getElem_cons_succ, List.getElem_cons_zero]
    refine takeW 4 (v := ?vx7_4) rfl (by kernel_rfl) (fun _ _ _ h => h) (by rfl) (by assumption) ?yx7_4 ?rx7_4
    case yx7_4 => (intro w' hSw; (try dsimp only at hSw); go_simp; try with_reducible rfl)
    try simp only [Act.put, List.setIfInBounds_toArray, List.set_cons_zero, List.set_cons_succ, List.getElem_toArray, List.getElem_cons_succ, List.getElem_cons_zero]
    refine takeW 5 (v := ?vx7_5) rfl (by kernel_rfl) (fun _ _ _ h => h) (by rfl) (by assumption) ?yx7_5 ?rx7_5
    case yx7_5 => (intro w' hSw; (try dsimp only at hSw); go_simp; try with_reducible rfl)
    try simp only [Act.put, List.setIfInBounds_toArray, List.set_cons_zero, List.set_cons_succ, List.getElem_toArray, List.getElem_cons_succ, List.getElem_cons_zero]
    refine takeW 6 (v := ?vx7_6) rfl (by kernel_rfl) (fun _ _ _ h => h) (by rfl) (by assumption) ?yx7_6 ?rx7_6
    case yx7_6 => (intro w' hSw; (try dsimp only at hSw); go_simp; try with_reducible rfl)
    try simp only [Act.put, List.setIfInBounds_toArray, List.set_cons_zero, List.set_cons_succ, List.getElem_toArray, List.getElem_cons_succ, List.getElem_cons_zero]
    refine wpAnyH_ready (rs := [3]) (by kernel_rfl) (by simp) ?_
    refine AllReadyH.cons rfl (fun K hK => ?_) AllReadyH.nil
    go_simp
    with_reducible refine (HIM.out _ HB1.out).mono ?_
    rintro e w2 ⟨rfl, hb⟩
    have HB2 := Lib.hid (HB1.out.trans (hb.mono HB1.out.size))
    have s2 := (FE.out _ HB2.out).1
    clear hb
    refine hK.out _ _ (s2) (fun hHeldB1 => ?_)
    clear hK K
    try simp only [Act.put, List.setIfInBounds_toArray, List.set_cons_zero, List.set_cons_succ, List.getElem_toArray, List.getElem_cons_succ, List.getElem_cons_zero]
    refine wpAnyH_ready (rs := [7]) (by kernel_rfl) (by simp) ?_
    refine AllReadyH.cons rfl (fun K hK => ?_) AllReadyH.nil
    go_simp
    with_reducible refine (HSP.out _ HB2.out).mono ?_
    rintro e w3 ⟨rfl, hb⟩
    have HB3 := Lib.hid (HB2.out.trans (hb.mono HB2.out.size))
    have s3 := (FE.out _ HB3.out).1
    clear hb
    refine hK.out _ _ (s3) (fun hHeldB2 => ?_)
    clear hK K
    try simp only [Act.put, List.setIfInBounds_toArray, List.set_cons_zero, List.set_cons_succ, List.getElem_toArray, List.getElem_cons_succ, List.getElem_cons_zero]
    refine takeW 8 (v := .bool false) rfl (by kernel_rfl) (fun _ _ _ h => h) (by rfl) (by assumption) ?yx9_8 ?rx9_8
    case yx9_8 => (intro w' hSw; (try dsimp only at hSw); go_simp; try first | with_reducible rfl | simp [hff])
    try simp only [Act.put, List.setIfInBounds_toArray, List.set_cons_zero, List.set_cons_succ, List.getElem_toArray, List.getElem_cons_succ, List.getElem_cons_zero]
    refine takeW 9 (v := ?vx9_9) rfl (by kernel_rfl) (fun _ _ _ h => h) (by rfl) (by assumption) ?yx9_9 ?rx9_9
    case yx9_9 => (intro w' hSw; (try dsimp only at hSw); go_simp; try with_reducible rfl)
    try simp only [Act.put, List.setIfInBounds_toArray, List.set_cons_zero, List.set_cons_succ, List.getElem_toArray, List.getElem_cons_succ, List.getElem_cons_zero]
    refine takeW 10 (v := ?vx9_10) rfl (by kernel_rfl) (fun _ _ _ h => h) (by rfl) (by assumption) ?yx9_10 ?rx9_10
    case yx9_10 => (intro w' hSw; (try dsimp only at hSw); go_simp; try with_reducible rfl)
    try simp only [Act.put, List.setIfInBounds_toArray, List.set_cons_zero, List.set_cons_succ, List.getElem_toArray, List.getElem_cons_succ, List.getElem_cons_zero]
    refine takeW 11 (v := .bool false) rfl (by kernel_rfl) (fun _ _ _ h => h) (by rfl) (by assumption) ?yx9_11 ?rx9_11
    case yx9_11 => (intro w' hSw; (try dsimp only at hSw); go_simp; try first | with_reducible rfl | simp [g0])
    try simp only [Act.put, List.setIfInBounds_toArray, List.set_cons_zero, List.set_cons_succ, List.getElem_toArray, List.getElem_cons_succ, List.getElem_cons_zero]
    refine takeW 12 (v := ?vx9_12) rfl (by kernel_rfl) (fun _ _ _ h => h) (by rfl) (by assumption) ?yx9_12 ?rx9_12
    case yx9_12 => (intro w' hSw; (try dsimp only at hSw); go_simp; try with_reducible rfl)
    try simp only [Act.put, List.setIfInBounds_toArray, List.set_cons_zero, List.set_cons_succ, List.getElem_toArray, List.getElem_cons_succ, List.getElem_cons_zero]
    refine takeW 13 (v := ?vx9_13) rfl (by kernel_rfl) (fun _ _ _ h => h) (by rfl) (by assumption) ?yx9_13 ?rx9_13
    case yx9_13 => (intro w' hSw; (try dsimp only at hSw); go_simp; try with_reducible rfl)
    try simp only [Act.put, List.setIfInBounds_toArray, List.set_cons_zero, List.set_cons_succ, List.getElem_toArray, List.getElem_cons_succ, List.getElem_cons_zero]
    refine takeW 14 (v := ?vx9_14) rfl (by kernel_rfl) (fun _ _ _ h => h) (by rfl) (by assumption) ?yx9_14 ?rx9_14
    case yx9_14 => (intro w' hSw; (try dsimp only at hSw); go_simp; try with_reducible rfl)
    try simp only [Act.put, List.setIfInBounds_toArray, List.set_cons_zero, List.set_cons_succ, List.getElem_toArray, List.getElem_cons_succ, List.getElem_cons_zero]
    refine takeW 15 (v := .bool false) rfl (by kernel_rfl) (fun _ _ _ h => h) (by rfl) (by assumption) ?yx9_15 ?rx9_15
    case yx9_15 => (intro w' hSw; (try dsimp only at hSw); go_simp; try first | with_reducible rfl | simp [g8])
    try simp only [Act.put, List.setIfInBounds_toArray, List.set_cons_zero, List.set_cons_succ, List.getElem_toArray, List.getElem_cons_succ, List.getElem_cons_zero]
    refine takeW 16 (v := ?vx9_16) rfl (by kernel_rfl) (fun _ _ _ h => h) (by rfl) (by assumption) ?yx9_16 ?rx9_16
    case yx9_16 => (intro w' hSw; (try dsimp only at hSw); go_simp; try with_reducible rfl)
    try simp only [Act.put, List.setIfInBounds_toArray, List.set_cons_zero, List.set_cons_succ, List.getElem_toArray, List.getElem_cons_succ, List.getElem_cons_zero]
    refine takeW 17 (v := ?vx9_17) rfl (by kernel_rfl) (fun _ _ _ h => h) (by rfl) (by assumption) ?yx9_17 ?rx9_17
    case yx9_17 => (intro w' hSw; (try dsimp only at hSw); go_simp; try with_reducible rfl)
    try simp only [Act.put, List.setIfInBounds_toArray, List.set_cons_zero, List.set_cons_succ, List.getElem_toArray, List.getElem_cons_succ, List.getElem_cons_zero]
    refine takeW 18 (v := ?vx9_18) rfl (by kernel_rfl) (fun _ _ _ h => h) (by rfl) (by assumption) ?yx9_18 ?rx9_18
    case yx9_18 => (intro w' hSw; (try dsimp only at hSw); go_simp; try with_reducible rfl)
    try simp only [Act.put, List.setIfInBounds_toArray, List.set_cons_zero, List.set_cons_succ, List.getElem_toArray, List.getElem_cons_succ, List.getElem_cons_zero]
    refine wpAnyH_ready (rs := [19]) (by kernel_rfl) (by simp) ?_
    refine AllReadyH.cons rfl (fun K hK => ?_) AllReadyH.nil
    go_simp
    with_reducible refine (HLV.out _ HB3.out).mono ?_
    rintro e w4 ⟨rfl, hb⟩
    have HB4 := Lib.hid (HB3.out.trans (hb.mono HB3.out.size))
    have s4 := (FE.out _ HB4.out).1
    clear hb
    refine hK.out _ _ (s4) (fun hHeldB3 => ?_)
    clear hK K
    try simp only [Act.put, List.setIfInBounds_toArray, List.set_cons_zero, List.set_cons_succ, List.getElem_toArray, List.getElem_cons_succ, List.getElem_cons_zero]
    refine takeW 20 (v := ?vx10_20) rfl (by kernel_rfl) (fun _ _ _ h => h) (by rfl) (by assumption) ?yx10_20 ?rx10_20
    case yx10_20 => (intro w' hSw; (try dsimp only at hSw); go_simp; try with_reducible rfl)
    try simp only [Act.put, List.setIfInBounds_toArray, List.set_cons_zero, List.set_cons_succ, List.getElem_toArray, List.getElem_cons_succ, List.getElem_cons_zero]
    refine takeW 21 (v := ?vx10_21) rfl (by kernel_rfl) (fun _ _ _ h => h) (by rfl) (by assumption) ?yx10_21 ?rx10_21
    case yx10_21 => (intro w' hSw; (try dsimp only at hSw); go_simp; try with_reducible rfl)
    try simp only [Act.put, List.setIfInBounds_toArray, List.set_cons_zero, List.set_cons_succ, List.getElem_toArray, List.getElem_cons_succ, List.getElem_cons_zero]
    refine wpAnyH_done (by kernel_rfl) ?_ _
    all_goals
      clear s1 s2 s3 s4
      have HB20 := Lib.hid (show Below W.heap.size W w4.drew from HB4.out.drew)
      have s20 := (FE.out _ HB20.out).1
      go_wp2_with fail
      go_region_held3 (fun w' => w'.cell? ⟨w1.heap.size, 0, none⟩ = some (.int .i64 op) ∧ w'.cell? ⟨w1.heap.size, 1, none⟩ = some (.int .i64 n) ∧ w'.cell? ⟨w1.heap.size, 2, none⟩ = some (.slice Y k.len cy))
        (first | with_reducible exact s20 | with_reducible exact s21 | with_reducible exact s22 | fail)
        (first
          | (go_at_call 7
             with_reducible refine (HIM.out _ HB20.out).mono ?_
             rintro e w21 ⟨rfl, hb⟩
             have HB21 := Lib.hid (HB20.out.trans (hb.mono HB20.out.size))
             have s21 := (FE.out _ HB21.out).1
             clear hb)
          | (go_at_call 8
             with_reducible refine (HSP.out _ HB21.out).mono ?_
             rintro e w22 ⟨rfl, hb⟩
             have HB22 := Lib.hid (HB21.out.trans (hb.mono HB21.out.size))
             have s22 := (FE.out _ HB22.out).1
             clear hb))
      all_goals
        clear s20 s21 s22
        have HBW := Lib.hid (FE.out _ HB22.out).2.2.2.2
        go_wp2_with fail
        go_ret
        exact ⟨by simp, HBW.out⟩
  | true =>
    rw [hlo] at HLV
    have HLO := Lib.hid hlo
    clear hlo
    go_wp2_with fail
    refine wp_region_held_drew (S := fun w' => w'.cell? ⟨w1.heap.size, 0, none⟩ = some (.int .i64 op) ∧ w'.cell? ⟨w1.heap.size, 1, none⟩ = some (.int .i64 n) ∧ w'.cell? ⟨w1.heap.size, 2, none⟩ = some (.slice Y k.len cy)) (by kernel_rfl) s1 (fun hHeld => ?_)
    refine takeW 0 (v := ?vx11_0) rfl (by kernel_rfl) (fun _ _ _ h => h) (by rfl) (by assumption) ?yx11_0 ?rx11_0
    case yx11_0 => (intro w' hSw; (try dsimp only at hSw); go_simp; try with_reducible rfl)
    try simp only [Act.put, List.setIfInBounds_toArray, List.set_cons_zero, List.set_cons_succ, List.getElem_toArray, List.getElem_cons_zero]
    refine takeW 1 (v := ?vx11_1) rfl (by kernel_rfl) (fun _ _ _ h => h) (by rfl) (by assumption) ?yx11_1 ?rx11_1
    case yx11_1 => (intro w' hSw; (try dsimp only at hSw); go_simp; try with_reducible rfl)
    try simp only [Act.put, List.setIfInBounds_toArray, List.set_cons_zero, List.set_cons_succ, List.getElem_toArray, List.getElem_cons_succ, List.getElem_cons_zero]
    refine takeW 2 (v := ?vx11_2) rfl (by kernel_rfl) (fun _ _ _ h => h) (by rfl) (by assumption) ?yx11_2 ?rx11_2
    case yx11_2 => (intro w' hSw; (try dsimp only at hSw); go_simp; try with_reducible rfl)
    try simp only [Act.put, List.setIfInBounds_toArray, List.set_cons_zero, List.set_cons_succ, List.getElem_toArray, List.getElem_cons_succ, List.getElem_cons_zero]
    refine takeW 4 (v := ?vx11_4) rfl (by kernel_rfl) (fun _ _ _ h => h) (by rfl) (by assumption) ?yx11_4 ?rx11_4
    case yx11_4 => (intro w' hSw; (try dsimp only at hSw); go_simp; try with_reducible rfl)
    try simp only [Act.put, List.setIfInBounds_toArray, List.set_cons_zero, List.set_cons_succ, List.getElem_toArray, List.getElem_cons_succ, List.getElem_cons_zero]
    refine takeW 5 (v := ?vx11_5) rfl (by kernel_rfl) (fun _ _ _ h => h) (by rfl) (by assumption) ?yx11_5 ?rx11_5
    case yx11_5 => (intro w' hSw; (try dsimp only at hSw); go_simp; try with_reducible rfl)
    try simp only [Act.put, List.setIfInBounds_toArray, List.set_cons_zero, List.set_cons_succ, List.getElem_toArray, List.getElem_cons_succ, List.getElem_cons_zero]
    refine takeW 6 (v := ?vx11_6) rfl (by kernel_rfl) (fun _ _ _ h => h) (by rfl) (by assumption) ?yx11_6 ?rx11_6
    case yx11_6 => (intro w' hSw; (try dsimp only at hSw); go_simp; try with_reducible rfl)
    try simp only [Act.put, List.setIfInBounds_toArray, List.set_cons_zero, List.set_cons_succ, List.getElem_toArray, List.getElem_cons_succ, List.getElem_cons_zero]
    refine wpAnyH_ready (rs := [3]) (by kernel_rfl) (by simp) ?_
    refine AllReadyH.cons rfl (fun K hK => ?_) AllReadyH.nil
    go_simp
    with_reducible refine (HIM.out _ HB1.out).mono ?_
    rintro e w2 ⟨rfl, hb⟩
    have HB2 := Lib.hid (HB1.out.trans (hb.mono HB1.out.size))
    have s2 := (FE.out _ HB2.out).1
    clear hb
    refine hK.out _ _ (s2) (fun hHeldB1 => ?_)
    clear hK K
    try simp only [Act.put, List.setIfInBounds_toArray, List.set_cons_zero, List.set_cons_succ, List.getElem_toArray, List.getElem_cons_succ, List.getElem_cons_zero]
    refine wpAnyH_ready (rs := [7]) (by kernel_rfl) (by simp) ?_
    refine AllReadyH.cons rfl (fun K hK => ?_) AllReadyH.nil
    go_simp
    with_reducible refine (HSP.out _ HB2.out).mono ?_
    rintro e w3 ⟨rfl, hb⟩
    have HB3 := Lib.hid (HB2.out.trans (hb.mono HB2.out.size))
    have s3 := (FE.out _ HB3.out).1
    clear hb
    refine hK.out _ _ (s3) (fun hHeldB2 => ?_)
    clear hK K
    try simp only [Act.put, List.setIfInBounds_toArray, List.set_cons_zero, List.set_cons_succ, List.getElem_toArray, List.getElem_cons_succ, List.getElem_cons_zero]
    refine takeW 8 (v := .bool false) rfl (by kernel_rfl) (fun _ _ _ h => h) (by rfl) (by assumption) ?yx13_8 ?rx13_8
    case yx13_8 => (intro w' hSw; (try dsimp only at hSw); go_simp; try first | with_reducible rfl | simp [hff])
    try simp only [Act.put, List.setIfInBounds_toArray, List.set_cons_zero, List.set_cons_succ, List.getElem_toArray, List.getElem_cons_succ, List.getElem_cons_zero]
    refine takeW 9 (v := ?vx13_9) rfl (by kernel_rfl) (fun _ _ _ h => h) (by rfl) (by assumption) ?yx13_9 ?rx13_9
    case yx13_9 => (intro w' hSw; (try dsimp only at hSw); go_simp; try with_reducible rfl)
    try simp only [Act.put, List.setIfInBounds_toArray, List.set_cons_zero, List.set_cons_succ, List.getElem_toArray, List.getElem_cons_succ, List.getElem_cons_zero]
    refine takeW 10 (v := ?vx13_10) rfl (by kernel_rfl) (fun _ _ _ h => h) (by rfl) (by assumption) ?yx13_10 ?rx13_10
    case yx13_10 => (intro w' hSw; (try dsimp only at hSw); go_simp; try with_reducible rfl)
    try simp only [Act.put, List.setIfInBounds_toArray, List.set_cons_zero, List.set_cons_succ, List.getElem_toArray, List.getElem_cons_succ, List.getElem_cons_zero]
    refine takeW 11 (v := .bool false) rfl (by kernel_rfl) (fun _ _ _ h => h) (by rfl) (by assumption) ?yx13_11 ?rx13_11
    case yx13_11 => (intro w' hSw; (try dsimp only at hSw); go_simp; try first | with_reducible rfl | simp [g0])
    try simp only [Act.put, List.setIfInBounds_toArray, List.set_cons_zero, List.set_cons_succ, List.getElem_toArray, List.getElem_cons_succ, List.getElem_cons_zero]
    refine takeW 12 (v := ?vx13_12) rfl (by kernel_rfl) (fun _ _ _ h => h) (by rfl) (by assumption) ?yx13_12 ?rx13_12
    case yx13_12 => (intro w' hSw; (try dsimp only at hSw); go_simp; try with_reducible rfl)
    try simp only [Act.put, List.setIfInBounds_toArray, List.set_cons_zero, List.set_cons_succ, List.getElem_toArray, List.getElem_cons_succ, List.getElem_cons_zero]
    refine takeW 13 (v := ?vx13_13) rfl (by kernel_rfl) (fun _ _ _ h => h) (by rfl) (by assumption) ?yx13_13 ?rx13_13
    case yx13_13 => (intro w' hSw; (try dsimp only at hSw); go_simp; try with_reducible rfl)
    try simp only [Act.put, List.setIfInBounds_toArray, List.set_cons_zero, List.set_cons_succ, List.getElem_toArray, List.getElem_cons_succ, List.getElem_cons_zero]
    refine takeW 14 (v := ?vx13_14) rfl (by kernel_rfl) (fun _ _ _ h => h) (by rfl) (by assumption) ?yx13_14 ?rx13_14
    case yx13_14 => (intro w' hSw; (try dsimp only at hSw); go_simp; try with_reducible rfl)
    try simp only [Act.put, List.setIfInBounds_toArray, List.set_cons_zero, List.set_cons_succ, List.getElem_toArray, List.getElem_cons_succ, List.getElem_cons_zero]
    refine takeW 15 (v := .bool false) rfl (by kernel_rfl) (fun _ _ _ h => h) (by rfl) (by assumption) ?yx13_15 ?rx13_15
    case yx13_15 => (intro w' hSw; (try dsimp only at hSw); go_simp; try first | with_reducible rfl | simp [g8])
    try simp only [Act.put, List.setIfInBounds_toArray, List.set_cons_zero, List.set_cons_succ, List.getElem_toArray, List.getElem_cons_succ, List.getElem_cons_zero]
    refine takeW 16 (v := ?vx13_16) rfl (by kernel_rfl) (fun _ _ _ h => h) (by rfl) (by assumption) ?yx13_16 ?rx13_16
    case yx13_16 => (intro w' hSw; (try dsimp only at hSw); go_simp; try with_reducible rfl)
    try simp only [Act.put, List.setIfInBounds_toArray, List.set_cons_zero, List.set_cons_succ, List.getElem_toArray, List.getElem_cons_succ, List.getElem_cons_zero]
    refine takeW 17 (v := ?vx13_17) rfl (by kernel_rfl) (fun _ _ _ h => h) (by rfl) (by assumption) ?yx13_17 ?rx13_17
    case yx13_17 => (intro w' hSw; (try dsimp only at hSw); go_simp; try with_reducible rfl)
    try simp only [Act.put, List.setIfInBounds_toArray, List.set_cons_zero, List.set_cons_succ, List.getElem_toArray, List.getElem_cons_succ, List.getElem_cons_zero]
    refine takeW 18 (v := ?vx13_18) rfl (by kernel_rfl) (fun _ _ _ h => h) (by rfl) (by assumption) ?yx13_18 ?rx13_18
    case yx13_18 => (intro w' hSw; (try dsimp only at hSw); go_simp; try with_reducible rfl)
    try simp only [Act.put, List.setIfInBounds_toArray, List.set_cons_zero, List.set_cons_succ, List.getElem_toArray, List.getElem_cons_succ, List.getElem_cons_zero]
    refine wpAnyH_ready (rs := [19]) (by kernel_rfl) (by simp) ?_
    refine AllReadyH.cons rfl (fun K hK => ?_) AllReadyH.nil
    go_simp
    with_reducible refine (HLV.out _ HB3.out).mono ?_
    rintro e w4 ⟨rfl, hb⟩
    have HB4 := Lib.hid (HB3.out.trans (hb.mono HB3.out.size))
    have s4 := (FE.out _ HB4.out).1
    clear hb
    refine hK.out _ _ (s4) (fun hHeldB3 => ?_)
    clear hK K
    try simp only [Act.put, List.setIfInBounds_toArray, List.set_cons_zero, List.set_cons_succ, List.getElem_toArray, List.getElem_cons_succ, List.getElem_cons_zero]
    refine takeW 20 (v := ?vx14_20) rfl (by kernel_rfl) (fun _ _ _ h => h) (by rfl) (by assumption) ?yx14_20 ?rx14_20
    case yx14_20 => (intro w' hSw; (try dsimp only at hSw); go_simp; try with_reducible rfl)
    try simp only [Act.put, List.setIfInBounds_toArray, List.set_cons_zero, List.set_cons_succ, List.getElem_toArray, List.getElem_cons_succ, List.getElem_cons_zero]
    refine takeW 21 (v := ?vx14_21) rfl (by kernel_rfl) (fun _ _ _ h => h) (by rfl) (by assumption) ?yx14_21 ?rx14_21
    case yx14_21 => (intro w' hSw; (try dsimp only at hSw); go_simp; try with_reducible rfl)
    try simp only [Act.put, List.setIfInBounds_toArray, List.set_cons_zero, List.set_cons_succ, List.getElem_toArray, List.getElem_cons_succ, List.getElem_cons_zero]
    refine wpAnyH_done (by kernel_rfl) ?_ _
    clear s1 s2 s3 s4 HIM HSP HLV hff hHeld hHeldB1 hHeldB2 hHeldB3
    obtain ⟨V0, hV0⟩ : ∃ V, V = w4.alloc (Obj.cells #[.int .i64 2, .int .i64 v, .slice none 0 0] 26) := ⟨_, rfl⟩
    have hbV0 : Below w4.heap.size w4 V0 := by rw [hV0]; exact (Below.refl _ _).alloc (Nat.le_refl _) _
    have hr0 : Row V0 w4.heap.size 26 #[.int .i64 2, .int .i64 v, .slice none 0 0] := by rw [hV0]; exact Row.fresh _ _ _
    have hs0 : V0.heap.size = w4.heap.size + 1 := by rw [hV0, World.size_alloc]
    have HB0 := Lib.hid (HB4.out.trans (hbV0.mono HB4.out.size))
    have HR0 := Lib.hid hr0
    clear hbV0 hr0
    go_upto_region 7 with fail
    rw [← hV0]
    clear hV0
    obtain ⟨⟨q0, q1, q2⟩, -⟩ := FE.out V0 HB0.out
    have t0 := HR0.out.cell (i := 0) rfl
    have t1 := HR0.out.cell (i := 1) rfl
    have t2 := HR0.out.cell (i := 2) rfl
    obtain ⟨V, hV⟩ : ∃ V, V = (V0.alloc (Obj.cells #[.int .i64 2, .int .i64 v, .slice none 0 0, .int .i64 op, .int .i64 n, .slice Y k.len cy] 26)).alloc (Obj.cells #[.int .i64 4, .int .i64 0, .slice (some ⟨w4.heap.size + 1, 0, none⟩) 2 2] 26) := ⟨_, rfl⟩
    have hbV : Below V0.heap.size V0 V := by rw [hV]; exact ((Below.refl _ _).alloc (Nat.le_refl _) _).alloc (by simp) _
    have hr1 : Row V w4.heap.size 26 #[.int .i64 2, .int .i64 v, .slice none 0 0] := HR0.out.below hbV HR0.out.size
    have hr2 : Row V (w4.heap.size + 1) 26 #[.int .i64 2, .int .i64 v, .slice none 0 0, .int .i64 op, .int .i64 n, .slice Y k.len cy] := by
      rw [hV, ← hs0]; exact (Row.fresh V0 _ _).alloc _
    have hr3 : Row V (w4.heap.size + 2) 26 #[.int .i64 4, .int .i64 0, .slice (some ⟨w4.heap.size + 1, 0, none⟩) 2 2] := by
      rw [hV]
      have h := Row.fresh (V0.alloc (Obj.cells #[.int .i64 2, .int .i64 v, .slice none 0 0, .int .i64 op, .int .i64 n, .slice Y k.len cy] 26)) 26 #[.int .i64 4, .int .i64 0, .slice (some ⟨w4.heap.size + 1, 0, none⟩) 2 2]
      rwa [World.size_alloc, hs0] at h
    have HBV := Lib.hid (HB0.out.trans (hbV.mono HB0.out.size))
    have HR := Lib.hid (And.intro hr1 (And.intro hr2 hr3))
    have HCV := Lib.hid (show ∀ U, Below V.heap.size V U → (U.cell? ⟨w4.heap.size, 0, none⟩ = some (.int .i64 2) ∧ U.cell? ⟨w4.heap.size, 1, none⟩ = some (.int .i64 v) ∧ U.cell? ⟨w4.heap.size, 2, none⟩ = some (.slice none 0 0) ∧ U.cell? ⟨w4.heap.size + 2, 0, none⟩ = some (.int .i64 4) ∧ U.cell? ⟨w4.heap.size + 2, 1, none⟩ = some (.int .i64 0) ∧ U.cell? ⟨w4.heap.size + 2, 2, none⟩ = some (.slice (some ⟨w4.heap.size + 1, 0, none⟩) 2 2)) ∧ Below W.heap.size W U ∧ Held U U.heap.size (some ⟨w4.heap.size + 1, 0, none⟩) (.cons 2 v .nil (.cons op n k .nil)) from fun U hU => by
      have g1 := HR.out.1.below hU HR.out.1.size
      have g2 := HR.out.2.1.below hU HR.out.2.1.size
      have g3 := HR.out.2.2.below hU HR.out.2.2.size
      have hbu := HBV.out.trans (hU.mono HBV.out.size)
      obtain ⟨-, -, -, hh, -⟩ := FE.out U hbu
      obtain ⟨hi, hk1, hk2, -, hvi⟩ := HI.out
      exact ⟨⟨g1.cell rfl, g1.cell rfl, g1.cell rfl, g3.cell rfl, g3.cell rfl, g3.cell rfl⟩, hbu, held_two (ak := .nil) (Aa := none) (ca := 0) g2 g2.size (Held.empty U _ none) hh ⟨by unfold I64; omega, hvi⟩ hi ⟨Nat.le_refl _, by unfold maxLen; omega⟩ ⟨hk1, hk2⟩⟩)
    have HF1 := Lib.hid (show ∀ U, Below V.heap.size V U → Calls Try.prog 7 #[.slice X ds.length cx, .agg #[.int .i64 2, .int .i64 v, .slice none 0 0], .int .i64 v] U (Gives (.bool true) U) from fun U hU => by
      obtain ⟨-, hbu, -⟩ := HCV.out U hU
      obtain ⟨-, g1, -⟩ := FE.out U hbu
      have h := implFirst_r ds X cx 2 v .nil none 0 v 0 U.heap.size 0 U.heap.size U g1 (Nat.le_refl _) trivial (Nat.le_refl _) HDZ.out.2 (Nat.le_refl _) (by unfold maxLen; omega) (by simp [Fo.size])
      rw [first_own HLO.out HV.out] at h
      exact h)
    have HF2 := Lib.hid (show ∀ U, Below V.heap.size V U → Calls Try.prog 10 #[.slice X ds.length cx, .agg #[.int .i64 4, .int .i64 0, .slice (some ⟨w4.heap.size + 1, 0, none⟩) 2 2]] U (Gives (.bool (callsFitB ds 4 0 (.cons 2 v .nil (.cons op n k .nil)))) U) from fun U hU => by
      obtain ⟨-, hbu, hh⟩ := HCV.out U hU
      obtain ⟨-, g1, -⟩ := FE.out U hbu
      exact implCallsFit_r ds X cx 4 0 (.cons 2 v .nil (.cons op n k .nil)) (some ⟨w4.heap.size + 1, 0, none⟩) 2 0 U.heap.size U g1 hh.1 (Nat.le_refl _) (by have := HDZ.out; omega) (Nat.le_refl _) (by unfold maxLen; omega) (by have := HI.out.2.2.2.1; simp only [Fo.size]; omega))
    have HF3 := Lib.hid (show ∀ U, Below V.heap.size V U → callsFitB ds 4 0 (.cons 2 v .nil (.cons op n k .nil)) = true → Calls Try.prog 7 #[.slice X ds.length cx, .agg #[.int .i64 4, .int .i64 0, .slice (some ⟨w4.heap.size + 1, 0, none⟩) 2 2], .int .i64 v] U (Gives (.bool true) U) from fun U hU hcf => by
      obtain ⟨-, hbu, hh⟩ := HCV.out U hU
      obtain ⟨-, g1, -⟩ := FE.out U hbu
      have h := implFirst_r ds X cx 4 0 (.cons 2 v .nil (.cons op n k .nil)) (some ⟨w4.heap.size + 1, 0, none⟩) 2 v 0 U.heap.size 0 U.heap.size U g1 (Nat.le_refl _) hh.1 (Nat.le_refl _) HDZ.out.2 (Nat.le_refl _) (by unfold maxLen; omega) (by have := HI.out.2.2.2.1; simp only [Fo.size]; omega)
      rw [first_sum HLO.out HV.out hcf] at h
      exact h)
    clear hbV hr1 hr2 hr3
    generalize callsFitB ds 4 0 (.cons 2 v .nil (.cons op n k .nil)) = cf at HF2 HF3
    clear HR0
    go_upto_region 8 with fail
    rw [← hV]
    clear hV q0 q1 q2 t0 t1 t2
    obtain ⟨⟨q0, q1, q2, q3, q4, q5⟩, -⟩ := HCV.out V (Below.refl _ _)
    go_wp2_with fail
    refine (HF1.out V (Below.refl _ _)).mono ?_
    rintro e w5 ⟨rfl, hb5⟩
    have HB5 := Lib.hid hb5
    clear hb5 q0 q1 q2 q3 q4 q5
    obtain ⟨⟨q0, q1, q2, q3, q4, q5⟩, -⟩ := HCV.out w5 HB5.out
    go_wp2_with fail
    refine (HF2.out w5 HB5.out).mono ?_
    rintro e w6 ⟨rfl, hb6⟩
    have HB6 := Lib.hid (HB5.out.trans (hb6.mono HB5.out.size))
    clear hb6 q0 q1 q2 q3 q4 q5
    have HBW := Lib.hid (FE.out _ (HCV.out w6 HB6.out).2.1).2.2.2.2
    cases cf with
    | false =>
      go_wp2_with fail
      go_ret
      exact ⟨rfl, HBW.out⟩
    | true =>
      obtain ⟨⟨q0, q1, q2, q3, q4, q5⟩, -⟩ := HCV.out w6 HB6.out
      go_wp2_with fail
      refine (HF3.out w6 HB6.out trivial).mono ?_
      rintro e w7 ⟨rfl, hb7⟩
      have HB7 := Lib.hid (HBW.out.trans (hb7.mono HBW.out.size))
      clear hb7
      go_wp2_with fail
      go_ret
      exact ⟨rfl, HB7.out⟩
end Go.Proofs.Ytiifgkommaeklaa
