/-
  The walk of the law FnCallsFit: true at every input (made by gen_ncf.py).
-/
import Derived.Test.YtgcdmikbdpkpcaaCliS
import Derived.Test.YtgcdmikbdpkpcaaFind
import Derived.Test.YtgcdmikbdpkpcaaTreeP
import Derived.Test.YtgcdmikbdpkpcaaValD
import Derived.Test.YtgcdmikbdpkpcaaFmtM
import Derived.Test.YtgcdmikbdpkpcaaTake
namespace Go.Proofs.Ytgcdmikbdpkpcaa
open Go.RowKit Go.Shelf
set_option maxRecDepth 100000

theorem scope_first : scopeOf [0, 1, 2, 3, 4, 5, 6, 7] = firstS 8 := by
  funext u
  unfold scopeOf firstS
  rw [Bool.eq_iff_iff]
  simp
  omega
theorem kid_is {op n : Int} {k : Fo} (h : nodeIs op n k (firstS 8) = true) {j : Nat} {o m : Int} {k1 : Fo} (e : k.drop j = .cons o m k1 (k.drop (j + 1))) : nodeIs o m k1 (firstS 8) = true := by
  have h1 : validOf op n k [0, 1, 2, 3, 4, 5, 6, 7] = true := by
    unfold validOf
    rw [scope_first, h]
    rfl
  have h2 := valid_kid h1 e
  unfold validOf at h2
  rw [scope_first, Bool.and_eq_true] at h2
  exact h2.2
theorem fit_split (ds : List De) (op n : Int) (k : Fo) (h : nodeIs op n k (firstS 8) = true) : callsFitB ds op n k = (fitF (ariS ds) k && (if op = 3 then decide (plc n ds < ds.length) && decide (ariS ds n = some (k.len : Int)) else true)) := by
  unfold callsFitB fitN okCall
  rw [h, Bool.true_and, Bool.and_comm]
  congr 1
  by_cases h3 : op = 3
  · rw [if_pos h3, if_pos h3]
    by_cases hp : plc n ds < ds.length
    · rw [decide_eq_true hp, Bool.true_and]
    · rw [decide_eq_false hp, Bool.false_and]
      unfold ariS
      rw [(plc_fnd n ds).2 hp]
      rfl
  · rw [if_neg h3, if_neg h3]

set_option maxHeartbeats 4000000 in
theorem law_NCallsFit (bs : List Nat) (A : Option Addr) (c : Nat) (w : World) (hl : LiesY w 0 w.heap.size A bs) (hlc : bs.length ≤ c) (hc : c ≤ maxLen) :
    Calls Try.prog 3 #[.slice A bs.length c] w (Gives (.bool true) w) := by
  have HC := Lib.hid (drawCF_any A c bs w hl hlc hc)
  unfold maxLen at hc
  by_cases hsz : bs.length ≤ 1048576
  rotate_left
  · have hgt : 1048576 < bs.length := by omega
    clear hl
    go_enter Try.func3, Try.ntmps3
    go_wp2_with fail
    go_ret
    exact ⟨rfl, Below.refl _ _⟩
  clear hl
  go_enter Try.func3, Try.ntmps3
  go_wp2_with fail
  refine HC.out.mono ?_
  rintro e w1 ⟨ds, X, cx, op, n, k, Y, cy, bl, rfl, ⟨hd, h1, h2, h3, h4⟩, hi, ht, hks, hb⟩
  obtain ⟨_, _, hX, hk1, hk2⟩ := ht.slice
  injection hX with hX1 hX2 hX3
  subst hX3
  obtain ⟨W, hW⟩ : ∃ W, W = w1.alloc (Obj.cells #[.int .i64 op, .int .i64 n, .slice Y k.len cy] 26) := ⟨_, rfl⟩
  have hbW : Below w1.heap.size w1 W := by rw [hW]; exact (Below.refl _ _).alloc (Nat.le_refl _) _
  have hh0 := ht.held
  have hd0 : LiesD w1 0 w1.heap.size X ds := hd.mono_ (Nat.zero_le _) (Nat.le_refl _)
  have hx : Row W w1.heap.size 26 #[.int .i64 op, .int .i64 n, .slice Y k.len cy] := by rw [hW]; exact Row.fresh _ _ _
  have FE := Lib.hid (show ∀ U, Below W.heap.size W U → (U.cell? ⟨w1.heap.size, 0, none⟩ = some (.int .i64 op) ∧ U.cell? ⟨w1.heap.size, 1, none⟩ = some (.int .i64 n) ∧ U.cell? ⟨w1.heap.size, 2, none⟩ = some (.slice Y k.len cy)) ∧ LiesD U 0 U.heap.size X ds ∧ Held U U.heap.size Y k ∧ Below w.heap.size w U from fun U hU => by
    have h1 := hx.below hU hx.size
    exact ⟨⟨h1.cell rfl, h1.cell rfl, h1.cell rfl⟩, (hd0.up hbW).up hU, (hh0.up hbW).up hU, (hb.trans (hbW.mono hb.size)).trans (hU.mono (hb.trans (hbW.mono hb.size)).size)⟩)
  have HIM := Lib.hid (show ∀ U, Below W.heap.size W U → Calls Try.prog 5 #[.slice X ds.length cx, .agg #[.int .i64 op, .int .i64 n, .slice Y k.len cy]] U (Gives (.bool (callsFitB ds op n k)) U) from fun U hU => by
    obtain ⟨-, g1, g2, -⟩ := FE.out U hU
    exact implCallsFit_r ds X cx op n k Y cy 0 U.heap.size U g1 g2.1 (Nat.le_refl _) (by omega) hk1 hk2 (by omega))
  have HSP := Lib.hid (show ∀ U, Below W.heap.size W U → Calls Try.prog 6 #[.slice X ds.length cx, .agg #[.int .i64 op, .int .i64 n, .slice Y k.len cy]] U (Gives (.bool (callsFitB ds op n k)) U) from fun U hU => by
    obtain ⟨-, g1, g2, -⟩ := FE.out U hU
    exact specCallsFit_any ds X cx op n k Y cy U g1 g2.1 (by omega) (Nat.le_trans hk1 hk2) (by omega))
  obtain ⟨S1, hS1, hd1a, hd1b⟩ := fmt_empty op n k
  have HF := Lib.hid (show ∀ U, Below W.heap.size W U → Calls Try.prog 7 #[.agg #[.int .i64 op, .int .i64 n, .slice Y k.len cy]] U (Gives (.string S1) U) from fun U hU => by
    obtain ⟨-, -, g2, -⟩ := FE.out U hU
    have h := implFmt_t op n k Y cy U g2.1 (Nat.le_trans hk1 hk2)
    rw [hS1] at h
    exact h)
  have HI := Lib.hid (And.intro h3 (And.intro hk1 (And.intro hk2 hks)))
  clear hb hbW ht hh0 hX1 HC hi hx hks hS1 hd hd0 h1 h2 h3 h4
  go_upto_region 4 with fail
  rw [← hW]
  clear hW
  obtain ⟨⟨q0, q1, q2⟩, -⟩ := FE.out W (Below.refl _ _)
  go_wp2_with fail
  refine (HIM.out W (Below.refl _ _)).mono ?_
  rintro e w2 ⟨rfl, hb2⟩
  have HB2 := Lib.hid hb2
  clear hb2 q0 q1 q2 HIM
  obtain ⟨⟨q0, q1, q2⟩, -⟩ := FE.out w2 HB2.out
  go_wp2_with fail
  refine (HSP.out w2 HB2.out).mono ?_
  rintro e w3 ⟨rfl, hb3⟩
  have HB3 := Lib.hid (HB2.out.trans (hb3.mono HB2.out.size))
  clear hb3 q0 q1 q2
  obtain ⟨⟨q0, q1, q2⟩, -⟩ := FE.out w3 HB3.out
  have hbb : (callsFitB ds op n k != callsFitB ds op n k) = false := by simp
  cases hz : nodeIs op n k (firstS 8) with
  | false =>
    have hS : S1 = ⟨#[]⟩ := hd1a hz
    clear hd1a hd1b
    subst hS
    have hcf : callsFitB ds op n k = false := by unfold callsFitB; rw [hz]; rfl
    rw [hcf] at HSP hbb ⊢
    clear hcf hz
    go_wp2_with fail
    refine (HF.out w3 HB3.out).mono ?_
    rintro e w4 ⟨rfl, hb4⟩
    have HB4 := Lib.hid (HB3.out.trans (hb4.mono HB3.out.size))
    clear hb4 q0 q1 q2
    obtain ⟨⟨q0, q1, q2⟩, -⟩ := FE.out w4 HB4.out
    go_wp2_with fail
    refine (HSP.out w4 HB4.out).mono ?_
    rintro e w8 ⟨rfl, hb8⟩
    have HB8 := Lib.hid (HB4.out.trans (hb8.mono HB4.out.size))
    clear hb8 q0 q1 q2
    obtain ⟨⟨q0, q1, q2⟩, -⟩ := FE.out w8 HB8.out
    go_wp2_with fail
    refine (HF.out w8 HB8.out).mono ?_
    rintro e w9 ⟨rfl, hb9⟩
    have HB9 := Lib.hid (HB8.out.trans (hb9.mono HB8.out.size))
    clear hb9 q0 q1 q2
    have HBW := Lib.hid (FE.out w9 HB9.out).2.2.2
    go_wp2_with fail
    go_ret
    exact ⟨by simp, HBW.out⟩
  | true =>
    have hS : ¬ S1.toList = [] := hd1b hz
    have hSb : (S1.toList == ([] : List UInt8)) = false := by simpa using hS
    clear hd1a hd1b
    have HZ := Lib.hid hz
    have HSPL := Lib.hid (fit_split ds op n k hz)
    generalize hcf : callsFitB ds op n k = cf at *
    clear hz hcf HSP
    go_wp2_with fail
    refine (HF.out w3 HB3.out).mono ?_
    rintro e w4 ⟨rfl, hb4⟩
    have HB4 := Lib.hid (HB3.out.trans (hb4.mono HB3.out.size))
    clear hb4 q0 q1 q2
    go_wp2_with fail
    go_loopw [6, 7] (fun a i wr => ∃ (t : Bool) (j : Nat), a = .bool t ∧ j ≤ k.len ∧ i = .int .i64 j ∧ Hid (fitF (ariS ds) k = (t && fitF (ariS ds) (k.drop j))) ∧ Below W.heap.size W wr)
      (fun _ i _ => k.len - (intOf i).toNat)
    case atStart => exact ⟨true, 0, rfl, Nat.zero_le _, rfl, Lib.hid (by rw [Fo.drop_zero, Bool.true_and]), HB4.out⟩
    case round =>
      clear HB4
      obtain ⟨t, j, rfl, hj, rfl, HR, hbr⟩ := hrel
      have HBR := Lib.hid hbr
      obtain ⟨⟨q0, q1, q2⟩, -⟩ := FE.out wr hbr
      have hkm : k.len ≤ 1000000 := Nat.le_trans (Fo.len_le_size k) HI.out.2.2.2
      by_cases hlt : j < k.len
      · obtain ⟨o1, m1, k1, e1, e2, e3⟩ := Fo.drop_of_lt k j hlt
        obtain ⟨b, o, A', c', rfl, hbB, hi1, g0, g1, g2, h7, h8, hh1⟩ := (FE.out wr hbr).2.2.1.kid e1
        have HSTEP := Lib.hid (show fitF (ariS ds) k = (t && (callsFitB ds o1 m1 k1 && fitF (ariS ds) (k.drop (j + 1)))) by
          rw [HR.out, fitF_cons e1]
          congr 2
          unfold callsFitB
          rw [kid_is HZ.out e1, Bool.true_and])
        have HCK := Lib.hid (show Calls Try.prog 5 #[.slice X ds.length cx, .agg #[.int .i64 o1, .int .i64 m1, .slice A' k1.len c']] wr (Gives (.bool (callsFitB ds o1 m1 k1)) wr) from
          implCallsFit_r ds X cx o1 m1 k1 A' c' 0 wr.heap.size wr (FE.out wr hbr).2.1 hh1.1 (Nat.le_refl _) (by have := HI.out.1; omega) h7 h8 (by have := HI.out.2.2.2; omega))
        generalize callsFitB ds o1 m1 k1 = y at HSTEP HCK
        clear hbr hh1 HR e1
        cases t with
        | false =>
          go_wp2
          go_roundw
          case rel => exact ⟨false, j + 1, rfl, hlt, by go_num, Lib.hid (by rw [HSTEP.out]; rfl), HBR.out⟩
          case measure => simp [intOf]; omega
        | true =>
          go_wp2_with fail
          refine HCK.out.mono ?_
          rintro e w5 ⟨rfl, hb5⟩
          have HB5 := Lib.hid (HBR.out.trans (hb5.mono HBR.out.size))
          clear hb5 HCK q0 q1 q2 g0 g1 g2
          go_wp2
          go_roundw
          case rel => exact ⟨y, j + 1, rfl, hlt, by go_num, Lib.hid (by rw [HSTEP.out, Bool.true_and]), HB5.out⟩
          case measure => simp [intOf]; omega
      · have e9 : j = k.len := by omega
        subst e9
        have HT := Lib.hid (show fitF (ariS ds) k = t by rw [HR.out, Fo.drop_len]; cases t <;> rfl)
        clear HR hbr
        by_cases h3 : op = 3
        · subst h3
          have hfl := implFind_any ds X cx wr n (FE.out wr HBR.out).2.1 (by have := HI.out.1; omega)
          unfold FindPost at hfl
          by_cases hp : plc n ds < ds.length
          · rw [if_pos hp, decide_eq_true hp] at hfl
            obtain ⟨d, hd1, hd2⟩ := (plc_fnd n ds).1 hp
            have HP := Lib.hid hp
            have HD1 := Lib.hid hd1
            generalize hpe : plc n ds = p at hfl hd1 hp
            have HFL := Lib.hid hfl
            have HFIN := Lib.hid (show cf = (t && decide (d.ar = (k.len : Int))) by
              rw [HSPL.out, HT.out, if_pos rfl, decide_eq_true HP.out, Bool.true_and]
              unfold ariS
              rw [hd2]
              simp)
            clear hfl hpe hd2 HP HD1
            go_wp2_with fail
            refine HFL.out.mono ?_
            rintro e w5 ⟨rfl, hb5⟩
            have HB5 := Lib.hid (HBR.out.trans (hb5.mono HBR.out.size))
            clear hb5 HFL q0 q1 q2
            obtain ⟨⟨q0, q1, q2⟩, hLD, -, hbw⟩ := FE.out w5.drew HB5.out.drew
            obtain ⟨b9, o9, A9, c9, rfl, _, _, hf9, -, g9, -⟩ := hLD p d hd1
            have HBW := Lib.hid hbw
            clear hLD hbw hd1
            cases t with
            | false =>
              have hcf : cf = false := by rw [HFIN.out, Bool.false_and]
              clear HFIN HSPL
              subst hcf
              go_wp2_with fail
              refine wp_region_held_drew (S := fun w' => w'.cell? ⟨w1.heap.size, 0, none⟩ = some (.int .i64 3) ∧ w'.cell? ⟨w1.heap.size, 1, none⟩ = some (.int .i64 n) ∧ w'.cell? ⟨w1.heap.size, 2, none⟩ = some (.slice Y k.len cy) ∧ w'.cell? ⟨b9, o9 + p * 6 + 1, none⟩ = some (.int .i64 d.ar)) (by kernel_rfl) ⟨q0, q1, q2, g9⟩ (fun hHeld => ?_)
              refine takeW 0 (v := ?vx1_0) rfl (by kernel_rfl) (fun _ _ _ h => h) (by rfl) (by assumption) ?yx1_0 ?rx1_0
              case yx1_0 => (intro w' hSw; (try dsimp only at hSw); go_simp; try with_reducible rfl)
              try simp only [Act.put, List.setIfInBounds_toArray, List.set_cons_zero, List.set_cons_succ, List.getElem_toArray, List.getElem_cons_zero]
              refine takeW 1 (v := ?vx1_1) rfl (by kernel_rfl) (fun _ _ _ h => h) (by rfl) (by assumption) ?yx1_1 ?rx1_1
              case yx1_1 => (intro w' hSw; (try dsimp only at hSw); go_simp; try with_reducible rfl)
              try simp only [Act.put, List.setIfInBounds_toArray, List.set_cons_zero, List.set_cons_succ, List.getElem_toArray, List.getElem_cons_succ, List.getElem_cons_zero]
              refine takeN 2 rfl (by kernel_rfl) (fun _ _ _ h => h) (by rfl) (by assumption) ?rx1_2
              try simp only [Act.put, List.setIfInBounds_toArray, List.set_cons_zero, List.set_cons_succ, List.getElem_toArray, List.getElem_cons_succ, List.getElem_cons_zero]
              refine takeW 3 (v := ?vx1_3) rfl (by kernel_rfl) (fun _ _ _ h => h) (by rfl) (by assumption) ?yx1_3 ?rx1_3
              case yx1_3 => (intro w' hSw; (try dsimp only at hSw); go_simp; try with_reducible rfl)
              try simp only [Act.put, List.setIfInBounds_toArray, List.set_cons_zero, List.set_cons_succ, List.getElem_toArray, List.getElem_cons_succ, List.getElem_cons_zero]
              refine takeW 4 (v := ?vx1_4) rfl (by kernel_rfl) (fun _ _ _ h => h) (by rfl) (by assumption) ?yx1_4 ?rx1_4
              case yx1_4 => (intro w' hSw; (try dsimp only at hSw); go_simp; try with_reducible rfl)
              try simp only [Act.put, List.setIfInBounds_toArray, List.set_cons_zero, List.set_cons_succ, List.getElem_toArray, List.getElem_cons_succ, List.getElem_cons_zero]
              refine takeN 5 rfl (by kernel_rfl) (fun _ _ _ h => h) (by rfl) (by assumption) ?rx1_5
              try simp only [Act.put, List.setIfInBounds_toArray, List.set_cons_zero, List.set_cons_succ, List.getElem_toArray, List.getElem_cons_succ, List.getElem_cons_zero]
              refine takeN 6 rfl (by kernel_rfl) (fun _ _ _ h => h) (by rfl) (by assumption) ?rx1_6
              try simp only [Act.put, List.setIfInBounds_toArray, List.set_cons_zero, List.set_cons_succ, List.getElem_toArray, List.getElem_cons_succ, List.getElem_cons_zero]
              refine takeN 7 rfl (by kernel_rfl) (fun _ _ _ h => h) (by rfl) (by assumption) ?rx1_7
              try simp only [Act.put, List.setIfInBounds_toArray, List.set_cons_zero, List.set_cons_succ, List.getElem_toArray, List.getElem_cons_succ, List.getElem_cons_zero]
              refine takeN 8 rfl (by kernel_rfl) (fun _ _ _ h => h) (by rfl) (by assumption) ?rx1_8
              try simp only [Act.put, List.setIfInBounds_toArray, List.set_cons_zero, List.set_cons_succ, List.getElem_toArray, List.getElem_cons_succ, List.getElem_cons_zero]
              refine takeN 9 rfl (by kernel_rfl) (fun _ _ _ h => h) (by rfl) (by assumption) ?rx1_9
              try simp only [Act.put, List.setIfInBounds_toArray, List.set_cons_zero, List.set_cons_succ, List.getElem_toArray, List.getElem_cons_succ, List.getElem_cons_zero]
              refine takeN 10 rfl (by kernel_rfl) (fun _ _ _ h => h) (by rfl) (by assumption) ?rx1_10
              try simp only [Act.put, List.setIfInBounds_toArray, List.set_cons_zero, List.set_cons_succ, List.getElem_toArray, List.getElem_cons_succ, List.getElem_cons_zero]
              refine takeN 11 rfl (by kernel_rfl) (fun _ _ _ h => h) (by rfl) (by assumption) ?rx1_11
              try simp only [Act.put, List.setIfInBounds_toArray, List.set_cons_zero, List.set_cons_succ, List.getElem_toArray, List.getElem_cons_succ, List.getElem_cons_zero]
              refine takeN 12 rfl (by kernel_rfl) (fun _ _ _ h => h) (by rfl) (by assumption) ?rx1_12
              try simp only [Act.put, List.setIfInBounds_toArray, List.set_cons_zero, List.set_cons_succ, List.getElem_toArray, List.getElem_cons_succ, List.getElem_cons_zero]
              refine takeN 13 rfl (by kernel_rfl) (fun _ _ _ h => h) (by rfl) (by assumption) ?rx1_13
              try simp only [Act.put, List.setIfInBounds_toArray, List.set_cons_zero, List.set_cons_succ, List.getElem_toArray, List.getElem_cons_succ, List.getElem_cons_zero]
              refine takeW 14 (v := ?vx1_14) rfl (by kernel_rfl) (fun _ _ _ h => h) (by rfl) (by assumption) ?yx1_14 ?rx1_14
              case yx1_14 => (intro w' hSw; (try dsimp only at hSw); go_simp; try with_reducible rfl)
              try simp only [Act.put, List.setIfInBounds_toArray, List.set_cons_zero, List.set_cons_succ, List.getElem_toArray, List.getElem_cons_succ, List.getElem_cons_zero]
              refine takeW 15 (v := ?vx1_15) rfl (by kernel_rfl) (fun _ _ _ h => h) (by rfl) (by assumption) ?yx1_15 ?rx1_15
              case yx1_15 => (intro w' hSw; (try dsimp only at hSw); go_simp; try with_reducible rfl)
              try simp only [Act.put, List.setIfInBounds_toArray, List.set_cons_zero, List.set_cons_succ, List.getElem_toArray, List.getElem_cons_succ, List.getElem_cons_zero]
              refine wpAnyH_done (by kernel_rfl) ?_ _
              go_wp2_with fail
              go_ret
              exact ⟨ret_bool (by simp), HBW.out⟩
            | true =>
              have hz : (d.ar == (k.len : Int)) = cf := by rw [HFIN.out, Bool.true_and]; rfl
              clear HFIN HSPL
              go_wp2_with fail
              refine wp_region_held_drew (S := fun w' => w'.cell? ⟨w1.heap.size, 0, none⟩ = some (.int .i64 3) ∧ w'.cell? ⟨w1.heap.size, 1, none⟩ = some (.int .i64 n) ∧ w'.cell? ⟨w1.heap.size, 2, none⟩ = some (.slice Y k.len cy) ∧ w'.cell? ⟨b9, o9 + p * 6 + 1, none⟩ = some (.int .i64 d.ar)) (by kernel_rfl) ⟨q0, q1, q2, g9⟩ (fun hHeld => ?_)
              refine takeW 0 (v := ?vx2_0) rfl (by kernel_rfl) (fun _ _ _ h => h) (by rfl) (by assumption) ?yx2_0 ?rx2_0
              case yx2_0 => (intro w' hSw; (try dsimp only at hSw); go_simp; try with_reducible rfl)
              try simp only [Act.put, List.setIfInBounds_toArray, List.set_cons_zero, List.set_cons_succ, List.getElem_toArray, List.getElem_cons_zero]
              refine takeW 1 (v := ?vx2_1) rfl (by kernel_rfl) (fun _ _ _ h => h) (by rfl) (by assumption) ?yx2_1 ?rx2_1
              case yx2_1 => (intro w' hSw; (try dsimp only at hSw); go_simp; try with_reducible rfl)
              try simp only [Act.put, List.setIfInBounds_toArray, List.set_cons_zero, List.set_cons_succ, List.getElem_toArray, List.getElem_cons_succ, List.getElem_cons_zero]
              refine takeW 2 (v := ?vx2_2) rfl (by kernel_rfl) (fun _ _ _ h => h) (by rfl) (by assumption) ?yx2_2 ?rx2_2
              case yx2_2 => (intro w' hSw; (try dsimp only at hSw); go_simp; try with_reducible rfl)
              try simp only [Act.put, List.setIfInBounds_toArray, List.set_cons_zero, List.set_cons_succ, List.getElem_toArray, List.getElem_cons_succ, List.getElem_cons_zero]
              refine takeW 3 (v := ?vx2_3) rfl (by kernel_rfl) (fun _ _ _ h => h) (by rfl) (by assumption) ?yx2_3 ?rx2_3
              case yx2_3 => (intro w' hSw; (try dsimp only at hSw); go_simp; try with_reducible rfl)
              try simp only [Act.put, List.setIfInBounds_toArray, List.set_cons_zero, List.set_cons_succ, List.getElem_toArray, List.getElem_cons_succ, List.getElem_cons_zero]
              refine takeW 4 (v := ?vx2_4) rfl (by kernel_rfl) (fun _ _ _ h => h) (by rfl) (by assumption) ?yx2_4 ?rx2_4
              case yx2_4 => (intro w' hSw; (try dsimp only at hSw); go_simp; try with_reducible rfl)
              try simp only [Act.put, List.setIfInBounds_toArray, List.set_cons_zero, List.set_cons_succ, List.getElem_toArray, List.getElem_cons_succ, List.getElem_cons_zero]
              refine takeW 5 (v := ?vx2_5) rfl (by kernel_rfl) (fun _ _ _ h => h) (by rfl) (by assumption) ?yx2_5 ?rx2_5
              case yx2_5 => (intro w' hSw; (try dsimp only at hSw); go_simp; try with_reducible rfl)
              try simp only [Act.put, List.setIfInBounds_toArray, List.set_cons_zero, List.set_cons_succ, List.getElem_toArray, List.getElem_cons_succ, List.getElem_cons_zero]
              refine takeW 6 (v := ?vx2_6) rfl (by kernel_rfl) (fun _ _ _ h => h) (by rfl) (by assumption) ?yx2_6 ?rx2_6
              case yx2_6 => (intro w' hSw; (try dsimp only at hSw); go_simp; try with_reducible rfl)
              try simp only [Act.put, List.setIfInBounds_toArray, List.set_cons_zero, List.set_cons_succ, List.getElem_toArray, List.getElem_cons_succ, List.getElem_cons_zero]
              refine takeW 7 (v := ?vx2_7) rfl (by kernel_rfl) (fun _ _ _ h => h) (by rfl) (by assumption) ?yx2_7 ?rx2_7
              case yx2_7 => (intro w' hSw; (try dsimp only at hSw); go_simp; try with_reducible rfl)
              try simp only [Act.put, List.setIfInBounds_toArray, List.set_cons_zero, List.set_cons_succ, List.getElem_toArray, List.getElem_cons_succ, List.getElem_cons_zero]
              refine takeW 8 (v := ?vx2_8) rfl (by kernel_rfl) (fun _ _ _ h => h) (by rfl) (by assumption) ?yx2_8 ?rx2_8
              case yx2_8 => (intro w' hSw; (try dsimp only at hSw); go_simp; try with_reducible rfl)
              try simp only [Act.put, List.setIfInBounds_toArray, List.set_cons_zero, List.set_cons_succ, List.getElem_toArray, List.getElem_cons_succ, List.getElem_cons_zero]
              refine takeW 9 (v := ?vx2_9) rfl (by kernel_rfl) (fun _ _ _ h => h) (by rfl) (by assumption) ?yx2_9 ?rx2_9
              case yx2_9 => (intro w' hSw; (try dsimp only at hSw); go_simp; try with_reducible rfl)
              try simp only [Act.put, List.setIfInBounds_toArray, List.set_cons_zero, List.set_cons_succ, List.getElem_toArray, List.getElem_cons_succ, List.getElem_cons_zero]
              refine takeW 10 (v := ?vx2_10) rfl (by kernel_rfl) (fun _ _ _ h => h) (by rfl) (by assumption) ?yx2_10 ?rx2_10
              case yx2_10 => (intro w' hSw; (try dsimp only at hSw); go_simp; try with_reducible rfl)
              try simp only [Act.put, List.setIfInBounds_toArray, List.set_cons_zero, List.set_cons_succ, List.getElem_toArray, List.getElem_cons_succ, List.getElem_cons_zero]
              refine takeW 11 (v := ?vx2_11) rfl (by kernel_rfl) (fun _ _ _ h => h) (by rfl) (by assumption) ?yx2_11 ?rx2_11
              case yx2_11 => (intro w' hSw; (try dsimp only at hSw); go_simp; try with_reducible rfl)
              try simp only [Act.put, List.setIfInBounds_toArray, List.set_cons_zero, List.set_cons_succ, List.getElem_toArray, List.getElem_cons_succ, List.getElem_cons_zero]
              refine takeW 12 (v := ?vx2_12) rfl (by kernel_rfl) (fun _ _ _ h => h) (by rfl) (by assumption) ?yx2_12 ?rx2_12
              case yx2_12 => (intro w' hSw; (try dsimp only at hSw); go_simp; try with_reducible rfl)
              try simp only [Act.put, List.setIfInBounds_toArray, List.set_cons_zero, List.set_cons_succ, List.getElem_toArray, List.getElem_cons_succ, List.getElem_cons_zero]
              refine takeW 13 (v := .bool cf) rfl (by kernel_rfl) (fun _ _ _ h => h) (by rfl) (by assumption) ?yx2_13 ?rx2_13
              case yx2_13 => (intro w' hSw; (try dsimp only at hSw); go_simp; try first | with_reducible rfl | simp [hz])
              try simp only [Act.put, List.setIfInBounds_toArray, List.set_cons_zero, List.set_cons_succ, List.getElem_toArray, List.getElem_cons_succ, List.getElem_cons_zero]
              refine takeW 14 (v := ?vx2_14) rfl (by kernel_rfl) (fun _ _ _ h => h) (by rfl) (by assumption) ?yx2_14 ?rx2_14
              case yx2_14 => (intro w' hSw; (try dsimp only at hSw); go_simp; try with_reducible rfl)
              try simp only [Act.put, List.setIfInBounds_toArray, List.set_cons_zero, List.set_cons_succ, List.getElem_toArray, List.getElem_cons_succ, List.getElem_cons_zero]
              refine takeW 15 (v := ?vx2_15) rfl (by kernel_rfl) (fun _ _ _ h => h) (by rfl) (by assumption) ?yx2_15 ?rx2_15
              case yx2_15 => (intro w' hSw; (try dsimp only at hSw); go_simp; try with_reducible rfl)
              try simp only [Act.put, List.setIfInBounds_toArray, List.set_cons_zero, List.set_cons_succ, List.getElem_toArray, List.getElem_cons_succ, List.getElem_cons_zero]
              refine wpAnyH_done (by kernel_rfl) ?_ _
              go_wp2_with fail
              go_ret
              exact ⟨ret_bool (by simp), HBW.out⟩
          · rw [if_neg hp, decide_eq_false hp] at hfl
            have HFL := Lib.hid hfl
            have HFIN := Lib.hid (show cf = false by
              rw [HSPL.out, if_pos rfl, decide_eq_false hp]
              simp)
            clear hfl hp
            go_wp2_with fail
            refine HFL.out.mono ?_
            rintro e w5 ⟨rfl, hb5⟩
            have HB5 := Lib.hid (HBR.out.trans (hb5.mono HBR.out.size))
            clear hb5 HFL q0 q1 q2
            obtain ⟨⟨q0, q1, q2⟩, hLD, -, hbw⟩ := FE.out w5.drew HB5.out.drew
            have HBW := Lib.hid hbw
            clear hLD hbw
            cases t with
            | false =>
              have hcf : cf = false := HFIN.out
              clear HFIN HSPL
              subst hcf
              go_wp2_with fail
              refine wp_region_held_drew (S := fun w' => w'.cell? ⟨w1.heap.size, 0, none⟩ = some (.int .i64 3) ∧ w'.cell? ⟨w1.heap.size, 1, none⟩ = some (.int .i64 n) ∧ w'.cell? ⟨w1.heap.size, 2, none⟩ = some (.slice Y k.len cy)) (by kernel_rfl) ⟨q0, q1, q2⟩ (fun hHeld => ?_)
              refine takeW 0 (v := ?vx3_0) rfl (by kernel_rfl) (fun _ _ _ h => h) (by rfl) (by assumption) ?yx3_0 ?rx3_0
              case yx3_0 => (intro w' hSw; (try dsimp only at hSw); go_simp; try with_reducible rfl)
              try simp only [Act.put, List.setIfInBounds_toArray, List.set_cons_zero, List.set_cons_succ, List.getElem_toArray, List.getElem_cons_zero]
              refine takeW 1 (v := ?vx3_1) rfl (by kernel_rfl) (fun _ _ _ h => h) (by rfl) (by assumption) ?yx3_1 ?rx3_1
              case yx3_1 => (intro w' hSw; (try dsimp only at hSw); go_simp; try with_reducible rfl)
              try simp only [Act.put, List.setIfInBounds_toArray, List.set_cons_zero, List.set_cons_succ, List.getElem_toArray, List.getElem_cons_succ, List.getElem_cons_zero]
              refine takeN 2 rfl (by kernel_rfl) (fun _ _ _ h => h) (by rfl) (by assumption) ?rx3_2
              try simp only [Act.put, List.setIfInBounds_toArray, List.set_cons_zero, List.set_cons_succ, List.getElem_toArray, List.getElem_cons_succ, List.getElem_cons_zero]
              refine takeW 3 (v := ?vx3_3) rfl (by kernel_rfl) (fun _ _ _ h => h) (by rfl) (by assumption) ?yx3_3 ?rx3_3
              case yx3_3 => (intro w' hSw; (try dsimp only at hSw); go_simp; try with_reducible rfl)
              try simp only [Act.put, List.setIfInBounds_toArray, List.set_cons_zero, List.set_cons_succ, List.getElem_toArray, List.getElem_cons_succ, List.getElem_cons_zero]
              refine takeW 4 (v := ?vx3_4) rfl (by kernel_rfl) (fun _ _ _ h => h) (by rfl) (by assumption) ?yx3_4 ?rx3_4
              case yx3_4 => (intro w' hSw; (try dsimp only at hSw); go_simp; try with_reducible rfl)
              try simp only [Act.put, List.setIfInBounds_toArray, List.set_cons_zero, List.set_cons_succ, List.getElem_toArray, List.getElem_cons_succ, List.getElem_cons_zero]
              refine takeN 5 rfl (by kernel_rfl) (fun _ _ _ h => h) (by rfl) (by assumption) ?rx3_5
              try simp only [Act.put, List.setIfInBounds_toArray, List.set_cons_zero, List.set_cons_succ, List.getElem_toArray, List.getElem_cons_succ, List.getElem_cons_zero]
              refine takeN 6 rfl (by kernel_rfl) (fun _ _ _ h => h) (by rfl) (by assumption) ?rx3_6
              try simp only [Act.put, List.setIfInBounds_toArray, List.set_cons_zero, List.set_cons_succ, List.getElem_toArray, List.getElem_cons_succ, List.getElem_cons_zero]
              refine takeN 7 rfl (by kernel_rfl) (fun _ _ _ h => h) (by rfl) (by assumption) ?rx3_7
              try simp only [Act.put, List.setIfInBounds_toArray, List.set_cons_zero, List.set_cons_succ, List.getElem_toArray, List.getElem_cons_succ, List.getElem_cons_zero]
              refine takeN 8 rfl (by kernel_rfl) (fun _ _ _ h => h) (by rfl) (by assumption) ?rx3_8
              try simp only [Act.put, List.setIfInBounds_toArray, List.set_cons_zero, List.set_cons_succ, List.getElem_toArray, List.getElem_cons_succ, List.getElem_cons_zero]
              refine takeN 9 rfl (by kernel_rfl) (fun _ _ _ h => h) (by rfl) (by assumption) ?rx3_9
              try simp only [Act.put, List.setIfInBounds_toArray, List.set_cons_zero, List.set_cons_succ, List.getElem_toArray, List.getElem_cons_succ, List.getElem_cons_zero]
              refine takeN 10 rfl (by kernel_rfl) (fun _ _ _ h => h) (by rfl) (by assumption) ?rx3_10
              try simp only [Act.put, List.setIfInBounds_toArray, List.set_cons_zero, List.set_cons_succ, List.getElem_toArray, List.getElem_cons_succ, List.getElem_cons_zero]
              refine takeN 11 rfl (by kernel_rfl) (fun _ _ _ h => h) (by rfl) (by assumption) ?rx3_11
              try simp only [Act.put, List.setIfInBounds_toArray, List.set_cons_zero, List.set_cons_succ, List.getElem_toArray, List.getElem_cons_succ, List.getElem_cons_zero]
              refine takeN 12 rfl (by kernel_rfl) (fun _ _ _ h => h) (by rfl) (by assumption) ?rx3_12
              try simp only [Act.put, List.setIfInBounds_toArray, List.set_cons_zero, List.set_cons_succ, List.getElem_toArray, List.getElem_cons_succ, List.getElem_cons_zero]
              refine takeN 13 rfl (by kernel_rfl) (fun _ _ _ h => h) (by rfl) (by assumption) ?rx3_13
              try simp only [Act.put, List.setIfInBounds_toArray, List.set_cons_zero, List.set_cons_succ, List.getElem_toArray, List.getElem_cons_succ, List.getElem_cons_zero]
              refine takeW 14 (v := ?vx3_14) rfl (by kernel_rfl) (fun _ _ _ h => h) (by rfl) (by assumption) ?yx3_14 ?rx3_14
              case yx3_14 => (intro w' hSw; (try dsimp only at hSw); go_simp; try with_reducible rfl)
              try simp only [Act.put, List.setIfInBounds_toArray, List.set_cons_zero, List.set_cons_succ, List.getElem_toArray, List.getElem_cons_succ, List.getElem_cons_zero]
              refine takeW 15 (v := ?vx3_15) rfl (by kernel_rfl) (fun _ _ _ h => h) (by rfl) (by assumption) ?yx3_15 ?rx3_15
              case yx3_15 => (intro w' hSw; (try dsimp only at hSw); go_simp; try with_reducible rfl)
              try simp only [Act.put, List.setIfInBounds_toArray, List.set_cons_zero, List.set_cons_succ, List.getElem_toArray, List.getElem_cons_succ, List.getElem_cons_zero]
              refine wpAnyH_done (by kernel_rfl) ?_ _
              go_wp2_with fail
              go_ret
              exact ⟨ret_bool (by simp), HBW.out⟩
            | true =>
              have hcf : cf = false := HFIN.out
              clear HFIN HSPL
              subst hcf
              go_wp2_with fail
              refine wp_region_held_drew (S := fun w' => w'.cell? ⟨w1.heap.size, 0, none⟩ = some (.int .i64 3) ∧ w'.cell? ⟨w1.heap.size, 1, none⟩ = some (.int .i64 n) ∧ w'.cell? ⟨w1.heap.size, 2, none⟩ = some (.slice Y k.len cy)) (by kernel_rfl) ⟨q0, q1, q2⟩ (fun hHeld => ?_)
              refine takeW 0 (v := ?vx4_0) rfl (by kernel_rfl) (fun _ _ _ h => h) (by rfl) (by assumption) ?yx4_0 ?rx4_0
              case yx4_0 => (intro w' hSw; (try dsimp only at hSw); go_simp; try with_reducible rfl)
              try simp only [Act.put, List.setIfInBounds_toArray, List.set_cons_zero, List.set_cons_succ, List.getElem_toArray, List.getElem_cons_zero]
              refine takeW 1 (v := ?vx4_1) rfl (by kernel_rfl) (fun _ _ _ h => h) (by rfl) (by assumption) ?yx4_1 ?rx4_1
              case yx4_1 => (intro w' hSw; (try dsimp only at hSw); go_simp; try with_reducible rfl)
              try simp only [Act.put, List.setIfInBounds_toArray, List.set_cons_zero, List.set_cons_succ, List.getElem_toArray, List.getElem_cons_succ, List.getElem_cons_zero]
              refine takeW 2 (v := ?vx4_2) rfl (by kernel_rfl) (fun _ _ _ h => h) (by rfl) (by assumption) ?yx4_2 ?rx4_2
              case yx4_2 => (intro w' hSw; (try dsimp only at hSw); go_simp; try with_reducible rfl)
              try simp only [Act.put, List.setIfInBounds_toArray, List.set_cons_zero, List.set_cons_succ, List.getElem_toArray, List.getElem_cons_succ, List.getElem_cons_zero]
              refine takeW 3 (v := ?vx4_3) rfl (by kernel_rfl) (fun _ _ _ h => h) (by rfl) (by assumption) ?yx4_3 ?rx4_3
              case yx4_3 => (intro w' hSw; (try dsimp only at hSw); go_simp; try with_reducible rfl)
              try simp only [Act.put, List.setIfInBounds_toArray, List.set_cons_zero, List.set_cons_succ, List.getElem_toArray, List.getElem_cons_succ, List.getElem_cons_zero]
              refine takeW 4 (v := ?vx4_4) rfl (by kernel_rfl) (fun _ _ _ h => h) (by rfl) (by assumption) ?yx4_4 ?rx4_4
              case yx4_4 => (intro w' hSw; (try dsimp only at hSw); go_simp; try with_reducible rfl)
              try simp only [Act.put, List.setIfInBounds_toArray, List.set_cons_zero, List.set_cons_succ, List.getElem_toArray, List.getElem_cons_succ, List.getElem_cons_zero]
              refine takeN 5 rfl (by kernel_rfl) (fun _ _ _ h => h) (by rfl) (by assumption) ?rx4_5
              try simp only [Act.put, List.setIfInBounds_toArray, List.set_cons_zero, List.set_cons_succ, List.getElem_toArray, List.getElem_cons_succ, List.getElem_cons_zero]
              refine takeN 6 rfl (by kernel_rfl) (fun _ _ _ h => h) (by rfl) (by assumption) ?rx4_6
              try simp only [Act.put, List.setIfInBounds_toArray, List.set_cons_zero, List.set_cons_succ, List.getElem_toArray, List.getElem_cons_succ, List.getElem_cons_zero]
              refine takeN 7 rfl (by kernel_rfl) (fun _ _ _ h => h) (by rfl) (by assumption) ?rx4_7
              try simp only [Act.put, List.setIfInBounds_toArray, List.set_cons_zero, List.set_cons_succ, List.getElem_toArray, List.getElem_cons_succ, List.getElem_cons_zero]
              refine takeN 8 rfl (by kernel_rfl) (fun _ _ _ h => h) (by rfl) (by assumption) ?rx4_8
              try simp only [Act.put, List.setIfInBounds_toArray, List.set_cons_zero, List.set_cons_succ, List.getElem_toArray, List.getElem_cons_succ, List.getElem_cons_zero]
              refine takeN 9 rfl (by kernel_rfl) (fun _ _ _ h => h) (by rfl) (by assumption) ?rx4_9
              try simp only [Act.put, List.setIfInBounds_toArray, List.set_cons_zero, List.set_cons_succ, List.getElem_toArray, List.getElem_cons_succ, List.getElem_cons_zero]
              refine takeN 10 rfl (by kernel_rfl) (fun _ _ _ h => h) (by rfl) (by assumption) ?rx4_10
              try simp only [Act.put, List.setIfInBounds_toArray, List.set_cons_zero, List.set_cons_succ, List.getElem_toArray, List.getElem_cons_succ, List.getElem_cons_zero]
              refine takeN 11 rfl (by kernel_rfl) (fun _ _ _ h => h) (by rfl) (by assumption) ?rx4_11
              try simp only [Act.put, List.setIfInBounds_toArray, List.set_cons_zero, List.set_cons_succ, List.getElem_toArray, List.getElem_cons_succ, List.getElem_cons_zero]
              refine takeN 12 rfl (by kernel_rfl) (fun _ _ _ h => h) (by rfl) (by assumption) ?rx4_12
              try simp only [Act.put, List.setIfInBounds_toArray, List.set_cons_zero, List.set_cons_succ, List.getElem_toArray, List.getElem_cons_succ, List.getElem_cons_zero]
              refine takeN 13 rfl (by kernel_rfl) (fun _ _ _ h => h) (by rfl) (by assumption) ?rx4_13
              try simp only [Act.put, List.setIfInBounds_toArray, List.set_cons_zero, List.set_cons_succ, List.getElem_toArray, List.getElem_cons_succ, List.getElem_cons_zero]
              refine takeW 14 (v := ?vx4_14) rfl (by kernel_rfl) (fun _ _ _ h => h) (by rfl) (by assumption) ?yx4_14 ?rx4_14
              case yx4_14 => (intro w' hSw; (try dsimp only at hSw); go_simp; try with_reducible rfl)
              try simp only [Act.put, List.setIfInBounds_toArray, List.set_cons_zero, List.set_cons_succ, List.getElem_toArray, List.getElem_cons_succ, List.getElem_cons_zero]
              refine takeW 15 (v := ?vx4_15) rfl (by kernel_rfl) (fun _ _ _ h => h) (by rfl) (by assumption) ?yx4_15 ?rx4_15
              case yx4_15 => (intro w' hSw; (try dsimp only at hSw); go_simp; try with_reducible rfl)
              try simp only [Act.put, List.setIfInBounds_toArray, List.set_cons_zero, List.set_cons_succ, List.getElem_toArray, List.getElem_cons_succ, List.getElem_cons_zero]
              refine wpAnyH_done (by kernel_rfl) ?_ _
              go_wp2_with fail
              go_ret
              exact ⟨ret_bool (by simp), HBW.out⟩
        · have g3 : (op == 3) = false := by simpa using h3
          have HFIN := Lib.hid (show cf = t by rw [HSPL.out, HT.out, if_neg h3, Bool.and_true])
          have HBW := Lib.hid (FE.out wr HBR.out).2.2.2
          clear h3
          go_wp2_with fail
          go_ret
          exact ⟨ret_bool (by rw [HFIN.out]; cases t <;> rfl), HBW.out⟩
end Go.Proofs.Ytgcdmikbdpkpcaa
