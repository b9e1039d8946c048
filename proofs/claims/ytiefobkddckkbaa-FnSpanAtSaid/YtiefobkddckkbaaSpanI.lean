/-
  impl.offsetOf and impl.SpanAt (made by gen_spani.py).
-/
import Derived.Test.YtiefobkddckkbaaSpanD
import Derived.Test.YtiefobkddckkbaaSpanE
import Derived.Test.YtiefobkddckkbaaFmtM
import Derived.Test.YtiefobkddckkbaaPartI
import Derived.Test.YtiefobkddckkbaaOpen
import Derived.Test.YtiefobkddckkbaaTake
import Derived.BigRegion
namespace Go.Proofs.Ytiefobkddckkbaa
open Go.RowKit Go.Shelf
set_option maxRecDepth 100000

theorem off_le {op n : Int} {k : Fo} (hp : nodeIs op n k (firstS 8) = true) {i j : Nat} (hi : i < k.len) (hj : j ≤ i) : (markL op n k.len i).length + (pre op n (txtF k) j).length ≤ 600 := by
  have hm := mok_is hp
  unfold mokN at hm
  rw [Bool.and_eq_true] at hm
  have h1 := txt_fits hm.1 (show j ≤ k.len by omega)
  have hk : kidsOk op k.len = true := by
    have := hm.1
    unfold mokOwn at this
    rw [Bool.and_eq_true] at this
    exact this.1
  have h2 := mark_len (n := n) hk hi
  have h3 : (fmtL op n k).length ≤ 500 := fmtL_len op n k
  unfold fmtL at h3
  rw [if_pos hp] at h3
  split at h2
  · split at h2
    · omega
    · split at h2 <;> omega
  · omega
theorem lead_is {op n : Int} {k : Fo} (hp : nodeIs op n k (firstS 8) = true) {i : Nat} (hi : i < k.len) : (markL op n k.len i).length + (pre op n (txtF k) i).length = leadN op (txtF k) i := by
  have hm := mok_is hp
  unfold mokN at hm
  rw [Bool.and_eq_true] at hm
  have hk : kidsOk op (txtF k).length = true := by
    have := hm.1
    unfold mokOwn at this
    rw [Bool.and_eq_true] at this
    rw [txtF_len]
    exact this.1
  have h1 := off_len (n := n) hk i (by rw [txtF_len]; exact hi)
  unfold offT at h1
  rw [List.length_append, txtF_len] at h1
  omega

set_option maxHeartbeats 4000000 in
theorem offset_any (op n : Int) (k : Fo) (A : Option Addr) (c i : Nat) (w : World) (hl : Lies w 0 w.heap.size A 0 k) (hp : nodeIs op n k (firstS 8) = true) (hi : i < k.len) (hk1 : k.len ≤ c) (hk2 : c ≤ maxLen) :
    Calls Try.prog 24 #[.agg #[.int .i64 op, .int .i64 n, .slice A k.len c], .int .i64 (i : Int)] w (Gives (.int .i64 (leadN op (txtF k) i : Int)) w) := by
  have hm := mok_is hp
  unfold mokN at hm
  rw [Bool.and_eq_true] at hm
  obtain ⟨hown, hkids⟩ := hm
  have h0 := hl.at_ 0
  obtain ⟨op0, n0, k0, e0, _, _⟩ := Fo.drop_of_lt k 0 (by omega)
  rw [Nat.zero_add, e0] at h0
  obtain ⟨⟨b, o, A0, c0, hA, _, _, _⟩, _⟩ := h0
  subst hA
  unfold maxLen at hk2
  obtain ⟨W1, hW1⟩ : ∃ W, W = w.alloc (Obj.cells #[.int .i64 op, .int .i64 n, .slice (some ⟨b, o, none⟩) k.len c] 33) := ⟨_, rfl⟩
  have hb1 : Below w.heap.size w W1 := by rw [hW1]; exact (Below.refl _ _).alloc (Nat.le_refl _) _
  have hx1 : Row W1 w.heap.size 33 #[.int .i64 op, .int .i64 n, .slice (some ⟨b, o, none⟩) k.len c] := by rw [hW1]; exact Row.fresh _ _ _
  have HF := Lib.hid (form_any op n k.len hown W1)
  have FE := Lib.hid (show ∀ U, Below W1.heap.size W1 U → U.cell? ⟨w.heap.size, 0, none⟩ = some (.int .i64 op) ∧ U.cell? ⟨w.heap.size, 1, none⟩ = some (.int .i64 n) ∧ U.cell? ⟨w.heap.size, 2, none⟩ = some (.slice (some ⟨b, o, none⟩) k.len c) from fun U hU => by
    have h1 := hx1.below hU hx1.size
    exact ⟨h1.cell rfl, h1.cell rfl, h1.cell rfl⟩)
  have HB1 := Lib.hid hb1
  have HL := Lib.hid hl
  have HP := Lib.hid hp
  have HLE := Lib.hid (show ∀ j, j ≤ i → (markL op n k.len i).length + (pre op n (txtF k) j).length ≤ 600 from fun j hj => off_le hp hi hj)
  have HLD := Lib.hid (lead_is hp hi)
  clear hl hp hb1 hx1 hkids hown e0
  go_enter Try.func24, Try.ntmps24
  go_upto_region 1 with fail
  rw [← hW1]
  clear hW1
  obtain ⟨q0, q1, q2⟩ := FE.out W1 (Below.refl _ _)
  go_wp2_with fail
  refine HF.out.mono ?_
  rintro e W2 ⟨TT, x, f, rfl, hb2, hform⟩
  have HM := Lib.hid hform.1
  have HEN := Lib.hid hform.2.1
  have HMK := Lib.hid (show ∀ j : Nat, j ≤ k.len → ∃ S : ByteArray, S.size = (markL op n k.len j).length ∧ ∀ V, KeepsR W2 V → ∀ A c, Calls Try.prog f #[x, .agg #[.int .i64 op, .int .i64 n, .slice A k.len c], .int .i64 (j : Int)] V (Gives (.string S) V) from fun j hj => ⟨⟨(markL op n k.len j).toArray⟩, size_list _, fun V hV A c => hform.2.2 V hV j A c hj⟩)
  have HB2 := Lib.hid hb2
  clear hb2 hform HF q0 q1 q2
  obtain ⟨q0, q1, q2⟩ := FE.out W2 HB2.out
  obtain ⟨Si, hSi, hmi⟩ := HMK.out i (by omega)
  have HSI := Lib.hid hSi
  clear hSi
  go_wp2_with fail
  rw [HM.out]
  case a => kernel_rfl
  go_wp2_with fail
  rw [HEN.out]
  go_wp2_with fail
  refine (hmi W2 (KeepsR.refl _) _ c).mono ?_
  rintro e w4 ⟨rfl, hb4⟩
  have HB4 := Lib.hid hb4
  clear hmi hb4 q0 q1 q2
  obtain ⟨q0, q1, q2⟩ := FE.out w4 (HB2.out.trans (HB4.out.mono HB2.out.size))
  have hii : (i : Int) ≤ (c : Int) := by omega
  have hic : i ≤ c := by omega
  clear q0 q1 q2
  obtain ⟨q0, q1, q2⟩ := FE.out w4 (HB2.out.trans (HB4.out.mono HB2.out.size))
  go_wp2_with fail
  clear q0 q1 q2
  go_loopw [7, 28] (fun v i2 wr => ∃ (j : Nat), j ≤ i ∧ i2 = .int .i64 (j : Int) ∧ v = .int .i64 ((Si.size + (pre op n (txtF k) j).length : Nat) : Int) ∧ Below W2.heap.size W2 wr)
    (fun _ i2 _ => i - (intOf i2).toNat)
  case atStart => exact ⟨0, Nat.zero_le _, rfl, by simp [pre], HB4.out⟩
  case round =>
    clear HB4
    obtain ⟨wx, rfl⟩ : ∃ wx : World, wx = wr := ⟨_, rfl⟩
    obtain ⟨j, hj, rfl, rfl, hbx⟩ := hrel
    have HBX := Lib.hid hbx
    have hle := HLE.out j hj
    rw [← HSI.out] at hle
    clear hbx
    by_cases hlt : j < i
    · have hji : (j : Int) < (i : Int) := by omega
      obtain ⟨op', n', k', e1, e2, e3⟩ := Fo.drop_of_lt k j (by omega)
      have hbw : Below w.heap.size w wx := HB1.out.trans ((HB2.out.trans (HBX.out.mono HB2.out.size)).mono HB1.out.size)
      have hj' := (HL.out.below hbw).at_ j
      rw [Nat.zero_add, e1] at hj'
      obtain ⟨⟨b2, o2, A', c', hA, _, hb2, i1, i2, g1, g2, g3, h1, h2, h3⟩, _⟩ := hj'
      injection hA with hA
      injection hA with hA1 hA2
      subst hA1 hA2
      have HST := Lib.hid (txt_step (op := op) (n := n) j e1)
      have hkp := sp_kid HP.out e1
      obtain ⟨Sj, hSj, hms⟩ := HMK.out j (by omega)
      have hnext := HLE.out (j + 1) hlt
      rw [HST.out, List.length_append, List.length_append, ← HSI.out, ← hSj] at hnext
      obtain ⟨V1, hV1⟩ : ∃ V, V = wx.alloc (Obj.cells #[.int .i64 op', .int .i64 n', .slice A' k'.len c'] 33) := ⟨_, rfl⟩
      have hv1 : Below wx.heap.size wx V1 := by rw [hV1]; exact (Below.refl _ _).alloc (Nat.le_refl _) _
      have hx1 : Row V1 wx.heap.size 33 #[.int .i64 op', .int .i64 n', .slice A' k'.len c'] := by rw [hV1]; exact Row.fresh _ _ _
      have hkl := (h3.mono_ (Nat.le_refl 0) (hbw.size)).up hv1
      have HV0 := Lib.hid (show Below V1.heap.size V1 V1.drew from (Below.refl _ _).drew)
      have HB0 := Lib.hid (show Below W2.heap.size W2 V1.drew from (HBX.out.trans (hv1.mono HBX.out.size)).drew)
      have HG := Lib.hid (show ∀ U, Below V1.heap.size V1 U → U.cell? ⟨w.heap.size, 0, none⟩ = some (.int .i64 op) ∧ U.cell? ⟨w.heap.size, 1, none⟩ = some (.int .i64 n) ∧ U.cell? ⟨w.heap.size, 2, none⟩ = some (.slice (some ⟨b, o, none⟩) k.len c) ∧
          U.cell? ⟨wx.heap.size, 0, none⟩ = some (.int .i64 op') ∧ U.cell? ⟨wx.heap.size, 1, none⟩ = some (.int .i64 n') ∧ U.cell? ⟨wx.heap.size, 2, none⟩ = some (.slice A' k'.len c') from fun U hU => by
        obtain ⟨a1, a2, a3⟩ := FE.out U (HB2.out.trans ((HBX.out.trans (hv1.mono HBX.out.size)).mono HB2.out.size |>.trans (hU.mono (Nat.le_trans HB2.out.size (Nat.le_trans HBX.out.size hv1.size)))))
        have hx9 := hx1.below hU hx1.size
        exact ⟨a1, a2, a3, hx9.cell rfl, hx9.cell rfl, hx9.cell rfl⟩)
      obtain ⟨Sk, hSk, hfm⟩ : ∃ S : ByteArray, S.size = (txtN op' n' k').length ∧ ∀ U, Below V1.heap.size V1 U → Calls Try.prog 16 #[.agg #[.int .i64 op', .int .i64 n', .slice A' k'.len c']] U (Gives (.string S) U) := ⟨⟨(txtN op' n' k').toArray⟩, size_list _, fun U hU => by
        have h := implFmt_t op' n' k' A' c' U (hkl.up hU) (Nat.le_trans h1 h2)
        unfold fmtL at h
        rw [if_pos hkp] at h
        exact h⟩
      have HFM := Lib.hid hfm
      have HNX := Lib.hid (show Si.size + (pre op n (txtF k) j).length + (Sj.size + Sk.size) = Si.size + (pre op n (txtF k) (j + 1)).length by
        rw [HST.out, List.length_append, List.length_append, hSj, hSk]
        omega)
      rw [← hSk] at hnext
      clear hSj hSk
      generalize (pre op n (txtF k) j).length = m at HNX hle hnext ⊢
      have st0 := HG.out _ HV0.out
      clear hv1 hx1 hkl hbw hkp hfm e1 e2 e3 h1 h2 h3 HST
      go_upto_region 8 with fail
      rw [← hV1]
      clear hV1 g1 g2 g3
      refine wp_region_held_drew (S := fun w' => w'.cell? ⟨w.heap.size, 0, none⟩ = some (.int .i64 op) ∧ w'.cell? ⟨w.heap.size, 1, none⟩ = some (.int .i64 n) ∧ w'.cell? ⟨w.heap.size, 2, none⟩ = some (.slice (some ⟨b, o, none⟩) k.len c) ∧ w'.cell? ⟨wx.heap.size, 0, none⟩ = some (.int .i64 op') ∧ w'.cell? ⟨wx.heap.size, 1, none⟩ = some (.int .i64 n') ∧ w'.cell? ⟨wx.heap.size, 2, none⟩ = some (.slice A' k'.len c')) (by kernel_rfl) st0 (fun hHeld => ?_)
      refine takeW 0 (v := ?vx1_0) rfl (by kernel_rfl) (fun _ _ _ h => h) (by rfl) (by assumption) ?yx1_0 ?rx1_0
      case yx1_0 => (intro w' hSw; (try dsimp only at hSw); go_simp; try with_reducible rfl)
      try simp only [Act.put, List.setIfInBounds_toArray, List.set_cons_zero, List.set_cons_succ, List.getElem_toArray, List.getElem_cons_zero]
      refine takeW 1 (v := ?vx1_1) rfl (by kernel_rfl) (fun _ _ _ h => h) (by rfl) (by assumption) ?yx1_1 ?rx1_1
      case yx1_1 => (intro w' hSw; (try dsimp only at hSw); go_simp; try with_reducible rfl)
      try simp only [Act.put, List.setIfInBounds_toArray, List.set_cons_zero, List.set_cons_succ, List.getElem_toArray, List.getElem_cons_succ, List.getElem_cons_zero]
      refine takeW 2 (v := ?vx1_2) rfl (by kernel_rfl) (fun _ _ _ h => h) (by rfl) (by assumption) ?yx1_2 ?rx1_2
      case yx1_2 => (intro w' hSw; (try dsimp only at hSw); go_simp; try with_reducible rfl)
      try simp only [Act.put, List.setIfInBounds_toArray, List.set_cons_zero, List.set_cons_succ, List.getElem_toArray, List.getElem_cons_succ, List.getElem_cons_zero]
      refine takeW 3 (v := ?vx1_3) rfl (by kernel_rfl) (fun _ _ _ h => h) (by rfl) (by assumption) ?yx1_3 ?rx1_3
      case yx1_3 => (intro w' hSw; (try dsimp only at hSw); go_simp; try with_reducible rfl)
      try simp only [Act.put, List.setIfInBounds_toArray, List.set_cons_zero, List.set_cons_succ, List.getElem_toArray, List.getElem_cons_succ, List.getElem_cons_zero]
      refine takeW 6 (v := ?vx1_6) rfl (by kernel_rfl) (fun _ _ _ h => h) (by rfl) (by assumption) ?yx1_6 ?rx1_6
      case yx1_6 => (intro w' hSw; (try dsimp only at hSw); go_simp; try with_reducible rfl)
      try simp only [Act.put, List.setIfInBounds_toArray, List.set_cons_zero, List.set_cons_succ, List.getElem_toArray, List.getElem_cons_succ, List.getElem_cons_zero]
      refine wpAnyH_ready (rs := [4]) (by kernel_rfl) (by simp) ?_
      refine AllReadyH.cons rfl (fun K hK => ?_) AllReadyH.nil
      go_simp
      rw [HM.out]
      case a => kernel_rfl
      go_simp
      rw [HEN.out]
      go_simp
      refine (hms _ (KeepsR.of_below HB0.out) _ c).mono ?_
      rintro e v6 ⟨rfl, hb6⟩
      have HB6 := Lib.hid (HB0.out.trans (hb6.mono HB0.out.size))
      have HV6 := Lib.hid (HV0.out.trans (hb6.mono HV0.out.size))
      have st1 := HG.out _ HV6.out
      clear hb6
      refine hK.out _ _ (st1) (fun hHeldB1 => ?_)
      clear hK K
      try simp only [Act.put, List.setIfInBounds_toArray, List.set_cons_zero, List.set_cons_succ, List.getElem_toArray, List.getElem_cons_succ, List.getElem_cons_zero]
      refine takeW 5 (v := ?vx2_5) rfl (by kernel_rfl) (fun _ _ _ h => h) (by rfl) (by assumption) ?yx2_5 ?rx2_5
      case yx2_5 => (intro w' hSw; (try dsimp only at hSw); go_simp; try with_reducible rfl)
      try simp only [Act.put, List.setIfInBounds_toArray, List.set_cons_zero, List.set_cons_succ, List.getElem_toArray, List.getElem_cons_succ, List.getElem_cons_zero]
      refine wpAnyH_ready (rs := [7]) (by kernel_rfl) (by simp) ?_
      refine AllReadyH.cons rfl (fun K hK => ?_) AllReadyH.nil
      go_simp
      with_reducible refine (HFM.out _ HV6.out).mono ?_
      rintro e v8 ⟨rfl, hb8⟩
      have HB8 := Lib.hid (HB6.out.trans (hb8.mono HB6.out.size))
      have HV8 := Lib.hid (HV6.out.trans (hb8.mono HV6.out.size))
      have st2 := HG.out _ HV8.out
      clear hb8
      refine hK.out _ _ (st2) (fun hHeldB2 => ?_)
      clear hK K
      try simp only [Act.put, List.setIfInBounds_toArray, List.set_cons_zero, List.set_cons_succ, List.getElem_toArray, List.getElem_cons_succ, List.getElem_cons_zero]
      refine takeW 8 (v := ?vx3_8) rfl (by kernel_rfl) (fun _ _ _ h => h) (by rfl) (by assumption) ?yx3_8 ?rx3_8
      case yx3_8 => (intro w' hSw; (try dsimp only at hSw); go_simp; try with_reducible rfl)
      try simp only [Act.put, List.setIfInBounds_toArray, List.set_cons_zero, List.set_cons_succ, List.getElem_toArray, List.getElem_cons_succ, List.getElem_cons_zero]
      refine takeW 9 (v := ?vx3_9) rfl (by kernel_rfl) (fun _ _ _ h => h) (by rfl) (by assumption) ?yx3_9 ?rx3_9
      case yx3_9 => (intro w' hSw; (try dsimp only at hSw); go_simp; try with_reducible rfl)
      try simp only [Act.put, List.setIfInBounds_toArray, List.set_cons_zero, List.set_cons_succ, List.getElem_toArray, List.getElem_cons_succ, List.getElem_cons_zero]
      refine takeW 10 (v := ?vx3_10) rfl (by kernel_rfl) (fun _ _ _ h => h) (by rfl) (by assumption) ?yx3_10 ?rx3_10
      case yx3_10 => (intro w' hSw; (try dsimp only at hSw); go_simp; try with_reducible rfl)
      try simp only [Act.put, List.setIfInBounds_toArray, List.set_cons_zero, List.set_cons_succ, List.getElem_toArray, List.getElem_cons_succ, List.getElem_cons_zero]
      refine takeW 11 (v := ?vx3_11) rfl (by kernel_rfl) (fun _ _ _ h => h) (by rfl) (by assumption) ?yx3_11 ?rx3_11
      case yx3_11 => (intro w' hSw; (try dsimp only at hSw); go_simp; try with_reducible rfl)
      try simp only [Act.put, List.setIfInBounds_toArray, List.set_cons_zero, List.set_cons_succ, List.getElem_toArray, List.getElem_cons_succ, List.getElem_cons_zero]
      refine wpAnyH_done (by kernel_rfl) ?_ _
      clear st0 st1 st2
      go_wp2
      go_roundw
      case rel =>
        refine ⟨j + 1, hlt, by go_num, ?_, HB8.out⟩
        rw [← HNX.out, Go.IntWalk.i64_in ((Sj.size : Int) + (Sk.size : Int)) (by omega), Go.IntWalk.i64_in _ (by omega)]
        refine congrArg _ ?_
        omega
      case measure => simp [intOf]; omega
    · have hje : j = i := by omega
      have hji : ¬ (j : Int) < (i : Int) := by omega
      have HFIN := Lib.hid (show Si.size + (pre op n (txtF k) j).length = leadN op (txtF k) i by rw [HSI.out, hje]; exact HLD.out)
      have HBW := Lib.hid (show Below w.heap.size w wx from HB1.out.trans ((HB2.out.trans (HBX.out.mono HB2.out.size)).mono HB1.out.size))
      rw [HFIN.out]
      clear hje hle
      go_wp2_with fail
      go_ret
      exact ⟨rfl, HBW.out⟩

theorem partN_append : ∀ (a b : List Int) (p : Nd), partN p (a ++ b) = (partN p a).bind fun q => partN q b
  | [], b, p => rfl
  | i :: r, b, p => by
    rw [List.cons_append]
    by_cases h0 : 0 ≤ i
    · by_cases h1 : i.toNat < p.k.len
      · obtain ⟨o, m, k, e1, _, _⟩ := Fo.drop_of_lt p.k i.toNat h1
        rw [partN_in h0 e1, partN_in h0 e1]
        exact partN_append r b ⟨o, m, k⟩
      · rw [partN_out (by omega), partN_out (by omega)]; rfl
    · rw [partN_neg (by omega), partN_neg (by omega)]; rfl
theorem part_take {p x : Nd} {zs : List Int} (h : partN p zs = some x) (j : Nat) : ∃ q, partN p (zs.take j) = some q ∧ partN q (zs.drop j) = some x := by
  rw [← List.take_append_drop j zs, partN_append] at h
  cases hq : partN p (zs.take j) with
  | none => rw [hq] at h; cases h
  | some q => rw [hq] at h; exact ⟨q, rfl, h⟩
theorem part_next {p q x : Nd} {zs : List Int} {j : Nat} {i : Int} (hq : partN p (zs.take j) = some q) (hx : partN q (zs.drop j) = some x) (hi : zs[j]? = some i) : ∃ (u : Nat) (o m : Int) (k1 : Fo), i = (u : Int) ∧ u < q.k.len ∧ q.k.drop u = .cons o m k1 (q.k.drop (u + 1)) ∧ partN p (zs.take (j + 1)) = some ⟨o, m, k1⟩ ∧
    spanN p (zs.take (j + 1)) = spanN p (zs.take j) + leadN q.op (txtF q.k) u := by
  rw [drop_cons hi] at hx
  by_cases h0 : 0 ≤ i
  · by_cases h1 : i.toNat < q.k.len
    · obtain ⟨o, m, k1, e1, _, _⟩ := Fo.drop_of_lt q.k i.toNat h1
      have hn : partN p (zs.take (j + 1)) = some ⟨o, m, k1⟩ := by
        rw [List.take_add_one, hi, partN_append, hq]
        show partN q [i] = _
        rw [partN_in h0 e1]
        rfl
      refine ⟨i.toNat, o, m, k1, by omega, h1, e1, hn, ?_⟩
      have hn2 := hn
      rw [List.take_add_one, hi] at hn2 ⊢
      obtain ⟨y, h3, h4, h5⟩ := part_snoc (zs.take j) p ⟨o, m, k1⟩ i hn2
      rw [hq] at h3
      injection h3 with h3
      subst h3
      show spanN p (zs.take j ++ [i]) = _
      rw [h5]
      congr 1
      rw [spanN_in e1]
      rfl
    · rw [partN_out (by omega)] at hx; cases hx
  · rw [partN_neg (by omega)] at hx; cases hx

set_option maxHeartbeats 4000000 in
theorem implSpan_r (op n : Int) (k : Fo) (A : Option Addr) (c : Nat) (zs : List Int) (A2 : Option Addr) (c2 : Nat) (w : World) (hl : Lies w 0 w.heap.size A 0 k) (hk1 : k.len ≤ c) (hk2 : c ≤ maxLen) (hz : LiesI w 0 w.heap.size A2 zs) (hzl : zs.length ≤ 1048576) (hi : I64 op ∧ I64 n) :
    Calls Try.prog 10 #[.agg #[.int .i64 op, .int .i64 n, .slice A k.len c], .slice A2 zs.length c2] w (SpanPost (spanA ⟨op, n, k⟩ zs) (spanZ ⟨op, n, k⟩ zs) (spanOk ⟨op, n, k⟩ zs) w) := by
  obtain ⟨hb, hr, hs⟩ := two_boxes w 33 28 #[Value.int IntKind.i64 op, Value.int IntKind.i64 n, Value.slice A k.len c] #[Value.int IntKind.i64 0, Value.int IntKind.i64 0]
  obtain ⟨W, hW⟩ : ∃ W, W = (w.alloc (Obj.cells #[Value.int IntKind.i64 op, Value.int IntKind.i64 n, Value.slice A k.len c] 33)).alloc (Obj.cells #[Value.int IntKind.i64 0, Value.int IntKind.i64 0] 28) := ⟨_, rfl⟩
  rw [← hW] at hb hr hs
  have hn : NodeIn W 0 w.heap.size ⟨w.heap.size, 0, none⟩ ⟨op, n, k⟩ := ⟨rfl, hi, A, c, hr.cell (i := 0) rfl, hr.cell (i := 1) rfl, hr.cell (i := 2) rfl, hk1, hk2, hl.below hb⟩
  have HP := Lib.hid (partOf_any ⟨w.heap.size, 0, none⟩ ⟨op, n, k⟩ zs A2 c2 0 w.heap.size W hn (hz.up hb) hzl)
  have FE := Lib.hid (show ∀ U, Below W.heap.size W U → U.cell? ⟨w.heap.size, 0, none⟩ = some (.int .i64 op) ∧ U.cell? ⟨w.heap.size, 1, none⟩ = some (.int .i64 n) ∧ U.cell? ⟨w.heap.size, 2, none⟩ = some (.slice A k.len c) from fun U hU => by
    have h1 := hr.below hU hr.size
    exact ⟨h1.cell rfl, h1.cell rfl, h1.cell rfl⟩)
  have FS := Lib.hid (show ∀ U, Below W.heap.size W U → Row U (w.heap.size + 1) 28 #[Value.int IntKind.i64 0, Value.int IntKind.i64 0] ∧ Below w.heap.size w U from fun U hU => ⟨hs.below hU hs.size, hb.trans (hU.mono hb.size)⟩)
  have HR := Lib.hid hr
  have HL := Lib.hid hl
  have HZ := Lib.hid hz
  have hkm : k.len ≤ maxLen := Nat.le_trans hk1 hk2
  unfold maxLen at hk2
  clear hl hz hb hr hs hn hi
  go_enter Try.func10, Try.ntmps10
  go_upto_region 1 with fail
  rw [← hW]
  clear hW
  go_wp2_with fail
  refine HP.out.mono ?_
  rintro e w1 ⟨rfl, hpp⟩
  cases hx : partN ⟨op, n, k⟩ zs with
  | none =>
    have h0 := spanOk_none hx
    obtain ⟨hsr, hbw⟩ := FS.out W (Below.refl _ _)
    have s0 := hsr.cell (i := 0) rfl
    have s1 := hsr.cell (i := 1) rfl
    have f0 := hsr.free 0
    have f1 := hsr.free 1
    have hend := span_put hsr (.int .i64 0) (.int .i64 0)
    have r0 := hend.cell (i := 0) rfl
    have r1 := hend.cell (i := 1) rfl
    have HPOST := Lib.hid (show SpanPost (spanA ⟨op, n, k⟩ zs) (spanZ ⟨op, n, k⟩ zs) (spanOk ⟨op, n, k⟩ zs) w (.returned (.tuple #[.agg #[.int .i64 0, .int .i64 0], .bool false])) ((W.setCell ⟨w.heap.size + 1, 0, none⟩ (.int .i64 0)).setCell ⟨w.heap.size + 1, 1, none⟩ (.int .i64 0)) from ⟨by rw [h0, spanA_no h0, spanZ_no h0]; rfl, (hbw.setCell (p := ⟨w.heap.size + 1, 0, none⟩) (by simp) (.int .i64 0)).setCell (p := ⟨w.heap.size + 1, 1, none⟩) (by simp) (.int .i64 0)⟩)
    rcases hpp with ⟨b, q, -, h2, -⟩ | ⟨rfl, -⟩
    · rw [hx] at h2; cases h2
    clear h0 hx hsr hbw hend
    go_wp2_with fail
    refine bodyPost_ret (v := .tuple #[.agg #[.int .i64 0, .int .i64 0], .bool false]) ?_ rfl HPOST.out
    simp [results, Try.f10, go_sem, r0, r1]
  | some x =>
    have HX := Lib.hid hx
    have HSO := Lib.hid (spanOk_some hx)
    rcases hpp with ⟨pb, q, rfl, -, -, -⟩ | ⟨-, h2⟩
    rotate_left
    · rw [hx] at h2; cases h2
    obtain ⟨q0, q1, q2⟩ := FE.out W (Below.refl _ _)
    have HV := Lib.hid (validOpen_any op n k A c W (HL.out.up (FS.out W (Below.refl _ _)).2) hkm)
    clear hx HP
    go_wp2_with fail
    refine HV.out.mono ?_
    rintro e w2 ⟨rfl, hb2⟩
    have HB2 := Lib.hid hb2
    clear hb2 HV q0 q1 q2
    cases hv : nodeIs op n k (firstS 8) with
    | false =>
      have h0 : spanOk ⟨op, n, k⟩ zs = false := HSO.out.trans hv
      obtain ⟨hsr, hbw⟩ := FS.out w2 HB2.out
      have s0 := hsr.cell (i := 0) rfl
      have s1 := hsr.cell (i := 1) rfl
      have f0 := hsr.free 0
      have f1 := hsr.free 1
      have hend := span_put hsr (.int .i64 0) (.int .i64 0)
      have r0 := hend.cell (i := 0) rfl
      have r1 := hend.cell (i := 1) rfl
      have HPOST := Lib.hid (show SpanPost (spanA ⟨op, n, k⟩ zs) (spanZ ⟨op, n, k⟩ zs) (spanOk ⟨op, n, k⟩ zs) w (.returned (.tuple #[.agg #[.int .i64 0, .int .i64 0], .bool false])) ((w2.setCell ⟨w.heap.size + 1, 0, none⟩ (.int .i64 0)).setCell ⟨w.heap.size + 1, 1, none⟩ (.int .i64 0)) from ⟨by rw [h0, spanA_no h0, spanZ_no h0]; rfl, (hbw.setCell (p := ⟨w.heap.size + 1, 0, none⟩) (by simp) (.int .i64 0)).setCell (p := ⟨w.heap.size + 1, 1, none⟩) (by simp) (.int .i64 0)⟩)
      clear h0 hv hsr hbw hend
      go_wp2_with fail
      refine bodyPost_ret (v := .tuple #[.agg #[.int .i64 0, .int .i64 0], .bool false]) ?_ rfl HPOST.out
      simp [results, Try.f10, go_sem, r0, r1]
    | true =>
      have h1 : spanOk ⟨op, n, k⟩ zs = true := HSO.out.trans hv
      have HA9 := Lib.hid (spanA_yes h1)
      have HZ9 := Lib.hid (spanZ_yes h1 HX.out)
      have HH1 := Lib.hid h1
      have HV8 := Lib.hid (show nodeIs (⟨op, n, k⟩ : Nd).op (⟨op, n, k⟩ : Nd).n (⟨op, n, k⟩ : Nd).k (firstS 8) = true from hv)
      have HR2 := Lib.hid (HR.out.below HB2.out HR.out.size)
      have HS2 := Lib.hid (FS.out w2 HB2.out)
      clear h1 hv HR FE FS HSO
      go_wp2_with fail
      go_loopw [8, 26] (fun v i wr => ∃ (j : Nat) (q : Nd) (Aq : Option Addr) (cq : Nat), j ≤ zs.length ∧ i = .int .i64 (j : Int) ∧ v = .int .i64 (spanN ⟨op, n, k⟩ (zs.take j) : Int) ∧ partN ⟨op, n, k⟩ (zs.take j) = some q ∧
          Row wr w.heap.size 33 #[.int .i64 q.op, .int .i64 q.n, .slice Aq q.k.len cq] ∧ q.k.len ≤ cq ∧ cq ≤ maxLen ∧ Lies w 0 w.heap.size Aq 0 q.k ∧ Row wr (w.heap.size + 1) 28 #[Value.int IntKind.i64 0, Value.int IntKind.i64 0] ∧ Below w.heap.size w wr)
        (fun _ i _ => zs.length - (intOf i).toNat)
      case atStart => exact ⟨0, ⟨op, n, k⟩, A, c, Nat.zero_le _, rfl, rfl, rfl, HR2.out, hk1, by unfold maxLen; exact hk2, HL.out, HS2.out.1, HS2.out.2⟩
      case round =>
        clear HR2 HS2 HL
        obtain ⟨wx, rfl⟩ : ∃ wx : World, wx = wr := ⟨_, rfl⟩
        obtain ⟨j, q, Aq, cq, hj, rfl, rfl, hq, hrq, hc1, hc2, hlq, hsr, hbw⟩ := hrel
        have HQ := Lib.hid hq
        have HRQ := Lib.hid hrq
        have HLQ := Lib.hid hlq
        have HSR := Lib.hid hsr
        have HBW := Lib.hid hbw
        have hcm := hc2
        unfold maxLen at hc2
        have HQ8 := Lib.hid (part_is8 (zs.take j) ⟨op, n, k⟩ q HV8.out hq)
        have hsl := span_le HV8.out hq
        clear hq hrq hlq hsr hbw
        by_cases hlt : j < zs.length
        · have hji : (j : Int) < (zs.length : Int) := by omega
          have e1 := List.getElem?_eq_getElem hlt
          generalize zs[j] = i0 at e1
          obtain ⟨q2, hq2, hq3⟩ := part_take HX.out j
          rw [HQ.out] at hq2
          injection hq2 with hq2
          subst hq2
          obtain ⟨u, o, m, k1, rfl, hu, ek, hpn, hsn⟩ := part_next HQ.out hq3 e1
          obtain ⟨bz, oz, hAz, _, hbbz, hiz, gz⟩ := (HZ.out.below HBW.out) j _ e1
          subst hAz
          have hj' := (HLQ.out.below HBW.out).at_ u
          rw [Nat.zero_add, ek] at hj'
          obtain ⟨⟨b, ob, A', c', hA, _, hbk, i1, i2, g1, g2, g3, h1, h2, h3⟩, _⟩ := hj'
          subst hA
          have HO := Lib.hid (offset_any q.op q.n q.k _ cq u wx (HLQ.out.up HBW.out) HQ8.out hu hc1 hcm)
          have h3w : Lies w 0 w.heap.size A' 0 k1 := h3.keep (Nat.le_refl _) (Nat.le_refl _) fun p _ hp => (HBW.out.cell hp).symm
          have hsl2 := span_le HV8.out hpn
          have HPN := Lib.hid hpn
          have HSN := Lib.hid hsn
          rw [hsn] at hsl2
          obtain ⟨q0, q1, q2⟩ : wx.cell? ⟨w.heap.size, 0, none⟩ = some (.int .i64 q.op) ∧ wx.cell? ⟨w.heap.size, 1, none⟩ = some (.int .i64 q.n) ∧ wx.cell? ⟨w.heap.size, 2, none⟩ = some (.slice (some ⟨b, ob, none⟩) q.k.len cq) := ⟨HRQ.out.cell (i := 0) rfl, HRQ.out.cell (i := 1) rfl, HRQ.out.cell (i := 2) rfl⟩
          have hui : (u : Int) < (q.k.len : Int) := by omega
          have G1 := Lib.hid g1
          have G2 := Lib.hid g2
          have G3 := Lib.hid g3
          have HBK := Lib.hid (show b < wx.heap.size from Nat.lt_of_lt_of_le hbk HBW.out.size)
          have HBN := Lib.hid hbk
          generalize spanN ⟨op, n, k⟩ (zs.take j) = a at HSN hsl hsl2 ⊢
          generalize leadN q.op (txtF q.k) u = le at HO HSN hsl2
          clear e1 hq3 ek hpn hsn h3 g1 g2 g3
          go_wp2_with fail
          refine HO.out.mono ?_
          rintro e w5 ⟨rfl, hb5⟩
          have hr5 := HRQ.out.below hb5 HRQ.out.size
          clear q0 q1 q2
          obtain ⟨q0, q1, q2⟩ : w5.cell? ⟨w.heap.size, 0, none⟩ = some (.int .i64 q.op) ∧ w5.cell? ⟨w.heap.size, 1, none⟩ = some (.int .i64 q.n) ∧ w5.cell? ⟨w.heap.size, 2, none⟩ = some (.slice (some ⟨b, ob, none⟩) q.k.len cq) := ⟨hr5.cell (i := 0) rfl, hr5.cell (i := 1) rfl, hr5.cell (i := 2) rfl⟩
          have f0 := hr5.free 0
          have f1 := hr5.free 1
          have f2 := hr5.free 2
          have g1 := (hb5.cell (p := ⟨b, ob + u * 3, none⟩) HBK.out).trans G1.out
          have g2 := (hb5.cell (p := ⟨b, ob + u * 3 + 1, none⟩) HBK.out).trans G2.out
          have g3 := (hb5.cell (p := ⟨b, ob + u * 3 + 2, none⟩) HBK.out).trans G3.out
          have HRN := Lib.hid (show Row (((w5.setCell ⟨w.heap.size, 0, none⟩ (.int .i64 o)).setCell ⟨w.heap.size, 1, none⟩ (.int .i64 m)).setCell ⟨w.heap.size, 2, none⟩ (.slice A' k1.len c')) w.heap.size 33 #[.int .i64 o, .int .i64 m, .slice A' k1.len c'] from ((hr5.put 0 _).put 1 _).put 2 _)
          have HSN5 := Lib.hid ((((HSR.out.below hb5 HSR.out.size).apart (p := ⟨w.heap.size, 0, none⟩) (by simp) (.int .i64 o)).apart (p := ⟨w.heap.size, 1, none⟩) (by simp) (.int .i64 m)).apart (p := ⟨w.heap.size, 2, none⟩) (by simp) (.slice A' k1.len c'))
          have HBN5 := Lib.hid ((((HBW.out.trans (hb5.mono HBW.out.size)).setCell (p := ⟨w.heap.size, 0, none⟩) (Nat.le_refl _) (.int .i64 o)).setCell (p := ⟨w.heap.size, 1, none⟩) (Nat.le_refl _) (.int .i64 m)).setCell (p := ⟨w.heap.size, 2, none⟩) (Nat.le_refl _) (.slice A' k1.len c'))
          have hbne : ¬ b = w.heap.size := by have := HBN.out; omega
          clear hb5 hr5 HO
          go_wp2_with fail
          go_roundw
          case rel => exact ⟨j + 1, ⟨o, m, k1⟩, A', c', hlt, by go_num, by rw [HSN.out]; go_num, HPN.out, HRN.out, h1, h2, h3w, HSN5.out, HBN5.out⟩
          case measure => simp [intOf]; omega
        · have hje : zs.take j = zs := List.take_of_length_le (by omega)
          have hji : ¬ (j : Int) < (zs.length : Int) := by omega
          have hqx : q = x := by
            have h5 := HQ.out
            rw [hje, HX.out] at h5
            injection h5 with h5
            exact h5.symm
          subst hqx
          rw [hje] at hsl ⊢
          obtain ⟨S, hS, hfm⟩ : ∃ S : ByteArray, S.size = (txtN q.op q.n q.k).length ∧ Calls Try.prog 16 #[.agg #[.int .i64 q.op, .int .i64 q.n, .slice Aq q.k.len cq]] wx (Gives (.string S) wx) := ⟨⟨(txtN q.op q.n q.k).toArray⟩, size_list _, by
            have h := implFmt_t q.op q.n q.k Aq cq wx (HLQ.out.up HBW.out) (Nat.le_trans hc1 hcm)
            unfold fmtL at h
            rw [if_pos HQ8.out] at h
            exact h⟩
          have HFM := Lib.hid hfm
          rw [← hS] at hsl
          have HSS := Lib.hid hS
          obtain ⟨q0, q1, q2⟩ : wx.cell? ⟨w.heap.size, 0, none⟩ = some (.int .i64 q.op) ∧ wx.cell? ⟨w.heap.size, 1, none⟩ = some (.int .i64 q.n) ∧ wx.cell? ⟨w.heap.size, 2, none⟩ = some (.slice Aq q.k.len cq) := ⟨HRQ.out.cell (i := 0) rfl, HRQ.out.cell (i := 1) rfl, HRQ.out.cell (i := 2) rfl⟩
          generalize spanN ⟨op, n, k⟩ zs = a at HA9 HZ9 hsl ⊢
          clear hS hfm hje
          go_wp2_with fail
          refine HFM.out.mono ?_
          rintro e w5 ⟨rfl, hb5⟩
          have hsr := HSR.out.below hb5 HSR.out.size
          have hbw := HBW.out.trans (hb5.mono HBW.out.size)
          have s0 := hsr.cell (i := 0) rfl
          have s1 := hsr.cell (i := 1) rfl
          have f0 := hsr.free 0
          have f1 := hsr.free 1
          have hend := span_put hsr (.int .i64 (a : Int)) (.int .i64 ((a : Int) + (S.size : Int)))
          have r0 := hend.cell (i := 0) rfl
          have r1 := hend.cell (i := 1) rfl
          have HPOST := Lib.hid (show SpanPost (spanA ⟨op, n, k⟩ zs) (spanZ ⟨op, n, k⟩ zs) (spanOk ⟨op, n, k⟩ zs) w (.returned (.tuple #[.agg #[.int .i64 (a : Int), .int .i64 ((a : Int) + (S.size : Int))], .bool true])) ((w5.setCell ⟨w.heap.size + 1, 0, none⟩ (.int .i64 (a : Int))).setCell ⟨w.heap.size + 1, 1, none⟩ (.int .i64 ((a : Int) + (S.size : Int)))) from ⟨by rw [HH1.out, HA9.out, HZ9.out, HSS.out]; simp, (hbw.setCell (p := ⟨w.heap.size + 1, 0, none⟩) (by simp) _).setCell (p := ⟨w.heap.size + 1, 1, none⟩) (by simp) _⟩)
          clear q0 q1 q2 hb5 hsr hbw hend HFM
          go_wp2_with fail
          refine bodyPost_ret (v := .tuple #[.agg #[.int .i64 (a : Int), .int .i64 ((a : Int) + (S.size : Int))], .bool true]) ?_ rfl HPOST.out
          simp [results, Try.f10, go_sem, r0, r1]
end Go.Proofs.Ytiefobkddckkbaa
