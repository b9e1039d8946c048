/-
  The walk of the law FnBodyFits: true at every input.
-/
import Derived.Test.YtfijdlbcpmnbhaaDrawLV
import Derived.Test.YtfijdlbcpmnbhaaLibVI
import Derived.Test.YtfijdlbcpmnbhaaValD
import Derived.Deep.RegionHeld3
import Derived.Deep.CutRange
import Derived.Deep.RegionWith
import Derived.Test.YtfijdlbcpmnbhaaTake
namespace Go.Proofs.Ytfijdlbcpmnbhaa
open Go.RowKit Go.Shelf
set_option maxRecDepth 100000

theorem body_fits {ds : List De} (h : libOk ds = true) {d : De} (hd : d ∈ ds) : callsFitB ds d.op d.n d.k = true ∧ validOf d.op d.n d.k (upto d.ar.toNat) = true ∧ d.ar = (d.ar.toNat : Int) ∧ d.ar.toNat ≤ 3 := by
  unfold libOk at h
  rw [Bool.and_eq_true] at h
  have ha := okL_ar ds none h.2 d hd
  obtain ⟨_, hb, _⟩ := okL_named ds none h.2 d hd
  unfold arOk at ha
  rw [Bool.and_eq_true] at ha
  have ha1 := of_decide_eq_true ha.1
  have ha2 := of_decide_eq_true ha.2
  unfold bodyOk at hb
  rw [Bool.and_eq_true] at hb
  refine ⟨?_, ?_, by omega, by omega⟩
  · unfold callsFitB
    rw [hb.2, Bool.and_true]
    exact nodeIs_up (fun v hv _ => decide_eq_true hv) hb.1
  · rw [validOf_upto _ _ _ _ (by omega)]
    exact hb.1
theorem upto_at {r i : Nat} {x : Int} (h : r ≤ 3) (hx : (upto r)[i]? = some x) : ([0, 1, 2] : List Int)[i]? = some x := by
  have hr : r = 0 ∨ r = 1 ∨ r = 2 ∨ r = 3 := by omega
  have hi := (List.getElem?_eq_some_iff.1 hx).1
  rw [upto_len] at hi
  have hi3 : i = 0 ∨ i = 1 ∨ i = 2 := by omega
  rcases hr with rfl | rfl | rfl | rfl <;> rcases hi3 with rfl | rfl | rfl <;> first | omega | exact hx
theorem liesU (w : World) {r : Nat} (h : r ≤ 3) : LiesI (w.alloc (Obj.cells #[.int .i64 0, .int .i64 1, .int .i64 2] 3)).drew 0 (w.alloc (Obj.cells #[.int .i64 0, .int .i64 1, .int .i64 2] 3)).drew.heap.size (some ⟨w.heap.size, 0, none⟩) (upto r) := by
  intro i x hx
  exact lies_new w 0 [0, 1, 2] (by intro x hx; simp at hx; unfold I64; omega) (Nat.zero_le _) i x (upto_at h hx)

set_option maxHeartbeats 4000000 in
theorem law_NBodyFits (bs : List Nat) (A : Option Addr) (c : Nat) (w : World) (hl : LiesY w 0 w.heap.size A bs) (hlc : bs.length ≤ c) (hc : c ≤ maxLen) :
    Calls Try.prog 7 #[.slice A bs.length c] w (Gives (.bool true) w) := by
  have HC := Lib.hid (drawLV_any A c bs w hl hlc hc)
  unfold maxLen at hc
  by_cases hsz : bs.length ≤ 1048576
  rotate_left
  · have hgt : 1048576 < bs.length := by omega
    go_enter Try.func7, Try.ntmps7
    go_wp2_with fail
    go_ret
    exact ⟨rfl, Below.refl _ _⟩
  clear hl
  go_enter Try.func7, Try.ntmps7
  go_wp2_with fail
  refine HC.out.mono ?_
  rintro e w1 ⟨ds, X, cx, rfl, ⟨h1, h2, h3, h4, h5⟩, hb1⟩
  have HL := Lib.hid (h1.mono_ (Nat.zero_le _) (Nat.le_refl _))
  have HB := Lib.hid hb1
  clear h1 hb1 HC
  go_wp2_with fail
  refine (implLibValid_r ds X cx 0 w1.heap.size w1 HL.out (Nat.le_refl _) (by omega)).mono ?_
  rintro e w2 ⟨rfl, hb2⟩
  have HL2 := Lib.hid (HL.out.up hb2)
  have HB2 := Lib.hid (HB.out.trans (hb2.mono HB.out.size))
  obtain ⟨b0, hb0⟩ : ∃ b0, b0 = libOk ds := ⟨_, rfl⟩
  rw [← hb0]
  have HV := Lib.hid hb0
  have hne : (b0 != b0) = false := by simp
  clear hb2 HL HB hb0
  go_wp2_with fail
  refine (specLibValid_any ds X cx w2 HL2.out (by omega)).mono ?_
  rintro e w3 ⟨rfl, hb3⟩
  rw [← HV.out]
  have HL3 := Lib.hid (HL2.out.up hb3)
  have HB3 := Lib.hid (HB2.out.trans (hb3.mono HB2.out.size))
  clear hb3 HL2 HB2
  cases b0 with
  | false =>
    go_wp2_with fail
    refine (specLibValid_any ds X cx w3 HL3.out (by omega)).mono ?_
    rintro e w4 ⟨rfl, hb4⟩
    rw [← HV.out]
    have HB4 := Lib.hid (HB3.out.trans (hb4.mono HB3.out.size))
    clear hb4 HL3 HB3
    go_wp2_with fail
    go_ret
    exact ⟨rfl, HB4.out⟩
  | true =>
  go_wp2_with fail
  go_loopw [5] (fun i wr => ∃ (j : Nat), j ≤ ds.length ∧ i = .int .i64 j ∧ Below w3.heap.size w3 wr)
    (fun i _ => ds.length - (intOf i).toNat)
  case atStart => exact ⟨0, by omega, rfl, Below.refl _ _⟩
  case round =>
    obtain ⟨j, hj, rfl, hbr⟩ := hrel
    by_cases hlt : j < ds.length
    · obtain ⟨d, hd⟩ : ∃ d, ds[j]? = some d := ⟨_, List.getElem?_eq_getElem hlt⟩
      obtain ⟨hcf, hvo, har, hr3⟩ := body_fits HV.out.symm (List.mem_of_getElem? hd)
      obtain ⟨r, hr⟩ : ∃ r, r = d.ar.toNat := ⟨_, rfl⟩
      rw [← hr] at hvo har hr3
      have HCF := Lib.hid hcf
      have HVO := Lib.hid hvo
      have HLN := Lib.hid (upto_len r)
      have hsd := sizeD_at hd
      have hLR := HL3.out.up hbr
      obtain ⟨b, o, A', c', rfl, hbb, hbw, hf, g0, g1, g2, g3, g4, g5, h7, h8, h9⟩ := hLR j d hd
      have hji : (j : Int) < (ds.length : Int) := by omega
      have HS := Lib.hid (show ∀ w' : World, Below wr.heap.size wr w' → w'.cell? ⟨b, o + j * 6 + 1, none⟩ = some (Value.int .i64 d.ar) ∧ w'.cell? ⟨b, o + j * 6 + 3, none⟩ = some (Value.int .i64 d.op) ∧ w'.cell? ⟨b, o + j * 6 + 4, none⟩ = some (Value.int .i64 d.n) ∧ w'.cell? ⟨b, o + j * 6 + 5, none⟩ = some (Value.slice A' d.k.len c') from
        fun w' hb => ⟨(hb.cell (p := ⟨b, o + j * 6 + 1, none⟩) hbw).trans g1, (hb.cell (p := ⟨b, o + j * 6 + 3, none⟩) hbw).trans g3, (hb.cell (p := ⟨b, o + j * 6 + 4, none⟩) hbw).trans g4, (hb.cell (p := ⟨b, o + j * 6 + 5, none⟩) hbw).trans g5⟩)
      have s0 := HS.out wr.drew (Below.refl _ _).drew
      have HBD := Lib.hid (Below.refl wr.heap.size wr).drew
      have HLR := Lib.hid (hLR.up HBD.out)
      have HLK := Lib.hid h9
      have HBR := Lib.hid hbr
      have har0 : 0 ≤ d.ar := by omega
      have hri3 : (r : Int) ≤ 3 := by omega
      have hri0 : (0 : Int) ≤ (r : Int) := by omega
      have har3 : d.ar ≤ 3 := by omega
      clear hd hcf hvo hr hLR g0 g1 g2 g3 g4 g5 h9 HL3 hf
      go_upto_region 10 with fail
      refine wp_region_held_drew (S := fun w' => w'.cell? ⟨b, o + j * 6 + 1, none⟩ = some (Value.int .i64 d.ar) ∧ w'.cell? ⟨b, o + j * 6 + 3, none⟩ = some (Value.int .i64 d.op) ∧ w'.cell? ⟨b, o + j * 6 + 4, none⟩ = some (Value.int .i64 d.n) ∧ w'.cell? ⟨b, o + j * 6 + 5, none⟩ = some (Value.slice A' d.k.len c')) (by kernel_rfl) s0 (fun hHeld => ?_)
      refine takeW 0 (v := ?vx1_0) rfl (by kernel_rfl) (fun _ _ _ h => h) (by rfl) (by assumption) ?yx1_0 ?rx1_0
      case yx1_0 => (intro w' hSw; (try dsimp only at hSw); go_simp; try with_reducible rfl)
      try simp only [Act.put, List.setIfInBounds_toArray, List.set_cons_zero, List.set_cons_succ, List.getElem_toArray, List.getElem_cons_zero]
      refine takeW 1 (v := ?vx1_1) rfl (by kernel_rfl) (fun _ _ _ h => h) (by rfl) (by assumption) ?yx1_1 ?rx1_1
      case yx1_1 => (intro w' hSw; (try dsimp only at hSw); go_simp; try with_reducible rfl)
      try simp only [Act.put, List.setIfInBounds_toArray, List.set_cons_zero, List.set_cons_succ, List.getElem_toArray, List.getElem_cons_succ, List.getElem_cons_zero]
      refine takeW 2 (v := ?vx1_2) rfl (by kernel_rfl) (fun _ _ _ h => h) (by rfl) (by assumption) ?yx1_2 ?rx1_2
      case yx1_2 => (intro w' hSw; (try dsimp only at hSw); go_simp; try with_reducible rfl)
      try simp only [Act.put, List.setIfInBounds_toArray, List.set_cons_zero, List.set_cons_succ, List.getElem_toArray, List.getElem_cons_succ, List.getElem_cons_zero]
      refine takeW 3 (v := ?vx1_3) rfl (by kernel_rfl) (fun _ _ _ h => h) (by rfl) (by assumption) ?yx1_3 ?rx1_3
      case yx1_3 => (intro w' hSw; (try dsimp only at hSw); go_simp; try with_reducible rfl)
      try simp only [Act.put, List.setIfInBounds_toArray, List.set_cons_zero, List.set_cons_succ, List.getElem_toArray, List.getElem_cons_succ, List.getElem_cons_zero]
      refine takeW 4 (v := ?vx1_4) rfl (by kernel_rfl) (fun _ _ _ h => h) (by rfl) (by assumption) ?yx1_4 ?rx1_4
      case yx1_4 => (intro w' hSw; (try dsimp only at hSw); go_simp; try with_reducible rfl)
      try simp only [Act.put, List.setIfInBounds_toArray, List.set_cons_zero, List.set_cons_succ, List.getElem_toArray, List.getElem_cons_succ, List.getElem_cons_zero]
      refine takeW 5 (v := ?vx1_5) rfl (by kernel_rfl) (fun _ _ _ h => h) (by rfl) (by assumption) ?yx1_5 ?rx1_5
      case yx1_5 => (intro w' hSw; (try dsimp only at hSw); go_simp; try with_reducible rfl)
      try simp only [Act.put, List.setIfInBounds_toArray, List.set_cons_zero, List.set_cons_succ, List.getElem_toArray, List.getElem_cons_succ, List.getElem_cons_zero]
      refine wpAnyH_ready (rs := [6]) (by kernel_rfl) (by simp) ?_
      refine AllReadyH.cons rfl (fun K hK => ?_) AllReadyH.nil
      go_simp
      refine (implCallsFit_r ds (some ⟨b, o, none⟩) cx d.op d.n d.k A' c' 0 wr.drew.heap.size wr.drew HLR.out (HLK.out.up HBD.out) (Nat.le_refl _) (by omega) h7 h8 (by omega)).mono ?_
      rintro e w5 ⟨rfl, hb5⟩
      rw [HCF.out]
      have HB5 := Lib.hid (show Below wr.heap.size wr w5 from HBD.out.trans (hb5.mono HBD.out.size))
      have st := HS.out _ HB5.out
      refine hK.out _ _ (st) (fun hHeldB1 => ?_)
      clear hK K
      try simp only [Act.put, List.setIfInBounds_toArray, List.set_cons_zero, List.set_cons_succ, List.getElem_toArray, List.getElem_cons_succ, List.getElem_cons_zero]
      refine takeW 7 (v := ?vx2_7) rfl (by kernel_rfl) (fun _ _ _ h => h) (by rfl) (by assumption) ?yx2_7 ?rx2_7
      case yx2_7 => (intro w' hSw; (try dsimp only at hSw); go_simp; try with_reducible rfl)
      try simp only [Act.put, List.setIfInBounds_toArray, List.set_cons_zero, List.set_cons_succ, List.getElem_toArray, List.getElem_cons_succ, List.getElem_cons_zero]
      refine takeW 8 (v := ?vx2_8) rfl (by kernel_rfl) (fun _ _ _ h => h) (by rfl) (by assumption) ?yx2_8 ?rx2_8
      case yx2_8 => (intro w' hSw; (try dsimp only at hSw); go_simp; try with_reducible rfl)
      try simp only [Act.put, List.setIfInBounds_toArray, List.set_cons_zero, List.set_cons_succ, List.getElem_toArray, List.getElem_cons_succ, List.getElem_cons_zero]
      refine takeW 9 (v := ?vx2_9) rfl (by kernel_rfl) (fun _ _ _ h => h) (by rfl) (by assumption) ?yx2_9 ?rx2_9
      case yx2_9 => (intro w' hSw; (try dsimp only at hSw); go_simp; try with_reducible rfl)
      try simp only [Act.put, List.setIfInBounds_toArray, List.set_cons_zero, List.set_cons_succ, List.getElem_toArray, List.getElem_cons_succ, List.getElem_cons_zero]
      refine takeW 10 (v := ?vx2_10) rfl (by kernel_rfl) (fun _ _ _ h => h) (by rfl) (by assumption) ?yx2_10 ?rx2_10
      case yx2_10 => (intro w' hSw; (try dsimp only at hSw); go_simp; try with_reducible rfl)
      try simp only [Act.put, List.setIfInBounds_toArray, List.set_cons_zero, List.set_cons_succ, List.getElem_toArray, List.getElem_cons_succ, List.getElem_cons_zero]
      refine takeW 11 (v := ?vx2_11) rfl (by kernel_rfl) (fun _ _ _ h => h) (by rfl) (by assumption) ?yx2_11 ?rx2_11
      case yx2_11 => (intro w' hSw; (try dsimp only at hSw); go_simp; try with_reducible rfl)
      try simp only [Act.put, List.setIfInBounds_toArray, List.set_cons_zero, List.set_cons_succ, List.getElem_toArray, List.getElem_cons_succ, List.getElem_cons_zero]
      refine takeW 12 (v := ?vx2_12) rfl (by kernel_rfl) (fun _ _ _ h => h) (by rfl) (by assumption) ?yx2_12 ?rx2_12
      case yx2_12 => (intro w' hSw; (try dsimp only at hSw); go_simp; try with_reducible rfl)
      try simp only [Act.put, List.setIfInBounds_toArray, List.set_cons_zero, List.set_cons_succ, List.getElem_toArray, List.getElem_cons_succ, List.getElem_cons_zero]
      refine takeW 13 (v := ?vx2_13) rfl (by kernel_rfl) (fun _ _ _ h => h) (by rfl) (by assumption) ?yx2_13 ?rx2_13
      case yx2_13 => (intro w' hSw; (try dsimp only at hSw); go_simp; try with_reducible rfl)
      try simp only [Act.put, List.setIfInBounds_toArray, List.set_cons_zero, List.set_cons_succ, List.getElem_toArray, List.getElem_cons_succ, List.getElem_cons_zero]
      refine takeW 15 (v := ?vx2_15) rfl (by kernel_rfl) (fun _ _ _ h => h) (by rfl) (by assumption) ?yx2_15 ?rx2_15
      case yx2_15 => (intro w' hSw; (try dsimp only at hSw); go_simp; try with_reducible rfl)
      try simp only [Act.put, List.setIfInBounds_toArray, List.set_cons_zero, List.set_cons_succ, List.getElem_toArray, List.getElem_cons_succ, List.getElem_cons_zero]
      refine takeW 16 (v := ?vx2_16) rfl (by kernel_rfl) (fun _ _ _ h => h) (by rfl) (by assumption) ?yx2_16 ?rx2_16
      case yx2_16 => (intro w' hSw; (try dsimp only at hSw); go_simp; try with_reducible rfl)
      try simp only [Act.put, List.setIfInBounds_toArray, List.set_cons_zero, List.set_cons_succ, List.getElem_toArray, List.getElem_cons_succ, List.getElem_cons_zero]
      refine takeW 17 (v := ?vx2_17) rfl (by kernel_rfl) (fun _ _ _ h => h) (by rfl) (by assumption) ?yx2_17 ?rx2_17
      case yx2_17 => (intro w' hSw; (try dsimp only at hSw); go_simp; try with_reducible rfl)
      try simp only [Act.put, List.setIfInBounds_toArray, List.set_cons_zero, List.set_cons_succ, List.getElem_toArray, List.getElem_cons_succ, List.getElem_cons_zero]
      refine takeW 18 (v := ?vx2_18) rfl (by kernel_rfl) (fun _ _ _ h => h) (by rfl) (by assumption) ?yx2_18 ?rx2_18
      case yx2_18 => (intro w' hSw; (try dsimp only at hSw); go_simp; try with_reducible rfl)
      try simp only [Act.put, List.setIfInBounds_toArray, List.set_cons_zero, List.set_cons_succ, List.getElem_toArray, List.getElem_cons_succ, List.getElem_cons_zero]
      refine takeW 19 (v := ?vx2_19) rfl (by kernel_rfl) (fun _ _ _ h => h) (by rfl) (by assumption) ?yx2_19 ?rx2_19
      case yx2_19 => (intro w' hSw; (try dsimp only at hSw); go_simp; try with_reducible rfl)
      try simp only [Act.put, List.setIfInBounds_toArray, List.set_cons_zero, List.set_cons_succ, List.getElem_toArray, List.getElem_cons_succ, List.getElem_cons_zero]
      have ba : Below w5.heap.size w5 (w5.alloc (Obj.cells #[.int .i64 0, .int .i64 1, .int .i64 2] 3)) := (Below.refl _ _).alloc (Nat.le_refl _) _
      have HBA := Lib.hid (HB5.out.trans (ba.mono HB5.out.size))
      have sta := HS.out _ HBA.out
      have HLU := Lib.hid (liesU w5 (r := r) hr3)
      have HEV := Lib.hid (show Calls Try.prog 26 #[.agg #[.int .i64 d.op, .int .i64 d.n, .slice A' d.k.len c'], .slice (some ⟨w5.heap.size, 0, none⟩) r 3] (w5.alloc (Obj.cells #[.int .i64 0, .int .i64 1, .int .i64 2] 3)) (Gives (.bool true) (w5.alloc (Obj.cells #[.int .i64 0, .int .i64 1, .int .i64 2] 3))) from by
        have h := implExprValid_any d.op d.n d.k A' c' (upto r) (some ⟨w5.heap.size, 0, none⟩) 3 _ (HLK.out.up HBA.out) (Nat.le_trans h7 h8) HLU.out (by rw [HLN.out]; omega)
        rw [HLN.out, HVO.out] at h
        exact h)
      refine wpAnyH_ready (rs := [14]) (by kernel_rfl) (by simp) ?_
      refine AllReadyH.cons rfl (fun K hK => ?_) AllReadyH.nil
      go_simp
      refine hK.out _ _ (sta) (fun hHeldB2 => ?_)
      clear hK K
      try simp only [Act.put, List.setIfInBounds_toArray, List.set_cons_zero, List.set_cons_succ, List.getElem_toArray, List.getElem_cons_succ, List.getElem_cons_zero]
      refine takeW 20 (v := ?vx3_20) rfl (by kernel_rfl) (fun _ _ _ h => h) (by rfl) (by assumption) ?yx3_20 ?rx3_20
      case yx3_20 => (intro w' hSw; (try dsimp only at hSw); go_simp; try with_reducible rfl)
      try simp only [Act.put, List.setIfInBounds_toArray, List.set_cons_zero, List.set_cons_succ, List.getElem_toArray, List.getElem_cons_succ, List.getElem_cons_zero]
      refine wpAnyH_ready (rs := [21]) (by kernel_rfl) (by simp) ?_
      refine AllReadyH.cons rfl (fun K hK => ?_) AllReadyH.nil
      go_simp
      refine HEV.out.mono ?_
      rintro e w6 ⟨rfl, hb6⟩
      have HB6 := Lib.hid (HBA.out.trans (hb6.mono HBA.out.size))
      have st6 := HS.out _ HB6.out
      refine hK.out _ _ (st6) (fun hHeldB3 => ?_)
      clear hK K
      try simp only [Act.put, List.setIfInBounds_toArray, List.set_cons_zero, List.set_cons_succ, List.getElem_toArray, List.getElem_cons_succ, List.getElem_cons_zero]
      refine takeW 22 (v := ?vx4_22) rfl (by kernel_rfl) (fun _ _ _ h => h) (by rfl) (by assumption) ?yx4_22 ?rx4_22
      case yx4_22 => (intro w' hSw; (try dsimp only at hSw); go_simp; try with_reducible rfl)
      try simp only [Act.put, List.setIfInBounds_toArray, List.set_cons_zero, List.set_cons_succ, List.getElem_toArray, List.getElem_cons_succ, List.getElem_cons_zero]
      refine takeW 23 (v := ?vx4_23) rfl (by kernel_rfl) (fun _ _ _ h => h) (by rfl) (by assumption) ?yx4_23 ?rx4_23
      case yx4_23 => (intro w' hSw; (try dsimp only at hSw); go_simp; try with_reducible rfl)
      try simp only [Act.put, List.setIfInBounds_toArray, List.set_cons_zero, List.set_cons_succ, List.getElem_toArray, List.getElem_cons_succ, List.getElem_cons_zero]
      refine wpAnyH_done (by kernel_rfl) ?_ _
      clear st sta st6
      go_wp2_with fail
      go_roundw
      case rel => exact ⟨j + 1, by omega, by go_num, HBR.out.trans (HB6.out.mono HBR.out.size)⟩
      case measure => simp [intOf]; omega
    · have HBE := Lib.hid (HB3.out.trans (hbr.mono HB3.out.size))
      clear hbr
      go_wp2_with fail
      go_ret
      exact ⟨rfl, HBE.out⟩
end Go.Proofs.Ytfijdlbcpmnbhaa
