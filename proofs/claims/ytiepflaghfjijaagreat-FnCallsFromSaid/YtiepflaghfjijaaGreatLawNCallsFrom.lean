/-
  The walk of the law FnCallsFrom: true at every input.
-/
import Derived.Test.YtiepflaghfjijaaGreatCliS
import Derived.Test.YtiepflaghfjijaaGreatFromIR
import Derived.Test.YtiepflaghfjijaaGreatFromS
import Derived.Test.YtiepflaghfjijaaGreatAm
import Derived.Test.YtiepflaghfjijaaGreatFind
import Derived.Test.YtiepflaghfjijaaGreatTreeP
namespace Go.Proofs.YtiepflaghfjijaaGreat
open Go.RowKit Go.Shelf
set_option maxRecDepth 100000

set_option maxHeartbeats 1000000 in
theorem drawFrom_any (A : Option Addr) (bc : Nat) (bs : List Nat) (w : World) (hB : LiesY w 0 w.heap.size A bs) (hl : bs.length ≤ bc) (hc : bc ≤ maxLen) :
    Calls Tryz.prog 5 #[.slice A bs.length bc] w (Case2Post w) := by
  obtain ⟨W1, hW1⟩ : ∃ W1, W1 = w.alloc (Obj.cells #[.int .i64 0, .int .i64 0, .slice none 0 0] 26) := ⟨_, rfl⟩
  have hb1 : Below w.heap.size w W1 := by rw [hW1]; exact (Below.refl _ _).alloc (Nat.le_refl _) _
  have hx1 : Row W1 w.heap.size 26 #[.int .i64 0, .int .i64 0, .slice none 0 0] := by rw [hW1]; exact Row.fresh _ _ _
  have HC := Lib.hid (l2Case_any A bc bs W1 ((hB.below hb1).keep (Nat.le_refl _) hb1.size fun _ _ _ => rfl) hl hc)
  have HX1 := Lib.hid hx1
  have HB1 := Lib.hid hb1
  have hg1 : w.heap.size < W1.heap.size := hx1.size
  clear hb1 hx1 hB
  go_enter Tryz.func5, Tryz.ntmps5
  go_upto_region 1 with fail
  rw [← hW1]
  clear hW1
  go_wp2_with fail
  refine HC.out.mono ?_
  rintro e w2 ⟨ds, X, c, op, n, k, Y, cy, bl, rfl, ⟨hL, hc1, hc2, hn, hs⟩, hi, ht, hk, hb2⟩
  have r1 := HX1.out.below hb2 hg1
  have f0 := r1.free 0
  have f1 := r1.free 1
  have f2 := r1.free 2
  have d0 := r1.cell (i := 0) rfl
  have d1 := r1.cell (i := 1) rfl
  have d2 := r1.cell (i := 2) rfl
  have HXF := Lib.hid r1
  have HTF := Lib.hid ht
  have HLF := Lib.hid hL
  have HBF := Lib.hid (HB1.out.trans (hb2.mono HB1.out.size))
  have HI := Lib.hid hi
  clear r1 hL ht hb2 hi HC HX1 HB1
  go_wp2_with fail
  have r7 := ((HXF.out.put 0 (.int .i64 op)).put 1 (.int .i64 n)).put 2 (.slice Y k.len cy)
  have t0 := r7.cell (i := 0) rfl
  have t1 := r7.cell (i := 1) rfl
  have t2 := r7.cell (i := 2) rfl
  refine bodyPost_ret (v := .tuple #[.slice X ds.length c, .agg #[.int .i64 op, .int .i64 n, .slice Y k.len cy]]) ?_ rfl (case2_end (HLF.out.mono_ hg1 (Nat.le_refl _)) hc1 hc2 hn hs HI.out (HTF.out.lower hg1) hk HBF.out _ _ _)
  simp [results, Tryz.f5, go_sem, t0, t1, t2]

/-- A function that is called is found, and those that it calls are called too. -/
theorem from_in {ds : List De} {op n : Int} {k : Fo} {x : Int} (hx : x ∈ fromL ds op n k) : ∃ (p : Nat) (d : De), plc x ds = p ∧ p < ds.length ∧ ds[p]? = some d ∧ smallOk d.k 14 80 = true ∧ ∀ y, y ∈ numsUpto (callB ⟨d.op, d.n, d.k⟩) 8 → y ∈ fromL ds op n k := by
  cases hv : libOk ds && callsFitB ds op n k with
  | false => rw [fromL_no hv] at hx; simp at hx
  | true =>
    rw [Bool.and_eq_true] at hv
    obtain ⟨hv, hf⟩ := hv
    rw [fromL_yes hv hf] at hx ⊢
    obtain ⟨v, h8, rfl, hs⟩ := numsUpto_mem 8 x hx
    have hr := (fromS_iff hv hf v).1 hs
    obtain ⟨d, hd⟩ := rch_there hv hf v hr
    obtain ⟨p, h1, h2, h3⟩ := place_there hd
    refine ⟨p, d, ?_, h3, h2, libOk_small hv d (fnd_mem hd).1, fun y hy => ?_⟩
    · unfold plcI at h1
      split at h1 <;> omega
    · obtain ⟨u, hu8, rfl, hc⟩ := numsUpto_mem 8 y hy
      have he : edge ds v u = true := by unfold edge; rw [hd]; exact hc
      have h9 := (fromS_iff hv hf u).2 (.step hr he)
      exact (numsUpto_iff _ 8 _).2 ⟨u, hu8, rfl, h9⟩

set_option maxHeartbeats 4000000 in
theorem law_NCallsFrom (bs : List Nat) (A : Option Addr) (c : Nat) (w : World) (hl : LiesY w 0 w.heap.size A bs) (hlc : bs.length ≤ c) (hc : c ≤ maxLen) :
    Calls Tryz.prog 3 #[.slice A bs.length c] w (Gives (.bool true) w) := by
  have HC := Lib.hid (drawFrom_any A c bs w hl hlc hc)
  unfold maxLen at hc
  by_cases hsz : bs.length ≤ 1048576
  rotate_left
  · have hgt : 1048576 < bs.length := by omega
    go_enter Tryz.func3, Tryz.ntmps3
    go_wp2_with fail
    go_ret
    exact ⟨rfl, Below.refl _ _⟩
  clear hl
  go_enter Tryz.func3, Tryz.ntmps3
  go_wp2_with fail
  refine HC.out.mono ?_
  rintro e w1 ⟨ds, X, cx, op, n, k, Y, cy, bl, rfl, ⟨hL, hc1, hc2, hn, hs⟩, hi, ht, hk, hb1⟩
  obtain ⟨_, _, hY, hk1, hk2⟩ := ht.slice
  injection hY with hY1 hY2 hY3
  subst hY3
  clear hY1
  obtain ⟨W, hW⟩ : ∃ W, W = w1.alloc (Obj.cells #[.int .i64 op, .int .i64 n, .slice Y k.len cy] 26) := ⟨_, rfl⟩
  have hbW : Below w1.heap.size w1 W := by rw [hW]; exact (Below.refl _ _).alloc (Nat.le_refl _) _
  have HX := Lib.hid (show Row W w1.heap.size 26 #[.int .i64 op, .int .i64 n, .slice Y k.len cy] by rw [hW]; exact Row.fresh _ _ _)
  have HH := Lib.hid ((ht.held).below hbW (Nat.le_refl _))
  have HL := Lib.hid (show LiesD W 0 w1.heap.size X ds from (hL.below hbW).mono_ (Nat.zero_le _) (Nat.le_refl _))
  have HB := Lib.hid (hb1.trans (hbW.mono hb1.size))
  -- what every later world keeps
  have HK := Lib.hid (show ∀ V, Below W.heap.size W V → V.cell? ⟨w1.heap.size, 0, none⟩ = some (.int .i64 op) ∧ V.cell? ⟨w1.heap.size, 1, none⟩ = some (.int .i64 n) ∧ V.cell? ⟨w1.heap.size, 2, none⟩ = some (.slice Y k.len cy) ∧ Held V w1.heap.size Y k ∧ LiesD V 0 w1.heap.size X ds ∧ w1.heap.size ≤ V.heap.size ∧ Below w.heap.size w V from fun V hV => by
    have hx := HX.out.below hV HX.out.size
    exact ⟨hx.cell rfl, hx.cell rfl, hx.cell rfl, HH.out.below hV hbW.size, HL.out.below (hV.mono hbW.size), Nat.le_trans hbW.size hV.size, HB.out.trans (hV.mono HB.out.size)⟩)
  have hk3 : k.size ≤ 1048576 := by omega
  have hkl : k.len ≤ maxLen := Nat.le_trans hk1 hk2
  clear hb1 hbW hL ht HX HH HL HB HC
  go_upto_region 4 with fail
  rw [← hW]
  clear hW
  obtain ⟨zs, hzs⟩ : ∃ z, z = fromL ds op n k := ⟨_, rfl⟩
  have hzi : ∀ x ∈ zs, I64 x := by rw [hzs]; exact fun x hx => fromL_small x hx
  have hzl : zs.length ≤ 8 := by rw [hzs]; exact fromL_len ds op n k
  have HZS := Lib.hid hzs
  have HZI := Lib.hid hzi
  clear hzs hzi
  obtain ⟨q0, q1, q2, h1, h2, h3, h4⟩ := HK.out W (Below.refl _ _)
  go_wp2_with fail
  refine (implFrom_r ds X cx op n k Y cy 0 w1.heap.size 0 w1.heap.size W h2 h3 h1.1 h3 hs hk1 hk2 hk3).mono ?_
  rintro e w2 ⟨vo, rfl, ho2, hb2⟩
  rw [← HZS.out] at ho2
  obtain ⟨A2, c2, rfl, hI2⟩ := own_ints ho2 HZI.out
  have HB2 := Lib.hid hb2
  have HI := Lib.hid (show ∀ V, Below w2.heap.size w2 V → LiesI V 0 V.heap.size A2 zs from fun V hV => (hI2.mono_ (Nat.zero_le _) (Nat.le_refl _)).up hV)
  clear q0 q1 q2 h1 h2 h3 h4 hb2 ho2 hI2
  obtain ⟨q0, q1, q2, h1, h2, h3, h4⟩ := HK.out w2 HB2.out
  go_wp2_with fail
  refine (specFrom_any ds X cx op n k Y cy w2 (h2.mono_ (Nat.le_refl _) h3) (h1.1.mono_ (Nat.le_refl _) h3) hs hkl hk3).mono ?_
  rintro e w3 ⟨vo, rfl, ho3, hb3⟩
  rw [← HZS.out] at ho3
  obtain ⟨A3, c3, rfl, hI3⟩ := own_ints ho3 HZI.out
  have HJ3 := Lib.hid (show LiesI w3 0 w3.heap.size A3 zs from hI3.mono_ (Nat.zero_le _) (Nat.le_refl _))
  have HB3 := Lib.hid (HB2.out.trans (hb3.mono HB2.out.size))
  have HD3 := Lib.hid (hb3)
  clear q0 q1 q2 h1 h2 h3 h4 hb3 ho3 hI3
  go_wp2_with fail
  refine (amInts_any zs zs A2 A3 c2 c3 w3 (HI.out w3 HD3.out) HJ3.out (by omega) (by omega)).mono ?_
  rintro e w4 ⟨rfl, hb4⟩
  rw [show decide (zs = zs) = true by simp]
  have HB4 := Lib.hid (HB3.out.trans (hb4.mono HB3.out.size))
  have HD4 := Lib.hid (HD3.out.trans (hb4.mono HD3.out.size))
  clear hb4 HJ3 HB3 HD3
  have HFI := Lib.hid (show ∀ x ∈ zs, ∃ (p : Nat) (d : De), plc x ds = p ∧ p < ds.length ∧ ds[p]? = some d ∧ smallOk d.k 14 80 = true ∧ ∀ y, y ∈ numsUpto (callB ⟨d.op, d.n, d.k⟩) 8 → y ∈ zs by rw [HZS.out]; exact fun x hx => from_in hx)
  clear HZS HZI
  go_wp2_with fail
  go_loopw [6] (fun i wr => ∃ (j : Nat), j ≤ zs.length ∧ i = .int .i64 (j : Int) ∧ Below w4.heap.size w4 wr)
    (fun i _ => zs.length - (intOf i).toNat)
  case atStart => exact ⟨0, by omega, rfl, Below.refl _ _⟩
  case round =>
    obtain ⟨wo, hwo⟩ : ∃ wo, wo = wr := ⟨_, rfl⟩
    rw [← hwo] at hrel ⊢
    clear hwo
    obtain ⟨j, hj, rfl, hbr⟩ := hrel
    by_cases hlt : j < zs.length
    · obtain ⟨x, hx⟩ : ∃ x, zs[j]? = some x := ⟨_, List.getElem?_eq_getElem hlt⟩
      obtain ⟨p, d, hp1, hp2, hp3, hp4, hp5⟩ := HFI.out x (List.mem_of_getElem? hx)
      have HIN := Lib.hid hp5
      have HSM := Lib.hid hp4
      have hD := HD4.out.trans (hbr.mono HD4.out.size)
      obtain ⟨b2, o2, hA2, _, hbb2, hxi, g2⟩ := (HI.out wo hD) j x hx
      have HA2 := Lib.hid hA2
      have hLD := (HK.out wo (HB4.out.trans (hbr.mono HB4.out.size))).2.2.2.2.1
      have hLZ := (HK.out wo (HB4.out.trans (hbr.mono HB4.out.size))).2.2.2.2.2.1
      have HP := Lib.hid (implFind_any ds X cx wo x (hLD.mono_ (Nat.le_refl _) hLZ) (by omega))
      unfold FindPost at HP
      rw [hp1, if_pos hp2, decide_eq_true hp2] at HP
      obtain ⟨b, o, A', c', hX, hbb, hbw, hf, g0, g1, gg, g3, g4, g5, h7, h8, h9⟩ := hLD p d hp3
      have hs80 := small_le80 hp4
      have HG := Lib.hid (show ∀ V, Below wo.heap.size wo V → V.cell? ⟨b, o + p * 6 + 3, none⟩ = some (.int .i64 d.op) ∧ V.cell? ⟨b, o + p * 6 + 4, none⟩ = some (.int .i64 d.n) ∧ V.cell? ⟨b, o + p * 6 + 5, none⟩ = some (.slice A' d.k.len c') ∧ Lies V 0 w1.heap.size A' 0 d.k from fun V hV =>
        ⟨(hV.cell (p := ⟨b, o + p * 6 + 3, none⟩) (Nat.lt_of_lt_of_le hbw hLZ)).trans g3, (hV.cell (p := ⟨b, o + p * 6 + 4, none⟩) (Nat.lt_of_lt_of_le hbw hLZ)).trans g4, (hV.cell (p := ⟨b, o + p * 6 + 5, none⟩) (Nat.lt_of_lt_of_le hbw hLZ)).trans g5, h9.below (hV.mono hLZ)⟩)
      have hji : (j : Int) < (zs.length : Int) := by omega
      have hpi : (p : Int) < (ds.length : Int) := by omega
      have HBR := Lib.hid hbr
      have HLZ := Lib.hid hLZ
      have hA2' := HA2.out
      subst hA2' hX
      clear hx hp1 hp3 hp4 hp5 hD hLD hf g0 g1 gg g3 g4 g5 h9 hbr hLZ HA2
      go_wp2_with fail
      refine HP.out.mono ?_
      rintro e w5 ⟨rfl, hb5⟩
      have HB5 := Lib.hid hb5
      obtain ⟨s3, s4, s5, hkl9⟩ := HG.out w5 hb5
      have HKL := Lib.hid hkl9
      clear hb5 HP g2 hkl9
      go_wp2_with fail
      refine (implCalls_r d.op d.n d.k A' c' 0 w1.heap.size w5 HKL.out (Nat.le_trans HLZ.out HB5.out.size) (RowsIf.small HSM.out) h7 h8 (by omega)).mono ?_
      rintro e w6 ⟨vc, rfl, ho6, hb6⟩
      obtain ⟨cl, hcl⟩ : ∃ cl, cl = numsUpto (callB ⟨d.op, d.n, d.k⟩) 8 := ⟨_, rfl⟩
      have hcli : ∀ x ∈ cl, I64 x := fun x hx => numsUpto_small _ 8 x (Nat.le_refl _) (hcl ▸ hx)
      have hcll : cl.length ≤ 8 := by rw [hcl]; exact numsUpto_len _ 8
      rw [← hcl] at ho6 HIN
      obtain ⟨A6, c6, rfl, hI6⟩ := own_ints ho6 hcli
      have HI6 := Lib.hid (show LiesI w6 0 w6.heap.size A6 cl from hI6.mono_ (Nat.zero_le _) (Nat.le_refl _))
      have HB6 := Lib.hid (show Below w4.heap.size w4 w6 from HBR.out.trans ((HB5.out.trans (hb6.mono HB5.out.size)).mono HBR.out.size))
      have HD6 := Lib.hid (HD4.out.trans (HB6.out.mono HD4.out.size))
      clear s3 s4 s5 hb6 ho6 hI6 hcl hcli HB5 HBR HG HKL
      go_wp2_with fail
      go_loopw [10] (fun i wr => ∃ (j : Nat), j ≤ cl.length ∧ i = .int .i64 (j : Int) ∧ Below w6.heap.size w6 wr)
        (fun i _ => cl.length - (intOf i).toNat)
      case atStart => exact ⟨0, by omega, rfl, Below.refl _ _⟩
      case round =>
        obtain ⟨woi, hwoi⟩ : ∃ wo, wo = wr := ⟨_, rfl⟩
        rw [← hwoi] at hrel ⊢
        clear hwoi
        obtain ⟨ji, hji, rfl, hbri⟩ := hrel
        by_cases hlti : ji < cl.length
        · obtain ⟨xi, hxi⟩ : ∃ x, cl[ji]? = some x := ⟨_, List.getElem?_eq_getElem hlti⟩
          have HXMi := Lib.hid (HIN.out xi (List.mem_of_getElem? hxi))
          obtain ⟨b4i, o4i, rfl, _, hbb4i, hxii, g4i⟩ := (HI6.out.up hbri) ji xi hxi
          have hjii : (ji : Int) < (cl.length : Int) := by omega
          have HBRi := Lib.hid hbri
          clear hxi hbri
          go_wp2_with fail
          refine (amIn_any zs _ c2 xi woi (HI.out woi (HD6.out.trans (HBRi.out.mono HD6.out.size))) (by omega)).mono ?_
          rintro e w9i ⟨rfl, hb9i⟩
          rw [show decide (xi ∈ zs) = true by simpa using HXMi.out]
          have HB9i := Lib.hid (HBRi.out.trans (hb9i.mono HBRi.out.size))
          clear hb9i g4i HBRi
          go_wp2_with fail
          go_roundw
          case rel => exact ⟨ji + 1, by omega, by go_num, HB9i.out⟩
          case measure => simp [intOf]; omega
        · have hjii : ¬ (ji : Int) < (cl.length : Int) := by omega
          have HBRi := Lib.hid hbri
          clear hbri
          go_wp2_with fail
          go_roundw
          case rel => exact ⟨j + 1, by omega, by go_num, HB6.out.trans (HBRi.out.mono HB6.out.size)⟩
          case measure => simp [intOf]; omega
    · have hji : ¬ (j : Int) < (zs.length : Int) := by omega
      have HR := Lib.hid (HK.out wo (HB4.out.trans (hbr.mono HB4.out.size))).2.2.2.2.2.2
      clear hbr
      go_wp2_with fail
      go_ret
      exact ⟨rfl, HR.out⟩
end Go.Proofs.YtiepflaghfjijaaGreat
