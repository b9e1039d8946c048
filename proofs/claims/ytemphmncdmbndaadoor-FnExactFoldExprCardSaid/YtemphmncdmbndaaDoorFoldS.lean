/-
  spec.l6Step, spec.l6Fold.
-/
import Derived.Test.YtemphmncdmbndaaDoorFoldT
import Derived.Test.YtemphmncdmbndaaDoorAtom
import Derived.Test.YtemphmncdmbndaaDoorTree
import Derived.Deep.RegionHeld3
import Derived.BigRegion
import Derived.Deep.CutRange
import Derived.BigQuiet
import Derived.Deep.QuietTactic
import Derived.StillTailTactics
namespace Go.Proofs.YtemphmncdmbndaaDoor
open Go.RowKit Go.Shelf
set_option maxRecDepth 100000

/-- The first operand is a number; both of two operands are. -/
def numB : Fo → Bool
  | .cons o _ _ _ => decide (o = 1)
  | .nil => false
def twoB (k : Fo) : Bool := numB k && (decide (k.len = 2) && decide ((kid2 k).op = 1))

set_option maxHeartbeats 4000000 in
theorem step_any {T : Int → Int → Nat → Prop} (hT : LocalT T) (hF : ∀ (op n : Int) (l : Nat), T op n l → formT op n l) (L : Nat) (op n : Int) (k : Fo) (A : Option Addr) (c base : Nat) (bs : List Nat) (w : World) (hst : St T L ⟨op, n, k⟩) (hi : I64 op ∧ I64 n) (ht : Tree w base (.slice A k.len c) k bs) (hbase : base ≤ w.heap.size) :
    Calls Tryd.prog 23 #[.agg #[.int .i64 op, .int .i64 n, .slice A k.len c]] w (Turns (gFold L ⟨op, n, k⟩) base w) := by
  have hlen : k.len ≤ 1048576 := by have h1 := Fo.len_le_size k; have h2 := hst.size; dsimp only at h2; omega
  obtain ⟨hb, r1, r2⟩ := two_boxes w 28 28 #[Value.int IntKind.i64 op, Value.int IntKind.i64 n, Value.slice A k.len c] #[.int .i64 0, .int .i64 0, .slice none 0 0]
  obtain ⟨W, hW⟩ : ∃ W, W = (w.alloc (Obj.cells #[Value.int IntKind.i64 op, Value.int IntKind.i64 n, Value.slice A k.len c] 28)).alloc (Obj.cells #[.int .i64 0, .int .i64 0, .slice none 0 0] 28) := ⟨_, rfl⟩
  rw [← hW] at hb r1 r2
  have HB0 := Lib.hid hb
  have HRB := Lib.hid r1
  have HRR := Lib.hid r2
  have HT := Lib.hid (ht.over hb)
  have HNB := Lib.hid (show w.heap.size + 1 ∉ bs from fun hz => by have := (ht.lt _ hz).2; omega)
  have HLOW := Lib.hid (show base ≤ base ∧ base ≤ W.heap.size from ⟨Nat.le_refl _, Nat.le_trans hbase hb.size⟩)
  have HST := Lib.hid hst
  have HTT := Lib.hid hT
  have HFM := Lib.hid hF
  have HI := Lib.hid hi
  obtain ⟨GP, hGP⟩ : ∃ GP, GP = gFold L ⟨op, n, k⟩ := ⟨_, rfl⟩
  rw [← hGP]
  have HGP := Lib.hid hGP
  clear hb r1 r2 ht hst hT hi hGP hbase hF
  go_enter Tryd.func23, Tryd.ntmps23
  go_upto_region 1 with fail
  rw [← hW]
  clear hW
  obtain ⟨l, hl⟩ : ∃ l, l = k.len := ⟨_, rfl⟩
  have q0 := HRB.out.cell (i := 0) rfl
  have q1 := HRB.out.cell (i := 1) rfl
  have q2 : W.cell? ⟨w.heap.size, 2, none⟩ = some (.slice A l c) := by rw [hl]; exact HRB.out.cell (i := 2) rfl
  obtain ⟨nb, hnb⟩ : ∃ nb, nb = numB k := ⟨_, rfl⟩
  obtain ⟨tb, htb⟩ : ∃ tb, tb = twoB k := ⟨_, rfl⟩
  have HNB1 := Lib.hid hnb
  have HTB1 := Lib.hid htb
  have HL := Lib.hid hl
  have HLEN := Lib.hid hlen
  clear hnb htb hl hlen
  go_cut [3] from 5 to 16 (fun a wd => a = .bool nb ∧ wd = W)
  case first =>
    cases k with
    | nil =>
      have hl := HL.out
      simp only [Fo.len] at hl
      subst hl
      have hn1 : nb = false := HNB1.out
      subst hn1
      go_wp2_with fail
      go_meet
      exact ⟨rfl, rfl⟩
    | cons oa ma ka r =>
      obtain ⟨g, cap, X, cx, bk, cs, hv, h1, _, _, h3, h4, h5, h6, h7, h8, h9, _⟩ := HT.out.at_ (j := 0) (o := oa) (m := ma) (k := ka) rfl
      injection hv with e1 e2 e3
      subst e1
      subst e3
      have z0 := h6.cell h7
      have hlp : 0 < l := by rw [HL.out]; simp [Fo.len]
      have bl0 : (0 : Int) < (l : Int) := by omega
      have bl1 : decide ((l : Int) > 0) = true := by simpa using hlp
      clear h1 h3 h4 h5 h6 h7 h8 h9 hlp e2
      by_cases ho : oa = 1
      · have hn1 : nb = true := by rw [HNB1.out]; simp [numB, ho]
        have bo : (oa == 1) = true := by simpa using ho
        subst hn1
        clear ho
        go_wp2_with fail
        go_meet
        exact ⟨by first | rfl | rw [bo], rfl⟩
      · have bo : (oa == 1) = false := by simpa using ho
        have hn1 : nb = false := by rw [HNB1.out]; simp [numB, ho]
        subst hn1
        clear ho
        go_wp2_with fail
        go_meet
        exact ⟨by first | rfl | rw [bo], rfl⟩
  case rest =>
  obtain ⟨rfl, hwc⟩ := hcut
  rw [hwc]
  clear hwc wc
  go_upto_region 2 with fail
  go_cut [4] from 17 to 31 (fun a wd => a = .bool tb ∧ wd = W)
  case first =>
    cases nb with
    | false =>
      have ht1 : tb = false := by rw [HTB1.out]; unfold twoB; rw [← HNB1.out]; rfl
      subst ht1
      go_wp2_with fail
      go_meet
      exact ⟨rfl, rfl⟩
    | true =>
      by_cases h2 : l = 2
      · cases k with
        | nil => have := HL.out; simp [Fo.len] at this; omega
        | cons oa ma ka r =>
          cases r with
          | nil => have := HL.out; simp [Fo.len] at this; omega
          | cons ob mb kb r2 =>
            cases r2 with
            | cons _ _ _ _ => have := HL.out; simp [Fo.len] at this; omega
            | nil =>
              obtain ⟨g', X2, cx2, X', cx', b1, b2, cs, hA, _, hg0, hrg, k0, k1, k2, k3, k4, k5, _⟩ := HT.out.two
              subst hA
              have z3 := hrg.cell k3
              subst h2
              clear hrg k0 k1 k2 k3 k4 k5 hg0
              by_cases ho2 : ob = 1
              · have ht1 : tb = true := by rw [HTB1.out]; unfold twoB; rw [← HNB1.out]; simp [kid2, kid1, ho2, Fo.len]
                have bo2 : (ob == 1) = true := by simpa using ho2
                subst ht1
                clear ho2
                go_wp2_with fail
                go_meet
                exact ⟨by first | rfl | rw [bo2], rfl⟩
              · have ht1 : tb = false := by rw [HTB1.out]; simp [twoB, kid2, kid1, ho2]
                have bo2 : (ob == 1) = false := by simpa using ho2
                subst ht1
                clear ho2
                go_wp2_with fail
                go_meet
                exact ⟨by first | rfl | rw [bo2], rfl⟩
      · have ht1 : tb = false := by rw [HTB1.out]; have h9 := HL.out; simp [twoB]; intro _ h8; omega
        have bl2 : ((l : Int) == 2) = false := by simp; omega
        subst ht1
        clear h2
        go_wp2_with fail
        go_meet
        exact ⟨by first | rfl | rw [bl2], rfl⟩
  case rest =>
  obtain ⟨rfl, hwc⟩ := hcut
  rw [hwc]
  clear hwc wc
  by_cases h4 : op = 4
  · subst h4
    obtain ⟨oa, ma, ka, ob, mb, kb, ek, sta, stb, hss⟩ := two_kids HST.out (kids_two (HTT.out.kids HST.out.all.1) (.inl rfl))
    dsimp only at ek
    subst ek
    obtain ⟨g, X, cx, X', cx', b1, b2, cs, hA, _, hg0, hrg, k0, k1, k2, k3, k4, k5, hta, htb, hia, hib, hsa, hsb⟩ := HT.out.two
    subst hA
    have HRG := Lib.hid hrg
    have HTB := Lib.hid htb
    have HIA := Lib.hid (And.intro hia hib)
    have HSB := Lib.hid hsb
    have HSAB := Lib.hid (And.intro sta stb)
    have HK := Lib.hid (And.intro k3 (And.intro k4 k5))
    have z0 := hrg.cell k0
    have z1 := hrg.cell k1
    have z2 := hrg.cell k2
    have z3 := hrg.cell k3
    have z4 := hrg.cell k4
    have z5 := hrg.cell k5
    clear hrg hta htb hia hib sta stb k0 k1 k2 k3 k4 k5 hss hsa hsb
    have q2' : W.cell? ⟨w.heap.size, 2, none⟩ = some (.slice (some ⟨g, 0, none⟩) 2 c) := HRB.out.cell (i := 2) rfl
    clear q2
    have q2 := q2'
    clear q2'
    have HLL := HL.out
    simp only [Fo.len] at HLL
    subst HLL
    have HTW := Lib.hid (show tb = (decide (oa = 1) && (decide (2 = 2) && decide (ob = 1))) from HTB1.out)
    by_cases h12 : oa = 1 ∧ ob = 1
    · obtain ⟨h1, h2⟩ := h12
      subst h1
      subst h2
      have na := num_own (HFM.out _ _ _ HSAB.out.1.all.1)
      have nb9 := num_own (HFM.out _ _ _ HSAB.out.2.all.1)
      dsimp only at na nb9
      have HIV := Lib.hid (show I64 1 ∧ I64 (foldV 4 ma mb) from ⟨by unfold I64; omega, by have hv := foldV_ok (op := 4) na.1 nb9.1; unfold I64; omega⟩)
      have HGE := Lib.hid (show GP = ⟨1, foldV 4 ma mb, Fo.nil⟩ from HGP.out.trans (gFold_num (.inl rfl) rfl rfl))
      have ht1 : tb = true := HTW.out
      subst ht1
      have HV := Lib.hid (show foldV 4 ma mb = (ma + mb) % 100 from rfl)
      have hw1 : IntKind.i64.wrap (ma + mb) = ma + mb := by rw [IntKind.wrap_i64] <;> omega
      have hw2 : Int.tmod (ma + mb) 100 = (ma + mb) % 100 := by rw [Int.tmod_eq_emod_of_nonneg]; omega
      rw [HV.out] at HIV HGE
      go_upto_region 4 with fail
      go_wp2_with fail
      go_still_tail 13, (by kernel_rfl)
      change wpList _ _ _ _ _ W.drew
      have HBS := Lib.hid (show Below W.heap.size W W.drew from (Below.refl _ _).drew)
      obtain ⟨w5, hw5⟩ : ∃ w5, w5 = W.drew := ⟨_, rfl⟩
      rw [← hw5] at HBS ⊢
      clear hw5 q0 q1 q2 z0 z1 z2 z3 z4 z5
      have hres5 := HRR.out.below HBS.out HRR.out.size
      have c0 := hres5.cell (i := 0) rfl
      have c1 := hres5.cell (i := 1) rfl
      have c2 := hres5.cell (i := 2) rfl
      have f0 := hres5.free 0
      have f1 := hres5.free 1
      have f2 := hres5.free 2
      have hres3 := ((hres5.put 0 (.int .i64 1)).put 1 (.int .i64 ((ma + mb) % 100))).put 2 (.slice none 0 0)
      have r0 := hres3.cell (i := 0) rfl
      have r1 := hres3.cell (i := 1) rfl
      have r2 := hres3.cell (i := 2) rfl
      have HBZ := Lib.hid ((((HB0.out.trans (HBS.out.mono HB0.out.size)).setCell (p := ⟨w.heap.size + 1, 0, none⟩) (by dsimp only; omega) (.int .i64 1)).setCell (p := ⟨w.heap.size + 1, 1, none⟩) (by dsimp only; omega) (.int .i64 ((ma + mb) % 100))).setCell (p := ⟨w.heap.size + 1, 2, none⟩) (by dsimp only; omega) (.slice none 0 0))
      obtain ⟨bz, htz, hap⟩ := (show ∃ bz, Tree w5 base (.slice none Fo.nil.len 0) Fo.nil bz ∧ w.heap.size + 1 ∉ bz from ⟨[], Tree.none _ _, by simp⟩)
      have HTZ := Lib.hid (((htz.keep_at (p := ⟨w.heap.size + 1, 0, none⟩) hap (.int .i64 1)).keep_at (p := ⟨w.heap.size + 1, 1, none⟩) hap (.int .i64 ((ma + mb) % 100))).keep_at (p := ⟨w.heap.size + 1, 2, none⟩) hap (.slice none 0 0))
      clear hres5 hres3 htz hap
      go_wp2_with fail
      refine bodyPost_ret (v := .agg #[.int .i64 1, .int .i64 ((ma + mb) % 100), .slice none 0 0]) ?_ rfl (by rw [HGE.out]; exact ⟨none, 0, bz, rfl, HTZ.out, HBZ.out, HIV.out⟩)
      simp [results, Tryd.f23, go_sem, r0, r1, r2]

    · have HGE := Lib.hid (show GP = ⟨4, n, Fo.cons oa ma ka (Fo.cons ob mb kb Fo.nil)⟩ from HGP.out.trans (gFold_arith (.inl rfl) h12))
      have ht1 : tb = false := by rw [HTW.out]; simp; intro h8 h9; exact h12 ⟨h8, h9⟩
      subst ht1
      go_upto_region 5 with fail
      go_wp2_with fail
      go_quiet (fail)
      have HBS := Lib.hid (below_drewN (Below.refl W.heap.size W) nq)
      clear q0 q1 q2 z0 z1 z2 z3 z4 z5
      have q0 := (HRB.out.below HBS.out HRB.out.size).cell (i := 0) rfl
      have q1 := (HRB.out.below HBS.out HRB.out.size).cell (i := 1) rfl
      have q2 : (W.drewN nq).cell? ⟨w.heap.size, 2, none⟩ = some (.slice (some ⟨g, 0, none⟩) 2 c) := (HRB.out.below HBS.out HRB.out.size).cell (i := 2) rfl
      have hres5 := HRR.out.below HBS.out HRR.out.size
      have c0 := hres5.cell (i := 0) rfl
      have c1 := hres5.cell (i := 1) rfl
      have c2 := hres5.cell (i := 2) rfl
      have f0 := hres5.free 0
      have f1 := hres5.free 1
      have f2 := hres5.free 2
      have hres3 := ((hres5.put 0 (.int .i64 4)).put 1 (.int .i64 n)).put 2 (.slice (some ⟨g, 0, none⟩) 2 c)
      have r0 := hres3.cell (i := 0) rfl
      have r1 := hres3.cell (i := 1) rfl
      have r2 := hres3.cell (i := 2) rfl
      have HBZ := Lib.hid ((((HB0.out.trans (HBS.out.mono HB0.out.size)).setCell (p := ⟨w.heap.size + 1, 0, none⟩) (by dsimp only; omega) (.int .i64 4)).setCell (p := ⟨w.heap.size + 1, 1, none⟩) (by dsimp only; omega) (.int .i64 n)).setCell (p := ⟨w.heap.size + 1, 2, none⟩) (by dsimp only; omega) (.slice (some ⟨g, 0, none⟩) 2 c))
      obtain ⟨bz, htz, hap⟩ := (show ∃ bz, Tree _ base (.slice (some ⟨g, 0, none⟩) (Fo.cons oa ma ka (Fo.cons ob mb kb Fo.nil)).len c) (Fo.cons oa ma ka (Fo.cons ob mb kb Fo.nil)) bz ∧ w.heap.size + 1 ∉ bz from ⟨bs, (HT.out.over HBS.out), HNB.out⟩)
      have HTZ := Lib.hid (((htz.keep_at (p := ⟨w.heap.size + 1, 0, none⟩) hap (.int .i64 4)).keep_at (p := ⟨w.heap.size + 1, 1, none⟩) hap (.int .i64 n)).keep_at (p := ⟨w.heap.size + 1, 2, none⟩) hap (.slice (some ⟨g, 0, none⟩) 2 c))
      clear hres5 hres3 htz hap
      go_wp2_with fail
      refine bodyPost_ret (v := .agg #[.int .i64 4, .int .i64 n, .slice (some ⟨g, 0, none⟩) 2 c]) ?_ rfl (by rw [HGE.out]; exact ⟨(some ⟨g, 0, none⟩), c, bz, rfl, HTZ.out, HBZ.out, HI.out⟩)
      simp [results, Tryd.f23, go_sem, r0, r1, r2]
  · by_cases h5 : op = 5
    · subst h5
      obtain ⟨oa, ma, ka, ob, mb, kb, ek, sta, stb, hss⟩ := two_kids HST.out (kids_two (HTT.out.kids HST.out.all.1) (.inr (.inl rfl)))
      dsimp only at ek
      subst ek
      obtain ⟨g, X, cx, X', cx', b1, b2, cs, hA, _, hg0, hrg, k0, k1, k2, k3, k4, k5, hta, htb, hia, hib, hsa, hsb⟩ := HT.out.two
      subst hA
      have HRG := Lib.hid hrg
      have HTB := Lib.hid htb
      have HIA := Lib.hid (And.intro hia hib)
      have HSB := Lib.hid hsb
      have HSAB := Lib.hid (And.intro sta stb)
      have HK := Lib.hid (And.intro k3 (And.intro k4 k5))
      have z0 := hrg.cell k0
      have z1 := hrg.cell k1
      have z2 := hrg.cell k2
      have z3 := hrg.cell k3
      have z4 := hrg.cell k4
      have z5 := hrg.cell k5
      clear hrg hta htb hia hib sta stb k0 k1 k2 k3 k4 k5 hss hsa hsb
      have q2' : W.cell? ⟨w.heap.size, 2, none⟩ = some (.slice (some ⟨g, 0, none⟩) 2 c) := HRB.out.cell (i := 2) rfl
      clear q2
      have q2 := q2'
      clear q2'
      have HLL := HL.out
      simp only [Fo.len] at HLL
      subst HLL
      have HTW := Lib.hid (show tb = (decide (oa = 1) && (decide (2 = 2) && decide (ob = 1))) from HTB1.out)
      by_cases h12 : oa = 1 ∧ ob = 1
      · obtain ⟨h1, h2⟩ := h12
        subst h1
        subst h2
        have na := num_own (HFM.out _ _ _ HSAB.out.1.all.1)
        have nb9 := num_own (HFM.out _ _ _ HSAB.out.2.all.1)
        dsimp only at na nb9
        have HIV := Lib.hid (show I64 1 ∧ I64 (foldV 5 ma mb) from ⟨by unfold I64; omega, by have hv := foldV_ok (op := 5) na.1 nb9.1; unfold I64; omega⟩)
        have HGE := Lib.hid (show GP = ⟨1, foldV 5 ma mb, Fo.nil⟩ from HGP.out.trans (gFold_num (.inr rfl) rfl rfl))
        have ht1 : tb = true := HTW.out
        subst ht1
        by_cases hlt : ma < mb
        · have HV := Lib.hid (show foldV 5 ma mb = 1 by simp [foldV, hlt])
          have hl2 : decide (ma < mb) = true := by simp [hlt]
          rw [HV.out] at HIV HGE
          go_upto_region 5 with fail
          go_wp2_with fail
          go_quiet (fail)
          have HBS := Lib.hid (below_drewN (Below.refl W.heap.size W) nq)
          clear q0 q1 q2 z0 z1 z2 z3 z4 z5
          have hres5 := HRR.out.below HBS.out HRR.out.size
          have c0 := hres5.cell (i := 0) rfl
          have c1 := hres5.cell (i := 1) rfl
          have c2 := hres5.cell (i := 2) rfl
          have f0 := hres5.free 0
          have f1 := hres5.free 1
          have f2 := hres5.free 2
          have hres3 := ((hres5.put 0 (.int .i64 1)).put 1 (.int .i64 1)).put 2 (.slice none 0 0)
          have r0 := hres3.cell (i := 0) rfl
          have r1 := hres3.cell (i := 1) rfl
          have r2 := hres3.cell (i := 2) rfl
          have HBZ := Lib.hid ((((HB0.out.trans (HBS.out.mono HB0.out.size)).setCell (p := ⟨w.heap.size + 1, 0, none⟩) (by dsimp only; omega) (.int .i64 1)).setCell (p := ⟨w.heap.size + 1, 1, none⟩) (by dsimp only; omega) (.int .i64 1)).setCell (p := ⟨w.heap.size + 1, 2, none⟩) (by dsimp only; omega) (.slice none 0 0))
          obtain ⟨bz, htz, hap⟩ := (show ∃ bz, Tree (W.drewN nq) base (.slice none Fo.nil.len 0) Fo.nil bz ∧ w.heap.size + 1 ∉ bz from ⟨[], Tree.none _ _, by simp⟩)
          have HTZ := Lib.hid (((htz.keep_at (p := ⟨w.heap.size + 1, 0, none⟩) hap (.int .i64 1)).keep_at (p := ⟨w.heap.size + 1, 1, none⟩) hap (.int .i64 1)).keep_at (p := ⟨w.heap.size + 1, 2, none⟩) hap (.slice none 0 0))
          clear hres5 hres3 htz hap
          go_wp2_with fail
          refine bodyPost_ret (v := .agg #[.int .i64 1, .int .i64 1, .slice none 0 0]) ?_ rfl (by rw [HGE.out]; exact ⟨none, 0, bz, rfl, HTZ.out, HBZ.out, HIV.out⟩)
          simp [results, Tryd.f23, go_sem, r0, r1, r2]
        · have HV := Lib.hid (show foldV 5 ma mb = 0 by simp [foldV, hlt])
          have hl2 : decide (ma < mb) = false := by simp [hlt]
          rw [HV.out] at HIV HGE
          go_upto_region 5 with fail
          go_wp2_with fail
          go_quiet (fail)
          have HBS := Lib.hid (below_drewN (Below.refl W.heap.size W) nq)
          clear q0 q1 q2 z0 z1 z2 z3 z4 z5
          have q0 := (HRB.out.below HBS.out HRB.out.size).cell (i := 0) rfl
          have q1 := (HRB.out.below HBS.out HRB.out.size).cell (i := 1) rfl
          have q2 : (W.drewN nq).cell? ⟨w.heap.size, 2, none⟩ = some (.slice (some ⟨g, 0, none⟩) 2 c) := (HRB.out.below HBS.out HRB.out.size).cell (i := 2) rfl
          have hres5 := HRR.out.below HBS.out HRR.out.size
          have c0 := hres5.cell (i := 0) rfl
          have c1 := hres5.cell (i := 1) rfl
          have c2 := hres5.cell (i := 2) rfl
          have f0 := hres5.free 0
          have f1 := hres5.free 1
          have f2 := hres5.free 2
          have hres3 := ((hres5.put 0 (.int .i64 1)).put 1 (.int .i64 0)).put 2 (.slice none 0 0)
          have r0 := hres3.cell (i := 0) rfl
          have r1 := hres3.cell (i := 1) rfl
          have r2 := hres3.cell (i := 2) rfl
          have HBZ := Lib.hid ((((HB0.out.trans (HBS.out.mono HB0.out.size)).setCell (p := ⟨w.heap.size + 1, 0, none⟩) (by dsimp only; omega) (.int .i64 1)).setCell (p := ⟨w.heap.size + 1, 1, none⟩) (by dsimp only; omega) (.int .i64 0)).setCell (p := ⟨w.heap.size + 1, 2, none⟩) (by dsimp only; omega) (.slice none 0 0))
          obtain ⟨bz, htz, hap⟩ := (show ∃ bz, Tree (W.drewN nq) base (.slice none Fo.nil.len 0) Fo.nil bz ∧ w.heap.size + 1 ∉ bz from ⟨[], Tree.none _ _, by simp⟩)
          have HTZ := Lib.hid (((htz.keep_at (p := ⟨w.heap.size + 1, 0, none⟩) hap (.int .i64 1)).keep_at (p := ⟨w.heap.size + 1, 1, none⟩) hap (.int .i64 0)).keep_at (p := ⟨w.heap.size + 1, 2, none⟩) hap (.slice none 0 0))
          clear hres5 hres3 htz hap
          go_wp2_with fail
          refine bodyPost_ret (v := .agg #[.int .i64 1, .int .i64 0, .slice none 0 0]) ?_ rfl (by rw [HGE.out]; exact ⟨none, 0, bz, rfl, HTZ.out, HBZ.out, HIV.out⟩)
          simp [results, Tryd.f23, go_sem, r0, r1, r2]

      · have HGE := Lib.hid (show GP = ⟨5, n, Fo.cons oa ma ka (Fo.cons ob mb kb Fo.nil)⟩ from HGP.out.trans (gFold_arith (.inr rfl) h12))
        have ht1 : tb = false := by rw [HTW.out]; simp; intro h8 h9; exact h12 ⟨h8, h9⟩
        subst ht1
        go_upto_region 5 with fail
        go_wp2_with fail
        go_quiet (fail)
        have HBS := Lib.hid (below_drewN (Below.refl W.heap.size W) nq)
        clear q0 q1 q2 z0 z1 z2 z3 z4 z5
        have q0 := (HRB.out.below HBS.out HRB.out.size).cell (i := 0) rfl
        have q1 := (HRB.out.below HBS.out HRB.out.size).cell (i := 1) rfl
        have q2 : (W.drewN nq).cell? ⟨w.heap.size, 2, none⟩ = some (.slice (some ⟨g, 0, none⟩) 2 c) := (HRB.out.below HBS.out HRB.out.size).cell (i := 2) rfl
        have hres5 := HRR.out.below HBS.out HRR.out.size
        have c0 := hres5.cell (i := 0) rfl
        have c1 := hres5.cell (i := 1) rfl
        have c2 := hres5.cell (i := 2) rfl
        have f0 := hres5.free 0
        have f1 := hres5.free 1
        have f2 := hres5.free 2
        have hres3 := ((hres5.put 0 (.int .i64 5)).put 1 (.int .i64 n)).put 2 (.slice (some ⟨g, 0, none⟩) 2 c)
        have r0 := hres3.cell (i := 0) rfl
        have r1 := hres3.cell (i := 1) rfl
        have r2 := hres3.cell (i := 2) rfl
        have HBZ := Lib.hid ((((HB0.out.trans (HBS.out.mono HB0.out.size)).setCell (p := ⟨w.heap.size + 1, 0, none⟩) (by dsimp only; omega) (.int .i64 5)).setCell (p := ⟨w.heap.size + 1, 1, none⟩) (by dsimp only; omega) (.int .i64 n)).setCell (p := ⟨w.heap.size + 1, 2, none⟩) (by dsimp only; omega) (.slice (some ⟨g, 0, none⟩) 2 c))
        obtain ⟨bz, htz, hap⟩ := (show ∃ bz, Tree _ base (.slice (some ⟨g, 0, none⟩) (Fo.cons oa ma ka (Fo.cons ob mb kb Fo.nil)).len c) (Fo.cons oa ma ka (Fo.cons ob mb kb Fo.nil)) bz ∧ w.heap.size + 1 ∉ bz from ⟨bs, (HT.out.over HBS.out), HNB.out⟩)
        have HTZ := Lib.hid (((htz.keep_at (p := ⟨w.heap.size + 1, 0, none⟩) hap (.int .i64 5)).keep_at (p := ⟨w.heap.size + 1, 1, none⟩) hap (.int .i64 n)).keep_at (p := ⟨w.heap.size + 1, 2, none⟩) hap (.slice (some ⟨g, 0, none⟩) 2 c))
        clear hres5 hres3 htz hap
        go_wp2_with fail
        refine bodyPost_ret (v := .agg #[.int .i64 5, .int .i64 n, .slice (some ⟨g, 0, none⟩) 2 c]) ?_ rfl (by rw [HGE.out]; exact ⟨(some ⟨g, 0, none⟩), c, bz, rfl, HTZ.out, HBZ.out, HI.out⟩)
        simp [results, Tryd.f23, go_sem, r0, r1, r2]
    · have b4 : (op == 4) = false := by simpa using h4
      have b5 : (op == 5) = false := by simpa using h5
      by_cases h6 : op = 6
      · obtain ⟨oa, ma, ka, ob, mb, kb, oc, mc, kc, ek, sta, stb, stc, hss⟩ := three_kids HST.out (kids_three (by have h9 := HTT.out.kids HST.out.all.1; dsimp only at h9; rw [h6] at h9; exact h9))
        dsimp only at ek
        subst h6
        subst ek
        obtain ⟨g, X, cx, X', cx', X2, cx2, b1, b2, b3, cs, hA, _, hg0, hrg, ⟨k0, k1, k2⟩, ⟨k3, k4, k5⟩, ⟨k6, k7, k8⟩, ⟨hta, htb, htc⟩, ⟨hia, hib, hic⟩, hsa, hsb, hsc⟩ := HT.out.three
        subst hA
        have HRG := Lib.hid hrg
        have HTB := Lib.hid htb
        have HTC := Lib.hid htc
        have HIA := Lib.hid (And.intro hib hic)
        have HSB := Lib.hid hsb
        have HSC := Lib.hid hsc
        have HK := Lib.hid (And.intro k0 (And.intro k1 (And.intro k2 (And.intro k3 (And.intro k4 (And.intro k5 (And.intro k6 (And.intro k7 k8))))))))
        have z0 := hrg.cell k0
        have z1 := hrg.cell k1
        have z2 := hrg.cell k2
        have z3 := hrg.cell k3
        have z4 := hrg.cell k4
        have z5 := hrg.cell k5
        have z6 := hrg.cell k6
        have z7 := hrg.cell k7
        have z8 := hrg.cell k8
        clear hrg hta htb htc hia hib hic sta stb stc k0 k1 k2 k3 k4 k5 k6 k7 k8 hss hsa hsb hsc
        have q2' : W.cell? ⟨w.heap.size, 2, none⟩ = some (.slice (some ⟨g, 0, none⟩) 3 c) := HRB.out.cell (i := 2) rfl
        clear q2
        have q2 := q2'
        clear q2'
        have HN1 := Lib.hid (show nb = decide (oa = 1) from HNB1.out)
        have HG := Lib.hid (show GP = (if oa = 1 then (if ma ≠ 0 then ⟨ob, mb, kb⟩ else ⟨oc, mc, kc⟩) else ⟨6, n, Fo.cons oa ma ka (Fo.cons ob mb kb (Fo.cons oc mc kc Fo.nil))⟩) from HGP.out.trans (gFold_if rfl))
        go_upto_region 5 with fail
        go_wp2_with fail
        go_quiet (fail)
        have HBS := Lib.hid (below_drewN (Below.refl W.heap.size W) nq)
        clear q0 q1 q2 z0 z1 z2 z3 z4 z5 z6 z7 z8
        have q0 := (HRB.out.below HBS.out HRB.out.size).cell (i := 0) rfl
        have q1 := (HRB.out.below HBS.out HRB.out.size).cell (i := 1) rfl
        have q2 : (W.drewN nq).cell? ⟨w.heap.size, 2, none⟩ = some (.slice (some ⟨g, 0, none⟩) 3 c) := (HRB.out.below HBS.out HRB.out.size).cell (i := 2) rfl
        have z0 := (HRG.out.below HBS.out HRG.out.size).cell HK.out.1
        have z1 := (HRG.out.below HBS.out HRG.out.size).cell HK.out.2.1
        have z2 := (HRG.out.below HBS.out HRG.out.size).cell HK.out.2.2.1
        have z3 := (HRG.out.below HBS.out HRG.out.size).cell HK.out.2.2.2.1
        have z4 := (HRG.out.below HBS.out HRG.out.size).cell HK.out.2.2.2.2.1
        have z5 := (HRG.out.below HBS.out HRG.out.size).cell HK.out.2.2.2.2.2.1
        have z6 := (HRG.out.below HBS.out HRG.out.size).cell HK.out.2.2.2.2.2.2.1
        have z7 := (HRG.out.below HBS.out HRG.out.size).cell HK.out.2.2.2.2.2.2.2.1
        have z8 := (HRG.out.below HBS.out HRG.out.size).cell HK.out.2.2.2.2.2.2.2.2
        by_cases h1 : oa = 1
        · have hn1 : nb = true := by rw [HN1.out]; simp [h1]
          subst hn1
          subst h1
          by_cases h0 : ma = 0
          · subst h0
            have HGE := Lib.hid (show GP = ⟨oc, mc, kc⟩ from HG.out.trans rfl)
            have hres5 := HRR.out.below HBS.out HRR.out.size
            have c0 := hres5.cell (i := 0) rfl
            have c1 := hres5.cell (i := 1) rfl
            have c2 := hres5.cell (i := 2) rfl
            have f0 := hres5.free 0
            have f1 := hres5.free 1
            have f2 := hres5.free 2
            have hres3 := ((hres5.put 0 (.int .i64 oc)).put 1 (.int .i64 mc)).put 2 (.slice X2 kc.len cx2)
            have r0 := hres3.cell (i := 0) rfl
            have r1 := hres3.cell (i := 1) rfl
            have r2 := hres3.cell (i := 2) rfl
            have HBZ := Lib.hid ((((HB0.out.trans (HBS.out.mono HB0.out.size)).setCell (p := ⟨w.heap.size + 1, 0, none⟩) (by dsimp only; omega) (.int .i64 oc)).setCell (p := ⟨w.heap.size + 1, 1, none⟩) (by dsimp only; omega) (.int .i64 mc)).setCell (p := ⟨w.heap.size + 1, 2, none⟩) (by dsimp only; omega) (.slice X2 kc.len cx2))
            obtain ⟨bz, htz, hap⟩ := (show ∃ bz, Tree _ base (.slice X2 kc.len cx2) kc bz ∧ w.heap.size + 1 ∉ bz from ⟨b3, (HTC.out.over HBS.out), fun hz => HNB.out (HSC.out _ hz)⟩)
            have HTZ := Lib.hid (((htz.keep_at (p := ⟨w.heap.size + 1, 0, none⟩) hap (.int .i64 oc)).keep_at (p := ⟨w.heap.size + 1, 1, none⟩) hap (.int .i64 mc)).keep_at (p := ⟨w.heap.size + 1, 2, none⟩) hap (.slice X2 kc.len cx2))
            clear hres5 hres3 htz hap
            go_wp2_with fail
            refine bodyPost_ret (v := .agg #[.int .i64 oc, .int .i64 mc, .slice X2 kc.len cx2]) ?_ rfl (by rw [HGE.out]; exact ⟨X2, cx2, bz, rfl, HTZ.out, HBZ.out, HIA.out.2⟩)
            simp [results, Tryd.f23, go_sem, r0, r1, r2]
          · have HGE := Lib.hid (show GP = ⟨ob, mb, kb⟩ from HG.out.trans (by rw [if_pos rfl, if_pos h0]))
            have bm : (ma != 0) = true := by simpa using h0
            have hres5 := HRR.out.below HBS.out HRR.out.size
            have c0 := hres5.cell (i := 0) rfl
            have c1 := hres5.cell (i := 1) rfl
            have c2 := hres5.cell (i := 2) rfl
            have f0 := hres5.free 0
            have f1 := hres5.free 1
            have f2 := hres5.free 2
            have hres3 := ((hres5.put 0 (.int .i64 ob)).put 1 (.int .i64 mb)).put 2 (.slice X' kb.len cx')
            have r0 := hres3.cell (i := 0) rfl
            have r1 := hres3.cell (i := 1) rfl
            have r2 := hres3.cell (i := 2) rfl
            have HBZ := Lib.hid ((((HB0.out.trans (HBS.out.mono HB0.out.size)).setCell (p := ⟨w.heap.size + 1, 0, none⟩) (by dsimp only; omega) (.int .i64 ob)).setCell (p := ⟨w.heap.size + 1, 1, none⟩) (by dsimp only; omega) (.int .i64 mb)).setCell (p := ⟨w.heap.size + 1, 2, none⟩) (by dsimp only; omega) (.slice X' kb.len cx'))
            obtain ⟨bz, htz, hap⟩ := (show ∃ bz, Tree _ base (.slice X' kb.len cx') kb bz ∧ w.heap.size + 1 ∉ bz from ⟨b2, (HTB.out.over HBS.out), fun hz => HNB.out (HSB.out _ hz)⟩)
            have HTZ := Lib.hid (((htz.keep_at (p := ⟨w.heap.size + 1, 0, none⟩) hap (.int .i64 ob)).keep_at (p := ⟨w.heap.size + 1, 1, none⟩) hap (.int .i64 mb)).keep_at (p := ⟨w.heap.size + 1, 2, none⟩) hap (.slice X' kb.len cx'))
            clear hres5 hres3 htz hap
            go_wp2_with fail
            refine bodyPost_ret (v := .agg #[.int .i64 ob, .int .i64 mb, .slice X' kb.len cx']) ?_ rfl (by rw [HGE.out]; exact ⟨X', cx', bz, rfl, HTZ.out, HBZ.out, HIA.out.1⟩)
            simp [results, Tryd.f23, go_sem, r0, r1, r2]
        · have HGE := Lib.hid (show GP = ⟨6, n, Fo.cons oa ma ka (Fo.cons ob mb kb (Fo.cons oc mc kc Fo.nil))⟩ from HG.out.trans (if_neg h1))
          have hn1 : nb = false := by rw [HN1.out]; simp [h1]
          subst hn1
          have hres5 := HRR.out.below HBS.out HRR.out.size
          have c0 := hres5.cell (i := 0) rfl
          have c1 := hres5.cell (i := 1) rfl
          have c2 := hres5.cell (i := 2) rfl
          have f0 := hres5.free 0
          have f1 := hres5.free 1
          have f2 := hres5.free 2
          have hres3 := ((hres5.put 0 (.int .i64 6)).put 1 (.int .i64 n)).put 2 (.slice (some ⟨g, 0, none⟩) 3 c)
          have r0 := hres3.cell (i := 0) rfl
          have r1 := hres3.cell (i := 1) rfl
          have r2 := hres3.cell (i := 2) rfl
          have HBZ := Lib.hid ((((HB0.out.trans (HBS.out.mono HB0.out.size)).setCell (p := ⟨w.heap.size + 1, 0, none⟩) (by dsimp only; omega) (.int .i64 6)).setCell (p := ⟨w.heap.size + 1, 1, none⟩) (by dsimp only; omega) (.int .i64 n)).setCell (p := ⟨w.heap.size + 1, 2, none⟩) (by dsimp only; omega) (.slice (some ⟨g, 0, none⟩) 3 c))
          obtain ⟨bz, htz, hap⟩ := (show ∃ bz, Tree _ base (.slice (some ⟨g, 0, none⟩) (Fo.cons oa ma ka (Fo.cons ob mb kb (Fo.cons oc mc kc Fo.nil))).len c) (Fo.cons oa ma ka (Fo.cons ob mb kb (Fo.cons oc mc kc Fo.nil))) bz ∧ w.heap.size + 1 ∉ bz from ⟨bs, (HT.out.over HBS.out), HNB.out⟩)
          have HTZ := Lib.hid (((htz.keep_at (p := ⟨w.heap.size + 1, 0, none⟩) hap (.int .i64 6)).keep_at (p := ⟨w.heap.size + 1, 1, none⟩) hap (.int .i64 n)).keep_at (p := ⟨w.heap.size + 1, 2, none⟩) hap (.slice (some ⟨g, 0, none⟩) 3 c))
          clear hres5 hres3 htz hap
          go_wp2_with fail
          refine bodyPost_ret (v := .agg #[.int .i64 6, .int .i64 n, .slice (some ⟨g, 0, none⟩) 3 c]) ?_ rfl (by rw [HGE.out]; exact ⟨(some ⟨g, 0, none⟩), c, bz, rfl, HTZ.out, HBZ.out, HI.out⟩)
          simp [results, Tryd.f23, go_sem, r0, r1, r2]
      · have b6 : (op == 6) = false := by simpa using h6
        by_cases h8 : op = 8
        · subst h8
          obtain ⟨oa, ma, ka, ob, mb, kb, ek, sta, stb, hss⟩ := two_kids HST.out (kids_two (HTT.out.kids HST.out.all.1) (.inr (.inr (.inr rfl))))
          dsimp only at ek
          subst ek
          obtain ⟨g, X, cx, X', cx', b1, b2, cs, hA, _, hg0, hrg, k0, k1, k2, k3, k4, k5, hta, htb, hia, hib, hsa, hsb⟩ := HT.out.two
          subst hA
          have HRG := Lib.hid hrg
          have HTB := Lib.hid htb
          have HIA := Lib.hid (And.intro hia hib)
          have HSB := Lib.hid hsb
          have HK9 := Lib.hid (And.intro k0 (And.intro k1 k2))
          have HK := Lib.hid (And.intro k3 (And.intro k4 k5))
          have z0 := hrg.cell k0
          have z1 := hrg.cell k1
          have z2 := hrg.cell k2
          have z3 := hrg.cell k3
          have z4 := hrg.cell k4
          have z5 := hrg.cell k5
          clear hrg hta htb hia hib sta stb k0 k1 k2 k3 k4 k5 hss hsa hsb
          have q2' : W.cell? ⟨w.heap.size, 2, none⟩ = some (.slice (some ⟨g, 0, none⟩) 2 c) := HRB.out.cell (i := 2) rfl
          clear q2
          have q2 := q2'
          clear q2'
          have HLL := HL.out
          simp only [Fo.len] at HLL
          subst HLL
          have HG := Lib.hid (show GP = if atomB oa ka = true then ⟨ob, mb, kb⟩ else ⟨8, n, Fo.cons oa ma ka (Fo.cons ob mb kb Fo.nil)⟩ from HGP.out.trans (gFold_seq rfl))
          obtain ⟨at0, hat⟩ : ∃ at0, at0 = atomB oa ka := ⟨_, rfl⟩
          rw [← hat] at HG
          have HATE := Lib.hid hat
          clear hat
          go_upto_region 5 with fail
          go_wp2_with fail
          go_quiet (fail)
          have HBS := Lib.hid (below_drewN (Below.refl W.heap.size W) nq)
          clear q0 q1 q2 z0 z1 z2 z3 z4 z5
          have q0 := (HRB.out.below HBS.out HRB.out.size).cell (i := 0) rfl
          have q1 := (HRB.out.below HBS.out HRB.out.size).cell (i := 1) rfl
          have q2 : (W.drewN nq).cell? ⟨w.heap.size, 2, none⟩ = some (.slice (some ⟨g, 0, none⟩) 2 c) := (HRB.out.below HBS.out HRB.out.size).cell (i := 2) rfl
          have z0 := (HRG.out.below HBS.out HRG.out.size).cell HK9.out.1
          have z1 := (HRG.out.below HBS.out HRG.out.size).cell HK9.out.2.1
          have z2 := (HRG.out.below HBS.out HRG.out.size).cell HK9.out.2.2
          have HAT := Lib.hid (specAtom_any oa ma ka X cx (W.drewN nq))
          rw [← HATE.out] at HAT
          obtain ⟨w4, hw4⟩ : ∃ w4, w4 = W.drewN nq := ⟨_, rfl⟩
          rw [← hw4] at q0 q1 q2 z0 z1 z2 HAT HBS ⊢
          clear hw4
          go_wp2_with fail
          refine HAT.out.mono ?_
          rintro e w5 ⟨rfl, hb5⟩
          have HB5 := Lib.hid (HBS.out.trans (hb5.mono HBS.out.size))
          clear hb5 HAT q0 q1 q2 z0 z1 z2
          have HRG5 := Lib.hid (HRG.out.below HB5.out HRG.out.size)
          have q0 := (HRB.out.below HB5.out HRB.out.size).cell (i := 0) rfl
          have q1 := (HRB.out.below HB5.out HRB.out.size).cell (i := 1) rfl
          have q2 : w5.cell? ⟨w.heap.size, 2, none⟩ = some (.slice (some ⟨g, 0, none⟩) 2 c) := (HRB.out.below HB5.out HRB.out.size).cell (i := 2) rfl
          have z3 := HRG5.out.cell HK.out.1
          have z4 := HRG5.out.cell HK.out.2.1
          have z5 := HRG5.out.cell HK.out.2.2
          cases at0 with
          | false =>
            have HGE := Lib.hid (show GP = ⟨8, n, Fo.cons oa ma ka (Fo.cons ob mb kb Fo.nil)⟩ from HG.out.trans (if_neg (by simp)))
            have hres5 := HRR.out.below HB5.out HRR.out.size
            have c0 := hres5.cell (i := 0) rfl
            have c1 := hres5.cell (i := 1) rfl
            have c2 := hres5.cell (i := 2) rfl
            have f0 := hres5.free 0
            have f1 := hres5.free 1
            have f2 := hres5.free 2
            have hres3 := ((hres5.put 0 (.int .i64 8)).put 1 (.int .i64 n)).put 2 (.slice (some ⟨g, 0, none⟩) 2 c)
            have r0 := hres3.cell (i := 0) rfl
            have r1 := hres3.cell (i := 1) rfl
            have r2 := hres3.cell (i := 2) rfl
            have HBZ := Lib.hid ((((HB0.out.trans (HB5.out.mono HB0.out.size)).setCell (p := ⟨w.heap.size + 1, 0, none⟩) (by dsimp only; omega) (.int .i64 8)).setCell (p := ⟨w.heap.size + 1, 1, none⟩) (by dsimp only; omega) (.int .i64 n)).setCell (p := ⟨w.heap.size + 1, 2, none⟩) (by dsimp only; omega) (.slice (some ⟨g, 0, none⟩) 2 c))
            obtain ⟨bz, htz, hap⟩ := (show ∃ bz, Tree _ base (.slice (some ⟨g, 0, none⟩) (Fo.cons oa ma ka (Fo.cons ob mb kb Fo.nil)).len c) (Fo.cons oa ma ka (Fo.cons ob mb kb Fo.nil)) bz ∧ w.heap.size + 1 ∉ bz from ⟨bs, (HT.out.over HB5.out), HNB.out⟩)
            have HTZ := Lib.hid (((htz.keep_at (p := ⟨w.heap.size + 1, 0, none⟩) hap (.int .i64 8)).keep_at (p := ⟨w.heap.size + 1, 1, none⟩) hap (.int .i64 n)).keep_at (p := ⟨w.heap.size + 1, 2, none⟩) hap (.slice (some ⟨g, 0, none⟩) 2 c))
            clear hres5 hres3 htz hap
            go_wp2_with fail
            refine bodyPost_ret (v := .agg #[.int .i64 8, .int .i64 n, .slice (some ⟨g, 0, none⟩) 2 c]) ?_ rfl (by rw [HGE.out]; exact ⟨(some ⟨g, 0, none⟩), c, bz, rfl, HTZ.out, HBZ.out, HI.out⟩)
            simp [results, Tryd.f23, go_sem, r0, r1, r2]
          | true =>
            have HGE := Lib.hid (show GP = ⟨ob, mb, kb⟩ from HG.out.trans (if_pos rfl))
            have hres5 := HRR.out.below HB5.out HRR.out.size
            have c0 := hres5.cell (i := 0) rfl
            have c1 := hres5.cell (i := 1) rfl
            have c2 := hres5.cell (i := 2) rfl
            have f0 := hres5.free 0
            have f1 := hres5.free 1
            have f2 := hres5.free 2
            have hres3 := ((hres5.put 0 (.int .i64 ob)).put 1 (.int .i64 mb)).put 2 (.slice X' kb.len cx')
            have r0 := hres3.cell (i := 0) rfl
            have r1 := hres3.cell (i := 1) rfl
            have r2 := hres3.cell (i := 2) rfl
            have HBZ := Lib.hid ((((HB0.out.trans (HB5.out.mono HB0.out.size)).setCell (p := ⟨w.heap.size + 1, 0, none⟩) (by dsimp only; omega) (.int .i64 ob)).setCell (p := ⟨w.heap.size + 1, 1, none⟩) (by dsimp only; omega) (.int .i64 mb)).setCell (p := ⟨w.heap.size + 1, 2, none⟩) (by dsimp only; omega) (.slice X' kb.len cx'))
            obtain ⟨bz, htz, hap⟩ := (show ∃ bz, Tree _ base (.slice X' kb.len cx') kb bz ∧ w.heap.size + 1 ∉ bz from ⟨b2, (HTB.out.over HB5.out), fun hz => HNB.out (HSB.out _ hz)⟩)
            have HTZ := Lib.hid (((htz.keep_at (p := ⟨w.heap.size + 1, 0, none⟩) hap (.int .i64 ob)).keep_at (p := ⟨w.heap.size + 1, 1, none⟩) hap (.int .i64 mb)).keep_at (p := ⟨w.heap.size + 1, 2, none⟩) hap (.slice X' kb.len cx'))
            clear hres5 hres3 htz hap
            go_wp2_with fail
            refine bodyPost_ret (v := .agg #[.int .i64 ob, .int .i64 mb, .slice X' kb.len cx']) ?_ rfl (by rw [HGE.out]; exact ⟨X', cx', bz, rfl, HTZ.out, HBZ.out, HIA.out.2⟩)
            simp [results, Tryd.f23, go_sem, r0, r1, r2]
        · have b8 : (op == 8) = false := by simpa using h8
          have HGE := Lib.hid (show GP = ⟨op, n, k⟩ from HGP.out.trans (gFold_other h4 h5 h6 h8))
          go_upto_region 5 with fail
          go_wp2_with fail
          go_quiet (fail)
          have HBS := Lib.hid (below_drewN (Below.refl W.heap.size W) nq)
          clear q0 q1 q2
          have q0 := (HRB.out.below HBS.out HRB.out.size).cell (i := 0) rfl
          have q1 := (HRB.out.below HBS.out HRB.out.size).cell (i := 1) rfl
          have q2 := (HRB.out.below HBS.out HRB.out.size).cell (i := 2) rfl
          have hres5 := HRR.out.below HBS.out HRR.out.size
          have c0 := hres5.cell (i := 0) rfl
          have c1 := hres5.cell (i := 1) rfl
          have c2 := hres5.cell (i := 2) rfl
          have f0 := hres5.free 0
          have f1 := hres5.free 1
          have f2 := hres5.free 2
          have hres3 := ((hres5.put 0 (.int .i64 op)).put 1 (.int .i64 n)).put 2 (.slice A k.len c)
          have r0 := hres3.cell (i := 0) rfl
          have r1 := hres3.cell (i := 1) rfl
          have r2 := hres3.cell (i := 2) rfl
          have HBZ := Lib.hid ((((HB0.out.trans (HBS.out.mono HB0.out.size)).setCell (p := ⟨w.heap.size + 1, 0, none⟩) (by dsimp only; omega) (.int .i64 op)).setCell (p := ⟨w.heap.size + 1, 1, none⟩) (by dsimp only; omega) (.int .i64 n)).setCell (p := ⟨w.heap.size + 1, 2, none⟩) (by dsimp only; omega) (.slice A k.len c))
          obtain ⟨bz, htz, hap⟩ := (show ∃ bz, Tree _ base (.slice A (k).len c) (k) bz ∧ w.heap.size + 1 ∉ bz from ⟨bs, (HT.out.over HBS.out), HNB.out⟩)
          have HTZ := Lib.hid (((htz.keep_at (p := ⟨w.heap.size + 1, 0, none⟩) hap (.int .i64 op)).keep_at (p := ⟨w.heap.size + 1, 1, none⟩) hap (.int .i64 n)).keep_at (p := ⟨w.heap.size + 1, 2, none⟩) hap (.slice A k.len c))
          clear hres5 hres3 htz hap
          go_wp2_with fail
          refine bodyPost_ret (v := .agg #[.int .i64 op, .int .i64 n, .slice A k.len c]) ?_ rfl (by rw [HGE.out]; exact ⟨A, c, bz, rfl, HTZ.out, HBZ.out, HI.out⟩)
          simp [results, Tryd.f23, go_sem, r0, r1, r2]

set_option maxHeartbeats 8000000 in
theorem specFold_any {T : Int → Int → Nat → Prop} (hT : LocalT T) (hF : ∀ (op n : Int) (l : Nat), T op n l → formT op n l) (hN : ∀ v : Int, 0 ≤ v → v ≤ 99 → T 1 v 0) (m : Nat) : ∀ (L : Nat) (op n : Int) (k : Fo) (A : Option Addr) (c : Nat) (w : World), k.size = m → St T L ⟨op, n, k⟩ → Lies w 0 w.heap.size A 0 k → I64 op ∧ I64 n →
    Calls Tryd.prog 13 #[.agg #[.int .i64 op, .int .i64 n, .slice A k.len c]] w (Turns (chgN gFold L ⟨op, n, k⟩) w.heap.size w) := by
  induction m using Nat.strongRecOn with
  | _ m ih =>
    intro L op n k A c w hm hst hl hi
    have hlen := Fo.len_le_size k
    obtain ⟨W, hW⟩ : ∃ W, W = ((w.alloc (Obj.cells #[.int .i64 op, .int .i64 n, .slice A k.len c] 28)).alloc (Obj.cells #[.int .i64 0, .int .i64 0, .slice none 0 0] 28)).alloc (Obj.cells #[.int .i64 op, .int .i64 n, .slice none 0 0] 28) := ⟨_, rfl⟩
    have hr0 := (Row.fresh w 28 #[.int .i64 op, .int .i64 n, .slice A k.len c]).alloc (Obj.cells #[.int .i64 0, .int .i64 0, .slice none 0 0] 28)
    have q0 := hr0.cell (i := 0) rfl
    have q1 := hr0.cell (i := 1) rfl
    have q2 := hr0.cell (i := 2) rfl
    have hr1 : Row W (w.heap.size + 1 + 1) 28 #[.int .i64 op, .int .i64 n, .slice none 0 0] := by
      rw [hW]
      have := Row.fresh ((w.alloc (Obj.cells #[.int .i64 op, .int .i64 n, .slice A k.len c] 28)).alloc (Obj.cells #[.int .i64 0, .int .i64 0, .slice none 0 0] 28)) 28 #[.int .i64 op, .int .i64 n, .slice none 0 0]
      simp only [World.size_alloc] at this
      exact this
    have hr2 : Row W (w.heap.size + 1) 28 #[.int .i64 0, .int .i64 0, .slice none 0 0] := by
      rw [hW]
      have := Row.fresh (w.alloc (Obj.cells #[.int .i64 op, .int .i64 n, .slice A k.len c] 28)) 28 #[.int .i64 0, .int .i64 0, .slice none 0 0]
      rw [World.size_alloc] at this
      exact this.alloc _
    have hbW : Below w.heap.size w W := by rw [hW]; exact (((Below.refl _ _).alloc (Nat.le_refl _) _).alloc (by simp) _).alloc (by simp; omega) _
    have HR1 := Lib.hid hr1
    have HR2 := Lib.hid hr2
    have HR0 := Lib.hid (show Row W w.heap.size 28 #[.int .i64 op, .int .i64 n, .slice A k.len c] by rw [hW]; exact hr0.alloc _)
    have HBW := Lib.hid hbW
    have HST0 := Lib.hid hst
    have HTT := Lib.hid hT
    have HFM := Lib.hid hF
    have HNN := Lib.hid hN
    have hks : k.size ≤ 1048576 := by have := hst.size; dsimp only at this; omega
    clear hr1 hr2 hbW
    go_enter Tryd.func13, Tryd.ntmps13
    go_wp2_with fail
    clear q0 q1 q2 hr0
    rw [← hW]
    clear hW
    go_loopw [4] (fun i wr => Round k (chgF gFold (L - 1)) op n (w.heap.size + 1 + 1 + 1) (w.heap.size + 1 + 1) w i wr ∧ Row wr (w.heap.size + 1) 28 #[.int .i64 0, .int .i64 0, .slice none 0 0] ∧ Row wr w.heap.size 28 #[.int .i64 op, .int .i64 n, .slice A k.len c])
      (fun i _ => k.len - (intOf i).toNat)
    case atStart => exact ⟨⟨0, .nil, none, 0, [], Nat.zero_le _, rfl, rfl, by rw [Fo.drop_zero]; rfl, HR1.out, Tree.none _ _, HBW.out⟩, HR2.out, HR0.out⟩
    case round =>
      clear HR1 HR2 HBW HR0
      obtain ⟨⟨j, pre, A1, c1', bs, hj, rfl, hpl, hpre, hrow, ht, hb⟩, hres, hre⟩ := hrel
      have hwz := hrow.size
      by_cases hlt : j < k.len
      · obtain ⟨o1, m1, k1, e1, e2, e3⟩ := Fo.drop_of_lt k j hlt
        have hj' := (hl.below hb).at_ j
        rw [Nat.zero_add, e1] at hj'
        obtain ⟨⟨b, o, A', c', hA, _, hbb, i1, i2, g1, g2, g3, h1, h2, h3⟩, _⟩ := hj'
        subst hA
        have hbb2 : b < wr.heap.size := Nat.lt_of_lt_of_le hbb hb.size
        have hzr : w.heap.size < wr.heap.size := hre.size
        have q2 : wr.drew.cell? ⟨w.heap.size, 2, none⟩ = some (.slice (some ⟨b, o, none⟩) k.len c) := hre.cell (i := 2) rfl
        have r2 : wr.cell? ⟨w.heap.size, 2, none⟩ = some (.slice (some ⟨b, o, none⟩) k.len c) := hre.cell (i := 2) rfl
        have q3 : wr.drew.cell? ⟨w.heap.size + 1 + 1, 2, none⟩ = some (.slice A1 pre.len c1') := hrow.cell (i := 2) rfl
        have hza : w.heap.size + 1 + 1 < wr.drew.heap.size := hrow.size
        have hla : Lies wr.drew 0 wr.drew.heap.size A' 0 k1 := (h3.below ((Below.refl wr.heap.size wr).drew.mono hb.size)).mono_ (Nat.le_refl _) hb.size
        have p1 : wr.drew.cell? ⟨b, o + j * 3, none⟩ = some (.int .i64 o1) := g1
        have p2 : wr.drew.cell? ⟨b, o + j * 3 + 1, none⟩ = some (.int .i64 m1) := g2
        have p3 : wr.drew.cell? ⟨b, o + j * 3 + 2, none⟩ = some (.slice A' k1.len c') := g3
        have hbd : Below w.heap.size w wr.drew := hb.drew
        obtain ⟨q, hq⟩ : ∃ q, q = chgN gFold (L - 1) ⟨o1, m1, k1⟩ := ⟨_, rfl⟩
        have hki := (st_rule (keeps_fold HTT.out (fun {op n l} h => HFM.out op n l h) HNN.out)).kid HST0.out j o1 m1 k1 _ e1
        have hc := ih k1.size (by omega) (L - 1) o1 m1 k1 A' c' wr.drew rfl hki hla ⟨i1, i2⟩
        rw [← hq] at hc
        have HC := Lib.hid hc
        have HQ := Lib.hid hq
        have HT := Lib.hid ht
        have HB := Lib.hid hb
        have HROW := Lib.hid hrow
        have HRES := Lib.hid hres
        have HRE := Lib.hid hre
        have HPRE := Lib.hid hpre
        have HPL := Lib.hid hpl
        have HWR := Lib.hid (show w.heap.size + 1 + 1 + 1 ≤ wr.heap.size from hwz)
        have hbox : ∀ g, (Value.slice A1 pre.len c1').ownBlock = some g → w.heap.size + 1 + 1 + 1 ≤ g ∧ g < wr.heap.size := fun g hg => by
          obtain ⟨st, b1, k1', k2', rfl, _⟩ := ht
          exact blk_lt k1' (by unfold blkV; rw [hg]; simp)
        have HBOX := Lib.hid hbox
        have HE := Lib.hid e1
        have hpl2 : pre.len ≤ 1048576 := by omega
        clear hrow ht hb hres hre hpre hla h3 hl ih i1 i2 e1 hpl hbox g1 g2 g3 hc hq hbd hst hki
        go_wp2_with fail
        go_region_law (first
            | (refine step_push rfl (.tmp 18) (.tmp 25) rfl (w.heap.size + 1 + 1 + 1) (.slice A1 pre.len c1') pre bs b5 q.op q.n q.k A5 c5 rfl rfl HT5.out HK5.out HI5.out HD5.out hpl2 HZ5.out ?_
               intro v6 w6 bs6 ht6 hg6 hin6
               obtain ⟨A6, c6, rfl, hc61, hc62⟩ := ht6.slice
               have hne : ∀ g, (g < w.heap.size + 1 + 1 + 1 ∨ wr.heap.size ≤ g) → some g ≠ (Value.slice A1 pre.len c1').ownBlock := fun g hg e => by have := HBOX.out g e.symm; omega
               have hr6 := row_grown HROW5.out hg6 (hne _ (.inl (Nat.lt_succ_self _)))
               have hre6 := row_grown HRE5.out hg6 (hne _ (.inl (by omega)))
               have u3 : w6.cell? ⟨w.heap.size + 1 + 1, 2, none⟩ = some (.slice A1 pre.len c1') := hr6.cell (i := 2) rfl
               have f3 := hr6.free 2
               have HR6 := Lib.hid hr6
               have HRES6 := Lib.hid (row_grown HRES5.out hg6 (hne _ (.inl (Nat.lt_succ_of_lt (Nat.lt_succ_self _)))))
               have HT6 := Lib.hid ht6
               have HB6 := Lib.hid (Below.grown HB5.out hg6 HB5.out.size (fun g' hg' => by have := HBOX.out g' hg'; omega))
               have HRE6 := Lib.hid hre6
               clear hr6 hre6 ht6 hg6 hin6 hne hc61 hc62)
            | (refine step_call (f := 13) rfl (by kernel_rfl) HC.out ?_
               rintro e w5 ⟨A5, c5, b5, rfl, ht5, hb5, hi5⟩
               refine ⟨_, rfl, ?_⟩
               have HI5 := Lib.hid hi5
               have y3 : w5.cell? ⟨w.heap.size + 1 + 1, 2, none⟩ = some (.slice A1 pre.len c1') := (hb5.cell (p := ⟨w.heap.size + 1 + 1, 2, none⟩) hza).trans q3
               have bz := (Below.refl w5.heap.size w5).alloc (Nat.le_refl _) (Obj.cells #[.int .i64 q.op, .int .i64 q.n, .slice A5 q.k.len c5] 28)
               have z3 : (w5.alloc (Obj.cells #[.int .i64 q.op, .int .i64 q.n, .slice A5 q.k.len c5] 28)).cell? ⟨w.heap.size + 1 + 1, 2, none⟩ = some (.slice A1 pre.len c1') := (bz.cell (p := ⟨w.heap.size + 1 + 1, 2, none⟩) (Nat.lt_of_lt_of_le hza hb5.size)).trans y3
               have HT5 := Lib.hid (HT.out.over (((Below.refl _ _).drew).trans hb5))
               have HK5 := Lib.hid (ht5.lower (base' := w.heap.size + 1 + 1 + 1) HWR.out)
               have HD5 := Lib.hid (show ∀ b, b ∈ bs → b ∈ b5 → False from fun q h1 h2 => by
                 have e1 := (HT.out.lt q h1).2
                 have e2 := (ht5.lt q h2).1
                 have e4 : wr.heap.size ≤ q := e2
                 omega)
               have HZ5 := Lib.hid (Nat.le_trans HWR.out hb5.size)
               have HROW5 := Lib.hid ((HROW.out.drew).below hb5 hza)
               have HRES5 := Lib.hid ((HRES.out.drew).below hb5 (Nat.lt_of_lt_of_le HRES.out.size (Nat.le_refl _)))
               have HRE5 := Lib.hid ((HRE.out.drew).below hb5 (Nat.lt_of_lt_of_le HRE.out.size (Nat.le_refl _)))
               have HB5 := Lib.hid (HB.out.trans (((Below.refl _ _).drew.trans hb5).mono HB.out.size))
               clear ht5 hb5 bz hi5))
        all_goals
          go_wp2_with fail
          go_roundw
          case rel =>
            have hr7 := HR6.out.put 2 (.slice A6 (pre.snoc q.op q.n q.k).len c6)
            have ht7 : Tree (w6.setCell ⟨w.heap.size + 1 + 1, 2, none⟩ (.slice A6 (pre.snoc q.op q.n q.k).len c6)) (w.heap.size + 1 + 1 + 1) (.slice A6 (pre.snoc q.op q.n q.k).len c6) (pre.snoc q.op q.n q.k) bs6 :=
              HT6.out.keep fun q hq => Below.heap_setCell w6 _ _ q (by have := (HT6.out.lt q hq).1; dsimp only; omega)
            refine ⟨⟨j + 1, pre.snoc q.op q.n q.k, A6, c6, bs6, hlt, by go_num, by rw [Fo.snoc_len, HPL.out], ?_, hr7, ht7, HB6.out.setCell (by dsimp only; omega) _⟩, HRES6.out.apart (by simp) _, HRE6.out.apart (by dsimp only; omega) _⟩
            have := HPRE.out
            rw [HE.out, chgF_cons, ← HQ.out] at this
            rw [Fo.snoc_app]
            exact this
          case measure => simp [intOf]; omega
      · have e9 : j = k.len := by omega
        rw [e9, Fo.drop_len] at hpre
        have hpk : pre = (chgF gFold (L - 1)) k := (Fo.app_nil pre).symm.trans hpre
        have hpl9 : pre.len = k.len := hpl.trans e9
        have hKF := keeps_fold HTT.out (fun {op n l} h => HFM.out op n l h) HNN.out
        have hq0 := (midN_st hKF HST0.out).1
        unfold midN at hq0
        dsimp only at hq0
        rw [← hpk] at hq0
        obtain ⟨GP, hGP⟩ : ∃ GP, GP = gFold L ⟨op, n, pre⟩ := ⟨_, rfl⟩
        have hGG : chgN gFold L ⟨op, n, k⟩ = GP := by rw [hGP, hpk]; rfl
        have hcs := step_any HTT.out HFM.out L op n pre A1 c1' (w.heap.size + 1 + 1 + 1) bs wr hq0 hi ht (Nat.le_of_lt_succ (Nat.lt_succ_of_le hwz))
        rw [← hGP] at hcs
        have HC := Lib.hid hcs
        have HRR := Lib.hid hres
        have HB0 := Lib.hid hb
        have HGG := Lib.hid hGG
        have q0 := hrow.cell (i := 0) rfl
        have q1 := hrow.cell (i := 1) rfl
        have q2 := hrow.cell (i := 2) rfl
        have HEX := Lib.hid (show wr.cell? ⟨w.heap.size, 2, none⟩ = some (.slice A k.len c) from hre.cell (i := 2) rfl)
        clear hrow ht hb hres hpre hpk hq0 hl ih hGP hGG hpl hpl9 hi hcs hKF
        have s2 := HEX.out
        go_upto_region 6 with fail
        clear s2 hlt e9 hj hre HEX
        go_wp2_with fail
        refine HC.out.mono ?_
        rintro e w5 ⟨A5, c5, b5, rfl, ht5, hb5, hi5⟩
        have HB5 := Lib.hid hb5
        have HT5 := Lib.hid ht5
        have HI5 := Lib.hid hi5
        clear ht5 hb5 hi5 HC q0 q1 q2
        have hres5 := HRR.out.below HB5.out HRR.out.size
        have c0 := hres5.cell (i := 0) rfl
        have c1 := hres5.cell (i := 1) rfl
        have c2 := hres5.cell (i := 2) rfl
        have f0 := hres5.free 0
        have f1 := hres5.free 1
        have f2 := hres5.free 2
        have hres3 := ((hres5.put 0 (.int .i64 GP.op)).put 1 (.int .i64 GP.n)).put 2 (.slice A5 GP.k.len c5)
        have r0 := hres3.cell (i := 0) rfl
        have r1 := hres3.cell (i := 1) rfl
        have r2 := hres3.cell (i := 2) rfl
        have HBZ := Lib.hid ((((HB0.out.trans (HB5.out.mono HB0.out.size)).setCell (p := ⟨w.heap.size + 1, 0, none⟩) (by dsimp only; omega) (.int .i64 GP.op)).setCell (p := ⟨w.heap.size + 1, 1, none⟩) (by dsimp only; omega) (.int .i64 GP.n)).setCell (p := ⟨w.heap.size + 1, 2, none⟩) (by dsimp only; omega) (.slice A5 GP.k.len c5))
        obtain ⟨bz, htz, hap⟩ := (show ∃ bz, Tree w5 w.heap.size (.slice A5 GP.k.len c5) GP.k bz ∧ w.heap.size + 1 ∉ bz from ⟨b5, HT5.out.lower (by omega), fun hz => by have := (HT5.out.lt _ hz).1; omega⟩)
        have HTZ := Lib.hid (((htz.keep_at (p := ⟨w.heap.size + 1, 0, none⟩) hap (.int .i64 GP.op)).keep_at (p := ⟨w.heap.size + 1, 1, none⟩) hap (.int .i64 GP.n)).keep_at (p := ⟨w.heap.size + 1, 2, none⟩) hap (.slice A5 GP.k.len c5))
        clear hres5 hres3 htz hap
        go_wp2_with fail
        refine bodyPost_ret (v := .agg #[.int .i64 GP.op, .int .i64 GP.n, .slice A5 GP.k.len c5]) ?_ rfl (by rw [HGG.out]; exact ⟨A5, c5, bz, rfl, HTZ.out, HBZ.out, HI5.out⟩)
        simp [results, Tryd.f13, go_sem, r0, r1, r2]
end Go.Proofs.YtemphmncdmbndaaDoor
