/-
  impl.renumbered at another node.
-/
import Derived.Test.YtkdjjkkcejijnaaRenA
namespace Go.Proofs.Ytkdjjkkcejijnaa
open Go.RowKit Go.Shelf
set_option maxRecDepth 100000

set_option maxHeartbeats 16000000 in
theorem ren_other (op n : Int) (k : Fo) (A : Option Addr) (c : Nat) (nu0 : Nat → Int) (nx0 : Nat) (w : World) (h2 : ¬ op = 2) (h7 : ¬ op = 7) (ih : ∀ y, y < k.size → ∀ (op n : Int) (k : Fo) (A : Option Addr) (c : Nat) (nu0 : Nat → Int) (nx0 : Nat) (w : World), k.size = y → Lies w 0 w.heap.size A 0 k → nx0 + k.size + 1 ≤ 4000 → I64 op ∧ I64 n → (∀ v, I64 (nu0 v)) → nameOk op n k.len = true → namesOkF k = true → RenC op n k A c nu0 nx0 w) (hl : Lies w 0 w.heap.size A 0 k) (hnx : nx0 + k.size + 1 ≤ 4000) (hi : I64 op ∧ I64 n) (hnu : ∀ v, I64 (nu0 v)) (hno : nameOk op n k.len = true) (hks : namesOkF k = true) : RenC op n k A c nu0 nx0 w := by
  unfold RenC
  have HO2 := Lib.hid h2
  clear h2
  have HO7 := Lib.hid h7
  clear h7
  have hlen := Fo.len_le_size k
  obtain ⟨rn, hrn⟩ : ∃ rn, rn = renM op n nu0 nx0 := ⟨_, rfl⟩
  have HRN := Lib.hid hrn
  have hirn : I64 rn := by
    rw [hrn]
    unfold renM
    split
    · exact hnu _
    · split
      · unfold I64; omega
      · exact hi.2
  obtain ⟨W0, hW0⟩ : ∃ W0, W0 = (((w.alloc (Obj.cells #[.int .i64 op, .int .i64 n, .slice A k.len c] 25)).alloc (Obj.cells (cellsI nu0) 90)).alloc (Obj.cells #[.int .i64 0, .int .i64 0, .slice none 0 0] 25)) := ⟨_, rfl⟩
  have hz0 : w.heap.size + 1 + 1 < W0.heap.size := by rw [hW0]; simp
  have hbW : Below w.heap.size w W0 := by rw [hW0]; exact (((Below.refl _ _).alloc (Nat.le_refl _) _).alloc (by simp) _).alloc (by simp; omega) _
  have re0 : Row W0 w.heap.size 25 #[.int .i64 op, .int .i64 n, .slice A k.len c] := by rw [hW0]; exact ((Row.fresh w _ _).alloc _).alloc _
  have rn0 : Row W0 (w.heap.size + 1) 90 (cellsI nu0) := by
    rw [hW0]
    have := Row.fresh (w.alloc (Obj.cells #[.int .i64 op, .int .i64 n, .slice A k.len c] 25)) 90 (cellsI nu0)
    rw [World.size_alloc] at this
    exact this.alloc _
  have rr0 : Row W0 (w.heap.size + 1 + 1) 25 #[.int .i64 0, .int .i64 0, .slice none 0 0] := by
    rw [hW0]
    have := Row.fresh ((w.alloc (Obj.cells #[.int .i64 op, .int .i64 n, .slice A k.len c] 25)).alloc (Obj.cells (cellsI nu0) 90)) 25 #[.int .i64 0, .int .i64 0, .slice none 0 0]
    simp only [World.size_alloc] at this
    exact this
  have e0 : W0.cell? ⟨w.heap.size, 0, none⟩ = some (.int .i64 op) := re0.cell (i := 0) rfl
  have e1 : W0.cell? ⟨w.heap.size, 1, none⟩ = some (.int .i64 n) := re0.cell (i := 1) rfl
  have e2 : W0.cell? ⟨w.heap.size, 2, none⟩ = some (.slice A k.len c) := re0.cell (i := 2) rfl
  have HRE := Lib.hid re0
  have HRU := Lib.hid rn0
  have HRR := Lib.hid rr0
  have HBW := Lib.hid hbW
  unfold cellsI at hW0
  clear re0 rn0 rr0 hbW
  go_enter Try.func58, Try.ntmps58
  go_upto_region 1 with fail
  rw [← hW0]
  clear hW0
  have a0 : (W0.alloc (Obj.cells #[.int .i64 op, .int .i64 n, .slice none 0 0] 25)).cell? ⟨w.heap.size, 0, none⟩ = some (.int .i64 op) := (HRE.out.alloc _).cell (i := 0) rfl
  have a1 : (W0.alloc (Obj.cells #[.int .i64 op, .int .i64 n, .slice none 0 0] 25)).cell? ⟨w.heap.size, 1, none⟩ = some (.int .i64 n) := (HRE.out.alloc _).cell (i := 1) rfl
  have a2 : (W0.alloc (Obj.cells #[.int .i64 op, .int .i64 n, .slice none 0 0] 25)).cell? ⟨w.heap.size, 2, none⟩ = some (.slice A k.len c) := (HRE.out.alloc _).cell (i := 2) rfl
  have re1 := HRE.out.alloc (Obj.cells #[.int .i64 op, .int .i64 rn, .slice none 0 0] 25)
  have HS := Lib.hid (show RenRel op n nu0 nx0 rn k A c W0.heap.size w (.int .i64 (nx0 : Int)) (.int .i64 0) (W0.alloc (Obj.cells #[.int .i64 op, .int .i64 rn, .slice none 0 0] 25)) from
    ren_start hnu hnx hks re1 (HRU.out.alloc _) (HRR.out.alloc _) (Row.fresh W0 25 #[.int .i64 op, .int .i64 rn, .slice none 0 0]) (HBW.out.alloc HBW.out.size _))
  have b2 : (W0.alloc (Obj.cells #[.int .i64 op, .int .i64 rn, .slice none 0 0] 25)).cell? ⟨w.heap.size, 2, none⟩ = some (.slice A k.len c) := re1.cell (i := 2) rfl
  clear re1
  have h2 := HO2.out
  have h7 := HO7.out
  have hrn2 : rn = n := by rw [hrn]; simp [renM, h2, h7]
  have hW : (W0.alloc (Obj.cells #[.int .i64 op, .int .i64 rn, .slice none 0 0] 25)) = (W0.alloc (Obj.cells #[.int .i64 op, .int .i64 n, .slice none 0 0] 25)) := by rw [hrn2]
  rw [hW] at HS b2
  have h22 : (op == 2) = false := by simpa using h2
  have h77 : (op == 7) = false := by simpa using h7
  have HN7 := Lib.hid h7
  clear hrn hrn2 hW h2 h7
  go_wp2_with fail
  clear b2 a0 a1 a2 e0 e1 e2 h22 h77
  generalize W0.alloc (Obj.cells #[.int .i64 op, .int .i64 n, .slice none 0 0] 25) = W1 at *
  clear HRE HRU HRR HBW
  generalize hgB : W0.heap.size = cB at *
  have HGB := Lib.hid (show w.heap.size + 1 + 1 < cB from hz0)
  clear hgB
  go_loopw [2, 31] (fun nxv i wr => RenRel op n nu0 nx0 rn k A c cB w nxv i wr)
    (fun _ i _ => k.len - (intOf i).toNat)
  case atStart => exact HS.out
  case round =>
    clear HS
    obtain ⟨j, pre, nu, nx, A1, c1', bs, hj, rfl, rfl, hpl, hpre, hnuj, hnxj, hksj, hre, hru, hrr, hrc, ht, hb⟩ := hrel
    have hwz := hrc.size
    by_cases hlt : j < k.len
    rotate_left
    · have e9 : j = k.len := by omega
      rw [e9, Fo.drop_len] at hpre
      have hpk : pre = renF op n 0 nu0 nx0 k := (Fo.app_nil pre).symm.trans hpre
      have c0 := hrr.cell (i := 0) rfl
      have c1 := hrr.cell (i := 1) rfl
      have c2 := hrr.cell (i := 2) rfl
      have q0 := hrc.cell (i := 0) rfl
      have q1 := hrc.cell (i := 1) rfl
      have q2 := hrc.cell (i := 2) rfl
      have f0 := hrr.free 0
      have f1 := hrr.free 1
      have f2 := hrr.free 2
      have hgz := HGB.out
      have hres3 := ((hrr.put 0 (.int .i64 op)).put 1 (.int .i64 rn)).put 2 (.slice A1 pre.len c1')
      obtain ⟨l9, hl9⟩ : ∃ l9, l9 = pre.len := ⟨_, rfl⟩
      rw [← hl9] at hres3 q2 hrc ht
      have r0 : (((wr.setCell ⟨w.heap.size + 1 + 1, 0, none⟩ (.int .i64 op)).setCell ⟨w.heap.size + 1 + 1, 1, none⟩ (.int .i64 rn)).setCell ⟨w.heap.size + 1 + 1, 2, none⟩ (.slice A1 l9 c1')).cell? ⟨w.heap.size + 1 + 1, 0, none⟩ = some (.int .i64 op) := hres3.cell (i := 0) rfl
      have r1 : (((wr.setCell ⟨w.heap.size + 1 + 1, 0, none⟩ (.int .i64 op)).setCell ⟨w.heap.size + 1 + 1, 1, none⟩ (.int .i64 rn)).setCell ⟨w.heap.size + 1 + 1, 2, none⟩ (.slice A1 l9 c1')).cell? ⟨w.heap.size + 1 + 1, 1, none⟩ = some (.int .i64 rn) := hres3.cell (i := 1) rfl
      have r2 : (((wr.setCell ⟨w.heap.size + 1 + 1, 0, none⟩ (.int .i64 op)).setCell ⟨w.heap.size + 1 + 1, 1, none⟩ (.int .i64 rn)).setCell ⟨w.heap.size + 1 + 1, 2, none⟩ (.slice A1 l9 c1')).cell? ⟨w.heap.size + 1 + 1, 2, none⟩ = some (.slice A1 l9 c1') := hres3.cell (i := 2) rfl
      have hle : ∀ i, w.heap.size ≤ (⟨w.heap.size + 1 + 1, i, none⟩ : Addr).block := fun i => by dsimp only; omega
      have HB := Lib.hid (((hb.setCell (hle 0) (.int .i64 op)).setCell (hle 1) (.int .i64 rn)).setCell (hle 2) (.slice A1 l9 c1'))
      have HT := Lib.hid (ht.keep (w' := ((wr.setCell ⟨w.heap.size + 1 + 1, 0, none⟩ (.int .i64 op)).setCell ⟨w.heap.size + 1 + 1, 1, none⟩ (.int .i64 rn)).setCell ⟨w.heap.size + 1 + 1, 2, none⟩ (.slice A1 l9 c1')) fun q hq => by
        have := (ht.lt q hq).1
        exact (Below.heap_setCell _ _ _ q (by dsimp only; omega)).trans ((Below.heap_setCell _ _ _ q (by dsimp only; omega)).trans (Below.heap_setCell _ _ _ q (by dsimp only; omega))))
      have HL9 := Lib.hid hl9
      have HPK := Lib.hid hpk
      clear ht hb hrr hrc hre hru hpl hres3 hle hl9 hpk hpre
      go_wp2_with fail
      refine bodyPost_ret (v := .agg #[.int .i64 op, .int .i64 rn, .slice A1 l9 c1']) ?_ rfl ⟨A1, c1', bs, ?_, ?_, HB.out⟩
      · simp [results, Try.f58, go_sem, r0, r1, r2]
      · rw [HL9.out, HPK.out, HRN.out]
      · have h1 := HT.out
        have e8 : l9 = (renF op n 0 nu0 (nx0 : Int) k).len := by rw [HL9.out, HPK.out]
        rw [HPK.out] at h1
        rw [← e8]
        exact Tree.lower (base' := w.heap.size) h1 (by have := HGB.out; omega)
    · obtain ⟨o1, m1, k1, e1, e2, e3⟩ := Fo.drop_of_lt k j hlt
      have hj' := (hl.below hb).at_ j
      rw [Nat.zero_add, e1] at hj'
      obtain ⟨⟨b, o, A', c', hA, _, hbb, i1, i2, g1, g2, g3, h1, h2, h3⟩, _⟩ := hj'
      have hbb2 : b < wr.heap.size := Nat.lt_of_lt_of_le hbb hb.size
      subst hA
      obtain ⟨wa, hwa⟩ : ∃ wa, wa = wr.alloc (Obj.cells #[.int .i64 o1, .int .i64 m1, .slice A' k1.len c'] 25) := ⟨_, rfl⟩
      have hba : Below wr.heap.size wr wa := by rw [hwa]; exact (Below.refl _ _).alloc (Nat.le_refl _) _
      have hra : Row wa wr.heap.size 25 #[.int .i64 o1, .int .i64 m1, .slice A' k1.len c'] := by rw [hwa]; exact Row.fresh _ _ _
      have hrea := hre.below hba hre.size
      have q0 : wa.cell? ⟨w.heap.size, 0, none⟩ = some (.int .i64 op) := hrea.cell (i := 0) rfl
      have q1 : wa.cell? ⟨w.heap.size, 1, none⟩ = some (.int .i64 n) := hrea.cell (i := 1) rfl
      have q2 : wa.cell? ⟨w.heap.size, 2, none⟩ = some (.slice (some ⟨b, o, none⟩) k.len c) := hrea.cell (i := 2) rfl
      have HRA0 := Lib.hid hra
      have HRE0 := Lib.hid hrea
      have HRU0 := Lib.hid (hru.below hba hru.size)
      have HRR0 := Lib.hid (hrr.below hba hrr.size)
      have HRC0 := Lib.hid (hrc.below hba hrc.size)
      have HT0 := Lib.hid (ht.over hba)
      have HB0 := Lib.hid (hba.mono hb.size)
      have HB1 := Lib.hid hb
      have HZ0 := Lib.hid hra.size
      have HTL := Lib.hid (fun q hq => (ht.lt q hq).2)
      have HPL := Lib.hid hpl
      have HPRE := Lib.hid hpre
      have HE := Lib.hid e1
      have HK := Lib.hid (namesOkF_cons e1 hksj)
      have HNJ := Lib.hid hnuj
      have HL3 := Lib.hid h3
      have hnx3 : nx + k1.size + (k.drop (j + 1)).size + 2 ≤ 4000 := by omega
      have hj1 : j < 4000 := by omega
      clear hra hrea hru hrr hrc ht hba hb hpl hpre e1 hksj hnuj hl h3 hre e3 hnxj
      go_upto_region 10 with fail
      rw [← hwa]
      clear hwa g1 g2 g3
      go_wp2_with fail
      refine (bindsIn_any op n (.slice (some ⟨b, o, none⟩) k.len c) (j : Int) wa).mono ?_
      rintro e w2 ⟨rfl, hb2⟩
      have hzw := HZ0.out
      have HRA1 := Lib.hid (HRA0.out.below hb2 HRA0.out.size)
      have HRE1 := Lib.hid (HRE0.out.below hb2 HRE0.out.size)
      have HRU1 := Lib.hid (HRU0.out.below hb2 HRU0.out.size)
      have HRR1 := Lib.hid (HRR0.out.below hb2 HRR0.out.size)
      have HRC1 := Lib.hid (HRC0.out.below hb2 HRC0.out.size)
      have HT1 := Lib.hid (HT0.out.over hb2)
      have HB2 := Lib.hid (HB0.out.trans (hb2.mono (Nat.le_trans HB1.out.size (Nat.le_of_lt hzw))))
      have HZ2 := Lib.hid (Nat.lt_of_lt_of_le hzw hb2.size)
      clear hb2 HRA0 HRE0 HRU0 HRR0 HRC0 HT0 HB0 q0 q1 q2 hzw HZ0
      have hbd : binds op (j : Int) = false := by have h9 := HN7.out; simp [binds, h9]
      rw [hbd]
      have hpre2 := HPRE.out
      rw [renF_free HE.out hbd] at hpre2
      obtain ⟨wb, hwb⟩ : ∃ wb, wb = w2 := ⟨_, rfl⟩
      rw [← hwb] at HRA1 HRE1 HRU1 HRR1 HRC1 HT1 HB2 HZ2
      obtain ⟨nx2, hnx2⟩ : ∃ nx2 : Nat, nx2 = nx := ⟨_, rfl⟩
      obtain ⟨nu2, hnu2⟩ : ∃ nu2, nu2 = nu := ⟨_, rfl⟩
      have hnx4 : nx2 + k1.size + (k.drop (j + 1)).size + 1 ≤ 4000 := by omega
      rw [← hnx2, ← hnu2] at hpre2
      rw [← hnu2] at HRU1 HNJ
      have HRA := HRA1
      have HRE := HRE1
      have HRU := HRU1
      have HRR := HRR1
      have HRC := HRC1
      have HT := HT1
      have HBW := HB2
      have HZ := HZ2
      have HP2 := Lib.hid hpre2
      have HN2 := HNJ
      clear hpre2 hbd HRA1 HRE1 HRU1 HRR1 HRC1 HT1 HB2 HZ2
      go_upto_region 13 with fail
      rw [← hwb, ← hnx2]
      clear hwb hnx2 hnu2 hnx3
      have HXX := Lib.hid hnx4
      all_goals
        have hzb : wr.heap.size < wb.drew.heap.size := HZ.out
        have hzc : cB < wb.drew.heap.size := HRC.out.size
        have q0 : wb.drew.cell? ⟨wr.heap.size, 0, none⟩ = some (.int .i64 o1) := HRA.out.cell (i := 0) rfl
        have q1 : wb.drew.cell? ⟨wr.heap.size, 1, none⟩ = some (.int .i64 m1) := HRA.out.cell (i := 1) rfl
        have q2 : wb.drew.cell? ⟨wr.heap.size, 2, none⟩ = some (.slice A' k1.len c') := HRA.out.cell (i := 2) rfl
        have q3 : wb.drew.cell? ⟨cB, 2, none⟩ = some (.slice A1 pre.len c1') := HRC.out.cell (i := 2) rfl
        have p0 : wb.drew.cell? ⟨w.heap.size + 1, 0, none⟩ = some (.int .i64 (nu2 0)) := HRU.out.cell (i := 0) rfl
        have p1 : wb.drew.cell? ⟨w.heap.size + 1, 1, none⟩ = some (.int .i64 (nu2 1)) := HRU.out.cell (i := 1) rfl
        have p2 : wb.drew.cell? ⟨w.heap.size + 1, 2, none⟩ = some (.int .i64 (nu2 2)) := HRU.out.cell (i := 2) rfl
        have p3 : wb.drew.cell? ⟨w.heap.size + 1, 3, none⟩ = some (.int .i64 (nu2 3)) := HRU.out.cell (i := 3) rfl
        have p4 : wb.drew.cell? ⟨w.heap.size + 1, 4, none⟩ = some (.int .i64 (nu2 4)) := HRU.out.cell (i := 4) rfl
        have p5 : wb.drew.cell? ⟨w.heap.size + 1, 5, none⟩ = some (.int .i64 (nu2 5)) := HRU.out.cell (i := 5) rfl
        have p6 : wb.drew.cell? ⟨w.heap.size + 1, 6, none⟩ = some (.int .i64 (nu2 6)) := HRU.out.cell (i := 6) rfl
        have p7 : wb.drew.cell? ⟨w.heap.size + 1, 7, none⟩ = some (.int .i64 (nu2 7)) := HRU.out.cell (i := 7) rfl
        have hlb : Lies wb.drew 0 wb.drew.heap.size A' 0 k1 := (HL3.out.below HBW.out.drew).mono_ (Nat.le_refl _) (Nat.le_trans HB1.out.size HBW.out.size)
        have HC := Lib.hid (show RenC o1 m1 k1 A' c' nu2 nx2 wb.drew from ih k1.size (by omega) o1 m1 k1 A' c' nu2 nx2 wb.drew rfl hlb (by omega) ⟨i1, i2⟩ HN2.out HK.out.1.1 HK.out.1.2)
        have hI : I64 o1 ∧ I64 (renM o1 m1 nu2 nx2) := by
          refine ⟨i1, ?_⟩
          unfold renM
          split
          · exact HN2.out _
          · split
            · unfold I64; omega
            · exact i2
        have HI := Lib.hid hI
        have hbox : ∀ g, (Value.slice A1 pre.len c1').ownBlock = some g → cB + 1 ≤ g ∧ g < wr.heap.size := fun g hg => by
          obtain ⟨st, b1, k1', k2', rfl, _⟩ := HT.out
          have hm : g ∈ blkV (Value.slice A1 pre.len c1') := by unfold blkV; rw [hg]; simp
          exact ⟨(blk_lt k1' hm).1, HTL.out g (List.mem_append_left _ hm)⟩
        have HBOX := Lib.hid hbox
        have hpl2 : pre.len ≤ 1048576 := by have := HPL.out; omega
        clear hlb hI hbox ih
        go_region_law (first
          | (refine step_push rfl (.tmp 46) (.tmp 51) rfl (cB + 1) (.slice A1 pre.len c1') pre bs b5 o1 (renM o1 m1 nu2 nx2) (renF o1 m1 0 nu2 nx2 k1) A5 c5 rfl rfl HT5.out HK5.out HI.out HD5.out hpl2 HZ5.out ?_
             intro v6 w6 bs6 ht6 hg6 hin6
             obtain ⟨A6, c6, rfl, hc61, hc62⟩ := ht6.slice
             have hne : ∀ g, (g < cB + 1 ∨ wr.heap.size ≤ g) → some g ≠ (Value.slice A1 pre.len c1').ownBlock := fun g hg e => by have := HBOX.out g e.symm; omega
             have hr6 := row_grown HRC5.out hg6 (hne _ (.inl (Nat.lt_succ_self _)))
             have u3 : w6.cell? ⟨cB, 2, none⟩ = some (.slice A1 pre.len c1') := hr6.cell (i := 2) rfl
             have f3 := hr6.free 2
             have HRC6 := Lib.hid hr6
             have HRE6 := Lib.hid (row_grown HRE5.out hg6 (hne _ (.inl (by omega))))
             have HRU6 := Lib.hid (row_grown HRU5.out hg6 (hne _ (.inl (by omega))))
             have HRR6 := Lib.hid (row_grown HRR5.out hg6 (hne _ (.inl (by omega))))
             have HT6 := Lib.hid ht6
             have HB6 := Lib.hid (Below.grown HB5.out hg6 HB5.out.size (fun g' hg' => by have := HBOX.out g' hg'; omega))
             clear hr6 ht6 hg6 hin6 hne hc61 hc62)
          | (refine step_call (f := 58) rfl (by kernel_rfl) (show Calls Try.prog 58 _ wb.drew _ from HC.out) ?_
             rintro e w5 ⟨A5, c5, b5, rfl, ht5, hb5⟩
             refine ⟨_, rfl, ?_⟩
             have y3 : w5.cell? ⟨cB, 2, none⟩ = some (.slice A1 pre.len c1') := (hb5.cell (p := ⟨cB, 2, none⟩) hzc).trans q3
             have bz := (Below.refl w5.heap.size w5).alloc (Nat.le_refl _) (Obj.cells #[.int .i64 o1, .int .i64 (renM o1 m1 nu2 nx2), .slice A5 (renF o1 m1 0 nu2 nx2 k1).len c5] 25)
             have z3 : (w5.alloc (Obj.cells #[.int .i64 o1, .int .i64 (renM o1 m1 nu2 nx2), .slice A5 (renF o1 m1 0 nu2 nx2 k1).len c5] 25)).cell? ⟨cB, 2, none⟩ = some (.slice A1 pre.len c1') := (bz.cell (p := ⟨cB, 2, none⟩) (Nat.lt_of_lt_of_le hzc hb5.size)).trans y3
             have HT5 := Lib.hid (HT.out.over (hb5.mono (Nat.le_refl _) |> fun _ => (Below.refl wb.heap.size wb).drew.trans hb5))
             have HK5 := Lib.hid (ht5.lower (base' := cB + 1) hzc)
             have HD5 := Lib.hid (show ∀ b, b ∈ bs → b ∈ b5 → False from fun q h1 h2 => by
               have e1 := HTL.out q h1
               have e2 := (ht5.lt q h2).1
               have e4 : wb.heap.size ≤ q := e2
               have e5 := HZ.out
               omega)
             have HZ5 := Lib.hid (Nat.le_trans hzc hb5.size)
             have HRC5 := Lib.hid ((HRC.out.drew).below hb5 hzc)
             have HRE5 := Lib.hid ((HRE.out.drew).below hb5 HRE.out.size)
             have HRU5 := Lib.hid ((HRU.out.drew).below hb5 HRU.out.size)
             have HRR5 := Lib.hid ((HRR.out.drew).below hb5 HRR.out.size)
             have HB5 := Lib.hid ((HB1.out.trans HBW.out).trans (((Below.refl wb.heap.size wb).drew.trans hb5).mono (Nat.le_trans HB1.out.size (HBW.out.size))))
             clear ht5 hb5 bz))
        all_goals
          go_wp2_with fail
          go_roundw
          case rel =>
            have hr7 := HRC6.out.put 2 (.slice A6 (pre.snoc o1 (renM o1 m1 nu2 nx2) (renF o1 m1 0 nu2 nx2 k1)).len c6)
            have ht7 : Tree (w6.setCell ⟨cB, 2, none⟩ (.slice A6 (pre.snoc o1 (renM o1 m1 nu2 nx2) (renF o1 m1 0 nu2 nx2 k1)).len c6)) (cB + 1) (.slice A6 (pre.snoc o1 (renM o1 m1 nu2 nx2) (renF o1 m1 0 nu2 nx2 k1)).len c6) (pre.snoc o1 (renM o1 m1 nu2 nx2) (renF o1 m1 0 nu2 nx2 k1)) bs6 :=
              HT6.out.keep fun q hq => Below.heap_setCell w6 _ _ q (by have := (HT6.out.lt q hq).1; dsimp only; omega)
            have hz9 := HGB.out
            refine ⟨j + 1, _, nu2, nx2, A6, c6, bs6, hlt, by go_num, rfl, by rw [Fo.snoc_len, HPL.out], ?_, HN2.out, by have := HXX.out; omega, HK.out.2, HRE6.out.apart (by dsimp only; omega) _, HRU6.out.apart (by dsimp only; omega) _, HRR6.out.apart (by dsimp only; omega) _, hr7, ht7, HB6.out.setCell (by dsimp only; omega) _⟩
            rw [Fo.snoc_app]
            exact HP2.out
          case measure => simp [intOf]; omega
end Go.Proofs.Ytkdjjkkcejijnaa
