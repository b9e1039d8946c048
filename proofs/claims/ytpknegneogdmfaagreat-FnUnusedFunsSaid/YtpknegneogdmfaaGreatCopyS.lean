/-
  spec.l1Copy.
-/
import Derived.Test.YtpknegneogdmfaaGreatTree
import Derived.Test.YtpknegneogdmfaaGreatFresh
namespace Go.Proofs.YtpknegneogdmfaaGreat
open Go.RowKit Go.Shelf
set_option maxRecDepth 100000

set_option maxHeartbeats 4000000 in
theorem l1Copy_any (m : Nat) : ∀ (op n : Int) (k : Fo) (A : Option Addr) (c : Nat) (w : World), k.size = m → Lies w 0 w.heap.size A 0 k → k.size ≤ 1048576 → I64 op ∧ I64 n →
    Calls Tryz.prog 49 #[.agg #[.int .i64 op, .int .i64 n, .slice A k.len c]] w (Makes op n k w) := by
  induction m using Nat.strongRecOn with
  | _ m ih =>
    intro op n k A c w hm hl hsz hi
    have hlen := Fo.len_le_size k
    obtain ⟨W, hW⟩ : ∃ W, W = ((w.alloc (Obj.cells #[.int .i64 op, .int .i64 n, .slice A k.len c] 36)).alloc (Obj.cells #[.int .i64 0, .int .i64 0, .slice none 0 0] 36)).alloc (Obj.cells #[.int .i64 op, .int .i64 n, .slice none 0 0] 36) := ⟨_, rfl⟩
    have hr0 := (Row.fresh w 36 #[.int .i64 op, .int .i64 n, .slice A k.len c]).alloc (Obj.cells #[.int .i64 0, .int .i64 0, .slice none 0 0] 36)
    have q0 := hr0.cell (i := 0) rfl
    have q1 := hr0.cell (i := 1) rfl
    have q2 := hr0.cell (i := 2) rfl
    have hr1 : Row W (w.heap.size + 1 + 1) 36 #[.int .i64 op, .int .i64 n, .slice none 0 0] := by
      rw [hW]
      have := Row.fresh ((w.alloc (Obj.cells #[.int .i64 op, .int .i64 n, .slice A k.len c] 36)).alloc (Obj.cells #[.int .i64 0, .int .i64 0, .slice none 0 0] 36)) 36 #[.int .i64 op, .int .i64 n, .slice none 0 0]
      simp only [World.size_alloc] at this
      exact this
    have hr2 : Row W (w.heap.size + 1) 36 #[.int .i64 0, .int .i64 0, .slice none 0 0] := by
      rw [hW]
      have := Row.fresh (w.alloc (Obj.cells #[.int .i64 op, .int .i64 n, .slice A k.len c] 36)) 36 #[.int .i64 0, .int .i64 0, .slice none 0 0]
      rw [World.size_alloc] at this
      exact this.alloc _
    have hbW : Below w.heap.size w W := by rw [hW]; exact (((Below.refl _ _).alloc (Nat.le_refl _) _).alloc (by simp) _).alloc (by simp; omega) _
    have HR1 := Lib.hid hr1
    have HR2 := Lib.hid hr2
    have HR0 := Lib.hid (show Row W w.heap.size 36 #[.int .i64 op, .int .i64 n, .slice A k.len c] by rw [hW]; exact hr0.alloc _)
    have HBW := Lib.hid hbW
    clear hr1 hr2 hbW
    go_enter Tryz.func49, Tryz.ntmps49
    go_wp2_with fail
    clear q0 q1 q2 hr0
    rw [← hW]
    clear hW
    go_loopw [4] (fun i wr => Round k (fun f => f) op n (w.heap.size + 1 + 1 + 1) (w.heap.size + 1 + 1) w i wr ∧ Row wr (w.heap.size + 1) 36 #[.int .i64 0, .int .i64 0, .slice none 0 0] ∧ Row wr w.heap.size 36 #[.int .i64 op, .int .i64 n, .slice A k.len c])
      (fun i _ => k.len - (intOf i).toNat)
    case atStart => exact ⟨⟨0, .nil, none, 0, [], Nat.zero_le _, rfl, rfl, by rw [Fo.drop_zero]; rfl, HR1.out, Tree.none _ _, HBW.out⟩, HR2.out, HR0.out⟩
    case round =>
      clear HR1 HR2 HBW HR0
      obtain ⟨⟨j, pre, A1, c1', bs, hj, rfl, hpl, hpre, hrow, ht, hb⟩, hres, hre⟩ := hrel
      have hwz := hrow.size
      by_cases hlt : j < k.len
      · obtain ⟨o1, m1, k1, e1, e2, e3⟩ := Fo.drop_of_lt k j hlt
        have hj' := (hl.below hb).at_ j
        rw [Nat.zero_add, e1] at hj'
        obtain ⟨⟨b, o, A', c', hA, _, hbb, i1, i2, g1, g2, g3, h1, h2, h3⟩, _⟩ := hj'
        subst hA
        have hbb2 : b < wr.heap.size := Nat.lt_of_lt_of_le hbb hb.size
        have hzr : w.heap.size < wr.heap.size := hre.size
        have q2 : wr.drew.cell? ⟨w.heap.size, 2, none⟩ = some (.slice (some ⟨b, o, none⟩) k.len c) := hre.cell (i := 2) rfl
        have r2 : wr.cell? ⟨w.heap.size, 2, none⟩ = some (.slice (some ⟨b, o, none⟩) k.len c) := hre.cell (i := 2) rfl
        have q3 : wr.drew.cell? ⟨w.heap.size + 1 + 1, 2, none⟩ = some (.slice A1 pre.len c1') := hrow.cell (i := 2) rfl
        have hza : w.heap.size + 1 + 1 < wr.drew.heap.size := hrow.size
        have hla : Lies wr.drew 0 wr.drew.heap.size A' 0 k1 := (h3.below ((Below.refl wr.heap.size wr).drew.mono hb.size)).mono_ (Nat.le_refl _) hb.size
        have p1 : wr.drew.cell? ⟨b, o + j * 3, none⟩ = some (.int .i64 o1) := g1
        have p2 : wr.drew.cell? ⟨b, o + j * 3 + 1, none⟩ = some (.int .i64 m1) := g2
        have p3 : wr.drew.cell? ⟨b, o + j * 3 + 2, none⟩ = some (.slice A' k1.len c') := g3
        have HC := Lib.hid (ih k1.size (by omega) o1 m1 k1 A' c' wr.drew rfl hla (by omega) ⟨i1, i2⟩)
        have HT := Lib.hid ht
        have HB := Lib.hid hb
        have HROW := Lib.hid hrow
        have HRES := Lib.hid hres
        have HRE := Lib.hid hre
        have HPRE := Lib.hid hpre
        have HPL := Lib.hid hpl
        have HWR := Lib.hid (show w.heap.size + 1 + 1 + 1 ≤ wr.heap.size from hwz)
        have hbox : ∀ g, (Value.slice A1 pre.len c1').ownBlock = some g → w.heap.size + 1 + 1 + 1 ≤ g ∧ g < wr.heap.size := fun g hg => by
          obtain ⟨st, b1, k1', k2', rfl, _⟩ := ht
          exact blk_lt k1' (by unfold blkV; rw [hg]; simp)
        have HBOX := Lib.hid hbox
        have HE := Lib.hid e1
        have HI := Lib.hid (And.intro i1 i2)
        have hpl2 : pre.len ≤ 1048576 := by omega
        clear hrow ht hb hres hre hpre hla h3 hl ih i1 i2 e1 hpl hbox g1 g2 g3
        go_wp2_with fail
        go_region_law (first
            | (refine step_push rfl (.tmp 18) (.tmp 25) rfl (w.heap.size + 1 + 1 + 1) (.slice A1 pre.len c1') pre bs b5 o1 m1 k1 A5 c5 rfl rfl HT5.out HK5.out HI.out HD5.out hpl2 HZ5.out ?_
               intro v6 w6 bs6 ht6 hg6 hin6
               obtain ⟨A6, c6, rfl, hc61, hc62⟩ := ht6.slice
               have hne : ∀ g, (g < w.heap.size + 1 + 1 + 1 ∨ wr.heap.size ≤ g) → some g ≠ (Value.slice A1 pre.len c1').ownBlock := fun g hg e => by have := HBOX.out g e.symm; omega
               have hr6 := row_grown HROW5.out hg6 (hne _ (.inl (Nat.lt_succ_self _)))
               have hre6 := row_grown HRE5.out hg6 (hne _ (.inl (by omega)))
               have u3 : w6.cell? ⟨w.heap.size + 1 + 1, 2, none⟩ = some (.slice A1 pre.len c1') := hr6.cell (i := 2) rfl
               have f3 := hr6.free 2
               have HR6 := Lib.hid hr6
               have HRES6 := Lib.hid (row_grown HRES5.out hg6 (hne _ (.inl (Nat.lt_succ_of_lt (Nat.lt_succ_self _)))))
               have HT6 := Lib.hid ht6
               have HB6 := Lib.hid (Below.grown HB5.out hg6 HB5.out.size (fun g' hg' => by have := HBOX.out g' hg'; omega))
               have HRE6 := Lib.hid hre6
               clear hr6 hre6 ht6 hg6 hin6 hne hc61 hc62)
            | (refine step_call (f := 49) rfl (by kernel_rfl) HC.out ?_
               rintro e w5 ⟨A5, c5, b5, rfl, ht5, hb5⟩
               refine ⟨_, rfl, ?_⟩
               have y3 : w5.cell? ⟨w.heap.size + 1 + 1, 2, none⟩ = some (.slice A1 pre.len c1') := (hb5.cell (p := ⟨w.heap.size + 1 + 1, 2, none⟩) hza).trans q3
               have bz := (Below.refl w5.heap.size w5).alloc (Nat.le_refl _) (Obj.cells #[.int .i64 o1, .int .i64 m1, .slice A5 k1.len c5] 36)
               have z3 : (w5.alloc (Obj.cells #[.int .i64 o1, .int .i64 m1, .slice A5 k1.len c5] 36)).cell? ⟨w.heap.size + 1 + 1, 2, none⟩ = some (.slice A1 pre.len c1') := (bz.cell (p := ⟨w.heap.size + 1 + 1, 2, none⟩) (Nat.lt_of_lt_of_le hza hb5.size)).trans y3
               have HT5 := Lib.hid (HT.out.over (((Below.refl _ _).drew).trans hb5))
               have HK5 := Lib.hid (ht5.lower (base' := w.heap.size + 1 + 1 + 1) HWR.out)
               have HD5 := Lib.hid (show ∀ b, b ∈ bs → b ∈ b5 → False from fun q h1 h2 => by
                 have e1 := (HT.out.lt q h1).2
                 have e2 := (ht5.lt q h2).1
                 have e4 : wr.heap.size ≤ q := e2
                 omega)
               have HZ5 := Lib.hid (Nat.le_trans HWR.out hb5.size)
               have HROW5 := Lib.hid ((HROW.out.drew).below hb5 hza)
               have HRES5 := Lib.hid ((HRES.out.drew).below hb5 (Nat.lt_of_lt_of_le HRES.out.size (Nat.le_refl _)))
               have HRE5 := Lib.hid ((HRE.out.drew).below hb5 (Nat.lt_of_lt_of_le HRE.out.size (Nat.le_refl _)))
               have HB5 := Lib.hid (HB.out.trans (((Below.refl _ _).drew.trans hb5).mono HB.out.size))
               clear ht5 hb5 bz))
        all_goals
          go_wp2_with fail
          go_roundw
          case rel =>
            have hr7 := HR6.out.put 2 (.slice A6 (pre.snoc o1 m1 k1).len c6)
            have ht7 : Tree (w6.setCell ⟨w.heap.size + 1 + 1, 2, none⟩ (.slice A6 (pre.snoc o1 m1 k1).len c6)) (w.heap.size + 1 + 1 + 1) (.slice A6 (pre.snoc o1 m1 k1).len c6) (pre.snoc o1 m1 k1) bs6 :=
              HT6.out.keep fun q hq => Below.heap_setCell w6 _ _ q (by have := (HT6.out.lt q hq).1; dsimp only; omega)
            refine ⟨⟨j + 1, pre.snoc o1 m1 k1, A6, c6, bs6, hlt, by go_num, by rw [Fo.snoc_len, HPL.out], ?_, hr7, ht7, HB6.out.setCell (by dsimp only; omega) _⟩, HRES6.out.apart (by simp) _, HRE6.out.apart (by dsimp only; omega) _⟩
            have := HPRE.out
            rw [HE.out] at this
            rw [Fo.snoc_app]
            exact this
          case measure => simp [intOf]; omega
      · have e9 : j = k.len := by omega
        rw [e9, Fo.drop_len] at hpre
        have s2 := hre.cell (i := 2) rfl
        have c0 := hres.cell (i := 0) rfl
        have c1 := hres.cell (i := 1) rfl
        have c2 := hres.cell (i := 2) rfl
        have hpk : pre = k := (Fo.app_nil pre).symm.trans hpre
        subst hpk
        have q0 := hrow.cell (i := 0) rfl
        have q1 := hrow.cell (i := 1) rfl
        have q2 := hrow.cell (i := 2) rfl
        have f0 := hres.free 0
        have f1 := hres.free 1
        have f2 := hres.free 2
        have hres3 := ((hres.put 0 (.int .i64 op)).put 1 (.int .i64 n)).put 2 (.slice A1 pre.len c1')
        have r0 : (((wr.setCell ⟨w.heap.size + 1, 0, none⟩ (.int .i64 op)).setCell ⟨w.heap.size + 1, 1, none⟩ (.int .i64 n)).setCell ⟨w.heap.size + 1, 2, none⟩ (.slice A1 pre.len c1')).cell? ⟨w.heap.size + 1, 0, none⟩ = some (.int .i64 op) := hres3.cell (i := 0) rfl
        have r1 : (((wr.setCell ⟨w.heap.size + 1, 0, none⟩ (.int .i64 op)).setCell ⟨w.heap.size + 1, 1, none⟩ (.int .i64 n)).setCell ⟨w.heap.size + 1, 2, none⟩ (.slice A1 pre.len c1')).cell? ⟨w.heap.size + 1, 1, none⟩ = some (.int .i64 n) := hres3.cell (i := 1) rfl
        have r2 : (((wr.setCell ⟨w.heap.size + 1, 0, none⟩ (.int .i64 op)).setCell ⟨w.heap.size + 1, 1, none⟩ (.int .i64 n)).setCell ⟨w.heap.size + 1, 2, none⟩ (.slice A1 pre.len c1')).cell? ⟨w.heap.size + 1, 2, none⟩ = some (.slice A1 pre.len c1') := hres3.cell (i := 2) rfl
        have hle : ∀ i, w.heap.size ≤ (⟨w.heap.size + 1, i, none⟩ : Addr).block := fun i => Nat.le_succ _
        have HB := Lib.hid (((hb.setCell (hle 0) (.int .i64 op)).setCell (hle 1) (.int .i64 n)).setCell (hle 2) (.slice A1 pre.len c1'))
        have HT := Lib.hid (ht.keep (w' := ((wr.setCell ⟨w.heap.size + 1, 0, none⟩ (.int .i64 op)).setCell ⟨w.heap.size + 1, 1, none⟩ (.int .i64 n)).setCell ⟨w.heap.size + 1, 2, none⟩ (.slice A1 pre.len c1')) fun q hq => by
          have := (ht.lt q hq).1
          exact (Below.heap_setCell _ _ _ q (by dsimp only; omega)).trans ((Below.heap_setCell _ _ _ q (by dsimp only; omega)).trans (Below.heap_setCell _ _ _ q (by dsimp only; omega))))
        clear ht hb hrow hres hre hpl hres3 hle
        go_wp2_with fail
        refine bodyPost_ret (v := .agg #[.int .i64 op, .int .i64 n, .slice A1 pre.len c1']) ?_ rfl ⟨A1, c1', bs, rfl, HT.out.lower (by omega), HB.out⟩
        simp [results, Tryz.f49, go_sem, r0, r1, r2]
end Go.Proofs.YtpknegneogdmfaaGreat
