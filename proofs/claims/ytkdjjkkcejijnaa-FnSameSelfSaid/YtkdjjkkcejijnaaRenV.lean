/-
  impl.renumbered at a variable.
-/
import Derived.Test.YtkdjjkkcejijnaaRenA
namespace Go.Proofs.Ytkdjjkkcejijnaa
open Go.RowKit Go.Shelf
set_option maxRecDepth 100000

set_option maxHeartbeats 16000000 in
theorem ren_var (op n : Int) (k : Fo) (A : Option Addr) (c : Nat) (nu0 : Nat → Int) (nx0 : Nat) (w : World) (h2 : op = 2)  (hl : Lies w 0 w.heap.size A 0 k) (hnx : nx0 + k.size + 1 ≤ 4000) (hi : I64 op ∧ I64 n) (hnu : ∀ v, I64 (nu0 v)) (hno : nameOk op n k.len = true) (hks : namesOkF k = true) : RenC op n k A c nu0 nx0 w := by
  unfold RenC
  have HO2 := Lib.hid h2
  clear h2
  have hlen := Fo.len_le_size k
  obtain ⟨rn, hrn⟩ : ∃ rn, rn = renM op n nu0 nx0 := ⟨_, rfl⟩
  have HRN := Lib.hid hrn
  have hirn : I64 rn := by
    rw [hrn]
    unfold renM
    split
    · exact hnu _
    · split
      · unfold I64; omega
      · exact hi.2
  obtain ⟨W0, hW0⟩ : ∃ W0, W0 = (((w.alloc (Obj.cells #[.int .i64 op, .int .i64 n, .slice A k.len c] 25)).alloc (Obj.cells (cellsI nu0) 90)).alloc (Obj.cells #[.int .i64 0, .int .i64 0, .slice none 0 0] 25)) := ⟨_, rfl⟩
  have hz0 : w.heap.size + 1 + 1 < W0.heap.size := by rw [hW0]; simp
  have hbW : Below w.heap.size w W0 := by rw [hW0]; exact (((Below.refl _ _).alloc (Nat.le_refl _) _).alloc (by simp) _).alloc (by simp; omega) _
  have re0 : Row W0 w.heap.size 25 #[.int .i64 op, .int .i64 n, .slice A k.len c] := by rw [hW0]; exact ((Row.fresh w _ _).alloc _).alloc _
  have rn0 : Row W0 (w.heap.size + 1) 90 (cellsI nu0) := by
    rw [hW0]
    have := Row.fresh (w.alloc (Obj.cells #[.int .i64 op, .int .i64 n, .slice A k.len c] 25)) 90 (cellsI nu0)
    rw [World.size_alloc] at this
    exact this.alloc _
  have rr0 : Row W0 (w.heap.size + 1 + 1) 25 #[.int .i64 0, .int .i64 0, .slice none 0 0] := by
    rw [hW0]
    have := Row.fresh ((w.alloc (Obj.cells #[.int .i64 op, .int .i64 n, .slice A k.len c] 25)).alloc (Obj.cells (cellsI nu0) 90)) 25 #[.int .i64 0, .int .i64 0, .slice none 0 0]
    simp only [World.size_alloc] at this
    exact this
  have e0 : W0.cell? ⟨w.heap.size, 0, none⟩ = some (.int .i64 op) := re0.cell (i := 0) rfl
  have e1 : W0.cell? ⟨w.heap.size, 1, none⟩ = some (.int .i64 n) := re0.cell (i := 1) rfl
  have e2 : W0.cell? ⟨w.heap.size, 2, none⟩ = some (.slice A k.len c) := re0.cell (i := 2) rfl
  have HRE := Lib.hid re0
  have HRU := Lib.hid rn0
  have HRR := Lib.hid rr0
  have HBW := Lib.hid hbW
  unfold cellsI at hW0
  clear re0 rn0 rr0 hbW
  go_enter Try.func58, Try.ntmps58
  go_upto_region 1 with fail
  rw [← hW0]
  clear hW0
  have a0 : (W0.alloc (Obj.cells #[.int .i64 op, .int .i64 n, .slice none 0 0] 25)).cell? ⟨w.heap.size, 0, none⟩ = some (.int .i64 op) := (HRE.out.alloc _).cell (i := 0) rfl
  have a1 : (W0.alloc (Obj.cells #[.int .i64 op, .int .i64 n, .slice none 0 0] 25)).cell? ⟨w.heap.size, 1, none⟩ = some (.int .i64 n) := (HRE.out.alloc _).cell (i := 1) rfl
  have a2 : (W0.alloc (Obj.cells #[.int .i64 op, .int .i64 n, .slice none 0 0] 25)).cell? ⟨w.heap.size, 2, none⟩ = some (.slice A k.len c) := (HRE.out.alloc _).cell (i := 2) rfl
  have re1 := HRE.out.alloc (Obj.cells #[.int .i64 op, .int .i64 rn, .slice none 0 0] 25)
  have HS := Lib.hid (show RenRel op n nu0 nx0 rn k A c W0.heap.size w (.int .i64 (nx0 : Int)) (.int .i64 0) (W0.alloc (Obj.cells #[.int .i64 op, .int .i64 rn, .slice none 0 0] 25)) from
    ren_start hnu hnx hks re1 (HRU.out.alloc _) (HRR.out.alloc _) (Row.fresh W0 25 #[.int .i64 op, .int .i64 rn, .slice none 0 0]) (HBW.out.alloc HBW.out.size _))
  have b2 : (W0.alloc (Obj.cells #[.int .i64 op, .int .i64 rn, .slice none 0 0] 25)).cell? ⟨w.heap.size, 2, none⟩ = some (.slice A k.len c) := re1.cell (i := 2) rfl
  clear re1
  have h2 := HO2.out
  have hv : inVar n = true := nameOk_var hno (.inl h2)
  have HK0 := Lib.hid (nameOk_nil hno h2)
  obtain ⟨h0, h8⟩ := inVar_true hv
  obtain ⟨v, rfl⟩ : ∃ v : Nat, n = (v : Int) := ⟨n.toNat, by omega⟩
  have hv8 : v < 8 := by omega
  have qv := (HRU.out.alloc (Obj.cells #[.int .i64 op, .int .i64 (v : Int), .slice none 0 0] 25)).cell (cellsI_at nu0 hv8)
  have hrn2 : rn = nu0 v := by rw [hrn]; simp [renM, h2]
  have hW : (W0.alloc (Obj.cells #[.int .i64 op, .int .i64 rn, .slice none 0 0] 25)) = (W0.alloc (Obj.cells #[.int .i64 op, .int .i64 (nu0 v), .slice none 0 0] 25)) := by rw [hrn2]
  rw [hW] at HS b2
  have h22 : (op == 2) = true := by simpa using h2
  clear hrn hrn2 hW h2
  go_wp2_with fail
  clear qv b2 a0 a1 a2 e0 e1 e2 hv h0 h8 h22
  generalize W0.alloc (Obj.cells #[.int .i64 op, .int .i64 (nu0 v), .slice none 0 0] 25) = W1 at *
  generalize ((v : Nat) : Int) = n at *
  clear HRE HRU HRR HBW
  generalize hgB : W0.heap.size = cB at *
  have HGB := Lib.hid (show w.heap.size + 1 + 1 < cB from hz0)
  clear hgB
  go_loopw [2, 31] (fun nxv i wr => RenRel op n nu0 nx0 rn k A c cB w nxv i wr)
    (fun _ i _ => k.len - (intOf i).toNat)
  case atStart => exact HS.out
  case round =>
    clear HS
    obtain ⟨j, pre, nu, nx, A1, c1', bs, hj, rfl, rfl, hpl, hpre, hnuj, hnxj, hksj, hre, hru, hrr, hrc, ht, hb⟩ := hrel
    have hwz := hrc.size
    have hlt : ¬ j < k.len := by have := HK0.out; omega
    have e9 : j = k.len := by omega
    rw [e9, Fo.drop_len] at hpre
    have hpk : pre = renF op n 0 nu0 nx0 k := (Fo.app_nil pre).symm.trans hpre
    have c0 := hrr.cell (i := 0) rfl
    have c1 := hrr.cell (i := 1) rfl
    have c2 := hrr.cell (i := 2) rfl
    have q0 := hrc.cell (i := 0) rfl
    have q1 := hrc.cell (i := 1) rfl
    have q2 := hrc.cell (i := 2) rfl
    have f0 := hrr.free 0
    have f1 := hrr.free 1
    have f2 := hrr.free 2
    have hgz := HGB.out
    have hres3 := ((hrr.put 0 (.int .i64 op)).put 1 (.int .i64 rn)).put 2 (.slice A1 pre.len c1')
    obtain ⟨l9, hl9⟩ : ∃ l9, l9 = pre.len := ⟨_, rfl⟩
    rw [← hl9] at hres3 q2 hrc ht
    have r0 : (((wr.setCell ⟨w.heap.size + 1 + 1, 0, none⟩ (.int .i64 op)).setCell ⟨w.heap.size + 1 + 1, 1, none⟩ (.int .i64 rn)).setCell ⟨w.heap.size + 1 + 1, 2, none⟩ (.slice A1 l9 c1')).cell? ⟨w.heap.size + 1 + 1, 0, none⟩ = some (.int .i64 op) := hres3.cell (i := 0) rfl
    have r1 : (((wr.setCell ⟨w.heap.size + 1 + 1, 0, none⟩ (.int .i64 op)).setCell ⟨w.heap.size + 1 + 1, 1, none⟩ (.int .i64 rn)).setCell ⟨w.heap.size + 1 + 1, 2, none⟩ (.slice A1 l9 c1')).cell? ⟨w.heap.size + 1 + 1, 1, none⟩ = some (.int .i64 rn) := hres3.cell (i := 1) rfl
    have r2 : (((wr.setCell ⟨w.heap.size + 1 + 1, 0, none⟩ (.int .i64 op)).setCell ⟨w.heap.size + 1 + 1, 1, none⟩ (.int .i64 rn)).setCell ⟨w.heap.size + 1 + 1, 2, none⟩ (.slice A1 l9 c1')).cell? ⟨w.heap.size + 1 + 1, 2, none⟩ = some (.slice A1 l9 c1') := hres3.cell (i := 2) rfl
    have hle : ∀ i, w.heap.size ≤ (⟨w.heap.size + 1 + 1, i, none⟩ : Addr).block := fun i => by dsimp only; omega
    have HB := Lib.hid (((hb.setCell (hle 0) (.int .i64 op)).setCell (hle 1) (.int .i64 rn)).setCell (hle 2) (.slice A1 l9 c1'))
    have HT := Lib.hid (ht.keep (w' := ((wr.setCell ⟨w.heap.size + 1 + 1, 0, none⟩ (.int .i64 op)).setCell ⟨w.heap.size + 1 + 1, 1, none⟩ (.int .i64 rn)).setCell ⟨w.heap.size + 1 + 1, 2, none⟩ (.slice A1 l9 c1')) fun q hq => by
      have := (ht.lt q hq).1
      exact (Below.heap_setCell _ _ _ q (by dsimp only; omega)).trans ((Below.heap_setCell _ _ _ q (by dsimp only; omega)).trans (Below.heap_setCell _ _ _ q (by dsimp only; omega))))
    have HL9 := Lib.hid hl9
    have HPK := Lib.hid hpk
    clear ht hb hrr hrc hre hru hpl hres3 hle hl9 hpk hpre
    go_wp2_with fail
    refine bodyPost_ret (v := .agg #[.int .i64 op, .int .i64 rn, .slice A1 l9 c1']) ?_ rfl ⟨A1, c1', bs, ?_, ?_, HB.out⟩
    · simp [results, Try.f58, go_sem, r0, r1, r2]
    · rw [HL9.out, HPK.out, HRN.out]
    · have h1 := HT.out
      have e8 : l9 = (renF op n 0 nu0 (nx0 : Int) k).len := by rw [HL9.out, HPK.out]
      rw [HPK.out] at h1
      rw [← e8]
      exact Tree.lower (base' := w.heap.size) h1 (by have := HGB.out; omega)
end Go.Proofs.Ytkdjjkkcejijnaa
