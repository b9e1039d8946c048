/-
  impl.nameless.
-/
import Derived.Test.YtkdjjkkcejijnaaRenA
import Derived.Test.YtkdjjkkcejijnaaPutD
namespace Go.Proofs.Ytkdjjkkcejijnaa
open Go.RowKit Go.Shelf
set_option maxRecDepth 100000

def nuTo (j : Nat) : Nat → Int := fun i => if i < j then (i : Int) else 0
theorem cellsI_congr {S T : Nat → Int} (h : ∀ i, i < 8 → S i = T i) : cellsI S = cellsI T := by
  simp only [cellsI, h 0 (by decide), h 1 (by decide), h 2 (by decide), h 3 (by decide), h 4 (by decide), h 5 (by decide), h 6 (by decide), h 7 (by decide)]
theorem nuTo_next (j : Nat) : cellsI (updN (nuTo j) j (j : Int)) = cellsI (nuTo (j + 1)) := by
  refine cellsI_congr fun i _ => ?_
  unfold updN nuTo
  by_cases e : i = j
  · rw [if_pos e, if_pos (by omega), e]
  · rw [if_neg e]
    by_cases h : i < j
    · rw [if_pos h, if_pos (by omega)]
    · rw [if_neg h, if_neg (by omega)]

set_option maxHeartbeats 2000000 in
theorem nameless_any (op n : Int) (k : Fo) (A : Option Addr) (c : Nat) (w : World) (hl : Lies w 0 w.heap.size A 0 k) (hsz : k.size ≤ 100) (hi : I64 op ∧ I64 n) (hno : nameOk op n k.len = true) (hks : namesOkF k = true)
    (hren : ∀ w1 : World, Lies w1 0 w1.heap.size A 0 k → RenC op n k A c nu8 8 w1) :
    Calls Try.prog 34 #[.agg #[.int .i64 op, .int .i64 n, .slice A k.len c]] w (Makes op (renM op n nu8 8) (renF op n 0 nu8 8 k) w) := by
  obtain ⟨W, hW⟩ : ∃ W, W = ((w.alloc (Obj.cells #[.int .i64 op, .int .i64 n, .slice A k.len c] 25)).alloc (Obj.cells #[.int .i64 0, .int .i64 0, .slice none 0 0] 25)).alloc (Obj.cells (cellsI (nuTo 0)) 90) := ⟨_, rfl⟩
  have hb0 : Below w.heap.size w W := by rw [hW]; exact (((Below.refl _ _).alloc (Nat.le_refl _) _).alloc (by simp) _).alloc (by simp; omega) _
  have re0 : Row W w.heap.size 25 #[.int .i64 op, .int .i64 n, .slice A k.len c] := by rw [hW]; exact ((Row.fresh w _ _).alloc _).alloc _
  have rr0 : Row W (w.heap.size + 1) 25 #[.int .i64 0, .int .i64 0, .slice none 0 0] := by
    rw [hW]
    have := Row.fresh (w.alloc (Obj.cells #[.int .i64 op, .int .i64 n, .slice A k.len c] 25)) 25 #[.int .i64 0, .int .i64 0, .slice none 0 0]
    rw [World.size_alloc] at this
    exact this.alloc _
  have ru0 : Row W (w.heap.size + 1 + 1) 90 (cellsI (nuTo 0)) := by
    rw [hW]
    have := Row.fresh ((w.alloc (Obj.cells #[.int .i64 op, .int .i64 n, .slice A k.len c] 25)).alloc (Obj.cells #[.int .i64 0, .int .i64 0, .slice none 0 0] 25)) 90 (cellsI (nuTo 0))
    simp only [World.size_alloc] at this
    exact this
  have HE := Lib.hid re0
  have HR := Lib.hid rr0
  have HU := Lib.hid ru0
  have HB := Lib.hid hb0
  have HL := Lib.hid hl
  clear re0 rr0 ru0 hb0 hl
  have hW2 : W = ((w.alloc (Obj.cells #[.int .i64 op, .int .i64 n, .slice A k.len c] 25)).alloc (Obj.cells #[.int .i64 0, .int .i64 0, .slice none 0 0] 25)).alloc (Obj.cells #[.int .i64 0, .int .i64 0, .int .i64 0, .int .i64 0, .int .i64 0, .int .i64 0, .int .i64 0, .int .i64 0] 90) := hW
  clear hW
  go_enter Try.func34, Try.ntmps34
  go_wp2_with fail
  rw [← hW2]
  clear hW2
  go_loopw [5] (fun i wr => ∃ (j : Nat), j ≤ 8 ∧ i = .int .i64 j ∧ Row wr w.heap.size 25 #[.int .i64 op, .int .i64 n, .slice A k.len c] ∧ Row wr (w.heap.size + 1) 25 #[.int .i64 0, .int .i64 0, .slice none 0 0] ∧
      Row wr (w.heap.size + 1 + 1) 90 (cellsI (nuTo j)) ∧ Below w.heap.size w wr)
    (fun i _ => 8 - (intOf i).toNat)
  case atStart => exact ⟨0, by omega, rfl, HE.out, HR.out, HU.out, HB.out⟩
  case round =>
    clear HE HR HU HB
    obtain ⟨j, hj, rfl, hre, hrr, hru, hb⟩ := hrel
    have hwz := hru.size
    by_cases hlt : j < 8
    · have q := hru.cell (cellsI_at (nuTo j) hlt)
      have f := hru.free j
      have hp := hru.put j (.int .i64 (j : Int))
      rw [cellsI_set (nuTo j) hlt, nuTo_next] at hp
      have HP := Lib.hid hp
      have HE := Lib.hid (hre.apart (p := ⟨w.heap.size + 1 + 1, j, none⟩) (by dsimp only; omega) (.int .i64 (j : Int)))
      have HR := Lib.hid (hrr.apart (p := ⟨w.heap.size + 1 + 1, j, none⟩) (by dsimp only; omega) (.int .i64 (j : Int)))
      have HB := Lib.hid (hb.setCell (p := ⟨w.heap.size + 1 + 1, j, none⟩) (by dsimp only; omega) (.int .i64 (j : Int)))
      clear hp hre hrr hru hb
      go_wp2_with fail
      go_roundw
      case rel => exact ⟨j + 1, hlt, by go_num, HE.out, HR.out, HP.out, HB.out⟩
      case measure => simp [intOf]; omega
    · have e9 : j = 8 := by omega
      subst e9
      have e8 : cellsI (nuTo 8) = cellsI nu8 := rfl
      rw [e8] at hru
      have q0 : wr.cell? ⟨w.heap.size, 0, none⟩ = some (.int .i64 op) := hre.cell (i := 0) rfl
      have q1 : wr.cell? ⟨w.heap.size, 1, none⟩ = some (.int .i64 n) := hre.cell (i := 1) rfl
      have q2 : wr.cell? ⟨w.heap.size, 2, none⟩ = some (.slice A k.len c) := hre.cell (i := 2) rfl
      have HC := Lib.hid (hren wr (HL.out.up hb))
      unfold RenC at HC
      generalize nu8 = nu at *
      have p0 : wr.cell? ⟨w.heap.size + 1 + 1, 0, none⟩ = some (.int .i64 (nu 0)) := hru.cell (i := 0) rfl
      have p1 : wr.cell? ⟨w.heap.size + 1 + 1, 1, none⟩ = some (.int .i64 (nu 1)) := hru.cell (i := 1) rfl
      have p2 : wr.cell? ⟨w.heap.size + 1 + 1, 2, none⟩ = some (.int .i64 (nu 2)) := hru.cell (i := 2) rfl
      have p3 : wr.cell? ⟨w.heap.size + 1 + 1, 3, none⟩ = some (.int .i64 (nu 3)) := hru.cell (i := 3) rfl
      have p4 : wr.cell? ⟨w.heap.size + 1 + 1, 4, none⟩ = some (.int .i64 (nu 4)) := hru.cell (i := 4) rfl
      have p5 : wr.cell? ⟨w.heap.size + 1 + 1, 5, none⟩ = some (.int .i64 (nu 5)) := hru.cell (i := 5) rfl
      have p6 : wr.cell? ⟨w.heap.size + 1 + 1, 6, none⟩ = some (.int .i64 (nu 6)) := hru.cell (i := 6) rfl
      have p7 : wr.cell? ⟨w.heap.size + 1 + 1, 7, none⟩ = some (.int .i64 (nu 7)) := hru.cell (i := 7) rfl
      have HR := Lib.hid hrr
      have HB := Lib.hid hb
      clear hre hrr hru hb hren
      go_wp2_with fail
      refine HC.out.mono ?_
      rintro e w5 ⟨A5, c5, b5, rfl, ht5, hb5⟩
      have hr5 := HR.out.below hb5 HR.out.size
      have c0 := hr5.cell (i := 0) rfl
      have c1 := hr5.cell (i := 1) rfl
      have c2 := hr5.cell (i := 2) rfl
      have f0 := hr5.free 0
      have f1 := hr5.free 1
      have f2 := hr5.free 2
      generalize renM op n nu 8 = rm at *
      generalize renF op n 0 nu 8 k = rk at *
      have hr6 := ((hr5.put 0 (.int .i64 op)).put 1 (.int .i64 rm)).put 2 (.slice A5 rk.len c5)
      have r0 : (((w5.setCell ⟨w.heap.size + 1, 0, none⟩ (.int .i64 op)).setCell ⟨w.heap.size + 1, 1, none⟩ (.int .i64 rm)).setCell ⟨w.heap.size + 1, 2, none⟩ (.slice A5 rk.len c5)).cell? ⟨w.heap.size + 1, 0, none⟩ = some (.int .i64 op) := hr6.cell (i := 0) rfl
      have r1 : (((w5.setCell ⟨w.heap.size + 1, 0, none⟩ (.int .i64 op)).setCell ⟨w.heap.size + 1, 1, none⟩ (.int .i64 rm)).setCell ⟨w.heap.size + 1, 2, none⟩ (.slice A5 rk.len c5)).cell? ⟨w.heap.size + 1, 1, none⟩ = some (.int .i64 rm) := hr6.cell (i := 1) rfl
      have r2 : (((w5.setCell ⟨w.heap.size + 1, 0, none⟩ (.int .i64 op)).setCell ⟨w.heap.size + 1, 1, none⟩ (.int .i64 rm)).setCell ⟨w.heap.size + 1, 2, none⟩ (.slice A5 rk.len c5)).cell? ⟨w.heap.size + 1, 2, none⟩ = some (.slice A5 rk.len c5) := hr6.cell (i := 2) rfl
      have hle : ∀ i, w.heap.size ≤ (⟨w.heap.size + 1, i, none⟩ : Addr).block := fun i => Nat.le_succ _
      have HB6 := Lib.hid ((((HB.out.trans (hb5.mono HB.out.size)).setCell (hle 0) (.int .i64 op)).setCell (hle 1) (.int .i64 rm)).setCell (hle 2) (.slice A5 rk.len c5))
      have HT6 := Lib.hid (ht5.keep (w' := ((w5.setCell ⟨w.heap.size + 1, 0, none⟩ (.int .i64 op)).setCell ⟨w.heap.size + 1, 1, none⟩ (.int .i64 rm)).setCell ⟨w.heap.size + 1, 2, none⟩ (.slice A5 rk.len c5)) fun q hq => by
        have := (ht5.lt q hq).1
        exact (Below.heap_setCell _ _ _ q (by dsimp only; omega)).trans ((Below.heap_setCell _ _ _ q (by dsimp only; omega)).trans (Below.heap_setCell _ _ _ q (by dsimp only; omega))))
      clear ht5 hb5 hr5 hr6 hle p0 p1 p2 p3 p4 p5 p6 p7 q0 q1 q2 HC
      go_wp2_with fail
      refine bodyPost_ret (v := .agg #[.int .i64 op, .int .i64 rm, .slice A5 rk.len c5]) ?_ rfl ⟨A5, c5, b5, rfl, HT6.out.lower HB.out.size, HB6.out⟩
      simp [results, Try.f34, go_sem, r0, r1, r2]
end Go.Proofs.Ytkdjjkkcejijnaa
