/-
  PutAtoms: the model and the program.
-/
import Derived.Test.YtmnhoeliofojnaaAtomsS
import Derived.Test.YtmnhoeliofojnaaAtomsI
import Derived.Test.YtmnhoeliofojnaaOpen
import Derived.Test.YtmnhoeliofojnaaOpen
namespace Go.Proofs.Ytmnhoeliofojnaa
open Go.RowKit Go.Shelf
set_option maxRecDepth 100000

def resPutAtoms (p : Nd) : Nd := if ndIs p = true then chgN gAtoms 14 p else nd0
theorem resPutAtoms_le (op n : Int) (k : Fo) : (resPutAtoms ⟨op, n, k⟩).k.size ≤ 1048576 := by
  unfold resPutAtoms
  split
  · rename_i h
    have h1 := nodeIs_st (show nodeIs op n k (firstS 8) = true from h)
    have h2 := chgN_st (keeps_atoms formT_local) h1
    have h3 := h1.size
    have h4 := h2.2
    dsimp only at h3 h4
    omega
  · decide

set_option maxHeartbeats 2000000 in
theorem specPutAtoms_any (op n : Int) (k : Fo) (A : Option Addr) (c : Nat) (w : World) (hl : Lies w 0 w.heap.size A 0 k) (hlen : k.len ≤ maxLen) :
    Calls Try.prog 16 #[.agg #[.int .i64 op, .int .i64 n, .slice A k.len c]] w (GivesN (resPutAtoms ⟨op, n, k⟩) (ndIs ⟨op, n, k⟩) w) := by
  obtain ⟨hb, r1, r2⟩ := two_boxes w 28 28 #[Value.int IntKind.i64 op, Value.int IntKind.i64 n, Value.slice A k.len c] #[.int .i64 0, .int .i64 0, .slice none 0 0]
  obtain ⟨W, hW⟩ : ∃ W, W = (w.alloc (Obj.cells #[Value.int IntKind.i64 op, Value.int IntKind.i64 n, Value.slice A k.len c] 28)).alloc (Obj.cells #[.int .i64 0, .int .i64 0, .slice none 0 0] 28) := ⟨_, rfl⟩
  rw [← hW] at hb r1 r2
  have HB0 := Lib.hid hb
  have HRB := Lib.hid r1
  have HRR := Lib.hid r2
  have HL := Lib.hid (hl.up hb)
  have HV := Lib.hid (l1Any_any op n k A c W (hl.up hb) hlen)
  obtain ⟨y, hy⟩ : ∃ y, y = resPutAtoms ⟨op, n, k⟩ := ⟨_, rfl⟩
  obtain ⟨ok, hok⟩ : ∃ ok, ok = nodeIs op n k (firstS 8) := ⟨_, rfl⟩
  have hok2 : ndIs ⟨op, n, k⟩ = ok := hok.symm
  rw [hok2, ← hy]
  rw [← hok] at HV
  have HY := Lib.hid hy
  have HOK := Lib.hid hok
  have q0 := r1.cell (i := 0) rfl
  have q1 := r1.cell (i := 1) rfl
  have q2 := r1.cell (i := 2) rfl
  clear hb r1 r2 hl hy hok hok2
  go_enter Try.func16, Try.ntmps16
  go_upto_region 1 with fail
  rw [← hW]
  clear hW
  go_wp2_with fail
  refine HV.out.mono ?_
  rintro e w1 ⟨rfl, hb1⟩
  have HB1 := Lib.hid (HB0.out.trans (hb1.mono HB0.out.size))
  have HRB1 := Lib.hid (HRB.out.below hb1 HRB.out.size)
  have HRR1 := Lib.hid (HRR.out.below hb1 HRR.out.size)
  have HL1 := Lib.hid (HL.out.up hb1)
  clear hb1 HV q0 q1 q2 HB0 HRB HRR HL
  cases ok with
  | false =>
    have hyn : y = nd0 := HY.out.trans (by unfold resPutAtoms; rw [if_neg]; unfold ndIs; rw [← HOK.out]; simp)
    subst hyn
    have c0 := HRR1.out.cell (i := 0) rfl
    have c1 := HRR1.out.cell (i := 1) rfl
    have c2 := HRR1.out.cell (i := 2) rfl
    have f0 := HRR1.out.free 0
    have f1 := HRR1.out.free 1
    have f2 := HRR1.out.free 2
    have hr3 := ((HRR1.out.put 0 (.int .i64 0)).put 1 (.int .i64 0)).put 2 (.slice none 0 0)
    have r0 := hr3.cell (i := 0) rfl
    have r1 := hr3.cell (i := 1) rfl
    have r2 := hr3.cell (i := 2) rfl
    have HBC := Lib.hid (((HB1.out.setCell (p := ⟨w.heap.size + 1, 0, none⟩) (by dsimp only; omega) (.int .i64 0)).setCell (p := ⟨w.heap.size + 1, 1, none⟩) (by dsimp only; omega) (.int .i64 0)).setCell (p := ⟨w.heap.size + 1, 2, none⟩) (by dsimp only; omega) (.slice none 0 0))
    clear hr3
    go_wp2_with fail
    refine bodyPost_ret (v := .tuple #[.agg #[.int .i64 0, .int .i64 0, .slice none 0 0], .bool false]) ?_ rfl (GivesN.zero HBC.out)
    simp [results, Try.f16, go_sem, r0, r1, r2]
  | true =>
    have hst := nodeIs_st HOK.out.symm
    have hii := form_i64 hst.all.1
    have hyy : y = chgN gAtoms 14 ⟨op, n, k⟩ := HY.out.trans (by unfold resPutAtoms; rw [if_pos]; unfold ndIs; exact HOK.out.symm)
    have HC := Lib.hid (show Calls Try.prog 42 #[.agg #[.int .i64 op, .int .i64 n, .slice A k.len c]] w1 (Turns y w1.heap.size w1) by
      rw [hyy]
      exact specAtoms_any formT_local k.size 14 op n k A c w1 rfl hst HL1.out hii)
    have q0 := HRB1.out.cell (i := 0) rfl
    have q1 := HRB1.out.cell (i := 1) rfl
    have q2 := HRB1.out.cell (i := 2) rfl
    clear hst hii hyy HY
    go_wp2_with fail
    refine HC.out.mono ?_
    rintro e w5 ⟨A5, c5, b5, rfl, ht5, hb5, hi5⟩
    have hres5 := HRR1.out.below hb5 HRR1.out.size
    have c0 := hres5.cell (i := 0) rfl
    have c1 := hres5.cell (i := 1) rfl
    have c2 := hres5.cell (i := 2) rfl
    have f0 := hres5.free 0
    have f1 := hres5.free 1
    have f2 := hres5.free 2
    have hr3 := ((hres5.put 0 (.int .i64 y.op)).put 1 (.int .i64 y.n)).put 2 (.slice A5 y.k.len c5)
    have r0 := hr3.cell (i := 0) rfl
    have r1 := hr3.cell (i := 1) rfl
    have r2 := hr3.cell (i := 2) rfl
    have hz1 := HRR1.out.size
    have HBC := Lib.hid ((((HB1.out.trans (hb5.mono HB1.out.size)).setCell (p := ⟨w.heap.size + 1, 0, none⟩) (by dsimp only; omega) (.int .i64 y.op)).setCell (p := ⟨w.heap.size + 1, 1, none⟩) (by dsimp only; omega) (.int .i64 y.n)).setCell (p := ⟨w.heap.size + 1, 2, none⟩) (by dsimp only; omega) (.slice A5 y.k.len c5))
    have HTC := Lib.hid ((((ht5.put (p := ⟨w.heap.size + 1, 0, none⟩) hz1 (.int .i64 y.op)).put (p := ⟨w.heap.size + 1, 1, none⟩) hz1 (.int .i64 y.n)).put (p := ⟨w.heap.size + 1, 2, none⟩) hz1 (.slice A5 y.k.len c5)).lower HB1.out.size)
    clear hr3 hres5 ht5 hb5 hi5 hz1 q0 q1 q2
    go_wp2_with fail
    refine bodyPost_ret (v := .tuple #[.agg #[.int .i64 y.op, .int .i64 y.n, .slice A5 y.k.len c5], .bool true]) ?_ rfl ⟨A5, c5, b5, rfl, HTC.out, HBC.out⟩
    simp [results, Try.f16, go_sem, r0, r1, r2]

set_option maxHeartbeats 2000000 in
theorem implPutAtoms_any (op n : Int) (k : Fo) (A : Option Addr) (c : Nat) (w : World) (hl : Lies w 0 w.heap.size A 0 k) (hlen : k.len ≤ maxLen) :
    Calls Try.prog 17 #[.agg #[.int .i64 op, .int .i64 n, .slice A k.len c]] w (GivesN (resPutAtoms ⟨op, n, k⟩) (ndIs ⟨op, n, k⟩) w) := by
  obtain ⟨hb, r1, r2⟩ := two_boxes w 28 28 #[Value.int IntKind.i64 op, Value.int IntKind.i64 n, Value.slice A k.len c] #[.int .i64 0, .int .i64 0, .slice none 0 0]
  obtain ⟨W, hW⟩ : ∃ W, W = (w.alloc (Obj.cells #[Value.int IntKind.i64 op, Value.int IntKind.i64 n, Value.slice A k.len c] 28)).alloc (Obj.cells #[.int .i64 0, .int .i64 0, .slice none 0 0] 28) := ⟨_, rfl⟩
  rw [← hW] at hb r1 r2
  have HB0 := Lib.hid hb
  have HRB := Lib.hid r1
  have HRR := Lib.hid r2
  have HL := Lib.hid (hl.up hb)
  have HV := Lib.hid (validOpen_any op n k A c W (hl.up hb) hlen)
  obtain ⟨y, hy⟩ : ∃ y, y = resPutAtoms ⟨op, n, k⟩ := ⟨_, rfl⟩
  obtain ⟨ok, hok⟩ : ∃ ok, ok = nodeIs op n k (firstS 8) := ⟨_, rfl⟩
  have hok2 : ndIs ⟨op, n, k⟩ = ok := hok.symm
  rw [hok2, ← hy]
  rw [← hok] at HV
  have HY := Lib.hid hy
  have HOK := Lib.hid hok
  have q0 := r1.cell (i := 0) rfl
  have q1 := r1.cell (i := 1) rfl
  have q2 := r1.cell (i := 2) rfl
  clear hb r1 r2 hl hy hok hok2
  go_enter Try.func17, Try.ntmps17
  go_upto_region 1 with fail
  rw [← hW]
  clear hW
  go_wp2_with fail
  refine HV.out.mono ?_
  rintro e w1 ⟨rfl, hb1⟩
  have HB1 := Lib.hid (HB0.out.trans (hb1.mono HB0.out.size))
  have HRB1 := Lib.hid (HRB.out.below hb1 HRB.out.size)
  have HRR1 := Lib.hid (HRR.out.below hb1 HRR.out.size)
  have HL1 := Lib.hid (HL.out.up hb1)
  clear hb1 HV q0 q1 q2 HB0 HRB HRR HL
  cases ok with
  | false =>
    have hyn : y = nd0 := HY.out.trans (by unfold resPutAtoms; rw [if_neg]; unfold ndIs; rw [← HOK.out]; simp)
    subst hyn
    have c0 := HRR1.out.cell (i := 0) rfl
    have c1 := HRR1.out.cell (i := 1) rfl
    have c2 := HRR1.out.cell (i := 2) rfl
    have f0 := HRR1.out.free 0
    have f1 := HRR1.out.free 1
    have f2 := HRR1.out.free 2
    have hr3 := ((HRR1.out.put 0 (.int .i64 0)).put 1 (.int .i64 0)).put 2 (.slice none 0 0)
    have r0 := hr3.cell (i := 0) rfl
    have r1 := hr3.cell (i := 1) rfl
    have r2 := hr3.cell (i := 2) rfl
    have HBC := Lib.hid (((HB1.out.setCell (p := ⟨w.heap.size + 1, 0, none⟩) (by dsimp only; omega) (.int .i64 0)).setCell (p := ⟨w.heap.size + 1, 1, none⟩) (by dsimp only; omega) (.int .i64 0)).setCell (p := ⟨w.heap.size + 1, 2, none⟩) (by dsimp only; omega) (.slice none 0 0))
    clear hr3
    go_wp2_with fail
    refine bodyPost_ret (v := .tuple #[.agg #[.int .i64 0, .int .i64 0, .slice none 0 0], .bool false]) ?_ rfl (GivesN.zero HBC.out)
    simp [results, Try.f17, go_sem, r0, r1, r2]
  | true =>
    have hst := nodeIs_st HOK.out.symm
    have hii := form_i64 hst.all.1
    have hyy : y = chgN gAtoms 14 ⟨op, n, k⟩ := HY.out.trans (by unfold resPutAtoms; rw [if_pos]; unfold ndIs; exact HOK.out.symm)
    have HC := Lib.hid (show Calls Try.prog 44 #[.func (.func 43) #[] #[], .agg #[.int .i64 op, .int .i64 n, .slice A k.len c], .int .i64 14] w1 (Turns y w1.heap.size w1) by
      rw [hyy]
      exact by
        refine change_any (K := 43) (enters_of Try.func43 (by kernel_rfl) rfl) (st_rule (keeps_atoms formT_local)) w1 ?_ k.size 14 op n k A c w1 rfl hst (Below.refl _ _) HL1.out hii
        intro L p A c base bs w hb hst hi ht hbase hw0 hL
        exact putAtom_any formT_local L p.op p.n p.k A c base bs w hst hi ht hbase)
    have q0 := HRB1.out.cell (i := 0) rfl
    have q1 := HRB1.out.cell (i := 1) rfl
    have q2 := HRB1.out.cell (i := 2) rfl
    clear hst hii hyy HY
    go_wp2_with fail
    refine HC.out.mono ?_
    rintro e w5 ⟨A5, c5, b5, rfl, ht5, hb5, hi5⟩
    have hres5 := HRR1.out.below hb5 HRR1.out.size
    have c0 := hres5.cell (i := 0) rfl
    have c1 := hres5.cell (i := 1) rfl
    have c2 := hres5.cell (i := 2) rfl
    have f0 := hres5.free 0
    have f1 := hres5.free 1
    have f2 := hres5.free 2
    have hr3 := ((hres5.put 0 (.int .i64 y.op)).put 1 (.int .i64 y.n)).put 2 (.slice A5 y.k.len c5)
    have r0 := hr3.cell (i := 0) rfl
    have r1 := hr3.cell (i := 1) rfl
    have r2 := hr3.cell (i := 2) rfl
    have hz1 := HRR1.out.size
    have HBC := Lib.hid ((((HB1.out.trans (hb5.mono HB1.out.size)).setCell (p := ⟨w.heap.size + 1, 0, none⟩) (by dsimp only; omega) (.int .i64 y.op)).setCell (p := ⟨w.heap.size + 1, 1, none⟩) (by dsimp only; omega) (.int .i64 y.n)).setCell (p := ⟨w.heap.size + 1, 2, none⟩) (by dsimp only; omega) (.slice A5 y.k.len c5))
    have HTC := Lib.hid ((((ht5.put (p := ⟨w.heap.size + 1, 0, none⟩) hz1 (.int .i64 y.op)).put (p := ⟨w.heap.size + 1, 1, none⟩) hz1 (.int .i64 y.n)).put (p := ⟨w.heap.size + 1, 2, none⟩) hz1 (.slice A5 y.k.len c5)).lower HB1.out.size)
    clear hr3 hres5 ht5 hb5 hi5 hz1 q0 q1 q2
    go_wp2_with fail
    refine bodyPost_ret (v := .tuple #[.agg #[.int .i64 y.op, .int .i64 y.n, .slice A5 y.k.len c5], .bool true]) ?_ rfl ⟨A5, c5, b5, rfl, HTC.out, HBC.out⟩
    simp [results, Try.f17, go_sem, r0, r1, r2]
end Go.Proofs.Ytmnhoeliofojnaa
