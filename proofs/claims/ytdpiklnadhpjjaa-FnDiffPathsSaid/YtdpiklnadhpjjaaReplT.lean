/-
  spec.ReplaceAt (made by gen_replT.py).
-/
import Derived.Test.YtdpiklnadhpjjaaReplS
import Derived.Test.YtdpiklnadhpjjaaPartS
import Derived.Test.YtdpiklnadhpjjaaPathsS
namespace Go.Proofs.Ytdpiklnadhpjjaa
open Go.RowKit Go.Shelf
set_option maxRecDepth 100000

set_option maxHeartbeats 4000000 in
theorem specRepl_any (op n : Int) (k : Fo) (A : Option Addr) (c : Nat) (zs : List Int) (A2 : Option Addr) (c2 : Nat) (op' n' : Int) (k' : Fo) (A' : Option Addr) (c' : Nat) (w : World) (hl : Lies w 0 w.heap.size A 0 k) (hk : k.len ≤ maxLen) (hl' : Lies w 0 w.heap.size A' 0 k') (hk' : k'.len ≤ maxLen)
    (hz : LiesI w 0 w.heap.size A2 zs) (hzl : zs.length ≤ 1048576) (hzc : zs.length ≤ c2) (hc2 : c2 ≤ maxLen) (hsz : k.size ≤ 1048576) (hsz' : k'.size ≤ 1048576) (hi : I64 op ∧ I64 n) (hi' : I64 op' ∧ I64 n') :
    Calls Try.prog 23 #[.agg #[.int .i64 op, .int .i64 n, .slice A k.len c], .slice A2 zs.length c2, .agg #[.int .i64 op', .int .i64 n', .slice A' k'.len c']] w (GivesN ((resR ⟨op, n, k⟩ zs ⟨op', n', k'⟩).getD nd0) (resR ⟨op, n, k⟩ zs ⟨op', n', k'⟩).isSome w) := by
  obtain ⟨hb, r1, r2, r3⟩ := three_boxes w 25 #[Value.int IntKind.i64 op, Value.int IntKind.i64 n, Value.slice A k.len c] #[Value.int IntKind.i64 op', Value.int IntKind.i64 n', Value.slice A' k'.len c'] #[Value.int IntKind.i64 0, Value.int IntKind.i64 0, Value.slice none 0 0]
  obtain ⟨W, hW⟩ : ∃ W, W = ((w.alloc (Obj.cells #[Value.int IntKind.i64 op, Value.int IntKind.i64 n, Value.slice A k.len c] 25)).alloc (Obj.cells #[Value.int IntKind.i64 op', Value.int IntKind.i64 n', Value.slice A' k'.len c'] 25)).alloc (Obj.cells #[Value.int IntKind.i64 0, Value.int IntKind.i64 0, Value.slice none 0 0] 25) := ⟨_, rfl⟩
  rw [← hW] at hb r1 r2 r3
  have HB := Lib.hid hb
  have HRE := Lib.hid r1
  have HRX := Lib.hid r2
  have HRZ := Lib.hid r3
  have HLE := Lib.hid (hl.up hb)
  have HLX := Lib.hid (hl'.up hb)
  have HLZ := Lib.hid (hz.up hb)
  have HI := Lib.hid hi
  have HI' := Lib.hid hi'
  have HP := Lib.hid (specPart_any op n k A c zs A2 c2 W (hl.up hb) hk (hz.up hb) hzl hsz hi)
  have q0 := r1.cell (i := 0) rfl
  have q1 := r1.cell (i := 1) rfl
  have q2 := r1.cell (i := 2) rfl
  clear hb r1 r2 r3 hl hl' hz hi hi'
  obtain ⟨res, hres⟩ : ∃ r, r = resR ⟨op, n, k⟩ zs ⟨op', n', k'⟩ := ⟨_, rfl⟩
  rw [← hres]
  have HRS := Lib.hid hres
  clear hres
  obtain ⟨y, hy⟩ : ∃ y, y = (partN ⟨op, n, k⟩ zs).getD nd0 := ⟨_, rfl⟩
  obtain ⟨ok, hok⟩ : ∃ ok, ok = (partN ⟨op, n, k⟩ zs).isSome := ⟨_, rfl⟩
  rw [← hy, ← hok] at HP
  have HOK := Lib.hid hok
  clear hy hok
  go_enter Try.func23, Try.ntmps23
  go_upto_region 1 with fail
  rw [← hW]
  clear hW
  go_wp2_with fail
  refine HP.out.mono ?_
  rintro e w1 ⟨A3, c3, b3, rfl, ht3, hb1⟩
  obtain ⟨W1, hW1⟩ : ∃ V, V = w1.alloc (Obj.cells #[.int .i64 y.op, .int .i64 y.n, .slice A3 y.k.len c3] 25) := ⟨_, rfl⟩
  have b1 : Below w1.heap.size w1 W1 := by rw [hW1]; exact (Below.refl _ _).alloc (Nat.le_refl _) _
  have HB1 := Lib.hid (hb1.trans (b1.mono hb1.size))
  clear ht3 hb1 b1 HP q0 q1 q2
  go_upto_region 2 with fail
  rw [← hW1]
  clear hW1
  cases ok with
  | false =>
    have HZ := Lib.hid (show res = none by rw [HRS.out]; unfold resR; rw [← HOK.out]; simp)
    have hres := HRZ.out.below HB1.out HRZ.out.size
    have d0 := hres.cell (i := 0) rfl
    have d1 := hres.cell (i := 1) rfl
    have d2 := hres.cell (i := 2) rfl
    have f0 := hres.free 0
    have f1 := hres.free 1
    have f2 := hres.free 2
    have HEND := Lib.hid (zero_end (HB.out.trans (HB1.out.mono HB.out.size)) (show w.heap.size ≤ w.heap.size + 2 by omega))
    obtain ⟨r0, r1, r2⟩ := zero_cells hres
    clear hres
    go_wp2_with fail
    refine bodyPost_ret (v := .tuple #[.agg #[.int .i64 0, .int .i64 0, .slice none 0 0], .bool false]) ?_ rfl (by rw [HZ.out]; exact HEND.out)
    simp [results, Try.f23, go_sem, r0, r1, r2]
  | true =>
    have hre := HRE.out.below HB1.out HRE.out.size
    have q0 := hre.cell (i := 0) rfl
    have q1 := hre.cell (i := 1) rfl
    have q2 := hre.cell (i := 2) rfl
    have HV := Lib.hid (l1Any_any op n k A c W1 (HLE.out.up HB1.out) hk)
    clear hre
    go_wp2_with fail
    refine HV.out.mono ?_
    rintro e w2 ⟨rfl, hb2⟩
    have HB2 := Lib.hid (HB1.out.trans (hb2.mono HB1.out.size))
    clear HV q0 q1 q2 hb2 HB1
    cases hv : nodeIs op n k (firstS 8) with
    | false =>
      have HZ := Lib.hid (show res = none by rw [HRS.out]; unfold resR ndIs; simp [hv])
      have hres := HRZ.out.below HB2.out HRZ.out.size
      have d0 := hres.cell (i := 0) rfl
      have d1 := hres.cell (i := 1) rfl
      have d2 := hres.cell (i := 2) rfl
      have f0 := hres.free 0
      have f1 := hres.free 1
      have f2 := hres.free 2
      have HEND := Lib.hid (zero_end (HB.out.trans (HB2.out.mono HB.out.size)) (show w.heap.size ≤ w.heap.size + 2 by omega))
      obtain ⟨r0, r1, r2⟩ := zero_cells hres
      clear hres
      go_wp2_with fail
      refine bodyPost_ret (v := .tuple #[.agg #[.int .i64 0, .int .i64 0, .slice none 0 0], .bool false]) ?_ rfl (by rw [HZ.out]; exact HEND.out)
      simp [results, Try.f23, go_sem, r0, r1, r2]
    | true =>
      have hrx := HRX.out.below HB2.out HRX.out.size
      have q0 := hrx.cell (i := 0) rfl
      have q1 := hrx.cell (i := 1) rfl
      have q2 := hrx.cell (i := 2) rfl
      have HV2 := Lib.hid (l1Any_any op' n' k' A' c' w2 (HLX.out.up HB2.out) hk')
      clear hrx
      go_wp2_with fail
      refine HV2.out.mono ?_
      rintro e w3 ⟨rfl, hb3⟩
      have HB3 := Lib.hid (HB2.out.trans (hb3.mono HB2.out.size))
      clear HV2 q0 q1 q2 hb3 HB2
      cases hv' : nodeIs op' n' k' (firstS 8) with
      | false =>
        have HZ := Lib.hid (show res = none by rw [HRS.out]; unfold resR ndIs; simp [hv'])
        have hres := HRZ.out.below HB3.out HRZ.out.size
        have d0 := hres.cell (i := 0) rfl
        have d1 := hres.cell (i := 1) rfl
        have d2 := hres.cell (i := 2) rfl
        have f0 := hres.free 0
        have f1 := hres.free 1
        have f2 := hres.free 2
        have HEND := Lib.hid (zero_end (HB.out.trans (HB3.out.mono HB.out.size)) (show w.heap.size ≤ w.heap.size + 2 by omega))
        obtain ⟨r0, r1, r2⟩ := zero_cells hres
        clear hres
        go_wp2_with fail
        refine bodyPost_ret (v := .tuple #[.agg #[.int .i64 0, .int .i64 0, .slice none 0 0], .bool false]) ?_ rfl (by rw [HZ.out]; exact HEND.out)
        simp [results, Try.f23, go_sem, r0, r1, r2]
      | true =>
        obtain ⟨r, hr⟩ : ∃ r, r = replN ⟨op, n, k⟩ zs ⟨op', n', k'⟩ := ⟨_, rfl⟩
        have hcq := l9Repl_any op' n' k' A' c' HI'.out hsz' zs op n k A c A2 c2 w3 (HLE.out.up HB3.out) hsz HI.out (HLX.out.up HB3.out) (HLZ.out.up HB3.out) hzc hc2 hzl HOK.out.symm
        rw [← hr] at hcq
        have HCQ := Lib.hid hcq
        have HR := Lib.hid hr
        have hre := HRE.out.below HB3.out HRE.out.size
        have hrx := HRX.out.below HB3.out HRX.out.size
        have q0 := hre.cell (i := 0) rfl
        have q1 := hre.cell (i := 1) rfl
        have q2 := hre.cell (i := 2) rfl
        have p0 := hrx.cell (i := 0) rfl
        have p1 := hrx.cell (i := 1) rfl
        have p2 := hrx.cell (i := 2) rfl
        clear hre hrx hcq hr
        go_wp2_with fail
        refine HCQ.out.mono ?_
        rintro e w4 ⟨A9, c9, bs9, rfl, ht4, hb4⟩
        obtain ⟨_, _, hX, k91, k92⟩ := ht4.slice
        injection hX with gX1 gX2 gX3
        subst gX3
        clear gX1 gX2 q0 q1 q2 p0 p1 p2 HCQ
        obtain ⟨W9, hW9⟩ : ∃ V, V = w4.alloc (Obj.cells #[.int .i64 r.op, .int .i64 r.n, .slice A9 r.k.len c9] 25) := ⟨_, rfl⟩
        have b9 : Below w4.heap.size w4 W9 := by rw [hW9]; exact (Below.refl _ _).alloc (Nat.le_refl _) _
        have HY9 := Lib.hid (show Row W9 w4.heap.size 25 #[.int .i64 r.op, .int .i64 r.n, .slice A9 r.k.len c9] by rw [hW9]; exact Row.fresh _ _ _)
        have ht9 := ht4.over b9
        have HT9 := Lib.hid ht9
        have HB9 := Lib.hid (HB3.out.trans ((hb4.trans (b9.mono hb4.size)).mono HB3.out.size))
        have HV9 := Lib.hid (l1Any_any r.op r.n r.k A9 c9 W9 ht9.lies0 (Nat.le_trans k91 k92))
        clear ht4 ht9 hb4 b9
        go_upto_region 5 with fail
        rw [← hW9]
        clear hW9
        have hyy := HY9.out
        have q0 := hyy.cell (i := 0) rfl
        have q1 := hyy.cell (i := 1) rfl
        have q2 := hyy.cell (i := 2) rfl
        clear hyy
        go_wp2_with fail
        refine HV9.out.mono ?_
        rintro e w10 ⟨rfl, hb10⟩
        have HB10 := Lib.hid (HB9.out.trans (hb10.mono HB9.out.size))
        have hyy := HY9.out.below hb10 HY9.out.size
        have HT10 := Lib.hid (HT9.out.over hb10)
        clear hb10 q0 q1 q2 HV9 HT9
        cases hv9 : nodeIs r.op r.n r.k (firstS 8) with
        | false =>
          have HZ := Lib.hid (show res = none by rw [HRS.out]; unfold resR; rw [← HR.out]; simp [ndIs, hv9])
          clear hyy
          have hres := HRZ.out.below HB10.out HRZ.out.size
          have d0 := hres.cell (i := 0) rfl
          have d1 := hres.cell (i := 1) rfl
          have d2 := hres.cell (i := 2) rfl
          have f0 := hres.free 0
          have f1 := hres.free 1
          have f2 := hres.free 2
          have HEND := Lib.hid (zero_end (HB.out.trans (HB10.out.mono HB.out.size)) (show w.heap.size ≤ w.heap.size + 2 by omega))
          obtain ⟨r0, r1, r2⟩ := zero_cells hres
          clear hres
          go_wp2_with fail
          refine bodyPost_ret (v := .tuple #[.agg #[.int .i64 0, .int .i64 0, .slice none 0 0], .bool false]) ?_ rfl (by rw [HZ.out]; exact HEND.out)
          simp [results, Try.f23, go_sem, r0, r1, r2]
        | true =>
          have HZ := Lib.hid (show res = some r by rw [HRS.out]; unfold resR; rw [← HR.out, ← HOK.out]; simp [ndIs, hv, hv', hv9])
          have hb11 := HB.out.trans (HB10.out.mono HB.out.size)
          have hres := HRZ.out.below HB10.out HRZ.out.size
          have hnb : w.heap.size + 2 ∉ bs9 := fun hz => by have h1 := (HT10.out.lt _ hz).1; have h2 := HB3.out.size; have h3 := HRZ.out.size; omega
          obtain ⟨⟨d0, d1, d2⟩, ⟨f0, f1, f2⟩, ⟨r0, r1, r2⟩, hbz, htz⟩ := box3 hres hb11 (show w.heap.size ≤ w.heap.size + 2 by omega) r.op r.n A9 r.k.len c9 (HT10.out.lower (base' := w.heap.size) (by have h2 := HB3.out.size; have h3 := HRZ.out.size; omega)) hnb
          have HBZ := Lib.hid hbz
          have HTZ := Lib.hid htz
          have q0 := hyy.cell (i := 0) rfl
          have q1 := hyy.cell (i := 1) rfl
          have q2 := hyy.cell (i := 2) rfl
          clear hyy hb11 hres hnb hbz htz
          go_wp2_with fail
          refine bodyPost_ret (v := .tuple #[.agg #[.int .i64 r.op, .int .i64 r.n, .slice A9 r.k.len c9], .bool true]) ?_ rfl (by rw [HZ.out]; exact ⟨A9, c9, bs9, rfl, HTZ.out, HBZ.out⟩)
          simp [results, Try.f23, go_sem, r0, r1, r2]

theorem resR_le (p : Nd) (zs : List Int) (x : Nd) : ((resR p zs x).getD nd0).k.size ≤ 1048576 := by
  unfold resR
  split
  · rename_i h
    simp only [Bool.and_eq_true] at h
    exact Nat.le_trans (nd_small h.2) (by decide)
  · decide
end Go.Proofs.Ytdpiklnadhpjjaa
