/-
  spec.PartAt: the part at a path, copied.
-/
import Derived.Test.YtiefobkddckkbaaPath
import Derived.Test.YtiefobkddckkbaaCopyS
namespace Go.Proofs.Ytiefobkddckkbaa
open Go.RowKit Go.Shelf
set_option maxRecDepth 100000

/-- A zero node is stored into the result's box. -/
theorem zero_cells {wd : World} {g : Nat} (hr : Row wd g 33 #[Value.int IntKind.i64 0, Value.int IntKind.i64 0, Value.slice none 0 0]) :
    (((wd.setCell ⟨g, 0, none⟩ (.int .i64 0)).setCell ⟨g, 1, none⟩ (.int .i64 0)).setCell ⟨g, 2, none⟩ (.slice none 0 0)).cell? ⟨g, 0, none⟩ = some (.int .i64 0) ∧
    (((wd.setCell ⟨g, 0, none⟩ (.int .i64 0)).setCell ⟨g, 1, none⟩ (.int .i64 0)).setCell ⟨g, 2, none⟩ (.slice none 0 0)).cell? ⟨g, 1, none⟩ = some (.int .i64 0) ∧
    (((wd.setCell ⟨g, 0, none⟩ (.int .i64 0)).setCell ⟨g, 1, none⟩ (.int .i64 0)).setCell ⟨g, 2, none⟩ (.slice none 0 0)).cell? ⟨g, 2, none⟩ = some (.slice none 0 0) := by
  have h := ((hr.put 0 (.int .i64 0)).put 1 (.int .i64 0)).put 2 (.slice none 0 0)
  exact ⟨h.cell (i := 0) rfl, h.cell (i := 1) rfl, h.cell (i := 2) rfl⟩
theorem zero_end {w wd : World} {g : Nat} (hb : Below w.heap.size w wd) (hg : w.heap.size ≤ g) :
    GivesN ((none : Option Nd).getD nd0) (none : Option Nd).isSome w (.returned (.tuple #[.agg #[.int .i64 0, .int .i64 0, .slice none 0 0], .bool false])) (((wd.setCell ⟨g, 0, none⟩ (.int .i64 0)).setCell ⟨g, 1, none⟩ (.int .i64 0)).setCell ⟨g, 2, none⟩ (.slice none 0 0)) :=
  GivesN.zero (((hb.setCell hg _).setCell hg _).setCell hg _)

set_option maxHeartbeats 4000000 in
theorem specPart_any (op n : Int) (k : Fo) (A : Option Addr) (c : Nat) (zs : List Int) (A2 : Option Addr) (c2 : Nat) (w : World) (hl : Lies w 0 w.heap.size A 0 k) (hk : k.len ≤ maxLen) (hz : LiesI w 0 w.heap.size A2 zs) (hzl : zs.length ≤ 1048576) (hsz : k.size ≤ 1048576) (hi : I64 op ∧ I64 n) :
    Calls Try.prog 18 #[.agg #[.int .i64 op, .int .i64 n, .slice A k.len c], .slice A2 zs.length c2] w (GivesN ((partN ⟨op, n, k⟩ zs).getD nd0) (partN ⟨op, n, k⟩ zs).isSome w) := by
  obtain ⟨hb, r1, r2⟩ := two_boxes w 33 33 #[Value.int IntKind.i64 op, Value.int IntKind.i64 n, Value.slice A k.len c] #[Value.int IntKind.i64 0, Value.int IntKind.i64 0, Value.slice none 0 0]
  obtain ⟨W, hW⟩ : ∃ W, W = (w.alloc (Obj.cells #[Value.int IntKind.i64 op, Value.int IntKind.i64 n, Value.slice A k.len c] 33)).alloc (Obj.cells #[Value.int IntKind.i64 0, Value.int IntKind.i64 0, Value.slice none 0 0] 33) := ⟨_, rfl⟩
  rw [← hW] at hb r1 r2
  have HB := Lib.hid hb
  have HR1 := Lib.hid r1
  have HR2 := Lib.hid r2
  clear hb r1 r2
  obtain ⟨y, hy⟩ : ∃ y, y = partN ⟨op, n, k⟩ zs := ⟨_, rfl⟩
  rw [← hy]
  have HY := Lib.hid hy
  clear hy
  go_enter Try.func18, Try.ntmps18
  go_wp2_with fail
  rw [← hW]
  clear hW
  go_loopw [6] (fun i wr => ∃ (j : Nat) (q : Nd) (A' : Option Addr) (c' : Nat), j ≤ zs.length ∧ i = .int .i64 (j : Int) ∧ Row wr w.heap.size 33 #[.int .i64 q.op, .int .i64 q.n, .slice A' q.k.len c'] ∧ Lies wr 0 w.heap.size A' 0 q.k ∧ q.k.len ≤ maxLen ∧ (I64 q.op ∧ I64 q.n) ∧ q.k.size ≤ 1048576 ∧ y = partN q (zs.drop j) ∧
      Row wr (w.heap.size + 1) 33 #[Value.int IntKind.i64 0, Value.int IntKind.i64 0, Value.slice none 0 0] ∧ Below w.heap.size w wr)
    (fun i _ => zs.length - (intOf i).toNat)
  case atStart => exact ⟨0, ⟨op, n, k⟩, A, c, Nat.zero_le _, rfl, HR1.out, hl.below HB.out, hk, hi, hsz, by rw [List.drop_zero]; exact HY.out, HR2.out, HB.out⟩
  case round =>
    clear HR1 HR2 HB HY hl hi hsz hk
    obtain ⟨j, q, A', c', hj, rfl, hrow, hlq, hkq, hiq, hsq, hyq, hres, hb⟩ := hrel
    by_cases hlt : j < zs.length
    · have e1 := List.getElem?_eq_getElem hlt
      generalize zs[j] = x at e1
      obtain ⟨bz, oz, hA, _, hbb, ix, g0⟩ := hz j x e1
      subst hA
      rw [drop_cons e1] at hyq
      have HYQ := Lib.hid hyq
      have HLQ := Lib.hid hlq
      have HROW := Lib.hid hrow
      have HRES := Lib.hid hres
      have HB := Lib.hid hb
      have HIQ := Lib.hid hiq
      have g1 := (hb.cell (p := ⟨bz, oz + j, none⟩) hbb).trans g0
      have G0 := Lib.hid g0
      have q2 := hrow.cell (i := 2) rfl
      have hkm : q.k.len ≤ 9223372036854775807 := by unfold maxLen at hkq; omega
      clear e1 hyq hlq hrow hres hb hiq g0
      by_cases hx : x < 0
      · have hx1 : decide (x < 0) = true := by simpa using hx
        have HE := Lib.hid (HYQ.out.trans (partN_neg hx))
        go_wp2_with fail
        go_quiet (fail)
        have hbd := below_drewN (Below.refl wr.heap.size wr) nq
        have HBD := Lib.hid hbd
        have hres2 := HRES.out.below hbd HRES.out.size
        have d0 := hres2.cell (i := 0) rfl
        have d1 := hres2.cell (i := 1) rfl
        have d2 := hres2.cell (i := 2) rfl
        have f0 := hres2.free 0
        have f1 := hres2.free 1
        have f2 := hres2.free 2
        have HEND := Lib.hid (zero_end (HB.out.trans (hbd.mono HB.out.size)) (Nat.le_succ w.heap.size))
        obtain ⟨r0, r1, r2⟩ := zero_cells (HRES.out.below hbd HRES.out.size)
        clear hbd hres2
        go_wp2_with fail
        refine bodyPost_ret (v := .tuple #[.agg #[.int .i64 0, .int .i64 0, .slice none 0 0], .bool false]) ?_ rfl (by rw [HE.out]; exact HEND.out)
        simp [results, Try.f18, go_sem, r0, r1, r2]
      by_cases hxl : x.toNat < q.k.len
      · obtain ⟨o, m, k1, f1, f2, f3⟩ := Fo.drop_of_lt q.k x.toNat hxl
        have hl1 := HLQ.out.at_ x.toNat
        rw [Nat.zero_add, f1] at hl1
        obtain ⟨⟨kb, ko, A1, c1, hA, hlo, hhi, i1, i2, s0, s1, s2, k1', k2', hl2⟩, _⟩ := hl1
        subst hA
        obtain ⟨y1, rfl⟩ : ∃ y : Nat, x = (y : Int) := ⟨x.toNat, by omega⟩
        rw [Int.toNat_natCast] at f1 s0 s1 s2 hxl
        have HE := Lib.hid (HYQ.out.trans (partN_in (by omega) (by rw [Int.toNat_natCast]; exact f1)))
        have hx1 : decide ((y1 : Int) < 0) = false := by simp
        have hx2 : decide (q.k.len ≤ y1) = false := by simp; omega
        have HL2 := Lib.hid hl2
        have HS0 := Lib.hid s0
        have HS1 := Lib.hid s1
        have HS2 := Lib.hid s2
        have HII := Lib.hid (And.intro i1 i2)
        have hk1s : k1.size ≤ 1048576 := by omega
        clear f1 f2 f3 hl2 s0 s1 s2 i1 i2
        go_wp2_with fail
        go_quiet (fail)
        have hbd := below_drewN (Below.refl wr.heap.size wr) nq
        obtain ⟨wd, hwd⟩ : ∃ v, v = wr.drewN nq := ⟨_, rfl⟩
        rw [← hwd] at hbd ⊢
        clear hwd q2 g1
        have hkb : kb < wr.heap.size := Nat.lt_of_lt_of_le hhi HB.out.size
        have hbzw : bz < wr.heap.size := Nat.lt_of_lt_of_le hbb HB.out.size
        have g1 : wd.drew.cell? ⟨bz, oz + j, none⟩ = some (.int .i64 (y1 : Int)) := (hbd.cell (p := ⟨bz, oz + j, none⟩) hbzw).trans ((HB.out.cell (p := ⟨bz, oz + j, none⟩) hbb).trans G0.out)
        have hrw := HROW.out.below hbd HROW.out.size
        have q0 := hrw.cell (i := 0) rfl
        have q1 := hrw.cell (i := 1) rfl
        have q2 : wd.drew.cell? ⟨w.heap.size, 2, none⟩ = some (.slice (some ⟨kb, ko, none⟩) q.k.len c') := hrw.cell (i := 2) rfl
        have s0 : wd.drew.cell? ⟨kb, ko + y1 * 3, none⟩ = some (.int .i64 o) := (hbd.cell (p := ⟨kb, ko + y1 * 3, none⟩) hkb).trans HS0.out
        have s1 : wd.drew.cell? ⟨kb, ko + y1 * 3 + 1, none⟩ = some (.int .i64 m) := (hbd.cell (p := ⟨kb, ko + y1 * 3 + 1, none⟩) hkb).trans HS1.out
        have s2 : wd.drew.cell? ⟨kb, ko + y1 * 3 + 2, none⟩ = some (.slice A1 k1.len c1) := (hbd.cell (p := ⟨kb, ko + y1 * 3 + 2, none⟩) hkb).trans HS2.out
        have e0 : wd.drew.cell? ⟨w.heap.size, 0, none⟩ = some (.int .i64 q.op) := q0
        have e1 : wd.drew.cell? ⟨w.heap.size, 1, none⟩ = some (.int .i64 q.n) := q1
        have f0 : wd.drew.frozen? ⟨w.heap.size, 0, none⟩ = false := hrw.free 0
        have f1 : wd.drew.frozen? ⟨w.heap.size, 1, none⟩ = false := hrw.free 1
        have f2 : wd.drew.frozen? ⟨w.heap.size, 2, none⟩ = false := hrw.free 2
        have hrw1 := hrw.put 0 (.int .i64 o)
        have hrw2 := hrw1.put 1 (.int .i64 m)
        have e2 : (wd.setCell ⟨w.heap.size, 0, none⟩ (.int .i64 o)).drew.cell? ⟨w.heap.size, 1, none⟩ = some (.int .i64 q.n) := hrw1.cell (i := 1) rfl
        have f3 : (wd.setCell ⟨w.heap.size, 0, none⟩ (.int .i64 o)).drew.frozen? ⟨w.heap.size, 1, none⟩ = false := hrw1.free 1
        have e3 : ((wd.setCell ⟨w.heap.size, 0, none⟩ (.int .i64 o)).setCell ⟨w.heap.size, 1, none⟩ (.int .i64 m)).drew.cell? ⟨w.heap.size, 2, none⟩ = some (.slice (some ⟨kb, ko, none⟩) q.k.len c') := hrw2.cell (i := 2) rfl
        have f4 : ((wd.setCell ⟨w.heap.size, 0, none⟩ (.int .i64 o)).setCell ⟨w.heap.size, 1, none⟩ (.int .i64 m)).drew.frozen? ⟨w.heap.size, 2, none⟩ = false := hrw2.free 2
        have HRW := Lib.hid (hrw2.put 2 (.slice A1 k1.len c1))
        have HBD := Lib.hid hbd
        clear hrw hrw1 hrw2 hbd q0 q1
        go_wp2_with fail
        have HLZ := Lib.hid ((((HL2.out.below (HBD.out.mono HB.out.size)).set (p := ⟨w.heap.size, 0, none⟩) (.inr (Nat.le_refl _)) (.int .i64 o)).set (p := ⟨w.heap.size, 1, none⟩) (.inr (Nat.le_refl _)) (.int .i64 m)).set (p := ⟨w.heap.size, 2, none⟩) (.inr (Nat.le_refl _)) (.slice A1 k1.len c1))
        have HBZ := Lib.hid ((((HB.out.trans (HBD.out.mono HB.out.size)).setCell (p := ⟨w.heap.size, 0, none⟩) (Nat.le_refl _) (.int .i64 o)).setCell (p := ⟨w.heap.size, 1, none⟩) (Nat.le_refl _) (.int .i64 m)).setCell (p := ⟨w.heap.size, 2, none⟩) (Nat.le_refl _) (.slice A1 k1.len c1))
        have HRZ := Lib.hid ((((HRES.out.below HBD.out HRES.out.size).apart (p := ⟨w.heap.size, 0, none⟩) (by simp) (.int .i64 o)).apart (p := ⟨w.heap.size, 1, none⟩) (by simp) (.int .i64 m)).apart (p := ⟨w.heap.size, 2, none⟩) (by simp) (.slice A1 k1.len c1))
        go_region_law (fail)
        all_goals
          go_wp2_with fail
          go_roundw
          case rel => exact ⟨j + 1, ⟨o, m, k1⟩, A1, c1, hlt, by go_num, HRW.out.drew, HLZ.out.below (Below.refl _ _).drew, Nat.le_trans k1' k2', HII.out, hk1s, HE.out, HRZ.out.drew, HBZ.out.drew⟩
          case measure => simp [intOf]; omega
      · have hxg : (q.k.len : Int) ≤ x := by omega
        obtain ⟨y1, rfl⟩ : ∃ y : Nat, x = (y : Int) := ⟨x.toNat, by omega⟩
        have hx1 : decide ((y1 : Int) < 0) = false := by simp
        have hx2 : decide (q.k.len ≤ y1) = true := by simp; omega
        have HE := Lib.hid (HYQ.out.trans (partN_out (by omega)))
        go_wp2_with fail
        go_quiet (fail)
        have hbd := below_drewN (Below.refl wr.heap.size wr) nq
        have HBD := Lib.hid hbd
        have hres2 := HRES.out.below hbd HRES.out.size
        have d0 := hres2.cell (i := 0) rfl
        have d1 := hres2.cell (i := 1) rfl
        have d2 := hres2.cell (i := 2) rfl
        have f0 := hres2.free 0
        have f1 := hres2.free 1
        have f2 := hres2.free 2
        have HEND := Lib.hid (zero_end (HB.out.trans (hbd.mono HB.out.size)) (Nat.le_succ w.heap.size))
        obtain ⟨r0, r1, r2⟩ := zero_cells (HRES.out.below hbd HRES.out.size)
        clear hbd hres2
        go_wp2_with fail
        refine bodyPost_ret (v := .tuple #[.agg #[.int .i64 0, .int .i64 0, .slice none 0 0], .bool false]) ?_ rfl (by rw [HE.out]; exact HEND.out)
        simp [results, Try.f18, go_sem, r0, r1, r2]
    · have e9 : j = zs.length := by omega
      subst e9
      rw [List.drop_length] at hyq
      have HYQ := Lib.hid (show y = some q from hyq)
      have HC := Lib.hid (l1Copy_any q.k.size q.op q.n q.k A' c' wr rfl (hlq.mono_ (Nat.le_refl _) hb.size) hsq hiq)
      have HRES := Lib.hid hres
      have HB := Lib.hid hb
      have q0 := hrow.cell (i := 0) rfl
      have q1 := hrow.cell (i := 1) rfl
      have q2 := hrow.cell (i := 2) rfl
      clear hyq hlq hrow hres hb hiq
      go_wp2_with fail
      refine HC.out.mono ?_
      rintro e w5 ⟨A5, c5, bs5, rfl, ht5, hb5⟩
      have hb6 := HB.out.trans (hb5.mono HB.out.size)
      have hres5 := HRES.out.below hb5 HRES.out.size
      have hnb : w.heap.size + 1 ∉ bs5 := fun hz => by have := (ht5.lt _ hz).1; have := HRES.out.size; omega
      obtain ⟨⟨c0, c1, c2⟩, ⟨f0, f1, f2⟩, ⟨r0, r1, r2⟩, hbz, htz⟩ := box3 hres5 hb6 (Nat.le_succ w.heap.size) q.op q.n A5 q.k.len c5 (ht5.lower (base' := w.heap.size) HB.out.size) hnb
      have HBZ := Lib.hid hbz
      have HTZ := Lib.hid htz
      clear HC q0 q1 q2 ht5 hb5 hb6 hres5 hnb hbz htz
      go_wp2_with fail
      refine bodyPost_ret (v := .tuple #[.agg #[.int .i64 q.op, .int .i64 q.n, .slice A5 q.k.len c5], .bool true]) ?_ rfl (by rw [HYQ.out]; exact ⟨A5, c5, bs5, rfl, HTZ.out, HBZ.out⟩)
      simp [results, Try.f18, go_sem, r0, r1, r2]
end Go.Proofs.Ytiefobkddckkbaa
