/-
  (impl) foldIf, foldNode: making the steps that need no calls.
-/
import Derived.Test.YtemphmncdmbndaaDoorFoldT
import Derived.Test.YtemphmncdmbndaaDoorFoldE
import Derived.Test.YtemphmncdmbndaaDoorAtom
import Derived.Deep.RegionHeld3
import Derived.BigRegion
import Derived.Deep.CutRange
import Derived.BigQuiet
import Derived.Deep.QuietTactic
namespace Go.Proofs.YtemphmncdmbndaaDoor
open Go.RowKit Go.Shelf
set_option maxRecDepth 100000

/-- As Turns; and the tree does without the block gz. -/
def TurnsG (gz : Nat) (y : Nd) (base : Nat) (w : World) (e : Ending) (w' : World) : Prop :=
  ∃ A c bs, e = .returned (.agg #[.int .i64 y.op, .int .i64 y.n, .slice A y.k.len c]) ∧ Tree w' base (.slice A y.k.len c) y.k bs ∧ Below w.heap.size w w' ∧ (I64 y.op ∧ I64 y.n) ∧ gz ∉ bs
set_option maxHeartbeats 4000000 in
theorem foldIf_any {T : Int → Int → Nat → Prop} (hT : LocalT T) (hF : ∀ (op n : Int) (l : Nat), T op n l → formT op n l) (L : Nat) (op n : Int) (k : Fo) (A : Option Addr) (c base : Nat) (bs : List Nat) (w : World) (hst : St T L ⟨op, n, k⟩) (hi : I64 op ∧ I64 n) (ht : Tree w base (.slice A k.len c) k bs) (hbase : base ≤ w.heap.size) (h6 : op = 6) (gz : Nat) (hgz : gz ∉ bs) :
    Calls Tryd.prog 26 #[.agg #[.int .i64 op, .int .i64 n, .slice A k.len c]] w (TurnsG gz (gFold L ⟨op, n, k⟩) base w) := by
  have H6 := Lib.hid h6
  have HGZ := Lib.hid hgz
  clear h6 hgz
  obtain ⟨hb, r1, r2⟩ := two_boxes w 28 28 #[Value.int IntKind.i64 op, Value.int IntKind.i64 n, Value.slice A k.len c] #[.int .i64 0, .int .i64 0, .slice none 0 0]
  obtain ⟨W, hW⟩ : ∃ W, W = (w.alloc (Obj.cells #[Value.int IntKind.i64 op, Value.int IntKind.i64 n, Value.slice A k.len c] 28)).alloc (Obj.cells #[.int .i64 0, .int .i64 0, .slice none 0 0] 28) := ⟨_, rfl⟩
  rw [← hW] at hb r1 r2
  have HB0 := Lib.hid hb
  have HRB := Lib.hid r1
  have HRR := Lib.hid r2
  have HT := Lib.hid (ht.over hb)
  have HNB := Lib.hid (show w.heap.size + 1 ∉ bs from fun hz => by have := (ht.lt _ hz).2; omega)
  have HLOW := Lib.hid (show base ≤ base ∧ base ≤ W.heap.size from ⟨Nat.le_refl _, Nat.le_trans hbase hb.size⟩)
  have HST := Lib.hid hst
  have HTT := Lib.hid hT
  have HFM := Lib.hid hF
  have HI := Lib.hid hi
  obtain ⟨GP, hGP⟩ : ∃ GP, GP = gFold L ⟨op, n, k⟩ := ⟨_, rfl⟩
  rw [← hGP]
  have HGP := Lib.hid hGP
  clear hb r1 r2 ht hst hT hi hGP hbase hF
  go_enter Tryd.func26, Tryd.ntmps26
  go_upto_region 1 with fail
  rw [← hW]
  clear hW
  have h6 := H6.out
  obtain ⟨oa, ma, ka, ob, mb, kb, oc, mc, kc, ek, sta, stb, stc, hss⟩ := three_kids HST.out (kids_three (by have h9 := HTT.out.kids HST.out.all.1; dsimp only at h9; rw [h6] at h9; exact h9))
  dsimp only at ek
  subst h6
  subst ek
  obtain ⟨g, X, cx, X', cx', X2, cx2, b1, b2, b3, cs, hA, _, hg0, hrg, ⟨k0, k1, k2⟩, ⟨k3, k4, k5⟩, ⟨k6, k7, k8⟩, ⟨hta, htb, htc⟩, ⟨hia, hib, hic⟩, hsa, hsb, hsc⟩ := HT.out.three
  subst hA
  have HRG := Lib.hid hrg
  have HTB := Lib.hid htb
  have HTC := Lib.hid htc
  have HIA := Lib.hid (And.intro hib hic)
  have HSB := Lib.hid hsb
  have HSC := Lib.hid hsc
  have z0 := hrg.cell k0
  have z1 := hrg.cell k1
  have z2 := hrg.cell k2
  have z3 := hrg.cell k3
  have z4 := hrg.cell k4
  have z5 := hrg.cell k5
  have z6 := hrg.cell k6
  have z7 := hrg.cell k7
  have z8 := hrg.cell k8
  clear hrg hta htb htc hia hib hic sta stb stc k0 k1 k2 k3 k4 k5 k6 k7 k8 hss hsa hsb hsc
  have HBS := Lib.hid (Below.refl W.heap.size W)
  have q0 := HRB.out.cell (i := 0) rfl
  have q1 := HRB.out.cell (i := 1) rfl
  have q2 : W.cell? ⟨w.heap.size, 2, none⟩ = some (.slice (some ⟨g, 0, none⟩) 3 c) := HRB.out.cell (i := 2) rfl
  have HG := Lib.hid (show GP = (if oa = 1 then (if ma ≠ 0 then ⟨ob, mb, kb⟩ else ⟨oc, mc, kc⟩) else ⟨6, n, Fo.cons oa ma ka (Fo.cons ob mb kb (Fo.cons oc mc kc Fo.nil))⟩) from HGP.out.trans (gFold_if rfl))
  by_cases h1 : oa = 1
  · subst h1
    by_cases h0 : ma = 0
    · subst h0
      have HGE := Lib.hid (show GP = ⟨oc, mc, kc⟩ from HG.out.trans rfl)
      have hres5 := HRR.out.below HBS.out HRR.out.size
      have c0 := hres5.cell (i := 0) rfl
      have c1 := hres5.cell (i := 1) rfl
      have c2 := hres5.cell (i := 2) rfl
      have f0 := hres5.free 0
      have f1 := hres5.free 1
      have f2 := hres5.free 2
      have hres3 := ((hres5.put 0 (.int .i64 oc)).put 1 (.int .i64 mc)).put 2 (.slice X2 kc.len cx2)
      have r0 := hres3.cell (i := 0) rfl
      have r1 := hres3.cell (i := 1) rfl
      have r2 := hres3.cell (i := 2) rfl
      have HBZ := Lib.hid ((((HB0.out.trans (HBS.out.mono HB0.out.size)).setCell (p := ⟨w.heap.size + 1, 0, none⟩) (by dsimp only; omega) (.int .i64 oc)).setCell (p := ⟨w.heap.size + 1, 1, none⟩) (by dsimp only; omega) (.int .i64 mc)).setCell (p := ⟨w.heap.size + 1, 2, none⟩) (by dsimp only; omega) (.slice X2 kc.len cx2))
      obtain ⟨bz, htz, hap, hgz⟩ := (show ∃ bz, Tree _ base (.slice X2 kc.len cx2) kc bz ∧ w.heap.size + 1 ∉ bz ∧ gz ∉ bz from ⟨b3, (HTC.out.over HBS.out), fun hz => HNB.out (HSC.out _ hz), fun hz => HGZ.out (HSC.out _ hz)⟩)
      have HTZ := Lib.hid (((htz.keep_at (p := ⟨w.heap.size + 1, 0, none⟩) hap (.int .i64 oc)).keep_at (p := ⟨w.heap.size + 1, 1, none⟩) hap (.int .i64 mc)).keep_at (p := ⟨w.heap.size + 1, 2, none⟩) hap (.slice X2 kc.len cx2))
      have HGZ2 := Lib.hid hgz
      clear hres5 hres3 htz hap hgz
      go_wp2_with fail
      refine bodyPost_ret (v := .agg #[.int .i64 oc, .int .i64 mc, .slice X2 kc.len cx2]) ?_ rfl (by rw [HGE.out]; exact ⟨X2, cx2, bz, rfl, HTZ.out, HBZ.out, HIA.out.2, HGZ2.out⟩)
      simp [results, Tryd.f26, go_sem, r0, r1, r2]
    · have HGE := Lib.hid (show GP = ⟨ob, mb, kb⟩ from HG.out.trans (by rw [if_pos rfl, if_pos h0]))
      have bm : (ma != 0) = true := by simpa using h0
      have hres5 := HRR.out.below HBS.out HRR.out.size
      have c0 := hres5.cell (i := 0) rfl
      have c1 := hres5.cell (i := 1) rfl
      have c2 := hres5.cell (i := 2) rfl
      have f0 := hres5.free 0
      have f1 := hres5.free 1
      have f2 := hres5.free 2
      have hres3 := ((hres5.put 0 (.int .i64 ob)).put 1 (.int .i64 mb)).put 2 (.slice X' kb.len cx')
      have r0 := hres3.cell (i := 0) rfl
      have r1 := hres3.cell (i := 1) rfl
      have r2 := hres3.cell (i := 2) rfl
      have HBZ := Lib.hid ((((HB0.out.trans (HBS.out.mono HB0.out.size)).setCell (p := ⟨w.heap.size + 1, 0, none⟩) (by dsimp only; omega) (.int .i64 ob)).setCell (p := ⟨w.heap.size + 1, 1, none⟩) (by dsimp only; omega) (.int .i64 mb)).setCell (p := ⟨w.heap.size + 1, 2, none⟩) (by dsimp only; omega) (.slice X' kb.len cx'))
      obtain ⟨bz, htz, hap, hgz⟩ := (show ∃ bz, Tree _ base (.slice X' kb.len cx') kb bz ∧ w.heap.size + 1 ∉ bz ∧ gz ∉ bz from ⟨b2, (HTB.out.over HBS.out), fun hz => HNB.out (HSB.out _ hz), fun hz => HGZ.out (HSB.out _ hz)⟩)
      have HTZ := Lib.hid (((htz.keep_at (p := ⟨w.heap.size + 1, 0, none⟩) hap (.int .i64 ob)).keep_at (p := ⟨w.heap.size + 1, 1, none⟩) hap (.int .i64 mb)).keep_at (p := ⟨w.heap.size + 1, 2, none⟩) hap (.slice X' kb.len cx'))
      have HGZ2 := Lib.hid hgz
      clear hres5 hres3 htz hap hgz
      go_wp2_with fail
      refine bodyPost_ret (v := .agg #[.int .i64 ob, .int .i64 mb, .slice X' kb.len cx']) ?_ rfl (by rw [HGE.out]; exact ⟨X', cx', bz, rfl, HTZ.out, HBZ.out, HIA.out.1, HGZ2.out⟩)
      simp [results, Tryd.f26, go_sem, r0, r1, r2]
  · have HGE := Lib.hid (show GP = ⟨6, n, Fo.cons oa ma ka (Fo.cons ob mb kb (Fo.cons oc mc kc Fo.nil))⟩ from HG.out.trans (if_neg h1))
    have bo : (oa != 1) = true := by simpa using h1
    have hres5 := HRR.out.below HBS.out HRR.out.size
    have c0 := hres5.cell (i := 0) rfl
    have c1 := hres5.cell (i := 1) rfl
    have c2 := hres5.cell (i := 2) rfl
    have f0 := hres5.free 0
    have f1 := hres5.free 1
    have f2 := hres5.free 2
    have hres3 := ((hres5.put 0 (.int .i64 6)).put 1 (.int .i64 n)).put 2 (.slice (some ⟨g, 0, none⟩) 3 c)
    have r0 := hres3.cell (i := 0) rfl
    have r1 := hres3.cell (i := 1) rfl
    have r2 := hres3.cell (i := 2) rfl
    have HBZ := Lib.hid ((((HB0.out.trans (HBS.out.mono HB0.out.size)).setCell (p := ⟨w.heap.size + 1, 0, none⟩) (by dsimp only; omega) (.int .i64 6)).setCell (p := ⟨w.heap.size + 1, 1, none⟩) (by dsimp only; omega) (.int .i64 n)).setCell (p := ⟨w.heap.size + 1, 2, none⟩) (by dsimp only; omega) (.slice (some ⟨g, 0, none⟩) 3 c))
    obtain ⟨bz, htz, hap, hgz⟩ := (show ∃ bz, Tree _ base (.slice (some ⟨g, 0, none⟩) (Fo.cons oa ma ka (Fo.cons ob mb kb (Fo.cons oc mc kc Fo.nil))).len c) (Fo.cons oa ma ka (Fo.cons ob mb kb (Fo.cons oc mc kc Fo.nil))) bz ∧ w.heap.size + 1 ∉ bz ∧ gz ∉ bz from ⟨bs, (HT.out.over HBS.out), HNB.out, HGZ.out⟩)
    have HTZ := Lib.hid (((htz.keep_at (p := ⟨w.heap.size + 1, 0, none⟩) hap (.int .i64 6)).keep_at (p := ⟨w.heap.size + 1, 1, none⟩) hap (.int .i64 n)).keep_at (p := ⟨w.heap.size + 1, 2, none⟩) hap (.slice (some ⟨g, 0, none⟩) 3 c))
    have HGZ2 := Lib.hid hgz
    clear hres5 hres3 htz hap hgz
    go_wp2_with fail
    refine bodyPost_ret (v := .agg #[.int .i64 6, .int .i64 n, .slice (some ⟨g, 0, none⟩) 3 c]) ?_ rfl (by rw [HGE.out]; exact ⟨(some ⟨g, 0, none⟩), c, bz, rfl, HTZ.out, HBZ.out, HI.out, HGZ2.out⟩)
    simp [results, Tryd.f26, go_sem, r0, r1, r2]

set_option maxHeartbeats 4000000 in
theorem foldNode_any {T : Int → Int → Nat → Prop} (hT : LocalT T) (hF : ∀ (op n : Int) (l : Nat), T op n l → formT op n l) (L : Nat) (op n : Int) (k : Fo) (A : Option Addr) (c base : Nat) (bs : List Nat) (w : World) (hst : St T L ⟨op, n, k⟩) (hi : I64 op ∧ I64 n) (ht : Tree w base (.slice A k.len c) k bs) (hbase : base ≤ w.heap.size) :
    Calls Tryd.prog 16 #[.agg #[.int .i64 op, .int .i64 n, .slice A k.len c], .int .i64 (L : Int)] w (Turns (gFold L ⟨op, n, k⟩) base w) := by
  have HIF := Lib.hid (fun (w' : World) (h : Below w.heap.size w w') (h6 : op = 6) => foldIf_any hT hF L op n k A c base bs w' hst hi (ht.over h) (Nat.le_trans hbase h.size) h6 (w.heap.size + 1) (fun hz => by have := (ht.lt _ hz).2; omega))
  obtain ⟨hb, r1, r2⟩ := two_boxes w 28 28 #[Value.int IntKind.i64 op, Value.int IntKind.i64 n, Value.slice A k.len c] #[.int .i64 0, .int .i64 0, .slice none 0 0]
  obtain ⟨W, hW⟩ : ∃ W, W = (w.alloc (Obj.cells #[Value.int IntKind.i64 op, Value.int IntKind.i64 n, Value.slice A k.len c] 28)).alloc (Obj.cells #[.int .i64 0, .int .i64 0, .slice none 0 0] 28) := ⟨_, rfl⟩
  rw [← hW] at hb r1 r2
  have HB0 := Lib.hid hb
  have HRB := Lib.hid r1
  have HRR := Lib.hid r2
  have HT := Lib.hid (ht.over hb)
  have HNB := Lib.hid (show w.heap.size + 1 ∉ bs from fun hz => by have := (ht.lt _ hz).2; omega)
  have HLOW := Lib.hid (show base ≤ base ∧ base ≤ W.heap.size from ⟨Nat.le_refl _, Nat.le_trans hbase hb.size⟩)
  have HST := Lib.hid hst
  have HTT := Lib.hid hT
  have HFM := Lib.hid hF
  have HI := Lib.hid hi
  obtain ⟨GP, hGP⟩ : ∃ GP, GP = gFold L ⟨op, n, k⟩ := ⟨_, rfl⟩
  rw [← hGP]
  have HGP := Lib.hid hGP
  clear hb r1 r2 ht hst hT hi hGP hbase hF
  go_enter Tryd.func16, Tryd.ntmps16
  go_upto_region 1 with fail
  rw [← hW]
  clear hW
  by_cases h4 : op = 4
  · subst h4
    obtain ⟨oa, ma, ka, ob, mb, kb, ek, sta, stb, hss⟩ := two_kids HST.out (kids_two (HTT.out.kids HST.out.all.1) (.inl rfl))
    dsimp only at ek
    subst ek
    obtain ⟨g, X, cx, X', cx', b1, b2, cs, hA, _, hg0, hrg, k0, k1, k2, k3, k4, k5, hta, htb, hia, hib, hsa, hsb⟩ := HT.out.two
    subst hA
    have HRG := Lib.hid hrg
    have HTB := Lib.hid htb
    have HIA := Lib.hid (And.intro hia hib)
    have HSB := Lib.hid hsb
    have HSAB := Lib.hid (And.intro sta stb)
    have HK := Lib.hid (And.intro k3 (And.intro k4 k5))
    have z0 := hrg.cell k0
    have z1 := hrg.cell k1
    have z2 := hrg.cell k2
    have z3 := hrg.cell k3
    have z4 := hrg.cell k4
    have z5 := hrg.cell k5
    clear hrg hta htb hia hib sta stb k0 k1 k2 k3 k4 k5 hss hsa hsb
    have HBS := Lib.hid (Below.refl W.heap.size W)
    have q0 := HRB.out.cell (i := 0) rfl
    have q1 := HRB.out.cell (i := 1) rfl
    have q2 : W.cell? ⟨w.heap.size, 2, none⟩ = some (.slice (some ⟨g, 0, none⟩) 2 c) := HRB.out.cell (i := 2) rfl
    by_cases h1 : oa = 1
    · by_cases h2 : ob = 1
      · subst h1
        subst h2
        have na := num_own (HFM.out _ _ _ HSAB.out.1.all.1)
        have nb := num_own (HFM.out _ _ _ HSAB.out.2.all.1)
        dsimp only at na nb
        have HEV := Lib.hid (evalAdd_any n ma mb g c X X' ka.len cx kb.len cx' W z0 z1 z2 z3 z4 z5 na nb)
        have HGE := Lib.hid (show GP = ⟨1, foldV 4 ma mb, Fo.nil⟩ from HGP.out.trans (gFold_num (.inl rfl) rfl rfl))
        have HIV := Lib.hid (show I64 1 ∧ I64 (foldV 4 ma mb) from ⟨by unfold I64; omega, by have hv := foldV_ok (op := 4) na.1 nb.1; unfold I64; omega⟩)
        obtain ⟨v, hv⟩ : ∃ v, v = foldV 4 ma mb := ⟨_, rfl⟩
        rw [← hv] at HEV HGE HIV
        clear hv na nb
        have hfl : ∀ w : World, (Instr.field 50 (.agg #[.int .i64 0, .int .i64 v, .slice none 0 0, .slice none 0 0]) 1).run Tryd.prog w = .ok (.int .i64 v) w := fun _ => by kernel_rfl
        go_wp2_with fail
        refine HEV.out.mono ?_
        rintro e w5 ⟨rfl, hb5⟩
        have HB5 := Lib.hid hb5
        clear hb5 HEV q0 q1 q2 z0 z1 z2 z3 z4 z5
        have hres5 := HRR.out.below HB5.out HRR.out.size
        have c0 := hres5.cell (i := 0) rfl
        have c1 := hres5.cell (i := 1) rfl
        have c2 := hres5.cell (i := 2) rfl
        have f0 := hres5.free 0
        have f1 := hres5.free 1
        have f2 := hres5.free 2
        have hres3 := ((hres5.put 0 (.int .i64 1)).put 1 (.int .i64 v)).put 2 (.slice none 0 0)
        have r0 := hres3.cell (i := 0) rfl
        have r1 := hres3.cell (i := 1) rfl
        have r2 := hres3.cell (i := 2) rfl
        have HBZ := Lib.hid ((((HB0.out.trans (HB5.out.mono HB0.out.size)).setCell (p := ⟨w.heap.size + 1, 0, none⟩) (by dsimp only; omega) (.int .i64 1)).setCell (p := ⟨w.heap.size + 1, 1, none⟩) (by dsimp only; omega) (.int .i64 v)).setCell (p := ⟨w.heap.size + 1, 2, none⟩) (by dsimp only; omega) (.slice none 0 0))
        obtain ⟨bz, htz, hap⟩ := (show ∃ bz, Tree w5 base (.slice none Fo.nil.len 0) Fo.nil bz ∧ w.heap.size + 1 ∉ bz from ⟨[], Tree.none _ _, by simp⟩)
        have HTZ := Lib.hid (((htz.keep_at (p := ⟨w.heap.size + 1, 0, none⟩) hap (.int .i64 1)).keep_at (p := ⟨w.heap.size + 1, 1, none⟩) hap (.int .i64 v)).keep_at (p := ⟨w.heap.size + 1, 2, none⟩) hap (.slice none 0 0))
        clear hres5 hres3 htz hap
        go_wp2_with fail
        refine bodyPost_ret (v := .agg #[.int .i64 1, .int .i64 v, .slice none 0 0]) ?_ rfl (by rw [HGE.out]; exact ⟨none, 0, bz, rfl, HTZ.out, HBZ.out, HIV.out⟩)
        simp [results, Tryd.f16, go_sem, r0, r1, r2]
      · have HGE := Lib.hid (show GP = ⟨4, n, Fo.cons oa ma ka (Fo.cons ob mb kb Fo.nil)⟩ from HGP.out.trans (gFold_arith (.inl rfl) (fun h => h2 h.2)))
        have bo1 : (oa == 1) = true := by simpa using h1
        have bo : (ob == 1) = false := by simpa using h2
        have hres5 := HRR.out.below HBS.out HRR.out.size
        have c0 := hres5.cell (i := 0) rfl
        have c1 := hres5.cell (i := 1) rfl
        have c2 := hres5.cell (i := 2) rfl
        have f0 := hres5.free 0
        have f1 := hres5.free 1
        have f2 := hres5.free 2
        have hres3 := ((hres5.put 0 (.int .i64 4)).put 1 (.int .i64 n)).put 2 (.slice (some ⟨g, 0, none⟩) 2 c)
        have r0 := hres3.cell (i := 0) rfl
        have r1 := hres3.cell (i := 1) rfl
        have r2 := hres3.cell (i := 2) rfl
        have HBZ := Lib.hid ((((HB0.out.trans (HBS.out.mono HB0.out.size)).setCell (p := ⟨w.heap.size + 1, 0, none⟩) (by dsimp only; omega) (.int .i64 4)).setCell (p := ⟨w.heap.size + 1, 1, none⟩) (by dsimp only; omega) (.int .i64 n)).setCell (p := ⟨w.heap.size + 1, 2, none⟩) (by dsimp only; omega) (.slice (some ⟨g, 0, none⟩) 2 c))
        obtain ⟨bz, htz, hap⟩ := (show ∃ bz, Tree _ base (.slice (some ⟨g, 0, none⟩) (Fo.cons oa ma ka (Fo.cons ob mb kb Fo.nil)).len c) (Fo.cons oa ma ka (Fo.cons ob mb kb Fo.nil)) bz ∧ w.heap.size + 1 ∉ bz from ⟨bs, (HT.out.over HBS.out), HNB.out⟩)
        have HTZ := Lib.hid (((htz.keep_at (p := ⟨w.heap.size + 1, 0, none⟩) hap (.int .i64 4)).keep_at (p := ⟨w.heap.size + 1, 1, none⟩) hap (.int .i64 n)).keep_at (p := ⟨w.heap.size + 1, 2, none⟩) hap (.slice (some ⟨g, 0, none⟩) 2 c))
        clear hres5 hres3 htz hap
        go_wp2_with fail
        refine bodyPost_ret (v := .agg #[.int .i64 4, .int .i64 n, .slice (some ⟨g, 0, none⟩) 2 c]) ?_ rfl (by rw [HGE.out]; exact ⟨(some ⟨g, 0, none⟩), c, bz, rfl, HTZ.out, HBZ.out, HI.out⟩)
        simp [results, Tryd.f16, go_sem, r0, r1, r2]
    · have HGE := Lib.hid (show GP = ⟨4, n, Fo.cons oa ma ka (Fo.cons ob mb kb Fo.nil)⟩ from HGP.out.trans (gFold_arith (.inl rfl) (fun h => h1 h.1)))
      have bo : (oa == 1) = false := by simpa using h1
      have hres5 := HRR.out.below HBS.out HRR.out.size
      have c0 := hres5.cell (i := 0) rfl
      have c1 := hres5.cell (i := 1) rfl
      have c2 := hres5.cell (i := 2) rfl
      have f0 := hres5.free 0
      have f1 := hres5.free 1
      have f2 := hres5.free 2
      have hres3 := ((hres5.put 0 (.int .i64 4)).put 1 (.int .i64 n)).put 2 (.slice (some ⟨g, 0, none⟩) 2 c)
      have r0 := hres3.cell (i := 0) rfl
      have r1 := hres3.cell (i := 1) rfl
      have r2 := hres3.cell (i := 2) rfl
      have HBZ := Lib.hid ((((HB0.out.trans (HBS.out.mono HB0.out.size)).setCell (p := ⟨w.heap.size + 1, 0, none⟩) (by dsimp only; omega) (.int .i64 4)).setCell (p := ⟨w.heap.size + 1, 1, none⟩) (by dsimp only; omega) (.int .i64 n)).setCell (p := ⟨w.heap.size + 1, 2, none⟩) (by dsimp only; omega) (.slice (some ⟨g, 0, none⟩) 2 c))
      obtain ⟨bz, htz, hap⟩ := (show ∃ bz, Tree _ base (.slice (some ⟨g, 0, none⟩) (Fo.cons oa ma ka (Fo.cons ob mb kb Fo.nil)).len c) (Fo.cons oa ma ka (Fo.cons ob mb kb Fo.nil)) bz ∧ w.heap.size + 1 ∉ bz from ⟨bs, (HT.out.over HBS.out), HNB.out⟩)
      have HTZ := Lib.hid (((htz.keep_at (p := ⟨w.heap.size + 1, 0, none⟩) hap (.int .i64 4)).keep_at (p := ⟨w.heap.size + 1, 1, none⟩) hap (.int .i64 n)).keep_at (p := ⟨w.heap.size + 1, 2, none⟩) hap (.slice (some ⟨g, 0, none⟩) 2 c))
      clear hres5 hres3 htz hap
      go_wp2_with fail
      refine bodyPost_ret (v := .agg #[.int .i64 4, .int .i64 n, .slice (some ⟨g, 0, none⟩) 2 c]) ?_ rfl (by rw [HGE.out]; exact ⟨(some ⟨g, 0, none⟩), c, bz, rfl, HTZ.out, HBZ.out, HI.out⟩)
      simp [results, Tryd.f16, go_sem, r0, r1, r2]
  · by_cases h5 : op = 5
    · subst h5
      obtain ⟨oa, ma, ka, ob, mb, kb, ek, sta, stb, hss⟩ := two_kids HST.out (kids_two (HTT.out.kids HST.out.all.1) (.inr (.inl rfl)))
      dsimp only at ek
      subst ek
      obtain ⟨g, X, cx, X', cx', b1, b2, cs, hA, _, hg0, hrg, k0, k1, k2, k3, k4, k5, hta, htb, hia, hib, hsa, hsb⟩ := HT.out.two
      subst hA
      have HRG := Lib.hid hrg
      have HTB := Lib.hid htb
      have HIA := Lib.hid (And.intro hia hib)
      have HSB := Lib.hid hsb
      have HSAB := Lib.hid (And.intro sta stb)
      have HK := Lib.hid (And.intro k3 (And.intro k4 k5))
      have z0 := hrg.cell k0
      have z1 := hrg.cell k1
      have z2 := hrg.cell k2
      have z3 := hrg.cell k3
      have z4 := hrg.cell k4
      have z5 := hrg.cell k5
      clear hrg hta htb hia hib sta stb k0 k1 k2 k3 k4 k5 hss hsa hsb
      have HBS := Lib.hid (Below.refl W.heap.size W)
      have q0 := HRB.out.cell (i := 0) rfl
      have q1 := HRB.out.cell (i := 1) rfl
      have q2 : W.cell? ⟨w.heap.size, 2, none⟩ = some (.slice (some ⟨g, 0, none⟩) 2 c) := HRB.out.cell (i := 2) rfl
      by_cases h1 : oa = 1
      · by_cases h2 : ob = 1
        · subst h1
          subst h2
          have na := num_own (HFM.out _ _ _ HSAB.out.1.all.1)
          have nb := num_own (HFM.out _ _ _ HSAB.out.2.all.1)
          dsimp only at na nb
          have HEV := Lib.hid (evalLess_any n ma mb g c X X' ka.len cx kb.len cx' W z0 z1 z2 z3 z4 z5 na nb)
          have HGE := Lib.hid (show GP = ⟨1, foldV 5 ma mb, Fo.nil⟩ from HGP.out.trans (gFold_num (.inr rfl) rfl rfl))
          have HIV := Lib.hid (show I64 1 ∧ I64 (foldV 5 ma mb) from ⟨by unfold I64; omega, by have hv := foldV_ok (op := 5) na.1 nb.1; unfold I64; omega⟩)
          obtain ⟨v, hv⟩ : ∃ v, v = foldV 5 ma mb := ⟨_, rfl⟩
          rw [← hv] at HEV HGE HIV
          clear hv na nb
          have hfl : ∀ w : World, (Instr.field 50 (.agg #[.int .i64 0, .int .i64 v, .slice none 0 0, .slice none 0 0]) 1).run Tryd.prog w = .ok (.int .i64 v) w := fun _ => by kernel_rfl
          go_wp2_with fail
          refine HEV.out.mono ?_
          rintro e w5 ⟨rfl, hb5⟩
          have HB5 := Lib.hid hb5
          clear hb5 HEV q0 q1 q2 z0 z1 z2 z3 z4 z5
          have hres5 := HRR.out.below HB5.out HRR.out.size
          have c0 := hres5.cell (i := 0) rfl
          have c1 := hres5.cell (i := 1) rfl
          have c2 := hres5.cell (i := 2) rfl
          have f0 := hres5.free 0
          have f1 := hres5.free 1
          have f2 := hres5.free 2
          have hres3 := ((hres5.put 0 (.int .i64 1)).put 1 (.int .i64 v)).put 2 (.slice none 0 0)
          have r0 := hres3.cell (i := 0) rfl
          have r1 := hres3.cell (i := 1) rfl
          have r2 := hres3.cell (i := 2) rfl
          have HBZ := Lib.hid ((((HB0.out.trans (HB5.out.mono HB0.out.size)).setCell (p := ⟨w.heap.size + 1, 0, none⟩) (by dsimp only; omega) (.int .i64 1)).setCell (p := ⟨w.heap.size + 1, 1, none⟩) (by dsimp only; omega) (.int .i64 v)).setCell (p := ⟨w.heap.size + 1, 2, none⟩) (by dsimp only; omega) (.slice none 0 0))
          obtain ⟨bz, htz, hap⟩ := (show ∃ bz, Tree w5 base (.slice none Fo.nil.len 0) Fo.nil bz ∧ w.heap.size + 1 ∉ bz from ⟨[], Tree.none _ _, by simp⟩)
          have HTZ := Lib.hid (((htz.keep_at (p := ⟨w.heap.size + 1, 0, none⟩) hap (.int .i64 1)).keep_at (p := ⟨w.heap.size + 1, 1, none⟩) hap (.int .i64 v)).keep_at (p := ⟨w.heap.size + 1, 2, none⟩) hap (.slice none 0 0))
          clear hres5 hres3 htz hap
          go_wp2_with fail
          refine bodyPost_ret (v := .agg #[.int .i64 1, .int .i64 v, .slice none 0 0]) ?_ rfl (by rw [HGE.out]; exact ⟨none, 0, bz, rfl, HTZ.out, HBZ.out, HIV.out⟩)
          simp [results, Tryd.f16, go_sem, r0, r1, r2]
        · have HGE := Lib.hid (show GP = ⟨5, n, Fo.cons oa ma ka (Fo.cons ob mb kb Fo.nil)⟩ from HGP.out.trans (gFold_arith (.inr rfl) (fun h => h2 h.2)))
          have bo1 : (oa == 1) = true := by simpa using h1
          have bo : (ob == 1) = false := by simpa using h2
          have hres5 := HRR.out.below HBS.out HRR.out.size
          have c0 := hres5.cell (i := 0) rfl
          have c1 := hres5.cell (i := 1) rfl
          have c2 := hres5.cell (i := 2) rfl
          have f0 := hres5.free 0
          have f1 := hres5.free 1
          have f2 := hres5.free 2
          have hres3 := ((hres5.put 0 (.int .i64 5)).put 1 (.int .i64 n)).put 2 (.slice (some ⟨g, 0, none⟩) 2 c)
          have r0 := hres3.cell (i := 0) rfl
          have r1 := hres3.cell (i := 1) rfl
          have r2 := hres3.cell (i := 2) rfl
          have HBZ := Lib.hid ((((HB0.out.trans (HBS.out.mono HB0.out.size)).setCell (p := ⟨w.heap.size + 1, 0, none⟩) (by dsimp only; omega) (.int .i64 5)).setCell (p := ⟨w.heap.size + 1, 1, none⟩) (by dsimp only; omega) (.int .i64 n)).setCell (p := ⟨w.heap.size + 1, 2, none⟩) (by dsimp only; omega) (.slice (some ⟨g, 0, none⟩) 2 c))
          obtain ⟨bz, htz, hap⟩ := (show ∃ bz, Tree _ base (.slice (some ⟨g, 0, none⟩) (Fo.cons oa ma ka (Fo.cons ob mb kb Fo.nil)).len c) (Fo.cons oa ma ka (Fo.cons ob mb kb Fo.nil)) bz ∧ w.heap.size + 1 ∉ bz from ⟨bs, (HT.out.over HBS.out), HNB.out⟩)
          have HTZ := Lib.hid (((htz.keep_at (p := ⟨w.heap.size + 1, 0, none⟩) hap (.int .i64 5)).keep_at (p := ⟨w.heap.size + 1, 1, none⟩) hap (.int .i64 n)).keep_at (p := ⟨w.heap.size + 1, 2, none⟩) hap (.slice (some ⟨g, 0, none⟩) 2 c))
          clear hres5 hres3 htz hap
          go_wp2_with fail
          refine bodyPost_ret (v := .agg #[.int .i64 5, .int .i64 n, .slice (some ⟨g, 0, none⟩) 2 c]) ?_ rfl (by rw [HGE.out]; exact ⟨(some ⟨g, 0, none⟩), c, bz, rfl, HTZ.out, HBZ.out, HI.out⟩)
          simp [results, Tryd.f16, go_sem, r0, r1, r2]
      · have HGE := Lib.hid (show GP = ⟨5, n, Fo.cons oa ma ka (Fo.cons ob mb kb Fo.nil)⟩ from HGP.out.trans (gFold_arith (.inr rfl) (fun h => h1 h.1)))
        have bo : (oa == 1) = false := by simpa using h1
        have hres5 := HRR.out.below HBS.out HRR.out.size
        have c0 := hres5.cell (i := 0) rfl
        have c1 := hres5.cell (i := 1) rfl
        have c2 := hres5.cell (i := 2) rfl
        have f0 := hres5.free 0
        have f1 := hres5.free 1
        have f2 := hres5.free 2
        have hres3 := ((hres5.put 0 (.int .i64 5)).put 1 (.int .i64 n)).put 2 (.slice (some ⟨g, 0, none⟩) 2 c)
        have r0 := hres3.cell (i := 0) rfl
        have r1 := hres3.cell (i := 1) rfl
        have r2 := hres3.cell (i := 2) rfl
        have HBZ := Lib.hid ((((HB0.out.trans (HBS.out.mono HB0.out.size)).setCell (p := ⟨w.heap.size + 1, 0, none⟩) (by dsimp only; omega) (.int .i64 5)).setCell (p := ⟨w.heap.size + 1, 1, none⟩) (by dsimp only; omega) (.int .i64 n)).setCell (p := ⟨w.heap.size + 1, 2, none⟩) (by dsimp only; omega) (.slice (some ⟨g, 0, none⟩) 2 c))
        obtain ⟨bz, htz, hap⟩ := (show ∃ bz, Tree _ base (.slice (some ⟨g, 0, none⟩) (Fo.cons oa ma ka (Fo.cons ob mb kb Fo.nil)).len c) (Fo.cons oa ma ka (Fo.cons ob mb kb Fo.nil)) bz ∧ w.heap.size + 1 ∉ bz from ⟨bs, (HT.out.over HBS.out), HNB.out⟩)
        have HTZ := Lib.hid (((htz.keep_at (p := ⟨w.heap.size + 1, 0, none⟩) hap (.int .i64 5)).keep_at (p := ⟨w.heap.size + 1, 1, none⟩) hap (.int .i64 n)).keep_at (p := ⟨w.heap.size + 1, 2, none⟩) hap (.slice (some ⟨g, 0, none⟩) 2 c))
        clear hres5 hres3 htz hap
        go_wp2_with fail
        refine bodyPost_ret (v := .agg #[.int .i64 5, .int .i64 n, .slice (some ⟨g, 0, none⟩) 2 c]) ?_ rfl (by rw [HGE.out]; exact ⟨(some ⟨g, 0, none⟩), c, bz, rfl, HTZ.out, HBZ.out, HI.out⟩)
        simp [results, Tryd.f16, go_sem, r0, r1, r2]
    · have b4 : (op == 4) = false := by simpa using h4
      have b5 : (op == 5) = false := by simpa using h5
      by_cases h6 : op = 6
      · have HC := Lib.hid (HIF.out W HB0.out h6)
        rw [← HGP.out] at HC
        subst h6
        have q0 := HRB.out.cell (i := 0) rfl
        have q1 := HRB.out.cell (i := 1) rfl
        have q2 := HRB.out.cell (i := 2) rfl
        go_wp2_with fail
        refine HC.out.mono ?_
        rintro e w5 ⟨A5, c5, b5, rfl, ht5, hb5, hi5, hnb5⟩
        have HB5 := Lib.hid hb5
        have HT5 := Lib.hid ht5
        have HI5 := Lib.hid hi5
        have HNB5 := Lib.hid hnb5
        clear hnb5 hb5 ht5 hi5 HC q0 q1 q2
        have hres5 := HRR.out.below HB5.out HRR.out.size
        have c0 := hres5.cell (i := 0) rfl
        have c1 := hres5.cell (i := 1) rfl
        have c2 := hres5.cell (i := 2) rfl
        have f0 := hres5.free 0
        have f1 := hres5.free 1
        have f2 := hres5.free 2
        have hres3 := ((hres5.put 0 (.int .i64 GP.op)).put 1 (.int .i64 GP.n)).put 2 (.slice A5 GP.k.len c5)
        have r0 := hres3.cell (i := 0) rfl
        have r1 := hres3.cell (i := 1) rfl
        have r2 := hres3.cell (i := 2) rfl
        have HBZ := Lib.hid ((((HB0.out.trans (HB5.out.mono HB0.out.size)).setCell (p := ⟨w.heap.size + 1, 0, none⟩) (by dsimp only; omega) (.int .i64 GP.op)).setCell (p := ⟨w.heap.size + 1, 1, none⟩) (by dsimp only; omega) (.int .i64 GP.n)).setCell (p := ⟨w.heap.size + 1, 2, none⟩) (by dsimp only; omega) (.slice A5 GP.k.len c5))
        obtain ⟨bz, htz, hap⟩ := (show ∃ bz, Tree _ base (.slice A5 GP.k.len c5) GP.k bz ∧ w.heap.size + 1 ∉ bz from ⟨b5, HT5.out, HNB5.out⟩)
        have HTZ := Lib.hid (((htz.keep_at (p := ⟨w.heap.size + 1, 0, none⟩) hap (.int .i64 GP.op)).keep_at (p := ⟨w.heap.size + 1, 1, none⟩) hap (.int .i64 GP.n)).keep_at (p := ⟨w.heap.size + 1, 2, none⟩) hap (.slice A5 GP.k.len c5))
        clear hres5 hres3 htz hap
        go_wp2_with fail
        refine bodyPost_ret (v := .agg #[.int .i64 GP.op, .int .i64 GP.n, .slice A5 GP.k.len c5]) ?_ rfl (by rw [(show GP = GP from rfl)]; exact ⟨A5, c5, bz, rfl, HTZ.out, HBZ.out, HI5.out⟩)
        simp [results, Tryd.f16, go_sem, r0, r1, r2]
      · have b6 : (op == 6) = false := by simpa using h6
        by_cases h8 : op = 8
        · subst h8
          obtain ⟨oa, ma, ka, ob, mb, kb, ek, sta, stb, hss⟩ := two_kids HST.out (kids_two (HTT.out.kids HST.out.all.1) (.inr (.inr (.inr rfl))))
          dsimp only at ek
          subst ek
          obtain ⟨g, X, cx, X', cx', b1, b2, cs, hA, _, hg0, hrg, k0, k1, k2, k3, k4, k5, hta, htb, hia, hib, hsa, hsb⟩ := HT.out.two
          subst hA
          have HRG := Lib.hid hrg
          have HTB := Lib.hid htb
          have HIA := Lib.hid (And.intro hia hib)
          have HSB := Lib.hid hsb
          have HSAB := Lib.hid (And.intro sta stb)
          have HK := Lib.hid (And.intro k3 (And.intro k4 k5))
          have z0 := hrg.cell k0
          have z1 := hrg.cell k1
          have z2 := hrg.cell k2
          have z3 := hrg.cell k3
          have z4 := hrg.cell k4
          have z5 := hrg.cell k5
          clear hrg hta htb hia hib sta stb k0 k1 k2 k3 k4 k5 hss hsa hsb
          have HAT := Lib.hid (implAtom_any oa ma ka X cx W)
          have HG := Lib.hid (show GP = if atomB oa ka = true then ⟨ob, mb, kb⟩ else ⟨8, n, Fo.cons oa ma ka (Fo.cons ob mb kb Fo.nil)⟩ from HGP.out.trans (gFold_seq rfl))
          obtain ⟨at0, hat⟩ : ∃ at0, at0 = atomB oa ka := ⟨_, rfl⟩
          rw [← hat] at HAT HG
          clear hat
          have q0 := HRB.out.cell (i := 0) rfl
          have q1 := HRB.out.cell (i := 1) rfl
          have q2 : W.cell? ⟨w.heap.size, 2, none⟩ = some (.slice (some ⟨g, 0, none⟩) 2 c) := HRB.out.cell (i := 2) rfl
          go_wp2_with fail
          refine HAT.out.mono ?_
          rintro e w5 ⟨rfl, hb5⟩
          have HB5 := Lib.hid hb5
          have HRG5 := Lib.hid (HRG.out.below hb5 HRG.out.size)
          clear hb5 HAT q0 q1 q2 z0 z1 z2 z3 z4 z5
          have q0 := (HRB.out.below HB5.out HRB.out.size).cell (i := 0) rfl
          have q1 := (HRB.out.below HB5.out HRB.out.size).cell (i := 1) rfl
          have q2 : w5.cell? ⟨w.heap.size, 2, none⟩ = some (.slice (some ⟨g, 0, none⟩) 2 c) := (HRB.out.below HB5.out HRB.out.size).cell (i := 2) rfl
          have z3 := HRG5.out.cell HK.out.1
          have z4 := HRG5.out.cell HK.out.2.1
          have z5 := HRG5.out.cell HK.out.2.2
          cases at0 with
          | false =>
            have HGE := Lib.hid (show GP = ⟨8, n, Fo.cons oa ma ka (Fo.cons ob mb kb Fo.nil)⟩ from HG.out.trans (if_neg (by simp)))
            have hres5 := HRR.out.below HB5.out HRR.out.size
            have c0 := hres5.cell (i := 0) rfl
            have c1 := hres5.cell (i := 1) rfl
            have c2 := hres5.cell (i := 2) rfl
            have f0 := hres5.free 0
            have f1 := hres5.free 1
            have f2 := hres5.free 2
            have hres3 := ((hres5.put 0 (.int .i64 8)).put 1 (.int .i64 n)).put 2 (.slice (some ⟨g, 0, none⟩) 2 c)
            have r0 := hres3.cell (i := 0) rfl
            have r1 := hres3.cell (i := 1) rfl
            have r2 := hres3.cell (i := 2) rfl
            have HBZ := Lib.hid ((((HB0.out.trans (HB5.out.mono HB0.out.size)).setCell (p := ⟨w.heap.size + 1, 0, none⟩) (by dsimp only; omega) (.int .i64 8)).setCell (p := ⟨w.heap.size + 1, 1, none⟩) (by dsimp only; omega) (.int .i64 n)).setCell (p := ⟨w.heap.size + 1, 2, none⟩) (by dsimp only; omega) (.slice (some ⟨g, 0, none⟩) 2 c))
            obtain ⟨bz, htz, hap⟩ := (show ∃ bz, Tree _ base (.slice (some ⟨g, 0, none⟩) (Fo.cons oa ma ka (Fo.cons ob mb kb Fo.nil)).len c) (Fo.cons oa ma ka (Fo.cons ob mb kb Fo.nil)) bz ∧ w.heap.size + 1 ∉ bz from ⟨bs, (HT.out.over HB5.out), HNB.out⟩)
            have HTZ := Lib.hid (((htz.keep_at (p := ⟨w.heap.size + 1, 0, none⟩) hap (.int .i64 8)).keep_at (p := ⟨w.heap.size + 1, 1, none⟩) hap (.int .i64 n)).keep_at (p := ⟨w.heap.size + 1, 2, none⟩) hap (.slice (some ⟨g, 0, none⟩) 2 c))
            clear hres5 hres3 htz hap
            go_wp2_with fail
            refine bodyPost_ret (v := .agg #[.int .i64 8, .int .i64 n, .slice (some ⟨g, 0, none⟩) 2 c]) ?_ rfl (by rw [HGE.out]; exact ⟨(some ⟨g, 0, none⟩), c, bz, rfl, HTZ.out, HBZ.out, HI.out⟩)
            simp [results, Tryd.f16, go_sem, r0, r1, r2]
          | true =>
            have HGE := Lib.hid (show GP = ⟨ob, mb, kb⟩ from HG.out.trans (if_pos rfl))
            have hres5 := HRR.out.below HB5.out HRR.out.size
            have c0 := hres5.cell (i := 0) rfl
            have c1 := hres5.cell (i := 1) rfl
            have c2 := hres5.cell (i := 2) rfl
            have f0 := hres5.free 0
            have f1 := hres5.free 1
            have f2 := hres5.free 2
            have hres3 := ((hres5.put 0 (.int .i64 ob)).put 1 (.int .i64 mb)).put 2 (.slice X' kb.len cx')
            have r0 := hres3.cell (i := 0) rfl
            have r1 := hres3.cell (i := 1) rfl
            have r2 := hres3.cell (i := 2) rfl
            have HBZ := Lib.hid ((((HB0.out.trans (HB5.out.mono HB0.out.size)).setCell (p := ⟨w.heap.size + 1, 0, none⟩) (by dsimp only; omega) (.int .i64 ob)).setCell (p := ⟨w.heap.size + 1, 1, none⟩) (by dsimp only; omega) (.int .i64 mb)).setCell (p := ⟨w.heap.size + 1, 2, none⟩) (by dsimp only; omega) (.slice X' kb.len cx'))
            obtain ⟨bz, htz, hap⟩ := (show ∃ bz, Tree _ base (.slice X' kb.len cx') kb bz ∧ w.heap.size + 1 ∉ bz from ⟨b2, (HTB.out.over HB5.out), fun hz => HNB.out (HSB.out _ hz)⟩)
            have HTZ := Lib.hid (((htz.keep_at (p := ⟨w.heap.size + 1, 0, none⟩) hap (.int .i64 ob)).keep_at (p := ⟨w.heap.size + 1, 1, none⟩) hap (.int .i64 mb)).keep_at (p := ⟨w.heap.size + 1, 2, none⟩) hap (.slice X' kb.len cx'))
            clear hres5 hres3 htz hap
            go_wp2_with fail
            refine bodyPost_ret (v := .agg #[.int .i64 ob, .int .i64 mb, .slice X' kb.len cx']) ?_ rfl (by rw [HGE.out]; exact ⟨X', cx', bz, rfl, HTZ.out, HBZ.out, HIA.out.2⟩)
            simp [results, Tryd.f16, go_sem, r0, r1, r2]
        · have b8 : (op == 8) = false := by simpa using h8
          have HBS := Lib.hid (Below.refl W.heap.size W)
          have HGE := Lib.hid (show GP = ⟨op, n, k⟩ from HGP.out.trans (gFold_other h4 h5 h6 h8))
          have q0 := HRB.out.cell (i := 0) rfl
          have q1 := HRB.out.cell (i := 1) rfl
          have q2 := HRB.out.cell (i := 2) rfl
          have hres5 := HRR.out.below HBS.out HRR.out.size
          have c0 := hres5.cell (i := 0) rfl
          have c1 := hres5.cell (i := 1) rfl
          have c2 := hres5.cell (i := 2) rfl
          have f0 := hres5.free 0
          have f1 := hres5.free 1
          have f2 := hres5.free 2
          have hres3 := ((hres5.put 0 (.int .i64 op)).put 1 (.int .i64 n)).put 2 (.slice A k.len c)
          have r0 := hres3.cell (i := 0) rfl
          have r1 := hres3.cell (i := 1) rfl
          have r2 := hres3.cell (i := 2) rfl
          have HBZ := Lib.hid ((((HB0.out.trans (HBS.out.mono HB0.out.size)).setCell (p := ⟨w.heap.size + 1, 0, none⟩) (by dsimp only; omega) (.int .i64 op)).setCell (p := ⟨w.heap.size + 1, 1, none⟩) (by dsimp only; omega) (.int .i64 n)).setCell (p := ⟨w.heap.size + 1, 2, none⟩) (by dsimp only; omega) (.slice A k.len c))
          obtain ⟨bz, htz, hap⟩ := (show ∃ bz, Tree _ base (.slice A (k).len c) (k) bz ∧ w.heap.size + 1 ∉ bz from ⟨bs, (HT.out.over HBS.out), HNB.out⟩)
          have HTZ := Lib.hid (((htz.keep_at (p := ⟨w.heap.size + 1, 0, none⟩) hap (.int .i64 op)).keep_at (p := ⟨w.heap.size + 1, 1, none⟩) hap (.int .i64 n)).keep_at (p := ⟨w.heap.size + 1, 2, none⟩) hap (.slice A k.len c))
          clear hres5 hres3 htz hap
          go_wp2_with fail
          refine bodyPost_ret (v := .agg #[.int .i64 op, .int .i64 n, .slice A k.len c]) ?_ rfl (by rw [HGE.out]; exact ⟨A, c, bz, rfl, HTZ.out, HBZ.out, HI.out⟩)
          simp [results, Tryd.f16, go_sem, r0, r1, r2]
end Go.Proofs.YtemphmncdmbndaaDoor
