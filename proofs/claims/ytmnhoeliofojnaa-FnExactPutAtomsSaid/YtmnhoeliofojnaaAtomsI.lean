/-
  impl.putAtom: the rule of the program.
-/
import Derived.Test.YtmnhoeliofojnaaAtomsD
import Derived.Test.YtmnhoeliofojnaaNodeM
import Derived.Test.YtmnhoeliofojnaaChgI
import Derived.Test.YtmnhoeliofojnaaPutI
import Derived.Deep.RegionHeld3
import Derived.BigRegion
import Derived.Deep.CutRange
namespace Go.Proofs.Ytmnhoeliofojnaa
open Go.RowKit Go.Shelf
set_option maxRecDepth 100000

set_option maxHeartbeats 4000000 in
theorem putAtom_any {T : Int → Int → Nat → Prop} (hT : LocalT T) (L : Nat) (op n : Int) (k : Fo) (A : Option Addr) (c base : Nat) (bs : List Nat) (w : World) (hst : St T L ⟨op, n, k⟩) (hi : I64 op ∧ I64 n) (ht : Tree w base (.slice A k.len c) k bs) (hbase : base ≤ w.heap.size) :
    Calls Try.prog 43 #[.agg #[.int .i64 op, .int .i64 n, .slice A k.len c], .int .i64 (L : Int)] w (Turns (gAtoms L ⟨op, n, k⟩) base w) := by
  obtain ⟨hb, r1, r2⟩ := two_boxes w 28 28 #[Value.int IntKind.i64 op, Value.int IntKind.i64 n, Value.slice A k.len c] #[.int .i64 0, .int .i64 0, .slice none 0 0]
  obtain ⟨W, hW⟩ : ∃ W, W = (w.alloc (Obj.cells #[Value.int IntKind.i64 op, Value.int IntKind.i64 n, Value.slice A k.len c] 28)).alloc (Obj.cells #[.int .i64 0, .int .i64 0, .slice none 0 0] 28) := ⟨_, rfl⟩
  rw [← hW] at hb r1 r2
  have HB0 := Lib.hid hb
  have HRB := Lib.hid r1
  have HRR := Lib.hid r2
  have HT := Lib.hid (ht.over hb)
  have HNB := Lib.hid (show w.heap.size + 1 ∉ bs from fun hz => by have := (ht.lt _ hz).2; omega)
  have HLOW := Lib.hid (show base ≤ base ∧ base ≤ W.heap.size from ⟨Nat.le_refl _, Nat.le_trans hbase hb.size⟩)
  have HZW := Lib.hid (show w.heap.size + 1 + 1 ≤ W.heap.size by rw [hW]; simp)
  have HST := Lib.hid hst
  have HTT := Lib.hid hT
  have HI := Lib.hid hi
  obtain ⟨GP, hGP⟩ : ∃ GP, GP = gAtoms L ⟨op, n, k⟩ := ⟨_, rfl⟩
  rw [← hGP]
  have HGP := Lib.hid hGP
  clear hb r1 r2 ht hst hT hi hGP hbase
  go_enter Try.func43, Try.ntmps43
  go_upto_region 1 with fail
  rw [← hW]
  clear hW
  by_cases h7 : op = 7
  · obtain ⟨oa, ma, ka, ob, mb, kb, ek, sta, stb, hss⟩ := let_two HTT.out HST.out h7
    dsimp only at ek hss
    subst h7
    subst ek
    obtain ⟨g, X, cx, X', cx', b1, b2, cs, hA, _, hg0, hrg, k0, k1, k2, k3, k4, k5, hta, htb, hia, hib, hsa, hsb⟩ := HT.out.two
    subst hA
    have HRG := Lib.hid hrg
    have HTA := Lib.hid hta
    have HTB := Lib.hid htb
    have HK := Lib.hid (And.intro k0 (And.intro k1 (And.intro k2 (And.intro k3 (And.intro k4 k5)))))
    have HIA := Lib.hid (And.intro hia hib)
    have HSAB := Lib.hid (And.intro sta stb)
    have HAT := Lib.hid (implAtom_any oa ma ka X cx W)
    obtain ⟨at0, hat⟩ : ∃ at0, at0 = atomB oa ka := ⟨_, rfl⟩
    rw [← hat] at HAT
    have HATE := Lib.hid hat
    have z0 := hrg.cell k0
    have z1 := hrg.cell k1
    have z2 := hrg.cell k2
    have q0 := HRB.out.cell (i := 0) rfl
    have q1 := HRB.out.cell (i := 1) rfl
    have q2 := HRB.out.cell (i := 2) rfl
    clear hrg hta htb hia hib sta stb k0 k1 k2 k3 k4 k5 hat hss hsa hsb
    go_wp2_with fail
    refine HAT.out.mono ?_
    rintro e W1 ⟨rfl, hb1⟩
    have HB1 := Lib.hid hb1
    clear hb1 HAT z0 z1 z2 q0 q1 q2
    cases at0 with
    | false =>
      have HGE := Lib.hid (show GP = ⟨7, n, Fo.cons oa ma ka (Fo.cons ob mb kb Fo.nil)⟩ from HGP.out.trans (gAtoms_no (by unfold atomsOk; dsimp only [kid1]; rw [← HATE.out]; simp)))
      have q0 := (HRB.out.below HB1.out HRB.out.size).cell (i := 0) rfl
      have q1 := (HRB.out.below HB1.out HRB.out.size).cell (i := 1) rfl
      have q2 := (HRB.out.below HB1.out HRB.out.size).cell (i := 2) rfl
      obtain ⟨bz, htz, hap⟩ := (show ∃ bz, Tree _ base (.slice (some ⟨g, 0, none⟩) (Fo.cons oa ma ka (Fo.cons ob mb kb Fo.nil)).len c) (Fo.cons oa ma ka (Fo.cons ob mb kb Fo.nil)) bz ∧ w.heap.size + 1 ∉ bz from ⟨bs, (HT.out.over HB1.out).lower HLOW.out.1, HNB.out⟩)
      obtain ⟨⟨c0, c1, c2⟩, ⟨f0, f1, f2⟩, ⟨r0, r1, r2⟩, hbz, htz2⟩ := box3 (HRR.out.below HB1.out HRR.out.size) (HB0.out.trans (HB1.out.mono HB0.out.size)) (by omega) (7) (n) ((some ⟨g, 0, none⟩)) (2) (c) htz hap
      have HBZ := Lib.hid hbz
      have HTZ := Lib.hid htz2
      clear hbz htz2 htz hap
      go_wp2_with fail
      refine bodyPost_ret (v := .agg #[.int .i64 7, .int .i64 n, .slice (some ⟨g, 0, none⟩) 2 c]) ?_ rfl (by rw [HGE.out]; exact ⟨(some ⟨g, 0, none⟩), c, bz, rfl, HTZ.out, HBZ.out, HI.out⟩)
      simp [results, Try.f43, go_sem, r0, r1, r2]
    | true =>
      have HB0' := Lib.hid (HB0.out.trans (HB1.out.mono HB0.out.size))
      have HRB' := Lib.hid (HRB.out.below HB1.out HRB.out.size)
      have HRR' := Lib.hid (HRR.out.below HB1.out HRR.out.size)
      have HRG' := Lib.hid (HRG.out.below HB1.out HRG.out.size)
      have HT' := Lib.hid (HT.out.over HB1.out)
      have HTA' := Lib.hid (HTA.out.over HB1.out)
      have HTB' := Lib.hid (HTB.out.over HB1.out)
      have HLOW' := Lib.hid (And.intro HLOW.out.1 (Nat.le_trans HLOW.out.2 HB1.out.size))
      have HZW' := Lib.hid (show w.heap.size + 1 + 1 ≤ W1.heap.size from Nat.le_trans HZW.out HB1.out.size)
      clear HB0 HRB HRR HRG HT HTA HTB HLOW HZW HB1
      have HB0 := HB0'
      have HRB := HRB'
      have HRR := HRR'
      have HRG := HRG'
      have HT := HT'
      have HTA := HTA'
      have HTB := HTB'
      have HLOW := HLOW'
      have HZW := HZW'
      clear HB0' HRB' HRR' HRG' HT' HTA' HTB' HLOW' HZW'
      obtain ⟨RP, hRP⟩ : ∃ RP, RP = putN (kb.size + 1) ⟨ob, mb, kb⟩ n ⟨oa, ma, ka⟩ := ⟨_, rfl⟩
      have HGE := Lib.hid (show GP = RP.getD ⟨7, n, Fo.cons oa ma ka (Fo.cons ob mb kb Fo.nil)⟩ from by
        rw [HGP.out, gAtoms_yes (by unfold atomsOk; dsimp only [kid1]; rw [← HATE.out]; simp), hRP]; rfl)
      have HREP := Lib.hid (show ∀ w' : World, Below W1.heap.size W1 w' → Calls Try.prog 41 #[.agg #[.int .i64 ob, .int .i64 mb, .slice X' kb.len cx'], .int .i64 n, .agg #[.int .i64 oa, .int .i64 ma, .slice X ka.len cx]] w' (PutPost RP w') from fun w' hb' => by
        rw [hRP]
        have ha := HSAB.out.1
        have hb := HSAB.out.2
        exact rep_any _ (in_any _) ⟨ob, mb, kb⟩ n ⟨oa, ma, ka⟩ X' X cx' cx w' (HTB.out.over hb').lies0 (HTA.out.over hb').lies0 (Nat.lt_succ_self _) hb.small (all_fitN HTT.out hb.all) HIA.out.2 ha.small HIA.out.1 HI.out.2 HTA.out.le.1 HTA.out.le.2)
      have HRI := Lib.hid (show ∀ y, RP = some y → I64 y.op ∧ I64 y.n from fun y hy => putN_i64 (p := ⟨ob, mb, kb⟩) HIA.out.2 HIA.out.1 (hRP.symm.trans hy))
      have hS : ∀ w' : World, Below W1.heap.size W1 w' → w'.cell? ⟨w.heap.size, 1, none⟩ = some (Value.int .i64 n) ∧ w'.cell? ⟨w.heap.size, 2, none⟩ = some (Value.slice (some ⟨g, 0, none⟩) 2 c) ∧ w'.cell? ⟨g, 0, none⟩ = some (Value.int .i64 oa) ∧ w'.cell? ⟨g, 1, none⟩ = some (Value.int .i64 ma) ∧ w'.cell? ⟨g, 2, none⟩ = some (Value.slice X ka.len cx) ∧ w'.cell? ⟨g, 3, none⟩ = some (Value.int .i64 ob) ∧ w'.cell? ⟨g, 4, none⟩ = some (Value.int .i64 mb) ∧ w'.cell? ⟨g, 5, none⟩ = some (Value.slice X' kb.len cx') := by
        intro w' hb'
        have hz1 := HRB.out.size
        have hz2 := HRG.out.size
        obtain ⟨k0, k1, k2, k3, k4, k5⟩ := HK.out
        exact ⟨(hb'.cell (p := ⟨w.heap.size, 1, none⟩) hz1).trans (HRB.out.cell (i := 1) rfl), (hb'.cell (p := ⟨w.heap.size, 2, none⟩) hz1).trans (HRB.out.cell (i := 2) rfl), (hb'.cell (p := ⟨g, 0, none⟩) hz2).trans (HRG.out.cell k0), (hb'.cell (p := ⟨g, 1, none⟩) hz2).trans (HRG.out.cell k1), (hb'.cell (p := ⟨g, 2, none⟩) hz2).trans (HRG.out.cell k2), (hb'.cell (p := ⟨g, 3, none⟩) hz2).trans (HRG.out.cell k3), (hb'.cell (p := ⟨g, 4, none⟩) hz2).trans (HRG.out.cell k4), (hb'.cell (p := ⟨g, 5, none⟩) hz2).trans (HRG.out.cell k5)⟩
      have HS := Lib.hid hS
      clear hS hRP
      go_upto_region 3 with fail
      go_cut [5, 6] from 19 to 32 (fun p s wd => ∃ g9 o9 m9 A9 l9 c9, p = .pointer (some ⟨g9, 0, none⟩) ∧ s = .bool RP.isSome ∧ Row wd g9 28 #[.int .i64 o9, .int .i64 m9, .slice A9 l9 c9] ∧ W1.heap.size ≤ g9 ∧ (∀ y, RP = some y → o9 = y.op ∧ m9 = y.n ∧ l9 = y.k.len ∧ ∃ bz, Tree wd W1.heap.size (.slice A9 l9 c9) y.k bz) ∧ Below W1.heap.size W1 wd)
      case first =>
        have b0 : Below W1.heap.size W1 W1.drew := (Below.refl _ _).drew
        have bp : Below W1.heap.size W1 (W1.alloc (Obj.cells #[Value.int .i64 0, Value.int .i64 0, Value.slice none 0 0] 28)).drew := ((Below.refl _ _).alloc (Nat.le_refl _) _).drew
        have CA := Lib.hid (HREP.out _ bp)
        have CB := Lib.hid (HREP.out _ b0)
        have s0 := HS.out _ b0
        have sp := HS.out _ bp
        have B0 := Lib.hid b0
        have BP := Lib.hid bp
        have RPW := Lib.hid (show Row (W1.alloc (Obj.cells #[Value.int .i64 0, Value.int .i64 0, Value.slice none 0 0] 28)).drew W1.heap.size 28 #[Value.int .i64 0, Value.int .i64 0, Value.slice none 0 0] from (Row.fresh _ _ _).drew)
        have hza : (W1.alloc (Obj.cells #[Value.int .i64 0, Value.int .i64 0, Value.slice none 0 0] 28)).drew.heap.size = W1.heap.size + 1 := by simp
        have HZA := Lib.hid hza
        clear b0 bp hza
        go_region_held3 (fun w' => w'.cell? ⟨w.heap.size, 1, none⟩ = some (Value.int .i64 n) ∧ w'.cell? ⟨w.heap.size, 2, none⟩ = some (Value.slice (some ⟨g, 0, none⟩) 2 c) ∧ w'.cell? ⟨g, 0, none⟩ = some (Value.int .i64 oa) ∧ w'.cell? ⟨g, 1, none⟩ = some (Value.int .i64 ma) ∧ w'.cell? ⟨g, 2, none⟩ = some (Value.slice X ka.len cx) ∧ w'.cell? ⟨g, 3, none⟩ = some (Value.int .i64 ob) ∧ w'.cell? ⟨g, 4, none⟩ = some (Value.int .i64 mb) ∧ w'.cell? ⟨g, 5, none⟩ = some (Value.slice X' kb.len cx'))
          (first | with_reducible exact s0 | with_reducible exact sp | with_reducible exact s5 | with_reducible exact s6 | with_reducible exact s5z | fail)
          (first
            | (go_at_call 41
               with_reducible refine CA.out.mono ?_
               rintro e w5 hpp
               obtain ⟨o5, m5, A5, l5, c5, rfl, hb5, hy5⟩ := PutPost.opened hpp
               have hb := BP.out.trans (hb5.mono BP.out.size)
               have r5 := RPW.out.below hb5 RPW.out.size
               have f0 := r5.free 0
               have f1 := r5.free 1
               have f2 := r5.free 2
               have c0 := r5.cell (i := 0) rfl
               have c1 := r5.cell (i := 1) rfl
               have c2 := r5.cell (i := 2) rfl
               have hbs := ((hb.setCell (p := ⟨W1.heap.size, 0, none⟩) (Nat.le_refl _) (.int .i64 o5)).setCell (p := ⟨W1.heap.size, 1, none⟩) (Nat.le_refl _) (.int .i64 m5)).setCell (p := ⟨W1.heap.size, 2, none⟩) (Nat.le_refl _) (.slice A5 l5 c5)
               have s5 := HS.out _ hb
               have s6 := HS.out _ hbs
               rw [HZA.out] at hy5
               have HEND := Lib.hid (show ∃ g9 o9 m9 A9 l9 c9, Value.pointer (some ⟨W1.heap.size, 0, none⟩) = .pointer (some ⟨g9, 0, none⟩) ∧ Row (((w5.setCell ⟨W1.heap.size, 0, none⟩ (.int .i64 o5)).setCell ⟨W1.heap.size, 1, none⟩ (.int .i64 m5)).setCell ⟨W1.heap.size, 2, none⟩ (.slice A5 l5 c5)) g9 28 #[.int .i64 o9, .int .i64 m9, .slice A9 l9 c9] ∧ W1.heap.size ≤ g9 ∧ (∀ y, RP = some y → o9 = y.op ∧ m9 = y.n ∧ l9 = y.k.len ∧ ∃ bz, Tree (((w5.setCell ⟨W1.heap.size, 0, none⟩ (.int .i64 o5)).setCell ⟨W1.heap.size, 1, none⟩ (.int .i64 m5)).setCell ⟨W1.heap.size, 2, none⟩ (.slice A5 l5 c5)) W1.heap.size (.slice A9 l9 c9) y.k bz) ∧ Below W1.heap.size W1 (((w5.setCell ⟨W1.heap.size, 0, none⟩ (.int .i64 o5)).setCell ⟨W1.heap.size, 1, none⟩ (.int .i64 m5)).setCell ⟨W1.heap.size, 2, none⟩ (.slice A5 l5 c5)) from
                 ⟨W1.heap.size, o5, m5, A5, l5, c5, rfl, ((r5.put 0 _).put 1 _).put 2 _, Nat.le_refl _, fun y hy => by
                   obtain ⟨e1, e2, e3, bz, ht⟩ := hy5 y hy
                   exact ⟨e1, e2, e3, bz, (((ht.put (p := ⟨W1.heap.size, 0, none⟩) (Nat.lt_succ_self _) _).put (p := ⟨W1.heap.size, 1, none⟩) (Nat.lt_succ_self _) _).put (p := ⟨W1.heap.size, 2, none⟩) (Nat.lt_succ_self _) _).lower (Nat.le_succ _)⟩, hbs⟩)
               clear hpp hy5 hb5 hb r5 hbs)
            | (go_at_call 41
               with_reducible refine CB.out.mono ?_
               rintro e w5 hpp
               obtain ⟨o5, m5, A5, l5, c5, rfl, hb5, hy5⟩ := PutPost.opened hpp
               have hb := B0.out.trans (hb5.mono B0.out.size)
               have hbl := (Below.refl w5.heap.size w5).alloc (Nat.le_refl _) (Obj.cells #[Value.int .i64 o5, Value.int .i64 m5, Value.slice A5 l5 c5] 28)
               have hba := hb.trans (hbl.mono hb.size)
               have s5 := HS.out _ hb
               have s6 := HS.out _ hba
               have s5z := HS.out _ (hb.alloc hb.size (Obj.cells #[Value.int .i64 0, Value.int .i64 0, Value.slice none 0 0] 28))
               have HEND := Lib.hid (show ∃ g9 o9 m9 A9 l9 c9, Value.pointer (some ⟨w5.heap.size, 0, none⟩) = .pointer (some ⟨g9, 0, none⟩) ∧ Row (w5.alloc (Obj.cells #[Value.int .i64 o5, Value.int .i64 m5, Value.slice A5 l5 c5] 28)) g9 28 #[.int .i64 o9, .int .i64 m9, .slice A9 l9 c9] ∧ W1.heap.size ≤ g9 ∧ (∀ y, RP = some y → o9 = y.op ∧ m9 = y.n ∧ l9 = y.k.len ∧ ∃ bz, Tree (w5.alloc (Obj.cells #[Value.int .i64 o5, Value.int .i64 m5, Value.slice A5 l5 c5] 28)) W1.heap.size (.slice A9 l9 c9) y.k bz) ∧ Below W1.heap.size W1 (w5.alloc (Obj.cells #[Value.int .i64 o5, Value.int .i64 m5, Value.slice A5 l5 c5] 28)) from
                 ⟨w5.heap.size, o5, m5, A5, l5, c5, rfl, Row.fresh _ _ _, hb.size, fun y hy => by
                   obtain ⟨e1, e2, e3, bz, ht⟩ := hy5 y hy
                   exact ⟨e1, e2, e3, bz, ht.over hbl⟩, hba⟩)
               clear hpp hy5 hb5 hb hbl hba)
            | fail)
        all_goals
          go_wp2_with fail
          go_meet
          obtain ⟨g9, o9, m9, A9', l9, c9', hp, hr⟩ := HEND.out
          exact ⟨g9, o9, m9, A9', l9, c9', hp, rfl, hr⟩
      case rest =>
        obtain ⟨g9, o9, m9, A9, l9, c9, rfl, rfl, hrg, hgW, hy, hbd⟩ := hcut
        have HB9 := Lib.hid hbd
        have HRG9 := Lib.hid hrg
        have HGW := Lib.hid hgW
        obtain ⟨wd, hwd⟩ : ∃ wd, wd = wc := ⟨_, rfl⟩
        have HY := Lib.hid hy
        rw [← hwd] at HB9 HRG9 HY ⊢
        clear hbd hrg hgW hy hwd wc HREP
        cases RP with
        | none =>
          have HGF := Lib.hid (show GP = ⟨7, n, Fo.cons oa ma ka (Fo.cons ob mb kb Fo.nil)⟩ from HGE.out)
          have q0 := (HRB.out.below HB9.out HRB.out.size).cell (i := 0) rfl
          have q1 := (HRB.out.below HB9.out HRB.out.size).cell (i := 1) rfl
          have q2 := (HRB.out.below HB9.out HRB.out.size).cell (i := 2) rfl
          obtain ⟨bz, htz, hap⟩ := (show ∃ bz, Tree _ base (.slice (some ⟨g, 0, none⟩) (Fo.cons oa ma ka (Fo.cons ob mb kb Fo.nil)).len c) (Fo.cons oa ma ka (Fo.cons ob mb kb Fo.nil)) bz ∧ w.heap.size + 1 ∉ bz from ⟨bs, (HT.out.over HB9.out).lower HLOW.out.1, HNB.out⟩)
          obtain ⟨⟨c0, c1, c2⟩, ⟨f0, f1, f2⟩, ⟨r0, r1, r2⟩, hbz, htz2⟩ := box3 (HRR.out.below HB9.out HRR.out.size) (HB0.out.trans (HB9.out.mono HB0.out.size)) (by omega) (7) (n) ((some ⟨g, 0, none⟩)) (2) (c) htz hap
          have HBZ := Lib.hid hbz
          have HTZ := Lib.hid htz2
          clear hbz htz2 htz hap
          go_wp2_with fail
          refine bodyPost_ret (v := .agg #[.int .i64 7, .int .i64 n, .slice (some ⟨g, 0, none⟩) 2 c]) ?_ rfl (by rw [HGF.out]; exact ⟨(some ⟨g, 0, none⟩), c, bz, rfl, HTZ.out, HBZ.out, HI.out⟩)
          simp [results, Try.f43, go_sem, r0, r1, r2]
        | some y =>
          have HGF := Lib.hid (show GP = y from HGE.out)
          obtain ⟨rfl, rfl, rfl, b9, ht9⟩ := HY.out y rfl
          have HT9 := Lib.hid ht9
          clear ht9 HY
          have q0 := HRG9.out.cell (i := 0) rfl
          have q1 := HRG9.out.cell (i := 1) rfl
          have q2 := HRG9.out.cell (i := 2) rfl
          obtain ⟨bz, htz, hap⟩ := (show ∃ bz, Tree _ base (.slice A9 y.k.len c9) y.k bz ∧ w.heap.size + 1 ∉ bz from ⟨b9, HT9.out.lower HLOW.out.2, fun hz => by have h1 := (HT9.out.lt _ hz).1; have h2 := HZW.out; omega⟩)
          obtain ⟨⟨c0, c1, c2⟩, ⟨f0, f1, f2⟩, ⟨r0, r1, r2⟩, hbz, htz2⟩ := box3 (HRR.out.below HB9.out HRR.out.size) (HB0.out.trans (HB9.out.mono HB0.out.size)) (by omega) (y.op) (y.n) (A9) (y.k.len) (c9) htz hap
          have HBZ := Lib.hid hbz
          have HTZ := Lib.hid htz2
          clear hbz htz2 htz hap
          go_wp2_with fail
          refine bodyPost_ret (v := .agg #[.int .i64 y.op, .int .i64 y.n, .slice A9 y.k.len c9]) ?_ rfl (by rw [HGF.out]; exact ⟨A9, c9, bz, rfl, HTZ.out, HBZ.out, (HRI.out y rfl)⟩)
          simp [results, Try.f43, go_sem, r0, r1, r2]
  · have HGE := Lib.hid (show GP = ⟨op, n, k⟩ from HGP.out.trans (gAtoms_no (by unfold atomsOk; simp [h7])))
    have b7 : (op != 7) = true := by simpa using h7
    have HBS := Lib.hid (Below.refl W.heap.size W)
    have q0 := (HRB.out.below HBS.out HRB.out.size).cell (i := 0) rfl
    have q1 := (HRB.out.below HBS.out HRB.out.size).cell (i := 1) rfl
    have q2 := (HRB.out.below HBS.out HRB.out.size).cell (i := 2) rfl
    obtain ⟨bz, htz, hap⟩ := (show ∃ bz, Tree _ base (.slice A k.len c) k bz ∧ w.heap.size + 1 ∉ bz from ⟨bs, (HT.out.over HBS.out).lower HLOW.out.1, HNB.out⟩)
    obtain ⟨⟨c0, c1, c2⟩, ⟨f0, f1, f2⟩, ⟨r0, r1, r2⟩, hbz, htz2⟩ := box3 (HRR.out.below HBS.out HRR.out.size) (HB0.out.trans (HBS.out.mono HB0.out.size)) (by omega) (op) (n) (A) (k.len) (c) htz hap
    have HBZ := Lib.hid hbz
    have HTZ := Lib.hid htz2
    clear hbz htz2 htz hap
    go_wp2_with fail
    refine bodyPost_ret (v := .agg #[.int .i64 op, .int .i64 n, .slice A k.len c]) ?_ rfl (by rw [HGE.out]; exact ⟨A, c, bz, rfl, HTZ.out, HBZ.out, HI.out⟩)
    simp [results, Try.f43, go_sem, r0, r1, r2]
end Go.Proofs.Ytmnhoeliofojnaa
