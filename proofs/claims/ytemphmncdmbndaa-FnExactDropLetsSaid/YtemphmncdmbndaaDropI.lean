/-
  (impl.simplifier).dropUnused: the rule of the program.
-/
import Derived.Test.YtemphmncdmbndaaDropD
import Derived.Test.YtemphmncdmbndaaNodeM
import Derived.Test.YtemphmncdmbndaaChgI
import Derived.Test.YtemphmncdmbndaaPutI
import Derived.Test.YtemphmncdmbndaaSets
import Derived.Deep.RegionHeld3
import Derived.BigRegion
import Derived.Deep.CutRange
import Derived.BigQuiet
import Derived.Deep.RegionLaw
import Derived.Deep.QuietTactic
namespace Go.Proofs.Ytemphmncdmbndaa
open Go.RowKit Go.Shelf
set_option maxRecDepth 100000

set_option maxHeartbeats 4000000 in
theorem dropUnused_any {T : Int → Int → Nat → Prop} (hT : LocalT T) (Q : Nat → Bool) (L : Nat) (op n : Int) (k : Fo) (A : Option Addr) (c base : Nat) (bs : List Nat) (w : World) (hst : St T L ⟨op, n, k⟩) (hi : I64 op ∧ I64 n) (ht : Tree w base (.slice A k.len c) k bs) (hbase : base ≤ w.heap.size) :
    Calls Try.prog 27 #[.agg (cells8 Q), .agg #[.int .i64 op, .int .i64 n, .slice A k.len c], .int .i64 (L : Int)] w (Turns (gDrop (pureW Q) L ⟨op, n, k⟩) base w) := by
  obtain ⟨hb, r0, r1, r2⟩ := three_boxes w 58 30 30 (cells8 Q) #[Value.int IntKind.i64 op, Value.int IntKind.i64 n, Value.slice A k.len c] #[.int .i64 0, .int .i64 0, .slice none 0 0]
  obtain ⟨W, hW⟩ : ∃ W, W = ((w.alloc (Obj.cells (cells8 Q) 58)).alloc (Obj.cells #[Value.int IntKind.i64 op, Value.int IntKind.i64 n, Value.slice A k.len c] 30)).alloc (Obj.cells #[.int .i64 0, .int .i64 0, .slice none 0 0] 30) := ⟨_, rfl⟩
  rw [← hW] at hb r0 r1 r2
  have HB0 := Lib.hid hb
  have HRS := Lib.hid r0
  have HRB := Lib.hid r1
  have HRR := Lib.hid r2
  have HT := Lib.hid (ht.over hb)
  have HNB := Lib.hid (show w.heap.size + 1 + 1 ∉ bs from fun hz => by have := (ht.lt _ hz).2; omega)
  have HLOW := Lib.hid (show base ≤ base ∧ base ≤ W.heap.size from ⟨Nat.le_refl _, Nat.le_trans hbase hb.size⟩)
  have HST := Lib.hid hst
  have HTT := Lib.hid hT
  have HI := Lib.hid hi
  obtain ⟨GP, hGP⟩ : ∃ GP, GP = gDrop (pureW Q) L ⟨op, n, k⟩ := ⟨_, rfl⟩
  rw [← hGP]
  have HGP := Lib.hid hGP
  clear hb r0 r1 r2 ht hst hT hi hGP hbase
  unfold cells8 at hW ⊢
  go_enter Try.func27, Try.ntmps27
  go_upto_region 1 with fail
  rw [← hW]
  clear hW
  by_cases h0 : op = 7 ∨ op = 8
  · obtain ⟨oa, ma, ka, ob, mb, kb, ek, sta, stb, hss⟩ := two_kids HST.out (kids_two (HTT.out.kids HST.out.all.1) (.inr (.inr h0)))
    dsimp only at ek hss
    subst ek
    obtain ⟨g, X, cx, X', cx', b1, b2, cs, hA, _, hg0, hrg, k0, k1, k2, k3, k4, k5, hta, htb, hia, hib, hsa, hsb⟩ := HT.out.two
    subst hA
    have HRG := Lib.hid hrg
    have HTA := Lib.hid hta
    have HTB := Lib.hid htb
    have HTB2 := Lib.hid hsb
    have HK := Lib.hid (And.intro k0 (And.intro k1 (And.intro k2 (And.intro k3 (And.intro k4 k5)))))
    have HIA := Lib.hid (And.intro hia hib)
    have HSAB := Lib.hid (And.intro sta stb)
    obtain ⟨OP, hOP⟩ : ∃ OP, OP = op := ⟨_, rfl⟩
    rw [← hOP] at HRB
    have hS : ∀ w' : World, Below W.heap.size W w' → w'.cell? ⟨w.heap.size, 0, none⟩ = some (Value.bool (Q 0)) ∧ w'.cell? ⟨w.heap.size, 1, none⟩ = some (Value.bool (Q 1)) ∧ w'.cell? ⟨w.heap.size, 2, none⟩ = some (Value.bool (Q 2)) ∧ w'.cell? ⟨w.heap.size, 3, none⟩ = some (Value.bool (Q 3)) ∧ w'.cell? ⟨w.heap.size, 4, none⟩ = some (Value.bool (Q 4)) ∧ w'.cell? ⟨w.heap.size, 5, none⟩ = some (Value.bool (Q 5)) ∧ w'.cell? ⟨w.heap.size, 6, none⟩ = some (Value.bool (Q 6)) ∧ w'.cell? ⟨w.heap.size, 7, none⟩ = some (Value.bool (Q 7)) ∧ w'.cell? ⟨w.heap.size + 1, 0, none⟩ = some (Value.int .i64 OP) ∧ w'.cell? ⟨w.heap.size + 1, 1, none⟩ = some (Value.int .i64 n) ∧ w'.cell? ⟨w.heap.size + 1, 2, none⟩ = some (Value.slice (some ⟨g, 0, none⟩) 2 c) ∧ w'.cell? ⟨g, 0, none⟩ = some (Value.int .i64 oa) ∧ w'.cell? ⟨g, 1, none⟩ = some (Value.int .i64 ma) ∧ w'.cell? ⟨g, 2, none⟩ = some (Value.slice X ka.len cx) ∧ w'.cell? ⟨g, 3, none⟩ = some (Value.int .i64 ob) ∧ w'.cell? ⟨g, 4, none⟩ = some (Value.int .i64 mb) ∧ w'.cell? ⟨g, 5, none⟩ = some (Value.slice X' kb.len cx') := by
      intro w' hb'
      have hz1 := HRB.out.size
      have hz2 := HRG.out.size
      have hz3 := HRS.out.size
      obtain ⟨k0, k1, k2, k3, k4, k5⟩ := HK.out
      exact ⟨(hb'.cell (p := ⟨w.heap.size, 0, none⟩) hz3).trans (HRS.out.cell (i := 0) rfl), (hb'.cell (p := ⟨w.heap.size, 1, none⟩) hz3).trans (HRS.out.cell (i := 1) rfl), (hb'.cell (p := ⟨w.heap.size, 2, none⟩) hz3).trans (HRS.out.cell (i := 2) rfl), (hb'.cell (p := ⟨w.heap.size, 3, none⟩) hz3).trans (HRS.out.cell (i := 3) rfl), (hb'.cell (p := ⟨w.heap.size, 4, none⟩) hz3).trans (HRS.out.cell (i := 4) rfl), (hb'.cell (p := ⟨w.heap.size, 5, none⟩) hz3).trans (HRS.out.cell (i := 5) rfl), (hb'.cell (p := ⟨w.heap.size, 6, none⟩) hz3).trans (HRS.out.cell (i := 6) rfl), (hb'.cell (p := ⟨w.heap.size, 7, none⟩) hz3).trans (HRS.out.cell (i := 7) rfl), (hb'.cell (p := ⟨w.heap.size + 1, 0, none⟩) hz1).trans (HRB.out.cell (i := 0) rfl), (hb'.cell (p := ⟨w.heap.size + 1, 1, none⟩) hz1).trans (HRB.out.cell (i := 1) rfl), (hb'.cell (p := ⟨w.heap.size + 1, 2, none⟩) hz1).trans (HRB.out.cell (i := 2) rfl), (hb'.cell (p := ⟨g, 0, none⟩) hz2).trans (HRG.out.cell k0), (hb'.cell (p := ⟨g, 1, none⟩) hz2).trans (HRG.out.cell k1), (hb'.cell (p := ⟨g, 2, none⟩) hz2).trans (HRG.out.cell k2), (hb'.cell (p := ⟨g, 3, none⟩) hz2).trans (HRG.out.cell k3), (hb'.cell (p := ⟨g, 4, none⟩) hz2).trans (HRG.out.cell k4), (hb'.cell (p := ⟨g, 5, none⟩) hz2).trans (HRG.out.cell k5)⟩
    have HS := Lib.hid hS
    obtain ⟨pz, hpz⟩ : ∃ pz, pz = pureW Q oa ma ka := ⟨_, rfl⟩
    have HPW := Lib.hid (show ∀ w' : World, Below W.heap.size W w' → Calls Try.prog 48 #[.agg (cells8 Q), .agg #[.int .i64 oa, .int .i64 ma, .slice X ka.len cx]] w' (Gives (.bool pz) w') from fun w' hb' => by
      rw [hpz]
      have ha := HSAB.out.1
      exact isPureWith_r Q oa ma ka X cx 0 w'.heap.size w' (HTA.out.over hb').lies0 (Nat.le_refl _) (RowsIf.small ha.small) HTA.out.le.1 HTA.out.le.2 (Nat.le_trans (small_size ha.small) (by decide)))
    obtain ⟨cn, hcn⟩ : ∃ cn, cn = cntN n ob mb kb := ⟨_, rfl⟩
    have HCN := Lib.hid (show ∀ w' : World, Below W.heap.size W w' → Calls Try.prog 49 #[.agg #[.int .i64 ob, .int .i64 mb, .slice X' kb.len cx'], .int .i64 n] w' (Gives (.int .i64 ((cn : Nat) : Int)) w') from fun w' hb' => by
      rw [hcn]
      have hb := HSAB.out.2
      exact implCount_r ob mb n kb X' cx' 0 w'.heap.size w' (HTB.out.over hb').lies0 (Nat.le_refl _) (RowsIf.small hb.small) HTB.out.le.1 HTB.out.le.2 (Nat.le_trans (small_size hb.small) (by decide)))
    have HDROP := Lib.hid (show dropOk (pureW Q) ⟨op, n, Fo.cons oa ma ka (Fo.cons ob mb kb Fo.nil)⟩ = ((decide (op = 7 ∨ op = 8) && pz) && (decide (op = 8) || decide (cn = 0))) from by rw [hpz, hcn]; rfl)
    clear hrg hta htb hia hib sta stb k0 k1 k2 k3 k4 k5 hss hsa hsb hS hpz hcn
    rcases h0 with h7 | h8
    · subst h7
      subst hOP
      have HBS := Lib.hid (Below.refl W.heap.size W)
      obtain ⟨v0, v1, v2, v3, v4, v5, v6, v7, v8, v9, v10, v11, v12, v13, v14, v15, v16⟩ := HS.out _ HBS.out
      go_upto_region 2 with fail
      clear v0 v1 v2 v3 v4 v5 v6 v7 v8 v9 v10 v11 v12 v13 v14 v15 v16
      have HB0d := Lib.hid (show Below W.heap.size W W.drew from (Below.refl _ _).drew)
      have s0 := HS.out _ HB0d.out
      go_wp2_with fail
      go_region_held3 (fun w' => w'.cell? ⟨w.heap.size, 0, none⟩ = some (Value.bool (Q 0)) ∧ w'.cell? ⟨w.heap.size, 1, none⟩ = some (Value.bool (Q 1)) ∧ w'.cell? ⟨w.heap.size, 2, none⟩ = some (Value.bool (Q 2)) ∧ w'.cell? ⟨w.heap.size, 3, none⟩ = some (Value.bool (Q 3)) ∧ w'.cell? ⟨w.heap.size, 4, none⟩ = some (Value.bool (Q 4)) ∧ w'.cell? ⟨w.heap.size, 5, none⟩ = some (Value.bool (Q 5)) ∧ w'.cell? ⟨w.heap.size, 6, none⟩ = some (Value.bool (Q 6)) ∧ w'.cell? ⟨w.heap.size, 7, none⟩ = some (Value.bool (Q 7)) ∧ w'.cell? ⟨w.heap.size + 1, 0, none⟩ = some (Value.int .i64 7) ∧ w'.cell? ⟨w.heap.size + 1, 1, none⟩ = some (Value.int .i64 n) ∧ w'.cell? ⟨w.heap.size + 1, 2, none⟩ = some (Value.slice (some ⟨g, 0, none⟩) 2 c) ∧ w'.cell? ⟨g, 0, none⟩ = some (Value.int .i64 oa) ∧ w'.cell? ⟨g, 1, none⟩ = some (Value.int .i64 ma) ∧ w'.cell? ⟨g, 2, none⟩ = some (Value.slice X ka.len cx) ∧ w'.cell? ⟨g, 3, none⟩ = some (Value.int .i64 ob) ∧ w'.cell? ⟨g, 4, none⟩ = some (Value.int .i64 mb) ∧ w'.cell? ⟨g, 5, none⟩ = some (Value.slice X' kb.len cx'))
        (first | with_reducible exact s0 | with_reducible exact s5 | with_reducible exact s6 | fail)
        (first
          | (go_at_call 48
             refine (HPW.out _ HB0d.out).mono ?_
             rintro e w5 ⟨rfl, hb5⟩
             have HB5 := Lib.hid (HB0d.out.trans (hb5.mono HB0d.out.size))
             have s5 := HS.out _ HB5.out
             clear hb5)
          | fail)
      all_goals
        clear s0 s5
        cases pz with
        | false =>
          have HGE := Lib.hid (show GP = ⟨7, n, Fo.cons oa ma ka (Fo.cons ob mb kb Fo.nil)⟩ from HGP.out.trans (gDrop_no (by rw [HDROP.out]; simp)))
          obtain ⟨v0, v1, v2, v3, v4, v5, v6, v7, v8, v9, v10, v11, v12, v13, v14, v15, v16⟩ := HS.out _ HB5.out
          have hres5 := HRR.out.below HB5.out HRR.out.size
          have c0 := hres5.cell (i := 0) rfl
          have c1 := hres5.cell (i := 1) rfl
          have c2 := hres5.cell (i := 2) rfl
          have f0 := hres5.free 0
          have f1 := hres5.free 1
          have f2 := hres5.free 2
          have hres3 := ((hres5.put 0 (.int .i64 7)).put 1 (.int .i64 n)).put 2 (.slice (some ⟨g, 0, none⟩) 2 c)
          have r0 := hres3.cell (i := 0) rfl
          have r1 := hres3.cell (i := 1) rfl
          have r2 := hres3.cell (i := 2) rfl
          have HBZ := Lib.hid ((((HB0.out.trans (HB5.out.mono HB0.out.size)).setCell (p := ⟨w.heap.size + 1 + 1, 0, none⟩) (by dsimp only; omega) (.int .i64 7)).setCell (p := ⟨w.heap.size + 1 + 1, 1, none⟩) (by dsimp only; omega) (.int .i64 n)).setCell (p := ⟨w.heap.size + 1 + 1, 2, none⟩) (by dsimp only; omega) (.slice (some ⟨g, 0, none⟩) 2 c))
          obtain ⟨bz, htz, hap⟩ := (show ∃ bz, Tree _ base (.slice (some ⟨g, 0, none⟩) (Fo.cons oa ma ka (Fo.cons ob mb kb Fo.nil)).len c) (Fo.cons oa ma ka (Fo.cons ob mb kb Fo.nil)) bz ∧ w.heap.size + 1 + 1 ∉ bz from ⟨bs, (HT.out.over HB5.out).lower HLOW.out.1, HNB.out⟩)
          have HTZ := Lib.hid (((htz.keep_at (p := ⟨w.heap.size + 1 + 1, 0, none⟩) hap (.int .i64 7)).keep_at (p := ⟨w.heap.size + 1 + 1, 1, none⟩) hap (.int .i64 n)).keep_at (p := ⟨w.heap.size + 1 + 1, 2, none⟩) hap (.slice (some ⟨g, 0, none⟩) 2 c))
          clear hres5 hres3 htz hap
          go_wp2_with fail
          refine bodyPost_ret (v := .agg #[.int .i64 7, .int .i64 n, .slice (some ⟨g, 0, none⟩) 2 c]) ?_ rfl (by rw [HGE.out]; exact ⟨(some ⟨g, 0, none⟩), c, bz, rfl, HTZ.out, HBZ.out, HI.out⟩)
          simp [results, Try.f27, go_sem, r0, r1, r2]
        | true =>
          obtain ⟨v0, v1, v2, v3, v4, v5, v6, v7, v8, v9, v10, v11, v12, v13, v14, v15, v16⟩ := HS.out _ HB5.out
          go_upto_region 4 with fail
          have HB5d := Lib.hid (show Below W.heap.size W w5.drew from HB5.out.drew)
          have s0 := HS.out _ HB5d.out
          clear v0 v1 v2 v3 v4 v5 v6 v7 v8 v9 v10 v11 v12 v13 v14 v15 v16
          go_wp2_with fail
          go_region_held3 (fun w' => w'.cell? ⟨w.heap.size, 0, none⟩ = some (Value.bool (Q 0)) ∧ w'.cell? ⟨w.heap.size, 1, none⟩ = some (Value.bool (Q 1)) ∧ w'.cell? ⟨w.heap.size, 2, none⟩ = some (Value.bool (Q 2)) ∧ w'.cell? ⟨w.heap.size, 3, none⟩ = some (Value.bool (Q 3)) ∧ w'.cell? ⟨w.heap.size, 4, none⟩ = some (Value.bool (Q 4)) ∧ w'.cell? ⟨w.heap.size, 5, none⟩ = some (Value.bool (Q 5)) ∧ w'.cell? ⟨w.heap.size, 6, none⟩ = some (Value.bool (Q 6)) ∧ w'.cell? ⟨w.heap.size, 7, none⟩ = some (Value.bool (Q 7)) ∧ w'.cell? ⟨w.heap.size + 1, 0, none⟩ = some (Value.int .i64 7) ∧ w'.cell? ⟨w.heap.size + 1, 1, none⟩ = some (Value.int .i64 n) ∧ w'.cell? ⟨w.heap.size + 1, 2, none⟩ = some (Value.slice (some ⟨g, 0, none⟩) 2 c) ∧ w'.cell? ⟨g, 0, none⟩ = some (Value.int .i64 oa) ∧ w'.cell? ⟨g, 1, none⟩ = some (Value.int .i64 ma) ∧ w'.cell? ⟨g, 2, none⟩ = some (Value.slice X ka.len cx) ∧ w'.cell? ⟨g, 3, none⟩ = some (Value.int .i64 ob) ∧ w'.cell? ⟨g, 4, none⟩ = some (Value.int .i64 mb) ∧ w'.cell? ⟨g, 5, none⟩ = some (Value.slice X' kb.len cx'))
            (first | with_reducible exact s0 | with_reducible exact s5 | with_reducible exact s6 | fail)
            (first
              | (go_at_call 49
                 refine (HCN.out _ HB5d.out).mono ?_
                 rintro e w6 ⟨rfl, hb6⟩
                 have HB6 := Lib.hid (HB5d.out.trans (hb6.mono HB5d.out.size))
                 have s6 := HS.out _ HB6.out
                 clear hb6)
              | fail)
          all_goals
            clear s0 s6
            obtain ⟨v0, v1, v2, v3, v4, v5, v6, v7, v8, v9, v10, v11, v12, v13, v14, v15, v16⟩ := HS.out _ HB6.out
            by_cases hc0 : cn = 0
            · have HGE := Lib.hid (show GP = ⟨ob, mb, kb⟩ from HGP.out.trans (gDrop_yes (by rw [HDROP.out]; simp [hc0])))
              subst hc0
              have hres5 := HRR.out.below HB6.out HRR.out.size
              have c0 := hres5.cell (i := 0) rfl
              have c1 := hres5.cell (i := 1) rfl
              have c2 := hres5.cell (i := 2) rfl
              have f0 := hres5.free 0
              have f1 := hres5.free 1
              have f2 := hres5.free 2
              have hres3 := ((hres5.put 0 (.int .i64 ob)).put 1 (.int .i64 mb)).put 2 (.slice X' kb.len cx')
              have r0 := hres3.cell (i := 0) rfl
              have r1 := hres3.cell (i := 1) rfl
              have r2 := hres3.cell (i := 2) rfl
              have HBZ := Lib.hid ((((HB0.out.trans (HB6.out.mono HB0.out.size)).setCell (p := ⟨w.heap.size + 1 + 1, 0, none⟩) (by dsimp only; omega) (.int .i64 ob)).setCell (p := ⟨w.heap.size + 1 + 1, 1, none⟩) (by dsimp only; omega) (.int .i64 mb)).setCell (p := ⟨w.heap.size + 1 + 1, 2, none⟩) (by dsimp only; omega) (.slice X' kb.len cx'))
              obtain ⟨bz, htz, hap⟩ := (show ∃ bz, Tree _ base (.slice X' kb.len cx') kb bz ∧ w.heap.size + 1 + 1 ∉ bz from ⟨b2, (HTB.out.over HB6.out).lower HLOW.out.1, fun hz => HNB.out (HTB2.out _ hz)⟩)
              have HTZ := Lib.hid (((htz.keep_at (p := ⟨w.heap.size + 1 + 1, 0, none⟩) hap (.int .i64 ob)).keep_at (p := ⟨w.heap.size + 1 + 1, 1, none⟩) hap (.int .i64 mb)).keep_at (p := ⟨w.heap.size + 1 + 1, 2, none⟩) hap (.slice X' kb.len cx'))
              clear hres5 hres3 htz hap
              go_wp2_with fail
              refine bodyPost_ret (v := .agg #[.int .i64 ob, .int .i64 mb, .slice X' kb.len cx']) ?_ rfl (by rw [HGE.out]; exact ⟨X', cx', bz, rfl, HTZ.out, HBZ.out, HIA.out.2⟩)
              simp [results, Try.f27, go_sem, r0, r1, r2]
            · have HGE := Lib.hid (show GP = ⟨7, n, Fo.cons oa ma ka (Fo.cons ob mb kb Fo.nil)⟩ from HGP.out.trans (gDrop_no (by rw [HDROP.out]; simp [hc0])))
              have bc : (((cn : Nat) : Int) != 0) = true := by simp; omega
              clear hc0
              have hres5 := HRR.out.below HB6.out HRR.out.size
              have c0 := hres5.cell (i := 0) rfl
              have c1 := hres5.cell (i := 1) rfl
              have c2 := hres5.cell (i := 2) rfl
              have f0 := hres5.free 0
              have f1 := hres5.free 1
              have f2 := hres5.free 2
              have hres3 := ((hres5.put 0 (.int .i64 7)).put 1 (.int .i64 n)).put 2 (.slice (some ⟨g, 0, none⟩) 2 c)
              have r0 := hres3.cell (i := 0) rfl
              have r1 := hres3.cell (i := 1) rfl
              have r2 := hres3.cell (i := 2) rfl
              have HBZ := Lib.hid ((((HB0.out.trans (HB6.out.mono HB0.out.size)).setCell (p := ⟨w.heap.size + 1 + 1, 0, none⟩) (by dsimp only; omega) (.int .i64 7)).setCell (p := ⟨w.heap.size + 1 + 1, 1, none⟩) (by dsimp only; omega) (.int .i64 n)).setCell (p := ⟨w.heap.size + 1 + 1, 2, none⟩) (by dsimp only; omega) (.slice (some ⟨g, 0, none⟩) 2 c))
              obtain ⟨bz, htz, hap⟩ := (show ∃ bz, Tree _ base (.slice (some ⟨g, 0, none⟩) (Fo.cons oa ma ka (Fo.cons ob mb kb Fo.nil)).len c) (Fo.cons oa ma ka (Fo.cons ob mb kb Fo.nil)) bz ∧ w.heap.size + 1 + 1 ∉ bz from ⟨bs, (HT.out.over HB6.out).lower HLOW.out.1, HNB.out⟩)
              have HTZ := Lib.hid (((htz.keep_at (p := ⟨w.heap.size + 1 + 1, 0, none⟩) hap (.int .i64 7)).keep_at (p := ⟨w.heap.size + 1 + 1, 1, none⟩) hap (.int .i64 n)).keep_at (p := ⟨w.heap.size + 1 + 1, 2, none⟩) hap (.slice (some ⟨g, 0, none⟩) 2 c))
              clear hres5 hres3 htz hap
              go_wp2_with fail
              refine bodyPost_ret (v := .agg #[.int .i64 7, .int .i64 n, .slice (some ⟨g, 0, none⟩) 2 c]) ?_ rfl (by rw [HGE.out]; exact ⟨(some ⟨g, 0, none⟩), c, bz, rfl, HTZ.out, HBZ.out, HI.out⟩)
              simp [results, Try.f27, go_sem, r0, r1, r2]

    · subst h8
      subst hOP
      have HBS := Lib.hid (Below.refl W.heap.size W)
      obtain ⟨v0, v1, v2, v3, v4, v5, v6, v7, v8, v9, v10, v11, v12, v13, v14, v15, v16⟩ := HS.out _ HBS.out
      go_upto_region 2 with fail
      clear v0 v1 v2 v3 v4 v5 v6 v7 v8 v9 v10 v11 v12 v13 v14 v15 v16
      have HB0d := Lib.hid (show Below W.heap.size W W.drew from (Below.refl _ _).drew)
      have s0 := HS.out _ HB0d.out
      go_wp2_with fail
      go_region_held3 (fun w' => w'.cell? ⟨w.heap.size, 0, none⟩ = some (Value.bool (Q 0)) ∧ w'.cell? ⟨w.heap.size, 1, none⟩ = some (Value.bool (Q 1)) ∧ w'.cell? ⟨w.heap.size, 2, none⟩ = some (Value.bool (Q 2)) ∧ w'.cell? ⟨w.heap.size, 3, none⟩ = some (Value.bool (Q 3)) ∧ w'.cell? ⟨w.heap.size, 4, none⟩ = some (Value.bool (Q 4)) ∧ w'.cell? ⟨w.heap.size, 5, none⟩ = some (Value.bool (Q 5)) ∧ w'.cell? ⟨w.heap.size, 6, none⟩ = some (Value.bool (Q 6)) ∧ w'.cell? ⟨w.heap.size, 7, none⟩ = some (Value.bool (Q 7)) ∧ w'.cell? ⟨w.heap.size + 1, 0, none⟩ = some (Value.int .i64 8) ∧ w'.cell? ⟨w.heap.size + 1, 1, none⟩ = some (Value.int .i64 n) ∧ w'.cell? ⟨w.heap.size + 1, 2, none⟩ = some (Value.slice (some ⟨g, 0, none⟩) 2 c) ∧ w'.cell? ⟨g, 0, none⟩ = some (Value.int .i64 oa) ∧ w'.cell? ⟨g, 1, none⟩ = some (Value.int .i64 ma) ∧ w'.cell? ⟨g, 2, none⟩ = some (Value.slice X ka.len cx) ∧ w'.cell? ⟨g, 3, none⟩ = some (Value.int .i64 ob) ∧ w'.cell? ⟨g, 4, none⟩ = some (Value.int .i64 mb) ∧ w'.cell? ⟨g, 5, none⟩ = some (Value.slice X' kb.len cx'))
        (first | with_reducible exact s0 | with_reducible exact s5 | with_reducible exact s6 | fail)
        (first
          | (go_at_call 48
             refine (HPW.out _ HB0d.out).mono ?_
             rintro e w5 ⟨rfl, hb5⟩
             have HB5 := Lib.hid (HB0d.out.trans (hb5.mono HB0d.out.size))
             have s5 := HS.out _ HB5.out
             clear hb5)
          | fail)
      all_goals
        clear s0 s5
        cases pz with
        | false =>
          have HGE := Lib.hid (show GP = ⟨8, n, Fo.cons oa ma ka (Fo.cons ob mb kb Fo.nil)⟩ from HGP.out.trans (gDrop_no (by rw [HDROP.out]; simp)))
          obtain ⟨v0, v1, v2, v3, v4, v5, v6, v7, v8, v9, v10, v11, v12, v13, v14, v15, v16⟩ := HS.out _ HB5.out
          have hres5 := HRR.out.below HB5.out HRR.out.size
          have c0 := hres5.cell (i := 0) rfl
          have c1 := hres5.cell (i := 1) rfl
          have c2 := hres5.cell (i := 2) rfl
          have f0 := hres5.free 0
          have f1 := hres5.free 1
          have f2 := hres5.free 2
          have hres3 := ((hres5.put 0 (.int .i64 8)).put 1 (.int .i64 n)).put 2 (.slice (some ⟨g, 0, none⟩) 2 c)
          have r0 := hres3.cell (i := 0) rfl
          have r1 := hres3.cell (i := 1) rfl
          have r2 := hres3.cell (i := 2) rfl
          have HBZ := Lib.hid ((((HB0.out.trans (HB5.out.mono HB0.out.size)).setCell (p := ⟨w.heap.size + 1 + 1, 0, none⟩) (by dsimp only; omega) (.int .i64 8)).setCell (p := ⟨w.heap.size + 1 + 1, 1, none⟩) (by dsimp only; omega) (.int .i64 n)).setCell (p := ⟨w.heap.size + 1 + 1, 2, none⟩) (by dsimp only; omega) (.slice (some ⟨g, 0, none⟩) 2 c))
          obtain ⟨bz, htz, hap⟩ := (show ∃ bz, Tree _ base (.slice (some ⟨g, 0, none⟩) (Fo.cons oa ma ka (Fo.cons ob mb kb Fo.nil)).len c) (Fo.cons oa ma ka (Fo.cons ob mb kb Fo.nil)) bz ∧ w.heap.size + 1 + 1 ∉ bz from ⟨bs, (HT.out.over HB5.out).lower HLOW.out.1, HNB.out⟩)
          have HTZ := Lib.hid (((htz.keep_at (p := ⟨w.heap.size + 1 + 1, 0, none⟩) hap (.int .i64 8)).keep_at (p := ⟨w.heap.size + 1 + 1, 1, none⟩) hap (.int .i64 n)).keep_at (p := ⟨w.heap.size + 1 + 1, 2, none⟩) hap (.slice (some ⟨g, 0, none⟩) 2 c))
          clear hres5 hres3 htz hap
          go_wp2_with fail
          refine bodyPost_ret (v := .agg #[.int .i64 8, .int .i64 n, .slice (some ⟨g, 0, none⟩) 2 c]) ?_ rfl (by rw [HGE.out]; exact ⟨(some ⟨g, 0, none⟩), c, bz, rfl, HTZ.out, HBZ.out, HI.out⟩)
          simp [results, Try.f27, go_sem, r0, r1, r2]
        | true =>
          have HGE := Lib.hid (show GP = ⟨ob, mb, kb⟩ from HGP.out.trans (gDrop_yes (by rw [HDROP.out]; simp)))
          obtain ⟨v0, v1, v2, v3, v4, v5, v6, v7, v8, v9, v10, v11, v12, v13, v14, v15, v16⟩ := HS.out _ HB5.out
          go_upto_region 4 with fail
          go_wp2_with fail
          go_quiet (fail)
          have HB5d := Lib.hid (below_drewN HB5.out nq)
          clear v0 v1 v2 v3 v4 v5 v6 v7 v8 v9 v10 v11 v12 v13 v14 v15 v16
          obtain ⟨v0, v1, v2, v3, v4, v5, v6, v7, v8, v9, v10, v11, v12, v13, v14, v15, v16⟩ := HS.out _ HB5d.out
          have hres5 := HRR.out.below HB5d.out HRR.out.size
          have c0 := hres5.cell (i := 0) rfl
          have c1 := hres5.cell (i := 1) rfl
          have c2 := hres5.cell (i := 2) rfl
          have f0 := hres5.free 0
          have f1 := hres5.free 1
          have f2 := hres5.free 2
          have hres3 := ((hres5.put 0 (.int .i64 ob)).put 1 (.int .i64 mb)).put 2 (.slice X' kb.len cx')
          have r0 := hres3.cell (i := 0) rfl
          have r1 := hres3.cell (i := 1) rfl
          have r2 := hres3.cell (i := 2) rfl
          have HBZ := Lib.hid ((((HB0.out.trans (HB5d.out.mono HB0.out.size)).setCell (p := ⟨w.heap.size + 1 + 1, 0, none⟩) (by dsimp only; omega) (.int .i64 ob)).setCell (p := ⟨w.heap.size + 1 + 1, 1, none⟩) (by dsimp only; omega) (.int .i64 mb)).setCell (p := ⟨w.heap.size + 1 + 1, 2, none⟩) (by dsimp only; omega) (.slice X' kb.len cx'))
          obtain ⟨bz, htz, hap⟩ := (show ∃ bz, Tree _ base (.slice X' kb.len cx') kb bz ∧ w.heap.size + 1 + 1 ∉ bz from ⟨b2, (HTB.out.over HB5d.out).lower HLOW.out.1, fun hz => HNB.out (HTB2.out _ hz)⟩)
          have HTZ := Lib.hid (((htz.keep_at (p := ⟨w.heap.size + 1 + 1, 0, none⟩) hap (.int .i64 ob)).keep_at (p := ⟨w.heap.size + 1 + 1, 1, none⟩) hap (.int .i64 mb)).keep_at (p := ⟨w.heap.size + 1 + 1, 2, none⟩) hap (.slice X' kb.len cx'))
          clear hres5 hres3 htz hap
          go_wp2_with fail
          refine bodyPost_ret (v := .agg #[.int .i64 ob, .int .i64 mb, .slice X' kb.len cx']) ?_ rfl (by rw [HGE.out]; exact ⟨X', cx', bz, rfl, HTZ.out, HBZ.out, HIA.out.2⟩)
          simp [results, Try.f27, go_sem, r0, r1, r2]

  · have HGE := Lib.hid (show GP = ⟨op, n, k⟩ from HGP.out.trans (gDrop_no (by unfold dropOk; simp [h0])))
    have b7 : (op != 7) = true := by simp; omega
    have b8 : (op != 8) = true := by simp; omega
    have HBS := Lib.hid (Below.refl W.heap.size W)
    have q0 := HRB.out.cell (i := 0) rfl
    have q1 := HRB.out.cell (i := 1) rfl
    have q2 := HRB.out.cell (i := 2) rfl
    have hres5 := HRR.out.below HBS.out HRR.out.size
    have c0 := hres5.cell (i := 0) rfl
    have c1 := hres5.cell (i := 1) rfl
    have c2 := hres5.cell (i := 2) rfl
    have f0 := hres5.free 0
    have f1 := hres5.free 1
    have f2 := hres5.free 2
    have hres3 := ((hres5.put 0 (.int .i64 op)).put 1 (.int .i64 n)).put 2 (.slice A k.len c)
    have r0 := hres3.cell (i := 0) rfl
    have r1 := hres3.cell (i := 1) rfl
    have r2 := hres3.cell (i := 2) rfl
    have HBZ := Lib.hid ((((HB0.out.trans (HBS.out.mono HB0.out.size)).setCell (p := ⟨w.heap.size + 1 + 1, 0, none⟩) (by dsimp only; omega) (.int .i64 op)).setCell (p := ⟨w.heap.size + 1 + 1, 1, none⟩) (by dsimp only; omega) (.int .i64 n)).setCell (p := ⟨w.heap.size + 1 + 1, 2, none⟩) (by dsimp only; omega) (.slice A k.len c))
    obtain ⟨bz, htz, hap⟩ := (show ∃ bz, Tree _ base (.slice A k.len c) k bz ∧ w.heap.size + 1 + 1 ∉ bz from ⟨bs, (HT.out.over HBS.out).lower HLOW.out.1, HNB.out⟩)
    have HTZ := Lib.hid (((htz.keep_at (p := ⟨w.heap.size + 1 + 1, 0, none⟩) hap (.int .i64 op)).keep_at (p := ⟨w.heap.size + 1 + 1, 1, none⟩) hap (.int .i64 n)).keep_at (p := ⟨w.heap.size + 1 + 1, 2, none⟩) hap (.slice A k.len c))
    clear hres5 hres3 htz hap
    go_wp2_with fail
    refine bodyPost_ret (v := .agg #[.int .i64 op, .int .i64 n, .slice A k.len c]) ?_ rfl (by rw [HGE.out]; exact ⟨A, c, bz, rfl, HTZ.out, HBZ.out, HI.out⟩)
    simp [results, Try.f27, go_sem, r0, r1, r2]
end Go.Proofs.Ytemphmncdmbndaa
