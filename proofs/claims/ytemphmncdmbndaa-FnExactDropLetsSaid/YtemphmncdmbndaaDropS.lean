/-
  spec.l6Drop: the rule of the model, from the leaves to the root.
-/
import Derived.Test.YtemphmncdmbndaaDropD
import Derived.Test.YtemphmncdmbndaaNodeM
import Derived.Test.YtemphmncdmbndaaPureS
import Derived.Test.YtemphmncdmbndaaPutI
import Derived.Test.YtemphmncdmbndaaTree
import Derived.Deep.RegionHeld3
import Derived.BigRegion
import Derived.Deep.CutRange
import Derived.BigQuiet
import Derived.Deep.RegionLaw
import Derived.Deep.QuietTactic
namespace Go.Proofs.Ytemphmncdmbndaa
open Go.RowKit Go.Shelf
set_option maxRecDepth 100000

/-- A call under a guard that holds, by its contract, as one step of a region that draws its order. -/
theorem step_callg {P : Program} {ops : Array Oper} {o : Oper} {a : Act} {w : World} {K : Act → World → Prop} {Q : Exit → Act → World → Prop} {E : Prop} {f : FuncId} {vs : Array Value} {R : Ending → World → Prop} (hw : Region.wanted o (yielded ops a.tmps) = true)
    (hrun : (execOp a.eval o).run P w = .ok (.enter f vs) w) (hc : Calls P f vs w R) (h : ∀ e w', R e w' → ∃ v, e = .returned v ∧ K (a.put o.dst v) w') :
    if Region.wanted o (yielded ops a.tmps) = true then Oper.wp P o a w K Q else E := by
  rw [if_pos hw]
  unfold Oper.wp
  rw [hrun, Oper.upon_enter]
  refine hc.mono fun e w' hr => ?_
  obtain ⟨v, rfl, hk⟩ := h e w' hr
  exact hk

set_option maxHeartbeats 8000000 in
theorem specDrop_any {T : Int → Int → Nat → Prop} (hT : LocalT T) (ds : List De) (DA : Option Addr) (DC : Nat) (hdz : sizeD ds ≤ 1048576) (hnm : ∀ d ∈ ds, inVar d.nm = true) (m : Nat) : ∀ (L : Nat) (op n : Int) (k : Fo) (A : Option Addr) (c : Nat) (w : World), k.size = m → St T L ⟨op, n, k⟩ → LiesD w 0 w.heap.size DA ds → Lies w 0 w.heap.size A 0 k → I64 op ∧ I64 n →
    Calls Try.prog 21 #[.slice DA ds.length DC, .agg #[.int .i64 op, .int .i64 n, .slice A k.len c]] w (Turns (chgN (gDrop (pureS ds)) L ⟨op, n, k⟩) w.heap.size w) := by
  induction m using Nat.strongRecOn with
  | _ m ih =>
    intro L op n k A c w hm hst hd hl hi
    have hlen := Fo.len_le_size k
    obtain ⟨W, hW⟩ : ∃ W, W = ((w.alloc (Obj.cells #[.int .i64 op, .int .i64 n, .slice A k.len c] 30)).alloc (Obj.cells #[.int .i64 0, .int .i64 0, .slice none 0 0] 30)).alloc (Obj.cells #[.int .i64 op, .int .i64 n, .slice none 0 0] 30) := ⟨_, rfl⟩
    have hr0 := (Row.fresh w 30 #[.int .i64 op, .int .i64 n, .slice A k.len c]).alloc (Obj.cells #[.int .i64 0, .int .i64 0, .slice none 0 0] 30)
    have q0 := hr0.cell (i := 0) rfl
    have q1 := hr0.cell (i := 1) rfl
    have q2 := hr0.cell (i := 2) rfl
    have hr1 : Row W (w.heap.size + 1 + 1) 30 #[.int .i64 op, .int .i64 n, .slice none 0 0] := by
      rw [hW]
      have := Row.fresh ((w.alloc (Obj.cells #[.int .i64 op, .int .i64 n, .slice A k.len c] 30)).alloc (Obj.cells #[.int .i64 0, .int .i64 0, .slice none 0 0] 30)) 30 #[.int .i64 op, .int .i64 n, .slice none 0 0]
      simp only [World.size_alloc] at this
      exact this
    have hr2 : Row W (w.heap.size + 1) 30 #[.int .i64 0, .int .i64 0, .slice none 0 0] := by
      rw [hW]
      have := Row.fresh (w.alloc (Obj.cells #[.int .i64 op, .int .i64 n, .slice A k.len c] 30)) 30 #[.int .i64 0, .int .i64 0, .slice none 0 0]
      rw [World.size_alloc] at this
      exact this.alloc _
    have hbW : Below w.heap.size w W := by rw [hW]; exact (((Below.refl _ _).alloc (Nat.le_refl _) _).alloc (by simp) _).alloc (by simp; omega) _
    have HR1 := Lib.hid hr1
    have HR2 := Lib.hid hr2
    have HR0 := Lib.hid (show Row W w.heap.size 30 #[.int .i64 op, .int .i64 n, .slice A k.len c] by rw [hW]; exact hr0.alloc _)
    have HBW := Lib.hid hbW
    have HST0 := Lib.hid hst
    have HTT := Lib.hid hT
    have HDL := Lib.hid hd
    have HDZ := Lib.hid hdz
    have HNM := Lib.hid hnm
    have hks : k.size ≤ 1048576 := by have := hst.size; dsimp only at this; omega
    clear hr1 hr2 hbW
    go_enter Try.func21, Try.ntmps21
    go_wp2_with fail
    clear q0 q1 q2 hr0
    rw [← hW]
    clear hW
    go_loopw [6] (fun i wr => Round k (chgF (gDrop (pureS ds)) (L - 1)) op n (w.heap.size + 1 + 1 + 1) (w.heap.size + 1 + 1) w i wr ∧ Row wr (w.heap.size + 1) 30 #[.int .i64 0, .int .i64 0, .slice none 0 0] ∧ Row wr w.heap.size 30 #[.int .i64 op, .int .i64 n, .slice A k.len c])
      (fun i _ => k.len - (intOf i).toNat)
    case atStart => exact ⟨⟨0, .nil, none, 0, [], Nat.zero_le _, rfl, rfl, by rw [Fo.drop_zero]; rfl, HR1.out, Tree.none _ _, HBW.out⟩, HR2.out, HR0.out⟩
    case round =>
      clear HR1 HR2 HBW HR0
      obtain ⟨⟨j, pre, A1, c1', bs, hj, rfl, hpl, hpre, hrow, ht, hb⟩, hres, hre⟩ := hrel
      have hwz := hrow.size
      by_cases hlt : j < k.len
      · obtain ⟨o1, m1, k1, e1, e2, e3⟩ := Fo.drop_of_lt k j hlt
        have hj' := (hl.below hb).at_ j
        rw [Nat.zero_add, e1] at hj'
        obtain ⟨⟨b, o, A', c', hA, _, hbb, i1, i2, g1, g2, g3, h1, h2, h3⟩, _⟩ := hj'
        subst hA
        have hbb2 : b < wr.heap.size := Nat.lt_of_lt_of_le hbb hb.size
        have hzr : w.heap.size < wr.heap.size := hre.size
        have q2 : wr.drew.cell? ⟨w.heap.size, 2, none⟩ = some (.slice (some ⟨b, o, none⟩) k.len c) := hre.cell (i := 2) rfl
        have r2 : wr.cell? ⟨w.heap.size, 2, none⟩ = some (.slice (some ⟨b, o, none⟩) k.len c) := hre.cell (i := 2) rfl
        have q3 : wr.drew.cell? ⟨w.heap.size + 1 + 1, 2, none⟩ = some (.slice A1 pre.len c1') := hrow.cell (i := 2) rfl
        have hza : w.heap.size + 1 + 1 < wr.drew.heap.size := hrow.size
        have hla : Lies wr.drew 0 wr.drew.heap.size A' 0 k1 := (h3.below ((Below.refl wr.heap.size wr).drew.mono hb.size)).mono_ (Nat.le_refl _) hb.size
        have p1 : wr.drew.cell? ⟨b, o + j * 3, none⟩ = some (.int .i64 o1) := g1
        have p2 : wr.drew.cell? ⟨b, o + j * 3 + 1, none⟩ = some (.int .i64 m1) := g2
        have p3 : wr.drew.cell? ⟨b, o + j * 3 + 2, none⟩ = some (.slice A' k1.len c') := g3
        have hbd : Below w.heap.size w wr.drew := hb.drew
        obtain ⟨q, hq⟩ : ∃ q, q = chgN (gDrop (pureS ds)) (L - 1) ⟨o1, m1, k1⟩ := ⟨_, rfl⟩
        have hki := (st_rule (keeps_drop HTT.out (pureS ds))).kid HST0.out j o1 m1 k1 _ e1
        have hc := ih k1.size (by omega) (L - 1) o1 m1 k1 A' c' wr.drew rfl hki (hd.up hbd) hla ⟨i1, i2⟩
        rw [← hq] at hc
        have HC := Lib.hid hc
        have HQ := Lib.hid hq
        have HT := Lib.hid ht
        have HB := Lib.hid hb
        have HROW := Lib.hid hrow
        have HRES := Lib.hid hres
        have HRE := Lib.hid hre
        have HPRE := Lib.hid hpre
        have HPL := Lib.hid hpl
        have HWR := Lib.hid (show w.heap.size + 1 + 1 + 1 ≤ wr.heap.size from hwz)
        have hbox : ∀ g, (Value.slice A1 pre.len c1').ownBlock = some g → w.heap.size + 1 + 1 + 1 ≤ g ∧ g < wr.heap.size := fun g hg => by
          obtain ⟨st, b1, k1', k2', rfl, _⟩ := ht
          exact blk_lt k1' (by unfold blkV; rw [hg]; simp)
        have HBOX := Lib.hid hbox
        have HE := Lib.hid e1
        have hpl2 : pre.len ≤ 1048576 := by omega
        clear hrow ht hb hres hre hpre hla h3 hl ih i1 i2 e1 hpl hbox g1 g2 g3 hc hq hbd hst hki hd
        go_wp2_with fail
        go_region_law (first
            | (refine step_push rfl (.tmp 20) (.tmp 28) rfl (w.heap.size + 1 + 1 + 1) (.slice A1 pre.len c1') pre bs b5 q.op q.n q.k A5 c5 rfl rfl HT5.out HK5.out HI5.out HD5.out hpl2 HZ5.out ?_
               intro v6 w6 bs6 ht6 hg6 hin6
               obtain ⟨A6, c6, rfl, hc61, hc62⟩ := ht6.slice
               have hne : ∀ g, (g < w.heap.size + 1 + 1 + 1 ∨ wr.heap.size ≤ g) → some g ≠ (Value.slice A1 pre.len c1').ownBlock := fun g hg e => by have := HBOX.out g e.symm; omega
               have hr6 := row_grown HROW5.out hg6 (hne _ (.inl (Nat.lt_succ_self _)))
               have hre6 := row_grown HRE5.out hg6 (hne _ (.inl (by omega)))
               have u3 : w6.cell? ⟨w.heap.size + 1 + 1, 2, none⟩ = some (.slice A1 pre.len c1') := hr6.cell (i := 2) rfl
               have f3 := hr6.free 2
               have HR6 := Lib.hid hr6
               have HRES6 := Lib.hid (row_grown HRES5.out hg6 (hne _ (.inl (Nat.lt_succ_of_lt (Nat.lt_succ_self _)))))
               have HT6 := Lib.hid ht6
               have HB6 := Lib.hid (Below.grown HB5.out hg6 HB5.out.size (fun g' hg' => by have := HBOX.out g' hg'; omega))
               have HRE6 := Lib.hid hre6
               clear hr6 hre6 ht6 hg6 hin6 hne hc61 hc62)
            | (refine step_call (f := 21) rfl (by kernel_rfl) HC.out ?_
               rintro e w5 ⟨A5, c5, b5, rfl, ht5, hb5, hi5⟩
               refine ⟨_, rfl, ?_⟩
               have HI5 := Lib.hid hi5
               have y3 : w5.cell? ⟨w.heap.size + 1 + 1, 2, none⟩ = some (.slice A1 pre.len c1') := (hb5.cell (p := ⟨w.heap.size + 1 + 1, 2, none⟩) hza).trans q3
               have bz := (Below.refl w5.heap.size w5).alloc (Nat.le_refl _) (Obj.cells #[.int .i64 q.op, .int .i64 q.n, .slice A5 q.k.len c5] 30)
               have z3 : (w5.alloc (Obj.cells #[.int .i64 q.op, .int .i64 q.n, .slice A5 q.k.len c5] 30)).cell? ⟨w.heap.size + 1 + 1, 2, none⟩ = some (.slice A1 pre.len c1') := (bz.cell (p := ⟨w.heap.size + 1 + 1, 2, none⟩) (Nat.lt_of_lt_of_le hza hb5.size)).trans y3
               have HT5 := Lib.hid (HT.out.over (((Below.refl _ _).drew).trans hb5))
               have HK5 := Lib.hid (ht5.lower (base' := w.heap.size + 1 + 1 + 1) HWR.out)
               have HD5 := Lib.hid (show ∀ b, b ∈ bs → b ∈ b5 → False from fun q h1 h2 => by
                 have e1 := (HT.out.lt q h1).2
                 have e2 := (ht5.lt q h2).1
                 have e4 : wr.heap.size ≤ q := e2
                 omega)
               have HZ5 := Lib.hid (Nat.le_trans HWR.out hb5.size)
               have HROW5 := Lib.hid ((HROW.out.drew).below hb5 hza)
               have HRES5 := Lib.hid ((HRES.out.drew).below hb5 (Nat.lt_of_lt_of_le HRES.out.size (Nat.le_refl _)))
               have HRE5 := Lib.hid ((HRE.out.drew).below hb5 (Nat.lt_of_lt_of_le HRE.out.size (Nat.le_refl _)))
               have HB5 := Lib.hid (HB.out.trans (((Below.refl _ _).drew.trans hb5).mono HB.out.size))
               clear ht5 hb5 bz hi5))
        all_goals
          go_wp2_with fail
          go_roundw
          case rel =>
            have hr7 := HR6.out.put 2 (.slice A6 (pre.snoc q.op q.n q.k).len c6)
            have ht7 : Tree (w6.setCell ⟨w.heap.size + 1 + 1, 2, none⟩ (.slice A6 (pre.snoc q.op q.n q.k).len c6)) (w.heap.size + 1 + 1 + 1) (.slice A6 (pre.snoc q.op q.n q.k).len c6) (pre.snoc q.op q.n q.k) bs6 :=
              HT6.out.keep fun q hq => Below.heap_setCell w6 _ _ q (by have := (HT6.out.lt q hq).1; dsimp only; omega)
            refine ⟨⟨j + 1, pre.snoc q.op q.n q.k, A6, c6, bs6, hlt, by go_num, by rw [Fo.snoc_len, HPL.out], ?_, hr7, ht7, HB6.out.setCell (by dsimp only; omega) _⟩, HRES6.out.apart (by simp) _, HRE6.out.apart (by dsimp only; omega) _⟩
            have := HPRE.out
            rw [HE.out, chgF_cons, ← HQ.out] at this
            rw [Fo.snoc_app]
            exact this
          case measure => simp [intOf]; omega
      · have e9 : j = k.len := by omega
        rw [e9, Fo.drop_len] at hpre
        have hpk : pre = (chgF (gDrop (pureS ds)) (L - 1)) k := (Fo.app_nil pre).symm.trans hpre
        have hpl9 : pre.len = k.len := hpl.trans e9
        have hq0 := (midN_st (keeps_drop HTT.out (pureS ds)) HST0.out).1
        unfold midN at hq0
        dsimp only at hq0
        rw [← hpk] at hq0
        have HST := Lib.hid hq0
        have HRB := Lib.hid hrow
        have HRR := Lib.hid hres
        have HB0 := Lib.hid hb
        have HDR := Lib.hid (HDL.out.up hb)
        have HT := Lib.hid ht
        have HNB := Lib.hid (show w.heap.size + 1 ∉ bs from fun hz => by have := (ht.lt _ hz).1; omega)
        have HLOW := Lib.hid (show w.heap.size ≤ w.heap.size + 1 + 1 + 1 ∧ w.heap.size ≤ wr.heap.size from ⟨by omega, hb.size⟩)
        have HI := Lib.hid hi
        have HEX := Lib.hid (show wr.cell? ⟨w.heap.size, 2, none⟩ = some (.slice A k.len c) from hre.cell (i := 2) rfl)
        obtain ⟨GP, hGP⟩ : ∃ GP, GP = gDrop (pureS ds) L ⟨op, n, pre⟩ := ⟨_, rfl⟩
        have hGG : chgN (gDrop (pureS ds)) L ⟨op, n, k⟩ = GP := by rw [hGP, hpk]; rfl
        have HGG := Lib.hid hGG
        have HGP := Lib.hid hGP
        clear hrow ht hb hres hpre hpk hq0 hl ih hGP hGG hpl hpl9 hi
        have s2 := HEX.out
        go_upto_region 6 with fail
        clear s2 hlt e9 hj hre HEX
        by_cases h0 : op = 7 ∨ op = 8
        · obtain ⟨oa, ma, ka, ob, mb, kb, ek, sta, stb, hss⟩ := two_kids HST.out (kids_two (HTT.out.kids HST.out.all.1) (.inr (.inr h0)))
          dsimp only at ek hss
          subst ek
          obtain ⟨g, X, cx, X', cx', b1, b2, cs, hA, _, hg0, hrg, k0, k1, k2, k3, k4, k5, hta, htb, hia, hib, hsa, hsb⟩ := HT.out.two
          subst hA
          have HRG := Lib.hid hrg
          have HTA := Lib.hid hta
          have HTB := Lib.hid htb
          have HTB2 := Lib.hid hsb
          have HK := Lib.hid (And.intro k0 (And.intro k1 (And.intro k2 (And.intro k3 (And.intro k4 k5)))))
          have HIA := Lib.hid (And.intro hia hib)
          have HSAB := Lib.hid (And.intro sta stb)
          obtain ⟨OP, hOP⟩ : ∃ OP, OP = op := ⟨_, rfl⟩
          rw [← hOP] at HRB
          have hS : ∀ w' : World, Below wr.heap.size wr w' → w'.cell? ⟨w.heap.size + 1 + 1, 0, none⟩ = some (Value.int .i64 OP) ∧ w'.cell? ⟨w.heap.size + 1 + 1, 1, none⟩ = some (Value.int .i64 n) ∧ w'.cell? ⟨w.heap.size + 1 + 1, 2, none⟩ = some (Value.slice (some ⟨g, 0, none⟩) 2 c1') ∧ w'.cell? ⟨g, 0, none⟩ = some (Value.int .i64 oa) ∧ w'.cell? ⟨g, 1, none⟩ = some (Value.int .i64 ma) ∧ w'.cell? ⟨g, 2, none⟩ = some (Value.slice X ka.len cx) ∧ w'.cell? ⟨g, 3, none⟩ = some (Value.int .i64 ob) ∧ w'.cell? ⟨g, 4, none⟩ = some (Value.int .i64 mb) ∧ w'.cell? ⟨g, 5, none⟩ = some (Value.slice X' kb.len cx') := by
            intro w' hb'
            have hz1 := HRB.out.size
            have hz2 := HRG.out.size
            skip
            obtain ⟨k0, k1, k2, k3, k4, k5⟩ := HK.out
            exact ⟨(hb'.cell (p := ⟨w.heap.size + 1 + 1, 0, none⟩) hz1).trans (HRB.out.cell (i := 0) rfl), (hb'.cell (p := ⟨w.heap.size + 1 + 1, 1, none⟩) hz1).trans (HRB.out.cell (i := 1) rfl), (hb'.cell (p := ⟨w.heap.size + 1 + 1, 2, none⟩) hz1).trans (HRB.out.cell (i := 2) rfl), (hb'.cell (p := ⟨g, 0, none⟩) hz2).trans (HRG.out.cell k0), (hb'.cell (p := ⟨g, 1, none⟩) hz2).trans (HRG.out.cell k1), (hb'.cell (p := ⟨g, 2, none⟩) hz2).trans (HRG.out.cell k2), (hb'.cell (p := ⟨g, 3, none⟩) hz2).trans (HRG.out.cell k3), (hb'.cell (p := ⟨g, 4, none⟩) hz2).trans (HRG.out.cell k4), (hb'.cell (p := ⟨g, 5, none⟩) hz2).trans (HRG.out.cell k5)⟩
          have HS := Lib.hid hS
          obtain ⟨pz, hpz⟩ : ∃ pz, pz = pureS ds oa ma ka := ⟨_, rfl⟩
          have HPW := Lib.hid (show ∀ w' : World, Below wr.heap.size wr w' → Calls Try.prog 39 #[.slice DA ds.length DC, .agg #[.int .i64 oa, .int .i64 ma, .slice X ka.len cx]] w' (Gives (.bool pz) w') from fun w' hb' => by
            rw [hpz]
            have ha := HSAB.out.1
            exact l5Pure_any ds DA DC HDZ.out HNM.out ka.size oa ma ka X cx w' rfl (HDR.out.up hb') (HTA.out.over hb').lies0 (Nat.le_trans (small_size ha.small) (by decide)))
          obtain ⟨cn, hcn⟩ : ∃ cn, cn = cntN n ob mb kb := ⟨_, rfl⟩
          have HCN := Lib.hid (show ∀ w' : World, Below wr.heap.size wr w' → Calls Try.prog 40 #[.agg #[.int .i64 ob, .int .i64 mb, .slice X' kb.len cx'], .int .i64 n] w' (Gives (.int .i64 ((cn : Nat) : Int)) w') from fun w' hb' => by
            rw [hcn]
            have hb := HSAB.out.2
            exact specCount_any kb.size n ob mb kb X' cx' w' rfl (HTB.out.over hb').lies0 (Nat.le_trans (small_size hb.small) (by decide)))
          have HDROP := Lib.hid (show dropOk (pureS ds) ⟨op, n, Fo.cons oa ma ka (Fo.cons ob mb kb Fo.nil)⟩ = ((decide (op = 7 ∨ op = 8) && pz) && (decide (op = 8) || decide (cn = 0))) from by rw [hpz, hcn]; rfl)
          clear hrg hta htb hia hib sta stb k0 k1 k2 k3 k4 k5 hss hsa hsb hS hpz hcn
          have HBS := Lib.hid (Below.refl wr.heap.size wr)
          have HBSd := Lib.hid (show Below wr.heap.size wr wr.drew from (Below.refl _ _).drew)
          rcases h0 with h7 | h8
          · subst h7
            subst hOP
            obtain ⟨v0, v1, v2, v3, v4, v5, v6, v7, v8⟩ := HS.out _ HBS.out
            go_upto_region 8 with fail
            clear v0 v1 v2 v3 v4 v5 v6 v7 v8
            have s0 := HS.out _ HBSd.out
            cases pz with
            | false =>
              go_wp2_with fail
              refine wp_region_held_drew (S := fun w' => w'.cell? ⟨w.heap.size + 1 + 1, 0, none⟩ = some (Value.int .i64 7) ∧ w'.cell? ⟨w.heap.size + 1 + 1, 1, none⟩ = some (Value.int .i64 n) ∧ w'.cell? ⟨w.heap.size + 1 + 1, 2, none⟩ = some (Value.slice (some ⟨g, 0, none⟩) 2 c1') ∧ w'.cell? ⟨g, 0, none⟩ = some (Value.int .i64 oa) ∧ w'.cell? ⟨g, 1, none⟩ = some (Value.int .i64 ma) ∧ w'.cell? ⟨g, 2, none⟩ = some (Value.slice X ka.len cx) ∧ w'.cell? ⟨g, 3, none⟩ = some (Value.int .i64 ob) ∧ w'.cell? ⟨g, 4, none⟩ = some (Value.int .i64 mb) ∧ w'.cell? ⟨g, 5, none⟩ = some (Value.slice X' kb.len cx')) (by kernel_rfl) s0 (fun hHeld => ?_)
              refine wpAnyH_take (i := 0) (v := ?v0) rfl (by kernel_rfl) (by kernel_rfl) (by kernel_rfl) (fun _ _ _ h => h) (Or.inl ⟨by rfl, ?y0⟩) (by assumption) ?r0
              case y0 => (intro w' hSw; (try dsimp only at hSw); go_simp; try with_reducible rfl)
              try simp only [Act.put, List.setIfInBounds_toArray, List.set_cons_zero, List.set_cons_succ, List.getElem_toArray, List.getElem_cons_zero]
              refine wpAnyH_take (i := 1) (v := ?v1) rfl (by kernel_rfl) (by kernel_rfl) (by kernel_rfl) (fun _ _ _ h => h) (Or.inl ⟨by rfl, ?y1⟩) (by assumption) ?r1
              case y1 => (intro w' hSw; (try dsimp only at hSw); go_simp; try with_reducible rfl)
              try simp only [Act.put, List.setIfInBounds_toArray, List.set_cons_zero, List.set_cons_succ, List.getElem_toArray, List.getElem_cons_succ, List.getElem_cons_zero]
              refine wpAnyH_take (i := 2) (v := ?v2) rfl (by kernel_rfl) (by kernel_rfl) (by kernel_rfl) (fun _ _ _ h => h) (Or.inl ⟨by rfl, ?y2⟩) (by assumption) ?r2
              case y2 => (intro w' hSw; (try dsimp only at hSw); go_simp; try with_reducible rfl)
              try simp only [Act.put, List.setIfInBounds_toArray, List.set_cons_zero, List.set_cons_succ, List.getElem_toArray, List.getElem_cons_succ, List.getElem_cons_zero]
              refine wpAnyH_take (i := 3) (v := ?v3) rfl (by kernel_rfl) (by kernel_rfl) (by kernel_rfl) (fun _ _ _ h => h) (Or.inl ⟨by rfl, ?y3⟩) (by assumption) ?r3
              case y3 => (intro w' hSw; (try dsimp only at hSw); go_simp; try with_reducible rfl)
              try simp only [Act.put, List.setIfInBounds_toArray, List.set_cons_zero, List.set_cons_succ, List.getElem_toArray, List.getElem_cons_succ, List.getElem_cons_zero]
              refine wpAnyH_take (i := 4) (v := ?v4) rfl (by kernel_rfl) (by kernel_rfl) (by kernel_rfl) (fun _ _ _ h => h) (Or.inl ⟨by rfl, ?y4⟩) (by assumption) ?r4
              case y4 => (intro w' hSw; (try dsimp only at hSw); go_simp; try with_reducible rfl)
              try simp only [Act.put, List.setIfInBounds_toArray, List.set_cons_zero, List.set_cons_succ, List.getElem_toArray, List.getElem_cons_succ, List.getElem_cons_zero]
              refine wpAnyH_take (i := 5) (v := ?v5) rfl (by kernel_rfl) (by kernel_rfl) (by kernel_rfl) (fun _ _ _ h => h) (Or.inl ⟨by rfl, ?y5⟩) (by assumption) ?r5
              case y5 => (intro w' hSw; (try dsimp only at hSw); go_simp; try with_reducible rfl)
              try simp only [Act.put, List.setIfInBounds_toArray, List.set_cons_zero, List.set_cons_succ, List.getElem_toArray, List.getElem_cons_succ, List.getElem_cons_zero]
              refine wpAnyH_take (i := 6) (v := ?v6) rfl (by kernel_rfl) (by kernel_rfl) (by kernel_rfl) (fun _ _ _ h => h) (Or.inl ⟨by rfl, ?y6⟩) (by assumption) ?r6
              case y6 => (intro w' hSw; (try dsimp only at hSw); go_simp; try with_reducible rfl)
              try simp only [Act.put, List.setIfInBounds_toArray, List.set_cons_zero, List.set_cons_succ, List.getElem_toArray, List.getElem_cons_succ, List.getElem_cons_zero]
              refine wpAnyH_take (i := 7) (v := ?v7) rfl (by kernel_rfl) (by kernel_rfl) (by kernel_rfl) (fun _ _ _ h => h) (Or.inl ⟨by rfl, ?y7⟩) (by assumption) ?r7
              case y7 => (intro w' hSw; (try dsimp only at hSw); go_simp; try with_reducible rfl)
              try simp only [Act.put, List.setIfInBounds_toArray, List.set_cons_zero, List.set_cons_succ, List.getElem_toArray, List.getElem_cons_succ, List.getElem_cons_zero]
              refine wpAnyH_take (i := 8) (v := ?v8) rfl (by kernel_rfl) (by kernel_rfl) (by kernel_rfl) (fun _ _ _ h => h) (Or.inl ⟨by rfl, ?y8⟩) (by assumption) ?r8
              case y8 => (intro w' hSw; (try dsimp only at hSw); go_simp; try with_reducible rfl)
              try simp only [Act.put, List.setIfInBounds_toArray, List.set_cons_zero, List.set_cons_succ, List.getElem_toArray, List.getElem_cons_succ, List.getElem_cons_zero]
              refine wpAnyH_ready (rs := [9]) (by kernel_rfl) (by simp) ?_
              refine AllReadyH.cons rfl (fun K hK => ?_) AllReadyH.nil
              go_simp
              with_reducible refine (HPW.out _ HBSd.out).mono ?_
              rintro e w5 ⟨rfl, hb5⟩
              have HB5 := Lib.hid (HBSd.out.trans (hb5.mono HBSd.out.size))
              clear hb5
              refine hK.out _ _ (HS.out _ HB5.out) (fun hHeld2 => ?_)
              clear hK K
              try simp only [Act.put, List.setIfInBounds_toArray, List.set_cons_zero, List.set_cons_succ, List.getElem_toArray, List.getElem_cons_succ, List.getElem_cons_zero]
              refine wpAnyH_take (i := 10) (v := ?v10) rfl (by kernel_rfl) (by kernel_rfl) (by kernel_rfl) (fun _ _ _ h => h) (Or.inl ⟨by rfl, ?y10⟩) (by assumption) ?r10
              case y10 => (intro w' hSw; (try dsimp only at hSw); go_simp; try with_reducible rfl)
              try simp only [Act.put, List.setIfInBounds_toArray, List.set_cons_zero, List.set_cons_succ, List.getElem_toArray, List.getElem_cons_succ, List.getElem_cons_zero]
              refine wpAnyH_take (i := 11) (v := ?v11) rfl (by kernel_rfl) (by kernel_rfl) (by kernel_rfl) (fun _ _ _ h => h) (Or.inl ⟨by rfl, ?y11⟩) (by assumption) ?r11
              case y11 => (intro w' hSw; (try dsimp only at hSw); go_simp; try with_reducible rfl)
              try simp only [Act.put, List.setIfInBounds_toArray, List.set_cons_zero, List.set_cons_succ, List.getElem_toArray, List.getElem_cons_succ, List.getElem_cons_zero]
              refine wpAnyH_take (i := 12) (v := undef) rfl (by kernel_rfl) (by kernel_rfl) (by kernel_rfl) (fun _ _ _ h => h) (Or.inr ⟨by rfl, rfl⟩) (by assumption) ?r12
              try simp only [Act.put, List.setIfInBounds_toArray, List.set_cons_zero, List.set_cons_succ, List.getElem_toArray, List.getElem_cons_succ, List.getElem_cons_zero]
              refine wpAnyH_take (i := 13) (v := undef) rfl (by kernel_rfl) (by kernel_rfl) (by kernel_rfl) (fun _ _ _ h => h) (Or.inr ⟨by rfl, rfl⟩) (by assumption) ?r13
              try simp only [Act.put, List.setIfInBounds_toArray, List.set_cons_zero, List.set_cons_succ, List.getElem_toArray, List.getElem_cons_succ, List.getElem_cons_zero]
              refine wpAnyH_take (i := 14) (v := undef) rfl (by kernel_rfl) (by kernel_rfl) (by kernel_rfl) (fun _ _ _ h => h) (Or.inr ⟨by rfl, rfl⟩) (by assumption) ?r14
              try simp only [Act.put, List.setIfInBounds_toArray, List.set_cons_zero, List.set_cons_succ, List.getElem_toArray, List.getElem_cons_succ, List.getElem_cons_zero]
              refine wpAnyH_take (i := 15) (v := undef) rfl (by kernel_rfl) (by kernel_rfl) (by kernel_rfl) (fun _ _ _ h => h) (Or.inr ⟨by rfl, rfl⟩) (by assumption) ?r15
              try simp only [Act.put, List.setIfInBounds_toArray, List.set_cons_zero, List.set_cons_succ, List.getElem_toArray, List.getElem_cons_succ, List.getElem_cons_zero]
              refine wpAnyH_take (i := 16) (v := undef) rfl (by kernel_rfl) (by kernel_rfl) (by kernel_rfl) (fun _ _ _ h => h) (Or.inr ⟨by rfl, rfl⟩) (by assumption) ?r16
              try simp only [Act.put, List.setIfInBounds_toArray, List.set_cons_zero, List.set_cons_succ, List.getElem_toArray, List.getElem_cons_succ, List.getElem_cons_zero]
              refine wpAnyH_take (i := 17) (v := undef) rfl (by kernel_rfl) (by kernel_rfl) (by kernel_rfl) (fun _ _ _ h => h) (Or.inr ⟨by rfl, rfl⟩) (by assumption) ?r17
              try simp only [Act.put, List.setIfInBounds_toArray, List.set_cons_zero, List.set_cons_succ, List.getElem_toArray, List.getElem_cons_succ, List.getElem_cons_zero]
              refine wpAnyH_take (i := 18) (v := undef) rfl (by kernel_rfl) (by kernel_rfl) (by kernel_rfl) (fun _ _ _ h => h) (Or.inr ⟨by rfl, rfl⟩) (by assumption) ?r18
              try simp only [Act.put, List.setIfInBounds_toArray, List.set_cons_zero, List.set_cons_succ, List.getElem_toArray, List.getElem_cons_succ, List.getElem_cons_zero]
              refine wpAnyH_take (i := 19) (v := undef) rfl (by kernel_rfl) (by kernel_rfl) (by kernel_rfl) (fun _ _ _ h => h) (Or.inr ⟨by rfl, rfl⟩) (by assumption) ?r19
              try simp only [Act.put, List.setIfInBounds_toArray, List.set_cons_zero, List.set_cons_succ, List.getElem_toArray, List.getElem_cons_succ, List.getElem_cons_zero]
              refine wpAnyH_take (i := 20) (v := ?v20) rfl (by kernel_rfl) (by kernel_rfl) (by kernel_rfl) (fun _ _ _ h => h) (Or.inl ⟨by rfl, ?y20⟩) (by assumption) ?r20
              case y20 => (intro w' hSw; (try dsimp only at hSw); go_simp; try with_reducible rfl)
              try simp only [Act.put, List.setIfInBounds_toArray, List.set_cons_zero, List.set_cons_succ, List.getElem_toArray, List.getElem_cons_succ, List.getElem_cons_zero]
              refine wpAnyH_done (by kernel_rfl) ?_ _
              have HGE := Lib.hid (show GP = ⟨7, n, Fo.cons oa ma ka (Fo.cons ob mb kb Fo.nil)⟩ from HGP.out.trans (gDrop_no (by rw [HDROP.out]; simp)))
              clear s0 hHeld hHeld2
              obtain ⟨v0, v1, v2, v3, v4, v5, v6, v7, v8⟩ := HS.out _ HB5.out
              have hres5 := HRR.out.below HB5.out HRR.out.size
              have c0 := hres5.cell (i := 0) rfl
              have c1 := hres5.cell (i := 1) rfl
              have c2 := hres5.cell (i := 2) rfl
              have f0 := hres5.free 0
              have f1 := hres5.free 1
              have f2 := hres5.free 2
              have hres3 := ((hres5.put 0 (.int .i64 7)).put 1 (.int .i64 n)).put 2 (.slice (some ⟨g, 0, none⟩) 2 c1')
              have r0 := hres3.cell (i := 0) rfl
              have r1 := hres3.cell (i := 1) rfl
              have r2 := hres3.cell (i := 2) rfl
              have HBZ := Lib.hid ((((HB0.out.trans (HB5.out.mono HB0.out.size)).setCell (p := ⟨w.heap.size + 1, 0, none⟩) (by dsimp only; omega) (.int .i64 7)).setCell (p := ⟨w.heap.size + 1, 1, none⟩) (by dsimp only; omega) (.int .i64 n)).setCell (p := ⟨w.heap.size + 1, 2, none⟩) (by dsimp only; omega) (.slice (some ⟨g, 0, none⟩) 2 c1'))
              obtain ⟨bz, htz, hap⟩ := (show ∃ bz, Tree _ w.heap.size (.slice (some ⟨g, 0, none⟩) (Fo.cons oa ma ka (Fo.cons ob mb kb Fo.nil)).len c1') (Fo.cons oa ma ka (Fo.cons ob mb kb Fo.nil)) bz ∧ w.heap.size + 1 ∉ bz from ⟨bs, (HT.out.over HB5.out).lower HLOW.out.1, HNB.out⟩)
              have HTZ := Lib.hid (((htz.keep_at (p := ⟨w.heap.size + 1, 0, none⟩) hap (.int .i64 7)).keep_at (p := ⟨w.heap.size + 1, 1, none⟩) hap (.int .i64 n)).keep_at (p := ⟨w.heap.size + 1, 2, none⟩) hap (.slice (some ⟨g, 0, none⟩) 2 c1'))
              clear hres5 hres3 htz hap
              go_wp2_with fail
              refine bodyPost_ret (v := .agg #[.int .i64 7, .int .i64 n, .slice (some ⟨g, 0, none⟩) 2 c1']) ?_ rfl (by rw [HGG.out, HGE.out]; exact ⟨(some ⟨g, 0, none⟩), c1', bz, rfl, HTZ.out, HBZ.out, HI.out⟩)
              simp [results, Try.f21, go_sem, r0, r1, r2]
            | true =>
              go_wp2_with fail
              go_region_held3 (fun w' => w'.cell? ⟨w.heap.size + 1 + 1, 0, none⟩ = some (Value.int .i64 7) ∧ w'.cell? ⟨w.heap.size + 1 + 1, 1, none⟩ = some (Value.int .i64 n) ∧ w'.cell? ⟨w.heap.size + 1 + 1, 2, none⟩ = some (Value.slice (some ⟨g, 0, none⟩) 2 c1') ∧ w'.cell? ⟨g, 0, none⟩ = some (Value.int .i64 oa) ∧ w'.cell? ⟨g, 1, none⟩ = some (Value.int .i64 ma) ∧ w'.cell? ⟨g, 2, none⟩ = some (Value.slice X ka.len cx) ∧ w'.cell? ⟨g, 3, none⟩ = some (Value.int .i64 ob) ∧ w'.cell? ⟨g, 4, none⟩ = some (Value.int .i64 mb) ∧ w'.cell? ⟨g, 5, none⟩ = some (Value.slice X' kb.len cx'))
                (first | with_reducible exact s0 | with_reducible exact s5 | with_reducible exact s6 | fail)
                (first
                  | (go_at_call 39
                     refine (HPW.out _ HBSd.out).mono ?_
                     rintro e w5 ⟨rfl, hb5⟩
                     have HB5 := Lib.hid (HBSd.out.trans (hb5.mono HBSd.out.size))
                     have s5 := HS.out _ HB5.out
                     clear hb5)
                  | (go_at_call 40
                     refine (HCN.out _ HB5.out).mono ?_
                     rintro e w6 ⟨rfl, hb6⟩
                     have HB6 := Lib.hid (HB5.out.trans (hb6.mono HB5.out.size))
                     have s6 := HS.out _ HB6.out
                     clear hb6)
                  | fail)
              all_goals
                clear s0 s5 s6
                obtain ⟨v0, v1, v2, v3, v4, v5, v6, v7, v8⟩ := HS.out _ HB6.out
                by_cases hc0 : cn = 0
                · have HGE := Lib.hid (show GP = ⟨ob, mb, kb⟩ from HGP.out.trans (gDrop_yes (by rw [HDROP.out]; simp [hc0])))
                  subst hc0
                  have hres5 := HRR.out.below HB6.out HRR.out.size
                  have c0 := hres5.cell (i := 0) rfl
                  have c1 := hres5.cell (i := 1) rfl
                  have c2 := hres5.cell (i := 2) rfl
                  have f0 := hres5.free 0
                  have f1 := hres5.free 1
                  have f2 := hres5.free 2
                  have hres3 := ((hres5.put 0 (.int .i64 ob)).put 1 (.int .i64 mb)).put 2 (.slice X' kb.len cx')
                  have r0 := hres3.cell (i := 0) rfl
                  have r1 := hres3.cell (i := 1) rfl
                  have r2 := hres3.cell (i := 2) rfl
                  have HBZ := Lib.hid ((((HB0.out.trans (HB6.out.mono HB0.out.size)).setCell (p := ⟨w.heap.size + 1, 0, none⟩) (by dsimp only; omega) (.int .i64 ob)).setCell (p := ⟨w.heap.size + 1, 1, none⟩) (by dsimp only; omega) (.int .i64 mb)).setCell (p := ⟨w.heap.size + 1, 2, none⟩) (by dsimp only; omega) (.slice X' kb.len cx'))
                  obtain ⟨bz, htz, hap⟩ := (show ∃ bz, Tree _ w.heap.size (.slice X' kb.len cx') kb bz ∧ w.heap.size + 1 ∉ bz from ⟨b2, (HTB.out.over HB6.out).lower HLOW.out.1, fun hz => HNB.out (HTB2.out _ hz)⟩)
                  have HTZ := Lib.hid (((htz.keep_at (p := ⟨w.heap.size + 1, 0, none⟩) hap (.int .i64 ob)).keep_at (p := ⟨w.heap.size + 1, 1, none⟩) hap (.int .i64 mb)).keep_at (p := ⟨w.heap.size + 1, 2, none⟩) hap (.slice X' kb.len cx'))
                  clear hres5 hres3 htz hap
                  go_wp2_with fail
                  refine bodyPost_ret (v := .agg #[.int .i64 ob, .int .i64 mb, .slice X' kb.len cx']) ?_ rfl (by rw [HGG.out, HGE.out]; exact ⟨X', cx', bz, rfl, HTZ.out, HBZ.out, HIA.out.2⟩)
                  simp [results, Try.f21, go_sem, r0, r1, r2]
                · have HGE := Lib.hid (show GP = ⟨7, n, Fo.cons oa ma ka (Fo.cons ob mb kb Fo.nil)⟩ from HGP.out.trans (gDrop_no (by rw [HDROP.out]; simp [hc0])))
                  have bc : (((cn : Nat) : Int) == 0) = false := by simp; omega
                  clear hc0
                  have hres5 := HRR.out.below HB6.out HRR.out.size
                  have c0 := hres5.cell (i := 0) rfl
                  have c1 := hres5.cell (i := 1) rfl
                  have c2 := hres5.cell (i := 2) rfl
                  have f0 := hres5.free 0
                  have f1 := hres5.free 1
                  have f2 := hres5.free 2
                  have hres3 := ((hres5.put 0 (.int .i64 7)).put 1 (.int .i64 n)).put 2 (.slice (some ⟨g, 0, none⟩) 2 c1')
                  have r0 := hres3.cell (i := 0) rfl
                  have r1 := hres3.cell (i := 1) rfl
                  have r2 := hres3.cell (i := 2) rfl
                  have HBZ := Lib.hid ((((HB0.out.trans (HB6.out.mono HB0.out.size)).setCell (p := ⟨w.heap.size + 1, 0, none⟩) (by dsimp only; omega) (.int .i64 7)).setCell (p := ⟨w.heap.size + 1, 1, none⟩) (by dsimp only; omega) (.int .i64 n)).setCell (p := ⟨w.heap.size + 1, 2, none⟩) (by dsimp only; omega) (.slice (some ⟨g, 0, none⟩) 2 c1'))
                  obtain ⟨bz, htz, hap⟩ := (show ∃ bz, Tree _ w.heap.size (.slice (some ⟨g, 0, none⟩) (Fo.cons oa ma ka (Fo.cons ob mb kb Fo.nil)).len c1') (Fo.cons oa ma ka (Fo.cons ob mb kb Fo.nil)) bz ∧ w.heap.size + 1 ∉ bz from ⟨bs, (HT.out.over HB6.out).lower HLOW.out.1, HNB.out⟩)
                  have HTZ := Lib.hid (((htz.keep_at (p := ⟨w.heap.size + 1, 0, none⟩) hap (.int .i64 7)).keep_at (p := ⟨w.heap.size + 1, 1, none⟩) hap (.int .i64 n)).keep_at (p := ⟨w.heap.size + 1, 2, none⟩) hap (.slice (some ⟨g, 0, none⟩) 2 c1'))
                  clear hres5 hres3 htz hap
                  go_wp2_with fail
                  refine bodyPost_ret (v := .agg #[.int .i64 7, .int .i64 n, .slice (some ⟨g, 0, none⟩) 2 c1']) ?_ rfl (by rw [HGG.out, HGE.out]; exact ⟨(some ⟨g, 0, none⟩), c1', bz, rfl, HTZ.out, HBZ.out, HI.out⟩)
                  simp [results, Try.f21, go_sem, r0, r1, r2]
          · subst h8
            subst hOP
            obtain ⟨v0, v1, v2, v3, v4, v5, v6, v7, v8⟩ := HS.out _ HBS.out
            go_wp2_with fail
            refine (HPW.out _ HBS.out).mono ?_
            rintro e w5 ⟨rfl, hb5⟩
            have HB5 := Lib.hid hb5
            clear v0 v1 v2 v3 v4 v5 v6 v7 v8 hb5
            obtain ⟨v0, v1, v2, v3, v4, v5, v6, v7, v8⟩ := HS.out _ HB5.out
            cases pz with
            | false =>
              have HGE := Lib.hid (show GP = ⟨8, n, Fo.cons oa ma ka (Fo.cons ob mb kb Fo.nil)⟩ from HGP.out.trans (gDrop_no (by rw [HDROP.out]; simp)))
              go_upto_region 8 with fail
              go_wp2_with fail
              go_quiet (fail)
              have HB5d := Lib.hid (below_drewN HB5.out nq)
              clear v0 v1 v2 v3 v4 v5 v6 v7 v8
              obtain ⟨v0, v1, v2, v3, v4, v5, v6, v7, v8⟩ := HS.out _ HB5d.out
              have hres5 := HRR.out.below HB5d.out HRR.out.size
              have c0 := hres5.cell (i := 0) rfl
              have c1 := hres5.cell (i := 1) rfl
              have c2 := hres5.cell (i := 2) rfl
              have f0 := hres5.free 0
              have f1 := hres5.free 1
              have f2 := hres5.free 2
              have hres3 := ((hres5.put 0 (.int .i64 8)).put 1 (.int .i64 n)).put 2 (.slice (some ⟨g, 0, none⟩) 2 c1')
              have r0 := hres3.cell (i := 0) rfl
              have r1 := hres3.cell (i := 1) rfl
              have r2 := hres3.cell (i := 2) rfl
              have HBZ := Lib.hid ((((HB0.out.trans (HB5d.out.mono HB0.out.size)).setCell (p := ⟨w.heap.size + 1, 0, none⟩) (by dsimp only; omega) (.int .i64 8)).setCell (p := ⟨w.heap.size + 1, 1, none⟩) (by dsimp only; omega) (.int .i64 n)).setCell (p := ⟨w.heap.size + 1, 2, none⟩) (by dsimp only; omega) (.slice (some ⟨g, 0, none⟩) 2 c1'))
              obtain ⟨bz, htz, hap⟩ := (show ∃ bz, Tree _ w.heap.size (.slice (some ⟨g, 0, none⟩) (Fo.cons oa ma ka (Fo.cons ob mb kb Fo.nil)).len c1') (Fo.cons oa ma ka (Fo.cons ob mb kb Fo.nil)) bz ∧ w.heap.size + 1 ∉ bz from ⟨bs, (HT.out.over HB5d.out).lower HLOW.out.1, HNB.out⟩)
              have HTZ := Lib.hid (((htz.keep_at (p := ⟨w.heap.size + 1, 0, none⟩) hap (.int .i64 8)).keep_at (p := ⟨w.heap.size + 1, 1, none⟩) hap (.int .i64 n)).keep_at (p := ⟨w.heap.size + 1, 2, none⟩) hap (.slice (some ⟨g, 0, none⟩) 2 c1'))
              clear hres5 hres3 htz hap
              go_wp2_with fail
              refine bodyPost_ret (v := .agg #[.int .i64 8, .int .i64 n, .slice (some ⟨g, 0, none⟩) 2 c1']) ?_ rfl (by rw [HGG.out, HGE.out]; exact ⟨(some ⟨g, 0, none⟩), c1', bz, rfl, HTZ.out, HBZ.out, HI.out⟩)
              simp [results, Try.f21, go_sem, r0, r1, r2]
            | true =>
              have HGE := Lib.hid (show GP = ⟨ob, mb, kb⟩ from HGP.out.trans (gDrop_yes (by rw [HDROP.out]; simp)))
              have hres5 := HRR.out.below HB5.out HRR.out.size
              have c0 := hres5.cell (i := 0) rfl
              have c1 := hres5.cell (i := 1) rfl
              have c2 := hres5.cell (i := 2) rfl
              have f0 := hres5.free 0
              have f1 := hres5.free 1
              have f2 := hres5.free 2
              have hres3 := ((hres5.put 0 (.int .i64 ob)).put 1 (.int .i64 mb)).put 2 (.slice X' kb.len cx')
              have r0 := hres3.cell (i := 0) rfl
              have r1 := hres3.cell (i := 1) rfl
              have r2 := hres3.cell (i := 2) rfl
              have HBZ := Lib.hid ((((HB0.out.trans (HB5.out.mono HB0.out.size)).setCell (p := ⟨w.heap.size + 1, 0, none⟩) (by dsimp only; omega) (.int .i64 ob)).setCell (p := ⟨w.heap.size + 1, 1, none⟩) (by dsimp only; omega) (.int .i64 mb)).setCell (p := ⟨w.heap.size + 1, 2, none⟩) (by dsimp only; omega) (.slice X' kb.len cx'))
              obtain ⟨bz, htz, hap⟩ := (show ∃ bz, Tree _ w.heap.size (.slice X' kb.len cx') kb bz ∧ w.heap.size + 1 ∉ bz from ⟨b2, (HTB.out.over HB5.out).lower HLOW.out.1, fun hz => HNB.out (HTB2.out _ hz)⟩)
              have HTZ := Lib.hid (((htz.keep_at (p := ⟨w.heap.size + 1, 0, none⟩) hap (.int .i64 ob)).keep_at (p := ⟨w.heap.size + 1, 1, none⟩) hap (.int .i64 mb)).keep_at (p := ⟨w.heap.size + 1, 2, none⟩) hap (.slice X' kb.len cx'))
              clear hres5 hres3 htz hap
              go_wp2_with fail
              refine bodyPost_ret (v := .agg #[.int .i64 ob, .int .i64 mb, .slice X' kb.len cx']) ?_ rfl (by rw [HGG.out, HGE.out]; exact ⟨X', cx', bz, rfl, HTZ.out, HBZ.out, HIA.out.2⟩)
              simp [results, Try.f21, go_sem, r0, r1, r2]
        · have HGE := Lib.hid (show GP = ⟨op, n, pre⟩ from HGP.out.trans (gDrop_no (by unfold dropOk; simp [h0])))
          have b7 : (op == 7) = false := by simp; omega
          have b8 : (op == 8) = false := by simp; omega
          have q0 := HRB.out.cell (i := 0) rfl
          have q1 := HRB.out.cell (i := 1) rfl
          have q2 := HRB.out.cell (i := 2) rfl
          go_upto_region 8 with fail
          go_wp2_with fail
          go_quiet (fail)
          have HBSd := Lib.hid (below_drewN (Below.refl wr.heap.size wr) nq)
          clear q0 q1 q2
          have HRBd := Lib.hid (HRB.out.below HBSd.out HRB.out.size)
          have q0 := HRBd.out.cell (i := 0) rfl
          have q1 := HRBd.out.cell (i := 1) rfl
          have q2 := HRBd.out.cell (i := 2) rfl
          have hres5 := HRR.out.below HBSd.out HRR.out.size
          have c0 := hres5.cell (i := 0) rfl
          have c1 := hres5.cell (i := 1) rfl
          have c2 := hres5.cell (i := 2) rfl
          have f0 := hres5.free 0
          have f1 := hres5.free 1
          have f2 := hres5.free 2
          have hres3 := ((hres5.put 0 (.int .i64 op)).put 1 (.int .i64 n)).put 2 (.slice A1 pre.len c1')
          have r0 := hres3.cell (i := 0) rfl
          have r1 := hres3.cell (i := 1) rfl
          have r2 := hres3.cell (i := 2) rfl
          have HBZ := Lib.hid ((((HB0.out.trans (HBSd.out.mono HB0.out.size)).setCell (p := ⟨w.heap.size + 1, 0, none⟩) (by dsimp only; omega) (.int .i64 op)).setCell (p := ⟨w.heap.size + 1, 1, none⟩) (by dsimp only; omega) (.int .i64 n)).setCell (p := ⟨w.heap.size + 1, 2, none⟩) (by dsimp only; omega) (.slice A1 pre.len c1'))
          obtain ⟨bz, htz, hap⟩ := (show ∃ bz, Tree _ w.heap.size (.slice A1 pre.len c1') pre bz ∧ w.heap.size + 1 ∉ bz from ⟨bs, (HT.out.over HBSd.out).lower HLOW.out.1, HNB.out⟩)
          have HTZ := Lib.hid (((htz.keep_at (p := ⟨w.heap.size + 1, 0, none⟩) hap (.int .i64 op)).keep_at (p := ⟨w.heap.size + 1, 1, none⟩) hap (.int .i64 n)).keep_at (p := ⟨w.heap.size + 1, 2, none⟩) hap (.slice A1 pre.len c1'))
          clear hres5 hres3 htz hap
          go_wp2_with fail
          refine bodyPost_ret (v := .agg #[.int .i64 op, .int .i64 n, .slice A1 pre.len c1']) ?_ rfl (by rw [HGG.out, HGE.out]; exact ⟨A1, c1', bz, rfl, HTZ.out, HBZ.out, HI.out⟩)
          simp [results, Try.f21, go_sem, r0, r1, r2]
end Go.Proofs.Ytemphmncdmbndaa
