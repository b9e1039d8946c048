/-

  spec.l4Let, one level of it.
  spec.l4Put.
-/
import Derived.Test.YtjlaabipgppijaaTree
import Derived.Test.YtjlaabipgppijaaCopyS
import Derived.Test.YtjlaabipgppijaaPutI
import Derived.Test.YtjlaabipgppijaaSpecAll
import Derived.Test.YtjlaabipgppijaaFresh
namespace Go.Proofs.Ytjlaabipgppijaa
open Go.RowKit Go.Shelf
set_option maxRecDepth 100000

theorem beq_nat (m : Nat) : ((m : Int) == 0) = !(!decide (m = 0)) := by
  by_cases h : m = 0
  · simp [h]
  · have : ¬ ((m : Int) = 0) := by omega
    simp [h]
theorem gt_nat (m : Nat) : decide (0 < m) = !decide (m = 0) := by
  by_cases h : m = 0
  · simp [h]
  · have : 0 < m := by omega
    simp [h, this]
theorem free_gt {n : Int} {x : Nd} (h : inVar n = true) : decide (n ∈ freeP x) = !decide (cntP n x = 0) := by
  by_cases hc : cntP n x = 0
  · have : ¬ n ∈ freeP x := fun hm => (freeP_mem h).1 hm hc
    simp [hc, this]
  · have : n ∈ freeP x := (freeP_mem h).2 hc
    simp [hc, this]
structure PutSOk (f : Nat) (p : Nd) (A : Option Addr) (x : Nd) (X : Option Addr) (v : Int) (w : World) : Prop where
  lp : Lies w 0 w.heap.size A 0 p.k
  lx : Lies w 0 w.heap.size X 0 x.k
  size : p.k.size < f
  small : p.k.size ≤ 80
  fit : FitN p
  ip : I64 p.op ∧ I64 p.n
  xs : x.k.size ≤ 80
  ix : I64 x.op ∧ I64 x.n
  iv : I64 v
def PutSC (f : Nat) : Prop := ∀ (p : Nd) (v : Int) (x : Nd) (A X : Option Addr) (c cx : Nat) (w : World), PutSOk f p A x X v w →
  Calls Try.prog 32 #[.agg #[.int .i64 p.op, .int .i64 p.n, .slice A p.k.len c], .int .i64 v, .agg #[.int .i64 x.op, .int .i64 x.n, .slice X x.k.len cx]] w (PutPost (putN f p v x) w)

set_option maxHeartbeats 4000000 in
theorem let_step (f : Nat) (ih : PutSC f) (n v : Int) (a b0 x : Nd) (A X : Option Addr) (c cx : Nat) (w : World) (hok : PutSOk (f + 1) ⟨7, n, pair a b0⟩ A x X v w) :
    Calls Try.prog 52 #[.agg #[.int .i64 7, .int .i64 n, .slice A 2 c], .int .i64 v, .agg #[.int .i64 x.op, .int .i64 x.n, .slice X x.k.len cx]] w (PutPost (putN (f + 1) ⟨7, n, pair a b0⟩ v x) w) := by
  obtain ⟨oa, ma, ka⟩ := a
  obtain ⟨ob, mb, kb⟩ := b0
  obtain ⟨lp, lx, hsize, hsmall, hfit, hip, hxs, hix, hiv⟩ := hok
  dsimp only at lp hsize hsmall hip
  obtain ⟨hb, r1, r2, r3⟩ := three_boxes w 25 25 25 #[Value.int IntKind.i64 7, Value.int IntKind.i64 n, Value.slice A 2 c] #[Value.int IntKind.i64 x.op, Value.int IntKind.i64 x.n, Value.slice X x.k.len cx] #[.int .i64 0, .int .i64 0, .slice none 0 0]
  obtain ⟨W, hW⟩ : ∃ W, W = ((w.alloc (Obj.cells #[Value.int IntKind.i64 7, Value.int IntKind.i64 n, Value.slice A 2 c] 25)).alloc (Obj.cells #[Value.int IntKind.i64 x.op, Value.int IntKind.i64 x.n, Value.slice X x.k.len cx] 25)).alloc (Obj.cells #[.int .i64 0, .int .i64 0, .slice none 0 0] 25) := ⟨_, rfl⟩
  rw [← hW] at hb r1 r2 r3
  have hlW := lp.up hb
  obtain ⟨⟨b, o, A8, c8, hA, _, hbb, j1, j2, g1, g2, g3, h1, h2, h3⟩, ⟨b', o', A9, c9, hA9, _, _, j3, j4, g4, g5, g6, h4, h5, h6⟩, _⟩ := hlW
  have hbn : b < w.heap.size := by
    obtain ⟨⟨b3, o3, _, _, hA3, _, hb3, _⟩, _⟩ := lp
    rw [hA] at hA3
    injection hA3 with hA3
    injection hA3 with e1 e2
    omega
  subst hA
  injection hA9 with hA9
  injection hA9 with e1 e2
  subst e1 e2
  have hz1 := r1.size
  have hz2 := r2.size
  have g1' : W.cell? ⟨b, o, none⟩ = some (Value.int .i64 oa) := by simpa using g1
  have g2' : W.cell? ⟨b, o + 1, none⟩ = some (Value.int .i64 ma) := by simpa using g2
  have g3' : W.cell? ⟨b, o + 2, none⟩ = some (Value.slice A8 ka.len c8) := by simpa using g3
  have hS1 : ∀ w' : World, Below W.heap.size W w' → w'.cell? ⟨w.heap.size, 2, none⟩ = some (Value.slice (some ⟨b, o, none⟩) 2 c) ∧ w'.cell? ⟨b, o, none⟩ = some (Value.int .i64 oa) ∧ w'.cell? ⟨b, o + 1, none⟩ = some (Value.int .i64 ma) ∧ w'.cell? ⟨b, o + 2, none⟩ = some (Value.slice A8 ka.len c8) ∧ w'.cell? ⟨w.heap.size + 1, 0, none⟩ = some (Value.int .i64 x.op) ∧ w'.cell? ⟨w.heap.size + 1, 1, none⟩ = some (Value.int .i64 x.n) ∧ w'.cell? ⟨w.heap.size + 1, 2, none⟩ = some (Value.slice X x.k.len cx) := fun w' hb =>
    ⟨(hb.cell (p := ⟨w.heap.size, 2, none⟩) hz1).trans (r1.cell (i := 2) rfl), (hb.cell (p := ⟨b, o, none⟩) hbb).trans g1', (hb.cell (p := ⟨b, o + 1, none⟩) hbb).trans g2', (hb.cell (p := ⟨b, o + 2, none⟩) hbb).trans g3',
      (hb.cell (p := ⟨w.heap.size + 1, 0, none⟩) hz2).trans (r2.cell (i := 0) rfl), (hb.cell (p := ⟨w.heap.size + 1, 1, none⟩) hz2).trans (r2.cell (i := 1) rfl), (hb.cell (p := ⟨w.heap.size + 1, 2, none⟩) hz2).trans (r2.cell (i := 2) rfl)⟩
  have hS4 : ∀ w' : World, Below W.heap.size W w' → w'.cell? ⟨b, o + 3, none⟩ = some (Value.int .i64 ob) ∧ w'.cell? ⟨b, o + 4, none⟩ = some (Value.int .i64 mb) ∧ w'.cell? ⟨b, o + 5, none⟩ = some (Value.slice A9 kb.len c9) := fun w' hb =>
    ⟨(hb.cell (p := ⟨b, o + 3, none⟩) hbb).trans g4, (hb.cell (p := ⟨b, o + 4, none⟩) hbb).trans g5, (hb.cell (p := ⟨b, o + 5, none⟩) hbb).trans g6⟩
  have hff := hfit.2
  dsimp only at hff
  unfold pair at hff
  rw [fitP_cons, fitP_cons] at hff
  have hszs : ka.size < f ∧ kb.size < f ∧ ka.size ≤ 80 ∧ kb.size ≤ 80 := by
    simp only [pair, Fo.size] at hsize hsmall
    omega
  obtain ⟨RA, hRA⟩ : ∃ RA, RA = putN f ⟨oa, ma, ka⟩ v x := ⟨_, rfl⟩
  have HREP := Lib.hid (show ∀ w' : World, Below W.heap.size W w' → Calls Try.prog 32 #[.agg #[.int .i64 oa, .int .i64 ma, .slice A8 ka.len c8], .int .i64 v, .agg #[.int .i64 x.op, .int .i64 x.n, .slice X x.k.len cx]] w' (PutPost RA w') from fun w' hb' => by
    rw [hRA]
    exact ih ⟨oa, ma, ka⟩ v x A8 X c8 cx w' ⟨h3.up hb', (lx.up hb).up hb', hszs.1, hszs.2.2.1, hff.1, ⟨j1, j2⟩, hxs, hix, hiv⟩)
  have HLX := Lib.hid (lx.up hb)
  have HLB := Lib.hid h6
  have HAI := Lib.hid (And.intro j1 j2)
  have HBI := Lib.hid (And.intro j3 j4)
  have HRA := Lib.hid hRA
  have HF := Lib.hid hff
  have HSZ := Lib.hid hszs
  have HIN := Lib.hid (hfit.name rfl)
  have HI7 := Lib.hid hip
  have HIX := Lib.hid hix
  have HIV := Lib.hid hiv
  have HXS := Lib.hid hxs
  have HS1 := Lib.hid hS1
  have HS4 := Lib.hid hS4
  have HB := Lib.hid hb
  have HR1 := Lib.hid r1
  have HR2 := Lib.hid r2
  have HR3 := Lib.hid r3
  have HBN := Lib.hid (And.intro hbn hbb)
  have IH := Lib.hid ih
  have HZW := Lib.hid (show W.heap.size = w.heap.size + 1 + 1 + 1 by rw [hW]; simp)
  obtain ⟨R, hR⟩ : ∃ R, R = putN (f + 1) ⟨7, n, pair ⟨oa, ma, ka⟩ ⟨ob, mb, kb⟩⟩ v x := ⟨_, rfl⟩
  have HRR := Lib.hid hR
  rw [← hR]
  clear hR hRA hS1 hS4 hz1 hz2 g1' g2' g3' g1 g2 g3 g4 g5 g6 h1 h2 h3 h4 h5 h6 j1 j2 j3 j4 hbn hbb hff hszs lp lx hsize hsmall hfit hip hxs hix hiv hb r1 r2 r3 ih
  go_enter Try.func52, Try.ntmps52
  go_upto_region 1 with fail
  rw [← hW]
  clear hW
  go_cut [8, 9] from 18 to 27 (fun p s wd => ∃ g o9 m9 A9 l9 c9, p = .pointer (some ⟨g, 0, none⟩) ∧ s = .bool RA.isSome ∧ Row wd g 25 #[.int .i64 o9, .int .i64 m9, .slice A9 l9 c9] ∧ W.heap.size ≤ g ∧ (∀ y, RA = some y → o9 = y.op ∧ m9 = y.n ∧ l9 = y.k.len ∧ ∃ bs, Tree wd W.heap.size (.slice A9 l9 c9) y.k bs) ∧ Below W.heap.size W wd)
  case first =>
    have b0 : Below W.heap.size W W.drew := (Below.refl _ _).drew
    have bp : Below W.heap.size W (W.alloc (Obj.cells #[Value.int .i64 0, Value.int .i64 0, Value.slice none 0 0] 25)).drew := ((Below.refl _ _).alloc (Nat.le_refl _) _).drew
    have CA := Lib.hid (HREP.out _ bp)
    have CB := Lib.hid (HREP.out _ b0)
    have s0 := HS1.out _ b0
    have sp := HS1.out _ bp
    have B0 := Lib.hid b0
    have BP := Lib.hid bp
    have RP := Lib.hid (show Row (W.alloc (Obj.cells #[Value.int .i64 0, Value.int .i64 0, Value.slice none 0 0] 25)).drew W.heap.size 25 #[Value.int .i64 0, Value.int .i64 0, Value.slice none 0 0] from (Row.fresh _ _ _).drew)
    have hza : (W.alloc (Obj.cells #[Value.int .i64 0, Value.int .i64 0, Value.slice none 0 0] 25)).drew.heap.size = W.heap.size + 1 := by simp
    have HZA := Lib.hid hza
    clear b0 bp hza
    go_region_held3 (fun w' => w'.cell? ⟨w.heap.size, 2, none⟩ = some (Value.slice (some ⟨b, o, none⟩) 2 c) ∧ w'.cell? ⟨b, o, none⟩ = some (Value.int .i64 oa) ∧ w'.cell? ⟨b, o + 1, none⟩ = some (Value.int .i64 ma) ∧ w'.cell? ⟨b, o + 2, none⟩ = some (Value.slice A8 ka.len c8) ∧ w'.cell? ⟨w.heap.size + 1, 0, none⟩ = some (Value.int .i64 x.op) ∧ w'.cell? ⟨w.heap.size + 1, 1, none⟩ = some (Value.int .i64 x.n) ∧ w'.cell? ⟨w.heap.size + 1, 2, none⟩ = some (Value.slice X x.k.len cx))
      (first | with_reducible exact s0 | with_reducible exact sp | with_reducible exact s5 | with_reducible exact s6 | with_reducible exact s5z | fail)
      (first
        | (go_at_call 32
           with_reducible refine CA.out.mono ?_
           rintro e w5 hpp
           obtain ⟨o5, m5, A5, l5, c5, rfl, hb5, hy5⟩ := PutPost.opened hpp
           have hb := BP.out.trans (hb5.mono BP.out.size)
           have r5 := RP.out.below hb5 RP.out.size
           have f0 := r5.free 0
           have f1 := r5.free 1
           have f2 := r5.free 2
           have c0 := r5.cell (i := 0) rfl
           have c1 := r5.cell (i := 1) rfl
           have c2 := r5.cell (i := 2) rfl
           have hbs := ((hb.setCell (p := ⟨W.heap.size, 0, none⟩) (Nat.le_refl _) (.int .i64 o5)).setCell (p := ⟨W.heap.size, 1, none⟩) (Nat.le_refl _) (.int .i64 m5)).setCell (p := ⟨W.heap.size, 2, none⟩) (Nat.le_refl _) (.slice A5 l5 c5)
           have s5 := HS1.out _ hb
           have s6 := HS1.out _ hbs
           rw [HZA.out] at hy5
           have HEND := Lib.hid (show ∃ g o9 m9 A9 l9 c9, Value.pointer (some ⟨W.heap.size, 0, none⟩) = .pointer (some ⟨g, 0, none⟩) ∧ Row (((w5.setCell ⟨W.heap.size, 0, none⟩ (.int .i64 o5)).setCell ⟨W.heap.size, 1, none⟩ (.int .i64 m5)).setCell ⟨W.heap.size, 2, none⟩ (.slice A5 l5 c5)) g 25 #[.int .i64 o9, .int .i64 m9, .slice A9 l9 c9] ∧ W.heap.size ≤ g ∧ (∀ y, RA = some y → o9 = y.op ∧ m9 = y.n ∧ l9 = y.k.len ∧ ∃ bs, Tree (((w5.setCell ⟨W.heap.size, 0, none⟩ (.int .i64 o5)).setCell ⟨W.heap.size, 1, none⟩ (.int .i64 m5)).setCell ⟨W.heap.size, 2, none⟩ (.slice A5 l5 c5)) W.heap.size (.slice A9 l9 c9) y.k bs) ∧ Below W.heap.size W (((w5.setCell ⟨W.heap.size, 0, none⟩ (.int .i64 o5)).setCell ⟨W.heap.size, 1, none⟩ (.int .i64 m5)).setCell ⟨W.heap.size, 2, none⟩ (.slice A5 l5 c5)) from
             ⟨W.heap.size, o5, m5, A5, l5, c5, rfl, ((r5.put 0 _).put 1 _).put 2 _, Nat.le_refl _, fun y hy => by
               obtain ⟨e1, e2, e3, bs, ht⟩ := hy5 y hy
               exact ⟨e1, e2, e3, bs, (((ht.put (p := ⟨W.heap.size, 0, none⟩) (Nat.lt_succ_self _) _).put (p := ⟨W.heap.size, 1, none⟩) (Nat.lt_succ_self _) _).put (p := ⟨W.heap.size, 2, none⟩) (Nat.lt_succ_self _) _).lower (Nat.le_succ _)⟩, hbs⟩)
           clear hpp hy5 hb5 hb r5 hbs)
        | (go_at_call 32
           with_reducible refine CB.out.mono ?_
           rintro e w5 hpp
           obtain ⟨o5, m5, A5, l5, c5, rfl, hb5, hy5⟩ := PutPost.opened hpp
           have hb := B0.out.trans (hb5.mono B0.out.size)
           have hbl := (Below.refl w5.heap.size w5).alloc (Nat.le_refl _) (Obj.cells #[Value.int .i64 o5, Value.int .i64 m5, Value.slice A5 l5 c5] 25)
           have hba := hb.trans (hbl.mono hb.size)
           have s5 := HS1.out _ hb
           have s6 := HS1.out _ hba
           have s5z := HS1.out _ (hb.alloc hb.size (Obj.cells #[Value.int .i64 0, Value.int .i64 0, Value.slice none 0 0] 25))
           have HEND := Lib.hid (show ∃ g o9 m9 A9 l9 c9, Value.pointer (some ⟨w5.heap.size, 0, none⟩) = .pointer (some ⟨g, 0, none⟩) ∧ Row (w5.alloc (Obj.cells #[Value.int .i64 o5, Value.int .i64 m5, Value.slice A5 l5 c5] 25)) g 25 #[.int .i64 o9, .int .i64 m9, .slice A9 l9 c9] ∧ W.heap.size ≤ g ∧ (∀ y, RA = some y → o9 = y.op ∧ m9 = y.n ∧ l9 = y.k.len ∧ ∃ bs, Tree (w5.alloc (Obj.cells #[Value.int .i64 o5, Value.int .i64 m5, Value.slice A5 l5 c5] 25)) W.heap.size (.slice A9 l9 c9) y.k bs) ∧ Below W.heap.size W (w5.alloc (Obj.cells #[Value.int .i64 o5, Value.int .i64 m5, Value.slice A5 l5 c5] 25)) from
             ⟨w5.heap.size, o5, m5, A5, l5, c5, rfl, Row.fresh _ _ _, hb.size, fun y hy => by
               obtain ⟨e1, e2, e3, bs, ht⟩ := hy5 y hy
               exact ⟨e1, e2, e3, bs, ht.over hbl⟩, hba⟩)
           clear hpp hy5 hb5 hb hbl hba)
        | fail)
    all_goals
      go_wp2_with fail
      go_meet
      obtain ⟨g, o9, m9, A9', l9, c9', hp, hr⟩ := HEND.out
      exact ⟨g, o9, m9, A9', l9, c9', hp, rfl, hr⟩
  case rest =>
    obtain ⟨g, o9, m9, A1, l1, c1, rfl, rfl, hrg, hgW, hy, hbd⟩ := hcut
    have HBD := Lib.hid (HB.out.trans (hbd.mono HB.out.size))
    have HT1 := Lib.hid (HR1.out.below hbd HR1.out.size)
    have HT2 := Lib.hid (HR2.out.below hbd HR2.out.size)
    have HT3 := Lib.hid (HR3.out.below hbd HR3.out.size)
    have HBW := Lib.hid hbd
    have HLX1 := Lib.hid (HLX.out.up hbd)
    have HLB1 := Lib.hid (HLB.out.up hbd)
    have HRG := Lib.hid hrg
    have HGW := Lib.hid hgW
    obtain ⟨wd, hwd⟩ : ∃ wd, wd = wc := ⟨_, rfl⟩
    have HY := Lib.hid hy
    rw [← hwd] at HBD HT1 HT2 HT3 HBW HLX1 HLB1 HRG HY ⊢
    clear hbd hrg hgW hy hwd wc HREP
    cases RA with
    | none =>
      have HRN := Lib.hid (show R = none from HRR.out.trans (let_none HRA.out.symm))
      go_upto_region 3 with fail
      have q0 := HT1.out.cell (i := 0) rfl
      have q1 := HT1.out.cell (i := 1) rfl
      have q2 := HT1.out.cell (i := 2) rfl
      have c0 := HT3.out.cell (i := 0) rfl
      have c1 := HT3.out.cell (i := 1) rfl
      have c2 := HT3.out.cell (i := 2) rfl
      have f0 := HT3.out.free 0
      have f1 := HT3.out.free 1
      have f2 := HT3.out.free 2
      have hres3 := ((HT3.out.put 0 (.int .i64 7)).put 1 (.int .i64 n)).put 2 (.slice (some ⟨b, o, none⟩) 2 c)
      have r0 := hres3.cell (i := 0) rfl
      have r1 := hres3.cell (i := 1) rfl
      have r2 := hres3.cell (i := 2) rfl
      have hbc := ((HBD.out.setCell (p := ⟨w.heap.size + 1 + 1, 0, none⟩) (by dsimp only; omega) (.int .i64 7)).setCell (p := ⟨w.heap.size + 1 + 1, 1, none⟩) (by dsimp only; omega) (.int .i64 n)).setCell (p := ⟨w.heap.size + 1 + 1, 2, none⟩) (by dsimp only; omega) (.slice (some ⟨b, o, none⟩) 2 c)
      have HBC := Lib.hid hbc
      clear hres3 hbc
      go_wp2_with fail
      refine bodyPost_ret (v := .tuple #[.agg #[.int .i64 7, .int .i64 n, .slice (some ⟨b, o, none⟩) 2 c], .bool false]) ?_ rfl (by rw [HRN.out]; exact ⟨7, n, _, 2, c, rfl, HBC.out⟩)
      simp [results, Try.f52, go_sem, r0, r1, r2]
    | some a' =>
      obtain ⟨rfl, rfl, rfl, bs1, ht1⟩ := HY.out a' rfl
      have HT := Lib.hid ht1
      clear ht1 HY
      --STAGE3
      obtain ⟨rc, hrc⟩ : ∃ rc, rc = reach ⟨7, n, pair ⟨oa, ma, ka⟩ ⟨ob, mb, kb⟩⟩ v := ⟨_, rfl⟩
      have HRC := Lib.hid hrc
      clear hrc
      go_upto_region 4 with fail
      go_cut [43] from 31 to 43 (fun s we => s = .bool (!rc) ∧ Below wd.heap.size wd we)
      case first =>
        have q1 := HT1.out.cell (i := 1) rfl
        by_cases hn : n = v
        · have HZ := Lib.hid (show rc = false by rw [HRC.out]; unfold reach; simp [hn])
          have b1 : (n == v) = true := by simpa using hn
          clear hn
          go_wp2_with fail
          go_meet
          exact ⟨by rw [HZ.out]; rfl, Below.refl _ _⟩
        · have HZ := Lib.hid (show rc = !decide (cntP v ⟨ob, mb, kb⟩ = 0) by rw [HRC.out]; unfold reach; simp [hn, pair, kid2, kid1]; rfl)
          have b1 : (n == v) = false := by simpa using hn
          have q2 := HT1.out.cell (i := 2) rfl
          obtain ⟨y4, y5, y6⟩ := HS4.out wd HBW.out
          have HC := Lib.hid (specCount_any kb.size v ob mb kb A9 c9 wd rfl HLB1.out (Nat.le_trans HSZ.out.2.2.2 (by decide)))
          clear hn
          go_wp2_with fail
          refine HC.out.mono ?_
          rintro e w1 ⟨rfl, hb1⟩
          have HB1 := Lib.hid hb1
          clear hb1 HC
          go_wp2_with fail
          go_meet
          exact ⟨by rw [HZ.out]; unfold cntP; exact congrArg Value.bool (beq_nat _), HB1.out⟩
      case rest =>
        obtain ⟨rfl, hbe⟩ := hcut
        have HBE := Lib.hid (HBD.out.trans (hbe.mono HBD.out.size))
        have HBWE := Lib.hid (HBW.out.trans (hbe.mono HBW.out.size))
        have HU1 := Lib.hid (HT1.out.below hbe HT1.out.size)
        have HU2 := Lib.hid (HT2.out.below hbe HT2.out.size)
        have HU3 := Lib.hid (HT3.out.below hbe HT3.out.size)
        have HLX2 := Lib.hid (HLX1.out.up hbe)
        have HLB2 := Lib.hid (HLB1.out.up hbe)
        have HRGE := Lib.hid (HRG.out.below hbe HRG.out.size)
        have HTE := Lib.hid (HT.out.over hbe)
        have HGZ := Lib.hid (Nat.lt_of_lt_of_le HRG.out.size hbe.size)
        obtain ⟨we, hwe⟩ : ∃ we, we = wc := ⟨_, rfl⟩
        rw [← hwe] at HBE HBWE HU1 HU2 HU3 HLX2 HLB2 HRGE HTE HGZ ⊢
        clear hbe hwe wc HT HRG HLB1 HLX1 HT1 HT2 HT3 HBD HBW
        cases rc with
        | false =>
          have HRS := Lib.hid (show R = some ⟨7, n, pair a' ⟨ob, mb, kb⟩⟩ from HRR.out.trans (let_stays HRA.out.symm HRC.out.symm))
          have HAPI := Lib.hid (putN_i64 (p := ⟨oa, ma, ka⟩) HAI.out HIX.out HRA.out.symm)
          have b0 : Below we.heap.size we we.drew := (Below.refl _ _).drew
          have hgz := HGZ.out
          have hS : ∀ w' : World, Below we.heap.size we w' → w'.cell? ⟨w.heap.size, 1, none⟩ = some (Value.int .i64 n) ∧ w'.cell? ⟨w.heap.size, 2, none⟩ = some (Value.slice (some ⟨b, o, none⟩) 2 c) ∧ w'.cell? ⟨b, o + 3, none⟩ = some (Value.int .i64 ob) ∧ w'.cell? ⟨b, o + 4, none⟩ = some (Value.int .i64 mb) ∧ w'.cell? ⟨b, o + 5, none⟩ = some (Value.slice A9 kb.len c9) ∧ w'.cell? ⟨g, 0, none⟩ = some (Value.int .i64 a'.op) ∧ w'.cell? ⟨g, 1, none⟩ = some (Value.int .i64 a'.n) ∧ w'.cell? ⟨g, 2, none⟩ = some (Value.slice A1 a'.k.len c1) := fun w' hb => by
            obtain ⟨t4, t5, t6⟩ := HS4.out w' (HBWE.out.trans (hb.mono HBWE.out.size))
            have hz := HU1.out.size
            exact ⟨(hb.cell (p := ⟨w.heap.size, 1, none⟩) hz).trans (HU1.out.cell (i := 1) rfl), (hb.cell (p := ⟨w.heap.size, 2, none⟩) hz).trans (HU1.out.cell (i := 2) rfl), t4, t5, t6, (hb.cell (p := ⟨g, 0, none⟩) hgz).trans (HRGE.out.cell (i := 0) rfl), (hb.cell (p := ⟨g, 1, none⟩) hgz).trans (HRGE.out.cell (i := 1) rfl), (hb.cell (p := ⟨g, 2, none⟩) hgz).trans (HRGE.out.cell (i := 2) rfl)⟩
          have CC := Lib.hid (l1Copy_any kb.size ob mb kb A9 c9 we.drew rfl (HLB2.out.up b0) (Nat.le_trans HSZ.out.2.2.2 (by decide)) HBI.out)
          have HSS := Lib.hid hS
          have B0 := Lib.hid b0
          have s0 := hS _ b0
          have HSET := Lib.hid (show ∀ (w' : World) (i : Nat) (u' : Value), (w'.cell? ⟨w.heap.size, 1, none⟩ = some (Value.int .i64 n) ∧ w'.cell? ⟨w.heap.size, 2, none⟩ = some (Value.slice (some ⟨b, o, none⟩) 2 c) ∧ w'.cell? ⟨b, o + 3, none⟩ = some (Value.int .i64 ob) ∧ w'.cell? ⟨b, o + 4, none⟩ = some (Value.int .i64 mb) ∧ w'.cell? ⟨b, o + 5, none⟩ = some (Value.slice A9 kb.len c9) ∧ w'.cell? ⟨g, 0, none⟩ = some (Value.int .i64 a'.op) ∧ w'.cell? ⟨g, 1, none⟩ = some (Value.int .i64 a'.n) ∧ w'.cell? ⟨g, 2, none⟩ = some (Value.slice A1 a'.k.len c1)) → (w'.setCell ⟨w.heap.size + 1 + 1, i, none⟩ u').cell? ⟨w.heap.size, 1, none⟩ = some (Value.int .i64 n) ∧ (w'.setCell ⟨w.heap.size + 1 + 1, i, none⟩ u').cell? ⟨w.heap.size, 2, none⟩ = some (Value.slice (some ⟨b, o, none⟩) 2 c) ∧ (w'.setCell ⟨w.heap.size + 1 + 1, i, none⟩ u').cell? ⟨b, o + 3, none⟩ = some (Value.int .i64 ob) ∧ (w'.setCell ⟨w.heap.size + 1 + 1, i, none⟩ u').cell? ⟨b, o + 4, none⟩ = some (Value.int .i64 mb) ∧ (w'.setCell ⟨w.heap.size + 1 + 1, i, none⟩ u').cell? ⟨b, o + 5, none⟩ = some (Value.slice A9 kb.len c9) ∧ (w'.setCell ⟨w.heap.size + 1 + 1, i, none⟩ u').cell? ⟨g, 0, none⟩ = some (Value.int .i64 a'.op) ∧ (w'.setCell ⟨w.heap.size + 1 + 1, i, none⟩ u').cell? ⟨g, 1, none⟩ = some (Value.int .i64 a'.n) ∧ (w'.setCell ⟨w.heap.size + 1 + 1, i, none⟩ u').cell? ⟨g, 2, none⟩ = some (Value.slice A1 a'.k.len c1) from fun w' i u' => by
            rintro ⟨t1, t2, t3, t4, t5, t6, t7, t8⟩
            have hz := HZW.out
            have hg2 := HGW.out
            have hbn := HBN.out.1
            refine ⟨(cell_apart w' ?_ u').trans t1, (cell_apart w' ?_ u').trans t2, (cell_apart w' ?_ u').trans t3, (cell_apart w' ?_ u').trans t4, (cell_apart w' ?_ u').trans t5, (cell_apart w' ?_ u').trans t6, (cell_apart w' ?_ u').trans t7, (cell_apart w' ?_ u').trans t8⟩ <;> dsimp only <;> omega)
          clear hS b0 hgz
          go_upto_region 5 with fail
          go_region_held3 (fun w' => w'.cell? ⟨w.heap.size, 1, none⟩ = some (Value.int .i64 n) ∧ w'.cell? ⟨w.heap.size, 2, none⟩ = some (Value.slice (some ⟨b, o, none⟩) 2 c) ∧ w'.cell? ⟨b, o + 3, none⟩ = some (Value.int .i64 ob) ∧ w'.cell? ⟨b, o + 4, none⟩ = some (Value.int .i64 mb) ∧ w'.cell? ⟨b, o + 5, none⟩ = some (Value.slice A9 kb.len c9) ∧ w'.cell? ⟨g, 0, none⟩ = some (Value.int .i64 a'.op) ∧ w'.cell? ⟨g, 1, none⟩ = some (Value.int .i64 a'.n) ∧ w'.cell? ⟨g, 2, none⟩ = some (Value.slice A1 a'.k.len c1))
            (first | with_reducible exact s0 | with_reducible exact s6 | with_reducible exact s7 | with_reducible exact s8 | fail)
            (first
              | (go_at_call 33
                 with_reducible refine CC.out.mono ?_
                 rintro e w6 ⟨A6, c6, b6, rfl, ht6, hb6⟩
                 have hb := B0.out.trans (hb6.mono B0.out.size)
                 have hbl := (Below.refl w6.heap.size w6).alloc (Nat.le_refl _) (Obj.cells #[Value.int .i64 a'.op, Value.int .i64 a'.n, Value.slice A1 a'.k.len c1, Value.int .i64 ob, Value.int .i64 mb, Value.slice A6 kb.len c6] 25)
                 have hba := hb.trans (hbl.mono hb.size)
                 have s6 := HSS.out _ hb
                 have s7 := HSS.out _ hba
                 have s8 := HSET.out _ 2 (.slice (some ⟨w6.heap.size, 0, none⟩) 2 2) (HSET.out _ 1 (.int .i64 n) (HSET.out _ 0 (.int .i64 7) s7))
                 have hr6 := HU3.out.below hba HU3.out.size
                 have f0 := hr6.free 0
                 have f1 := hr6.free 1
                 have f2 := hr6.free 2
                 have c0 := hr6.cell (i := 0) rfl
                 have cc1 := hr6.cell (i := 1) rfl
                 have cc2 := hr6.cell (i := 2) rfl
                 have htp := tree_pair (a := a') (b := ⟨ob, mb, kb⟩) (base := W.heap.size) (Row.fresh w6 25 #[Value.int .i64 a'.op, Value.int .i64 a'.n, Value.slice A1 a'.k.len c1, Value.int .i64 ob, Value.int .i64 mb, Value.slice A6 kb.len c6]) (Nat.le_trans HBWE.out.size hb.size)
                   (HTE.out.over hba) ((ht6.over hbl).lower HBWE.out.size) (fun z h1 h2 => by
                     have e1 := (HTE.out.lt z h1).2
                     have e2 := (ht6.lt z h2).1
                     have e3 : we.heap.size ≤ z := e2
                     omega)
                   (fun h => Nat.lt_irrefl _ (Nat.lt_of_lt_of_le (HTE.out.lt _ h).2 hb.size)) (fun h => Nat.lt_irrefl _ (ht6.lt _ h).2) HAPI.out HBI.out
                 have HTP := Lib.hid htp
                 have HR6 := Lib.hid hr6
                 have HB6 := Lib.hid (HBWE.out.trans (hba.mono HBWE.out.size))
                 clear ht6 hb6 hb hbl hba htp hr6)
              | fail)
          all_goals
            have hr7 := ((HR6.out.put 0 (.int .i64 7)).put 1 (.int .i64 n)).put 2 (.slice (some ⟨w6.heap.size, 0, none⟩) 2 2)
            have r0 := hr7.cell (i := 0) rfl
            have r1 := hr7.cell (i := 1) rfl
            have r2 := hr7.cell (i := 2) rfl
            obtain ⟨bs, htp⟩ := HTP.out
            have HBC := Lib.hid (((((HB.out.trans (HB6.out.mono HB.out.size)).setCell (p := ⟨w.heap.size + 1 + 1, 0, none⟩) (by dsimp only; omega) (.int .i64 7)).setCell (p := ⟨w.heap.size + 1 + 1, 1, none⟩) (by dsimp only; omega) (.int .i64 n)).setCell (p := ⟨w.heap.size + 1 + 1, 2, none⟩) (by dsimp only; omega) (.slice (some ⟨w6.heap.size, 0, none⟩) 2 2)))
            have hz3 := HR3.out.size
            have HTC := Lib.hid ((((htp.put (p := ⟨w.heap.size + 1 + 1, 0, none⟩) hz3 (.int .i64 7)).put (p := ⟨w.heap.size + 1 + 1, 1, none⟩) hz3 (.int .i64 n)).put (p := ⟨w.heap.size + 1 + 1, 2, none⟩) hz3 (.slice (some ⟨w6.heap.size, 0, none⟩) 2 2)).lower HB.out.size)
            clear hr7 hz3 htp
            go_wp2_with fail
            refine bodyPost_ret (v := .tuple #[.agg #[.int .i64 7, .int .i64 n, .slice (some ⟨w6.heap.size, 0, none⟩) 2 2], .bool true]) ?_ rfl (by rw [HRS.out]; exact ⟨some ⟨w6.heap.size, 0, none⟩, 2, bs, rfl, HTC.out, HBC.out⟩)
            simp [results, Try.f52, go_sem, r0, r1, r2]
        | true =>
          go_upto_region 6 with fail
          obtain ⟨wb, hwb⟩ : ∃ wb, wb = we.alloc (Obj.cells #[.int .i64 ob, .int .i64 mb, .slice A9 kb.len c9] 25) := ⟨_, rfl⟩
          have hbb : Below we.heap.size we wb := by rw [hwb]; exact (Below.refl _ _).alloc (Nat.le_refl _) _
          have hrb : Row wb we.heap.size 25 #[.int .i64 ob, .int .i64 mb, .slice A9 kb.len c9] := by rw [hwb]; exact Row.fresh _ _ _
          have q1 := HU1.out.cell (i := 1) rfl
          have q2 := HU1.out.cell (i := 2) rfl
          obtain ⟨y4, y5, y6⟩ := HS4.out we HBWE.out
          have HBB := Lib.hid hbb
          have HRB := Lib.hid hrb
          have HLXB := Lib.hid (HLX2.out.up hbb)
          have HRXB := Lib.hid (HU2.out.below hbb HU2.out.size)
          have HLBB := Lib.hid (HLB2.out.up hbb)
          clear hbb hrb
          go_upto_region 8 with fail
          rw [← hwb]
          clear hwb q1 q2 y4 y5 y6
          go_cut [63] from 60 to 63 (fun s wz => s = .bool (decide (n ∈ freeP x)) ∧ Below wb.heap.size wb wz)
          case first =>
            have q0 := HRXB.out.cell (i := 0) rfl
            have q1 := HRXB.out.cell (i := 1) rfl
            have q2 := HRXB.out.cell (i := 2) rfl
            have HC := Lib.hid (specCount_any x.k.size n x.op x.n x.k X cx wb rfl HLXB.out (Nat.le_trans HXS.out (by decide)))
            go_wp2_with fail
            refine HC.out.mono ?_
            rintro e w1 ⟨rfl, hb1⟩
            have HB1 := Lib.hid hb1
            clear hb1 HC
            go_wp2_with fail
            go_meet
            exact ⟨congrArg Value.bool (by rw [gt_nat]; exact (free_gt HIN.out).symm), HB1.out⟩
          case rest =>
            obtain ⟨rfl, hbz⟩ := hcut
            have hbf : Below we.heap.size we wc := HBB.out.trans (hbz.mono HBB.out.size)
            have HBF := Lib.hid hbf
            have HRF := Lib.hid (HRB.out.below hbz HRB.out.size)
            have HRXF := Lib.hid (HRXB.out.below hbz HRXB.out.size)
            have HLXF := Lib.hid (HLXB.out.up hbz)
            have HLBF := Lib.hid (HLBB.out.up hbz)
            obtain ⟨wf, hwf⟩ : ∃ wf, wf = wc := ⟨_, rfl⟩
            rw [← hwf] at HBF HRF HRXF HLXF HLBF ⊢
            clear hbf hbz hwf wc HRB HRXB HLXB HLBB HBB wb
            have HAN := Lib.hid (show (n ∈ freeP x → R = (match freshV (freeP x ++ varsP ⟨ob, mb, kb⟩ ++ [v]) with
                | none => none
                | some u => match putN f ⟨ob, mb, kb⟩ n ⟨2, u, .nil⟩ with
                  | none => none
                  | some q => match putN f q v x with
                    | none => none
                    | some b' => some ⟨7, u, pair a' b'⟩)) ∧ (¬ n ∈ freeP x → R = (match putN f ⟨ob, mb, kb⟩ v x with | none => none | some b' => some ⟨7, n, pair a' b'⟩)) from
              ⟨fun h => HRR.out.trans (let_new HRA.out.symm HRC.out.symm h), fun h => HRR.out.trans (let_in HRA.out.symm HRC.out.symm h)⟩)
            generalize hz : decide (n ∈ freeP x) = z
            have HZ := Lib.hid hz
            clear hz
            go_upto_if 63 with fail
            go_cut [10] from 64 to 92 (fun s10 wg => ∃ (q : Nd) (nn : Int) (Aq : Option Addr) (cq : Nat), s10 = .int .i64 nn ∧ Row wg we.heap.size 25 #[.int .i64 q.op, .int .i64 q.n, .slice Aq q.k.len cq] ∧ Lies wg 0 wg.heap.size Aq 0 q.k ∧ q.k.size < f ∧ q.k.size ≤ 80 ∧ FitN q ∧ (I64 q.op ∧ I64 q.n) ∧ I64 nn ∧
                R = (match putN f q v x with | none => none | some b' => some ⟨7, nn, pair a' b'⟩) ∧ Below we.heap.size we wg)
            case first =>
              cases z with
              | false =>
                go_wp2_with fail
                go_meet
                exact ⟨⟨ob, mb, kb⟩, n, A9, c9, rfl, HRF.out, HLBF.out, HSZ.out.2.1, HSZ.out.2.2.2, HF.out.2.1, HBI.out, HI7.out.2, HAN.out.2 (of_decide_eq_false HZ.out), HBF.out⟩
              | true =>
                have HMEM := Lib.hid (show n ∈ freeP x from of_decide_eq_true HZ.out)
                have hS : ∀ w' : World, Below wf.heap.size wf w' → w'.cell? ⟨w.heap.size + 1, 0, none⟩ = some (Value.int .i64 x.op) ∧ w'.cell? ⟨w.heap.size + 1, 1, none⟩ = some (Value.int .i64 x.n) ∧ w'.cell? ⟨w.heap.size + 1, 2, none⟩ = some (Value.slice X x.k.len cx) ∧ w'.cell? ⟨we.heap.size, 0, none⟩ = some (Value.int .i64 ob) ∧ w'.cell? ⟨we.heap.size, 1, none⟩ = some (Value.int .i64 mb) ∧ w'.cell? ⟨we.heap.size, 2, none⟩ = some (Value.slice A9 kb.len c9) := fun w' hb => by
                  have hz1 := HRXF.out.size
                  have hz2 := HRF.out.size
                  exact ⟨(hb.cell (p := ⟨w.heap.size + 1, 0, none⟩) hz1).trans (HRXF.out.cell (i := 0) rfl), (hb.cell (p := ⟨w.heap.size + 1, 1, none⟩) hz1).trans (HRXF.out.cell (i := 1) rfl), (hb.cell (p := ⟨w.heap.size + 1, 2, none⟩) hz1).trans (HRXF.out.cell (i := 2) rfl),
                    (hb.cell (p := ⟨we.heap.size, 0, none⟩) hz2).trans (HRF.out.cell (i := 0) rfl), (hb.cell (p := ⟨we.heap.size, 1, none⟩) hz2).trans (HRF.out.cell (i := 1) rfl), (hb.cell (p := ⟨we.heap.size, 2, none⟩) hz2).trans (HRF.out.cell (i := 2) rfl)⟩
                have HSS := Lib.hid hS
                obtain ⟨zs, hzs⟩ : ∃ zs, zs = freeP x ++ varsP ⟨ob, mb, kb⟩ ++ [v] := ⟨_, rfl⟩
                have hlen3 : (freeP x).length + (varsP ⟨ob, mb, kb⟩).length ≤ 1048576 ∧ (freeP x).length + (varsP ⟨ob, mb, kb⟩).length + [v].length ≤ 1048576 := by
                  have e1 := freeUpto_len x.op x.n x.k 8
                  have e2 := numsUpto_len (hasB ownVL ⟨ob, mb, kb⟩) 8
                  unfold freeP varsP
                  simp only [List.length_singleton]
                  omega
                have HL3 := Lib.hid hlen3
                have HSM3 := Lib.hid (show ∀ y ∈ zs, I64 y by rw [hzs]; exact new_small HIV.out)
                have HLN3 := Lib.hid (show zs.length ≤ 4194304 by rw [hzs]; have := HL3.out.2; simp only [List.length_append]; omega)
                have HZS := Lib.hid hzs
                clear hS hlen3 hzs
                go_upto_region 9 with fail
                go_cut [12, 13] from 64 to 75 (fun s12 s13 wz => s12 = .int .i64 (((freshV zs).getD 0 : Nat) : Int) ∧ s13 = .bool (freshV zs).isSome ∧ Below wf.heap.size wf wz)
                case first =>
                  have b0 : Below wf.heap.size wf wf.drew := (Below.refl _ _).drew
                  have bp : Below wf.heap.size wf (wf.alloc (Obj.cells #[Value.int .i64 v] 3)).drew := ((Below.refl _ _).alloc (Nat.le_refl _) _).drew
                  have HFREE := Lib.hid (show ∀ w' : World, Below wf.heap.size wf w' → Calls Try.prog 62 #[.agg #[.int .i64 x.op, .int .i64 x.n, .slice X x.k.len cx]] w' (ListPost (freeP x) w') from fun w' hb => specFree_any x.op x.n x.k X cx w' (HLXF.out.up hb) (Nat.le_trans HXS.out (by decide)))
                  have HALL := Lib.hid (show ∀ w' : World, Below wf.heap.size wf w' → Calls Try.prog 31 #[.agg #[.int .i64 ob, .int .i64 mb, .slice A9 kb.len c9]] w' (ListPost (varsP ⟨ob, mb, kb⟩) w') from fun w' hb => specAll_any ob mb kb A9 c9 w' (HLBF.out.up hb) (Nat.le_trans HSZ.out.2.2.2 (by decide)))
                  have C0 := Lib.hid (HFREE.out _ b0)
                  have CP := Lib.hid (HFREE.out _ bp)
                  have RP := Lib.hid (show Row (wf.alloc (Obj.cells #[Value.int .i64 v] 3)).drew wf.heap.size 3 #[Value.int .i64 v] from (Row.fresh _ _ _).drew)
                  have HZP := Lib.hid (show (wf.alloc (Obj.cells #[Value.int .i64 v] 3)).drew.heap.size = wf.heap.size + 1 by simp)
                  have s0 := HSS.out _ b0
                  have sp := HSS.out _ bp
                  have B0 := Lib.hid b0
                  have BP := Lib.hid bp
                  clear b0 bp
                  go_region_held3 (fun w' => w'.cell? ⟨w.heap.size + 1, 0, none⟩ = some (Value.int .i64 x.op) ∧ w'.cell? ⟨w.heap.size + 1, 1, none⟩ = some (Value.int .i64 x.n) ∧ w'.cell? ⟨w.heap.size + 1, 2, none⟩ = some (Value.slice X x.k.len cx) ∧ w'.cell? ⟨we.heap.size, 0, none⟩ = some (Value.int .i64 ob) ∧ w'.cell? ⟨we.heap.size, 1, none⟩ = some (Value.int .i64 mb) ∧ w'.cell? ⟨we.heap.size, 2, none⟩ = some (Value.slice A9 kb.len c9))
                    (first | with_reducible exact s0 | with_reducible exact sp | with_reducible exact s1 | with_reducible exact s1l | with_reducible exact s2 | with_reducible exact s2l | with_reducible exact s3 | with_reducible exact s3l | with_reducible exact s4 | with_reducible exact s5 | fail)
                    (first
                    | (go_at_call 61
                       with_reducible refine HFV.out.mono ?_
                       rintro e w5 ⟨rfl, hb5⟩
                       have B5 := Lib.hid (B4.out.trans (hb5.mono B4.out.size))
                       have s5 := HSS.out _ B5.out
                       clear hb5)
                    | (refine step_lies rfl (.tmp 69) (.tmp 71) rfl rfl wf.heap.size v3 ((freeP x).length + (varsP ⟨ob, mb, kb⟩).length) ((freeP x).map (Value.int .i64) ++ (varsP ⟨ob, mb, kb⟩).map (Value.int .i64)) rfl HO3.out [v] (some ⟨wf.heap.size, 0, none⟩) 1 0 w3.heap.size rfl (lies_one RLa3.out HIV.out) HL3.out.2 B3.out.size ?_
                       intro v4 w4 ho4 hg4 hk4
                       have B4 := Lib.hid (Below.grown B3.out hg4 B3.out.size (fun g' hg' => own_at_least HO3.out hg'))
                       have ho5 : w4.ownsRow wf.heap.size 3 1 v4 zs.length (zs.map (Value.int .i64)) := by rw [HZS.out]; simpa only [List.length_append, List.map_append] using ho4
                       obtain ⟨A4, c4, rfl, hI4⟩ := own_ints ho5 HSM3.out
                       have HFV := Lib.hid (specFresh_any zs A4 c4 w4 (hI4.mono_ (Nat.zero_le _) (Nat.le_refl _)) HLN3.out)
                       have s4 := HSS.out _ B4.out
                       clear ho4 hg4 hk4 ho5 hI4)
                    | (refine step_lies rfl (.tmp 69) (.tmp 71) rfl rfl wf.heap.size v3 ((freeP x).length + (varsP ⟨ob, mb, kb⟩).length) ((freeP x).map (Value.int .i64) ++ (varsP ⟨ob, mb, kb⟩).map (Value.int .i64)) rfl HO3.out [v] (some ⟨w1.heap.size, 0, none⟩) 1 0 w3.heap.size rfl (lies_one RLb3.out HIV.out) HL3.out.2 B3.out.size ?_
                       intro v4 w4 ho4 hg4 hk4
                       have B4 := Lib.hid (Below.grown B3.out hg4 B3.out.size (fun g' hg' => own_at_least HO3.out hg'))
                       have ho5 : w4.ownsRow wf.heap.size 3 1 v4 zs.length (zs.map (Value.int .i64)) := by rw [HZS.out]; simpa only [List.length_append, List.map_append] using ho4
                       obtain ⟨A4, c4, rfl, hI4⟩ := own_ints ho5 HSM3.out
                       have HFV := Lib.hid (specFresh_any zs A4 c4 w4 (hI4.mono_ (Nat.zero_le _) (Nat.le_refl _)) HLN3.out)
                       have s4 := HSS.out _ B4.out
                       clear ho4 hg4 hk4 ho5 hI4)
                    | (refine step_lies rfl (.tmp 69) (.tmp 71) rfl rfl wf.heap.size v3 ((freeP x).length + (varsP ⟨ob, mb, kb⟩).length) ((freeP x).map (Value.int .i64) ++ (varsP ⟨ob, mb, kb⟩).map (Value.int .i64)) rfl HO3.out [v] (some ⟨w2.heap.size, 0, none⟩) 1 0 w3.heap.size rfl (lies_one RLc3.out HIV.out) HL3.out.2 B3.out.size ?_
                       intro v4 w4 ho4 hg4 hk4
                       have B4 := Lib.hid (Below.grown B3.out hg4 B3.out.size (fun g' hg' => own_at_least HO3.out hg'))
                       have ho5 : w4.ownsRow wf.heap.size 3 1 v4 zs.length (zs.map (Value.int .i64)) := by rw [HZS.out]; simpa only [List.length_append, List.map_append] using ho4
                       obtain ⟨A4, c4, rfl, hI4⟩ := own_ints ho5 HSM3.out
                       have HFV := Lib.hid (specFresh_any zs A4 c4 w4 (hI4.mono_ (Nat.zero_le _) (Nat.le_refl _)) HLN3.out)
                       have s4 := HSS.out _ B4.out
                       clear ho4 hg4 hk4 ho5 hI4)
                    | (refine step_lies rfl (.tmp 69) (.tmp 71) rfl rfl wf.heap.size v3 ((freeP x).length + (varsP ⟨ob, mb, kb⟩).length) ((freeP x).map (Value.int .i64) ++ (varsP ⟨ob, mb, kb⟩).map (Value.int .i64)) rfl (HO3.out.alloc _) [v] (some ⟨w3.heap.size, 0, none⟩) 1 0 (w3.alloc (Obj.cells #[Value.int .i64 v] 3)).heap.size rfl (lies_one (Row.fresh w3 _ _) HIV.out) HL3.out.2 B3L.out.size ?_
                       intro v4 w4 ho4 hg4 hk4
                       have B4 := Lib.hid (Below.grown B3L.out hg4 B3L.out.size (fun g' hg' => own_at_least HO3.out hg'))
                       have ho5 : w4.ownsRow wf.heap.size 3 1 v4 zs.length (zs.map (Value.int .i64)) := by rw [HZS.out]; simpa only [List.length_append, List.map_append] using ho4
                       obtain ⟨A4, c4, rfl, hI4⟩ := own_ints ho5 HSM3.out
                       have HFV := Lib.hid (specFresh_any zs A4 c4 w4 (hI4.mono_ (Nat.zero_le _) (Nat.le_refl _)) HLN3.out)
                       have s4 := HSS.out _ B4.out
                       clear ho4 hg4 hk4 ho5 hI4)
                    | (refine step_lies rfl (.tmp 66) (.tmp 68) rfl rfl wf.heap.size v1 (freeP x).length ((freeP x).map (Value.int .i64)) rfl HO2.out (varsP ⟨ob, mb, kb⟩) A2 c2 0 w2.heap.size rfl HI2.out HL3.out.1 B2.out.size ?_
                       intro v3 w3 ho3 hg3 hk3
                       have b3 := Below.grown B2.out hg3 B2.out.size (fun g' hg' => own_at_least HO2.out hg')
                       have RLa3 := Lib.hid (row_grown' RLa2.out hg3 (fun e => by have e1 := HVB.out _ e.symm; omega))
                       have HO3 := Lib.hid ho3
                       have B3 := Lib.hid b3
                       have B3L := Lib.hid (b3.alloc b3.size (Obj.cells #[Value.int .i64 v] 3))
                       have s3 := HSS.out _ b3
                       have s3l := HSS.out _ B3L.out
                       clear ho3 hg3 hk3 b3)
                    | (refine step_lies rfl (.tmp 66) (.tmp 68) rfl rfl wf.heap.size v1 (freeP x).length ((freeP x).map (Value.int .i64)) rfl HO2.out (varsP ⟨ob, mb, kb⟩) A2 c2 0 w2.heap.size rfl HI2.out HL3.out.1 B2.out.size ?_
                       intro v3 w3 ho3 hg3 hk3
                       have b3 := Below.grown B2.out hg3 B2.out.size (fun g' hg' => own_at_least HO2.out hg')
                       have RLb3 := Lib.hid (row_grown' RLb2.out hg3 (fun e => by have e1 := HVB.out _ e.symm; omega))
                       have HO3 := Lib.hid ho3
                       have B3 := Lib.hid b3
                       have B3L := Lib.hid (b3.alloc b3.size (Obj.cells #[Value.int .i64 v] 3))
                       have s3 := HSS.out _ b3
                       have s3l := HSS.out _ B3L.out
                       clear ho3 hg3 hk3 b3)
                    | (refine step_lies rfl (.tmp 66) (.tmp 68) rfl rfl wf.heap.size v1 (freeP x).length ((freeP x).map (Value.int .i64)) rfl (HO2.out.alloc _) (varsP ⟨ob, mb, kb⟩) A2 c2 0 (w2.alloc (Obj.cells #[Value.int .i64 v] 3)).heap.size rfl (HI2.out.up ((Below.refl _ _).alloc (Nat.le_refl _) _)) HL3.out.1 B2L.out.size ?_
                       intro v3 w3 ho3 hg3 hk3
                       have b3 := Below.grown B2L.out hg3 B2L.out.size (fun g' hg' => own_at_least HO2.out hg')
                       have RLc3 := Lib.hid (row_grown' (Row.fresh w2 3 #[Value.int .i64 v]) hg3 (fun e => by have e1 := (HO2.out.lt _ e.symm).2; omega))
                       have HO3 := Lib.hid ho3
                       have B3 := Lib.hid b3
                       have B3L := Lib.hid (b3.alloc b3.size (Obj.cells #[Value.int .i64 v] 3))
                       have s3 := HSS.out _ b3
                       have s3l := HSS.out _ B3L.out
                       clear ho3 hg3 hk3 b3)
                    | (refine step_lies rfl (.tmp 66) (.tmp 68) rfl rfl wf.heap.size v1 (freeP x).length ((freeP x).map (Value.int .i64)) rfl HO2.out (varsP ⟨ob, mb, kb⟩) A2 c2 0 w2.heap.size rfl HI2.out HL3.out.1 B2.out.size ?_
                       intro v3 w3 ho3 hg3 hk3
                       have b3 := Below.grown B2.out hg3 B2.out.size (fun g' hg' => own_at_least HO2.out hg')
                       have HO3 := Lib.hid ho3
                       have B3 := Lib.hid b3
                       have B3L := Lib.hid (b3.alloc b3.size (Obj.cells #[Value.int .i64 v] 3))
                       have s3 := HSS.out _ b3
                       have s3l := HSS.out _ B3L.out
                       clear ho3 hg3 hk3 b3)
                    | (go_at_call 31
                       with_reducible refine (HALL.out w1 B1.out).mono ?_
                       rintro e w2 ⟨v2, rfl, ho2, hb2⟩
                       obtain ⟨A2, c2, rfl, hI2⟩ := own_ints ho2 (fun y hy => numsUpto_small _ 8 y (by decide) hy)
                       have RLa2 := Lib.hid (RLa1.out.below hb2 RLa1.out.size)
                       have HVB := Lib.hid (show ∀ g', v1.ownBlock = some g' → wf.heap.size < g' from fun g' hg' => own_at_least HOP.out hg')
                       have HO2 := Lib.hid (own_below HO1.out hb2)
                       have HI2 := Lib.hid (hI2.mono_ (Nat.zero_le _) (Nat.le_refl _))
                       have b2 := B1.out.trans (hb2.mono B1.out.size)
                       have B2 := Lib.hid b2
                       have B2L := Lib.hid (b2.alloc b2.size (Obj.cells #[Value.int .i64 v] 3))
                       have s2 := HSS.out _ b2
                       have s2l := HSS.out _ B2L.out
                       clear ho2 hb2 hI2 b2)
                    | (go_at_call 31
                       with_reducible refine (HALL.out (w1.alloc (Obj.cells #[Value.int .i64 v] 3)) B1L.out).mono ?_
                       rintro e w2 ⟨v2, rfl, ho2, hb2⟩
                       obtain ⟨A2, c2, rfl, hI2⟩ := own_ints ho2 (fun y hy => numsUpto_small _ 8 y (by decide) hy)
                       have RLb2 := Lib.hid ((Row.fresh w1 3 #[Value.int .i64 v]).below hb2 (by simp))
                       have HVB := Lib.hid (show ∀ g', v1.ownBlock = some g' → g' < w1.heap.size from fun g' hg' => (HO1.out.lt g' hg').2)
                       have HO2 := Lib.hid (own_below (HO1.out.alloc _) hb2)
                       have HI2 := Lib.hid (hI2.mono_ (Nat.zero_le _) (Nat.le_refl _))
                       have b2 := B1L.out.trans (hb2.mono B1L.out.size)
                       have B2 := Lib.hid b2
                       have B2L := Lib.hid (b2.alloc b2.size (Obj.cells #[Value.int .i64 v] 3))
                       have s2 := HSS.out _ b2
                       have s2l := HSS.out _ B2L.out
                       clear ho2 hb2 hI2 b2)
                    | (go_at_call 31
                       with_reducible refine (HALL.out w1 B1.out).mono ?_
                       rintro e w2 ⟨v2, rfl, ho2, hb2⟩
                       obtain ⟨A2, c2, rfl, hI2⟩ := own_ints ho2 (fun y hy => numsUpto_small _ 8 y (by decide) hy)
                       have HO2 := Lib.hid (own_below HO1.out hb2)
                       have HI2 := Lib.hid (hI2.mono_ (Nat.zero_le _) (Nat.le_refl _))
                       have b2 := B1.out.trans (hb2.mono B1.out.size)
                       have B2 := Lib.hid b2
                       have B2L := Lib.hid (b2.alloc b2.size (Obj.cells #[Value.int .i64 v] 3))
                       have s2 := HSS.out _ b2
                       have s2l := HSS.out _ B2L.out
                       clear ho2 hb2 hI2 b2)
                    | (go_at_call 62
                       with_reducible refine CP.out.mono ?_
                       rintro e w1 ⟨v1, rfl, ho1, hb1⟩
                       have RLa1 := Lib.hid (RP.out.below hb1 RP.out.size)
                       have HOP := Lib.hid (show w1.ownsRow (wf.heap.size + 1) 3 1 v1 (freeP x).length ((freeP x).map (Value.int .i64)) from own_less ho1 (by rw [HZP.out]; omega))
                       have HO1 := Lib.hid (own_less (base' := wf.heap.size) ho1 BP.out.size)
                       have b1 := BP.out.trans (hb1.mono BP.out.size)
                       have B1 := Lib.hid b1
                       have s1 := HSS.out _ b1
                       clear ho1 hb1 b1)
                    | (go_at_call 62
                       with_reducible refine C0.out.mono ?_
                       rintro e w1 ⟨v1, rfl, ho1, hb1⟩
                       have B1L := Lib.hid ((B0.out.trans (hb1.mono B0.out.size)).alloc (B0.out.trans (hb1.mono B0.out.size)).size (Obj.cells #[Value.int .i64 v] 3))
                       have s1l := HSS.out _ B1L.out
                       have HO1 := Lib.hid (own_less (base' := wf.heap.size) ho1 B0.out.size)
                       have b1 := B0.out.trans (hb1.mono B0.out.size)
                       have B1 := Lib.hid b1
                       have s1 := HSS.out _ b1
                       clear ho1 hb1 b1)
                    | fail)
                  all_goals
                    go_wp2_with fail
                    go_meet
                    exact ⟨rfl, rfl, B5.out⟩
                case rest =>
                  obtain ⟨rfl, rfl, hbz⟩ := hcut
                  have hbw := HBF.out.trans (hbz.mono HBF.out.size)
                  have HBWZ := Lib.hid hbw
                  have HRZ := Lib.hid (HRF.out.below hbz HRF.out.size)
                  have HUZ1 := Lib.hid (HU1.out.below hbw HU1.out.size)
                  have HUZ3 := Lib.hid (HU3.out.below hbw HU3.out.size)
                  have HLBZ := Lib.hid (HLBF.out.up hbz)
                  obtain ⟨wz, hwz⟩ : ∃ wz, wz = wc := ⟨_, rfl⟩
                  rw [← hwz] at HBWZ HRZ HUZ1 HUZ3 HLBZ ⊢
                  clear hbw hbz hwz wc HSS
                  obtain ⟨u, hu⟩ : ∃ u, u = (freshV zs).getD 0 := ⟨_, rfl⟩
                  rw [← hu]
                  have hu8 : u < 8 := by
                    rw [hu]
                    cases hfv : freshV zs with
                    | none => decide
                    | some y => exact (freshV_lt hfv).1
                  have HU := Lib.hid hu
                  have HU8 := Lib.hid hu8
                  obtain ⟨RQ, hRQ⟩ : ∃ RQ, RQ = putN f ⟨ob, mb, kb⟩ n ⟨2, (u : Int), .nil⟩ := ⟨_, rfl⟩
                  have HRQ := Lib.hid hRQ
                  have HC := Lib.hid (show Calls Try.prog 32 #[.agg #[.int .i64 ob, .int .i64 mb, .slice A9 kb.len c9], .int .i64 n, .agg #[.int .i64 2, .int .i64 (u : Int), .slice none 0 0]] wz (PutPost RQ wz) by
                    rw [hRQ]
                    exact IH.out ⟨ob, mb, kb⟩ n ⟨2, (u : Int), .nil⟩ A9 none c9 0 wz ⟨HLBZ.out, trivial, HSZ.out.2.1, HSZ.out.2.2.2, HF.out.2.1, HBI.out, Nat.zero_le _, by unfold I64; dsimp only; omega, HI7.out.2⟩)
                  have q0 := HRZ.out.cell (i := 0) rfl
                  have q1 := HRZ.out.cell (i := 1) rfl
                  have q2 := HRZ.out.cell (i := 2) rfl
                  clear hu hu8 hRQ
                  go_wp2_with fail
                  refine HC.out.mono ?_
                  rintro e w5 hpp
                  obtain ⟨o5, m5, A5, l5, c5, rfl, hb5, hy5⟩ := PutPost.opened hpp
                  obtain ⟨wk, hwk⟩ : ∃ wk, wk = w5.alloc (Obj.cells #[Value.int .i64 o5, Value.int .i64 m5, Value.slice A5 l5 c5] 25) := ⟨_, rfl⟩
                  have hbk : Below w5.heap.size w5 wk := by rw [hwk]; exact (Below.refl _ _).alloc (Nat.le_refl _) _
                  have hrk : Row wk w5.heap.size 25 #[Value.int .i64 o5, Value.int .i64 m5, Value.slice A5 l5 c5] := by rw [hwk]; exact Row.fresh _ _ _
                  have hb6 := hb5.trans (hbk.mono hb5.size)
                  have HRK := Lib.hid hrk
                  have HB6 := Lib.hid (HBWZ.out.trans (hb6.mono HBWZ.out.size))
                  have HY5 := Lib.hid (show ∀ y, RQ = some y → o5 = y.op ∧ m5 = y.n ∧ l5 = y.k.len ∧ ∃ bs, Tree wk wz.heap.size (.slice A5 l5 c5) y.k bs from fun y hy => by
                    obtain ⟨e1, e2, e3, bs, ht⟩ := hy5 y hy
                    exact ⟨e1, e2, e3, bs, ht.over hbk⟩)
                  have HRZK := Lib.hid (HRZ.out.below hb6 HRZ.out.size)
                  have HU1K := Lib.hid (HUZ1.out.below hb6 HUZ1.out.size)
                  have HU3K := Lib.hid (HUZ3.out.below hb6 HUZ3.out.size)
                  clear hpp hb5 hy5 hbk hrk hb6 q0 q1 q2 HC
                  cases hfv : freshV zs with
                  | none =>
                    have HRN := Lib.hid (show R = none by rw [HAN.out.1 HMEM.out, ← HZS.out, hfv])
                    clear hfv
                    go_upto_region 11 with fail
                    rw [← hwk]
                    clear hwk
                    go_upto_region 12 with fail
                    have q0 := HU1K.out.cell (i := 0) rfl
                    have q1 := HU1K.out.cell (i := 1) rfl
                    have q2 := HU1K.out.cell (i := 2) rfl
                    have c0 := HU3K.out.cell (i := 0) rfl
                    have cc1 := HU3K.out.cell (i := 1) rfl
                    have cc2 := HU3K.out.cell (i := 2) rfl
                    have f0 := HU3K.out.free 0
                    have f1 := HU3K.out.free 1
                    have f2 := HU3K.out.free 2
                    have hres3 := ((HU3K.out.put 0 (.int .i64 7)).put 1 (.int .i64 n)).put 2 (.slice (some ⟨b, o, none⟩) 2 c)
                    have r0 := hres3.cell (i := 0) rfl
                    have r1 := hres3.cell (i := 1) rfl
                    have r2 := hres3.cell (i := 2) rfl
                    have hbw := HB.out.trans ((HBWE.out.trans (HB6.out.mono HBWE.out.size)).mono HB.out.size)
                    have hbc := ((hbw.setCell (p := ⟨w.heap.size + 1 + 1, 0, none⟩) (by dsimp only; omega) (.int .i64 7)).setCell (p := ⟨w.heap.size + 1 + 1, 1, none⟩) (by dsimp only; omega) (.int .i64 n)).setCell (p := ⟨w.heap.size + 1 + 1, 2, none⟩) (by dsimp only; omega) (.slice (some ⟨b, o, none⟩) 2 c)
                    have HBC := Lib.hid hbc
                    clear hres3 hbc hbw
                    go_wp2_with fail
                    refine bodyPost_ret (v := .tuple #[.agg #[.int .i64 7, .int .i64 n, .slice (some ⟨b, o, none⟩) 2 c], .bool false]) ?_ rfl (by rw [HRN.out]; exact ⟨7, n, _, 2, c, rfl, HBC.out⟩)
                    simp [results, Try.f52, go_sem, r0, r1, r2]
                  | some y =>
                    have huy : u = y := by rw [HU.out, hfv]; rfl
                    subst huy
                    obtain ⟨w8, n1⟩ := freshV_lt hfv
                    rw [HZS.out] at n1
                    have n2 : hasB ownVL ⟨ob, mb, kb⟩ u = false := by
                      simp only [List.mem_append, List.mem_singleton, not_or] at n1
                      cases e : hasB ownVL ⟨ob, mb, kb⟩ u with
                      | false => rfl
                      | true => exact absurd (numsUpto_at.2 ⟨w8, e⟩) n1.1.2
                    obtain ⟨q, hq⟩ := Option.isSome_iff_exists.1 (putN_is (n := n) (w := u) f ⟨ob, mb, kb⟩ HF.out.2.1 n2 HSZ.out.2.1)
                    have hren := putN_ren w8 f ⟨ob, mb, kb⟩ q HF.out.2.1 n2 hq
                    have hqi := putN_i64 (p := ⟨ob, mb, kb⟩) HBI.out (show I64 (⟨2, (u : Int), .nil⟩ : Nd).op ∧ I64 (⟨2, (u : Int), .nil⟩ : Nd).n by unfold I64; dsimp only; omega) hq
                    have hRn : R = (match putN f q v x with | none => none | some b' => some ⟨7, (u : Int), pair a' b'⟩) := by rw [HAN.out.1 HMEM.out, ← HZS.out, hfv]; dsimp only; rw [hq]
                    have hrq : RQ = some q := HRQ.out.trans hq
                    obtain ⟨rfl, rfl, rfl, bsq, htq⟩ := HY5.out q hrq
                    have HTQ := Lib.hid htq
                    have HREN := Lib.hid hren
                    have HQI := Lib.hid hqi
                    have HRN := Lib.hid hRn
                    have hrs : RQ.isSome = true := by rw [hrq]; rfl
                    rw [hrs]
                    clear hfv n1 n2 hq hren hqi hRn hrq htq hrs HY5
                    go_upto_region 11 with fail
                    rw [← hwk]
                    clear hwk
                    have q0 := HRK.out.cell (i := 0) rfl
                    have q1 := HRK.out.cell (i := 1) rfl
                    have q2 := HRK.out.cell (i := 2) rfl
                    have c0 := HRZK.out.cell (i := 0) rfl
                    have cc1 := HRZK.out.cell (i := 1) rfl
                    have cc2 := HRZK.out.cell (i := 2) rfl
                    have f0 := HRZK.out.free 0
                    have f1 := HRZK.out.free 1
                    have f2 := HRZK.out.free 2
                    have HRS := Lib.hid (((HRZK.out.put 0 (.int .i64 q.op)).put 1 (.int .i64 q.n)).put 2 (.slice A5 q.k.len c5))
                    have hz4 := HRZ.out.size
                    have HTS := Lib.hid (((HTQ.out.put (p := ⟨we.heap.size, 0, none⟩) hz4 (.int .i64 q.op)).put (p := ⟨we.heap.size, 1, none⟩) hz4 (.int .i64 q.n)).put (p := ⟨we.heap.size, 2, none⟩) hz4 (.slice A5 q.k.len c5))
                    have HBS := Lib.hid (((HB6.out.setCell (p := ⟨we.heap.size, 0, none⟩) (Nat.le_refl _) (.int .i64 q.op)).setCell (p := ⟨we.heap.size, 1, none⟩) (Nat.le_refl _) (.int .i64 q.n)).setCell (p := ⟨we.heap.size, 2, none⟩) (Nat.le_refl _) (.slice A5 q.k.len c5))
                    clear hz4
                    go_wp2_with fail
                    go_meet
                    exact ⟨q, (u : Int), A5, c5, rfl, HRS.out, (HTS.out.lies fun z hz => (HTS.out.lt z hz).2).mono_ (Nat.zero_le _) (Nat.le_refl _), by have e1 := HREN.out.size; have e2 := HSZ.out.2.1; dsimp only at e1; omega, by have e1 := HREN.out.size; have e2 := HSZ.out.2.2.2; dsimp only at e1; omega,
                      HREN.out.fit, HQI.out, by have := HU8.out; unfold I64; omega, HRN.out, HBS.out⟩
            case rest =>
              obtain ⟨q, nn, Aq, cq, rfl, hrq, hlq, hqf, hq8, hqfit, hqi, hni, hRq, hbg⟩ := hcut
              have HAPI := Lib.hid (putN_i64 (p := ⟨oa, ma, ka⟩) HAI.out HIX.out HRA.out.symm)
              obtain ⟨wg, hwg⟩ : ∃ wg, wg = wc := ⟨_, rfl⟩
              rw [← hwg] at hrq hlq hbg ⊢
              clear hwg wc
              obtain ⟨RB, hRB⟩ : ∃ RB, RB = putN f q v x := ⟨_, rfl⟩
              rw [← hRB] at hRq
              have HRB := Lib.hid hRB
              have HRQ := Lib.hid hRq
              have HQF := Lib.hid (And.intro hqf (And.intro hq8 hqfit))
              have HQI := Lib.hid hqi
              have HBG := Lib.hid hbg
              have HRL := Lib.hid hrq
              have HLQ := Lib.hid hlq
              have HRXG := Lib.hid (HU2.out.below hbg HU2.out.size)
              have HU3G := Lib.hid (HU3.out.below hbg HU3.out.size)
              have HRGG := Lib.hid (HRGE.out.below hbg HRGE.out.size)
              have HTG := Lib.hid (HTE.out.over hbg)
              have HC := Lib.hid (show Calls Try.prog 32 #[.agg #[.int .i64 q.op, .int .i64 q.n, .slice Aq q.k.len cq], .int .i64 v, .agg #[.int .i64 x.op, .int .i64 x.n, .slice X x.k.len cx]] wg (PutPost RB wg) by
                rw [hRB]
                exact IH.out q v x Aq X cq cx wg ⟨hlq, HLX2.out.up hbg, hqf, hq8, hqfit, hqi, HXS.out, HIX.out, HIV.out⟩)
              have q0 := hrq.cell (i := 0) rfl
              have q1 := hrq.cell (i := 1) rfl
              have q2 := hrq.cell (i := 2) rfl
              have p0 := HRXG.out.cell (i := 0) rfl
              have p1 := HRXG.out.cell (i := 1) rfl
              have p2 := HRXG.out.cell (i := 2) rfl
              clear hrq hlq hqf hq8 hqfit hqi hni hRq hbg hRB
              go_wp2_with fail
              refine HC.out.mono ?_
              rintro e w5 hpp
              obtain ⟨o5, m5, A5, l5, c5, rfl, hb5, hy5⟩ := PutPost.opened hpp
              obtain ⟨wk, hwk⟩ : ∃ wk, wk = w5.alloc (Obj.cells #[Value.int .i64 o5, Value.int .i64 m5, Value.slice A5 l5 c5] 25) := ⟨_, rfl⟩
              have hbk : Below w5.heap.size w5 wk := by rw [hwk]; exact (Below.refl _ _).alloc (Nat.le_refl _) _
              have hrk : Row wk w5.heap.size 25 #[Value.int .i64 o5, Value.int .i64 m5, Value.slice A5 l5 c5] := by rw [hwk]; exact Row.fresh _ _ _
              have hb6 := hb5.trans (hbk.mono hb5.size)
              have HRK := Lib.hid hrk
              have HB6 := Lib.hid (HBG.out.trans (hb6.mono HBG.out.size))
              have HY5 := Lib.hid (show ∀ y, RB = some y → o5 = y.op ∧ m5 = y.n ∧ l5 = y.k.len ∧ ∃ bs, Tree wk wg.heap.size (.slice A5 l5 c5) y.k bs from fun y hy => by
                obtain ⟨e1, e2, e3, bs, ht⟩ := hy5 y hy
                exact ⟨e1, e2, e3, bs, ht.over hbk⟩)
              have HTK := Lib.hid (HTG.out.over hb6)
              have HRGK := Lib.hid (HRGG.out.below hb6 HRGG.out.size)
              have HU3K := Lib.hid (HU3G.out.below hb6 HU3G.out.size)
              clear hpp hb5 hy5 hbk hrk hb6 q0 q1 q2 p0 p1 p2 HC
              go_upto_region 16 with fail
              rw [← hwk]
              clear hwk
              obtain ⟨wp, hwp⟩ : ∃ wp, wp = wk.alloc (Obj.cells #[Value.int .i64 a'.op, Value.int .i64 a'.n, Value.slice A1 a'.k.len c1, Value.int .i64 o5, Value.int .i64 m5, Value.slice A5 l5 c5] 25) := ⟨_, rfl⟩
              have hbp : Below wk.heap.size wk wp := by rw [hwp]; exact (Below.refl _ _).alloc (Nat.le_refl _) _
              have hrp : Row wp wk.heap.size 25 #[Value.int .i64 a'.op, Value.int .i64 a'.n, Value.slice A1 a'.k.len c1, Value.int .i64 o5, Value.int .i64 m5, Value.slice A5 l5 c5] := by rw [hwp]; exact Row.fresh _ _ _
              have hu3 := HU3K.out.below hbp HU3K.out.size
              have f0 := hu3.free 0
              have f1 := hu3.free 1
              have f2 := hu3.free 2
              have cc0 := hu3.cell (i := 0) rfl
              have cc1 := hu3.cell (i := 1) rfl
              have cc2 := hu3.cell (i := 2) rfl
              have hr7 := ((hu3.put 0 (.int .i64 7)).put 1 (.int .i64 nn)).put 2 (.slice (some ⟨wk.heap.size, 0, none⟩) 2 2)
              have hz3 := HR3.out.size
              have hwW : W.heap.size ≤ wk.heap.size := Nat.le_trans HBWE.out.size HB6.out.size
              have hbw := HB.out.trans ((HBWE.out.trans ((HB6.out.trans (hbp.mono HB6.out.size)).mono HBWE.out.size)).mono HB.out.size)
              have HBC := Lib.hid (((hbw.setCell (p := ⟨w.heap.size + 1 + 1, 0, none⟩) (by dsimp only; omega) (.int .i64 7)).setCell (p := ⟨w.heap.size + 1 + 1, 1, none⟩) (by dsimp only; omega) (.int .i64 nn)).setCell (p := ⟨w.heap.size + 1 + 1, 2, none⟩) (by dsimp only; omega) (.slice (some ⟨wk.heap.size, 0, none⟩) 2 2))
              have hyc : ∀ y, R = some y → (7 : Int) = y.op ∧ nn = y.n ∧ 2 = y.k.len ∧ ∃ bs, Tree (((wp.setCell ⟨w.heap.size + 1 + 1, 0, none⟩ (.int .i64 7)).setCell ⟨w.heap.size + 1 + 1, 1, none⟩ (.int .i64 nn)).setCell ⟨w.heap.size + 1 + 1, 2, none⟩ (.slice (some ⟨wk.heap.size, 0, none⟩) 2 2)) w.heap.size (.slice (some ⟨wk.heap.size, 0, none⟩) 2 2) y.k bs := fun y hy => by
                have h1 := HRQ.out
                cases hrb : RB with
                | none => rw [hrb] at h1; rw [h1] at hy; cases hy
                | some b' =>
                  rw [hrb] at h1
                  rw [h1] at hy
                  cases hy
                  obtain ⟨rfl, rfl, rfl, bs, ht⟩ := HY5.out b' hrb
                  have hbi := putN_i64 HQI.out HIX.out (HRB.out.symm.trans hrb)
                  obtain ⟨bs2, htp⟩ := tree_pair (a := a') (b := b') (base := W.heap.size) hrp hwW (HTK.out.over hbp) ((ht.over hbp).lower (Nat.le_trans HBWE.out.size HBG.out.size)) (fun z h1 h2 => by
                      have e1 := (HTG.out.lt z h1).2
                      have e2 := (ht.lt z h2).1
                      omega)
                    (fun h => Nat.lt_irrefl _ (HTK.out.lt _ h).2) (fun h => Nat.lt_irrefl _ (ht.lt _ h).2) HAPI.out hbi
                  exact ⟨rfl, rfl, rfl, bs2, (((htp.put (p := ⟨w.heap.size + 1 + 1, 0, none⟩) hz3 (.int .i64 7)).put (p := ⟨w.heap.size + 1 + 1, 1, none⟩) hz3 (.int .i64 nn)).put (p := ⟨w.heap.size + 1 + 1, 2, none⟩) hz3 (.slice (some ⟨wk.heap.size, 0, none⟩) 2 2)).lower HB.out.size⟩
              have HYC := Lib.hid hyc
              have HIS := Lib.hid (show RB.isSome = R.isSome by rw [HRQ.out]; cases RB <;> rfl)
              have r0 := hr7.cell (i := 0) rfl
              have r1 := hr7.cell (i := 1) rfl
              have r2 := hr7.cell (i := 2) rfl
              have q0 := HRK.out.cell (i := 0) rfl
              have q1 := HRK.out.cell (i := 1) rfl
              have q2 := HRK.out.cell (i := 2) rfl
              have p0 := HRGK.out.cell (i := 0) rfl
              have p1 := HRGK.out.cell (i := 1) rfl
              have p2 := HRGK.out.cell (i := 2) rfl
              clear hbp hrp hu3 hr7 hz3 hwW hbw hyc
              subst hwp
              go_wp2_with fail
              refine bodyPost_ret (v := .tuple #[.agg #[.int .i64 7, .int .i64 nn, .slice (some ⟨wk.heap.size, 0, none⟩) 2 2], .bool RB.isSome]) ?_ rfl (by rw [HIS.out]; exact PutPost.closed HBC.out HYC.out)
              simp [results, Try.f52, go_sem, r0, r1, r2]
end Go.Proofs.Ytjlaabipgppijaa

namespace Go.Proofs.Ytjlaabipgppijaa
open Go.RowKit Go.Shelf
set_option maxRecDepth 100000

set_option maxHeartbeats 4000000 in
theorem put_step (f : Nat) (ih : PutSC f) : PutSC (f + 1) := by
  rintro ⟨op, n, k⟩ v x A X c cx w ⟨lp, lx, hsize, hsmall, hfit, hip, hxs, hix, hiv⟩
  dsimp only at lp hsize hsmall hip ⊢
  obtain ⟨hb, r1, r2, r3⟩ := three_boxes w 25 25 25 #[Value.int IntKind.i64 op, Value.int IntKind.i64 n, Value.slice A k.len c] #[Value.int IntKind.i64 x.op, Value.int IntKind.i64 x.n, Value.slice X x.k.len cx] #[.int .i64 0, .int .i64 0, .slice none 0 0]
  obtain ⟨W, hW⟩ : ∃ W, W = ((w.alloc (Obj.cells #[Value.int IntKind.i64 op, Value.int IntKind.i64 n, Value.slice A k.len c] 25)).alloc (Obj.cells #[Value.int IntKind.i64 x.op, Value.int IntKind.i64 x.n, Value.slice X x.k.len cx] 25)).alloc (Obj.cells #[.int .i64 0, .int .i64 0, .slice none 0 0] 25) := ⟨_, rfl⟩
  rw [← hW] at hb r1 r2 r3
  have HB := Lib.hid hb
  have HR1 := Lib.hid r1
  have HR2 := Lib.hid r2
  have HR3 := Lib.hid r3
  have HLP := Lib.hid (lp.up hb)
  have HLX := Lib.hid (lx.up hb)
  have HIP := Lib.hid hip
  have HIX := Lib.hid hix
  have HIV := Lib.hid hiv
  have HFIT := Lib.hid hfit
  have HSM := Lib.hid hsmall
  have HXS := Lib.hid hxs
  have HSZ := Lib.hid hsize
  have IH := Lib.hid ih
  clear hb r1 r2 r3 lp lx hip hix hiv hfit hsmall hxs hsize ih
  obtain ⟨R, hR⟩ : ∃ R, R = putN (f + 1) ⟨op, n, k⟩ v x := ⟨_, rfl⟩
  have HRR := Lib.hid hR
  rw [← hR]
  clear hR
  go_enter Try.func32, Try.ntmps32
  go_upto_region 1 with fail
  rw [← hW]
  clear hW
  go_cut [20] from 12 to 20 (fun s wc => s = .bool (decide (op = 2) && decide (n = v)) ∧ wc = W)
  case first =>
    have q0 := HR1.out.cell (i := 0) rfl
    have q1 := HR1.out.cell (i := 1) rfl
    by_cases h2 : op = 2
    · subst h2
      go_wp2_with fail
      go_meet
      exact ⟨by simp; rfl, rfl⟩
    · have b2 : (op == 2) = false := by simpa using h2
      go_wp2_with fail
      go_meet
      exact ⟨by simp [h2], rfl⟩
  case rest =>
    obtain ⟨rfl, hwc⟩ := hcut
    rw [hwc]
    clear hwc
    by_cases hA : op = 2 ∧ n = v
    · have HR0 := Lib.hid (show R = some x from HRR.out.trans (putN_var hA))
      have hz : (decide (op = 2) && decide (n = v)) = true := by simp [hA]
      rw [hz]
      clear hz hA HRR
      have q1 := HR2.out.cell (i := 0) rfl
      have q2 := HR2.out.cell (i := 1) rfl
      have q3 := HR2.out.cell (i := 2) rfl
      have HC := Lib.hid (l1Copy_any x.k.size x.op x.n x.k X cx W rfl HLX.out (Nat.le_trans HXS.out (by decide)) HIX.out)
      go_wp2_with fail
      refine HC.out.mono ?_
      rintro e w1 ⟨A1, c1, bs, rfl, ht, hb1⟩
      have hr3 := HR3.out.below hb1 HR3.out.size
      have f0 := hr3.free 0
      have f1 := hr3.free 1
      have f2 := hr3.free 2
      have c0 := hr3.cell (i := 0) rfl
      have c3 := hr3.cell (i := 1) rfl
      have c2 := hr3.cell (i := 2) rfl
      have hr3c := ((hr3.put 0 (.int .i64 x.op)).put 1 (.int .i64 x.n)).put 2 (.slice A1 x.k.len c1)
      have hsz := HR3.out.size
      have htc := ((ht.put (p := ⟨w.heap.size + 1 + 1, 0, none⟩) hsz (.int .i64 x.op)).put (p := ⟨w.heap.size + 1 + 1, 1, none⟩) hsz (.int .i64 x.n)).put (p := ⟨w.heap.size + 1 + 1, 2, none⟩) hsz (.slice A1 x.k.len c1)
      have hbc := (((HB.out.trans (hb1.mono HB.out.size)).setCell (p := ⟨w.heap.size + 1 + 1, 0, none⟩) (by dsimp only; omega) (.int .i64 x.op)).setCell (p := ⟨w.heap.size + 1 + 1, 1, none⟩) (by dsimp only; omega) (.int .i64 x.n)).setCell (p := ⟨w.heap.size + 1 + 1, 2, none⟩) (by dsimp only; omega) (.slice A1 x.k.len c1)
      have r0 := hr3c.cell (i := 0) rfl
      have r1 := hr3c.cell (i := 1) rfl
      have r2 := hr3c.cell (i := 2) rfl
      have HTC := Lib.hid (htc.lower (base' := w.heap.size) HB.out.size)
      have HBC := Lib.hid hbc
      clear hr3 hr3c htc hbc hsz ht hb1 HC q1 q2 q3
      go_wp2_with fail
      refine bodyPost_ret (v := .tuple #[.agg #[.int .i64 x.op, .int .i64 x.n, .slice A1 x.k.len c1], .bool true]) ?_ rfl (by rw [HR0.out]; exact ⟨A1, c1, bs, rfl, HTC.out, HBC.out⟩)
      simp [results, Try.f32, go_sem, r0, r1, r2]
    · have hz : (decide (op = 2) && decide (n = v)) = false := by
        cases h : (decide (op = 2) && decide (n = v)) with
        | false => rfl
        | true => simp at h; exact absurd h hA
      rw [hz]
      clear hz
      have HNA := Lib.hid hA
      clear hA
      by_cases h7 : op = 7
      · obtain ⟨oa, ma, ka, ob, mb, kb, ek⟩ := HFIT.out.two h7
        dsimp only at ek
        subst h7
        subst ek
        have HC := Lib.hid (let_step f IH.out n v ⟨oa, ma, ka⟩ ⟨ob, mb, kb⟩ x A X c cx W ⟨HLP.out, HLX.out, HSZ.out, HSM.out, HFIT.out, HIP.out, HXS.out, HIX.out, HIV.out⟩)
        have q0 := HR1.out.cell (i := 0) rfl
        have q1 := HR1.out.cell (i := 1) rfl
        have q2 : W.cell? ⟨w.heap.size, 2, none⟩ = some (.slice A 2 c) := HR1.out.cell (i := 2) rfl
        have p0 := HR2.out.cell (i := 0) rfl
        have p1 := HR2.out.cell (i := 1) rfl
        have p2 := HR2.out.cell (i := 2) rfl
        go_wp2_with fail
        refine HC.out.mono ?_
        rintro e w5 hpp
        have hrr : PutPost R W e w5 := by rw [HRR.out]; exact hpp
        obtain ⟨o5, m5, A5, l5, c5, rfl, hb5, hy5⟩ := PutPost.opened hrr
        have hr3 := HR3.out.below hb5 HR3.out.size
        have f0 := hr3.free 0
        have f1 := hr3.free 1
        have f2 := hr3.free 2
        have c0 := hr3.cell (i := 0) rfl
        have c3 := hr3.cell (i := 1) rfl
        have c4 := hr3.cell (i := 2) rfl
        have hr3c := ((hr3.put 0 (.int .i64 o5)).put 1 (.int .i64 m5)).put 2 (.slice A5 l5 c5)
        have hsz := HR3.out.size
        have r0 := hr3c.cell (i := 0) rfl
        have r1 := hr3c.cell (i := 1) rfl
        have r2 := hr3c.cell (i := 2) rfl
        have HBC := Lib.hid ((((HB.out.trans (hb5.mono HB.out.size)).setCell (p := ⟨w.heap.size + 1 + 1, 0, none⟩) (by dsimp only; omega) (.int .i64 o5)).setCell (p := ⟨w.heap.size + 1 + 1, 1, none⟩) (by dsimp only; omega) (.int .i64 m5)).setCell (p := ⟨w.heap.size + 1 + 1, 2, none⟩) (by dsimp only; omega) (.slice A5 l5 c5))
        have HYC := Lib.hid (show ∀ y, R = some y → o5 = y.op ∧ m5 = y.n ∧ l5 = y.k.len ∧ ∃ bs, Tree (((w5.setCell ⟨w.heap.size + 1 + 1, 0, none⟩ (.int .i64 o5)).setCell ⟨w.heap.size + 1 + 1, 1, none⟩ (.int .i64 m5)).setCell ⟨w.heap.size + 1 + 1, 2, none⟩ (.slice A5 l5 c5)) w.heap.size (.slice A5 l5 c5) y.k bs from fun y hy => by
          obtain ⟨e1, e2, e3, bs, ht⟩ := hy5 y hy
          exact ⟨e1, e2, e3, bs, (((ht.put (p := ⟨w.heap.size + 1 + 1, 0, none⟩) hsz (.int .i64 o5)).put (p := ⟨w.heap.size + 1 + 1, 1, none⟩) hsz (.int .i64 m5)).put (p := ⟨w.heap.size + 1 + 1, 2, none⟩) hsz (.slice A5 l5 c5)).lower HB.out.size⟩)
        have hpc := fun (w9 : World) (hw9 : w9 = ((w5.setCell ⟨w.heap.size + 1 + 1, 0, none⟩ (.int .i64 o5)).setCell ⟨w.heap.size + 1 + 1, 1, none⟩ (.int .i64 m5)).setCell ⟨w.heap.size + 1 + 1, 2, none⟩ (.slice A5 l5 c5)) => trivial
        clear hpc hrr hpp hb5 hy5 hr3 hr3c hsz HC q0 q1 q2 p0 p1 p2
        go_wp2_with fail
        refine bodyPost_ret (v := .tuple #[.agg #[.int .i64 o5, .int .i64 m5, .slice A5 l5 c5], .bool R.isSome]) ?_ rfl (PutPost.closed HBC.out HYC.out)
        simp [results, Try.f32, go_sem, r0, r1, r2]
      · have b7 : (op == 7) = false := by simpa using h7
        have hst : stays ⟨op, n, k⟩ v = false := by unfold stays; simp [h7]
        have hcz : (decide (op = 7) && capt ⟨op, n, k⟩ v x) = false := by simp [h7]
        have hRT : R = (match kidsP (fun y => putN f y v x) false 0 k with | none => none | some t => some ⟨op, n, t⟩) := by
          rw [HRR.out, putN_other HNA.out hcz, hst]; rfl
        obtain ⟨T, hT⟩ : ∃ T, T = kidsP (fun y => putN f y v x) false 0 k := ⟨_, rfl⟩
        rw [← hT] at hRT
        have HRT := Lib.hid hRT
        have HT := Lib.hid hT
        clear hst hcz hRT hT h7 HRR HNA
        have q0 := HR1.out.cell (i := 0) rfl
        have q1 := HR1.out.cell (i := 1) rfl
        obtain ⟨wy, hwy⟩ : ∃ wy, wy = W.alloc (Obj.cells #[.int .i64 op, .int .i64 n, .slice none 0 0] 25) := ⟨_, rfl⟩
        have hby : Below W.heap.size W wy := by rw [hwy]; exact (Below.refl _ _).alloc (Nat.le_refl _) _
        have hry : Row wy W.heap.size 25 #[.int .i64 op, .int .i64 n, .slice none 0 0] := by rw [hwy]; exact Row.fresh _ _ _
        have HBY := Lib.hid hby
        have HRY := Lib.hid hry
        have hk80 : k.len ≤ 80 := Nat.le_trans (Fo.len_le_size _) HSM.out
        clear hby hry
        go_upto_region 6 with fail
        rw [← hwy]
        clear hwy q0 q1 b7
        go_wp2_with fail
        go_loopw [9] (fun i wr => ∃ (j : Nat) (pre : Fo) (Ay : Option Addr) (cy : Nat) (bs : List Nat), j ≤ k.len ∧ i = .int .i64 (j : Int) ∧ pre.len = j ∧ T = joinP pre (kidsP (fun y => putN f y v x) false j (k.drop j)) ∧
            Row wr W.heap.size 25 #[.int .i64 op, .int .i64 n, .slice Ay pre.len cy] ∧ Tree wr (W.heap.size + 1) (.slice Ay pre.len cy) pre bs ∧ Below W.heap.size W wr)
          (fun i _ => k.len - (intOf i).toNat)
        case atStart => exact ⟨0, .nil, none, 0, [], Nat.zero_le _, rfl, rfl, HT.out.trans (kids_start _ _ _), HRY.out, Tree.none _ _, HBY.out⟩
        case round =>
          clear HBY HRY HT
          obtain ⟨j, pre, Ay, cy, bs, hj, rfl, hpl, hT, hrow, ht, hb⟩ := hrel
          by_cases hlt : j < k.len
          · obtain ⟨o1, m1, k1, e1, e2, e3⟩ := Fo.drop_of_lt k j hlt
            have hj' := (HLP.out.below hb).at_ j
            rw [Nat.zero_add, e1] at hj'
            obtain ⟨⟨b, o, A2, c2, hA, _, hbb, i1, i2, g1, g2, g3, h1, h2, h3⟩, _⟩ := hj'
            subst hA
            have hre := HR1.out.below hb HR1.out.size
            have hrx := HR2.out.below hb HR2.out.size
            have hbb2 : b < wr.heap.size := Nat.lt_of_lt_of_le hbb hb.size
            have hz1 := hre.size
            have hz2 := hrx.size
            have hS1 : ∀ w' : World, Below wr.heap.size wr w' → w'.cell? ⟨w.heap.size, 2, none⟩ = some (Value.slice (some ⟨b, o, none⟩) k.len c) ∧ w'.cell? ⟨b, o + j * 3, none⟩ = some (Value.int .i64 o1) ∧ w'.cell? ⟨b, o + j * 3 + 1, none⟩ = some (Value.int .i64 m1) ∧ w'.cell? ⟨b, o + j * 3 + 2, none⟩ = some (Value.slice A2 k1.len c2) ∧ w'.cell? ⟨w.heap.size + 1, 0, none⟩ = some (Value.int .i64 x.op) ∧ w'.cell? ⟨w.heap.size + 1, 1, none⟩ = some (Value.int .i64 x.n) ∧ w'.cell? ⟨w.heap.size + 1, 2, none⟩ = some (Value.slice X x.k.len cx) := fun w' hb =>
              ⟨(hb.cell (p := ⟨w.heap.size, 2, none⟩) hz1).trans (hre.cell (i := 2) rfl), (hb.cell (p := ⟨b, o + j * 3, none⟩) hbb2).trans g1, (hb.cell (p := ⟨b, o + j * 3 + 1, none⟩) hbb2).trans g2, (hb.cell (p := ⟨b, o + j * 3 + 2, none⟩) hbb2).trans g3,
                (hb.cell (p := ⟨w.heap.size + 1, 0, none⟩) hz2).trans (hrx.cell (i := 0) rfl), (hb.cell (p := ⟨w.heap.size + 1, 1, none⟩) hz2).trans (hrx.cell (i := 1) rfl), (hb.cell (p := ⟨w.heap.size + 1, 2, none⟩) hz2).trans (hrx.cell (i := 2) rfl)⟩
            have hks : k1.size < f ∧ k1.size ≤ 80 := by
              have e4 := HSZ.out
              have e5 := HSM.out
              omega
            obtain ⟨RA, hRA⟩ : ∃ RA, RA = putN f ⟨o1, m1, k1⟩ v x := ⟨_, rfl⟩
            have hkl : Lies wr 0 wr.heap.size A2 0 k1 := h3.mono_ (Nat.le_refl _) hb.size
            have hfa := (fit_at HFIT.out.2 j e1).1
            have HREP := Lib.hid (show ∀ w' : World, Below wr.heap.size wr w' → Calls Try.prog 32 #[.agg #[.int .i64 o1, .int .i64 m1, .slice A2 k1.len c2], .int .i64 v, .agg #[.int .i64 x.op, .int .i64 x.n, .slice X x.k.len cx]] w' (PutPost RA w') from fun w' hb' => by
              rw [hRA]
              exact IH.out ⟨o1, m1, k1⟩ v x A2 X c2 cx w' ⟨hkl.up hb', (HLX.out.up hb).up hb', hks.1, hks.2, hfa, ⟨i1, i2⟩, HXS.out, HIX.out, HIV.out⟩)
            have hjt := hT
            rw [e1] at hjt
            have HJT := Lib.hid hjt
            have HRA := Lib.hid hRA
            have HAI := Lib.hid (And.intro i1 i2)
            have HS1 := Lib.hid hS1
            have HTR := Lib.hid ht
            have HBR := Lib.hid hb
            have HROW := Lib.hid hrow
            have HPL := Lib.hid hpl
            have HRE := Lib.hid hre
            have q2 := hre.cell (i := 2) rfl
            have hpl2 : pre.len ≤ 1048576 := by omega
            clear hS1 hT hjt hrow ht hb hpl hre hrx hz1 hz2 hbb hbb2 i1 i2 g1 g2 g3 h1 h2 h3 e1 e2 e3 hks hkl hfa hRA hj
            go_upto_region 9 with fail
            go_cut [10, 11] from 44 to 54 (fun p s wd => ∃ g o9 m9 A9 l9 c9, p = .pointer (some ⟨g, 0, none⟩) ∧ s = .bool RA.isSome ∧ Row wd g 25 #[.int .i64 o9, .int .i64 m9, .slice A9 l9 c9] ∧ wr.heap.size ≤ g ∧ (∀ y, RA = some y → o9 = y.op ∧ m9 = y.n ∧ l9 = y.k.len ∧ ∃ bs, Tree wd wr.heap.size (.slice A9 l9 c9) y.k bs) ∧ Below wr.heap.size wr wd)
            case first =>
              clear q2
              have b0 : Below wr.heap.size wr wr.drew := (Below.refl _ _).drew
              have bp : Below wr.heap.size wr (wr.alloc (Obj.cells #[Value.int .i64 0, Value.int .i64 0, Value.slice none 0 0] 25)).drew := ((Below.refl _ _).alloc (Nat.le_refl _) _).drew
              have CA := Lib.hid (HREP.out _ bp)
              have CB := Lib.hid (HREP.out _ b0)
              have s0 := HS1.out _ b0
              have sp := HS1.out _ bp
              have B0 := Lib.hid b0
              have BP := Lib.hid bp
              have RP := Lib.hid (show Row (wr.alloc (Obj.cells #[Value.int .i64 0, Value.int .i64 0, Value.slice none 0 0] 25)).drew wr.heap.size 25 #[Value.int .i64 0, Value.int .i64 0, Value.slice none 0 0] from (Row.fresh _ _ _).drew)
              have hza : (wr.alloc (Obj.cells #[Value.int .i64 0, Value.int .i64 0, Value.slice none 0 0] 25)).drew.heap.size = wr.heap.size + 1 := by simp
              have HZA := Lib.hid hza
              clear b0 bp hza
              go_region_held3 (fun w' => w'.cell? ⟨w.heap.size, 2, none⟩ = some (Value.slice (some ⟨b, o, none⟩) k.len c) ∧ w'.cell? ⟨b, o + j * 3, none⟩ = some (Value.int .i64 o1) ∧ w'.cell? ⟨b, o + j * 3 + 1, none⟩ = some (Value.int .i64 m1) ∧ w'.cell? ⟨b, o + j * 3 + 2, none⟩ = some (Value.slice A2 k1.len c2) ∧ w'.cell? ⟨w.heap.size + 1, 0, none⟩ = some (Value.int .i64 x.op) ∧ w'.cell? ⟨w.heap.size + 1, 1, none⟩ = some (Value.int .i64 x.n) ∧ w'.cell? ⟨w.heap.size + 1, 2, none⟩ = some (Value.slice X x.k.len cx))
                (first | with_reducible exact s0 | with_reducible exact sp | with_reducible exact s5 | with_reducible exact s6 | with_reducible exact s5z | fail)
                (first
                  | (go_at_call 32
                     with_reducible refine CA.out.mono ?_
                     rintro e w5 hpp
                     obtain ⟨o5, m5, A5, l5, c5, rfl, hb5, hy5⟩ := PutPost.opened hpp
                     have hb := BP.out.trans (hb5.mono BP.out.size)
                     have r5 := RP.out.below hb5 RP.out.size
                     have f0 := r5.free 0
                     have f1 := r5.free 1
                     have f2 := r5.free 2
                     have c0 := r5.cell (i := 0) rfl
                     have cc1 := r5.cell (i := 1) rfl
                     have cc2 := r5.cell (i := 2) rfl
                     have hbs := ((hb.setCell (p := ⟨wr.heap.size, 0, none⟩) (Nat.le_refl _) (.int .i64 o5)).setCell (p := ⟨wr.heap.size, 1, none⟩) (Nat.le_refl _) (.int .i64 m5)).setCell (p := ⟨wr.heap.size, 2, none⟩) (Nat.le_refl _) (.slice A5 l5 c5)
                     have s5 := HS1.out _ hb
                     have s6 := HS1.out _ hbs
                     rw [HZA.out] at hy5
                     have HEND := Lib.hid (show ∃ g o9 m9 A9 l9 c9, Value.pointer (some ⟨wr.heap.size, 0, none⟩) = .pointer (some ⟨g, 0, none⟩) ∧ Row (((w5.setCell ⟨wr.heap.size, 0, none⟩ (.int .i64 o5)).setCell ⟨wr.heap.size, 1, none⟩ (.int .i64 m5)).setCell ⟨wr.heap.size, 2, none⟩ (.slice A5 l5 c5)) g 25 #[.int .i64 o9, .int .i64 m9, .slice A9 l9 c9] ∧ wr.heap.size ≤ g ∧ (∀ y, RA = some y → o9 = y.op ∧ m9 = y.n ∧ l9 = y.k.len ∧ ∃ bs, Tree (((w5.setCell ⟨wr.heap.size, 0, none⟩ (.int .i64 o5)).setCell ⟨wr.heap.size, 1, none⟩ (.int .i64 m5)).setCell ⟨wr.heap.size, 2, none⟩ (.slice A5 l5 c5)) wr.heap.size (.slice A9 l9 c9) y.k bs) ∧ Below wr.heap.size wr (((w5.setCell ⟨wr.heap.size, 0, none⟩ (.int .i64 o5)).setCell ⟨wr.heap.size, 1, none⟩ (.int .i64 m5)).setCell ⟨wr.heap.size, 2, none⟩ (.slice A5 l5 c5)) from
                       ⟨wr.heap.size, o5, m5, A5, l5, c5, rfl, ((r5.put 0 _).put 1 _).put 2 _, Nat.le_refl _, fun y hy => by
                         obtain ⟨e1, e2, e3, bs, ht⟩ := hy5 y hy
                         exact ⟨e1, e2, e3, bs, (((ht.put (p := ⟨wr.heap.size, 0, none⟩) (Nat.lt_succ_self _) _).put (p := ⟨wr.heap.size, 1, none⟩) (Nat.lt_succ_self _) _).put (p := ⟨wr.heap.size, 2, none⟩) (Nat.lt_succ_self _) _).lower (Nat.le_succ _)⟩, hbs⟩)
                     clear hpp hy5 hb5 hb r5 hbs)
                  | (go_at_call 32
                     with_reducible refine CB.out.mono ?_
                     rintro e w5 hpp
                     obtain ⟨o5, m5, A5, l5, c5, rfl, hb5, hy5⟩ := PutPost.opened hpp
                     have hb := B0.out.trans (hb5.mono B0.out.size)
                     have hbl := (Below.refl w5.heap.size w5).alloc (Nat.le_refl _) (Obj.cells #[Value.int .i64 o5, Value.int .i64 m5, Value.slice A5 l5 c5] 25)
                     have hba := hb.trans (hbl.mono hb.size)
                     have s5 := HS1.out _ hb
                     have s6 := HS1.out _ hba
                     have s5z := HS1.out _ (hb.alloc hb.size (Obj.cells #[Value.int .i64 0, Value.int .i64 0, Value.slice none 0 0] 25))
                     have HEND := Lib.hid (show ∃ g o9 m9 A9 l9 c9, Value.pointer (some ⟨w5.heap.size, 0, none⟩) = .pointer (some ⟨g, 0, none⟩) ∧ Row (w5.alloc (Obj.cells #[Value.int .i64 o5, Value.int .i64 m5, Value.slice A5 l5 c5] 25)) g 25 #[.int .i64 o9, .int .i64 m9, .slice A9 l9 c9] ∧ wr.heap.size ≤ g ∧ (∀ y, RA = some y → o9 = y.op ∧ m9 = y.n ∧ l9 = y.k.len ∧ ∃ bs, Tree (w5.alloc (Obj.cells #[Value.int .i64 o5, Value.int .i64 m5, Value.slice A5 l5 c5] 25)) wr.heap.size (.slice A9 l9 c9) y.k bs) ∧ Below wr.heap.size wr (w5.alloc (Obj.cells #[Value.int .i64 o5, Value.int .i64 m5, Value.slice A5 l5 c5] 25)) from
                       ⟨w5.heap.size, o5, m5, A5, l5, c5, rfl, Row.fresh _ _ _, hb.size, fun y hy => by
                         obtain ⟨e1, e2, e3, bs, ht⟩ := hy5 y hy
                         exact ⟨e1, e2, e3, bs, ht.over hbl⟩, hba⟩)
                     clear hpp hy5 hb5 hb hbl hba)
                  | fail)
              all_goals
                go_wp2_with fail
                go_meet
                obtain ⟨g, o9, m9, A9', l9, c9', hp, hr⟩ := HEND.out
                exact ⟨g, o9, m9, A9', l9, c9', hp, rfl, hr⟩
            case rest =>
              obtain ⟨g, o9, m9, A1, l1, c1, rfl, rfl, hrg, hgW, hy, hbd⟩ := hcut
              have HBD := Lib.hid (HBR.out.trans (hbd.mono HBR.out.size))
              have HRG := Lib.hid hrg
              have HROWD := Lib.hid (HROW.out.below hbd HROW.out.size)
              have HTD := Lib.hid (HTR.out.over hbd)
              have HBXD := Lib.hid hbd
              have HGW := Lib.hid hgW
              have HY := Lib.hid hy
              have HWZ := Lib.hid (show W.heap.size + 1 ≤ wr.heap.size from HROW.out.size)
              clear hrg hgW hy hbd q2 HROW HREP HS1
              cases RA with
              | none =>
                have HSTOP := Lib.hid (kids_stop (by rw [if_neg (by simp)]; exact HRA.out.symm) HJT.out)
                have HU1 := Lib.hid (HR1.out.below HBD.out HR1.out.size)
                have HU3 := Lib.hid (HR3.out.below HBD.out HR3.out.size)
                go_upto_region 11 with fail
                have q0 := HU1.out.cell (i := 0) rfl
                have q1 := HU1.out.cell (i := 1) rfl
                have q2 := HU1.out.cell (i := 2) rfl
                have c0 := HU3.out.cell (i := 0) rfl
                have cc1 := HU3.out.cell (i := 1) rfl
                have cc2 := HU3.out.cell (i := 2) rfl
                have f0 := HU3.out.free 0
                have f1 := HU3.out.free 1
                have f2 := HU3.out.free 2
                have hres3 := ((HU3.out.put 0 (.int .i64 op)).put 1 (.int .i64 n)).put 2 (.slice (some ⟨b, o, none⟩) k.len c)
                have r0 := hres3.cell (i := 0) rfl
                have r1 := hres3.cell (i := 1) rfl
                have r2 := hres3.cell (i := 2) rfl
                have hbw := HB.out.trans (HBD.out.mono HB.out.size)
                have hbc := ((hbw.setCell (p := ⟨w.heap.size + 1 + 1, 0, none⟩) (by dsimp only; omega) (.int .i64 op)).setCell (p := ⟨w.heap.size + 1 + 1, 1, none⟩) (by dsimp only; omega) (.int .i64 n)).setCell (p := ⟨w.heap.size + 1 + 1, 2, none⟩) (by dsimp only; omega) (.slice (some ⟨b, o, none⟩) k.len c)
                have HBC := Lib.hid hbc
                clear hres3 hbc hbw
                go_wp2_with fail
                refine bodyPost_ret (v := .tuple #[.agg #[.int .i64 op, .int .i64 n, .slice (some ⟨b, o, none⟩) k.len c], .bool false]) ?_ rfl (by
                  have hR2 := HRT.out
                  rw [HSTOP.out] at hR2
                  rw [hR2]
                  exact ⟨op, n, _, k.len, c, rfl, HBC.out⟩)
                simp [results, Try.f32, go_sem, r0, r1, r2]
              | some a =>
                obtain ⟨rfl, rfl, rfl, b5, ht5⟩ := HY.out a rfl
                have HSTEP := Lib.hid (kids_step (by rw [if_neg (by simp)]; exact HRA.out.symm) HJT.out)
                have HKI := Lib.hid (putN_i64 (p := ⟨o1, m1, k1⟩) HAI.out HIX.out HRA.out.symm)
                have HK5 := Lib.hid (ht5.lower (base' := W.heap.size + 1) HWZ.out)
                have HD5 := Lib.hid (show ∀ b, b ∈ bs → b ∈ b5 → False from fun q h1 h2 => by
                  have e1 := (HTR.out.lt q h1).2
                  have e2 := (ht5.lt q h2).1
                  omega)
                have HBOX := Lib.hid (show ∀ g, (Value.slice Ay pre.len cy).ownBlock = some g → W.heap.size + 1 ≤ g ∧ g < wr.heap.size from fun g hg => by
                  obtain ⟨st, b1, k1', k2', rfl, _⟩ := HTR.out
                  exact blk_lt k1' (by unfold blkV; rw [hg]; simp))
                have HZ5 := Lib.hid (Nat.le_trans HWZ.out HBXD.out.size)
                clear ht5
                go_upto_region 12 with fail
                have q0 := HRG.out.cell (i := 0) rfl
                have q1 := HRG.out.cell (i := 1) rfl
                have q2 := HRG.out.cell (i := 2) rfl
                have y2 := HROWD.out.cell (i := 2) rfl
                go_wp2_with (at_builtin; refine wpList_push rfl _ _ rfl (W.heap.size + 1) (.slice Ay pre.len cy) pre bs b5 a.op a.n a.k A1 c1 rfl rfl HTD.out HK5.out HKI.out HD5.out hpl2 HZ5.out ?_; intro v6 w6 bs6 ht6 hg6 hin6; obtain ⟨A6, c6, rfl, hc61, hc62⟩ := ht6.slice; have hr6 := row_grown HROWD.out hg6 (fun e => by have := HBOX.out _ e.symm; omega); have f3 := hr6.free 2; have u3 := hr6.cell (i := 2) rfl; have HR6 := Lib.hid hr6; have HT6 := Lib.hid ht6; have HB6 := Lib.hid (Below.grown HBD.out hg6 HBD.out.size (fun g' hg' => by have := HBOX.out g' hg'; omega)); clear hr6 ht6 hg6 hin6 hc61 hc62)
                go_roundw
                case rel =>
                  have hr7 := HR6.out.put 2 (.slice A6 (pre.snoc a.op a.n a.k).len c6)
                  have ht7 : Tree (w6.setCell ⟨W.heap.size, 2, none⟩ (.slice A6 (pre.snoc a.op a.n a.k).len c6)) (W.heap.size + 1) (.slice A6 (pre.snoc a.op a.n a.k).len c6) (pre.snoc a.op a.n a.k) bs6 :=
                    HT6.out.put (Nat.lt_succ_self _) _
                  exact ⟨j + 1, pre.snoc a.op a.n a.k, A6, c6, bs6, hlt, by go_num, by rw [Fo.snoc_len, HPL.out], HSTEP.out, hr7, ht7, HB6.out.setCell (Nat.le_refl _) _⟩
                case measure => simp [intOf]; omega
          · have e9 : j = k.len := by omega
            rw [e9, Fo.drop_len] at hT
            have hR2 := HRT.out
            rw [kids_end hT] at hR2
            have HR2' := Lib.hid hR2
            have hres := HR3.out.below hb HR3.out.size
            have s2 := (HR1.out.below hb HR1.out.size).cell (i := 2) rfl
            have c0 := hres.cell (i := 0) rfl
            have cc1 := hres.cell (i := 1) rfl
            have cc2 := hres.cell (i := 2) rfl
            have q0 := hrow.cell (i := 0) rfl
            have q1 := hrow.cell (i := 1) rfl
            have q2 := hrow.cell (i := 2) rfl
            have f0 := hres.free 0
            have f1 := hres.free 1
            have f2 := hres.free 2
            have hres3 := ((hres.put 0 (.int .i64 op)).put 1 (.int .i64 n)).put 2 (.slice Ay pre.len cy)
            have r0 := hres3.cell (i := 0) rfl
            have r1 := hres3.cell (i := 1) rfl
            have r2 := hres3.cell (i := 2) rfl
            have hzz := HR3.out.size
            have hbc := (((HB.out.trans (hb.mono HB.out.size)).setCell (p := ⟨w.heap.size + 1 + 1, 0, none⟩) (by dsimp only; omega) (.int .i64 op)).setCell (p := ⟨w.heap.size + 1 + 1, 1, none⟩) (by dsimp only; omega) (.int .i64 n)).setCell (p := ⟨w.heap.size + 1 + 1, 2, none⟩) (by dsimp only; omega) (.slice Ay pre.len cy)
            have htc := ((ht.put (p := ⟨w.heap.size + 1 + 1, 0, none⟩) (by dsimp only; omega) (.int .i64 op)).put (p := ⟨w.heap.size + 1 + 1, 1, none⟩) (by dsimp only; omega) (.int .i64 n)).put (p := ⟨w.heap.size + 1 + 1, 2, none⟩) (by dsimp only; omega) (.slice Ay pre.len cy)
            have HTC := Lib.hid (htc.lower (base' := w.heap.size) (by have := HB.out.size; omega))
            have HBC := Lib.hid hbc
            clear hres hres3 hzz hbc htc ht hb hrow hT hR2 hpl
            go_wp2_with fail
            refine bodyPost_ret (v := .tuple #[.agg #[.int .i64 op, .int .i64 n, .slice Ay pre.len cy], .bool true]) ?_ rfl (by rw [HR2'.out]; exact ⟨Ay, cy, bs, rfl, HTC.out, HBC.out⟩)
            simp [results, Try.f32, go_sem, r0, r1, r2]

theorem put_any : ∀ f, PutSC f
  | 0 => fun _ _ _ _ _ _ _ _ h => absurd h.size (Nat.not_lt_zero _)
  | f + 1 => put_step f (put_any f)
end Go.Proofs.Ytjlaabipgppijaa
