/-
  impl.UniqueNames.
-/
import Derived.Test.YtpoicdbjmhageaaPutD
import Derived.Test.YtpoicdbjmhageaaFresh
import Derived.Test.YtpoicdbjmhageaaNodesI
import Derived.Test.YtpoicdbjmhageaaCntVar
import Derived.Test.YtpoicdbjmhageaaOpen
namespace Go.Proofs.Ytpoicdbjmhageaa
open Go.RowKit Go.Shelf
set_option maxRecDepth 100000

attribute [local go_sem] Oper.semAt_some

/-- What UniqueNames has found of the nodes that it has met. -/
def uniL (op n : Int) (k : Fo) (l : List Nd) : Bool := uniUpto (fun v => cntN (v : Int) op n k) (fun v => letsL v l) 8
theorem uniL_nil (op n : Int) (k : Fo) : uniL op n k [] = true := uniUpto_iff.2 fun _ _ => ⟨Nat.zero_le _, .inl rfl⟩
theorem uniL_other {op n : Int} {k : Fo} {l : List Nd} {x : Nd} (h : x.op ≠ 7) : uniL op n k (l ++ [x]) = uniL op n k l := by
  unfold uniL
  congr 1
  funext v
  rw [letsL_append]
  simp [letsL, ownLet1, h]
theorem uniL_good {op n : Int} {k : Fo} {l : List Nd} {x : Nd} {v : Nat} (hu : uniL op n k l = true) (hx : x.n = (v : Int)) (hs : seenQ ownLet l v = false) (hc : cntN (v : Int) op n k = 0) : uniL op n k (l ++ [x]) = true := by
  refine uniUpto_iff.2 fun u hu8 => ?_
  obtain ⟨h1, h2⟩ := uniUpto_iff.1 hu u hu8
  rw [letsL_append]
  have h0 : letsL u [x] = ownLet1 u x.op x.n := by simp [letsL]
  rw [h0]
  by_cases e : u = v
  · subst e
    rw [seen_lets, decide_eq_false_iff_not] at hs
    have := ownLet1_le u x.op x.n
    exact ⟨by omega, .inr hc⟩
  · have : ownLet1 u x.op x.n = 0 := by unfold ownLet1; rw [if_neg (fun h => e (by omega))]
    rw [this]
    exact ⟨by omega, by simpa using h2⟩
theorem uniL_bad {op n : Int} {k : Fo} {l : List Nd} {x : Nd} {v : Nat} (hv : v < 8) (h7 : x.op = 7) (hx : x.n = (v : Int)) (hb : seenQ ownLet l v = true ∨ cntN (v : Int) op n k ≠ 0) : uniL op n k (l ++ [x]) = false := by
  have h0 : letsL v (l ++ [x]) = letsL v l + 1 := by rw [letsL_append]; simp [letsL, ownLet1, h7, hx]
  refine uniUpto_bad hv ?_
  rw [h0]
  rintro ⟨h1, h2⟩
  rcases hb with hs | hc
  · rw [seen_lets, decide_eq_true_iff] at hs
    omega
  · rcases h2 with h2 | h2
    · omega
    · exact hc h2
theorem uniL_prefix {op n : Int} {k : Fo} {l r : List Nd} (h : uniL op n k l = false) : uniL op n k (l ++ r) = false := by
  rw [Bool.eq_false_iff] at h ⊢
  refine fun ht => h (uniUpto_iff.2 fun v hv => ?_)
  obtain ⟨h1, h2⟩ := uniUpto_iff.1 ht v hv
  rw [letsL_append] at h1 h2
  exact ⟨by omega, by omega⟩
theorem uniL_all (op n : Int) (k : Fo) : uniL op n k (ordN (fun _ _ => false) ⟨op, n, k⟩) = uniUpto (fun v => cntN (v : Int) op n k) (fun v => letsN v op n k) 8 := by
  unfold uniL
  congr 1
  funext v
  exact letsL_ordN v op n k

set_option maxRecDepth 100000 in
set_option maxHeartbeats 4000000 in
theorem implUniq_r (op m : Int) (k : Fo) (A : Option Addr) (c L B : Nat) (w : World) (hl : Lies w L B A 0 k) (hB : B ≤ w.heap.size) (hal : RowsIf w B A k) (hk1 : k.len ≤ c) (hk2 : c ≤ maxLen) (hsz : k.size ≤ 1048576) :
    Calls Try.prog 14 #[.agg #[.int .i64 op, .int .i64 m, .slice A k.len c]] w (Gives (.bool (uniB op m k)) w) := by
  have hb0 : Below w.heap.size w ((w.alloc (Obj.cells #[Value.int .i64 op, Value.int .i64 m, Value.slice A k.len c] 25)).alloc (Obj.cells #[Value.bool false] 4)) := ((Below.refl _ _).alloc (Nat.le_refl _) _).alloc (by simp) _
  have re0 := (Row.fresh w 25 #[Value.int .i64 op, Value.int .i64 m, Value.slice A k.len c]).alloc (Obj.cells #[Value.bool false] 4)
  have rr0 : Row ((w.alloc (Obj.cells #[Value.int .i64 op, Value.int .i64 m, Value.slice A k.len c] 25)).alloc (Obj.cells #[Value.bool false] 4)) (w.heap.size + 1) 4 #[Value.bool false] := by
    have := Row.fresh (w.alloc (Obj.cells #[Value.int .i64 op, Value.int .i64 m, Value.slice A k.len c] 25)) 4 #[Value.bool false]
    rw [World.size_alloc] at this
    exact this
  have hlen : k.len ≤ maxLen := Nat.le_trans hk1 hk2
  have HC := Lib.hid (validOpen_any op m k A c _ ((hl.below (hb0.mono hB)).mono_ (Nat.zero_le _) (Nat.le_trans hB hb0.size)) hlen)
  have HB0 := Lib.hid hb0
  have HE0 := Lib.hid re0
  have HR0 := Lib.hid rr0
  clear hb0 re0 rr0
  refine (callsIn_wide (n := 9)).1 ?_
  refine callsIn_of_wp_marks Try.func14 rfl trivial ?_ rfl
  simp only [Try.ntmps14, List.size_toArray, List.length_cons, List.length_nil, Nat.reduceAdd, Nat.reduceSub, Array.replicate_succ, Array.replicate_zero, List.push_toArray, List.append_toArray, List.nil_append, List.cons_append]
  cases hN : nodeIs op m k (firstS 8) with
  | false =>
    rw [hN] at HC
    have HU := Lib.hid (show uniB op m k = false by unfold uniB; rw [hN]; rfl)
    clear hN
    gi_wp2_with fail
    refine ⟨trivial, (callsIn_wide.2 HC.out).mono ?_⟩
    rintro e w1 ⟨rfl, hb1⟩
    have HB1 := Lib.hid (HB0.out.trans (hb1.mono HB0.out.size))
    have hr1 := HR0.out.below hb1 HR0.out.size
    have v0 := hr1.cell (i := 0) rfl
    have f0 := hr1.free 0
    clear hb1
    gi_wp2
    have hc5 := World.cell?_setCell_same' w1 ⟨w.heap.size + 1, 0, none⟩ (.bool false) (by rw [v0]; rfl)
    refine ⟨.bool false, ?_, by rw [HU.out], HB1.out.setCell (p := ⟨w.heap.size + 1, 0, none⟩) (by simp) _⟩
    simp [results, Try.f14, go_sem, hc5]
  | true =>
    rw [hN] at HC
    have hbd := binds_is hN
    have HU := Lib.hid (show uniB op m k = uniL op m k (ordN (fun _ _ => false) ⟨op, m, k⟩) by unfold uniB; rw [hN, uniL_all]; rfl)
    clear hN
    gi_wp2_with fail
    refine ⟨trivial, (callsIn_wide.2 HC.out).mono ?_⟩
    rintro e w1 ⟨rfl, hb1⟩
    have HB1 := Lib.hid (HB0.out.trans (hb1.mono HB0.out.size))
    have HR1 := Lib.hid (HR0.out.below hb1 HR0.out.size)
    have HE1 := Lib.hid (HE0.out.below hb1 HE0.out.size)
    clear hb1 HB0 HE0 HR0 HC
    have HE2 := Lib.hid (HE1.out.alloc (Obj.cells #[.bool false, .bool false, .bool false, .bool false, .bool false, .bool false, .bool false, .bool false] 35))
    have q0 := HE2.out.cell (i := 0) rfl
    have q1 := HE2.out.cell (i := 1) rfl
    have q2 := HE2.out.cell (i := 2) rfl
    gi_wp2_with fail
    refine ⟨trivial, (callsIn_wide.2 (nodesOf_any op m k A c 19 #[] _)).mono ?_⟩
    rintro e w2 ⟨rfl, rfl⟩
    clear q0 q1 q2 HE2
    gi_wp2_with fail
    obtain ⟨W0, hW0⟩ : ∃ W0, W0 = (((w1.alloc (Obj.cells #[.bool false, .bool false, .bool false, .bool false, .bool false, .bool false, .bool false, .bool false] 35)).alloc (Obj.cells #[Value.int .i64 op, Value.int .i64 m, Value.slice A k.len c] 25)).alloc (Obj.cells #[Value.func (.func 19) #[] #[]] 39)) := ⟨_, rfl⟩
    rw [← hW0]
    have hw1 : w.heap.size + 1 < w1.heap.size := HR1.out.size
    have hz0 : W0.heap.size = w1.heap.size + 1 + 1 + 1 := by rw [hW0]; simp
    have hb1 : Below w1.heap.size w1 W0 := by
      rw [hW0]
      exact (((Below.refl _ _).alloc (Nat.le_refl _) _).alloc (by simp) _).alloc (by simp; omega) _
    have hbw : Below w.heap.size w W0 := HB1.out.trans (hb1.mono HB1.out.size)
    have rn : Row W0 w1.heap.size 35 (cells8 (seenQ ownLet [])) := by
      rw [hW0]
      exact ((Row.fresh w1 35 (cells8 (seenQ ownLet []))).alloc _).alloc _
    have r1 : Row W0 (w1.heap.size + 1) 25 #[Value.int .i64 op, Value.int .i64 m, Value.slice A k.len c] := by
      rw [hW0]
      have := Row.fresh (w1.alloc (Obj.cells #[.bool false, .bool false, .bool false, .bool false, .bool false, .bool false, .bool false, .bool false] 35)) 25 #[Value.int .i64 op, Value.int .i64 m, Value.slice A k.len c]
      simp only [World.size_alloc] at this
      exact this.alloc _
    have r2 : Row W0 (w1.heap.size + 1 + 1) 39 #[Value.func (.func 19) #[] #[]] := by
      rw [hW0]
      have := Row.fresh ((w1.alloc (Obj.cells #[.bool false, .bool false, .bool false, .bool false, .bool false, .bool false, .bool false, .bool false] 35)).alloc (Obj.cells #[Value.int .i64 op, Value.int .i64 m, Value.slice A k.len c] 25)) 39 #[Value.func (.func 19) #[] #[]]
      simp only [World.size_alloc] at this
      exact this
    have re := HE1.out.below hb1 HE1.out.size
    have rr := HR1.out.below hb1 HR1.out.size
    clear hW0 hb1
    refine range_ownP (X := fun g => g = w1.heap.size) rfl (by omega) (gf := 32) (lb := #[.pointer (some ⟨w1.heap.size + 1, 0, none⟩), .pointer (some ⟨w1.heap.size + 1 + 1, 0, none⟩)]) rfl trivial (enters_of Try.func32 (by kernel_rfl) rfl)
      (nodes_seqR 8 (fun _ _ => false) op m k A c L B (w1.heap.size + 1) (w1.heap.size + 1 + 1) 19 #[] (fun g => g = w1.heap.size) W0 (fun g hg => by omega) (by omega) (by omega) (fun g _ h2 => by omega) r1 (r2.cell (i := 0) rfl)
        (hl.below (hbw.mono hB)) (Nat.le_trans hB hbw.size) (hal.below hbw hB) hk1 hk2 hsz (enters_of Try.func19 (by kernel_rfl) rfl) (fun x i V _ => hideNone_any x.op x.n _ i V))
      (Below.refl _ _) (fun _ => rfl)
      (fun pre W => (Row W w1.heap.size 35 (cells8 (seenQ ownLet (pre.map Nx.nd))) ∧ Row W (w.heap.size + 1) 4 #[Value.bool false] ∧ Row W w.heap.size 25 #[Value.int .i64 op, Value.int .i64 m, Value.slice A k.len c] ∧ uniL op m k (pre.map Nx.nd) = true) ∧ Below w.heap.size w W)
      (fun c' pre W => (c' = .ret ∧ uniL op m k (pre.map Nx.nd) = false ∧ Row W (w.heap.size + 1) 4 #[Value.bool false]) ∧ Below w.heap.size w W)
      (fun s V V' ⟨⟨x1, x3, x4, x5⟩, x2⟩ hb => ⟨⟨x1.below hb (by omega), x3.below hb (by omega), x4.below hb (by omega), x5⟩, x2.trans (hb.mono (by omega))⟩)
      (fun _ s V V' ⟨⟨x1, x3, x4⟩, x2⟩ hb => ⟨⟨x1, x3, x4.below hb (by omega)⟩, x2.trans (hb.mono (by omega))⟩) ⟨⟨rn, rr, re, uniL_nil op m k⟩, hbw⟩
      (fun y a' V => ∃ Bx, W0.heap.size ≤ Bx ∧ Row V Bx 25 #[Value.int .i64 y.op, Value.int .i64 y.n, Value.slice y.A y.k.len y.c] ∧ a' = { tmps := #[.agg #[.int .i64 op, .int .i64 m, .slice A k.len c], .pointer (some ⟨w.heap.size, 0, none⟩), .pointer (some ⟨w.heap.size + 1, 0, none⟩), .pointer (some ⟨w1.heap.size, 0, none⟩), .pointer (some ⟨Bx, 0, none⟩), .agg #[.int .i64 op, .int .i64 m, .slice A k.len c], .bool true, .bool false, .agg #[.int .i64 op, .int .i64 m, .slice A k.len c], .func (.func 32) #[] #[.pointer (some ⟨w1.heap.size + 1, 0, none⟩), .pointer (some ⟨w1.heap.size + 1 + 1, 0, none⟩)], y.val, undef, undef, undef, undef, undef, undef, undef, undef, undef, undef, undef, undef, undef, undef, undef, undef, undef], defers := [] })
      (fun y a' V V' ⟨Bx, h1, h2, h3⟩ hk => ⟨Bx, h1, hk.row h2 (by omega), h3⟩) ?assign ?body ?done ?stop
    case assign =>
      intro l pre y W K hsW hi hK
      unfold Nx.val
      gi_wp2
      exact hK _ _ ((Below.refl _ _).alloc (Nat.le_refl _) _) ⟨W.heap.size, by omega, Row.fresh _ _ _, rfl⟩
    case body =>
      rintro l pre y a' W _ ⟨⟨hr, hrr, hre, hu⟩, hb⟩ ⟨Bx, hBx, hrx, rfl⟩ hlen hsp
      have y0 := hrx.cell (i := 0) rfl
      have y1 := hrx.cell (i := 1) rfl
      by_cases h7 : y.op = 7
      · have hvy : inVar y.n = true := by
          obtain ⟨rest, hrest⟩ := hsp
          have := binds_ordN (x := y.nd) hbd (by rw [← hrest]; simp)
          simpa [bindOk, Nx.nd, h7] using this
        obtain ⟨v, hv8, hvv⟩ := inVar_v8 hvy
        have HSN := Lib.hid (seenQ_snoc ownLet (pre.map Nx.nd) y.nd)
        have HGOOD := Lib.hid (fun h1 h2 => uniL_good (x := y.nd) (v := v) hu hvv h1 h2)
        have HBAD := Lib.hid (fun h => uniL_bad (op := op) (n := m) (k := k) (l := pre.map Nx.nd) (x := y.nd) hv8 h7 hvv h)
        have hmap : (pre ++ [y]).map Nx.nd = pre.map Nx.nd ++ [y.nd] := by simp
        have HMAP := Lib.hid hmap
        have H7 := Lib.hid h7
        have HVV := Lib.hid hvv
        rw [hvv] at y1
        have qv := hr.cell (cells8_at (seenQ ownLet (pre.map Nx.nd)) hv8)
        have v0 := hrr.cell (i := 0) rfl
        have f0 := hrr.free 0
        have HR := Lib.hid hr
        have HRR := Lib.hid hrr
        have HRE := Lib.hid hre
        have HRX := Lib.hid hrx
        have HBB := Lib.hid hb
        have e0 := hre.cell (i := 0) rfl
        have e1 := hre.cell (i := 1) rfl
        have e2 := hre.cell (i := 2) rfl
        have h77 : (y.op != 7) = false := by simp [h7]
        clear hmap hu hsp hvy hvv hr hrr hre hrx hb h7
        cases hs : seenQ ownLet (pre.map Nx.nd) v with
        | true =>
          rw [hs] at qv
          have HF := Lib.hid (show uniL op m k ((pre ++ [y]).map Nx.nd) = false by rw [HMAP.out]; exact HBAD.out (.inl hs))
          clear hs
          gi_wp2_with fail
          refine ⟨trivial, ?_⟩
          gi_wp2_with fail
          exact ⟨(KeepsOthers.setCell _ _ _).from _, ⟨rfl, HF.out, HRR.out.put 0 (.bool false)⟩, HBB.out.setCell (by simp) _⟩
        | false =>
          rw [hs] at qv
          have hHC := (implCount_r op m (v : Int) k A c L B W (hl.below (HBB.out.mono hB)) (Nat.le_trans hB HBB.out.size) (hal.below HBB.out hB) hk1 hk2 hsz)
          have HC := Lib.hid hHC
          clear hHC
          gi_wp2_with fail
          refine ⟨trivial, (CallsIn.inRound l (callsIn_wide.2 HC.out)).mono ?_⟩
          rintro e w3 ⟨rfl, hb3⟩
          have HR3 := Lib.hid (HR.out.below hb3 HR.out.size)
          have HRR3 := Lib.hid (HRR.out.below hb3 HRR.out.size)
          have HRE3 := Lib.hid (HRE.out.below hb3 HRE.out.size)
          have HRX3 := Lib.hid (HRX.out.below hb3 HRX.out.size)
          have HB3 := Lib.hid (HBB.out.trans (hb3.mono HBB.out.size))
          have HK3 := Lib.hid (KC.of_below (X := fun g => g = w1.heap.size) hb3)
          have HF3 := Lib.hid (KeepsFrom.of_below (B := W0.heap.size) hb3 (Nat.le_refl _))
          clear hb3 HR HRR HRE HRX HBB HC y0 y1 qv v0 f0 e0 e1 e2
          have v0 := HRR3.out.cell (i := 0) rfl
          have f0 := HRR3.out.free 0
          have y1 := HRX3.out.cell (i := 1) rfl
          by_cases hc : cntN (v : Int) op m k = 0
          · rw [hc]
            have HT := Lib.hid (show uniL op m k ((pre ++ [y]).map Nx.nd) = true by rw [HMAP.out]; exact HGOOD.out hs hc)
            have hcc : cells8 (seenQ ownLet ((pre ++ [y]).map Nx.nd)) = cells8 (addS (seenQ ownLet (pre.map Nx.nd)) y.n) := by
              refine cells8_congr fun i hi => ?_
              rw [HMAP.out, HSN.out]
              unfold addS
              congr 1
              have h1 := H7.out
              unfold ownLet Nx.nd
              rw [Bool.eq_iff_iff]
              simp [h1]
            have HCC := Lib.hid hcc
            have HA := Lib.hid (add_any w1.heap.size (seenQ ownLet (pre.map Nx.nd)) y.n w3 HR3.out)
            clear hc hs hcc
            gi_wp2_with fail
            refine ⟨trivial, (CallsIn.inRound l (callsIn_wide.2 HA.out)).mono ?_⟩
            rintro e w4 ⟨rfl, hr4, hon4⟩
            have HR4 := Lib.hid hr4
            have HRR4 := Lib.hid (HRR3.out.only hon4 HRR3.out.size (by omega))
            have HRE4 := Lib.hid (HRE3.out.only hon4 HRE3.out.size (by omega))
            have hz3 := HB3.out.size
            have HB4 := Lib.hid (HB3.out.trans ((hon4.mono (B' := w.heap.size) hz3).below (by omega)))
            have HK4 := Lib.hid (HK3.out.trans (KC.of_only hon4))
            have HF4 := Lib.hid (HF3.out.trans (KeepsFrom.of_only (B := W0.heap.size) hon4 (by omega)))
            clear hr4 hon4 HA HR3 HRR3 HRE3 HRX3 HB3 HK3 HF3 y1 v0 f0
            gi_wp2_with fail
            exact ⟨HF4.out, HK4.out, ⟨by rw [HCC.out]; exact HR4.out, HRR4.out, HRE4.out, HT.out⟩, HB4.out⟩
          · have HF := Lib.hid (show uniL op m k ((pre ++ [y]).map Nx.nd) = false by rw [HMAP.out]; exact HBAD.out (.inr hc))
            have hpos : 0 < cntN (v : Int) op m k := Nat.pos_of_ne_zero hc
            generalize cntN (v : Int) op m k = cc at hpos ⊢
            clear hc hs HBAD HGOOD
            gi_wp2_with fail
            exact ⟨HF3.out.trans ((KeepsOthers.setCell _ _ _).from _), ⟨rfl, HF.out, HRR3.out.put 0 (.bool false)⟩, HB3.out.setCell (by simp) _⟩
      · have HT := Lib.hid (show uniL op m k ((pre ++ [y]).map Nx.nd) = true by
          rw [List.map_append, List.map_singleton]; exact (uniL_other (x := y.nd) h7).trans hu)
        have hcc : cells8 (seenQ ownLet ((pre ++ [y]).map Nx.nd)) = cells8 (seenQ ownLet (pre.map Nx.nd)) := by
          refine cells8_congr fun i hi => ?_
          rw [List.map_append, List.map_singleton, seenQ_snoc]
          have : ownLet y.op y.n i = false := by unfold ownLet; rw [Bool.eq_false_iff]; simp; omega
          simp [Nx.nd, this]
        have HCC := Lib.hid hcc
        have h77 : (y.op != 7) = true := by simpa using h7
        have HR := Lib.hid hr
        clear hcc hu hsp hr
        gi_wp2_with fail
        exact ⟨KeepsFrom.refl _ _, KC.refl _ _, ⟨by rw [HCC.out]; exact HR.out, hrr, hre, HT.out⟩, hb⟩
    case done =>
      rintro D ys W hD hS ⟨⟨_, hrr, _, hu⟩, hb⟩ hK
      have HF := Lib.hid (show uniB op m k = true by rw [HU.out, ← hS]; exact hu)
      have v0 := hrr.cell (i := 0) rfl
      have f0 := hrr.free 0
      clear hu hS
      gi_wp2
      have hK' := (KeepsOthers.setCell W ⟨w.heap.size + 1, 0, none⟩ (.bool true)).same D _ hK rfl
      refine ⟨by simp, .inl ⟨_, _, rfl, run_takeDeferred hK', ?_⟩⟩
      have hc5 := cell_kept (World.cell?_setCell_same' W ⟨w.heap.size + 1, 0, none⟩ (.bool true) (by rw [v0]; rfl)) (grownBy_putObj' _ D (.deferred none)) (fun r e => by cases e; exact ⟨_, hK', rfl⟩)
      refine ⟨.bool true, ?_, by rw [HF.out], (hb.setCell (p := ⟨w.heap.size + 1, 0, none⟩) (by simp) _).trans (below_put _ hK' (by omega))⟩
      simp [results, Try.f14, go_sem, hc5]
    case stop =>
      rintro D c' pre W hD hpre ⟨⟨rfl, hu, hrr⟩, hb⟩ hK
      obtain ⟨rest, hrest⟩ := hpre
      have HF := Lib.hid (show uniB op m k = false by rw [HU.out, ← hrest]; exact uniL_prefix hu)
      gi_wp2
      refine ⟨by simp, .inl ⟨_, _, rfl, run_takeDeferred hK, ?_⟩⟩
      have hc5 := cell_kept (hrr.cell (i := 0) rfl) (grownBy_putObj' _ D (.deferred none)) (fun r e => by cases e; exact ⟨_, hK, rfl⟩)
      refine ⟨.bool false, ?_, by rw [HF.out], hb.trans (below_put _ hK (by omega))⟩
      simp [results, Try.f14, go_sem, hc5]
theorem implUniq_any (op m : Int) (k : Fo) (A : Option Addr) (c L B : Nat) (w : World) (hl : Lies w L B A 0 k) (hB : B ≤ w.heap.size) (hal : AllRows w L B) (hk1 : k.len ≤ c) (hk2 : c ≤ maxLen) (hsz : k.size ≤ 1048576) :
    Calls Try.prog 14 #[.agg #[.int .i64 op, .int .i64 m, .slice A k.len c]] w (Gives (.bool (uniB op m k)) w) :=
  implUniq_r op m k A c L B w hl hB (.of hl hal) hk1 hk2 hsz
end Go.Proofs.Ytpoicdbjmhageaa
