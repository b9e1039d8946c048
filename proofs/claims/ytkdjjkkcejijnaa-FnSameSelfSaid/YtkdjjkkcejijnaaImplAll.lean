/-
  impl.AllVars.
-/
import Derived.Test.YtkdjjkkcejijnaaFresh
import Derived.Test.YtkdjjkkcejijnaaNodesI
namespace Go.Proofs.Ytkdjjkkcejijnaa
open Go.RowKit Go.Shelf
set_option maxRecDepth 100000

attribute [local go_sem] Oper.semAt_some

set_option maxRecDepth 100000 in
set_option maxHeartbeats 4000000 in
theorem implAll_r (op m : Int) (k : Fo) (A : Option Addr) (c L B : Nat) (w : World) (hl : Lies w L B A 0 k) (hB : B ≤ w.heap.size) (hal : RowsIf w B A k) (hk1 : k.len ≤ c) (hk2 : c ≤ maxLen) (hsz : k.size ≤ 1048576) :
    Calls Try.prog 17 #[.agg #[.int .i64 op, .int .i64 m, .slice A k.len c]] w (ListPost (numsUpto (hasB ownVL ⟨op, m, k⟩) 8) w) := by
  refine (callsIn_wide (n := 9)).1 ?_
  refine callsIn_of_wp_marks Try.func17 rfl trivial ?_ rfl
  simp only [Try.ntmps17, List.size_toArray, List.length_cons, List.length_nil, Nat.reduceAdd, Nat.reduceSub, Array.replicate_succ, Array.replicate_zero, List.push_toArray, List.append_toArray, List.nil_append, List.cons_append]
  gi_wp2_with fail
  refine ⟨trivial, (callsIn_wide.2 (nodesOf_any op m k A c 37 #[] _)).mono ?_⟩
  rintro e w1 ⟨rfl, rfl⟩
  gi_wp2_with fail
  obtain ⟨W0, hW0⟩ : ∃ W0, W0 = ((((w.alloc (Obj.cells #[Value.int .i64 op, Value.int .i64 m, Value.slice A k.len c] 25)).alloc (Obj.cells #[.bool false, .bool false, .bool false, .bool false, .bool false, .bool false, .bool false, .bool false] 60)).alloc (Obj.cells #[Value.int .i64 op, Value.int .i64 m, Value.slice A k.len c] 25)).alloc (Obj.cells #[Value.func (.func 37) #[] #[]] 45)) := ⟨_, rfl⟩
  rw [← hW0]
  have hz0 : W0.heap.size = w.heap.size + 1 + 1 + 1 + 1 := by rw [hW0]; simp
  have hb0 : Below w.heap.size w W0 := by
    rw [hW0]
    exact ((((Below.refl _ _).alloc (Nat.le_refl _) _).alloc (by simp) _).alloc (by simp; omega) _).alloc (by simp; omega) _
  have rn : Row W0 (w.heap.size + 1) 60 (cells8 (seenQ ownVL [])) := by
    rw [hW0]
    have := Row.fresh (w.alloc (Obj.cells #[Value.int .i64 op, Value.int .i64 m, Value.slice A k.len c] 25)) 60 (cells8 (seenQ ownVL []))
    rw [World.size_alloc] at this
    exact (this.alloc _).alloc _
  have r1 : Row W0 (w.heap.size + 1 + 1) 25 #[Value.int .i64 op, Value.int .i64 m, Value.slice A k.len c] := by
    rw [hW0]
    have := Row.fresh ((w.alloc (Obj.cells #[Value.int .i64 op, Value.int .i64 m, Value.slice A k.len c] 25)).alloc (Obj.cells #[.bool false, .bool false, .bool false, .bool false, .bool false, .bool false, .bool false, .bool false] 60)) 25 #[Value.int .i64 op, Value.int .i64 m, Value.slice A k.len c]
    simp only [World.size_alloc] at this
    exact this.alloc _
  have r2 : Row W0 (w.heap.size + 1 + 1 + 1) 45 #[Value.func (.func 37) #[] #[]] := by
    rw [hW0]
    have := Row.fresh (((w.alloc (Obj.cells #[Value.int .i64 op, Value.int .i64 m, Value.slice A k.len c] 25)).alloc (Obj.cells #[.bool false, .bool false, .bool false, .bool false, .bool false, .bool false, .bool false, .bool false] 60)).alloc (Obj.cells #[Value.int .i64 op, Value.int .i64 m, Value.slice A k.len c] 25)) 45 #[Value.func (.func 37) #[] #[]]
    simp only [World.size_alloc] at this
    exact this
  clear hW0
  refine range_own (X := fun g => g = w.heap.size + 1) rfl (by omega) (gf := 53) (lb := #[.pointer (some ⟨w.heap.size + 1 + 1, 0, none⟩), .pointer (some ⟨w.heap.size + 1 + 1 + 1, 0, none⟩)]) rfl trivial (enters_of Try.func53 (by kernel_rfl) rfl)
    (nodes_seqR 8 (fun _ _ => false) op m k A c L B (w.heap.size + 1 + 1) (w.heap.size + 1 + 1 + 1) 37 #[] (fun g => g = w.heap.size + 1) W0 (fun g hg => by omega) (by omega) (by omega) (fun g _ h2 => by omega) r1 (r2.cell (i := 0) rfl)
      (hl.below (hb0.mono hB)) (Nat.le_trans hB hb0.size) (hal.below hb0 hB) hk1 hk2 hsz (enters_of Try.func37 (by kernel_rfl) rfl) (fun x i V _ => hideNone_any x.op x.n _ i V))
    (Below.refl _ _) (fun _ => rfl)
    (fun pre W => Row W (w.heap.size + 1) 60 (cells8 (seenQ ownVL (pre.map Nx.nd))) ∧ Below w.heap.size w W) (fun _ _ _ => False)
    (fun s V V' ⟨x1, x2⟩ hb => ⟨x1.below hb (by omega), x2.trans (hb.mono (by omega))⟩) (fun _ _ _ _ hf _ => hf) ⟨rn, hb0⟩
    (fun y a' V => ∃ Bx, W0.heap.size ≤ Bx ∧ Row V Bx 25 #[Value.int .i64 y.op, Value.int .i64 y.n, Value.slice y.A y.k.len y.c] ∧ a' = { tmps := #[.agg #[.int .i64 op, .int .i64 m, .slice A k.len c], .pointer (some ⟨w.heap.size, 0, none⟩), .slice none 0 0, .pointer (some ⟨w.heap.size + 1, 0, none⟩),
      .pointer (some ⟨Bx, 0, none⟩), .agg #[.int .i64 op, .int .i64 m, .slice A k.len c],
      .func (.func 53) #[] #[.pointer (some ⟨w.heap.size + 1 + 1, 0, none⟩), .pointer (some ⟨w.heap.size + 1 + 1 + 1, 0, none⟩)], y.val, undef, undef, undef, undef, undef, undef, undef, undef, undef, undef, undef, undef, undef], defers := [] })
    (fun y a' V V' ⟨Bx, h1, h2, h3⟩ hk => ⟨Bx, h1, hk.row h2 (by omega), h3⟩) ?assign ?body ?done ?stop
  case assign =>
    intro l pre y W K hsW hi hK
    unfold Nx.val
    gi_wp2
    exact hK _ _ ((Below.refl _ _).alloc (Nat.le_refl _) _) ⟨W.heap.size, by omega, Row.fresh _ _ _, rfl⟩
  case body =>
    rintro l pre y a' W _ ⟨hr, hb⟩ ⟨Bx, hBx, hrx, rfl⟩ hlen
    have y0 := hrx.cell (i := 0) rfl
    have y1 := hrx.cell (i := 1) rfl
    have hsn := seenQ_snoc ownVL (pre.map Nx.nd) y.nd
    by_cases h3 : y.op = 2 ∨ y.op = 7
    · have hcc : cells8 (seenQ ownVL ((pre ++ [y]).map Nx.nd)) = cells8 (addS (seenQ ownVL (pre.map Nx.nd)) y.n) := by
        refine cells8_congr fun i hi => ?_
        rw [List.map_append, List.map_singleton, hsn]
        unfold addS
        congr 1
        unfold ownVL Nx.nd
        rw [Bool.eq_iff_iff]
        simp
        omega
      have HCC := Lib.hid hcc
      have HA := Lib.hid (add_any (w.heap.size + 1) (seenQ ownVL (pre.map Nx.nd)) y.n W hr)
      have HBB := Lib.hid hb
      have HSW := Lib.hid (show w.heap.size + 1 < W.heap.size from hr.size)
      clear hcc hsn hr hb
      rcases h3 with h3 | h3
      · gi_wp2_with fail
        refine ⟨trivial, (CallsIn.inRound l (callsIn_wide.2 HA.out)).mono ?_⟩
        rintro e w2 ⟨rfl, hr2, hon2⟩
        have HR2 := Lib.hid hr2
        have HB2 := Lib.hid (HBB.out.trans ((hon2.mono (B' := w.heap.size) (by have := HSW.out; omega)).below (by omega)))
        have HK2 := Lib.hid (KC.of_only hon2)
        have HF2 := Lib.hid (KeepsFrom.of_only (B := W0.heap.size) hon2 (by omega))
        clear hr2 hon2 y0 y1 HA HBB
        gi_wp2_with fail
        exact ⟨HF2.out, HK2.out, by rw [HCC.out]; exact HR2.out, HB2.out⟩
      · gi_wp2_with fail
        refine ⟨trivial, (CallsIn.inRound l (callsIn_wide.2 HA.out)).mono ?_⟩
        rintro e w2 ⟨rfl, hr2, hon2⟩
        have HR2 := Lib.hid hr2
        have HB2 := Lib.hid (HBB.out.trans ((hon2.mono (B' := w.heap.size) (by have := HSW.out; omega)).below (by omega)))
        have HK2 := Lib.hid (KC.of_only hon2)
        have HF2 := Lib.hid (KeepsFrom.of_only (B := W0.heap.size) hon2 (by omega))
        clear hr2 hon2 y0 y1 HA HBB
        gi_wp2_with fail
        exact ⟨HF2.out, HK2.out, by rw [HCC.out]; exact HR2.out, HB2.out⟩
    · have hcg : cells8 (seenQ ownVL ((pre ++ [y]).map Nx.nd)) = cells8 (seenQ ownVL (pre.map Nx.nd)) := by
        refine cells8_congr fun i _ => ?_
        rw [List.map_append, List.map_singleton, hsn]
        have : ownVL y.op y.n i = false := by unfold ownVL; rw [Bool.eq_false_iff]; simp; omega
        simp [Nx.nd, this]
      have HCG := Lib.hid hcg
      have HR := Lib.hid hr
      have h4_2 : (y.op == 2) = false := by simp; omega
      have h4_7 : (y.op == 7) = false := by simp; omega
      clear hcg hsn hr
      gi_wp2_with fail
      exact ⟨KeepsFrom.refl _ _, KC.refl _ _, by rw [HCG.out]; exact HR.out, hb⟩
  case done =>
    rintro D ys W hD hS ⟨hr, hb⟩ hK
    have hcg : cells8 (seenQ ownVL (ys.map Nx.nd)) = cells8 (hasB ownVL ⟨op, m, k⟩) := by
      rw [hS]
      exact cells8_congr fun i _ => has_ordN ownVL i _
    rw [hcg] at hr
    obtain ⟨S, hS2⟩ : ∃ S, S = hasB ownVL ⟨op, m, k⟩ := ⟨_, rfl⟩
    rw [← hS2] at hr
    have HS2 := Lib.hid hS2
    clear hcg hS2
    have a0 := hr.cell (cells8_at S (show 0 < 8 by decide))
    have a1 := hr.cell (cells8_at S (show 1 < 8 by decide))
    have a2 := hr.cell (cells8_at S (show 2 < 8 by decide))
    have a3 := hr.cell (cells8_at S (show 3 < 8 by decide))
    have a4 := hr.cell (cells8_at S (show 4 < 8 by decide))
    have a5 := hr.cell (cells8_at S (show 5 < 8 by decide))
    have a6 := hr.cell (cells8_at S (show 6 < 8 by decide))
    have a7 := hr.cell (cells8_at S (show 7 < 8 by decide))
    have hwW := hb.size
    gi_wp2_with fail
    refine ⟨trivial, (callsIn_wide.2 (list_any S W)).mono ?_⟩
    rintro e w2 ⟨v2, rfl, hown2, hb2⟩
    have hKD : w2.heap[D]? = some (.deferred (some [])) := (hb2.block D (Array.getElem?_eq_some_iff.1 hK).1).trans hK
    have hown3 := own_less hown2 hwW
    have hbwr := hb.trans (hb2.mono hwW)
    clear hown2 hb2 hr hK a0 a1 a2 a3 a4 a5 a6 a7
    gi_wp2
    refine ⟨by simp, .inl ⟨_, _, rfl, run_takeDeferred hKD, ?_⟩⟩
    refine ⟨_, results_tmp rfl _ _ _, _, rfl, ?_, hbwr.trans (below_put _ hKD (by omega))⟩
    rw [← HS2.out]
    exact ownsRow_putObj hown3 _ hKD rfl
  case stop =>
    rintro D c pre W _ _ h _
    exact h.elim
theorem implAll_any (op m : Int) (k : Fo) (A : Option Addr) (c L B : Nat) (w : World) (hl : Lies w L B A 0 k) (hB : B ≤ w.heap.size) (hal : AllRows w L B) (hk1 : k.len ≤ c) (hk2 : c ≤ maxLen) (hsz : k.size ≤ 1048576) :
    Calls Try.prog 17 #[.agg #[.int .i64 op, .int .i64 m, .slice A k.len c]] w (ListPost (numsUpto (hasB ownVL ⟨op, m, k⟩) 8) w) :=
  implAll_r op m k A c L B w hl hB (.of hl hal) hk1 hk2 hsz
end Go.Proofs.Ytkdjjkkcejijnaa
