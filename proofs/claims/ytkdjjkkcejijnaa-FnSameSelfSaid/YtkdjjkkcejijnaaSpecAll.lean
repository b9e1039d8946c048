/-
  spec.AllVars.
-/
import Derived.Test.YtkdjjkkcejijnaaFresh
import Derived.Test.YtkdjjkkcejijnaaFo
namespace Go.Proofs.Ytkdjjkkcejijnaa
open Go.RowKit Go.Shelf
set_option maxRecDepth 100000

set_option maxHeartbeats 2000000 in
theorem l4All_any (m g L B : Nat) : ∀ (op n : Int) (k : Fo) (A : Option Addr) (c : Nat) (w : World) (S : Nat → Bool), k.size = m → Lies w L B A 0 k → B ≤ w.heap.size → (g < L ∨ B ≤ g) → Row w g 4 (cells8 S) → k.size ≤ 1048576 →
    Calls Try.prog 41 #[.slice (some ⟨g, 0, none⟩) 8 8, .agg #[.int .i64 op, .int .i64 n, .slice A k.len c]] w fun e w' =>
      e = .returned (.slice (some ⟨g, 0, none⟩) 8 8) ∧ Row w' g 4 (cells8 (fun i => S i || hasB ownVL ⟨op, n, k⟩ i)) ∧ Only g w.heap.size w w' := by
  induction m using Nat.strongRecOn with
  | _ m ih =>
    intro op n k A c w S hm hl hB hg hrow hsz
    have hlen := Fo.len_le_size k
    have hgz := hrow.size
    by_cases hop : (op = 2 ∨ op = 7) ∧ 0 ≤ n ∧ n < 8
    · obtain ⟨hop, hn0, hn8⟩ := hop
      obtain ⟨v, rfl⟩ : ∃ v : Nat, n = (v : Int) := ⟨n.toNat, by omega⟩
      have hv8 : v < 8 := by omega
      rcases hop with rfl|rfl
      · have qv := hrow.cell (cells8_at S hv8)
        have fv := hrow.free v
        obtain ⟨T, hTd⟩ : ∃ T : Nat → Bool, T = fun i => S i || decide (i = v) := ⟨_, rfl⟩
        have hT : ∀ i, i < 8 → (S i || hasB ownVL ⟨2, (v : Int), k⟩ i) = (T i || hasF ownVL k i) := by
          intro i _
          have : ownVL 2 (v : Int) i = decide (i = v) := by unfold ownVL; rw [Bool.eq_iff_iff]; simp; omega
          rw [hTd]
          simp only [hasB, this, Bool.or_assoc]
        have HT := Lib.hid hT
        clear hT
        have hw : (w.setCell ⟨g, v, none⟩ (.bool true)).heap.size = w.heap.size := by simp [World.setCell]
        have hrow1 := (hrow.put v (.bool true)).alloc (Obj.cells #[Value.int IntKind.i64 2, Value.int IntKind.i64 (v : Int), Value.slice A k.len c] 25)
        rw [cells8_set S hv8, ← hTd] at hrow1
        have hon1 : Only g w.heap.size w ((w.setCell ⟨g, v, none⟩ (.bool true)).alloc (Obj.cells #[Value.int IntKind.i64 2, Value.int IntKind.i64 (v : Int), Value.slice A k.len c] 25)) := ((Only.refl _ _ _).set (.inl rfl) _).alloc (Nat.le_of_eq hw.symm) _
        have hr1 : Row ((w.setCell ⟨g, v, none⟩ (.bool true)).alloc (Obj.cells #[Value.int IntKind.i64 2, Value.int IntKind.i64 (v : Int), Value.slice A k.len c] 25)) w.heap.size 25 #[Value.int IntKind.i64 2, Value.int IntKind.i64 (v : Int), Value.slice A k.len c] := by
          have := Row.fresh (w.setCell ⟨g, v, none⟩ (.bool true)) 25 #[Value.int IntKind.i64 2, Value.int IntKind.i64 (v : Int), Value.slice A k.len c]
          rw [hw] at this
          exact this
        have hs1 : w.heap.size + 1 ≤ ((w.setCell ⟨g, v, none⟩ (.bool true)).alloc (Obj.cells #[Value.int IntKind.i64 2, Value.int IntKind.i64 (v : Int), Value.slice A k.len c] 25)).heap.size := by rw [World.size_alloc, hw]; exact Nat.le_refl _
        have HON := Lib.hid hon1
        have HR := Lib.hid hr1
        have HROW := Lib.hid hrow1
        have HSZ := Lib.hid hs1
        clear hon1 hr1 hrow1 hs1 hTd hw hrow
        go_enter Try.func41, Try.ntmps41
        go_wp2_with fail
        clear qv fv
        generalize (w.setCell ⟨g, v, none⟩ (.bool true)).alloc (Obj.cells #[Value.int IntKind.i64 2, Value.int IntKind.i64 (v : Int), Value.slice A k.len c] 25) = w1 at *
        go_loopw [0, 5] (fun s i wr => ∃ (j : Nat), j ≤ k.len ∧ i = .int .i64 j ∧ s = .slice (some ⟨g, 0, none⟩) 8 8 ∧ Row wr w.heap.size 25 #[Value.int IntKind.i64 2, Value.int IntKind.i64 (v : Int), Value.slice A k.len c] ∧
            (∃ U : Nat → Bool, Row wr g 4 (cells8 U) ∧ ∀ i, i < 8 → (T i || hasF ownVL k i) = (U i || hasF ownVL (k.drop j) i)) ∧ Only g w.heap.size w wr ∧ w.heap.size + 1 ≤ wr.heap.size)
          (fun _ i _ => k.len - (intOf i).toNat)
        case atStart => exact ⟨0, Nat.zero_le _, rfl, rfl, HR.out, ⟨T, HROW.out, fun i _ => by rw [Fo.drop_zero]⟩, HON.out, HSZ.out⟩
        case round =>
          clear HON HR HROW HSZ
          obtain ⟨j, hj, rfl, rfl, hrE, ⟨U, hrU, hU⟩, hon, hszr⟩ := hrel
          have q2 := hrE.cell (i := 2) rfl
          have HU := Lib.hid hU
          clear hU
          by_cases hlt : j < k.len
          · obtain ⟨op', n', k', e1, e2, e3⟩ := Fo.drop_of_lt k j hlt
            have hj' := (hl.only hon hB hg).at_ j
            rw [Nat.zero_add, e1] at hj'
            obtain ⟨⟨b, o, A', c', hA, hb1, hb2, i1, i2, g1, g2, g3, h1, h2, h3⟩, _⟩ := hj'
            subst hA
            have HE := Lib.hid e1
            have HC := Lib.hid (ih k'.size (by omega) op' n' k' A' c' wr U rfl h3 (by omega) hg hrU (by omega))
            have HRE := Lib.hid hrE
            have HONr := Lib.hid hon
            clear hrE hrU hon e1 h3 ih hl
            go_wp2_with fail
            refine HC.out.mono ?_
            rintro e w2 ⟨rfl, hrow2, hon2⟩
            have HRE2 := Lib.hid (HRE.out.only hon2 (by omega) (by omega))
            have HON2 := Lib.hid (HONr.out.trans (hon2.mono (by omega)))
            have HS2 := Lib.hid (Nat.le_trans hszr hon2.size)
            have HU2 : ∀ i, i < 8 → (T i || hasF ownVL k i) = ((U i || hasB ownVL ⟨op', n', k'⟩ i) || hasF ownVL (k.drop (j + 1)) i) := fun i hi => by
              rw [HU.out i hi, hasF_cons HE.out, Bool.or_assoc]
            have HUU := Lib.hid HU2
            have HROW2 := Lib.hid hrow2
            clear hrow2 hon2 HU2 q2 g1 g2 g3 HC HRE HONr
            go_wp2_with fail
            go_roundw
            case rel => exact ⟨j + 1, hlt, by go_num, rfl, HRE2.out, ⟨_, HROW2.out, HUU.out⟩, HON2.out, HS2.out⟩
            case measure => simp [intOf]; omega
          · have e9 : j = k.len := by omega
            have hfin : ∀ i, i < 8 → (U i) = (S i || hasB ownVL ⟨2, (v : Int), k⟩ i) := fun i hi => by
              rw [HT.out i hi, HU.out i hi, e9, Fo.drop_len]
              simp [hasF]
            have HF := Lib.hid hfin
            clear hfin
            go_wp2
            go_ret
            exact ⟨rfl, by rw [← cells8_congr (fun i hi => HF.out i hi)]; exact hrU, hon⟩
      · have qv := hrow.cell (cells8_at S hv8)
        have fv := hrow.free v
        obtain ⟨T, hTd⟩ : ∃ T : Nat → Bool, T = fun i => S i || decide (i = v) := ⟨_, rfl⟩
        have hT : ∀ i, i < 8 → (S i || hasB ownVL ⟨7, (v : Int), k⟩ i) = (T i || hasF ownVL k i) := by
          intro i _
          have : ownVL 7 (v : Int) i = decide (i = v) := by unfold ownVL; rw [Bool.eq_iff_iff]; simp; omega
          rw [hTd]
          simp only [hasB, this, Bool.or_assoc]
        have HT := Lib.hid hT
        clear hT
        have hw : (w.setCell ⟨g, v, none⟩ (.bool true)).heap.size = w.heap.size := by simp [World.setCell]
        have hrow1 := (hrow.put v (.bool true)).alloc (Obj.cells #[Value.int IntKind.i64 7, Value.int IntKind.i64 (v : Int), Value.slice A k.len c] 25)
        rw [cells8_set S hv8, ← hTd] at hrow1
        have hon1 : Only g w.heap.size w ((w.setCell ⟨g, v, none⟩ (.bool true)).alloc (Obj.cells #[Value.int IntKind.i64 7, Value.int IntKind.i64 (v : Int), Value.slice A k.len c] 25)) := ((Only.refl _ _ _).set (.inl rfl) _).alloc (Nat.le_of_eq hw.symm) _
        have hr1 : Row ((w.setCell ⟨g, v, none⟩ (.bool true)).alloc (Obj.cells #[Value.int IntKind.i64 7, Value.int IntKind.i64 (v : Int), Value.slice A k.len c] 25)) w.heap.size 25 #[Value.int IntKind.i64 7, Value.int IntKind.i64 (v : Int), Value.slice A k.len c] := by
          have := Row.fresh (w.setCell ⟨g, v, none⟩ (.bool true)) 25 #[Value.int IntKind.i64 7, Value.int IntKind.i64 (v : Int), Value.slice A k.len c]
          rw [hw] at this
          exact this
        have hs1 : w.heap.size + 1 ≤ ((w.setCell ⟨g, v, none⟩ (.bool true)).alloc (Obj.cells #[Value.int IntKind.i64 7, Value.int IntKind.i64 (v : Int), Value.slice A k.len c] 25)).heap.size := by rw [World.size_alloc, hw]; exact Nat.le_refl _
        have HON := Lib.hid hon1
        have HR := Lib.hid hr1
        have HROW := Lib.hid hrow1
        have HSZ := Lib.hid hs1
        clear hon1 hr1 hrow1 hs1 hTd hw hrow
        go_enter Try.func41, Try.ntmps41
        go_wp2_with fail
        clear qv fv
        generalize (w.setCell ⟨g, v, none⟩ (.bool true)).alloc (Obj.cells #[Value.int IntKind.i64 7, Value.int IntKind.i64 (v : Int), Value.slice A k.len c] 25) = w1 at *
        go_loopw [0, 5] (fun s i wr => ∃ (j : Nat), j ≤ k.len ∧ i = .int .i64 j ∧ s = .slice (some ⟨g, 0, none⟩) 8 8 ∧ Row wr w.heap.size 25 #[Value.int IntKind.i64 7, Value.int IntKind.i64 (v : Int), Value.slice A k.len c] ∧
            (∃ U : Nat → Bool, Row wr g 4 (cells8 U) ∧ ∀ i, i < 8 → (T i || hasF ownVL k i) = (U i || hasF ownVL (k.drop j) i)) ∧ Only g w.heap.size w wr ∧ w.heap.size + 1 ≤ wr.heap.size)
          (fun _ i _ => k.len - (intOf i).toNat)
        case atStart => exact ⟨0, Nat.zero_le _, rfl, rfl, HR.out, ⟨T, HROW.out, fun i _ => by rw [Fo.drop_zero]⟩, HON.out, HSZ.out⟩
        case round =>
          clear HON HR HROW HSZ
          obtain ⟨j, hj, rfl, rfl, hrE, ⟨U, hrU, hU⟩, hon, hszr⟩ := hrel
          have q2 := hrE.cell (i := 2) rfl
          have HU := Lib.hid hU
          clear hU
          by_cases hlt : j < k.len
          · obtain ⟨op', n', k', e1, e2, e3⟩ := Fo.drop_of_lt k j hlt
            have hj' := (hl.only hon hB hg).at_ j
            rw [Nat.zero_add, e1] at hj'
            obtain ⟨⟨b, o, A', c', hA, hb1, hb2, i1, i2, g1, g2, g3, h1, h2, h3⟩, _⟩ := hj'
            subst hA
            have HE := Lib.hid e1
            have HC := Lib.hid (ih k'.size (by omega) op' n' k' A' c' wr U rfl h3 (by omega) hg hrU (by omega))
            have HRE := Lib.hid hrE
            have HONr := Lib.hid hon
            clear hrE hrU hon e1 h3 ih hl
            go_wp2_with fail
            refine HC.out.mono ?_
            rintro e w2 ⟨rfl, hrow2, hon2⟩
            have HRE2 := Lib.hid (HRE.out.only hon2 (by omega) (by omega))
            have HON2 := Lib.hid (HONr.out.trans (hon2.mono (by omega)))
            have HS2 := Lib.hid (Nat.le_trans hszr hon2.size)
            have HU2 : ∀ i, i < 8 → (T i || hasF ownVL k i) = ((U i || hasB ownVL ⟨op', n', k'⟩ i) || hasF ownVL (k.drop (j + 1)) i) := fun i hi => by
              rw [HU.out i hi, hasF_cons HE.out, Bool.or_assoc]
            have HUU := Lib.hid HU2
            have HROW2 := Lib.hid hrow2
            clear hrow2 hon2 HU2 q2 g1 g2 g3 HC HRE HONr
            go_wp2_with fail
            go_roundw
            case rel => exact ⟨j + 1, hlt, by go_num, rfl, HRE2.out, ⟨_, HROW2.out, HUU.out⟩, HON2.out, HS2.out⟩
            case measure => simp [intOf]; omega
          · have e9 : j = k.len := by omega
            have hfin : ∀ i, i < 8 → (U i) = (S i || hasB ownVL ⟨7, (v : Int), k⟩ i) := fun i hi => by
              rw [HT.out i hi, HU.out i hi, e9, Fo.drop_len]
              simp [hasF]
            have HF := Lib.hid hfin
            clear hfin
            go_wp2
            go_ret
            exact ⟨rfl, by rw [← cells8_congr (fun i hi => HF.out i hi)]; exact hrU, hon⟩
    · obtain ⟨T, hTd⟩ : ∃ T : Nat → Bool, T = S := ⟨_, rfl⟩
      have hT : ∀ i, i < 8 → (S i || hasB ownVL ⟨op, n, k⟩ i) = (T i || hasF ownVL k i) := by
        intro i hi
        have : ownVL op n i = false := by unfold ownVL; rw [Bool.eq_false_iff]; simp; omega
        rw [hTd]
        simp [hasB, this]
      have HT := Lib.hid hT
      clear hT
      have hrow1 := hrow.alloc (Obj.cells #[Value.int IntKind.i64 op, Value.int IntKind.i64 n, Value.slice A k.len c] 25)
      rw [← hTd] at hrow1
      have hon1 : Only g w.heap.size w (w.alloc (Obj.cells #[Value.int IntKind.i64 op, Value.int IntKind.i64 n, Value.slice A k.len c] 25)) := (Only.refl _ _ _).alloc (Nat.le_refl _) _
      have hr1 := Row.fresh w 25 #[Value.int IntKind.i64 op, Value.int IntKind.i64 n, Value.slice A k.len c]
      have hs1 : w.heap.size + 1 ≤ (w.alloc (Obj.cells #[Value.int IntKind.i64 op, Value.int IntKind.i64 n, Value.slice A k.len c] 25)).heap.size := by simp
      have HON := Lib.hid hon1
      have HR := Lib.hid hr1
      have HROW := Lib.hid hrow1
      have HSZ := Lib.hid hs1
      clear hon1 hr1 hrow1 hs1 hTd hrow
      by_cases ho2 : op = 2
      · subst ho2
        by_cases hn0 : 0 ≤ n
        · have hn8 : 8 ≤ n := by omega
          clear hop
          go_enter Try.func41, Try.ntmps41
          go_wp2_with fail
          generalize w.alloc (Obj.cells #[Value.int IntKind.i64 2, Value.int IntKind.i64 n, Value.slice A k.len c] 25) = w1 at *
          go_loopw [0, 5] (fun s i wr => ∃ (j : Nat), j ≤ k.len ∧ i = .int .i64 j ∧ s = .slice (some ⟨g, 0, none⟩) 8 8 ∧ Row wr w.heap.size 25 #[Value.int IntKind.i64 2, Value.int IntKind.i64 n, Value.slice A k.len c] ∧
              (∃ U : Nat → Bool, Row wr g 4 (cells8 U) ∧ ∀ i, i < 8 → (T i || hasF ownVL k i) = (U i || hasF ownVL (k.drop j) i)) ∧ Only g w.heap.size w wr ∧ w.heap.size + 1 ≤ wr.heap.size)
            (fun _ i _ => k.len - (intOf i).toNat)
          case atStart => exact ⟨0, Nat.zero_le _, rfl, rfl, HR.out, ⟨T, HROW.out, fun i _ => by rw [Fo.drop_zero]⟩, HON.out, HSZ.out⟩
          case round =>
            clear HON HR HROW HSZ
            obtain ⟨j, hj, rfl, rfl, hrE, ⟨U, hrU, hU⟩, hon, hszr⟩ := hrel
            have q2 := hrE.cell (i := 2) rfl
            have HU := Lib.hid hU
            clear hU
            by_cases hlt : j < k.len
            · obtain ⟨op', n', k', e1, e2, e3⟩ := Fo.drop_of_lt k j hlt
              have hj' := (hl.only hon hB hg).at_ j
              rw [Nat.zero_add, e1] at hj'
              obtain ⟨⟨b, o, A', c', hA, hb1, hb2, i1, i2, g1, g2, g3, h1, h2, h3⟩, _⟩ := hj'
              subst hA
              have HE := Lib.hid e1
              have HC := Lib.hid (ih k'.size (by omega) op' n' k' A' c' wr U rfl h3 (by omega) hg hrU (by omega))
              have HRE := Lib.hid hrE
              have HONr := Lib.hid hon
              clear hrE hrU hon e1 h3 ih hl
              go_wp2_with fail
              refine HC.out.mono ?_
              rintro e w2 ⟨rfl, hrow2, hon2⟩
              have HRE2 := Lib.hid (HRE.out.only hon2 (by omega) (by omega))
              have HON2 := Lib.hid (HONr.out.trans (hon2.mono (by omega)))
              have HS2 := Lib.hid (Nat.le_trans hszr hon2.size)
              have HU2 : ∀ i, i < 8 → (T i || hasF ownVL k i) = ((U i || hasB ownVL ⟨op', n', k'⟩ i) || hasF ownVL (k.drop (j + 1)) i) := fun i hi => by
                rw [HU.out i hi, hasF_cons HE.out, Bool.or_assoc]
              have HUU := Lib.hid HU2
              have HROW2 := Lib.hid hrow2
              clear hrow2 hon2 HU2 q2 g1 g2 g3 HC HRE HONr
              go_wp2_with fail
              go_roundw
              case rel => exact ⟨j + 1, hlt, by go_num, rfl, HRE2.out, ⟨_, HROW2.out, HUU.out⟩, HON2.out, HS2.out⟩
              case measure => simp [intOf]; omega
            · have e9 : j = k.len := by omega
              have hfin : ∀ i, i < 8 → (U i) = (S i || hasB ownVL ⟨2, n, k⟩ i) := fun i hi => by
                rw [HT.out i hi, HU.out i hi, e9, Fo.drop_len]
                simp [hasF]
              have HF := Lib.hid hfin
              clear hfin
              go_wp2
              go_ret
              exact ⟨rfl, by rw [← cells8_congr (fun i hi => HF.out i hi)]; exact hrU, hon⟩
        · have hn9 : n < 0 := by omega
          clear hop
          go_enter Try.func41, Try.ntmps41
          go_wp2_with fail
          generalize w.alloc (Obj.cells #[Value.int IntKind.i64 2, Value.int IntKind.i64 n, Value.slice A k.len c] 25) = w1 at *
          go_loopw [0, 5] (fun s i wr => ∃ (j : Nat), j ≤ k.len ∧ i = .int .i64 j ∧ s = .slice (some ⟨g, 0, none⟩) 8 8 ∧ Row wr w.heap.size 25 #[Value.int IntKind.i64 2, Value.int IntKind.i64 n, Value.slice A k.len c] ∧
              (∃ U : Nat → Bool, Row wr g 4 (cells8 U) ∧ ∀ i, i < 8 → (T i || hasF ownVL k i) = (U i || hasF ownVL (k.drop j) i)) ∧ Only g w.heap.size w wr ∧ w.heap.size + 1 ≤ wr.heap.size)
            (fun _ i _ => k.len - (intOf i).toNat)
          case atStart => exact ⟨0, Nat.zero_le _, rfl, rfl, HR.out, ⟨T, HROW.out, fun i _ => by rw [Fo.drop_zero]⟩, HON.out, HSZ.out⟩
          case round =>
            clear HON HR HROW HSZ
            obtain ⟨j, hj, rfl, rfl, hrE, ⟨U, hrU, hU⟩, hon, hszr⟩ := hrel
            have q2 := hrE.cell (i := 2) rfl
            have HU := Lib.hid hU
            clear hU
            by_cases hlt : j < k.len
            · obtain ⟨op', n', k', e1, e2, e3⟩ := Fo.drop_of_lt k j hlt
              have hj' := (hl.only hon hB hg).at_ j
              rw [Nat.zero_add, e1] at hj'
              obtain ⟨⟨b, o, A', c', hA, hb1, hb2, i1, i2, g1, g2, g3, h1, h2, h3⟩, _⟩ := hj'
              subst hA
              have HE := Lib.hid e1
              have HC := Lib.hid (ih k'.size (by omega) op' n' k' A' c' wr U rfl h3 (by omega) hg hrU (by omega))
              have HRE := Lib.hid hrE
              have HONr := Lib.hid hon
              clear hrE hrU hon e1 h3 ih hl
              go_wp2_with fail
              refine HC.out.mono ?_
              rintro e w2 ⟨rfl, hrow2, hon2⟩
              have HRE2 := Lib.hid (HRE.out.only hon2 (by omega) (by omega))
              have HON2 := Lib.hid (HONr.out.trans (hon2.mono (by omega)))
              have HS2 := Lib.hid (Nat.le_trans hszr hon2.size)
              have HU2 : ∀ i, i < 8 → (T i || hasF ownVL k i) = ((U i || hasB ownVL ⟨op', n', k'⟩ i) || hasF ownVL (k.drop (j + 1)) i) := fun i hi => by
                rw [HU.out i hi, hasF_cons HE.out, Bool.or_assoc]
              have HUU := Lib.hid HU2
              have HROW2 := Lib.hid hrow2
              clear hrow2 hon2 HU2 q2 g1 g2 g3 HC HRE HONr
              go_wp2_with fail
              go_roundw
              case rel => exact ⟨j + 1, hlt, by go_num, rfl, HRE2.out, ⟨_, HROW2.out, HUU.out⟩, HON2.out, HS2.out⟩
              case measure => simp [intOf]; omega
            · have e9 : j = k.len := by omega
              have hfin : ∀ i, i < 8 → (U i) = (S i || hasB ownVL ⟨2, n, k⟩ i) := fun i hi => by
                rw [HT.out i hi, HU.out i hi, e9, Fo.drop_len]
                simp [hasF]
              have HF := Lib.hid hfin
              clear hfin
              go_wp2
              go_ret
              exact ⟨rfl, by rw [← cells8_congr (fun i hi => HF.out i hi)]; exact hrU, hon⟩
      · have hz2 := ho2
        by_cases ho7 : op = 7
        · subst ho7
          by_cases hn0 : 0 ≤ n
          · have hn8 : 8 ≤ n := by omega
            clear hop
            go_enter Try.func41, Try.ntmps41
            go_wp2_with fail
            generalize w.alloc (Obj.cells #[Value.int IntKind.i64 7, Value.int IntKind.i64 n, Value.slice A k.len c] 25) = w1 at *
            go_loopw [0, 5] (fun s i wr => ∃ (j : Nat), j ≤ k.len ∧ i = .int .i64 j ∧ s = .slice (some ⟨g, 0, none⟩) 8 8 ∧ Row wr w.heap.size 25 #[Value.int IntKind.i64 7, Value.int IntKind.i64 n, Value.slice A k.len c] ∧
                (∃ U : Nat → Bool, Row wr g 4 (cells8 U) ∧ ∀ i, i < 8 → (T i || hasF ownVL k i) = (U i || hasF ownVL (k.drop j) i)) ∧ Only g w.heap.size w wr ∧ w.heap.size + 1 ≤ wr.heap.size)
              (fun _ i _ => k.len - (intOf i).toNat)
            case atStart => exact ⟨0, Nat.zero_le _, rfl, rfl, HR.out, ⟨T, HROW.out, fun i _ => by rw [Fo.drop_zero]⟩, HON.out, HSZ.out⟩
            case round =>
              clear HON HR HROW HSZ
              obtain ⟨j, hj, rfl, rfl, hrE, ⟨U, hrU, hU⟩, hon, hszr⟩ := hrel
              have q2 := hrE.cell (i := 2) rfl
              have HU := Lib.hid hU
              clear hU
              by_cases hlt : j < k.len
              · obtain ⟨op', n', k', e1, e2, e3⟩ := Fo.drop_of_lt k j hlt
                have hj' := (hl.only hon hB hg).at_ j
                rw [Nat.zero_add, e1] at hj'
                obtain ⟨⟨b, o, A', c', hA, hb1, hb2, i1, i2, g1, g2, g3, h1, h2, h3⟩, _⟩ := hj'
                subst hA
                have HE := Lib.hid e1
                have HC := Lib.hid (ih k'.size (by omega) op' n' k' A' c' wr U rfl h3 (by omega) hg hrU (by omega))
                have HRE := Lib.hid hrE
                have HONr := Lib.hid hon
                clear hrE hrU hon e1 h3 ih hl
                go_wp2_with fail
                refine HC.out.mono ?_
                rintro e w2 ⟨rfl, hrow2, hon2⟩
                have HRE2 := Lib.hid (HRE.out.only hon2 (by omega) (by omega))
                have HON2 := Lib.hid (HONr.out.trans (hon2.mono (by omega)))
                have HS2 := Lib.hid (Nat.le_trans hszr hon2.size)
                have HU2 : ∀ i, i < 8 → (T i || hasF ownVL k i) = ((U i || hasB ownVL ⟨op', n', k'⟩ i) || hasF ownVL (k.drop (j + 1)) i) := fun i hi => by
                  rw [HU.out i hi, hasF_cons HE.out, Bool.or_assoc]
                have HUU := Lib.hid HU2
                have HROW2 := Lib.hid hrow2
                clear hrow2 hon2 HU2 q2 g1 g2 g3 HC HRE HONr
                go_wp2_with fail
                go_roundw
                case rel => exact ⟨j + 1, hlt, by go_num, rfl, HRE2.out, ⟨_, HROW2.out, HUU.out⟩, HON2.out, HS2.out⟩
                case measure => simp [intOf]; omega
              · have e9 : j = k.len := by omega
                have hfin : ∀ i, i < 8 → (U i) = (S i || hasB ownVL ⟨7, n, k⟩ i) := fun i hi => by
                  rw [HT.out i hi, HU.out i hi, e9, Fo.drop_len]
                  simp [hasF]
                have HF := Lib.hid hfin
                clear hfin
                go_wp2
                go_ret
                exact ⟨rfl, by rw [← cells8_congr (fun i hi => HF.out i hi)]; exact hrU, hon⟩
          · have hn9 : n < 0 := by omega
            clear hop
            go_enter Try.func41, Try.ntmps41
            go_wp2_with fail
            generalize w.alloc (Obj.cells #[Value.int IntKind.i64 7, Value.int IntKind.i64 n, Value.slice A k.len c] 25) = w1 at *
            go_loopw [0, 5] (fun s i wr => ∃ (j : Nat), j ≤ k.len ∧ i = .int .i64 j ∧ s = .slice (some ⟨g, 0, none⟩) 8 8 ∧ Row wr w.heap.size 25 #[Value.int IntKind.i64 7, Value.int IntKind.i64 n, Value.slice A k.len c] ∧
                (∃ U : Nat → Bool, Row wr g 4 (cells8 U) ∧ ∀ i, i < 8 → (T i || hasF ownVL k i) = (U i || hasF ownVL (k.drop j) i)) ∧ Only g w.heap.size w wr ∧ w.heap.size + 1 ≤ wr.heap.size)
              (fun _ i _ => k.len - (intOf i).toNat)
            case atStart => exact ⟨0, Nat.zero_le _, rfl, rfl, HR.out, ⟨T, HROW.out, fun i _ => by rw [Fo.drop_zero]⟩, HON.out, HSZ.out⟩
            case round =>
              clear HON HR HROW HSZ
              obtain ⟨j, hj, rfl, rfl, hrE, ⟨U, hrU, hU⟩, hon, hszr⟩ := hrel
              have q2 := hrE.cell (i := 2) rfl
              have HU := Lib.hid hU
              clear hU
              by_cases hlt : j < k.len
              · obtain ⟨op', n', k', e1, e2, e3⟩ := Fo.drop_of_lt k j hlt
                have hj' := (hl.only hon hB hg).at_ j
                rw [Nat.zero_add, e1] at hj'
                obtain ⟨⟨b, o, A', c', hA, hb1, hb2, i1, i2, g1, g2, g3, h1, h2, h3⟩, _⟩ := hj'
                subst hA
                have HE := Lib.hid e1
                have HC := Lib.hid (ih k'.size (by omega) op' n' k' A' c' wr U rfl h3 (by omega) hg hrU (by omega))
                have HRE := Lib.hid hrE
                have HONr := Lib.hid hon
                clear hrE hrU hon e1 h3 ih hl
                go_wp2_with fail
                refine HC.out.mono ?_
                rintro e w2 ⟨rfl, hrow2, hon2⟩
                have HRE2 := Lib.hid (HRE.out.only hon2 (by omega) (by omega))
                have HON2 := Lib.hid (HONr.out.trans (hon2.mono (by omega)))
                have HS2 := Lib.hid (Nat.le_trans hszr hon2.size)
                have HU2 : ∀ i, i < 8 → (T i || hasF ownVL k i) = ((U i || hasB ownVL ⟨op', n', k'⟩ i) || hasF ownVL (k.drop (j + 1)) i) := fun i hi => by
                  rw [HU.out i hi, hasF_cons HE.out, Bool.or_assoc]
                have HUU := Lib.hid HU2
                have HROW2 := Lib.hid hrow2
                clear hrow2 hon2 HU2 q2 g1 g2 g3 HC HRE HONr
                go_wp2_with fail
                go_roundw
                case rel => exact ⟨j + 1, hlt, by go_num, rfl, HRE2.out, ⟨_, HROW2.out, HUU.out⟩, HON2.out, HS2.out⟩
                case measure => simp [intOf]; omega
              · have e9 : j = k.len := by omega
                have hfin : ∀ i, i < 8 → (U i) = (S i || hasB ownVL ⟨7, n, k⟩ i) := fun i hi => by
                  rw [HT.out i hi, HU.out i hi, e9, Fo.drop_len]
                  simp [hasF]
                have HF := Lib.hid hfin
                clear hfin
                go_wp2
                go_ret
                exact ⟨rfl, by rw [← cells8_congr (fun i hi => HF.out i hi)]; exact hrU, hon⟩
        · clear hop
          go_enter Try.func41, Try.ntmps41
          go_wp2_with fail
          generalize w.alloc (Obj.cells #[Value.int IntKind.i64 op, Value.int IntKind.i64 n, Value.slice A k.len c] 25) = w1 at *
          go_loopw [0, 5] (fun s i wr => ∃ (j : Nat), j ≤ k.len ∧ i = .int .i64 j ∧ s = .slice (some ⟨g, 0, none⟩) 8 8 ∧ Row wr w.heap.size 25 #[Value.int IntKind.i64 op, Value.int IntKind.i64 n, Value.slice A k.len c] ∧
              (∃ U : Nat → Bool, Row wr g 4 (cells8 U) ∧ ∀ i, i < 8 → (T i || hasF ownVL k i) = (U i || hasF ownVL (k.drop j) i)) ∧ Only g w.heap.size w wr ∧ w.heap.size + 1 ≤ wr.heap.size)
            (fun _ i _ => k.len - (intOf i).toNat)
          case atStart => exact ⟨0, Nat.zero_le _, rfl, rfl, HR.out, ⟨T, HROW.out, fun i _ => by rw [Fo.drop_zero]⟩, HON.out, HSZ.out⟩
          case round =>
            clear HON HR HROW HSZ
            obtain ⟨j, hj, rfl, rfl, hrE, ⟨U, hrU, hU⟩, hon, hszr⟩ := hrel
            have q2 := hrE.cell (i := 2) rfl
            have HU := Lib.hid hU
            clear hU
            by_cases hlt : j < k.len
            · obtain ⟨op', n', k', e1, e2, e3⟩ := Fo.drop_of_lt k j hlt
              have hj' := (hl.only hon hB hg).at_ j
              rw [Nat.zero_add, e1] at hj'
              obtain ⟨⟨b, o, A', c', hA, hb1, hb2, i1, i2, g1, g2, g3, h1, h2, h3⟩, _⟩ := hj'
              subst hA
              have HE := Lib.hid e1
              have HC := Lib.hid (ih k'.size (by omega) op' n' k' A' c' wr U rfl h3 (by omega) hg hrU (by omega))
              have HRE := Lib.hid hrE
              have HONr := Lib.hid hon
              clear hrE hrU hon e1 h3 ih hl
              go_wp2_with fail
              refine HC.out.mono ?_
              rintro e w2 ⟨rfl, hrow2, hon2⟩
              have HRE2 := Lib.hid (HRE.out.only hon2 (by omega) (by omega))
              have HON2 := Lib.hid (HONr.out.trans (hon2.mono (by omega)))
              have HS2 := Lib.hid (Nat.le_trans hszr hon2.size)
              have HU2 : ∀ i, i < 8 → (T i || hasF ownVL k i) = ((U i || hasB ownVL ⟨op', n', k'⟩ i) || hasF ownVL (k.drop (j + 1)) i) := fun i hi => by
                rw [HU.out i hi, hasF_cons HE.out, Bool.or_assoc]
              have HUU := Lib.hid HU2
              have HROW2 := Lib.hid hrow2
              clear hrow2 hon2 HU2 q2 g1 g2 g3 HC HRE HONr
              go_wp2_with fail
              go_roundw
              case rel => exact ⟨j + 1, hlt, by go_num, rfl, HRE2.out, ⟨_, HROW2.out, HUU.out⟩, HON2.out, HS2.out⟩
              case measure => simp [intOf]; omega
            · have e9 : j = k.len := by omega
              have hfin : ∀ i, i < 8 → (U i) = (S i || hasB ownVL ⟨op, n, k⟩ i) := fun i hi => by
                rw [HT.out i hi, HU.out i hi, e9, Fo.drop_len]
                simp [hasF]
              have HF := Lib.hid hfin
              clear hfin
              go_wp2
              go_ret
              exact ⟨rfl, by rw [← cells8_congr (fun i hi => HF.out i hi)]; exact hrU, hon⟩

set_option maxHeartbeats 1000000 in
theorem specAll_any (op n : Int) (k : Fo) (A : Option Addr) (c : Nat) (w : World) (hl : Lies w 0 w.heap.size A 0 k) (hsz : k.size ≤ 1048576) :
    Calls Try.prog 18 #[.agg #[.int .i64 op, .int .i64 n, .slice A k.len c]] w (ListPost (numsUpto (hasB ownVL ⟨op, n, k⟩) 8) w) := by
  have hmk := madeF_run
  have hr0 := Row.fresh w 25 #[Value.int IntKind.i64 op, Value.int IntKind.i64 n, Value.slice A k.len c]
  have hb0 : Below w.heap.size w (w.alloc (Obj.cells #[Value.int IntKind.i64 op, Value.int IntKind.i64 n, Value.slice A k.len c] 25)) := (Below.refl _ _).alloc (Nat.le_refl _) _
  have q0 := hr0.cell (i := 0) rfl
  have q1 := hr0.cell (i := 1) rfl
  have q2 := hr0.cell (i := 2) rfl
  have p0 := (hr0.alloc (.cells (cells8 fun _ => false) 4)).cell (i := 0) rfl
  have p1 := (hr0.alloc (.cells (cells8 fun _ => false) 4)).cell (i := 1) rfl
  have p2 := (hr0.alloc (.cells (cells8 fun _ => false) 4)).cell (i := 2) rfl
  have hrow0 : Row ((w.alloc (Obj.cells #[Value.int IntKind.i64 op, Value.int IntKind.i64 n, Value.slice A k.len c] 25)).alloc (Obj.cells (cells8 fun _ => false) 4)).drew (w.heap.size + 1) 4 (cells8 fun _ => false) := by
    have := (Row.fresh (w.alloc (Obj.cells #[Value.int IntKind.i64 op, Value.int IntKind.i64 n, Value.slice A k.len c] 25)) 4 (cells8 fun _ => false)).drew
    rw [World.size_alloc] at this
    exact this
  have hb1 : Below w.heap.size w ((w.alloc (Obj.cells #[Value.int IntKind.i64 op, Value.int IntKind.i64 n, Value.slice A k.len c] 25)).alloc (Obj.cells (cells8 fun _ => false) 4)).drew := (hb0.alloc (by simp) _).drew
  have HB1 := Lib.hid hb1
  have hz1 : w.heap.size + 1 < ((w.alloc (Obj.cells #[Value.int IntKind.i64 op, Value.int IntKind.i64 n, Value.slice A k.len c] 25)).alloc (Obj.cells (cells8 fun _ => false) 4)).drew.heap.size := by simp
  have HZ1 := Lib.hid hz1
  have HC := Lib.hid (l4All_any k.size (w.heap.size + 1) 0 w.heap.size op n k A c _ (fun _ => false) rfl (hl.below hb1) hb1.size (.inr (Nat.le_succ _)) hrow0 hsz)
  clear hb0 hr0 hl hrow0 hb1 hz1
  go_enter Try.func18, Try.ntmps18
  go_wp2_with fail
  go_region_with (first
    | (go_at_call 40
       refine (l1Numbers_any (w.heap.size + 1) w5 _ hrow5).mono ?_
       rintro e w6 ⟨v6, rfl, hown6, hb6⟩)
    | (go_at_call 41
       refine HC.out.mono ?_
       rintro e w5 ⟨rfl, hrow5, hon5⟩))
  all_goals
    have hb5 : Below w.heap.size w w5 := HB1.out.trans ((hon5.mono (Nat.le_of_lt (Nat.lt_of_succ_lt HZ1.out))).below (Nat.le_succ _))
    have hcg : numsUpto (fun i => false || hasB ownVL ⟨op, n, k⟩ i) 8 = numsUpto (hasB ownVL ⟨op, n, k⟩) 8 := numsUpto_congr 8 (fun i _ => by simp)
    rw [hcg] at hown6
    have hown7 : w6.ownsRow w.heap.size 3 1 v6 (numsUpto (hasB ownVL ⟨op, n, k⟩) 8).length ((numsUpto (hasB ownVL ⟨op, n, k⟩) 8).map (Value.int .i64)) := own_less hown6 hb5.size
    have HO := Lib.hid hown7
    have HB := Lib.hid (hb5.trans (hb6.mono hb5.size))
    clear hown6 hown7 hrow5 hon5 hb5 hb6 hcg q0 q1 q2 p0 p1 p2 hmk HC HB1 HZ1
    go_wp2
    go_ret
    exact ⟨_, rfl, HO.out, HB.out⟩
end Go.Proofs.Ytkdjjkkcejijnaa
