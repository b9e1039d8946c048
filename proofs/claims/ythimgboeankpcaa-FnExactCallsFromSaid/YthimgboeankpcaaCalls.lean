/-
  CallsOf: the model and the program.
-/
import Derived.Test.YthimgboeankpcaaFlags
import Derived.Test.YthimgboeankpcaaNodesI
import Derived.Test.YthimgboeankpcaaOwn
import Derived.Test.YthimgboeankpcaaFo
import Derived.Test.YthimgboeankpcaaDe
import Derived.Maps.AppendAt
import Derived.Test.YthimgboeankpcaaHide
import Derived.Test.YthimgboeankpcaaVars
import Derived.Test.YthimgboeankpcaaSmall
import Derived.Deep.RegionWith
namespace Go.Proofs.Ythimgboeankpcaa
open Go.RowKit Go.Shelf
set_option maxRecDepth 100000

set_option maxHeartbeats 1000000 in
theorem l1Calls_any (m g L B : Nat) : ∀ (op n : Int) (k : Fo) (A : Option Addr) (c : Nat) (w : World) (S : Nat → Bool), k.size = m → Lies w L B A 0 k → B ≤ w.heap.size → (g < L ∨ B ≤ g) → Row w g 4 (cells8 S) → k.size ≤ 1048576 →
    Calls Try.prog 43 #[.slice (some ⟨g, 0, none⟩) 8 8, .agg #[.int .i64 op, .int .i64 n, .slice A k.len c]] w fun e w' =>
      e = .returned (.slice (some ⟨g, 0, none⟩) 8 8) ∧ Row w' g 4 (cells8 (fun i => S i || callB ⟨op, n, k⟩ i)) ∧ Only g w.heap.size w w' := by
  induction m using Nat.strongRecOn with
  | _ m ih =>
    intro op n k A c w S hm hl hB hg hrow hsz
    have hlen := Fo.len_le_size k
    have hgz := hrow.size
    by_cases hop : op = 3 ∧ 0 ≤ n ∧ n < 8
    · obtain ⟨rfl, hn0, hn8⟩ := hop
      obtain ⟨v, rfl⟩ : ∃ v : Nat, n = (v : Int) := ⟨n.toNat, by omega⟩
      have hv8 : v < 8 := by omega
      have qv := hrow.cell (cells8_at S hv8)
      have fv := hrow.free v
      obtain ⟨T, hTd⟩ : ∃ T : Nat → Bool, T = fun i => S i || decide (i = v) := ⟨_, rfl⟩
      have hT : ∀ i, i < 8 → (S i || callB ⟨3, (v : Int), k⟩ i) = (T i || callF k i) := by
        intro i _
        have : ownCall 3 (v : Int) i = decide (i = v) := by unfold ownCall; rw [Bool.eq_iff_iff]; simp; omega
        rw [hTd]
        simp only [callB, this, Bool.or_assoc]
      have HT := Lib.hid hT
      clear hT
      have hw : (w.setCell ⟨g, v, none⟩ (.bool true)).heap.size = w.heap.size := by simp [World.setCell]
      have hrow1 := (hrow.put v (.bool true)).alloc (Obj.cells #[Value.int IntKind.i64 3, Value.int IntKind.i64 (v : Int), Value.slice A k.len c] 34)
      rw [cells8_set S hv8, ← hTd] at hrow1
      have hon1 : Only g w.heap.size w ((w.setCell ⟨g, v, none⟩ (.bool true)).alloc (Obj.cells #[Value.int IntKind.i64 3, Value.int IntKind.i64 (v : Int), Value.slice A k.len c] 34)) := ((Only.refl _ _ _).set (.inl rfl) _).alloc (Nat.le_of_eq hw.symm) _
      have hr1 : Row ((w.setCell ⟨g, v, none⟩ (.bool true)).alloc (Obj.cells #[Value.int IntKind.i64 3, Value.int IntKind.i64 (v : Int), Value.slice A k.len c] 34)) w.heap.size 34 #[Value.int IntKind.i64 3, Value.int IntKind.i64 (v : Int), Value.slice A k.len c] := by
        have := Row.fresh (w.setCell ⟨g, v, none⟩ (.bool true)) 34 #[Value.int IntKind.i64 3, Value.int IntKind.i64 (v : Int), Value.slice A k.len c]
        rw [hw] at this
        exact this
      have hs1 : w.heap.size + 1 ≤ ((w.setCell ⟨g, v, none⟩ (.bool true)).alloc (Obj.cells #[Value.int IntKind.i64 3, Value.int IntKind.i64 (v : Int), Value.slice A k.len c] 34)).heap.size := by rw [World.size_alloc, hw]; exact Nat.le_refl _
      have HON := Lib.hid hon1
      have HR := Lib.hid hr1
      have HROW := Lib.hid hrow1
      have HSZ := Lib.hid hs1
      clear hon1 hr1 hrow1 hs1 hTd hw hrow
      go_enter Try.func43, Try.ntmps43
      go_wp2_with fail
      clear qv fv
      generalize (w.setCell ⟨g, v, none⟩ (.bool true)).alloc (Obj.cells #[Value.int IntKind.i64 3, Value.int IntKind.i64 (v : Int), Value.slice A k.len c] 34) = w1 at *
      go_loopw [0, 5] (fun s i wr => ∃ (j : Nat), j ≤ k.len ∧ i = .int .i64 j ∧ s = .slice (some ⟨g, 0, none⟩) 8 8 ∧ Row wr w.heap.size 34 #[Value.int IntKind.i64 3, Value.int IntKind.i64 (v : Int), Value.slice A k.len c] ∧
          (∃ U : Nat → Bool, Row wr g 4 (cells8 U) ∧ ∀ i, i < 8 → (T i || callF k i) = (U i || callF (k.drop j) i)) ∧ Only g w.heap.size w wr ∧ w.heap.size + 1 ≤ wr.heap.size)
        (fun _ i _ => k.len - (intOf i).toNat)
      case atStart => exact ⟨0, Nat.zero_le _, rfl, rfl, HR.out, ⟨T, HROW.out, fun i _ => by rw [Fo.drop_zero]⟩, HON.out, HSZ.out⟩
      case round =>
        clear HON HR HROW HSZ
        obtain ⟨j, hj, rfl, rfl, hrE, ⟨U, hrU, hU⟩, hon, hszr⟩ := hrel
        have q2 := hrE.cell (i := 2) rfl
        have HU := Lib.hid hU
        clear hU
        by_cases hlt : j < k.len
        · obtain ⟨op', n', k', e1, e2, e3⟩ := Fo.drop_of_lt k j hlt
          have hj' := (hl.only hon hB hg).at_ j
          rw [Nat.zero_add, e1] at hj'
          obtain ⟨⟨b, o, A', c', hA, hb1, hb2, i1, i2, g1, g2, g3, h1, h2, h3⟩, _⟩ := hj'
          subst hA
          have HE := Lib.hid e1
          have HC := Lib.hid (ih k'.size (by omega) op' n' k' A' c' wr U rfl h3 (by omega) hg hrU (by omega))
          have HRE := Lib.hid hrE
          have HONr := Lib.hid hon
          clear hrE hrU hon e1 h3 ih hl
          go_wp2_with fail
          refine HC.out.mono ?_
          rintro e w2 ⟨rfl, hrow2, hon2⟩
          have HRE2 := Lib.hid (HRE.out.only hon2 (by omega) (by omega))
          have HON2 := Lib.hid (HONr.out.trans (hon2.mono (by omega)))
          have HS2 := Lib.hid (Nat.le_trans hszr hon2.size)
          have HU2 : ∀ i, i < 8 → (T i || callF k i) = ((U i || callB ⟨op', n', k'⟩ i) || callF (k.drop (j + 1)) i) := fun i hi => by
            rw [HU.out i hi, callF_cons HE.out, Bool.or_assoc]
          have HUU := Lib.hid HU2
          have HROW2 := Lib.hid hrow2
          clear hrow2 hon2 HU2 q2 g1 g2 g3 HC HRE HONr
          go_wp2_with fail
          go_roundw
          case rel => exact ⟨j + 1, hlt, by go_num, rfl, HRE2.out, ⟨_, HROW2.out, HUU.out⟩, HON2.out, HS2.out⟩
          case measure => simp [intOf]; omega
        · have e9 : j = k.len := by omega
          have hfin : ∀ i, i < 8 → (U i) = (S i || callB ⟨3, (v : Int), k⟩ i) := fun i hi => by
            rw [HT.out i hi, HU.out i hi, e9, Fo.drop_len]
            simp [callF]
          have HF := Lib.hid hfin
          clear hfin
          go_wp2
          go_ret
          exact ⟨rfl, by rw [← cells8_congr (fun i hi => HF.out i hi)]; exact hrU, hon⟩
    · obtain ⟨T, hTd⟩ : ∃ T : Nat → Bool, T = S := ⟨_, rfl⟩
      have hT : ∀ i, i < 8 → (S i || callB ⟨op, n, k⟩ i) = (T i || callF k i) := by
        intro i hi
        have : ownCall op n i = false := by unfold ownCall; rw [Bool.eq_false_iff]; simp; omega
        rw [hTd]
        simp [callB, this]
      have HT := Lib.hid hT
      clear hT
      have hrow1 := hrow.alloc (Obj.cells #[Value.int IntKind.i64 op, Value.int IntKind.i64 n, Value.slice A k.len c] 34)
      rw [← hTd] at hrow1
      have hon1 : Only g w.heap.size w (w.alloc (Obj.cells #[Value.int IntKind.i64 op, Value.int IntKind.i64 n, Value.slice A k.len c] 34)) := (Only.refl _ _ _).alloc (Nat.le_refl _) _
      have hr1 := Row.fresh w 34 #[Value.int IntKind.i64 op, Value.int IntKind.i64 n, Value.slice A k.len c]
      have hs1 : w.heap.size + 1 ≤ (w.alloc (Obj.cells #[Value.int IntKind.i64 op, Value.int IntKind.i64 n, Value.slice A k.len c] 34)).heap.size := by simp
      have HON := Lib.hid hon1
      have HR := Lib.hid hr1
      have HROW := Lib.hid hrow1
      have HSZ := Lib.hid hs1
      clear hon1 hr1 hrow1 hs1 hTd hrow
      by_cases ho : op = 3
      · subst ho
        by_cases hn0 : 0 ≤ n
        · have hn8 : 8 ≤ n := by omega
          clear hop
          go_enter Try.func43, Try.ntmps43
          go_wp2_with fail
          generalize w.alloc (Obj.cells #[Value.int IntKind.i64 3, Value.int IntKind.i64 n, Value.slice A k.len c] 34) = w1 at *
          go_loopw [0, 5] (fun s i wr => ∃ (j : Nat), j ≤ k.len ∧ i = .int .i64 j ∧ s = .slice (some ⟨g, 0, none⟩) 8 8 ∧ Row wr w.heap.size 34 #[Value.int IntKind.i64 3, Value.int IntKind.i64 n, Value.slice A k.len c] ∧
              (∃ U : Nat → Bool, Row wr g 4 (cells8 U) ∧ ∀ i, i < 8 → (T i || callF k i) = (U i || callF (k.drop j) i)) ∧ Only g w.heap.size w wr ∧ w.heap.size + 1 ≤ wr.heap.size)
            (fun _ i _ => k.len - (intOf i).toNat)
          case atStart => exact ⟨0, Nat.zero_le _, rfl, rfl, HR.out, ⟨T, HROW.out, fun i _ => by rw [Fo.drop_zero]⟩, HON.out, HSZ.out⟩
          case round =>
            clear HON HR HROW HSZ
            obtain ⟨j, hj, rfl, rfl, hrE, ⟨U, hrU, hU⟩, hon, hszr⟩ := hrel
            have q2 := hrE.cell (i := 2) rfl
            have HU := Lib.hid hU
            clear hU
            by_cases hlt : j < k.len
            · obtain ⟨op', n', k', e1, e2, e3⟩ := Fo.drop_of_lt k j hlt
              have hj' := (hl.only hon hB hg).at_ j
              rw [Nat.zero_add, e1] at hj'
              obtain ⟨⟨b, o, A', c', hA, hb1, hb2, i1, i2, g1, g2, g3, h1, h2, h3⟩, _⟩ := hj'
              subst hA
              have HE := Lib.hid e1
              have HC := Lib.hid (ih k'.size (by omega) op' n' k' A' c' wr U rfl h3 (by omega) hg hrU (by omega))
              have HRE := Lib.hid hrE
              have HONr := Lib.hid hon
              clear hrE hrU hon e1 h3 ih hl
              go_wp2_with fail
              refine HC.out.mono ?_
              rintro e w2 ⟨rfl, hrow2, hon2⟩
              have HRE2 := Lib.hid (HRE.out.only hon2 (by omega) (by omega))
              have HON2 := Lib.hid (HONr.out.trans (hon2.mono (by omega)))
              have HS2 := Lib.hid (Nat.le_trans hszr hon2.size)
              have HU2 : ∀ i, i < 8 → (T i || callF k i) = ((U i || callB ⟨op', n', k'⟩ i) || callF (k.drop (j + 1)) i) := fun i hi => by
                rw [HU.out i hi, callF_cons HE.out, Bool.or_assoc]
              have HUU := Lib.hid HU2
              have HROW2 := Lib.hid hrow2
              clear hrow2 hon2 HU2 q2 g1 g2 g3 HC HRE HONr
              go_wp2_with fail
              go_roundw
              case rel => exact ⟨j + 1, hlt, by go_num, rfl, HRE2.out, ⟨_, HROW2.out, HUU.out⟩, HON2.out, HS2.out⟩
              case measure => simp [intOf]; omega
            · have e9 : j = k.len := by omega
              have hfin : ∀ i, i < 8 → (U i) = (S i || callB ⟨3, n, k⟩ i) := fun i hi => by
                rw [HT.out i hi, HU.out i hi, e9, Fo.drop_len]
                simp [callF]
              have HF := Lib.hid hfin
              clear hfin
              go_wp2
              go_ret
              exact ⟨rfl, by rw [← cells8_congr (fun i hi => HF.out i hi)]; exact hrU, hon⟩
        · have hn9 : n < 0 := by omega
          clear hop
          go_enter Try.func43, Try.ntmps43
          go_wp2_with fail
          generalize w.alloc (Obj.cells #[Value.int IntKind.i64 3, Value.int IntKind.i64 n, Value.slice A k.len c] 34) = w1 at *
          go_loopw [0, 5] (fun s i wr => ∃ (j : Nat), j ≤ k.len ∧ i = .int .i64 j ∧ s = .slice (some ⟨g, 0, none⟩) 8 8 ∧ Row wr w.heap.size 34 #[Value.int IntKind.i64 3, Value.int IntKind.i64 n, Value.slice A k.len c] ∧
              (∃ U : Nat → Bool, Row wr g 4 (cells8 U) ∧ ∀ i, i < 8 → (T i || callF k i) = (U i || callF (k.drop j) i)) ∧ Only g w.heap.size w wr ∧ w.heap.size + 1 ≤ wr.heap.size)
            (fun _ i _ => k.len - (intOf i).toNat)
          case atStart => exact ⟨0, Nat.zero_le _, rfl, rfl, HR.out, ⟨T, HROW.out, fun i _ => by rw [Fo.drop_zero]⟩, HON.out, HSZ.out⟩
          case round =>
            clear HON HR HROW HSZ
            obtain ⟨j, hj, rfl, rfl, hrE, ⟨U, hrU, hU⟩, hon, hszr⟩ := hrel
            have q2 := hrE.cell (i := 2) rfl
            have HU := Lib.hid hU
            clear hU
            by_cases hlt : j < k.len
            · obtain ⟨op', n', k', e1, e2, e3⟩ := Fo.drop_of_lt k j hlt
              have hj' := (hl.only hon hB hg).at_ j
              rw [Nat.zero_add, e1] at hj'
              obtain ⟨⟨b, o, A', c', hA, hb1, hb2, i1, i2, g1, g2, g3, h1, h2, h3⟩, _⟩ := hj'
              subst hA
              have HE := Lib.hid e1
              have HC := Lib.hid (ih k'.size (by omega) op' n' k' A' c' wr U rfl h3 (by omega) hg hrU (by omega))
              have HRE := Lib.hid hrE
              have HONr := Lib.hid hon
              clear hrE hrU hon e1 h3 ih hl
              go_wp2_with fail
              refine HC.out.mono ?_
              rintro e w2 ⟨rfl, hrow2, hon2⟩
              have HRE2 := Lib.hid (HRE.out.only hon2 (by omega) (by omega))
              have HON2 := Lib.hid (HONr.out.trans (hon2.mono (by omega)))
              have HS2 := Lib.hid (Nat.le_trans hszr hon2.size)
              have HU2 : ∀ i, i < 8 → (T i || callF k i) = ((U i || callB ⟨op', n', k'⟩ i) || callF (k.drop (j + 1)) i) := fun i hi => by
                rw [HU.out i hi, callF_cons HE.out, Bool.or_assoc]
              have HUU := Lib.hid HU2
              have HROW2 := Lib.hid hrow2
              clear hrow2 hon2 HU2 q2 g1 g2 g3 HC HRE HONr
              go_wp2_with fail
              go_roundw
              case rel => exact ⟨j + 1, hlt, by go_num, rfl, HRE2.out, ⟨_, HROW2.out, HUU.out⟩, HON2.out, HS2.out⟩
              case measure => simp [intOf]; omega
            · have e9 : j = k.len := by omega
              have hfin : ∀ i, i < 8 → (U i) = (S i || callB ⟨3, n, k⟩ i) := fun i hi => by
                rw [HT.out i hi, HU.out i hi, e9, Fo.drop_len]
                simp [callF]
              have HF := Lib.hid hfin
              clear hfin
              go_wp2
              go_ret
              exact ⟨rfl, by rw [← cells8_congr (fun i hi => HF.out i hi)]; exact hrU, hon⟩
      · clear hop
        go_enter Try.func43, Try.ntmps43
        go_wp2_with fail
        generalize w.alloc (Obj.cells #[Value.int IntKind.i64 op, Value.int IntKind.i64 n, Value.slice A k.len c] 34) = w1 at *
        go_loopw [0, 5] (fun s i wr => ∃ (j : Nat), j ≤ k.len ∧ i = .int .i64 j ∧ s = .slice (some ⟨g, 0, none⟩) 8 8 ∧ Row wr w.heap.size 34 #[Value.int IntKind.i64 op, Value.int IntKind.i64 n, Value.slice A k.len c] ∧
            (∃ U : Nat → Bool, Row wr g 4 (cells8 U) ∧ ∀ i, i < 8 → (T i || callF k i) = (U i || callF (k.drop j) i)) ∧ Only g w.heap.size w wr ∧ w.heap.size + 1 ≤ wr.heap.size)
          (fun _ i _ => k.len - (intOf i).toNat)
        case atStart => exact ⟨0, Nat.zero_le _, rfl, rfl, HR.out, ⟨T, HROW.out, fun i _ => by rw [Fo.drop_zero]⟩, HON.out, HSZ.out⟩
        case round =>
          clear HON HR HROW HSZ
          obtain ⟨j, hj, rfl, rfl, hrE, ⟨U, hrU, hU⟩, hon, hszr⟩ := hrel
          have q2 := hrE.cell (i := 2) rfl
          have HU := Lib.hid hU
          clear hU
          by_cases hlt : j < k.len
          · obtain ⟨op', n', k', e1, e2, e3⟩ := Fo.drop_of_lt k j hlt
            have hj' := (hl.only hon hB hg).at_ j
            rw [Nat.zero_add, e1] at hj'
            obtain ⟨⟨b, o, A', c', hA, hb1, hb2, i1, i2, g1, g2, g3, h1, h2, h3⟩, _⟩ := hj'
            subst hA
            have HE := Lib.hid e1
            have HC := Lib.hid (ih k'.size (by omega) op' n' k' A' c' wr U rfl h3 (by omega) hg hrU (by omega))
            have HRE := Lib.hid hrE
            have HONr := Lib.hid hon
            clear hrE hrU hon e1 h3 ih hl
            go_wp2_with fail
            refine HC.out.mono ?_
            rintro e w2 ⟨rfl, hrow2, hon2⟩
            have HRE2 := Lib.hid (HRE.out.only hon2 (by omega) (by omega))
            have HON2 := Lib.hid (HONr.out.trans (hon2.mono (by omega)))
            have HS2 := Lib.hid (Nat.le_trans hszr hon2.size)
            have HU2 : ∀ i, i < 8 → (T i || callF k i) = ((U i || callB ⟨op', n', k'⟩ i) || callF (k.drop (j + 1)) i) := fun i hi => by
              rw [HU.out i hi, callF_cons HE.out, Bool.or_assoc]
            have HUU := Lib.hid HU2
            have HROW2 := Lib.hid hrow2
            clear hrow2 hon2 HU2 q2 g1 g2 g3 HC HRE HONr
            go_wp2_with fail
            go_roundw
            case rel => exact ⟨j + 1, hlt, by go_num, rfl, HRE2.out, ⟨_, HROW2.out, HUU.out⟩, HON2.out, HS2.out⟩
            case measure => simp [intOf]; omega
          · have e9 : j = k.len := by omega
            have hfin : ∀ i, i < 8 → (U i) = (S i || callB ⟨op, n, k⟩ i) := fun i hi => by
              rw [HT.out i hi, HU.out i hi, e9, Fo.drop_len]
              simp [callF]
            have HF := Lib.hid hfin
            clear hfin
            go_wp2
            go_ret
            exact ⟨rfl, by rw [← cells8_congr (fun i hi => HF.out i hi)]; exact hrU, hon⟩

set_option maxHeartbeats 1000000 in
theorem l1Numbers_any (g : Nat) (w : World) (S : Nat → Bool) (hrow : Row w g 4 (cells8 S)) :
    Calls Try.prog 24 #[.slice (some ⟨g, 0, none⟩) 8 8] w (ListPost (numsUpto S 8) w) := by
  go_enter Try.func24, Try.ntmps24
  go_wp2_with fail
  have own0 : (w.alloc (Obj.cells #[] 3)).ownsRow w.heap.size 3 1 (.slice (some ⟨w.heap.size, 0, none⟩) 0 0) (numsUpto S 0).length ((numsUpto S 0).map (Value.int .i64)) :=
    ⟨rfl, .inr ⟨w.heap.size, 0, #[], rfl, Nat.le_refl _, heap_alloc_new _ _, Nat.le_refl _, by decide, rfl, rfl⟩⟩
  have hb1 : Below w.heap.size w (w.alloc (Obj.cells #[] 3)) := (Below.refl _ _).alloc (Nat.le_refl _) _
  go_loopw [3, 4] (fun v i wr => ∃ (j : Nat), j ≤ 8 ∧ i = .int .i64 j ∧ wr.ownsRow w.heap.size 3 1 v (numsUpto S j).length ((numsUpto S j).map (Value.int .i64)) ∧ Below w.heap.size w wr)
    (fun _ i _ => 8 - (intOf i).toNat)
  case atStart => exact ⟨0, by omega, rfl, own0, hb1⟩
  case round =>
    clear own0 hb1
    obtain ⟨j, hj, rfl, hown, hb3⟩ := hrel
    by_cases hlt : j < 8
    · have q0 := (hrow.below hb3 hrow.size).cell (cells8_at S hlt)
      have HO2 := Lib.hid hown
      have hlen := numsUpto_len S j
      clear hown
      cases hc : S j with
      | false =>
        have HF := Lib.hid (numsUpto_no hc)
        rw [hc] at q0
        clear hc
        go_wp2
        go_roundw
        case rel => exact ⟨j + 1, hlt, by go_num, by rw [HF.out]; exact HO2.out, hb3⟩
        case measure => simp [intOf]; omega
      | true =>
        have HF := Lib.hid (numsUpto_yes hc)
        rw [hc] at q0
        clear hc
        obtain ⟨iT, hiT, hiz0, hiz1, hiz2⟩ := info_parts (show (Try.prog.info? 3).map (fun i => (i.zero, i.size, i.bytes)) = some (some (.int .i64 0), 1, 8) by kernel_rfl)
        have HIT := Lib.hid hiT
        have HIZ0 := Lib.hid hiz0
        have HIZ1 := Lib.hid hiz1
        have HIZ2 := Lib.hid hiz2
        have C1 := Lib.hid (fresh_cells wr 3 #[Value.int .i64 (j : Int)])
        have HC2 := Lib.hid (show ∀ u ∈ [Value.int .i64 (j : Int)], u.oneCell' = true by intro u hu; rw [List.mem_singleton.1 hu]; rfl)
        have HC3 := Lib.hid (show (numsUpto S j).length + 1 ≤ maxLen by unfold maxLen; omega)
        have HC4 := Lib.hid (show ((numsUpto S j).length + 1) * 8 ≤ 140737488355328 by omega)
        have HC5 := Lib.hid (show w.heap.size ≤ (wr.alloc (.cells #[Value.int .i64 (j : Int)] 3)).heap.size by have := hb3.size; rw [World.size_alloc]; omega)
        have HOA := Lib.hid (HO2.out.alloc (.cells #[Value.int .i64 (j : Int)] 3))
        clear hiT hiz0 hiz1 hiz2
        go_wp2_with (at_builtin; refine wpList_append_own_at _ rfl _ _ 28 rfl w.heap.size 3 iT _ 1 8 Try.underlying28 HIT.out HIZ0.out HIZ1.out HIZ2.out rfl (by decide) _ _ _ rfl HOA.out ⟨wr.heap.size, 0, none⟩ 1 1 [Value.int .i64 (j : Int)] rfl rfl C1.out HC2.out HC3.out HC4.out HC5.out ?_; intro v' w' hown5 hgrow5 _ hblk)
        have hb5 : Below w.heap.size w w' := Below.grown (hb3.alloc hb3.size (.cells #[Value.int .i64 (j : Int)] 3)) hgrow5 HC5.out (fun g' hg' => own_at_least HO2.out hg')
        have HO5 := Lib.hid hown5
        clear hown5 hgrow5 hblk q0
        go_wp2_with fail
        go_roundw
        case rel =>
          refine ⟨j + 1, hlt, by go_num, ?_, hb5⟩
          rw [HF.out, List.length_append, List.map_append]
          exact HO5.out
        case measure => simp [intOf]; omega
    · have e9 : j = 8 := by omega
      subst e9
      go_wp2
      go_ret
      exact ⟨_, rfl, hown, hb3⟩

theorem own_less {w : World} {base base' : Nat} {e : TypeId} {size : Nat} {v : Value} {n : Nat} {xs : List Value} (h : w.ownsRow base e size v n xs) (hb : base' ≤ base) : w.ownsRow base' e size v n xs := by
  refine ⟨h.1, ?_⟩
  rcases h.2 with h0 | ⟨g, cap, cur, h1, h2, h3⟩
  · exact .inl h0
  · exact .inr ⟨g, cap, cur, h1, by omega, h3⟩

theorem madeF_run (w : World) : (Instr.makeSlice 50 (.int .i64 8) (.int .i64 8)).run Try.prog w = .ok (.slice (some ⟨w.heap.size, 0, Option.none⟩) 8 8) (w.alloc (.cells (cells8 fun _ => false) 4)) := by kernel_rfl

set_option maxHeartbeats 1000000 in
theorem specCalls_any (op n : Int) (k : Fo) (A : Option Addr) (c : Nat) (w : World) (hl : Lies w 0 w.heap.size A 0 k) (hsz : k.size ≤ 1048576) :
    Calls Try.prog 37 #[.agg #[.int .i64 op, .int .i64 n, .slice A k.len c]] w (ListPost (numsUpto (callB ⟨op, n, k⟩) 8) w) := by
  have hmk := madeF_run
  have hr0 := Row.fresh w 34 #[Value.int IntKind.i64 op, Value.int IntKind.i64 n, Value.slice A k.len c]
  have hb0 : Below w.heap.size w (w.alloc (Obj.cells #[Value.int IntKind.i64 op, Value.int IntKind.i64 n, Value.slice A k.len c] 34)) := (Below.refl _ _).alloc (Nat.le_refl _) _
  have q0 := hr0.cell (i := 0) rfl
  have q1 := hr0.cell (i := 1) rfl
  have q2 := hr0.cell (i := 2) rfl
  have p0 := (hr0.alloc (.cells (cells8 fun _ => false) 4)).cell (i := 0) rfl
  have p1 := (hr0.alloc (.cells (cells8 fun _ => false) 4)).cell (i := 1) rfl
  have p2 := (hr0.alloc (.cells (cells8 fun _ => false) 4)).cell (i := 2) rfl
  have hrow0 : Row ((w.alloc (Obj.cells #[Value.int IntKind.i64 op, Value.int IntKind.i64 n, Value.slice A k.len c] 34)).alloc (Obj.cells (cells8 fun _ => false) 4)).drew (w.heap.size + 1) 4 (cells8 fun _ => false) := by
    have := (Row.fresh (w.alloc (Obj.cells #[Value.int IntKind.i64 op, Value.int IntKind.i64 n, Value.slice A k.len c] 34)) 4 (cells8 fun _ => false)).drew
    rw [World.size_alloc] at this
    exact this
  have hb1 : Below w.heap.size w ((w.alloc (Obj.cells #[Value.int IntKind.i64 op, Value.int IntKind.i64 n, Value.slice A k.len c] 34)).alloc (Obj.cells (cells8 fun _ => false) 4)).drew := (hb0.alloc (by simp) _).drew
  have HB1 := Lib.hid hb1
  have hz1 : w.heap.size + 1 < ((w.alloc (Obj.cells #[Value.int IntKind.i64 op, Value.int IntKind.i64 n, Value.slice A k.len c] 34)).alloc (Obj.cells (cells8 fun _ => false) 4)).drew.heap.size := by simp
  have HZ1 := Lib.hid hz1
  have HC := Lib.hid (l1Calls_any k.size (w.heap.size + 1) 0 w.heap.size op n k A c _ (fun _ => false) rfl (hl.below hb1) hb1.size (.inr (Nat.le_succ _)) hrow0 hsz)
  clear hb0 hr0 hl hrow0 hb1 hz1
  go_enter Try.func37, Try.ntmps37
  go_wp2_with fail
  go_region_with (first
    | (go_at_call 24
       refine (l1Numbers_any (w.heap.size + 1) w5 _ hrow5).mono ?_
       rintro e w6 ⟨v6, rfl, hown6, hb6⟩)
    | (go_at_call 43
       refine HC.out.mono ?_
       rintro e w5 ⟨rfl, hrow5, hon5⟩))
  all_goals
    have hb5 : Below w.heap.size w w5 := HB1.out.trans ((hon5.mono (Nat.le_of_lt (Nat.lt_of_succ_lt HZ1.out))).below (Nat.le_succ _))
    have hcg : numsUpto (fun i => false || callB ⟨op, n, k⟩ i) 8 = numsUpto (callB ⟨op, n, k⟩) 8 := numsUpto_congr 8 (fun i _ => by simp)
    rw [hcg] at hown6
    have hown7 : w6.ownsRow w.heap.size 3 1 v6 (numsUpto (callB ⟨op, n, k⟩) 8).length ((numsUpto (callB ⟨op, n, k⟩) 8).map (Value.int .i64)) := own_less hown6 hb5.size
    have HO := Lib.hid hown7
    have HB := Lib.hid (hb5.trans (hb6.mono hb5.size))
    clear hown6 hown7 hrow5 hon5 hb5 hb6 hcg q0 q1 q2 p0 p1 p2 hmk HC HB1 HZ1
    go_wp2
    go_ret
    exact ⟨_, rfl, HO.out, HB.out⟩
end Go.Proofs.Ythimgboeankpcaa
