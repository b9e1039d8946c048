/-
  spec.l1Calls: the functions that a tree calls, marked.
  impl.CallsOf: the functions that a tree calls.
  spec.CallsOf.
-/
import Derived.Test.YtpknegneogdmfaaGreatOwnM
import Derived.Test.YtpknegneogdmfaaGreatFo
import Derived.Test.YtpknegneogdmfaaGreatNodesI
import Derived.Test.YtpknegneogdmfaaGreatDe
import Derived.Maps.AppendAt
import Derived.Test.YtpknegneogdmfaaGreatVars
import Derived.Test.YtpknegneogdmfaaGreatSmall
import Derived.Deep.RegionWith
import Derived.Test.YtpknegneogdmfaaGreatFresh
namespace Go.Proofs.YtpknegneogdmfaaGreat
open Go.RowKit Go.Shelf
set_option maxRecDepth 100000

set_option maxHeartbeats 1000000 in
theorem l1Calls_any (m g L B : Nat) : ∀ (op n : Int) (k : Fo) (A : Option Addr) (c : Nat) (w : World) (S : Nat → Bool), k.size = m → Lies w L B A 0 k → B ≤ w.heap.size → (g < L ∨ B ≤ g) → Row w g 4 (cells8 S) → k.size ≤ 1048576 →
    Calls Tryz.prog 44 #[.slice (some ⟨g, 0, none⟩) 8 8, .agg #[.int .i64 op, .int .i64 n, .slice A k.len c]] w fun e w' =>
      e = .returned (.slice (some ⟨g, 0, none⟩) 8 8) ∧ Row w' g 4 (cells8 (fun i => S i || callB ⟨op, n, k⟩ i)) ∧ Only g w.heap.size w w' := by
  induction m using Nat.strongRecOn with
  | _ m ih =>
    intro op n k A c w S hm hl hB hg hrow hsz
    have hlen := Fo.len_le_size k
    have hgz := hrow.size
    by_cases hop : op = 3 ∧ 0 ≤ n ∧ n < 8
    · obtain ⟨rfl, hn0, hn8⟩ := hop
      obtain ⟨v, rfl⟩ : ∃ v : Nat, n = (v : Int) := ⟨n.toNat, by omega⟩
      have hv8 : v < 8 := by omega
      have qv := hrow.cell (cells8_at S hv8)
      have fv := hrow.free v
      obtain ⟨T, hTd⟩ : ∃ T : Nat → Bool, T = fun i => S i || decide (i = v) := ⟨_, rfl⟩
      have hT : ∀ i, i < 8 → (S i || callB ⟨3, (v : Int), k⟩ i) = (T i || callF k i) := by
        intro i _
        have : ownCall 3 (v : Int) i = decide (i = v) := by unfold ownCall; rw [Bool.eq_iff_iff]; simp; omega
        rw [hTd]
        simp only [callB, this, Bool.or_assoc]
      have HT := Lib.hid hT
      clear hT
      have hw : (w.setCell ⟨g, v, none⟩ (.bool true)).heap.size = w.heap.size := by simp [World.setCell]
      have hrow1 := (hrow.put v (.bool true)).alloc (Obj.cells #[Value.int IntKind.i64 3, Value.int IntKind.i64 (v : Int), Value.slice A k.len c] 36)
      rw [cells8_set S hv8, ← hTd] at hrow1
      have hon1 : Only g w.heap.size w ((w.setCell ⟨g, v, none⟩ (.bool true)).alloc (Obj.cells #[Value.int IntKind.i64 3, Value.int IntKind.i64 (v : Int), Value.slice A k.len c] 36)) := ((Only.refl _ _ _).set (.inl rfl) _).alloc (Nat.le_of_eq hw.symm) _
      have hr1 : Row ((w.setCell ⟨g, v, none⟩ (.bool true)).alloc (Obj.cells #[Value.int IntKind.i64 3, Value.int IntKind.i64 (v : Int), Value.slice A k.len c] 36)) w.heap.size 36 #[Value.int IntKind.i64 3, Value.int IntKind.i64 (v : Int), Value.slice A k.len c] := by
        have := Row.fresh (w.setCell ⟨g, v, none⟩ (.bool true)) 36 #[Value.int IntKind.i64 3, Value.int IntKind.i64 (v : Int), Value.slice A k.len c]
        rw [hw] at this
        exact this
      have hs1 : w.heap.size + 1 ≤ ((w.setCell ⟨g, v, none⟩ (.bool true)).alloc (Obj.cells #[Value.int IntKind.i64 3, Value.int IntKind.i64 (v : Int), Value.slice A k.len c] 36)).heap.size := by rw [World.size_alloc, hw]; exact Nat.le_refl _
      have HON := Lib.hid hon1
      have HR := Lib.hid hr1
      have HROW := Lib.hid hrow1
      have HSZ := Lib.hid hs1
      clear hon1 hr1 hrow1 hs1 hTd hw hrow
      go_enter Tryz.func44, Tryz.ntmps44
      go_wp2_with fail
      clear qv fv
      generalize (w.setCell ⟨g, v, none⟩ (.bool true)).alloc (Obj.cells #[Value.int IntKind.i64 3, Value.int IntKind.i64 (v : Int), Value.slice A k.len c] 36) = w1 at *
      go_loopw [0, 5] (fun s i wr => ∃ (j : Nat), j ≤ k.len ∧ i = .int .i64 j ∧ s = .slice (some ⟨g, 0, none⟩) 8 8 ∧ Row wr w.heap.size 36 #[Value.int IntKind.i64 3, Value.int IntKind.i64 (v : Int), Value.slice A k.len c] ∧
          (∃ U : Nat → Bool, Row wr g 4 (cells8 U) ∧ ∀ i, i < 8 → (T i || callF k i) = (U i || callF (k.drop j) i)) ∧ Only g w.heap.size w wr ∧ w.heap.size + 1 ≤ wr.heap.size)
        (fun _ i _ => k.len - (intOf i).toNat)
      case atStart => exact ⟨0, Nat.zero_le _, rfl, rfl, HR.out, ⟨T, HROW.out, fun i _ => by rw [Fo.drop_zero]⟩, HON.out, HSZ.out⟩
      case round =>
        clear HON HR HROW HSZ
        obtain ⟨j, hj, rfl, rfl, hrE, ⟨U, hrU, hU⟩, hon, hszr⟩ := hrel
        have q2 := hrE.cell (i := 2) rfl
        have HU := Lib.hid hU
        clear hU
        by_cases hlt : j < k.len
        · obtain ⟨op', n', k', e1, e2, e3⟩ := Fo.drop_of_lt k j hlt
          have hj' := (hl.only hon hB hg).at_ j
          rw [Nat.zero_add, e1] at hj'
          obtain ⟨⟨b, o, A', c', hA, hb1, hb2, i1, i2, g1, g2, g3, h1, h2, h3⟩, _⟩ := hj'
          subst hA
          have HE := Lib.hid e1
          have HC := Lib.hid (ih k'.size (by omega) op' n' k' A' c' wr U rfl h3 (by omega) hg hrU (by omega))
          have HRE := Lib.hid hrE
          have HONr := Lib.hid hon
          clear hrE hrU hon e1 h3 ih hl
          go_wp2_with fail
          refine HC.out.mono ?_
          rintro e w2 ⟨rfl, hrow2, hon2⟩
          have HRE2 := Lib.hid (HRE.out.only hon2 (by omega) (by omega))
          have HON2 := Lib.hid (HONr.out.trans (hon2.mono (by omega)))
          have HS2 := Lib.hid (Nat.le_trans hszr hon2.size)
          have HU2 : ∀ i, i < 8 → (T i || callF k i) = ((U i || callB ⟨op', n', k'⟩ i) || callF (k.drop (j + 1)) i) := fun i hi => by
            rw [HU.out i hi, callF_cons HE.out, Bool.or_assoc]
          have HUU := Lib.hid HU2
          have HROW2 := Lib.hid hrow2
          clear hrow2 hon2 HU2 q2 g1 g2 g3 HC HRE HONr
          go_wp2_with fail
          go_roundw
          case rel => exact ⟨j + 1, hlt, by go_num, rfl, HRE2.out, ⟨_, HROW2.out, HUU.out⟩, HON2.out, HS2.out⟩
          case measure => simp [intOf]; omega
        · have e9 : j = k.len := by omega
          have hfin : ∀ i, i < 8 → (U i) = (S i || callB ⟨3, (v : Int), k⟩ i) := fun i hi => by
            rw [HT.out i hi, HU.out i hi, e9, Fo.drop_len]
            simp [callF]
          have HF := Lib.hid hfin
          clear hfin
          go_wp2
          go_ret
          exact ⟨rfl, by rw [← cells8_congr (fun i hi => HF.out i hi)]; exact hrU, hon⟩
    · obtain ⟨T, hTd⟩ : ∃ T : Nat → Bool, T = S := ⟨_, rfl⟩
      have hT : ∀ i, i < 8 → (S i || callB ⟨op, n, k⟩ i) = (T i || callF k i) := by
        intro i hi
        have : ownCall op n i = false := by unfold ownCall; rw [Bool.eq_false_iff]; simp; omega
        rw [hTd]
        simp [callB, this]
      have HT := Lib.hid hT
      clear hT
      have hrow1 := hrow.alloc (Obj.cells #[Value.int IntKind.i64 op, Value.int IntKind.i64 n, Value.slice A k.len c] 36)
      rw [← hTd] at hrow1
      have hon1 : Only g w.heap.size w (w.alloc (Obj.cells #[Value.int IntKind.i64 op, Value.int IntKind.i64 n, Value.slice A k.len c] 36)) := (Only.refl _ _ _).alloc (Nat.le_refl _) _
      have hr1 := Row.fresh w 36 #[Value.int IntKind.i64 op, Value.int IntKind.i64 n, Value.slice A k.len c]
      have hs1 : w.heap.size + 1 ≤ (w.alloc (Obj.cells #[Value.int IntKind.i64 op, Value.int IntKind.i64 n, Value.slice A k.len c] 36)).heap.size := by simp
      have HON := Lib.hid hon1
      have HR := Lib.hid hr1
      have HROW := Lib.hid hrow1
      have HSZ := Lib.hid hs1
      clear hon1 hr1 hrow1 hs1 hTd hrow
      by_cases ho : op = 3
      · subst ho
        by_cases hn0 : 0 ≤ n
        · have hn8 : 8 ≤ n := by omega
          clear hop
          go_enter Tryz.func44, Tryz.ntmps44
          go_wp2_with fail
          generalize w.alloc (Obj.cells #[Value.int IntKind.i64 3, Value.int IntKind.i64 n, Value.slice A k.len c] 36) = w1 at *
          go_loopw [0, 5] (fun s i wr => ∃ (j : Nat), j ≤ k.len ∧ i = .int .i64 j ∧ s = .slice (some ⟨g, 0, none⟩) 8 8 ∧ Row wr w.heap.size 36 #[Value.int IntKind.i64 3, Value.int IntKind.i64 n, Value.slice A k.len c] ∧
              (∃ U : Nat → Bool, Row wr g 4 (cells8 U) ∧ ∀ i, i < 8 → (T i || callF k i) = (U i || callF (k.drop j) i)) ∧ Only g w.heap.size w wr ∧ w.heap.size + 1 ≤ wr.heap.size)
            (fun _ i _ => k.len - (intOf i).toNat)
          case atStart => exact ⟨0, Nat.zero_le _, rfl, rfl, HR.out, ⟨T, HROW.out, fun i _ => by rw [Fo.drop_zero]⟩, HON.out, HSZ.out⟩
          case round =>
            clear HON HR HROW HSZ
            obtain ⟨j, hj, rfl, rfl, hrE, ⟨U, hrU, hU⟩, hon, hszr⟩ := hrel
            have q2 := hrE.cell (i := 2) rfl
            have HU := Lib.hid hU
            clear hU
            by_cases hlt : j < k.len
            · obtain ⟨op', n', k', e1, e2, e3⟩ := Fo.drop_of_lt k j hlt
              have hj' := (hl.only hon hB hg).at_ j
              rw [Nat.zero_add, e1] at hj'
              obtain ⟨⟨b, o, A', c', hA, hb1, hb2, i1, i2, g1, g2, g3, h1, h2, h3⟩, _⟩ := hj'
              subst hA
              have HE := Lib.hid e1
              have HC := Lib.hid (ih k'.size (by omega) op' n' k' A' c' wr U rfl h3 (by omega) hg hrU (by omega))
              have HRE := Lib.hid hrE
              have HONr := Lib.hid hon
              clear hrE hrU hon e1 h3 ih hl
              go_wp2_with fail
              refine HC.out.mono ?_
              rintro e w2 ⟨rfl, hrow2, hon2⟩
              have HRE2 := Lib.hid (HRE.out.only hon2 (by omega) (by omega))
              have HON2 := Lib.hid (HONr.out.trans (hon2.mono (by omega)))
              have HS2 := Lib.hid (Nat.le_trans hszr hon2.size)
              have HU2 : ∀ i, i < 8 → (T i || callF k i) = ((U i || callB ⟨op', n', k'⟩ i) || callF (k.drop (j + 1)) i) := fun i hi => by
                rw [HU.out i hi, callF_cons HE.out, Bool.or_assoc]
              have HUU := Lib.hid HU2
              have HROW2 := Lib.hid hrow2
              clear hrow2 hon2 HU2 q2 g1 g2 g3 HC HRE HONr
              go_wp2_with fail
              go_roundw
              case rel => exact ⟨j + 1, hlt, by go_num, rfl, HRE2.out, ⟨_, HROW2.out, HUU.out⟩, HON2.out, HS2.out⟩
              case measure => simp [intOf]; omega
            · have e9 : j = k.len := by omega
              have hfin : ∀ i, i < 8 → (U i) = (S i || callB ⟨3, n, k⟩ i) := fun i hi => by
                rw [HT.out i hi, HU.out i hi, e9, Fo.drop_len]
                simp [callF]
              have HF := Lib.hid hfin
              clear hfin
              go_wp2
              go_ret
              exact ⟨rfl, by rw [← cells8_congr (fun i hi => HF.out i hi)]; exact hrU, hon⟩
        · have hn9 : n < 0 := by omega
          clear hop
          go_enter Tryz.func44, Tryz.ntmps44
          go_wp2_with fail
          generalize w.alloc (Obj.cells #[Value.int IntKind.i64 3, Value.int IntKind.i64 n, Value.slice A k.len c] 36) = w1 at *
          go_loopw [0, 5] (fun s i wr => ∃ (j : Nat), j ≤ k.len ∧ i = .int .i64 j ∧ s = .slice (some ⟨g, 0, none⟩) 8 8 ∧ Row wr w.heap.size 36 #[Value.int IntKind.i64 3, Value.int IntKind.i64 n, Value.slice A k.len c] ∧
              (∃ U : Nat → Bool, Row wr g 4 (cells8 U) ∧ ∀ i, i < 8 → (T i || callF k i) = (U i || callF (k.drop j) i)) ∧ Only g w.heap.size w wr ∧ w.heap.size + 1 ≤ wr.heap.size)
            (fun _ i _ => k.len - (intOf i).toNat)
          case atStart => exact ⟨0, Nat.zero_le _, rfl, rfl, HR.out, ⟨T, HROW.out, fun i _ => by rw [Fo.drop_zero]⟩, HON.out, HSZ.out⟩
          case round =>
            clear HON HR HROW HSZ
            obtain ⟨j, hj, rfl, rfl, hrE, ⟨U, hrU, hU⟩, hon, hszr⟩ := hrel
            have q2 := hrE.cell (i := 2) rfl
            have HU := Lib.hid hU
            clear hU
            by_cases hlt : j < k.len
            · obtain ⟨op', n', k', e1, e2, e3⟩ := Fo.drop_of_lt k j hlt
              have hj' := (hl.only hon hB hg).at_ j
              rw [Nat.zero_add, e1] at hj'
              obtain ⟨⟨b, o, A', c', hA, hb1, hb2, i1, i2, g1, g2, g3, h1, h2, h3⟩, _⟩ := hj'
              subst hA
              have HE := Lib.hid e1
              have HC := Lib.hid (ih k'.size (by omega) op' n' k' A' c' wr U rfl h3 (by omega) hg hrU (by omega))
              have HRE := Lib.hid hrE
              have HONr := Lib.hid hon
              clear hrE hrU hon e1 h3 ih hl
              go_wp2_with fail
              refine HC.out.mono ?_
              rintro e w2 ⟨rfl, hrow2, hon2⟩
              have HRE2 := Lib.hid (HRE.out.only hon2 (by omega) (by omega))
              have HON2 := Lib.hid (HONr.out.trans (hon2.mono (by omega)))
              have HS2 := Lib.hid (Nat.le_trans hszr hon2.size)
              have HU2 : ∀ i, i < 8 → (T i || callF k i) = ((U i || callB ⟨op', n', k'⟩ i) || callF (k.drop (j + 1)) i) := fun i hi => by
                rw [HU.out i hi, callF_cons HE.out, Bool.or_assoc]
              have HUU := Lib.hid HU2
              have HROW2 := Lib.hid hrow2
              clear hrow2 hon2 HU2 q2 g1 g2 g3 HC HRE HONr
              go_wp2_with fail
              go_roundw
              case rel => exact ⟨j + 1, hlt, by go_num, rfl, HRE2.out, ⟨_, HROW2.out, HUU.out⟩, HON2.out, HS2.out⟩
              case measure => simp [intOf]; omega
            · have e9 : j = k.len := by omega
              have hfin : ∀ i, i < 8 → (U i) = (S i || callB ⟨3, n, k⟩ i) := fun i hi => by
                rw [HT.out i hi, HU.out i hi, e9, Fo.drop_len]
                simp [callF]
              have HF := Lib.hid hfin
              clear hfin
              go_wp2
              go_ret
              exact ⟨rfl, by rw [← cells8_congr (fun i hi => HF.out i hi)]; exact hrU, hon⟩
      · clear hop
        go_enter Tryz.func44, Tryz.ntmps44
        go_wp2_with fail
        generalize w.alloc (Obj.cells #[Value.int IntKind.i64 op, Value.int IntKind.i64 n, Value.slice A k.len c] 36) = w1 at *
        go_loopw [0, 5] (fun s i wr => ∃ (j : Nat), j ≤ k.len ∧ i = .int .i64 j ∧ s = .slice (some ⟨g, 0, none⟩) 8 8 ∧ Row wr w.heap.size 36 #[Value.int IntKind.i64 op, Value.int IntKind.i64 n, Value.slice A k.len c] ∧
            (∃ U : Nat → Bool, Row wr g 4 (cells8 U) ∧ ∀ i, i < 8 → (T i || callF k i) = (U i || callF (k.drop j) i)) ∧ Only g w.heap.size w wr ∧ w.heap.size + 1 ≤ wr.heap.size)
          (fun _ i _ => k.len - (intOf i).toNat)
        case atStart => exact ⟨0, Nat.zero_le _, rfl, rfl, HR.out, ⟨T, HROW.out, fun i _ => by rw [Fo.drop_zero]⟩, HON.out, HSZ.out⟩
        case round =>
          clear HON HR HROW HSZ
          obtain ⟨j, hj, rfl, rfl, hrE, ⟨U, hrU, hU⟩, hon, hszr⟩ := hrel
          have q2 := hrE.cell (i := 2) rfl
          have HU := Lib.hid hU
          clear hU
          by_cases hlt : j < k.len
          · obtain ⟨op', n', k', e1, e2, e3⟩ := Fo.drop_of_lt k j hlt
            have hj' := (hl.only hon hB hg).at_ j
            rw [Nat.zero_add, e1] at hj'
            obtain ⟨⟨b, o, A', c', hA, hb1, hb2, i1, i2, g1, g2, g3, h1, h2, h3⟩, _⟩ := hj'
            subst hA
            have HE := Lib.hid e1
            have HC := Lib.hid (ih k'.size (by omega) op' n' k' A' c' wr U rfl h3 (by omega) hg hrU (by omega))
            have HRE := Lib.hid hrE
            have HONr := Lib.hid hon
            clear hrE hrU hon e1 h3 ih hl
            go_wp2_with fail
            refine HC.out.mono ?_
            rintro e w2 ⟨rfl, hrow2, hon2⟩
            have HRE2 := Lib.hid (HRE.out.only hon2 (by omega) (by omega))
            have HON2 := Lib.hid (HONr.out.trans (hon2.mono (by omega)))
            have HS2 := Lib.hid (Nat.le_trans hszr hon2.size)
            have HU2 : ∀ i, i < 8 → (T i || callF k i) = ((U i || callB ⟨op', n', k'⟩ i) || callF (k.drop (j + 1)) i) := fun i hi => by
              rw [HU.out i hi, callF_cons HE.out, Bool.or_assoc]
            have HUU := Lib.hid HU2
            have HROW2 := Lib.hid hrow2
            clear hrow2 hon2 HU2 q2 g1 g2 g3 HC HRE HONr
            go_wp2_with fail
            go_roundw
            case rel => exact ⟨j + 1, hlt, by go_num, rfl, HRE2.out, ⟨_, HROW2.out, HUU.out⟩, HON2.out, HS2.out⟩
            case measure => simp [intOf]; omega
          · have e9 : j = k.len := by omega
            have hfin : ∀ i, i < 8 → (U i) = (S i || callB ⟨op, n, k⟩ i) := fun i hi => by
              rw [HT.out i hi, HU.out i hi, e9, Fo.drop_len]
              simp [callF]
            have HF := Lib.hid hfin
            clear hfin
            go_wp2
            go_ret
            exact ⟨rfl, by rw [← cells8_congr (fun i hi => HF.out i hi)]; exact hrU, hon⟩
end Go.Proofs.YtpknegneogdmfaaGreat

namespace Go.Proofs.YtpknegneogdmfaaGreat
open Go.RowKit Go.Shelf
set_option maxRecDepth 100000

attribute [local go_sem] Oper.semAt_some

def seen (l : List Nd) (v : Nat) : Bool := l.any (fun q => ownCall q.op q.n v)
theorem seen_snoc (l : List Nd) (q : Nd) (v : Nat) : seen (l ++ [q]) v = (seen l v || ownCall q.op q.n v) := by simp [seen]

theorem index8_run (S : Nat → Bool) {j : Nat} (h : j < 8) (w : World) : Sem.run Tryz.prog (Instr.index 85 (.agg #[.bool (S 0), .bool (S 1), .bool (S 2), .bool (S 3), .bool (S 4), .bool (S 5), .bool (S 6), .bool (S 7)]) (.int .i64 (j : Int))) w = .ok (.bool (S j)) w := by
  rcases (show j = 0 ∨ j = 1 ∨ j = 2 ∨ j = 3 ∨ j = 4 ∨ j = 5 ∨ j = 6 ∨ j = 7 by omega) with rfl | rfl | rfl | rfl | rfl | rfl | rfl | rfl <;> kernel_rfl

set_option maxRecDepth 100000 in
set_option maxHeartbeats 4000000 in
theorem implCalls_r (op m : Int) (k : Fo) (A : Option Addr) (c L B : Nat) (w : World) (hl : Lies w L B A 0 k) (hB : B ≤ w.heap.size) (hal : RowsIf w B A k) (hk1 : k.len ≤ c) (hk2 : c ≤ maxLen) (hsz : k.size ≤ 1048576) :
    Calls Tryz.prog 38 #[.agg #[.int .i64 op, .int .i64 m, .slice A k.len c]] w (ListPost (numsUpto (callB ⟨op, m, k⟩) 8) w) := by
  refine (callsIn_wide (n := 9)).1 ?_
  refine callsIn_of_wp_marks Tryz.func38 rfl trivial ?_ rfl
  simp only [Tryz.ntmps38, List.size_toArray, List.length_cons, List.length_nil, Nat.reduceAdd, Nat.reduceSub, Array.replicate_succ, Array.replicate_zero, List.push_toArray, List.append_toArray, List.nil_append, List.cons_append]
  gi_wp2_with fail
  refine ⟨trivial, (callsIn_wide.2 (nodesOf_any op m k A c 53 #[] _)).mono ?_⟩
  rintro e w1 ⟨rfl, rfl⟩
  gi_wp2_with fail
  obtain ⟨W0, hW0⟩ : ∃ W0, W0 = (((w.alloc (Obj.cells #[Value.int .i64 op, Value.int .i64 m, Value.slice A k.len c] 36)).alloc (Obj.cells #[.bool false, .bool false, .bool false, .bool false, .bool false, .bool false, .bool false, .bool false] 85)).alloc
    (Obj.cells #[Value.int .i64 op, Value.int .i64 m, Value.slice A k.len c] 36)).alloc (Obj.cells #[Value.func (.func 53) #[] #[]] 90) := ⟨_, rfl⟩
  rw [← hW0]
  have hz0 : W0.heap.size = w.heap.size + 1 + 1 + 1 + 1 := by rw [hW0]; simp
  have hb0 : Below w.heap.size w W0 := by
    rw [hW0]
    exact ((((Below.refl _ _).alloc (Nat.le_refl _) _).alloc (by simp) _).alloc (by simp; omega) _).alloc (by simp; omega) _
  have rn : Row W0 (w.heap.size + 1) 85 (cells8 (seen [])) := by
    rw [hW0]
    have := Row.fresh (w.alloc (Obj.cells #[Value.int .i64 op, Value.int .i64 m, Value.slice A k.len c] 36)) 85 (cells8 (seen []))
    rw [World.size_alloc] at this
    exact (this.alloc _).alloc _
  have r1 : Row W0 (w.heap.size + 1 + 1) 36 #[Value.int .i64 op, Value.int .i64 m, Value.slice A k.len c] := by
    rw [hW0]
    have := Row.fresh ((w.alloc (Obj.cells #[Value.int .i64 op, Value.int .i64 m, Value.slice A k.len c] 36)).alloc (Obj.cells #[.bool false, .bool false, .bool false, .bool false, .bool false, .bool false, .bool false, .bool false] 85)) 36 #[Value.int .i64 op, Value.int .i64 m, Value.slice A k.len c]
    simp only [World.size_alloc] at this
    exact this.alloc _
  have r2 : Row W0 (w.heap.size + 1 + 1 + 1) 90 #[Value.func (.func 53) #[] #[]] := by
    rw [hW0]
    have := Row.fresh (((w.alloc (Obj.cells #[Value.int .i64 op, Value.int .i64 m, Value.slice A k.len c] 36)).alloc (Obj.cells #[.bool false, .bool false, .bool false, .bool false, .bool false, .bool false, .bool false, .bool false] 85)).alloc (Obj.cells #[Value.int .i64 op, Value.int .i64 m, Value.slice A k.len c] 36)) 90 #[Value.func (.func 53) #[] #[]]
    simp only [World.size_alloc] at this
    exact this
  clear hW0
  refine range_own (X := fun g => g = w.heap.size + 1) rfl (by omega) (gf := 66) (lb := #[.pointer (some ⟨w.heap.size + 1 + 1, 0, none⟩), .pointer (some ⟨w.heap.size + 1 + 1 + 1, 0, none⟩)]) rfl trivial (enters_of Tryz.func66 (by kernel_rfl) rfl)
    (nodes_seqR 8 (fun _ _ => false) op m k A c L B (w.heap.size + 1 + 1) (w.heap.size + 1 + 1 + 1) 53 #[] (fun g => g = w.heap.size + 1) W0 (fun g hg => by omega) (by omega) (by omega) (fun g _ h2 => by omega) r1 (r2.cell (i := 0) rfl)
      (hl.below (hb0.mono hB)) (Nat.le_trans hB hb0.size) (hal.below hb0 hB) hk1 hk2 hsz (enters_of Tryz.func53 (by kernel_rfl) rfl) (fun x i V _ => hideNone_any x.op x.n _ i V))
    (Below.refl _ _) (fun _ => rfl)
    (fun pre W => Row W (w.heap.size + 1) 85 (cells8 (seen (pre.map Nx.nd))) ∧ Below w.heap.size w W) (fun _ _ _ => False)
    (fun s V V' ⟨x1, x2⟩ hb => ⟨x1.below hb (by omega), x2.trans (hb.mono (by omega))⟩) (fun _ _ _ _ hf _ => hf) ⟨rn, hb0⟩
    (fun y a' V => ∃ Bx, W0.heap.size ≤ Bx ∧ Row V Bx 36 #[Value.int .i64 y.op, Value.int .i64 y.n, Value.slice y.A y.k.len y.c] ∧ a' = { tmps := #[.agg #[.int .i64 op, .int .i64 m, .slice A k.len c], .pointer (some ⟨w.heap.size, 0, none⟩), .slice none 0 0, .pointer (some ⟨w.heap.size + 1, 0, none⟩),
      .pointer (some ⟨Bx, 0, none⟩), undef, undef, undef, .agg #[.int .i64 op, .int .i64 m, .slice A k.len c],
      .func (.func 66) #[] #[.pointer (some ⟨w.heap.size + 1 + 1, 0, none⟩), .pointer (some ⟨w.heap.size + 1 + 1 + 1, 0, none⟩)], y.val, undef, undef, undef, undef, undef, undef, undef, undef, undef, undef, undef, undef, undef, undef, undef, undef, undef, undef, undef, undef, undef, undef, undef], defers := [] })
    (fun y a' V V' ⟨Bx, h1, h2, h3⟩ hk => ⟨Bx, h1, hk.row h2 (by omega), h3⟩) ?assign ?body ?done ?stop
  case assign =>
    intro l pre y W K hsW hi hK
    unfold Nx.val
    gi_wp2
    exact hK _ _ ((Below.refl _ _).alloc (Nat.le_refl _) _) ⟨W.heap.size, by omega, Row.fresh _ _ _, rfl⟩
  case body =>
    rintro l pre y a' W _ ⟨hr, hb⟩ ⟨Bx, hBx, hrx, rfl⟩ hlen
    have y0 := hrx.cell (i := 0) rfl
    have y1 := hrx.cell (i := 1) rfl
    have HR := Lib.hid hr
    have hsn := seen_snoc (pre.map Nx.nd) y.nd
    by_cases h3 : y.op = 3
    · have HSN := Lib.hid hsn
      clear hsn hr
      gi_wp2_with fail
      refine ⟨trivial, (CallsIn.inRound l (callsIn_wide.2 (isFun_any y.n W))).mono ?_⟩
      rintro e w2 ⟨rfl, hb2⟩
      have hr2 := HR.out.below hb2 HR.out.size
      have hx2 := hrx.below hb2 hrx.size
      have y1 := hx2.cell (i := 1) rfl
      have hbw2 := hb.trans (hb2.mono hb.size)
      have HK2 := Lib.hid (KC.of_below (X := fun g => g = w.heap.size + 1) hb2)
      have HF2 := Lib.hid (KeepsFrom.of_below (B := W0.heap.size) hb2 (Nat.le_refl _))
      have HR2 := Lib.hid hr2
      clear hb2 hr2 hx2 y0 HR
      cases hv : inVar y.n with
      | true =>
        obtain ⟨hv0, hv8⟩ := inVar_true hv
        obtain ⟨v, hvv⟩ : ∃ v : Nat, y.n = (v : Int) := ⟨y.n.toNat, by omega⟩
        have hv9 : v < 8 := by omega
        have qv := HR2.out.cell (cells8_at (seen (pre.map Nx.nd)) hv9)
        have fv := HR2.out.free v
        rw [hvv] at y1 hv0 hv8
        have HVV := Lib.hid hvv
        have H3 := Lib.hid h3
        clear hv hvv h3
        gi_wp2_with fail
        refine ⟨HF2.out.trans ((KeepsOthers.setCell _ _ _).from _), KC.set (p := ⟨w.heap.size + 1, v, none⟩) HK2.out rfl _, ?_, hbw2.setCell (by simp) _⟩
        have hp := HR2.out.put v (.bool true)
        rw [cells8_set _ hv9] at hp
        have hcc : cells8 (seen ((pre ++ [y]).map Nx.nd)) = cells8 (fun i => seen (pre.map Nx.nd) i || decide (i = v)) := by
          refine cells8_congr fun i hi => ?_
          rw [List.map_append, List.map_singleton, HSN.out]
          congr 1
          unfold ownCall Nx.nd
          rw [Bool.eq_iff_iff]
          have h1 := H3.out
          have h2 := HVV.out
          simp [h1, h2]
          omega
        rw [hcc]
        exact hp
      | false =>
        have hcg : cells8 (seen ((pre ++ [y]).map Nx.nd)) = cells8 (seen (pre.map Nx.nd)) := by
          refine cells8_congr fun i hi => ?_
          rw [List.map_append, List.map_singleton, HSN.out]
          have h1 := inVar_false hv
          have : ownCall y.op y.n i = false := by unfold ownCall; rw [Bool.eq_false_iff]; simp; omega
          simp [Nx.nd, this]
        have HCG := Lib.hid hcg
        clear hcg hv
        gi_wp2_with fail
        exact ⟨HF2.out, HK2.out, by rw [HCG.out]; exact HR2.out, hbw2⟩
    · have hcg : cells8 (seen ((pre ++ [y]).map Nx.nd)) = cells8 (seen (pre.map Nx.nd)) := by
        refine cells8_congr fun i _ => ?_
        rw [List.map_append, List.map_singleton, hsn]
        simp [ownCall, Nx.nd, h3]
      have HCG := Lib.hid hcg
      have h4 : (y.op == 3) = false := by simpa using h3
      clear hcg hsn hr
      gi_wp2_with fail
      refine ⟨trivial, ?_⟩
      gi_wp2_with fail
      exact ⟨KeepsFrom.refl _ _, KC.refl _ _, by rw [HCG.out]; exact HR.out, hb⟩
  case done =>
    rintro D ys W hD hS ⟨hr, hb⟩ hK
    have hcg : cells8 (seen (ys.map Nx.nd)) = cells8 (callB ⟨op, m, k⟩) := by
      rw [hS]
      exact cells8_congr fun i _ => any_ordN i _
    rw [hcg] at hr
    obtain ⟨S, hS2⟩ : ∃ S, S = callB ⟨op, m, k⟩ := ⟨_, rfl⟩
    rw [← hS2] at hr
    have HS2 := Lib.hid hS2
    clear hcg hS2
    have a0 := hr.cell (cells8_at S (show 0 < 8 by decide))
    have a1 := hr.cell (cells8_at S (show 1 < 8 by decide))
    have a2 := hr.cell (cells8_at S (show 2 < 8 by decide))
    have a3 := hr.cell (cells8_at S (show 3 < 8 by decide))
    have a4 := hr.cell (cells8_at S (show 4 < 8 by decide))
    have a5 := hr.cell (cells8_at S (show 5 < 8 by decide))
    have a6 := hr.cell (cells8_at S (show 6 < 8 by decide))
    have a7 := hr.cell (cells8_at S (show 7 < 8 by decide))
    have hwW := hb.size
    gi_wp2_with fail
    clear a0 a1 a2 a3 a4 a5 a6 a7
    gi_loopw [5, 23] (fun v i wr => ∃ (j : Nat), j ≤ 8 ∧ i = .int .i64 j ∧ wr.ownsRow W.heap.size 3 1 v (numsUpto S j).length ((numsUpto S j).map (Value.int .i64)) ∧ Below W.heap.size W wr)
      (fun _ i _ => 8 - (intOf i).toNat)
    case atStart => exact ⟨0, by omega, rfl, World.ownsRow_nil _ _ _ _, Below.refl _ _⟩
    case round =>
      obtain ⟨j, hj, rfl, hown, hb3⟩ := hrel
      by_cases hlt : j < 8
      · have HO2 := Lib.hid hown
        have hlen := numsUpto_len S j
        have hix := index8_run S hlt
        clear hown
        cases hc : S j with
        | false =>
          have HF := Lib.hid (numsUpto_no hc)
          rw [hc] at hix
          clear hc
          gi_wp2_with fail
          go_roundw
          case rel => exact ⟨j + 1, hlt, by go_num, by rw [HF.out]; exact HO2.out, hb3⟩
          case measure => simp [intOf]; omega
        | true =>
          have HF := Lib.hid (numsUpto_yes hc)
          rw [hc] at hix
          clear hc
          obtain ⟨iT, hiT, hiz0, hiz1, hiz2⟩ := info_parts (show (Tryz.prog.info? 3).map (fun i => (i.zero, i.size, i.bytes)) = some (some (.int .i64 0), 1, 8) by kernel_rfl)
          have HIT := Lib.hid hiT
          have HIZ0 := Lib.hid hiz0
          have HIZ1 := Lib.hid hiz1
          have HIZ2 := Lib.hid hiz2
          have C1 := Lib.hid (fresh_cells wr 3 #[Value.int .i64 (j : Int)])
          have HC2 := Lib.hid (show ∀ u ∈ [Value.int .i64 (j : Int)], u.oneCell' = true by intro u hu; rw [List.mem_singleton.1 hu]; rfl)
          have HC3 := Lib.hid (show (numsUpto S j).length + 1 ≤ maxLen by unfold maxLen; omega)
          have HC4 := Lib.hid (show ((numsUpto S j).length + 1) * 8 ≤ 140737488355328 by omega)
          have HC5 := Lib.hid (show W.heap.size ≤ (wr.alloc (.cells #[Value.int .i64 (j : Int)] 3)).heap.size by have := hb3.size; rw [World.size_alloc]; omega)
          have HOA := Lib.hid (HO2.out.alloc (.cells #[Value.int .i64 (j : Int)] 3))
          clear hiT hiz0 hiz1 hiz2
          gi_wp2_with (gi_at_builtin; refine wpListIn_append_own_at _ rfl _ _ 27 rfl W.heap.size 3 iT _ 1 8 Tryz.underlying27 HIT.out HIZ0.out HIZ1.out HIZ2.out rfl (by decide) _ _ _ rfl HOA.out ⟨wr.heap.size, 0, none⟩ 1 1 [Value.int .i64 (j : Int)] rfl rfl C1.out HC2.out HC3.out HC4.out HC5.out ?_; intro v' w' hown5 hgrow5 _ hblk)
          have hb5 : Below W.heap.size W w' := Below.grown (hb3.alloc hb3.size (.cells #[Value.int .i64 (j : Int)] 3)) hgrow5 HC5.out (fun g' hg' => own_at_least HO2.out hg')
          have HO5 := Lib.hid hown5
          clear hown5 hgrow5 hblk hix
          gi_wp2_with fail
          go_roundw
          case rel =>
            refine ⟨j + 1, hlt, by go_num, ?_, hb5⟩
            rw [HF.out, List.length_append, List.map_append]
            exact HO5.out
          case measure => simp [intOf]; omega
      · have e9 : j = 8 := by omega
        subst e9
        have hKD : wr.heap[D]? = some (.deferred (some [])) := (hb3.block D (Array.getElem?_eq_some_iff.1 hK).1).trans hK
        have hown2 := own_less hown hwW
        have hbwr := hb.trans (hb3.mono hwW)
        clear hown hb3 hr hK
        gi_wp2
        refine ⟨by simp, .inl ⟨_, _, rfl, run_takeDeferred hKD, ?_⟩⟩
        refine ⟨_, results_tmp rfl _ _ _, _, rfl, ?_, hbwr.trans (below_put _ hKD (by omega))⟩
        rw [← HS2.out]
        exact ownsRow_putObj hown2 _ hKD rfl
  case stop =>
    rintro D c pre W _ _ h _
    exact h.elim
theorem implCalls_any (op m : Int) (k : Fo) (A : Option Addr) (c L B : Nat) (w : World) (hl : Lies w L B A 0 k) (hB : B ≤ w.heap.size) (hal : AllRows w L B) (hk1 : k.len ≤ c) (hk2 : c ≤ maxLen) (hsz : k.size ≤ 1048576) :
    Calls Tryz.prog 38 #[.agg #[.int .i64 op, .int .i64 m, .slice A k.len c]] w (ListPost (numsUpto (callB ⟨op, m, k⟩) 8) w) := implCalls_r op m k A c L B w hl hB (.of hl hal) hk1 hk2 hsz

end Go.Proofs.YtpknegneogdmfaaGreat

namespace Go.Proofs.YtpknegneogdmfaaGreat
open Go.RowKit Go.Shelf
set_option maxRecDepth 100000

end Go.Proofs.YtpknegneogdmfaaGreat
