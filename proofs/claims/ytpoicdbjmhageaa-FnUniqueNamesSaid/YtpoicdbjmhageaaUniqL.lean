/-
  spec.l4Lets: how often each variable is bound.
-/
import Derived.Test.YtpoicdbjmhageaaFresh
import Derived.Test.YtpoicdbjmhageaaPutD
namespace Go.Proofs.Ytpoicdbjmhageaa
open Go.RowKit Go.Shelf
set_option maxRecDepth 100000

set_option maxHeartbeats 2000000 in
theorem l4Lets_any (m g L B : Nat) : ∀ (op n : Int) (k : Fo) (A : Option Addr) (c : Nat) (w : World) (S : Nat → Nat), k.size = m → Lies w L B A 0 k → B ≤ w.heap.size → (g < L ∨ B ≤ g) → Row w g 3 (cellsN S) → bindsOkN op n k = true → (∀ i, i < 8 → S i + (k.size + 1) ≤ 4194304) → k.size ≤ 1048576 →
    Calls Try.prog 27 #[.slice (some ⟨g, 0, none⟩) 8 8, .agg #[.int .i64 op, .int .i64 n, .slice A k.len c]] w fun e w' =>
      e = .returned (.slice (some ⟨g, 0, none⟩) 8 8) ∧ Row w' g 3 (cellsN (fun i => S i + letsN i op n k)) ∧ Only g w.heap.size w w' := by
  induction m using Nat.strongRecOn with
  | _ m ih =>
    intro op n k A c w S hm hl hB hg hrow hbn hroom hsz
    have hlen := Fo.len_le_size k
    have hgz := hrow.size
    simp only [bindsOkN, Bool.and_eq_true] at hbn
    obtain ⟨hbo, hbk⟩ := hbn
    have HBK := Lib.hid hbk
    clear hbk
    by_cases hop : op = 7
    · subst hop
      have hv : inVar n = true := by simpa [bindOk] using hbo
      obtain ⟨hn0, hn8⟩ := inVar_true hv
      obtain ⟨v, rfl⟩ : ∃ v : Nat, n = (v : Int) := ⟨n.toNat, by omega⟩
      have hv8 : v < 8 := by omega
      have hSv : S v ≤ 4194304 := by have := hroom v hv8; omega
      have qv := (hrow.alloc (Obj.cells #[Value.int IntKind.i64 7, Value.int IntKind.i64 (v : Int), Value.slice A k.len c] 25)).cell (cellsN_at S hv8)
      have fv := (hrow.alloc (Obj.cells #[Value.int IntKind.i64 7, Value.int IntKind.i64 (v : Int), Value.slice A k.len c] 25)).free v
      obtain ⟨T, hTd⟩ : ∃ T : Nat → Nat, T = plus1 S v := ⟨_, rfl⟩
      have hT : ∀ i, i < 8 → T i + k.size ≤ 4194304 := by
        intro i hi
        have h1 := hroom i hi
        have h2 := ownLet1_le i 7 (v : Int)
        rw [hTd]
        unfold plus1
        omega
      have hTS : ∀ i, i < 8 → T i = S i + ownLet1 i 7 (v : Int) := by
        intro i _
        rw [hTd]
        rfl
      have HT := Lib.hid hT
      have HTS := Lib.hid hTS
      clear hT hTS hroom
      have hw : (w.setCell ⟨g, v, none⟩ (.int .i64 ((S v : Int) + 1))).heap.size = w.heap.size := by simp [World.setCell]
      have hrow1 := ((hrow.put v (.int .i64 ((S v : Int) + 1))).alloc (Obj.cells #[Value.int IntKind.i64 7, Value.int IntKind.i64 (v : Int), Value.slice A k.len c] 25)).drew
      rw [cellsN_set S hv8, ← hTd] at hrow1
      have hon1 : Only g w.heap.size w (((w.setCell ⟨g, v, none⟩ (.int .i64 ((S v : Int) + 1))).alloc (Obj.cells #[Value.int IntKind.i64 7, Value.int IntKind.i64 (v : Int), Value.slice A k.len c] 25)).drew) := (((Only.refl _ _ _).set (p := ⟨g, v, none⟩) (.inl rfl) _).alloc (Nat.le_of_eq hw.symm) _).drew
      have hr1 : Row (((w.setCell ⟨g, v, none⟩ (.int .i64 ((S v : Int) + 1))).alloc (Obj.cells #[Value.int IntKind.i64 7, Value.int IntKind.i64 (v : Int), Value.slice A k.len c] 25)).drew) w.heap.size 25 #[Value.int IntKind.i64 7, Value.int IntKind.i64 (v : Int), Value.slice A k.len c] := by
        have := (Row.fresh (w.setCell ⟨g, v, none⟩ (.int .i64 ((S v : Int) + 1))) 25 #[Value.int IntKind.i64 7, Value.int IntKind.i64 (v : Int), Value.slice A k.len c]).drew
        rw [hw] at this
        exact this
      have hs1 : w.heap.size + 1 ≤ (((w.setCell ⟨g, v, none⟩ (.int .i64 ((S v : Int) + 1))).alloc (Obj.cells #[Value.int IntKind.i64 7, Value.int IntKind.i64 (v : Int), Value.slice A k.len c] 25)).drew).heap.size := by simp [World.setCell]
      have r0 := (Row.fresh w 25 #[Value.int IntKind.i64 7, Value.int IntKind.i64 (v : Int), Value.slice A k.len c]).cell (i := 0) rfl
      have r1 := (Row.fresh w 25 #[Value.int IntKind.i64 7, Value.int IntKind.i64 (v : Int), Value.slice A k.len c]).cell (i := 1) rfl
      have HON := Lib.hid hon1
      have HR := Lib.hid hr1
      have HROW := Lib.hid hrow1
      have HSZ := Lib.hid hs1
      clear hon1 hr1 hrow1 hs1 hTd hrow hv hbo hw
      go_enter Try.func27, Try.ntmps27
      go_wp2_with fail
      go_region
      all_goals
        clear qv fv r0 r1
        generalize (((w.setCell ⟨g, v, none⟩ (.int .i64 ((S v : Int) + 1))).alloc (Obj.cells #[Value.int IntKind.i64 7, Value.int IntKind.i64 (v : Int), Value.slice A k.len c] 25)).drew) = w1 at *
        go_wp2_with fail
        go_loopw [0, 5] (fun s i wr => ∃ (j : Nat), j ≤ k.len ∧ i = .int .i64 j ∧ s = .slice (some ⟨g, 0, none⟩) 8 8 ∧ Row wr w.heap.size 25 #[Value.int IntKind.i64 7, Value.int IntKind.i64 (v : Int), Value.slice A k.len c] ∧
            (∃ U : Nat → Nat, Row wr g 3 (cellsN U) ∧ (∀ i, i < 8 → T i + letsF i k = U i + letsF i (k.drop j) ∧ U i + (k.drop j).size ≤ 4194304) ∧ bindsOkF (k.drop j) = true) ∧ Only g w.heap.size w wr ∧ w.heap.size + 1 ≤ wr.heap.size)
          (fun _ i _ => k.len - (intOf i).toNat)
        case atStart => exact ⟨0, Nat.zero_le _, rfl, rfl, HR.out, ⟨T, HROW.out, fun i hi => by rw [Fo.drop_zero]; exact ⟨rfl, HT.out i hi⟩, by rw [Fo.drop_zero]; exact HBK.out⟩, HON.out, HSZ.out⟩
        case round =>
          clear HON HR HROW HSZ
          obtain ⟨j, hj, rfl, rfl, hrE, ⟨U, hrU, hU, hbk⟩, hon, hszr⟩ := hrel
          have q2 := hrE.cell (i := 2) rfl
          have HU := Lib.hid hU
          clear hU
          by_cases hlt : j < k.len
          · obtain ⟨op', n', k', e1, e2, e3⟩ := Fo.drop_of_lt k j hlt
            have hj' := (hl.only hon hB hg).at_ j
            rw [Nat.zero_add, e1] at hj'
            obtain ⟨⟨b, o, A', c', hA, hb1, hb2, i1, i2, g1, g2, g3, h1, h2, h3⟩, _⟩ := hj'
            subst hA
            have HE := Lib.hid e1
            have E3 := Lib.hid e3
            obtain ⟨hbk1, hbk2⟩ := bindsOkF_cons e1 hbk
            have hdz := Fo.drop_size_le k j
            have hroom : ∀ i, i < 8 → U i + (k'.size + 1) ≤ 4194304 := fun i hi => by
              have h1 := (HU.out i hi).2
              have h2 := E3.out
              omega
            have HC := Lib.hid (ih k'.size (by omega) op' n' k' A' c' wr U rfl h3 (by omega) hg hrU hbk1 hroom (by omega))
            have HBK2 := Lib.hid hbk2
            have HRE := Lib.hid hrE
            have HONr := Lib.hid hon
            clear hrE hrU hon e1 h3 ih hl hbk hbk1 hbk2 hroom hdz
            go_wp2_with fail
            refine HC.out.mono ?_
            rintro e w2 ⟨rfl, hrow2, hon2⟩
            have HRE2 := Lib.hid (HRE.out.only hon2 (by omega) (by omega))
            have HON2 := Lib.hid (HONr.out.trans (hon2.mono (by omega)))
            have HS2 := Lib.hid (Nat.le_trans hszr hon2.size)
            have HU2 : ∀ i, i < 8 → T i + letsF i k = (U i + letsN i op' n' k') + letsF i (k.drop (j + 1)) ∧ (U i + letsN i op' n' k') + (k.drop (j + 1)).size ≤ 4194304 := fun i hi => by
              obtain ⟨h1, h2⟩ := HU.out i hi
              have h3 := letsF_cons (v := i) HE.out
              have h4 := letsN_le i op' n' k'
              have h5 := E3.out
              exact ⟨by omega, by omega⟩
            have HUU := Lib.hid HU2
            have HROW2 := Lib.hid hrow2
            clear hrow2 hon2 HU2 q2 g1 g2 g3 HC HRE HONr
            go_wp2_with fail
            go_roundw
            case rel => exact ⟨j + 1, hlt, by go_num, rfl, HRE2.out, ⟨_, HROW2.out, HUU.out, HBK2.out⟩, HON2.out, HS2.out⟩
            case measure => simp [intOf]; omega
          · have e9 : j = k.len := by omega
            have hfin : ∀ i, i < 8 → U i = S i + letsN i 7 (v : Int) k := fun i hi => by
              have h1 := (HU.out i hi).1
              rw [e9, Fo.drop_len] at h1
              have h2 := HTS.out i hi
              simp only [letsF] at h1
              unfold letsN
              omega
            have HF := Lib.hid hfin
            clear hfin
            go_wp2
            go_ret
            exact ⟨rfl, by rw [← cellsN_congr (fun i hi => HF.out i hi)]; exact hrU, hon⟩
    · have hTS : ∀ i, i < 8 → S i = S i + ownLet1 i op n := by
        intro i _
        unfold ownLet1
        rw [if_neg (fun h => hop h.1)]
        rfl
      obtain ⟨T, hTd⟩ : ∃ T : Nat → Nat, T = S := ⟨_, rfl⟩
      have hT : ∀ i, i < 8 → T i + k.size ≤ 4194304 := by
        intro i hi
        have h1 := hroom i hi
        rw [hTd]
        omega
      have hTS2 : ∀ i, i < 8 → T i = S i + ownLet1 i op n := by rw [hTd]; exact hTS
      have HT := Lib.hid hT
      have HTS := Lib.hid hTS2
      clear hT hTS hTS2 hroom
      have hrow1 := hrow.alloc (Obj.cells #[Value.int IntKind.i64 op, Value.int IntKind.i64 n, Value.slice A k.len c] 25)
      rw [← hTd] at hrow1
      have hon1 : Only g w.heap.size w (w.alloc (Obj.cells #[Value.int IntKind.i64 op, Value.int IntKind.i64 n, Value.slice A k.len c] 25)) := (Only.refl _ _ _).alloc (Nat.le_refl _) _
      have hr1 := Row.fresh w 25 #[Value.int IntKind.i64 op, Value.int IntKind.i64 n, Value.slice A k.len c]
      have hs1 : w.heap.size + 1 ≤ (w.alloc (Obj.cells #[Value.int IntKind.i64 op, Value.int IntKind.i64 n, Value.slice A k.len c] 25)).heap.size := by simp
      have HON := Lib.hid hon1
      have HR := Lib.hid hr1
      have HROW := Lib.hid hrow1
      have HSZ := Lib.hid hs1
      have h77 : (op == 7) = false := by simpa using hop
      clear hon1 hr1 hrow1 hs1 hTd hrow hbo
      go_enter Try.func27, Try.ntmps27
      go_wp2_with fail
      generalize w.alloc (Obj.cells #[Value.int IntKind.i64 op, Value.int IntKind.i64 n, Value.slice A k.len c] 25) = w1 at *
      go_loopw [0, 5] (fun s i wr => ∃ (j : Nat), j ≤ k.len ∧ i = .int .i64 j ∧ s = .slice (some ⟨g, 0, none⟩) 8 8 ∧ Row wr w.heap.size 25 #[Value.int IntKind.i64 op, Value.int IntKind.i64 n, Value.slice A k.len c] ∧
          (∃ U : Nat → Nat, Row wr g 3 (cellsN U) ∧ (∀ i, i < 8 → T i + letsF i k = U i + letsF i (k.drop j) ∧ U i + (k.drop j).size ≤ 4194304) ∧ bindsOkF (k.drop j) = true) ∧ Only g w.heap.size w wr ∧ w.heap.size + 1 ≤ wr.heap.size)
        (fun _ i _ => k.len - (intOf i).toNat)
      case atStart => exact ⟨0, Nat.zero_le _, rfl, rfl, HR.out, ⟨T, HROW.out, fun i hi => by rw [Fo.drop_zero]; exact ⟨rfl, HT.out i hi⟩, by rw [Fo.drop_zero]; exact HBK.out⟩, HON.out, HSZ.out⟩
      case round =>
        clear HON HR HROW HSZ
        obtain ⟨j, hj, rfl, rfl, hrE, ⟨U, hrU, hU, hbk⟩, hon, hszr⟩ := hrel
        have q2 := hrE.cell (i := 2) rfl
        have HU := Lib.hid hU
        clear hU
        by_cases hlt : j < k.len
        · obtain ⟨op', n', k', e1, e2, e3⟩ := Fo.drop_of_lt k j hlt
          have hj' := (hl.only hon hB hg).at_ j
          rw [Nat.zero_add, e1] at hj'
          obtain ⟨⟨b, o, A', c', hA, hb1, hb2, i1, i2, g1, g2, g3, h1, h2, h3⟩, _⟩ := hj'
          subst hA
          have HE := Lib.hid e1
          have E3 := Lib.hid e3
          obtain ⟨hbk1, hbk2⟩ := bindsOkF_cons e1 hbk
          have hdz := Fo.drop_size_le k j
          have hroom : ∀ i, i < 8 → U i + (k'.size + 1) ≤ 4194304 := fun i hi => by
            have h1 := (HU.out i hi).2
            have h2 := E3.out
            omega
          have HC := Lib.hid (ih k'.size (by omega) op' n' k' A' c' wr U rfl h3 (by omega) hg hrU hbk1 hroom (by omega))
          have HBK2 := Lib.hid hbk2
          have HRE := Lib.hid hrE
          have HONr := Lib.hid hon
          clear hrE hrU hon e1 h3 ih hl hbk hbk1 hbk2 hroom hdz
          go_wp2_with fail
          refine HC.out.mono ?_
          rintro e w2 ⟨rfl, hrow2, hon2⟩
          have HRE2 := Lib.hid (HRE.out.only hon2 (by omega) (by omega))
          have HON2 := Lib.hid (HONr.out.trans (hon2.mono (by omega)))
          have HS2 := Lib.hid (Nat.le_trans hszr hon2.size)
          have HU2 : ∀ i, i < 8 → T i + letsF i k = (U i + letsN i op' n' k') + letsF i (k.drop (j + 1)) ∧ (U i + letsN i op' n' k') + (k.drop (j + 1)).size ≤ 4194304 := fun i hi => by
            obtain ⟨h1, h2⟩ := HU.out i hi
            have h3 := letsF_cons (v := i) HE.out
            have h4 := letsN_le i op' n' k'
            have h5 := E3.out
            exact ⟨by omega, by omega⟩
          have HUU := Lib.hid HU2
          have HROW2 := Lib.hid hrow2
          clear hrow2 hon2 HU2 q2 g1 g2 g3 HC HRE HONr
          go_wp2_with fail
          go_roundw
          case rel => exact ⟨j + 1, hlt, by go_num, rfl, HRE2.out, ⟨_, HROW2.out, HUU.out, HBK2.out⟩, HON2.out, HS2.out⟩
          case measure => simp [intOf]; omega
        · have e9 : j = k.len := by omega
          have hfin : ∀ i, i < 8 → U i = S i + letsN i op n k := fun i hi => by
            have h1 := (HU.out i hi).1
            rw [e9, Fo.drop_len] at h1
            have h2 := HTS.out i hi
            simp only [letsF] at h1
            unfold letsN
            omega
          have HF := Lib.hid hfin
          clear hfin
          go_wp2
          go_ret
          exact ⟨rfl, by rw [← cellsN_congr (fun i hi => HF.out i hi)]; exact hrU, hon⟩
end Go.Proofs.Ytpoicdbjmhageaa
