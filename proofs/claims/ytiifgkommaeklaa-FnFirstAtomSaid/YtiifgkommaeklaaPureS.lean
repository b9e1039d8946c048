/-
  spec.l5Pure, spec.l5Right.
-/
import Derived.Test.YtiifgkommaeklaaEffS
import Derived.Test.YtiifgkommaeklaaEffD
import Derived.Test.YtiifgkommaeklaaLibVS
import Derived.Test.YtiifgkommaeklaaLibVD
namespace Go.Proofs.Ytiifgkommaeklaa
open Go.RowKit
set_option maxRecDepth 100000

set_option maxHeartbeats 2000000 in
theorem l5Pure_loop (ds : List De) (DA : Option Addr) (DC : Nat) (op n : Int) (k : Fo) (A : Option Addr) (c : Nat) (w : World) (hown : pureOwn ds op n = true) (hd : LiesD w 0 w.heap.size DA ds) (hl : Lies w 0 w.heap.size A 0 k) (hdz : sizeD ds ≤ 1048576) (hnm : ∀ d ∈ ds, inVar d.nm = true) (hsz : k.size ≤ 1048576)
    (ih : ∀ (op' n' : Int) (k' : Fo) (A' : Option Addr) (c' : Nat) (w' : World), k'.size < k.size → LiesD w' 0 w'.heap.size DA ds → Lies w' 0 w'.heap.size A' 0 k' → Calls Try.prog 39 #[.slice DA ds.length DC, .agg #[.int .i64 op', .int .i64 n', .slice A' k'.len c']] w' (Gives (.bool (pureS ds op' n' k')) w')) :
    Calls Try.prog 39 #[.slice DA ds.length DC, .agg #[.int .i64 op, .int .i64 n, .slice A k.len c]] w (Gives (.bool (pureF ds k)) w) := by
  have hlen := Fo.len_le_size k
  obtain ⟨hb0, hr0⟩ := one_box w 26 #[Value.int IntKind.i64 op, Value.int IntKind.i64 n, Value.slice A k.len c]
  have q0 := hr0.cell (i := 0) rfl
  have q1 := hr0.cell (i := 1) rfl
  have HR1 := Lib.hid hr0
  have HB1 := Lib.hid hb0
  have HL := Lib.hid hl
  have HD := Lib.hid hd
  have HIH := Lib.hid ih
  clear hr0 hb0 hl hd ih
  have h9 : op ≠ 9 := fun e => by subst e; simp [pureOwn] at hown
  have h9' : (op == 9) = false := by simpa using h9
  by_cases h3 : op = 3
  · subst h3
    have hq : quietS ds n = true := by
      cases h : quietS ds n with
      | true => rfl
      | false => simp [pureOwn, h] at hown
    have he : endingS ds n = true := by
      cases h : endingS ds n with
      | true => rfl
      | false => simp [pureOwn, h] at hown
    have HQ := Lib.hid (hq ▸ l5Quiet_any ds DA DC n _ (HD.out.up HB1.out) hdz hnm)
    have HE := Lib.hid (fun W (hb : Below w.heap.size w W) => show Calls Try.prog 55 _ W (Gives (.bool true) W) from he ▸ l5Ending_any ds DA DC n W (HD.out.up hb) hdz hnm)
    clear hq he hown h9
    go_enter Try.func39, Try.ntmps39
    go_wp2_with fail
    refine HQ.out.mono ?_
    rintro e w2 ⟨rfl, hb2⟩
    have HB2 := Lib.hid (HB1.out.trans (hb2.mono HB1.out.size))
    have HR2 := Lib.hid (HR1.out.below hb2 HR1.out.size)
    have z1 := HR2.out.cell (i := 1) rfl
    clear hb2 HB1 HR1 HQ q0 q1
    go_wp2_with fail
    refine (HE.out w2 HB2.out).mono ?_
    rintro e w3 ⟨rfl, hb3⟩
    have HB3 := Lib.hid (HB2.out.trans (hb3.mono HB2.out.size))
    have HR3 := Lib.hid (HR2.out.below hb3 HR2.out.size)
    clear hb3 HB2 HR2 HE z1
    go_wp2_with fail
    go_loopw [5] (fun i wr => ∃ (j : Nat), j ≤ k.len ∧ i = .int .i64 j ∧ Hid (pureF ds k = pureF ds (k.drop j)) ∧ Row wr w.heap.size 26 #[Value.int IntKind.i64 3, Value.int IntKind.i64 n, Value.slice A k.len c] ∧ Below w.heap.size w wr)
      (fun i _ => k.len - (intOf i).toNat)
    case atStart => exact ⟨0, Nat.zero_le _, rfl, Lib.hid (by rw [Fo.drop_zero]), HR3.out, HB3.out⟩
    case round =>
      clear HR3 HB3
      obtain ⟨j, hj, rfl, HF, hrE, hb⟩ := hrel
      have q2 := hrE.cell (i := 2) rfl
      by_cases hlt : j < k.len
      · obtain ⟨op', n', k', e1, e2, e3⟩ := Fo.drop_of_lt k j hlt
        have hj' := (HL.out.below hb).at_ j
        rw [Nat.zero_add, e1] at hj'
        obtain ⟨⟨b, o, A', c', hA, _, hb2, i1, i2, g1, g2, g3, h1, h2, h3⟩, _⟩ := hj'
        subst hA
        have HE := Lib.hid (HF.out.trans (pureF_cons e1))
        have HC := Lib.hid (HIH.out op' n' k' A' c' wr e2 (HD.out.up hb) (h3.mono_ (Nat.le_refl _) hb.size))
        have HRE := Lib.hid hrE
        have HB := Lib.hid hb
        clear hrE hb e1 h3 HF
        go_wp2_with fail
        refine HC.out.mono ?_
        rintro e w4 ⟨rfl, hb3⟩
        have HR2 := Lib.hid (HRE.out.below hb3 HRE.out.size)
        have HB2 := Lib.hid (HB.out.trans (hb3.mono HB.out.size))
        clear hb3 q2 g1 g2 g3 HC HRE HB
        cases hf : pureS ds op' n' k' with
        | true =>
          rw [hf, Bool.true_and] at HE
          clear hf
          go_wp2
          go_roundw
          case rel => exact ⟨j + 1, hlt, by go_num, HE, HR2.out, HB2.out⟩
          case measure => simp [intOf]; omega
        | false =>
          rw [hf, Bool.false_and] at HE
          clear hf
          go_wp2
          go_ret
          exact ⟨ret_bool (by rw [HE.out]), HB2.out⟩
      · have e9 : j = k.len := by omega
        have HZ := Lib.hid (show pureF ds k = true by rw [HF.out, e9, Fo.drop_len]; rfl)
        clear HF
        go_wp2
        go_ret
        exact ⟨ret_bool (by rw [HZ.out]), hb⟩
  · have h3' : (op == 3) = false := by simpa using h3
    clear hown h9 h3
    go_enter Try.func39, Try.ntmps39
    go_wp2_with fail
    clear q0 q1
    go_loopw [5] (fun i wr => ∃ (j : Nat), j ≤ k.len ∧ i = .int .i64 j ∧ Hid (pureF ds k = pureF ds (k.drop j)) ∧ Row wr w.heap.size 26 #[Value.int IntKind.i64 op, Value.int IntKind.i64 n, Value.slice A k.len c] ∧ Below w.heap.size w wr)
      (fun i _ => k.len - (intOf i).toNat)
    case atStart => exact ⟨0, Nat.zero_le _, rfl, Lib.hid (by rw [Fo.drop_zero]), HR1.out, HB1.out⟩
    case round =>
      clear HR1 HB1
      obtain ⟨j, hj, rfl, HF, hrE, hb⟩ := hrel
      have q2 := hrE.cell (i := 2) rfl
      by_cases hlt : j < k.len
      · obtain ⟨op', n', k', e1, e2, e3⟩ := Fo.drop_of_lt k j hlt
        have hj' := (HL.out.below hb).at_ j
        rw [Nat.zero_add, e1] at hj'
        obtain ⟨⟨b, o, A', c', hA, _, hb2, i1, i2, g1, g2, g3, h1, h2, h3⟩, _⟩ := hj'
        subst hA
        have HE := Lib.hid (HF.out.trans (pureF_cons e1))
        have HC := Lib.hid (HIH.out op' n' k' A' c' wr e2 (HD.out.up hb) (h3.mono_ (Nat.le_refl _) hb.size))
        have HRE := Lib.hid hrE
        have HB := Lib.hid hb
        clear hrE hb e1 h3 HF
        go_wp2_with fail
        refine HC.out.mono ?_
        rintro e w4 ⟨rfl, hb3⟩
        have HR2 := Lib.hid (HRE.out.below hb3 HRE.out.size)
        have HB2 := Lib.hid (HB.out.trans (hb3.mono HB.out.size))
        clear hb3 q2 g1 g2 g3 HC HRE HB
        cases hf : pureS ds op' n' k' with
        | true =>
          rw [hf, Bool.true_and] at HE
          clear hf
          go_wp2
          go_roundw
          case rel => exact ⟨j + 1, hlt, by go_num, HE, HR2.out, HB2.out⟩
          case measure => simp [intOf]; omega
        | false =>
          rw [hf, Bool.false_and] at HE
          clear hf
          go_wp2
          go_ret
          exact ⟨ret_bool (by rw [HE.out]), HB2.out⟩
      · have e9 : j = k.len := by omega
        have HZ := Lib.hid (show pureF ds k = true by rw [HF.out, e9, Fo.drop_len]; rfl)
        clear HF
        go_wp2
        go_ret
        exact ⟨ret_bool (by rw [HZ.out]), hb⟩

set_option maxHeartbeats 2000000 in
theorem l5Pure_any (ds : List De) (DA : Option Addr) (DC : Nat) (hdz : sizeD ds ≤ 1048576) (hnm : ∀ d ∈ ds, inVar d.nm = true) (m : Nat) : ∀ (op n : Int) (k : Fo) (A : Option Addr) (c : Nat) (w : World), k.size = m → LiesD w 0 w.heap.size DA ds → Lies w 0 w.heap.size A 0 k → k.size ≤ 1048576 →
    Calls Try.prog 39 #[.slice DA ds.length DC, .agg #[.int .i64 op, .int .i64 n, .slice A k.len c]] w (Gives (.bool (pureS ds op n k)) w) := by
  induction m using Nat.strongRecOn with
  | _ m ih =>
    intro op n k A c w hm hd hl hsz
    by_cases hown : pureOwn ds op n = true
    · have hp : pureS ds op n k = pureF ds k := by unfold pureS; rw [hown, Bool.true_and]
      rw [hp]
      exact l5Pure_loop ds DA DC op n k A c w hown hd hl hdz hnm hsz (fun op' n' k' A' c' w' hs hd' hl' => ih k'.size (by omega) op' n' k' A' c' w' rfl hd' hl' (by omega))
    · have hno : pureOwn ds op n = false := Bool.eq_false_iff.2 hown
      have HP := Lib.hid (show pureS ds op n k = false by unfold pureS; rw [hno, Bool.false_and])
      obtain ⟨hb0, hr0⟩ := one_box w 26 #[Value.int IntKind.i64 op, Value.int IntKind.i64 n, Value.slice A k.len c]
      have q0 := hr0.cell (i := 0) rfl
      have q1 := hr0.cell (i := 1) rfl
      have HR1 := Lib.hid hr0
      have HB1 := Lib.hid hb0
      have HD := Lib.hid hd
      clear hr0 hb0 hl hd ih hown
      by_cases h9 : op = 9
      · subst h9
        go_enter Try.func39, Try.ntmps39
        go_wp2
        go_ret
        exact ⟨ret_bool (by rw [HP.out]), HB1.out⟩
      · have h9' : (op == 9) = false := by simpa using h9
        by_cases h3 : op = 3
        · subst h3
          have HQ := Lib.hid (l5Quiet_any ds DA DC n _ (HD.out.up HB1.out) hdz hnm)
          have HE := Lib.hid (fun W (hb : Below w.heap.size w W) => l5Ending_any ds DA DC n W (HD.out.up hb) hdz hnm)
          cases hq : quietS ds n with
          | false =>
            rw [hq] at HQ
            clear hq hno h9
            go_enter Try.func39, Try.ntmps39
            go_wp2_with fail
            refine HQ.out.mono ?_
            rintro e w2 ⟨rfl, hb2⟩
            have HB2 := Lib.hid (HB1.out.trans (hb2.mono HB1.out.size))
            clear hb2 HB1 HR1 HQ q0 q1
            go_wp2
            go_ret
            exact ⟨ret_bool (by rw [HP.out]), HB2.out⟩
          | true =>
            rw [hq] at HQ
            have he : endingS ds n = false := by
              cases h : endingS ds n with
              | false => rfl
              | true => simp [pureOwn, h, hq] at hno
            clear hq hno h9
            go_enter Try.func39, Try.ntmps39
            go_wp2_with fail
            refine HQ.out.mono ?_
            rintro e w2 ⟨rfl, hb2⟩
            have HB2 := Lib.hid (HB1.out.trans (hb2.mono HB1.out.size))
            have HR2 := Lib.hid (HR1.out.below hb2 HR1.out.size)
            have z1 := HR2.out.cell (i := 1) rfl
            clear hb2 HB1 HR1 HQ q0 q1
            go_wp2_with fail
            refine (HE.out w2 HB2.out).mono ?_
            rintro e w3 ⟨rfl, hb3⟩
            rw [he]
            have HB3 := Lib.hid (HB2.out.trans (hb3.mono HB2.out.size))
            clear hb3 HB2 HR2 HE z1 he
            go_wp2
            go_ret
            exact ⟨ret_bool (by rw [HP.out]), HB3.out⟩
        · simp [pureOwn, h9, h3] at hno

set_option maxHeartbeats 2000000 in
theorem l5Right_any (ds : List De) (DA : Option Addr) (DC : Nat) (op n : Int) (k : Fo) (A : Option Addr) (c : Nat) (w : World) (hd : LiesD w 0 w.heap.size DA ds) (hl : Lies w 0 w.heap.size A 0 k) (hdz : sizeD ds ≤ 1048576) (hlen : k.len ≤ maxLen) (hsz : k.size ≤ 1048576) :
    Calls Try.prog 28 #[.slice DA ds.length DC, .agg #[.int .i64 op, .int .i64 n, .slice A k.len c]] w (Gives (.bool (libOk ds && callsFitB ds op n k)) w) := by
  have hds := Nat.le_trans (sizeD_len ds) hdz
  obtain ⟨hb1, hr1⟩ := one_box w 26 #[Value.int IntKind.i64 op, Value.int IntKind.i64 n, Value.slice A k.len c]
  have HA := Lib.hid (specLibValid_any ds DA DC _ (hd.up hb1) hdz)
  have HB1 := Lib.hid hb1
  have HR1 := Lib.hid hr1
  have HD := Lib.hid hd
  have HL := Lib.hid hl
  clear hb1 hr1 hd hl
  cases hv : libOk ds with
  | false =>
    rw [hv] at HA
    rw [Bool.false_and]
    clear hv
    go_enter Try.func28, Try.ntmps28
    go_wp2_with fail
    refine HA.out.mono ?_
    rintro e w2 ⟨rfl, hb2⟩
    have HB2 := Lib.hid (HB1.out.trans (hb2.mono HB1.out.size))
    clear hb2 HA HB1 HR1
    go_wp2
    go_ret
    exact ⟨rfl, HB2.out⟩
  | true =>
    rw [hv] at HA
    rw [Bool.true_and]
    clear hv
    generalize hf : callsFitB ds op n k = z
    have HF := Lib.hid hf
    clear hf
    go_enter Try.func28, Try.ntmps28
    go_wp2_with fail
    refine HA.out.mono ?_
    rintro e w2 ⟨rfl, hb2⟩
    have HB2 := Lib.hid (HB1.out.trans (hb2.mono HB1.out.size))
    have HR2 := HR1.out.below hb2 HR1.out.size
    have q0 := HR2.cell (i := 0) rfl
    have q1 := HR2.cell (i := 1) rfl
    have q2 := HR2.cell (i := 2) rfl
    clear hb2 HA HB1 HR1 HR2
    go_wp2_with fail
    refine (specCallsFit_any ds DA DC op n k A c w2 (HD.out.up HB2.out) (HL.out.up HB2.out) hds hlen hsz).mono ?_
    rintro e w3 ⟨rfl, hb3⟩
    rw [HF.out]
    have HB3 := Lib.hid (HB2.out.trans (hb3.mono HB2.out.size))
    clear hb3 HB2 q0 q1 q2
    go_wp2
    go_ret
    exact ⟨rfl, HB3.out⟩
end Go.Proofs.Ytiifgkommaeklaa
