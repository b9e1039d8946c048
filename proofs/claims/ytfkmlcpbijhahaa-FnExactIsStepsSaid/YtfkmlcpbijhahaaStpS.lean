/-
  spec.l11Steps, spec.IsSteps.
-/
import Derived.Test.YtfkmlcpbijhahaaStpD
import Derived.Test.YtfkmlcpbijhahaaOpen
import Derived.Test.YtfkmlcpbijhahaaNodesI
namespace Go.Proofs.Ytfkmlcpbijhahaa
open Go.RowKit Go.Shelf
set_option maxRecDepth 100000

/-- A let or a sequence has two operands. -/
def two7 (op : Int) (l : Nat) : Bool := !(decide (op = 7) || decide (op = 8)) || decide (l = 2)
def lets2 : Fo → Bool
  | .nil => true
  | .cons o _ k r => (two7 o k.len && lets2 k) && lets2 r
theorem two7_ok {op : Int} {l : Nat} (h : kidsOk op l = true) : two7 op l = true := by
  unfold two7
  by_cases h7 : op = 7
  · subst h7; simpa [kidsOk] using h
  · by_cases h8 : op = 8
    · subst h8; simpa [kidsOk] using h
    · simp [h7, h8]
theorem lets2_shape : ∀ (f : Fo) (op n : Int) (i : Nat) (S : Nat → Bool) (d : Nat), shapeF op n i S d f = true → lets2 f = true
  | .nil, _, _, _, _, _, _ => rfl
  | .cons o m k r, op, n, i, S, d, h => by
    unfold shapeF at h
    simp only [Bool.and_eq_true] at h
    obtain ⟨⟨⟨⟨_, h1⟩, _⟩, h2⟩, h3⟩ := h
    unfold lets2
    rw [two7_ok h1, lets2_shape k _ _ _ _ _ h2, lets2_shape r _ _ _ _ _ h3]
    rfl
theorem lets2_is {op n : Int} {k : Fo} {S : Nat → Bool} (h : nodeIs op n k S = true) : two7 op k.len = true ∧ lets2 k = true := by
  unfold nodeIs nodeShape at h
  simp only [Bool.and_eq_true] at h
  obtain ⟨⟨⟨⟨_, h1⟩, _⟩, h2⟩, _⟩ := h
  exact ⟨two7_ok h1, lets2_shape k _ _ _ _ _ h2⟩
theorem lets2_at : ∀ {f : Fo} (_ : lets2 f = true) (j : Nat) {o m : Int} {k r : Fo}, f.drop j = .cons o m k r → two7 o k.len = true ∧ lets2 k = true
  | .nil, _, 0, _, _, _, _, e => by cases e
  | .nil, _, _ + 1, _, _, _, _, e => by rw [Fo.drop_nil] at e; cases e
  | .cons o m k r, h, 0, _, _, _, _, e => by
    rw [Fo.drop_zero] at e
    injection e with e1 e2 e3 e4
    subst e1 e2 e3
    unfold lets2 at h
    simp only [Bool.and_eq_true] at h
    exact h.1
  | .cons o m k r, h, j + 1, _, _, _, _, e => by
    unfold lets2 at h
    simp only [Bool.and_eq_true] at h
    exact lets2_at h.2 j (by simpa only [Fo.drop] using e)

set_option maxHeartbeats 4000000 in
theorem l11Steps_any (m : Nat) : ∀ (op n : Int) (k : Fo) (A : Option Addr) (c : Nat) (w : World), k.size = m → Lies w 0 w.heap.size A 0 k → k.size ≤ 1048576 → two7 op k.len = true → lets2 k = true →
    Calls Try.prog 11 #[.agg #[.int .i64 op, .int .i64 n, .slice A k.len c]] w (Gives (.bool (kidsM op 0 k)) w) := by
  induction m using Nat.strongRecOn with
  | _ m ih =>
    intro op n k A c w hm hl hsz h72 hle
    have hlen := Fo.len_le_size k
    obtain ⟨hb0, hr0⟩ := one_box w 29 #[Value.int IntKind.i64 op, Value.int IntKind.i64 n, Value.slice A k.len c]
    have HR := Lib.hid hr0
    have HB := Lib.hid hb0
    have HL := Lib.hid hl
    have HLE := Lib.hid hle
    have IH := Lib.hid (show ∀ (o' n' : Int) (k' : Fo) (A' : Option Addr) (c' : Nat) (V : World), k'.size < k.size → Lies V 0 V.heap.size A' 0 k' → two7 o' k'.len = true → lets2 k' = true → Calls Try.prog 11 #[.agg #[.int .i64 o', .int .i64 n', .slice A' k'.len c']] V (Gives (.bool (kidsM o' 0 k')) V) from fun o' n' k' A' c' V h1 h2 h3 h4 => ih k'.size (by omega) o' n' k' A' c' V rfl h2 (by omega) h3 h4)
    have q0 := hr0.cell (i := 0) rfl
    have q2 := hr0.cell (i := 2) rfl
    clear ih hb0 hr0 hl hle
    by_cases h78 : op = 7 ∨ op = 8
    · have hk2 : k.len = 2 := by
        unfold two7 at h72
        rcases h78 with e | e <;> subst e <;> simpa using h72
      obtain ⟨o1, n1, k1, e1, s1, _⟩ := Fo.drop_of_lt k 0 (by omega)
      obtain ⟨o2, n2, k2, e2, s2, _⟩ := Fo.drop_of_lt k 1 (by omega)
      have HF := Lib.hid (show kidsM op 0 k = (kidsM o1 0 k1 && kidsM o2 0 k2) by
        have a1 := kidsM_at (op := op) (f := k) 0 (i := 0) e1
        have a2 := kidsM_at (op := op) (f := k) 1 (i := 0) e2
        have a3 : k.drop (1 + 1) = .nil := by
          have := Fo.drop_len k
          rw [hk2] at this
          exact this
        have ht : ∀ j, takesB op j = false := fun j => by unfold takesB; rcases h78 with e | e <;> subst e <;> rfl
        rw [ht, if_neg (by simp), Fo.drop_zero] at a1
        rw [ht, if_neg (by simp), a3] at a2
        have a4 : kidsM op 0 k = (kidsM o1 0 k1 && kidsM op 1 (k.drop 1)) := a1
        rw [a4, show kidsM op 1 (k.drop 1) = (kidsM o2 0 k2 && true) from a2, Bool.and_true])
      obtain ⟨t1, l1⟩ := lets2_at HLE.out 0 e1
      obtain ⟨t2, l2⟩ := lets2_at HLE.out 1 e2
      have j1 := (HL.out.below HB.out).at_ 0
      rw [Nat.zero_add, e1] at j1
      obtain ⟨⟨b, o, A1, c1, hA, _, hbb, _, _, g1, g2, g3, _, _, x1⟩, _⟩ := j1
      subst hA
      simp only [Nat.zero_mul, Nat.add_zero] at g1 g2 g3
      have HG2 := Lib.hid (show ∀ V, Below (w.alloc (Obj.cells #[Value.int IntKind.i64 op, Value.int IntKind.i64 n, Value.slice (some ⟨b, o, none⟩) k.len c] 29)).heap.size (w.alloc (Obj.cells #[Value.int IntKind.i64 op, Value.int IntKind.i64 n, Value.slice (some ⟨b, o, none⟩) k.len c] 29)) V → ∃ A2 c2, V.cell? ⟨b, o + 3, none⟩ = some (.int .i64 o2) ∧ V.cell? ⟨b, o + 3 + 1, none⟩ = some (.int .i64 n2) ∧ V.cell? ⟨b, o + 3 + 2, none⟩ = some (.slice A2 k2.len c2) ∧ Lies V 0 V.heap.size A2 0 k2 ∧ Below w.heap.size w V ∧ V.cell? ⟨w.heap.size, 2, none⟩ = some (.slice (some ⟨b, o, none⟩) k.len c) from fun V hV => by
        have hbV := HB.out.trans (hV.mono HB.out.size)
        have j2 := (HL.out.below hbV).at_ 1
        rw [Nat.zero_add, e2] at j2
        obtain ⟨⟨b', o', A2, c2, hA, _, hbb', _, _, y1, y2, y3, _, _, x2⟩, _⟩ := j2
        injection hA with hA
        injection hA with hA1 hA2
        subst hA1 hA2
        exact ⟨A2, c2, y1, y2, y3, x2.mono_ (Nat.le_refl _) hbV.size, hbV, (HR.out.below hV HR.out.size).cell (i := 2) rfl⟩)
      have HC1 := Lib.hid (IH.out o1 n1 k1 A1 c1 _ s1 (x1.mono_ (Nat.le_refl _) HB.out.size) t1 l1)
      have p0 : (0 : Int) < (k.len : Int) := by omega
      have p1 : (1 : Int) < (k.len : Int) := by omega
      clear x1 e1 e2 hk2
      have h78' : (op == 7) = true ∨ ((op == 7) = false ∧ (op == 8) = true) := by rcases h78 with e | e <;> subst e <;> decide
      rcases h78' with h7 | ⟨h7, h8⟩
      all_goals
        go_enter Try.func11, Try.ntmps11
        go_wp2_with fail
        refine HC1.out.mono ?_
        rintro e w2 ⟨rfl, hb2⟩
        obtain ⟨A2, c2, y1, y2, y3, x2, hbw, y4⟩ := HG2.out w2 hb2
        cases hf : kidsM o1 0 k1 with
        | false =>
          have HBW := Lib.hid hbw
          have HV := Lib.hid hf
          clear hf x2 hbw hb2
          go_wp2_with fail
          go_ret
          exact ⟨ret_bool (by rw [HF.out, HV.out]; rfl), HBW.out⟩
        | true =>
          have HV := Lib.hid hf
          have HC2 := Lib.hid (IH.out o2 n2 k2 A2 c2 w2 s2 x2 t2 l2)
          have HBW := Lib.hid hbw
          clear hf x2 hbw hb2
          go_wp2_with fail
          refine HC2.out.mono ?_
          rintro e w3 ⟨rfl, hb3⟩
          have HBX := Lib.hid (HBW.out.trans (hb3.mono HBW.out.size))
          clear hb3
          go_wp2_with fail
          go_ret
          exact ⟨ret_bool (by rw [HF.out, HV.out]; rfl), HBX.out⟩
    · have h7 : (op == 7) = false := by simp; omega
      have h8 : (op == 8) = false := by simp; omega
      have HT := Lib.hid (show ∀ j, takesB op j = (!decide (op = 6) || decide (j = 0)) from fun j => by
        unfold takesB
        rw [decide_eq_false (show ¬ op = 7 by omega), decide_eq_false (show ¬ op = 8 by omega)]
        rfl)
      clear h72 h78
      go_enter Try.func11, Try.ntmps11
      go_wp2_with fail
      clear q0 q2
      go_loopw [3] (fun i wr => ∃ (j : Nat), j ≤ k.len ∧ i = .int .i64 (j : Int) ∧ Hid (kidsM op 0 k = kidsM op j (k.drop j)) ∧ Row wr w.heap.size 29 #[Value.int IntKind.i64 op, Value.int IntKind.i64 n, Value.slice A k.len c] ∧ Below w.heap.size w wr)
        (fun i _ => k.len - (intOf i).toNat)
      case atStart => exact ⟨0, Nat.zero_le _, rfl, Lib.hid (by rw [Fo.drop_zero]), HR.out, HB.out⟩
      case round =>
        clear HR HB
        obtain ⟨j, hj, rfl, HF, hr, hb⟩ := hrel
        have q0 := hr.cell (i := 0) rfl
        have q2 := hr.cell (i := 2) rfl
        by_cases hlt : j < k.len
        · have hji : (j : Int) < (k.len : Int) := by omega
          obtain ⟨o1, n1, k1, e1, s1, _⟩ := Fo.drop_of_lt k j hlt
          obtain ⟨t1, l1⟩ := lets2_at HLE.out j e1
          have j1 := (HL.out.below hb).at_ j
          rw [Nat.zero_add, e1] at j1
          obtain ⟨⟨b, o, A1, c1, hA, _, hbb, _, _, g1, g2, g3, _, _, x1⟩, _⟩ := j1
          subst hA
          have a1 := kidsM_at (op := op) (f := k) j (i := 0) e1
          rw [Nat.zero_add, Nat.zero_add] at a1
          have HE := Lib.hid (HF.out.trans a1)
          have HX := Lib.hid (x1.mono_ (Nat.le_refl 0) hb.size)
          have HRR := Lib.hid hr
          have HBR := Lib.hid hb
          clear e1 a1 x1 hr hb HF
          cases ht : takesB op j with
          | false =>
            rw [ht, if_neg (by simp)] at HE
            have ht2 := (HT.out j).symm.trans ht
            rw [Bool.or_eq_false_iff] at ht2
            have h6 : (op == 6) = true := by have := ht2.1; simpa using this
            have hj0 : (0 : Int) < (j : Int) := by have := of_decide_eq_false ht2.2; omega
            have HC := Lib.hid (IH.out o1 n1 k1 A1 c1 wr s1 HX.out t1 l1)
            clear ht ht2
            go_wp2_with fail
            refine HC.out.mono ?_
            rintro e w2 ⟨rfl, hb2⟩
            have HR2 := Lib.hid (HRR.out.below hb2 HRR.out.size)
            have HB2 := Lib.hid (HBR.out.trans (hb2.mono HBR.out.size))
            clear hb2 q0 q2 g1 g2 g3 HC
            cases hf : kidsM o1 0 k1 with
            | true =>
              rw [hf, Bool.true_and] at HE
              clear hf
              go_wp2
              go_roundw
              case rel => exact ⟨j + 1, hlt, by go_num, HE, HR2.out, HB2.out⟩
              case measure => simp [intOf]; omega
            | false =>
              rw [hf, Bool.false_and] at HE
              clear hf
              go_wp2
              go_ret
              exact ⟨ret_bool (by rw [HE.out]), HB2.out⟩
          | true =>
            rw [ht, if_pos rfl] at HE
            have ht2 := (HT.out j).symm.trans ht
            have HC := Lib.hid (specAtom_any o1 n1 k1 A1 c1 wr)
            have h60 : (op == 6) = false ∨ ((op == 6) = true ∧ ¬ (0 : Int) < (j : Int)) := by
              by_cases h6 : op = 6
              · refine .inr ⟨by simpa using h6, ?_⟩
                rw [decide_eq_true h6] at ht2
                have := of_decide_eq_true (show decide (j = 0) = true by simpa using ht2)
                omega
              · exact .inl (by simpa using h6)
            clear ht ht2
            rcases h60 with h6 | ⟨h6, hj0⟩
            all_goals
              go_wp2_with fail
              refine HC.out.mono ?_
              rintro e w2 ⟨rfl, hb2⟩
              have HR2 := Lib.hid (HRR.out.below hb2 HRR.out.size)
              have HB2 := Lib.hid (HBR.out.trans (hb2.mono HBR.out.size))
              clear hb2 q0 q2 g1 g2 g3 HC
              cases hf : atomB o1 k1 with
              | true =>
                rw [hf, Bool.true_and] at HE
                clear hf
                go_wp2
                go_roundw
                case rel => exact ⟨j + 1, hlt, by go_num, HE, HR2.out, HB2.out⟩
                case measure => simp [intOf]; omega
              | false =>
                rw [hf, Bool.false_and] at HE
                clear hf
                go_wp2
                go_ret
                exact ⟨ret_bool (by rw [HE.out]), HB2.out⟩
        · have hje : j = k.len := by omega
          have hji : ¬ (j : Int) < (k.len : Int) := by omega
          have HZ := Lib.hid (show kidsM op 0 k = true by rw [HF.out, hje, Fo.drop_len]; rfl)
          have HBW := Lib.hid hb
          clear HF hr hb hje
          go_wp2
          go_ret
          exact ⟨ret_bool (by rw [HZ.out]), HBW.out⟩

set_option maxHeartbeats 1000000 in
theorem specSteps_any (op n : Int) (k : Fo) (A : Option Addr) (c : Nat) (w : World) (hl : Lies w 0 w.heap.size A 0 k) (hlen : k.len ≤ maxLen) (hsz : k.size ≤ 1048576) :
    Calls Try.prog 5 #[.agg #[.int .i64 op, .int .i64 n, .slice A k.len c]] w (Gives (.bool (stepsB op n k)) w) := by
  obtain ⟨hb0, hr0⟩ := one_box w 29 #[Value.int IntKind.i64 op, Value.int IntKind.i64 n, Value.slice A k.len c]
  have HA := Lib.hid (l1Any_any op n k A c _ (hl.up hb0) hlen)
  have HS := Lib.hid (steps_model op n k)
  have HR := Lib.hid hr0
  have HB := Lib.hid hb0
  have HL := Lib.hid hl
  have q0 := hr0.cell (i := 0) rfl
  have q1 := hr0.cell (i := 1) rfl
  have q2 := hr0.cell (i := 2) rfl
  clear hb0 hr0 hl
  go_enter Try.func5, Try.ntmps5
  go_wp2_with fail
  refine HA.out.mono ?_
  rintro e w2 ⟨rfl, hb2⟩
  have HB2 := Lib.hid (HB.out.trans (hb2.mono HB.out.size))
  have HR2 := Lib.hid (HR.out.below hb2 HR.out.size)
  clear hb2 q0 q1 q2 HA HB HR
  cases hv : nodeIs op n k (firstS 8) with
  | false =>
    have HV := Lib.hid hv
    clear hv
    go_wp2_with fail
    go_ret
    exact ⟨ret_bool (by rw [← HS.out, HV.out]; rfl), HB2.out⟩
  | true =>
    have HV := Lib.hid hv
    obtain ⟨t1, l1⟩ := lets2_is hv
    have HC := Lib.hid (l11Steps_any k.size op n k A c w2 rfl (HL.out.up HB2.out) hsz t1 l1)
    have q0 := HR2.out.cell (i := 0) rfl
    have q1 := HR2.out.cell (i := 1) rfl
    have q2 := HR2.out.cell (i := 2) rfl
    clear hv
    go_wp2_with fail
    refine HC.out.mono ?_
    rintro e w3 ⟨rfl, hb3⟩
    have HB3 := Lib.hid (HB2.out.trans (hb3.mono HB2.out.size))
    clear hb3 q0 q1 q2
    go_wp2_with fail
    go_ret
    exact ⟨ret_bool (by rw [← HS.out, HV.out]; rfl), HB3.out⟩
end Go.Proofs.Ytfkmlcpbijhahaa
