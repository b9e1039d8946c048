/-
  spec.ExprSame.
-/
import Derived.Test.YtgmhpfdhkcgbfaaGreatSameD
import Derived.Test.YtgmhpfdhkcgbfaaGreatFo
import Derived.Test.YtgmhpfdhkcgbfaaGreatRows
import Derived.WalkKit
import Derived.WalkSpells
import Derived.Lib.Hide
import Derived.StillTailTactics
namespace Go.Proofs.YtgmhpfdhkcgbfaaGreat
open Go.RowKit
set_option maxRecDepth 100000

set_option maxHeartbeats 400000 in
theorem specSame_any (m : Nat) : ∀ (op n op' n' : Int) (k k' : Fo) (A A' : Option Addr) (c c' : Nat) (w : World), k.size = m → Lies w 0 w.heap.size A 0 k → Lies w 0 w.heap.size A' 0 k' → k.size ≤ 1048576 → k'.size ≤ 1048576 →
    Calls Tryz.prog 47 #[.agg #[.int .i64 op, .int .i64 n, .slice A k.len c], .agg #[.int .i64 op', .int .i64 n', .slice A' k'.len c']] w (Gives (.bool (sameN op n k op' n' k')) w) := by
  induction m using Nat.strongRecOn with
  | _ m ih =>
    intro op n op' n' k k' A A' c c' w hm hl hl' hsz hsz'
    have hlen := Fo.len_le_size k
    have hlen' := Fo.len_le_size k'
    have hb0 : Below w.heap.size w ((w.alloc (Obj.cells #[Value.int IntKind.i64 op, Value.int IntKind.i64 n, Value.slice A k.len c] 34)).alloc (Obj.cells #[Value.int IntKind.i64 op', Value.int IntKind.i64 n', Value.slice A' k'.len c'] 34)) :=
      ((Below.refl _ _).alloc (Nat.le_refl _) _).alloc (by simp) _
    have hr0 : Row ((w.alloc (Obj.cells #[Value.int IntKind.i64 op, Value.int IntKind.i64 n, Value.slice A k.len c] 34)).alloc (Obj.cells #[Value.int IntKind.i64 op', Value.int IntKind.i64 n', Value.slice A' k'.len c'] 34)) w.heap.size 34 #[Value.int IntKind.i64 op, Value.int IntKind.i64 n, Value.slice A k.len c] :=
      (Row.fresh _ _ _).alloc _
    have hr1 : Row ((w.alloc (Obj.cells #[Value.int IntKind.i64 op, Value.int IntKind.i64 n, Value.slice A k.len c] 34)).alloc (Obj.cells #[Value.int IntKind.i64 op', Value.int IntKind.i64 n', Value.slice A' k'.len c'] 34)) (w.heap.size + 1) 34 #[Value.int IntKind.i64 op', Value.int IntKind.i64 n', Value.slice A' k'.len c'] := by
      have := Row.fresh (w.alloc (Obj.cells #[Value.int IntKind.i64 op, Value.int IntKind.i64 n, Value.slice A k.len c] 34)) 34 #[Value.int IntKind.i64 op', Value.int IntKind.i64 n', Value.slice A' k'.len c']
      rw [World.size_alloc] at this
      exact this
    have hs0 : w.heap.size + 2 ≤ ((w.alloc (Obj.cells #[Value.int IntKind.i64 op, Value.int IntKind.i64 n, Value.slice A k.len c] 34)).alloc (Obj.cells #[Value.int IntKind.i64 op', Value.int IntKind.i64 n', Value.slice A' k'.len c'] 34)).heap.size := by simp
    have hl0 := hl.below hb0
    have hl0' := hl'.below hb0
    have HB0 := Lib.hid hb0
    have HR0 := Lib.hid hr0
    have HR1 := Lib.hid hr1
    have HS0 := Lib.hid hs0
    have HL0 := Lib.hid hl0
    have HL0' := Lib.hid hl0'
    clear hb0 hr0 hr1 hs0 hl0 hl0'
    by_cases ho : op = op'
    · by_cases hn : n = n'
      · by_cases hk : k.len = k'.len
        · subst ho hn
          have esame : sameN op n k op n k' = sameFo k k' := by simp [sameN]
          rw [esame]
          have HK := Lib.hid hk
          rw [hk] at HB0 HR0 HR1 HS0 HL0 HL0' hlen ⊢
          clear hk esame
          go_enter Tryz.func47, Tryz.ntmps47
          go_wp2_with fail
          generalize (w.alloc (Obj.cells #[Value.int IntKind.i64 op, Value.int IntKind.i64 n, Value.slice A k'.len c] 34)).alloc (Obj.cells #[Value.int IntKind.i64 op, Value.int IntKind.i64 n, Value.slice A' k'.len c'] 34) = w1 at *
          go_loopw [5] (fun i wr => ∃ (j : Nat), j ≤ k'.len ∧ i = .int .i64 j ∧ sameFo k k' = sameFo (k.drop j) (k'.drop j) ∧ Below w.heap.size w wr ∧
              Row wr w.heap.size 34 #[Value.int IntKind.i64 op, Value.int IntKind.i64 n, Value.slice A k'.len c] ∧ Row wr (w.heap.size + 1) 34 #[Value.int IntKind.i64 op, Value.int IntKind.i64 n, Value.slice A' k'.len c'] ∧ w.heap.size + 2 ≤ wr.heap.size)
            (fun i _ => k'.len - (intOf i).toNat)
          case atStart => exact ⟨0, by omega, rfl, by rw [Fo.drop_zero, Fo.drop_zero], HB0.out, HR0.out, HR1.out, HS0.out⟩
          case round =>
            obtain ⟨j, hj, rfl, hsm, hb, r0, r1, hsw⟩ := hrel
            have q2 := r0.cell (i := 2) rfl
            have q3 := r1.cell (i := 2) rfl
            have HSM := Lib.hid hsm
            clear hsm
            by_cases hlt : j < k'.len
            · have hlt' : j < k'.len := by omega
              obtain ⟨op1, n1, k1, e1, e2, e3⟩ := Fo.drop_of_lt k j (by have := HK.out; omega)
              obtain ⟨op2, n2, k2, e1', e2', e3'⟩ := Fo.drop_of_lt k' j hlt'
              have hj' := (hl.below hb).at_ j
              have hj2 := (hl'.below hb).at_ j
              rw [Nat.zero_add, e1] at hj'
              rw [Nat.zero_add, e1'] at hj2
              obtain ⟨⟨b, o, A1, c1, hA, _, hbb, i1, i2, g1, g2, g3, h1, h2, h3⟩, _⟩ := hj'
              obtain ⟨⟨b', o', A2, c2, hA', _, hbb', _, _, g1', g2', g3', h1', h2', h3'⟩, _⟩ := hj2
              subst hA hA'
              have hsc := sameFo_cons e1 e1'
              rw [← HSM.out] at hsc
              have HSC := Lib.hid hsc
              clear e1 e1' hsc HSM
              go_wp2_with fail
              go_still_tail 10, (by kernel_rfl)
              change wpList _ _ _ _ _ wr.drew
              have hb' : Below w.heap.size w wr.drew := hb.drew
              go_wp2_with fail
              refine (ih k1.size (by omega) op1 n1 op2 n2 k1 k2 A1 A2 c1 c2 wr.drew rfl
                ((h3.below (w' := wr.drew) ((Below.refl _ _).drew)).mono_ (Nat.le_refl _) (by have := hb'.size; omega))
                ((h3'.below (w' := wr.drew) ((Below.refl _ _).drew)).mono_ (Nat.le_refl _) (by have := hb'.size; omega)) (by omega) (by omega)).mono ?_
              rintro e w2 ⟨rfl, hb2⟩
              have hb3 := hb'.trans (hb2.mono hb'.size)
              have r0' := r0.drew.below hb2 (by simp; omega)
              have r1' := r1.drew.below hb2 (by simp; omega)
              have hsw2 : w.heap.size + 2 ≤ w2.heap.size := Nat.le_trans hsw hb2.size
              have B3 := Lib.hid hb3
              clear g1 g2 g3 g1' g2' g3' hb hb' hb2 hb3 q2 q3 r0 r1
              cases hsn : sameN op1 n1 k1 op2 n2 k2 with
              | true =>
                rw [hsn, Bool.true_and] at HSC
                clear hsn
                go_wp2
                go_roundw
                case rel => exact ⟨j + 1, by omega, by go_num, HSC.out, B3.out, r0', r1', hsw2⟩
                case measure => simp [intOf]; omega
              | false =>
                rw [hsn, Bool.false_and] at HSC
                clear hsn
                go_wp2
                go_ret
                exact ⟨by rw [HSC.out]; rfl, B3.out⟩
            · have e9 : j = k'.len := by omega
              have hz := HSM.out
              rw [e9, Fo.drop_len, ← HK.out, Fo.drop_len] at hz
              have HZ := Lib.hid hz
              clear hz HSM
              go_wp2
              go_ret
              exact ⟨by rw [HZ.out]; rfl, hb⟩
        · have esame : sameN op n k op' n' k' = false := by simp [sameN, sameFo_ne hk]
          rw [esame]
          subst ho hn
          have hkz : ¬ ((k.len : Nat) : Int) = ((k'.len : Nat) : Int) := by omega
          go_enter Tryz.func47, Tryz.ntmps47
          go_wp2
          go_ret
          exact ⟨rfl, HB0.out⟩
      · have esame : sameN op n k op' n' k' = false := by simp [sameN, hn]
        rw [esame]
        subst ho
        go_enter Tryz.func47, Tryz.ntmps47
        go_wp2
        go_ret
        exact ⟨rfl, HB0.out⟩
    · have esame : sameN op n k op' n' k' = false := by simp [sameN, ho]
      rw [esame]
      go_enter Tryz.func47, Tryz.ntmps47
      go_wp2
      go_ret
      exact ⟨rfl, HB0.out⟩
end Go.Proofs.YtgmhpfdhkcgbfaaGreat
