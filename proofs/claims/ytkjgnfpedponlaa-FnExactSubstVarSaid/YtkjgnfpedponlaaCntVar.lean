/-
  spec.CountVar: how often a variable stands free.
-/
import Derived.Test.YtkjgnfpedponlaaFo
import Derived.Test.YtkjgnfpedponlaaRows
import Derived.WalkKit
import Derived.WalkSpells
import Derived.Lib.Hide
import Derived.Deep.CutRange
namespace Go.Proofs.Ytkjgnfpedponlaa
open Go.RowKit
set_option maxRecDepth 100000

def ownVar (x op n : Int) : Nat := if op = 2 ∧ n = x then 1 else 0
/-- The kids from the i-th on; of a let that binds x the second is passed over. -/
def cntL (x : Int) : Bool → Nat → Fo → Nat
  | _, _, .nil => 0
  | skip, i, .cons op n k r => (if skip = true ∧ i = 1 then 0 else ownVar x op n + cntL x (decide (op = 7 ∧ n = x)) 0 k) + cntL x skip (i + 1) r
def cntN (x op n : Int) (k : Fo) : Nat := ownVar x op n + cntL x (decide (op = 7 ∧ n = x)) 0 k
theorem ownVar_le (x op n : Int) : ownVar x op n ≤ 1 := by unfold ownVar; split <;> omega
theorem cntL_le (x : Int) : ∀ (s : Bool) (i : Nat) (f : Fo), cntL x s i f ≤ f.size
  | _, _, .nil => Nat.le_refl _
  | s, i, .cons op n k r => by
    have h1 := cntL_le x s (i + 1) r
    have h2 := cntL_le x (decide (op = 7 ∧ n = x)) 0 k
    have h3 := ownVar_le x op n
    simp only [cntL, Fo.size]
    split <;> omega
theorem cntN_le (x op n : Int) (k : Fo) : cntN x op n k ≤ 1 + k.size := by
  have h2 := cntL_le x (decide (op = 7 ∧ n = x)) 0 k
  have h3 := ownVar_le x op n
  unfold cntN
  omega
theorem cntL_cons {f : Fo} {x op n : Int} {s : Bool} {i : Nat} {k r : Fo} (e : f = .cons op n k r) : cntL x s i f = (if s = true ∧ i = 1 then 0 else cntN x op n k) + cntL x s (i + 1) r := by subst e; rfl

set_option maxHeartbeats 800000 in
theorem specCount_any (m : Nat) (x : Int) : ∀ (op n : Int) (k : Fo) (A : Option Addr) (c : Nat) (w : World), k.size = m → Lies w 0 w.heap.size A 0 k → k.size ≤ 1048576 →
    Calls Try.prog 52 #[.agg #[.int .i64 op, .int .i64 n, .slice A k.len c], .int .i64 x] w (Gives (.int .i64 ((cntN x op n k : Nat) : Int)) w) := by
  induction m using Nat.strongRecOn with
  | _ m ih =>
    intro op n k A c w hm hl hsz
    have hlen := Fo.len_le_size k
    have hb0 : Below w.heap.size w (w.alloc (Obj.cells #[Value.int IntKind.i64 op, Value.int IntKind.i64 n, Value.slice A k.len c] 28)) := (Below.refl _ _).alloc (Nat.le_refl _) _
    have hr0 := Row.fresh w 28 #[Value.int IntKind.i64 op, Value.int IntKind.i64 n, Value.slice A k.len c]
    have hs0 : w.heap.size + 1 ≤ (w.alloc (Obj.cells #[Value.int IntKind.i64 op, Value.int IntKind.i64 n, Value.slice A k.len c] 28)).heap.size := by simp
    have hle := cntN_le x op n k
    have hown : ownVar x op n ≤ 1 := ownVar_le x op n
    obtain ⟨s, hs⟩ : ∃ s : Bool, s = decide (op = 7 ∧ n = x) := ⟨_, rfl⟩
    obtain ⟨z, hz⟩ : ∃ z, z = cntN x op n k := ⟨_, rfl⟩
    have hzz : ownVar x op n + cntL x s 0 k = z := by rw [hz, hs]; rfl
    rw [← hz] at hle ⊢
    obtain ⟨y, hy⟩ : ∃ y, y = ownVar x op n := ⟨_, rfl⟩
    rw [← hy] at hzz hown
    obtain ⟨t, ht⟩ : ∃ t : Bool, t = decide (op = 2 ∧ n = x) := ⟨_, rfl⟩
    have HTT := Lib.hid ht
    clear ht
    have HS := Lib.hid hs
    have HY := Lib.hid hy
    have HB0 := Lib.hid hb0
    have HR0 := Lib.hid hr0
    have HS0 := Lib.hid hs0
    have HZZ := Lib.hid hzz
    clear hs hy hz hb0 hr0 hs0 hzz
    go_enter Try.func52, Try.ntmps52
    go_upto_region 2 with fail
    go_cut [15] from 7 to 14 (fun s15 wx => s15 = .bool t ∧ wx = w.alloc (Obj.cells #[Value.int IntKind.i64 op, Value.int IntKind.i64 n, Value.slice A k.len c] 28))
    case first =>
      by_cases ho : op = 2
      · by_cases hn : n = x
        · have hy1 : t = true := by rw [HTT.out]; simp [ho, hn]
          have HY1 := Lib.hid hy1
          subst ho hn
          clear hy1
          go_wp2_with fail
          go_meet
          exact ⟨by rw [HY1.out], rfl⟩
        · have hy1 : t = false := by rw [HTT.out]; simp [hn]
          have HY1 := Lib.hid hy1
          subst ho
          clear hy1
          go_wp2_with fail
          go_meet
          exact ⟨by rw [HY1.out]; simp [hn], rfl⟩
      · have hy1 : t = false := by rw [HTT.out]; simp [ho]
        have HY1 := Lib.hid hy1
        clear hy1
        go_wp2_with fail
        go_meet
        exact ⟨by rw [HY1.out], rfl⟩
    case rest =>
      obtain ⟨rfl, rfl⟩ := hcut
      cases t with
      | true =>
        have hyv : y = 1 := by rw [HY.out]; unfold ownVar; rw [if_pos (of_decide_eq_true HTT.out.symm)]
        have HYV := Lib.hid hyv
        clear hyv
        go_wp2_with fail
        go_loopw [5, 6] (fun a i wr => ∃ (j v : Nat), j ≤ k.len ∧ i = .int .i64 j ∧ a = .int .i64 v ∧ v + cntL x s j (k.drop j) = z ∧ Row wr w.heap.size 28 #[Value.int IntKind.i64 op, Value.int IntKind.i64 n, Value.slice A k.len c] ∧ w.heap.size + 1 ≤ wr.heap.size ∧ Below w.heap.size w wr)
          (fun _ i _ => k.len - (intOf i).toNat)
        case atStart => exact ⟨0, y, Nat.zero_le _, rfl, by rw [HYV.out]; rfl, by rw [Fo.drop_zero]; exact HZZ.out, HR0.out, HS0.out, HB0.out⟩
        case round =>
          obtain ⟨j, v, hj, rfl, rfl, hv, hrow, hsw, hb⟩ := hrel
          have q0 := hrow.cell (i := 0) rfl
          have q1 := hrow.cell (i := 1) rfl
          have q2 := hrow.cell (i := 2) rfl
          by_cases hlt : j < k.len
          · obtain ⟨op', n', k', e1, e2, e3⟩ := Fo.drop_of_lt k j hlt
            have hj' := (hl.below hb).at_ j
            rw [Nat.zero_add, e1] at hj'
            obtain ⟨⟨b, o, A', c', hA, _, hbb, i1, i2, g1, g2, g3, h1, h2, h3⟩, _⟩ := hj'
            subst hA
            rw [cntL_cons e1] at hv
            have HV := Lib.hid hv
            clear hv e1
            have keep : (s = false ∨ j ≠ 1) → v + cntN x op' n' k' + cntL x s (j + 1) (k.drop (j + 1)) = z := by
              intro h
              have h9 := HV.out
              rw [if_neg (by rintro ⟨h1, h2⟩; rcases h with h | h <;> simp_all)] at h9
              omega
            by_cases h7 : op = 7
            · exact absurd h7 (by have := (of_decide_eq_true HTT.out.symm).1; omega)
            · have HV2 := Lib.hid (keep (.inl (by rw [HS.out]; simp [h7])))
              clear keep HV
              go_wp2_with fail
              refine (ih k'.size (by omega) op' n' k' A' c' wr rfl (h3.mono_ (Nat.le_refl _) hb.size) (by omega)).mono ?_
              rintro e w2 ⟨rfl, hb2⟩
              have hrow2 := hrow.below hb2 (by omega)
              have hb3 := hb.trans (hb2.mono hb.size)
              have hsw2 : w.heap.size + 1 ≤ w2.heap.size := Nat.le_trans hsw hb2.size
              have hx9 : v + cntN x op' n' k' ≤ 1048577 := by have := HV2.out; omega
              clear hb hb2 q0 q1 q2 g1 g2 g3 ih hrow
              generalize cntN x op' n' k' = u at *
              go_wp2
              go_roundw
              case rel => exact ⟨j + 1, v + u, hlt, by go_num, by go_num, HV2.out, hrow2, hsw2, hb3⟩
              case measure => simp [intOf]; omega
          · have e9 : j = k.len := by omega
            rw [e9, Fo.drop_len] at hv
            have HV := Lib.hid hv
            clear hv
            go_wp2
            go_ret
            refine ⟨?_, hb⟩
            have h9 := HV.out
            simp only [cntL, Nat.add_zero] at h9
            rw [← h9]
            rfl
      | false =>
        have hyv : y = 0 := by rw [HY.out]; unfold ownVar; rw [if_neg (of_decide_eq_false HTT.out.symm)]
        have HYV := Lib.hid hyv
        clear hyv
        go_wp2_with fail
        go_loopw [5, 6] (fun a i wr => ∃ (j v : Nat), j ≤ k.len ∧ i = .int .i64 j ∧ a = .int .i64 v ∧ v + cntL x s j (k.drop j) = z ∧ Row wr w.heap.size 28 #[Value.int IntKind.i64 op, Value.int IntKind.i64 n, Value.slice A k.len c] ∧ w.heap.size + 1 ≤ wr.heap.size ∧ Below w.heap.size w wr)
          (fun _ i _ => k.len - (intOf i).toNat)
        case atStart => exact ⟨0, y, Nat.zero_le _, rfl, by rw [HYV.out]; rfl, by rw [Fo.drop_zero]; exact HZZ.out, HR0.out, HS0.out, HB0.out⟩
        case round =>
          obtain ⟨j, v, hj, rfl, rfl, hv, hrow, hsw, hb⟩ := hrel
          have q0 := hrow.cell (i := 0) rfl
          have q1 := hrow.cell (i := 1) rfl
          have q2 := hrow.cell (i := 2) rfl
          by_cases hlt : j < k.len
          · obtain ⟨op', n', k', e1, e2, e3⟩ := Fo.drop_of_lt k j hlt
            have hj' := (hl.below hb).at_ j
            rw [Nat.zero_add, e1] at hj'
            obtain ⟨⟨b, o, A', c', hA, _, hbb, i1, i2, g1, g2, g3, h1, h2, h3⟩, _⟩ := hj'
            subst hA
            rw [cntL_cons e1] at hv
            have HV := Lib.hid hv
            clear hv e1
            have keep : (s = false ∨ j ≠ 1) → v + cntN x op' n' k' + cntL x s (j + 1) (k.drop (j + 1)) = z := by
              intro h
              have h9 := HV.out
              rw [if_neg (by rintro ⟨h1, h2⟩; rcases h with h | h <;> simp_all)] at h9
              omega
            by_cases h7 : op = 7
            · by_cases hj1 : j = 1
              · by_cases hn : n = x
                · have hs1 : s = true := by rw [HS.out]; simp [h7, hn]
                  have hv2 : v + cntL x s (j + 1) (k.drop (j + 1)) = z := by
                    have h9 := HV.out
                    rw [if_pos ⟨hs1, hj1⟩] at h9
                    omega
                  have HV2 := Lib.hid hv2
                  clear hv2 HV keep hs1
                  subst h7 hn hj1
                  go_wp2
                  go_roundw
                  case rel => exact ⟨2, v, hlt, by go_num, rfl, HV2.out, hrow, hsw, hb⟩
                  case measure => simp [intOf]; omega
                · have HV2 := Lib.hid (keep (.inl (by rw [HS.out]; simp [hn])))
                  clear keep HV
                  subst h7 hj1
                  go_wp2_with fail
                  refine (ih k'.size (by omega) op' n' k' A' c' wr rfl (h3.mono_ (Nat.le_refl _) hb.size) (by omega)).mono ?_
                  rintro e w2 ⟨rfl, hb2⟩
                  have hrow2 := hrow.below hb2 (by omega)
                  have hb3 := hb.trans (hb2.mono hb.size)
                  have hsw2 : w.heap.size + 1 ≤ w2.heap.size := Nat.le_trans hsw hb2.size
                  have hx9 : v + cntN x op' n' k' ≤ 1048577 := by have := HV2.out; omega
                  clear hb hb2 q0 q1 q2 g1 g2 g3 ih hrow
                  generalize cntN x op' n' k' = u at *
                  go_wp2
                  go_roundw
                  case rel => exact ⟨2, v + u, hlt, by go_num, by go_num, HV2.out, hrow2, hsw2, hb3⟩
                  case measure => simp [intOf]; omega
              · have HV2 := Lib.hid (keep (.inr hj1))
                have hj2 : ¬ ((j : Nat) : Int) = 1 := by omega
                clear keep HV
                subst h7
                go_wp2_with fail
                refine (ih k'.size (by omega) op' n' k' A' c' wr rfl (h3.mono_ (Nat.le_refl _) hb.size) (by omega)).mono ?_
                rintro e w2 ⟨rfl, hb2⟩
                have hrow2 := hrow.below hb2 (by omega)
                have hb3 := hb.trans (hb2.mono hb.size)
                have hsw2 : w.heap.size + 1 ≤ w2.heap.size := Nat.le_trans hsw hb2.size
                have hx9 : v + cntN x op' n' k' ≤ 1048577 := by have := HV2.out; omega
                clear hb hb2 q0 q1 q2 g1 g2 g3 ih hrow
                generalize cntN x op' n' k' = u at *
                go_wp2
                go_roundw
                case rel => exact ⟨j + 1, v + u, hlt, by go_num, by go_num, HV2.out, hrow2, hsw2, hb3⟩
                case measure => simp [intOf]; omega
            · have HV2 := Lib.hid (keep (.inl (by rw [HS.out]; simp [h7])))
              clear keep HV
              go_wp2_with fail
              refine (ih k'.size (by omega) op' n' k' A' c' wr rfl (h3.mono_ (Nat.le_refl _) hb.size) (by omega)).mono ?_
              rintro e w2 ⟨rfl, hb2⟩
              have hrow2 := hrow.below hb2 (by omega)
              have hb3 := hb.trans (hb2.mono hb.size)
              have hsw2 : w.heap.size + 1 ≤ w2.heap.size := Nat.le_trans hsw hb2.size
              have hx9 : v + cntN x op' n' k' ≤ 1048577 := by have := HV2.out; omega
              clear hb hb2 q0 q1 q2 g1 g2 g3 ih hrow
              generalize cntN x op' n' k' = u at *
              go_wp2
              go_roundw
              case rel => exact ⟨j + 1, v + u, hlt, by go_num, by go_num, HV2.out, hrow2, hsw2, hb3⟩
              case measure => simp [intOf]; omega
          · have e9 : j = k.len := by omega
            rw [e9, Fo.drop_len] at hv
            have HV := Lib.hid hv
            clear hv
            go_wp2
            go_ret
            refine ⟨?_, hb⟩
            have h9 := HV.out
            simp only [cntL, Nat.add_zero] at h9
            rw [← h9]
            rfl
end Go.Proofs.Ytkjgnfpedponlaa
