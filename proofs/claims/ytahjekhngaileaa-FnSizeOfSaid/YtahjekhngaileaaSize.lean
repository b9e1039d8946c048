/-
  spec.SizeOf: one and what lies below.
-/
import Derived.Test.YtahjekhngaileaaFo
import Derived.Test.YtahjekhngaileaaRows
import Derived.WalkKit
import Derived.WalkSpells
import Derived.Lib.Hide
namespace Go.Proofs.Ytahjekhngaileaa
open Go.RowKit
set_option maxRecDepth 100000

set_option maxHeartbeats 400000 in
theorem specSize_any (m : Nat) : ∀ (op n : Int) (k : Fo) (A : Option Addr) (c : Nat) (w : World), k.size = m → Lies w 0 w.heap.size A 0 k → k.size ≤ 1048576 →
    Calls Try.prog 22 #[.agg #[.int .i64 op, .int .i64 n, .slice A k.len c]] w (Gives (.int .i64 ((1 + k.size : Nat) : Int)) w) := by
  induction m using Nat.strongRecOn with
  | _ m ih =>
    intro op n k A c w hm hl hsz
    have hlen := Fo.len_le_size k
    have hb0 : Below w.heap.size w (w.alloc (Obj.cells #[Value.int IntKind.i64 op, Value.int IntKind.i64 n, Value.slice A k.len c] 25)) := (Below.refl _ _).alloc (Nat.le_refl _) _
    have hr0 := Row.fresh w 25 #[Value.int IntKind.i64 op, Value.int IntKind.i64 n, Value.slice A k.len c]
    have hs0 : w.heap.size + 1 ≤ (w.alloc (Obj.cells #[Value.int IntKind.i64 op, Value.int IntKind.i64 n, Value.slice A k.len c] 25)).heap.size := by simp
    go_enter Try.func22, Try.ntmps22
    go_wp2_with fail
    go_loopw [3, 4] (fun v i wr => ∃ (j x : Nat), j ≤ k.len ∧ i = .int .i64 j ∧ v = .int .i64 x ∧ x + (k.drop j).size = 1 + k.size ∧ Row wr w.heap.size 25 #[Value.int IntKind.i64 op, Value.int IntKind.i64 n, Value.slice A k.len c] ∧ w.heap.size + 1 ≤ wr.heap.size ∧ Below w.heap.size w wr)
      (fun _ i _ => k.len - (intOf i).toNat)
    case atStart => exact ⟨0, 1, Nat.zero_le _, rfl, rfl, by rw [Fo.drop_zero], hr0, hs0, hb0⟩
    case round =>
      clear hr0 hs0 hb0
      obtain ⟨j, x, hj, rfl, rfl, hx, hrow, hsw, hb⟩ := hrel
      have q2 := hrow.cell (i := 2) rfl
      by_cases hlt : j < k.len
      · obtain ⟨op', n', k', e1, e2, e3⟩ := Fo.drop_of_lt k j hlt
        have hj' := (hl.below hb).at_ j
        rw [Nat.zero_add, e1] at hj'
        obtain ⟨⟨b, o, A', c', hA, _, hbb, i1, i2, g1, g2, g3, h1, h2, h3⟩, _⟩ := hj'
        subst hA
        have hxs : x + (1 + k'.size) + (k.drop (j + 1)).size = 1 + k.size := by omega
        have HX := Lib.hid hxs
        clear hx hxs e1
        go_wp2_with fail
        refine (ih k'.size (by omega) op' n' k' A' c' wr rfl (h3.mono_ (Nat.le_refl _) hb.size) (by omega)).mono ?_
        rintro e w2 ⟨rfl, hb2⟩
        have hrow2 := hrow.below hb2 (by omega)
        have hb3 := hb.trans (hb2.mono hb.size)
        have hsw2 : w.heap.size + 1 ≤ w2.heap.size := Nat.le_trans hsw hb2.size
        have hx9 : x + (1 + k'.size) ≤ 1048577 := by have := HX.out; omega
        clear hb hb2 q2 g1 g2 g3 ih hrow
        generalize 1 + k'.size = y at *
        go_wp2
        go_roundw
        case rel => exact ⟨j + 1, x + y, hlt, by go_num, by go_num, HX.out, hrow2, hsw2, hb3⟩
        case measure => simp [intOf]; omega
      · have e9 : j = k.len := by omega
        rw [e9, Fo.drop_len] at hx
        have HX := Lib.hid hx
        clear hx
        go_wp2
        go_ret
        refine ⟨?_, hb⟩
        have h9 := HX.out
        simp only [Fo.size, Nat.add_zero] at h9
        rw [← h9]
        rfl
end Go.Proofs.Ytahjekhngaileaa
