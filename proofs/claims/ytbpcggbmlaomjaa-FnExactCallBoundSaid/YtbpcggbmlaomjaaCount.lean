/-
  l1Count: the number of nodes, up to a number.
-/
import Derived.Test.YtbpcggbmlaomjaaLeaf
namespace Go.Proofs.Ytbpcggbmlaomjaa
open Go.RowKit
set_option maxRecDepth 100000

/-- What l1Count hands back at s nodes below the root. -/
def cntOf (s most : Nat) : Nat := min (s + 1) (most + 1)

set_option maxHeartbeats 400000 in
theorem l1Count_any (s : Nat) : ∀ (op n : Int) (k : Fo) (A : Option Addr) (c : Nat) (most : Nat) (w : World), k.size = s → Lies w 0 w.heap.size A 0 k → k.len ≤ maxLen → most ≤ 80 →
    Calls Try.prog 88 #[.agg #[.int .i64 op, .int .i64 n, .slice A k.len c], .int .i64 most] w (Gives (.int .i64 (cntOf k.size most : Nat)) w) := by
  induction s using Nat.strongRecOn with
  | _ s ih =>
    intro op n k A c most w hs hl hlen hmost
    unfold maxLen at hlen
    have hb0 : Below w.heap.size w (w.alloc (Obj.cells #[Value.int IntKind.i64 op, Value.int IntKind.i64 n, Value.slice A k.len c] 40)) := (Below.refl _ _).alloc (Nat.le_refl _) _
    have hr0 := Row.fresh w 40 #[Value.int IntKind.i64 op, Value.int IntKind.i64 n, Value.slice A k.len c]
    have hs0 : w.heap.size + 1 ≤ (w.alloc (Obj.cells #[Value.int IntKind.i64 op, Value.int IntKind.i64 n, Value.slice A k.len c] 40)).heap.size := by simp
    go_enter Try.func88, Try.ntmps88
    go_wp2
    go_loopw [5, 6] (fun v i wr => ∃ (j x : Nat), j ≤ k.len ∧ i = .int .i64 j ∧ v = .int .i64 x ∧ x = min (1 + k.size - (k.drop j).size) (most + 1) ∧ Row wr w.heap.size 40 #[Value.int IntKind.i64 op, Value.int IntKind.i64 n, Value.slice A k.len c] ∧ w.heap.size + 1 ≤ wr.heap.size ∧ Below w.heap.size w wr)
      (fun _ i _ => k.len - (intOf i).toNat)
    case atStart => exact ⟨0, 1, by omega, rfl, rfl, by rw [Fo.drop_zero]; omega, hr0, hs0, hb0⟩
    case round =>
      clear hr0 hs0 hb0
      obtain ⟨j, x, hj, rfl, rfl, hx, hrow, hsz, hb⟩ := hrel
      have hd := Fo.drop_size_le k j
      have q2 := hrow.cell (i := 2) rfl
      have hxm : x ≤ most + 1 := by omega
      by_cases hlt : j < k.len
      · by_cases hm : x ≤ most
        · obtain ⟨op', n', k', e1, e2, e3⟩ := Fo.drop_of_lt k j hlt
          have hj' := (hl.below hb).at_ j
          rw [Nat.zero_add, e1] at hj'
          obtain ⟨⟨b, o, A', c', hA, _, hbb, i1, i2, g1, g2, g3, h1, h2, h3⟩, _⟩ := hj'
          subst hA
          have HX := Lib.hid hx
          have E3 := Lib.hid e3
          clear hx e1 e3
          have hz : ((most : Int) - x) = ((most - x : Nat) : Int) := by omega
          go_wp2_with fail
          refine (ih k'.size (by omega) op' n' k' A' c' (most - x) wr rfl (h3.mono_ (Nat.le_refl _) (by omega)) (by omega) (by omega)).mono ?_
          rintro e w2 ⟨rfl, hb2⟩
          have hrow2 := hrow.below hb2 (by omega)
          have hb3 := hb.trans (hb2.mono hb.size)
          have hsz2 : w.heap.size + 1 ≤ w2.heap.size := Nat.le_trans hsz hb2.size
          have hc1 : cntOf k'.size (most - x) ≤ 81 := by unfold cntOf; omega
          have hc2 : x + cntOf k'.size (most - x) = min (1 + k.size - (k.drop (j + 1)).size) (most + 1) := by
            have := HX.out
            have := E3.out
            unfold cntOf
            omega
          have HC := Lib.hid hc2
          clear hc2 hb hb2 hz q2 g1 g2 g3 ih hrow
          generalize cntOf k'.size (most - x) = y at *
          go_wp2
          go_roundw
          case rel => exact ⟨j + 1, x + y, by omega, by go_num, by go_num, HC.out, hrow2, hsz2, hb3⟩
          case measure => simp [intOf]; omega
        · have HX := Lib.hid hx
          clear hx
          go_wp2
          go_ret
          exact ⟨ret_int (by have := HX.out; unfold cntOf; omega), hb⟩
      · have e9 : j = k.len := by omega
        have HX := Lib.hid hx
        clear hx
        go_wp2
        go_ret
        refine ⟨ret_int ?_, hb⟩
        have := HX.out
        rw [e9, Fo.drop_len] at this
        simp only [Fo.size] at this
        unfold cntOf
        omega
end Go.Proofs.Ytbpcggbmlaomjaa
