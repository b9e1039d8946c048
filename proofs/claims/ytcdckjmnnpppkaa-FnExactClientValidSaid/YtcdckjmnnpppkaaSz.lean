/-
  szExpr and szExprS: what is left behind a list of nodes.
-/
import Derived.Test.YtcdckjmnnpppkaaFo
import Derived.Test.YtcdckjmnnpppkaaRows
import Derived.WalkKit
import Derived.WalkSpells
namespace Go.Proofs.Ytcdckjmnnpppkaa
open Go.RowKit
set_option maxRecDepth 100000

/-- The post of szExpr and szExprS: -1, or what is left behind 'n' nodes. -/
def SzPost (n : Nat) (left : Int) (B : Nat) (w : World) (e : Ending) (w' : World) : Prop :=
  ∃ r : Int, e = .returned (.int .i64 r) ∧ (r = -1 ∨ (0 ≤ r ∧ r + n = left)) ∧ Below B w w'

set_option maxHeartbeats 400000 in
theorem szExpr_of (op n left : Int) (k : Fo) (A : Option Addr) (c : Nat) (w : World)
    (h : ∀ w1 : World, Below w.heap.size w w1 → Calls Try.prog 40 #[.slice A k.len c, .int .i64 left] w1 (SzPost k.size left w1.heap.size w1)) :
    Calls Try.prog 13 #[.agg #[.int .i64 op, .int .i64 n, .slice A k.len c], .int .i64 left] w (SzPost k.size left w.heap.size w) := by
  go_enter Try.func13, Try.ntmps13
  go_wp2_with fail
  have hb0 : Below w.heap.size w (w.alloc (Obj.cells #[Value.int IntKind.i64 op, Value.int IntKind.i64 n, Value.slice A k.len c] 31)) := (Below.refl _ _).alloc (Nat.le_refl _) _
  refine (h _ hb0).mono ?_
  rintro e w' ⟨r, rfl, hr, hb⟩
  have hb1 := hb0.trans (hb.mono (by simp))
  clear hb hb0
  go_wp2
  · go_ret
    exact ⟨-1, rfl, .inl rfl, hb1⟩
  · go_ret
    exact ⟨r, rfl, hr, hb1⟩

set_option maxHeartbeats 400000 in
theorem szExprS_any (m : Nat) : ∀ (f : Fo) (A : Option Addr) (c : Nat) (w : World) (left : Int), f.size = m → Lies w 0 w.heap.size A 0 f → f.len ≤ maxLen → 0 ≤ left → left ≤ 1048576 →
    Calls Try.prog 40 #[.slice A f.len c, .int .i64 left] w (SzPost f.size left w.heap.size w) := by
  induction m using Nat.strongRecOn with
  | _ m ih =>
    intro f A c w left hm hl hlen h0 h1
    unfold maxLen at hlen
    go_enter Try.func40, Try.ntmps40
    go_wp2
    · go_ret
      exact ⟨-1, rfl, .inl rfl, Below.refl _ _⟩
    · go_loopw [1, 5] (fun l i wr => ∃ (j : Nat) (r : Int), j ≤ f.len ∧ i = .int .i64 j ∧ l = .int .i64 r ∧ 0 ≤ r ∧ r ≤ left ∧ r + f.size + (f.len - j) = left + (f.drop j).size ∧ Below w.heap.size w wr)
        (fun _ i _ => f.len - (intOf i).toNat)
      case atStart => exact ⟨0, _, by omega, rfl, rfl, by assumption, by omega, by simp [Fo.drop_zero]; omega, Below.refl _ _⟩
      case round =>
        obtain ⟨j, r, hj, rfl, rfl, hr0, hr1, hr, hb⟩ := hrel
        by_cases hlt : j < f.len
        · obtain ⟨op, n, k, e1, e2, e3⟩ := Fo.drop_of_lt f j hlt
          have hj' := (hl.below hb).at_ j
          rw [Nat.zero_add, e1] at hj'
          obtain ⟨⟨b, o, A', c', hA, _, hbb, i1, i2, g1, g2, g3, h1, h2, h3⟩, _⟩ := hj'
          subst hA
          go_wp2_with fail
          refine (szExpr_of op n r k A' c' wr (fun w1 hw1 => ih k.size (by omega) k A' c' w1 r rfl ((h3.below (hw1.mono hb.size)).mono_ (Nat.le_refl _) (by have := hb.size; have := hw1.size; omega)) (by omega) hr0 (by omega))).mono ?_
          rintro e w2 ⟨r2, rfl, hr2, hb2⟩
          have hb3 := hb.trans (hb2.mono hb.size)
          clear hb2 hb g1 g2 g3 e1 h3 hl ih
          go_wp2
          · go_ret
            exact ⟨-1, rfl, .inl rfl, hb3⟩
          · go_roundw
            case rel => exact ⟨j + 1, r2, by omega, by go_num, rfl, by omega, by omega, by omega, hb3⟩
            case measure => simp [intOf]; omega
        · have e9 : f.len = j := by omega
          have hd := Fo.drop_len f
          go_wp2
          go_ret
          refine ⟨r, rfl, .inr ⟨hr0, ?_⟩, hb⟩
          subst e9
          rw [hd] at hr
          simp only [Fo.size] at hr
          omega
end Go.Proofs.Ytcdckjmnnpppkaa
