/-
  eqExpr and eqExprS at two copies of the same nodes: true.
-/
import Derived.Test.YtcdckjmnnpppkaaFo
import Derived.Test.YtcdckjmnnpppkaaRows
import Derived.WalkKit
import Derived.WalkSpells
import Derived.Lib.Hide
import Derived.StillTailTactics
namespace Go.Proofs.Ytcdckjmnnpppkaa
open Go.RowKit
set_option maxRecDepth 100000

set_option maxHeartbeats 400000 in
theorem eqExpr_of (op n : Int) (k : Fo) (A A2 : Option Addr) (c c2 : Nat) (w : World)
    (h : ∀ w1 : World, Below w.heap.size w w1 → Calls Try.prog 44 #[.slice A k.len c, .slice A2 k.len c2] w1 (Gives (.bool true) w1)) :
    Calls Try.prog 17 #[.agg #[.int .i64 op, .int .i64 n, .slice A k.len c], .agg #[.int .i64 op, .int .i64 n, .slice A2 k.len c2]] w (Gives (.bool true) w) := by
  go_enter Try.func17, Try.ntmps17
  go_wp2_with fail
  have hb1 : Below w.heap.size w ((w.alloc (Obj.cells #[Value.int IntKind.i64 op, Value.int IntKind.i64 n, Value.slice A k.len c] 36)).alloc (Obj.cells #[Value.int IntKind.i64 op, Value.int IntKind.i64 n, Value.slice A2 k.len c2] 36)) :=
    ((Below.refl _ _).alloc (Nat.le_refl _) _).alloc (by simp) _
  refine (h _ hb1).mono ?_
  rintro e w2 ⟨rfl, hb⟩
  have hb3 := hb1.trans (hb.mono hb1.size)
  clear hb hb1
  go_wp2
  go_ret
  exact ⟨rfl, hb3⟩

set_option maxHeartbeats 400000 in
theorem eqExprS_any (m : Nat) : ∀ (f : Fo) (A A2 : Option Addr) (c c2 : Nat) (w : World), f.size = m → Lies w 0 w.heap.size A 0 f → Lies w 0 w.heap.size A2 0 f → f.size ≤ 1048576 →
    Calls Try.prog 44 #[.slice A f.len c, .slice A2 f.len c2] w (Gives (.bool true) w) := by
  induction m using Nat.strongRecOn with
  | _ m ih =>
    intro f A A2 c c2 w hm hl hl2 hsz
    have hlen := Fo.len_le_size f
    go_enter Try.func44, Try.ntmps44
    go_wp2
    go_loopw [5] (fun i wr => ∃ (j : Nat), j ≤ f.len ∧ i = .int .i64 j ∧ Below w.heap.size w wr)
      (fun i _ => f.len - (intOf i).toNat)
    case atStart => exact ⟨0, by omega, rfl, Below.refl _ _⟩
    case round =>
      obtain ⟨j, hj, rfl, hb⟩ := hrel
      by_cases hlt : j < f.len
      · obtain ⟨op, n, k, e1, e2, e3⟩ := Fo.drop_of_lt f j hlt
        have hj' := (hl.below hb).at_ j
        have hj2 := (hl2.below hb).at_ j
        rw [Nat.zero_add, e1] at hj' hj2
        obtain ⟨⟨b, o, A', c', hA, _, hbb, i1, i2, g1, g2, g3, h1, h2, h3⟩, _⟩ := hj'
        obtain ⟨⟨b', o', B', d', hA', _, hbb', _, _, g1', g2', g3', h1', h2', h3'⟩, _⟩ := hj2
        subst hA hA'
        clear e1
        go_wp2_with fail
        go_still_tail 8, (by kernel_rfl)
        change wpList _ _ _ _ _ wr.drew
        have hb' : Below w.heap.size w wr.drew := hb.drew
        go_wp2_with fail
        refine (eqExpr_of op n k A' B' c' d' wr.drew (fun w1 hw1 => ih k.size (by omega) k A' B' c' d' w1 rfl
          ((h3.below (w' := w1) ((Below.refl _ _).drew.trans (hw1.mono hb'.size))).mono_ (Nat.le_refl _) (by have := hb'.size; have := hw1.size; omega))
          ((h3'.below (w' := w1) ((Below.refl _ _).drew.trans (hw1.mono hb'.size))).mono_ (Nat.le_refl _) (by have := hb'.size; have := hw1.size; omega)) (by omega))).mono ?_
        rintro e w2 ⟨rfl, hb2⟩
        have hb3 := hb'.trans (hb2.mono hb'.size)
        clear g1 g2 g3 g1' g2' g3' hb hb' hb2
        go_wp2
        go_roundw
        case rel => exact ⟨j + 1, by omega, by go_num, hb3⟩
        case measure => simp [intOf]; omega
      · go_wp2
        go_ret
        exact ⟨rfl, hb⟩
end Go.Proofs.Ytcdckjmnnpppkaa
