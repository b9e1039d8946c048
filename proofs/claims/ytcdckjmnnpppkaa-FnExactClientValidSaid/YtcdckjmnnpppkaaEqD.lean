/-
  eqDef and eqDefS at two copies of the same functions: true.
-/
import Derived.Test.YtcdckjmnnpppkaaDe
import Derived.Test.YtcdckjmnnpppkaaTools
namespace Go.Proofs.Ytcdckjmnnpppkaa
open Go.RowKit
set_option maxRecDepth 100000

set_option maxHeartbeats 800000 in
theorem eqDef_any (d : De) (A A2 : Option Addr) (c c2 : Nat) (w : World) (hl : Lies w 0 w.heap.size A 0 d.k) (hl2 : Lies w 0 w.heap.size A2 0 d.k) (hsz : d.k.size ≤ 1048576) :
    Calls Try.prog 39 #[.agg #[.int .i64 d.nm, .int .i64 d.ar, .bool d.old, .int .i64 d.op, .int .i64 d.n, .slice A d.k.len c], .agg #[.int .i64 d.nm, .int .i64 d.ar, .bool d.old, .int .i64 d.op, .int .i64 d.n, .slice A2 d.k.len c2]] w (Gives (.bool true) w) := by
  obtain ⟨nm, ar, old, op, n, k⟩ := d
  dsimp only at *
  have hb1 : Below w.heap.size w ((w.alloc (Obj.cells #[Value.int IntKind.i64 nm, Value.int IntKind.i64 ar, Value.bool old, Value.int IntKind.i64 op, Value.int IntKind.i64 n, Value.slice A k.len c] 50)).alloc (Obj.cells #[Value.int IntKind.i64 nm, Value.int IntKind.i64 ar, Value.bool old, Value.int IntKind.i64 op, Value.int IntKind.i64 n, Value.slice A2 k.len c2] 50)) :=
    ((Below.refl _ _).alloc (Nat.le_refl _) _).alloc (by simp) _
  go_enter Try.func39, Try.ntmps39
  go_wp2_with fail
  refine (eqExpr_any op n k A A2 c c2 _ (hl.up hb1) (hl2.up hb1) hsz).mono ?_
  rintro e w2 ⟨rfl, hb⟩
  have hb3 := hb1.trans (hb.mono hb1.size)
  clear hb hb1
  go_wp2
  go_ret
  exact ⟨rfl, hb3⟩

set_option maxHeartbeats 800000 in
theorem eqDefS_any (ds : List De) (A A2 : Option Addr) (c c2 : Nat) (w : World) (hl : LiesD w 0 w.heap.size A ds) (hl2 : LiesD w 0 w.heap.size A2 ds) (hsz : sizeD ds ≤ 1048576) :
    Calls Try.prog 12 #[.slice A ds.length c, .slice A2 ds.length c2] w (Gives (.bool true) w) := by
  have hlen := sizeD_len ds
  go_enter Try.func12, Try.ntmps12
  go_wp2
  go_loopw [5] (fun i wr => ∃ (j : Nat), j ≤ ds.length ∧ i = .int .i64 j ∧ Below w.heap.size w wr)
    (fun i _ => ds.length - (intOf i).toNat)
  case atStart => exact ⟨0, by omega, rfl, Below.refl _ _⟩
  case round =>
    obtain ⟨j, hj, rfl, hb⟩ := hrel
    by_cases hlt : j < ds.length
    · have e1 := List.getElem?_eq_getElem hlt
      generalize ds[j] = d at e1
      have e3 := sizeD_at e1
      obtain ⟨b, o, A', c', hA, _, hbb, hf, g1, g2, g3, g4, g5, g6, h7, h8, h9⟩ := hl.below hb j d e1
      obtain ⟨b', o', B', d', hA', _, hbb', _, g1', g2', g3', g4', g5', g6', h7', h8', h9'⟩ := hl2.below hb j d e1
      subst hA hA'
      clear e1
      go_wp2_with fail
      go_still_tail 8, (by kernel_rfl)
      change wpList _ _ _ _ _ wr.drew
      have hb' : Below w.heap.size w wr.drew := hb.drew
      go_wp2_with fail
      refine (eqDef_any d A' B' c' d' wr.drew ((h9.below (w' := wr.drew) (Below.refl _ _).drew).mono_ (Nat.le_refl _) hb'.size) ((h9'.below (w' := wr.drew) (Below.refl _ _).drew).mono_ (Nat.le_refl _) hb'.size) (by omega)).mono ?_
      rintro e w2 ⟨rfl, hb2⟩
      have hb3 := hb'.trans (hb2.mono hb'.size)
      clear g1 g2 g3 g4 g5 g6 g1' g2' g3' g4' g5' g6' hb hb' hb2
      go_wp2
      go_roundw
      case rel => exact ⟨j + 1, by omega, by go_num, hb3⟩
      case measure => simp [intOf]; omega
    · go_wp2
      go_ret
      exact ⟨rfl, hb⟩
end Go.Proofs.Ytcdckjmnnpppkaa
