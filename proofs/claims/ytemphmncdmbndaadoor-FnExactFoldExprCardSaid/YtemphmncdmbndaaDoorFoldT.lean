/-
  A tree of three nodes, in memory.
-/
import Derived.Test.YtemphmncdmbndaaDoorNodeM
import Derived.Test.YtemphmncdmbndaaDoorFoldD
namespace Go.Proofs.YtemphmncdmbndaaDoor
open Go.RowKit Go.Shelf
set_option maxRecDepth 100000

theorem Tree.three {w : World} {base : Nat} {A : Option Addr} {l c : Nat} {o m o' m' o2 m2 : Int} {k k' k2 : Fo} {bs : List Nat} (h : Tree w base (.slice A l c) (.cons o m k (.cons o' m' k' (.cons o2 m2 k2 .nil))) bs) :
    ∃ g X cx X' cx' X2 cx2 b1 b2 b3 cs, A = some ⟨g, 0, Option.none⟩ ∧ l = 3 ∧ base ≤ g ∧ Row w g 28 cs ∧ (cs[0]? = some (.int .i64 o) ∧ cs[1]? = some (.int .i64 m) ∧ cs[2]? = some (.slice X k.len cx)) ∧ (cs[3]? = some (.int .i64 o') ∧ cs[4]? = some (.int .i64 m') ∧ cs[5]? = some (.slice X' k'.len cx')) ∧ (cs[6]? = some (.int .i64 o2) ∧ cs[7]? = some (.int .i64 m2) ∧ cs[8]? = some (.slice X2 k2.len cx2)) ∧
      (Tree w base (.slice X k.len cx) k b1 ∧ Tree w base (.slice X' k'.len cx') k' b2 ∧ Tree w base (.slice X2 k2.len cx2) k2 b3) ∧ ((I64 o ∧ I64 m) ∧ (I64 o' ∧ I64 m') ∧ (I64 o2 ∧ I64 m2)) ∧ (∀ z, z ∈ b1 → z ∈ bs) ∧ (∀ z, z ∈ b2 → z ∈ bs) ∧ (∀ z, z ∈ b3 → z ∈ bs) := by
  obtain ⟨g, cap, X, cx, b1, cs, hv, h1, _, _, h3, h4, h5, h6, h7, h8, h9, _⟩ := h.at_ (j := 0) (o := o) (m := m) (k := k) rfl
  obtain ⟨g', cap', X', cx', b2, cs', hv', h1', _, _, h3', h4', h5', h6', h7', h8', h9', _⟩ := h.at_ (j := 1) (o := o') (m := m') (k := k') rfl
  obtain ⟨g2, cap2, X2, cx2, b3, cs2, hv2, h12, _, _, h32, h42, h52, h62, h72, h82, h92, _⟩ := h.at_ (j := 2) (o := o2) (m := m2) (k := k2) rfl
  injection hv with e1 e2 e3
  injection hv' with e1' e2' e3'
  injection hv2 with e12 e22 e32
  subst e1
  injection e1' with e1'
  injection e1' with e1' _
  subst e1'
  injection e12 with e12
  injection e12 with e12 _
  subst e12
  have hcs : cs' = cs := by
    have q := h6'.symm.trans h6
    injection q with q
    injection q
  have hcs2 : cs2 = cs := by
    have q := h62.symm.trans h6
    injection q with q
    injection q
  rw [hcs] at h7' h8' h9'
  rw [hcs2] at h72 h82 h92
  exact ⟨g, X, cx, X', cx', X2, cx2, b1, b2, b3, cs, rfl, e2, h1, h6, ⟨h7, h8, h9⟩, ⟨h7', h8', h9'⟩, ⟨h72, h82, h92⟩, ⟨h5, h5', h52⟩, ⟨h4, h4', h42⟩, h3, h3', h32⟩
end Go.Proofs.YtemphmncdmbndaaDoor
