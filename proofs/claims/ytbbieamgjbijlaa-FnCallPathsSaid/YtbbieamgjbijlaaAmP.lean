/-
  laws.amPaths of two lists that are the same. The parts at the paths of a node.
-/
import Derived.Test.YtbbieamgjbijlaaPathsS
import Derived.Test.YtbbieamgjbijlaaAm
namespace Go.Proofs.Ytbbieamgjbijlaa
open Go.RowKit Go.Shelf
set_option maxRecDepth 100000

set_option maxHeartbeats 1000000 in
theorem amPaths_any (zss : List (List Int)) (A A2 : Option Addr) (c c2 : Nat) (w : World) (hl : LiesSS w 0 w.heap.size A zss) (hl2 : LiesSS w 0 w.heap.size A2 zss) (hn : zss.length ≤ 1048576) (hs : ∀ zs, zs ∈ zss → zs.length ≤ 1048576) :
    Calls Try.prog 9 #[.slice A zss.length c, .slice A2 zss.length c2] w (Gives (.bool true) w) := by
  go_enter Try.func9, Try.ntmps9
  go_wp2
  go_loopw [5] (fun i wr => ∃ (j : Nat), j ≤ zss.length ∧ i = .int .i64 (j : Int) ∧ Below w.heap.size w wr)
    (fun i _ => zss.length - (intOf i).toNat)
  case atStart => exact ⟨0, by omega, rfl, Below.refl _ _⟩
  case round =>
    obtain ⟨j, hj, rfl, hb⟩ := hrel
    by_cases hlt : j < zss.length
    · have e1 := List.getElem?_eq_getElem hlt
      generalize zss[j] = zs at e1
      have e3 := hs zs (List.mem_of_getElem? e1)
      obtain ⟨b, o, A', c', hA, _, hbb, g1, h1⟩ := hl j zs e1
      obtain ⟨b', o', B', d', hA', _, hbb', g1', h1'⟩ := hl2 j zs e1
      subst hA hA'
      have q1 := (hb.cell (p := ⟨b, o + j, none⟩) hbb).trans g1
      have q2 := (hb.cell (p := ⟨b', o' + j, none⟩) hbb').trans g1'
      clear e1 g1 g1'
      go_wp2_with fail
      go_still_tail 8, (by kernel_rfl)
      change wpList _ _ _ _ _ wr.drew
      have hb' : Below w.heap.size w wr.drew := hb.drew
      go_wp2_with fail
      refine (amInts_any zs zs A' B' c' d' wr.drew (h1.up hb') (h1'.up hb') (by omega) (by omega)).mono ?_
      rintro e w2 ⟨rfl, hb2⟩
      rw [show decide (zs = zs) = true from by simp]
      have hb3 := hb'.trans (hb2.mono hb'.size)
      clear q1 q2 hb hb' hb2
      go_wp2
      go_roundw
      case rel => exact ⟨j + 1, by omega, by go_num, hb3⟩
      case measure => simp [intOf]; omega
    · go_wp2
      go_ret
      exact ⟨rfl, hb⟩

/-- There is a part at each path. -/
theorem pathsK_part : ∀ (f : Fo) (i : Nat) (g : Fo) (o m : Int) (zs : List Int), zs ∈ pathsK f i → g.drop i = f → (partN ⟨o, m, g⟩ zs).isSome = true
  | .nil, _, _, _, _, zs, h, _ => by simp [pathsK] at h
  | .cons o1 m1 k r, i, g, o, m, zs, h, e => by
    simp only [pathsK, List.mem_append, List.mem_map] at h
    rcases h with ⟨y, hy, rfl⟩ | h
    · rw [partN_in (by omega) (by rw [Int.toNat_natCast]; exact e)]
      rcases List.mem_cons.1 hy with rfl | hy
      · rfl
      · exact pathsK_part k 0 k o1 m1 y hy (Fo.drop_zero k)
    · refine pathsK_part r (i + 1) g o m zs h ?_
      have h2 := Fo.drop_of_lt g i (Classical.byContradiction fun hn => by rw [Fo.drop_ge g i (by omega)] at e; cases e)
      obtain ⟨a, b, d, e1, _⟩ := h2
      rw [e] at e1
      injection e1 with _ _ _ e2
      exact e2.symm
theorem pathsP_part {o m : Int} {k : Fo} {zs : List Int} (h : zs ∈ pathsP k) : (partN ⟨o, m, k⟩ zs).isSome = true := by
  rcases List.mem_cons.1 h with rfl | h
  · rfl
  · exact pathsK_part k 0 k o m zs h (Fo.drop_zero k)
end Go.Proofs.Ytbbieamgjbijlaa
