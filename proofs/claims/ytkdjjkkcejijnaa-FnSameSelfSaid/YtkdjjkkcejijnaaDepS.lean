/-
  spec.l4Depth.
-/
import Derived.Test.YtkdjjkkcejijnaaPutD
import Derived.Test.YtkdjjkkcejijnaaFo
namespace Go.Proofs.Ytkdjjkkcejijnaa
open Go.RowKit
set_option maxRecDepth 100000

set_option maxHeartbeats 1000000 in
theorem l4Depth_any (zs : List Int) (A : Option Addr) (c : Nat) (v : Int) (w : World) (hl : LiesI w 0 w.heap.size A zs) (hlen : zs.length ≤ 4194304) :
    Calls Try.prog 61 #[.slice A zs.length c, .int .i64 v] w (Gives (.int .i64 (depR zs.reverse v)) w) := by
  go_enter Try.func61, Try.ntmps61
  go_wp2_with fail
  go_loopw [5] (fun i wr => ∃ (t : Nat), t ≤ zs.length ∧ i = .int .i64 ((t : Int) - 1) ∧ (¬ v ∈ zs.drop t) ∧ Below w.heap.size w wr)
    (fun i _ => (intOf i + 1).toNat)
  case atStart => exact ⟨zs.length, Nat.le_refl _, rfl, by simp, Below.refl _ _⟩
  case round =>
    obtain ⟨t, ht, rfl, hno, hb⟩ := hrel
    by_cases h0 : t = 0
    · subst h0
      have HD := Lib.hid (show depR zs.reverse v = -1 from depR_none (by simpa using hno))
      clear hno
      go_wp2_with fail
      go_ret
      exact ⟨by rw [HD.out]; rfl, hb⟩
    · obtain ⟨q, rfl⟩ : ∃ q, t = q + 1 := ⟨t - 1, by omega⟩
      have hq : q < zs.length := by omega
      have hqi : (((q + 1 : Nat) : Int) - 1) = (q : Int) := by omega
      rw [hqi]
      have e1 := List.getElem?_eq_getElem hq
      generalize hx : zs[q] = x at e1
      obtain ⟨b, o, rfl, _, hbb, ix, g1⟩ := (hl.below hb) q x e1
      have hsplit : zs.drop q = x :: zs.drop (q + 1) := by rw [← hx]; exact List.drop_eq_getElem_cons hq
      by_cases hv : x = v
      · have HD := Lib.hid (show depR zs.reverse v = ((zs.length : Int) - 1 - (q : Int)) by
          have h1 : zs.reverse = (zs.drop (q + 1)).reverse ++ v :: (zs.take q).reverse := by
            have h2 : zs = zs.take q ++ zs.drop q := (List.take_append_drop q zs).symm
            rw [hsplit, hv] at h2
            have h3 := congrArg List.reverse h2
            simpa using h3
          rw [h1, depR_app _ (by simpa using hno), List.length_reverse, List.length_drop]
          omega)
        clear hno hsplit e1 hx hqi
        go_wp2_with fail
        go_ret
        exact ⟨by rw [HD.out]; rfl, hb⟩
      · have HN := Lib.hid (show ¬ v ∈ zs.drop q by
          rw [hsplit]
          intro h
          rcases List.mem_cons.1 h with h | h
          · exact hv h.symm
          · exact hno h)
        clear hno hsplit e1 hx hqi
        go_wp2_with fail
        go_roundw
        case rel => exact ⟨q, by omega, rfl, HN.out, hb⟩
        case measure => simp [intOf] <;> omega
end Go.Proofs.Ytkdjjkkcejijnaa
