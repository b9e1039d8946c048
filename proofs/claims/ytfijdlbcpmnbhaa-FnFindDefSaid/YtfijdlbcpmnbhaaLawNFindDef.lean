/-
  The walk of the law FnFindDef: true at every input.
-/
import Derived.Test.YtfijdlbcpmnbhaaDrawLV
import Derived.Test.YtfijdlbcpmnbhaaFind
namespace Go.Proofs.Ytfijdlbcpmnbhaa
open Go.RowKit Go.Shelf
set_option maxRecDepth 100000

theorem plc_nm {x : Int} : ∀ {ds : List De}, plc x ds < ds.length → ∃ d, ds[plc x ds]? = some d ∧ d.nm = x
  | [], h => by simp at h
  | d :: r, h => by
    by_cases hx : d.nm = x
    · exact ⟨d, by simp [plc, hx], hx⟩
    · have h2 : plc x r < r.length := by simp only [plc, hx, if_false, List.length_cons] at h; omega
      obtain ⟨e, h3, h4⟩ := plc_nm h2
      exact ⟨e, by simp [plc, hx, h3], h4⟩

set_option maxHeartbeats 2000000 in
theorem law_NFindDef (bs : List Nat) (A : Option Addr) (c : Nat) (w : World) (hl : LiesY w 0 w.heap.size A bs) (hlc : bs.length ≤ c) (hc : c ≤ maxLen) :
    Calls Try.prog 5 #[.slice A bs.length c] w (Gives (.bool true) w) := by
  have HC := Lib.hid (drawFind_any A c bs w hl hlc hc)
  unfold maxLen at hc
  by_cases hsz : bs.length ≤ 1048576
  rotate_left
  · have hgt : 1048576 < bs.length := by omega
    go_enter Try.func5, Try.ntmps5
    go_wp2_with fail
    go_ret
    exact ⟨rfl, Below.refl _ _⟩
  clear hl
  go_enter Try.func5, Try.ntmps5
  go_wp2_with fail
  refine HC.out.mono ?_
  rintro e w1 ⟨ds, X, cx, x, rfl, ⟨h1, h2, h3, h4, h5⟩, hxi, hb1⟩
  have HL := Lib.hid (h1.mono_ (Nat.zero_le _) (Nat.le_refl _))
  have HB := Lib.hid hb1
  clear h1 hb1 HC
  go_wp2_with fail
  refine (implFind_any ds X cx w1 x HL.out (by omega)).mono ?_
  rintro e w2 ⟨rfl, hb2⟩
  have HL2 := Lib.hid (HL.out.up hb2)
  have HB2 := Lib.hid (HB.out.trans (hb2.mono HB.out.size))
  have HF := Lib.hid (specFind_any ds X cx w2 x HL2.out (by omega))
  unfold FindPost at HF
  clear hb2 HL HB
  by_cases hp : plc x ds < ds.length
  · obtain ⟨d, hd, hdx⟩ := plc_nm hp
    rw [if_pos hp, decide_eq_true hp] at HF ⊢
    obtain ⟨p, hpp⟩ : ∃ p, p = plc x ds := ⟨_, rfl⟩
    rw [← hpp] at HF hd hp ⊢
    have HD := Lib.hid hd
    have HDX := Lib.hid hdx
    clear hpp hd hdx
    go_wp2_with fail
    refine HF.out.mono ?_
    rintro e w3 ⟨rfl, hb3⟩
    have HL3 := Lib.hid (HL2.out.up hb3)
    have HB3 := Lib.hid (HB2.out.trans (hb3.mono HB2.out.size))
    obtain ⟨b, o, A', c', rfl, hbb, hbw, hf, g0, _⟩ := HL3.out p d HD.out
    have hpi : (p : Int) < (ds.length : Int) := by omega
    rw [HDX.out] at g0
    clear hb3 HL2 HB2 HF
    go_wp2_with fail
    go_ret
    exact ⟨by simp, HB3.out⟩
  · rw [if_neg hp, decide_eq_false hp] at HF ⊢
    clear hp
    go_wp2_with fail
    refine HF.out.mono ?_
    rintro e w3 ⟨rfl, hb3⟩
    have HB3 := Lib.hid (HB2.out.trans (hb3.mono HB2.out.size))
    clear hb3 HL2 HB2 HF
    go_wp2_with fail
    go_ret
    exact ⟨by simp, HB3.out⟩
end Go.Proofs.Ytfijdlbcpmnbhaa
