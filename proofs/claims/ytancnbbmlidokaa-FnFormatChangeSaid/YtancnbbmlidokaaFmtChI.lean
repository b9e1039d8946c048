/-
  FormatChange: the program's side, and the copy of a change.
-/
import Derived.Test.YtancnbbmlidokaaFmtCh
namespace Go.Proofs.Ytancnbbmlidokaa
open Go.RowKit
set_option maxRecDepth 100000

set_option maxHeartbeats 1000000 in
theorem wordLevel_any (k : Int) (w : World) : Calls Try.prog 9 #[.int .i64 k] w (Gives (.tuple #[txt (chW k), .int .i64 (chV k)]) w) := by
  unfold txt
  by_cases h : 1 ≤ k ∧ k ≤ 6
  · rcases kinds h with h | h | h | h | h | h <;> subst h <;>
    · go_enter Try.func9, Try.ntmps9
      go_wp2
      go_ret2
      exact ⟨rfl, Below.refl _ _⟩
  · have e1 : (k == 1) = false := by simp; omega
    have e2 : (k == 2) = false := by simp; omega
    have e3 : (k == 3) = false := by simp; omega
    have e4 : (k == 4) = false := by simp; omega
    have e5 : (k == 5) = false := by simp; omega
    have e6 : (k == 6) = false := by simp; omega
    rw [show chW k = [] by simp at e1 e2 e3 e4 e5 e6; simp [chW, *], show chV k = 0 by simp at e1 e2 e3 e4 e5 e6; simp [chV, *]]
    clear h
    go_enter Try.func9, Try.ntmps9
    go_wp2
    go_ret2
    exact ⟨rfl, Below.refl _ _⟩

set_option maxHeartbeats 2000000 in
theorem implFmtCh_any (k n : Int) (w : World) : Calls Try.prog 5 #[.agg #[.int .i64 k, .int .i64 n]] w (Gives (txt (fmtCh k n)) w) := by
  obtain ⟨hb0, hr0⟩ := one_box w 24 #[.int .i64 k, .int .i64 n]
  have q0 := hr0.cell (i := 0) rfl
  have HB := Lib.hid hb0
  have HR := Lib.hid hr0
  have HC := Lib.hid (wordLevel_any k (w.alloc (Obj.cells #[.int .i64 k, .int .i64 n] 24)))
  clear hb0 hr0
  by_cases hk : 1 ≤ k ∧ k ≤ 6
  rotate_left
  · rw [show fmtCh k n = [] from if_neg (fun h => hk h.1)]
    have HK := Lib.hid (show chW k = [] by unfold chW; repeat (rw [if_neg (by omega)]))
    clear hk
    go_enter Try.func5, Try.ntmps5
    go_wp2_with fail
    refine HC.out.mono ?_
    rintro e w1 ⟨rfl, hb1⟩
    rw [HK.out]
    have HB1 := Lib.hid (HB.out.trans (hb1.mono HB.out.size))
    clear hb1
    unfold txt
    go_wp2
    go_ret
    exact ⟨rfl, HB1.out⟩
  by_cases hn : 0 ≤ n ∧ n < 8
  rotate_left
  · rw [show fmtCh k n = [] from if_neg (fun h => hn h.2)]
    have HN := Lib.hid hn
    rcases kinds hk with h | h | h | h | h | h <;> subst h
    all_goals
      clear hk hn
      go_enter Try.func5, Try.ntmps5
      go_wp2_with fail
      refine HC.out.mono ?_
      rintro e w1 ⟨rfl, hb1⟩
      have HR1 := HR.out.below hb1 HR.out.size
      have q1 := HR1.cell (i := 1) rfl
      have HB1 := Lib.hid (HB.out.trans (hb1.mono HB.out.size))
      clear hb1 q0
      simp only [chW, chV, txt]
      go_wp2_with fail
      refine (isFun_any n w1).mono ?_
      rintro e w2 ⟨rfl, hb2⟩
      rw [show inVar n = false by unfold inVar; simpa using HN.out]
      have HB2 := Lib.hid (HB1.out.trans (hb2.mono HB1.out.size))
      clear hb2 q1
      go_wp2
      go_ret
      exact ⟨rfl, HB2.out⟩
  rw [show fmtCh k n = chW k ++ [32, UInt8.ofNat (65 + n.toNat)] from if_pos ⟨hk, hn⟩]
  have HE := Lib.hid (letter_ext hn)
  have HV := Lib.hid (show inVar n = true by unfold inVar; simpa using hn)
  obtain ⟨b, hb⟩ : ∃ b, b = UInt8.ofNat (65 + n.toNat) := ⟨_, rfl⟩
  rw [← hb] at HE ⊢
  have n0 : 0 ≤ n := hn.1
  have n1 : n < 8 := hn.2
  have nw : IntKind.i64.wrap (n + 1) = n + 1 := by rw [IntKind.wrap_i64]; omega
  have HJ := Lib.hid (show ∀ l : List UInt8, (ByteArray.mk l.toArray ++ ByteArray.mk #[32] ++ (ByteArray.mk #[65, 66, 67, 68, 69, 70, 71, 72]).extract n.toNat (n + 1).toNat) = ⟨(l ++ [32, b]).toArray⟩ from fun l => by
    rw [HE.out]
    exact ((congrArg (· ++ ByteArray.mk [b].toArray) (ByteArray.mk_append_mk l [32])).trans (ByteArray.mk_append_mk (l ++ [32]) [b])).trans (by simp))
  clear hb hn
  rcases kinds hk with h | h | h | h | h | h <;> subst h
  all_goals
    clear hk
    go_enter Try.func5, Try.ntmps5
    go_wp2_with fail
    refine HC.out.mono ?_
    rintro e w1 ⟨rfl, hb1⟩
    have HR1 := HR.out.below hb1 HR.out.size
    have q1 := HR1.cell (i := 1) rfl
    have HB1 := Lib.hid (HB.out.trans (hb1.mono HB.out.size))
    have HR1' := Lib.hid HR1
    clear hb1 q0 HR1
    simp only [chW, chV, txt]
    go_wp2_with fail
    refine (isFun_any n w1).mono ?_
    rintro e w2 ⟨rfl, hb2⟩
    rw [HV.out]
    have HR2 := HR1'.out.below hb2 HR1'.out.size
    have q2 := HR2.cell (i := 1) rfl
    have HB2 := Lib.hid (HB1.out.trans (hb2.mono HB1.out.size))
    clear hb2 q1 HR2
    go_wp2_with fail
    go_ret
    exact ⟨congrArg (fun s => Ending.returned (Value.string s)) (HJ.out _), HB2.out⟩

end Go.Proofs.Ytancnbbmlidokaa
