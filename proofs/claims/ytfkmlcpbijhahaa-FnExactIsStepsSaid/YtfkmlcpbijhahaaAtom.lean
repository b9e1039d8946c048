/-
  IsAtom: the model and the program.
-/
import Derived.Test.YtfkmlcpbijhahaaFo
import Derived.Test.YtfkmlcpbijhahaaRows
import Derived.WalkKit
import Derived.WalkSpells
import Derived.WalkSmall
import Derived.BigRegion
import Derived.Lib.Hide
namespace Go.Proofs.Ytfkmlcpbijhahaa
open Go.RowKit
set_option maxRecDepth 100000

def atomB (op : Int) (k : Fo) : Bool := (decide (op = 1) || decide (op = 2)) && decide (k.len = 0)

set_option maxHeartbeats 1000000 in
theorem specAtom_any (op n : Int) (k : Fo) (A : Option Addr) (c : Nat) (w : World) :
    Calls Try.prog 21 #[.agg #[.int .i64 op, .int .i64 n, .slice A k.len c]] w (Gives (.bool (atomB op k)) w) := by
  obtain ⟨hb0, hr0⟩ := one_box w 29 #[.int .i64 op, .int .i64 n, .slice A k.len c]
  have q0 := hr0.cell (i := 0) rfl
  have q2 := hr0.cell (i := 2) rfl
  have HB := Lib.hid hb0
  clear hb0 hr0
  by_cases h1 : op = 1
  · subst h1
    by_cases hk : k.len = 0
    · have HF := Lib.hid (show atomB 1 k = true by simp [atomB, hk])
      have h5 : ((k.len : Int) == 0) = true := by simp; omega
      clear hk
      go_enter Try.func21, Try.ntmps21
      go_wp2
      go_ret
      exact ⟨by rw [HF.out]; rfl, HB.out⟩
    · have HF := Lib.hid (show atomB 1 k = false by simp [atomB, hk])
      have h5 : ((k.len : Int) == 0) = false := by simp; omega
      clear hk
      go_enter Try.func21, Try.ntmps21
      go_wp2
      go_ret
      exact ⟨by rw [HF.out]; simp, HB.out⟩
  · have h3 : (op == 1) = false := by simpa using h1
    by_cases h2 : op = 2
    · subst h2
      by_cases hk : k.len = 0
      · have HF := Lib.hid (show atomB 2 k = true by simp [atomB, hk])
        have h5 : ((k.len : Int) == 0) = true := by simp; omega
        clear hk
        go_enter Try.func21, Try.ntmps21
        go_wp2
        go_ret
        exact ⟨by rw [HF.out]; rfl, HB.out⟩
      · have HF := Lib.hid (show atomB 2 k = false by simp [atomB, hk])
        have h5 : ((k.len : Int) == 0) = false := by simp; omega
        clear hk
        go_enter Try.func21, Try.ntmps21
        go_wp2
        go_ret
        exact ⟨by rw [HF.out]; simp, HB.out⟩
    · have HF := Lib.hid (show atomB op k = false by simp [atomB, h1, h2])
      have h4 : (op == 2) = false := by simpa using h2
      go_enter Try.func21, Try.ntmps21
      go_wp2
      go_ret
      exact ⟨by rw [HF.out]; simp, HB.out⟩

set_option maxHeartbeats 1000000 in
theorem implAtom_any (op n : Int) (k : Fo) (A : Option Addr) (c : Nat) (w : World) :
    Calls Try.prog 17 #[.agg #[.int .i64 op, .int .i64 n, .slice A k.len c]] w (Gives (.bool (atomB op k)) w) := by
  obtain ⟨hb0, hr0⟩ := one_box w 29 #[.int .i64 op, .int .i64 n, .slice A k.len c]
  have q0 := hr0.cell (i := 0) rfl
  have q2 := hr0.cell (i := 2) rfl
  have HB := Lib.hid hb0
  clear hb0 hr0
  by_cases h1 : op = 1
  · subst h1
    by_cases hk : k.len = 0
    · have HF := Lib.hid (show atomB 1 k = true by simp [atomB, hk])
      have h5 : ((k.len : Int) == 0) = true := by simp; omega
      clear hk
      go_enter Try.func17, Try.ntmps17
      go_wp2
      go_ret
      exact ⟨by rw [HF.out]; rfl, HB.out⟩
    · have HF := Lib.hid (show atomB 1 k = false by simp [atomB, hk])
      have h5 : ((k.len : Int) == 0) = false := by simp; omega
      clear hk
      go_enter Try.func17, Try.ntmps17
      go_wp2
      go_ret
      exact ⟨by rw [HF.out]; simp, HB.out⟩
  · have h3 : (op == 1) = false := by simpa using h1
    by_cases h2 : op = 2
    · subst h2
      by_cases hk : k.len = 0
      · have HF := Lib.hid (show atomB 2 k = true by simp [atomB, hk])
        have h5 : ((k.len : Int) == 0) = true := by simp; omega
        clear hk
        go_enter Try.func17, Try.ntmps17
        go_wp2
        go_ret
        exact ⟨by rw [HF.out]; rfl, HB.out⟩
      · have HF := Lib.hid (show atomB 2 k = false by simp [atomB, hk])
        have h5 : ((k.len : Int) == 0) = false := by simp; omega
        clear hk
        go_enter Try.func17, Try.ntmps17
        go_wp2
        go_ret
        exact ⟨by rw [HF.out]; simp, HB.out⟩
    · have HF := Lib.hid (show atomB op k = false by simp [atomB, h1, h2])
      have h4 : (op == 2) = false := by simpa using h2
      go_enter Try.func17, Try.ntmps17
      go_wp2
      go_ret
      exact ⟨by rw [HF.out]; simp, HB.out⟩

end Go.Proofs.Ytfkmlcpbijhahaa
