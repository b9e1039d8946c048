import Derived.Test.YtmnhoeliofojnaaGreatDoorFo
import Derived.Test.YtmnhoeliofojnaaGreatDoorRows
import Derived.WalkSpells
import Derived.WalkSmall
import Derived.BigRegion
namespace Go.Proofs.YtmnhoeliofojnaaGreatDoor
open Go.RowKit
open Go.Lib (hid)
set_option maxRecDepth 100000
def atomB (op : Int) (k : Fo) : Bool := (decide (op = 1) || decide (op = 2)) && decide (k.len = 0)
set_option maxHeartbeats 1000000 in
theorem specAtom_any (op n : Int) (k : Fo) (A : Option Addr) (c : Nat) (w : World) :
  Calls Tryz.prog 59 #[.agg #[.int .i64 op,.int .i64 n,.slice A k.len c]] w (Gives (.bool (atomB op k)) w) := by
 obtain ⟨hb0,hr0⟩ := one_box w 30 #[.int .i64 op,.int .i64 n,.slice A k.len c]
 have q0 := hr0.cell (i := 0) rfl
 have q2 := hr0.cell (i := 2) rfl
 have HB := hid hb0
 clear hb0 hr0
 by_cases h1 : op = 1
 ·subst h1
  by_cases hk : k.len = 0
  ·have HF := hid (show atomB 1 k = true by simp [atomB,hk])
   have h5 : ((k.len : Int) == 0) = true := by simp; omega
   clear hk
   go_enter Tryz.func59,Tryz.ntmps59
   go_wp2
   go_ret
   exact ⟨by rw [HF.out]; rfl,HB.out⟩
  ·have HF := hid (show atomB 1 k = false by simp [atomB,hk])
   have h5 : ((k.len : Int) == 0) = false := by simp; omega
   clear hk
   go_enter Tryz.func59,Tryz.ntmps59
   go_wp2
   go_ret
   exact ⟨by rw [HF.out]; simp,HB.out⟩
 ·have h3 : (op == 1) = false := by simpa using h1
  by_cases h2 : op = 2
  ·subst h2
   by_cases hk : k.len = 0
   ·have HF := hid (show atomB 2 k = true by simp [atomB,hk])
    have h5 : ((k.len : Int) == 0) = true := by simp; omega
    clear hk
    go_enter Tryz.func59,Tryz.ntmps59
    go_wp2
    go_ret
    exact ⟨by rw [HF.out]; rfl,HB.out⟩
   ·have HF := hid (show atomB 2 k = false by simp [atomB,hk])
    have h5 : ((k.len : Int) == 0) = false := by simp; omega
    clear hk
    go_enter Tryz.func59,Tryz.ntmps59
    go_wp2
    go_ret
    exact ⟨by rw [HF.out]; simp,HB.out⟩
  ·have HF := hid (show atomB op k = false by simp [atomB,h1,h2])
   have h4 : (op == 2) = false := by simpa using h2
   go_enter Tryz.func59,Tryz.ntmps59
   go_wp2
   go_ret
   exact ⟨by rw [HF.out]; simp,HB.out⟩
set_option maxHeartbeats 1000000 in
theorem implAtom_any (op n : Int) (k : Fo) (A : Option Addr) (c : Nat) (w : World) :
  Calls Tryz.prog 74 #[.agg #[.int .i64 op,.int .i64 n,.slice A k.len c]] w (Gives (.bool (atomB op k)) w) := by
 obtain ⟨hb0,hr0⟩ := one_box w 30 #[.int .i64 op,.int .i64 n,.slice A k.len c]
 have q0 := hr0.cell (i := 0) rfl
 have q2 := hr0.cell (i := 2) rfl
 have HB := hid hb0
 clear hb0 hr0
 by_cases h1 : op = 1
 ·subst h1
  by_cases hk : k.len = 0
  ·have HF := hid (show atomB 1 k = true by simp [atomB,hk])
   have h5 : ((k.len : Int) == 0) = true := by simp; omega
   clear hk
   go_enter Tryz.func74,Tryz.ntmps74
   go_wp2
   go_ret
   exact ⟨by rw [HF.out]; rfl,HB.out⟩
  ·have HF := hid (show atomB 1 k = false by simp [atomB,hk])
   have h5 : ((k.len : Int) == 0) = false := by simp; omega
   clear hk
   go_enter Tryz.func74,Tryz.ntmps74
   go_wp2
   go_ret
   exact ⟨by rw [HF.out]; simp,HB.out⟩
 ·have h3 : (op == 1) = false := by simpa using h1
  by_cases h2 : op = 2
  ·subst h2
   by_cases hk : k.len = 0
   ·have HF := hid (show atomB 2 k = true by simp [atomB,hk])
    have h5 : ((k.len : Int) == 0) = true := by simp; omega
    clear hk
    go_enter Tryz.func74,Tryz.ntmps74
    go_wp2
    go_ret
    exact ⟨by rw [HF.out]; rfl,HB.out⟩
   ·have HF := hid (show atomB 2 k = false by simp [atomB,hk])
    have h5 : ((k.len : Int) == 0) = false := by simp; omega
    clear hk
    go_enter Tryz.func74,Tryz.ntmps74
    go_wp2
    go_ret
    exact ⟨by rw [HF.out]; simp,HB.out⟩
  ·have HF := hid (show atomB op k = false by simp [atomB,h1,h2])
   have h4 : (op == 2) = false := by simpa using h2
   go_enter Tryz.func74,Tryz.ntmps74
   go_wp2
   go_ret
   exact ⟨by rw [HF.out]; simp,HB.out⟩
end Go.Proofs.YtmnhoeliofojnaaGreatDoor
