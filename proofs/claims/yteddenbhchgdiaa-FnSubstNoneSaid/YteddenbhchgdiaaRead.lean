/-
  Small facts for what reads as numbers.
-/
import Derived.Test.YteddenbhchgdiaaFo
import Derived.Test.YteddenbhchgdiaaRows
import Derived.WalkKit
import Derived.ProofKit
namespace Go.Proofs.Yteddenbhchgdiaa
open Go.ChangeShapes Go.WideShapes Go.ChangeAt Go.RowKit
set_option maxRecDepth 100000

theorem cI : Try.prog.cellsOf 3 = 1 := by kernel_rfl

theorem i64_of_wf {x : Int} (h : (Lit.int .i64 x).wf = true) : I64 x := by
  simp [Lit.wf, IntKind.min, IntKind.max, IntKind.signed, IntKind.bits] at h
  unfold I64
  omega

theorem add_plain_ (b o j : Nat) : (⟨b, o, none⟩ : Addr).add j = ⟨b, o + j, none⟩ := by unfold Addr.add; split <;> simp_all

end Go.Proofs.Yteddenbhchgdiaa
