/-
  NARROWER THAN 'FOR EVERY INPUT', by the rows' own cells (each row's printed sentence says how): FnExactSpanAt: loops.
  DERIVED. THE GIVEN ROWS OF THIS SEAT. 3 by the template 'for every input the law returns true; each argument reads behind the call as it read before'; 0 by the template 'total and deterministic' (their statements: YtiefobkddckkbaaTotals.lean).
  GIVEN WITH THE SEED: the statements are not yours to turn. If you find one false, say at which input.
  Laid BY PROGRAM, IN A SANDBOX (cutbox-rows.mjs): the forced cells as the released guide's own fill.sh prints them over the translation 1db126e2d4708ef0… (all of the seat's roots in one cut). By AI agents, Wed Nov 11 2026. No macro, syntax, notation, axiom, sorry.
-/
import Derived.Test.YtiefobkddckkbaaChecked
import GoSem.Claim
import GoSem.ClaimJoined
import GoSem.ClaimMapViews
import Derived.JoinedTies
import Derived.KernelRfl
namespace Go.Proofs.Ytiefobkddckkbaa
/- THE CELL 'sum', in the pinned program and in every row, IS THE sha256 OF THE DUMP (.gsa) THAT YtiefobkddckkbaaProg.lean LOADS. Nothing in Lean hashes anything: it is a label: what it is worth is what the hold of that sum in a sandbox is worth. -/
noncomputable def Try.pinned : Pinned := { name := "ytiefobkddckkbaa", sum := "1db126e2d4708ef0fdd8355324fcfdca35874e62c7c7a4f7cc30d548213f7136", checked := Try.checked }
namespace Rows
def none {H : Type} : Left H := { results := [], args := [] }

/-- 'laws.FnExactSpanAt': WHATEVER THE INPUT: true; the input reads as it did. -/
def fnExactSpanAtSpec : ChangeSpec := { name := "fnExactSpanAt", fn := fun _ => fun
  | [d1, d2] => { results := [.lit (.bool true)], args := [d1, d2] }
  | _ => none }
def fnExactSpanAtRow : OpenClaim := { program := "ytiefobkddckkbaa", sum := "1db126e2d4708ef0fdd8355324fcfdca35874e62c7c7a4f7cc30d548213f7136", func := "loop.example/apimigrator/laws.FnExactSpanAt", spec := "fnExactSpanAt", inPlace := ["internal/abi.NoEscape"], unfollowed := true, recurses := true, loops := true, apart := false }
def FnExactSpanAtSaid : Prop := fnExactSpanAtRow.holds Try.pinned (OpenSpec.ofChange fnExactSpanAtSpec)

/-- ITS FALSE NEIGHBOUR: 'it returns false'. Refute it at one input. -/
def fnExactSpanAtWrong : ChangeSpec := { name := "fnExactSpanAt", fn := fun _ => fun
  | [d1, d2] => { results := [.lit (.bool false)], args := [d1, d2] }
  | _ => none }
def FnExactSpanAtWrongFalsely : Prop := fnExactSpanAtRow.holds Try.pinned (OpenSpec.ofChange fnExactSpanAtWrong)

/-- 'laws.FnSpanAt': WHATEVER THE INPUT: true; the input reads as it did. -/
def fnSpanAtSpec : ChangeSpec := { name := "fnSpanAt", fn := fun _ => fun
  | [d] => { results := [.lit (.bool true)], args := [d] }
  | _ => none }
def fnSpanAtRow : OpenClaim := { program := "ytiefobkddckkbaa", sum := "1db126e2d4708ef0fdd8355324fcfdca35874e62c7c7a4f7cc30d548213f7136", func := "loop.example/apimigrator/laws.FnSpanAt", spec := "fnSpanAt", inPlace := ["internal/abi.NoEscape"], unfollowed := true, recurses := true, apart := false }
def FnSpanAtSaid : Prop := fnSpanAtRow.holds Try.pinned (OpenSpec.ofChange fnSpanAtSpec)

/-- ITS FALSE NEIGHBOUR: 'it returns false'. Refute it at one input. -/
def fnSpanAtWrong : ChangeSpec := { name := "fnSpanAt", fn := fun _ => fun
  | [d] => { results := [.lit (.bool false)], args := [d] }
  | _ => none }
def FnSpanAtWrongFalsely : Prop := fnSpanAtRow.holds Try.pinned (OpenSpec.ofChange fnSpanAtWrong)

/-- 'laws.FnPartSpan': WHATEVER THE INPUT: true; the input reads as it did. -/
def fnPartSpanSpec : ChangeSpec := { name := "fnPartSpan", fn := fun _ => fun
  | [d] => { results := [.lit (.bool true)], args := [d] }
  | _ => none }
def fnPartSpanRow : OpenClaim := { program := "ytiefobkddckkbaa", sum := "1db126e2d4708ef0fdd8355324fcfdca35874e62c7c7a4f7cc30d548213f7136", func := "loop.example/apimigrator/laws.FnPartSpan", spec := "fnPartSpan", inPlace := ["internal/abi.NoEscape"], unfollowed := true, recurses := true, apart := false }
def FnPartSpanSaid : Prop := fnPartSpanRow.holds Try.pinned (OpenSpec.ofChange fnPartSpanSpec)

/-- ITS FALSE NEIGHBOUR: 'it returns false'. Refute it at one input. -/
def fnPartSpanWrong : ChangeSpec := { name := "fnPartSpan", fn := fun _ => fun
  | [d] => { results := [.lit (.bool false)], args := [d] }
  | _ => none }
def FnPartSpanWrongFalsely : Prop := fnPartSpanRow.holds Try.pinned (OpenSpec.ofChange fnPartSpanWrong)

/- THE SECOND FORM. 'bulk': how many values and letters a reading holds, each counted each time it is reached (what is shared counts as often as it is met; a slice's spare places count too). A statement '..UptoSaid' is the law's where the arguments, and the package variables that the reading takes, are together of bulk at most 1048576: NARROWER than '..Said'. Prove '..Said' where nothing that the law and all that it calls make is longer than what came in: it says more and counts as full. Else prove '..UptoSaid'. A law counts once. -/
mutual
def uptoBulk {H : Type} : DataW H → Nat
  | .lit (.string bytes) => bytes.length + 1
  | .lit _ => 1
  | .nil => 1
  | .ptr d => uptoBulk d + 1
  | .slice elems spare => uptoBulkAll elems + uptoBulkAll spare + 1
  | .agg parts => uptoBulkAll parts + 1
  | .iface _ d => uptoBulk d + 1
  | .map entries => uptoBulkEntries entries + 1
  | .held _ => 1
def uptoBulkAll {H : Type} : List (DataW H) → Nat
  | [] => 0
  | d :: r => uptoBulk d + uptoBulkAll r
def uptoBulkEntries {H : Type} : List (Lit × DataW H) → Nat
  | [] => 0
  | x :: r => uptoBulkEntry x + uptoBulkEntries r
def uptoBulkEntry {H : Type} : Lit × DataW H → Nat
  | (.string bytes, d) => bytes.length + uptoBulk d + 1
  | (_, d) => uptoBulk d + 1
 end
def uptoSmall : (H : Type) → List (DataW H) → Bool := fun _ ds => decide (uptoBulkAll ds ≤ 1048576)
def OpenSpec.upto (s : _root_.Go.ChangeSpec) : _root_.Go.OpenSpec := { _root_.Go.OpenSpec.ofChange s with cond := some uptoSmall }

/-- 'laws.FnExactSpanAt', WHERE WHAT IT READS IS OF BULK AT MOST 1048576: true; the input reads as it did. -/
def fnExactSpanAtUptoRow : OpenClaim := { program := "ytiefobkddckkbaa", sum := "1db126e2d4708ef0fdd8355324fcfdca35874e62c7c7a4f7cc30d548213f7136", func := "loop.example/apimigrator/laws.FnExactSpanAt", spec := "fnExactSpanAt", inPlace := ["internal/abi.NoEscape"], unfollowed := true, recurses := true, loops := true, apart := false, narrowed := true }
def FnExactSpanAtUptoSaid : Prop := fnExactSpanAtUptoRow.holds Try.pinned (OpenSpec.upto fnExactSpanAtSpec)

/-- 'laws.FnSpanAt', WHERE WHAT IT READS IS OF BULK AT MOST 1048576: true; the input reads as it did. -/
def fnSpanAtUptoRow : OpenClaim := { program := "ytiefobkddckkbaa", sum := "1db126e2d4708ef0fdd8355324fcfdca35874e62c7c7a4f7cc30d548213f7136", func := "loop.example/apimigrator/laws.FnSpanAt", spec := "fnSpanAt", inPlace := ["internal/abi.NoEscape"], unfollowed := true, recurses := true, apart := false, narrowed := true }
def FnSpanAtUptoSaid : Prop := fnSpanAtUptoRow.holds Try.pinned (OpenSpec.upto fnSpanAtSpec)

/-- 'laws.FnPartSpan', WHERE WHAT IT READS IS OF BULK AT MOST 1048576: true; the input reads as it did. -/
def fnPartSpanUptoRow : OpenClaim := { program := "ytiefobkddckkbaa", sum := "1db126e2d4708ef0fdd8355324fcfdca35874e62c7c7a4f7cc30d548213f7136", func := "loop.example/apimigrator/laws.FnPartSpan", spec := "fnPartSpan", inPlace := ["internal/abi.NoEscape"], unfollowed := true, recurses := true, apart := false, narrowed := true }
def FnPartSpanUptoSaid : Prop := fnPartSpanUptoRow.holds Try.pinned (OpenSpec.upto fnPartSpanSpec)

end Rows
end Go.Proofs.Ytiefobkddckkbaa
