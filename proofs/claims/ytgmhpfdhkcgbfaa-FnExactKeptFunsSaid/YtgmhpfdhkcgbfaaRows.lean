/-
  NARROWER THAN 'FOR EVERY INPUT', by the rows' own cells (each row's printed sentence says how): FnExactGoneCalls: loops · FnExactKeptFuns: loops · FnExactLevelOf: loops · FnExactChangesOf: loops · FnExactRetireFun: loops · FnExactRemoveFun: loops · FnExactAddFun: loops.
  DERIVED. THE GIVEN ROWS OF THIS SEAT. 7 by the template 'for every input the law returns true; each argument reads behind the call as it read before'; 0 by the template 'total and deterministic' (their statements: YtgmhpfdhkcgbfaaTotals.lean).
  GIVEN WITH THE SEED: the statements are not yours to turn. If you find one false, say at which input.
  Laid BY PROGRAM, IN A SANDBOX (cutbox-rows.mjs): the forced cells as the released guide's own fill.sh prints them over the translation 51694416f27620a3… (all of the seat's roots in one cut). By AI agents, Wed Nov 11 2026. No macro, syntax, notation, axiom, sorry.
-/
import Derived.Test.YtgmhpfdhkcgbfaaChecked
import GoSem.Claim
import GoSem.ClaimJoined
import GoSem.ClaimMapViews
import Derived.JoinedTies
import Derived.KernelRfl
namespace Go.Proofs.Ytgmhpfdhkcgbfaa
/- THE CELL 'sum', in the pinned program and in every row, IS THE sha256 OF THE DUMP (.gsa) THAT YtgmhpfdhkcgbfaaProg.lean LOADS. Nothing in Lean hashes anything: it is a label: what it is worth is what the hold of that sum in a sandbox is worth. -/
noncomputable def Try.pinned : Pinned := { name := "ytgmhpfdhkcgbfaa", sum := "51694416f27620a3931bd8aef773a4a0e41f87b0b3189c08a6511c75f8ad03b8", checked := Try.checked }
namespace Rows
def none {H : Type} : Left H := { results := [], args := [] }

/-- 'laws.FnExactGoneCalls': WHATEVER THE INPUT: true; the input reads as it did. -/
def fnExactGoneCallsSpec : ChangeSpec := { name := "fnExactGoneCalls", fn := fun _ => fun
  | [d1, d2, d3] => { results := [.lit (.bool true)], args := [d1, d2, d3] }
  | _ => none }
def fnExactGoneCallsRow : OpenClaim := { program := "ytgmhpfdhkcgbfaa", sum := "51694416f27620a3931bd8aef773a4a0e41f87b0b3189c08a6511c75f8ad03b8", func := "loop.example/apimigrator/laws.FnExactGoneCalls", spec := "fnExactGoneCalls", unfollowed := true, recurses := true, loops := true, apart := false }
def FnExactGoneCallsSaid : Prop := fnExactGoneCallsRow.holds Try.pinned (OpenSpec.ofChange fnExactGoneCallsSpec)

/-- ITS FALSE NEIGHBOUR: 'it returns false'. Refute it at one input. -/
def fnExactGoneCallsWrong : ChangeSpec := { name := "fnExactGoneCalls", fn := fun _ => fun
  | [d1, d2, d3] => { results := [.lit (.bool false)], args := [d1, d2, d3] }
  | _ => none }
def FnExactGoneCallsWrongFalsely : Prop := fnExactGoneCallsRow.holds Try.pinned (OpenSpec.ofChange fnExactGoneCallsWrong)

/-- 'laws.FnExactKeptFuns': WHATEVER THE INPUT: true; the input reads as it did. -/
def fnExactKeptFunsSpec : ChangeSpec := { name := "fnExactKeptFuns", fn := fun _ => fun
  | [d1, d2] => { results := [.lit (.bool true)], args := [d1, d2] }
  | _ => none }
def fnExactKeptFunsRow : OpenClaim := { program := "ytgmhpfdhkcgbfaa", sum := "51694416f27620a3931bd8aef773a4a0e41f87b0b3189c08a6511c75f8ad03b8", func := "loop.example/apimigrator/laws.FnExactKeptFuns", spec := "fnExactKeptFuns", unfollowed := true, recurses := true, loops := true, apart := false }
def FnExactKeptFunsSaid : Prop := fnExactKeptFunsRow.holds Try.pinned (OpenSpec.ofChange fnExactKeptFunsSpec)

/-- ITS FALSE NEIGHBOUR: 'it returns false'. Refute it at one input. -/
def fnExactKeptFunsWrong : ChangeSpec := { name := "fnExactKeptFuns", fn := fun _ => fun
  | [d1, d2] => { results := [.lit (.bool false)], args := [d1, d2] }
  | _ => none }
def FnExactKeptFunsWrongFalsely : Prop := fnExactKeptFunsRow.holds Try.pinned (OpenSpec.ofChange fnExactKeptFunsWrong)

/-- 'laws.FnExactLevelOf': WHATEVER THE INPUT: true; the input reads as it did. -/
def fnExactLevelOfSpec : ChangeSpec := { name := "fnExactLevelOf", fn := fun _ => fun
  | [d1, d2] => { results := [.lit (.bool true)], args := [d1, d2] }
  | _ => none }
def fnExactLevelOfRow : OpenClaim := { program := "ytgmhpfdhkcgbfaa", sum := "51694416f27620a3931bd8aef773a4a0e41f87b0b3189c08a6511c75f8ad03b8", func := "loop.example/apimigrator/laws.FnExactLevelOf", spec := "fnExactLevelOf", unfollowed := true, recurses := true, loops := true, apart := false }
def FnExactLevelOfSaid : Prop := fnExactLevelOfRow.holds Try.pinned (OpenSpec.ofChange fnExactLevelOfSpec)

/-- ITS FALSE NEIGHBOUR: 'it returns false'. Refute it at one input. -/
def fnExactLevelOfWrong : ChangeSpec := { name := "fnExactLevelOf", fn := fun _ => fun
  | [d1, d2] => { results := [.lit (.bool false)], args := [d1, d2] }
  | _ => none }
def FnExactLevelOfWrongFalsely : Prop := fnExactLevelOfRow.holds Try.pinned (OpenSpec.ofChange fnExactLevelOfWrong)

/-- 'laws.FnExactChangesOf': WHATEVER THE INPUT: true; the input reads as it did. -/
def fnExactChangesOfSpec : ChangeSpec := { name := "fnExactChangesOf", fn := fun _ => fun
  | [d1, d2] => { results := [.lit (.bool true)], args := [d1, d2] }
  | _ => none }
def fnExactChangesOfRow : OpenClaim := { program := "ytgmhpfdhkcgbfaa", sum := "51694416f27620a3931bd8aef773a4a0e41f87b0b3189c08a6511c75f8ad03b8", func := "loop.example/apimigrator/laws.FnExactChangesOf", spec := "fnExactChangesOf", unfollowed := true, recurses := true, loops := true, apart := false }
def FnExactChangesOfSaid : Prop := fnExactChangesOfRow.holds Try.pinned (OpenSpec.ofChange fnExactChangesOfSpec)

/-- ITS FALSE NEIGHBOUR: 'it returns false'. Refute it at one input. -/
def fnExactChangesOfWrong : ChangeSpec := { name := "fnExactChangesOf", fn := fun _ => fun
  | [d1, d2] => { results := [.lit (.bool false)], args := [d1, d2] }
  | _ => none }
def FnExactChangesOfWrongFalsely : Prop := fnExactChangesOfRow.holds Try.pinned (OpenSpec.ofChange fnExactChangesOfWrong)

/-- 'laws.FnExactRetireFun': WHATEVER THE INPUT: true; the input reads as it did. -/
def fnExactRetireFunSpec : ChangeSpec := { name := "fnExactRetireFun", fn := fun _ => fun
  | [d1, d2] => { results := [.lit (.bool true)], args := [d1, d2] }
  | _ => none }
def fnExactRetireFunRow : OpenClaim := { program := "ytgmhpfdhkcgbfaa", sum := "51694416f27620a3931bd8aef773a4a0e41f87b0b3189c08a6511c75f8ad03b8", func := "loop.example/apimigrator/laws.FnExactRetireFun", spec := "fnExactRetireFun", unfollowed := true, recurses := true, loops := true, apart := false }
def FnExactRetireFunSaid : Prop := fnExactRetireFunRow.holds Try.pinned (OpenSpec.ofChange fnExactRetireFunSpec)

/-- ITS FALSE NEIGHBOUR: 'it returns false'. Refute it at one input. -/
def fnExactRetireFunWrong : ChangeSpec := { name := "fnExactRetireFun", fn := fun _ => fun
  | [d1, d2] => { results := [.lit (.bool false)], args := [d1, d2] }
  | _ => none }
def FnExactRetireFunWrongFalsely : Prop := fnExactRetireFunRow.holds Try.pinned (OpenSpec.ofChange fnExactRetireFunWrong)

/-- 'laws.FnExactRemoveFun': WHATEVER THE INPUT: true; the input reads as it did. -/
def fnExactRemoveFunSpec : ChangeSpec := { name := "fnExactRemoveFun", fn := fun _ => fun
  | [d1, d2] => { results := [.lit (.bool true)], args := [d1, d2] }
  | _ => none }
def fnExactRemoveFunRow : OpenClaim := { program := "ytgmhpfdhkcgbfaa", sum := "51694416f27620a3931bd8aef773a4a0e41f87b0b3189c08a6511c75f8ad03b8", func := "loop.example/apimigrator/laws.FnExactRemoveFun", spec := "fnExactRemoveFun", unfollowed := true, recurses := true, loops := true, apart := false }
def FnExactRemoveFunSaid : Prop := fnExactRemoveFunRow.holds Try.pinned (OpenSpec.ofChange fnExactRemoveFunSpec)

/-- ITS FALSE NEIGHBOUR: 'it returns false'. Refute it at one input. -/
def fnExactRemoveFunWrong : ChangeSpec := { name := "fnExactRemoveFun", fn := fun _ => fun
  | [d1, d2] => { results := [.lit (.bool false)], args := [d1, d2] }
  | _ => none }
def FnExactRemoveFunWrongFalsely : Prop := fnExactRemoveFunRow.holds Try.pinned (OpenSpec.ofChange fnExactRemoveFunWrong)

/-- 'laws.FnExactAddFun': WHATEVER THE INPUT: true; the input reads as it did. -/
def fnExactAddFunSpec : ChangeSpec := { name := "fnExactAddFun", fn := fun _ => fun
  | [d1, d2] => { results := [.lit (.bool true)], args := [d1, d2] }
  | _ => none }
def fnExactAddFunRow : OpenClaim := { program := "ytgmhpfdhkcgbfaa", sum := "51694416f27620a3931bd8aef773a4a0e41f87b0b3189c08a6511c75f8ad03b8", func := "loop.example/apimigrator/laws.FnExactAddFun", spec := "fnExactAddFun", unfollowed := true, recurses := true, loops := true, apart := false }
def FnExactAddFunSaid : Prop := fnExactAddFunRow.holds Try.pinned (OpenSpec.ofChange fnExactAddFunSpec)

/-- ITS FALSE NEIGHBOUR: 'it returns false'. Refute it at one input. -/
def fnExactAddFunWrong : ChangeSpec := { name := "fnExactAddFun", fn := fun _ => fun
  | [d1, d2] => { results := [.lit (.bool false)], args := [d1, d2] }
  | _ => none }
def FnExactAddFunWrongFalsely : Prop := fnExactAddFunRow.holds Try.pinned (OpenSpec.ofChange fnExactAddFunWrong)

/- THE SECOND FORM. 'bulk': how many values and letters a reading holds, each counted each time it is reached (what is shared counts as often as it is met; a slice's spare places count too). A statement '..UptoSaid' is the law's where the arguments, and the package variables that the reading takes, are together of bulk at most 1048576: NARROWER than '..Said'. Prove '..Said' where nothing that the law and all that it calls make is longer than what came in: it says more and counts as full. Else prove '..UptoSaid'. A law counts once. -/
mutual
def uptoBulk {H : Type} : DataW H → Nat
  | .lit (.string bytes) => bytes.length + 1
  | .lit _ => 1
  | .nil => 1
  | .ptr d => uptoBulk d + 1
  | .slice elems spare => uptoBulkAll elems + uptoBulkAll spare + 1
  | .agg parts => uptoBulkAll parts + 1
  | .iface _ d => uptoBulk d + 1
  | .map entries => uptoBulkEntries entries + 1
  | .held _ => 1
def uptoBulkAll {H : Type} : List (DataW H) → Nat
  | [] => 0
  | d :: r => uptoBulk d + uptoBulkAll r
def uptoBulkEntries {H : Type} : List (Lit × DataW H) → Nat
  | [] => 0
  | x :: r => uptoBulkEntry x + uptoBulkEntries r
def uptoBulkEntry {H : Type} : Lit × DataW H → Nat
  | (.string bytes, d) => bytes.length + uptoBulk d + 1
  | (_, d) => uptoBulk d + 1
 end
def uptoSmall : (H : Type) → List (DataW H) → Bool := fun _ ds => decide (uptoBulkAll ds ≤ 1048576)
def OpenSpec.upto (s : _root_.Go.ChangeSpec) : _root_.Go.OpenSpec := { _root_.Go.OpenSpec.ofChange s with cond := some uptoSmall }

/-- 'laws.FnExactGoneCalls', WHERE WHAT IT READS IS OF BULK AT MOST 1048576: true; the input reads as it did. -/
def fnExactGoneCallsUptoRow : OpenClaim := { program := "ytgmhpfdhkcgbfaa", sum := "51694416f27620a3931bd8aef773a4a0e41f87b0b3189c08a6511c75f8ad03b8", func := "loop.example/apimigrator/laws.FnExactGoneCalls", spec := "fnExactGoneCalls", unfollowed := true, recurses := true, loops := true, apart := false, narrowed := true }
def FnExactGoneCallsUptoSaid : Prop := fnExactGoneCallsUptoRow.holds Try.pinned (OpenSpec.upto fnExactGoneCallsSpec)

/-- 'laws.FnExactKeptFuns', WHERE WHAT IT READS IS OF BULK AT MOST 1048576: true; the input reads as it did. -/
def fnExactKeptFunsUptoRow : OpenClaim := { program := "ytgmhpfdhkcgbfaa", sum := "51694416f27620a3931bd8aef773a4a0e41f87b0b3189c08a6511c75f8ad03b8", func := "loop.example/apimigrator/laws.FnExactKeptFuns", spec := "fnExactKeptFuns", unfollowed := true, recurses := true, loops := true, apart := false, narrowed := true }
def FnExactKeptFunsUptoSaid : Prop := fnExactKeptFunsUptoRow.holds Try.pinned (OpenSpec.upto fnExactKeptFunsSpec)

/-- 'laws.FnExactLevelOf', WHERE WHAT IT READS IS OF BULK AT MOST 1048576: true; the input reads as it did. -/
def fnExactLevelOfUptoRow : OpenClaim := { program := "ytgmhpfdhkcgbfaa", sum := "51694416f27620a3931bd8aef773a4a0e41f87b0b3189c08a6511c75f8ad03b8", func := "loop.example/apimigrator/laws.FnExactLevelOf", spec := "fnExactLevelOf", unfollowed := true, recurses := true, loops := true, apart := false, narrowed := true }
def FnExactLevelOfUptoSaid : Prop := fnExactLevelOfUptoRow.holds Try.pinned (OpenSpec.upto fnExactLevelOfSpec)

/-- 'laws.FnExactChangesOf', WHERE WHAT IT READS IS OF BULK AT MOST 1048576: true; the input reads as it did. -/
def fnExactChangesOfUptoRow : OpenClaim := { program := "ytgmhpfdhkcgbfaa", sum := "51694416f27620a3931bd8aef773a4a0e41f87b0b3189c08a6511c75f8ad03b8", func := "loop.example/apimigrator/laws.FnExactChangesOf", spec := "fnExactChangesOf", unfollowed := true, recurses := true, loops := true, apart := false, narrowed := true }
def FnExactChangesOfUptoSaid : Prop := fnExactChangesOfUptoRow.holds Try.pinned (OpenSpec.upto fnExactChangesOfSpec)

/-- 'laws.FnExactRetireFun', WHERE WHAT IT READS IS OF BULK AT MOST 1048576: true; the input reads as it did. -/
def fnExactRetireFunUptoRow : OpenClaim := { program := "ytgmhpfdhkcgbfaa", sum := "51694416f27620a3931bd8aef773a4a0e41f87b0b3189c08a6511c75f8ad03b8", func := "loop.example/apimigrator/laws.FnExactRetireFun", spec := "fnExactRetireFun", unfollowed := true, recurses := true, loops := true, apart := false, narrowed := true }
def FnExactRetireFunUptoSaid : Prop := fnExactRetireFunUptoRow.holds Try.pinned (OpenSpec.upto fnExactRetireFunSpec)

/-- 'laws.FnExactRemoveFun', WHERE WHAT IT READS IS OF BULK AT MOST 1048576: true; the input reads as it did. -/
def fnExactRemoveFunUptoRow : OpenClaim := { program := "ytgmhpfdhkcgbfaa", sum := "51694416f27620a3931bd8aef773a4a0e41f87b0b3189c08a6511c75f8ad03b8", func := "loop.example/apimigrator/laws.FnExactRemoveFun", spec := "fnExactRemoveFun", unfollowed := true, recurses := true, loops := true, apart := false, narrowed := true }
def FnExactRemoveFunUptoSaid : Prop := fnExactRemoveFunUptoRow.holds Try.pinned (OpenSpec.upto fnExactRemoveFunSpec)

/-- 'laws.FnExactAddFun', WHERE WHAT IT READS IS OF BULK AT MOST 1048576: true; the input reads as it did. -/
def fnExactAddFunUptoRow : OpenClaim := { program := "ytgmhpfdhkcgbfaa", sum := "51694416f27620a3931bd8aef773a4a0e41f87b0b3189c08a6511c75f8ad03b8", func := "loop.example/apimigrator/laws.FnExactAddFun", spec := "fnExactAddFun", unfollowed := true, recurses := true, loops := true, apart := false, narrowed := true }
def FnExactAddFunUptoSaid : Prop := fnExactAddFunUptoRow.holds Try.pinned (OpenSpec.upto fnExactAddFunSpec)

end Rows
end Go.Proofs.Ytgmhpfdhkcgbfaa
