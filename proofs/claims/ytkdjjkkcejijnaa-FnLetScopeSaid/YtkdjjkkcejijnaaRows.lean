/-
  No cell of these rows narrows 'for every input' (looked for: loops, veiled, ifaces, maps, wideKeys, modest, calm, conditions, laid).
  DERIVED. THE GIVEN ROWS OF THIS SEAT. 3 by the template 'for every input the law returns true; each argument reads behind the call as it read before'; 0 by the template 'total and deterministic' (their statements: YtkdjjkkcejijnaaTotals.lean).
  GIVEN WITH THE SEED: the statements are not yours to turn. If you find one false, say at which input.
  Laid BY PROGRAM, IN A SANDBOX (cutbox-rows.mjs): the forced cells as the released guide's own fill.sh prints them over the translation 77c2054edd3b2ffa… (all of the seat's roots in one cut). By AI agents, Wed Nov 11 2026. No macro, syntax, notation, axiom, sorry.
-/
import Derived.Test.YtkdjjkkcejijnaaChecked
import GoSem.Claim
import GoSem.ClaimJoined
import GoSem.ClaimMapViews
import Derived.JoinedTies
import Derived.KernelRfl
namespace Go.Proofs.Ytkdjjkkcejijnaa
/- THE CELL 'sum', in the pinned program and in every row, IS THE sha256 OF THE DUMP (.gsa) THAT YtkdjjkkcejijnaaProg.lean LOADS. Nothing in Lean hashes anything: it is a label: what it is worth is what the hold of that sum in a sandbox is worth. -/
noncomputable def Try.pinned : Pinned := { name := "ytkdjjkkcejijnaa", sum := "77c2054edd3b2ffa213d73aa3023a0b4dab673d13e4844570eccefdb9725ce58", checked := Try.checked }
namespace Rows
def none {H : Type} : Left H := { results := [], args := [] }

/-- 'laws.FnLetScope': WHATEVER THE INPUT: true; the input reads as it did. -/
def fnLetScopeSpec : ChangeSpec := { name := "fnLetScope", fn := fun _ => fun
  | [d] => { results := [.lit (.bool true)], args := [d] }
  | _ => none }
def fnLetScopeRow : OpenClaim := { program := "ytkdjjkkcejijnaa", sum := "77c2054edd3b2ffa213d73aa3023a0b4dab673d13e4844570eccefdb9725ce58", func := "loop.example/apimigrator/laws.FnLetScope", spec := "fnLetScope", inPlace := ["internal/abi.NoEscape"], unfollowed := true, recurses := true, apart := false }
def FnLetScopeSaid : Prop := fnLetScopeRow.holds Try.pinned (OpenSpec.ofChange fnLetScopeSpec)

/-- ITS FALSE NEIGHBOUR: 'it returns false'. Refute it at one input. -/
def fnLetScopeWrong : ChangeSpec := { name := "fnLetScope", fn := fun _ => fun
  | [d] => { results := [.lit (.bool false)], args := [d] }
  | _ => none }
def FnLetScopeWrongFalsely : Prop := fnLetScopeRow.holds Try.pinned (OpenSpec.ofChange fnLetScopeWrong)

/-- 'laws.FnSameSelf': WHATEVER THE INPUT: true; the input reads as it did. -/
def fnSameSelfSpec : ChangeSpec := { name := "fnSameSelf", fn := fun _ => fun
  | [d] => { results := [.lit (.bool true)], args := [d] }
  | _ => none }
def fnSameSelfRow : OpenClaim := { program := "ytkdjjkkcejijnaa", sum := "77c2054edd3b2ffa213d73aa3023a0b4dab673d13e4844570eccefdb9725ce58", func := "loop.example/apimigrator/laws.FnSameSelf", spec := "fnSameSelf", inPlace := ["internal/abi.NoEscape"], unfollowed := true, recurses := true, apart := false }
def FnSameSelfSaid : Prop := fnSameSelfRow.holds Try.pinned (OpenSpec.ofChange fnSameSelfSpec)

/-- ITS FALSE NEIGHBOUR: 'it returns false'. Refute it at one input. -/
def fnSameSelfWrong : ChangeSpec := { name := "fnSameSelf", fn := fun _ => fun
  | [d] => { results := [.lit (.bool false)], args := [d] }
  | _ => none }
def FnSameSelfWrongFalsely : Prop := fnSameSelfRow.holds Try.pinned (OpenSpec.ofChange fnSameSelfWrong)

/-- 'laws.FnReplaceRoot': WHATEVER THE INPUT: true; the input reads as it did. -/
def fnReplaceRootSpec : ChangeSpec := { name := "fnReplaceRoot", fn := fun _ => fun
  | [d] => { results := [.lit (.bool true)], args := [d] }
  | _ => none }
def fnReplaceRootRow : OpenClaim := { program := "ytkdjjkkcejijnaa", sum := "77c2054edd3b2ffa213d73aa3023a0b4dab673d13e4844570eccefdb9725ce58", func := "loop.example/apimigrator/laws.FnReplaceRoot", spec := "fnReplaceRoot", inPlace := ["internal/abi.NoEscape"], unfollowed := true, recurses := true, apart := false }
def FnReplaceRootSaid : Prop := fnReplaceRootRow.holds Try.pinned (OpenSpec.ofChange fnReplaceRootSpec)

/-- ITS FALSE NEIGHBOUR: 'it returns false'. Refute it at one input. -/
def fnReplaceRootWrong : ChangeSpec := { name := "fnReplaceRoot", fn := fun _ => fun
  | [d] => { results := [.lit (.bool false)], args := [d] }
  | _ => none }
def FnReplaceRootWrongFalsely : Prop := fnReplaceRootRow.holds Try.pinned (OpenSpec.ofChange fnReplaceRootWrong)

/- THE SECOND FORM. 'bulk': how many values and letters a reading holds, each counted each time it is reached (what is shared counts as often as it is met; a slice's spare places count too). A statement '..UptoSaid' is the law's where the arguments, and the package variables that the reading takes, are together of bulk at most 1048576: NARROWER than '..Said'. Prove '..Said' where nothing that the law and all that it calls make is longer than what came in: it says more and counts as full. Else prove '..UptoSaid'. A law counts once. -/
mutual
def uptoBulk {H : Type} : DataW H → Nat
  | .lit (.string bytes) => bytes.length + 1
  | .lit _ => 1
  | .nil => 1
  | .ptr d => uptoBulk d + 1
  | .slice elems spare => uptoBulkAll elems + uptoBulkAll spare + 1
  | .agg parts => uptoBulkAll parts + 1
  | .iface _ d => uptoBulk d + 1
  | .map entries => uptoBulkEntries entries + 1
  | .held _ => 1
def uptoBulkAll {H : Type} : List (DataW H) → Nat
  | [] => 0
  | d :: r => uptoBulk d + uptoBulkAll r
def uptoBulkEntries {H : Type} : List (Lit × DataW H) → Nat
  | [] => 0
  | x :: r => uptoBulkEntry x + uptoBulkEntries r
def uptoBulkEntry {H : Type} : Lit × DataW H → Nat
  | (.string bytes, d) => bytes.length + uptoBulk d + 1
  | (_, d) => uptoBulk d + 1
 end
def uptoSmall : (H : Type) → List (DataW H) → Bool := fun _ ds => decide (uptoBulkAll ds ≤ 1048576)
def OpenSpec.upto (s : _root_.Go.ChangeSpec) : _root_.Go.OpenSpec := { _root_.Go.OpenSpec.ofChange s with cond := some uptoSmall }

/-- 'laws.FnLetScope', WHERE WHAT IT READS IS OF BULK AT MOST 1048576: true; the input reads as it did. -/
def fnLetScopeUptoRow : OpenClaim := { program := "ytkdjjkkcejijnaa", sum := "77c2054edd3b2ffa213d73aa3023a0b4dab673d13e4844570eccefdb9725ce58", func := "loop.example/apimigrator/laws.FnLetScope", spec := "fnLetScope", inPlace := ["internal/abi.NoEscape"], unfollowed := true, recurses := true, apart := false, narrowed := true }
def FnLetScopeUptoSaid : Prop := fnLetScopeUptoRow.holds Try.pinned (OpenSpec.upto fnLetScopeSpec)

/-- 'laws.FnSameSelf', WHERE WHAT IT READS IS OF BULK AT MOST 1048576: true; the input reads as it did. -/
def fnSameSelfUptoRow : OpenClaim := { program := "ytkdjjkkcejijnaa", sum := "77c2054edd3b2ffa213d73aa3023a0b4dab673d13e4844570eccefdb9725ce58", func := "loop.example/apimigrator/laws.FnSameSelf", spec := "fnSameSelf", inPlace := ["internal/abi.NoEscape"], unfollowed := true, recurses := true, apart := false, narrowed := true }
def FnSameSelfUptoSaid : Prop := fnSameSelfUptoRow.holds Try.pinned (OpenSpec.upto fnSameSelfSpec)

/-- 'laws.FnReplaceRoot', WHERE WHAT IT READS IS OF BULK AT MOST 1048576: true; the input reads as it did. -/
def fnReplaceRootUptoRow : OpenClaim := { program := "ytkdjjkkcejijnaa", sum := "77c2054edd3b2ffa213d73aa3023a0b4dab673d13e4844570eccefdb9725ce58", func := "loop.example/apimigrator/laws.FnReplaceRoot", spec := "fnReplaceRoot", inPlace := ["internal/abi.NoEscape"], unfollowed := true, recurses := true, apart := false, narrowed := true }
def FnReplaceRootUptoSaid : Prop := fnReplaceRootUptoRow.holds Try.pinned (OpenSpec.upto fnReplaceRootSpec)

end Rows
end Go.Proofs.Ytkdjjkkcejijnaa
