/-
  No cell of these rows narrows 'for every input' (looked for: loops, veiled, ifaces, maps, wideKeys, modest, calm, conditions, laid).
  DERIVED. THE GIVEN ROWS OF THIS SEAT. 4 by the template 'for every input the law returns true; each argument reads behind the call as it read before'; 0 by the template 'total and deterministic' (their statements: YtbbieamgjbijlaaTotals.lean).
  GIVEN WITH THE SEED: the statements are not yours to turn. If you find one false, say at which input.
  Laid BY PROGRAM, IN A SANDBOX (cutbox-rows.mjs): the forced cells as the released guide's own fill.sh prints them over the translation 0a42a3f89f025e97… (all of the seat's roots in one cut). By AI agents, Wed Nov 11 2026. No macro, syntax, notation, axiom, sorry.
-/
import Derived.Test.YtbbieamgjbijlaaChecked
import GoSem.Claim
import GoSem.ClaimJoined
import GoSem.ClaimMapViews
import Derived.JoinedTies
import Derived.KernelRfl
namespace Go.Proofs.Ytbbieamgjbijlaa
/- THE CELL 'sum', in the pinned program and in every row, IS THE sha256 OF THE DUMP (.gsa) THAT YtbbieamgjbijlaaProg.lean LOADS. Nothing in Lean hashes anything: it is a label: what it is worth is what the hold of that sum in a sandbox is worth. -/
noncomputable def Try.pinned : Pinned := { name := "ytbbieamgjbijlaa", sum := "0a42a3f89f025e972c1e19a12b65baeac115b1f0b4321c16a4d92983fe310530", checked := Try.checked }
namespace Rows
def none {H : Type} : Left H := { results := [], args := [] }

/-- 'laws.FnPathsOf': WHATEVER THE INPUT: true; the input reads as it did. -/
def fnPathsOfSpec : ChangeSpec := { name := "fnPathsOf", fn := fun _ => fun
  | [d] => { results := [.lit (.bool true)], args := [d] }
  | _ => none }
def fnPathsOfRow : OpenClaim := { program := "ytbbieamgjbijlaa", sum := "0a42a3f89f025e972c1e19a12b65baeac115b1f0b4321c16a4d92983fe310530", func := "loop.example/apimigrator/laws.FnPathsOf", spec := "fnPathsOf", unfollowed := true, recurses := true, apart := false }
def FnPathsOfSaid : Prop := fnPathsOfRow.holds Try.pinned (OpenSpec.ofChange fnPathsOfSpec)

/-- ITS FALSE NEIGHBOUR: 'it returns false'. Refute it at one input. -/
def fnPathsOfWrong : ChangeSpec := { name := "fnPathsOf", fn := fun _ => fun
  | [d] => { results := [.lit (.bool false)], args := [d] }
  | _ => none }
def FnPathsOfWrongFalsely : Prop := fnPathsOfRow.holds Try.pinned (OpenSpec.ofChange fnPathsOfWrong)

/-- 'laws.FnPartAt': WHATEVER THE INPUT: true; the input reads as it did. -/
def fnPartAtSpec : ChangeSpec := { name := "fnPartAt", fn := fun _ => fun
  | [d] => { results := [.lit (.bool true)], args := [d] }
  | _ => none }
def fnPartAtRow : OpenClaim := { program := "ytbbieamgjbijlaa", sum := "0a42a3f89f025e972c1e19a12b65baeac115b1f0b4321c16a4d92983fe310530", func := "loop.example/apimigrator/laws.FnPartAt", spec := "fnPartAt", recurses := true, apart := false }
def FnPartAtSaid : Prop := fnPartAtRow.holds Try.pinned (OpenSpec.ofChange fnPartAtSpec)

/-- ITS FALSE NEIGHBOUR: 'it returns false'. Refute it at one input. -/
def fnPartAtWrong : ChangeSpec := { name := "fnPartAt", fn := fun _ => fun
  | [d] => { results := [.lit (.bool false)], args := [d] }
  | _ => none }
def FnPartAtWrongFalsely : Prop := fnPartAtRow.holds Try.pinned (OpenSpec.ofChange fnPartAtWrong)

/-- 'laws.FnCallPaths': WHATEVER THE INPUT: true; the input reads as it did. -/
def fnCallPathsSpec : ChangeSpec := { name := "fnCallPaths", fn := fun _ => fun
  | [d] => { results := [.lit (.bool true)], args := [d] }
  | _ => none }
def fnCallPathsRow : OpenClaim := { program := "ytbbieamgjbijlaa", sum := "0a42a3f89f025e972c1e19a12b65baeac115b1f0b4321c16a4d92983fe310530", func := "loop.example/apimigrator/laws.FnCallPaths", spec := "fnCallPaths", unfollowed := true, recurses := true, apart := false }
def FnCallPathsSaid : Prop := fnCallPathsRow.holds Try.pinned (OpenSpec.ofChange fnCallPathsSpec)

/-- ITS FALSE NEIGHBOUR: 'it returns false'. Refute it at one input. -/
def fnCallPathsWrong : ChangeSpec := { name := "fnCallPaths", fn := fun _ => fun
  | [d] => { results := [.lit (.bool false)], args := [d] }
  | _ => none }
def FnCallPathsWrongFalsely : Prop := fnCallPathsRow.holds Try.pinned (OpenSpec.ofChange fnCallPathsWrong)

/-- 'laws.FnCallCount': WHATEVER THE INPUT: true; the input reads as it did. -/
def fnCallCountSpec : ChangeSpec := { name := "fnCallCount", fn := fun _ => fun
  | [d] => { results := [.lit (.bool true)], args := [d] }
  | _ => none }
def fnCallCountRow : OpenClaim := { program := "ytbbieamgjbijlaa", sum := "0a42a3f89f025e972c1e19a12b65baeac115b1f0b4321c16a4d92983fe310530", func := "loop.example/apimigrator/laws.FnCallCount", spec := "fnCallCount", unfollowed := true, recurses := true, apart := false }
def FnCallCountSaid : Prop := fnCallCountRow.holds Try.pinned (OpenSpec.ofChange fnCallCountSpec)

/-- ITS FALSE NEIGHBOUR: 'it returns false'. Refute it at one input. -/
def fnCallCountWrong : ChangeSpec := { name := "fnCallCount", fn := fun _ => fun
  | [d] => { results := [.lit (.bool false)], args := [d] }
  | _ => none }
def FnCallCountWrongFalsely : Prop := fnCallCountRow.holds Try.pinned (OpenSpec.ofChange fnCallCountWrong)

/- THE SECOND FORM. 'bulk': how many values and letters a reading holds, each counted each time it is reached (what is shared counts as often as it is met; a slice's spare places count too). A statement '..UptoSaid' is the law's where the arguments, and the package variables that the reading takes, are together of bulk at most 1048576: NARROWER than '..Said'. Prove '..Said' where nothing that the law and all that it calls make is longer than what came in: it says more and counts as full. Else prove '..UptoSaid'. A law counts once. -/
mutual
def uptoBulk {H : Type} : DataW H → Nat
  | .lit (.string bytes) => bytes.length + 1
  | .lit _ => 1
  | .nil => 1
  | .ptr d => uptoBulk d + 1
  | .slice elems spare => uptoBulkAll elems + uptoBulkAll spare + 1
  | .agg parts => uptoBulkAll parts + 1
  | .iface _ d => uptoBulk d + 1
  | .map entries => uptoBulkEntries entries + 1
  | .held _ => 1
def uptoBulkAll {H : Type} : List (DataW H) → Nat
  | [] => 0
  | d :: r => uptoBulk d + uptoBulkAll r
def uptoBulkEntries {H : Type} : List (Lit × DataW H) → Nat
  | [] => 0
  | x :: r => uptoBulkEntry x + uptoBulkEntries r
def uptoBulkEntry {H : Type} : Lit × DataW H → Nat
  | (.string bytes, d) => bytes.length + uptoBulk d + 1
  | (_, d) => uptoBulk d + 1
 end
def uptoSmall : (H : Type) → List (DataW H) → Bool := fun _ ds => decide (uptoBulkAll ds ≤ 1048576)
def OpenSpec.upto (s : _root_.Go.ChangeSpec) : _root_.Go.OpenSpec := { _root_.Go.OpenSpec.ofChange s with cond := some uptoSmall }

/-- 'laws.FnPathsOf', WHERE WHAT IT READS IS OF BULK AT MOST 1048576: true; the input reads as it did. -/
def fnPathsOfUptoRow : OpenClaim := { program := "ytbbieamgjbijlaa", sum := "0a42a3f89f025e972c1e19a12b65baeac115b1f0b4321c16a4d92983fe310530", func := "loop.example/apimigrator/laws.FnPathsOf", spec := "fnPathsOf", unfollowed := true, recurses := true, apart := false, narrowed := true }
def FnPathsOfUptoSaid : Prop := fnPathsOfUptoRow.holds Try.pinned (OpenSpec.upto fnPathsOfSpec)

/-- 'laws.FnPartAt', WHERE WHAT IT READS IS OF BULK AT MOST 1048576: true; the input reads as it did. -/
def fnPartAtUptoRow : OpenClaim := { program := "ytbbieamgjbijlaa", sum := "0a42a3f89f025e972c1e19a12b65baeac115b1f0b4321c16a4d92983fe310530", func := "loop.example/apimigrator/laws.FnPartAt", spec := "fnPartAt", recurses := true, apart := false, narrowed := true }
def FnPartAtUptoSaid : Prop := fnPartAtUptoRow.holds Try.pinned (OpenSpec.upto fnPartAtSpec)

/-- 'laws.FnCallPaths', WHERE WHAT IT READS IS OF BULK AT MOST 1048576: true; the input reads as it did. -/
def fnCallPathsUptoRow : OpenClaim := { program := "ytbbieamgjbijlaa", sum := "0a42a3f89f025e972c1e19a12b65baeac115b1f0b4321c16a4d92983fe310530", func := "loop.example/apimigrator/laws.FnCallPaths", spec := "fnCallPaths", unfollowed := true, recurses := true, apart := false, narrowed := true }
def FnCallPathsUptoSaid : Prop := fnCallPathsUptoRow.holds Try.pinned (OpenSpec.upto fnCallPathsSpec)

/-- 'laws.FnCallCount', WHERE WHAT IT READS IS OF BULK AT MOST 1048576: true; the input reads as it did. -/
def fnCallCountUptoRow : OpenClaim := { program := "ytbbieamgjbijlaa", sum := "0a42a3f89f025e972c1e19a12b65baeac115b1f0b4321c16a4d92983fe310530", func := "loop.example/apimigrator/laws.FnCallCount", spec := "fnCallCount", unfollowed := true, recurses := true, apart := false, narrowed := true }
def FnCallCountUptoSaid : Prop := fnCallCountUptoRow.holds Try.pinned (OpenSpec.upto fnCallCountSpec)

end Rows
end Go.Proofs.Ytbbieamgjbijlaa
