/-
  No cell of these rows narrows 'for every input' (looked for: loops, veiled, ifaces, maps, wideKeys, modest, calm, conditions, laid).
  DERIVED. THE GIVEN ROWS OF THIS SEAT. 5 by the template 'for every input the law returns true; each argument reads behind the call as it read before'; 0 by the template 'total and deterministic' (their statements: YtfijdlbcpmnbhaaTotals.lean).
  GIVEN WITH THE SEED: the statements are not yours to turn. If you find one false, say at which input.
  Laid BY PROGRAM, IN A SANDBOX (cutbox-rows.mjs): the forced cells as the released guide's own fill.sh prints them over the translation be7008cd10ac592a… (all of the seat's roots in one cut). By AI agents, Wed Nov 11 2026. No macro, syntax, notation, axiom, sorry.
-/
import Derived.Test.YtfijdlbcpmnbhaaChecked
import GoSem.Claim
import GoSem.ClaimJoined
import GoSem.ClaimMapViews
import Derived.JoinedTies
import Derived.KernelRfl
namespace Go.Proofs.Ytfijdlbcpmnbhaa
/- THE CELL 'sum', in the pinned program and in every row, IS THE sha256 OF THE DUMP (.gsa) THAT YtfijdlbcpmnbhaaProg.lean LOADS. Nothing in Lean hashes anything: it is a label: what it is worth is what the hold of that sum in a sandbox is worth. -/
noncomputable def Try.pinned : Pinned := { name := "ytfijdlbcpmnbhaa", sum := "be7008cd10ac592aa08808173315dd99853b045c3017d8ab8bb3b1e94bc508d4", checked := Try.checked }
namespace Rows
def none {H : Type} : Left H := { results := [], args := [] }

/-- 'laws.FnClientValid': WHATEVER THE INPUT: true; the input reads as it did. -/
def fnClientValidSpec : ChangeSpec := { name := "fnClientValid", fn := fun _ => fun
  | [d] => { results := [.lit (.bool true)], args := [d] }
  | _ => none }
def fnClientValidRow : OpenClaim := { program := "ytfijdlbcpmnbhaa", sum := "be7008cd10ac592aa08808173315dd99853b045c3017d8ab8bb3b1e94bc508d4", func := "loop.example/apimigrator/laws.FnClientValid", spec := "fnClientValid", unfollowed := true, recurses := true, apart := false }
def FnClientValidSaid : Prop := fnClientValidRow.holds Try.pinned (OpenSpec.ofChange fnClientValidSpec)

/-- ITS FALSE NEIGHBOUR: 'it returns false'. Refute it at one input. -/
def fnClientValidWrong : ChangeSpec := { name := "fnClientValid", fn := fun _ => fun
  | [d] => { results := [.lit (.bool false)], args := [d] }
  | _ => none }
def FnClientValidWrongFalsely : Prop := fnClientValidRow.holds Try.pinned (OpenSpec.ofChange fnClientValidWrong)

/-- 'laws.FnOldCalls': WHATEVER THE INPUT: true; the input reads as it did. -/
def fnOldCallsSpec : ChangeSpec := { name := "fnOldCalls", fn := fun _ => fun
  | [d] => { results := [.lit (.bool true)], args := [d] }
  | _ => none }
def fnOldCallsRow : OpenClaim := { program := "ytfijdlbcpmnbhaa", sum := "be7008cd10ac592aa08808173315dd99853b045c3017d8ab8bb3b1e94bc508d4", func := "loop.example/apimigrator/laws.FnOldCalls", spec := "fnOldCalls", unfollowed := true, recurses := true, apart := false }
def FnOldCallsSaid : Prop := fnOldCallsRow.holds Try.pinned (OpenSpec.ofChange fnOldCallsSpec)

/-- ITS FALSE NEIGHBOUR: 'it returns false'. Refute it at one input. -/
def fnOldCallsWrong : ChangeSpec := { name := "fnOldCalls", fn := fun _ => fun
  | [d] => { results := [.lit (.bool false)], args := [d] }
  | _ => none }
def FnOldCallsWrongFalsely : Prop := fnOldCallsRow.holds Try.pinned (OpenSpec.ofChange fnOldCallsWrong)

/-- 'laws.FnFindDef': WHATEVER THE INPUT: true; the input reads as it did. -/
def fnFindDefSpec : ChangeSpec := { name := "fnFindDef", fn := fun _ => fun
  | [d] => { results := [.lit (.bool true)], args := [d] }
  | _ => none }
def fnFindDefRow : OpenClaim := { program := "ytfijdlbcpmnbhaa", sum := "be7008cd10ac592aa08808173315dd99853b045c3017d8ab8bb3b1e94bc508d4", func := "loop.example/apimigrator/laws.FnFindDef", spec := "fnFindDef", recurses := true, apart := false }
def FnFindDefSaid : Prop := fnFindDefRow.holds Try.pinned (OpenSpec.ofChange fnFindDefSpec)

/-- ITS FALSE NEIGHBOUR: 'it returns false'. Refute it at one input. -/
def fnFindDefWrong : ChangeSpec := { name := "fnFindDef", fn := fun _ => fun
  | [d] => { results := [.lit (.bool false)], args := [d] }
  | _ => none }
def FnFindDefWrongFalsely : Prop := fnFindDefRow.holds Try.pinned (OpenSpec.ofChange fnFindDefWrong)

/-- 'laws.FnLibraryPrefix': WHATEVER THE INPUT: true; the input reads as it did. -/
def fnLibraryPrefixSpec : ChangeSpec := { name := "fnLibraryPrefix", fn := fun _ => fun
  | [d] => { results := [.lit (.bool true)], args := [d] }
  | _ => none }
def fnLibraryPrefixRow : OpenClaim := { program := "ytfijdlbcpmnbhaa", sum := "be7008cd10ac592aa08808173315dd99853b045c3017d8ab8bb3b1e94bc508d4", func := "loop.example/apimigrator/laws.FnLibraryPrefix", spec := "fnLibraryPrefix", unfollowed := true, recurses := true, apart := false }
def FnLibraryPrefixSaid : Prop := fnLibraryPrefixRow.holds Try.pinned (OpenSpec.ofChange fnLibraryPrefixSpec)

/-- ITS FALSE NEIGHBOUR: 'it returns false'. Refute it at one input. -/
def fnLibraryPrefixWrong : ChangeSpec := { name := "fnLibraryPrefix", fn := fun _ => fun
  | [d] => { results := [.lit (.bool false)], args := [d] }
  | _ => none }
def FnLibraryPrefixWrongFalsely : Prop := fnLibraryPrefixRow.holds Try.pinned (OpenSpec.ofChange fnLibraryPrefixWrong)

/-- 'laws.FnBodyFits': WHATEVER THE INPUT: true; the input reads as it did. -/
def fnBodyFitsSpec : ChangeSpec := { name := "fnBodyFits", fn := fun _ => fun
  | [d] => { results := [.lit (.bool true)], args := [d] }
  | _ => none }
def fnBodyFitsRow : OpenClaim := { program := "ytfijdlbcpmnbhaa", sum := "be7008cd10ac592aa08808173315dd99853b045c3017d8ab8bb3b1e94bc508d4", func := "loop.example/apimigrator/laws.FnBodyFits", spec := "fnBodyFits", unfollowed := true, recurses := true, apart := false }
def FnBodyFitsSaid : Prop := fnBodyFitsRow.holds Try.pinned (OpenSpec.ofChange fnBodyFitsSpec)

/-- ITS FALSE NEIGHBOUR: 'it returns false'. Refute it at one input. -/
def fnBodyFitsWrong : ChangeSpec := { name := "fnBodyFits", fn := fun _ => fun
  | [d] => { results := [.lit (.bool false)], args := [d] }
  | _ => none }
def FnBodyFitsWrongFalsely : Prop := fnBodyFitsRow.holds Try.pinned (OpenSpec.ofChange fnBodyFitsWrong)

/- THE SECOND FORM. 'bulk': how many values and letters a reading holds, each counted each time it is reached (what is shared counts as often as it is met; a slice's spare places count too). A statement '..UptoSaid' is the law's where the arguments, and the package variables that the reading takes, are together of bulk at most 1048576: NARROWER than '..Said'. Prove '..Said' where nothing that the law and all that it calls make is longer than what came in: it says more and counts as full. Else prove '..UptoSaid'. A law counts once. -/
mutual
def uptoBulk {H : Type} : DataW H → Nat
  | .lit (.string bytes) => bytes.length + 1
  | .lit _ => 1
  | .nil => 1
  | .ptr d => uptoBulk d + 1
  | .slice elems spare => uptoBulkAll elems + uptoBulkAll spare + 1
  | .agg parts => uptoBulkAll parts + 1
  | .iface _ d => uptoBulk d + 1
  | .map entries => uptoBulkEntries entries + 1
  | .held _ => 1
def uptoBulkAll {H : Type} : List (DataW H) → Nat
  | [] => 0
  | d :: r => uptoBulk d + uptoBulkAll r
def uptoBulkEntries {H : Type} : List (Lit × DataW H) → Nat
  | [] => 0
  | x :: r => uptoBulkEntry x + uptoBulkEntries r
def uptoBulkEntry {H : Type} : Lit × DataW H → Nat
  | (.string bytes, d) => bytes.length + uptoBulk d + 1
  | (_, d) => uptoBulk d + 1
 end
def uptoSmall : (H : Type) → List (DataW H) → Bool := fun _ ds => decide (uptoBulkAll ds ≤ 1048576)
def OpenSpec.upto (s : _root_.Go.ChangeSpec) : _root_.Go.OpenSpec := { _root_.Go.OpenSpec.ofChange s with cond := some uptoSmall }

/-- 'laws.FnClientValid', WHERE WHAT IT READS IS OF BULK AT MOST 1048576: true; the input reads as it did. -/
def fnClientValidUptoRow : OpenClaim := { program := "ytfijdlbcpmnbhaa", sum := "be7008cd10ac592aa08808173315dd99853b045c3017d8ab8bb3b1e94bc508d4", func := "loop.example/apimigrator/laws.FnClientValid", spec := "fnClientValid", unfollowed := true, recurses := true, apart := false, narrowed := true }
def FnClientValidUptoSaid : Prop := fnClientValidUptoRow.holds Try.pinned (OpenSpec.upto fnClientValidSpec)

/-- 'laws.FnOldCalls', WHERE WHAT IT READS IS OF BULK AT MOST 1048576: true; the input reads as it did. -/
def fnOldCallsUptoRow : OpenClaim := { program := "ytfijdlbcpmnbhaa", sum := "be7008cd10ac592aa08808173315dd99853b045c3017d8ab8bb3b1e94bc508d4", func := "loop.example/apimigrator/laws.FnOldCalls", spec := "fnOldCalls", unfollowed := true, recurses := true, apart := false, narrowed := true }
def FnOldCallsUptoSaid : Prop := fnOldCallsUptoRow.holds Try.pinned (OpenSpec.upto fnOldCallsSpec)

/-- 'laws.FnFindDef', WHERE WHAT IT READS IS OF BULK AT MOST 1048576: true; the input reads as it did. -/
def fnFindDefUptoRow : OpenClaim := { program := "ytfijdlbcpmnbhaa", sum := "be7008cd10ac592aa08808173315dd99853b045c3017d8ab8bb3b1e94bc508d4", func := "loop.example/apimigrator/laws.FnFindDef", spec := "fnFindDef", recurses := true, apart := false, narrowed := true }
def FnFindDefUptoSaid : Prop := fnFindDefUptoRow.holds Try.pinned (OpenSpec.upto fnFindDefSpec)

/-- 'laws.FnLibraryPrefix', WHERE WHAT IT READS IS OF BULK AT MOST 1048576: true; the input reads as it did. -/
def fnLibraryPrefixUptoRow : OpenClaim := { program := "ytfijdlbcpmnbhaa", sum := "be7008cd10ac592aa08808173315dd99853b045c3017d8ab8bb3b1e94bc508d4", func := "loop.example/apimigrator/laws.FnLibraryPrefix", spec := "fnLibraryPrefix", unfollowed := true, recurses := true, apart := false, narrowed := true }
def FnLibraryPrefixUptoSaid : Prop := fnLibraryPrefixUptoRow.holds Try.pinned (OpenSpec.upto fnLibraryPrefixSpec)

/-- 'laws.FnBodyFits', WHERE WHAT IT READS IS OF BULK AT MOST 1048576: true; the input reads as it did. -/
def fnBodyFitsUptoRow : OpenClaim := { program := "ytfijdlbcpmnbhaa", sum := "be7008cd10ac592aa08808173315dd99853b045c3017d8ab8bb3b1e94bc508d4", func := "loop.example/apimigrator/laws.FnBodyFits", spec := "fnBodyFits", unfollowed := true, recurses := true, apart := false, narrowed := true }
def FnBodyFitsUptoSaid : Prop := fnBodyFitsUptoRow.holds Try.pinned (OpenSpec.upto fnBodyFitsSpec)

end Rows
end Go.Proofs.Ytfijdlbcpmnbhaa
