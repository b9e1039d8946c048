/-
  NARROWER THAN 'FOR EVERY INPUT', by the rows' own cells (each row's printed sentence says how): FnExactCallsFrom: loops · FnExactOldCalls: loops.
  DERIVED. THE GIVEN ROWS OF THIS SEAT. 2 by the template 'for every input the law returns true; each argument reads behind the call as it read before'; 0 by the template 'total and deterministic' (their statements: YthimgboeankpcaaTotals.lean).
  GIVEN WITH THE SEED: the statements are not yours to turn. If you find one false, say at which input.
  Laid BY PROGRAM, IN A SANDBOX (cutbox-rows.mjs): the forced cells as the released guide's own fill.sh prints them over the translation 8549ea315b123169… (all of the seat's roots in one cut). By AI agents, Wed Nov 11 2026. No macro, syntax, notation, axiom, sorry.
-/
import Derived.Test.YthimgboeankpcaaChecked
import GoSem.Claim
import GoSem.ClaimJoined
import GoSem.ClaimMapViews
import Derived.JoinedTies
import Derived.KernelRfl
namespace Go.Proofs.Ythimgboeankpcaa
/- THE CELL 'sum', in the pinned program and in every row, IS THE sha256 OF THE DUMP (.gsa) THAT YthimgboeankpcaaProg.lean LOADS. Nothing in Lean hashes anything: it is a label: what it is worth is what the hold of that sum in a sandbox is worth. -/
noncomputable def Try.pinned : Pinned := { name := "ythimgboeankpcaa", sum := "8549ea315b1231699e0d9016dec1725ba14591bf4abd6a198e09863fce08a5d1", checked := Try.checked }
namespace Rows
def none {H : Type} : Left H := { results := [], args := [] }

/-- 'laws.FnExactCallsFrom': WHATEVER THE INPUT: true; the input reads as it did. -/
def fnExactCallsFromSpec : ChangeSpec := { name := "fnExactCallsFrom", fn := fun _ => fun
  | [d1, d2] => { results := [.lit (.bool true)], args := [d1, d2] }
  | _ => none }
def fnExactCallsFromRow : OpenClaim := { program := "ythimgboeankpcaa", sum := "8549ea315b1231699e0d9016dec1725ba14591bf4abd6a198e09863fce08a5d1", func := "loop.example/apimigrator/laws.FnExactCallsFrom", spec := "fnExactCallsFrom", unfollowed := true, recurses := true, loops := true, apart := false }
def FnExactCallsFromSaid : Prop := fnExactCallsFromRow.holds Try.pinned (OpenSpec.ofChange fnExactCallsFromSpec)

/-- ITS FALSE NEIGHBOUR: 'it returns false'. Refute it at one input. -/
def fnExactCallsFromWrong : ChangeSpec := { name := "fnExactCallsFrom", fn := fun _ => fun
  | [d1, d2] => { results := [.lit (.bool false)], args := [d1, d2] }
  | _ => none }
def FnExactCallsFromWrongFalsely : Prop := fnExactCallsFromRow.holds Try.pinned (OpenSpec.ofChange fnExactCallsFromWrong)

/-- 'laws.FnExactOldCalls': WHATEVER THE INPUT: true; the input reads as it did. -/
def fnExactOldCallsSpec : ChangeSpec := { name := "fnExactOldCalls", fn := fun _ => fun
  | [d1, d2] => { results := [.lit (.bool true)], args := [d1, d2] }
  | _ => none }
def fnExactOldCallsRow : OpenClaim := { program := "ythimgboeankpcaa", sum := "8549ea315b1231699e0d9016dec1725ba14591bf4abd6a198e09863fce08a5d1", func := "loop.example/apimigrator/laws.FnExactOldCalls", spec := "fnExactOldCalls", unfollowed := true, recurses := true, loops := true, apart := false }
def FnExactOldCallsSaid : Prop := fnExactOldCallsRow.holds Try.pinned (OpenSpec.ofChange fnExactOldCallsSpec)

/-- ITS FALSE NEIGHBOUR: 'it returns false'. Refute it at one input. -/
def fnExactOldCallsWrong : ChangeSpec := { name := "fnExactOldCalls", fn := fun _ => fun
  | [d1, d2] => { results := [.lit (.bool false)], args := [d1, d2] }
  | _ => none }
def FnExactOldCallsWrongFalsely : Prop := fnExactOldCallsRow.holds Try.pinned (OpenSpec.ofChange fnExactOldCallsWrong)

/- THE SECOND FORM. 'bulk': how many values and letters a reading holds, each counted each time it is reached (what is shared counts as often as it is met; a slice's spare places count too). A statement '..UptoSaid' is the law's where the arguments, and the package variables that the reading takes, are together of bulk at most 1048576: NARROWER than '..Said'. Prove '..Said' where nothing that the law and all that it calls make is longer than what came in: it says more and counts as full. Else prove '..UptoSaid'. A law counts once. -/
mutual
def uptoBulk {H : Type} : DataW H → Nat
  | .lit (.string bytes) => bytes.length + 1
  | .lit _ => 1
  | .nil => 1
  | .ptr d => uptoBulk d + 1
  | .slice elems spare => uptoBulkAll elems + uptoBulkAll spare + 1
  | .agg parts => uptoBulkAll parts + 1
  | .iface _ d => uptoBulk d + 1
  | .map entries => uptoBulkEntries entries + 1
  | .held _ => 1
def uptoBulkAll {H : Type} : List (DataW H) → Nat
  | [] => 0
  | d :: r => uptoBulk d + uptoBulkAll r
def uptoBulkEntries {H : Type} : List (Lit × DataW H) → Nat
  | [] => 0
  | x :: r => uptoBulkEntry x + uptoBulkEntries r
def uptoBulkEntry {H : Type} : Lit × DataW H → Nat
  | (.string bytes, d) => bytes.length + uptoBulk d + 1
  | (_, d) => uptoBulk d + 1
 end
def uptoSmall : (H : Type) → List (DataW H) → Bool := fun _ ds => decide (uptoBulkAll ds ≤ 1048576)
def OpenSpec.upto (s : _root_.Go.ChangeSpec) : _root_.Go.OpenSpec := { _root_.Go.OpenSpec.ofChange s with cond := some uptoSmall }

/-- 'laws.FnExactCallsFrom', WHERE WHAT IT READS IS OF BULK AT MOST 1048576: true; the input reads as it did. -/
def fnExactCallsFromUptoRow : OpenClaim := { program := "ythimgboeankpcaa", sum := "8549ea315b1231699e0d9016dec1725ba14591bf4abd6a198e09863fce08a5d1", func := "loop.example/apimigrator/laws.FnExactCallsFrom", spec := "fnExactCallsFrom", unfollowed := true, recurses := true, loops := true, apart := false, narrowed := true }
def FnExactCallsFromUptoSaid : Prop := fnExactCallsFromUptoRow.holds Try.pinned (OpenSpec.upto fnExactCallsFromSpec)

/-- 'laws.FnExactOldCalls', WHERE WHAT IT READS IS OF BULK AT MOST 1048576: true; the input reads as it did. -/
def fnExactOldCallsUptoRow : OpenClaim := { program := "ythimgboeankpcaa", sum := "8549ea315b1231699e0d9016dec1725ba14591bf4abd6a198e09863fce08a5d1", func := "loop.example/apimigrator/laws.FnExactOldCalls", spec := "fnExactOldCalls", unfollowed := true, recurses := true, loops := true, apart := false, narrowed := true }
def FnExactOldCallsUptoSaid : Prop := fnExactOldCallsUptoRow.holds Try.pinned (OpenSpec.upto fnExactOldCallsSpec)

end Rows
end Go.Proofs.Ythimgboeankpcaa
