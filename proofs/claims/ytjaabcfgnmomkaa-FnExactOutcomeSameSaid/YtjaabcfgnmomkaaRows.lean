/-
  No cell of these rows narrows 'for every input' (looked for: loops, veiled, ifaces, maps, wideKeys, modest, calm, conditions, laid).
  DERIVED. THE GIVEN ROWS OF THIS SEAT. 2 by the template 'for every input the law returns true; each argument reads behind the call as it read before'; 0 by the template 'total and deterministic' (their statements: YtjaabcfgnmomkaaTotals.lean).
  GIVEN WITH THE SEED: the statements are not yours to turn. If you find one false, say at which input.
  Laid BY PROGRAM, IN A SANDBOX (cutbox-rows.mjs): the forced cells as the released guide's own fill.sh prints them over the translation 7da01ab543a4c662… (all of the seat's roots in one cut). By AI agents, Wed Nov 11 2026. No macro, syntax, notation, axiom, sorry.
-/
import Derived.Test.YtjaabcfgnmomkaaChecked
import GoSem.Claim
import GoSem.ClaimJoined
import GoSem.ClaimMapViews
import Derived.JoinedTies
import Derived.KernelRfl
namespace Go.Proofs.Ytjaabcfgnmomkaa
/- THE CELL 'sum', in the pinned program and in every row, IS THE sha256 OF THE DUMP (.gsa) THAT YtjaabcfgnmomkaaProg.lean LOADS. Nothing in Lean hashes anything: it is a label: what it is worth is what the hold of that sum in a sandbox is worth. -/
noncomputable def Try.pinned : Pinned := { name := "ytjaabcfgnmomkaa", sum := "7da01ab543a4c6621597780347d91c81047216344ec23baf3779b043cd995497", checked := Try.checked }
namespace Rows
def none {H : Type} : Left H := { results := [], args := [] }

/-- 'laws.FnExactOutcomeSame': WHATEVER THE INPUT: true; the input reads as it did. -/
def fnExactOutcomeSameSpec : ChangeSpec := { name := "fnExactOutcomeSame", fn := fun _ => fun
  | [d1, d2] => { results := [.lit (.bool true)], args := [d1, d2] }
  | _ => none }
def fnExactOutcomeSameRow : OpenClaim := { program := "ytjaabcfgnmomkaa", sum := "7da01ab543a4c6621597780347d91c81047216344ec23baf3779b043cd995497", func := "loop.example/apimigrator/laws.FnExactOutcomeSame", spec := "fnExactOutcomeSame", apart := false }
def FnExactOutcomeSameSaid : Prop := fnExactOutcomeSameRow.holds Try.pinned (OpenSpec.ofChange fnExactOutcomeSameSpec)

/-- ITS FALSE NEIGHBOUR: 'it returns false'. Refute it at one input. -/
def fnExactOutcomeSameWrong : ChangeSpec := { name := "fnExactOutcomeSame", fn := fun _ => fun
  | [d1, d2] => { results := [.lit (.bool false)], args := [d1, d2] }
  | _ => none }
def FnExactOutcomeSameWrongFalsely : Prop := fnExactOutcomeSameRow.holds Try.pinned (OpenSpec.ofChange fnExactOutcomeSameWrong)

/-- 'laws.FnExactOutcomeSeen': WHATEVER THE INPUT: true; the input reads as it did. -/
def fnExactOutcomeSeenSpec : ChangeSpec := { name := "fnExactOutcomeSeen", fn := fun _ => fun
  | [d1, d2] => { results := [.lit (.bool true)], args := [d1, d2] }
  | _ => none }
def fnExactOutcomeSeenRow : OpenClaim := { program := "ytjaabcfgnmomkaa", sum := "7da01ab543a4c6621597780347d91c81047216344ec23baf3779b043cd995497", func := "loop.example/apimigrator/laws.FnExactOutcomeSeen", spec := "fnExactOutcomeSeen", apart := false }
def FnExactOutcomeSeenSaid : Prop := fnExactOutcomeSeenRow.holds Try.pinned (OpenSpec.ofChange fnExactOutcomeSeenSpec)

/-- ITS FALSE NEIGHBOUR: 'it returns false'. Refute it at one input. -/
def fnExactOutcomeSeenWrong : ChangeSpec := { name := "fnExactOutcomeSeen", fn := fun _ => fun
  | [d1, d2] => { results := [.lit (.bool false)], args := [d1, d2] }
  | _ => none }
def FnExactOutcomeSeenWrongFalsely : Prop := fnExactOutcomeSeenRow.holds Try.pinned (OpenSpec.ofChange fnExactOutcomeSeenWrong)

/- THE SECOND FORM. 'bulk': how many values and letters a reading holds, each counted each time it is reached (what is shared counts as often as it is met; a slice's spare places count too). A statement '..UptoSaid' is the law's where the arguments, and the package variables that the reading takes, are together of bulk at most 1048576: NARROWER than '..Said'. Prove '..Said' where nothing that the law and all that it calls make is longer than what came in: it says more and counts as full. Else prove '..UptoSaid'. A law counts once. -/
mutual
def uptoBulk {H : Type} : DataW H → Nat
  | .lit (.string bytes) => bytes.length + 1
  | .lit _ => 1
  | .nil => 1
  | .ptr d => uptoBulk d + 1
  | .slice elems spare => uptoBulkAll elems + uptoBulkAll spare + 1
  | .agg parts => uptoBulkAll parts + 1
  | .iface _ d => uptoBulk d + 1
  | .map entries => uptoBulkEntries entries + 1
  | .held _ => 1
def uptoBulkAll {H : Type} : List (DataW H) → Nat
  | [] => 0
  | d :: r => uptoBulk d + uptoBulkAll r
def uptoBulkEntries {H : Type} : List (Lit × DataW H) → Nat
  | [] => 0
  | x :: r => uptoBulkEntry x + uptoBulkEntries r
def uptoBulkEntry {H : Type} : Lit × DataW H → Nat
  | (.string bytes, d) => bytes.length + uptoBulk d + 1
  | (_, d) => uptoBulk d + 1
 end
def uptoSmall : (H : Type) → List (DataW H) → Bool := fun _ ds => decide (uptoBulkAll ds ≤ 1048576)
def OpenSpec.upto (s : _root_.Go.ChangeSpec) : _root_.Go.OpenSpec := { _root_.Go.OpenSpec.ofChange s with cond := some uptoSmall }

/-- 'laws.FnExactOutcomeSame', WHERE WHAT IT READS IS OF BULK AT MOST 1048576: true; the input reads as it did. -/
def fnExactOutcomeSameUptoRow : OpenClaim := { program := "ytjaabcfgnmomkaa", sum := "7da01ab543a4c6621597780347d91c81047216344ec23baf3779b043cd995497", func := "loop.example/apimigrator/laws.FnExactOutcomeSame", spec := "fnExactOutcomeSame", apart := false, narrowed := true }
def FnExactOutcomeSameUptoSaid : Prop := fnExactOutcomeSameUptoRow.holds Try.pinned (OpenSpec.upto fnExactOutcomeSameSpec)

/-- 'laws.FnExactOutcomeSeen', WHERE WHAT IT READS IS OF BULK AT MOST 1048576: true; the input reads as it did. -/
def fnExactOutcomeSeenUptoRow : OpenClaim := { program := "ytjaabcfgnmomkaa", sum := "7da01ab543a4c6621597780347d91c81047216344ec23baf3779b043cd995497", func := "loop.example/apimigrator/laws.FnExactOutcomeSeen", spec := "fnExactOutcomeSeen", apart := false, narrowed := true }
def FnExactOutcomeSeenUptoSaid : Prop := fnExactOutcomeSeenUptoRow.holds Try.pinned (OpenSpec.upto fnExactOutcomeSeenSpec)

end Rows
end Go.Proofs.Ytjaabcfgnmomkaa
