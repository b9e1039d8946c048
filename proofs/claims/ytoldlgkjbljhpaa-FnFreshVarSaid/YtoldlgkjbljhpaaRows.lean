/-
  NARROWER THAN 'FOR EVERY INPUT', by the rows' own cells (each row's printed sentence says how): FnExactAllVars: loops.
  DERIVED. THE GIVEN ROWS OF THIS SEAT. 2 by the template 'for every input the law returns true; each argument reads behind the call as it read before'; 0 by the template 'total and deterministic' (their statements: YtoldlgkjbljhpaaTotals.lean).
  GIVEN WITH THE SEED: the statements are not yours to turn. If you find one false, say at which input.
  Laid BY PROGRAM, IN A SANDBOX (cutbox-rows.mjs): the forced cells as the released guide's own fill.sh prints them over the translation 003115959570b246… (all of the seat's roots in one cut). By AI agents, Wed Nov 11 2026. No macro, syntax, notation, axiom, sorry.
-/
import Derived.Test.YtoldlgkjbljhpaaChecked
import GoSem.Claim
import GoSem.ClaimJoined
import GoSem.ClaimMapViews
import Derived.JoinedTies
import Derived.KernelRfl
namespace Go.Proofs.Ytoldlgkjbljhpaa
/- THE CELL 'sum', in the pinned program and in every row, IS THE sha256 OF THE DUMP (.gsa) THAT YtoldlgkjbljhpaaProg.lean LOADS. Nothing in Lean hashes anything: it is a label: what it is worth is what the hold of that sum in a sandbox is worth. -/
noncomputable def Try.pinned : Pinned := { name := "ytoldlgkjbljhpaa", sum := "003115959570b24608147de5a6a19bc6bcb68ebbfe24abd3fc4a186425de019c", checked := Try.checked }
namespace Rows
def none {H : Type} : Left H := { results := [], args := [] }

/-- 'laws.FnFreshVar': WHATEVER THE INPUT: true; the input reads as it did. -/
def fnFreshVarSpec : ChangeSpec := { name := "fnFreshVar", fn := fun _ => fun
  | [d] => { results := [.lit (.bool true)], args := [d] }
  | _ => none }
def fnFreshVarRow : OpenClaim := { program := "ytoldlgkjbljhpaa", sum := "003115959570b24608147de5a6a19bc6bcb68ebbfe24abd3fc4a186425de019c", func := "loop.example/apimigrator/laws.FnFreshVar", spec := "fnFreshVar", apart := false }
def FnFreshVarSaid : Prop := fnFreshVarRow.holds Try.pinned (OpenSpec.ofChange fnFreshVarSpec)

/-- ITS FALSE NEIGHBOUR: 'it returns false'. Refute it at one input. -/
def fnFreshVarWrong : ChangeSpec := { name := "fnFreshVar", fn := fun _ => fun
  | [d] => { results := [.lit (.bool false)], args := [d] }
  | _ => none }
def FnFreshVarWrongFalsely : Prop := fnFreshVarRow.holds Try.pinned (OpenSpec.ofChange fnFreshVarWrong)

/-- 'laws.FnExactAllVars': WHATEVER THE INPUT: true; the input reads as it did. -/
def fnExactAllVarsSpec : ChangeSpec := { name := "fnExactAllVars", fn := fun _ => fun
  | [d] => { results := [.lit (.bool true)], args := [d] }
  | _ => none }
def fnExactAllVarsRow : OpenClaim := { program := "ytoldlgkjbljhpaa", sum := "003115959570b24608147de5a6a19bc6bcb68ebbfe24abd3fc4a186425de019c", func := "loop.example/apimigrator/laws.FnExactAllVars", spec := "fnExactAllVars", unfollowed := true, recurses := true, loops := true, apart := false }
def FnExactAllVarsSaid : Prop := fnExactAllVarsRow.holds Try.pinned (OpenSpec.ofChange fnExactAllVarsSpec)

/-- ITS FALSE NEIGHBOUR: 'it returns false'. Refute it at one input. -/
def fnExactAllVarsWrong : ChangeSpec := { name := "fnExactAllVars", fn := fun _ => fun
  | [d] => { results := [.lit (.bool false)], args := [d] }
  | _ => none }
def FnExactAllVarsWrongFalsely : Prop := fnExactAllVarsRow.holds Try.pinned (OpenSpec.ofChange fnExactAllVarsWrong)

/- THE SECOND FORM. 'bulk': how many values and letters a reading holds, each counted each time it is reached (what is shared counts as often as it is met; a slice's spare places count too). A statement '..UptoSaid' is the law's where the arguments, and the package variables that the reading takes, are together of bulk at most 1048576: NARROWER than '..Said'. Prove '..Said' where nothing that the law and all that it calls make is longer than what came in: it says more and counts as full. Else prove '..UptoSaid'. A law counts once. -/
mutual
def uptoBulk {H : Type} : DataW H → Nat
  | .lit (.string bytes) => bytes.length + 1
  | .lit _ => 1
  | .nil => 1
  | .ptr d => uptoBulk d + 1
  | .slice elems spare => uptoBulkAll elems + uptoBulkAll spare + 1
  | .agg parts => uptoBulkAll parts + 1
  | .iface _ d => uptoBulk d + 1
  | .map entries => uptoBulkEntries entries + 1
  | .held _ => 1
def uptoBulkAll {H : Type} : List (DataW H) → Nat
  | [] => 0
  | d :: r => uptoBulk d + uptoBulkAll r
def uptoBulkEntries {H : Type} : List (Lit × DataW H) → Nat
  | [] => 0
  | x :: r => uptoBulkEntry x + uptoBulkEntries r
def uptoBulkEntry {H : Type} : Lit × DataW H → Nat
  | (.string bytes, d) => bytes.length + uptoBulk d + 1
  | (_, d) => uptoBulk d + 1
 end
def uptoSmall : (H : Type) → List (DataW H) → Bool := fun _ ds => decide (uptoBulkAll ds ≤ 1048576)
def OpenSpec.upto (s : _root_.Go.ChangeSpec) : _root_.Go.OpenSpec := { _root_.Go.OpenSpec.ofChange s with cond := some uptoSmall }

/-- 'laws.FnFreshVar', WHERE WHAT IT READS IS OF BULK AT MOST 1048576: true; the input reads as it did. -/
def fnFreshVarUptoRow : OpenClaim := { program := "ytoldlgkjbljhpaa", sum := "003115959570b24608147de5a6a19bc6bcb68ebbfe24abd3fc4a186425de019c", func := "loop.example/apimigrator/laws.FnFreshVar", spec := "fnFreshVar", apart := false, narrowed := true }
def FnFreshVarUptoSaid : Prop := fnFreshVarUptoRow.holds Try.pinned (OpenSpec.upto fnFreshVarSpec)

/-- 'laws.FnExactAllVars', WHERE WHAT IT READS IS OF BULK AT MOST 1048576: true; the input reads as it did. -/
def fnExactAllVarsUptoRow : OpenClaim := { program := "ytoldlgkjbljhpaa", sum := "003115959570b24608147de5a6a19bc6bcb68ebbfe24abd3fc4a186425de019c", func := "loop.example/apimigrator/laws.FnExactAllVars", spec := "fnExactAllVars", unfollowed := true, recurses := true, loops := true, apart := false, narrowed := true }
def FnExactAllVarsUptoSaid : Prop := fnExactAllVarsUptoRow.holds Try.pinned (OpenSpec.upto fnExactAllVarsSpec)

end Rows
end Go.Proofs.Ytoldlgkjbljhpaa
