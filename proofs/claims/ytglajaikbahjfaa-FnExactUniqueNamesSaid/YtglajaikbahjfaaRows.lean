/-
  NARROWER THAN 'FOR EVERY INPUT', by the rows' own cells (each row's printed sentence says how): FnExactAllVars: loops · FnExactUniqueNames: loops · FnExactBoundVars: loops.
  DERIVED. THE GIVEN ROWS OF THIS SEAT. 4 by the template 'for every input the law returns true; each argument reads behind the call as it read before'; 0 by the template 'total and deterministic' (their statements: YtglajaikbahjfaaTotals.lean).
  GIVEN WITH THE SEED: the statements are not yours to turn. If you find one false, say at which input.
  Laid BY PROGRAM, IN A SANDBOX (cutbox-rows.mjs): the forced cells as the released guide's own fill.sh prints them over the translation 22764879545fa8af… (all of the seat's roots in one cut). By AI agents, Wed Nov 11 2026. No macro, syntax, notation, axiom, sorry.
-/
import Derived.Test.YtglajaikbahjfaaChecked
import GoSem.Claim
import GoSem.ClaimJoined
import GoSem.ClaimMapViews
import Derived.JoinedTies
import Derived.KernelRfl
namespace Go.Proofs.Ytglajaikbahjfaa
/- THE CELL 'sum', in the pinned program and in every row, IS THE sha256 OF THE DUMP (.gsa) THAT YtglajaikbahjfaaProg.lean LOADS. Nothing in Lean hashes anything: it is a label: what it is worth is what the hold of that sum in a sandbox is worth. -/
noncomputable def Try.pinned : Pinned := { name := "ytglajaikbahjfaa", sum := "22764879545fa8af564c68eb7fd8955dd55d5efb70965bd870987e36790c5076", checked := Try.checked }
namespace Rows
def none {H : Type} : Left H := { results := [], args := [] }

/-- 'laws.FnExactAllVars': WHATEVER THE INPUT: true; the input reads as it did. -/
def fnExactAllVarsSpec : ChangeSpec := { name := "fnExactAllVars", fn := fun _ => fun
  | [d] => { results := [.lit (.bool true)], args := [d] }
  | _ => none }
def fnExactAllVarsRow : OpenClaim := { program := "ytglajaikbahjfaa", sum := "22764879545fa8af564c68eb7fd8955dd55d5efb70965bd870987e36790c5076", func := "loop.example/apimigrator/laws.FnExactAllVars", spec := "fnExactAllVars", unfollowed := true, recurses := true, loops := true, apart := false }
def FnExactAllVarsSaid : Prop := fnExactAllVarsRow.holds Try.pinned (OpenSpec.ofChange fnExactAllVarsSpec)

/-- ITS FALSE NEIGHBOUR: 'it returns false'. Refute it at one input. -/
def fnExactAllVarsWrong : ChangeSpec := { name := "fnExactAllVars", fn := fun _ => fun
  | [d] => { results := [.lit (.bool false)], args := [d] }
  | _ => none }
def FnExactAllVarsWrongFalsely : Prop := fnExactAllVarsRow.holds Try.pinned (OpenSpec.ofChange fnExactAllVarsWrong)

/-- 'laws.FnExactFreshVar': WHATEVER THE INPUT: true; the input reads as it did. -/
def fnExactFreshVarSpec : ChangeSpec := { name := "fnExactFreshVar", fn := fun _ => fun
  | [d] => { results := [.lit (.bool true)], args := [d] }
  | _ => none }
def fnExactFreshVarRow : OpenClaim := { program := "ytglajaikbahjfaa", sum := "22764879545fa8af564c68eb7fd8955dd55d5efb70965bd870987e36790c5076", func := "loop.example/apimigrator/laws.FnExactFreshVar", spec := "fnExactFreshVar", apart := false }
def FnExactFreshVarSaid : Prop := fnExactFreshVarRow.holds Try.pinned (OpenSpec.ofChange fnExactFreshVarSpec)

/-- ITS FALSE NEIGHBOUR: 'it returns false'. Refute it at one input. -/
def fnExactFreshVarWrong : ChangeSpec := { name := "fnExactFreshVar", fn := fun _ => fun
  | [d] => { results := [.lit (.bool false)], args := [d] }
  | _ => none }
def FnExactFreshVarWrongFalsely : Prop := fnExactFreshVarRow.holds Try.pinned (OpenSpec.ofChange fnExactFreshVarWrong)

/-- 'laws.FnExactUniqueNames': WHATEVER THE INPUT: true; the input reads as it did. -/
def fnExactUniqueNamesSpec : ChangeSpec := { name := "fnExactUniqueNames", fn := fun _ => fun
  | [d] => { results := [.lit (.bool true)], args := [d] }
  | _ => none }
def fnExactUniqueNamesRow : OpenClaim := { program := "ytglajaikbahjfaa", sum := "22764879545fa8af564c68eb7fd8955dd55d5efb70965bd870987e36790c5076", func := "loop.example/apimigrator/laws.FnExactUniqueNames", spec := "fnExactUniqueNames", unfollowed := true, recurses := true, loops := true, apart := false }
def FnExactUniqueNamesSaid : Prop := fnExactUniqueNamesRow.holds Try.pinned (OpenSpec.ofChange fnExactUniqueNamesSpec)

/-- ITS FALSE NEIGHBOUR: 'it returns false'. Refute it at one input. -/
def fnExactUniqueNamesWrong : ChangeSpec := { name := "fnExactUniqueNames", fn := fun _ => fun
  | [d] => { results := [.lit (.bool false)], args := [d] }
  | _ => none }
def FnExactUniqueNamesWrongFalsely : Prop := fnExactUniqueNamesRow.holds Try.pinned (OpenSpec.ofChange fnExactUniqueNamesWrong)

/-- 'laws.FnExactBoundVars': WHATEVER THE INPUT: true; the input reads as it did. -/
def fnExactBoundVarsSpec : ChangeSpec := { name := "fnExactBoundVars", fn := fun _ => fun
  | [d] => { results := [.lit (.bool true)], args := [d] }
  | _ => none }
def fnExactBoundVarsRow : OpenClaim := { program := "ytglajaikbahjfaa", sum := "22764879545fa8af564c68eb7fd8955dd55d5efb70965bd870987e36790c5076", func := "loop.example/apimigrator/laws.FnExactBoundVars", spec := "fnExactBoundVars", unfollowed := true, recurses := true, loops := true, apart := false }
def FnExactBoundVarsSaid : Prop := fnExactBoundVarsRow.holds Try.pinned (OpenSpec.ofChange fnExactBoundVarsSpec)

/-- ITS FALSE NEIGHBOUR: 'it returns false'. Refute it at one input. -/
def fnExactBoundVarsWrong : ChangeSpec := { name := "fnExactBoundVars", fn := fun _ => fun
  | [d] => { results := [.lit (.bool false)], args := [d] }
  | _ => none }
def FnExactBoundVarsWrongFalsely : Prop := fnExactBoundVarsRow.holds Try.pinned (OpenSpec.ofChange fnExactBoundVarsWrong)

/- THE SECOND FORM. 'bulk': how many values and letters a reading holds, each counted each time it is reached (what is shared counts as often as it is met; a slice's spare places count too). A statement '..UptoSaid' is the law's where the arguments, and the package variables that the reading takes, are together of bulk at most 1048576: NARROWER than '..Said'. Prove '..Said' where nothing that the law and all that it calls make is longer than what came in: it says more and counts as full. Else prove '..UptoSaid'. A law counts once. -/
mutual
def uptoBulk {H : Type} : DataW H → Nat
  | .lit (.string bytes) => bytes.length + 1
  | .lit _ => 1
  | .nil => 1
  | .ptr d => uptoBulk d + 1
  | .slice elems spare => uptoBulkAll elems + uptoBulkAll spare + 1
  | .agg parts => uptoBulkAll parts + 1
  | .iface _ d => uptoBulk d + 1
  | .map entries => uptoBulkEntries entries + 1
  | .held _ => 1
def uptoBulkAll {H : Type} : List (DataW H) → Nat
  | [] => 0
  | d :: r => uptoBulk d + uptoBulkAll r
def uptoBulkEntries {H : Type} : List (Lit × DataW H) → Nat
  | [] => 0
  | x :: r => uptoBulkEntry x + uptoBulkEntries r
def uptoBulkEntry {H : Type} : Lit × DataW H → Nat
  | (.string bytes, d) => bytes.length + uptoBulk d + 1
  | (_, d) => uptoBulk d + 1
 end
def uptoSmall : (H : Type) → List (DataW H) → Bool := fun _ ds => decide (uptoBulkAll ds ≤ 1048576)
def OpenSpec.upto (s : _root_.Go.ChangeSpec) : _root_.Go.OpenSpec := { _root_.Go.OpenSpec.ofChange s with cond := some uptoSmall }

/-- 'laws.FnExactAllVars', WHERE WHAT IT READS IS OF BULK AT MOST 1048576: true; the input reads as it did. -/
def fnExactAllVarsUptoRow : OpenClaim := { program := "ytglajaikbahjfaa", sum := "22764879545fa8af564c68eb7fd8955dd55d5efb70965bd870987e36790c5076", func := "loop.example/apimigrator/laws.FnExactAllVars", spec := "fnExactAllVars", unfollowed := true, recurses := true, loops := true, apart := false, narrowed := true }
def FnExactAllVarsUptoSaid : Prop := fnExactAllVarsUptoRow.holds Try.pinned (OpenSpec.upto fnExactAllVarsSpec)

/-- 'laws.FnExactFreshVar', WHERE WHAT IT READS IS OF BULK AT MOST 1048576: true; the input reads as it did. -/
def fnExactFreshVarUptoRow : OpenClaim := { program := "ytglajaikbahjfaa", sum := "22764879545fa8af564c68eb7fd8955dd55d5efb70965bd870987e36790c5076", func := "loop.example/apimigrator/laws.FnExactFreshVar", spec := "fnExactFreshVar", apart := false, narrowed := true }
def FnExactFreshVarUptoSaid : Prop := fnExactFreshVarUptoRow.holds Try.pinned (OpenSpec.upto fnExactFreshVarSpec)

/-- 'laws.FnExactUniqueNames', WHERE WHAT IT READS IS OF BULK AT MOST 1048576: true; the input reads as it did. -/
def fnExactUniqueNamesUptoRow : OpenClaim := { program := "ytglajaikbahjfaa", sum := "22764879545fa8af564c68eb7fd8955dd55d5efb70965bd870987e36790c5076", func := "loop.example/apimigrator/laws.FnExactUniqueNames", spec := "fnExactUniqueNames", unfollowed := true, recurses := true, loops := true, apart := false, narrowed := true }
def FnExactUniqueNamesUptoSaid : Prop := fnExactUniqueNamesUptoRow.holds Try.pinned (OpenSpec.upto fnExactUniqueNamesSpec)

/-- 'laws.FnExactBoundVars', WHERE WHAT IT READS IS OF BULK AT MOST 1048576: true; the input reads as it did. -/
def fnExactBoundVarsUptoRow : OpenClaim := { program := "ytglajaikbahjfaa", sum := "22764879545fa8af564c68eb7fd8955dd55d5efb70965bd870987e36790c5076", func := "loop.example/apimigrator/laws.FnExactBoundVars", spec := "fnExactBoundVars", unfollowed := true, recurses := true, loops := true, apart := false, narrowed := true }
def FnExactBoundVarsUptoSaid : Prop := fnExactBoundVarsUptoRow.holds Try.pinned (OpenSpec.upto fnExactBoundVarsSpec)

end Rows
end Go.Proofs.Ytglajaikbahjfaa
