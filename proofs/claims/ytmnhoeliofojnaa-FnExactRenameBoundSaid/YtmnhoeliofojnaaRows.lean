/-
  NARROWER THAN 'FOR EVERY INPUT', by the rows' own cells (each row's printed sentence says how): FnExactRenameBound: loops · FnExactSubstVar: loops · FnExactPutAtoms: loops · FnExactDropLets: loops.
  DERIVED. THE GIVEN ROWS OF THIS SEAT. 4 by the template 'for every input the law returns true; each argument reads behind the call as it read before'; 0 by the template 'total and deterministic' (their statements: YtmnhoeliofojnaaTotals.lean).
  GIVEN WITH THE SEED: the statements are not yours to turn. If you find one false, say at which input.
  Laid BY PROGRAM, IN A SANDBOX (cutbox-rows.mjs): the forced cells as the released guide's own fill.sh prints them over the translation e20a11a95837977b… (all of the seat's roots in one cut). By AI agents, Wed Nov 11 2026. No macro, syntax, notation, axiom, sorry.
-/
import Derived.Test.YtmnhoeliofojnaaChecked
import GoSem.Claim
import GoSem.ClaimJoined
import GoSem.ClaimMapViews
import Derived.JoinedTies
import Derived.KernelRfl
namespace Go.Proofs.Ytmnhoeliofojnaa
/- THE CELL 'sum', in the pinned program and in every row, IS THE sha256 OF THE DUMP (.gsa) THAT YtmnhoeliofojnaaProg.lean LOADS. Nothing in Lean hashes anything: it is a label: what it is worth is what the hold of that sum in a sandbox is worth. -/
noncomputable def Try.pinned : Pinned := { name := "ytmnhoeliofojnaa", sum := "e20a11a95837977bf6657023380e544ec279edff720c79e4b31f13ad5bb68d80", checked := Try.checked }
namespace Rows
def none {H : Type} : Left H := { results := [], args := [] }

/-- 'laws.FnExactRenameBound': WHATEVER THE INPUT: true; the input reads as it did. -/
def fnExactRenameBoundSpec : ChangeSpec := { name := "fnExactRenameBound", fn := fun _ => fun
  | [d1, d2] => { results := [.lit (.bool true)], args := [d1, d2] }
  | _ => none }
def fnExactRenameBoundRow : OpenClaim := { program := "ytmnhoeliofojnaa", sum := "e20a11a95837977bf6657023380e544ec279edff720c79e4b31f13ad5bb68d80", func := "loop.example/apimigrator/laws.FnExactRenameBound", spec := "fnExactRenameBound", unfollowed := true, recurses := true, loops := true, apart := false }
def FnExactRenameBoundSaid : Prop := fnExactRenameBoundRow.holds Try.pinned (OpenSpec.ofChange fnExactRenameBoundSpec)

/-- ITS FALSE NEIGHBOUR: 'it returns false'. Refute it at one input. -/
def fnExactRenameBoundWrong : ChangeSpec := { name := "fnExactRenameBound", fn := fun _ => fun
  | [d1, d2] => { results := [.lit (.bool false)], args := [d1, d2] }
  | _ => none }
def FnExactRenameBoundWrongFalsely : Prop := fnExactRenameBoundRow.holds Try.pinned (OpenSpec.ofChange fnExactRenameBoundWrong)

/-- 'laws.FnExactSubstVar': WHATEVER THE INPUT: true; the input reads as it did. -/
def fnExactSubstVarSpec : ChangeSpec := { name := "fnExactSubstVar", fn := fun _ => fun
  | [d1, d2, d3] => { results := [.lit (.bool true)], args := [d1, d2, d3] }
  | _ => none }
def fnExactSubstVarRow : OpenClaim := { program := "ytmnhoeliofojnaa", sum := "e20a11a95837977bf6657023380e544ec279edff720c79e4b31f13ad5bb68d80", func := "loop.example/apimigrator/laws.FnExactSubstVar", spec := "fnExactSubstVar", unfollowed := true, recurses := true, loops := true, apart := false }
def FnExactSubstVarSaid : Prop := fnExactSubstVarRow.holds Try.pinned (OpenSpec.ofChange fnExactSubstVarSpec)

/-- ITS FALSE NEIGHBOUR: 'it returns false'. Refute it at one input. -/
def fnExactSubstVarWrong : ChangeSpec := { name := "fnExactSubstVar", fn := fun _ => fun
  | [d1, d2, d3] => { results := [.lit (.bool false)], args := [d1, d2, d3] }
  | _ => none }
def FnExactSubstVarWrongFalsely : Prop := fnExactSubstVarRow.holds Try.pinned (OpenSpec.ofChange fnExactSubstVarWrong)

/-- 'laws.FnExactPutAtoms': WHATEVER THE INPUT: true; the input reads as it did. -/
def fnExactPutAtomsSpec : ChangeSpec := { name := "fnExactPutAtoms", fn := fun _ => fun
  | [d] => { results := [.lit (.bool true)], args := [d] }
  | _ => none }
def fnExactPutAtomsRow : OpenClaim := { program := "ytmnhoeliofojnaa", sum := "e20a11a95837977bf6657023380e544ec279edff720c79e4b31f13ad5bb68d80", func := "loop.example/apimigrator/laws.FnExactPutAtoms", spec := "fnExactPutAtoms", unfollowed := true, recurses := true, loops := true, apart := false }
def FnExactPutAtomsSaid : Prop := fnExactPutAtomsRow.holds Try.pinned (OpenSpec.ofChange fnExactPutAtomsSpec)

/-- ITS FALSE NEIGHBOUR: 'it returns false'. Refute it at one input. -/
def fnExactPutAtomsWrong : ChangeSpec := { name := "fnExactPutAtoms", fn := fun _ => fun
  | [d] => { results := [.lit (.bool false)], args := [d] }
  | _ => none }
def FnExactPutAtomsWrongFalsely : Prop := fnExactPutAtomsRow.holds Try.pinned (OpenSpec.ofChange fnExactPutAtomsWrong)

/-- 'laws.FnExactDropLets': WHATEVER THE INPUT: true; the input reads as it did. -/
def fnExactDropLetsSpec : ChangeSpec := { name := "fnExactDropLets", fn := fun _ => fun
  | [d1, d2] => { results := [.lit (.bool true)], args := [d1, d2] }
  | _ => none }
def fnExactDropLetsRow : OpenClaim := { program := "ytmnhoeliofojnaa", sum := "e20a11a95837977bf6657023380e544ec279edff720c79e4b31f13ad5bb68d80", func := "loop.example/apimigrator/laws.FnExactDropLets", spec := "fnExactDropLets", unfollowed := true, recurses := true, loops := true, apart := false }
def FnExactDropLetsSaid : Prop := fnExactDropLetsRow.holds Try.pinned (OpenSpec.ofChange fnExactDropLetsSpec)

/-- ITS FALSE NEIGHBOUR: 'it returns false'. Refute it at one input. -/
def fnExactDropLetsWrong : ChangeSpec := { name := "fnExactDropLets", fn := fun _ => fun
  | [d1, d2] => { results := [.lit (.bool false)], args := [d1, d2] }
  | _ => none }
def FnExactDropLetsWrongFalsely : Prop := fnExactDropLetsRow.holds Try.pinned (OpenSpec.ofChange fnExactDropLetsWrong)

/- THE SECOND FORM. 'bulk': how many values and letters a reading holds, each counted each time it is reached (what is shared counts as often as it is met; a slice's spare places count too). A statement '..UptoSaid' is the law's where the arguments, and the package variables that the reading takes, are together of bulk at most 1048576: NARROWER than '..Said'. Prove '..Said' where nothing that the law and all that it calls make is longer than what came in: it says more and counts as full. Else prove '..UptoSaid'. A law counts once. -/
mutual
def uptoBulk {H : Type} : DataW H → Nat
  | .lit (.string bytes) => bytes.length + 1
  | .lit _ => 1
  | .nil => 1
  | .ptr d => uptoBulk d + 1
  | .slice elems spare => uptoBulkAll elems + uptoBulkAll spare + 1
  | .agg parts => uptoBulkAll parts + 1
  | .iface _ d => uptoBulk d + 1
  | .map entries => uptoBulkEntries entries + 1
  | .held _ => 1
def uptoBulkAll {H : Type} : List (DataW H) → Nat
  | [] => 0
  | d :: r => uptoBulk d + uptoBulkAll r
def uptoBulkEntries {H : Type} : List (Lit × DataW H) → Nat
  | [] => 0
  | x :: r => uptoBulkEntry x + uptoBulkEntries r
def uptoBulkEntry {H : Type} : Lit × DataW H → Nat
  | (.string bytes, d) => bytes.length + uptoBulk d + 1
  | (_, d) => uptoBulk d + 1
 end
def uptoSmall : (H : Type) → List (DataW H) → Bool := fun _ ds => decide (uptoBulkAll ds ≤ 1048576)
def OpenSpec.upto (s : _root_.Go.ChangeSpec) : _root_.Go.OpenSpec := { _root_.Go.OpenSpec.ofChange s with cond := some uptoSmall }

/-- 'laws.FnExactRenameBound', WHERE WHAT IT READS IS OF BULK AT MOST 1048576: true; the input reads as it did. -/
def fnExactRenameBoundUptoRow : OpenClaim := { program := "ytmnhoeliofojnaa", sum := "e20a11a95837977bf6657023380e544ec279edff720c79e4b31f13ad5bb68d80", func := "loop.example/apimigrator/laws.FnExactRenameBound", spec := "fnExactRenameBound", unfollowed := true, recurses := true, loops := true, apart := false, narrowed := true }
def FnExactRenameBoundUptoSaid : Prop := fnExactRenameBoundUptoRow.holds Try.pinned (OpenSpec.upto fnExactRenameBoundSpec)

/-- 'laws.FnExactSubstVar', WHERE WHAT IT READS IS OF BULK AT MOST 1048576: true; the input reads as it did. -/
def fnExactSubstVarUptoRow : OpenClaim := { program := "ytmnhoeliofojnaa", sum := "e20a11a95837977bf6657023380e544ec279edff720c79e4b31f13ad5bb68d80", func := "loop.example/apimigrator/laws.FnExactSubstVar", spec := "fnExactSubstVar", unfollowed := true, recurses := true, loops := true, apart := false, narrowed := true }
def FnExactSubstVarUptoSaid : Prop := fnExactSubstVarUptoRow.holds Try.pinned (OpenSpec.upto fnExactSubstVarSpec)

/-- 'laws.FnExactPutAtoms', WHERE WHAT IT READS IS OF BULK AT MOST 1048576: true; the input reads as it did. -/
def fnExactPutAtomsUptoRow : OpenClaim := { program := "ytmnhoeliofojnaa", sum := "e20a11a95837977bf6657023380e544ec279edff720c79e4b31f13ad5bb68d80", func := "loop.example/apimigrator/laws.FnExactPutAtoms", spec := "fnExactPutAtoms", unfollowed := true, recurses := true, loops := true, apart := false, narrowed := true }
def FnExactPutAtomsUptoSaid : Prop := fnExactPutAtomsUptoRow.holds Try.pinned (OpenSpec.upto fnExactPutAtomsSpec)

/-- 'laws.FnExactDropLets', WHERE WHAT IT READS IS OF BULK AT MOST 1048576: true; the input reads as it did. -/
def fnExactDropLetsUptoRow : OpenClaim := { program := "ytmnhoeliofojnaa", sum := "e20a11a95837977bf6657023380e544ec279edff720c79e4b31f13ad5bb68d80", func := "loop.example/apimigrator/laws.FnExactDropLets", spec := "fnExactDropLets", unfollowed := true, recurses := true, loops := true, apart := false, narrowed := true }
def FnExactDropLetsUptoSaid : Prop := fnExactDropLetsUptoRow.holds Try.pinned (OpenSpec.upto fnExactDropLetsSpec)

end Rows
end Go.Proofs.Ytmnhoeliofojnaa
