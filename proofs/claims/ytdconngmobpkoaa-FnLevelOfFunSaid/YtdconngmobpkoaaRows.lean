/-
  NARROWER THAN 'FOR EVERY INPUT', by the rows' own cells (each row's printed sentence says how): FnExactCallersOf: loops · FnExactOrderOfFuns: loops · FnExactLevelOfFun: loops.
  DERIVED. THE GIVEN ROWS OF THIS SEAT. 6 by the template 'for every input the law returns true; each argument reads behind the call as it read before'; 0 by the template 'total and deterministic' (their statements: YtdconngmobpkoaaTotals.lean).
  GIVEN WITH THE SEED: the statements are not yours to turn. If you find one false, say at which input.
  Laid BY PROGRAM, IN A SANDBOX (cutbox-rows.mjs): the forced cells as the released guide's own fill.sh prints them over the translation 42a6864e32d89a00… (all of the seat's roots in one cut). By AI agents, Wed Nov 11 2026. No macro, syntax, notation, axiom, sorry.
-/
import Derived.Test.YtdconngmobpkoaaChecked
import GoSem.Claim
import GoSem.ClaimJoined
import GoSem.ClaimMapViews
import Derived.JoinedTies
import Derived.KernelRfl
namespace Go.Proofs.Ytdconngmobpkoaa
/- THE CELL 'sum', in the pinned program and in every row, IS THE sha256 OF THE DUMP (.gsa) THAT YtdconngmobpkoaaProg.lean LOADS. Nothing in Lean hashes anything: it is a label: what it is worth is what the hold of that sum in a sandbox is worth. -/
noncomputable def Try.pinned : Pinned := { name := "ytdconngmobpkoaa", sum := "42a6864e32d89a004393509d0b4f5b5d4f1d23f065e5acecc2657bc96fb223c9", checked := Try.checked }
namespace Rows
def none {H : Type} : Left H := { results := [], args := [] }

/-- 'laws.FnExactCallersOf': WHATEVER THE INPUT: true; the input reads as it did. -/
def fnExactCallersOfSpec : ChangeSpec := { name := "fnExactCallersOf", fn := fun _ => fun
  | [d1, d2] => { results := [.lit (.bool true)], args := [d1, d2] }
  | _ => none }
def fnExactCallersOfRow : OpenClaim := { program := "ytdconngmobpkoaa", sum := "42a6864e32d89a004393509d0b4f5b5d4f1d23f065e5acecc2657bc96fb223c9", func := "loop.example/apimigrator/laws.FnExactCallersOf", spec := "fnExactCallersOf", unfollowed := true, recurses := true, loops := true, apart := false }
def FnExactCallersOfSaid : Prop := fnExactCallersOfRow.holds Try.pinned (OpenSpec.ofChange fnExactCallersOfSpec)

/-- ITS FALSE NEIGHBOUR: 'it returns false'. Refute it at one input. -/
def fnExactCallersOfWrong : ChangeSpec := { name := "fnExactCallersOf", fn := fun _ => fun
  | [d1, d2] => { results := [.lit (.bool false)], args := [d1, d2] }
  | _ => none }
def FnExactCallersOfWrongFalsely : Prop := fnExactCallersOfRow.holds Try.pinned (OpenSpec.ofChange fnExactCallersOfWrong)

/-- 'laws.FnExactOrderOfFuns': WHATEVER THE INPUT: true; the input reads as it did. -/
def fnExactOrderOfFunsSpec : ChangeSpec := { name := "fnExactOrderOfFuns", fn := fun _ => fun
  | [d] => { results := [.lit (.bool true)], args := [d] }
  | _ => none }
def fnExactOrderOfFunsRow : OpenClaim := { program := "ytdconngmobpkoaa", sum := "42a6864e32d89a004393509d0b4f5b5d4f1d23f065e5acecc2657bc96fb223c9", func := "loop.example/apimigrator/laws.FnExactOrderOfFuns", spec := "fnExactOrderOfFuns", unfollowed := true, recurses := true, loops := true, apart := false }
def FnExactOrderOfFunsSaid : Prop := fnExactOrderOfFunsRow.holds Try.pinned (OpenSpec.ofChange fnExactOrderOfFunsSpec)

/-- ITS FALSE NEIGHBOUR: 'it returns false'. Refute it at one input. -/
def fnExactOrderOfFunsWrong : ChangeSpec := { name := "fnExactOrderOfFuns", fn := fun _ => fun
  | [d] => { results := [.lit (.bool false)], args := [d] }
  | _ => none }
def FnExactOrderOfFunsWrongFalsely : Prop := fnExactOrderOfFunsRow.holds Try.pinned (OpenSpec.ofChange fnExactOrderOfFunsWrong)

/-- 'laws.FnExactLevelOfFun': WHATEVER THE INPUT: true; the input reads as it did. -/
def fnExactLevelOfFunSpec : ChangeSpec := { name := "fnExactLevelOfFun", fn := fun _ => fun
  | [d1, d2] => { results := [.lit (.bool true)], args := [d1, d2] }
  | _ => none }
def fnExactLevelOfFunRow : OpenClaim := { program := "ytdconngmobpkoaa", sum := "42a6864e32d89a004393509d0b4f5b5d4f1d23f065e5acecc2657bc96fb223c9", func := "loop.example/apimigrator/laws.FnExactLevelOfFun", spec := "fnExactLevelOfFun", unfollowed := true, recurses := true, loops := true, apart := false }
def FnExactLevelOfFunSaid : Prop := fnExactLevelOfFunRow.holds Try.pinned (OpenSpec.ofChange fnExactLevelOfFunSpec)

/-- ITS FALSE NEIGHBOUR: 'it returns false'. Refute it at one input. -/
def fnExactLevelOfFunWrong : ChangeSpec := { name := "fnExactLevelOfFun", fn := fun _ => fun
  | [d1, d2] => { results := [.lit (.bool false)], args := [d1, d2] }
  | _ => none }
def FnExactLevelOfFunWrongFalsely : Prop := fnExactLevelOfFunRow.holds Try.pinned (OpenSpec.ofChange fnExactLevelOfFunWrong)

/-- 'laws.FnCallersOf': WHATEVER THE INPUT: true; the input reads as it did. -/
def fnCallersOfSpec : ChangeSpec := { name := "fnCallersOf", fn := fun _ => fun
  | [d] => { results := [.lit (.bool true)], args := [d] }
  | _ => none }
def fnCallersOfRow : OpenClaim := { program := "ytdconngmobpkoaa", sum := "42a6864e32d89a004393509d0b4f5b5d4f1d23f065e5acecc2657bc96fb223c9", func := "loop.example/apimigrator/laws.FnCallersOf", spec := "fnCallersOf", unfollowed := true, recurses := true, apart := false }
def FnCallersOfSaid : Prop := fnCallersOfRow.holds Try.pinned (OpenSpec.ofChange fnCallersOfSpec)

/-- ITS FALSE NEIGHBOUR: 'it returns false'. Refute it at one input. -/
def fnCallersOfWrong : ChangeSpec := { name := "fnCallersOf", fn := fun _ => fun
  | [d] => { results := [.lit (.bool false)], args := [d] }
  | _ => none }
def FnCallersOfWrongFalsely : Prop := fnCallersOfRow.holds Try.pinned (OpenSpec.ofChange fnCallersOfWrong)

/-- 'laws.FnEndingOrder': WHATEVER THE INPUT: true; the input reads as it did. -/
def fnEndingOrderSpec : ChangeSpec := { name := "fnEndingOrder", fn := fun _ => fun
  | [d] => { results := [.lit (.bool true)], args := [d] }
  | _ => none }
def fnEndingOrderRow : OpenClaim := { program := "ytdconngmobpkoaa", sum := "42a6864e32d89a004393509d0b4f5b5d4f1d23f065e5acecc2657bc96fb223c9", func := "loop.example/apimigrator/laws.FnEndingOrder", spec := "fnEndingOrder", unfollowed := true, recurses := true, apart := false }
def FnEndingOrderSaid : Prop := fnEndingOrderRow.holds Try.pinned (OpenSpec.ofChange fnEndingOrderSpec)

/-- ITS FALSE NEIGHBOUR: 'it returns false'. Refute it at one input. -/
def fnEndingOrderWrong : ChangeSpec := { name := "fnEndingOrder", fn := fun _ => fun
  | [d] => { results := [.lit (.bool false)], args := [d] }
  | _ => none }
def FnEndingOrderWrongFalsely : Prop := fnEndingOrderRow.holds Try.pinned (OpenSpec.ofChange fnEndingOrderWrong)

/-- 'laws.FnLevelOfFun': WHATEVER THE INPUT: true; the input reads as it did. -/
def fnLevelOfFunSpec : ChangeSpec := { name := "fnLevelOfFun", fn := fun _ => fun
  | [d] => { results := [.lit (.bool true)], args := [d] }
  | _ => none }
def fnLevelOfFunRow : OpenClaim := { program := "ytdconngmobpkoaa", sum := "42a6864e32d89a004393509d0b4f5b5d4f1d23f065e5acecc2657bc96fb223c9", func := "loop.example/apimigrator/laws.FnLevelOfFun", spec := "fnLevelOfFun", unfollowed := true, recurses := true, apart := false }
def FnLevelOfFunSaid : Prop := fnLevelOfFunRow.holds Try.pinned (OpenSpec.ofChange fnLevelOfFunSpec)

/-- ITS FALSE NEIGHBOUR: 'it returns false'. Refute it at one input. -/
def fnLevelOfFunWrong : ChangeSpec := { name := "fnLevelOfFun", fn := fun _ => fun
  | [d] => { results := [.lit (.bool false)], args := [d] }
  | _ => none }
def FnLevelOfFunWrongFalsely : Prop := fnLevelOfFunRow.holds Try.pinned (OpenSpec.ofChange fnLevelOfFunWrong)

/- THE SECOND FORM. 'bulk': how many values and letters a reading holds, each counted each time it is reached (what is shared counts as often as it is met; a slice's spare places count too). A statement '..UptoSaid' is the law's where the arguments, and the package variables that the reading takes, are together of bulk at most 1048576: NARROWER than '..Said'. Prove '..Said' where nothing that the law and all that it calls make is longer than what came in: it says more and counts as full. Else prove '..UptoSaid'. A law counts once. -/
mutual
def uptoBulk {H : Type} : DataW H → Nat
  | .lit (.string bytes) => bytes.length + 1
  | .lit _ => 1
  | .nil => 1
  | .ptr d => uptoBulk d + 1
  | .slice elems spare => uptoBulkAll elems + uptoBulkAll spare + 1
  | .agg parts => uptoBulkAll parts + 1
  | .iface _ d => uptoBulk d + 1
  | .map entries => uptoBulkEntries entries + 1
  | .held _ => 1
def uptoBulkAll {H : Type} : List (DataW H) → Nat
  | [] => 0
  | d :: r => uptoBulk d + uptoBulkAll r
def uptoBulkEntries {H : Type} : List (Lit × DataW H) → Nat
  | [] => 0
  | x :: r => uptoBulkEntry x + uptoBulkEntries r
def uptoBulkEntry {H : Type} : Lit × DataW H → Nat
  | (.string bytes, d) => bytes.length + uptoBulk d + 1
  | (_, d) => uptoBulk d + 1
 end
def uptoSmall : (H : Type) → List (DataW H) → Bool := fun _ ds => decide (uptoBulkAll ds ≤ 1048576)
def OpenSpec.upto (s : _root_.Go.ChangeSpec) : _root_.Go.OpenSpec := { _root_.Go.OpenSpec.ofChange s with cond := some uptoSmall }

/-- 'laws.FnExactCallersOf', WHERE WHAT IT READS IS OF BULK AT MOST 1048576: true; the input reads as it did. -/
def fnExactCallersOfUptoRow : OpenClaim := { program := "ytdconngmobpkoaa", sum := "42a6864e32d89a004393509d0b4f5b5d4f1d23f065e5acecc2657bc96fb223c9", func := "loop.example/apimigrator/laws.FnExactCallersOf", spec := "fnExactCallersOf", unfollowed := true, recurses := true, loops := true, apart := false, narrowed := true }
def FnExactCallersOfUptoSaid : Prop := fnExactCallersOfUptoRow.holds Try.pinned (OpenSpec.upto fnExactCallersOfSpec)

/-- 'laws.FnExactOrderOfFuns', WHERE WHAT IT READS IS OF BULK AT MOST 1048576: true; the input reads as it did. -/
def fnExactOrderOfFunsUptoRow : OpenClaim := { program := "ytdconngmobpkoaa", sum := "42a6864e32d89a004393509d0b4f5b5d4f1d23f065e5acecc2657bc96fb223c9", func := "loop.example/apimigrator/laws.FnExactOrderOfFuns", spec := "fnExactOrderOfFuns", unfollowed := true, recurses := true, loops := true, apart := false, narrowed := true }
def FnExactOrderOfFunsUptoSaid : Prop := fnExactOrderOfFunsUptoRow.holds Try.pinned (OpenSpec.upto fnExactOrderOfFunsSpec)

/-- 'laws.FnExactLevelOfFun', WHERE WHAT IT READS IS OF BULK AT MOST 1048576: true; the input reads as it did. -/
def fnExactLevelOfFunUptoRow : OpenClaim := { program := "ytdconngmobpkoaa", sum := "42a6864e32d89a004393509d0b4f5b5d4f1d23f065e5acecc2657bc96fb223c9", func := "loop.example/apimigrator/laws.FnExactLevelOfFun", spec := "fnExactLevelOfFun", unfollowed := true, recurses := true, loops := true, apart := false, narrowed := true }
def FnExactLevelOfFunUptoSaid : Prop := fnExactLevelOfFunUptoRow.holds Try.pinned (OpenSpec.upto fnExactLevelOfFunSpec)

/-- 'laws.FnCallersOf', WHERE WHAT IT READS IS OF BULK AT MOST 1048576: true; the input reads as it did. -/
def fnCallersOfUptoRow : OpenClaim := { program := "ytdconngmobpkoaa", sum := "42a6864e32d89a004393509d0b4f5b5d4f1d23f065e5acecc2657bc96fb223c9", func := "loop.example/apimigrator/laws.FnCallersOf", spec := "fnCallersOf", unfollowed := true, recurses := true, apart := false, narrowed := true }
def FnCallersOfUptoSaid : Prop := fnCallersOfUptoRow.holds Try.pinned (OpenSpec.upto fnCallersOfSpec)

/-- 'laws.FnEndingOrder', WHERE WHAT IT READS IS OF BULK AT MOST 1048576: true; the input reads as it did. -/
def fnEndingOrderUptoRow : OpenClaim := { program := "ytdconngmobpkoaa", sum := "42a6864e32d89a004393509d0b4f5b5d4f1d23f065e5acecc2657bc96fb223c9", func := "loop.example/apimigrator/laws.FnEndingOrder", spec := "fnEndingOrder", unfollowed := true, recurses := true, apart := false, narrowed := true }
def FnEndingOrderUptoSaid : Prop := fnEndingOrderUptoRow.holds Try.pinned (OpenSpec.upto fnEndingOrderSpec)

/-- 'laws.FnLevelOfFun', WHERE WHAT IT READS IS OF BULK AT MOST 1048576: true; the input reads as it did. -/
def fnLevelOfFunUptoRow : OpenClaim := { program := "ytdconngmobpkoaa", sum := "42a6864e32d89a004393509d0b4f5b5d4f1d23f065e5acecc2657bc96fb223c9", func := "loop.example/apimigrator/laws.FnLevelOfFun", spec := "fnLevelOfFun", unfollowed := true, recurses := true, apart := false, narrowed := true }
def FnLevelOfFunUptoSaid : Prop := fnLevelOfFunUptoRow.holds Try.pinned (OpenSpec.upto fnLevelOfFunSpec)

end Rows
end Go.Proofs.Ytdconngmobpkoaa
