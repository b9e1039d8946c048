/-
  NARROWER THAN 'FOR EVERY INPUT', by the rows' own cells (each row's printed sentence says how): FnExactQuietFuns: loops · FnExactEndingFuns: loops · FnExactIsPure: loops · FnExactIsAtom: loops · FnExactCallBound: loops · FnExactFirstVar: loops.
  DERIVED. THE GIVEN ROWS OF THIS SEAT. 6 by the template 'for every input the law returns true; each argument reads behind the call as it read before'; 0 by the template 'total and deterministic' (their statements: YtbpcggbmlaomjaaTotals.lean).
  GIVEN WITH THE SEED: the statements are not yours to turn. If you find one false, say at which input.
  Laid BY PROGRAM, IN A SANDBOX (cutbox-rows.mjs): the forced cells as the released guide's own fill.sh prints them over the translation 778e84352038782c… (all of the seat's roots in one cut). By AI agents, Wed Nov 11 2026. No macro, syntax, notation, axiom, sorry.
-/
import Derived.Test.YtbpcggbmlaomjaaChecked
import GoSem.Claim
import GoSem.ClaimJoined
import GoSem.ClaimMapViews
import Derived.JoinedTies
import Derived.KernelRfl
namespace Go.Proofs.Ytbpcggbmlaomjaa
/- THE CELL 'sum', in the pinned program and in every row, IS THE sha256 OF THE DUMP (.gsa) THAT YtbpcggbmlaomjaaProg.lean LOADS. Nothing in Lean hashes anything: it is a label: what it is worth is what the hold of that sum in a sandbox is worth. -/
noncomputable def Try.pinned : Pinned := { name := "ytbpcggbmlaomjaa", sum := "778e84352038782c98faf7a058a935641c52950ea4f23037659f31bdc47c0ac5", checked := Try.checked }
namespace Rows
def none {H : Type} : Left H := { results := [], args := [] }

/-- 'laws.FnExactQuietFuns': WHATEVER THE INPUT: true; the input reads as it did. -/
def fnExactQuietFunsSpec : ChangeSpec := { name := "fnExactQuietFuns", fn := fun _ => fun
  | [d] => { results := [.lit (.bool true)], args := [d] }
  | _ => none }
def fnExactQuietFunsRow : OpenClaim := { program := "ytbpcggbmlaomjaa", sum := "778e84352038782c98faf7a058a935641c52950ea4f23037659f31bdc47c0ac5", func := "loop.example/apimigrator/laws.FnExactQuietFuns", spec := "fnExactQuietFuns", unfollowed := true, recurses := true, loops := true, apart := false }
def FnExactQuietFunsSaid : Prop := fnExactQuietFunsRow.holds Try.pinned (OpenSpec.ofChange fnExactQuietFunsSpec)

/-- ITS FALSE NEIGHBOUR: 'it returns false'. Refute it at one input. -/
def fnExactQuietFunsWrong : ChangeSpec := { name := "fnExactQuietFuns", fn := fun _ => fun
  | [d] => { results := [.lit (.bool false)], args := [d] }
  | _ => none }
def FnExactQuietFunsWrongFalsely : Prop := fnExactQuietFunsRow.holds Try.pinned (OpenSpec.ofChange fnExactQuietFunsWrong)

/-- 'laws.FnExactEndingFuns': WHATEVER THE INPUT: true; the input reads as it did. -/
def fnExactEndingFunsSpec : ChangeSpec := { name := "fnExactEndingFuns", fn := fun _ => fun
  | [d] => { results := [.lit (.bool true)], args := [d] }
  | _ => none }
def fnExactEndingFunsRow : OpenClaim := { program := "ytbpcggbmlaomjaa", sum := "778e84352038782c98faf7a058a935641c52950ea4f23037659f31bdc47c0ac5", func := "loop.example/apimigrator/laws.FnExactEndingFuns", spec := "fnExactEndingFuns", unfollowed := true, recurses := true, loops := true, apart := false }
def FnExactEndingFunsSaid : Prop := fnExactEndingFunsRow.holds Try.pinned (OpenSpec.ofChange fnExactEndingFunsSpec)

/-- ITS FALSE NEIGHBOUR: 'it returns false'. Refute it at one input. -/
def fnExactEndingFunsWrong : ChangeSpec := { name := "fnExactEndingFuns", fn := fun _ => fun
  | [d] => { results := [.lit (.bool false)], args := [d] }
  | _ => none }
def FnExactEndingFunsWrongFalsely : Prop := fnExactEndingFunsRow.holds Try.pinned (OpenSpec.ofChange fnExactEndingFunsWrong)

/-- 'laws.FnExactIsPure': WHATEVER THE INPUT: true; the input reads as it did. -/
def fnExactIsPureSpec : ChangeSpec := { name := "fnExactIsPure", fn := fun _ => fun
  | [d1, d2] => { results := [.lit (.bool true)], args := [d1, d2] }
  | _ => none }
def fnExactIsPureRow : OpenClaim := { program := "ytbpcggbmlaomjaa", sum := "778e84352038782c98faf7a058a935641c52950ea4f23037659f31bdc47c0ac5", func := "loop.example/apimigrator/laws.FnExactIsPure", spec := "fnExactIsPure", unfollowed := true, recurses := true, loops := true, apart := false }
def FnExactIsPureSaid : Prop := fnExactIsPureRow.holds Try.pinned (OpenSpec.ofChange fnExactIsPureSpec)

/-- ITS FALSE NEIGHBOUR: 'it returns false'. Refute it at one input. -/
def fnExactIsPureWrong : ChangeSpec := { name := "fnExactIsPure", fn := fun _ => fun
  | [d1, d2] => { results := [.lit (.bool false)], args := [d1, d2] }
  | _ => none }
def FnExactIsPureWrongFalsely : Prop := fnExactIsPureRow.holds Try.pinned (OpenSpec.ofChange fnExactIsPureWrong)

/-- 'laws.FnExactIsAtom': WHATEVER THE INPUT: true; the input reads as it did. -/
def fnExactIsAtomSpec : ChangeSpec := { name := "fnExactIsAtom", fn := fun _ => fun
  | [d] => { results := [.lit (.bool true)], args := [d] }
  | _ => none }
def fnExactIsAtomRow : OpenClaim := { program := "ytbpcggbmlaomjaa", sum := "778e84352038782c98faf7a058a935641c52950ea4f23037659f31bdc47c0ac5", func := "loop.example/apimigrator/laws.FnExactIsAtom", spec := "fnExactIsAtom", recurses := true, loops := true, apart := false }
def FnExactIsAtomSaid : Prop := fnExactIsAtomRow.holds Try.pinned (OpenSpec.ofChange fnExactIsAtomSpec)

/-- ITS FALSE NEIGHBOUR: 'it returns false'. Refute it at one input. -/
def fnExactIsAtomWrong : ChangeSpec := { name := "fnExactIsAtom", fn := fun _ => fun
  | [d] => { results := [.lit (.bool false)], args := [d] }
  | _ => none }
def FnExactIsAtomWrongFalsely : Prop := fnExactIsAtomRow.holds Try.pinned (OpenSpec.ofChange fnExactIsAtomWrong)

/-- 'laws.FnExactCallBound': WHATEVER THE INPUT: true; the input reads as it did. -/
def fnExactCallBoundSpec : ChangeSpec := { name := "fnExactCallBound", fn := fun _ => fun
  | [d1, d2, d3] => { results := [.lit (.bool true)], args := [d1, d2, d3] }
  | _ => none }
def fnExactCallBoundRow : OpenClaim := { program := "ytbpcggbmlaomjaa", sum := "778e84352038782c98faf7a058a935641c52950ea4f23037659f31bdc47c0ac5", func := "loop.example/apimigrator/laws.FnExactCallBound", spec := "fnExactCallBound", unfollowed := true, recurses := true, loops := true, apart := false }
def FnExactCallBoundSaid : Prop := fnExactCallBoundRow.holds Try.pinned (OpenSpec.ofChange fnExactCallBoundSpec)

/-- ITS FALSE NEIGHBOUR: 'it returns false'. Refute it at one input. -/
def fnExactCallBoundWrong : ChangeSpec := { name := "fnExactCallBound", fn := fun _ => fun
  | [d1, d2, d3] => { results := [.lit (.bool false)], args := [d1, d2, d3] }
  | _ => none }
def FnExactCallBoundWrongFalsely : Prop := fnExactCallBoundRow.holds Try.pinned (OpenSpec.ofChange fnExactCallBoundWrong)

/-- 'laws.FnExactFirstVar': WHATEVER THE INPUT: true; the input reads as it did. -/
def fnExactFirstVarSpec : ChangeSpec := { name := "fnExactFirstVar", fn := fun _ => fun
  | [d1, d2, d3] => { results := [.lit (.bool true)], args := [d1, d2, d3] }
  | _ => none }
def fnExactFirstVarRow : OpenClaim := { program := "ytbpcggbmlaomjaa", sum := "778e84352038782c98faf7a058a935641c52950ea4f23037659f31bdc47c0ac5", func := "loop.example/apimigrator/laws.FnExactFirstVar", spec := "fnExactFirstVar", unfollowed := true, recurses := true, loops := true, apart := false }
def FnExactFirstVarSaid : Prop := fnExactFirstVarRow.holds Try.pinned (OpenSpec.ofChange fnExactFirstVarSpec)

/-- ITS FALSE NEIGHBOUR: 'it returns false'. Refute it at one input. -/
def fnExactFirstVarWrong : ChangeSpec := { name := "fnExactFirstVar", fn := fun _ => fun
  | [d1, d2, d3] => { results := [.lit (.bool false)], args := [d1, d2, d3] }
  | _ => none }
def FnExactFirstVarWrongFalsely : Prop := fnExactFirstVarRow.holds Try.pinned (OpenSpec.ofChange fnExactFirstVarWrong)

/- THE SECOND FORM. 'bulk': how many values and letters a reading holds, each counted each time it is reached (what is shared counts as often as it is met; a slice's spare places count too). A statement '..UptoSaid' is the law's where the arguments, and the package variables that the reading takes, are together of bulk at most 1048576: NARROWER than '..Said'. Prove '..Said' where nothing that the law and all that it calls make is longer than what came in: it says more and counts as full. Else prove '..UptoSaid'. A law counts once. -/
mutual
def uptoBulk {H : Type} : DataW H → Nat
  | .lit (.string bytes) => bytes.length + 1
  | .lit _ => 1
  | .nil => 1
  | .ptr d => uptoBulk d + 1
  | .slice elems spare => uptoBulkAll elems + uptoBulkAll spare + 1
  | .agg parts => uptoBulkAll parts + 1
  | .iface _ d => uptoBulk d + 1
  | .map entries => uptoBulkEntries entries + 1
  | .held _ => 1
def uptoBulkAll {H : Type} : List (DataW H) → Nat
  | [] => 0
  | d :: r => uptoBulk d + uptoBulkAll r
def uptoBulkEntries {H : Type} : List (Lit × DataW H) → Nat
  | [] => 0
  | x :: r => uptoBulkEntry x + uptoBulkEntries r
def uptoBulkEntry {H : Type} : Lit × DataW H → Nat
  | (.string bytes, d) => bytes.length + uptoBulk d + 1
  | (_, d) => uptoBulk d + 1
 end
def uptoSmall : (H : Type) → List (DataW H) → Bool := fun _ ds => decide (uptoBulkAll ds ≤ 1048576)
def OpenSpec.upto (s : _root_.Go.ChangeSpec) : _root_.Go.OpenSpec := { _root_.Go.OpenSpec.ofChange s with cond := some uptoSmall }

/-- 'laws.FnExactQuietFuns', WHERE WHAT IT READS IS OF BULK AT MOST 1048576: true; the input reads as it did. -/
def fnExactQuietFunsUptoRow : OpenClaim := { program := "ytbpcggbmlaomjaa", sum := "778e84352038782c98faf7a058a935641c52950ea4f23037659f31bdc47c0ac5", func := "loop.example/apimigrator/laws.FnExactQuietFuns", spec := "fnExactQuietFuns", unfollowed := true, recurses := true, loops := true, apart := false, narrowed := true }
def FnExactQuietFunsUptoSaid : Prop := fnExactQuietFunsUptoRow.holds Try.pinned (OpenSpec.upto fnExactQuietFunsSpec)

/-- 'laws.FnExactEndingFuns', WHERE WHAT IT READS IS OF BULK AT MOST 1048576: true; the input reads as it did. -/
def fnExactEndingFunsUptoRow : OpenClaim := { program := "ytbpcggbmlaomjaa", sum := "778e84352038782c98faf7a058a935641c52950ea4f23037659f31bdc47c0ac5", func := "loop.example/apimigrator/laws.FnExactEndingFuns", spec := "fnExactEndingFuns", unfollowed := true, recurses := true, loops := true, apart := false, narrowed := true }
def FnExactEndingFunsUptoSaid : Prop := fnExactEndingFunsUptoRow.holds Try.pinned (OpenSpec.upto fnExactEndingFunsSpec)

/-- 'laws.FnExactIsPure', WHERE WHAT IT READS IS OF BULK AT MOST 1048576: true; the input reads as it did. -/
def fnExactIsPureUptoRow : OpenClaim := { program := "ytbpcggbmlaomjaa", sum := "778e84352038782c98faf7a058a935641c52950ea4f23037659f31bdc47c0ac5", func := "loop.example/apimigrator/laws.FnExactIsPure", spec := "fnExactIsPure", unfollowed := true, recurses := true, loops := true, apart := false, narrowed := true }
def FnExactIsPureUptoSaid : Prop := fnExactIsPureUptoRow.holds Try.pinned (OpenSpec.upto fnExactIsPureSpec)

/-- 'laws.FnExactIsAtom', WHERE WHAT IT READS IS OF BULK AT MOST 1048576: true; the input reads as it did. -/
def fnExactIsAtomUptoRow : OpenClaim := { program := "ytbpcggbmlaomjaa", sum := "778e84352038782c98faf7a058a935641c52950ea4f23037659f31bdc47c0ac5", func := "loop.example/apimigrator/laws.FnExactIsAtom", spec := "fnExactIsAtom", recurses := true, loops := true, apart := false, narrowed := true }
def FnExactIsAtomUptoSaid : Prop := fnExactIsAtomUptoRow.holds Try.pinned (OpenSpec.upto fnExactIsAtomSpec)

/-- 'laws.FnExactCallBound', WHERE WHAT IT READS IS OF BULK AT MOST 1048576: true; the input reads as it did. -/
def fnExactCallBoundUptoRow : OpenClaim := { program := "ytbpcggbmlaomjaa", sum := "778e84352038782c98faf7a058a935641c52950ea4f23037659f31bdc47c0ac5", func := "loop.example/apimigrator/laws.FnExactCallBound", spec := "fnExactCallBound", unfollowed := true, recurses := true, loops := true, apart := false, narrowed := true }
def FnExactCallBoundUptoSaid : Prop := fnExactCallBoundUptoRow.holds Try.pinned (OpenSpec.upto fnExactCallBoundSpec)

/-- 'laws.FnExactFirstVar', WHERE WHAT IT READS IS OF BULK AT MOST 1048576: true; the input reads as it did. -/
def fnExactFirstVarUptoRow : OpenClaim := { program := "ytbpcggbmlaomjaa", sum := "778e84352038782c98faf7a058a935641c52950ea4f23037659f31bdc47c0ac5", func := "loop.example/apimigrator/laws.FnExactFirstVar", spec := "fnExactFirstVar", unfollowed := true, recurses := true, loops := true, apart := false, narrowed := true }
def FnExactFirstVarUptoSaid : Prop := fnExactFirstVarUptoRow.holds Try.pinned (OpenSpec.upto fnExactFirstVarSpec)

end Rows
end Go.Proofs.Ytbpcggbmlaomjaa
