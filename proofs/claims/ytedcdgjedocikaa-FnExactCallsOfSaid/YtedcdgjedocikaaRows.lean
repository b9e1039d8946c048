/-
  NARROWER THAN 'FOR EVERY INPUT', by the rows' own cells (each row's printed sentence says how): FnExactSizeOf: loops · FnExactFreeVars: loops · FnExactCallsOf: loops · FnExactCountVar: loops · FnExactLibrarySame: loops · FnExactFindDef: loops.
  DERIVED. THE GIVEN ROWS OF THIS SEAT. 6 by the template 'for every input the law returns true; each argument reads behind the call as it read before'; 0 by the template 'total and deterministic' (their statements: YtedcdgjedocikaaTotals.lean).
  GIVEN WITH THE SEED: the statements are not yours to turn. If you find one false, say at which input.
  Laid BY PROGRAM, IN A SANDBOX (cutbox-rows.mjs): the forced cells as the released guide's own fill.sh prints them over the translation 73c8160e93bf5f63… (all of the seat's roots in one cut). By AI agents, Wed Nov 11 2026. No macro, syntax, notation, axiom, sorry.
-/
import Derived.Test.YtedcdgjedocikaaChecked
import GoSem.Claim
import GoSem.ClaimJoined
import GoSem.ClaimMapViews
import Derived.JoinedTies
import Derived.KernelRfl
namespace Go.Proofs.Ytedcdgjedocikaa
/- THE CELL 'sum', in the pinned program and in every row, IS THE sha256 OF THE DUMP (.gsa) THAT YtedcdgjedocikaaProg.lean LOADS. Nothing in Lean hashes anything: it is a label: what it is worth is what the hold of that sum in a sandbox is worth. -/
noncomputable def Try.pinned : Pinned := { name := "ytedcdgjedocikaa", sum := "73c8160e93bf5f63e59809d12c7304be465ce7df126d8d47f7ded643c122ab04", checked := Try.checked }
namespace Rows
def none {H : Type} : Left H := { results := [], args := [] }

/-- 'laws.FnExactSizeOf': WHATEVER THE INPUT: true; the input reads as it did. -/
def fnExactSizeOfSpec : ChangeSpec := { name := "fnExactSizeOf", fn := fun _ => fun
  | [d] => { results := [.lit (.bool true)], args := [d] }
  | _ => none }
def fnExactSizeOfRow : OpenClaim := { program := "ytedcdgjedocikaa", sum := "73c8160e93bf5f63e59809d12c7304be465ce7df126d8d47f7ded643c122ab04", func := "loop.example/apimigrator/laws.FnExactSizeOf", spec := "fnExactSizeOf", unfollowed := true, recurses := true, loops := true, apart := false }
def FnExactSizeOfSaid : Prop := fnExactSizeOfRow.holds Try.pinned (OpenSpec.ofChange fnExactSizeOfSpec)

/-- ITS FALSE NEIGHBOUR: 'it returns false'. Refute it at one input. -/
def fnExactSizeOfWrong : ChangeSpec := { name := "fnExactSizeOf", fn := fun _ => fun
  | [d] => { results := [.lit (.bool false)], args := [d] }
  | _ => none }
def FnExactSizeOfWrongFalsely : Prop := fnExactSizeOfRow.holds Try.pinned (OpenSpec.ofChange fnExactSizeOfWrong)

/-- 'laws.FnExactFreeVars': WHATEVER THE INPUT: true; the input reads as it did. -/
def fnExactFreeVarsSpec : ChangeSpec := { name := "fnExactFreeVars", fn := fun _ => fun
  | [d] => { results := [.lit (.bool true)], args := [d] }
  | _ => none }
def fnExactFreeVarsRow : OpenClaim := { program := "ytedcdgjedocikaa", sum := "73c8160e93bf5f63e59809d12c7304be465ce7df126d8d47f7ded643c122ab04", func := "loop.example/apimigrator/laws.FnExactFreeVars", spec := "fnExactFreeVars", unfollowed := true, recurses := true, loops := true, apart := false }
def FnExactFreeVarsSaid : Prop := fnExactFreeVarsRow.holds Try.pinned (OpenSpec.ofChange fnExactFreeVarsSpec)

/-- ITS FALSE NEIGHBOUR: 'it returns false'. Refute it at one input. -/
def fnExactFreeVarsWrong : ChangeSpec := { name := "fnExactFreeVars", fn := fun _ => fun
  | [d] => { results := [.lit (.bool false)], args := [d] }
  | _ => none }
def FnExactFreeVarsWrongFalsely : Prop := fnExactFreeVarsRow.holds Try.pinned (OpenSpec.ofChange fnExactFreeVarsWrong)

/-- 'laws.FnExactCallsOf': WHATEVER THE INPUT: true; the input reads as it did. -/
def fnExactCallsOfSpec : ChangeSpec := { name := "fnExactCallsOf", fn := fun _ => fun
  | [d] => { results := [.lit (.bool true)], args := [d] }
  | _ => none }
def fnExactCallsOfRow : OpenClaim := { program := "ytedcdgjedocikaa", sum := "73c8160e93bf5f63e59809d12c7304be465ce7df126d8d47f7ded643c122ab04", func := "loop.example/apimigrator/laws.FnExactCallsOf", spec := "fnExactCallsOf", unfollowed := true, recurses := true, loops := true, apart := false }
def FnExactCallsOfSaid : Prop := fnExactCallsOfRow.holds Try.pinned (OpenSpec.ofChange fnExactCallsOfSpec)

/-- ITS FALSE NEIGHBOUR: 'it returns false'. Refute it at one input. -/
def fnExactCallsOfWrong : ChangeSpec := { name := "fnExactCallsOf", fn := fun _ => fun
  | [d] => { results := [.lit (.bool false)], args := [d] }
  | _ => none }
def FnExactCallsOfWrongFalsely : Prop := fnExactCallsOfRow.holds Try.pinned (OpenSpec.ofChange fnExactCallsOfWrong)

/-- 'laws.FnExactCountVar': WHATEVER THE INPUT: true; the input reads as it did. -/
def fnExactCountVarSpec : ChangeSpec := { name := "fnExactCountVar", fn := fun _ => fun
  | [d1, d2] => { results := [.lit (.bool true)], args := [d1, d2] }
  | _ => none }
def fnExactCountVarRow : OpenClaim := { program := "ytedcdgjedocikaa", sum := "73c8160e93bf5f63e59809d12c7304be465ce7df126d8d47f7ded643c122ab04", func := "loop.example/apimigrator/laws.FnExactCountVar", spec := "fnExactCountVar", unfollowed := true, recurses := true, loops := true, apart := false }
def FnExactCountVarSaid : Prop := fnExactCountVarRow.holds Try.pinned (OpenSpec.ofChange fnExactCountVarSpec)

/-- ITS FALSE NEIGHBOUR: 'it returns false'. Refute it at one input. -/
def fnExactCountVarWrong : ChangeSpec := { name := "fnExactCountVar", fn := fun _ => fun
  | [d1, d2] => { results := [.lit (.bool false)], args := [d1, d2] }
  | _ => none }
def FnExactCountVarWrongFalsely : Prop := fnExactCountVarRow.holds Try.pinned (OpenSpec.ofChange fnExactCountVarWrong)

/-- 'laws.FnExactLibrarySame': WHATEVER THE INPUT: true; the input reads as it did. -/
def fnExactLibrarySameSpec : ChangeSpec := { name := "fnExactLibrarySame", fn := fun _ => fun
  | [d1, d2] => { results := [.lit (.bool true)], args := [d1, d2] }
  | _ => none }
def fnExactLibrarySameRow : OpenClaim := { program := "ytedcdgjedocikaa", sum := "73c8160e93bf5f63e59809d12c7304be465ce7df126d8d47f7ded643c122ab04", func := "loop.example/apimigrator/laws.FnExactLibrarySame", spec := "fnExactLibrarySame", unfollowed := true, recurses := true, loops := true, apart := false }
def FnExactLibrarySameSaid : Prop := fnExactLibrarySameRow.holds Try.pinned (OpenSpec.ofChange fnExactLibrarySameSpec)

/-- ITS FALSE NEIGHBOUR: 'it returns false'. Refute it at one input. -/
def fnExactLibrarySameWrong : ChangeSpec := { name := "fnExactLibrarySame", fn := fun _ => fun
  | [d1, d2] => { results := [.lit (.bool false)], args := [d1, d2] }
  | _ => none }
def FnExactLibrarySameWrongFalsely : Prop := fnExactLibrarySameRow.holds Try.pinned (OpenSpec.ofChange fnExactLibrarySameWrong)

/-- 'laws.FnExactFindDef': WHATEVER THE INPUT: true; the input reads as it did. -/
def fnExactFindDefSpec : ChangeSpec := { name := "fnExactFindDef", fn := fun _ => fun
  | [d1, d2] => { results := [.lit (.bool true)], args := [d1, d2] }
  | _ => none }
def fnExactFindDefRow : OpenClaim := { program := "ytedcdgjedocikaa", sum := "73c8160e93bf5f63e59809d12c7304be465ce7df126d8d47f7ded643c122ab04", func := "loop.example/apimigrator/laws.FnExactFindDef", spec := "fnExactFindDef", recurses := true, loops := true, apart := false }
def FnExactFindDefSaid : Prop := fnExactFindDefRow.holds Try.pinned (OpenSpec.ofChange fnExactFindDefSpec)

/-- ITS FALSE NEIGHBOUR: 'it returns false'. Refute it at one input. -/
def fnExactFindDefWrong : ChangeSpec := { name := "fnExactFindDef", fn := fun _ => fun
  | [d1, d2] => { results := [.lit (.bool false)], args := [d1, d2] }
  | _ => none }
def FnExactFindDefWrongFalsely : Prop := fnExactFindDefRow.holds Try.pinned (OpenSpec.ofChange fnExactFindDefWrong)

/- THE SECOND FORM. 'bulk': how many values and letters a reading holds, each counted each time it is reached (what is shared counts as often as it is met; a slice's spare places count too). A statement '..UptoSaid' is the law's where the arguments, and the package variables that the reading takes, are together of bulk at most 1048576: NARROWER than '..Said'. Prove '..Said' where nothing that the law and all that it calls make is longer than what came in: it says more and counts as full. Else prove '..UptoSaid'. A law counts once. -/
mutual
def uptoBulk {H : Type} : DataW H → Nat
  | .lit (.string bytes) => bytes.length + 1
  | .lit _ => 1
  | .nil => 1
  | .ptr d => uptoBulk d + 1
  | .slice elems spare => uptoBulkAll elems + uptoBulkAll spare + 1
  | .agg parts => uptoBulkAll parts + 1
  | .iface _ d => uptoBulk d + 1
  | .map entries => uptoBulkEntries entries + 1
  | .held _ => 1
def uptoBulkAll {H : Type} : List (DataW H) → Nat
  | [] => 0
  | d :: r => uptoBulk d + uptoBulkAll r
def uptoBulkEntries {H : Type} : List (Lit × DataW H) → Nat
  | [] => 0
  | x :: r => uptoBulkEntry x + uptoBulkEntries r
def uptoBulkEntry {H : Type} : Lit × DataW H → Nat
  | (.string bytes, d) => bytes.length + uptoBulk d + 1
  | (_, d) => uptoBulk d + 1
 end
def uptoSmall : (H : Type) → List (DataW H) → Bool := fun _ ds => decide (uptoBulkAll ds ≤ 1048576)
def OpenSpec.upto (s : _root_.Go.ChangeSpec) : _root_.Go.OpenSpec := { _root_.Go.OpenSpec.ofChange s with cond := some uptoSmall }

/-- 'laws.FnExactSizeOf', WHERE WHAT IT READS IS OF BULK AT MOST 1048576: true; the input reads as it did. -/
def fnExactSizeOfUptoRow : OpenClaim := { program := "ytedcdgjedocikaa", sum := "73c8160e93bf5f63e59809d12c7304be465ce7df126d8d47f7ded643c122ab04", func := "loop.example/apimigrator/laws.FnExactSizeOf", spec := "fnExactSizeOf", unfollowed := true, recurses := true, loops := true, apart := false, narrowed := true }
def FnExactSizeOfUptoSaid : Prop := fnExactSizeOfUptoRow.holds Try.pinned (OpenSpec.upto fnExactSizeOfSpec)

/-- 'laws.FnExactFreeVars', WHERE WHAT IT READS IS OF BULK AT MOST 1048576: true; the input reads as it did. -/
def fnExactFreeVarsUptoRow : OpenClaim := { program := "ytedcdgjedocikaa", sum := "73c8160e93bf5f63e59809d12c7304be465ce7df126d8d47f7ded643c122ab04", func := "loop.example/apimigrator/laws.FnExactFreeVars", spec := "fnExactFreeVars", unfollowed := true, recurses := true, loops := true, apart := false, narrowed := true }
def FnExactFreeVarsUptoSaid : Prop := fnExactFreeVarsUptoRow.holds Try.pinned (OpenSpec.upto fnExactFreeVarsSpec)

/-- 'laws.FnExactCallsOf', WHERE WHAT IT READS IS OF BULK AT MOST 1048576: true; the input reads as it did. -/
def fnExactCallsOfUptoRow : OpenClaim := { program := "ytedcdgjedocikaa", sum := "73c8160e93bf5f63e59809d12c7304be465ce7df126d8d47f7ded643c122ab04", func := "loop.example/apimigrator/laws.FnExactCallsOf", spec := "fnExactCallsOf", unfollowed := true, recurses := true, loops := true, apart := false, narrowed := true }
def FnExactCallsOfUptoSaid : Prop := fnExactCallsOfUptoRow.holds Try.pinned (OpenSpec.upto fnExactCallsOfSpec)

/-- 'laws.FnExactCountVar', WHERE WHAT IT READS IS OF BULK AT MOST 1048576: true; the input reads as it did. -/
def fnExactCountVarUptoRow : OpenClaim := { program := "ytedcdgjedocikaa", sum := "73c8160e93bf5f63e59809d12c7304be465ce7df126d8d47f7ded643c122ab04", func := "loop.example/apimigrator/laws.FnExactCountVar", spec := "fnExactCountVar", unfollowed := true, recurses := true, loops := true, apart := false, narrowed := true }
def FnExactCountVarUptoSaid : Prop := fnExactCountVarUptoRow.holds Try.pinned (OpenSpec.upto fnExactCountVarSpec)

/-- 'laws.FnExactLibrarySame', WHERE WHAT IT READS IS OF BULK AT MOST 1048576: true; the input reads as it did. -/
def fnExactLibrarySameUptoRow : OpenClaim := { program := "ytedcdgjedocikaa", sum := "73c8160e93bf5f63e59809d12c7304be465ce7df126d8d47f7ded643c122ab04", func := "loop.example/apimigrator/laws.FnExactLibrarySame", spec := "fnExactLibrarySame", unfollowed := true, recurses := true, loops := true, apart := false, narrowed := true }
def FnExactLibrarySameUptoSaid : Prop := fnExactLibrarySameUptoRow.holds Try.pinned (OpenSpec.upto fnExactLibrarySameSpec)

/-- 'laws.FnExactFindDef', WHERE WHAT IT READS IS OF BULK AT MOST 1048576: true; the input reads as it did. -/
def fnExactFindDefUptoRow : OpenClaim := { program := "ytedcdgjedocikaa", sum := "73c8160e93bf5f63e59809d12c7304be465ce7df126d8d47f7ded643c122ab04", func := "loop.example/apimigrator/laws.FnExactFindDef", spec := "fnExactFindDef", recurses := true, loops := true, apart := false, narrowed := true }
def FnExactFindDefUptoSaid : Prop := fnExactFindDefUptoRow.holds Try.pinned (OpenSpec.upto fnExactFindDefSpec)

end Rows
end Go.Proofs.Ytedcdgjedocikaa
