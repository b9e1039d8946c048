/-
  No cell of these rows narrows 'for every input' (looked for: loops, veiled, ifaces, maps, wideKeys, modest, calm, conditions, laid).
  DERIVED. THE GIVEN ROWS OF THIS SEAT. 7 by the template 'for every input the law returns true; each argument reads behind the call as it read before'; 0 by the template 'total and deterministic' (their statements: YtahjekhngaileaaTotals.lean).
  GIVEN WITH THE SEED: the statements are not yours to turn. If you find one false, say at which input.
  Laid BY PROGRAM, IN A SANDBOX (cutbox-rows.mjs): the forced cells as the released guide's own fill.sh prints them over the translation 489cd5e8436478d5… (all of the seat's roots in one cut). By AI agents, Wed Nov 11 2026. No macro, syntax, notation, axiom, sorry.
-/
import Derived.Test.YtahjekhngaileaaChecked
import GoSem.Claim
import GoSem.ClaimJoined
import GoSem.ClaimMapViews
import Derived.JoinedTies
import Derived.KernelRfl
namespace Go.Proofs.Ytahjekhngaileaa
/- THE CELL 'sum', in the pinned program and in every row, IS THE sha256 OF THE DUMP (.gsa) THAT YtahjekhngaileaaProg.lean LOADS. Nothing in Lean hashes anything: it is a label: what it is worth is what the hold of that sum in a sandbox is worth. -/
noncomputable def Try.pinned : Pinned := { name := "ytahjekhngaileaa", sum := "489cd5e8436478d55e968456b86925bfc4a9f3b211635032bfbb0c47b1fd7fd6", checked := Try.checked }
namespace Rows
def none {H : Type} : Left H := { results := [], args := [] }

/-- 'laws.FnExprValid': WHATEVER THE INPUT: true; the input reads as it did. -/
def fnExprValidSpec : ChangeSpec := { name := "fnExprValid", fn := fun _ => fun
  | [d] => { results := [.lit (.bool true)], args := [d] }
  | _ => none }
def fnExprValidRow : OpenClaim := { program := "ytahjekhngaileaa", sum := "489cd5e8436478d55e968456b86925bfc4a9f3b211635032bfbb0c47b1fd7fd6", func := "loop.example/apimigrator/laws.FnExprValid", spec := "fnExprValid", unfollowed := true, recurses := true, apart := false }
def FnExprValidSaid : Prop := fnExprValidRow.holds Try.pinned (OpenSpec.ofChange fnExprValidSpec)

/-- ITS FALSE NEIGHBOUR: 'it returns false'. Refute it at one input. -/
def fnExprValidWrong : ChangeSpec := { name := "fnExprValid", fn := fun _ => fun
  | [d] => { results := [.lit (.bool false)], args := [d] }
  | _ => none }
def FnExprValidWrongFalsely : Prop := fnExprValidRow.holds Try.pinned (OpenSpec.ofChange fnExprValidWrong)

/-- 'laws.FnExprSame': WHATEVER THE INPUT: true; the input reads as it did. -/
def fnExprSameSpec : ChangeSpec := { name := "fnExprSame", fn := fun _ => fun
  | [d] => { results := [.lit (.bool true)], args := [d] }
  | _ => none }
def fnExprSameRow : OpenClaim := { program := "ytahjekhngaileaa", sum := "489cd5e8436478d55e968456b86925bfc4a9f3b211635032bfbb0c47b1fd7fd6", func := "loop.example/apimigrator/laws.FnExprSame", spec := "fnExprSame", recurses := true, apart := false }
def FnExprSameSaid : Prop := fnExprSameRow.holds Try.pinned (OpenSpec.ofChange fnExprSameSpec)

/-- ITS FALSE NEIGHBOUR: 'it returns false'. Refute it at one input. -/
def fnExprSameWrong : ChangeSpec := { name := "fnExprSame", fn := fun _ => fun
  | [d] => { results := [.lit (.bool false)], args := [d] }
  | _ => none }
def FnExprSameWrongFalsely : Prop := fnExprSameRow.holds Try.pinned (OpenSpec.ofChange fnExprSameWrong)

/-- 'laws.FnSizeOf': WHATEVER THE INPUT: true; the input reads as it did. -/
def fnSizeOfSpec : ChangeSpec := { name := "fnSizeOf", fn := fun _ => fun
  | [d] => { results := [.lit (.bool true)], args := [d] }
  | _ => none }
def fnSizeOfRow : OpenClaim := { program := "ytahjekhngaileaa", sum := "489cd5e8436478d55e968456b86925bfc4a9f3b211635032bfbb0c47b1fd7fd6", func := "loop.example/apimigrator/laws.FnSizeOf", spec := "fnSizeOf", unfollowed := true, recurses := true, apart := false }
def FnSizeOfSaid : Prop := fnSizeOfRow.holds Try.pinned (OpenSpec.ofChange fnSizeOfSpec)

/-- ITS FALSE NEIGHBOUR: 'it returns false'. Refute it at one input. -/
def fnSizeOfWrong : ChangeSpec := { name := "fnSizeOf", fn := fun _ => fun
  | [d] => { results := [.lit (.bool false)], args := [d] }
  | _ => none }
def FnSizeOfWrongFalsely : Prop := fnSizeOfRow.holds Try.pinned (OpenSpec.ofChange fnSizeOfWrong)

/-- 'laws.FnCallsOf': WHATEVER THE INPUT: true; the input reads as it did. -/
def fnCallsOfSpec : ChangeSpec := { name := "fnCallsOf", fn := fun _ => fun
  | [d] => { results := [.lit (.bool true)], args := [d] }
  | _ => none }
def fnCallsOfRow : OpenClaim := { program := "ytahjekhngaileaa", sum := "489cd5e8436478d55e968456b86925bfc4a9f3b211635032bfbb0c47b1fd7fd6", func := "loop.example/apimigrator/laws.FnCallsOf", spec := "fnCallsOf", unfollowed := true, recurses := true, apart := false }
def FnCallsOfSaid : Prop := fnCallsOfRow.holds Try.pinned (OpenSpec.ofChange fnCallsOfSpec)

/-- ITS FALSE NEIGHBOUR: 'it returns false'. Refute it at one input. -/
def fnCallsOfWrong : ChangeSpec := { name := "fnCallsOf", fn := fun _ => fun
  | [d] => { results := [.lit (.bool false)], args := [d] }
  | _ => none }
def FnCallsOfWrongFalsely : Prop := fnCallsOfRow.holds Try.pinned (OpenSpec.ofChange fnCallsOfWrong)

/-- 'laws.FnCountVar': WHATEVER THE INPUT: true; the input reads as it did. -/
def fnCountVarSpec : ChangeSpec := { name := "fnCountVar", fn := fun _ => fun
  | [d] => { results := [.lit (.bool true)], args := [d] }
  | _ => none }
def fnCountVarRow : OpenClaim := { program := "ytahjekhngaileaa", sum := "489cd5e8436478d55e968456b86925bfc4a9f3b211635032bfbb0c47b1fd7fd6", func := "loop.example/apimigrator/laws.FnCountVar", spec := "fnCountVar", unfollowed := true, recurses := true, apart := false }
def FnCountVarSaid : Prop := fnCountVarRow.holds Try.pinned (OpenSpec.ofChange fnCountVarSpec)

/-- ITS FALSE NEIGHBOUR: 'it returns false'. Refute it at one input. -/
def fnCountVarWrong : ChangeSpec := { name := "fnCountVar", fn := fun _ => fun
  | [d] => { results := [.lit (.bool false)], args := [d] }
  | _ => none }
def FnCountVarWrongFalsely : Prop := fnCountVarRow.holds Try.pinned (OpenSpec.ofChange fnCountVarWrong)

/-- 'laws.FnExprParts': WHATEVER THE INPUT: true; the input reads as it did. -/
def fnExprPartsSpec : ChangeSpec := { name := "fnExprParts", fn := fun _ => fun
  | [d] => { results := [.lit (.bool true)], args := [d] }
  | _ => none }
def fnExprPartsRow : OpenClaim := { program := "ytahjekhngaileaa", sum := "489cd5e8436478d55e968456b86925bfc4a9f3b211635032bfbb0c47b1fd7fd6", func := "loop.example/apimigrator/laws.FnExprParts", spec := "fnExprParts", unfollowed := true, recurses := true, apart := false }
def FnExprPartsSaid : Prop := fnExprPartsRow.holds Try.pinned (OpenSpec.ofChange fnExprPartsSpec)

/-- ITS FALSE NEIGHBOUR: 'it returns false'. Refute it at one input. -/
def fnExprPartsWrong : ChangeSpec := { name := "fnExprParts", fn := fun _ => fun
  | [d] => { results := [.lit (.bool false)], args := [d] }
  | _ => none }
def FnExprPartsWrongFalsely : Prop := fnExprPartsRow.holds Try.pinned (OpenSpec.ofChange fnExprPartsWrong)

/-- 'laws.FnFreeUnion': WHATEVER THE INPUT: true; the input reads as it did. -/
def fnFreeUnionSpec : ChangeSpec := { name := "fnFreeUnion", fn := fun _ => fun
  | [d1, d2] => { results := [.lit (.bool true)], args := [d1, d2] }
  | _ => none }
def fnFreeUnionRow : OpenClaim := { program := "ytahjekhngaileaa", sum := "489cd5e8436478d55e968456b86925bfc4a9f3b211635032bfbb0c47b1fd7fd6", func := "loop.example/apimigrator/laws.FnFreeUnion", spec := "fnFreeUnion", unfollowed := true, recurses := true, apart := false }
def FnFreeUnionSaid : Prop := fnFreeUnionRow.holds Try.pinned (OpenSpec.ofChange fnFreeUnionSpec)

/-- ITS FALSE NEIGHBOUR: 'it returns false'. Refute it at one input. -/
def fnFreeUnionWrong : ChangeSpec := { name := "fnFreeUnion", fn := fun _ => fun
  | [d1, d2] => { results := [.lit (.bool false)], args := [d1, d2] }
  | _ => none }
def FnFreeUnionWrongFalsely : Prop := fnFreeUnionRow.holds Try.pinned (OpenSpec.ofChange fnFreeUnionWrong)

/- THE SECOND FORM. 'bulk': how many values and letters a reading holds, each counted each time it is reached (what is shared counts as often as it is met; a slice's spare places count too). A statement '..UptoSaid' is the law's where the arguments, and the package variables that the reading takes, are together of bulk at most 1048576: NARROWER than '..Said'. Prove '..Said' where nothing that the law and all that it calls make is longer than what came in: it says more and counts as full. Else prove '..UptoSaid'. A law counts once. -/
mutual
def uptoBulk {H : Type} : DataW H → Nat
  | .lit (.string bytes) => bytes.length + 1
  | .lit _ => 1
  | .nil => 1
  | .ptr d => uptoBulk d + 1
  | .slice elems spare => uptoBulkAll elems + uptoBulkAll spare + 1
  | .agg parts => uptoBulkAll parts + 1
  | .iface _ d => uptoBulk d + 1
  | .map entries => uptoBulkEntries entries + 1
  | .held _ => 1
def uptoBulkAll {H : Type} : List (DataW H) → Nat
  | [] => 0
  | d :: r => uptoBulk d + uptoBulkAll r
def uptoBulkEntries {H : Type} : List (Lit × DataW H) → Nat
  | [] => 0
  | x :: r => uptoBulkEntry x + uptoBulkEntries r
def uptoBulkEntry {H : Type} : Lit × DataW H → Nat
  | (.string bytes, d) => bytes.length + uptoBulk d + 1
  | (_, d) => uptoBulk d + 1
 end
def uptoSmall : (H : Type) → List (DataW H) → Bool := fun _ ds => decide (uptoBulkAll ds ≤ 1048576)
def OpenSpec.upto (s : _root_.Go.ChangeSpec) : _root_.Go.OpenSpec := { _root_.Go.OpenSpec.ofChange s with cond := some uptoSmall }

/-- 'laws.FnExprValid', WHERE WHAT IT READS IS OF BULK AT MOST 1048576: true; the input reads as it did. -/
def fnExprValidUptoRow : OpenClaim := { program := "ytahjekhngaileaa", sum := "489cd5e8436478d55e968456b86925bfc4a9f3b211635032bfbb0c47b1fd7fd6", func := "loop.example/apimigrator/laws.FnExprValid", spec := "fnExprValid", unfollowed := true, recurses := true, apart := false, narrowed := true }
def FnExprValidUptoSaid : Prop := fnExprValidUptoRow.holds Try.pinned (OpenSpec.upto fnExprValidSpec)

/-- 'laws.FnExprSame', WHERE WHAT IT READS IS OF BULK AT MOST 1048576: true; the input reads as it did. -/
def fnExprSameUptoRow : OpenClaim := { program := "ytahjekhngaileaa", sum := "489cd5e8436478d55e968456b86925bfc4a9f3b211635032bfbb0c47b1fd7fd6", func := "loop.example/apimigrator/laws.FnExprSame", spec := "fnExprSame", recurses := true, apart := false, narrowed := true }
def FnExprSameUptoSaid : Prop := fnExprSameUptoRow.holds Try.pinned (OpenSpec.upto fnExprSameSpec)

/-- 'laws.FnSizeOf', WHERE WHAT IT READS IS OF BULK AT MOST 1048576: true; the input reads as it did. -/
def fnSizeOfUptoRow : OpenClaim := { program := "ytahjekhngaileaa", sum := "489cd5e8436478d55e968456b86925bfc4a9f3b211635032bfbb0c47b1fd7fd6", func := "loop.example/apimigrator/laws.FnSizeOf", spec := "fnSizeOf", unfollowed := true, recurses := true, apart := false, narrowed := true }
def FnSizeOfUptoSaid : Prop := fnSizeOfUptoRow.holds Try.pinned (OpenSpec.upto fnSizeOfSpec)

/-- 'laws.FnCallsOf', WHERE WHAT IT READS IS OF BULK AT MOST 1048576: true; the input reads as it did. -/
def fnCallsOfUptoRow : OpenClaim := { program := "ytahjekhngaileaa", sum := "489cd5e8436478d55e968456b86925bfc4a9f3b211635032bfbb0c47b1fd7fd6", func := "loop.example/apimigrator/laws.FnCallsOf", spec := "fnCallsOf", unfollowed := true, recurses := true, apart := false, narrowed := true }
def FnCallsOfUptoSaid : Prop := fnCallsOfUptoRow.holds Try.pinned (OpenSpec.upto fnCallsOfSpec)

/-- 'laws.FnCountVar', WHERE WHAT IT READS IS OF BULK AT MOST 1048576: true; the input reads as it did. -/
def fnCountVarUptoRow : OpenClaim := { program := "ytahjekhngaileaa", sum := "489cd5e8436478d55e968456b86925bfc4a9f3b211635032bfbb0c47b1fd7fd6", func := "loop.example/apimigrator/laws.FnCountVar", spec := "fnCountVar", unfollowed := true, recurses := true, apart := false, narrowed := true }
def FnCountVarUptoSaid : Prop := fnCountVarUptoRow.holds Try.pinned (OpenSpec.upto fnCountVarSpec)

/-- 'laws.FnExprParts', WHERE WHAT IT READS IS OF BULK AT MOST 1048576: true; the input reads as it did. -/
def fnExprPartsUptoRow : OpenClaim := { program := "ytahjekhngaileaa", sum := "489cd5e8436478d55e968456b86925bfc4a9f3b211635032bfbb0c47b1fd7fd6", func := "loop.example/apimigrator/laws.FnExprParts", spec := "fnExprParts", unfollowed := true, recurses := true, apart := false, narrowed := true }
def FnExprPartsUptoSaid : Prop := fnExprPartsUptoRow.holds Try.pinned (OpenSpec.upto fnExprPartsSpec)

/-- 'laws.FnFreeUnion', WHERE WHAT IT READS IS OF BULK AT MOST 1048576: true; the input reads as it did. -/
def fnFreeUnionUptoRow : OpenClaim := { program := "ytahjekhngaileaa", sum := "489cd5e8436478d55e968456b86925bfc4a9f3b211635032bfbb0c47b1fd7fd6", func := "loop.example/apimigrator/laws.FnFreeUnion", spec := "fnFreeUnion", unfollowed := true, recurses := true, apart := false, narrowed := true }
def FnFreeUnionUptoSaid : Prop := fnFreeUnionUptoRow.holds Try.pinned (OpenSpec.upto fnFreeUnionSpec)

end Rows
end Go.Proofs.Ytahjekhngaileaa
