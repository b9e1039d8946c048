/-
  NARROWER THAN 'FOR EVERY INPUT', by the rows' own cells (each row's printed sentence says how): FnExactInlineCall: loops · FnExactInlineFun: loops · FnExactIsWrapper: loops · FnExactWrapperTarget: loops.
  DERIVED. THE GIVEN ROWS OF THIS SEAT. 4 by the template 'for every input the law returns true; each argument reads behind the call as it read before'; 0 by the template 'total and deterministic' (their statements: YthdcnadkdbcmmaaTotals.lean).
  GIVEN WITH THE SEED: the statements are not yours to turn. If you find one false, say at which input.
  Laid BY PROGRAM, IN A SANDBOX (cutbox-rows.mjs): the forced cells as the released guide's own fill.sh prints them over the translation 4c097f49d3d334fa… (all of the seat's roots in one cut). By AI agents, Wed Nov 11 2026. No macro, syntax, notation, axiom, sorry.
-/
import Derived.Test.YthdcnadkdbcmmaaChecked
import GoSem.Claim
import GoSem.ClaimJoined
import GoSem.ClaimMapViews
import Derived.JoinedTies
import Derived.KernelRfl
namespace Go.Proofs.Ythdcnadkdbcmmaa
/- THE CELL 'sum', in the pinned program and in every row, IS THE sha256 OF THE DUMP (.gsa) THAT YthdcnadkdbcmmaaProg.lean LOADS. Nothing in Lean hashes anything: it is a label: what it is worth is what the hold of that sum in a sandbox is worth. -/
noncomputable def Try.pinned : Pinned := { name := "ythdcnadkdbcmmaa", sum := "4c097f49d3d334fadf9da688e2699ef64843d86a6eaf8cdf96aef6505a2a7643", checked := Try.checked }
namespace Rows
def none {H : Type} : Left H := { results := [], args := [] }

/-- 'laws.FnExactInlineCall': WHATEVER THE INPUT: true; the input reads as it did. -/
def fnExactInlineCallSpec : ChangeSpec := { name := "fnExactInlineCall", fn := fun _ => fun
  | [d1, d2] => { results := [.lit (.bool true)], args := [d1, d2] }
  | _ => none }
def fnExactInlineCallRow : OpenClaim := { program := "ythdcnadkdbcmmaa", sum := "4c097f49d3d334fadf9da688e2699ef64843d86a6eaf8cdf96aef6505a2a7643", func := "loop.example/apimigrator/laws.FnExactInlineCall", spec := "fnExactInlineCall", unfollowed := true, recurses := true, loops := true, apart := false }
def FnExactInlineCallSaid : Prop := fnExactInlineCallRow.holds Try.pinned (OpenSpec.ofChange fnExactInlineCallSpec)

/-- ITS FALSE NEIGHBOUR: 'it returns false'. Refute it at one input. -/
def fnExactInlineCallWrong : ChangeSpec := { name := "fnExactInlineCall", fn := fun _ => fun
  | [d1, d2] => { results := [.lit (.bool false)], args := [d1, d2] }
  | _ => none }
def FnExactInlineCallWrongFalsely : Prop := fnExactInlineCallRow.holds Try.pinned (OpenSpec.ofChange fnExactInlineCallWrong)

/-- 'laws.FnExactInlineFun': WHATEVER THE INPUT: true; the input reads as it did. -/
def fnExactInlineFunSpec : ChangeSpec := { name := "fnExactInlineFun", fn := fun _ => fun
  | [d1, d2, d3] => { results := [.lit (.bool true)], args := [d1, d2, d3] }
  | _ => none }
def fnExactInlineFunRow : OpenClaim := { program := "ythdcnadkdbcmmaa", sum := "4c097f49d3d334fadf9da688e2699ef64843d86a6eaf8cdf96aef6505a2a7643", func := "loop.example/apimigrator/laws.FnExactInlineFun", spec := "fnExactInlineFun", unfollowed := true, recurses := true, loops := true, apart := false }
def FnExactInlineFunSaid : Prop := fnExactInlineFunRow.holds Try.pinned (OpenSpec.ofChange fnExactInlineFunSpec)

/-- ITS FALSE NEIGHBOUR: 'it returns false'. Refute it at one input. -/
def fnExactInlineFunWrong : ChangeSpec := { name := "fnExactInlineFun", fn := fun _ => fun
  | [d1, d2, d3] => { results := [.lit (.bool false)], args := [d1, d2, d3] }
  | _ => none }
def FnExactInlineFunWrongFalsely : Prop := fnExactInlineFunRow.holds Try.pinned (OpenSpec.ofChange fnExactInlineFunWrong)

/-- 'laws.FnExactIsWrapper': WHATEVER THE INPUT: true; the input reads as it did. -/
def fnExactIsWrapperSpec : ChangeSpec := { name := "fnExactIsWrapper", fn := fun _ => fun
  | [d1, d2] => { results := [.lit (.bool true)], args := [d1, d2] }
  | _ => none }
def fnExactIsWrapperRow : OpenClaim := { program := "ythdcnadkdbcmmaa", sum := "4c097f49d3d334fadf9da688e2699ef64843d86a6eaf8cdf96aef6505a2a7643", func := "loop.example/apimigrator/laws.FnExactIsWrapper", spec := "fnExactIsWrapper", unfollowed := true, recurses := true, loops := true, apart := false }
def FnExactIsWrapperSaid : Prop := fnExactIsWrapperRow.holds Try.pinned (OpenSpec.ofChange fnExactIsWrapperSpec)

/-- ITS FALSE NEIGHBOUR: 'it returns false'. Refute it at one input. -/
def fnExactIsWrapperWrong : ChangeSpec := { name := "fnExactIsWrapper", fn := fun _ => fun
  | [d1, d2] => { results := [.lit (.bool false)], args := [d1, d2] }
  | _ => none }
def FnExactIsWrapperWrongFalsely : Prop := fnExactIsWrapperRow.holds Try.pinned (OpenSpec.ofChange fnExactIsWrapperWrong)

/-- 'laws.FnExactWrapperTarget': WHATEVER THE INPUT: true; the input reads as it did. -/
def fnExactWrapperTargetSpec : ChangeSpec := { name := "fnExactWrapperTarget", fn := fun _ => fun
  | [d1, d2] => { results := [.lit (.bool true)], args := [d1, d2] }
  | _ => none }
def fnExactWrapperTargetRow : OpenClaim := { program := "ythdcnadkdbcmmaa", sum := "4c097f49d3d334fadf9da688e2699ef64843d86a6eaf8cdf96aef6505a2a7643", func := "loop.example/apimigrator/laws.FnExactWrapperTarget", spec := "fnExactWrapperTarget", unfollowed := true, recurses := true, loops := true, apart := false }
def FnExactWrapperTargetSaid : Prop := fnExactWrapperTargetRow.holds Try.pinned (OpenSpec.ofChange fnExactWrapperTargetSpec)

/-- ITS FALSE NEIGHBOUR: 'it returns false'. Refute it at one input. -/
def fnExactWrapperTargetWrong : ChangeSpec := { name := "fnExactWrapperTarget", fn := fun _ => fun
  | [d1, d2] => { results := [.lit (.bool false)], args := [d1, d2] }
  | _ => none }
def FnExactWrapperTargetWrongFalsely : Prop := fnExactWrapperTargetRow.holds Try.pinned (OpenSpec.ofChange fnExactWrapperTargetWrong)

/- THE SECOND FORM. 'bulk': how many values and letters a reading holds, each counted each time it is reached (what is shared counts as often as it is met; a slice's spare places count too). A statement '..UptoSaid' is the law's where the arguments, and the package variables that the reading takes, are together of bulk at most 1048576: NARROWER than '..Said'. Prove '..Said' where nothing that the law and all that it calls make is longer than what came in: it says more and counts as full. Else prove '..UptoSaid'. A law counts once. -/
mutual
def uptoBulk {H : Type} : DataW H → Nat
  | .lit (.string bytes) => bytes.length + 1
  | .lit _ => 1
  | .nil => 1
  | .ptr d => uptoBulk d + 1
  | .slice elems spare => uptoBulkAll elems + uptoBulkAll spare + 1
  | .agg parts => uptoBulkAll parts + 1
  | .iface _ d => uptoBulk d + 1
  | .map entries => uptoBulkEntries entries + 1
  | .held _ => 1
def uptoBulkAll {H : Type} : List (DataW H) → Nat
  | [] => 0
  | d :: r => uptoBulk d + uptoBulkAll r
def uptoBulkEntries {H : Type} : List (Lit × DataW H) → Nat
  | [] => 0
  | x :: r => uptoBulkEntry x + uptoBulkEntries r
def uptoBulkEntry {H : Type} : Lit × DataW H → Nat
  | (.string bytes, d) => bytes.length + uptoBulk d + 1
  | (_, d) => uptoBulk d + 1
 end
def uptoSmall : (H : Type) → List (DataW H) → Bool := fun _ ds => decide (uptoBulkAll ds ≤ 1048576)
def OpenSpec.upto (s : _root_.Go.ChangeSpec) : _root_.Go.OpenSpec := { _root_.Go.OpenSpec.ofChange s with cond := some uptoSmall }

/-- 'laws.FnExactInlineCall', WHERE WHAT IT READS IS OF BULK AT MOST 1048576: true; the input reads as it did. -/
def fnExactInlineCallUptoRow : OpenClaim := { program := "ythdcnadkdbcmmaa", sum := "4c097f49d3d334fadf9da688e2699ef64843d86a6eaf8cdf96aef6505a2a7643", func := "loop.example/apimigrator/laws.FnExactInlineCall", spec := "fnExactInlineCall", unfollowed := true, recurses := true, loops := true, apart := false, narrowed := true }
def FnExactInlineCallUptoSaid : Prop := fnExactInlineCallUptoRow.holds Try.pinned (OpenSpec.upto fnExactInlineCallSpec)

/-- 'laws.FnExactInlineFun', WHERE WHAT IT READS IS OF BULK AT MOST 1048576: true; the input reads as it did. -/
def fnExactInlineFunUptoRow : OpenClaim := { program := "ythdcnadkdbcmmaa", sum := "4c097f49d3d334fadf9da688e2699ef64843d86a6eaf8cdf96aef6505a2a7643", func := "loop.example/apimigrator/laws.FnExactInlineFun", spec := "fnExactInlineFun", unfollowed := true, recurses := true, loops := true, apart := false, narrowed := true }
def FnExactInlineFunUptoSaid : Prop := fnExactInlineFunUptoRow.holds Try.pinned (OpenSpec.upto fnExactInlineFunSpec)

/-- 'laws.FnExactIsWrapper', WHERE WHAT IT READS IS OF BULK AT MOST 1048576: true; the input reads as it did. -/
def fnExactIsWrapperUptoRow : OpenClaim := { program := "ythdcnadkdbcmmaa", sum := "4c097f49d3d334fadf9da688e2699ef64843d86a6eaf8cdf96aef6505a2a7643", func := "loop.example/apimigrator/laws.FnExactIsWrapper", spec := "fnExactIsWrapper", unfollowed := true, recurses := true, loops := true, apart := false, narrowed := true }
def FnExactIsWrapperUptoSaid : Prop := fnExactIsWrapperUptoRow.holds Try.pinned (OpenSpec.upto fnExactIsWrapperSpec)

/-- 'laws.FnExactWrapperTarget', WHERE WHAT IT READS IS OF BULK AT MOST 1048576: true; the input reads as it did. -/
def fnExactWrapperTargetUptoRow : OpenClaim := { program := "ythdcnadkdbcmmaa", sum := "4c097f49d3d334fadf9da688e2699ef64843d86a6eaf8cdf96aef6505a2a7643", func := "loop.example/apimigrator/laws.FnExactWrapperTarget", spec := "fnExactWrapperTarget", unfollowed := true, recurses := true, loops := true, apart := false, narrowed := true }
def FnExactWrapperTargetUptoSaid : Prop := fnExactWrapperTargetUptoRow.holds Try.pinned (OpenSpec.upto fnExactWrapperTargetSpec)

end Rows
end Go.Proofs.Ythdcnadkdbcmmaa
