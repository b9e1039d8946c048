/-
  impl.nodesOf: the iterator over the nodes of an expression.
  impl.hideNone: nothing is hidden.
-/
import Derived.Test.YtiefobkddckkbaaFo
import Derived.Test.YtiefobkddckkbaaEndless
import Derived.Shelf.Abstract
import Derived.Shelf.RegionOpen
import Derived.OwnWalkIn
import Derived.TacticsInMore
import Derived.LoopNIn
import Derived.LoopIn
import Derived.Maps.OwnIn
import Derived.Test.YtiefobkddckkbaaRows
import Derived.WalkKit
namespace Go.Proofs.Ytiefobkddckkbaa
open Go.RowKit Go.Shelf
set_option maxRecDepth 100000

attribute [local go_sem] Oper.semAt_some

/-- The stack of nodes under way; gk: how many nodes are to come. -/
structure Stk (h : Nd → Nat → Bool) (root : Nd) (w : World) (L B : Nat) (X : Nat → Prop) (W : World) (J : List Nx → World → Prop) (st ys : List Nx) (v : Value) (wr : World) : Prop where
  own : wr.ownsRow W.heap.size 33 3 v st.length (cells3 st)
  ord : ys.map Nx.nd ++ ordS h (st.map Nx.nd) = ordN h root
  ok : ∀ x ∈ st, x.ok w L B
  j : J ys wr
  kc : KC X W wr

end Go.Proofs.Ytiefobkddckkbaa

namespace Go.Proofs.Ytiefobkddckkbaa
open Go.RowKit
set_option maxRecDepth 100000

end Go.Proofs.Ytiefobkddckkbaa
