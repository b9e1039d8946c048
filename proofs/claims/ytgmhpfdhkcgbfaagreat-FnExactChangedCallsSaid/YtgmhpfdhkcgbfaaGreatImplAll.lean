/-
  impl.AllVars.
-/
import Derived.Test.YtgmhpfdhkcgbfaaGreatFresh
import Derived.Test.YtgmhpfdhkcgbfaaGreatNodesI
namespace Go.Proofs.YtgmhpfdhkcgbfaaGreat
open Go.RowKit Go.Shelf
set_option maxRecDepth 100000

attribute [local go_sem] Oper.semAt_some

end Go.Proofs.YtgmhpfdhkcgbfaaGreat
