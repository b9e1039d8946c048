/-
  impl.IsPure.
-/
import Derived.Test.YtfjhanfmcoebfaaEffD
import Derived.Test.YtfjhanfmcoebfaaSets
import Derived.Test.YtfjhanfmcoebfaaLibVI
import Derived.Deep.RegionHeld3
namespace Go.Proofs.Ytfjhanfmcoebfaa
open Go.RowKit Go.Shelf
set_option maxRecDepth 100000

end Go.Proofs.Ytfjhanfmcoebfaa
