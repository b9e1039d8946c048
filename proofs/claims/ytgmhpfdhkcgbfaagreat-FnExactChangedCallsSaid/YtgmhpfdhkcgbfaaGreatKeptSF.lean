/-
  spec.KeptFuns (made by gen_kepti.py).
-/
import Derived.Test.YtgmhpfdhkcgbfaaGreatKeptS
namespace Go.Proofs.YtgmhpfdhkcgbfaaGreat
open Go.RowKit Go.Shelf
set_option maxRecDepth 100000

end Go.Proofs.YtgmhpfdhkcgbfaaGreat
