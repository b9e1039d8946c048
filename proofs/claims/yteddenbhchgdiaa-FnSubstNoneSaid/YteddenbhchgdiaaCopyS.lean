/-
  spec.l1Copy (it stands in PutSS).
-/
import Derived.Test.YteddenbhchgdiaaPutSS
