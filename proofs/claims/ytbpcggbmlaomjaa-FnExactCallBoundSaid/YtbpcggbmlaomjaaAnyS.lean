/-
  spec.l1Any (in OpenS), with what Any has.
-/
import Derived.Test.YtbpcggbmlaomjaaAny
import Derived.Test.YtbpcggbmlaomjaaOpenS
