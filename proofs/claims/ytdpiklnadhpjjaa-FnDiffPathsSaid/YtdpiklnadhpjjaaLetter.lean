/-
  A letter with a number: spec.l1Letter. Strings as lists of bytes.
-/
import Derived.Test.YtdpiklnadhpjjaaProg
import Derived.Test.YtdpiklnadhpjjaaFo
import Derived.Laws.IdiomStrings
import Derived.Laws.Concat
import Derived.Laws.Strings2
import Derived.Laws.Strings3
namespace Go.Proofs.Ytdpiklnadhpjjaa
open Go.RowKit
set_option maxRecDepth 100000

/-- A text, given by its bytes. -/
def txt (l : List UInt8) : Value := .string ⟨l.toArray⟩

end Go.Proofs.Ytdpiklnadhpjjaa
