/-
  A list of expressions as an argument of a law.
-/
import Derived.Test.YthjfinhfpgifiaaTools
import Derived.Test.YthjfinhfpgifiaaMk
namespace Go.Proofs.Ythjfinhfpgifiaa
open Go.RowKit
set_option maxRecDepth 100000
def ToPostF (f : Fo) (w : World) (e : Ending) (w' : World) : Prop :=
  ∃ A c, e = .returned (.slice A f.len c) ∧ f.len ≤ c ∧ c ≤ maxLen ∧ Lies w' w.heap.size w'.heap.size A 0 f ∧ AllRows w' w.heap.size w'.heap.size ∧ Below w.heap.size w w'
theorem toExprS_f (f : Fo) (A : Option Addr) (c : Nat) (w : World) (hl : Lies w 0 w.heap.size A 0 f) (hsz : f.size ≤ 1048576) :
    Calls Try.prog 8 #[.slice A f.len c] w (ToPostF f w) :=
  (toExprS_z f.size f A c w rfl hl hsz).mono fun _ _ ⟨A', c', h1, h2, h3, h4, h5, h6⟩ => ⟨A', c', h1, h2, h3, h4.lies, h5, h6⟩
theorem eqExprS_f (f : Fo) (A A2 : Option Addr) (c c2 : Nat) (w : World) (hl : Lies w 0 w.heap.size A 0 f) (hl2 : Lies w 0 w.heap.size A2 0 f) (hsz : f.size ≤ 1048576) :
    Calls Try.prog 12 #[.slice A f.len c, .slice A2 f.len c2] w (Gives (.bool true) w) := eqExprS_any f.size f A A2 c c2 w rfl hl hl2 hsz
theorem mkExprS_f (L B : Nat) (f : Fo) (A : Option Addr) (c : Nat) (w : World) (x : Int) (hl : Sk w L B A 0 f) (hx0 : 0 ≤ x) (hx : x + 5 * (f.size : Int) ≤ 33554432) :
    Calls Try.prog 14 #[.slice A f.len c, .int .i64 x] w (MkPost f.size x L B w) := mkExprS_any L B f.size f A c w x rfl hl hx0 hx
end Go.Proofs.Ythjfinhfpgifiaa
