/-
  The laws' own tools at one expression: szExpr, toExpr, eqExpr.
-/
import Derived.Test.YtcdckjmnnpppkaaSz
import Derived.Test.YtcdckjmnnpppkaaTo
import Derived.Test.YtcdckjmnnpppkaaEq
namespace Go.Proofs.Ytcdckjmnnpppkaa
open Go.RowKit
set_option maxRecDepth 100000

theorem szExpr_any (op n : Int) (k : Fo) (A : Option Addr) (c : Nat) (w : World) (left : Int) (hl : Lies w 0 w.heap.size A 0 k) (hlen : k.len ≤ maxLen) (h0 : 0 ≤ left) (h1 : left ≤ 1048576) :
    Calls Try.prog 13 #[.agg #[.int .i64 op, .int .i64 n, .slice A k.len c], .int .i64 left] w (SzPost k.size left w.heap.size w) :=
  szExpr_of op n left k A c w fun w1 hw1 => szExprS_any k.size k A c w1 left rfl ((hl.below hw1).mono_ (Nat.le_refl _) hw1.size) hlen h0 h1

theorem toExpr_z (op n : Int) (k : Fo) (A : Option Addr) (c : Nat) (w : World) (hl : Lies w 0 w.heap.size A 0 k) (hsz : k.size ≤ 1048576) :
    Calls Try.prog 15 #[.agg #[.int .i64 op, .int .i64 n, .slice A k.len c]] w (ToPostZ1 op n k w) :=
  toExpr_ofz op n k A c w fun w1 hw1 => toExprS_z k.size k A c w1 rfl ((hl.below hw1).mono_ (Nat.le_refl _) hw1.size) hsz
theorem toExpr_any (op n : Int) (k : Fo) (A : Option Addr) (c : Nat) (w : World) (hl : Lies w 0 w.heap.size A 0 k) (hsz : k.size ≤ 1048576) :
    Calls Try.prog 15 #[.agg #[.int .i64 op, .int .i64 n, .slice A k.len c]] w (ToPost1 op n k w) :=
  (toExpr_z op n k A c w hl hsz).mono fun _ _ ⟨A', c', h1, h2, h3, h4, h5, h6⟩ => ⟨A', c', h1, h2, h3, h4.lies, h5, h6⟩

theorem eqExpr_any (op n : Int) (k : Fo) (A A2 : Option Addr) (c c2 : Nat) (w : World) (hl : Lies w 0 w.heap.size A 0 k) (hl2 : Lies w 0 w.heap.size A2 0 k) (hsz : k.size ≤ 1048576) :
    Calls Try.prog 17 #[.agg #[.int .i64 op, .int .i64 n, .slice A k.len c], .agg #[.int .i64 op, .int .i64 n, .slice A2 k.len c2]] w (Gives (.bool true) w) :=
  eqExpr_of op n k A A2 c c2 w fun w1 hw1 => eqExprS_any k.size k A A2 c c2 w1 rfl ((hl.below hw1).mono_ (Nat.le_refl _) hw1.size) ((hl2.below hw1).mono_ (Nat.le_refl _) hw1.size) hsz
end Go.Proofs.Ytcdckjmnnpppkaa
