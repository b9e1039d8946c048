/-
  SubstVar's contracts, told of numbers and Kids in the place of nodes.
-/
import Derived.Test.YtjlaabipgppijaaReb
namespace Go.Proofs.Ytjlaabipgppijaa
open Go.RowKit Go.Shelf
set_option maxRecDepth 100000

theorem specSub_e (op n : Int) (k : Fo) (v : Int) (op' n' : Int) (k' : Fo) (A X : Option Addr) (c cx : Nat) (w : World) (hl : Lies w 0 w.heap.size A 0 k) (hx : Lies w 0 w.heap.size X 0 k') (hsz : k.size ≤ 1048576) (hlx : k'.len ≤ maxLen) :
    Calls Try.prog 15 #[.agg #[.int .i64 op, .int .i64 n, .slice A k.len c], .int .i64 v, .agg #[.int .i64 op', .int .i64 n', .slice X k'.len cx]] w (GivesN ((subB ⟨op, n, k⟩ v ⟨op', n', k'⟩).getD nd0) (subB ⟨op, n, k⟩ v ⟨op', n', k'⟩).isSome w) :=
  specSub_any ⟨op, n, k⟩ v ⟨op', n', k'⟩ A X c cx w hl hx hsz hlx
theorem implSub_e (op n : Int) (k : Fo) (v : Int) (op' n' : Int) (k' : Fo) (A X : Option Addr) (c cx : Nat) (w : World) (hl : Lies w 0 w.heap.size A 0 k) (hx : Lies w 0 w.heap.size X 0 k') (hlen : k.len ≤ maxLen) (hxl : k'.len ≤ cx) (hxc : cx ≤ maxLen) :
    Calls Try.prog 14 #[.agg #[.int .i64 op, .int .i64 n, .slice A k.len c], .int .i64 v, .agg #[.int .i64 op', .int .i64 n', .slice X k'.len cx]] w (GivesN ((subB ⟨op, n, k⟩ v ⟨op', n', k'⟩).getD nd0) (subB ⟨op, n, k⟩ v ⟨op', n', k'⟩).isSome w) :=
  implSub_any ⟨op, n, k⟩ v ⟨op', n', k'⟩ A X c cx w hl hx hlen hxl hxc
end Go.Proofs.Ytjlaabipgppijaa
