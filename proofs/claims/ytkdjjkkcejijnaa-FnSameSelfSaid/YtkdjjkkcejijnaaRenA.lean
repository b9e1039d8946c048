/-
  impl.renumbered: its loop.
-/
import Derived.Test.YtkdjjkkcejijnaaTree
import Derived.Test.YtkdjjkkcejijnaaPutD
import Derived.Test.YtkdjjkkcejijnaaFo
import Derived.Deep.RegionHeld3
import Derived.Deep.CutRange
namespace Go.Proofs.Ytkdjjkkcejijnaa
open Go.RowKit Go.Shelf
set_option maxRecDepth 100000

/-- At the head of a round: the Kids that are made are pre, those to come are made with nu and nx; cB is the box of what is made. -/
def RenRel (op n : Int) (nu0 : Nat → Int) (nx0 : Int) (rn : Int) (k : Fo) (A : Option Addr) (c cB : Nat) (w : World) (nxv i : Value) (wr : World) : Prop :=
  ∃ (j : Nat) (pre : Fo) (nu : Nat → Int) (nx : Nat) (A1 : Option Addr) (c1 : Nat) (bs : List Nat), j ≤ k.len ∧ i = .int .i64 (j : Int) ∧ nxv = .int .i64 (nx : Int) ∧ pre.len = j ∧ pre.app (renF op n j nu nx (k.drop j)) = renF op n 0 nu0 nx0 k ∧
    (∀ v, I64 (nu v)) ∧ nx + (k.drop j).size + 1 ≤ 4000 ∧ namesOkF (k.drop j) = true ∧
    Row wr w.heap.size 25 #[.int .i64 op, .int .i64 n, .slice A k.len c] ∧ Row wr (w.heap.size + 1) 90 (cellsI nu) ∧ Row wr (w.heap.size + 1 + 1) 25 #[.int .i64 0, .int .i64 0, .slice none 0 0] ∧
    Row wr cB 25 #[.int .i64 op, .int .i64 rn, .slice A1 pre.len c1] ∧ Tree wr (cB + 1) (.slice A1 pre.len c1) pre bs ∧ Below w.heap.size w wr
theorem ren_start {op n : Int} {nu0 : Nat → Int} {nx0 : Nat} {rn : Int} {k : Fo} {A : Option Addr} {c cB : Nat} {w W : World} (hnu : ∀ v, I64 (nu0 v)) (hnx : nx0 + k.size + 1 ≤ 4000) (hks : namesOkF k = true) (re : Row W w.heap.size 25 #[.int .i64 op, .int .i64 n, .slice A k.len c]) (ru : Row W (w.heap.size + 1) 90 (cellsI nu0))
    (rr : Row W (w.heap.size + 1 + 1) 25 #[.int .i64 0, .int .i64 0, .slice none 0 0]) (rc : Row W cB 25 #[.int .i64 op, .int .i64 rn, .slice none 0 0]) (hb : Below w.heap.size w W) : RenRel op n nu0 nx0 rn k A c cB w (.int .i64 (nx0 : Int)) (.int .i64 0) W :=
  ⟨0, .nil, nu0, nx0, none, 0, [], Nat.zero_le _, rfl, rfl, rfl, by rw [Fo.drop_zero]; rfl, hnu, by rw [Fo.drop_zero]; omega, by rw [Fo.drop_zero]; exact hks, re, ru, rr, rc, Tree.none _ _, hb⟩


/-- What renumbered does. -/
def RenC (op n : Int) (k : Fo) (A : Option Addr) (c : Nat) (nu0 : Nat → Int) (nx0 : Nat) (w : World) : Prop :=
  Calls Try.prog 58 #[.agg #[.int .i64 op, .int .i64 n, .slice A k.len c], .agg #[.int .i64 (nu0 0), .int .i64 (nu0 1), .int .i64 (nu0 2), .int .i64 (nu0 3), .int .i64 (nu0 4), .int .i64 (nu0 5), .int .i64 (nu0 6), .int .i64 (nu0 7)], .int .i64 (nx0 : Int)] w
    (Makes op (renM op n nu0 nx0) (renF op n 0 nu0 nx0 k) w)
end Go.Proofs.Ytkdjjkkcejijnaa
