/-
  spec.l1Any.
-/
import Derived.Test.YtbpcggbmlaomjaaScope
import Derived.Test.YtbpcggbmlaomjaaIsV
import Derived.Test.YtbpcggbmlaomjaaFo
import Derived.Test.YtbpcggbmlaomjaaDe
import Derived.Deep.RegionHeld3
namespace Go.Proofs.Ytbpcggbmlaomjaa
open Go.RowKit
set_option maxRecDepth 100000

set_option maxHeartbeats 1000000 in
theorem l1Any_any (op n : Int) (k : Fo) (A : Option Addr) (c : Nat) (w : World) (hl : Lies w 0 w.heap.size A 0 k) (hlen : k.len ≤ maxLen) :
    Calls Try.prog 91 #[.agg #[.int .i64 op, .int .i64 n, .slice A k.len c]] w (Gives (.bool (nodeIs op n k (firstS 8))) w) := by
  have hb0 : Below w.heap.size w (w.alloc (Obj.cells #[Value.int IntKind.i64 op, Value.int IntKind.i64 n, Value.slice A k.len c] 40)).drew := ((Below.refl _ _).alloc (Nat.le_refl _) _).drew
  have hr0 := (Row.fresh w 40 #[Value.int IntKind.i64 op, Value.int IntKind.i64 n, Value.slice A k.len c]).drew
  have q0 := hr0.cell (i := 0) rfl
  have q1 := hr0.cell (i := 1) rfl
  have q2 := hr0.cell (i := 2) rfl
  have HB0 := Lib.hid hb0
  have hz : w.heap.size < (w.alloc (Obj.cells #[Value.int IntKind.i64 op, Value.int IntKind.i64 n, Value.slice A k.len c] 40)).drew.heap.size := by simp
  have HZ := Lib.hid hz
  have HL := Lib.hid hl
  have HLEN := Lib.hid hlen
  have h8 := l1First_any 8 (Nat.le_refl _) (w.alloc (Obj.cells #[Value.int IntKind.i64 op, Value.int IntKind.i64 n, Value.slice A k.len c] 40)).drew
  have H8 := Lib.hid h8
  clear hb0 hr0 hz hl hlen h8
  generalize hS : firstS 8 = S
  rw [hS] at H8
  clear hS
  go_enter Try.func91, Try.ntmps91
  go_wp2_with fail
  go_region_held3 (fun w' => w'.cell? ⟨w.heap.size, 0, none⟩ = some (.int .i64 op) ∧ w'.cell? ⟨w.heap.size, 1, none⟩ = some (.int .i64 n) ∧ w'.cell? ⟨w.heap.size, 2, none⟩ = some (.slice A k.len c))
    (first | exact ⟨q0, q1, q2⟩ | exact ⟨y0, y1, y2⟩ | exact ⟨u0, u1, u2⟩)
    (first
      | (go_at_call 61
         refine H8.out.mono ?_
         rintro e w3 ⟨A3, c3, rfl, hB3, hb3⟩
         have y0 := (hb3.cell (p := ⟨w.heap.size, 0, none⟩) HZ.out).trans q0
         have y1 := (hb3.cell (p := ⟨w.heap.size, 1, none⟩) HZ.out).trans q1
         have y2 := (hb3.cell (p := ⟨w.heap.size, 2, none⟩) HZ.out).trans q2)
      | (go_at_call 60
         refine (l1Is_any op n k A c S A3 c3 w3 ((HL.out.up HB0.out).up (hb3.mono HB0.out.size |> fun _ => hb3)) HLEN.out (hB3.mono_ (Nat.zero_le _) (Nat.le_refl _))).mono ?_
         rintro e w4 ⟨rfl, hb4⟩
         have u0 := (hb4.cell (p := ⟨w.heap.size, 0, none⟩) (Nat.lt_of_lt_of_le HZ.out hb3.size)).trans y0
         have u1 := (hb4.cell (p := ⟨w.heap.size, 1, none⟩) (Nat.lt_of_lt_of_le HZ.out hb3.size)).trans y1
         have u2 := (hb4.cell (p := ⟨w.heap.size, 2, none⟩) (Nat.lt_of_lt_of_le HZ.out hb3.size)).trans y2))
  have hb34 := HB0.out.trans ((hb3.trans (hb4.mono hb3.size)).mono HB0.out.size)
  clear hb3 hb4 hB3 q0 q1 q2 y0 y1 y2 u0 u1 u2 HB0 HZ HL H8
  go_wp2
  go_ret
  exact ⟨rfl, hb34⟩
end Go.Proofs.Ytbpcggbmlaomjaa
