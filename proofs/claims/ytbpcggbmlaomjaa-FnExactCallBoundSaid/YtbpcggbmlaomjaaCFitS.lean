/-
  spec.CallsFit.
-/
import Derived.Test.YtbpcggbmlaomjaaCFit
import Derived.Test.YtbpcggbmlaomjaaAnyS
namespace Go.Proofs.Ytbpcggbmlaomjaa
open Go.RowKit
set_option maxRecDepth 100000

set_option maxHeartbeats 1000000 in
theorem specCallsFit_any (ds : List De) (DA : Option Addr) (DC : Nat) (op n : Int) (k : Fo) (A : Option Addr) (c : Nat) (w : World) (hd : LiesD w 0 w.heap.size DA ds) (hl : Lies w 0 w.heap.size A 0 k) (hds : ds.length ≤ 1048576) (hlen : k.len ≤ maxLen) (hsz : k.size ≤ 1048576) :
    Calls Try.prog 73 #[.slice DA ds.length DC, .agg #[.int .i64 op, .int .i64 n, .slice A k.len c]] w (Gives (.bool (callsFitB ds op n k)) w) := by
  have hb0 : Below w.heap.size w (w.alloc (Obj.cells #[Value.int IntKind.i64 op, Value.int IntKind.i64 n, Value.slice A k.len c] 40)) := (Below.refl _ _).alloc (Nat.le_refl _) _
  have hr0 := Row.fresh w 40 #[Value.int IntKind.i64 op, Value.int IntKind.i64 n, Value.slice A k.len c]
  have HA := Lib.hid (l1Any_any op n k A c _ (hl.up hb0) hlen)
  unfold callsFitB
  cases hv : nodeIs op n k (firstS 8) with
  | false =>
    rw [hv] at HA
    rw [Bool.false_and]
    go_enter Try.func73, Try.ntmps73
    go_wp2_with fail
    refine HA.out.mono ?_
    rintro e w2 ⟨rfl, hb2⟩
    have hb3 := hb0.trans (hb2.mono hb0.size)
    clear hb0 hb2 HA
    go_wp2
    go_ret
    exact ⟨rfl, hb3⟩
  | true =>
    rw [hv] at HA
    rw [Bool.true_and]
    generalize hz : fitN (ariS ds) op n k = z
    have HZ := Lib.hid hz
    clear hz hv
    go_enter Try.func73, Try.ntmps73
    go_wp2_with fail
    refine HA.out.mono ?_
    rintro e w2 ⟨rfl, hb2⟩
    have hb3 := hb0.trans (hb2.mono hb0.size)
    have hr2 := hr0.below hb2 hr0.size
    have q0 := hr2.cell (i := 0) rfl
    have q1 := hr2.cell (i := 1) rfl
    have q2 := hr2.cell (i := 2) rfl
    clear hb0 hb2 HA
    go_wp2_with fail
    refine (l2Fit_any k.size ds DA DC hds op n k A c w2 rfl (hd.up hb3) (hl.up hb3) hsz).mono ?_
    rintro e w3 ⟨rfl, hb4⟩
    rw [HZ.out]
    have hb5 := hb3.trans (hb4.mono hb3.size)
    clear hb3 hb4 q0 q1 q2
    go_wp2
    go_ret
    exact ⟨rfl, hb5⟩
end Go.Proofs.Ytbpcggbmlaomjaa
