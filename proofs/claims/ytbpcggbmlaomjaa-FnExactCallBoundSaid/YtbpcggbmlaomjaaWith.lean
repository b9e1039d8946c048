/-
  impl.validWith; and that the model's test of a node says the same.
-/
import Derived.Test.YtbpcggbmlaomjaaVp
import Derived.Test.YtbpcggbmlaomjaaSmall
import Derived.Test.YtbpcggbmlaomjaaIsV
import Derived.Test.YtbpcggbmlaomjaaFo
namespace Go.Proofs.Ytbpcggbmlaomjaa
open Go.RowKit
set_option maxRecDepth 100000

theorem shapeF_vpF : ∀ (f : Fo) (i : Nat) (S : Nat → Bool) (op n : Int) (d : Nat), shapeF op n i S d f = true ↔ f.dep ≤ d ∧ vpF op n i S f = true
  | .nil, _, _, _, _, _ => by simp [shapeF, vpF, Fo.dep]
  | .cons o m k r, i, S, op, n, d => by
    have h1 := shapeF_vpF k 0 (inner op n i S) o m (d - 1)
    have h2 := shapeF_vpF r (i + 1) S op n d
    simp only [shapeF, vpF, Fo.dep, Bool.and_eq_true, decide_eq_true_iff, h1, h2]
    constructor
    · rintro ⟨⟨⟨⟨a, b⟩, c⟩, e, g⟩, h, i⟩
      exact ⟨by omega, ⟨⟨⟨b, c⟩, g⟩, i⟩⟩
    · rintro ⟨a, ⟨⟨b, c⟩, g⟩, i⟩
      exact ⟨⟨⟨⟨by omega, b⟩, c⟩, by omega, g⟩, by omega, i⟩

theorem nodeIs_eq (op n : Int) (k : Fo) (S : Nat → Bool) : nodeIs op n k S = (smallOk k 14 80 && nodeVp op n k S) := by
  rw [Bool.eq_iff_iff]
  have h := shapeF_vpF k 0 S op n 13
  simp only [nodeIs, nodeShape, smallOk, nodeVp, Bool.and_eq_true, decide_eq_true_iff, h]
  constructor
  · rintro ⟨⟨⟨⟨a, b⟩, c⟩, e, g⟩, i⟩
    exact ⟨⟨by omega, i⟩, ⟨b, c⟩, g⟩
  · rintro ⟨⟨a, i⟩, ⟨b, c⟩, g⟩
    exact ⟨⟨⟨⟨by omega, b⟩, c⟩, by omega, g⟩, i⟩

theorem validWith_any (op n : Int) (k : Fo) (A : Option Addr) (c : Nat) (S : Nat → Bool) (w : World) (hl : Lies w 0 w.heap.size A 0 k) (hlen : k.len ≤ maxLen) :
    Calls Try.prog 89 #[.agg #[.int .i64 op, .int .i64 n, .slice A k.len c], arrB S] w (Gives (.bool (nodeIs op n k S)) w) := by
  rw [nodeIs_eq]
  have hb0 : Below w.heap.size w ((w.alloc (Obj.cells #[Value.int IntKind.i64 op, Value.int IntKind.i64 n, Value.slice A k.len c] 40)).alloc (Obj.cells (cellsB S) 58)) :=
    ((Below.refl _ _).alloc (Nat.le_refl _) _).alloc (by simp) _
  have hr0 := (Row.fresh w 40 #[Value.int IntKind.i64 op, Value.int IntKind.i64 n, Value.slice A k.len c]).alloc (Obj.cells (cellsB S) 58)
  have hk0 := Row.fresh (w.alloc (Obj.cells #[Value.int IntKind.i64 op, Value.int IntKind.i64 n, Value.slice A k.len c] 40)) 58 (cellsB S)
  rw [World.size_alloc] at hk0
  have hs0 : w.heap.size + 2 ≤ ((w.alloc (Obj.cells #[Value.int IntKind.i64 op, Value.int IntKind.i64 n, Value.slice A k.len c] 40)).alloc (Obj.cells (cellsB S) 58)).heap.size := by simp
  unfold cellsB at hb0 hr0 hk0 hs0
  have C2 := Lib.hid (fun w2 h => validPart_any k.size op n k A c S w2 rfl h hlen)
  unfold arrB at C2 ⊢
  cases hN : smallOk k 14 80
  all_goals
    have HN := Lib.hid hN
    clear hN
    go_enter Try.func89, Try.ntmps89
    go_wp2_with fail
    refine (withinLimits_any op n k A c _ ((hl.below hb0).mono_ (Nat.le_refl _) hb0.size) hlen).mono ?_
    rintro e w2 ⟨rfl, hb2⟩
    rw [HN.out]
    have hb3 := hb0.trans (hb2.mono hb0.size)
  · clear hb0 hb2 hr0 hk0 hs0
    go_wp2
    go_ret
    exact ⟨rfl, hb3⟩
  · have hr2 := hr0.below hb2 (by omega)
    have hk2 := hk0.below hb2 (by omega)
    have q0 := hr2.cell (i := 0) rfl
    have q1 := hr2.cell (i := 1) rfl
    have q2 := hr2.cell (i := 2) rfl
    have p0 := hk2.cell (i := 0) rfl
    have p1 := hk2.cell (i := 1) rfl
    have p2 := hk2.cell (i := 2) rfl
    have p3 := hk2.cell (i := 3) rfl
    have p4 := hk2.cell (i := 4) rfl
    have p5 := hk2.cell (i := 5) rfl
    have p6 := hk2.cell (i := 6) rfl
    have p7 := hk2.cell (i := 7) rfl
    have z2 : w.heap.size ≤ w2.heap.size := hb3.size
    clear hb0 hb2 hr0 hk0 hs0
    go_wp2_with fail
    refine (C2.out _ ((hl.below hb3).mono_ (Nat.le_refl _) z2)).mono ?_
    rintro e w3 ⟨rfl, hb4⟩
    have hb5 := hb3.trans (hb4.mono z2)
    clear hb3 hb4 q0 q1 q2 p0 p1 p2 p3 p4 p5 p6 p7 hr2 hk2
    generalize nodeVp op n k S = y at *
    go_wp2
    go_ret
    exact ⟨ret_bool (by simp), hb5⟩
end Go.Proofs.Ytbpcggbmlaomjaa
