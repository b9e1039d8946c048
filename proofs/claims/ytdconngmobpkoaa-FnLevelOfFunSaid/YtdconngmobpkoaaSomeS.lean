/-
  spec.l1Some: an expression is drawn.
-/
import Derived.Test.YtdconngmobpkoaaSomeD
namespace Go.Proofs.Ytdconngmobpkoaa
open Go.RowKit Go.Shelf
set_option maxRecDepth 100000

theorem Ok.pb {bs : List Nat} {Q p : Nat} {b : Int} (h : Ok bs Q p b) (hQ : Lim bs Q) : p ≤ 1000000 := by have := h.lt; have := hQ.1; omega

theorem Only.grown {g : Nat} {a b c : World} {r : Option Nat} (h : Only g a.heap.size a b) (hg : b.grownBy c r) (hr : ∀ z, r = some z → a.heap.size ≤ z) : Only g a.heap.size a c :=
  ⟨hg.os.trans h.os, hg.tape.trans h.tape, hg.output.trans h.output, Nat.le_trans h.size hg.size, fun i hi hne => (hg.block i (Nat.lt_of_lt_of_le hi h.size) (fun e => Nat.lt_irrefl _ (Nat.lt_of_lt_of_le hi (hr i e.symm)))).trans (h.block i hi hne)⟩
theorem liesI_only {w V : World} {g : Nat} {A : Option Addr} {zs : List Int} (h : LiesI w (g + 1) w.heap.size A zs) (hon : Only g w.heap.size w V) : LiesI V (g + 1) V.heap.size A zs :=
  h.keep (Nat.le_refl _) hon.size fun p h1 h2 => hon.cell h2 (by omega)
theorem liesY_only {w V : World} {g base : Nat} {A : Option Addr} {bs : List Nat} (h : LiesY w 0 base A bs) (hon : Only g w.heap.size w V) (hb : base ≤ w.heap.size) (hg : base ≤ g) : LiesY V 0 base A bs :=
  h.below ((hon.mono hb).below hg)
theorem LiesI.drew {w : World} {L : Nat} {A : Option Addr} {zs : List Int} (h : LiesI w L w.heap.size A zs) : LiesI w.drew L w.drew.heap.size A zs := h
theorem LiesY.drew {w : World} {L B : Nat} {A : Option Addr} {bs : List Nat} (h : LiesY w L B A bs) : LiesY w.drew L B A bs := h
theorem snoc_size : ∀ (f : Fo) (op n : Int) (k : Fo), (f.snoc op n k).size = f.size + k.size + 1
  | .nil, _, _, _ => by simp [Fo.snoc, Fo.size]
  | .cons _ _ _ r, op, n, k => by simp only [Fo.snoc, Fo.size, snoc_size r op n k]; omega

end Go.Proofs.Ytdconngmobpkoaa
