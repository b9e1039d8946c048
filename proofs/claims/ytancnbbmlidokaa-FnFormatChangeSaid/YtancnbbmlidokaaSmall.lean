/-
  small and withinLimits: nodes and levels counted down.
-/
import Derived.Test.YtancnbbmlidokaaFo
import Derived.Test.YtancnbbmlidokaaRows
import Derived.WalkKit
import Derived.WalkSpells
import Derived.WalkSmall
import Derived.Lib.Hide
import Derived.StillTailTactics
import Derived.BigQuiet
import Derived.Deep.QuietTactic
namespace Go.Proofs.Ytancnbbmlidokaa
open Go.RowKit
set_option maxRecDepth 100000

/-- Below block number B the world w' is as w was, but for block g. -/
structure Only (g B : Nat) (w w' : World) : Prop where
  os : w'.os = w.os
  tape : w'.tape = w.tape
  output : w'.output = w.output
  size : w.heap.size ≤ w'.heap.size
  block : ∀ k, k < B → k ≠ g → w'.heap[k]? = w.heap[k]?

theorem Only.refl (g B : Nat) (w : World) : Only g B w w := ⟨rfl, rfl, rfl, Nat.le_refl _, fun _ _ _ => rfl⟩
theorem Only.trans {g B : Nat} {a b c : World} (h : Only g B a b) (k : Only g B b c) : Only g B a c :=
  ⟨k.os.trans h.os, k.tape.trans h.tape, k.output.trans h.output, Nat.le_trans h.size k.size, fun i hi hg => (k.block i hi hg).trans (h.block i hi hg)⟩
theorem Only.mono {g B B' : Nat} {a b : World} (h : Only g B a b) (hB : B' ≤ B) : Only g B' a b := ⟨h.os, h.tape, h.output, h.size, fun i hi hg => h.block i (by omega) hg⟩
theorem Only.of_below {g B : Nat} {a b : World} (h : Below B a b) : Only g B a b := ⟨h.os, h.tape, h.output, h.size, fun i hi _ => h.block i hi⟩
theorem Only.below {g B : Nat} {a b : World} (h : Only g B a b) (hg : B ≤ g) : Below B a b := ⟨h.os, h.tape, h.output, h.size, fun i hi => h.block i hi (by omega)⟩
theorem Only.alloc {g B : Nat} {a b : World} (h : Only g B a b) (hB : B ≤ b.heap.size) (o : Obj) : Only g B a (b.alloc o) := h.trans (.of_below ((Below.refl _ _).alloc hB o))
theorem Only.set {g B : Nat} {a b : World} (h : Only g B a b) {p : Addr} (hp : p.block = g ∨ B ≤ p.block) (v : Value) : Only g B a (b.setCell p v) :=
  ⟨h.os, h.tape, h.output, by simpa [World.setCell] using h.size, fun i hi hg => (Below.heap_setCell b p v i (by omega)).trans (h.block i hi hg)⟩
theorem Only.drew {g B : Nat} {a b : World} (h : Only g B a b) : Only g B a b.drew := ⟨h.os, h.tape, h.output, h.size, h.block⟩
theorem Only.cell {g B : Nat} {w w' : World} (h : Only g B w w') {p : Addr} (hp : p.block < B) (hg : p.block ≠ g) : w'.cell? p = w.cell? p := World.cell?_of_block (w := w) (h.block p.block hp hg)
theorem Row.only {w w' : World} {g g' B : Nat} {t : TypeId} {cs : Array Value} (h : Row w g t cs) (hb : Only g' B w w') (hg : g < B) (hne : g ≠ g') : Row w' g t cs := (hb.block g hg hne).trans h
theorem Lies.only {w w' : World} {L B g C : Nat} {f : Fo} {A : Option Addr} {i : Nat} (h : Lies w L B A i f) (hb : Only g C w w') (hB : B ≤ C) (hg : g < L ∨ B ≤ g) : Lies w' L B A i f :=
  h.keep (Nat.le_refl _) (Nat.le_refl _) fun _ h1 h2 => hb.cell (by omega) (by omega)

/-- How many levels a list of nodes has. -/
def Fo.dep : Fo → Nat
  | .nil => 0
  | .cons _ _ k r => max (k.dep + 1) r.dep

/-- What small finds of a node: levels and nodes suffice. -/
def smallOk (k : Fo) (L N : Nat) : Bool := decide (k.dep + 1 ≤ L) && decide (k.size + 1 ≤ N)

def SmallPost (k : Fo) (L N g : Nat) (w : World) (e : Ending) (w' : World) : Prop :=
  ∃ N' : Int, e = .returned (.bool (smallOk k L N)) ∧ (smallOk k L N = true → N' = ((N - (k.size + 1) : Nat) : Int)) ∧ -1 ≤ N' ∧ N' ≤ 80 ∧ Row w' g 3 #[.int .i64 N'] ∧ Only g w.heap.size w w'

end Go.Proofs.Ytancnbbmlidokaa
