/-
  impl.ReplaceAt (made by gen_repl.py).
-/
import Derived.Test.YtdpiklnadhpjjaaRepl
import Derived.Test.YtdpiklnadhpjjaaPartI
import Derived.Test.YtdpiklnadhpjjaaPathsI
namespace Go.Proofs.Ytdpiklnadhpjjaa
open Go.RowKit Go.Shelf
set_option maxRecDepth 100000

theorem three_boxes (w : World) (t : TypeId) (X Y Z : Array Value) : Below w.heap.size w (((w.alloc (.cells X t)).alloc (.cells Y t)).alloc (.cells Z t)) ∧ Row (((w.alloc (.cells X t)).alloc (.cells Y t)).alloc (.cells Z t)) w.heap.size t X ∧
    Row (((w.alloc (.cells X t)).alloc (.cells Y t)).alloc (.cells Z t)) (w.heap.size + 1) t Y ∧ Row (((w.alloc (.cells X t)).alloc (.cells Y t)).alloc (.cells Z t)) (w.heap.size + 2) t Z := by
  have h3 := Row.fresh ((w.alloc (.cells X t)).alloc (.cells Y t)) t Z
  have h2 := (Row.fresh (w.alloc (.cells X t)) t Y).alloc (.cells Z t)
  simp only [World.size_alloc] at h2 h3
  exact ⟨(((Below.refl _ _).alloc (Nat.le_refl _) _).alloc (by simp) _).alloc (by simp; omega) _, ((Row.fresh w t X).alloc _).alloc _, h2, h3⟩

theorem own_row {w : World} {base : Nat} {v : Value} {n : Nat} {xs : List Value} (h : w.ownsRow base 25 3 v n xs) : ∀ z, z ∈ blkV v → ∃ cs, Row w z 25 cs := fun z hz => by
  rcases h.2 with ⟨hv, _⟩ | ⟨g, cap, cur, hv, hq, hh, _⟩
  · rw [hv] at hz; cases hz
  · rw [hv] at hz
    have hz : z ∈ [g] := hz
    rw [List.mem_singleton] at hz
    rw [hz]
    exact ⟨cur, hh⟩
theorem OwnF.row {w : World} {base : Nat} : ∀ {f : Fo} {st : List Nx} {bs : List Nat}, OwnF w base f st bs → ∀ z, z ∈ bs → ∃ cs, Row w z 25 cs
  | .nil, _, _, ⟨_, h⟩, z, hz => by rw [h] at hz; cases hz
  | .cons _ _ _ _, _, _, ⟨A, c, stk, bk, st', b2, h1, h2, h3, h4, h5, h6⟩, z, hz => by
    subst h6
    rcases List.mem_append.1 hz with hz | hz
    · rcases List.mem_append.1 hz with hz | hz
      · exact own_row h2 z (by rw [blkV_slice]; exact hz)
      · exact h3.row z hz
    · exact h5.row z hz
theorem Tree.row {w : World} {base : Nat} {v : Value} {f : Fo} {bs : List Nat} (h : Tree w base v f bs) : ∀ z, z ∈ bs → ∃ cs, Row w z 25 cs := fun z hz => by
  obtain ⟨st, b1, h1, h2, rfl, h4⟩ := h
  rcases List.mem_append.1 hz with hz | hz
  · exact own_row h1 z hz
  · exact h2.row z hz
theorem Down.up {w w' : World} (hb : Below w.heap.size w w') : ∀ {zs : List Int} {a b : Addr}, Down w a zs b → Down w' a zs b
  | [], _, _, h => h
  | _ :: _, _, _, ⟨g, o, l, c, e1, e2, e3, e4⟩ => ⟨g, o, l, c, (hb.cell (World.block_lt_of_cell? _ _ e1)).trans e1, e2, e3, Down.up hb e4⟩

end Go.Proofs.Ytdpiklnadhpjjaa
