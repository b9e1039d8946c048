/-
  Forests of nodes as plain data, and how one lies in memory: a node is three cells (Op, N, and the slice of its Kids).
  How a slice of ints lies in memory.
  Boxes of parameters: rows that the call makes at its beginning.
  A range over a function whose iterator keeps a list of its own in memory: the iterator's contract (SeqB) and the law of the loop (range_own).
  X: the blocks that the loop's body writes; all other cells are kept by a round.
  Small facts on numbers, endings and forests.
  The order in which a stack of nodes is gone through, as plain data.
  Eight flags, as a function and as cells; which functions a tree calls; the numbers that are set.
  Flags gathered over the nodes of a tree: which variables it has, which it binds.
-/
import Derived.Below
import Derived.Laws.Rows
import Derived.WalkKit
import Derived.Lib.Hide
import Derived.RangeFuncNested
import Derived.RangeFuncBound
import Derived.RangeFuncCalls
import Derived.RangeFuncLeaves
import Derived.Laws.AppendOwn
namespace Go.Proofs.YtpknegneogdmfaaGreat
open Go.RowKit
set_option maxRecDepth 100000

/-- A list of nodes: 'cons op n kids rest'. -/
inductive Fo where
  | nil
  | cons (op n : Int) (kids rest : Fo)

namespace Fo
def len : Fo → Nat
  | nil => 0
  | cons _ _ _ r => r.len + 1
def size : Fo → Nat
  | nil => 0
  | cons _ _ k r => k.size + r.size + 1
def drop : Fo → Nat → Fo
  | f, 0 => f
  | nil, _ + 1 => nil
  | cons _ _ _ r, i + 1 => r.drop i

theorem drop_zero (f : Fo) : f.drop 0 = f := by cases f <;> rfl
theorem drop_nil (i : Nat) : Fo.nil.drop i = .nil := by cases i <;> rfl
theorem drop_of_lt : ∀ (f : Fo) (i : Nat), i < f.len → ∃ op n k, f.drop i = .cons op n k (f.drop (i + 1)) ∧ k.size < f.size ∧ (f.drop (i + 1)).size + k.size + 1 = (f.drop i).size
  | nil, i, h => absurd h (by simp [len])
  | cons op n k r, 0, _ => ⟨op, n, k, by simp [drop, drop_zero], by simp only [size]; omega, by simp only [drop, drop_zero, size]; omega⟩
  | cons op n k r, i + 1, h => by
    obtain ⟨op', n', k', e1, e2, e3⟩ := drop_of_lt r i (by simp only [len] at h; omega)
    exact ⟨op', n', k', by simpa [drop] using e1, by simp only [size]; omega, by simpa [drop] using e3⟩
theorem drop_len : ∀ (f : Fo), f.drop f.len = .nil
  | nil => rfl
  | cons _ _ _ r => by simpa [len, drop] using drop_len r
theorem len_le_size : ∀ (f : Fo), f.len ≤ f.size
  | nil => Nat.le_refl _
  | cons _ _ _ r => by have := len_le_size r; simp only [len, size]; omega
end Fo

/-- Returned x, and nothing that lay is turned. -/
def Gives (v : Value) (w : World) (e : Ending) (w' : World) : Prop := e = .returned v ∧ Below w.heap.size w w'

def I64 (x : Int) : Prop := -9223372036854775808 ≤ x ∧ x ≤ 9223372036854775807

/-- The nodes of a list lie from the index i on in the slice at A, in blocks from L on and below B. -/
def Lies (w : World) (L B : Nat) : Option Addr → Nat → Fo → Prop
  | _, _, .nil => True
  | A, i, .cons op n k r =>
    (∃ b o A' c', A = some ⟨b, o, none⟩ ∧ L ≤ b ∧ b < B ∧ I64 op ∧ I64 n ∧ w.cell? ⟨b, o + i * 3, none⟩ = some (.int .i64 op) ∧ w.cell? ⟨b, o + i * 3 + 1, none⟩ = some (.int .i64 n) ∧
      w.cell? ⟨b, o + i * 3 + 2, none⟩ = some (.slice A' k.len c') ∧ k.len ≤ c' ∧ c' ≤ maxLen ∧ Lies w L B A' 0 k) ∧ Lies w L B A (i + 1) r

theorem Lies.keep {w w' : World} {L L' B B' : Nat} (hL : L' ≤ L) (hB : B ≤ B') (hk : ∀ p : Addr, L ≤ p.block → p.block < B → w'.cell? p = w.cell? p) : ∀ {f : Fo} {A : Option Addr} {i : Nat}, Lies w L B A i f → Lies w' L' B' A i f
  | .nil, _, _, _ => trivial
  | .cons _ _ _ _, _, _, ⟨⟨b, o, A', c', hA, hl, hb, h1, h2, h3, h4, h5, h6, h7, h8⟩, h⟩ =>
    ⟨⟨b, o, A', c', hA, by omega, by omega, h1, h2, (hk _ hl hb).trans h3, (hk _ hl hb).trans h4, (hk _ hl hb).trans h5, h6, h7, h8.keep hL hB hk⟩, h.keep hL hB hk⟩

theorem Lies.below {w w' : World} {L B : Nat} {f : Fo} {A : Option Addr} {i : Nat} (h : Lies w L B A i f) (hb : Below B w w') : Lies w' L B A i f := h.keep (Nat.le_refl _) (Nat.le_refl _) fun _ _ hp => hb.cell hp
theorem Lies.mono_ {w : World} {L L' B B' : Nat} {f : Fo} {A : Option Addr} {i : Nat} (h : Lies w L B A i f) (hL : L' ≤ L) (hB : B ≤ B') : Lies w L' B' A i f := h.keep hL hB fun _ _ _ => rfl
theorem Lies.set {w : World} {L B : Nat} {f : Fo} {A : Option Addr} {i : Nat} (h : Lies w L B A i f) {p : Addr} (hp : p.block < L ∨ B ≤ p.block) (v : Value) : Lies (w.setCell p v) L B A i f :=
  h.keep (Nat.le_refl _) (Nat.le_refl _) fun q h1 h2 => World.cell?_setCell_other w p q v (fun e => by subst e; omega)

theorem Lies.at_ {w : World} {L B : Nat} {A : Option Addr} : ∀ {f : Fo} {i : Nat} (j : Nat), Lies w L B A i f → Lies w L B A (i + j) (f.drop j)
  | f, i, 0, h => by simpa [Fo.drop_zero] using h
  | .nil, _, j + 1, _ => by simp [Fo.drop, Lies]
  | .cons _ _ _ r, i, j + 1, h => by
    have := Lies.at_ (f := r) (i := i + 1) j h.2
    simpa [Fo.drop, Nat.add_assoc, Nat.add_comm 1 j] using this

/-- The first j nodes. -/
def Fo.take : Fo → Nat → Fo
  | _, 0 => .nil
  | .nil, _ + 1 => .nil
  | .cons op n k r, i + 1 => .cons op n k (r.take i)
theorem Fo.take_zero (f : Fo) : f.take 0 = .nil := by cases f <;> rfl
theorem Fo.take_len : ∀ f : Fo, f.take f.len = f
  | .nil => rfl
  | .cons op n k r => by simp [Fo.len, Fo.take, Fo.take_len r]

/-- The j-th node, laid behind the first j, makes j + 1. -/
theorem Lies.snoc {w : World} {L B : Nat} {A : Option Addr} : ∀ {f : Fo} {i j : Nat} {op n : Int} {k r : Fo}, Lies w L B A i (f.take j) → f.drop j = .cons op n k r →
    Lies w L B A (i + j) (.cons op n k .nil) → Lies w L B A i (f.take (j + 1))
  | .nil, _, j, _, _, _, _, _, h, _ => by rw [Fo.drop_nil] at h; cases h
  | .cons op n k r, i, 0, _, _, _, _, _, h, h2 => by
    simp only [Fo.drop, Fo.cons.injEq] at h
    obtain ⟨rfl, rfl, rfl, rfl⟩ := h
    simpa [Fo.take, Fo.take_zero] using h2
  | .cons op n k r, i, j + 1, _, _, _, _, h0, h, h2 => by
    refine ⟨h0.1, Lies.snoc (f := r) (i := i + 1) (j := j) h0.2 h ?_⟩
    have e : i + 1 + j = i + (j + 1) := by omega
    rw [e]
    exact h2

/-- The same, where each list of nodes begins at the head of its block. -/
def LiesZ (w : World) (L B : Nat) : Option Addr → Nat → Fo → Prop
  | _, _, .nil => True
  | A, i, .cons op n k r =>
    (∃ b A' c', A = some ⟨b, 0, none⟩ ∧ L ≤ b ∧ b < B ∧ I64 op ∧ I64 n ∧ w.cell? ⟨b, i * 3, none⟩ = some (.int .i64 op) ∧ w.cell? ⟨b, i * 3 + 1, none⟩ = some (.int .i64 n) ∧
      w.cell? ⟨b, i * 3 + 2, none⟩ = some (.slice A' k.len c') ∧ k.len ≤ c' ∧ c' ≤ maxLen ∧ LiesZ w L B A' 0 k) ∧ LiesZ w L B A (i + 1) r
theorem LiesZ.keep {w w' : World} {L L' B B' : Nat} (hL : L' ≤ L) (hB : B ≤ B') (hk : ∀ p : Addr, L ≤ p.block → p.block < B → w'.cell? p = w.cell? p) : ∀ {f : Fo} {A : Option Addr} {i : Nat}, LiesZ w L B A i f → LiesZ w' L' B' A i f
  | .nil, _, _, _ => trivial
  | .cons _ _ _ _, _, _, ⟨⟨b, A', c', hA, hl, hb, h1, h2, h3, h4, h5, h6, h7, h8⟩, h⟩ =>
    ⟨⟨b, A', c', hA, by omega, by omega, h1, h2, (hk _ hl hb).trans h3, (hk _ hl hb).trans h4, (hk _ hl hb).trans h5, h6, h7, h8.keep hL hB hk⟩, h.keep hL hB hk⟩
theorem LiesZ.below {w w' : World} {L B : Nat} {f : Fo} {A : Option Addr} {i : Nat} (h : LiesZ w L B A i f) (hb : Below B w w') : LiesZ w' L B A i f := h.keep (Nat.le_refl _) (Nat.le_refl _) fun _ _ hp => hb.cell hp
theorem LiesZ.mono_ {w : World} {L L' B B' : Nat} {f : Fo} {A : Option Addr} {i : Nat} (h : LiesZ w L B A i f) (hL : L' ≤ L) (hB : B ≤ B') : LiesZ w L' B' A i f := h.keep hL hB fun _ _ _ => rfl
theorem LiesZ.set {w : World} {L B : Nat} {f : Fo} {A : Option Addr} {i : Nat} (h : LiesZ w L B A i f) {p : Addr} (hp : p.block < L ∨ B ≤ p.block) (v : Value) : LiesZ (w.setCell p v) L B A i f :=
  h.keep (Nat.le_refl _) (Nat.le_refl _) fun q h1 h2 => World.cell?_setCell_other w p q v (fun e => by subst e; omega)
theorem LiesZ.lies {w : World} {L B : Nat} : ∀ {f : Fo} {A : Option Addr} {i : Nat}, LiesZ w L B A i f → Lies w L B A i f
  | .nil, _, _, _ => trivial
  | .cons _ _ _ _, i, _, ⟨⟨b, A', c', hA, hl, hb, h1, h2, h3, h4, h5, h6, h7, h8⟩, h⟩ =>
    ⟨⟨b, 0, A', c', hA, hl, hb, h1, h2, by rw [Nat.zero_add]; exact h3, by rw [Nat.zero_add]; exact h4, by rw [Nat.zero_add]; exact h5, h6, h7, h8.lies⟩, h.lies⟩

/-- Row g of the heap holds just these cells, all of them writable. -/
def Row (w : World) (g : Nat) (t : TypeId) (cs : Array Value) : Prop := w.heap[g]? = some (.cells cs t (0, 0))

section
variable {w w' : World} {g : Nat} {t : TypeId} {cs : Array Value}
theorem Row.cell (h : Row w g t cs) {i : Nat} {v : Value} (hv : cs[i]? = some v) : w.cell? ⟨g, i, none⟩ = some v := (cell_of_row w g i cs t _ h).trans hv
theorem Row.free (h : Row w g t cs) (i : Nat) : w.frozen? ⟨g, i, none⟩ = false := by
  unfold Row at h
  simp [World.frozen?, h]
theorem Row.size (h : Row w g t cs) : g < w.heap.size := by
  unfold Row at h
  exact Classical.byContradiction fun hn => by rw [Array.getElem?_eq_none (by omega)] at h; exact absurd h (by simp)
theorem Row.fresh (w : World) (t : TypeId) (cs : Array Value) : Row (w.alloc (.cells cs t)) w.heap.size t cs := heap_alloc_new w _
theorem Row.alloc (h : Row w g t cs) (o : Obj) : Row (w.alloc o) g t cs := (Below.heap_alloc w o g h.size).trans h
theorem Row.below {B : Nat} (h : Row w g t cs) (hb : Below B w w') (hg : g < B) : Row w' g t cs := (hb.block g hg).trans h
theorem Row.put (h : Row w g t cs) (i : Nat) (v : Value) : Row (w.setCell ⟨g, i, none⟩ v) g t (cs.setIfInBounds i v) := by
  unfold Row at h ⊢
  simp [World.setCell, Array.getElem?_modify, h]
theorem Row.apart (h : Row w g t cs) {p : Addr} (hp : g ≠ p.block) (v : Value) : Row (w.setCell p v) g t cs := (Below.heap_setCell w p v g hp).trans h
theorem Row.drew (h : Row w g t cs) : Row w.drew g t cs := h
end

/-- The nodes of a list stand in the cells of a row from the index i on; their Kids lie in blocks from L on and below B. -/
def LiesC (w : World) (L B : Nat) (cs : Array Value) : Nat → Fo → Prop
  | _, .nil => True
  | i, .cons op n k r =>
    (∃ A' c', I64 op ∧ I64 n ∧ cs[i * 3]? = some (.int .i64 op) ∧ cs[i * 3 + 1]? = some (.int .i64 n) ∧ cs[i * 3 + 2]? = some (.slice A' k.len c') ∧ k.len ≤ c' ∧ c' ≤ maxLen ∧ LiesZ w L B A' 0 k) ∧ LiesC w L B cs (i + 1) r

theorem LiesC.keep {w w' : World} {L L' B B' : Nat} {cs cs' : Array Value} (hL : L' ≤ L) (hB : B ≤ B') (hk : ∀ p : Addr, L ≤ p.block → p.block < B → w'.cell? p = w.cell? p) : ∀ {f : Fo} {i : Nat},
    (∀ x, x < (i + f.len) * 3 → cs'[x]? = cs[x]?) → LiesC w L B cs i f → LiesC w' L' B' cs' i f
  | .nil, _, _, _ => trivial
  | .cons op n k r, i, hx, ⟨⟨A', c', h1, h2, h3, h4, h5, h6, h7, h8⟩, h⟩ => by
    simp only [Fo.len] at hx
    exact ⟨⟨A', c', h1, h2, (hx _ (by omega)).trans h3, (hx _ (by omega)).trans h4, (hx _ (by omega)).trans h5, h6, h7, h8.keep hL hB hk⟩, h.keep hL hB hk (fun x h' => hx x (by omega))⟩

theorem LiesC.snoc {w : World} {L B : Nat} {cs : Array Value} : ∀ {f : Fo} {i j : Nat} {op n : Int} {k r : Fo}, LiesC w L B cs i (f.take j) → f.drop j = .cons op n k r →
    LiesC w L B cs (i + j) (.cons op n k .nil) → LiesC w L B cs i (f.take (j + 1))
  | .nil, _, j, _, _, _, _, _, h, _ => by rw [Fo.drop_nil] at h; cases h
  | .cons op n k r, i, 0, _, _, _, _, _, h, h2 => by
    simp only [Fo.drop, Fo.cons.injEq] at h
    obtain ⟨rfl, rfl, rfl, rfl⟩ := h
    simpa [Fo.take, Fo.take_zero] using h2
  | .cons op n k r, i, j + 1, _, _, _, _, h0, h, h2 => by
    refine ⟨h0.1, LiesC.snoc (f := r) (i := i + 1) (j := j) h0.2 h ?_⟩
    have e : i + 1 + j = i + (j + 1) := by omega
    rw [e]
    exact h2

theorem Fo.len_take : ∀ (f : Fo) (j : Nat), j ≤ f.len → (f.take j).len = j
  | f, 0, _ => by simp [Fo.take_zero, Fo.len]
  | .nil, j + 1, h => by simp [Fo.len] at h
  | .cons _ _ _ r, j + 1, h => by simp only [Fo.take, Fo.len] at h ⊢; rw [Fo.len_take r j (by omega)]

theorem LiesC.lies {w : World} {L B g : Nat} {t : TypeId} {cs : Array Value} (hr : Row w g t cs) (hL : g < L) (hB : g < B) : ∀ {f : Fo} {i : Nat}, LiesC w L B cs i f → LiesZ w g B (some ⟨g, 0, none⟩) i f
  | .nil, _, _ => trivial
  | .cons _ _ _ _, i, ⟨⟨A', c', h1, h2, h3, h4, h5, h6, h7, h8⟩, h⟩ =>
    ⟨⟨g, A', c', rfl, Nat.le_refl _, hB, h1, h2, hr.cell h3, hr.cell h4, hr.cell h5, h6, h7, h8.mono_ (by omega) (Nat.le_refl _)⟩, h.lies hr hL hB⟩

/-- The three cells of node j are written into a row. -/
theorem LiesC.step {w : World} {g j c2 : Nat} {t : TypeId} {cs : Array Value} {f k : Fo} {op n : Int} {A2 : Option Addr} (hrow : Row w g t cs) (hcs : cs.size = f.len * 3) (hlt : j < f.len)
    (hlc : LiesC w (g + 1) w.heap.size cs 0 (f.take j)) (e1 : f.drop j = .cons op n k (f.drop (j + 1))) (i1 : I64 op) (i2 : I64 n) (hc1 : k.len ≤ c2) (hc2 : c2 ≤ maxLen) (hR : LiesZ w (g + 1) w.heap.size A2 0 k) :
    ∃ cs', Row (((w.setCell ⟨g, j * 3, none⟩ (.int .i64 op)).setCell ⟨g, j * 3 + 1, none⟩ (.int .i64 n)).setCell ⟨g, j * 3 + 2, none⟩ (.slice A2 k.len c2)) g t cs' ∧ cs'.size = f.len * 3 ∧
      LiesC (((w.setCell ⟨g, j * 3, none⟩ (.int .i64 op)).setCell ⟨g, j * 3 + 1, none⟩ (.int .i64 n)).setCell ⟨g, j * 3 + 2, none⟩ (.slice A2 k.len c2)) (g + 1)
        (((w.setCell ⟨g, j * 3, none⟩ (.int .i64 op)).setCell ⟨g, j * 3 + 1, none⟩ (.int .i64 n)).setCell ⟨g, j * 3 + 2, none⟩ (.slice A2 k.len c2)).heap.size cs' 0 (f.take (j + 1)) := by
  refine ⟨_, ((hrow.put _ _).put _ _).put _ _, by simp [hcs], ?_⟩
  have hs : (((w.setCell ⟨g, j * 3, none⟩ (.int .i64 op)).setCell ⟨g, j * 3 + 1, none⟩ (.int .i64 n)).setCell ⟨g, j * 3 + 2, none⟩ (.slice A2 k.len c2)).heap.size = w.heap.size := by simp [World.setCell]
  have hk : ∀ p : Addr, g + 1 ≤ p.block → p.block < w.heap.size → (((w.setCell ⟨g, j * 3, none⟩ (.int .i64 op)).setCell ⟨g, j * 3 + 1, none⟩ (.int .i64 n)).setCell ⟨g, j * 3 + 2, none⟩ (.slice A2 k.len c2)).cell? p = w.cell? p := by
    intro p h1 _
    rw [World.cell?_setCell_other _ _ _ _ (fun e => by subst e; exact absurd h1 (Nat.not_succ_le_self _)), World.cell?_setCell_other _ _ _ _ (fun e => by subst e; exact absurd h1 (Nat.not_succ_le_self _)), World.cell?_setCell_other _ _ _ _ (fun e => by subst e; exact absurd h1 (Nat.not_succ_le_self _))]
  rw [hs]
  refine LiesC.snoc (hlc.keep (Nat.le_refl _) (Nat.le_refl _) hk ?_) e1 ⟨⟨A2, c2, i1, i2, ?_, ?_, ?_, hc1, hc2, hR.keep (Nat.le_refl _) (Nat.le_refl _) hk⟩, trivial⟩
  · intro x hx
    rw [Fo.len_take f j (by omega)] at hx
    rw [Array.getElem?_setIfInBounds_ne (by omega), Array.getElem?_setIfInBounds_ne (by omega), Array.getElem?_setIfInBounds_ne (by omega)]
  · rw [Nat.zero_add, Array.getElem?_setIfInBounds_ne (by omega), Array.getElem?_setIfInBounds_ne (by omega), Array.getElem?_setIfInBounds_self_of_lt (by omega)]
  · rw [Nat.zero_add, Array.getElem?_setIfInBounds_ne (by omega), Array.getElem?_setIfInBounds_self_of_lt (by simp; omega)]
  · rw [Nat.zero_add, Array.getElem?_setIfInBounds_self_of_lt (by simp; omega)]

/-- All blocks from L on and below B are plain rows. -/
def AllRows (w : World) (L B : Nat) : Prop := ∀ g, L ≤ g → g < B → ∃ t cs, Row w g t cs
theorem AllRows.none (w : World) (L : Nat) : AllRows w L L := fun g h1 h2 => absurd h1 (by omega)
theorem AllRows.below {w w' : World} {L B C : Nat} (h : AllRows w L B) (hb : Below C w w') (hC : B ≤ C) : AllRows w' L B := fun g h1 h2 =>
  let ⟨t, cs, hr⟩ := h g h1 h2; ⟨t, cs, hr.below hb (by omega)⟩
theorem AllRows.set {w : World} {L B : Nat} (h : AllRows w L B) (p : Addr) (v : Value) : AllRows (w.setCell p v) L B := fun g h1 h2 => by
  obtain ⟨t, cs, hr⟩ := h g h1 h2
  by_cases hg : g = p.block
  · subst hg
    unfold Row at hr
    refine ⟨t, (if p.spot.isSome then cs else cs.setIfInBounds p.off v), ?_⟩
    unfold Row
    simp [World.setCell, Array.getElem?_modify, hr]
  · exact ⟨t, cs, hr.apart hg v⟩
theorem AllRows.alloc {w : World} {L : Nat} (h : AllRows w L w.heap.size) (cs : Array Value) (t : TypeId) : AllRows (w.alloc (.cells cs t)) L (w.alloc (.cells cs t)).heap.size := fun g h1 h2 => by
  rw [World.size_alloc] at h2
  by_cases hg : g = w.heap.size
  · subst hg; exact ⟨t, cs, Row.fresh _ _ _⟩
  · obtain ⟨t', cs', hr⟩ := h g h1 (by omega)
    exact ⟨t', cs', hr.alloc _⟩
theorem AllRows.join {w : World} {L M B : Nat} (h : AllRows w L M) (k : AllRows w M B) : AllRows w L B := fun g h1 h2 => by
  by_cases hg : g < M
  · exact h g h1 hg
  · exact k g (by omega) h2
theorem AllRows.mono_ {w : World} {L L' B B' : Nat} (h : AllRows w L B) (hL : L ≤ L') (hB : B' ≤ B) : AllRows w L' B' := fun g h1 h2 => h g (by omega) (by omega)
end Go.Proofs.YtpknegneogdmfaaGreat

namespace Go.Proofs.YtpknegneogdmfaaGreat
open Go.RowKit
set_option maxRecDepth 100000

/-- The numbers zs lie in the slice at A, in a block from L on and below B. -/
def LiesI (w : World) (L B : Nat) (A : Option Addr) (zs : List Int) : Prop :=
  ∀ i x, zs[i]? = some x → ∃ b o, A = some ⟨b, o, none⟩ ∧ L ≤ b ∧ b < B ∧ I64 x ∧ w.cell? ⟨b, o + i, none⟩ = some (.int .i64 x)

theorem LiesI.keep {w w' : World} {L L' B B' : Nat} {A : Option Addr} {zs : List Int} (hL : L' ≤ L) (hB : B ≤ B') (hk : ∀ p : Addr, L ≤ p.block → p.block < B → w'.cell? p = w.cell? p) (h : LiesI w L B A zs) : LiesI w' L' B' A zs := by
  intro i x hx
  obtain ⟨b, o, h1, h2, h3, h4, h5⟩ := h i x hx
  exact ⟨b, o, h1, by omega, by omega, h4, (hk _ h2 h3).trans h5⟩
theorem LiesI.below {w w' : World} {L B : Nat} {A : Option Addr} {zs : List Int} (h : LiesI w L B A zs) (hb : Below B w w') : LiesI w' L B A zs := h.keep (Nat.le_refl _) (Nat.le_refl _) fun _ _ hp => hb.cell hp
theorem LiesI.mono_ {w : World} {L L' B B' : Nat} {A : Option Addr} {zs : List Int} (h : LiesI w L B A zs) (hL : L' ≤ L) (hB : B ≤ B') : LiesI w L' B' A zs := h.keep hL hB fun _ _ _ => rfl
theorem LiesI.up {w w' : World} {A : Option Addr} {zs : List Int} (h : LiesI w 0 w.heap.size A zs) (hb : Below w.heap.size w w') : LiesI w' 0 w'.heap.size A zs := (h.below hb).mono_ (Nat.le_refl _) hb.size
theorem LiesI.set {w : World} {L B : Nat} {zs : List Int} {A : Option Addr} (h : LiesI w L B A zs) {p : Addr} (hp : p.block < L ∨ B ≤ p.block) (v : Value) : LiesI (w.setCell p v) L B A zs :=
  h.keep (Nat.le_refl _) (Nat.le_refl _) fun q h1 h2 => World.cell?_setCell_other w p q v (fun e => by subst e; omega)
end Go.Proofs.YtpknegneogdmfaaGreat

namespace Go.Proofs.YtpknegneogdmfaaGreat
open Go.RowKit
set_option maxRecDepth 100000

theorem one_box (w : World) (t : TypeId) (cs : Array Value) : Below w.heap.size w (w.alloc (.cells cs t)) ∧ Row (w.alloc (.cells cs t)) w.heap.size t cs :=
  ⟨(Below.refl _ _).alloc (Nat.le_refl _) _, Row.fresh w _ _⟩
/-- Two boxes behind each other. -/
theorem two_boxes (w : World) (t t' : TypeId) (cs ds : Array Value) : Below w.heap.size w ((w.alloc (.cells cs t)).alloc (.cells ds t')) ∧ Row ((w.alloc (.cells cs t)).alloc (.cells ds t')) w.heap.size t cs ∧ Row ((w.alloc (.cells cs t)).alloc (.cells ds t')) (w.heap.size + 1) t' ds := by
  refine ⟨((Below.refl _ _).alloc (Nat.le_refl _) _).alloc (by simp) _, (Row.fresh w _ _).alloc _, ?_⟩
  have := Row.fresh (w.alloc (.cells cs t)) t' ds
  rw [World.size_alloc] at this
  exact this
end Go.Proofs.YtpknegneogdmfaaGreat

namespace Go.Proofs.YtpknegneogdmfaaGreat
open Go.RowKit
set_option maxRecDepth 100000

/-- All cells outside the blocks X are kept. -/
def KC (X : Nat → Prop) (W W' : World) : Prop :=
  W.heap.size ≤ W'.heap.size ∧ ∀ (k : Nat) (c : Array Value) (t : TypeId) (z : Nat × Nat), ¬ X k → W.heap[k]? = some (.cells c t z) → W'.heap[k]? = some (.cells c t z)

section
variable {X : Nat → Prop} {W W' W2 : World}
theorem KC.refl (X : Nat → Prop) (W : World) : KC X W W := ⟨Nat.le_refl _, fun _ _ _ _ _ h => h⟩
theorem KC.trans (h : KC X W W') (k : KC X W' W2) : KC X W W2 := ⟨Nat.le_trans h.1 k.1, fun i c t z hx hi => k.2 i c t z hx (h.2 i c t z hx hi)⟩
theorem KC.of_below (h : Below W.heap.size W W') : KC X W W' :=
  ⟨h.size, fun k _ _ _ _ hk => (h.block k (Array.getElem?_eq_some_iff.1 hk).1).trans hk⟩
theorem KC.of_below' {B : Nat} (h : Below B W W') (hB : W.heap.size ≤ B) : KC X W W' := .of_below (h.mono hB)
theorem KC.set (h : KC X W W') {p : Addr} (hp : X p.block) (v : Value) : KC X W (W'.setCell p v) := by
  refine ⟨by simpa [World.setCell] using h.1, fun k c t z hx hk => ?_⟩
  exact (Below.heap_setCell W' p v k (fun e => hx (e ▸ hp))).trans (h.2 k c t z hx hk)
theorem KC.alloc (h : KC X W W') (o : Obj) : KC X W (W'.alloc o) :=
  h.trans (.of_below ((Below.refl _ _).alloc (Nat.le_refl _) o))
theorem KC.put {l : Nat} {o : Obj} (o' : Obj) (hl : W.heap[l]? = some o) (ho : o.isCells = false) : KC X W (W.putObj l o') := by
  refine ⟨(grownBy_putObj' W l o').size, fun k c t z _ hk => ?_⟩
  have hne : l ≠ k := fun e => by subst e; rw [hl] at hk; cases hk; simp [Obj.isCells] at ho
  exact (World.putObj_heap_other (Ne.symm hne)).trans hk
theorem KC.row {g : Nat} {t : TypeId} {cs : Array Value} (h : KC X W W') (hr : Row W g t cs) (hx : ¬ X g) : Row W' g t cs := h.2 g _ _ _ hx hr
theorem KC.cell (h : KC X W W') {p : Addr} {v : Value} (hx : ¬ X p.block) (hc : W.cell? p = some v) : W'.cell? p = some v := by
  have hs : ∃ c t z, W.heap[p.block]? = some (.cells c t z) := by
    unfold World.cell? at hc
    cases ho : W.heap[p.block]? with
    | none => simp [ho] at hc
    | some o => cases o <;> simp_all
  obtain ⟨c, t, z, hk⟩ := hs
  exact (World.cell?_of_block (w := W) ((h.2 _ c t z hx hk).trans hk.symm)).trans hc
theorem Lies.kc {L B : Nat} (h : KC X W W') (hx : ∀ k, L ≤ k → k < B → ¬ X k) : ∀ {f : Fo} {A : Option Addr} {i : Nat}, Lies W L B A i f → Lies W' L B A i f
  | .nil, _, _, _ => trivial
  | .cons _ _ _ _, _, _, ⟨⟨b, o, A', c', hA, hl, hb, h1, h2, h3, h4, h5, h6, h7, h8⟩, hr⟩ =>
    ⟨⟨b, o, A', c', hA, hl, hb, h1, h2, h.cell (hx _ hl hb) h3, h.cell (hx _ hl hb) h4, h.cell (hx _ hl hb) h5, h6, h7, Lies.kc h hx h8⟩, Lies.kc h hx hr⟩
end

theorem KeepsFrom.of_below {B C : Nat} {W W' : World} (h : Below C W W') (hC : W.heap.size ≤ C) : KeepsFrom B W W' :=
  ⟨h.size, fun k _ _ hk _ => (h.block k (Nat.lt_of_lt_of_le (Array.getElem?_eq_some_iff.1 hk).1 hC)).trans hk⟩
theorem KeepsFrom.set {B : Nat} {W W' : World} (h : KeepsFrom B W W') (p : Addr) (v : Value) : KeepsFrom B W (W'.setCell p v) := h.trans ((KeepsOthers.setCell _ _ _).from _)
theorem KeepsFrom.alloc {B : Nat} {W W' : World} (h : KeepsFrom B W W') (o : Obj) : KeepsFrom B W (W'.alloc o) := h.trans ((KeepsOthers.alloc _ _).from _)

/-- What abides whatever leaves the blocks below B alone. -/
def Stays {β : Type} (B : Nat) (J : β → World → Prop) : Prop := ∀ s V V', J s V → Below B V V' → J s V'

/-- The iterator's contract: 'encs x' is what yield is called with; X: what a round may write. -/
def SeqB {α : Type} (F : Fence) (n : Nat) (P : Program) (g : Nat) (lb : Array Value) (encs : α → Array Value) (X : Nat → Prop) (S Sp : List α → Prop) (N : Nat) (w : World) : Prop :=
  ∀ (l : Nat) (J Jx : List α → World → Prop) (W : World), Below w.heap.size w W → Stays W.heap.size J → Stays W.heap.size Jx →
    (∀ pre x V, J pre V → pre.length < N → Sp (pre ++ [x]) → YieldAt F (n - 1) P l (encs x) V fun e V' => (e = .returned (.bool true) ∧ J (pre ++ [x]) V' ∧ KC X V V') ∨ (e = .returned (.bool false) ∧ Jx (pre ++ [x]) V')) →
    J [] W →
    CallsIn F n P g (#[.func (.yield l) #[] #[]] ++ lb) W fun e W' => (∃ v, e = .returned v) ∧ ((∃ xs, S xs ∧ J xs W') ∨ (∃ pre, Sp pre ∧ Jx pre W'))

/-- How the body of a round may be left. -/
def leftBy {α : Type} (X : Nat → Prop) (B : Nat) (I : List α → World → Prop) (Ix : Code → List α → World → Prop) (xs : List α) (W : World) : Exit → Act → World → Prop
  | .normal, _, W' => KeepsFrom B W W' ∧ KC X W W' ∧ I xs W'
  | .ret, _, W' => KeepsFrom B W W' ∧ Ix .ret xs W'
  | .exit id, _, W' => KeepsFrom B W W' ∧ Ix (.exit id) xs W'
  | .goto t, _, W' => KeepsFrom B W W' ∧ Ix (.goto t) xs W'
  | .panic _, _, _ => False
  | .outgrown, _, _ => False

theorem below_put {B : Nat} {W : World} {l : Nat} {o : Obj} (o' : Obj) (hl : W.heap[l]? = some o) (hB : B ≤ l) : Below B W (W.putObj l o') :=
  (Below.refl B W).grown (grownBy_putObj' W l o') (by have := (Array.getElem?_eq_some_iff.1 hl).1; omega) (fun k e => by cases e; exact hB)

variable {F : Fence} {n : Nat} {P : Program}

/-- The loop, whose rounds know that what they have met is a part of the whole: its invariant I speaks of blocks below the loop's own; Ax: what the assignment to the loop's variables lays. -/
theorem range_ownP {α : Type} {g : Operand} {ps : Array Tmp} {assign body : Code} {Q : Exit → Act → World → Prop} {a : Act} {w : World}
    (hro : F.round = none) (h1 : 1 ≤ n) {gf : Nat} {lb : Array Value} (hg : a.eval g = .func (.func gf) #[] lb) (hFg : F.fn gf) (eg : ∀ args w, (callFunc gf args).run P w = .ok (.enter gf args) w)
    {encs : α → Array Value} {X : Nat → Prop} {S Sp : List α → Prop} {N : Nat} {w0 : World} (hseq : SeqB F (n - 1) P gf lb encs X S Sp N w0)
    (hb0 : Below w0.heap.size w0 w) (hps : ∀ x, (encs x).size = ps.size)
    (I : List α → World → Prop) (Ix : Code → List α → World → Prop) (hI : Stays w.heap.size I) (hIx : ∀ c, Stays w.heap.size (Ix c)) (h0 : I [] w)
    (Ax : α → Act → World → Prop) (hAx : ∀ x a' V V', Ax x a' V → KC X V V' → Ax x a' V')
    (hassign : ∀ (l : Nat) (pre : List α) (x : α) (W : World) (K : Act → World → Prop), w.heap.size + 1 < W.heap.size → I pre W → (∀ a' W', Below W.heap.size W W' → Ax x a' W' → K a' W') →
      assign.wpIn (F.inRound l) (n - 1 - 1) P (Exit.then K (fun _ _ _ => False)) { tmps := (ps.zip (encs x)).foldl (fun t (p, v) => t.setIfInBounds p v) a.tmps, defers := [] } W)
    (hbody : ∀ (l : Nat) (pre : List α) (x : α) (a' : Act) (W : World), w.heap.size + 1 < W.heap.size → I pre W → Ax x a' W → pre.length < N → Sp (pre ++ [x]) → body.wpIn (F.inRound l) (n - 1 - 1) P (leftBy X w.heap.size I Ix (pre ++ [x]) W) a' W)
    (hdone : ∀ (D : Nat) (xs : List α) (W : World), w.heap.size ≤ D → S xs → I xs W → W.heap[D]? = some (.deferred (some [])) → Q .normal { a with defers := { target := .collected D, args := #[] } :: a.defers } W)
    (hstop : ∀ (D : Nat) (c : Code) (pre : List α) (W : World), w.heap.size ≤ D → Sp pre → Ix c pre W → W.heap[D]? = some (.deferred (some [])) → c.wpIn F n P Q { a with defers := { target := .collected D, args := #[] } :: a.defers } W) :
    (Code.rangeFunc g ps assign body).wpIn F n P Q a w := by
  refine wpIn_rangeFunc fun fn hfn => ?_
  rw [hro]
  obtain ⟨rec, hrec⟩ : ∃ rec : LoopState → Option Code → Loop, rec = fun st pe => { state := st, pending := pe, fn, tmps := a.tmps, params := ps, assign, body, defers := w.heap.size } := ⟨_, rfl⟩
  obtain ⟨V, hV⟩ : ∃ V, V = (w.alloc (.deferred (some []))).alloc (.loop (rec .ready none)) := ⟨_, rfl⟩
  have hsz : V.heap.size = w.heap.size + 1 + 1 := by rw [hV]; simp
  have hbV : Below w.heap.size w V := by rw [hV]; exact ((Below.refl _ w).alloc (Nat.le_refl _) _).alloc (by simp) _
  have hL : V.heap[w.heap.size + 1]? = some (.loop (rec .ready none)) := by
    have := World.alloc_heap_new (w.alloc (.deferred (some []))) (.loop (rec .ready none))
    rw [World.size_alloc] at this
    rw [hV]
    exact this
  have hD : V.heap[w.heap.size]? = some (.deferred (some [])) := by
    rw [hV]
    exact (Below.heap_alloc _ _ _ (by simp)).trans (World.alloc_heap_new w _)
  refine ⟨w.heap.size + 1, [{ target := .collected w.heap.size, args := #[] }], V, { target := .fn (.func gf) lb, args := #[.func (.yield (w.heap.size + 1)) #[] #[]] }, V, gf,
    #[.func (.yield (w.heap.size + 1)) #[] #[]] ++ lb, V, ?_, ?_, ?_, ?_, fun _ => h1, ?_⟩
  · rw [hV, hrec]; exact run_enterLoop_outer _ _ _ _ _
  · simp only [resolve, hg]
    simp [go_sem]
  · intro f' hf'
    simp [Target.leads] at hf'
    subst hf'
    exact hFg
  · simp [invoke, go_sem, eg]
  refine (hseq (w.heap.size + 1)
    (fun pre W => I pre W ∧ W.heap[w.heap.size + 1]? = some (.loop (rec .ready none)) ∧ W.heap[w.heap.size]? = some (.deferred (some [])))
    (fun pre W => ∃ c, Ix c pre W ∧ W.heap[w.heap.size + 1]? = some (.loop (rec .done (some c))) ∧ W.heap[w.heap.size]? = some (.deferred (some [])))
    V (hb0.trans (hbV.mono hb0.size)) ?_ ?_ ?_ ⟨hI _ _ _ h0 hbV, hL, hD⟩).mono ?_
  · rintro s A B ⟨x1, x2, x3⟩ hb
    exact ⟨hI s A B x1 (hb.mono (by omega)), (hb.block _ (by omega)).trans x2, (hb.block _ (by omega)).trans x3⟩
  · rintro s A B ⟨c, x1, x2, x3⟩ hb
    exact ⟨c, hIx c s A B x1 (hb.mono (by omega)), (hb.block _ (by omega)).trans x2, (hb.block _ (by omega)).trans x3⟩
  · -- a round
    rintro pre x W ⟨hi, hl, hk⟩ hlen hsp
    have hlt : w.heap.size + 1 < W.heap.size := (Array.getElem?_eq_some_iff.1 hl).1
    have hy := run_yield (P := P) (args := encs x) hl (by rw [hrec]; exact hps x)
    rw [hrec] at hy
    refine ⟨fn, _, assign, body, hy, roundIn_of_wpIn hfn (hassign _ pre x W _ hlt hi ?_)⟩
    clear hy
    intro a' Wa hba hax
    have hla := (hba.block _ hlt).trans hl
    have hka := (hba.block w.heap.size (by omega)).trans hk
    have hia := hI _ _ _ hi (hba.mono (by omega))
    have hlta : w.heap.size + 1 < Wa.heap.size := Nat.lt_of_lt_of_le hlt hba.size
    refine ⟨_, run_beginRound hla (by rw [hrec]), ?_⟩
    obtain ⟨Wb, hWb⟩ : ∃ Wb, Wb = Wa.putObj (w.heap.size + 1) (.loop { rec .ready none with state := .busy }) := ⟨_, rfl⟩
    rw [← hWb]
    have hlb : Wb.heap[w.heap.size + 1]? = some (.loop { rec .ready none with state := .busy }) := by rw [hWb]; exact World.putObj_heap_same hlta
    have hkb : Wb.heap[w.heap.size]? = some (.deferred (some [])) := by rw [hWb]; exact (World.putObj_heap_other (by omega)).trans hka
    have hib : I pre Wb := by rw [hWb]; exact hI _ _ _ hia (below_put _ hla (by omega))
    have hcb : KC X W Wb := by rw [hWb]; exact (KC.of_below hba).trans (KC.put _ hla rfl)
    have hab : Ax x a' Wb := by rw [hWb]; exact hAx _ _ _ _ hax (KC.put _ hla rfl)
    have hltb : w.heap.size + 1 < Wb.heap.size := (Array.getElem?_eq_some_iff.1 hlb).1
    refine wpIn_mono (hbody _ pre x a' Wb hltb hib hab hlen hsp) ?_
    have fin : ∀ (jump : Option Code) (W3 : World), KeepsFrom w.heap.size Wb W3 → ∃ W4, W4 = W3.putObj (w.heap.size + 1) (.loop (rec (if jump.isNone then .ready else .done) jump)) ∧
        (Instr.endRound (w.heap.size + 1) jump).run P W3 = .ok (.bool jump.isNone) W4 ∧ Below w.heap.size W3 W4 ∧ KC X W3 W4 ∧
        W4.heap[w.heap.size + 1]? = some (.loop (rec (if jump.isNone then .ready else .done) jump)) ∧ W4.heap[w.heap.size]? = some (.deferred (some [])) := by
      intro jump W3 hk3
      have hl3 := hk3.same _ _ (by omega) hlb rfl
      have hd3 := hk3.same _ _ (Nat.le_refl _) hkb rfl
      have hr := run_endRound (P := P) jump hl3
      refine ⟨_, rfl, ?_, below_put _ hl3 (by omega), KC.put _ hl3 rfl, World.putObj_heap_same (Array.getElem?_eq_some_iff.1 hl3).1, (World.putObj_heap_other (by omega)).trans hd3⟩
      rw [hr, hrec]
    rintro e a3 W3 hp
    cases e with
    | normal =>
      obtain ⟨hk3, hc3, hi3⟩ := hp
      obtain ⟨W4, _, hr, hb4, hc4, hl4, hd4⟩ := fin none W3 hk3
      exact ⟨_, _, hr, .inl ⟨rfl, ⟨hI _ _ _ hi3 hb4, hl4, hd4⟩, hcb.trans (hc3.trans hc4)⟩⟩
    | ret =>
      obtain ⟨hk3, hi3⟩ := hp
      obtain ⟨W4, _, hr, hb4, _, hl4, hd4⟩ := fin (some .ret) W3 hk3
      exact ⟨_, _, hr, .inr ⟨rfl, .ret, hIx _ _ _ _ hi3 hb4, hl4, hd4⟩⟩
    | exit id =>
      obtain ⟨hk3, hi3⟩ := hp
      obtain ⟨W4, _, hr, hb4, _, hl4, hd4⟩ := fin (some (.exit id)) W3 hk3
      exact ⟨_, _, hr, .inr ⟨rfl, .exit id, hIx _ _ _ _ hi3 hb4, hl4, hd4⟩⟩
    | goto t =>
      obtain ⟨hk3, hi3⟩ := hp
      obtain ⟨W4, _, hr, hb4, _, hl4, hd4⟩ := fin (some (.goto t)) W3 hk3
      exact ⟨_, _, hr, .inr ⟨rfl, .goto t, hIx _ _ _ _ hi3 hb4, hl4, hd4⟩⟩
    | panic ch => exact hp.elim
    | outgrown => exact hp.elim
  · -- behind the iterator
    rintro e W2 ⟨⟨v, rfl⟩, (⟨xs, hS, hi, hl, hk⟩ | ⟨pre, hSp, c, hi, hl, hk⟩)⟩
    · have hr := run_endLoop (P := P) hl (by rw [hrec]; simp)
      rw [hrec] at hr
      exact ⟨none, _, hr, hdone _ xs _ (Nat.le_refl _) hS (hI _ _ _ hi (below_put _ hl (by omega))) ((World.putObj_heap_other (by omega)).trans hk)⟩
    · have hr := run_endLoop (P := P) hl (by rw [hrec]; simp)
      rw [hrec] at hr
      exact ⟨some c, _, hr, hstop _ c pre _ (Nat.le_refl _) hSp (hIx c _ _ _ hi (below_put _ hl (by omega))) ((World.putObj_heap_other (by omega)).trans hk)⟩

/-- The loop: its invariant I speaks of blocks below the loop's own; Ax: what the assignment to the loop's variables lays. -/
theorem range_own {α : Type} {g : Operand} {ps : Array Tmp} {assign body : Code} {Q : Exit → Act → World → Prop} {a : Act} {w : World}
    (hro : F.round = none) (h1 : 1 ≤ n) {gf : Nat} {lb : Array Value} (hg : a.eval g = .func (.func gf) #[] lb) (hFg : F.fn gf) (eg : ∀ args w, (callFunc gf args).run P w = .ok (.enter gf args) w)
    {encs : α → Array Value} {X : Nat → Prop} {S Sp : List α → Prop} {N : Nat} {w0 : World} (hseq : SeqB F (n - 1) P gf lb encs X S Sp N w0)
    (hb0 : Below w0.heap.size w0 w) (hps : ∀ x, (encs x).size = ps.size)
    (I : List α → World → Prop) (Ix : Code → List α → World → Prop) (hI : Stays w.heap.size I) (hIx : ∀ c, Stays w.heap.size (Ix c)) (h0 : I [] w)
    (Ax : α → Act → World → Prop) (hAx : ∀ x a' V V', Ax x a' V → KC X V V' → Ax x a' V')
    (hassign : ∀ (l : Nat) (pre : List α) (x : α) (W : World) (K : Act → World → Prop), w.heap.size + 1 < W.heap.size → I pre W → (∀ a' W', Below W.heap.size W W' → Ax x a' W' → K a' W') →
      assign.wpIn (F.inRound l) (n - 1 - 1) P (Exit.then K (fun _ _ _ => False)) { tmps := (ps.zip (encs x)).foldl (fun t (p, v) => t.setIfInBounds p v) a.tmps, defers := [] } W)
    (hbody : ∀ (l : Nat) (pre : List α) (x : α) (a' : Act) (W : World), w.heap.size + 1 < W.heap.size → I pre W → Ax x a' W → pre.length < N → body.wpIn (F.inRound l) (n - 1 - 1) P (leftBy X w.heap.size I Ix (pre ++ [x]) W) a' W)
    (hdone : ∀ (D : Nat) (xs : List α) (W : World), w.heap.size ≤ D → S xs → I xs W → W.heap[D]? = some (.deferred (some [])) → Q .normal { a with defers := { target := .collected D, args := #[] } :: a.defers } W)
    (hstop : ∀ (D : Nat) (c : Code) (pre : List α) (W : World), w.heap.size ≤ D → Sp pre → Ix c pre W → W.heap[D]? = some (.deferred (some [])) → c.wpIn F n P Q { a with defers := { target := .collected D, args := #[] } :: a.defers } W) :
    (Code.rangeFunc g ps assign body).wpIn F n P Q a w :=
  range_ownP hro h1 hg hFg eg hseq hb0 hps I Ix hI hIx h0 Ax hAx hassign (fun l pre x a' W h1 h2 h3 h4 _ => hbody l pre x a' W h1 h2 h3 h4) hdone hstop
end Go.Proofs.YtpknegneogdmfaaGreat

namespace Go.Proofs.YtpknegneogdmfaaGreat
open Go.RowKit
set_option maxRecDepth 100000

/-- A number from 0 to 7. -/
def inVar (n : Int) : Bool := decide (0 ≤ n) && decide (n < 8)
theorem inVar_true {n : Int} (h : inVar n = true) : 0 ≤ n ∧ n < 8 := by simpa [inVar] using h
theorem inVar_false {n : Int} (h : inVar n = false) : n < 0 ∨ 8 ≤ n := by
  have : ¬ (0 ≤ n ∧ n < 8) := by simpa [inVar] using h
  omega
theorem inVar_mk {n : Int} (h0 : 0 ≤ n) (h1 : n < 8) : inVar n = true := by simp [inVar, h0, h1]
theorem inVar_mk' {n : Int} (h : n < 0 ∨ 8 ≤ n) : inVar n = false := by
  simp only [inVar, Bool.and_eq_false_iff, decide_eq_false_iff_not]; omega
theorem ret_int {k : IntKind} {a b : Int} (h : a = b) : Ending.returned (.int k a) = .returned (.int k b) := by rw [h]
theorem ret_bool {a b : Bool} (h : a = b) : Ending.returned (.bool a) = .returned (.bool b) := by rw [h]

theorem Fo.drop_size_le : ∀ (f : Fo) (j : Nat), (f.drop j).size ≤ f.size
  | f, 0 => by rw [Fo.drop_zero]; exact Nat.le_refl _
  | .nil, j + 1 => Nat.le_refl _
  | .cons _ _ k r, j + 1 => by have := Fo.drop_size_le r j; simp only [Fo.drop, Fo.size]; omega
end Go.Proofs.YtpknegneogdmfaaGreat

namespace Go.Proofs.YtpknegneogdmfaaGreat
open Go.RowKit
set_option maxRecDepth 100000

/-- A node as data. -/
structure Nd where
  op : Int
  n : Int
  k : Fo
/-- A node with the place of its Kids. -/
structure Nx where
  op : Int
  n : Int
  k : Fo
  A : Option Addr
  c : Nat
def Nx.nd (x : Nx) : Nd := ⟨x.op, x.n, x.k⟩
def Nx.val (x : Nx) : Value := .agg #[.int .i64 x.op, .int .i64 x.n, .slice x.A x.k.len x.c]
def Nx.cells (x : Nx) : List Value := [.int .i64 x.op, .int .i64 x.n, .slice x.A x.k.len x.c]
def Nx.ok (w : World) (L B : Nat) (x : Nx) : Prop := Lies w L B x.A 0 x.k ∧ x.k.len ≤ x.c ∧ x.c ≤ maxLen

/-- The kids of p from the i-th on, the last first, each with all below it; hidden ones are passed over. -/
def ordF (h : Nd → Nat → Bool) (p : Nd) : Nat → Fo → List Nd
  | _, .nil => []
  | i, .cons op n k r => ordF h p (i + 1) r ++ (if h p i = true then [] else ⟨op, n, k⟩ :: ordF h ⟨op, n, k⟩ 0 k)
def ordN (h : Nd → Nat → Bool) (p : Nd) : List Nd := p :: ordF h p 0 p.k
def ordS (h : Nd → Nat → Bool) : List Nd → List Nd
  | [] => []
  | x :: s => ordS h s ++ ordN h x
theorem ordS_append (h : Nd → Nat → Bool) : ∀ (a b : List Nd), ordS h (a ++ b) = ordS h b ++ ordS h a
  | [], b => by simp [ordS]
  | x :: s, b => by simp [ordS, ordS_append h s b]
theorem ordS_last (h : Nd → Nat → Bool) (a : List Nd) (x : Nd) : ordS h (a ++ [x]) = x :: (ordF h x 0 x.k ++ ordS h a) := by
  rw [ordS_append]; simp [ordS, ordN]
theorem length_le_ordS (h : Nd → Nat → Bool) : ∀ (s : List Nd), s.length ≤ (ordS h s).length
  | [] => Nat.le_refl _
  | x :: s => by have := length_le_ordS h s; simp [ordS, ordN]; omega
theorem ordF_len (h : Nd → Nat → Bool) : ∀ (p : Nd) (i : Nat) (k : Fo), (ordF h p i k).length ≤ k.size
  | _, _, .nil => Nat.le_refl _
  | p, i, .cons op n k r => by
    have h1 := ordF_len h p (i + 1) r
    have h2 := ordF_len h ⟨op, n, k⟩ 0 k
    simp only [ordF, Fo.size, List.length_append]
    split
    · simp; omega
    · simp; omega
theorem ordN_len (h : Nd → Nat → Bool) (p : Nd) : (ordN h p).length ≤ 1 + p.k.size := by
  have := ordF_len h p 0 p.k
  simp [ordN]; omega
theorem ordF_show {h : Nd → Nat → Bool} {p : Nd} {i : Nat} {f : Fo} {op n : Int} {k : Fo} {s : List Nd} (e : f.drop i = .cons op n k (f.drop (i + 1))) (hh : h p i = false) :
    ordF h p (i + 1) (f.drop (i + 1)) ++ ordS h (s ++ [⟨op, n, k⟩]) = ordF h p i (f.drop i) ++ ordS h s := by
  rw [e, ordS_last]; simp [ordF, hh]
theorem ordF_hide {h : Nd → Nat → Bool} {p : Nd} {i : Nat} {f : Fo} {op n : Int} {k : Fo} {s : List Nd} (e : f.drop i = .cons op n k (f.drop (i + 1))) (hh : h p i = true) :
    ordF h p (i + 1) (f.drop (i + 1)) ++ ordS h s = ordF h p i (f.drop i) ++ ordS h s := by
  rw [e]; simp [ordF, hh]

/-- All nodes: none is hidden. -/
theorem ordF_all : ∀ (p : Nd) (i : Nat) (k : Fo), (ordF (fun _ _ => false) p i k).length = k.size
  | _, _, .nil => rfl
  | p, i, .cons op n k r => by
    have h1 := ordF_all p (i + 1) r
    have h2 := ordF_all ⟨op, n, k⟩ 0 k
    simp only [ordF, Fo.size, List.length_append]
    simp; omega

def cells3 : List Nx → List Value
  | [] => []
  | x :: r => x.cells ++ cells3 r
theorem cells3_append : ∀ (a b : List Nx), cells3 (a ++ b) = cells3 a ++ cells3 b
  | [], _ => rfl
  | p :: r, b => by simp [cells3, cells3_append r b]
theorem length_cells3 : ∀ (a : List Nx), (cells3 a).length = a.length * 3
  | [] => rfl
  | p :: r => by simp [cells3, Nx.cells, length_cells3 r]; omega
theorem cells3_last (st : List Nx) (x : Nx) (d : Nat) (hd : d < 3) : (cells3 (st ++ [x]))[st.length * 3 + d]? = x.cells[d]? := by
  rw [cells3_append, List.getElem?_append_right (by rw [length_cells3]; omega), length_cells3]
  simp only [cells3, List.append_nil]
  congr 1
  omega
theorem take_cells3 {l : List Value} {st : List Nx} {x : Nx} (h : l.take ((st.length + 1) * 3) = cells3 (st ++ [x])) : l.take (st.length * 3) = cells3 st := by
  have h1 : (l.take ((st.length + 1) * 3)).take (st.length * 3) = (cells3 (st ++ [x])).take (st.length * 3) := by rw [h]
  rw [List.take_take, Nat.min_eq_left (by omega), cells3_append, List.take_left' (length_cells3 st)] at h1
  exact h1

/-- A row of the call's own is kept by a round. -/
theorem ownsRow_kc {w w' : World} {X : Nat → Prop} {base : Nat} {e : TypeId} {size : Nat} {v : Value} {n : Nat} {xs : List Value} (h : w.ownsRow base e size v n xs) (hk : KC X w w') (hX : ∀ g, X g → g < base) : w'.ownsRow base e size v n xs := by
  refine ⟨h.1, ?_⟩
  rcases h.2 with h | ⟨g, cap, cur, h1, h2, h3, h4⟩
  · exact .inl h
  · exact .inr ⟨g, cap, cur, h1, h2, hk.2 g _ _ _ (fun hx => absurd (hX g hx) (by omega)) h3, h4⟩

theorem KC.then_below {X : Nat → Prop} {W V V' : World} (h : KC X W V) (hb : Below W.heap.size V V') : KC X W V' :=
  ⟨Nat.le_trans h.1 hb.size, fun k c t z hx hk => (hb.block k (Array.getElem?_eq_some_iff.1 hk).1).trans (h.2 k c t z hx hk)⟩
theorem own_at_least {w : World} {base : Nat} {e : TypeId} {size : Nat} {v : Value} {n : Nat} {xs : List Value} {g : Nat} (h : w.ownsRow base e size v n xs) (hg : v.ownBlock = some g) : base ≤ g := (h.lt g hg).1
theorem fresh_cells (w : World) (t : TypeId) (cs : Array Value) : ∀ (j : Nat) (u : Value), cs.toList[j]? = some u → (w.alloc (.cells cs t)).cell? ((⟨w.heap.size, 0, none⟩ : Addr).add j) = some u := by
  intro j u hj
  have e : ((⟨w.heap.size, 0, none⟩ : Addr).add j) = ⟨w.heap.size, j, none⟩ := by unfold Addr.add; split <;> simp_all
  rw [e]
  exact (Row.fresh w t cs).cell (by rw [← Array.getElem?_toList]; exact hj)

/-- The least number with a property. -/
noncomputable def least (P : Nat → Prop) : Nat := by
  classical
  exact if h : ∃ n, P n ∧ ∀ m, P m → n ≤ m then h.choose else 0
theorem least_ex {P : Nat → Prop} (h : ∃ n, P n) : ∃ n, P n ∧ ∀ m, P m → n ≤ m := by
  obtain ⟨n, hn⟩ := h
  induction n using Nat.strongRecOn with
  | _ n ih =>
    by_cases hx : ∃ m, m < n ∧ P m
    · obtain ⟨m, h1, h2⟩ := hx
      exact ih m h1 h2
    · exact ⟨n, hn, fun m hm => Nat.le_of_not_lt fun hl => hx ⟨m, hl, hm⟩⟩
theorem least_spec {P : Nat → Prop} (h : ∃ n, P n) : P (least P) ∧ ∀ m, P m → least P ≤ m := by
  have h2 := least_ex h
  unfold least
  rw [dif_pos h2]
  exact h2.choose_spec
end Go.Proofs.YtpknegneogdmfaaGreat

namespace Go.Proofs.YtpknegneogdmfaaGreat
open Go.RowKit
set_option maxRecDepth 100000

def cells8 (S : Nat → Bool) : Array Value := #[.bool (S 0), .bool (S 1), .bool (S 2), .bool (S 3), .bool (S 4), .bool (S 5), .bool (S 6), .bool (S 7)]
theorem cells8_at (S : Nat → Bool) {i : Nat} (h : i < 8) : (cells8 S)[i]? = some (.bool (S i)) := by
  match i, h with
  | 0, _ => rfl
  | 1, _ => rfl
  | 2, _ => rfl
  | 3, _ => rfl
  | 4, _ => rfl
  | 5, _ => rfl
  | 6, _ => rfl
  | 7, _ => rfl
theorem cells8_set (S : Nat → Bool) {v : Nat} (h : v < 8) : (cells8 S).setIfInBounds v (.bool true) = cells8 (fun i => S i || decide (i = v)) := by
  match v, h with
  | 0, _ => simp [cells8]
  | 1, _ => simp [cells8]
  | 2, _ => simp [cells8]
  | 3, _ => simp [cells8]
  | 4, _ => simp [cells8]
  | 5, _ => simp [cells8]
  | 6, _ => simp [cells8]
  | 7, _ => simp [cells8]
theorem cells8_congr {S T : Nat → Bool} (h : ∀ i, i < 8 → S i = T i) : cells8 S = cells8 T := by
  simp only [cells8, h 0 (by decide), h 1 (by decide), h 2 (by decide), h 3 (by decide), h 4 (by decide), h 5 (by decide), h 6 (by decide), h 7 (by decide)]

/-- Is the node a call of function v? -/
def ownCall (op n : Int) (v : Nat) : Bool := decide (op = 3) && decide (n = (v : Int))
def callF : Fo → Nat → Bool
  | .nil, _ => false
  | .cons op n k r, v => (ownCall op n v || callF k v) || callF r v
def callB (p : Nd) (v : Nat) : Bool := ownCall p.op p.n v || callF p.k v
theorem callF_cons {f : Fo} {op n : Int} {k r : Fo} (e : f = .cons op n k r) (v : Nat) : callF f v = (callB ⟨op, n, k⟩ v || callF r v) := by subst e; rfl

theorem any_ordF (v : Nat) : ∀ (p : Nd) (i : Nat) (k : Fo), (ordF (fun _ _ => false) p i k).any (fun q => ownCall q.op q.n v) = callF k v
  | _, _, .nil => rfl
  | p, i, .cons op n k r => by
    have h1 := any_ordF v p (i + 1) r
    have h2 := any_ordF v ⟨op, n, k⟩ 0 k
    simp only [ordF, List.any_append, h1, callF]
    simp [h2, Bool.or_comm]
theorem any_ordN (v : Nat) (p : Nd) : (ordN (fun _ _ => false) p).any (fun q => ownCall q.op q.n v) = callB p v := by
  simp [ordN, callB, any_ordF]

/-- The numbers below j that are set. -/
def numsUpto (S : Nat → Bool) : Nat → List Int
  | 0 => []
  | j + 1 => numsUpto S j ++ (if S j = true then [(j : Int)] else [])
theorem numsUpto_len (S : Nat → Bool) : ∀ j, (numsUpto S j).length ≤ j
  | 0 => Nat.le_refl _
  | j + 1 => by have := numsUpto_len S j; simp only [numsUpto, List.length_append]; split <;> simp <;> omega
theorem numsUpto_no {S : Nat → Bool} {j : Nat} (h : S j = false) : numsUpto S (j + 1) = numsUpto S j := by simp [numsUpto, h]
theorem numsUpto_yes {S : Nat → Bool} {j : Nat} (h : S j = true) : numsUpto S (j + 1) = numsUpto S j ++ [(j : Int)] := by simp [numsUpto, h]
theorem numsUpto_small (S : Nat → Bool) : ∀ j x, j ≤ 8 → x ∈ numsUpto S j → I64 x
  | 0, x, _, h => by simp [numsUpto] at h
  | j + 1, x, hj, h => by
    rcases List.mem_append.1 h with h | h
    · exact numsUpto_small S j x (by omega) h
    · split at h
      · rw [List.mem_singleton.1 h]
        unfold I64
        omega
      · simp at h
theorem numsUpto_congr {S T : Nat → Bool} : ∀ j, (∀ i, i < j → S i = T i) → numsUpto S j = numsUpto T j
  | 0, _ => rfl
  | j + 1, h => by simp only [numsUpto, numsUpto_congr j (fun i hi => h i (by omega)), h j (by omega)]
end Go.Proofs.YtpknegneogdmfaaGreat

namespace Go.Proofs.YtpknegneogdmfaaGreat
open Go.RowKit
set_option maxRecDepth 100000

/-- Is a flag set by one of the nodes? -/
def hasF (q : Int → Int → Nat → Bool) : Fo → Nat → Bool
  | .nil, _ => false
  | .cons op n k r, v => (q op n v || hasF q k v) || hasF q r v
def hasB (q : Int → Int → Nat → Bool) (p : Nd) (v : Nat) : Bool := q p.op p.n v || hasF q p.k v
theorem hasF_cons {q : Int → Int → Nat → Bool} {f : Fo} {op n : Int} {k r : Fo} (e : f = .cons op n k r) (v : Nat) : hasF q f v = (hasB q ⟨op, n, k⟩ v || hasF q r v) := by subst e; rfl
theorem has_ordF (q : Int → Int → Nat → Bool) (v : Nat) : ∀ (p : Nd) (i : Nat) (k : Fo), (ordF (fun _ _ => false) p i k).any (fun x => q x.op x.n v) = hasF q k v
  | _, _, .nil => rfl
  | p, i, .cons op n k r => by
    have h1 := has_ordF q v p (i + 1) r
    have h2 := has_ordF q v ⟨op, n, k⟩ 0 k
    simp only [ordF, List.any_append, h1, hasF]
    simp [h2, Bool.or_comm]
theorem has_ordN (q : Int → Int → Nat → Bool) (v : Nat) (p : Nd) : (ordN (fun _ _ => false) p).any (fun x => q x.op x.n v) = hasB q p v := by
  simp [ordN, hasB, has_ordF]
def seenQ (q : Int → Int → Nat → Bool) (l : List Nd) (v : Nat) : Bool := l.any (fun x => q x.op x.n v)
theorem seenQ_snoc (q : Int → Int → Nat → Bool) (l : List Nd) (x : Nd) (v : Nat) : seenQ q (l ++ [x]) v = (seenQ q l v || q x.op x.n v) := by simp [seenQ]

/-- Is the node the variable v, or does it bind it? -/
def ownVL (op n : Int) (v : Nat) : Bool := (decide (op = 2) || decide (op = 7)) && decide (n = (v : Int))
/-- Does the node bind the variable v? -/
def ownLet (op n : Int) (v : Nat) : Bool := decide (op = 7) && decide (n = (v : Int))
end Go.Proofs.YtpknegneogdmfaaGreat
