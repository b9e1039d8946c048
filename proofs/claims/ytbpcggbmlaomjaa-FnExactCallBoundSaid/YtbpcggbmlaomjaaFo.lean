/-
  Forests of nodes as plain data, and how one lies in memory: a node is three cells (Op, N, and the slice of its Kids).
  How a slice of ints lies in memory.
  Boxes of parameters: rows that the call makes at its beginning.
-/
import Derived.Below
import Derived.Laws.Rows
import Derived.WalkKit
import Derived.Lib.Hide
namespace Go.Proofs.Ytbpcggbmlaomjaa
open Go.RowKit
set_option maxRecDepth 100000

/-- A list of nodes: 'cons op n kids rest'. -/
inductive Fo where
  | nil
  | cons (op n : Int) (kids rest : Fo)

namespace Fo
def len : Fo → Nat
  | nil => 0
  | cons _ _ _ r => r.len + 1
def size : Fo → Nat
  | nil => 0
  | cons _ _ k r => k.size + r.size + 1
def drop : Fo → Nat → Fo
  | f, 0 => f
  | nil, _ + 1 => nil
  | cons _ _ _ r, i + 1 => r.drop i

theorem drop_zero (f : Fo) : f.drop 0 = f := by cases f <;> rfl
theorem drop_nil (i : Nat) : Fo.nil.drop i = .nil := by cases i <;> rfl
theorem drop_of_lt : ∀ (f : Fo) (i : Nat), i < f.len → ∃ op n k, f.drop i = .cons op n k (f.drop (i + 1)) ∧ k.size < f.size ∧ (f.drop (i + 1)).size + k.size + 1 = (f.drop i).size
  | nil, i, h => absurd h (by simp [len])
  | cons op n k r, 0, _ => ⟨op, n, k, by simp [drop, drop_zero], by simp only [size]; omega, by simp only [drop, drop_zero, size]; omega⟩
  | cons op n k r, i + 1, h => by
    obtain ⟨op', n', k', e1, e2, e3⟩ := drop_of_lt r i (by simp only [len] at h; omega)
    exact ⟨op', n', k', by simpa [drop] using e1, by simp only [size]; omega, by simpa [drop] using e3⟩
theorem drop_len : ∀ (f : Fo), f.drop f.len = .nil
  | nil => rfl
  | cons _ _ _ r => by simpa [len, drop] using drop_len r
theorem len_le_size : ∀ (f : Fo), f.len ≤ f.size
  | nil => Nat.le_refl _
  | cons _ _ _ r => by have := len_le_size r; simp only [len, size]; omega
end Fo

/-- Returned x, and nothing that lay is turned. -/
def Gives (v : Value) (w : World) (e : Ending) (w' : World) : Prop := e = .returned v ∧ Below w.heap.size w w'

def I64 (x : Int) : Prop := -9223372036854775808 ≤ x ∧ x ≤ 9223372036854775807

/-- The nodes of a list lie from the index i on in the slice at A, in blocks from L on and below B. -/
def Lies (w : World) (L B : Nat) : Option Addr → Nat → Fo → Prop
  | _, _, .nil => True
  | A, i, .cons op n k r =>
    (∃ b o A' c', A = some ⟨b, o, none⟩ ∧ L ≤ b ∧ b < B ∧ I64 op ∧ I64 n ∧ w.cell? ⟨b, o + i * 3, none⟩ = some (.int .i64 op) ∧ w.cell? ⟨b, o + i * 3 + 1, none⟩ = some (.int .i64 n) ∧
      w.cell? ⟨b, o + i * 3 + 2, none⟩ = some (.slice A' k.len c') ∧ k.len ≤ c' ∧ c' ≤ maxLen ∧ Lies w L B A' 0 k) ∧ Lies w L B A (i + 1) r

theorem Lies.keep {w w' : World} {L L' B B' : Nat} (hL : L' ≤ L) (hB : B ≤ B') (hk : ∀ p : Addr, L ≤ p.block → p.block < B → w'.cell? p = w.cell? p) : ∀ {f : Fo} {A : Option Addr} {i : Nat}, Lies w L B A i f → Lies w' L' B' A i f
  | .nil, _, _, _ => trivial
  | .cons _ _ _ _, _, _, ⟨⟨b, o, A', c', hA, hl, hb, h1, h2, h3, h4, h5, h6, h7, h8⟩, h⟩ =>
    ⟨⟨b, o, A', c', hA, by omega, by omega, h1, h2, (hk _ hl hb).trans h3, (hk _ hl hb).trans h4, (hk _ hl hb).trans h5, h6, h7, h8.keep hL hB hk⟩, h.keep hL hB hk⟩

theorem Lies.below {w w' : World} {L B : Nat} {f : Fo} {A : Option Addr} {i : Nat} (h : Lies w L B A i f) (hb : Below B w w') : Lies w' L B A i f := h.keep (Nat.le_refl _) (Nat.le_refl _) fun _ _ hp => hb.cell hp
theorem Lies.mono_ {w : World} {L L' B B' : Nat} {f : Fo} {A : Option Addr} {i : Nat} (h : Lies w L B A i f) (hL : L' ≤ L) (hB : B ≤ B') : Lies w L' B' A i f := h.keep hL hB fun _ _ _ => rfl
theorem Lies.set {w : World} {L B : Nat} {f : Fo} {A : Option Addr} {i : Nat} (h : Lies w L B A i f) {p : Addr} (hp : p.block < L ∨ B ≤ p.block) (v : Value) : Lies (w.setCell p v) L B A i f :=
  h.keep (Nat.le_refl _) (Nat.le_refl _) fun q h1 h2 => World.cell?_setCell_other w p q v (fun e => by subst e; omega)

theorem Lies.at_ {w : World} {L B : Nat} {A : Option Addr} : ∀ {f : Fo} {i : Nat} (j : Nat), Lies w L B A i f → Lies w L B A (i + j) (f.drop j)
  | f, i, 0, h => by simpa [Fo.drop_zero] using h
  | .nil, _, j + 1, _ => by simp [Fo.drop, Lies]
  | .cons _ _ _ r, i, j + 1, h => by
    have := Lies.at_ (f := r) (i := i + 1) j h.2
    simpa [Fo.drop, Nat.add_assoc, Nat.add_comm 1 j] using this

/-- The first j nodes. -/
def Fo.take : Fo → Nat → Fo
  | _, 0 => .nil
  | .nil, _ + 1 => .nil
  | .cons op n k r, i + 1 => .cons op n k (r.take i)
theorem Fo.take_zero (f : Fo) : f.take 0 = .nil := by cases f <;> rfl
theorem Fo.take_len : ∀ f : Fo, f.take f.len = f
  | .nil => rfl
  | .cons op n k r => by simp [Fo.len, Fo.take, Fo.take_len r]

/-- The j-th node, laid behind the first j, makes j + 1. -/
theorem Lies.snoc {w : World} {L B : Nat} {A : Option Addr} : ∀ {f : Fo} {i j : Nat} {op n : Int} {k r : Fo}, Lies w L B A i (f.take j) → f.drop j = .cons op n k r →
    Lies w L B A (i + j) (.cons op n k .nil) → Lies w L B A i (f.take (j + 1))
  | .nil, _, j, _, _, _, _, _, h, _ => by rw [Fo.drop_nil] at h; cases h
  | .cons op n k r, i, 0, _, _, _, _, _, h, h2 => by
    simp only [Fo.drop, Fo.cons.injEq] at h
    obtain ⟨rfl, rfl, rfl, rfl⟩ := h
    simpa [Fo.take, Fo.take_zero] using h2
  | .cons op n k r, i, j + 1, _, _, _, _, h0, h, h2 => by
    refine ⟨h0.1, Lies.snoc (f := r) (i := i + 1) (j := j) h0.2 h ?_⟩
    have e : i + 1 + j = i + (j + 1) := by omega
    rw [e]
    exact h2

/-- The same, where each list of nodes begins at the head of its block. -/
def LiesZ (w : World) (L B : Nat) : Option Addr → Nat → Fo → Prop
  | _, _, .nil => True
  | A, i, .cons op n k r =>
    (∃ b A' c', A = some ⟨b, 0, none⟩ ∧ L ≤ b ∧ b < B ∧ I64 op ∧ I64 n ∧ w.cell? ⟨b, i * 3, none⟩ = some (.int .i64 op) ∧ w.cell? ⟨b, i * 3 + 1, none⟩ = some (.int .i64 n) ∧
      w.cell? ⟨b, i * 3 + 2, none⟩ = some (.slice A' k.len c') ∧ k.len ≤ c' ∧ c' ≤ maxLen ∧ LiesZ w L B A' 0 k) ∧ LiesZ w L B A (i + 1) r
theorem LiesZ.keep {w w' : World} {L L' B B' : Nat} (hL : L' ≤ L) (hB : B ≤ B') (hk : ∀ p : Addr, L ≤ p.block → p.block < B → w'.cell? p = w.cell? p) : ∀ {f : Fo} {A : Option Addr} {i : Nat}, LiesZ w L B A i f → LiesZ w' L' B' A i f
  | .nil, _, _, _ => trivial
  | .cons _ _ _ _, _, _, ⟨⟨b, A', c', hA, hl, hb, h1, h2, h3, h4, h5, h6, h7, h8⟩, h⟩ =>
    ⟨⟨b, A', c', hA, by omega, by omega, h1, h2, (hk _ hl hb).trans h3, (hk _ hl hb).trans h4, (hk _ hl hb).trans h5, h6, h7, h8.keep hL hB hk⟩, h.keep hL hB hk⟩
theorem LiesZ.below {w w' : World} {L B : Nat} {f : Fo} {A : Option Addr} {i : Nat} (h : LiesZ w L B A i f) (hb : Below B w w') : LiesZ w' L B A i f := h.keep (Nat.le_refl _) (Nat.le_refl _) fun _ _ hp => hb.cell hp
theorem LiesZ.mono_ {w : World} {L L' B B' : Nat} {f : Fo} {A : Option Addr} {i : Nat} (h : LiesZ w L B A i f) (hL : L' ≤ L) (hB : B ≤ B') : LiesZ w L' B' A i f := h.keep hL hB fun _ _ _ => rfl
theorem LiesZ.set {w : World} {L B : Nat} {f : Fo} {A : Option Addr} {i : Nat} (h : LiesZ w L B A i f) {p : Addr} (hp : p.block < L ∨ B ≤ p.block) (v : Value) : LiesZ (w.setCell p v) L B A i f :=
  h.keep (Nat.le_refl _) (Nat.le_refl _) fun q h1 h2 => World.cell?_setCell_other w p q v (fun e => by subst e; omega)
theorem LiesZ.lies {w : World} {L B : Nat} : ∀ {f : Fo} {A : Option Addr} {i : Nat}, LiesZ w L B A i f → Lies w L B A i f
  | .nil, _, _, _ => trivial
  | .cons _ _ _ _, i, _, ⟨⟨b, A', c', hA, hl, hb, h1, h2, h3, h4, h5, h6, h7, h8⟩, h⟩ =>
    ⟨⟨b, 0, A', c', hA, hl, hb, h1, h2, by rw [Nat.zero_add]; exact h3, by rw [Nat.zero_add]; exact h4, by rw [Nat.zero_add]; exact h5, h6, h7, h8.lies⟩, h.lies⟩

/-- Row g of the heap holds just these cells, all of them writable. -/
def Row (w : World) (g : Nat) (t : TypeId) (cs : Array Value) : Prop := w.heap[g]? = some (.cells cs t (0, 0))

section
variable {w w' : World} {g : Nat} {t : TypeId} {cs : Array Value}
theorem Row.cell (h : Row w g t cs) {i : Nat} {v : Value} (hv : cs[i]? = some v) : w.cell? ⟨g, i, none⟩ = some v := (cell_of_row w g i cs t _ h).trans hv
theorem Row.free (h : Row w g t cs) (i : Nat) : w.frozen? ⟨g, i, none⟩ = false := by
  unfold Row at h
  simp [World.frozen?, h]
theorem Row.size (h : Row w g t cs) : g < w.heap.size := by
  unfold Row at h
  exact Classical.byContradiction fun hn => by rw [Array.getElem?_eq_none (by omega)] at h; exact absurd h (by simp)
theorem Row.fresh (w : World) (t : TypeId) (cs : Array Value) : Row (w.alloc (.cells cs t)) w.heap.size t cs := heap_alloc_new w _
theorem Row.alloc (h : Row w g t cs) (o : Obj) : Row (w.alloc o) g t cs := (Below.heap_alloc w o g h.size).trans h
theorem Row.below {B : Nat} (h : Row w g t cs) (hb : Below B w w') (hg : g < B) : Row w' g t cs := (hb.block g hg).trans h
theorem Row.put (h : Row w g t cs) (i : Nat) (v : Value) : Row (w.setCell ⟨g, i, none⟩ v) g t (cs.setIfInBounds i v) := by
  unfold Row at h ⊢
  simp [World.setCell, Array.getElem?_modify, h]
theorem Row.apart (h : Row w g t cs) {p : Addr} (hp : g ≠ p.block) (v : Value) : Row (w.setCell p v) g t cs := (Below.heap_setCell w p v g hp).trans h
theorem Row.drew (h : Row w g t cs) : Row w.drew g t cs := h
end

/-- The nodes of a list stand in the cells of a row from the index i on; their Kids lie in blocks from L on and below B. -/
def LiesC (w : World) (L B : Nat) (cs : Array Value) : Nat → Fo → Prop
  | _, .nil => True
  | i, .cons op n k r =>
    (∃ A' c', I64 op ∧ I64 n ∧ cs[i * 3]? = some (.int .i64 op) ∧ cs[i * 3 + 1]? = some (.int .i64 n) ∧ cs[i * 3 + 2]? = some (.slice A' k.len c') ∧ k.len ≤ c' ∧ c' ≤ maxLen ∧ LiesZ w L B A' 0 k) ∧ LiesC w L B cs (i + 1) r

theorem LiesC.keep {w w' : World} {L L' B B' : Nat} {cs cs' : Array Value} (hL : L' ≤ L) (hB : B ≤ B') (hk : ∀ p : Addr, L ≤ p.block → p.block < B → w'.cell? p = w.cell? p) : ∀ {f : Fo} {i : Nat},
    (∀ x, x < (i + f.len) * 3 → cs'[x]? = cs[x]?) → LiesC w L B cs i f → LiesC w' L' B' cs' i f
  | .nil, _, _, _ => trivial
  | .cons op n k r, i, hx, ⟨⟨A', c', h1, h2, h3, h4, h5, h6, h7, h8⟩, h⟩ => by
    simp only [Fo.len] at hx
    exact ⟨⟨A', c', h1, h2, (hx _ (by omega)).trans h3, (hx _ (by omega)).trans h4, (hx _ (by omega)).trans h5, h6, h7, h8.keep hL hB hk⟩, h.keep hL hB hk (fun x h' => hx x (by omega))⟩

theorem LiesC.snoc {w : World} {L B : Nat} {cs : Array Value} : ∀ {f : Fo} {i j : Nat} {op n : Int} {k r : Fo}, LiesC w L B cs i (f.take j) → f.drop j = .cons op n k r →
    LiesC w L B cs (i + j) (.cons op n k .nil) → LiesC w L B cs i (f.take (j + 1))
  | .nil, _, j, _, _, _, _, _, h, _ => by rw [Fo.drop_nil] at h; cases h
  | .cons op n k r, i, 0, _, _, _, _, _, h, h2 => by
    simp only [Fo.drop, Fo.cons.injEq] at h
    obtain ⟨rfl, rfl, rfl, rfl⟩ := h
    simpa [Fo.take, Fo.take_zero] using h2
  | .cons op n k r, i, j + 1, _, _, _, _, h0, h, h2 => by
    refine ⟨h0.1, LiesC.snoc (f := r) (i := i + 1) (j := j) h0.2 h ?_⟩
    have e : i + 1 + j = i + (j + 1) := by omega
    rw [e]
    exact h2

theorem Fo.len_take : ∀ (f : Fo) (j : Nat), j ≤ f.len → (f.take j).len = j
  | f, 0, _ => by simp [Fo.take_zero, Fo.len]
  | .nil, j + 1, h => by simp [Fo.len] at h
  | .cons _ _ _ r, j + 1, h => by simp only [Fo.take, Fo.len] at h ⊢; rw [Fo.len_take r j (by omega)]

theorem LiesC.lies {w : World} {L B g : Nat} {t : TypeId} {cs : Array Value} (hr : Row w g t cs) (hL : g < L) (hB : g < B) : ∀ {f : Fo} {i : Nat}, LiesC w L B cs i f → LiesZ w g B (some ⟨g, 0, none⟩) i f
  | .nil, _, _ => trivial
  | .cons _ _ _ _, i, ⟨⟨A', c', h1, h2, h3, h4, h5, h6, h7, h8⟩, h⟩ =>
    ⟨⟨g, A', c', rfl, Nat.le_refl _, hB, h1, h2, hr.cell h3, hr.cell h4, hr.cell h5, h6, h7, h8.mono_ (by omega) (Nat.le_refl _)⟩, h.lies hr hL hB⟩

/-- The three cells of node j are written into a row. -/
theorem LiesC.step {w : World} {g j c2 : Nat} {t : TypeId} {cs : Array Value} {f k : Fo} {op n : Int} {A2 : Option Addr} (hrow : Row w g t cs) (hcs : cs.size = f.len * 3) (hlt : j < f.len)
    (hlc : LiesC w (g + 1) w.heap.size cs 0 (f.take j)) (e1 : f.drop j = .cons op n k (f.drop (j + 1))) (i1 : I64 op) (i2 : I64 n) (hc1 : k.len ≤ c2) (hc2 : c2 ≤ maxLen) (hR : LiesZ w (g + 1) w.heap.size A2 0 k) :
    ∃ cs', Row (((w.setCell ⟨g, j * 3, none⟩ (.int .i64 op)).setCell ⟨g, j * 3 + 1, none⟩ (.int .i64 n)).setCell ⟨g, j * 3 + 2, none⟩ (.slice A2 k.len c2)) g t cs' ∧ cs'.size = f.len * 3 ∧
      LiesC (((w.setCell ⟨g, j * 3, none⟩ (.int .i64 op)).setCell ⟨g, j * 3 + 1, none⟩ (.int .i64 n)).setCell ⟨g, j * 3 + 2, none⟩ (.slice A2 k.len c2)) (g + 1)
        (((w.setCell ⟨g, j * 3, none⟩ (.int .i64 op)).setCell ⟨g, j * 3 + 1, none⟩ (.int .i64 n)).setCell ⟨g, j * 3 + 2, none⟩ (.slice A2 k.len c2)).heap.size cs' 0 (f.take (j + 1)) := by
  refine ⟨_, ((hrow.put _ _).put _ _).put _ _, by simp [hcs], ?_⟩
  have hs : (((w.setCell ⟨g, j * 3, none⟩ (.int .i64 op)).setCell ⟨g, j * 3 + 1, none⟩ (.int .i64 n)).setCell ⟨g, j * 3 + 2, none⟩ (.slice A2 k.len c2)).heap.size = w.heap.size := by simp [World.setCell]
  have hk : ∀ p : Addr, g + 1 ≤ p.block → p.block < w.heap.size → (((w.setCell ⟨g, j * 3, none⟩ (.int .i64 op)).setCell ⟨g, j * 3 + 1, none⟩ (.int .i64 n)).setCell ⟨g, j * 3 + 2, none⟩ (.slice A2 k.len c2)).cell? p = w.cell? p := by
    intro p h1 _
    rw [World.cell?_setCell_other _ _ _ _ (fun e => by subst e; exact absurd h1 (Nat.not_succ_le_self _)), World.cell?_setCell_other _ _ _ _ (fun e => by subst e; exact absurd h1 (Nat.not_succ_le_self _)), World.cell?_setCell_other _ _ _ _ (fun e => by subst e; exact absurd h1 (Nat.not_succ_le_self _))]
  rw [hs]
  refine LiesC.snoc (hlc.keep (Nat.le_refl _) (Nat.le_refl _) hk ?_) e1 ⟨⟨A2, c2, i1, i2, ?_, ?_, ?_, hc1, hc2, hR.keep (Nat.le_refl _) (Nat.le_refl _) hk⟩, trivial⟩
  · intro x hx
    rw [Fo.len_take f j (by omega)] at hx
    rw [Array.getElem?_setIfInBounds_ne (by omega), Array.getElem?_setIfInBounds_ne (by omega), Array.getElem?_setIfInBounds_ne (by omega)]
  · rw [Nat.zero_add, Array.getElem?_setIfInBounds_ne (by omega), Array.getElem?_setIfInBounds_ne (by omega), Array.getElem?_setIfInBounds_self_of_lt (by omega)]
  · rw [Nat.zero_add, Array.getElem?_setIfInBounds_ne (by omega), Array.getElem?_setIfInBounds_self_of_lt (by simp; omega)]
  · rw [Nat.zero_add, Array.getElem?_setIfInBounds_self_of_lt (by simp; omega)]

/-- All blocks from L on and below B are plain rows. -/
def AllRows (w : World) (L B : Nat) : Prop := ∀ g, L ≤ g → g < B → ∃ t cs, Row w g t cs
theorem AllRows.none (w : World) (L : Nat) : AllRows w L L := fun g h1 h2 => absurd h1 (by omega)
theorem AllRows.below {w w' : World} {L B C : Nat} (h : AllRows w L B) (hb : Below C w w') (hC : B ≤ C) : AllRows w' L B := fun g h1 h2 =>
  let ⟨t, cs, hr⟩ := h g h1 h2; ⟨t, cs, hr.below hb (by omega)⟩
theorem AllRows.set {w : World} {L B : Nat} (h : AllRows w L B) (p : Addr) (v : Value) : AllRows (w.setCell p v) L B := fun g h1 h2 => by
  obtain ⟨t, cs, hr⟩ := h g h1 h2
  by_cases hg : g = p.block
  · subst hg
    unfold Row at hr
    refine ⟨t, (if p.spot.isSome then cs else cs.setIfInBounds p.off v), ?_⟩
    unfold Row
    simp [World.setCell, Array.getElem?_modify, hr]
  · exact ⟨t, cs, hr.apart hg v⟩
theorem AllRows.alloc {w : World} {L : Nat} (h : AllRows w L w.heap.size) (cs : Array Value) (t : TypeId) : AllRows (w.alloc (.cells cs t)) L (w.alloc (.cells cs t)).heap.size := fun g h1 h2 => by
  rw [World.size_alloc] at h2
  by_cases hg : g = w.heap.size
  · subst hg; exact ⟨t, cs, Row.fresh _ _ _⟩
  · obtain ⟨t', cs', hr⟩ := h g h1 (by omega)
    exact ⟨t', cs', hr.alloc _⟩
theorem AllRows.join {w : World} {L M B : Nat} (h : AllRows w L M) (k : AllRows w M B) : AllRows w L B := fun g h1 h2 => by
  by_cases hg : g < M
  · exact h g h1 hg
  · exact k g (by omega) h2
theorem AllRows.mono_ {w : World} {L L' B B' : Nat} (h : AllRows w L B) (hL : L ≤ L') (hB : B' ≤ B) : AllRows w L' B' := fun g h1 h2 => h g (by omega) (by omega)
end Go.Proofs.Ytbpcggbmlaomjaa

namespace Go.Proofs.Ytbpcggbmlaomjaa
open Go.RowKit
set_option maxRecDepth 100000

/-- The numbers zs lie in the slice at A, in a block from L on and below B. -/
def LiesI (w : World) (L B : Nat) (A : Option Addr) (zs : List Int) : Prop :=
  ∀ i x, zs[i]? = some x → ∃ b o, A = some ⟨b, o, none⟩ ∧ L ≤ b ∧ b < B ∧ I64 x ∧ w.cell? ⟨b, o + i, none⟩ = some (.int .i64 x)

theorem LiesI.keep {w w' : World} {L L' B B' : Nat} {A : Option Addr} {zs : List Int} (hL : L' ≤ L) (hB : B ≤ B') (hk : ∀ p : Addr, L ≤ p.block → p.block < B → w'.cell? p = w.cell? p) (h : LiesI w L B A zs) : LiesI w' L' B' A zs := by
  intro i x hx
  obtain ⟨b, o, h1, h2, h3, h4, h5⟩ := h i x hx
  exact ⟨b, o, h1, by omega, by omega, h4, (hk _ h2 h3).trans h5⟩
theorem LiesI.below {w w' : World} {L B : Nat} {A : Option Addr} {zs : List Int} (h : LiesI w L B A zs) (hb : Below B w w') : LiesI w' L B A zs := h.keep (Nat.le_refl _) (Nat.le_refl _) fun _ _ hp => hb.cell hp
theorem LiesI.mono_ {w : World} {L L' B B' : Nat} {A : Option Addr} {zs : List Int} (h : LiesI w L B A zs) (hL : L' ≤ L) (hB : B ≤ B') : LiesI w L' B' A zs := h.keep hL hB fun _ _ _ => rfl
theorem LiesI.up {w w' : World} {A : Option Addr} {zs : List Int} (h : LiesI w 0 w.heap.size A zs) (hb : Below w.heap.size w w') : LiesI w' 0 w'.heap.size A zs := (h.below hb).mono_ (Nat.le_refl _) hb.size
theorem LiesI.set {w : World} {L B : Nat} {zs : List Int} {A : Option Addr} (h : LiesI w L B A zs) {p : Addr} (hp : p.block < L ∨ B ≤ p.block) (v : Value) : LiesI (w.setCell p v) L B A zs :=
  h.keep (Nat.le_refl _) (Nat.le_refl _) fun q h1 h2 => World.cell?_setCell_other w p q v (fun e => by subst e; omega)
end Go.Proofs.Ytbpcggbmlaomjaa

namespace Go.Proofs.Ytbpcggbmlaomjaa
open Go.RowKit
set_option maxRecDepth 100000

theorem one_box (w : World) (t : TypeId) (cs : Array Value) : Below w.heap.size w (w.alloc (.cells cs t)) ∧ Row (w.alloc (.cells cs t)) w.heap.size t cs :=
  ⟨(Below.refl _ _).alloc (Nat.le_refl _) _, Row.fresh w _ _⟩
/-- Two boxes behind each other. -/
theorem two_boxes (w : World) (t t' : TypeId) (cs ds : Array Value) : Below w.heap.size w ((w.alloc (.cells cs t)).alloc (.cells ds t')) ∧ Row ((w.alloc (.cells cs t)).alloc (.cells ds t')) w.heap.size t cs ∧ Row ((w.alloc (.cells cs t)).alloc (.cells ds t')) (w.heap.size + 1) t' ds := by
  refine ⟨((Below.refl _ _).alloc (Nat.le_refl _) _).alloc (by simp) _, (Row.fresh w _ _).alloc _, ?_⟩
  have := Row.fresh (w.alloc (.cells cs t)) t' ds
  rw [World.size_alloc] at this
  exact this
end Go.Proofs.Ytbpcggbmlaomjaa
