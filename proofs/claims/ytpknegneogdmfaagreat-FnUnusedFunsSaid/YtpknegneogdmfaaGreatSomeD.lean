/-
  Drawing an expression: what a draw of one leaves (SomePost); lists of numbers and of nodes that a call lays down.
-/
import Derived.Test.YtpknegneogdmfaaGreatSrc
import Derived.Test.YtpknegneogdmfaaGreatTree
import Derived.Test.YtpknegneogdmfaaGreatFresh
namespace Go.Proofs.YtpknegneogdmfaaGreat
open Go.RowKit Go.Shelf
set_option maxRecDepth 100000

/-- How many nodes, how many picks a draw down to a depth makes at most. -/
def nodesD : Nat → Nat
  | 0 => 1
  | 1 => 1
  | d + 2 => 1 + 3 * nodesD (d + 1)
def costD : Nat → Nat
  | 0 => 2
  | 1 => 2
  | d + 2 => 3 + 3 * costD (d + 1)
theorem costD_two : ∀ d, 2 ≤ costD d
  | 0 => Nat.le_refl _
  | 1 => Nat.le_refl _
  | d + 2 => by simp only [costD]; omega
theorem nodesD_one : ∀ d, 1 ≤ nodesD d
  | 0 => Nat.le_refl _
  | 1 => Nat.le_refl _
  | d + 2 => by simp only [nodesD]; omega
theorem costD_step {d : Nat} (h : 2 ≤ d) : costD d = 3 + 3 * costD (d - 1) := by
  match d, h with
  | d + 2, _ => rfl
theorem nodesD_step {d : Nat} (h : 2 ≤ d) : nodesD d = 1 + 3 * nodesD (d - 1) := by
  match d, h with
  | d + 2, _ => rfl

/-- The source at block g, with the bytes bs, at place p. -/
def Rd (w : World) (g : Nat) (A : Option Addr) (bc : Nat) (bs : List Nat) (p : Nat) : Prop := Row w g 55 #[.slice A bs.length bc, .int .i64 (p : Int)]

/-- What a draw leaves: a tree of its own, the source further on, all else below as it was. -/
def SomePost (g : Nat) (A : Option Addr) (bc : Nat) (bs : List Nat) (Q : Nat) (b : Int) (s : Nat) (w : World) (e : Ending) (w' : World) : Prop :=
  ∃ op n k X c bl p', e = .returned (.agg #[.int .i64 op, .int .i64 n, .slice X (Fo.len k) c]) ∧ (I64 op ∧ I64 n) ∧ Tree w' w.heap.size (.slice X k.len c) k bl ∧ k.size + 1 ≤ s ∧ Rd w' g A bc bs p' ∧ Ok bs Q p' b ∧ Only g w.heap.size w w'

/-- A list of numbers just laid down. -/
theorem lies_new (w : World) (L : Nat) (zs : List Int) (hI : ∀ x, x ∈ zs → I64 x) (hL : L ≤ w.heap.size) : LiesI (w.alloc (.cells (zs.map (Value.int .i64)).toArray 3)) L (w.alloc (.cells (zs.map (Value.int .i64)).toArray 3)).heap.size (some ⟨w.heap.size, 0, none⟩) zs := by
  intro i y hy
  refine ⟨w.heap.size, 0, rfl, hL, by simp, hI y (List.mem_of_getElem? hy), ?_⟩
  rw [Nat.zero_add]
  refine (Row.fresh w 3 _).cell (i := i) ?_
  simp [hy]

/-- A list of one node just laid down. -/
theorem tree_one {w w' : World} {base g op n : _} {k : Fo} {A : Option Addr} {c : Nat} {bl : List Nat} (hr : Row w' g 36 #[.int .i64 op, .int .i64 n, .slice A k.len c]) (hg : base ≤ g) (ht : Tree w' base (.slice A k.len c) k bl) (hd : g ∉ bl) (hi : I64 op ∧ I64 n) (_hw : w = w) :
    Tree w' base (.slice (some ⟨g, 0, none⟩) 1 1) (.cons op n k .nil) (g :: bl) := by
  obtain ⟨stk, b3, k1, k2, rfl, k4⟩ := ht
  rw [blkV_slice] at hd k4 ⊢
  refine ⟨[⟨op, n, k, A, c⟩], blkOf A ++ b3, ⟨rfl, .inr ⟨g, 1, _, rfl, hg, hr, Nat.le_refl _, by decide, rfl, rfl⟩⟩, ⟨A, c, stk, b3, [], [], hi, k1, k2, rfl, ⟨rfl, rfl⟩, by simp⟩, rfl, ?_⟩
  exact List.nodup_cons.2 ⟨hd, k4⟩
/-- A list of two nodes just laid down. -/
theorem tree_two {w : World} {base g : Nat} {ao an bo bn : Int} {ak bk : Fo} {Aa Ab : Option Addr} {ca cb : Nat} {ba bb : List Nat} (hr : Row w g 36 #[.int .i64 ao, .int .i64 an, .slice Aa ak.len ca, .int .i64 bo, .int .i64 bn, .slice Ab bk.len cb]) (hg : base ≤ g)
    (ha : Tree w base (.slice Aa ak.len ca) ak ba) (hb : Tree w base (.slice Ab bk.len cb) bk bb) (hd : ∀ q, q ∈ ba → q ∈ bb → False) (hga : g ∉ ba) (hgb : g ∉ bb) (ia : I64 ao ∧ I64 an) (ib : I64 bo ∧ I64 bn) :
    ∃ bs, Tree w base (.slice (some ⟨g, 0, none⟩) 2 2) (.cons ao an ak (.cons bo bn bk .nil)) bs := by
  obtain ⟨sa, b1, h1, h2, rfl, h4⟩ := ha
  obtain ⟨sb, b2, k1, k2, rfl, k4⟩ := hb
  rw [blkV_slice] at h4 k4 hga hgb
  refine ⟨_, [⟨ao, an, ak, Aa, ca⟩, ⟨bo, bn, bk, Ab, cb⟩], (blkOf Aa ++ b1) ++ ((blkOf Ab ++ b2) ++ []), ⟨rfl, .inr ⟨g, 2, _, rfl, hg, hr, Nat.le_refl _, by decide, rfl, rfl⟩⟩,
    ⟨Aa, ca, sa, b1, _, _, ia, h1, h2, rfl, ⟨Ab, cb, sb, b2, [], [], ib, k1, k2, rfl, ⟨rfl, rfl⟩, rfl⟩, rfl⟩, rfl, ?_⟩
  rw [blkV_slice, List.append_nil]
  refine List.nodup_append.2 ⟨by simp [blkOf], List.nodup_append.2 ⟨h4, k4, fun p hp q hq e => hd p (by rw [blkV_slice]; exact hp) (by rw [blkV_slice, e]; exact hq)⟩, ?_⟩
  intro p hp q hq e
  simp only [blkOf, List.mem_singleton] at hp
  subst hp
  subst e
  rcases List.mem_append.1 hq with h | h
  · exact hga h
  · exact hgb h
end Go.Proofs.YtpknegneogdmfaaGreat
