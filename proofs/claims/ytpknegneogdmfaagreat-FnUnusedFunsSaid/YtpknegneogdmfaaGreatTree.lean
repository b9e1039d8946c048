/-
  Trees that a call has made itself: each list of Kids is a row of its own, all rows are apart.
  The law for 'y.Kids = append(y.Kids, kid)' where all is the call's own; the arms of loads of a node.
  impl.copyOf.
-/
import Derived.Test.YtpknegneogdmfaaGreatFo
import Derived.Test.YtpknegneogdmfaaGreatOwnM
import Derived.Test.YtpknegneogdmfaaGreatDe
import Derived.Maps.AppendAt
import Derived.Test.YtpknegneogdmfaaGreatNodesI
import Derived.Deep.RegionLaw
import Derived.Deep.RegionHeld3
import Derived.Deep.RegionWith
import Derived.BigRegion
import Derived.Deep.CutRange
namespace Go.Proofs.YtpknegneogdmfaaGreat
open Go.RowKit
set_option maxRecDepth 100000

namespace Fo
def app : Fo → Fo → Fo
  | nil, g => g
  | cons op n k r, g => cons op n k (r.app g)
def snoc : Fo → Int → Int → Fo → Fo
  | nil, op, n, k => cons op n k nil
  | cons o m k' r, op, n, k => cons o m k' (r.snoc op n k)
theorem snoc_app : ∀ (f : Fo) (op n : Int) (k g : Fo), (f.snoc op n k).app g = f.app (cons op n k g)
  | nil, _, _, _, _ => rfl
  | cons _ _ _ r, op, n, k, g => by simp only [snoc, app, snoc_app r op n k g]
theorem app_nil : ∀ f : Fo, f.app nil = f
  | nil => rfl
  | cons _ _ _ r => by simp only [app, app_nil r]
theorem snoc_len : ∀ (f : Fo) (op n : Int) (k : Fo), (f.snoc op n k).len = f.len + 1
  | nil, _, _, _ => rfl
  | cons _ _ _ r, op, n, k => by simp only [snoc, len, snoc_len r op n k]
theorem app_len : ∀ (f g : Fo), (f.app g).len = f.len + g.len
  | nil, g => by simp [app, len]
  | cons _ _ _ r, g => by simp only [app, len, app_len r g]; omega
theorem app_size : ∀ (f g : Fo), (f.app g).size = f.size + g.size
  | nil, g => by simp [app, size]
  | cons _ _ _ r, g => by simp only [app, size, app_size r g]; omega
end Fo

def blkOf : Option Addr → List Nat
  | some a => [a.block]
  | none => []
def blkV (v : Value) : List Nat := v.ownBlock.toList
theorem blkV_slice (A : Option Addr) (l c : Nat) : blkV (.slice A l c) = blkOf A := by cases A <;> rfl

theorem cells3_set : ∀ (st : List Nx) (j : Nat) (p : Nx), cells3 (st.set j p) = (((cells3 st).set (j * 3) (.int .i64 p.op)).set (j * 3 + 1) (.int .i64 p.n)).set (j * 3 + 2) (.slice p.A p.k.len p.c)
  | [], j, p => by simp [cells3]
  | q :: st, 0, p => by simp [cells3, Nx.cells]
  | q :: st, j + 1, p => by
    have ih := cells3_set st j p
    rw [show (j + 1) * 3 = j * 3 + 3 by omega]
    simp only [List.set_cons_succ, cells3, Nx.cells, List.cons_append, List.nil_append]
    rw [ih]
theorem cells3_at : ∀ (st : List Nx) (j : Nat) (p : Nx), st[j]? = some p → (cells3 st)[j * 3]? = some (.int .i64 p.op) ∧ (cells3 st)[j * 3 + 1]? = some (.int .i64 p.n) ∧ (cells3 st)[j * 3 + 2]? = some (.slice p.A p.k.len p.c)
  | [], j, p, h => by simp at h
  | q :: st, 0, p, h => by simp at h; subst h; simp [cells3, Nx.cells]
  | q :: st, j + 1, p, h => by
    have ih := cells3_at st j p (by simpa using h)
    rw [show (j + 1) * 3 = j * 3 + 3 by omega]
    exact ih

theorem list_set_same {α : Type} {l : List α} {i : Nat} {a : α} (h : l[i]? = some a) : l.set i a = l := by
  apply List.ext_getElem?
  intro n
  by_cases hn : i = n
  · subst hn
    rw [List.getElem?_set_self (List.getElem?_eq_some_iff.1 h).1, h]
  · rw [List.getElem?_set_ne hn]

/-- The Kids' own Kids: st has the cells of the nodes of the forest, bs the blocks of all rows in them. -/
def OwnF (w : World) (base : Nat) : Fo → List Nx → List Nat → Prop
  | .nil, st, bs => st = [] ∧ bs = []
  | .cons op n k r, st, bs => ∃ A c stk bk st' b2, (I64 op ∧ I64 n) ∧ w.ownsRow base 36 3 (.slice A k.len c) k.len (cells3 stk) ∧ OwnF w base k stk bk ∧
      st = ⟨op, n, k, A, c⟩ :: st' ∧ OwnF w base r st' b2 ∧ bs = (blkOf A ++ bk) ++ b2

/-- The list of Kids v is a forest that the call has made, in the rows bs. -/
def Tree (w : World) (base : Nat) (v : Value) (f : Fo) (bs : List Nat) : Prop :=
  ∃ st b1, w.ownsRow base 36 3 v f.len (cells3 st) ∧ OwnF w base f st b1 ∧ bs = blkV v ++ b1 ∧ bs.Nodup

section
variable {w w' : World} {base base' : Nat}
theorem own_at {e : TypeId} {size : Nat} {v : Value} {n : Nat} {xs : List Value} (h : w.ownsRow base e size v n xs) (hk : ∀ g, v.ownBlock = some g → w'.heap[g]? = w.heap[g]?) : w'.ownsRow base e size v n xs := by
  refine ⟨h.1, ?_⟩
  rcases h.2 with h | ⟨g, cap, cur, rfl, h2, h3, h4⟩
  · exact .inl h
  · exact .inr ⟨g, cap, cur, rfl, h2, (hk g rfl).trans h3, h4⟩
theorem own_lower {e : TypeId} {size : Nat} {v : Value} {n : Nat} {xs : List Value} (h : w.ownsRow base e size v n xs) (hb : base' ≤ base) : w.ownsRow base' e size v n xs := by
  refine ⟨h.1, ?_⟩
  rcases h.2 with h0 | ⟨g, cap, cur, h1, h2, h3⟩
  · exact .inl h0
  · exact .inr ⟨g, cap, cur, h1, by omega, h3⟩
theorem own_slice {e : TypeId} {size : Nat} {v : Value} {n : Nat} {xs : List Value} (h : w.ownsRow base e size v n xs) : ∃ A c, v = .slice A n c ∧ n ≤ c ∧ c ≤ maxLen := by
  rcases h.2 with ⟨rfl, rfl⟩ | ⟨g, cap, cur, rfl, _, _, h4, h5, _⟩
  · exact ⟨none, 0, rfl, Nat.le_refl _, Nat.zero_le _⟩
  · exact ⟨_, _, rfl, h4, h5⟩

theorem OwnF.keep : ∀ {f : Fo} {st : List Nx} {bs : List Nat}, OwnF w base f st bs → (∀ b, b ∈ bs → w'.heap[b]? = w.heap[b]?) → OwnF w' base f st bs
  | .nil, _, _, h, _ => h
  | .cons _ _ _ _, _, _, ⟨A, c, stk, bk, st', b2, h1, h2, h3, h4, h5, h6⟩, hk => by
    subst h6
    refine ⟨A, c, stk, bk, st', b2, h1, own_at h2 fun g hg => hk g ?_, h3.keep fun b hb => hk b (by simp [hb]), h4, h5.keep fun b hb => hk b (by simp [hb]), rfl⟩
    cases A with
    | none => cases hg
    | some a => cases hg; simp [blkOf]
theorem OwnF.lower (hb : base' ≤ base) : ∀ {f : Fo} {st : List Nx} {bs : List Nat}, OwnF w base f st bs → OwnF w base' f st bs
  | .nil, _, _, h => h
  | .cons _ _ _ _, _, _, ⟨A, c, stk, bk, st', b2, h1, h2, h3, h4, h5, h6⟩ => ⟨A, c, stk, bk, st', b2, h1, own_lower h2 hb, h3.lower hb, h4, h5.lower hb, h6⟩
theorem blk_lt {e : TypeId} {size : Nat} {v : Value} {n : Nat} {xs : List Value} (h : w.ownsRow base e size v n xs) {b : Nat} (hb : b ∈ blkV v) : base ≤ b ∧ b < w.heap.size := by
  unfold blkV at hb
  rw [Option.mem_toList] at hb
  exact h.lt b hb
theorem OwnF.lt : ∀ {f : Fo} {st : List Nx} {bs : List Nat}, OwnF w base f st bs → ∀ b, b ∈ bs → base ≤ b ∧ b < w.heap.size
  | .nil, _, _, ⟨_, h⟩, b, hb => by rw [h] at hb; cases hb
  | .cons _ _ _ _, _, _, ⟨A, c, stk, bk, st', b2, h1, h2, h3, h4, h5, h6⟩, b, hb => by
    subst h6
    rcases List.mem_append.1 hb with hb | hb
    · rcases List.mem_append.1 hb with hb | hb
      · exact blk_lt h2 (by rw [blkV_slice]; exact hb)
      · exact h3.lt b hb
    · exact h5.lt b hb
theorem OwnF.len : ∀ {f : Fo} {st : List Nx} {bs : List Nat}, OwnF w base f st bs → st.length = f.len
  | .nil, _, _, ⟨h, _⟩ => by rw [h]; rfl
  | .cons _ _ _ _, _, _, ⟨A, c, stk, bk, st', b2, h1, h2, h3, h4, h5, h6⟩ => by rw [h4, List.length_cons, h5.len]; rfl
theorem OwnF.snoc {op n : Int} {k : Fo} {A : Option Addr} {c : Nat} {stk : List Nx} {bk : List Nat} (hi : I64 op ∧ I64 n) (h2 : w.ownsRow base 36 3 (.slice A k.len c) k.len (cells3 stk)) (h3 : OwnF w base k stk bk) :
    ∀ {f : Fo} {st : List Nx} {bs : List Nat}, OwnF w base f st bs → OwnF w base (f.snoc op n k) (st ++ [⟨op, n, k, A, c⟩]) (bs ++ (blkOf A ++ bk))
  | .nil, _, _, ⟨e1, e2⟩ => ⟨A, c, stk, bk, [], [], hi, h2, h3, by rw [e1]; rfl, ⟨rfl, rfl⟩, by rw [e2]; simp⟩
  | .cons _ _ _ _, _, _, ⟨A', c', stk', bk', st', b2, g1, g2, g3, g4, g5, g6⟩ => ⟨A', c', stk', bk', st' ++ [⟨op, n, k, A, c⟩], b2 ++ (blkOf A ++ bk), g1, g2, g3, by rw [g4]; rfl, OwnF.snoc hi h2 h3 g5, by rw [g6]; simp⟩

theorem Tree.keep {v : Value} {f : Fo} {bs : List Nat} (h : Tree w base v f bs) (hk : ∀ b, b ∈ bs → w'.heap[b]? = w.heap[b]?) : Tree w' base v f bs := by
  obtain ⟨st, b1, h1, h2, rfl, h4⟩ := h
  exact ⟨st, b1, own_at h1 fun g hg => hk g (by simp [blkV, hg]), h2.keep fun b hb => hk b (by simp [hb]), rfl, h4⟩
theorem Tree.lower {v : Value} {f : Fo} {bs : List Nat} (h : Tree w base v f bs) (hb : base' ≤ base) : Tree w base' v f bs := by
  obtain ⟨st, b1, h1, h2, h3, h4⟩ := h
  exact ⟨st, b1, own_lower h1 hb, h2.lower hb, h3, h4⟩
theorem Tree.lt {v : Value} {f : Fo} {bs : List Nat} (h : Tree w base v f bs) : ∀ b, b ∈ bs → base ≤ b ∧ b < w.heap.size := by
  obtain ⟨st, b1, h1, h2, rfl, h4⟩ := h
  intro b hb
  rcases List.mem_append.1 hb with hb | hb
  · exact blk_lt h1 hb
  · exact h2.lt b hb
theorem Tree.below {v : Value} {f : Fo} {bs : List Nat} {B : Nat} (h : Tree w base v f bs) (hB : ∀ b, b ∈ bs → b < B) (hb : Below B w w') : Tree w' base v f bs := h.keep fun b hbs => hb.block b (hB b hbs)
theorem Tree.over {v : Value} {f : Fo} {bs : List Nat} (h : Tree w base v f bs) (hb : Below w.heap.size w w') : Tree w' base v f bs := h.below (fun b hbs => (h.lt b hbs).2) hb
theorem Tree.slice {v : Value} {f : Fo} {bs : List Nat} (h : Tree w base v f bs) : ∃ A c, v = .slice A f.len c ∧ f.len ≤ c ∧ c ≤ maxLen := by
  obtain ⟨st, b1, h1, _⟩ := h
  exact own_slice h1
theorem Tree.none (w : World) (base : Nat) : Tree w base (.slice none 0 0) .nil [] := ⟨[], [], World.ownsRow_nil _ _ _ _, ⟨rfl, rfl⟩, rfl, List.nodup_nil⟩

/-- A tree of one's own lies in its blocks. -/
theorem OwnF.lies {B : Nat} : ∀ {f : Fo} {st : List Nx} {bs : List Nat}, OwnF w base f st bs → (∀ b, b ∈ bs → b < B) → ∀ (g i : Nat), base ≤ g → g < B → (∀ d u, (cells3 st)[d]? = some u → w.cell? ⟨g, i * 3 + d, none⟩ = some u) → Lies w base B (some ⟨g, 0, none⟩) i f
  | .nil, _, _, _, _, _, _, _, _, _ => trivial
  | .cons op n k r, _, _, ⟨A, c, stk, bk, st', b2, ⟨i1, i2⟩, h2, h3, h4, h5, h6⟩, hB, g, i, hg1, hg2, hc => by
    subst h6
    rw [h4] at hc
    obtain ⟨A', c', hv, hc1, hc2⟩ := own_slice h2
    cases hv
    have c0 := hc 0 (.int .i64 op) (by simp [cells3, Nx.cells])
    have c1 := hc 1 (.int .i64 n) (by simp [cells3, Nx.cells])
    have c2 := hc 2 (.slice A k.len c) (by simp [cells3, Nx.cells])
    refine ⟨⟨g, 0, A, c, rfl, hg1, hg2, i1, i2, by rw [Nat.zero_add]; exact c0, by rw [Nat.zero_add]; exact c1, by rw [Nat.zero_add]; exact c2, hc1, hc2, ?_⟩, ?_⟩
    · rcases h2.2 with ⟨hv, hn⟩ | ⟨g', cap, cur, hv, hb, hh, hle, _, hsz, htk⟩
      · cases k with
        | nil => trivial
        | cons _ _ _ _ => simp [Fo.len] at hn
      · injection hv with hA _ hcc
        subst hA hcc
        refine h3.lies (fun b hb => hB b (by simp [hb])) g' 0 hb (hB g' (by simp [blkOf])) fun d u hd => ?_
        refine (cell_of_row w g' (0 * 3 + d) cur _ _ hh).trans ?_
        have h1 : (cur.toList.take (k.len * 3))[d]? = some u := by rw [htk]; exact hd
        have hlt : d < k.len * 3 := by
          have := (List.getElem?_eq_some_iff.1 h1).1
          rw [List.length_take] at this
          omega
        rw [List.getElem?_take_of_lt hlt, Array.getElem?_toList] at h1
        rw [Nat.zero_mul, Nat.zero_add]
        exact h1
    · refine h5.lies (fun b hb => hB b (by simp [hb])) g (i + 1) hg1 hg2 fun d u hd => ?_
      have := hc (d + 3) u (by
        show (cells3 (⟨op, n, k, A, c⟩ :: st'))[d + 3]? = some u
        simp only [cells3, Nx.cells, List.cons_append, List.nil_append, List.getElem?_cons_succ]
        exact hd)
      rw [show (i + 1) * 3 + d = i * 3 + (d + 3) by omega]
      exact this
theorem Tree.lies {A : Option Addr} {l c : Nat} {f : Fo} {bs : List Nat} {B : Nat} (h : Tree w base (.slice A l c) f bs) (hB : ∀ b, b ∈ bs → b < B) : Lies w base B A 0 f := by
  obtain ⟨st, b1, h1, h2, rfl, _⟩ := h
  rcases h1.2 with ⟨hv, hn⟩ | ⟨g', cap, cur, hv, hb, hh, hle, _, hsz, htk⟩
  · cases f with
    | nil => trivial
    | cons _ _ _ _ => simp [Fo.len] at hn
  · injection hv with hA _ hcc
    subst hA
    refine h2.lies (fun b hb => hB b (by simp [hb])) g' 0 hb (hB g' (by simp [blkV, Value.ownBlock])) fun d u hd => ?_
    refine (cell_of_row w g' (0 * 3 + d) cur _ _ hh).trans ?_
    have h1 : (cur.toList.take (f.len * 3))[d]? = some u := by rw [htk]; exact hd
    have hlt : d < f.len * 3 := by
      have := (List.getElem?_eq_some_iff.1 h1).1
      rw [List.length_take] at this
      omega
    rw [List.getElem?_take_of_lt hlt, Array.getElem?_toList] at h1
    rw [Nat.zero_mul, Nat.zero_add]
    exact h1

/-- One more node behind an append. -/
theorem Tree.push {v v' : Value} {f : Fo} {st : List Nx} {b1 bk : List Nat} {op n : Int} {k : Fo} {A : Option Addr} {c : Nat} (_h1 : w.ownsRow base 36 3 v f.len (cells3 st)) (h2 : OwnF w base f st b1) (hk : Tree w base (.slice A k.len c) k bk) (hi : I64 op ∧ I64 n)
    (hnd : ((blkV v ++ b1) ++ bk).Nodup) (ho : w'.ownsRow base 36 3 v' (f.len + 1) (cells3 st ++ [.int .i64 op, .int .i64 n, .slice A k.len c])) (hg : w.grownBy w' v.ownBlock) (hblk : v'.ownBlock = v.ownBlock ∨ v'.ownBlock = some w.heap.size) :
    ∃ bs, Tree w' base v' (f.snoc op n k) bs ∧ ∀ b, b ∈ bs → b ∈ blkV v ++ b1 ∨ b ∈ bk ∨ b = w.heap.size := by
  obtain ⟨stk, b3, k1, k2, rfl, k4⟩ := hk
  rw [blkV_slice] at hnd k4
  have hs := OwnF.snoc hi k1 k2 h2
  have hlt := hs.lt
  have hnot : ∀ b, b ∈ b1 ++ (blkOf A ++ b3) → some b ≠ v.ownBlock := by
    intro b hb e
    have hv : b ∈ blkV v := by unfold blkV; rw [← e]; simp
    rw [List.append_assoc] at hnd
    exact (List.nodup_append.1 hnd).2.2 b hv b hb rfl
  have hs' : OwnF w' base (f.snoc op n k) (st ++ [⟨op, n, k, A, c⟩]) (b1 ++ (blkOf A ++ b3)) := hs.keep fun b hb => hg.block b (hlt b hb).2 (hnot b hb)
  refine ⟨blkV v' ++ (b1 ++ (blkOf A ++ b3)), ⟨_, _, ?_, hs', rfl, ?_⟩, ?_⟩
  · rw [Fo.snoc_len, cells3_append]
    exact ho
  · rw [List.append_assoc] at hnd
    have hnd2 := (List.nodup_append.1 hnd).2.1
    unfold blkV
    rcases hblk with e | e
    · rw [e]; exact hnd
    · rw [e]
      refine List.nodup_append.2 ⟨by simp, hnd2, ?_⟩
      intro a ha b hb e2
      have := (hlt b hb).2
      simp at ha
      omega
  · intro b hb
    rcases List.mem_append.1 hb with hb | hb
    · unfold blkV at hb
      rcases hblk with e | e
      · rw [e] at hb; exact .inl (List.mem_append_left _ hb)
      · rw [e] at hb; simp at hb; exact .inr (.inr hb)
    · rcases List.mem_append.1 hb with hb | hb
      · exact .inl (List.mem_append_right _ hb)
      · rw [blkV_slice]; exact .inr (.inl hb)
end

theorem row_grown {w w' : World} {g : Nat} {t : TypeId} {cs : Array Value} {b : Option Nat} (h : Row w g t cs) (hg : w.grownBy w' b) (hne : some g ≠ b) : Row w' g t cs := (hg.block g h.size hne).trans h

/-- The function has made the tree op, n, k anew. -/
def Makes (op n : Int) (k : Fo) (w : World) (e : Ending) (w' : World) : Prop :=
  ∃ A c bs, e = .returned (.agg #[.int .i64 op, .int .i64 n, .slice A k.len c]) ∧ Tree w' w.heap.size (.slice A k.len c) k bs ∧ Below w.heap.size w w'
end Go.Proofs.YtpknegneogdmfaaGreat

namespace Go.Proofs.YtpknegneogdmfaaGreat
open Go.RowKit Go.Shelf
set_option maxRecDepth 100000

theorem wpList_push {ops : Array Oper} {rest : List Oper} {o : Oper} {a : Act} {Q : Exit → Act → World → Prop} {wk : World} (hgd : o.guard = none) (s x : Operand)
    (ho : o.op = .call { callee := .builtin .append, args := #[s, x], argTypes := #[24, 24] })
    (base : Nat) (v : Value) (f : Fo) (bs bk : List Nat) (op n : Int) (k : Fo) (A : Option Addr) (c : Nat) (hs : a.eval s = v) (hx : a.eval x = .slice (some ⟨wk.heap.size, 0, none⟩) 1 1)
    (ht : Tree wk base v f bs) (hk : Tree wk base (.slice A k.len c) k bk) (hi : I64 op ∧ I64 n) (hd : ∀ b, b ∈ bs → b ∈ bk → False) (hlen : f.len ≤ 1048576) (hbase : base ≤ wk.heap.size)
    (h : ∀ v' w' bs', Tree w' base v' (f.snoc op n k) bs' → wk.grownBy w' v.ownBlock → (∀ b, b ∈ bs' → b ∈ bs ∨ b ∈ bk ∨ wk.heap.size ≤ b) → wpList Tryz.prog ops Q rest (a.put o.dst v') w') :
    wpList Tryz.prog ops Q (o :: rest) a (wk.alloc (.cells #[.int .i64 op, .int .i64 n, .slice A k.len c] 36)) := by
  have hb := (Below.refl wk.heap.size wk).alloc (Nat.le_refl _) (.cells #[.int .i64 op, .int .i64 n, .slice A k.len c] 36)
  have ht1 := ht.over hb
  have hk1 := hk.over hb
  have hlt := hk.lt
  obtain ⟨st, b1, h1, h2, h3, h4⟩ := ht1
  obtain ⟨iT, hiT, hiz0, hiz1, hiz2⟩ := info_parts (show (Tryz.prog.info? 36).map (fun i => (i.zero, i.size, i.bytes)) = some (some (.agg #[.int .i64 0, .int .i64 0, .slice none 0 0]), 3, 40) by kernel_rfl)
  refine wpList_append_own_at _ hgd s x 24 ho base 36 iT _ 3 40 Tryz.underlying24 hiT hiz0 hiz1 hiz2 rfl (by decide) v f.len (cells3 st) hs h1 ⟨wk.heap.size, 0, none⟩ 1 1 [.int .i64 op, .int .i64 n, .slice A k.len c] hx rfl
    (fresh_cells wk 36 _) ?_ (by unfold maxLen; omega) (by omega) (Nat.le_trans hbase hb.size) ?_
  · intro u hu
    simp at hu
    rcases hu with rfl | rfl | rfl <;> rfl
  · intro v' w' ho' hg _ hblk
    have hnd : ((blkV v ++ b1) ++ bk).Nodup := by
      rw [← h3]
      obtain ⟨_, _, _, _, _, hkn⟩ := hk
      exact List.nodup_append.2 ⟨h4, hkn, fun p hp q hq e => hd p hp (e ▸ hq)⟩
    obtain ⟨bs', ht', hin⟩ := Tree.push h1 h2 hk1 hi hnd ho' hg hblk
    have hgs : wk.grownBy w' v.ownBlock := ⟨hg.os, hg.tape, hg.output, Nat.le_trans hb.size hg.size, fun q hq hr => (hg.block q (Nat.lt_of_lt_of_le hq hb.size) hr).trans (hb.block q hq)⟩
    refine h v' w' bs' ht' hgs fun b hbb => ?_
    rcases hin b hbb with h | h | h
    · exact .inl (by rw [h3]; exact h)
    · exact .inr (.inl h)
    · exact .inr (.inr (by rw [h]; exact hb.size))

/-- The same as one step of a region that draws its order. -/
theorem step_push {ops : Array Oper} {o : Oper} {a : Act} {K : Act → World → Prop} {Q : Exit → Act → World → Prop} {E : Prop} {wk : World} (hgd : o.guard = none) (s x : Operand)
    (ho : o.op = .call { callee := .builtin .append, args := #[s, x], argTypes := #[24, 24] })
    (base : Nat) (v : Value) (f : Fo) (bs bk : List Nat) (op n : Int) (k : Fo) (A : Option Addr) (c : Nat) (hs : a.eval s = v) (hx : a.eval x = .slice (some ⟨wk.heap.size, 0, none⟩) 1 1)
    (ht : Tree wk base v f bs) (hk : Tree wk base (.slice A k.len c) k bk) (hi : I64 op ∧ I64 n) (hd : ∀ b, b ∈ bs → b ∈ bk → False) (hlen : f.len ≤ 1048576) (hbase : base ≤ wk.heap.size)
    (h : ∀ v' w' bs', Tree w' base v' (f.snoc op n k) bs' → wk.grownBy w' v.ownBlock → (∀ b, b ∈ bs' → b ∈ bs ∨ b ∈ bk ∨ wk.heap.size ≤ b) → K (a.put o.dst v') w') :
    if Region.wanted o (yielded ops a.tmps) = true then Oper.wp Tryz.prog o a (wk.alloc (.cells #[.int .i64 op, .int .i64 n, .slice A k.len c] 36)) K Q else E := by
  have hw : Region.wanted o (yielded ops a.tmps) = true := by simp [Region.wanted, hgd]
  rw [if_pos hw]
  have hb := (Below.refl wk.heap.size wk).alloc (Nat.le_refl _) (.cells #[.int .i64 op, .int .i64 n, .slice A k.len c] 36)
  have ht1 := ht.over hb
  have hk1 := hk.over hb
  obtain ⟨st, b1, h1, h2, h3, h4⟩ := ht1
  obtain ⟨iT, hiT, hiz0, hiz1, hiz2⟩ := info_parts (show (Tryz.prog.info? 36).map (fun i => (i.zero, i.size, i.bytes)) = some (some (.agg #[.int .i64 0, .int .i64 0, .slice none 0 0]), 3, 40) by kernel_rfl)
  have h1c : ∀ u ∈ [Value.int .i64 op, .int .i64 n, .slice A k.len c], u.oneCell' = true := by
    intro u hu
    simp at hu
    rcases hu with rfl | rfl | rfl <;> rfl
  obtain ⟨v', w', hr, ho', hg, _, hblk⟩ := run_append_own_at (P := Tryz.prog) (wk.alloc (.cells #[.int .i64 op, .int .i64 n, .slice A k.len c] 36)) base 24 o.type 36 iT _ 3 40 Tryz.underlying24 hiT hiz0 hiz1 hiz2 rfl (by decide) v f.len (cells3 st) h1 ⟨wk.heap.size, 0, none⟩ 1 1 [.int .i64 op, .int .i64 n, .slice A k.len c] rfl
    (fresh_cells wk 36 _) h1c (by unfold maxLen; omega) (by omega) (Nat.le_trans hbase hb.size)
  unfold Oper.wp
  simp [execOp, ho, resolve, invoke, builtin, hs, hx, hr, Result.andThen]
  have hnd : ((blkV v ++ b1) ++ bk).Nodup := by
    rw [← h3]
    obtain ⟨_, _, _, _, _, hkn⟩ := hk
    exact List.nodup_append.2 ⟨h4, hkn, fun p hp q hq e => hd p hp (e ▸ hq)⟩
  obtain ⟨bs', ht', hin⟩ := Tree.push h1 h2 hk1 hi hnd ho' hg hblk
  have hgs : wk.grownBy w' v.ownBlock := ⟨hg.os, hg.tape, hg.output, Nat.le_trans hb.size hg.size, fun q hq hr => (hg.block q (Nat.lt_of_lt_of_le hq hb.size) hr).trans (hb.block q hq)⟩
  refine h v' w' bs' ht' hgs fun b hbb => ?_
  rcases hin b hbb with h | h | h
  · exact .inl (by rw [h3]; exact h)
  · exact .inr (.inl h)
  · exact .inr (.inr (by rw [h]; exact hb.size))

/-- append whose run is known. -/
theorem wpList_append_ran {P : Program} {w w1 : World} {ops : Array Oper} {rest : List Oper} {o : Oper} {a : Act} {Q : Exit → Act → World → Prop} (hgd : o.guard = none) (s x : Operand) (t : TypeId)
    (ho : o.op = .call { callee := .builtin .append, args := #[s, x], argTypes := #[t, t] }) (v u v1 : Value) (hs : a.eval s = v) (hx : a.eval x = u) (hrun : (Builtin.append_ #[t, t] o.type #[v, u]).run P w = .ok v1 w1)
    (h : wpList P ops Q rest (a.put o.dst v1) w1) : wpList P ops Q (o :: rest) a w := by
  refine wpList_plain hgd fun K hK => ?_
  unfold Oper.wp execOp
  simp only [ho, resolve, invoke, builtin, Sem.run_bind, Sem.run_pure, Result.andThen_ok, List.map_toArray, List.map_cons, List.map_nil, hs, hx, hrun]
  exact hK _ _ h

/-- A call of a function, by its contract, as one step of a region that draws its order. -/
theorem step_call {P : Program} {ops : Array Oper} {o : Oper} {a : Act} {w : World} {K : Act → World → Prop} {Q : Exit → Act → World → Prop} {E : Prop} {f : FuncId} {vs : Array Value} {R : Ending → World → Prop} (hgd : o.guard = none)
    (hrun : (execOp a.eval o).run P w = .ok (.enter f vs) w) (hc : Calls P f vs w R) (h : ∀ e w', R e w' → ∃ v, e = .returned v ∧ K (a.put o.dst v) w') :
    if Region.wanted o (yielded ops a.tmps) = true then Oper.wp P o a w K Q else E := by
  have hw : Region.wanted o (yielded ops a.tmps) = true := by simp [Region.wanted, hgd]
  rw [if_pos hw]
  unfold Oper.wp
  rw [hrun, Oper.upon_enter]
  refine hc.mono fun e w' hr => ?_
  obtain ⟨v, rfl, hk⟩ := h e w' hr
  exact hk
end Go.Proofs.YtpknegneogdmfaaGreat

namespace Go.Proofs.YtpknegneogdmfaaGreat
open Go.RowKit Go.Shelf
set_option maxRecDepth 100000

/-- At the head of a round of a loop that builds a node's Kids: the box of the node is cB. -/
def Round (k : Fo) (R : Fo → Fo) (op n : Int) (base cB : Nat) (w : World) (i : Value) (wr : World) : Prop :=
  ∃ (j : Nat) (pre : Fo) (A : Option Addr) (c : Nat) (bs : List Nat), j ≤ k.len ∧ i = .int .i64 (j : Int) ∧ pre.len = j ∧ pre.app (R (k.drop j)) = R k ∧ Row wr cB 36 #[.int .i64 op, .int .i64 n, .slice A pre.len c] ∧
    Tree wr base (.slice A pre.len c) pre bs ∧ Below w.heap.size w wr
end Go.Proofs.YtpknegneogdmfaaGreat
