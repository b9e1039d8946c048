/-
  Marks over a tree of the call's own: laws.markExprS and laws.markExpr; they are found again by laws.heldExprS and laws.heldExpr.
  What the walks of laws with a node as result need: its size, and marks beside trees of the call's own.
  The two nodes of a list that is the call's own.
-/
import Derived.Test.YtiefobkddckkbaaTree
import Derived.Test.YtiefobkddckkbaaPutD
import Derived.Test.YtiefobkddckkbaaMk
import Derived.Test.YtiefobkddckkbaaOpen
import Derived.Test.YtiefobkddckkbaaTake
namespace Go.Proofs.Ytiefobkddckkbaa
open Go.RowKit Go.Shelf
set_option maxRecDepth 100000

/-- A node that a call has made, and whether it could. -/
def GivesN (y : Nd) (ok : Bool) (w : World) (e : Ending) (w' : World) : Prop := ∃ A c bs, e = .returned (.tuple #[.agg #[.int .i64 y.op, .int .i64 y.n, .slice A y.k.len c], .bool ok]) ∧ Tree w' w.heap.size (.slice A y.k.len c) y.k bs ∧ Below w.heap.size w w'
def nd0 : Nd := ⟨0, 0, .nil⟩
theorem GivesN.zero {w w' : World} (hb : Below w.heap.size w w') : GivesN nd0 false w (.returned (.tuple #[.agg #[.int .i64 0, .int .i64 0, .slice none 0 0], .bool false])) w' := ⟨none, 0, [], rfl, Tree.none _ _, hb⟩
theorem inVar_at {m : Int} (h : inVar m = true) : ∃ v : Nat, v < 8 ∧ m = (v : Int) := ⟨m.toNat, by unfold inVar at h; simp at h; omega, by unfold inVar at h; simp at h; omega⟩
def ndIs (p : Nd) : Bool := nodeIs p.op p.n p.k (firstS 8)
theorem ndIs_small {p : Nd} (h : ndIs p = true) : smallOk p.k 14 80 = true := by
  unfold ndIs at h
  rw [nodeIs_eq, Bool.and_eq_true] at h
  exact h.1
theorem inVar_i64 {v : Int} (h : inVar v = true) : I64 v := by
  unfold inVar at h
  simp only [Bool.and_eq_true, decide_eq_true_iff] at h
  unfold I64
  omega

def markF : Fo → Int → Fo
  | .nil, _ => .nil
  | .cons _ _ k r, x => .cons x (x + 1) (markF k (x + 2)) (markF r (x + 2 + 2 * (k.size : Int)))
theorem markF_len : ∀ (f : Fo) (x : Int), (markF f x).len = f.len
  | .nil, _ => rfl
  | .cons _ _ _ r, _ => by simp only [markF, Fo.len, markF_len r]
theorem markF_size : ∀ (f : Fo) (x : Int), (markF f x).size = f.size
  | .nil, _ => rfl
  | .cons _ _ k r, _ => by simp only [markF, Fo.size, markF_size k, markF_size r]
/-- How far the count is ahead of the node j. -/
def ahead (f : Fo) (j : Nat) : Nat := f.size - (f.drop j).size
def mixF : Nat → Fo → Int → Fo
  | 0, f, _ => f
  | _ + 1, .nil, _ => .nil
  | j + 1, .cons _ _ k r, x => .cons x (x + 1) (markF k (x + 2)) (mixF j r (x + 2 + 2 * (k.size : Int)))
theorem mixF_len : ∀ (j : Nat) (f : Fo) (x : Int), (mixF j f x).len = f.len
  | 0, _, _ => rfl
  | _ + 1, .nil, _ => rfl
  | j + 1, .cons _ _ _ r, _ => by simp only [mixF, Fo.len, mixF_len j r]
theorem mixF_drop : ∀ (j : Nat) (f : Fo) (x : Int), (mixF j f x).drop j = f.drop j
  | 0, _, _ => rfl
  | _ + 1, .nil, _ => rfl
  | j + 1, .cons _ _ _ r, _ => mixF_drop j r _
theorem mixF_all : ∀ (f : Fo) (x : Int), mixF f.len f x = markF f x
  | .nil, _ => rfl
  | .cons _ _ k r, x => by simp only [Fo.len, mixF, markF, mixF_all r]
/-- The node j with other numbers and other Kids. -/
def setN : Nat → Fo → Int → Int → Fo → Fo
  | _, .nil, _, _, _ => .nil
  | 0, .cons _ _ _ r, op, n, k => .cons op n k r
  | j + 1, .cons o m k' r, op, n, k => .cons o m k' (setN j r op n k)
theorem setN_len : ∀ (j : Nat) (f : Fo) (op n : Int) (k : Fo), (setN j f op n k).len = f.len
  | _, .nil, _, _, _ => by simp only [setN]
  | 0, .cons _ _ _ _, _, _, _ => rfl
  | j + 1, .cons _ _ _ r, op, n, k => by simp only [setN, Fo.len, setN_len j r]
theorem drop_le : ∀ (f : Fo) (j : Nat), (f.drop j).size ≤ f.size
  | f, 0 => by rw [Fo.drop_zero]; exact Nat.le_refl _
  | .nil, j + 1 => by rw [Fo.drop_nil]; exact Nat.le_refl _
  | .cons _ _ k r, j + 1 => by have := drop_le r j; simp only [Fo.drop, Fo.size]; omega
theorem mix_step : ∀ (j : Nat) (f : Fo) (x : Int) {o m : Int} {k r : Fo}, f.drop j = .cons o m k r →
    mixF (j + 1) f x = setN j (mixF j f x) (x + 2 * (ahead f j : Int)) (x + 2 * (ahead f j : Int) + 1) (markF k (x + 2 * (ahead f j : Int) + 2))
  | 0, .nil, _, _, _, _, _, e => by cases e
  | 0, .cons _ _ k r, x, _, _, _, _, e => by
    rw [Fo.drop_zero] at e
    cases e
    simp [mixF, setN, ahead, Fo.drop_zero]
  | j + 1, .nil, _, _, _, _, _, e => by rw [Fo.drop_nil] at e; cases e
  | j + 1, .cons _ _ k' r', x, o, m, k, r, e => by
    have ih := mix_step j r' (x + 2 + 2 * (k'.size : Int)) (o := o) (m := m) (k := k) (r := r) e
    have hd := drop_le r' j
    have ha : (ahead (.cons x x k' r') (j + 1) : Int) = 1 + (k'.size : Int) + (ahead r' j : Int) := by
      unfold ahead
      simp only [Fo.drop, Fo.size]
      omega
    have ha2 : ∀ a b : Int, (ahead (.cons a b k' r') (j + 1) : Int) = 1 + (k'.size : Int) + (ahead r' j : Int) := fun a b => ha
    rw [show mixF (j + 1 + 1) (.cons _ _ k' r') x = .cons x (x + 1) (markF k' (x + 2)) (mixF (j + 1) r' (x + 2 + 2 * (k'.size : Int))) from rfl, ih, ha2]
    rw [show x + 2 + 2 * (k'.size : Int) + 2 * (ahead r' j : Int) = x + 2 * (1 + (k'.size : Int) + (ahead r' j : Int)) by omega]
    rfl
theorem mark_drop : ∀ (j : Nat) (f : Fo) (x : Int) {o m : Int} {k r : Fo}, f.drop j = .cons o m k r →
    ∃ r', (markF f x).drop j = .cons (x + 2 * (ahead f j : Int)) (x + 2 * (ahead f j : Int) + 1) (markF k (x + 2 * (ahead f j : Int) + 2)) r'
  | 0, .nil, _, _, _, _, _, e => by cases e
  | 0, .cons _ _ k r, x, _, _, _, _, e => by
    rw [Fo.drop_zero] at e
    cases e
    exact ⟨_, by simp [markF, ahead, Fo.drop_zero]; rfl⟩
  | j + 1, .nil, _, _, _, _, _, e => by rw [Fo.drop_nil] at e; cases e
  | j + 1, .cons _ _ k' r', x, o, m, k, r, e => by
    obtain ⟨r2, ih⟩ := mark_drop j r' (x + 2 + 2 * (k'.size : Int)) (o := o) (m := m) (k := k) (r := r) e
    have hd := drop_le r' j
    have ha2 : ∀ a b : Int, (ahead (.cons a b k' r') (j + 1) : Int) = 1 + (k'.size : Int) + (ahead r' j : Int) := fun a b => by
      unfold ahead
      simp only [Fo.drop, Fo.size]
      omega
    refine ⟨r2, ?_⟩
    rw [ha2, ← show x + 2 + 2 * (k'.size : Int) + 2 * (ahead r' j : Int) = x + 2 * (1 + (k'.size : Int) + (ahead r' j : Int)) by omega]
    exact ih

theorem OwnF.at_ {w : World} {base : Nat} : ∀ {f : Fo} {st : List Nx} {b1 : List Nat} (j : Nat) {o m : Int} {k r : Fo}, OwnF w base f st b1 → f.drop j = .cons o m k r →
    ∃ A c stk bk p q, (I64 o ∧ I64 m) ∧ st[j]? = some ⟨o, m, k, A, c⟩ ∧ w.ownsRow base 33 3 (.slice A k.len c) k.len (cells3 stk) ∧ OwnF w base k stk bk ∧ b1 = p ++ ((blkOf A ++ bk) ++ q) ∧
      ∀ (w' : World) (y y' : Int) (k' : Fo) (stk' : List Nx), (∀ z, z ∈ p ++ q → w'.heap[z]? = w.heap[z]?) → (I64 y ∧ I64 y') → k'.len = k.len → w'.ownsRow base 33 3 (.slice A k'.len c) k'.len (cells3 stk') → OwnF w' base k' stk' bk →
        OwnF w' base (setN j f y y' k') (st.set j ⟨y, y', k', A, c⟩) b1
  | .nil, _, _, j, _, _, _, _, _, e => by rw [Fo.drop_nil] at e; cases e
  | .cons o' m' k0 r0, st, b1, 0, o, m, k, r, h, e => by
    rw [Fo.drop_zero] at e
    cases e
    obtain ⟨A, c, stk, bk, st', b2, h1, h2, h3, h4, h5, h6⟩ := h
    subst h4 h6
    refine ⟨A, c, stk, bk, [], b2, h1, rfl, h2, h3, rfl, fun w' y y' k' stk' hk hi hlen ho hof => ?_⟩
    exact ⟨A, c, stk', bk, st', b2, hi, ho, hof, rfl, h5.keep (fun z hz => hk z (by simpa using hz)), rfl⟩
  | .cons o' m' k0 r0, st, b1, j + 1, o, m, k, r, h, e => by
    obtain ⟨A0, c0, stk0, bk0, st', b2, h1, h2, h3, h4, h5, h6⟩ := h
    subst h4 h6
    obtain ⟨A, c, stk, bk, p, q, g1, g2, g3, g4, g5, g6⟩ := OwnF.at_ (f := r0) j h5 e
    subst g5
    refine ⟨A, c, stk, bk, (blkOf A0 ++ bk0) ++ p, q, g1, by simpa using g2, g3, g4, by simp [List.append_assoc], fun w' y y' k' stk' hk hi hlen ho hof => ?_⟩
    refine ⟨A0, c0, stk0, bk0, _, _, h1, own_at h2 fun z hz => hk z ?_, h3.keep fun z hz => hk z (by simp [hz]), rfl, g6 w' y y' k' stk' (fun z hz => hk z ?_) hi hlen ho hof, rfl⟩
    · cases A0 with
      | none => cases hz
      | some a => cases hz; simp [blkOf]
    · simp only [List.mem_append] at hz ⊢
      rcases hz with hz | hz
      · exact .inl (.inr hz)
      · exact .inr hz

/-- One node of a tree of the call's own, and the tree where that node is turned. -/
theorem Tree.at_ {w : World} {base : Nat} {v : Value} {f : Fo} {bs : List Nat} (h : Tree w base v f bs) {j : Nat} {o m : Int} {k r : Fo} (e : f.drop j = .cons o m k r) :
    ∃ g cap A c bk cs, v = .slice (some ⟨g, 0, Option.none⟩) f.len cap ∧ base ≤ g ∧ g ∉ bk ∧ g ∈ bs ∧ (∀ z, z ∈ bk → z ∈ bs) ∧ (I64 o ∧ I64 m) ∧ Tree w base (.slice A k.len c) k bk ∧ Row w g 33 cs ∧ cs[j * 3]? = some (.int .i64 o) ∧ cs[j * 3 + 1]? = some (.int .i64 m) ∧ cs[j * 3 + 2]? = some (.slice A k.len c) ∧
      ∀ (w' : World) (y y' : Int) (k' : Fo), (∀ z, z ∈ bs → z ≠ g → z ∉ bk → w'.heap[z]? = w.heap[z]?) → (I64 y ∧ I64 y') → k'.len = k.len → Tree w' base (.slice A k.len c) k' bk → Row w' g 33 ((cs.setIfInBounds (j * 3) (.int .i64 y)).setIfInBounds (j * 3 + 1) (.int .i64 y')) →
        Tree w' base v (setN j f y y' k') bs := by
  obtain ⟨st, b1, h1, h2, rfl, h4⟩ := h
  obtain ⟨A, c, stk, bk, p, q, g1, g2, g3, g4, g5, g6⟩ := OwnF.at_ j h2 e
  have hst := h2.len
  have hj : j < st.length := (List.getElem?_eq_some_iff.1 g2).1
  obtain ⟨c0, c1, c2⟩ := cells3_at st j _ g2
  dsimp only at c0 c1 c2
  rcases h1.2 with ⟨hv, hn⟩ | ⟨g, cap, cur, hv, hb, hh, hle, hcap, hsz, htk⟩
  · omega
  subst hv
  have hcl := length_cells3 st
  have hbv : blkV (.slice (some ⟨g, 0, Option.none⟩) f.len cap) = [g] := rfl
  rw [hbv] at h4 ⊢
  have hgb : g ∉ b1 := by
    intro hg
    exact (List.nodup_append.1 h4).2.2 g (by simp) g hg rfl
  have hb1 : (p ++ ((blkOf A ++ bk) ++ q)).Nodup := by rw [← g5]; exact (List.nodup_append.1 h4).2.1
  have hcell : ∀ d u, d < 3 → (cells3 st)[j * 3 + d]? = some u → cur[j * 3 + d]? = some u := by
    intro d u hd hu
    rw [← htk] at hu
    rw [List.getElem?_take_of_lt (by omega), Array.getElem?_toList] at hu
    exact hu
  refine ⟨g, cap, A, c, blkV (.slice A k.len c) ++ bk, cur, rfl, hb, ?_, by simp, ?_, g1, ⟨stk, bk, g3, g4, rfl, ?_⟩, hh, hcell 0 _ (by omega) c0, hcell 1 _ (by omega) c1, hcell 2 _ (by omega) c2, ?_⟩
  · rw [blkV_slice]
    intro hg
    exact hgb (by rw [g5]; simp only [List.mem_append] at hg ⊢; exact .inr (.inl hg))
  · intro z hz
    rw [blkV_slice] at hz
    rw [g5]
    simp only [List.mem_append] at hz ⊢
    exact .inr (.inr (.inl hz))
  · rw [blkV_slice]
    exact (List.nodup_append.1 (List.nodup_append.1 hb1).2.1).1
  · intro w' y y' k' hk hi hlen ht' hr'
    obtain ⟨stk', bk', t1, t2, t3, t4⟩ := ht'
    rw [blkV_slice] at t3
    have hbk : bk' = bk := (List.append_cancel_left t3).symm
    subst hbk
    have hdis : ∀ z, z ∈ p ++ q → z ∉ blkOf A ++ bk' := by
      intro z hz hz2
      rcases List.mem_append.1 hz with hz | hz
      · exact (List.nodup_append.1 hb1).2.2 z hz z (List.mem_append_left _ hz2) rfl
      · exact (List.nodup_append.1 (List.nodup_append.1 hb1).2.1).2.2 z hz2 z hz rfl
    have hof := g6 w' y y' k' stk' (fun z hz => hk z (by rw [g5]; simp only [List.mem_append] at hz ⊢; rcases hz with hz | hz <;> simp [hz]) (fun ez => hgb (by rw [← ez, g5]; simp only [List.mem_append] at hz ⊢; rcases hz with hz | hz <;> simp [hz])) (by rw [blkV_slice]; exact hdis z hz)) hi hlen (by rw [hlen]; exact hlen ▸ t1) t2
    refine ⟨_, b1, ⟨?_, .inr ⟨g, cap, _, by rw [setN_len], hb, hr', by rw [setN_len]; exact hle, hcap, by simpa using hsz, ?_⟩⟩, hof, by rw [hbv], h4⟩
    · rw [length_cells3, List.length_set, setN_len, hst]
    · rw [setN_len, cells3_set, hlen]
      dsimp only
      rw [Array.toList_setIfInBounds, Array.toList_setIfInBounds, List.take_set, List.take_set, htk]
      have c2' : (((cells3 st).set (j * 3) (Value.int .i64 y)).set (j * 3 + 1) (Value.int .i64 y'))[j * 3 + 2]? = some (.slice A k.len c) := by
        rw [List.getElem?_set_ne (by omega), List.getElem?_set_ne (by omega)]
        exact c2
      exact (list_set_same c2').symm

/-- Nothing is turned but in these blocks. -/
structure OnlyIn (bs : List Nat) (w w' : World) : Prop where
  os : w'.os = w.os
  tape : w'.tape = w.tape
  output : w'.output = w.output
  size : w.heap.size ≤ w'.heap.size
  block : ∀ q, q < w.heap.size → q ∉ bs → w'.heap[q]? = w.heap[q]?
theorem OnlyIn.refl (bs : List Nat) (w : World) : OnlyIn bs w w := ⟨rfl, rfl, rfl, Nat.le_refl _, fun _ _ _ => rfl⟩
theorem OnlyIn.trans {bs : List Nat} {a b c : World} (h : OnlyIn bs a b) (k : OnlyIn bs b c) : OnlyIn bs a c :=
  ⟨k.os.trans h.os, k.tape.trans h.tape, k.output.trans h.output, Nat.le_trans h.size k.size, fun q hq hb => (k.block q (Nat.lt_of_lt_of_le hq h.size) hb).trans (h.block q hq hb)⟩
theorem OnlyIn.more {bs cs : List Nat} {a b : World} (h : OnlyIn bs a b) (hs : ∀ z, z ∈ bs → z ∈ cs) : OnlyIn cs a b := ⟨h.os, h.tape, h.output, h.size, fun q hq hb => h.block q hq (fun hz => hb (hs q hz))⟩
theorem OnlyIn.set {bs : List Nat} {a : World} {p : Addr} (hp : p.block ∈ bs) (u : Value) : OnlyIn bs a (a.setCell p u) :=
  ⟨rfl, rfl, rfl, by simp [World.setCell], fun q _ hb => Below.heap_setCell a p u q (fun e => hb (e ▸ hp))⟩
theorem OnlyIn.of_below {bs : List Nat} {a b : World} (h : Below a.heap.size a b) : OnlyIn bs a b := ⟨h.os, h.tape, h.output, h.size, fun q hq _ => h.block q hq⟩

end Go.Proofs.Ytiefobkddckkbaa

namespace Go.Proofs.Ytiefobkddckkbaa
open Go.RowKit Go.Shelf
set_option maxRecDepth 100000

theorem MkS.tree {L B : Nat} {w w' : World} {base : Nat} {v : Value} {f : Fo} {bs : List Nat} (h : MkS L B w w') (ht : Tree w base v f bs) (hB : B ≤ base) : Tree w' base v f bs :=
  ht.keep fun b hb => h.out b (ht.lt b hb).2 (.inr (Nat.le_trans hB (ht.lt b hb).1))
theorem OnlyIn.row {bs : List Nat} {w w' : World} {g : Nat} {t : TypeId} {cs : Array Value} (h : OnlyIn bs w w') (hr : Row w g t cs) (hg : g ∉ bs) : Row w' g t cs := (h.block g hr.size hg).trans hr
theorem OnlyIn.cell {bs : List Nat} {w w' : World} {p : Addr} (h : OnlyIn bs w w') (hp : p.block < w.heap.size) (hg : p.block ∉ bs) : w'.cell? p = w.cell? p := World.cell?_of_block (w := w) (h.block p.block hp hg)
theorem OnlyIn.below {bs : List Nat} {w w' : World} {B : Nat} (h : OnlyIn bs w w') (hB : ∀ z, z ∈ bs → B ≤ z) (hz : B ≤ w.heap.size) : Below B w w' :=
  ⟨h.os, h.tape, h.output, h.size, fun q hq => h.block q (Nat.lt_of_lt_of_le hq hz) (fun hb => by have := hB q hb; omega)⟩
end Go.Proofs.Ytiefobkddckkbaa

namespace Go.Proofs.Ytiefobkddckkbaa
open Go.RowKit Go.Shelf
set_option maxRecDepth 100000

theorem Tree.two {w : World} {base : Nat} {A : Option Addr} {l c : Nat} {o m o' m' : Int} {k k' : Fo} {bs : List Nat} (h : Tree w base (.slice A l c) (.cons o m k (.cons o' m' k' .nil)) bs) :
    ∃ g X cx X' cx' b1 b2 cs, A = some ⟨g, 0, Option.none⟩ ∧ l = 2 ∧ base ≤ g ∧ Row w g 33 cs ∧ cs[0]? = some (.int .i64 o) ∧ cs[1]? = some (.int .i64 m) ∧ cs[2]? = some (.slice X k.len cx) ∧ cs[3]? = some (.int .i64 o') ∧ cs[4]? = some (.int .i64 m') ∧ cs[5]? = some (.slice X' k'.len cx') ∧
      Tree w base (.slice X k.len cx) k b1 ∧ Tree w base (.slice X' k'.len cx') k' b2 ∧ (I64 o ∧ I64 m) ∧ (I64 o' ∧ I64 m') ∧ (∀ z, z ∈ b1 → z ∈ bs) ∧ (∀ z, z ∈ b2 → z ∈ bs) := by
  obtain ⟨g, cap, X, cx, b1, cs, hv, h1, _, _, h3, h4, h5, h6, h7, h8, h9, _⟩ := h.at_ (j := 0) (o := o) (m := m) (k := k) rfl
  obtain ⟨g', cap', X', cx', b2, cs', hv', h1', _, _, h3', h4', h5', h6', h7', h8', h9', _⟩ := h.at_ (j := 1) (o := o') (m := m') (k := k') rfl
  injection hv with e1 e2 e3
  injection hv' with e1' e2' e3'
  subst e1
  injection e1' with e1'
  injection e1' with e1' _
  subst e1'
  have hcs : cs' = cs := by
    have q := h6'.symm.trans h6
    injection q with q
    injection q
  rw [hcs] at h7' h8' h9'
  exact ⟨g, X, cx, X', cx', b1, b2, cs, rfl, e2, h1, h6, h7, h8, h9, h7', h8', h9', h5, h5', h4, h4', h3, h3'⟩
theorem Tree.lies0 {w : World} {base : Nat} {A : Option Addr} {l c : Nat} {f : Fo} {bs : List Nat} (h : Tree w base (.slice A l c) f bs) : Lies w 0 w.heap.size A 0 f :=
  (h.lies fun z hz => (h.lt z hz).2).mono_ (Nat.zero_le _) (Nat.le_refl _)
theorem Tree.le {w : World} {base : Nat} {A : Option Addr} {l c : Nat} {f : Fo} {bs : List Nat} (h : Tree w base (.slice A l c) f bs) : f.len ≤ c ∧ c ≤ maxLen := by
  obtain ⟨A', c', hv, h1, h2⟩ := h.slice
  injection hv with _ _ e3
  subst e3
  exact ⟨h1, h2⟩
theorem Tree.keep_at {w : World} {base : Nat} {v : Value} {f : Fo} {bs : List Nat} (h : Tree w base v f bs) {p : Addr} (hp : p.block ∉ bs) (u : Value) : Tree (w.setCell p u) base v f bs :=
  h.keep fun b hb => Below.heap_setCell w p u b (fun e => hp (e ▸ hb))
/-- A node is stored into a box of its own (the result's): what it was, what it is; the tree stays. -/
theorem box3 {w W : World} {g n0 : Nat} {z0 z1 z2 : Value} (hr : Row W g 33 #[z0, z1, z2]) (hb : Below n0 w W) (hg : n0 ≤ g) (o m : Int) (A : Option Addr) (l c : Nat) {base : Nat} {v : Value} {k : Fo} {bz : List Nat} (ht : Tree W base v k bz) (hap : g ∉ bz) :
    (W.cell? ⟨g, 0, none⟩ = some z0 ∧ W.cell? ⟨g, 1, none⟩ = some z1 ∧ W.cell? ⟨g, 2, none⟩ = some z2) ∧ (W.frozen? ⟨g, 0, none⟩ = false ∧ W.frozen? ⟨g, 1, none⟩ = false ∧ W.frozen? ⟨g, 2, none⟩ = false) ∧
    ((((W.setCell ⟨g, 0, none⟩ (.int .i64 o)).setCell ⟨g, 1, none⟩ (.int .i64 m)).setCell ⟨g, 2, none⟩ (.slice A l c)).cell? ⟨g, 0, none⟩ = some (.int .i64 o) ∧ (((W.setCell ⟨g, 0, none⟩ (.int .i64 o)).setCell ⟨g, 1, none⟩ (.int .i64 m)).setCell ⟨g, 2, none⟩ (.slice A l c)).cell? ⟨g, 1, none⟩ = some (.int .i64 m) ∧ (((W.setCell ⟨g, 0, none⟩ (.int .i64 o)).setCell ⟨g, 1, none⟩ (.int .i64 m)).setCell ⟨g, 2, none⟩ (.slice A l c)).cell? ⟨g, 2, none⟩ = some (.slice A l c)) ∧
    Below n0 w (((W.setCell ⟨g, 0, none⟩ (.int .i64 o)).setCell ⟨g, 1, none⟩ (.int .i64 m)).setCell ⟨g, 2, none⟩ (.slice A l c)) ∧ Tree (((W.setCell ⟨g, 0, none⟩ (.int .i64 o)).setCell ⟨g, 1, none⟩ (.int .i64 m)).setCell ⟨g, 2, none⟩ (.slice A l c)) base v k bz := by
  have h3 := ((hr.put 0 (.int .i64 o)).put 1 (.int .i64 m)).put 2 (.slice A l c)
  exact ⟨⟨hr.cell (i := 0) rfl, hr.cell (i := 1) rfl, hr.cell (i := 2) rfl⟩, ⟨hr.free 0, hr.free 1, hr.free 2⟩, ⟨h3.cell (i := 0) rfl, h3.cell (i := 1) rfl, h3.cell (i := 2) rfl⟩,
    ((hb.setCell (p := ⟨g, 0, none⟩) hg _).setCell (p := ⟨g, 1, none⟩) hg _).setCell (p := ⟨g, 2, none⟩) hg _, ((ht.keep_at (p := ⟨g, 0, none⟩) hap _).keep_at (p := ⟨g, 1, none⟩) hap _).keep_at (p := ⟨g, 2, none⟩) hap _⟩
end Go.Proofs.Ytiefobkddckkbaa
