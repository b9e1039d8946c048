/-
  A tree of one's own stands in plain rows; a node of it with all that its readers want.
-/
import Derived.Test.YtpknegneogdmfaaGreatTree
import Derived.Test.YtpknegneogdmfaaGreatEndless
namespace Go.Proofs.YtpknegneogdmfaaGreat
open Go.RowKit
set_option maxRecDepth 100000

theorem PlainF.at_ {w : World} {B : Nat} {A : Option Addr} : ∀ {f : Fo} {i : Nat} (j : Nat), PlainF w B A i f → PlainF w B A (i + j) (f.drop j)
  | f, i, 0, h => by simpa [Fo.drop_zero] using h
  | .nil, _, j + 1, _ => by simp [Fo.drop, PlainF]
  | .cons _ _ _ r, i, j + 1, h => by
    have := PlainF.at_ (f := r) (i := i + 1) j h.2
    simpa [Fo.drop, Nat.add_assoc, Nat.add_comm 1 j] using this

theorem OwnF.plain {w : World} {base B : Nat} : ∀ {f : Fo} {st : List Nx} {bs : List Nat}, OwnF w base f st bs → (∀ b, b ∈ bs → b < B) → ∀ (g i : Nat), g < B → OnRow w ⟨g, 0, none⟩ → (∀ d u, (cells3 st)[d]? = some u → w.cell? ⟨g, i * 3 + d, none⟩ = some u) → PlainF w B (some ⟨g, 0, none⟩) i f
  | .nil, _, _, _, _, _, _, _, _, _ => trivial
  | .cons op n k r, _, _, ⟨A, c, stk, bk, st', b2, ⟨i1, i2⟩, h2, h3, h4, h5, h6⟩, hB, g, i, hg2, hon, hc => by
    subst h6
    rw [h4] at hc
    have c2 := hc 2 (.slice A k.len c) (by simp [cells3, Nx.cells])
    refine ⟨⟨g, 0, A, c, rfl, hg2, hon, by rw [Nat.zero_add]; exact c2, ?_⟩, ?_⟩
    · rcases h2.2 with ⟨hv, hn⟩ | ⟨g', cap, cur, hv, hb, hh, hle, _, hsz, htk⟩
      · cases k with
        | nil => trivial
        | cons _ _ _ _ => simp [Fo.len] at hn
      · injection hv with hA _ hcc
        subst hA hcc
        refine h3.plain (fun b hb => hB b (by simp [hb])) g' 0 (hB g' (by simp [blkOf])) ⟨cur, _, hh⟩ fun d u hd => ?_
        refine (cell_of_row w g' (0 * 3 + d) cur _ _ hh).trans ?_
        have h1 : (cur.toList.take (k.len * 3))[d]? = some u := by rw [htk]; exact hd
        have hlt : d < k.len * 3 := by
          have := (List.getElem?_eq_some_iff.1 h1).1
          rw [List.length_take] at this
          omega
        rw [List.getElem?_take_of_lt hlt, Array.getElem?_toList] at h1
        rw [Nat.zero_mul, Nat.zero_add]
        exact h1
    · refine h5.plain (fun b hb => hB b (by simp [hb])) g (i + 1) hg2 hon fun d u hd => ?_
      have := hc (d + 3) u (by
        show (cells3 (⟨op, n, k, A, c⟩ :: st'))[d + 3]? = some u
        simp only [cells3, Nx.cells, List.cons_append, List.nil_append, List.getElem?_cons_succ]
        exact hd)
      rw [show (i + 1) * 3 + d = i * 3 + (d + 3) by omega]
      exact this
theorem Tree.plain {w : World} {base B : Nat} {A : Option Addr} {l c : Nat} {f : Fo} {bs : List Nat} (h : Tree w base (.slice A l c) f bs) (hB : ∀ b, b ∈ bs → b < B) : PlainF w B A 0 f := by
  obtain ⟨st, b1, h1, h2, rfl, _⟩ := h
  rcases h1.2 with ⟨hv, hn⟩ | ⟨g', cap, cur, hv, hb, hh, hle, _, hsz, htk⟩
  · cases f with
    | nil => trivial
    | cons _ _ _ _ => simp [Fo.len] at hn
  · injection hv with hA _ hcc
    subst hA
    refine h2.plain (fun b hb => hB b (by simp [hb])) g' 0 (hB g' (by simp [blkV, Value.ownBlock])) ⟨cur, _, hh⟩ fun d u hd => ?_
    refine (cell_of_row w g' (0 * 3 + d) cur _ _ hh).trans ?_
    have h1 : (cur.toList.take (f.len * 3))[d]? = some u := by rw [htk]; exact hd
    have hlt : d < f.len * 3 := by
      have := (List.getElem?_eq_some_iff.1 h1).1
      rw [List.length_take] at this
      omega
    rw [List.getElem?_take_of_lt hlt, Array.getElem?_toList] at h1
    rw [Nat.zero_mul, Nat.zero_add]
    exact h1

/-- What a reader of a list of nodes at A wants of it: it lies there, in plain rows. -/
def Held (w : World) (B : Nat) (A : Option Addr) (k : Fo) : Prop := Lies w 0 B A 0 k ∧ PlainF w B A 0 k
theorem Held.below {w w' : World} {B C : Nat} {A : Option Addr} {k : Fo} (h : Held w B A k) (hb : Below C w w') (hC : B ≤ C) : Held w' B A k := ⟨h.1.below (hb.mono hC), h.2.below hb hC⟩
theorem Held.rows {w : World} {B : Nat} {A : Option Addr} {k : Fo} (h : Held w B A k) : RowsIf w B A k := fun _ => h.2
theorem Tree.held {w : World} {base : Nat} {A : Option Addr} {l c : Nat} {f : Fo} {bs : List Nat} (h : Tree w base (.slice A l c) f bs) : Held w w.heap.size A f :=
  ⟨(h.lies (B := w.heap.size) fun z hz => (h.lt z hz).2).mono_ (Nat.zero_le _) (Nat.le_refl _), h.plain fun z hz => (h.lt z hz).2⟩
theorem PlainF.mono_ {w : World} {B B' : Nat} (hB : B ≤ B') : ∀ {f : Fo} {A : Option Addr} {i : Nat}, PlainF w B A i f → PlainF w B' A i f
  | .nil, _, _, _ => trivial
  | .cons _ _ _ _, _, _, ⟨⟨b, o, A', c', hA, h1, h2, h3, h4⟩, h⟩ => ⟨⟨b, o, A', c', hA, Nat.lt_of_lt_of_le h1 hB, h2, h3, h4.mono_ hB⟩, h.mono_ hB⟩
theorem Held.up {w w' : World} {A : Option Addr} {k : Fo} (h : Held w w.heap.size A k) (hb : Below w.heap.size w w') : Held w' w'.heap.size A k :=
  ⟨(h.1.below hb).mono_ (Nat.le_refl _) hb.size, (h.2.below hb (Nat.le_refl _)).mono_ hb.size⟩
/-- Two nodes side by side in a row of their own. -/
theorem held_two {w : World} {B g : Nat} {ao an bo bn : Int} {ak bk : Fo} {Aa Ab : Option Addr} {ca cb : Nat} (hr : Row w g 36 #[.int .i64 ao, .int .i64 an, .slice Aa ak.len ca, .int .i64 bo, .int .i64 bn, .slice Ab bk.len cb]) (hg : g < B)
    (ha : Held w B Aa ak) (hb : Held w B Ab bk) (ia : I64 ao ∧ I64 an) (ib : I64 bo ∧ I64 bn) (la : ak.len ≤ ca ∧ ca ≤ maxLen) (lb : bk.len ≤ cb ∧ cb ≤ maxLen) : Held w B (some ⟨g, 0, none⟩) (.cons ao an ak (.cons bo bn bk .nil)) := by
  have hon : OnRow w ⟨g, 0, none⟩ := ⟨_, _, hr⟩
  exact ⟨⟨⟨g, 0, Aa, ca, rfl, Nat.zero_le _, hg, ia.1, ia.2, hr.cell (i := 0) rfl, hr.cell (i := 1) rfl, hr.cell (i := 2) rfl, la.1, la.2, ha.1⟩, ⟨g, 0, Ab, cb, rfl, Nat.zero_le _, hg, ib.1, ib.2, hr.cell (i := 3) rfl, hr.cell (i := 4) rfl, hr.cell (i := 5) rfl, lb.1, lb.2, hb.1⟩, trivial⟩,
    ⟨⟨g, 0, Aa, ca, rfl, hg, hon, hr.cell (i := 2) rfl, ha.2⟩, ⟨g, 0, Ab, cb, rfl, hg, hon, hr.cell (i := 5) rfl, hb.2⟩, trivial⟩⟩
theorem Held.empty (w : World) (B : Nat) (A : Option Addr) : Held w B A .nil := ⟨trivial, trivial⟩
/-- The j-th node. -/
theorem Held.kid {w : World} {B : Nat} {A : Option Addr} {k : Fo} {j : Nat} {op n : Int} {k1 : Fo} (h : Held w B A k) (e : k.drop j = .cons op n k1 (k.drop (j + 1))) :
    ∃ b o A' c', A = some ⟨b, o, none⟩ ∧ b < B ∧ (I64 op ∧ I64 n) ∧ w.cell? ⟨b, o + j * 3, none⟩ = some (.int .i64 op) ∧ w.cell? ⟨b, o + j * 3 + 1, none⟩ = some (.int .i64 n) ∧ w.cell? ⟨b, o + j * 3 + 2, none⟩ = some (.slice A' k1.len c') ∧ k1.len ≤ c' ∧ c' ≤ maxLen ∧ Held w B A' k1 := by
  have h1 := h.1.at_ j
  have h2 := h.2.at_ j
  rw [Nat.zero_add, e] at h1 h2
  obtain ⟨⟨b, o, A', c', hA, _, hb, i1, i2, g0, g1, g2, e1, e2, hl⟩, _⟩ := h1
  obtain ⟨⟨b', o', A2, c2, hA2, _, _, g3, hp⟩, _⟩ := h2
  rw [hA] at hA2
  injection hA2 with hA2
  injection hA2 with h5 h6
  subst h5 h6
  rw [g2] at g3
  injection g3 with g3
  injection g3 with g4 _ _
  subst g4
  exact ⟨b, o, A', c', hA, hb, ⟨i1, i2⟩, g0, g1, g2, e1, e2, hl, hp⟩
end Go.Proofs.YtpknegneogdmfaaGreat
