/-
  A tree that is under way: a node is done (its Kids are a row of the call's own, in which nodes may be pending) or pending (its Kids are still those of the source).
  The pending nodes' addresses, from left to right; what becomes of the tree when the last one of them is done.
  append of a list of nodes in memory onto no list at all: a row of the call's own with the same cells.
  impl.copyOf: a list of the nodes to come, each of which gets Kids in a row of its own.
-/
import Derived.Test.YtiefobkddckkbaaTree
import Derived.Maps.AppendAt
import Derived.Test.YtiefobkddckkbaaEndless
import Derived.OwnWalk
namespace Go.Proofs.Ytiefobkddckkbaa
open Go.RowKit
set_option maxRecDepth 100000

/-- ps: the addresses of the pending nodes of the forest that stands in block g from index i on; m: how many nodes are still to be done; B: below it lies the source. -/
def PartF (w : World) (base B : Nat) : Fo → Nat → Nat → List Nx → List Nat → List Addr → Nat → Prop
  | .nil, _, _, st, bs, ps, m => st = [] ∧ bs = [] ∧ ps = [] ∧ m = 0
  | .cons op n k r, g, i, st, bs, ps, m => ∃ A c bk pk mk st' b2 p2 m2, (I64 op ∧ I64 n) ∧ st = ⟨op, n, k, A, c⟩ :: st' ∧ PartF w base B r g (i + 1) st' b2 p2 m2 ∧ bs = bk ++ b2 ∧ ps = pk ++ p2 ∧ m = mk + m2 ∧
      ((Lies w 0 B A 0 k ∧ bk = [] ∧ pk = [⟨g, i * 3, none⟩] ∧ mk = k.size + 1) ∨
       (∃ g' stk b1, w.ownsRow base 33 3 (.slice A k.len c) k.len (cells3 stk) ∧ PartF w base B k g' 0 stk b1 pk mk ∧ (A = some ⟨g', 0, none⟩ ∨ k = .nil) ∧ bk = blkOf A ++ b1))

theorem add_plainP (b o j : Nat) : (⟨b, o, none⟩ : Addr).add j = ⟨b, o + j, none⟩ := by unfold Addr.add; split <;> simp_all

section
variable {w w' : World} {base B : Nat}

theorem PartF.keep (hB : ∀ p : Addr, p.block < B → w'.cell? p = w.cell? p) : ∀ {f : Fo} {g i : Nat} {st : List Nx} {bs : List Nat} {ps : List Addr} {m : Nat}, PartF w base B f g i st bs ps m → (∀ b, b ∈ bs → w'.heap[b]? = w.heap[b]?) → PartF w' base B f g i st bs ps m
  | .nil, _, _, _, _, _, _, h, _ => h
  | .cons op n k r, g, i, _, _, _, _, ⟨A, c, bk, pk, mk, st', b2, p2, m2, hi, e1, hr, e2, e3, e4, hd⟩, hk => by
    subst e2
    refine ⟨A, c, bk, pk, mk, st', b2, p2, m2, hi, e1, hr.keep hB fun b hb => hk b (by simp [hb]), rfl, e3, e4, ?_⟩
    rcases hd with ⟨h1, h4, h5, h6⟩ | ⟨g', stk, b1, h1, h2, h3, h4⟩
    · exact .inl ⟨h1.keep (Nat.le_refl _) (Nat.le_refl _) fun p _ hp => hB p hp, h4, h5, h6⟩
    · subst h4
      refine .inr ⟨g', stk, b1, own_at h1 fun q hq => hk q ?_, h2.keep hB fun b hb => hk b (by simp [hb]), h3, rfl⟩
      cases A with
      | none => cases hq
      | some a => cases hq; simp [blkOf]

/-- Each block of the tree is a row of nodes. -/
theorem PartF.rows : ∀ {f : Fo} {g i : Nat} {st : List Nx} {bs : List Nat} {ps : List Addr} {m : Nat}, PartF w base B f g i st bs ps m → ∀ b, b ∈ bs → base ≤ b ∧ ∃ cs, Row w b 33 cs
  | .nil, _, _, _, _, _, _, ⟨_, e, _⟩, b, hb => by rw [e] at hb; cases hb
  | .cons op n k r, g, i, _, _, _, _, ⟨A, c, bk, pk, mk, st', b2, p2, m2, hi, e1, hr, e2, e3, e4, hd⟩, b, hb => by
    subst e2
    rcases List.mem_append.1 hb with hb | hb
    · rcases hd with ⟨h1, h4, h5, h6⟩ | ⟨g', stk, b1, h1, h2, h3, h4⟩
      · rw [h4] at hb; cases hb
      · subst h4
        rcases List.mem_append.1 hb with hb | hb
        · rcases h1.2 with ⟨hv, _⟩ | ⟨q, cap, cur, hv, hq, hh, _⟩
          · injection hv with hA
            rw [hA] at hb; cases hb
          · injection hv with hA
            rw [hA] at hb
            simp [blkOf] at hb
            subst hb
            exact ⟨hq, _, hh⟩
        · exact h2.rows b hb
    · exact hr.rows b hb

theorem PartF.len : ∀ {f : Fo} {g i : Nat} {st : List Nx} {bs : List Nat} {ps : List Addr} {m : Nat}, PartF w base B f g i st bs ps m → st.length = f.len
  | .nil, _, _, _, _, _, _, ⟨e, _⟩ => by rw [e]; rfl
  | .cons op n k r, g, i, _, _, _, _, ⟨A, c, bk, pk, mk, st', b2, p2, m2, hi, e1, hr, _⟩ => by rw [e1, List.length_cons, hr.len]; rfl

theorem PartF.ps_le : ∀ {f : Fo} {g i : Nat} {st : List Nx} {bs : List Nat} {ps : List Addr} {m : Nat}, PartF w base B f g i st bs ps m → ps.length ≤ m
  | .nil, _, _, _, _, _, _, ⟨_, _, e, _⟩ => by rw [e]; simp
  | .cons op n k r, g, i, _, _, _, _, ⟨A, c, bk, pk, mk, st', b2, p2, m2, hi, e1, hr, e2, e3, e4, hd⟩ => by
    subst e3 e4
    have h1 := hr.ps_le
    rw [List.length_append]
    rcases hd with ⟨_, _, h5, h6⟩ | ⟨g', stk, b1, _, h2, _⟩
    · rw [h5, h6]; simp; omega
    · have := h2.ps_le; omega

/-- Nothing is pending: the forest is the call's own. -/
theorem PartF.done : ∀ {f : Fo} {g i : Nat} {st : List Nx} {bs : List Nat} {ps : List Addr} {m : Nat}, PartF w base B f g i st bs ps m → ps = [] → OwnF w base f st bs
  | .nil, _, _, _, _, _, _, ⟨e1, e2, _⟩, _ => ⟨e1, e2⟩
  | .cons op n k r, g, i, _, _, _, _, ⟨A, c, bk, pk, mk, st', b2, p2, m2, hi, e1, hr, e2, e3, e4, hd⟩, hp => by
    rw [e3] at hp
    have hp1 := (List.append_eq_nil_iff.1 hp).1
    have hp2 := (List.append_eq_nil_iff.1 hp).2
    rcases hd with ⟨_, _, h5, _⟩ | ⟨g', stk, b1, h1, h2, _, h4⟩
    · rw [h5] at hp1; cases hp1
    · exact ⟨A, c, stk, b1, st', b2, hi, h1, h2.done hp1, e1, hr.done hp2, by rw [e2, h4]⟩

/-- A row of the call's own in which the slice of node j is turned. -/
theorem own_turn {g cap j len : Nat} {st : List Nx} {op n : Int} {k : Fo} {A A' : Option Addr} {c c' : Nat} (h : w.ownsRow base 33 3 (.slice (some ⟨g, 0, none⟩) len cap) len (cells3 st)) (hj : st[j]? = some ⟨op, n, k, A, c⟩) :
    (w.setCell ⟨g, j * 3 + 2, none⟩ (.slice A' k.len c')).ownsRow base 33 3 (.slice (some ⟨g, 0, none⟩) len cap) len (cells3 (st.set j ⟨op, n, k, A', c'⟩)) := by
  have hjl := (List.getElem?_eq_some_iff.1 hj).1
  obtain ⟨c0, c1, _⟩ := cells3_at st j _ hj
  rcases h.2 with ⟨hv, _⟩ | ⟨q, cap2, cur, hv, hq, hh, h4, h5, h6, h7⟩
  · cases hv
  injection hv with hA _ hcap
  injection hA with hA
  injection hA with hA
  subst hA hcap
  have hlen : (cells3 st).length = len * 3 := h.1
  rw [length_cells3] at hlen
  have e : cells3 (st.set j ⟨op, n, k, A', c'⟩) = (cells3 st).set (j * 3 + 2) (.slice A' k.len c') := by
    rw [cells3_set]
    dsimp only
    rw [list_set_same c0, list_set_same c1]
  rw [e]
  refine ⟨by rw [List.length_set]; exact h.1, .inr ⟨g, cap, cur.setIfInBounds (j * 3 + 2) (.slice A' k.len c'), rfl, hq, ?_, h4, h5, by rw [Array.size_setIfInBounds]; exact h6, ?_⟩⟩
  · exact Row.put (show Row w g 33 cur from hh) _ _
  · rw [Array.toList_setIfInBounds, List.take_set, h7]

/-- The last pending node, and the tree where it is done: its Kids are a row of the call's own whose nodes are all pending. -/
theorem PartF.last : ∀ {f : Fo} {g i : Nat} {st : List Nx} {bs : List Nat} {ps : List Addr} {m : Nat} {pre : List Addr} {a : Addr}, PartF w base B f g i st bs ps m → ps = pre ++ [a] → bs.Nodup → g ∉ bs →
    ∃ op n k A c, (I64 op ∧ I64 n) ∧ Lies w 0 B A 0 k ∧ k.size + 1 ≤ m ∧ a.spot = none ∧
      ((∃ j, st[j]? = some ⟨op, n, k, A, c⟩ ∧ a = ⟨g, (i + j) * 3, none⟩) ∨ (a.block ≠ g ∧ a.block ∈ bs ∧ w.cell? ⟨a.block, a.off + 2, none⟩ = some (.slice A k.len c))) ∧
      ∀ (wF : World) (A' : Option Addr) (c' g' : Nat) (stk : List Nx) (pk : List Addr) (mk : Nat), (∀ p : Addr, p.block < B → wF.cell? p = w.cell? p) → (∀ b, b ∈ bs → wF.heap[b]? = w.heap[b]?) →
        wF.ownsRow base 33 3 (.slice A' k.len c') k.len (cells3 stk) → PartF wF base B k g' 0 stk [] pk mk → (A' = some ⟨g', 0, none⟩ ∨ k = .nil) →
        (∀ q, q ∈ blkOf A' → q ∉ bs ∧ q ≠ g) → B ≤ a.block → B ≤ base →
        ∃ st' bs' m', PartF (wF.setCell ⟨a.block, a.off + 2, none⟩ (.slice A' k.len c')) base B f g i st' bs' (pre ++ pk) m' ∧ m' + (k.size + 1) = m + mk ∧ bs'.Nodup ∧ (∀ q, q ∈ bs' → q ∈ bs ∨ q ∈ blkOf A') ∧ (∀ q, q ∈ bs → q ∈ bs') ∧
          ((∃ j, st[j]? = some ⟨op, n, k, A, c⟩ ∧ a = ⟨g, (i + j) * 3, none⟩ ∧ st' = st.set j ⟨op, n, k, A', c'⟩) ∨ (a.block ≠ g ∧ st' = st))
  | .nil, _, _, _, _, _, _, pre, a, ⟨_, _, e, _⟩, hp, _, _ => by rw [e] at hp; simp at hp
  | .cons op n k r, g, i, _, _, _, _, pre, a, ⟨A, c, bk, pk, mk, st', b2, p2, m2, hi, e1, hr, e2, e3, e4, hd⟩, hp, hnd, hg => by
    subst e1 e2 e4
    rw [e3] at hp
    have nd1 := (List.nodup_append.1 hnd).1
    have nd2 := (List.nodup_append.1 hnd).2.1
    have nd3 := (List.nodup_append.1 hnd).2.2
    have hg1 : g ∉ bk := fun h => hg (List.mem_append_left _ h)
    have hg2 : g ∉ b2 := fun h => hg (List.mem_append_right _ h)
    rcases List.eq_nil_or_concat p2 with hz | ⟨p2', x, hx⟩
    · subst hz
      rw [List.append_nil] at hp
      rcases hd with ⟨h1, h4, h5, h6⟩ | ⟨g', stk, b1, h1, h2, h3, h4⟩
      · subst h4 h5 h6
        have hpre : pre = [] := by
          cases pre with
          | nil => rfl
          | cons x y => simp at hp
        subst hpre
        simp at hp
        subst hp
        refine ⟨op, n, k, A, c, hi, h1, by omega, rfl, .inl ⟨0, rfl, by rw [Nat.add_zero]⟩, fun wF A' c' g' stk pk' mk' hFB hFk ho hpt hA' hq hab hBb => ?_⟩
        have hk : ∀ q, q ≠ g → (wF.setCell ⟨g, i * 3 + 2, none⟩ (.slice A' k.len c')).heap[q]? = wF.heap[q]? := fun q hq => Below.heap_setCell wF _ _ q hq
        have hkF : ∀ p : Addr, p.block < B → (wF.setCell ⟨g, i * 3 + 2, none⟩ (.slice A' k.len c')).cell? p = wF.cell? p := fun p hp => World.cell?_of_block (w := wF) (hk p.block (by have hab : B ≤ g := hab; omega))
        have hkB : ∀ p : Addr, p.block < B → (wF.setCell ⟨g, i * 3 + 2, none⟩ (.slice A' k.len c')).cell? p = w.cell? p := fun p hp => (hkF p hp).trans (hFB p hp)
        refine ⟨⟨op, n, k, A', c'⟩ :: st', blkOf A' ++ b2, mk' + m2, ⟨A', c', blkOf A', pk', mk', st', b2, [], m2, hi, rfl, hr.keep hkB fun b hb => (hk b (fun e => hg2 (e ▸ hb))).trans (hFk b (by simp [hb])), rfl, by simp, rfl,
          .inr ⟨g', stk, [], own_at ho fun q hq' => hk q ?_, hpt.keep hkF (fun b hb => by cases hb), hA', by simp⟩⟩, by omega, ?_, ?_, ?_, .inl ⟨0, rfl, by rw [Nat.add_zero], rfl⟩⟩
        · have : q ∈ blkOf A' := by
            cases A' with
            | none => cases hq'
            | some a => cases hq'; simp [blkOf]
          exact (hq q this).2
        · refine List.nodup_append.2 ⟨by cases A' <;> simp [blkOf], nd2, fun x hx y hy e => (hq x hx).1 (by rw [e]; simp [hy])⟩
        · intro q hq
          rcases List.mem_append.1 hq with hq | hq
          · exact .inr hq
          · exact .inl (by simp [hq])
        · intro q hq
          simp at hq
          simp [hq]
      · subst h4
        have nd4 := (List.nodup_append.1 nd1).2.1
        have hgb : g' ∉ b1 := by
          rcases h3 with h3 | h3
          · subst h3
            intro hb
            exact (List.nodup_append.1 nd1).2.2 g' (by simp [blkOf]) g' hb rfl
          · subst h3
            rw [h2.2.1]
            simp
        obtain ⟨o', n', k', A1, c1, g1, g2, g5, g6, g7, g8⟩ := h2.last hp nd4 hgb
        have hk0 : k ≠ .nil := by
          rintro rfl
          rw [h2.2.2.1] at hp
          simp at hp
        have hA : A = some ⟨g', 0, none⟩ := h3.resolve_right hk0
        subst hA
        have hgg : g' ∈ blkOf (some (⟨g', 0, none⟩ : Addr)) ++ b1 := by simp [blkOf]
        have hgne : g' ≠ g := fun e => hg1 (e ▸ hgg)
        have hab : a.block ∈ blkOf (some (⟨g', 0, none⟩ : Addr)) ++ b1 := by
          rcases g7 with ⟨j, _, rfl⟩ | ⟨_, h, _⟩
          · exact hgg
          · simp [h]
        have hane : a.block ≠ g := fun e => hg1 (e ▸ hab)
        have hcell : w.cell? ⟨a.block, a.off + 2, none⟩ = some (.slice A1 k'.len c1) := by
          rcases g7 with ⟨j, hj, rfl⟩ | ⟨_, _, h⟩
          · obtain ⟨_, _, q2⟩ := cells3_at stk j _ hj
            have := h1.cells (g := g') rfl _ _ q2
            rw [add_plainP] at this
            simpa using this
          · exact h
        refine ⟨o', n', k', A1, c1, g1, g2, by omega, g6, .inr ⟨hane, by simp only [List.mem_append] at hab ⊢; exact .inl hab, hcell⟩, fun wF A' c' gq stq pq mq hFB hFk ho hpt hA' hq haB hBb => ?_⟩
        obtain ⟨st2, bs2, m2', q1, q2, q3, q4, q4', q5⟩ := g8 wF A' c' gq stq pq mq hFB (fun b hb => hFk b (by simp [hb])) ho hpt hA' (fun q h => ⟨fun hb => (hq q h).1 (by simp [hb]), fun e => (hq q h).1 (by rw [e]; simp [blkOf])⟩) haB hBb
        have h1F := own_at (w' := wF) h1 fun q hq => hFk q (by
          have hq : g' = q := Option.some.inj hq
          subst hq
          simp [blkOf])
        have hk : ∀ q, q ≠ a.block → (wF.setCell ⟨a.block, a.off + 2, none⟩ (.slice A' k'.len c')).heap[q]? = wF.heap[q]? := fun q hq => Below.heap_setCell wF _ _ q hq
        have hkB : ∀ p : Addr, p.block < B → (wF.setCell ⟨a.block, a.off + 2, none⟩ (.slice A' k'.len c')).cell? p = w.cell? p := fun p hp => (World.cell?_of_block (w := wF) (hk p.block (by omega))).trans (hFB p hp)
        have hgb2 : g' ∉ bs2 := fun hb => by
          rcases q4 _ hb with h | h
          · exact hgb h
          · exact (hq g' h).1 (by simp [blkOf])
        refine ⟨⟨op, n, k, some ⟨g', 0, none⟩, c⟩ :: st', (blkOf (some (⟨g', 0, none⟩ : Addr)) ++ bs2) ++ b2, m2' + m2, ⟨some ⟨g', 0, none⟩, c, blkOf (some (⟨g', 0, none⟩ : Addr)) ++ bs2, pre ++ pq, m2', st', b2, [], m2, hi, rfl,
          hr.keep hkB fun b hb => (hk b (fun e => nd3 _ hab b hb e.symm)).trans (hFk b (by simp [hb])), rfl, by simp, rfl, .inr ⟨g', st2, bs2, ?_, q1, .inl rfl, rfl⟩⟩, by omega, ?_, ?_, ?_, .inr ⟨hane, rfl⟩⟩
        · rcases q5 with ⟨j, hj, rfl, rfl⟩ | ⟨hne, rfl⟩
          · rw [Nat.zero_add]
            exact own_turn h1F hj
          · exact own_at h1F fun q hq => hk q (by
              have hq : g' = q := Option.some.inj hq
              subst hq
              exact fun e => hne e.symm)
        · refine List.nodup_append.2 ⟨List.nodup_append.2 ⟨by simp [blkOf], q3, ?_⟩, nd2, ?_⟩
          · intro x hx y hy e
            simp [blkOf] at hx
            subst hx e
            exact hgb2 hy
          · intro x hx y hy e
            rcases List.mem_append.1 hx with hx | hx
            · exact nd3 x (by simp [hx]) y hy e
            · rcases q4 _ hx with h | h
              · exact nd3 x (by simp [h]) y hy e
              · exact (hq x h).1 (by rw [e]; simp [hy])
        · intro q hqq
          rcases List.mem_append.1 hqq with h | h
          · rcases List.mem_append.1 h with h | h
            · exact .inl (by simp [h])
            · rcases q4 _ h with h | h
              · exact .inl (by simp [h])
              · exact .inr h
          · exact .inl (by simp [h])
        · intro q hqq
          rcases List.mem_append.1 hqq with h | h
          · rcases List.mem_append.1 h with h | h
            · simp [h]
            · simp [q4' _ h]
          · simp [h]
    · rw [List.concat_eq_append] at hx
      subst hx
      rw [← List.append_assoc] at hp
      obtain ⟨hp1, hp2⟩ := List.append_inj' hp rfl
      simp at hp2
      have hp2 := hp2.symm
      subst hp2 hp1
      obtain ⟨o', n', k', A1, c1, g1, g2, g5, g6, g7, g8⟩ := hr.last rfl nd2 hg2
      have hab : a.block = g ∨ a.block ∈ b2 := by
        rcases g7 with ⟨j, _, rfl⟩ | ⟨_, h, _⟩
        · exact .inl rfl
        · exact .inr h
      refine ⟨o', n', k', A1, c1, g1, g2, by omega, g6, ?_, fun wF A' c' gq stq pq mq hFB hFk ho hpt hA' hq haB hBb => ?_⟩
      · rcases g7 with ⟨j, hj, e⟩ | ⟨h1, h2, h3⟩
        · exact .inl ⟨j + 1, hj, by rw [e, Nat.add_right_comm, Nat.add_assoc]⟩
        · exact .inr ⟨h1, by simp [h2], h3⟩
      obtain ⟨st2, bs2, m2', q1, q2, q3, q4, q4', q5⟩ := g8 wF A' c' gq stq pq mq hFB (fun b hb => hFk b (by simp [hb])) ho hpt hA' (fun q h => ⟨fun hb => (hq q h).1 (by simp [hb]), (hq q h).2⟩) haB hBb
      have hk : ∀ q, q ∈ bk ++ b2 → q ≠ a.block → (wF.setCell ⟨a.block, a.off + 2, none⟩ (.slice A' k'.len c')).heap[q]? = w.heap[q]? := fun q hm hq => (Below.heap_setCell wF ⟨a.block, a.off + 2, none⟩ _ q hq).trans (hFk q hm)
      have hkB : ∀ p : Addr, p.block < B → (wF.setCell ⟨a.block, a.off + 2, none⟩ (.slice A' k'.len c')).cell? p = w.cell? p := fun p hp => (World.cell?_of_block (w := wF) (Below.heap_setCell wF ⟨a.block, a.off + 2, none⟩ _ p.block (by dsimp only; omega))).trans (hFB p hp)
      have hbk : ∀ q, q ∈ bk → q ≠ a.block := fun q hq e => by
        rcases hab with h | h
        · exact hg1 (by rw [← h, ← e]; exact hq)
        · exact nd3 q hq _ h e
      refine ⟨⟨op, n, k, A, c⟩ :: st2, bk ++ bs2, mk + m2', ⟨A, c, bk, pk, mk, st2, bs2, p2' ++ pq, m2', hi, rfl, q1, rfl, by rw [List.append_assoc], rfl, ?_⟩, by omega, ?_, ?_, ?_, ?_⟩
      · rcases hd with ⟨h1, h4, h5, h6⟩ | ⟨g', stk, b1, h1, h2, h3, h4⟩
        · exact .inl ⟨h1.keep (Nat.le_refl _) (Nat.le_refl _) fun p _ hp => hkB p hp, h4, h5, h6⟩
        · subst h4
          refine .inr ⟨g', stk, b1, own_at h1 fun q hq => ?_, h2.keep hkB fun b hb => hk b (by simp [hb]) (hbk b (by simp [hb])), h3, rfl⟩
          have hq2 : q ∈ blkOf A ++ b1 := by
            cases A with
            | none => cases hq
            | some a => cases hq; simp [blkOf]
          exact hk q (List.mem_append_left _ hq2) (hbk q hq2)
      · refine List.nodup_append.2 ⟨nd1, q3, fun x hx y hy e => ?_⟩
        rcases q4 _ hy with h | h
        · exact nd3 x hx y h e
        · exact (hq y h).1 (by rw [← e]; simp [hx])
      · intro q hqq
        rcases List.mem_append.1 hqq with h | h
        · exact .inl (by simp [h])
        · rcases q4 _ h with h | h
          · exact .inl (by simp [h])
          · exact .inr h
      · intro q hqq
        rcases List.mem_append.1 hqq with h | h
        · simp [h]
        · simp [q4' _ h]
      · rcases q5 with ⟨j, hj, e, e5⟩ | ⟨h1, h2⟩
        · exact .inl ⟨j + 1, hj, by rw [e, Nat.add_right_comm, Nat.add_assoc], by rw [e5]; rfl⟩
        · exact .inr ⟨h1, by rw [h2]⟩

/-- The addresses of n nodes in a row from index i on. -/
def nodesAt (g : Nat) : Nat → Nat → List Addr
  | _, 0 => []
  | i, n + 1 => ⟨g, i * 3, none⟩ :: nodesAt g (i + 1) n
theorem nodesAt_len (g : Nat) : ∀ (i n : Nat), (nodesAt g i n).length = n
  | _, 0 => rfl
  | i, n + 1 => by rw [nodesAt, List.length_cons, nodesAt_len g (i + 1) n]
theorem nodesAt_succ (g : Nat) : ∀ (i n : Nat), nodesAt g i (n + 1) = nodesAt g i n ++ [⟨g, (i + n) * 3, none⟩]
  | i, 0 => by simp [nodesAt]
  | i, n + 1 => by rw [nodesAt, nodesAt_succ g (i + 1) n, nodesAt, List.cons_append, show i + 1 + n = i + (n + 1) by omega]

/-- The nodes of a list in memory, and that a row with the same cells has them all pending. -/
theorem Lies.nx {b o : Nat} : ∀ {f : Fo} {i : Nat}, Lies w 0 B (some ⟨b, o, none⟩) i f →
    ∃ st, st.length = f.len ∧ (∀ d u, (cells3 st)[d]? = some u → w.cell? ⟨b, o + (i * 3 + d), none⟩ = some u) ∧ ∀ (g j : Nat), PartF w base B f g j st [] (nodesAt g j f.len) f.size
  | .nil, _, _ => ⟨[], rfl, fun d u h => by simp [cells3] at h, fun g j => ⟨rfl, rfl, rfl, rfl⟩⟩
  | .cons op n k r, i, ⟨⟨b', o', A, c, hA, _, _, i1, i2, h1, h2, h3, h4, h5, h6⟩, hr⟩ => by
    injection hA with hA
    injection hA with e1 e2
    subst e1 e2
    obtain ⟨st, g1, g2, g3⟩ := Lies.nx hr
    refine ⟨⟨op, n, k, A, c⟩ :: st, by rw [List.length_cons, g1]; rfl, fun d u hd => ?_, fun g j => ?_⟩
    · match d with
      | 0 => simp [cells3, Nx.cells] at hd; subst hd; exact h1
      | 1 => simp [cells3, Nx.cells] at hd; subst hd; exact h2
      | 2 => simp [cells3, Nx.cells] at hd; subst hd; exact h3
      | d + 3 =>
        have := g2 d u (by simpa [cells3, Nx.cells] using hd)
        rw [show i * 3 + (d + 3) = (i + 1) * 3 + d by omega]
        exact this
    · exact ⟨A, c, [], [⟨g, j * 3, none⟩], k.size + 1, st, [], nodesAt g (j + 1) r.len, r.size, ⟨i1, i2⟩, rfl, g3 g (j + 1), rfl, rfl, by simp only [Fo.size]; omega, .inl ⟨h6, rfl, rfl, rfl⟩⟩

theorem nx_cell : ∀ {st : List Nx} {d : Nat} {u : Value}, (cells3 st)[d]? = some u → u.oneCell' = true
  | [], d, u, h => by simp [cells3] at h
  | x :: st, 0, u, h => by simp [cells3, Nx.cells] at h; subst h; rfl
  | x :: st, 1, u, h => by simp [cells3, Nx.cells] at h; subst h; rfl
  | x :: st, 2, u, h => by simp [cells3, Nx.cells] at h; subst h; rfl
  | x :: st, d + 3, u, h => nx_cell (st := st) (d := d) (by simpa [cells3, Nx.cells] using h)

/-- append onto no list at all: a copy of the list, whose nodes are all pending. -/
theorem appendN_run {k : Fo} {A : Option Addr} {c : Nat} (hl : Lies w 0 B A 0 k) (hn : k.len ≤ 1048576) (hb : base ≤ w.heap.size) :
    ∃ A' c' w' g' stk, (Builtin.append_ #[31, 31] 31 #[.slice none 0 0, .slice A k.len c]).run Try.prog w = .ok (.slice A' k.len c') w' ∧ Below w.heap.size w w' ∧
      w'.ownsRow base 33 3 (.slice A' k.len c') k.len (cells3 stk) ∧ (∀ w'', (∀ p : Addr, p.block < B → w''.cell? p = w.cell? p) → PartF w'' base B k g' 0 stk [] (nodesAt g' 0 k.len) k.size) ∧ (A' = some ⟨g', 0, none⟩ ∨ k = .nil) ∧ (∀ q, q ∈ blkOf A' → q = w.heap.size) ∧ k.len ≤ c' ∧ c' ≤ maxLen := by
  obtain ⟨iT, hiT, hiz0, hiz1, hiz2⟩ := info_parts (show (Try.prog.info? 33).map (fun i => (i.zero, i.size, i.bytes)) = some (some (.agg #[.int .i64 0, .int .i64 0, .slice none 0 0]), 3, 40) by kernel_rfl)
  have hu := Try.underlying31
  by_cases h0 : k = .nil
  · subst h0
    refine ⟨none, 0, w, 0, [], ?_, Below.refl _ _, World.ownsRow_nil _ _ _ _, fun _ _ => ⟨rfl, rfl, rfl, rfl⟩, .inr rfl, (fun q hq => by cases hq), Nat.le_refl _, (by decide)⟩
    cases A with
    | none => simp [Fo.len, Builtin.append_, run_underlying hu, sizeOf, typeInfo, hiT, Builtin.lenOf, Builtin.firstCells]
    | some a => simp [Fo.len, Builtin.append_, run_underlying hu, sizeOf, typeInfo, hiT, Builtin.lenOf, Builtin.firstCells, loadCells, loadCellsFrom]
  · have hpos : 0 < k.len := by
      cases k with
      | nil => exact absurd rfl h0
      | cons _ _ _ _ => simp [Fo.len]
    obtain ⟨b, o, hA⟩ : ∃ b o, A = some ⟨b, o, none⟩ := by
      cases k with
      | nil => exact absurd rfl h0
      | cons _ _ _ _ => obtain ⟨⟨b, o, _, _, hA, _⟩, _⟩ := hl; exact ⟨b, o, hA⟩
    subst hA
    obtain ⟨st, hs1, hs2, hs3⟩ := hl.nx (base := base)
    obtain ⟨v', w', hrun, ho', hg, _, hblk⟩ := run_append_own_at (P := Try.prog) w base 31 31 33 iT _ 3 40 hu hiT hiz0 hiz1 hiz2 rfl (by decide) (.slice none 0 0) 0 [] (World.ownsRow_nil _ _ _ _) ⟨b, o, none⟩ k.len c (cells3 st) (by rw [length_cells3, hs1])
      (fun j u hj => by
        rw [add_plainP]
        have := hs2 j u hj
        simpa using this)
      (fun u hu => by obtain ⟨j, hj⟩ := List.mem_iff_getElem?.1 hu; exact nx_cell hj) (by unfold maxLen; omega) (by omega) hb
    rw [Nat.zero_add, List.nil_append] at ho'
    have hbl : Below w.heap.size w w' := ⟨hg.os, hg.tape, hg.output, hg.size, fun q hq => hg.block q hq (by simp [Value.ownBlock])⟩
    rcases ho'.2 with ⟨_, h⟩ | ⟨gg, cap, cur, rfl, _, h3, h4, h4b, h5, h6⟩
    · omega
    have hgg : gg = w.heap.size := by
      rcases hblk with h | h
      · simp [Value.ownBlock] at h
      · exact Option.some.inj h
    refine ⟨some ⟨gg, 0, none⟩, cap, w', gg, st, hrun, hbl, ho', fun w'' hw => (hs3 gg 0).keep hw (fun b hb => by cases hb), .inl rfl, fun q hq => by simp [blkOf] at hq; omega, h4, h4b⟩
end
end Go.Proofs.Ytiefobkddckkbaa

namespace Go.Proofs.Ytiefobkddckkbaa
open Go.RowKit
set_option maxRecDepth 100000

/-- What a round of the list keeps: all rows of nodes, and all that lies below. -/
def KR (B : Nat) (w w' : World) : Prop := Below B w w' ∧ ∀ b cs, Row w b 33 cs → Row w' b 33 cs
theorem KR.refl (B : Nat) (w : World) : KR B w w := ⟨Below.refl _ _, fun _ _ h => h⟩
theorem KR.part {w w' : World} {base B : Nat} (h : KR B w w') {f : Fo} {g i : Nat} {st : List Nx} {bs : List Nat} {ps : List Addr} {m : Nat} (hp : PartF w base B f g i st bs ps m) : PartF w' base B f g i st bs ps m :=
  hp.keep (fun _ hq => h.1.cell hq) fun b hb => by
    obtain ⟨_, cs, hr⟩ := hp.rows b hb
    exact Eq.trans (h.2 b cs hr) (Eq.symm hr)

/-- At the head of the loop: the tree under way, and the list of what is pending. -/
structure Copy (w : World) (op n : Int) (k : Fo) (gk : Nat) (v : Value) (wr : World) (bs : List Nat) (ps : List Addr) (A : Option Addr) (c : Nat) : Prop where
  part : PartF wr (w.heap.size + 3) w.heap.size (.cons op n k .nil) (w.heap.size + 2) 0 [⟨op, n, k, A, c⟩] bs ps gk
  nd : bs.Nodup
  row : Row wr (w.heap.size + 2) 33 #[.int .i64 op, .int .i64 n, .slice A k.len c]
  res : Row wr (w.heap.size + 1) 33 #[.int .i64 0, .int .i64 0, .slice none 0 0]
  own : wr.ownsRow (w.heap.size + 3) 51 1 v ps.length (ptrs ps)
  below : Below w.heap.size w wr
  size : w.heap.size + 3 ≤ wr.heap.size

theorem part_out {w : World} {base B : Nat} {op n : Int} {k : Fo} {A : Option Addr} {c g : Nat} {bs : List Nat} {m : Nat} (h : PartF w base B (.cons op n k .nil) g 0 [⟨op, n, k, A, c⟩] bs [] m) (hnd : bs.Nodup) : Tree w base (.slice A k.len c) k bs := by
  obtain ⟨A', c', stk, bk, st', b2, _, h2, h3, h4, h5, h6⟩ := h.done rfl
  injection h4 with e1 e2
  injection e1 with _ _ _ eA ec
  subst eA ec
  obtain ⟨_, rfl⟩ := h5
  rw [List.append_nil] at h6
  exact ⟨stk, bk, h2, h3, by rw [h6, blkV_slice], hnd⟩

set_option maxHeartbeats 4000000 in
theorem copyOf_any (m : Nat) : ∀ (op n : Int) (k : Fo) (A : Option Addr) (c : Nat) (w : World), k.size = m → Lies w 0 w.heap.size A 0 k → k.size ≤ 1048576 → I64 op ∧ I64 n →
    Calls Try.prog 28 #[.agg #[.int .i64 op, .int .i64 n, .slice A k.len c]] w (Makes op n k w) := by
  intro op n k A c w _ hl hsz hi
  obtain ⟨W, hW⟩ : ∃ W, W = (((w.alloc (Obj.cells #[.int .i64 op, .int .i64 n, .slice A k.len c] 33)).alloc (Obj.cells #[.int .i64 0, .int .i64 0, .slice none 0 0] 33)).alloc (Obj.cells #[.int .i64 op, .int .i64 n, .slice A k.len c] 33)).alloc (Obj.cells #[Value.pointer (some ⟨w.heap.size + 2, 0, none⟩)] 51) := ⟨_, rfl⟩
  have hr0 := (Row.fresh w 33 #[.int .i64 op, .int .i64 n, .slice A k.len c]).alloc (Obj.cells #[.int .i64 0, .int .i64 0, .slice none 0 0] 33)
  have q0 := hr0.cell (i := 0) rfl
  have q1 := hr0.cell (i := 1) rfl
  have q2 := hr0.cell (i := 2) rfl
  have hr1 : Row W (w.heap.size + 2) 33 #[.int .i64 op, .int .i64 n, .slice A k.len c] := by
    rw [hW]
    have := Row.fresh ((w.alloc (Obj.cells #[.int .i64 op, .int .i64 n, .slice A k.len c] 33)).alloc (Obj.cells #[.int .i64 0, .int .i64 0, .slice none 0 0] 33)) 33 #[.int .i64 op, .int .i64 n, .slice A k.len c]
    simp only [World.size_alloc] at this
    exact this.alloc _
  have hr2 : Row W (w.heap.size + 1) 33 #[.int .i64 0, .int .i64 0, .slice none 0 0] := by
    rw [hW]
    have := Row.fresh (w.alloc (Obj.cells #[.int .i64 op, .int .i64 n, .slice A k.len c] 33)) 33 #[.int .i64 0, .int .i64 0, .slice none 0 0]
    rw [World.size_alloc] at this
    exact (this.alloc _).alloc _
  have hr3 : Row W (w.heap.size + 3) 51 #[Value.pointer (some ⟨w.heap.size + 2, 0, none⟩)] := by
    rw [hW]
    have := Row.fresh (((w.alloc (Obj.cells #[.int .i64 op, .int .i64 n, .slice A k.len c] 33)).alloc (Obj.cells #[.int .i64 0, .int .i64 0, .slice none 0 0] 33)).alloc (Obj.cells #[.int .i64 op, .int .i64 n, .slice A k.len c] 33)) 51 #[Value.pointer (some ⟨w.heap.size + 2, 0, none⟩)]
    simp only [World.size_alloc] at this
    exact this
  have hbW : Below w.heap.size w W := by rw [hW]; exact ((((Below.refl _ _).alloc (Nat.le_refl _) _).alloc (by simp) _).alloc (by simp; omega) _).alloc (by simp; omega) _
  have hzW : w.heap.size + 3 ≤ W.heap.size := by rw [hW]; simp
  have hc0 : Copy w op n k (k.size + 1) (.slice (some ⟨w.heap.size + 3, 0, none⟩) 1 1) W [] [⟨w.heap.size + 2, 0, none⟩] A c :=
    ⟨⟨A, c, [], [⟨w.heap.size + 2, 0, none⟩], k.size + 1, [], [], [], 0, hi, rfl, ⟨rfl, rfl, rfl, rfl⟩, rfl, rfl, rfl, .inl ⟨hl.below hbW, rfl, by rw [Nat.zero_mul], rfl⟩⟩, List.nodup_nil, hr1, hr2,
      ⟨rfl, .inr ⟨_, 1, _, rfl, Nat.le_refl _, hr3, Nat.le_refl _, by decide, rfl, rfl⟩⟩, hbW, hzW⟩
  have HC := Lib.hid hc0
  clear hr1 hr2 hr3 hbW hzW hc0
  go_enter Try.func28, Try.ntmps28
  go_wp2_with fail
  clear q0 q1 q2 hr0
  rw [← hW]
  clear hW
  go_loopg [4] (k.size + 1) (fun gk v wr => gk ≤ 1048577 ∧ ∃ bs ps A c, Copy w op n k gk v wr bs ps A c)
  case atStart => exact ⟨by omega, _, _, _, _, HC.out⟩
  case round =>
    clear HC
    obtain ⟨hgm, bs, ps, A0, c0, hcp⟩ := hrel
    rcases List.eq_nil_or_concat ps with rfl | ⟨pre, a, hst⟩
    · have ht := part_out hcp.part hcp.nd
      have hrow := hcp.row
      have hres := hcp.res
      have hbl := hcp.below
      obtain ⟨Av, cv, rfl, _, _⟩ := own_slice hcp.own
      clear hcp
      have q0 := hrow.cell (i := 0) rfl
      have q1 := hrow.cell (i := 1) rfl
      have q2 := hrow.cell (i := 2) rfl
      have d0 := hres.cell (i := 0) rfl
      have d1 := hres.cell (i := 1) rfl
      have d2 := hres.cell (i := 2) rfl
      have f0 := hres.free 0
      have f1 := hres.free 1
      have f2 := hres.free 2
      have hres3 := ((hres.put 0 (.int .i64 op)).put 1 (.int .i64 n)).put 2 (.slice A0 k.len c0)
      have r0 : (((wr.setCell ⟨w.heap.size + 1, 0, none⟩ (.int .i64 op)).setCell ⟨w.heap.size + 1, 1, none⟩ (.int .i64 n)).setCell ⟨w.heap.size + 1, 2, none⟩ (.slice A0 k.len c0)).cell? ⟨w.heap.size + 1, 0, none⟩ = some (.int .i64 op) := hres3.cell (i := 0) rfl
      have r1 : (((wr.setCell ⟨w.heap.size + 1, 0, none⟩ (.int .i64 op)).setCell ⟨w.heap.size + 1, 1, none⟩ (.int .i64 n)).setCell ⟨w.heap.size + 1, 2, none⟩ (.slice A0 k.len c0)).cell? ⟨w.heap.size + 1, 1, none⟩ = some (.int .i64 n) := hres3.cell (i := 1) rfl
      have r2 : (((wr.setCell ⟨w.heap.size + 1, 0, none⟩ (.int .i64 op)).setCell ⟨w.heap.size + 1, 1, none⟩ (.int .i64 n)).setCell ⟨w.heap.size + 1, 2, none⟩ (.slice A0 k.len c0)).cell? ⟨w.heap.size + 1, 2, none⟩ = some (.slice A0 k.len c0) := hres3.cell (i := 2) rfl
      have hle : ∀ i, w.heap.size ≤ (⟨w.heap.size + 1, i, none⟩ : Addr).block := fun i => Nat.le_succ _
      have HB := Lib.hid (((hbl.setCell (hle 0) (.int .i64 op)).setCell (hle 1) (.int .i64 n)).setCell (hle 2) (.slice A0 k.len c0))
      have HT := Lib.hid (ht.keep (w' := ((wr.setCell ⟨w.heap.size + 1, 0, none⟩ (.int .i64 op)).setCell ⟨w.heap.size + 1, 1, none⟩ (.int .i64 n)).setCell ⟨w.heap.size + 1, 2, none⟩ (.slice A0 k.len c0)) fun q hq => by
        have := (ht.lt q hq).1
        exact (Below.heap_setCell _ _ _ q (by dsimp only; omega)).trans ((Below.heap_setCell _ _ _ q (by dsimp only; omega)).trans (Below.heap_setCell _ _ _ q (by dsimp only; omega))))
      clear ht hbl hrow hres hres3 hle hl
      go_wp2_with fail
      refine bodyPost_ret (v := .agg #[.int .i64 op, .int .i64 n, .slice A0 k.len c0]) ?_ rfl ⟨A0, c0, bs, rfl, HT.out.lower (by omega), HB.out⟩
      simp [results, Try.f28, go_sem, r0, r1, r2]
    · rw [List.concat_eq_append] at hst
      subst hst
      have hgb : w.heap.size + 2 ∉ bs := fun h => by have := (hcp.part.rows _ h).1; omega
      obtain ⟨op1, n1, k1, A1, c1, hi1, hl1, hk1, hsp, hcase, hfill⟩ := hcp.part.last rfl hcp.nd hgb
      obtain ⟨ab, ao, asp⟩ := a
      simp only at hsp
      subst hsp
      have hrowA : ∃ cs, Row wr ab 33 cs := by
        rcases hcase with ⟨j, _, e⟩ | ⟨_, h, _⟩
        · injection e with e1
          subst e1
          exact ⟨_, hcp.row⟩
        · exact (hcp.part.rows _ h).2
      have habw : w.heap.size ≤ ab ∧ w.heap.size + 2 ≤ ab := by
        rcases hcase with ⟨j, _, e⟩ | ⟨_, h, _⟩
        · injection e with e1
          omega
        · have := (hcp.part.rows _ h).1
          dsimp only at this
          omega
      have hcA : wr.cell? ⟨ab, ao + 2, none⟩ = some (.slice A1 k1.len c1) := by
        rcases hcase with ⟨j, hj, e⟩ | ⟨_, _, h⟩
        · injection e with e1 e2
          match j with
          | 0 =>
            simp at hj
            obtain ⟨rfl, rfl, rfl, rfl, rfl⟩ := hj
            subst e1 e2
            exact hcp.row.cell (i := 2) rfl
          | j + 1 => simp at hj
        · exact h
      obtain ⟨csA, hrA⟩ := hrowA
      have hks : k1.size ≤ 1048576 := by omega
      have hkl := Fo.len_le_size k1
      have hco := hcp.own
      have hcz := hcp.size
      obtain ⟨A', c', w6, g', stk, hrun, hb6, ho6, hp6, hA', hq6, hc1', hc2'⟩ := appendN_run (c := c1) hl1 (by omega) (base := w.heap.size + 3) hcz
      -- the tree behind the round
      obtain ⟨st2, bs2, m2, hp7, hm7, hnd7, hin7, _, hst7⟩ := hfill w6 A' c' g' stk (nodesAt g' 0 k1.len) k1.size (fun p hp => hb6.cell (by omega)) (fun b hb => by obtain ⟨_, cs, hr⟩ := hcp.part.rows b hb; exact hb6.block b hr.size) ho6
        (hp6 w6 fun p hp => hb6.cell (by omega)) hA' (fun q hq => by have := hq6 q hq; exact ⟨fun hb => by obtain ⟨_, cs, hr⟩ := hcp.part.rows q hb; have := hr.size; omega, by omega⟩) habw.1 (by omega)
      have hrA6 : Row w6 ab 33 csA := hrA.below hb6 hrA.size
      have f6 := hrA6.free (ao + 2)
      have hc6 : w6.cell? ⟨ab, ao + 2, none⟩ = some (.slice A1 k1.len c1) := (hb6.cell (p := ⟨ab, ao + 2, none⟩) hrA.size).trans hcA
      obtain ⟨w7, hw7⟩ : ∃ w7, w7 = w6.setCell ⟨ab, ao + 2, none⟩ (.slice A' k1.len c') := ⟨_, rfl⟩
      have hrA7 : Row w7 ab 33 (csA.setIfInBounds (ao + 2) (.slice A' k1.len c')) := by rw [hw7]; exact hrA6.put _ _
      have hab7 : ao + 2 < csA.size := Classical.byContradiction fun h => by
        have := cell_of_row wr ab (ao + 2) csA _ _ hrA
        rw [hcA, Array.getElem?_eq_none (by omega)] at this
        cases this
      have hc7 : w7.cell? ⟨ab, ao + 2, none⟩ = some (.slice A' k1.len c') := hrA7.cell (by simp [hab7])
      have hrow7 : ∃ A2 c2, st2 = [⟨op, n, k, A2, c2⟩] ∧ Row w7 (w.heap.size + 2) 33 #[.int .i64 op, .int .i64 n, .slice A2 k.len c2] := by
        have hr6 := hcp.row.below hb6 hcp.row.size
        rcases hst7 with ⟨j, hj, e, rfl⟩ | ⟨hne, rfl⟩
        · match j with
          | 0 =>
            simp at hj
            obtain ⟨rfl, rfl, rfl, rfl, rfl⟩ := hj
            injection e with e1 e2
            subst e1
            have e3 : ao = 0 := by omega
            subst e3
            exact ⟨A', c', rfl, by rw [hw7]; exact hr6.put 2 _⟩
          | j + 1 => simp at hj
        · exact ⟨A0, c0, rfl, by rw [hw7]; exact hr6.apart (p := ⟨ab, ao + 2, none⟩) (fun e => hne e.symm) _⟩
      obtain ⟨A2, c2, rfl, hrow7⟩ := hrow7
      have hres7 : Row w7 (w.heap.size + 1) 33 #[.int .i64 0, .int .i64 0, .slice none 0 0] := by rw [hw7]; exact (hcp.res.below hb6 hcp.res.size).apart (by dsimp only; omega) _
      have hbl7 : Below w.heap.size w w7 := by rw [hw7]; exact (hcp.below.trans (hb6.mono hcp.below.size)).setCell (by dsimp only; omega) _
      have hz7 : w.heap.size + 3 ≤ w7.heap.size := by
        have h := hbl7.size
        have h2 := hb6.size
        rw [hw7]
        simp [World.setCell]
        omega
      rw [← hw7] at hp7
      rcases hco.2 with ⟨_, h0⟩ | ⟨g, cap, cur, hv, hgg, hgh, hgn, hgc, hgs, hgt⟩
      · simp at h0
      rw [List.length_append] at hv hgn hgt
      simp only [List.length_singleton] at hv hgn hgt
      subst hv
      have hctop : wr.cell? ⟨g, pre.length, none⟩ = some (.pointer (some ⟨ab, ao, none⟩)) := by
        refine (cell_of_row wr g pre.length cur _ _ hgh).trans ?_
        have h1 : (cur.toList.take ((pre.length + 1) * 1))[pre.length]? = (ptrs (pre ++ [⟨ab, ao, none⟩]))[pre.length]? := by rw [hgt]
        rw [List.getElem?_take_of_lt (by omega), Array.getElem?_toList] at h1
        rw [h1]
        simp [ptrs]
      have hpl : pre.length + 1 ≤ 1048577 := by
        have := hcp.part.ps_le
        simp at this
        omega
      have hgne : g ≠ ab := fun e => by
        subst e
        have := Option.some.inj (Eq.trans (Eq.symm hgh) hrA)
        injection this with _ h2
        exact absurd h2 (by decide)
      have hown7 : w7.ownsRow (w.heap.size + 3) 51 1 (.slice (some ⟨g, 0, none⟩) pre.length cap) pre.length (ptrs pre) :=
        ⟨by simp [ptrs], .inr ⟨g, cap, cur, rfl, hgg, by rw [hw7]; exact (Below.heap_setCell w6 _ _ g hgne).trans ((hb6.block g (Array.getElem?_eq_some_iff.1 hgh).1).trans hgh), by omega, hgc, hgs, take_ptrs hgt⟩⟩
      have HRUN := Lib.hid hrun
      have HP7 := Lib.hid hp7
      have HND7 := Lib.hid hnd7
      have HROW7 := Lib.hid hrow7
      have HRES7 := Lib.hid hres7
      have HOWN7 := Lib.hid hown7
      have HBL7 := Lib.hid hbl7
      have HRA7 := Lib.hid hrA7
      have HC7 := Lib.hid hc7
      rw [hw7] at hc7
      have HA' := Lib.hid hA'
      have HM7 := Lib.hid hm7
      have hcl : k1.len ≤ 9223372036854775807 := by unfold maxLen at hc2'; omega
      clear hrun hp7 hnd7 hrow7 hres7 hown7 hbl7 hrA7 hA' hm7 hst7 hin7 hfill hcase hcp hco hb6 ho6 hp6 hq6 hgt hgs hgh hrA6 hrA hl1 hl hab7
      go_wp2_with (at_builtin; refine wpList_append_ran rfl _ _ 31 rfl _ _ _ rfl rfl HRUN.out ?_)
      rw [← hw7]
      clear f6 hc6 hcA hctop hc7 hw7
      obtain ⟨wo, hwo⟩ : ∃ wo, wo = wr := ⟨_, rfl⟩
      rw [← hwo] at hcz
      clear hwo
      go_loopw [4, 36] (fun v i wi => ∃ j : Nat, j ≤ k1.len ∧ i = .int .i64 (j : Int) ∧ wi.ownsRow (w.heap.size + 3) 51 1 v (pre ++ nodesAt g' 0 j).length (ptrs (pre ++ nodesAt g' 0 j)) ∧ KR w.heap.size w7 wi)
        (fun _ i _ => k1.len - (intOf i).toNat)
      case atStart => exact ⟨0, Nat.zero_le _, rfl, by simpa [nodesAt] using HOWN7.out, KR.refl _ _⟩
      case round =>
        obtain ⟨j, hj, rfl, hown, hkr⟩ := hrel
        have hra := hkr.2 _ _ HRA7.out
        have hzr : w.heap.size + 3 ≤ wr.heap.size := Nat.le_trans hz7 hkr.1.size
        by_cases hlt : j < k1.len
        · have hA2 : A' = some ⟨g', 0, none⟩ := HA'.out.resolve_right (fun e => by subst e; simp [Fo.len] at hlt)
          subst hA2
          have xc : wr.cell? ⟨ab, ao + 2, none⟩ = some (.slice (some ⟨g', 0, none⟩) k1.len c') := by
            have h1 := cell_of_row _ _ (ao + 2) _ _ _ hra
            have h2 := cell_of_row _ _ (ao + 2) _ _ _ HRA7.out
            exact h1.trans (h2.symm.trans HC7.out)
          obtain ⟨iT, hiT, hiz0, hiz1, hiz2⟩ := info_parts (show (Try.prog.info? 51).map (fun i => (i.zero, i.size, i.bytes)) = some (some (.pointer none), 1, 8) by kernel_rfl)
          have hslen : (pre ++ nodesAt g' 0 j).length ≤ 2097154 := by rw [List.length_append, nodesAt_len]; omega
          have HOWN := Lib.hid (hown.alloc (.cells #[Value.pointer (some ⟨g', j * 3, none⟩)] 51))
          have HO := Lib.hid hown
          have HKR := Lib.hid hkr
          clear hown hkr hra
          go_wp2_with (at_builtin; refine wpList_append_own _ rfl _ _ 78 rfl (w.heap.size + 3) 51 iT (.pointer none) 1 8 Try.underlying78 hiT hiz0 hiz1 hiz2 rfl (by decide) _ _ _ rfl HOWN.out ⟨wr.heap.size, 0, none⟩ 1 1 [.pointer (some ⟨g', j * 3, none⟩)] rfl rfl ?c1 ?c2 ?c3 ?c4 ?c5 ?_)
          case c2 => rfl
          case c3 => simp [maxLen] at hslen ⊢; omega
          case c4 => simp at hslen ⊢; omega
          case c5 => omega
          intro v' w1 h1 h2 h3
          have hb1 : KR w.heap.size w7 w1 := by
            refine ⟨(HKR.out.1.alloc (by omega) _).grown h2 (by simp; omega) fun q hq => ?_, fun b cs hr => ?_⟩
            · rcases HO.out.2 with ⟨hv, _⟩ | ⟨g2, _, _, hv, hgg2, _⟩
              · rw [hv] at hq; simp [Value.ownBlock] at hq
              · rw [hv] at hq
                have : g2 = q := by simpa [Value.ownBlock] using hq
                omega
            · have hr1 := HKR.out.2 b cs hr
              refine (h2.block b (by simp; have := hr1.size; omega) (own_other_row HO.out hr1 (by decide))).trans (hr1.alloc _)
          have H1 := Lib.hid h1
          have HB1 := Lib.hid hb1
          clear h1 h2 h3 hb1
          go_wp2
          go_roundw
          case rel =>
            refine ⟨j + 1, by omega, by go_num, ?_, HB1.out⟩
            have h := H1.out
            rw [nodesAt_succ, ← List.append_assoc, Nat.zero_add, show (pre ++ nodesAt g' 0 j ++ [(⟨g', j * 3, none⟩ : Addr)]).length = (pre ++ nodesAt g' 0 j).length + 1 by rw [List.length_append (bs := [_]), List.length_singleton], show ptrs (pre ++ nodesAt g' 0 j ++ [(⟨g', j * 3, none⟩ : Addr)]) = ptrs (pre ++ nodesAt g' 0 j) ++ [Value.pointer (some ⟨g', j * 3, none⟩)] by simp [ptrs], List.length_append]
            exact h
          case measure => simp [intOf]; omega
        · have hjk : j = k1.len := by omega
          have HKR := Lib.hid hkr
          have HO := Lib.hid hown
          clear hown hkr hra
          subst hjk
          go_wp2
          go_roundg m2
          case measure => have := HM7.out; omega
          case rel =>
            refine ⟨by have := HM7.out; omega, bs2, pre ++ nodesAt g' 0 k1.len, A2, c2, ⟨HKR.out.part HP7.out, HND7.out, HKR.out.2 _ _ HROW7.out, HKR.out.2 _ _ HRES7.out, HO.out, HBL7.out.trans HKR.out.1, hzr⟩⟩
end Go.Proofs.Ytiefobkddckkbaa
