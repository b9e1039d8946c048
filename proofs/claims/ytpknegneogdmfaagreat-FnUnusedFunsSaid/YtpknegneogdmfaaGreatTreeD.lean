/-
  A list of functions that a call has made itself: its row and all rows of the Bodies are the call's own and apart.
-/
import Derived.Test.YtpknegneogdmfaaGreatTree
import Derived.Test.YtpknegneogdmfaaGreatDe
namespace Go.Proofs.YtpknegneogdmfaaGreat
open Go.RowKit
set_option maxRecDepth 100000

/-- The cells of a list of functions whose Bodies are trees of one's own; bs: the blocks of these. -/
def OwnD (w : World) (base : Nat) : List De → List Value → List Nat → Prop
  | [], st, bs => st = [] ∧ bs = []
  | d :: r, st, bs => ∃ A c bk st' b2, d.fits ∧ Tree w base (.slice A d.k.len c) d.k bk ∧ OwnD w base r st' b2 ∧
      st = [.int .i64 d.nm, .int .i64 d.ar, .bool d.old, .int .i64 d.op, .int .i64 d.n, .slice A d.k.len c] ++ st' ∧ bs = bk ++ b2
/-- The slice v is a list of functions that the call has made, in the rows bs. -/
def TreeD (w : World) (base : Nat) (v : Value) (ds : List De) (bs : List Nat) : Prop :=
  ∃ st b1, w.ownsRow base 38 6 v ds.length st ∧ OwnD w base ds st b1 ∧ bs = blkV v ++ b1 ∧ bs.Nodup

section
variable {w w' : World} {base base' : Nat}
theorem OwnD.keep : ∀ {ds : List De} {st : List Value} {bs : List Nat}, OwnD w base ds st bs → (∀ b, b ∈ bs → w'.heap[b]? = w.heap[b]?) → OwnD w' base ds st bs
  | [], _, _, h, _ => h
  | _ :: _, _, _, ⟨A, c, bk, st', b2, h1, h2, h3, h4, h5⟩, hk => by
    subst h5
    exact ⟨A, c, bk, st', b2, h1, h2.keep fun b hb => hk b (by simp [hb]), h3.keep fun b hb => hk b (by simp [hb]), h4, rfl⟩
theorem OwnD.lower (hb : base' ≤ base) : ∀ {ds : List De} {st : List Value} {bs : List Nat}, OwnD w base ds st bs → OwnD w base' ds st bs
  | [], _, _, h => h
  | _ :: _, _, _, ⟨A, c, bk, st', b2, h1, h2, h3, h4, h5⟩ => ⟨A, c, bk, st', b2, h1, h2.lower hb, h3.lower hb, h4, h5⟩
theorem OwnD.lt : ∀ {ds : List De} {st : List Value} {bs : List Nat}, OwnD w base ds st bs → ∀ b, b ∈ bs → base ≤ b ∧ b < w.heap.size
  | [], _, _, ⟨_, h⟩, b, hb => by rw [h] at hb; cases hb
  | _ :: _, _, _, ⟨A, c, bk, st', b2, h1, h2, h3, h4, h5⟩, b, hb => by
    subst h5
    rcases List.mem_append.1 hb with hb | hb
    · exact h2.lt b hb
    · exact h3.lt b hb
theorem OwnD.len : ∀ {ds : List De} {st : List Value} {bs : List Nat}, OwnD w base ds st bs → st.length = ds.length * 6
  | [], _, _, ⟨h, _⟩ => by rw [h]; rfl
  | _ :: _, _, _, ⟨A, c, bk, st', b2, h1, h2, h3, h4, h5⟩ => by rw [h4]; simp [h3.len]; omega
theorem OwnD.snoc {d : De} {A : Option Addr} {c : Nat} {bk : List Nat} (hf : d.fits) (h2 : Tree w base (.slice A d.k.len c) d.k bk) :
    ∀ {ds : List De} {st : List Value} {bs : List Nat}, OwnD w base ds st bs → OwnD w base (ds ++ [d]) (st ++ [.int .i64 d.nm, .int .i64 d.ar, .bool d.old, .int .i64 d.op, .int .i64 d.n, .slice A d.k.len c]) (bs ++ bk)
  | [], _, _, ⟨e1, e2⟩ => ⟨A, c, bk, [], [], hf, h2, ⟨rfl, rfl⟩, by rw [e1]; rfl, by rw [e2]; simp⟩
  | _ :: _, _, _, ⟨A', c', bk', st', b2, g1, g2, g3, g4, g5⟩ => ⟨A', c', bk', st' ++ _, b2 ++ bk, g1, g2, OwnD.snoc hf h2 g3, by rw [g4, List.append_assoc], by rw [g5]; simp⟩
/-- The i-th element: its cells and its Body. -/
theorem OwnD.at_ : ∀ {ds : List De} {st : List Value} {bs : List Nat}, OwnD w base ds st bs → ∀ {i : Nat} {d : De}, ds[i]? = some d →
    ∃ A c bk, d.fits ∧ Tree w base (.slice A d.k.len c) d.k bk ∧ (∀ x, x ∈ bk → x ∈ bs) ∧ st[i * 6]? = some (.int .i64 d.nm) ∧ st[i * 6 + 1]? = some (.int .i64 d.ar) ∧ st[i * 6 + 2]? = some (.bool d.old) ∧
      st[i * 6 + 3]? = some (.int .i64 d.op) ∧ st[i * 6 + 4]? = some (.int .i64 d.n) ∧ st[i * 6 + 5]? = some (.slice A d.k.len c)
  | [], _, _, _, i, d, h => by simp at h
  | e :: r, _, _, ⟨A, c, bk, st', b2, g1, g2, g3, g4, g5⟩, 0, d, h => by
    simp at h
    subst h g4 g5
    exact ⟨A, c, bk, g1, g2, fun x hx => by simp [hx], rfl, rfl, rfl, rfl, rfl, rfl⟩
  | e :: r, _, _, ⟨A, c, bk, st', b2, g1, g2, g3, g4, g5⟩, i + 1, d, h => by
    obtain ⟨A', c', bk', f1, f2, f3, q0, q1, q2, q3, q4, q5⟩ := g3.at_ (i := i) (d := d) (by simpa using h)
    subst g4 g5
    have e : ∀ j, ([Value.int .i64 e.nm, .int .i64 e.ar, .bool e.old, .int .i64 e.op, .int .i64 e.n, .slice A e.k.len c] ++ st')[(i + 1) * 6 + j]? = st'[i * 6 + j]? := by
      intro j
      rw [List.getElem?_append_right (by simp; omega)]
      congr 1
      simp
      omega
    exact ⟨A', c', bk', f1, f2, fun x hx => by simp [f3 x hx], (e 0).trans q0, (e 1).trans q1, (e 2).trans q2, (e 3).trans q3, (e 4).trans q4, (e 5).trans q5⟩

theorem TreeD.keep {v : Value} {ds : List De} {bs : List Nat} (h : TreeD w base v ds bs) (hk : ∀ b, b ∈ bs → w'.heap[b]? = w.heap[b]?) : TreeD w' base v ds bs := by
  obtain ⟨st, b1, h1, h2, rfl, h4⟩ := h
  exact ⟨st, b1, own_at h1 fun g hg => hk g (by simp [blkV, hg]), h2.keep fun b hb => hk b (by simp [hb]), rfl, h4⟩
theorem TreeD.lower {v : Value} {ds : List De} {bs : List Nat} (h : TreeD w base v ds bs) (hb : base' ≤ base) : TreeD w base' v ds bs := by
  obtain ⟨st, b1, h1, h2, h3, h4⟩ := h
  exact ⟨st, b1, own_lower h1 hb, h2.lower hb, h3, h4⟩
theorem TreeD.lt {v : Value} {ds : List De} {bs : List Nat} (h : TreeD w base v ds bs) : ∀ b, b ∈ bs → base ≤ b ∧ b < w.heap.size := by
  obtain ⟨st, b1, h1, h2, rfl, h4⟩ := h
  intro b hb
  rcases List.mem_append.1 hb with hb | hb
  · exact blk_lt h1 hb
  · exact h2.lt b hb
theorem TreeD.over {v : Value} {ds : List De} {bs : List Nat} (h : TreeD w base v ds bs) (hb : Below w.heap.size w w') : TreeD w' base v ds bs := h.keep fun b hbs => hb.block b (h.lt b hbs).2
theorem TreeD.put {v : Value} {ds : List De} {bs : List Nat} (h : TreeD w base v ds bs) {p : Addr} (hp : p.block < base) (x : Value) : TreeD (w.setCell p x) base v ds bs :=
  h.keep fun b hb => Below.heap_setCell _ _ _ b (by have := (h.lt b hb).1; omega)
theorem TreeD.slice {v : Value} {ds : List De} {bs : List Nat} (h : TreeD w base v ds bs) : ∃ A c, v = .slice A ds.length c ∧ ds.length ≤ c ∧ c ≤ maxLen := by
  obtain ⟨st, b1, h1, _⟩ := h
  exact own_slice h1
theorem TreeD.none (w : World) (base : Nat) : TreeD w base (.slice none 0 0) [] [] := ⟨[], [], World.ownsRow_nil _ _ _ _, ⟨rfl, rfl⟩, rfl, List.nodup_nil⟩
/-- An empty list that was made. -/
theorem TreeD.fresh {g : Nat} (hr : Row w g 38 #[]) (hg : base ≤ g) : TreeD w base (.slice (some ⟨g, 0, Option.none⟩) 0 0) [] [g] :=
  ⟨[], [], ⟨rfl, .inr ⟨g, 0, #[], rfl, hg, hr, Nat.le_refl _, by decide, rfl, rfl⟩⟩, ⟨rfl, rfl⟩, rfl, by simp⟩

/-- It lies in its blocks. -/
theorem TreeD.lies {A : Option Addr} {l c : Nat} {ds : List De} {bs : List Nat} {B : Nat} (h : TreeD w base (.slice A l c) ds bs) (hB : ∀ b, b ∈ bs → b < B) : LiesD w base B A ds := by
  obtain ⟨st, b1, h1, h2, rfl, _⟩ := h
  intro i d hd
  obtain ⟨A', c', bk, f1, f2, f3, q0, q1, q2, q3, q4, q5⟩ := h2.at_ hd
  obtain ⟨_, _, hs, hk1, hk2⟩ := f2.slice
  injection hs with hs1 hs2 hs3
  subst hs1 hs3
  have hl := f2.lies (B := B) fun b hb => hB b (by simp [f3 b hb])
  have hi : i < ds.length := (List.getElem?_eq_some_iff.1 hd).1
  rcases h1.2 with ⟨hv, hn⟩ | ⟨g', cap, cur, hv, hb, hh, hle, _, hsz, htk⟩
  · omega
  · injection hv with hA _ hcc
    subst hA
    have cell : ∀ j u, j < 6 → st[i * 6 + j]? = some u → w.cell? ⟨g', 0 + i * 6 + j, Option.none⟩ = some u := by
      intro j u hj hu
      refine (cell_of_row w g' (0 + i * 6 + j) cur _ _ hh).trans ?_
      have h1 : (cur.toList.take (ds.length * 6))[i * 6 + j]? = some u := by rw [htk]; exact hu
      rw [List.getElem?_take_of_lt (by omega), Array.getElem?_toList] at h1
      rw [Nat.zero_add]
      exact h1
    exact ⟨g', 0, A', c', rfl, hb, hB g' (by simp [blkV, Value.ownBlock]), f1, cell 0 _ (by omega) q0, cell 1 _ (by omega) q1, cell 2 _ (by omega) q2, cell 3 _ (by omega) q3, cell 4 _ (by omega) q4, cell 5 _ (by omega) q5, hk1, hk2, hl⟩

/-- One more function behind an append. -/
theorem TreeD.push {v v' : Value} {ds : List De} {st : List Value} {b1 bk : List Nat} {d : De} {A : Option Addr} {c : Nat} (_h1 : w.ownsRow base 38 6 v ds.length st) (h2 : OwnD w base ds st b1) (hk : Tree w base (.slice A d.k.len c) d.k bk) (hf : d.fits)
    (hnd : ((blkV v ++ b1) ++ bk).Nodup) (ho : w'.ownsRow base 38 6 v' (ds.length + 1) (st ++ [.int .i64 d.nm, .int .i64 d.ar, .bool d.old, .int .i64 d.op, .int .i64 d.n, .slice A d.k.len c])) (hg : w.grownBy w' v.ownBlock) (hblk : v'.ownBlock = v.ownBlock ∨ v'.ownBlock = some w.heap.size) :
    ∃ bs, TreeD w' base v' (ds ++ [d]) bs ∧ ∀ b, b ∈ bs → b ∈ blkV v ++ b1 ∨ b ∈ bk ∨ b = w.heap.size := by
  have hs := OwnD.snoc hf hk h2
  have hlt := hs.lt
  have hnot : ∀ b, b ∈ b1 ++ bk → some b ≠ v.ownBlock := by
    intro b hb e
    have hv : b ∈ blkV v := by unfold blkV; rw [← e]; simp
    rw [List.append_assoc] at hnd
    exact (List.nodup_append.1 hnd).2.2 b hv b hb rfl
  have hs' := hs.keep (w' := w') fun b hb => hg.block b (hlt b hb).2 (hnot b hb)
  refine ⟨blkV v' ++ (b1 ++ bk), ⟨_, _, ?_, hs', rfl, ?_⟩, ?_⟩
  · rw [List.length_append]
    exact ho
  · rw [List.append_assoc] at hnd
    have hnd2 := (List.nodup_append.1 hnd).2.1
    unfold blkV
    rcases hblk with e | e
    · rw [e]; exact hnd
    · rw [e]
      refine List.nodup_append.2 ⟨by simp, hnd2, ?_⟩
      intro a ha b hb e2
      have := (hlt b hb).2
      simp at ha
      omega
  · intro b hb
    rcases List.mem_append.1 hb with hb | hb
    · unfold blkV at hb
      rcases hblk with e | e
      · rw [e] at hb; exact .inl (List.mem_append_left _ hb)
      · rw [e] at hb; simp at hb; exact .inr (.inr hb)
    · rcases List.mem_append.1 hb with hb | hb
      · exact .inl (List.mem_append_right _ hb)
      · exact .inr (.inl hb)
end
end Go.Proofs.YtpknegneogdmfaaGreat

namespace Go.Proofs.YtpknegneogdmfaaGreat
open Go.RowKit Go.Shelf
set_option maxRecDepth 100000

theorem wpList_pushD {ops : Array Oper} {rest : List Oper} {o : Oper} {a : Act} {Q : Exit → Act → World → Prop} {wk : World} (hgd : o.guard = none) (s x : Operand)
    (ho : o.op = .call { callee := .builtin .append, args := #[s, x], argTypes := #[23, 23] })
    (base : Nat) (v : Value) (ds : List De) (bs bk : List Nat) (d : De) (A : Option Addr) (c : Nat) (hs : a.eval s = v) (hx : a.eval x = .slice (some ⟨wk.heap.size, 0, none⟩) 1 1)
    (ht : TreeD wk base v ds bs) (hk : Tree wk base (.slice A d.k.len c) d.k bk) (hi : d.fits) (hd : ∀ b, b ∈ bs → b ∈ bk → False) (hlen : ds.length ≤ 1048576) (hbase : base ≤ wk.heap.size)
    (h : ∀ v' w' bs', TreeD w' base v' (ds ++ [d]) bs' → wk.grownBy w' v.ownBlock → (∀ b, b ∈ bs' → b ∈ bs ∨ b ∈ bk ∨ wk.heap.size ≤ b) → wpList Tryz.prog ops Q rest (a.put o.dst v') w') :
    wpList Tryz.prog ops Q (o :: rest) a (wk.alloc (.cells #[.int .i64 d.nm, .int .i64 d.ar, .bool d.old, .int .i64 d.op, .int .i64 d.n, .slice A d.k.len c] 38)) := by
  have hb := (Below.refl wk.heap.size wk).alloc (Nat.le_refl _) (.cells #[.int .i64 d.nm, .int .i64 d.ar, .bool d.old, .int .i64 d.op, .int .i64 d.n, .slice A d.k.len c] 38)
  have ht1 := ht.over hb
  have hk1 := hk.over hb
  have hlt := hk.lt
  obtain ⟨st, b1, h1, h2, h3, h4⟩ := ht1
  obtain ⟨iT, hiT, hiz0, hiz1, hiz2⟩ := info_parts (show (Tryz.prog.info? 38).map (fun i => (i.zero, i.size, i.bytes)) = some (some (.agg #[.int .i64 0, .int .i64 0, .bool false, .int .i64 0, .int .i64 0, .slice none 0 0]), 6, 64) by kernel_rfl)
  refine wpList_append_own_at _ hgd s x 23 ho base 38 iT _ 6 64 Tryz.underlying23 hiT hiz0 hiz1 hiz2 rfl (by decide) v ds.length st hs h1 ⟨wk.heap.size, 0, none⟩ 1 1 [.int .i64 d.nm, .int .i64 d.ar, .bool d.old, .int .i64 d.op, .int .i64 d.n, .slice A d.k.len c] hx rfl
    (fresh_cells wk 38 _) ?_ (by unfold maxLen; omega) (by omega) (Nat.le_trans hbase hb.size) ?_
  · intro u hu
    simp at hu
    rcases hu with rfl | rfl | rfl | rfl | rfl | rfl <;> rfl
  · intro v' w' ho' hg _ hblk
    have hnd : ((blkV v ++ b1) ++ bk).Nodup := by
      rw [← h3]
      obtain ⟨_, _, _, _, _, hkn⟩ := hk
      exact List.nodup_append.2 ⟨h4, hkn, fun p hp q hq e => hd p hp (e ▸ hq)⟩
    obtain ⟨bs', ht', hin⟩ := TreeD.push h1 h2 hk1 hi hnd ho' hg hblk
    have hgs : wk.grownBy w' v.ownBlock := ⟨hg.os, hg.tape, hg.output, Nat.le_trans hb.size hg.size, fun q hq hr => (hg.block q (Nat.lt_of_lt_of_le hq hb.size) hr).trans (hb.block q hq)⟩
    refine h v' w' bs' ht' hgs fun b hbb => ?_
    rcases hin b hbb with h | h | h
    · exact .inl (by rw [h3]; exact h)
    · exact .inr (.inl h)
    · exact .inr (.inr (by rw [h]; exact hb.size))

/-- The same as one step of a region that draws its order. -/
theorem step_pushD {ops : Array Oper} {o : Oper} {a : Act} {K : Act → World → Prop} {Q : Exit → Act → World → Prop} {E : Prop} {wk : World} (hgd : o.guard = none) (s x : Operand)
    (ho : o.op = .call { callee := .builtin .append, args := #[s, x], argTypes := #[23, 23] })
    (base : Nat) (v : Value) (ds : List De) (bs bk : List Nat) (d : De) (A : Option Addr) (c : Nat) (hs : a.eval s = v) (hx : a.eval x = .slice (some ⟨wk.heap.size, 0, none⟩) 1 1)
    (ht : TreeD wk base v ds bs) (hk : Tree wk base (.slice A d.k.len c) d.k bk) (hi : d.fits) (hd : ∀ b, b ∈ bs → b ∈ bk → False) (hlen : ds.length ≤ 1048576) (hbase : base ≤ wk.heap.size)
    (h : ∀ v' w' bs', TreeD w' base v' (ds ++ [d]) bs' → wk.grownBy w' v.ownBlock → (∀ b, b ∈ bs' → b ∈ bs ∨ b ∈ bk ∨ wk.heap.size ≤ b) → K (a.put o.dst v') w') :
    if Region.wanted o (yielded ops a.tmps) = true then Oper.wp Tryz.prog o a (wk.alloc (.cells #[.int .i64 d.nm, .int .i64 d.ar, .bool d.old, .int .i64 d.op, .int .i64 d.n, .slice A d.k.len c] 38)) K Q else E := by
  have hw : Region.wanted o (yielded ops a.tmps) = true := by simp [Region.wanted, hgd]
  rw [if_pos hw]
  have hb := (Below.refl wk.heap.size wk).alloc (Nat.le_refl _) (.cells #[.int .i64 d.nm, .int .i64 d.ar, .bool d.old, .int .i64 d.op, .int .i64 d.n, .slice A d.k.len c] 38)
  have ht1 := ht.over hb
  have hk1 := hk.over hb
  obtain ⟨st, b1, h1, h2, h3, h4⟩ := ht1
  obtain ⟨iT, hiT, hiz0, hiz1, hiz2⟩ := info_parts (show (Tryz.prog.info? 38).map (fun i => (i.zero, i.size, i.bytes)) = some (some (.agg #[.int .i64 0, .int .i64 0, .bool false, .int .i64 0, .int .i64 0, .slice none 0 0]), 6, 64) by kernel_rfl)
  have h1c : ∀ u ∈ [Value.int .i64 d.nm, .int .i64 d.ar, .bool d.old, .int .i64 d.op, .int .i64 d.n, .slice A d.k.len c], u.oneCell' = true := by
    intro u hu
    simp at hu
    rcases hu with rfl | rfl | rfl | rfl | rfl | rfl <;> rfl
  obtain ⟨v', w', hr, ho', hg, _, hblk⟩ := run_append_own_at (P := Tryz.prog) (wk.alloc (.cells #[.int .i64 d.nm, .int .i64 d.ar, .bool d.old, .int .i64 d.op, .int .i64 d.n, .slice A d.k.len c] 38)) base 23 o.type 38 iT _ 6 64 Tryz.underlying23 hiT hiz0 hiz1 hiz2 rfl (by decide) v ds.length st h1 ⟨wk.heap.size, 0, none⟩ 1 1 [.int .i64 d.nm, .int .i64 d.ar, .bool d.old, .int .i64 d.op, .int .i64 d.n, .slice A d.k.len c] rfl
    (fresh_cells wk 38 _) h1c (by unfold maxLen; omega) (by omega) (Nat.le_trans hbase hb.size)
  unfold Oper.wp
  simp [execOp, ho, resolve, invoke, builtin, hs, hx, hr, Result.andThen]
  have hnd : ((blkV v ++ b1) ++ bk).Nodup := by
    rw [← h3]
    obtain ⟨_, _, _, _, _, hkn⟩ := hk
    exact List.nodup_append.2 ⟨h4, hkn, fun p hp q hq e => hd p hp (e ▸ hq)⟩
  obtain ⟨bs', ht', hin⟩ := TreeD.push h1 h2 hk1 hi hnd ho' hg hblk
  have hgs : wk.grownBy w' v.ownBlock := ⟨hg.os, hg.tape, hg.output, Nat.le_trans hb.size hg.size, fun q hq hr => (hg.block q (Nat.lt_of_lt_of_le hq hb.size) hr).trans (hb.block q hq)⟩
  refine h v' w' bs' ht' hgs fun b hbb => ?_
  rcases hin b hbb with h | h | h
  · exact .inl (by rw [h3]; exact h)
  · exact .inr (.inl h)
  · exact .inr (.inr (by rw [h]; exact hb.size))

end Go.Proofs.YtpknegneogdmfaaGreat
