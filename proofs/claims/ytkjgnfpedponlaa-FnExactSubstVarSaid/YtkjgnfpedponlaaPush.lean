/-
  The law for 'y.Kids = append(y.Kids, kid)' where all is the call's own; the arms of loads of a node.
-/
import Derived.Test.YtkjgnfpedponlaaTree
import Derived.Test.YtkjgnfpedponlaaNodesI
import Derived.Deep.RegionLaw
namespace Go.Proofs.Ytkjgnfpedponlaa
open Go.RowKit Go.Shelf
set_option maxRecDepth 100000

theorem wpList_push {ops : Array Oper} {rest : List Oper} {o : Oper} {a : Act} {Q : Exit → Act → World → Prop} {wk : World} (hgd : o.guard = none) (s x : Operand)
    (ho : o.op = .call { callee := .builtin .append, args := #[s, x], argTypes := #[26, 26] })
    (base : Nat) (v : Value) (f : Fo) (bs bk : List Nat) (op n : Int) (k : Fo) (A : Option Addr) (c : Nat) (hs : a.eval s = v) (hx : a.eval x = .slice (some ⟨wk.heap.size, 0, none⟩) 1 1)
    (ht : Tree wk base v f bs) (hk : Tree wk base (.slice A k.len c) k bk) (hi : I64 op ∧ I64 n) (hd : ∀ b, b ∈ bs → b ∈ bk → False) (hlen : f.len ≤ 1048576) (hbase : base ≤ wk.heap.size)
    (h : ∀ v' w' bs', Tree w' base v' (f.snoc op n k) bs' → wk.grownBy w' v.ownBlock → (∀ b, b ∈ bs' → b ∈ bs ∨ b ∈ bk ∨ wk.heap.size ≤ b) → wpList Try.prog ops Q rest (a.put o.dst v') w') :
    wpList Try.prog ops Q (o :: rest) a (wk.alloc (.cells #[.int .i64 op, .int .i64 n, .slice A k.len c] 28)) := by
  have hb := (Below.refl wk.heap.size wk).alloc (Nat.le_refl _) (.cells #[.int .i64 op, .int .i64 n, .slice A k.len c] 28)
  have ht1 := ht.over hb
  have hk1 := hk.over hb
  have hlt := hk.lt
  obtain ⟨st, b1, h1, h2, h3, h4⟩ := ht1
  obtain ⟨iT, hiT, hiz0, hiz1, hiz2⟩ := info_parts (show (Try.prog.info? 28).map (fun i => (i.zero, i.size, i.bytes)) = some (some (.agg #[.int .i64 0, .int .i64 0, .slice none 0 0]), 3, 40) by kernel_rfl)
  refine wpList_append_own_at _ hgd s x 26 ho base 28 iT _ 3 40 Try.underlying26 hiT hiz0 hiz1 hiz2 rfl (by decide) v f.len (cells3 st) hs h1 ⟨wk.heap.size, 0, none⟩ 1 1 [.int .i64 op, .int .i64 n, .slice A k.len c] hx rfl
    (fresh_cells wk 28 _) ?_ (by unfold maxLen; omega) (by omega) (Nat.le_trans hbase hb.size) ?_
  · intro u hu
    simp at hu
    rcases hu with rfl | rfl | rfl <;> rfl
  · intro v' w' ho' hg _ hblk
    have hnd : ((blkV v ++ b1) ++ bk).Nodup := by
      rw [← h3]
      obtain ⟨_, _, _, _, _, hkn⟩ := hk
      exact List.nodup_append.2 ⟨h4, hkn, fun p hp q hq e => hd p hp (e ▸ hq)⟩
    obtain ⟨bs', ht', hin⟩ := Tree.push h1 h2 hk1 hi hnd ho' hg hblk
    have hgs : wk.grownBy w' v.ownBlock := ⟨hg.os, hg.tape, hg.output, Nat.le_trans hb.size hg.size, fun q hq hr => (hg.block q (Nat.lt_of_lt_of_le hq hb.size) hr).trans (hb.block q hq)⟩
    refine h v' w' bs' ht' hgs fun b hbb => ?_
    rcases hin b hbb with h | h | h
    · exact .inl (by rw [h3]; exact h)
    · exact .inr (.inl h)
    · exact .inr (.inr (by rw [h]; exact hb.size))

/-- The same as one step of a region that draws its order. -/
theorem step_push {ops : Array Oper} {o : Oper} {a : Act} {K : Act → World → Prop} {Q : Exit → Act → World → Prop} {E : Prop} {wk : World} (hgd : o.guard = none) (s x : Operand)
    (ho : o.op = .call { callee := .builtin .append, args := #[s, x], argTypes := #[26, 26] })
    (base : Nat) (v : Value) (f : Fo) (bs bk : List Nat) (op n : Int) (k : Fo) (A : Option Addr) (c : Nat) (hs : a.eval s = v) (hx : a.eval x = .slice (some ⟨wk.heap.size, 0, none⟩) 1 1)
    (ht : Tree wk base v f bs) (hk : Tree wk base (.slice A k.len c) k bk) (hi : I64 op ∧ I64 n) (hd : ∀ b, b ∈ bs → b ∈ bk → False) (hlen : f.len ≤ 1048576) (hbase : base ≤ wk.heap.size)
    (h : ∀ v' w' bs', Tree w' base v' (f.snoc op n k) bs' → wk.grownBy w' v.ownBlock → (∀ b, b ∈ bs' → b ∈ bs ∨ b ∈ bk ∨ wk.heap.size ≤ b) → K (a.put o.dst v') w') :
    if Region.wanted o (yielded ops a.tmps) = true then Oper.wp Try.prog o a (wk.alloc (.cells #[.int .i64 op, .int .i64 n, .slice A k.len c] 28)) K Q else E := by
  have hw : Region.wanted o (yielded ops a.tmps) = true := by simp [Region.wanted, hgd]
  rw [if_pos hw]
  have hb := (Below.refl wk.heap.size wk).alloc (Nat.le_refl _) (.cells #[.int .i64 op, .int .i64 n, .slice A k.len c] 28)
  have ht1 := ht.over hb
  have hk1 := hk.over hb
  obtain ⟨st, b1, h1, h2, h3, h4⟩ := ht1
  obtain ⟨iT, hiT, hiz0, hiz1, hiz2⟩ := info_parts (show (Try.prog.info? 28).map (fun i => (i.zero, i.size, i.bytes)) = some (some (.agg #[.int .i64 0, .int .i64 0, .slice none 0 0]), 3, 40) by kernel_rfl)
  have h1c : ∀ u ∈ [Value.int .i64 op, .int .i64 n, .slice A k.len c], u.oneCell' = true := by
    intro u hu
    simp at hu
    rcases hu with rfl | rfl | rfl <;> rfl
  obtain ⟨v', w', hr, ho', hg, _, hblk⟩ := run_append_own_at (P := Try.prog) (wk.alloc (.cells #[.int .i64 op, .int .i64 n, .slice A k.len c] 28)) base 26 o.type 28 iT _ 3 40 Try.underlying26 hiT hiz0 hiz1 hiz2 rfl (by decide) v f.len (cells3 st) h1 ⟨wk.heap.size, 0, none⟩ 1 1 [.int .i64 op, .int .i64 n, .slice A k.len c] rfl
    (fresh_cells wk 28 _) h1c (by unfold maxLen; omega) (by omega) (Nat.le_trans hbase hb.size)
  unfold Oper.wp
  simp [execOp, ho, resolve, invoke, builtin, hs, hx, hr, Result.andThen]
  have hnd : ((blkV v ++ b1) ++ bk).Nodup := by
    rw [← h3]
    obtain ⟨_, _, _, _, _, hkn⟩ := hk
    exact List.nodup_append.2 ⟨h4, hkn, fun p hp q hq e => hd p hp (e ▸ hq)⟩
  obtain ⟨bs', ht', hin⟩ := Tree.push h1 h2 hk1 hi hnd ho' hg hblk
  have hgs : wk.grownBy w' v.ownBlock := ⟨hg.os, hg.tape, hg.output, Nat.le_trans hb.size hg.size, fun q hq hr => (hg.block q (Nat.lt_of_lt_of_le hq hb.size) hr).trans (hb.block q hq)⟩
  refine h v' w' bs' ht' hgs fun b hbb => ?_
  rcases hin b hbb with h | h | h
  · exact .inl (by rw [h3]; exact h)
  · exact .inr (.inl h)
  · exact .inr (.inr (by rw [h]; exact hb.size))

/-- A call of a function, by its contract, as one step of a region that draws its order. -/
theorem step_call {P : Program} {ops : Array Oper} {o : Oper} {a : Act} {w : World} {K : Act → World → Prop} {Q : Exit → Act → World → Prop} {E : Prop} {f : FuncId} {vs : Array Value} {R : Ending → World → Prop} (hgd : o.guard = none)
    (hrun : (execOp a.eval o).run P w = .ok (.enter f vs) w) (hc : Calls P f vs w R) (h : ∀ e w', R e w' → ∃ v, e = .returned v ∧ K (a.put o.dst v) w') :
    if Region.wanted o (yielded ops a.tmps) = true then Oper.wp P o a w K Q else E := by
  have hw : Region.wanted o (yielded ops a.tmps) = true := by simp [Region.wanted, hgd]
  rw [if_pos hw]
  unfold Oper.wp
  rw [hrun, Oper.upon_enter]
  refine hc.mono fun e w' hr => ?_
  obtain ⟨v, rfl, hk⟩ := h e w' hr
  exact hk
end Go.Proofs.Ytkjgnfpedponlaa
