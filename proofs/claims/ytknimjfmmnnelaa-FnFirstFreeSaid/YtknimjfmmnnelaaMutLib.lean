/-
  spec.l2Mutate: a library is drawn anew from a library.
  spec.l2Mutate: a library is copied, and one thing in it is changed.
  The draws of one library: DrawLibraryValid, DrawFindDef.
-/
import Derived.Test.YtknimjfmmnnelaaDraw2
import Derived.Test.YtknimjfmmnnelaaMutS
namespace Go.Proofs.Ytknimjfmmnnelaa
open Go.RowKit Go.Shelf
set_option maxRecDepth 100000

theorem liesD_all {w : World} {L B b o : Nat} {ds : List De} (h : LiesD w L B (some ⟨b, o, none⟩) ds) : ∀ j, j < ds.length * 6 → ∃ u, w.cell? ⟨b, o + j, none⟩ = some u ∧ u.oneCell' = true := by
  intro j hj
  have hi : j / 6 < ds.length := by omega
  obtain ⟨b', o', A', c', hA, _, _, _, g0, g1, g2, g3, g4, g5, _⟩ := h (j / 6) _ (List.getElem?_eq_getElem hi)
  injection hA with hA
  injection hA with h1 h2
  subst h1 h2
  have hr : j % 6 = 0 ∨ j % 6 = 1 ∨ j % 6 = 2 ∨ j % 6 = 3 ∨ j % 6 = 4 ∨ j % 6 = 5 := by omega
  rcases hr with h | h | h | h | h | h
  · exact ⟨_, by rw [show o + j = o + j / 6 * 6 by omega]; exact g0, rfl⟩
  · exact ⟨_, by rw [show o + j = o + j / 6 * 6 + 1 by omega]; exact g1, rfl⟩
  · exact ⟨_, by rw [show o + j = o + j / 6 * 6 + 2 by omega]; exact g2, rfl⟩
  · exact ⟨_, by rw [show o + j = o + j / 6 * 6 + 3 by omega]; exact g3, rfl⟩
  · exact ⟨_, by rw [show o + j = o + j / 6 * 6 + 4 by omega]; exact g4, rfl⟩
  · exact ⟨_, by rw [show o + j = o + j / 6 * 6 + 5 by omega]; exact g5, rfl⟩

theorem add_plainD (b o j : Nat) : (⟨b, o, none⟩ : Addr).add j = ⟨b, o + j, none⟩ := by unfold Addr.add; split <;> simp_all

/-- append onto an empty list of the call's own: a copy of the list. -/
theorem appendD_run {w : World} {g0 L B : Nat} {ds : List De} {A : Option Addr} {c : Nat} (hr : Row w g0 61 #[]) (hl : LiesD w L B A ds) (hn : ds.length ≤ 1048576) :
    ∃ v' w', (Builtin.append_ #[23, 23] 23 #[.slice (some ⟨g0, 0, none⟩) 0 0, .slice A ds.length c]).run Try.prog w = .ok v' w' ∧ w.grownBy w' (some g0) ∧
      ∃ gg cap cur, v' = .slice (some ⟨gg, 0, none⟩) ds.length cap ∧ (gg = g0 ∨ gg = w.heap.size) ∧ ds.length ≤ cap ∧ cap ≤ maxLen ∧ Row w' gg 61 cur ∧ cur.size = cap * 6 ∧ ∀ i d, ds[i]? = some d → DAtC w L B cur i d := by
  obtain ⟨iT, hiT, hiz0, hiz1, hiz2⟩ := info_parts (show (Try.prog.info? 61).map (fun i => (i.zero, i.size, i.bytes)) = some (some (.agg #[.int .i64 0, .int .i64 0, .bool false, .int .i64 0, .int .i64 0, .slice none 0 0]), 6, 64) by kernel_rfl)
  have hu := Try.underlying23
  have ho : w.ownsRow 0 61 6 (.slice (some ⟨g0, 0, none⟩) 0 0) 0 [] := ⟨rfl, .inr ⟨g0, 0, #[], rfl, Nat.zero_le _, hr, Nat.le_refl _, by decide, rfl, rfl⟩⟩
  cases A with
  | none =>
    have hz : ds = [] := by
      cases ds with
      | nil => rfl
      | cons x r => obtain ⟨b, o, _, _, hA, _⟩ := hl 0 x rfl; cases hA
    subst hz
    refine ⟨.slice (some ⟨g0, 0, none⟩) 0 0, w, ?_, World.grownBy.refl w _, g0, 0, #[], rfl, .inl rfl, Nat.le_refl _, by decide, hr, rfl, fun i d hd => by simp at hd⟩
    simp [Builtin.append_, run_underlying hu, sizeOf, typeInfo, hiT, Builtin.lenOf, Builtin.firstCells, storeCells]
  | some a =>
    by_cases h0 : ds = []
    · subst h0
      refine ⟨.slice (some ⟨g0, 0, none⟩) 0 0, w, ?_, World.grownBy.refl w _, g0, 0, #[], rfl, .inl rfl, Nat.le_refl _, by decide, hr, rfl, fun i d hd => by simp at hd⟩
      simp [Builtin.append_, run_underlying hu, sizeOf, typeInfo, hiT, Builtin.lenOf, Builtin.firstCells, storeCells, loadCells, loadCellsFrom]
    have hpos : 0 < ds.length := List.length_pos_iff.2 h0
    obtain ⟨b, o, hab⟩ : ∃ b o, a = ⟨b, o, none⟩ := by
      obtain ⟨b, o, _, _, hA, _⟩ := hl 0 _ (List.getElem?_eq_getElem hpos)
      exact ⟨b, o, Option.some.inj hA⟩
    subst hab
    have hall := liesD_all hl
    obtain ⟨st, hst⟩ : ∃ st : List Value, st = (List.range (ds.length * 6)).map (fun j => (w.cell? ⟨b, o + j, none⟩).getD (.bool false)) := ⟨_, rfl⟩
    have hsl : st.length = ds.length * 6 := by rw [hst]; simp
    have hsat : ∀ j u, st[j]? = some u → w.cell? ⟨b, o + j, none⟩ = some u ∧ u.oneCell' = true := fun j u hj => by
      have hjl : j < ds.length * 6 := by have := (List.getElem?_eq_some_iff.1 hj).1; omega
      obtain ⟨x, h1, h2⟩ := hall j hjl
      rw [hst, List.getElem?_map, List.getElem?_range hjl] at hj
      simp only [Option.map_some, h1, Option.getD_some] at hj
      injection hj with hj
      subst hj
      exact ⟨h1, h2⟩
    have hscell : ∀ j, j < ds.length * 6 → st[j]? = w.cell? ⟨b, o + j, none⟩ := fun j hj => by
      have h1 := List.getElem?_eq_getElem (show j < st.length by omega)
      rw [h1]
      exact (hsat j _ h1).1.symm
    obtain ⟨v', w', hrun, ho', hg, _, hblk⟩ := run_append_own_at (P := Try.prog) w 0 23 23 61 iT _ 6 64 hu hiT hiz0 hiz1 hiz2 rfl (by decide) (.slice (some ⟨g0, 0, none⟩) 0 0) 0 [] ho ⟨b, o, none⟩ ds.length c st hsl
      (fun j u hj => by
        have e : ((⟨b, o, none⟩ : Addr).add j) = ⟨b, o + j, none⟩ := add_plainD b o j
        rw [e]; exact (hsat j u hj).1)
      (fun u hu => by obtain ⟨j, hj⟩ := List.mem_iff_getElem?.1 hu; exact (hsat j u hj).2) (by unfold maxLen; omega) (by omega) (Nat.zero_le _)
    rw [Nat.zero_add, List.nil_append] at ho'
    refine ⟨v', w', hrun, hg, ?_⟩
    rcases ho'.2 with ⟨_, h⟩ | ⟨gg, cap, cur, rfl, _, h3, h4, h4b, h5, h6⟩
    · omega
    refine ⟨gg, cap, cur, rfl, ?_, h4, h4b, h3, h5, fun i d hd => ?_⟩
    · rcases hblk with h | h
      · exact .inl (Option.some.inj h)
      · exact .inr (Option.some.inj h)
    · have hi : i < ds.length := (List.getElem?_eq_some_iff.1 hd).1
      obtain ⟨b', o', A', c', hA, _, _, hf, g0', g1, g2, g3, g4, g5, k1, k2, hk⟩ := hl i d hd
      injection hA with hA
      injection hA with e1 e2
      subst e1 e2
      have cell : ∀ j, j < 6 → cur[i * 6 + j]? = w.cell? ⟨b, o + i * 6 + j, none⟩ := fun j hj => by
        have h7 : (cur.toList.take (ds.length * 6))[i * 6 + j]? = st[i * 6 + j]? := by rw [h6]
        rw [List.getElem?_take_of_lt (by omega), Array.getElem?_toList] at h7
        rw [h7, hscell _ (by omega), Nat.add_assoc]
      exact ⟨A', c', hf, (cell 0 (by omega)).trans g0', (cell 1 (by omega)).trans g1, (cell 2 (by omega)).trans g2, (cell 3 (by omega)).trans g3, (cell 4 (by omega)).trans g4, (cell 5 (by omega)).trans g5, k1, k2, hk⟩

/-- The list ds stands in the cells of a row. -/
def DsC (w : World) (L B : Nat) (cur : Array Value) (ds : List De) : Prop := ds.length * 6 ≤ cur.size ∧ ∀ i d, ds[i]? = some d → DAtC w L B cur i d

theorem DAtC.at_ {w w' : World} {L B B' : Nat} {cs cs' : Array Value} {i : Nat} {d : De} (hB : B ≤ B') (hk : ∀ p : Addr, L ≤ p.block → p.block < B → w'.cell? p = w.cell? p)
    (hx : ∀ x, x / 6 = i → cs'[x]? = cs[x]?) (h : DAtC w L B cs i d) : DAtC w' L B' cs' i d := by
  obtain ⟨A', c', hf, h1, h2, h3, h4, h5, h6, h7, h8, h9⟩ := h
  exact ⟨A', c', hf, (hx _ (by omega)).trans h1, (hx _ (by omega)).trans h2, (hx _ (by omega)).trans h3, (hx _ (by omega)).trans h4, (hx _ (by omega)).trans h5, (hx _ (by omega)).trans h6, h7, h8, h9.keep (Nat.le_refl _) hB hk⟩
theorem DsC.keep {w w' : World} {L B B' : Nat} {cur : Array Value} {ds : List De} (hB : B ≤ B') (hk : ∀ p : Addr, L ≤ p.block → p.block < B → w'.cell? p = w.cell? p) (h : DsC w L B cur ds) : DsC w' L B' cur ds :=
  ⟨h.1, fun i d hd => (h.2 i d hd).at_ hB hk fun _ _ => rfl⟩
theorem DsC.lies {w : World} {L B g : Nat} {t : TypeId} {cur : Array Value} {ds : List De} (hr : Row w g t cur) (h1 : L ≤ g) (h2 : g < B) (h : DsC w L B cur ds) : LiesD w L B (some ⟨g, 0, none⟩) ds := by
  intro i d hd
  obtain ⟨A', c', hf, q0, q1, q2, q3, q4, q5, h7, h8, h9⟩ := h.2 i d hd
  refine ⟨g, 0, A', c', rfl, h1, h2, hf, ?_, ?_, ?_, ?_, ?_, ?_, h7, h8, h9⟩ <;> rw [Nat.zero_add]
  · exact hr.cell q0
  · exact hr.cell q1
  · exact hr.cell q2
  · exact hr.cell q3
  · exact hr.cell q4
  · exact hr.cell q5
theorem DsC.upd {w : World} {L B k : Nat} {cur cur' : Array Value} {ds : List De} {d' : De} (h : DsC w L B cur ds) (hs : cur'.size = cur.size) (ho : ∀ x, x / 6 ≠ k → cur'[x]? = cur[x]?) (hd : DAtC w L B cur' k d') : DsC w L B cur' (ds.set k d') := by
  refine ⟨by rw [List.length_set, hs]; exact h.1, fun i e he => ?_⟩
  by_cases hik : i = k
  · subst hik
    have hl : i < (ds.set i d').length := (List.getElem?_eq_some_iff.1 he).1
    rw [List.length_set] at hl
    rw [List.getElem?_set_self hl] at he
    injection he with he
    subst he
    exact hd
  · rw [List.getElem?_set_ne (Ne.symm hik)] at he
    exact (h.2 i e he).at_ (Nat.le_refl _) (fun _ _ _ => rfl) fun x hx => ho x (by omega)
theorem put_ne {cur : Array Value} {i x : Nat} {v : Value} (h : i ≠ x) : (cur.setIfInBounds i v)[x]? = cur[x]? := Array.getElem?_setIfInBounds_ne h
theorem put_eq {cur : Array Value} {i : Nat} {v : Value} (h : i < cur.size) : (cur.setIfInBounds i v)[i]? = some v := Array.getElem?_setIfInBounds_self_of_lt h
theorem DsC.room {w : World} {L B k : Nat} {cur : Array Value} {ds : List De} {d : De} (h : DsC w L B cur ds) (hk : ds[k]? = some d) : k * 6 + 6 ≤ cur.size := by
  have := h.1
  have := (List.getElem?_eq_some_iff.1 hk).1
  omega
theorem DsC.set0 {w : World} {L B k : Nat} {cur : Array Value} {ds : List De} {d : De} {y : Int} (h : DsC w L B cur ds) (hk : ds[k]? = some d) (hy : I64 y) : DsC w L B (cur.setIfInBounds (k * 6) (.int .i64 y)) (ds.set k ⟨y, d.ar, d.old, d.op, d.n, d.k⟩) := by
  have hr := h.room hk
  refine h.upd (by simp) (fun x hx => put_ne (by omega)) ?_
  obtain ⟨A', c', hf, q0, q1, q2, q3, q4, q5, h7, h8, h9⟩ := h.2 k d hk
  exact ⟨A', c', ⟨hy, hf.2.1, hf.2.2.1, hf.2.2.2⟩, put_eq (by omega), (put_ne (by omega)).trans q1, (put_ne (by omega)).trans q2, (put_ne (by omega)).trans q3, (put_ne (by omega)).trans q4, (put_ne (by omega)).trans q5, h7, h8, h9⟩
theorem DsC.set1 {w : World} {L B k : Nat} {cur : Array Value} {ds : List De} {d : De} {y : Int} (h : DsC w L B cur ds) (hk : ds[k]? = some d) (hy : I64 y) : DsC w L B (cur.setIfInBounds (k * 6 + 1) (.int .i64 y)) (ds.set k ⟨d.nm, y, d.old, d.op, d.n, d.k⟩) := by
  have hr := h.room hk
  refine h.upd (by simp) (fun x hx => put_ne (by omega)) ?_
  obtain ⟨A', c', hf, q0, q1, q2, q3, q4, q5, h7, h8, h9⟩ := h.2 k d hk
  exact ⟨A', c', ⟨hf.1, hy, hf.2.2.1, hf.2.2.2⟩, (put_ne (by omega)).trans q0, put_eq (by omega), (put_ne (by omega)).trans q2, (put_ne (by omega)).trans q3, (put_ne (by omega)).trans q4, (put_ne (by omega)).trans q5, h7, h8, h9⟩
theorem DsC.set2 {w : World} {L B k : Nat} {cur : Array Value} {ds : List De} {d : De} {y : Bool} (h : DsC w L B cur ds) (hk : ds[k]? = some d) : DsC w L B (cur.setIfInBounds (k * 6 + 2) (.bool y)) (ds.set k ⟨d.nm, d.ar, y, d.op, d.n, d.k⟩) := by
  have hr := h.room hk
  refine h.upd (by simp) (fun x hx => put_ne (by omega)) ?_
  obtain ⟨A', c', hf, q0, q1, q2, q3, q4, q5, h7, h8, h9⟩ := h.2 k d hk
  exact ⟨A', c', hf, (put_ne (by omega)).trans q0, (put_ne (by omega)).trans q1, put_eq (by omega), (put_ne (by omega)).trans q3, (put_ne (by omega)).trans q4, (put_ne (by omega)).trans q5, h7, h8, h9⟩
theorem DsC.setB {w : World} {L B k : Nat} {cur : Array Value} {ds : List De} {d : De} {op n : Int} {f : Fo} {A : Option Addr} {c : Nat} (h : DsC w L B cur ds) (hk : ds[k]? = some d) (hi : I64 op ∧ I64 n) (hl : Lies w L B A 0 f) (h1 : f.len ≤ c) (h2 : c ≤ maxLen) :
    DsC w L B (((cur.setIfInBounds (k * 6 + 3) (.int .i64 op)).setIfInBounds (k * 6 + 4) (.int .i64 n)).setIfInBounds (k * 6 + 5) (.slice A f.len c)) (ds.set k ⟨d.nm, d.ar, d.old, op, n, f⟩) := by
  have hr := h.room hk
  refine h.upd (by simp) (fun x hx => (put_ne (by omega)).trans ((put_ne (by omega)).trans (put_ne (by omega)))) ?_
  obtain ⟨A', c', hf, q0, q1, q2, q3, q4, q5, h7, h8, h9⟩ := h.2 k d hk
  have e : ∀ x, x < k * 6 + 3 → (((cur.setIfInBounds (k * 6 + 3) (.int .i64 op)).setIfInBounds (k * 6 + 4) (.int .i64 n)).setIfInBounds (k * 6 + 5) (.slice A f.len c))[x]? = cur[x]? := fun x hx => (put_ne (by omega)).trans ((put_ne (by omega)).trans (put_ne (by omega)))
  exact ⟨A, c, ⟨hf.1, hf.2.1, hi.1, hi.2⟩, (e _ (by omega)).trans q0, (e _ (by omega)).trans q1, (e _ (by omega)).trans q2, (put_ne (by omega)).trans ((put_ne (by omega)).trans (put_eq (by omega))), (put_ne (by omega)).trans (put_eq (by simp; omega)), put_eq (by simp; omega), h1, h2, hl⟩
theorem DsC.take {w : World} {L B : Nat} {cur : Array Value} {ds : List De} (h : DsC w L B cur ds) (k : Nat) : DsC w L B cur (ds.take k) := by
  refine ⟨by rw [List.length_take]; have := h.1; omega, fun i d hd => h.2 i d ?_⟩
  have hi := (List.getElem?_eq_some_iff.1 hd).1
  rw [List.length_take] at hi
  rw [List.getElem?_take_of_lt (by omega)] at hd
  exact hd
/-- One more function behind the list, in a row that holds the same cells and then those of the new one. -/
theorem DsC.snoc {w : World} {L B : Nat} {cur cur' : Array Value} {ds : List De} {d : De} {A : Option Addr} {c : Nat} (h : DsC w L B cur ds) (hs : (ds.length + 1) * 6 ≤ cur'.size)
    (ht : cur'.toList.take ((ds.length + 1) * 6) = cur.toList.take (ds.length * 6) ++ [.int .i64 d.nm, .int .i64 d.ar, .bool d.old, .int .i64 d.op, .int .i64 d.n, .slice A d.k.len c]) (hf : d.fits) (hl : Lies w L B A 0 d.k) (h1 : d.k.len ≤ c) (h2 : c ≤ maxLen) : DsC w L B cur' (ds ++ [d]) := by
  have hh := h.1
  have hln : (cur.toList.take (ds.length * 6)).length = ds.length * 6 := by
    rw [List.length_take]
    exact Nat.min_eq_left (by rw [Array.length_toList]; exact hh)
  have hlt : ∀ x, x < ds.length * 6 → cur'[x]? = cur[x]? := fun x hx => by
    have e : (cur'.toList.take ((ds.length + 1) * 6))[x]? = (cur.toList.take (ds.length * 6) ++ [.int .i64 d.nm, .int .i64 d.ar, .bool d.old, .int .i64 d.op, .int .i64 d.n, .slice A d.k.len c])[x]? := by rw [ht]
    rw [List.getElem?_take_of_lt (by omega), List.getElem?_append_left (by rw [hln]; exact hx), List.getElem?_take_of_lt hx, Array.getElem?_toList, Array.getElem?_toList] at e
    exact e
  have hge : ∀ x, x < 6 → cur'[ds.length * 6 + x]? = ([.int .i64 d.nm, .int .i64 d.ar, .bool d.old, .int .i64 d.op, .int .i64 d.n, .slice A d.k.len c] : List Value)[x]? := fun x hx => by
    have e : (cur'.toList.take ((ds.length + 1) * 6))[ds.length * 6 + x]? = (cur.toList.take (ds.length * 6) ++ [.int .i64 d.nm, .int .i64 d.ar, .bool d.old, .int .i64 d.op, .int .i64 d.n, .slice A d.k.len c])[ds.length * 6 + x]? := by rw [ht]
    rw [List.getElem?_take_of_lt (by omega), List.getElem?_append_right (by rw [hln]; exact Nat.le_add_right _ _), hln, Nat.add_sub_cancel_left, Array.getElem?_toList] at e
    exact e
  refine ⟨by rw [List.length_append]; exact hs, fun i e he => ?_⟩
  by_cases hi : i < ds.length
  · rw [List.getElem?_append_left hi] at he
    exact (h.2 i e he).at_ (Nat.le_refl _) (fun _ _ _ => rfl) fun x hx => hlt x (by omega)
  · have hi2 : i < (ds ++ [d]).length := (List.getElem?_eq_some_iff.1 he).1
    rw [List.length_append] at hi2
    have e9 : i = ds.length := by simp at hi2; omega
    subst e9
    rw [List.getElem?_append_right (Nat.le_refl _), Nat.sub_self] at he
    injection he with he
    subst he
    exact ⟨A, c, hf, hge 0 (by decide), hge 1 (by decide), hge 2 (by decide), hge 3 (by decide), hge 4 (by decide), hge 5 (by decide), h1, h2, hl⟩

theorem sizeD_set : ∀ {ds : List De} {k : Nat} {d d' : De}, ds[k]? = some d → sizeD (ds.set k d') + d.k.size = sizeD ds + d'.k.size
  | [], _, _, _, h => by simp at h
  | e :: r, 0, d, d', h => by simp at h; subst h; simp [sizeD]; omega
  | e :: r, k + 1, d, d', h => by
    have := sizeD_set (ds := r) (k := k) (d := d) (d' := d') (by simpa using h)
    simp only [List.set_cons_succ, sizeD]
    omega
theorem sizeD_take : ∀ (ds : List De) (k : Nat), sizeD (ds.take k) ≤ sizeD ds
  | [], k => by simp
  | e :: r, 0 => by simp [sizeD]
  | e :: r, k + 1 => by have := sizeD_take r k; simp only [List.take_succ_cons, sizeD]; omega
end Go.Proofs.Ytknimjfmmnnelaa

namespace Go.Proofs.Ytknimjfmmnnelaa
open Go.RowKit Go.Shelf
set_option maxRecDepth 100000

/-- A library that was changed. -/
def Mut2Post (g : Nat) (A : Option Addr) (bc : Nat) (bs : List Nat) (Q p : Nat) (b : Int) (L n s : Nat) (w : World) (e : Ending) (w' : World) : Prop :=
  ∃ (ds : List De) (X : Option Addr) (c p' : Nat), e = .returned (.slice X ds.length c) ∧ LiesD w' L w'.heap.size X ds ∧ ds.length ≤ c ∧ c ≤ maxLen ∧ ds.length ≤ n + 1 ∧ sizeD ds + p ≤ 2 * s + p' ∧
    Rd w' g A bc bs p' ∧ Ok bs Q p' b ∧ Only g w.heap.size w w'

theorem DsC.wide {w V : World} {L B : Nat} {cur : Array Value} {ds : List De} (h : DsC w L B cur ds) (hb : Below B w V) (hB : B ≤ V.heap.size) : DsC V L V.heap.size cur ds := h.keep hB fun _ _ hq => hb.cell hq
/-- The end: the list stands in a row of its own. -/
theorem mut2_end {g : Nat} {A : Option Addr} {bc : Nat} {bs : List Nat} {Q p : Nat} {b b' : Int} {L n s gg cap p' : Nat} {w V : World} {cur : Array Value} {ds : List De} {l : Nat} (hd : DsC V L V.heap.size cur ds) (hr : Row V gg 61 cur) (hg : L ≤ gg) (hc1 : ds.length ≤ cap) (hc2 : cap ≤ maxLen)
    (hn : ds.length ≤ n + 1) (hs : sizeD ds + p ≤ 2 * s + p') (hrd : Rd V g A bc bs p') (hok : Ok bs Q p' b') (hbb : b' ≤ b) (hon : Only g w.heap.size w V) (hle : l = ds.length) :
    Mut2Post g A bc bs Q p b L n s w (.returned (.slice (some ⟨gg, 0, none⟩) l cap)) V := by
  subst hle
  exact ⟨ds, _, cap, p', rfl, hd.lies hr hg hr.size, hc1, hc2, hn, hs, hrd, hok.mono hbb, hon⟩

end Go.Proofs.Ytknimjfmmnnelaa

namespace Go.Proofs.Ytknimjfmmnnelaa
open Go.RowKit Go.Shelf
set_option maxRecDepth 100000

theorem sizeD_bound {m : Nat} : ∀ (ds : List De), (∀ d ∈ ds, d.k.size ≤ m) → sizeD ds ≤ ds.length * (m + 1)
  | [], _ => by simp [sizeD]
  | d :: r, h => by
    have h1 := sizeD_bound r fun e he => h e (by simp [he])
    have h2 := h d (by simp)
    simp only [sizeD, List.length_cons, Nat.add_mul]
    omega

theorem LiesY.bytes {w : World} {L B : Nat} {A : Option Addr} {bs : List Nat} (h : LiesY w L B A bs) : ∀ x, x ∈ bs → x < 256 := fun x hx => by
  obtain ⟨i, hlt, hi⟩ := List.getElem_of_mem hx
  obtain ⟨_, _, _, _, _, h5, _⟩ := h i x (by rw [List.getElem?_eq_getElem hlt, hi])
  exact h5
theorem small_le80 {k : Fo} (h : smallOk k 14 80 = true) : k.size ≤ 80 := by
  unfold smallOk at h
  simp only [Bool.and_eq_true, decide_eq_true_iff] at h
  omega
/-- A library was drawn, valid or not. -/
def DrawnD (w : World) (base : Nat) (ds : List De) (X : Option Addr) (c : Nat) : Prop := LiesD w base w.heap.size X ds ∧ ds.length ≤ c ∧ c ≤ maxLen ∧ ds.length ≤ 100 ∧ sizeD ds ≤ 700000
def LibPost (w : World) (e : Ending) (w' : World) : Prop :=
  ∃ (ds : List De) (X : Option Addr) (c : Nat), e = .returned (.slice X ds.length c) ∧ DrawnD w' w.heap.size ds X c ∧ Below w.heap.size w w'

def FindDPost (w : World) (e : Ending) (w' : World) : Prop :=
  ∃ (ds : List De) (X : Option Addr) (c : Nat) (x : Int), e = .returned (.tuple #[.slice X ds.length c, .int .i64 x]) ∧ DrawnD w' w.heap.size ds X c ∧ I64 x ∧ Below w.heap.size w w'

end Go.Proofs.Ytknimjfmmnnelaa
