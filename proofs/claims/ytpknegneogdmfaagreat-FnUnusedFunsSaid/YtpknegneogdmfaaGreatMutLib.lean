/-
  spec.l2Mutate: a library is drawn anew from a library.
  spec.l2Mutate: a library is copied, and one thing in it is changed.
  The draws of one library: DrawLibraryValid, DrawFindDef.
-/
import Derived.Test.YtpknegneogdmfaaGreatDraw2
import Derived.Test.YtpknegneogdmfaaGreatMutS
namespace Go.Proofs.YtpknegneogdmfaaGreat
open Go.RowKit Go.Shelf
set_option maxRecDepth 100000

theorem liesD_all {w : World} {L B b o : Nat} {ds : List De} (h : LiesD w L B (some ⟨b, o, none⟩) ds) : ∀ j, j < ds.length * 6 → ∃ u, w.cell? ⟨b, o + j, none⟩ = some u ∧ u.oneCell' = true := by
  intro j hj
  have hi : j / 6 < ds.length := by omega
  obtain ⟨b', o', A', c', hA, _, _, _, g0, g1, g2, g3, g4, g5, _⟩ := h (j / 6) _ (List.getElem?_eq_getElem hi)
  injection hA with hA
  injection hA with h1 h2
  subst h1 h2
  have hr : j % 6 = 0 ∨ j % 6 = 1 ∨ j % 6 = 2 ∨ j % 6 = 3 ∨ j % 6 = 4 ∨ j % 6 = 5 := by omega
  rcases hr with h | h | h | h | h | h
  · exact ⟨_, by rw [show o + j = o + j / 6 * 6 by omega]; exact g0, rfl⟩
  · exact ⟨_, by rw [show o + j = o + j / 6 * 6 + 1 by omega]; exact g1, rfl⟩
  · exact ⟨_, by rw [show o + j = o + j / 6 * 6 + 2 by omega]; exact g2, rfl⟩
  · exact ⟨_, by rw [show o + j = o + j / 6 * 6 + 3 by omega]; exact g3, rfl⟩
  · exact ⟨_, by rw [show o + j = o + j / 6 * 6 + 4 by omega]; exact g4, rfl⟩
  · exact ⟨_, by rw [show o + j = o + j / 6 * 6 + 5 by omega]; exact g5, rfl⟩

theorem add_plainD (b o j : Nat) : (⟨b, o, none⟩ : Addr).add j = ⟨b, o + j, none⟩ := by unfold Addr.add; split <;> simp_all

/-- append onto an empty list of the call's own: a copy of the list. -/
theorem appendD_run {w : World} {g0 L B : Nat} {ds : List De} {A : Option Addr} {c : Nat} (hr : Row w g0 38 #[]) (hl : LiesD w L B A ds) (hn : ds.length ≤ 1048576) :
    ∃ v' w', (Builtin.append_ #[23, 23] 23 #[.slice (some ⟨g0, 0, none⟩) 0 0, .slice A ds.length c]).run Tryz.prog w = .ok v' w' ∧ w.grownBy w' (some g0) ∧
      ∃ gg cap cur, v' = .slice (some ⟨gg, 0, none⟩) ds.length cap ∧ (gg = g0 ∨ gg = w.heap.size) ∧ ds.length ≤ cap ∧ cap ≤ maxLen ∧ Row w' gg 38 cur ∧ cur.size = cap * 6 ∧ ∀ i d, ds[i]? = some d → DAtC w L B cur i d := by
  obtain ⟨iT, hiT, hiz0, hiz1, hiz2⟩ := info_parts (show (Tryz.prog.info? 38).map (fun i => (i.zero, i.size, i.bytes)) = some (some (.agg #[.int .i64 0, .int .i64 0, .bool false, .int .i64 0, .int .i64 0, .slice none 0 0]), 6, 64) by kernel_rfl)
  have hu := Tryz.underlying23
  have ho : w.ownsRow 0 38 6 (.slice (some ⟨g0, 0, none⟩) 0 0) 0 [] := ⟨rfl, .inr ⟨g0, 0, #[], rfl, Nat.zero_le _, hr, Nat.le_refl _, by decide, rfl, rfl⟩⟩
  cases A with
  | none =>
    have hz : ds = [] := by
      cases ds with
      | nil => rfl
      | cons x r => obtain ⟨b, o, _, _, hA, _⟩ := hl 0 x rfl; cases hA
    subst hz
    refine ⟨.slice (some ⟨g0, 0, none⟩) 0 0, w, ?_, World.grownBy.refl w _, g0, 0, #[], rfl, .inl rfl, Nat.le_refl _, by decide, hr, rfl, fun i d hd => by simp at hd⟩
    simp [Builtin.append_, run_underlying hu, sizeOf, typeInfo, hiT, Builtin.lenOf, Builtin.firstCells, storeCells]
  | some a =>
    by_cases h0 : ds = []
    · subst h0
      refine ⟨.slice (some ⟨g0, 0, none⟩) 0 0, w, ?_, World.grownBy.refl w _, g0, 0, #[], rfl, .inl rfl, Nat.le_refl _, by decide, hr, rfl, fun i d hd => by simp at hd⟩
      simp [Builtin.append_, run_underlying hu, sizeOf, typeInfo, hiT, Builtin.lenOf, Builtin.firstCells, storeCells, loadCells, loadCellsFrom]
    have hpos : 0 < ds.length := List.length_pos_iff.2 h0
    obtain ⟨b, o, hab⟩ : ∃ b o, a = ⟨b, o, none⟩ := by
      obtain ⟨b, o, _, _, hA, _⟩ := hl 0 _ (List.getElem?_eq_getElem hpos)
      exact ⟨b, o, Option.some.inj hA⟩
    subst hab
    have hall := liesD_all hl
    obtain ⟨st, hst⟩ : ∃ st : List Value, st = (List.range (ds.length * 6)).map (fun j => (w.cell? ⟨b, o + j, none⟩).getD (.bool false)) := ⟨_, rfl⟩
    have hsl : st.length = ds.length * 6 := by rw [hst]; simp
    have hsat : ∀ j u, st[j]? = some u → w.cell? ⟨b, o + j, none⟩ = some u ∧ u.oneCell' = true := fun j u hj => by
      have hjl : j < ds.length * 6 := by have := (List.getElem?_eq_some_iff.1 hj).1; omega
      obtain ⟨x, h1, h2⟩ := hall j hjl
      rw [hst, List.getElem?_map, List.getElem?_range hjl] at hj
      simp only [Option.map_some, h1, Option.getD_some] at hj
      injection hj with hj
      subst hj
      exact ⟨h1, h2⟩
    have hscell : ∀ j, j < ds.length * 6 → st[j]? = w.cell? ⟨b, o + j, none⟩ := fun j hj => by
      have h1 := List.getElem?_eq_getElem (show j < st.length by omega)
      rw [h1]
      exact (hsat j _ h1).1.symm
    obtain ⟨v', w', hrun, ho', hg, _, hblk⟩ := run_append_own_at (P := Tryz.prog) w 0 23 23 38 iT _ 6 64 hu hiT hiz0 hiz1 hiz2 rfl (by decide) (.slice (some ⟨g0, 0, none⟩) 0 0) 0 [] ho ⟨b, o, none⟩ ds.length c st hsl
      (fun j u hj => by
        have e : ((⟨b, o, none⟩ : Addr).add j) = ⟨b, o + j, none⟩ := add_plainD b o j
        rw [e]; exact (hsat j u hj).1)
      (fun u hu => by obtain ⟨j, hj⟩ := List.mem_iff_getElem?.1 hu; exact (hsat j u hj).2) (by unfold maxLen; omega) (by omega) (Nat.zero_le _)
    rw [Nat.zero_add, List.nil_append] at ho'
    refine ⟨v', w', hrun, hg, ?_⟩
    rcases ho'.2 with ⟨_, h⟩ | ⟨gg, cap, cur, rfl, _, h3, h4, h4b, h5, h6⟩
    · omega
    refine ⟨gg, cap, cur, rfl, ?_, h4, h4b, h3, h5, fun i d hd => ?_⟩
    · rcases hblk with h | h
      · exact .inl (Option.some.inj h)
      · exact .inr (Option.some.inj h)
    · have hi : i < ds.length := (List.getElem?_eq_some_iff.1 hd).1
      obtain ⟨b', o', A', c', hA, _, _, hf, g0', g1, g2, g3, g4, g5, k1, k2, hk⟩ := hl i d hd
      injection hA with hA
      injection hA with e1 e2
      subst e1 e2
      have cell : ∀ j, j < 6 → cur[i * 6 + j]? = w.cell? ⟨b, o + i * 6 + j, none⟩ := fun j hj => by
        have h7 : (cur.toList.take (ds.length * 6))[i * 6 + j]? = st[i * 6 + j]? := by rw [h6]
        rw [List.getElem?_take_of_lt (by omega), Array.getElem?_toList] at h7
        rw [h7, hscell _ (by omega), Nat.add_assoc]
      exact ⟨A', c', hf, (cell 0 (by omega)).trans g0', (cell 1 (by omega)).trans g1, (cell 2 (by omega)).trans g2, (cell 3 (by omega)).trans g3, (cell 4 (by omega)).trans g4, (cell 5 (by omega)).trans g5, k1, k2, hk⟩

/-- The list ds stands in the cells of a row. -/
def DsC (w : World) (L B : Nat) (cur : Array Value) (ds : List De) : Prop := ds.length * 6 ≤ cur.size ∧ ∀ i d, ds[i]? = some d → DAtC w L B cur i d

theorem DAtC.at_ {w w' : World} {L B B' : Nat} {cs cs' : Array Value} {i : Nat} {d : De} (hB : B ≤ B') (hk : ∀ p : Addr, L ≤ p.block → p.block < B → w'.cell? p = w.cell? p)
    (hx : ∀ x, x / 6 = i → cs'[x]? = cs[x]?) (h : DAtC w L B cs i d) : DAtC w' L B' cs' i d := by
  obtain ⟨A', c', hf, h1, h2, h3, h4, h5, h6, h7, h8, h9⟩ := h
  exact ⟨A', c', hf, (hx _ (by omega)).trans h1, (hx _ (by omega)).trans h2, (hx _ (by omega)).trans h3, (hx _ (by omega)).trans h4, (hx _ (by omega)).trans h5, (hx _ (by omega)).trans h6, h7, h8, h9.keep (Nat.le_refl _) hB hk⟩
theorem DsC.keep {w w' : World} {L B B' : Nat} {cur : Array Value} {ds : List De} (hB : B ≤ B') (hk : ∀ p : Addr, L ≤ p.block → p.block < B → w'.cell? p = w.cell? p) (h : DsC w L B cur ds) : DsC w' L B' cur ds :=
  ⟨h.1, fun i d hd => (h.2 i d hd).at_ hB hk fun _ _ => rfl⟩
theorem DsC.lies {w : World} {L B g : Nat} {t : TypeId} {cur : Array Value} {ds : List De} (hr : Row w g t cur) (h1 : L ≤ g) (h2 : g < B) (h : DsC w L B cur ds) : LiesD w L B (some ⟨g, 0, none⟩) ds := by
  intro i d hd
  obtain ⟨A', c', hf, q0, q1, q2, q3, q4, q5, h7, h8, h9⟩ := h.2 i d hd
  refine ⟨g, 0, A', c', rfl, h1, h2, hf, ?_, ?_, ?_, ?_, ?_, ?_, h7, h8, h9⟩ <;> rw [Nat.zero_add]
  · exact hr.cell q0
  · exact hr.cell q1
  · exact hr.cell q2
  · exact hr.cell q3
  · exact hr.cell q4
  · exact hr.cell q5
theorem DsC.upd {w : World} {L B k : Nat} {cur cur' : Array Value} {ds : List De} {d' : De} (h : DsC w L B cur ds) (hs : cur'.size = cur.size) (ho : ∀ x, x / 6 ≠ k → cur'[x]? = cur[x]?) (hd : DAtC w L B cur' k d') : DsC w L B cur' (ds.set k d') := by
  refine ⟨by rw [List.length_set, hs]; exact h.1, fun i e he => ?_⟩
  by_cases hik : i = k
  · subst hik
    have hl : i < (ds.set i d').length := (List.getElem?_eq_some_iff.1 he).1
    rw [List.length_set] at hl
    rw [List.getElem?_set_self hl] at he
    injection he with he
    subst he
    exact hd
  · rw [List.getElem?_set_ne (Ne.symm hik)] at he
    exact (h.2 i e he).at_ (Nat.le_refl _) (fun _ _ _ => rfl) fun x hx => ho x (by omega)
theorem put_ne {cur : Array Value} {i x : Nat} {v : Value} (h : i ≠ x) : (cur.setIfInBounds i v)[x]? = cur[x]? := Array.getElem?_setIfInBounds_ne h
theorem put_eq {cur : Array Value} {i : Nat} {v : Value} (h : i < cur.size) : (cur.setIfInBounds i v)[i]? = some v := Array.getElem?_setIfInBounds_self_of_lt h
theorem DsC.room {w : World} {L B k : Nat} {cur : Array Value} {ds : List De} {d : De} (h : DsC w L B cur ds) (hk : ds[k]? = some d) : k * 6 + 6 ≤ cur.size := by
  have := h.1
  have := (List.getElem?_eq_some_iff.1 hk).1
  omega
theorem DsC.set0 {w : World} {L B k : Nat} {cur : Array Value} {ds : List De} {d : De} {y : Int} (h : DsC w L B cur ds) (hk : ds[k]? = some d) (hy : I64 y) : DsC w L B (cur.setIfInBounds (k * 6) (.int .i64 y)) (ds.set k ⟨y, d.ar, d.old, d.op, d.n, d.k⟩) := by
  have hr := h.room hk
  refine h.upd (by simp) (fun x hx => put_ne (by omega)) ?_
  obtain ⟨A', c', hf, q0, q1, q2, q3, q4, q5, h7, h8, h9⟩ := h.2 k d hk
  exact ⟨A', c', ⟨hy, hf.2.1, hf.2.2.1, hf.2.2.2⟩, put_eq (by omega), (put_ne (by omega)).trans q1, (put_ne (by omega)).trans q2, (put_ne (by omega)).trans q3, (put_ne (by omega)).trans q4, (put_ne (by omega)).trans q5, h7, h8, h9⟩
theorem DsC.set1 {w : World} {L B k : Nat} {cur : Array Value} {ds : List De} {d : De} {y : Int} (h : DsC w L B cur ds) (hk : ds[k]? = some d) (hy : I64 y) : DsC w L B (cur.setIfInBounds (k * 6 + 1) (.int .i64 y)) (ds.set k ⟨d.nm, y, d.old, d.op, d.n, d.k⟩) := by
  have hr := h.room hk
  refine h.upd (by simp) (fun x hx => put_ne (by omega)) ?_
  obtain ⟨A', c', hf, q0, q1, q2, q3, q4, q5, h7, h8, h9⟩ := h.2 k d hk
  exact ⟨A', c', ⟨hf.1, hy, hf.2.2.1, hf.2.2.2⟩, (put_ne (by omega)).trans q0, put_eq (by omega), (put_ne (by omega)).trans q2, (put_ne (by omega)).trans q3, (put_ne (by omega)).trans q4, (put_ne (by omega)).trans q5, h7, h8, h9⟩
theorem DsC.set2 {w : World} {L B k : Nat} {cur : Array Value} {ds : List De} {d : De} {y : Bool} (h : DsC w L B cur ds) (hk : ds[k]? = some d) : DsC w L B (cur.setIfInBounds (k * 6 + 2) (.bool y)) (ds.set k ⟨d.nm, d.ar, y, d.op, d.n, d.k⟩) := by
  have hr := h.room hk
  refine h.upd (by simp) (fun x hx => put_ne (by omega)) ?_
  obtain ⟨A', c', hf, q0, q1, q2, q3, q4, q5, h7, h8, h9⟩ := h.2 k d hk
  exact ⟨A', c', hf, (put_ne (by omega)).trans q0, (put_ne (by omega)).trans q1, put_eq (by omega), (put_ne (by omega)).trans q3, (put_ne (by omega)).trans q4, (put_ne (by omega)).trans q5, h7, h8, h9⟩
theorem DsC.setB {w : World} {L B k : Nat} {cur : Array Value} {ds : List De} {d : De} {op n : Int} {f : Fo} {A : Option Addr} {c : Nat} (h : DsC w L B cur ds) (hk : ds[k]? = some d) (hi : I64 op ∧ I64 n) (hl : Lies w L B A 0 f) (h1 : f.len ≤ c) (h2 : c ≤ maxLen) :
    DsC w L B (((cur.setIfInBounds (k * 6 + 3) (.int .i64 op)).setIfInBounds (k * 6 + 4) (.int .i64 n)).setIfInBounds (k * 6 + 5) (.slice A f.len c)) (ds.set k ⟨d.nm, d.ar, d.old, op, n, f⟩) := by
  have hr := h.room hk
  refine h.upd (by simp) (fun x hx => (put_ne (by omega)).trans ((put_ne (by omega)).trans (put_ne (by omega)))) ?_
  obtain ⟨A', c', hf, q0, q1, q2, q3, q4, q5, h7, h8, h9⟩ := h.2 k d hk
  have e : ∀ x, x < k * 6 + 3 → (((cur.setIfInBounds (k * 6 + 3) (.int .i64 op)).setIfInBounds (k * 6 + 4) (.int .i64 n)).setIfInBounds (k * 6 + 5) (.slice A f.len c))[x]? = cur[x]? := fun x hx => (put_ne (by omega)).trans ((put_ne (by omega)).trans (put_ne (by omega)))
  exact ⟨A, c, ⟨hf.1, hf.2.1, hi.1, hi.2⟩, (e _ (by omega)).trans q0, (e _ (by omega)).trans q1, (e _ (by omega)).trans q2, (put_ne (by omega)).trans ((put_ne (by omega)).trans (put_eq (by omega))), (put_ne (by omega)).trans (put_eq (by simp; omega)), put_eq (by simp; omega), h1, h2, hl⟩
theorem DsC.take {w : World} {L B : Nat} {cur : Array Value} {ds : List De} (h : DsC w L B cur ds) (k : Nat) : DsC w L B cur (ds.take k) := by
  refine ⟨by rw [List.length_take]; have := h.1; omega, fun i d hd => h.2 i d ?_⟩
  have hi := (List.getElem?_eq_some_iff.1 hd).1
  rw [List.length_take] at hi
  rw [List.getElem?_take_of_lt (by omega)] at hd
  exact hd
/-- One more function behind the list, in a row that holds the same cells and then those of the new one. -/
theorem DsC.snoc {w : World} {L B : Nat} {cur cur' : Array Value} {ds : List De} {d : De} {A : Option Addr} {c : Nat} (h : DsC w L B cur ds) (hs : (ds.length + 1) * 6 ≤ cur'.size)
    (ht : cur'.toList.take ((ds.length + 1) * 6) = cur.toList.take (ds.length * 6) ++ [.int .i64 d.nm, .int .i64 d.ar, .bool d.old, .int .i64 d.op, .int .i64 d.n, .slice A d.k.len c]) (hf : d.fits) (hl : Lies w L B A 0 d.k) (h1 : d.k.len ≤ c) (h2 : c ≤ maxLen) : DsC w L B cur' (ds ++ [d]) := by
  have hh := h.1
  have hln : (cur.toList.take (ds.length * 6)).length = ds.length * 6 := by
    rw [List.length_take]
    exact Nat.min_eq_left (by rw [Array.length_toList]; exact hh)
  have hlt : ∀ x, x < ds.length * 6 → cur'[x]? = cur[x]? := fun x hx => by
    have e : (cur'.toList.take ((ds.length + 1) * 6))[x]? = (cur.toList.take (ds.length * 6) ++ [.int .i64 d.nm, .int .i64 d.ar, .bool d.old, .int .i64 d.op, .int .i64 d.n, .slice A d.k.len c])[x]? := by rw [ht]
    rw [List.getElem?_take_of_lt (by omega), List.getElem?_append_left (by rw [hln]; exact hx), List.getElem?_take_of_lt hx, Array.getElem?_toList, Array.getElem?_toList] at e
    exact e
  have hge : ∀ x, x < 6 → cur'[ds.length * 6 + x]? = ([.int .i64 d.nm, .int .i64 d.ar, .bool d.old, .int .i64 d.op, .int .i64 d.n, .slice A d.k.len c] : List Value)[x]? := fun x hx => by
    have e : (cur'.toList.take ((ds.length + 1) * 6))[ds.length * 6 + x]? = (cur.toList.take (ds.length * 6) ++ [.int .i64 d.nm, .int .i64 d.ar, .bool d.old, .int .i64 d.op, .int .i64 d.n, .slice A d.k.len c])[ds.length * 6 + x]? := by rw [ht]
    rw [List.getElem?_take_of_lt (by omega), List.getElem?_append_right (by rw [hln]; exact Nat.le_add_right _ _), hln, Nat.add_sub_cancel_left, Array.getElem?_toList] at e
    exact e
  refine ⟨by rw [List.length_append]; exact hs, fun i e he => ?_⟩
  by_cases hi : i < ds.length
  · rw [List.getElem?_append_left hi] at he
    exact (h.2 i e he).at_ (Nat.le_refl _) (fun _ _ _ => rfl) fun x hx => hlt x (by omega)
  · have hi2 : i < (ds ++ [d]).length := (List.getElem?_eq_some_iff.1 he).1
    rw [List.length_append] at hi2
    have e9 : i = ds.length := by simp at hi2; omega
    subst e9
    rw [List.getElem?_append_right (Nat.le_refl _), Nat.sub_self] at he
    injection he with he
    subst he
    exact ⟨A, c, hf, hge 0 (by decide), hge 1 (by decide), hge 2 (by decide), hge 3 (by decide), hge 4 (by decide), hge 5 (by decide), h1, h2, hl⟩

theorem sizeD_set : ∀ {ds : List De} {k : Nat} {d d' : De}, ds[k]? = some d → sizeD (ds.set k d') + d.k.size = sizeD ds + d'.k.size
  | [], _, _, _, h => by simp at h
  | e :: r, 0, d, d', h => by simp at h; subst h; simp [sizeD]; omega
  | e :: r, k + 1, d, d', h => by
    have := sizeD_set (ds := r) (k := k) (d := d) (d' := d') (by simpa using h)
    simp only [List.set_cons_succ, sizeD]
    omega
theorem sizeD_take : ∀ (ds : List De) (k : Nat), sizeD (ds.take k) ≤ sizeD ds
  | [], k => by simp
  | e :: r, 0 => by simp [sizeD]
  | e :: r, k + 1 => by have := sizeD_take r k; simp only [List.take_succ_cons, sizeD]; omega
end Go.Proofs.YtpknegneogdmfaaGreat

namespace Go.Proofs.YtpknegneogdmfaaGreat
open Go.RowKit Go.Shelf
set_option maxRecDepth 100000

/-- A library that was changed. -/
def Mut2Post (g : Nat) (A : Option Addr) (bc : Nat) (bs : List Nat) (Q p : Nat) (b : Int) (L n s : Nat) (w : World) (e : Ending) (w' : World) : Prop :=
  ∃ (ds : List De) (X : Option Addr) (c p' : Nat), e = .returned (.slice X ds.length c) ∧ LiesD w' L w'.heap.size X ds ∧ ds.length ≤ c ∧ c ≤ maxLen ∧ ds.length ≤ n + 1 ∧ sizeD ds + p ≤ 2 * s + p' ∧
    Rd w' g A bc bs p' ∧ Ok bs Q p' b ∧ Only g w.heap.size w w'

theorem DsC.wide {w V : World} {L B : Nat} {cur : Array Value} {ds : List De} (h : DsC w L B cur ds) (hb : Below B w V) (hB : B ≤ V.heap.size) : DsC V L V.heap.size cur ds := h.keep hB fun _ _ hq => hb.cell hq
/-- The end: the list stands in a row of its own. -/
theorem mut2_end {g : Nat} {A : Option Addr} {bc : Nat} {bs : List Nat} {Q p : Nat} {b b' : Int} {L n s gg cap p' : Nat} {w V : World} {cur : Array Value} {ds : List De} {l : Nat} (hd : DsC V L V.heap.size cur ds) (hr : Row V gg 38 cur) (hg : L ≤ gg) (hc1 : ds.length ≤ cap) (hc2 : cap ≤ maxLen)
    (hn : ds.length ≤ n + 1) (hs : sizeD ds + p ≤ 2 * s + p') (hrd : Rd V g A bc bs p') (hok : Ok bs Q p' b') (hbb : b' ≤ b) (hon : Only g w.heap.size w V) (hle : l = ds.length) :
    Mut2Post g A bc bs Q p b L n s w (.returned (.slice (some ⟨gg, 0, none⟩) l cap)) V := by
  subst hle
  exact ⟨ds, _, cap, p', rfl, hd.lies hr hg hr.size, hc1, hc2, hn, hs, hrd, hok.mono hbb, hon⟩

set_option maxHeartbeats 4000000 in
theorem l2Mutate_any (g base : Nat) (A : Option Addr) (bc : Nat) (bs : List Nat) (Q p : Nat) (b : Int) (ds : List De) (X : Option Addr) (c L : Nat) (w : World) (hr : Rd w g A bc bs p) (hY : LiesY w 0 base A bs) (hbg : base ≤ g) (hl : bs.length ≤ 2000) (hQ : Lim bs Q) (hok : Ok bs Q p b) (hb9 : b ≤ 3980)
    (hgL : g < L) (hLw : L ≤ w.heap.size) (hD : LiesD w L w.heap.size X ds) (hn : ds.length ≤ 1000) (hks : sizeD ds ≤ 40000 + p) :
    Calls Tryz.prog 18 #[.pointer (some ⟨g, 0, none⟩), .slice X ds.length c] w (Mut2Post g A bc bs Q p (b + 6) L ds.length (sizeD ds) w) := by
  obtain ⟨W1, hW1⟩ : ∃ W1, W1 = w.alloc (Obj.cells #[] 38) := ⟨_, rfl⟩
  have hb1 : Below w.heap.size w W1 := by rw [hW1]; exact (Below.refl _ _).alloc (Nat.le_refl _) _
  have hx1 : Row W1 w.heap.size 38 #[] := by rw [hW1]; exact Row.fresh _ _ _
  obtain ⟨v2, w2, hrun, hgr, gg, cap, cur, rfl, hgg, hc1, hc2, hrow2, hcs, hdc⟩ := appendD_run (c := c) hx1 (hD.below hb1) (by omega)
  have hb2 : Below w.heap.size w w2 := Below.grown hb1 hgr hb1.size (fun k hk => by have hk2 : some w.heap.size = some k := hk; injection hk2 with hk3; omega)
  have hgw : w.heap.size ≤ gg := by rcases hgg with h | h <;> rw [h]; exact Nat.le_refl _; exact hb1.size
  have hdc2 : DsC w2 L w.heap.size cur ds := ⟨by rw [hcs]; omega, fun i d hd => (hdc i d hd).at_ (Nat.le_refl _) (fun q _ hq => (hb2.cell hq).trans (hb1.cell hq).symm) fun _ _ => rfl⟩
  have HRUN := Lib.hid hrun
  have HB2 := Lib.hid hb2
  have HX2 := Lib.hid hrow2
  have HD2 := Lib.hid hdc2
  have HR2 := Lib.hid (Row.below hr hb2 hr.size)
  have HY2 := Lib.hid (hY.below (hb2.mono (by have := hr.size; omega)))
  have hgz : g < w.heap.size := hr.size
  have HOK := Lib.hid hok
  clear hr hY hx1 hb1 hgr hgg hrun hdc hdc2 hb2 hrow2 hD hok
  by_cases h0 : ds = []
  · have hz : ds.length = 0 := by rw [h0]; rfl
    have hzi : (ds.length : Int) = 0 := by omega
    clear h0
    go_enter Tryz.func18, Tryz.ntmps18
    go_upto_region 1 with fail
    go_wp2_with (at_builtin; rw [← hW1]; refine wpList_append_ran rfl _ _ 23 rfl _ _ _ rfl rfl HRUN.out ?_)
    go_ret
    exact mut2_end (HD2.out.wide (Below.refl _ _) HB2.out.size) HX2.out (Nat.le_trans hLw hgw) hc1 hc2 (by omega) (by omega) HR2.out HOK.out (by omega) (Only.of_below HB2.out) (by first | exact hz.symm | rfl)
  have hpos : 0 < ds.length := List.length_pos_iff.2 h0
  have HP := Lib.hid (HOK.out.pb hQ)
  have HOK1 := Lib.hid (HOK.out.next hQ (by omega))
  have HOK2 := Lib.hid (HOK1.out.next hQ (by omega))
  have HS := Lib.hid (show ∀ V, Only g w2.heap.size w2 V → Row V gg 38 cur ∧ DsC V L w.heap.size cur ds ∧ LiesY V 0 base A bs ∧ Only g w.heap.size w V from fun V hV =>
    ⟨HX2.out.only hV HX2.out.size (by omega), HD2.out.keep (Nat.le_refl _) (fun q h1 h2 => hV.cell (Nat.lt_of_lt_of_le h2 HB2.out.size) (by omega)), HY2.out.below ((hV.mono (by have := HB2.out.size; omega)).below hbg), (Only.of_below HB2.out).trans (hV.mono HB2.out.size)⟩)
  go_enter Tryz.func18, Tryz.ntmps18
  go_upto_region 1 with fail
  go_wp2_with (at_builtin; rw [← hW1]; refine wpList_append_ran rfl _ _ 23 rfl _ _ _ rfl rfl HRUN.out ?_)
  refine (pick_v g base A bc bs p ds.length w2 HR2.out HY2.out hbg hl HP.out hpos hn).mono ?_
  rintro e w3 ⟨rfl, hr3, hon3⟩
  obtain ⟨k, hk0⟩ : ∃ k, k = pkL bs p ds.length := ⟨_, rfl⟩
  have hk : k < ds.length := by rw [hk0]; exact pkL_lt bs p hpos
  rw [← hk0]
  have HR3 := Lib.hid hr3
  have HO3 := Lib.hid hon3
  clear hr3 hon3 hk0 HRUN hW1 HX2 HD2 HR2 HY2
  go_wp2_with fail
  refine (pick_v g base A bc bs (p + 1) 24 w3 HR3.out (HS.out _ HO3.out).2.2.1 hbg hl (HOK1.out.pb hQ) (by decide) (by decide)).mono ?_
  rintro e w4 ⟨rfl, hr4, hon4⟩
  obtain ⟨mi, hm0⟩ : ∃ mi : Int, mi = ((pkL bs (p + 1) 24 : Nat) : Int) := ⟨_, rfl⟩
  rw [← hm0]
  have HR4 := Lib.hid hr4
  have HO4 := Lib.hid (HO3.out.trans (hon4.mono HO3.out.size))
  obtain ⟨hX4, hD4, hY4, hW4⟩ := HS.out _ HO4.out
  have HX4 := Lib.hid hX4
  have HD4 := Lib.hid hD4
  have HY4 := Lib.hid hY4
  have HW4 := Lib.hid hW4
  have HG4 := Lib.hid HO4.out.size
  obtain ⟨d, hd⟩ : ∃ d, ds[k]? = some d := ⟨_, List.getElem?_eq_getElem hk⟩
  have HD := Lib.hid hd
  have hki : (k : Int) < (ds.length : Int) := by omega
  have hk2 : k * 6 + 6 ≤ cur.size := hD4.room hd
  obtain ⟨A', c', hf, q0, q1, q2, q3, q4, q5, h7, h8, h9⟩ := hD4.2 k d hd
  have HF := Lib.hid hf
  have HL := Lib.hid h9
  have f0 := hX4.free (k * 6)
  have f1 := hX4.free (k * 6 + 1)
  have f2 := hX4.free (k * 6 + 2)
  have f3 := hX4.free (k * 6 + 3)
  have f4 := hX4.free (k * 6 + 4)
  have f5 := hX4.free (k * 6 + 5)
  have d0 := hX4.cell q0
  have d1 := hX4.cell q1
  have d2 := hX4.cell q2
  have d3 := hX4.cell q3
  have d4 := hX4.cell q4
  have d5 := hX4.cell q5
  have HSD := Lib.hid (show ∀ d' : De, sizeD (ds.set k d') + d.k.size = sizeD ds + d'.k.size from fun d' => sizeD_set HD.out)
  clear hr4 hon4 hm0 HR3 HO3 hX4 hD4 hY4 hW4 hd hf h9 q0 q1 q2 q3 q4 q5 HP HOK HOK1
  by_cases m0 : mi = 0
  · subst m0
    clear d0 d1 d2 d3 d4 d5 f0 f1 f2 f3 f4 f5
    go_wp2_with fail
    have ba := (Below.refl w4.heap.size w4).alloc (Nat.le_refl _) (Obj.cells #[.int .i64 8, .int .i64 (-1), .int .i64 0, .int .i64 7] 3)
    refine (num_v g base A bc bs (p + 1 + 1) (some ⟨w4.heap.size, 0, none⟩) 4 [8, -1, 0, 7] _ (Row.below HR4.out ba (Row.size HR4.out)) (HY4.out.below (ba.mono (by have := Row.size HR4.out; omega))) hbg hl (HOK2.out.pb hQ) (lies_new w4 (g + 1) [8, -1, 0, 7] (by intro x hx; simp at hx; unfold I64; omega) (Row.size HR4.out)) (by decide) (by decide)).mono ?_
    rintro e w5 ⟨y, -, hyi, rfl, hr5, hon5⟩
    have hon6 := HO4.out.trans (((Only.of_below (g := g) ba).trans (hon5.mono ba.size)).mono HG4.out)
    obtain ⟨hX5, hD5, -, hW5⟩ := HS.out _ hon6
    have HX5 := Lib.hid hX5
    have HD5 := Lib.hid hD5
    have HW5 := Lib.hid hW5
    have HR5 := Lib.hid hr5
    have HYI := Lib.hid hyi
    have f0 := hX5.free (k * 6)
    have hsz0 : w2.heap.size ≤ w5.heap.size := hon6.size
    obtain ⟨_, _, _, q0, _⟩ := hD5.2 k d HD.out
    have d0 := hX5.cell q0
    clear ba hon6 hX5 hD5 hW5 hr5 hyi hon5 q0 HR4 HY4 HX4 HD4 HW4
    go_wp2_with fail
    go_ret
    exact mut2_end (((HD5.out.set0 HD.out HYI.out).wide ((Below.refl w.heap.size w5).setCell hgw _) (by have := HW5.out.size; simpa [World.setCell] using this))) (HX5.out.put (k * 6) _) (Nat.le_trans hLw hgw) (by rw [List.length_set]; exact hc1) hc2 (by rw [List.length_set]; omega) (by have := HSD.out ⟨y, d.ar, d.old, d.op, d.n, d.k⟩; dsimp only at this; omega)
      (Row.apart HR5.out (by dsimp only; omega) _) (HOK2.out.next hQ (by omega)) (by omega) (HW5.out.set (.inr (by dsimp only; omega)) _) (by rw [List.length_set])
  by_cases m1 : mi = 1
  · subst m1
    clear d0 d1 d2 d3 d4 d5 f0 f1 f2 f3 f4 f5
    go_wp2_with fail
    have ba := (Below.refl w4.heap.size w4).alloc (Nat.le_refl _) (Obj.cells #[.int .i64 4, .int .i64 (-1), .int .i64 0, .int .i64 1] 3)
    refine (num_v g base A bc bs (p + 1 + 1) (some ⟨w4.heap.size, 0, none⟩) 4 [4, -1, 0, 1] _ (Row.below HR4.out ba (Row.size HR4.out)) (HY4.out.below (ba.mono (by have := Row.size HR4.out; omega))) hbg hl (HOK2.out.pb hQ) (lies_new w4 (g + 1) [4, -1, 0, 1] (by intro x hx; simp at hx; unfold I64; omega) (Row.size HR4.out)) (by decide) (by decide)).mono ?_
    rintro e w5 ⟨y, -, hyi, rfl, hr5, hon5⟩
    have hon6 := HO4.out.trans (((Only.of_below (g := g) ba).trans (hon5.mono ba.size)).mono HG4.out)
    obtain ⟨hX5, hD5, -, hW5⟩ := HS.out _ hon6
    have HX5 := Lib.hid hX5
    have HD5 := Lib.hid hD5
    have HW5 := Lib.hid hW5
    have HR5 := Lib.hid hr5
    have HYI := Lib.hid hyi
    have f1 := hX5.free (k * 6 + 1)
    have hsz0 : w2.heap.size ≤ w5.heap.size := hon6.size
    obtain ⟨_, _, _, _, q0, _⟩ := hD5.2 k d HD.out
    have d1 := hX5.cell q0
    clear ba hon6 hX5 hD5 hW5 hr5 hyi hon5 q0 HR4 HY4 HX4 HD4 HW4
    go_wp2_with fail
    go_ret
    exact mut2_end (((HD5.out.set1 HD.out HYI.out).wide ((Below.refl w.heap.size w5).setCell hgw _) (by have := HW5.out.size; simpa [World.setCell] using this))) (HX5.out.put (k * 6 + 1) _) (Nat.le_trans hLw hgw) (by rw [List.length_set]; exact hc1) hc2 (by rw [List.length_set]; omega) (by have := HSD.out ⟨d.nm, y, d.old, d.op, d.n, d.k⟩; dsimp only at this; omega)
      (Row.apart HR5.out (by dsimp only; omega) _) (HOK2.out.next hQ (by omega)) (by omega) (HW5.out.set (.inr (by dsimp only; omega)) _) (by rw [List.length_set])
  by_cases m2 : mi = 2
  · subst m2
    clear d0 d1 d2 f0 f1 f2 f3 f4 f5 m0 m1
    have hsk : d.k.size < sizeD ds := sizeD_at HD.out
    have HX4S : gg < w4.heap.size := HX4.out.size
    go_wp2_with fail
    refine (mut_any (Q - (p + 1 + 1)) g base A bc bs Q (p + 1 + 1) (b + 1 + 1) d.op d.n d.k A' c' w4 rfl HR4.out HY4.out hbg hl hQ HOK2.out (by omega) (HL.out.mono_ (Nat.zero_le _) (Nat.le_trans HB2.out.size HG4.out)) ⟨HF.out.2.2.1, HF.out.2.2.2⟩ (by omega)).mono ?_
    rintro e w5 ⟨op1, n1, k1, X1, c1, bl1, p1, rfl, hi1, ht1, hs1, hr5, hok5, hon5⟩
    have hon6 := HO4.out.trans (hon5.mono HG4.out)
    have HO5 := Lib.hid hon6
    have HG5 := Lib.hid hon5.size
    have HR5 := Lib.hid hr5
    have HT1 := Lib.hid ht1
    have HI1 := Lib.hid hi1
    have HK5 := Lib.hid hok5
    obtain ⟨_, _, hX1, _, _⟩ := ht1.slice
    clear hon6 hr5 ht1 hi1 hok5 hon5 d3 d4 d5 HX4 HD4 HW4 HR4 HY4 HO4 HL hX1
    go_wp2_with fail
    refine (mut_any (Q - p1) g base A bc bs Q p1 (b + 1 + 1 + 2) op1 n1 k1 X1 c1 w5 rfl HR5.out (HS.out _ HO5.out).2.2.1 hbg hl hQ HK5.out (by omega) ((HT1.out.lies (B := w5.heap.size) fun z hz => (HT1.out.lt z hz).2).mono_ (Nat.zero_le _) (Nat.le_refl _)) HI1.out (by omega)).mono ?_
    rintro e w6 ⟨op2, n2, k2, X2, c2, bl2, p2, rfl, hi2, ht2, hs2, hr6, hok6, hon6⟩
    have hon7 := HO5.out.trans (hon6.mono HO5.out.size)
    obtain ⟨hX5, hD5, -, hW5⟩ := HS.out _ hon7
    have HX5 := Lib.hid hX5
    have HD5 := Lib.hid hD5
    have HW5 := Lib.hid hW5
    have HR6 := Lib.hid hr6
    have HT2 := Lib.hid ht2
    have HI2 := Lib.hid hi2
    have HK6 := Lib.hid hok6
    obtain ⟨_, _, hX2, hl2, hl3⟩ := ht2.slice
    injection hX2 with hXa hXb hXc
    subst hXc
    have hz56 := hon6.size
    have hzw : w.heap.size ≤ w5.heap.size := (HS.out _ HO5.out).2.2.2.size
    have f3 := hX5.free (k * 6 + 3)
    have f4 := hX5.free (k * 6 + 4)
    have f5 := hX5.free (k * 6 + 5)
    obtain ⟨_, _, _, _, _, _, q3, q4, q5, _⟩ := hD5.2 k d HD.out
    have d3 := hX5.cell q3
    have d4 := hX5.cell q4
    have d5 := hX5.cell q5
    clear hon7 hX5 hD5 hW5 hr6 ht2 hi2 hok6 hon6 q3 q4 q5 HR5 HT1 HI1 HK5 HO5 hXa hXb
    go_wp2_with fail
    go_ret
    have hgs : gg < w5.heap.size := by have := HX4S; have := HG5.out; omega
    obtain ⟨V, hV⟩ : ∃ V, V = ((w6.setCell ⟨gg, k * 6 + 3, none⟩ (.int .i64 op2)).setCell ⟨gg, k * 6 + 4, none⟩ (.int .i64 n2)).setCell ⟨gg, k * 6 + 5, none⟩ (.slice X2 k2.len c2) := ⟨_, rfl⟩
    have hVz : V.heap.size = w6.heap.size := by rw [hV]; simp [World.setCell]
    have hbV : Below w.heap.size w6 V := by rw [hV]; exact (((Below.refl w.heap.size w6).setCell hgw _).setCell hgw _).setCell hgw _
    have hlV : Lies V L V.heap.size X2 0 k2 := (HT2.out.lies (B := w6.heap.size) fun z hz => (HT2.out.lt z hz).2).keep (by omega) (by omega) fun q h1 h2 => by
      have hq : q.block ≠ gg := by omega
      refine World.cell?_of_block ?_
      rw [hV, Below.heap_setCell _ _ _ _ hq, Below.heap_setCell _ _ _ _ hq, Below.heap_setCell _ _ _ _ hq]
    have hrV := ((HX5.out.put (k * 6 + 3) (.int .i64 op2)).put (k * 6 + 4) (.int .i64 n2)).put (k * 6 + 5) (.slice X2 k2.len c2)
    have hRV : Rd V g A bc bs p2 := by rw [hV]; exact ((Row.apart HR6.out (by dsimp only; omega) _).apart (by dsimp only; omega) _).apart (by dsimp only; omega) _
    have hOV : Only g w.heap.size w V := by rw [hV]; exact ((HW5.out.set (.inr (by dsimp only; omega)) _).set (.inr (by dsimp only; omega)) _).set (.inr (by dsimp only; omega)) _
    rw [← hV] at hrV ⊢
    exact mut2_end ((HD5.out.wide hbV (by have := HW5.out.size; omega)).setB HD.out HI2.out hlV hl2 hl3) hrV (Nat.le_trans hLw hgw) (by rw [List.length_set]; exact hc1) hc2 (by rw [List.length_set]; omega) (by have := HSD.out ⟨d.nm, d.ar, d.old, op2, n2, k2⟩; dsimp only at this; omega)
      hRV HK6.out (by omega) hOV (by rw [List.length_set])
  by_cases m3 : mi = 3
  · subst m3
    clear d0 d1 d2 d3 d4 d5 f0 f1 f2 f3 f4 f5 m0 m1 m2
    have hkc : (k : Int) ≤ (cap : Int) := by omega
    go_wp2_with fail
    go_ret
    exact mut2_end ((HD4.out.take k).wide (Below.refl _ _) HW4.out.size) HX4.out (Nat.le_trans hLw hgw) (by rw [List.length_take]; omega) hc2 (by rw [List.length_take]; omega) (by have := sizeD_take ds k; omega)
      HR4.out HOK2.out (by omega) HW4.out (by rw [List.length_take]; omega)
  by_cases m4 : mi = 4
  · subst m4
    clear d0 d1 d3 d4 d5 f0 f1 f3 f4 f5 m0 m1 m2 m3
    go_wp2_with fail
    go_ret
    exact mut2_end (((HD4.out.set2 (y := !d.old) HD.out).wide ((Below.refl w.heap.size w4).setCell hgw _) (by have := HW4.out.size; simpa [World.setCell] using this))) (HX4.out.put (k * 6 + 2) _) (Nat.le_trans hLw hgw) (by rw [List.length_set]; exact hc1) hc2 (by rw [List.length_set]; omega) (by have := HSD.out ⟨d.nm, d.ar, !d.old, d.op, d.n, d.k⟩; dsimp only at this; omega)
      (Row.apart HR4.out (by dsimp only; omega) _) HOK2.out (by omega) (HW4.out.set (.inr (by dsimp only; omega)) _) (by rw [List.length_set])
  by_cases m5 : mi = 5
  · subst m5
    clear f0 f1 f2 f3 f4 f5 m0 m1 m2 m3 m4
    have hsk : d.k.size < sizeD ds := sizeD_at HD.out
    obtain ⟨iT, hiT, hiz0, hiz1, hiz2⟩ := info_parts (show (Tryz.prog.info? 38).map (fun i => (i.zero, i.size, i.bytes)) = some (some (.agg #[.int .i64 0, .int .i64 0, .bool false, .int .i64 0, .int .i64 0, .slice none 0 0]), 6, 64) by kernel_rfl)
    have HIT := Lib.hid hiT
    have HIZ0 := Lib.hid hiz0
    have HIZ1 := Lib.hid hiz1
    have HIZ2 := Lib.hid hiz2
    have bu : Below w4.heap.size w4 (w4.alloc (Obj.cells #[.int .i64 d.nm, .int .i64 d.ar, .bool d.old, .int .i64 d.op, .int .i64 d.n, .slice A' d.k.len c'] 38)) := (Below.refl _ _).alloc (Nat.le_refl _) _
    have HBU := Lib.hid (bu.mono HW4.out.size)
    have HOW := Lib.hid (show (w4.alloc (Obj.cells #[.int .i64 d.nm, .int .i64 d.ar, .bool d.old, .int .i64 d.op, .int .i64 d.n, .slice A' d.k.len c'] 38)).ownsRow L 38 6 (.slice (some ⟨gg, 0, none⟩) ds.length cap) ds.length (cur.toList.take (ds.length * 6)) from
      ⟨by rw [List.length_take]; exact Nat.min_eq_left (by rw [Array.length_toList]; exact HD4.out.1), .inr ⟨gg, cap, cur, rfl, Nat.le_trans hLw hgw, Row.below HX4.out bu HX4.out.size, hc1, hc2, hcs, rfl⟩⟩)
    have HC1 := Lib.hid (fresh_cells w4 38 #[.int .i64 d.nm, .int .i64 d.ar, .bool d.old, .int .i64 d.op, .int .i64 d.n, .slice A' d.k.len c'])
    have HC2 := Lib.hid (show ∀ u ∈ [Value.int .i64 d.nm, .int .i64 d.ar, .bool d.old, .int .i64 d.op, .int .i64 d.n, .slice A' d.k.len c'], u.oneCell' = true from fun u hu => by
      simp at hu
      rcases hu with rfl | rfl | rfl | rfl | rfl | rfl <;> rfl)
    have HLZ := Lib.hid (show L ≤ (w4.alloc (Obj.cells #[.int .i64 d.nm, .int .i64 d.ar, .bool d.old, .int .i64 d.op, .int .i64 d.n, .slice A' d.k.len c'] 38)).heap.size from Nat.le_trans (Nat.le_trans hLw HW4.out.size) bu.size)
    clear hiT hiz0 hiz1 hiz2 bu
    go_wp2_with (at_builtin; refine wpList_append_own_at _ rfl _ _ 23 rfl L 38 iT _ 6 64 Tryz.underlying23 HIT.out HIZ0.out HIZ1.out HIZ2.out rfl (by decide) _ _ _ rfl HOW.out ⟨w4.heap.size, 0, none⟩ 1 1 [.int .i64 d.nm, .int .i64 d.ar, .bool d.old, .int .i64 d.op, .int .i64 d.n, .slice A' d.k.len c'] rfl rfl HC1.out HC2.out (by unfold maxLen; omega) (by omega) HLZ.out ?_; intro v' w' hown6 hgrow6 _ hblk)
    go_ret
    obtain ⟨hln, hv⟩ := hown6
    rcases hv with ⟨_, h⟩ | ⟨g2, cap2, cur2, rfl, h2, h3, h4, h4b, h5, h6⟩
    · omega
    have hbw : Below w.heap.size w4 w' := Below.grown HBU.out hgrow6 (Nat.le_trans HW4.out.size HBU.out.size) (fun z hz => by
      have e2 : some gg = some z := hz
      injection e2 with e2
      omega)
    exact mut2_end (ds := ds ++ [d]) ((((HD4.out.snoc (by omega) h6 HF.out HL.out h7 h8).wide hbw (Nat.le_trans HW4.out.size hbw.size)))) h3 h2 (by rw [List.length_append]; exact h4) h4b (by rw [List.length_append]; exact Nat.le_refl _) (by rw [sizeD_snoc]; omega)
      (Row.below HR4.out hbw hgz) HOK2.out (by omega) (HW4.out.trans (Only.of_below hbw)) (by rw [List.length_append]; rfl)
  clear d0 d1 d2 d3 d4 d5 f0 f1 f2 f3 f4 f5
  go_wp2_with fail
  go_ret
  exact mut2_end (HD4.out.wide (Below.refl _ _) HW4.out.size) HX4.out (Nat.le_trans hLw hgw) hc1 hc2 (by omega) (by omega) HR4.out HOK2.out (by omega) HW4.out rfl
end Go.Proofs.YtpknegneogdmfaaGreat

namespace Go.Proofs.YtpknegneogdmfaaGreat
open Go.RowKit Go.Shelf
set_option maxRecDepth 100000

theorem sizeD_bound {m : Nat} : ∀ (ds : List De), (∀ d ∈ ds, d.k.size ≤ m) → sizeD ds ≤ ds.length * (m + 1)
  | [], _ => by simp [sizeD]
  | d :: r, h => by
    have h1 := sizeD_bound r fun e he => h e (by simp [he])
    have h2 := h d (by simp)
    simp only [sizeD, List.length_cons, Nat.add_mul]
    omega

theorem LiesY.bytes {w : World} {L B : Nat} {A : Option Addr} {bs : List Nat} (h : LiesY w L B A bs) : ∀ x, x ∈ bs → x < 256 := fun x hx => by
  obtain ⟨i, hlt, hi⟩ := List.getElem_of_mem hx
  obtain ⟨_, _, _, _, _, h5, _⟩ := h i x (by rw [List.getElem?_eq_getElem hlt, hi])
  exact h5
theorem small_le80 {k : Fo} (h : smallOk k 14 80 = true) : k.size ≤ 80 := by
  unfold smallOk at h
  simp only [Bool.and_eq_true, decide_eq_true_iff] at h
  omega
/-- A library was drawn, valid or not. -/
def DrawnD (w : World) (base : Nat) (ds : List De) (X : Option Addr) (c : Nat) : Prop := LiesD w base w.heap.size X ds ∧ ds.length ≤ c ∧ c ≤ maxLen ∧ ds.length ≤ 100 ∧ sizeD ds ≤ 700000
def LibPost (w : World) (e : Ending) (w' : World) : Prop :=
  ∃ (ds : List De) (X : Option Addr) (c : Nat), e = .returned (.slice X ds.length c) ∧ DrawnD w' w.heap.size ds X c ∧ Below w.heap.size w w'

def FindDPost (w : World) (e : Ending) (w' : World) : Prop :=
  ∃ (ds : List De) (X : Option Addr) (c : Nat) (x : Int), e = .returned (.tuple #[.slice X ds.length c, .int .i64 x]) ∧ DrawnD w' w.heap.size ds X c ∧ I64 x ∧ Below w.heap.size w w'

end Go.Proofs.YtpknegneogdmfaaGreat
