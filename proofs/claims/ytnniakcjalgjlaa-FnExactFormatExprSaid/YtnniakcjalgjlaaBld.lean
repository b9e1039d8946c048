/-
  A strings.Builder that the call has made: what a write does, and that it leaves all other rows as they were.
-/
import Derived.Test.YtnniakcjalgjlaaFo
import Derived.Test.YtnniakcjalgjlaaLayStr
import Derived.Lib.AppendStr
import Derived.Lib.Builder
import Derived.Lib.UnsafeStr
import Derived.WalkKit
import Derived.Laws.Externs
import Derived.Deep.RegionHeld3
import Derived.Deep.CutRange
import Derived.StillTailTactics
namespace Go.Proofs.Ytnniakcjalgjlaa
open Go.RowKit Go.Shelf
set_option maxRecDepth 100000

/-- What a write keeps: no block goes away, and a row that is neither a builder nor bytes stays as it was. -/
def KeepsR (w w' : World) : Prop := w.heap.size ≤ w'.heap.size ∧ ∀ (z : Nat) (t : TypeId) (cs : Array Value), t ≠ 39 → t ≠ 5 → Row w z t cs → Row w' z t cs
theorem KeepsR.refl (w : World) : KeepsR w w := ⟨Nat.le_refl _, fun _ _ _ _ _ h => h⟩
theorem KeepsR.trans {a b c : World} (h : KeepsR a b) (k : KeepsR b c) : KeepsR a c := ⟨Nat.le_trans h.1 k.1, fun z t cs h1 h2 hr => k.2 z t cs h1 h2 (h.2 z t cs h1 h2 hr)⟩
theorem KeepsR.of_below {a b : World} (h : Below a.heap.size a b) : KeepsR a b := ⟨h.size, fun _ _ _ _ _ hr => hr.below h hr.size⟩

abbrev BldAt (B b : Nat) (p : Value) (bs : List Value) (w : World) : Prop := Lib.BuilderAt 39 5 B b p bs w
abbrev IsBld (B b : Nat) (bs : List Value) (w : World) : Prop := Lib.IsBuilder 39 5 B b bs w

theorem bld_below {B b : Nat} {p : Value} {bs : List Value} {w w' : World} (h : BldAt B b p bs w) (hb : Below w.heap.size w w') : BldAt B b p bs w' := by
  have hlt := h.lt
  obtain ⟨hB, v, hv, hown, hne⟩ := h
  refine ⟨hB, v, (hb.block b hlt).trans hv, ⟨hown.1, ?_⟩, hne⟩
  rcases hown.2 with h1 | ⟨g, cap, cur, e1, e2, e3, e4⟩
  · exact .inl h1
  · have hg : g < w.heap.size := by
      rcases Nat.lt_or_ge g w.heap.size with h' | h'
      · exact h'
      · simp [Array.getElem?_eq_none h'] at e3
    exact .inr ⟨g, cap, cur, e1, e2, (hb.block g hg).trans e3, e4⟩

set_option maxRecDepth 100000 in
set_option maxHeartbeats 2000000 in
theorem copyCheck_any (B b : Nat) (bs : List Value) (w : World) (h : IsBld B b bs w) :
    Calls Try.prog 28 #[.pointer (some ⟨b, 0, none⟩)] w fun e w' => e = .returned (.tuple #[]) ∧ BldAt B b (.pointer (some ⟨b, 0, none⟩)) bs w' ∧ Below B w w' ∧ KeepsR w w' := by
  have hX : (Try.prog.info? 39).map (·.size) = some 2 := by kernel_rfl
  have hLI : liesAt Try.prog Try.prog.depth 39 (2 / Try.prog.cellsOf 39) 0 39 1 = true := by kernel_rfl
  obtain ⟨j, hj, hjs⟩ := Option.map_eq_some_iff.1 hX
  have hjz : j.size ≠ 0 := by rw [hjs]; decide
  clear hX hjs
  rcases h with h | h
  · have h0 := h.cell0
    have hsh := h.shape
    have hfz := h.frozen0
    have HU := Lib.hid (h.used (.pointer (some ⟨b, 0, none⟩)))
    have HB := Lib.hid ((Below.refl B w).setCell (p := ⟨b, 0, none⟩) h.1 (.pointer (some ⟨b, 0, none⟩)))
    have HK := Lib.hid (show KeepsR w (w.setCell ⟨b, 0, none⟩ (.pointer (some ⟨b, 0, none⟩))) by
      obtain ⟨_, v, hv, _⟩ := h
      refine ⟨by simp, fun z t cs h1 _ hr => hr.apart (fun e => ?_) _⟩
      have e' : z = b := e
      subst e'
      have h2 := hr.symm.trans hv
      simp only [Option.some.injEq, Obj.cells.injEq] at h2
      exact h1 h2.2.1)
    clear h
    go_enter Try.func28, Try.ntmps28
    go_wp2
    rw [Lib.run_to_unsafe w ⟨b, 0, none⟩ Try.underlying36 Try.underlying74 hj hjz hsh (Nat.zero_lt_succ 1)]
    simp only [Result.andThen]
    rw [Oper.upon_value]
    go_wp2
    rw [run_callFunc_extern Try.func34 (by kernel_rfl) (by kernel_rfl) (by kernel_rfl) (e := Extern.AbiNoEscape.same) (by kernel_rfl)]
    rw [Lib.run_noEscape]
    simp only [Result.andThen]
    rw [Oper.upon_value]
    go_wp2
    rw [Lib.run_from_unsafe w ⟨b, 0, none⟩ Try.underlying74 Try.underlying36 hj hsh hLI]
    simp only [Result.andThen]
    rw [Oper.upon_value]
    go_wp2
    go_end0
    exact ⟨rfl, HU.out, HB.out, HK.out⟩
  · have h0 := h.cell0
    have HU := Lib.hid h
    clear h
    go_enter Try.func28, Try.ntmps28
    go_wp2
    rw [Lib.run_neq_ptr_same w _ Try.underlying36 hj]
    go_wp2
    go_end0
    exact ⟨rfl, HU.out, Below.refl _ _, KeepsR.refl _⟩

set_option maxRecDepth 100000 in
set_option maxHeartbeats 2000000 in
/-- A write: behind it the builder holds what it held and the text. -/
theorem write_any (B b : Nat) (bs : List Value) (s : ByteArray) (w : World) (h : IsBld B b bs w) (hlen : bs.length + s.size ≤ 140737488355328) (hBw : B ≤ w.heap.size) :
    Calls Try.prog 23 #[.pointer (some ⟨b, 0, none⟩), .string s] w fun e w' => e = .returned (.tuple #[.int .i64 s.size, .nilIface]) ∧ BldAt B b (.pointer (some ⟨b, 0, none⟩)) (bs ++ Lib.strCells s) w' ∧ Below B w w' ∧ KeepsR w w' := by
  have HCC := Lib.hid (copyCheck_any B b bs w h)
  obtain ⟨i0, hi, hz0, hz1, hz2⟩ := info_parts (P := Try.prog) (e := 5) (z := .int .u8 0) (size := 1) (bytes := 1) (by kernel_rfl)
  clear h
  go_enter Try.func23, Try.ntmps23
  go_wp2_with fail
  refine HCC.out.mono ?_
  rintro e w1 ⟨rfl, h1, hb1, hk1⟩
  have HL1 := Lib.hid h1.lt
  obtain ⟨hB, v, hbk, hown, hne⟩ := h1
  have HBK := Lib.hid hbk
  have HOWN := Lib.hid hown
  have HNE := Lib.hid hne
  have HB1 := Lib.hid hb1
  have HK1 := Lib.hid hk1
  have hlt : b < w1.heap.size := HL1.out
  have hw1 : B ≤ w1.heap.size := Nat.le_trans hBw hb1.size
  have c0 : w1.cell? ⟨b, 0, none⟩ = some (.pointer (some ⟨b, 0, none⟩)) := by rw [Lib.cell_of_heap hbk]; rfl
  have c1 : w1.cell? ⟨b, 1, none⟩ = some v := by rw [Lib.cell_of_heap hbk]; rfl
  clear hb1 hk1 hbk hown hne HCC
  go_wp2_with (at_builtin; refine Lib.wpList_append_own_string _ rfl _ _ 37 9 rfl B 5 i0 Try.underlying37 Try.underlying9 hi hz0 hz1 hz2 _ _ _ rfl HOWN.out s rfl ?c3 ?c4 ?c5 ?_)
  case c3 => unfold maxLen; omega
  case c4 => omega
  case c5 => omega
  intro v' w2 hown' hgrow _
  have hb2 : w2.heap[b]? = some (.cells #[.pointer (some ⟨b, 0, none⟩), v] 39 (0, 0)) := by
    rw [hgrow.block b hlt (fun e => HNE.out e.symm)]
    exact HBK.out
  have d0 : w2.cell? ⟨b, 0, none⟩ = some (.pointer (some ⟨b, 0, none⟩)) := by rw [Lib.cell_of_heap hb2]; rfl
  have d1 : w2.cell? ⟨b, 1, none⟩ = some v := by rw [Lib.cell_of_heap hb2]; rfl
  have f1 : w2.frozen? ⟨b, 1, none⟩ = false := Lib.frozen_of_heap hb2 1
  have HP := Lib.hid (show BldAt B b (.pointer (some ⟨b, 0, none⟩)) (bs ++ Lib.strCells s) (w2.setCell ⟨b, 1, none⟩ v') from Lib.BuilderAt.put hB hb2 (bs' := bs ++ Lib.strCells s) (by simpa [Lib.strCells_length] using hown') (by decide))
  have HBB := Lib.hid ((HB1.out.grown hgrow (by omega) (fun k hk => (HOWN.out.lt k hk).1)).setCell (p := ⟨b, 1, none⟩) hB v')
  have HKK := Lib.hid (show KeepsR w (w2.setCell ⟨b, 1, none⟩ v') by
    refine HK1.out.trans ⟨by rw [World.size_setCell]; exact hgrow.size, fun z t cs ht hu hr => ?_⟩
    have hzb : z ≠ b := fun e => by
      subst e
      have h2 := hr.symm.trans HBK.out
      simp only [Option.some.injEq, Obj.cells.injEq] at h2
      exact ht h2.2.1
    refine Row.apart ((hgrow.block z hr.size fun e => ?_).trans hr) (p := ⟨b, 1, none⟩) hzb v'
    rcases HOWN.out.2 with ⟨h1, _⟩ | ⟨g, cap, cur, h1, _, h3, _⟩
    · rw [h1] at e; simp [Value.ownBlock] at e
    · rw [h1] at e
      simp only [Value.ownBlock, Option.some.injEq] at e
      subst e
      have h2 := hr.symm.trans h3
      simp only [Option.some.injEq, Obj.cells.injEq] at h2
      exact hu h2.2.1)
  obtain ⟨ao, n', cap, rfl⟩ : ∃ ao n' cap, v' = .slice ao n' cap := by
    rcases hown'.2 with ⟨hv, _⟩ | ⟨g, cap, cur, hv, _⟩
    · exact ⟨_, _, _, hv⟩
    · exact ⟨_, _, _, hv⟩
  clear hown' hgrow hb2
  go_wp2
  go_ret2
  exact ⟨rfl, HP.out, HBB.out, HKK.out⟩
end Go.Proofs.Ytnniakcjalgjlaa
