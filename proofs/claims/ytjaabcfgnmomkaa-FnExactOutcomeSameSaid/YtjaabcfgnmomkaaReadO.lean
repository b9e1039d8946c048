/-
  What reads as an outcome of the laws IS an outcome that lies in memory.
-/
import Derived.Test.YtjaabcfgnmomkaaOu
import Derived.ProofKit
namespace Go.Proofs.Ytjaabcfgnmomkaa
open Go.ChangeShapes Go.WideShapes Go.ChangeAt Go.RowKit
set_option maxRecDepth 100000

theorem cIo : Try.prog.cellsOf 3 = 1 := by kernel_rfl
theorem cLo : Try.prog.cellsOf 22 = 1 := by kernel_rfl
theorem cOo : Try.prog.cellsOf 24 = 4 := by kernel_rfl
theorem i64_of_wf_o {x : Int} (h : (Lit.int .i64 x).wf = true) : I64 x := by
  simp [Lit.wf, IntKind.min, IntKind.max, IntKind.signed, IntKind.bits] at h
  unfold I64
  omega
theorem add_plain_o (b o j : Nat) : (⟨b, o, none⟩ : Addr).add j = ⟨b, o + j, none⟩ := by unfold Addr.add; split <;> simp_all

section
variable {H : Type} {enc : TypeId × Value → H} {w : World} {sp : Nat → Bool} {hd : Bool}

theorem read_intcell (fuel : Nat) (cs : List Value) (x : DataW H × List MemPlace) (h : DataW.trod enc Try.prog w 0 sp hd fuel 22 cs = some x) :
    ∃ (A : Option Addr) (c : Nat) (zs : List Int), cs = [.slice A zs.length c] ∧ zs.length ≤ maxLen ∧ LiesI w 0 w.heap.size A zs := by
  rcases open_ints Try.underlying22 Try.underlying3 cIo h with ⟨hcs, _⟩ | ⟨a, len', cap', zs, hcs, _, hl, hm, hz, _, hcell, hwz⟩
  · exact ⟨none, 0, [], hcs, Nat.zero_le _, fun i x hx => by simp at hx⟩
  · have hzl : len' ≤ zs.length := by rw [hz]; split <;> omega
    have htl : (zs.take len').length = len' := by rw [List.length_take]; omega
    refine ⟨some a, cap', zs.take len', by rw [htl]; exact hcs, by rw [htl]; omega, ?_⟩
    intro i x hx
    have hi : i < len' := by have := (List.getElem?_eq_some_iff.1 hx).1; omega
    have hx2 : zs[i]? = some x := by rw [List.getElem?_take_of_lt hi] at hx; exact hx
    have hi2 := hcell i (by omega)
    have h0 := hcell 0 (by omega)
    obtain ⟨b, off, spot⟩ := a
    have hspot : spot = none := by simpa [Addr.add] using World.cell?_spot h0
    subst hspot
    rw [add_plain_o] at hi2
    have hb : b < w.heap.size := World.block_lt_of_cell? _ _ hi2
    have hgd : zs.getD i 0 = x := by rw [List.getD_eq_getElem?_getD, hx2]; rfl
    rw [hgd] at hi2
    exact ⟨b, off, rfl, Nat.zero_le _, hb, i64_of_wf_o (hwz x (List.mem_of_getElem? hx2)), hi2⟩

theorem read_outcome {v : Value} {d : DataW H} {ps : List MemPlace} (h : DataW.Trod enc Try.prog w 0 sp hd 24 v d ps) (hv : ∃ cs, v = .agg cs) :
    ∃ (o : Ou) (A A2 : Option Addr) (c c2 : Nat), v = .agg #[.int .i64 o.code, .int .i64 o.val, .slice A o.out.length c, .slice A2 o.calls.length c2] ∧ o.out.length ≤ maxLen ∧ o.calls.length ≤ maxLen ∧
      LiesI w 0 w.heap.size A o.out ∧ LiesI w 0 w.heap.size A2 o.calls := by
  obtain ⟨fuel, hf⟩ := h
  obtain ⟨cs, rfl⟩ := hv
  obtain ⟨xs, m, _, _, hlen, hxl, hf⟩ := DataW.trod_struct Try.underlying24 hf
  rw [cOo] at hlen
  obtain ⟨l⟩ := cs
  simp only [Value.cells] at hlen hf
  match l, hlen with
  | [v0, v1, v2, v3], _ =>
    have g0 : DataW.trod enc Try.prog w 0 sp hd m 3 (List.take (Try.prog.cellsOf 3) [v0, v1, v2, v3]) = xs[0]? := hf 0 _ rfl
    have g1 : DataW.trod enc Try.prog w 0 sp hd m 3 (List.take (Try.prog.cellsOf 3) [v1, v2, v3]) = xs[1]? := hf 1 _ rfl
    have g2 : DataW.trod enc Try.prog w 0 sp hd m 22 (List.take (Try.prog.cellsOf 22) [v2, v3]) = xs[2]? := hf 2 _ rfl
    have g3 : DataW.trod enc Try.prog w 0 sp hd m 22 (List.take (Try.prog.cellsOf 22) [v3]) = xs[3]? := hf 3 _ rfl
    have hx4 : xs.length = 4 := hxl
    rw [cIo, List.getElem?_eq_getElem (by omega)] at g0 g1
    rw [cLo, List.getElem?_eq_getElem (by omega)] at g2 g3
    obtain ⟨code, e0, _, w0⟩ := DataW.trod_int Try.underlying3 g0
    obtain ⟨val, e1, _, w1⟩ := DataW.trod_int Try.underlying3 g1
    obtain ⟨A, c, out, e2, hk, hl⟩ := read_intcell m _ _ g2
    obtain ⟨A2, c2, calls, e3, hk2, hl2⟩ := read_intcell m _ _ g3
    simp only [List.take_succ_cons, List.take_zero, List.cons.injEq, and_true] at e0 e1 e2 e3
    subst e0 e1 e2 e3
    exact ⟨⟨code, val, out, calls⟩, A, A2, c, c2, rfl, hk, hk2, hl, hl2⟩
end
end Go.Proofs.Ytjaabcfgnmomkaa
