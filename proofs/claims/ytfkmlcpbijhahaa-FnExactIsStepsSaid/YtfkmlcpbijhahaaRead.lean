/-
  What reads as an expression of the laws IS a tree of nodes that lies in memory.
  What reads as a list of functions of the laws IS such a list that lies in memory.
-/
import Derived.Test.YtfkmlcpbijhahaaFo
import Derived.Test.YtfkmlcpbijhahaaRows
import Derived.WalkKit
import Derived.ProofKit
import Derived.Test.YtfkmlcpbijhahaaDe
namespace Go.Proofs.Ytfkmlcpbijhahaa
open Go.ChangeShapes Go.WideShapes Go.ChangeAt Go.RowKit
set_option maxRecDepth 100000

theorem cE : Try.prog.cellsOf 24 = 3 := by kernel_rfl
theorem cI : Try.prog.cellsOf 3 = 1 := by kernel_rfl
theorem cS : Try.prog.cellsOf 22 = 1 := by kernel_rfl

theorem i64_of_wf {x : Int} (h : (Lit.int .i64 x).wf = true) : I64 x := by
  simp [Lit.wf, IntKind.min, IntKind.max, IntKind.signed, IntKind.bits] at h
  unfold I64
  omega

theorem add_plain_ (b o j : Nat) : (⟨b, o, none⟩ : Addr).add j = ⟨b, o + j, none⟩ := by unfold Addr.add; split <;> simp_all

section
variable {H : Type} {enc : TypeId × Value → H} {w : World} {sp : Nat → Bool} {hd : Bool}

/-- One node, where its Kids are read with less fuel. -/
theorem read_node (fuel : Nat) (ih : ∀ m, m < fuel → ∀ (cs : List Value) (x : DataW H × List MemPlace), DataW.trod enc Try.prog w 0 sp hd m 22 cs = some x → ∃ A c k, cs = [.slice A (Fo.len k) c] ∧ k.len ≤ c ∧ c ≤ maxLen ∧ Lies w 0 w.heap.size A 0 k)
    (cs : List Value) (x : DataW H × List MemPlace) (h : DataW.trod enc Try.prog w 0 sp hd fuel 24 cs = some x) :
    ∃ (op n : Int) (A : Option Addr) (c : Nat) (k : Fo), cs = [.int .i64 op, .int .i64 n, .slice A k.len c] ∧ I64 op ∧ I64 n ∧ k.len ≤ c ∧ c ≤ maxLen ∧ Lies w 0 w.heap.size A 0 k := by
  obtain ⟨xs, m, rfl, rfl, hlen, hxl, hf⟩ := DataW.trod_struct Try.underlying24 h
  rw [cE] at hlen
  match cs, hlen with
  | [v0, v1, v2], _ =>
    have g0 : DataW.trod enc Try.prog w 0 sp hd m 3 (List.take (Try.prog.cellsOf 3) [v0, v1, v2]) = xs[0]? := hf 0 _ rfl
    have g1 : DataW.trod enc Try.prog w 0 sp hd m 3 (List.take (Try.prog.cellsOf 3) [v1, v2]) = xs[1]? := hf 1 _ rfl
    have g2 : DataW.trod enc Try.prog w 0 sp hd m 22 (List.take (Try.prog.cellsOf 22) [v2]) = xs[2]? := hf 2 _ rfl
    have hx3 : xs.length = 3 := hxl
    rw [cI, List.getElem?_eq_getElem (by omega)] at g0 g1
    rw [cS, List.getElem?_eq_getElem (by omega)] at g2
    obtain ⟨op, e0, _, w0⟩ := DataW.trod_int Try.underlying3 g0
    obtain ⟨n, e1, _, w1⟩ := DataW.trod_int Try.underlying3 g1
    obtain ⟨A, c, k, e2, hk, hc, hl⟩ := ih m (Nat.lt_succ_self _) _ _ g2
    simp only [List.take_succ_cons, List.take_zero, List.cons.injEq, and_true] at e0 e1 e2
    subst e0 e1 e2
    exact ⟨op, n, A, c, k, rfl, i64_of_wf w0, i64_of_wf w1, hk, hc, hl⟩

theorem read_kids (fuel : Nat) : ∀ (cs : List Value) (x : DataW H × List MemPlace), DataW.trod enc Try.prog w 0 sp hd fuel 22 cs = some x → ∃ A c k, cs = [.slice A (Fo.len k) c] ∧ k.len ≤ c ∧ c ≤ maxLen ∧ Lies w 0 w.heap.size A 0 k := by
  induction fuel using Nat.strongRecOn with
  | _ fuel ih =>
    intro cs x h
    rcases DataW.trod_slice Try.underlying22 h with ⟨rfl, _⟩ | ⟨a, len, cap, elems, rest, n, rfl, rfl, _, _, hl, hc, hel, hall, _⟩
    · exact ⟨none, 0, .nil, rfl, Nat.le_refl _, Nat.zero_le _, trivial⟩
    · by_cases hl0 : len = 0
      · subst hl0
        exact ⟨some a, cap, .nil, rfl, Nat.zero_le _, hc, trivial⟩
      obtain ⟨b, off, spot⟩ := a
      have hspot : spot = none := by
        have h1 := hall 0 (by omega)
        rw [List.getElem?_eq_getElem (by omega), cE, Option.bind_eq_some_iff] at h1
        obtain ⟨cs', h2, h3⟩ := h1
        obtain ⟨op, m, A, c, k, rfl, _⟩ := read_node n (fun m hm => ih m (by omega)) _ _ h3
        obtain ⟨_, _, hcell⟩ := World.cells?_some h2
        have c00 : w.cell? (((⟨b, off, spot⟩ : Addr).add (0 * 3)).add 0) = some (.int .i64 op) := hcell 0 (by omega)
        simpa [Addr.add] using World.cell?_spot c00
      subst hspot
      have ea : ∀ x y : Nat, ((⟨b, off, none⟩ : Addr).add x).add y = ⟨b, off + x + y, none⟩ := by
        intro x y
        unfold Addr.add
        split <;> split <;> simp_all
      have step : ∀ d i, i + d = len → ∃ k : Fo, k.len = d ∧ Lies w 0 w.heap.size (some ⟨b, off, none⟩) i k := by
        intro d
        induction d with
        | zero => exact fun i _ => ⟨.nil, rfl, trivial⟩
        | succ d ihd =>
          intro i hi
          obtain ⟨r, hr, hlr⟩ := ihd (i + 1) (by omega)
          have h1 := hall i (by omega)
          rw [List.getElem?_eq_getElem (by omega), cE, Option.bind_eq_some_iff] at h1
          obtain ⟨cs', h2, h3⟩ := h1
          obtain ⟨op, m, A, c, k, rfl, i1, i2, hk, hc', hlk⟩ := read_node n (fun m hm => ih m (by omega)) _ _ h3
          obtain ⟨_, _, hcell⟩ := World.cells?_some h2
          have c0 := hcell 0 (by omega)
          have c1 := hcell 1 (by omega)
          have c2 := hcell 2 (by omega)
          rw [ea] at c0 c1 c2
          have hb : b < w.heap.size := World.block_lt_of_cell? _ _ c0
          exact ⟨.cons op m k r, by simp [Fo.len, hr], ⟨b, off, A, c, rfl, Nat.zero_le _, hb, i1, i2, c0, c1, c2, hk, hc', hlk⟩, hlr⟩
      obtain ⟨k, hk, hlk⟩ := step len 0 (by omega)
      exact ⟨_, cap, k, by rw [hk], by omega, hc, hlk⟩

/-- An argument that reads as an expression of the laws. -/
theorem read_expr {v : Value} {d : DataW H} {ps : List MemPlace} (h : DataW.Trod enc Try.prog w 0 sp hd 24 v d ps) (hv : ∃ cs, v = .agg cs) :
    ∃ (op n : Int) (A : Option Addr) (c : Nat) (k : Fo), v = .agg #[.int .i64 op, .int .i64 n, .slice A k.len c] ∧ I64 op ∧ I64 n ∧ k.len ≤ c ∧ c ≤ maxLen ∧ Lies w 0 w.heap.size A 0 k := by
  obtain ⟨fuel, hf⟩ := h
  obtain ⟨cs, rfl⟩ := hv
  obtain ⟨op, n, A, c, k, e, h1, h2, h3, h4, h5⟩ := read_node fuel (fun m _ => read_kids m) _ _ hf
  refine ⟨op, n, A, c, k, ?_, h1, h2, h3, h4, h5⟩
  obtain ⟨l⟩ := cs
  simp only [Value.cells] at e
  rw [e]
end
end Go.Proofs.Ytfkmlcpbijhahaa

namespace Go.Proofs.Ytfkmlcpbijhahaa
open Go.ChangeShapes Go.WideShapes Go.ChangeAt Go.RowKit
set_option maxRecDepth 100000

theorem cB : Try.prog.cellsOf 4 = 1 := by kernel_rfl
section
variable {H : Type} {enc : TypeId × Value → H} {w : World} {sp : Nat → Bool} {hd : Bool}

end
end Go.Proofs.Ytfkmlcpbijhahaa
