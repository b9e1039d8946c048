/-
  What reads as an expression of the laws IS a tree of nodes that lies in memory.
  What reads as a list of functions of the laws IS such a list that lies in memory.
-/
import Derived.Test.YthjfinhfpgifiaaFo
import Derived.Test.YthjfinhfpgifiaaRows
import Derived.WalkKit
import Derived.ProofKit
import Derived.Test.YthjfinhfpgifiaaDe
namespace Go.Proofs.Ythjfinhfpgifiaa
open Go.ChangeShapes Go.WideShapes Go.ChangeAt Go.RowKit
set_option maxRecDepth 100000

theorem cE : Try.prog.cellsOf 41 = 3 := by kernel_rfl
theorem cI : Try.prog.cellsOf 3 = 1 := by kernel_rfl
theorem cS : Try.prog.cellsOf 23 = 1 := by kernel_rfl

theorem i64_of_wf {x : Int} (h : (Lit.int .i64 x).wf = true) : I64 x := by
  simp [Lit.wf, IntKind.min, IntKind.max, IntKind.signed, IntKind.bits] at h
  unfold I64
  omega

theorem add_plain_ (b o j : Nat) : (⟨b, o, none⟩ : Addr).add j = ⟨b, o + j, none⟩ := by unfold Addr.add; split <;> simp_all

section
variable {H : Type} {enc : TypeId × Value → H} {w : World} {sp : Nat → Bool} {hd : Bool}

/-- One node, where its Kids are read with less fuel. -/
theorem read_node (fuel : Nat) (ih : ∀ m, m < fuel → ∀ (cs : List Value) (x : DataW H × List MemPlace), DataW.trod enc Try.prog w 0 sp hd m 23 cs = some x → ∃ A c k, cs = [.slice A (Fo.len k) c] ∧ k.len ≤ c ∧ c ≤ maxLen ∧ Lies w 0 w.heap.size A 0 k)
    (cs : List Value) (x : DataW H × List MemPlace) (h : DataW.trod enc Try.prog w 0 sp hd fuel 41 cs = some x) :
    ∃ (op n : Int) (A : Option Addr) (c : Nat) (k : Fo), cs = [.int .i64 op, .int .i64 n, .slice A k.len c] ∧ I64 op ∧ I64 n ∧ k.len ≤ c ∧ c ≤ maxLen ∧ Lies w 0 w.heap.size A 0 k := by
  obtain ⟨xs, m, rfl, rfl, hlen, hxl, hf⟩ := DataW.trod_struct Try.underlying41 h
  rw [cE] at hlen
  match cs, hlen with
  | [v0, v1, v2], _ =>
    have g0 : DataW.trod enc Try.prog w 0 sp hd m 3 (List.take (Try.prog.cellsOf 3) [v0, v1, v2]) = xs[0]? := hf 0 _ rfl
    have g1 : DataW.trod enc Try.prog w 0 sp hd m 3 (List.take (Try.prog.cellsOf 3) [v1, v2]) = xs[1]? := hf 1 _ rfl
    have g2 : DataW.trod enc Try.prog w 0 sp hd m 23 (List.take (Try.prog.cellsOf 23) [v2]) = xs[2]? := hf 2 _ rfl
    have hx3 : xs.length = 3 := hxl
    rw [cI, List.getElem?_eq_getElem (by omega)] at g0 g1
    rw [cS, List.getElem?_eq_getElem (by omega)] at g2
    obtain ⟨op, e0, _, w0⟩ := DataW.trod_int Try.underlying3 g0
    obtain ⟨n, e1, _, w1⟩ := DataW.trod_int Try.underlying3 g1
    obtain ⟨A, c, k, e2, hk, hc, hl⟩ := ih m (Nat.lt_succ_self _) _ _ g2
    simp only [List.take_succ_cons, List.take_zero, List.cons.injEq, and_true] at e0 e1 e2
    subst e0 e1 e2
    exact ⟨op, n, A, c, k, rfl, i64_of_wf w0, i64_of_wf w1, hk, hc, hl⟩

theorem read_kids (fuel : Nat) : ∀ (cs : List Value) (x : DataW H × List MemPlace), DataW.trod enc Try.prog w 0 sp hd fuel 23 cs = some x → ∃ A c k, cs = [.slice A (Fo.len k) c] ∧ k.len ≤ c ∧ c ≤ maxLen ∧ Lies w 0 w.heap.size A 0 k := by
  induction fuel using Nat.strongRecOn with
  | _ fuel ih =>
    intro cs x h
    rcases DataW.trod_slice Try.underlying23 h with ⟨rfl, _⟩ | ⟨a, len, cap, elems, rest, n, rfl, rfl, _, _, hl, hc, hel, hall, _⟩
    · exact ⟨none, 0, .nil, rfl, Nat.le_refl _, Nat.zero_le _, trivial⟩
    · by_cases hl0 : len = 0
      · subst hl0
        exact ⟨some a, cap, .nil, rfl, Nat.zero_le _, hc, trivial⟩
      obtain ⟨b, off, spot⟩ := a
      have hspot : spot = none := by
        have h1 := hall 0 (by omega)
        rw [List.getElem?_eq_getElem (by omega), cE, Option.bind_eq_some_iff] at h1
        obtain ⟨cs', h2, h3⟩ := h1
        obtain ⟨op, m, A, c, k, rfl, _⟩ := read_node n (fun m hm => ih m (by omega)) _ _ h3
        obtain ⟨_, _, hcell⟩ := World.cells?_some h2
        have c00 : w.cell? (((⟨b, off, spot⟩ : Addr).add (0 * 3)).add 0) = some (.int .i64 op) := hcell 0 (by omega)
        simpa [Addr.add] using World.cell?_spot c00
      subst hspot
      have ea : ∀ x y : Nat, ((⟨b, off, none⟩ : Addr).add x).add y = ⟨b, off + x + y, none⟩ := by
        intro x y
        unfold Addr.add
        split <;> split <;> simp_all
      have step : ∀ d i, i + d = len → ∃ k : Fo, k.len = d ∧ Lies w 0 w.heap.size (some ⟨b, off, none⟩) i k := by
        intro d
        induction d with
        | zero => exact fun i _ => ⟨.nil, rfl, trivial⟩
        | succ d ihd =>
          intro i hi
          obtain ⟨r, hr, hlr⟩ := ihd (i + 1) (by omega)
          have h1 := hall i (by omega)
          rw [List.getElem?_eq_getElem (by omega), cE, Option.bind_eq_some_iff] at h1
          obtain ⟨cs', h2, h3⟩ := h1
          obtain ⟨op, m, A, c, k, rfl, i1, i2, hk, hc', hlk⟩ := read_node n (fun m hm => ih m (by omega)) _ _ h3
          obtain ⟨_, _, hcell⟩ := World.cells?_some h2
          have c0 := hcell 0 (by omega)
          have c1 := hcell 1 (by omega)
          have c2 := hcell 2 (by omega)
          rw [ea] at c0 c1 c2
          have hb : b < w.heap.size := World.block_lt_of_cell? _ _ c0
          exact ⟨.cons op m k r, by simp [Fo.len, hr], ⟨b, off, A, c, rfl, Nat.zero_le _, hb, i1, i2, c0, c1, c2, hk, hc', hlk⟩, hlr⟩
      obtain ⟨k, hk, hlk⟩ := step len 0 (by omega)
      exact ⟨_, cap, k, by rw [hk], by omega, hc, hlk⟩

/-- An argument that reads as an expression of the laws. -/
theorem read_expr {v : Value} {d : DataW H} {ps : List MemPlace} (h : DataW.Trod enc Try.prog w 0 sp hd 41 v d ps) (hv : ∃ cs, v = .agg cs) :
    ∃ (op n : Int) (A : Option Addr) (c : Nat) (k : Fo), v = .agg #[.int .i64 op, .int .i64 n, .slice A k.len c] ∧ I64 op ∧ I64 n ∧ k.len ≤ c ∧ c ≤ maxLen ∧ Lies w 0 w.heap.size A 0 k := by
  obtain ⟨fuel, hf⟩ := h
  obtain ⟨cs, rfl⟩ := hv
  obtain ⟨op, n, A, c, k, e, h1, h2, h3, h4, h5⟩ := read_node fuel (fun m _ => read_kids m) _ _ hf
  refine ⟨op, n, A, c, k, ?_, h1, h2, h3, h4, h5⟩
  obtain ⟨l⟩ := cs
  simp only [Value.cells] at e
  rw [e]
end
end Go.Proofs.Ythjfinhfpgifiaa

namespace Go.Proofs.Ythjfinhfpgifiaa
open Go.ChangeShapes Go.WideShapes Go.ChangeAt Go.RowKit
set_option maxRecDepth 100000

theorem cD : Try.prog.cellsOf 43 = 6 := by kernel_rfl
theorem cB : Try.prog.cellsOf 4 = 1 := by kernel_rfl
theorem cDS : Try.prog.cellsOf 22 = 1 := by kernel_rfl

section
variable {H : Type} {enc : TypeId × Value → H} {w : World} {sp : Nat → Bool} {hd : Bool}

theorem read_def (fuel : Nat) (cs : List Value) (x : DataW H × List MemPlace) (h : DataW.trod enc Try.prog w 0 sp hd fuel 43 cs = some x) :
    ∃ (d : De) (A : Option Addr) (c : Nat), cs = [.int .i64 d.nm, .int .i64 d.ar, .bool d.old, .int .i64 d.op, .int .i64 d.n, .slice A d.k.len c] ∧ d.fits ∧ d.k.len ≤ c ∧ c ≤ maxLen ∧ Lies w 0 w.heap.size A 0 d.k := by
  obtain ⟨xs, m, rfl, rfl, hlen, hxl, hf⟩ := DataW.trod_struct Try.underlying43 h
  rw [cD] at hlen
  match cs, hlen with
  | [v0, v1, v2, v3, v4, v5], _ =>
    have g0 : DataW.trod enc Try.prog w 0 sp hd m 3 (List.take (Try.prog.cellsOf 3) [v0, v1, v2, v3, v4, v5]) = xs[0]? := hf 0 _ rfl
    have g1 : DataW.trod enc Try.prog w 0 sp hd m 3 (List.take (Try.prog.cellsOf 3) [v1, v2, v3, v4, v5]) = xs[1]? := hf 1 _ rfl
    have g2 : DataW.trod enc Try.prog w 0 sp hd m 4 (List.take (Try.prog.cellsOf 4) [v2, v3, v4, v5]) = xs[2]? := hf 2 _ rfl
    have g3 : DataW.trod enc Try.prog w 0 sp hd m 41 (List.take (Try.prog.cellsOf 41) [v3, v4, v5]) = xs[3]? := hf 3 _ rfl
    have hx4 : xs.length = 4 := hxl
    rw [cI, List.getElem?_eq_getElem (by omega)] at g0 g1
    rw [cB, List.getElem?_eq_getElem (by omega)] at g2
    rw [cE, List.getElem?_eq_getElem (by omega)] at g3
    obtain ⟨nm, e0, _, w0⟩ := DataW.trod_int Try.underlying3 g0
    obtain ⟨ar, e1, _, w1⟩ := DataW.trod_int Try.underlying3 g1
    obtain ⟨old, e2, _⟩ := DataW.trod_bool Try.underlying4 g2
    obtain ⟨op, n, A, c, k, e3, i1, i2, hk, hc, hl⟩ := read_node m (fun m _ => read_kids m) _ _ g3
    simp only [List.take_succ_cons, List.take_zero, List.cons.injEq, and_true] at e0 e1 e2 e3
    obtain ⟨rfl, rfl, rfl⟩ := e3
    subst e0 e1 e2
    exact ⟨⟨nm, ar, old, op, n, k⟩, A, c, rfl, ⟨i64_of_wf w0, i64_of_wf w1, i1, i2⟩, hk, hc, hl⟩

theorem read_defs {A0 : Option Addr} {len cap : Nat} {d : DataW H} {ps : List MemPlace} (h : DataW.Trod enc Try.prog w 0 sp hd 22 (.slice A0 len cap) d ps) :
    ∃ (A : Option Addr) (c : Nat) (ds : List De), Value.slice A0 len cap = .slice A ds.length c ∧ ds.length ≤ maxLen ∧ LiesD w 0 w.heap.size A ds := by
  obtain ⟨fuel, hf⟩ := h
  rcases DataW.trod_slice Try.underlying22 hf with ⟨hcs, _⟩ | ⟨a, len', cap', elems, rest, n, rfl, hcs, _, _, hl, hc, hel, hall, _⟩
  · simp [Value.cells] at hcs
    obtain ⟨rfl, rfl, rfl⟩ := hcs
    exact ⟨none, 0, [], rfl, Nat.zero_le _, fun i d h => by simp at h⟩
  · simp [Value.cells] at hcs
    obtain ⟨rfl, rfl, rfl⟩ := hcs
    by_cases hl0 : len = 0
    · subst hl0
      exact ⟨some a, cap, [], rfl, Nat.zero_le _, fun i d h => by simp at h⟩
    obtain ⟨b, off, spot⟩ := a
    have hspot : spot = none := by
      have h1 := hall 0 (by omega)
      rw [List.getElem?_eq_getElem (by omega), cD, Option.bind_eq_some_iff] at h1
      obtain ⟨cs', h2, h3⟩ := h1
      obtain ⟨d, A, c, rfl, _⟩ := read_def n _ _ h3
      obtain ⟨_, _, hcell⟩ := World.cells?_some h2
      have c00 : w.cell? (((⟨b, off, spot⟩ : Addr).add (0 * 6)).add 0) = some (.int .i64 d.nm) := hcell 0 (by omega)
      simpa [Addr.add] using World.cell?_spot c00
    subst hspot
    have ea : ∀ x y : Nat, ((⟨b, off, none⟩ : Addr).add x).add y = ⟨b, off + x + y, none⟩ := by
      intro x y
      unfold Addr.add
      split <;> split <;> simp_all
    have step : ∀ d, d ≤ len → ∃ ds : List De, ds.length = d ∧ ∀ i e, ds[i]? = some e → DAt w 0 w.heap.size (some ⟨b, off, none⟩) i e := by
      intro d
      induction d with
      | zero => exact fun _ => ⟨[], rfl, fun i e h => by simp at h⟩
      | succ d ihd =>
        intro hi
        obtain ⟨ds, hr, hlr⟩ := ihd (by omega)
        have h1 := hall d (by omega)
        rw [List.getElem?_eq_getElem (by omega), cD, Option.bind_eq_some_iff] at h1
        obtain ⟨cs', h2, h3⟩ := h1
        obtain ⟨e, A, c, rfl, hfit, hk, hc', hlk⟩ := read_def n _ _ h3
        obtain ⟨_, _, hcell⟩ := World.cells?_some h2
        have c0 := hcell 0 (by omega)
        have c1 := hcell 1 (by omega)
        have c2 := hcell 2 (by omega)
        have c3 := hcell 3 (by omega)
        have c4 := hcell 4 (by omega)
        have c5 := hcell 5 (by omega)
        rw [ea] at c0 c1 c2 c3 c4 c5
        have hb : b < w.heap.size := World.block_lt_of_cell? _ _ c0
        refine ⟨ds ++ [e], by simp [hr], ?_⟩
        intro i e' he
        by_cases hid : i < d
        · rw [List.getElem?_append_left (by omega)] at he
          exact hlr i e' he
        · have hil : i < d + 1 := by have := (List.getElem?_eq_some_iff.1 he).1; simp [hr] at this; omega
          obtain rfl : i = d := by omega
          rw [List.getElem?_append_right (by omega), hr, Nat.sub_self] at he
          simp at he
          subst he
          exact ⟨b, off, A, c, rfl, Nat.zero_le _, hb, hfit, c0, c1, c2, c3, c4, c5, hk, hc', hlk⟩
    obtain ⟨ds, hk, hlk⟩ := step len (Nat.le_refl _)
    exact ⟨_, cap, ds, by rw [hk], by omega, hlk⟩
end
end Go.Proofs.Ythjfinhfpgifiaa
