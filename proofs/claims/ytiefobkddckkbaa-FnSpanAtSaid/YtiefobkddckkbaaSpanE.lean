/-
  spec.SpanAt.
-/
import Derived.Test.YtiefobkddckkbaaSpanD
import Derived.Test.YtiefobkddckkbaaSpanS
import Derived.Test.YtiefobkddckkbaaPartS
import Derived.Test.YtiefobkddckkbaaOpen
namespace Go.Proofs.Ytiefobkddckkbaa
open Go.RowKit Go.Shelf
set_option maxRecDepth 100000

def spanOk (p : Nd) (zs : List Int) : Bool := (partN p zs).isSome && nodeIs p.op p.n p.k (firstS 8)
def spanA (p : Nd) (zs : List Int) : Nat := if spanOk p zs then spanN p zs else 0
def spanZ (p : Nd) (zs : List Int) : Nat := if spanOk p zs then spanN p zs + (txtN ((partN p zs).getD nd0).op ((partN p zs).getD nd0).n ((partN p zs).getD nd0).k).length else 0
theorem spanOk_some {p x : Nd} {zs : List Int} (h : partN p zs = some x) : spanOk p zs = nodeIs p.op p.n p.k (firstS 8) := by unfold spanOk; rw [h]; rfl
theorem spanOk_none {p : Nd} {zs : List Int} (h : partN p zs = none) : spanOk p zs = false := by unfold spanOk; rw [h]; rfl
theorem spanA_no {p : Nd} {zs : List Int} (h : spanOk p zs = false) : spanA p zs = 0 := by unfold spanA; rw [h]; rfl
theorem spanZ_no {p : Nd} {zs : List Int} (h : spanOk p zs = false) : spanZ p zs = 0 := by unfold spanZ; rw [h]; rfl
theorem spanA_yes {p : Nd} {zs : List Int} (h : spanOk p zs = true) : spanA p zs = spanN p zs := by unfold spanA; rw [h]; rfl
theorem spanZ_yes {p x : Nd} {zs : List Int} (h : spanOk p zs = true) (hx : partN p zs = some x) : spanZ p zs = spanN p zs + (txtN x.op x.n x.k).length := by unfold spanZ; rw [h, hx]; rfl
/-- A place and a Boolean. -/
def SpanPost (a z : Nat) (b : Bool) (w : World) (e : Ending) (w' : World) : Prop := e = .returned (.tuple #[.agg #[.int .i64 (a : Int), .int .i64 (z : Int)], .bool b]) ∧ Below w.heap.size w w'

theorem span_put {w : World} {g : Nat} {t : TypeId} {x y : Value} (h : Row w g t #[x, y]) (a z : Value) : Row ((w.setCell ⟨g, 0, none⟩ a).setCell ⟨g, 1, none⟩ z) g t #[a, z] := (h.put 0 a).put 1 z

set_option maxHeartbeats 2000000 in
theorem specSpan_any (op n : Int) (k : Fo) (A : Option Addr) (c : Nat) (zs : List Int) (A2 : Option Addr) (c2 : Nat) (w : World) (hl : Lies w 0 w.heap.size A 0 k) (hk : k.len ≤ maxLen) (hz : LiesI w 0 w.heap.size A2 zs) (hzl : zs.length ≤ 1048576) (hsz : k.size ≤ 1048576) (hi : I64 op ∧ I64 n) :
    Calls Try.prog 7 #[.agg #[.int .i64 op, .int .i64 n, .slice A k.len c], .slice A2 zs.length c2] w (SpanPost (spanA ⟨op, n, k⟩ zs) (spanZ ⟨op, n, k⟩ zs) (spanOk ⟨op, n, k⟩ zs) w) := by
  obtain ⟨hb, hr, hs⟩ := two_boxes w 33 28 #[Value.int IntKind.i64 op, Value.int IntKind.i64 n, Value.slice A k.len c] #[Value.int IntKind.i64 0, Value.int IntKind.i64 0]
  obtain ⟨W, hW⟩ : ∃ W, W = (w.alloc (Obj.cells #[Value.int IntKind.i64 op, Value.int IntKind.i64 n, Value.slice A k.len c] 33)).alloc (Obj.cells #[Value.int IntKind.i64 0, Value.int IntKind.i64 0] 28) := ⟨_, rfl⟩
  rw [← hW] at hb hr hs
  have FE := Lib.hid (show ∀ U, Below W.heap.size W U → U.cell? ⟨w.heap.size, 0, none⟩ = some (.int .i64 op) ∧ U.cell? ⟨w.heap.size, 1, none⟩ = some (.int .i64 n) ∧ U.cell? ⟨w.heap.size, 2, none⟩ = some (.slice A k.len c) from fun U hU => by
    have h1 := hr.below hU hr.size
    exact ⟨h1.cell rfl, h1.cell rfl, h1.cell rfl⟩)
  have FS := Lib.hid (show ∀ U, Below W.heap.size W U → Row U (w.heap.size + 1) 28 #[Value.int IntKind.i64 0, Value.int IntKind.i64 0] ∧ Below w.heap.size w U from fun U hU => ⟨hs.below hU hs.size, hb.trans (hU.mono hb.size)⟩)
  have HL := Lib.hid (show ∀ U, Below W.heap.size W U → Lies U 0 U.heap.size A 0 k ∧ LiesI U 0 U.heap.size A2 zs from fun U hU => ⟨(hl.up hb).up hU, (hz.up hb).up hU⟩)
  have HP := Lib.hid (specPart_any op n k A c zs A2 c2 W (HL.out W (Below.refl _ _)).1 hk (HL.out W (Below.refl _ _)).2 hzl hsz hi)
  clear hl hz hb hr hs
  go_enter Try.func7, Try.ntmps7
  go_upto_region 1 with fail
  rw [← hW]
  clear hW
  obtain ⟨q0, q1, q2⟩ := FE.out W (Below.refl _ _)
  go_wp2_with fail
  refine HP.out.mono ?_
  rintro e w0 ⟨A1, c1, b1, rfl, ht1, hb1⟩
  obtain ⟨y, hy⟩ : ∃ y, y = (partN ⟨op, n, k⟩ zs).getD nd0 := ⟨_, rfl⟩
  rw [← hy]
  obtain ⟨w1, hw1⟩ : ∃ V, V = w0.alloc (Obj.cells #[.int .i64 y.op, .int .i64 y.n, .slice A1 y.k.len c1] 33) := ⟨_, rfl⟩
  have HB1 := Lib.hid (show Below W.heap.size W w1 by rw [hw1]; exact hb1.alloc hb1.size _)
  clear ht1 hb1 HP q0 q1 q2 hy
  go_upto_region 2 with fail
  rw [← hw1]
  clear hw1
  cases hx : partN ⟨op, n, k⟩ zs with
  | none =>
    have h0 := spanOk_none hx
    obtain ⟨hsr, hbw⟩ := FS.out w1 HB1.out
    have s0 := hsr.cell (i := 0) rfl
    have s1 := hsr.cell (i := 1) rfl
    have f0 := hsr.free 0
    have f1 := hsr.free 1
    have hend := span_put hsr (.int .i64 0) (.int .i64 0)
    have r0 := hend.cell (i := 0) rfl
    have r1 := hend.cell (i := 1) rfl
    have HPOST := Lib.hid (show SpanPost (spanA ⟨op, n, k⟩ zs) (spanZ ⟨op, n, k⟩ zs) (spanOk ⟨op, n, k⟩ zs) w (.returned (.tuple #[.agg #[.int .i64 0, .int .i64 0], .bool false])) ((w1.setCell ⟨w.heap.size + 1, 0, none⟩ (.int .i64 0)).setCell ⟨w.heap.size + 1, 1, none⟩ (.int .i64 0)) from ⟨by rw [h0, spanA_no h0, spanZ_no h0]; rfl, (hbw.setCell (p := ⟨w.heap.size + 1, 0, none⟩) (by simp) (.int .i64 0)).setCell (p := ⟨w.heap.size + 1, 1, none⟩) (by simp) (.int .i64 0)⟩)
    clear h0 hx hsr hbw hend
    go_wp2_with fail
    refine bodyPost_ret (v := .tuple #[.agg #[.int .i64 0, .int .i64 0], .bool false]) ?_ rfl HPOST.out
    simp [results, Try.f7, go_sem, r0, r1]
  | some x =>
    have HX := Lib.hid hx
    have hso := spanOk_some hx
    have HSO := Lib.hid hso
    obtain ⟨q0, q1, q2⟩ := FE.out w1 HB1.out
    have HA := Lib.hid (l1Any_any op n k A c w1 (HL.out w1 HB1.out).1 hk)
    clear hx hso
    go_wp2_with fail
    refine HA.out.mono ?_
    rintro e w2 ⟨rfl, hb2⟩
    have HB2 := Lib.hid (HB1.out.trans (hb2.mono HB1.out.size))
    clear hb2 HA q0 q1 q2
    cases hv : nodeIs op n k (firstS 8) with
    | false =>
      have h0 : spanOk ⟨op, n, k⟩ zs = false := HSO.out.trans hv
      obtain ⟨hsr, hbw⟩ := FS.out w2 HB2.out
      have s0 := hsr.cell (i := 0) rfl
      have s1 := hsr.cell (i := 1) rfl
      have f0 := hsr.free 0
      have f1 := hsr.free 1
      have hend := span_put hsr (.int .i64 0) (.int .i64 0)
      have r0 := hend.cell (i := 0) rfl
      have r1 := hend.cell (i := 1) rfl
      have HPOST := Lib.hid (show SpanPost (spanA ⟨op, n, k⟩ zs) (spanZ ⟨op, n, k⟩ zs) (spanOk ⟨op, n, k⟩ zs) w (.returned (.tuple #[.agg #[.int .i64 0, .int .i64 0], .bool false])) ((w2.setCell ⟨w.heap.size + 1, 0, none⟩ (.int .i64 0)).setCell ⟨w.heap.size + 1, 1, none⟩ (.int .i64 0)) from ⟨by rw [h0, spanA_no h0, spanZ_no h0]; rfl, (hbw.setCell (p := ⟨w.heap.size + 1, 0, none⟩) (by simp) (.int .i64 0)).setCell (p := ⟨w.heap.size + 1, 1, none⟩) (by simp) (.int .i64 0)⟩)
      clear h0 hv hsr hbw hend
      go_wp2_with fail
      refine bodyPost_ret (v := .tuple #[.agg #[.int .i64 0, .int .i64 0], .bool false]) ?_ rfl HPOST.out
      simp [results, Try.f7, go_sem, r0, r1]
    | true =>
      have h1 : spanOk ⟨op, n, k⟩ zs = true := HSO.out.trans hv
      have ha9 := spanA_yes h1
      have hz9 := spanZ_yes h1 HX.out
      obtain ⟨q0, q1, q2⟩ := FE.out w2 HB2.out
      have HS := Lib.hid (l9Span_any op n k A c zs A2 c2 x w2 (HL.out w2 HB2.out).1 hv (HL.out w2 HB2.out).2 hzl HX.out)
      generalize spanN ⟨op, n, k⟩ zs + (txtN x.op x.n x.k).length = t at HS hz9
      generalize spanN ⟨op, n, k⟩ zs = a at HS ha9
      have HH1 := Lib.hid h1
      clear h1 hv
      go_wp2_with fail
      refine HS.out.mono ?_
      rintro e w3 ⟨rfl, hb3⟩
      obtain ⟨hsr, hbw⟩ := FS.out w3 (HB2.out.trans (hb3.mono HB2.out.size))
      have s0 := hsr.cell (i := 0) rfl
      have s1 := hsr.cell (i := 1) rfl
      have f0 := hsr.free 0
      have f1 := hsr.free 1
      have hend := span_put hsr (.int .i64 (a : Int)) (.int .i64 (t : Int))
      have r0 := hend.cell (i := 0) rfl
      have r1 := hend.cell (i := 1) rfl
      have HPOST := Lib.hid (show SpanPost (spanA ⟨op, n, k⟩ zs) (spanZ ⟨op, n, k⟩ zs) (spanOk ⟨op, n, k⟩ zs) w (.returned (.tuple #[.agg #[.int .i64 (a : Int), .int .i64 (t : Int)], .bool true])) ((w3.setCell ⟨w.heap.size + 1, 0, none⟩ (.int .i64 (a : Int))).setCell ⟨w.heap.size + 1, 1, none⟩ (.int .i64 (t : Int))) from ⟨by rw [HH1.out, ha9, hz9], (hbw.setCell (p := ⟨w.heap.size + 1, 0, none⟩) (by simp) (.int .i64 (a : Int))).setCell (p := ⟨w.heap.size + 1, 1, none⟩) (by simp) (.int .i64 (t : Int))⟩)
      clear ha9 hz9
      clear hb3 HS q0 q1 q2 hsr hbw hend
      go_wp2_with fail
      refine bodyPost_ret (v := .tuple #[.agg #[.int .i64 (a : Int), .int .i64 (t : Int)], .bool true]) ?_ rfl HPOST.out
      simp [results, Try.f7, go_sem, r0, r1]
end Go.Proofs.Ytiefobkddckkbaa
