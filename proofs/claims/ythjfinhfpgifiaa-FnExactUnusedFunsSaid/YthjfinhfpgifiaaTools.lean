/-
  szExpr and szExprS: what is left behind a list of nodes.
  toExpr and toExprS: a copy in new memory.
  eqExpr and eqExprS at two copies of the same nodes: true.
  The laws' own tools at one expression: szExpr, toExpr, eqExpr.
  szDef and szDefS: what is left behind a list of functions.
  toDef and toDefS: a copy of a list of functions in new memory.
  eqDef and eqDefS at two copies of the same functions: true.
-/
import Derived.Test.YthjfinhfpgifiaaFo
import Derived.Test.YthjfinhfpgifiaaRows
import Derived.WalkKit
import Derived.WalkSpells
import Derived.Lib.Hide
import Derived.StillTailTactics
import Derived.Test.YthjfinhfpgifiaaDe
namespace Go.Proofs.Ythjfinhfpgifiaa
open Go.RowKit
set_option maxRecDepth 100000

/-- The post of szExpr and szExprS: -1, or what is left behind 'n' nodes. -/
def SzPost (n : Nat) (left : Int) (B : Nat) (w : World) (e : Ending) (w' : World) : Prop :=
  ∃ r : Int, e = .returned (.int .i64 r) ∧ (r = -1 ∨ (0 ≤ r ∧ r + n = left)) ∧ Below B w w'

set_option maxHeartbeats 400000 in
theorem szExpr_of (op n left : Int) (k : Fo) (A : Option Addr) (c : Nat) (w : World)
    (h : ∀ w1 : World, Below w.heap.size w w1 → Calls Try.prog 5 #[.slice A k.len c, .int .i64 left] w1 (SzPost k.size left w1.heap.size w1)) :
    Calls Try.prog 18 #[.agg #[.int .i64 op, .int .i64 n, .slice A k.len c], .int .i64 left] w (SzPost k.size left w.heap.size w) := by
  go_enter Try.func18, Try.ntmps18
  go_wp2_with fail
  have hb0 : Below w.heap.size w (w.alloc (Obj.cells #[Value.int IntKind.i64 op, Value.int IntKind.i64 n, Value.slice A k.len c] 41)) := (Below.refl _ _).alloc (Nat.le_refl _) _
  refine (h _ hb0).mono ?_
  rintro e w' ⟨r, rfl, hr, hb⟩
  have hb1 := hb0.trans (hb.mono (by simp))
  clear hb hb0
  go_wp2
  · go_ret
    exact ⟨-1, rfl, .inl rfl, hb1⟩
  · go_ret
    exact ⟨r, rfl, hr, hb1⟩

set_option maxHeartbeats 400000 in
theorem szExprS_any (m : Nat) : ∀ (f : Fo) (A : Option Addr) (c : Nat) (w : World) (left : Int), f.size = m → Lies w 0 w.heap.size A 0 f → f.len ≤ maxLen → 0 ≤ left → left ≤ 1048576 →
    Calls Try.prog 5 #[.slice A f.len c, .int .i64 left] w (SzPost f.size left w.heap.size w) := by
  induction m using Nat.strongRecOn with
  | _ m ih =>
    intro f A c w left hm hl hlen h0 h1
    unfold maxLen at hlen
    go_enter Try.func5, Try.ntmps5
    go_wp2
    · go_ret
      exact ⟨-1, rfl, .inl rfl, Below.refl _ _⟩
    · go_loopw [1, 5] (fun l i wr => ∃ (j : Nat) (r : Int), j ≤ f.len ∧ i = .int .i64 j ∧ l = .int .i64 r ∧ 0 ≤ r ∧ r ≤ left ∧ r + f.size + (f.len - j) = left + (f.drop j).size ∧ Below w.heap.size w wr)
        (fun _ i _ => f.len - (intOf i).toNat)
      case atStart => exact ⟨0, _, by omega, rfl, rfl, by assumption, by omega, by simp [Fo.drop_zero]; omega, Below.refl _ _⟩
      case round =>
        obtain ⟨j, r, hj, rfl, rfl, hr0, hr1, hr, hb⟩ := hrel
        by_cases hlt : j < f.len
        · obtain ⟨op, n, k, e1, e2, e3⟩ := Fo.drop_of_lt f j hlt
          have hj' := (hl.below hb).at_ j
          rw [Nat.zero_add, e1] at hj'
          obtain ⟨⟨b, o, A', c', hA, _, hbb, i1, i2, g1, g2, g3, h1, h2, h3⟩, _⟩ := hj'
          subst hA
          go_wp2_with fail
          refine (szExpr_of op n r k A' c' wr (fun w1 hw1 => ih k.size (by omega) k A' c' w1 r rfl ((h3.below (hw1.mono hb.size)).mono_ (Nat.le_refl _) (by have := hb.size; have := hw1.size; omega)) (by omega) hr0 (by omega))).mono ?_
          rintro e w2 ⟨r2, rfl, hr2, hb2⟩
          have hb3 := hb.trans (hb2.mono hb.size)
          clear hb2 hb g1 g2 g3 e1 h3 hl ih
          go_wp2
          · go_ret
            exact ⟨-1, rfl, .inl rfl, hb3⟩
          · go_roundw
            case rel => exact ⟨j + 1, r2, by omega, by go_num, rfl, by omega, by omega, by omega, hb3⟩
            case measure => simp [intOf]; omega
        · have e9 : f.len = j := by omega
          have hd := Fo.drop_len f
          go_wp2
          go_ret
          refine ⟨r, rfl, .inr ⟨hr0, ?_⟩, hb⟩
          subst e9
          rw [hd] at hr
          simp only [Fo.size] at hr
          omega
end Go.Proofs.Ythjfinhfpgifiaa

namespace Go.Proofs.Ythjfinhfpgifiaa
open Go.RowKit
set_option maxRecDepth 100000

/-- The post of toExprS: a new slice with the same nodes. -/
def ToPostZ (f : Fo) (w : World) (e : Ending) (w' : World) : Prop :=
  ∃ A c, e = .returned (.slice A f.len c) ∧ f.len ≤ c ∧ c ≤ maxLen ∧ LiesZ w' w.heap.size w'.heap.size A 0 f ∧ AllRows w' w.heap.size w'.heap.size ∧ Below w.heap.size w w'
/-- The post of toExpr: a node with a new slice of the same Kids. -/
def ToPostZ1 (op n : Int) (k : Fo) (w : World) (e : Ending) (w' : World) : Prop :=
  ∃ A c, e = .returned (.agg #[.int .i64 op, .int .i64 n, .slice A k.len c]) ∧ k.len ≤ c ∧ c ≤ maxLen ∧ LiesZ w' w.heap.size w'.heap.size A 0 k ∧ AllRows w' w.heap.size w'.heap.size ∧ Below w.heap.size w w'

set_option maxHeartbeats 400000 in
theorem toExpr_ofz (op n : Int) (k : Fo) (A : Option Addr) (c : Nat) (w : World)
    (h : ∀ w1 : World, Below w.heap.size w w1 → Calls Try.prog 8 #[.slice A k.len c] w1 (ToPostZ k w1)) :
    Calls Try.prog 22 #[.agg #[.int .i64 op, .int .i64 n, .slice A k.len c]] w (ToPostZ1 op n k w) := by
  go_enter Try.func22, Try.ntmps22
  go_wp2_with fail
  generalize hw1 : (((w.alloc (Obj.cells #[Value.int IntKind.i64 op, Value.int IntKind.i64 n, Value.slice A k.len c] 41)).alloc (Obj.cells #[Value.int IntKind.i64 0, Value.int IntKind.i64 0, Value.slice Option.none 0 0] 49)).alloc
    (Obj.cells #[Value.int IntKind.i64 op, Value.int IntKind.i64 n, Value.slice Option.none 0 0] 49)) = w1
  have hb1 : Below w.heap.size w w1 := by
    subst hw1
    exact (((Below.refl _ _).alloc (Nat.le_refl _) _).alloc (by simp) _).alloc (by simp; omega) _
  have hz1 : w1.heap.size = w.heap.size + 1 + 1 + 1 := by subst hw1; simp
  have r1 : Row w1 (w.heap.size + 1) 49 #[Value.int IntKind.i64 0, Value.int IntKind.i64 0, Value.slice Option.none 0 0] := by
    subst hw1
    have := Row.fresh (w.alloc (Obj.cells #[Value.int IntKind.i64 op, Value.int IntKind.i64 n, Value.slice A k.len c] 41)) 49 #[Value.int IntKind.i64 0, Value.int IntKind.i64 0, Value.slice Option.none 0 0]
    simp only [World.size_alloc] at this
    exact this.alloc _
  have r2 : Row w1 (w.heap.size + 1 + 1) 49 #[Value.int IntKind.i64 op, Value.int IntKind.i64 n, Value.slice Option.none 0 0] := by
    subst hw1
    have := Row.fresh ((w.alloc (Obj.cells #[Value.int IntKind.i64 op, Value.int IntKind.i64 n, Value.slice A k.len c] 41)).alloc (Obj.cells #[Value.int IntKind.i64 0, Value.int IntKind.i64 0, Value.slice Option.none 0 0] 49)) 49 #[Value.int IntKind.i64 op, Value.int IntKind.i64 n, Value.slice Option.none 0 0]
    simpa using this
  have ha1 : AllRows w1 w.heap.size w1.heap.size := by
    subst hw1
    exact (((AllRows.none w _).alloc _ _).alloc _ _).alloc _ _
  clear hw1
  refine (h _ hb1).mono ?_
  rintro e w2 ⟨A', c', rfl, hc1, hc2, hR, hall, hb⟩
  have hall2 : AllRows w2 w.heap.size w2.heap.size := (ha1.below hb (Nat.le_refl _)).join hall
  have q1 := r1.below hb (by omega)
  have q2 := r2.below hb (by omega)
  clear r1 r2
  have c0 := q2.cell (i := 0) rfl
  have c1 := q2.cell (i := 1) rfl
  have c2 := q2.cell (i := 2) rfl
  have d0 := q1.cell (i := 0) rfl
  have d1 := q1.cell (i := 1) rfl
  have d2 := q1.cell (i := 2) rfl
  have f2 := q2.free 2
  have e0 := q1.free 0
  have e1 := q1.free 1
  have e2 := q1.free 2
  go_wp2
  have q3 := (((q1.apart (p := ⟨w.heap.size + 1 + 1, 2, Option.none⟩) (by simp) (.slice A' k.len c')).put 0 (.int .i64 op)).put 1 (.int .i64 n)).put 2 (.slice A' k.len c')
  refine bodyPost_ret (results_cell_row (P := Try.prog) rfl _ _ _ _ _ _ _ rfl q3 Try.underlying49 rfl (by kernel_rfl)) rfl ?_
  refine ⟨A', c', rfl, hc1, hc2, ?_, (((hall2.set _ _).set _ _).set _ _).set _ _ |>.mono_ (Nat.le_refl _) (by simp [World.setCell]), ?_⟩
  · refine (((((hR.set (.inl ?_) _).set (.inl ?_) _).set (.inl ?_) _).set (.inl ?_) _).mono_ hb1.size (by simp [World.setCell])) <;> (dsimp only; omega)
  · exact (((((hb1.trans (hb.mono hb1.size)).setCell (by simp; omega) _).setCell (by simp) _).setCell (by simp) _).setCell (by simp) _)

def madeE (n : Nat) : Array Value := madeCells #[Value.int IntKind.i64 0, Value.int IntKind.i64 0, Value.slice Option.none 0 0] (n * 3)
theorem made_run (n : Nat) (hn : n ≤ 3518437208883) (w : World) : (Instr.makeSlice 30 (.int .i64 (n : Int)) (.int .i64 (n : Int))).run Try.prog w = .ok (.slice (some ⟨w.heap.size, 0, Option.none⟩) n n) (w.alloc (.cells (madeE n) 49)) := by
  obtain ⟨i, hi, hz0, hz1, hz2⟩ := info_parts (show (Try.prog.info? 49).map (fun i => (i.zero, i.size, i.bytes)) = some (some (.agg #[.int .i64 0, .int .i64 0, .slice Option.none 0 0]), 3, 40) by kernel_rfl)
  have h := run_make (P := Try.prog) w 30 49 i _ Try.underlying30 hi hz0 .i64 .i64 (n : Int) (n : Int) (by omega) (by omega) (by rw [hz2]; omega) (by omega)
  rw [Int.toNat_natCast, hz1] at h
  exact h

set_option maxHeartbeats 400000 in
theorem toExprS_z (m : Nat) : ∀ (f : Fo) (A : Option Addr) (c : Nat) (w : World), f.size = m → Lies w 0 w.heap.size A 0 f → f.size ≤ 1048576 →
    Calls Try.prog 8 #[.slice A f.len c] w (ToPostZ f w) := by
  induction m using Nat.strongRecOn with
  | _ m ih =>
    intro f A c w hm hl hsz
    have hlen := Fo.len_le_size f
    have hmk := made_run f.len (by omega)
    go_enter Try.func8, Try.ntmps8
    go_wp2
    clear hmk
    go_loopw [4] (fun i wr => ∃ (j : Nat) (cs : Array Value), j ≤ f.len ∧ i = .int .i64 j ∧ Row wr w.heap.size 49 cs ∧ cs.size = f.len * 3 ∧ LiesC wr (w.heap.size + 1) wr.heap.size cs 0 (f.take j) ∧ AllRows wr w.heap.size wr.heap.size ∧ Below w.heap.size w wr)
      (fun i _ => f.len - (intOf i).toNat)
    case atStart => exact ⟨0, _, by omega, rfl, Row.fresh _ _ _, size_madeCells _ _, by rw [Fo.take_zero]; trivial, (AllRows.none w _).alloc _ _, (Below.refl _ _).alloc (Nat.le_refl _) _⟩
    case round =>
      obtain ⟨j, cs, hj, rfl, hrow, hcs, hlc, hal, hb⟩ := hrel
      by_cases hlt : j < f.len
      · obtain ⟨op, n, k, e1, e2, e3⟩ := Fo.drop_of_lt f j hlt
        have hj' := (hl.below hb).at_ j
        rw [Nat.zero_add, e1] at hj'
        obtain ⟨⟨b, o, A', c', hA, _, hbb, i1, i2, g1, g2, g3, h1, h2, h3⟩, _⟩ := hj'
        subst hA
        have E1 := Lib.hid e1
        clear e1
        go_wp2_with fail
        refine (toExpr_ofz op n k A' c' wr (fun w1 hw1 => ih k.size (by omega) k A' c' w1 rfl ((h3.below (hw1.mono hb.size)).mono_ (Nat.le_refl _) (by have := hb.size; have := hw1.size; omega)) (by omega))).mono ?_
        rintro e w2 ⟨A2, c2, rfl, hc1, hc2, hR, hal2, hb2⟩
        have hal3 := Lib.hid ((hal.below hb2 (Nat.le_refl _)).join hal2)
        have hz := hrow.size
        have hrow2 := hrow.below hb2 hz
        have hb3 := hb.trans (hb2.mono hb.size)
        obtain ⟨v0, p0⟩ : ∃ v, cs[j * 3]? = some v := ⟨_, Array.getElem?_eq_getElem (by omega)⟩
        obtain ⟨v1, p1⟩ : ∃ v, cs[j * 3 + 1]? = some v := ⟨_, Array.getElem?_eq_getElem (by omega)⟩
        obtain ⟨v2, p2⟩ : ∃ v, cs[j * 3 + 2]? = some v := ⟨_, Array.getElem?_eq_getElem (by omega)⟩
        have q0 := hrow2.cell p0
        have q1 := hrow2.cell p1
        have q2 := hrow2.cell p2
        have f0 := hrow2.free (j * 3)
        have f1 := hrow2.free (j * 3 + 1)
        have f2 := hrow2.free (j * 3 + 2)
        have H := Lib.hid (show cs.size = f.len * 3 from hcs)
        clear p0 p1 p2 g1 g2 g3 hcs
        go_wp2
        obtain ⟨cs', k1, k2, k3⟩ := LiesC.step hrow2 H.out hlt (hlc.keep (Nat.le_refl _) hb2.size (fun p _ hp => hb2.cell hp) (fun _ _ => rfl)) E1.out i1 i2 hc1 hc2 (hR.mono_ (by omega) (Nat.le_refl _))
        refine ⟨⟨j + 1, cs', by omega, by go_num, k1, k2, k3, ((hal3.out.set _ _).set _ _).set _ _ |>.mono_ (Nat.le_refl _) (by simp [World.setCell]), ?_⟩, by simp [intOf]; omega⟩
        exact ((hb3.setCell (Nat.le_refl _) _).setCell (Nat.le_refl _) _).setCell (Nat.le_refl _) _
      · have e9 : f.len = j := by omega
        go_wp2
        go_ret
        subst e9
        rw [Fo.take_len] at hlc
        exact ⟨_, _, rfl, Nat.le_refl _, by unfold maxLen; omega, hlc.lies hrow (Nat.lt_succ_self _) hrow.size, hal, hb⟩

/-- The same, with less said of the places. -/
def ToPost1 (op n : Int) (k : Fo) (w : World) (e : Ending) (w' : World) : Prop :=
  ∃ A c, e = .returned (.agg #[.int .i64 op, .int .i64 n, .slice A k.len c]) ∧ k.len ≤ c ∧ c ≤ maxLen ∧ Lies w' w.heap.size w'.heap.size A 0 k ∧ AllRows w' w.heap.size w'.heap.size ∧ Below w.heap.size w w'
end Go.Proofs.Ythjfinhfpgifiaa

namespace Go.Proofs.Ythjfinhfpgifiaa
open Go.RowKit
set_option maxRecDepth 100000

set_option maxHeartbeats 400000 in
theorem eqExpr_of (op n : Int) (k : Fo) (A A2 : Option Addr) (c c2 : Nat) (w : World)
    (h : ∀ w1 : World, Below w.heap.size w w1 → Calls Try.prog 12 #[.slice A k.len c, .slice A2 k.len c2] w1 (Gives (.bool true) w1)) :
    Calls Try.prog 26 #[.agg #[.int .i64 op, .int .i64 n, .slice A k.len c], .agg #[.int .i64 op, .int .i64 n, .slice A2 k.len c2]] w (Gives (.bool true) w) := by
  go_enter Try.func26, Try.ntmps26
  go_wp2_with fail
  have hb1 : Below w.heap.size w ((w.alloc (Obj.cells #[Value.int IntKind.i64 op, Value.int IntKind.i64 n, Value.slice A k.len c] 49)).alloc (Obj.cells #[Value.int IntKind.i64 op, Value.int IntKind.i64 n, Value.slice A2 k.len c2] 49)) :=
    ((Below.refl _ _).alloc (Nat.le_refl _) _).alloc (by simp) _
  refine (h _ hb1).mono ?_
  rintro e w2 ⟨rfl, hb⟩
  have hb3 := hb1.trans (hb.mono hb1.size)
  clear hb hb1
  go_wp2
  go_ret
  exact ⟨rfl, hb3⟩

set_option maxHeartbeats 400000 in
theorem eqExprS_any (m : Nat) : ∀ (f : Fo) (A A2 : Option Addr) (c c2 : Nat) (w : World), f.size = m → Lies w 0 w.heap.size A 0 f → Lies w 0 w.heap.size A2 0 f → f.size ≤ 1048576 →
    Calls Try.prog 12 #[.slice A f.len c, .slice A2 f.len c2] w (Gives (.bool true) w) := by
  induction m using Nat.strongRecOn with
  | _ m ih =>
    intro f A A2 c c2 w hm hl hl2 hsz
    have hlen := Fo.len_le_size f
    go_enter Try.func12, Try.ntmps12
    go_wp2
    go_loopw [5] (fun i wr => ∃ (j : Nat), j ≤ f.len ∧ i = .int .i64 j ∧ Below w.heap.size w wr)
      (fun i _ => f.len - (intOf i).toNat)
    case atStart => exact ⟨0, by omega, rfl, Below.refl _ _⟩
    case round =>
      obtain ⟨j, hj, rfl, hb⟩ := hrel
      by_cases hlt : j < f.len
      · obtain ⟨op, n, k, e1, e2, e3⟩ := Fo.drop_of_lt f j hlt
        have hj' := (hl.below hb).at_ j
        have hj2 := (hl2.below hb).at_ j
        rw [Nat.zero_add, e1] at hj' hj2
        obtain ⟨⟨b, o, A', c', hA, _, hbb, i1, i2, g1, g2, g3, h1, h2, h3⟩, _⟩ := hj'
        obtain ⟨⟨b', o', B', d', hA', _, hbb', _, _, g1', g2', g3', h1', h2', h3'⟩, _⟩ := hj2
        subst hA hA'
        clear e1
        go_wp2_with fail
        go_still_tail 8, (by kernel_rfl)
        change wpList _ _ _ _ _ wr.drew
        have hb' : Below w.heap.size w wr.drew := hb.drew
        go_wp2_with fail
        refine (eqExpr_of op n k A' B' c' d' wr.drew (fun w1 hw1 => ih k.size (by omega) k A' B' c' d' w1 rfl
          ((h3.below (w' := w1) ((Below.refl _ _).drew.trans (hw1.mono hb'.size))).mono_ (Nat.le_refl _) (by have := hb'.size; have := hw1.size; omega))
          ((h3'.below (w' := w1) ((Below.refl _ _).drew.trans (hw1.mono hb'.size))).mono_ (Nat.le_refl _) (by have := hb'.size; have := hw1.size; omega)) (by omega))).mono ?_
        rintro e w2 ⟨rfl, hb2⟩
        have hb3 := hb'.trans (hb2.mono hb'.size)
        clear g1 g2 g3 g1' g2' g3' hb hb' hb2
        go_wp2
        go_roundw
        case rel => exact ⟨j + 1, by omega, by go_num, hb3⟩
        case measure => simp [intOf]; omega
      · go_wp2
        go_ret
        exact ⟨rfl, hb⟩
end Go.Proofs.Ythjfinhfpgifiaa

namespace Go.Proofs.Ythjfinhfpgifiaa
open Go.RowKit
set_option maxRecDepth 100000

theorem szExpr_any (op n : Int) (k : Fo) (A : Option Addr) (c : Nat) (w : World) (left : Int) (hl : Lies w 0 w.heap.size A 0 k) (hlen : k.len ≤ maxLen) (h0 : 0 ≤ left) (h1 : left ≤ 1048576) :
    Calls Try.prog 18 #[.agg #[.int .i64 op, .int .i64 n, .slice A k.len c], .int .i64 left] w (SzPost k.size left w.heap.size w) :=
  szExpr_of op n left k A c w fun w1 hw1 => szExprS_any k.size k A c w1 left rfl ((hl.below hw1).mono_ (Nat.le_refl _) hw1.size) hlen h0 h1

theorem toExpr_z (op n : Int) (k : Fo) (A : Option Addr) (c : Nat) (w : World) (hl : Lies w 0 w.heap.size A 0 k) (hsz : k.size ≤ 1048576) :
    Calls Try.prog 22 #[.agg #[.int .i64 op, .int .i64 n, .slice A k.len c]] w (ToPostZ1 op n k w) :=
  toExpr_ofz op n k A c w fun w1 hw1 => toExprS_z k.size k A c w1 rfl ((hl.below hw1).mono_ (Nat.le_refl _) hw1.size) hsz
theorem toExpr_any (op n : Int) (k : Fo) (A : Option Addr) (c : Nat) (w : World) (hl : Lies w 0 w.heap.size A 0 k) (hsz : k.size ≤ 1048576) :
    Calls Try.prog 22 #[.agg #[.int .i64 op, .int .i64 n, .slice A k.len c]] w (ToPost1 op n k w) :=
  (toExpr_z op n k A c w hl hsz).mono fun _ _ ⟨A', c', h1, h2, h3, h4, h5, h6⟩ => ⟨A', c', h1, h2, h3, h4.lies, h5, h6⟩

theorem eqExpr_any (op n : Int) (k : Fo) (A A2 : Option Addr) (c c2 : Nat) (w : World) (hl : Lies w 0 w.heap.size A 0 k) (hl2 : Lies w 0 w.heap.size A2 0 k) (hsz : k.size ≤ 1048576) :
    Calls Try.prog 26 #[.agg #[.int .i64 op, .int .i64 n, .slice A k.len c], .agg #[.int .i64 op, .int .i64 n, .slice A2 k.len c2]] w (Gives (.bool true) w) :=
  eqExpr_of op n k A A2 c c2 w fun w1 hw1 => eqExprS_any k.size k A A2 c c2 w1 rfl ((hl.below hw1).mono_ (Nat.le_refl _) hw1.size) ((hl2.below hw1).mono_ (Nat.le_refl _) hw1.size) hsz
end Go.Proofs.Ythjfinhfpgifiaa

namespace Go.Proofs.Ythjfinhfpgifiaa
open Go.RowKit
set_option maxRecDepth 100000

def aggD (d : De) (A : Option Addr) (c : Nat) : Value := .agg #[.int .i64 d.nm, .int .i64 d.ar, .bool d.old, .int .i64 d.op, .int .i64 d.n, .slice A d.k.len c]

set_option maxHeartbeats 400000 in
theorem szDef_any (d : De) (left : Int) (A : Option Addr) (c : Nat) (w : World) (hl : Lies w 0 w.heap.size A 0 d.k) (hlen : d.k.len ≤ maxLen) (h0 : 0 ≤ left) (h1 : left ≤ 1048576) :
    Calls Try.prog 17 #[.agg #[.int .i64 d.nm, .int .i64 d.ar, .bool d.old, .int .i64 d.op, .int .i64 d.n, .slice A d.k.len c], .int .i64 left] w (SzPost d.k.size left w.heap.size w) := by
  obtain ⟨nm, ar, old, op, n, k⟩ := d
  dsimp only at *
  go_enter Try.func17, Try.ntmps17
  go_wp2_with fail
  have hb0 : Below w.heap.size w (w.alloc (Obj.cells #[Value.int IntKind.i64 nm, Value.int IntKind.i64 ar, Value.bool old, Value.int IntKind.i64 op, Value.int IntKind.i64 n, Value.slice A k.len c] 43)) := (Below.refl _ _).alloc (Nat.le_refl _) _
  refine (szExpr_any op n k A c _ left (hl.up hb0) hlen h0 h1).mono ?_
  rintro e w' ⟨r, rfl, hr, hb⟩
  have hb1 := hb0.trans (hb.mono (by simp))
  clear hb hb0
  go_wp2
  · go_ret
    exact ⟨-1, rfl, .inl rfl, hb1⟩
  · go_ret
    exact ⟨r, rfl, hr, hb1⟩

set_option maxHeartbeats 400000 in
theorem szDefS_any (ds : List De) (A : Option Addr) (c : Nat) (w : World) (left : Int) (hl : LiesD w 0 w.heap.size A ds) (hlen : ds.length ≤ maxLen) (h0 : 0 ≤ left) (h1 : left ≤ 1048576) :
    Calls Try.prog 4 #[.slice A ds.length c, .int .i64 left] w (SzPost (sizeD ds) left w.heap.size w) := by
  unfold maxLen at hlen
  go_enter Try.func4, Try.ntmps4
  go_wp2
  · go_ret
    exact ⟨-1, rfl, .inl rfl, Below.refl _ _⟩
  · go_loopw [1, 5] (fun l i wr => ∃ (j : Nat) (r : Int), j ≤ ds.length ∧ i = .int .i64 j ∧ l = .int .i64 r ∧ 0 ≤ r ∧ r ≤ left ∧ r + sizeD ds + (ds.length - j) = left + sizeD (ds.drop j) ∧ Below w.heap.size w wr)
      (fun _ i _ => ds.length - (intOf i).toNat)
    case atStart => exact ⟨0, _, by omega, rfl, rfl, by assumption, by omega, by simp; omega, Below.refl _ _⟩
    case round =>
      obtain ⟨j, r, hj, rfl, rfl, hr0, hr1, hr, hb⟩ := hrel
      by_cases hlt : j < ds.length
      · have e1 := List.getElem?_eq_getElem hlt
        generalize ds[j] = d at e1
        have e3 := sizeD_drop e1
        obtain ⟨b, o, A', c', hA, _, hbb, hf, g1, g2, g3, g4, g5, g6, h7, h8, h9⟩ := hl.below hb j d e1
        subst hA
        have hkl : d.k.len ≤ maxLen := by omega
        go_wp2_with fail
        refine (szDef_any d r A' c' wr (h9.mono_ (Nat.le_refl _) hb.size) hkl hr0 (by omega)).mono ?_
        rintro e w2 ⟨r2, rfl, hr2, hb2⟩
        have hb3 := hb.trans (hb2.mono hb.size)
        clear hb2 hb g1 g2 g3 g4 g5 g6 e1 h9 hl
        go_wp2
        · go_ret
          exact ⟨-1, rfl, .inl rfl, hb3⟩
        · go_roundw
          case rel => exact ⟨j + 1, r2, by omega, by go_num, rfl, by omega, by omega, by omega, hb3⟩
          case measure => simp [intOf]; omega
      · have e9 : ds.length = j := by omega
        have hd : ds.drop j = [] := List.drop_eq_nil_iff.2 (by omega)
        rw [hd] at hr
        go_wp2
        go_ret
        refine ⟨r, rfl, .inr ⟨hr0, ?_⟩, hb⟩
        simp only [sizeD] at hr
        omega
end Go.Proofs.Ythjfinhfpgifiaa

namespace Go.Proofs.Ythjfinhfpgifiaa
open Go.RowKit
set_option maxRecDepth 100000

def ToPostD1 (d : De) (w : World) (e : Ending) (w' : World) : Prop :=
  ∃ A c, e = .returned (.agg #[.int .i64 d.nm, .int .i64 d.ar, .bool d.old, .int .i64 d.op, .int .i64 d.n, .slice A d.k.len c]) ∧ d.k.len ≤ c ∧ c ≤ maxLen ∧ Lies w' w.heap.size w'.heap.size A 0 d.k ∧ AllRows w' w.heap.size w'.heap.size ∧ Below w.heap.size w w'
def ToPostD (ds : List De) (w : World) (e : Ending) (w' : World) : Prop :=
  ∃ A c, e = .returned (.slice A ds.length c) ∧ ds.length ≤ c ∧ c ≤ maxLen ∧ LiesD w' w.heap.size w'.heap.size A ds ∧ AllRows w' w.heap.size w'.heap.size ∧ Below w.heap.size w w'

set_option maxHeartbeats 800000 in
theorem toDef_any (d : De) (A : Option Addr) (c : Nat) (w : World) (hl : Lies w 0 w.heap.size A 0 d.k) (hsz : d.k.size ≤ 1048576) :
    Calls Try.prog 21 #[.agg #[.int .i64 d.nm, .int .i64 d.ar, .bool d.old, .int .i64 d.op, .int .i64 d.n, .slice A d.k.len c]] w (ToPostD1 d w) := by
  unfold ToPostD1
  obtain ⟨nm, ar, old, op, n, k⟩ := d
  dsimp only at *
  go_enter Try.func21, Try.ntmps21
  go_wp2_with fail
  generalize hw1 : (((w.alloc (Obj.cells #[Value.int IntKind.i64 nm, Value.int IntKind.i64 ar, Value.bool old, Value.int IntKind.i64 op, Value.int IntKind.i64 n, Value.slice A k.len c] 43)).alloc (Obj.cells #[Value.int IntKind.i64 0, Value.int IntKind.i64 0, Value.bool false, Value.int IntKind.i64 0, Value.int IntKind.i64 0, Value.slice Option.none 0 0] 51)).alloc
    (Obj.cells #[Value.int IntKind.i64 nm, Value.int IntKind.i64 ar, Value.bool old, Value.int IntKind.i64 0, Value.int IntKind.i64 0, Value.slice Option.none 0 0] 51)) = w1
  have hb1 : Below w.heap.size w w1 := by
    subst hw1
    exact (((Below.refl _ _).alloc (Nat.le_refl _) _).alloc (by simp) _).alloc (by simp; omega) _
  have hz1 : w1.heap.size = w.heap.size + 1 + 1 + 1 := by subst hw1; simp
  have r1 : Row w1 (w.heap.size + 1) 51 #[Value.int IntKind.i64 0, Value.int IntKind.i64 0, Value.bool false, Value.int IntKind.i64 0, Value.int IntKind.i64 0, Value.slice Option.none 0 0] := by
    subst hw1
    have := Row.fresh (w.alloc (Obj.cells #[Value.int IntKind.i64 nm, Value.int IntKind.i64 ar, Value.bool old, Value.int IntKind.i64 op, Value.int IntKind.i64 n, Value.slice A k.len c] 43)) 51 #[Value.int IntKind.i64 0, Value.int IntKind.i64 0, Value.bool false, Value.int IntKind.i64 0, Value.int IntKind.i64 0, Value.slice Option.none 0 0]
    simp only [World.size_alloc] at this
    exact this.alloc _
  have r2 : Row w1 (w.heap.size + 1 + 1) 51 #[Value.int IntKind.i64 nm, Value.int IntKind.i64 ar, Value.bool old, Value.int IntKind.i64 0, Value.int IntKind.i64 0, Value.slice Option.none 0 0] := by
    subst hw1
    have := Row.fresh ((w.alloc (Obj.cells #[Value.int IntKind.i64 nm, Value.int IntKind.i64 ar, Value.bool old, Value.int IntKind.i64 op, Value.int IntKind.i64 n, Value.slice A k.len c] 43)).alloc (Obj.cells #[Value.int IntKind.i64 0, Value.int IntKind.i64 0, Value.bool false, Value.int IntKind.i64 0, Value.int IntKind.i64 0, Value.slice Option.none 0 0] 51)) 51 #[Value.int IntKind.i64 nm, Value.int IntKind.i64 ar, Value.bool old, Value.int IntKind.i64 0, Value.int IntKind.i64 0, Value.slice Option.none 0 0]
    simpa using this
  have ha1 : AllRows w1 w.heap.size w1.heap.size := by
    subst hw1
    exact (((AllRows.none w _).alloc _ _).alloc _ _).alloc _ _
  have hl1 := hl.up hb1
  clear hw1
  refine (toExpr_any op n k A c w1 hl1 hsz).mono ?_
  rintro e w2 ⟨A', c', rfl, hc1, hc2, hR, hall, hb⟩
  have hall2 : AllRows w2 w.heap.size w2.heap.size := (ha1.below hb (Nat.le_refl _)).join hall
  have q1 := r1.below hb (by omega)
  have q2 := r2.below hb (by omega)
  clear r1 r2
  have c0 := q2.cell (i := 0) rfl
  have c1 := q2.cell (i := 1) rfl
  have c2 := q2.cell (i := 2) rfl
  have c3 := q2.cell (i := 3) rfl
  have c4 := q2.cell (i := 4) rfl
  have c5 := q2.cell (i := 5) rfl
  have d0 := q1.cell (i := 0) rfl
  have d1 := q1.cell (i := 1) rfl
  have d2 := q1.cell (i := 2) rfl
  have d3 := q1.cell (i := 3) rfl
  have d4 := q1.cell (i := 4) rfl
  have d5 := q1.cell (i := 5) rfl
  have f3 := q2.free 3
  have f4 := q2.free 4
  have f5 := q2.free 5
  have e0 := q1.free 0
  have e1 := q1.free 1
  have e2 := q1.free 2
  have e3 := q1.free 3
  have e4 := q1.free 4
  have e5 := q1.free 5
  go_wp2
  have q3 := ((((((((q1.apart (p := ⟨w.heap.size + 1 + 1, 3, Option.none⟩) (by simp) (.int .i64 op)).apart (p := ⟨w.heap.size + 1 + 1, 4, Option.none⟩) (by simp) (.int .i64 n)).apart (p := ⟨w.heap.size + 1 + 1, 5, Option.none⟩) (by simp) (.slice A' k.len c')).put 0 (.int .i64 nm)).put 1 (.int .i64 ar)).put 2 (.bool old)).put 3 (.int .i64 op)).put 4 (.int .i64 n)).put 5 (.slice A' k.len c')
  refine bodyPost_ret (results_cell_row (P := Try.prog) rfl _ _ _ _ _ _ _ rfl q3 Try.underlying51 rfl (by kernel_rfl)) rfl ?_
  refine ⟨A', c', rfl, hc1, hc2, ?_, ((((((((hall2.set _ _).set _ _).set _ _).set _ _).set _ _).set _ _).set _ _).set _ _).set _ _ |>.mono_ (Nat.le_refl _) (by simp [World.setCell]), ?_⟩
  · refine ((((((((((hR.set (.inl ?_) _).set (.inl ?_) _).set (.inl ?_) _).set (.inl ?_) _).set (.inl ?_) _).set (.inl ?_) _).set (.inl ?_) _).set (.inl ?_) _).set (.inl ?_) _).mono_ hb1.size (by simp [World.setCell])) <;> (dsimp only; omega)
  · exact ((((((((((hb1.trans (hb.mono hb1.size)).setCell (by simp; omega) _).setCell (by simp; omega) _).setCell (by simp; omega) _).setCell (by simp) _).setCell (by simp) _).setCell (by simp) _).setCell (by simp) _).setCell (by simp) _).setCell (by simp) _)

def madeD (n : Nat) : Array Value := madeCells #[Value.int IntKind.i64 0, Value.int IntKind.i64 0, Value.bool false, Value.int IntKind.i64 0, Value.int IntKind.i64 0, Value.slice Option.none 0 0] (n * 6)
theorem madeD_run (n : Nat) (hn : n ≤ 1048576) (w : World) : (Instr.makeSlice 28 (.int .i64 (n : Int)) (.int .i64 (n : Int))).run Try.prog w = .ok (.slice (some ⟨w.heap.size, 0, Option.none⟩) n n) (w.alloc (.cells (madeD n) 51)) := by
  obtain ⟨i, hi, hz0, hz1, hz2⟩ := info_parts (show (Try.prog.info? 51).map (fun i => (i.zero, i.size, i.bytes)) = some (some (.agg #[.int .i64 0, .int .i64 0, .bool false, .int .i64 0, .int .i64 0, .slice none 0 0]), 6, 64) by kernel_rfl)
  have h := run_make (P := Try.prog) w 28 51 i _ Try.underlying28 hi hz0 .i64 .i64 (n : Int) (n : Int) (by omega) (by omega) (by rw [hz2]; omega) (by omega)
  rw [Int.toNat_natCast, hz1] at h
  exact h

set_option maxHeartbeats 800000 in
theorem toDefS_any (ds : List De) (A : Option Addr) (c : Nat) (w : World) (hl : LiesD w 0 w.heap.size A ds) (hsz : sizeD ds ≤ 1048576) :
    Calls Try.prog 7 #[.slice A ds.length c] w (ToPostD ds w) := by
  have hlen := sizeD_len ds
  have hmk := madeD_run ds.length (by omega)
  go_enter Try.func7, Try.ntmps7
  go_wp2
  clear hmk
  go_loopw [4] (fun i wr => ∃ (j : Nat) (cs : Array Value), j ≤ ds.length ∧ i = .int .i64 j ∧ Row wr w.heap.size 51 cs ∧ cs.size = ds.length * 6 ∧ (∀ i d, i < j → ds[i]? = some d → DAtC wr (w.heap.size + 1) wr.heap.size cs i d) ∧ AllRows wr w.heap.size wr.heap.size ∧ Below w.heap.size w wr)
    (fun i _ => ds.length - (intOf i).toNat)
  case atStart => exact ⟨0, _, by omega, rfl, Row.fresh _ _ _, size_madeCells _ _, fun i d h => absurd h (by omega), (AllRows.none w _).alloc _ _, (Below.refl _ _).alloc (Nat.le_refl _) _⟩
  case round =>
    obtain ⟨j, cs, hj, rfl, hrow, hcs, hlc, hal, hb⟩ := hrel
    by_cases hlt : j < ds.length
    · have e1 := List.getElem?_eq_getElem hlt
      generalize ds[j] = d at e1
      have e3 := sizeD_at e1
      obtain ⟨b, o, A', c', hA, _, hbb, hf, g1, g2, g3, g4, g5, g6, h7, h8, h9⟩ := hl.below hb j d e1
      subst hA
      have E1 := Lib.hid e1
      have HLC := Lib.hid hlc
      clear e1 hlc
      go_wp2_with fail
      refine (toDef_any d A' c' wr (h9.mono_ (Nat.le_refl _) hb.size) (by omega)).mono ?_
      rintro e w2 ⟨A2, c2, rfl, hc1, hc2, hR, hal2, hb2⟩
      have hal3 := Lib.hid ((hal.below hb2 (Nat.le_refl _)).join hal2)
      have hz := hrow.size
      have hrow2 := hrow.below hb2 hz
      have hb3 := hb.trans (hb2.mono hb.size)
      obtain ⟨v0, p0⟩ : ∃ v, cs[j * 6]? = some v := ⟨_, Array.getElem?_eq_getElem (by omega)⟩
      obtain ⟨v1, p1⟩ : ∃ v, cs[j * 6 + 1]? = some v := ⟨_, Array.getElem?_eq_getElem (by omega)⟩
      obtain ⟨v2, p2⟩ : ∃ v, cs[j * 6 + 2]? = some v := ⟨_, Array.getElem?_eq_getElem (by omega)⟩
      obtain ⟨v3, p3⟩ : ∃ v, cs[j * 6 + 3]? = some v := ⟨_, Array.getElem?_eq_getElem (by omega)⟩
      obtain ⟨v4, p4⟩ : ∃ v, cs[j * 6 + 4]? = some v := ⟨_, Array.getElem?_eq_getElem (by omega)⟩
      obtain ⟨v5, p5⟩ : ∃ v, cs[j * 6 + 5]? = some v := ⟨_, Array.getElem?_eq_getElem (by omega)⟩
      have q0 := hrow2.cell p0
      have q1 := hrow2.cell p1
      have q2 := hrow2.cell p2
      have q3 := hrow2.cell p3
      have q4 := hrow2.cell p4
      have q5 := hrow2.cell p5
      have f0 := hrow2.free (j * 6)
      have f1 := hrow2.free (j * 6 + 1)
      have f2 := hrow2.free (j * 6 + 2)
      have f3 := hrow2.free (j * 6 + 3)
      have f4 := hrow2.free (j * 6 + 4)
      have f5 := hrow2.free (j * 6 + 5)
      have H := Lib.hid (show cs.size = ds.length * 6 from hcs)
      have HR := Lib.hid (show Lies w2 wr.heap.size w2.heap.size A2 0 d.k from hR)
      clear p0 p1 p2 p3 p4 p5 g1 g2 g3 g4 g5 g6 hcs h9 hR
      go_wp2
      obtain ⟨cs', k1, k2, k3⟩ := DAtC.step hrow2 H.out hlt (fun i d' hi hd => (HLC.out i d' hi hd).keep (Nat.le_refl _) hb2.size (fun p _ hp => hb2.cell hp) (fun _ _ => rfl)) E1.out hf hc1 hc2 (HR.out.mono_ (by omega) (Nat.le_refl _))
      refine ⟨⟨j + 1, cs', by omega, by go_num, k1, k2, k3, put6_rows hal3.out, put6_below hb3 (Nat.le_refl _)⟩, by simp [intOf]; omega⟩
    · have e9 : ds.length = j := by omega
      go_wp2
      go_ret
      exact ⟨_, _, rfl, Nat.le_refl _, by unfold maxLen; omega, DAtC.lies hrow (Nat.lt_succ_self _) hrow.size (fun i d hd => hlc i d (by have := (List.getElem?_eq_some_iff.1 hd).1; omega) hd), hal, hb⟩
end Go.Proofs.Ythjfinhfpgifiaa

namespace Go.Proofs.Ythjfinhfpgifiaa
open Go.RowKit
set_option maxRecDepth 100000

set_option maxHeartbeats 800000 in
theorem eqDef_any (d : De) (A A2 : Option Addr) (c c2 : Nat) (w : World) (hl : Lies w 0 w.heap.size A 0 d.k) (hl2 : Lies w 0 w.heap.size A2 0 d.k) (hsz : d.k.size ≤ 1048576) :
    Calls Try.prog 25 #[.agg #[.int .i64 d.nm, .int .i64 d.ar, .bool d.old, .int .i64 d.op, .int .i64 d.n, .slice A d.k.len c], .agg #[.int .i64 d.nm, .int .i64 d.ar, .bool d.old, .int .i64 d.op, .int .i64 d.n, .slice A2 d.k.len c2]] w (Gives (.bool true) w) := by
  obtain ⟨nm, ar, old, op, n, k⟩ := d
  dsimp only at *
  have hb1 : Below w.heap.size w ((w.alloc (Obj.cells #[Value.int IntKind.i64 nm, Value.int IntKind.i64 ar, Value.bool old, Value.int IntKind.i64 op, Value.int IntKind.i64 n, Value.slice A k.len c] 51)).alloc (Obj.cells #[Value.int IntKind.i64 nm, Value.int IntKind.i64 ar, Value.bool old, Value.int IntKind.i64 op, Value.int IntKind.i64 n, Value.slice A2 k.len c2] 51)) :=
    ((Below.refl _ _).alloc (Nat.le_refl _) _).alloc (by simp) _
  go_enter Try.func25, Try.ntmps25
  go_wp2_with fail
  refine (eqExpr_any op n k A A2 c c2 _ (hl.up hb1) (hl2.up hb1) hsz).mono ?_
  rintro e w2 ⟨rfl, hb⟩
  have hb3 := hb1.trans (hb.mono hb1.size)
  clear hb hb1
  go_wp2
  go_ret
  exact ⟨rfl, hb3⟩

set_option maxHeartbeats 800000 in
theorem eqDefS_any (ds : List De) (A A2 : Option Addr) (c c2 : Nat) (w : World) (hl : LiesD w 0 w.heap.size A ds) (hl2 : LiesD w 0 w.heap.size A2 ds) (hsz : sizeD ds ≤ 1048576) :
    Calls Try.prog 11 #[.slice A ds.length c, .slice A2 ds.length c2] w (Gives (.bool true) w) := by
  have hlen := sizeD_len ds
  go_enter Try.func11, Try.ntmps11
  go_wp2
  go_loopw [5] (fun i wr => ∃ (j : Nat), j ≤ ds.length ∧ i = .int .i64 j ∧ Below w.heap.size w wr)
    (fun i _ => ds.length - (intOf i).toNat)
  case atStart => exact ⟨0, by omega, rfl, Below.refl _ _⟩
  case round =>
    obtain ⟨j, hj, rfl, hb⟩ := hrel
    by_cases hlt : j < ds.length
    · have e1 := List.getElem?_eq_getElem hlt
      generalize ds[j] = d at e1
      have e3 := sizeD_at e1
      obtain ⟨b, o, A', c', hA, _, hbb, hf, g1, g2, g3, g4, g5, g6, h7, h8, h9⟩ := hl.below hb j d e1
      obtain ⟨b', o', B', d', hA', _, hbb', _, g1', g2', g3', g4', g5', g6', h7', h8', h9'⟩ := hl2.below hb j d e1
      subst hA hA'
      clear e1
      go_wp2_with fail
      go_still_tail 8, (by kernel_rfl)
      change wpList _ _ _ _ _ wr.drew
      have hb' : Below w.heap.size w wr.drew := hb.drew
      go_wp2_with fail
      refine (eqDef_any d A' B' c' d' wr.drew ((h9.below (w' := wr.drew) (Below.refl _ _).drew).mono_ (Nat.le_refl _) hb'.size) ((h9'.below (w' := wr.drew) (Below.refl _ _).drew).mono_ (Nat.le_refl _) hb'.size) (by omega)).mono ?_
      rintro e w2 ⟨rfl, hb2⟩
      have hb3 := hb'.trans (hb2.mono hb'.size)
      clear g1 g2 g3 g4 g5 g6 g1' g2' g3' g4' g5' g6' hb hb' hb2
      go_wp2
      go_roundw
      case rel => exact ⟨j + 1, by omega, by go_num, hb3⟩
      case measure => simp [intOf]; omega
    · go_wp2
      go_ret
      exact ⟨rfl, hb⟩
end Go.Proofs.Ythjfinhfpgifiaa
