/-
  slices.Index and slices.Contains at lists of numbers.
  slices.Grow of nil and slices.Concat of three lists of numbers.
  spec.l16OwnExpr: a copy that shares no memory.
  replacement.reaches and replacement.captures.
  replacement.in, one level of it.
  impl.replaceVar and impl.withBound; replacement.in whole.
-/
import Derived.Test.YtjlaabipgppijaaFresh
import Derived.Lib.AppendZeros
import Derived.Lib.Walk
import Derived.Test.YtjlaabipgppijaaCopyI
import Derived.Test.YtjlaabipgppijaaTree
import Derived.Test.YtjlaabipgppijaaPutD
import Derived.Test.YtjlaabipgppijaaEndless
import Derived.Test.YtjlaabipgppijaaCntVar
import Derived.Test.YtjlaabipgppijaaFo
import Derived.Deep.RegionWith
import Derived.Test.YtjlaabipgppijaaImplAll
import Derived.Test.YtjlaabipgppijaaVars
namespace Go.Proofs.Ytjlaabipgppijaa
open Go.RowKit Go.Shelf
set_option maxRecDepth 100000

def IndexPost (zs : List Int) (n : Int) (w : World) (e : Ending) (w' : World) : Prop :=
  ∃ r : Int, e = .returned (.int .i64 r) ∧ (-1 ≤ r ∧ r ≤ 4194304) ∧ decide (0 ≤ r) = decide (n ∈ zs) ∧ Below w.heap.size w w'

set_option maxHeartbeats 1000000 in
theorem index_any (zs : List Int) (A : Option Addr) (c : Nat) (n : Int) (w : World) (hl : LiesI w 0 w.heap.size A zs) (hlen : zs.length ≤ 4194304) :
    Calls Try.prog 43 #[.slice A zs.length c, .int .i64 n] w (IndexPost zs n w) := by
  go_enter Try.func43, Try.ntmps43
  go_wp2_with fail
  go_loopw [8] (fun i wr => ∃ (j : Nat), j ≤ zs.length ∧ i = .int .i64 j ∧ decide (n ∈ zs.take j) = false ∧ Below w.heap.size w wr)
    (fun i _ => zs.length - (intOf i).toNat)
  case atStart => exact ⟨0, by omega, rfl, by simp, Below.refl _ _⟩
  case round =>
    obtain ⟨j, hj, rfl, hno, hb⟩ := hrel
    by_cases hlt : j < zs.length
    · have e1 := List.getElem?_eq_getElem hlt
      generalize zs[j] = x at e1
      obtain ⟨b, o, hA, _, hbb, ix, g1⟩ := (hl.below hb) j x e1
      have hk := has_take e1 n
      rw [hno, Bool.false_or] at hk
      have hm : x ∈ zs := List.mem_of_getElem? e1
      subst hA
      by_cases hx : n = x
      · have HY := Lib.hid (show decide (n ∈ zs) = true by rw [hx]; simpa using hm)
        have HJ := Lib.hid (show (j : Int) ≤ 4194304 by omega)
        clear hk hm hno e1
        go_wp2_with fail
        go_ret
        exact ⟨(j : Int), rfl, ⟨by omega, HJ.out⟩, by rw [HY.out]; simp, hb⟩
      · have HN := Lib.hid (show decide (n ∈ zs.take (j + 1)) = false by rw [hk]; simpa using fun h => hx h.symm)
        clear hk hm hno e1
        go_wp2_with fail
        go_roundw
        case rel => exact ⟨j + 1, hlt, by go_num, HN.out, hb⟩
        case measure => simp [intOf]; omega
    · have e9 : j = zs.length := by omega
      subst e9
      rw [List.take_length] at hno
      have HN := Lib.hid hno
      clear hno
      go_wp2_with fail
      go_ret
      exact ⟨-1, rfl, ⟨by omega, by omega⟩, by rw [HN.out]; rfl, hb⟩

set_option maxHeartbeats 1000000 in
theorem contains_any (zs : List Int) (A : Option Addr) (c : Nat) (n : Int) (w : World) (hl : LiesI w 0 w.heap.size A zs) (hlen : zs.length ≤ 4194304) :
    Calls Try.prog 25 #[.slice A zs.length c, .int .i64 n] w (Gives (.bool (decide (n ∈ zs))) w) := by
  have HC := Lib.hid (index_any zs A c n w hl hlen)
  clear hl
  go_enter Try.func25, Try.ntmps25
  go_wp2_with fail
  refine HC.out.mono ?_
  rintro e w1 ⟨r, rfl, hr, hd, hb⟩
  have HD := Lib.hid hd
  have HB := Lib.hid hb
  clear HC hd hb
  go_wp2_with fail
  go_ret
  exact ⟨ret_bool (by rw [← HD.out]), HB.out⟩
end Go.Proofs.Ytjlaabipgppijaa

namespace Go.Proofs.Ytjlaabipgppijaa
open Go.RowKit Go.Shelf
set_option maxRecDepth 100000

/-- Grow makes room in a new row. -/
def GrowPost (w : World) (e : Ending) (w' : World) : Prop := ∃ v, e = .returned v ∧ w'.ownsRow w.heap.size 3 1 v 0 [] ∧ Below w.heap.size w w'

theorem zeroCells_size (n : Nat) : (Builtin.zeroCells #[Value.int .i64 0] n).size = n := by
  simp [Builtin.zeroCells]

set_option maxHeartbeats 1000000 in
theorem grow_any (n : Nat) (w : World) (hn0 : 0 < n) (hn : n ≤ 1048576) :
    Calls Try.prog 72 #[.slice none 0 0, .int .i64 (n : Int)] w (GrowPost w) := by
  obtain ⟨iT, hiT, hiz0, hiz1, hiz2⟩ := info_parts (show (Try.prog.info? 3).map (fun i => (i.zero, i.size, i.bytes)) = some (some (.int .i64 0), 1, 8) by kernel_rfl)
  have hrz := fun ty => Lib.run_append_nil_zeros (P := Try.prog) w 32 3 ty 3 iT (.int .i64 0) .i64 .i64 Try.underlying32 Try.underlying3 hiT hiz0 n hn0 (by rw [hiz1]; decide) (by omega) (by rw [hiz2]; omega)
  have hGn := grownCap_ge w n 0 3
  have hG63 := grownCap_le_maxLen w n 0 3 (by unfold maxLen; omega)
  generalize grownCap w n 0 3 = G at hrz hGn hG63
  have HG := Lib.hid hG63
  have HN := Lib.hid hGn
  unfold maxLen at hG63
  have h0 : (Value.int IntKind.i64 0).cells = #[Value.int IntKind.i64 0] := rfl
  rw [h0] at hrz
  have HRZ := Lib.hid hrz
  have h1 : ¬ ((n : Int) < 0) := by omega
  have h2 : wrap64 (n : Int) = (n : Int) := by unfold wrap64; omega
  have h4 : (n : Int) > 0 := by omega
  clear hrz hiT hiz0 hiz1 hiz2
  go_enter Try.func72, Try.ntmps72
  go_wp2_with (at_builtin; refine Lib.wpList_append_run _ rfl _ _ _ _ rfl _ _ rfl rfl _ _ (HRZ.out _) ?_)
  all_goals
    go_ret
    refine ⟨_, rfl, ⟨rfl, .inr ⟨w.heap.size, G, _, rfl, Nat.le_refl _, heap_alloc_new _ _, Nat.zero_le _, HG.out, ?_, by simp⟩⟩, ((Below.refl _ _).drew).alloc (Nat.le_refl _) _⟩
    have := HN.out
    simp only [Array.size_append, zeroCells_size]
    omega

def sum3 (a b c : Nat) : Nat → Nat
  | 0 => 0
  | 1 => a
  | 2 => a + b
  | _ => a + b + c
def cat3 (a b c : List Int) : Nat → List Int
  | 0 => []
  | 1 => a
  | 2 => a ++ b
  | _ => a ++ b ++ c
theorem cat3_len (a b c : List Int) (j : Nat) : (cat3 a b c j).length = sum3 a.length b.length c.length j := by
  unfold cat3 sum3
  split <;> simp <;> omega
def nth3 {α : Type} (a b c : α) : Nat → α
  | 0 => a
  | 1 => b
  | _ => c
theorem cat3_step (a b c : List Int) {j : Nat} (h : j < 3) : cat3 a b c (j + 1) = cat3 a b c j ++ nth3 a b c j := by
  have : j = 0 ∨ j = 1 ∨ j = 2 := by omega
  rcases this with rfl | rfl | rfl <;> simp [cat3, nth3]
theorem sum3_le (a b c : Nat) {j : Nat} : sum3 a b c j ≤ a + b + c := by
  unfold sum3
  split <;> omega

set_option maxHeartbeats 1000000 in
theorem concat_any (z1 z2 z3 : List Int) (A1 A2 A3 : Option Addr) (c1 c2 c3 g : Nat) (w : World) (hr : Row w g 32 #[.slice A1 z1.length c1, .slice A2 z2.length c2, .slice A3 z3.length c3])
    (h1 : LiesI w 0 w.heap.size A1 z1) (h2 : LiesI w 0 w.heap.size A2 z2) (h3 : LiesI w 0 w.heap.size A3 z3) (h0 : 0 < z1.length + z2.length + z3.length) (hmx : z1.length + z2.length + z3.length ≤ 1048576) :
    Calls Try.prog 66 #[.slice (some ⟨g, 0, none⟩) 3 3] w (ListPost (z1 ++ z2 ++ z3) w) := by
  have HR := Lib.hid hr
  have hL0 : ∀ j, j < 3 → ∃ A c, (#[Value.slice A1 z1.length c1, .slice A2 z2.length c2, .slice A3 z3.length c3])[j]? = some (.slice A (nth3 z1 z2 z3 j).length c) ∧ LiesI w 0 w.heap.size A (nth3 z1 z2 z3 j) := by
    intro j hj
    have : j = 0 ∨ j = 1 ∨ j = 2 := by omega
    rcases this with rfl | rfl | rfl
    · exact ⟨A1, c1, rfl, h1⟩
    · exact ⟨A2, c2, rfl, h2⟩
    · exact ⟨A3, c3, rfl, h3⟩
  have HL := Lib.hid hL0
  clear h1 h2 h3 hL0
  go_enter Try.func66, Try.ntmps66
  go_wp2_with fail
  go_loopw [3, 11] (fun s i wr => ∃ (j : Nat), j ≤ 3 ∧ i = .int .i64 j ∧ s = .int .i64 (((cat3 z1 z2 z3 j).length : Nat) : Int) ∧ Below w.heap.size w wr)
    (fun _ i _ => 3 - (intOf i).toNat)
  case atStart => exact ⟨0, by omega, rfl, rfl, Below.refl _ _⟩
  case round =>
    obtain ⟨j, hj, rfl, rfl, hb⟩ := hrel
    by_cases hlt : j < 3
    · obtain ⟨A, c, hcc, hli⟩ := HL.out j hlt
      have hst := cat3_step z1 z2 z3 hlt
      have hle := sum3_le z1.length z2.length z3.length (j := j + 1)
      rw [← cat3_len, hst, List.length_append] at hle
      have hcell := (HR.out.below hb HR.out.size).cell hcc
      have HST := Lib.hid hst
      have HB := Lib.hid hb
      clear hst hb hcc hli
      generalize hs1 : (cat3 z1 z2 z3 j).length = s1 at hle
      generalize hs2 : (nth3 z1 z2 z3 j).length = s2 at hle hcell
      have HE1 := Lib.hid hs1
      have HE2 := Lib.hid hs2
      clear hs1 hs2
      have hs3 : s1 + s2 ≤ 1048576 := by omega
      have hw3 : wrap64 ((s1 : Int) + (s2 : Int)) = ((s1 + s2 : Nat) : Int) := by unfold wrap64; omega
      have hw4 : ¬ (((s1 + s2 : Nat) : Int) < 0) := by omega
      go_wp2_with fail
      go_roundw
      case rel => exact ⟨j + 1, hlt, by go_num, by rw [HST.out, List.length_append, HE1.out, HE2.out, Int.natCast_add], HB.out⟩
      case measure => simp [intOf]; omega
    · have e9 : j = 3 := by omega
      subst e9
      have HB := Lib.hid hb
      have hlen : (cat3 z1 z2 z3 3).length = z1.length + z2.length + z3.length := by rw [cat3_len]; rfl
      generalize hs1 : (cat3 z1 z2 z3 3).length = s1 at hlen
      have hs2 : 0 < s1 := by omega
      have hs3 : s1 ≤ 1048576 := by omega
      have HE1 := Lib.hid hs1
      have HLEN := Lib.hid hlen
      clear hb hs1 hlen h0 hmx
      go_wp2_with fail
      refine (grow_any s1 wr hs2 hs3).mono ?_
      rintro e w2 ⟨v, rfl, ho, hb2⟩
      have HO := Lib.hid (own_less ho HB.out.size)
      have HB2 := Lib.hid (HB.out.trans (hb2.mono HB.out.size))
      clear ho hb2
      go_wp2_with fail
      go_loopw [6, 27] (fun s i wr => ∃ (j : Nat), j ≤ 3 ∧ i = .int .i64 j ∧ wr.ownsRow w.heap.size 3 1 s (cat3 z1 z2 z3 j).length ((cat3 z1 z2 z3 j).map (Value.int .i64)) ∧ Below w.heap.size w wr)
        (fun _ i _ => 3 - (intOf i).toNat)
      case atStart => exact ⟨0, by omega, rfl, HO.out, HB2.out⟩
      case round =>
        clear HO HB2 HB
        obtain ⟨j, hj, rfl, ho, hb⟩ := hrel
        by_cases hlt : j < 3
        · obtain ⟨A, c, hcc, hli⟩ := HL.out j hlt
          have hst := cat3_step z1 z2 z3 hlt
          have hle := sum3_le z1.length z2.length z3.length (j := j + 1)
          rw [← cat3_len, hst, List.length_append] at hle
          have hcell := (HR.out.below hb HR.out.size).cell hcc
          have HST := Lib.hid hst
          obtain ⟨v2, w2, hrun, ho2, hg2, _⟩ := run_append_lies (c := c) ho (hli.below hb) (by have hle2 := HLEN.out; omega) hb.size
          have HRUN := Lib.hid hrun
          have HO2 := Lib.hid ho2
          have HB2 := Lib.hid (Below.grown hb hg2 hb.size (fun g' hg' => (ho.lt g' hg').1))
          clear hst hb hcc hli hrun ho ho2 hg2 hle hs2 hs3
          go_wp2_with (at_builtin; refine Lib.wpList_append_run _ rfl _ _ _ _ rfl _ _ rfl rfl _ _ HRUN.out ?_)
          go_roundw
          case rel =>
            refine ⟨j + 1, hlt, by go_num, ?_, HB2.out⟩
            rw [HST.out, List.length_append, List.map_append]
            exact HO2.out
          case measure => simp [intOf]; omega
        · have e9 : j = 3 := by omega
          subst e9
          have HO := Lib.hid ho
          have HB := Lib.hid hb
          clear ho hb
          go_wp2_with fail
          go_ret
          exact ⟨_, rfl, HO.out, HB.out⟩
end Go.Proofs.Ytjlaabipgppijaa

namespace Go.Proofs.Ytjlaabipgppijaa
open Go.RowKit Go.Shelf
set_option maxRecDepth 100000

/-- A tree stays where a block below it is written. -/
theorem Tree.put {w : World} {base : Nat} {v : Value} {f : Fo} {bs : List Nat} (h : Tree w base v f bs) {p : Addr} (hp : p.block < base) (u : Value) : Tree (w.setCell p u) base v f bs :=
  h.keep fun q hq => Below.heap_setCell w p u q (by have := (h.lt q hq).1; omega)

end Go.Proofs.Ytjlaabipgppijaa

namespace Go.Proofs.Ytjlaabipgppijaa
open Go.RowKit Go.Shelf
set_option maxRecDepth 100000

theorem small_size {k : Fo} (h : smallOk k 14 80 = true) : k.size ≤ 80 := by
  unfold smallOk at h
  simp only [Bool.and_eq_true, decide_eq_true_iff] at h
  omega
theorem bne_nat (m : Nat) : ((m : Int) != 0) = !decide (m = 0) := by
  by_cases h : m = 0
  · simp [h]
  · have : ¬ ((m : Int) = 0) := by omega
    simp [h]
/-- A replacement as a value. -/
def repV (v : Int) (x : Nd) (X F : Option Addr) (cx lf cf : Nat) : Value := .agg #[.int .i64 v, .int .i64 x.op, .int .i64 x.n, .slice X x.k.len cx, .slice F lf cf]

set_option maxHeartbeats 1000000 in
theorem reaches_any (v : Int) (x : Nd) (X F : Option Addr) (cx lf cf : Nat) (n : Int) (a b : Nd) (A : Option Addr) (c : Nat) (w : World) (hl : Lies w 0 w.heap.size A 0 (pair a b)) (hs : smallOk b.k 14 80 = true) :
    Calls Try.prog 67 #[.agg #[.int .i64 v, .int .i64 x.op, .int .i64 x.n, .slice X x.k.len cx, .slice F lf cf], .agg #[.int .i64 7, .int .i64 n, .slice A 2 c]] w (Gives (.bool (reach ⟨7, n, pair a b⟩ v)) w) := by
  obtain ⟨hb, r1, r2⟩ := two_boxes w 79 25 #[Value.int IntKind.i64 v, Value.int IntKind.i64 x.op, Value.int IntKind.i64 x.n, Value.slice X x.k.len cx, Value.slice F lf cf] #[Value.int IntKind.i64 7, Value.int IntKind.i64 n, Value.slice A 2 c]
  obtain ⟨W, hW⟩ : ∃ W, W = (w.alloc (Obj.cells #[Value.int IntKind.i64 v, Value.int IntKind.i64 x.op, Value.int IntKind.i64 x.n, Value.slice X x.k.len cx, Value.slice F lf cf] 79)).alloc (Obj.cells #[Value.int IntKind.i64 7, Value.int IntKind.i64 n, Value.slice A 2 c] 25) := ⟨_, rfl⟩
  rw [← hW] at hb r1 r2
  have HB := Lib.hid hb.drew
  have q0 : W.drew.cell? ⟨w.heap.size, 0, none⟩ = some (.int .i64 v) := r1.drew.cell (i := 0) rfl
  have p1 : W.drew.cell? ⟨w.heap.size + 1, 1, none⟩ = some (.int .i64 n) := r2.drew.cell (i := 1) rfl
  have p2 : W.drew.cell? ⟨w.heap.size + 1, 2, none⟩ = some (.slice A 2 c) := r2.drew.cell (i := 2) rfl
  by_cases hn : n = v
  · have HG : reach ⟨7, n, pair a b⟩ v = false := by unfold reach; simp [hn]
    have HB0 := Lib.hid hb
    rw [HG]
    subst hn
    clear q0 p1 p2 HB hl HG
    have q0 : W.cell? ⟨w.heap.size, 0, none⟩ = some (.int .i64 n) := r1.cell (i := 0) rfl
    have p1 : W.cell? ⟨w.heap.size + 1, 1, none⟩ = some (.int .i64 n) := r2.cell (i := 1) rfl
    clear r1 r2
    go_enter Try.func67, Try.ntmps67
    go_wp2_with fail
    rw [← hW]
    clear hW hb
    go_quiet (fail)
    have HB1 := Lib.hid (below_drewN HB0.out nq)
    clear q0 p1
    go_wp2
    go_ret
    exact ⟨rfl, HB1.out⟩
  · have HG := Lib.hid (show reach ⟨7, n, pair a b⟩ v = !decide (cntP v b = 0) by unfold reach; simp [hn, pair, kid2, kid1]; rfl)
    obtain ⟨⟨b0, o0, A0, c0, hA, _, hbb, j1, j2, g1, g2, g3, h1, h2, h3⟩, ⟨b1, o1, A1, c1, hA1, _, hbb1, j3, j4, g4, g5, g6, h4, h5, h6⟩, _⟩ := hl.up hb.drew
    subst hA
    injection hA1 with hA1
    injection hA1 with e1 e2
    subst e1 e2
    have HC := Lib.hid (implCount_r b.op b.n v b.k A1 c1 0 W.drew.heap.size W.drew h6 (Nat.le_refl _) (RowsIf.small hs) h4 h5 (Nat.le_trans (small_size hs) (by decide)))
    have g7 : W.drew.cell? ⟨b0, o0 + 3, none⟩ = some (.int .i64 b.op) := g4
    have g8 : W.drew.cell? ⟨b0, o0 + 4, none⟩ = some (.int .i64 b.n) := g5
    have g9 : W.drew.cell? ⟨b0, o0 + 5, none⟩ = some (.slice A1 b.k.len c1) := g6
    have hn2 : (n != v) = true := by simpa using hn
    clear r1 r2 hl hn g4 g5 g6 g1 g2 g3 h1 h2 h3 j1 j2 h6 h4 h5 j3 j4
    go_enter Try.func67, Try.ntmps67
    go_wp2_with fail
    rw [← hW]
    clear hW hb
    first
      | (go_region_with (first
          | (go_at_call 16
             refine HC.out.mono ?_
             rintro e w1 ⟨rfl, hb1⟩
             have HB1 := Lib.hid (HB.out.trans (hb1.mono HB.out.size))
             clear hb1)))
      | fail
    all_goals
      go_wp2
      go_ret
      exact ⟨ret_bool (by rw [HG.out]; exact bne_nat _), HB1.out⟩

set_option maxHeartbeats 1000000 in
theorem captures_any (v : Int) (x : Nd) (X F : Option Addr) (cx cf : Nat) (n : Int) (a b : Nd) (A : Option Addr) (c : Nat) (w : World) (hl : Lies w 0 w.heap.size A 0 (pair a b)) (hs : smallOk b.k 14 80 = true) (hf : LiesI w 0 w.heap.size F (freeP x)) :
    Calls Try.prog 64 #[.agg #[.int .i64 v, .int .i64 x.op, .int .i64 x.n, .slice X x.k.len cx, .slice F (freeP x).length cf], .agg #[.int .i64 7, .int .i64 n, .slice A 2 c]] w (Gives (.bool (capt ⟨7, n, pair a b⟩ v x)) w) := by
  obtain ⟨hb, r1, r2⟩ := two_boxes w 79 25 #[Value.int IntKind.i64 v, Value.int IntKind.i64 x.op, Value.int IntKind.i64 x.n, Value.slice X x.k.len cx, Value.slice F (freeP x).length cf] #[Value.int IntKind.i64 7, Value.int IntKind.i64 n, Value.slice A 2 c]
  have hlen : (freeP x).length ≤ 4194304 := Nat.le_trans (freeUpto_len _ _ _ 8) (by decide)
  have HF := Lib.hid (hf.up hb)
  have HB := Lib.hid hb
  have HC := Lib.hid (reaches_any v x X F cx (freeP x).length cf n a b A c _ (hl.up hb) hs)
  have HR1 := Lib.hid r1
  have HR2 := Lib.hid r2
  have HG := Lib.hid (show capt ⟨7, n, pair a b⟩ v x = (reach ⟨7, n, pair a b⟩ v && decide (n ∈ freeP x)) from rfl)
  generalize capt ⟨7, n, pair a b⟩ v x = z at HG
  have HN := Lib.hid hlen
  clear hb r1 r2 hl hf hlen
  cases hr : reach ⟨7, n, pair a b⟩ v with
  | false =>
    rw [hr] at HC HG
    clear hr
    go_enter Try.func64, Try.ntmps64
    go_wp2_with fail
    refine HC.out.mono ?_
    rintro e w1 ⟨rfl, hb1⟩
    have HB1 := Lib.hid (HB.out.trans (hb1.mono HB.out.size))
    clear hb1
    go_wp2_with fail
    go_ret
    exact ⟨ret_bool HG.out.symm, HB1.out⟩
  | true =>
    rw [hr] at HC HG
    clear hr
    go_enter Try.func64, Try.ntmps64
    go_wp2_with fail
    refine HC.out.mono ?_
    rintro e w1 ⟨rfl, hb1⟩
    have HB1 := Lib.hid (HB.out.trans (hb1.mono HB.out.size))
    have HF1 := Lib.hid (HF.out.up hb1)
    have q0 := (HR1.out.below hb1 HR1.out.size).cell (i := 4) rfl
    have q1 := (HR2.out.below hb1 HR2.out.size).cell (i := 1) rfl
    clear hb1
    go_wp2_with fail
    refine (contains_any _ F cf n w1 HF1.out HN.out).mono ?_
    rintro e w2 ⟨rfl, hb2⟩
    have HB2 := Lib.hid (HB1.out.trans (hb2.mono HB1.out.size))
    clear hb2 q0 q1
    go_wp2_with fail
    go_ret
    exact ⟨ret_bool (by rw [HG.out]; simp), HB2.out⟩
end Go.Proofs.Ytjlaabipgppijaa

namespace Go.Proofs.Ytjlaabipgppijaa
open Go.RowKit Go.Shelf
set_option maxRecDepth 100000

def PutPost (r : Option Nd) (w : World) (e : Ending) (w' : World) : Prop :=
  match r with
  | some y => ∃ A c bs, e = .returned (.tuple #[.agg #[.int .i64 y.op, .int .i64 y.n, .slice A y.k.len c], .bool true]) ∧ Tree w' w.heap.size (.slice A y.k.len c) y.k bs ∧ Below w.heap.size w w'
  | none => ∃ (o m : Int) (A : Option Addr) (l c : Nat), e = .returned (.tuple #[.agg #[.int .i64 o, .int .i64 m, .slice A l c], .bool false]) ∧ Below w.heap.size w w'

/-- What a replacement is asked to be given. -/
structure PutOk (f : Nat) (p : Nd) (A : Option Addr) (x : Nd) (X F : Option Addr) (v : Int) (w : World) : Prop where
  lp : Lies w 0 w.heap.size A 0 p.k
  lx : Lies w 0 w.heap.size X 0 x.k
  lf : LiesI w 0 w.heap.size F (freeP x)
  size : p.k.size < f
  small : smallOk p.k 14 80 = true
  fit : FitN p
  ip : I64 p.op ∧ I64 p.n
  xs : smallOk x.k 14 80 = true
  ix : I64 x.op ∧ I64 x.n
  iv : I64 v
def InC (f : Nat) : Prop := ∀ (p : Nd) (v : Int) (x : Nd) (A X F : Option Addr) (c cx cf : Nat) (w : World), PutOk f p A x X F v w →
  Calls Try.prog 56 #[.agg #[.int .i64 v, .int .i64 x.op, .int .i64 x.n, .slice X x.k.len cx, .slice F (freeP x).length cf], .agg #[.int .i64 p.op, .int .i64 p.n, .slice A p.k.len c]] w (PutPost (putN f p v x) w)
/-- withBound gives the let with another name. -/
def BoundC (f : Nat) : Prop := ∀ (n : Int) (a b q : Nd) (u : Nat) (A : Option Addr) (c : Nat) (w : World), Lies w 0 w.heap.size A 0 (pair a b) → u < 8 → putN f b n ⟨2, (u : Int), .nil⟩ = some q → b.k.size < f → smallOk b.k 14 80 = true → smallOk a.k 14 80 = true → FitN b → I64 n →
  Calls Try.prog 27 #[.agg #[.int .i64 7, .int .i64 n, .slice A 2 c], .int .i64 (u : Int)] w (Makes 7 (u : Int) (pair a q) w)

theorem small_kids {o m : Int} {k r : Fo} (h : smallOk (.cons o m k r) 14 80 = true) : smallOk k 14 80 = true ∧ smallOk r 14 80 = true := by
  unfold smallOk at h ⊢
  simp only [Bool.and_eq_true, decide_eq_true_iff] at h ⊢
  obtain ⟨h1, h2⟩ := h
  have h3 : k.dep + 1 ≤ 13 := Nat.le_trans (Nat.le_max_left _ _) (Nat.le_of_succ_le_succ h1)
  have h4 : r.dep ≤ 13 := Nat.le_trans (Nat.le_max_right _ _) (Nat.le_of_succ_le_succ h1)
  have h5 : k.size + r.size + 1 + 1 ≤ 80 := h2
  omega
theorem fit_at : ∀ {k : Fo} (_ : FitF k) (j : Nat) {o m : Int} {k1 r : Fo}, k.drop j = .cons o m k1 r → FitN ⟨o, m, k1⟩ ∧ FitF r
  | .nil, _, j, _, _, _, _, e => by rw [Fo.drop_nil] at e; cases e
  | .cons _ _ _ _, h, 0, _, _, _, _, e => by rw [Fo.drop_zero] at e; cases e; exact fitP_cons.1 h
  | .cons _ _ _ r, h, j + 1, _, _, _, _, e => fit_at (fitP_cons.1 h).2 j e
theorem small_at : ∀ {k : Fo} (_ : smallOk k 14 80 = true) (j : Nat) {o m : Int} {k1 r : Fo}, k.drop j = .cons o m k1 r → smallOk k1 14 80 = true
  | .nil, _, j, _, _, _, _, e => by rw [Fo.drop_nil] at e; cases e
  | .cons _ _ _ _, h, 0, _, _, _, _, e => by rw [Fo.drop_zero] at e; cases e; exact (small_kids h).1
  | .cons _ _ _ r, h, j + 1, _, _, _, _, e => small_at (small_kids h).2 j e
theorem new_small {x b : Nd} {v : Int} (hv : I64 v) : ∀ y ∈ freeP x ++ varsP b ++ [v], I64 y := by
  intro y hy
  rcases List.mem_append.1 hy with hy | hy
  · rcases List.mem_append.1 hy with hy | hy
    · exact freeUpto_small _ _ _ 8 y (by decide) hy
    · exact numsUpto_small _ 8 y (by decide) hy
  · rw [List.mem_singleton.1 hy]; exact hv
theorem small_pair {oa ma ob mb : Int} {ka kb : Fo} {n : Int} {u : Nat} {q : Nd} (h : smallOk (.cons oa ma ka (.cons ob mb kb .nil)) 14 80 = true) (hr : RenP n u ⟨ob, mb, kb⟩ q) : smallOk (pair ⟨oa, ma, ka⟩ q) 14 80 = true := by
  have e1 := hr.size
  have e2 := hr.dep
  dsimp only at e1 e2
  unfold smallOk at h ⊢
  simp only [pair, Fo.dep, Fo.size, e1, e2] at h ⊢
  exact h
theorem fit_pair {a q : Nd} {u : Nat} (ha : FitN a) (hq : FitN q) (hu : u < 8) : FitN ⟨7, u, pair a q⟩ := by
  have hin : inVar (u : Int) = true := by unfold inVar; simp; omega
  refine ⟨⟨by simp [nameOk, hin, pair, Fo.len], by simp [letOk, pair, Fo.len]⟩, ?_⟩
  show FitF (pair a q)
  unfold pair
  rw [fitP_cons, fitP_cons]
  exact ⟨ha, hq, FitF.nil⟩
/-- A let that was renamed is gone into. -/
theorem capt_stays {R : Option Nd} {f : Nat} {v n : Int} {u : Nat} {x q : Nd} {oa ma ob mb : Int} {ka kb : Fo} (hR : R = (match kidsP (fun y => putN f y v x) false 0 (pair ⟨oa, ma, ka⟩ q) with | none => none | some t => some ⟨7, (u : Int), t⟩))
    (hc : capt ⟨7, n, .cons oa ma ka (.cons ob mb kb .nil)⟩ v x = true) (hr : RenP n u ⟨ob, mb, kb⟩ q) (huv : (u : Int) ≠ v) :
    R = (match kidsP (fun y => putN f y v x) (stays ⟨7, (u : Int), pair ⟨oa, ma, ka⟩ q⟩ v) 0 (pair ⟨oa, ma, ka⟩ q) with | none => none | some t => some ⟨7, (u : Int), t⟩) := by
  have hs : stays ⟨7, (u : Int), pair ⟨oa, ma, ka⟩ q⟩ v = false := by
    unfold capt reach at hc
    simp only [Bool.and_eq_true, Bool.not_eq_true', decide_eq_false_iff_not, decide_eq_true_iff] at hc
    obtain ⟨⟨h1, h2⟩, _⟩ := hc
    have h3 := hr.cnt v (fun e => h1 e.symm) huv.symm
    unfold stays reach
    have h4 : ¬ cntP v (kid2 (pair ⟨oa, ma, ka⟩ q)) = 0 := by
      show ¬ cntP v q = 0
      rw [h3]
      exact h2
    simp [h4, huv]
  rw [hs]
  exact hR
theorem three_boxes (w : World) (t1 t2 t3 : TypeId) (c1 c2 c3 : Array Value) : Below w.heap.size w (((w.alloc (.cells c1 t1)).alloc (.cells c2 t2)).alloc (.cells c3 t3)) ∧ Row (((w.alloc (.cells c1 t1)).alloc (.cells c2 t2)).alloc (.cells c3 t3)) w.heap.size t1 c1 ∧
    Row (((w.alloc (.cells c1 t1)).alloc (.cells c2 t2)).alloc (.cells c3 t3)) (w.heap.size + 1) t2 c2 ∧ Row (((w.alloc (.cells c1 t1)).alloc (.cells c2 t2)).alloc (.cells c3 t3)) (w.heap.size + 1 + 1) t3 c3 := by
  obtain ⟨hb, r1, r2⟩ := two_boxes w t1 t2 c1 c2
  have r3 := Row.fresh ((w.alloc (.cells c1 t1)).alloc (.cells c2 t2)) t3 c3
  have e : ((w.alloc (.cells c1 t1)).alloc (.cells c2 t2)).heap.size = w.heap.size + 1 + 1 := by simp
  rw [e] at r3
  exact ⟨hb.alloc hb.size _, r1.alloc _, r2.alloc _, r3⟩

/-- The state at the head of the loop. -/
def Head (f : Nat) (r : Option Nd) (v : Int) (x : Nd) (X F : Option Addr) (cx cf : Nat) (w wc : World) : Prop :=
  ∃ (q : Nd) (A' : Option Addr) (c' : Nat), r = (match kidsP (fun y => putN f y v x) (stays q v) 0 q.k with | none => none | some t => some ⟨q.op, q.n, t⟩) ∧
    Row wc (w.heap.size + 1) 25 #[.int .i64 q.op, .int .i64 q.n, .slice A' q.k.len c'] ∧ Lies wc 0 wc.heap.size A' 0 q.k ∧ q.k.size < f + 1 ∧ smallOk q.k 14 80 = true ∧ FitN q ∧ (I64 q.op ∧ I64 q.n) ∧
    Row wc w.heap.size 79 #[.int .i64 v, .int .i64 x.op, .int .i64 x.n, .slice X x.k.len cx, .slice F (freeP x).length cf] ∧ Row wc (w.heap.size + 1 + 1) 25 #[.int .i64 0, .int .i64 0, .slice none 0 0] ∧ Below w.heap.size w wc

set_option maxHeartbeats 4000000 in
theorem in_step (f : Nat) (ih : InC f) (hbound : BoundC f) : InC (f + 1) := by
  rintro ⟨op, n, k⟩ v x A X F c cx cf w ⟨lp, lx, lf, hsize, hsmall, hfit, hip, hxs, hix, hiv⟩
  dsimp only at lp hsize hsmall hip ⊢
  obtain ⟨hb, r1, r2, r3⟩ := three_boxes w 79 25 25 #[Value.int IntKind.i64 v, Value.int IntKind.i64 x.op, Value.int IntKind.i64 x.n, Value.slice X x.k.len cx, Value.slice F (freeP x).length cf] #[Value.int IntKind.i64 op, Value.int IntKind.i64 n, Value.slice A k.len c] #[.int .i64 0, .int .i64 0, .slice none 0 0]
  obtain ⟨W, hW⟩ : ∃ W, W = ((w.alloc (Obj.cells #[Value.int IntKind.i64 v, Value.int IntKind.i64 x.op, Value.int IntKind.i64 x.n, Value.slice X x.k.len cx, Value.slice F (freeP x).length cf] 79)).alloc (Obj.cells #[Value.int IntKind.i64 op, Value.int IntKind.i64 n, Value.slice A k.len c] 25)).alloc (Obj.cells #[.int .i64 0, .int .i64 0, .slice none 0 0] 25) := ⟨_, rfl⟩
  rw [← hW] at hb r1 r2 r3
  have HB := Lib.hid hb
  have HR1 := Lib.hid r1
  have HR2 := Lib.hid r2
  have HR3 := Lib.hid r3
  have HLP := Lib.hid (lp.up hb)
  have HLX := Lib.hid (lx.up hb)
  have HLF := Lib.hid (lf.up hb)
  have HX0 := Lib.hid lx
  have HF0 := Lib.hid lf
  have HIP := Lib.hid hip
  have HIX := Lib.hid hix
  have HIV := Lib.hid hiv
  have HFIT := Lib.hid hfit
  have HSM := Lib.hid hsmall
  have HXS := Lib.hid hxs
  have HSZ := Lib.hid hsize
  have IH := Lib.hid ih
  have HBD := Lib.hid hbound
  clear hb r1 r2 r3 lp lx lf hip hix hiv hfit hsmall hxs hsize ih hbound
  obtain ⟨R, hR⟩ : ∃ R, R = putN (f + 1) ⟨op, n, k⟩ v x := ⟨_, rfl⟩
  have HRR := Lib.hid hR
  rw [← hR]
  clear hR
  go_enter Try.func56, Try.ntmps56
  go_upto_region 1 with fail
  rw [← hW]
  clear hW
  go_cut [22] from 13 to 22 (fun s wc => s = .bool (decide (op = 2) && decide (n = v)) ∧ wc = W)
  case first =>
    have q0 := HR2.out.cell (i := 0) rfl
    have q1 := HR2.out.cell (i := 1) rfl
    have q2 := HR1.out.cell (i := 0) rfl
    by_cases h2 : op = 2
    · subst h2
      go_wp2_with fail
      go_meet
      exact ⟨by simp; rfl, rfl⟩
    · have b2 : (op == 2) = false := by simpa using h2
      go_wp2_with fail
      go_meet
      exact ⟨by simp [h2], rfl⟩
  case rest =>
    obtain ⟨rfl, hwc⟩ := hcut
    rw [hwc]
    clear hwc
    by_cases hA : op = 2 ∧ n = v
    · have HR0 := Lib.hid (show R = some x from HRR.out.trans (putN_var hA))
      have hz : (decide (op = 2) && decide (n = v)) = true := by simp [hA]
      rw [hz]
      clear hz hA HRR
      have q1 := HR1.out.cell (i := 1) rfl
      have q2 := HR1.out.cell (i := 2) rfl
      have q3 := HR1.out.cell (i := 3) rfl
      have HC := Lib.hid (copyOf_any x.k.size x.op x.n x.k X cx W rfl HLX.out (Nat.le_trans (small_size HXS.out) (by decide)) HIX.out)
      go_wp2_with fail
      refine HC.out.mono ?_
      rintro e w1 ⟨A1, c1, bs, rfl, ht, hb1⟩
      have hr3 := HR3.out.below hb1 HR3.out.size
      have f0 := hr3.free 0
      have f1 := hr3.free 1
      have f2 := hr3.free 2
      have c0 := hr3.cell (i := 0) rfl
      have c3 := hr3.cell (i := 1) rfl
      have c2 := hr3.cell (i := 2) rfl
      have hr3c := ((hr3.put 0 (.int .i64 x.op)).put 1 (.int .i64 x.n)).put 2 (.slice A1 x.k.len c1)
      have hsz := HR3.out.size
      have htc := ((ht.put (p := ⟨w.heap.size + 1 + 1, 0, none⟩) hsz (.int .i64 x.op)).put (p := ⟨w.heap.size + 1 + 1, 1, none⟩) hsz (.int .i64 x.n)).put (p := ⟨w.heap.size + 1 + 1, 2, none⟩) hsz (.slice A1 x.k.len c1)
      have hbc := (((HB.out.trans (hb1.mono HB.out.size)).setCell (p := ⟨w.heap.size + 1 + 1, 0, none⟩) (by dsimp only; omega) (.int .i64 x.op)).setCell (p := ⟨w.heap.size + 1 + 1, 1, none⟩) (by dsimp only; omega) (.int .i64 x.n)).setCell (p := ⟨w.heap.size + 1 + 1, 2, none⟩) (by dsimp only; omega) (.slice A1 x.k.len c1)
      have r0 := hr3c.cell (i := 0) rfl
      have r1 := hr3c.cell (i := 1) rfl
      have r2 := hr3c.cell (i := 2) rfl
      have HTC := Lib.hid (htc.lower (base' := w.heap.size) HB.out.size)
      have HBC := Lib.hid hbc
      clear hr3 hr3c htc hbc hsz ht hb1 HC q1 q2 q3
      go_wp2_with fail
      refine bodyPost_ret (v := .tuple #[.agg #[.int .i64 x.op, .int .i64 x.n, .slice A1 x.k.len c1], .bool true]) ?_ rfl (by rw [HR0.out]; exact ⟨A1, c1, bs, rfl, HTC.out, HBC.out⟩)
      simp [results, Try.f56, go_sem, r0, r1, r2]
    · have hz : (decide (op = 2) && decide (n = v)) = false := by
        cases h : (decide (op = 2) && decide (n = v)) with
        | false => rfl
        | true => simp at h; exact absurd h hA
      rw [hz]
      clear hz
      have HNA := Lib.hid hA
      clear hA
      go_upto_region 3 with fail
      go_cut [33] from 26 to 33 (fun s wd => s = .bool (decide (op = 7) && capt ⟨op, n, k⟩ v x) ∧ Below W.heap.size W wd)
      case first =>
        have q0 := HR2.out.cell (i := 0) rfl
        by_cases h7 : op = 7
        · have q1 := HR2.out.cell (i := 1) rfl
          have q2 := HR2.out.cell (i := 2) rfl
          have p0 := HR1.out.cell (i := 0) rfl
          have p1 := HR1.out.cell (i := 1) rfl
          have p2 := HR1.out.cell (i := 2) rfl
          have p3 := HR1.out.cell (i := 3) rfl
          have p4 := HR1.out.cell (i := 4) rfl
          obtain ⟨o1, m1, k1, o2, m2, k2, ek⟩ := HFIT.out.two h7
          dsimp only at ek
          have hlp := HLP.out
          have hsm := HSM.out
          rw [ek] at hlp hsm q2
          subst h7
          have hs2 : smallOk k2 14 80 = true := (small_kids (small_kids hsm).2).1
          have HC := Lib.hid (captures_any v x X F cx cf n ⟨o1, m1, k1⟩ ⟨o2, m2, k2⟩ A c W hlp hs2 HLF.out)
          have HEK := Lib.hid ek
          clear ek hlp hsm hs2
          go_wp2_with fail
          refine HC.out.mono ?_
          rintro e w1 ⟨rfl, hb1⟩
          have HB1 := Lib.hid hb1
          clear hb1 HC
          go_wp2_with fail
          go_meet
          exact ⟨by rw [HEK.out]; simp; rfl, HB1.out⟩
        · have b7 : (op == 7) = false := by simpa using h7
          go_wp2_with fail
          go_meet
          exact ⟨by simp [h7], Below.refl _ _⟩
      case rest =>
        obtain ⟨rfl, hb1⟩ := hcut
        have HB1 := Lib.hid (HB.out.trans (hb1.mono HB.out.size))
        have HS1 := Lib.hid (HR1.out.below hb1 HR1.out.size)
        have HS2 := Lib.hid (HR2.out.below hb1 HR2.out.size)
        have HS3 := Lib.hid (HR3.out.below hb1 HR3.out.size)
        have HLP1 := Lib.hid (HLP.out.up hb1)
        have HLX1 := Lib.hid (HLX.out.up hb1)
        have HLF1 := Lib.hid (HLF.out.up hb1)
        clear HB HR1 HR2 HR3 HLP HLX HLF hb1
        obtain ⟨W1, hw1⟩ : ∃ W1, W1 = wc := ⟨_, rfl⟩
        rw [← hw1] at HB1 HS1 HS2 HS3 HLP1 HLX1 HLF1 ⊢
        clear hw1 wc
        generalize hz : (decide (op = 7) && capt ⟨op, n, k⟩ v x) = z
        have HZ := Lib.hid hz
        clear hz
        go_upto_if 33 with fail
        go_cut [] from 34 to 55 (fun wd => Head f R v x X F cx cf w wd)
        case first =>
          cases z with
          | false =>
            go_wp2_with fail
            go_meet
            refine ⟨⟨op, n, k⟩, A, c, ?_, HS2.out, HLP1.out, HSZ.out, HSM.out, HFIT.out, HIP.out, HS1.out, HS3.out, HB1.out⟩
            exact HRR.out.trans (putN_other HNA.out HZ.out)
          | true =>
            obtain ⟨h7, hcap⟩ : op = 7 ∧ capt ⟨op, n, k⟩ v x = true := by
              have := HZ.out
              simpa only [Bool.and_eq_true, decide_eq_true_iff] using this
            obtain ⟨oa, ma, ka, ob, mb, kb, ek⟩ := HFIT.out.two h7
            dsimp only at ek
            subst h7
            subst ek
            obtain ⟨⟨b, o, A8, c8, hA, _, hbb, j1, j2, g1, g2, g3, h1, h2, h3⟩, ⟨b', o', A9, c9, hA9, _, _, j3, j4, g4, g5, g6, h4, h5, h6⟩, _⟩ := HLP1.out
            subst hA
            injection hA9 with hA9
            injection hA9 with e1 e2
            subst e1 e2
            have hsmb := (small_kids (small_kids HSM.out).2).1
            have hS : ∀ w' : World, Below W1.heap.size W1 w' → w'.cell? ⟨w.heap.size, 0, none⟩ = some (Value.int .i64 v) ∧ w'.cell? ⟨w.heap.size, 4, none⟩ = some (Value.slice F (freeP x).length cf) ∧ w'.cell? ⟨w.heap.size + 1, 2, none⟩ = some (Value.slice (some ⟨b, o, none⟩) 2 c) ∧ w'.cell? ⟨b, o + 3, none⟩ = some (Value.int .i64 ob) ∧ w'.cell? ⟨b, o + 4, none⟩ = some (Value.int .i64 mb) ∧ w'.cell? ⟨b, o + 5, none⟩ = some (Value.slice A9 kb.len c9) := fun w' hb => by
              have hz := HS1.out.size
              have hz2 := HS2.out.size
              exact ⟨(hb.cell (p := ⟨w.heap.size, 0, none⟩) hz).trans (HS1.out.cell (i := 0) rfl), (hb.cell (p := ⟨w.heap.size, 4, none⟩) hz).trans (HS1.out.cell (i := 4) rfl), (hb.cell (p := ⟨w.heap.size + 1, 2, none⟩) hz2).trans (HS2.out.cell (i := 2) rfl),
                (hb.cell (p := ⟨b, o + 3, none⟩) hbb).trans g4, (hb.cell (p := ⟨b, o + 4, none⟩) hbb).trans g5, (hb.cell (p := ⟨b, o + 5, none⟩) hbb).trans g6⟩
            have HSS := Lib.hid hS
            have HALL := Lib.hid (show ∀ w' : World, Below W1.heap.size W1 w' → Calls Try.prog 26 #[.agg #[.int .i64 ob, .int .i64 mb, .slice A9 kb.len c9]] w' (ListPost (varsP ⟨ob, mb, kb⟩) w') from fun w' hb =>
              implAll_r ob mb kb A9 c9 0 w'.heap.size w' (h6.up hb) (Nat.le_refl _) (RowsIf.small hsmb) h4 h5 (Nat.le_trans (small_size hsmb) (by decide)))
            have HVL := Lib.hid (numsUpto_small (hasB ownVL ⟨ob, mb, kb⟩) 8)
            have HLF2 := Lib.hid HLF1.out
            clear hS j1 j2 j3 j4 g1 g2 g3 g4 g5 g6 h1 h2 h3 h4 h5 h6 hsmb hbb
            go_upto_region 4 with fail
            go_cut [6, 7] from 34 to 49 (fun s6 s7 wd => s6 = .int .i64 (((newOf ⟨7, n, .cons oa ma ka (.cons ob mb kb .nil)⟩ v x).getD 0 : Nat) : Int) ∧ s7 = .bool (newOf ⟨7, n, .cons oa ma ka (.cons ob mb kb .nil)⟩ v x).isSome ∧ Below W1.heap.size W1 wd)
            case first =>
              have b0 : Below W1.heap.size W1 W1.drew := (Below.refl _ _).drew
              have bp : Below W1.heap.size W1 (W1.alloc (Obj.cells #[Value.int .i64 v] 3)).drew := ((Below.refl _ _).alloc (Nat.le_refl _) _).drew
              have rp : Row (W1.alloc (Obj.cells #[Value.int .i64 v] 3)).drew W1.heap.size 3 #[Value.int .i64 v] := (Row.fresh _ _ _).drew
              have CA := Lib.hid (HALL.out _ bp)
              have CB := Lib.hid (HALL.out _ b0)
              have hlen3 : ∀ z, z = varsP ⟨ob, mb, kb⟩ → 0 < (freeP x).length + z.length + [v].length ∧ (freeP x).length + z.length + [v].length ≤ 1048576 := fun z hz => by
                have e1 := freeUpto_len x.op x.n x.k 8
                have e2 := numsUpto_len (hasB ownVL ⟨ob, mb, kb⟩) 8
                subst hz
                unfold freeP varsP
                simp only [List.length_singleton]
                omega
              have HL3 := Lib.hid hlen3
              have s0 := HSS.out _ b0
              have sp := HSS.out _ bp
              have B0 := Lib.hid b0
              have BP := Lib.hid bp
              have RP := Lib.hid rp
              obtain ⟨zs, hzs⟩ : ∃ zs, zs = freeP x ++ varsP ⟨ob, mb, kb⟩ ++ [v] := ⟨_, rfl⟩
              have HSM3 := Lib.hid (show ∀ y ∈ zs, I64 y by rw [hzs]; exact new_small HIV.out)
              have HLN3 := Lib.hid (show zs.length ≤ 4194304 by rw [hzs]; have := (HL3.out _ rfl).2; simp only [List.length_append]; omega)
              have HZS := Lib.hid hzs
              clear hlen3 b0 bp rp hzs
              go_region_held3 (fun w' => w'.cell? ⟨w.heap.size, 0, none⟩ = some (Value.int .i64 v) ∧ w'.cell? ⟨w.heap.size, 4, none⟩ = some (Value.slice F (freeP x).length cf) ∧ w'.cell? ⟨w.heap.size + 1, 2, none⟩ = some (Value.slice (some ⟨b, o, none⟩) 2 c) ∧ w'.cell? ⟨b, o + 3, none⟩ = some (Value.int .i64 ob) ∧ w'.cell? ⟨b, o + 4, none⟩ = some (Value.int .i64 mb) ∧ w'.cell? ⟨b, o + 5, none⟩ = some (Value.slice A9 kb.len c9))
                (first | with_reducible exact s0 | with_reducible exact sp | with_reducible exact s5 | with_reducible exact s5b | with_reducible exact s5l | with_reducible exact s5lb | with_reducible exact s6 | with_reducible exact s7 | fail)
                (first
                  | (go_at_call 65
                     with_reducible refine CF.out.mono ?_
                     rintro e w7 ⟨rfl, hb7⟩
                     have B7 := Lib.hid (B6.out.trans (hb7.mono B6.out.size))
                     have s7 := HSS.out _ B7.out
                     clear hb7)
                  | (go_at_call 66
                     with_reducible refine CC1.out.mono ?_
                     rintro e w6 ⟨v6, rfl, ho6, hb6⟩
                     rw [← HZS.out] at ho6
                     obtain ⟨A6, c6, rfl, hI6⟩ := own_ints ho6 HSM3.out
                     have B6 := Lib.hid (B5b.out.trans (hb6.mono B5b.out.size))
                     have CF := Lib.hid (implFresh_any zs A6 c6 w6 (hI6.mono_ (Nat.zero_le _) (Nat.le_refl _)) HLN3.out)
                     have s6 := HSS.out _ B6.out
                     clear hb6 ho6 hI6)
                  | (go_at_call 66
                     with_reducible refine CC2.out.mono ?_
                     rintro e w6 ⟨v6, rfl, ho6, hb6⟩
                     rw [← HZS.out] at ho6
                     obtain ⟨A6, c6, rfl, hI6⟩ := own_ints ho6 HSM3.out
                     have B6 := Lib.hid (B5lb.out.trans (hb6.mono B5lb.out.size))
                     have CF := Lib.hid (implFresh_any zs A6 c6 w6 (hI6.mono_ (Nat.zero_le _) (Nat.le_refl _)) HLN3.out)
                     have s6 := HSS.out _ B6.out
                     clear hb6 ho6 hI6)
                  | (go_at_call 26
                     with_reducible refine CA.out.mono ?_
                     rintro e w5 ⟨v5, rfl, ho5, hb5⟩
                     obtain ⟨A5, c5, rfl, hI5⟩ := own_ints ho5 (fun y hy => HVL.out y (by decide) hy)
                     have b5 := BP.out.trans (hb5.mono BP.out.size)
                     have b5b := b5.alloc b5.size (Obj.cells #[Value.slice F (freeP x).length cf, Value.slice A5 (varsP ⟨ob, mb, kb⟩).length c5, Value.slice (some ⟨W1.heap.size, 0, none⟩) 1 1] 32)
                     have hbB : Below w5.heap.size w5 (w5.alloc (Obj.cells #[Value.slice F (freeP x).length cf, Value.slice A5 (varsP ⟨ob, mb, kb⟩).length c5, Value.slice (some ⟨W1.heap.size, 0, none⟩) 1 1] 32)) := (Below.refl _ _).alloc (Nat.le_refl _) _
                     have rp5 := (RP.out.below hb5 RP.out.size).below hbB (Nat.lt_of_lt_of_le RP.out.size hb5.size)
                     have rb5 := Row.fresh w5 32 #[Value.slice F (freeP x).length cf, Value.slice A5 (varsP ⟨ob, mb, kb⟩).length c5, Value.slice (some ⟨W1.heap.size, 0, none⟩) 1 1]
                     have CC1 := Lib.hid (concat_any (freeP x) (varsP ⟨ob, mb, kb⟩) [v] F A5 (some ⟨W1.heap.size, 0, none⟩) cf c5 1 w5.heap.size _ rb5 (HLF2.out.up b5b) ((hI5.mono_ (Nat.zero_le _) (Nat.le_refl _)).up hbB) (lies_one rp5 HIV.out) (HL3.out _ rfl).1 (HL3.out _ rfl).2)
                     have B5b := Lib.hid b5b
                     have s5 := HSS.out _ b5
                     have s5b := HSS.out _ b5b
                     clear ho5 hb5 hI5 b5 b5b hbB rp5 rb5)
                  | (go_at_call 26
                     with_reducible refine CB.out.mono ?_
                     rintro e w5 ⟨v5, rfl, ho5, hb5⟩
                     obtain ⟨A5, c5, rfl, hI5⟩ := own_ints ho5 (fun y hy => HVL.out y (by decide) hy)
                     have b5 := B0.out.trans (hb5.mono B0.out.size)
                     have b5l := b5.alloc b5.size (Obj.cells #[Value.int .i64 v] 3)
                     have b5lb := b5l.alloc b5l.size (Obj.cells #[Value.slice F (freeP x).length cf, Value.slice A5 (varsP ⟨ob, mb, kb⟩).length c5, Value.slice (some ⟨w5.heap.size, 0, none⟩) 1 1] 32)
                     have hbL : Below w5.heap.size w5 (w5.alloc (Obj.cells #[Value.int .i64 v] 3)) := (Below.refl _ _).alloc (Nat.le_refl _) _
                     have hbB : Below (w5.alloc (Obj.cells #[Value.int .i64 v] 3)).heap.size (w5.alloc (Obj.cells #[Value.int .i64 v] 3)) ((w5.alloc (Obj.cells #[Value.int .i64 v] 3)).alloc (Obj.cells #[Value.slice F (freeP x).length cf, Value.slice A5 (varsP ⟨ob, mb, kb⟩).length c5, Value.slice (some ⟨w5.heap.size, 0, none⟩) 1 1] 32)) := (Below.refl _ _).alloc (Nat.le_refl _) _
                     have rp5 := (Row.fresh w5 3 #[Value.int .i64 v]).alloc (Obj.cells #[Value.slice F (freeP x).length cf, Value.slice A5 (varsP ⟨ob, mb, kb⟩).length c5, Value.slice (some ⟨w5.heap.size, 0, none⟩) 1 1] 32)
                     have rb5 := Row.fresh (w5.alloc (Obj.cells #[Value.int .i64 v] 3)) 32 #[Value.slice F (freeP x).length cf, Value.slice A5 (varsP ⟨ob, mb, kb⟩).length c5, Value.slice (some ⟨w5.heap.size, 0, none⟩) 1 1]
                     rw [World.size_alloc] at rb5
                     have CC2 := Lib.hid (concat_any (freeP x) (varsP ⟨ob, mb, kb⟩) [v] F A5 (some ⟨w5.heap.size, 0, none⟩) cf c5 1 (w5.heap.size + 1) _ rb5 (HLF2.out.up b5lb) (((hI5.mono_ (Nat.zero_le _) (Nat.le_refl _)).up hbL).up hbB) (lies_one rp5 HIV.out) (HL3.out _ rfl).1 (HL3.out _ rfl).2)
                     have B5lb := Lib.hid b5lb
                     have s5 := HSS.out _ b5
                     have s5l := HSS.out _ b5l
                     have s5lb := HSS.out _ b5lb
                     clear ho5 hb5 hI5 b5 b5l b5lb hbB hbL rp5 rb5)
                  | fail)
              all_goals
                go_wp2_with fail
                go_meet
                exact ⟨by rw [HZS.out]; rfl, by rw [HZS.out]; rfl, B7.out⟩
            case rest =>
              obtain ⟨rfl, rfl, hbd⟩ := hcut
              have HBD1 := Lib.hid (HB1.out.trans (hbd.mono HB1.out.size))
              have HT1 := Lib.hid (HS1.out.below hbd HS1.out.size)
              have HT2 := Lib.hid (HS2.out.below hbd HS2.out.size)
              have HT3 := Lib.hid (HS3.out.below hbd HS3.out.size)
              have HLPD := Lib.hid (HLP1.out.up hbd)
              have HCAP := Lib.hid hcap
              have hf2 := HFIT.out.2
              dsimp only at hf2
              rw [fitP_cons, fitP_cons] at hf2
              have HFA := Lib.hid hf2.1
              have HFB := Lib.hid hf2.2.1
              have HSA := Lib.hid (small_kids HSM.out).1
              have HSB := Lib.hid (small_kids (small_kids HSM.out).2).1
              clear hbd hcap hf2 HSS HALL HVL HLF2
              cases hnew : newOf ⟨7, n, .cons oa ma ka (.cons ob mb kb .nil)⟩ v x with
              | none =>
                have HRN := Lib.hid (show R = none by rw [HRR.out, putN_capt rfl HCAP.out, hnew])
                clear hnew
                go_upto_region 6 with fail
                have c0 := HT3.out.cell (i := 0) rfl
                have c1 := HT3.out.cell (i := 1) rfl
                have c2 := HT3.out.cell (i := 2) rfl
                have f0 := HT3.out.free 0
                have f1 := HT3.out.free 1
                have f2 := HT3.out.free 2
                have hres3 := ((HT3.out.put 0 (.int .i64 0)).put 1 (.int .i64 0)).put 2 (.slice none 0 0)
                have r0 := hres3.cell (i := 0) rfl
                have r1 := hres3.cell (i := 1) rfl
                have r2 := hres3.cell (i := 2) rfl
                have hbc := ((HBD1.out.setCell (p := ⟨w.heap.size + 1 + 1, 0, none⟩) (by dsimp only; omega) (.int .i64 0)).setCell (p := ⟨w.heap.size + 1 + 1, 1, none⟩) (by dsimp only; omega) (.int .i64 0)).setCell (p := ⟨w.heap.size + 1 + 1, 2, none⟩) (by dsimp only; omega) (.slice none 0 0)
                have HBC := Lib.hid hbc
                clear hres3 hbc
                go_wp2_with fail
                refine bodyPost_ret (v := .tuple #[.agg #[.int .i64 0, .int .i64 0, .slice none 0 0], .bool false]) ?_ rfl (by
                  rw [HRN.out]
                  exact ⟨0, 0, none, 0, 0, rfl, HBC.out⟩)
                simp [results, Try.f56, go_sem, r0, r1, r2]
              | some u =>
                obtain ⟨u8, n1, n2, n3⟩ := newOf_new hnew
                have hsz := HSZ.out
                simp only [Fo.size] at hsz
                have hszb : kb.size < f := by omega
                obtain ⟨q', hq'⟩ := Option.isSome_iff_exists.1 (putN_is (n := n) (w := u) f ⟨ob, mb, kb⟩ HFB.out n2 hszb)
                have hren := putN_ren u8 f ⟨ob, mb, kb⟩ q' HFB.out n2 hq'
                have HC := Lib.hid (HBD.out n ⟨oa, ma, ka⟩ ⟨ob, mb, kb⟩ q' u (some ⟨b, o, none⟩) c wc HLPD.out u8 hq' hszb HSB.out HSA.out HFB.out HIP.out.2)
                have HREN := Lib.hid hren
                have HU8 := Lib.hid u8
                have HUV := Lib.hid n3
                have HRN := Lib.hid (show R = (match kidsP (fun y => putN f y v x) false 0 (pair ⟨oa, ma, ka⟩ q') with | none => none | some t => some ⟨7, (u : Int), t⟩) by
                  rw [HRR.out, putN_capt rfl HCAP.out, hnew]
                  show (match putN f (⟨ob, mb, kb⟩ : Nd) n ⟨2, u, .nil⟩ with
                    | none => none
                    | some b => match kidsP (fun y => putN f y v x) false 0 (pair (⟨oa, ma, ka⟩ : Nd) b) with
                      | none => none
                      | some t => some (⟨7, u, t⟩ : Nd)) = _
                  rw [hq'])
                clear hnew u8 n1 n2 n3 hsz hszb hq' hren
                have q0 := HT2.out.cell (i := 0) rfl
                have q1 := HT2.out.cell (i := 1) rfl
                have q2 : wc.cell? ⟨w.heap.size + 1, 2, none⟩ = some (.slice (some ⟨b, o, none⟩) 2 c) := HT2.out.cell (i := 2) rfl
                go_wp2_with fail
                refine HC.out.mono ?_
                rintro e w5 ⟨A5, c5, b5, rfl, ht5, hb5⟩
                have hr5 := HT2.out.below hb5 HT2.out.size
                have f0 := hr5.free 0
                have f1 := hr5.free 1
                have f2 := hr5.free 2
                have c0 := hr5.cell (i := 0) rfl
                have c1 := hr5.cell (i := 1) rfl
                have c2 := hr5.cell (i := 2) rfl
                have hr6 := ((hr5.put 0 (.int .i64 7)).put 1 (.int .i64 (u : Int))).put 2 (.slice A5 (pair ⟨oa, ma, ka⟩ q').len c5)
                have hz2 := HT2.out.size
                have ht6 := ((ht5.put (p := ⟨w.heap.size + 1, 0, none⟩) hz2 (.int .i64 7)).put (p := ⟨w.heap.size + 1, 1, none⟩) hz2 (.int .i64 (u : Int))).put (p := ⟨w.heap.size + 1, 2, none⟩) hz2 (.slice A5 (pair ⟨oa, ma, ka⟩ q').len c5)
                have hs5 := HT1.out.below hb5 HT1.out.size
                have hs6 := ((hs5.apart (p := ⟨w.heap.size + 1, 0, none⟩) (by dsimp only; omega) (.int .i64 7)).apart (p := ⟨w.heap.size + 1, 1, none⟩) (by dsimp only; omega) (.int .i64 (u : Int))).apart (p := ⟨w.heap.size + 1, 2, none⟩) (by dsimp only; omega) (.slice A5 (pair ⟨oa, ma, ka⟩ q').len c5)
                have hx5 := HT3.out.below hb5 HT3.out.size
                have hx6 := ((hx5.apart (p := ⟨w.heap.size + 1, 0, none⟩) (by dsimp only; omega) (.int .i64 7)).apart (p := ⟨w.heap.size + 1, 1, none⟩) (by dsimp only; omega) (.int .i64 (u : Int))).apart (p := ⟨w.heap.size + 1, 2, none⟩) (by dsimp only; omega) (.slice A5 (pair ⟨oa, ma, ka⟩ q').len c5)
                have hb6 := (((HBD1.out.trans (hb5.mono HBD1.out.size)).setCell (p := ⟨w.heap.size + 1, 0, none⟩) (Nat.le_succ _) (.int .i64 7)).setCell (p := ⟨w.heap.size + 1, 1, none⟩) (Nat.le_succ _) (.int .i64 (u : Int))).setCell (p := ⟨w.heap.size + 1, 2, none⟩) (Nat.le_succ _) (.slice A5 (pair ⟨oa, ma, ka⟩ q').len c5)
                have HR6 := Lib.hid hr6
                have HT6 := Lib.hid ht6
                have HS6 := Lib.hid hs6
                have HX6 := Lib.hid hx6
                have HB6 := Lib.hid hb6
                clear hr5 hr6 hz2 ht6 hs5 hs6 hx5 hx6 hb6 ht5 hb5 HC q0 q1 q2
                go_wp2_with fail
                go_meet
                exact ⟨⟨7, u, pair ⟨oa, ma, ka⟩ q'⟩, A5, c5, capt_stays HRN.out HCAP.out HREN.out HUV.out, HR6.out, (HT6.out.lies fun q hq => (HT6.out.lt q hq).2).mono_ (Nat.zero_le _) (Nat.le_refl _),
                  by have e1 := HSZ.out; have e2 := HREN.out.size; simp only [pair, Fo.size] at e1 e2 ⊢; omega, small_pair HSM.out HREN.out, fit_pair HFA.out HREN.out.fit HU8.out,
                  by have := HU8.out; unfold I64; dsimp only; omega, HS6.out, HX6.out, HB6.out⟩
        case rest =>
          obtain ⟨wb, hwb⟩ : ∃ wb, wb = wc := ⟨_, rfl⟩
          rw [← hwb] at hcut ⊢
          clear hwb wc
          obtain ⟨q, A', c', hR, hE, hlq, hqs, hqsm, hqfit, hqi, hrep, hres, hbw⟩ := hcut
          clear HB1 HS1 HS2 HS3 HLP1 HLX1 HLF1 HZ HNA HRR HIP HFIT HSM HSZ
          have HR := Lib.hid hR
          have HE := Lib.hid hE
          have HLQ := Lib.hid hlq
          have HQM := Lib.hid hqsm
          have HQF := Lib.hid hqfit
          have HREP := Lib.hid hrep
          have HRES := Lib.hid hres
          have HBW := Lib.hid hbw
          have HX1 := Lib.hid (HX0.out.up hbw)
          have HF1 := Lib.hid (HF0.out.up hbw)
          have HQS := Lib.hid hqs
          have HQI := Lib.hid hqi
          have q0 := hE.cell (i := 0) rfl
          have q1 := hE.cell (i := 1) rfl
          have q2 := hE.cell (i := 2) rfl
          obtain ⟨wy, hwy⟩ : ∃ wy, wy = wb.alloc (Obj.cells #[.int .i64 q.op, .int .i64 q.n, .slice none 0 0] 25) := ⟨_, rfl⟩
          have hby : Below wb.heap.size wb wy := by rw [hwy]; exact (Below.refl _ _).alloc (Nat.le_refl _) _
          have hry : Row wy wb.heap.size 25 #[.int .i64 q.op, .int .i64 q.n, .slice none 0 0] := by rw [hwy]; exact Row.fresh _ _ _
          have HBY := Lib.hid hby
          have HRY := Lib.hid hry
          obtain ⟨T, hT⟩ : ∃ T, T = kidsP (fun y => putN f y v x) (stays q v) 0 q.k := ⟨_, rfl⟩
          have HT := Lib.hid hT
          rw [← hT] at hR
          have HRT := Lib.hid hR
          have p2 := (hE.below hby hE.size).cell (i := 2) rfl
          clear hE hlq hqs hqsm hqfit hqi hrep hres hbw hby hry hT hR HR HX0 HF0
          have hq80 : q.k.len ≤ 80 := Nat.le_trans (Fo.len_le_size _) (small_size HQM.out)
          go_upto_region 9 with fail
          rw [← hwy]
          clear hwy q0 q1 q2
          go_wp2_with fail
          go_loopw [64] (fun i wr => ∃ (j : Nat) (pre : Fo) (Ay : Option Addr) (cy : Nat) (bs : List Nat), j ≤ q.k.len ∧ i = .int .i64 (j : Int) ∧ pre.len = j ∧ T = joinP pre (kidsP (fun y => putN f y v x) (stays q v) j (q.k.drop j)) ∧
              Row wr wb.heap.size 25 #[.int .i64 q.op, .int .i64 q.n, .slice Ay pre.len cy] ∧ Tree wr (wb.heap.size + 1) (.slice Ay pre.len cy) pre bs ∧ Below wb.heap.size wb wr)
            (fun i _ => q.k.len - (intOf i).toNat)
          case atStart => exact ⟨0, .nil, none, 0, [], Nat.zero_le _, rfl, rfl, HT.out.trans (kids_start _ _ _), HRY.out, Tree.none _ _, HBY.out⟩
          case round =>
            clear HBY HRY HT p2
            obtain ⟨j, pre, Ay, cy, bs, hj, rfl, hpl, hT, hrow, ht, hb⟩ := hrel
            by_cases hlt : j < q.k.len
            · obtain ⟨o1, m1, k1, e1, e2, e3⟩ := Fo.drop_of_lt q.k j hlt
              have hj' := (HLQ.out.below hb).at_ j
              rw [Nat.zero_add, e1] at hj'
              obtain ⟨⟨b, o, A2, c2, hA, _, hbb, i1, i2, g1, g2, g3, h1, h2, h3⟩, _⟩ := hj'
              subst hA
              obtain ⟨wa, hwa⟩ : ∃ wa, wa = wr.alloc (Obj.cells #[.int .i64 o1, .int .i64 m1, .slice A2 k1.len c2] 25) := ⟨_, rfl⟩
              have hba : Below wr.heap.size wr wa := by rw [hwa]; exact (Below.refl _ _).alloc (Nat.le_refl _) _
              have hra : Row wa wr.heap.size 25 #[.int .i64 o1, .int .i64 m1, .slice A2 k1.len c2] := by rw [hwa]; exact Row.fresh _ _ _
              have hbwa : Below wb.heap.size wb wa := hb.trans (hba.mono hb.size)
              have hks : k1.size < f := by
                have := HQS.out
                have e5 : q.k.size = q.k.size := rfl
                omega
              have hkf := (fit_at HQF.out.2 j e1).1
              have hksm := small_at HQM.out j e1
              have HK := Lib.hid (And.intro hks (And.intro hkf hksm))
              have HT := Lib.hid ht
              have HJT := Lib.hid hT
              have HBA := Lib.hid hba
              have HBWA := Lib.hid hbwa
              have HRA := Lib.hid hra
              have HROW := Lib.hid (hrow.below hba hrow.size)
              have HLA := Lib.hid ((h3.below (hba.mono hb.size)).mono_ (Nat.le_refl _) (Nat.le_trans hb.size hba.size))
              have HPL := Lib.hid hpl
              have HE1 := Lib.hid e1
              have HI := Lib.hid (And.intro i1 i2)
              have HJ := Lib.hid hlt
              have hpl2 : pre.len ≤ 1048576 := by
                have e5 := Fo.len_le_size q.k
                have e6 := small_size HQM.out
                omega
              have HWZ := Lib.hid (show wb.heap.size + 1 ≤ wr.heap.size from hrow.size)
              clear hra hba hbwa ht hT hb hrow hpl h1 h2 h3 i1 i2 hks hkf hksm e1 e2 e3 hj
              go_upto_region 12 with fail
              rw [← hwa]
              clear hwa g1 g2 g3
              go_cut [77] from 69 to 77 (fun s wd => s = .bool (stays q v && decide (j = 1)) ∧ Below wa.heap.size wa wd)
              case first =>
                have s0 := (HE.out.below HBWA.out HE.out.size).cell (i := 0) rfl
                have s1 := (HE.out.below HBWA.out HE.out.size).cell (i := 1) rfl
                have s2 := (HE.out.below HBWA.out HE.out.size).cell (i := 2) rfl
                have HC := Lib.hid (bindsIn_any q.op q.n (.slice (some ⟨b, o, none⟩) q.k.len c') (j : Int) wa)
                cases hbi : binds q.op (j : Int) with
                | false =>
                  have HST := Lib.hid (show (stays q v && decide (j = 1)) = false by
                    unfold binds at hbi
                    unfold stays
                    by_cases h7 : q.op = 7
                    · have : ¬ j = 1 := by intro h; simp [h7, h] at hbi
                      simp [this]
                    · simp [h7])
                  rw [hbi] at HC
                  clear hbi
                  go_wp2_with fail
                  refine HC.out.mono ?_
                  rintro e w1 ⟨rfl, hb1⟩
                  have HB1 := Lib.hid hb1
                  clear hb1 HC
                  go_wp2_with fail
                  go_meet
                  exact ⟨by rw [HST.out], HB1.out⟩
                | true =>
                  obtain ⟨h7, hj1⟩ : q.op = 7 ∧ j = 1 := by
                    unfold binds at hbi
                    simp only [Bool.and_eq_true, decide_eq_true_iff] at hbi
                    exact ⟨hbi.1, by omega⟩
                  obtain ⟨oa, ma, ka, ob, mb, kb, ek⟩ := HQF.out.two h7
                  have HST := Lib.hid (show (stays q v && decide (j = 1)) = !(reach ⟨7, q.n, pair ⟨oa, ma, ka⟩ ⟨ob, mb, kb⟩⟩ v) by
                    unfold stays reach
                    simp only [h7, hj1, ek, pair, decide_true, Bool.true_and, Bool.and_true]; rfl)
                  have HEK := Lib.hid ek
                  have H7 := Lib.hid h7
                  have hsm := HQM.out
                  rw [ek] at hsm
                  have HSB := Lib.hid (small_kids (small_kids hsm).2).1
                  rw [hbi] at HC
                  clear hbi ek h7 hj1 hsm
                  go_wp2_with fail
                  refine HC.out.mono ?_
                  rintro e w1 ⟨rfl, hb1⟩
                  have hbw1 := HBWA.out.trans (hb1.mono HBWA.out.size)
                  have HB1 := Lib.hid hb1
                  have hl1 := HLQ.out.up hbw1
                  rw [HEK.out] at hl1
                  have HC2 := Lib.hid (reaches_any v x X F cx (freeP x).length cf q.n ⟨oa, ma, ka⟩ ⟨ob, mb, kb⟩ _ c' w1 hl1 HSB.out)
                  have t0 := (HREP.out.below hbw1 HREP.out.size).cell (i := 0) rfl
                  have t1 := (HREP.out.below hbw1 HREP.out.size).cell (i := 1) rfl
                  have t2 := (HREP.out.below hbw1 HREP.out.size).cell (i := 2) rfl
                  have t3 := (HREP.out.below hbw1 HREP.out.size).cell (i := 3) rfl
                  have t4 := (HREP.out.below hbw1 HREP.out.size).cell (i := 4) rfl
                  have y0 := (HE.out.below hbw1 HE.out.size).cell (i := 0) rfl
                  have y1 := (HE.out.below hbw1 HE.out.size).cell (i := 1) rfl
                  have y2 := (HE.out.below hbw1 HE.out.size).cell (i := 2) rfl
                  rw [H7.out] at y0
                  rw [HEK.out] at y2
                  clear hb1 HC hbw1 hl1 s0 s1 s2
                  go_wp2_with fail
                  refine HC2.out.mono ?_
                  rintro e w2 ⟨rfl, hb2⟩
                  have HB2 := Lib.hid (HB1.out.trans (hb2.mono HB1.out.size))
                  clear hb2 HC2 t0 t1 t2 t3 t4 y0 y1 y2
                  go_wp2_with fail
                  go_meet
                  exact ⟨by rw [HST.out], HB2.out⟩
              case rest =>
                obtain ⟨rfl, hbd⟩ := hcut
                have HRD := Lib.hid (HRA.out.below hbd HRA.out.size)
                have HROWD := Lib.hid (HROW.out.below hbd HROW.out.size)
                have HTR := Lib.hid HT.out
                have HTD := Lib.hid (HT.out.over (HBA.out.trans (hbd.mono HBA.out.size)))
                have HBWD := Lib.hid (HBWA.out.trans (hbd.mono HBWA.out.size))
                have HLD := Lib.hid (HLA.out.up hbd)
                have HWD := Lib.hid (And.intro (Nat.le_trans HBA.out.size hbd.size) (show wr.heap.size < wa.heap.size from HRA.out.size))
                clear HRA HROW HT HBWA HLA
                generalize hz : (stays q v && decide (j = 1)) = z
                have HZ := Lib.hid hz
                clear hz
                cases z with
                | true =>
                  have hz2 : stays q v = true ∧ j = 1 := by
                    have := HZ.out
                    simp only [Bool.and_eq_true, decide_eq_true_iff] at this
                    exact this
                  have hjt := HJT.out
                  rw [HE1.out] at hjt
                  have HSTEP := Lib.hid (kids_step (a := ⟨o1, m1, k1⟩) (if_pos hz2) hjt)
                  have hjj := HJ.out
                  clear hjt
                  have q0 : wc.drew.cell? ⟨wr.heap.size, 0, none⟩ = some (.int .i64 o1) := HRD.out.cell (i := 0) rfl
                  have q1 : wc.drew.cell? ⟨wr.heap.size, 1, none⟩ = some (.int .i64 m1) := HRD.out.cell (i := 1) rfl
                  have q2 : wc.drew.cell? ⟨wr.heap.size, 2, none⟩ = some (.slice A2 k1.len c2) := HRD.out.cell (i := 2) rfl
                  have q3 : wc.drew.cell? ⟨wb.heap.size, 2, none⟩ = some (.slice Ay pre.len cy) := HROWD.out.cell (i := 2) rfl
                  have hza : wb.heap.size < wc.drew.heap.size := HROWD.out.size
                  have hza2 : wr.heap.size < wc.drew.heap.size := HRD.out.size
                  have HC := Lib.hid (copyOf_any k1.size o1 m1 k1 A2 c2 wc.drew rfl (HLD.out.up (Below.refl _ _).drew) (Nat.le_trans (small_size HK.out.2.2) (by decide)) HI.out)
                  have hbox : ∀ g, (Value.slice Ay pre.len cy).ownBlock = some g → wb.heap.size + 1 ≤ g ∧ g < wr.heap.size := fun g hg => by
                    obtain ⟨st, b1, k1', k2', rfl, _⟩ := HTR.out
                    exact blk_lt k1' (by unfold blkV; rw [hg]; simp)
                  have HBOX := Lib.hid hbox
                  clear hz2 hbox
                  go_wp2_with fail
                  go_region_law (first
                      | (refine step_push rfl (.tmp 79) (.tmp 82) rfl (wb.heap.size + 1) (.slice Ay pre.len cy) pre bs b5 o1 m1 k1 A5 c5 rfl rfl HT5.out HK5.out HI.out HD5.out hpl2 HZ5.out ?_
                         intro v6 w6 bs6 ht6 hg6 hin6
                         obtain ⟨A6, c6, rfl, hc61, hc62⟩ := ht6.slice
                         have hne : ∀ g, (g < wb.heap.size + 1 ∨ wr.heap.size ≤ g) → some g ≠ (Value.slice Ay pre.len cy).ownBlock := fun g hg e => by have := HBOX.out g e.symm; omega
                         have hr6 := row_grown HROW5.out hg6 (hne _ (.inl (Nat.lt_succ_self _)))
                         have hra6 := row_grown HRA5.out hg6 (hne _ (.inr (Nat.le_refl _)))
                         have u0 : w6.cell? ⟨wr.heap.size, 0, none⟩ = some (.int .i64 o1) := hra6.cell (i := 0) rfl
                         have u1 : w6.cell? ⟨wr.heap.size, 1, none⟩ = some (.int .i64 m1) := hra6.cell (i := 1) rfl
                         have u2 : w6.cell? ⟨wr.heap.size, 2, none⟩ = some (.slice A2 k1.len c2) := hra6.cell (i := 2) rfl
                         have u3 : w6.cell? ⟨wb.heap.size, 2, none⟩ = some (.slice Ay pre.len cy) := hr6.cell (i := 2) rfl
                         have f3 := hr6.free 2
                         have HR6 := Lib.hid hr6
                         have HT6 := Lib.hid ht6
                         have HB6 := Lib.hid (Below.grown HB5.out hg6 HB5.out.size (fun g' hg' => by have := HBOX.out g' hg'; omega))
                         clear hr6 hra6 ht6 hg6 hin6 hne hc61 hc62)
                      | (refine step_call (f := 46) rfl (by kernel_rfl) HC.out ?_
                         rintro e w5 ⟨A5, c5, b5, rfl, ht5, hb5⟩
                         refine ⟨_, rfl, ?_⟩
                         have y0 : w5.cell? ⟨wr.heap.size, 0, none⟩ = some (.int .i64 o1) := (hb5.cell (p := ⟨wr.heap.size, 0, none⟩) hza2).trans q0
                         have y1 : w5.cell? ⟨wr.heap.size, 1, none⟩ = some (.int .i64 m1) := (hb5.cell (p := ⟨wr.heap.size, 1, none⟩) hza2).trans q1
                         have y2 : w5.cell? ⟨wr.heap.size, 2, none⟩ = some (.slice A2 k1.len c2) := (hb5.cell (p := ⟨wr.heap.size, 2, none⟩) hza2).trans q2
                         have y3 : w5.cell? ⟨wb.heap.size, 2, none⟩ = some (.slice Ay pre.len cy) := (hb5.cell (p := ⟨wb.heap.size, 2, none⟩) hza).trans q3
                         have bz := (Below.refl w5.heap.size w5).alloc (Nat.le_refl _) (Obj.cells #[.int .i64 o1, .int .i64 m1, .slice A5 k1.len c5] 25)
                         have z0 : (w5.alloc (Obj.cells #[.int .i64 o1, .int .i64 m1, .slice A5 k1.len c5] 25)).cell? ⟨wr.heap.size, 0, none⟩ = some (.int .i64 o1) := (bz.cell (p := ⟨wr.heap.size, 0, none⟩) (Nat.lt_of_lt_of_le hza2 hb5.size)).trans y0
                         have z1 : (w5.alloc (Obj.cells #[.int .i64 o1, .int .i64 m1, .slice A5 k1.len c5] 25)).cell? ⟨wr.heap.size, 1, none⟩ = some (.int .i64 m1) := (bz.cell (p := ⟨wr.heap.size, 1, none⟩) (Nat.lt_of_lt_of_le hza2 hb5.size)).trans y1
                         have z2 : (w5.alloc (Obj.cells #[.int .i64 o1, .int .i64 m1, .slice A5 k1.len c5] 25)).cell? ⟨wr.heap.size, 2, none⟩ = some (.slice A2 k1.len c2) := (bz.cell (p := ⟨wr.heap.size, 2, none⟩) (Nat.lt_of_lt_of_le hza2 hb5.size)).trans y2
                         have z3 : (w5.alloc (Obj.cells #[.int .i64 o1, .int .i64 m1, .slice A5 k1.len c5] 25)).cell? ⟨wb.heap.size, 2, none⟩ = some (.slice Ay pre.len cy) := (bz.cell (p := ⟨wb.heap.size, 2, none⟩) (Nat.lt_of_lt_of_le hza hb5.size)).trans y3
                         have HT5 := Lib.hid (HTD.out.over ((Below.refl _ _).drew.trans hb5))
                         have HK5 := Lib.hid (ht5.lower (base' := wb.heap.size + 1) (Nat.le_trans HWZ.out HWD.out.1))
                         have HD5 := Lib.hid (show ∀ b, b ∈ bs → b ∈ b5 → False from fun q h1 h2 => by
                           have e1 := (HTR.out.lt q h1).2
                           have e2 := (ht5.lt q h2).1
                           have e4 : wc.heap.size ≤ q := e2
                           have e5 := HWD.out.1
                           omega)
                         have HZ5 := Lib.hid (Nat.le_trans HWZ.out (Nat.le_trans HWD.out.1 hb5.size))
                         have HROW5 := Lib.hid ((HROWD.out.drew).below hb5 hza)
                         have HRA5 := Lib.hid ((HRD.out.drew).below hb5 hza2)
                         have HB5 := Lib.hid (HBWD.out.trans (((Below.refl _ _).drew.trans hb5).mono HBWD.out.size))
                         clear ht5 hb5 bz)
                      | fail)
                  all_goals
                    go_wp2_with fail
                    go_roundw
                    case rel =>
                      have hr7 := HR6.out.put 2 (.slice A6 (pre.snoc o1 m1 k1).len c6)
                      have ht7 : Tree (w6.setCell ⟨wb.heap.size, 2, none⟩ (.slice A6 (pre.snoc o1 m1 k1).len c6)) (wb.heap.size + 1) (.slice A6 (pre.snoc o1 m1 k1).len c6) (pre.snoc o1 m1 k1) bs6 :=
                        HT6.out.put (Nat.lt_succ_self _) _
                      exact ⟨j + 1, pre.snoc o1 m1 k1, A6, c6, bs6, HJ.out, by go_num, by rw [Fo.snoc_len, HPL.out], HSTEP.out, hr7, ht7, HB6.out.setCell (Nat.le_refl _) _⟩
                    case measure => simp [intOf]; omega
                | false =>
                  have hz2 : ¬ (stays q v = true ∧ j = 1) := by
                    intro h
                    have := HZ.out
                    simp [h.1, h.2] at this
                  have hjt := HJT.out
                  rw [HE1.out] at hjt
                  have HJT2 := Lib.hid hjt
                  have HZ2 := Lib.hid hz2
                  have hjj := HJ.out
                  have HC := Lib.hid (IH.out ⟨o1, m1, k1⟩ v x A2 X F c2 cx cf wc ⟨HLD.out, HX1.out.up HBWD.out, HF1.out.up HBWD.out, HK.out.1, HK.out.2.2, HK.out.2.1, HI.out, HXS.out, HIX.out, HIV.out⟩)
                  have q0 := HRD.out.cell (i := 0) rfl
                  have q1 := HRD.out.cell (i := 1) rfl
                  have q2 := HRD.out.cell (i := 2) rfl
                  have p0 := (HREP.out.below HBWD.out HREP.out.size).cell (i := 0) rfl
                  have p1 := (HREP.out.below HBWD.out HREP.out.size).cell (i := 1) rfl
                  have p2 := (HREP.out.below HBWD.out HREP.out.size).cell (i := 2) rfl
                  have p3 := (HREP.out.below HBWD.out HREP.out.size).cell (i := 3) rfl
                  have p4 := (HREP.out.below HBWD.out HREP.out.size).cell (i := 4) rfl
                  clear hjt hz2
                  cases hput : putN f ⟨o1, m1, k1⟩ v x with
                  | none =>
                    have HSTOP := Lib.hid (kids_stop (by rw [if_neg HZ2.out]; exact hput) HJT2.out)
                    rw [hput] at HC
                    clear hput
                    go_wp2_with fail
                    refine HC.out.mono ?_
                    rintro e w5 ⟨oz, mz, Az, lz, cz, rfl, hb5⟩
                    have hb6 := HBWD.out.trans (hb5.mono HBWD.out.size)
                    have hbz := hb6.alloc hb6.size (Obj.cells #[Value.int .i64 oz, Value.int .i64 mz, Value.slice Az lz cz] 25)
                    have hres := HRES.out.below hbz HRES.out.size
                    have HRZ := Lib.hid hres
                    have HBZ := Lib.hid (HBW.out.trans (hbz.mono HBW.out.size))
                    clear hb5 hb6 hbz hres HC q0 q1 q2 p0 p1 p2 p3 p4
                    go_upto_region 16 with fail
                    have c0 := HRZ.out.cell (i := 0) rfl
                    have c1 := HRZ.out.cell (i := 1) rfl
                    have c2 := HRZ.out.cell (i := 2) rfl
                    have f0 := HRZ.out.free 0
                    have f1 := HRZ.out.free 1
                    have f2 := HRZ.out.free 2
                    have hres3 := ((HRZ.out.put 0 (.int .i64 0)).put 1 (.int .i64 0)).put 2 (.slice none 0 0)
                    have r0 := hres3.cell (i := 0) rfl
                    have r1 := hres3.cell (i := 1) rfl
                    have r2 := hres3.cell (i := 2) rfl
                    have hbc := ((HBZ.out.setCell (p := ⟨w.heap.size + 1 + 1, 0, none⟩) (by dsimp only; omega) (.int .i64 0)).setCell (p := ⟨w.heap.size + 1 + 1, 1, none⟩) (by dsimp only; omega) (.int .i64 0)).setCell (p := ⟨w.heap.size + 1 + 1, 2, none⟩) (by dsimp only; omega) (.slice none 0 0)
                    have HBC := Lib.hid hbc
                    clear hres3 hbc
                    go_wp2_with fail
                    refine bodyPost_ret (v := .tuple #[.agg #[.int .i64 0, .int .i64 0, .slice none 0 0], .bool false]) ?_ rfl (by
                      have hR2 := HRT.out
                      rw [HSTOP.out] at hR2
                      rw [hR2]
                      exact ⟨0, 0, none, 0, 0, rfl, HBC.out⟩)
                    simp [results, Try.f56, go_sem, r0, r1, r2]
                  | some a =>
                    have HSTEP := Lib.hid (kids_step (by rw [if_neg HZ2.out]; exact hput) HJT2.out)
                    have HAI := Lib.hid (putN_i64 (p := ⟨o1, m1, k1⟩) HI.out HIX.out hput)
                    rw [hput] at HC
                    clear hput
                    go_wp2_with fail
                    refine HC.out.mono ?_
                    rintro e w5 ⟨A5, c5, b5, rfl, ht5, hb5⟩
                    obtain ⟨wk, hwk⟩ : ∃ wk, wk = w5.alloc (Obj.cells #[Value.int .i64 a.op, Value.int .i64 a.n, Value.slice A5 a.k.len c5] 25) := ⟨_, rfl⟩
                    have hbk : Below w5.heap.size w5 wk := by rw [hwk]; exact (Below.refl _ _).alloc (Nat.le_refl _) _
                    have hrk : Row wk w5.heap.size 25 #[Value.int .i64 a.op, Value.int .i64 a.n, Value.slice A5 a.k.len c5] := by rw [hwk]; exact Row.fresh _ _ _
                    have hb6 := hb5.trans (hbk.mono hb5.size)
                    have HT5 := Lib.hid (HTD.out.over hb6)
                    have HK5 := Lib.hid ((ht5.over hbk).lower (base' := wb.heap.size + 1) (Nat.le_trans HWZ.out HWD.out.1))
                    have HD5 := Lib.hid (show ∀ b, b ∈ bs → b ∈ b5 → False from fun q h1 h2 => by
                      have e1 := (HTR.out.lt q h1).2
                      have e2 := (ht5.lt q h2).1
                      have e5 := HWD.out.1
                      omega)
                    have HROW5 := Lib.hid (HROWD.out.below hb6 HROWD.out.size)
                    have HB5 := Lib.hid (HBWD.out.trans (hb6.mono HBWD.out.size))
                    have HBOX := Lib.hid (show ∀ g, (Value.slice Ay pre.len cy).ownBlock = some g → wb.heap.size + 1 ≤ g ∧ g < wr.heap.size from fun g hg => by
                      obtain ⟨st, b1, k1', k2', rfl, _⟩ := HTR.out
                      exact blk_lt k1' (by unfold blkV; rw [hg]; simp))
                    have HRK := Lib.hid hrk
                    have HZ5 := Lib.hid (show wb.heap.size + 1 ≤ wk.heap.size from Nat.le_trans HWZ.out (Nat.le_trans HWD.out.1 hb6.size))
                    clear ht5 hb5 hbk hrk hb6 HC q0 q1 q2 p0 p1 p2 p3 p4
                    go_upto_region 17 with fail
                    rw [← hwk]
                    clear hwk
                    have q0 := HRK.out.cell (i := 0) rfl
                    have q1 := HRK.out.cell (i := 1) rfl
                    have q2 := HRK.out.cell (i := 2) rfl
                    have y2 := HROW5.out.cell (i := 2) rfl
                    go_wp2_with (at_builtin; refine wpList_push rfl _ _ rfl (wb.heap.size + 1) (.slice Ay pre.len cy) pre bs b5 a.op a.n a.k A5 c5 rfl rfl HT5.out HK5.out HAI.out HD5.out hpl2 HZ5.out ?_; intro v6 w6 bs6 ht6 hg6 hin6; obtain ⟨A6, c6, rfl, hc61, hc62⟩ := ht6.slice; have hr6 := row_grown HROW5.out hg6 (fun e => by have := HBOX.out _ e.symm; omega); have f3 := hr6.free 2; have u3 := hr6.cell (i := 2) rfl; have HR6 := Lib.hid hr6; have HT6 := Lib.hid ht6; have HB6 := Lib.hid (Below.grown HB5.out hg6 HB5.out.size (fun g' hg' => by have := HBOX.out g' hg'; omega)); clear hr6 ht6 hg6 hin6 hc61 hc62)
                    go_roundw
                    case rel =>
                      have hr7 := HR6.out.put 2 (.slice A6 (pre.snoc a.op a.n a.k).len c6)
                      have ht7 : Tree (w6.setCell ⟨wb.heap.size, 2, none⟩ (.slice A6 (pre.snoc a.op a.n a.k).len c6)) (wb.heap.size + 1) (.slice A6 (pre.snoc a.op a.n a.k).len c6) (pre.snoc a.op a.n a.k) bs6 :=
                        HT6.out.put (Nat.lt_succ_self _) _
                      exact ⟨j + 1, pre.snoc a.op a.n a.k, A6, c6, bs6, HJ.out, by go_num, by rw [Fo.snoc_len, HPL.out], HSTEP.out, hr7, ht7, HB6.out.setCell (Nat.le_refl _) _⟩
                    case measure => simp [intOf]; omega
            · have e9 : j = q.k.len := by omega
              rw [e9, Fo.drop_len] at hT
              have hR2 := HRT.out
              rw [kids_end hT] at hR2
              have HR2 := Lib.hid hR2
              have hres := HRES.out.below hb HRES.out.size
              have c0 := hres.cell (i := 0) rfl
              have c1 := hres.cell (i := 1) rfl
              have c2 := hres.cell (i := 2) rfl
              have q0 := hrow.cell (i := 0) rfl
              have q1 := hrow.cell (i := 1) rfl
              have q2 := hrow.cell (i := 2) rfl
              have f0 := hres.free 0
              have f1 := hres.free 1
              have f2 := hres.free 2
              have hres3 := ((hres.put 0 (.int .i64 q.op)).put 1 (.int .i64 q.n)).put 2 (.slice Ay pre.len cy)
              have r0 := hres3.cell (i := 0) rfl
              have r1 := hres3.cell (i := 1) rfl
              have r2 := hres3.cell (i := 2) rfl
              have hzz := HRES.out.size
              have hbc := (((HBW.out.trans (hb.mono HBW.out.size)).setCell (p := ⟨w.heap.size + 1 + 1, 0, none⟩) (by dsimp only; omega) (.int .i64 q.op)).setCell (p := ⟨w.heap.size + 1 + 1, 1, none⟩) (by dsimp only; omega) (.int .i64 q.n)).setCell (p := ⟨w.heap.size + 1 + 1, 2, none⟩) (by dsimp only; omega) (.slice Ay pre.len cy)
              have htc := ((ht.put (p := ⟨w.heap.size + 1 + 1, 0, none⟩) (by dsimp only; omega) (.int .i64 q.op)).put (p := ⟨w.heap.size + 1 + 1, 1, none⟩) (by dsimp only; omega) (.int .i64 q.n)).put (p := ⟨w.heap.size + 1 + 1, 2, none⟩) (by dsimp only; omega) (.slice Ay pre.len cy)
              have HTC := Lib.hid (htc.lower (base' := w.heap.size) (by have := HBW.out.size; omega))
              have HBC := Lib.hid hbc
              clear hres hres3 hzz hbc htc ht hb hrow hT hR2 hpl
              go_wp2_with fail
              refine bodyPost_ret (v := .tuple #[.agg #[.int .i64 q.op, .int .i64 q.n, .slice Ay pre.len cy], .bool true]) ?_ rfl (by rw [HR2.out]; exact ⟨Ay, cy, bs, rfl, HTC.out, HBC.out⟩)
              simp [results, Try.f56, go_sem, r0, r1, r2]
end Go.Proofs.Ytjlaabipgppijaa

namespace Go.Proofs.Ytjlaabipgppijaa
open Go.RowKit Go.Shelf
set_option maxRecDepth 100000

theorem PutPost.opened {r : Option Nd} {w w' : World} {e : Ending} (h : PutPost r w e w') : ∃ (o m : Int) (A : Option Addr) (l c : Nat), e = .returned (.tuple #[.agg #[.int .i64 o, .int .i64 m, .slice A l c], .bool r.isSome]) ∧ Below w.heap.size w w' ∧
    (∀ y, r = some y → o = y.op ∧ m = y.n ∧ l = y.k.len ∧ ∃ bs, Tree w' w.heap.size (.slice A l c) y.k bs) := by
  cases r with
  | none =>
    obtain ⟨o, m, A, l, c, h1, h2⟩ := h
    exact ⟨o, m, A, l, c, h1, h2, fun y hy => by cases hy⟩
  | some y =>
    obtain ⟨A, c, bs, h1, h2, h3⟩ := h
    exact ⟨y.op, y.n, A, y.k.len, c, h1, h3, fun z hz => by cases hz; exact ⟨rfl, rfl, rfl, bs, h2⟩⟩
theorem PutPost.closed {r : Option Nd} {w w' : World} {o m : Int} {A : Option Addr} {l c : Nat} (hb : Below w.heap.size w w') (h : ∀ y, r = some y → o = y.op ∧ m = y.n ∧ l = y.k.len ∧ ∃ bs, Tree w' w.heap.size (.slice A l c) y.k bs) :
    PutPost r w (.returned (.tuple #[.agg #[.int .i64 o, .int .i64 m, .slice A l c], .bool r.isSome])) w' := by
  cases r with
  | none => exact ⟨o, m, A, l, c, rfl, hb⟩
  | some y =>
    obtain ⟨rfl, rfl, rfl, bs, ht⟩ := h y rfl
    exact ⟨A, c, bs, rfl, ht, hb⟩
theorem cell_apart (w : World) {p q : Addr} (h : p.block ≠ q.block) (v : Value) : (w.setCell p v).cell? q = w.cell? q := World.cell?_setCell_other w p q v (fun e => h (by rw [e]))

set_option maxHeartbeats 2000000 in
theorem rep_any (f : Nat) (ih : InC f) (p : Nd) (v : Int) (x : Nd) (A X : Option Addr) (c cx : Nat) (w : World) (hl : Lies w 0 w.heap.size A 0 p.k) (hx : Lies w 0 w.heap.size X 0 x.k) (hsz : p.k.size < f) (hsm : smallOk p.k 14 80 = true) (hfit : FitN p) (hip : I64 p.op ∧ I64 p.n)
    (hxs : smallOk x.k 14 80 = true) (hix : I64 x.op ∧ I64 x.n) (hv : I64 v) (hc1 : x.k.len ≤ cx) (hc2 : cx ≤ maxLen) :
    Calls Try.prog 38 #[.agg #[.int .i64 p.op, .int .i64 p.n, .slice A p.k.len c], .int .i64 v, .agg #[.int .i64 x.op, .int .i64 x.n, .slice X x.k.len cx]] w (PutPost (putN f p v x) w) := by
  obtain ⟨hb, r1, r2, r3⟩ := three_boxes w 25 25 25 #[Value.int IntKind.i64 p.op, Value.int IntKind.i64 p.n, Value.slice A p.k.len c] #[Value.int IntKind.i64 x.op, Value.int IntKind.i64 x.n, Value.slice X x.k.len cx] #[.int .i64 0, .int .i64 0, .slice none 0 0]
  obtain ⟨W, hW⟩ : ∃ W, W = ((w.alloc (Obj.cells #[Value.int IntKind.i64 p.op, Value.int IntKind.i64 p.n, Value.slice A p.k.len c] 25)).alloc (Obj.cells #[Value.int IntKind.i64 x.op, Value.int IntKind.i64 x.n, Value.slice X x.k.len cx] 25)).alloc (Obj.cells #[.int .i64 0, .int .i64 0, .slice none 0 0] 25) := ⟨_, rfl⟩
  rw [← hW] at hb r1 r2 r3
  have b0 : Below W.heap.size W W.drew := (Below.refl _ _).drew
  have hz1 := r1.size
  have hz2 := r2.size
  have hS : ∀ w' : World, Below W.heap.size W w' → w'.cell? ⟨w.heap.size, 0, none⟩ = some (Value.int .i64 p.op) ∧ w'.cell? ⟨w.heap.size, 1, none⟩ = some (Value.int .i64 p.n) ∧ w'.cell? ⟨w.heap.size, 2, none⟩ = some (Value.slice A p.k.len c) ∧ w'.cell? ⟨w.heap.size + 1, 0, none⟩ = some (Value.int .i64 x.op) ∧ w'.cell? ⟨w.heap.size + 1, 1, none⟩ = some (Value.int .i64 x.n) ∧ w'.cell? ⟨w.heap.size + 1, 2, none⟩ = some (Value.slice X x.k.len cx) := fun w' hb =>
    ⟨(hb.cell (p := ⟨w.heap.size, 0, none⟩) hz1).trans (r1.cell (i := 0) rfl), (hb.cell (p := ⟨w.heap.size, 1, none⟩) hz1).trans (r1.cell (i := 1) rfl), (hb.cell (p := ⟨w.heap.size, 2, none⟩) hz1).trans (r1.cell (i := 2) rfl),
      (hb.cell (p := ⟨w.heap.size + 1, 0, none⟩) hz2).trans (r2.cell (i := 0) rfl), (hb.cell (p := ⟨w.heap.size + 1, 1, none⟩) hz2).trans (r2.cell (i := 1) rfl), (hb.cell (p := ⟨w.heap.size + 1, 2, none⟩) hz2).trans (r2.cell (i := 2) rfl)⟩
  have hSet : ∀ (w' : World) (i : Nat) (u : Value), w'.cell? ⟨w.heap.size, 0, none⟩ = some (Value.int .i64 p.op) ∧ w'.cell? ⟨w.heap.size, 1, none⟩ = some (Value.int .i64 p.n) ∧ w'.cell? ⟨w.heap.size, 2, none⟩ = some (Value.slice A p.k.len c) ∧ w'.cell? ⟨w.heap.size + 1, 0, none⟩ = some (Value.int .i64 x.op) ∧ w'.cell? ⟨w.heap.size + 1, 1, none⟩ = some (Value.int .i64 x.n) ∧ w'.cell? ⟨w.heap.size + 1, 2, none⟩ = some (Value.slice X x.k.len cx) →
      (w'.setCell ⟨w.heap.size + 1 + 1, i, none⟩ u).cell? ⟨w.heap.size, 0, none⟩ = some (Value.int .i64 p.op) ∧ (w'.setCell ⟨w.heap.size + 1 + 1, i, none⟩ u).cell? ⟨w.heap.size, 1, none⟩ = some (Value.int .i64 p.n) ∧ (w'.setCell ⟨w.heap.size + 1 + 1, i, none⟩ u).cell? ⟨w.heap.size, 2, none⟩ = some (Value.slice A p.k.len c) ∧ (w'.setCell ⟨w.heap.size + 1 + 1, i, none⟩ u).cell? ⟨w.heap.size + 1, 0, none⟩ = some (Value.int .i64 x.op) ∧ (w'.setCell ⟨w.heap.size + 1 + 1, i, none⟩ u).cell? ⟨w.heap.size + 1, 1, none⟩ = some (Value.int .i64 x.n) ∧ (w'.setCell ⟨w.heap.size + 1 + 1, i, none⟩ u).cell? ⟨w.heap.size + 1, 2, none⟩ = some (Value.slice X x.k.len cx) := by
    rintro w' i u ⟨h1, h2, h3, h4, h5, h6⟩
    refine ⟨(cell_apart w' ?_ u).trans h1, (cell_apart w' ?_ u).trans h2, (cell_apart w' ?_ u).trans h3, (cell_apart w' ?_ u).trans h4, (cell_apart w' ?_ u).trans h5, (cell_apart w' ?_ u).trans h6⟩ <;> dsimp only <;> omega
  have HSS := Lib.hid hS
  have HSET := Lib.hid hSet
  have CF := Lib.hid (show Calls Try.prog 11 #[.agg #[.int .i64 x.op, .int .i64 x.n, .slice X x.k.len cx]] W.drew (ListPost (freeP x) W.drew) from implFree_r x.op x.n x.k X cx 0 W.drew.heap.size W.drew ((hx.up hb).up b0) (Nat.le_refl _) (RowsIf.small hxs) hc1 hc2 (Nat.le_trans (small_size hxs) (by decide)))
  have HL := Lib.hid (hl.up hb)
  have HX := Lib.hid (hx.up hb)
  have HB := Lib.hid hb
  have HR3 := Lib.hid r3
  have B0 := Lib.hid b0
  have s0 := hS _ b0
  have IH := Lib.hid ih
  have HP := Lib.hid (And.intro hsz (And.intro hsm (And.intro hfit (And.intro hip (And.intro hxs (And.intro hix hv))))))
  clear hS hSet hz1 hz2 hx hl r1 r2 r3 hb b0 ih hsz hsm hfit hip hxs hix hv hc1 hc2
  obtain ⟨R, hR⟩ : ∃ R, R = putN f p v x := ⟨_, rfl⟩
  have HRR := Lib.hid hR
  rw [← hR]
  clear hR
  go_enter Try.func38, Try.ntmps38
  go_wp2_with fail
  rw [← hW]
  clear hW
  go_region_held3 (fun w' => w'.cell? ⟨w.heap.size, 0, none⟩ = some (Value.int .i64 p.op) ∧ w'.cell? ⟨w.heap.size, 1, none⟩ = some (Value.int .i64 p.n) ∧ w'.cell? ⟨w.heap.size, 2, none⟩ = some (Value.slice A p.k.len c) ∧ w'.cell? ⟨w.heap.size + 1, 0, none⟩ = some (Value.int .i64 x.op) ∧ w'.cell? ⟨w.heap.size + 1, 1, none⟩ = some (Value.int .i64 x.n) ∧ w'.cell? ⟨w.heap.size + 1, 2, none⟩ = some (Value.slice X x.k.len cx))
    (first | with_reducible exact s0 | with_reducible exact s5 | with_reducible exact s6 | with_reducible exact s7 | fail)
    (first
      | (go_at_call 56
         with_reducible refine CI.out.mono ?_
         rintro e w6 hpp
         obtain ⟨o6, m6, A6, l6, c6, rfl, hb6, hy6⟩ := PutPost.opened hpp
         rw [← HRR.out] at hy6
         rw [← HRR.out]
         have B6 := Lib.hid (B5.out.trans (hb6.mono B5.out.size))
         have s6 := HSS.out _ B6.out
         have hr6 := HR3.out.below B6.out HR3.out.size
         have f0 := hr6.free 0
         have f1 := hr6.free 1
         have f2 := hr6.free 2
         have c0 := hr6.cell (i := 0) rfl
         have c1 := hr6.cell (i := 1) rfl
         have c2 := hr6.cell (i := 2) rfl
         have s7 := HSET.out _ 2 (.slice A6 l6 c6) (HSET.out _ 1 (.int .i64 m6) (HSET.out _ 0 (.int .i64 o6) s6))
         have HY6 := Lib.hid (show ∀ y, R = some y → o6 = y.op ∧ m6 = y.n ∧ l6 = y.k.len ∧ ∃ bs, Tree w6 W.heap.size (.slice A6 l6 c6) y.k bs from fun y hy => by
           obtain ⟨h1, h2, h3, bs, ht⟩ := hy6 y hy
           exact ⟨h1, h2, h3, bs, ht.lower B5.out.size⟩)
         have HR6 := Lib.hid hr6
         clear hpp hb6 hy6 hr6)
      | (go_at_call 11
         with_reducible refine CF.out.mono ?_
         rintro e w5 ⟨v5, rfl, ho5, hb5⟩
         obtain ⟨A5, c5, rfl, hI5⟩ := own_ints ho5 (fun y hy => freeUpto_small x.op x.n x.k 8 y (by decide) hy)
         have B5 := Lib.hid (B0.out.trans (hb5.mono B0.out.size))
         have CI := Lib.hid (IH.out p v x A X A5 c cx c5 w5 ⟨HL.out.up B5.out, HX.out.up B5.out, hI5.mono_ (Nat.zero_le _) (Nat.le_refl _), HP.out.1, HP.out.2.1, HP.out.2.2.1, HP.out.2.2.2.1, HP.out.2.2.2.2.1, HP.out.2.2.2.2.2.1, HP.out.2.2.2.2.2.2⟩)
         have s5 := HSS.out _ B5.out
         clear ho5 hb5 hI5)
      | fail)
  all_goals
    have hr7 := ((HR6.out.put 0 (.int .i64 o6)).put 1 (.int .i64 m6)).put 2 (.slice A6 l6 c6)
    have r0 := hr7.cell (i := 0) rfl
    have r1 := hr7.cell (i := 1) rfl
    have r2 := hr7.cell (i := 2) rfl
    have HBC := Lib.hid (((((HB.out.trans (B6.out.mono HB.out.size)).setCell (p := ⟨w.heap.size + 1 + 1, 0, none⟩) (by dsimp only; omega) (.int .i64 o6)).setCell (p := ⟨w.heap.size + 1 + 1, 1, none⟩) (by dsimp only; omega) (.int .i64 m6)).setCell (p := ⟨w.heap.size + 1 + 1, 2, none⟩) (by dsimp only; omega) (.slice A6 l6 c6)))
    have HYC := Lib.hid (show ∀ y, R = some y → o6 = y.op ∧ m6 = y.n ∧ l6 = y.k.len ∧ ∃ bs, Tree (((w6.setCell ⟨w.heap.size + 1 + 1, 0, none⟩ (.int .i64 o6)).setCell ⟨w.heap.size + 1 + 1, 1, none⟩ (.int .i64 m6)).setCell ⟨w.heap.size + 1 + 1, 2, none⟩ (.slice A6 l6 c6)) w.heap.size (.slice A6 l6 c6) y.k bs from fun y hy => by
      obtain ⟨h1, h2, h3, bs, ht⟩ := HY6.out y hy
      have hz3 := HR3.out.size
      exact ⟨h1, h2, h3, bs, (((ht.put (p := ⟨w.heap.size + 1 + 1, 0, none⟩) hz3 (.int .i64 o6)).put (p := ⟨w.heap.size + 1 + 1, 1, none⟩) hz3 (.int .i64 m6)).put (p := ⟨w.heap.size + 1 + 1, 2, none⟩) hz3 (.slice A6 l6 c6)).lower HB.out.size⟩)
    clear hr7
    go_wp2_with fail
    refine bodyPost_ret (v := .tuple #[.agg #[.int .i64 o6, .int .i64 m6, .slice A6 l6 c6], .bool R.isSome]) ?_ rfl (PutPost.closed HBC.out HYC.out)
    simp [results, Try.f38, go_sem, r0, r1, r2]

/-- A list of two nodes that a call has made. -/
theorem tree_pair {w : World} {base g : Nat} {a b : Nd} {Aa Ab : Option Addr} {ca cb : Nat} {ba bb : List Nat} (hr : Row w g 25 #[.int .i64 a.op, .int .i64 a.n, .slice Aa a.k.len ca, .int .i64 b.op, .int .i64 b.n, .slice Ab b.k.len cb]) (hg : base ≤ g)
    (ha : Tree w base (.slice Aa a.k.len ca) a.k ba) (hb : Tree w base (.slice Ab b.k.len cb) b.k bb) (hd : ∀ q, q ∈ ba → q ∈ bb → False) (hga : g ∉ ba) (hgb : g ∉ bb) (ia : I64 a.op ∧ I64 a.n) (ib : I64 b.op ∧ I64 b.n) :
    ∃ bs, Tree w base (.slice (some ⟨g, 0, none⟩) 2 2) (pair a b) bs := by
  obtain ⟨sa, b1, h1, h2, rfl, h4⟩ := ha
  obtain ⟨sb, b2, k1, k2, rfl, k4⟩ := hb
  rw [blkV_slice] at h4
  rw [blkV_slice] at k4
  rw [blkV_slice] at hga
  rw [blkV_slice] at hgb
  refine ⟨_, [⟨a.op, a.n, a.k, Aa, ca⟩, ⟨b.op, b.n, b.k, Ab, cb⟩], (blkOf Aa ++ b1) ++ ((blkOf Ab ++ b2) ++ []), ⟨rfl, .inr ⟨g, 2, _, rfl, hg, hr, Nat.le_refl _, by decide, rfl, rfl⟩⟩,
    ⟨Aa, ca, sa, b1, _, _, ia, h1, h2, rfl, ⟨Ab, cb, sb, b2, [], [], ib, k1, k2, rfl, ⟨rfl, rfl⟩, rfl⟩, rfl⟩, rfl, ?_⟩
  rw [blkV_slice, List.append_nil]
  refine List.nodup_append.2 ⟨by simp [blkOf], List.nodup_append.2 ⟨h4, k4, fun p hp q hq e => hd p (by rw [blkV_slice]; exact hp) (by rw [blkV_slice, e]; exact hq)⟩, ?_⟩
  intro p hp q hq e
  simp only [blkOf, List.mem_singleton] at hp
  subst hp
  subst e
  rcases List.mem_append.1 hq with h | h
  · exact hga h
  · exact hgb h

set_option maxHeartbeats 4000000 in
theorem bound_of (f : Nat) (ih : InC f) : BoundC f := by
  rintro n ⟨oa, ma, ka⟩ ⟨ob, mb, kb⟩ q u A c w hl hu hq hsz hsm hsa hfit hn
  dsimp only at hsz hsm hsa
  obtain ⟨hb, r1, r2⟩ := two_boxes w 25 25 #[Value.int IntKind.i64 7, Value.int IntKind.i64 n, Value.slice A 2 c] #[Value.int IntKind.i64 0, Value.int IntKind.i64 0, Value.slice none 0 0]
  obtain ⟨W, hW⟩ : ∃ W, W = (w.alloc (Obj.cells #[Value.int IntKind.i64 7, Value.int IntKind.i64 n, Value.slice A 2 c] 25)).alloc (Obj.cells #[Value.int IntKind.i64 0, Value.int IntKind.i64 0, Value.slice none 0 0] 25) := ⟨_, rfl⟩
  rw [← hW] at hb r1 r2
  have hl0 := hl
  have hlW := hl.up hb
  obtain ⟨⟨b, o, A8, c8, hA, _, hbb, j1, j2, g1, g2, g3, h1, h2, h3⟩, ⟨b', o', A9, c9, hA9, _, _, j3, j4, g4, g5, g6, h4, h5, h6⟩, _⟩ := hlW
  subst hA
  injection hA9 with hA9
  injection hA9 with e1 e2
  subst e1 e2
  have hbn : b < w.heap.size := by
    obtain ⟨⟨b3, o3, _, _, hA3, _, hb3, _⟩, _⟩ := hl0
    injection hA3 with hA3
    injection hA3 with e1 e2
    omega
  have HBN := Lib.hid hbn
  have hz1 := r1.size
  have hS1 : ∀ w' : World, Below W.heap.size W w' → w'.cell? ⟨w.heap.size, 1, none⟩ = some (Value.int .i64 n) ∧ w'.cell? ⟨w.heap.size, 2, none⟩ = some (Value.slice (some ⟨b, o, none⟩) 2 c) ∧ w'.cell? ⟨b, o + 3, none⟩ = some (Value.int .i64 ob) ∧ w'.cell? ⟨b, o + 4, none⟩ = some (Value.int .i64 mb) ∧ w'.cell? ⟨b, o + 5, none⟩ = some (Value.slice A9 kb.len c9) := fun w' hb =>
    ⟨(hb.cell (p := ⟨w.heap.size, 1, none⟩) hz1).trans (r1.cell (i := 1) rfl), (hb.cell (p := ⟨w.heap.size, 2, none⟩) hz1).trans (r1.cell (i := 2) rfl),
      (hb.cell (p := ⟨b, o + 3, none⟩) hbb).trans g4, (hb.cell (p := ⟨b, o + 4, none⟩) hbb).trans g5, (hb.cell (p := ⟨b, o + 5, none⟩) hbb).trans g6⟩
  have g1' : W.cell? ⟨b, o, none⟩ = some (Value.int .i64 oa) := by simpa using g1
  have g2' : W.cell? ⟨b, o + 1, none⟩ = some (Value.int .i64 ma) := by simpa using g2
  have g3' : W.cell? ⟨b, o + 2, none⟩ = some (Value.slice A8 ka.len c8) := by simpa using g3
  have hS2 : ∀ w' : World, Below W.heap.size W w' → w'.cell? ⟨w.heap.size, 2, none⟩ = some (Value.slice (some ⟨b, o, none⟩) 2 c) ∧ w'.cell? ⟨b, o, none⟩ = some (Value.int .i64 oa) ∧ w'.cell? ⟨b, o + 1, none⟩ = some (Value.int .i64 ma) ∧ w'.cell? ⟨b, o + 2, none⟩ = some (Value.slice A8 ka.len c8) := fun w' hb =>
    ⟨(hb.cell (p := ⟨w.heap.size, 2, none⟩) hz1).trans (r1.cell (i := 2) rfl), (hb.cell (p := ⟨b, o, none⟩) hbb).trans g1', (hb.cell (p := ⟨b, o + 1, none⟩) hbb).trans g2', (hb.cell (p := ⟨b, o + 2, none⟩) hbb).trans g3'⟩
  have hxs : smallOk (⟨2, (u : Int), .nil⟩ : Nd).k 14 80 = true := rfl
  have hix : I64 (⟨2, (u : Int), .nil⟩ : Nd).op ∧ I64 (⟨2, (u : Int), .nil⟩ : Nd).n := by unfold I64; dsimp only; omega
  have HREP := Lib.hid (show ∀ w' : World, Below W.heap.size W w' → Calls Try.prog 38 #[.agg #[.int .i64 ob, .int .i64 mb, .slice A9 kb.len c9], .int .i64 n, .agg #[.int .i64 2, .int .i64 (u : Int), .slice none 0 0]] w' (PutPost (some q) w') from fun w' hb => by
    rw [← hq]
    exact rep_any f ih ⟨ob, mb, kb⟩ n ⟨2, (u : Int), .nil⟩ A9 none c9 0 w' (h6.up hb) trivial hsz hsm hfit ⟨j3, j4⟩ hxs hix hn (Nat.zero_le _) (by decide))
  have HCPY := Lib.hid (show ∀ w' : World, Below W.heap.size W w' → Calls Try.prog 46 #[.agg #[.int .i64 oa, .int .i64 ma, .slice A8 ka.len c8]] w' (Makes oa ma ka w') from fun w' hb =>
    copyOf_any ka.size oa ma ka A8 c8 w' rfl (h3.up hb) (Nat.le_trans (small_size hsa) (by decide)) ⟨j1, j2⟩)
  have HQI := Lib.hid (putN_i64 (p := ⟨ob, mb, kb⟩) ⟨j3, j4⟩ hix hq)
  have HIA := Lib.hid (And.intro j1 j2)
  have HS1 := Lib.hid hS1
  have HS2 := Lib.hid hS2
  have HB := Lib.hid hb
  have HR2 := Lib.hid r2
  have hzW : W.heap.size = w.heap.size + 1 + 1 := by rw [hW]; simp
  have HZW := Lib.hid hzW
  have HBB := Lib.hid (And.intro hbb hz1)
  clear hl0 hbn hS1 hS2 hl r1 r2 hb hz1 hbb j1 j2 j3 j4 g1 g2 g3 g1' g2' g3' g4 g5 g6 h1 h2 h3 h4 h5 h6 hxs hix hq hsz hsm hsa hfit hn hzW ih
  go_enter Try.func27, Try.ntmps27
  go_upto_region 1 with fail
  rw [← hW]
  clear hW
  go_cut [5] from 6 to 18 (fun p wd => ∃ g A5 c5 b5, p = .pointer (some ⟨g, 0, none⟩) ∧ Row wd g 25 #[.int .i64 q.op, .int .i64 q.n, .slice A5 q.k.len c5] ∧ W.heap.size ≤ g ∧ Tree wd W.heap.size (.slice A5 q.k.len c5) q.k b5 ∧ Below W.heap.size W wd)
  case first =>
    have b0 : Below W.heap.size W W.drew := (Below.refl _ _).drew
    have bp : Below W.heap.size W (W.alloc (Obj.cells #[Value.int .i64 0, Value.int .i64 0, Value.slice none 0 0] 25)).drew := ((Below.refl _ _).alloc (Nat.le_refl _) _).drew
    have CA := Lib.hid (HREP.out _ bp)
    have CB := Lib.hid (HREP.out _ b0)
    have s0 := HS1.out _ b0
    have sp := HS1.out _ bp
    have B0 := Lib.hid b0
    have BP := Lib.hid bp
    have RP := Lib.hid (show Row (W.alloc (Obj.cells #[Value.int .i64 0, Value.int .i64 0, Value.slice none 0 0] 25)).drew W.heap.size 25 #[Value.int .i64 0, Value.int .i64 0, Value.slice none 0 0] from (Row.fresh _ _ _).drew)
    have hza : (W.alloc (Obj.cells #[Value.int .i64 0, Value.int .i64 0, Value.slice none 0 0] 25)).drew.heap.size = W.heap.size + 1 := by simp
    have HZA := Lib.hid hza
    clear b0 bp hza
    go_region_held3 (fun w' => w'.cell? ⟨w.heap.size, 1, none⟩ = some (Value.int .i64 n) ∧ w'.cell? ⟨w.heap.size, 2, none⟩ = some (Value.slice (some ⟨b, o, none⟩) 2 c) ∧ w'.cell? ⟨b, o + 3, none⟩ = some (Value.int .i64 ob) ∧ w'.cell? ⟨b, o + 4, none⟩ = some (Value.int .i64 mb) ∧ w'.cell? ⟨b, o + 5, none⟩ = some (Value.slice A9 kb.len c9))
      (first | with_reducible exact s0 | with_reducible exact sp | with_reducible exact s5 | with_reducible exact s6 | with_reducible exact s5z | fail)
      (first
        | (go_at_call 38
           with_reducible refine CA.out.mono ?_
           rintro e w5 ⟨A5, c5, b5, rfl, ht5, hb5⟩
           have hb := BP.out.trans (hb5.mono BP.out.size)
           have r5 := RP.out.below hb5 RP.out.size
           have f0 := r5.free 0
           have f1 := r5.free 1
           have f2 := r5.free 2
           have c0 := r5.cell (i := 0) rfl
           have c1 := r5.cell (i := 1) rfl
           have c2 := r5.cell (i := 2) rfl
           have hbs := ((hb.setCell (p := ⟨W.heap.size, 0, none⟩) (Nat.le_refl _) (.int .i64 q.op)).setCell (p := ⟨W.heap.size, 1, none⟩) (Nat.le_refl _) (.int .i64 q.n)).setCell (p := ⟨W.heap.size, 2, none⟩) (Nat.le_refl _) (.slice A5 q.k.len c5)
           have s5 := HS1.out _ hb
           have s6 := HS1.out _ hbs
           rw [HZA.out] at ht5
           have htp : Tree (((w5.setCell ⟨W.heap.size, 0, none⟩ (.int .i64 q.op)).setCell ⟨W.heap.size, 1, none⟩ (.int .i64 q.n)).setCell ⟨W.heap.size, 2, none⟩ (.slice A5 q.k.len c5)) W.heap.size (.slice A5 q.k.len c5) q.k b5 := (((ht5.put (p := ⟨W.heap.size, 0, none⟩) (Nat.lt_succ_self _) _).put (p := ⟨W.heap.size, 1, none⟩) (Nat.lt_succ_self _) _).put (p := ⟨W.heap.size, 2, none⟩) (Nat.lt_succ_self _) _).lower (Nat.le_succ _)
           have HEND := Lib.hid (show ∃ g A6 c6 b6, Value.pointer (some ⟨W.heap.size, 0, none⟩) = .pointer (some ⟨g, 0, none⟩) ∧ Row (((w5.setCell ⟨W.heap.size, 0, none⟩ (.int .i64 q.op)).setCell ⟨W.heap.size, 1, none⟩ (.int .i64 q.n)).setCell ⟨W.heap.size, 2, none⟩ (.slice A5 q.k.len c5)) g 25 #[.int .i64 q.op, .int .i64 q.n, .slice A6 q.k.len c6] ∧ W.heap.size ≤ g ∧ Tree (((w5.setCell ⟨W.heap.size, 0, none⟩ (.int .i64 q.op)).setCell ⟨W.heap.size, 1, none⟩ (.int .i64 q.n)).setCell ⟨W.heap.size, 2, none⟩ (.slice A5 q.k.len c5)) W.heap.size (.slice A6 q.k.len c6) q.k b6 ∧ Below W.heap.size W (((w5.setCell ⟨W.heap.size, 0, none⟩ (.int .i64 q.op)).setCell ⟨W.heap.size, 1, none⟩ (.int .i64 q.n)).setCell ⟨W.heap.size, 2, none⟩ (.slice A5 q.k.len c5)) from
             ⟨W.heap.size, A5, c5, b5, rfl, ((r5.put 0 _).put 1 _).put 2 _, Nat.le_refl _, htp, hbs⟩)
           clear ht5 hb5 hb r5 hbs htp)
        | (go_at_call 38
           with_reducible refine CB.out.mono ?_
           rintro e w5 ⟨A5, c5, b5, rfl, ht5, hb5⟩
           have hb := B0.out.trans (hb5.mono B0.out.size)
           have hbl := (Below.refl w5.heap.size w5).alloc (Nat.le_refl _) (Obj.cells #[Value.int .i64 q.op, Value.int .i64 q.n, Value.slice A5 q.k.len c5] 25)
           have hba := hb.trans (hbl.mono hb.size)
           have s5 := HS1.out _ hb
           have s6 := HS1.out _ hba
           have s5z := HS1.out _ (hb.alloc hb.size (Obj.cells #[Value.int .i64 0, Value.int .i64 0, Value.slice none 0 0] 25))
           have HEND := Lib.hid (show ∃ g A6 c6 b6, Value.pointer (some ⟨w5.heap.size, 0, none⟩) = .pointer (some ⟨g, 0, none⟩) ∧ Row (w5.alloc (Obj.cells #[Value.int .i64 q.op, Value.int .i64 q.n, Value.slice A5 q.k.len c5] 25)) g 25 #[.int .i64 q.op, .int .i64 q.n, .slice A6 q.k.len c6] ∧ W.heap.size ≤ g ∧ Tree (w5.alloc (Obj.cells #[Value.int .i64 q.op, Value.int .i64 q.n, Value.slice A5 q.k.len c5] 25)) W.heap.size (.slice A6 q.k.len c6) q.k b6 ∧ Below W.heap.size W (w5.alloc (Obj.cells #[Value.int .i64 q.op, Value.int .i64 q.n, Value.slice A5 q.k.len c5] 25)) from
             ⟨w5.heap.size, A5, c5, b5, rfl, Row.fresh _ _ _, hb.size, ht5.over hbl, hba⟩)
           clear ht5 hb5 hb hbl hba)
        | fail)
    all_goals
      go_wp2_with fail
      go_meet
      exact HEND.out
  case rest =>
    obtain ⟨g, A5, c5, b5, rfl, hrg, hgW, ht5, hbd⟩ := hcut
    have hgz := hrg.size
    have hW2 := HS2.out
    have hS : ∀ w' : World, Below wc.heap.size wc w' → w'.cell? ⟨w.heap.size, 2, none⟩ = some (Value.slice (some ⟨b, o, none⟩) 2 c) ∧ w'.cell? ⟨b, o, none⟩ = some (Value.int .i64 oa) ∧ w'.cell? ⟨b, o + 1, none⟩ = some (Value.int .i64 ma) ∧ w'.cell? ⟨b, o + 2, none⟩ = some (Value.slice A8 ka.len c8) ∧ w'.cell? ⟨g, 0, none⟩ = some (Value.int .i64 q.op) ∧ w'.cell? ⟨g, 1, none⟩ = some (Value.int .i64 q.n) ∧ w'.cell? ⟨g, 2, none⟩ = some (Value.slice A5 q.k.len c5) := fun w' hb => by
      obtain ⟨t1, t2, t3, t4⟩ := HS2.out w' (hbd.trans (hb.mono hbd.size))
      exact ⟨t1, t2, t3, t4, (hb.cell (p := ⟨g, 0, none⟩) hgz).trans (hrg.cell (i := 0) rfl), (hb.cell (p := ⟨g, 1, none⟩) hgz).trans (hrg.cell (i := 1) rfl), (hb.cell (p := ⟨g, 2, none⟩) hgz).trans (hrg.cell (i := 2) rfl)⟩
    have hne : b ≠ w.heap.size + 1 ∨ True := .inr trivial
    have HRD := Lib.hid (HR2.out.below hbd HR2.out.size)
    have b0 : Below wc.heap.size wc wc.drew := (Below.refl _ _).drew
    have CC := Lib.hid (HCPY.out wc.drew (hbd.trans (b0.mono hbd.size)))
    have HSS := Lib.hid hS
    have HT5 := Lib.hid ht5
    have HBD := Lib.hid hbd
    have B0 := Lib.hid b0
    have s0 := hS _ b0
    have HGW := Lib.hid (And.intro hgW hgz)
    have HSET := Lib.hid (show ∀ (w' : World) (i : Nat) (u' : Value), (w'.cell? ⟨w.heap.size, 2, none⟩ = some (Value.slice (some ⟨b, o, none⟩) 2 c) ∧ w'.cell? ⟨b, o, none⟩ = some (Value.int .i64 oa) ∧ w'.cell? ⟨b, o + 1, none⟩ = some (Value.int .i64 ma) ∧ w'.cell? ⟨b, o + 2, none⟩ = some (Value.slice A8 ka.len c8) ∧ w'.cell? ⟨g, 0, none⟩ = some (Value.int .i64 q.op) ∧ w'.cell? ⟨g, 1, none⟩ = some (Value.int .i64 q.n) ∧ w'.cell? ⟨g, 2, none⟩ = some (Value.slice A5 q.k.len c5)) → (w'.setCell ⟨w.heap.size + 1, i, none⟩ u').cell? ⟨w.heap.size, 2, none⟩ = some (Value.slice (some ⟨b, o, none⟩) 2 c) ∧ (w'.setCell ⟨w.heap.size + 1, i, none⟩ u').cell? ⟨b, o, none⟩ = some (Value.int .i64 oa) ∧ (w'.setCell ⟨w.heap.size + 1, i, none⟩ u').cell? ⟨b, o + 1, none⟩ = some (Value.int .i64 ma) ∧ (w'.setCell ⟨w.heap.size + 1, i, none⟩ u').cell? ⟨b, o + 2, none⟩ = some (Value.slice A8 ka.len c8) ∧ (w'.setCell ⟨w.heap.size + 1, i, none⟩ u').cell? ⟨g, 0, none⟩ = some (Value.int .i64 q.op) ∧ (w'.setCell ⟨w.heap.size + 1, i, none⟩ u').cell? ⟨g, 1, none⟩ = some (Value.int .i64 q.n) ∧ (w'.setCell ⟨w.heap.size + 1, i, none⟩ u').cell? ⟨g, 2, none⟩ = some (Value.slice A5 q.k.len c5) from fun w' i u' => by
      rintro ⟨t1, t2, t3, t4, t5, t6, t7⟩
      have hz := HZW.out
      have hg2 := HGW.out.1
      have hbn := HBN.out
      refine ⟨(cell_apart w' ?_ u').trans t1, (cell_apart w' ?_ u').trans t2, (cell_apart w' ?_ u').trans t3, (cell_apart w' ?_ u').trans t4, (cell_apart w' ?_ u').trans t5, (cell_apart w' ?_ u').trans t6, (cell_apart w' ?_ u').trans t7⟩ <;> dsimp only <;> omega)
    clear hW2 hS hne hrg hgW hgz ht5 hbd b0
    go_wp2_with fail
    go_region_held3 (fun w' => w'.cell? ⟨w.heap.size, 2, none⟩ = some (Value.slice (some ⟨b, o, none⟩) 2 c) ∧ w'.cell? ⟨b, o, none⟩ = some (Value.int .i64 oa) ∧ w'.cell? ⟨b, o + 1, none⟩ = some (Value.int .i64 ma) ∧ w'.cell? ⟨b, o + 2, none⟩ = some (Value.slice A8 ka.len c8) ∧ w'.cell? ⟨g, 0, none⟩ = some (Value.int .i64 q.op) ∧ w'.cell? ⟨g, 1, none⟩ = some (Value.int .i64 q.n) ∧ w'.cell? ⟨g, 2, none⟩ = some (Value.slice A5 q.k.len c5))
      (first | with_reducible exact s0 | with_reducible exact s6 | with_reducible exact s7 | with_reducible exact s8 | fail)
      (first
        | (go_at_call 46
           with_reducible refine CC.out.mono ?_
           rintro e w6 ⟨A6, c6, b6, rfl, ht6, hb6⟩
           have hb := B0.out.trans (hb6.mono B0.out.size)
           have hbl := (Below.refl w6.heap.size w6).alloc (Nat.le_refl _) (Obj.cells #[Value.int .i64 oa, Value.int .i64 ma, Value.slice A6 ka.len c6, Value.int .i64 q.op, Value.int .i64 q.n, Value.slice A5 q.k.len c5] 25)
           have hba := hb.trans (hbl.mono hb.size)
           have s6 := HSS.out _ hb
           have s7 := HSS.out _ hba
           have s8 := HSET.out _ 2 (.slice (some ⟨w6.heap.size, 0, none⟩) 2 2) (HSET.out _ 1 (.int .i64 (u : Int)) (HSET.out _ 0 (.int .i64 7) s7))
           have hr6 := HRD.out.below hba HRD.out.size
           have f0 := hr6.free 0
           have f1 := hr6.free 1
           have f2 := hr6.free 2
           have c0 := hr6.cell (i := 0) rfl
           have c1 := hr6.cell (i := 1) rfl
           have c2 := hr6.cell (i := 2) rfl
           have htp := tree_pair (a := ⟨oa, ma, ka⟩) (b := q) (base := W.heap.size) (Row.fresh w6 25 #[Value.int .i64 oa, Value.int .i64 ma, Value.slice A6 ka.len c6, Value.int .i64 q.op, Value.int .i64 q.n, Value.slice A5 q.k.len c5]) (Nat.le_trans HBD.out.size hb.size)
             ((ht6.over hbl).lower HBD.out.size) ((HT5.out.over hba)) (fun z h1 h2 => by
               have e1 := (ht6.lt z h1).1
               have e2 := (HT5.out.lt z h2).2
               have e3 : wc.heap.size ≤ z := e1
               omega)
             (fun h => Nat.lt_irrefl _ (ht6.lt _ h).2) (fun h => Nat.lt_irrefl _ (Nat.lt_of_lt_of_le (HT5.out.lt _ h).2 hb.size)) HIA.out HQI.out
           have HTP := Lib.hid htp
           have HR6 := Lib.hid hr6
           have HB6 := Lib.hid (HBD.out.trans (hba.mono HBD.out.size))
           clear ht6 hb6 hb hbl hba htp hr6)
        | fail)
    all_goals
      have hr7 := ((HR6.out.put 0 (.int .i64 7)).put 1 (.int .i64 (u : Int))).put 2 (.slice (some ⟨w6.heap.size, 0, none⟩) 2 2)
      have r0 := hr7.cell (i := 0) rfl
      have r1 := hr7.cell (i := 1) rfl
      have r2 := hr7.cell (i := 2) rfl
      obtain ⟨bs, htp⟩ := HTP.out
      have HBC := Lib.hid (((((HB.out.trans (HB6.out.mono HB.out.size)).setCell (p := ⟨w.heap.size + 1, 0, none⟩) (Nat.le_succ _) (.int .i64 7)).setCell (p := ⟨w.heap.size + 1, 1, none⟩) (Nat.le_succ _) (.int .i64 (u : Int))).setCell (p := ⟨w.heap.size + 1, 2, none⟩) (Nat.le_succ _) (.slice (some ⟨w6.heap.size, 0, none⟩) 2 2)))
      have hz3 := HR2.out.size
      have HTC := Lib.hid ((((htp.put (p := ⟨w.heap.size + 1, 0, none⟩) hz3 (.int .i64 7)).put (p := ⟨w.heap.size + 1, 1, none⟩) hz3 (.int .i64 (u : Int))).put (p := ⟨w.heap.size + 1, 2, none⟩) hz3 (.slice (some ⟨w6.heap.size, 0, none⟩) 2 2)).lower HB.out.size)
      clear hr7 hz3 htp
      go_wp2_with fail
      refine bodyPost_ret (v := .agg #[.int .i64 7, .int .i64 (u : Int), .slice (some ⟨w6.heap.size, 0, none⟩) 2 2]) ?_ rfl ⟨some ⟨w6.heap.size, 0, none⟩, 2, bs, rfl, HTC.out, HBC.out⟩
      simp [results, Try.f27, go_sem, r0, r1, r2]

theorem in_any : ∀ f, InC f
  | 0 => fun _ _ _ _ _ _ _ _ _ _ h => absurd h.size (Nat.not_lt_zero _)
  | f + 1 => in_step f (in_any f) (bound_of f (in_any f))
end Go.Proofs.Ytjlaabipgppijaa
