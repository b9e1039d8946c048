/-
  slices.IndexFunc and slices.ContainsFunc at lists of numbers, with a closure whose contract is known.
  impl.funSet: its methods hasSome and hasAll.
  impl.hasOut: has a tree an output?
  What belongs to a set of functions: the closures of quietFuns and endingFuns.
-/
import Derived.Test.YtbpcggbmlaomjaaRows
import Derived.Test.YtbpcggbmlaomjaaFo
import Derived.Test.YtbpcggbmlaomjaaHide
import Derived.Test.YtbpcggbmlaomjaaBits
import Derived.WalkKit
import Derived.WalkSpells
import Derived.Lib.Hide
import Derived.Test.YtbpcggbmlaomjaaEffD
import Derived.Test.YtbpcggbmlaomjaaRange
import Derived.OwnWalkIn
import Derived.Shelf.Abstract
import Derived.Test.YtbpcggbmlaomjaaNodesI
import Derived.Test.YtbpcggbmlaomjaaICalls
import Derived.Test.YtbpcggbmlaomjaaDefsBy
import Derived.Deep.RegionWith
import Derived.Deep.RegionHeld3
namespace Go.Proofs.Ytbpcggbmlaomjaa
open Go.RowKit
set_option maxRecDepth 100000

theorem any_take_succ {p : Int → Bool} {zs : List Int} {j : Nat} {x : Int} (h : zs[j]? = some x) : (zs.take (j + 1)).any p = ((zs.take j).any p || p x) := by
  rw [List.take_add_one, h, List.any_append]; simp

set_option maxHeartbeats 1000000 in
theorem indexFunc_any (p : Int → Bool) (hf : Nat) (hb : Array Value) (zs : List Int) (A : Option Addr) (c : Nat) (w : World) (hl : LiesI w 0 w.heap.size A zs) (hz : zs.length ≤ 1048576)
    (heg : ∀ args w, (callFunc hf args).run Try.prog w = .ok (.enter hf args) w)
    (hh : ∀ x ∈ zs, ∀ V, Below w.heap.size w V → Calls Try.prog hf (#[.int .i64 x] ++ hb) V (Gives (.bool (p x)) V)) :
    Calls Try.prog 92 #[.slice A zs.length c, .func (.func hf) #[] hb] w fun e w' => ∃ i : Int, e = .returned (.int .i64 i) ∧ decide (0 ≤ i) = zs.any p ∧ Below w.heap.size w w' := by
  go_enter Try.func92, Try.ntmps92
  go_wp2
  go_loopw [8] (fun i wr => ∃ (j : Nat), j ≤ zs.length ∧ i = .int .i64 j ∧ (zs.take j).any p = false ∧ Below w.heap.size w wr)
    (fun i _ => zs.length - (intOf i).toNat)
  case atStart => exact ⟨0, by omega, rfl, rfl, Below.refl _ _⟩
  case round =>
    obtain ⟨j, hj, rfl, hno, hb1⟩ := hrel
    by_cases hlt : j < zs.length
    · have e1 := List.getElem?_eq_getElem hlt
      have hxm := List.getElem_mem hlt
      generalize zs[j] = x at e1 hxm
      obtain ⟨b, o, hA, _, hbb, ix, g1⟩ := (hl.below hb1) j x e1
      subst hA
      have HC := Lib.hid (hh x hxm wr hb1)
      have HS := Lib.hid (any_take_succ (p := p) e1)
      have HNO := Lib.hid hno
      have HB := Lib.hid hb1
      have HE := Lib.hid e1
      clear hno hb1 e1 hxm
      go_wp2_with fail
      refine HC.out.mono ?_
      rintro e w2 ⟨rfl, hb2⟩
      have HB2 := Lib.hid (HB.out.trans (hb2.mono HB.out.size))
      clear hb2 HC
      cases hp : p x with
      | true =>
        have HF := Lib.hid (show zs.any p = true from List.any_eq_true.2 ⟨x, List.mem_of_getElem? HE.out, hp⟩)
        clear hp
        go_wp2
        go_ret
        exact ⟨_, rfl, by rw [HF.out]; exact decide_eq_true (by omega), HB2.out⟩
      | false =>
        have HF := Lib.hid (show (zs.take (j + 1)).any p = false by rw [HS.out, HNO.out, hp]; rfl)
        clear hp
        go_wp2
        go_roundw
        case rel => exact ⟨j + 1, hlt, by go_num, HF.out, HB2.out⟩
        case measure => simp [intOf]; omega
    · have e9 : j = zs.length := by omega
      subst e9
      rw [List.take_length] at hno
      go_wp2
      go_ret
      exact ⟨_, rfl, by rw [hno]; rfl, hb1⟩

set_option maxHeartbeats 1000000 in
theorem containsFunc_any (p : Int → Bool) (hf : Nat) (hb : Array Value) (zs : List Int) (A : Option Addr) (c : Nat) (w : World) (hl : LiesI w 0 w.heap.size A zs) (hz : zs.length ≤ 1048576)
    (heg : ∀ args w, (callFunc hf args).run Try.prog w = .ok (.enter hf args) w)
    (hh : ∀ x ∈ zs, ∀ V, Below w.heap.size w V → Calls Try.prog hf (#[.int .i64 x] ++ hb) V (Gives (.bool (p x)) V)) :
    Calls Try.prog 77 #[.slice A zs.length c, .func (.func hf) #[] hb] w (Gives (.bool (zs.any p)) w) := by
  go_enter Try.func77, Try.ntmps77
  go_wp2_with fail
  refine (indexFunc_any p hf hb zs A c w hl hz heg hh).mono ?_
  rintro e w2 ⟨i, rfl, hi, hb2⟩
  by_cases h0 : 0 ≤ i
  · have HF := Lib.hid (show zs.any p = true by rw [← hi]; exact decide_eq_true h0)
    clear hi
    go_wp2
    go_ret
    exact ⟨by rw [HF.out]; rfl, hb2⟩
  · have HF := Lib.hid (show zs.any p = false by rw [← hi]; exact decide_eq_false h0)
    clear hi
    go_wp2
    go_ret
    exact ⟨by rw [HF.out]; exact ret_bool (decide_eq_false (by omega)), hb2⟩
end Go.Proofs.Ytbpcggbmlaomjaa

namespace Go.Proofs.Ytbpcggbmlaomjaa
open Go.RowKit Go.Shelf
set_option maxRecDepth 100000

theorem hasSome1_any (T : Nat → Bool) (x : Int) (g : Nat) (w : World) (hx : inVar x = true) (hr : Row w g 59 (cells8 T)) :
    Calls Try.prog 90 #[.int .i64 x, .pointer (some ⟨g, 0, none⟩)] w (Gives (.bool (T x.toNat)) w) := by
  obtain ⟨e0, e8⟩ := inVar_nat hx
  generalize x.toNat = v at e0 e8 ⊢
  subst e0
  have q0 := hr.cell (cells8_at T e8)
  go_enter Try.func90, Try.ntmps90
  go_wp2
  go_ret
  exact ⟨rfl, Below.refl _ _⟩
theorem hasAll1_any (T : Nat → Bool) (x : Int) (g : Nat) (w : World) (hx : inVar x = true) (hr : Row w g 59 (cells8 T)) :
    Calls Try.prog 78 #[.int .i64 x, .pointer (some ⟨g, 0, none⟩)] w (Gives (.bool (!T x.toNat)) w) := by
  obtain ⟨e0, e8⟩ := inVar_nat hx
  generalize x.toNat = v at e0 e8 ⊢
  subst e0
  have q0 := hr.cell (cells8_at T e8)
  go_enter Try.func78, Try.ntmps78
  go_wp2
  go_ret
  exact ⟨rfl, Below.refl _ _⟩

theorem hasSome_any (T : Nat → Bool) (zs : List Int) (A : Option Addr) (c : Nat) (w : World) (hl : LiesI w 0 w.heap.size A zs) (hz : zs.length ≤ 1048576) (hv : ∀ x ∈ zs, inVar x = true) :
    Calls Try.prog 71 #[.agg (cells8 T), .slice A zs.length c] w (Gives (.bool (anyT T zs)) w) := by
  obtain ⟨hb1, hr1⟩ := one_box w 59 (cells8 T)
  have HC := Lib.hid (containsFunc_any (fun x => T x.toNat) 90 #[.pointer (some ⟨w.heap.size, 0, none⟩)] zs A c _ (hl.up hb1) hz (enters_of Try.func90 (by kernel_rfl) rfl)
    (fun x hx V hV => hasSome1_any T x w.heap.size V (hv x hx) (hr1.below hV hr1.size)))
  clear hr1
  unfold cells8 at *
  go_enter Try.func71, Try.ntmps71
  go_wp2_with fail
  refine HC.out.mono ?_
  rintro e w2 ⟨rfl, hb2⟩
  have hb3 := hb1.trans (hb2.mono hb1.size)
  clear HC hb1 hb2
  go_wp2
  go_ret
  exact ⟨rfl, hb3⟩
theorem hasAll_any (T : Nat → Bool) (zs : List Int) (A : Option Addr) (c : Nat) (w : World) (hl : LiesI w 0 w.heap.size A zs) (hz : zs.length ≤ 1048576) (hv : ∀ x ∈ zs, inVar x = true) :
    Calls Try.prog 53 #[.agg (cells8 T), .slice A zs.length c] w (Gives (.bool (allT T zs)) w) := by
  obtain ⟨hb1, hr1⟩ := one_box w 59 (cells8 T)
  have HC := Lib.hid (containsFunc_any (fun x => !T x.toNat) 78 #[.pointer (some ⟨w.heap.size, 0, none⟩)] zs A c _ (hl.up hb1) hz (enters_of Try.func78 (by kernel_rfl) rfl)
    (fun x hx V hV => hasAll1_any T x w.heap.size V (hv x hx) (hr1.below hV hr1.size)))
  clear hr1
  unfold cells8 at *
  unfold allT
  go_enter Try.func53, Try.ntmps53
  go_wp2_with fail
  refine HC.out.mono ?_
  rintro e w2 ⟨rfl, hb2⟩
  have hb3 := hb1.trans (hb2.mono hb1.size)
  clear HC hb1 hb2
  go_wp2
  go_ret
  exact ⟨rfl, hb3⟩
end Go.Proofs.Ytbpcggbmlaomjaa

namespace Go.Proofs.Ytbpcggbmlaomjaa
open Go.RowKit Go.Shelf
set_option maxRecDepth 100000

attribute [local go_sem] Oper.semAt_some

def seenO (l : List Nx) : Bool := seenQ ownO (l.map Nx.nd) 0
theorem seenO_snoc (l : List Nx) (y : Nx) : seenO (l ++ [y]) = (seenO l || decide (y.op = 9)) := by
  unfold seenO
  rw [List.map_append, List.map_singleton, seenQ_snoc]
  rfl

set_option maxRecDepth 100000 in
set_option maxHeartbeats 4000000 in
theorem hasOut_any (op m : Int) (k : Fo) (A : Option Addr) (c L B : Nat) (w : World)
    (hl : Lies w L B A 0 k) (hB : B ≤ w.heap.size) (hal : RowsIf w L B k) (hk1 : k.len ≤ c) (hk2 : c ≤ maxLen) (hsz : k.size ≤ 1048576) :
    Calls Try.prog 70 #[.agg #[.int .i64 op, .int .i64 m, .slice A k.len c]] w (Gives (.bool (outsB op m k)) w) := by
  refine (callsIn_wide (n := 9)).1 ?_
  refine callsIn_of_wp_marks Try.func70 rfl trivial ?_ rfl
  simp only [Try.ntmps70, List.size_toArray, List.length_cons, List.length_nil, Nat.reduceAdd, Nat.reduceSub, Array.replicate_succ, Array.replicate_zero, List.push_toArray, List.append_toArray, List.nil_append, List.cons_append]
  gi_wp2_with fail
  refine ⟨trivial, (callsIn_wide.2 (nodesOf_any op m k A c 80 #[] _)).mono ?_⟩
  rintro e w1 ⟨rfl, rfl⟩
  gi_wp2_with fail
  obtain ⟨W0, hW0⟩ : ∃ W0, W0 = (((w.alloc (Obj.cells #[Value.int .i64 op, Value.int .i64 m, Value.slice A k.len c] 40)).alloc (Obj.cells #[Value.bool false] 4)).alloc (Obj.cells #[Value.int .i64 op, Value.int .i64 m, Value.slice A k.len c] 40)).alloc (Obj.cells #[Value.func (.func 80) #[] #[]] 97) := ⟨_, rfl⟩
  rw [← hW0]
  have hz0 : W0.heap.size = w.heap.size + 1 + 1 + 1 + 1 := by rw [hW0]; simp
  have hb0 : Below w.heap.size w W0 := by
    rw [hW0]
    exact ((((Below.refl _ _).alloc (Nat.le_refl _) _).alloc (by simp) _).alloc (by simp; omega) _).alloc (by simp; omega) _
  have rr : Row W0 (w.heap.size + 1) 4 #[Value.bool false] := by
    rw [hW0]
    have := Row.fresh (w.alloc (Obj.cells #[Value.int .i64 op, Value.int .i64 m, Value.slice A k.len c] 40)) 4 #[Value.bool false]
    simp only [World.size_alloc] at this
    exact (this.alloc _).alloc _
  have r1 : Row W0 (w.heap.size + 1 + 1) 40 #[Value.int .i64 op, Value.int .i64 m, Value.slice A k.len c] := by
    rw [hW0]
    have := Row.fresh ((w.alloc (Obj.cells #[Value.int .i64 op, Value.int .i64 m, Value.slice A k.len c] 40)).alloc (Obj.cells #[Value.bool false] 4)) 40 #[Value.int .i64 op, Value.int .i64 m, Value.slice A k.len c]
    simp only [World.size_alloc] at this
    exact this.alloc _
  have r2 : Row W0 (w.heap.size + 1 + 1 + 1) 97 #[Value.func (.func 80) #[] #[]] := by
    rw [hW0]
    have := Row.fresh (((w.alloc (Obj.cells #[Value.int .i64 op, Value.int .i64 m, Value.slice A k.len c] 40)).alloc (Obj.cells #[Value.bool false] 4)).alloc (Obj.cells #[Value.int .i64 op, Value.int .i64 m, Value.slice A k.len c] 40)) 97 #[Value.func (.func 80) #[] #[]]
    simp only [World.size_alloc] at this
    exact this
  clear hW0
  refine range_own (X := fun g => g = w.heap.size + 1) rfl (by omega) (gf := 93) (lb := #[.pointer (some ⟨w.heap.size + 1 + 1, 0, none⟩), .pointer (some ⟨w.heap.size + 1 + 1 + 1, 0, none⟩)]) rfl trivial (enters_of Try.func93 (by kernel_rfl) rfl)
    (nodes_seqR 8 (fun _ _ => false) op m k A c L B (w.heap.size + 1 + 1) (w.heap.size + 1 + 1 + 1) 80 #[] (fun g => g = w.heap.size + 1) W0 (fun g hg => by omega) (by omega) (by omega) (fun g _ h2 => by omega) r1 (r2.cell (i := 0) rfl)
      (hl.below (hb0.mono hB)) (Nat.le_trans hB hb0.size) (hal.below hb0 hB) hk1 hk2 hsz (enters_of Try.func80 (by kernel_rfl) rfl) (fun x i V _ => hideNone_any x.op x.n _ i V))
    (Below.refl _ _) (fun _ => rfl)
    (fun pre W => (Row W (w.heap.size + 1) 4 #[Value.bool false] ∧ seenO pre = false) ∧ Below w.heap.size w W)
    (fun c' pre W => (c' = .ret ∧ seenO pre = true ∧ Row W (w.heap.size + 1) 4 #[Value.bool true]) ∧ Below w.heap.size w W)
    (fun s V V' ⟨⟨x1, x4⟩, x2⟩ hb => ⟨⟨x1.below hb (by omega), x4⟩, x2.trans (hb.mono (by omega))⟩)
    (fun _ s V V' ⟨⟨x1, x3, x4⟩, x2⟩ hb => ⟨⟨x1, x3, x4.below hb (by omega)⟩, x2.trans (hb.mono (by omega))⟩) ⟨⟨rr, rfl⟩, hb0⟩
    (fun y a' V => ∃ Bx, W0.heap.size ≤ Bx ∧ Row V Bx 40 #[Value.int .i64 y.op, Value.int .i64 y.n, Value.slice y.A y.k.len y.c] ∧ a' = { tmps := #[.agg #[.int .i64 op, .int .i64 m, .slice A k.len c], .pointer (some ⟨w.heap.size, 0, none⟩), .pointer (some ⟨w.heap.size + 1, 0, none⟩),
      .pointer (some ⟨Bx, 0, none⟩), .agg #[.int .i64 op, .int .i64 m, .slice A k.len c],
      .func (.func 93) #[] #[.pointer (some ⟨w.heap.size + 1 + 1, 0, none⟩), .pointer (some ⟨w.heap.size + 1 + 1 + 1, 0, none⟩)], y.val, undef, undef, undef], defers := [] })
    (fun y a' V V' ⟨Bx, h1, h2, h3⟩ hk => ⟨Bx, h1, hk.row h2 (by omega), h3⟩) ?assign ?body ?done ?stop
  case assign =>
    intro l pre y W K hsW hi hK
    unfold Nx.val
    gi_wp2
    exact hK _ _ ((Below.refl _ _).alloc (Nat.le_refl _) _) ⟨W.heap.size, by omega, Row.fresh _ _ _, rfl⟩
  case body =>
    rintro l pre y a' W _ ⟨⟨hr, hall⟩, hb⟩ ⟨Bx, hBx, hrx, rfl⟩ hlen
    clear hz0
    have y0 := hrx.cell (i := 0) rfl
    have hsn := seenO_snoc pre y
    rw [hall, Bool.false_or] at hsn
    by_cases h9 : y.op = 9
    · have HF := Lib.hid (show seenO (pre ++ [y]) = true by rw [hsn]; exact decide_eq_true h9)
      have HR := Lib.hid hr
      have v1 := hr.cell (i := 0) rfl
      have f1 := hr.free 0
      clear hall hsn hr
      gi_wp2_with fail
      exact ⟨(KeepsFrom.refl _ _).trans ((KeepsOthers.setCell _ _ _).from _), ⟨rfl, HF.out, HR.out.put 0 (.bool true)⟩, hb.setCell (by simp) _⟩
    · have HT := Lib.hid (show seenO (pre ++ [y]) = false by rw [hsn]; exact decide_eq_false h9)
      have h4 : (y.op == 9) = false := by simpa using h9
      clear hsn hall
      gi_wp2_with fail
      exact ⟨KeepsFrom.refl _ _, KC.refl _ _, ⟨hr, HT.out⟩, hb⟩
  case done =>
    rintro D ys W hD hS ⟨⟨hr, hall⟩, hb⟩ hK
    have HF := Lib.hid (show outsB op m k = false by rw [← hall]; unfold seenO outsB; rw [hS]; exact (has_ordN ownO 0 _).symm)
    have v0 := hr.cell (i := 0) rfl
    have f0 := hr.free 0
    clear hall hS
    gi_wp2
    have hK' := (KeepsOthers.setCell W ⟨w.heap.size + 1, 0, none⟩ (.bool false)).same D _ hK rfl
    refine ⟨by simp, .inl ⟨_, _, rfl, run_takeDeferred hK', ?_⟩⟩
    have hc5 := cell_kept (World.cell?_setCell_same' W ⟨w.heap.size + 1, 0, none⟩ (.bool false) (by rw [v0]; rfl)) (grownBy_putObj' _ D (.deferred none)) (fun r e => by cases e; exact ⟨_, hK', rfl⟩)
    refine ⟨.bool false, ?_, by rw [HF.out], (hb.setCell (p := ⟨w.heap.size + 1, 0, none⟩) (by simp) _).trans (below_put _ hK' (by omega))⟩
    simp [results, Try.f70, go_sem, hc5]
  case stop =>
    rintro D c' pre W hD hpre ⟨⟨rfl, hall, hr⟩, hb⟩ hK
    obtain ⟨rest, hrest⟩ := hpre
    have HF := Lib.hid (show outsB op m k = true by
      unfold outsB
      rw [← has_ordN ownO 0 ⟨op, m, k⟩, ← hrest, List.any_append]
      unfold seenO seenQ at hall
      rw [hall]
      rfl)
    gi_wp2
    refine ⟨by simp, .inl ⟨_, _, rfl, run_takeDeferred hK, ?_⟩⟩
    have hc5 := cell_kept (hr.cell (i := 0) rfl) (grownBy_putObj' _ D (.deferred none)) (fun r e => by cases e; exact ⟨_, hK, rfl⟩)
    refine ⟨.bool true, ?_, by rw [HF.out], hb.trans (below_put _ hK (by omega))⟩
    simp [results, Try.f70, go_sem, hc5]
end Go.Proofs.Ytbpcggbmlaomjaa

namespace Go.Proofs.Ytbpcggbmlaomjaa
open Go.RowKit Go.Shelf
set_option maxRecDepth 100000

theorem nums_vars (S : Nat → Bool) : ∀ x ∈ numsUpto S 8, inVar x = true := fun x hx => by
  obtain ⟨v, h1, rfl, _⟩ := numsUpto_mem 8 x hx
  exact inVar_mk (by omega) (by omega)

theorem Row.eight {w : World} {g : Nat} {t : TypeId} {T : Nat → Bool} (h : Row w g t (cells8 T)) : w.cell? ⟨g, 0, none⟩ = some (.bool (T 0)) ∧ w.cell? ⟨g, 1, none⟩ = some (.bool (T 1)) ∧ w.cell? ⟨g, 2, none⟩ = some (.bool (T 2)) ∧
    w.cell? ⟨g, 3, none⟩ = some (.bool (T 3)) ∧ w.cell? ⟨g, 4, none⟩ = some (.bool (T 4)) ∧ w.cell? ⟨g, 5, none⟩ = some (.bool (T 5)) ∧ w.cell? ⟨g, 6, none⟩ = some (.bool (T 6)) ∧ w.cell? ⟨g, 7, none⟩ = some (.bool (T 7)) :=
  ⟨h.cell (i := 0) rfl, h.cell (i := 1) rfl, h.cell (i := 2) rfl, h.cell (i := 3) rfl, h.cell (i := 4) rfl, h.cell (i := 5) rfl, h.cell (i := 6) rfl, h.cell (i := 7) rfl⟩
theorem Row.six {w : World} {g : Nat} {t : TypeId} {a b c d e f : Value} (h : Row w g t #[a, b, c, d, e, f]) : w.cell? ⟨g, 0, none⟩ = some a ∧ w.cell? ⟨g, 1, none⟩ = some b ∧ w.cell? ⟨g, 2, none⟩ = some c ∧
    w.cell? ⟨g, 3, none⟩ = some d ∧ w.cell? ⟨g, 4, none⟩ = some e ∧ w.cell? ⟨g, 5, none⟩ = some f :=
  ⟨h.cell (i := 0) rfl, h.cell (i := 1) rfl, h.cell (i := 2) rfl, h.cell (i := 3) rfl, h.cell (i := 4) rfl, h.cell (i := 5) rfl⟩
theorem Row.three {w : World} {g : Nat} {t : TypeId} {a b c : Value} (h : Row w g t #[a, b, c]) : w.cell? ⟨g, 0, none⟩ = some a ∧ w.cell? ⟨g, 1, none⟩ = some b ∧ w.cell? ⟨g, 2, none⟩ = some c :=
  ⟨h.cell (i := 0) rfl, h.cell (i := 1) rfl, h.cell (i := 2) rfl⟩

set_option maxHeartbeats 1000000 in
theorem quiet1_any (d : De) (A : Option Addr) (c L B : Nat) (T : Nat → Bool) (w : World) (hl : Lies w L B A 0 d.k) (hB : B ≤ w.heap.size) (hal : AllRows w L B) (hk1 : d.k.len ≤ c) (hk2 : c ≤ maxLen) (hsz : d.k.size ≤ 1048576) :
    Calls Try.prog 69 #[valD d A c, .agg (cells8 T)] w (Gives (.bool (loudBel d T)) w) := by
  unfold valD cells8
  obtain ⟨hb2, hr1, hr2⟩ := two_boxes w 56 59 #[.int .i64 d.nm, .int .i64 d.ar, .bool d.old, .int .i64 d.op, .int .i64 d.n, .slice A d.k.len c] (cells8 T)
  unfold cells8 at hb2 hr1
  have hr2' := hr2
  unfold cells8 at hr2'
  have hb3 := hb2.drew
  have HR1 := Lib.hid hr1.drew
  have HR2 := Lib.hid (show Row (_ : World).drew _ _ (cells8 T) from hr2'.drew)
  obtain ⟨q0, q1, q2, q3, q4, q5⟩ := hr1.drew.six
  obtain ⟨p0, p1, p2, p3, p4, p5, p6, p7⟩ := HR2.out.eight
  have HO := Lib.hid (hasOut_any d.op d.n d.k A c L B _ (hl.below (hb3.mono hB)) (Nat.le_trans hB hb3.size) (fun _ => hal.below hb3 hB) hk1 hk2 hsz)
  have HL := Lib.hid (hl.below (hb3.mono hB))
  have HA := Lib.hid (hal.below hb3 hB)
  have HB := Lib.hid hb3
  have HZ := Lib.hid (Nat.le_trans hB hb3.size)
  clear hb2 hr1 hr2 hr2' hb3 hl hal
  cases ho : outsB d.op d.n d.k with
  | true =>
    rw [ho] at HO
    have HF := Lib.hid (show loudBel d T = true by unfold loudBel outsD; rw [ho]; rfl)
    clear ho
    go_enter Try.func69, Try.ntmps69
    go_wp2_with fail
    first
      | (go_region_with (first
          | (go_at_call 70
             refine HO.out.mono ?_
             rintro e w4 ⟨rfl, hb4⟩)))
      | fail
    all_goals
      have hb5 := HB.out.trans (hb4.mono HB.out.size)
      clear hb4 HO HR1 HR2 q0 q1 q2 q3 q4 q5 p0 p1 p2 p3 p4 p5 p6 p7
      go_wp2
      go_ret
      exact ⟨by rw [HF.out]; rfl, hb5⟩
  | false =>
    rw [ho] at HO
    obtain ⟨zs, hzs⟩ : ∃ zs, zs = numsUpto (callD d) 8 := ⟨_, rfl⟩
    have hlen : zs.length ≤ 8 := by rw [hzs]; exact numsUpto_len _ 8
    have HF := Lib.hid (show loudBel d T = anyT T zs by unfold loudBel outsD; rw [ho, hzs]; rfl)
    have HV := Lib.hid (show ∀ x ∈ zs, inVar x = true by rw [hzs]; exact nums_vars _)
    have HI := Lib.hid (show ∀ x ∈ zs, I64 x by rw [hzs]; exact fun x hx => numsUpto_small _ 8 x (Nat.le_refl _) hx)
    have HC := Lib.hid (fun W hb => hzs ▸ implCalls_any d.op d.n d.k A c L B W (HL.out.below (Below.mono hb HZ.out)) (Nat.le_trans HZ.out (Below.size hb)) (HA.out.below hb HZ.out) hk1 hk2 hsz)
    have HLEN := Lib.hid hlen
    clear ho hzs hlen
    go_enter Try.func69, Try.ntmps69
    go_wp2_with fail
    first
      | (go_region_with (first
          | (go_at_call 70
             refine HO.out.mono ?_
             rintro e w4 ⟨rfl, hb4⟩
             have hr4 := HR1.out.below hb4 HR1.out.size
             have hs4 := HR2.out.below hb4 HR2.out.size
             obtain ⟨y0, y1, y2, y3, y4, y5⟩ := hr4.six
             obtain ⟨u0, u1, u2, u3, u4, u5, u6, u7⟩ := hs4.eight)
          | (go_at_call 54
             refine (HC.out w4 hb4).mono ?_
             rintro e w5 ⟨v5, rfl, hown5, hb5⟩
             obtain ⟨A5, c5, rfl, hi5⟩ := own_ints hown5 HI.out
             have hr5 := hr4.below hb5 hr4.size
             have hs5 := hs4.below hb5 hs4.size
             obtain ⟨z0, z1, z2, z3, z4, z5⟩ := hr5.six
             obtain ⟨s0, s1, s2, s3, s4, s5, s6, s7⟩ := hs5.eight
             clear hown5)
          | (go_at_call 71
             refine (hasSome_any T zs A5 c5 w5 (hi5.mono_ (Nat.zero_le _) (Nat.le_refl _)) (by have := HLEN.out; omega) HV.out).mono ?_
             rintro e w6 ⟨rfl, hb6⟩)))
      | fail
    all_goals
      have hb7 := HB.out.trans ((hb4.trans ((hb5.trans (hb6.mono hb5.size)).mono hb4.size)).mono HB.out.size)
      clear hb4 hb5 hb6 hr4 hs4 hr5 hs5 HO HR1 HR2 q0 q1 q2 q3 q4 q5 p0 p1 p2 p3 p4 p5 p6 p7 y0 y1 y2 y3 y4 y5 u0 u1 u2 u3 u4 u5 u6 u7 z0 z1 z2 z3 z4 z5 s0 s1 s2 s3 s4 s5 s6 s7
      go_wp2
      go_ret
      exact ⟨by rw [HF.out]; rfl, hb7⟩

set_option maxHeartbeats 1000000 in
theorem ending1_any (d : De) (A : Option Addr) (c L B : Nat) (T : Nat → Bool) (w : World) (hl : Lies w L B A 0 d.k) (hB : B ≤ w.heap.size) (hal : AllRows w L B) (hk1 : d.k.len ≤ c) (hk2 : c ≤ maxLen) (hsz : d.k.size ≤ 1048576) :
    Calls Try.prog 72 #[valD d A c, .agg (cells8 T)] w (Gives (.bool (endBel d T)) w) := by
  unfold valD cells8
  obtain ⟨hb2, hr1, hr2⟩ := two_boxes w 56 59 #[.int .i64 d.nm, .int .i64 d.ar, .bool d.old, .int .i64 d.op, .int .i64 d.n, .slice A d.k.len c] (cells8 T)
  unfold cells8 at hb2 hr1
  have hr2' := hr2
  unfold cells8 at hr2'
  have hb3 := hb2.drew
  have HR1 := Lib.hid hr1.drew
  have HR2 := Lib.hid (show Row (_ : World).drew _ _ (cells8 T) from hr2'.drew)
  obtain ⟨q0, q1, q2, q3, q4, q5⟩ := hr1.drew.six
  obtain ⟨p0, p1, p2, p3, p4, p5, p6, p7⟩ := HR2.out.eight
  have HL := Lib.hid (hl.below (hb3.mono hB))
  have HA := Lib.hid (hal.below hb3 hB)
  have HB := Lib.hid hb3
  have HZ := Lib.hid (Nat.le_trans hB hb3.size)
  clear hb2 hr1 hr2 hr2' hb3 hl hal
  obtain ⟨zs, hzs⟩ : ∃ zs, zs = numsUpto (callD d) 8 := ⟨_, rfl⟩
  have hlen : zs.length ≤ 8 := by rw [hzs]; exact numsUpto_len _ 8
  have HF := Lib.hid (show endBel d T = allT T zs by unfold endBel; rw [hzs])
  have HV := Lib.hid (show ∀ x ∈ zs, inVar x = true by rw [hzs]; exact nums_vars _)
  have HI := Lib.hid (show ∀ x ∈ zs, I64 x by rw [hzs]; exact fun x hx => numsUpto_small _ 8 x (Nat.le_refl _) hx)
  have HC := Lib.hid (hzs ▸ implCalls_any d.op d.n d.k A c L B _ HL.out HZ.out HA.out hk1 hk2 hsz)
  have HLEN := Lib.hid hlen
  clear hzs hlen
  go_enter Try.func72, Try.ntmps72
  go_wp2_with fail
  first
    | (go_region_with (first
        | (go_at_call 54
           refine HC.out.mono ?_
           rintro e w5 ⟨v5, rfl, hown5, hb5⟩
           obtain ⟨A5, c5, rfl, hi5⟩ := own_ints hown5 HI.out
           have hr5 := HR1.out.below hb5 HR1.out.size
           have hs5 := HR2.out.below hb5 HR2.out.size
           obtain ⟨z0, z1, z2, z3, z4, z5⟩ := hr5.six
           obtain ⟨s0, s1, s2, s3, s4, s5, s6, s7⟩ := hs5.eight
           clear hown5)
        | (go_at_call 53
           refine (hasAll_any T zs A5 c5 w5 (hi5.mono_ (Nat.zero_le _) (Nat.le_refl _)) (by have := HLEN.out; omega) HV.out).mono ?_
           rintro e w6 ⟨rfl, hb6⟩)))
    | fail
  all_goals
    have hb7 := HB.out.trans ((hb5.trans (hb6.mono hb5.size)).mono HB.out.size)
    clear hb5 hb6 hr5 hs5 HR1 HR2 q0 q1 q2 q3 q4 q5 p0 p1 p2 p3 p4 p5 p6 p7 z0 z1 z2 z3 z4 z5 s0 s1 s2 s3 s4 s5 s6 s7
    go_wp2
    go_ret
    exact ⟨by rw [HF.out]; rfl, hb7⟩
end Go.Proofs.Ytbpcggbmlaomjaa
