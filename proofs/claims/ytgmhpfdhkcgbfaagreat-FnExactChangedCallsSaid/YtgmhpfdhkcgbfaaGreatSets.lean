/-
  slices.IndexFunc and slices.ContainsFunc at lists of numbers, with a closure whose contract is known.
  impl.funSet: its methods hasSome and hasAll.
  impl.hasOut: has a tree an output?
  What belongs to a set of functions: the closures of quietFuns and endingFuns.
  impl.fixedPoint: takes functions until there are no more of them.
  impl.endingFuns, impl.quietFuns, impl.pureFuns: sets of functions of a valid library.
  impl.funSet.namesIn: the functions of a library that are in a set. impl.isPureWith.
-/
import Derived.Test.YtgmhpfdhkcgbfaaGreatRows
import Derived.Test.YtgmhpfdhkcgbfaaGreatFo
import Derived.Test.YtgmhpfdhkcgbfaaGreatNodesI
import Derived.WalkKit
import Derived.WalkSpells
import Derived.Lib.Hide
import Derived.Test.YtgmhpfdhkcgbfaaGreatEffD
import Derived.OwnWalkIn
import Derived.Shelf.Abstract
import Derived.Test.YtgmhpfdhkcgbfaaGreatCallsM
import Derived.Test.YtgmhpfdhkcgbfaaGreatLibVD
import Derived.Deep.RegionWith
import Derived.Deep.RegionHeld3
import Derived.BigRegion
import Derived.DeepKeys
namespace Go.Proofs.YtgmhpfdhkcgbfaaGreat
open Go.RowKit
set_option maxRecDepth 100000

theorem any_take_succ {p : Int → Bool} {zs : List Int} {j : Nat} {x : Int} (h : zs[j]? = some x) : (zs.take (j + 1)).any p = ((zs.take j).any p || p x) := by
  rw [List.take_add_one, h, List.any_append]; simp

set_option maxHeartbeats 1000000 in
theorem indexFunc_any (p : Int → Bool) (hf : Nat) (hb : Array Value) (zs : List Int) (A : Option Addr) (c : Nat) (w : World) (hl : LiesI w 0 w.heap.size A zs) (hz : zs.length ≤ 1048576)
    (heg : ∀ args w, (callFunc hf args).run Tryz.prog w = .ok (.enter hf args) w)
    (hh : ∀ x ∈ zs, ∀ V, Below w.heap.size w V → Calls Tryz.prog hf (#[.int .i64 x] ++ hb) V (Gives (.bool (p x)) V)) :
    Calls Tryz.prog 59 #[.slice A zs.length c, .func (.func hf) #[] hb] w fun e w' => ∃ i : Int, e = .returned (.int .i64 i) ∧ decide (0 ≤ i) = zs.any p ∧ Below w.heap.size w w' := by
  go_enter Tryz.func59, Tryz.ntmps59
  go_wp2
  go_loopw [8] (fun i wr => ∃ (j : Nat), j ≤ zs.length ∧ i = .int .i64 j ∧ (zs.take j).any p = false ∧ Below w.heap.size w wr)
    (fun i _ => zs.length - (intOf i).toNat)
  case atStart => exact ⟨0, by omega, rfl, rfl, Below.refl _ _⟩
  case round =>
    obtain ⟨j, hj, rfl, hno, hb1⟩ := hrel
    by_cases hlt : j < zs.length
    · have e1 := List.getElem?_eq_getElem hlt
      have hxm := List.getElem_mem hlt
      generalize zs[j] = x at e1 hxm
      obtain ⟨b, o, hA, _, hbb, ix, g1⟩ := (hl.below hb1) j x e1
      subst hA
      have HC := Lib.hid (hh x hxm wr hb1)
      have HS := Lib.hid (any_take_succ (p := p) e1)
      have HNO := Lib.hid hno
      have HB := Lib.hid hb1
      have HE := Lib.hid e1
      clear hno hb1 e1 hxm
      go_wp2_with fail
      refine HC.out.mono ?_
      rintro e w2 ⟨rfl, hb2⟩
      have HB2 := Lib.hid (HB.out.trans (hb2.mono HB.out.size))
      clear hb2 HC
      cases hp : p x with
      | true =>
        have HF := Lib.hid (show zs.any p = true from List.any_eq_true.2 ⟨x, List.mem_of_getElem? HE.out, hp⟩)
        clear hp
        go_wp2
        go_ret
        exact ⟨_, rfl, by rw [HF.out]; exact decide_eq_true (by omega), HB2.out⟩
      | false =>
        have HF := Lib.hid (show (zs.take (j + 1)).any p = false by rw [HS.out, HNO.out, hp]; rfl)
        clear hp
        go_wp2
        go_roundw
        case rel => exact ⟨j + 1, hlt, by go_num, HF.out, HB2.out⟩
        case measure => simp [intOf]; omega
    · have e9 : j = zs.length := by omega
      subst e9
      rw [List.take_length] at hno
      go_wp2
      go_ret
      exact ⟨_, rfl, by rw [hno]; rfl, hb1⟩

set_option maxHeartbeats 1000000 in
theorem containsFunc_any (p : Int → Bool) (hf : Nat) (hb : Array Value) (zs : List Int) (A : Option Addr) (c : Nat) (w : World) (hl : LiesI w 0 w.heap.size A zs) (hz : zs.length ≤ 1048576)
    (heg : ∀ args w, (callFunc hf args).run Tryz.prog w = .ok (.enter hf args) w)
    (hh : ∀ x ∈ zs, ∀ V, Below w.heap.size w V → Calls Tryz.prog hf (#[.int .i64 x] ++ hb) V (Gives (.bool (p x)) V)) :
    Calls Tryz.prog 68 #[.slice A zs.length c, .func (.func hf) #[] hb] w (Gives (.bool (zs.any p)) w) := by
  go_enter Tryz.func68, Tryz.ntmps68
  go_wp2_with fail
  refine (indexFunc_any p hf hb zs A c w hl hz heg hh).mono ?_
  rintro e w2 ⟨i, rfl, hi, hb2⟩
  by_cases h0 : 0 ≤ i
  · have HF := Lib.hid (show zs.any p = true by rw [← hi]; exact decide_eq_true h0)
    clear hi
    go_wp2
    go_ret
    exact ⟨by rw [HF.out]; rfl, hb2⟩
  · have HF := Lib.hid (show zs.any p = false by rw [← hi]; exact decide_eq_false h0)
    clear hi
    go_wp2
    go_ret
    exact ⟨by rw [HF.out]; exact ret_bool (decide_eq_false (by omega)), hb2⟩
end Go.Proofs.YtgmhpfdhkcgbfaaGreat

namespace Go.Proofs.YtgmhpfdhkcgbfaaGreat
open Go.RowKit Go.Shelf
set_option maxRecDepth 100000

theorem hasAll1_any (T : Nat → Bool) (x : Int) (g : Nat) (w : World) (hx : inVar x = true) (hr : Row w g 53 (cells8 T)) :
    Calls Tryz.prog 69 #[.int .i64 x, .pointer (some ⟨g, 0, none⟩)] w (Gives (.bool (!T x.toNat)) w) := by
  obtain ⟨e0, e8⟩ := inVar_nat hx
  generalize x.toNat = v at e0 e8 ⊢
  subst e0
  have q0 := hr.cell (cells8_at T e8)
  go_enter Tryz.func69, Tryz.ntmps69
  go_wp2
  go_ret
  exact ⟨rfl, Below.refl _ _⟩

theorem hasAll_any (T : Nat → Bool) (zs : List Int) (A : Option Addr) (c : Nat) (w : World) (hl : LiesI w 0 w.heap.size A zs) (hz : zs.length ≤ 1048576) (hv : ∀ x ∈ zs, inVar x = true) :
    Calls Tryz.prog 55 #[.agg (cells8 T), .slice A zs.length c] w (Gives (.bool (allT T zs)) w) := by
  obtain ⟨hb1, hr1⟩ := one_box w 53 (cells8 T)
  have HC := Lib.hid (containsFunc_any (fun x => !T x.toNat) 69 #[.pointer (some ⟨w.heap.size, 0, none⟩)] zs A c _ (hl.up hb1) hz (enters_of Tryz.func69 (by kernel_rfl) rfl)
    (fun x hx V hV => hasAll1_any T x w.heap.size V (hv x hx) (hr1.below hV hr1.size)))
  clear hr1
  unfold cells8 at *
  unfold allT
  go_enter Tryz.func55, Tryz.ntmps55
  go_wp2_with fail
  refine HC.out.mono ?_
  rintro e w2 ⟨rfl, hb2⟩
  have hb3 := hb1.trans (hb2.mono hb1.size)
  clear HC hb1 hb2
  go_wp2
  go_ret
  exact ⟨rfl, hb3⟩
end Go.Proofs.YtgmhpfdhkcgbfaaGreat

namespace Go.Proofs.YtgmhpfdhkcgbfaaGreat
open Go.RowKit Go.Shelf
set_option maxRecDepth 100000

attribute [local go_sem] Oper.semAt_some

def seenO (l : List Nx) : Bool := seenQ ownO (l.map Nx.nd) 0
theorem seenO_snoc (l : List Nx) (y : Nx) : seenO (l ++ [y]) = (seenO l || decide (y.op = 9)) := by
  unfold seenO
  rw [List.map_append, List.map_singleton, seenQ_snoc]
  rfl

end Go.Proofs.YtgmhpfdhkcgbfaaGreat

namespace Go.Proofs.YtgmhpfdhkcgbfaaGreat
open Go.RowKit Go.Shelf
set_option maxRecDepth 100000

theorem nums_vars (S : Nat → Bool) : ∀ x ∈ numsUpto S 8, inVar x = true := fun x hx => by
  obtain ⟨v, h1, rfl, _⟩ := numsUpto_mem 8 x hx
  exact inVar_mk (by omega) (by omega)

theorem Row.eight {w : World} {g : Nat} {t : TypeId} {T : Nat → Bool} (h : Row w g t (cells8 T)) : w.cell? ⟨g, 0, none⟩ = some (.bool (T 0)) ∧ w.cell? ⟨g, 1, none⟩ = some (.bool (T 1)) ∧ w.cell? ⟨g, 2, none⟩ = some (.bool (T 2)) ∧
    w.cell? ⟨g, 3, none⟩ = some (.bool (T 3)) ∧ w.cell? ⟨g, 4, none⟩ = some (.bool (T 4)) ∧ w.cell? ⟨g, 5, none⟩ = some (.bool (T 5)) ∧ w.cell? ⟨g, 6, none⟩ = some (.bool (T 6)) ∧ w.cell? ⟨g, 7, none⟩ = some (.bool (T 7)) :=
  ⟨h.cell (i := 0) rfl, h.cell (i := 1) rfl, h.cell (i := 2) rfl, h.cell (i := 3) rfl, h.cell (i := 4) rfl, h.cell (i := 5) rfl, h.cell (i := 6) rfl, h.cell (i := 7) rfl⟩
theorem Row.six {w : World} {g : Nat} {t : TypeId} {a b c d e f : Value} (h : Row w g t #[a, b, c, d, e, f]) : w.cell? ⟨g, 0, none⟩ = some a ∧ w.cell? ⟨g, 1, none⟩ = some b ∧ w.cell? ⟨g, 2, none⟩ = some c ∧
    w.cell? ⟨g, 3, none⟩ = some d ∧ w.cell? ⟨g, 4, none⟩ = some e ∧ w.cell? ⟨g, 5, none⟩ = some f :=
  ⟨h.cell (i := 0) rfl, h.cell (i := 1) rfl, h.cell (i := 2) rfl, h.cell (i := 3) rfl, h.cell (i := 4) rfl, h.cell (i := 5) rfl⟩
theorem Row.three {w : World} {g : Nat} {t : TypeId} {a b c : Value} (h : Row w g t #[a, b, c]) : w.cell? ⟨g, 0, none⟩ = some a ∧ w.cell? ⟨g, 1, none⟩ = some b ∧ w.cell? ⟨g, 2, none⟩ = some c :=
  ⟨h.cell (i := 0) rfl, h.cell (i := 1) rfl, h.cell (i := 2) rfl⟩

end Go.Proofs.YtgmhpfdhkcgbfaaGreat

namespace Go.Proofs.YtgmhpfdhkcgbfaaGreat
open Go.RowKit Go.Shelf
set_option maxRecDepth 100000

/-- How many of the eight are taken. -/
def cnt (T : Nat → Bool) : Nat → Nat
  | 0 => 0
  | j + 1 => cnt T j + (if T j then 1 else 0)
theorem cnt_le (T : Nat → Bool) : ∀ j, cnt T j ≤ j
  | 0 => Nat.le_refl _
  | j + 1 => by have := cnt_le T j; simp only [cnt]; split <;> omega
theorem cnt_mono {S T : Nat → Bool} (h : ∀ i, S i = true → T i = true) : ∀ j, cnt S j ≤ cnt T j
  | 0 => Nat.le_refl _
  | j + 1 => by
    have := cnt_mono h j
    simp only [cnt]
    cases hs : S j with
    | true => rw [h _ hs]; simp; exact this
    | false => simp; omega
theorem cnt_lt {S T : Nat → Bool} (h : ∀ i, S i = true → T i = true) {i : Nat} : ∀ j, i < j → S i = false → T i = true → cnt S j < cnt T j
  | 0, hi, _, _ => by omega
  | j + 1, hi, h1, h2 => by
    have hm := cnt_mono h j
    simp only [cnt]
    by_cases he : i = j
    · subst he
      rw [h1, h2]; simp; omega
    · have hl := cnt_lt h (i := i) j (by omega) h1 h2
      cases hs : S j with
      | true => rw [h _ hs]; simp; omega
      | false => simp; omega

/-- One function in a round, and a round. -/
def tk1 (bel : De → (Nat → Bool) → Bool) (T : Nat → Bool) (d : De) : Nat → Bool := if T d.nm.toNat then T else if bel d T then fun i => T i || decide (i = d.nm.toNat) else T
def tk (bel : De → (Nat → Bool) → Bool) (T : Nat → Bool) (ds : List De) : Nat → Bool := ds.foldl (tk1 bel) T
theorem tk_take {bel : De → (Nat → Bool) → Bool} {T : Nat → Bool} {ds : List De} {j : Nat} {d : De} (h : ds[j]? = some d) : tk bel T (ds.take (j + 1)) = tk1 bel (tk bel T (ds.take j)) d := by
  unfold tk
  rw [List.take_add_one, h, List.foldl_append]
  rfl
theorem tk1_mono (bel : De → (Nat → Bool) → Bool) (T : Nat → Bool) (d : De) (i : Nat) (h : T i = true) : tk1 bel T d i = true := by
  unfold tk1
  split
  · exact h
  · split
    · simp [h]
    · exact h
theorem tk_mono (bel : De → (Nat → Bool) → Bool) : ∀ (r : List De) (T : Nat → Bool) (i : Nat), T i = true → tk bel T r i = true
  | [], _, _, h => h
  | d :: r, T, i, h => tk_mono bel r (tk1 bel T d) i (tk1_mono bel T d i h)
theorem tk1_made {bel : De → (Nat → Bool) → Bool} {ds : List De} {T : Nat → Bool} (h : Made bel ds T) {d : De} (hd : d ∈ ds) : Made bel ds (tk1 bel T d) := by
  unfold tk1
  split
  · exact h
  · split
    · rename_i hb
      exact .add h hd hb
    · exact h
theorem tk_made {bel : De → (Nat → Bool) → Bool} {ds : List De} : ∀ (r : List De) (T : Nat → Bool), (∀ d ∈ r, d ∈ ds) → Made bel ds T → Made bel ds (tk bel T r)
  | [], _, _, h => h
  | d :: r, _, hr, h => tk_made r _ (fun e he => hr e (List.mem_cons_of_mem _ he)) (tk1_made h (hr d (List.mem_cons_self ..)))
theorem tk1_same {bel : De → (Nat → Bool) → Bool} {T : Nat → Bool} {d : De} (h : ∀ i, tk1 bel T d i = true → T i = true) : tk1 bel T d = T := funext fun i => by
  cases hb : T i with
  | true => exact tk1_mono bel T d i hb
  | false =>
    cases hb2 : tk1 bel T d i with
    | false => rfl
    | true => rw [h i hb2] at hb; cases hb
/-- A round that takes nothing: the set is closed. -/
theorem tk_fix {bel : De → (Nat → Bool) → Bool} : ∀ (r : List De) (T : Nat → Bool), (∀ i, tk bel T r i = true → T i = true) → ∀ d ∈ r, bel d T = true → T d.nm.toNat = true
  | [], _, _, d, hd, _ => by simp at hd
  | d0 :: r, T, h, d, hd, hb => by
    have h1 : ∀ i, tk1 bel T d0 i = true → T i = true := fun i hi => h i (tk_mono bel r _ i hi)
    have h3 := tk1_same h1
    rcases List.mem_cons.1 hd with rfl | hd
    · refine h1 _ ?_
      unfold tk1
      split
      · assumption
      · simp
    · have h4 : ∀ i, tk bel T r i = true → T i = true := fun i hi => h i (by show tk bel (tk1 bel T d0) r i = true; rw [h3]; exact hi)
      exact tk_fix r T h4 d hd hb

theorem cells8_inj {S T : Nat → Bool} (h : cells8 S = cells8 T) : ∀ i, i < 8 → S i = T i := by
  intro i hi
  have h1 := cells8_at S hi
  rw [h, cells8_at T hi] at h1
  injection h1 with h1
  injection h1 with h1
  exact h1.symm

theorem cells8_put (S : Nat → Bool) {v : Nat} (h : v < 8) (z : Bool) : (cells8 S).setIfInBounds v (.bool z) = cells8 (fun i => if i = v then z else S i) := by
  match v, h with
  | 0, _ => simp [cells8]
  | 1, _ => simp [cells8]
  | 2, _ => simp [cells8]
  | 3, _ => simp [cells8]
  | 4, _ => simp [cells8]
  | 5, _ => simp [cells8]
  | 6, _ => simp [cells8]
  | 7, _ => simp [cells8]

/-- Are two sets the same? -/
def same8 (S T : Nat → Bool) : Bool := (List.range 8).all fun i => S i == T i
theorem same8_iff (S T : Nat → Bool) : same8 S T = true ↔ ∀ i, i < 8 → S i = T i := by
  unfold same8
  rw [List.all_eq_true]
  constructor
  · intro h i hi
    simpa using h i (List.mem_range.2 hi)
  · intro h i hi
    simpa using h i (List.mem_range.1 hi)
theorem eq8_run (S T : Nat → Bool) (w : World) : Sem.run Tryz.prog (Op.equalIn 10000 53 (.agg #[.bool (S 0), .bool (S 1), .bool (S 2), .bool (S 3), .bool (S 4), .bool (S 5), .bool (S 6), .bool (S 7)]) (.agg #[.bool (T 0), .bool (T 1), .bool (T 2), .bool (T 3), .bool (T 4), .bool (T 5), .bool (T 6), .bool (T 7)])) w = .ok (same8 S T) w := by
  obtain ⟨iB, hiB, _, _, _⟩ := info_parts (show (Tryz.prog.info? 4).map (fun i => (i.zero, i.size, i.bytes)) = some (some (.bool false), 1, 1) by kernel_rfl)
  have h1 := run_equalIn_array (P := Tryz.prog) w 9999 (t := 53) (e := 4) (n := 8) (i := iB) (cells8 S) (cells8 T) (by kernel_rfl) hiB
  obtain ⟨r, hr, hiff⟩ := run_eqItems_plain (P := Tryz.prog) w 9998 (e := 4) (by kernel_rfl) (cells8 S) (cells8 T) (D := 1) (D' := 1) (List.range 8)
    [[.bool (S 0)], [.bool (S 1)], [.bool (S 2)], [.bool (S 3)], [.bool (S 4)], [.bool (S 5)], [.bool (S 6)], [.bool (S 7)]]
    [[.bool (T 0)], [.bool (T 1)], [.bool (T 2)], [.bool (T 3)], [.bool (T 4)], [.bool (T 5)], [.bool (T 6)], [.bool (T 7)]] (by kernel_rfl) (by kernel_rfl)
  have h2 : r = same8 S T := by
    rw [Bool.eq_iff_iff, hiff]
    rw [same8_iff]
    constructor
    · intro h i hi
      simp at h
      rcases (show i = 0 ∨ i = 1 ∨ i = 2 ∨ i = 3 ∨ i = 4 ∨ i = 5 ∨ i = 6 ∨ i = 7 by omega) with rfl | rfl | rfl | rfl | rfl | rfl | rfl | rfl <;> simp [h]
    · intro h
      simp [h 0 (by decide), h 1 (by decide), h 2 (by decide), h 3 (by decide), h 4 (by decide), h 5 (by decide), h 6 (by decide), h 7 (by decide)]
  rw [← h2]
  exact h1.trans hr

/-- What a function that says what belongs to a set has to do. -/
def BelOk (bel : De → (Nat → Bool) → Bool) (hf : Nat) (ds : List De) (L B : Nat) (w : World) : Prop :=
  ∀ d ∈ ds, ∀ (T : Nat → Bool) (A : Option Addr) (c : Nat) (V : World), Below w.heap.size w V → Lies V L B A 0 d.k → d.k.len ≤ c → c ≤ maxLen → Calls Tryz.prog hf #[valD d A c, .agg (cells8 T)] V (Gives (.bool (bel d T)) V)

/-- A store of eight cells. -/
def put8 (w : World) (g : Nat) (T : Nat → Bool) : World :=
  (((((((w.setCell ⟨g, 0, none⟩ (.bool (T 0))).setCell ⟨g, 1, none⟩ (.bool (T 1))).setCell ⟨g, 2, none⟩ (.bool (T 2))).setCell ⟨g, 3, none⟩ (.bool (T 3))).setCell ⟨g, 4, none⟩ (.bool (T 4))).setCell ⟨g, 5, none⟩ (.bool (T 5))).setCell ⟨g, 6, none⟩ (.bool (T 6))).setCell ⟨g, 7, none⟩ (.bool (T 7))
theorem put8_below {B : Nat} {w0 w : World} {g : Nat} {T : Nat → Bool} (h : Below B w0 w) (hg : B ≤ g) : Below B w0 (put8 w g T) :=
  (((((((h.setCell hg _).setCell hg _).setCell hg _).setCell hg _).setCell hg _).setCell hg _).setCell hg _).setCell hg _
theorem put8_row {w : World} {g : Nat} {t : TypeId} {S : Nat → Bool} (T : Nat → Bool) (h : Row w g t (cells8 S)) : Row (put8 w g T) g t (cells8 T) := by
  have h8 := (((((((h.put 0 (.bool (T 0))).put 1 (.bool (T 1))).put 2 (.bool (T 2))).put 3 (.bool (T 3))).put 4 (.bool (T 4))).put 5 (.bool (T 5))).put 6 (.bool (T 6))).put 7 (.bool (T 7))
  have e : ((((((((cells8 S).setIfInBounds 0 (.bool (T 0))).setIfInBounds 1 (.bool (T 1))).setIfInBounds 2 (.bool (T 2))).setIfInBounds 3 (.bool (T 3))).setIfInBounds 4 (.bool (T 4))).setIfInBounds 5 (.bool (T 5))).setIfInBounds 6 (.bool (T 6))).setIfInBounds 7 (.bool (T 7)) = cells8 T := by simp [cells8]
  rw [e] at h8
  exact h8

end Go.Proofs.YtgmhpfdhkcgbfaaGreat

namespace Go.Proofs.YtgmhpfdhkcgbfaaGreat
open Go.RowKit Go.Shelf
set_option maxRecDepth 100000

theorem end_all {ds : List De} (h : libOk ds = true) {T : Nat → Bool} (hm : Made endBel ds T) (hc : Closed endBel ds T) (i : Nat) : T i = endingT ds i := by
  cases ht : T i with
  | true =>
    obtain ⟨d, hd, rfl⟩ := made_in hm i ht
    rw [endingT_at h hd, ← end_set h hm hc hd, ht]
  | false =>
    cases he : endingT ds i with
    | false => rfl
    | true =>
      obtain ⟨d, hd, h2⟩ := List.any_eq_true.1 he
      rw [Bool.and_eq_true, decide_eq_true_iff] at h2
      rw [← h2.1, end_set h hm hc hd, h2.2] at ht
      cases ht

theorem quiet_step {ds : List De} (h : libOk ds = true) {x : Nat} {d : De} (hd : ds[x]? = some d) {T : Nat → Bool} (hT : T d.nm.toNat = !quietS ds d.nm) :
    cells8 (fun i => (ds.take (x + 1)).any fun d => decide (d.nm.toNat = i) && quietS ds d.nm) = (cells8 (fun i => (ds.take x).any fun d => decide (d.nm.toNat = i) && quietS ds d.nm)).setIfInBounds d.nm.toNat (.bool (!T d.nm.toNat)) := by
  have hm := List.mem_of_getElem? hd
  have hn := libOk_named h d hm
  rw [cells8_put _ (inVar_nat hn.1).2]
  refine cells8_congr fun i _ => ?_
  rw [List.take_add_one, hd, List.any_append, hT, Bool.not_not]
  by_cases hi : i = d.nm.toNat
  · rw [if_pos hi]
    subst hi
    simp only [Option.toList_some, List.any_cons, List.any_nil, decide_true, Bool.true_and, Bool.or_false]
    cases hq : quietS ds d.nm with
    | true => exact Bool.or_true _
    | false =>
      rw [Bool.or_false, Bool.eq_false_iff]
      intro hn2
      obtain ⟨e, he, h2⟩ := List.any_eq_true.1 hn2
      rw [Bool.and_eq_true, decide_eq_true_iff] at h2
      rw [nat_inj (libOk_named h e (List.mem_of_mem_take he)).1 hn.1 h2.1, hq] at h2
      cases h2.2
  · rw [if_neg hi]
    have : decide (d.nm.toNat = i) = false := decide_eq_false fun e => hi e.symm
    simp [this]

theorem pure_step (E Q : Nat → Bool) {j : Nat} (h : j < 8) : cells8 (fun i => if i < j + 1 then E i && Q i else E i) = (cells8 (fun i => if i < j then E i && Q i else E i)).setIfInBounds j (.bool (E j && Q j)) := by
  rw [cells8_put _ h]
  refine cells8_congr fun i _ => ?_
  by_cases hi : i = j
  · subst hi
    rw [if_pos (Nat.lt_succ_self _), if_pos rfl]
  · rw [if_neg hi]
    by_cases hl : i < j
    · rw [if_pos hl, if_pos (by omega)]
    · rw [if_neg hl, if_neg (by omega)]

end Go.Proofs.YtgmhpfdhkcgbfaaGreat

namespace Go.Proofs.YtgmhpfdhkcgbfaaGreat
open Go.RowKit Go.Shelf
set_option maxRecDepth 100000

end Go.Proofs.YtgmhpfdhkcgbfaaGreat
