/-
  slices.IndexFunc and slices.ContainsFunc at lists of numbers, with a closure whose contract is known.
  impl.funSet: its methods hasSome and hasAll.
  impl.hasOut: has a tree an output?
  What belongs to a set of functions: the closures of quietFuns and endingFuns.
  impl.fixedPoint: takes functions until there are no more of them.
  impl.endingFuns, impl.quietFuns, impl.pureFuns: sets of functions of a valid library.
  impl.funSet.namesIn: the functions of a library that are in a set. impl.isPureWith.
-/
import Derived.Test.YtdconngmobpkoaaRows
import Derived.Test.YtdconngmobpkoaaFo
import Derived.Test.YtdconngmobpkoaaNodesI
import Derived.WalkKit
import Derived.WalkSpells
import Derived.Lib.Hide
import Derived.Test.YtdconngmobpkoaaEffD
import Derived.OwnWalkIn
import Derived.Shelf.Abstract
import Derived.Test.YtdconngmobpkoaaCallsM
import Derived.Test.YtdconngmobpkoaaLibVD
import Derived.Deep.RegionWith
import Derived.Deep.RegionHeld3
import Derived.BigRegion
import Derived.DeepKeys
namespace Go.Proofs.Ytdconngmobpkoaa
open Go.RowKit
set_option maxRecDepth 100000

theorem any_take_succ {p : Int → Bool} {zs : List Int} {j : Nat} {x : Int} (h : zs[j]? = some x) : (zs.take (j + 1)).any p = ((zs.take j).any p || p x) := by
  rw [List.take_add_one, h, List.any_append]; simp

set_option maxHeartbeats 1000000 in
theorem indexFunc_any (p : Int → Bool) (hf : Nat) (hb : Array Value) (zs : List Int) (A : Option Addr) (c : Nat) (w : World) (hl : LiesI w 0 w.heap.size A zs) (hz : zs.length ≤ 1048576)
    (heg : ∀ args w, (callFunc hf args).run Try.prog w = .ok (.enter hf args) w)
    (hh : ∀ x ∈ zs, ∀ V, Below w.heap.size w V → Calls Try.prog hf (#[.int .i64 x] ++ hb) V (Gives (.bool (p x)) V)) :
    Calls Try.prog 103 #[.slice A zs.length c, .func (.func hf) #[] hb] w fun e w' => ∃ i : Int, e = .returned (.int .i64 i) ∧ decide (0 ≤ i) = zs.any p ∧ Below w.heap.size w w' := by
  go_enter Try.func103, Try.ntmps103
  go_wp2
  go_loopw [8] (fun i wr => ∃ (j : Nat), j ≤ zs.length ∧ i = .int .i64 j ∧ (zs.take j).any p = false ∧ Below w.heap.size w wr)
    (fun i _ => zs.length - (intOf i).toNat)
  case atStart => exact ⟨0, by omega, rfl, rfl, Below.refl _ _⟩
  case round =>
    obtain ⟨j, hj, rfl, hno, hb1⟩ := hrel
    by_cases hlt : j < zs.length
    · have e1 := List.getElem?_eq_getElem hlt
      have hxm := List.getElem_mem hlt
      generalize zs[j] = x at e1 hxm
      obtain ⟨b, o, hA, _, hbb, ix, g1⟩ := (hl.below hb1) j x e1
      subst hA
      have HC := Lib.hid (hh x hxm wr hb1)
      have HS := Lib.hid (any_take_succ (p := p) e1)
      have HNO := Lib.hid hno
      have HB := Lib.hid hb1
      have HE := Lib.hid e1
      clear hno hb1 e1 hxm
      go_wp2_with fail
      refine HC.out.mono ?_
      rintro e w2 ⟨rfl, hb2⟩
      have HB2 := Lib.hid (HB.out.trans (hb2.mono HB.out.size))
      clear hb2 HC
      cases hp : p x with
      | true =>
        have HF := Lib.hid (show zs.any p = true from List.any_eq_true.2 ⟨x, List.mem_of_getElem? HE.out, hp⟩)
        clear hp
        go_wp2
        go_ret
        exact ⟨_, rfl, by rw [HF.out]; exact decide_eq_true (by omega), HB2.out⟩
      | false =>
        have HF := Lib.hid (show (zs.take (j + 1)).any p = false by rw [HS.out, HNO.out, hp]; rfl)
        clear hp
        go_wp2
        go_roundw
        case rel => exact ⟨j + 1, hlt, by go_num, HF.out, HB2.out⟩
        case measure => simp [intOf]; omega
    · have e9 : j = zs.length := by omega
      subst e9
      rw [List.take_length] at hno
      go_wp2
      go_ret
      exact ⟨_, rfl, by rw [hno]; rfl, hb1⟩

set_option maxHeartbeats 1000000 in
theorem containsFunc_any (p : Int → Bool) (hf : Nat) (hb : Array Value) (zs : List Int) (A : Option Addr) (c : Nat) (w : World) (hl : LiesI w 0 w.heap.size A zs) (hz : zs.length ≤ 1048576)
    (heg : ∀ args w, (callFunc hf args).run Try.prog w = .ok (.enter hf args) w)
    (hh : ∀ x ∈ zs, ∀ V, Below w.heap.size w V → Calls Try.prog hf (#[.int .i64 x] ++ hb) V (Gives (.bool (p x)) V)) :
    Calls Try.prog 91 #[.slice A zs.length c, .func (.func hf) #[] hb] w (Gives (.bool (zs.any p)) w) := by
  go_enter Try.func91, Try.ntmps91
  go_wp2_with fail
  refine (indexFunc_any p hf hb zs A c w hl hz heg hh).mono ?_
  rintro e w2 ⟨i, rfl, hi, hb2⟩
  by_cases h0 : 0 ≤ i
  · have HF := Lib.hid (show zs.any p = true by rw [← hi]; exact decide_eq_true h0)
    clear hi
    go_wp2
    go_ret
    exact ⟨by rw [HF.out]; rfl, hb2⟩
  · have HF := Lib.hid (show zs.any p = false by rw [← hi]; exact decide_eq_false h0)
    clear hi
    go_wp2
    go_ret
    exact ⟨by rw [HF.out]; exact ret_bool (decide_eq_false (by omega)), hb2⟩
end Go.Proofs.Ytdconngmobpkoaa

namespace Go.Proofs.Ytdconngmobpkoaa
open Go.RowKit Go.Shelf
set_option maxRecDepth 100000

theorem hasAll1_any (T : Nat → Bool) (x : Int) (g : Nat) (w : World) (hx : inVar x = true) (hr : Row w g 80 (cells8 T)) :
    Calls Try.prog 92 #[.int .i64 x, .pointer (some ⟨g, 0, none⟩)] w (Gives (.bool (!T x.toNat)) w) := by
  obtain ⟨e0, e8⟩ := inVar_nat hx
  generalize x.toNat = v at e0 e8 ⊢
  subst e0
  have q0 := hr.cell (cells8_at T e8)
  go_enter Try.func92, Try.ntmps92
  go_wp2
  go_ret
  exact ⟨rfl, Below.refl _ _⟩

theorem hasAll_any (T : Nat → Bool) (zs : List Int) (A : Option Addr) (c : Nat) (w : World) (hl : LiesI w 0 w.heap.size A zs) (hz : zs.length ≤ 1048576) (hv : ∀ x ∈ zs, inVar x = true) :
    Calls Try.prog 79 #[.agg (cells8 T), .slice A zs.length c] w (Gives (.bool (allT T zs)) w) := by
  obtain ⟨hb1, hr1⟩ := one_box w 80 (cells8 T)
  have HC := Lib.hid (containsFunc_any (fun x => !T x.toNat) 92 #[.pointer (some ⟨w.heap.size, 0, none⟩)] zs A c _ (hl.up hb1) hz (enters_of Try.func92 (by kernel_rfl) rfl)
    (fun x hx V hV => hasAll1_any T x w.heap.size V (hv x hx) (hr1.below hV hr1.size)))
  clear hr1
  unfold cells8 at *
  unfold allT
  go_enter Try.func79, Try.ntmps79
  go_wp2_with fail
  refine HC.out.mono ?_
  rintro e w2 ⟨rfl, hb2⟩
  have hb3 := hb1.trans (hb2.mono hb1.size)
  clear HC hb1 hb2
  go_wp2
  go_ret
  exact ⟨rfl, hb3⟩
end Go.Proofs.Ytdconngmobpkoaa

namespace Go.Proofs.Ytdconngmobpkoaa
open Go.RowKit Go.Shelf
set_option maxRecDepth 100000

attribute [local go_sem] Oper.semAt_some

def seenO (l : List Nx) : Bool := seenQ ownO (l.map Nx.nd) 0
theorem seenO_snoc (l : List Nx) (y : Nx) : seenO (l ++ [y]) = (seenO l || decide (y.op = 9)) := by
  unfold seenO
  rw [List.map_append, List.map_singleton, seenQ_snoc]
  rfl

end Go.Proofs.Ytdconngmobpkoaa

namespace Go.Proofs.Ytdconngmobpkoaa
open Go.RowKit Go.Shelf
set_option maxRecDepth 100000

theorem nums_vars (S : Nat → Bool) : ∀ x ∈ numsUpto S 8, inVar x = true := fun x hx => by
  obtain ⟨v, h1, rfl, _⟩ := numsUpto_mem 8 x hx
  exact inVar_mk (by omega) (by omega)

theorem Row.eight {w : World} {g : Nat} {t : TypeId} {T : Nat → Bool} (h : Row w g t (cells8 T)) : w.cell? ⟨g, 0, none⟩ = some (.bool (T 0)) ∧ w.cell? ⟨g, 1, none⟩ = some (.bool (T 1)) ∧ w.cell? ⟨g, 2, none⟩ = some (.bool (T 2)) ∧
    w.cell? ⟨g, 3, none⟩ = some (.bool (T 3)) ∧ w.cell? ⟨g, 4, none⟩ = some (.bool (T 4)) ∧ w.cell? ⟨g, 5, none⟩ = some (.bool (T 5)) ∧ w.cell? ⟨g, 6, none⟩ = some (.bool (T 6)) ∧ w.cell? ⟨g, 7, none⟩ = some (.bool (T 7)) :=
  ⟨h.cell (i := 0) rfl, h.cell (i := 1) rfl, h.cell (i := 2) rfl, h.cell (i := 3) rfl, h.cell (i := 4) rfl, h.cell (i := 5) rfl, h.cell (i := 6) rfl, h.cell (i := 7) rfl⟩
theorem Row.six {w : World} {g : Nat} {t : TypeId} {a b c d e f : Value} (h : Row w g t #[a, b, c, d, e, f]) : w.cell? ⟨g, 0, none⟩ = some a ∧ w.cell? ⟨g, 1, none⟩ = some b ∧ w.cell? ⟨g, 2, none⟩ = some c ∧
    w.cell? ⟨g, 3, none⟩ = some d ∧ w.cell? ⟨g, 4, none⟩ = some e ∧ w.cell? ⟨g, 5, none⟩ = some f :=
  ⟨h.cell (i := 0) rfl, h.cell (i := 1) rfl, h.cell (i := 2) rfl, h.cell (i := 3) rfl, h.cell (i := 4) rfl, h.cell (i := 5) rfl⟩
theorem Row.three {w : World} {g : Nat} {t : TypeId} {a b c : Value} (h : Row w g t #[a, b, c]) : w.cell? ⟨g, 0, none⟩ = some a ∧ w.cell? ⟨g, 1, none⟩ = some b ∧ w.cell? ⟨g, 2, none⟩ = some c :=
  ⟨h.cell (i := 0) rfl, h.cell (i := 1) rfl, h.cell (i := 2) rfl⟩

set_option maxHeartbeats 1000000 in
theorem ending1_any (d : De) (A : Option Addr) (c L B : Nat) (T : Nat → Bool) (w : World) (hl : Lies w L B A 0 d.k) (hB : B ≤ w.heap.size) (hal : RowsIf w B A d.k) (hk1 : d.k.len ≤ c) (hk2 : c ≤ maxLen) (hsz : d.k.size ≤ 1048576) :
    Calls Try.prog 78 #[valD d A c, .agg (cells8 T)] w (Gives (.bool (endBel d T)) w) := by
  unfold valD cells8
  obtain ⟨hb2, hr1, hr2⟩ := two_boxes w 47 80 #[.int .i64 d.nm, .int .i64 d.ar, .bool d.old, .int .i64 d.op, .int .i64 d.n, .slice A d.k.len c] (cells8 T)
  unfold cells8 at hb2 hr1
  have hr2' := hr2
  unfold cells8 at hr2'
  have hb3 := hb2.drew
  have HR1 := Lib.hid hr1.drew
  have HR2 := Lib.hid (show Row (_ : World).drew _ _ (cells8 T) from hr2'.drew)
  obtain ⟨q0, q1, q2, q3, q4, q5⟩ := hr1.drew.six
  obtain ⟨p0, p1, p2, p3, p4, p5, p6, p7⟩ := HR2.out.eight
  have HL := Lib.hid (hl.below (hb3.mono hB))
  have HA := Lib.hid (hal.below hb3 hB)
  have HB := Lib.hid hb3
  have HZ := Lib.hid (Nat.le_trans hB hb3.size)
  clear hb2 hr1 hr2 hr2' hb3 hl hal
  obtain ⟨zs, hzs⟩ : ∃ zs, zs = numsUpto (callD d) 8 := ⟨_, rfl⟩
  have hlen : zs.length ≤ 8 := by rw [hzs]; exact numsUpto_len _ 8
  have HF := Lib.hid (show endBel d T = allT T zs by unfold endBel; rw [hzs])
  have HV := Lib.hid (show ∀ x ∈ zs, inVar x = true by rw [hzs]; exact nums_vars _)
  have HI := Lib.hid (show ∀ x ∈ zs, I64 x by rw [hzs]; exact fun x hx => numsUpto_small _ 8 x (Nat.le_refl _) hx)
  have HC := Lib.hid (hzs ▸ implCalls_r d.op d.n d.k A c L B _ HL.out HZ.out HA.out hk1 hk2 hsz)
  have HLEN := Lib.hid hlen
  clear hzs hlen
  go_enter Try.func78, Try.ntmps78
  go_wp2_with fail
  first
    | (go_region_with (first
        | (go_at_call 26
           refine HC.out.mono ?_
           rintro e w5 ⟨v5, rfl, hown5, hb5⟩
           obtain ⟨A5, c5, rfl, hi5⟩ := own_ints hown5 HI.out
           have hr5 := HR1.out.below hb5 HR1.out.size
           have hs5 := HR2.out.below hb5 HR2.out.size
           obtain ⟨z0, z1, z2, z3, z4, z5⟩ := hr5.six
           obtain ⟨s0, s1, s2, s3, s4, s5, s6, s7⟩ := hs5.eight
           clear hown5)
        | (go_at_call 79
           refine (hasAll_any T zs A5 c5 w5 (hi5.mono_ (Nat.zero_le _) (Nat.le_refl _)) (by have := HLEN.out; omega) HV.out).mono ?_
           rintro e w6 ⟨rfl, hb6⟩)))
    | fail
  all_goals
    have hb7 := HB.out.trans ((hb5.trans (hb6.mono hb5.size)).mono HB.out.size)
    clear hb5 hb6 hr5 hs5 HR1 HR2 q0 q1 q2 q3 q4 q5 p0 p1 p2 p3 p4 p5 p6 p7 z0 z1 z2 z3 z4 z5 s0 s1 s2 s3 s4 s5 s6 s7
    go_wp2
    go_ret
    exact ⟨by rw [HF.out]; rfl, hb7⟩
end Go.Proofs.Ytdconngmobpkoaa

namespace Go.Proofs.Ytdconngmobpkoaa
open Go.RowKit Go.Shelf
set_option maxRecDepth 100000

/-- How many of the eight are taken. -/
def cnt (T : Nat → Bool) : Nat → Nat
  | 0 => 0
  | j + 1 => cnt T j + (if T j then 1 else 0)
theorem cnt_le (T : Nat → Bool) : ∀ j, cnt T j ≤ j
  | 0 => Nat.le_refl _
  | j + 1 => by have := cnt_le T j; simp only [cnt]; split <;> omega
theorem cnt_mono {S T : Nat → Bool} (h : ∀ i, S i = true → T i = true) : ∀ j, cnt S j ≤ cnt T j
  | 0 => Nat.le_refl _
  | j + 1 => by
    have := cnt_mono h j
    simp only [cnt]
    cases hs : S j with
    | true => rw [h _ hs]; simp; exact this
    | false => simp; omega
theorem cnt_lt {S T : Nat → Bool} (h : ∀ i, S i = true → T i = true) {i : Nat} : ∀ j, i < j → S i = false → T i = true → cnt S j < cnt T j
  | 0, hi, _, _ => by omega
  | j + 1, hi, h1, h2 => by
    have hm := cnt_mono h j
    simp only [cnt]
    by_cases he : i = j
    · subst he
      rw [h1, h2]; simp; omega
    · have hl := cnt_lt h (i := i) j (by omega) h1 h2
      cases hs : S j with
      | true => rw [h _ hs]; simp; omega
      | false => simp; omega

/-- One function in a round, and a round. -/
def tk1 (bel : De → (Nat → Bool) → Bool) (T : Nat → Bool) (d : De) : Nat → Bool := if T d.nm.toNat then T else if bel d T then fun i => T i || decide (i = d.nm.toNat) else T
def tk (bel : De → (Nat → Bool) → Bool) (T : Nat → Bool) (ds : List De) : Nat → Bool := ds.foldl (tk1 bel) T
theorem tk_take {bel : De → (Nat → Bool) → Bool} {T : Nat → Bool} {ds : List De} {j : Nat} {d : De} (h : ds[j]? = some d) : tk bel T (ds.take (j + 1)) = tk1 bel (tk bel T (ds.take j)) d := by
  unfold tk
  rw [List.take_add_one, h, List.foldl_append]
  rfl
theorem tk1_mono (bel : De → (Nat → Bool) → Bool) (T : Nat → Bool) (d : De) (i : Nat) (h : T i = true) : tk1 bel T d i = true := by
  unfold tk1
  split
  · exact h
  · split
    · simp [h]
    · exact h
theorem tk_mono (bel : De → (Nat → Bool) → Bool) : ∀ (r : List De) (T : Nat → Bool) (i : Nat), T i = true → tk bel T r i = true
  | [], _, _, h => h
  | d :: r, T, i, h => tk_mono bel r (tk1 bel T d) i (tk1_mono bel T d i h)
theorem tk1_made {bel : De → (Nat → Bool) → Bool} {ds : List De} {T : Nat → Bool} (h : Made bel ds T) {d : De} (hd : d ∈ ds) : Made bel ds (tk1 bel T d) := by
  unfold tk1
  split
  · exact h
  · split
    · rename_i hb
      exact .add h hd hb
    · exact h
theorem tk_made {bel : De → (Nat → Bool) → Bool} {ds : List De} : ∀ (r : List De) (T : Nat → Bool), (∀ d ∈ r, d ∈ ds) → Made bel ds T → Made bel ds (tk bel T r)
  | [], _, _, h => h
  | d :: r, _, hr, h => tk_made r _ (fun e he => hr e (List.mem_cons_of_mem _ he)) (tk1_made h (hr d (List.mem_cons_self ..)))
theorem tk1_same {bel : De → (Nat → Bool) → Bool} {T : Nat → Bool} {d : De} (h : ∀ i, tk1 bel T d i = true → T i = true) : tk1 bel T d = T := funext fun i => by
  cases hb : T i with
  | true => exact tk1_mono bel T d i hb
  | false =>
    cases hb2 : tk1 bel T d i with
    | false => rfl
    | true => rw [h i hb2] at hb; cases hb
/-- A round that takes nothing: the set is closed. -/
theorem tk_fix {bel : De → (Nat → Bool) → Bool} : ∀ (r : List De) (T : Nat → Bool), (∀ i, tk bel T r i = true → T i = true) → ∀ d ∈ r, bel d T = true → T d.nm.toNat = true
  | [], _, _, d, hd, _ => by simp at hd
  | d0 :: r, T, h, d, hd, hb => by
    have h1 : ∀ i, tk1 bel T d0 i = true → T i = true := fun i hi => h i (tk_mono bel r _ i hi)
    have h3 := tk1_same h1
    rcases List.mem_cons.1 hd with rfl | hd
    · refine h1 _ ?_
      unfold tk1
      split
      · assumption
      · simp
    · have h4 : ∀ i, tk bel T r i = true → T i = true := fun i hi => h i (by show tk bel (tk1 bel T d0) r i = true; rw [h3]; exact hi)
      exact tk_fix r T h4 d hd hb

theorem cells8_inj {S T : Nat → Bool} (h : cells8 S = cells8 T) : ∀ i, i < 8 → S i = T i := by
  intro i hi
  have h1 := cells8_at S hi
  rw [h, cells8_at T hi] at h1
  injection h1 with h1
  injection h1 with h1
  exact h1.symm

theorem cells8_put (S : Nat → Bool) {v : Nat} (h : v < 8) (z : Bool) : (cells8 S).setIfInBounds v (.bool z) = cells8 (fun i => if i = v then z else S i) := by
  match v, h with
  | 0, _ => simp [cells8]
  | 1, _ => simp [cells8]
  | 2, _ => simp [cells8]
  | 3, _ => simp [cells8]
  | 4, _ => simp [cells8]
  | 5, _ => simp [cells8]
  | 6, _ => simp [cells8]
  | 7, _ => simp [cells8]

/-- Are two sets the same? -/
def same8 (S T : Nat → Bool) : Bool := (List.range 8).all fun i => S i == T i
theorem same8_iff (S T : Nat → Bool) : same8 S T = true ↔ ∀ i, i < 8 → S i = T i := by
  unfold same8
  rw [List.all_eq_true]
  constructor
  · intro h i hi
    simpa using h i (List.mem_range.2 hi)
  · intro h i hi
    simpa using h i (List.mem_range.1 hi)
theorem eq8_run (S T : Nat → Bool) (w : World) : Sem.run Try.prog (Op.equalIn 10000 80 (.agg #[.bool (S 0), .bool (S 1), .bool (S 2), .bool (S 3), .bool (S 4), .bool (S 5), .bool (S 6), .bool (S 7)]) (.agg #[.bool (T 0), .bool (T 1), .bool (T 2), .bool (T 3), .bool (T 4), .bool (T 5), .bool (T 6), .bool (T 7)])) w = .ok (same8 S T) w := by
  obtain ⟨iB, hiB, _, _, _⟩ := info_parts (show (Try.prog.info? 4).map (fun i => (i.zero, i.size, i.bytes)) = some (some (.bool false), 1, 1) by kernel_rfl)
  have h1 := run_equalIn_array (P := Try.prog) w 9999 (t := 80) (e := 4) (n := 8) (i := iB) (cells8 S) (cells8 T) (by kernel_rfl) hiB
  obtain ⟨r, hr, hiff⟩ := run_eqItems_plain (P := Try.prog) w 9998 (e := 4) (by kernel_rfl) (cells8 S) (cells8 T) (D := 1) (D' := 1) (List.range 8)
    [[.bool (S 0)], [.bool (S 1)], [.bool (S 2)], [.bool (S 3)], [.bool (S 4)], [.bool (S 5)], [.bool (S 6)], [.bool (S 7)]]
    [[.bool (T 0)], [.bool (T 1)], [.bool (T 2)], [.bool (T 3)], [.bool (T 4)], [.bool (T 5)], [.bool (T 6)], [.bool (T 7)]] (by kernel_rfl) (by kernel_rfl)
  have h2 : r = same8 S T := by
    rw [Bool.eq_iff_iff, hiff]
    rw [same8_iff]
    constructor
    · intro h i hi
      simp at h
      rcases (show i = 0 ∨ i = 1 ∨ i = 2 ∨ i = 3 ∨ i = 4 ∨ i = 5 ∨ i = 6 ∨ i = 7 by omega) with rfl | rfl | rfl | rfl | rfl | rfl | rfl | rfl <;> simp [h]
    · intro h
      simp [h 0 (by decide), h 1 (by decide), h 2 (by decide), h 3 (by decide), h 4 (by decide), h 5 (by decide), h 6 (by decide), h 7 (by decide)]
  rw [← h2]
  exact h1.trans hr

/-- What a function that says what belongs to a set has to do. -/
def BelOk (bel : De → (Nat → Bool) → Bool) (hf : Nat) (ds : List De) (L B : Nat) (w : World) : Prop :=
  ∀ d ∈ ds, ∀ (T : Nat → Bool) (A : Option Addr) (c : Nat) (V : World), Below w.heap.size w V → Lies V L B A 0 d.k → d.k.len ≤ c → c ≤ maxLen → Calls Try.prog hf #[valD d A c, .agg (cells8 T)] V (Gives (.bool (bel d T)) V)

/-- A store of eight cells. -/
def put8 (w : World) (g : Nat) (T : Nat → Bool) : World :=
  (((((((w.setCell ⟨g, 0, none⟩ (.bool (T 0))).setCell ⟨g, 1, none⟩ (.bool (T 1))).setCell ⟨g, 2, none⟩ (.bool (T 2))).setCell ⟨g, 3, none⟩ (.bool (T 3))).setCell ⟨g, 4, none⟩ (.bool (T 4))).setCell ⟨g, 5, none⟩ (.bool (T 5))).setCell ⟨g, 6, none⟩ (.bool (T 6))).setCell ⟨g, 7, none⟩ (.bool (T 7))
theorem put8_below {B : Nat} {w0 w : World} {g : Nat} {T : Nat → Bool} (h : Below B w0 w) (hg : B ≤ g) : Below B w0 (put8 w g T) :=
  (((((((h.setCell hg _).setCell hg _).setCell hg _).setCell hg _).setCell hg _).setCell hg _).setCell hg _).setCell hg _
theorem put8_row {w : World} {g : Nat} {t : TypeId} {S : Nat → Bool} (T : Nat → Bool) (h : Row w g t (cells8 S)) : Row (put8 w g T) g t (cells8 T) := by
  have h8 := (((((((h.put 0 (.bool (T 0))).put 1 (.bool (T 1))).put 2 (.bool (T 2))).put 3 (.bool (T 3))).put 4 (.bool (T 4))).put 5 (.bool (T 5))).put 6 (.bool (T 6))).put 7 (.bool (T 7))
  have e : ((((((((cells8 S).setIfInBounds 0 (.bool (T 0))).setIfInBounds 1 (.bool (T 1))).setIfInBounds 2 (.bool (T 2))).setIfInBounds 3 (.bool (T 3))).setIfInBounds 4 (.bool (T 4))).setIfInBounds 5 (.bool (T 5))).setIfInBounds 6 (.bool (T 6))).setIfInBounds 7 (.bool (T 7)) = cells8 T := by simp [cells8]
  rw [e] at h8
  exact h8

set_option maxHeartbeats 4000000 in
theorem fixedPoint_any (bel : De → (Nat → Bool) → Bool) (hf : Nat) (ds : List De) (DA : Option Addr) (DC L B : Nat) (w : World) (hd : LiesD w L B DA ds) (hB : B ≤ w.heap.size) (hdz : sizeD ds ≤ 1048576) (hnm : ∀ d ∈ ds, inVar d.nm = true)
    (heg : ∀ args w, (callFunc hf args).run Try.prog w = .ok (.enter hf args) w) (hbel : BelOk bel hf ds L B w) :
    Calls Try.prog 77 #[.slice DA ds.length DC, .func (.func hf) #[] #[]] w fun e w' => ∃ T, e = .returned (.agg (cells8 T)) ∧ Made bel ds T ∧ Closed bel ds T ∧ Below w.heap.size w w' := by
  have hds := Nat.le_trans (sizeD_len ds) hdz
  obtain ⟨hb1, hr1, hr2⟩ := two_boxes w 80 80 (cells8 fun _ => false) (cells8 fun _ => false)
  have HB1 := Lib.hid hb1
  have HR1 := Lib.hid hr1
  have HR2 := Lib.hid hr2
  have HD := Lib.hid hd
  have HBEL := Lib.hid hbel
  clear hb1 hr1 hr2 hd hbel
  go_enter Try.func77, Try.ntmps77
  go_wp2_with fail
  go_loopg [6] 8 (fun gk v wr => ∃ T, Made bel ds T ∧ gk + cnt T 8 = 8 ∧ Row wr w.heap.size 80 (cells8 fun _ => false) ∧ Row wr (w.heap.size + 1) 80 (cells8 T) ∧ Below w.heap.size w wr)
  case atStart => exact ⟨_, .nil, by decide, HR1.out, HR2.out, HB1.out⟩
  case round =>
    clear HB1 HR1 HR2
    obtain ⟨T, hmd, hgk, hra, hrb, hb⟩ := hrel
    obtain ⟨p0, p1, p2, p3, p4, p5, p6, p7⟩ := hrb.eight
    have HMD := Lib.hid hmd
    have HGK := Lib.hid hgk
    have HRA := Lib.hid hra
    have HRB := Lib.hid hrb
    have HB := Lib.hid hb
    clear hmd hgk hra hrb hb
    have hb2 : Below w.heap.size w (wr.alloc (Obj.cells (cells8 T) 80)) := HB.out.alloc HB.out.size _
    have hz2 : wr.heap.size < (wr.alloc (Obj.cells (cells8 T) 80)).heap.size := by simp
    have HS := Lib.hid (show w.heap.size + 1 < wr.heap.size ∧ w.heap.size ≤ wr.heap.size from ⟨HRB.out.size, HB.out.size⟩)
    have HRX := Lib.hid (Row.fresh wr 80 (cells8 T))
    have HRA2 := Lib.hid (HRA.out.alloc (Obj.cells (cells8 T) 80))
    have HRB2 := Lib.hid (HRB.out.alloc (Obj.cells (cells8 T) 80))
    have HB2 := Lib.hid hb2
    clear hb2 hz2 HRA HRB HB
    go_wp2_with fail
    obtain ⟨wo, rfl⟩ : ∃ wo : World, wo = wr := ⟨_, rfl⟩
    go_loopw [12] (fun i wx => ∃ (x : Nat), x ≤ ds.length ∧ i = .int .i64 x ∧ Row wx (w.heap.size + 1) 80 (cells8 (tk bel T (ds.take x))) ∧ Row wx w.heap.size 80 (cells8 fun _ => false) ∧ Row wx wo.heap.size 80 (cells8 T) ∧ Below w.heap.size w wx)
      (fun i _ => ds.length - (intOf i).toNat)
    case atStart => exact ⟨0, by omega, rfl, HRB2.out, HRA2.out, HRX.out, HB2.out⟩
    case round =>
      clear HRX HRA2 HRB2 HB2 p0 p1 p2 p3 p4 p5 p6 p7
      obtain ⟨x, hx, rfl, hrt, hra, hrx, hb⟩ := hrel
      by_cases hlt : x < ds.length
      · have e1 := List.getElem?_eq_getElem hlt
        generalize ds[x] = d at e1
        have hst := tk_take (bel := bel) (T := T) e1
        generalize tk bel T (ds.take x) = U at hrt hst
        obtain ⟨b, o, A', c', hA, _, hbb, hf', g1, g2, g3, g4, g5, g6, h7, h8, h9⟩ := (HD.out.below (hb.mono hB)) x d e1
        subst hA
        have hdm : d ∈ ds := List.mem_of_getElem? e1
        obtain ⟨en, e8⟩ := inVar_nat (hnm d hdm)
        have htk : tk1 bel U d = if U d.nm.toNat then U else if bel d U then fun i => U i || decide (i = d.nm.toNat) else U := rfl
        have i0 : (0 : Int) ≤ d.nm := by omega
        have i8 : d.nm < 8 := by omega
        have HBX := Lib.hid (hb.alloc (hb.size) (Obj.cells #[Value.int IntKind.i64 d.nm, Value.int IntKind.i64 d.ar, Value.bool d.old, Value.int IntKind.i64 d.op, Value.int IntKind.i64 d.n, Value.slice A' d.k.len c'] 47)).drew
        have HRT := Lib.hid (hrt.alloc (Obj.cells #[Value.int IntKind.i64 d.nm, Value.int IntKind.i64 d.ar, Value.bool d.old, Value.int IntKind.i64 d.op, Value.int IntKind.i64 d.n, Value.slice A' d.k.len c'] 47)).drew
        have HRA := Lib.hid (hra.alloc (Obj.cells #[Value.int IntKind.i64 d.nm, Value.int IntKind.i64 d.ar, Value.bool d.old, Value.int IntKind.i64 d.op, Value.int IntKind.i64 d.n, Value.slice A' d.k.len c'] 47)).drew
        have HRX := Lib.hid (hrx.alloc (Obj.cells #[Value.int IntKind.i64 d.nm, Value.int IntKind.i64 d.ar, Value.bool d.old, Value.int IntKind.i64 d.op, Value.int IntKind.i64 d.n, Value.slice A' d.k.len c'] 47)).drew
        have HRD := Lib.hid (Row.fresh wr 47 #[Value.int IntKind.i64 d.nm, Value.int IntKind.i64 d.ar, Value.bool d.old, Value.int IntKind.i64 d.op, Value.int IntKind.i64 d.n, Value.slice A' d.k.len c']).drew
        have HL := Lib.hid (h9.below (((Below.refl _ wr).alloc (Nat.le_refl _) (Obj.cells #[Value.int IntKind.i64 d.nm, Value.int IntKind.i64 d.ar, Value.bool d.old, Value.int IntKind.i64 d.op, Value.int IntKind.i64 d.n, Value.slice A' d.k.len c'] 47)).drew.mono (Nat.le_trans hB hb.size)))
        have HST := Lib.hid (hst.trans htk)
        have HE := Lib.hid e1
        have HDM := Lib.hid hdm
        obtain ⟨p0, p1, p2, p3, p4, p5, p6, p7⟩ := HRT.out.eight
        obtain ⟨q0, q1, q2, q3, q4, q5⟩ := HRD.out.six
        have qv := HRT.out.cell (cells8_at U e8)
        have fv := HRT.out.free d.nm.toNat
        clear hst htk hrt hra hrx hb e1 hdm hf' h9 en
        cases hU : U d.nm.toNat with
        | true =>
          rw [hU] at qv
          go_wp2_with fail
          have HFIN := Lib.hid (show cells8 (tk bel T (ds.take (x + 1))) = (cells8 U).setIfInBounds d.nm.toNat (.bool true) by
            rw [HST.out, if_pos hU, cells8_put U e8]
            exact cells8_congr fun i _ => by by_cases h : i = d.nm.toNat <;> simp [h, hU])
          have HP1 := Lib.hid (HRT.out.put d.nm.toNat (.bool true))
          have HP2 := Lib.hid (HRA.out.apart (p := ⟨w.heap.size + 1, d.nm.toNat, none⟩) (by simp) (.bool true))
          have HP3 := Lib.hid (HRX.out.apart (p := ⟨w.heap.size + 1, d.nm.toNat, none⟩) (by have := HS.out; simp; omega) (.bool true))
          have HP4 := Lib.hid (HBX.out.setCell (p := ⟨w.heap.size + 1, d.nm.toNat, none⟩) (by simp) (.bool true))
          clear hU HRT HRA HRX HBX HRD HL HBEL
          go_region
          all_goals
            clear p0 p1 p2 p3 p4 p5 p6 p7 q0 q1 q2 q3 q4 q5 qv fv g1 g2 g3 g4 g5 g6
            go_wp2
            go_roundw
            case rel => exact ⟨x + 1, hlt, by go_num, by rw [HFIN.out]; exact HP1.out, HP2.out, HP3.out, HP4.out⟩
            case measure => simp [intOf]; omega
        | false =>
          rw [hU] at qv
          have HCL := Lib.hid (show Calls Try.prog hf #[.agg #[.int .i64 d.nm, .int .i64 d.ar, .bool d.old, .int .i64 d.op, .int .i64 d.n, .slice A' d.k.len c'], .agg #[.bool (U 0), .bool (U 1), .bool (U 2), .bool (U 3), .bool (U 4), .bool (U 5), .bool (U 6), .bool (U 7)]]
            (wr.alloc (Obj.cells #[Value.int IntKind.i64 d.nm, Value.int IntKind.i64 d.ar, Value.bool d.old, Value.int IntKind.i64 d.op, Value.int IntKind.i64 d.n, Value.slice A' d.k.len c'] 47)).drew (Gives (.bool (bel d U)) _) from HBEL.out d HDM.out U A' c' _ HBX.out HL.out h7 h8)
          have HFIN := Lib.hid (show cells8 (tk bel T (ds.take (x + 1))) = (cells8 U).setIfInBounds d.nm.toNat (.bool (bel d U)) by
            rw [HST.out, if_neg (by rw [hU]; exact Bool.false_ne_true), cells8_put U e8]
            refine cells8_congr fun i _ => ?_
            cases bel d U with
            | true => by_cases h : i = d.nm.toNat <;> simp [h]
            | false => by_cases h : i = d.nm.toNat <;> simp [h, hU])
          clear HL HBEL HST
          go_wp2_with fail
          first
            | (go_region_with (first
                | (with_reducible refine HCL.out.mono ?_
                   rintro e w6 ⟨rfl, hb6⟩
                   have hs6 := HRT.out.below hb6 HRT.out.size
                   have hd6 := HRD.out.below hb6 HRD.out.size
                   obtain ⟨s0, s1, s2, s3, s4, s5, s6, s7⟩ := hs6.eight
                   obtain ⟨y0, y1, y2, y3, y4, y5⟩ := hd6.six
                   have sv := hs6.cell (cells8_at U e8)
                   have sf := hs6.free d.nm.toNat)))
            | fail
          all_goals
            have HP1 := Lib.hid (hs6.put d.nm.toNat (.bool (bel d U)))
            have HP2 := Lib.hid ((HRA.out.below hb6 HRA.out.size).apart (p := ⟨w.heap.size + 1, d.nm.toNat, none⟩) (by simp) (.bool (bel d U)))
            have HP3 := Lib.hid ((HRX.out.below hb6 HRX.out.size).apart (p := ⟨w.heap.size + 1, d.nm.toNat, none⟩) (by have := HS.out; simp; omega) (.bool (bel d U)))
            have HP4 := Lib.hid ((HBX.out.trans (hb6.mono HBX.out.size)).setCell (p := ⟨w.heap.size + 1, d.nm.toNat, none⟩) (by simp) (.bool (bel d U)))
            clear hb6 hs6 hd6 s0 s1 s2 s3 s4 s5 s6 s7 y0 y1 y2 y3 y4 y5 sv sf p0 p1 p2 p3 p4 p5 p6 p7 q0 q1 q2 q3 q4 q5 qv fv g1 g2 g3 g4 g5 g6
            clear hU HRT HRA HRX HBX HRD HCL
            go_wp2
            go_roundw
            case rel => exact ⟨x + 1, hlt, by go_num, by rw [HFIN.out]; exact HP1.out, HP2.out, HP3.out, HP4.out⟩
            case measure => simp [intOf]; omega
      · have e9 : x = ds.length := by omega
        subst e9
        rw [List.take_length] at hrt
        obtain ⟨p0, p1, p2, p3, p4, p5, p6, p7⟩ := hrt.eight
        obtain ⟨q0, q1, q2, q3, q4, q5, q6, q7⟩ := hrx.eight
        have heq := eq8_run (tk bel T ds) T wr
        have hin := made_in (tk_made ds T (fun _ h => h) HMD.out)
        have hmono := tk_mono bel ds T
        have HCL := Lib.hid (show same8 (tk bel T ds) T = true → Closed bel ds (tk bel T ds) by
          intro h
          have h1 := (same8_iff _ _).1 h
          have h2 : ∀ i, tk bel T ds i = true → T i = true := fun i hi => by
            obtain ⟨d, hd, rfl⟩ := hin i hi
            rw [← h1 _ (inVar_nat (hnm d hd)).2]
            exact hi
          have h3 : tk bel T ds = T := funext fun i => by
            cases hb : T i with
            | true => exact hmono i hb
            | false =>
              cases hb2 : tk bel T ds i with
              | false => rfl
              | true => rw [h2 i hb2] at hb; cases hb
          intro d hd hb
          rw [h3] at hb ⊢
          exact tk_fix ds T h2 d hd hb)
        have HMK := Lib.hid (tk_made ds T (fun _ h => h) HMD.out)
        have HGR := Lib.hid (show same8 (tk bel T ds) T = false → cnt T 8 < cnt (tk bel T ds) 8 by
          intro h
          refine Classical.byContradiction fun hn => ?_
          have h1 : ∀ i, i < 8 → tk bel T ds i = T i := fun i hi => by
            cases hb : T i with
            | true => exact hmono i hb
            | false =>
              cases hb2 : tk bel T ds i with
              | false => rfl
              | true => exact absurd (cnt_lt hmono 8 hi hb hb2) hn
          rw [(same8_iff _ _).2 h1] at h
          cases h)
        clear hin hmono
        have HRT := Lib.hid hrt
        have HRA := Lib.hid hra
        have HB := Lib.hid hb
        clear hrt hra hrx hb HMD
        generalize tk bel T ds = U at *
        cases hs : same8 U T with
        | true =>
          have HC2 := Lib.hid (HCL.out hs)
          rw [hs] at heq
          clear hs HCL HGR
          obtain ⟨a0, a1, a2, a3, a4, a5, a6, a7⟩ := HRA.out.eight
          have f0 := HRA.out.free 0
          have f1 := HRA.out.free 1
          have f2 := HRA.out.free 2
          have f3 := HRA.out.free 3
          have f4 := HRA.out.free 4
          have f5 := HRA.out.free 5
          have f6 := HRA.out.free 6
          have f7 := HRA.out.free 7
          have HE := Lib.hid (put8_row U HRA.out)
          have HEB := Lib.hid (put8_below (T := U) HB.out (Nat.le_refl _))
          go_wp2_with fail
          obtain ⟨r0, r1, r2, r3, r4, r5, r6, r7⟩ := HE.out.eight
          unfold put8 at r0 r1 r2 r3 r4 r5 r6 r7
          refine bodyPost_ret (v := .agg (cells8 U)) ?_ rfl ⟨U, rfl, HMK.out, HC2.out, HEB.out⟩
          simp [results, Try.f77, go_sem, r0, r1, r2, r3, r4, r5, r6, r7, cells8]
        | false =>
          have HC2 := Lib.hid (HGR.out hs)
          rw [hs] at heq
          clear hs HCL HGR
          go_wp2
          have h1 := HGK.out
          have h2 := HC2.out
          have h3 := cnt_le U 8
          go_roundg (8 - cnt U 8)
          case measure => omega
          case rel => exact ⟨U, HMK.out, by omega, HRA.out, HRT.out, HB.out⟩
end Go.Proofs.Ytdconngmobpkoaa

namespace Go.Proofs.Ytdconngmobpkoaa
open Go.RowKit Go.Shelf
set_option maxRecDepth 100000

theorem end_all {ds : List De} (h : libOk ds = true) {T : Nat → Bool} (hm : Made endBel ds T) (hc : Closed endBel ds T) (i : Nat) : T i = endingT ds i := by
  cases ht : T i with
  | true =>
    obtain ⟨d, hd, rfl⟩ := made_in hm i ht
    rw [endingT_at h hd, ← end_set h hm hc hd, ht]
  | false =>
    cases he : endingT ds i with
    | false => rfl
    | true =>
      obtain ⟨d, hd, h2⟩ := List.any_eq_true.1 he
      rw [Bool.and_eq_true, decide_eq_true_iff] at h2
      rw [← h2.1, end_set h hm hc hd, h2.2] at ht
      cases ht

theorem ending_bel {ds : List De} {L B : Nat} {w : World} (hB : B ≤ w.heap.size) (hok : libOk ds = true) (hdz : sizeD ds ≤ 1048576) : BelOk endBel 78 ds L B w := by
  intro d hd T A c V hb hl h1 h2
  obtain ⟨i, hi⟩ := List.mem_iff_getElem?.1 hd
  have := sizeD_at hi
  exact ending1_any d A c L B T V hl (Nat.le_trans hB hb.size) (RowsIf.small (libOk_small hok d hd)) h1 h2 (by omega)

set_option maxHeartbeats 1000000 in
theorem endingFuns_r (ds : List De) (DA : Option Addr) (DC L B : Nat) (w : World) (hd : LiesD w L B DA ds) (hB : B ≤ w.heap.size) (hdz : sizeD ds ≤ 1048576) (hok : libOk ds = true) :
    Calls Try.prog 54 #[.slice DA ds.length DC] w (Gives (.agg (cells8 (endingT ds))) w) := by
  obtain ⟨hb1, hr1⟩ := one_box w 80 (cells8 fun _ => false)
  have HC := Lib.hid (fixedPoint_any endBel 78 ds DA DC L B _ (hd.below (hb1.mono hB)) (Nat.le_trans hB hb1.size) hdz (fun d hd => (libOk_named hok d hd).1) (enters_of Try.func78 (by kernel_rfl) rfl) (ending_bel (Nat.le_trans hB hb1.size) hok hdz))
  have HB1 := Lib.hid hb1
  have HR1 := Lib.hid hr1
  clear hb1 hr1 hd
  go_enter Try.func54, Try.ntmps54
  go_wp2_with fail
  refine HC.out.mono ?_
  rintro e w2 ⟨T, rfl, hm, hc, hb2⟩
  have HT := Lib.hid (show cells8 T = cells8 (endingT ds) from cells8_congr fun i _ => end_all hok hm hc i)
  have hr2 := HR1.out.below hb2 HR1.out.size
  have hb3 := HB1.out.trans (hb2.mono HB1.out.size)
  clear hm hc hb2 HC HB1 HR1
  obtain ⟨a0, a1, a2, a3, a4, a5, a6, a7⟩ := hr2.eight
  have f0 := hr2.free 0
  have f1 := hr2.free 1
  have f2 := hr2.free 2
  have f3 := hr2.free 3
  have f4 := hr2.free 4
  have f5 := hr2.free 5
  have f6 := hr2.free 6
  have f7 := hr2.free 7
  have HE := Lib.hid (put8_row T hr2)
  have HEB := Lib.hid (put8_below (T := T) hb3 (Nat.le_refl _))
  clear hr2 hb3
  unfold cells8
  go_wp2_with fail
  obtain ⟨r0, r1, r2, r3, r4, r5, r6, r7⟩ := HE.out.eight
  unfold put8 at r0 r1 r2 r3 r4 r5 r6 r7
  refine bodyPost_ret (v := .agg (cells8 T)) ?_ rfl ⟨by rw [HT.out], HEB.out⟩
  simp [results, Try.f54, go_sem, r0, r1, r2, r3, r4, r5, r6, r7, cells8]

theorem quiet_step {ds : List De} (h : libOk ds = true) {x : Nat} {d : De} (hd : ds[x]? = some d) {T : Nat → Bool} (hT : T d.nm.toNat = !quietS ds d.nm) :
    cells8 (fun i => (ds.take (x + 1)).any fun d => decide (d.nm.toNat = i) && quietS ds d.nm) = (cells8 (fun i => (ds.take x).any fun d => decide (d.nm.toNat = i) && quietS ds d.nm)).setIfInBounds d.nm.toNat (.bool (!T d.nm.toNat)) := by
  have hm := List.mem_of_getElem? hd
  have hn := libOk_named h d hm
  rw [cells8_put _ (inVar_nat hn.1).2]
  refine cells8_congr fun i _ => ?_
  rw [List.take_add_one, hd, List.any_append, hT, Bool.not_not]
  by_cases hi : i = d.nm.toNat
  · rw [if_pos hi]
    subst hi
    simp only [Option.toList_some, List.any_cons, List.any_nil, decide_true, Bool.true_and, Bool.or_false]
    cases hq : quietS ds d.nm with
    | true => exact Bool.or_true _
    | false =>
      rw [Bool.or_false, Bool.eq_false_iff]
      intro hn2
      obtain ⟨e, he, h2⟩ := List.any_eq_true.1 hn2
      rw [Bool.and_eq_true, decide_eq_true_iff] at h2
      rw [nat_inj (libOk_named h e (List.mem_of_mem_take he)).1 hn.1 h2.1, hq] at h2
      cases h2.2
  · rw [if_neg hi]
    have : decide (d.nm.toNat = i) = false := decide_eq_false fun e => hi e.symm
    simp [this]

theorem pure_step (E Q : Nat → Bool) {j : Nat} (h : j < 8) : cells8 (fun i => if i < j + 1 then E i && Q i else E i) = (cells8 (fun i => if i < j then E i && Q i else E i)).setIfInBounds j (.bool (E j && Q j)) := by
  rw [cells8_put _ h]
  refine cells8_congr fun i _ => ?_
  by_cases hi : i = j
  · subst hi
    rw [if_pos (Nat.lt_succ_self _), if_pos rfl]
  · rw [if_neg hi]
    by_cases hl : i < j
    · rw [if_pos hl, if_pos (by omega)]
    · rw [if_neg hl, if_neg (by omega)]

end Go.Proofs.Ytdconngmobpkoaa

namespace Go.Proofs.Ytdconngmobpkoaa
open Go.RowKit Go.Shelf
set_option maxRecDepth 100000

theorem endingFuns_any (ds : List De) (DA : Option Addr) (DC L B : Nat) (w : World) (hd : LiesD w L B DA ds) (hB : B ≤ w.heap.size) (_hal : AllRows w L B) (hdz : sizeD ds ≤ 1048576) (hok : libOk ds = true) :
    Calls Try.prog 54 #[.slice DA ds.length DC] w (Gives (.agg (cells8 (endingT ds))) w) := endingFuns_r ds DA DC L B w hd hB hdz hok
end Go.Proofs.Ytdconngmobpkoaa
