/-
  slices.DeleteFunc on a list of numbers of the call's own.
-/
import Derived.Test.YtgmhpfdhkcgbfaaGreatOwnM
import Derived.Test.YtgmhpfdhkcgbfaaGreatDe
import Derived.Test.YtgmhpfdhkcgbfaaGreatEffD
import Derived.Lib.SliceRun
import Derived.Lib.Hide
import Derived.WalkSpells
import Derived.WalkSmall
namespace Go.Proofs.YtgmhpfdhkcgbfaaGreat
open Go.RowKit
set_option maxRecDepth 100000

theorem row_sets {g : Nat} {t : TypeId} : ∀ (vs : List Value) (o : Nat) (w : World) (cs : Array Value), Row w g t cs → ∃ cs', Row (w.setCells g o vs) g t cs' ∧ cs'.size = cs.size ∧ ∀ i, i < o → cs'[i]? = cs[i]?
  | [], _, _, cs, h => ⟨cs, h, rfl, fun _ _ => rfl⟩
  | v :: vs, o, w, cs, h => by
    obtain ⟨cs', h1, h2, h3⟩ := row_sets vs (o + 1) (w.setCell ⟨g, o, none⟩ v) (cs.setIfInBounds o v) (h.put o v)
    exact ⟨cs', h1, by rw [h2, Array.size_setIfInBounds], fun i hi => (h3 i (by omega)).trans (Array.getElem?_setIfInBounds_ne (by omega))⟩
theorem below_sets {B g : Nat} {a : World} (hg : B ≤ g) : ∀ (vs : List Value) (o : Nat) (w : World), Below B a w → Below B a (w.setCells g o vs)
  | [], _, _, h => h
  | v :: vs, o, w, h => below_sets hg vs (o + 1) (w.setCell ⟨g, o, none⟩ v) (h.setCell (p := ⟨g, o, none⟩) hg v)

set_option maxHeartbeats 1000000 in
/-- The first number that the function answers true to. -/
theorem indexX_any (p : Int → Bool) (hf : Nat) (hb : Array Value) (zs : List Int) (A : Option Addr) (c : Nat) (w : World) (hl : LiesI w 0 w.heap.size A zs) (hz : zs.length ≤ 1048576)
    (heg : ∀ args w, (callFunc hf args).run Tryz.prog w = .ok (.enter hf args) w)
    (hh : ∀ x ∈ zs, ∀ V, Below w.heap.size w V → Calls Tryz.prog hf (#[.int .i64 x] ++ hb) V (Gives (.bool (p x)) V)) :
    Calls Tryz.prog 59 #[.slice A zs.length c, .func (.func hf) #[] hb] w fun e w' => ((e = .returned (.int .i64 (-1)) ∧ zs.any p = false) ∨ ∃ j x, e = .returned (.int .i64 ((j : Nat) : Int)) ∧ zs[j]? = some x ∧ p x = true ∧ (zs.take j).any p = false) ∧ Below w.heap.size w w' := by
  go_enter Tryz.func59, Tryz.ntmps59
  go_wp2
  go_loopw [8] (fun i wr => ∃ (j : Nat), j ≤ zs.length ∧ i = .int .i64 j ∧ (zs.take j).any p = false ∧ Below w.heap.size w wr)
    (fun i _ => zs.length - (intOf i).toNat)
  case atStart => exact ⟨0, by omega, rfl, rfl, Below.refl _ _⟩
  case round =>
    obtain ⟨j, hj, rfl, hno, hb1⟩ := hrel
    by_cases hlt : j < zs.length
    · have e1 := List.getElem?_eq_getElem hlt
      have hxm := List.getElem_mem hlt
      generalize zs[j] = x at e1 hxm
      obtain ⟨b, o, hA, _, hbb, ix, g1⟩ := (hl.below hb1) j x e1
      subst hA
      have HC := Lib.hid (hh x hxm wr hb1)
      have HS := Lib.hid (show (zs.take (j + 1)).any p = ((zs.take j).any p || p x) by rw [List.take_add_one, e1, List.any_append]; simp)
      have HNO := Lib.hid hno
      have HB := Lib.hid hb1
      have HE := Lib.hid e1
      clear hno hb1 e1 hxm
      go_wp2_with fail
      refine HC.out.mono ?_
      rintro e w2 ⟨rfl, hb2⟩
      have HB2 := Lib.hid (HB.out.trans (hb2.mono HB.out.size))
      clear hb2 HC
      cases hp : p x with
      | true =>
        have HP := Lib.hid hp
        clear hp
        go_wp2
        go_ret
        exact ⟨.inr ⟨j, x, rfl, HE.out, HP.out, HNO.out⟩, HB2.out⟩
      | false =>
        have HF := Lib.hid (show (zs.take (j + 1)).any p = false by rw [HS.out, HNO.out, hp]; rfl)
        clear hp
        go_wp2
        go_roundw
        case rel => exact ⟨j + 1, hlt, by go_num, HF.out, HB2.out⟩
        case measure => simp [intOf]; omega
    · have e9 : j = zs.length := by omega
      subst e9
      rw [List.take_length] at hno
      go_wp2
      go_ret
      exact ⟨.inl ⟨rfl, hno⟩, hb1⟩

/-- What is kept of the first j numbers. -/
def keptZ (p : Int → Bool) (zs : List Int) (j : Nat) : List Int := (zs.take j).filter fun x => !p x
theorem keptZ_all {p : Int → Bool} {zs : List Int} {j : Nat} (h : (zs.take j).any p = false) : keptZ p zs j = zs.take j := by
  unfold keptZ
  rw [List.filter_eq_self]
  intro x hx
  rw [List.any_eq_false] at h
  have := h x hx
  simpa using this
theorem keptZ_len (p : Int → Bool) (zs : List Int) (j : Nat) : (keptZ p zs j).length ≤ j := by
  unfold keptZ
  refine Nat.le_trans (List.length_filter_le _ _) ?_
  rw [List.length_take]
  omega

set_option maxHeartbeats 4000000 in
theorem deleteFunc_any (p : Int → Bool) (hf : Nat) (hb : Array Value) (zs : List Int) (v : Value) (base : Nat) (w : World) (ho : w.ownsRow base 3 1 v zs.length (zs.map (Value.int .i64))) (hbs : base ≤ w.heap.size) (hz : zs.length ≤ 1048576) (hi : ∀ x ∈ zs, I64 x)
    (heg : ∀ args w, (callFunc hf args).run Tryz.prog w = .ok (.enter hf args) w)
    (hh : ∀ x ∈ zs, ∀ V, Below base w V → Calls Tryz.prog hf (#[.int .i64 x] ++ hb) V (Gives (.bool (p x)) V)) :
    Calls Tryz.prog 37 #[v, .func (.func hf) #[] hb] w fun e w' => ∃ v', e = .returned v' ∧ w'.ownsRow base 3 1 v' (zs.filter fun x => !p x).length ((zs.filter fun x => !p x).map (Value.int .i64)) ∧ Below base w w' := by
  obtain ⟨A, c, rfl, hI⟩ := own_ints ho hi
  have HO := Lib.hid ho
  have HH := Lib.hid hh
  have HX := Lib.hid (indexX_any p hf hb zs A c w (hI.mono_ (Nat.zero_le _) (Nat.le_refl _)) hz heg (fun x hx V hV => hh x hx V (hV.mono hbs)))
  clear ho hI hh
  go_enter Tryz.func37, Tryz.ntmps37
  go_wp2_with fail
  refine HX.out.mono ?_
  rintro e w1 ⟨hcase, hb1⟩
  have HO1 := Lib.hid (own_below HO.out hb1)
  have HB1 := Lib.hid (hb1.mono hbs)
  clear hb1 HX HO
  rcases hcase with ⟨rfl, hany⟩ | ⟨j0, x0, rfl, hx0, hp0, hany⟩
  · have HF := Lib.hid (show (zs.filter fun x => !p x) = zs by
      rw [List.filter_eq_self]
      intro x hx
      rw [List.any_eq_false] at hany
      have := hany x hx
      simpa using this)
    clear hany
    go_wp2_with fail
    go_ret
    exact ⟨_, rfl, by rw [HF.out]; exact HO1.out, HB1.out⟩
  · have hj0 := (List.getElem?_eq_some_iff.1 hx0).1
    rcases HO1.out.2 with ⟨hv, h0⟩ | ⟨g, cap, cur, hv, hq, hrow, h4, h5, h6, h7⟩
    · omega
    injection hv with hA _ hcap
    subst hA hcap
    have hk0 : keptZ p zs (j0 + 1) = zs.take j0 := by
      unfold keptZ
      rw [filter_take_no hx0 (by rw [hp0]; rfl)]
      exact keptZ_all hany
    have hcur : ∀ (t : Nat) (x : Int), zs[t]? = some x → cur[t]? = some (Value.int .i64 x) := fun t x ht => by
      have h8 := (List.getElem?_eq_some_iff.1 ht).1
      rw [← Array.getElem?_toList]
      have : (cur.toList.take (zs.length * 1))[t]? = some (Value.int .i64 x) := by rw [h7, List.getElem?_map, ht]; rfl
      rw [List.getElem?_take, if_pos (by omega)] at this
      exact this
    have HK1 := Lib.hid (show ∀ (t : Nat) (x : Int), (keptZ p zs (j0 + 1))[t]? = some x → cur[t]? = some (Value.int .i64 x) from fun t x ht => by
      rw [hk0, List.getElem?_take] at ht
      split at ht
      · exact hcur t x ht
      · cases ht)
    have HK2 := Lib.hid (show ∀ (t : Nat) (x : Int), j0 + 1 ≤ t → zs[t]? = some x → cur[t]? = some (Value.int .i64 x) from fun t x _ ht => hcur t x ht)
    have HQ0 := Lib.hid (show j0 = (keptZ p zs (j0 + 1)).length by rw [hk0, List.length_take]; omega)
    have HROW := Lib.hid (show Row w1 g 3 cur from hrow)
    have hzc : zs.length ≤ cur.size := by omega
    have hcapi : (zs.length : Int) ≤ (c : Int) := by omega
    have hne : ((j0 : Int) == -1) = false := beq_eq_false_iff_ne.2 (by omega)
    clear hk0 hcur hx0 hp0 hany h7 HO1 hrow
    go_wp2_with fail
    clear hne
    go_loopw [5, 6] (fun a b wr => ∃ (j q : Nat) (cu : Array Value), b = .int .i64 (j : Int) ∧ a = .int .i64 (q : Int) ∧ j ≤ zs.length ∧ q + 1 ≤ j ∧ Hid (q = (keptZ p zs j).length) ∧ Row wr g 3 cu ∧ Hid (cu.size = cur.size) ∧ Hid (∀ (t : Nat) (x : Int), (keptZ p zs j)[t]? = some x → cu[t]? = some (Value.int .i64 x)) ∧ Hid (∀ (t : Nat) (x : Int), j ≤ t → zs[t]? = some x → cu[t]? = some (Value.int .i64 x)) ∧ Below base w wr)
      (fun _ b _ => zs.length - (intOf b).toNat)
    case atStart => exact ⟨j0 + 1, j0, cur, by go_num, rfl, by omega, Nat.le_refl _, HQ0, HROW.out, Lib.hid rfl, HK1, HK2, HB1.out⟩
    case round =>
      clear HROW HK1 HK2 HQ0 HB1
      obtain ⟨j, q, cu, rfl, rfl, hj, hqj, HQ, hr, HCS, HA, HZ, hb⟩ := hrel
      have HR := Lib.hid hr
      have HB := Lib.hid hb
      by_cases hlt : j < zs.length
      · obtain ⟨x, hx⟩ : ∃ x, zs[j]? = some x := ⟨_, List.getElem?_eq_getElem hlt⟩
        have HXX := Lib.hid hx
        have g1 := hr.cell (HZ.out j x (Nat.le_refl _) hx)
        have HC := Lib.hid (HH.out x (List.mem_of_getElem? hx) wr hb)
        have hji : (j : Int) < (zs.length : Int) := by omega
        clear hx hr hb
        go_wp2_with fail
        refine HC.out.mono ?_
        rintro e w3 ⟨rfl, hb3⟩
        have HB3 := Lib.hid (HB.out.trans (hb3.mono (Nat.le_trans hbs HB.out.size)))
        have HR3 := Lib.hid (HR.out.below hb3 HR.out.size)
        clear hb3 g1 HC HB HR
        cases hp : p x with
        | true =>
          have HKN := Lib.hid (show keptZ p zs (j + 1) = keptZ p zs j from filter_take_no (p := fun x => !p x) HXX.out (by simp [hp]))
          clear hp
          go_wp2_with fail
          go_roundw
          case rel => exact ⟨j + 1, q, cu, by go_num, rfl, by omega, by omega, by rw [HKN.out]; exact HQ, HR3.out, HCS, by rw [HKN.out]; exact HA, Lib.hid (fun t y h1 h2 => HZ.out t y (by omega) h2), HB3.out⟩
          case measure => simp [intOf]; omega
        | false =>
          have HKN := Lib.hid (show keptZ p zs (j + 1) = keptZ p zs j ++ [x] from filter_take_yes (p := fun x => !p x) HXX.out (by simp [hp]))
          have hqs : q < cu.size := by have := HCS.out; omega
          obtain ⟨u, hu⟩ : ∃ u, cu[q]? = some u := ⟨_, Array.getElem?_eq_getElem hqs⟩
          have g2 := HR3.out.cell hu
          have f2 := HR3.out.free q
          have hqi : (q : Int) < (zs.length : Int) := by omega
          have HP := Lib.hid (HR3.out.put q (.int .i64 x))
          have HB4 := Lib.hid (HB3.out.setCell (p := ⟨g, q, none⟩) hq (.int .i64 x))
          have HA2 := Lib.hid (show ∀ (t : Nat) (y : Int), (keptZ p zs (j + 1))[t]? = some y → (cu.setIfInBounds q (.int .i64 x))[t]? = some (Value.int .i64 y) from fun t y ht => by
            rw [HKN.out] at ht
            by_cases htq : t = q
            · have hl9 : t = (keptZ p zs j).length := by rw [htq]; exact HQ.out
              rw [hl9, List.getElem?_append_right (Nat.le_refl _), Nat.sub_self] at ht
              rw [htq]
              have : x = y := by simpa using ht
              subst this
              exact Array.getElem?_setIfInBounds_self_of_lt hqs
            · rw [Array.getElem?_setIfInBounds_ne (fun h => htq h.symm)]
              refine HA.out t y ?_
              have h8 := (List.getElem?_eq_some_iff.1 ht).1
              rw [List.length_append, List.length_singleton, ← HQ.out] at h8
              rw [List.getElem?_append_left (by rw [← HQ.out]; omega)] at ht
              exact ht)
          have HZ2 := Lib.hid (show ∀ (t : Nat) (y : Int), j + 1 ≤ t → zs[t]? = some y → (cu.setIfInBounds q (.int .i64 x))[t]? = some (Value.int .i64 y) from fun t y h1 h2 => by
            rw [Array.getElem?_setIfInBounds_ne (by omega)]
            exact HZ.out t y (by omega) h2)
          clear hp hu
          go_wp2_with fail
          go_roundw
          case rel => exact ⟨j + 1, q + 1, _, by go_num, by go_num, by omega, by omega, Lib.hid (by rw [HKN.out, List.length_append, ← HQ.out]; rfl), HP.out, Lib.hid (by rw [Array.size_setIfInBounds]; exact HCS.out), HA2, HZ2, HB4.out⟩
          case measure => simp [intOf]; omega
      · have e9 : j = zs.length := by omega
        have hji : ¬ (j : Int) < (zs.length : Int) := by omega
        have HFK := Lib.hid (show (zs.filter fun x => !p x) = keptZ p zs j by rw [e9]; unfold keptZ; rw [List.take_length])
        have hql : q < zs.length := by omega
        have hcell : ∀ t, t < zs.length - q → (wr.cell? ⟨g, q + t, none⟩).isSome = true := fun t ht => by
          have hlt9 : q + t < cu.size := by have := HCS.out; omega
          rw [hr.cell (Array.getElem?_eq_getElem hlt9)]
          rfl
        have hfree : ∀ t, t < zs.length - q → wr.frozen? ⟨g, q + t, none⟩ = false := fun t _ => hr.free (q + t)
        have hcl : ∀ ty, (Builtin.clear_ #[28] ty #[.slice (some ⟨g, q, none⟩) (zs.length - q) (c - q)]).run Tryz.prog wr = .ok (.tuple #[]) (wr.setCells g q (List.replicate (zs.length - q) (.int .i64 0))) := fun ty =>
          Lib.run_clear_slice wr 28 3 ty (.int .i64 0) Tryz.underlying28 (fun w => by kernel_rfl) rfl rfl g q _ _ (by omega) hcell hfree
        obtain ⟨cs', hr', hs', hk'⟩ := row_sets (g := g) (t := 3) (List.replicate (zs.length - q) (.int .i64 0)) q wr cu hr
        have HR' := Lib.hid hr'
        have HS' := Lib.hid hs'
        have HK' := Lib.hid hk'
        have HB' := Lib.hid (below_sets (g := g) hq (List.replicate (zs.length - q) (.int .i64 0)) q wr hb)
        have hq0 : (0 : Int) ≤ (q : Int) := by omega
        have hqi : (q : Int) ≤ (zs.length : Int) := by omega
        have hqc : (q : Int) ≤ (c : Int) := by omega
        clear hcell hfree hr' hs' hk' hr hb e9 HR HB
        go_wp2_with fail
        go_ret
        refine ⟨_, rfl, ?_, HB'.out⟩
        rw [HFK.out, ← HQ.out]
        refine ⟨by rw [List.length_map, ← HQ.out, Nat.mul_one], .inr ⟨g, c, cs', rfl, hq, HR'.out, by omega, h5, by have h1 := HS'.out; have h2 := HCS.out; omega, ?_⟩⟩
        refine List.ext_getElem? fun t => ?_
        rw [List.getElem?_take, List.getElem?_map, Array.getElem?_toList]
        by_cases ht : t < q * 1
        · rw [if_pos ht, HK'.out t (by omega)]
          obtain ⟨y, hy⟩ : ∃ y, (keptZ p zs j)[t]? = some y := ⟨_, List.getElem?_eq_getElem (by rw [← HQ.out]; omega)⟩
          rw [HA.out t y hy, hy]
          rfl
        · rw [if_neg ht, List.getElem?_eq_none (by rw [← HQ.out]; omega)]
          rfl
end Go.Proofs.YtgmhpfdhkcgbfaaGreat
