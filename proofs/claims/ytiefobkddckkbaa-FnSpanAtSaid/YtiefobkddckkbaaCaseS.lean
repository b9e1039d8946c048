/-
  spec.l1Arity, spec.l1Case: an expression and a scope are drawn.
-/
import Derived.Test.YtiefobkddckkbaaMutS
namespace Go.Proofs.Ytiefobkddckkbaa
open Go.RowKit Go.Shelf
set_option maxRecDepth 100000

theorem LiesY.small {w : World} {L B : Nat} {A : Option Addr} {bs : List Nat} (h : LiesY w L B A bs) : ∀ x, x ∈ bs → x < 256 := fun x hx => by
  obtain ⟨i, hlt, hi⟩ := List.getElem_of_mem hx
  obtain ⟨_, _, _, _, _, h5, _⟩ := h i x (by rw [List.getElem?_eq_getElem hlt, hi])
  exact h5

set_option maxHeartbeats 400000 in
theorem arity_any (w : World) : Calls Try.prog 52 #[] w fun e w' => e = .returned (.slice (some ⟨w.heap.size, 0, none⟩) 8 8) ∧
    w' = w.alloc (.cells (([1, 2, 0, 3, -1, -1, 1, 2] : List Int).map (Value.int .i64)).toArray 3) := by
  go_enter Try.func52, Try.ntmps52
  go_wp2
  go_ret
  exact ⟨rfl, rfl⟩

/-- A tree that a draw hands on: its own, not too great. -/
def Drawn (w : World) (base : Nat) (op n : Int) (k : Fo) (X : Option Addr) (c : Nat) : Prop := ∃ bl, (I64 op ∧ I64 n) ∧ Tree w base (.slice X k.len c) k bl ∧ k.size ≤ 500300

def CasePost (w : World) (e : Ending) (w' : World) : Prop :=
  ∃ op n k X c v zs, e = .returned (.tuple #[.agg #[.int .i64 op, .int .i64 n, .slice X (Fo.len k) c], v]) ∧ Drawn w' w.heap.size op n k X c ∧ w'.ownsRow w.heap.size 3 1 v (List.length zs) (zs.map (Value.int .i64)) ∧ zs.length ≤ 3 ∧ (∀ x, x ∈ zs → I64 x) ∧ Below w.heap.size w w'

/-- The same, and the scope's row is none of the tree's. -/
def CasePost2 (w : World) (e : Ending) (w' : World) : Prop :=
  ∃ op n k X c v zs bl, e = .returned (.tuple #[.agg #[.int .i64 op, .int .i64 n, .slice X (Fo.len k) c], v]) ∧ ((I64 op ∧ I64 n) ∧ Tree w' w.heap.size (.slice X k.len c) k bl ∧ k.size ≤ 500300) ∧ w'.ownsRow w.heap.size 3 1 v (List.length zs) (zs.map (Value.int .i64)) ∧ zs.length ≤ 3 ∧ (∀ x, x ∈ zs → I64 x) ∧ Below w.heap.size w w' ∧ (∀ z, v.ownBlock = some z → z ∈ bl → False)

set_option maxHeartbeats 4000000 in
theorem case2_any (A : Option Addr) (bc : Nat) (bs : List Nat) (w : World) (hB : LiesY w 0 w.heap.size A bs) (hl : bs.length ≤ bc) (hc : bc ≤ maxLen) :
    Calls Try.prog 38 #[.slice A bs.length bc] w (CasePost2 w) := by
  obtain ⟨W1, hW1⟩ : ∃ W1, W1 = w.alloc (Obj.cells #[.int .i64 0, .int .i64 0, .slice none 0 0] 33) := ⟨_, rfl⟩
  have hb1 : Below w.heap.size w W1 := by rw [hW1]; exact (Below.refl _ _).alloc (Nat.le_refl _) _
  have hx1 : Row W1 w.heap.size 33 #[.int .i64 0, .int .i64 0, .slice none 0 0] := by rw [hW1]; exact Row.fresh _ _ _
  have HCO := Lib.hid (open_any A bc bs W1 ((hB.below hb1).keep (Nat.le_refl _) hb1.size fun _ _ _ => rfl) hl hc)
  have HX1 := Lib.hid hx1
  have HB1 := Lib.hid hb1
  clear hb1 hx1 hB
  go_enter Try.func38, Try.ntmps38
  go_upto_region 1 with fail
  rw [← hW1]
  clear hW1
  go_wp2_with fail
  refine HCO.out.mono ?_
  rintro e w2 ⟨bs2, hl2, rfl, hY2, hr2, hb2, hz2⟩
  obtain ⟨g, hg⟩ : ∃ g, g = W1.heap.size := ⟨_, rfl⟩
  obtain ⟨Q, hQ⟩ := lim_ex bs2 hl2 hY2.small
  obtain ⟨W3, hW3⟩ : ∃ W3, W3 = w2.alloc (Obj.cells #[.int .i64 0, .int .i64 1, .int .i64 2] 3) := ⟨_, rfl⟩
  have hb3 : Below w2.heap.size w2 W3 := by rw [hW3]; exact (Below.refl _ _).alloc (Nat.le_refl _) _
  have hs3 := lies_new w2 (g + 1) [0, 1, 2] (by intro x hx; simp at hx; unfold I64; omega) (by rw [hg]; exact hz2)
  have hrow3 := Row.fresh w2 3 #[.int .i64 0, .int .i64 1, .int .i64 2]
  have HS3 := Lib.hid (show LiesI W3 (g + 1) W3.heap.size (some ⟨w2.heap.size, 0, none⟩) [0, 1, 2] by rw [hW3]; exact hs3)
  have hbw3 : Below W1.heap.size W1 W3 := hb2.trans (hb3.mono hb2.size)
  have HX3 := Lib.hid (HX1.out.below hbw3 HX1.out.size)
  have HRD3 := Lib.hid (show Rd W3 g A bc bs2 0 by rw [hg]; exact Row.below hr2 hb3 hz2)
  have HY3 := Lib.hid (show LiesY W3 0 W1.heap.size A bs2 from hY2.below (hb3.mono hb2.size))
  have HB3 := Lib.hid (HB1.out.trans (hbw3.mono HB1.out.size))
  have HG := Lib.hid (show w.heap.size < g ∧ g < w2.heap.size ∧ w2.heap.size < W3.heap.size ∧ W1.heap.size = g from ⟨by rw [hg]; exact HX1.out.size, by rw [hg]; exact hz2, by rw [hW3]; simp, hg.symm⟩)
  have HP := Lib.hid (pick_v g W1.heap.size A bc bs2 0 4 W3 HRD3.out HY3.out (by rw [hg]; exact Nat.le_refl _) hl2 (by decide) (by decide) (by decide))
  clear hb2 hb3 hs3 hrow3 hbw3 hr2 hY2 hz2 HX1 HB1 HCO
  subst hg
  go_wp2_with fail
  rw [← hW3]
  clear hW3
  refine HP.out.mono ?_
  rintro e W4 ⟨rfl, hr4, hon4⟩
  obtain ⟨x, hx⟩ : ∃ x, x = pkL bs2 0 4 := ⟨_, rfl⟩
  have hx4 : x < 4 := by rw [hx]; exact pkL_lt bs2 _ (by decide)
  rw [← hx]
  clear hx
  obtain ⟨zs, hzs⟩ : ∃ zs, zs = ([0, 1, 2] : List Int).take x := ⟨_, rfl⟩
  have hzl : zs.length = x := by rw [hzs, List.length_take]; simp only [List.length_cons, List.length_nil]; omega
  have hzm : ∀ y, y ∈ zs → I64 y := fun y hy => by
    rw [hzs] at hy
    have := List.mem_of_mem_take hy
    simp at this
    unfold I64
    omega
  have hzt : ∀ i y, zs[i]? = some y → ([0, 1, 2] : List Int)[i]? = some y := fun i y h => by
    have hi := (List.getElem?_eq_some_iff.1 h).1
    rw [hzs, List.getElem?_take_of_lt (by omega)] at h
    exact h
  have HON3 := Lib.hid (show Only W1.heap.size W3.heap.size W3 W4 from hon4)
  have HZS := Lib.hid (show LiesI W4 (W1.heap.size + 1) W4.heap.size (some ⟨w2.heap.size, 0, none⟩) zs from fun i y h => (HS3.out.keep (Nat.le_refl _) hon4.size fun p h1 h2 => hon4.cell h2 (by omega)) i y (hzt i y h))
  have HX4 := Lib.hid (HX3.out.only hon4 HX3.out.size (by have := HG.out; omega))
  have HRD4 := Lib.hid (show Rd W4 W1.heap.size A bc bs2 1 from hr4)
  have HY4 := Lib.hid (show LiesY W4 0 W1.heap.size A bs2 from HY3.out.below ((hon4.mono (by have := HG.out; omega)).below (Nat.le_refl _)))
  have HB4 := Lib.hid (show Below w.heap.size w W4 from HB3.out.trans ((hon4.mono HB3.out.size).below (by have := HG.out; omega)))
  have HG4 := Lib.hid (show w.heap.size < W1.heap.size ∧ W1.heap.size < w2.heap.size ∧ w2.heap.size < W4.heap.size from ⟨HG.out.1, HG.out.2.1, Nat.lt_of_lt_of_le HG.out.2.2.1 hon4.size⟩)
  have HOK1 := Lib.hid ((Ok.first hQ).next hQ (by decide))
  obtain rfl : x = zs.length := hzl.symm
  have HZM := Lib.hid hzm
  have hx3 : zs.length ≤ 3 := by omega
  clear hzs hzl hzm hzt hr4 hon4 HS3 HX3 HRD3 HY3 HB3 HP HG
  have ar1 := arity_any W4
  have HAR := Lib.hid ar1
  clear ar1
  go_wp2_with fail
  refine HAR.out.mono ?_
  rintro e w5 ⟨rfl, hw5⟩
  have hb5 : Below W4.heap.size W4 w5 := by rw [hw5]; exact (Below.refl _ _).alloc (Nat.le_refl _) _
  have HAR5 := Lib.hid (show LiesI w5 (W1.heap.size + 1) w5.heap.size (some ⟨W4.heap.size, 0, none⟩) [1, 2, 0, 3, -1, -1, 1, 2] by rw [hw5]; exact lies_new W4 (W1.heap.size + 1) [1, 2, 0, 3, -1, -1, 1, 2] (by intro x hx; simp at hx; unfold I64; omega) (by have := HG4.out; omega))
  clear hw5 HAR
  have hY5 := HY4.out.below (hb5.mono (by have := HG4.out; omega))
  have hs5 := hb5.size
  have ba := (Below.refl w5.heap.size w5).alloc (Nat.le_refl _) (Obj.cells #[.int .i64 4, .int .i64 3, .int .i64 5, .int .i64 2] 3)
  have HA := Lib.hid ba
  have HN := Lib.hid (num_v W1.heap.size W1.heap.size A bc bs2 1 (some ⟨w5.heap.size, 0, none⟩) 4 [4, 3, 5, 2] _ (Row.below (Row.below HRD4.out hb5 (Row.size HRD4.out)) ba (Nat.lt_of_lt_of_le (Row.size HRD4.out) hs5)) (hY5.below (ba.mono (by have := HG4.out; omega))) (Nat.le_refl _) hl2 (by decide) (lies_new w5 (W1.heap.size + 1) [4, 3, 5, 2] (by intro x hx; simp at hx; unfold I64; omega) (by have := HG4.out; omega)) (by decide) (by decide))
  have HB5 := Lib.hid hb5
  clear ba hb5 hY5
  go_wp2_with fail
  refine HN.out.mono ?_
  rintro e w6 ⟨y, hym, -, rfl, hr6, hon6⟩
  have hy := List.mem_of_getElem? hym
  simp at hy
  obtain ⟨d, rfl, hd2, hd5⟩ : ∃ d : Nat, y = (d : Int) ∧ 2 ≤ d ∧ d ≤ 5 := ⟨y.toNat, by omega, by omega, by omega⟩
  have hcd : costD d ≤ 282 ∧ nodesD d ≤ 121 := by
    rcases (show d = 2 ∨ d = 3 ∨ d = 4 ∨ d = 5 by omega) with rfl | rfl | rfl | rfl <;> decide
  have hon46 : Only W1.heap.size W4.heap.size W4 w6 := ((Only.of_below HB5.out).trans ((Only.of_below (HA.out.mono hs5)).trans (hon6.mono (Nat.le_trans hs5 HA.out.size))))
  have hs6 := hon46.size
  have HX6 := Lib.hid (HX4.out.only hon46 HX4.out.size (by have := HG4.out; omega))
  have HZS6 := Lib.hid (show LiesI w6 (W1.heap.size + 1) w6.heap.size (some ⟨w2.heap.size, 0, none⟩) zs from liesI_only HZS.out hon46)
  have HAR6 := Lib.hid (show LiesI w6 (W1.heap.size + 1) w6.heap.size (some ⟨W4.heap.size, 0, none⟩) [1, 2, 0, 3, -1, -1, 1, 2] from HAR5.out.keep (Nat.le_refl _) (by have := HA.out.size; have := hon6.size; omega) fun p h1 h2 => (hon6.cell (by have := HA.out.size; omega) (by omega)).trans (HA.out.cell h2))
  have HY6 := Lib.hid (show LiesY w6 0 W1.heap.size A bs2 from HY4.out.below ((hon46.mono (by have := HG4.out; omega)).below (Nat.le_refl _)))
  have HB6 := Lib.hid (show Below w.heap.size w w6 from HB4.out.trans ((hon46.mono HB4.out.size).below (by have := HG4.out; omega)))
  have HRD6 := Lib.hid (show Rd w6 W1.heap.size A bc bs2 2 from hr6)
  have HG6 := Lib.hid (show w.heap.size < W1.heap.size ∧ W1.heap.size < w2.heap.size ∧ w2.heap.size < w6.heap.size by have := HG4.out; omega)
  have HOK2 := Lib.hid (show Ok bs2 Q 2 2 from (HOK1.out.next hQ (by decide)).mono (by decide))
  have HZM2 := Lib.hid hx3
  clear hym hr6 hon6 hon46 hy hs5 hs6 HX4 HZS HAR5 HY4 HB4 HRD4 HG4 HOK1 HN HA HB5 HON3
  have HS := Lib.hid (some_any d (by omega) W1.heap.size W1.heap.size A bc bs2 Q 2 2 (some ⟨w2.heap.size, 0, none⟩) 3 zs (some ⟨W4.heap.size, 0, none⟩) 8 [1, 2, 0, 3, -1, -1, 1, 2] w6 HRD6.out HY6.out (Nat.le_refl _) hl2 hQ HOK2.out (by omega) HZS6.out (by omega) HAR6.out (by decide) (by intro x hx; simp at hx; omega))
  go_wp2_with fail
  refine HS.out.mono ?_
  rintro e w7 ⟨o7, n7, k7, A7, c7, b7, p7, rfl, hi7, ht7, hs7, hrd7, hok7, hon7⟩
  have hY7 := HY6.out.below ((hon7.mono (by have := HG6.out; omega)).below (Nat.le_refl _))
  have HM := Lib.hid (mut_any (Q - p7) W1.heap.size W1.heap.size A bc bs2 Q p7 (2 + (costD d : Nat)) o7 n7 k7 A7 c7 w7 rfl hrd7 hY7 (Nat.le_refl _) hl2 hQ hok7 (by omega) ((ht7.lies (B := w7.heap.size) fun z hz => (ht7.lt z hz).2).mono_ (Nat.zero_le _) (Nat.le_refl _)) hi7 (by omega))
  have HON7 := Lib.hid hon7
  have HSZ7 := Lib.hid (show k7.size ≤ 121 by omega)
  clear hi7 ht7 hs7 hrd7 hok7 hon7 hY7 HS
  go_wp2_with fail
  refine HM.out.mono ?_
  rintro e w8 ⟨o8, n8, k8, A8, c8, b8, p8, rfl, hi8, ht8, hs8, hrd8, hok8, hon8⟩
  have hon68 : Only W1.heap.size w6.heap.size w6 w8 := HON7.out.trans (hon8.mono HON7.out.size)
  have hs68 := hon68.size
  have HD8 := Lib.hid (show k8.size ≤ 500300 by have := hok8.lt; have := hQ.1; have := HSZ7.out; omega)
  have HX8 := Lib.hid (HX6.out.only hon68 HX6.out.size (by have := HG6.out; omega))
  have hB8 : Below w.heap.size w w8 := HB6.out.trans ((hon68.mono HB6.out.size).below (by have := HG6.out; omega))
  have hZ8 := liesI_only HZS6.out hon68
  have ba := (Below.refl w8.heap.size w8).alloc (Nat.le_refl _) (Obj.cells #[] 3)
  have HBA := Lib.hid (hB8.trans (ba.mono hB8.size))
  have HT8 := Lib.hid ((ht8.over ba).lower (base' := w.heap.size + 1) (by have := HG6.out; have := HON7.out.size; omega))
  have HBK8 := Lib.hid (show ∀ z, z ∈ b8 → z < w8.heap.size from fun z hz => (ht8.lt z hz).2)
  have HXA := Lib.hid (HX8.out.below ba HX8.out.size)
  have HI8 := Lib.hid hi8
  have HZA := Lib.hid (hZ8.below ba)
  have HSA := Lib.hid (show w.heap.size + 1 ≤ w8.heap.size by have := HG6.out; omega)
  have HOW := Lib.hid (own_empty (base := w8.heap.size) (Row.fresh w8 3 #[]) (Nat.le_refl _))
  clear hi8 ht8 hs8 hrd8 hok8 hon8 hon68 hs68 hB8 hZ8 ba HX8 HM HON7 HSZ7 HX6 HZS6 HAR6 HY6 HB6 HRD6 HOK2
  obtain ⟨iT, hiT, hiz0, hiz1, hiz2⟩ := info_parts (show (Try.prog.info? 3).map (fun i => (i.zero, i.size, i.bytes)) = some (some (.int .i64 0), 1, 8) by kernel_rfl)
  have HIT := Lib.hid hiT
  have HIZ0 := Lib.hid hiz0
  have HIZ1 := Lib.hid hiz1
  have HIZ2 := Lib.hid hiz2
  have HC1 := Lib.hid (show ∀ j u, (zs.map (Value.int .i64))[j]? = some u → (w8.alloc (Obj.cells #[] 3)).cell? ((⟨w2.heap.size, 0, none⟩ : Addr).add j) = some u from fun j u hj => by
    rw [List.getElem?_map, Option.map_eq_some_iff] at hj
    obtain ⟨x, hx, rfl⟩ := hj
    obtain ⟨b', o', hA, _, _, _, hc⟩ := HZA.out j x hx
    injection hA with hA
    injection hA with h1 h2
    subst h1 h2
    have e : ((⟨w2.heap.size, 0, none⟩ : Addr).add j) = ⟨w2.heap.size, 0 + j, none⟩ := by unfold Addr.add; split <;> simp_all
    rw [e]
    exact hc)
  have HC2 := Lib.hid (show ∀ u ∈ zs.map (Value.int .i64), u.oneCell' = true from fun u hu => by obtain ⟨x, _, rfl⟩ := List.mem_map.1 hu; rfl)
  have HNE := Lib.hid (show some w.heap.size = (Value.slice (some ⟨w8.heap.size, 0, none⟩) 0 0).ownBlock → False from fun e => by
    have e2 : some w.heap.size = some w8.heap.size := e
    injection e2 with e2
    have := HSA.out
    omega)
  clear hiT hiz0 hiz1 hiz2
  go_wp2_with (at_builtin; refine wpList_append_own_at _ rfl _ _ 25 rfl w8.heap.size 3 iT _ 1 8 Try.underlying25 HIT.out HIZ0.out HIZ1.out HIZ2.out rfl (by decide) _ _ _ rfl HOW.out ⟨w2.heap.size, 0, none⟩ zs.length 3 (zs.map (Value.int .i64)) rfl (by simp) HC1.out HC2.out (by unfold maxLen; omega) (by omega) (by simp) ?_; intro v' w' hown6 hgrow6 _ hblk; have hXB := row_grown HXA.out hgrow6 (fun e => HNE.out e); have f0 := hXB.free 0; have f1 := hXB.free 1; have f2 := hXB.free 2; have d0 := hXB.cell (i := 0) rfl; have d1 := hXB.cell (i := 1) rfl; have d2 := hXB.cell (i := 2) rfl)
  have r7 := ((hXB.put 0 (.int .i64 o8)).put 1 (.int .i64 n8)).put 2 (.slice A8 k8.len c8)
  have t0 := r7.cell (i := 0) rfl
  have t1 := r7.cell (i := 1) rfl
  have t2 := r7.cell (i := 2) rfl
  have hne : ∀ z, z < w8.heap.size → some z ≠ (Value.slice (some ⟨w8.heap.size, 0, none⟩) 0 0).ownBlock := fun z hz e => by
    have e2 : some z = some w8.heap.size := e
    injection e2 with e2
    omega
  have ht9 : Tree w' (w.heap.size + 1) (.slice A8 k8.len c8) k8 b8 := HT8.out.keep fun z hz => hgrow6.block z (HT8.out.lt z hz).2 (hne z (HBK8.out z hz))
  have hb9 : Below w.heap.size w w' := Below.grown HBA.out hgrow6 HBA.out.size (fun z hz => by
    have e2 : some w8.heap.size = some z := hz
    injection e2 with e2
    have := HSA.out
    omega)
  have hlen : ([] : List Value).length = 0 := rfl
  refine bodyPost_ret (v := .tuple #[.agg #[.int .i64 o8, .int .i64 n8, .slice A8 k8.len c8], v']) ?_ rfl ⟨o8, n8, k8, A8, c8, v', zs, b8, rfl, ⟨HI8.out, (ht9.keep fun z hz => ?_).lower (Nat.le_succ _), HD8.out⟩, own_at (own_lower (by simpa using hown6) (by have := HSA.out; omega)) fun z hz => ?_, hx3, HZM.out, ((hb9.setCell (Nat.le_refl _) _).setCell (Nat.le_refl _) _).setCell (Nat.le_refl _) _, fun z hz hm => ?_⟩
  · simp [results, Try.f38, go_sem, t0, t1, t2]
  · have hz1 := (ht9.lt z hz).1
    have hz2 : z ≠ w.heap.size := by omega
    rw [Below.heap_setCell _ _ _ z hz2, Below.heap_setCell _ _ _ z hz2, Below.heap_setCell _ _ _ z hz2]
  · have hz1 := own_at_least hown6 hz
    have hz2 : z ≠ w.heap.size := by have := HSA.out; omega
    rw [Below.heap_setCell _ _ _ z hz2, Below.heap_setCell _ _ _ z hz2, Below.heap_setCell _ _ _ z hz2]
  · have h1 := own_at_least hown6 hz
    have h2 := HBK8.out z hm
    omega
theorem case_any (A : Option Addr) (bc : Nat) (bs : List Nat) (w : World) (hB : LiesY w 0 w.heap.size A bs) (hl : bs.length ≤ bc) (hc : bc ≤ maxLen) :
    Calls Try.prog 38 #[.slice A bs.length bc] w (CasePost w) :=
  (case2_any A bc bs w hB hl hc).mono fun _ _ ⟨op, n, k, X, c, v, zs, bl, h1, h2, h3, h4, h5, h6, _⟩ => ⟨op, n, k, X, c, v, zs, h1, ⟨bl, h2⟩, h3, h4, h5, h6⟩
end Go.Proofs.Ytiefobkddckkbaa
