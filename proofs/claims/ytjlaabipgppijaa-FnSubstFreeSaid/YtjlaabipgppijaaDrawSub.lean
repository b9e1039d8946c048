/-
  spec.DrawSubstVar.
-/
import Derived.Test.YtjlaabipgppijaaCaseS
import Derived.Test.YtjlaabipgppijaaTreeP
namespace Go.Proofs.Ytjlaabipgppijaa
open Go.RowKit Go.Shelf
set_option maxRecDepth 100000

def SubPost (w : World) (e : Ending) (w' : World) : Prop :=
  ∃ op n k X c y op2 n2 k2 X2 c2, e = .returned (.tuple #[.agg #[.int .i64 op, .int .i64 n, .slice X (Fo.len k) c], .int .i64 y, .agg #[.int .i64 op2, .int .i64 n2, .slice X2 (Fo.len k2) c2]]) ∧ Drawn w' w.heap.size op n k X c ∧ Drawn w' w.heap.size op2 n2 k2 X2 c2 ∧ I64 y ∧ Below w.heap.size w w'

theorem sub_end {w V : World} {op n op2 n2 y : Int} {k k2 : Fo} {X X2 : Option Addr} {c c2 : Nat} {bl bl2 : List Nat} {b1 b2 : Nat} (ht : Tree V b1 (.slice X k.len c) k bl) (ht2 : Tree V b2 (.slice X2 k2.len c2) k2 bl2) (h1 : w.heap.size + 2 ≤ b1) (h2 : w.heap.size + 2 ≤ b2)
    (hi : I64 op ∧ I64 n) (hi2 : I64 op2 ∧ I64 n2) (hs : k.size ≤ 500300) (hs2 : k2.size ≤ 500300) (hy : I64 y) (hb : Below w.heap.size w V) :
    SubPost w (.returned (.tuple #[.agg #[.int .i64 op, .int .i64 n, .slice X k.len c], .int .i64 y, .agg #[.int .i64 op2, .int .i64 n2, .slice X2 k2.len c2]]))
      ((((((V.setCell ⟨w.heap.size, 0, none⟩ (.int .i64 op)).setCell ⟨w.heap.size, 1, none⟩ (.int .i64 n)).setCell ⟨w.heap.size, 2, none⟩ (.slice X k.len c)).setCell ⟨w.heap.size + 1, 0, none⟩ (.int .i64 op2)).setCell ⟨w.heap.size + 1, 1, none⟩ (.int .i64 n2)).setCell ⟨w.heap.size + 1, 2, none⟩ (.slice X2 k2.len c2)) := by
  have far : ∀ z, w.heap.size + 2 ≤ z → ((((((V.setCell ⟨w.heap.size, 0, none⟩ (.int .i64 op)).setCell ⟨w.heap.size, 1, none⟩ (.int .i64 n)).setCell ⟨w.heap.size, 2, none⟩ (.slice X k.len c)).setCell ⟨w.heap.size + 1, 0, none⟩ (.int .i64 op2)).setCell ⟨w.heap.size + 1, 1, none⟩ (.int .i64 n2)).setCell ⟨w.heap.size + 1, 2, none⟩ (.slice X2 k2.len c2)).heap[z]? = V.heap[z]? := fun z hz => by
    have e1 : z ≠ w.heap.size := by omega
    have e2 : z ≠ w.heap.size + 1 := by omega
    rw [Below.heap_setCell _ _ _ z e2, Below.heap_setCell _ _ _ z e2, Below.heap_setCell _ _ _ z e2, Below.heap_setCell _ _ _ z e1, Below.heap_setCell _ _ _ z e1, Below.heap_setCell _ _ _ z e1]
  refine ⟨op, n, k, X, c, y, op2, n2, k2, X2, c2, rfl, ⟨bl, hi, (ht.keep fun z hz => far z (Nat.le_trans h1 (ht.lt z hz).1)).lower (by omega), hs⟩, ⟨bl2, hi2, (ht2.keep fun z hz => far z (Nat.le_trans h2 (ht2.lt z hz).1)).lower (by omega), hs2⟩, hy, ?_⟩
  exact (((((hb.setCell (Nat.le_refl _) _).setCell (Nat.le_refl _) _).setCell (Nat.le_refl _) _).setCell (Nat.le_succ _) _).setCell (Nat.le_succ _) _).setCell (Nat.le_succ _) _

set_option maxHeartbeats 4000000 in
theorem drawSubstVar_any (A : Option Addr) (bc0 : Nat) (bs : List Nat) (w : World) (hB : LiesY w 0 w.heap.size A bs) (hl : bs.length ≤ bc0) (hc : bc0 ≤ maxLen) :
    Calls Try.prog 13 #[.slice A bs.length bc0] w (SubPost w) := by
  obtain ⟨W2, hW2⟩ : ∃ W2, W2 = (w.alloc (Obj.cells #[.int .i64 0, .int .i64 0, .slice none 0 0] 25)).alloc (Obj.cells #[.int .i64 0, .int .i64 0, .slice none 0 0] 25) := ⟨_, rfl⟩
  have hb2 : Below w.heap.size w W2 := by rw [hW2]; exact ((Below.refl _ _).alloc (Nat.le_refl _) _).alloc (by simp) _
  have hx1 : Row W2 w.heap.size 25 #[.int .i64 0, .int .i64 0, .slice none 0 0] := by rw [hW2]; exact (Row.fresh _ _ _).alloc _
  have hx2 : Row W2 (w.heap.size + 1) 25 #[.int .i64 0, .int .i64 0, .slice none 0 0] := by
    rw [hW2]
    have := Row.fresh (w.alloc (Obj.cells #[.int .i64 0, .int .i64 0, .slice none 0 0] 25)) 25 #[.int .i64 0, .int .i64 0, .slice none 0 0]
    rw [World.size_alloc] at this
    exact this
  have HCO := Lib.hid (open_any A bc0 bs W2 ((hB.below hb2).keep (Nat.le_refl _) hb2.size fun _ _ _ => rfl) hl hc)
  have HX1 := Lib.hid hx1
  have HX2 := Lib.hid hx2
  have HB2 := Lib.hid hb2
  have HWG := Lib.hid (show w.heap.size + 2 ≤ W2.heap.size from hx2.size)
  clear hb2 hx1 hx2 hB
  go_enter Try.func13, Try.ntmps13
  go_upto_region 1 with fail
  rw [← hW2]
  clear hW2
  go_wp2_with fail
  refine HCO.out.mono ?_
  rintro e w3 ⟨bs2, hl2, rfl, hY3, hr3, hb3, hz3⟩
  obtain ⟨Q, hQ⟩ := lim_ex bs2 hl2 hY3.small
  have HRw3 := Lib.hid (show Rd w3 W2.heap.size A bc0 bs2 0 from hr3)
  have HYw3 := Lib.hid hY3
  have HBw3 := Lib.hid hb3
  have HZw3 := Lib.hid hz3
  have HOK1 := Lib.hid (Ok.first hQ)
  clear hr3 hY3 hb3 hz3 HCO

  obtain ⟨Wa1, hWa⟩ : ∃ Wa, Wa = w3.alloc (Obj.cells #[.int .i64 0, .int .i64 1, .int .i64 2] 3) := ⟨_, rfl⟩
  have ba : Below w3.heap.size w3 Wa1 := by rw [hWa]; exact (Below.refl _ _).alloc (Nat.le_refl _) _
  have HLa := Lib.hid (show LiesI Wa1 (W2.heap.size + 1) Wa1.heap.size (some ⟨w3.heap.size, 0, none⟩) [0, 1, 2] by rw [hWa]; exact lies_new w3 (W2.heap.size + 1) [0, 1, 2] (by intro x hx; simp at hx; unfold I64; omega) HZw3.out)
  have HARa := Lib.hid (arity_any Wa1)
  have HRa := Lib.hid (Row.below HRw3.out ba HZw3.out)
  have HYa := Lib.hid (HYw3.out.below (ba.mono (Nat.le_of_lt HZw3.out)))
  have HBa := Lib.hid (HBw3.out.trans (ba.mono (Nat.le_of_lt HZw3.out)))
  have HZa := Lib.hid (Nat.lt_of_lt_of_le HZw3.out ba.size)
  have HXa := Lib.hid (Only.of_below (g := W2.heap.size) ba)
  clear ba HRw3 HYw3 HBw3 HZw3
  go_wp2_with fail
  rw [← hWa]
  clear hWa
  refine HARa.out.mono ?_
  rintro e wb1 ⟨rfl, hwb⟩
  have bb : Below Wa1.heap.size Wa1 wb1 := by rw [hwb]; exact (Below.refl _ _).alloc (Nat.le_refl _) _
  have HAb := Lib.hid (show LiesI wb1 (W2.heap.size + 1) wb1.heap.size (some ⟨Wa1.heap.size, 0, none⟩) [1, 2, 0, 3, -1, -1, 1, 2] by rw [hwb]; exact lies_new Wa1 (W2.heap.size + 1) [1, 2, 0, 3, -1, -1, 1, 2] (by intro x hx; simp at hx; unfold I64; omega) HZa.out)
  have HLb := Lib.hid ((HLa.out.below bb).mono_ (Nat.le_refl _) bb.size)
  have hzb := Nat.lt_of_lt_of_le HZa.out bb.size
  have hyb := HYa.out.below (bb.mono (Nat.le_of_lt HZa.out))
  have hrb := Row.below HRa.out bb HZa.out
  have HBb := Lib.hid (HBa.out.trans (bb.mono (Nat.le_of_lt HZa.out)))
  have HXb := Lib.hid (HXa.out.trans ((Only.of_below (g := W2.heap.size) bb).mono HXa.out.size))
  have bc := (Below.refl wb1.heap.size wb1).alloc (Nat.le_refl _) (Obj.cells #[.int .i64 4, .int .i64 3, .int .i64 5] 3)
  have HN := Lib.hid (num_v W2.heap.size W2.heap.size A bc0 bs2 0 (some ⟨wb1.heap.size, 0, none⟩) 3 [4, 3, 5] _ (Row.below hrb bc hzb) (hyb.below (bc.mono (Nat.le_of_lt hzb))) (Nat.le_refl _) hl2 (HOK1.out.pb hQ) (lies_new wb1 (W2.heap.size + 1) [4, 3, 5] (by intro x hx; simp at hx; unfold I64; omega) hzb) (by decide) (by decide))
  have HBC := Lib.hid bc
  have HYb := Lib.hid hyb
  have HZb := Lib.hid hzb
  clear hwb bb hzb hyb hrb bc HLa HARa HRa HYa HBa HZa HXa
  go_wp2_with fail
  refine HN.out.mono ?_
  rintro e wc1 ⟨y, hym, -, rfl, hrc, honc⟩
  have hy := List.mem_of_getElem? hym
  simp at hy
  obtain ⟨d1, rfl, hd1, hd5⟩ : ∃ d : Nat, y = (d : Int) ∧ 1 ≤ d ∧ d ≤ 5 := ⟨y.toNat, by omega, by omega, by omega⟩
  have hcd : costD d1 ≤ 282 ∧ nodesD d1 ≤ 121 := by
    rcases (show d1 = 1 ∨ d1 = 2 ∨ d1 = 3 ∨ d1 = 4 ∨ d1 = 5 by omega) with rfl | rfl | rfl | rfl | rfl <;> first | decide | omega
  have hbc : Only W2.heap.size wb1.heap.size wb1 wc1 := (Only.of_below HBC.out).trans (honc.mono HBC.out.size)
  have hBc : Below W2.heap.size wb1 wc1 := (hbc.mono (Nat.le_of_lt HZb.out)).below (Nat.le_refl _)
  have HS := Lib.hid (some_any d1 (by omega) W2.heap.size W2.heap.size A bc0 bs2 Q (0 + 1) (0 + 1) (some ⟨w3.heap.size, 0, none⟩) 3 [0, 1, 2] (some ⟨Wa1.heap.size, 0, none⟩) 8 [1, 2, 0, 3, -1, -1, 1, 2] wc1 hrc (HYb.out.below hBc) (Nat.le_refl _) hl2 hQ (HOK1.out.next hQ (by decide)) (by omega) (liesI_only HLb.out hbc) (by simp only [List.length_cons, List.length_nil]; omega) (liesI_only HAb.out hbc) (by decide) (by intro x hx; simp at hx; omega))
  have HBc := Lib.hid (HBb.out.trans hBc)
  have HYc := Lib.hid (HYb.out.below hBc)
  have HXc := Lib.hid (HXb.out.trans (hbc.mono HXb.out.size))
  have HZc := Lib.hid (Nat.lt_of_lt_of_le HZb.out hbc.size)
  have HCD := Lib.hid hcd
  clear hym hy hrc honc hbc hBc hcd HN HBC HYb HZb HBb HXb HAb HLb
  go_wp2_with fail
  refine HS.out.mono ?_
  rintro e wd1 ⟨o1, n1, k1, X1, c1, bl1, p1, rfl, hi, ht, hs, hrd, hok, hond⟩
  obtain ⟨We1, hWe⟩ : ∃ We, We = wd1.alloc (Obj.cells #[.int .i64 o1, .int .i64 n1, .slice X1 k1.len c1] 25) := ⟨_, rfl⟩
  have be : Below wd1.heap.size wd1 We1 := by rw [hWe]; exact (Below.refl _ _).alloc (Nat.le_refl _) _
  have hcd' : Below W2.heap.size wc1 wd1 := (hond.mono (Nat.le_of_lt HZc.out)).below (Nat.le_refl _)
  have hzd := Nat.lt_of_lt_of_le HZc.out hond.size
  have hce : Below W2.heap.size wc1 We1 := hcd'.trans (be.mono (Nat.le_of_lt hzd))
  have HRWe1 := Lib.hid (Row.below hrd be (Row.size hrd))
  have HYWe1 := Lib.hid (HYc.out.below hce)
  have HBWe1 := Lib.hid (HBc.out.trans hce)
  have HZWe1 := Lib.hid (Nat.lt_of_lt_of_le hzd be.size)
  have HXWe1 := Lib.hid ((HXc.out.trans (hond.mono HXc.out.size)).trans ((Only.of_below (g := W2.heap.size) be).mono (Nat.le_trans HXc.out.size hond.size)))
  have HT1 := Lib.hid (ht.over be)
  have HE1 := Lib.hid (show Row We1 wd1.heap.size 25 #[.int .i64 o1, .int .i64 n1, .slice X1 k1.len c1] by rw [hWe]; exact Row.fresh _ _ _)
  have HI1 := Lib.hid hi
  have HK1 := Lib.hid (show k1.size + 1 ≤ 121 from Nat.le_trans hs HCD.out.2)
  have HOK2 := Lib.hid (show Ok bs2 Q p1 (0 + 1 + 282) from hok.mono (by have := HCD.out.1; omega))
  have HD1 := Lib.hid (show W2.heap.size < wc1.heap.size ∧ wc1.heap.size ≤ wd1.heap.size from ⟨HZc.out, hond.size⟩)
  clear be hcd' hzd hce hi ht hs hrd hok hond HS HBc HYc HXc HZc HCD
  go_upto_region 3 with fail
  rw [← hWe]
  clear hWe

  obtain ⟨Wa2, hWa⟩ : ∃ Wa, Wa = We1.alloc (Obj.cells #[.int .i64 0, .int .i64 1, .int .i64 2, .int .i64 3] 3) := ⟨_, rfl⟩
  have ba : Below We1.heap.size We1 Wa2 := by rw [hWa]; exact (Below.refl _ _).alloc (Nat.le_refl _) _
  have HLa := Lib.hid (show LiesI Wa2 (W2.heap.size + 1) Wa2.heap.size (some ⟨We1.heap.size, 0, none⟩) [0, 1, 2, 3] by rw [hWa]; exact lies_new We1 (W2.heap.size + 1) [0, 1, 2, 3] (by intro x hx; simp at hx; unfold I64; omega) HZWe1.out)
  have HARa := Lib.hid (arity_any Wa2)
  have HRa := Lib.hid (Row.below HRWe1.out ba HZWe1.out)
  have HYa := Lib.hid (HYWe1.out.below (ba.mono (Nat.le_of_lt HZWe1.out)))
  have HBa := Lib.hid (HBWe1.out.trans (ba.mono (Nat.le_of_lt HZWe1.out)))
  have HZa := Lib.hid (Nat.lt_of_lt_of_le HZWe1.out ba.size)
  have HXa := Lib.hid (Only.of_below (g := W2.heap.size) ba)
  clear ba HRWe1 HYWe1 HBWe1 HZWe1
  go_wp2_with fail
  rw [← hWa]
  clear hWa
  refine HARa.out.mono ?_
  rintro e wb2 ⟨rfl, hwb⟩
  have bb : Below Wa2.heap.size Wa2 wb2 := by rw [hwb]; exact (Below.refl _ _).alloc (Nat.le_refl _) _
  have HAb := Lib.hid (show LiesI wb2 (W2.heap.size + 1) wb2.heap.size (some ⟨Wa2.heap.size, 0, none⟩) [1, 2, 0, 3, -1, -1, 1, 2] by rw [hwb]; exact lies_new Wa2 (W2.heap.size + 1) [1, 2, 0, 3, -1, -1, 1, 2] (by intro x hx; simp at hx; unfold I64; omega) HZa.out)
  have HLb := Lib.hid ((HLa.out.below bb).mono_ (Nat.le_refl _) bb.size)
  have hzb := Nat.lt_of_lt_of_le HZa.out bb.size
  have hyb := HYa.out.below (bb.mono (Nat.le_of_lt HZa.out))
  have hrb := Row.below HRa.out bb HZa.out
  have HBb := Lib.hid (HBa.out.trans (bb.mono (Nat.le_of_lt HZa.out)))
  have HXb := Lib.hid (HXa.out.trans ((Only.of_below (g := W2.heap.size) bb).mono HXa.out.size))
  have bc := (Below.refl wb2.heap.size wb2).alloc (Nat.le_refl _) (Obj.cells #[.int .i64 2, .int .i64 1, .int .i64 3] 3)
  have HN := Lib.hid (num_v W2.heap.size W2.heap.size A bc0 bs2 p1 (some ⟨wb2.heap.size, 0, none⟩) 3 [2, 1, 3] _ (Row.below hrb bc hzb) (hyb.below (bc.mono (Nat.le_of_lt hzb))) (Nat.le_refl _) hl2 (HOK2.out.pb hQ) (lies_new wb2 (W2.heap.size + 1) [2, 1, 3] (by intro x hx; simp at hx; unfold I64; omega) hzb) (by decide) (by decide))
  have HBC := Lib.hid bc
  have HYb := Lib.hid hyb
  have HZb := Lib.hid hzb
  clear hwb bb hzb hyb hrb bc HLa HARa HRa HYa HBa HZa HXa
  go_wp2_with fail
  refine HN.out.mono ?_
  rintro e wc2 ⟨y, hym, -, rfl, hrc, honc⟩
  have hy := List.mem_of_getElem? hym
  simp at hy
  obtain ⟨d2, rfl, hd1, hd5⟩ : ∃ d : Nat, y = (d : Int) ∧ 1 ≤ d ∧ d ≤ 3 := ⟨y.toNat, by omega, by omega, by omega⟩
  have hcd : costD d2 ≤ 30 ∧ nodesD d2 ≤ 121 := by
    rcases (show d2 = 1 ∨ d2 = 2 ∨ d2 = 3 ∨ d2 = 4 ∨ d2 = 5 by omega) with rfl | rfl | rfl | rfl | rfl <;> first | decide | omega
  have hbc : Only W2.heap.size wb2.heap.size wb2 wc2 := (Only.of_below HBC.out).trans (honc.mono HBC.out.size)
  have hBc : Below W2.heap.size wb2 wc2 := (hbc.mono (Nat.le_of_lt HZb.out)).below (Nat.le_refl _)
  have HS := Lib.hid (some_any d2 (by omega) W2.heap.size W2.heap.size A bc0 bs2 Q (p1 + 1) ((0 + 1 + 282) + 1) (some ⟨We1.heap.size, 0, none⟩) 4 [0, 1, 2, 3] (some ⟨Wa2.heap.size, 0, none⟩) 8 [1, 2, 0, 3, -1, -1, 1, 2] wc2 hrc (HYb.out.below hBc) (Nat.le_refl _) hl2 hQ (HOK2.out.next hQ (by decide)) (by omega) (liesI_only HLb.out hbc) (by simp only [List.length_cons, List.length_nil]; omega) (liesI_only HAb.out hbc) (by decide) (by intro x hx; simp at hx; omega))
  have HBc := Lib.hid (HBb.out.trans hBc)
  have HYc := Lib.hid (HYb.out.below hBc)
  have HXc := Lib.hid (HXb.out.trans (hbc.mono HXb.out.size))
  have HZc := Lib.hid (Nat.lt_of_lt_of_le HZb.out hbc.size)
  have HCD := Lib.hid hcd
  clear hym hy hrc honc hbc hBc hcd HN HBC HYb HZb HBb HXb HAb HLb
  go_wp2_with fail
  refine HS.out.mono ?_
  rintro e wd2 ⟨o2, n2, k2, X2, c2, bl2, p2, rfl, hi, ht, hs, hrd, hok, hond⟩
  obtain ⟨We2, hWe⟩ : ∃ We, We = wd2.alloc (Obj.cells #[.int .i64 o2, .int .i64 n2, .slice X2 k2.len c2] 25) := ⟨_, rfl⟩
  have be : Below wd2.heap.size wd2 We2 := by rw [hWe]; exact (Below.refl _ _).alloc (Nat.le_refl _) _
  have hcd' : Below W2.heap.size wc2 wd2 := (hond.mono (Nat.le_of_lt HZc.out)).below (Nat.le_refl _)
  have hzd := Nat.lt_of_lt_of_le HZc.out hond.size
  have hce : Below W2.heap.size wc2 We2 := hcd'.trans (be.mono (Nat.le_of_lt hzd))
  have HRWe2 := Lib.hid (Row.below hrd be (Row.size hrd))
  have HYWe2 := Lib.hid (HYc.out.below hce)
  have HBWe2 := Lib.hid (HBc.out.trans hce)
  have HZWe2 := Lib.hid (Nat.lt_of_lt_of_le hzd be.size)
  have HXWe2 := Lib.hid ((HXc.out.trans (hond.mono HXc.out.size)).trans ((Only.of_below (g := W2.heap.size) be).mono (Nat.le_trans HXc.out.size hond.size)))
  have HT2 := Lib.hid (ht.over be)
  have HE2 := Lib.hid (show Row We2 wd2.heap.size 25 #[.int .i64 o2, .int .i64 n2, .slice X2 k2.len c2] by rw [hWe]; exact Row.fresh _ _ _)
  have HI2 := Lib.hid hi
  have HK2 := Lib.hid (show k2.size + 1 ≤ 121 from Nat.le_trans hs HCD.out.2)
  have HOK3 := Lib.hid (show Ok bs2 Q p2 ((0 + 1 + 282) + 1 + 30) from hok.mono (by have := HCD.out.1; omega))
  have HD2 := Lib.hid (show W2.heap.size < wc2.heap.size ∧ wc2.heap.size ≤ wd2.heap.size from ⟨HZc.out, hond.size⟩)
  clear be hcd' hzd hce hi ht hs hrd hok hond HS HBc HYc HXc HZc HCD
  go_upto_region 4 with fail
  rw [← hWe]
  clear hWe

  -- where the region that returns begins: We2
  have HO := Lib.hid (show Only W2.heap.size We1.heap.size We1 We2 from HXWe2.out)
  have hE1 := HE1.out.only HO.out HE1.out.size (by have := HD1.out; omega)
  have HE1' := Lib.hid hE1
  have hT1 := HT1.out.keep fun z hz => HO.out.block z (HT1.out.lt z hz).2 (by have := (HT1.out.lt z hz).1; have := HD1.out; omega)
  have HT1' := Lib.hid hT1
  have HG := Lib.hid (show wd1.heap.size < We1.heap.size ∧ We1.heap.size ≤ We2.heap.size ∧ wd2.heap.size < We2.heap.size ∧ We1.heap.size ≤ wc2.heap.size ∨ True from .inr trivial)
  have HL1 := Lib.hid (hT1.held).1
  have a0 := hE1.cell (i := 0) rfl
  have a1 := hE1.cell (i := 1) rfl
  have a2 := hE1.cell (i := 2) rfl
  have x0 := HE2.out.cell (i := 0) rfl
  have x1 := HE2.out.cell (i := 1) rfl
  have x2 := HE2.out.cell (i := 2) rfl
  have bF : Below We2.heap.size We2 (We2.alloc (Obj.cells #[.int .i64 0, .int .i64 1, .int .i64 2, .int .i64 0, .int .i64 (-1), .int .i64 8] 3)) := (Below.refl _ _).alloc (Nat.le_refl _) _
  have hE1F := hE1.below bF hE1.size
  have hE2F := HE2.out.below bF HE2.out.size
  have a3 := hE1F.cell (i := 0) rfl
  have a4 := hE1F.cell (i := 1) rfl
  have a5 := hE1F.cell (i := 2) rfl
  have x3 := hE2F.cell (i := 0) rfl
  have x4 := hE2F.cell (i := 1) rfl
  have x5 := hE2F.cell (i := 2) rfl
  have HLF := Lib.hid (show LiesI (We2.alloc (Obj.cells #[.int .i64 0, .int .i64 1, .int .i64 2, .int .i64 0, .int .i64 (-1), .int .i64 8] 3)) (W2.heap.size + 1) (We2.alloc (Obj.cells #[.int .i64 0, .int .i64 1, .int .i64 2, .int .i64 0, .int .i64 (-1), .int .i64 8] 3)).heap.size (some ⟨We2.heap.size, 0, none⟩) [0, 1, 2, 0, -1, 8] from lies_new We2 (W2.heap.size + 1) [0, 1, 2, 0, -1, 8] (by intro x hx; simp at hx; unfold I64; omega) HZWe2.out)
  have HCB := Lib.hid (mut_any (Q - p2) W2.heap.size W2.heap.size A bc0 bs2 Q p2 (0 + 1 + 282 + 1 + 30) o1 n1 k1 X1 c1 We2.drew rfl HRWe2.out HYWe2.out.drew (Nat.le_refl _) hl2 hQ HOK3.out (by decide) ((HL1.out.below ((Below.refl We2.heap.size We2).drew)).mono_ (Nat.le_refl _) (Nat.le_refl _)) HI1.out (by have := HK1.out; omega))
  have HCA := Lib.hid (mut_any (Q - p2) W2.heap.size W2.heap.size A bc0 bs2 Q p2 (0 + 1 + 282 + 1 + 30) o1 n1 k1 X1 c1 (We2.alloc (Obj.cells #[.int .i64 0, .int .i64 1, .int .i64 2, .int .i64 0, .int .i64 (-1), .int .i64 8] 3)).drew rfl (Row.below HRWe2.out bF.drew (Row.size HRWe2.out)) (HYWe2.out.below (bF.drew.mono (Nat.le_of_lt HZWe2.out))) (Nat.le_refl _) hl2 hQ HOK3.out (by decide) ((HL1.out.below bF.drew).mono_ (Nat.le_refl _) bF.drew.size) HI1.out (by have := HK1.out; omega))
  clear hE1 hT1 bF hE1F hE2F HG
  go_wp2_with fail
  go_region_law (first
    | (refine step_call (f := 21) rfl (by kernel_rfl) HC2.out ?_
       rintro e v3 ⟨q2, m2, j2, Y2, f2, ml2, r2, rfl, gi2, gt2, gs2, -, gok2, gon2⟩
       refine ⟨_, rfl, ?_⟩
       have hbf : Below W2.heap.size W2 v3 := HBv2.out.trans ((gon2.mono HZv2.out).below (Nat.le_refl _))
       have hX1 := HX1.out.below hbf (by have := HWG.out; omega)
       have hX2 := HX2.out.below hbf (by have := HWG.out; omega)
       have f0 := hX1.free 0
       have f1 := hX1.free 1
       have f2' := hX1.free 2
       have f3 := hX2.free 0
       have f4 := hX2.free 1
       have f5 := hX2.free 2
       have d0 := hX1.cell (i := 0) rfl
       have d1' := hX1.cell (i := 1) rfl
       have d2' := hX1.cell (i := 2) rfl
       have d3 := hX2.cell (i := 0) rfl
       have d4 := hX2.cell (i := 1) rfl
       have d5 := hX2.cell (i := 2) rfl
       have HBF := Lib.hid hbf
       have HXF1 := Lib.hid hX1
       have HXF2 := Lib.hid hX2
       have GI2 := Lib.hid gi2
       have GT2 := Lib.hid gt2
       have GTF := Lib.hid (GTv2.out.keep fun z hz => gon2.block z (GTv2.out.lt z hz).2 (by have := (GTv2.out.lt z hz).1; have := HZWe2.out; omega))
       have GK2 := Lib.hid (show j2.size ≤ 500300 by have := gok2.lt; have := hQ.1; have := HK2.out; omega)
       clear hbf hX1 hX2 gi2 gt2 gs2 gok2 gon2)
    | (refine step_call (f := 22) rfl (by kernel_rfl) HNN.out ?_
       rintro e v2 ⟨y, -, hyi, rfl, hr2, hon2⟩
       refine ⟨_, rfl, ?_⟩
       have h12 : Only W2.heap.size v1.heap.size v1 v2 := HV1.out.trans (hon2.mono HV1.out.size)
       have h02 : Only W2.heap.size We2.heap.size We2 v2 := HOv1.out.trans (h12.mono HOv1.out.size)
       have hB2' : Below W2.heap.size We2 v2 := (h02.mono (Nat.le_of_lt HZWe2.out)).below (Nat.le_refl _)
       have hE2 := HE2.out.only h02 HE2.out.size (by have := HD2.out; omega)
       have u0 := hE2.cell (i := 0) rfl
       have u1 := hE2.cell (i := 1) rfl
       have u2 := hE2.cell (i := 2) rfl
       have hT2 := HT2.out.keep fun z hz => h02.block z (HT2.out.lt z hz).2 (by have := (HT2.out.lt z hz).1; have := HD2.out; omega)
       have HC2 := Lib.hid (mut_any (Q - (p' + 1)) W2.heap.size W2.heap.size A bc0 bs2 Q (p' + 1) (0 + 1 + 282 + 1 + 30 + 2 + 1) o2 n2 k2 X2 c2 v2 rfl hr2 (HYWe2.out.below hB2') (Nat.le_refl _) hl2 hQ (HOKm.out.next hQ (by decide)) (by decide) hT2.held.1 HI2.out (by have := HK2.out; omega))
       have GTv2 := Lib.hid (GT1.out.keep fun z hz => h12.block z (GT1.out.lt z hz).2 (by have := (GT1.out.lt z hz).1; have := HZWe2.out; omega))
       have HBv2 := Lib.hid (HBWe2.out.trans hB2')
       have HZv2 := Lib.hid (show W2.heap.size ≤ v2.heap.size from Nat.le_trans (Nat.le_of_lt HZWe2.out) h02.size)
       have HGv2 := Lib.hid h02.size
       have HYI := Lib.hid hyi
       clear h12 h02 hB2' hE2 hT2 hyi hr2 hon2)
    | (refine step_call (f := 21) rfl (by kernel_rfl) HCB.out ?_
       rintro e v1 ⟨q1, m1, j1, Y1, f1', ml1, p', rfl, gi1, gt1, gs1, grd1, gok1, gon1⟩
       refine ⟨_, rfl, ?_⟩
       have h01 : Only W2.heap.size We2.heap.size We2 v1 := ((Only.refl W2.heap.size We2.heap.size We2).drew).trans gon1
       have hB01 : Below W2.heap.size We2 v1 := (h01.mono (Nat.le_of_lt HZWe2.out)).below (Nat.le_refl _)
       have hz1 := Nat.lt_of_lt_of_le HZWe2.out h01.size
       have bf : Below v1.heap.size v1 (v1.alloc (Obj.cells #[.int .i64 0, .int .i64 1, .int .i64 2, .int .i64 0, .int .i64 (-1), .int .i64 8] 3)) := (Below.refl _ _).alloc (Nat.le_refl _) _
       have hE2 := HE2.out.only h01 HE2.out.size (by have := HD2.out; omega)
       have hE2f := hE2.below bf hE2.size
       have y0 := hE2.cell (i := 0) rfl
       have y1 := hE2.cell (i := 1) rfl
       have y2 := hE2.cell (i := 2) rfl
       have y3 := hE2f.cell (i := 0) rfl
       have y4 := hE2f.cell (i := 1) rfl
       have y5 := hE2f.cell (i := 2) rfl
       have HNN := Lib.hid (num_v W2.heap.size W2.heap.size A bc0 bs2 p' (some ⟨v1.heap.size, 0, none⟩) 6 [0, 1, 2, 0, -1, 8] (v1.alloc (Obj.cells #[.int .i64 0, .int .i64 1, .int .i64 2, .int .i64 0, .int .i64 (-1), .int .i64 8] 3)) (Row.below grd1 bf (Row.size grd1)) ((HYWe2.out.below hB01).below (bf.mono (Nat.le_of_lt hz1))) (Nat.le_refl _) hl2 (gok1.pb hQ) (lies_new v1 (W2.heap.size + 1) [0, 1, 2, 0, -1, 8] (by intro x hx; simp at hx; unfold I64; omega) hz1) (by decide) (by decide))
       have HV1 := Lib.hid (Only.of_below (g := W2.heap.size) bf)
       have HOv1 := Lib.hid h01
       have HOKm := Lib.hid gok1
       have GT1 := Lib.hid (show Tree v1 We2.heap.size (.slice Y1 j1.len f1') j1 ml1 from gt1)
       have GI1 := Lib.hid gi1
       have GK1 := Lib.hid (show j1.size ≤ 500300 by have := gok1.lt; have := hQ.1; have := HK1.out; omega)
       clear h01 hB01 hz1 bf hE2 hE2f gi1 gt1 gs1 grd1 gok1 gon1)
    | (refine step_call (f := 21) rfl (by kernel_rfl) HCA.out ?_
       rintro e v1 ⟨q1, m1, j1, Y1, f1', ml1, p', rfl, gi1, gt1, gs1, grd1, gok1, gon1⟩
       refine ⟨_, rfl, ?_⟩
       have bF : Below We2.heap.size We2 (We2.alloc (Obj.cells #[.int .i64 0, .int .i64 1, .int .i64 2, .int .i64 0, .int .i64 (-1), .int .i64 8] 3)) := (Below.refl _ _).alloc (Nat.le_refl _) _
       have hF1 : Only W2.heap.size (We2.alloc (Obj.cells #[.int .i64 0, .int .i64 1, .int .i64 2, .int .i64 0, .int .i64 (-1), .int .i64 8] 3)).heap.size (We2.alloc (Obj.cells #[.int .i64 0, .int .i64 1, .int .i64 2, .int .i64 0, .int .i64 (-1), .int .i64 8] 3)) v1 := ((Only.refl W2.heap.size (We2.alloc (Obj.cells #[.int .i64 0, .int .i64 1, .int .i64 2, .int .i64 0, .int .i64 (-1), .int .i64 8] 3)).heap.size (We2.alloc (Obj.cells #[.int .i64 0, .int .i64 1, .int .i64 2, .int .i64 0, .int .i64 (-1), .int .i64 8] 3))).drew).trans gon1
       have h01 : Only W2.heap.size We2.heap.size We2 v1 := (Only.of_below bF).trans (hF1.mono bF.size)
       have hB01 : Below W2.heap.size We2 v1 := (h01.mono (Nat.le_of_lt HZWe2.out)).below (Nat.le_refl _)
       have hE2 := HE2.out.only h01 HE2.out.size (by have := HD2.out; omega)
       have y0 := hE2.cell (i := 0) rfl
       have y1 := hE2.cell (i := 1) rfl
       have y2 := hE2.cell (i := 2) rfl
       have HNN := Lib.hid (num_v W2.heap.size W2.heap.size A bc0 bs2 p' (some ⟨We2.heap.size, 0, none⟩) 6 [0, 1, 2, 0, -1, 8] v1 grd1 (HYWe2.out.below hB01) (Nat.le_refl _) hl2 (gok1.pb hQ) (liesI_only HLF.out hF1) (by decide) (by decide))
       have HV1 := Lib.hid (Only.refl W2.heap.size v1.heap.size v1)
       have HOv1 := Lib.hid h01
       have HOKm := Lib.hid gok1
       have GT1 := Lib.hid (show Tree v1 (We2.heap.size + 1) (.slice Y1 j1.len f1') j1 ml1 from by rw [show We2.heap.size + 1 = (We2.alloc (Obj.cells #[.int .i64 0, .int .i64 1, .int .i64 2, .int .i64 0, .int .i64 (-1), .int .i64 8] 3)).drew.heap.size from (World.size_alloc _ _).symm]; exact gt1)
       have GI1 := Lib.hid gi1
       have GK1 := Lib.hid (show j1.size ≤ 500300 by have := gok1.lt; have := hQ.1; have := HK1.out; omega)
       clear bF hF1 h01 hB01 hE2 gi1 gt1 gs1 grd1 gok1 gon1))
  all_goals
    go_wp2_with fail
    have r7 := ((HXF1.out.put 0 (.int .i64 q1)).put 1 (.int .i64 m1)).put 2 (.slice Y1 j1.len f1')
    have r8 := (((((HXF2.out.apart (p := ⟨w.heap.size, 0, none⟩) (by dsimp only; omega) (.int .i64 q1)).apart (p := ⟨w.heap.size, 1, none⟩) (by dsimp only; omega) (.int .i64 m1)).apart (p := ⟨w.heap.size, 2, none⟩) (by dsimp only; omega) (.slice Y1 j1.len f1')).put 0 (.int .i64 q2)).put 1 (.int .i64 m2)).put 2 (.slice Y2 j2.len f2)
    have r9 := ((r7.apart (p := ⟨w.heap.size + 1, 0, none⟩) (by dsimp only; omega) (.int .i64 q2)).apart (p := ⟨w.heap.size + 1, 1, none⟩) (by dsimp only; omega) (.int .i64 m2)).apart (p := ⟨w.heap.size + 1, 2, none⟩) (by dsimp only; omega) (.slice Y2 j2.len f2)
    have t0 := r9.cell (i := 0) rfl
    have t1 := r9.cell (i := 1) rfl
    have t2 := r9.cell (i := 2) rfl
    have t3 := r8.cell (i := 0) rfl
    have t4 := r8.cell (i := 1) rfl
    have t5 := r8.cell (i := 2) rfl
    refine bodyPost_ret (v := .tuple #[.agg #[.int .i64 q1, .int .i64 m1, .slice Y1 j1.len f1'], .int .i64 y, .agg #[.int .i64 q2, .int .i64 m2, .slice Y2 j2.len f2]]) ?_ rfl (sub_end GTF.out GT2.out (by have := HWG.out; have := HZWe2.out; omega) (by have := HWG.out; have := HZWe2.out; have := HGv2.out; omega) GI1.out GI2.out GK1.out GK2.out HYI.out (HB2.out.trans (HBF.out.mono HB2.out.size)))
    simp [results, Try.f13, go_sem, t0, t1, t2, t3, t4, t5]
end Go.Proofs.Ytjlaabipgppijaa
