/-
  The walk of the law FnIsAtom: true at every input.
-/
import Derived.Test.YtgcopdalhdpbmaaDrawE
import Derived.Test.YtgcopdalhdpbmaaTreeP
import Derived.Test.YtgcopdalhdpbmaaAtom
import Derived.Test.YtgcopdalhdpbmaaOpen
import Derived.Test.YtgcopdalhdpbmaaIsPureI
import Derived.Test.YtgcopdalhdpbmaaISize
namespace Go.Proofs.Ytgcopdalhdpbmaa
open Go.RowKit Go.Shelf
set_option maxRecDepth 100000

/-- What is drawn: an expression. -/
def AtPost (w : World) (e : Ending) (w' : World) : Prop :=
  ∃ op n k X c, e = .returned (.agg #[.int .i64 op, .int .i64 n, .slice X (Fo.len k) c]) ∧ Fo.len k ≤ c ∧ c ≤ maxLen ∧ Below w.heap.size w w'

set_option maxHeartbeats 2000000 in
theorem drawIsAtom_any (A : Option Addr) (bc : Nat) (bs : List Nat) (w : World) (hB : LiesY w 0 w.heap.size A bs) (hl : bs.length ≤ bc) (hc : bc ≤ maxLen) :
    Calls Try.prog 4 #[.slice A bs.length bc] w (AtPost w) := by
  obtain ⟨W1, hW1⟩ : ∃ W1, W1 = w.alloc (Obj.cells #[.int .i64 0, .int .i64 0, .slice none 0 0] 25) := ⟨_, rfl⟩
  have hb1 : Below w.heap.size w W1 := by rw [hW1]; exact (Below.refl _ _).alloc (Nat.le_refl _) _
  have hx1 : Row W1 w.heap.size 25 #[.int .i64 0, .int .i64 0, .slice none 0 0] := by rw [hW1]; exact Row.fresh _ _ _
  have hY1 : LiesY W1 0 W1.heap.size A bs := (hB.below hb1).keep (Nat.le_refl _) hb1.size fun _ _ _ => rfl
  have HC := Lib.hid (drawFormat_any A bc bs W1 hY1 hl hc)
  have HX1 := Lib.hid hx1
  have HY1 := Lib.hid hY1
  have HB1 := Lib.hid hb1
  have hg1 : w.heap.size < W1.heap.size := hx1.size
  clear hb1 hx1 hB hY1
  go_enter Try.func4, Try.ntmps4
  go_upto_region 1 with fail
  rw [← hW1]
  clear hW1
  go_wp2_with fail
  refine HC.out.mono ?_
  rintro e w2 ⟨op, n, k, Y, cy, rfl, ⟨bl, hi, ht, hs⟩, hb2⟩
  obtain ⟨_, _, hY, hk1, hk2⟩ := ht.slice
  injection hY with hY1 hY2 hY3
  subst hY3
  clear hY1
  obtain ⟨W3, hW3⟩ : ∃ W3, W3 = w2.alloc (Obj.cells #[.int .i64 op, .int .i64 n, .slice Y k.len cy] 25) := ⟨_, rfl⟩
  have hb3 : Below w2.heap.size w2 W3 := by rw [hW3]; exact (Below.refl _ _).alloc (Nat.le_refl _) _
  have HE3 := Lib.hid (show Row W3 w2.heap.size 25 #[.int .i64 op, .int .i64 n, .slice Y k.len cy] by rw [hW3]; exact Row.fresh _ _ _)
  have hb13 : Below W1.heap.size W1 W3 := hb2.trans (hb3.mono hb2.size)
  have HX3 := Lib.hid (HX1.out.below hb13 hg1)
  have HB3 := Lib.hid (HB1.out.trans (hb13.mono HB1.out.size))
  have HH3 := Lib.hid ((ht.held).up hb3)
  have HCO := Lib.hid (open_any A bc bs W3 ((HY1.out.below hb13).keep (Nat.le_refl _) hb13.size fun _ _ _ => rfl) hl hc)
  have hkn : k.len ≤ 500300 := Nat.le_trans (Fo.len_le_size k) hs
  clear hb2 hb3 hb13 ht hi HC HX1 HB1 HY1
  go_upto_region 2 with fail
  rw [← hW3]
  clear hW3
  -- the end: a node is stored as the result
  have key : ∀ (V : World) (o m : Int) (l : Fo) (B : Option Addr) (c' : Nat), Below W3.heap.size W3 V → l.len ≤ c' → c' ≤ maxLen → AtPost w (.returned (.agg #[.int .i64 o, .int .i64 m, .slice B l.len c'])) (((V.setCell ⟨w.heap.size, 0, none⟩ (.int .i64 o)).setCell ⟨w.heap.size, 1, none⟩ (.int .i64 m)).setCell ⟨w.heap.size, 2, none⟩ (.slice B l.len c')) := fun V o m l B c' hV h1 h2 =>
    ⟨o, m, l, B, c', rfl, h1, h2, (((HB3.out.trans (hV.mono HB3.out.size)).setCell (p := ⟨w.heap.size, 0, none⟩) (Nat.le_refl _) _).setCell (p := ⟨w.heap.size, 1, none⟩) (Nat.le_refl _) _).setCell (p := ⟨w.heap.size, 2, none⟩) (Nat.le_refl _) _⟩
  have KEY := Lib.hid key
  have HQ := Lib.hid (show ∀ V, Below W3.heap.size W3 V → V.cell? ⟨w2.heap.size, 0, none⟩ = some (.int .i64 op) ∧ V.cell? ⟨w2.heap.size, 1, none⟩ = some (.int .i64 n) ∧ V.cell? ⟨w2.heap.size, 2, none⟩ = some (.slice Y k.len cy) ∧ Row V w.heap.size 25 #[.int .i64 0, .int .i64 0, .slice none 0 0] from fun V hV => by
    have h := HE3.out.below hV HE3.out.size
    exact ⟨h.cell rfl, h.cell rfl, h.cell rfl, HX3.out.below hV HX3.out.size⟩)
  clear key
  obtain ⟨q0, q1, q2, hr⟩ := HQ.out W3 (Below.refl _ _)
  by_cases hk0 : k.len = 0
  · have hg : decide ((k.len : Int) > 0) = false := by simp; omega
    have hg2 : ¬ (0 : Int) < (k.len : Int) := by omega
    have hg3 : decide ((0 : Int) < (k.len : Int)) = false := by simp; omega
    have HRR := Lib.hid hr
    have f0 := hr.free 0
    have f1 := hr.free 1
    have f2 := hr.free 2
    have d0 := hr.cell (i := 0) rfl
    have d1 := hr.cell (i := 1) rfl
    have d2 := hr.cell (i := 2) rfl
    clear hr hk0
    go_wp2_with fail
    have r7 := ((HRR.out.put 0 (.int .i64 op)).put 1 (.int .i64 n)).put 2 (.slice Y k.len cy)
    have t0 := r7.cell (i := 0) rfl
    have t1 := r7.cell (i := 1) rfl
    have t2 := r7.cell (i := 2) rfl
    refine bodyPost_ret (v := .agg #[.int .i64 op, .int .i64 n, .slice Y k.len cy]) ?_ rfl (by exact KEY.out W3 op n k Y cy (Below.refl _ _) hk1 hk2)
    simp [results, Try.f4, go_sem, t0, t1, t2]
  · have hg : decide ((k.len : Int) > 0) = true := by simp; omega
    have hlt : 0 < k.len := by omega
    obtain ⟨o1, m1, k1, e1, _, _⟩ := Fo.drop_of_lt k 0 hlt
    have E1 := Lib.hid e1
    clear hr hk0 e1
    go_wp2_with fail
    refine HCO.out.mono ?_
    rintro e w4 ⟨bs2, hl2, rfl, hY4, hr4, hb4, hz4⟩
    have HP := Lib.hid (pick_v W3.heap.size W3.heap.size A bc bs2 0 2 w4 hr4 hY4 (Nat.le_refl _) hl2 (by decide) (by decide) (by decide))
    have HB4 := Lib.hid hb4
    clear hY4 hr4 hb4 hz4 HCO
    go_wp2_with fail
    refine HP.out.mono ?_
    rintro e w5 ⟨rfl, hr5, hon5⟩
    obtain ⟨x, hx⟩ : ∃ x, x = pkL bs2 0 2 := ⟨_, rfl⟩
    rw [← hx]
    have HB5 := Lib.hid (show Below W3.heap.size W3 w5 from HB4.out.trans ((hon5.mono HB4.out.size).below (Nat.le_refl _)))
    clear hx hr5 hon5 HP q0 q1 q2 hg
    obtain ⟨q0, q1, q2, hr⟩ := HQ.out w5 HB5.out
    have HRR := Lib.hid hr
    have f0 := hr.free 0
    have f1 := hr.free 1
    have f2 := hr.free 2
    have d0 := hr.cell (i := 0) rfl
    have d1 := hr.cell (i := 1) rfl
    have d2 := hr.cell (i := 2) rfl
    clear hr
    by_cases hx0 : x = 0
    · have h0 : ((x : Int) == 0) = true := by simp; omega
      obtain ⟨b, o, A', c', rfl, hbb, hi1, g0, g1, g2, h7, h8, hh1⟩ := (HH3.out.up HB5.out).kid E1.out
      have hki : (0 : Int) < (k.len : Int) := by omega
      have g0 : w5.cell? ⟨b, o, none⟩ = some (.int .i64 o1) := by simpa using g0
      have g1 : w5.cell? ⟨b, o + 1, none⟩ = some (.int .i64 m1) := by simpa using g1
      have g2 : w5.cell? ⟨b, o + 2, none⟩ = some (.slice A' k1.len c') := by simpa using g2
      clear hx0 hh1
      go_wp2_with fail
      have r7 := ((HRR.out.put 0 (.int .i64 o1)).put 1 (.int .i64 m1)).put 2 (.slice A' k1.len c')
      have t0 := r7.cell (i := 0) rfl
      have t1 := r7.cell (i := 1) rfl
      have t2 := r7.cell (i := 2) rfl
      refine bodyPost_ret (v := .agg #[.int .i64 o1, .int .i64 m1, .slice A' k1.len c']) ?_ rfl (by exact KEY.out w5 o1 m1 k1 A' c' HB5.out h7 h8)
      simp [results, Try.f4, go_sem, t0, t1, t2]
    · have h0 : ((x : Int) == 0) = false := by simp; omega
      clear hx0
      go_wp2_with fail
      have r7 := ((HRR.out.put 0 (.int .i64 op)).put 1 (.int .i64 n)).put 2 (.slice Y k.len cy)
      have t0 := r7.cell (i := 0) rfl
      have t1 := r7.cell (i := 1) rfl
      have t2 := r7.cell (i := 2) rfl
      refine bodyPost_ret (v := .agg #[.int .i64 op, .int .i64 n, .slice Y k.len cy]) ?_ rfl (by exact KEY.out w5 op n k Y cy HB5.out hk1 hk2)
      simp [results, Try.f4, go_sem, t0, t1, t2]

/-- A valid atom is pure. -/
theorem atom_pure {op n : Int} (h : op = 1 ∨ op = 2) (hv : validOf op n .nil (upto 8) = true) : isPureB [] op n .nil = true := by
  rw [validOf_upto op n .nil 8 (Nat.le_refl _)] at hv
  unfold isPureB callsFitB
  rw [hv]
  rcases h with rfl | rfl <;> simp [libOk, okL, fitN, okCall, fitF, pureS, pureOwn, pureF]

set_option maxHeartbeats 4000000 in
theorem law_NIsAtom (bs : List Nat) (A : Option Addr) (c : Nat) (w : World) (hl : LiesY w 0 w.heap.size A bs) (hlc : bs.length ≤ c) (hc : c ≤ maxLen) :
    Calls Try.prog 3 #[.slice A bs.length c] w (Gives (.bool true) w) := by
  have HC := Lib.hid (drawIsAtom_any A c bs w hl hlc hc)
  unfold maxLen at hc
  by_cases hsz : bs.length ≤ 1048576
  rotate_left
  · have hgt : 1048576 < bs.length := by omega
    go_enter Try.func3, Try.ntmps3
    go_wp2_with fail
    go_ret
    exact ⟨rfl, Below.refl _ _⟩
  clear hl
  go_enter Try.func3, Try.ntmps3
  go_wp2_with fail
  refine HC.out.mono ?_
  rintro e w1 ⟨op, n, k, X, cx, rfl, hk1, hk2, hb⟩
  obtain ⟨W, hW⟩ : ∃ W, W = w1.alloc (Obj.cells #[.int .i64 op, .int .i64 n, .slice X k.len cx] 25) := ⟨_, rfl⟩
  have hbW : Below w1.heap.size w1 W := by rw [hW]; exact (Below.refl _ _).alloc (Nat.le_refl _) _
  have HX := Lib.hid (show Row W w1.heap.size 25 #[.int .i64 op, .int .i64 n, .slice X k.len cx] by rw [hW]; exact Row.fresh _ _ _)
  have HB := Lib.hid (hb.trans (hbW.mono hb.size))
  have HQ := Lib.hid (show ∀ V, Below W.heap.size W V → V.cell? ⟨w1.heap.size, 0, none⟩ = some (.int .i64 op) ∧ V.cell? ⟨w1.heap.size, 1, none⟩ = some (.int .i64 n) ∧ V.cell? ⟨w1.heap.size, 2, none⟩ = some (.slice X k.len cx) ∧ Below w.heap.size w V from fun V hV => by
    have h := HX.out.below hV HX.out.size
    exact ⟨h.cell rfl, h.cell rfl, h.cell rfl, HB.out.trans (hV.mono HB.out.size)⟩)
  clear hb hbW HC
  go_upto_region 4 with fail
  rw [← hW]
  clear hW
  obtain ⟨v0, hv0⟩ : ∃ v, v = atomB op k := ⟨_, rfl⟩
  have H0 := Lib.hid hv0
  have hne : (v0 != v0) = false := by simp
  have heq : (v0 == v0) = true := by simp
  clear hv0
  obtain ⟨q0, q1, q2, hq⟩ := HQ.out W (Below.refl _ _)
  go_wp2_with fail
  refine (implAtom_any op n k X cx W).mono ?_
  rintro e w2 ⟨rfl, hb2⟩
  rw [← H0.out]
  have HB2 := Lib.hid hb2
  clear q0 q1 q2 hq hb2
  obtain ⟨q0, q1, q2, hq⟩ := HQ.out w2 HB2.out
  go_wp2_with fail
  refine (specAtom_any op n k X cx w2).mono ?_
  rintro e w3 ⟨rfl, hb3⟩
  rw [← H0.out]
  have HB3 := Lib.hid (HB2.out.trans (hb3.mono HB2.out.size))
  clear q0 q1 q2 hq hb3 HB2
  obtain ⟨q0, q1, q2, hq⟩ := HQ.out w3 HB3.out
  cases v0 with
  | false =>
    go_wp2_with fail
    refine (specAtom_any op n k X cx w3).mono ?_
    rintro e w4 ⟨rfl, hb4⟩
    rw [← H0.out]
    have HR := Lib.hid (HQ.out w4 (HB3.out.trans (hb4.mono HB3.out.size))).2.2.2
    clear hb4 q0 q1 q2 hq
    go_wp2_with fail
    go_ret
    exact ⟨rfl, HR.out⟩
  | true =>
  have ha := H0.out.symm
  unfold atomB at ha
  rw [Bool.and_eq_true, Bool.or_eq_true, decide_eq_true_iff, decide_eq_true_iff, decide_eq_true_iff] at ha
  obtain ⟨hop, hk0⟩ := ha
  have hkn : k = .nil := by cases k with | nil => rfl | cons => simp [Fo.len] at hk0
  have HKN := Lib.hid hkn
  have HLK := Lib.hid (show ∀ V : World, ∀ B : Nat, Lies V 0 B X 0 k from fun V B => by rw [hkn]; trivial)
  have HOP := Lib.hid hop
  obtain ⟨V, hV⟩ : ∃ V, V = w3.alloc (Obj.cells #[.int .i64 0, .int .i64 1, .int .i64 2, .int .i64 3, .int .i64 4, .int .i64 5, .int .i64 6, .int .i64 7] 3) := ⟨_, rfl⟩
  have hbV : Below w3.heap.size w3 V := by rw [hV]; exact (Below.refl _ _).alloc (Nat.le_refl _) _
  have HIV := Lib.hid (show LiesI V 0 V.heap.size (some ⟨w3.heap.size, 0, none⟩) (upto 8) from by rw [hV]; exact lies_new w3 0 [0, 1, 2, 3, 4, 5, 6, 7] (by intro x hx; simp at hx; unfold I64; omega) (Nat.zero_le _))
  have HBV := Lib.hid (HB3.out.trans (hbV.mono HB3.out.size))
  obtain ⟨v1, hv1⟩ : ∃ v, v = validOf op n k (upto 8) := ⟨_, rfl⟩
  have HCV := Lib.hid (show Calls Try.prog 7 #[.agg #[.int .i64 op, .int .i64 n, .slice X k.len cx], .slice (some ⟨w3.heap.size, 0, none⟩) 8 8] V (Gives (.bool v1) V) from by
    have h := implExprValid_any op n k X cx (upto 8) (some ⟨w3.heap.size, 0, none⟩) 8 V (HLK.out V _) (Nat.le_trans hk1 hk2) HIV.out (by decide)
    rw [← hv1] at h
    exact h)
  have HV1 := Lib.hid hv1
  have HVV := Lib.hid hV
  clear hop hk0 hkn hbV hV hv1
  go_wp2_with fail
  rw [← HVV.out]
  refine HCV.out.mono ?_
  rintro e w4 ⟨rfl, hb4⟩
  have HB4 := Lib.hid (HBV.out.trans (hb4.mono HBV.out.size))
  clear hb4 q0 q1 q2 hq HCV HIV
  obtain ⟨q0, q1, q2, hq⟩ := HQ.out w4 HB4.out
  cases v1 with
  | false =>
    go_wp2_with fail
    refine (specAtom_any op n k X cx w4).mono ?_
    rintro e w5 ⟨rfl, hb5⟩
    rw [← H0.out]
    have HR := Lib.hid (HQ.out w5 (HB4.out.trans (hb5.mono HB4.out.size))).2.2.2
    clear hb5 q0 q1 q2 hq
    go_wp2_with fail
    go_ret
    exact ⟨rfl, HR.out⟩
  | true =>
  have HPU := Lib.hid (show isPureB [] op n k = true by rw [HKN.out]; exact atom_pure HOP.out (by rw [← HKN.out]; exact HV1.out.symm))
  have hks : k.size = 0 := by rw [HKN.out]; rfl
  have HKS := Lib.hid hks
  have hksz : k.size ≤ 1048576 := by omega
  clear hks
  go_wp2_with fail
  refine (implIsPure_any [] none 0 op n k X cx 0 0 0 0 w4 (fun i d h => by simp at h) (Nat.zero_le _) (AllRows.none w4 0) (HLK.out w4 0) (Nat.zero_le _) (AllRows.none w4 0) (by simp [sizeD]) hk1 hk2 hksz).mono ?_
  rintro e w5 ⟨rfl, hb5⟩
  rw [HPU.out]
  have HB5 := Lib.hid (HB4.out.trans (hb5.mono HB4.out.size))
  clear hb5 q0 q1 q2 hq
  obtain ⟨q0, q1, q2, hq⟩ := HQ.out w5 HB5.out
  go_wp2_with fail
  refine (implSize_r op n k X cx 0 0 w5 (HLK.out w5 0) (Nat.zero_le _) (RowsIf.small (by rw [HKN.out]; rfl)) hk1 hk2 hksz).mono ?_
  rintro e w6 ⟨rfl, hb6⟩
  rw [HKS.out]
  have HR := Lib.hid (HQ.out w6 (HB5.out.trans (hb6.mono HB5.out.size))).2.2.2
  clear hb6 q0 q1 q2 hq
  go_wp2_with fail
  go_ret
  exact ⟨rfl, HR.out⟩
end Go.Proofs.Ytgcopdalhdpbmaa
