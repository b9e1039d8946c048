/-
  The walk of the law FnTextUnique: true at every input (made by gen_ntu.py).
-/
import Derived.Test.YtnlpcfcoipnnaaaDrawE
import Derived.Test.YtnlpcfcoipnnaaaTreeP
import Derived.Test.YtnlpcfcoipnnaaaFmtE
import Derived.Test.YtnlpcfcoipnnaaaTxtU
import Derived.Test.YtnlpcfcoipnnaaaISame
import Derived.Test.YtnlpcfcoipnnaaaTake
namespace Go.Proofs.Ytnlpcfcoipnnaaa
open Go.RowKit Go.Shelf
set_option maxRecDepth 100000

theorem tu_eq : ∀ {f g : Fo}, sameFo f g = true → f = g
  | .nil, .nil, _ => rfl
  | .cons o m k r, .cons o' m' k' r', h => by
    simp only [sameFo, Bool.and_eq_true, decide_eq_true_iff] at h
    obtain ⟨⟨⟨rfl, rfl⟩, h3⟩, h4⟩ := h
    rw [tu_eq h3, tu_eq h4]
  | .nil, .cons .., h => by simp [sameFo] at h
  | .cons .., .nil, h => by simp [sameFo] at h
theorem tu_refl : ∀ f : Fo, sameFo f f = true
  | .nil => rfl
  | .cons _ _ k r => by simp [sameFo, tu_refl k, tu_refl r]
theorem text_same {op n op2 n2 : Int} {k k2 : Fo} (h1 : nodeIs op n k (firstS 8) = true) (h2 : nodeIs op2 n2 k2 (firstS 8) = true) : decide (fmtL op n k = fmtL op2 n2 k2) = sameN op n k op2 n2 k2 := by
  rw [Bool.eq_iff_iff, decide_eq_true_iff]
  unfold fmtL
  rw [if_pos h1, if_pos h2]
  constructor
  · intro h
    obtain ⟨rfl, rfl, rfl⟩ := txt_inj h1 h2 h
    simp [sameN, tu_refl]
  · intro h
    simp only [sameN, Bool.and_eq_true, decide_eq_true_iff] at h
    obtain ⟨⟨rfl, rfl⟩, h3⟩ := h
    rw [tu_eq h3]

set_option maxHeartbeats 4000000 in
theorem law_NTextUnique (bs bs2 : List Nat) (A : Option Addr) (c : Nat) (A2 : Option Addr) (c2 : Nat) (w : World) (hl : LiesY w 0 w.heap.size A bs) (hlc : bs.length ≤ c) (hc : c ≤ maxLen)
    (hl2 : LiesY w 0 w.heap.size A2 bs2) (hlc2 : bs2.length ≤ c2) (hc2 : c2 ≤ maxLen) :
    Calls Try.prog 3 #[.slice A bs.length c, .slice A2 bs2.length c2] w (Gives (.bool true) w) := by
  have HC := Lib.hid (drawFormat_any A c bs w hl hlc hc)
  have HY2 := Lib.hid hl2
  have HL2 := Lib.hid hlc2
  have HM2 := Lib.hid hc2
  unfold maxLen at hc hc2
  by_cases hsz : bs.length ≤ 1048576
  rotate_left
  · have hgt : 1048576 < bs.length := by omega
    clear hl hl2
    go_enter Try.func3, Try.ntmps3
    go_wp2_with fail
    go_ret
    exact ⟨rfl, Below.refl _ _⟩
  by_cases hsz2 : bs2.length ≤ 1048576
  rotate_left
  · have hgt : 1048576 < bs2.length := by omega
    clear hl hl2
    go_enter Try.func3, Try.ntmps3
    go_wp2_with fail
    go_ret
    exact ⟨rfl, Below.refl _ _⟩
  clear hl hl2
  go_enter Try.func3, Try.ntmps3
  go_wp2_with fail
  refine HC.out.mono ?_
  rintro e w1 ⟨op, n, k, X, cx, rfl, ⟨bl, hi, ht, hs⟩, hb⟩
  obtain ⟨_, _, hX, hk1, hk2⟩ := ht.slice
  injection hX with hX1 hX2 hX3
  subst hX3
  obtain ⟨W, hW⟩ : ∃ W, W = w1.alloc (Obj.cells #[.int .i64 op, .int .i64 n, .slice X k.len cx] 25) := ⟨_, rfl⟩
  have hbW : Below w1.heap.size w1 W := by rw [hW]; exact (Below.refl _ _).alloc (Nat.le_refl _) _
  have HX := Lib.hid (show Row W w1.heap.size 25 #[.int .i64 op, .int .i64 n, .slice X k.len cx] by rw [hW]; exact Row.fresh _ _ _)
  have HH := Lib.hid ((ht.held).up hbW)
  have hbb := hb.trans (hbW.mono hb.size)
  have HB := Lib.hid hbb
  have HC2 := Lib.hid (drawFormat_any A2 c2 bs2 W ((HY2.out.below hbb).keep (Nat.le_refl _) hbb.size fun _ _ _ => rfl) HL2.out HM2.out)
  have HI := Lib.hid hi
  clear hb hbb hbW ht hX1 HC HY2 hi
  go_upto_region 4 with fail
  rw [← hW]
  clear hW
  go_wp2_with fail
  refine HC2.out.mono ?_
  rintro e w2 ⟨op2, n2, k2, X2, cx2, rfl, ⟨bl2, hi2, ht2, hs2⟩, hb2⟩
  obtain ⟨_, _, hX2, hk21, hk22⟩ := ht2.slice
  injection hX2 with hX21 hX22 hX23
  subst hX23
  obtain ⟨V, hV⟩ : ∃ V, V = w2.alloc (Obj.cells #[.int .i64 op2, .int .i64 n2, .slice X2 k2.len cx2] 25) := ⟨_, rfl⟩
  have hbV : Below w2.heap.size w2 V := by rw [hV]; exact (Below.refl _ _).alloc (Nat.le_refl _) _
  have HX2 := Lib.hid (show Row V w2.heap.size 25 #[.int .i64 op2, .int .i64 n2, .slice X2 k2.len cx2] by rw [hV]; exact Row.fresh _ _ _)
  have HH2 := Lib.hid ((ht2.held).up hbV)
  have hbb := hb2.trans (hbV.mono hb2.size)
  have hx1 := HX.out.below hbb HX.out.size
  have HX1 := Lib.hid hx1
  have HH1 := Lib.hid (HH.out.up hbb)
  have HB1 := Lib.hid (HB.out.trans (hbb.mono HB.out.size))
  have HI2 := Lib.hid hi2
  have FE := Lib.hid (show ∀ U, Below V.heap.size V U → (U.cell? ⟨w1.heap.size, 0, none⟩ = some (Value.int .i64 op) ∧ U.cell? ⟨w1.heap.size, 1, none⟩ = some (Value.int .i64 n) ∧ U.cell? ⟨w1.heap.size, 2, none⟩ = some (Value.slice X k.len cx) ∧ U.cell? ⟨w2.heap.size, 0, none⟩ = some (Value.int .i64 op2) ∧ U.cell? ⟨w2.heap.size, 1, none⟩ = some (Value.int .i64 n2) ∧ U.cell? ⟨w2.heap.size, 2, none⟩ = some (Value.slice X2 k2.len cx2)) ∧ Held U U.heap.size X k ∧ Held U U.heap.size X2 k2 ∧ Below w.heap.size w U from fun U hU => by
    have g1 := HX1.out.below hU HX1.out.size
    have g2 := HX2.out.below hU HX2.out.size
    exact ⟨⟨g1.cell rfl, g1.cell rfl, g1.cell rfl, g2.cell rfl, g2.cell rfl, g2.cell rfl⟩, HH1.out.up hU, HH2.out.up hU, HB1.out.trans (hU.mono HB1.out.size)⟩)
  obtain ⟨S1, hS1, hd1a, hd1b⟩ := fmt_empty op n k
  obtain ⟨S2, hS2, hd2a, hd2b⟩ := fmt_empty op2 n2 k2
  have HTS := Lib.hid (show nodeIs op n k (firstS 8) = true → nodeIs op2 n2 k2 (firstS 8) = true → (S1.toList == S2.toList) = sameN op n k op2 n2 k2 from fun g1 g2 => by
    rw [← hS1, ← hS2, ByteArray.toList_mk, ByteArray.toList_mk, ← text_same g1 g2, Bool.eq_iff_iff]
    simp)
  have HF1 := Lib.hid (show ∀ U, Below V.heap.size V U → Calls Try.prog 5 #[.agg #[.int .i64 op, .int .i64 n, .slice X k.len cx]] U (Gives (.string S1) U) from fun U hU => by
    have h := implFmt_t op n k X cx U (FE.out U hU).2.1.1 (Nat.le_trans hk1 hk2)
    rw [hS1] at h
    exact h)
  have HF2 := Lib.hid (show ∀ U, Below V.heap.size V U → Calls Try.prog 5 #[.agg #[.int .i64 op2, .int .i64 n2, .slice X2 k2.len cx2]] U (Gives (.string S2) U) from fun U hU => by
    have h := implFmt_t op2 n2 k2 X2 cx2 U (FE.out U hU).2.2.1.1 (Nat.le_trans hk21 hk22)
    rw [hS2] at h
    exact h)
  have HG1 := Lib.hid (show ∀ U, Below V.heap.size V U → Calls Try.prog 6 #[.agg #[.int .i64 op, .int .i64 n, .slice X k.len cx]] U (Gives (.string S1) U) from fun U hU => by
    have h := specFmt_t op n k X cx U (FE.out U hU).2.1.1 (Nat.le_trans hk1 hk2)
    rw [hS1] at h
    exact h)
  have HG2 := Lib.hid (show ∀ U, Below V.heap.size V U → Calls Try.prog 6 #[.agg #[.int .i64 op2, .int .i64 n2, .slice X2 k2.len cx2]] U (Gives (.string S2) U) from fun U hU => by
    have h := specFmt_t op2 n2 k2 X2 cx2 U (FE.out U hU).2.2.1.1 (Nat.le_trans hk21 hk22)
    rw [hS2] at h
    exact h)
  have HSA := Lib.hid (show ∀ U, Below V.heap.size V U → Calls Try.prog 7 #[.agg #[.int .i64 op, .int .i64 n, .slice X k.len cx], .agg #[.int .i64 op2, .int .i64 n2, .slice X2 k2.len cx2]] U (Gives (.bool (sameN op n k op2 n2 k2)) U) from fun U hU => by
    obtain ⟨-, g1, g2, -⟩ := FE.out U hU
    exact implSame_r op n op2 n2 k k2 X X2 cx cx2 U g1.1 g2.1 0 U.heap.size g1.1 (Nat.le_refl _) g1.rows hk1 hk2 hk21 hk22 (by omega))
  clear hb2 hbb hbV ht2 hX21 HC2 HX HH HB hi2 hx1 HX1 HX2 HH1 HH2 HB1 hS1 hS2
  generalize sameN op n k op2 n2 k2 = sm at HTS HSA
  generalize nodeIs op n k (firstS 8) = z1 at hd1a hd1b HTS
  generalize nodeIs op2 n2 k2 (firstS 8) = z2 at hd2a hd2b HTS
  go_upto_region 5 with fail
  rw [← hV]
  clear hV
  obtain ⟨⟨q0, q1, q2, p0, p1, p2⟩, -⟩ := FE.out V (Below.refl _ _)
  go_wp2_with fail
  refine (HF1.out V (Below.refl _ _)).mono ?_
  rintro e w3 ⟨rfl, hb3⟩
  have HB3 := Lib.hid hb3
  clear hb3 q0 q1 q2 p0 p1 p2
  obtain ⟨⟨q0, q1, q2, p0, p1, p2⟩, -⟩ := FE.out w3 HB3.out
  go_wp2_with fail
  refine (HF2.out w3 HB3.out).mono ?_
  rintro e w4 ⟨rfl, hb4⟩
  have HB4 := Lib.hid (HB3.out.trans (hb4.mono HB3.out.size))
  clear hb4 q0 q1 q2 p0 p1 p2
  have t1 : (S1.toList == S1.toList) = true := by simp
  have t2 : (S2.toList == S2.toList) = true := by simp
  cases z1 with
  | false =>
    have hd1 : S1 = ⟨#[]⟩ := hd1a rfl
    clear hd1a hd1b hd2a hd2b HTS
    subst hd1
    obtain ⟨⟨q0, q1, q2, p0, p1, p2⟩, -⟩ := FE.out w4 HB4.out
    go_wp2_with fail
    refine (HG1.out w4 HB4.out).mono ?_
    rintro e w5 ⟨rfl, hb5⟩
    have HB5 := Lib.hid (HB4.out.trans (hb5.mono HB4.out.size))
    clear hb5 q0 q1 q2 p0 p1 p2
    obtain ⟨⟨q0, q1, q2, p0, p1, p2⟩, -⟩ := FE.out w5 HB5.out
    go_wp2_with fail
    refine (HG2.out w5 HB5.out).mono ?_
    rintro e w6 ⟨rfl, hb6⟩
    have HB6 := Lib.hid (HB5.out.trans (hb6.mono HB5.out.size))
    clear hb6 q0 q1 q2 p0 p1 p2
    obtain ⟨⟨q0, q1, q2, p0, p1, p2⟩, -⟩ := FE.out w6 HB6.out
    have HBW := Lib.hid (FE.out w6 HB6.out).2.2.2
    go_wp2_with fail
    go_ret
    exact ⟨by simp, HBW.out⟩
  | true =>
    have hd1x : ¬ S1.toList = [] := hd1b rfl
    have hd1y : (S1.toList == ([] : List UInt8)) = false := by simpa using hd1x
    clear hd1a hd1b
    cases z2 with
    | false =>
      have hd2 : S2 = ⟨#[]⟩ := hd2a rfl
      clear hd2a hd2b HTS
      subst hd2
      obtain ⟨⟨q0, q1, q2, p0, p1, p2⟩, -⟩ := FE.out w4 HB4.out
      go_wp2_with fail
      refine (HG1.out w4 HB4.out).mono ?_
      rintro e w5 ⟨rfl, hb5⟩
      have HB5 := Lib.hid (HB4.out.trans (hb5.mono HB4.out.size))
      clear hb5 q0 q1 q2 p0 p1 p2
      obtain ⟨⟨q0, q1, q2, p0, p1, p2⟩, -⟩ := FE.out w5 HB5.out
      go_wp2_with fail
      refine (HG2.out w5 HB5.out).mono ?_
      rintro e w6 ⟨rfl, hb6⟩
      have HB6 := Lib.hid (HB5.out.trans (hb6.mono HB5.out.size))
      clear hb6 q0 q1 q2 p0 p1 p2
      obtain ⟨⟨q0, q1, q2, p0, p1, p2⟩, -⟩ := FE.out w6 HB6.out
      have HBW := Lib.hid (FE.out w6 HB6.out).2.2.2
      go_wp2_with fail
      go_ret
      exact ⟨by simp, HBW.out⟩
    | true =>
      have hd2x : ¬ S2.toList = [] := hd2b rfl
      have hd2y : (S2.toList == ([] : List UInt8)) = false := by simpa using hd2x
      have hts : (S1.toList == S2.toList) = sm := HTS.out rfl rfl
      clear hd2a hd2b HTS
      obtain ⟨⟨q0, q1, q2, p0, p1, p2⟩, -⟩ := FE.out w4 HB4.out
      go_wp2_with fail
      refine (HG1.out w4 HB4.out).mono ?_
      rintro e w5 ⟨rfl, hb5⟩
      have HB5 := Lib.hid (HB4.out.trans (hb5.mono HB4.out.size))
      clear hb5 q0 q1 q2 p0 p1 p2
      obtain ⟨⟨q0, q1, q2, p0, p1, p2⟩, -⟩ := FE.out w5 HB5.out
      go_wp2_with fail
      refine (HG2.out w5 HB5.out).mono ?_
      rintro e w6 ⟨rfl, hb6⟩
      have HB6 := Lib.hid (HB5.out.trans (hb6.mono HB5.out.size))
      clear hb6 q0 q1 q2 p0 p1 p2
      obtain ⟨⟨q0, q1, q2, p0, p1, p2⟩, -⟩ := FE.out w6 HB6.out
      have HBW := Lib.hid (FE.out w6 HB6.out).2.2.2
      go_wp2_with fail
      refine (HSA.out w6 HB6.out).mono ?_
      rintro e w7 ⟨rfl, hb7⟩
      have HB7 := Lib.hid (HB6.out.trans (hb7.mono HB6.out.size))
      clear hb7 q0 q1 q2 p0 p1 p2 HBW
      have HBW := Lib.hid (FE.out w7 HB7.out).2.2.2
      go_wp2_with fail
      go_ret
      exact ⟨by simp, HBW.out⟩
end Go.Proofs.Ytnlpcfcoipnnaaa
