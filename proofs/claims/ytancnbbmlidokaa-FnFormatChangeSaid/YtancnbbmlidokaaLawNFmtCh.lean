/-
  The walk of the law FnFormatChange: true at every input.
-/
import Derived.Test.YtancnbbmlidokaaDrawFC
import Derived.Test.YtancnbbmlidokaaFmtChI
namespace Go.Proofs.Ytancnbbmlidokaa
open Go.RowKit Go.Shelf
set_option maxRecDepth 100000

theorem fmtCh_fit {k n : Int} (h : (fmtCh k n).isEmpty = false) : (1 ≤ k ∧ k ≤ 6) ∧ 0 ≤ n ∧ n < 8 := by
  by_cases hc : (1 ≤ k ∧ k ≤ 6) ∧ 0 ≤ n ∧ n < 8
  · exact hc
  · rw [fmtCh_bad hc] at h; cases h

set_option maxHeartbeats 2000000 in
theorem law_NFmtCh (bs cs : List Nat) (A : Option Addr) (c : Nat) (B : Option Addr) (d : Nat) (w : World) (hl : LiesY w 0 w.heap.size A bs) (hlc : bs.length ≤ c) (hc : c ≤ maxLen) (hl' : LiesY w 0 w.heap.size B cs) (hlc' : cs.length ≤ d) (hc' : d ≤ maxLen) :
    Calls Try.prog 3 #[.slice A bs.length c, .slice B cs.length d] w (Gives (.bool true) w) := by
  have HC := Lib.hid (drawFC_any A c bs w hl hlc hc)
  have HH := Lib.hid hl'
  have HHC := Lib.hid hc'
  unfold maxLen at hc hc'
  by_cases hsz : bs.length ≤ 1048576
  rotate_left
  · have hgt : 1048576 < bs.length := by omega
    go_enter Try.func3, Try.ntmps3
    go_wp2_with fail
    go_ret
    exact ⟨rfl, Below.refl _ _⟩
  by_cases hsz' : cs.length ≤ 1048576
  rotate_left
  · have hgt : 1048576 < cs.length := by omega
    go_enter Try.func3, Try.ntmps3
    go_wp2_with fail
    go_ret
    exact ⟨rfl, Below.refl _ _⟩
  clear hl hl'
  go_enter Try.func3, Try.ntmps3
  go_wp2_with fail
  refine HC.out.mono ?_
  rintro e w1 ⟨k, n, rfl, hb1⟩
  obtain ⟨W1, hW1⟩ : ∃ W1, W1 = w1.alloc (Obj.cells #[.int .i64 k, .int .i64 n] 24) := ⟨_, rfl⟩
  have hbW : Below w1.heap.size w1 W1 := by rw [hW1]; exact (Below.refl _ _).alloc (Nat.le_refl _) _
  have HX := Lib.hid (show Row W1 w1.heap.size 24 #[.int .i64 k, .int .i64 n] by rw [hW1]; exact Row.fresh _ _ _)
  have HB1 := Lib.hid (hb1.trans (hbW.mono hb1.size))
  have hY1 : LiesY W1 0 W1.heap.size B cs := (HH.out.below HB1.out).keep (Nat.le_refl _) HB1.out.size fun _ _ _ => rfl
  have HC2 := Lib.hid (drawFC_any B d cs W1 hY1 hlc' HHC.out)
  clear hY1 hb1 hbW HC HH HHC
  go_upto_region 4 with fail
  rw [← hW1]
  clear hW1
  go_wp2_with fail
  refine HC2.out.mono ?_
  rintro e w2 ⟨k', n', rfl, hb2⟩
  obtain ⟨W2, hW2⟩ : ∃ W2, W2 = w2.alloc (Obj.cells #[.int .i64 k', .int .i64 n'] 24) := ⟨_, rfl⟩
  have hbW : Below w2.heap.size w2 W2 := by rw [hW2]; exact (Below.refl _ _).alloc (Nat.le_refl _) _
  have HX' := Lib.hid (show Row W2 w2.heap.size 24 #[.int .i64 k', .int .i64 n'] by rw [hW2]; exact Row.fresh _ _ _)
  have hb3 := hb2.trans (hbW.mono hb2.size)
  have HX2 := Lib.hid (HX.out.below hb3 HX.out.size)
  have HB2 := Lib.hid (HB1.out.trans (hb3.mono HB1.out.size))
  clear hb2 hb3 hbW HX HB1 HC2
  go_upto_region 5 with fail
  rw [← hW2]
  clear hW2
  obtain ⟨s, hs⟩ : ∃ s, s = (fmtCh k n).toArray := ⟨_, rfl⟩
  obtain ⟨t, ht⟩ : ∃ t, t = (fmtCh k' n').toArray := ⟨_, rfl⟩
  have HT := Lib.hid (show txt (fmtCh k n) = .string ⟨s⟩ by rw [hs]; rfl)
  have HT' := Lib.hid (show txt (fmtCh k' n') = .string ⟨t⟩ by rw [ht]; rfl)
  have q0 := HX2.out.cell (i := 0) rfl
  have q1 := HX2.out.cell (i := 1) rfl
  have p0 := HX'.out.cell (i := 0) rfl
  have p1 := HX'.out.cell (i := 1) rfl
  have HS := Lib.hid hs
  have HS' := Lib.hid ht
  clear hs ht
  go_wp2_with fail
  refine (implFmtCh_any k n W2).mono ?_
  rintro e w3 ⟨rfl, hb3⟩
  rw [HT.out]
  have hx3 := HX2.out.below hb3 HX2.out.size
  have hx3' := HX'.out.below hb3 HX'.out.size
  have HX3 := Lib.hid hx3
  have HX3' := Lib.hid hx3'
  have HB3 := Lib.hid (HB2.out.trans (hb3.mono HB2.out.size))
  clear q0 q1 p0 p1 HX2 HX' HB2 hb3
  have q0 := hx3.cell (i := 0) rfl
  have q1 := hx3.cell (i := 1) rfl
  have p0 := hx3'.cell (i := 0) rfl
  have p1 := hx3'.cell (i := 1) rfl
  clear hx3 hx3'
  go_wp2_with fail
  refine (implFmtCh_any k' n' w3).mono ?_
  rintro e w4 ⟨rfl, hb3⟩
  rw [HT'.out]
  have hx3 := HX3.out.below hb3 HX3.out.size
  have hx3' := HX3'.out.below hb3 HX3'.out.size
  have HX4 := Lib.hid hx3
  have HX4' := Lib.hid hx3'
  have HB4 := Lib.hid (HB3.out.trans (hb3.mono HB3.out.size))
  clear q0 q1 p0 p1 HX3 HX3' HB3 hb3
  have q0 := hx3.cell (i := 0) rfl
  have q1 := hx3.cell (i := 1) rfl
  have p0 := hx3'.cell (i := 0) rfl
  have p1 := hx3'.cell (i := 1) rfl
  clear hx3 hx3'
  go_wp2_with fail
  refine (specFmtCh_any k n w4).mono ?_
  rintro e w5 ⟨rfl, hb3⟩
  rw [HT.out]
  have hx3 := HX4.out.below hb3 HX4.out.size
  have hx3' := HX4'.out.below hb3 HX4'.out.size
  have HX5 := Lib.hid hx3
  have HX5' := Lib.hid hx3'
  have HB5 := Lib.hid (HB4.out.trans (hb3.mono HB4.out.size))
  clear q0 q1 p0 p1 HX4 HX4' HB4 hb3
  have q0 := hx3.cell (i := 0) rfl
  have q1 := hx3.cell (i := 1) rfl
  have p0 := hx3'.cell (i := 0) rfl
  have p1 := hx3'.cell (i := 1) rfl
  clear hx3 hx3'
  go_wp2_with fail
  refine (specFmtCh_any k' n' w5).mono ?_
  rintro e w6 ⟨rfl, hb3⟩
  rw [HT'.out]
  have hx3 := HX5.out.below hb3 HX5.out.size
  have hx3' := HX5'.out.below hb3 HX5'.out.size
  have HB6 := Lib.hid (HB5.out.trans (hb3.mono HB5.out.size))
  clear q0 q1 p0 p1 HX5 HX5' HB5 hb3
  have q0 := hx3.cell (i := 0) rfl
  have q1 := hx3.cell (i := 1) rfl
  have p0 := hx3'.cell (i := 0) rfl
  have p1 := hx3'.cell (i := 1) rfl
  clear hx3 hx3'
  have ha : (ByteArray.mk s).toList = fmtCh k n := by rw [ByteArray.toList_eq, HS.out]
  have hb : (ByteArray.mk t).toList = fmtCh k' n' := by rw [ByteArray.toList_eq, HS'.out]
  cases ea : (ByteArray.mk s).toList.isEmpty with
  | true =>
    clear ha hb
    go_wp2_with fail
    go_ret
    exact ⟨by simp, HB6.out⟩
  | false =>
  cases eb : (ByteArray.mk t).toList.isEmpty with
  | true =>
    clear ha hb
    go_wp2_with fail
    go_ret
    exact ⟨by simp, HB6.out⟩
  | false =>
  have hk1 := fmtCh_fit (k := k) (n := n) (by rw [← ha]; exact ea)
  have hk2 := fmtCh_fit (k := k') (n := n') (by rw [← hb]; exact eb)
  cases ee : ((ByteArray.mk s).toList == (ByteArray.mk t).toList) with
  | true =>
    have h := fmtCh_inj hk1 hk2 (by rw [← ha, ← hb]; exact eq_of_beq ee)
    obtain ⟨rfl, rfl⟩ := h
    clear ha hb hk1 hk2
    go_wp2_with fail
    go_ret
    exact ⟨by simp, HB6.out⟩
  | false =>
    have h : ¬ (k = k' ∧ n = n') := fun ⟨h1, h2⟩ => by
      rw [ha, hb, h1, h2] at ee
      simp at ee
    clear ha hb hk1 hk2
    by_cases h1 : k = k'
    · have h2 : ¬ n = n' := fun h2 => h ⟨h1, h2⟩
      clear h
      go_wp2_with fail
      go_ret
      exact ⟨by simp, HB6.out⟩
    · clear h
      go_wp2_with fail
      go_ret
      exact ⟨by simp, HB6.out⟩
end Go.Proofs.Ytancnbbmlidokaa
