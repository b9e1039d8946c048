/-
  spec.SameNames.
-/
import Derived.Test.YtkdjjkkcejijnaaNamesD
import Derived.Test.YtkdjjkkcejijnaaAlike
import Derived.Test.YtkdjjkkcejijnaaOpen
namespace Go.Proofs.Ytkdjjkkcejijnaa
open Go.RowKit Go.Shelf
set_option maxRecDepth 100000

set_option maxHeartbeats 2000000 in
theorem specNames_any (op n op2 n2 : Int) (k k2 : Fo) (A A2 : Option Addr) (c c2 : Nat) (w : World) (hl : Lies w 0 w.heap.size A 0 k) (hl2 : Lies w 0 w.heap.size A2 0 k2) (hlen : k.len ≤ maxLen) (hlen2 : k2.len ≤ maxLen) :
    Calls Try.prog 15 #[.agg #[.int .i64 op, .int .i64 n, .slice A k.len c], .agg #[.int .i64 op2, .int .i64 n2, .slice A2 k2.len c2]] w (Gives (.bool (namesB op n k op2 n2 k2)) w) := by
  obtain ⟨hb, r1, r2⟩ := two_boxes w 25 25 #[Value.int IntKind.i64 op, Value.int IntKind.i64 n, Value.slice A k.len c] #[Value.int IntKind.i64 op2, Value.int IntKind.i64 n2, Value.slice A2 k2.len c2]
  have HX1 := Lib.hid r1
  have HX2 := Lib.hid r2
  have HB := Lib.hid hb
  have HL := Lib.hid (hl.up hb)
  have HL2 := Lib.hid (hl2.up hb)
  have HA := Lib.hid (l1Any_any op n k A c _ (hl.up hb) hlen)
  clear r1 r2 hb hl hl2
  unfold namesB
  cases ha : nodeIs op n k (firstS 8) with
  | false =>
    rw [ha] at HA
    rw [Bool.false_and, Bool.false_and]
    clear ha
    go_enter Try.func15, Try.ntmps15
    go_wp2_with fail
    refine HA.out.mono ?_
    rintro e w1 ⟨rfl, hb1⟩
    have HB1 := Lib.hid (HB.out.trans (hb1.mono HB.out.size))
    clear hb1
    go_wp2
    go_ret
    exact ⟨rfl, HB1.out⟩
  | true =>
    rw [ha] at HA
    rw [Bool.true_and]
    have HV1 := Lib.hid ha
    clear ha
    go_enter Try.func15, Try.ntmps15
    go_wp2_with fail
    refine HA.out.mono ?_
    rintro e w1 ⟨rfl, hb1⟩
    have HB1 := Lib.hid (HB.out.trans (hb1.mono HB.out.size))
    have HY1 := Lib.hid (HX1.out.below hb1 HX1.out.size)
    have HY2 := Lib.hid (HX2.out.below hb1 HX2.out.size)
    have HM := Lib.hid (HL.out.up hb1)
    have HM2 := Lib.hid (HL2.out.up hb1)
    clear hb1 HA HX1 HX2 HL HL2 HB
    have q0 := HY2.out.cell (i := 0) rfl
    have q1 := HY2.out.cell (i := 1) rfl
    have q2 := HY2.out.cell (i := 2) rfl
    have HA2 := Lib.hid (l1Any_any op2 n2 k2 A2 c2 w1 HM2.out hlen2)
    cases ha2 : nodeIs op2 n2 k2 (firstS 8) with
    | false =>
      rw [ha2] at HA2
      have HVF := Lib.hid ha2
      clear ha2
      go_wp2_with fail
      refine HA2.out.mono ?_
      rintro e w2 ⟨rfl, hb2⟩
      have HB2 := Lib.hid (HB1.out.trans (hb2.mono HB1.out.size))
      clear hb2
      go_wp2
      go_ret
      exact ⟨by first | rfl | (rw [HVF.out]; rfl), HB2.out⟩
    | true =>
      rw [ha2] at HA2
      have HV2 := Lib.hid ha2
      clear ha2
      go_wp2_with fail
      refine HA2.out.mono ?_
      rintro e w2 ⟨rfl, hb2⟩
      have HB2 := Lib.hid (HB1.out.trans (hb2.mono HB1.out.size))
      have hz1 := HY1.out.below hb2 HY1.out.size
      have hz2 := HY2.out.below hb2 HY2.out.size
      have HN := Lib.hid (HM.out.up hb2)
      have HN2 := Lib.hid (HM2.out.up hb2)
      clear hb2 HA2 HY1 HY2 HM HM2 q0 q1 q2
      have p0 := hz1.cell (i := 0) rfl
      have p1 := hz1.cell (i := 1) rfl
      have p2 := hz1.cell (i := 2) rfl
      have q0 := hz2.cell (i := 0) rfl
      have q1 := hz2.cell (i := 1) rfl
      have q2 := hz2.cell (i := 2) rfl
      clear hz1 hz2
      obtain ⟨z, hz⟩ : ∃ z, z = alikeN op n k op2 n2 k2 [] [] := ⟨_, rfl⟩
      have HZ := Lib.hid hz
      clear hz
      have hb5 : Below w2.heap.size w2 ((w2.alloc (Obj.cells #[] 3)).alloc (Obj.cells #[] 3)) := ((Below.refl _ _).alloc (Nat.le_refl _) _).alloc (by simp) _
      have HC := Lib.hid (alike_any k.size op n op2 n2 k k2 A A2 c c2 [] [] (some ⟨w2.heap.size, 0, none⟩) (some ⟨w2.heap.size + 1, 0, none⟩) 0 0 _ rfl (HN.out.up hb5) (HN2.out.up hb5) (fun i x h => by simp at h) (fun i x h => by simp at h)
        (by have := small_is HV1.out; simp only [List.length_nil]; omega) rfl (node_i64 HV1.out).2 (node_i64 HV2.out).2)
      have HB5 := Lib.hid hb5
      unfold AlikeC at HC
      simp only [List.length_nil, List.reverse_nil] at HC
      rw [← HZ.out] at HC
      clear hb5
      go_wp2_with fail
      refine HC.out.mono ?_
      rintro e w3 ⟨rfl, hb3⟩
      have HB3 := Lib.hid (HB2.out.trans ((HB5.out.trans (hb3.mono HB5.out.size)).mono HB2.out.size))
      clear hb3 p0 p1 p2 q0 q1 q2
      go_wp2
      go_ret
      exact ⟨by first | rfl | (rw [HV2.out, HZ.out]; rfl), HB3.out⟩
end Go.Proofs.Ytkdjjkkcejijnaa
