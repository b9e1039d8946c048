/-
  impl.SameNames.
-/
import Derived.Test.YtkdjjkkcejijnaaNamesD
import Derived.Test.YtkdjjkkcejijnaaNameless
import Derived.Test.YtkdjjkkcejijnaaRenI
import Derived.Test.YtkdjjkkcejijnaaOpen
import Derived.Test.YtkdjjkkcejijnaaISame
import Derived.Test.YtkdjjkkcejijnaaTree
import Derived.Deep.RegionWith
namespace Go.Proofs.Ytkdjjkkcejijnaa
open Go.RowKit Go.Shelf
set_option maxRecDepth 100000

/-- ExprSame of the two renumbered trees says whether the trees are alike. -/
theorem names_same {op n op2 n2 : Int} {k k2 : Fo} {w : World} {A A2 : Option Addr} {c c2 : Nat} {base base2 : Nat} {b b2 : List Nat} (h1 : nodeIs op n k (firstS 8) = true) (h2 : nodeIs op2 n2 k2 (firstS 8) = true)
    (t1 : Tree w base (.slice A (renF op n 0 nu8 8 k).len c) (renF op n 0 nu8 8 k) b) (t2 : Tree w base2 (.slice A2 (renF op2 n2 0 nu8 8 k2).len c2) (renF op2 n2 0 nu8 8 k2) b2) :
    Calls Try.prog 22 #[.agg #[.int .i64 op, .int .i64 (renM op n nu8 8), .slice A (renF op n 0 nu8 8 k).len c], .agg #[.int .i64 op2, .int .i64 (renM op2 n2 nu8 8), .slice A2 (renF op2 n2 0 nu8 8 k2).len c2]] w
      (Gives (.bool (alikeN op n k op2 n2 k2 [] [])) w) := by
  rw [alike_node (names_is h1).1 (names_is h1).2 (names_is h2).1 (names_is h2).2 (lets_is h1).1 (lets_is h1).2 (lets_is h2).2]
  obtain ⟨A1, c1, e1, i1, i2⟩ := t1.slice
  obtain ⟨A3, c3, e3, i3, i4⟩ := t2.slice
  injection e1 with _ _ e1
  injection e3 with _ _ e3
  subst e1 e3
  have l1 : Lies w 0 w.heap.size A 0 (renF op n 0 nu8 8 k) := (t1.lies fun x hx => (t1.lt x hx).2).mono_ (Nat.zero_le _) (Nat.le_refl _)
  have l2 : Lies w 0 w.heap.size A2 0 (renF op2 n2 0 nu8 8 k2) := (t2.lies fun x hx => (t2.lt x hx).2).mono_ (Nat.zero_le _) (Nat.le_refl _)
  have hs : smallOk (renF op n 0 nu8 8 k) 14 80 = true := by
    rw [ren_small]
    rw [nodeIs_eq, Bool.and_eq_true] at h1
    exact h1.1
  exact implSame_r _ _ _ _ _ _ A A2 c c2 w l1 l2 0 w.heap.size l1 (Nat.le_refl _) (RowsIf.small hs) i1 i2 i3 i4 (by rw [renF_size]; have := small_is h1; omega)

set_option maxHeartbeats 4000000 in
theorem implNames_any (op n op2 n2 : Int) (k k2 : Fo) (A A2 : Option Addr) (c c2 : Nat) (w : World) (hl : Lies w 0 w.heap.size A 0 k) (hl2 : Lies w 0 w.heap.size A2 0 k2) (hlen : k.len ≤ maxLen) (hlen2 : k2.len ≤ maxLen) :
    Calls Try.prog 14 #[.agg #[.int .i64 op, .int .i64 n, .slice A k.len c], .agg #[.int .i64 op2, .int .i64 n2, .slice A2 k2.len c2]] w (Gives (.bool (namesB op n k op2 n2 k2)) w) := by
  obtain ⟨hb, r1, r2⟩ := two_boxes w 25 25 #[Value.int IntKind.i64 op, Value.int IntKind.i64 n, Value.slice A k.len c] #[Value.int IntKind.i64 op2, Value.int IntKind.i64 n2, Value.slice A2 k2.len c2]
  obtain ⟨W, hW⟩ : ∃ W, W = (w.alloc (Obj.cells #[Value.int IntKind.i64 op, Value.int IntKind.i64 n, Value.slice A k.len c] 25)).alloc (Obj.cells #[Value.int IntKind.i64 op2, Value.int IntKind.i64 n2, Value.slice A2 k2.len c2] 25) := ⟨_, rfl⟩
  rw [← hW] at hb r1 r2
  have HX1 := Lib.hid r1.drew
  have HX2 := Lib.hid r2.drew
  have HB := Lib.hid hb.drew
  have HL := Lib.hid (hl.up hb.drew)
  have HL2 := Lib.hid (hl2.up hb.drew)
  have HA := Lib.hid (validOpen_any op n k A c _ (hl.up hb.drew) hlen)
  clear r1 r2 hb hl hl2
  have p0 : W.drew.cell? ⟨w.heap.size, 0, none⟩ = some (.int .i64 op) := HX1.out.cell (i := 0) rfl
  have p1 : W.drew.cell? ⟨w.heap.size, 1, none⟩ = some (.int .i64 n) := HX1.out.cell (i := 1) rfl
  have p2 : W.drew.cell? ⟨w.heap.size, 2, none⟩ = some (.slice A k.len c) := HX1.out.cell (i := 2) rfl
  unfold namesB
  cases ha : nodeIs op n k (firstS 8) with
  | false =>
    rw [ha] at HA
    rw [Bool.false_and, Bool.false_and]
    clear ha
    go_enter Try.func14, Try.ntmps14
    go_wp2_with fail
    rw [← hW]
    clear hW
    first
      | (go_region_with (first
          | (go_at_call 29
             refine HA.out.mono ?_
             rintro e w1 ⟨rfl, hb1⟩
             have HB1 := Lib.hid (HB.out.trans (hb1.mono HB.out.size))
             clear hb1)))
      | fail
    all_goals
      go_wp2
      go_ret
      exact ⟨rfl, HB1.out⟩
  | true =>
    rw [ha] at HA
    have HV1 := Lib.hid ha
    have HZ1 := Lib.hid HX1.out.size
    have HZ2 := Lib.hid HX2.out.size
    clear ha
    have q0 : W.drew.cell? ⟨w.heap.size + 1, 0, none⟩ = some (.int .i64 op2) := HX2.out.cell (i := 0) rfl
    have q1 : W.drew.cell? ⟨w.heap.size + 1, 1, none⟩ = some (.int .i64 n2) := HX2.out.cell (i := 1) rfl
    have q2 : W.drew.cell? ⟨w.heap.size + 1, 2, none⟩ = some (.slice A2 k2.len c2) := HX2.out.cell (i := 2) rfl
    cases ha2 : nodeIs op2 n2 k2 (firstS 8) with
    | false =>
      have HV2 := Lib.hid ha2
      clear ha2
      go_enter Try.func14, Try.ntmps14
      go_wp2_with fail
      rw [← hW]
      clear hW
      first
        | (go_region_with (first
            | (go_at_call 29
               first
               | (refine (validOpen_any op2 n2 k2 A2 c2 w1 HL12.out hlen2).mono ?_
                  rintro e w2 ⟨rfl, hb2⟩
                  have HB2 := Lib.hid (HB1.out.trans (hb2.mono HB1.out.size))
                  rw [HV2.out]
                  clear hb2)
               | (refine HA.out.mono ?_
                  rintro e w1 ⟨rfl, hb1⟩
                  have v0 : w1.cell? ⟨w.heap.size + 1, 0, none⟩ = some (.int .i64 op2) := (hb1.cell (p := ⟨w.heap.size + 1, 0, none⟩) HZ2.out).trans q0
                  have v1 : w1.cell? ⟨w.heap.size + 1, 1, none⟩ = some (.int .i64 n2) := (hb1.cell (p := ⟨w.heap.size + 1, 1, none⟩) HZ2.out).trans q1
                  have v2 : w1.cell? ⟨w.heap.size + 1, 2, none⟩ = some (.slice A2 k2.len c2) := (hb1.cell (p := ⟨w.heap.size + 1, 2, none⟩) HZ2.out).trans q2
                  have u0 : w1.cell? ⟨w.heap.size, 0, none⟩ = some (.int .i64 op) := (hb1.cell (p := ⟨w.heap.size, 0, none⟩) HZ1.out).trans p0
                  have u1 : w1.cell? ⟨w.heap.size, 1, none⟩ = some (.int .i64 n) := (hb1.cell (p := ⟨w.heap.size, 1, none⟩) HZ1.out).trans p1
                  have u2 : w1.cell? ⟨w.heap.size, 2, none⟩ = some (.slice A k.len c) := (hb1.cell (p := ⟨w.heap.size, 2, none⟩) HZ1.out).trans p2
                  have HB1 := Lib.hid (HB.out.trans (hb1.mono HB.out.size))
                  have HZ11 := Lib.hid (Nat.lt_of_lt_of_le HZ1.out hb1.size)
                  have HZ12 := Lib.hid (Nat.lt_of_lt_of_le HZ2.out hb1.size)
                  have HL11 := Lib.hid (HL.out.up hb1)
                  have HL12 := Lib.hid (HL2.out.up hb1)
                  clear hb1)
               | fail)))
        | fail
      all_goals
        go_wp2
        go_ret
        exact ⟨by first | rfl | (rw [HV2.out]; rfl), HB2.out⟩
    | true =>
      have HV2 := Lib.hid ha2
      clear ha2
      generalize hzz : alikeN op n k op2 n2 k2 [] [] = z
      have HZZ := Lib.hid hzz
      clear hzz
      go_enter Try.func14, Try.ntmps14
      go_wp2_with fail
      rw [← hW]
      clear hW
      first
        | (go_region_with (first
            | (go_at_call 29
               first
               | (refine (validOpen_any op2 n2 k2 A2 c2 w1 HL12.out hlen2).mono ?_
                  rintro e w2 ⟨rfl, hb2⟩
                  rw [HV2.out]
                  have y0 : w2.cell? ⟨w.heap.size + 1, 0, none⟩ = some (.int .i64 op2) := (hb2.cell (p := ⟨w.heap.size + 1, 0, none⟩) HZ12.out).trans v0
                  have y1 : w2.cell? ⟨w.heap.size + 1, 1, none⟩ = some (.int .i64 n2) := (hb2.cell (p := ⟨w.heap.size + 1, 1, none⟩) HZ12.out).trans v1
                  have y2 : w2.cell? ⟨w.heap.size + 1, 2, none⟩ = some (.slice A2 k2.len c2) := (hb2.cell (p := ⟨w.heap.size + 1, 2, none⟩) HZ12.out).trans v2
                  have x0 : w2.cell? ⟨w.heap.size, 0, none⟩ = some (.int .i64 op) := (hb2.cell (p := ⟨w.heap.size, 0, none⟩) HZ11.out).trans u0
                  have x1 : w2.cell? ⟨w.heap.size, 1, none⟩ = some (.int .i64 n) := (hb2.cell (p := ⟨w.heap.size, 1, none⟩) HZ11.out).trans u1
                  have x2 : w2.cell? ⟨w.heap.size, 2, none⟩ = some (.slice A k.len c) := (hb2.cell (p := ⟨w.heap.size, 2, none⟩) HZ11.out).trans u2
                  have HB2 := Lib.hid (HB1.out.trans (hb2.mono HB1.out.size))
                  have HZ22 := Lib.hid (Nat.lt_of_lt_of_le HZ12.out hb2.size)
                  have HL21 := Lib.hid (HL11.out.up hb2)
                  have HL22 := Lib.hid (HL12.out.up hb2)
                  clear hb2)
               | (refine HA.out.mono ?_
                  rintro e w1 ⟨rfl, hb1⟩
                  have v0 : w1.cell? ⟨w.heap.size + 1, 0, none⟩ = some (.int .i64 op2) := (hb1.cell (p := ⟨w.heap.size + 1, 0, none⟩) HZ2.out).trans q0
                  have v1 : w1.cell? ⟨w.heap.size + 1, 1, none⟩ = some (.int .i64 n2) := (hb1.cell (p := ⟨w.heap.size + 1, 1, none⟩) HZ2.out).trans q1
                  have v2 : w1.cell? ⟨w.heap.size + 1, 2, none⟩ = some (.slice A2 k2.len c2) := (hb1.cell (p := ⟨w.heap.size + 1, 2, none⟩) HZ2.out).trans q2
                  have u0 : w1.cell? ⟨w.heap.size, 0, none⟩ = some (.int .i64 op) := (hb1.cell (p := ⟨w.heap.size, 0, none⟩) HZ1.out).trans p0
                  have u1 : w1.cell? ⟨w.heap.size, 1, none⟩ = some (.int .i64 n) := (hb1.cell (p := ⟨w.heap.size, 1, none⟩) HZ1.out).trans p1
                  have u2 : w1.cell? ⟨w.heap.size, 2, none⟩ = some (.slice A k.len c) := (hb1.cell (p := ⟨w.heap.size, 2, none⟩) HZ1.out).trans p2
                  have HB1 := Lib.hid (HB.out.trans (hb1.mono HB.out.size))
                  have HZ11 := Lib.hid (Nat.lt_of_lt_of_le HZ1.out hb1.size)
                  have HZ12 := Lib.hid (Nat.lt_of_lt_of_le HZ2.out hb1.size)
                  have HL11 := Lib.hid (HL.out.up hb1)
                  have HL12 := Lib.hid (HL2.out.up hb1)
                  clear hb1)
               | fail)
            | (go_at_call 34
               first
               | (refine (nameless_any op2 n2 k2 A2 c2 w3 HL32.out (by have := small_is HV2.out; omega) (node_i64 HV2.out) (names_is HV2.out).1 (names_is HV2.out).2 (fun w9 h9 => ren_any k2.size op2 n2 k2 A2 c2 nu8 8 w9 rfl h9 (by have := small_is HV2.out; omega) (node_i64 HV2.out) nu8_small (names_is HV2.out).1 (names_is HV2.out).2)).mono ?_
                  rintro e w4 ⟨A4, c4, b4, rfl, ht4, hb4⟩
                  have HT4 := Lib.hid ht4
                  have HT34 := Lib.hid (HT3.out.over hb4)
                  have HB4 := Lib.hid (HB3.out.trans (hb4.mono HB3.out.size))
                  clear hb4 ht4)
               | (refine (nameless_any op n k A c w2 HL21.out (by have := small_is HV1.out; omega) (node_i64 HV1.out) (names_is HV1.out).1 (names_is HV1.out).2 (fun w9 h9 => ren_any k.size op n k A c nu8 8 w9 rfl h9 (by have := small_is HV1.out; omega) (node_i64 HV1.out) nu8_small (names_is HV1.out).1 (names_is HV1.out).2)).mono ?_
                  rintro e w3 ⟨A3, c3, b3, rfl, ht3, hb3⟩
                  have s0 : w3.cell? ⟨w.heap.size + 1, 0, none⟩ = some (.int .i64 op2) := (hb3.cell (p := ⟨w.heap.size + 1, 0, none⟩) HZ22.out).trans y0
                  have s1 : w3.cell? ⟨w.heap.size + 1, 1, none⟩ = some (.int .i64 n2) := (hb3.cell (p := ⟨w.heap.size + 1, 1, none⟩) HZ22.out).trans y1
                  have s2 : w3.cell? ⟨w.heap.size + 1, 2, none⟩ = some (.slice A2 k2.len c2) := (hb3.cell (p := ⟨w.heap.size + 1, 2, none⟩) HZ22.out).trans y2
                  have HT3 := Lib.hid ht3
                  have HB3 := Lib.hid (HB2.out.trans (hb3.mono HB2.out.size))
                  have HL32 := Lib.hid (HL22.out.up hb3)
                  clear hb3 ht3)
               | fail)
            | (go_at_call 22
               refine (names_same HV1.out HV2.out HT34.out HT4.out).mono ?_
               rintro e w5 ⟨rfl, hb5⟩
               have HB5 := Lib.hid (HB4.out.trans (hb5.mono HB4.out.size))
               clear hb5
               rw [HZZ.out])))
        | fail
      all_goals
        go_wp2
        go_ret
        exact ⟨by first | rfl | (rw [HV2.out]; rfl), HB5.out⟩
end Go.Proofs.Ytkdjjkkcejijnaa
