/-
  (impl.firstSearch).visit.
-/
import Derived.Test.YtiifgkommaeklaaEffD
import Derived.Test.YtiifgkommaeklaaSets
import Derived.Deep.RegionHeld3
namespace Go.Proofs.Ytiifgkommaeklaa
open Go.RowKit Go.Shelf
set_option maxRecDepth 100000

/-- Small, or in plain rows: what stays so for the Kids. -/
def Rr (w : World) (L B : Nat) (k : Fo) : Prop := (k.dep + 1 ≤ 14 ∧ k.size + 1 ≤ 80) ∨ AllRows w L B
theorem Rr.rows {w : World} {L B : Nat} {A : Option Addr} {k : Fo} (h : Rr w L B k) (hl : Lies w L B A 0 k) : RowsIf w B A k := fun hs => by
  rcases h with h | h
  · unfold smallOk at hs; simp at hs; omega
  · exact plain_of h hl
theorem Rr.below {w w' : World} {L B : Nat} {k : Fo} (h : Rr w L B k) (hb : Below w.heap.size w w') (hB : B ≤ w.heap.size) : Rr w' L B k := h.imp id fun h => h.below hb hB
theorem Rr.kid {w : World} {L B : Nat} : ∀ {k : Fo} (j : Nat) {o m : Int} {k1 r : Fo}, Rr w L B k → k.drop j = .cons o m k1 r → Rr w L B k1
  | .nil, 0, _, _, _, _, _, e => by cases e
  | .nil, _ + 1, _, _, _, _, _, e => by cases e
  | .cons _ _ _ _, 0, _, _, _, _, h, e => by
    cases e
    rcases h with h | h
    · simp only [Fo.dep, Fo.size] at h; exact .inl (by omega)
    · exact .inr h
  | .cons _ _ _ r, j + 1, _, _, _, _, h, e => by
    have h2 : Rr w L B r := by
      rcases h with h | h
      · simp only [Fo.dep, Fo.size] at h; exact .inl (by omega)
      · exact .inr h
    exact Rr.kid j h2 e

/-- What visit has to do at smaller trees. -/
def VisOk (T : Nat → Bool) (v : Int) (s L B : Nat) (w : World) : Prop := ∀ (op n : Int) (k : Fo) (A : Option Addr) (c : Nat) (W : World), k.size < s → wellN op n k = true → Below w.heap.size w W → Lies W L B A 0 k → k.len ≤ c → c ≤ maxLen → Rr W L B k →
    Calls Try.prog 51 #[.agg #[.int .i64 v, .bool (T 0), .bool (T 1), .bool (T 2), .bool (T 3), .bool (T 4), .bool (T 5), .bool (T 6), .bool (T 7)], .agg #[.int .i64 op, .int .i64 n, .slice A k.len c]] W (Gives (.int .i64 (ansI T v op n k : Nat)) W)
theorem VisOk.up {T : Nat → Bool} {v : Int} {s L B : Nat} {w w' : World} (h : VisOk T v s L B w) (hb : Below w.heap.size w w') : VisOk T v s L B w' :=
  fun op n k A c W h1 h2 h3 h4 h5 h6 h7 => h op n k A c W h1 h2 (hb.trans (h3.mono hb.size)) h4 h5 h6 h7

theorem behind_le (pq : Int → Bool) (v op n : Int) : behindN pq v op n ≤ 2 := by unfold behindN; split <;> (try split) <;> omega
set_option maxHeartbeats 1000000 in
theorem behindKids_any (T : Nat → Bool) (v op n : Int) (k : Fo) (A : Option Addr) (c : Nat) (w : World) (hw : op = 3 → inVar n = true) :
    Calls Try.prog 76 #[.agg #[.int .i64 v, .bool (T 0), .bool (T 1), .bool (T 2), .bool (T 3), .bool (T 4), .bool (T 5), .bool (T 6), .bool (T 7)], .agg #[.int .i64 op, .int .i64 n, .slice A k.len c]] w (Gives (.int .i64 (behindN (fun n => T n.toNat) v op n : Nat)) w) := by
  obtain ⟨hb2, hr1, hr2⟩ := two_boxes w 82 26 #[Value.int .i64 v, Value.bool (T 0), Value.bool (T 1), Value.bool (T 2), Value.bool (T 3), Value.bool (T 4), Value.bool (T 5), Value.bool (T 6), Value.bool (T 7)] #[.int .i64 op, .int .i64 n, .slice A k.len c]
  have p0 := hr1.cell (i := 0) rfl
  obtain ⟨q0, q1, q2⟩ := hr2.three
  have HB := Lib.hid hb2
  have HR1 := Lib.hid hr1
  clear hb2 hr1 hr2
  by_cases h2 : op = 2
  · subst h2
    by_cases hv : n = v
    · subst hv
      have HF := Lib.hid (show behindN (fun n => T n.toNat) n 2 n = 1 by simp [behindN])
      go_enter Try.func76, Try.ntmps76
      go_wp2
      go_ret
      exact ⟨by rw [HF.out]; rfl, HB.out⟩
    · have HF := Lib.hid (show behindN (fun n => T n.toNat) v 2 n = 0 by simp [behindN, hv])
      have t1 : (n == v) = false := by simpa using hv
      go_enter Try.func76, Try.ntmps76
      go_wp2
      go_ret
      exact ⟨by rw [HF.out]; rfl, HB.out⟩
  · have t2 : (op == 2) = false := by simpa using h2
    by_cases h9 : op = 9
    · subst h9
      have HF := Lib.hid (show behindN (fun n => T n.toNat) v 9 n = 2 by simp [behindN])
      go_enter Try.func76, Try.ntmps76
      go_wp2
      go_ret
      exact ⟨by rw [HF.out]; rfl, HB.out⟩
    · have t9 : (op == 9) = false := by simpa using h9
      by_cases h3 : op = 3
      · subst h3
        obtain ⟨en, e8⟩ := inVar_nat (hw rfl)
        have hc := HR1.out.cell (i := n.toNat + 1) (v := .bool (T n.toNat)) (by
          have := cells8_at T e8
          rcases (show n.toNat = 0 ∨ n.toNat = 1 ∨ n.toNat = 2 ∨ n.toNat = 3 ∨ n.toNat = 4 ∨ n.toNat = 5 ∨ n.toNat = 6 ∨ n.toNat = 7 by omega) with h | h | h | h | h | h | h | h <;> rw [h] <;> rfl)
        generalize hz : n.toNat = z at en e8 hc
        have HZ := Lib.hid hz
        subst en
        clear hz hw
        have e1 : 1 + z = z + 1 := by omega
        have hc2 := hc
        rw [← e1] at hc2
        cases hT : T z with
        | true =>
          rw [hT] at hc hc2
          have HF := Lib.hid (show behindN (fun n => T n.toNat) v 3 (z : Int) = 0 by simp [behindN, hT])
          clear hT
          go_enter Try.func76, Try.ntmps76
          go_wp2
          go_ret
          exact ⟨by rw [HF.out]; rfl, HB.out⟩
        | false =>
          rw [hT] at hc hc2
          have HF := Lib.hid (show behindN (fun n => T n.toNat) v 3 (z : Int) = 2 by simp [behindN, hT])
          clear hT
          go_enter Try.func76, Try.ntmps76
          go_wp2
          go_ret
          exact ⟨by rw [HF.out]; rfl, HB.out⟩
      · have t3 : (op == 3) = false := by simpa using h3
        have HF := Lib.hid (show behindN (fun n => T n.toNat) v op n = 0 by simp [behindN, h2, h9, h3])
        go_enter Try.func76, Try.ntmps76
        go_wp2
        go_ret
        exact ⟨by rw [HF.out]; rfl, HB.out⟩

/-- The cells of a Kid. -/
theorem kid_cells {w : World} {L B : Nat} {A : Option Addr} {k : Fo} {i : Nat} {op n : Int} {k' r : Fo} (hl : Lies w L B A 0 k) (e : k.drop i = .cons op n k' r) : ∃ b o A' c', A = some ⟨b, o, none⟩ ∧ w.cell? ⟨b, o + i * 3, none⟩ = some (.int .i64 op) ∧ w.cell? ⟨b, o + i * 3 + 1, none⟩ = some (.int .i64 n) ∧
    w.cell? ⟨b, o + i * 3 + 2, none⟩ = some (.slice A' k'.len c') ∧ k'.len ≤ c' ∧ c' ≤ maxLen ∧ Lies w L B A' 0 k' ∧ L ≤ b ∧ b < B := by
  have h := hl.at_ i
  rw [Nat.zero_add, e] at h
  obtain ⟨⟨b, o, A', c', hA, h1, h2, _, _, g1, g2, g3, g4, g5, g6⟩, _⟩ := h
  exact ⟨b, o, A', c', hA, g1, g2, g3, g4, g5, g6, h1, h2⟩

set_option maxHeartbeats 4000000 in
theorem visitIf_any (T : Nat → Bool) (v n : Int) (k : Fo) (A : Option Addr) (c L B : Nat) (w : World) (hl : Lies w L B A 0 k) (hB : B ≤ w.heap.size) (hal : Rr w L B k) (hw : wellN 6 n k = true) (hvis : VisOk T v k.size L B w) :
    Calls Try.prog 74 #[.agg #[.int .i64 v, .bool (T 0), .bool (T 1), .bool (T 2), .bool (T 3), .bool (T 4), .bool (T 5), .bool (T 6), .bool (T 7)], .agg #[.int .i64 6, .int .i64 n, .slice A k.len c]] w (Gives (.int .i64 (ansI T v 6 n k : Nat)) w) := by
  have hlen := wellN_if hw
  obtain ⟨o0, m0, k0, e0, s0, _⟩ := Fo.drop_of_lt k 0 (by omega)
  have w0 := well_kid (wellN_kids hw) e0
  obtain ⟨o1, m1, k1, e1, s1, _⟩ := Fo.drop_of_lt k 1 (by omega)
  have w1 := well_kid (wellN_kids hw) e1
  obtain ⟨o2, m2, k2, e2, s2, _⟩ := Fo.drop_of_lt k 2 (by omega)
  have w2 := well_kid (wellN_kids hw) e2
  have HANS := Lib.hid (ans_if (pq := fun n => T n.toNat) (pp := pureW T) (v := v) (n := n) e0 e1 e2)
  rw [hlen]
  obtain ⟨b, o, A0, c0, hA0, g0a, g0b, g0c, h0a, h0b, l0, hLb0, hbB0⟩ := kid_cells hl e0
  obtain ⟨b1, ob1, A1, c1, hA1, g1a, g1b, g1c, h1a, h1b, l1, hLb1, hbB1⟩ := kid_cells hl e1
  obtain ⟨b2, ob2, A2, c2, hA2, g2a, g2b, g2c, h2a, h2b, l2, hLb2, hbB2⟩ := kid_cells hl e2
  subst hA0
  obtain ⟨rfl, rfl⟩ : b = b1 ∧ o = ob1 := by simpa using hA1
  obtain ⟨rfl, rfl⟩ : b = b2 ∧ o = ob2 := by simpa using hA2
  obtain ⟨hb2, hr1, hr2⟩ := two_boxes w 82 26 #[Value.int .i64 v, Value.bool (T 0), Value.bool (T 1), Value.bool (T 2), Value.bool (T 3), Value.bool (T 4), Value.bool (T 5), Value.bool (T 6), Value.bool (T 7)] #[.int .i64 6, .int .i64 n, .slice (some ⟨b, o, none⟩) 3 c]
  have HSS := Lib.hid (fun w' (h : Below w.heap.size w w') (hr1 : Row w' w.heap.size 82 #[Value.int .i64 v, Value.bool (T 0), Value.bool (T 1), Value.bool (T 2), Value.bool (T 3), Value.bool (T 4), Value.bool (T 5), Value.bool (T 6), Value.bool (T 7)]) (hr2 : Row w' (w.heap.size + 1) 26 #[Value.int .i64 6, Value.int .i64 n, Value.slice (some ⟨b, o, none⟩) 3 c]) => show w'.cell? ⟨w.heap.size, 0, none⟩ = some (Value.int .i64 v) ∧ w'.cell? ⟨w.heap.size, 1, none⟩ = some (Value.bool (T 0)) ∧ w'.cell? ⟨w.heap.size, 2, none⟩ = some (Value.bool (T 1)) ∧ w'.cell? ⟨w.heap.size, 3, none⟩ = some (Value.bool (T 2)) ∧ w'.cell? ⟨w.heap.size, 4, none⟩ = some (Value.bool (T 3)) ∧ w'.cell? ⟨w.heap.size, 5, none⟩ = some (Value.bool (T 4)) ∧ w'.cell? ⟨w.heap.size, 6, none⟩ = some (Value.bool (T 5)) ∧ w'.cell? ⟨w.heap.size, 7, none⟩ = some (Value.bool (T 6)) ∧ w'.cell? ⟨w.heap.size, 8, none⟩ = some (Value.bool (T 7)) ∧ w'.cell? ⟨w.heap.size + 1, 2, none⟩ = some (Value.slice (some ⟨b, o, none⟩) 3 c) ∧ w'.cell? ⟨b, o, none⟩ = some (Value.int .i64 o0) ∧ w'.cell? ⟨b, o + 1, none⟩ = some (Value.int .i64 m0) ∧ w'.cell? ⟨b, o + 2, none⟩ = some (Value.slice A0 k0.len c0) ∧ w'.cell? ⟨b, o + 3, none⟩ = some (Value.int .i64 o1) ∧ w'.cell? ⟨b, o + 4, none⟩ = some (Value.int .i64 m1) ∧ w'.cell? ⟨b, o + 5, none⟩ = some (Value.slice A1 k1.len c1) ∧ w'.cell? ⟨b, o + 6, none⟩ = some (Value.int .i64 o2) ∧ w'.cell? ⟨b, o + 7, none⟩ = some (Value.int .i64 m2) ∧ w'.cell? ⟨b, o + 8, none⟩ = some (Value.slice A2 k2.len c2) from
    ⟨hr1.cell (i := 0) rfl, hr1.cell (i := 1) rfl, hr1.cell (i := 2) rfl, hr1.cell (i := 3) rfl, hr1.cell (i := 4) rfl, hr1.cell (i := 5) rfl, hr1.cell (i := 6) rfl, hr1.cell (i := 7) rfl, hr1.cell (i := 8) rfl, hr2.cell (i := 2) rfl, (h.cell (p := ⟨b, o, none⟩) (Nat.lt_of_lt_of_le hbB0 hB)).trans (by simpa using g0a), (h.cell (p := ⟨b, o + 1, none⟩) (Nat.lt_of_lt_of_le hbB0 hB)).trans (by simpa using g0b), (h.cell (p := ⟨b, o + 2, none⟩) (Nat.lt_of_lt_of_le hbB0 hB)).trans (by simpa using g0c), (h.cell (p := ⟨b, o + 3, none⟩) (Nat.lt_of_lt_of_le hbB1 hB)).trans (by simpa using g1a), (h.cell (p := ⟨b, o + 4, none⟩) (Nat.lt_of_lt_of_le hbB1 hB)).trans (by simpa using g1b), (h.cell (p := ⟨b, o + 5, none⟩) (Nat.lt_of_lt_of_le hbB1 hB)).trans (by simpa using g1c), (h.cell (p := ⟨b, o + 6, none⟩) (Nat.lt_of_lt_of_le hbB2 hB)).trans (by simpa using g2a), (h.cell (p := ⟨b, o + 7, none⟩) (Nat.lt_of_lt_of_le hbB2 hB)).trans (by simpa using g2b), (h.cell (p := ⟨b, o + 8, none⟩) (Nat.lt_of_lt_of_le hbB2 hB)).trans (by simpa using g2c)⟩)
  have HV0 := Lib.hid (fun W (h : Below w.heap.size w W) => hvis o0 m0 k0 A0 c0 W (by omega) w0 h (l0.below (h.mono hB)) h0a h0b ((hal.kid 0 e0).below h hB))
  generalize ha0 : ansI T v o0 m0 k0 = a0 at HV0
  have ha02 : ans (fun n => T n.toNat) (pureW T) v o0 m0 k0 = a0 := ha0
  have HV1 := Lib.hid (fun W (h : Below w.heap.size w W) => hvis o1 m1 k1 A1 c1 W (by omega) w1 h (l1.below (h.mono hB)) h1a h1b ((hal.kid 1 e1).below h hB))
  generalize ha1 : ansI T v o1 m1 k1 = a1 at HV1
  have ha12 : ans (fun n => T n.toNat) (pureW T) v o1 m1 k1 = a1 := ha1
  have HV2 := Lib.hid (fun W (h : Below w.heap.size w W) => hvis o2 m2 k2 A2 c2 W (by omega) w2 h (l2.below (h.mono hB)) h2a h2b ((hal.kid 2 e2).below h hB))
  generalize ha2 : ansI T v o2 m2 k2 = a2 at HV2
  have ha22 : ans (fun n => T n.toNat) (pureW T) v o2 m2 k2 = a2 := ha2
  have HF0 := Lib.hid (fun (h : a0 ≠ 0) => show ansI T v 6 n k = a0 by unfold ansI; rw [HANS.out, ha02, if_neg h])
  have HF1 := Lib.hid (fun (h : a0 = 0) (h2 : a1 = a2) => show ansI T v 6 n k = a1 by unfold ansI; rw [HANS.out, ha02, if_pos h, ha12, ha22, if_pos h2])
  have HF2 := Lib.hid (fun (h : a0 = 0) (h2 : a1 ≠ a2) => show ansI T v 6 n k = 2 by unfold ansI; rw [HANS.out, ha02, if_pos h, ha12, ha22, if_neg h2])
  have HB0 := Lib.hid hb2
  have HR1 := Lib.hid hr1
  have HR2 := Lib.hid hr2
  clear ha0 ha02 e0 w0 s0 g0a g0b g0c ha1 ha12 e1 w1 s1 g1a g1b g1c ha2 ha22 e2 w2 s2 g2a g2b g2c hvis hw hl hal hlen hb2 hr1 hr2
  go_enter Try.func74, Try.ntmps74
  go_wp2_with fail
  have HD0 := Lib.hid HB0.out.drew
  have HX0 := Lib.hid HR1.out.drew
  have HY0 := Lib.hid HR2.out.drew
  have z0 := HSS.out _ HD0.out HX0.out HY0.out
  go_region_held3 (fun w' => w'.cell? ⟨w.heap.size, 0, none⟩ = some (Value.int .i64 v) ∧ w'.cell? ⟨w.heap.size, 1, none⟩ = some (Value.bool (T 0)) ∧ w'.cell? ⟨w.heap.size, 2, none⟩ = some (Value.bool (T 1)) ∧ w'.cell? ⟨w.heap.size, 3, none⟩ = some (Value.bool (T 2)) ∧ w'.cell? ⟨w.heap.size, 4, none⟩ = some (Value.bool (T 3)) ∧ w'.cell? ⟨w.heap.size, 5, none⟩ = some (Value.bool (T 4)) ∧ w'.cell? ⟨w.heap.size, 6, none⟩ = some (Value.bool (T 5)) ∧ w'.cell? ⟨w.heap.size, 7, none⟩ = some (Value.bool (T 6)) ∧ w'.cell? ⟨w.heap.size, 8, none⟩ = some (Value.bool (T 7)) ∧ w'.cell? ⟨w.heap.size + 1, 2, none⟩ = some (Value.slice (some ⟨b, o, none⟩) 3 c) ∧ w'.cell? ⟨b, o, none⟩ = some (Value.int .i64 o0) ∧ w'.cell? ⟨b, o + 1, none⟩ = some (Value.int .i64 m0) ∧ w'.cell? ⟨b, o + 2, none⟩ = some (Value.slice A0 k0.len c0) ∧ w'.cell? ⟨b, o + 3, none⟩ = some (Value.int .i64 o1) ∧ w'.cell? ⟨b, o + 4, none⟩ = some (Value.int .i64 m1) ∧ w'.cell? ⟨b, o + 5, none⟩ = some (Value.slice A1 k1.len c1) ∧ w'.cell? ⟨b, o + 6, none⟩ = some (Value.int .i64 o2) ∧ w'.cell? ⟨b, o + 7, none⟩ = some (Value.int .i64 m2) ∧ w'.cell? ⟨b, o + 8, none⟩ = some (Value.slice A2 k2.len c2))
    (first | with_reducible exact z0 | with_reducible exact y0 | fail)
    (first
      | (go_at_call 51
         with_reducible refine (HV0.out _ HD0.out).mono ?_
         rintro e u1 ⟨rfl, hb⟩
         have HB1 := Lib.hid (HD0.out.trans (hb.mono HD0.out.size))
         have HR11 := Lib.hid (HX0.out.below hb HX0.out.size)
         have HR21 := Lib.hid (HY0.out.below hb HY0.out.size)
         have y0 := HSS.out _ HB1.out HR11.out HR21.out
         clear hb))
  all_goals
    clear z0 y0 HD0 HX0 HY0 HB0 HR1 HR2
    by_cases hz : a0 = 0
    · have HFA := Lib.hid (HF1.out hz)
      have HFB := Lib.hid (HF2.out hz)
      subst hz
      clear HF0 HF1 HF2
      go_wp2_with fail
      have HD1 := Lib.hid HB1.out.drew
      have HX1 := Lib.hid HR11.out.drew
      have HY1 := Lib.hid HR21.out.drew
      have z1 := HSS.out _ HD1.out HX1.out HY1.out
      go_region_held3 (fun w' => w'.cell? ⟨w.heap.size, 0, none⟩ = some (Value.int .i64 v) ∧ w'.cell? ⟨w.heap.size, 1, none⟩ = some (Value.bool (T 0)) ∧ w'.cell? ⟨w.heap.size, 2, none⟩ = some (Value.bool (T 1)) ∧ w'.cell? ⟨w.heap.size, 3, none⟩ = some (Value.bool (T 2)) ∧ w'.cell? ⟨w.heap.size, 4, none⟩ = some (Value.bool (T 3)) ∧ w'.cell? ⟨w.heap.size, 5, none⟩ = some (Value.bool (T 4)) ∧ w'.cell? ⟨w.heap.size, 6, none⟩ = some (Value.bool (T 5)) ∧ w'.cell? ⟨w.heap.size, 7, none⟩ = some (Value.bool (T 6)) ∧ w'.cell? ⟨w.heap.size, 8, none⟩ = some (Value.bool (T 7)) ∧ w'.cell? ⟨w.heap.size + 1, 2, none⟩ = some (Value.slice (some ⟨b, o, none⟩) 3 c) ∧ w'.cell? ⟨b, o, none⟩ = some (Value.int .i64 o0) ∧ w'.cell? ⟨b, o + 1, none⟩ = some (Value.int .i64 m0) ∧ w'.cell? ⟨b, o + 2, none⟩ = some (Value.slice A0 k0.len c0) ∧ w'.cell? ⟨b, o + 3, none⟩ = some (Value.int .i64 o1) ∧ w'.cell? ⟨b, o + 4, none⟩ = some (Value.int .i64 m1) ∧ w'.cell? ⟨b, o + 5, none⟩ = some (Value.slice A1 k1.len c1) ∧ w'.cell? ⟨b, o + 6, none⟩ = some (Value.int .i64 o2) ∧ w'.cell? ⟨b, o + 7, none⟩ = some (Value.int .i64 m2) ∧ w'.cell? ⟨b, o + 8, none⟩ = some (Value.slice A2 k2.len c2))
        (first | with_reducible exact z1 | with_reducible exact y1 | fail)
        (first
          | (go_at_call 51
             with_reducible refine (HV1.out _ HD1.out).mono ?_
             rintro e u2 ⟨rfl, hb⟩
             have HB2 := Lib.hid (HD1.out.trans (hb.mono HD1.out.size))
             have HR12 := Lib.hid (HX1.out.below hb HX1.out.size)
             have HR22 := Lib.hid (HY1.out.below hb HY1.out.size)
             have y1 := HSS.out _ HB2.out HR12.out HR22.out
             clear hb))
      all_goals
        clear z1 y1 HD1 HX1 HY1 HB1 HR11 HR21
        go_wp2_with fail
        have HD2 := Lib.hid HB2.out.drew
        have HX2 := Lib.hid HR12.out.drew
        have HY2 := Lib.hid HR22.out.drew
        have z2 := HSS.out _ HD2.out HX2.out HY2.out
        go_region_held3 (fun w' => w'.cell? ⟨w.heap.size, 0, none⟩ = some (Value.int .i64 v) ∧ w'.cell? ⟨w.heap.size, 1, none⟩ = some (Value.bool (T 0)) ∧ w'.cell? ⟨w.heap.size, 2, none⟩ = some (Value.bool (T 1)) ∧ w'.cell? ⟨w.heap.size, 3, none⟩ = some (Value.bool (T 2)) ∧ w'.cell? ⟨w.heap.size, 4, none⟩ = some (Value.bool (T 3)) ∧ w'.cell? ⟨w.heap.size, 5, none⟩ = some (Value.bool (T 4)) ∧ w'.cell? ⟨w.heap.size, 6, none⟩ = some (Value.bool (T 5)) ∧ w'.cell? ⟨w.heap.size, 7, none⟩ = some (Value.bool (T 6)) ∧ w'.cell? ⟨w.heap.size, 8, none⟩ = some (Value.bool (T 7)) ∧ w'.cell? ⟨w.heap.size + 1, 2, none⟩ = some (Value.slice (some ⟨b, o, none⟩) 3 c) ∧ w'.cell? ⟨b, o, none⟩ = some (Value.int .i64 o0) ∧ w'.cell? ⟨b, o + 1, none⟩ = some (Value.int .i64 m0) ∧ w'.cell? ⟨b, o + 2, none⟩ = some (Value.slice A0 k0.len c0) ∧ w'.cell? ⟨b, o + 3, none⟩ = some (Value.int .i64 o1) ∧ w'.cell? ⟨b, o + 4, none⟩ = some (Value.int .i64 m1) ∧ w'.cell? ⟨b, o + 5, none⟩ = some (Value.slice A1 k1.len c1) ∧ w'.cell? ⟨b, o + 6, none⟩ = some (Value.int .i64 o2) ∧ w'.cell? ⟨b, o + 7, none⟩ = some (Value.int .i64 m2) ∧ w'.cell? ⟨b, o + 8, none⟩ = some (Value.slice A2 k2.len c2))
          (first | with_reducible exact z2 | with_reducible exact y2 | fail)
          (first
            | (go_at_call 51
               with_reducible refine (HV2.out _ HD2.out).mono ?_
               rintro e u3 ⟨rfl, hb⟩
               have HB3 := Lib.hid (HD2.out.trans (hb.mono HD2.out.size))
               have HR13 := Lib.hid (HX2.out.below hb HX2.out.size)
               have HR23 := Lib.hid (HY2.out.below hb HY2.out.size)
               have y2 := HSS.out _ HB3.out HR13.out HR23.out
               clear hb))
        all_goals
          clear z2 y2 HD2 HX2 HY2 HB2 HR12 HR22
          by_cases h12 : a1 = a2
          · have HF := Lib.hid (HFA.out h12)
            have t1 : ((a1 : Int) != (a2 : Int)) = false := by simp [h12]
            clear h12 HFA HFB
            go_wp2
            go_ret
            exact ⟨by rw [HF.out]; rfl, HB3.out⟩
          · have HF := Lib.hid (HFB.out h12)
            have t1 : ((a1 : Int) != (a2 : Int)) = true := by simp; omega
            clear h12 HFA HFB
            go_wp2
            go_ret
            exact ⟨by rw [HF.out]; rfl, HB3.out⟩
    · have HF := Lib.hid (HF0.out hz)
      have t1 : ((a0 : Int) != 0) = true := by simp; omega
      clear hz HF0 HF1 HF2
      go_wp2
      go_ret
      exact ⟨by rw [HF.out]; rfl, HB1.out⟩

set_option maxHeartbeats 4000000 in
theorem visitLet_any (T : Nat → Bool) (v : Int) (k : Fo) (A : Option Addr) (c L B : Nat) (w : World) (hl : Lies w L B A 0 k) (hB : B ≤ w.heap.size) (hal : Rr w L B k) (hsz : k.size ≤ 1048576) (hw : wellN 7 v k = true) (hvis : VisOk T v k.size L B w) :
    Calls Try.prog 75 #[.agg #[.int .i64 v, .bool (T 0), .bool (T 1), .bool (T 2), .bool (T 3), .bool (T 4), .bool (T 5), .bool (T 6), .bool (T 7)], .agg #[.int .i64 7, .int .i64 v, .slice A k.len c]] w (Gives (.int .i64 (ansI T v 7 v k : Nat)) w) := by
  have hlen := wellN_let hw
  obtain ⟨o0, m0, k0, e0, s0, _⟩ := Fo.drop_of_lt k 0 (by omega)
  have w0 := well_kid (wellN_kids hw) e0
  obtain ⟨o1, m1, k1, e1, s1, _⟩ := Fo.drop_of_lt k 1 (by omega)
  have w1 := well_kid (wellN_kids hw) e1
  have HANS := Lib.hid (ans_let (pq := fun n => T n.toNat) (pp := pureW T) (v := v) e0 e1)
  rw [hlen]
  obtain ⟨b, o, A0, c0, hA0, g0a, g0b, g0c, h0a, h0b, l0, hLb0, hbB0⟩ := kid_cells hl e0
  obtain ⟨b1, ob1, A1, c1, hA1, g1a, g1b, g1c, h1a, h1b, l1, hLb1, hbB1⟩ := kid_cells hl e1
  subst hA0
  obtain ⟨rfl, rfl⟩ : b = b1 ∧ o = ob1 := by simpa using hA1
  obtain ⟨hb2, hr1, hr2⟩ := two_boxes w 82 26 #[Value.int .i64 v, Value.bool (T 0), Value.bool (T 1), Value.bool (T 2), Value.bool (T 3), Value.bool (T 4), Value.bool (T 5), Value.bool (T 6), Value.bool (T 7)] #[.int .i64 7, .int .i64 v, .slice (some ⟨b, o, none⟩) 2 c]
  have HSS := Lib.hid (fun w' (h : Below w.heap.size w w') (hr1 : Row w' w.heap.size 82 #[Value.int .i64 v, Value.bool (T 0), Value.bool (T 1), Value.bool (T 2), Value.bool (T 3), Value.bool (T 4), Value.bool (T 5), Value.bool (T 6), Value.bool (T 7)]) (hr2 : Row w' (w.heap.size + 1) 26 #[Value.int .i64 7, Value.int .i64 v, Value.slice (some ⟨b, o, none⟩) 2 c]) => show w'.cell? ⟨w.heap.size, 0, none⟩ = some (Value.int .i64 v) ∧ w'.cell? ⟨w.heap.size, 1, none⟩ = some (Value.bool (T 0)) ∧ w'.cell? ⟨w.heap.size, 2, none⟩ = some (Value.bool (T 1)) ∧ w'.cell? ⟨w.heap.size, 3, none⟩ = some (Value.bool (T 2)) ∧ w'.cell? ⟨w.heap.size, 4, none⟩ = some (Value.bool (T 3)) ∧ w'.cell? ⟨w.heap.size, 5, none⟩ = some (Value.bool (T 4)) ∧ w'.cell? ⟨w.heap.size, 6, none⟩ = some (Value.bool (T 5)) ∧ w'.cell? ⟨w.heap.size, 7, none⟩ = some (Value.bool (T 6)) ∧ w'.cell? ⟨w.heap.size, 8, none⟩ = some (Value.bool (T 7)) ∧ w'.cell? ⟨w.heap.size + 1, 2, none⟩ = some (Value.slice (some ⟨b, o, none⟩) 2 c) ∧ w'.cell? ⟨b, o, none⟩ = some (Value.int .i64 o0) ∧ w'.cell? ⟨b, o + 1, none⟩ = some (Value.int .i64 m0) ∧ w'.cell? ⟨b, o + 2, none⟩ = some (Value.slice A0 k0.len c0) ∧ w'.cell? ⟨b, o + 3, none⟩ = some (Value.int .i64 o1) ∧ w'.cell? ⟨b, o + 4, none⟩ = some (Value.int .i64 m1) ∧ w'.cell? ⟨b, o + 5, none⟩ = some (Value.slice A1 k1.len c1) from
    ⟨hr1.cell (i := 0) rfl, hr1.cell (i := 1) rfl, hr1.cell (i := 2) rfl, hr1.cell (i := 3) rfl, hr1.cell (i := 4) rfl, hr1.cell (i := 5) rfl, hr1.cell (i := 6) rfl, hr1.cell (i := 7) rfl, hr1.cell (i := 8) rfl, hr2.cell (i := 2) rfl, (h.cell (p := ⟨b, o, none⟩) (Nat.lt_of_lt_of_le hbB0 hB)).trans (by simpa using g0a), (h.cell (p := ⟨b, o + 1, none⟩) (Nat.lt_of_lt_of_le hbB0 hB)).trans (by simpa using g0b), (h.cell (p := ⟨b, o + 2, none⟩) (Nat.lt_of_lt_of_le hbB0 hB)).trans (by simpa using g0c), (h.cell (p := ⟨b, o + 3, none⟩) (Nat.lt_of_lt_of_le hbB1 hB)).trans (by simpa using g1a), (h.cell (p := ⟨b, o + 4, none⟩) (Nat.lt_of_lt_of_le hbB1 hB)).trans (by simpa using g1b), (h.cell (p := ⟨b, o + 5, none⟩) (Nat.lt_of_lt_of_le hbB1 hB)).trans (by simpa using g1c)⟩)
  have HV0 := Lib.hid (fun W (h : Below w.heap.size w W) => hvis o0 m0 k0 A0 c0 W (by omega) w0 h (l0.below (h.mono hB)) h0a h0b ((hal.kid 0 e0).below h hB))
  generalize ha0 : ansI T v o0 m0 k0 = a0 at HV0
  have ha02 : ans (fun n => T n.toNat) (pureW T) v o0 m0 k0 = a0 := ha0
  have HV1 := Lib.hid (fun W (h : Below w.heap.size w W) => hvis o1 m1 k1 A1 c1 W (by omega) w1 h (l1.below (h.mono hB)) h1a h1b ((hal.kid 1 e1).below h hB))
  generalize ha1 : ansI T v o1 m1 k1 = a1 at HV1
  have ha12 : ans (fun n => T n.toNat) (pureW T) v o1 m1 k1 = a1 := ha1
  have HPW := Lib.hid (fun W (h : Below w.heap.size w W) => show Calls Try.prog 38 #[.agg #[.bool (T 0), .bool (T 1), .bool (T 2), .bool (T 3), .bool (T 4), .bool (T 5), .bool (T 6), .bool (T 7)], .agg #[.int .i64 o1, .int .i64 m1, .slice A1 k1.len c1]] W (Gives (.bool (pureW T o1 m1 k1)) W) from isPureWith_r T o1 m1 k1 A1 c1 L B W (l1.below (h.mono hB)) (Nat.le_trans hB h.size) (((hal.kid 1 e1).below h hB).rows (l1.below (h.mono hB))) h1a h1b (by omega))
  clear HV1 ha1 ha12
  clear a1
  obtain ⟨pz, hpz⟩ : ∃ pz, pz = pureW T o1 m1 k1 := ⟨_, rfl⟩
  rw [← hpz] at HPW
  have HF0 := Lib.hid (fun (h : a0 ≠ 0) => show ansI T v 7 v k = a0 by unfold ansI; rw [HANS.out, ha02, if_neg h])
  have HF1 := Lib.hid (fun (h : a0 = 0) (h2 : pz = true) => show ansI T v 7 v k = 0 by unfold ansI; rw [HANS.out, ha02, if_pos h, ← hpz, if_pos h2])
  have HF2 := Lib.hid (fun (h : a0 = 0) (h2 : pz = false) => show ansI T v 7 v k = 2 by unfold ansI; rw [HANS.out, ha02, if_pos h, ← hpz, h2]; rfl)
  clear hpz
  have HV1 := HPW
  have ha1 := trivial
  have ha12 := trivial
  have HB0 := Lib.hid hb2
  have HR1 := Lib.hid hr1
  have HR2 := Lib.hid hr2
  clear ha0 ha02 e0 w0 s0 g0a g0b g0c ha1 ha12 e1 w1 s1 g1a g1b g1c hvis hw hl hal hlen hb2 hr1 hr2
  go_enter Try.func75, Try.ntmps75
  go_wp2_with fail
  have HD0 := Lib.hid HB0.out.drew
  have HX0 := Lib.hid HR1.out.drew
  have HY0 := Lib.hid HR2.out.drew
  have z0 := HSS.out _ HD0.out HX0.out HY0.out
  go_region_held3 (fun w' => w'.cell? ⟨w.heap.size, 0, none⟩ = some (Value.int .i64 v) ∧ w'.cell? ⟨w.heap.size, 1, none⟩ = some (Value.bool (T 0)) ∧ w'.cell? ⟨w.heap.size, 2, none⟩ = some (Value.bool (T 1)) ∧ w'.cell? ⟨w.heap.size, 3, none⟩ = some (Value.bool (T 2)) ∧ w'.cell? ⟨w.heap.size, 4, none⟩ = some (Value.bool (T 3)) ∧ w'.cell? ⟨w.heap.size, 5, none⟩ = some (Value.bool (T 4)) ∧ w'.cell? ⟨w.heap.size, 6, none⟩ = some (Value.bool (T 5)) ∧ w'.cell? ⟨w.heap.size, 7, none⟩ = some (Value.bool (T 6)) ∧ w'.cell? ⟨w.heap.size, 8, none⟩ = some (Value.bool (T 7)) ∧ w'.cell? ⟨w.heap.size + 1, 2, none⟩ = some (Value.slice (some ⟨b, o, none⟩) 2 c) ∧ w'.cell? ⟨b, o, none⟩ = some (Value.int .i64 o0) ∧ w'.cell? ⟨b, o + 1, none⟩ = some (Value.int .i64 m0) ∧ w'.cell? ⟨b, o + 2, none⟩ = some (Value.slice A0 k0.len c0) ∧ w'.cell? ⟨b, o + 3, none⟩ = some (Value.int .i64 o1) ∧ w'.cell? ⟨b, o + 4, none⟩ = some (Value.int .i64 m1) ∧ w'.cell? ⟨b, o + 5, none⟩ = some (Value.slice A1 k1.len c1))
    (first | with_reducible exact z0 | with_reducible exact y0 | fail)
    (first
      | (go_at_call 51
         with_reducible refine (HV0.out _ HD0.out).mono ?_
         rintro e u1 ⟨rfl, hb⟩
         have HB1 := Lib.hid (HD0.out.trans (hb.mono HD0.out.size))
         have HR11 := Lib.hid (HX0.out.below hb HX0.out.size)
         have HR21 := Lib.hid (HY0.out.below hb HY0.out.size)
         have y0 := HSS.out _ HB1.out HR11.out HR21.out
         clear hb))
  all_goals
    clear z0 y0 HD0 HX0 HY0 HB0 HR1 HR2
    by_cases hz : a0 = 0
    · have HFA := Lib.hid (HF1.out hz)
      have HFB := Lib.hid (HF2.out hz)
      subst hz
      clear HF0 HF1 HF2
      go_wp2_with fail
      have HD1 := Lib.hid HB1.out.drew
      have HX1 := Lib.hid HR11.out.drew
      have HY1 := Lib.hid HR21.out.drew
      have z1 := HSS.out _ HD1.out HX1.out HY1.out
      go_region_held3 (fun w' => w'.cell? ⟨w.heap.size, 0, none⟩ = some (Value.int .i64 v) ∧ w'.cell? ⟨w.heap.size, 1, none⟩ = some (Value.bool (T 0)) ∧ w'.cell? ⟨w.heap.size, 2, none⟩ = some (Value.bool (T 1)) ∧ w'.cell? ⟨w.heap.size, 3, none⟩ = some (Value.bool (T 2)) ∧ w'.cell? ⟨w.heap.size, 4, none⟩ = some (Value.bool (T 3)) ∧ w'.cell? ⟨w.heap.size, 5, none⟩ = some (Value.bool (T 4)) ∧ w'.cell? ⟨w.heap.size, 6, none⟩ = some (Value.bool (T 5)) ∧ w'.cell? ⟨w.heap.size, 7, none⟩ = some (Value.bool (T 6)) ∧ w'.cell? ⟨w.heap.size, 8, none⟩ = some (Value.bool (T 7)) ∧ w'.cell? ⟨w.heap.size + 1, 2, none⟩ = some (Value.slice (some ⟨b, o, none⟩) 2 c) ∧ w'.cell? ⟨b, o, none⟩ = some (Value.int .i64 o0) ∧ w'.cell? ⟨b, o + 1, none⟩ = some (Value.int .i64 m0) ∧ w'.cell? ⟨b, o + 2, none⟩ = some (Value.slice A0 k0.len c0) ∧ w'.cell? ⟨b, o + 3, none⟩ = some (Value.int .i64 o1) ∧ w'.cell? ⟨b, o + 4, none⟩ = some (Value.int .i64 m1) ∧ w'.cell? ⟨b, o + 5, none⟩ = some (Value.slice A1 k1.len c1))
        (first | with_reducible exact z1 | with_reducible exact y1 | fail)
        (first
          | (go_at_call 38
             with_reducible refine (HV1.out _ HD1.out).mono ?_
             rintro e u2 ⟨rfl, hb⟩
             have HB2 := Lib.hid (HD1.out.trans (hb.mono HD1.out.size))
             have HR12 := Lib.hid (HX1.out.below hb HX1.out.size)
             have HR22 := Lib.hid (HY1.out.below hb HY1.out.size)
             have y1 := HSS.out _ HB2.out HR12.out HR22.out
             clear hb))
      all_goals
        clear z1 y1 HD1 HX1 HY1 HB1 HR11 HR21
        cases pz with
        | true =>
          have HF := Lib.hid (HFA.out rfl)
          clear HFA HFB
          go_wp2
          go_ret
          exact ⟨by rw [HF.out]; rfl, HB2.out⟩
        | false =>
          have HF := Lib.hid (HFB.out rfl)
          clear HFA HFB
          go_wp2
          go_ret
          exact ⟨by rw [HF.out]; rfl, HB2.out⟩
    · have HF := Lib.hid (HF0.out hz)
      have t1 : ((a0 : Int) != 0) = true := by simp; omega
      clear hz HF0 HF1 HF2
      go_wp2
      go_ret
      exact ⟨by rw [HF.out]; rfl, HB1.out⟩

set_option maxHeartbeats 4000000 in
theorem visit_node (T : Nat → Bool) (v op n : Int) (k : Fo) (A : Option Addr) (c L B : Nat) (w : World) (hl : Lies w L B A 0 k) (hB : B ≤ w.heap.size) (hal : Rr w L B k) (_hk1 : k.len ≤ c) (_hk2 : c ≤ maxLen) (hsz : k.size ≤ 1048576) (hw : wellN op n k = true) (hvis : VisOk T v k.size L B w) :
    Calls Try.prog 51 #[.agg #[.int .i64 v, .bool (T 0), .bool (T 1), .bool (T 2), .bool (T 3), .bool (T 4), .bool (T 5), .bool (T 6), .bool (T 7)], .agg #[.int .i64 op, .int .i64 n, .slice A k.len c]] w (Gives (.int .i64 (ansI T v op n k : Nat)) w) := by
  have hlen := Fo.len_le_size k
  obtain ⟨hb2, hr1, hr2⟩ := two_boxes w 82 26 #[Value.int .i64 v, Value.bool (T 0), Value.bool (T 1), Value.bool (T 2), Value.bool (T 3), Value.bool (T 4), Value.bool (T 5), Value.bool (T 6), Value.bool (T 7)] #[.int .i64 op, .int .i64 n, .slice A k.len c]
  have HB0 := Lib.hid hb2
  have HR1 := Lib.hid hr1
  have HR2 := Lib.hid hr2
  have p0 := hr1.cell (i := 0) rfl
  have p1 := hr1.cell (i := 1) rfl
  have p2 := hr1.cell (i := 2) rfl
  have p3 := hr1.cell (i := 3) rfl
  have p4 := hr1.cell (i := 4) rfl
  have p5 := hr1.cell (i := 5) rfl
  have p6 := hr1.cell (i := 6) rfl
  have p7 := hr1.cell (i := 7) rfl
  have p8 := hr1.cell (i := 8) rfl
  obtain ⟨q0, q1, q2⟩ := hr2.three
  clear hb2 hr1 hr2
  by_cases h6 : op = 6
  · subst h6
    have HC := Lib.hid (visitIf_any T v n k A c L B _ (hl.below (HB0.out.mono hB)) (Nat.le_trans hB HB0.out.size) (hal.below HB0.out hB) hw (hvis.up HB0.out))
    clear hvis hl hw
    go_enter Try.func51, Try.ntmps51
    go_wp2_with fail
    refine HC.out.mono ?_
    rintro e w2 ⟨rfl, hb2⟩
    have HB2 := Lib.hid (HB0.out.trans (hb2.mono HB0.out.size))
    clear hb2 HC HB0 HR1 HR2 q0 q1 q2 p0 p1 p2 p3 p4 p5 p6 p7 p8
    go_wp2
    go_ret
    exact ⟨rfl, HB2.out⟩
  · have t6 : (op == 6) = false := by simpa using h6
    by_cases h7 : op = 7
    · subst h7
      by_cases hv : n = v
      · subst hv
        have HC := Lib.hid (visitLet_any T n k A c L B _ (hl.below (HB0.out.mono hB)) (Nat.le_trans hB HB0.out.size) (hal.below HB0.out hB) hsz hw (hvis.up HB0.out))
        clear hvis hl hw
        go_enter Try.func51, Try.ntmps51
        go_wp2_with fail
        refine HC.out.mono ?_
        rintro e w2 ⟨rfl, hb2⟩
        have HB2 := Lib.hid (HB0.out.trans (hb2.mono HB0.out.size))
        clear hb2 HC HB0 HR1 HR2 q0 q1 q2 p0 p1 p2 p3 p4 p5 p6 p7 p8
        go_wp2
        go_ret
        exact ⟨rfl, HB2.out⟩
      · have tv : (n == v) = false := by simpa using hv
        have HO := Lib.hid (ans_other (pq := fun n => T n.toNat) (pp := pureW T) (v := v) (k := k) h6 (fun h => hv h.2))
        have HW3 := Lib.hid (show (7 : Int) = 3 → inVar n = true from fun h => absurd h (by decide))
        clear hv h6
        go_enter Try.func51, Try.ntmps51
        go_wp2_with fail
        clear p0 p1 p2 p3 p4 p5 p6 p7 p8 q0 q1 q2
        go_loopw [32] (fun i wr => ∃ (j : Nat), j ≤ k.len ∧ i = .int .i64 j ∧ Hid (firstNZ (ansL (fun n => T n.toNat) (pureW T) v k) = firstNZ (ansL (fun n => T n.toNat) (pureW T) v (k.drop j))) ∧ Row wr w.heap.size 82 #[Value.int .i64 v, Value.bool (T 0), Value.bool (T 1), Value.bool (T 2), Value.bool (T 3), Value.bool (T 4), Value.bool (T 5), Value.bool (T 6), Value.bool (T 7)] ∧ Row wr (w.heap.size + 1) 26 #[Value.int .i64 7, Value.int .i64 n, Value.slice A k.len c] ∧ Below w.heap.size w wr)
          (fun i _ => k.len - (intOf i).toNat)
        case atStart => exact ⟨0, Nat.zero_le _, rfl, Lib.hid (by rw [Fo.drop_zero]), HR1.out, HR2.out, HB0.out⟩
        case round =>
          clear HR1 HR2 HB0
          obtain ⟨j, hj, rfl, HF, hr1, hr2, hb⟩ := hrel
          by_cases hlt : j < k.len
          · obtain ⟨o1, m1, k1, e1, s1, _⟩ := Fo.drop_of_lt k j hlt
            have w1 := well_kid (wellN_kids hw) e1
            obtain ⟨b, o, A1, c1, hA, g1, g2, g3, h1, h2, l1, hLb, hbB⟩ := kid_cells (hl.below (hb.mono hB)) e1
            subst hA
            have HE := Lib.hid (HF.out.trans (firstNZ_cons e1))
            have hbx := (Below.refl wr.heap.size wr).alloc (Nat.le_refl _) (Obj.cells #[Value.int .i64 o1, Value.int .i64 m1, Value.slice A1 k1.len c1] 26)
            have HRK := Lib.hid (Row.fresh wr 26 #[Value.int .i64 o1, Value.int .i64 m1, Value.slice A1 k1.len c1])
            have HX1 := Lib.hid (hr1.below hbx hr1.size)
            have HX2 := Lib.hid (hr2.below hbx hr2.size)
            have HBX := Lib.hid (hb.trans (hbx.mono hb.size))
            have HC := Lib.hid (hvis o1 m1 k1 A1 c1 _ s1 w1 HBX.out (l1.below (hbx.mono (Nat.le_trans hB hb.size))) h1 h2 ((hal.kid j e1).below (hb.trans (hbx.mono hb.size)) hB))
            generalize ha : ansI T v o1 m1 k1 = a at HC
            have ha2 : ans (fun n => T n.toNat) (pureW T) v o1 m1 k1 = a := ha
            rw [ha2] at HE
            have z0 := HX1.out.cell (i := 0) rfl
            have z1 := HX1.out.cell (i := 1) rfl
            have z2 := HX1.out.cell (i := 2) rfl
            have z3 := HX1.out.cell (i := 3) rfl
            have z4 := HX1.out.cell (i := 4) rfl
            have z5 := HX1.out.cell (i := 5) rfl
            have z6 := HX1.out.cell (i := 6) rfl
            have z7 := HX1.out.cell (i := 7) rfl
            have z8 := HX1.out.cell (i := 8) rfl
            obtain ⟨y0, y1, y2⟩ := HRK.out.three
            clear ha ha2 w1 s1 e1 l1 hbx hr1 hr2 hb HF h1 h2
            go_wp2_with fail
            with_reducible refine HC.out.mono ?_
            rintro e w2 ⟨rfl, hb2⟩
            have HB2 := Lib.hid (HBX.out.trans (hb2.mono HBX.out.size))
            have HR12 := Lib.hid (HX1.out.below hb2 HX1.out.size)
            have HR22 := Lib.hid (HX2.out.below hb2 HX2.out.size)
            clear hb2 HC HX1 HX2 HBX HRK g1 g2 g3 y0 y1 y2 z0 z1 z2 z3 z4 z5 z6 z7 z8
            by_cases hz : a = 0
            · subst hz
              have HE2 := Lib.hid (HE.out.trans (if_pos rfl))
              clear HE
              go_wp2
              go_roundw
              case rel => exact ⟨j + 1, hlt, by go_num, HE2, HR12.out, HR22.out, HB2.out⟩
              case measure => simp [intOf]; omega
            · have HFA := Lib.hid (show ansI T v 7 n k = a by unfold ansI; rw [HO.out, HE.out, if_neg hz, if_neg hz])
              have t1 : ((a : Int) != 0) = true := by simp; omega
              clear hz HE
              go_wp2
              go_ret
              exact ⟨by rw [HFA.out]; rfl, HB2.out⟩
          · have e9 : j = k.len := by omega
            have HFA := Lib.hid (show ansI T v 7 n k = behindN (fun n => T n.toNat) v 7 n by
              have h0 := HF.out
              rw [e9, Fo.drop_len] at h0
              unfold ansI
              rw [HO.out, h0]
              rfl)
            have z0 := hr1.cell (i := 0) rfl
            have z1 := hr1.cell (i := 1) rfl
            have z2 := hr1.cell (i := 2) rfl
            have z3 := hr1.cell (i := 3) rfl
            have z4 := hr1.cell (i := 4) rfl
            have z5 := hr1.cell (i := 5) rfl
            have z6 := hr1.cell (i := 6) rfl
            have z7 := hr1.cell (i := 7) rfl
            have z8 := hr1.cell (i := 8) rfl
            obtain ⟨y0, y1, y2⟩ := hr2.three
            have HB := Lib.hid hb
            have HC := Lib.hid (behindKids_any T v 7 n k A c wr HW3.out)
            clear HF hr1 hr2 hb
            go_wp2_with fail
            refine HC.out.mono ?_
            rintro e w2 ⟨rfl, hb2⟩
            have HB2 := Lib.hid (HB.out.trans (hb2.mono HB.out.size))
            clear hb2 HC HB y0 y1 y2 z0 z1 z2 z3 z4 z5 z6 z7 z8
            go_wp2
            go_ret
            exact ⟨by rw [HFA.out]; rfl, HB2.out⟩
    · have t7 : (op == 7) = false := by simpa using h7
      have HO := Lib.hid (ans_other (pq := fun n => T n.toNat) (pp := pureW T) (v := v) (k := k) (n := n) h6 (fun h => h7 h.1))
      have HW3 := Lib.hid (show op = 3 → inVar n = true from fun h => by subst h; exact wellN_call hw)
      clear h6 h7
      go_enter Try.func51, Try.ntmps51
      go_wp2_with fail
      clear p0 p1 p2 p3 p4 p5 p6 p7 p8 q0 q1 q2
      go_loopw [32] (fun i wr => ∃ (j : Nat), j ≤ k.len ∧ i = .int .i64 j ∧ Hid (firstNZ (ansL (fun n => T n.toNat) (pureW T) v k) = firstNZ (ansL (fun n => T n.toNat) (pureW T) v (k.drop j))) ∧ Row wr w.heap.size 82 #[Value.int .i64 v, Value.bool (T 0), Value.bool (T 1), Value.bool (T 2), Value.bool (T 3), Value.bool (T 4), Value.bool (T 5), Value.bool (T 6), Value.bool (T 7)] ∧ Row wr (w.heap.size + 1) 26 #[Value.int .i64 op, Value.int .i64 n, Value.slice A k.len c] ∧ Below w.heap.size w wr)
        (fun i _ => k.len - (intOf i).toNat)
      case atStart => exact ⟨0, Nat.zero_le _, rfl, Lib.hid (by rw [Fo.drop_zero]), HR1.out, HR2.out, HB0.out⟩
      case round =>
        clear HR1 HR2 HB0
        obtain ⟨j, hj, rfl, HF, hr1, hr2, hb⟩ := hrel
        by_cases hlt : j < k.len
        · obtain ⟨o1, m1, k1, e1, s1, _⟩ := Fo.drop_of_lt k j hlt
          have w1 := well_kid (wellN_kids hw) e1
          obtain ⟨b, o, A1, c1, hA, g1, g2, g3, h1, h2, l1, hLb, hbB⟩ := kid_cells (hl.below (hb.mono hB)) e1
          subst hA
          have HE := Lib.hid (HF.out.trans (firstNZ_cons e1))
          have hbx := (Below.refl wr.heap.size wr).alloc (Nat.le_refl _) (Obj.cells #[Value.int .i64 o1, Value.int .i64 m1, Value.slice A1 k1.len c1] 26)
          have HRK := Lib.hid (Row.fresh wr 26 #[Value.int .i64 o1, Value.int .i64 m1, Value.slice A1 k1.len c1])
          have HX1 := Lib.hid (hr1.below hbx hr1.size)
          have HX2 := Lib.hid (hr2.below hbx hr2.size)
          have HBX := Lib.hid (hb.trans (hbx.mono hb.size))
          have HC := Lib.hid (hvis o1 m1 k1 A1 c1 _ s1 w1 HBX.out (l1.below (hbx.mono (Nat.le_trans hB hb.size))) h1 h2 ((hal.kid j e1).below (hb.trans (hbx.mono hb.size)) hB))
          generalize ha : ansI T v o1 m1 k1 = a at HC
          have ha2 : ans (fun n => T n.toNat) (pureW T) v o1 m1 k1 = a := ha
          rw [ha2] at HE
          have z0 := HX1.out.cell (i := 0) rfl
          have z1 := HX1.out.cell (i := 1) rfl
          have z2 := HX1.out.cell (i := 2) rfl
          have z3 := HX1.out.cell (i := 3) rfl
          have z4 := HX1.out.cell (i := 4) rfl
          have z5 := HX1.out.cell (i := 5) rfl
          have z6 := HX1.out.cell (i := 6) rfl
          have z7 := HX1.out.cell (i := 7) rfl
          have z8 := HX1.out.cell (i := 8) rfl
          obtain ⟨y0, y1, y2⟩ := HRK.out.three
          clear ha ha2 w1 s1 e1 l1 hbx hr1 hr2 hb HF h1 h2
          go_wp2_with fail
          with_reducible refine HC.out.mono ?_
          rintro e w2 ⟨rfl, hb2⟩
          have HB2 := Lib.hid (HBX.out.trans (hb2.mono HBX.out.size))
          have HR12 := Lib.hid (HX1.out.below hb2 HX1.out.size)
          have HR22 := Lib.hid (HX2.out.below hb2 HX2.out.size)
          clear hb2 HC HX1 HX2 HBX HRK g1 g2 g3 y0 y1 y2 z0 z1 z2 z3 z4 z5 z6 z7 z8
          by_cases hz : a = 0
          · subst hz
            have HE2 := Lib.hid (HE.out.trans (if_pos rfl))
            clear HE
            go_wp2
            go_roundw
            case rel => exact ⟨j + 1, hlt, by go_num, HE2, HR12.out, HR22.out, HB2.out⟩
            case measure => simp [intOf]; omega
          · have HFA := Lib.hid (show ansI T v op n k = a by unfold ansI; rw [HO.out, HE.out, if_neg hz, if_neg hz])
            have t1 : ((a : Int) != 0) = true := by simp; omega
            clear hz HE
            go_wp2
            go_ret
            exact ⟨by rw [HFA.out]; rfl, HB2.out⟩
        · have e9 : j = k.len := by omega
          have HFA := Lib.hid (show ansI T v op n k = behindN (fun n => T n.toNat) v op n by
            have h0 := HF.out
            rw [e9, Fo.drop_len] at h0
            unfold ansI
            rw [HO.out, h0]
            rfl)
          have z0 := hr1.cell (i := 0) rfl
          have z1 := hr1.cell (i := 1) rfl
          have z2 := hr1.cell (i := 2) rfl
          have z3 := hr1.cell (i := 3) rfl
          have z4 := hr1.cell (i := 4) rfl
          have z5 := hr1.cell (i := 5) rfl
          have z6 := hr1.cell (i := 6) rfl
          have z7 := hr1.cell (i := 7) rfl
          have z8 := hr1.cell (i := 8) rfl
          obtain ⟨y0, y1, y2⟩ := hr2.three
          have HB := Lib.hid hb
          have HC := Lib.hid (behindKids_any T v op n k A c wr HW3.out)
          clear HF hr1 hr2 hb
          go_wp2_with fail
          refine HC.out.mono ?_
          rintro e w2 ⟨rfl, hb2⟩
          have HB2 := Lib.hid (HB.out.trans (hb2.mono HB.out.size))
          clear hb2 HC HB y0 y1 y2 z0 z1 z2 z3 z4 z5 z6 z7 z8
          go_wp2
          go_ret
          exact ⟨by rw [HFA.out]; rfl, HB2.out⟩

theorem visit_any (T : Nat → Bool) (v : Int) (L B : Nat) (m : Nat) : ∀ (w : World), m ≤ 1048577 → B ≤ w.heap.size → VisOk T v m L B w := by
  induction m with
  | zero => intro w _ _ op n k A c W hs; omega
  | succ m ih =>
    intro w hm hB op n k A c W hs hw hb hl hk1 hk2 hal
    exact visit_node T v op n k A c L B W hl (Nat.le_trans hB hb.size) hal hk1 hk2 (by omega) hw
      (fun op n k' A c W' h1 h2 h3 h4 h5 h6 h7 => ih w (by omega) hB op n k' A c W' (by omega) h2 (hb.trans (h3.mono hb.size)) h4 h5 h6 h7)

end Go.Proofs.Ytiifgkommaeklaa
