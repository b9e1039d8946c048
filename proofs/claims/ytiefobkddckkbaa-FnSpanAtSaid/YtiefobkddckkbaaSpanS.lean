/-
  spec.l9Lead: how much text stands in front of an operand (made by gen_spans.py).
-/
import Derived.Test.YtiefobkddckkbaaSpanD
import Derived.Test.YtiefobkddckkbaaTxtT
namespace Go.Proofs.Ytiefobkddckkbaa
open Go.RowKit Go.Shelf
set_option maxRecDepth 100000

set_option maxHeartbeats 2000000 in
theorem l9Lead_any (op n : Int) (k : Fo) (A : Option Addr) (c j : Nat) (w : World) (hl : Lies w 0 w.heap.size A 0 k) (hj : j ≤ k.len) (hok : okF k = true) (hz : k.size ≤ 80) :
    Calls Try.prog 34 #[.agg #[.int .i64 op, .int .i64 n, .slice A k.len c], .int .i64 (j : Int)] w (Gives (.int .i64 ((leadN op (txtF k) j : Nat) : Int)) w) := by
  have hkz := Fo.len_le_size k
  obtain ⟨W, hW⟩ : ∃ W, W = w.alloc (Obj.cells #[Value.int IntKind.i64 op, Value.int IntKind.i64 n, Value.slice A k.len c] 33) := ⟨_, rfl⟩
  have hb : Below w.heap.size w W := by rw [hW]; exact (Below.refl _ _).alloc (Nat.le_refl _) _
  have hr : Row W w.heap.size 33 #[Value.int IntKind.i64 op, Value.int IntKind.i64 n, Value.slice A k.len c] := by rw [hW]; exact Row.fresh _ _ _
  have FE := Lib.hid (show ∀ U, Below W.heap.size W U → (U.cell? ⟨w.heap.size, 0, none⟩ = some (Value.int .i64 op) ∧ U.cell? ⟨w.heap.size, 1, none⟩ = some (Value.int .i64 n) ∧ U.cell? ⟨w.heap.size, 2, none⟩ = some (Value.slice A k.len c)) ∧ Lies U 0 U.heap.size A 0 k ∧ Below w.heap.size w U from fun U hU => by
    have h := hr.below hU hr.size
    exact ⟨⟨h.cell rfl, h.cell rfl, h.cell rfl⟩, (hl.up hb).up hU, hb.trans (hU.mono hb.size)⟩)
  clear hb hr hl
  by_cases h3 : op = 3
  · have HL0 := Lib.hid (show leadN op (txtF k) 0 = 2 by unfold leadN; rw [if_pos h3])
    subst h3
    go_enter Try.func34, Try.ntmps34
    go_upto_region 1 with fail
    rw [← hW]
    clear hW
    obtain ⟨⟨q0, q1, q2⟩, -⟩ := FE.out W (Below.refl _ _)
    go_wp2_with fail
    go_loopw [5, 6] (fun a i wr => ∃ q : Nat, q ≤ j ∧ a = .int .i64 ((leadN 3 (txtF k) q : Nat) : Int) ∧ i = .int .i64 (q : Int) ∧ leadN 3 (txtF k) q ≤ 3 + q * 501 ∧ Below W.heap.size W wr)
      (fun _ i _ => j - (intOf i).toNat)
    case atStart => exact ⟨0, Nat.zero_le _, by rw [HL0.out]; rfl, rfl, by rw [HL0.out]; decide, Below.refl _ _⟩
    case round =>
      clear q0 q1 q2 HL0
      obtain ⟨q, hq, rfl, rfl, hle, hbr⟩ := hrel
      have BR := Lib.hid hbr
      obtain ⟨⟨q0, q1, q2⟩, hls, -⟩ := FE.out wr hbr
      by_cases hlt : q < j
      · have hji : (q : Int) < (j : Int) := by omega
        obtain ⟨o1, m1, k1, e1, e2, e3⟩ := Fo.drop_of_lt k q (by omega)
        have hl1 := hls.at_ q
        rw [Nat.zero_add, e1] at hl1
        obtain ⟨⟨kb, ko, A1, c1, hA, _, hhi, i1, i2, s0, s1, s2, k1', k2', hl2⟩, _⟩ := hl1
        subst hA
        have hkl : q < k.len := by omega
        have hki : (q : Int) < (k.len : Int) := by omega
        have HT := Lib.hid (l1Text_any o1 m1 k1 A1 c1 wr hl2 (by omega) (okF_at hok e1))
        have hlen := txtN_len o1 m1 k1
        have HN := Lib.hid (show leadN 3 (txtF k) (q + 1) = leadN 3 (txtF k) q + ((txtN o1 m1 k1).length + 1) by
          show leadN 3 (txtF k) q + (((txtF k).getD q []).length + 1) = _
          rw [txtF_at e1])
        unfold txt at HT
        generalize txtN o1 m1 k1 = T at HT hlen HN
        have hT : T.length ≤ 500 := by omega
        have hsz : (ByteArray.mk T.toArray).size = T.length := by simp [ByteArray.size]
        generalize leadN 3 (txtF k) q = v at hle HN
        clear hls hl2 e1 hbr hlen
        go_wp2_with fail
        refine HT.out.mono ?_
        rintro e w5 ⟨rfl, hb5⟩
        have B5 := Lib.hid (BR.out.trans (hb5.mono BR.out.size))
        have hv1 : v ≤ 3 + 80 * 501 := by
          have : q * 501 ≤ 80 * 501 := Nat.mul_le_mul_right _ (by omega)
          omega
        clear hb5 q0 q1 q2 s0 s1 s2 HT
        go_wp2_with fail
        go_roundw
        case rel => exact ⟨q + 1, hlt, by rw [HN.out]; go_num, by go_num, by rw [HN.out]; omega, B5.out⟩
        case measure => simp [intOf]; omega
      · have hqj : q = j := by omega
        subst hqj
        have hji : ¬ (q : Int) < (q : Int) := by omega
        have HBW := Lib.hid (FE.out wr hbr).2.2
        clear hls hbr q0 q1 q2
        go_wp2_with fail
        go_ret
        exact ⟨rfl, HBW.out⟩
  · by_cases h7 : op = 7
    · have HL0 := Lib.hid (show leadN op (txtF k) 0 = 3 by unfold leadN; rw [if_neg h3, if_pos h7])
      subst h7
      go_enter Try.func34, Try.ntmps34
      go_upto_region 1 with fail
      rw [← hW]
      clear hW h3
      obtain ⟨⟨q0, q1, q2⟩, -⟩ := FE.out W (Below.refl _ _)
      go_wp2_with fail
      go_loopw [5, 6] (fun a i wr => ∃ q : Nat, q ≤ j ∧ a = .int .i64 ((leadN 7 (txtF k) q : Nat) : Int) ∧ i = .int .i64 (q : Int) ∧ leadN 7 (txtF k) q ≤ 3 + q * 501 ∧ Below W.heap.size W wr)
        (fun _ i _ => j - (intOf i).toNat)
      case atStart => exact ⟨0, Nat.zero_le _, by rw [HL0.out]; rfl, rfl, by rw [HL0.out]; decide, Below.refl _ _⟩
      case round =>
        clear q0 q1 q2 HL0
        obtain ⟨q, hq, rfl, rfl, hle, hbr⟩ := hrel
        have BR := Lib.hid hbr
        obtain ⟨⟨q0, q1, q2⟩, hls, -⟩ := FE.out wr hbr
        by_cases hlt : q < j
        · have hji : (q : Int) < (j : Int) := by omega
          obtain ⟨o1, m1, k1, e1, e2, e3⟩ := Fo.drop_of_lt k q (by omega)
          have hl1 := hls.at_ q
          rw [Nat.zero_add, e1] at hl1
          obtain ⟨⟨kb, ko, A1, c1, hA, _, hhi, i1, i2, s0, s1, s2, k1', k2', hl2⟩, _⟩ := hl1
          subst hA
          have hkl : q < k.len := by omega
          have hki : (q : Int) < (k.len : Int) := by omega
          have HT := Lib.hid (l1Text_any o1 m1 k1 A1 c1 wr hl2 (by omega) (okF_at hok e1))
          have hlen := txtN_len o1 m1 k1
          have HN := Lib.hid (show leadN 7 (txtF k) (q + 1) = leadN 7 (txtF k) q + ((txtN o1 m1 k1).length + 1) by
            show leadN 7 (txtF k) q + (((txtF k).getD q []).length + 1) = _
            rw [txtF_at e1])
          unfold txt at HT
          generalize txtN o1 m1 k1 = T at HT hlen HN
          have hT : T.length ≤ 500 := by omega
          have hsz : (ByteArray.mk T.toArray).size = T.length := by simp [ByteArray.size]
          generalize leadN 7 (txtF k) q = v at hle HN
          clear hls hl2 e1 hbr hlen
          go_wp2_with fail
          refine HT.out.mono ?_
          rintro e w5 ⟨rfl, hb5⟩
          have B5 := Lib.hid (BR.out.trans (hb5.mono BR.out.size))
          have hv1 : v ≤ 3 + 80 * 501 := by
            have : q * 501 ≤ 80 * 501 := Nat.mul_le_mul_right _ (by omega)
            omega
          clear hb5 q0 q1 q2 s0 s1 s2 HT
          go_wp2_with fail
          go_roundw
          case rel => exact ⟨q + 1, hlt, by rw [HN.out]; go_num, by go_num, by rw [HN.out]; omega, B5.out⟩
          case measure => simp [intOf]; omega
        · have hqj : q = j := by omega
          subst hqj
          have hji : ¬ (q : Int) < (q : Int) := by omega
          have HBW := Lib.hid (FE.out wr hbr).2.2
          clear hls hbr q0 q1 q2
          go_wp2_with fail
          go_ret
          exact ⟨rfl, HBW.out⟩
    · have HL0 := Lib.hid (show leadN op (txtF k) 0 = 1 by unfold leadN; rw [if_neg h3, if_neg h7])
      have t3 : (op == 3) = false := by simpa using h3
      have t7 : (op == 7) = false := by simpa using h7
      go_enter Try.func34, Try.ntmps34
      go_upto_region 1 with fail
      rw [← hW]
      clear hW h3 h7
      obtain ⟨⟨q0, q1, q2⟩, -⟩ := FE.out W (Below.refl _ _)
      go_wp2_with fail
      go_loopw [5, 6] (fun a i wr => ∃ q : Nat, q ≤ j ∧ a = .int .i64 ((leadN op (txtF k) q : Nat) : Int) ∧ i = .int .i64 (q : Int) ∧ leadN op (txtF k) q ≤ 3 + q * 501 ∧ Below W.heap.size W wr)
        (fun _ i _ => j - (intOf i).toNat)
      case atStart => exact ⟨0, Nat.zero_le _, by rw [HL0.out]; rfl, rfl, by rw [HL0.out]; decide, Below.refl _ _⟩
      case round =>
        clear q0 q1 q2 HL0
        obtain ⟨q, hq, rfl, rfl, hle, hbr⟩ := hrel
        have BR := Lib.hid hbr
        obtain ⟨⟨q0, q1, q2⟩, hls, -⟩ := FE.out wr hbr
        by_cases hlt : q < j
        · have hji : (q : Int) < (j : Int) := by omega
          obtain ⟨o1, m1, k1, e1, e2, e3⟩ := Fo.drop_of_lt k q (by omega)
          have hl1 := hls.at_ q
          rw [Nat.zero_add, e1] at hl1
          obtain ⟨⟨kb, ko, A1, c1, hA, _, hhi, i1, i2, s0, s1, s2, k1', k2', hl2⟩, _⟩ := hl1
          subst hA
          have hkl : q < k.len := by omega
          have hki : (q : Int) < (k.len : Int) := by omega
          have HT := Lib.hid (l1Text_any o1 m1 k1 A1 c1 wr hl2 (by omega) (okF_at hok e1))
          have hlen := txtN_len o1 m1 k1
          have HN := Lib.hid (show leadN op (txtF k) (q + 1) = leadN op (txtF k) q + ((txtN o1 m1 k1).length + 1) by
            show leadN op (txtF k) q + (((txtF k).getD q []).length + 1) = _
            rw [txtF_at e1])
          unfold txt at HT
          generalize txtN o1 m1 k1 = T at HT hlen HN
          have hT : T.length ≤ 500 := by omega
          have hsz : (ByteArray.mk T.toArray).size = T.length := by simp [ByteArray.size]
          generalize leadN op (txtF k) q = v at hle HN
          clear hls hl2 e1 hbr hlen
          go_wp2_with fail
          refine HT.out.mono ?_
          rintro e w5 ⟨rfl, hb5⟩
          have B5 := Lib.hid (BR.out.trans (hb5.mono BR.out.size))
          have hv1 : v ≤ 3 + 80 * 501 := by
            have : q * 501 ≤ 80 * 501 := Nat.mul_le_mul_right _ (by omega)
            omega
          clear hb5 q0 q1 q2 s0 s1 s2 HT
          go_wp2_with fail
          go_roundw
          case rel => exact ⟨q + 1, hlt, by rw [HN.out]; go_num, by go_num, by rw [HN.out]; omega, B5.out⟩
          case measure => simp [intOf]; omega
        · have hqj : q = j := by omega
          subst hqj
          have hji : ¬ (q : Int) < (q : Int) := by omega
          have HBW := Lib.hid (FE.out wr hbr).2.2
          clear hls hbr q0 q1 q2
          go_wp2_with fail
          go_ret
          exact ⟨rfl, HBW.out⟩

theorem span_le {p x : Nd} {zs : List Int} (hp : nodeIs p.op p.n p.k (firstS 8) = true) (h : partN p zs = some x) : spanN p zs + (txtN x.op x.n x.k).length ≤ 1000 := by
  have h1 := span_fits hp h
  have h2 := txtN_len p.op p.n p.k
  have h3 := node_size hp
  omega
theorem sp_okF {op n : Int} {k : Fo} (h : nodeIs op n k (firstS 8) = true) : okT op n k = true ∧ okF k = true := by
  have h1 := mok_is h
  have h2 := h1
  unfold mokN at h2
  rw [Bool.and_eq_true] at h2
  have h3 := mok_txt (.cons op n k .nil) (by rw [mokF_cons rfl, h1]; rfl)
  rw [okF_cons rfl, Bool.and_eq_true] at h3
  exact ⟨h3.1, mok_txt k h2.2⟩

set_option maxHeartbeats 2000000 in
theorem l9Span_any (op n : Int) (k : Fo) (A : Option Addr) (c : Nat) (zs : List Int) (A2 : Option Addr) (c2 : Nat) (x : Nd) (w : World) (hl : Lies w 0 w.heap.size A 0 k) (hp : nodeIs op n k (firstS 8) = true) (hz : LiesI w 0 w.heap.size A2 zs) (hzl : zs.length ≤ 1048576) (hx : partN ⟨op, n, k⟩ zs = some x) :
    Calls Try.prog 20 #[.agg #[.int .i64 op, .int .i64 n, .slice A k.len c], .slice A2 zs.length c2] w (Gives (.agg #[.int .i64 ((spanN ⟨op, n, k⟩ zs : Nat) : Int), .int .i64 ((spanN ⟨op, n, k⟩ zs + (txtN x.op x.n x.k).length : Nat) : Int)]) w) := by
  have hle := span_le (p := ⟨op, n, k⟩) hp hx
  obtain ⟨hb, r1, r2⟩ := two_boxes w 33 28 #[Value.int IntKind.i64 op, Value.int IntKind.i64 n, Value.slice A k.len c] #[Value.int IntKind.i64 0, Value.int IntKind.i64 0]
  obtain ⟨W, hW⟩ : ∃ W, W = (w.alloc (Obj.cells #[Value.int IntKind.i64 op, Value.int IntKind.i64 n, Value.slice A k.len c] 33)).alloc (Obj.cells #[Value.int IntKind.i64 0, Value.int IntKind.i64 0] 28) := ⟨_, rfl⟩
  rw [← hW] at hb r1 r2
  have HB := Lib.hid hb
  have HR1 := Lib.hid r1
  have HR2 := Lib.hid r2
  have HZ := Lib.hid hz
  have HL := Lib.hid (hl.below hb)
  clear hb r1 r2 hl hz
  generalize hS : spanN ⟨op, n, k⟩ zs = S at hle ⊢
  go_enter Try.func20, Try.ntmps20
  go_upto_region 1 with fail
  rw [← hW]
  clear hW
  go_wp2_with fail
  go_loopw [5, 6] (fun a i wr => ∃ (q v : Nat) (y : Nd) (A' : Option Addr) (c' : Nat), q ≤ zs.length ∧ a = .int .i64 (v : Int) ∧ i = .int .i64 (q : Int) ∧ v + spanN y (zs.drop q) = S ∧ partN y (zs.drop q) = some x ∧ nodeIs y.op y.n y.k (firstS 8) = true ∧ Row wr w.heap.size 33 #[.int .i64 y.op, .int .i64 y.n, .slice A' y.k.len c'] ∧ Row wr (w.heap.size + 1) 28 #[.int .i64 0, .int .i64 0] ∧ Lies wr 0 w.heap.size A' 0 y.k ∧ Below w.heap.size w wr)
    (fun _ i _ => zs.length - (intOf i).toNat)
  case atStart => exact ⟨0, 0, ⟨op, n, k⟩, A, c, Nat.zero_le _, rfl, rfl, by rw [List.drop_zero, hS, Nat.zero_add], by rw [List.drop_zero]; exact hx, hp, HR1.out, HR2.out, HL.out, HB.out⟩
  case round =>
    obtain ⟨q, v, y, A', c', hq, rfl, rfl, hv, hpx, hy, hre, hrs, hly, hbr⟩ := hrel
    have hsy := node_size hy
    have BR := Lib.hid hbr
    by_cases hlt : q < zs.length
    · have hqi : (q : Int) < (zs.length : Int) := by omega
      have e1 := List.getElem?_eq_getElem hlt
      generalize zs[q] = xi at e1
      rw [drop_cons e1] at hv hpx
      obtain ⟨bz, oz, hA2, _, hbz, ix, gz⟩ := HZ.out q xi e1
      subst hA2
      have h0 : 0 ≤ xi := Classical.byContradiction fun hn => by rw [partN_neg (by omega)] at hpx; cases hpx
      obtain ⟨x0, rfl⟩ : ∃ n : Nat, xi = (n : Int) := ⟨xi.toNat, by omega⟩
      have h1 : x0 < y.k.len := Classical.byContradiction fun hn => by rw [partN_out (by rw [Int.toNat_natCast]; omega)] at hpx; cases hpx
      have h1i : (x0 : Int) < (y.k.len : Int) := by omega
      obtain ⟨o1, m1, k1, f1, f2, f3⟩ := Fo.drop_of_lt y.k x0 h1
      have f1' : y.k.drop (x0 : Int).toNat = .cons o1 m1 k1 (y.k.drop (x0 + 1)) := by rw [Int.toNat_natCast]; exact f1
      rw [partN_in (by omega) f1'] at hpx
      rw [spanN_in f1', Int.toNat_natCast] at hv
      have hyk := sp_kid hy f1
      have hl1 := hly.at_ x0
      rw [Nat.zero_add, f1] at hl1
      obtain ⟨⟨kb, ko, A1, c1, hA, hlo, hhi, i1, i2, g0, g1, g2, k1', k2', hl2⟩, _⟩ := hl1
      subst hA
      have HLEAD := Lib.hid (show ∀ U, Below wr.heap.size wr U → Calls Try.prog 34 #[.agg #[.int .i64 y.op, .int .i64 y.n, .slice (some ⟨kb, ko, none⟩) y.k.len c'], .int .i64 (x0 : Int)] U (Gives (.int .i64 ((leadN y.op (txtF y.k) x0 : Nat) : Int)) U) from fun U hU =>
        l9Lead_any y.op y.n y.k (some ⟨kb, ko, none⟩) c' x0 U ((hly.below (hU.mono BR.out.size)).mono_ (Nat.le_refl _) (Nat.le_trans BR.out.size hU.size)) (by omega) (sp_okF hy).2 (by omega))
      have HC := Lib.hid (show ∀ U, Below wr.heap.size wr U → (U.cell? ⟨w.heap.size, 0, none⟩ = some (Value.int .i64 y.op) ∧ U.cell? ⟨w.heap.size, 1, none⟩ = some (Value.int .i64 y.n) ∧ U.cell? ⟨w.heap.size, 2, none⟩ = some (Value.slice (some ⟨kb, ko, none⟩) y.k.len c') ∧ U.cell? ⟨bz, oz + q, none⟩ = some (Value.int .i64 ((x0 : Nat) : Int))) ∧ (U.cell? ⟨kb, ko + x0 * 3, none⟩ = some (Value.int .i64 o1) ∧ U.cell? ⟨kb, ko + x0 * 3 + 1, none⟩ = some (Value.int .i64 m1) ∧ U.cell? ⟨kb, ko + x0 * 3 + 2, none⟩ = some (Value.slice A1 k1.len c1)) ∧ Row U w.heap.size 33 #[Value.int .i64 y.op, Value.int .i64 y.n, Value.slice (some ⟨kb, ko, none⟩) y.k.len c'] ∧ Row U (w.heap.size + 1) 28 #[.int .i64 0, .int .i64 0] from fun U hU => by
        have hr := hre.below hU hre.size
        have hw := hU.mono (Nat.le_refl wr.heap.size)
        exact ⟨⟨hr.cell rfl, hr.cell rfl, hr.cell rfl, (hU.cell (p := ⟨bz, oz + q, none⟩) (Nat.lt_of_lt_of_le hbz BR.out.size)).trans ((BR.out.cell (p := ⟨bz, oz + q, none⟩) hbz).trans gz)⟩, ⟨(hU.cell (p := ⟨kb, ko + x0 * 3, none⟩) (Nat.lt_of_lt_of_le hhi BR.out.size)).trans g0, (hU.cell (p := ⟨kb, ko + x0 * 3 + 1, none⟩) (Nat.lt_of_lt_of_le hhi BR.out.size)).trans g1, (hU.cell (p := ⟨kb, ko + x0 * 3 + 2, none⟩) (Nat.lt_of_lt_of_le hhi BR.out.size)).trans g2⟩, hr, hrs.below hU hrs.size⟩)
      have s0 := (HC.out wr.drew (Below.refl _ _).drew).1
      generalize hL : leadN y.op (txtF y.k) x0 = L at HLEAD hv
      have hvb : v ≤ 1000 := by omega
      have hLb : L ≤ 1000 := by omega
      have hwr : IntKind.i64.wrap ((v : Int) + (L : Int)) = ((v + L : Nat) : Int) := (IntWalk.i64_in _ (by omega)).trans (by omega)
      have HPX := Lib.hid hpx
      have HL2 := Lib.hid hl2
      clear hly g0 g1 g2 gz hre hrs hbr hpx f1 f1' hl2
      go_wp2_with fail
      refine wp_region_held_drew (S := fun w' => w'.cell? ⟨w.heap.size, 0, none⟩ = some (Value.int .i64 y.op) ∧ w'.cell? ⟨w.heap.size, 1, none⟩ = some (Value.int .i64 y.n) ∧ w'.cell? ⟨w.heap.size, 2, none⟩ = some (Value.slice (some ⟨kb, ko, none⟩) y.k.len c') ∧ w'.cell? ⟨bz, oz + q, none⟩ = some (Value.int .i64 ((x0 : Nat) : Int))) (by kernel_rfl) s0 (fun hHeld => ?_)
      refine takeW 0 (v := ?vx1_0) rfl (by kernel_rfl) (fun _ _ _ h => h) (by rfl) (by assumption) ?yx1_0 ?rx1_0
      case yx1_0 => (intro w' hSw; (try dsimp only at hSw); go_simp; try with_reducible rfl)
      try simp only [Act.put, List.setIfInBounds_toArray, List.set_cons_zero, List.set_cons_succ, List.getElem_toArray, List.getElem_cons_zero]
      refine takeW 1 (v := ?vx1_1) rfl (by kernel_rfl) (fun _ _ _ h => h) (by rfl) (by assumption) ?yx1_1 ?rx1_1
      case yx1_1 => (intro w' hSw; (try dsimp only at hSw); go_simp; try with_reducible rfl)
      try simp only [Act.put, List.setIfInBounds_toArray, List.set_cons_zero, List.set_cons_succ, List.getElem_toArray, List.getElem_cons_succ, List.getElem_cons_zero]
      refine takeW 2 (v := ?vx1_2) rfl (by kernel_rfl) (fun _ _ _ h => h) (by rfl) (by assumption) ?yx1_2 ?rx1_2
      case yx1_2 => (intro w' hSw; (try dsimp only at hSw); go_simp; try with_reducible rfl)
      try simp only [Act.put, List.setIfInBounds_toArray, List.set_cons_zero, List.set_cons_succ, List.getElem_toArray, List.getElem_cons_succ, List.getElem_cons_zero]
      refine takeW 3 (v := ?vx1_3) rfl (by kernel_rfl) (fun _ _ _ h => h) (by rfl) (by assumption) ?yx1_3 ?rx1_3
      case yx1_3 => (intro w' hSw; (try dsimp only at hSw); go_simp; try with_reducible rfl)
      try simp only [Act.put, List.setIfInBounds_toArray, List.set_cons_zero, List.set_cons_succ, List.getElem_toArray, List.getElem_cons_succ, List.getElem_cons_zero]
      refine takeW 4 (v := ?vx1_4) rfl (by kernel_rfl) (fun _ _ _ h => h) (by rfl) (by assumption) ?yx1_4 ?rx1_4
      case yx1_4 => (intro w' hSw; (try dsimp only at hSw); go_simp; try with_reducible rfl)
      try simp only [Act.put, List.setIfInBounds_toArray, List.set_cons_zero, List.set_cons_succ, List.getElem_toArray, List.getElem_cons_succ, List.getElem_cons_zero]
      refine takeW 5 (v := ?vx1_5) rfl (by kernel_rfl) (fun _ _ _ h => h) (by rfl) (by assumption) ?yx1_5 ?rx1_5
      case yx1_5 => (intro w' hSw; (try dsimp only at hSw); go_simp; try with_reducible rfl)
      try simp only [Act.put, List.setIfInBounds_toArray, List.set_cons_zero, List.set_cons_succ, List.getElem_toArray, List.getElem_cons_succ, List.getElem_cons_zero]
      refine wpAnyH_ready (rs := [6]) (by kernel_rfl) (by simp) ?_
      refine AllReadyH.cons rfl (fun K hK => ?_) AllReadyH.nil
      go_simp
      with_reducible refine (HLEAD.out _ (Below.refl _ _).drew).mono ?_
      rintro e w5 ⟨rfl, hb5⟩
      have hbw := (Below.refl wr.heap.size wr).drew.trans hb5
      have s1 := (HC.out w5 hbw).1
      have HB5 := Lib.hid hbw
      clear hb5 hbw
      refine hK.out _ _ (s1) (fun hHeldB1 => ?_)
      clear hK K
      try simp only [Act.put, List.setIfInBounds_toArray, List.set_cons_zero, List.set_cons_succ, List.getElem_toArray, List.getElem_cons_succ, List.getElem_cons_zero]
      refine takeW 7 (v := ?vx2_7) rfl (by kernel_rfl) (fun _ _ _ h => h) (by rfl) (by assumption) ?yx2_7 ?rx2_7
      case yx2_7 => (intro w' hSw; (try dsimp only at hSw); go_simp; try with_reducible rfl)
      try simp only [Act.put, List.setIfInBounds_toArray, List.set_cons_zero, List.set_cons_succ, List.getElem_toArray, List.getElem_cons_succ, List.getElem_cons_zero]
      refine takeW 8 (v := ?vx2_8) rfl (by kernel_rfl) (fun _ _ _ h => h) (by rfl) (by assumption) ?yx2_8 ?rx2_8
      case yx2_8 => (intro w' hSw; (try dsimp only at hSw); go_simp; try with_reducible rfl)
      try simp only [Act.put, List.setIfInBounds_toArray, List.set_cons_zero, List.set_cons_succ, List.getElem_toArray, List.getElem_cons_succ, List.getElem_cons_zero]
      refine wpAnyH_done (by kernel_rfl) ?_ _
      clear s1
      obtain ⟨⟨u0, u1, u2, u3⟩, ⟨u4, u5, u6⟩, HRE5, HRS5⟩ := HC.out w5 HB5.out
      obtain ⟨⟨v0, v1, v2, v3⟩, ⟨v4, v5, v6⟩, -, -⟩ := HC.out w5.drew HB5.out.drew
      have f0 := HRE5.free 0
      have f1 := HRE5.free 1
      have f2 := HRE5.free 2
      have HRE := Lib.hid HRE5
      have HRS := Lib.hid HRS5
      clear HRE5 HRS5
      go_wp2_with fail
      go_region_law (fail)
      all_goals
        have HB5d := Lib.hid (show Below w.heap.size wr w5 from HB5.out.mono BR.out.size)
        have hbf := ((HB5d.out.setCell (p := ⟨w.heap.size, 0, none⟩) (Nat.le_refl _) (.int .i64 o1)).setCell (p := ⟨w.heap.size, 1, none⟩) (Nat.le_refl _) (.int .i64 m1)).setCell (p := ⟨w.heap.size, 2, none⟩) (Nat.le_refl _) (.slice A1 k1.len c1)
        have HBF := Lib.hid hbf.drew
        have HROW := Lib.hid (((HRE.out.put 0 (.int .i64 o1)).put 1 (.int .i64 m1)).put 2 (.slice A1 k1.len c1))
        have HRSF := Lib.hid (((HRS.out.apart (p := ⟨w.heap.size, 0, none⟩) (by dsimp only; omega) (.int .i64 o1)).apart (p := ⟨w.heap.size, 1, none⟩) (by dsimp only; omega) (.int .i64 m1)).apart (p := ⟨w.heap.size, 2, none⟩) (by dsimp only; omega) (.slice A1 k1.len c1))
        clear hbf
        go_wp2_with fail
        go_roundw
        case rel => exact ⟨q + 1, v + L, ⟨o1, m1, k1⟩, A1, c1, hlt, by first | rw [hwr] | go_num, by go_num, by rw [← hv, Nat.add_assoc], HPX.out, hyk, HROW.out, HRSF.out, HL2.out.below HBF.out, BR.out.trans HBF.out⟩
        case measure => simp [intOf]; omega
    · have hqe : q = zs.length := by omega
      subst hqe
      have hji : ¬ ((zs.length : Nat) : Int) < ((zs.length : Nat) : Int) := by omega
      rw [List.drop_length] at hv hpx
      simp only [spanN, Nat.add_zero] at hv
      simp only [partN, Option.some.injEq] at hpx
      subst hpx hv
      have HT := Lib.hid (l1Text_any y.op y.n y.k A' c' wr (hly.mono_ (Nat.le_refl _) BR.out.size) (by omega) (sp_okF hy).1)
      unfold txt at HT
      have hT : (txtN y.op y.n y.k).length ≤ 1000 := by omega
      obtain ⟨T, hTe⟩ : ∃ T, T = txtN y.op y.n y.k := ⟨_, rfl⟩
      rw [← hTe] at HT hT hle
      have HTE := Lib.hid hTe
      clear hTe
      have hvb : v ≤ 1000 := by omega
      have hTb : T.length ≤ 1000 := hT
      have hwr : IntKind.i64.wrap ((v : Int) + (T.length : Int)) = ((v + T.length : Nat) : Int) := (IntWalk.i64_in _ (by omega)).trans (by omega)
      have hsz : (ByteArray.mk T.toArray).size = T.length := by simp [ByteArray.size]
      have q0 := hre.cell (i := 0) rfl
      have q1 := hre.cell (i := 1) rfl
      have q2 := hre.cell (i := 2) rfl
      have HRS := Lib.hid hrs
      clear hly hre hrs hbr
      go_wp2_with fail
      refine HT.out.mono ?_
      rintro e w5 ⟨rfl, hb5⟩
      have r5 := HRS.out.below hb5 HRS.out.size
      have HR5 := Lib.hid r5
      have d0 := r5.cell (i := 0) rfl
      have d1 := r5.cell (i := 1) rfl
      have f0 := r5.free 0
      have f1 := r5.free 1
      have B5 := Lib.hid (BR.out.trans (hb5.mono BR.out.size))
      clear hb5 r5 HT q0 q1 q2
      go_wp2_with fail
      have r7 := (HR5.out.put 0 (.int .i64 (v : Int))).put 1 (.int .i64 ((v : Int) + (T.length : Int)))
      have t0 := r7.cell (i := 0) rfl
      have t1 := r7.cell (i := 1) rfl
      refine bodyPost_ret (v := .agg #[.int .i64 (v : Int), .int .i64 ((v : Int) + (T.length : Int))]) ?_ rfl ⟨by rw [← HTE.out]; first | rfl | simp, (B5.out.setCell (p := ⟨w.heap.size + 1, 0, none⟩) (Nat.le_succ _) _).setCell (p := ⟨w.heap.size + 1, 1, none⟩) (Nat.le_succ _) _⟩
      simp [results, Try.f20, go_sem, t0, t1]
end Go.Proofs.Ytiefobkddckkbaa
