/-
  spec.l4Same.
-/
import Derived.Test.YtkdjjkkcejijnaaDepS
import Derived.Test.YtkdjjkkcejijnaaFresh
import Derived.Deep.RegionHeld3
import Derived.Deep.CutRange
namespace Go.Proofs.Ytkdjjkkcejijnaa
open Go.RowKit Go.Shelf
set_option maxRecDepth 100000

def AlikeC (op n op2 n2 : Int) (k k2 : Fo) (A A2 : Option Addr) (c c2 : Nat) (ls rs : List Int) (LA RA : Option Addr) (lc rc : Nat) (w : World) : Prop :=
  Calls Try.prog 36 #[.agg #[.int .i64 op, .int .i64 n, .slice A k.len c], .agg #[.int .i64 op2, .int .i64 n2, .slice A2 k2.len c2], .slice LA ls.length lc, .slice RA rs.length rc] w (Gives (.bool (alikeN op n k op2 n2 k2 ls.reverse rs.reverse)) w)

theorem alike_stop {o m o2 m2 : Int} {k k2 : Fo} {L R : List Int} (h : o ≠ o2 ∨ k.len ≠ k2.len) : alikeN o m k o2 m2 k2 L R = false := by
  unfold alikeN
  rcases h with h | h
  · rw [decide_eq_false h]; rfl
  · rw [decide_eq_false h, Bool.and_false]; rfl
theorem alike_var {o m m2 : Int} {k k2 : Fo} {L R : List Int} (hl : k.len = k2.len) (h : o = 2) : alikeN o m k o m2 k2 L R = varSame m m2 L R := by
  unfold alikeN
  rw [decide_eq_true rfl, decide_eq_true hl, if_pos h]; rfl
theorem alike_name {o m m2 : Int} {k k2 : Fo} {L R : List Int} (hl : k.len = k2.len) (h2 : o ≠ 2) (h7 : o ≠ 7) (hm : m ≠ m2) : alikeN o m k o m2 k2 L R = false := by
  unfold alikeN
  rw [if_neg h2, decide_eq_false h7, decide_eq_false hm]
  simp
theorem alike_kids {o m m2 : Int} {k k2 : Fo} {L R : List Int} (hl : k.len = k2.len) (h2 : o ≠ 2) (h7 : o = 7 ∨ m = m2) : alikeN o m k o m2 k2 L R = alikeF o m m2 0 k k2 L R := by
  unfold alikeN
  rw [if_neg h2, decide_eq_true rfl, decide_eq_true hl]
  rcases h7 with h7 | h7
  · rw [decide_eq_true h7]; simp
  · rw [decide_eq_true h7]; simp

set_option maxHeartbeats 8000000 in
theorem alike_any (s : Nat) : ∀ (op n op2 n2 : Int) (k k2 : Fo) (A A2 : Option Addr) (c c2 : Nat) (ls rs : List Int) (LA RA : Option Addr) (lc rc : Nat) (w : World), k.size = s → Lies w 0 w.heap.size A 0 k → Lies w 0 w.heap.size A2 0 k2 → LiesI w 0 w.heap.size LA ls → LiesI w 0 w.heap.size RA rs →
    ls.length + k.size ≤ 4000 → ls.length = rs.length → I64 n → I64 n2 → AlikeC op n op2 n2 k k2 A A2 c c2 ls rs LA RA lc rc w := by
  induction s using Nat.strongRecOn with
  | _ s ih =>
    intro op n op2 n2 k k2 A A2 c c2 ls rs LA RA lc rc w hs hl hl2 hL hR hsz hlr hi hi2
    unfold AlikeC
    have hlen := Fo.len_le_size k
    have HLR := Lib.hid hlr
    have hrs : rs.length ≤ 4000 := by omega
    clear hlr
    obtain ⟨hb0, ra0, rb0⟩ := two_boxes w 25 25 #[.int .i64 op, .int .i64 n, .slice A k.len c] #[.int .i64 op2, .int .i64 n2, .slice A2 k2.len c2]
    have a0 := ra0.cell (i := 0) rfl
    have a1 := ra0.cell (i := 1) rfl
    have a2 := ra0.cell (i := 2) rfl
    have b0 := rb0.cell (i := 0) rfl
    have b1 := rb0.cell (i := 1) rfl
    have b2 := rb0.cell (i := 2) rfl
    have HA := Lib.hid ra0
    have HBX := Lib.hid rb0
    have HB := Lib.hid hb0
    by_cases ho : op = op2
    · subst ho
      have hoo : (op != op) = false := by simp
      by_cases hkl : k.len = k2.len
      · rw [← hkl] at a0 a1 a2 b0 b1 b2 HA HBX HB
        have hkk : ((k.len : Int) != (k.len : Int)) = false := by simp
        by_cases h2 : op = 2
        · have HV := Lib.hid (alike_var (m := n) (m2 := n2) (L := ls.reverse) (R := rs.reverse) hkl h2)
          have h22 : (op == 2) = true := by simpa using h2
          rw [← hkl]
          clear ra0 rb0 hkl h2 ih
          go_enter Try.func36, Try.ntmps36
          go_wp2_with fail
          refine (l4Depth_any ls LA lc n _ (hL.up HB.out) (by omega)).mono ?_
          rintro e w2 ⟨rfl, hb2⟩
          have hrb2 := HBX.out.below hb2 HBX.out.size
          have hra2 := HA.out.below hb2 HA.out.size
          have HB2 := Lib.hid (HB.out.trans (hb2.mono HB.out.size))
          clear a0 a1 a2 b0 b1 b2 hb2 hb0
          have a1 := hra2.cell (i := 1) rfl
          have b1 := hrb2.cell (i := 1) rfl
          have HRA2 := Lib.hid hra2
          have HRB2 := Lib.hid hrb2
          clear hra2 hrb2
          go_wp2_with fail
          refine (l4Depth_any rs RA rc n2 w2 (hR.up HB2.out) (by omega)).mono ?_
          rintro e w3 ⟨rfl, hb3⟩
          have hra3 := HRA2.out.below hb3 HRA2.out.size
          have hrb3 := HRB2.out.below hb3 HRB2.out.size
          have HB3 := Lib.hid (HB2.out.trans (hb3.mono HB2.out.size))
          clear a1 b1 hb3
          have a1 := hra3.cell (i := 1) rfl
          have b1 := hrb3.cell (i := 1) rfl
          clear hra3 hrb3
          obtain ⟨d1, hd1⟩ : ∃ d, d = depR ls.reverse n := ⟨_, rfl⟩
          obtain ⟨d2, hd2⟩ : ∃ d, d = depR rs.reverse n2 := ⟨_, rfl⟩
          have HVS := Lib.hid (show varSame n n2 ls.reverse rs.reverse = (decide (d1 = d2) && (decide (0 ≤ d1) || decide (n = n2))) by unfold varSame; rw [← hd1, ← hd2])
          rw [← hd1, ← hd2]
          clear hd1 hd2
          by_cases c1 : d1 = d2
          · subst c1
            by_cases c3 : 0 ≤ d1
            · go_wp2_with fail
              go_ret
              exact ⟨by rw [HV.out, HVS.out]; simp [c3], HB3.out⟩
            · have c4 : d1 < 0 := by omega
              go_wp2_with fail
              go_ret
              exact ⟨by rw [HV.out, HVS.out]; simp [c3]; first | rfl | (cases hnn : decide (n = n2) <;> simp_all), HB3.out⟩
          · have c2 : (d1 == d2) = false := by simpa using c1
            go_wp2_with fail
            go_ret
            exact ⟨by rw [HV.out, HVS.out]; simp [c1], HB3.out⟩
        · by_cases h7 : op = 7
          · have HK := Lib.hid (alike_kids (m := n) (m2 := n2) (L := ls.reverse) (R := rs.reverse) hkl h2 (.inl h7))
            have HY7 := Lib.hid h7
            have HKL := Lib.hid hkl
            have h22 : (op == 2) = false := by simpa using h2
            have h77 : (op != 7) = false := by simpa using h7
            have h78 : (op == 7) = true := by simpa using h7
            rw [← hkl]
            clear ra0 rb0 hkl h2 h7
            go_enter Try.func36, Try.ntmps36
            go_wp2_with fail
            go_loopw [11] (fun i wr => ∃ (j : Nat), j ≤ k.len ∧ i = .int .i64 j ∧ alikeF op n n2 0 k k2 ls.reverse rs.reverse = alikeF op n n2 j (k.drop j) (k2.drop j) ls.reverse rs.reverse ∧
                Row wr w.heap.size 25 #[.int .i64 op, .int .i64 n, .slice A k.len c] ∧ Row wr (w.heap.size + 1) 25 #[.int .i64 op, .int .i64 n2, .slice A2 k.len c2] ∧ Below w.heap.size w wr)
              (fun i _ => k.len - (intOf i).toNat)
            case atStart => exact ⟨0, Nat.zero_le _, rfl, by rw [Fo.drop_zero, Fo.drop_zero], HA.out, HBX.out, HB.out⟩
            case round =>
              clear a0 a1 a2 b0 b1 b2
              obtain ⟨j, hj, rfl, hal, hra, hrb, hb⟩ := hrel
              have a0 := hra.cell (i := 0) rfl
              have a1 := hra.cell (i := 1) rfl
              have a2 := hra.cell (i := 2) rfl
              have b1 := hrb.cell (i := 1) rfl
              have b2 := hrb.cell (i := 2) rfl
              by_cases hlt : j < k.len
              rotate_left
              · have e9 : j = k.len := by omega
                have HF := Lib.hid (show alikeF op n n2 0 k k2 ls.reverse rs.reverse = true by
                  rw [hal, e9, Fo.drop_len, HKL.out, Fo.drop_len]; rfl)
                clear hal
                go_wp2_with fail
                go_ret
                exact ⟨by rw [HK.out, HF.out]; rfl, hb⟩
              · obtain ⟨o1, m1, k1, e1, e2, e3⟩ := Fo.drop_of_lt k j hlt
                obtain ⟨o2, m2, k2', e1', e2', e3'⟩ := Fo.drop_of_lt k2 j (by rw [← HKL.out]; exact hlt)
                have hj1 := (hl.below hb).at_ j
                have hj2 := (hl2.below hb).at_ j
                rw [Nat.zero_add, e1] at hj1
                rw [Nat.zero_add, e1'] at hj2
                obtain ⟨⟨b, o, A', c', hA, _, hbb, i1, i2, g1, g2, g3, h1, h2, h3⟩, _⟩ := hj1
                obtain ⟨⟨b', o', A2', c2', hA', _, hbb', i1', i2', g1', g2', g3', h1', h2', h3'⟩, _⟩ := hj2
                subst hA hA'
                have HFC := Lib.hid (hal.trans (alikeF_cons e1 e1'))
                have HRA := Lib.hid hra
                have HRB := Lib.hid hrb
                have HBR := Lib.hid hb
                have H3 := Lib.hid h3
                have H3' := Lib.hid h3'
                have HKS := Lib.hid (And.intro (show k1.size < s by omega) (show k1.size + 1 ≤ k.size by omega))
                have HG := Lib.hid (And.intro g1 (And.intro g2 g3))
                have HG' := Lib.hid (And.intro g1' (And.intro g2' g3'))
                clear hal e1 e1' e2 e2' e3 e3' h3 h3' hl hl2
                by_cases hj1 : j = 1
                rotate_left
                · have hj1i : ((j : Int) == 1) = false := by simp; omega
                  have HBND := Lib.hid (show bound op n j ls.reverse = ls.reverse ∧ bound op n2 j rs.reverse = rs.reverse from by
                    unfold bound
                    exact ⟨if_neg (fun h => hj1 h.2), if_neg (fun h => hj1 h.2)⟩)
                  clear hj1
                  go_upto_region 17 with fail
                  have hz : wr.heap.size ≤ wr.drew.heap.size := Nat.le_refl _
                  have hza : w.heap.size < wr.drew.heap.size := HRA.out.size
                  have hzb : w.heap.size + 1 < wr.drew.heap.size := HRB.out.size
                  have hzk : b < wr.drew.heap.size := Nat.lt_of_lt_of_le hbb HBR.out.size
                  have hzk' : b' < wr.drew.heap.size := Nat.lt_of_lt_of_le hbb' HBR.out.size
                  have q0 : wr.drew.cell? ⟨w.heap.size, 2, none⟩ = some (.slice (some ⟨b, o, none⟩) k.len c) := HRA.out.cell (i := 2) rfl
                  have q1 : wr.drew.cell? ⟨w.heap.size + 1, 2, none⟩ = some (.slice (some ⟨b', o', none⟩) k.len c2) := HRB.out.cell (i := 2) rfl
                  have q2 : wr.drew.cell? ⟨b, o + j * 3, none⟩ = some (.int .i64 o1) := HG.out.1
                  have q3 : wr.drew.cell? ⟨b, o + j * 3 + 1, none⟩ = some (.int .i64 m1) := HG.out.2.1
                  have q4 : wr.drew.cell? ⟨b, o + j * 3 + 2, none⟩ = some (.slice A' k1.len c') := HG.out.2.2
                  have q5 : wr.drew.cell? ⟨b', o' + j * 3, none⟩ = some (.int .i64 o2) := HG'.out.1
                  have q6 : wr.drew.cell? ⟨b', o' + j * 3 + 1, none⟩ = some (.int .i64 m2) := HG'.out.2.1
                  have q7 : wr.drew.cell? ⟨b', o' + j * 3 + 2, none⟩ = some (.slice A2' k2'.len c2') := HG'.out.2.2
                  have HC := Lib.hid (ih k1.size HKS.out.1 o1 m1 o2 m2 k1 k2' A' A2' c' c2' ls rs LA RA lc rc wr.drew rfl ((H3.out.below (Below.refl _ _).drew).mono_ (Nat.le_refl _) HBR.out.size) ((H3'.out.below (Below.refl _ _).drew).mono_ (Nat.le_refl _) HBR.out.size) ((hL.up HBR.out).up (Below.refl _ _).drew) ((hR.up HBR.out).up (Below.refl _ _).drew) (by have := HKS.out.2; omega) HLR.out i2 i2')
                  unfold AlikeC at HC
                  clear a0 a1 a2 b1 b2 g1 g2 g3 g1' g2' g3' ih
                  obtain ⟨z, hz9⟩ : ∃ z, z = alikeN o1 m1 k1 o2 m2 k2' ls.reverse rs.reverse := ⟨_, rfl⟩
                  rw [← hz9] at HC
                  have HZ9 := Lib.hid hz9
                  clear hz9
                  go_region_held3 (fun w' => w'.cell? ⟨w.heap.size, 2, none⟩ = some (.slice (some ⟨b, o, none⟩) k.len c) ∧ w'.cell? ⟨w.heap.size + 1, 2, none⟩ = some (.slice (some ⟨b', o', none⟩) k.len c2) ∧ w'.cell? ⟨b, o + j * 3, none⟩ = some (.int .i64 o1) ∧ w'.cell? ⟨b, o + j * 3 + 1, none⟩ = some (.int .i64 m1) ∧ w'.cell? ⟨b, o + j * 3 + 2, none⟩ = some (.slice A' k1.len c') ∧
                      w'.cell? ⟨b', o' + j * 3, none⟩ = some (.int .i64 o2) ∧ w'.cell? ⟨b', o' + j * 3 + 1, none⟩ = some (.int .i64 m2) ∧ w'.cell? ⟨b', o' + j * 3 + 2, none⟩ = some (.slice A2' k2'.len c2'))
                    (first | with_reducible exact ⟨q0, q1, q2, q3, q4, q5, q6, q7⟩ | with_reducible exact ⟨y0, y1, y2, y3, y4, y5, y6, y7⟩ | fail)
                    (first
                      | (go_at_call 36
                         refine HC.out.mono ?_
                         rintro e w5 ⟨rfl, hb5⟩
                         have y0 : w5.cell? ⟨w.heap.size, 2, none⟩ = some (.slice (some ⟨b, o, none⟩) k.len c) := (hb5.cell (p := ⟨w.heap.size, 2, none⟩) hza).trans q0
                         have y1 : w5.cell? ⟨w.heap.size + 1, 2, none⟩ = some (.slice (some ⟨b', o', none⟩) k.len c2) := (hb5.cell (p := ⟨w.heap.size + 1, 2, none⟩) hzb).trans q1
                         have y2 : w5.cell? ⟨b, o + j * 3, none⟩ = some (.int .i64 o1) := (hb5.cell (p := ⟨b, o + j * 3, none⟩) hzk).trans q2
                         have y3 : w5.cell? ⟨b, o + j * 3 + 1, none⟩ = some (.int .i64 m1) := (hb5.cell (p := ⟨b, o + j * 3 + 1, none⟩) hzk).trans q3
                         have y4 : w5.cell? ⟨b, o + j * 3 + 2, none⟩ = some (.slice A' k1.len c') := (hb5.cell (p := ⟨b, o + j * 3 + 2, none⟩) hzk).trans q4
                         have y5 : w5.cell? ⟨b', o' + j * 3, none⟩ = some (.int .i64 o2) := (hb5.cell (p := ⟨b', o' + j * 3, none⟩) hzk').trans q5
                         have y6 : w5.cell? ⟨b', o' + j * 3 + 1, none⟩ = some (.int .i64 m2) := (hb5.cell (p := ⟨b', o' + j * 3 + 1, none⟩) hzk').trans q6
                         have y7 : w5.cell? ⟨b', o' + j * 3 + 2, none⟩ = some (.slice A2' k2'.len c2') := (hb5.cell (p := ⟨b', o' + j * 3 + 2, none⟩) hzk').trans q7
                         have HRA5 := Lib.hid ((HRA.out.drew).below hb5 hza)
                         have HRB5 := Lib.hid ((HRB.out.drew).below hb5 hzb)
                         have HB5 := Lib.hid (HBR.out.trans (((Below.refl wr.heap.size wr).drew.trans hb5).mono HBR.out.size))
                         clear hb5))
                  all_goals
                    cases hzz : z
                    · have HF := Lib.hid (show alikeF op n n2 0 k k2 ls.reverse rs.reverse = false by
                        rw [HFC.out, HBND.out.1, HBND.out.2, ← HZ9.out, hzz]; rfl)
                      clear hzz
                      go_wp2_with fail
                      go_ret
                      exact ⟨by rw [HK.out, HF.out]; rfl, HB5.out⟩
                    · have HF := Lib.hid (show alikeF op n n2 0 k k2 ls.reverse rs.reverse = alikeF op n n2 (j + 1) (k.drop (j + 1)) (k2.drop (j + 1)) ls.reverse rs.reverse by
                        rw [HFC.out, HBND.out.1, HBND.out.2, ← HZ9.out, hzz]; rfl)
                      clear hzz
                      go_wp2_with fail
                      go_roundw
                      case rel => exact ⟨j + 1, hlt, by go_num, HF.out, HRA5.out, HRB5.out, HB5.out⟩
                      case measure => simp [intOf]; omega
                · have hj1i : ((j : Int) == 1) = true := by simp; omega
                  have HJ1 := Lib.hid hj1
                  clear hj1
                  have HLL := Lib.hid (hL.up HBR.out)
                  have HRR := Lib.hid (hR.up HBR.out)
                  go_upto_region 15 with fail
                  go_cut [12] from 79 to 85 (fun p wc => ∃ A9 c9, p = .slice A9 (ls.length + 1) c9 ∧ LiesI wc 0 wc.heap.size A9 (ls ++ [n]) ∧ Below wr.heap.size wr wc)
                  case first =>
                    have hrow := HRA.out
                    have q1 : wr.drew.cell? ⟨w.heap.size, 1, none⟩ = some (.int .i64 n) := hrow.cell (i := 1) rfl
                    have hbz : w.heap.size < wr.heap.size := hrow.size
                    have q2 : (wr.alloc (Obj.cells #[] 3)).drew.cell? ⟨w.heap.size, 1, none⟩ = some (.int .i64 n) := ((hrow.alloc _).drew).cell (i := 1) rfl
                    have HLS := Lib.hid (show LiesI wr 0 wr.heap.size LA ls from HLL.out)
                    clear hrow
                    go_wp2_with fail
                    go_region_law (first
                      | (refine step_lies0 rfl (.tmp 81) (.tmp 84) rfl rfl wr.heap.size v1 ls.length (ls.map (Value.int .i64)) rfl [n] rfl (by first | exact HO1.out.alloc _ | exact HO1.out) (by first | exact lies_one (Row.fresh _ _ _) hi | exact lies_one HX1.out hi) (by simp only [List.length_cons, List.length_nil]; omega) (by first | exact HB1.out.size | exact Nat.le_trans HB1.out.size (by simp)) ?_
                         intro v2 w2 ho2 hg2 hk2
                         have HO2 := Lib.hid ho2
                         have HB2 := Lib.hid (show Below wr.heap.size wr w2 from by
                           first
                           | exact Below.grown HB1.out hg2 HB1.out.size (fun g' hg' => own_at_least HO1.out hg')
                           | exact Below.grown (HB1.out.alloc HB1.out.size _) hg2 (Nat.le_trans HB1.out.size (by simp)) (fun g' hg' => own_at_least HO1.out hg'))
                         clear ho2 hg2 hk2)
                      | (refine step_lies0 rfl (.tmp 79) (.tmp 80) rfl rfl wr.heap.size (.slice (some ⟨wr.heap.size, 0, none⟩) 0 0) 0 [] rfl ls rfl (by first | exact own_empty ((Row.fresh _ _ _).drew) (Nat.le_refl _) | exact own_empty (((Row.fresh _ _ _).alloc _).drew) (Nat.le_refl _)) (by first | exact HLS.out.up (((Below.refl _ _).alloc (Nat.le_refl _) _).drew) | exact HLS.out.up ((((Below.refl _ _).alloc (Nat.le_refl _) _).alloc (by simp) _).drew)) (by omega) (by first | exact Nat.le_refl _ | (simp; done) | (simp; omega)) ?_
                         intro v1 w1 ho1 hg1 hk1
                         rw [Nat.zero_add, List.nil_append] at ho1
                         have HO1 := Lib.hid ho1
                         have HB1 := Lib.hid (show Below wr.heap.size wr w1 from by
                           first
                           | exact Below.grown (((Below.refl _ _).alloc (Nat.le_refl _) _).drew) hg1 (by simp) (fun g' hg' => by have h8 : some wr.heap.size = some g' := hg'; injection h8 with h8; omega)
                           | exact Below.grown ((((Below.refl _ _).alloc (Nat.le_refl _) _).alloc (by simp) _).drew) hg1 (by simp; omega) (fun g' hg' => by have h8 : some wr.heap.size = some g' := hg'; injection h8 with h8; omega))
                         have u1 : w1.cell? ⟨w.heap.size, 1, none⟩ = some (.int .i64 n) := (HB1.out.cell (p := ⟨w.heap.size, 1, none⟩) hbz).trans q1
                         first
                           | have HX1 := Lib.hid (row_grown' (g := wr.heap.size + 1) (by have h9 := (Row.fresh (wr.alloc (Obj.cells #[] 3)) 3 #[.int .i64 n]).drew; rw [World.size_alloc] at h9; exact h9) hg1 (fun e => by have h8 : some (wr.heap.size + 1) = some wr.heap.size := e; injection h8 with h8; omega))
                           | skip
                         clear ho1 hg1 hk1)
                      | (refine step_lies0 rfl (.tmp 79) (.tmp 80) rfl rfl wr.heap.size (.slice (some ⟨wr.heap.size + 1, 0, none⟩) 0 0) 0 [] rfl ls rfl (by have h9 := (Row.fresh (wr.alloc (Obj.cells #[.int .i64 n] 3)) 3 #[]).drew; rw [World.size_alloc] at h9; exact own_empty h9 (Nat.le_succ _)) (HLS.out.up ((((Below.refl _ _).alloc (Nat.le_refl _) _).alloc (by simp) _).drew)) (by omega) (by first | (simp; done) | (simp; omega)) ?_
                         intro v1 w1 ho1 hg1 hk1
                         rw [Nat.zero_add, List.nil_append] at ho1
                         have HO1 := Lib.hid ho1
                         have HB1 := Lib.hid (show Below wr.heap.size wr w1 from
                           Below.grown ((((Below.refl _ _).alloc (Nat.le_refl _) _).alloc (by simp) _).drew) hg1 (by simp; omega) (fun g' hg' => by have h8 : some (wr.heap.size + 1) = some g' := hg'; injection h8 with h8; omega))
                         have u1 : w1.cell? ⟨w.heap.size, 1, none⟩ = some (.int .i64 n) := (HB1.out.cell (p := ⟨w.heap.size, 1, none⟩) hbz).trans q1
                         have HX1 := Lib.hid (row_grown' (((Row.fresh wr 3 #[.int .i64 n]).alloc (Obj.cells #[] 3)).drew) hg1 (fun e => by have h8 : some wr.heap.size = some (wr.heap.size + 1) := e; injection h8 with h8; omega))
                         clear ho1 hg1 hk1))
                    all_goals try go_wp2_with fail
                    all_goals go_meet
                    all_goals exact list_made HO2.out HB2.out (hi) HLL.out
                  case rest =>
                    obtain ⟨A8, c8, rfl, hI9, hb8⟩ := hcut
                    have hzk9 : b < wr.heap.size := Nat.lt_of_lt_of_le hbb HBR.out.size
                    have hzk9' : b' < wr.heap.size := Nat.lt_of_lt_of_le hbb' HBR.out.size
                    have HI8 := Lib.hid hI9
                    replace HRA := Lib.hid (HRA.out.below hb8 HRA.out.size)
                    replace HRB := Lib.hid (HRB.out.below hb8 HRB.out.size)
                    replace HG := Lib.hid (And.intro ((hb8.cell (p := ⟨b, o + j * 3, none⟩) hzk9).trans HG.out.1) (And.intro ((hb8.cell (p := ⟨b, o + j * 3 + 1, none⟩) hzk9).trans HG.out.2.1) ((hb8.cell (p := ⟨b, o + j * 3 + 2, none⟩) hzk9).trans HG.out.2.2)))
                    replace HG' := Lib.hid (And.intro ((hb8.cell (p := ⟨b', o' + j * 3, none⟩) hzk9').trans HG'.out.1) (And.intro ((hb8.cell (p := ⟨b', o' + j * 3 + 1, none⟩) hzk9').trans HG'.out.2.1) ((hb8.cell (p := ⟨b', o' + j * 3 + 2, none⟩) hzk9').trans HG'.out.2.2)))
                    replace H3 := Lib.hid (H3.out.below (hb8.mono HBR.out.size))
                    replace H3' := Lib.hid (H3'.out.below (hb8.mono HBR.out.size))
                    replace HLL := Lib.hid (HLL.out.up hb8)
                    replace HRR := Lib.hid (HRR.out.up hb8)
                    replace HBR := Lib.hid (HBR.out.trans (hb8.mono HBR.out.size))
                    clear hI9 hzk9 hzk9'
                    obtain ⟨wx, hwx⟩ : ∃ x, x = wc := ⟨_, rfl⟩
                    subst hwx
                    go_upto_region 16 with fail
                    go_cut [13] from 86 to 92 (fun p wc => ∃ A9 c9, p = .slice A9 (rs.length + 1) c9 ∧ LiesI wc 0 wc.heap.size A9 (rs ++ [n2]) ∧ Below wx.heap.size wx wc)
                    case first =>
                      have hrow := HRB.out
                      have q1 : wx.drew.cell? ⟨w.heap.size + 1, 1, none⟩ = some (.int .i64 n2) := hrow.cell (i := 1) rfl
                      have hbz : w.heap.size + 1 < wx.heap.size := hrow.size
                      have q2 : (wx.alloc (Obj.cells #[] 3)).drew.cell? ⟨w.heap.size + 1, 1, none⟩ = some (.int .i64 n2) := ((hrow.alloc _).drew).cell (i := 1) rfl
                      have HLS := Lib.hid (show LiesI wx 0 wx.heap.size RA rs from HRR.out)
                      clear hrow
                      go_wp2_with fail
                      go_region_law (first
                        | (refine step_lies0 rfl (.tmp 88) (.tmp 91) rfl rfl wx.heap.size v1 rs.length (rs.map (Value.int .i64)) rfl [n2] rfl (by first | exact HO1.out.alloc _ | exact HO1.out) (by first | exact lies_one (Row.fresh _ _ _) hi2 | exact lies_one HX1.out hi2) (by simp only [List.length_cons, List.length_nil]; omega) (by first | exact HB1.out.size | exact Nat.le_trans HB1.out.size (by simp)) ?_
                           intro v2 w2 ho2 hg2 hk2
                           have HO2 := Lib.hid ho2
                           have HB2 := Lib.hid (show Below wx.heap.size wx w2 from by
                             first
                             | exact Below.grown HB1.out hg2 HB1.out.size (fun g' hg' => own_at_least HO1.out hg')
                             | exact Below.grown (HB1.out.alloc HB1.out.size _) hg2 (Nat.le_trans HB1.out.size (by simp)) (fun g' hg' => own_at_least HO1.out hg'))
                           clear ho2 hg2 hk2)
                        | (refine step_lies0 rfl (.tmp 86) (.tmp 87) rfl rfl wx.heap.size (.slice (some ⟨wx.heap.size, 0, none⟩) 0 0) 0 [] rfl rs rfl (by first | exact own_empty ((Row.fresh _ _ _).drew) (Nat.le_refl _) | exact own_empty (((Row.fresh _ _ _).alloc _).drew) (Nat.le_refl _)) (by first | exact HLS.out.up (((Below.refl _ _).alloc (Nat.le_refl _) _).drew) | exact HLS.out.up ((((Below.refl _ _).alloc (Nat.le_refl _) _).alloc (by simp) _).drew)) (by omega) (by first | exact Nat.le_refl _ | (simp; done) | (simp; omega)) ?_
                           intro v1 w1 ho1 hg1 hk1
                           rw [Nat.zero_add, List.nil_append] at ho1
                           have HO1 := Lib.hid ho1
                           have HB1 := Lib.hid (show Below wx.heap.size wx w1 from by
                             first
                             | exact Below.grown (((Below.refl _ _).alloc (Nat.le_refl _) _).drew) hg1 (by simp) (fun g' hg' => by have h8 : some wx.heap.size = some g' := hg'; injection h8 with h8; omega)
                             | exact Below.grown ((((Below.refl _ _).alloc (Nat.le_refl _) _).alloc (by simp) _).drew) hg1 (by simp; omega) (fun g' hg' => by have h8 : some wx.heap.size = some g' := hg'; injection h8 with h8; omega))
                           have u1 : w1.cell? ⟨w.heap.size + 1, 1, none⟩ = some (.int .i64 n2) := (HB1.out.cell (p := ⟨w.heap.size + 1, 1, none⟩) hbz).trans q1
                           first
                             | have HX1 := Lib.hid (row_grown' (g := wx.heap.size + 1) (by have h9 := (Row.fresh (wx.alloc (Obj.cells #[] 3)) 3 #[.int .i64 n2]).drew; rw [World.size_alloc] at h9; exact h9) hg1 (fun e => by have h8 : some (wx.heap.size + 1) = some wx.heap.size := e; injection h8 with h8; omega))
                             | skip
                           clear ho1 hg1 hk1)
                        | (refine step_lies0 rfl (.tmp 86) (.tmp 87) rfl rfl wx.heap.size (.slice (some ⟨wx.heap.size + 1, 0, none⟩) 0 0) 0 [] rfl rs rfl (by have h9 := (Row.fresh (wx.alloc (Obj.cells #[.int .i64 n2] 3)) 3 #[]).drew; rw [World.size_alloc] at h9; exact own_empty h9 (Nat.le_succ _)) (HLS.out.up ((((Below.refl _ _).alloc (Nat.le_refl _) _).alloc (by simp) _).drew)) (by omega) (by first | (simp; done) | (simp; omega)) ?_
                           intro v1 w1 ho1 hg1 hk1
                           rw [Nat.zero_add, List.nil_append] at ho1
                           have HO1 := Lib.hid ho1
                           have HB1 := Lib.hid (show Below wx.heap.size wx w1 from
                             Below.grown ((((Below.refl _ _).alloc (Nat.le_refl _) _).alloc (by simp) _).drew) hg1 (by simp; omega) (fun g' hg' => by have h8 : some (wx.heap.size + 1) = some g' := hg'; injection h8 with h8; omega))
                           have u1 : w1.cell? ⟨w.heap.size + 1, 1, none⟩ = some (.int .i64 n2) := (HB1.out.cell (p := ⟨w.heap.size + 1, 1, none⟩) hbz).trans q1
                           have HX1 := Lib.hid (row_grown' (((Row.fresh wx 3 #[.int .i64 n2]).alloc (Obj.cells #[] 3)).drew) hg1 (fun e => by have h8 : some wx.heap.size = some (wx.heap.size + 1) := e; injection h8 with h8; omega))
                           clear ho1 hg1 hk1))
                      all_goals try go_wp2_with fail
                      all_goals go_meet
                      all_goals exact list_made HO2.out HB2.out (hi2) HRR.out
                    case rest =>
                      obtain ⟨A9, c9, rfl, hI9, hb9⟩ := hcut
                      have hzk9 : b < wx.heap.size := Nat.lt_of_lt_of_le hbb HBR.out.size
                      have hzk9' : b' < wx.heap.size := Nat.lt_of_lt_of_le hbb' HBR.out.size
                      have HI9 := Lib.hid hI9
                      replace HRA := Lib.hid (HRA.out.below hb9 HRA.out.size)
                      replace HRB := Lib.hid (HRB.out.below hb9 HRB.out.size)
                      replace HG := Lib.hid (And.intro ((hb9.cell (p := ⟨b, o + j * 3, none⟩) hzk9).trans HG.out.1) (And.intro ((hb9.cell (p := ⟨b, o + j * 3 + 1, none⟩) hzk9).trans HG.out.2.1) ((hb9.cell (p := ⟨b, o + j * 3 + 2, none⟩) hzk9).trans HG.out.2.2)))
                      replace HG' := Lib.hid (And.intro ((hb9.cell (p := ⟨b', o' + j * 3, none⟩) hzk9').trans HG'.out.1) (And.intro ((hb9.cell (p := ⟨b', o' + j * 3 + 1, none⟩) hzk9').trans HG'.out.2.1) ((hb9.cell (p := ⟨b', o' + j * 3 + 2, none⟩) hzk9').trans HG'.out.2.2)))
                      replace H3 := Lib.hid (H3.out.below (hb9.mono HBR.out.size))
                      replace H3' := Lib.hid (H3'.out.below (hb9.mono HBR.out.size))
                      replace HLL := Lib.hid (HLL.out.up hb9)
                      replace HRR := Lib.hid (HRR.out.up hb9)
                      replace HBR := Lib.hid (HBR.out.trans (hb9.mono HBR.out.size))
                      clear hI9 hzk9 hzk9'
                      replace HI8 := Lib.hid (HI8.out.up hb9)
                      have HBND := Lib.hid (show bound op n j ls.reverse = (ls ++ [n]).reverse ∧ bound op n2 j rs.reverse = (rs ++ [n2]).reverse from by
                        have h9 := HY7.out
                        have h8 := HJ1.out
                        unfold bound
                        rw [if_pos ⟨h9, h8⟩, if_pos ⟨h9, h8⟩]
                        simp)
                      clear a0 a1 a2 b1 b2 hb8 hb9
                      have a0 : True := trivial
                      have a1 : True := trivial
                      have a2 : True := trivial
                      have b1 : True := trivial
                      have b2 : True := trivial
                      go_upto_region 17 with fail
                      have hz : wc.heap.size ≤ wc.drew.heap.size := Nat.le_refl _
                      have hza : w.heap.size < wc.drew.heap.size := HRA.out.size
                      have hzb : w.heap.size + 1 < wc.drew.heap.size := HRB.out.size
                      have hzk : b < wc.drew.heap.size := Nat.lt_of_lt_of_le hbb HBR.out.size
                      have hzk' : b' < wc.drew.heap.size := Nat.lt_of_lt_of_le hbb' HBR.out.size
                      have q0 : wc.drew.cell? ⟨w.heap.size, 2, none⟩ = some (.slice (some ⟨b, o, none⟩) k.len c) := HRA.out.cell (i := 2) rfl
                      have q1 : wc.drew.cell? ⟨w.heap.size + 1, 2, none⟩ = some (.slice (some ⟨b', o', none⟩) k.len c2) := HRB.out.cell (i := 2) rfl
                      have q2 : wc.drew.cell? ⟨b, o + j * 3, none⟩ = some (.int .i64 o1) := HG.out.1
                      have q3 : wc.drew.cell? ⟨b, o + j * 3 + 1, none⟩ = some (.int .i64 m1) := HG.out.2.1
                      have q4 : wc.drew.cell? ⟨b, o + j * 3 + 2, none⟩ = some (.slice A' k1.len c') := HG.out.2.2
                      have q5 : wc.drew.cell? ⟨b', o' + j * 3, none⟩ = some (.int .i64 o2) := HG'.out.1
                      have q6 : wc.drew.cell? ⟨b', o' + j * 3 + 1, none⟩ = some (.int .i64 m2) := HG'.out.2.1
                      have q7 : wc.drew.cell? ⟨b', o' + j * 3 + 2, none⟩ = some (.slice A2' k2'.len c2') := HG'.out.2.2
                      have HC := Lib.hid (ih k1.size HKS.out.1 o1 m1 o2 m2 k1 k2' A' A2' c' c2' (ls ++ [n]) (rs ++ [n2]) A8 A9 c8 c9 wc.drew rfl ((H3.out.below (Below.refl _ _).drew).mono_ (Nat.le_refl _) HBR.out.size) ((H3'.out.below (Below.refl _ _).drew).mono_ (Nat.le_refl _) HBR.out.size) (HI8.out.up (Below.refl _ _).drew) (HI9.out.up (Below.refl _ _).drew) (by have := HKS.out.2; rw [List.length_append]; simp only [List.length_cons, List.length_nil]; omega) (by have := HLR.out; simp [this]) i2 i2')
                      unfold AlikeC at HC
                      rw [show (ls ++ [n]).length = ls.length + 1 from by simp, show (rs ++ [n2]).length = rs.length + 1 from by simp] at HC
                      clear a0 a1 a2 b1 b2 g1 g2 g3 g1' g2' g3' ih
                      obtain ⟨z, hz9⟩ : ∃ z, z = alikeN o1 m1 k1 o2 m2 k2' (ls ++ [n]).reverse (rs ++ [n2]).reverse := ⟨_, rfl⟩
                      rw [← hz9] at HC
                      have HZ9 := Lib.hid hz9
                      clear hz9
                      go_region_held3 (fun w' => w'.cell? ⟨w.heap.size, 2, none⟩ = some (.slice (some ⟨b, o, none⟩) k.len c) ∧ w'.cell? ⟨w.heap.size + 1, 2, none⟩ = some (.slice (some ⟨b', o', none⟩) k.len c2) ∧ w'.cell? ⟨b, o + j * 3, none⟩ = some (.int .i64 o1) ∧ w'.cell? ⟨b, o + j * 3 + 1, none⟩ = some (.int .i64 m1) ∧ w'.cell? ⟨b, o + j * 3 + 2, none⟩ = some (.slice A' k1.len c') ∧
                          w'.cell? ⟨b', o' + j * 3, none⟩ = some (.int .i64 o2) ∧ w'.cell? ⟨b', o' + j * 3 + 1, none⟩ = some (.int .i64 m2) ∧ w'.cell? ⟨b', o' + j * 3 + 2, none⟩ = some (.slice A2' k2'.len c2'))
                        (first | with_reducible exact ⟨q0, q1, q2, q3, q4, q5, q6, q7⟩ | with_reducible exact ⟨y0, y1, y2, y3, y4, y5, y6, y7⟩ | fail)
                        (first
                          | (go_at_call 36
                             refine HC.out.mono ?_
                             rintro e w5 ⟨rfl, hb5⟩
                             have y0 : w5.cell? ⟨w.heap.size, 2, none⟩ = some (.slice (some ⟨b, o, none⟩) k.len c) := (hb5.cell (p := ⟨w.heap.size, 2, none⟩) hza).trans q0
                             have y1 : w5.cell? ⟨w.heap.size + 1, 2, none⟩ = some (.slice (some ⟨b', o', none⟩) k.len c2) := (hb5.cell (p := ⟨w.heap.size + 1, 2, none⟩) hzb).trans q1
                             have y2 : w5.cell? ⟨b, o + j * 3, none⟩ = some (.int .i64 o1) := (hb5.cell (p := ⟨b, o + j * 3, none⟩) hzk).trans q2
                             have y3 : w5.cell? ⟨b, o + j * 3 + 1, none⟩ = some (.int .i64 m1) := (hb5.cell (p := ⟨b, o + j * 3 + 1, none⟩) hzk).trans q3
                             have y4 : w5.cell? ⟨b, o + j * 3 + 2, none⟩ = some (.slice A' k1.len c') := (hb5.cell (p := ⟨b, o + j * 3 + 2, none⟩) hzk).trans q4
                             have y5 : w5.cell? ⟨b', o' + j * 3, none⟩ = some (.int .i64 o2) := (hb5.cell (p := ⟨b', o' + j * 3, none⟩) hzk').trans q5
                             have y6 : w5.cell? ⟨b', o' + j * 3 + 1, none⟩ = some (.int .i64 m2) := (hb5.cell (p := ⟨b', o' + j * 3 + 1, none⟩) hzk').trans q6
                             have y7 : w5.cell? ⟨b', o' + j * 3 + 2, none⟩ = some (.slice A2' k2'.len c2') := (hb5.cell (p := ⟨b', o' + j * 3 + 2, none⟩) hzk').trans q7
                             have HRA5 := Lib.hid ((HRA.out.drew).below hb5 hza)
                             have HRB5 := Lib.hid ((HRB.out.drew).below hb5 hzb)
                             have HB5 := Lib.hid (HBR.out.trans (((Below.refl wc.heap.size wc).drew.trans hb5).mono HBR.out.size))
                             clear hb5))
                      all_goals
                        cases hzz : z
                        · have HF := Lib.hid (show alikeF op n n2 0 k k2 ls.reverse rs.reverse = false by
                            rw [HFC.out, HBND.out.1, HBND.out.2, ← HZ9.out, hzz]; rfl)
                          clear hzz
                          go_wp2_with fail
                          go_ret
                          exact ⟨by rw [HK.out, HF.out]; rfl, HB5.out⟩
                        · have HF := Lib.hid (show alikeF op n n2 0 k k2 ls.reverse rs.reverse = alikeF op n n2 (j + 1) (k.drop (j + 1)) (k2.drop (j + 1)) ls.reverse rs.reverse by
                            rw [HFC.out, HBND.out.1, HBND.out.2, ← HZ9.out, hzz]; rfl)
                          clear hzz
                          go_wp2_with fail
                          go_roundw
                          case rel => exact ⟨j + 1, hlt, by go_num, HF.out, HRA5.out, HRB5.out, HB5.out⟩
                          case measure => simp [intOf]; omega
          · by_cases hm : n = n2
            rotate_left
            · have HS := Lib.hid (alike_name (L := ls.reverse) (R := rs.reverse) hkl h2 h7 hm)
              have h22 : (op == 2) = false := by simpa using h2
              have h77 : (op != 7) = true := by simpa using h7
              have hnn : (n != n2) = true := by simpa using hm
              rw [← hkl]
              clear ra0 rb0 hkl h2 ih h7 hm
              go_enter Try.func36, Try.ntmps36
              go_wp2_with fail
              go_ret
              exact ⟨by rw [HS.out]; rfl, HB.out⟩
            · subst hm
              have HK := Lib.hid (alike_kids (m := n) (m2 := n) (L := ls.reverse) (R := rs.reverse) hkl h2 (.inr rfl))
              have HN7 := Lib.hid h7
              have HKL := Lib.hid hkl
              have h22 : (op == 2) = false := by simpa using h2
              have h77 : (op != 7) = true := by simpa using h7
              have h78 : (op == 7) = false := by simpa using h7
              have hnn : (n != n) = false := by simp
              rw [← hkl]
              clear ra0 rb0 hkl h2 h7
              go_enter Try.func36, Try.ntmps36
              go_wp2_with fail
              go_loopw [11] (fun i wr => ∃ (j : Nat), j ≤ k.len ∧ i = .int .i64 j ∧ alikeF op n n 0 k k2 ls.reverse rs.reverse = alikeF op n n j (k.drop j) (k2.drop j) ls.reverse rs.reverse ∧
                  Row wr w.heap.size 25 #[.int .i64 op, .int .i64 n, .slice A k.len c] ∧ Row wr (w.heap.size + 1) 25 #[.int .i64 op, .int .i64 n, .slice A2 k.len c2] ∧ Below w.heap.size w wr)
                (fun i _ => k.len - (intOf i).toNat)
              case atStart => exact ⟨0, Nat.zero_le _, rfl, by rw [Fo.drop_zero, Fo.drop_zero], HA.out, HBX.out, HB.out⟩
              case round =>
                clear a0 a1 a2 b0 b1 b2
                obtain ⟨j, hj, rfl, hal, hra, hrb, hb⟩ := hrel
                have a0 := hra.cell (i := 0) rfl
                have a1 := hra.cell (i := 1) rfl
                have a2 := hra.cell (i := 2) rfl
                have b1 := hrb.cell (i := 1) rfl
                have b2 := hrb.cell (i := 2) rfl
                by_cases hlt : j < k.len
                rotate_left
                · have e9 : j = k.len := by omega
                  have HF := Lib.hid (show alikeF op n n 0 k k2 ls.reverse rs.reverse = true by
                    rw [hal, e9, Fo.drop_len, HKL.out, Fo.drop_len]; rfl)
                  clear hal
                  go_wp2_with fail
                  go_ret
                  exact ⟨by rw [HK.out, HF.out]; rfl, hb⟩
                · obtain ⟨o1, m1, k1, e1, e2, e3⟩ := Fo.drop_of_lt k j hlt
                  obtain ⟨o2, m2, k2', e1', e2', e3'⟩ := Fo.drop_of_lt k2 j (by rw [← HKL.out]; exact hlt)
                  have hj1 := (hl.below hb).at_ j
                  have hj2 := (hl2.below hb).at_ j
                  rw [Nat.zero_add, e1] at hj1
                  rw [Nat.zero_add, e1'] at hj2
                  obtain ⟨⟨b, o, A', c', hA, _, hbb, i1, i2, g1, g2, g3, h1, h2, h3⟩, _⟩ := hj1
                  obtain ⟨⟨b', o', A2', c2', hA', _, hbb', i1', i2', g1', g2', g3', h1', h2', h3'⟩, _⟩ := hj2
                  subst hA hA'
                  have HFC := Lib.hid (hal.trans (alikeF_cons e1 e1'))
                  have HRA := Lib.hid hra
                  have HRB := Lib.hid hrb
                  have HBR := Lib.hid hb
                  have H3 := Lib.hid h3
                  have H3' := Lib.hid h3'
                  have HKS := Lib.hid (And.intro (show k1.size < s by omega) (show k1.size + 1 ≤ k.size by omega))
                  have HG := Lib.hid (And.intro g1 (And.intro g2 g3))
                  have HG' := Lib.hid (And.intro g1' (And.intro g2' g3'))
                  clear hal e1 e1' e2 e2' e3 e3' h3 h3' hl hl2
                  have HBND := Lib.hid (show bound op n j ls.reverse = ls.reverse ∧ bound op n j rs.reverse = rs.reverse from by
                    have h9 := HN7.out
                    unfold bound
                    exact ⟨if_neg (fun h => h9 h.1), if_neg (fun h => h9 h.1)⟩)
                  go_upto_region 17 with fail
                  have hz : wr.heap.size ≤ wr.drew.heap.size := Nat.le_refl _
                  have hza : w.heap.size < wr.drew.heap.size := HRA.out.size
                  have hzb : w.heap.size + 1 < wr.drew.heap.size := HRB.out.size
                  have hzk : b < wr.drew.heap.size := Nat.lt_of_lt_of_le hbb HBR.out.size
                  have hzk' : b' < wr.drew.heap.size := Nat.lt_of_lt_of_le hbb' HBR.out.size
                  have q0 : wr.drew.cell? ⟨w.heap.size, 2, none⟩ = some (.slice (some ⟨b, o, none⟩) k.len c) := HRA.out.cell (i := 2) rfl
                  have q1 : wr.drew.cell? ⟨w.heap.size + 1, 2, none⟩ = some (.slice (some ⟨b', o', none⟩) k.len c2) := HRB.out.cell (i := 2) rfl
                  have q2 : wr.drew.cell? ⟨b, o + j * 3, none⟩ = some (.int .i64 o1) := HG.out.1
                  have q3 : wr.drew.cell? ⟨b, o + j * 3 + 1, none⟩ = some (.int .i64 m1) := HG.out.2.1
                  have q4 : wr.drew.cell? ⟨b, o + j * 3 + 2, none⟩ = some (.slice A' k1.len c') := HG.out.2.2
                  have q5 : wr.drew.cell? ⟨b', o' + j * 3, none⟩ = some (.int .i64 o2) := HG'.out.1
                  have q6 : wr.drew.cell? ⟨b', o' + j * 3 + 1, none⟩ = some (.int .i64 m2) := HG'.out.2.1
                  have q7 : wr.drew.cell? ⟨b', o' + j * 3 + 2, none⟩ = some (.slice A2' k2'.len c2') := HG'.out.2.2
                  have HC := Lib.hid (ih k1.size HKS.out.1 o1 m1 o2 m2 k1 k2' A' A2' c' c2' ls rs LA RA lc rc wr.drew rfl ((H3.out.below (Below.refl _ _).drew).mono_ (Nat.le_refl _) HBR.out.size) ((H3'.out.below (Below.refl _ _).drew).mono_ (Nat.le_refl _) HBR.out.size) ((hL.up HBR.out).up (Below.refl _ _).drew) ((hR.up HBR.out).up (Below.refl _ _).drew) (by have := HKS.out.2; omega) HLR.out i2 i2')
                  unfold AlikeC at HC
                  clear a0 a1 a2 b1 b2 g1 g2 g3 g1' g2' g3' ih
                  obtain ⟨z, hz9⟩ : ∃ z, z = alikeN o1 m1 k1 o2 m2 k2' ls.reverse rs.reverse := ⟨_, rfl⟩
                  rw [← hz9] at HC
                  have HZ9 := Lib.hid hz9
                  clear hz9
                  go_region_held3 (fun w' => w'.cell? ⟨w.heap.size, 2, none⟩ = some (.slice (some ⟨b, o, none⟩) k.len c) ∧ w'.cell? ⟨w.heap.size + 1, 2, none⟩ = some (.slice (some ⟨b', o', none⟩) k.len c2) ∧ w'.cell? ⟨b, o + j * 3, none⟩ = some (.int .i64 o1) ∧ w'.cell? ⟨b, o + j * 3 + 1, none⟩ = some (.int .i64 m1) ∧ w'.cell? ⟨b, o + j * 3 + 2, none⟩ = some (.slice A' k1.len c') ∧
                      w'.cell? ⟨b', o' + j * 3, none⟩ = some (.int .i64 o2) ∧ w'.cell? ⟨b', o' + j * 3 + 1, none⟩ = some (.int .i64 m2) ∧ w'.cell? ⟨b', o' + j * 3 + 2, none⟩ = some (.slice A2' k2'.len c2'))
                    (first | with_reducible exact ⟨q0, q1, q2, q3, q4, q5, q6, q7⟩ | with_reducible exact ⟨y0, y1, y2, y3, y4, y5, y6, y7⟩ | fail)
                    (first
                      | (go_at_call 36
                         refine HC.out.mono ?_
                         rintro e w5 ⟨rfl, hb5⟩
                         have y0 : w5.cell? ⟨w.heap.size, 2, none⟩ = some (.slice (some ⟨b, o, none⟩) k.len c) := (hb5.cell (p := ⟨w.heap.size, 2, none⟩) hza).trans q0
                         have y1 : w5.cell? ⟨w.heap.size + 1, 2, none⟩ = some (.slice (some ⟨b', o', none⟩) k.len c2) := (hb5.cell (p := ⟨w.heap.size + 1, 2, none⟩) hzb).trans q1
                         have y2 : w5.cell? ⟨b, o + j * 3, none⟩ = some (.int .i64 o1) := (hb5.cell (p := ⟨b, o + j * 3, none⟩) hzk).trans q2
                         have y3 : w5.cell? ⟨b, o + j * 3 + 1, none⟩ = some (.int .i64 m1) := (hb5.cell (p := ⟨b, o + j * 3 + 1, none⟩) hzk).trans q3
                         have y4 : w5.cell? ⟨b, o + j * 3 + 2, none⟩ = some (.slice A' k1.len c') := (hb5.cell (p := ⟨b, o + j * 3 + 2, none⟩) hzk).trans q4
                         have y5 : w5.cell? ⟨b', o' + j * 3, none⟩ = some (.int .i64 o2) := (hb5.cell (p := ⟨b', o' + j * 3, none⟩) hzk').trans q5
                         have y6 : w5.cell? ⟨b', o' + j * 3 + 1, none⟩ = some (.int .i64 m2) := (hb5.cell (p := ⟨b', o' + j * 3 + 1, none⟩) hzk').trans q6
                         have y7 : w5.cell? ⟨b', o' + j * 3 + 2, none⟩ = some (.slice A2' k2'.len c2') := (hb5.cell (p := ⟨b', o' + j * 3 + 2, none⟩) hzk').trans q7
                         have HRA5 := Lib.hid ((HRA.out.drew).below hb5 hza)
                         have HRB5 := Lib.hid ((HRB.out.drew).below hb5 hzb)
                         have HB5 := Lib.hid (HBR.out.trans (((Below.refl wr.heap.size wr).drew.trans hb5).mono HBR.out.size))
                         clear hb5))
                  all_goals
                    cases hzz : z
                    · have HF := Lib.hid (show alikeF op n n 0 k k2 ls.reverse rs.reverse = false by
                        rw [HFC.out, HBND.out.1, HBND.out.2, ← HZ9.out, hzz]; rfl)
                      clear hzz
                      go_wp2_with fail
                      go_ret
                      exact ⟨by rw [HK.out, HF.out]; rfl, HB5.out⟩
                    · have HF := Lib.hid (show alikeF op n n 0 k k2 ls.reverse rs.reverse = alikeF op n n (j + 1) (k.drop (j + 1)) (k2.drop (j + 1)) ls.reverse rs.reverse by
                        rw [HFC.out, HBND.out.1, HBND.out.2, ← HZ9.out, hzz]; rfl)
                      clear hzz
                      go_wp2_with fail
                      go_roundw
                      case rel => exact ⟨j + 1, hlt, by go_num, HF.out, HRA5.out, HRB5.out, HB5.out⟩
                      case measure => simp [intOf]; omega
      · have HS := Lib.hid (alike_stop (o := op) (m := n) (o2 := op) (m2 := n2) (L := ls.reverse) (R := rs.reverse) (.inr hkl))
        have hkk : ((k.len : Int) != (k2.len : Int)) = true := by simp; omega
        clear ra0 rb0 ih
        go_enter Try.func36, Try.ntmps36
        go_wp2_with fail
        go_ret
        exact ⟨by rw [HS.out]; rfl, HB.out⟩
    · have HS := Lib.hid (alike_stop (k := k) (k2 := k2) (m := n) (m2 := n2) (L := ls.reverse) (R := rs.reverse) (.inl ho))
      have hoo : (op != op2) = true := by simpa using ho
      clear ra0 rb0 ih
      go_enter Try.func36, Try.ntmps36
      go_wp2_with fail
      go_ret
      exact ⟨by rw [HS.out]; rfl, HB.out⟩
end Go.Proofs.Ytkdjjkkcejijnaa
