/-
  The walk of the law FnCallsMore: true at every input.
-/
import Derived.Test.YtiepflaghfjijaaGreatCliS
import Derived.Test.YtiepflaghfjijaaGreatFromIR
import Derived.Test.YtiepflaghfjijaaGreatFromS
import Derived.Test.YtiepflaghfjijaaGreatAm
import Derived.Test.YtiepflaghfjijaaGreatTreeP
namespace Go.Proofs.YtiepflaghfjijaaGreat
open Go.RowKit Go.Shelf
set_option maxRecDepth 100000

set_option maxHeartbeats 1000000 in
theorem drawFrom_any (A : Option Addr) (bc : Nat) (bs : List Nat) (w : World) (hB : LiesY w 0 w.heap.size A bs) (hl : bs.length ≤ bc) (hc : bc ≤ maxLen) :
    Calls Tryz.prog 5 #[.slice A bs.length bc] w (Case2Post w) := by
  obtain ⟨W1, hW1⟩ : ∃ W1, W1 = w.alloc (Obj.cells #[.int .i64 0, .int .i64 0, .slice none 0 0] 26) := ⟨_, rfl⟩
  have hb1 : Below w.heap.size w W1 := by rw [hW1]; exact (Below.refl _ _).alloc (Nat.le_refl _) _
  have hx1 : Row W1 w.heap.size 26 #[.int .i64 0, .int .i64 0, .slice none 0 0] := by rw [hW1]; exact Row.fresh _ _ _
  have HC := Lib.hid (l2Case_any A bc bs W1 ((hB.below hb1).keep (Nat.le_refl _) hb1.size fun _ _ _ => rfl) hl hc)
  have HX1 := Lib.hid hx1
  have HB1 := Lib.hid hb1
  have hg1 : w.heap.size < W1.heap.size := hx1.size
  clear hb1 hx1 hB
  go_enter Tryz.func5, Tryz.ntmps5
  go_upto_region 1 with fail
  rw [← hW1]
  clear hW1
  go_wp2_with fail
  refine HC.out.mono ?_
  rintro e w2 ⟨ds, X, c, op, n, k, Y, cy, bl, rfl, ⟨hL, hc1, hc2, hn, hs⟩, hi, ht, hk, hb2⟩
  have r1 := HX1.out.below hb2 hg1
  have f0 := r1.free 0
  have f1 := r1.free 1
  have f2 := r1.free 2
  have d0 := r1.cell (i := 0) rfl
  have d1 := r1.cell (i := 1) rfl
  have d2 := r1.cell (i := 2) rfl
  have HXF := Lib.hid r1
  have HTF := Lib.hid ht
  have HLF := Lib.hid hL
  have HBF := Lib.hid (HB1.out.trans (hb2.mono HB1.out.size))
  have HI := Lib.hid hi
  clear r1 hL ht hb2 hi HC HX1 HB1
  go_wp2_with fail
  have r7 := ((HXF.out.put 0 (.int .i64 op)).put 1 (.int .i64 n)).put 2 (.slice Y k.len cy)
  have t0 := r7.cell (i := 0) rfl
  have t1 := r7.cell (i := 1) rfl
  have t2 := r7.cell (i := 2) rfl
  refine bodyPost_ret (v := .tuple #[.slice X ds.length c, .agg #[.int .i64 op, .int .i64 n, .slice Y k.len cy]]) ?_ rfl (case2_end (HLF.out.mono_ hg1 (Nat.le_refl _)) hc1 hc2 hn hs HI.out (HTF.out.lower hg1) hk HBF.out _ _ _)
  simp [results, Tryz.f5, go_sem, t0, t1, t2]

/-- What a part calls is called. -/
theorem fromL_kid {ds : List De} {op n : Int} {k : Fo} {j : Nat} {o m : Int} {k1 r : Fo} (hv : libOk ds = true) (hf : callsFitB ds op n k = true) (e : k.drop j = .cons o m k1 r) : ∀ x, x ∈ fromL ds o m k1 → x ∈ fromL ds op n k := by
  intro x hx
  cases h2 : libOk ds && callsFitB ds o m k1 with
  | false => rw [fromL_no h2] at hx; simp at hx
  | true =>
    rw [Bool.and_eq_true] at h2
    rw [fromL_yes hv h2.2] at hx
    rw [fromL_yes hv hf]
    obtain ⟨v, h8, rfl, hs⟩ := numsUpto_mem 8 x hx
    have hr := (fromS_iff hv h2.2 v).1 hs
    have hkid : ∀ (f : Fo) (j : Nat) (u : Nat), f.drop j = .cons o m k1 r → callB ⟨o, m, k1⟩ u = true → callF f u = true := by
      intro f
      induction f with
      | nil => intro j u e _; rw [Fo.drop_nil] at e; cases e
      | cons o' m' k' r' _ ih =>
        intro j u e hc
        rw [callF_cons rfl, Bool.or_eq_true]
        cases j with
        | zero => rw [Fo.drop_zero] at e; cases e; exact .inl hc
        | succ j => exact .inr (ih j u e hc)
    have hr2 : Rch (callB ⟨op, n, k⟩) (edge ds) v := rch_in (fun i hi => .base (by
      unfold callB
      rw [Bool.or_eq_true]
      exact .inr (hkid k j i e hi))) hr
    exact (numsUpto_iff _ 8 _).2 ⟨v, h8, rfl, (fromS_iff hv hf v).2 hr2⟩
theorem fromL_own {ds : List De} {op n : Int} {k : Fo} (hv : libOk ds = true) (hf : callsFitB ds op n k = true) : ∀ x, x ∈ numsUpto (callB ⟨op, n, k⟩) 8 → x ∈ fromL ds op n k := by
  intro x hx
  rw [fromL_yes hv hf]
  obtain ⟨v, h8, rfl, hs⟩ := numsUpto_mem 8 x hx
  exact (numsUpto_iff _ 8 _).2 ⟨v, h8, rfl, (fromS_iff hv hf v).2 (.base hs)⟩
theorem names_le : ∀ (ds : List De) (ks : List Int), ks.Nodup → (∀ x ∈ ks, ∃ d, d ∈ ds ∧ d.nm = x) → ks.length ≤ ds.length
  | [], ks, _, h => by
    cases ks with
    | nil => simp
    | cons a r => obtain ⟨d, hd, _⟩ := h a (List.mem_cons_self ..); cases hd
  | d :: r, ks, hn, h => by
    have h1 := names_le r (ks.erase d.nm) (hn.erase _) fun x hx => by
      obtain ⟨h2, h3⟩ := (List.Nodup.mem_erase_iff hn).1 hx
      obtain ⟨d', hd', he⟩ := h x h3
      rcases List.mem_cons.1 hd' with rfl | hd'
      · exact absurd he.symm h2
      · exact ⟨d', hd', he⟩
    rw [List.length_erase] at h1
    rw [List.length_cons]
    split at h1 <;> omega
/-- No more functions are called than there are. -/
theorem fromL_le {ds : List De} {op n : Int} {k : Fo} (hv : libOk ds = true) (hf : callsFitB ds op n k = true) : (fromL ds op n k).length ≤ ds.length := by
  rw [fromL_yes hv hf]
  refine names_le ds _ ((numsUpto_asc _ 8).imp fun h => by omega) fun x hx => ?_
  obtain ⟨v, _, rfl, hs⟩ := numsUpto_mem 8 x hx
  obtain ⟨d, hd⟩ := rch_there hv hf v ((fromS_iff hv hf v).1 hs)
  exact ⟨d, (fnd_mem hd).1, (fnd_mem hd).2⟩

set_option maxHeartbeats 4000000 in
theorem law_NCallsMore (bs : List Nat) (A : Option Addr) (c : Nat) (w : World) (hl : LiesY w 0 w.heap.size A bs) (hlc : bs.length ≤ c) (hc : c ≤ maxLen) :
    Calls Tryz.prog 4 #[.slice A bs.length c] w (Gives (.bool true) w) := by
  have HC := Lib.hid (drawFrom_any A c bs w hl hlc hc)
  unfold maxLen at hc
  by_cases hsz : bs.length ≤ 1048576
  rotate_left
  · have hgt : 1048576 < bs.length := by omega
    go_enter Tryz.func4, Tryz.ntmps4
    go_wp2_with fail
    go_ret
    exact ⟨rfl, Below.refl _ _⟩
  clear hl
  go_enter Tryz.func4, Tryz.ntmps4
  go_wp2_with fail
  refine HC.out.mono ?_
  rintro e w1 ⟨ds, X, cx, op, n, k, Y, cy, bl, rfl, ⟨hL, hc1, hc2, hn, hs⟩, hi, ht, hk, hb1⟩
  obtain ⟨_, _, hY, hk1, hk2⟩ := ht.slice
  injection hY with hY1 hY2 hY3
  subst hY3
  clear hY1
  obtain ⟨W, hW⟩ : ∃ W, W = w1.alloc (Obj.cells #[.int .i64 op, .int .i64 n, .slice Y k.len cy] 26) := ⟨_, rfl⟩
  have hbW : Below w1.heap.size w1 W := by rw [hW]; exact (Below.refl _ _).alloc (Nat.le_refl _) _
  have HX := Lib.hid (show Row W w1.heap.size 26 #[.int .i64 op, .int .i64 n, .slice Y k.len cy] by rw [hW]; exact Row.fresh _ _ _)
  have HH := Lib.hid ((ht.held).below hbW (Nat.le_refl _))
  have HL := Lib.hid (show LiesD W 0 w1.heap.size X ds from (hL.below hbW).mono_ (Nat.zero_le _) (Nat.le_refl _))
  have HB := Lib.hid (hb1.trans (hbW.mono hb1.size))
  -- what every later world keeps
  have HK := Lib.hid (show ∀ V, Below W.heap.size W V → V.cell? ⟨w1.heap.size, 0, none⟩ = some (.int .i64 op) ∧ V.cell? ⟨w1.heap.size, 1, none⟩ = some (.int .i64 n) ∧ V.cell? ⟨w1.heap.size, 2, none⟩ = some (.slice Y k.len cy) ∧ Held V w1.heap.size Y k ∧ LiesD V 0 w1.heap.size X ds ∧ w1.heap.size ≤ V.heap.size ∧ Below w.heap.size w V from fun V hV => by
    have hx := HX.out.below hV HX.out.size
    exact ⟨hx.cell rfl, hx.cell rfl, hx.cell rfl, HH.out.below hV hbW.size, HL.out.below (hV.mono hbW.size), Nat.le_trans hbW.size hV.size, HB.out.trans (hV.mono HB.out.size)⟩)
  have hk3 : k.size ≤ 1048576 := by omega
  have hkl : k.len ≤ maxLen := Nat.le_trans hk1 hk2
  clear hb1 hbW hL ht HX HH HL HB HC
  go_upto_region 4 with fail
  rw [← hW]
  clear hW
  obtain ⟨zs, hzs⟩ : ∃ z, z = fromL ds op n k := ⟨_, rfl⟩
  have hzi : ∀ x ∈ zs, I64 x := by rw [hzs]; exact fun x hx => fromL_small x hx
  have hzl : zs.length ≤ 8 := by rw [hzs]; exact fromL_len ds op n k
  have HZS := Lib.hid hzs
  have HZI := Lib.hid hzi
  clear hzs hzi
  obtain ⟨q0, q1, q2, h1, h2, h3, h4⟩ := HK.out W (Below.refl _ _)
  go_wp2_with fail
  refine (implFrom_r ds X cx op n k Y cy 0 w1.heap.size 0 w1.heap.size W h2 h3 h1.1 h3 hs hk1 hk2 hk3).mono ?_
  rintro e w2 ⟨vo, rfl, ho2, hb2⟩
  rw [← HZS.out] at ho2
  obtain ⟨A2, c2, rfl, hI2⟩ := own_ints ho2 HZI.out
  have HB2 := Lib.hid hb2
  have HI := Lib.hid (show ∀ V, Below w2.heap.size w2 V → LiesI V 0 V.heap.size A2 zs from fun V hV => (hI2.mono_ (Nat.zero_le _) (Nat.le_refl _)).up hV)
  clear q0 q1 q2 h1 h2 h3 h4 hb2 ho2 hI2
  obtain ⟨v1, hv1⟩ : ∃ v, v = callsFitB ds op n k := ⟨_, rfl⟩
  obtain ⟨v2, hv2⟩ : ∃ v, v = libOk ds := ⟨_, rfl⟩
  have H1 := Lib.hid hv1
  have H2 := Lib.hid hv2
  clear hv1 hv2
  obtain ⟨q0, q1, q2, h1, h2, h3, h4⟩ := HK.out w2 HB2.out
  go_wp2_with fail
  refine (specFrom_any ds X cx op n k Y cy w2 (h2.mono_ (Nat.le_refl _) h3) (h1.1.mono_ (Nat.le_refl _) h3) hs hkl hk3).mono ?_
  rintro e w3 ⟨vo, rfl, ho3, hb3⟩
  rw [← HZS.out] at ho3
  obtain ⟨A3, c3, rfl, hI3⟩ := own_ints ho3 HZI.out
  have HJ3 := Lib.hid (show LiesI w3 0 w3.heap.size A3 zs from hI3.mono_ (Nat.zero_le _) (Nat.le_refl _))
  have HB3 := Lib.hid (HB2.out.trans (hb3.mono HB2.out.size))
  have HD3 := Lib.hid (hb3)
  clear q0 q1 q2 h1 h2 h3 h4 hb3 ho3 hI3
  go_wp2_with fail
  refine (amInts_any zs zs A2 A3 c2 c3 w3 (HI.out w3 HD3.out) HJ3.out (by omega) (by omega)).mono ?_
  rintro e w4 ⟨rfl, hb4⟩
  rw [show decide (zs = zs) = true by simp]
  have HB4 := Lib.hid (HB3.out.trans (hb4.mono HB3.out.size))
  have HD4 := Lib.hid (HD3.out.trans (hb4.mono HD3.out.size))
  clear hb4 HJ3 HB3 HD3
  obtain ⟨q0, q1, q2, h1, h2, h3, h4⟩ := HK.out w4 HB4.out
  go_wp2_with fail
  refine (implLibValid_r ds X cx 0 w1.heap.size w4 h2 h3 hs).mono ?_
  rintro e w5 ⟨rfl, hb5⟩
  rw [← H2.out]
  have HB5 := Lib.hid (HB4.out.trans (hb5.mono HB4.out.size))
  have HD5 := Lib.hid (HD4.out.trans (hb5.mono HD4.out.size))
  clear q0 q1 q2 h1 h2 h3 h4 hb5 HB4 HD4
  cases v2 with
  | false =>
    obtain ⟨q0, q1, q2, h1, h2, h3, h4⟩ := HK.out w5 HB5.out
    go_wp2_with fail
    refine (specFrom_any ds X cx op n k Y cy w5 (h2.mono_ (Nat.le_refl _) h3) (h1.1.mono_ (Nat.le_refl _) h3) hs hkl hk3).mono ?_
    rintro e w7 ⟨vo, rfl, ho3, hb3⟩
    rw [← HZS.out] at ho3
    obtain ⟨A3, c3, rfl, hI3⟩ := own_ints ho3 HZI.out
    have HJ3 := Lib.hid (show LiesI w7 0 w7.heap.size A3 zs from hI3.mono_ (Nat.zero_le _) (Nat.le_refl _))
    have HB3 := Lib.hid (HB5.out.trans (hb3.mono HB5.out.size))
    have HD3 := Lib.hid (HD5.out.trans (hb3.mono HD5.out.size))
    clear q0 q1 q2 h1 h2 h3 h4 hb3 ho3 hI3
    go_wp2_with fail
    refine (amInts_any zs zs A2 A3 c2 c3 w7 (HI.out w7 HD3.out) HJ3.out (by omega) (by omega)).mono ?_
    rintro e w8 ⟨rfl, hb4⟩
    rw [show decide (zs = zs) = true by simp]
    have HB4 := Lib.hid (HB3.out.trans (hb4.mono HB3.out.size))
    have HD4 := Lib.hid (HD3.out.trans (hb4.mono HD3.out.size))
    clear hb4 HJ3 HB3 HD3
    have HR8 := Lib.hid (HK.out w8 HB4.out).2.2.2.2.2.2
    go_wp2_with fail
    go_ret
    exact ⟨rfl, HR8.out⟩
  | true =>
  obtain ⟨q0, q1, q2, h1, h2, h3, h4⟩ := HK.out w5 HB5.out
  go_wp2_with fail
  refine (implCallsFit_r ds X cx op n k Y cy 0 w1.heap.size w5 (h2.mono_ (Nat.le_refl _) h3) h1.1 h3 (by omega) hk1 hk2 hk3).mono ?_
  rintro e w6 ⟨rfl, hb6⟩
  rw [← H1.out]
  have HB6 := Lib.hid (HB5.out.trans (hb6.mono HB5.out.size))
  have HD6 := Lib.hid (HD5.out.trans (hb6.mono HD5.out.size))
  clear q0 q1 q2 h1 h2 h3 h4 hb6 HB5 HD5
  cases v1 with
  | false =>
    obtain ⟨q0, q1, q2, h1, h2, h3, h4⟩ := HK.out w6 HB6.out
    go_wp2_with fail
    refine (specFrom_any ds X cx op n k Y cy w6 (h2.mono_ (Nat.le_refl _) h3) (h1.1.mono_ (Nat.le_refl _) h3) hs hkl hk3).mono ?_
    rintro e w7 ⟨vo, rfl, ho3, hb3⟩
    rw [← HZS.out] at ho3
    obtain ⟨A3, c3, rfl, hI3⟩ := own_ints ho3 HZI.out
    have HJ3 := Lib.hid (show LiesI w7 0 w7.heap.size A3 zs from hI3.mono_ (Nat.zero_le _) (Nat.le_refl _))
    have HB3 := Lib.hid (HB6.out.trans (hb3.mono HB6.out.size))
    have HD3 := Lib.hid (HD6.out.trans (hb3.mono HD6.out.size))
    clear q0 q1 q2 h1 h2 h3 h4 hb3 ho3 hI3
    go_wp2_with fail
    refine (amInts_any zs zs A2 A3 c2 c3 w7 (HI.out w7 HD3.out) HJ3.out (by omega) (by omega)).mono ?_
    rintro e w8 ⟨rfl, hb4⟩
    rw [show decide (zs = zs) = true by simp]
    have HB4 := Lib.hid (HB3.out.trans (hb4.mono HB3.out.size))
    have HD4 := Lib.hid (HD3.out.trans (hb4.mono HD3.out.size))
    clear hb4 HJ3 HB3 HD3
    have HR8 := Lib.hid (HK.out w8 HB4.out).2.2.2.2.2.2
    go_wp2_with fail
    go_ret
    exact ⟨rfl, HR8.out⟩
  | true =>
  have HV := Lib.hid H2.out.symm
  have HF := Lib.hid H1.out.symm
  have hle : zs.length ≤ ds.length := by rw [HZS.out]; exact fromL_le HV.out HF.out
  have HLE := Lib.hid hle
  have hkn : k.len ≤ 1000000 := Nat.le_trans (Fo.len_le_size k) hk
  clear H1 H2 hle
  obtain ⟨q0, q1, q2, h1, h2, h3, h4⟩ := HK.out w6 HB6.out
  go_wp2_with fail
  clear q0 q1 q2 h1 h2 h3 h4
  go_loopw [6] (fun i wr => ∃ (j : Nat), j ≤ k.len ∧ i = .int .i64 (j : Int) ∧ Below w6.heap.size w6 wr)
    (fun i _ => k.len - (intOf i).toNat)
  case atStart => exact ⟨0, by omega, rfl, Below.refl _ _⟩
  case round =>
    obtain ⟨wo, hwo⟩ : ∃ wo, wo = wr := ⟨_, rfl⟩
    rw [← hwo] at hrel ⊢
    clear hwo
    obtain ⟨j, hj, rfl, hbr⟩ := hrel
    obtain ⟨q0, q1, q2, h1, h2, h3, h4⟩ := HK.out wo (HB6.out.trans (hbr.mono HB6.out.size))
    by_cases hlt : j < k.len
    · obtain ⟨o1, m1, k1, e1, e2, e3⟩ := Fo.drop_of_lt k j hlt
      have hsk := e2
      obtain ⟨b, o, A', c', rfl, hbb, hi1, g0, g1, g2, hk7, hk8, hh1⟩ := h1.kid e1
      have HH1 := Lib.hid hh1
      have HLD := Lib.hid h2
      have HLZ := Lib.hid h3
      have HBR := Lib.hid hbr
      obtain ⟨ys, hys⟩ : ∃ ys, ys = fromL ds o1 m1 k1 := ⟨_, rfl⟩
      have HIN := Lib.hid (show ∀ x ∈ ys, x ∈ zs by rw [hys, HZS.out]; exact fromL_kid HV.out HF.out e1)
      have hyi : ∀ x ∈ ys, I64 x := by rw [hys]; exact fun x hx => fromL_small x hx
      have hyl : ys.length ≤ 8 := by rw [hys]; exact fromL_len ds o1 m1 k1
      have HYS := Lib.hid hys
      have HYI := Lib.hid hyi
      have hs1 : k1.size ≤ 1048576 := by omega
      have hji : (j : Int) < (k.len : Int) := by omega
      clear e1 e3 h1 h2 h3 h4 hh1 hbr hys hyi
      go_wp2_with fail
      refine (implFrom_r ds X cx o1 m1 k1 A' c' 0 w1.heap.size 0 w1.heap.size wo HLD.out HLZ.out HH1.out.1 HLZ.out hs hk7 hk8 hs1).mono ?_
      rintro e w7 ⟨vc, rfl, ho7, hb7⟩
      rw [← HYS.out] at ho7
      obtain ⟨A7, c7, rfl, hI7⟩ := own_ints ho7 HYI.out
      have HI7 := Lib.hid (show LiesI w7 0 w7.heap.size A7 ys from hI7.mono_ (Nat.zero_le _) (Nat.le_refl _))
      have HB7 := Lib.hid (show Below w6.heap.size w6 w7 from HBR.out.trans (hb7.mono HBR.out.size))
      have HD7 := Lib.hid (HD6.out.trans (HB7.out.mono HD6.out.size))
      clear q0 q1 q2 g0 g1 g2 hb7 ho7 hI7 HBR HH1 HLD
      go_wp2_with fail
      go_loopw [8] (fun i wr => ∃ (j : Nat), j ≤ ys.length ∧ i = .int .i64 (j : Int) ∧ Below w7.heap.size w7 wr)
        (fun i _ => ys.length - (intOf i).toNat)
      case atStart => exact ⟨0, by omega, rfl, Below.refl _ _⟩
      case round =>
        obtain ⟨woi, hwoi⟩ : ∃ wo, wo = wr := ⟨_, rfl⟩
        rw [← hwoi] at hrel ⊢
        clear hwoi
        obtain ⟨ji, hji, rfl, hbri⟩ := hrel
        by_cases hlti : ji < ys.length
        · obtain ⟨xi, hxi⟩ : ∃ x, ys[ji]? = some x := ⟨_, List.getElem?_eq_getElem hlti⟩
          have HXMi := Lib.hid (HIN.out xi (List.mem_of_getElem? hxi))
          obtain ⟨b4i, o4i, rfl, _, hbb4i, hxii, g4i⟩ := (HI7.out.up hbri) ji xi hxi
          have hjii : (ji : Int) < (ys.length : Int) := by omega
          have HBRi := Lib.hid hbri
          clear hxi hbri
          go_wp2_with fail
          refine (amIn_any zs _ c2 xi woi (HI.out woi (HD7.out.trans (HBRi.out.mono HD7.out.size))) (by omega)).mono ?_
          rintro e w9i ⟨rfl, hb9i⟩
          rw [show decide (xi ∈ zs) = true by simpa using HXMi.out]
          have HB9i := Lib.hid (HBRi.out.trans (hb9i.mono HBRi.out.size))
          clear hb9i g4i HBRi
          go_wp2_with fail
          go_roundw
          case rel => exact ⟨ji + 1, by omega, by go_num, HB9i.out⟩
          case measure => simp [intOf]; omega
        · have hjii : ¬ (ji : Int) < (ys.length : Int) := by omega
          have HBRi := Lib.hid hbri
          clear hbri
          go_wp2_with fail
          go_roundw
          case rel => exact ⟨j + 1, by omega, by go_num, HB7.out.trans (HBRi.out.mono HB7.out.size)⟩
          case measure => simp [intOf]; omega
    · have hji : ¬ (j : Int) < (k.len : Int) := by omega
      have HBR := Lib.hid (HB6.out.trans (hbr.mono HB6.out.size))
      have HDR := Lib.hid (HD6.out.trans (hbr.mono HD6.out.size))
      have HH1 := Lib.hid h1
      have HLZ := Lib.hid h3
      clear h1 h2 h3 h4 hbr
      go_wp2_with fail
      refine (implCalls_r op n k Y cy 0 w1.heap.size wo HH1.out.1 HLZ.out HH1.out.rows hk1 hk2 hk3).mono ?_
      rintro e w7 ⟨vc, rfl, ho7, hb7⟩
      obtain ⟨cl, hcl⟩ : ∃ cl, cl = numsUpto (callB ⟨op, n, k⟩) 8 := ⟨_, rfl⟩
      have hcli : ∀ x ∈ cl, I64 x := fun x hx => numsUpto_small _ 8 x (Nat.le_refl _) (hcl ▸ hx)
      have hcll : cl.length ≤ 8 := by rw [hcl]; exact numsUpto_len _ 8
      have HIN := Lib.hid (show ∀ x ∈ cl, x ∈ zs by rw [hcl, HZS.out]; exact fromL_own HV.out HF.out)
      rw [← hcl] at ho7
      obtain ⟨A7, c7, rfl, hI7⟩ := own_ints ho7 hcli
      have HI7 := Lib.hid (show LiesI w7 0 w7.heap.size A7 cl from hI7.mono_ (Nat.zero_le _) (Nat.le_refl _))
      have HD7 := Lib.hid (HDR.out.trans (hb7.mono HDR.out.size))
      have HB7 := Lib.hid (HBR.out.trans (hb7.mono HBR.out.size))
      clear q0 q1 q2 hb7 ho7 hI7 hcl hcli HBR HDR HH1
      go_wp2_with fail
      go_loopw [10] (fun i wr => ∃ (j : Nat), j ≤ cl.length ∧ i = .int .i64 (j : Int) ∧ Below w7.heap.size w7 wr)
        (fun i _ => cl.length - (intOf i).toNat)
      case atStart => exact ⟨0, by omega, rfl, Below.refl _ _⟩
      case round =>
        obtain ⟨woi, hwoi⟩ : ∃ wo, wo = wr := ⟨_, rfl⟩
        rw [← hwoi] at hrel ⊢
        clear hwoi
        obtain ⟨ji, hji, rfl, hbri⟩ := hrel
        by_cases hlti : ji < cl.length
        · obtain ⟨xi, hxi⟩ : ∃ x, cl[ji]? = some x := ⟨_, List.getElem?_eq_getElem hlti⟩
          have HXMi := Lib.hid (HIN.out xi (List.mem_of_getElem? hxi))
          obtain ⟨b4i, o4i, rfl, _, hbb4i, hxii, g4i⟩ := (HI7.out.up hbri) ji xi hxi
          have hjii : (ji : Int) < (cl.length : Int) := by omega
          have HBRi := Lib.hid hbri
          clear hxi hbri
          go_wp2_with fail
          refine (amIn_any zs _ c2 xi woi (HI.out woi (HD7.out.trans (HBRi.out.mono HD7.out.size))) (by omega)).mono ?_
          rintro e w9i ⟨rfl, hb9i⟩
          rw [show decide (xi ∈ zs) = true by simpa using HXMi.out]
          have HB9i := Lib.hid (HBRi.out.trans (hb9i.mono HBRi.out.size))
          clear hb9i g4i HBRi
          go_wp2_with fail
          go_roundw
          case rel => exact ⟨ji + 1, by omega, by go_num, HB9i.out⟩
          case measure => simp [intOf]; omega
        · have hjii : ¬ (ji : Int) < (cl.length : Int) := by omega
          have HBRi := Lib.hid hbri
          clear hbri
          go_wp2_with fail
          have HRi := Lib.hid (HK.out woi (HB7.out.trans (HBRi.out.mono HB7.out.size))).2.2.2.2.2.2
          have hfin : decide ((zs.length : Int) ≤ (ds.length : Int)) = true := by have := HLE.out; simp; omega
          go_ret
          exact ⟨by simp; have := HLE.out; omega, HRi.out⟩
end Go.Proofs.YtiepflaghfjijaaGreat
