/-
  The walk of the law FnOldCalls: true at every input.
-/
import Derived.Test.YtiepflaghfjijaaCliS
import Derived.Test.YtiepflaghfjijaaOldM
import Derived.Test.YtiepflaghfjijaaOldM
import Derived.Test.YtiepflaghfjijaaAm
import Derived.Test.YtiepflaghfjijaaFind
import Derived.Test.YtiepflaghfjijaaTreeP
namespace Go.Proofs.Ytiepflaghfjijaa
open Go.RowKit Go.Shelf
set_option maxRecDepth 100000

set_option maxHeartbeats 1000000 in
theorem drawOld_any (A : Option Addr) (bc : Nat) (bs : List Nat) (w : World) (hB : LiesY w 0 w.heap.size A bs) (hl : bs.length ≤ bc) (hc : bc ≤ maxLen) :
    Calls Try.prog 5 #[.slice A bs.length bc] w (Case2Post w) := by
  obtain ⟨W1, hW1⟩ : ∃ W1, W1 = w.alloc (Obj.cells #[.int .i64 0, .int .i64 0, .slice none 0 0] 26) := ⟨_, rfl⟩
  have hb1 : Below w.heap.size w W1 := by rw [hW1]; exact (Below.refl _ _).alloc (Nat.le_refl _) _
  have hx1 : Row W1 w.heap.size 26 #[.int .i64 0, .int .i64 0, .slice none 0 0] := by rw [hW1]; exact Row.fresh _ _ _
  have HC := Lib.hid (l2Case_any A bc bs W1 ((hB.below hb1).keep (Nat.le_refl _) hb1.size fun _ _ _ => rfl) hl hc)
  have HX1 := Lib.hid hx1
  have HB1 := Lib.hid hb1
  have hg1 : w.heap.size < W1.heap.size := hx1.size
  clear hb1 hx1 hB
  go_enter Try.func5, Try.ntmps5
  go_upto_region 1 with fail
  rw [← hW1]
  clear hW1
  go_wp2_with fail
  refine HC.out.mono ?_
  rintro e w2 ⟨ds, X, c, op, n, k, Y, cy, bl, rfl, ⟨hL, hc1, hc2, hn, hs⟩, hi, ht, hk, hb2⟩
  have r1 := HX1.out.below hb2 hg1
  have f0 := r1.free 0
  have f1 := r1.free 1
  have f2 := r1.free 2
  have d0 := r1.cell (i := 0) rfl
  have d1 := r1.cell (i := 1) rfl
  have d2 := r1.cell (i := 2) rfl
  have HXF := Lib.hid r1
  have HTF := Lib.hid ht
  have HLF := Lib.hid hL
  have HBF := Lib.hid (HB1.out.trans (hb2.mono HB1.out.size))
  have HI := Lib.hid hi
  clear r1 hL ht hb2 hi HC HX1 HB1
  go_wp2_with fail
  have r7 := ((HXF.out.put 0 (.int .i64 op)).put 1 (.int .i64 n)).put 2 (.slice Y k.len cy)
  have t0 := r7.cell (i := 0) rfl
  have t1 := r7.cell (i := 1) rfl
  have t2 := r7.cell (i := 2) rfl
  refine bodyPost_ret (v := .tuple #[.slice X ds.length c, .agg #[.int .i64 op, .int .i64 n, .slice Y k.len cy]]) ?_ rfl (case2_end (HLF.out.mono_ hg1 (Nat.le_refl _)) hc1 hc2 hn hs HI.out (HTF.out.lower hg1) hk HBF.out _ _ _)
  simp [results, Try.f5, go_sem, t0, t1, t2]

/-- A function that is called is found, and is out of use or not. -/
theorem old_find {ds : List De} {op n : Int} {k : Fo} {x : Int} (hf : callsFitB ds op n k = true) (hx : x ∈ numsUpto (callB ⟨op, n, k⟩) 8) : ∃ (p : Nat) (d : De), plc x ds = p ∧ p < ds.length ∧ ds[p]? = some d ∧ oldB ds x = d.old := by
  obtain ⟨v, _, rfl, hc⟩ := numsUpto_mem 8 x hx
  unfold callsFitB at hf
  rw [Bool.and_eq_true] at hf
  obtain ⟨a, ha⟩ := fitN_calls hf.2 hc
  unfold ariS at ha
  rw [Option.map_eq_some_iff] at ha
  obtain ⟨d, hd, _⟩ := ha
  obtain ⟨p, h1, h2, h3⟩ := place_there hd
  refine ⟨p, d, ?_, h3, h2, by unfold oldB; rw [hd]⟩
  unfold plcI at h1
  split at h1
  · omega
  · omega

/-- laws.amIn leaves the memory as it was. -/
theorem amIn_same (zs : List Int) (A : Option Addr) (c : Nat) (n : Int) (w : World) (hl : LiesI w 0 w.heap.size A zs) (hlen : zs.length ≤ 4194304) (t : Bool) (ht : decide (n ∈ zs) = t) :
    Calls Try.prog 13 #[.slice A zs.length c, .int .i64 n] w (Gives (.bool t) w) := by
  rw [← ht]
  exact amIn_any zs A c n w hl hlen

set_option maxHeartbeats 4000000 in
theorem law_NOldCalls (bs : List Nat) (A : Option Addr) (c : Nat) (w : World) (hl : LiesY w 0 w.heap.size A bs) (hlc : bs.length ≤ c) (hc : c ≤ maxLen) :
    Calls Try.prog 3 #[.slice A bs.length c] w (Gives (.bool true) w) := by
  have HC := Lib.hid (drawOld_any A c bs w hl hlc hc)
  unfold maxLen at hc
  by_cases hsz : bs.length ≤ 1048576
  rotate_left
  · have hgt : 1048576 < bs.length := by omega
    go_enter Try.func3, Try.ntmps3
    go_wp2_with fail
    go_ret
    exact ⟨rfl, Below.refl _ _⟩
  clear hl
  go_enter Try.func3, Try.ntmps3
  go_wp2_with fail
  refine HC.out.mono ?_
  rintro e w1 ⟨ds, X, cx, op, n, k, Y, cy, bl, rfl, ⟨hL, hc1, hc2, hn, hs⟩, hi, ht, hk, hb1⟩
  obtain ⟨_, _, hY, hk1, hk2⟩ := ht.slice
  injection hY with hY1 hY2 hY3
  subst hY3
  clear hY1
  obtain ⟨W, hW⟩ : ∃ W, W = w1.alloc (Obj.cells #[.int .i64 op, .int .i64 n, .slice Y k.len cy] 26) := ⟨_, rfl⟩
  have hbW : Below w1.heap.size w1 W := by rw [hW]; exact (Below.refl _ _).alloc (Nat.le_refl _) _
  have HX := Lib.hid (show Row W w1.heap.size 26 #[.int .i64 op, .int .i64 n, .slice Y k.len cy] by rw [hW]; exact Row.fresh _ _ _)
  have HH := Lib.hid ((ht.held).below hbW (Nat.le_refl _))
  have HL := Lib.hid (show LiesD W 0 w1.heap.size X ds from (hL.below hbW).mono_ (Nat.zero_le _) (Nat.le_refl _))
  have HB := Lib.hid (hb1.trans (hbW.mono hb1.size))
  -- what every later world keeps
  have HK := Lib.hid (show ∀ V, Below W.heap.size W V → V.cell? ⟨w1.heap.size, 0, none⟩ = some (.int .i64 op) ∧ V.cell? ⟨w1.heap.size, 1, none⟩ = some (.int .i64 n) ∧ V.cell? ⟨w1.heap.size, 2, none⟩ = some (.slice Y k.len cy) ∧ Held V w1.heap.size Y k ∧ LiesD V 0 w1.heap.size X ds ∧ w1.heap.size ≤ V.heap.size ∧ Below w.heap.size w V from fun V hV => by
    have hx := HX.out.below hV HX.out.size
    exact ⟨hx.cell rfl, hx.cell rfl, hx.cell rfl, HH.out.below hV hbW.size, HL.out.below (hV.mono hbW.size), Nat.le_trans hbW.size hV.size, HB.out.trans (hV.mono HB.out.size)⟩)
  have hk3 : k.size ≤ 1048576 := by omega
  have hkl : k.len ≤ maxLen := Nat.le_trans hk1 hk2
  clear hb1 hbW hL ht HX HH HL HB HC
  go_upto_region 4 with fail
  rw [← hW]
  clear hW
  obtain ⟨v1, hv1⟩ : ∃ v, v = callsFitB ds op n k := ⟨_, rfl⟩
  obtain ⟨v2, hv2⟩ : ∃ v, v = libOk ds := ⟨_, rfl⟩
  obtain ⟨zs, hzs⟩ : ∃ z, z = oldL ds op n k := ⟨_, rfl⟩
  have hzi : ∀ x ∈ zs, I64 x := by rw [hzs]; exact fun x hx => oldL_small x hx
  have hzl : zs.length ≤ 8 := by rw [hzs]; exact oldL_len ds op n k
  have HE := Lib.hid (show (v2 && v1) = false → zs.length = 0 by rw [hv1, hv2, hzs]; intro h; rw [oldL_no h]; rfl)
  have HE2 := Lib.hid (show v2 = true → v1 = true → zs = (numsUpto (callB ⟨op, n, k⟩) 8).filter (oldB ds) by rw [hv1, hv2, hzs]; exact fun h1 h2 => oldL_yes h1 h2)
  have H1 := Lib.hid hv1
  have H2 := Lib.hid hv2
  have HZS := Lib.hid hzs
  have HZI := Lib.hid hzi
  clear hv1 hv2 hzs hzi
  obtain ⟨q0, q1, q2, h1, h2, h3, h4⟩ := HK.out W (Below.refl _ _)
  go_wp2_with fail
  refine (implOld_r ds X cx op n k Y cy 0 w1.heap.size 0 w1.heap.size W h2 h3 h1.1 h3 hs hk1 hk2 hk3).mono ?_
  rintro e w2 ⟨vo, rfl, ho2, hb2⟩
  rw [← HZS.out] at ho2
  obtain ⟨A2, c2, rfl, hI2⟩ := own_ints ho2 HZI.out
  have HB2 := Lib.hid hb2
  have HI := Lib.hid (show ∀ V, Below w2.heap.size w2 V → LiesI V 0 V.heap.size A2 zs from fun V hV => (hI2.mono_ (Nat.zero_le _) (Nat.le_refl _)).up hV)
  clear q0 q1 q2 h1 h2 h3 h4 hb2 ho2 hI2
  obtain ⟨q0, q1, q2, h1, h2, h3, h4⟩ := HK.out w2 HB2.out
  go_wp2_with fail
  refine (specOld_any ds X cx op n k Y cy w2 (h2.mono_ (Nat.le_refl _) h3) (h1.1.mono_ (Nat.le_refl _) h3) hs hkl hk3).mono ?_
  rintro e w3 ⟨vo, rfl, ho3, hb3⟩
  rw [← HZS.out] at ho3
  obtain ⟨A3, c3, rfl, hI3⟩ := own_ints ho3 HZI.out
  have HJ3 := Lib.hid (show LiesI w3 0 w3.heap.size A3 zs from hI3.mono_ (Nat.zero_le _) (Nat.le_refl _))
  have HB3 := Lib.hid (HB2.out.trans (hb3.mono HB2.out.size))
  have HD3 := Lib.hid hb3
  clear q0 q1 q2 h1 h2 h3 h4 hb3 ho3 hI3
  go_wp2_with fail
  refine (amInts_any zs zs A2 A3 c2 c3 w3 (HI.out w3 HD3.out) HJ3.out (by omega) (by omega)).mono ?_
  rintro e w4 ⟨rfl, hb4⟩
  rw [show decide (zs = zs) = true by simp]
  have HB4 := Lib.hid (HB3.out.trans (hb4.mono HB3.out.size))
  have HD4 := Lib.hid (HD3.out.trans (hb4.mono HD3.out.size))
  clear hb4 HJ3 HB3 HD3
  obtain ⟨q0, q1, q2, h1, h2, h3, h4⟩ := HK.out w4 HB4.out
  go_wp2_with fail
  refine (implLibValid_r ds X cx 0 w1.heap.size w4 h2 h3 hs).mono ?_
  rintro e w5 ⟨rfl, hb5⟩
  rw [← H2.out]
  have HB5 := Lib.hid (HB4.out.trans (hb5.mono HB4.out.size))
  have HD5 := Lib.hid (HD4.out.trans (hb5.mono HD4.out.size))
  clear q0 q1 q2 h1 h2 h3 h4 hb5 HB4 HD4
  cases v2 with
  | false =>
    have hm0 : zs.length = 0 := HE.out (by simp)
    have he0 : ((zs.length : Int) == 0) = true := by simp [hm0]
    obtain ⟨q0, q1, q2, h1, h2, h3, h4⟩ := HK.out w5 HB5.out
    clear hm0
    go_wp2_with fail
    refine (specOld_any ds X cx op n k Y cy w5 (h2.mono_ (Nat.le_refl _) h3) (h1.1.mono_ (Nat.le_refl _) h3) hs hkl hk3).mono ?_
    rintro e w7 ⟨vo, rfl, ho3, hb3⟩
    rw [← HZS.out] at ho3
    obtain ⟨A3, c3, rfl, hI3⟩ := own_ints ho3 HZI.out
    have HJ3 := Lib.hid (show LiesI w7 0 w7.heap.size A3 zs from hI3.mono_ (Nat.zero_le _) (Nat.le_refl _))
    have HB7 := Lib.hid (HB5.out.trans (hb3.mono HB5.out.size))
    have HD7 := Lib.hid (HD5.out.trans (hb3.mono HD5.out.size))
    clear q0 q1 q2 h1 h2 h3 h4 hb3 ho3 hI3
    go_wp2_with fail
    refine (amInts_any zs zs A2 A3 c2 c3 w7 (HI.out w7 HD7.out) HJ3.out (by omega) (by omega)).mono ?_
    rintro e w8 ⟨rfl, hb8⟩
    rw [show decide (zs = zs) = true by simp]
    have HR8 := Lib.hid (HK.out w8 (HB7.out.trans (hb8.mono HB7.out.size))).2.2.2.2.2.2
    clear hb8 HJ3
    go_wp2_with fail
    go_ret
    exact ⟨rfl, HR8.out⟩
  | true =>
  obtain ⟨q0, q1, q2, h1, h2, h3, h4⟩ := HK.out w5 HB5.out
  go_wp2_with fail
  refine (implCallsFit_r ds X cx op n k Y cy 0 w1.heap.size w5 (h2.mono_ (Nat.le_refl _) h3) h1.1 h3 (by omega) hk1 hk2 hk3).mono ?_
  rintro e w6 ⟨rfl, hb6⟩
  rw [← H1.out]
  have HB6 := Lib.hid (HB5.out.trans (hb6.mono HB5.out.size))
  have HD6 := Lib.hid (HD5.out.trans (hb6.mono HD5.out.size))
  clear q0 q1 q2 h1 h2 h3 h4 hb6 HB5 HD5
  cases v1 with
  | false =>
    have hm0 : zs.length = 0 := HE.out (by simp)
    have he0 : ((zs.length : Int) == 0) = true := by simp [hm0]
    obtain ⟨q0, q1, q2, h1, h2, h3, h4⟩ := HK.out w6 HB6.out
    clear hm0
    go_wp2_with fail
    refine (specOld_any ds X cx op n k Y cy w6 (h2.mono_ (Nat.le_refl _) h3) (h1.1.mono_ (Nat.le_refl _) h3) hs hkl hk3).mono ?_
    rintro e w7 ⟨vo, rfl, ho3, hb3⟩
    rw [← HZS.out] at ho3
    obtain ⟨A3, c3, rfl, hI3⟩ := own_ints ho3 HZI.out
    have HJ3 := Lib.hid (show LiesI w7 0 w7.heap.size A3 zs from hI3.mono_ (Nat.zero_le _) (Nat.le_refl _))
    have HB7 := Lib.hid (HB6.out.trans (hb3.mono HB6.out.size))
    have HD7 := Lib.hid (HD6.out.trans (hb3.mono HD6.out.size))
    clear q0 q1 q2 h1 h2 h3 h4 hb3 ho3 hI3
    go_wp2_with fail
    refine (amInts_any zs zs A2 A3 c2 c3 w7 (HI.out w7 HD7.out) HJ3.out (by omega) (by omega)).mono ?_
    rintro e w8 ⟨rfl, hb8⟩
    rw [show decide (zs = zs) = true by simp]
    have HR8 := Lib.hid (HK.out w8 (HB7.out.trans (hb8.mono HB7.out.size))).2.2.2.2.2.2
    clear hb8 HJ3
    go_wp2_with fail
    go_ret
    exact ⟨rfl, HR8.out⟩
  | true =>
  have HZF := Lib.hid (HE2.out (by simp) (by simp))
  have HF := Lib.hid H1.out.symm
  clear HE HE2 H1 H2 HZS
  obtain ⟨q0, q1, q2, h1, h2, h3, h4⟩ := HK.out w6 HB6.out
  go_wp2_with fail
  refine (implCalls_r op n k Y cy 0 w1.heap.size w6 h1.1 h3 h1.rows hk1 hk2 hk3).mono ?_
  rintro e w7 ⟨vc, rfl, ho7, hb7⟩
  obtain ⟨cl, hcl⟩ : ∃ cl, cl = numsUpto (callB ⟨op, n, k⟩) 8 := ⟨_, rfl⟩
  have hcli : ∀ x ∈ cl, I64 x := fun x hx => numsUpto_small _ 8 x (Nat.le_refl _) (hcl ▸ hx)
  have hcll : cl.length ≤ 8 := by rw [hcl]; exact numsUpto_len _ 8
  rw [← hcl] at ho7
  obtain ⟨A4, c4, rfl, hI4⟩ := own_ints ho7 hcli
  have HI4 := Lib.hid (show LiesI w7 0 w7.heap.size A4 cl from hI4.mono_ (Nat.zero_le _) (Nat.le_refl _))
  have HB7 := Lib.hid (HB6.out.trans (hb7.mono HB6.out.size))
  have HD7 := Lib.hid (HD6.out.trans (hb7.mono HD6.out.size))
  have HZF2 := Lib.hid (show zs = cl.filter (oldB ds) by rw [HZF.out, hcl])
  have HOF := Lib.hid (show ∀ x ∈ cl, ∃ (p : Nat) (d : De), plc x ds = p ∧ p < ds.length ∧ ds[p]? = some d ∧ oldB ds x = d.old by rw [hcl]; exact fun x hx => old_find HF.out hx)
  clear q0 q1 q2 h1 h2 h3 h4 hb7 ho7 hI4 hcl hcli HZF HF HB6 HD6
  go_wp2_with fail
  go_loopw [7, 8] (fun m i wr => ∃ (j q : Nat), j ≤ cl.length ∧ i = .int .i64 (j : Int) ∧ m = .int .i64 (q : Int) ∧ Hid (q = ((cl.take j).filter (oldB ds)).length) ∧ q ≤ j ∧ Below w7.heap.size w7 wr)
    (fun _ i _ => cl.length - (intOf i).toNat)
  case atStart => exact ⟨0, 0, by omega, rfl, rfl, Lib.hid (by simp), by omega, Below.refl _ _⟩
  case round =>
    obtain ⟨j, q, hj, rfl, rfl, HQ, hqj, hbr⟩ := hrel
    have HBR := Lib.hid hbr
    by_cases hlt : j < cl.length
    · obtain ⟨x, hx⟩ : ∃ x, cl[j]? = some x := ⟨_, List.getElem?_eq_getElem hlt⟩
      obtain ⟨p, d, hp1, hp2, hp3, hp4⟩ := HOF.out x (List.mem_of_getElem? hx)
      obtain ⟨t, ht⟩ : ∃ t, t = d.old := ⟨_, rfl⟩
      have HT := Lib.hid (show decide (x ∈ zs) = t by
        rw [ht, ← hp4, HZF2.out, Bool.eq_iff_iff, decide_eq_true_iff, List.mem_filter]
        exact ⟨fun h => h.2, fun h => ⟨List.mem_of_getElem? hx, h⟩⟩)
      have HQT := Lib.hid (show (t = true → q + 1 = ((cl.take (j + 1)).filter (oldB ds)).length) ∧ (t = false → q = ((cl.take (j + 1)).filter (oldB ds)).length) from ⟨fun h => by
        rw [filter_take_yes hx (by rw [hp4, ← ht]; exact h), List.length_append, ← HQ.out]; rfl, fun h => by
        rw [filter_take_no hx (by rw [hp4, ← ht]; exact h), ← HQ.out]⟩)
      obtain ⟨b4, o4, rfl, _, hbb4, hxi, g4⟩ := (HI4.out.up hbr) j x hx
      have hLD := (HK.out wr (HB7.out.trans (hbr.mono HB7.out.size))).2.2.2.2.1
      have hLZ := (HK.out wr (HB7.out.trans (hbr.mono HB7.out.size))).2.2.2.2.2.1
      have HP := Lib.hid (implFind_any ds X cx wr x (hLD.mono_ (Nat.le_refl _) hLZ) (by omega))
      unfold FindPost at HP
      rw [hp1, if_pos hp2, decide_eq_true hp2] at HP
      obtain ⟨b, o, A', c', rfl, hbb, hbw, hf, g0, g1, g2, _⟩ := hLD p d hp3
      rw [← ht] at g2
      have HG4 := Lib.hid g4
      have HG2 := Lib.hid g2
      have hpi : (p : Int) < (ds.length : Int) := by omega
      have hji : (j : Int) < (cl.length : Int) := by omega
      clear hx hp1 hp3 hp4 ht hLD hf g0 g1 g2 hbr
      go_wp2_with fail
      refine HP.out.mono ?_
      rintro e w8 ⟨rfl, hb8⟩
      have HBD := Lib.hid (show Below wr.heap.size wr w8.drew from hb8.drew)
      have HD8 := Lib.hid (show Below w2.heap.size w2 w8.drew from HD7.out.trans ((HBR.out.trans (hb8.drew.mono HBR.out.size)).mono HD7.out.size))
      have HS8 := Lib.hid (show ∀ w' : World, Below wr.heap.size wr w' → w'.cell? ⟨b, o + p * 6 + 2, none⟩ = some (Value.bool t) ∧ w'.cell? ⟨b4, o4 + j, none⟩ = some (Value.int .i64 x) from
        fun w' hb => ⟨(hb.cell (p := ⟨b, o + p * 6 + 2, none⟩) (Nat.lt_of_lt_of_le hbw hLZ)).trans HG2.out, (hb.cell (p := ⟨b4, o4 + j, none⟩) hbb4).trans HG4.out⟩)
      have s0 := HS8.out _ HBD.out
      clear hb8 HP g4
      go_upto_region 13 with fail
      refine wp_region_held_drew (S := fun w' => w'.cell? ⟨b, o + p * 6 + 2, none⟩ = some (Value.bool t) ∧ w'.cell? ⟨b4, o4 + j, none⟩ = some (Value.int .i64 x)) (by kernel_rfl) s0 (fun hHeld => ?_)
      refine takeW 0 (v := ?vx1_0) rfl (by kernel_rfl) (fun _ _ _ h => h) (by rfl) (by assumption) ?yx1_0 ?rx1_0
      case yx1_0 => (intro w' hSw; (try dsimp only at hSw); go_simp; try with_reducible rfl)
      try simp only [Act.put, List.setIfInBounds_toArray, List.set_cons_zero, List.set_cons_succ, List.getElem_toArray, List.getElem_cons_zero]
      refine takeW 1 (v := ?vx1_1) rfl (by kernel_rfl) (fun _ _ _ h => h) (by rfl) (by assumption) ?yx1_1 ?rx1_1
      case yx1_1 => (intro w' hSw; (try dsimp only at hSw); go_simp; try with_reducible rfl)
      try simp only [Act.put, List.setIfInBounds_toArray, List.set_cons_zero, List.set_cons_succ, List.getElem_toArray, List.getElem_cons_succ, List.getElem_cons_zero]
      refine takeW 2 (v := ?vx1_2) rfl (by kernel_rfl) (fun _ _ _ h => h) (by rfl) (by assumption) ?yx1_2 ?rx1_2
      case yx1_2 => (intro w' hSw; (try dsimp only at hSw); go_simp; try with_reducible rfl)
      try simp only [Act.put, List.setIfInBounds_toArray, List.set_cons_zero, List.set_cons_succ, List.getElem_toArray, List.getElem_cons_succ, List.getElem_cons_zero]
      refine takeW 3 (v := ?vx1_3) rfl (by kernel_rfl) (fun _ _ _ h => h) (by rfl) (by assumption) ?yx1_3 ?rx1_3
      case yx1_3 => (intro w' hSw; (try dsimp only at hSw); go_simp; try with_reducible rfl)
      try simp only [Act.put, List.setIfInBounds_toArray, List.set_cons_zero, List.set_cons_succ, List.getElem_toArray, List.getElem_cons_succ, List.getElem_cons_zero]
      refine takeW 4 (v := ?vx1_4) rfl (by kernel_rfl) (fun _ _ _ h => h) (by rfl) (by assumption) ?yx1_4 ?rx1_4
      case yx1_4 => (intro w' hSw; (try dsimp only at hSw); go_simp; try with_reducible rfl)
      try simp only [Act.put, List.setIfInBounds_toArray, List.set_cons_zero, List.set_cons_succ, List.getElem_toArray, List.getElem_cons_succ, List.getElem_cons_zero]
      refine takeW 5 (v := ?vx1_5) rfl (by kernel_rfl) (fun _ _ _ h => h) (by rfl) (by assumption) ?yx1_5 ?rx1_5
      case yx1_5 => (intro w' hSw; (try dsimp only at hSw); go_simp; try with_reducible rfl)
      try simp only [Act.put, List.setIfInBounds_toArray, List.set_cons_zero, List.set_cons_succ, List.getElem_toArray, List.getElem_cons_succ, List.getElem_cons_zero]
      refine takeW 6 (v := ?vx1_6) rfl (by kernel_rfl) (fun _ _ _ h => h) (by rfl) (by assumption) ?yx1_6 ?rx1_6
      case yx1_6 => (intro w' hSw; (try dsimp only at hSw); go_simp; try with_reducible rfl)
      try simp only [Act.put, List.setIfInBounds_toArray, List.set_cons_zero, List.set_cons_succ, List.getElem_toArray, List.getElem_cons_succ, List.getElem_cons_zero]
      refine takeW 7 (v := ?vx1_7) rfl (by kernel_rfl) (fun _ _ _ h => h) (by rfl) (by assumption) ?yx1_7 ?rx1_7
      case yx1_7 => (intro w' hSw; (try dsimp only at hSw); go_simp; try with_reducible rfl)
      try simp only [Act.put, List.setIfInBounds_toArray, List.set_cons_zero, List.set_cons_succ, List.getElem_toArray, List.getElem_cons_succ, List.getElem_cons_zero]
      refine takeW 8 (v := ?vx1_8) rfl (by kernel_rfl) (fun _ _ _ h => h) (by rfl) (by assumption) ?yx1_8 ?rx1_8
      case yx1_8 => (intro w' hSw; (try dsimp only at hSw); go_simp; try with_reducible rfl)
      try simp only [Act.put, List.setIfInBounds_toArray, List.set_cons_zero, List.set_cons_succ, List.getElem_toArray, List.getElem_cons_succ, List.getElem_cons_zero]
      refine takeW 9 (v := ?vx1_9) rfl (by kernel_rfl) (fun _ _ _ h => h) (by rfl) (by assumption) ?yx1_9 ?rx1_9
      case yx1_9 => (intro w' hSw; (try dsimp only at hSw); go_simp; try with_reducible rfl)
      try simp only [Act.put, List.setIfInBounds_toArray, List.set_cons_zero, List.set_cons_succ, List.getElem_toArray, List.getElem_cons_succ, List.getElem_cons_zero]
      refine takeW 10 (v := ?vx1_10) rfl (by kernel_rfl) (fun _ _ _ h => h) (by rfl) (by assumption) ?yx1_10 ?rx1_10
      case yx1_10 => (intro w' hSw; (try dsimp only at hSw); go_simp; try with_reducible rfl)
      try simp only [Act.put, List.setIfInBounds_toArray, List.set_cons_zero, List.set_cons_succ, List.getElem_toArray, List.getElem_cons_succ, List.getElem_cons_zero]
      refine takeW 11 (v := ?vx1_11) rfl (by kernel_rfl) (fun _ _ _ h => h) (by rfl) (by assumption) ?yx1_11 ?rx1_11
      case yx1_11 => (intro w' hSw; (try dsimp only at hSw); go_simp; try with_reducible rfl)
      try simp only [Act.put, List.setIfInBounds_toArray, List.set_cons_zero, List.set_cons_succ, List.getElem_toArray, List.getElem_cons_succ, List.getElem_cons_zero]
      refine takeW 12 (v := ?vx1_12) rfl (by kernel_rfl) (fun _ _ _ h => h) (by rfl) (by assumption) ?yx1_12 ?rx1_12
      case yx1_12 => (intro w' hSw; (try dsimp only at hSw); go_simp; try with_reducible rfl)
      try simp only [Act.put, List.setIfInBounds_toArray, List.set_cons_zero, List.set_cons_succ, List.getElem_toArray, List.getElem_cons_succ, List.getElem_cons_zero]
      refine wpAnyH_ready (rs := [13]) (by kernel_rfl) (by simp) ?_
      refine AllReadyH.cons rfl (fun K hK => ?_) AllReadyH.nil
      go_simp
      refine (amIn_same zs A2 c2 x w8.drew (HI.out _ HD8.out) (by omega) t HT.out).mono ?_
      rintro e w9 ⟨rfl, hb8⟩
      have HB8 := Lib.hid (show Below wr.heap.size wr w9 from HBD.out.trans (hb8.mono HBD.out.size))
      have st8 := HS8.out _ HB8.out
      refine hK.out _ _ (st8) (fun hHeldB1 => ?_)
      clear hK K
      try simp only [Act.put, List.setIfInBounds_toArray, List.set_cons_zero, List.set_cons_succ, List.getElem_toArray, List.getElem_cons_succ, List.getElem_cons_zero]
      refine takeW 14 (v := ?vx2_14) rfl (by kernel_rfl) (fun _ _ _ h => h) (by rfl) (by assumption) ?yx2_14 ?rx2_14
      case yx2_14 => (intro w' hSw; (try dsimp only at hSw); go_simp; try with_reducible rfl)
      try simp only [Act.put, List.setIfInBounds_toArray, List.set_cons_zero, List.set_cons_succ, List.getElem_toArray, List.getElem_cons_succ, List.getElem_cons_zero]
      refine takeW 15 (v := ?vx2_15) rfl (by kernel_rfl) (fun _ _ _ h => h) (by rfl) (by assumption) ?yx2_15 ?rx2_15
      case yx2_15 => (intro w' hSw; (try dsimp only at hSw); go_simp; try with_reducible rfl)
      try simp only [Act.put, List.setIfInBounds_toArray, List.set_cons_zero, List.set_cons_succ, List.getElem_toArray, List.getElem_cons_succ, List.getElem_cons_zero]
      refine wpAnyH_done (by kernel_rfl) ?_ _
      clear st8
      obtain ⟨st1, st2⟩ := HS8.out _ HB8.out
      have hne : (t != t) = false := by simp
      cases t with
      | false =>
        have HQ9 := Lib.hid (HQT.out.2 rfl)
        go_wp2_with fail
        go_roundw
        case rel => exact ⟨j + 1, q, by omega, by go_num, rfl, HQ9, by omega, HBR.out.trans (HB8.out.mono HBR.out.size)⟩
        case measure => simp [intOf]; omega
      | true =>
        have HQ9 := Lib.hid (HQT.out.1 rfl)
        go_wp2_with fail
        go_roundw
        case rel => exact ⟨j + 1, q + 1, by omega, by go_num, by go_num, HQ9, by omega, HBR.out.trans (HB8.out.mono HBR.out.size)⟩
        case measure => simp [intOf]; omega
    · have hj9 : j = cl.length := by omega
      have hq9 : q = zs.length := by rw [HQ.out, hj9, List.take_length, HZF2.out]
      have he9 : ((q : Int) == (zs.length : Int)) = true := by rw [hq9]; simp
      have HR := Lib.hid (HK.out wr (HB7.out.trans (hbr.mono HB7.out.size))).2.2.2.2.2.2
      have hji : ¬ (j : Int) < (cl.length : Int) := by omega
      clear hq9 hj9 hbr
      go_wp2_with fail
      go_ret
      exact ⟨by simp, HR.out⟩
end Go.Proofs.Ytiepflaghfjijaa
