/-
  Reading a call: spec.l1Call.
-/
import Derived.Test.YtiepflaghfjijaaParN
import Derived.Deep.CutRange
namespace Go.Proofs.Ytiepflaghfjijaa
open Go.RowKit
set_option maxRecDepth 100000

def combN (N : Int) (pre : Fo) : Option (Fo × Nat) → Option (Nd × Nat)
  | none => none
  | some (k, q) => some (⟨3, N, pre.app k⟩, q)

set_option maxHeartbeats 4000000 in
theorem l1Call_any (s : List UInt8) (hs : s.length ≤ 1000000000000) (d : Nat) (ih : ParC s d) (ch : UInt8) (i : Nat) (hch : s[i]? = some ch) (h65 : 65 ≤ ch.toNat) (w : World) :
    Calls Try.prog 67 #[.string ⟨s.toArray⟩, .int .i64 (i : Int), .int .i64 (d : Int)] w (ParPost (callAt s (parseAt s d) ch i) w) := by
  have hlt := (List.getElem?_eq_some_iff.1 hch).1
  have hix := idx_of hch
  have h256 : ch.toNat < 256 := ch.toNat_lt
  have eu : IntKind.u8.wrap ((ch.toNat : Int) - 65) = (ch.toNat : Int) - 65 := by rw [IntKind.wrap_u8]; omega
  have ei : IntKind.i64.wrap ((ch.toNat : Int) - 65) = (ch.toNat : Int) - 65 := by rw [IntKind.wrap_i64]; omega
  obtain ⟨W, hW⟩ : ∃ W, W = (w.alloc (Obj.cells #[.int .i64 0, .int .i64 0, .slice none 0 0] 26)).alloc (Obj.cells #[.int .i64 3, .int .i64 ((ch.toNat : Int) - 65), .slice none 0 0] 26) := ⟨_, rfl⟩
  obtain ⟨hbW, hr0, hr8⟩ := two_boxes w 26 26 #[Value.int .i64 0, Value.int .i64 0, Value.slice none 0 0] #[Value.int .i64 3, Value.int .i64 ((ch.toNat : Int) - 65), Value.slice none 0 0]
  rw [← hW] at hbW hr0 hr8
  have HZ := Lib.hid (show w.heap.size + 1 + 1 ≤ W.heap.size by rw [hW]; simp)
  have HB := Lib.hid hbW
  have HR0 := Lib.hid hr0
  have HR8 := Lib.hid hr8
  have HIH := Lib.hid ih
  have HI3 := Lib.hid (show I64 3 ∧ I64 ((ch.toNat : Int) - 65) from ⟨by unfold I64; omega, by unfold I64; omega⟩)
  obtain ⟨r, hr⟩ : ∃ r, r = callAt s (parseAt s d) ch i := ⟨_, rfl⟩
  rw [← hr]
  have HX := Lib.hid hr
  clear hbW hr0 hr8 ih hr
  go_enter Try.func67, Try.ntmps67
  go_upto_region 2 with fail
  rw [← hW]
  clear hW hix eu ei
  by_cases ho : s[i + 1]? = some 40
  rotate_left
  · have HF := Lib.hid (show r = none by rw [HX.out]; unfold callAt; rw [if_neg ho])
    have HA := Lib.hid (show atB s ((i : Int) + 1) 40 = false by rw [show (i : Int) + 1 = ((i + 1 : Nat) : Int) by omega, atB_nat, decide_eq_false ho])
    clear ho
    go_wp2_with fail
    refine (l1At_lit s ((i : Int) + 1) 40 40 rfl W).mono ?_
    rintro e w9 ⟨rfl, rfl⟩
    rw [HA.out]
    obtain ⟨t0, t1, t2⟩ := put3_cells HR0.out 3 ((ch.toNat : Int) - 65) (.slice none 0 0)
    have f0 := HR0.out.free 0
    have f1 := HR0.out.free 1
    have f2 := HR0.out.free 2
    have d0 := HR0.out.cell (i := 0) rfl
    have d1 := HR0.out.cell (i := 1) rfl
    have d2 := HR0.out.cell (i := 2) rfl
    have v0 := HR8.out.cell (i := 0) rfl
    have v1 := HR8.out.cell (i := 1) rfl
    have v2 := HR8.out.cell (i := 2) rfl
    unfold put3 at t0 t1 t2
    go_wp2_with fail
    refine bodyPost_ret (v := .tuple #[.agg #[.int .i64 3, .int .i64 ((ch.toNat : Int) - 65), .slice none 0 0], .int .i64 (-1)]) ?_ rfl (by rw [HF.out]; exact par_none HB.out (Nat.le_refl w.heap.size) ⟨3, (ch.toNat : Int) - 65, .nil⟩ HI3.out (Tree.none W w.heap.size) (by simp))
    simp [results, Try.f67, go_sem, t0, t1, t2]
  have HA := Lib.hid (show atB s ((i : Int) + 1) 40 = true by rw [show (i : Int) + 1 = ((i + 1 : Nat) : Int) by omega, atB_nat, decide_eq_true ho])
  go_wp2_with fail
  refine (l1At_lit s ((i : Int) + 1) 40 40 rfl W).mono ?_
  rintro e w9 ⟨rfl, rfl⟩
  rw [HA.out]
  clear HA
  by_cases hz : s[i + 2]? = some 41
  · have HF := Lib.hid (show r = some (⟨3, (ch.toNat : Int) - 65, .nil⟩, i + 3) by rw [HX.out]; unfold callAt; rw [if_pos ho, if_pos hz])
    have HA := Lib.hid (show atB s ((i : Int) + 2) 41 = true by rw [show (i : Int) + 2 = ((i + 2 : Nat) : Int) by omega, atB_nat, decide_eq_true hz])
    clear ho hz
    go_wp2_with fail
    refine (l1At_lit s ((i : Int) + 2) 41 41 rfl W).mono ?_
    rintro e w9 ⟨rfl, rfl⟩
    rw [HA.out]
    obtain ⟨t0, t1, t2⟩ := put3_cells HR0.out 3 ((ch.toNat : Int) - 65) (.slice none 0 0)
    have f0 := HR0.out.free 0
    have f1 := HR0.out.free 1
    have f2 := HR0.out.free 2
    have d0 := HR0.out.cell (i := 0) rfl
    have d1 := HR0.out.cell (i := 1) rfl
    have d2 := HR0.out.cell (i := 2) rfl
    have v0 := HR8.out.cell (i := 0) rfl
    have v1 := HR8.out.cell (i := 1) rfl
    have v2 := HR8.out.cell (i := 2) rfl
    unfold put3 at t0 t1 t2
    go_wp2_with fail
    refine bodyPost_ret (v := .tuple #[.agg #[.int .i64 3, .int .i64 ((ch.toNat : Int) - 65), .slice none 0 0], .int .i64 ((i : Int) + 2 + 1)]) ?_ rfl (by rw [HF.out]; exact (show ParPost _ w (.returned (.tuple #[_, .int .i64 ((i : Int) + 2 + 1)])) _ by rw [show (i : Int) + 2 + 1 = ((i + 3 : Nat) : Int) by omega]; exact par_some HB.out (Nat.le_refl w.heap.size) ⟨3, (ch.toNat : Int) - 65, .nil⟩ (i + 3) HI3.out (Tree.none W w.heap.size) (by simp)))
    simp [results, Try.f67, go_sem, t0, t1, t2]
  have HX2 := Lib.hid (show r = combN ((ch.toNat : Int) - 65) .nil (argsAt s (parseAt s d) 4 (i + 2)) by
    rw [HX.out]; unfold callAt; rw [if_pos ho, if_neg hz]
    cases argsAt s (parseAt s d) 4 (i + 2) with
    | none => rfl
    | some x => obtain ⟨x1, x2⟩ := x; rfl)
  have HA := Lib.hid (show atB s ((i : Int) + 2) 41 = false by rw [show (i : Int) + 2 = ((i + 2 : Nat) : Int) by omega, atB_nat, decide_eq_false hz])
  clear ho hz
  go_wp2_with fail
  refine (l1At_lit s ((i : Int) + 2) 41 41 rfl W).mono ?_
  rintro e w9 ⟨rfl, rfl⟩
  rw [HA.out]
  clear HA
  go_wp2_with fail
  go_loopw [1, 9] (fun a u wr => ∃ (j p : Nat) (pre : Fo) (A1 : Option Addr) (c1 : Nat) (bs : List Nat), j ≤ 4 ∧ u = .int .i64 (j : Int) ∧ a = .int .i64 (p : Int) ∧ pre.len = j ∧ p ≤ s.length + 3 ∧
      r = combN ((ch.toNat : Int) - 65) pre (argsAt s (parseAt s d) (4 - j) p) ∧ Tree wr (w.heap.size + 1 + 1) (.slice A1 pre.len c1) pre bs ∧ Row wr w.heap.size 26 #[.int .i64 0, .int .i64 0, .slice none 0 0] ∧
      Row wr (w.heap.size + 1) 26 #[.int .i64 3, .int .i64 ((ch.toNat : Int) - 65), .slice A1 pre.len c1] ∧ Below w.heap.size w wr ∧ w.heap.size + 1 + 1 ≤ wr.heap.size) (fun _ u _ => 4 - (intOf u).toNat)
  case atStart => exact ⟨0, i + 2, .nil, none, 0, [], by omega, rfl, by go_num, rfl, by omega, HX2.out, Tree.none _ _, HR0.out, HR8.out, HB.out, HZ.out⟩
  case round =>
    clear HR0 HR8 HB HX HX2 HZ
    obtain ⟨j, p, pre, A1, c1', bs, hj, rfl, rfl, hpl, hp, hpre, ht, hr0, hr8, hb, hz⟩ := hrel
    have HT := Lib.hid ht
    have HR0 := Lib.hid hr0
    have HR8 := Lib.hid hr8
    have HB := Lib.hid hb
    have HPRE := Lib.hid hpre
    have HPL := Lib.hid hpl
    have HZ := Lib.hid hz
    have hpl2 : pre.len ≤ 1048576 := by omega
    clear hpl ht hr0 hr8 hb hpre hz
    by_cases h4 : j < 4
    rotate_left
    · have e4 : j = 4 := by omega
      have HF := Lib.hid (show r = none by rw [HPRE.out, e4]; rfl)
      have HT' := Lib.hid (HT.out.lower (base' := w.heap.size) (by omega))
      have HAP := Lib.hid (show w.heap.size ∉ bs from fun h => by have := (HT.out.lt _ h).1; omega)
      obtain ⟨t0, t1, t2⟩ := put3_cells HR0.out 3 ((ch.toNat : Int) - 65) (.slice A1 pre.len c1')
      have f0 := HR0.out.free 0
      have f1 := HR0.out.free 1
      have f2 := HR0.out.free 2
      have d0 := HR0.out.cell (i := 0) rfl
      have d1 := HR0.out.cell (i := 1) rfl
      have d2 := HR0.out.cell (i := 2) rfl
      have v0 := HR8.out.cell (i := 0) rfl
      have v1 := HR8.out.cell (i := 1) rfl
      have v2 := HR8.out.cell (i := 2) rfl
      unfold put3 at t0 t1 t2
      go_wp2_with fail
      refine bodyPost_ret (v := .tuple #[.agg #[.int .i64 3, .int .i64 ((ch.toNat : Int) - 65), .slice A1 pre.len c1'], .int .i64 (-1)]) ?_ rfl (by rw [HF.out]; exact par_none HB.out (Nat.le_refl w.heap.size) ⟨3, (ch.toNat : Int) - 65, pre⟩ HI3.out HT'.out HAP.out)
      simp [results, Try.f67, go_sem, t0, t1, t2]
    have HCP := Lib.hid (HIH.out p wr hp)
    obtain ⟨m4, hm4⟩ : ∃ m4, 4 - j = m4 + 1 := ⟨3 - j, by omega⟩
    have HM4 := Lib.hid (show m4 = 4 - (j + 1) by omega)
    rw [hm4] at HPRE
    clear hm4
    go_wp2_with fail
    refine HCP.out.mono ?_
    rintro e w1 ⟨y1, Y1, c1, b1, q1, rfl, hi1, ht1, hb1, hres1⟩
    obtain ⟨W1, hW1⟩ : ∃ W1, W1 = w1.alloc (Obj.cells #[.int .i64 y1.op, .int .i64 y1.n, .slice Y1 y1.k.len c1] 26) := ⟨_, rfl⟩
    have hbw1 : Below w1.heap.size w1 W1 := by rw [hW1]; exact (Below.refl _ _).alloc (Nat.le_refl _) _
    have hb01 := hb1.trans (hbw1.mono hb1.size)
    have HX1 := Lib.hid (show Row W1 w1.heap.size 26 #[.int .i64 y1.op, .int .i64 y1.n, .slice Y1 y1.k.len c1] by rw [hW1]; exact Row.fresh _ _ _)
    have HT5 := Lib.hid (HT.out.over hb01)
    have HK5 := Lib.hid ((ht1.over hbw1).lower (base' := w.heap.size + 1 + 1) HZ.out)
    have HD5 := Lib.hid (show ∀ b, b ∈ bs → b ∈ b1 → False from fun q h1 h2 => by
      have e1 := (HT.out.lt q h1).2
      have e2 := (ht1.lt q h2).1
      omega)
    have HB5 := Lib.hid (HB.out.trans (hb01.mono HB.out.size))
    have HR05 := Lib.hid (HR0.out.below hb01 HR0.out.size)
    have HR85 := Lib.hid (HR8.out.below hb01 HR8.out.size)
    have HZ5 := Lib.hid (Nat.le_trans HZ.out hb01.size)
    have HOB := Lib.hid (show ∀ g, (Value.slice A1 pre.len c1').ownBlock = some g → w.heap.size + 1 + 1 ≤ g ∧ g < wr.heap.size from fun g hg => by
      obtain ⟨st, b1', k1', k2', rfl, _⟩ := HT.out
      exact blk_lt k1' (by unfold blkV; rw [hg]; simp))
    have HGG := Lib.hid (show wr.heap.size ≤ w1.heap.size from hb1.size)
    have HI1 := Lib.hid hi1
    have HS1 := Lib.hid hres1
    clear ht1 hb1 hbw1 hb01 hi1 hres1 HCP HT HB HR0 HR8
    go_upto_region 11 with fail
    rw [← hW1]
    clear hW1
    have x0 := HX1.out.cell (i := 0) rfl
    have x1 := HX1.out.cell (i := 1) rfl
    have x2 := HX1.out.cell (i := 2) rfl
    have s0 := HR85.out.cell (i := 0) rfl
    have s1 := HR85.out.cell (i := 1) rfl
    have s2 := HR85.out.cell (i := 2) rfl
    go_wp2_with (at_builtin; refine wpList_push rfl _ _ rfl (w.heap.size + 1 + 1) (.slice A1 pre.len c1') pre bs b1 y1.op y1.n y1.k Y1 c1 rfl rfl HT5.out HK5.out HI1.out HD5.out hpl2 HZ5.out ?_
                 intro v6 w6 bs6 ht6 hg6 hin6
                 obtain ⟨A6, c6, rfl, hc61, hc62⟩ := ht6.slice
                 have hr86 := row_grown HR85.out hg6 (fun e => by have := HOB.out _ e.symm; omega)
                 have f86 := hr86.free 2
                 have s86 := hr86.cell (i := 2) rfl
                 have HR86 := Lib.hid hr86
                 have HR06 := Lib.hid (row_grown HR05.out hg6 (fun e => by have := HOB.out _ e.symm; omega))
                 have HT6 := Lib.hid ht6
                 have HG6 := Lib.hid hg6
                 clear ht6 hg6 hin6 hc61 hc62 hr86)
    obtain ⟨W7, hW7⟩ : ∃ W7, W7 = w6.setCell ⟨w.heap.size + 1, 2, none⟩ (.slice A6 (pre.snoc y1.op y1.n y1.k).len c6) := ⟨_, rfl⟩
    rw [← hW7]
    have HT7 := Lib.hid (show Tree W7 (w.heap.size + 1 + 1) (.slice A6 (pre.snoc y1.op y1.n y1.k).len c6) (pre.snoc y1.op y1.n y1.k) bs6 by
      rw [hW7]; exact HT6.out.keep fun q hq => Below.heap_setCell _ _ _ q (by have := (HT6.out.lt q hq).1; dsimp only; omega))
    have HR87 := Lib.hid (show Row W7 (w.heap.size + 1) 26 #[.int .i64 3, .int .i64 ((ch.toNat : Int) - 65), .slice A6 (pre.snoc y1.op y1.n y1.k).len c6] by rw [hW7]; exact HR86.out.put 2 _)
    have HR07 := Lib.hid (show Row W7 w.heap.size 26 #[.int .i64 0, .int .i64 0, .slice none 0 0] by rw [hW7]; exact HR06.out.apart (by simp) _)
    have HB7 := Lib.hid (show Below w.heap.size w W7 by
      rw [hW7]
      exact (Below.grown HB5.out HG6.out HB5.out.size (fun g' hg' => by have := HOB.out g' hg'; omega)).setCell (Nat.le_succ _) _)
    have HZ7 := Lib.hid (show w.heap.size + 1 + 1 ≤ W7.heap.size by have h1 := HG6.out.size; have h2 := HZ5.out; rw [hW7]; simp only [World.size_setCell]; omega)
    have HT7' := Lib.hid (HT7.out.lower (base' := w.heap.size) (by omega))
    have HAP := Lib.hid (show w.heap.size ∉ bs6 from fun h => by have := (HT7.out.lt _ h).1; omega)
    clear hW7 x0 x1 x2 s0 s1 s2 f86 s86 HR86 HR06 HT6 HG6 HX1 HR05 HR85 HT5 HK5 HD5 HB5
    cases hp1 : parseAt s d p with
    | none =>
      rw [hp1] at HS1
      have hq1 : q1 = -1 := HS1.out
      subst hq1
      have HF := Lib.hid (show r = none by rw [HPRE.out]; simp only [argsAt, hp1, combN])
      clear hp1
      refine (l1At_lit s (-1) 41 41 rfl W7).mono ?_
      rintro e w9 ⟨rfl, rfl⟩
      rw [atB_none]
      go_wp2_with fail
      refine (l1At_lit s (-1) 44 44 rfl W7).mono ?_
      rintro e w9 ⟨rfl, rfl⟩
      rw [atB_none]
      obtain ⟨t0, t1, t2⟩ := put3_cells HR07.out 3 ((ch.toNat : Int) - 65) (.slice A6 (pre.snoc y1.op y1.n y1.k).len c6)
      have f0 := HR07.out.free 0
      have f1 := HR07.out.free 1
      have f2 := HR07.out.free 2
      have d0 := HR07.out.cell (i := 0) rfl
      have d1 := HR07.out.cell (i := 1) rfl
      have d2 := HR07.out.cell (i := 2) rfl
      have v0 := HR87.out.cell (i := 0) rfl
      have v1 := HR87.out.cell (i := 1) rfl
      have v2 := HR87.out.cell (i := 2) rfl
      unfold put3 at t0 t1 t2
      go_wp2_with fail
      refine bodyPost_ret (v := .tuple #[.agg #[.int .i64 3, .int .i64 ((ch.toNat : Int) - 65), .slice A6 (pre.snoc y1.op y1.n y1.k).len c6], .int .i64 (-1)]) ?_ rfl (by rw [HF.out]; exact par_none HB7.out (Nat.le_refl w.heap.size) ⟨3, (ch.toNat : Int) - 65, pre.snoc y1.op y1.n y1.k⟩ HI3.out HT7'.out HAP.out)
      simp [results, Try.f67, go_sem, t0, t1, t2]
    | some pr1 =>
      obtain ⟨y1', p1⟩ := pr1
      rw [hp1] at HS1
      obtain ⟨rfl, hq1⟩ : y1 = y1' ∧ q1 = (p1 : Int) := HS1.out
      subst hq1
      by_cases hc : s[p1]? = some 41
      · have hl1 := (List.getElem?_eq_some_iff.1 hc).1
        have HF := Lib.hid (show r = some (⟨3, (ch.toNat : Int) - 65, pre.snoc y1.op y1.n y1.k⟩, p1 + 1) by
          rw [HPRE.out]; simp only [argsAt, hp1]; rw [if_pos hc]; simp only [combN]; rw [← Fo.snoc_app, Fo.app_nil])
        have HA := Lib.hid (show atB s (p1 : Int) 41 = true by rw [atB_nat, decide_eq_true hc])
        clear hp1 hc
        refine (l1At_lit s (p1 : Int) 41 41 rfl W7).mono ?_
        rintro e w9 ⟨rfl, rfl⟩
        rw [HA.out]
        obtain ⟨t0, t1, t2⟩ := put3_cells HR07.out 3 ((ch.toNat : Int) - 65) (.slice A6 (pre.snoc y1.op y1.n y1.k).len c6)
        have f0 := HR07.out.free 0
        have f1 := HR07.out.free 1
        have f2 := HR07.out.free 2
        have d0 := HR07.out.cell (i := 0) rfl
        have d1 := HR07.out.cell (i := 1) rfl
        have d2 := HR07.out.cell (i := 2) rfl
        have v0 := HR87.out.cell (i := 0) rfl
        have v1 := HR87.out.cell (i := 1) rfl
        have v2 := HR87.out.cell (i := 2) rfl
        unfold put3 at t0 t1 t2
        go_wp2_with fail
        refine bodyPost_ret (v := .tuple #[.agg #[.int .i64 3, .int .i64 ((ch.toNat : Int) - 65), .slice A6 (pre.snoc y1.op y1.n y1.k).len c6], .int .i64 ((p1 : Int) + 1)]) ?_ rfl (by rw [HF.out]; exact par_some HB7.out (Nat.le_refl w.heap.size) ⟨3, (ch.toNat : Int) - 65, pre.snoc y1.op y1.n y1.k⟩ (p1 + 1) HI3.out HT7'.out HAP.out)
        simp [results, Try.f67, go_sem, t0, t1, t2]
      have HA := Lib.hid (show atB s (p1 : Int) 41 = false by rw [atB_nat, decide_eq_false hc])
      by_cases hc4 : s[p1]? = some 44
      rotate_left
      · have HF := Lib.hid (show r = none by rw [HPRE.out]; simp only [argsAt, hp1]; rw [if_neg hc, if_neg hc4]; rfl)
        have HA4 := Lib.hid (show atB s (p1 : Int) 44 = false by rw [atB_nat, decide_eq_false hc4])
        clear hp1 hc hc4
        refine (l1At_lit s (p1 : Int) 41 41 rfl W7).mono ?_
        rintro e w9 ⟨rfl, rfl⟩
        rw [HA.out]
        go_wp2_with fail
        refine (l1At_lit s (p1 : Int) 44 44 rfl W7).mono ?_
        rintro e w9 ⟨rfl, rfl⟩
        rw [HA4.out]
        obtain ⟨t0, t1, t2⟩ := put3_cells HR07.out 3 ((ch.toNat : Int) - 65) (.slice A6 (pre.snoc y1.op y1.n y1.k).len c6)
        have f0 := HR07.out.free 0
        have f1 := HR07.out.free 1
        have f2 := HR07.out.free 2
        have d0 := HR07.out.cell (i := 0) rfl
        have d1 := HR07.out.cell (i := 1) rfl
        have d2 := HR07.out.cell (i := 2) rfl
        have v0 := HR87.out.cell (i := 0) rfl
        have v1 := HR87.out.cell (i := 1) rfl
        have v2 := HR87.out.cell (i := 2) rfl
        unfold put3 at t0 t1 t2
        go_wp2_with fail
        refine bodyPost_ret (v := .tuple #[.agg #[.int .i64 3, .int .i64 ((ch.toNat : Int) - 65), .slice A6 (pre.snoc y1.op y1.n y1.k).len c6], .int .i64 (-1)]) ?_ rfl (by rw [HF.out]; exact par_none HB7.out (Nat.le_refl w.heap.size) ⟨3, (ch.toNat : Int) - 65, pre.snoc y1.op y1.n y1.k⟩ HI3.out HT7'.out HAP.out)
        simp [results, Try.f67, go_sem, t0, t1, t2]
      have hl1 := (List.getElem?_eq_some_iff.1 hc4).1
      have HF := Lib.hid (show r = combN ((ch.toNat : Int) - 65) (pre.snoc y1.op y1.n y1.k) (argsAt s (parseAt s d) (4 - (j + 1)) (p1 + 1)) by
        rw [HPRE.out, ← HM4.out]; simp only [argsAt, hp1]; rw [if_neg hc, if_pos hc4]
        cases argsAt s (parseAt s d) m4 (p1 + 1) with
        | none => rfl
        | some x => obtain ⟨x1, x2⟩ := x; simp only [combN, Fo.snoc_app])
      have HA4 := Lib.hid (show atB s (p1 : Int) 44 = true by rw [atB_nat, decide_eq_true hc4])
      clear hp1 hc hc4
      refine (l1At_lit s (p1 : Int) 41 41 rfl W7).mono ?_
      rintro e w9 ⟨rfl, rfl⟩
      rw [HA.out]
      go_wp2_with fail
      refine (l1At_lit s (p1 : Int) 44 44 rfl W7).mono ?_
      rintro e w9 ⟨rfl, rfl⟩
      rw [HA4.out]
      go_wp2_with fail
      go_roundw
      case rel => exact ⟨j + 1, p1 + 1, pre.snoc y1.op y1.n y1.k, A6, c6, bs6, by omega, by go_num, by go_num, by rw [Fo.snoc_len, HPL.out], by omega, HF.out, HT7.out, HR07.out, HR87.out, HB7.out, HZ7.out⟩
      case measure => simp [intOf]; omega
end Go.Proofs.Ytiepflaghfjijaa
