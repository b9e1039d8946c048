/-
  The walk of the law FnCallPaths: true at every input.
-/
import Derived.Test.YtbbieamgjbijlaaLawNCallCount
import Derived.Test.YtbbieamgjbijlaaCallsL
import Derived.Test.YtbbieamgjbijlaaAm
namespace Go.Proofs.Ytbbieamgjbijlaa
open Go.RowKit Go.Shelf
set_option maxRecDepth 100000

theorem nums_in {S : Nat → Bool} : ∀ (j : Nat) (x : Int), x ∈ numsUpto S j ↔ ∃ v : Nat, v < j ∧ x = (v : Int) ∧ S v = true
  | 0, x => by simp [numsUpto]
  | j + 1, x => by
    unfold numsUpto
    rw [List.mem_append, nums_in j x]
    constructor
    · rintro (⟨v, h1, h2, h3⟩ | h)
      · exact ⟨v, by omega, h2, h3⟩
      · split at h
        · rename_i hs
          exact ⟨j, by omega, by simpa using h, hs⟩
        · cases h
    · rintro ⟨v, h1, h2, h3⟩
      by_cases hv : v < j
      · exact .inl ⟨v, hv, h2, h3⟩
      · have : v = j := by omega
        subst this
        exact .inr (by rw [if_pos h3, h2]; simp)
/-- A call stands in a list of nodes where a path leads to it. -/
theorem call_path (v : Nat) (o m : Int) (g : Fo) : ∀ (f : Fo) (i : Nat), g.drop i = f → (callF f v = true ↔ ∃ zs, zs ∈ pathsK f i ∧ callsF ⟨o, m, g⟩ (v : Int) zs = true) := by
  have key : ∀ (f : Fo) (g : Fo) (o m : Int) (i : Nat), g.drop i = f → (callF f v = true ↔ ∃ zs, zs ∈ pathsK f i ∧ callsF ⟨o, m, g⟩ (v : Int) zs = true) := by
    intro f
    induction f with
    | nil => intro g o m i _; simp [callF, pathsK]
    | cons o1 m1 k r ihk ihr =>
      intro g o m i e
      have hlt : i < g.len := Classical.byContradiction fun hn => by rw [Fo.drop_ge g i (by omega)] at e; cases e
      have er : g.drop (i + 1) = r := by
        obtain ⟨a, b, d, e1, _⟩ := Fo.drop_of_lt g i hlt
        rw [e] at e1
        injection e1 with _ _ _ e2
        exact e2.symm
      have hin : ∀ y, callsF ⟨o, m, g⟩ (v : Int) ((i : Int) :: y) = callsF ⟨o1, m1, k⟩ (v : Int) y := fun y => by
        unfold callsF
        rw [partN_in (p := ⟨o, m, g⟩) (by omega) (by rw [Int.toNat_natCast]; exact e)]
      simp only [callF, Bool.or_eq_true, pathsK, List.mem_append, List.mem_map]
      rw [ihk k o1 m1 0 (Fo.drop_zero k), ihr g o m (i + 1) er]
      constructor
      · rintro ((h | ⟨zs, h1, h2⟩) | ⟨zs, h1, h2⟩)
        · exact ⟨[(i : Int)], .inl ⟨[], List.mem_cons_self .., rfl⟩, by rw [hin]; exact h⟩
        · exact ⟨(i : Int) :: zs, .inl ⟨zs, List.mem_cons_of_mem _ h1, rfl⟩, by rw [hin]; exact h2⟩
        · exact ⟨zs, .inr h1, h2⟩
      · rintro ⟨zs, (⟨y, hy, rfl⟩ | h1), h2⟩
        · rw [hin] at h2
          rcases List.mem_cons.1 hy with rfl | hy
          · exact .inl (.inl h2)
          · exact .inl (.inr ⟨y, hy, h2⟩)
        · exact .inr ⟨zs, h1, h2⟩
  exact fun f i e => key f g o m i e
theorem callB_path {v : Nat} {o m : Int} {k : Fo} : callB ⟨o, m, k⟩ v = true ↔ ∃ zs, zs ∈ pathsP k ∧ callsF ⟨o, m, k⟩ (v : Int) zs = true := by
  unfold callB pathsP
  rw [Bool.or_eq_true, call_path v o m k k 0 (Fo.drop_zero k)]
  constructor
  · rintro (h | ⟨zs, h1, h2⟩)
    · exact ⟨[], List.mem_cons_self .., h⟩
    · exact ⟨zs, List.mem_cons_of_mem _ h1, h2⟩
  · rintro ⟨zs, h1, h2⟩
    rcases List.mem_cons.1 h1 with rfl | h1
    · exact .inl h2
    · exact .inr ⟨zs, h1, h2⟩
/-- There is a path to a call of a function if the expression calls it. -/
theorem found {op n : Int} {k : Fo} (x : Int) (h : 0 < (pathsB ⟨op, n, k⟩).length) : decide (0 < ((pathsB ⟨op, n, k⟩).filter (callsF ⟨op, n, k⟩ x)).length) = decide (x ∈ numsUpto (callB ⟨op, n, k⟩) 8) := by
  have hv : ndIs ⟨op, n, k⟩ = true := by
    cases hv : ndIs ⟨op, n, k⟩ with
    | true => rfl
    | false => unfold pathsB at h; rw [hv] at h; simp at h
  have hp : pathsB ⟨op, n, k⟩ = pathsP k := by unfold pathsB; rw [hv]; rfl
  rw [hp]
  refine decide_eq_decide.2 ?_
  rw [nums_in, List.length_pos_iff_exists_mem]
  constructor
  · rintro ⟨zs, hz⟩
    obtain ⟨h1, h2⟩ := List.mem_filter.1 hz
    obtain ⟨q, hq⟩ := Option.isSome_iff_exists.1 (pathsP_part (o := op) (m := n) h1)
    unfold ndIs at hv
    obtain ⟨c1, c2⟩ := calls_is hv
    have h3 := calls_part zs ⟨op, n, k⟩ c1 c2 hq
    have h4 := h2
    unfold callsF at h4
    rw [hq] at h4
    simp at h4
    unfold callOk at h3
    rw [h4.1, h4.2] at h3
    have h5 : inVar x = true := by simpa using h3
    unfold inVar at h5
    simp at h5
    refine ⟨x.toNat, by omega, by omega, callB_path.2 ⟨zs, h1, ?_⟩⟩
    rw [show ((x.toNat : Nat) : Int) = x by omega]
    exact h2
  · rintro ⟨v, h1, rfl, h3⟩
    obtain ⟨zs, g1, g2⟩ := callB_path.1 h3
    exact ⟨zs, List.mem_filter.2 ⟨g1, g2⟩⟩

set_option maxHeartbeats 4000000 in
theorem law_NCallPaths (bs : List Nat) (A : Option Addr) (c : Nat) (w : World) (hl : LiesY w 0 w.heap.size A bs) (hlc : bs.length ≤ c) (hc : c ≤ maxLen) :
    Calls Try.prog 5 #[.slice A bs.length c] w (Gives (.bool true) w) := by
  have HC := Lib.hid (drawCallPaths_any A c bs w hl hlc hc)
  unfold maxLen at hc
  by_cases hsz : bs.length ≤ 1048576
  rotate_left
  · have hgt : 1048576 < bs.length := by omega
    go_enter Try.func5, Try.ntmps5
    go_wp2_with fail
    go_ret
    exact ⟨rfl, Below.refl _ _⟩
  clear hl
  go_enter Try.func5, Try.ntmps5
  go_wp2_with fail
  refine HC.out.mono ?_
  rintro e w1 ⟨op, n, k, X, cx, x, rfl, ⟨bl, hi, ht, hs⟩, hxi, hb⟩
  obtain ⟨_, _, hX, hk1, hk2⟩ := ht.slice
  injection hX with hX1 hX2 hX3
  subst hX3
  obtain ⟨W, hW⟩ : ∃ W, W = w1.alloc (Obj.cells #[.int .i64 op, .int .i64 n, .slice X k.len cx] 25) := ⟨_, rfl⟩
  have hbW : Below w1.heap.size w1 W := by rw [hW]; exact (Below.refl _ _).alloc (Nat.le_refl _) _
  have hx : Row W w1.heap.size 25 #[.int .i64 op, .int .i64 n, .slice X k.len cx] := by rw [hW]; exact Row.fresh _ _ _
  have HH := Lib.hid ((ht.held).up hbW)
  have HB := Lib.hid (hb.trans (hbW.mono hb.size))
  have HI := Lib.hid hi
  obtain ⟨zss, hzss⟩ : ∃ z, z = pathsB ⟨op, n, k⟩ := ⟨_, rfl⟩
  have HPT := Lib.hid (show ∀ zs, zs ∈ zss → (partN ⟨op, n, k⟩ zs).isSome = true ∧ smallOk k 14 80 = true ∧ zs.length ≤ 80 from fun zs hz => by
    rw [hzss] at hz
    unfold pathsB at hz
    split at hz
    · rename_i hv
      exact ⟨pathsP_part hz, ndIs_small hv, Nat.le_trans (pathsP_short hz) (nd_small hv)⟩
    · cases hz)
  have hzl : zss.length ≤ 81 := by rw [hzss]; exact pathsB_len _
  obtain ⟨cs, hcs⟩ : ∃ cs, cs = zss.filter (callsF ⟨op, n, k⟩ x) := ⟨_, rfl⟩
  have HFND := Lib.hid (show 0 < zss.length → decide (0 < cs.length) = decide (x ∈ numsUpto (callB ⟨op, n, k⟩) 8) from fun h => by rw [hcs]; rw [hzss] at h ⊢; exact found x h)
  have HIM := Lib.hid (show ∀ w' : World, Below W.heap.size W w' → Calls Try.prog 8 #[.agg #[.int .i64 op, .int .i64 n, .slice X k.len cx]] w' (PathsPost zss w') from fun w' hb' => by rw [hzss]; exact implPaths_any op n k X cx w' (HH.out.up hb').1 (Nat.le_trans hk1 hk2))
  have hcl : cs.length ≤ 81 := by rw [hcs]; exact Nat.le_trans (List.length_filter_le _ _) hzl
  have HCM := Lib.hid (show ∀ zs, zs ∈ cs → ((partN ⟨op, n, k⟩ zs).isSome = true ∧ smallOk k 14 80 = true ∧ zs.length ≤ 80) ∧ ((partN ⟨op, n, k⟩ zs).getD nd0).op = 3 ∧ ((partN ⟨op, n, k⟩ zs).getD nd0).n = x from fun zs hz => by
    rw [hcs] at hz
    obtain ⟨g1, g2⟩ := List.mem_filter.1 hz
    unfold callsF at g2
    simp only [Bool.and_eq_true, decide_eq_true_eq] at g2
    exact ⟨HPT.out zs g1, g2⟩)
  have HC1 := Lib.hid (show ∀ w' : World, Below W.heap.size W w' → Calls Try.prog 17 #[.agg #[.int .i64 op, .int .i64 n, .slice X k.len cx], .int .i64 x] w' (PathsPost cs w') from fun w' hb' => by rw [hcs, hzss]; exact implCallPaths_any op n k X cx x w' (HH.out.up hb').1 hk1 hk2 HI.out)
  have HC2 := Lib.hid (show ∀ w' : World, Below W.heap.size W w' → Calls Try.prog 18 #[.agg #[.int .i64 op, .int .i64 n, .slice X k.len cx], .int .i64 x] w' (PathsPost cs w') from fun w' hb' => by rw [hcs, hzss]; exact specCallPaths_any op n k X cx x w' (HH.out.up hb').1 (Nat.le_trans hk1 hk2) (by omega) HI.out)
  have hS : ∀ w' : World, Below W.heap.size W w' → w'.cell? ⟨w1.heap.size, 0, none⟩ = some (Value.int .i64 op) ∧ w'.cell? ⟨w1.heap.size, 1, none⟩ = some (Value.int .i64 n) ∧ w'.cell? ⟨w1.heap.size, 2, none⟩ = some (Value.slice X k.len cx) := fun w' hb' => ⟨(hx.below hb' hx.size).cell (i := 0) rfl, (hx.below hb' hx.size).cell (i := 1) rfl, (hx.below hb' hx.size).cell (i := 2) rfl⟩
  have HS0 := Lib.hid hS
  clear hb hbW ht hX1 HC hi hzss hcs hxi hS hx HPT
  go_upto_region 4 with fail
  rw [← hW]
  clear hW
  obtain ⟨s0, s1, s2⟩ := HS0.out _ (Below.refl _ _)
  go_wp2_with fail
  refine (HC1.out W (Below.refl _ _)).mono ?_
  rintro e w2 ⟨Al, cl, bl2, rfl, hol, hb2⟩
  have HLL := Lib.hid hol.lies0
  have HBW2 := Lib.hid hb2
  clear hol hb2 s0 s1 s2
  obtain ⟨s0, s1, s2⟩ := HS0.out _ HBW2.out
  go_wp2_with fail
  refine (HC2.out w2 HBW2.out).mono ?_
  rintro e w3 ⟨Am, cm, bl3, rfl, hom, hb3⟩
  have HLM := Lib.hid hom.lies0
  have HL3 := Lib.hid (HLL.out.up hb3)
  have HBW3 := Lib.hid (HBW2.out.trans (hb3.mono HBW2.out.size))
  clear hom hb3 s0 s1 s2 HBW2 HLL
  go_wp2_with fail
  refine (amPaths_any cs Al Am cl cm w3 HL3.out HLM.out (by omega) (fun zs hz => Nat.le_trans (HCM.out zs hz).1.2.2 (by decide))).mono ?_
  rintro e w4 ⟨rfl, hb4⟩
  have HL4 := Lib.hid (HL3.out.up hb4)
  have HBW4 := Lib.hid (HBW3.out.trans (hb4.mono HBW3.out.size))
  clear hb4 HBW3 HL3 HLM
  obtain ⟨s0, s1, s2⟩ := HS0.out _ HBW4.out
  go_wp2_with fail
  refine (HIM.out w4 HBW4.out).mono ?_
  rintro e w5 ⟨Ap, cp, bl5, rfl, _, hb5⟩
  have HL5 := Lib.hid (HL4.out.up hb5)
  have HBW5 := Lib.hid (HBW4.out.trans (hb5.mono HBW4.out.size))
  clear hb5 HBW4 HL4 s0 s1 s2
  by_cases hz0 : zss.length = 0
  · have b1 : ((zss.length : Int) == 0) = true := by rw [hz0]; rfl
    obtain ⟨s0, s1, s2⟩ := HS0.out _ HBW5.out
    clear hz0
    go_wp2_with fail
    refine (HC2.out w5 HBW5.out).mono ?_
    rintro e w6 ⟨An, cn, bl6, rfl, hon, hb6⟩
    have HLN := Lib.hid hon.lies0
    have HL6 := Lib.hid (HL5.out.up hb6)
    have HBW6 := Lib.hid (HBW5.out.trans (hb6.mono HBW5.out.size))
    clear hon hb6 s0 s1 s2
    go_wp2_with fail
    refine (amPaths_any cs Al An cl cn w6 HL6.out HLN.out (by omega) (fun zs hz => Nat.le_trans (HCM.out zs hz).1.2.2 (by decide))).mono ?_
    rintro e w7 ⟨rfl, hb7⟩
    have HB7 := Lib.hid (HB.out.trans ((HBW6.out.trans (hb7.mono HBW6.out.size)).mono HB.out.size))
    clear hb7
    go_wp2_with fail
    go_ret
    exact ⟨rfl, HB7.out⟩
  · have b1 : ((zss.length : Int) == 0) = false := beq_eq_false_iff_ne.2 (by omega)
    have HF := Lib.hid (HFND.out (by omega))
    clear hz0 HIM HC1 HC2 HFND
    go_wp2_with fail
    clear b1
    go_loopw [6] (fun i wr => ∃ (j : Nat), j ≤ cs.length ∧ i = .int .i64 (j : Int) ∧ Below w5.heap.size w5 wr)
      (fun i _ => cs.length - (intOf i).toNat)
    case atStart => exact ⟨0, Nat.zero_le _, rfl, Below.refl _ _⟩
    case round =>
      obtain ⟨j, hj, rfl, hbr⟩ := hrel
      have hlr := HL5.out.up hbr
      have hbW := HBW5.out.trans (hbr.mono HBW5.out.size)
      have hh := HH.out.up hbW
      by_cases hlt : j < cs.length
      · have e1 := List.getElem?_eq_getElem hlt
        generalize cs[j] = zs at e1
        obtain ⟨⟨hps, hsm, hsl⟩, hyo, hyn⟩ := HCM.out zs (List.mem_of_getElem? e1)
        obtain ⟨b, o, A', c', hA, _, hbb, hc, hli⟩ := hlr j zs e1
        subst hA
        have hS : ∀ w' : World, Below wr.heap.size wr w' → w'.cell? ⟨w1.heap.size, 0, none⟩ = some (Value.int .i64 op) ∧ w'.cell? ⟨w1.heap.size, 1, none⟩ = some (Value.int .i64 n) ∧ w'.cell? ⟨w1.heap.size, 2, none⟩ = some (Value.slice X k.len cx) ∧ w'.cell? ⟨b, o + j, none⟩ = some (Value.slice A' zs.length c') := fun w' hb' => by
          obtain ⟨t0, t1, t2⟩ := HS0.out w' (hbW.trans (hb'.mono hbW.size))
          exact ⟨t0, t1, t2, (hb'.cell (p := ⟨b, o + j, none⟩) hbb).trans hc⟩
        obtain ⟨y, hy⟩ : ∃ y, y = (partN ⟨op, n, k⟩ zs).getD nd0 := ⟨_, rfl⟩
        have hcon := fun (w' : World) (hb' : Below wr.heap.size wr w') => implPart_o op n k X cx zs A' c' 0 w'.heap.size w' (hh.up hb').1 (Nat.le_refl _) (.inl hsm) hk1 hk2 (hli.up hb') (by omega) (by omega) HI.out
        rw [← hy, hps] at hcon
        rw [← hy] at hyo hyn
        have HS := Lib.hid hS
        have HCON := Lib.hid hcon
        have HBR := Lib.hid hbr
        have HYO := Lib.hid hyo
        have HYN := Lib.hid hyn
        have qc := hc
        clear hlr hbW hh e1 hps hsm hS hcon hbr hc hli hy hyo hyn
        go_upto_region 10 with fail
        clear qc
        go_cut [7, 8] from 43 to 52 (fun p s wd => s = .bool true ∧ ∃ g A9 c9, p = .pointer (some ⟨g, 0, none⟩) ∧ Row wd g 25 #[.int .i64 y.op, .int .i64 y.n, .slice A9 y.k.len c9] ∧ wr.heap.size ≤ g ∧ Below wr.heap.size wr wd)
        case first =>
          have b0 : Below wr.heap.size wr wr.drew := (Below.refl _ _).drew
          have bp : Below wr.heap.size wr (wr.alloc (Obj.cells #[Value.int .i64 0, Value.int .i64 0, Value.slice none 0 0] 25)).drew := ((Below.refl _ _).alloc (Nat.le_refl _) _).drew
          have C0 := Lib.hid (HCON.out _ b0)
          have CP := Lib.hid (HCON.out _ bp)
          have s0 := HS.out _ b0
          have sp := HS.out _ bp
          have B0 := Lib.hid b0
          have BP := Lib.hid bp
          have RP := Lib.hid (show Row (wr.alloc (Obj.cells #[Value.int .i64 0, Value.int .i64 0, Value.slice none 0 0] 25)).drew wr.heap.size 25 #[Value.int .i64 0, Value.int .i64 0, Value.slice none 0 0] from (Row.fresh _ _ _).drew)
          clear b0 bp
          go_region_held3 (fun w' => w'.cell? ⟨w1.heap.size, 0, none⟩ = some (Value.int .i64 op) ∧ w'.cell? ⟨w1.heap.size, 1, none⟩ = some (Value.int .i64 n) ∧ w'.cell? ⟨w1.heap.size, 2, none⟩ = some (Value.slice X k.len cx) ∧ w'.cell? ⟨b, o + j, none⟩ = some (Value.slice A' zs.length c'))
            (first | with_reducible exact s0 | with_reducible exact sp | with_reducible exact s3 | with_reducible exact s4 | with_reducible exact s3z | fail)
            (first
              | (go_at_call 11
                 with_reducible refine CP.out.mono ?_
                 rintro e vd ⟨A5, c5, b5, rfl, ht5, hb5⟩
                 have hb := BP.out.trans (hb5.mono BP.out.size)
                 have r5 := (RP.out).below hb5 ((RP.out).size)
                 have f0 := r5.free 0
                 have f1 := r5.free 1
                 have f2 := r5.free 2
                 have d0 := r5.cell (i := 0) rfl
                 have d1 := r5.cell (i := 1) rfl
                 have d2 := r5.cell (i := 2) rfl
                 have hbs := ((hb.setCell (p := ⟨wr.heap.size, 0, none⟩) (Nat.le_refl _) (.int .i64 y.op)).setCell (p := ⟨wr.heap.size, 1, none⟩) (Nat.le_refl _) (.int .i64 y.n)).setCell (p := ⟨wr.heap.size, 2, none⟩) (Nat.le_refl _) (.slice A5 y.k.len c5)
                 have s3 := HS.out _ hb
                 have s4 := HS.out _ hbs
                 have HEND := Lib.hid (show ∃ g A6 c6, Value.pointer (some ⟨wr.heap.size, 0, none⟩) = .pointer (some ⟨g, 0, none⟩) ∧ Row (((vd.setCell ⟨wr.heap.size, 0, none⟩ (.int .i64 y.op)).setCell ⟨wr.heap.size, 1, none⟩ (.int .i64 y.n)).setCell ⟨wr.heap.size, 2, none⟩ (.slice A5 y.k.len c5)) g 25 #[.int .i64 y.op, .int .i64 y.n, .slice A6 y.k.len c6] ∧ wr.heap.size ≤ g ∧ Below wr.heap.size wr (((vd.setCell ⟨wr.heap.size, 0, none⟩ (.int .i64 y.op)).setCell ⟨wr.heap.size, 1, none⟩ (.int .i64 y.n)).setCell ⟨wr.heap.size, 2, none⟩ (.slice A5 y.k.len c5)) from ⟨wr.heap.size, A5, c5, rfl, ((r5.put 0 _).put 1 _).put 2 _, Nat.le_refl _, hbs⟩)
                 clear ht5 hb5 hb r5 hbs)
              | (go_at_call 11
                 with_reducible refine C0.out.mono ?_
                 rintro e vd ⟨A5, c5, b5, rfl, ht5, hb5⟩
                 have hb := B0.out.trans (hb5.mono B0.out.size)
                 have hba := hb.alloc hb.size (Obj.cells #[Value.int .i64 y.op, Value.int .i64 y.n, Value.slice A5 y.k.len c5] 25)
                 have s3 := HS.out _ hb
                 have s4 := HS.out _ hba
                 have s3z := HS.out _ (hb.alloc hb.size (Obj.cells #[Value.int .i64 0, Value.int .i64 0, Value.slice none 0 0] 25))
                 have HEND := Lib.hid (show ∃ g A6 c6, Value.pointer (some ⟨vd.heap.size, 0, none⟩) = .pointer (some ⟨g, 0, none⟩) ∧ Row (vd.alloc (Obj.cells #[Value.int .i64 y.op, Value.int .i64 y.n, Value.slice A5 y.k.len c5] 25)) g 25 #[.int .i64 y.op, .int .i64 y.n, .slice A6 y.k.len c6] ∧ wr.heap.size ≤ g ∧ Below wr.heap.size wr (vd.alloc (Obj.cells #[Value.int .i64 y.op, Value.int .i64 y.n, Value.slice A5 y.k.len c5] 25)) from ⟨vd.heap.size, A5, c5, rfl, Row.fresh _ _ _, hb.size, hba⟩)
                 clear ht5 hb5 hb hba)
              | fail)
          all_goals
            go_wp2_with fail
            go_meet
            exact ⟨rfl, HEND.out⟩
        case rest =>
          obtain ⟨rfl, g9, A9, c9, rfl, hr9, hg9, hb9⟩ := hcut
          obtain ⟨wz, hwz⟩ : ∃ v, v = wc := ⟨_, rfl⟩
          rw [← hwz] at hr9 hb9 ⊢
          have HB9 := Lib.hid (HBR.out.trans (hb9.mono HBR.out.size))
          have d0 := hr9.cell (i := 0) rfl
          have d1 := hr9.cell (i := 1) rfl
          have b1 : (y.op != 3) = false := by rw [HYO.out]; rfl
          have b2 : (y.n != x) = false := by rw [HYN.out]; simp
          clear hwz wc hr9 hg9 hb9 HCON HS HBR
          go_wp2_with fail
          go_roundw
          case rel => exact ⟨j + 1, hlt, by go_num, HB9.out⟩
          case measure => simp [intOf]; omega
      · obtain ⟨s0, s1, s2⟩ := HS0.out _ hbW
        have HCO := Lib.hid (implCalls_r op n k X cx 0 wr.heap.size wr hh.1 (Nat.le_refl _) hh.rows hk1 hk2 (by omega))
        have HBZ := Lib.hid hbW
        obtain ⟨ns, hns⟩ : ∃ ns, ns = numsUpto (callB ⟨op, n, k⟩) 8 := ⟨_, rfl⟩
        have hnl : ns.length ≤ 8 := by rw [hns]; exact numsUpto_len _ 8
        have HNI := Lib.hid (show ∀ y ∈ ns, I64 y from fun y hy => by rw [hns] at hy; exact numsUpto_small _ 8 y (by decide) hy)
        rw [← hns] at HCO HF
        clear hlr hbW hh hbr hns
        go_wp2_with fail
        refine HCO.out.mono ?_
        rintro e w6 ⟨v6, rfl, ho6, hb6⟩
        obtain ⟨A6, c6, rfl, hI6⟩ := own_ints ho6 HNI.out
        have HAM := Lib.hid (amIn_any ns A6 c6 x w6 (hI6.mono_ (Nat.zero_le _) (Nat.le_refl _)) (by omega))
        have HB6 := Lib.hid (HBZ.out.trans (hb6.mono HBZ.out.size))
        clear HCO ho6 hb6 hI6 s0 s1 s2
        go_wp2_with fail
        refine HAM.out.mono ?_
        rintro e w7 ⟨rfl, hb7⟩
        have HB7 := Lib.hid (HB.out.trans ((HB6.out.trans (hb7.mono HB6.out.size)).mono HB.out.size))
        clear HAM hb7
        rw [← HF.out]
        by_cases hc0 : 0 < cs.length
        · have b4 : decide (0 < cs.length) = true := by simpa using hc0
          rw [b4]
          go_wp2_with fail
          go_ret
          exact ⟨rfl, HB7.out⟩
        · have b4 : decide (0 < cs.length) = false := by simpa using hc0
          rw [b4]
          go_wp2_with fail
          go_ret
          exact ⟨rfl, HB7.out⟩
end Go.Proofs.Ytbbieamgjbijlaa
