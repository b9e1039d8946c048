/-
  The walk of the law FnCallCount: true at every input.
-/
import Derived.Test.YtbbieamgjbijlaaDrawCP
import Derived.Test.YtbbieamgjbijlaaTreeP
import Derived.Test.YtbbieamgjbijlaaPartI
import Derived.Test.YtbbieamgjbijlaaCallS
import Derived.Test.YtbbieamgjbijlaaAmP
namespace Go.Proofs.Ytbbieamgjbijlaa
open Go.RowKit Go.Shelf
set_option maxRecDepth 100000

/-- A call names a function. -/
def callOk (op n : Int) : Bool := !decide (op = 3) || inVar n
def callOkF : Fo → Bool
  | .nil => true
  | .cons op n k r => (callOk op n && callOkF k) && callOkF r
theorem callOk_own {op n : Int} {S : Nat → Bool} (h : ownOk op n S = true) : callOk op n = true := by
  unfold callOk
  by_cases h3 : op = 3
  · subst h3
    have : inVar n = true := by simpa [ownOk] using h
    simp [this]
  · simp [h3]
theorem calls_shape : ∀ (f : Fo) (op n : Int) (i : Nat) (S : Nat → Bool) (d : Nat), shapeF op n i S d f = true → callOkF f = true
  | .nil, _, _, _, _, _, _ => rfl
  | .cons o m k r, op, n, i, S, d, h => by
    simp only [shapeF, Bool.and_eq_true] at h
    obtain ⟨⟨⟨⟨_, h2⟩, h3⟩, h4⟩, h5⟩ := h
    have e1 := calls_shape k o m 0 _ _ h4
    have e2 := calls_shape r op n (i + 1) S d h5
    simp [callOkF, e1, e2, callOk_own h3]
theorem calls_is {op n : Int} {k : Fo} {S : Nat → Bool} (h : nodeIs op n k S = true) : callOk op n = true ∧ callOkF k = true := by
  unfold nodeIs nodeShape at h
  simp only [Bool.and_eq_true] at h
  obtain ⟨⟨⟨⟨_, h2⟩, h3⟩, h4⟩, _⟩ := h
  exact ⟨callOk_own h3, calls_shape k op n 0 S _ h4⟩
theorem callOkF_drop : ∀ (f : Fo) (j : Nat) {o m : Int} {k r : Fo}, callOkF f = true → f.drop j = .cons o m k r → callOk o m = true ∧ callOkF k = true
  | .nil, j, _, _, _, _, _, e => by rw [Fo.drop_nil] at e; cases e
  | .cons _ _ _ _, 0, _, _, _, _, h, e => by rw [Fo.drop_zero] at e; cases e; simp only [callOkF, Bool.and_eq_true] at h; exact h.1
  | .cons _ _ _ r, j + 1, _, _, _, _, h, e => by simp only [callOkF, Bool.and_eq_true] at h; exact callOkF_drop r j h.2 e
theorem calls_part : ∀ (zs : List Int) (p : Nd) {q : Nd}, callOk p.op p.n = true → callOkF p.k = true → partN p zs = some q → callOk q.op q.n = true
  | [], p, q, h, _, e => by simp [partN] at e; rw [← e]; exact h
  | i :: r, p, q, h, h2, e => by
    by_cases h0 : 0 ≤ i
    · by_cases h1 : i.toNat < p.k.len
      · obtain ⟨o, m, k, e1, e2, e3⟩ := Fo.drop_of_lt p.k i.toNat h1
        rw [partN_in h0 e1] at e
        obtain ⟨g1, g2⟩ := callOkF_drop p.k i.toNat h2 e1
        exact calls_part r ⟨o, m, k⟩ g1 g2 e
      · rw [partN_out (by omega)] at e; cases e
    · rw [partN_neg (by omega)] at e; cases e

/-- Is the part at a path a call? -/
def isCallF (p : Nd) (zs : List Int) : Bool := decide (((partN p zs).getD nd0).op = 3)
/-- How many paths lead to a call of one of the first j functions. -/
def sumF (p : Nd) (l : List (List Int)) : Nat → Nat
  | 0 => 0
  | j + 1 => sumF p l j + (l.filter (callsF p (j : Int))).length
theorem sumF_cons (p : Nd) (z : List Int) (l : List (List Int)) : ∀ j : Nat, sumF p (z :: l) j = (if isCallF p z = true ∧ 0 ≤ ((partN p z).getD nd0).n ∧ ((partN p z).getD nd0).n < (j : Int) then 1 else 0) + sumF p l j
  | 0 => by simp [sumF]
  | j + 1 => by
    simp only [sumF, sumF_cons p z l j, List.filter_cons]
    by_cases hc : isCallF p z = true
    · by_cases hn : ((partN p z).getD nd0).n = (j : Int)
      · have h1 : callsF p (j : Int) z = true := by unfold callsF; unfold isCallF at hc; rw [hc, hn]; simp
        rw [if_pos h1, if_neg (by omega), if_pos (by refine ⟨hc, ?_, ?_⟩ <;> omega), List.length_cons]
        omega
      · have h1 : callsF p (j : Int) z = false := by unfold callsF; simp [hn]
        rw [h1]
        simp only [Bool.false_eq_true, if_false]
        by_cases h2 : 0 ≤ ((partN p z).getD nd0).n ∧ ((partN p z).getD nd0).n < (j : Int)
        · rw [if_pos ⟨hc, h2⟩, if_pos (by refine ⟨hc, ?_, ?_⟩ <;> omega)]
          omega
        · rw [if_neg (fun h => h2 h.2), if_neg (fun h => h2 (by omega))]
          omega
    · have h1 : callsF p (j : Int) z = false := by unfold callsF; unfold isCallF at hc; simp at hc; simp [hc]
      rw [h1]
      simp only [Bool.false_eq_true, if_false]
      rw [if_neg (fun h => hc h.1), if_neg (fun h => hc h.1)]
      omega
theorem sumF_all (p : Nd) : ∀ l : List (List Int), (∀ z, z ∈ l → isCallF p z = true → 0 ≤ ((partN p z).getD nd0).n ∧ ((partN p z).getD nd0).n < 8) → sumF p l 8 = (l.filter (isCallF p)).length
  | [], _ => by simp [sumF]
  | z :: l, h => by
    rw [sumF_cons, sumF_all p l fun y hy => h y (List.mem_cons_of_mem _ hy), List.filter_cons]
    by_cases hc : isCallF p z = true
    · have := h z (List.mem_cons_self ..) hc
      rw [if_pos ⟨hc, by omega, by omega⟩, if_pos hc, List.length_cons]
      omega
    · rw [if_neg (fun h => hc h.1), if_neg hc]
      omega
theorem sumF_le (p : Nd) (l : List (List Int)) : ∀ j : Nat, sumF p l j ≤ j * l.length
  | 0 => by simp [sumF]
  | j + 1 => by
    have h1 := sumF_le p l j
    have h2 := List.length_filter_le (callsF p (j : Int)) l
    simp only [sumF, Nat.add_mul]
    omega
theorem count_ok {op n : Int} {k : Fo} : sumF ⟨op, n, k⟩ (pathsB ⟨op, n, k⟩) 8 = ((pathsB ⟨op, n, k⟩).filter (isCallF ⟨op, n, k⟩)).length := by
  refine sumF_all _ _ fun z hz hc => ?_
  unfold pathsB at hz
  split at hz
  · rename_i hv
    unfold ndIs at hv
    obtain ⟨h1, h2⟩ := calls_is hv
    have hp := pathsP_part (o := op) (m := n) hz
    obtain ⟨q, hq⟩ := Option.isSome_iff_exists.1 hp
    have h3 := calls_part z ⟨op, n, k⟩ h1 h2 hq
    unfold isCallF at hc
    rw [hq] at hc ⊢
    simp only [Option.getD_some, decide_eq_true_eq] at hc ⊢
    unfold callOk at h3
    rw [hc] at h3
    have h4 : inVar q.n = true := by simpa using h3
    unfold inVar at h4
    simp at h4
    omega
  · cases hz

set_option maxHeartbeats 4000000 in
theorem law_NCallCount (bs : List Nat) (A : Option Addr) (c : Nat) (w : World) (hl : LiesY w 0 w.heap.size A bs) (hlc : bs.length ≤ c) (hc : c ≤ maxLen) :
    Calls Try.prog 6 #[.slice A bs.length c] w (Gives (.bool true) w) := by
  have HC := Lib.hid (drawCallPaths_any A c bs w hl hlc hc)
  unfold maxLen at hc
  by_cases hsz : bs.length ≤ 1048576
  rotate_left
  · have hgt : 1048576 < bs.length := by omega
    go_enter Try.func6, Try.ntmps6
    go_wp2_with fail
    go_ret
    exact ⟨rfl, Below.refl _ _⟩
  clear hl
  go_enter Try.func6, Try.ntmps6
  go_wp2_with fail
  refine HC.out.mono ?_
  rintro e w1 ⟨op, n, k, X, cx, x, rfl, ⟨bl, hi, ht, hs⟩, hxi, hb⟩
  obtain ⟨_, _, hX, hk1, hk2⟩ := ht.slice
  injection hX with hX1 hX2 hX3
  subst hX3
  obtain ⟨W, hW⟩ : ∃ W, W = w1.alloc (Obj.cells #[.int .i64 op, .int .i64 n, .slice X k.len cx] 25) := ⟨_, rfl⟩
  have hbW : Below w1.heap.size w1 W := by rw [hW]; exact (Below.refl _ _).alloc (Nat.le_refl _) _
  have hx : Row W w1.heap.size 25 #[.int .i64 op, .int .i64 n, .slice X k.len cx] := by rw [hW]; exact Row.fresh _ _ _
  have HX := Lib.hid hx
  have HH := Lib.hid ((ht.held).up hbW)
  have HB := Lib.hid (hb.trans (hbW.mono hb.size))
  have HI := Lib.hid hi
  obtain ⟨zss, hzss⟩ : ∃ z, z = pathsB ⟨op, n, k⟩ := ⟨_, rfl⟩
  have HPT := Lib.hid (show ∀ zs, zs ∈ zss → (partN ⟨op, n, k⟩ zs).isSome = true ∧ smallOk k 14 80 = true ∧ zs.length ≤ 80 from fun zs hz => by
    rw [hzss] at hz
    unfold pathsB at hz
    split at hz
    · rename_i hv
      exact ⟨pathsP_part hz, ndIs_small hv, Nat.le_trans (pathsP_short hz) (nd_small hv)⟩
    · cases hz)
  have hzl : zss.length ≤ 81 := by rw [hzss]; exact pathsB_len _
  have HCNT := Lib.hid (show sumF ⟨op, n, k⟩ zss 8 = (zss.filter (isCallF ⟨op, n, k⟩)).length by rw [hzss]; exact count_ok)
  have HIM := Lib.hid (show ∀ w' : World, Below W.heap.size W w' → Calls Try.prog 8 #[.agg #[.int .i64 op, .int .i64 n, .slice X k.len cx]] w' (PathsPost zss w') from fun w' hb' => by rw [hzss]; exact implPaths_any op n k X cx w' (HH.out.up hb').1 (Nat.le_trans hk1 hk2))
  have HIC := Lib.hid (show ∀ (w' : World) (y : Int), Below W.heap.size W w' → Calls Try.prog 17 #[.agg #[.int .i64 op, .int .i64 n, .slice X k.len cx], .int .i64 y] w' (PathsPost (zss.filter (callsF ⟨op, n, k⟩ y)) w') from fun w' y hb' => by rw [hzss]; exact implCallPaths_any op n k X cx y w' (HH.out.up hb').1 hk1 hk2 HI.out)
  obtain ⟨cs, hcs⟩ : ∃ cs, cs = zss.filter (callsF ⟨op, n, k⟩ x) := ⟨_, rfl⟩
  have hcl : cs.length ≤ 81 := by rw [hcs]; exact Nat.le_trans (List.length_filter_le _ _) hzl
  have HCM := Lib.hid (show ∀ zs, zs ∈ cs → zs.length ≤ 80 from fun zs hz => by rw [hcs] at hz; exact (HPT.out zs (List.mem_filter.1 hz).1).2.2)
  have HC1 := Lib.hid (show ∀ w' : World, Below W.heap.size W w' → Calls Try.prog 17 #[.agg #[.int .i64 op, .int .i64 n, .slice X k.len cx], .int .i64 x] w' (PathsPost cs w') from fun w' hb' => by rw [hcs]; exact HIC.out w' x hb')
  have HC2 := Lib.hid (show ∀ w' : World, Below W.heap.size W w' → Calls Try.prog 18 #[.agg #[.int .i64 op, .int .i64 n, .slice X k.len cx], .int .i64 x] w' (PathsPost cs w') from fun w' hb' => by rw [hcs, hzss]; exact specCallPaths_any op n k X cx x w' (HH.out.up hb').1 (Nat.le_trans hk1 hk2) (by omega) HI.out)
  have hS : ∀ w' : World, Below W.heap.size W w' → w'.cell? ⟨w1.heap.size, 0, none⟩ = some (Value.int .i64 op) ∧ w'.cell? ⟨w1.heap.size, 1, none⟩ = some (Value.int .i64 n) ∧ w'.cell? ⟨w1.heap.size, 2, none⟩ = some (Value.slice X k.len cx) := fun w' hb' => ⟨(hx.below hb' hx.size).cell (i := 0) rfl, (hx.below hb' hx.size).cell (i := 1) rfl, (hx.below hb' hx.size).cell (i := 2) rfl⟩
  have HS0 := Lib.hid hS
  clear hb hbW ht hX1 HC hi hzss hcs hxi hS hx
  go_upto_region 4 with fail
  rw [← hW]
  clear hW
  have b0 : Below W.heap.size W W.drew := (Below.refl _ _).drew
  have s0 := HS0.out _ b0
  have C1 := Lib.hid (HC1.out _ b0)
  have B0 := Lib.hid b0
  clear b0
  go_region_held3 (fun w' => w'.cell? ⟨w1.heap.size, 0, none⟩ = some (Value.int .i64 op) ∧ w'.cell? ⟨w1.heap.size, 1, none⟩ = some (Value.int .i64 n) ∧ w'.cell? ⟨w1.heap.size, 2, none⟩ = some (Value.slice X k.len cx))
    (first | with_reducible exact s0 | with_reducible exact s1 | with_reducible exact s2 | with_reducible exact s3 | fail)
    (first
    | (go_at_call 9
       with_reducible refine CA.out.mono ?_
       rintro e w4 ⟨rfl, hb4⟩
       have b3 := B2.out.trans (hb4.mono B2.out.size)
       have s3 := HS0.out _ b3
       have B3 := Lib.hid b3
       clear hb4 b3)
    | (go_at_call 18
       with_reducible refine C2.out.mono ?_
       rintro e w3 ⟨Am, cm, bl3, rfl, hom, hb3⟩
       have b2 := B1.out.trans (hb3.mono B1.out.size)
       have s2 := HS0.out _ b2
       have CA := Lib.hid (amPaths_any cs Al Am cl cm w3 (HLL.out.up hb3) hom.lies0 (by omega) (fun zs hz => Nat.le_trans (HCM.out zs hz) (by decide)))
       have B2 := Lib.hid b2
       clear hom hb3 b2)
    | (go_at_call 17
       with_reducible refine C1.out.mono ?_
       rintro e w2 ⟨Al, cl, bl2, rfl, hol, hb2⟩
       have b1 := B0.out.trans (hb2.mono B0.out.size)
       have s1 := HS0.out _ b1
       have C2 := Lib.hid (HC2.out _ b1)
       have HLL := Lib.hid hol.lies0
       have B1 := Lib.hid b1
       clear hol hb2 b1)
    | fail)
  go_wp2_with fail
  clear HC1 HC2 C1 C2 CA HLL B0 B1 B2 s0 s1 s2 s3 HCM
  go_loopw [5, 6] (fun t i wr => ∃ (f : Nat), f ≤ 8 ∧ i = .int .i64 (f : Int) ∧ t = .int .i64 ((sumF ⟨op, n, k⟩ zss f : Nat) : Int) ∧ Below W.heap.size W wr)
    (fun _ i _ => 8 - (intOf i).toNat)
  case atStart => exact ⟨0, by omega, rfl, rfl, B3.out⟩
  case round =>
    clear B3
    obtain ⟨f, hf, rfl, rfl, hbr⟩ := hrel
    by_cases hlt : f < 8
    · obtain ⟨s0, s1, s2⟩ := HS0.out _ hbr
      have HCF := Lib.hid (HIC.out wr (f : Int) hbr)
      have hsum := sumF_le ⟨op, n, k⟩ zss f
      obtain ⟨t, ht⟩ : ∃ t, t = sumF ⟨op, n, k⟩ zss f := ⟨_, rfl⟩
      rw [← ht] at hsum
      rw [← ht]
      obtain ⟨fs, hfs⟩ : ∃ fs, fs = zss.filter (callsF ⟨op, n, k⟩ (f : Int)) := ⟨_, rfl⟩
      rw [← hfs] at HCF
      have hfl : fs.length ≤ 81 := by rw [hfs]; exact Nat.le_trans (List.length_filter_le _ _) hzl
      have HT2 := Lib.hid (show ((t : Int) + (fs.length : Int)) = ((sumF ⟨op, n, k⟩ zss (f + 1) : Nat) : Int) by simp only [sumF]; rw [← ht, ← hfs]; omega)
      have htb : t ≤ 648 := Nat.le_trans hsum (by have := Nat.mul_le_mul (Nat.le_of_lt hlt) hzl; omega)
      have HBR := Lib.hid hbr
      clear hbr ht hfs hsum
      go_wp2_with fail
      refine HCF.out.mono ?_
      rintro e w5 ⟨A5, c5, bl5, rfl, _, hb5⟩
      have HB5 := Lib.hid (HBR.out.trans (hb5.mono HBR.out.size))
      clear HCF hb5 s0 s1 s2
      go_wp2_with fail
      go_roundw
      case rel => exact ⟨f + 1, by omega, by go_num, by rw [← HT2.out], HB5.out⟩
      case measure => simp [intOf]; omega
    · have e8 : f = 8 := by omega
      subst e8
      rw [HCNT.out]
      obtain ⟨s0, s1, s2⟩ := HS0.out _ hbr
      have HPO := Lib.hid (HIM.out wr hbr)
      have HBR := Lib.hid hbr
      obtain ⟨tot, htot⟩ : ∃ t, t = (zss.filter (isCallF ⟨op, n, k⟩)).length := ⟨_, rfl⟩
      have htl : tot ≤ 81 := by rw [htot]; exact Nat.le_trans (List.length_filter_le _ _) hzl
      rw [← htot]
      have HTOT := Lib.hid htot
      clear hbr htot
      go_wp2_with fail
      refine HPO.out.mono ?_
      rintro e w5 ⟨Al, cl, bl5, rfl, hol, hb5⟩
      have HB5 := Lib.hid (HBR.out.trans (hb5.mono HBR.out.size))
      have HL5 := Lib.hid hol.lies0
      clear HPO hb5 hol s0 s1 s2 HBR
      go_wp2_with fail
      go_loopw [5, 8] (fun t i wr => ∃ (j : Nat) (r : Nat), j ≤ zss.length ∧ i = .int .i64 (j : Int) ∧ t = .int .i64 (r : Int) ∧ r + ((zss.take j).filter (isCallF ⟨op, n, k⟩)).length = tot ∧ Below w5.heap.size w5 wr)
        (fun _ i _ => zss.length - (intOf i).toNat)
      case atStart => exact ⟨0, tot, Nat.zero_le _, rfl, rfl, by simp, Below.refl _ _⟩
      case round =>
        obtain ⟨j, r, hj, rfl, rfl, hr, hbr⟩ := hrel
        have hlr := HL5.out.up hbr
        have hbW := HB5.out.trans (hbr.mono HB5.out.size)
        have hh := HH.out.up hbW
        have hrt : r ≤ 81 := by omega
        by_cases hlt : j < zss.length
        · have e1 := List.getElem?_eq_getElem hlt
          generalize zss[j] = zs at e1
          obtain ⟨hps, hsm, hsl⟩ := HPT.out zs (List.mem_of_getElem? e1)
          obtain ⟨b, o, A', c', hA, _, hbb, hc, hli⟩ := hlr j zs e1
          subst hA
          have hS : ∀ w' : World, Below wr.heap.size wr w' → w'.cell? ⟨w1.heap.size, 0, none⟩ = some (Value.int .i64 op) ∧ w'.cell? ⟨w1.heap.size, 1, none⟩ = some (Value.int .i64 n) ∧ w'.cell? ⟨w1.heap.size, 2, none⟩ = some (Value.slice X k.len cx) ∧ w'.cell? ⟨b, o + j, none⟩ = some (Value.slice A' zs.length c') := fun w' hb' => by
            obtain ⟨t0, t1, t2⟩ := HS0.out w' (hbW.trans (hb'.mono hbW.size))
            exact ⟨t0, t1, t2, (hb'.cell (p := ⟨b, o + j, none⟩) hbb).trans hc⟩
          obtain ⟨y, hy⟩ : ∃ y, y = (partN ⟨op, n, k⟩ zs).getD nd0 := ⟨_, rfl⟩
          have hcon := fun (w' : World) (hb' : Below wr.heap.size wr w') => implPart_o op n k X cx zs A' c' 0 w'.heap.size w' (hh.up hb').1 (Nat.le_refl _) (.inl hsm) hk1 hk2 (hli.up hb') (by omega) (by omega) HI.out
          rw [← hy, hps] at hcon
          have HS := Lib.hid hS
          have HCON := Lib.hid hcon
          have HBR := Lib.hid hbr
          have hfs := filter_step (isCallF ⟨op, n, k⟩) e1
          have HISC := Lib.hid (show isCallF ⟨op, n, k⟩ zs = decide (y.op = 3) by rw [hy]; rfl)
          have HFS := Lib.hid hfs
          have HR := Lib.hid hr
          have HTOT2 := Lib.hid (show ((zss.take (j + 1)).filter (isCallF ⟨op, n, k⟩)).length ≤ tot by rw [HTOT.out]; exact (List.Sublist.filter _ (List.take_sublist _ _)).length_le)
          have qc := hc
          clear hlr hbW hh e1 hps hsm hS hcon hbr hc hli hy hfs hr
          go_upto_region 15 with fail
          clear qc
          go_cut [9, 10] from 45 to 54 (fun p _ wd => ∃ g A9 c9, p = .pointer (some ⟨g, 0, none⟩) ∧ Row wd g 25 #[.int .i64 y.op, .int .i64 y.n, .slice A9 y.k.len c9] ∧ wr.heap.size ≤ g ∧ Below wr.heap.size wr wd)
          case first =>
            have b0 : Below wr.heap.size wr wr.drew := (Below.refl _ _).drew
            have bp : Below wr.heap.size wr (wr.alloc (Obj.cells #[Value.int .i64 0, Value.int .i64 0, Value.slice none 0 0] 25)).drew := ((Below.refl _ _).alloc (Nat.le_refl _) _).drew
            have C0 := Lib.hid (HCON.out _ b0)
            have CP := Lib.hid (HCON.out _ bp)
            have s0 := HS.out _ b0
            have sp := HS.out _ bp
            have B0 := Lib.hid b0
            have BP := Lib.hid bp
            have RP := Lib.hid (show Row (wr.alloc (Obj.cells #[Value.int .i64 0, Value.int .i64 0, Value.slice none 0 0] 25)).drew wr.heap.size 25 #[Value.int .i64 0, Value.int .i64 0, Value.slice none 0 0] from (Row.fresh _ _ _).drew)
            clear b0 bp
            go_region_held3 (fun w' => w'.cell? ⟨w1.heap.size, 0, none⟩ = some (Value.int .i64 op) ∧ w'.cell? ⟨w1.heap.size, 1, none⟩ = some (Value.int .i64 n) ∧ w'.cell? ⟨w1.heap.size, 2, none⟩ = some (Value.slice X k.len cx) ∧ w'.cell? ⟨b, o + j, none⟩ = some (Value.slice A' zs.length c'))
              (first | with_reducible exact s0 | with_reducible exact sp | with_reducible exact s3 | with_reducible exact s4 | with_reducible exact s3z | fail)
              (first
              | (go_at_call 11
                 with_reducible refine CP.out.mono ?_
                 rintro e vd ⟨A5, c5, b5, rfl, ht5, hb5⟩
                 have hb := BP.out.trans (hb5.mono BP.out.size)
                 have r5 := (RP.out).below hb5 ((RP.out).size)
                 have f0 := r5.free 0
                 have f1 := r5.free 1
                 have f2 := r5.free 2
                 have d0 := r5.cell (i := 0) rfl
                 have d1 := r5.cell (i := 1) rfl
                 have d2 := r5.cell (i := 2) rfl
                 have hbs := ((hb.setCell (p := ⟨wr.heap.size, 0, none⟩) (Nat.le_refl _) (.int .i64 y.op)).setCell (p := ⟨wr.heap.size, 1, none⟩) (Nat.le_refl _) (.int .i64 y.n)).setCell (p := ⟨wr.heap.size, 2, none⟩) (Nat.le_refl _) (.slice A5 y.k.len c5)
                 have s3 := HS.out _ hb
                 have s4 := HS.out _ hbs
                 have HEND := Lib.hid (show ∃ g A6 c6, Value.pointer (some ⟨wr.heap.size, 0, none⟩) = .pointer (some ⟨g, 0, none⟩) ∧ Row (((vd.setCell ⟨wr.heap.size, 0, none⟩ (.int .i64 y.op)).setCell ⟨wr.heap.size, 1, none⟩ (.int .i64 y.n)).setCell ⟨wr.heap.size, 2, none⟩ (.slice A5 y.k.len c5)) g 25 #[.int .i64 y.op, .int .i64 y.n, .slice A6 y.k.len c6] ∧ wr.heap.size ≤ g ∧ Below wr.heap.size wr (((vd.setCell ⟨wr.heap.size, 0, none⟩ (.int .i64 y.op)).setCell ⟨wr.heap.size, 1, none⟩ (.int .i64 y.n)).setCell ⟨wr.heap.size, 2, none⟩ (.slice A5 y.k.len c5)) from ⟨wr.heap.size, A5, c5, rfl, ((r5.put 0 _).put 1 _).put 2 _, Nat.le_refl _, hbs⟩)
                 clear ht5 hb5 hb r5 hbs)
              | (go_at_call 11
                 with_reducible refine C0.out.mono ?_
                 rintro e vd ⟨A5, c5, b5, rfl, ht5, hb5⟩
                 have hb := B0.out.trans (hb5.mono B0.out.size)
                 have hba := hb.alloc hb.size (Obj.cells #[Value.int .i64 y.op, Value.int .i64 y.n, Value.slice A5 y.k.len c5] 25)
                 have s3 := HS.out _ hb
                 have s4 := HS.out _ hba
                 have s3z := HS.out _ (hb.alloc hb.size (Obj.cells #[Value.int .i64 0, Value.int .i64 0, Value.slice none 0 0] 25))
                 have HEND := Lib.hid (show ∃ g A6 c6, Value.pointer (some ⟨vd.heap.size, 0, none⟩) = .pointer (some ⟨g, 0, none⟩) ∧ Row (vd.alloc (Obj.cells #[Value.int .i64 y.op, Value.int .i64 y.n, Value.slice A5 y.k.len c5] 25)) g 25 #[.int .i64 y.op, .int .i64 y.n, .slice A6 y.k.len c6] ∧ wr.heap.size ≤ g ∧ Below wr.heap.size wr (vd.alloc (Obj.cells #[Value.int .i64 y.op, Value.int .i64 y.n, Value.slice A5 y.k.len c5] 25)) from ⟨vd.heap.size, A5, c5, rfl, Row.fresh _ _ _, hb.size, hba⟩)
                 clear ht5 hb5 hb hba)
              | fail)
            all_goals
              go_wp2_with fail
              go_meet
              exact HEND.out
          case rest =>
            obtain ⟨g9, A9, c9, rfl, hr9, hg9, hb9⟩ := hcut
            obtain ⟨wz, hwz⟩ : ∃ v, v = wc := ⟨_, rfl⟩
            rw [← hwz] at hr9 hb9 ⊢
            have HB9 := Lib.hid (HBR.out.trans (hb9.mono HBR.out.size))
            have d0 := hr9.cell (i := 0) rfl
            clear hwz wc hr9 hg9 hb9 HCON HS HBR
            by_cases h3 : y.op = 3
            · have b1 : (y.op == 3) = true := by simpa using h3
              have hc1 : isCallF ⟨op, n, k⟩ zs = true := by rw [HISC.out]; simpa using h3
              have hf2 := HFS.out
              rw [hc1, if_pos rfl] at hf2
              have hr2 := HR.out
              have hle := HTOT2.out
              rw [hf2, List.length_append, List.length_singleton] at hle
              obtain ⟨r1, rfl⟩ : ∃ r1, r = r1 + 1 := ⟨r - 1, by omega⟩
              have HR2 := Lib.hid (show r1 + ((zss.take (j + 1)).filter (isCallF ⟨op, n, k⟩)).length = tot by rw [hf2, List.length_append, List.length_singleton]; omega)
              clear h3 hc1 hf2 hr2 hle
              go_wp2_with fail
              go_roundw
              case rel => exact ⟨j + 1, r1, hlt, by go_num, by simp, HR2.out, HB9.out⟩
              case measure => simp [intOf]; omega
            · have b1 : (y.op == 3) = false := by simpa using h3
              have hc1 : isCallF ⟨op, n, k⟩ zs = false := by rw [HISC.out]; simpa using h3
              have hf2 := HFS.out
              rw [hc1] at hf2
              have HR2 := Lib.hid (show r + ((zss.take (j + 1)).filter (isCallF ⟨op, n, k⟩)).length = tot by rw [hf2, ← HR.out]; simp)
              clear h3 hc1 hf2
              go_wp2_with fail
              go_roundw
              case rel => exact ⟨j + 1, r, hlt, by go_num, rfl, HR2.out, HB9.out⟩
              case measure => simp [intOf]; omega
        · have e9 : j = zss.length := by omega
          have hr0 : r = 0 := by rw [e9, List.take_length, ← HTOT.out] at hr; omega
          subst hr0
          have HBZ := Lib.hid hbW
          clear hlr hbW hh hr hbr
          go_wp2_with fail
          go_ret
          exact ⟨rfl, HB.out.trans (HBZ.out.mono HB.out.size)⟩
end Go.Proofs.Ytbbieamgjbijlaa
