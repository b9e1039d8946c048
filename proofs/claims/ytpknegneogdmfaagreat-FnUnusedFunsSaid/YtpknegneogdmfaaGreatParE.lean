/-
  The model's ParseExpr.
-/
import Derived.Test.YtpknegneogdmfaaGreatParse
import Derived.Test.YtpknegneogdmfaaGreatTxtT
import Derived.Test.YtpknegneogdmfaaGreatOpen
namespace Go.Proofs.YtpknegneogdmfaaGreat
open Go.RowKit
set_option maxRecDepth 100000

/-- A valid expression may be written. -/
theorem ownOk_txt {op n : Int} {S : Nat → Bool} {l : Nat} (hk : kidsOk op l = true) (ho : ownOk op n S = true) : ownTxt op n l = true := by
  unfold ownTxt
  rcases kinds op with rfl | rfl | rfl | rfl | rfl | rfl | rfl | rfl | rfl | h
  · have h1 : 0 ≤ n ∧ n ≤ 99 := by simpa [ownOk] using ho
    simp [h1.1, h1.2]
  · have h1 : inVar n = true := by
      have : inVar n && S n.toNat = true := by simpa [ownOk] using ho
      rw [Bool.and_eq_true] at this
      exact this.1
    have h2 : 0 ≤ n ∧ n < 8 := by simpa [inVar] using h1
    simp [h2.1]; omega
  · have h1 : inVar n = true := by simpa [ownOk] using ho
    have h2 : 0 ≤ n ∧ n < 8 := by simpa [inVar] using h1
    simp [h2.1]; omega
  · have h1 : l = 2 := by simpa [kidsOk] using hk
    simp [h1]
  · have h1 : l = 2 := by simpa [kidsOk] using hk
    simp [h1]
  · have h1 : l = 3 := by simpa [kidsOk] using hk
    simp [h1]
  · have h1 : l = 2 := by simpa [kidsOk] using hk
    have h0 : inVar n = true := by simpa [ownOk] using ho
    have h2 : 0 ≤ n ∧ n < 8 := by simpa [inVar] using h0
    simp [h1, h2.1]; omega
  · have h1 : l = 2 := by simpa [kidsOk] using hk
    simp [h1]
  · have h1 : l = 1 := by simpa [kidsOk] using hk
    simp [h1]
  · have e : kidsOk op l = false := by unfold kidsOk; repeat (rw [if_neg (by omega)])
    rw [e] at hk
    cases hk
theorem shape_txt : ∀ (k : Fo) (op n : Int) (i : Nat) (S : Nat → Bool) (d : Nat), shapeF op n i S d k = true → okF k = true
  | .nil, _, _, _, _, _, _ => rfl
  | .cons o m k r, op, n, i, S, d, h => by
    simp only [shapeF, Bool.and_eq_true] at h
    obtain ⟨⟨⟨⟨_, b⟩, c⟩, e⟩, f⟩ := h
    simp only [okF, Bool.and_eq_true]
    exact ⟨⟨ownOk_txt b c, shape_txt k o m 0 _ _ e⟩, shape_txt r op n (i + 1) S d f⟩
theorem nodeIs_txt {op n : Int} {k : Fo} {S : Nat → Bool} (h : nodeIs op n k S = true) : okT op n k = true := by
  unfold nodeIs nodeShape at h
  simp only [Bool.and_eq_true] at h
  obtain ⟨⟨⟨⟨_, b⟩, c⟩, e⟩, _⟩ := h
  unfold okT
  rw [Bool.and_eq_true]
  exact ⟨ownOk_txt b c, shape_txt k op n 0 _ _ e⟩
theorem nodeIs_size {op n : Int} {k : Fo} {S : Nat → Bool} (h : nodeIs op n k S = true) : k.size + 1 ≤ 80 := by
  unfold nodeIs at h
  rw [Bool.and_eq_true] at h
  exact of_decide_eq_true h.2

/-- The expression that a text stands for. -/
def parseE (s : List UInt8) : Option Nd :=
  match parseAt s 14 0 with
  | none => none
  | some (y, q) => if q = s.length ∧ nodeIs y.op y.n y.k (firstS 8) = true ∧ txtN y.op y.n y.k = s then some y else none
def ParEPost (r : Option Nd) (w : World) (e : Ending) (w' : World) : Prop :=
  ∃ (y : Nd) (A : Option Addr) (c : Nat) (bs : List Nat) (ok : Bool), e = .returned (.tuple #[.agg #[.int .i64 y.op, .int .i64 y.n, .slice A y.k.len c], .bool ok]) ∧ (I64 y.op ∧ I64 y.n) ∧ Tree w' w.heap.size (.slice A y.k.len c) y.k bs ∧ Below w.heap.size w w' ∧
    (match r with
     | some y' => y = y' ∧ ok = true
     | none => y = zeroNd ∧ ok = false)
theorem parseE_nil : parseE [] = none := rfl

set_option maxHeartbeats 2000000 in
theorem specParE_any (s : List UInt8) (hs : s.length ≤ 1000000000000) (w : World) : Calls Tryz.prog 46 #[.string ⟨s.toArray⟩] w (ParEPost (parseE s) w) := by
  obtain ⟨W, hW⟩ : ∃ W, W = w.alloc (Obj.cells #[.int .i64 0, .int .i64 0, .slice none 0 0] 36) := ⟨_, rfl⟩
  have HB := Lib.hid (show Below w.heap.size w W by rw [hW]; exact (Below.refl _ _).alloc (Nat.le_refl _) _)
  have HR := Lib.hid (show Row W w.heap.size 36 #[.int .i64 0, .int .i64 0, .slice none 0 0] by rw [hW]; exact Row.fresh _ _ _)
  have HZ := Lib.hid (show w.heap.size + 1 ≤ W.heap.size by rw [hW]; simp)
  obtain ⟨r, hr⟩ : ∃ r : Option Nd, r = parseE s := ⟨_, rfl⟩
  rw [← hr]
  have HX := Lib.hid hr
  have HC := Lib.hid (show Calls Tryz.prog 60 #[.string ⟨s.toArray⟩, .int .i64 0, .int .i64 14] W (ParPost (parseAt s 14 0) W) from l1Parse_any s hs 14 (Nat.le_refl _) 0 W (Nat.zero_le _))
  clear hr
  go_enter Tryz.func46, Tryz.ntmps46
  go_upto_region 1 with fail
  rw [← hW]
  clear hW
  go_wp2_with fail
  refine HC.out.mono ?_
  rintro e w1 ⟨y1, A1, c1, b1, q1, rfl, hi1, ht1, hb1, hres1⟩
  obtain ⟨W1, hW1⟩ : ∃ W1, W1 = w1.alloc (Obj.cells #[.int .i64 y1.op, .int .i64 y1.n, .slice A1 y1.k.len c1] 36) := ⟨_, rfl⟩
  have hbw1 : Below w1.heap.size w1 W1 := by rw [hW1]; exact (Below.refl _ _).alloc (Nat.le_refl _) _
  have hb01 := hb1.trans (hbw1.mono hb1.size)
  have HR1 := Lib.hid (HR.out.below hb01 HR.out.size)
  have HX1 := Lib.hid (show Row W1 w1.heap.size 36 #[.int .i64 y1.op, .int .i64 y1.n, .slice A1 y1.k.len c1] by rw [hW1]; exact Row.fresh _ _ _)
  have HT1 := Lib.hid (ht1.over hbw1)
  have HB1 := Lib.hid (HB.out.trans (hb01.mono HB.out.size))
  have HI1 := Lib.hid hi1
  have HS1 := Lib.hid hres1
  have HL1 := Lib.hid ((ht1.over hbw1).lies (B := W1.heap.size) fun q hq => ((ht1.over hbw1).lt q hq).2)
  have hsl := ht1.slice
  clear ht1 hb1 hbw1 hb01 hi1 hres1 HC HR HB
  go_upto_region 2 with fail
  rw [← hW1]
  clear hW1
  -- the ends: nothing read, at a later world
  have HN := Lib.hid (fun (V : World) (hb : Below W1.heap.size W1 V) (hr : r = none) => show ParEPost r w (.returned (.tuple #[.agg #[.int .i64 0, .int .i64 0, .slice none 0 0], .bool false])) (put3 V w.heap.size 0 0 (.slice none 0 0)) by
    rw [hr]
    exact ⟨zeroNd, none, 0, [], _, rfl, zero_i64, Tree.none _ _, ((((HB1.out.trans (hb.mono HB1.out.size)).setCell (Nat.le_refl _) _).setCell (Nat.le_refl _) _).setCell (Nat.le_refl _) _), rfl, rfl⟩)
  by_cases hs0 : s = []
  · have HF := Lib.hid (show r = none by rw [HX.out, hs0, parseE_nil])
    have hb0 : (s == []) = true := by rw [hs0]; rfl
    obtain ⟨t0, t1, t2⟩ := put3_cells HR1.out 0 0 (.slice none 0 0)
    have f0 := HR1.out.free 0
    have f1 := HR1.out.free 1
    have f2 := HR1.out.free 2
    have d0 := HR1.out.cell (i := 0) rfl
    have d1 := HR1.out.cell (i := 1) rfl
    have d2 := HR1.out.cell (i := 2) rfl
    have HEND := Lib.hid (HN.out W1 (Below.refl _ _) HF.out)
    unfold put3 at t0 t1 t2
    go_wp2_with fail
    refine bodyPost_ret (v := .tuple #[.agg #[.int .i64 0, .int .i64 0, .slice none 0 0], .bool false]) ?_ rfl HEND.out
    simp [results, Tryz.f46, go_sem, t0, t1, t2]
  have hb0 : (s == []) = false := by rw [beq_eq_false_iff_ne]; exact hs0
  have hne : s ≠ [] := hs0
  clear hs0
  cases hp1 : parseAt s 14 0 with
  | none =>
    rw [hp1] at HS1
    have hq1 : q1 = -1 := HS1.out
    subst hq1
    have HF := Lib.hid (show r = none by rw [HX.out]; unfold parseE; rw [hp1])
    have hq : ((-1 : Int) != (s.length : Int)) = true := by rw [bne_iff_ne]; omega
    clear hp1
    obtain ⟨t0, t1, t2⟩ := put3_cells HR1.out 0 0 (.slice none 0 0)
    have f0 := HR1.out.free 0
    have f1 := HR1.out.free 1
    have f2 := HR1.out.free 2
    have d0 := HR1.out.cell (i := 0) rfl
    have d1 := HR1.out.cell (i := 1) rfl
    have d2 := HR1.out.cell (i := 2) rfl
    have HEND := Lib.hid (HN.out W1 (Below.refl _ _) HF.out)
    unfold put3 at t0 t1 t2
    go_wp2_with fail
    refine bodyPost_ret (v := .tuple #[.agg #[.int .i64 0, .int .i64 0, .slice none 0 0], .bool false]) ?_ rfl HEND.out
    simp [results, Tryz.f46, go_sem, t0, t1, t2]
  | some pr =>
    obtain ⟨y1', p1⟩ := pr
    rw [hp1] at HS1
    obtain ⟨rfl, hq1⟩ : y1 = y1' ∧ q1 = (p1 : Int) := HS1.out
    subst hq1
    by_cases hlen : p1 = s.length
    rotate_left
    · have HF := Lib.hid (show r = none by rw [HX.out]; unfold parseE; rw [hp1]; simp only []; rw [if_neg (fun h => hlen h.1)])
      have hq : ((p1 : Int) != (s.length : Int)) = true := by rw [bne_iff_ne]; omega
      clear hp1 hlen
      obtain ⟨t0, t1, t2⟩ := put3_cells HR1.out 0 0 (.slice none 0 0)
      have f0 := HR1.out.free 0
      have f1 := HR1.out.free 1
      have f2 := HR1.out.free 2
      have d0 := HR1.out.cell (i := 0) rfl
      have d1 := HR1.out.cell (i := 1) rfl
      have d2 := HR1.out.cell (i := 2) rfl
      have HEND := Lib.hid (HN.out W1 (Below.refl _ _) HF.out)
      unfold put3 at t0 t1 t2
      go_wp2_with fail
      refine bodyPost_ret (v := .tuple #[.agg #[.int .i64 0, .int .i64 0, .slice none 0 0], .bool false]) ?_ rfl HEND.out
      simp [results, Tryz.f46, go_sem, t0, t1, t2]
    have hq : ((p1 : Int) != (s.length : Int)) = false := by rw [hlen]; simp
    obtain ⟨k1l, k1c⟩ : y1.k.len ≤ c1 ∧ c1 ≤ maxLen := by
      obtain ⟨_, _, h, h1, h2⟩ := hsl
      injection h with _ _ h3
      subst h3
      exact ⟨h1, h2⟩
    have HCA := Lib.hid (l1Any_any y1.op y1.n y1.k A1 c1 W1 (HL1.out.mono_ (Nat.zero_le _) (Nat.le_refl _)) (Nat.le_trans k1l k1c))
    have x0 := HX1.out.cell (i := 0) rfl
    have x1 := HX1.out.cell (i := 1) rfl
    have x2 := HX1.out.cell (i := 2) rfl
    cases hv : nodeIs y1.op y1.n y1.k (firstS 8) with
    | false =>
      have HF := Lib.hid (show r = none by rw [HX.out]; unfold parseE; rw [hp1]; simp only []; rw [if_neg (fun h => by rw [hv] at h; exact absurd h.2.1 (by simp))])
      rw [hv] at HCA
      clear hp1 hlen hv hsl k1l k1c
      go_wp2_with fail
      refine HCA.out.mono ?_
      rintro e w2 ⟨rfl, hb2⟩
      have HR2 := Lib.hid (HR1.out.below hb2 HR1.out.size)
      obtain ⟨t0, t1, t2⟩ := put3_cells HR2.out 0 0 (.slice none 0 0)
      have f0 := HR2.out.free 0
      have f1 := HR2.out.free 1
      have f2 := HR2.out.free 2
      have d0 := HR2.out.cell (i := 0) rfl
      have d1 := HR2.out.cell (i := 1) rfl
      have d2 := HR2.out.cell (i := 2) rfl
      have HEND := Lib.hid (HN.out w2 hb2 HF.out)
      unfold put3 at t0 t1 t2
      go_wp2_with fail
      refine bodyPost_ret (v := .tuple #[.agg #[.int .i64 0, .int .i64 0, .slice none 0 0], .bool false]) ?_ rfl HEND.out
      simp [results, Tryz.f46, go_sem, t0, t1, t2]
    | true =>
      rw [hv] at HCA
      have hysz := nodeIs_size hv
      have HCT := Lib.hid (fun (w' : World) (hb : Below W1.heap.size W1 w') => l1Text_any y1.op y1.n y1.k A1 c1 w' ((HL1.out.mono_ (Nat.zero_le _) (Nat.le_refl _)).up hb) (by omega) (nodeIs_txt hv))
      by_cases htx : txtN y1.op y1.n y1.k = s
      rotate_left
      · have HF := Lib.hid (show r = none by rw [HX.out]; unfold parseE; rw [hp1]; simp only []; rw [if_neg (fun h => htx h.2.2)])
        have hbn : (txtN y1.op y1.n y1.k == s) = false := by rw [beq_eq_false_iff_ne]; exact htx
        clear hp1 hlen hv hsl k1l k1c htx hysz
        go_wp2_with fail
        refine HCA.out.mono ?_
        rintro e w2 ⟨rfl, hb2⟩
        have HX2 := HX1.out.below hb2 HX1.out.size
        have z0 := HX2.cell (i := 0) rfl
        have z1 := HX2.cell (i := 1) rfl
        have z2 := HX2.cell (i := 2) rfl
        have HB2 := Lib.hid hb2
        clear hb2 x0 x1 x2 HX2
        go_wp2_with fail
        refine (HCT.out w2 HB2.out).mono ?_
        rintro e w3 ⟨rfl, hb3⟩
        have HB3 := Lib.hid (HB2.out.trans (hb3.mono HB2.out.size))
        have HR3 := Lib.hid (HR1.out.below HB3.out HR1.out.size)
        clear hb3 z0 z1 z2
        unfold txt
        obtain ⟨t0, t1, t2⟩ := put3_cells HR3.out 0 0 (.slice none 0 0)
        have f0 := HR3.out.free 0
        have f1 := HR3.out.free 1
        have f2 := HR3.out.free 2
        have d0 := HR3.out.cell (i := 0) rfl
        have d1 := HR3.out.cell (i := 1) rfl
        have d2 := HR3.out.cell (i := 2) rfl
        have HEND := Lib.hid (HN.out w3 HB3.out HF.out)
        unfold put3 at t0 t1 t2
        go_wp2_with fail
        refine bodyPost_ret (v := .tuple #[.agg #[.int .i64 0, .int .i64 0, .slice none 0 0], .bool false]) ?_ rfl HEND.out
        simp [results, Tryz.f46, go_sem, t0, t1, t2]
      · have HF := Lib.hid (show r = some y1 by rw [HX.out]; unfold parseE; rw [hp1]; simp only []; rw [if_pos ⟨hlen, hv, htx⟩])
        have hbn : (txtN y1.op y1.n y1.k == s) = true := by rw [beq_iff_eq]; exact htx
        rw [htx] at HCT
        clear hp1 hlen hv hsl k1l k1c htx hysz hbn
        go_wp2_with fail
        refine HCA.out.mono ?_
        rintro e w2 ⟨rfl, hb2⟩
        have HX2 := HX1.out.below hb2 HX1.out.size
        have z0 := HX2.cell (i := 0) rfl
        have z1 := HX2.cell (i := 1) rfl
        have z2 := HX2.cell (i := 2) rfl
        have HB2 := Lib.hid hb2
        clear hb2 x0 x1 x2 HX2
        go_wp2_with fail
        refine (HCT.out w2 HB2.out).mono ?_
        rintro e w3 ⟨rfl, hb3⟩
        have HB3 := Lib.hid (HB2.out.trans (hb3.mono HB2.out.size))
        have HR3 := Lib.hid (HR1.out.below HB3.out HR1.out.size)
        have HX3 := HX1.out.below HB3.out HX1.out.size
        have x0 := HX3.cell (i := 0) rfl
        have x1 := HX3.cell (i := 1) rfl
        have x2 := HX3.cell (i := 2) rfl
        clear hb3 z0 z1 z2 HX3
        unfold txt
        obtain ⟨t0, t1, t2⟩ := put3_cells HR3.out y1.op y1.n (.slice A1 y1.k.len c1)
        have f0 := HR3.out.free 0
        have f1 := HR3.out.free 1
        have f2 := HR3.out.free 2
        have d0 := HR3.out.cell (i := 0) rfl
        have d1 := HR3.out.cell (i := 1) rfl
        have d2 := HR3.out.cell (i := 2) rfl
        have HEND := Lib.hid (show ParEPost r w (.returned (.tuple #[.agg #[.int .i64 y1.op, .int .i64 y1.n, .slice A1 y1.k.len c1], .bool true])) (put3 w3 w.heap.size y1.op y1.n (.slice A1 y1.k.len c1)) by
          rw [HF.out]
          have hT := (HT1.out.over HB3.out)
          exact ⟨y1, A1, c1, b1, _, rfl, HI1.out, (hT.keep fun b hb2 => by
            have hne2 : b ≠ w.heap.size := fun e => by have h1 := (HT1.out.lt b hb2).1; have h2 := HZ.out; omega
            unfold put3
            rw [Below.heap_setCell _ _ _ b hne2, Below.heap_setCell _ _ _ b hne2, Below.heap_setCell _ _ _ b hne2]).lower (Nat.le_trans (Nat.le_succ _) HZ.out),
            ((((HB1.out.trans (HB3.out.mono HB1.out.size)).setCell (Nat.le_refl _) _).setCell (Nat.le_refl _) _).setCell (Nat.le_refl _) _), rfl, rfl⟩)
        unfold put3 at t0 t1 t2
        go_wp2_with fail
        refine bodyPost_ret (v := .tuple #[.agg #[.int .i64 y1.op, .int .i64 y1.n, .slice A1 y1.k.len c1], .bool true]) ?_ rfl HEND.out
        simp [results, Tryz.f46, go_sem, t0, t1, t2]
end Go.Proofs.YtpknegneogdmfaaGreat
