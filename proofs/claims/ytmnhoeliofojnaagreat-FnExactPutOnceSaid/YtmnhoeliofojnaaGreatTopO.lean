/-
  PutOnce: the model and the program.
-/
import Derived.Test.YtmnhoeliofojnaaGreatOnceI
import Derived.Test.YtmnhoeliofojnaaGreatOnceS
import Derived.Test.YtmnhoeliofojnaaGreatLibVI
import Derived.Test.YtmnhoeliofojnaaGreatSets
import Derived.Test.YtmnhoeliofojnaaGreatNodeM
import Derived.BigRegion
namespace Go.Proofs.YtmnhoeliofojnaaGreat
open Go.RowKit Go.Shelf
set_option maxRecDepth 100000

def okLib (ds : List De) (p : Nd) : Bool := libOk ds && callsFitB ds p.op p.n p.k
def resOnce (ds : List De) (p : Nd) : Nd := if okLib ds p = true then chgN (gOnce (ansS ds)) 14 p else nd0
theorem resOnce_le (ds : List De) (op n : Int) (k : Fo) : (resOnce ds ⟨op, n, k⟩).k.size ≤ 1048576 := by
  unfold resOnce
  split
  · rename_i h
    have h1 := fits_st (Bool.and_eq_true_iff.1 h).2
    have h2 := chgN_st (keeps_once (libT_local ds) (ansS ds)) h1
    have h3 := h1.size
    have h4 := h2.2
    dsimp only at h3 h4
    omega
  · decide

set_option maxHeartbeats 2000000 in
theorem specPutOnce_any (ds : List De) (DA : Option Addr) (DC : Nat) (op n : Int) (k : Fo) (A : Option Addr) (c : Nat) (w : World) (hd : LiesD w 0 w.heap.size DA ds) (hl : Lies w 0 w.heap.size A 0 k) (hdz : sizeD ds ≤ 1048576) (hlen : k.len ≤ maxLen) (hsz : k.size ≤ 1048576) :
    Calls Tryz.prog 6 #[.slice DA ds.length DC, .agg #[.int .i64 op, .int .i64 n, .slice A k.len c]] w (GivesN (resOnce ds ⟨op, n, k⟩) (okLib ds ⟨op, n, k⟩) w) := by
  obtain ⟨hb, r1, r2⟩ := two_boxes w 30 30 #[Value.int IntKind.i64 op, Value.int IntKind.i64 n, Value.slice A k.len c] #[.int .i64 0, .int .i64 0, .slice none 0 0]
  obtain ⟨W, hW⟩ : ∃ W, W = (w.alloc (Obj.cells #[Value.int IntKind.i64 op, Value.int IntKind.i64 n, Value.slice A k.len c] 30)).alloc (Obj.cells #[.int .i64 0, .int .i64 0, .slice none 0 0] 30) := ⟨_, rfl⟩
  rw [← hW] at hb r1 r2
  have HB0 := Lib.hid hb
  have HRB := Lib.hid r1
  have HRR := Lib.hid r2
  have hds := Nat.le_trans (sizeD_len ds) hdz
  obtain ⟨q0, q1, q2⟩ : _ ∧ _ ∧ _ := ⟨r1.cell (i := 0) rfl, r1.cell (i := 1) rfl, r1.cell (i := 2) rfl⟩
  have HV := Lib.hid (l5Right_any ds DA DC op n k A c W (hd.up hb) (hl.up hb) hdz hlen hsz)
  have HD := Lib.hid (hd.up hb)
  have HL := Lib.hid (hl.up hb)
  obtain ⟨y, hy⟩ : ∃ y, y = resOnce ds ⟨op, n, k⟩ := ⟨_, rfl⟩
  obtain ⟨ok, hok⟩ : ∃ ok, ok = (libOk ds && callsFitB ds op n k) := ⟨_, rfl⟩
  have hok2 : okLib ds ⟨op, n, k⟩ = ok := hok.symm
  rw [hok2, ← hy]
  rw [← hok] at HV
  have HY := Lib.hid hy
  have HOK := Lib.hid hok
  clear hb r1 r2 hd hl hy hok hok2
  go_enter Tryz.func6, Tryz.ntmps6
  go_upto_region 1 with fail
  rw [← hW]
  clear hW
  go_wp2_with fail
  refine HV.out.mono ?_
  rintro e w1 ⟨rfl, hb1⟩
  have HB1 := Lib.hid (HB0.out.trans (hb1.mono HB0.out.size))
  have HRB1 := Lib.hid (HRB.out.below hb1 HRB.out.size)
  have HRR1 := Lib.hid (HRR.out.below hb1 HRR.out.size)
  have HL1 := Lib.hid (HL.out.up hb1)
  have HD1 := Lib.hid (HD.out.up hb1)
  clear hb1 HV q0 q1 q2 HB0 HRB HRR HL HD
  cases ok with
  | false =>
    have hyn : y = nd0 := HY.out.trans (by unfold resOnce okLib; rw [← HOK.out]; rfl)
    subst hyn
    have c0 := HRR1.out.cell (i := 0) rfl
    have c1 := HRR1.out.cell (i := 1) rfl
    have c2 := HRR1.out.cell (i := 2) rfl
    have f0 := HRR1.out.free 0
    have f1 := HRR1.out.free 1
    have f2 := HRR1.out.free 2
    have hr3 := ((HRR1.out.put 0 (.int .i64 0)).put 1 (.int .i64 0)).put 2 (.slice none 0 0)
    have r0 := hr3.cell (i := 0) rfl
    have r1 := hr3.cell (i := 1) rfl
    have r2 := hr3.cell (i := 2) rfl
    have hz1 := HRR1.out.size
    have HBC := Lib.hid (((HB1.out.setCell (p := ⟨w.heap.size + 1, 0, none⟩) (by dsimp only; omega) (.int .i64 0)).setCell (p := ⟨w.heap.size + 1, 1, none⟩) (by dsimp only; omega) (.int .i64 0)).setCell (p := ⟨w.heap.size + 1, 2, none⟩) (by dsimp only; omega) (.slice none 0 0))
    skip
    clear hr3 hz1
    go_wp2_with fail
    refine bodyPost_ret (v := .tuple #[.agg #[.int .i64 0, .int .i64 0, .slice none 0 0], .bool false]) ?_ rfl (GivesN.zero HBC.out)
    simp [results, Tryz.f6, go_sem, r0, r1, r2]
  | true =>
    obtain ⟨hv, hf⟩ := Bool.and_eq_true_iff.1 HOK.out.symm
    have hst := fits_st hf
    have hii := form_i64 hst.all.1.1
    have hyy : y = chgN (gOnce (ansS ds)) 14 ⟨op, n, k⟩ := HY.out.trans (by unfold resOnce okLib; rw [← HOK.out]; rfl)
    have hnm : ∀ d ∈ ds, inVar d.nm = true := fun d hd => (libOk_named hv d hd).1
    have HC := Lib.hid (show Calls Tryz.prog 18 #[.slice DA ds.length DC, .agg #[.int .i64 op, .int .i64 n, .slice A k.len c], .int .i64 14] w1 (Turns y w1.heap.size w1) by
      rw [hyy]
      exact specOnce_any ds DA DC hdz hnm k.size 14 op n k A c w1 rfl hst HD1.out HL1.out hii)
    obtain ⟨q0, q1, q2⟩ : _ ∧ _ ∧ _ := ⟨HRB1.out.cell (i := 0) rfl, HRB1.out.cell (i := 1) rfl, HRB1.out.cell (i := 2) rfl⟩
    clear hst hii hyy HY hv hf
    go_wp2_with fail
    refine HC.out.mono ?_
    rintro e w5 ⟨A5, c5, b5, rfl, ht5, hb5, hi5⟩
    have HR5 := Lib.hid (HRR1.out.below hb5 HRR1.out.size)
    have HB5 := Lib.hid (HB1.out.trans (hb5.mono HB1.out.size))
    have HBL := Lib.hid HB1.out.size
    have HT5 := Lib.hid ht5
    clear ht5 hb5 hi5 q0 q1 q2
    have c0 := HR5.out.cell (i := 0) rfl
    have c1 := HR5.out.cell (i := 1) rfl
    have c2 := HR5.out.cell (i := 2) rfl
    have f0 := HR5.out.free 0
    have f1 := HR5.out.free 1
    have f2 := HR5.out.free 2
    have hr3 := ((HR5.out.put 0 (.int .i64 y.op)).put 1 (.int .i64 y.n)).put 2 (.slice A5 y.k.len c5)
    have r0 := hr3.cell (i := 0) rfl
    have r1 := hr3.cell (i := 1) rfl
    have r2 := hr3.cell (i := 2) rfl
    have hz1 := HR5.out.size
    have HBC := Lib.hid (((HB5.out.setCell (p := ⟨w.heap.size + 1, 0, none⟩) (by dsimp only; omega) (.int .i64 y.op)).setCell (p := ⟨w.heap.size + 1, 1, none⟩) (by dsimp only; omega) (.int .i64 y.n)).setCell (p := ⟨w.heap.size + 1, 2, none⟩) (by dsimp only; omega) (.slice A5 y.k.len c5))
    have hz9 := HRR1.out.size
    have HTC := Lib.hid ((((HT5.out.put (p := ⟨w.heap.size + 1, 0, none⟩) hz9 (.int .i64 y.op)).put (p := ⟨w.heap.size + 1, 1, none⟩) hz9 (.int .i64 y.n)).put (p := ⟨w.heap.size + 1, 2, none⟩) hz9 (.slice A5 y.k.len c5)).lower HBL.out)
    clear hr3 hz1
    go_wp2_with fail
    refine bodyPost_ret (v := .tuple #[.agg #[.int .i64 y.op, .int .i64 y.n, .slice A5 y.k.len c5], .bool true]) ?_ rfl (⟨A5, c5, b5, rfl, HTC.out, HBC.out⟩)
    simp [results, Tryz.f6, go_sem, r0, r1, r2]

set_option maxHeartbeats 4000000 in
theorem implPutOnce_any (ds : List De) (DA : Option Addr) (DC : Nat) (op n : Int) (k : Fo) (A : Option Addr) (c : Nat) (LD BD L B : Nat) (w : World) (hd : LiesD w LD BD DA ds) (hBD : BD ≤ w.heap.size) (hald : AllRows w LD BD) (hl : Lies w L B A 0 k) (hB : B ≤ w.heap.size) (hal : AllRows w L B) (hdz : sizeD ds ≤ 1048576) (hk1 : k.len ≤ c) (hk2 : c ≤ maxLen) (hsz : k.size ≤ 1048576) :
    Calls Tryz.prog 9 #[.slice DA ds.length DC, .agg #[.int .i64 op, .int .i64 n, .slice A k.len c]] w (GivesN (resOnce ds ⟨op, n, k⟩) (okLib ds ⟨op, n, k⟩) w) := by
  obtain ⟨hb, r1, r2⟩ := two_boxes w 30 30 #[Value.int IntKind.i64 op, Value.int IntKind.i64 n, Value.slice A k.len c] #[.int .i64 0, .int .i64 0, .slice none 0 0]
  obtain ⟨W, hW⟩ : ∃ W, W = (w.alloc (Obj.cells #[Value.int IntKind.i64 op, Value.int IntKind.i64 n, Value.slice A k.len c] 30)).alloc (Obj.cells #[.int .i64 0, .int .i64 0, .slice none 0 0] 30) := ⟨_, rfl⟩
  rw [← hW] at hb r1 r2
  have HB0 := Lib.hid hb
  have HRB := Lib.hid r1
  have HRR := Lib.hid r2
  have hds := Nat.le_trans (sizeD_len ds) hdz
  obtain ⟨q0, q1, q2⟩ : _ ∧ _ ∧ _ := ⟨r1.cell (i := 0) rfl, r1.cell (i := 1) rfl, r1.cell (i := 2) rfl⟩
  have HV := Lib.hid (implLibValid_any ds DA DC LD BD W (hd.below (hb.mono hBD)) (Nat.le_trans hBD hb.size) (hald.below hb hBD) hdz)
  have HCF := Lib.hid (fun W' (hb' : Below w.heap.size w W') => implCallsFit_any ds DA DC op n k A c L B W' ((hd.mono_ (Nat.zero_le _) hBD).up hb') (hl.below (hb'.mono hB)) (Nat.le_trans hB hb'.size) (hal.below hb' hB) hds hk1 hk2 hsz)
  have HPF := Lib.hid (fun (hv : libOk ds = true) W' (hb' : Below w.heap.size w W') => pureFuns_any ds DA DC LD BD W' (hd.below (hb'.mono hBD)) (Nat.le_trans hBD hb'.size) (hald.below hb' hBD) hdz hv)
  have HL := Lib.hid (fun W' (hb' : Below w.heap.size w W') => (hl.below (hb'.mono hB)).mono_ (Nat.zero_le _) (Nat.le_trans hB hb'.size))
  obtain ⟨y, hy⟩ : ∃ y, y = resOnce ds ⟨op, n, k⟩ := ⟨_, rfl⟩
  rw [← hy]
  have HY := Lib.hid hy
  clear hb r1 r2 hd hl hy hald hal
  go_enter Tryz.func9, Tryz.ntmps9
  go_upto_region 1 with fail
  rw [← hW]
  clear hW
  go_wp2_with fail
  refine HV.out.mono ?_
  rintro e w1 ⟨rfl, hb1⟩
  have HB1 := Lib.hid (HB0.out.trans (hb1.mono HB0.out.size))
  have HRB1 := Lib.hid (HRB.out.below hb1 HRB.out.size)
  have HRR1 := Lib.hid (HRR.out.below hb1 HRR.out.size)
  clear hb1 HV q0 q1 q2 HB0 HRB HRR
  cases hv : libOk ds with
  | false =>
    have hyn : y = nd0 := HY.out.trans (by unfold resOnce okLib; rw [hv]; rfl)
    have hok2 : okLib ds ⟨op, n, k⟩ = false := by unfold okLib; rw [hv]; rfl
    have HO1 := Lib.hid hok2
    subst hyn
    clear hv hok2
    have c0 := HRR1.out.cell (i := 0) rfl
    have c1 := HRR1.out.cell (i := 1) rfl
    have c2 := HRR1.out.cell (i := 2) rfl
    have f0 := HRR1.out.free 0
    have f1 := HRR1.out.free 1
    have f2 := HRR1.out.free 2
    have hr3 := ((HRR1.out.put 0 (.int .i64 0)).put 1 (.int .i64 0)).put 2 (.slice none 0 0)
    have r0 := hr3.cell (i := 0) rfl
    have r1 := hr3.cell (i := 1) rfl
    have r2 := hr3.cell (i := 2) rfl
    have hz1 := HRR1.out.size
    have HBC := Lib.hid (((HB1.out.setCell (p := ⟨w.heap.size + 1, 0, none⟩) (by dsimp only; omega) (.int .i64 0)).setCell (p := ⟨w.heap.size + 1, 1, none⟩) (by dsimp only; omega) (.int .i64 0)).setCell (p := ⟨w.heap.size + 1, 2, none⟩) (by dsimp only; omega) (.slice none 0 0))
    skip
    clear hr3 hz1
    go_wp2_with fail
    refine bodyPost_ret (v := .tuple #[.agg #[.int .i64 0, .int .i64 0, .slice none 0 0], .bool false]) ?_ rfl (by rw [HO1.out]; exact GivesN.zero HBC.out)
    simp [results, Tryz.f9, go_sem, r0, r1, r2]
  | true =>
    have HVV := Lib.hid hv
    clear hv
    obtain ⟨q0, q1, q2⟩ : _ ∧ _ ∧ _ := ⟨HRB1.out.cell (i := 0) rfl, HRB1.out.cell (i := 1) rfl, HRB1.out.cell (i := 2) rfl⟩
    go_wp2_with fail
    refine (HCF.out _ HB1.out).mono ?_
    rintro e w2 ⟨rfl, hb2⟩
    have HB2 := Lib.hid (HB1.out.trans (hb2.mono HB1.out.size))
    have HRB2 := Lib.hid (HRB1.out.below hb2 HRB1.out.size)
    have HRR2 := Lib.hid (HRR1.out.below hb2 HRR1.out.size)
    clear hb2 q0 q1 q2 HB1 HRB1 HRR1
    obtain ⟨ok, hok⟩ : ∃ ok, ok = callsFitB ds op n k := ⟨_, rfl⟩
    have hok2 : okLib ds ⟨op, n, k⟩ = ok := by unfold okLib; rw [HVV.out, hok]; rfl
    have HOK := Lib.hid hok
    rw [← hok]
    have HO2 := Lib.hid hok2
    clear hok hok2
    cases ok with
    | false =>
      have hyn : y = nd0 := HY.out.trans (by unfold resOnce; rw [HO2.out]; rfl)
      subst hyn
      have c0 := HRR2.out.cell (i := 0) rfl
      have c1 := HRR2.out.cell (i := 1) rfl
      have c2 := HRR2.out.cell (i := 2) rfl
      have f0 := HRR2.out.free 0
      have f1 := HRR2.out.free 1
      have f2 := HRR2.out.free 2
      have hr3 := ((HRR2.out.put 0 (.int .i64 0)).put 1 (.int .i64 0)).put 2 (.slice none 0 0)
      have r0 := hr3.cell (i := 0) rfl
      have r1 := hr3.cell (i := 1) rfl
      have r2 := hr3.cell (i := 2) rfl
      have hz1 := HRR2.out.size
      have HBC := Lib.hid (((HB2.out.setCell (p := ⟨w.heap.size + 1, 0, none⟩) (by dsimp only; omega) (.int .i64 0)).setCell (p := ⟨w.heap.size + 1, 1, none⟩) (by dsimp only; omega) (.int .i64 0)).setCell (p := ⟨w.heap.size + 1, 2, none⟩) (by dsimp only; omega) (.slice none 0 0))
      skip
      clear hr3 hz1
      go_wp2_with fail
      refine bodyPost_ret (v := .tuple #[.agg #[.int .i64 0, .int .i64 0, .slice none 0 0], .bool false]) ?_ rfl (by rw [HO2.out]; exact GivesN.zero HBC.out)
      simp [results, Tryz.f9, go_sem, r0, r1, r2]
    | true =>
      have hst := fits_st HOK.out.symm
      have hii := form_i64 hst.all.1.1
      have hyy : y = chgN (gOnce (ansS ds)) 14 ⟨op, n, k⟩ := HY.out.trans (by unfold resOnce; rw [HO2.out]; rfl)
      go_wp2_with fail
      refine (HPF.out HVV.out _ HB2.out).mono ?_
      rintro e w3 ⟨rfl, hb3⟩
      obtain ⟨hba, hra⟩ := one_box w3 56 (cells8 (pureT ds))
      obtain ⟨w4, hw4⟩ : ∃ w4, w4 = w3.alloc (Obj.cells (cells8 (pureT ds)) 56) := ⟨_, rfl⟩
      rw [← hw4] at hba hra
      have hb24 := hb3.trans (hba.mono hb3.size)
      have HB4 := Lib.hid (HB2.out.trans (hb24.mono HB2.out.size))
      have HRB4 := Lib.hid (HRB2.out.below hb24 HRB2.out.size)
      have HRR4 := Lib.hid (HRR2.out.below hb24 HRR2.out.size)
      have HRS4 := Lib.hid hra
      have HC := Lib.hid (show Calls Tryz.prog 25 #[.func (.func 24) #[.agg (cells8 (pureT ds))] #[], .agg #[.int .i64 op, .int .i64 n, .slice A k.len c], .int .i64 14] w4 (Turns y w4.heap.size w4) by
        rw [hyy]
        rw [← chgN_same (keeps_once (libT_local ds) (ansS ds)) (once_same HVV.out) hst]
        refine change_any (K := 24) (F := #[.agg (cells8 (pureT ds))]) (enters_of Tryz.func24 (by kernel_rfl) rfl) (st_rule (keeps_once (libT_local ds) (ansI (pureT ds)))) w4 ?_ k.size 14 op n k A c w4 rfl hst (Below.refl _ _) (HL.out _ HB4.out) hii
        intro L p A c base bs w hb hst hi ht hbase hw0 hL
        exact putOnce_any ds (pureT ds) L p.op p.n p.k A c base bs w hst hi ht hbase)
      clear hst hii hyy HY hb3 hba hra hb24 HCF HPF HL
      unfold cells8 at hw4 HRS4 HC ⊢
      go_upto_region 4 with fail
      rw [← hw4]
      clear hw4
      obtain ⟨q0, q1, q2⟩ : _ ∧ _ ∧ _ := ⟨HRB4.out.cell (i := 0) rfl, HRB4.out.cell (i := 1) rfl, HRB4.out.cell (i := 2) rfl⟩
      obtain ⟨p0, p1, p2, p3, p4, p5, p6, p7⟩ := HRS4.out.eight
      go_wp2_with fail
      refine HC.out.mono ?_
      rintro e w5 ⟨A5, c5, b5, rfl, ht5, hb5, hi5⟩
      have HR5 := Lib.hid (HRR4.out.below hb5 HRR4.out.size)
      have HB5 := Lib.hid (HB4.out.trans (hb5.mono HB4.out.size))
      have HBL := Lib.hid HB4.out.size
      have HT5 := Lib.hid ht5
      clear ht5 hb5 hi5 q0 q1 q2 p0 p1 p2 p3 p4 p5 p6 p7
      have c0 := HR5.out.cell (i := 0) rfl
      have c1 := HR5.out.cell (i := 1) rfl
      have c2 := HR5.out.cell (i := 2) rfl
      have f0 := HR5.out.free 0
      have f1 := HR5.out.free 1
      have f2 := HR5.out.free 2
      have hr3 := ((HR5.out.put 0 (.int .i64 y.op)).put 1 (.int .i64 y.n)).put 2 (.slice A5 y.k.len c5)
      have r0 := hr3.cell (i := 0) rfl
      have r1 := hr3.cell (i := 1) rfl
      have r2 := hr3.cell (i := 2) rfl
      have hz1 := HR5.out.size
      have HBC := Lib.hid (((HB5.out.setCell (p := ⟨w.heap.size + 1, 0, none⟩) (by dsimp only; omega) (.int .i64 y.op)).setCell (p := ⟨w.heap.size + 1, 1, none⟩) (by dsimp only; omega) (.int .i64 y.n)).setCell (p := ⟨w.heap.size + 1, 2, none⟩) (by dsimp only; omega) (.slice A5 y.k.len c5))
      have hz9 := HRR4.out.size
      have HTC := Lib.hid ((((HT5.out.put (p := ⟨w.heap.size + 1, 0, none⟩) hz9 (.int .i64 y.op)).put (p := ⟨w.heap.size + 1, 1, none⟩) hz9 (.int .i64 y.n)).put (p := ⟨w.heap.size + 1, 2, none⟩) hz9 (.slice A5 y.k.len c5)).lower HBL.out)
      clear hr3 hz1
      go_wp2_with fail
      refine bodyPost_ret (v := .tuple #[.agg #[.int .i64 y.op, .int .i64 y.n, .slice A5 y.k.len c5], .bool true]) ?_ rfl (by rw [HO2.out]; exact ⟨A5, c5, b5, rfl, HTC.out, HBC.out⟩)
      simp [results, Tryz.f9, go_sem, r0, r1, r2]
end Go.Proofs.YtmnhoeliofojnaaGreat
