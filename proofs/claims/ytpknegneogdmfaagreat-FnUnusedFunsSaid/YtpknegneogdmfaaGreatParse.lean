/-
  Reading an expression at an offset: spec.l1Parse.
-/
import Derived.Test.YtpknegneogdmfaaGreatParBPK
import Derived.Test.YtpknegneogdmfaaGreatParseNo
namespace Go.Proofs.YtpknegneogdmfaaGreat
open Go.RowKit
set_option maxRecDepth 100000

set_option maxHeartbeats 2000000 in
theorem parse_num (s : List UInt8) (hs : s.length ≤ 1000000000000) (d : Nat) (hd : d < 14) (i : Nat) (ch : UInt8) (hch : s[i]? = some ch) (hx : 48 ≤ ch.toNat ∧ ch.toNat ≤ 57) (w : World) :
    Calls Tryz.prog 60 #[.string ⟨s.toArray⟩, .int .i64 (i : Int), .int .i64 ((d : Int) + 1)] w (ParPost (some (⟨1, (numAt s 3 i 0).1, .nil⟩, (numAt s 3 i 0).2)) w) := by
  have hlt := (List.getElem?_eq_some_iff.1 hch).1
  have hix := idx_of hch
  have h256 : ch.toNat < 256 := ch.toNat_lt
  obtain ⟨W, hW⟩ : ∃ W, W = w.alloc (Obj.cells #[.int .i64 0, .int .i64 0, .slice none 0 0] 36) := ⟨_, rfl⟩
  have HB := Lib.hid (show Below w.heap.size w W by rw [hW]; exact (Below.refl _ _).alloc (Nat.le_refl _) _)
  have HR := Lib.hid (show Row W w.heap.size 36 #[.int .i64 0, .int .i64 0, .slice none 0 0] by rw [hW]; exact Row.fresh _ _ _)
  have HZ := Lib.hid (show w.heap.size + 1 ≤ W.heap.size by rw [hW]; simp)
  obtain ⟨r, hr⟩ : ∃ r : Option (Nd × Nat), r = (some (⟨1, (numAt s 3 i 0).1, .nil⟩, (numAt s 3 i 0).2)) := ⟨_, rfl⟩
  rw [← hr]
  have HX := Lib.hid hr
  clear hr
  have g0 : (48 : Int) ≤ (ch.toNat : Int) := by omega
  have g1 : (ch.toNat : Int) ≤ 57 := by omega
  go_enter Tryz.func60, Tryz.ntmps60
  go_upto_region 1 with fail
  rw [← hW]
  clear hW
  have HC := Lib.hid (show Calls Tryz.prog 74 #[.string ⟨s.toArray⟩, .int .i64 (i : Int)] W _ from l1Number_any s hs i (by omega) W)
  go_wp2_with fail
  refine HC.out.mono ?_
  rintro e w1 ⟨y1, A1, c1, b1, q1, rfl, hi1, ht1, hb1, hres1⟩
  have HR1 := Lib.hid (HR.out.below hb1 HR.out.size)
  have HEND := Lib.hid (par_res (HB.out.trans (hb1.mono HB.out.size)) (Nat.le_refl w.heap.size) y1 q1 hi1 (ht1.lower (Nat.le_trans (Nat.le_succ _) HZ.out)) (fun h => by have h1 := (ht1.lt _ h).1; have h2 := HZ.out; omega) hres1)
  clear ht1 hb1 hi1 hres1 HC
  obtain ⟨t0, t1, t2⟩ := put3_cells HR1.out (y1.op) (y1.n) (.slice A1 y1.k.len c1)
  have f0 := HR1.out.free 0
  have f1 := HR1.out.free 1
  have f2 := HR1.out.free 2
  have d0 := HR1.out.cell (i := 0) rfl
  have d1 := HR1.out.cell (i := 1) rfl
  have d2 := HR1.out.cell (i := 2) rfl
  unfold put3 at t0 t1 t2
  go_wp2_with fail
  refine bodyPost_ret (v := .tuple #[.agg #[.int .i64 (y1.op), .int .i64 (y1.n), .slice A1 y1.k.len c1], .int .i64 (q1)]) ?_ rfl (by rw [HX.out]; exact HEND.out)
  simp [results, Tryz.f60, go_sem, t0, t1, t2]

set_option maxHeartbeats 2000000 in
theorem parse_var (s : List UInt8) (hs : s.length ≤ 1000000000000) (d : Nat) (hd : d < 14) (i : Nat) (ch : UInt8) (hch : s[i]? = some ch) (hx : 97 ≤ ch.toNat ∧ ch.toNat ≤ 122) (w : World) :
    Calls Tryz.prog 60 #[.string ⟨s.toArray⟩, .int .i64 (i : Int), .int .i64 ((d : Int) + 1)] w (ParPost (some (⟨2, (ch.toNat : Int) - 97, .nil⟩, i + 1)) w) := by
  have hlt := (List.getElem?_eq_some_iff.1 hch).1
  have hix := idx_of hch
  have h256 : ch.toNat < 256 := ch.toNat_lt
  obtain ⟨W, hW⟩ : ∃ W, W = w.alloc (Obj.cells #[.int .i64 0, .int .i64 0, .slice none 0 0] 36) := ⟨_, rfl⟩
  have HB := Lib.hid (show Below w.heap.size w W by rw [hW]; exact (Below.refl _ _).alloc (Nat.le_refl _) _)
  have HR := Lib.hid (show Row W w.heap.size 36 #[.int .i64 0, .int .i64 0, .slice none 0 0] by rw [hW]; exact Row.fresh _ _ _)
  have HZ := Lib.hid (show w.heap.size + 1 ≤ W.heap.size by rw [hW]; simp)
  obtain ⟨r, hr⟩ : ∃ r : Option (Nd × Nat), r = (some (⟨2, (ch.toNat : Int) - 97, .nil⟩, i + 1)) := ⟨_, rfl⟩
  rw [← hr]
  have HX := Lib.hid hr
  clear hr
  have g0 : (48 : Int) ≤ (ch.toNat : Int) := by omega
  have g1 : ¬ (ch.toNat : Int) ≤ 57 := by omega
  have g2 : (97 : Int) ≤ (ch.toNat : Int) := by omega
  have g3 : (ch.toNat : Int) ≤ 122 := by omega
  have eu : IntKind.u8.wrap ((ch.toNat : Int) - 97) = (ch.toNat : Int) - 97 := by rw [IntKind.wrap_u8]; omega
  have ei : IntKind.i64.wrap ((ch.toNat : Int) - 97) = (ch.toNat : Int) - 97 := by rw [IntKind.wrap_i64]; omega
  go_enter Tryz.func60, Tryz.ntmps60
  go_upto_region 1 with fail
  rw [← hW]
  clear hW
  have HI := Lib.hid (show I64 2 ∧ I64 ((ch.toNat : Int) - 97) from ⟨by unfold I64; omega, by unfold I64; omega⟩)
  obtain ⟨t0, t1, t2⟩ := put3_cells HR.out (2) ((ch.toNat : Int) - 97) (.slice none 0 0)
  have f0 := HR.out.free 0
  have f1 := HR.out.free 1
  have f2 := HR.out.free 2
  have d0 := HR.out.cell (i := 0) rfl
  have d1 := HR.out.cell (i := 1) rfl
  have d2 := HR.out.cell (i := 2) rfl
  unfold put3 at t0 t1 t2
  go_wp2_with fail
  refine bodyPost_ret (v := .tuple #[.agg #[.int .i64 (2), .int .i64 ((ch.toNat : Int) - 97), .slice none 0 0], .int .i64 ((i : Int) + 1)]) ?_ rfl (by rw [HX.out]; exact par_some HB.out (Nat.le_refl w.heap.size) ⟨2, (ch.toNat : Int) - 97, .nil⟩ (i + 1) HI.out (Tree.none W w.heap.size) (by simp))
  simp [results, Tryz.f60, go_sem, t0, t1, t2]

set_option maxHeartbeats 2000000 in
theorem parse_call (s : List UInt8) (hs : s.length ≤ 1000000000000) (d : Nat) (hd : d < 14) (i : Nat) (ih : ParC s d) (ch : UInt8) (hch : s[i]? = some ch) (hx : 65 ≤ ch.toNat ∧ ch.toNat ≤ 90) (w : World) :
    Calls Tryz.prog 60 #[.string ⟨s.toArray⟩, .int .i64 (i : Int), .int .i64 ((d : Int) + 1)] w (ParPost (callAt s (parseAt s d) ch i) w) := by
  have hlt := (List.getElem?_eq_some_iff.1 hch).1
  have hix := idx_of hch
  have h256 : ch.toNat < 256 := ch.toNat_lt
  obtain ⟨W, hW⟩ : ∃ W, W = w.alloc (Obj.cells #[.int .i64 0, .int .i64 0, .slice none 0 0] 36) := ⟨_, rfl⟩
  have HB := Lib.hid (show Below w.heap.size w W by rw [hW]; exact (Below.refl _ _).alloc (Nat.le_refl _) _)
  have HR := Lib.hid (show Row W w.heap.size 36 #[.int .i64 0, .int .i64 0, .slice none 0 0] by rw [hW]; exact Row.fresh _ _ _)
  have HZ := Lib.hid (show w.heap.size + 1 ≤ W.heap.size by rw [hW]; simp)
  obtain ⟨r, hr⟩ : ∃ r : Option (Nd × Nat), r = (callAt s (parseAt s d) ch i) := ⟨_, rfl⟩
  rw [← hr]
  have HX := Lib.hid hr
  clear hr
  have g0 : (48 : Int) ≤ (ch.toNat : Int) := by omega
  have g1 : ¬ (ch.toNat : Int) ≤ 57 := by omega
  have g2 : ¬ (97 : Int) ≤ (ch.toNat : Int) := by omega
  have g3 : (65 : Int) ≤ (ch.toNat : Int) := by omega
  have g4 : (ch.toNat : Int) ≤ 90 := by omega
  go_enter Tryz.func60, Tryz.ntmps60
  go_upto_region 1 with fail
  rw [← hW]
  clear hW
  have HC := Lib.hid (l1Call_any s hs d ih ch i hch hx.1 W)
  go_wp2_with fail
  refine HC.out.mono ?_
  rintro e w1 ⟨y1, A1, c1, b1, q1, rfl, hi1, ht1, hb1, hres1⟩
  have HR1 := Lib.hid (HR.out.below hb1 HR.out.size)
  have HEND := Lib.hid (par_res (HB.out.trans (hb1.mono HB.out.size)) (Nat.le_refl w.heap.size) y1 q1 hi1 (ht1.lower (Nat.le_trans (Nat.le_succ _) HZ.out)) (fun h => by have h1 := (ht1.lt _ h).1; have h2 := HZ.out; omega) hres1)
  clear ht1 hb1 hi1 hres1 HC
  obtain ⟨t0, t1, t2⟩ := put3_cells HR1.out (y1.op) (y1.n) (.slice A1 y1.k.len c1)
  have f0 := HR1.out.free 0
  have f1 := HR1.out.free 1
  have f2 := HR1.out.free 2
  have d0 := HR1.out.cell (i := 0) rfl
  have d1 := HR1.out.cell (i := 1) rfl
  have d2 := HR1.out.cell (i := 2) rfl
  unfold put3 at t0 t1 t2
  go_wp2_with fail
  refine bodyPost_ret (v := .tuple #[.agg #[.int .i64 (y1.op), .int .i64 (y1.n), .slice A1 y1.k.len c1], .int .i64 (q1)]) ?_ rfl (by rw [HX.out]; exact HEND.out)
  simp [results, Tryz.f60, go_sem, t0, t1, t2]

set_option maxHeartbeats 2000000 in
theorem parse_out (s : List UInt8) (hs : s.length ≤ 1000000000000) (d : Nat) (hd : d < 14) (i : Nat) (ih : ParC s d) (ch : UInt8) (hch : s[i]? = some ch) (hx : ch.toNat = 33) (w : World) :
    Calls Tryz.prog 60 #[.string ⟨s.toArray⟩, .int .i64 (i : Int), .int .i64 ((d : Int) + 1)] w (ParPost (match parseAt s d (i + 1) with
      | none => none
      | some (e, q) => some (⟨9, 0, .cons e.op e.n e.k .nil⟩, q)) w) := by
  have hlt := (List.getElem?_eq_some_iff.1 hch).1
  have hix := idx_of hch
  have h256 : ch.toNat < 256 := ch.toNat_lt
  obtain ⟨W, hW⟩ : ∃ W, W = w.alloc (Obj.cells #[.int .i64 0, .int .i64 0, .slice none 0 0] 36) := ⟨_, rfl⟩
  have HB := Lib.hid (show Below w.heap.size w W by rw [hW]; exact (Below.refl _ _).alloc (Nat.le_refl _) _)
  have HR := Lib.hid (show Row W w.heap.size 36 #[.int .i64 0, .int .i64 0, .slice none 0 0] by rw [hW]; exact Row.fresh _ _ _)
  have HZ := Lib.hid (show w.heap.size + 1 ≤ W.heap.size by rw [hW]; simp)
  obtain ⟨r, hr⟩ : ∃ r : Option (Nd × Nat), r = (match parseAt s d (i + 1) with
      | none => none
      | some (e, q) => some (⟨9, 0, .cons e.op e.n e.k .nil⟩, q)) := ⟨_, rfl⟩
  rw [← hr]
  have HX := Lib.hid hr
  clear hr
  have g0 : ¬ (48 : Int) ≤ (ch.toNat : Int) := by omega
  have g1 : ¬ (97 : Int) ≤ (ch.toNat : Int) := by omega
  have g2 : ¬ (65 : Int) ≤ (ch.toNat : Int) := by omega
  have g3 : (ch.toNat : Int) = 33 := by omega
  go_enter Tryz.func60, Tryz.ntmps60
  go_upto_region 1 with fail
  rw [← hW]
  clear hW
  have HC := Lib.hid (show Calls Tryz.prog 60 #[.string ⟨s.toArray⟩, .int .i64 ((i : Int) + 1), .int .i64 (d : Int)] W _ from ih (i + 1) W (by omega))
  go_wp2_with fail
  refine HC.out.mono ?_
  rintro e w1 ⟨y1, A1, c1, b1, q1, rfl, hi1, ht1, hb1, hres1⟩
  obtain ⟨W1, hW1⟩ : ∃ W1, W1 = w1.alloc (Obj.cells #[.int .i64 y1.op, .int .i64 y1.n, .slice A1 y1.k.len c1] 36) := ⟨_, rfl⟩
  have hbw1 : Below w1.heap.size w1 W1 := by rw [hW1]; exact (Below.refl _ _).alloc (Nat.le_refl _) _
  have hb01 := hb1.trans (hbw1.mono hb1.size)
  obtain ⟨W2, hW2⟩ : ∃ W2, W2 = W1.alloc (Obj.cells #[.int .i64 y1.op, .int .i64 y1.n, .slice A1 y1.k.len c1] 36) := ⟨_, rfl⟩
  have hbw2 : Below W1.heap.size W1 W2 := by rw [hW2]; exact (Below.refl _ _).alloc (Nat.le_refl _) _
  have hb02 := hb01.trans (hbw2.mono hb01.size)
  have hr2 : Row W2 W1.heap.size 36 #[.int .i64 y1.op, .int .i64 y1.n, .slice A1 y1.k.len c1] := by rw [hW2]; exact Row.fresh _ _ _
  have z1 := HZ.out
  have z2 := hb1.size
  have z3 := hbw1.size
  have hT := (tree_1 (a := y1) hr2 (Nat.le_trans hb1.size hbw1.size) ((ht1.over hbw1).over hbw2) (fun h => by have h1 := (ht1.lt _ h).2; omega) hi1).lower (base' := w.heap.size) (by omega)
  have hap : w.heap.size ∉ W1.heap.size :: b1 := fun h => by
    rcases List.mem_cons.1 h with h | h
    · omega
    · have h1 := (ht1.lt _ h).1; omega
  have HR2 := Lib.hid (HR.out.below hb02 HR.out.size)
  have HX1 := Lib.hid (show Row W1 w1.heap.size 36 #[.int .i64 y1.op, .int .i64 y1.n, .slice A1 y1.k.len c1] by rw [hW1]; exact Row.fresh _ _ _)
  have hres2 : Res r ⟨9, 0, .cons y1.op y1.n y1.k .nil⟩ q1 := by
    rw [HX.out]
    cases hp : parseAt s d (i + 1) with
    | none => rw [hp] at hres1; exact hres1
    | some x => obtain ⟨y', p⟩ := x; rw [hp] at hres1; obtain ⟨rfl, hq⟩ := hres1; exact ⟨rfl, hq⟩
  have HEND := Lib.hid (par_res (HB.out.trans (hb02.mono HB.out.size)) (Nat.le_refl w.heap.size) ⟨9, 0, .cons y1.op y1.n y1.k .nil⟩ q1 ⟨by show I64 9; unfold I64; omega, by show I64 0; unfold I64; omega⟩ hT hap hres2)
  have x0 := HX1.out.cell (i := 0) rfl
  have x1 := HX1.out.cell (i := 1) rfl
  have x2 := HX1.out.cell (i := 2) rfl
  obtain ⟨t0, t1, t2⟩ := put3_cells HR2.out 9 0 (.slice (some ⟨W1.heap.size, 0, none⟩) 1 1)
  have f0 := HR2.out.free 0
  have f1 := HR2.out.free 1
  have f2 := HR2.out.free 2
  have d0 := HR2.out.cell (i := 0) rfl
  have d1 := HR2.out.cell (i := 1) rfl
  have d2 := HR2.out.cell (i := 2) rfl
  rw [hW2] at f0 f1 f2 d0 d1 d2 t0 t1 t2 HEND
  clear ht1 hb1 hbw1 hb01 hbw2 hb02 hr2 hT hap hres1 hres2 hi1 HC z1 z2 z3 hW2
  go_upto_region 12 with fail
  rw [← hW1]
  clear hW1
  unfold put3 at t0 t1 t2
  go_wp2_with fail
  refine bodyPost_ret (v := .tuple #[.agg #[.int .i64 9, .int .i64 0, .slice (some ⟨W1.heap.size, 0, none⟩) 1 1], .int .i64 q1]) ?_ rfl HEND.out
  simp [results, Tryz.f60, go_sem, t0, t1, t2]

set_option maxHeartbeats 2000000 in
theorem parse_bin (s : List UInt8) (hs : s.length ≤ 1000000000000) (d : Nat) (hd : d < 14) (i : Nat) (ih : ParC s d) (ch : UInt8) (hch : s[i]? = some ch) (hx : ch.toNat = 40) (w : World) :
    Calls Tryz.prog 60 #[.string ⟨s.toArray⟩, .int .i64 (i : Int), .int .i64 ((d : Int) + 1)] w (ParPost (binAt s (parseAt s d) (i + 1)) w) := by
  have hlt := (List.getElem?_eq_some_iff.1 hch).1
  have hix := idx_of hch
  have h256 : ch.toNat < 256 := ch.toNat_lt
  obtain ⟨W, hW⟩ : ∃ W, W = w.alloc (Obj.cells #[.int .i64 0, .int .i64 0, .slice none 0 0] 36) := ⟨_, rfl⟩
  have HB := Lib.hid (show Below w.heap.size w W by rw [hW]; exact (Below.refl _ _).alloc (Nat.le_refl _) _)
  have HR := Lib.hid (show Row W w.heap.size 36 #[.int .i64 0, .int .i64 0, .slice none 0 0] by rw [hW]; exact Row.fresh _ _ _)
  have HZ := Lib.hid (show w.heap.size + 1 ≤ W.heap.size by rw [hW]; simp)
  obtain ⟨r, hr⟩ : ∃ r : Option (Nd × Nat), r = (binAt s (parseAt s d) (i + 1)) := ⟨_, rfl⟩
  rw [← hr]
  have HX := Lib.hid hr
  clear hr
  have g0 : ¬ (48 : Int) ≤ (ch.toNat : Int) := by omega
  have g1 : ¬ (97 : Int) ≤ (ch.toNat : Int) := by omega
  have g2 : ¬ (65 : Int) ≤ (ch.toNat : Int) := by omega
  have g3 : ¬ (ch.toNat : Int) = 33 := by omega
  have g4 : (ch.toNat : Int) = 40 := by omega
  go_enter Tryz.func60, Tryz.ntmps60
  go_upto_region 1 with fail
  rw [← hW]
  clear hW
  have HC := Lib.hid (show Calls Tryz.prog 76 #[.string ⟨s.toArray⟩, .int .i64 ((i : Int) + 1), .int .i64 (d : Int)] W _ from l1Binary_any s hs d ih (i + 1) (by omega) W)
  go_wp2_with fail
  refine HC.out.mono ?_
  rintro e w1 ⟨y1, A1, c1, b1, q1, rfl, hi1, ht1, hb1, hres1⟩
  have HR1 := Lib.hid (HR.out.below hb1 HR.out.size)
  have HEND := Lib.hid (par_res (HB.out.trans (hb1.mono HB.out.size)) (Nat.le_refl w.heap.size) y1 q1 hi1 (ht1.lower (Nat.le_trans (Nat.le_succ _) HZ.out)) (fun h => by have h1 := (ht1.lt _ h).1; have h2 := HZ.out; omega) hres1)
  clear ht1 hb1 hi1 hres1 HC
  obtain ⟨t0, t1, t2⟩ := put3_cells HR1.out (y1.op) (y1.n) (.slice A1 y1.k.len c1)
  have f0 := HR1.out.free 0
  have f1 := HR1.out.free 1
  have f2 := HR1.out.free 2
  have d0 := HR1.out.cell (i := 0) rfl
  have d1 := HR1.out.cell (i := 1) rfl
  have d2 := HR1.out.cell (i := 2) rfl
  unfold put3 at t0 t1 t2
  go_wp2_with fail
  refine bodyPost_ret (v := .tuple #[.agg #[.int .i64 (y1.op), .int .i64 (y1.n), .slice A1 y1.k.len c1], .int .i64 (q1)]) ?_ rfl (by rw [HX.out]; exact HEND.out)
  simp [results, Tryz.f60, go_sem, t0, t1, t2]

set_option maxHeartbeats 2000000 in
theorem parse_if (s : List UInt8) (hs : s.length ≤ 1000000000000) (d : Nat) (hd : d < 14) (i : Nat) (ih : ParC s d) (ch : UInt8) (hch : s[i]? = some ch) (hx : ch.toNat = 91) (w : World) :
    Calls Tryz.prog 60 #[.string ⟨s.toArray⟩, .int .i64 (i : Int), .int .i64 ((d : Int) + 1)] w (ParPost (node 6 (0) (partsAt s (parseAt s d) [63, 58, 93] (i + 1))) w) := by
  have hlt := (List.getElem?_eq_some_iff.1 hch).1
  have hix := idx_of hch
  have h256 : ch.toNat < 256 := ch.toNat_lt
  obtain ⟨W, hW⟩ : ∃ W, W = w.alloc (Obj.cells #[.int .i64 0, .int .i64 0, .slice none 0 0] 36) := ⟨_, rfl⟩
  have HB := Lib.hid (show Below w.heap.size w W by rw [hW]; exact (Below.refl _ _).alloc (Nat.le_refl _) _)
  have HR := Lib.hid (show Row W w.heap.size 36 #[.int .i64 0, .int .i64 0, .slice none 0 0] by rw [hW]; exact Row.fresh _ _ _)
  have HZ := Lib.hid (show w.heap.size + 1 ≤ W.heap.size by rw [hW]; simp)
  obtain ⟨r, hr⟩ : ∃ r : Option (Nd × Nat), r = (node 6 (0) (partsAt s (parseAt s d) [63, 58, 93] (i + 1))) := ⟨_, rfl⟩
  rw [← hr]
  have HX := Lib.hid hr
  clear hr
  have g0 : (48 : Int) ≤ (ch.toNat : Int) := by omega
  have g1 : ¬ (ch.toNat : Int) ≤ 57 := by omega
  have g2 : ¬ (97 : Int) ≤ (ch.toNat : Int) := by omega
  have g3 : (65 : Int) ≤ (ch.toNat : Int) := by omega
  have g4 : ¬ (ch.toNat : Int) ≤ 90 := by omega
  have g5 : ¬ (ch.toNat : Int) = 33 := by omega
  have g6 : ¬ (ch.toNat : Int) = 40 := by omega
  have g7 : (ch.toNat : Int) = 91 := by omega
  go_enter Tryz.func60, Tryz.ntmps60
  go_upto_region 1 with fail
  rw [← hW]
  clear hW
  obtain ⟨W1, hW1⟩ : ∃ W1, W1 = W.alloc (Obj.cells #[.int .u8 63, .int .u8 58, .int .u8 93] 5) := ⟨_, rfl⟩
  have hbw1 : Below W.heap.size W W1 := by rw [hW1]; exact (Below.refl _ _).alloc (Nat.le_refl _) _
  have hr1 : Row W1 W.heap.size 5 #[.int .u8 63, .int .u8 58, .int .u8 93] := by rw [hW1]; exact Row.fresh _ _ _
  have hly : LiesY W1 0 W1.heap.size (some ⟨W.heap.size, 0, none⟩) (([63, 58, 93] : List UInt8).map UInt8.toNat) := by
    have hsz : W.heap.size < W1.heap.size := hr1.size
    intro j x hj
    match j, hj with
    | 0, hj => cases hj; exact ⟨W.heap.size, 0, rfl, Nat.zero_le _, hsz, by decide, by simpa using hr1.cell (i := 0) (v := .int .u8 63) rfl⟩
    | 1, hj => cases hj; exact ⟨W.heap.size, 0, rfl, Nat.zero_le _, hsz, by decide, by simpa using hr1.cell (i := 1) (v := .int .u8 58) rfl⟩
    | 2, hj => cases hj; exact ⟨W.heap.size, 0, rfl, Nat.zero_le _, hsz, by decide, by simpa using hr1.cell (i := 2) (v := .int .u8 93) rfl⟩
    | _ + 3, hj => simp at hj
  have HC := Lib.hid (show Calls Tryz.prog 77 #[.string ⟨s.toArray⟩, .int .i64 ((i : Int) + 1), .slice (some ⟨W.heap.size, 0, none⟩) 3 3, .int .i64 (d : Int)] W1 _ from l1Parts_any s hs d ih [63, 58, 93] (by decide) (some ⟨W.heap.size, 0, none⟩) 3 (i + 1) (by omega) W1 hly)
  have HB1 := Lib.hid (HB.out.trans (hbw1.mono HB.out.size))
  have HR1 := Lib.hid (HR.out.below hbw1 HR.out.size)
  have HZ1 := Lib.hid (show w.heap.size + 1 ≤ W1.heap.size from Nat.le_trans HZ.out hbw1.size)
  clear hbw1 hr1 hly
  go_wp2_with fail
  rw [← hW1]
  clear hW1
  refine HC.out.mono ?_
  rintro e w2 ⟨f2_, A2, c2, b2, q2, rfl, ht2, hb2, hres2⟩
  have HR2 := Lib.hid (HR1.out.below hb2 HR1.out.size)
  have hres3 : Res r ⟨6, 0, f2_⟩ q2 := by
    rw [HX.out]
    cases hp : partsAt s (parseAt s d) [63, 58, 93] (i + 1) with
    | none => rw [hp] at hres2; exact hres2
    | some x => obtain ⟨y', p⟩ := x; rw [hp] at hres2; obtain ⟨rfl, hq⟩ := hres2; exact ⟨rfl, hq⟩
  have HEND := Lib.hid (par_res (HB1.out.trans (hb2.mono HB1.out.size)) (Nat.le_refl w.heap.size) ⟨6, 0, f2_⟩ q2 ⟨by show I64 6; unfold I64; omega, by show I64 (0); unfold I64; omega⟩ (ht2.lower (Nat.le_trans (Nat.le_succ _) HZ1.out)) (fun h => by have h1 := (ht2.lt _ h).1; have h2 := HZ1.out; omega) hres3)
  clear ht2 hb2 hres2 hres3 HC
  obtain ⟨t0, t1, t2⟩ := put3_cells HR2.out (6) (0) (.slice A2 f2_.len c2)
  have f0 := HR2.out.free 0
  have f1 := HR2.out.free 1
  have f2 := HR2.out.free 2
  have d0 := HR2.out.cell (i := 0) rfl
  have d1 := HR2.out.cell (i := 1) rfl
  have d2 := HR2.out.cell (i := 2) rfl
  unfold put3 at t0 t1 t2
  go_wp2_with fail
  refine bodyPost_ret (v := .tuple #[.agg #[.int .i64 (6), .int .i64 (0), .slice A2 f2_.len c2], .int .i64 (q2)]) ?_ rfl (HEND.out)
  simp [results, Tryz.f60, go_sem, t0, t1, t2]

set_option maxHeartbeats 2000000 in
theorem parse_seq (s : List UInt8) (hs : s.length ≤ 1000000000000) (d : Nat) (hd : d < 14) (i : Nat) (ih : ParC s d) (hq : ¬ s[i + 2]? = some 61) (ch : UInt8) (hch : s[i]? = some ch) (hx : ch.toNat = 123) (w : World) :
    Calls Tryz.prog 60 #[.string ⟨s.toArray⟩, .int .i64 (i : Int), .int .i64 ((d : Int) + 1)] w (ParPost (node 8 (0) (partsAt s (parseAt s d) [59, 125] (i + 1))) w) := by
  have hlt := (List.getElem?_eq_some_iff.1 hch).1
  have hix := idx_of hch
  have h256 : ch.toNat < 256 := ch.toNat_lt
  obtain ⟨W, hW⟩ : ∃ W, W = w.alloc (Obj.cells #[.int .i64 0, .int .i64 0, .slice none 0 0] 36) := ⟨_, rfl⟩
  have HB := Lib.hid (show Below w.heap.size w W by rw [hW]; exact (Below.refl _ _).alloc (Nat.le_refl _) _)
  have HR := Lib.hid (show Row W w.heap.size 36 #[.int .i64 0, .int .i64 0, .slice none 0 0] by rw [hW]; exact Row.fresh _ _ _)
  have HZ := Lib.hid (show w.heap.size + 1 ≤ W.heap.size by rw [hW]; simp)
  obtain ⟨r, hr⟩ : ∃ r : Option (Nd × Nat), r = (node 8 (0) (partsAt s (parseAt s d) [59, 125] (i + 1))) := ⟨_, rfl⟩
  rw [← hr]
  have HX := Lib.hid hr
  clear hr
  have g0 : (48 : Int) ≤ (ch.toNat : Int) := by omega
  have g1 : ¬ (ch.toNat : Int) ≤ 57 := by omega
  have g2 : (97 : Int) ≤ (ch.toNat : Int) := by omega
  have g3 : ¬ (ch.toNat : Int) ≤ 122 := by omega
  have g4 : ¬ (ch.toNat : Int) ≤ 90 := by omega
  have g5 : ¬ (ch.toNat : Int) = 33 := by omega
  have g6 : ¬ (ch.toNat : Int) = 40 := by omega
  have g7 : ¬ (ch.toNat : Int) = 91 := by omega
  have g8 : (ch.toNat : Int) = 123 := by omega
  go_enter Tryz.func60, Tryz.ntmps60
  go_upto_region 1 with fail
  rw [← hW]
  clear hW
  obtain ⟨W1, hW1⟩ : ∃ W1, W1 = W.alloc (Obj.cells #[.int .u8 59, .int .u8 125] 5) := ⟨_, rfl⟩
  have hbw1 : Below W.heap.size W W1 := by rw [hW1]; exact (Below.refl _ _).alloc (Nat.le_refl _) _
  have hr1 : Row W1 W.heap.size 5 #[.int .u8 59, .int .u8 125] := by rw [hW1]; exact Row.fresh _ _ _
  have hly : LiesY W1 0 W1.heap.size (some ⟨W.heap.size, 0, none⟩) (([59, 125] : List UInt8).map UInt8.toNat) := by
    have hsz : W.heap.size < W1.heap.size := hr1.size
    intro j x hj
    match j, hj with
    | 0, hj => cases hj; exact ⟨W.heap.size, 0, rfl, Nat.zero_le _, hsz, by decide, by simpa using hr1.cell (i := 0) (v := .int .u8 59) rfl⟩
    | 1, hj => cases hj; exact ⟨W.heap.size, 0, rfl, Nat.zero_le _, hsz, by decide, by simpa using hr1.cell (i := 1) (v := .int .u8 125) rfl⟩
    | _ + 2, hj => simp at hj
  have HC := Lib.hid (show Calls Tryz.prog 77 #[.string ⟨s.toArray⟩, .int .i64 ((i : Int) + 1), .slice (some ⟨W.heap.size, 0, none⟩) 2 2, .int .i64 (d : Int)] W1 _ from l1Parts_any s hs d ih [59, 125] (by decide) (some ⟨W.heap.size, 0, none⟩) 2 (i + 1) (by omega) W1 hly)
  have HB1 := Lib.hid (HB.out.trans (hbw1.mono HB.out.size))
  have HR1 := Lib.hid (HR.out.below hbw1 HR.out.size)
  have HZ1 := Lib.hid (show w.heap.size + 1 ≤ W1.heap.size from Nat.le_trans HZ.out hbw1.size)
  clear hbw1 hr1 hly
  go_wp2_with fail
  refine (l1At_lit s ((i : Int) + 2) 61 61 rfl W).mono ?_
  rintro e w9 ⟨rfl, rfl⟩
  rw [show atB s ((i : Int) + 2) 61 = false by rw [show (i : Int) + 2 = ((i + 2 : Nat) : Int) by omega, atB_nat]; exact decide_eq_false hq]
  go_wp2_with fail
  rw [← hW1]
  clear hW1
  refine HC.out.mono ?_
  rintro e w2 ⟨f2_, A2, c2, b2, q2, rfl, ht2, hb2, hres2⟩
  have HR2 := Lib.hid (HR1.out.below hb2 HR1.out.size)
  have hres3 : Res r ⟨8, 0, f2_⟩ q2 := by
    rw [HX.out]
    cases hp : partsAt s (parseAt s d) [59, 125] (i + 1) with
    | none => rw [hp] at hres2; exact hres2
    | some x => obtain ⟨y', p⟩ := x; rw [hp] at hres2; obtain ⟨rfl, hq⟩ := hres2; exact ⟨rfl, hq⟩
  have HEND := Lib.hid (par_res (HB1.out.trans (hb2.mono HB1.out.size)) (Nat.le_refl w.heap.size) ⟨8, 0, f2_⟩ q2 ⟨by show I64 8; unfold I64; omega, by show I64 (0); unfold I64; omega⟩ (ht2.lower (Nat.le_trans (Nat.le_succ _) HZ1.out)) (fun h => by have h1 := (ht2.lt _ h).1; have h2 := HZ1.out; omega) hres3)
  clear ht2 hb2 hres2 hres3 HC
  obtain ⟨t0, t1, t2⟩ := put3_cells HR2.out (8) (0) (.slice A2 f2_.len c2)
  have f0 := HR2.out.free 0
  have f1 := HR2.out.free 1
  have f2 := HR2.out.free 2
  have d0 := HR2.out.cell (i := 0) rfl
  have d1 := HR2.out.cell (i := 1) rfl
  have d2 := HR2.out.cell (i := 2) rfl
  unfold put3 at t0 t1 t2
  go_wp2_with fail
  refine bodyPost_ret (v := .tuple #[.agg #[.int .i64 (8), .int .i64 (0), .slice A2 f2_.len c2], .int .i64 (q2)]) ?_ rfl (HEND.out)
  simp [results, Tryz.f60, go_sem, t0, t1, t2]

set_option maxHeartbeats 2000000 in
theorem parse_seq_lo (s : List UInt8) (hs : s.length ≤ 1000000000000) (d : Nat) (hd : d < 14) (i : Nat) (ih : ParC s d) (hq : s[i + 2]? = some 61) (c1 : UInt8) (hc1 : s[i + 1]? = some c1) (h97 : c1.toNat < 97) (ch : UInt8) (hch : s[i]? = some ch) (hx : ch.toNat = 123) (w : World) :
    Calls Tryz.prog 60 #[.string ⟨s.toArray⟩, .int .i64 (i : Int), .int .i64 ((d : Int) + 1)] w (ParPost (node 8 (0) (partsAt s (parseAt s d) [59, 125] (i + 1))) w) := by
  have hlt := (List.getElem?_eq_some_iff.1 hch).1
  have hix := idx_of hch
  have h256 : ch.toNat < 256 := ch.toNat_lt
  obtain ⟨W, hW⟩ : ∃ W, W = w.alloc (Obj.cells #[.int .i64 0, .int .i64 0, .slice none 0 0] 36) := ⟨_, rfl⟩
  have HB := Lib.hid (show Below w.heap.size w W by rw [hW]; exact (Below.refl _ _).alloc (Nat.le_refl _) _)
  have HR := Lib.hid (show Row W w.heap.size 36 #[.int .i64 0, .int .i64 0, .slice none 0 0] by rw [hW]; exact Row.fresh _ _ _)
  have HZ := Lib.hid (show w.heap.size + 1 ≤ W.heap.size by rw [hW]; simp)
  obtain ⟨r, hr⟩ : ∃ r : Option (Nd × Nat), r = (node 8 (0) (partsAt s (parseAt s d) [59, 125] (i + 1))) := ⟨_, rfl⟩
  rw [← hr]
  have HX := Lib.hid hr
  clear hr
  have g0 : (48 : Int) ≤ (ch.toNat : Int) := by omega
  have g1 : ¬ (ch.toNat : Int) ≤ 57 := by omega
  have g2 : (97 : Int) ≤ (ch.toNat : Int) := by omega
  have g3 : ¬ (ch.toNat : Int) ≤ 122 := by omega
  have g4 : ¬ (ch.toNat : Int) ≤ 90 := by omega
  have g5 : ¬ (ch.toNat : Int) = 33 := by omega
  have g6 : ¬ (ch.toNat : Int) = 40 := by omega
  have g7 : ¬ (ch.toNat : Int) = 91 := by omega
  have g8 : (ch.toNat : Int) = 123 := by omega
  have hlt1 := (List.getElem?_eq_some_iff.1 hc1).1
  have hix1 := idx_of hc1
  have k1 : c1.toNat < 256 := c1.toNat_lt
  have m0 : ¬ (97 : Int) ≤ (c1.toNat : Int) := by omega
  go_enter Tryz.func60, Tryz.ntmps60
  go_upto_region 1 with fail
  rw [← hW]
  clear hW
  obtain ⟨W1, hW1⟩ : ∃ W1, W1 = W.alloc (Obj.cells #[.int .u8 59, .int .u8 125] 5) := ⟨_, rfl⟩
  have hbw1 : Below W.heap.size W W1 := by rw [hW1]; exact (Below.refl _ _).alloc (Nat.le_refl _) _
  have hr1 : Row W1 W.heap.size 5 #[.int .u8 59, .int .u8 125] := by rw [hW1]; exact Row.fresh _ _ _
  have hly : LiesY W1 0 W1.heap.size (some ⟨W.heap.size, 0, none⟩) (([59, 125] : List UInt8).map UInt8.toNat) := by
    have hsz : W.heap.size < W1.heap.size := hr1.size
    intro j x hj
    match j, hj with
    | 0, hj => cases hj; exact ⟨W.heap.size, 0, rfl, Nat.zero_le _, hsz, by decide, by simpa using hr1.cell (i := 0) (v := .int .u8 59) rfl⟩
    | 1, hj => cases hj; exact ⟨W.heap.size, 0, rfl, Nat.zero_le _, hsz, by decide, by simpa using hr1.cell (i := 1) (v := .int .u8 125) rfl⟩
    | _ + 2, hj => simp at hj
  have HC := Lib.hid (show Calls Tryz.prog 77 #[.string ⟨s.toArray⟩, .int .i64 ((i : Int) + 1), .slice (some ⟨W.heap.size, 0, none⟩) 2 2, .int .i64 (d : Int)] W1 _ from l1Parts_any s hs d ih [59, 125] (by decide) (some ⟨W.heap.size, 0, none⟩) 2 (i + 1) (by omega) W1 hly)
  have HB1 := Lib.hid (HB.out.trans (hbw1.mono HB.out.size))
  have HR1 := Lib.hid (HR.out.below hbw1 HR.out.size)
  have HZ1 := Lib.hid (show w.heap.size + 1 ≤ W1.heap.size from Nat.le_trans HZ.out hbw1.size)
  clear hbw1 hr1 hly
  go_wp2_with fail
  refine (l1At_lit s ((i : Int) + 2) 61 61 rfl W).mono ?_
  rintro e w9 ⟨rfl, rfl⟩
  rw [show atB s ((i : Int) + 2) 61 = true by rw [show (i : Int) + 2 = ((i + 2 : Nat) : Int) by omega, atB_nat]; exact decide_eq_true hq]
  go_wp2_with fail
  rw [← hW1]
  clear hW1
  refine HC.out.mono ?_
  rintro e w2 ⟨f2_, A2, c2, b2, q2, rfl, ht2, hb2, hres2⟩
  have HR2 := Lib.hid (HR1.out.below hb2 HR1.out.size)
  have hres3 : Res r ⟨8, 0, f2_⟩ q2 := by
    rw [HX.out]
    cases hp : partsAt s (parseAt s d) [59, 125] (i + 1) with
    | none => rw [hp] at hres2; exact hres2
    | some x => obtain ⟨y', p⟩ := x; rw [hp] at hres2; obtain ⟨rfl, hq⟩ := hres2; exact ⟨rfl, hq⟩
  have HEND := Lib.hid (par_res (HB1.out.trans (hb2.mono HB1.out.size)) (Nat.le_refl w.heap.size) ⟨8, 0, f2_⟩ q2 ⟨by show I64 8; unfold I64; omega, by show I64 (0); unfold I64; omega⟩ (ht2.lower (Nat.le_trans (Nat.le_succ _) HZ1.out)) (fun h => by have h1 := (ht2.lt _ h).1; have h2 := HZ1.out; omega) hres3)
  clear ht2 hb2 hres2 hres3 HC
  obtain ⟨t0, t1, t2⟩ := put3_cells HR2.out (8) (0) (.slice A2 f2_.len c2)
  have f0 := HR2.out.free 0
  have f1 := HR2.out.free 1
  have f2 := HR2.out.free 2
  have d0 := HR2.out.cell (i := 0) rfl
  have d1 := HR2.out.cell (i := 1) rfl
  have d2 := HR2.out.cell (i := 2) rfl
  unfold put3 at t0 t1 t2
  go_wp2_with fail
  refine bodyPost_ret (v := .tuple #[.agg #[.int .i64 (8), .int .i64 (0), .slice A2 f2_.len c2], .int .i64 (q2)]) ?_ rfl (HEND.out)
  simp [results, Tryz.f60, go_sem, t0, t1, t2]

set_option maxHeartbeats 2000000 in
theorem parse_seq_hi (s : List UInt8) (hs : s.length ≤ 1000000000000) (d : Nat) (hd : d < 14) (i : Nat) (ih : ParC s d) (hq : s[i + 2]? = some 61) (c1 : UInt8) (hc1 : s[i + 1]? = some c1) (h97 : 122 < c1.toNat) (ch : UInt8) (hch : s[i]? = some ch) (hx : ch.toNat = 123) (w : World) :
    Calls Tryz.prog 60 #[.string ⟨s.toArray⟩, .int .i64 (i : Int), .int .i64 ((d : Int) + 1)] w (ParPost (node 8 (0) (partsAt s (parseAt s d) [59, 125] (i + 1))) w) := by
  have hlt := (List.getElem?_eq_some_iff.1 hch).1
  have hix := idx_of hch
  have h256 : ch.toNat < 256 := ch.toNat_lt
  obtain ⟨W, hW⟩ : ∃ W, W = w.alloc (Obj.cells #[.int .i64 0, .int .i64 0, .slice none 0 0] 36) := ⟨_, rfl⟩
  have HB := Lib.hid (show Below w.heap.size w W by rw [hW]; exact (Below.refl _ _).alloc (Nat.le_refl _) _)
  have HR := Lib.hid (show Row W w.heap.size 36 #[.int .i64 0, .int .i64 0, .slice none 0 0] by rw [hW]; exact Row.fresh _ _ _)
  have HZ := Lib.hid (show w.heap.size + 1 ≤ W.heap.size by rw [hW]; simp)
  obtain ⟨r, hr⟩ : ∃ r : Option (Nd × Nat), r = (node 8 (0) (partsAt s (parseAt s d) [59, 125] (i + 1))) := ⟨_, rfl⟩
  rw [← hr]
  have HX := Lib.hid hr
  clear hr
  have g0 : (48 : Int) ≤ (ch.toNat : Int) := by omega
  have g1 : ¬ (ch.toNat : Int) ≤ 57 := by omega
  have g2 : (97 : Int) ≤ (ch.toNat : Int) := by omega
  have g3 : ¬ (ch.toNat : Int) ≤ 122 := by omega
  have g4 : ¬ (ch.toNat : Int) ≤ 90 := by omega
  have g5 : ¬ (ch.toNat : Int) = 33 := by omega
  have g6 : ¬ (ch.toNat : Int) = 40 := by omega
  have g7 : ¬ (ch.toNat : Int) = 91 := by omega
  have g8 : (ch.toNat : Int) = 123 := by omega
  have hlt1 := (List.getElem?_eq_some_iff.1 hc1).1
  have hix1 := idx_of hc1
  have k1 : c1.toNat < 256 := c1.toNat_lt
  have m0 : (97 : Int) ≤ (c1.toNat : Int) := by omega
  have m1 : ¬ (c1.toNat : Int) ≤ 122 := by omega
  go_enter Tryz.func60, Tryz.ntmps60
  go_upto_region 1 with fail
  rw [← hW]
  clear hW
  obtain ⟨W1, hW1⟩ : ∃ W1, W1 = W.alloc (Obj.cells #[.int .u8 59, .int .u8 125] 5) := ⟨_, rfl⟩
  have hbw1 : Below W.heap.size W W1 := by rw [hW1]; exact (Below.refl _ _).alloc (Nat.le_refl _) _
  have hr1 : Row W1 W.heap.size 5 #[.int .u8 59, .int .u8 125] := by rw [hW1]; exact Row.fresh _ _ _
  have hly : LiesY W1 0 W1.heap.size (some ⟨W.heap.size, 0, none⟩) (([59, 125] : List UInt8).map UInt8.toNat) := by
    have hsz : W.heap.size < W1.heap.size := hr1.size
    intro j x hj
    match j, hj with
    | 0, hj => cases hj; exact ⟨W.heap.size, 0, rfl, Nat.zero_le _, hsz, by decide, by simpa using hr1.cell (i := 0) (v := .int .u8 59) rfl⟩
    | 1, hj => cases hj; exact ⟨W.heap.size, 0, rfl, Nat.zero_le _, hsz, by decide, by simpa using hr1.cell (i := 1) (v := .int .u8 125) rfl⟩
    | _ + 2, hj => simp at hj
  have HC := Lib.hid (show Calls Tryz.prog 77 #[.string ⟨s.toArray⟩, .int .i64 ((i : Int) + 1), .slice (some ⟨W.heap.size, 0, none⟩) 2 2, .int .i64 (d : Int)] W1 _ from l1Parts_any s hs d ih [59, 125] (by decide) (some ⟨W.heap.size, 0, none⟩) 2 (i + 1) (by omega) W1 hly)
  have HB1 := Lib.hid (HB.out.trans (hbw1.mono HB.out.size))
  have HR1 := Lib.hid (HR.out.below hbw1 HR.out.size)
  have HZ1 := Lib.hid (show w.heap.size + 1 ≤ W1.heap.size from Nat.le_trans HZ.out hbw1.size)
  clear hbw1 hr1 hly
  go_wp2_with fail
  refine (l1At_lit s ((i : Int) + 2) 61 61 rfl W).mono ?_
  rintro e w9 ⟨rfl, rfl⟩
  rw [show atB s ((i : Int) + 2) 61 = true by rw [show (i : Int) + 2 = ((i + 2 : Nat) : Int) by omega, atB_nat]; exact decide_eq_true hq]
  go_wp2_with fail
  rw [← hW1]
  clear hW1
  refine HC.out.mono ?_
  rintro e w2 ⟨f2_, A2, c2, b2, q2, rfl, ht2, hb2, hres2⟩
  have HR2 := Lib.hid (HR1.out.below hb2 HR1.out.size)
  have hres3 : Res r ⟨8, 0, f2_⟩ q2 := by
    rw [HX.out]
    cases hp : partsAt s (parseAt s d) [59, 125] (i + 1) with
    | none => rw [hp] at hres2; exact hres2
    | some x => obtain ⟨y', p⟩ := x; rw [hp] at hres2; obtain ⟨rfl, hq⟩ := hres2; exact ⟨rfl, hq⟩
  have HEND := Lib.hid (par_res (HB1.out.trans (hb2.mono HB1.out.size)) (Nat.le_refl w.heap.size) ⟨8, 0, f2_⟩ q2 ⟨by show I64 8; unfold I64; omega, by show I64 (0); unfold I64; omega⟩ (ht2.lower (Nat.le_trans (Nat.le_succ _) HZ1.out)) (fun h => by have h1 := (ht2.lt _ h).1; have h2 := HZ1.out; omega) hres3)
  clear ht2 hb2 hres2 hres3 HC
  obtain ⟨t0, t1, t2⟩ := put3_cells HR2.out (8) (0) (.slice A2 f2_.len c2)
  have f0 := HR2.out.free 0
  have f1 := HR2.out.free 1
  have f2 := HR2.out.free 2
  have d0 := HR2.out.cell (i := 0) rfl
  have d1 := HR2.out.cell (i := 1) rfl
  have d2 := HR2.out.cell (i := 2) rfl
  unfold put3 at t0 t1 t2
  go_wp2_with fail
  refine bodyPost_ret (v := .tuple #[.agg #[.int .i64 (8), .int .i64 (0), .slice A2 f2_.len c2], .int .i64 (q2)]) ?_ rfl (HEND.out)
  simp [results, Tryz.f60, go_sem, t0, t1, t2]

set_option maxHeartbeats 2000000 in
theorem parse_let (s : List UInt8) (hs : s.length ≤ 1000000000000) (d : Nat) (hd : d < 14) (i : Nat) (ih : ParC s d) (hq : s[i + 2]? = some 61) (c1 : UInt8) (hc1 : s[i + 1]? = some c1) (h97 : 97 ≤ c1.toNat ∧ c1.toNat ≤ 122) (ch : UInt8) (hch : s[i]? = some ch) (hx : ch.toNat = 123) (w : World) :
    Calls Tryz.prog 60 #[.string ⟨s.toArray⟩, .int .i64 (i : Int), .int .i64 ((d : Int) + 1)] w (ParPost (node 7 ((c1.toNat : Int) - 97) (partsAt s (parseAt s d) [59, 125] (i + 3))) w) := by
  have hlt := (List.getElem?_eq_some_iff.1 hch).1
  have hix := idx_of hch
  have h256 : ch.toNat < 256 := ch.toNat_lt
  obtain ⟨W, hW⟩ : ∃ W, W = w.alloc (Obj.cells #[.int .i64 0, .int .i64 0, .slice none 0 0] 36) := ⟨_, rfl⟩
  have HB := Lib.hid (show Below w.heap.size w W by rw [hW]; exact (Below.refl _ _).alloc (Nat.le_refl _) _)
  have HR := Lib.hid (show Row W w.heap.size 36 #[.int .i64 0, .int .i64 0, .slice none 0 0] by rw [hW]; exact Row.fresh _ _ _)
  have HZ := Lib.hid (show w.heap.size + 1 ≤ W.heap.size by rw [hW]; simp)
  obtain ⟨r, hr⟩ : ∃ r : Option (Nd × Nat), r = (node 7 ((c1.toNat : Int) - 97) (partsAt s (parseAt s d) [59, 125] (i + 3))) := ⟨_, rfl⟩
  rw [← hr]
  have HX := Lib.hid hr
  clear hr
  have g0 : (48 : Int) ≤ (ch.toNat : Int) := by omega
  have g1 : ¬ (ch.toNat : Int) ≤ 57 := by omega
  have g2 : (97 : Int) ≤ (ch.toNat : Int) := by omega
  have g3 : ¬ (ch.toNat : Int) ≤ 122 := by omega
  have g4 : ¬ (ch.toNat : Int) ≤ 90 := by omega
  have g5 : ¬ (ch.toNat : Int) = 33 := by omega
  have g6 : ¬ (ch.toNat : Int) = 40 := by omega
  have g7 : ¬ (ch.toNat : Int) = 91 := by omega
  have g8 : (ch.toNat : Int) = 123 := by omega
  have hlt1 := (List.getElem?_eq_some_iff.1 hc1).1
  have hix1 := idx_of hc1
  have k1 : c1.toNat < 256 := c1.toNat_lt
  have hlt3 := (List.getElem?_eq_some_iff.1 hq).1
  have m0 : (97 : Int) ≤ (c1.toNat : Int) := by omega
  have m1 : (c1.toNat : Int) ≤ 122 := by omega
  have eu : IntKind.u8.wrap ((c1.toNat : Int) - 97) = (c1.toNat : Int) - 97 := by rw [IntKind.wrap_u8]; omega
  have ei : IntKind.i64.wrap ((c1.toNat : Int) - 97) = (c1.toNat : Int) - 97 := by rw [IntKind.wrap_i64]; omega
  go_enter Tryz.func60, Tryz.ntmps60
  go_upto_region 1 with fail
  rw [← hW]
  clear hW
  obtain ⟨W1, hW1⟩ : ∃ W1, W1 = W.alloc (Obj.cells #[.int .u8 59, .int .u8 125] 5) := ⟨_, rfl⟩
  have hbw1 : Below W.heap.size W W1 := by rw [hW1]; exact (Below.refl _ _).alloc (Nat.le_refl _) _
  have hr1 : Row W1 W.heap.size 5 #[.int .u8 59, .int .u8 125] := by rw [hW1]; exact Row.fresh _ _ _
  have hly : LiesY W1 0 W1.heap.size (some ⟨W.heap.size, 0, none⟩) (([59, 125] : List UInt8).map UInt8.toNat) := by
    have hsz : W.heap.size < W1.heap.size := hr1.size
    intro j x hj
    match j, hj with
    | 0, hj => cases hj; exact ⟨W.heap.size, 0, rfl, Nat.zero_le _, hsz, by decide, by simpa using hr1.cell (i := 0) (v := .int .u8 59) rfl⟩
    | 1, hj => cases hj; exact ⟨W.heap.size, 0, rfl, Nat.zero_le _, hsz, by decide, by simpa using hr1.cell (i := 1) (v := .int .u8 125) rfl⟩
    | _ + 2, hj => simp at hj
  have HC := Lib.hid (show Calls Tryz.prog 77 #[.string ⟨s.toArray⟩, .int .i64 ((i : Int) + 3), .slice (some ⟨W.heap.size, 0, none⟩) 2 2, .int .i64 (d : Int)] W1 _ from l1Parts_any s hs d ih [59, 125] (by decide) (some ⟨W.heap.size, 0, none⟩) 2 (i + 3) (by omega) W1 hly)
  have HB1 := Lib.hid (HB.out.trans (hbw1.mono HB.out.size))
  have HR1 := Lib.hid (HR.out.below hbw1 HR.out.size)
  have HZ1 := Lib.hid (show w.heap.size + 1 ≤ W1.heap.size from Nat.le_trans HZ.out hbw1.size)
  clear hbw1 hr1 hly
  go_wp2_with fail
  refine (l1At_lit s ((i : Int) + 2) 61 61 rfl W).mono ?_
  rintro e w9 ⟨rfl, rfl⟩
  rw [show atB s ((i : Int) + 2) 61 = true by rw [show (i : Int) + 2 = ((i + 2 : Nat) : Int) by omega, atB_nat]; exact decide_eq_true hq]
  go_wp2_with fail
  rw [← hW1]
  clear hW1
  refine HC.out.mono ?_
  rintro e w2 ⟨f2_, A2, c2, b2, q2, rfl, ht2, hb2, hres2⟩
  have HR2 := Lib.hid (HR1.out.below hb2 HR1.out.size)
  have hres3 : Res r ⟨7, (c1.toNat : Int) - 97, f2_⟩ q2 := by
    rw [HX.out]
    cases hp : partsAt s (parseAt s d) [59, 125] (i + 3) with
    | none => rw [hp] at hres2; exact hres2
    | some x => obtain ⟨y', p⟩ := x; rw [hp] at hres2; obtain ⟨rfl, hq⟩ := hres2; exact ⟨rfl, hq⟩
  have HEND := Lib.hid (par_res (HB1.out.trans (hb2.mono HB1.out.size)) (Nat.le_refl w.heap.size) ⟨7, (c1.toNat : Int) - 97, f2_⟩ q2 ⟨by show I64 7; unfold I64; omega, by show I64 ((c1.toNat : Int) - 97); unfold I64; omega⟩ (ht2.lower (Nat.le_trans (Nat.le_succ _) HZ1.out)) (fun h => by have h1 := (ht2.lt _ h).1; have h2 := HZ1.out; omega) hres3)
  clear ht2 hb2 hres2 hres3 HC
  obtain ⟨t0, t1, t2⟩ := put3_cells HR2.out (7) ((c1.toNat : Int) - 97) (.slice A2 f2_.len c2)
  have f0 := HR2.out.free 0
  have f1 := HR2.out.free 1
  have f2 := HR2.out.free 2
  have d0 := HR2.out.cell (i := 0) rfl
  have d1 := HR2.out.cell (i := 1) rfl
  have d2 := HR2.out.cell (i := 2) rfl
  unfold put3 at t0 t1 t2
  go_wp2_with fail
  refine bodyPost_ret (v := .tuple #[.agg #[.int .i64 (7), .int .i64 ((c1.toNat : Int) - 97), .slice A2 f2_.len c2], .int .i64 (q2)]) ?_ rfl (HEND.out)
  simp [results, Tryz.f60, go_sem, t0, t1, t2]

set_option maxHeartbeats 1000000 in
theorem parse_end (s : List UInt8) (_hs : s.length ≤ 1000000000000) (d : Nat) (i : Nat) (hi : i ≤ s.length + 3) (hd9 : d ≤ 14) (hd : d = 0 ∨ s[i]? = none) (w : World) :
    Calls Tryz.prog 60 #[.string ⟨s.toArray⟩, .int .i64 (i : Int), .int .i64 (d : Int)] w (ParPost none w) := by
  obtain ⟨W, hW⟩ : ∃ W, W = w.alloc (Obj.cells #[.int .i64 0, .int .i64 0, .slice none 0 0] 36) := ⟨_, rfl⟩
  have HB := Lib.hid (show Below w.heap.size w W by rw [hW]; exact (Below.refl _ _).alloc (Nat.le_refl _) _)
  have HR := Lib.hid (show Row W w.heap.size 36 #[.int .i64 0, .int .i64 0, .slice none 0 0] by rw [hW]; exact Row.fresh _ _ _)
  have HF := Lib.hid (show ParPost none w (.returned (.tuple #[.agg #[.int .i64 0, .int .i64 0, .slice none 0 0], .int .i64 (-1)])) (put3 W w.heap.size 0 0 (.slice none 0 0)) from par_none HB.out (Nat.le_refl w.heap.size) zeroNd zero_i64 (Tree.none W w.heap.size) (by simp))
  obtain ⟨t0, t1, t2⟩ := put3_cells HR.out 0 0 (.slice none 0 0)
  have f0 := HR.out.free 0
  have f1 := HR.out.free 1
  have f2 := HR.out.free 2
  have d0 := HR.out.cell (i := 0) rfl
  have d1 := HR.out.cell (i := 1) rfl
  have d2 := HR.out.cell (i := 2) rfl
  unfold put3 at t0 t1 t2
  go_enter Tryz.func60, Tryz.ntmps60
  go_upto_region 1 with fail
  rw [← hW]
  clear hW
  by_cases h0 : d = 0
  · subst h0
    go_wp2_with fail
    refine bodyPost_ret (v := .tuple #[.agg #[.int .i64 0, .int .i64 0, .slice none 0 0], .int .i64 (-1)]) ?_ rfl HF.out
    simp [results, Tryz.f60, go_sem, t0, t1, t2]
  · have hge : s.length ≤ i := by
      rcases hd with h | h
      · exact absurd h h0
      · exact List.getElem?_eq_none_iff.1 h
    have hge2 : (s.length : Int) ≤ (i : Int) := by omega
    have hd1 : ¬ (d : Int) < 1 := by omega
    have hi0 : ¬ (i : Int) < 0 := by omega
    clear hd
    go_wp2_with fail
    refine bodyPost_ret (v := .tuple #[.agg #[.int .i64 0, .int .i64 0, .slice none 0 0], .int .i64 (-1)]) ?_ rfl HF.out
    simp [results, Tryz.f60, go_sem, t0, t1, t2]

theorem l1Parse_any (s : List UInt8) (hs : s.length ≤ 1000000000000) : ∀ d, d ≤ 14 → ParC s d
  | 0, _ => fun i w hi => parse_end s hs 0 i hi (by omega) (.inl rfl) w
  | d + 1, hd => by
    intro i w hi
    have ih := l1Parse_any s hs d (by omega)
    have hd' : d < 14 := by omega
    rw [show ((d + 1 : Nat) : Int) = (d : Int) + 1 by omega]
    cases hc : s[i]? with
    | none =>
      rw [show parseAt s (d + 1) i = none by simp only [parseAt, hc]]
      exact parse_end s hs (d + 1) i hi hd (.inr hc) w
    | some ch =>
      by_cases h1 : 48 ≤ ch.toNat ∧ ch.toNat ≤ 57
      · rw [show parseAt s (d + 1) i = some (⟨1, (numAt s 3 i 0).1, .nil⟩, (numAt s 3 i 0).2) by simp only [parseAt, hc]; rw [if_pos h1]]
        exact parse_num s hs d hd' i ch hc h1 w
      by_cases h2 : 97 ≤ ch.toNat ∧ ch.toNat ≤ 122
      · rw [show parseAt s (d + 1) i = some (⟨2, (ch.toNat : Int) - 97, .nil⟩, i + 1) by simp only [parseAt, hc]; rw [if_neg h1, if_pos h2]]
        exact parse_var s hs d hd' i ch hc h2 w
      by_cases h3 : 65 ≤ ch.toNat ∧ ch.toNat ≤ 90
      · rw [show parseAt s (d + 1) i = callAt s (parseAt s d) ch i by simp only [parseAt, hc]; rw [if_neg h1, if_neg h2, if_pos h3]]
        exact parse_call s hs d hd' i ih ch hc h3 w
      by_cases h4 : ch.toNat = 33
      · rw [show parseAt s (d + 1) i = (match parseAt s d (i + 1) with
          | none => none
          | some (e, q) => some (⟨9, 0, .cons e.op e.n e.k .nil⟩, q)) by simp only [parseAt, hc]; rw [if_neg h1, if_neg h2, if_neg h3, if_pos h4]; rfl]
        exact parse_out s hs d hd' i ih ch hc h4 w
      by_cases h5 : ch.toNat = 40
      · rw [show parseAt s (d + 1) i = binAt s (parseAt s d) (i + 1) by simp only [parseAt, hc]; rw [if_neg h1, if_neg h2, if_neg h3, if_neg h4, if_pos h5]]
        exact parse_bin s hs d hd' i ih ch hc h5 w
      by_cases h6 : ch.toNat = 91
      · rw [show parseAt s (d + 1) i = node 6 0 (partsAt s (parseAt s d) [63, 58, 93] (i + 1)) by simp only [parseAt, hc]; rw [if_neg h1, if_neg h2, if_neg h3, if_neg h4, if_neg h5, if_pos h6]]
        exact parse_if s hs d hd' i ih ch hc h6 w
      by_cases h7 : ch.toNat = 123
      · have e7 : parseAt s (d + 1) i = (match letAt s i with
          | some v => node 7 ((v : Int) - 97) (partsAt s (parseAt s d) [59, 125] (i + 3))
          | none => node 8 0 (partsAt s (parseAt s d) [59, 125] (i + 1))) := by
          simp only [parseAt, hc]; rw [if_neg h1, if_neg h2, if_neg h3, if_neg h4, if_neg h5, if_neg h6, if_pos h7]
          rfl
        by_cases hq : s[i + 2]? = some 61
        · have hl2 := (List.getElem?_eq_some_iff.1 hq).1
          have hc1 := List.getElem?_eq_getElem (show i + 1 < s.length by omega)
          generalize s[i + 1] = c1 at hc1
          by_cases hv : 97 ≤ c1.toNat ∧ c1.toNat ≤ 122
          · rw [e7, show letAt s i = some c1.toNat by unfold letAt; rw [if_pos hq, hc1]; simp only []; rw [if_pos hv]]
            exact parse_let s hs d hd' i ih hq c1 hc1 hv ch hc h7 w
          · rw [e7, show letAt s i = none by unfold letAt; rw [if_pos hq, hc1]; simp only []; rw [if_neg hv]]
            by_cases hlo : c1.toNat < 97
            · exact parse_seq_lo s hs d hd' i ih hq c1 hc1 hlo ch hc h7 w
            · exact parse_seq_hi s hs d hd' i ih hq c1 hc1 (by omega) ch hc h7 w
        · rw [e7, show letAt s i = none by unfold letAt; rw [if_neg hq]]
          exact parse_seq s hs d hd' i ih hq ch hc h7 w
      · rw [show parseAt s (d + 1) i = none by simp only [parseAt, hc]; rw [if_neg h1, if_neg h2, if_neg h3, if_neg h4, if_neg h5, if_neg h6, if_neg h7]]
        exact parse_no s hs d hd' i ch hc ⟨h1, h2, h3, h4, h5, h6, h7⟩ w
end Go.Proofs.YtpknegneogdmfaaGreat
