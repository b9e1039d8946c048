/-
  Reading where nothing begins: spec.l1Parse.
-/
import Derived.Test.YtpknegneogdmfaaGreatParBPK
namespace Go.Proofs.YtpknegneogdmfaaGreat
open Go.RowKit
set_option maxRecDepth 100000

theorem par_res {w V : World} {g : Nat} (hb : Below w.heap.size w V) (hg : w.heap.size ≤ g) (y : Nd) (q : Int) {r : Option (Nd × Nat)} {A : Option Addr} {c : Nat} {bs : List Nat} (hi : I64 y.op ∧ I64 y.n) (ht : Tree V w.heap.size (.slice A y.k.len c) y.k bs) (hap : g ∉ bs) (hr : Res r y q) :
    ParPost r w (.returned (.tuple #[.agg #[.int .i64 y.op, .int .i64 y.n, .slice A y.k.len c], .int .i64 q])) (put3 V g y.op y.n (.slice A y.k.len c)) := by
  cases r with
  | none => have : q = -1 := hr; subst this; exact par_none hb hg y hi ht hap
  | some x =>
    obtain ⟨y', p⟩ := x
    obtain ⟨rfl, hq⟩ : y = y' ∧ q = (p : Int) := hr
    subst hq
    exact par_some hb hg y p hi ht hap

set_option maxHeartbeats 20000000 in
theorem parse_no (s : List UInt8) (_hs : s.length ≤ 1000000000000) (d : Nat) (hd : d < 14) (i : Nat) (ch : UInt8) (hch : s[i]? = some ch) (hx : ¬ (48 ≤ ch.toNat ∧ ch.toNat ≤ 57) ∧ ¬ (97 ≤ ch.toNat ∧ ch.toNat ≤ 122) ∧ ¬ (65 ≤ ch.toNat ∧ ch.toNat ≤ 90) ∧ ch.toNat ≠ 33 ∧ ch.toNat ≠ 40 ∧ ch.toNat ≠ 91 ∧ ch.toNat ≠ 123) (w : World) :
    Calls Tryz.prog 60 #[.string ⟨s.toArray⟩, .int .i64 (i : Int), .int .i64 ((d : Int) + 1)] w (ParPost (none) w) := by
  have hlt := (List.getElem?_eq_some_iff.1 hch).1
  have hix := idx_of hch
  have h256 : ch.toNat < 256 := ch.toNat_lt
  obtain ⟨W, hW⟩ : ∃ W, W = w.alloc (Obj.cells #[.int .i64 0, .int .i64 0, .slice none 0 0] 36) := ⟨_, rfl⟩
  have HB := Lib.hid (show Below w.heap.size w W by rw [hW]; exact (Below.refl _ _).alloc (Nat.le_refl _) _)
  have HR := Lib.hid (show Row W w.heap.size 36 #[.int .i64 0, .int .i64 0, .slice none 0 0] by rw [hW]; exact Row.fresh _ _ _)
  have HZ := Lib.hid (show w.heap.size + 1 ≤ W.heap.size by rw [hW]; simp)
  obtain ⟨r, hr⟩ : ∃ r : Option (Nd × Nat), r = (none) := ⟨_, rfl⟩
  rw [← hr]
  have HX := Lib.hid hr
  clear hr
  have g0 : ¬ (ch.toNat : Int) = 33 := by omega
  have g1 : ¬ (ch.toNat : Int) = 40 := by omega
  have g2 : ¬ (ch.toNat : Int) = 91 := by omega
  have g3 : ¬ (ch.toNat : Int) = 123 := by omega
  obtain ⟨x1, x2, x3, x4⟩ := hx
  have HF := Lib.hid (show ParPost r w (.returned (.tuple #[.agg #[.int .i64 0, .int .i64 0, .slice none 0 0], .int .i64 (-1)])) (put3 W w.heap.size 0 0 (.slice none 0 0)) by rw [HX.out]; exact par_none HB.out (Nat.le_refl w.heap.size) zeroNd zero_i64 (Tree.none W w.heap.size) (by simp))
  have side : (¬ (48 : Int) ≤ (ch.toNat : Int)) ∨ ((48 : Int) ≤ (ch.toNat : Int) ∧ ¬ (ch.toNat : Int) ≤ 57 ∧ ¬ (65 : Int) ≤ (ch.toNat : Int)) ∨ ((48 : Int) ≤ (ch.toNat : Int) ∧ ¬ (ch.toNat : Int) ≤ 57 ∧ (65 : Int) ≤ (ch.toNat : Int) ∧ ¬ (ch.toNat : Int) ≤ 90 ∧ ¬ (97 : Int) ≤ (ch.toNat : Int)) ∨ ((48 : Int) ≤ (ch.toNat : Int) ∧ ¬ (ch.toNat : Int) ≤ 57 ∧ (65 : Int) ≤ (ch.toNat : Int) ∧ ¬ (ch.toNat : Int) ≤ 90 ∧ (97 : Int) ≤ (ch.toNat : Int) ∧ ¬ (ch.toNat : Int) ≤ 122) := by omega
  clear x1 x2 x3 x4
  go_enter Tryz.func60, Tryz.ntmps60
  go_upto_region 1 with fail
  rw [← hW]
  clear hW
  rcases side with h1 | ⟨h1, h2, h3⟩ | ⟨h1, h2, h3, h4, h5⟩ | ⟨h1, h2, h3, h4, h5, h6⟩
  · have y0 : ¬ (97 : Int) ≤ (ch.toNat : Int) := by omega
    have y1 : ¬ (65 : Int) ≤ (ch.toNat : Int) := by omega
    obtain ⟨t0, t1, t2⟩ := put3_cells HR.out (0) (0) (.slice none 0 0)
    have f0 := HR.out.free 0
    have f1 := HR.out.free 1
    have f2 := HR.out.free 2
    have d0 := HR.out.cell (i := 0) rfl
    have d1 := HR.out.cell (i := 1) rfl
    have d2 := HR.out.cell (i := 2) rfl
    unfold put3 at t0 t1 t2
    go_wp2_with fail
    refine bodyPost_ret (v := .tuple #[.agg #[.int .i64 (0), .int .i64 (0), .slice none 0 0], .int .i64 (-1)]) ?_ rfl (HF.out)
    simp [results, Tryz.f60, go_sem, t0, t1, t2]
  · have y0 : ¬ (97 : Int) ≤ (ch.toNat : Int) := by omega
    obtain ⟨t0, t1, t2⟩ := put3_cells HR.out (0) (0) (.slice none 0 0)
    have f0 := HR.out.free 0
    have f1 := HR.out.free 1
    have f2 := HR.out.free 2
    have d0 := HR.out.cell (i := 0) rfl
    have d1 := HR.out.cell (i := 1) rfl
    have d2 := HR.out.cell (i := 2) rfl
    unfold put3 at t0 t1 t2
    go_wp2_with fail
    refine bodyPost_ret (v := .tuple #[.agg #[.int .i64 (0), .int .i64 (0), .slice none 0 0], .int .i64 (-1)]) ?_ rfl (HF.out)
    simp [results, Tryz.f60, go_sem, t0, t1, t2]
  · obtain ⟨t0, t1, t2⟩ := put3_cells HR.out (0) (0) (.slice none 0 0)
    have f0 := HR.out.free 0
    have f1 := HR.out.free 1
    have f2 := HR.out.free 2
    have d0 := HR.out.cell (i := 0) rfl
    have d1 := HR.out.cell (i := 1) rfl
    have d2 := HR.out.cell (i := 2) rfl
    unfold put3 at t0 t1 t2
    go_wp2_with fail
    refine bodyPost_ret (v := .tuple #[.agg #[.int .i64 (0), .int .i64 (0), .slice none 0 0], .int .i64 (-1)]) ?_ rfl (HF.out)
    simp [results, Tryz.f60, go_sem, t0, t1, t2]
  · obtain ⟨t0, t1, t2⟩ := put3_cells HR.out (0) (0) (.slice none 0 0)
    have f0 := HR.out.free 0
    have f1 := HR.out.free 1
    have f2 := HR.out.free 2
    have d0 := HR.out.cell (i := 0) rfl
    have d1 := HR.out.cell (i := 1) rfl
    have d2 := HR.out.cell (i := 2) rfl
    unfold put3 at t0 t1 t2
    go_wp2_with fail
    refine bodyPost_ret (v := .tuple #[.agg #[.int .i64 (0), .int .i64 (0), .slice none 0 0], .int .i64 (-1)]) ?_ rfl (HF.out)
    simp [results, Tryz.f60, go_sem, t0, t1, t2]
end Go.Proofs.YtpknegneogdmfaaGreat
