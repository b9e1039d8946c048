/-
  The walk of the law FnFirstFree: true at every input (made by gen_nfir.py). A variable that comes first is free.
-/
import Derived.Test.YtknimjfmmnnelaaDrawFV
import Derived.Test.YtknimjfmmnnelaaFirstIV
import Derived.Test.YtknimjfmmnnelaaFirstT
import Derived.Test.YtknimjfmmnnelaaCntVar
namespace Go.Proofs.Ytknimjfmmnnelaa
open Go.RowKit Go.Shelf
set_option maxRecDepth 100000

theorem firstNZ_one : ∀ zs : List Nat, firstNZ zs = 1 → ∃ i, zs.getD i 0 = 1
  | [], h => by cases h
  | a :: r, h => by
    unfold firstNZ at h
    split at h
    · obtain ⟨i, hi⟩ := firstNZ_one r h
      exact ⟨i + 1, by simpa using hi⟩
    · exact ⟨0, by simpa using h⟩
theorem ansL_free (pq : Int → Bool) (pp : Int → Int → Fo → Bool) (v : Int) : ∀ (k : Fo) (i : Nat), (ansL pq pp v k).getD i 0 = 1 → ∀ (s : Bool) (j : Nat), ¬ (s = true ∧ j + i = 1) → cntL v s j k ≠ 0
  | .nil, i, h, _, _, _ => by simp [ansL] at h
  | .cons o m k' r, 0, h, s, j, hs => by
    have h1 : ansN pq pp v o m k' (ansL pq pp v k') = 1 := by simpa [ansL] using h
    have hk := ansL_free pq pp v k'
    have hn : cntN v o m k' ≠ 0 := by
      have e : ∀ i, (ansL pq pp v k').getD i 0 = 1 → ¬ ((o = 7 ∧ m = v) ∧ i = 1) → cntN v o m k' ≠ 0 := fun i hi hne => by
        have := hk i hi (decide (o = 7 ∧ m = v)) 0 (by simp only [decide_eq_true_iff]; omega)
        unfold cntN
        omega
      unfold ansN at h1
      split at h1
      · rename_i h6
        split at h1
        · split at h1
          · exact e 1 h1 (by omega)
          · cases h1
        · exact e 0 h1 (by omega)
      · split at h1
        · split at h1
          · split at h1 <;> cases h1
          · exact e 0 h1 (by omega)
        · rename_i h6 h7
          split at h1
          · unfold behindN at h1
            split at h1
            · rename_i h2
              unfold cntN ownVar
              rw [if_pos h2]
              omega
            · split at h1 <;> cases h1
          · obtain ⟨i, hi⟩ := firstNZ_one _ h1
            exact e i hi (fun g => h7 g.1)
    rw [cntL_cons rfl, if_neg (by simpa using hs)]
    omega
  | .cons o m k' r, i + 1, h, s, j, hs => by
    have h1 : (ansL pq pp v r).getD i 0 = 1 := by simpa [ansL] using h
    have := ansL_free pq pp v r i h1 s (j + 1) (by rw [show j + 1 + i = j + (i + 1) by omega]; exact hs)
    rw [cntL_cons rfl]
    omega
theorem first_free {ds : List De} {op n v : Int} {k : Fo} (h : firstB ds op n k v = true) : 0 < cntN v op n k := by
  unfold firstB at h
  rw [Bool.and_eq_true, decide_eq_true_iff] at h
  have h1 := h.2
  unfold ansS ans at h1
  have := ansL_free (fun n => quietS ds n && endingS ds n) (pureS ds) v (.cons op n k .nil) 0 (by simpa [ansL] using h1) false 0 (by simp)
  rw [cntL_cons rfl] at this
  simp [cntL] at this
  omega

theorem first_small {ds : List De} {op n v : Int} {k : Fo} (h : firstB ds op n k v = true) : smallOk k 14 80 = true := by
  unfold firstB at h
  simp only [Bool.and_eq_true] at h
  exact callsFit_small h.1.1.2

set_option maxHeartbeats 4000000 in
theorem law_NFirstFree (bs : List Nat) (A : Option Addr) (c : Nat) (w : World) (hl : LiesY w 0 w.heap.size A bs) (hlc : bs.length ≤ c) (hc : c ≤ maxLen) :
    Calls Try.prog 3 #[.slice A bs.length c] w (Gives (.bool true) w) := by
  have HC := Lib.hid (drawFV_any A c bs w hl hlc hc)
  unfold maxLen at hc
  by_cases hsz : bs.length ≤ 1048576
  rotate_left
  · have hgt : 1048576 < bs.length := by omega
    clear hl
    go_enter Try.func3, Try.ntmps3
    go_wp2_with fail
    go_ret
    exact ⟨rfl, Below.refl _ _⟩
  clear hl
  go_enter Try.func3, Try.ntmps3
  go_wp2_with fail
  refine HC.out.mono ?_
  rintro e w1 ⟨ds, X, cx, op, n, k, Y, cy, bl, v, rfl, ⟨hd, h1, h2, h3, h4⟩, hi, ht, hks, hvi, hb⟩
  obtain ⟨_, _, hX, hk1, hk2⟩ := ht.slice
  injection hX with hX1 hX2 hX3
  subst hX3
  obtain ⟨W, hW⟩ : ∃ W, W = w1.alloc (Obj.cells #[.int .i64 op, .int .i64 n, .slice Y k.len cy] 26) := ⟨_, rfl⟩
  have hbW : Below w1.heap.size w1 W := by rw [hW]; exact (Below.refl _ _).alloc (Nat.le_refl _) _
  have hlk : Lies w1 0 w1.heap.size Y 0 k := (ht.lies fun z hz => (ht.lt z hz).2).mono_ (Nat.zero_le _) (Nat.le_refl _)
  have hx : Row W w1.heap.size 26 #[.int .i64 op, .int .i64 n, .slice Y k.len cy] := by rw [hW]; exact Row.fresh _ _ _
  have FE := Lib.hid (show ∀ U, Below W.heap.size W U → (U.cell? ⟨w1.heap.size, 0, none⟩ = some (.int .i64 op) ∧ U.cell? ⟨w1.heap.size, 1, none⟩ = some (.int .i64 n) ∧ U.cell? ⟨w1.heap.size, 2, none⟩ = some (.slice Y k.len cy)) ∧ LiesD U 0 U.heap.size X ds ∧ Lies U 0 U.heap.size Y 0 k ∧ Below w.heap.size w U from fun U hU => by
    have h1 := hx.below hU hx.size
    exact ⟨⟨h1.cell rfl, h1.cell rfl, h1.cell rfl⟩, (hd.up hbW).up hU, (hlk.up hbW).up hU, (hb.trans (hbW.mono hb.size)).trans (hU.mono (hb.trans (hbW.mono hb.size)).size)⟩)
  have HIM := Lib.hid (show ∀ U, Below W.heap.size W U → Calls Try.prog 5 #[.slice X ds.length cx, .agg #[.int .i64 op, .int .i64 n, .slice Y k.len cy], .int .i64 v] U (Gives (.bool (firstB ds op n k v)) U) from fun U hU => by
    obtain ⟨-, g1, g2, -⟩ := FE.out U hU
    exact implFirst_r ds X cx op n k Y cy v 0 U.heap.size 0 U.heap.size U g1 (Nat.le_refl _) g2 (Nat.le_refl _) h4 hk1 hk2 (by omega))
  have HSP := Lib.hid (show ∀ U, Below W.heap.size W U → Calls Try.prog 6 #[.slice X ds.length cx, .agg #[.int .i64 op, .int .i64 n, .slice Y k.len cy], .int .i64 v] U (Gives (.bool (firstB ds op n k v)) U) from fun U hU => by
    obtain ⟨-, g1, g2, -⟩ := FE.out U hU
    exact specFirst_any ds X cx op n k Y cy v U g1 g2 h4 (Nat.le_trans hk1 hk2) (by omega))
  have HFF := Lib.hid (fun h : firstB ds op n k v = true => (⟨first_free h, first_small h⟩ : 0 < cntN v op n k ∧ smallOk k 14 80 = true))
  generalize firstB ds op n k v = first at HIM HSP HFF
  clear hb hbW ht hlk hd hX1 hX2 HC hi hvi hx
  go_upto_region 4 with fail
  rw [← hW]
  clear hW
  obtain ⟨⟨q0, q1, q2⟩, -⟩ := FE.out W (Below.refl _ _)
  go_wp2_with fail
  refine (HIM.out W (Below.refl _ _)).mono ?_
  rintro e w2 ⟨rfl, hb2⟩
  have HB2 := Lib.hid hb2
  clear hb2 q0 q1 q2
  obtain ⟨⟨q0, q1, q2⟩, -⟩ := FE.out w2 HB2.out
  go_wp2_with fail
  refine (HSP.out w2 HB2.out).mono ?_
  rintro e w3 ⟨rfl, hb3⟩
  have HB3 := Lib.hid (HB2.out.trans (hb3.mono HB2.out.size))
  clear hb3 q0 q1 q2
  obtain ⟨⟨q0, q1, q2⟩, -, hh, hbw⟩ := FE.out w3 HB3.out
  have HH := Lib.hid hh
  have HBW := Lib.hid hbw
  clear hh hbw HIM HSP
  cases first with
  | false =>
    go_wp2_with fail
    go_ret
    exact ⟨rfl, HBW.out⟩
  | true =>
    obtain ⟨m, hm⟩ : ∃ m, m = cntN v op n k := ⟨_, rfl⟩
    have hm0 : 0 < m := by rw [hm]; exact (HFF.out rfl).1
    have hm1 : decide ((0 : Int) < (m : Int)) = true := decide_eq_true (by omega)
    have hm2 : (0 : Int) < (m : Int) := by omega
    have HCT := Lib.hid (implCount_r op n v k Y cy 0 w3.heap.size w3 HH.out (Nat.le_refl _) (RowsIf.small (HFF.out rfl).2) hk1 hk2 (by omega))
    rw [← hm] at HCT
    clear hm HFF
    go_wp2_with fail
    refine HCT.out.mono ?_
    rintro e w4 ⟨rfl, hb4⟩
    have HB4 := Lib.hid (HBW.out.trans (hb4.mono HBW.out.size))
    clear hb4 HCT
    go_wp2_with fail
    go_ret
    exact ⟨by simp, HB4.out⟩
end Go.Proofs.Ytknimjfmmnnelaa
