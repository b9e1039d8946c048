/-
  GoneCalls: the program.
-/
import Derived.Test.YtgmhpfdhkcgbfaaGreatGone
import Derived.Test.YtgmhpfdhkcgbfaaGreatDelF
namespace Go.Proofs.YtgmhpfdhkcgbfaaGreat
open Go.RowKit Go.Shelf
set_option maxRecDepth 100000

set_option maxHeartbeats 2000000 in
theorem isFrom_any (ds1 : List De) (A1 : Option Addr) (c1 : Nat) (ds2 : List De) (A2 : Option Addr) (c2 : Nat) (op n : Int) (k : Fo) (A : Option Addr) (c : Nat) (L1 B1 L2 B2 L B : Nat) (w : World) (hd1 : LiesD w L1 B1 A1 ds1) (hB1 : B1 ≤ w.heap.size) (hd2 : LiesD w L2 B2 A2 ds2) (hB2 : B2 ≤ w.heap.size) (hl : Lies w L B A 0 k) (hB : B ≤ w.heap.size) (hz1 : sizeD ds1 ≤ 1048576) (hz2 : sizeD ds2 ≤ 1048576) (hk1 : k.len ≤ c) (hk2 : c ≤ maxLen) (hsz : k.size ≤ 1048576) :
    Calls Tryz.prog 23 #[.slice A1 ds1.length c1, .slice A2 ds2.length c2, .agg #[.int .i64 op, .int .i64 n, .slice A k.len c]] w (Gives (.bool (goneOk ds1 ds2 op n k)) w) := by
  obtain ⟨hb0, hr0⟩ := one_box w 34 #[Value.int IntKind.i64 op, Value.int IntKind.i64 n, Value.slice A k.len c]
  have HB := Lib.hid hb0
  have HR := Lib.hid hr0
  have HD1 := Lib.hid hd1
  have HD2 := Lib.hid hd2
  have HL := Lib.hid hl
  obtain ⟨v2, hv2⟩ : ∃ v, v = libOk ds2 := ⟨_, rfl⟩
  obtain ⟨v3, hv3⟩ : ∃ v, v = clientB ds1 op n k := ⟨_, rfl⟩
  rw [show goneOk ds1 ds2 op n k = (v2 && v3) by rw [hv2, hv3]; rfl]
  have H2 := Lib.hid hv2
  have H3 := Lib.hid hv3
  clear hb0 hr0 hd1 hd2 hl hv2 hv3
  go_enter Tryz.func23, Tryz.ntmps23
  go_wp2_with fail
  refine (implLibValid_r ds2 A2 c2 L2 B2 _ (HD2.out.below (HB.out.mono hB2)) (Nat.le_trans hB2 HB.out.size) hz2).mono ?_
  rintro e w1 ⟨rfl, hb1⟩
  rw [← H2.out]
  have HB1 := Lib.hid (HB.out.trans (hb1.mono HB.out.size))
  have hr1 := HR.out.below hb1 HR.out.size
  have q0 := hr1.cell (i := 0) rfl
  have q1 := hr1.cell (i := 1) rfl
  have q2 := hr1.cell (i := 2) rfl
  clear hb1 HB HR hr1
  cases v2 with
  | false =>
    go_wp2_with fail
    go_ret
    exact ⟨rfl, HB1.out⟩
  | true =>
  go_wp2_with fail
  refine (implClient_r ds1 A1 c1 op n k A c L1 B1 L B w1 (HD1.out.below (HB1.out.mono hB1)) (Nat.le_trans hB1 HB1.out.size) (HL.out.below (HB1.out.mono hB)) (Nat.le_trans hB HB1.out.size) hz1 hk1 hk2 hsz).mono ?_
  rintro e w2 ⟨rfl, hb2⟩
  rw [← H3.out]
  have HB2 := Lib.hid (HB1.out.trans (hb2.mono HB1.out.size))
  clear hb2 HB1 q0 q1 q2
  go_wp2_with fail
  go_ret
  exact ⟨by simp, HB2.out⟩

/-- The functions of a list that another one does not have, as a set. -/
def goneT (ds2 : List De) (l : List De) (i : Nat) : Bool := l.any (fun d => decide (d.nm.toNat = i)) && goneP ds2 (i : Int)
theorem goneT_step {ds1 ds2 : List De} {j : Nat} {d : De} {v : Nat} (h : ds1[j]? = some d) (hv : v = d.nm.toNat) (h8 : v < 8) : (cells8 (goneT ds2 (ds1.take j))).setIfInBounds v (.bool (goneP ds2 (v : Int))) = cells8 (goneT ds2 (ds1.take (j + 1))) := by
  have e : ∀ i, goneT ds2 (ds1.take (j + 1)) i = if i = v then goneP ds2 (v : Int) else goneT ds2 (ds1.take j) i := fun i => by
    unfold goneT
    rw [List.take_add_one, h, List.any_append]
    by_cases hi : i = v
    · rw [if_pos hi, hi, hv]; simp
    · rw [if_neg hi]
      have : ¬ d.nm.toNat = i := fun h => hi (by rw [← h, hv])
      simp [this]
  unfold cells8
  have hc : v = 0 ∨ v = 1 ∨ v = 2 ∨ v = 3 ∨ v = 4 ∨ v = 5 ∨ v = 6 ∨ v = 7 := by omega
  rcases hc with h | h | h | h | h | h | h | h <;> subst h <;> simp [e]
theorem goneT_at {ds1 ds2 : List De} {x : Int} {d : De} (hx : inVar x = true) (h : fnd x ds1 = some d) : goneT ds2 ds1 x.toNat = goneP ds2 x := by
  obtain ⟨hm, hn⟩ := fnd_mem h
  unfold goneT
  rw [(inVar_nat hx).1, show ds1.any (fun d => decide (d.nm.toNat = x.toNat)) = true from List.any_eq_true.2 ⟨d, hm, by rw [hn]; simp⟩, Bool.true_and]


theorem put10 {w a : World} {g B : Nat} {t : TypeId} {u0 u1 u2 u3 u4 u5 u6 u7 u8 u9 : Value} (hr : Row w g t #[u0, u1, u2, u3, u4, u5, u6, u7, u8, u9]) (hb : Below B a w) (hg : B ≤ g) (v0 v1 v2 v3 v4 v5 v6 v7 v8 v9 : Value) :
    ((((((((((w.setCell ⟨g, 0, none⟩ v0).setCell ⟨g, 1, none⟩ v1).setCell ⟨g, 2, none⟩ v2).setCell ⟨g, 3, none⟩ v3).setCell ⟨g, 4, none⟩ v4).setCell ⟨g, 5, none⟩ v5).setCell ⟨g, 6, none⟩ v6).setCell ⟨g, 7, none⟩ v7).setCell ⟨g, 8, none⟩ v8).setCell ⟨g, 9, none⟩ v9).cell? ⟨g, 0, none⟩ = some v0 ∧ ((((((((((w.setCell ⟨g, 0, none⟩ v0).setCell ⟨g, 1, none⟩ v1).setCell ⟨g, 2, none⟩ v2).setCell ⟨g, 3, none⟩ v3).setCell ⟨g, 4, none⟩ v4).setCell ⟨g, 5, none⟩ v5).setCell ⟨g, 6, none⟩ v6).setCell ⟨g, 7, none⟩ v7).setCell ⟨g, 8, none⟩ v8).setCell ⟨g, 9, none⟩ v9).cell? ⟨g, 1, none⟩ = some v1 ∧ ((((((((((w.setCell ⟨g, 0, none⟩ v0).setCell ⟨g, 1, none⟩ v1).setCell ⟨g, 2, none⟩ v2).setCell ⟨g, 3, none⟩ v3).setCell ⟨g, 4, none⟩ v4).setCell ⟨g, 5, none⟩ v5).setCell ⟨g, 6, none⟩ v6).setCell ⟨g, 7, none⟩ v7).setCell ⟨g, 8, none⟩ v8).setCell ⟨g, 9, none⟩ v9).cell? ⟨g, 2, none⟩ = some v2 ∧ ((((((((((w.setCell ⟨g, 0, none⟩ v0).setCell ⟨g, 1, none⟩ v1).setCell ⟨g, 2, none⟩ v2).setCell ⟨g, 3, none⟩ v3).setCell ⟨g, 4, none⟩ v4).setCell ⟨g, 5, none⟩ v5).setCell ⟨g, 6, none⟩ v6).setCell ⟨g, 7, none⟩ v7).setCell ⟨g, 8, none⟩ v8).setCell ⟨g, 9, none⟩ v9).cell? ⟨g, 3, none⟩ = some v3 ∧ ((((((((((w.setCell ⟨g, 0, none⟩ v0).setCell ⟨g, 1, none⟩ v1).setCell ⟨g, 2, none⟩ v2).setCell ⟨g, 3, none⟩ v3).setCell ⟨g, 4, none⟩ v4).setCell ⟨g, 5, none⟩ v5).setCell ⟨g, 6, none⟩ v6).setCell ⟨g, 7, none⟩ v7).setCell ⟨g, 8, none⟩ v8).setCell ⟨g, 9, none⟩ v9).cell? ⟨g, 4, none⟩ = some v4 ∧ ((((((((((w.setCell ⟨g, 0, none⟩ v0).setCell ⟨g, 1, none⟩ v1).setCell ⟨g, 2, none⟩ v2).setCell ⟨g, 3, none⟩ v3).setCell ⟨g, 4, none⟩ v4).setCell ⟨g, 5, none⟩ v5).setCell ⟨g, 6, none⟩ v6).setCell ⟨g, 7, none⟩ v7).setCell ⟨g, 8, none⟩ v8).setCell ⟨g, 9, none⟩ v9).cell? ⟨g, 5, none⟩ = some v5 ∧ ((((((((((w.setCell ⟨g, 0, none⟩ v0).setCell ⟨g, 1, none⟩ v1).setCell ⟨g, 2, none⟩ v2).setCell ⟨g, 3, none⟩ v3).setCell ⟨g, 4, none⟩ v4).setCell ⟨g, 5, none⟩ v5).setCell ⟨g, 6, none⟩ v6).setCell ⟨g, 7, none⟩ v7).setCell ⟨g, 8, none⟩ v8).setCell ⟨g, 9, none⟩ v9).cell? ⟨g, 6, none⟩ = some v6 ∧ ((((((((((w.setCell ⟨g, 0, none⟩ v0).setCell ⟨g, 1, none⟩ v1).setCell ⟨g, 2, none⟩ v2).setCell ⟨g, 3, none⟩ v3).setCell ⟨g, 4, none⟩ v4).setCell ⟨g, 5, none⟩ v5).setCell ⟨g, 6, none⟩ v6).setCell ⟨g, 7, none⟩ v7).setCell ⟨g, 8, none⟩ v8).setCell ⟨g, 9, none⟩ v9).cell? ⟨g, 7, none⟩ = some v7 ∧ ((((((((((w.setCell ⟨g, 0, none⟩ v0).setCell ⟨g, 1, none⟩ v1).setCell ⟨g, 2, none⟩ v2).setCell ⟨g, 3, none⟩ v3).setCell ⟨g, 4, none⟩ v4).setCell ⟨g, 5, none⟩ v5).setCell ⟨g, 6, none⟩ v6).setCell ⟨g, 7, none⟩ v7).setCell ⟨g, 8, none⟩ v8).setCell ⟨g, 9, none⟩ v9).cell? ⟨g, 8, none⟩ = some v8 ∧ ((((((((((w.setCell ⟨g, 0, none⟩ v0).setCell ⟨g, 1, none⟩ v1).setCell ⟨g, 2, none⟩ v2).setCell ⟨g, 3, none⟩ v3).setCell ⟨g, 4, none⟩ v4).setCell ⟨g, 5, none⟩ v5).setCell ⟨g, 6, none⟩ v6).setCell ⟨g, 7, none⟩ v7).setCell ⟨g, 8, none⟩ v8).setCell ⟨g, 9, none⟩ v9).cell? ⟨g, 9, none⟩ = some v9 ∧ Below B a ((((((((((w.setCell ⟨g, 0, none⟩ v0).setCell ⟨g, 1, none⟩ v1).setCell ⟨g, 2, none⟩ v2).setCell ⟨g, 3, none⟩ v3).setCell ⟨g, 4, none⟩ v4).setCell ⟨g, 5, none⟩ v5).setCell ⟨g, 6, none⟩ v6).setCell ⟨g, 7, none⟩ v7).setCell ⟨g, 8, none⟩ v8).setCell ⟨g, 9, none⟩ v9) := by
  have h := (((((((((hr.put 0 v0).put 1 v1).put 2 v2).put 3 v3).put 4 v4).put 5 v5).put 6 v6).put 7 v7).put 8 v8).put 9 v9
  have h2 : Row ((((((((((w.setCell ⟨g, 0, none⟩ v0).setCell ⟨g, 1, none⟩ v1).setCell ⟨g, 2, none⟩ v2).setCell ⟨g, 3, none⟩ v3).setCell ⟨g, 4, none⟩ v4).setCell ⟨g, 5, none⟩ v5).setCell ⟨g, 6, none⟩ v6).setCell ⟨g, 7, none⟩ v7).setCell ⟨g, 8, none⟩ v8).setCell ⟨g, 9, none⟩ v9) g t #[v0, v1, v2, v3, v4, v5, v6, v7, v8, v9] := by
    simp only [List.setIfInBounds_toArray, List.set_cons_zero, List.set_cons_succ] at h
    exact h
  exact ⟨h2.cell (i := 0) rfl, h2.cell (i := 1) rfl, h2.cell (i := 2) rfl, h2.cell (i := 3) rfl, h2.cell (i := 4) rfl, h2.cell (i := 5) rfl, h2.cell (i := 6) rfl, h2.cell (i := 7) rfl, h2.cell (i := 8) rfl, h2.cell (i := 9) rfl, (((((((((hb.setCell (p := ⟨g, 0, none⟩) hg v0).setCell (p := ⟨g, 1, none⟩) hg v1).setCell (p := ⟨g, 2, none⟩) hg v2).setCell (p := ⟨g, 3, none⟩) hg v3).setCell (p := ⟨g, 4, none⟩) hg v4).setCell (p := ⟨g, 5, none⟩) hg v5).setCell (p := ⟨g, 6, none⟩) hg v6).setCell (p := ⟨g, 7, none⟩) hg v7).setCell (p := ⟨g, 8, none⟩) hg v8).setCell (p := ⟨g, 9, none⟩) hg v9⟩

theorem ent_look {w : World} {L B : Nat} {ds : List De} {es : IEnts} (h : EntOk w L B ds es) {x : Int} (hx : inVar x = true) : ∃ nm ar old op n l A c, (ilook es x).getD (.agg #[.int .i64 0, .int .i64 0, .bool false, .int .i64 0, .int .i64 0, .slice none 0 0]) = .agg #[.int .i64 nm, .int .i64 ar, .bool old, .int .i64 op, .int .i64 n, .slice A l c] ∧ (ilook es x).isSome = !goneP ds x := by
  unfold goneP
  cases hf : fnd x ds with
  | none => exact ⟨0, 0, false, 0, 0, 0, none, 0, by rw [h.2 x (.inr hf)]; rfl, by rw [h.2 x (.inr hf)]; rfl⟩
  | some d =>
    obtain ⟨A, c, h1, _⟩ := h.1 x d hx hf
    exact ⟨d.nm, d.ar, d.old, d.op, d.n, d.k.len, A, c, by rw [h1]; rfl, by rw [h1]; rfl⟩

set_option maxHeartbeats 2000000 in
theorem calledIn_any (T : Nat → Bool) (op n : Int) (k : Fo) (A : Option Addr) (c L B : Nat) (w : World) (hl : Lies w L B A 0 k) (hB : B ≤ w.heap.size) (hal : RowsIf w B A k) (hk1 : k.len ≤ c) (hk2 : c ≤ maxLen) (hsz : k.size ≤ 1048576) :
    Calls Tryz.prog 25 #[.agg (cells8 T), .agg #[.int .i64 op, .int .i64 n, .slice A k.len c]] w (ListPost ((numsUpto (callB ⟨op, n, k⟩) 8).filter fun x => T x.toNat) w) := by
  obtain ⟨hb0, hr1, hr2⟩ := two_boxes w 53 34 (cells8 T) #[Value.int IntKind.i64 op, Value.int IntKind.i64 n, Value.slice A k.len c]
  obtain ⟨W, hW⟩ : ∃ W, W = (w.alloc (Obj.cells (cells8 T) 53)).alloc (Obj.cells #[Value.int IntKind.i64 op, Value.int IntKind.i64 n, Value.slice A k.len c] 34) := ⟨_, rfl⟩
  rw [← hW] at hb0 hr1 hr2
  have HB := Lib.hid hb0
  have HR1 := Lib.hid hr1
  have HR2 := Lib.hid hr2
  have HC := Lib.hid (implCalls_r op n k A c L B W (hl.below (hb0.mono hB)) (Nat.le_trans hB hb0.size) (hal.below hb0 hB) hk1 hk2 hsz)
  unfold cells8 at hW ⊢
  clear hb0 hr1 hr2 hl hal
  go_enter Tryz.func25, Tryz.ntmps25
  go_upto_region 1 with fail
  rw [← hW]
  clear hW
  have q0 := HR2.out.cell (i := 0) rfl
  have q1 := HR2.out.cell (i := 1) rfl
  have q2 := HR2.out.cell (i := 2) rfl
  go_wp2_with fail
  refine HC.out.mono ?_
  rintro e w1 ⟨v1, rfl, ho1, hb1⟩
  obtain ⟨zs, hzs⟩ : ∃ zs, zs = numsUpto (callB ⟨op, n, k⟩) 8 := ⟨_, rfl⟩
  have hzi : ∀ x ∈ zs, I64 x := fun x hx => numsUpto_small _ 8 x (Nat.le_refl _) (hzs ▸ hx)
  have hzl : zs.length ≤ 8 := by rw [hzs]; exact numsUpto_len _ 8
  have hzv : ∀ x ∈ zs, inVar x = true := fun x hx => by
    obtain ⟨u, h8, rfl, _⟩ := numsUpto_mem 8 x (hzs ▸ hx)
    exact inVar_mk (by omega) (by omega)
  rw [← hzs] at ho1
  have HZS := Lib.hid hzs
  have HR3 := HR1.out.below hb1 HR1.out.size
  have HD := Lib.hid (deleteFunc_any (fun x => !T x.toNat) 39 #[.pointer (some ⟨w.heap.size, 0, none⟩)] zs v1 W.heap.size w1 ho1 hb1.size (by omega) hzi (enters_of Tryz.func39 (by kernel_rfl) rfl)
    (fun x hx V hV => by
      obtain ⟨e0, e8⟩ := inVar_nat (hzv x hx)
      have hr := HR3.below hV (Nat.lt_of_lt_of_le HR1.out.size (Nat.le_refl _))
      generalize x.toNat = v at e0 e8 ⊢
      subst e0
      have q0 := hr.cell (cells8_at T e8)
      go_enter Tryz.func39, Tryz.ntmps39
      go_wp2
      go_ret
      exact ⟨rfl, Below.refl _ _⟩))
  have HB1 := Lib.hid (HB.out.trans (hb1.mono HB.out.size))
  have HS := Lib.hid HB.out.size
  clear q0 q1 q2 hb1 ho1 hzs hzi hzv HR3 HR1 HR2 HC
  go_wp2_with fail
  refine HD.out.mono ?_
  rintro e w2 ⟨v2, rfl, ho2, hb2⟩
  have HB2 := Lib.hid (HB1.out.trans (hb2.mono HS.out))
  have HO2 := Lib.hid (own_less ho2 HS.out)
  clear hb2 ho2 HD
  go_wp2_with fail
  go_ret
  exact ⟨_, rfl, by rw [← HZS.out]; have h := HO2.out; simp only [Bool.not_not] at h; exact h, HB2.out⟩

theorem goneOk_fit {ds1 ds2 : List De} {op n : Int} {k : Fo} (h : goneOk ds1 ds2 op n k = true) : libOk ds1 = true ∧ callsFitB ds1 op n k = true := by
  unfold goneOk clientB at h
  rw [Bool.and_eq_true, Bool.and_eq_true, ← client_split, Bool.and_eq_true] at h
  exact ⟨h.2.1, h.2.2.2⟩
theorem goneL_is {ds1 ds2 : List De} {op n : Int} {k : Fo} (h : goneOk ds1 ds2 op n k = true) : goneL ds1 ds2 op n k = (numsUpto (callB ⟨op, n, k⟩) 8).filter fun x => goneT ds2 ds1 x.toNat := by
  unfold goneL
  rw [if_pos h]
  refine List.filter_congr fun x hx => ?_
  obtain ⟨hv, d, hd⟩ := called_there (goneOk_fit h).2 x hx
  exact (goneT_at hv hd).symm

end Go.Proofs.YtgmhpfdhkcgbfaaGreat
