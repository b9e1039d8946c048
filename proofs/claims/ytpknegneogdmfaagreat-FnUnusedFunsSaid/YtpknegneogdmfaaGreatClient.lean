/-
  ClientValid: the model and the program.
-/
import Derived.Test.YtpknegneogdmfaaGreatLibVD
import Derived.Test.YtpknegneogdmfaaGreatLibVS
import Derived.Test.YtpknegneogdmfaaGreatLibVI
import Derived.Deep.RegionWith
namespace Go.Proofs.YtpknegneogdmfaaGreat
open Go.RowKit
set_option maxRecDepth 100000

theorem inner_mono (op n : Int) (i : Nat) {S S' : Nat → Bool} (h : ∀ x, S x = true → S' x = true) : ∀ x, inner op n i S x = true → inner op n i S' x = true := by
  intro x
  unfold inner
  split
  · unfold setS
    split
    · exact fun _ => rfl
    · exact h x
  · exact h x
theorem ownOk_mono (op n : Int) {S S' : Nat → Bool} (h : ∀ x, S x = true → S' x = true) (ho : ownOk op n S = true) : ownOk op n S' = true := by
  unfold ownOk at ho ⊢
  split
  · rw [if_pos ‹_›] at ho; exact ho
  · rw [if_neg ‹_›] at ho
    split
    · rw [if_pos ‹_›, Bool.and_eq_true] at ho
      rw [Bool.and_eq_true]
      exact ⟨ho.1, h _ ho.2⟩
    · rw [if_neg ‹_›] at ho; exact ho
theorem shapeF_mono : ∀ (k : Fo) (op n : Int) (i : Nat) (S S' : Nat → Bool) (d : Nat), (∀ x, S x = true → S' x = true) → shapeF op n i S d k = true → shapeF op n i S' d k = true
  | .nil, _, _, _, _, _, _, _, _ => rfl
  | .cons o m k r, op, n, i, S, S', d, h, hs => by
    simp only [shapeF, Bool.and_eq_true] at hs ⊢
    obtain ⟨⟨⟨⟨a, b⟩, c⟩, e⟩, f⟩ := hs
    exact ⟨⟨⟨⟨a, b⟩, ownOk_mono o m (inner_mono op n i h) c⟩, shapeF_mono k o m 0 _ _ _ (inner_mono op n i h) e⟩, shapeF_mono r op n (i + 1) S S' d h f⟩
theorem nodeIs_mono {op n : Int} {k : Fo} {S S' : Nat → Bool} (h : ∀ x, S x = true → S' x = true) (hs : nodeIs op n k S = true) : nodeIs op n k S' = true := by
  unfold nodeIs nodeShape at hs ⊢
  simp only [Bool.and_eq_true] at hs ⊢
  obtain ⟨⟨⟨⟨a, b⟩, c⟩, e⟩, f⟩ := hs
  exact ⟨⟨⟨⟨a, b⟩, ownOk_mono op n h c⟩, shapeF_mono k op n 0 S S' _ h e⟩, f⟩

def clientB (ds : List De) (op n : Int) (k : Fo) : Bool := libOk ds && (nodeIs op n k (firstS 0) && fitN (ariS ds) op n k)
theorem client_split (ds : List De) (op n : Int) (k : Fo) : (nodeIs op n k (firstS 0) && callsFitB ds op n k) = (nodeIs op n k (firstS 0) && fitN (ariS ds) op n k) := by
  cases h : nodeIs op n k (firstS 0) with
  | false => rfl
  | true =>
    rw [Bool.true_and, Bool.true_and]
    unfold callsFitB
    rw [nodeIs_mono (S' := firstS 8) (fun x hx => by simp [firstS] at hx) h, Bool.true_and]

set_option maxHeartbeats 2000000 in
theorem l2Client_any (ds : List De) (DA : Option Addr) (DC : Nat) (op n : Int) (k : Fo) (A : Option Addr) (c : Nat) (w : World) (hd : LiesD w 0 w.heap.size DA ds) (hl : Lies w 0 w.heap.size A 0 k) (hds : ds.length ≤ 1048576) (hlen : k.len ≤ maxLen) (hsz : k.size ≤ 1048576) :
    Calls Tryz.prog 25 #[.slice DA ds.length DC, .agg #[.int .i64 op, .int .i64 n, .slice A k.len c]] w (Gives (.bool (nodeIs op n k (firstS 0) && fitN (ariS ds) op n k)) w) := by
  have hb0 : Below w.heap.size w (w.alloc (Obj.cells #[Value.int IntKind.i64 op, Value.int IntKind.i64 n, Value.slice A k.len c] 36)).drew := ((Below.refl _ _).alloc (Nat.le_refl _) _).drew
  have hr0 := (Row.fresh w 36 #[Value.int IntKind.i64 op, Value.int IntKind.i64 n, Value.slice A k.len c]).drew
  have q0 := hr0.cell (i := 0) rfl
  have q1 := hr0.cell (i := 1) rfl
  have q2 := hr0.cell (i := 2) rfl
  have HB0 := Lib.hid hb0
  have HZ0 := Lib.hid hr0.size
  have HL := Lib.hid (hl.up hb0)
  have HD := Lib.hid (hd.up hb0)
  have HF := Lib.hid (l1First_any 0 (by omega) (w.alloc (Obj.cells #[Value.int IntKind.i64 op, Value.int IntKind.i64 n, Value.slice A k.len c] 36)).drew)
  clear hb0 hr0 hl hd
  cases hv : nodeIs op n k (firstS 0) with
  | false =>
    have HV := Lib.hid hv
    rw [Bool.false_and]
    clear hv
    go_enter Tryz.func25, Tryz.ntmps25
    go_wp2_with fail
    first
      | (go_region_with (first
          | (go_at_call 42
             refine HF.out.mono ?_
             rintro e w3 ⟨A3, c3, rfl, hB3, hb3⟩
             have u0 := (hb3.cell (p := ⟨w.heap.size, 0, none⟩) HZ0.out).trans q0
             have u1 := (hb3.cell (p := ⟨w.heap.size, 1, none⟩) HZ0.out).trans q1
             have u2 := (hb3.cell (p := ⟨w.heap.size, 2, none⟩) HZ0.out).trans q2)
          | (go_at_call 41
             refine (l1Is_any op n k A c (firstS 0) A3 c3 w3 (HL.out.up hb3) hlen (hB3.mono_ (Nat.zero_le _) (Nat.le_refl _))).mono ?_
             rintro e w4 ⟨rfl, hb4⟩
             rw [HV.out])))
      | fail
    all_goals
      have hb6 := HB0.out.trans ((hb3.trans (hb4.mono hb3.size)).mono HB0.out.size)
      clear hb3 hb4 hB3 q0 q1 q2 u0 u1 u2 HB0 HF HL HD
      go_wp2
      go_ret
      exact ⟨rfl, hb6⟩
  | true =>
    have HV := Lib.hid hv
    rw [Bool.true_and]
    clear hv
    generalize hz : fitN (ariS ds) op n k = z
    have HZF := Lib.hid hz
    clear hz
    go_enter Tryz.func25, Tryz.ntmps25
    go_wp2_with fail
    first
      | (go_region_with (first
          | (go_at_call 42
             refine HF.out.mono ?_
             rintro e w3 ⟨A3, c3, rfl, hB3, hb3⟩
             have u0 := (hb3.cell (p := ⟨w.heap.size, 0, none⟩) HZ0.out).trans q0
             have u1 := (hb3.cell (p := ⟨w.heap.size, 1, none⟩) HZ0.out).trans q1
             have u2 := (hb3.cell (p := ⟨w.heap.size, 2, none⟩) HZ0.out).trans q2)
          | (go_at_call 41
             refine (l1Is_any op n k A c (firstS 0) A3 c3 w3 (HL.out.up hb3) hlen (hB3.mono_ (Nat.zero_le _) (Nat.le_refl _))).mono ?_
             rintro e w4 ⟨rfl, hb4⟩
             rw [HV.out]
             have v0 := (hb4.cell (p := ⟨w.heap.size, 0, none⟩) (Nat.lt_of_lt_of_le HZ0.out hb3.size)).trans u0
             have v1 := (hb4.cell (p := ⟨w.heap.size, 1, none⟩) (Nat.lt_of_lt_of_le HZ0.out hb3.size)).trans u1
             have v2 := (hb4.cell (p := ⟨w.heap.size, 2, none⟩) (Nat.lt_of_lt_of_le HZ0.out hb3.size)).trans u2)
          | (go_at_call 43
             refine (l2Fit_any k.size ds DA DC hds op n k A c w4 rfl ((HD.out.up hb3).up hb4) ((HL.out.up hb3).up hb4) hsz).mono ?_
             rintro e w5 ⟨rfl, hb5⟩
             rw [HZF.out])))
      | fail
    all_goals
      have hb6 := HB0.out.trans ((hb3.trans ((hb4.trans (hb5.mono hb4.size)).mono hb3.size)).mono HB0.out.size)
      clear hb3 hb4 hb5 hB3 q0 q1 q2 u0 u1 u2 v0 v1 v2 HB0 HF HL HD
      go_wp2
      go_ret
      exact ⟨rfl, hb6⟩

set_option maxHeartbeats 2000000 in
theorem implClient_r (ds : List De) (DA : Option Addr) (DC : Nat) (op n : Int) (k : Fo) (A : Option Addr) (c : Nat) (LD BD L B : Nat) (w : World) (hd : LiesD w LD BD DA ds) (hBD : BD ≤ w.heap.size) (hl : Lies w L B A 0 k) (hB : B ≤ w.heap.size) (hdz : sizeD ds ≤ 1048576) (hk1 : k.len ≤ c) (hk2 : c ≤ maxLen) (hsz : k.size ≤ 1048576) :
    Calls Tryz.prog 20 #[.slice DA ds.length DC, .agg #[.int .i64 op, .int .i64 n, .slice A k.len c]] w (Gives (.bool (clientB ds op n k)) w) := by
  have hds := Nat.le_trans (sizeD_len ds) hdz
  have hlen := Nat.le_trans hk1 hk2
  have hb0 : Below w.heap.size w (w.alloc (Obj.cells #[Value.int IntKind.i64 op, Value.int IntKind.i64 n, Value.slice A k.len c] 36)) := (Below.refl _ _).alloc (Nat.le_refl _) _
  have hr0 := Row.fresh w 36 #[Value.int IntKind.i64 op, Value.int IntKind.i64 n, Value.slice A k.len c]
  have HA := Lib.hid (implLibValid_r ds DA DC LD BD _ (hd.below (hb0.mono hBD)) (Nat.le_trans hBD hb0.size) hdz)
  have HVU := Lib.hid (validOf_upto op n k 0 (by omega))
  unfold clientB
  rw [← client_split]
  cases hv : libOk ds with
  | false =>
    rw [hv] at HA
    rw [Bool.false_and]
    clear hv
    go_enter Tryz.func20, Tryz.ntmps20
    go_wp2_with fail
    refine HA.out.mono ?_
    rintro e w2 ⟨rfl, hb2⟩
    have hb3 := hb0.trans (hb2.mono hb0.size)
    clear hb0 hb2 HA
    go_wp2
    go_ret
    exact ⟨rfl, hb3⟩
  | true =>
    rw [hv] at HA
    rw [Bool.true_and]
    clear hv
    cases hn : nodeIs op n k (firstS 0) with
    | false =>
      rw [hn] at HVU
      rw [Bool.false_and]
      clear hn
      go_enter Tryz.func20, Tryz.ntmps20
      go_wp2_with fail
      refine HA.out.mono ?_
      rintro e w2 ⟨rfl, hb2⟩
      have hb3 := hb0.trans (hb2.mono hb0.size)
      have hr2 := hr0.below hb2 hr0.size
      have q0 := hr2.cell (i := 0) rfl
      have q1 := hr2.cell (i := 1) rfl
      have q2 := hr2.cell (i := 2) rfl
      clear hb0 hb2 HA
      go_wp2_with fail
      refine (implExprValid_any op n k A c (upto 0) none 0 w2 ((hl.mono_ (Nat.zero_le _) hB).up hb3) hlen (fun i x hx => by simp [upto] at hx) (by simp [upto])).mono ?_
      rintro e w3 ⟨rfl, hb4⟩
      rw [HVU.out]
      have hb5 := hb3.trans (hb4.mono hb3.size)
      clear hb3 hb4 q0 q1 q2
      go_wp2
      go_ret
      exact ⟨rfl, hb5⟩
    | true =>
      rw [hn] at HVU
      rw [Bool.true_and]
      clear hn
      generalize hz : callsFitB ds op n k = z
      have HZ := Lib.hid hz
      clear hz
      go_enter Tryz.func20, Tryz.ntmps20
      go_wp2_with fail
      refine HA.out.mono ?_
      rintro e w2 ⟨rfl, hb2⟩
      have hb3 := hb0.trans (hb2.mono hb0.size)
      have hr2 := hr0.below hb2 hr0.size
      have q0 := hr2.cell (i := 0) rfl
      have q1 := hr2.cell (i := 1) rfl
      have q2 := hr2.cell (i := 2) rfl
      clear hb0 hb2 HA
      go_wp2_with fail
      refine (implExprValid_any op n k A c (upto 0) none 0 w2 ((hl.mono_ (Nat.zero_le _) hB).up hb3) hlen (fun i x hx => by simp [upto] at hx) (by simp [upto])).mono ?_
      rintro e w3 ⟨rfl, hb4⟩
      rw [HVU.out]
      have hb5 := hb3.trans (hb4.mono hb3.size)
      have hr3 := hr2.below hb4 hr2.size
      have p0 := hr3.cell (i := 0) rfl
      have p1 := hr3.cell (i := 1) rfl
      have p2 := hr3.cell (i := 2) rfl
      clear hb3 hb4 q0 q1 q2
      go_wp2_with fail
      refine (implCallsFit_r ds DA DC op n k A c L B w3 ((hd.mono_ (Nat.zero_le _) hBD).up hb5) (hl.below (hb5.mono hB)) (Nat.le_trans hB hb5.size) hds hk1 hk2 hsz).mono ?_
      rintro e w4 ⟨rfl, hb6⟩
      rw [HZ.out]
      have hb7 := hb5.trans (hb6.mono hb5.size)
      clear hb5 hb6 p0 p1 p2
      go_wp2
      go_ret
      exact ⟨rfl, hb7⟩

theorem implClient_any (ds : List De) (DA : Option Addr) (DC : Nat) (op n : Int) (k : Fo) (A : Option Addr) (c : Nat) (LD BD L B : Nat) (w : World) (hd : LiesD w LD BD DA ds) (hBD : BD ≤ w.heap.size) (_hald : AllRows w LD BD) (hl : Lies w L B A 0 k) (hB : B ≤ w.heap.size) (_hal : AllRows w L B) (hdz : sizeD ds ≤ 1048576) (hk1 : k.len ≤ c) (hk2 : c ≤ maxLen) (hsz : k.size ≤ 1048576) :
    Calls Tryz.prog 20 #[.slice DA ds.length DC, .agg #[.int .i64 op, .int .i64 n, .slice A k.len c]] w (Gives (.bool (clientB ds op n k)) w) := implClient_r ds DA DC op n k A c LD BD L B w hd hBD hl hB hdz hk1 hk2 hsz
end Go.Proofs.YtpknegneogdmfaaGreat
