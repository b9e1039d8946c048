/-
  GoneCalls: the program.
-/
import Derived.Test.YtgmhpfdhkcgbfaaGone
import Derived.Test.YtgmhpfdhkcgbfaaDelF
namespace Go.Proofs.Ytgmhpfdhkcgbfaa
open Go.RowKit Go.Shelf
set_option maxRecDepth 100000

set_option maxHeartbeats 2000000 in
theorem isFrom_any (ds1 : List De) (A1 : Option Addr) (c1 : Nat) (ds2 : List De) (A2 : Option Addr) (c2 : Nat) (op n : Int) (k : Fo) (A : Option Addr) (c : Nat) (L1 B1 L2 B2 L B : Nat) (w : World) (hd1 : LiesD w L1 B1 A1 ds1) (hB1 : B1 ≤ w.heap.size) (hd2 : LiesD w L2 B2 A2 ds2) (hB2 : B2 ≤ w.heap.size) (hl : Lies w L B A 0 k) (hB : B ≤ w.heap.size) (hz1 : sizeD ds1 ≤ 1048576) (hz2 : sizeD ds2 ≤ 1048576) (hk1 : k.len ≤ c) (hk2 : c ≤ maxLen) (hsz : k.size ≤ 1048576) :
    Calls Try.prog 48 #[.slice A1 ds1.length c1, .slice A2 ds2.length c2, .agg #[.int .i64 op, .int .i64 n, .slice A k.len c]] w (Gives (.bool (goneOk ds1 ds2 op n k)) w) := by
  obtain ⟨hb0, hr0⟩ := one_box w 34 #[Value.int IntKind.i64 op, Value.int IntKind.i64 n, Value.slice A k.len c]
  have HB := Lib.hid hb0
  have HR := Lib.hid hr0
  have HD1 := Lib.hid hd1
  have HD2 := Lib.hid hd2
  have HL := Lib.hid hl
  obtain ⟨v2, hv2⟩ : ∃ v, v = libOk ds2 := ⟨_, rfl⟩
  obtain ⟨v3, hv3⟩ : ∃ v, v = clientB ds1 op n k := ⟨_, rfl⟩
  rw [show goneOk ds1 ds2 op n k = (v2 && v3) by rw [hv2, hv3]; rfl]
  have H2 := Lib.hid hv2
  have H3 := Lib.hid hv3
  clear hb0 hr0 hd1 hd2 hl hv2 hv3
  go_enter Try.func48, Try.ntmps48
  go_wp2_with fail
  refine (implLibValid_r ds2 A2 c2 L2 B2 _ (HD2.out.below (HB.out.mono hB2)) (Nat.le_trans hB2 HB.out.size) hz2).mono ?_
  rintro e w1 ⟨rfl, hb1⟩
  rw [← H2.out]
  have HB1 := Lib.hid (HB.out.trans (hb1.mono HB.out.size))
  have hr1 := HR.out.below hb1 HR.out.size
  have q0 := hr1.cell (i := 0) rfl
  have q1 := hr1.cell (i := 1) rfl
  have q2 := hr1.cell (i := 2) rfl
  clear hb1 HB HR hr1
  cases v2 with
  | false =>
    go_wp2_with fail
    go_ret
    exact ⟨rfl, HB1.out⟩
  | true =>
  go_wp2_with fail
  refine (implClient_r ds1 A1 c1 op n k A c L1 B1 L B w1 (HD1.out.below (HB1.out.mono hB1)) (Nat.le_trans hB1 HB1.out.size) (HL.out.below (HB1.out.mono hB)) (Nat.le_trans hB HB1.out.size) hz1 hk1 hk2 hsz).mono ?_
  rintro e w2 ⟨rfl, hb2⟩
  rw [← H3.out]
  have HB2 := Lib.hid (HB1.out.trans (hb2.mono HB1.out.size))
  clear hb2 HB1 q0 q1 q2
  go_wp2_with fail
  go_ret
  exact ⟨by simp, HB2.out⟩

/-- The functions of a list that another one does not have, as a set. -/
def goneT (ds2 : List De) (l : List De) (i : Nat) : Bool := l.any (fun d => decide (d.nm.toNat = i)) && goneP ds2 (i : Int)
theorem goneT_step {ds1 ds2 : List De} {j : Nat} {d : De} {v : Nat} (h : ds1[j]? = some d) (hv : v = d.nm.toNat) (h8 : v < 8) : (cells8 (goneT ds2 (ds1.take j))).setIfInBounds v (.bool (goneP ds2 (v : Int))) = cells8 (goneT ds2 (ds1.take (j + 1))) := by
  have e : ∀ i, goneT ds2 (ds1.take (j + 1)) i = if i = v then goneP ds2 (v : Int) else goneT ds2 (ds1.take j) i := fun i => by
    unfold goneT
    rw [List.take_add_one, h, List.any_append]
    by_cases hi : i = v
    · rw [if_pos hi, hi, hv]; simp
    · rw [if_neg hi]
      have : ¬ d.nm.toNat = i := fun h => hi (by rw [← h, hv])
      simp [this]
  unfold cells8
  have hc : v = 0 ∨ v = 1 ∨ v = 2 ∨ v = 3 ∨ v = 4 ∨ v = 5 ∨ v = 6 ∨ v = 7 := by omega
  rcases hc with h | h | h | h | h | h | h | h <;> subst h <;> simp [e]
theorem goneT_at {ds1 ds2 : List De} {x : Int} {d : De} (hx : inVar x = true) (h : fnd x ds1 = some d) : goneT ds2 ds1 x.toNat = goneP ds2 x := by
  obtain ⟨hm, hn⟩ := fnd_mem h
  unfold goneT
  rw [(inVar_nat hx).1, show ds1.any (fun d => decide (d.nm.toNat = x.toNat)) = true from List.any_eq_true.2 ⟨d, hm, by rw [hn]; simp⟩, Bool.true_and]


theorem put10 {w a : World} {g B : Nat} {t : TypeId} {u0 u1 u2 u3 u4 u5 u6 u7 u8 u9 : Value} (hr : Row w g t #[u0, u1, u2, u3, u4, u5, u6, u7, u8, u9]) (hb : Below B a w) (hg : B ≤ g) (v0 v1 v2 v3 v4 v5 v6 v7 v8 v9 : Value) :
    ((((((((((w.setCell ⟨g, 0, none⟩ v0).setCell ⟨g, 1, none⟩ v1).setCell ⟨g, 2, none⟩ v2).setCell ⟨g, 3, none⟩ v3).setCell ⟨g, 4, none⟩ v4).setCell ⟨g, 5, none⟩ v5).setCell ⟨g, 6, none⟩ v6).setCell ⟨g, 7, none⟩ v7).setCell ⟨g, 8, none⟩ v8).setCell ⟨g, 9, none⟩ v9).cell? ⟨g, 0, none⟩ = some v0 ∧ ((((((((((w.setCell ⟨g, 0, none⟩ v0).setCell ⟨g, 1, none⟩ v1).setCell ⟨g, 2, none⟩ v2).setCell ⟨g, 3, none⟩ v3).setCell ⟨g, 4, none⟩ v4).setCell ⟨g, 5, none⟩ v5).setCell ⟨g, 6, none⟩ v6).setCell ⟨g, 7, none⟩ v7).setCell ⟨g, 8, none⟩ v8).setCell ⟨g, 9, none⟩ v9).cell? ⟨g, 1, none⟩ = some v1 ∧ ((((((((((w.setCell ⟨g, 0, none⟩ v0).setCell ⟨g, 1, none⟩ v1).setCell ⟨g, 2, none⟩ v2).setCell ⟨g, 3, none⟩ v3).setCell ⟨g, 4, none⟩ v4).setCell ⟨g, 5, none⟩ v5).setCell ⟨g, 6, none⟩ v6).setCell ⟨g, 7, none⟩ v7).setCell ⟨g, 8, none⟩ v8).setCell ⟨g, 9, none⟩ v9).cell? ⟨g, 2, none⟩ = some v2 ∧ ((((((((((w.setCell ⟨g, 0, none⟩ v0).setCell ⟨g, 1, none⟩ v1).setCell ⟨g, 2, none⟩ v2).setCell ⟨g, 3, none⟩ v3).setCell ⟨g, 4, none⟩ v4).setCell ⟨g, 5, none⟩ v5).setCell ⟨g, 6, none⟩ v6).setCell ⟨g, 7, none⟩ v7).setCell ⟨g, 8, none⟩ v8).setCell ⟨g, 9, none⟩ v9).cell? ⟨g, 3, none⟩ = some v3 ∧ ((((((((((w.setCell ⟨g, 0, none⟩ v0).setCell ⟨g, 1, none⟩ v1).setCell ⟨g, 2, none⟩ v2).setCell ⟨g, 3, none⟩ v3).setCell ⟨g, 4, none⟩ v4).setCell ⟨g, 5, none⟩ v5).setCell ⟨g, 6, none⟩ v6).setCell ⟨g, 7, none⟩ v7).setCell ⟨g, 8, none⟩ v8).setCell ⟨g, 9, none⟩ v9).cell? ⟨g, 4, none⟩ = some v4 ∧ ((((((((((w.setCell ⟨g, 0, none⟩ v0).setCell ⟨g, 1, none⟩ v1).setCell ⟨g, 2, none⟩ v2).setCell ⟨g, 3, none⟩ v3).setCell ⟨g, 4, none⟩ v4).setCell ⟨g, 5, none⟩ v5).setCell ⟨g, 6, none⟩ v6).setCell ⟨g, 7, none⟩ v7).setCell ⟨g, 8, none⟩ v8).setCell ⟨g, 9, none⟩ v9).cell? ⟨g, 5, none⟩ = some v5 ∧ ((((((((((w.setCell ⟨g, 0, none⟩ v0).setCell ⟨g, 1, none⟩ v1).setCell ⟨g, 2, none⟩ v2).setCell ⟨g, 3, none⟩ v3).setCell ⟨g, 4, none⟩ v4).setCell ⟨g, 5, none⟩ v5).setCell ⟨g, 6, none⟩ v6).setCell ⟨g, 7, none⟩ v7).setCell ⟨g, 8, none⟩ v8).setCell ⟨g, 9, none⟩ v9).cell? ⟨g, 6, none⟩ = some v6 ∧ ((((((((((w.setCell ⟨g, 0, none⟩ v0).setCell ⟨g, 1, none⟩ v1).setCell ⟨g, 2, none⟩ v2).setCell ⟨g, 3, none⟩ v3).setCell ⟨g, 4, none⟩ v4).setCell ⟨g, 5, none⟩ v5).setCell ⟨g, 6, none⟩ v6).setCell ⟨g, 7, none⟩ v7).setCell ⟨g, 8, none⟩ v8).setCell ⟨g, 9, none⟩ v9).cell? ⟨g, 7, none⟩ = some v7 ∧ ((((((((((w.setCell ⟨g, 0, none⟩ v0).setCell ⟨g, 1, none⟩ v1).setCell ⟨g, 2, none⟩ v2).setCell ⟨g, 3, none⟩ v3).setCell ⟨g, 4, none⟩ v4).setCell ⟨g, 5, none⟩ v5).setCell ⟨g, 6, none⟩ v6).setCell ⟨g, 7, none⟩ v7).setCell ⟨g, 8, none⟩ v8).setCell ⟨g, 9, none⟩ v9).cell? ⟨g, 8, none⟩ = some v8 ∧ ((((((((((w.setCell ⟨g, 0, none⟩ v0).setCell ⟨g, 1, none⟩ v1).setCell ⟨g, 2, none⟩ v2).setCell ⟨g, 3, none⟩ v3).setCell ⟨g, 4, none⟩ v4).setCell ⟨g, 5, none⟩ v5).setCell ⟨g, 6, none⟩ v6).setCell ⟨g, 7, none⟩ v7).setCell ⟨g, 8, none⟩ v8).setCell ⟨g, 9, none⟩ v9).cell? ⟨g, 9, none⟩ = some v9 ∧ Below B a ((((((((((w.setCell ⟨g, 0, none⟩ v0).setCell ⟨g, 1, none⟩ v1).setCell ⟨g, 2, none⟩ v2).setCell ⟨g, 3, none⟩ v3).setCell ⟨g, 4, none⟩ v4).setCell ⟨g, 5, none⟩ v5).setCell ⟨g, 6, none⟩ v6).setCell ⟨g, 7, none⟩ v7).setCell ⟨g, 8, none⟩ v8).setCell ⟨g, 9, none⟩ v9) := by
  have h := (((((((((hr.put 0 v0).put 1 v1).put 2 v2).put 3 v3).put 4 v4).put 5 v5).put 6 v6).put 7 v7).put 8 v8).put 9 v9
  have h2 : Row ((((((((((w.setCell ⟨g, 0, none⟩ v0).setCell ⟨g, 1, none⟩ v1).setCell ⟨g, 2, none⟩ v2).setCell ⟨g, 3, none⟩ v3).setCell ⟨g, 4, none⟩ v4).setCell ⟨g, 5, none⟩ v5).setCell ⟨g, 6, none⟩ v6).setCell ⟨g, 7, none⟩ v7).setCell ⟨g, 8, none⟩ v8).setCell ⟨g, 9, none⟩ v9) g t #[v0, v1, v2, v3, v4, v5, v6, v7, v8, v9] := by
    simp only [List.setIfInBounds_toArray, List.set_cons_zero, List.set_cons_succ] at h
    exact h
  exact ⟨h2.cell (i := 0) rfl, h2.cell (i := 1) rfl, h2.cell (i := 2) rfl, h2.cell (i := 3) rfl, h2.cell (i := 4) rfl, h2.cell (i := 5) rfl, h2.cell (i := 6) rfl, h2.cell (i := 7) rfl, h2.cell (i := 8) rfl, h2.cell (i := 9) rfl, (((((((((hb.setCell (p := ⟨g, 0, none⟩) hg v0).setCell (p := ⟨g, 1, none⟩) hg v1).setCell (p := ⟨g, 2, none⟩) hg v2).setCell (p := ⟨g, 3, none⟩) hg v3).setCell (p := ⟨g, 4, none⟩) hg v4).setCell (p := ⟨g, 5, none⟩) hg v5).setCell (p := ⟨g, 6, none⟩) hg v6).setCell (p := ⟨g, 7, none⟩) hg v7).setCell (p := ⟨g, 8, none⟩) hg v8).setCell (p := ⟨g, 9, none⟩) hg v9⟩

theorem ent_look {w : World} {L B : Nat} {ds : List De} {es : IEnts} (h : EntOk w L B ds es) {x : Int} (hx : inVar x = true) : ∃ nm ar old op n l A c, (ilook es x).getD (.agg #[.int .i64 0, .int .i64 0, .bool false, .int .i64 0, .int .i64 0, .slice none 0 0]) = .agg #[.int .i64 nm, .int .i64 ar, .bool old, .int .i64 op, .int .i64 n, .slice A l c] ∧ (ilook es x).isSome = !goneP ds x := by
  unfold goneP
  cases hf : fnd x ds with
  | none => exact ⟨0, 0, false, 0, 0, 0, none, 0, by rw [h.2 x (.inr hf)]; rfl, by rw [h.2 x (.inr hf)]; rfl⟩
  | some d =>
    obtain ⟨A, c, h1, _⟩ := h.1 x d hx hf
    exact ⟨d.nm, d.ar, d.old, d.op, d.n, d.k.len, A, c, by rw [h1]; rfl, by rw [h1]; rfl⟩

set_option maxHeartbeats 4000000 in
theorem reportGone_any (ds1 : List De) (A1 : Option Addr) (c1 : Nat) (ds2 : List De) (A2 : Option Addr) (c2 : Nat) (L1 B1 L2 B2 : Nat) (w : World) (hd1 : LiesD w L1 B1 A1 ds1) (hB1 : B1 ≤ w.heap.size) (hd2 : LiesD w L2 B2 A2 ds2) (hB2 : B2 ≤ w.heap.size) (hz1 : sizeD ds1 ≤ 1048576) (hz2 : sizeD ds2 ≤ 1048576) (hn : ∀ d ∈ ds1, inVar d.nm = true) :
    Calls Try.prog 49 #[.slice A1 ds1.length c1, .slice A2 ds2.length c2] w (Gives (.agg (#[.slice A1 ds1.length c1, .slice A2 ds2.length c2] ++ cells8 (goneT ds2 ds1))) w) := by
  have hds1 := Nat.le_trans (sizeD_len ds1) hz1
  have hds2 := Nat.le_trans (sizeD_len ds2) hz2
  obtain ⟨W0, hW0⟩ : ∃ W, W = w.alloc (Obj.cells #[.slice none 0 0, .slice none 0 0, .bool false, .bool false, .bool false, .bool false, .bool false, .bool false, .bool false, .bool false] 70) := ⟨_, rfl⟩
  have hb0 : Below w.heap.size w W0 := by rw [hW0]; exact (Below.refl _ _).alloc (Nat.le_refl _) _
  have HR0 := Lib.hid (show Row W0 w.heap.size 70 #[.slice none 0 0, .slice none 0 0, .bool false, .bool false, .bool false, .bool false, .bool false, .bool false, .bool false, .bool false] by rw [hW0]; exact Row.fresh _ _ _)
  have HB0 := Lib.hid hb0
  have HD1 := Lib.hid hd1
  have HD2 := Lib.hid hd2
  clear hb0 hd1 hd2
  go_enter Try.func49, Try.ntmps49
  go_upto_region 1 with fail
  rw [← hW0]
  clear hW0
  go_wp2_with fail
  refine (defsByName_any ds2 A2 c2 W0 L2 B2 (HD2.out.below (HB0.out.mono hB2)) (Nat.le_trans hB2 HB0.out.size) hds2).mono ?_
  rintro e w1 ⟨es, rfl, hm, hent, hb1, hlt1⟩
  have HM := Lib.hid hm
  have HE := Lib.hid hent
  have HR1 := Lib.hid (HR0.out.below hb1 HR0.out.size)
  have HB1 := Lib.hid (HB0.out.trans (hb1.mono HB0.out.size))
  have HZ0 := Lib.hid (show w.heap.size < W0.heap.size from HR0.out.size)
  have HLT := Lib.hid hlt1
  clear hm hent hb1 hlt1 HR0 HB0
  obtain ⟨W1, hW1⟩ : ∃ W, W = w1.alloc (Obj.cells #[.bool false, .bool false, .bool false, .bool false, .bool false, .bool false, .bool false, .bool false] 68) := ⟨_, rfl⟩
  have hbb : Below w1.heap.size w1 W1 := by rw [hW1]; exact (Below.refl _ _).alloc (Nat.le_refl _) _
  have HG := Lib.hid (show Row W1 w1.heap.size 68 (cells8 (goneT ds2 (ds1.take 0))) by rw [hW1]; exact Row.fresh _ _ _)
  have HBB := Lib.hid hbb
  clear hbb
  go_upto_region 3 with fail
  rw [← hW1]
  clear hW1
  go_wp2_with fail
  go_loopw [15] (fun i wr => ∃ (j : Nat), j ≤ ds1.length ∧ i = .int .i64 (j : Int) ∧ Row wr w1.heap.size 68 (cells8 (goneT ds2 (ds1.take j))) ∧ Below w1.heap.size w1 wr)
    (fun i _ => ds1.length - (intOf i).toNat)
  case atStart => exact ⟨0, by omega, rfl, HG.out, HBB.out⟩
  case round =>
    clear HG HBB
    obtain ⟨j, hj, rfl, hr, hb⟩ := hrel
    by_cases hlt : j < ds1.length
    · obtain ⟨d, hd⟩ : ∃ d, ds1[j]? = some d := ⟨_, List.getElem?_eq_getElem hlt⟩
      have hin := hn d (List.mem_of_getElem? hd)
      obtain ⟨e0, e8⟩ := inVar_nat hin
      obtain ⟨b, o, A', c', rfl, _, hbw, hf, g0, g1, g2, g3, g4, g5, h7, h8, h9⟩ := (HD1.out.below ((HB1.out.trans (hb.mono HB1.out.size)).mono hB1)) j d hd
      obtain ⟨v, hv⟩ : ∃ v, v = d.nm.toNat := ⟨_, rfl⟩
      have HSTEP := Lib.hid (goneT_step (ds2 := ds2) hd hv (by rw [hv]; exact e8))
      rw [← hv] at e0 e8
      rw [← e0] at g0
      have HIN := Lib.hid (show inVar ((v : Nat) : Int) = true by rw [e0]; exact hin)
      obtain ⟨Y, hY⟩ : ∃ Y, Y = wr.alloc (Obj.cells #[.int .i64 (v : Int), .int .i64 d.ar, .bool d.old, .int .i64 d.op, .int .i64 d.n, .slice A' d.k.len c'] 58) := ⟨_, rfl⟩
      have hbY : Below w1.heap.size w1 Y := by rw [hY]; exact hb.alloc hb.size _
      have HX := Lib.hid (show Row Y wr.heap.size 58 #[.int .i64 (v : Int), .int .i64 d.ar, .bool d.old, .int .i64 d.op, .int .i64 d.n, .slice A' d.k.len c'] by rw [hY]; exact Row.fresh _ _ _)
      have HRY := Lib.hid (show Row Y w1.heap.size 68 (cells8 (goneT ds2 (ds1.take j))) by rw [hY]; exact hr.alloc _)
      have HBY := Lib.hid hbY
      have HZW := Lib.hid (show w1.heap.size ≤ wr.heap.size from hb.size)
      have hji : (j : Int) < (ds1.length : Int) := by omega
      clear hd hin e0 hv hf h9 hr hb hbY
      go_upto_region 6 with fail
      rw [← hY]
      clear hY g0 g1 g2 g3 g4 g5
      obtain ⟨nm, ar, old, op, n, l, A9, c9, hlo, hsome⟩ := ent_look (HE.out.below (HBY.out.mono (Nat.le_trans hB2 HB1.out.size))) HIN.out
      have hlk := im_lookup (P := Try.prog) (a := (v : Int)) Try.underlying76 Try.underlying3 (show (zeroValue 58).run Try.prog Y = .ok (.agg #[.int .i64 0, .int .i64 0, .bool false, .int .i64 0, .int .i64 0, .slice none 0 0]) Y by kernel_rfl) (HM.out.below HBY.out HLT.out)
      rw [hlo, hsome] at hlk
      obtain ⟨t, ht⟩ : ∃ t, t = goneP ds2 (v : Int) := ⟨_, rfl⟩
      rw [← ht] at hlk HSTEP
      obtain ⟨V, hV⟩ : ∃ V, V = Y.alloc (Obj.cells #[.int .i64 nm, .int .i64 ar, .bool old, .int .i64 op, .int .i64 n, .slice A9 l c9] 58) := ⟨_, rfl⟩
      have HXV := Lib.hid (show Row V wr.heap.size 58 #[.int .i64 (v : Int), .int .i64 d.ar, .bool d.old, .int .i64 d.op, .int .i64 d.n, .slice A' d.k.len c'] by rw [hV]; exact HX.out.alloc _)
      have HRV := Lib.hid (show Row V w1.heap.size 68 (cells8 (goneT ds2 (ds1.take j))) by rw [hV]; exact HRY.out.alloc _)
      have HBV := Lib.hid (show Below w1.heap.size w1 V by rw [hV]; exact HBY.out.alloc HBY.out.size _)
      have r0 := HX.out.cell (i := 0) rfl
      clear hlo hsome ht
      go_upto_region 7 with fail
      rw [← hV]
      clear hV hlk r0
      have r0 := HXV.out.cell (i := 0) rfl
      have q0 := HRV.out.cell (cells8_at (goneT ds2 (ds1.take j)) e8)
      have f0 := HRV.out.free v
      have HP := Lib.hid (HRV.out.put v (.bool t))
      have HB9 := Lib.hid (HBV.out.setCell (p := ⟨w1.heap.size, v, none⟩) (Nat.le_refl _) (.bool t))
      have hnn : (!(!t)) = t := by cases t <;> rfl
      go_wp2_with fail
      go_roundw
      case rel => exact ⟨j + 1, hlt, by go_num, by rw [← HSTEP.out]; first | exact HP.out | (have := HP.out; rw [hnn]; exact this), by first | exact HB9.out | (have := HB9.out; rw [hnn]; exact this)⟩
      case measure => simp [intOf]; omega
    · have e9 : j = ds1.length := by omega
      subst e9
      rw [List.take_length] at hr
      have hji : ¬ (ds1.length : Int) < (ds1.length : Int) := by omega
      obtain ⟨T, hT⟩ : ∃ T, T = goneT ds2 ds1 := ⟨_, rfl⟩
      rw [← hT] at hr
      have HT := Lib.hid hT
      have HRR := Lib.hid (HR1.out.below (hb.mono (Nat.le_refl _)) HR1.out.size)
      have HBR := Lib.hid (HB1.out.trans (hb.mono HB1.out.size))
      have ⟨p0, p1, p2, p3, p4, p5, p6, p7⟩ : wr.cell? ⟨w1.heap.size, 0, none⟩ = some (.bool (T 0)) ∧ wr.cell? ⟨w1.heap.size, 1, none⟩ = some (.bool (T 1)) ∧ wr.cell? ⟨w1.heap.size, 2, none⟩ = some (.bool (T 2)) ∧ wr.cell? ⟨w1.heap.size, 3, none⟩ = some (.bool (T 3)) ∧ wr.cell? ⟨w1.heap.size, 4, none⟩ = some (.bool (T 4)) ∧ wr.cell? ⟨w1.heap.size, 5, none⟩ = some (.bool (T 5)) ∧ wr.cell? ⟨w1.heap.size, 6, none⟩ = some (.bool (T 6)) ∧ wr.cell? ⟨w1.heap.size, 7, none⟩ = some (.bool (T 7)) :=
        ⟨hr.cell (i := 0) rfl, hr.cell (i := 1) rfl, hr.cell (i := 2) rfl, hr.cell (i := 3) rfl, hr.cell (i := 4) rfl, hr.cell (i := 5) rfl, hr.cell (i := 6) rfl, hr.cell (i := 7) rfl⟩
      have s0 := HRR.out.cell (i := 0) rfl
      have f0 := HRR.out.free 0
      have s1 := HRR.out.cell (i := 1) rfl
      have f1 := HRR.out.free 1
      have s2 := HRR.out.cell (i := 2) rfl
      have f2 := HRR.out.free 2
      have s3 := HRR.out.cell (i := 3) rfl
      have f3 := HRR.out.free 3
      have s4 := HRR.out.cell (i := 4) rfl
      have f4 := HRR.out.free 4
      have s5 := HRR.out.cell (i := 5) rfl
      have f5 := HRR.out.free 5
      have s6 := HRR.out.cell (i := 6) rfl
      have f6 := HRR.out.free 6
      have s7 := HRR.out.cell (i := 7) rfl
      have f7 := HRR.out.free 7
      have s8 := HRR.out.cell (i := 8) rfl
      have f8 := HRR.out.free 8
      have s9 := HRR.out.cell (i := 9) rfl
      have f9 := HRR.out.free 9
      obtain ⟨t0, t1, t2, t3, t4, t5, t6, t7, t8, t9, hbc⟩ := put10 HRR.out HBR.out (Nat.le_refl _) (.slice A1 ds1.length c1) (.slice A2 ds2.length c2) (.bool (T 0)) (.bool (T 1)) (.bool (T 2)) (.bool (T 3)) (.bool (T 4)) (.bool (T 5)) (.bool (T 6)) (.bool (T 7))
      have HBC := Lib.hid hbc
      clear hbc
      clear hr hb hT
      go_wp2_with fail
      refine bodyPost_ret (v := .agg #[.slice A1 ds1.length c1, .slice A2 ds2.length c2, .bool (T 0), .bool (T 1), .bool (T 2), .bool (T 3), .bool (T 4), .bool (T 5), .bool (T 6), .bool (T 7)]) ?_ rfl ⟨by rw [← HT.out]; rfl, HBC.out⟩
      simp [results, Try.f49, go_sem, t0, t1, t2, t3, t4, t5, t6, t7, t8, t9]

set_option maxHeartbeats 2000000 in
theorem calledIn_any (T : Nat → Bool) (op n : Int) (k : Fo) (A : Option Addr) (c L B : Nat) (w : World) (hl : Lies w L B A 0 k) (hB : B ≤ w.heap.size) (hal : RowsIf w B A k) (hk1 : k.len ≤ c) (hk2 : c ≤ maxLen) (hsz : k.size ≤ 1048576) :
    Calls Try.prog 50 #[.agg (cells8 T), .agg #[.int .i64 op, .int .i64 n, .slice A k.len c]] w (ListPost ((numsUpto (callB ⟨op, n, k⟩) 8).filter fun x => T x.toNat) w) := by
  obtain ⟨hb0, hr1, hr2⟩ := two_boxes w 68 34 (cells8 T) #[Value.int IntKind.i64 op, Value.int IntKind.i64 n, Value.slice A k.len c]
  obtain ⟨W, hW⟩ : ∃ W, W = (w.alloc (Obj.cells (cells8 T) 68)).alloc (Obj.cells #[Value.int IntKind.i64 op, Value.int IntKind.i64 n, Value.slice A k.len c] 34) := ⟨_, rfl⟩
  rw [← hW] at hb0 hr1 hr2
  have HB := Lib.hid hb0
  have HR1 := Lib.hid hr1
  have HR2 := Lib.hid hr2
  have HC := Lib.hid (implCalls_r op n k A c L B W (hl.below (hb0.mono hB)) (Nat.le_trans hB hb0.size) (hal.below hb0 hB) hk1 hk2 hsz)
  unfold cells8 at hW ⊢
  clear hb0 hr1 hr2 hl hal
  go_enter Try.func50, Try.ntmps50
  go_upto_region 1 with fail
  rw [← hW]
  clear hW
  have q0 := HR2.out.cell (i := 0) rfl
  have q1 := HR2.out.cell (i := 1) rfl
  have q2 := HR2.out.cell (i := 2) rfl
  go_wp2_with fail
  refine HC.out.mono ?_
  rintro e w1 ⟨v1, rfl, ho1, hb1⟩
  obtain ⟨zs, hzs⟩ : ∃ zs, zs = numsUpto (callB ⟨op, n, k⟩) 8 := ⟨_, rfl⟩
  have hzi : ∀ x ∈ zs, I64 x := fun x hx => numsUpto_small _ 8 x (Nat.le_refl _) (hzs ▸ hx)
  have hzl : zs.length ≤ 8 := by rw [hzs]; exact numsUpto_len _ 8
  have hzv : ∀ x ∈ zs, inVar x = true := fun x hx => by
    obtain ⟨u, h8, rfl, _⟩ := numsUpto_mem 8 x (hzs ▸ hx)
    exact inVar_mk (by omega) (by omega)
  rw [← hzs] at ho1
  have HZS := Lib.hid hzs
  have HR3 := HR1.out.below hb1 HR1.out.size
  have HD := Lib.hid (deleteFunc_any (fun x => !T x.toNat) 76 #[.pointer (some ⟨w.heap.size, 0, none⟩)] zs v1 W.heap.size w1 ho1 hb1.size (by omega) hzi (enters_of Try.func76 (by kernel_rfl) rfl)
    (fun x hx V hV => by
      obtain ⟨e0, e8⟩ := inVar_nat (hzv x hx)
      have hr := HR3.below hV (Nat.lt_of_lt_of_le HR1.out.size (Nat.le_refl _))
      generalize x.toNat = v at e0 e8 ⊢
      subst e0
      have q0 := hr.cell (cells8_at T e8)
      go_enter Try.func76, Try.ntmps76
      go_wp2
      go_ret
      exact ⟨rfl, Below.refl _ _⟩))
  have HB1 := Lib.hid (HB.out.trans (hb1.mono HB.out.size))
  have HS := Lib.hid HB.out.size
  clear q0 q1 q2 hb1 ho1 hzs hzi hzv HR3 HR1 HR2 HC
  go_wp2_with fail
  refine HD.out.mono ?_
  rintro e w2 ⟨v2, rfl, ho2, hb2⟩
  have HB2 := Lib.hid (HB1.out.trans (hb2.mono HS.out))
  have HO2 := Lib.hid (own_less ho2 HS.out)
  clear hb2 ho2 HD
  go_wp2_with fail
  go_ret
  exact ⟨_, rfl, by rw [← HZS.out]; have h := HO2.out; simp only [Bool.not_not] at h; exact h, HB2.out⟩

theorem goneOk_fit {ds1 ds2 : List De} {op n : Int} {k : Fo} (h : goneOk ds1 ds2 op n k = true) : libOk ds1 = true ∧ callsFitB ds1 op n k = true := by
  unfold goneOk clientB at h
  rw [Bool.and_eq_true, Bool.and_eq_true, ← client_split, Bool.and_eq_true] at h
  exact ⟨h.2.1, h.2.2.2⟩
theorem goneL_is {ds1 ds2 : List De} {op n : Int} {k : Fo} (h : goneOk ds1 ds2 op n k = true) : goneL ds1 ds2 op n k = (numsUpto (callB ⟨op, n, k⟩) 8).filter fun x => goneT ds2 ds1 x.toNat := by
  unfold goneL
  rw [if_pos h]
  refine List.filter_congr fun x hx => ?_
  obtain ⟨hv, d, hd⟩ := called_there (goneOk_fit h).2 x hx
  exact (goneT_at hv hd).symm

set_option maxHeartbeats 4000000 in
theorem implGone_any (ds1 : List De) (A1 : Option Addr) (c1 : Nat) (ds2 : List De) (A2 : Option Addr) (c2 : Nat) (op n : Int) (k : Fo) (A : Option Addr) (c : Nat) (L1 B1 L2 B2 L B : Nat) (w : World) (hd1 : LiesD w L1 B1 A1 ds1) (hB1 : B1 ≤ w.heap.size) (_ha1 : AllRows w L1 B1) (hd2 : LiesD w L2 B2 A2 ds2) (hB2 : B2 ≤ w.heap.size) (_ha2 : AllRows w L2 B2) (hl : Lies w L B A 0 k) (hB : B ≤ w.heap.size) (_ha : AllRows w L B) (hz1 : sizeD ds1 ≤ 1048576) (hz2 : sizeD ds2 ≤ 1048576) (hk1 : k.len ≤ c) (hk2 : c ≤ maxLen) (hsz : k.size ≤ 1048576) :
    Calls Try.prog 15 #[.slice A1 ds1.length c1, .slice A2 ds2.length c2, .agg #[.int .i64 op, .int .i64 n, .slice A k.len c]] w (ListPost (goneL ds1 ds2 op n k) w) := by
  obtain ⟨hb0, hr0⟩ := one_box w 34 #[Value.int IntKind.i64 op, Value.int IntKind.i64 n, Value.slice A k.len c]
  have HF := Lib.hid (isFrom_any ds1 A1 c1 ds2 A2 c2 op n k A c L1 B1 L2 B2 L B _ (hd1.below (hb0.mono hB1)) (Nat.le_trans hB1 hb0.size) (hd2.below (hb0.mono hB2)) (Nat.le_trans hB2 hb0.size) (hl.below (hb0.mono hB)) (Nat.le_trans hB hb0.size) hz1 hz2 hk1 hk2 hsz)
  have HB := Lib.hid hb0
  have HR := Lib.hid hr0
  have HD1 := Lib.hid hd1
  have HD2 := Lib.hid hd2
  have HL := Lib.hid hl
  have q0 := hr0.cell (i := 0) rfl
  have q1 := hr0.cell (i := 1) rfl
  have q2 := hr0.cell (i := 2) rfl
  clear hb0 hr0 hd1 hd2 hl
  cases hz : goneOk ds1 ds2 op n k with
  | false =>
    rw [hz] at HF
    have HZ := Lib.hid (show goneL ds1 ds2 op n k = [] by unfold goneL; rw [hz]; rfl)
    clear hz
    go_enter Try.func15, Try.ntmps15
    go_wp2_with fail
    refine HF.out.mono ?_
    rintro e w1 ⟨rfl, hb1⟩
    have HB1 := Lib.hid (HB.out.trans (hb1.mono HB.out.size))
    clear hb1 HF HB HR q0 q1 q2
    go_wp2_with fail
    go_ret
    exact ⟨_, rfl, by rw [HZ.out]; exact World.ownsRow_nil _ _ _ _, HB1.out⟩
  | true =>
    rw [hz] at HF
    have HZ := Lib.hid (goneL_is hz)
    have HOK := Lib.hid (goneOk_fit hz)
    clear hz
    obtain ⟨T, hT⟩ : ∃ T, T = goneT ds2 ds1 := ⟨_, rfl⟩
    rw [← hT] at HZ
    have HT := Lib.hid hT
    clear hT
    have hfd : ∀ w : World, (Instr.field 70 (.agg #[.slice A1 ds1.length c1, .slice A2 ds2.length c2, .bool (T 0), .bool (T 1), .bool (T 2), .bool (T 3), .bool (T 4), .bool (T 5), .bool (T 6), .bool (T 7)]) 2).run Try.prog w = .ok (.agg #[.bool (T 0), .bool (T 1), .bool (T 2), .bool (T 3), .bool (T 4), .bool (T 5), .bool (T 6), .bool (T 7)]) w := fun _ => by kernel_rfl
    go_enter Try.func15, Try.ntmps15
    go_wp2_with fail
    refine HF.out.mono ?_
    rintro e w1 ⟨rfl, hb1⟩
    have HB1 := Lib.hid (HB.out.trans (hb1.mono HB.out.size))
    have HR1 := Lib.hid (HR.out.below hb1 HR.out.size)
    clear hb1 HF HB HR q0 q1 q2
    have HS := Lib.hid (show ∀ V, Below w1.heap.size w1 V → V.cell? ⟨w.heap.size, 0, none⟩ = some (.int .i64 op) ∧ V.cell? ⟨w.heap.size, 1, none⟩ = some (.int .i64 n) ∧ V.cell? ⟨w.heap.size, 2, none⟩ = some (.slice A k.len c) from fun V hV => by
      have h := HR1.out.below hV HR1.out.size
      exact ⟨h.cell rfl, h.cell rfl, h.cell rfl⟩)
    have hbd : Below w1.heap.size w1 w1.drew := (Below.refl _ _).drew
    have s0 := HS.out _ hbd
    have HBD := Lib.hid (HB1.out.trans (hbd.mono HB1.out.size))
    have HBE := Lib.hid hbd
    have HCR := Lib.hid (reportGone_any ds1 A1 c1 ds2 A2 c2 L1 B1 L2 B2 w1.drew (HD1.out.below (HBD.out.mono hB1)) (Nat.le_trans hB1 HBD.out.size) (HD2.out.below (HBD.out.mono hB2)) (Nat.le_trans hB2 HBD.out.size) hz1 hz2 (fun d hd => (libOk_named HOK.out.1 d hd).1))
    rw [← HT.out] at HCR
    have HSM := Lib.hid (callsFit_small HOK.out.2)
    clear hbd
    unfold cells8 at HCR
    go_upto_region 3 with fail
    go_region_held3 (fun w' => w'.cell? ⟨w.heap.size, 0, none⟩ = some (.int .i64 op) ∧ w'.cell? ⟨w.heap.size, 1, none⟩ = some (.int .i64 n) ∧ w'.cell? ⟨w.heap.size, 2, none⟩ = some (.slice A k.len c))
      (first | with_reducible exact s0 | with_reducible exact s2 | with_reducible exact s3 | fail)
      (first
        | (go_at_call 50
           refine (calledIn_any T op n k A c L B w2 (HL.out.below (HB2.out.mono hB)) (Nat.le_trans hB HB2.out.size) (RowsIf.small HSM.out) hk1 hk2 hsz).mono ?_
           rintro e w3 ⟨v3, rfl, ho3, hb3⟩
           have HB3 := Lib.hid (HB2.out.trans (hb3.mono HB2.out.size))
           have HO3 := Lib.hid (own_less ho3 HB2.out.size)
           have s3 := HS.out _ (HE2.out.trans (hb3.mono HE2.out.size))
           clear hb3 ho3)
        | (go_at_call 49
           refine HCR.out.mono ?_
           rintro e w2 ⟨rfl, hb2⟩
           have HB2 := Lib.hid (HBD.out.trans (hb2.mono HBD.out.size))
           have HE2 := Lib.hid (HBE.out.trans (hb2.mono HBE.out.size))
           have s2 := HS.out _ HE2.out
           clear hb2)
        | fail)
    all_goals
      go_wp2_with fail
      go_ret
      exact ⟨_, rfl, by rw [HZ.out]; exact HO3.out, HB3.out⟩
end Go.Proofs.Ytgmhpfdhkcgbfaa
