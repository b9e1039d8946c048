/-
  spec.l5First.
-/
import Derived.Test.YtiifgkommaeklaaPureS
namespace Go.Proofs.Ytiifgkommaeklaa
open Go.RowKit
set_option maxRecDepth 100000

/-- What l5First has to do at smaller trees. -/
def FstOk (ds : List De) (DA : Option Addr) (DC : Nat) (v : Int) (s : Nat) : Prop := ∀ (op n : Int) (k : Fo) (A : Option Addr) (c : Nat) (w : World), k.size < s → wellN op n k = true → LiesD w 0 w.heap.size DA ds → Lies w 0 w.heap.size A 0 k → k.size ≤ 1048576 →
    Calls Try.prog 29 #[.slice DA ds.length DC, .agg #[.int .i64 op, .int .i64 n, .slice A k.len c], .int .i64 v] w (Gives (.int .i64 (ansS ds v op n k : Nat)) w)

theorem fo_nil0 {k : Fo} (h : k.len = 0) : k = .nil := by
  cases k with
  | nil => rfl
  | cons _ _ _ _ => simp [Fo.len] at h
/-- The cells of a Kid. -/
theorem kid_cellsS {w : World} {L B : Nat} {A : Option Addr} {k : Fo} {i : Nat} {op n : Int} {k' r : Fo} (hl : Lies w L B A 0 k) (e : k.drop i = .cons op n k' r) : ∃ b o A' c', A = some ⟨b, o, none⟩ ∧ w.cell? ⟨b, o + i * 3, none⟩ = some (.int .i64 op) ∧ w.cell? ⟨b, o + i * 3 + 1, none⟩ = some (.int .i64 n) ∧
    w.cell? ⟨b, o + i * 3 + 2, none⟩ = some (.slice A' k'.len c') ∧ k'.len ≤ c' ∧ c' ≤ maxLen ∧ Lies w L B A' 0 k' ∧ L ≤ b ∧ b < B := by
  have h := hl.at_ i
  rw [Nat.zero_add, e] at h
  obtain ⟨⟨b, o, A', c', hA, h1, h2, _, _, g1, g2, g3, g4, g5, g6⟩, _⟩ := h
  exact ⟨b, o, A', c', hA, g1, g2, g3, g4, g5, g6, h1, h2⟩

theorem kid_0 {w : World} {L B : Nat} {b o : Nat} {k : Fo} {op n : Int} {k' r : Fo} (hl : Lies w L B (some ⟨b, o, none⟩) 0 k) (e : k.drop 0 = .cons op n k' r) : ∃ A' c', w.cell? ⟨b, o, none⟩ = some (.int .i64 op) ∧ w.cell? ⟨b, o + 1, none⟩ = some (.int .i64 n) ∧
    w.cell? ⟨b, o + 2, none⟩ = some (.slice A' k'.len c') ∧ k'.len ≤ c' ∧ c' ≤ maxLen ∧ Lies w L B A' 0 k' := by
  obtain ⟨b', o', A', c', hA, g1, g2, g3, g4, g5, g6, _, _⟩ := kid_cellsS hl e
  obtain ⟨rfl, rfl⟩ : b = b' ∧ o = o' := by simpa using hA
  exact ⟨A', c', by simpa using g1, by simpa using g2, by simpa using g3, g4, g5, g6⟩
theorem kid_1 {w : World} {L B : Nat} {b o : Nat} {k : Fo} {op n : Int} {k' r : Fo} (hl : Lies w L B (some ⟨b, o, none⟩) 0 k) (e : k.drop 1 = .cons op n k' r) : ∃ A' c', w.cell? ⟨b, o + 3, none⟩ = some (.int .i64 op) ∧ w.cell? ⟨b, o + 4, none⟩ = some (.int .i64 n) ∧
    w.cell? ⟨b, o + 5, none⟩ = some (.slice A' k'.len c') ∧ k'.len ≤ c' ∧ c' ≤ maxLen ∧ Lies w L B A' 0 k' := by
  obtain ⟨b', o', A', c', hA, g1, g2, g3, g4, g5, g6, _, _⟩ := kid_cellsS hl e
  obtain ⟨rfl, rfl⟩ : b = b' ∧ o = o' := by simpa using hA
  exact ⟨A', c', by simpa using g1, by simpa using g2, by simpa using g3, g4, g5, g6⟩
theorem kid_2 {w : World} {L B : Nat} {b o : Nat} {k : Fo} {op n : Int} {k' r : Fo} (hl : Lies w L B (some ⟨b, o, none⟩) 0 k) (e : k.drop 2 = .cons op n k' r) : ∃ A' c', w.cell? ⟨b, o + 6, none⟩ = some (.int .i64 op) ∧ w.cell? ⟨b, o + 7, none⟩ = some (.int .i64 n) ∧
    w.cell? ⟨b, o + 8, none⟩ = some (.slice A' k'.len c') ∧ k'.len ≤ c' ∧ c' ≤ maxLen ∧ Lies w L B A' 0 k' := by
  obtain ⟨b', o', A', c', hA, g1, g2, g3, g4, g5, g6, _, _⟩ := kid_cellsS hl e
  obtain ⟨rfl, rfl⟩ : b = b' ∧ o = o' := by simpa using hA
  exact ⟨A', c', by simpa using g1, by simpa using g2, by simpa using g3, g4, g5, g6⟩
set_option maxHeartbeats 4000000 in
theorem first_if (ds : List De) (DA : Option Addr) (DC : Nat) (v n : Int) (k : Fo) (A : Option Addr) (c : Nat) (w : World) (hd : LiesD w 0 w.heap.size DA ds) (hl : Lies w 0 w.heap.size A 0 k) (hsz : k.size ≤ 1048576) (hw : wellN 6 n k = true)
    (hfst : FstOk ds DA DC v k.size) : Calls Try.prog 29 #[.slice DA ds.length DC, .agg #[.int .i64 6, .int .i64 n, .slice A k.len c], .int .i64 v] w (Gives (.int .i64 (ansS ds v 6 n k : Nat)) w) := by
  have hlen := wellN_if hw
  obtain ⟨o0, m0, k0, e0, s0, _⟩ := Fo.drop_of_lt k 0 (by omega)
  have wl0 := well_kid (wellN_kids hw) e0
  obtain ⟨o1, m1, k1, e1, s1, _⟩ := Fo.drop_of_lt k 1 (by omega)
  have wl1 := well_kid (wellN_kids hw) e1
  obtain ⟨o2, m2, k2, e2, s2, _⟩ := Fo.drop_of_lt k 2 (by omega)
  have wl2 := well_kid (wellN_kids hw) e2
  obtain ⟨b, o, _, _, hA, _⟩ := kid_cellsS hl e0
  subst hA
  have HANS := Lib.hid (ans_if (pq := fun n => quietS ds n && endingS ds n) (pp := pureS ds) (v := v) (n := n) e0 e1 e2)
  obtain ⟨hb0, hr0⟩ := one_box w 26 #[.int .i64 6, .int .i64 n, .slice (some ⟨b, o, none⟩) 3 c]
  have q0 := hr0.cell (i := 0) rfl
  have q1 := hr0.cell (i := 1) rfl
  have HB := Lib.hid hb0
  have HR := Lib.hid hr0
  have HL := Lib.hid hl
  have HD := Lib.hid hd
  clear hb0 hr0 hl hd
  rw [hlen]
  have r2 := HR.out.cell (i := 2) rfl
  obtain ⟨A0, c0, k0a, k0b, k0c, h0a, h0b, l0⟩ := kid_0 (HL.out.up HB.out) e0
  have HC := Lib.hid (hfst o0 m0 k0 A0 c0 _ s0 wl0 (HD.out.up HB.out) l0 (by omega))
  generalize ha0 : ansS ds v o0 m0 k0 = a0 at HC
  clear h0a h0b l0
  go_enter Try.func29, Try.ntmps29
  go_wp2_with fail
  with_reducible refine HC.out.mono ?_
  rintro e w2 ⟨rfl, hb⟩
  have HB' := Lib.hid (HB.out.trans (hb.mono HB.out.size))
  have HR' := Lib.hid (HR.out.below hb HR.out.size)
  clear hb HC HB HR r2 k0a k0b k0c
  have HB := HB'
  have HR := HR'
  clear HB' HR'
  clear q0 q1
  by_cases hz : a0 = 0
  · have t1 : ((a0 : Int) != 0) = false := by simp [hz]
    have r2 := HR.out.cell (i := 2) rfl
    obtain ⟨A1, c1, k1a, k1b, k1c, h1a, h1b, l1⟩ := kid_1 (HL.out.up HB.out) e1
    have HC := Lib.hid (hfst o1 m1 k1 A1 c1 w2 s1 wl1 (HD.out.up HB.out) l1 (by omega))
    generalize ha1 : ansS ds v o1 m1 k1 = a1 at HC
    clear h1a h1b l1
    go_wp2_with fail
    with_reducible refine HC.out.mono ?_
    rintro e w3 ⟨rfl, hb⟩
    have HB' := Lib.hid (HB.out.trans (hb.mono HB.out.size))
    have HR' := Lib.hid (HR.out.below hb HR.out.size)
    clear hb HC HB HR r2 k1a k1b k1c
    have HB := HB'
    have HR := HR'
    clear HB' HR'
    have r2 := HR.out.cell (i := 2) rfl
    obtain ⟨A2, c2, k2a, k2b, k2c, h2a, h2b, l2⟩ := kid_2 (HL.out.up HB.out) e2
    have HC := Lib.hid (hfst o2 m2 k2 A2 c2 w3 s2 wl2 (HD.out.up HB.out) l2 (by omega))
    generalize ha2 : ansS ds v o2 m2 k2 = a2 at HC
    clear h2a h2b l2
    go_wp2_with fail
    with_reducible refine HC.out.mono ?_
    rintro e w4 ⟨rfl, hb⟩
    have HB' := Lib.hid (HB.out.trans (hb.mono HB.out.size))
    have HR' := Lib.hid (HR.out.below hb HR.out.size)
    clear hb HC HB HR r2 k2a k2b k2c
    have HB := HB'
    have HR := HR'
    clear HB' HR'
    by_cases h12 : a1 = a2
    · have HF := Lib.hid (show ansS ds v 6 n k = a1 by unfold ansS; rw [HANS.out]; unfold ansS at ha0 ha1 ha2; rw [ha0, ha1, ha2, if_pos hz, if_pos h12])
      have t2 : ((a1 : Int) == (a2 : Int)) = true := by simp [h12]
      clear h12 hz HANS ha0 ha1 ha2
      go_wp2
      go_ret
      exact ⟨by rw [HF.out]; rfl, HB.out⟩
    · have HF := Lib.hid (show ansS ds v 6 n k = 2 by unfold ansS; rw [HANS.out]; unfold ansS at ha0 ha1 ha2; rw [ha0, ha1, ha2, if_pos hz, if_neg h12])
      have t2 : ((a1 : Int) == (a2 : Int)) = false := by simp; omega
      clear h12 hz HANS ha0 ha1 ha2
      go_wp2
      go_ret
      exact ⟨by rw [HF.out]; rfl, HB.out⟩
  · have HF := Lib.hid (show ansS ds v 6 n k = a0 by unfold ansS; rw [HANS.out]; unfold ansS at ha0; rw [ha0, if_neg hz])
    have t1 : ((a0 : Int) != 0) = true := by simp; omega
    clear hz HANS ha0
    go_wp2
    go_ret
    exact ⟨by rw [HF.out]; rfl, HB.out⟩
theorem ans_let2 {pq : Int → Bool} {pp : Int → Int → Fo → Bool} {v n : Int} {k : Fo} {o0 m0 o1 m1 : Int} {k0 k1 : Fo} (hl : k.len = 2) (hv : n ≠ v) (e0 : k.drop 0 = .cons o0 m0 k0 (k.drop 1)) (e1 : k.drop 1 = .cons o1 m1 k1 (k.drop 2)) :
    ans pq pp v 7 n k = if ans pq pp v o0 m0 k0 = 0 then ans pq pp v o1 m1 k1 else ans pq pp v o0 m0 k0 := by
  rw [ans_other (by decide) (fun h => hv h.2)]
  have h0 : firstNZ (ansL pq pp v k) = if ans pq pp v o0 m0 k0 = 0 then firstNZ (ansL pq pp v (k.drop 1)) else ans pq pp v o0 m0 k0 := by
    rw [← firstNZ_cons e0, Fo.drop_zero]
  have h1 : firstNZ (ansL pq pp v (k.drop 1)) = ans pq pp v o1 m1 k1 := by
    have h2 : k.drop 2 = .nil := by rw [← hl]; exact Fo.drop_len k
    rw [firstNZ_cons e1, h2, firstNZ_nil]
    split
    · rename_i h; exact h.symm
    · rfl
  rw [h0, h1]
  have hb : behindN pq v 7 n = 0 := by simp [behindN]
  rw [hb]
  by_cases ha : ans pq pp v o0 m0 k0 = 0
  · rw [if_pos ha]
    split
    · rename_i h; exact h.symm
    · rfl
  · rw [if_neg ha, if_neg ha]

set_option maxHeartbeats 4000000 in
theorem first_let (ds : List De) (DA : Option Addr) (DC : Nat) (v n : Int) (k : Fo) (A : Option Addr) (c : Nat) (w : World) (hd : LiesD w 0 w.heap.size DA ds) (hl : Lies w 0 w.heap.size A 0 k) (hdz : sizeD ds ≤ 1048576) (hnm : ∀ d ∈ ds, inVar d.nm = true) (hsz : k.size ≤ 1048576) (hw : wellN 7 n k = true)
    (hfst : FstOk ds DA DC v k.size) : Calls Try.prog 29 #[.slice DA ds.length DC, .agg #[.int .i64 7, .int .i64 n, .slice A k.len c], .int .i64 v] w (Gives (.int .i64 (ansS ds v 7 n k : Nat)) w) := by
  have hlen := wellN_let hw
  obtain ⟨o0, m0, k0, e0, s0, _⟩ := Fo.drop_of_lt k 0 (by omega)
  have wl0 := well_kid (wellN_kids hw) e0
  obtain ⟨o1, m1, k1, e1, s1, _⟩ := Fo.drop_of_lt k 1 (by omega)
  have wl1 := well_kid (wellN_kids hw) e1
  obtain ⟨b, o, _, _, hA, _⟩ := kid_cellsS hl e0
  subst hA
  have HANS := Lib.hid (show n = v → ans (fun n => quietS ds n && endingS ds n) (pureS ds) v 7 n k = if ans (fun n => quietS ds n && endingS ds n) (pureS ds) v o0 m0 k0 = 0 then (if pureS ds o1 m1 k1 = true then 0 else 2) else ans (fun n => quietS ds n && endingS ds n) (pureS ds) v o0 m0 k0 from fun h => by subst h; exact ans_let e0 e1)
  have HANS2 := Lib.hid (fun (h : n ≠ v) => ans_let2 (pq := fun n => quietS ds n && endingS ds n) (pp := pureS ds) (v := v) hlen h e0 e1)
  obtain ⟨hb0, hr0⟩ := one_box w 26 #[.int .i64 7, .int .i64 n, .slice (some ⟨b, o, none⟩) 2 c]
  have q0 := hr0.cell (i := 0) rfl
  have q1 := hr0.cell (i := 1) rfl
  have HB := Lib.hid hb0
  have HR := Lib.hid hr0
  have HL := Lib.hid hl
  have HD := Lib.hid hd
  clear hb0 hr0 hl hd
  rw [hlen]
  have r2 := HR.out.cell (i := 2) rfl
  obtain ⟨A0, c0, k0a, k0b, k0c, h0a, h0b, l0⟩ := kid_0 (HL.out.up HB.out) e0
  have HC := Lib.hid (hfst o0 m0 k0 A0 c0 _ s0 wl0 (HD.out.up HB.out) l0 (by omega))
  generalize ha0 : ansS ds v o0 m0 k0 = a0 at HC
  clear h0a h0b l0
  go_enter Try.func29, Try.ntmps29
  go_wp2_with fail
  with_reducible refine HC.out.mono ?_
  rintro e w2 ⟨rfl, hb⟩
  have HB' := Lib.hid (HB.out.trans (hb.mono HB.out.size))
  have HR' := Lib.hid (HR.out.below hb HR.out.size)
  clear hb HC HB HR r2 k0a k0b k0c
  have HB := HB'
  have HR := HR'
  clear HB' HR'
  clear q0 q1
  by_cases hz : a0 = 0
  · have t1 : ((a0 : Int) != 0) = false := by simp [hz]
    have q1 := HR.out.cell (i := 1) rfl
    by_cases hv : n = v
    · subst hv
      have HN := Lib.hid (HANS.out rfl)
      clear HANS HANS2
      have r2 := HR.out.cell (i := 2) rfl
      obtain ⟨A1, c1, k1a, k1b, k1c, h1a, h1b, l1⟩ := kid_1 (HL.out.up HB.out) e1
      have HC := Lib.hid (l5Pure_any ds (DA) DC hdz hnm k1.size o1 m1 k1 A1 c1 w2 rfl (HD.out.up HB.out) l1 (by omega))
      generalize hp : pureS ds o1 m1 k1 = pz at HC
      clear h1a h1b l1
      go_wp2_with fail
      with_reducible refine HC.out.mono ?_
      rintro e w3 ⟨rfl, hb⟩
      have HB' := Lib.hid (HB.out.trans (hb.mono HB.out.size))
      clear hb HC HB HR r2 k1a k1b k1c q1
      have HB := HB'
      clear HB'
      cases pz with
      | true =>
        have HF := Lib.hid (show ansS ds n 7 n k = 0 by unfold ansS; rw [HN.out]; unfold ansS at ha0; rw [ha0, if_pos hz, hp]; rfl)
        clear hz HN ha0 hp
        go_wp2
        go_ret
        exact ⟨by rw [HF.out]; rfl, HB.out⟩
      | false =>
        have HF := Lib.hid (show ansS ds n 7 n k = 2 by unfold ansS; rw [HN.out]; unfold ansS at ha0; rw [ha0, if_pos hz, hp]; rfl)
        clear hz HN ha0 hp
        go_wp2
        go_ret
        exact ⟨by rw [HF.out]; rfl, HB.out⟩
    · have tv : (n == v) = false := by simpa using hv
      have r2 := HR.out.cell (i := 2) rfl
      obtain ⟨A1, c1, k1a, k1b, k1c, h1a, h1b, l1⟩ := kid_1 (HL.out.up HB.out) e1
      have HC := Lib.hid (hfst o1 m1 k1 A1 c1 w2 s1 wl1 (HD.out.up HB.out) l1 (by omega))
      generalize ha1 : ansS ds v o1 m1 k1 = a1 at HC
      clear h1a h1b l1
      go_wp2_with fail
      with_reducible refine HC.out.mono ?_
      rintro e w3 ⟨rfl, hb⟩
      have HB' := Lib.hid (HB.out.trans (hb.mono HB.out.size))
      have HR' := Lib.hid (HR.out.below hb HR.out.size)
      clear hb HC HB HR r2 k1a k1b k1c
      have HB := HB'
      have HR := HR'
      clear HB' HR'
      have HF := Lib.hid (show ansS ds v 7 n k = a1 by unfold ansS; rw [HANS2.out hv]; unfold ansS at ha0 ha1; rw [ha0, ha1, if_pos hz])
      clear hz HANS HANS2 ha0 ha1
      go_wp2
      go_ret
      exact ⟨by rw [HF.out]; rfl, HB.out⟩
  · have HF := Lib.hid (show ansS ds v 7 n k = a0 by
      by_cases hv : n = v
      · subst hv; unfold ansS; rw [HANS.out rfl]; unfold ansS at ha0; rw [ha0, if_neg hz]
      · unfold ansS; rw [HANS2.out hv]; unfold ansS at ha0; rw [ha0, if_neg hz])
    have t1 : ((a0 : Int) != 0) = true := by simp; omega
    clear hz HANS HANS2 ha0
    go_wp2
    go_ret
    exact ⟨by rw [HF.out]; rfl, HB.out⟩
set_option maxHeartbeats 4000000 in
theorem first_var (ds : List De) (DA : Option Addr) (DC : Nat) (v n : Int) (k : Fo) (A : Option Addr) (c : Nat) (w : World) (hw : wellN 2 n k = true)
    : Calls Try.prog 29 #[.slice DA ds.length DC, .agg #[.int .i64 2, .int .i64 n, .slice A k.len c], .int .i64 v] w (Gives (.int .i64 (ansS ds v 2 n k : Nat)) w) := by
  have hk := fo_nil0 (wellN_var hw)
  obtain ⟨hb0, hr0⟩ := one_box w 26 #[.int .i64 2, .int .i64 n, .slice A k.len c]
  have q0 := hr0.cell (i := 0) rfl
  have q1 := hr0.cell (i := 1) rfl
  have HB := Lib.hid hb0
  clear hb0 hr0
  by_cases hv : n = v
  · have HF := Lib.hid (show ansS ds v 2 n k = 1 by subst hv; subst hk; unfold ansS; rw [ans_other (by decide) (fun h => absurd h.1 (by decide)), firstNZ_nil, if_pos rfl]; simp [behindN])
    have tv : (n == v) = true := by simpa using hv
    clear hk hv
    go_enter Try.func29, Try.ntmps29
    go_wp2
    go_ret
    exact ⟨by rw [HF.out]; rfl, HB.out⟩
  · have HF := Lib.hid (show ansS ds v 2 n k = 0 by subst hk; unfold ansS; rw [ans_other (by decide) (fun h => absurd h.1 (by decide)), firstNZ_nil, if_pos rfl]; simp [behindN, hv])
    have tv : (n == v) = false := by simpa using hv
    clear hk hv
    go_enter Try.func29, Try.ntmps29
    go_wp2
    go_ret
    exact ⟨by rw [HF.out]; rfl, HB.out⟩
set_option maxHeartbeats 4000000 in
theorem first_other (ds : List De) (DA : Option Addr) (DC : Nat) (v op n : Int) (k : Fo) (A : Option Addr) (c : Nat) (w : World) (hd : LiesD w 0 w.heap.size DA ds) (hl : Lies w 0 w.heap.size A 0 k) (hdz : sizeD ds ≤ 1048576) (hnm : ∀ d ∈ ds, inVar d.nm = true) (hsz : k.size ≤ 1048576) (hw : wellN op n k = true) (h2 : op ≠ 2) (h6 : op ≠ 6) (h7 : op ≠ 7)
    (hfst : FstOk ds DA DC v k.size) : Calls Try.prog 29 #[.slice DA ds.length DC, .agg #[.int .i64 op, .int .i64 n, .slice A k.len c], .int .i64 v] w (Gives (.int .i64 (ansS ds v op n k : Nat)) w) := by
  have hlen := Fo.len_le_size k
  obtain ⟨hb0, hr0⟩ := one_box w 26 #[.int .i64 op, .int .i64 n, .slice A k.len c]
  have q0 := hr0.cell (i := 0) rfl
  have q1 := hr0.cell (i := 1) rfl
  have HB := Lib.hid hb0
  have HR := Lib.hid hr0
  have HL := Lib.hid hl
  have HD := Lib.hid hd
  clear hb0 hr0 hl hd
  have t2 : (op == 2) = false := by simpa using h2
  have t6 : (op == 6) = false := by simpa using h6
  have t7 : (op == 7) = false := by simpa using h7
  have HO := Lib.hid (ans_other (pq := fun n => quietS ds n && endingS ds n) (pp := pureS ds) (v := v) (k := k) (n := n) h6 (fun h => h7 h.1))
  have H2 := Lib.hid h2
  clear h6 h7 h2
  go_enter Try.func29, Try.ntmps29
  go_wp2_with fail
  clear q0 q1
  go_loopw [11] (fun i wr => ∃ (j : Nat), j ≤ k.len ∧ i = .int .i64 j ∧ Hid (firstNZ (ansL (fun n => quietS ds n && endingS ds n) (pureS ds) v k) = firstNZ (ansL (fun n => quietS ds n && endingS ds n) (pureS ds) v (k.drop j))) ∧ Row wr w.heap.size 26 #[Value.int .i64 op, Value.int .i64 n, Value.slice A k.len c] ∧ Below w.heap.size w wr)
    (fun i _ => k.len - (intOf i).toNat)
  case atStart => exact ⟨0, Nat.zero_le _, rfl, Lib.hid (by rw [Fo.drop_zero]), HR.out, HB.out⟩
  case round =>
    clear HR HB
    obtain ⟨j, hj, rfl, HF, hr, hb⟩ := hrel
    have r2 := hr.cell (i := 2) rfl
    by_cases hlt : j < k.len
    · obtain ⟨o1, m1, k1, e1, s1, _⟩ := Fo.drop_of_lt k j hlt
      have wl := well_kid (wellN_kids hw) e1
      obtain ⟨b, o, A1, c1, hA, g1, g2, g3, h1, h2, l1, _, _⟩ := kid_cellsS (HL.out.up hb) e1
      subst hA
      have HE := Lib.hid (HF.out.trans (firstNZ_cons e1))
      have HC := Lib.hid (hfst o1 m1 k1 A1 c1 wr s1 wl (HD.out.up hb) l1 (by omega))
      generalize ha : ansS ds v o1 m1 k1 = a at HC
      have ha2 : ans (fun n => quietS ds n && endingS ds n) (pureS ds) v o1 m1 k1 = a := ha
      rw [ha2] at HE
      have HR := Lib.hid hr
      have HB := Lib.hid hb
      clear ha ha2 wl s1 e1 l1 hr hb HF h1 h2
      go_wp2_with fail
      with_reducible refine HC.out.mono ?_
      rintro e w2 ⟨rfl, hb2⟩
      have HB2 := Lib.hid (HB.out.trans (hb2.mono HB.out.size))
      have HR2 := Lib.hid (HR.out.below hb2 HR.out.size)
      clear hb2 HC HR HB g1 g2 g3 r2
      by_cases hz : a = 0
      · subst hz
        have HE2 := Lib.hid (HE.out.trans (if_pos rfl))
        clear HE
        go_wp2
        go_roundw
        case rel => exact ⟨j + 1, hlt, by go_num, HE2, HR2.out, HB2.out⟩
        case measure => simp [intOf]; omega
      · have HFA := Lib.hid (show ansS ds v op n k = a by unfold ansS; rw [HO.out, HE.out, if_neg hz, if_neg hz])
        have t1 : ((a : Int) != 0) = true := by simp; omega
        clear hz HE
        go_wp2
        go_ret
        exact ⟨by rw [HFA.out]; rfl, HB2.out⟩
    · have e9 : j = k.len := by omega
      have HFA := Lib.hid (show ansS ds v op n k = behindN (fun n => quietS ds n && endingS ds n) v op n by
        have h0 := HF.out
        rw [e9, Fo.drop_len] at h0
        unfold ansS
        rw [HO.out, h0]
        rfl)
      have y0 := hr.cell (i := 0) rfl
      have y1 := hr.cell (i := 1) rfl
      have HR := Lib.hid hr
      have HB := Lib.hid hb
      clear HF hr hb hfst HL
      by_cases h9 : op = 9
      · have HFB := Lib.hid (show ansS ds v op n k = 2 by rw [HFA.out, h9]; simp [behindN])
        have t9 : (op == 9) = true := by simpa using h9
        clear h9 HFA
        go_wp2
        go_ret
        exact ⟨by rw [HFB.out]; rfl, HB.out⟩
      · have t9 : (op == 9) = false := by simpa using h9
        by_cases h3 : op = 3
        · have t3 : (op == 3) = true := by simpa using h3
          have HQ := Lib.hid (l5Quiet_any ds DA DC n wr (HD.out.up HB.out) hdz hnm)
          cases hq : quietS ds n with
          | false =>
            rw [hq] at HQ
            have HFB := Lib.hid (show ansS ds v op n k = 2 by rw [HFA.out, h3]; simp [behindN, hq])
            clear h9 h3 hq HFA
            go_wp2_with fail
            with_reducible refine HQ.out.mono ?_
            rintro e w2 ⟨rfl, hb2⟩
            have HB2 := Lib.hid (HB.out.trans (hb2.mono HB.out.size))
            clear hb2 HQ HB HR y0 y1 r2
            go_wp2
            go_ret
            exact ⟨by rw [HFB.out]; rfl, HB2.out⟩
          | true =>
            rw [hq] at HQ
            have HE := Lib.hid (fun W (hb : Below w.heap.size w W) => l5Ending_any ds DA DC n W (HD.out.up hb) hdz hnm)
            generalize he : endingS ds n = ez at HE
            have HFA2 := Lib.hid (show ansS ds v op n k = if ez = true then 0 else 2 by rw [HFA.out, h3]; cases ez <;> simp [behindN, hq, he])
            clear h9 h3 hq he HFA
            go_wp2_with fail
            with_reducible refine HQ.out.mono ?_
            rintro e w2 ⟨rfl, hb2⟩
            have HB2 := Lib.hid (HB.out.trans (hb2.mono HB.out.size))
            have HR2 := Lib.hid (HR.out.below hb2 HR.out.size)
            have z1 := HR2.out.cell (i := 1) rfl
            clear hb2 HQ HB HR y0 y1 r2
            go_wp2_with fail
            with_reducible refine (HE.out w2 HB2.out).mono ?_
            rintro e w3 ⟨rfl, hb3⟩
            have HB3 := Lib.hid (HB2.out.trans (hb3.mono HB2.out.size))
            clear hb3 HE HB2 HR2 z1
            cases ez with
            | true =>
              go_wp2
              go_ret
              exact ⟨by rw [HFA2.out]; rfl, HB3.out⟩
            | false =>
              go_wp2
              go_ret
              exact ⟨by rw [HFA2.out]; rfl, HB3.out⟩
        · have t3 : (op == 3) = false := by simpa using h3
          have HFB := Lib.hid (show ansS ds v op n k = 0 by rw [HFA.out]; simp [behindN, H2.out, h9, h3])
          clear h9 h3 HFA
          go_wp2
          go_ret
          exact ⟨by rw [HFB.out]; rfl, HB.out⟩

theorem l5First_any (ds : List De) (DA : Option Addr) (DC : Nat) (v : Int) (hdz : sizeD ds ≤ 1048576) (hnm : ∀ d ∈ ds, inVar d.nm = true) (m : Nat) : FstOk ds DA DC v m := by
  induction m with
  | zero => intro op n k A c w hs; omega
  | succ m ih =>
    intro op n k A c w hs hw hd hl hsz
    have hfst : FstOk ds DA DC v k.size := fun op n k' A c w h1 h2 h3 h4 h5 => ih op n k' A c w (by omega) h2 h3 h4 h5
    by_cases h2 : op = 2
    · subst h2
      exact first_var ds DA DC v n k A c w hw
    by_cases h6 : op = 6
    · subst h6
      exact first_if ds DA DC v n k A c w hd hl hsz hw hfst
    by_cases h7 : op = 7
    · subst h7
      exact first_let ds DA DC v n k A c w hd hl hdz hnm hsz hw hfst
    exact first_other ds DA DC v op n k A c w hd hl hdz hnm hsz hw h2 h6 h7 hfst
end Go.Proofs.Ytiifgkommaeklaa
