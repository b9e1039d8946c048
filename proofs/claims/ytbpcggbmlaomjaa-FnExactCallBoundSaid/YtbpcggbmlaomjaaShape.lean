/-
  l1Shape: an expression is well-formed in a scope, down to a depth.
-/
import Derived.Test.YtbpcggbmlaomjaaScope
namespace Go.Proofs.Ytbpcggbmlaomjaa
open Go.RowKit
set_option maxRecDepth 100000

/-- The scope of the operand i of a node. -/
def inner (op n : Int) (i : Nat) (S : Nat → Bool) : Nat → Bool := if op = 7 ∧ i = 1 then setS S n.toNat else S
/-- The nodes of a list, from the operand i of a parent on, are well-formed down to the depth d. -/
def shapeF (op n : Int) : Nat → (Nat → Bool) → Nat → Fo → Bool
  | _, _, _, .nil => true
  | i, S, d, .cons o m k r =>
    (decide (1 ≤ d) && kidsOk o k.len && ownOk o m (inner op n i S) && shapeF o m 0 (inner op n i S) (d - 1) k) && shapeF op n (i + 1) S d r
/-- A node is well-formed down to the depth d. -/
def nodeShape (op n : Int) (k : Fo) (S : Nat → Bool) (d : Nat) : Bool := decide (1 ≤ d) && kidsOk op k.len && ownOk op n S && shapeF op n 0 S (d - 1) k

set_option maxHeartbeats 800000 in
theorem l1Shape_any (s : Nat) : ∀ (op n : Int) (k : Fo) (A : Option Addr) (c : Nat) (S : Nat → Bool) (SA : Option Addr) (Sc d : Nat) (w : World), k.size = s → Lies w 0 w.heap.size A 0 k → k.len ≤ maxLen → LiesB w 0 w.heap.size SA S → d ≤ 14 →
    Calls Try.prog 87 #[.agg #[.int .i64 op, .int .i64 n, .slice A k.len c], .slice SA 8 Sc, .int .i64 d] w (Gives (.bool (nodeShape op n k S d)) w) := by
  induction s using Nat.strongRecOn with
  | _ s ih =>
    intro op n k A c S SA Sc d w hs hl hlen hS hd
    unfold maxLen at hlen
    have hb0 : Below w.heap.size w (w.alloc (Obj.cells #[Value.int IntKind.i64 op, Value.int IntKind.i64 n, Value.slice A k.len c] 40)) := (Below.refl _ _).alloc (Nat.le_refl _) _
    have hr0 := Row.fresh w 40 #[Value.int IntKind.i64 op, Value.int IntKind.i64 n, Value.slice A k.len c]
    have hs0 : w.heap.size + 1 ≤ (w.alloc (Obj.cells #[Value.int IntKind.i64 op, Value.int IntKind.i64 n, Value.slice A k.len c] 40)).heap.size := by simp
    have KK := Lib.hid (l1Kids_any op k.len)
    have IH := Lib.hid ih
    clear ih
    match d, hd with
    | 0, _ =>
      go_enter Try.func87, Try.ntmps87
      go_wp2
      go_ret
      exact ⟨rfl, hb0⟩
    | d + 1, hd =>
      cases hk : kidsOk op k.len
      · have HK := Lib.hid hk
        clear hk hS
        go_enter Try.func87, Try.ntmps87
        go_wp2_with fail
        refine (KK.out _).mono ?_
        rintro e w2 ⟨rfl, hb2⟩
        rw [HK.out]
        have hb3 := hb0.trans (hb2.mono hb0.size)
        clear hb0 hb2 hr0
        go_wp2
        go_ret
        exact ⟨ret_bool (by simp [nodeShape, HK.out]), hb3⟩
      · have HK := Lib.hid hk
        clear hk
        cases ho : ownOk op n S
        · have HO := Lib.hid ho
          clear ho
          go_enter Try.func87, Try.ntmps87
          go_wp2_with fail
          refine (KK.out _).mono ?_
          rintro e w2 ⟨rfl, hb2⟩
          rw [HK.out]
          have hb3 := hb0.trans (hb2.mono hb0.size)
          have hr2 := hr0.below hb2 hs0
          have q0 := hr2.cell (i := 0) rfl
          have q1 := hr2.cell (i := 1) rfl
          have q2 := hr2.cell (i := 2) rfl
          have z2 : w.heap.size ≤ w2.heap.size := hb3.size
          clear hb0 hb2 hr0 hs0
          go_wp2_with fail
          refine (l1Own_any op n _ SA Sc S w2 ((hS.below hb3).mono_ (Nat.le_refl _) z2)).mono ?_
          rintro e w3 ⟨rfl, hb4⟩
          rw [HO.out]
          have hb5 := hb3.trans (hb4.mono z2)
          clear hb3 hb4 q0 q1 q2 hr2 z2
          go_wp2
          go_ret
          exact ⟨ret_bool (by simp [nodeShape, HO.out]), hb5⟩
        · have HO := Lib.hid ho
          clear ho
          go_enter Try.func87, Try.ntmps87
          go_wp2_with fail
          refine (KK.out _).mono ?_
          rintro e w2 ⟨rfl, hb2⟩
          rw [HK.out]
          have hb3 := hb0.trans (hb2.mono hb0.size)
          have hr2 := hr0.below hb2 hs0
          have q0 := hr2.cell (i := 0) rfl
          have q1 := hr2.cell (i := 1) rfl
          have q2 := hr2.cell (i := 2) rfl
          have z2 : w.heap.size + 1 ≤ w2.heap.size := Nat.le_trans hs0 hb2.size
          clear hb0 hb2 hr0 hs0
          go_wp2_with fail
          refine (l1Own_any op n _ SA Sc S w2 ((hS.below hb3).mono_ (Nat.le_refl _) (by omega))).mono ?_
          rintro e w3 ⟨rfl, hb4⟩
          rw [HO.out]
          have hb5 := hb3.trans (hb4.mono (by omega))
          have hr3 := hr2.below hb4 (by omega)
          have z3 : w.heap.size + 1 ≤ w3.heap.size := Nat.le_trans z2 hb4.size
          clear hb3 hb4 q0 q1 q2 hr2 z2
          go_wp2_with fail
          go_loopw [7] (fun i wr => ∃ j : Nat, j ≤ k.len ∧ i = .int .i64 j ∧ shapeF op n 0 S d k = shapeF op n j S d (k.drop j) ∧ Row wr w.heap.size 40 #[Value.int IntKind.i64 op, Value.int IntKind.i64 n, Value.slice A k.len c] ∧ w.heap.size + 1 ≤ wr.heap.size ∧ Below w.heap.size w wr)
            (fun i _ => k.len - (intOf i).toNat)
          case atStart => exact ⟨0, by omega, rfl, by rw [Fo.drop_zero], hr3, z3, hb5⟩
          case round =>
            clear hr3 z3 hb5
            obtain ⟨j, hj, rfl, hx, hrow, hsz, hb⟩ := hrel
            have q0 := hrow.cell (i := 0) rfl
            have q1 := hrow.cell (i := 1) rfl
            have q2 := hrow.cell (i := 2) rfl
            have HX := Lib.hid hx
            clear hx
            by_cases hlt : j < k.len
            · obtain ⟨op', n', k', e1, e2, e3⟩ := Fo.drop_of_lt k j hlt
              have hj' := (hl.below hb).at_ j
              rw [Nat.zero_add, e1] at hj'
              obtain ⟨⟨b, o, A', c', hA, _, hbb, i1, i2, g1, g2, g3, h1, h2, h3⟩, _⟩ := hj'
              have hz := HX.out
              rw [e1] at hz
              simp only [shapeF] at hz
              have HZ := Lib.hid hz
              clear HX e1 e3 hz
              subst hA
              have HL3 := Lib.hid h3
              clear h3
              by_cases hop : op = 7
              · subst hop
                by_cases hj1 : j = 1
                · have HIN := Lib.hid (show inner 7 n j S = setS S n.toNat by simp [inner, hj1])
                  have hjb : ((j : Int) == 1) = true := by simp [hj1]
                  clear hj1
                  have hn := HO.out
                  simp only [ownOk, show ¬ ((7 : Int) = 1) by decide, show ¬ ((7 : Int) = 2) by decide, if_false, true_or, if_true] at hn
                  obtain ⟨hn0, hn8⟩ := inVar_true hn
                  clear hn
                  obtain ⟨v, rfl⟩ := Int.eq_ofNat_of_zero_le hn0
                  go_wp2_with fail
                  refine (l1With_any SA Sc S v (by omega) wr ((hS.below hb).mono_ (Nat.le_refl _) (by omega))).mono ?_
                  rintro e w4 ⟨SA2, Sc2, rfl, hS2, hb4⟩
                  have hb8 := hb.trans (hb4.mono (by omega))
                  have hrow4 := hrow.below hb4 (by omega)
                  have hsz4 : w.heap.size + 1 ≤ w4.heap.size := Nat.le_trans hsz hb4.size
                  have h3' := HL3.out.below (hb4.mono (by omega))
                  clear HL3
                  have HL3 := Lib.hid h3'
                  clear h3'
                  have g1' := (hb4.cell (p := ⟨b, o + j * 3, none⟩) (show b < wr.heap.size by omega)).trans g1
                  have g2' := (hb4.cell (p := ⟨b, o + j * 3 + 1, none⟩) (show b < wr.heap.size by omega)).trans g2
                  have g3' := (hb4.cell (p := ⟨b, o + j * 3 + 2, none⟩) (show b < wr.heap.size by omega)).trans g3
                  clear q0 q1 q2 g1 g2 g3
                  have q0 := hrow4.cell (i := 0) rfl
                  have q1 := hrow4.cell (i := 1) rfl
                  have q2 := hrow4.cell (i := 2) rfl
                  have HROW := Lib.hid hrow4
                  have HSZ := Lib.hid hsz4
                  have g1 := g1'
                  have g2 := g2'
                  have g3 := g3'
                  clear g1' g2' g3'
                  simp only [Int.toNat_natCast] at HIN
                  cases hN : nodeShape op' n' k' (setS S v) d
                  all_goals
                    have HN := Lib.hid hN
                    clear hN
                    go_wp2_with fail
                    refine (IH.out k'.size (by omega) op' n' k' A' c' (setS S v) SA2 Sc2 d _ rfl (HL3.out.mono_ (Nat.le_refl _) (by omega)) (by omega) (hS2.mono_ (Nat.zero_le _) (Nat.le_refl _)) (by omega)).mono ?_
                    rintro e w5 ⟨rfl, hb6⟩
                    rw [HN.out]
                    have hb7 := hb8.trans (hb6.mono hb8.size)
                    have hrow5 := HROW.out.below hb6 (by omega)
                    have hsz5 := Nat.le_trans (show w.heap.size + 1 ≤ _ from HSZ.out) hb6.size
                    clear hb6 q0 q1 q2 g1 g2 g3
                    go_wp2
                  · go_ret
                    have hz := HZ.out
                    rw [HIN.out] at hz
                    have hn := HN.out
                    simp only [nodeShape] at hn
                    rw [hn, Bool.false_and] at hz
                    exact ⟨ret_bool (by simp [nodeShape, HK.out, HO.out, hz]), hb7⟩
                  · have hz := HZ.out
                    rw [HIN.out] at hz
                    have hn := HN.out
                    simp only [nodeShape] at hn
                    rw [hn, Bool.true_and] at hz
                    have HZ2 := Lib.hid hz
                    clear hz hn
                    go_roundw
                    case rel => exact ⟨j + 1, by omega, by go_num, HZ2.out, hrow5, hsz5, hb7⟩
                    case measure => simp [intOf]; omega
                  
                · have HIN := Lib.hid (show inner 7 n j S = S by simp [inner, hj1])
                  have hjb : ((j : Int) == 1) = false := by simp; omega
                  clear hj1
                  have HROW := Lib.hid hrow
                  have HSZ := Lib.hid hsz
                  cases hN : nodeShape op' n' k' (S) d
                  all_goals
                    have HN := Lib.hid hN
                    clear hN
                    go_wp2_with fail
                    refine (IH.out k'.size (by omega) op' n' k' A' c' (S) SA Sc d _ rfl (HL3.out.mono_ (Nat.le_refl _) (by omega)) (by omega) ((hS.below hb).mono_ (Nat.le_refl _) (by omega)) (by omega)).mono ?_
                    rintro e w5 ⟨rfl, hb6⟩
                    rw [HN.out]
                    have hb7 := hb.trans (hb6.mono hb.size)
                    have hrow5 := HROW.out.below hb6 (by omega)
                    have hsz5 := Nat.le_trans (show w.heap.size + 1 ≤ _ from HSZ.out) hb6.size
                    clear hb6 q0 q1 q2 g1 g2 g3
                    go_wp2
                  · go_ret
                    have hz := HZ.out
                    rw [HIN.out] at hz
                    have hn := HN.out
                    simp only [nodeShape] at hn
                    rw [hn, Bool.false_and] at hz
                    exact ⟨ret_bool (by simp [nodeShape, HK.out, HO.out, hz]), hb7⟩
                  · have hz := HZ.out
                    rw [HIN.out] at hz
                    have hn := HN.out
                    simp only [nodeShape] at hn
                    rw [hn, Bool.true_and] at hz
                    have HZ2 := Lib.hid hz
                    clear hz hn
                    go_roundw
                    case rel => exact ⟨j + 1, by omega, by go_num, HZ2.out, hrow5, hsz5, hb7⟩
                    case measure => simp [intOf]; omega
                  
              · have HIN := Lib.hid (show inner op n j S = S by simp [inner, hop])
                have hopb : (op == 7) = false := by simpa using hop
                clear hop
                have HROW := Lib.hid hrow
                have HSZ := Lib.hid hsz
                cases hN : nodeShape op' n' k' (S) d
                all_goals
                  have HN := Lib.hid hN
                  clear hN
                  go_wp2_with fail
                  refine (IH.out k'.size (by omega) op' n' k' A' c' (S) SA Sc d _ rfl (HL3.out.mono_ (Nat.le_refl _) (by omega)) (by omega) ((hS.below hb).mono_ (Nat.le_refl _) (by omega)) (by omega)).mono ?_
                  rintro e w5 ⟨rfl, hb6⟩
                  rw [HN.out]
                  have hb7 := hb.trans (hb6.mono hb.size)
                  have hrow5 := HROW.out.below hb6 (by omega)
                  have hsz5 := Nat.le_trans (show w.heap.size + 1 ≤ _ from HSZ.out) hb6.size
                  clear hb6 q0 q1 q2 g1 g2 g3
                  go_wp2
                · go_ret
                  have hz := HZ.out
                  rw [HIN.out] at hz
                  have hn := HN.out
                  simp only [nodeShape] at hn
                  rw [hn, Bool.false_and] at hz
                  exact ⟨ret_bool (by simp [nodeShape, HK.out, HO.out, hz]), hb7⟩
                · have hz := HZ.out
                  rw [HIN.out] at hz
                  have hn := HN.out
                  simp only [nodeShape] at hn
                  rw [hn, Bool.true_and] at hz
                  have HZ2 := Lib.hid hz
                  clear hz hn
                  go_roundw
                  case rel => exact ⟨j + 1, by omega, by go_num, HZ2.out, hrow5, hsz5, hb7⟩
                  case measure => simp [intOf]; omega
                
            · have e9 : j = k.len := by omega
              go_wp2
              go_ret
              have hz := HX.out
              rw [e9, Fo.drop_len] at hz
              exact ⟨ret_bool (by simp [nodeShape, HK.out, HO.out, hz, shapeF]), hb⟩
end Go.Proofs.Ytbpcggbmlaomjaa
