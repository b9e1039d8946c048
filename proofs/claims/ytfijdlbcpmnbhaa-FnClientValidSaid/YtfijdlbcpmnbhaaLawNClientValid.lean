/-
  The walk of the law FnClientValid: true at every input.
-/
import Derived.Test.YtfijdlbcpmnbhaaCliS
import Derived.Test.YtfijdlbcpmnbhaaClient
import Derived.Test.YtfijdlbcpmnbhaaTreeP
import Derived.Test.YtfijdlbcpmnbhaaValD
namespace Go.Proofs.Ytfijdlbcpmnbhaa
open Go.RowKit Go.Shelf
set_option maxRecDepth 100000

theorem closed_is (op n : Int) (k : Fo) : nodeIs op n k (firstS 0) = (nodeIs op n k (firstS 8) && decide ((freeUpto op n k 8).length = 0)) := by
  rw [Bool.eq_iff_iff, Bool.and_eq_true, decide_eq_true_iff]
  constructor
  · intro h
    refine ⟨nodeIs_up (fun v hv _ => decide_eq_true hv) h, ?_⟩
    have hf := nodeIs_free h
    rw [List.length_eq_zero_iff, List.eq_nil_iff_forall_not_mem]
    intro x hx
    obtain ⟨v, _, h8, hc⟩ := (free_of (Nat.le_refl 8)).1 hx
    have := hf v h8 hc
    simp [firstS] at this
  · rintro ⟨h, h0⟩
    rw [List.length_eq_zero_iff] at h0
    refine nodeIs_up (fun v hv hc => ?_) h
    have hx := (free_of (x := (v : Int)) (op := op) (n := n) (k := k) (Nat.le_refl 8)).2 ⟨v, rfl, hv, hc⟩
    rw [h0] at hx
    simp at hx
theorem client_is (ds : List De) (op n : Int) (k : Fo) : clientB ds op n k = (libOk ds && (callsFitB ds op n k && decide ((freeUpto op n k 8).length = 0))) := by
  unfold clientB callsFitB
  rw [closed_is]
  cases libOk ds <;> cases nodeIs op n k (firstS 8) <;> cases fitN (ariS ds) op n k <;> simp

set_option maxHeartbeats 4000000 in
theorem law_NClientValid (bs : List Nat) (A : Option Addr) (c : Nat) (w : World) (hl : LiesY w 0 w.heap.size A bs) (hlc : bs.length ≤ c) (hc : c ≤ maxLen) :
    Calls Try.prog 3 #[.slice A bs.length c] w (Gives (.bool true) w) := by
  have HC := Lib.hid (drawCV_any A c bs w hl hlc hc)
  unfold maxLen at hc
  by_cases hsz : bs.length ≤ 1048576
  rotate_left
  · have hgt : 1048576 < bs.length := by omega
    go_enter Try.func3, Try.ntmps3
    go_wp2_with fail
    go_ret
    exact ⟨rfl, Below.refl _ _⟩
  clear hl
  go_enter Try.func3, Try.ntmps3
  go_wp2_with fail
  refine HC.out.mono ?_
  rintro e w1 ⟨ds, X, cx, op, n, k, Y, cy, bl, rfl, ⟨hL, hc1, hc2, hn, hs⟩, hi, ht, hk, hb1⟩
  obtain ⟨_, _, hY, hk1, hk2⟩ := ht.slice
  injection hY with hY1 hY2 hY3
  subst hY3
  clear hY1
  obtain ⟨W, hW⟩ : ∃ W, W = w1.alloc (Obj.cells #[.int .i64 op, .int .i64 n, .slice Y k.len cy] 26) := ⟨_, rfl⟩
  have hbW : Below w1.heap.size w1 W := by rw [hW]; exact (Below.refl _ _).alloc (Nat.le_refl _) _
  have HX := Lib.hid (show Row W w1.heap.size 26 #[.int .i64 op, .int .i64 n, .slice Y k.len cy] by rw [hW]; exact Row.fresh _ _ _)
  have HH := Lib.hid ((ht.held).below hbW (Nat.le_refl _))
  have HL := Lib.hid (show LiesD W 0 w1.heap.size X ds from (hL.below hbW).mono_ (Nat.zero_le _) (Nat.le_refl _))
  have HB := Lib.hid (hb1.trans (hbW.mono hb1.size))
  -- what every later world keeps
  have HK := Lib.hid (show ∀ V, Below W.heap.size W V → V.cell? ⟨w1.heap.size, 0, none⟩ = some (.int .i64 op) ∧ V.cell? ⟨w1.heap.size, 1, none⟩ = some (.int .i64 n) ∧ V.cell? ⟨w1.heap.size, 2, none⟩ = some (.slice Y k.len cy) ∧ Held V w1.heap.size Y k ∧ LiesD V 0 w1.heap.size X ds ∧ w1.heap.size ≤ V.heap.size ∧ Below w.heap.size w V from fun V hV => by
    have hx := HX.out.below hV HX.out.size
    exact ⟨hx.cell rfl, hx.cell rfl, hx.cell rfl, HH.out.below hV hbW.size, HL.out.below (hV.mono hbW.size), Nat.le_trans hbW.size hV.size, HB.out.trans (hV.mono HB.out.size)⟩)
  have hk3 : k.size ≤ 1048576 := by omega
  have hkl : k.len ≤ maxLen := Nat.le_trans hk1 hk2
  clear hb1 hbW hL ht HX HH HL HB HC
  go_upto_region 4 with fail
  rw [← hW]
  clear hW
  obtain ⟨v0, hv0⟩ : ∃ v, v = clientB ds op n k := ⟨_, rfl⟩
  obtain ⟨v1, hv1⟩ : ∃ v, v = callsFitB ds op n k := ⟨_, rfl⟩
  obtain ⟨v2, hv2⟩ : ∃ v, v = libOk ds := ⟨_, rfl⟩
  have HE := Lib.hid (show v0 = (v2 && (v1 && decide ((freeUpto op n k 8).length = 0))) by rw [hv0, hv1, hv2]; exact client_is ds op n k)
  have H0 := Lib.hid hv0
  have H1 := Lib.hid hv1
  have H2 := Lib.hid hv2
  clear hv0 hv1 hv2
  obtain ⟨q0, q1, q2, h1, h2, h3, h4⟩ := HK.out W (Below.refl _ _)
  go_wp2_with fail
  refine (implClient_r ds X cx op n k Y cy 0 w1.heap.size 0 w1.heap.size W h2 h3 h1.1 h3 hs hk1 hk2 hk3).mono ?_
  rintro e w2 ⟨rfl, hb2⟩
  rw [← H0.out]
  have HB2 := Lib.hid hb2
  clear q0 q1 q2 h1 h2 h3 h4 hb2
  obtain ⟨q0, q1, q2, h1, h2, h3, h4⟩ := HK.out w2 HB2.out
  go_wp2_with fail
  refine (implCallsFit_r ds X cx op n k Y cy 0 w1.heap.size w2 (h2.mono_ (Nat.le_refl _) h3) h1.1 h3 (by omega) hk1 hk2 hk3).mono ?_
  rintro e w3 ⟨rfl, hb3⟩
  rw [← H1.out]
  have HB3 := Lib.hid (HB2.out.trans (hb3.mono HB2.out.size))
  clear q0 q1 q2 h1 h2 h3 h4 hb3
  obtain ⟨q0, q1, q2, h1, h2, h3, h4⟩ := HK.out w3 HB3.out
  have he0 : (v0 == v0) = true := by simp
  have he1 : (v1 == v1) = true := by simp
  go_wp2_with fail
  refine (specClient_any ds X cx op n k Y cy w3 (h2.mono_ (Nat.le_refl _) h3) (h1.1.mono_ (Nat.le_refl _) h3) hs hkl hk3).mono ?_
  rintro e w4 ⟨rfl, hb4⟩
  rw [← H0.out]
  have HB4 := Lib.hid (HB3.out.trans (hb4.mono HB3.out.size))
  clear q0 q1 q2 h1 h2 h3 h4 hb4
  obtain ⟨q0, q1, q2, h1, h2, h3, h4⟩ := HK.out w4 HB4.out
  go_wp2_with fail
  refine (specCallsFit_any ds X cx op n k Y cy w4 (h2.mono_ (Nat.le_refl _) h3) (h1.1.mono_ (Nat.le_refl _) h3) (by omega) hkl hk3).mono ?_
  rintro e w5 ⟨rfl, hb5⟩
  rw [← H1.out]
  have HB5 := Lib.hid (HB4.out.trans (hb5.mono HB4.out.size))
  clear q0 q1 q2 h1 h2 h3 h4 hb5
  obtain ⟨q0, q1, q2, h1, h2, h3, h4⟩ := HK.out w5 HB5.out
  go_wp2_with fail
  refine (implLibValid_r ds X cx 0 w1.heap.size w5 h2 h3 hs).mono ?_
  rintro e w6 ⟨rfl, hb6⟩
  rw [← H2.out]
  have HB6 := Lib.hid (HB5.out.trans (hb6.mono HB5.out.size))
  clear q0 q1 q2 h1 h2 h3 h4 hb6
  obtain ⟨q0, q1, q2, h1, h2, h3, h4⟩ := HK.out w6 HB6.out
  have HR := Lib.hid h4
  cases v2 with
  | false =>
    have e0 : v0 = false := HE.out
    subst e0
    go_wp2_with fail
    go_ret
    exact ⟨rfl, HR.out⟩
  | true =>
  cases v1 with
  | false =>
    have e0 : v0 = false := HE.out
    subst e0
    go_wp2_with fail
    go_ret
    exact ⟨rfl, HR.out⟩
  | true =>
  have HE2 := Lib.hid (show v0 = decide ((freeUpto op n k 8).length = 0) from HE.out)
  go_wp2_with fail
  refine (implFree_r op n k Y cy 0 w1.heap.size w6 h1.1 h3 h1.rows hk1 hk2 hk3).mono ?_
  rintro e w7 ⟨vf, rfl, how, hb7⟩
  obtain ⟨Af, cf, rfl, _, _⟩ := own_slice how
  have HR7 := Lib.hid (HK.out w7 (HB6.out.trans (hb7.mono HB6.out.size))).2.2.2.2.2.2
  obtain ⟨m, hm⟩ : ∃ m, m = (freeUpto op n k 8).length := ⟨_, rfl⟩
  have he := HE2.out
  rw [← hm] at he ⊢
  clear hm how hb7 q0 q1 q2 h1 h2 h3 h4 HE HE2 H0 H1 H2 HK
  by_cases hm0 : m = 0
  · rw [decide_eq_true hm0] at he
    subst he hm0
    go_wp2_with fail
    go_ret
    exact ⟨by simp, HR7.out⟩
  · rw [decide_eq_false hm0] at he
    subst he
    have hm1 : ¬ (m : Int) = 0 := by omega
    go_wp2_with fail
    go_ret
    exact ⟨by simp [hm0], HR7.out⟩
end Go.Proofs.Ytfijdlbcpmnbhaa
