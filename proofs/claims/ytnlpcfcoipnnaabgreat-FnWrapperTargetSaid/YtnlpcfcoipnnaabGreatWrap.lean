/-
  Wrappers: functions that only call another one: spec.l7Wraps, impl.wrapped.
-/
import Derived.Test.YtnlpcfcoipnnaabGreatAtom
import Derived.Test.YtnlpcfcoipnnaabGreatDe
namespace Go.Proofs.YtnlpcfcoipnnaabGreat
open Go.RowKit
set_option maxRecDepth 100000

def allAtom : Fo → Bool
  | .nil => true
  | .cons op _ k r => atomB op k && allAtom r
theorem allAtom_cons {f : Fo} {op n : Int} {k r : Fo} (e : f = .cons op n k r) : allAtom f = (atomB op k && allAtom r) := by subst e; rfl
/-- Does the function nm with this Body only call another one? -/
def wrapN (nm op n : Int) (k : Fo) : Bool := decide (op = 3) && decide (n ≠ nm) && allAtom k
theorem wrapN_call {nm op n : Int} {k : Fo} (h : wrapN nm op n k = true) : op = 3 ∧ n ≠ nm := by
  simp only [wrapN, Bool.and_eq_true, decide_eq_true_eq] at h
  exact h.1

set_option maxHeartbeats 2000000 in
theorem l7Wraps_any (nm ar : Int) (old : Bool) (op n : Int) (k : Fo) (A : Option Addr) (c : Nat) (w : World) (hl : Lies w 0 w.heap.size A 0 k) (hlen : k.len ≤ maxLen) :
    Calls Tryz.prog 16 #[.agg #[.int .i64 nm, .int .i64 ar, .bool old, .int .i64 op, .int .i64 n, .slice A k.len c]] w (Gives (.bool (wrapN nm op n k)) w) := by
  unfold maxLen at hlen
  obtain ⟨hb0, hr0⟩ := one_box w 36 #[.int .i64 nm, .int .i64 ar, .bool old, .int .i64 op, .int .i64 n, .slice A k.len c]
  have q0 := hr0.cell (i := 0) rfl
  have q3 := hr0.cell (i := 3) rfl
  have q4 := hr0.cell (i := 4) rfl
  have q5 := hr0.cell (i := 5) rfl
  have HB := Lib.hid hb0
  have HR := Lib.hid hr0
  have HL := Lib.hid hl
  clear hb0 hr0 hl
  by_cases h1 : op = 3
  rotate_left
  · rw [show wrapN nm op n k = false by simp [wrapN, h1]]
    have h3 : (op != 3) = true := by simpa using h1
    go_enter Tryz.func16, Tryz.ntmps16
    go_wp2
    go_ret
    exact ⟨rfl, HB.out⟩
  subst h1
  by_cases h2 : n = nm
  · rw [show wrapN nm 3 n k = false by simp [wrapN, h2]]
    have h3 : (n == nm) = true := by simpa using h2
    clear h2
    go_enter Tryz.func16, Tryz.ntmps16
    go_wp2
    go_ret
    exact ⟨rfl, HB.out⟩
  obtain ⟨z, hz⟩ : ∃ z, wrapN nm 3 n k = z := ⟨_, rfl⟩
  have HF := Lib.hid (show z = allAtom k by rw [← hz]; simp [wrapN, h2])
  rw [hz]
  clear hz
  have h3 : (n == nm) = false := by simpa using h2
  clear h2
  go_enter Tryz.func16, Tryz.ntmps16
  go_wp2
  clear q0 q3 q4 q5 h3
  go_loopw [3] (fun i wr => ∃ (j : Nat), j ≤ k.len ∧ i = .int .i64 (j : Int) ∧ allAtom k = allAtom (k.drop j) ∧ Below w.heap.size w wr ∧ Row wr w.heap.size 36 #[.int .i64 nm, .int .i64 ar, .bool old, .int .i64 3, .int .i64 n, .slice A k.len c])
    (fun i _ => k.len - (intOf i).toNat)
  case atStart => exact ⟨0, by omega, rfl, by rw [Fo.drop_zero], HB.out, HR.out⟩
  case round =>
    clear HB HR
    obtain ⟨j, hj, rfl, he, hb, hr⟩ := hrel
    have q5 := hr.cell (i := 5) rfl
    by_cases hlt : j < k.len
    · obtain ⟨o1, m1, k1, e1, e2, e3⟩ := Fo.drop_of_lt k j hlt
      have hj' := (HL.out.below hb).at_ j
      rw [Nat.zero_add, e1] at hj'
      obtain ⟨⟨b, o, A', c', hA, _, hbb, i1, i2, g1, g2, g3, h1, h2, h3⟩, _⟩ := hj'
      subst hA
      have HE := Lib.hid (he.trans (allAtom_cons e1))
      have HB := Lib.hid hb
      have HR := Lib.hid hr
      clear he e1 e2 e3 hb hr h3 i1 i2
      go_wp2_with fail
      refine (specAtom_any o1 m1 k1 A' c' _).mono ?_
      rintro e w2 ⟨rfl, hb2⟩
      have HB2 := Lib.hid (HB.out.trans (hb2.mono HB.out.size))
      have HR2 := Lib.hid (HR.out.below hb2 HR.out.size)
      clear hb2 HB HR
      cases ha : atomB o1 k1 with
      | true =>
        rw [ha, Bool.true_and] at HE
        clear ha
        go_wp2_with fail
        go_roundw
        case rel => exact ⟨j + 1, by omega, by go_num, HE.out, HB2.out, HR2.out⟩
        case measure => simp [intOf]; omega
      | false =>
        rw [ha, Bool.false_and] at HE
        clear ha
        obtain rfl : z = false := HF.out.trans HE.out
        go_wp2_with fail
        go_ret
        exact ⟨rfl, HB2.out⟩
    · have e9 : j = k.len := by omega
      have HE := Lib.hid (show allAtom k = true by rw [he, e9, Fo.drop_len]; rfl)
      clear he
      subst e9
      obtain rfl : z = true := HF.out.trans HE.out
      have HB := Lib.hid hb
      clear hb
      go_wp2_with fail
      go_ret
      exact ⟨rfl, HB.out⟩

set_option maxHeartbeats 2000000 in
theorem wrapped_any (nm ar : Int) (old : Bool) (op n : Int) (k : Fo) (A : Option Addr) (c : Nat) (w : World) (hl : Lies w 0 w.heap.size A 0 k) (hlen : k.len ≤ maxLen) :
    Calls Tryz.prog 13 #[.agg #[.int .i64 nm, .int .i64 ar, .bool old, .int .i64 op, .int .i64 n, .slice A k.len c]] w
      (Gives (.tuple #[.int .i64 (if wrapN nm op n k = true then n else 0), .bool (wrapN nm op n k)]) w) := by
  unfold maxLen at hlen
  obtain ⟨hb0, hr0⟩ := one_box w 36 #[.int .i64 nm, .int .i64 ar, .bool old, .int .i64 op, .int .i64 n, .slice A k.len c]
  have q0 := hr0.cell (i := 0) rfl
  have q3 := hr0.cell (i := 3) rfl
  have q4 := hr0.cell (i := 4) rfl
  have q5 := hr0.cell (i := 5) rfl
  have HB := Lib.hid hb0
  have HR := Lib.hid hr0
  have HL := Lib.hid hl
  clear hb0 hr0 hl
  by_cases h1 : op = 3
  rotate_left
  · rw [show wrapN nm op n k = false by simp [wrapN, h1]]
    have h3 : (op != 3) = true := by simpa using h1
    go_enter Tryz.func13, Tryz.ntmps13
    go_wp2
    go_ret2
    exact ⟨rfl, HB.out⟩
  subst h1
  by_cases h2 : n = nm
  · rw [show wrapN nm 3 n k = false by simp [wrapN, h2]]
    have h3 : (n == nm) = true := by simpa using h2
    clear h2
    go_enter Tryz.func13, Tryz.ntmps13
    go_wp2
    go_ret2
    exact ⟨rfl, HB.out⟩
  obtain ⟨z, hz⟩ : ∃ z, wrapN nm 3 n k = z := ⟨_, rfl⟩
  have HF := Lib.hid (show z = allAtom k by rw [← hz]; simp [wrapN, h2])
  rw [hz]
  clear hz
  obtain ⟨y, hy⟩ : ∃ y, (if z = true then n else 0) = y := ⟨_, rfl⟩
  rw [hy]
  have HY := Lib.hid hy
  clear hy
  have h3 : (n == nm) = false := by simpa using h2
  clear h2
  go_enter Tryz.func13, Tryz.ntmps13
  go_wp2
  clear q0 q3 q4 q5 h3
  go_loopw [22] (fun i wr => ∃ (j : Nat), j ≤ k.len ∧ i = .int .i64 (j : Int) ∧ allAtom k = allAtom (k.drop j) ∧ Below w.heap.size w wr ∧ Row wr w.heap.size 36 #[.int .i64 nm, .int .i64 ar, .bool old, .int .i64 3, .int .i64 n, .slice A k.len c])
    (fun i _ => k.len - (intOf i).toNat)
  case atStart => exact ⟨0, by omega, rfl, by rw [Fo.drop_zero], HB.out, HR.out⟩
  case round =>
    clear HB HR
    obtain ⟨j, hj, rfl, he, hb, hr⟩ := hrel
    by_cases hlt : j < k.len
    · obtain ⟨o1, m1, k1, e1, e2, e3⟩ := Fo.drop_of_lt k j hlt
      have hj' := (HL.out.below hb).at_ j
      rw [Nat.zero_add, e1] at hj'
      obtain ⟨⟨b, o, A', c', hA, _, hbb, i1, i2, g1, g2, g3, h1, h2, h3⟩, _⟩ := hj'
      subst hA
      have HE := Lib.hid (he.trans (allAtom_cons e1))
      have hx := Below.refl wr.heap.size wr |>.alloc (Nat.le_refl _) (Obj.cells #[.int .i64 o1, .int .i64 m1, .slice A' k1.len c'] 34)
      have HB := Lib.hid (hb.trans (hx.mono hb.size))
      have HR := Lib.hid (hr.below hx hr.size)
      clear he e1 e2 e3 hb hr h3 i1 i2 hx
      go_wp2_with fail
      refine (implAtom_any o1 m1 k1 A' c' _).mono ?_
      rintro e w2 ⟨rfl, hb2⟩
      have HB2 := Lib.hid (HB.out.trans (hb2.mono HB.out.size))
      have HR2 := Lib.hid (HR.out.below hb2 HR.out.size)
      clear hb2 HB HR
      cases ha : atomB o1 k1 with
      | true =>
        rw [ha, Bool.true_and] at HE
        clear ha
        go_wp2_with fail
        go_roundw
        case rel => exact ⟨j + 1, by omega, by go_num, HE.out, HB2.out, HR2.out⟩
        case measure => simp [intOf]; omega
      | false =>
        rw [ha, Bool.false_and] at HE
        clear ha
        obtain rfl : z = false := HF.out.trans HE.out
        obtain rfl : 0 = y := HY.out
        go_wp2_with fail
        go_ret2
        exact ⟨rfl, HB2.out⟩
    · have e9 : j = k.len := by omega
      have HE := Lib.hid (show allAtom k = true by rw [he, e9, Fo.drop_len]; rfl)
      clear he
      subst e9
      obtain rfl : z = true := HF.out.trans HE.out
      obtain rfl : n = y := HY.out
      have q4 := hr.cell (i := 4) rfl
      have HB := Lib.hid hb
      clear hb hr
      go_wp2_with fail
      go_ret2
      exact ⟨rfl, HB.out⟩
end Go.Proofs.YtnlpcfcoipnnaabGreat
