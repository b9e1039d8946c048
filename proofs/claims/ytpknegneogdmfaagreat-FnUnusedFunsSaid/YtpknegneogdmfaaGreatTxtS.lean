/-
  The model's texts: spec.l1At, spec.l16Dec, spec.l1Text.
-/
import Derived.Test.YtpknegneogdmfaaGreatLetter
import Derived.Test.YtpknegneogdmfaaGreatTxtD
import Derived.Test.YtpknegneogdmfaaGreatDe
import Derived.Deep.CutRange
namespace Go.Proofs.YtpknegneogdmfaaGreat
open Go.RowKit
set_option maxRecDepth 100000

/-- Is the byte c at the offset i? -/
def atB (s : List UInt8) (i : Int) (c : UInt8) : Bool := decide (0 ≤ i) && decide (s[i.toNat]? = some c)
theorem byte_at (s : List UInt8) (n : Nat) (h : n < (⟨s.toArray⟩ : ByteArray).size) (h2 : n < s.length) : (⟨s.toArray⟩ : ByteArray)[n]'h = s[n]'h2 := rfl
theorem size_txt (s : List UInt8) : (⟨s.toArray⟩ : ByteArray).size = s.length := rfl

set_option maxHeartbeats 1000000 in
theorem l1At_any (s : List UInt8) (i : Int) (c : UInt8) (w : World) : Calls Tryz.prog 78 #[txt s, .int .i64 i, .int .u8 (c.toNat : Int)] w (fun e w' => e = .returned (.bool (atB s i c)) ∧ w = w') := by
  unfold txt
  by_cases h0 : 0 ≤ i
  rotate_left
  · rw [show atB s i c = false by unfold atB; rw [decide_eq_false h0, Bool.false_and]]
    have h1 : decide (0 ≤ i) = false := by simpa using h0
    go_enter Tryz.func78, Tryz.ntmps78
    go_wp2
    go_ret
    exact ⟨rfl, rfl⟩
  by_cases h2 : i.toNat < s.length
  rotate_left
  · rw [show atB s i c = false by unfold atB; rw [List.getElem?_eq_none (by omega)]; simp]
    have h3 : ¬ i < (s.length : Int) := by omega
    go_enter Tryz.func78, Tryz.ntmps78
    go_wp2
    go_ret
    exact ⟨rfl, rfl⟩
  have h3 : i < (s.length : Int) := by omega
  obtain ⟨b, hb⟩ : ∃ b, b = s[i.toNat] := ⟨_, rfl⟩
  rw [show atB s i c = (((b.toNat : Int)) == (c.toNat : Int)) by
    unfold atB
    rw [decide_eq_true h0, Bool.true_and, List.getElem?_eq_getElem h2, ← hb]
    by_cases e : b = c
    · subst e; simp
    · have e2 : b.toNat ≠ c.toNat := fun h => e (UInt8.toNat_inj.1 h)
      have e3 : (b.toNat : Int) ≠ (c.toNat : Int) := by omega
      rw [decide_eq_false (by simpa using e)]
      simp [e3]]
  have HB := Lib.hid hb
  clear hb
  go_enter Tryz.func78, Tryz.ntmps78
  go_wp2
  go_ret
  exact ⟨by rw [HB.out]; rfl, rfl⟩

theorem l1At_lit (s : List UInt8) (i x : Int) (c : UInt8) (h : x = (c.toNat : Int)) (w : World) : Calls Tryz.prog 78 #[.string ⟨s.toArray⟩, .int .i64 i, .int .u8 x] w (fun e w' => e = .returned (.bool (atB s i c)) ∧ w = w') := by
  rw [h]; exact l1At_any s i c w
theorem atB_none (s : List UInt8) (c : UInt8) : atB s (-1) c = false := rfl
theorem atB_nat (s : List UInt8) (p : Nat) (c : UInt8) : atB s (p : Int) c = decide (s[p]? = some c) := by
  unfold atB
  rw [decide_eq_true (Int.natCast_nonneg p), Bool.true_and, Int.toNat_natCast]

/-- string([]byte{x}) -/
theorem conv1 (b : UInt8) (x : Int) (h : x = (b.toNat : Int)) (W : World) : (convert 22 9 (.slice (some ⟨W.heap.size, 0, none⟩) 1 1)).run Tryz.prog (W.alloc (Obj.cells #[.int .u8 x] 5)) = .ok (.string ⟨#[b]⟩) (W.alloc (Obj.cells #[.int .u8 x] 5)) := by
  have := run_convert_bytes_back (P := Tryz.prog) (W.alloc (Obj.cells #[.int .u8 x] 5)) 22 9 5 ⟨W.heap.size, 0, none⟩ 1 [b] Tryz.underlying22 Tryz.underlying5 Tryz.underlying9 (fun j hj => by
    have hj0 : j = 0 := by simpa using hj
    subst hj0
    have e : ((⟨W.heap.size, 0, none⟩ : Addr).add 0) = ⟨W.heap.size, 0, none⟩ := rfl
    rw [e, (Row.fresh W 5 #[.int .u8 x]).cell (i := 0) (v := .int .u8 x) rfl]
    simp only [List.getElem_cons_zero, h])
  simpa only [List.length_singleton] using this

set_option maxHeartbeats 1000000 in
theorem l16Dec_any (n : Int) (h0 : 0 ≤ n) (h9 : n ≤ 99) (w : World) : Calls Tryz.prog 79 #[.int .i64 n] w (Gives (txt (decL n)) w) := by
  by_cases hs : n ≤ 9
  · have h1 : ¬ n < -9223372036854775807 := by omega
    have h2 : ¬ n < 0 := by omega
    have h3 : ¬ 9 < n := by omega
    have e1 : IntKind.i64.wrap (48 + n) = 48 + n := by rw [IntKind.wrap_i64]; omega
    have e2 : IntKind.u8.wrap (48 + n) = 48 + n := by rw [IntKind.wrap_u8]; omega
    obtain ⟨b, hb⟩ : ∃ b, b = UInt8.ofNat (48 + n.toNat) := ⟨_, rfl⟩
    have hbn : 48 + n = (b.toNat : Int) := by rw [hb, UInt8.toNat_ofNat', Nat.mod_eq_of_lt (by omega)]; omega
    have HCV := Lib.hid (conv1 b (48 + n) hbn)
    rw [show decL n = [b] by unfold decL; rw [if_pos hs, hb]]
    clear hb hbn h0 h9 hs
    unfold txt
    go_enter Tryz.func79, Tryz.ntmps79
    go_wp2_with fail
    go_loopw [0, 3] (fun v s wr => v = .int .i64 n ∧ s = .string ⟨#[]⟩ ∧ wr = w) (fun _ _ _ => 0)
    case atStart => exact ⟨rfl, rfl, rfl⟩
    case round =>
      obtain ⟨rfl, rfl, rfl⟩ := hrel
      have hcv := HCV.out wr
      have hb := (Below.refl wr.heap.size wr).alloc (Nat.le_refl _) (Obj.cells #[.int .u8 (48 + n)] 5)
      have HB := Lib.hid hb
      clear hb
      go_wp2_with fail
      go_ret
      exact ⟨congrArg (fun s => Ending.returned (Value.string s)) (ByteArray.mk_append_mk [b] []), HB.out⟩
  · have h1 : ¬ n < -9223372036854775807 := by omega
    have h2 : ¬ n < 0 := by omega
    have h3 : 9 < n := by omega
    obtain ⟨q, hq⟩ : ∃ q, q = n / 10 := ⟨_, rfl⟩
    obtain ⟨r, hr⟩ : ∃ r, r = n % 10 := ⟨_, rfl⟩
    have h4 : ¬ 9 < q := by omega
    have er : Int.tmod n 10 = r := by rw [hr]; exact Int.tmod_eq_emod_of_nonneg h0
    have eq : Int.tdiv n 10 = q := by rw [hq]; exact Int.tdiv_eq_ediv_of_nonneg h0
    have e0 : IntKind.i64.wrap q = q := by rw [IntKind.wrap_i64]; omega
    have e1 : IntKind.i64.wrap (48 + r) = 48 + r := by rw [IntKind.wrap_i64]; omega
    have e2 : IntKind.u8.wrap (48 + r) = 48 + r := by rw [IntKind.wrap_u8]; omega
    have e3 : IntKind.i64.wrap (48 + q) = 48 + q := by rw [IntKind.wrap_i64]; omega
    have e4 : IntKind.u8.wrap (48 + q) = 48 + q := by rw [IntKind.wrap_u8]; omega
    obtain ⟨b, hb⟩ : ∃ b, b = UInt8.ofNat (48 + n.toNat / 10) := ⟨_, rfl⟩
    obtain ⟨c, hc⟩ : ∃ c, c = UInt8.ofNat (48 + n.toNat % 10) := ⟨_, rfl⟩
    have hbn : 48 + q = (b.toNat : Int) := by rw [hb, UInt8.toNat_ofNat', Nat.mod_eq_of_lt (by omega)]; omega
    have hcn : 48 + r = (c.toNat : Int) := by rw [hc, UInt8.toNat_ofNat', Nat.mod_eq_of_lt (by omega)]; omega
    have HCB := Lib.hid (conv1 b (48 + q) hbn)
    have HCC := Lib.hid (conv1 c (48 + r) hcn)
    have HNQ := Lib.hid (show n ≠ q by omega)
    rw [show decL n = [b, c] by unfold decL; rw [if_neg hs, hb, hc]]
    clear hb hc hbn hcn h0 h9 hs hq hr
    unfold txt
    go_enter Tryz.func79, Tryz.ntmps79
    go_wp2_with fail
    go_loopw [0, 3] (fun v s wr => (v = .int .i64 n ∧ s = .string ⟨#[]⟩ ∧ Below w.heap.size w wr) ∨ (v = .int .i64 q ∧ s = .string ⟨#[c]⟩ ∧ Below w.heap.size w wr)) (fun v _ _ => if intOf v = n then 1 else 0)
    case atStart => exact .inl ⟨rfl, rfl, Below.refl _ _⟩
    case round =>
      rcases hrel with ⟨rfl, rfl, hb⟩ | ⟨rfl, rfl, hb⟩
      · have hcv := HCC.out wr
        have HB := Lib.hid (hb.alloc hb.size (Obj.cells #[.int .u8 (48 + r)] 5))
        clear hb
        go_wp2_with fail
        go_roundw
        case rel => exact .inr ⟨rfl, congrArg Value.string (ByteArray.mk_append_mk [c] []), HB.out⟩
        case measure =>
          have hne : ¬ q = n := fun h => HNQ.out h.symm
          simp [intOf, hne]
      · have hcv := HCB.out wr
        have HB := Lib.hid (hb.alloc hb.size (Obj.cells #[.int .u8 (48 + q)] 5))
        clear hb
        go_wp2_with fail
        go_ret
        exact ⟨congrArg (fun s => Ending.returned (Value.string s)) (ByteArray.mk_append_mk [b] [c]), HB.out⟩
end Go.Proofs.YtpknegneogdmfaaGreat
