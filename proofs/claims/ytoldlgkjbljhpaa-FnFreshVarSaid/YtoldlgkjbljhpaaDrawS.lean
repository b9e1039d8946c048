/-
  The model's source of numbers: pick, num, DrawFreshVar.
-/
import Derived.Test.YtoldlgkjbljhpaaReadY
import Derived.Test.YtoldlgkjbljhpaaNums
import Derived.BigQuiet
import Derived.Deep.QuietTactic
import Derived.Laws.Bits64
namespace Go.Proofs.Ytoldlgkjbljhpaa
open Go.RowKit Go.Shelf
set_option maxRecDepth 100000

theorem xor_i64_nat (a b : Nat) (ha : a < 4294967296) (hb : b < 4294967296) : bits .xor .i64 (a : Int) (b : Int) = ((a ^^^ b : Nat) : Int) ∧ a ^^^ b < 4294967296 := by
  have hx : a ^^^ b < 2 ^ 32 := Nat.xor_lt_two_pow (by omega) (by omega)
  have h1 : (BitVec.ofInt 64 (a : Int)).toNat = a := by
    rw [BitVec.ofInt_natCast, BitVec.toNat_ofNat]; exact Nat.mod_eq_of_lt (by omega)
  have h2 : (BitVec.ofInt 64 (b : Int)).toNat = b := by
    rw [BitVec.ofInt_natCast, BitVec.toNat_ofNat]; exact Nat.mod_eq_of_lt (by omega)
  refine ⟨?_, by omega⟩
  show IntKind.i64.wrap ((BitVec.ofInt 64 (a : Int) ^^^ BitVec.ofInt 64 (b : Int)).toNat : Int) = _
  rw [BitVec.toNat_xor, h1, h2, IntKind.wrap_i64]
  omega

set_option maxHeartbeats 4000000 in
theorem pick_any (g base : Nat) (A : Option Addr) (bc : Nat) (bs : List Nat) (p n : Nat) (w : World) (hrow : Row w g 63 #[.slice A bs.length bc, .int .i64 (p : Int)]) (hB : LiesY w 0 base A bs) (hbg : base ≤ g) (hl : bs.length ≤ 2000) (hp : p ≤ 1000) (hn1 : 1 ≤ n) (hn2 : n ≤ 1000) :
    Calls Try.prog 19 #[.pointer (some ⟨g, 0, none⟩), .int .i64 (n : Int)] w fun e w' =>
      ∃ x : Nat, x < n ∧ e = .returned (.int .i64 (x : Int)) ∧ Row w' g 63 #[.slice A bs.length bc, .int .i64 ((p + 1 : Nat) : Int)] ∧ Only g w.heap.size w w' := by
  have q0 := hrow.cell (i := 0) rfl
  have q1 := hrow.cell (i := 1) rfl
  have f1 := hrow.free 1
  have hz := hrow.size
  have hrow1 : Row (w.setCell ⟨g, 1, none⟩ (.int .i64 ((p : Int) + 1))) g 63 #[.slice A bs.length bc, .int .i64 ((p + 1 : Nat) : Int)] := by
    have := hrow.put 1 (.int .i64 ((p : Int) + 1))
    exact this
  have hon1 : Only g w.heap.size w (w.setCell ⟨g, 1, none⟩ (.int .i64 ((p : Int) + 1))) := (Only.refl _ _ _).set (p := ⟨g, 1, none⟩) (.inl rfl) _
  have hB1 : LiesY (w.setCell ⟨g, 1, none⟩ (.int .i64 ((p : Int) + 1))) 0 base A bs :=
    hB.keep (Nat.le_refl _) (Nat.le_refl _) fun q _ hq => World.cell?_of_block (w := w) (Below.heap_setCell w ⟨g, 1, none⟩ _ q.block (by simp; omega))
  have hc1 : decide ((n : Int) < 1) = false := by simp; omega
  have HR := Lib.hid hrow1
  have HO := Lib.hid hon1
  clear hrow hB hrow1 hon1
  by_cases h0 : bs = []
  · subst h0
    clear hB1
    simp only [List.length_nil] at q0 HR
    go_enter Try.func19, Try.ntmps19
    go_wp2_with fail
    go_ret
    exact ⟨0, by omega, rfl, HR.out, HO.out⟩
  · have hl0 : 0 < bs.length := List.length_pos_iff.2 h0
    have hc2 : ((bs.length : Int) == 0) = false := by simp; omega
    clear h0
    by_cases hpl : p < bs.length
    · have e1 := List.getElem?_eq_getElem hpl
      generalize bs[p] = x at e1
      obtain ⟨b, o, rfl, _, hb, hx, hc⟩ := hB1 p x e1
      have HX := Lib.hid (show x % n < n from Nat.mod_lt _ (by omega))
      clear hB1 e1
      go_enter Try.func19, Try.ntmps19
      go_wp2_with fail
      go_ret
      exact ⟨x % n, HX.out, by simp, HR.out, HO.out⟩
    · have i1 : p % bs.length < bs.length := Nat.mod_lt _ hl0
      have i2 : (p * 7 + 3) % bs.length < bs.length := Nat.mod_lt _ hl0
      have e1 := List.getElem?_eq_getElem i1
      have e2 := List.getElem?_eq_getElem i2
      generalize bs[p % bs.length] = x at e1
      generalize bs[(p * 7 + 3) % bs.length] = y at e2
      obtain ⟨b, o, rfl, _, hb, hx, hc⟩ := hB1 _ x e1
      obtain ⟨b2, o2, hA, _, _, hy, hd⟩ := hB1 _ y e2
      injection hA with hA
      injection hA with hA1 hA2
      subst hA1 hA2
      clear hB1 e1 e2
      generalize bs.length = l at *
      have ht1 : (p : Int).tmod (l : Int) = ((p % l : Nat) : Int) := (Int.ofNat_tmod p l).symm
      have ht2 : ((p : Int) * 7 + 3).tmod (l : Int) = (((p * 7 + 3) % l : Nat) : Int) := by
        have := (Int.ofNat_tmod (p * 7 + 3) l).symm
        simpa using this
      have ht3 : (p : Int).tdiv (l : Int) = ((p / l : Nat) : Int) := (Int.ofNat_tdiv p l).symm
      have hl1 : ¬ l = 0 := by omega
      have hd1 : p / l ≤ p := Nat.div_le_self _ _
      generalize p % l = u at *
      generalize (p * 7 + 3) % l = v at *
      generalize p / l = d at *
      have hw0 : IntKind.i64.wrap ((p : Int) * 7) = (p : Int) * 7 := by rw [IntKind.wrap_i64]; omega
      have hw1 : IntKind.i64.wrap ((p : Int) * 7 + 3) = (p : Int) * 7 + 3 := by rw [IntKind.wrap_i64]; omega
      have hw2 : IntKind.i64.wrap ((x : Int) * 131) = (x : Int) * 131 := by rw [IntKind.wrap_i64]; omega
      have hw3 : IntKind.i64.wrap ((y : Int) * 1117) = (y : Int) * 1117 := by rw [IntKind.wrap_i64]; omega
      have hw4 : IntKind.i64.wrap ((x : Int) * 131 + (y : Int) * 1117) = (x : Int) * 131 + (y : Int) * 1117 := by rw [IntKind.wrap_i64]; omega
      have hw5 : IntKind.i64.wrap ((p : Int) * 29) = (p : Int) * 29 := by rw [IntKind.wrap_i64]; omega
      have hw6 : IntKind.i64.wrap ((x : Int) * 131 + (y : Int) * 1117 + (p : Int) * 29) = (x : Int) * 131 + (y : Int) * 1117 + (p : Int) * 29 := by rw [IntKind.wrap_i64]; omega
      have hw7 : IntKind.i64.wrap ((d : Int) * 53) = (d : Int) * 53 := by rw [IntKind.wrap_i64]; omega
      have hw8 : IntKind.i64.wrap ((x : Int) * 131 + (y : Int) * 1117 + (p : Int) * 29 + (d : Int) * 53) = (x : Int) * 131 + (y : Int) * 1117 + (p : Int) * 29 + (d : Int) * 53 := by rw [IntKind.wrap_i64]; omega
      go_enter Try.func19, Try.ntmps19
      go_wp2_with fail
      go_quiet (fail)
      obtain ⟨X, hX⟩ : ∃ X : Nat, (x : Int) * 131 + (y : Int) * 1117 + (p : Int) * 29 + (d : Int) * 53 = (X : Int) := ⟨x * 131 + y * 1117 + p * 29 + d * 53, by omega⟩
      rw [hX]
      have hXb : X < 4294967296 := by omega
      have hx1 := xor_i64_nat X (X / 64) hXb (by omega)
      have hx2 : bits .xor .i64 (X : Int) ((X : Int) / 64) = ((X ^^^ X / 64 : Nat) : Int) := by
        have := hx1.1
        rw [Int.natCast_ediv] at this
        exact this
      have hx3 := hx1.2
      generalize (X ^^^ X / 64) = Y at hx2 hx3
      have HX := Lib.hid (show Y % n < n from Nat.mod_lt _ (by omega))
      clear hw0 hw1 hw2 hw3 hw4 hw5 hw6 hw7 hw8 ht1 ht2 ht3 hx1 hX hc hd q0 q1 f1
      go_wp2_with fail
      go_ret
      exact ⟨Y % n, HX.out, by simp, HR.out, HO.out.trans (.of_below (below_drewN (Below.refl _ _) nq))⟩

set_option maxHeartbeats 2000000 in
theorem num_any (g base : Nat) (A : Option Addr) (bc : Nat) (bs : List Nat) (p : Nat) (ZA : Option Addr) (Zc : Nat) (zs : List Int) (w : World) (hrow : Row w g 63 #[.slice A bs.length bc, .int .i64 (p : Int)]) (hB : LiesY w 0 base A bs) (hbg : base ≤ g) (hl : bs.length ≤ 2000) (hp : p ≤ 1000)
    (hz : LiesI w (g + 1) w.heap.size ZA zs) (hz1 : 1 ≤ zs.length) (hz2 : zs.length ≤ 1000) :
    Calls Try.prog 20 #[.pointer (some ⟨g, 0, none⟩), .slice ZA zs.length Zc] w fun e w' =>
      ∃ y : Int, I64 y ∧ e = .returned (.int .i64 y) ∧ Row w' g 63 #[.slice A bs.length bc, .int .i64 ((p + 1 : Nat) : Int)] ∧ Only g w.heap.size w w' := by
  have HC := Lib.hid (pick_any g base A bc bs p zs.length w hrow hB hbg hl hp hz1 hz2)
  go_enter Try.func20, Try.ntmps20
  go_wp2_with fail
  refine HC.out.mono ?_
  rintro e w2 ⟨x, hx, rfl, hr2, hon2⟩
  have e1 := List.getElem?_eq_getElem hx
  generalize zs[x] = y at e1
  obtain ⟨b, o, rfl, hb1, hb2, hy, hc⟩ := hz x y e1
  have hc2 := (hon2.cell (p := ⟨b, o + x, none⟩) hb2 (by simp; omega)).trans hc
  have HR2 := Lib.hid hr2
  have HO2 := Lib.hid hon2
  clear hr2 hon2 hrow hB hz e1 hc HC
  go_wp2_with fail
  go_ret
  exact ⟨y, hy, rfl, HR2.out, HO2.out⟩

theorem LiesY.take {w : World} {L B : Nat} {A : Option Addr} {bs : List Nat} (h : LiesY w L B A bs) (n : Nat) : LiesY w L B A (bs.take n) := fun i x hx => by
  have hi := (List.getElem?_eq_some_iff.1 hx).1
  rw [List.length_take] at hi
  rw [List.getElem?_take_of_lt (by omega)] at hx
  exact h i x hx

set_option maxHeartbeats 1000000 in
theorem open_any (A : Option Addr) (bc : Nat) (bs : List Nat) (w : World) (hB : LiesY w 0 w.heap.size A bs) (hl : bs.length ≤ bc) (hc : bc ≤ maxLen) :
    Calls Try.prog 18 #[.slice A bs.length bc] w fun e w' => ∃ (bs2 : List Nat), bs2.length ≤ 2000 ∧ e = .returned (.pointer (some ⟨w.heap.size, 0, none⟩)) ∧ LiesY w' 0 w.heap.size A bs2 ∧
      Row w' w.heap.size 63 #[.slice A bs2.length bc, .int .i64 0] ∧ Below w.heap.size w w' ∧ w.heap.size < w'.heap.size := by
  by_cases h2 : bs.length ≤ 2000
  · obtain ⟨hb, hr⟩ := one_box w 63 #[.slice A bs.length bc, .int .i64 0]
    go_enter Try.func18, Try.ntmps18
    go_wp2_with fail
    go_ret
    exact ⟨bs, h2, rfl, hB.below hb, hr, hb, hr.size⟩
  · obtain ⟨hb, hr⟩ := one_box w 63 #[.slice A 2000 bc, .int .i64 0]
    have hA : ∃ b o, A = some ⟨b, o, none⟩ := by
      have e1 := List.getElem?_eq_getElem (show 0 < bs.length by omega)
      obtain ⟨b, o, h, _⟩ := hB 0 _ e1
      exact ⟨b, o, h⟩
    obtain ⟨b, o, rfl⟩ := hA
    unfold maxLen at hc
    have ht : (bs.take 2000).length = 2000 := by rw [List.length_take]; omega
    go_enter Try.func18, Try.ntmps18
    go_wp2_with fail
    go_ret
    exact ⟨bs.take 2000, by omega, rfl, (hB.take 2000).below hb, by rw [ht]; exact hr, hb, hr.size⟩
end Go.Proofs.Ytoldlgkjbljhpaa
