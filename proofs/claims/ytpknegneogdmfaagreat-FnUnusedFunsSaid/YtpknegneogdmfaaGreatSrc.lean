/-
  The model's source of numbers: pick and num at their exact values; how much is left of it (Ok): the threes of thirty that come are few.
-/
import Derived.Test.YtpknegneogdmfaaGreatReadY
import Derived.Test.YtpknegneogdmfaaGreatSmall
import Derived.Test.YtpknegneogdmfaaGreatDensA
import Derived.Shelf.Abstract
import Derived.Shelf.RegionOpen
import Derived.OwnWalkIn
import Derived.TacticsInMore
import Derived.LoopNIn
import Derived.LoopIn
import Derived.Maps.OwnIn
import Derived.WalkKit
import Derived.BigQuiet
import Derived.Deep.QuietTactic
import Derived.Laws.Bits64
namespace Go.Proofs.YtpknegneogdmfaaGreat
open Go.RowKit Go.Shelf
set_option maxRecDepth 100000

theorem xor_i64_nat (a b : Nat) (ha : a < 4294967296) (hb : b < 4294967296) : bits .xor .i64 (a : Int) (b : Int) = ((a ^^^ b : Nat) : Int) ∧ a ^^^ b < 4294967296 := by
  have hx : a ^^^ b < 2 ^ 32 := Nat.xor_lt_two_pow (by omega) (by omega)
  have h1 : (BitVec.ofInt 64 (a : Int)).toNat = a := by
    rw [BitVec.ofInt_natCast, BitVec.toNat_ofNat]; exact Nat.mod_eq_of_lt (by omega)
  have h2 : (BitVec.ofInt 64 (b : Int)).toNat = b := by
    rw [BitVec.ofInt_natCast, BitVec.toNat_ofNat]; exact Nat.mod_eq_of_lt (by omega)
  refine ⟨?_, by omega⟩
  show IntKind.i64.wrap ((BitVec.ofInt 64 (a : Int) ^^^ BitVec.ofInt 64 (b : Int)).toNat : Int) = _
  rw [BitVec.toNat_xor, h1, h2, IntKind.wrap_i64]
  omega

/-- The number below m that a source of the bytes bs picks at place k. -/
def pkL (bs : List Nat) (k m : Nat) : Nat := if bs.length = 0 then 0 else Dens.pk (fun i => bs.getD i 0) bs.length k m
def thrL (bs : List Nat) (k : Nat) : Nat := if pkL bs k 30 = 3 then 1 else 0
/-- Ahead of Q the threes are fewer than a third. -/
def Lim (bs : List Nat) (Q : Nat) : Prop := Q ≤ 500000 ∧ 3 * Dens.sum (thrL bs) Q + 4008 ≤ Q
theorem lim_ex (bs : List Nat) (h : bs.length ≤ 2000) (hb : ∀ x, x ∈ bs → x < 256) : ∃ Q, Lim bs Q := by
  by_cases h0 : bs.length = 0
  · refine ⟨4008, by omega, ?_⟩
    have e : Dens.sum (thrL bs) 4008 = Dens.sum (fun _ => 0) 4008 := Dens.sum_congr _ fun i _ => by simp [thrL, pkL, h0]
    rw [e, Dens.sum_const]
    omega
  · obtain ⟨Q, h1, h2⟩ := Dens.rarely (n := bs.length) (by omega) h
    refine ⟨Q, h1, ?_⟩
    have h3 := h2 (fun i => bs.getD i 0) (fun i => by
      rw [List.getD_eq_getElem?_getD]
      cases e : bs[i]? with
      | none => simp
      | some x => simpa using hb x (List.mem_of_getElem? e))
    have e : Dens.sum (thrL bs) Q = Dens.sum (Dens.thr (fun i => bs.getD i 0) bs.length) Q := Dens.sum_congr _ fun i _ => by simp only [thrL, Dens.thr, pkL, if_neg h0]
    rw [e]
    exact h3
/-- At place p, with b owed: not yet at the limit. -/
structure Ok (bs : List Nat) (Q p : Nat) (b : Int) : Prop where
  lt : p < Q
  le : (p : Int) ≤ 3 * ((Dens.sum (thrL bs) p : Nat) : Int) + b
theorem Ok.mono {bs : List Nat} {Q p : Nat} {b c : Int} (h : Ok bs Q p b) (hc : b ≤ c) : Ok bs Q p c := ⟨h.lt, by have := h.le; omega⟩
theorem Ok.next {bs : List Nat} {Q p : Nat} {b : Int} (h : Ok bs Q p b) (hQ : Lim bs Q) (hb : b ≤ 4000) : Ok bs Q (p + 1) (b + 1) := by
  have h1 := h.le
  have h2 := h.lt
  have h3 := hQ.2
  have e : Dens.sum (thrL bs) (p + 1) = Dens.sum (thrL bs) p + thrL bs p := rfl
  refine ⟨Classical.byContradiction fun hn => ?_, by omega⟩
  have e1 : Q = p + 1 := by omega
  rw [e1] at h3
  omega
theorem Ok.three {bs : List Nat} {Q p : Nat} {b : Int} (h : Ok bs Q p b) (hQ : Lim bs Q) (hb : b ≤ 4000) (h3 : pkL bs p 30 = 3) : Ok bs Q (p + 1) (b - 2) := by
  refine ⟨(h.next hQ hb).lt, ?_⟩
  have h1 := h.le
  have e : Dens.sum (thrL bs) (p + 1) = Dens.sum (thrL bs) p + thrL bs p := rfl
  have e2 : thrL bs p = 1 := by simp [thrL, h3]
  omega
theorem Ok.first {bs : List Nat} {Q : Nat} (hQ : Lim bs Q) : Ok bs Q 0 0 := ⟨by have := hQ.2; omega, by omega⟩

theorem pkL_lt (bs : List Nat) (p : Nat) {n : Nat} (h : 1 ≤ n) : pkL bs p n < n := by
  unfold pkL
  split
  · omega
  · unfold Dens.pk
    split <;> exact Nat.mod_lt _ (by omega)

set_option maxHeartbeats 4000000 in
theorem pick_v (g base : Nat) (A : Option Addr) (bc : Nat) (bs : List Nat) (p n : Nat) (w : World) (hrow : Row w g 55 #[.slice A bs.length bc, .int .i64 (p : Int)]) (hB : LiesY w 0 base A bs) (hbg : base ≤ g) (hl : bs.length ≤ 2000) (hp : p ≤ 1000000) (hn1 : 1 ≤ n) (hn2 : n ≤ 1000) :
    Calls Tryz.prog 16 #[.pointer (some ⟨g, 0, none⟩), .int .i64 (n : Int)] w fun e w' =>
      e = .returned (.int .i64 ((pkL bs p n : Nat) : Int)) ∧ Row w' g 55 #[.slice A bs.length bc, .int .i64 ((p + 1 : Nat) : Int)] ∧ Only g w.heap.size w w' := by
  have q0 := hrow.cell (i := 0) rfl
  have q1 := hrow.cell (i := 1) rfl
  have f1 := hrow.free 1
  have hz := hrow.size
  have hrow1 : Row (w.setCell ⟨g, 1, none⟩ (.int .i64 ((p : Int) + 1))) g 55 #[.slice A bs.length bc, .int .i64 ((p + 1 : Nat) : Int)] := by
    have := hrow.put 1 (.int .i64 ((p : Int) + 1))
    exact this
  have hon1 : Only g w.heap.size w (w.setCell ⟨g, 1, none⟩ (.int .i64 ((p : Int) + 1))) := (Only.refl _ _ _).set (p := ⟨g, 1, none⟩) (.inl rfl) _
  have hB1 : LiesY (w.setCell ⟨g, 1, none⟩ (.int .i64 ((p : Int) + 1))) 0 base A bs :=
    hB.keep (Nat.le_refl _) (Nat.le_refl _) fun q _ hq => World.cell?_of_block (w := w) (Below.heap_setCell w ⟨g, 1, none⟩ _ q.block (by simp; omega))
  have hc1 : decide ((n : Int) < 1) = false := by simp; omega
  have HR := Lib.hid hrow1
  have HO := Lib.hid hon1
  clear hrow hB hrow1 hon1
  by_cases h0 : bs = []
  · subst h0
    clear hB1
    simp only [List.length_nil] at q0 HR
    go_enter Tryz.func16, Tryz.ntmps16
    go_wp2_with fail
    go_ret
    exact ⟨rfl, HR.out, HO.out⟩
  · have hl0 : 0 < bs.length := List.length_pos_iff.2 h0
    have hc2 : ((bs.length : Int) == 0) = false := by simp; omega
    clear h0
    by_cases hpl : p < bs.length
    · have e1 := List.getElem?_eq_getElem hpl
      generalize bs[p] = x at e1
      obtain ⟨b, o, rfl, _, hb, hx, hc⟩ := hB1 p x e1
      have HV := Lib.hid (show pkL bs p n = x % n by
        have h9 : ¬ bs.length = 0 := by omega
        simp only [pkL, if_neg h9, Dens.pk, if_pos hpl, List.getD_eq_getElem?_getD, e1, Option.getD_some])
      clear hB1 e1
      go_enter Tryz.func16, Tryz.ntmps16
      go_wp2_with fail
      go_ret
      exact ⟨by rw [HV.out]; simp, HR.out, HO.out⟩
    · have i1 : p % bs.length < bs.length := Nat.mod_lt _ hl0
      have i2 : (p * 7 + 3) % bs.length < bs.length := Nat.mod_lt _ hl0
      have e1 := List.getElem?_eq_getElem i1
      have e2 := List.getElem?_eq_getElem i2
      generalize bs[p % bs.length] = x at e1
      generalize bs[(p * 7 + 3) % bs.length] = y at e2
      have hV : pkL bs p n = ((x * 131 + y * 1117 + p * 29 + p / bs.length * 53) ^^^ ((x * 131 + y * 1117 + p * 29 + p / bs.length * 53) / 64)) % n := by
        have h9 : ¬ bs.length = 0 := by omega
        simp only [pkL, if_neg h9, Dens.pk, if_neg hpl, Dens.mix, Dens.mixAt, List.getD_eq_getElem?_getD, e1, e2, Option.getD_some, Nat.shiftRight_eq_div_pow]
      obtain ⟨V, hV0⟩ : ∃ V, V = pkL bs p n := ⟨_, rfl⟩
      rw [← hV0] at hV
      have HV0 := Lib.hid hV0
      clear hV0
      obtain ⟨b, o, rfl, _, hb, hx, hc⟩ := hB1 _ x e1
      obtain ⟨b2, o2, hA, _, _, hy, hd⟩ := hB1 _ y e2
      injection hA with hA
      injection hA with hA1 hA2
      subst hA1 hA2
      clear hB1 e1 e2
      generalize bs.length = l at *
      have ht1 : (p : Int).tmod (l : Int) = ((p % l : Nat) : Int) := (Int.ofNat_tmod p l).symm
      have ht2 : ((p : Int) * 7 + 3).tmod (l : Int) = (((p * 7 + 3) % l : Nat) : Int) := by
        have := (Int.ofNat_tmod (p * 7 + 3) l).symm
        simpa using this
      have ht3 : (p : Int).tdiv (l : Int) = ((p / l : Nat) : Int) := (Int.ofNat_tdiv p l).symm
      have hl1 : ¬ l = 0 := by omega
      have hd1 : p / l ≤ p := Nat.div_le_self _ _
      generalize p % l = u at *
      generalize (p * 7 + 3) % l = v at *
      generalize p / l = d at *
      have hw0 : IntKind.i64.wrap ((p : Int) * 7) = (p : Int) * 7 := by rw [IntKind.wrap_i64]; omega
      have hw1 : IntKind.i64.wrap ((p : Int) * 7 + 3) = (p : Int) * 7 + 3 := by rw [IntKind.wrap_i64]; omega
      have hw2 : IntKind.i64.wrap ((x : Int) * 131) = (x : Int) * 131 := by rw [IntKind.wrap_i64]; omega
      have hw3 : IntKind.i64.wrap ((y : Int) * 1117) = (y : Int) * 1117 := by rw [IntKind.wrap_i64]; omega
      have hw4 : IntKind.i64.wrap ((x : Int) * 131 + (y : Int) * 1117) = (x : Int) * 131 + (y : Int) * 1117 := by rw [IntKind.wrap_i64]; omega
      have hw5 : IntKind.i64.wrap ((p : Int) * 29) = (p : Int) * 29 := by rw [IntKind.wrap_i64]; omega
      have hw6 : IntKind.i64.wrap ((x : Int) * 131 + (y : Int) * 1117 + (p : Int) * 29) = (x : Int) * 131 + (y : Int) * 1117 + (p : Int) * 29 := by rw [IntKind.wrap_i64]; omega
      have hw7 : IntKind.i64.wrap ((d : Int) * 53) = (d : Int) * 53 := by rw [IntKind.wrap_i64]; omega
      have hw8 : IntKind.i64.wrap ((x : Int) * 131 + (y : Int) * 1117 + (p : Int) * 29 + (d : Int) * 53) = (x : Int) * 131 + (y : Int) * 1117 + (p : Int) * 29 + (d : Int) * 53 := by rw [IntKind.wrap_i64]; omega
      go_enter Tryz.func16, Tryz.ntmps16
      go_wp2_with fail
      go_quiet (fail)
      have HVV := Lib.hid hV
      clear hV
      obtain ⟨X, hX⟩ : ∃ X : Nat, (x : Int) * 131 + (y : Int) * 1117 + (p : Int) * 29 + (d : Int) * 53 = (X : Int) := ⟨x * 131 + y * 1117 + p * 29 + d * 53, by omega⟩
      rw [hX]
      have hXn : x * 131 + y * 1117 + p * 29 + d * 53 = X := by omega
      have hXb : X < 4294967296 := by omega
      have HV2 := Lib.hid (show V = (X ^^^ X / 64) % n by rw [← hXn]; exact HVV.out)
      have hx1 := xor_i64_nat X (X / 64) hXb (by omega)
      have hx2 : bits .xor .i64 (X : Int) ((X : Int) / 64) = ((X ^^^ X / 64 : Nat) : Int) := by
        have := hx1.1
        rw [Int.natCast_ediv] at this
        exact this
      have hx3 := hx1.2
      obtain ⟨Y, hY⟩ : ∃ Y, Y = X ^^^ X / 64 := ⟨_, rfl⟩
      rw [← hY] at hx2 hx3
      have HV3 := Lib.hid (show V = Y % n by rw [hY]; exact HV2.out)
      clear hY hXn hw0 hw1 hw2 hw3 hw4 hw5 hw6 hw7 hw8 ht1 ht2 ht3 hx1 hX hc hd q0 q1 f1
      go_wp2_with fail
      go_ret
      exact ⟨by rw [← HV0.out, HV3.out]; simp, HR.out, HO.out.trans (.of_below (below_drewN (Below.refl _ _) nq))⟩

set_option maxHeartbeats 2000000 in
theorem num_v (g base : Nat) (A : Option Addr) (bc : Nat) (bs : List Nat) (p : Nat) (ZA : Option Addr) (Zc : Nat) (zs : List Int) (w : World) (hrow : Row w g 55 #[.slice A bs.length bc, .int .i64 (p : Int)]) (hB : LiesY w 0 base A bs) (hbg : base ≤ g) (hl : bs.length ≤ 2000) (hp : p ≤ 1000000)
    (hz : LiesI w (g + 1) w.heap.size ZA zs) (hz1 : 1 ≤ zs.length) (hz2 : zs.length ≤ 1000) :
    Calls Tryz.prog 31 #[.pointer (some ⟨g, 0, none⟩), .slice ZA zs.length Zc] w fun e w' =>
      ∃ y : Int, zs[pkL bs p zs.length]? = some y ∧ I64 y ∧ e = .returned (.int .i64 y) ∧ Row w' g 55 #[.slice A bs.length bc, .int .i64 ((p + 1 : Nat) : Int)] ∧ Only g w.heap.size w w' := by
  have HC := Lib.hid (pick_v g base A bc bs p zs.length w hrow hB hbg hl hp hz1 hz2)
  go_enter Tryz.func31, Tryz.ntmps31
  go_wp2_with fail
  refine HC.out.mono ?_
  rintro e w2 ⟨rfl, hr2, hon2⟩
  obtain ⟨x, hx0⟩ : ∃ x, x = pkL bs p zs.length := ⟨_, rfl⟩
  have hx : x < zs.length := by rw [hx0]; exact pkL_lt bs p hz1
  rw [← hx0]
  have e1 := List.getElem?_eq_getElem hx
  generalize zs[x] = y at e1
  obtain ⟨b, o, rfl, hb1, hb2, hy, hc⟩ := hz x y e1
  have hc2 := (hon2.cell (p := ⟨b, o + x, none⟩) hb2 (by simp; omega)).trans hc
  have HR2 := Lib.hid hr2
  have HO2 := Lib.hid hon2
  have HE := Lib.hid (show zs[pkL bs p zs.length]? = some y by rw [← hx0]; exact e1)
  clear hr2 hon2 hrow hB hz e1 hc HC hx0
  go_wp2_with fail
  go_ret
  exact ⟨y, HE.out, hy, rfl, HR2.out, HO2.out⟩

theorem LiesY.take {w : World} {L B : Nat} {A : Option Addr} {bs : List Nat} (h : LiesY w L B A bs) (n : Nat) : LiesY w L B A (bs.take n) := fun i x hx => by
  have hi := (List.getElem?_eq_some_iff.1 hx).1
  rw [List.length_take] at hi
  rw [List.getElem?_take_of_lt (by omega)] at hx
  exact h i x hx

set_option maxHeartbeats 1000000 in
theorem open_any (A : Option Addr) (bc : Nat) (bs : List Nat) (w : World) (hB : LiesY w 0 w.heap.size A bs) (hl : bs.length ≤ bc) (hc : bc ≤ maxLen) :
    Calls Tryz.prog 14 #[.slice A bs.length bc] w fun e w' => ∃ (bs2 : List Nat), bs2.length ≤ 2000 ∧ e = .returned (.pointer (some ⟨w.heap.size, 0, none⟩)) ∧ LiesY w' 0 w.heap.size A bs2 ∧
      Row w' w.heap.size 55 #[.slice A bs2.length bc, .int .i64 0] ∧ Below w.heap.size w w' ∧ w.heap.size < w'.heap.size := by
  by_cases h2 : bs.length ≤ 2000
  · obtain ⟨hb, hr⟩ := one_box w 55 #[.slice A bs.length bc, .int .i64 0]
    go_enter Tryz.func14, Tryz.ntmps14
    go_wp2_with fail
    go_ret
    exact ⟨bs, h2, rfl, hB.below hb, hr, hb, hr.size⟩
  · obtain ⟨hb, hr⟩ := one_box w 55 #[.slice A 2000 bc, .int .i64 0]
    have hA : ∃ b o, A = some ⟨b, o, none⟩ := by
      have e1 := List.getElem?_eq_getElem (show 0 < bs.length by omega)
      obtain ⟨b, o, h, _⟩ := hB 0 _ e1
      exact ⟨b, o, h⟩
    obtain ⟨b, o, rfl⟩ := hA
    unfold maxLen at hc
    have ht : (bs.take 2000).length = 2000 := by rw [List.length_take]; omega
    go_enter Tryz.func14, Tryz.ntmps14
    go_wp2_with fail
    go_ret
    exact ⟨bs.take 2000, by omega, rfl, (hB.take 2000).below hb, by rw [ht]; exact hr, hb, hr.size⟩
end Go.Proofs.YtpknegneogdmfaaGreat
