/-
  impl.validWith; and that the model's test of a node says the same.
  impl.validOpen: valid with all variables in scope.
  The program's ExprValid.
  spec.l1Any.
-/
import Derived.Test.YtpknegneogdmfaaGreatVp
import Derived.Test.YtpknegneogdmfaaGreatSmall
import Derived.Test.YtpknegneogdmfaaGreatShape
import Derived.Test.YtpknegneogdmfaaGreatFo
import Derived.Test.YtpknegneogdmfaaGreatDe
import Derived.Deep.RegionHeld3
namespace Go.Proofs.YtpknegneogdmfaaGreat
open Go.RowKit
set_option maxRecDepth 100000

theorem shapeF_vpF : ∀ (f : Fo) (i : Nat) (S : Nat → Bool) (op n : Int) (d : Nat), shapeF op n i S d f = true ↔ f.dep ≤ d ∧ vpF op n i S f = true
  | .nil, _, _, _, _, _ => by simp [shapeF, vpF, Fo.dep]
  | .cons o m k r, i, S, op, n, d => by
    have h1 := shapeF_vpF k 0 (inner op n i S) o m (d - 1)
    have h2 := shapeF_vpF r (i + 1) S op n d
    simp only [shapeF, vpF, Fo.dep, Bool.and_eq_true, decide_eq_true_iff, h1, h2]
    constructor
    · rintro ⟨⟨⟨⟨a, b⟩, c⟩, e, g⟩, h, i⟩
      exact ⟨by omega, ⟨⟨⟨b, c⟩, g⟩, i⟩⟩
    · rintro ⟨a, ⟨⟨b, c⟩, g⟩, i⟩
      exact ⟨⟨⟨⟨by omega, b⟩, c⟩, by omega, g⟩, by omega, i⟩

theorem nodeIs_eq (op n : Int) (k : Fo) (S : Nat → Bool) : nodeIs op n k S = (smallOk k 14 80 && nodeVp op n k S) := by
  rw [Bool.eq_iff_iff]
  have h := shapeF_vpF k 0 S op n 13
  simp only [nodeIs, nodeShape, smallOk, nodeVp, Bool.and_eq_true, decide_eq_true_iff, h]
  constructor
  · rintro ⟨⟨⟨⟨a, b⟩, c⟩, e, g⟩, i⟩
    exact ⟨⟨by omega, i⟩, ⟨b, c⟩, g⟩
  · rintro ⟨⟨a, i⟩, ⟨b, c⟩, g⟩
    exact ⟨⟨⟨⟨by omega, b⟩, c⟩, by omega, g⟩, i⟩

theorem validWith_any (op n : Int) (k : Fo) (A : Option Addr) (c : Nat) (S : Nat → Bool) (w : World) (hl : Lies w 0 w.heap.size A 0 k) (hlen : k.len ≤ maxLen) :
    Calls Tryz.prog 51 #[.agg #[.int .i64 op, .int .i64 n, .slice A k.len c], arrB S] w (Gives (.bool (nodeIs op n k S)) w) := by
  rw [nodeIs_eq]
  have hb0 : Below w.heap.size w ((w.alloc (Obj.cells #[Value.int IntKind.i64 op, Value.int IntKind.i64 n, Value.slice A k.len c] 36)).alloc (Obj.cells (cellsB S) 85)) :=
    ((Below.refl _ _).alloc (Nat.le_refl _) _).alloc (by simp) _
  have hr0 := (Row.fresh w 36 #[Value.int IntKind.i64 op, Value.int IntKind.i64 n, Value.slice A k.len c]).alloc (Obj.cells (cellsB S) 85)
  have hk0 := Row.fresh (w.alloc (Obj.cells #[Value.int IntKind.i64 op, Value.int IntKind.i64 n, Value.slice A k.len c] 36)) 85 (cellsB S)
  rw [World.size_alloc] at hk0
  have hs0 : w.heap.size + 2 ≤ ((w.alloc (Obj.cells #[Value.int IntKind.i64 op, Value.int IntKind.i64 n, Value.slice A k.len c] 36)).alloc (Obj.cells (cellsB S) 85)).heap.size := by simp
  unfold cellsB at hb0 hr0 hk0 hs0
  have C2 := Lib.hid (fun w2 h => validPart_any k.size op n k A c S w2 rfl h hlen)
  unfold arrB at C2 ⊢
  cases hN : smallOk k 14 80
  all_goals
    have HN := Lib.hid hN
    clear hN
    go_enter Tryz.func51, Tryz.ntmps51
    go_wp2_with fail
    refine (withinLimits_any op n k A c _ ((hl.below hb0).mono_ (Nat.le_refl _) hb0.size) hlen).mono ?_
    rintro e w2 ⟨rfl, hb2⟩
    rw [HN.out]
    have hb3 := hb0.trans (hb2.mono hb0.size)
  · clear hb0 hb2 hr0 hk0 hs0
    go_wp2
    go_ret
    exact ⟨rfl, hb3⟩
  · have hr2 := hr0.below hb2 (by omega)
    have hk2 := hk0.below hb2 (by omega)
    have q0 := hr2.cell (i := 0) rfl
    have q1 := hr2.cell (i := 1) rfl
    have q2 := hr2.cell (i := 2) rfl
    have p0 := hk2.cell (i := 0) rfl
    have p1 := hk2.cell (i := 1) rfl
    have p2 := hk2.cell (i := 2) rfl
    have p3 := hk2.cell (i := 3) rfl
    have p4 := hk2.cell (i := 4) rfl
    have p5 := hk2.cell (i := 5) rfl
    have p6 := hk2.cell (i := 6) rfl
    have p7 := hk2.cell (i := 7) rfl
    have z2 : w.heap.size ≤ w2.heap.size := hb3.size
    clear hb0 hb2 hr0 hk0 hs0
    go_wp2_with fail
    refine (C2.out _ ((hl.below hb3).mono_ (Nat.le_refl _) z2)).mono ?_
    rintro e w3 ⟨rfl, hb4⟩
    have hb5 := hb3.trans (hb4.mono z2)
    clear hb3 hb4 q0 q1 q2 p0 p1 p2 p3 p4 p5 p6 p7 hr2 hk2
    generalize nodeVp op n k S = y at *
    go_wp2
    go_ret
    exact ⟨ret_bool (by simp), hb5⟩
end Go.Proofs.YtpknegneogdmfaaGreat

namespace Go.Proofs.YtpknegneogdmfaaGreat
open Go.RowKit
set_option maxRecDepth 100000

set_option maxHeartbeats 1000000 in
theorem validOpen_any (op n : Int) (k : Fo) (A : Option Addr) (c : Nat) (w : World) (hl : Lies w 0 w.heap.size A 0 k) (hlen : k.len ≤ maxLen) :
    Calls Tryz.prog 54 #[.agg #[.int .i64 op, .int .i64 n, .slice A k.len c]] w (Gives (.bool (nodeIs op n k (firstS 8))) w) := by
  have hb0 : Below w.heap.size w ((w.alloc (Obj.cells #[Value.int IntKind.i64 op, Value.int IntKind.i64 n, Value.slice A k.len c] 36)).alloc (Obj.cells #[.bool false, .bool false, .bool false, .bool false, .bool false, .bool false, .bool false, .bool false] 85)) :=
    ((Below.refl _ _).alloc (Nat.le_refl _) _).alloc (by simp) _
  have hr0 := (Row.fresh w 36 #[Value.int IntKind.i64 op, Value.int IntKind.i64 n, Value.slice A k.len c]).alloc (Obj.cells #[.bool false, .bool false, .bool false, .bool false, .bool false, .bool false, .bool false, .bool false] 85)
  have hk0 : Row ((w.alloc (Obj.cells #[Value.int IntKind.i64 op, Value.int IntKind.i64 n, Value.slice A k.len c] 36)).alloc (Obj.cells #[.bool false, .bool false, .bool false, .bool false, .bool false, .bool false, .bool false, .bool false] 85)) (w.heap.size + 1) 85 (cells8 (firstS 0)) := by
    have := Row.fresh (w.alloc (Obj.cells #[Value.int IntKind.i64 op, Value.int IntKind.i64 n, Value.slice A k.len c] 36)) 85 (cells8 (firstS 0))
    rw [World.size_alloc] at this
    exact this
  go_enter Tryz.func54, Tryz.ntmps54
  go_wp2_with fail
  go_loopw [5] (fun i wr => ∃ (j : Nat), j ≤ 8 ∧ i = .int .i64 j ∧ Row wr (w.heap.size + 1) 85 (cells8 (firstS j)) ∧ Row wr w.heap.size 36 #[Value.int IntKind.i64 op, Value.int IntKind.i64 n, Value.slice A k.len c] ∧ Below w.heap.size w wr)
    (fun i _ => 8 - (intOf i).toNat)
  case atStart => exact ⟨0, by omega, rfl, hk0, hr0, hb0⟩
  case round =>
    clear hk0 hr0 hb0
    obtain ⟨j, hj, rfl, hrow, hrE, hb⟩ := hrel
    by_cases h8 : j < 8
    · have q0 := hrow.cell (cells8_at (firstS j) h8)
      have f0 := hrow.free j
      have hp := hrow.put j (.bool true)
      rw [cells8_set _ h8, cells8_congr (T := firstS (j + 1)) (fun i _ => by unfold firstS; rw [Bool.eq_iff_iff]; simp; omega)] at hp
      have HP := Lib.hid hp
      have HE := Lib.hid (hrE.apart (p := ⟨w.heap.size + 1, j, none⟩) (by simp) (.bool true))
      have HB := Lib.hid (hb.setCell (p := ⟨w.heap.size + 1, j, none⟩) (by simp) (.bool true))
      clear hp hrow hrE hb
      go_wp2
      go_roundw
      case rel => exact ⟨j + 1, h8, by go_num, HP.out, HE.out, HB.out⟩
      case measure => simp [intOf]; omega
    · have e9 : j = 8 := by omega
      subst e9
      have HC := Lib.hid (validWith_any op n k A c (firstS 8) wr (hl.up hb) hlen)
      generalize firstS 8 = S at *
      have q0 := hrE.cell (i := 0) rfl
      have q1 := hrE.cell (i := 1) rfl
      have q2 := hrE.cell (i := 2) rfl
      have a0 := hrow.cell (cells8_at S (show 0 < 8 by decide))
      have a1 := hrow.cell (cells8_at S (show 1 < 8 by decide))
      have a2 := hrow.cell (cells8_at S (show 2 < 8 by decide))
      have a3 := hrow.cell (cells8_at S (show 3 < 8 by decide))
      have a4 := hrow.cell (cells8_at S (show 4 < 8 by decide))
      have a5 := hrow.cell (cells8_at S (show 5 < 8 by decide))
      have a6 := hrow.cell (cells8_at S (show 6 < 8 by decide))
      have a7 := hrow.cell (cells8_at S (show 7 < 8 by decide))
      clear hl
      go_wp2_with fail
      refine HC.out.mono ?_
      rintro e w2 ⟨rfl, hb2⟩
      have hb3 := hb.trans (hb2.mono hb.size)
      clear hb2 hb HC q0 q1 q2 a0 a1 a2 a3 a4 a5 a6 a7
      go_wp2
      go_ret
      exact ⟨rfl, hb3⟩
end Go.Proofs.YtpknegneogdmfaaGreat

namespace Go.Proofs.YtpknegneogdmfaaGreat
open Go.RowKit
set_option maxRecDepth 100000

set_option maxHeartbeats 400000 in
theorem implExprValid_any (op n : Int) (k : Fo) (A : Option Addr) (c : Nat) (zs : List Int) (ZA : Option Addr) (Zc : Nat) (w : World) (hl : Lies w 0 w.heap.size A 0 k) (hlen : k.len ≤ maxLen)
    (hz : LiesI w 0 w.heap.size ZA zs) (hzl : zs.length ≤ 1048576) :
    Calls Tryz.prog 34 #[.agg #[.int .i64 op, .int .i64 n, .slice A k.len c], .slice ZA zs.length Zc] w (Gives (.bool (validOf op n k zs)) w) := by
  have hb0 : Below w.heap.size w ((w.alloc (Obj.cells #[Value.int IntKind.i64 op, Value.int IntKind.i64 n, Value.slice A k.len c] 36)).alloc (Obj.cells (cellsB fun _ => false) 85)) :=
    ((Below.refl _ _).alloc (Nat.le_refl _) _).alloc (by simp) _
  have hr0 := (Row.fresh w 36 #[Value.int IntKind.i64 op, Value.int IntKind.i64 n, Value.slice A k.len c]).alloc (Obj.cells (cellsB fun _ => false) 85)
  have hk0 := Row.fresh (w.alloc (Obj.cells #[Value.int IntKind.i64 op, Value.int IntKind.i64 n, Value.slice A k.len c] 36)) 85 (cellsB fun _ => false)
  rw [World.size_alloc] at hk0
  have hs0 : w.heap.size + 2 ≤ ((w.alloc (Obj.cells #[Value.int IntKind.i64 op, Value.int IntKind.i64 n, Value.slice A k.len c] 36)).alloc (Obj.cells (cellsB fun _ => false) 85)).heap.size := by simp
  have HB0 := Lib.hid hb0
  have HR0 := Lib.hid hr0
  have HK0 := Lib.hid hk0
  clear hb0 hr0 hk0
  go_enter Tryz.func34, Tryz.ntmps34
  go_wp2_with fail
  go_loopw [10] (fun i wr => ∃ (j : Nat) (cs : Array Value), j ≤ zs.length ∧ i = .int .i64 j ∧ Row wr (w.heap.size + 1) 85 cs ∧ cs.size = 8 ∧ (∀ i, i < 8 → cs[i]? = some (.bool (scopeOf (zs.take j) i))) ∧ (∀ x ∈ zs.take j, inVar x = true) ∧
      Row wr w.heap.size 36 #[Value.int IntKind.i64 op, Value.int IntKind.i64 n, Value.slice A k.len c] ∧ w.heap.size + 2 ≤ wr.heap.size ∧ Below w.heap.size w wr)
    (fun i _ => zs.length - (intOf i).toNat)
  case atStart =>
    refine ⟨0, _, by omega, rfl, HK0.out, rfl, ?_, by simp, HR0.out, hs0, HB0.out⟩
    intro i hi
    have e : scopeOf (zs.take 0) i = false := by simp [scopeOf]
    rw [e]
    match i, hi with
    | 0, _ | 1, _ | 2, _ | 3, _ | 4, _ | 5, _ | 6, _ | 7, _ => rfl
  case round =>
    clear HB0 HR0 HK0 hs0
    obtain ⟨j, cs, hj, rfl, hrow, hcs, hall, hok, hrE, hsz, hb⟩ := hrel
    have HA := Lib.hid hall
    have HK := Lib.hid hok
    have HC := Lib.hid hcs
    clear hall hok hcs
    by_cases hlt : j < zs.length
    · have e1 := List.getElem?_eq_getElem hlt
      generalize zs[j] = x at e1
      obtain ⟨b, o, hA, _, hbb, ix, g1⟩ := hz.below hb j x e1
      subst hA
      have E1 := Lib.hid e1
      clear e1
      have CV := Lib.hid (isVar_any x)
      cases hv : inVar x
      · have HV := Lib.hid (allVars_of_not E1.out hv)
        rw [hv] at CV
        clear hv
        go_wp2_with fail
        refine (CV.out _).mono ?_
        rintro e w2 ⟨rfl, hb2⟩
        have hb3 := hb.trans (hb2.mono hb.size)
        clear hb hb2 g1
        go_wp2
        go_ret
        exact ⟨ret_bool (by simp [validOf, HV.out]), hb3⟩
      · obtain ⟨h0, h8⟩ := inVar_true hv
        have HV := Lib.hid hv
        rw [hv] at CV
        clear hv
        obtain ⟨v, rfl⟩ := Int.eq_ofNat_of_zero_le h0
        go_wp2_with fail
        refine (CV.out _).mono ?_
        rintro e w2 ⟨rfl, hb2⟩
        have hb3 := hb.trans (hb2.mono hb.size)
        have hrow2 := hrow.below hb2 (by omega)
        have hrE2 := hrE.below hb2 (by omega)
        have hsz2 : w.heap.size + 2 ≤ w2.heap.size := Nat.le_trans hsz hb2.size
        have q0 := hrow2.cell (HA.out v (by omega))
        have f0 := hrow2.free v
        generalize scopeOf (zs.take j) v = y at q0
        clear hb hb2 g1 hrow hrE
        go_wp2
        have htk : zs.take (j + 1) = zs.take j ++ [(v : Int)] := by rw [List.take_add_one, E1.out]; rfl
        refine ⟨⟨j + 1, _, by omega, by go_num, hrow2.put v _, by rw [Array.size_setIfInBounds]; exact HC.out, ?_, ?_, hrE2.apart (by dsimp only; omega) _, by simp [World.setCell]; omega, hb3.setCell (by dsimp only; omega) _⟩, by simp [intOf]; omega⟩
        · intro i hi
          rw [htk]
          by_cases hiv : i = v
          · subst hiv
            rw [Array.getElem?_setIfInBounds_self_of_lt (by rw [HC.out]; omega)]
            simp [scopeOf]
          · rw [Array.getElem?_setIfInBounds_ne (by omega), HA.out i hi]
            have : ¬ ((i : Int) = v) := by omega
            simp [scopeOf, this]
        · intro x hx
          rw [htk, List.mem_append] at hx
          rcases hx with hx | hx
          · exact HK.out x hx
          · rw [List.mem_singleton.1 hx]; exact HV.out
    · have e9 : zs.take j = zs := List.take_of_length_le (by omega)
      have h1 := HK.out
      have h2 := HA.out
      rw [e9] at h1 h2
      have h3 : allVars zs = true := by unfold allVars; rw [List.all_eq_true]; exact h1
      have HV := Lib.hid (show validOf op n k zs = nodeIs op n k (scopeOf zs) by simp [validOf, h3])
      have q0 := hrE.cell (i := 0) rfl
      have q1 := hrE.cell (i := 1) rfl
      have q2 := hrE.cell (i := 2) rfl
      have p0 := hrow.cell (h2 0 (by decide))
      have p1 := hrow.cell (h2 1 (by decide))
      have p2 := hrow.cell (h2 2 (by decide))
      have p3 := hrow.cell (h2 3 (by decide))
      have p4 := hrow.cell (h2 4 (by decide))
      have p5 := hrow.cell (h2 5 (by decide))
      have p6 := hrow.cell (h2 6 (by decide))
      have p7 := hrow.cell (h2 7 (by decide))
      have CW := Lib.hid (fun wr h => validWith_any op n k A c (scopeOf zs) wr h hlen)
      unfold arrB at CW
      clear e9 h1 h2 h3 HA HK
      go_wp2_with fail
      refine (CW.out _ ((hl.below hb).mono_ (Nat.le_refl _) hb.size)).mono ?_
      rintro e w2 ⟨rfl, hb2⟩
      have hb3 := hb.trans (hb2.mono hb.size)
      clear hb hb2 q0 q1 q2 p0 p1 p2 p3 p4 p5 p6 p7
      go_wp2
      go_ret
      exact ⟨ret_bool HV.out.symm, hb3⟩
end Go.Proofs.YtpknegneogdmfaaGreat

namespace Go.Proofs.YtpknegneogdmfaaGreat
open Go.RowKit
set_option maxRecDepth 100000

set_option maxHeartbeats 1000000 in
theorem l1Any_any (op n : Int) (k : Fo) (A : Option Addr) (c : Nat) (w : World) (hl : Lies w 0 w.heap.size A 0 k) (hlen : k.len ≤ maxLen) :
    Calls Tryz.prog 61 #[.agg #[.int .i64 op, .int .i64 n, .slice A k.len c]] w (Gives (.bool (nodeIs op n k (firstS 8))) w) := by
  have hb0 : Below w.heap.size w (w.alloc (Obj.cells #[Value.int IntKind.i64 op, Value.int IntKind.i64 n, Value.slice A k.len c] 36)).drew := ((Below.refl _ _).alloc (Nat.le_refl _) _).drew
  have hr0 := (Row.fresh w 36 #[Value.int IntKind.i64 op, Value.int IntKind.i64 n, Value.slice A k.len c]).drew
  have q0 := hr0.cell (i := 0) rfl
  have q1 := hr0.cell (i := 1) rfl
  have q2 := hr0.cell (i := 2) rfl
  have HB0 := Lib.hid hb0
  have hz : w.heap.size < (w.alloc (Obj.cells #[Value.int IntKind.i64 op, Value.int IntKind.i64 n, Value.slice A k.len c] 36)).drew.heap.size := by simp
  have HZ := Lib.hid hz
  have HL := Lib.hid hl
  have HLEN := Lib.hid hlen
  have h8 := l1First_any 8 (Nat.le_refl _) (w.alloc (Obj.cells #[Value.int IntKind.i64 op, Value.int IntKind.i64 n, Value.slice A k.len c] 36)).drew
  have H8 := Lib.hid h8
  clear hb0 hr0 hz hl hlen h8
  generalize hS : firstS 8 = S
  rw [hS] at H8
  clear hS
  go_enter Tryz.func61, Tryz.ntmps61
  go_wp2_with fail
  go_region_held3 (fun w' => w'.cell? ⟨w.heap.size, 0, none⟩ = some (.int .i64 op) ∧ w'.cell? ⟨w.heap.size, 1, none⟩ = some (.int .i64 n) ∧ w'.cell? ⟨w.heap.size, 2, none⟩ = some (.slice A k.len c))
    (first | exact ⟨q0, q1, q2⟩ | exact ⟨y0, y1, y2⟩ | exact ⟨u0, u1, u2⟩)
    (first
      | (go_at_call 42
         refine H8.out.mono ?_
         rintro e w3 ⟨A3, c3, rfl, hB3, hb3⟩
         have y0 := (hb3.cell (p := ⟨w.heap.size, 0, none⟩) HZ.out).trans q0
         have y1 := (hb3.cell (p := ⟨w.heap.size, 1, none⟩) HZ.out).trans q1
         have y2 := (hb3.cell (p := ⟨w.heap.size, 2, none⟩) HZ.out).trans q2)
      | (go_at_call 41
         refine (l1Is_any op n k A c S A3 c3 w3 ((HL.out.up HB0.out).up (hb3.mono HB0.out.size |> fun _ => hb3)) HLEN.out (hB3.mono_ (Nat.zero_le _) (Nat.le_refl _))).mono ?_
         rintro e w4 ⟨rfl, hb4⟩
         have u0 := (hb4.cell (p := ⟨w.heap.size, 0, none⟩) (Nat.lt_of_lt_of_le HZ.out hb3.size)).trans y0
         have u1 := (hb4.cell (p := ⟨w.heap.size, 1, none⟩) (Nat.lt_of_lt_of_le HZ.out hb3.size)).trans y1
         have u2 := (hb4.cell (p := ⟨w.heap.size, 2, none⟩) (Nat.lt_of_lt_of_le HZ.out hb3.size)).trans y2))
  have hb34 := HB0.out.trans ((hb3.trans (hb4.mono hb3.size)).mono HB0.out.size)
  clear hb3 hb4 hB3 q0 q1 q2 y0 y1 y2 u0 u1 u2 HB0 HZ HL H8
  go_wp2
  go_ret
  exact ⟨rfl, hb34⟩
end Go.Proofs.YtpknegneogdmfaaGreat
