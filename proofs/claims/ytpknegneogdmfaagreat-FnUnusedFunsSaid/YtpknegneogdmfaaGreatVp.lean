/-
  validPart: the kinds, numbers and variables of an expression are right, in a scope.
-/
import Derived.Test.YtpknegneogdmfaaGreatShape
namespace Go.Proofs.YtpknegneogdmfaaGreat
open Go.RowKit
set_option maxRecDepth 100000

/-- The name of the method fits, off the program's own table of types. -/
noncomputable def fitsName : String := ((match Tryz.prog.underlying 114 with | some (.interface ms) => ms | _ => #[]).getD 0 (String.ofList [], 0)).1

theorem meth_num (s : String) (hs : s = fitsName) (w : World) : (method 264 134 (.agg #[]) s).run Tryz.prog w = .ok (118, .agg #[]) w := by subst hs; kernel_rfl
theorem meth_var (s : String) (hs : s = fitsName) (w : World) : (method 264 135 (.agg #[]) s).run Tryz.prog w = .ok (120, .agg #[]) w := by subst hs; kernel_rfl
theorem meth_call (s : String) (hs : s = fitsName) (w : World) : (method 264 136 (.agg #[]) s).run Tryz.prog w = .ok (122, .agg #[]) w := by subst hs; kernel_rfl
theorem meth_let (s : String) (hs : s = fitsName) (w : World) : (method 264 138 (.agg #[]) s).run Tryz.prog w = .ok (126, .agg #[]) w := by subst hs; kernel_rfl
theorem meth_plain (s : String) (hs : s = fitsName) (a : Option Addr) (l c : Nat) (w : World) : (method 264 137 (.slice a l c) s).run Tryz.prog w = .ok (124, .slice a l c) w := by subst hs; kernel_rfl

def arrB (S : Nat → Bool) : Value := .agg #[.bool (S 0), .bool (S 1), .bool (S 2), .bool (S 3), .bool (S 4), .bool (S 5), .bool (S 6), .bool (S 7)]
def cellsB (S : Nat → Bool) : Array Value := #[.bool (S 0), .bool (S 1), .bool (S 2), .bool (S 3), .bool (S 4), .bool (S 5), .bool (S 6), .bool (S 7)]

/-- The nodes of a list, from the operand i of a parent on, have the right kinds, numbers and variables. -/
def vpF (op n : Int) : Nat → (Nat → Bool) → Fo → Bool
  | _, _, .nil => true
  | i, S, .cons o m k r => (kidsOk o k.len && ownOk o m (inner op n i S) && vpF o m 0 (inner op n i S) k) && vpF op n (i + 1) S r
def nodeVp (op n : Int) (k : Fo) (S : Nat → Bool) : Bool := kidsOk op k.len && ownOk op n S && vpF op n 0 S k

theorem plain_ok {op : Int} (h : isPlain op) (l : Nat) (n : Int) (S : Nat → Bool) : (kidsOk op l && ownOk op n S) = (decide (n = 0) && decide (l = plainOf op)) := by
  rcases h with rfl | rfl | rfl | rfl | rfl <;> (rw [Bool.eq_iff_iff]; simp [kidsOk, ownOk, plainOf]; exact And.comm)
theorem none_bad {op : Int} (h : ¬ isKind op) (k : Fo) (n : Int) (S : Nat → Bool) : nodeVp op n k S = false := by
  simp only [isKind, isPlain, not_or] at h
  have e : kidsOk op k.len = false := by unfold kidsOk; rw [if_neg (by omega), if_neg (by omega), if_neg (by omega), if_neg (by omega), if_neg (by omega)]
  simp [nodeVp, e]
theorem len_zero {k : Fo} (h : k.len = 0) : k = .nil := by cases k with | nil => rfl | cons _ _ _ _ => simp [Fo.len] at h

theorem node_1 (n : Int) (k : Fo) (S : Nat → Bool) : nodeVp 1 n k S = ((decide (0 ≤ n) && decide (n ≤ 99) && decide (k.len = 0)) && vpF 1 n 0 S k) := by
  unfold nodeVp; congr 1; rw [Bool.eq_iff_iff]; simp [kidsOk, ownOk]; omega
theorem node_2 (n : Int) (k : Fo) (S : Nat → Bool) : nodeVp 2 n k S = ((inVar n && decide (k.len = 0)) && S n.toNat && vpF 2 n 0 S k) := by
  unfold nodeVp; congr 1; rw [Bool.eq_iff_iff]; simp [kidsOk, ownOk]; constructor
  · rintro ⟨a, b, c⟩; exact ⟨⟨b, a⟩, c⟩
  · rintro ⟨⟨b, a⟩, c⟩; exact ⟨a, b, c⟩
theorem node_3 (n : Int) (k : Fo) (S : Nat → Bool) : nodeVp 3 n k S = ((inVar n && decide (k.len ≤ 3)) && vpF 3 n 0 S k) := by
  unfold nodeVp; congr 1; rw [Bool.eq_iff_iff]; simp [kidsOk, ownOk]; exact And.comm
theorem node_7 (n : Int) (k : Fo) (S : Nat → Bool) : nodeVp 7 n k S = ((inVar n && decide (k.len = 2)) && vpF 7 n 0 S k) := by
  unfold nodeVp; congr 1; rw [Bool.eq_iff_iff]; simp [kidsOk, ownOk]; exact And.comm

/-- validPart, for expressions with s nodes below the root. -/
def VpAt (s : Nat) : Prop := ∀ (op n : Int) (k : Fo) (A : Option Addr) (c : Nat) (S : Nat → Bool) (w : World), k.size = s → Lies w 0 w.heap.size A 0 k → k.len ≤ maxLen →
    Calls Tryz.prog 65 #[.agg #[.int .i64 op, .int .i64 n, .slice A k.len c], arrB S] w (Gives (.bool (nodeVp op n k S)) w)

theorem vp_none (op n : Int) (k : Fo) (A : Option Addr) (c : Nat) (S : Nat → Bool) (w : World) (hk : ¬ isKind op) :
    Calls Tryz.prog 65 #[.agg #[.int .i64 op, .int .i64 n, .slice A k.len c], arrB S] w (Gives (.bool (nodeVp op n k S)) w) := by
  rw [none_bad hk]
  have hb0 : Below w.heap.size w ((w.alloc (Obj.cells #[Value.int IntKind.i64 op, Value.int IntKind.i64 n, Value.slice A k.len c] 36)).alloc (Obj.cells (cellsB S) 85)) :=
    ((Below.refl _ _).alloc (Nat.le_refl _) _).alloc (by simp) _
  unfold cellsB at hb0
  have HF := Lib.hid (formOf_none op hk)
  clear hk
  unfold arrB
  go_enter Tryz.func65, Tryz.ntmps65
  go_wp2_with fail
  refine (HF.out _).mono ?_
  rintro e w2 ⟨rfl, hb2⟩
  have hb3 := hb0.trans (hb2.mono hb0.size)
  clear hb0 hb2
  go_wp2
  go_ret
  exact ⟨rfl, hb3⟩

set_option maxHeartbeats 2000000 in
theorem vp_1 (s : Nat) (ih : ∀ m, m < s → VpAt m) (n : Int) (k : Fo) (A : Option Addr) (c : Nat) (S : Nat → Bool) (w : World) (hs : k.size = s) (hl : Lies w 0 w.heap.size A 0 k) (hlen : k.len ≤ maxLen) :
    Calls Tryz.prog 65 #[.agg #[.int .i64 1, .int .i64 n, .slice A k.len c], arrB S] w (Gives (.bool (nodeVp 1 n k S)) w) := by
  have hb0 : Below w.heap.size w ((w.alloc (Obj.cells #[Value.int IntKind.i64 1, Value.int IntKind.i64 n, Value.slice A k.len c] 36)).alloc (Obj.cells (cellsB S) 85)) :=
    ((Below.refl _ _).alloc (Nat.le_refl _) _).alloc (by simp) _
  have hr0 := (Row.fresh w 36 #[Value.int IntKind.i64 1, Value.int IntKind.i64 n, Value.slice A k.len c]).alloc (Obj.cells (cellsB S) 85)
  have hk0 := Row.fresh (w.alloc (Obj.cells #[Value.int IntKind.i64 1, Value.int IntKind.i64 n, Value.slice A k.len c] 36)) 85 (cellsB S)
  rw [World.size_alloc] at hk0
  have hs0 : w.heap.size + 2 ≤ ((w.alloc (Obj.cells #[Value.int IntKind.i64 1, Value.int IntKind.i64 n, Value.slice A k.len c] 36)).alloc (Obj.cells (cellsB S) 85)).heap.size := by simp
  unfold cellsB at hb0 hr0 hk0 hs0
  have HF := Lib.hid (numFits n A k.len c hlen 1)
  have IH := Lib.hid ih
  clear ih
  unfold VpAt at IH
  unfold maxLen at hlen
  unfold arrB
  cases hf : (decide (0 ≤ n) && decide (n ≤ 99) && decide (k.len = 0))
  · have HV := Lib.hid (show nodeVp 1 n k S = false by rw [node_1, hf, Bool.false_and])
    have HFT := Lib.hid hf
    clear hf
    go_enter Tryz.func65, Tryz.ntmps65
    go_wp2_with fail
    refine (formOf_1 _).mono ?_
    rintro e w2 ⟨rfl, hb2⟩
    have hb3 := hb0.trans (hb2.mono hb0.size)
    have hr2 := hr0.below hb2 (by omega)
    have hk2 := hk0.below hb2 (by omega)
    have z2 : w.heap.size + 2 ≤ w2.heap.size := Nat.le_trans hs0 hb2.size
    have q0 := hr2.cell (i := 0) rfl
    have q1 := hr2.cell (i := 1) rfl
    have q2 := hr2.cell (i := 2) rfl
    clear hr0 hb0 hs0 hb2 hk0
    go_wp2_with fail
    rw [meth_num]
    case hs => kernel_rfl
    go_wp2_with fail
    refine (HF.out _).mono ?_
    rintro e w3 ⟨rfl, hb4⟩
    rw [HFT.out]
    have hb5 := hb3.trans (hb4.mono (by omega))
    clear hb3 hb4 q0 q1 q2 hr2 hk2
    go_wp2
    go_ret
    exact ⟨ret_bool HV.out.symm, hb5⟩
  · obtain rfl : k = .nil := len_zero (by simp at hf; exact hf.2)
    have HV := Lib.hid (show nodeVp 1 n Fo.nil S = true by simp at hf; simp [nodeVp, kidsOk, ownOk, vpF, Fo.len]; exact hf.1)
    have HFT := Lib.hid hf
    clear hf
    go_enter Tryz.func65, Tryz.ntmps65
    go_wp2_with fail
    refine (formOf_1 _).mono ?_
    rintro e w2 ⟨rfl, hb2⟩
    have hb3 := hb0.trans (hb2.mono hb0.size)
    have hr2 := hr0.below hb2 (by omega)
    have hk2 := hk0.below hb2 (by omega)
    have z2 : w.heap.size + 2 ≤ w2.heap.size := Nat.le_trans hs0 hb2.size
    have q0 := hr2.cell (i := 0) rfl
    have q1 := hr2.cell (i := 1) rfl
    have q2 := hr2.cell (i := 2) rfl
    clear hr0 hb0 hs0 hb2 hk0
    go_wp2_with fail
    rw [meth_num]
    case hs => kernel_rfl
    go_wp2_with fail
    refine (HF.out _).mono ?_
    rintro e w3 ⟨rfl, hb4⟩
    rw [HFT.out]
    have hb5 := hb3.trans (hb4.mono (by omega))
    have rE3 := hr2.below hb4 (by omega)
    have rK3 := hk2.below hb4 (by omega)
    have z3 : w.heap.size + 2 ≤ w3.heap.size := Nat.le_trans z2 hb4.size
    clear hb3 hb4 q0 q1 q2 hr2 hk2
    have q0 := rE3.cell (i := 0) rfl
    have q1 := rE3.cell (i := 1) rfl
    have q2 := rE3.cell (i := 2) rfl
    go_wp2_with fail
    clear q0 q1 q2
    go_loopw [39] (fun i wr => i = .int .i64 0 ∧ Below w.heap.size w wr) (fun _ _ => 0)
    case atStart => exact ⟨rfl, hb5⟩
    case round =>
      obtain ⟨rfl, hb⟩ := hrel
      go_wp2
      go_ret
      exact ⟨ret_bool HV.out.symm, hb⟩

set_option maxHeartbeats 2000000 in
theorem vp_2 (s : Nat) (ih : ∀ m, m < s → VpAt m) (n : Int) (k : Fo) (A : Option Addr) (c : Nat) (S : Nat → Bool) (w : World) (hs : k.size = s) (hl : Lies w 0 w.heap.size A 0 k) (hlen : k.len ≤ maxLen) :
    Calls Tryz.prog 65 #[.agg #[.int .i64 2, .int .i64 n, .slice A k.len c], arrB S] w (Gives (.bool (nodeVp 2 n k S)) w) := by
  have hb0 : Below w.heap.size w ((w.alloc (Obj.cells #[Value.int IntKind.i64 2, Value.int IntKind.i64 n, Value.slice A k.len c] 36)).alloc (Obj.cells (cellsB S) 85)) :=
    ((Below.refl _ _).alloc (Nat.le_refl _) _).alloc (by simp) _
  have hr0 := (Row.fresh w 36 #[Value.int IntKind.i64 2, Value.int IntKind.i64 n, Value.slice A k.len c]).alloc (Obj.cells (cellsB S) 85)
  have hk0 := Row.fresh (w.alloc (Obj.cells #[Value.int IntKind.i64 2, Value.int IntKind.i64 n, Value.slice A k.len c] 36)) 85 (cellsB S)
  rw [World.size_alloc] at hk0
  have hs0 : w.heap.size + 2 ≤ ((w.alloc (Obj.cells #[Value.int IntKind.i64 2, Value.int IntKind.i64 n, Value.slice A k.len c] 36)).alloc (Obj.cells (cellsB S) 85)).heap.size := by simp
  unfold cellsB at hb0 hr0 hk0 hs0
  have HF := Lib.hid (varFits n A k.len c hlen 2)
  have IH := Lib.hid ih
  clear ih
  unfold VpAt at IH
  unfold maxLen at hlen
  unfold arrB
  cases hf : (inVar n && decide (k.len = 0))
  · have HV := Lib.hid (show nodeVp 2 n k S = false by rw [node_2, hf, Bool.false_and, Bool.false_and])
    have HFT := Lib.hid hf
    clear hf
    go_enter Tryz.func65, Tryz.ntmps65
    go_wp2_with fail
    refine (formOf_2 _).mono ?_
    rintro e w2 ⟨rfl, hb2⟩
    have hb3 := hb0.trans (hb2.mono hb0.size)
    have hr2 := hr0.below hb2 (by omega)
    have hk2 := hk0.below hb2 (by omega)
    have z2 : w.heap.size + 2 ≤ w2.heap.size := Nat.le_trans hs0 hb2.size
    have q0 := hr2.cell (i := 0) rfl
    have q1 := hr2.cell (i := 1) rfl
    have q2 := hr2.cell (i := 2) rfl
    clear hr0 hb0 hs0 hb2 hk0
    go_wp2_with fail
    rw [meth_var]
    case hs => kernel_rfl
    go_wp2_with fail
    refine (HF.out _).mono ?_
    rintro e w3 ⟨rfl, hb4⟩
    rw [HFT.out]
    have hb5 := hb3.trans (hb4.mono (by omega))
    clear hb3 hb4 q0 q1 q2 hr2 hk2
    go_wp2
    go_ret
    exact ⟨ret_bool HV.out.symm, hb5⟩
  · obtain rfl : k = .nil := len_zero (by simp at hf; exact hf.2)
    have hv : inVar n = true := by simp at hf; exact hf.1
    obtain ⟨hn0, hn8⟩ := inVar_true hv
    obtain ⟨v, rfl⟩ := Int.eq_ofNat_of_zero_le hn0
    have HVI := Lib.hid hv
    clear hv
    cases hS : S v
    · have HV := Lib.hid (show nodeVp 2 (v : Int) Fo.nil S = false by simp [nodeVp, kidsOk, ownOk, vpF, Fo.len, hS])
      have HFT := Lib.hid hf
      clear hf
      go_enter Tryz.func65, Tryz.ntmps65
      go_wp2_with fail
      refine (formOf_2 _).mono ?_
      rintro e w2 ⟨rfl, hb2⟩
      have hb3 := hb0.trans (hb2.mono hb0.size)
      have hr2 := hr0.below hb2 (by omega)
      have hk2 := hk0.below hb2 (by omega)
      have z2 : w.heap.size + 2 ≤ w2.heap.size := Nat.le_trans hs0 hb2.size
      have q0 := hr2.cell (i := 0) rfl
      have q1 := hr2.cell (i := 1) rfl
      have q2 := hr2.cell (i := 2) rfl
      clear hr0 hb0 hs0 hb2 hk0
      go_wp2_with fail
      rw [meth_var]
      case hs => kernel_rfl
      go_wp2_with fail
      refine (HF.out _).mono ?_
      rintro e w3 ⟨rfl, hb4⟩
      rw [HFT.out]
      have hb5 := hb3.trans (hb4.mono (by omega))
      have rE3 := hr2.below hb4 (by omega)
      have rK3 := hk2.below hb4 (by omega)
      have z3 : w.heap.size + 2 ≤ w3.heap.size := Nat.le_trans z2 hb4.size
      clear hb3 hb4 q0 q1 q2 hr2 hk2
      have q0 := rE3.cell (i := 0) rfl
      have q1 := rE3.cell (i := 1) rfl
      have q2 := rE3.cell (i := 2) rfl
      have k0 : w3.cell? ⟨w.heap.size + 1, v, none⟩ = some (.bool false) := by
        refine rK3.cell ?_
        have hv8 : v = 0 ∨ v = 1 ∨ v = 2 ∨ v = 3 ∨ v = 4 ∨ v = 5 ∨ v = 6 ∨ v = 7 := by omega
        rcases hv8 with rfl | rfl | rfl | rfl | rfl | rfl | rfl | rfl <;> simp [hS]
      clear hS
      go_wp2
      go_ret
      exact ⟨ret_bool HV.out.symm, hb5⟩
    · have HV := Lib.hid (show nodeVp 2 (v : Int) Fo.nil S = true by simp [nodeVp, kidsOk, ownOk, vpF, Fo.len, hS, HVI.out])
      have HFT := Lib.hid hf
      clear hf
      go_enter Tryz.func65, Tryz.ntmps65
      go_wp2_with fail
      refine (formOf_2 _).mono ?_
      rintro e w2 ⟨rfl, hb2⟩
      have hb3 := hb0.trans (hb2.mono hb0.size)
      have hr2 := hr0.below hb2 (by omega)
      have hk2 := hk0.below hb2 (by omega)
      have z2 : w.heap.size + 2 ≤ w2.heap.size := Nat.le_trans hs0 hb2.size
      have q0 := hr2.cell (i := 0) rfl
      have q1 := hr2.cell (i := 1) rfl
      have q2 := hr2.cell (i := 2) rfl
      clear hr0 hb0 hs0 hb2 hk0
      go_wp2_with fail
      rw [meth_var]
      case hs => kernel_rfl
      go_wp2_with fail
      refine (HF.out _).mono ?_
      rintro e w3 ⟨rfl, hb4⟩
      rw [HFT.out]
      have hb5 := hb3.trans (hb4.mono (by omega))
      have rE3 := hr2.below hb4 (by omega)
      have rK3 := hk2.below hb4 (by omega)
      have z3 : w.heap.size + 2 ≤ w3.heap.size := Nat.le_trans z2 hb4.size
      clear hb3 hb4 q0 q1 q2 hr2 hk2
      have q0 := rE3.cell (i := 0) rfl
      have q1 := rE3.cell (i := 1) rfl
      have q2 := rE3.cell (i := 2) rfl
      have k0 : w3.cell? ⟨w.heap.size + 1, v, none⟩ = some (.bool true) := by
        refine rK3.cell ?_
        have hv8 : v = 0 ∨ v = 1 ∨ v = 2 ∨ v = 3 ∨ v = 4 ∨ v = 5 ∨ v = 6 ∨ v = 7 := by omega
        rcases hv8 with rfl | rfl | rfl | rfl | rfl | rfl | rfl | rfl <;> simp [hS]
      clear hS
      go_wp2_with fail
      clear q0 q1 q2 k0
      go_loopw [39] (fun i wr => i = .int .i64 0 ∧ Below w.heap.size w wr) (fun _ _ => 0)
      case atStart => exact ⟨rfl, hb5⟩
      case round =>
        obtain ⟨rfl, hb⟩ := hrel
        go_wp2
        go_ret
        exact ⟨ret_bool HV.out.symm, hb⟩

set_option maxHeartbeats 2000000 in
theorem vp_3 (s : Nat) (ih : ∀ m, m < s → VpAt m) (n : Int) (k : Fo) (A : Option Addr) (c : Nat) (S : Nat → Bool) (w : World) (hs : k.size = s) (hl : Lies w 0 w.heap.size A 0 k) (hlen : k.len ≤ maxLen) :
    Calls Tryz.prog 65 #[.agg #[.int .i64 3, .int .i64 n, .slice A k.len c], arrB S] w (Gives (.bool (nodeVp 3 n k S)) w) := by
  have hb0 : Below w.heap.size w ((w.alloc (Obj.cells #[Value.int IntKind.i64 3, Value.int IntKind.i64 n, Value.slice A k.len c] 36)).alloc (Obj.cells (cellsB S) 85)) :=
    ((Below.refl _ _).alloc (Nat.le_refl _) _).alloc (by simp) _
  have hr0 := (Row.fresh w 36 #[Value.int IntKind.i64 3, Value.int IntKind.i64 n, Value.slice A k.len c]).alloc (Obj.cells (cellsB S) 85)
  have hk0 := Row.fresh (w.alloc (Obj.cells #[Value.int IntKind.i64 3, Value.int IntKind.i64 n, Value.slice A k.len c] 36)) 85 (cellsB S)
  rw [World.size_alloc] at hk0
  have hs0 : w.heap.size + 2 ≤ ((w.alloc (Obj.cells #[Value.int IntKind.i64 3, Value.int IntKind.i64 n, Value.slice A k.len c] 36)).alloc (Obj.cells (cellsB S) 85)).heap.size := by simp
  unfold cellsB at hb0 hr0 hk0 hs0
  have HF := Lib.hid (callFits n A k.len c hlen 3)
  have IH := Lib.hid ih
  clear ih
  unfold VpAt at IH
  unfold maxLen at hlen
  unfold arrB
  cases hf : (inVar n && decide (k.len ≤ 3))
  · have HV := Lib.hid (show nodeVp 3 n k S = false by rw [node_3, hf, Bool.false_and])
    have HFT := Lib.hid hf
    clear hf
    go_enter Tryz.func65, Tryz.ntmps65
    go_wp2_with fail
    refine (formOf_3 _).mono ?_
    rintro e w2 ⟨rfl, hb2⟩
    have hb3 := hb0.trans (hb2.mono hb0.size)
    have hr2 := hr0.below hb2 (by omega)
    have hk2 := hk0.below hb2 (by omega)
    have z2 : w.heap.size + 2 ≤ w2.heap.size := Nat.le_trans hs0 hb2.size
    have q0 := hr2.cell (i := 0) rfl
    have q1 := hr2.cell (i := 1) rfl
    have q2 := hr2.cell (i := 2) rfl
    clear hr0 hb0 hs0 hb2 hk0
    go_wp2_with fail
    rw [meth_call]
    case hs => kernel_rfl
    go_wp2_with fail
    refine (HF.out _).mono ?_
    rintro e w3 ⟨rfl, hb4⟩
    rw [HFT.out]
    have hb5 := hb3.trans (hb4.mono (by omega))
    clear hb3 hb4 q0 q1 q2 hr2 hk2
    go_wp2
    go_ret
    exact ⟨ret_bool HV.out.symm, hb5⟩
  · have HV := Lib.hid (show nodeVp 3 n k S = vpF 3 n 0 S k by rw [node_3, hf, Bool.true_and])
    have HFT := Lib.hid hf
    clear hf
    go_enter Tryz.func65, Tryz.ntmps65
    go_wp2_with fail
    refine (formOf_3 _).mono ?_
    rintro e w2 ⟨rfl, hb2⟩
    have hb3 := hb0.trans (hb2.mono hb0.size)
    have hr2 := hr0.below hb2 (by omega)
    have hk2 := hk0.below hb2 (by omega)
    have z2 : w.heap.size + 2 ≤ w2.heap.size := Nat.le_trans hs0 hb2.size
    have q0 := hr2.cell (i := 0) rfl
    have q1 := hr2.cell (i := 1) rfl
    have q2 := hr2.cell (i := 2) rfl
    clear hr0 hb0 hs0 hb2 hk0
    go_wp2_with fail
    rw [meth_call]
    case hs => kernel_rfl
    go_wp2_with fail
    refine (HF.out _).mono ?_
    rintro e w3 ⟨rfl, hb4⟩
    rw [HFT.out]
    have hb5 := hb3.trans (hb4.mono (by omega))
    have rE3 := hr2.below hb4 (by omega)
    have rK3 := hk2.below hb4 (by omega)
    have z3 : w.heap.size + 2 ≤ w3.heap.size := Nat.le_trans z2 hb4.size
    clear hb3 hb4 q0 q1 q2 hr2 hk2
    have q0 := rE3.cell (i := 0) rfl
    have q1 := rE3.cell (i := 1) rfl
    have q2 := rE3.cell (i := 2) rfl
    go_wp2_with fail
    clear q0 q1 q2
    go_loopw [39] (fun i wr => ∃ j : Nat, j ≤ k.len ∧ i = .int .i64 j ∧ vpF 3 n 0 S k = vpF 3 n j S (k.drop j) ∧ Row wr w.heap.size 36 #[Value.int IntKind.i64 3, Value.int IntKind.i64 n, Value.slice A k.len c] ∧ Row wr (w.heap.size + 1) 85 (cellsB S) ∧ w.heap.size + 2 ≤ wr.heap.size ∧ Below w.heap.size w wr)
      (fun i _ => k.len - (intOf i).toNat)
    case atStart => exact ⟨0, by omega, rfl, by rw [Fo.drop_zero], rE3, rK3, z3, hb5⟩
    case round =>
      clear rE3 rK3 z3 hb5
      obtain ⟨j, hj, rfl, hx, rE, rK, hsz, hb⟩ := hrel
      have HX := Lib.hid hx
      clear hx
      by_cases hlt : j < k.len
      · obtain ⟨op', n', k', e1, e2, e3⟩ := Fo.drop_of_lt k j hlt
        have hj' := (hl.below hb).at_ j
        rw [Nat.zero_add, e1] at hj'
        obtain ⟨⟨b, o, A', c', hA, _, hbb, i1, i2, g1, g2, g3, h1, h2, h3⟩, _⟩ := hj'
        have hz := HX.out
        rw [e1] at hz
        simp only [vpF] at hz
        have HZ := Lib.hid hz
        have HL3 := Lib.hid h3
        clear HX e1 e3 hz h3
        subst hA
        have q0 : ((wr.alloc (Obj.cells #[Value.int IntKind.i64 op', Value.int IntKind.i64 n', Value.slice A' k'.len c'] 36)).alloc (Obj.cells #[.bool (S 0), .bool (S 1), .bool (S 2), .bool (S 3), .bool (S 4), .bool (S 5), .bool (S 6), .bool (S 7)] 85)).cell? ⟨w.heap.size, 0, none⟩ = some (.int .i64 3) := ((rE.alloc _).alloc _).cell rfl
        have q1 : ((wr.alloc (Obj.cells #[Value.int IntKind.i64 op', Value.int IntKind.i64 n', Value.slice A' k'.len c'] 36)).alloc (Obj.cells #[.bool (S 0), .bool (S 1), .bool (S 2), .bool (S 3), .bool (S 4), .bool (S 5), .bool (S 6), .bool (S 7)] 85)).cell? ⟨w.heap.size, 1, none⟩ = some (.int .i64 n) := ((rE.alloc _).alloc _).cell rfl
        have q2 : ((wr.alloc (Obj.cells #[Value.int IntKind.i64 op', Value.int IntKind.i64 n', Value.slice A' k'.len c'] 36)).alloc (Obj.cells #[.bool (S 0), .bool (S 1), .bool (S 2), .bool (S 3), .bool (S 4), .bool (S 5), .bool (S 6), .bool (S 7)] 85)).cell? ⟨w.heap.size, 2, none⟩ = some (.slice (some ⟨b, o, none⟩) k.len c) := ((rE.alloc _).alloc _).cell rfl
        have p0 : (wr.alloc (Obj.cells #[Value.int IntKind.i64 op', Value.int IntKind.i64 n', Value.slice A' k'.len c'] 36)).cell? ⟨w.heap.size + 1, 0, none⟩ = some (.bool (S 0)) := (rK.alloc _).cell rfl
        have p1 : (wr.alloc (Obj.cells #[Value.int IntKind.i64 op', Value.int IntKind.i64 n', Value.slice A' k'.len c'] 36)).cell? ⟨w.heap.size + 1, 1, none⟩ = some (.bool (S 1)) := (rK.alloc _).cell rfl
        have p2 : (wr.alloc (Obj.cells #[Value.int IntKind.i64 op', Value.int IntKind.i64 n', Value.slice A' k'.len c'] 36)).cell? ⟨w.heap.size + 1, 2, none⟩ = some (.bool (S 2)) := (rK.alloc _).cell rfl
        have p3 : (wr.alloc (Obj.cells #[Value.int IntKind.i64 op', Value.int IntKind.i64 n', Value.slice A' k'.len c'] 36)).cell? ⟨w.heap.size + 1, 3, none⟩ = some (.bool (S 3)) := (rK.alloc _).cell rfl
        have p4 : (wr.alloc (Obj.cells #[Value.int IntKind.i64 op', Value.int IntKind.i64 n', Value.slice A' k'.len c'] 36)).cell? ⟨w.heap.size + 1, 4, none⟩ = some (.bool (S 4)) := (rK.alloc _).cell rfl
        have p5 : (wr.alloc (Obj.cells #[Value.int IntKind.i64 op', Value.int IntKind.i64 n', Value.slice A' k'.len c'] 36)).cell? ⟨w.heap.size + 1, 5, none⟩ = some (.bool (S 5)) := (rK.alloc _).cell rfl
        have p6 : (wr.alloc (Obj.cells #[Value.int IntKind.i64 op', Value.int IntKind.i64 n', Value.slice A' k'.len c'] 36)).cell? ⟨w.heap.size + 1, 6, none⟩ = some (.bool (S 6)) := (rK.alloc _).cell rfl
        have p7 : (wr.alloc (Obj.cells #[Value.int IntKind.i64 op', Value.int IntKind.i64 n', Value.slice A' k'.len c'] 36)).cell? ⟨w.heap.size + 1, 7, none⟩ = some (.bool (S 7)) := (rK.alloc _).cell rfl
        have b4 : Below w.heap.size w ((wr.alloc (Obj.cells #[Value.int IntKind.i64 op', Value.int IntKind.i64 n', Value.slice A' k'.len c'] 36)).alloc (Obj.cells (cellsB S) 85)) := (hb.alloc (by omega) _).alloc (by simp; omega) _
        have z4 : wr.heap.size + 2 ≤ ((wr.alloc (Obj.cells #[Value.int IntKind.i64 op', Value.int IntKind.i64 n', Value.slice A' k'.len c'] 36)).alloc (Obj.cells (cellsB S) 85)).heap.size := by simp
        have rE4 := (rE.alloc (Obj.cells #[Value.int IntKind.i64 op', Value.int IntKind.i64 n', Value.slice A' k'.len c'] 36)).alloc (Obj.cells (cellsB S) 85)
        have rK4 := (rK.alloc (Obj.cells #[Value.int IntKind.i64 op', Value.int IntKind.i64 n', Value.slice A' k'.len c'] 36)).alloc (Obj.cells (cellsB S) 85)
        have rX4 := (Row.fresh wr 36 #[Value.int IntKind.i64 op', Value.int IntKind.i64 n', Value.slice A' k'.len c']).alloc (Obj.cells (cellsB S) 85)
        have rY4 := Row.fresh (wr.alloc (Obj.cells #[Value.int IntKind.i64 op', Value.int IntKind.i64 n', Value.slice A' k'.len c'] 36)) 85 (cellsB S)
        rw [World.size_alloc] at rY4
        have HB4 := Lib.hid b4
        have HE4 := Lib.hid rE4
        have HK4 := Lib.hid rK4
        have HX4 := Lib.hid rX4
        have HY4 := Lib.hid rY4
        have HL4 := Lib.hid ((HL3.out.keep (w' := (wr.alloc (Obj.cells #[Value.int IntKind.i64 op', Value.int IntKind.i64 n', Value.slice A' k'.len c'] 36)).alloc (Obj.cells (cellsB S) 85)) (Nat.le_refl _) (Nat.le_refl _) (fun p _ hp => (World.cell?_alloc_lt _ _ p (by simp; omega)).trans (World.cell?_alloc_lt wr _ p (by omega)))))
        clear b4 rE4 rK4 rX4 rY4 HL3 rE rK
        unfold cellsB at HB4 HE4 HK4 HX4 HY4 HL4 z4
        go_wp2_with fail
        refine (bindsIn_any 3 n _ (j : Int) _).mono ?_
        rintro e w5 ⟨rfl, hb5'⟩
        have hb5 := HB4.out.trans (hb5'.mono HB4.out.size)
        have z5 := Nat.le_trans (show w.heap.size + 2 ≤ _ by omega) hb5'.size
        have z5' := Nat.le_trans z4 hb5'.size
        have rE5 := HE4.out.below hb5' (by omega)
        have rK5 := HK4.out.below hb5' (by omega)
        have rX5 := HX4.out.below hb5' (by omega)
        have rY5 := HY4.out.below hb5' (by omega)
        have HL5 := Lib.hid ((HL4.out.below (hb5'.mono (by omega))).mono_ (Nat.le_refl _) (show w.heap.size ≤ w5.heap.size by omega))
        clear hb5' HB4 HE4 HK4 HX4 HY4 HL4 q0 q1 q2 p0 p1 p2 p3 p4 p5 p6 p7 g1 g2 g3 z4
        have hbi : binds 3 (j : Int) = false := by simp [binds]
        rw [hbi]
        have hin : inner 3 n j S = S := by simp [inner]
        have hz := HZ.out
        rw [hin] at hz
        clear HZ hbi hin
        have HZ := Lib.hid hz
        clear hz
        have x0 := rX5.cell (i := 0) rfl
        have x1 := rX5.cell (i := 1) rfl
        have x2 := rX5.cell (i := 2) rfl
        have y0 := rY5.cell (i := 0) rfl
        have y1 := rY5.cell (i := 1) rfl
        have y2 := rY5.cell (i := 2) rfl
        have y3 := rY5.cell (i := 3) rfl
        have y4 := rY5.cell (i := 4) rfl
        have y5 := rY5.cell (i := 5) rfl
        have y6 := rY5.cell (i := 6) rfl
        have y7 := rY5.cell (i := 7) rfl
        cases hN4 : nodeVp op' n' k' S
        all_goals
          have HN := Lib.hid hN4
          clear hN4
          clear rX5 rY5
          go_wp2_with fail
          refine (IH.out k'.size (by omega) op' n' k' A' c' (S) _ rfl ?_ (by omega)).mono ?_
          · exact HL5.out
          rintro e w6 ⟨rfl, hb6⟩
          rw [HN.out]
          have hb7 := hb5.trans (hb6.mono hb5.size)
          have rE6 := rE5.below hb6 (by omega)
          have rK6 := rK5.below hb6 (by omega)
          have z6 : w.heap.size + 2 ≤ w6.heap.size := Nat.le_trans z5 hb6.size
          clear hb6 hb5 rE5 rK5 z5 x0 x1 x2 y0 y1 y2 y3 y4 y5 y6 y7 HL5
          go_wp2
        · go_ret
          have hz := HZ.out
          have hn := HN.out
          simp only [nodeVp] at hn
          rw [hn, Bool.false_and] at hz
          exact ⟨ret_bool (by rw [HV.out, hz]), hb7⟩
        · have hz := HZ.out
          have hn := HN.out
          simp only [nodeVp] at hn
          rw [hn, Bool.true_and] at hz
          have HZ2 := Lib.hid hz
          clear hz hn
          go_roundw
          case rel => exact ⟨j + 1, by omega, by go_num, HZ2.out, rE6, rK6, z6, hb7⟩
          case measure => simp [intOf]; omega
      · have e9 : j = k.len := by omega
        go_wp2
        go_ret
        have hz := HX.out
        rw [e9, Fo.drop_len] at hz
        exact ⟨ret_bool (by rw [HV.out, hz]; rfl), hb⟩

set_option maxHeartbeats 2000000 in
theorem vp_7 (s : Nat) (ih : ∀ m, m < s → VpAt m) (n : Int) (k : Fo) (A : Option Addr) (c : Nat) (S : Nat → Bool) (w : World) (hs : k.size = s) (hl : Lies w 0 w.heap.size A 0 k) (hlen : k.len ≤ maxLen) :
    Calls Tryz.prog 65 #[.agg #[.int .i64 7, .int .i64 n, .slice A k.len c], arrB S] w (Gives (.bool (nodeVp 7 n k S)) w) := by
  have hb0 : Below w.heap.size w ((w.alloc (Obj.cells #[Value.int IntKind.i64 7, Value.int IntKind.i64 n, Value.slice A k.len c] 36)).alloc (Obj.cells (cellsB S) 85)) :=
    ((Below.refl _ _).alloc (Nat.le_refl _) _).alloc (by simp) _
  have hr0 := (Row.fresh w 36 #[Value.int IntKind.i64 7, Value.int IntKind.i64 n, Value.slice A k.len c]).alloc (Obj.cells (cellsB S) 85)
  have hk0 := Row.fresh (w.alloc (Obj.cells #[Value.int IntKind.i64 7, Value.int IntKind.i64 n, Value.slice A k.len c] 36)) 85 (cellsB S)
  rw [World.size_alloc] at hk0
  have hs0 : w.heap.size + 2 ≤ ((w.alloc (Obj.cells #[Value.int IntKind.i64 7, Value.int IntKind.i64 n, Value.slice A k.len c] 36)).alloc (Obj.cells (cellsB S) 85)).heap.size := by simp
  unfold cellsB at hb0 hr0 hk0 hs0
  have HF := Lib.hid (letFits n A k.len c hlen 7)
  have IH := Lib.hid ih
  clear ih
  unfold VpAt at IH
  unfold maxLen at hlen
  unfold arrB
  cases hf : (inVar n && decide (k.len = 2))
  · have HV := Lib.hid (show nodeVp 7 n k S = false by rw [node_7, hf, Bool.false_and])
    have HFT := Lib.hid hf
    clear hf
    go_enter Tryz.func65, Tryz.ntmps65
    go_wp2_with fail
    refine (formOf_7 _).mono ?_
    rintro e w2 ⟨rfl, hb2⟩
    have hb3 := hb0.trans (hb2.mono hb0.size)
    have hr2 := hr0.below hb2 (by omega)
    have hk2 := hk0.below hb2 (by omega)
    have z2 : w.heap.size + 2 ≤ w2.heap.size := Nat.le_trans hs0 hb2.size
    have q0 := hr2.cell (i := 0) rfl
    have q1 := hr2.cell (i := 1) rfl
    have q2 := hr2.cell (i := 2) rfl
    clear hr0 hb0 hs0 hb2 hk0
    go_wp2_with fail
    rw [meth_let]
    case hs => kernel_rfl
    go_wp2_with fail
    refine (HF.out _).mono ?_
    rintro e w3 ⟨rfl, hb4⟩
    rw [HFT.out]
    have hb5 := hb3.trans (hb4.mono (by omega))
    clear hb3 hb4 q0 q1 q2 hr2 hk2
    go_wp2
    go_ret
    exact ⟨ret_bool HV.out.symm, hb5⟩
  · have HV := Lib.hid (show nodeVp 7 n k S = vpF 7 n 0 S k by rw [node_7, hf, Bool.true_and])
    have HFT := Lib.hid hf
    clear hf
    go_enter Tryz.func65, Tryz.ntmps65
    go_wp2_with fail
    refine (formOf_7 _).mono ?_
    rintro e w2 ⟨rfl, hb2⟩
    have hb3 := hb0.trans (hb2.mono hb0.size)
    have hr2 := hr0.below hb2 (by omega)
    have hk2 := hk0.below hb2 (by omega)
    have z2 : w.heap.size + 2 ≤ w2.heap.size := Nat.le_trans hs0 hb2.size
    have q0 := hr2.cell (i := 0) rfl
    have q1 := hr2.cell (i := 1) rfl
    have q2 := hr2.cell (i := 2) rfl
    clear hr0 hb0 hs0 hb2 hk0
    go_wp2_with fail
    rw [meth_let]
    case hs => kernel_rfl
    go_wp2_with fail
    refine (HF.out _).mono ?_
    rintro e w3 ⟨rfl, hb4⟩
    rw [HFT.out]
    have hb5 := hb3.trans (hb4.mono (by omega))
    have rE3 := hr2.below hb4 (by omega)
    have rK3 := hk2.below hb4 (by omega)
    have z3 : w.heap.size + 2 ≤ w3.heap.size := Nat.le_trans z2 hb4.size
    clear hb3 hb4 q0 q1 q2 hr2 hk2
    have q0 := rE3.cell (i := 0) rfl
    have q1 := rE3.cell (i := 1) rfl
    have q2 := rE3.cell (i := 2) rfl
    go_wp2_with fail
    clear q0 q1 q2
    go_loopw [39] (fun i wr => ∃ j : Nat, j ≤ k.len ∧ i = .int .i64 j ∧ vpF 7 n 0 S k = vpF 7 n j S (k.drop j) ∧ Row wr w.heap.size 36 #[Value.int IntKind.i64 7, Value.int IntKind.i64 n, Value.slice A k.len c] ∧ Row wr (w.heap.size + 1) 85 (cellsB S) ∧ w.heap.size + 2 ≤ wr.heap.size ∧ Below w.heap.size w wr)
      (fun i _ => k.len - (intOf i).toNat)
    case atStart => exact ⟨0, by omega, rfl, by rw [Fo.drop_zero], rE3, rK3, z3, hb5⟩
    case round =>
      clear rE3 rK3 z3 hb5
      obtain ⟨j, hj, rfl, hx, rE, rK, hsz, hb⟩ := hrel
      have HX := Lib.hid hx
      clear hx
      by_cases hlt : j < k.len
      · obtain ⟨op', n', k', e1, e2, e3⟩ := Fo.drop_of_lt k j hlt
        have hj' := (hl.below hb).at_ j
        rw [Nat.zero_add, e1] at hj'
        obtain ⟨⟨b, o, A', c', hA, _, hbb, i1, i2, g1, g2, g3, h1, h2, h3⟩, _⟩ := hj'
        have hz := HX.out
        rw [e1] at hz
        simp only [vpF] at hz
        have HZ := Lib.hid hz
        have HL3 := Lib.hid h3
        clear HX e1 e3 hz h3
        subst hA
        have q0 : ((wr.alloc (Obj.cells #[Value.int IntKind.i64 op', Value.int IntKind.i64 n', Value.slice A' k'.len c'] 36)).alloc (Obj.cells #[.bool (S 0), .bool (S 1), .bool (S 2), .bool (S 3), .bool (S 4), .bool (S 5), .bool (S 6), .bool (S 7)] 85)).cell? ⟨w.heap.size, 0, none⟩ = some (.int .i64 7) := ((rE.alloc _).alloc _).cell rfl
        have q1 : ((wr.alloc (Obj.cells #[Value.int IntKind.i64 op', Value.int IntKind.i64 n', Value.slice A' k'.len c'] 36)).alloc (Obj.cells #[.bool (S 0), .bool (S 1), .bool (S 2), .bool (S 3), .bool (S 4), .bool (S 5), .bool (S 6), .bool (S 7)] 85)).cell? ⟨w.heap.size, 1, none⟩ = some (.int .i64 n) := ((rE.alloc _).alloc _).cell rfl
        have q2 : ((wr.alloc (Obj.cells #[Value.int IntKind.i64 op', Value.int IntKind.i64 n', Value.slice A' k'.len c'] 36)).alloc (Obj.cells #[.bool (S 0), .bool (S 1), .bool (S 2), .bool (S 3), .bool (S 4), .bool (S 5), .bool (S 6), .bool (S 7)] 85)).cell? ⟨w.heap.size, 2, none⟩ = some (.slice (some ⟨b, o, none⟩) k.len c) := ((rE.alloc _).alloc _).cell rfl
        have p0 : (wr.alloc (Obj.cells #[Value.int IntKind.i64 op', Value.int IntKind.i64 n', Value.slice A' k'.len c'] 36)).cell? ⟨w.heap.size + 1, 0, none⟩ = some (.bool (S 0)) := (rK.alloc _).cell rfl
        have p1 : (wr.alloc (Obj.cells #[Value.int IntKind.i64 op', Value.int IntKind.i64 n', Value.slice A' k'.len c'] 36)).cell? ⟨w.heap.size + 1, 1, none⟩ = some (.bool (S 1)) := (rK.alloc _).cell rfl
        have p2 : (wr.alloc (Obj.cells #[Value.int IntKind.i64 op', Value.int IntKind.i64 n', Value.slice A' k'.len c'] 36)).cell? ⟨w.heap.size + 1, 2, none⟩ = some (.bool (S 2)) := (rK.alloc _).cell rfl
        have p3 : (wr.alloc (Obj.cells #[Value.int IntKind.i64 op', Value.int IntKind.i64 n', Value.slice A' k'.len c'] 36)).cell? ⟨w.heap.size + 1, 3, none⟩ = some (.bool (S 3)) := (rK.alloc _).cell rfl
        have p4 : (wr.alloc (Obj.cells #[Value.int IntKind.i64 op', Value.int IntKind.i64 n', Value.slice A' k'.len c'] 36)).cell? ⟨w.heap.size + 1, 4, none⟩ = some (.bool (S 4)) := (rK.alloc _).cell rfl
        have p5 : (wr.alloc (Obj.cells #[Value.int IntKind.i64 op', Value.int IntKind.i64 n', Value.slice A' k'.len c'] 36)).cell? ⟨w.heap.size + 1, 5, none⟩ = some (.bool (S 5)) := (rK.alloc _).cell rfl
        have p6 : (wr.alloc (Obj.cells #[Value.int IntKind.i64 op', Value.int IntKind.i64 n', Value.slice A' k'.len c'] 36)).cell? ⟨w.heap.size + 1, 6, none⟩ = some (.bool (S 6)) := (rK.alloc _).cell rfl
        have p7 : (wr.alloc (Obj.cells #[Value.int IntKind.i64 op', Value.int IntKind.i64 n', Value.slice A' k'.len c'] 36)).cell? ⟨w.heap.size + 1, 7, none⟩ = some (.bool (S 7)) := (rK.alloc _).cell rfl
        have b4 : Below w.heap.size w ((wr.alloc (Obj.cells #[Value.int IntKind.i64 op', Value.int IntKind.i64 n', Value.slice A' k'.len c'] 36)).alloc (Obj.cells (cellsB S) 85)) := (hb.alloc (by omega) _).alloc (by simp; omega) _
        have z4 : wr.heap.size + 2 ≤ ((wr.alloc (Obj.cells #[Value.int IntKind.i64 op', Value.int IntKind.i64 n', Value.slice A' k'.len c'] 36)).alloc (Obj.cells (cellsB S) 85)).heap.size := by simp
        have rE4 := (rE.alloc (Obj.cells #[Value.int IntKind.i64 op', Value.int IntKind.i64 n', Value.slice A' k'.len c'] 36)).alloc (Obj.cells (cellsB S) 85)
        have rK4 := (rK.alloc (Obj.cells #[Value.int IntKind.i64 op', Value.int IntKind.i64 n', Value.slice A' k'.len c'] 36)).alloc (Obj.cells (cellsB S) 85)
        have rX4 := (Row.fresh wr 36 #[Value.int IntKind.i64 op', Value.int IntKind.i64 n', Value.slice A' k'.len c']).alloc (Obj.cells (cellsB S) 85)
        have rY4 := Row.fresh (wr.alloc (Obj.cells #[Value.int IntKind.i64 op', Value.int IntKind.i64 n', Value.slice A' k'.len c'] 36)) 85 (cellsB S)
        rw [World.size_alloc] at rY4
        have HB4 := Lib.hid b4
        have HE4 := Lib.hid rE4
        have HK4 := Lib.hid rK4
        have HX4 := Lib.hid rX4
        have HY4 := Lib.hid rY4
        have HL4 := Lib.hid ((HL3.out.keep (w' := (wr.alloc (Obj.cells #[Value.int IntKind.i64 op', Value.int IntKind.i64 n', Value.slice A' k'.len c'] 36)).alloc (Obj.cells (cellsB S) 85)) (Nat.le_refl _) (Nat.le_refl _) (fun p _ hp => (World.cell?_alloc_lt _ _ p (by simp; omega)).trans (World.cell?_alloc_lt wr _ p (by omega)))))
        clear b4 rE4 rK4 rX4 rY4 HL3 rE rK
        unfold cellsB at HB4 HE4 HK4 HX4 HY4 HL4 z4
        go_wp2_with fail
        refine (bindsIn_any 7 n _ (j : Int) _).mono ?_
        rintro e w5 ⟨rfl, hb5'⟩
        have hb5 := HB4.out.trans (hb5'.mono HB4.out.size)
        have z5 := Nat.le_trans (show w.heap.size + 2 ≤ _ by omega) hb5'.size
        have z5' := Nat.le_trans z4 hb5'.size
        have rE5 := HE4.out.below hb5' (by omega)
        have rK5 := HK4.out.below hb5' (by omega)
        have rX5 := HX4.out.below hb5' (by omega)
        have rY5 := HY4.out.below hb5' (by omega)
        have HL5 := Lib.hid ((HL4.out.below (hb5'.mono (by omega))).mono_ (Nat.le_refl _) (show w.heap.size ≤ w5.heap.size by omega))
        have HL5B := Lib.hid (HL4.out.below (hb5'.mono (by omega)))
        clear hb5' HB4 HE4 HK4 HX4 HY4 HL4 q0 q1 q2 p0 p1 p2 p3 p4 p5 p6 p7 g1 g2 g3 z4
        by_cases hj1 : j = 1
        · have hbi : binds 7 (j : Int) = true := by simp [binds, hj1]
          rw [hbi]
          have hin : inner 7 n j S = setS S n.toNat := by simp [inner, hj1]
          have hz := HZ.out
          rw [hin] at hz
          clear HZ hbi hin hj1
          have hn := HFT.out
          rw [Bool.and_eq_true] at hn
          obtain ⟨hn0, hn8⟩ := inVar_true hn.1
          clear hn
          obtain ⟨v, hv⟩ := Int.eq_ofNat_of_zero_le hn0
          have hv8 : v = 0 ∨ v = 1 ∨ v = 2 ∨ v = 3 ∨ v = 4 ∨ v = 5 ∨ v = 6 ∨ v = 7 := by omega
          clear hn0 hn8
          rcases hv8 with rfl | rfl | rfl | rfl | rfl | rfl | rfl | rfl
          · have hv' : n = 0 := hv
            have eS : arrB (setS S 0) = .agg #[.bool true, .bool (S 1), .bool (S 2), .bool (S 3), .bool (S 4), .bool (S 5), .bool (S 6), .bool (S 7)] := rfl
            have hz' := hz
            rw [show n.toNat = 0 by rw [hv']; rfl] at hz'
            have HZ := Lib.hid hz'
            have HVN := Lib.hid hv'
            clear hz hz' hv
            have IH2 := Lib.hid (fun (w : World) h2 h3 => IH.out k'.size (by omega) op' n' k' A' c' (setS S 0) w rfl h2 h3)
            rw [eS] at IH2
            clear eS
            have rY6 := rY5.put 0 (.bool true)
            have rX6 := rX5.apart (p := ⟨wr.heap.size + 1, 0, none⟩) (by dsimp only; omega) (.bool true)
            have rE6' := rE5.apart (p := ⟨wr.heap.size + 1, 0, none⟩) (by dsimp only; omega) (.bool true)
            have rK6' := rK5.apart (p := ⟨wr.heap.size + 1, 0, none⟩) (by dsimp only; omega) (.bool true)
            have n1 : w5.cell? ⟨w.heap.size, 1, none⟩ = some (.int .i64 0) := by rw [rE5.cell (i := 1) rfl]; exact congrArg (fun x => some (Value.int IntKind.i64 x)) hv'
            clear hv'
            have ff := rY5.free 0
            have hb6' := hb5.setCell (p := ⟨wr.heap.size + 1, 0, none⟩) (by dsimp only; omega) (.bool true)
            have HL6 := Lib.hid ((HL5B.out.keep (w' := w5.setCell ⟨wr.heap.size + 1, 0, none⟩ (.bool true)) (B := w.heap.size) (B' := (w5.setCell ⟨wr.heap.size + 1, 0, none⟩ (.bool true)).heap.size) (Nat.le_refl _) (by simp [World.setCell]; omega) (fun p _ hp => World.cell?_setCell_other _ _ _ _ (fun e => by subst e; dsimp only at hp; omega))))
            have x0 := rX5.cell (i := 0) rfl
            have x1 := rX5.cell (i := 1) rfl
            have x2 := rX5.cell (i := 2) rfl
            have y0 := rY5.cell (i := 0) rfl
            have y1 := rY5.cell (i := 1) rfl
            have y2 := rY5.cell (i := 2) rfl
            have y3 := rY5.cell (i := 3) rfl
            have y4 := rY5.cell (i := 4) rfl
            have y5 := rY5.cell (i := 5) rfl
            have y6 := rY5.cell (i := 6) rfl
            have y7 := rY5.cell (i := 7) rfl
            cases hN4 : nodeVp op' n' k' (setS S 0)
            all_goals
              have HN := Lib.hid hN4
              clear hN4
              have HY6 := Lib.hid rY6
              have HE6 := Lib.hid rE6'
              have HK6 := Lib.hid rK6'
              clear rX5 rY5 rY6 rX6 rE6' rK6'
              go_wp2_with fail
              refine (IH2.out _ HL6.out (by omega)).mono ?_
              rintro e w6 ⟨rfl, hb6⟩
              rw [HN.out]
              have hb7 := hb6'.trans (hb6.mono hb6'.size)
              have z5s : w.heap.size + 2 ≤ (w5.setCell ⟨wr.heap.size + 1, 0, none⟩ (.bool true)).heap.size := by simp [World.setCell]; omega
              have rE6 := HE6.out.below hb6 (by omega)
              have rK6 := HK6.out.below hb6 (by omega)
              have z6 : w.heap.size + 2 ≤ w6.heap.size := Nat.le_trans z5s hb6.size
              clear hb6 hb6' hb5 rE5 rK5 z5 z5s x0 x1 x2 y0 y1 y2 y3 y4 y5 y6 y7 HL5 HL6 ff n1 HL5B
              go_wp2
            · go_ret
              have hz := HZ.out
              have hn := HN.out
              simp only [nodeVp] at hn
              rw [hn, Bool.false_and] at hz
              exact ⟨ret_bool (by rw [HV.out, hz]), hb7⟩
            · have hz := HZ.out
              have hn := HN.out
              simp only [nodeVp] at hn
              rw [hn, Bool.true_and] at hz
              have HZ2 := Lib.hid hz
              clear hz hn
              go_roundw
              case rel => exact ⟨j + 1, by omega, by go_num, HZ2.out, rE6, rK6, z6, hb7⟩
              case measure => simp [intOf]; omega
          · have hv' : n = 1 := hv
            have eS : arrB (setS S 1) = .agg #[.bool (S 0), .bool true, .bool (S 2), .bool (S 3), .bool (S 4), .bool (S 5), .bool (S 6), .bool (S 7)] := rfl
            have hz' := hz
            rw [show n.toNat = 1 by rw [hv']; rfl] at hz'
            have HZ := Lib.hid hz'
            have HVN := Lib.hid hv'
            clear hz hz' hv
            have IH2 := Lib.hid (fun (w : World) h2 h3 => IH.out k'.size (by omega) op' n' k' A' c' (setS S 1) w rfl h2 h3)
            rw [eS] at IH2
            clear eS
            have rY6 := rY5.put 1 (.bool true)
            have rX6 := rX5.apart (p := ⟨wr.heap.size + 1, 1, none⟩) (by dsimp only; omega) (.bool true)
            have rE6' := rE5.apart (p := ⟨wr.heap.size + 1, 1, none⟩) (by dsimp only; omega) (.bool true)
            have rK6' := rK5.apart (p := ⟨wr.heap.size + 1, 1, none⟩) (by dsimp only; omega) (.bool true)
            have n1 : w5.cell? ⟨w.heap.size, 1, none⟩ = some (.int .i64 1) := by rw [rE5.cell (i := 1) rfl]; exact congrArg (fun x => some (Value.int IntKind.i64 x)) hv'
            clear hv'
            have ff := rY5.free 1
            have hb6' := hb5.setCell (p := ⟨wr.heap.size + 1, 1, none⟩) (by dsimp only; omega) (.bool true)
            have HL6 := Lib.hid ((HL5B.out.keep (w' := w5.setCell ⟨wr.heap.size + 1, 1, none⟩ (.bool true)) (B := w.heap.size) (B' := (w5.setCell ⟨wr.heap.size + 1, 1, none⟩ (.bool true)).heap.size) (Nat.le_refl _) (by simp [World.setCell]; omega) (fun p _ hp => World.cell?_setCell_other _ _ _ _ (fun e => by subst e; dsimp only at hp; omega))))
            have x0 := rX5.cell (i := 0) rfl
            have x1 := rX5.cell (i := 1) rfl
            have x2 := rX5.cell (i := 2) rfl
            have y0 := rY5.cell (i := 0) rfl
            have y1 := rY5.cell (i := 1) rfl
            have y2 := rY5.cell (i := 2) rfl
            have y3 := rY5.cell (i := 3) rfl
            have y4 := rY5.cell (i := 4) rfl
            have y5 := rY5.cell (i := 5) rfl
            have y6 := rY5.cell (i := 6) rfl
            have y7 := rY5.cell (i := 7) rfl
            cases hN4 : nodeVp op' n' k' (setS S 1)
            all_goals
              have HN := Lib.hid hN4
              clear hN4
              have HY6 := Lib.hid rY6
              have HE6 := Lib.hid rE6'
              have HK6 := Lib.hid rK6'
              clear rX5 rY5 rY6 rX6 rE6' rK6'
              go_wp2_with fail
              refine (IH2.out _ HL6.out (by omega)).mono ?_
              rintro e w6 ⟨rfl, hb6⟩
              rw [HN.out]
              have hb7 := hb6'.trans (hb6.mono hb6'.size)
              have z5s : w.heap.size + 2 ≤ (w5.setCell ⟨wr.heap.size + 1, 1, none⟩ (.bool true)).heap.size := by simp [World.setCell]; omega
              have rE6 := HE6.out.below hb6 (by omega)
              have rK6 := HK6.out.below hb6 (by omega)
              have z6 : w.heap.size + 2 ≤ w6.heap.size := Nat.le_trans z5s hb6.size
              clear hb6 hb6' hb5 rE5 rK5 z5 z5s x0 x1 x2 y0 y1 y2 y3 y4 y5 y6 y7 HL5 HL6 ff n1 HL5B
              go_wp2
            · go_ret
              have hz := HZ.out
              have hn := HN.out
              simp only [nodeVp] at hn
              rw [hn, Bool.false_and] at hz
              exact ⟨ret_bool (by rw [HV.out, hz]), hb7⟩
            · have hz := HZ.out
              have hn := HN.out
              simp only [nodeVp] at hn
              rw [hn, Bool.true_and] at hz
              have HZ2 := Lib.hid hz
              clear hz hn
              go_roundw
              case rel => exact ⟨j + 1, by omega, by go_num, HZ2.out, rE6, rK6, z6, hb7⟩
              case measure => simp [intOf]; omega
          · have hv' : n = 2 := hv
            have eS : arrB (setS S 2) = .agg #[.bool (S 0), .bool (S 1), .bool true, .bool (S 3), .bool (S 4), .bool (S 5), .bool (S 6), .bool (S 7)] := rfl
            have hz' := hz
            rw [show n.toNat = 2 by rw [hv']; rfl] at hz'
            have HZ := Lib.hid hz'
            have HVN := Lib.hid hv'
            clear hz hz' hv
            have IH2 := Lib.hid (fun (w : World) h2 h3 => IH.out k'.size (by omega) op' n' k' A' c' (setS S 2) w rfl h2 h3)
            rw [eS] at IH2
            clear eS
            have rY6 := rY5.put 2 (.bool true)
            have rX6 := rX5.apart (p := ⟨wr.heap.size + 1, 2, none⟩) (by dsimp only; omega) (.bool true)
            have rE6' := rE5.apart (p := ⟨wr.heap.size + 1, 2, none⟩) (by dsimp only; omega) (.bool true)
            have rK6' := rK5.apart (p := ⟨wr.heap.size + 1, 2, none⟩) (by dsimp only; omega) (.bool true)
            have n1 : w5.cell? ⟨w.heap.size, 1, none⟩ = some (.int .i64 2) := by rw [rE5.cell (i := 1) rfl]; exact congrArg (fun x => some (Value.int IntKind.i64 x)) hv'
            clear hv'
            have ff := rY5.free 2
            have hb6' := hb5.setCell (p := ⟨wr.heap.size + 1, 2, none⟩) (by dsimp only; omega) (.bool true)
            have HL6 := Lib.hid ((HL5B.out.keep (w' := w5.setCell ⟨wr.heap.size + 1, 2, none⟩ (.bool true)) (B := w.heap.size) (B' := (w5.setCell ⟨wr.heap.size + 1, 2, none⟩ (.bool true)).heap.size) (Nat.le_refl _) (by simp [World.setCell]; omega) (fun p _ hp => World.cell?_setCell_other _ _ _ _ (fun e => by subst e; dsimp only at hp; omega))))
            have x0 := rX5.cell (i := 0) rfl
            have x1 := rX5.cell (i := 1) rfl
            have x2 := rX5.cell (i := 2) rfl
            have y0 := rY5.cell (i := 0) rfl
            have y1 := rY5.cell (i := 1) rfl
            have y2 := rY5.cell (i := 2) rfl
            have y3 := rY5.cell (i := 3) rfl
            have y4 := rY5.cell (i := 4) rfl
            have y5 := rY5.cell (i := 5) rfl
            have y6 := rY5.cell (i := 6) rfl
            have y7 := rY5.cell (i := 7) rfl
            cases hN4 : nodeVp op' n' k' (setS S 2)
            all_goals
              have HN := Lib.hid hN4
              clear hN4
              have HY6 := Lib.hid rY6
              have HE6 := Lib.hid rE6'
              have HK6 := Lib.hid rK6'
              clear rX5 rY5 rY6 rX6 rE6' rK6'
              go_wp2_with fail
              refine (IH2.out _ HL6.out (by omega)).mono ?_
              rintro e w6 ⟨rfl, hb6⟩
              rw [HN.out]
              have hb7 := hb6'.trans (hb6.mono hb6'.size)
              have z5s : w.heap.size + 2 ≤ (w5.setCell ⟨wr.heap.size + 1, 2, none⟩ (.bool true)).heap.size := by simp [World.setCell]; omega
              have rE6 := HE6.out.below hb6 (by omega)
              have rK6 := HK6.out.below hb6 (by omega)
              have z6 : w.heap.size + 2 ≤ w6.heap.size := Nat.le_trans z5s hb6.size
              clear hb6 hb6' hb5 rE5 rK5 z5 z5s x0 x1 x2 y0 y1 y2 y3 y4 y5 y6 y7 HL5 HL6 ff n1 HL5B
              go_wp2
            · go_ret
              have hz := HZ.out
              have hn := HN.out
              simp only [nodeVp] at hn
              rw [hn, Bool.false_and] at hz
              exact ⟨ret_bool (by rw [HV.out, hz]), hb7⟩
            · have hz := HZ.out
              have hn := HN.out
              simp only [nodeVp] at hn
              rw [hn, Bool.true_and] at hz
              have HZ2 := Lib.hid hz
              clear hz hn
              go_roundw
              case rel => exact ⟨j + 1, by omega, by go_num, HZ2.out, rE6, rK6, z6, hb7⟩
              case measure => simp [intOf]; omega
          · have hv' : n = 3 := hv
            have eS : arrB (setS S 3) = .agg #[.bool (S 0), .bool (S 1), .bool (S 2), .bool true, .bool (S 4), .bool (S 5), .bool (S 6), .bool (S 7)] := rfl
            have hz' := hz
            rw [show n.toNat = 3 by rw [hv']; rfl] at hz'
            have HZ := Lib.hid hz'
            have HVN := Lib.hid hv'
            clear hz hz' hv
            have IH2 := Lib.hid (fun (w : World) h2 h3 => IH.out k'.size (by omega) op' n' k' A' c' (setS S 3) w rfl h2 h3)
            rw [eS] at IH2
            clear eS
            have rY6 := rY5.put 3 (.bool true)
            have rX6 := rX5.apart (p := ⟨wr.heap.size + 1, 3, none⟩) (by dsimp only; omega) (.bool true)
            have rE6' := rE5.apart (p := ⟨wr.heap.size + 1, 3, none⟩) (by dsimp only; omega) (.bool true)
            have rK6' := rK5.apart (p := ⟨wr.heap.size + 1, 3, none⟩) (by dsimp only; omega) (.bool true)
            have n1 : w5.cell? ⟨w.heap.size, 1, none⟩ = some (.int .i64 3) := by rw [rE5.cell (i := 1) rfl]; exact congrArg (fun x => some (Value.int IntKind.i64 x)) hv'
            clear hv'
            have ff := rY5.free 3
            have hb6' := hb5.setCell (p := ⟨wr.heap.size + 1, 3, none⟩) (by dsimp only; omega) (.bool true)
            have HL6 := Lib.hid ((HL5B.out.keep (w' := w5.setCell ⟨wr.heap.size + 1, 3, none⟩ (.bool true)) (B := w.heap.size) (B' := (w5.setCell ⟨wr.heap.size + 1, 3, none⟩ (.bool true)).heap.size) (Nat.le_refl _) (by simp [World.setCell]; omega) (fun p _ hp => World.cell?_setCell_other _ _ _ _ (fun e => by subst e; dsimp only at hp; omega))))
            have x0 := rX5.cell (i := 0) rfl
            have x1 := rX5.cell (i := 1) rfl
            have x2 := rX5.cell (i := 2) rfl
            have y0 := rY5.cell (i := 0) rfl
            have y1 := rY5.cell (i := 1) rfl
            have y2 := rY5.cell (i := 2) rfl
            have y3 := rY5.cell (i := 3) rfl
            have y4 := rY5.cell (i := 4) rfl
            have y5 := rY5.cell (i := 5) rfl
            have y6 := rY5.cell (i := 6) rfl
            have y7 := rY5.cell (i := 7) rfl
            cases hN4 : nodeVp op' n' k' (setS S 3)
            all_goals
              have HN := Lib.hid hN4
              clear hN4
              have HY6 := Lib.hid rY6
              have HE6 := Lib.hid rE6'
              have HK6 := Lib.hid rK6'
              clear rX5 rY5 rY6 rX6 rE6' rK6'
              go_wp2_with fail
              refine (IH2.out _ HL6.out (by omega)).mono ?_
              rintro e w6 ⟨rfl, hb6⟩
              rw [HN.out]
              have hb7 := hb6'.trans (hb6.mono hb6'.size)
              have z5s : w.heap.size + 2 ≤ (w5.setCell ⟨wr.heap.size + 1, 3, none⟩ (.bool true)).heap.size := by simp [World.setCell]; omega
              have rE6 := HE6.out.below hb6 (by omega)
              have rK6 := HK6.out.below hb6 (by omega)
              have z6 : w.heap.size + 2 ≤ w6.heap.size := Nat.le_trans z5s hb6.size
              clear hb6 hb6' hb5 rE5 rK5 z5 z5s x0 x1 x2 y0 y1 y2 y3 y4 y5 y6 y7 HL5 HL6 ff n1 HL5B
              go_wp2
            · go_ret
              have hz := HZ.out
              have hn := HN.out
              simp only [nodeVp] at hn
              rw [hn, Bool.false_and] at hz
              exact ⟨ret_bool (by rw [HV.out, hz]), hb7⟩
            · have hz := HZ.out
              have hn := HN.out
              simp only [nodeVp] at hn
              rw [hn, Bool.true_and] at hz
              have HZ2 := Lib.hid hz
              clear hz hn
              go_roundw
              case rel => exact ⟨j + 1, by omega, by go_num, HZ2.out, rE6, rK6, z6, hb7⟩
              case measure => simp [intOf]; omega
          · have hv' : n = 4 := hv
            have eS : arrB (setS S 4) = .agg #[.bool (S 0), .bool (S 1), .bool (S 2), .bool (S 3), .bool true, .bool (S 5), .bool (S 6), .bool (S 7)] := rfl
            have hz' := hz
            rw [show n.toNat = 4 by rw [hv']; rfl] at hz'
            have HZ := Lib.hid hz'
            have HVN := Lib.hid hv'
            clear hz hz' hv
            have IH2 := Lib.hid (fun (w : World) h2 h3 => IH.out k'.size (by omega) op' n' k' A' c' (setS S 4) w rfl h2 h3)
            rw [eS] at IH2
            clear eS
            have rY6 := rY5.put 4 (.bool true)
            have rX6 := rX5.apart (p := ⟨wr.heap.size + 1, 4, none⟩) (by dsimp only; omega) (.bool true)
            have rE6' := rE5.apart (p := ⟨wr.heap.size + 1, 4, none⟩) (by dsimp only; omega) (.bool true)
            have rK6' := rK5.apart (p := ⟨wr.heap.size + 1, 4, none⟩) (by dsimp only; omega) (.bool true)
            have n1 : w5.cell? ⟨w.heap.size, 1, none⟩ = some (.int .i64 4) := by rw [rE5.cell (i := 1) rfl]; exact congrArg (fun x => some (Value.int IntKind.i64 x)) hv'
            clear hv'
            have ff := rY5.free 4
            have hb6' := hb5.setCell (p := ⟨wr.heap.size + 1, 4, none⟩) (by dsimp only; omega) (.bool true)
            have HL6 := Lib.hid ((HL5B.out.keep (w' := w5.setCell ⟨wr.heap.size + 1, 4, none⟩ (.bool true)) (B := w.heap.size) (B' := (w5.setCell ⟨wr.heap.size + 1, 4, none⟩ (.bool true)).heap.size) (Nat.le_refl _) (by simp [World.setCell]; omega) (fun p _ hp => World.cell?_setCell_other _ _ _ _ (fun e => by subst e; dsimp only at hp; omega))))
            have x0 := rX5.cell (i := 0) rfl
            have x1 := rX5.cell (i := 1) rfl
            have x2 := rX5.cell (i := 2) rfl
            have y0 := rY5.cell (i := 0) rfl
            have y1 := rY5.cell (i := 1) rfl
            have y2 := rY5.cell (i := 2) rfl
            have y3 := rY5.cell (i := 3) rfl
            have y4 := rY5.cell (i := 4) rfl
            have y5 := rY5.cell (i := 5) rfl
            have y6 := rY5.cell (i := 6) rfl
            have y7 := rY5.cell (i := 7) rfl
            cases hN4 : nodeVp op' n' k' (setS S 4)
            all_goals
              have HN := Lib.hid hN4
              clear hN4
              have HY6 := Lib.hid rY6
              have HE6 := Lib.hid rE6'
              have HK6 := Lib.hid rK6'
              clear rX5 rY5 rY6 rX6 rE6' rK6'
              go_wp2_with fail
              refine (IH2.out _ HL6.out (by omega)).mono ?_
              rintro e w6 ⟨rfl, hb6⟩
              rw [HN.out]
              have hb7 := hb6'.trans (hb6.mono hb6'.size)
              have z5s : w.heap.size + 2 ≤ (w5.setCell ⟨wr.heap.size + 1, 4, none⟩ (.bool true)).heap.size := by simp [World.setCell]; omega
              have rE6 := HE6.out.below hb6 (by omega)
              have rK6 := HK6.out.below hb6 (by omega)
              have z6 : w.heap.size + 2 ≤ w6.heap.size := Nat.le_trans z5s hb6.size
              clear hb6 hb6' hb5 rE5 rK5 z5 z5s x0 x1 x2 y0 y1 y2 y3 y4 y5 y6 y7 HL5 HL6 ff n1 HL5B
              go_wp2
            · go_ret
              have hz := HZ.out
              have hn := HN.out
              simp only [nodeVp] at hn
              rw [hn, Bool.false_and] at hz
              exact ⟨ret_bool (by rw [HV.out, hz]), hb7⟩
            · have hz := HZ.out
              have hn := HN.out
              simp only [nodeVp] at hn
              rw [hn, Bool.true_and] at hz
              have HZ2 := Lib.hid hz
              clear hz hn
              go_roundw
              case rel => exact ⟨j + 1, by omega, by go_num, HZ2.out, rE6, rK6, z6, hb7⟩
              case measure => simp [intOf]; omega
          · have hv' : n = 5 := hv
            have eS : arrB (setS S 5) = .agg #[.bool (S 0), .bool (S 1), .bool (S 2), .bool (S 3), .bool (S 4), .bool true, .bool (S 6), .bool (S 7)] := rfl
            have hz' := hz
            rw [show n.toNat = 5 by rw [hv']; rfl] at hz'
            have HZ := Lib.hid hz'
            have HVN := Lib.hid hv'
            clear hz hz' hv
            have IH2 := Lib.hid (fun (w : World) h2 h3 => IH.out k'.size (by omega) op' n' k' A' c' (setS S 5) w rfl h2 h3)
            rw [eS] at IH2
            clear eS
            have rY6 := rY5.put 5 (.bool true)
            have rX6 := rX5.apart (p := ⟨wr.heap.size + 1, 5, none⟩) (by dsimp only; omega) (.bool true)
            have rE6' := rE5.apart (p := ⟨wr.heap.size + 1, 5, none⟩) (by dsimp only; omega) (.bool true)
            have rK6' := rK5.apart (p := ⟨wr.heap.size + 1, 5, none⟩) (by dsimp only; omega) (.bool true)
            have n1 : w5.cell? ⟨w.heap.size, 1, none⟩ = some (.int .i64 5) := by rw [rE5.cell (i := 1) rfl]; exact congrArg (fun x => some (Value.int IntKind.i64 x)) hv'
            clear hv'
            have ff := rY5.free 5
            have hb6' := hb5.setCell (p := ⟨wr.heap.size + 1, 5, none⟩) (by dsimp only; omega) (.bool true)
            have HL6 := Lib.hid ((HL5B.out.keep (w' := w5.setCell ⟨wr.heap.size + 1, 5, none⟩ (.bool true)) (B := w.heap.size) (B' := (w5.setCell ⟨wr.heap.size + 1, 5, none⟩ (.bool true)).heap.size) (Nat.le_refl _) (by simp [World.setCell]; omega) (fun p _ hp => World.cell?_setCell_other _ _ _ _ (fun e => by subst e; dsimp only at hp; omega))))
            have x0 := rX5.cell (i := 0) rfl
            have x1 := rX5.cell (i := 1) rfl
            have x2 := rX5.cell (i := 2) rfl
            have y0 := rY5.cell (i := 0) rfl
            have y1 := rY5.cell (i := 1) rfl
            have y2 := rY5.cell (i := 2) rfl
            have y3 := rY5.cell (i := 3) rfl
            have y4 := rY5.cell (i := 4) rfl
            have y5 := rY5.cell (i := 5) rfl
            have y6 := rY5.cell (i := 6) rfl
            have y7 := rY5.cell (i := 7) rfl
            cases hN4 : nodeVp op' n' k' (setS S 5)
            all_goals
              have HN := Lib.hid hN4
              clear hN4
              have HY6 := Lib.hid rY6
              have HE6 := Lib.hid rE6'
              have HK6 := Lib.hid rK6'
              clear rX5 rY5 rY6 rX6 rE6' rK6'
              go_wp2_with fail
              refine (IH2.out _ HL6.out (by omega)).mono ?_
              rintro e w6 ⟨rfl, hb6⟩
              rw [HN.out]
              have hb7 := hb6'.trans (hb6.mono hb6'.size)
              have z5s : w.heap.size + 2 ≤ (w5.setCell ⟨wr.heap.size + 1, 5, none⟩ (.bool true)).heap.size := by simp [World.setCell]; omega
              have rE6 := HE6.out.below hb6 (by omega)
              have rK6 := HK6.out.below hb6 (by omega)
              have z6 : w.heap.size + 2 ≤ w6.heap.size := Nat.le_trans z5s hb6.size
              clear hb6 hb6' hb5 rE5 rK5 z5 z5s x0 x1 x2 y0 y1 y2 y3 y4 y5 y6 y7 HL5 HL6 ff n1 HL5B
              go_wp2
            · go_ret
              have hz := HZ.out
              have hn := HN.out
              simp only [nodeVp] at hn
              rw [hn, Bool.false_and] at hz
              exact ⟨ret_bool (by rw [HV.out, hz]), hb7⟩
            · have hz := HZ.out
              have hn := HN.out
              simp only [nodeVp] at hn
              rw [hn, Bool.true_and] at hz
              have HZ2 := Lib.hid hz
              clear hz hn
              go_roundw
              case rel => exact ⟨j + 1, by omega, by go_num, HZ2.out, rE6, rK6, z6, hb7⟩
              case measure => simp [intOf]; omega
          · have hv' : n = 6 := hv
            have eS : arrB (setS S 6) = .agg #[.bool (S 0), .bool (S 1), .bool (S 2), .bool (S 3), .bool (S 4), .bool (S 5), .bool true, .bool (S 7)] := rfl
            have hz' := hz
            rw [show n.toNat = 6 by rw [hv']; rfl] at hz'
            have HZ := Lib.hid hz'
            have HVN := Lib.hid hv'
            clear hz hz' hv
            have IH2 := Lib.hid (fun (w : World) h2 h3 => IH.out k'.size (by omega) op' n' k' A' c' (setS S 6) w rfl h2 h3)
            rw [eS] at IH2
            clear eS
            have rY6 := rY5.put 6 (.bool true)
            have rX6 := rX5.apart (p := ⟨wr.heap.size + 1, 6, none⟩) (by dsimp only; omega) (.bool true)
            have rE6' := rE5.apart (p := ⟨wr.heap.size + 1, 6, none⟩) (by dsimp only; omega) (.bool true)
            have rK6' := rK5.apart (p := ⟨wr.heap.size + 1, 6, none⟩) (by dsimp only; omega) (.bool true)
            have n1 : w5.cell? ⟨w.heap.size, 1, none⟩ = some (.int .i64 6) := by rw [rE5.cell (i := 1) rfl]; exact congrArg (fun x => some (Value.int IntKind.i64 x)) hv'
            clear hv'
            have ff := rY5.free 6
            have hb6' := hb5.setCell (p := ⟨wr.heap.size + 1, 6, none⟩) (by dsimp only; omega) (.bool true)
            have HL6 := Lib.hid ((HL5B.out.keep (w' := w5.setCell ⟨wr.heap.size + 1, 6, none⟩ (.bool true)) (B := w.heap.size) (B' := (w5.setCell ⟨wr.heap.size + 1, 6, none⟩ (.bool true)).heap.size) (Nat.le_refl _) (by simp [World.setCell]; omega) (fun p _ hp => World.cell?_setCell_other _ _ _ _ (fun e => by subst e; dsimp only at hp; omega))))
            have x0 := rX5.cell (i := 0) rfl
            have x1 := rX5.cell (i := 1) rfl
            have x2 := rX5.cell (i := 2) rfl
            have y0 := rY5.cell (i := 0) rfl
            have y1 := rY5.cell (i := 1) rfl
            have y2 := rY5.cell (i := 2) rfl
            have y3 := rY5.cell (i := 3) rfl
            have y4 := rY5.cell (i := 4) rfl
            have y5 := rY5.cell (i := 5) rfl
            have y6 := rY5.cell (i := 6) rfl
            have y7 := rY5.cell (i := 7) rfl
            cases hN4 : nodeVp op' n' k' (setS S 6)
            all_goals
              have HN := Lib.hid hN4
              clear hN4
              have HY6 := Lib.hid rY6
              have HE6 := Lib.hid rE6'
              have HK6 := Lib.hid rK6'
              clear rX5 rY5 rY6 rX6 rE6' rK6'
              go_wp2_with fail
              refine (IH2.out _ HL6.out (by omega)).mono ?_
              rintro e w6 ⟨rfl, hb6⟩
              rw [HN.out]
              have hb7 := hb6'.trans (hb6.mono hb6'.size)
              have z5s : w.heap.size + 2 ≤ (w5.setCell ⟨wr.heap.size + 1, 6, none⟩ (.bool true)).heap.size := by simp [World.setCell]; omega
              have rE6 := HE6.out.below hb6 (by omega)
              have rK6 := HK6.out.below hb6 (by omega)
              have z6 : w.heap.size + 2 ≤ w6.heap.size := Nat.le_trans z5s hb6.size
              clear hb6 hb6' hb5 rE5 rK5 z5 z5s x0 x1 x2 y0 y1 y2 y3 y4 y5 y6 y7 HL5 HL6 ff n1 HL5B
              go_wp2
            · go_ret
              have hz := HZ.out
              have hn := HN.out
              simp only [nodeVp] at hn
              rw [hn, Bool.false_and] at hz
              exact ⟨ret_bool (by rw [HV.out, hz]), hb7⟩
            · have hz := HZ.out
              have hn := HN.out
              simp only [nodeVp] at hn
              rw [hn, Bool.true_and] at hz
              have HZ2 := Lib.hid hz
              clear hz hn
              go_roundw
              case rel => exact ⟨j + 1, by omega, by go_num, HZ2.out, rE6, rK6, z6, hb7⟩
              case measure => simp [intOf]; omega
          · have hv' : n = 7 := hv
            have eS : arrB (setS S 7) = .agg #[.bool (S 0), .bool (S 1), .bool (S 2), .bool (S 3), .bool (S 4), .bool (S 5), .bool (S 6), .bool true] := rfl
            have hz' := hz
            rw [show n.toNat = 7 by rw [hv']; rfl] at hz'
            have HZ := Lib.hid hz'
            have HVN := Lib.hid hv'
            clear hz hz' hv
            have IH2 := Lib.hid (fun (w : World) h2 h3 => IH.out k'.size (by omega) op' n' k' A' c' (setS S 7) w rfl h2 h3)
            rw [eS] at IH2
            clear eS
            have rY6 := rY5.put 7 (.bool true)
            have rX6 := rX5.apart (p := ⟨wr.heap.size + 1, 7, none⟩) (by dsimp only; omega) (.bool true)
            have rE6' := rE5.apart (p := ⟨wr.heap.size + 1, 7, none⟩) (by dsimp only; omega) (.bool true)
            have rK6' := rK5.apart (p := ⟨wr.heap.size + 1, 7, none⟩) (by dsimp only; omega) (.bool true)
            have n1 : w5.cell? ⟨w.heap.size, 1, none⟩ = some (.int .i64 7) := by rw [rE5.cell (i := 1) rfl]; exact congrArg (fun x => some (Value.int IntKind.i64 x)) hv'
            clear hv'
            have ff := rY5.free 7
            have hb6' := hb5.setCell (p := ⟨wr.heap.size + 1, 7, none⟩) (by dsimp only; omega) (.bool true)
            have HL6 := Lib.hid ((HL5B.out.keep (w' := w5.setCell ⟨wr.heap.size + 1, 7, none⟩ (.bool true)) (B := w.heap.size) (B' := (w5.setCell ⟨wr.heap.size + 1, 7, none⟩ (.bool true)).heap.size) (Nat.le_refl _) (by simp [World.setCell]; omega) (fun p _ hp => World.cell?_setCell_other _ _ _ _ (fun e => by subst e; dsimp only at hp; omega))))
            have x0 := rX5.cell (i := 0) rfl
            have x1 := rX5.cell (i := 1) rfl
            have x2 := rX5.cell (i := 2) rfl
            have y0 := rY5.cell (i := 0) rfl
            have y1 := rY5.cell (i := 1) rfl
            have y2 := rY5.cell (i := 2) rfl
            have y3 := rY5.cell (i := 3) rfl
            have y4 := rY5.cell (i := 4) rfl
            have y5 := rY5.cell (i := 5) rfl
            have y6 := rY5.cell (i := 6) rfl
            have y7 := rY5.cell (i := 7) rfl
            cases hN4 : nodeVp op' n' k' (setS S 7)
            all_goals
              have HN := Lib.hid hN4
              clear hN4
              have HY6 := Lib.hid rY6
              have HE6 := Lib.hid rE6'
              have HK6 := Lib.hid rK6'
              clear rX5 rY5 rY6 rX6 rE6' rK6'
              go_wp2_with fail
              refine (IH2.out _ HL6.out (by omega)).mono ?_
              rintro e w6 ⟨rfl, hb6⟩
              rw [HN.out]
              have hb7 := hb6'.trans (hb6.mono hb6'.size)
              have z5s : w.heap.size + 2 ≤ (w5.setCell ⟨wr.heap.size + 1, 7, none⟩ (.bool true)).heap.size := by simp [World.setCell]; omega
              have rE6 := HE6.out.below hb6 (by omega)
              have rK6 := HK6.out.below hb6 (by omega)
              have z6 : w.heap.size + 2 ≤ w6.heap.size := Nat.le_trans z5s hb6.size
              clear hb6 hb6' hb5 rE5 rK5 z5 z5s x0 x1 x2 y0 y1 y2 y3 y4 y5 y6 y7 HL5 HL6 ff n1 HL5B
              go_wp2
            · go_ret
              have hz := HZ.out
              have hn := HN.out
              simp only [nodeVp] at hn
              rw [hn, Bool.false_and] at hz
              exact ⟨ret_bool (by rw [HV.out, hz]), hb7⟩
            · have hz := HZ.out
              have hn := HN.out
              simp only [nodeVp] at hn
              rw [hn, Bool.true_and] at hz
              have HZ2 := Lib.hid hz
              clear hz hn
              go_roundw
              case rel => exact ⟨j + 1, by omega, by go_num, HZ2.out, rE6, rK6, z6, hb7⟩
              case measure => simp [intOf]; omega
        · have hbi : binds 7 (j : Int) = false := by simp [binds]; omega
          rw [hbi]
          have hin : inner 7 n j S = S := by simp [inner, hj1]
          have hz := HZ.out
          rw [hin] at hz
          clear HZ hbi hin HL5B
          have HZ := Lib.hid hz
          clear hz
          have x0 := rX5.cell (i := 0) rfl
          have x1 := rX5.cell (i := 1) rfl
          have x2 := rX5.cell (i := 2) rfl
          have y0 := rY5.cell (i := 0) rfl
          have y1 := rY5.cell (i := 1) rfl
          have y2 := rY5.cell (i := 2) rfl
          have y3 := rY5.cell (i := 3) rfl
          have y4 := rY5.cell (i := 4) rfl
          have y5 := rY5.cell (i := 5) rfl
          have y6 := rY5.cell (i := 6) rfl
          have y7 := rY5.cell (i := 7) rfl
          cases hN4 : nodeVp op' n' k' S
          all_goals
            have HN := Lib.hid hN4
            clear hN4
            clear rX5 rY5
            go_wp2_with fail
            refine (IH.out k'.size (by omega) op' n' k' A' c' (S) _ rfl ?_ (by omega)).mono ?_
            · exact HL5.out
            rintro e w6 ⟨rfl, hb6⟩
            rw [HN.out]
            have hb7 := hb5.trans (hb6.mono hb5.size)
            have rE6 := rE5.below hb6 (by omega)
            have rK6 := rK5.below hb6 (by omega)
            have z6 : w.heap.size + 2 ≤ w6.heap.size := Nat.le_trans z5 hb6.size
            clear hb6 hb5 rE5 rK5 z5 x0 x1 x2 y0 y1 y2 y3 y4 y5 y6 y7 HL5
            go_wp2
          · go_ret
            have hz := HZ.out
            have hn := HN.out
            simp only [nodeVp] at hn
            rw [hn, Bool.false_and] at hz
            exact ⟨ret_bool (by rw [HV.out, hz]), hb7⟩
          · have hz := HZ.out
            have hn := HN.out
            simp only [nodeVp] at hn
            rw [hn, Bool.true_and] at hz
            have HZ2 := Lib.hid hz
            clear hz hn
            go_roundw
            case rel => exact ⟨j + 1, by omega, by go_num, HZ2.out, rE6, rK6, z6, hb7⟩
            case measure => simp [intOf]; omega
      · have e9 : j = k.len := by omega
        go_wp2
        go_ret
        have hz := HX.out
        rw [e9, Fo.drop_len] at hz
        exact ⟨ret_bool (by rw [HV.out, hz]; rfl), hb⟩

set_option maxHeartbeats 2000000 in
theorem vp_plain (s : Nat) (ih : ∀ m, m < s → VpAt m) (op : Int) (hp : isPlain op) (n : Int) (k : Fo) (A : Option Addr) (c : Nat) (S : Nat → Bool) (w : World) (hs : k.size = s) (hl : Lies w 0 w.heap.size A 0 k) (hlen : k.len ≤ maxLen) :
    Calls Tryz.prog 65 #[.agg #[.int .i64 op, .int .i64 n, .slice A k.len c], arrB S] w (Gives (.bool (nodeVp op n k S)) w) := by
  have hb0 : Below w.heap.size w ((w.alloc (Obj.cells #[Value.int IntKind.i64 op, Value.int IntKind.i64 n, Value.slice A k.len c] 36)).alloc (Obj.cells (cellsB S) 85)) :=
    ((Below.refl _ _).alloc (Nat.le_refl _) _).alloc (by simp) _
  have hr0 := (Row.fresh w 36 #[Value.int IntKind.i64 op, Value.int IntKind.i64 n, Value.slice A k.len c]).alloc (Obj.cells (cellsB S) 85)
  have hk0 := Row.fresh (w.alloc (Obj.cells #[Value.int IntKind.i64 op, Value.int IntKind.i64 n, Value.slice A k.len c] 36)) 85 (cellsB S)
  rw [World.size_alloc] at hk0
  have hs0 : w.heap.size + 2 ≤ ((w.alloc (Obj.cells #[Value.int IntKind.i64 op, Value.int IntKind.i64 n, Value.slice A k.len c] 36)).alloc (Obj.cells (cellsB S) 85)).heap.size := by simp
  unfold cellsB at hb0 hr0 hk0 hs0
  have hpl : plainOf op ≤ 3 := by unfold plainOf; split <;> (try split) <;> (try split) <;> (try split) <;> omega
  have HF := Lib.hid (fun PA => plainFits n PA (plainOf op) (by omega) A k.len c hlen op)
  have HFO := Lib.hid (formOf_plain op hp)
  have HNE := Lib.hid (show op ≠ 7 by rcases hp with rfl | rfl | rfl | rfl | rfl <;> decide)
  have HN2 : (op == 2) = false := by rcases hp with rfl | rfl | rfl | rfl | rfl <;> rfl
  have IH := Lib.hid ih
  clear ih
  unfold VpAt at IH
  unfold maxLen at hlen
  unfold arrB
  cases hf : (decide (n = 0) && decide (k.len = plainOf op))
  · have HV := Lib.hid (show nodeVp op n k S = false by unfold nodeVp; rw [plain_ok hp, hf, Bool.false_and])
    have HFT := Lib.hid hf
    clear hf
    go_enter Tryz.func65, Tryz.ntmps65
    go_wp2_with fail
    refine (HFO.out _).mono ?_
    rintro e w2 ⟨PA, rfl, hb2⟩
    have hb3 := hb0.trans (hb2.mono hb0.size)
    have hr2 := hr0.below hb2 (by omega)
    have hk2 := hk0.below hb2 (by omega)
    have z2 : w.heap.size + 2 ≤ w2.heap.size := Nat.le_trans hs0 hb2.size
    have q0 := hr2.cell (i := 0) rfl
    have q1 := hr2.cell (i := 1) rfl
    have q2 := hr2.cell (i := 2) rfl
    clear hr0 hb0 hs0 hb2 hk0
    go_wp2_with fail
    rw [meth_plain]
    case hs => kernel_rfl
    go_wp2_with fail
    refine (HF.out PA _).mono ?_
    rintro e w3 ⟨rfl, hb4⟩
    rw [HFT.out]
    have hb5 := hb3.trans (hb4.mono (by omega))
    clear hb3 hb4 q0 q1 q2 hr2 hk2
    go_wp2
    go_ret
    exact ⟨ret_bool HV.out.symm, hb5⟩
  · have HV := Lib.hid (show nodeVp op n k S = vpF op n 0 S k by unfold nodeVp; rw [plain_ok hp, hf, Bool.true_and])
    have HFT := Lib.hid hf
    clear hf
    go_enter Tryz.func65, Tryz.ntmps65
    go_wp2_with fail
    refine (HFO.out _).mono ?_
    rintro e w2 ⟨PA, rfl, hb2⟩
    have hb3 := hb0.trans (hb2.mono hb0.size)
    have hr2 := hr0.below hb2 (by omega)
    have hk2 := hk0.below hb2 (by omega)
    have z2 : w.heap.size + 2 ≤ w2.heap.size := Nat.le_trans hs0 hb2.size
    have q0 := hr2.cell (i := 0) rfl
    have q1 := hr2.cell (i := 1) rfl
    have q2 := hr2.cell (i := 2) rfl
    clear hr0 hb0 hs0 hb2 hk0
    go_wp2_with fail
    rw [meth_plain]
    case hs => kernel_rfl
    go_wp2_with fail
    refine (HF.out PA _).mono ?_
    rintro e w3 ⟨rfl, hb4⟩
    rw [HFT.out]
    have hb5 := hb3.trans (hb4.mono (by omega))
    have rE3 := hr2.below hb4 (by omega)
    have rK3 := hk2.below hb4 (by omega)
    have z3 : w.heap.size + 2 ≤ w3.heap.size := Nat.le_trans z2 hb4.size
    clear hb3 hb4 q0 q1 q2 hr2 hk2
    have q0 := rE3.cell (i := 0) rfl
    have q1 := rE3.cell (i := 1) rfl
    have q2 := rE3.cell (i := 2) rfl
    go_wp2_with fail
    clear q0 q1 q2
    go_loopw [39] (fun i wr => ∃ j : Nat, j ≤ k.len ∧ i = .int .i64 j ∧ vpF op n 0 S k = vpF op n j S (k.drop j) ∧ Row wr w.heap.size 36 #[Value.int IntKind.i64 op, Value.int IntKind.i64 n, Value.slice A k.len c] ∧ Row wr (w.heap.size + 1) 85 (cellsB S) ∧ w.heap.size + 2 ≤ wr.heap.size ∧ Below w.heap.size w wr)
      (fun i _ => k.len - (intOf i).toNat)
    case atStart => exact ⟨0, by omega, rfl, by rw [Fo.drop_zero], rE3, rK3, z3, hb5⟩
    case round =>
      clear rE3 rK3 z3 hb5
      obtain ⟨j, hj, rfl, hx, rE, rK, hsz, hb⟩ := hrel
      have HX := Lib.hid hx
      clear hx
      by_cases hlt : j < k.len
      · obtain ⟨op', n', k', e1, e2, e3⟩ := Fo.drop_of_lt k j hlt
        have hj' := (hl.below hb).at_ j
        rw [Nat.zero_add, e1] at hj'
        obtain ⟨⟨b, o, A', c', hA, _, hbb, i1, i2, g1, g2, g3, h1, h2, h3⟩, _⟩ := hj'
        have hz := HX.out
        rw [e1] at hz
        simp only [vpF] at hz
        have HZ := Lib.hid hz
        have HL3 := Lib.hid h3
        clear HX e1 e3 hz h3
        subst hA
        have q0 : ((wr.alloc (Obj.cells #[Value.int IntKind.i64 op', Value.int IntKind.i64 n', Value.slice A' k'.len c'] 36)).alloc (Obj.cells #[.bool (S 0), .bool (S 1), .bool (S 2), .bool (S 3), .bool (S 4), .bool (S 5), .bool (S 6), .bool (S 7)] 85)).cell? ⟨w.heap.size, 0, none⟩ = some (.int .i64 op) := ((rE.alloc _).alloc _).cell rfl
        have q1 : ((wr.alloc (Obj.cells #[Value.int IntKind.i64 op', Value.int IntKind.i64 n', Value.slice A' k'.len c'] 36)).alloc (Obj.cells #[.bool (S 0), .bool (S 1), .bool (S 2), .bool (S 3), .bool (S 4), .bool (S 5), .bool (S 6), .bool (S 7)] 85)).cell? ⟨w.heap.size, 1, none⟩ = some (.int .i64 n) := ((rE.alloc _).alloc _).cell rfl
        have q2 : ((wr.alloc (Obj.cells #[Value.int IntKind.i64 op', Value.int IntKind.i64 n', Value.slice A' k'.len c'] 36)).alloc (Obj.cells #[.bool (S 0), .bool (S 1), .bool (S 2), .bool (S 3), .bool (S 4), .bool (S 5), .bool (S 6), .bool (S 7)] 85)).cell? ⟨w.heap.size, 2, none⟩ = some (.slice (some ⟨b, o, none⟩) k.len c) := ((rE.alloc _).alloc _).cell rfl
        have p0 : (wr.alloc (Obj.cells #[Value.int IntKind.i64 op', Value.int IntKind.i64 n', Value.slice A' k'.len c'] 36)).cell? ⟨w.heap.size + 1, 0, none⟩ = some (.bool (S 0)) := (rK.alloc _).cell rfl
        have p1 : (wr.alloc (Obj.cells #[Value.int IntKind.i64 op', Value.int IntKind.i64 n', Value.slice A' k'.len c'] 36)).cell? ⟨w.heap.size + 1, 1, none⟩ = some (.bool (S 1)) := (rK.alloc _).cell rfl
        have p2 : (wr.alloc (Obj.cells #[Value.int IntKind.i64 op', Value.int IntKind.i64 n', Value.slice A' k'.len c'] 36)).cell? ⟨w.heap.size + 1, 2, none⟩ = some (.bool (S 2)) := (rK.alloc _).cell rfl
        have p3 : (wr.alloc (Obj.cells #[Value.int IntKind.i64 op', Value.int IntKind.i64 n', Value.slice A' k'.len c'] 36)).cell? ⟨w.heap.size + 1, 3, none⟩ = some (.bool (S 3)) := (rK.alloc _).cell rfl
        have p4 : (wr.alloc (Obj.cells #[Value.int IntKind.i64 op', Value.int IntKind.i64 n', Value.slice A' k'.len c'] 36)).cell? ⟨w.heap.size + 1, 4, none⟩ = some (.bool (S 4)) := (rK.alloc _).cell rfl
        have p5 : (wr.alloc (Obj.cells #[Value.int IntKind.i64 op', Value.int IntKind.i64 n', Value.slice A' k'.len c'] 36)).cell? ⟨w.heap.size + 1, 5, none⟩ = some (.bool (S 5)) := (rK.alloc _).cell rfl
        have p6 : (wr.alloc (Obj.cells #[Value.int IntKind.i64 op', Value.int IntKind.i64 n', Value.slice A' k'.len c'] 36)).cell? ⟨w.heap.size + 1, 6, none⟩ = some (.bool (S 6)) := (rK.alloc _).cell rfl
        have p7 : (wr.alloc (Obj.cells #[Value.int IntKind.i64 op', Value.int IntKind.i64 n', Value.slice A' k'.len c'] 36)).cell? ⟨w.heap.size + 1, 7, none⟩ = some (.bool (S 7)) := (rK.alloc _).cell rfl
        have b4 : Below w.heap.size w ((wr.alloc (Obj.cells #[Value.int IntKind.i64 op', Value.int IntKind.i64 n', Value.slice A' k'.len c'] 36)).alloc (Obj.cells (cellsB S) 85)) := (hb.alloc (by omega) _).alloc (by simp; omega) _
        have z4 : wr.heap.size + 2 ≤ ((wr.alloc (Obj.cells #[Value.int IntKind.i64 op', Value.int IntKind.i64 n', Value.slice A' k'.len c'] 36)).alloc (Obj.cells (cellsB S) 85)).heap.size := by simp
        have rE4 := (rE.alloc (Obj.cells #[Value.int IntKind.i64 op', Value.int IntKind.i64 n', Value.slice A' k'.len c'] 36)).alloc (Obj.cells (cellsB S) 85)
        have rK4 := (rK.alloc (Obj.cells #[Value.int IntKind.i64 op', Value.int IntKind.i64 n', Value.slice A' k'.len c'] 36)).alloc (Obj.cells (cellsB S) 85)
        have rX4 := (Row.fresh wr 36 #[Value.int IntKind.i64 op', Value.int IntKind.i64 n', Value.slice A' k'.len c']).alloc (Obj.cells (cellsB S) 85)
        have rY4 := Row.fresh (wr.alloc (Obj.cells #[Value.int IntKind.i64 op', Value.int IntKind.i64 n', Value.slice A' k'.len c'] 36)) 85 (cellsB S)
        rw [World.size_alloc] at rY4
        have HB4 := Lib.hid b4
        have HE4 := Lib.hid rE4
        have HK4 := Lib.hid rK4
        have HX4 := Lib.hid rX4
        have HY4 := Lib.hid rY4
        have HL4 := Lib.hid ((HL3.out.keep (w' := (wr.alloc (Obj.cells #[Value.int IntKind.i64 op', Value.int IntKind.i64 n', Value.slice A' k'.len c'] 36)).alloc (Obj.cells (cellsB S) 85)) (Nat.le_refl _) (Nat.le_refl _) (fun p _ hp => (World.cell?_alloc_lt _ _ p (by simp; omega)).trans (World.cell?_alloc_lt wr _ p (by omega)))))
        clear b4 rE4 rK4 rX4 rY4 HL3 rE rK
        unfold cellsB at HB4 HE4 HK4 HX4 HY4 HL4 z4
        go_wp2_with fail
        refine (bindsIn_any op n _ (j : Int) _).mono ?_
        rintro e w5 ⟨rfl, hb5'⟩
        have hb5 := HB4.out.trans (hb5'.mono HB4.out.size)
        have z5 := Nat.le_trans (show w.heap.size + 2 ≤ _ by omega) hb5'.size
        have z5' := Nat.le_trans z4 hb5'.size
        have rE5 := HE4.out.below hb5' (by omega)
        have rK5 := HK4.out.below hb5' (by omega)
        have rX5 := HX4.out.below hb5' (by omega)
        have rY5 := HY4.out.below hb5' (by omega)
        have HL5 := Lib.hid ((HL4.out.below (hb5'.mono (by omega))).mono_ (Nat.le_refl _) (show w.heap.size ≤ w5.heap.size by omega))
        clear hb5' HB4 HE4 HK4 HX4 HY4 HL4 q0 q1 q2 p0 p1 p2 p3 p4 p5 p6 p7 g1 g2 g3 z4
        have hbi : binds op (j : Int) = false := by simp [binds, HNE.out]
        rw [hbi]
        have hin : inner op n j S = S := by simp [inner, HNE.out]
        have hz := HZ.out
        rw [hin] at hz
        clear HZ hbi hin
        have HZ := Lib.hid hz
        clear hz
        have x0 := rX5.cell (i := 0) rfl
        have x1 := rX5.cell (i := 1) rfl
        have x2 := rX5.cell (i := 2) rfl
        have y0 := rY5.cell (i := 0) rfl
        have y1 := rY5.cell (i := 1) rfl
        have y2 := rY5.cell (i := 2) rfl
        have y3 := rY5.cell (i := 3) rfl
        have y4 := rY5.cell (i := 4) rfl
        have y5 := rY5.cell (i := 5) rfl
        have y6 := rY5.cell (i := 6) rfl
        have y7 := rY5.cell (i := 7) rfl
        cases hN4 : nodeVp op' n' k' S
        all_goals
          have HN := Lib.hid hN4
          clear hN4
          clear rX5 rY5
          go_wp2_with fail
          refine (IH.out k'.size (by omega) op' n' k' A' c' (S) _ rfl ?_ (by omega)).mono ?_
          · exact HL5.out
          rintro e w6 ⟨rfl, hb6⟩
          rw [HN.out]
          have hb7 := hb5.trans (hb6.mono hb5.size)
          have rE6 := rE5.below hb6 (by omega)
          have rK6 := rK5.below hb6 (by omega)
          have z6 : w.heap.size + 2 ≤ w6.heap.size := Nat.le_trans z5 hb6.size
          clear hb6 hb5 rE5 rK5 z5 x0 x1 x2 y0 y1 y2 y3 y4 y5 y6 y7 HL5
          go_wp2
        · go_ret
          have hz := HZ.out
          have hn := HN.out
          simp only [nodeVp] at hn
          rw [hn, Bool.false_and] at hz
          exact ⟨ret_bool (by rw [HV.out, hz]), hb7⟩
        · have hz := HZ.out
          have hn := HN.out
          simp only [nodeVp] at hn
          rw [hn, Bool.true_and] at hz
          have HZ2 := Lib.hid hz
          clear hz hn
          go_roundw
          case rel => exact ⟨j + 1, by omega, by go_num, HZ2.out, rE6, rK6, z6, hb7⟩
          case measure => simp [intOf]; omega
      · have e9 : j = k.len := by omega
        go_wp2
        go_ret
        have hz := HX.out
        rw [e9, Fo.drop_len] at hz
        exact ⟨ret_bool (by rw [HV.out, hz]; rfl), hb⟩

theorem validPart_any (s : Nat) : VpAt s := by
  induction s using Nat.strongRecOn with
  | _ s ih =>
    intro op n k A c S w hs hl hlen
    by_cases hk : isKind op
    · rcases hk with rfl | rfl | rfl | rfl | hp
      · exact vp_1 s ih n k A c S w hs hl hlen
      · exact vp_2 s ih n k A c S w hs hl hlen
      · exact vp_3 s ih n k A c S w hs hl hlen
      · exact vp_7 s ih n k A c S w hs hl hlen
      · exact vp_plain s ih op hp n k A c S w hs hl hlen
    · exact vp_none op n k A c S w hk
end Go.Proofs.YtpknegneogdmfaaGreat
