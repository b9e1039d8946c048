/-
  spec.CountVar: how often a variable stands free.
  impl.CountVar: how often a variable stands free.
  FreeVars: the model and the program.
-/
import Derived.Test.YtknimjfmmnnelaaFo
import Derived.Test.YtknimjfmmnnelaaRows
import Derived.WalkKit
import Derived.WalkSpells
import Derived.Lib.Hide
import Derived.Deep.CutRange
import Derived.Test.YtknimjfmmnnelaaNodesI
import Derived.Test.YtknimjfmmnnelaaVars
import Derived.Test.YtknimjfmmnnelaaOwnM
import Derived.Test.YtknimjfmmnnelaaDe
import Derived.Maps.AppendAt
namespace Go.Proofs.Ytknimjfmmnnelaa
open Go.RowKit
set_option maxRecDepth 100000

def ownVar (x op n : Int) : Nat := if op = 2 ∧ n = x then 1 else 0
/-- The kids from the i-th on; of a let that binds x the second is passed over. -/
def cntL (x : Int) : Bool → Nat → Fo → Nat
  | _, _, .nil => 0
  | skip, i, .cons op n k r => (if skip = true ∧ i = 1 then 0 else ownVar x op n + cntL x (decide (op = 7 ∧ n = x)) 0 k) + cntL x skip (i + 1) r
def cntN (x op n : Int) (k : Fo) : Nat := ownVar x op n + cntL x (decide (op = 7 ∧ n = x)) 0 k
theorem ownVar_le (x op n : Int) : ownVar x op n ≤ 1 := by unfold ownVar; split <;> omega
theorem cntL_le (x : Int) : ∀ (s : Bool) (i : Nat) (f : Fo), cntL x s i f ≤ f.size
  | _, _, .nil => Nat.le_refl _
  | s, i, .cons op n k r => by
    have h1 := cntL_le x s (i + 1) r
    have h2 := cntL_le x (decide (op = 7 ∧ n = x)) 0 k
    have h3 := ownVar_le x op n
    simp only [cntL, Fo.size]
    split <;> omega
theorem cntN_le (x op n : Int) (k : Fo) : cntN x op n k ≤ 1 + k.size := by
  have h2 := cntL_le x (decide (op = 7 ∧ n = x)) 0 k
  have h3 := ownVar_le x op n
  unfold cntN
  omega
theorem cntL_cons {f : Fo} {x op n : Int} {s : Bool} {i : Nat} {k r : Fo} (e : f = .cons op n k r) : cntL x s i f = (if s = true ∧ i = 1 then 0 else cntN x op n k) + cntL x s (i + 1) r := by subst e; rfl

end Go.Proofs.Ytknimjfmmnnelaa

namespace Go.Proofs.Ytknimjfmmnnelaa
open Go.RowKit Go.Shelf
set_option maxRecDepth 100000

attribute [local go_sem] Oper.semAt_some

def hideX (x : Int) (p : Nd) (i : Nat) : Bool := binds p.op (i : Int) && decide (p.n = x)
def cntO (x : Int) : List Nd → Nat
  | [] => 0
  | p :: r => ownVar x p.op p.n + cntO x r
theorem cntO_append (x : Int) : ∀ (a b : List Nd), cntO x (a ++ b) = cntO x a + cntO x b
  | [], _ => by simp [cntO]
  | p :: r, b => by simp [cntO, cntO_append x r b]; omega
theorem cntO_le (x : Int) : ∀ (a : List Nd), cntO x a ≤ a.length
  | [] => Nat.le_refl _
  | p :: r => by have := cntO_le x r; have := ownVar_le x p.op p.n; simp [cntO]; omega
theorem cntO_ordF (x : Int) : ∀ (p : Nd) (i : Nat) (f : Fo), cntO x (ordF (hideX x) p i f) = cntL x (decide (p.op = 7 ∧ p.n = x)) i f
  | _, _, .nil => rfl
  | p, i, .cons op n k r => by
    have h1 := cntO_ordF x p (i + 1) r
    have h2 := cntO_ordF x ⟨op, n, k⟩ 0 k
    simp only at h2
    simp only [ordF, cntL, cntO_append, h1]
    by_cases h : p.op = 7 ∧ p.n = x
    · by_cases hi : i = 1
      · have e : hideX x p i = true := by simp [hideX, binds, h.1, h.2, hi]
        rw [if_pos e, if_pos ⟨by simpa using h, hi⟩]
        simp [cntO]
      · have e : ¬ hideX x p i = true := by
          simp [hideX, binds, h.1, h.2]
          omega
        rw [if_neg e, if_neg (fun hh => hi hh.2)]
        simp only [cntO, h2]
        omega
    · have e : ¬ hideX x p i = true := by
        simp [hideX, binds]
        intro h7 _ h8
        exact h ⟨h7, h8⟩
      rw [if_neg e, if_neg (fun hh => h (by simpa using hh.1))]
      simp only [cntO, h2]
      omega
theorem cntO_ordN (x op n : Int) (k : Fo) : cntO x (ordN (hideX x) ⟨op, n, k⟩) = cntN x op n k := by
  simp only [ordN, cntO, cntO_ordF, cntN]

/-- The closure that hides what x is bound in. -/
theorem bound_any (op m x : Int) (k : Fo) (A : Option Addr) (c i Bv : Nat) (w : World) (hv : w.cell? ⟨Bv, 0, none⟩ = some (.int .i64 x)) :
    Calls Try.prog 21 #[.agg #[.int .i64 op, .int .i64 m, .slice A k.len c], .int .i64 (i : Int), .pointer (some ⟨Bv, 0, none⟩)] w (Gives (.bool (hideX x ⟨op, m, k⟩ i)) w) := by
  unfold hideX
  dsimp only
  have hb0 : Below w.heap.size w (w.alloc (Obj.cells #[Value.int .i64 op, Value.int .i64 m, Value.slice A k.len c] 26)) := (Below.refl _ _).alloc (Nat.le_refl _) _
  have hr0 := Row.fresh w 26 #[Value.int .i64 op, Value.int .i64 m, Value.slice A k.len c]
  have hbi := bindsIn_any op m (.slice A k.len c) i (w.alloc (Obj.cells #[Value.int .i64 op, Value.int .i64 m, Value.slice A k.len c] 26))
  have hz := World.block_lt_of_cell? _ _ hv
  cases hbb : binds op (i : Int) with
  | false =>
    rw [hbb] at hbi
    simp only [Bool.false_and]
    clear hbb hv
    go_enter Try.func21, Try.ntmps21
    go_wp2_with fail
    refine hbi.mono ?_
    rintro e w2 ⟨rfl, hb2⟩
    go_wp2
    go_ret
    exact ⟨rfl, hb0.trans (hb2.mono hb0.size)⟩
  | true =>
    rw [hbb] at hbi
    simp only [Bool.true_and]
    clear hbb
    by_cases hx : m = x
    · subst hx
      rw [decide_eq_true rfl]
      go_enter Try.func21, Try.ntmps21
      go_wp2_with fail
      refine hbi.mono ?_
      rintro e w2 ⟨rfl, hb2⟩
      have hbw := hb0.trans (hb2.mono hb0.size)
      have q1 := (hr0.below hb2 hr0.size).cell (i := 1) rfl
      have q3 := (hbw.cell (p := ⟨Bv, 0, none⟩) hz).trans hv
      clear hv
      go_wp2
      go_ret
      exact ⟨rfl, hbw⟩
    · rw [decide_eq_false hx]
      go_enter Try.func21, Try.ntmps21
      go_wp2_with fail
      refine hbi.mono ?_
      rintro e w2 ⟨rfl, hb2⟩
      have hbw := hb0.trans (hb2.mono hb0.size)
      have q1 := (hr0.below hb2 hr0.size).cell (i := 1) rfl
      have q3 := (hbw.cell (p := ⟨Bv, 0, none⟩) hz).trans hv
      clear hv
      go_wp2
      go_ret
      exact ⟨ret_bool (by simpa using hx), hbw⟩

set_option maxRecDepth 100000 in
set_option maxHeartbeats 2000000 in
theorem implCount_r (op m x : Int) (k : Fo) (A : Option Addr) (c L B : Nat) (w : World) (hl : Lies w L B A 0 k) (hB : B ≤ w.heap.size) (hal : RowsIf w B A k) (hk1 : k.len ≤ c) (hk2 : c ≤ maxLen) (hsz : k.size ≤ 1048576) :
    Calls Try.prog 7 #[.agg #[.int .i64 op, .int .i64 m, .slice A k.len c], .int .i64 x] w (Gives (.int .i64 ((cntN x op m k : Nat) : Int)) w) := by
  refine (callsIn_wide (n := 9)).1 ?_
  refine callsIn_of_wp_marks Try.func7 rfl trivial ?_ rfl
  simp only [Try.ntmps7, List.size_toArray, List.length_cons, List.length_nil, Nat.reduceAdd, Nat.reduceSub, Array.replicate_succ, Array.replicate_zero, List.push_toArray, List.append_toArray, List.nil_append, List.cons_append]
  gi_wp2_with fail
  refine ⟨trivial, (callsIn_wide.2 (nodesOf_any op m k A c 21 #[.pointer (some ⟨w.heap.size + 1, 0, none⟩)] _)).mono ?_⟩
  rintro e w1 ⟨rfl, rfl⟩
  gi_wp2_with fail
  obtain ⟨W0, hW0⟩ : ∃ W0, W0 = ((((w.alloc (Obj.cells #[Value.int .i64 op, Value.int .i64 m, Value.slice A k.len c] 26)).alloc (Obj.cells #[Value.int .i64 x] 3)).alloc (Obj.cells #[Value.int .i64 0] 3)).alloc
    (Obj.cells #[Value.int .i64 op, Value.int .i64 m, Value.slice A k.len c] 26)).alloc (Obj.cells #[Value.func (.func 21) #[] #[.pointer (some ⟨w.heap.size + 1, 0, none⟩)]] 48) := ⟨_, rfl⟩
  rw [← hW0]
  have hz0 : W0.heap.size = w.heap.size + 1 + 1 + 1 + 1 + 1 := by rw [hW0]; simp
  have hb0 : Below w.heap.size w W0 := by
    rw [hW0]
    exact (((((Below.refl _ _).alloc (Nat.le_refl _) _).alloc (by simp) _).alloc (by simp; omega) _).alloc (by simp; omega) _).alloc (by simp; omega) _
  have rv : Row W0 (w.heap.size + 1) 3 #[Value.int .i64 x] := by
    rw [hW0]
    have := Row.fresh (w.alloc (Obj.cells #[Value.int .i64 op, Value.int .i64 m, Value.slice A k.len c] 26)) 3 #[Value.int .i64 x]
    rw [World.size_alloc] at this
    exact ((this.alloc _).alloc _).alloc _
  have rn : Row W0 (w.heap.size + 1 + 1) 3 #[Value.int .i64 0] := by
    rw [hW0]
    have := Row.fresh ((w.alloc (Obj.cells #[Value.int .i64 op, Value.int .i64 m, Value.slice A k.len c] 26)).alloc (Obj.cells #[Value.int .i64 x] 3)) 3 #[Value.int .i64 0]
    simp only [World.size_alloc] at this
    exact (this.alloc _).alloc _
  have r1 : Row W0 (w.heap.size + 1 + 1 + 1) 26 #[Value.int .i64 op, Value.int .i64 m, Value.slice A k.len c] := by
    rw [hW0]
    have := Row.fresh (((w.alloc (Obj.cells #[Value.int .i64 op, Value.int .i64 m, Value.slice A k.len c] 26)).alloc (Obj.cells #[Value.int .i64 x] 3)).alloc (Obj.cells #[Value.int .i64 0] 3)) 26 #[Value.int .i64 op, Value.int .i64 m, Value.slice A k.len c]
    simp only [World.size_alloc] at this
    exact this.alloc _
  have r2 : Row W0 (w.heap.size + 1 + 1 + 1 + 1) 48 #[Value.func (.func 21) #[] #[.pointer (some ⟨w.heap.size + 1, 0, none⟩)]] := by
    rw [hW0]
    have := Row.fresh ((((w.alloc (Obj.cells #[Value.int .i64 op, Value.int .i64 m, Value.slice A k.len c] 26)).alloc (Obj.cells #[Value.int .i64 x] 3)).alloc (Obj.cells #[Value.int .i64 0] 3)).alloc (Obj.cells #[Value.int .i64 op, Value.int .i64 m, Value.slice A k.len c] 26)) 48 #[Value.func (.func 21) #[] #[.pointer (some ⟨w.heap.size + 1, 0, none⟩)]]
    simp only [World.size_alloc] at this
    exact this
  clear hW0
  have hN : (ordN (hideX x) ⟨op, m, k⟩).length ≤ 1048577 := by have := ordN_len (hideX x) ⟨op, m, k⟩; simp only at this; omega
  refine range_own (X := fun g => g = w.heap.size + 1 + 1) rfl (by omega) (gf := 43) (lb := #[.pointer (some ⟨w.heap.size + 1 + 1 + 1, 0, none⟩), .pointer (some ⟨w.heap.size + 1 + 1 + 1 + 1, 0, none⟩)]) rfl trivial (enters_of Try.func43 (by kernel_rfl) rfl)
    (nodes_seqR 8 (hideX x) op m k A c L B (w.heap.size + 1 + 1 + 1) (w.heap.size + 1 + 1 + 1 + 1) 21 #[.pointer (some ⟨w.heap.size + 1, 0, none⟩)] (fun g => g = w.heap.size + 1 + 1) W0 (fun g hg => by omega) (by omega) (by omega) (fun g _ h2 => by omega) r1 (r2.cell (i := 0) rfl)
      (hl.below (hb0.mono hB)) (Nat.le_trans hB hb0.size) (hal.below hb0 hB) hk1 hk2 hsz (enters_of Try.func21 (by kernel_rfl) rfl)
      (fun y i V hV => bound_any y.op y.n x y.k y.A y.c i (w.heap.size + 1) V (hV.cell (p := ⟨w.heap.size + 1, 0, none⟩) (by simp) (rv.cell (i := 0) rfl))))
    (Below.refl _ _) (fun _ => rfl)
    (fun pre W => (Row W (w.heap.size + 1 + 1) 3 #[Value.int .i64 ((cntO x (pre.map Nx.nd) : Nat) : Int)] ∧ Row W (w.heap.size + 1) 3 #[Value.int .i64 x]) ∧ Below w.heap.size w W) (fun _ _ _ => False)
    (fun s V V' ⟨⟨x1, x3⟩, x2⟩ hb => ⟨⟨x1.below hb (by omega), x3.below hb (by omega)⟩, x2.trans (hb.mono (by omega))⟩) (fun _ _ _ _ hf _ => hf) ⟨⟨rn, rv⟩, hb0⟩
    (fun y a' V => ∃ Bx, W0.heap.size ≤ Bx ∧ Row V Bx 26 #[Value.int .i64 y.op, Value.int .i64 y.n, Value.slice y.A y.k.len y.c] ∧ a' = { tmps := #[.agg #[.int .i64 op, .int .i64 m, .slice A k.len c], .int .i64 x, .pointer (some ⟨w.heap.size, 0, none⟩), .pointer (some ⟨w.heap.size + 1, 0, none⟩), .int .i64 0,
      .func (.func 21) #[] #[.pointer (some ⟨w.heap.size + 1, 0, none⟩)], .pointer (some ⟨w.heap.size + 1 + 1, 0, none⟩), .pointer (some ⟨Bx, 0, none⟩), .func (.func 21) #[] #[.pointer (some ⟨w.heap.size + 1, 0, none⟩)],
      .agg #[.int .i64 op, .int .i64 m, .slice A k.len c], .func (.func 21) #[] #[.pointer (some ⟨w.heap.size + 1, 0, none⟩)],
      .func (.func 43) #[] #[.pointer (some ⟨w.heap.size + 1 + 1 + 1, 0, none⟩), .pointer (some ⟨w.heap.size + 1 + 1 + 1 + 1, 0, none⟩)], y.val, undef, undef, undef, undef, undef, undef, undef, undef, undef, undef, undef, undef], defers := [] })
    (fun y a' V V' ⟨Bx, h1, h2, h3⟩ hk => ⟨Bx, h1, hk.row h2 (by omega), h3⟩) ?assign ?body ?done ?stop
  case assign =>
    intro l pre y W K hsW hi hK
    unfold Nx.val
    gi_wp2
    exact hK _ _ ((Below.refl _ _).alloc (Nat.le_refl _) _) ⟨W.heap.size, by omega, Row.fresh _ _ _, rfl⟩
  case body =>
    rintro l pre y a' W _ ⟨⟨hr, hv⟩, hb⟩ ⟨Bx, hBx, hrx, rfl⟩ hlen
    have q := hr.cell (i := 0) rfl
    have f := hr.free 0
    have qv := hv.cell (i := 0) rfl
    have y0 := hrx.cell (i := 0) rfl
    have y1 := hrx.cell (i := 1) rfl
    have hlp := cntO_le x (pre.map Nx.nd)
    rw [List.length_map] at hlp
    have hcn : cntO x ((pre ++ [y]).map Nx.nd) = cntO x (pre.map Nx.nd) + ownVar x y.op y.n := by
      rw [List.map_append, cntO_append]; simp [cntO, Nx.nd]
    have HCN := Lib.hid hcn
    clear hcn
    have hcl : cntO x (pre.map Nx.nd) ≤ 1048577 := by omega
    clear hlp
    generalize cntO x (pre.map Nx.nd) = cc at *
    by_cases h2 : y.op = 2
    · by_cases h3 : y.n = x
      · have ho : ownVar x y.op y.n = 1 := by unfold ownVar; rw [if_pos ⟨h2, h3⟩]
        rw [ho] at HCN
        clear ho
        gi_wp2
        refine ⟨KeepsFrom.set (KeepsFrom.refl _ _) _ _, KC.set (X := fun g => g = w.heap.size + 1 + 1) (p := ⟨w.heap.size + 1 + 1, 0, none⟩) (KC.refl _ _) rfl _, ⟨?_, hv.apart (by simp) _⟩, hb.setCell (by simp; omega) _⟩
        have := hr.put 0 (.int .i64 ((cc : Int) + 1))
        rw [HCN.out]
        exact this
      · have ho : ownVar x y.op y.n = 0 := by unfold ownVar; rw [if_neg (fun h => h3 h.2)]
        rw [ho] at HCN
        clear ho
        gi_wp2
        refine ⟨KeepsFrom.refl _ _, KC.refl _ _, ⟨?_, hv⟩, hb⟩
        rw [HCN.out]
        exact hr
    · have ho : ownVar x y.op y.n = 0 := by unfold ownVar; rw [if_neg (fun h => h2 h.1)]
      rw [ho] at HCN
      clear ho
      gi_wp2
      refine ⟨KeepsFrom.refl _ _, KC.refl _ _, ⟨?_, hv⟩, hb⟩
      rw [HCN.out]
      exact hr
  case done =>
    rintro D ys W hD hS ⟨⟨hr, _⟩, hb⟩ hK
    rw [hS, cntO_ordN] at hr
    have q := hr.cell (i := 0) rfl
    generalize cntN x op m k = cc at *
    gi_wp2
    refine ⟨by simp, .inl ⟨_, _, rfl, run_takeDeferred hK, ?_⟩⟩
    exact ⟨_, results_tmp rfl _ _ _, rfl, hb.trans (below_put _ hK (by omega))⟩
  case stop =>
    rintro D c pre W _ _ h _
    exact h.elim
theorem implCount_any (op m x : Int) (k : Fo) (A : Option Addr) (c L B : Nat) (w : World) (hl : Lies w L B A 0 k) (hB : B ≤ w.heap.size) (hal : AllRows w L B) (hk1 : k.len ≤ c) (hk2 : c ≤ maxLen) (hsz : k.size ≤ 1048576) :
    Calls Try.prog 7 #[.agg #[.int .i64 op, .int .i64 m, .slice A k.len c], .int .i64 x] w (Gives (.int .i64 ((cntN x op m k : Nat) : Int)) w) :=
  implCount_r op m x k A c L B w hl hB (.of hl hal) hk1 hk2 hsz
end Go.Proofs.Ytknimjfmmnnelaa

namespace Go.Proofs.Ytknimjfmmnnelaa
open Go.RowKit
set_option maxRecDepth 100000

def freeUpto (op n : Int) (k : Fo) : Nat → List Int
  | 0 => []
  | j + 1 => freeUpto op n k j ++ (if cntN (j : Int) op n k = 0 then [] else [(j : Int)])
theorem freeUpto_len (op n : Int) (k : Fo) : ∀ j, (freeUpto op n k j).length ≤ j
  | 0 => Nat.le_refl _
  | j + 1 => by have := freeUpto_len op n k j; simp only [freeUpto, List.length_append]; split <;> simp <;> omega
theorem freeUpto_zero {op n : Int} {k : Fo} {j : Nat} (h : cntN (j : Int) op n k = 0) : freeUpto op n k (j + 1) = freeUpto op n k j := by simp [freeUpto, h]
theorem freeUpto_some {op n : Int} {k : Fo} {j : Nat} (h : cntN (j : Int) op n k ≠ 0) : freeUpto op n k (j + 1) = freeUpto op n k j ++ [(j : Int)] := by simp [freeUpto, h]
theorem freeUpto_small (op n : Int) (k : Fo) : ∀ j x, j ≤ 8 → x ∈ freeUpto op n k j → I64 x
  | 0, x, _, h => by simp [freeUpto] at h
  | j + 1, x, hj, h => by
    rcases List.mem_append.1 h with h | h
    · exact freeUpto_small op n k j x (by omega) h
    · split at h
      · simp at h
      · rw [List.mem_singleton.1 h]
        unfold I64
        omega

end Go.Proofs.Ytknimjfmmnnelaa
