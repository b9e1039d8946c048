/-
  spec.CountVar: how often a variable stands free.
  impl.CountVar: how often a variable stands free.
  FreeVars: the model and the program.
-/
import Derived.Test.YtkdjjkkcejijnaaFo
import Derived.Test.YtkdjjkkcejijnaaRows
import Derived.WalkKit
import Derived.WalkSpells
import Derived.Lib.Hide
import Derived.Deep.CutRange
import Derived.Test.YtkdjjkkcejijnaaNodesI
import Derived.Test.YtkdjjkkcejijnaaVars
import Derived.Test.YtkdjjkkcejijnaaOwnM
import Derived.Test.YtkdjjkkcejijnaaDe
import Derived.Maps.AppendAt
namespace Go.Proofs.Ytkdjjkkcejijnaa
open Go.RowKit
set_option maxRecDepth 100000

def ownVar (x op n : Int) : Nat := if op = 2 ∧ n = x then 1 else 0
/-- The kids from the i-th on; of a let that binds x the second is passed over. -/
def cntL (x : Int) : Bool → Nat → Fo → Nat
  | _, _, .nil => 0
  | skip, i, .cons op n k r => (if skip = true ∧ i = 1 then 0 else ownVar x op n + cntL x (decide (op = 7 ∧ n = x)) 0 k) + cntL x skip (i + 1) r
def cntN (x op n : Int) (k : Fo) : Nat := ownVar x op n + cntL x (decide (op = 7 ∧ n = x)) 0 k
theorem ownVar_le (x op n : Int) : ownVar x op n ≤ 1 := by unfold ownVar; split <;> omega
theorem cntL_le (x : Int) : ∀ (s : Bool) (i : Nat) (f : Fo), cntL x s i f ≤ f.size
  | _, _, .nil => Nat.le_refl _
  | s, i, .cons op n k r => by
    have h1 := cntL_le x s (i + 1) r
    have h2 := cntL_le x (decide (op = 7 ∧ n = x)) 0 k
    have h3 := ownVar_le x op n
    simp only [cntL, Fo.size]
    split <;> omega
theorem cntN_le (x op n : Int) (k : Fo) : cntN x op n k ≤ 1 + k.size := by
  have h2 := cntL_le x (decide (op = 7 ∧ n = x)) 0 k
  have h3 := ownVar_le x op n
  unfold cntN
  omega
theorem cntL_cons {f : Fo} {x op n : Int} {s : Bool} {i : Nat} {k r : Fo} (e : f = .cons op n k r) : cntL x s i f = (if s = true ∧ i = 1 then 0 else cntN x op n k) + cntL x s (i + 1) r := by subst e; rfl

set_option maxHeartbeats 800000 in
theorem specCount_any (m : Nat) (x : Int) : ∀ (op n : Int) (k : Fo) (A : Option Addr) (c : Nat) (w : World), k.size = m → Lies w 0 w.heap.size A 0 k → k.size ≤ 1048576 →
    Calls Try.prog 8 #[.agg #[.int .i64 op, .int .i64 n, .slice A k.len c], .int .i64 x] w (Gives (.int .i64 ((cntN x op n k : Nat) : Int)) w) := by
  induction m using Nat.strongRecOn with
  | _ m ih =>
    intro op n k A c w hm hl hsz
    have hlen := Fo.len_le_size k
    have hb0 : Below w.heap.size w (w.alloc (Obj.cells #[Value.int IntKind.i64 op, Value.int IntKind.i64 n, Value.slice A k.len c] 25)) := (Below.refl _ _).alloc (Nat.le_refl _) _
    have hr0 := Row.fresh w 25 #[Value.int IntKind.i64 op, Value.int IntKind.i64 n, Value.slice A k.len c]
    have hs0 : w.heap.size + 1 ≤ (w.alloc (Obj.cells #[Value.int IntKind.i64 op, Value.int IntKind.i64 n, Value.slice A k.len c] 25)).heap.size := by simp
    have hle := cntN_le x op n k
    have hown : ownVar x op n ≤ 1 := ownVar_le x op n
    obtain ⟨s, hs⟩ : ∃ s : Bool, s = decide (op = 7 ∧ n = x) := ⟨_, rfl⟩
    obtain ⟨z, hz⟩ : ∃ z, z = cntN x op n k := ⟨_, rfl⟩
    have hzz : ownVar x op n + cntL x s 0 k = z := by rw [hz, hs]; rfl
    rw [← hz] at hle ⊢
    obtain ⟨y, hy⟩ : ∃ y, y = ownVar x op n := ⟨_, rfl⟩
    rw [← hy] at hzz hown
    obtain ⟨t, ht⟩ : ∃ t : Bool, t = decide (op = 2 ∧ n = x) := ⟨_, rfl⟩
    have HTT := Lib.hid ht
    clear ht
    have HS := Lib.hid hs
    have HY := Lib.hid hy
    have HB0 := Lib.hid hb0
    have HR0 := Lib.hid hr0
    have HS0 := Lib.hid hs0
    have HZZ := Lib.hid hzz
    clear hs hy hz hb0 hr0 hs0 hzz
    go_enter Try.func8, Try.ntmps8
    go_upto_region 2 with fail
    go_cut [15] from 7 to 14 (fun s15 wx => s15 = .bool t ∧ wx = w.alloc (Obj.cells #[Value.int IntKind.i64 op, Value.int IntKind.i64 n, Value.slice A k.len c] 25))
    case first =>
      by_cases ho : op = 2
      · by_cases hn : n = x
        · have hy1 : t = true := by rw [HTT.out]; simp [ho, hn]
          have HY1 := Lib.hid hy1
          subst ho hn
          clear hy1
          go_wp2_with fail
          go_meet
          exact ⟨by rw [HY1.out], rfl⟩
        · have hy1 : t = false := by rw [HTT.out]; simp [hn]
          have HY1 := Lib.hid hy1
          subst ho
          clear hy1
          go_wp2_with fail
          go_meet
          exact ⟨by rw [HY1.out]; simp [hn], rfl⟩
      · have hy1 : t = false := by rw [HTT.out]; simp [ho]
        have HY1 := Lib.hid hy1
        clear hy1
        go_wp2_with fail
        go_meet
        exact ⟨by rw [HY1.out], rfl⟩
    case rest =>
      obtain ⟨rfl, rfl⟩ := hcut
      cases t with
      | true =>
        have hyv : y = 1 := by rw [HY.out]; unfold ownVar; rw [if_pos (of_decide_eq_true HTT.out.symm)]
        have HYV := Lib.hid hyv
        clear hyv
        go_wp2_with fail
        go_loopw [5, 6] (fun a i wr => ∃ (j v : Nat), j ≤ k.len ∧ i = .int .i64 j ∧ a = .int .i64 v ∧ v + cntL x s j (k.drop j) = z ∧ Row wr w.heap.size 25 #[Value.int IntKind.i64 op, Value.int IntKind.i64 n, Value.slice A k.len c] ∧ w.heap.size + 1 ≤ wr.heap.size ∧ Below w.heap.size w wr)
          (fun _ i _ => k.len - (intOf i).toNat)
        case atStart => exact ⟨0, y, Nat.zero_le _, rfl, by rw [HYV.out]; rfl, by rw [Fo.drop_zero]; exact HZZ.out, HR0.out, HS0.out, HB0.out⟩
        case round =>
          obtain ⟨j, v, hj, rfl, rfl, hv, hrow, hsw, hb⟩ := hrel
          have q0 := hrow.cell (i := 0) rfl
          have q1 := hrow.cell (i := 1) rfl
          have q2 := hrow.cell (i := 2) rfl
          by_cases hlt : j < k.len
          · obtain ⟨op', n', k', e1, e2, e3⟩ := Fo.drop_of_lt k j hlt
            have hj' := (hl.below hb).at_ j
            rw [Nat.zero_add, e1] at hj'
            obtain ⟨⟨b, o, A', c', hA, _, hbb, i1, i2, g1, g2, g3, h1, h2, h3⟩, _⟩ := hj'
            subst hA
            rw [cntL_cons e1] at hv
            have HV := Lib.hid hv
            clear hv e1
            have keep : (s = false ∨ j ≠ 1) → v + cntN x op' n' k' + cntL x s (j + 1) (k.drop (j + 1)) = z := by
              intro h
              have h9 := HV.out
              rw [if_neg (by rintro ⟨h1, h2⟩; rcases h with h | h <;> simp_all)] at h9
              omega
            by_cases h7 : op = 7
            · exact absurd h7 (by have := (of_decide_eq_true HTT.out.symm).1; omega)
            · have HV2 := Lib.hid (keep (.inl (by rw [HS.out]; simp [h7])))
              clear keep HV
              go_wp2_with fail
              refine (ih k'.size (by omega) op' n' k' A' c' wr rfl (h3.mono_ (Nat.le_refl _) hb.size) (by omega)).mono ?_
              rintro e w2 ⟨rfl, hb2⟩
              have hrow2 := hrow.below hb2 (by omega)
              have hb3 := hb.trans (hb2.mono hb.size)
              have hsw2 : w.heap.size + 1 ≤ w2.heap.size := Nat.le_trans hsw hb2.size
              have hx9 : v + cntN x op' n' k' ≤ 1048577 := by have := HV2.out; omega
              clear hb hb2 q0 q1 q2 g1 g2 g3 ih hrow
              generalize cntN x op' n' k' = u at *
              go_wp2
              go_roundw
              case rel => exact ⟨j + 1, v + u, hlt, by go_num, by go_num, HV2.out, hrow2, hsw2, hb3⟩
              case measure => simp [intOf]; omega
          · have e9 : j = k.len := by omega
            rw [e9, Fo.drop_len] at hv
            have HV := Lib.hid hv
            clear hv
            go_wp2
            go_ret
            refine ⟨?_, hb⟩
            have h9 := HV.out
            simp only [cntL, Nat.add_zero] at h9
            rw [← h9]
            rfl
      | false =>
        have hyv : y = 0 := by rw [HY.out]; unfold ownVar; rw [if_neg (of_decide_eq_false HTT.out.symm)]
        have HYV := Lib.hid hyv
        clear hyv
        go_wp2_with fail
        go_loopw [5, 6] (fun a i wr => ∃ (j v : Nat), j ≤ k.len ∧ i = .int .i64 j ∧ a = .int .i64 v ∧ v + cntL x s j (k.drop j) = z ∧ Row wr w.heap.size 25 #[Value.int IntKind.i64 op, Value.int IntKind.i64 n, Value.slice A k.len c] ∧ w.heap.size + 1 ≤ wr.heap.size ∧ Below w.heap.size w wr)
          (fun _ i _ => k.len - (intOf i).toNat)
        case atStart => exact ⟨0, y, Nat.zero_le _, rfl, by rw [HYV.out]; rfl, by rw [Fo.drop_zero]; exact HZZ.out, HR0.out, HS0.out, HB0.out⟩
        case round =>
          obtain ⟨j, v, hj, rfl, rfl, hv, hrow, hsw, hb⟩ := hrel
          have q0 := hrow.cell (i := 0) rfl
          have q1 := hrow.cell (i := 1) rfl
          have q2 := hrow.cell (i := 2) rfl
          by_cases hlt : j < k.len
          · obtain ⟨op', n', k', e1, e2, e3⟩ := Fo.drop_of_lt k j hlt
            have hj' := (hl.below hb).at_ j
            rw [Nat.zero_add, e1] at hj'
            obtain ⟨⟨b, o, A', c', hA, _, hbb, i1, i2, g1, g2, g3, h1, h2, h3⟩, _⟩ := hj'
            subst hA
            rw [cntL_cons e1] at hv
            have HV := Lib.hid hv
            clear hv e1
            have keep : (s = false ∨ j ≠ 1) → v + cntN x op' n' k' + cntL x s (j + 1) (k.drop (j + 1)) = z := by
              intro h
              have h9 := HV.out
              rw [if_neg (by rintro ⟨h1, h2⟩; rcases h with h | h <;> simp_all)] at h9
              omega
            by_cases h7 : op = 7
            · by_cases hj1 : j = 1
              · by_cases hn : n = x
                · have hs1 : s = true := by rw [HS.out]; simp [h7, hn]
                  have hv2 : v + cntL x s (j + 1) (k.drop (j + 1)) = z := by
                    have h9 := HV.out
                    rw [if_pos ⟨hs1, hj1⟩] at h9
                    omega
                  have HV2 := Lib.hid hv2
                  clear hv2 HV keep hs1
                  subst h7 hn hj1
                  go_wp2
                  go_roundw
                  case rel => exact ⟨2, v, hlt, by go_num, rfl, HV2.out, hrow, hsw, hb⟩
                  case measure => simp [intOf]; omega
                · have HV2 := Lib.hid (keep (.inl (by rw [HS.out]; simp [hn])))
                  clear keep HV
                  subst h7 hj1
                  go_wp2_with fail
                  refine (ih k'.size (by omega) op' n' k' A' c' wr rfl (h3.mono_ (Nat.le_refl _) hb.size) (by omega)).mono ?_
                  rintro e w2 ⟨rfl, hb2⟩
                  have hrow2 := hrow.below hb2 (by omega)
                  have hb3 := hb.trans (hb2.mono hb.size)
                  have hsw2 : w.heap.size + 1 ≤ w2.heap.size := Nat.le_trans hsw hb2.size
                  have hx9 : v + cntN x op' n' k' ≤ 1048577 := by have := HV2.out; omega
                  clear hb hb2 q0 q1 q2 g1 g2 g3 ih hrow
                  generalize cntN x op' n' k' = u at *
                  go_wp2
                  go_roundw
                  case rel => exact ⟨2, v + u, hlt, by go_num, by go_num, HV2.out, hrow2, hsw2, hb3⟩
                  case measure => simp [intOf]; omega
              · have HV2 := Lib.hid (keep (.inr hj1))
                have hj2 : ¬ ((j : Nat) : Int) = 1 := by omega
                clear keep HV
                subst h7
                go_wp2_with fail
                refine (ih k'.size (by omega) op' n' k' A' c' wr rfl (h3.mono_ (Nat.le_refl _) hb.size) (by omega)).mono ?_
                rintro e w2 ⟨rfl, hb2⟩
                have hrow2 := hrow.below hb2 (by omega)
                have hb3 := hb.trans (hb2.mono hb.size)
                have hsw2 : w.heap.size + 1 ≤ w2.heap.size := Nat.le_trans hsw hb2.size
                have hx9 : v + cntN x op' n' k' ≤ 1048577 := by have := HV2.out; omega
                clear hb hb2 q0 q1 q2 g1 g2 g3 ih hrow
                generalize cntN x op' n' k' = u at *
                go_wp2
                go_roundw
                case rel => exact ⟨j + 1, v + u, hlt, by go_num, by go_num, HV2.out, hrow2, hsw2, hb3⟩
                case measure => simp [intOf]; omega
            · have HV2 := Lib.hid (keep (.inl (by rw [HS.out]; simp [h7])))
              clear keep HV
              go_wp2_with fail
              refine (ih k'.size (by omega) op' n' k' A' c' wr rfl (h3.mono_ (Nat.le_refl _) hb.size) (by omega)).mono ?_
              rintro e w2 ⟨rfl, hb2⟩
              have hrow2 := hrow.below hb2 (by omega)
              have hb3 := hb.trans (hb2.mono hb.size)
              have hsw2 : w.heap.size + 1 ≤ w2.heap.size := Nat.le_trans hsw hb2.size
              have hx9 : v + cntN x op' n' k' ≤ 1048577 := by have := HV2.out; omega
              clear hb hb2 q0 q1 q2 g1 g2 g3 ih hrow
              generalize cntN x op' n' k' = u at *
              go_wp2
              go_roundw
              case rel => exact ⟨j + 1, v + u, hlt, by go_num, by go_num, HV2.out, hrow2, hsw2, hb3⟩
              case measure => simp [intOf]; omega
          · have e9 : j = k.len := by omega
            rw [e9, Fo.drop_len] at hv
            have HV := Lib.hid hv
            clear hv
            go_wp2
            go_ret
            refine ⟨?_, hb⟩
            have h9 := HV.out
            simp only [cntL, Nat.add_zero] at h9
            rw [← h9]
            rfl
end Go.Proofs.Ytkdjjkkcejijnaa

namespace Go.Proofs.Ytkdjjkkcejijnaa
open Go.RowKit Go.Shelf
set_option maxRecDepth 100000

attribute [local go_sem] Oper.semAt_some

def hideX (x : Int) (p : Nd) (i : Nat) : Bool := binds p.op (i : Int) && decide (p.n = x)
def cntO (x : Int) : List Nd → Nat
  | [] => 0
  | p :: r => ownVar x p.op p.n + cntO x r
theorem cntO_append (x : Int) : ∀ (a b : List Nd), cntO x (a ++ b) = cntO x a + cntO x b
  | [], _ => by simp [cntO]
  | p :: r, b => by simp [cntO, cntO_append x r b]; omega
theorem cntO_le (x : Int) : ∀ (a : List Nd), cntO x a ≤ a.length
  | [] => Nat.le_refl _
  | p :: r => by have := cntO_le x r; have := ownVar_le x p.op p.n; simp [cntO]; omega
theorem cntO_ordF (x : Int) : ∀ (p : Nd) (i : Nat) (f : Fo), cntO x (ordF (hideX x) p i f) = cntL x (decide (p.op = 7 ∧ p.n = x)) i f
  | _, _, .nil => rfl
  | p, i, .cons op n k r => by
    have h1 := cntO_ordF x p (i + 1) r
    have h2 := cntO_ordF x ⟨op, n, k⟩ 0 k
    simp only at h2
    simp only [ordF, cntL, cntO_append, h1]
    by_cases h : p.op = 7 ∧ p.n = x
    · by_cases hi : i = 1
      · have e : hideX x p i = true := by simp [hideX, binds, h.1, h.2, hi]
        rw [if_pos e, if_pos ⟨by simpa using h, hi⟩]
        simp [cntO]
      · have e : ¬ hideX x p i = true := by
          simp [hideX, binds, h.1, h.2]
          omega
        rw [if_neg e, if_neg (fun hh => hi hh.2)]
        simp only [cntO, h2]
        omega
    · have e : ¬ hideX x p i = true := by
        simp [hideX, binds]
        intro h7 _ h8
        exact h ⟨h7, h8⟩
      rw [if_neg e, if_neg (fun hh => h (by simpa using hh.1))]
      simp only [cntO, h2]
      omega
theorem cntO_ordN (x op n : Int) (k : Fo) : cntO x (ordN (hideX x) ⟨op, n, k⟩) = cntN x op n k := by
  simp only [ordN, cntO, cntO_ordF, cntN]

/-- The closure that hides what x is bound in. -/
theorem bound_any (op m x : Int) (k : Fo) (A : Option Addr) (c i Bv : Nat) (w : World) (hv : w.cell? ⟨Bv, 0, none⟩ = some (.int .i64 x)) :
    Calls Try.prog 26 #[.agg #[.int .i64 op, .int .i64 m, .slice A k.len c], .int .i64 (i : Int), .pointer (some ⟨Bv, 0, none⟩)] w (Gives (.bool (hideX x ⟨op, m, k⟩ i)) w) := by
  unfold hideX
  dsimp only
  have hb0 : Below w.heap.size w (w.alloc (Obj.cells #[Value.int .i64 op, Value.int .i64 m, Value.slice A k.len c] 25)) := (Below.refl _ _).alloc (Nat.le_refl _) _
  have hr0 := Row.fresh w 25 #[Value.int .i64 op, Value.int .i64 m, Value.slice A k.len c]
  have hbi := bindsIn_any op m (.slice A k.len c) i (w.alloc (Obj.cells #[Value.int .i64 op, Value.int .i64 m, Value.slice A k.len c] 25))
  have hz := World.block_lt_of_cell? _ _ hv
  cases hbb : binds op (i : Int) with
  | false =>
    rw [hbb] at hbi
    simp only [Bool.false_and]
    clear hbb hv
    go_enter Try.func26, Try.ntmps26
    go_wp2_with fail
    refine hbi.mono ?_
    rintro e w2 ⟨rfl, hb2⟩
    go_wp2
    go_ret
    exact ⟨rfl, hb0.trans (hb2.mono hb0.size)⟩
  | true =>
    rw [hbb] at hbi
    simp only [Bool.true_and]
    clear hbb
    by_cases hx : m = x
    · subst hx
      rw [decide_eq_true rfl]
      go_enter Try.func26, Try.ntmps26
      go_wp2_with fail
      refine hbi.mono ?_
      rintro e w2 ⟨rfl, hb2⟩
      have hbw := hb0.trans (hb2.mono hb0.size)
      have q1 := (hr0.below hb2 hr0.size).cell (i := 1) rfl
      have q3 := (hbw.cell (p := ⟨Bv, 0, none⟩) hz).trans hv
      clear hv
      go_wp2
      go_ret
      exact ⟨rfl, hbw⟩
    · rw [decide_eq_false hx]
      go_enter Try.func26, Try.ntmps26
      go_wp2_with fail
      refine hbi.mono ?_
      rintro e w2 ⟨rfl, hb2⟩
      have hbw := hb0.trans (hb2.mono hb0.size)
      have q1 := (hr0.below hb2 hr0.size).cell (i := 1) rfl
      have q3 := (hbw.cell (p := ⟨Bv, 0, none⟩) hz).trans hv
      clear hv
      go_wp2
      go_ret
      exact ⟨ret_bool (by simpa using hx), hbw⟩

set_option maxRecDepth 100000 in
set_option maxHeartbeats 2000000 in
theorem implCount_r (op m x : Int) (k : Fo) (A : Option Addr) (c L B : Nat) (w : World) (hl : Lies w L B A 0 k) (hB : B ≤ w.heap.size) (hal : RowsIf w B A k) (hk1 : k.len ≤ c) (hk2 : c ≤ maxLen) (hsz : k.size ≤ 1048576) :
    Calls Try.prog 7 #[.agg #[.int .i64 op, .int .i64 m, .slice A k.len c], .int .i64 x] w (Gives (.int .i64 ((cntN x op m k : Nat) : Int)) w) := by
  refine (callsIn_wide (n := 9)).1 ?_
  refine callsIn_of_wp_marks Try.func7 rfl trivial ?_ rfl
  simp only [Try.ntmps7, List.size_toArray, List.length_cons, List.length_nil, Nat.reduceAdd, Nat.reduceSub, Array.replicate_succ, Array.replicate_zero, List.push_toArray, List.append_toArray, List.nil_append, List.cons_append]
  gi_wp2_with fail
  refine ⟨trivial, (callsIn_wide.2 (nodesOf_any op m k A c 26 #[.pointer (some ⟨w.heap.size + 1, 0, none⟩)] _)).mono ?_⟩
  rintro e w1 ⟨rfl, rfl⟩
  gi_wp2_with fail
  obtain ⟨W0, hW0⟩ : ∃ W0, W0 = ((((w.alloc (Obj.cells #[Value.int .i64 op, Value.int .i64 m, Value.slice A k.len c] 25)).alloc (Obj.cells #[Value.int .i64 x] 3)).alloc (Obj.cells #[Value.int .i64 0] 3)).alloc
    (Obj.cells #[Value.int .i64 op, Value.int .i64 m, Value.slice A k.len c] 25)).alloc (Obj.cells #[Value.func (.func 26) #[] #[.pointer (some ⟨w.heap.size + 1, 0, none⟩)]] 45) := ⟨_, rfl⟩
  rw [← hW0]
  have hz0 : W0.heap.size = w.heap.size + 1 + 1 + 1 + 1 + 1 := by rw [hW0]; simp
  have hb0 : Below w.heap.size w W0 := by
    rw [hW0]
    exact (((((Below.refl _ _).alloc (Nat.le_refl _) _).alloc (by simp) _).alloc (by simp; omega) _).alloc (by simp; omega) _).alloc (by simp; omega) _
  have rv : Row W0 (w.heap.size + 1) 3 #[Value.int .i64 x] := by
    rw [hW0]
    have := Row.fresh (w.alloc (Obj.cells #[Value.int .i64 op, Value.int .i64 m, Value.slice A k.len c] 25)) 3 #[Value.int .i64 x]
    rw [World.size_alloc] at this
    exact ((this.alloc _).alloc _).alloc _
  have rn : Row W0 (w.heap.size + 1 + 1) 3 #[Value.int .i64 0] := by
    rw [hW0]
    have := Row.fresh ((w.alloc (Obj.cells #[Value.int .i64 op, Value.int .i64 m, Value.slice A k.len c] 25)).alloc (Obj.cells #[Value.int .i64 x] 3)) 3 #[Value.int .i64 0]
    simp only [World.size_alloc] at this
    exact (this.alloc _).alloc _
  have r1 : Row W0 (w.heap.size + 1 + 1 + 1) 25 #[Value.int .i64 op, Value.int .i64 m, Value.slice A k.len c] := by
    rw [hW0]
    have := Row.fresh (((w.alloc (Obj.cells #[Value.int .i64 op, Value.int .i64 m, Value.slice A k.len c] 25)).alloc (Obj.cells #[Value.int .i64 x] 3)).alloc (Obj.cells #[Value.int .i64 0] 3)) 25 #[Value.int .i64 op, Value.int .i64 m, Value.slice A k.len c]
    simp only [World.size_alloc] at this
    exact this.alloc _
  have r2 : Row W0 (w.heap.size + 1 + 1 + 1 + 1) 45 #[Value.func (.func 26) #[] #[.pointer (some ⟨w.heap.size + 1, 0, none⟩)]] := by
    rw [hW0]
    have := Row.fresh ((((w.alloc (Obj.cells #[Value.int .i64 op, Value.int .i64 m, Value.slice A k.len c] 25)).alloc (Obj.cells #[Value.int .i64 x] 3)).alloc (Obj.cells #[Value.int .i64 0] 3)).alloc (Obj.cells #[Value.int .i64 op, Value.int .i64 m, Value.slice A k.len c] 25)) 45 #[Value.func (.func 26) #[] #[.pointer (some ⟨w.heap.size + 1, 0, none⟩)]]
    simp only [World.size_alloc] at this
    exact this
  clear hW0
  have hN : (ordN (hideX x) ⟨op, m, k⟩).length ≤ 1048577 := by have := ordN_len (hideX x) ⟨op, m, k⟩; simp only at this; omega
  refine range_own (X := fun g => g = w.heap.size + 1 + 1) rfl (by omega) (gf := 53) (lb := #[.pointer (some ⟨w.heap.size + 1 + 1 + 1, 0, none⟩), .pointer (some ⟨w.heap.size + 1 + 1 + 1 + 1, 0, none⟩)]) rfl trivial (enters_of Try.func53 (by kernel_rfl) rfl)
    (nodes_seqR 8 (hideX x) op m k A c L B (w.heap.size + 1 + 1 + 1) (w.heap.size + 1 + 1 + 1 + 1) 26 #[.pointer (some ⟨w.heap.size + 1, 0, none⟩)] (fun g => g = w.heap.size + 1 + 1) W0 (fun g hg => by omega) (by omega) (by omega) (fun g _ h2 => by omega) r1 (r2.cell (i := 0) rfl)
      (hl.below (hb0.mono hB)) (Nat.le_trans hB hb0.size) (hal.below hb0 hB) hk1 hk2 hsz (enters_of Try.func26 (by kernel_rfl) rfl)
      (fun y i V hV => bound_any y.op y.n x y.k y.A y.c i (w.heap.size + 1) V (hV.cell (p := ⟨w.heap.size + 1, 0, none⟩) (by simp) (rv.cell (i := 0) rfl))))
    (Below.refl _ _) (fun _ => rfl)
    (fun pre W => (Row W (w.heap.size + 1 + 1) 3 #[Value.int .i64 ((cntO x (pre.map Nx.nd) : Nat) : Int)] ∧ Row W (w.heap.size + 1) 3 #[Value.int .i64 x]) ∧ Below w.heap.size w W) (fun _ _ _ => False)
    (fun s V V' ⟨⟨x1, x3⟩, x2⟩ hb => ⟨⟨x1.below hb (by omega), x3.below hb (by omega)⟩, x2.trans (hb.mono (by omega))⟩) (fun _ _ _ _ hf _ => hf) ⟨⟨rn, rv⟩, hb0⟩
    (fun y a' V => ∃ Bx, W0.heap.size ≤ Bx ∧ Row V Bx 25 #[Value.int .i64 y.op, Value.int .i64 y.n, Value.slice y.A y.k.len y.c] ∧ a' = { tmps := #[.agg #[.int .i64 op, .int .i64 m, .slice A k.len c], .int .i64 x, .pointer (some ⟨w.heap.size, 0, none⟩), .pointer (some ⟨w.heap.size + 1, 0, none⟩), .int .i64 0,
      .func (.func 26) #[] #[.pointer (some ⟨w.heap.size + 1, 0, none⟩)], .pointer (some ⟨w.heap.size + 1 + 1, 0, none⟩), .pointer (some ⟨Bx, 0, none⟩), .func (.func 26) #[] #[.pointer (some ⟨w.heap.size + 1, 0, none⟩)],
      .agg #[.int .i64 op, .int .i64 m, .slice A k.len c], .func (.func 26) #[] #[.pointer (some ⟨w.heap.size + 1, 0, none⟩)],
      .func (.func 53) #[] #[.pointer (some ⟨w.heap.size + 1 + 1 + 1, 0, none⟩), .pointer (some ⟨w.heap.size + 1 + 1 + 1 + 1, 0, none⟩)], y.val, undef, undef, undef, undef, undef, undef, undef, undef, undef, undef, undef, undef], defers := [] })
    (fun y a' V V' ⟨Bx, h1, h2, h3⟩ hk => ⟨Bx, h1, hk.row h2 (by omega), h3⟩) ?assign ?body ?done ?stop
  case assign =>
    intro l pre y W K hsW hi hK
    unfold Nx.val
    gi_wp2
    exact hK _ _ ((Below.refl _ _).alloc (Nat.le_refl _) _) ⟨W.heap.size, by omega, Row.fresh _ _ _, rfl⟩
  case body =>
    rintro l pre y a' W _ ⟨⟨hr, hv⟩, hb⟩ ⟨Bx, hBx, hrx, rfl⟩ hlen
    have q := hr.cell (i := 0) rfl
    have f := hr.free 0
    have qv := hv.cell (i := 0) rfl
    have y0 := hrx.cell (i := 0) rfl
    have y1 := hrx.cell (i := 1) rfl
    have hlp := cntO_le x (pre.map Nx.nd)
    rw [List.length_map] at hlp
    have hcn : cntO x ((pre ++ [y]).map Nx.nd) = cntO x (pre.map Nx.nd) + ownVar x y.op y.n := by
      rw [List.map_append, cntO_append]; simp [cntO, Nx.nd]
    have HCN := Lib.hid hcn
    clear hcn
    have hcl : cntO x (pre.map Nx.nd) ≤ 1048577 := by omega
    clear hlp
    generalize cntO x (pre.map Nx.nd) = cc at *
    by_cases h2 : y.op = 2
    · by_cases h3 : y.n = x
      · have ho : ownVar x y.op y.n = 1 := by unfold ownVar; rw [if_pos ⟨h2, h3⟩]
        rw [ho] at HCN
        clear ho
        gi_wp2
        refine ⟨KeepsFrom.set (KeepsFrom.refl _ _) _ _, KC.set (X := fun g => g = w.heap.size + 1 + 1) (p := ⟨w.heap.size + 1 + 1, 0, none⟩) (KC.refl _ _) rfl _, ⟨?_, hv.apart (by simp) _⟩, hb.setCell (by simp; omega) _⟩
        have := hr.put 0 (.int .i64 ((cc : Int) + 1))
        rw [HCN.out]
        exact this
      · have ho : ownVar x y.op y.n = 0 := by unfold ownVar; rw [if_neg (fun h => h3 h.2)]
        rw [ho] at HCN
        clear ho
        gi_wp2
        refine ⟨KeepsFrom.refl _ _, KC.refl _ _, ⟨?_, hv⟩, hb⟩
        rw [HCN.out]
        exact hr
    · have ho : ownVar x y.op y.n = 0 := by unfold ownVar; rw [if_neg (fun h => h2 h.1)]
      rw [ho] at HCN
      clear ho
      gi_wp2
      refine ⟨KeepsFrom.refl _ _, KC.refl _ _, ⟨?_, hv⟩, hb⟩
      rw [HCN.out]
      exact hr
  case done =>
    rintro D ys W hD hS ⟨⟨hr, _⟩, hb⟩ hK
    rw [hS, cntO_ordN] at hr
    have q := hr.cell (i := 0) rfl
    generalize cntN x op m k = cc at *
    gi_wp2
    refine ⟨by simp, .inl ⟨_, _, rfl, run_takeDeferred hK, ?_⟩⟩
    exact ⟨_, results_tmp rfl _ _ _, rfl, hb.trans (below_put _ hK (by omega))⟩
  case stop =>
    rintro D c pre W _ _ h _
    exact h.elim
theorem implCount_any (op m x : Int) (k : Fo) (A : Option Addr) (c L B : Nat) (w : World) (hl : Lies w L B A 0 k) (hB : B ≤ w.heap.size) (hal : AllRows w L B) (hk1 : k.len ≤ c) (hk2 : c ≤ maxLen) (hsz : k.size ≤ 1048576) :
    Calls Try.prog 7 #[.agg #[.int .i64 op, .int .i64 m, .slice A k.len c], .int .i64 x] w (Gives (.int .i64 ((cntN x op m k : Nat) : Int)) w) :=
  implCount_r op m x k A c L B w hl hB (.of hl hal) hk1 hk2 hsz
end Go.Proofs.Ytkdjjkkcejijnaa

namespace Go.Proofs.Ytkdjjkkcejijnaa
open Go.RowKit
set_option maxRecDepth 100000

def freeUpto (op n : Int) (k : Fo) : Nat → List Int
  | 0 => []
  | j + 1 => freeUpto op n k j ++ (if cntN (j : Int) op n k = 0 then [] else [(j : Int)])
theorem freeUpto_len (op n : Int) (k : Fo) : ∀ j, (freeUpto op n k j).length ≤ j
  | 0 => Nat.le_refl _
  | j + 1 => by have := freeUpto_len op n k j; simp only [freeUpto, List.length_append]; split <;> simp <;> omega
theorem freeUpto_zero {op n : Int} {k : Fo} {j : Nat} (h : cntN (j : Int) op n k = 0) : freeUpto op n k (j + 1) = freeUpto op n k j := by simp [freeUpto, h]
theorem freeUpto_some {op n : Int} {k : Fo} {j : Nat} (h : cntN (j : Int) op n k ≠ 0) : freeUpto op n k (j + 1) = freeUpto op n k j ++ [(j : Int)] := by simp [freeUpto, h]
theorem freeUpto_small (op n : Int) (k : Fo) : ∀ j x, j ≤ 8 → x ∈ freeUpto op n k j → I64 x
  | 0, x, _, h => by simp [freeUpto] at h
  | j + 1, x, hj, h => by
    rcases List.mem_append.1 h with h | h
    · exact freeUpto_small op n k j x (by omega) h
    · split at h
      · simp at h
      · rw [List.mem_singleton.1 h]
        unfold I64
        omega

set_option maxHeartbeats 1000000 in
theorem implFree_r (op n : Int) (k : Fo) (A : Option Addr) (c L B : Nat) (w : World) (hlL : Lies w L B A 0 k) (hB : B ≤ w.heap.size) (hal : RowsIf w B A k) (hk1 : k.len ≤ c) (hk2 : c ≤ maxLen) (hsz : k.size ≤ 1048576) :
    Calls Try.prog 10 #[.agg #[.int .i64 op, .int .i64 n, .slice A k.len c]] w (ListPost (freeUpto op n k 8) w) := by
  have hb0 : Below w.heap.size w (w.alloc (Obj.cells #[Value.int IntKind.i64 op, Value.int IntKind.i64 n, Value.slice A k.len c] 25)) := (Below.refl _ _).alloc (Nat.le_refl _) _
  have hr0 := Row.fresh w 25 #[Value.int IntKind.i64 op, Value.int IntKind.i64 n, Value.slice A k.len c]
  go_enter Try.func10, Try.ntmps10
  go_wp2_with fail
  have own0 : (w.alloc (Obj.cells #[Value.int IntKind.i64 op, Value.int IntKind.i64 n, Value.slice A k.len c] 25)).ownsRow w.heap.size 3 1 (.slice none 0 0) (freeUpto op n k 0).length ((freeUpto op n k 0).map (Value.int .i64)) := World.ownsRow_nil _ _ _ _
  go_loopw [3, 5] (fun v i wr => ∃ (j : Nat), j ≤ 8 ∧ i = .int .i64 j ∧ wr.ownsRow w.heap.size 3 1 v (freeUpto op n k j).length ((freeUpto op n k j).map (Value.int .i64)) ∧
      Row wr w.heap.size 25 #[Value.int IntKind.i64 op, Value.int IntKind.i64 n, Value.slice A k.len c] ∧ Below w.heap.size w wr)
    (fun _ i _ => 8 - (intOf i).toNat)
  case atStart => exact ⟨0, by omega, rfl, own0, hr0, hb0⟩
  case round =>
    clear own0 hr0 hb0
    obtain ⟨j, hj, rfl, hown, hrow, hb⟩ := hrel
    by_cases hlt : j < 8
    · have q0 := hrow.cell (i := 0) rfl
      have q1 := hrow.cell (i := 1) rfl
      have q2 := hrow.cell (i := 2) rfl
      have HOWN := Lib.hid hown
      have HROW := Lib.hid hrow
      have hlen := freeUpto_len op n k j
      clear hown hrow
      go_wp2_with fail
      refine (implCount_r op n (j : Int) k A c L B wr (hlL.below (hb.mono hB)) (Nat.le_trans hB hb.size) (hal.below hb hB) hk1 hk2 hsz).mono ?_
      rintro e w2 ⟨rfl, hb2⟩
      have HO2 := Lib.hid (own_below HOWN.out hb2)
      have HR2 := Lib.hid (HROW.out.below hb2 HROW.out.size)
      have hb3 := hb.trans (hb2.mono hb.size)
      clear hb hb2 q0 q1 q2 HOWN HROW
      by_cases hc : cntN (j : Int) op n k = 0
      · have HF := Lib.hid (freeUpto_zero hc)
        rw [hc]
        clear hc
        go_wp2
        go_roundw
        case rel => exact ⟨j + 1, hlt, by go_num, by rw [HF.out]; exact HO2.out, HR2.out, hb3⟩
        case measure => simp [intOf]; omega
      · have HF := Lib.hid (freeUpto_some hc)
        have hpos : 0 < cntN (j : Int) op n k := Nat.pos_of_ne_zero hc
        generalize cntN (j : Int) op n k = cc at hpos ⊢
        clear hc
        obtain ⟨iT, hiT, hiz0, hiz1, hiz2⟩ := info_parts (show (Try.prog.info? 3).map (fun i => (i.zero, i.size, i.bytes)) = some (some (.int .i64 0), 1, 8) by kernel_rfl)
        have HIT := Lib.hid hiT
        have HIZ0 := Lib.hid hiz0
        have HIZ1 := Lib.hid hiz1
        have HIZ2 := Lib.hid hiz2
        have C1 := Lib.hid (fresh_cells w2 3 #[Value.int .i64 (j : Int)])
        have HC2 := Lib.hid (show ∀ u ∈ [Value.int .i64 (j : Int)], u.oneCell' = true by intro u hu; rw [List.mem_singleton.1 hu]; rfl)
        have HC3 := Lib.hid (show (freeUpto op n k j).length + 1 ≤ maxLen by unfold maxLen; omega)
        have HC4 := Lib.hid (show ((freeUpto op n k j).length + 1) * 8 ≤ 140737488355328 by omega)
        have HC5 := Lib.hid (show w.heap.size ≤ (w2.alloc (.cells #[Value.int .i64 (j : Int)] 3)).heap.size by have := hb3.size; rw [World.size_alloc]; omega)
        have HOA := Lib.hid (HO2.out.alloc (.cells #[Value.int .i64 (j : Int)] 3))
        clear hiT hiz0 hiz1 hiz2
        go_wp2_with (at_builtin; refine wpList_append_own_at _ rfl _ _ 30 rfl w.heap.size 3 iT _ 1 8 Try.underlying30 HIT.out HIZ0.out HIZ1.out HIZ2.out rfl (by decide) _ _ _ rfl HOA.out ⟨w2.heap.size, 0, none⟩ 1 1 [Value.int .i64 (j : Int)] rfl rfl C1.out HC2.out HC3.out HC4.out HC5.out ?_; intro v' w' hown5 hgrow5 _ hblk)
        have hb5 : Below w.heap.size w w' := Below.grown (hb3.alloc hb3.size (.cells #[Value.int .i64 (j : Int)] 3)) hgrow5 HC5.out (fun g' hg' => own_at_least HO2.out hg')
        have hr5 : Row w' w.heap.size 25 #[Value.int IntKind.i64 op, Value.int IntKind.i64 n, Value.slice A k.len c] := (hgrow5.block w.heap.size (HR2.out.alloc _).size (own_other_row HO2.out HR2.out (by decide))).trans (HR2.out.alloc _)
        have HO5 := Lib.hid hown5
        clear hown5 hgrow5 hblk
        go_wp2_with fail
        go_roundw
        case rel =>
          refine ⟨j + 1, hlt, by go_num, ?_, hr5, hb5⟩
          rw [HF.out, List.length_append, List.map_append]
          exact HO5.out
        case measure => simp [intOf]; omega
    · have e9 : j = 8 := by omega
      subst e9
      go_wp2
      go_ret
      exact ⟨_, rfl, hown, hb⟩
theorem implFree_any (op n : Int) (k : Fo) (A : Option Addr) (c L B : Nat) (w : World) (hlL : Lies w L B A 0 k) (hB : B ≤ w.heap.size) (hal : AllRows w L B) (hk1 : k.len ≤ c) (hk2 : c ≤ maxLen) (hsz : k.size ≤ 1048576) :
    Calls Try.prog 10 #[.agg #[.int .i64 op, .int .i64 n, .slice A k.len c]] w (ListPost (freeUpto op n k 8) w) :=
  implFree_r op n k A c L B w hlL hB (.of hlL hal) hk1 hk2 hsz
end Go.Proofs.Ytkdjjkkcejijnaa
