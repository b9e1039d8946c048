/-
  impl.nodesOf: the iterator over the nodes of an expression.
  impl.hideNone: nothing is hidden.
-/
import Derived.Test.YtpknegneogdmfaaGreatFo
import Derived.Test.YtpknegneogdmfaaGreatEndless
import Derived.Shelf.Abstract
import Derived.Shelf.RegionOpen
import Derived.OwnWalkIn
import Derived.TacticsInMore
import Derived.LoopNIn
import Derived.LoopIn
import Derived.Maps.OwnIn
import Derived.Test.YtpknegneogdmfaaGreatRows
import Derived.WalkKit
namespace Go.Proofs.YtpknegneogdmfaaGreat
open Go.RowKit Go.Shelf
set_option maxRecDepth 100000

attribute [local go_sem] Oper.semAt_some

/-- The stack of nodes under way; gk: how many nodes are to come. -/
structure Stk (h : Nd → Nat → Bool) (root : Nd) (w : World) (L B : Nat) (X : Nat → Prop) (W : World) (J : List Nx → World → Prop) (st ys : List Nx) (v : Value) (wr : World) : Prop where
  own : wr.ownsRow W.heap.size 36 3 v st.length (cells3 st)
  ord : ys.map Nx.nd ++ ordS h (st.map Nx.nd) = ordN h root
  ok : ∀ x ∈ st, x.ok w L B
  j : J ys wr
  kc : KC X W wr

set_option maxRecDepth 100000 in
set_option maxHeartbeats 4000000 in
theorem nodes1_in (n : Nat) (h : Nd → Nat → Bool) (op m : Int) (k : Fo) (A : Option Addr) (c L B B1 B2 hf : Nat) (hb : Array Value) (X : Nat → Prop) (w : World) (l : Nat) (J Jx : List Nx → World → Prop) (W : World)
    (hbW : Below w.heap.size w W) (hJ : Stays W.heap.size J)
    (hX : ∀ g, X g → g < w.heap.size) (_hX1 : ¬ X B1) (hX2 : ¬ X B2) (hXf : ∀ g, L ≤ g → g < B → ¬ X g)
    (c1 : Row W B1 36 #[Value.int .i64 op, Value.int .i64 m, Value.slice A k.len c]) (c2 : W.cell? ⟨B2, 0, none⟩ = some (.func (.func hf) #[] hb))
    (hl : Lies w L B A 0 k) (hB : B ≤ w.heap.size) (hal : RowsIf w B A k) (hk1 : k.len ≤ c) (hk2 : c ≤ maxLen) (hsz : k.size ≤ 1048576)
    (heg : ∀ args w, (callFunc hf args).run Tryz.prog w = .ok (.enter hf args) w)
    (hh : ∀ (x : Nx) (i : Nat) (V : World), KC X W V → Calls Tryz.prog hf (#[x.val, .int .i64 i] ++ hb) V (Gives (.bool (h x.nd i)) V))
    (hY : ∀ pre x V, J pre V → pre.length < (ordN h ⟨op, m, k⟩).length → (∃ rest, (pre ++ [x]).map Nx.nd ++ rest = ordN h ⟨op, m, k⟩) → x.ok w L B → YieldAt Fence.wide (n - 1) Tryz.prog l #[Nx.val x] V fun e V' => (e = .returned (.bool true) ∧ J (pre ++ [x]) V' ∧ KC X V V') ∨ (e = .returned (.bool false) ∧ Jx (pre ++ [x]) V'))
    (h0 : J [] W) :
    CallsIn Fence.wide n Tryz.prog 66 #[.func (.yield l) #[] #[], .pointer (some ⟨B1, 0, none⟩), .pointer (some ⟨B2, 0, none⟩)] W fun e W' => (∃ v, e = .returned v) ∧
      ((∃ ys : List Nx, ys.map Nx.nd = ordN h ⟨op, m, k⟩ ∧ J ys W') ∨ (∃ pre : List Nx, ((∃ rest, pre.map Nx.nd ++ rest = ordN h ⟨op, m, k⟩) ∧ ∀ x, pre.getLast? = some x → x.ok w L B) ∧ Jx pre W')) := by
  have q0 := c1.cell (i := 0) rfl
  have q1 := c1.cell (i := 1) rfl
  have q2 := c1.cell (i := 2) rfl
  refine callsIn_of_wp Tryz.func66 rfl trivial ?_ rfl
  simp only [Tryz.ntmps66, List.size_toArray, List.length_cons, List.length_nil, Nat.reduceAdd, Nat.reduceSub, Array.replicate_succ, Array.replicate_zero, List.push_toArray, List.append_toArray, List.nil_append, List.cons_append]
  gi_wp2_with fail
  refine ⟨trivial, fun hx => by simp [Fence.wide] at hx, ?_⟩
  refine (callsIn_wide.2 (endless_r op m k A c L B W (hl.below (hbW.mono hB)) (Nat.le_trans hB hbW.size) (hal.below hbW hB) hk1 hk2 hsz)).mono ?_
  rintro e w2 ⟨rfl, hb2⟩
  have c3 := c1.below hb2 c1.size
  have q0 := c3.cell (i := 0) rfl
  have q1 := c3.cell (i := 1) rfl
  have q2 := c3.cell (i := 2) rfl
  clear hal
  gi_wp2_with fail
  have hb3 : Below W.heap.size W (w2.alloc (Obj.cells #[Value.int .i64 op, Value.int .i64 m, Value.slice A k.len c] 36)) := hb2.alloc hb2.size _
  have hstk : Stk h ⟨op, m, k⟩ w L B X W J [⟨op, m, k, A, c⟩] [] (.slice (some ⟨w2.heap.size, 0, none⟩) 1 1) (w2.alloc (Obj.cells #[Value.int .i64 op, Value.int .i64 m, Value.slice A k.len c] 36)) :=
    ⟨⟨rfl, .inr ⟨w2.heap.size, 1, _, rfl, hb2.size, heap_alloc_new _ _, Nat.le_refl _, by decide, rfl, rfl⟩⟩, by simp [ordS, Nx.nd], fun x hx => by
      rw [List.mem_singleton.1 hx]
      exact ⟨hl, hk1, hk2⟩, hJ _ _ _ h0 hb3, .of_below hb3⟩
  clear q0 q1 q2 hb3
  generalize w2.alloc (Obj.cells #[Value.int .i64 op, Value.int .i64 m, Value.slice A k.len c] 36) = w3 at *
  clear hb2 c3 h0 c1
  obtain ⟨N, hN⟩ : ∃ N, N = (ordN h ⟨op, m, k⟩).length := ⟨_, rfl⟩
  have hNle : N ≤ 1048577 := by rw [hN]; have := ordN_len h ⟨op, m, k⟩; simp only at this; omega
  rw [← hN] at hY
  have HN := Lib.hid hN
  clear hN
  gi_loopw [4] (fun v wr => ∃ (gk : Nat) (st ys : List Nx), gk = (ordS h (st.map Nx.nd)).length ∧ Stk h ⟨op, m, k⟩ w L B X W J st ys v wr)
    (fun v wr => least fun gk => ∃ (st ys : List Nx), gk = (ordS h (st.map Nx.nd)).length ∧ Stk h ⟨op, m, k⟩ w L B X W J st ys v wr)
  case atStart => exact ⟨_, _, _, rfl, hstk⟩
  case round =>
    obtain ⟨⟨st, ys, hgk, hp⟩, hmin⟩ := least_spec hrel
    clear hrel hstk
    generalize hG : (least fun gk => ∃ (st ys : List Nx), gk = (ordS h (st.map Nx.nd)).length ∧ Stk h ⟨op, m, k⟩ w L B X W J st ys u4 wr) = G at *
    have HG := Lib.hid hG
    have HMIN := Lib.hid hmin
    clear hG hmin
    rcases List.eq_nil_or_concat st with rfl | ⟨st', x, hst⟩
    · have hord := hp.ord
      have hj := hp.j
      simp only [List.map_nil, ordS, List.append_nil] at hord
      rcases hp.own.2 with ⟨rfl, _⟩ | ⟨g, cap, cur, rfl, _⟩
      all_goals
        clear hp hgk
        gi_wp2
        go_end0
        exact ⟨⟨_, rfl⟩, .inl ⟨ys, hord, hj⟩⟩
    · rw [List.concat_eq_append] at hst
      subst hst
      rcases hp.own.2 with ⟨_, h0⟩ | ⟨g, cap, cur, hv, hgg, hgh, hgn, hgc, hgs, hgt⟩
      · simp at h0
      have hord := hp.ord
      have hoks := hp.ok
      have hj := hp.j
      have hkc := hp.kc
      have HOWN0 := Lib.hid hp.own
      clear hp
      rw [List.length_append] at hv hgn hgt
      simp only [List.length_singleton] at hv hgn hgt
      subst hv
      rw [List.map_append, List.map_singleton, ordS_last] at hord hgk
      have hx := hoks _ (List.mem_append_right _ (List.mem_singleton.2 rfl))
      have hoks' : ∀ p ∈ st', p.ok w L B := fun p hp => hoks p (List.mem_append_left _ hp)
      obtain ⟨hx1, hx2, hx3⟩ := hx
      have hcell : ∀ d < 3, wr.cell? ⟨g, st'.length * 3 + d, none⟩ = x.cells[d]? := by
        intro d hd
        refine (cell_of_row wr g (st'.length * 3 + d) cur _ _ hgh).trans ?_
        have h1 : (cur.toList.take ((st'.length + 1) * 3))[st'.length * 3 + d]? = (cells3 (st' ++ [x]))[st'.length * 3 + d]? := by rw [hgt]
        rw [List.getElem?_take_of_lt (by omega), Array.getElem?_toList, cells3_last _ _ _ hd] at h1
        exact h1
      obtain ⟨xop, xn, xk, xA, xc⟩ := x
      have g0 : wr.cell? ⟨g, st'.length * 3, none⟩ = some (.int .i64 xop) := by simpa [Nx.cells] using hcell 0 (by omega)
      have g1 : wr.cell? ⟨g, st'.length * 3 + 1, none⟩ = some (.int .i64 xn) := by simpa [Nx.cells] using hcell 1 (by omega)
      have g2 : wr.cell? ⟨g, st'.length * 3 + 2, none⟩ = some (.slice xA xk.len xc) := by simpa [Nx.cells] using hcell 2 (by omega)
      simp only [Nx.nd] at hord hgk hx1 hx2 hx3
      have hgz : g < wr.heap.size := (Array.getElem?_eq_some_iff.1 hgh).1
      have hsl : st'.length ≤ 1048577 := by
        have h1 := length_le_ordS h (st'.map Nx.nd)
        have h2 := congrArg List.length hord
        have h3 := HN.out
        simp at h1 h2
        omega
      have hyl : ys.length < N := by
        have h2 := congrArg List.length hord
        have h3 := HN.out
        simp at h2
        omega
      -- the node's own box is laid, then yield is called
      have hba : Below W.heap.size wr (wr.alloc (Obj.cells #[Value.int .i64 xop, Value.int .i64 xn, Value.slice xA xk.len xc] 36)) := (Below.refl _ _).alloc hkc.1 _
      obtain ⟨fn, tmps, assign, body, hy, hR⟩ := hY ys ⟨xop, xn, xk, xA, xc⟩ (wr.alloc (Obj.cells #[Value.int .i64 xop, Value.int .i64 xn, Value.slice xA xk.len xc] 36)) (hJ _ _ _ hj hba) hyl ⟨_, by rw [List.map_append, List.map_singleton, List.append_assoc]; exact hord⟩ ⟨hx1, hx2, hx3⟩
      have HOKX := Lib.hid (show Nx.ok w L B ⟨xop, xn, xk, xA, xc⟩ from ⟨hx1, hx2, hx3⟩)
      have HR := Lib.hid hR
      have HORD := Lib.hid hord
      have HGK := Lib.hid hgk
      have HOK := Lib.hid hoks'
      have HX1 := Lib.hid hx1
      have HH := Lib.hid hgh
      have HT := Lib.hid hgt
      have HS := Lib.hid hgs
      have HCAP := Lib.hid hgc
      have HKC := Lib.hid hkc
      have HJ0 := Lib.hid hj
      clear hR hord hgk hoks hoks' hx1 hgh hgt hgs hgc hkc hj hcell hl
      dsimp only [Nx.val] at hy
      gi_wp2_with fail
      refine ⟨fun hx => by simp [Fence.wide] at hx, HR.out.mono ?_⟩
      rintro e W3 (⟨rfl, hJ3, hk3⟩ | ⟨rfl, hJx3⟩)
      · have hXw : ∀ b, wr.heap.size ≤ b → ¬ X b := fun b hb hx => by
          have h1 := hX b hx
          have h2 := hbW.size
          have h3 := HKC.out.1
          omega
        have hkw : KC X W W3 := (HKC.out.alloc _).trans hk3
        have r5 : Row W3 wr.heap.size 36 #[Value.int .i64 xop, Value.int .i64 xn, Value.slice xA xk.len xc] := hk3.row (Row.fresh _ _ _) (hXw _ (Nat.le_refl _))
        have e2 : W3.cell? ⟨B2, 0, none⟩ = some (.func (.func hf) #[] hb) := hkw.cell hX2 c2
        have own3 : W3.ownsRow W.heap.size 36 3 (.slice (some ⟨g, 0, none⟩) st'.length cap) st'.length (cells3 st') := by
          refine ownsRow_kc (X := X) (w := wr) ⟨length_cells3 st', .inr ⟨g, cap, cur, rfl, hgg, HH.out, Nat.le_of_succ_le hgn, HCAP.out, HS.out, take_cells3 HT.out⟩⟩ ((KC.refl X wr).alloc _ |>.trans hk3) ?_
          intro b hx
          have h1 := hX b hx
          have h2 := hbW.size
          omega
        have x2 := r5.cell (i := 2) rfl
        have hb5 : W.heap.size ≤ wr.heap.size := HKC.out.1
        have HB5 := Lib.hid hgz
        have hxlen : xk.len ≤ maxLen := Nat.le_trans hx2 hx3
        unfold maxLen at hxlen
        have R5 := Lib.hid r5
        have E2 := Lib.hid e2
        have N3 := Lib.hid own3
        have KW := Lib.hid hkw
        have J3 := Lib.hid hJ3
        clear g0 g1 g2 r5 e2 own3 hkw hJ3 hk3 hy HR HOWN0 HH HT HS HCAP HKC HJ0 hba
        gi_wp2_with fail
        generalize hb5e : wr.heap.size = b5 at *
        have HB5E := Lib.hid hb5e
        clear hb5e
        gi_loopw [4, 33] (fun v i wi => ∃ (j : Nat) (ks : List Nx), j ≤ xk.len ∧ i = .int .i64 j ∧ Row wi b5 36 #[Value.int .i64 xop, Value.int .i64 xn, Value.slice xA xk.len xc] ∧
            wi.ownsRow W.heap.size 36 3 v ks.length (cells3 ks) ∧ v.ownBlock ≠ some b5 ∧ ordF h ⟨xop, xn, xk⟩ j (xk.drop j) ++ ordS h (ks.map Nx.nd) = ordF h ⟨xop, xn, xk⟩ 0 xk ++ ordS h (st'.map Nx.nd) ∧
            (∀ y ∈ ks, y.ok w L B) ∧ J (ys ++ [⟨xop, xn, xk, xA, xc⟩]) wi ∧ KC X W wi)
          (fun _ i _ => xk.len - (intOf i).toNat)
        case atStart => exact ⟨0, st', Nat.zero_le _, rfl, R5.out, N3.out, by simp [Value.ownBlock]; omega, by rw [Fo.drop_zero], HOK.out, J3.out, KW.out⟩
        case round =>
          obtain ⟨j, ks, hj, rfl, q5, hown, hne, hord, hok, hJ4, hkw⟩ := hrel
          clear R5 N3 KW J3 x2
          have HQ5 := Lib.hid q5
          have HOWN := Lib.hid hown
          have HNE := Lib.hid hne
          have HO := Lib.hid hord
          have HOK2 := Lib.hid hok
          have HJ4 := Lib.hid hJ4
          have HKW := Lib.hid hkw
          clear hown hne hord hok hJ4 hkw
          by_cases hlt : j < xk.len
          · obtain ⟨op3, n3, k3, e1, _, _⟩ := Fo.drop_of_lt xk j hlt
            have hj0 := HX1.out.at_ j
            rw [Nat.zero_add, e1] at hj0
            obtain ⟨⟨b, o, A3, cc3, hA, hLb, hbB, _, _, g1, g2, g3, h1, h2, h3⟩, _⟩ := hj0
            subst hA
            have hok3 : Nx.ok w L B ⟨op3, n3, k3, A3, cc3⟩ := ⟨h3, h1, h2⟩
            have up : ∀ {p : Addr} {v : Value}, p.block = b → w.cell? p = some v → wr.cell? p = some v := fun hp hc =>
              HKW.out.cell (by rw [hp]; exact hXf b hLb hbB) ((hbW.cell (by rw [hp]; omega)).trans hc)
            have g1' := up rfl g1
            have g2' := up rfl g2
            have g3' := up rfl g3
            have hba2 : Below wr.heap.size wr (wr.alloc (Obj.cells #[Value.int .i64 op3, Value.int .i64 n3, Value.slice A3 k3.len cc3] 36)) := (Below.refl _ _).alloc (Nat.le_refl _) _
            have e2 := (HKW.out.cell hX2 c2 : wr.cell? ⟨B2, 0, none⟩ = _)
            have e2a := (hba2.cell (p := ⟨B2, 0, none⟩) (World.block_lt_of_cell? _ _ e2)).trans e2
            have q5a := q5.alloc (Obj.cells #[Value.int .i64 op3, Value.int .i64 n3, Value.slice A3 k3.len cc3] 36)
            have x0 := q5a.cell (i := 0) rfl
            have x1 := q5a.cell (i := 1) rfl
            have x2 := q5a.cell (i := 2) rfl
            have y2 := q5.cell (i := 2) rfl
            have HBA2 := Lib.hid hba2
            have HHC := Lib.hid (hh ⟨xop, xn, xk, some ⟨b, o, none⟩, xc⟩ j (wr.alloc (Obj.cells #[Value.int .i64 op3, Value.int .i64 n3, Value.slice A3 k3.len cc3] 36)) (HKW.out.alloc _))
            clear hba2 e2 q5a q5
            have E1 := Lib.hid e1
            have HP := Lib.hid hok3
            clear g1 g2 g3 e1 up h3 h1 h2 hok3
            gi_wp2_with fail
            refine ⟨trivial, ?_⟩
            gi_wp2_with fail
            refine ⟨fun hx => by simp [Fence.wide] at hx, (callsIn_wide.2 HHC.out).mono ?_⟩
            rintro e W5 ⟨rfl, hb6⟩
            have hb7 : Below wr.heap.size wr W5 := HBA2.out.trans (hb6.mono (by simp))
            have HQ6 := Lib.hid (HQ5.out.below hb7 HQ5.out.size)
            have r6 : Row W5 wr.heap.size 36 #[Value.int .i64 op3, Value.int .i64 n3, Value.slice A3 k3.len cc3] := (Row.fresh _ _ _).below hb6 (by simp)
            have HOW6 := Lib.hid (ownsRow_kc (X := fun _ => False) HOWN.out (.of_below hb7) (fun _ hf => hf.elim))
            have HJ6 := Lib.hid (hJ _ _ _ HJ4.out (hb7.mono HKW.out.1))
            have HK6 := Lib.hid (HKW.out.trans (KC.of_below (X := X) hb7))
            have HN6 := Lib.hid (show wr.heap.size ≠ b5 from fun e => absurd HQ5.out.size (by omega))
            have HB7 := Lib.hid hb7.size
            have q5z := Lib.hid HQ5.out.size
            clear hb6 hb7 x0 x1 x2 y2 e2a g1' g2' g3' HBA2 HHC HQ5 HOWN HJ4
            cases hv : h (Nx.nd ⟨xop, xn, xk, some ⟨b, o, none⟩, xc⟩) j with
            | true =>
              have HH6 := Lib.hid (show h ⟨xop, xn, xk⟩ j = true from hv)
              clear hv r6
              gi_wp2_with fail
              go_roundw
              case rel => exact ⟨j + 1, ks, hlt, by go_num, HQ6.out, HOW6.out, HNE.out, (ordF_hide E1.out HH6.out).trans HO.out, HOK2.out, HJ6.out, HK6.out⟩
              case measure => simp [intOf]; omega
            | false =>
              have HH6 := Lib.hid (show h ⟨xop, xn, xk⟩ j = false from hv)
              clear hv
              have z0 := r6.cell (i := 0) rfl
              have z1 := r6.cell (i := 1) rfl
              have z2 := r6.cell (i := 2) rfl
              obtain ⟨iT, hiT, hiz0, hiz1, hiz2⟩ := info_parts (show (Tryz.prog.info? 36).map (fun i => (i.zero, i.size, i.bytes)) = some (some (.agg #[.int .i64 0, .int .i64 0, .slice Option.none 0 0]), 3, 40) by kernel_rfl)
              have HIT := Lib.hid hiT
              have HIZ0 := Lib.hid hiz0
              have HIZ1 := Lib.hid hiz1
              have HIZ2 := Lib.hid hiz2
              have hkl : ks.length ≤ 1048577 := by
                have h1 := length_le_ordS h (ks.map Nx.nd)
                have h2 := congrArg List.length HORD.out
                have h3 := congrArg List.length HO.out
                have h4 := HN.out
                simp at h1 h2 h3
                omega
              have hw5 : W.heap.size ≤ W5.heap.size := HK6.out.1
              have C1 := Lib.hid (fresh_cells W5 36 #[Value.int .i64 op3, Value.int .i64 n3, Value.slice A3 k3.len cc3])
              have C2 : ∀ u ∈ [Value.int .i64 op3, Value.int .i64 n3, Value.slice A3 k3.len cc3], u.oneCell' = true := by
                intro u hu
                simp at hu
                rcases hu with rfl | rfl | rfl <;> rfl
              have C3 : ks.length + 1 ≤ maxLen := by unfold maxLen; omega
              have C4 : (ks.length + 1) * 40 ≤ 140737488355328 := by omega
              have C5 : W.heap.size ≤ (W5.alloc (.cells #[Value.int .i64 op3, Value.int .i64 n3, Value.slice A3 k3.len cc3] 36)).heap.size := by rw [World.size_alloc]; omega
              have HOWA := Lib.hid (HOW6.out.alloc (.cells #[Value.int .i64 op3, Value.int .i64 n3, Value.slice A3 k3.len cc3] 36))
              have HC2 := Lib.hid C2
              have HC3 := Lib.hid C3
              have HC4 := Lib.hid C4
              have HC5 := Lib.hid C5
              clear C2 C3 C4 C5 hiT hiz0 hiz1 hiz2
              gi_wp2_with (gi_at_builtin; refine wpListIn_append_own_at _ rfl _ _ 24 rfl W.heap.size 36 iT _ 3 40 Tryz.underlying24 HIT.out HIZ0.out HIZ1.out HIZ2.out rfl (by decide) _ _ _ rfl HOWA.out ⟨W5.heap.size, 0, none⟩ 1 1 [Value.int .i64 op3, Value.int .i64 n3, Value.slice A3 k3.len cc3] rfl rfl C1.out HC2.out HC3.out HC4.out HC5.out ?_; intro v' w' hown5 hgrow5 _ hblk)
              have hb5 : Below W.heap.size W5 w' := by
                refine Below.grown ((Below.refl _ _).alloc hw5 (.cells #[Value.int .i64 op3, Value.int .i64 n3, Value.slice A3 k3.len cc3] 36)) hgrow5 HC5.out fun g' hg' => ?_
                exact own_at_least HOW6.out hg'
              have hr5 : Row w' b5 36 #[Value.int .i64 xop, Value.int .i64 xn, Value.slice (some ⟨b, o, none⟩) xk.len xc] := (hgrow5.block b5 (HQ6.out.alloc _).size (Ne.symm HNE.out)).trans (HQ6.out.alloc _)
              have hne' : v'.ownBlock ≠ some b5 := by
                rcases hblk with e | e
                · rw [e]; exact HNE.out
                · rw [e, World.size_alloc]
                  intro e2
                  have := HQ6.out.size
                  simp at e2
                  omega
              have H5 := Lib.hid hown5
              have HR5 := Lib.hid hr5
              have HNE5 := Lib.hid hne'
              have HKB5 := Lib.hid (HK6.out.then_below hb5)
              have HJ5 := Lib.hid (hJ _ _ _ HJ6.out hb5)
              have HO5 := Lib.hid ((ordF_show (s := ks.map Nx.nd) E1.out HH6.out).trans HO.out)
              clear hown5 hr5 hne' hb5 hblk hgrow5 z0 z1 z2 r6
              gi_wp2_with fail
              go_roundw
              case rel =>
                refine ⟨j + 1, ks ++ [⟨op3, n3, k3, A3, cc3⟩], hlt, by go_num, HR5.out, ?_, HNE5.out, ?_, ?_, HJ5.out, HKB5.out⟩
                · rw [List.length_append, cells3_append]
                  exact H5.out
                · rw [List.map_append, List.map_singleton]
                  exact HO5.out
                · intro y hy
                  rcases List.mem_append.1 hy with hy | hy
                  · exact HOK2.out y hy
                  · rw [List.mem_singleton.1 hy]
                    exact HP.out
              case measure => simp [intOf]; omega
          · have e9 : j = xk.len := by omega
            have hz := HO.out
            rw [e9, Fo.drop_len] at hz
            simp only [ordF, List.nil_append] at hz
            have HZ := Lib.hid hz
            have hst : Stk h ⟨op, m, k⟩ w L B X W J ks (ys ++ [⟨xop, xn, xk, xA, xc⟩]) u4 wr := by
              refine ⟨HOWN.out, ?_, HOK2.out, HJ4.out, HKW.out⟩
              rw [List.map_append, List.map_singleton, List.append_assoc, HZ.out]
              exact HORD.out
            have HST := Lib.hid hst
            clear hz HO hst HOWN HOK2 HJ4
            gi_wp2_with fail
            go_roundw
            case rel => exact ⟨_, ks, _, rfl, HST.out⟩
            case measure =>
              rw [HG.out]
              refine Nat.lt_of_le_of_lt ((least_spec ⟨_, ks, _, rfl, HST.out⟩).2 _ ⟨ks, _, rfl, HST.out⟩) ?_
              rw [HGK.out, HZ.out]
              exact Nat.lt_succ_self _
      · have hord := HORD.out
        clear g0 g1 g2 hy HR HOWN0 HH HT HS HCAP HKC HJ0 hba
        gi_wp2
        refine bodyPost_ret (results_none rfl _ _ _) rfl ?_
        exact ⟨⟨_, rfl⟩, .inr ⟨_, ⟨⟨_, by rw [List.map_append, List.append_assoc]; exact hord⟩, fun x hx => by rw [List.getLast?_concat] at hx; injection hx with hx; rw [← hx]; exact HOKX.out⟩, hJx3⟩⟩

/-- The contract of the closure that nodesOf hands back. -/
theorem nodes_seqR (n : Nat) (h : Nd → Nat → Bool) (op m : Int) (k : Fo) (A : Option Addr) (c L B B1 B2 hf : Nat) (hb : Array Value) (X : Nat → Prop) (w : World)
    (hX : ∀ g, X g → g < w.heap.size) (hX1 : ¬ X B1) (hX2 : ¬ X B2) (hXf : ∀ g, L ≤ g → g < B → ¬ X g)
    (c1 : Row w B1 36 #[Value.int .i64 op, Value.int .i64 m, Value.slice A k.len c]) (c2 : w.cell? ⟨B2, 0, none⟩ = some (.func (.func hf) #[] hb))
    (hl : Lies w L B A 0 k) (hB : B ≤ w.heap.size) (hal : RowsIf w B A k) (hk1 : k.len ≤ c) (hk2 : c ≤ maxLen) (hsz : k.size ≤ 1048576)
    (heg : ∀ args w, (callFunc hf args).run Tryz.prog w = .ok (.enter hf args) w)
    (hh : ∀ (x : Nx) (i : Nat) (V : World), KC X w V → Calls Tryz.prog hf (#[x.val, .int .i64 i] ++ hb) V (Gives (.bool (h x.nd i)) V)) :
    SeqB Fence.wide n Tryz.prog 66 #[.pointer (some ⟨B1, 0, none⟩), .pointer (some ⟨B2, 0, none⟩)] (fun x : Nx => #[x.val]) X (fun ys => ys.map Nx.nd = ordN h ⟨op, m, k⟩)
      (fun pre => ∃ rest, pre.map Nx.nd ++ rest = ordN h ⟨op, m, k⟩) (ordN h ⟨op, m, k⟩).length w := by
  intro l J Jx W hbW hJ _ hY h0
  refine (nodes1_in n h op m k A c L B B1 B2 hf hb X w l J Jx W hbW hJ hX hX1 hX2 hXf (c1.below hbW c1.size) ((hbW.cell (p := ⟨B2, 0, none⟩) (World.block_lt_of_cell? _ _ c2)).trans c2) hl hB hal hk1 hk2 hsz heg
    (fun x i V hV => hh x i V ((KC.of_below hbW).trans hV)) (fun pre x V a1 a2 a3 _ => hY pre x V a1 a2 a3) h0).mono fun e W' h9 => ⟨h9.1, h9.2.imp id fun ⟨pre, h1, h2⟩ => ⟨pre, h1.1, h2⟩⟩

/-- As nodes_seqR, and each node's own operands lie in memory. -/
theorem nodes_seqO (n : Nat) (h : Nd → Nat → Bool) (op m : Int) (k : Fo) (A : Option Addr) (c L B B1 B2 hf : Nat) (hb : Array Value) (X : Nat → Prop) (w : World)
    (hX : ∀ g, X g → g < w.heap.size) (hX1 : ¬ X B1) (hX2 : ¬ X B2) (hXf : ∀ g, L ≤ g → g < B → ¬ X g)
    (c1 : Row w B1 36 #[Value.int .i64 op, Value.int .i64 m, Value.slice A k.len c]) (c2 : w.cell? ⟨B2, 0, none⟩ = some (.func (.func hf) #[] hb))
    (hl : Lies w L B A 0 k) (hB : B ≤ w.heap.size) (hal : RowsIf w B A k) (hk1 : k.len ≤ c) (hk2 : c ≤ maxLen) (hsz : k.size ≤ 1048576)
    (heg : ∀ args w, (callFunc hf args).run Tryz.prog w = .ok (.enter hf args) w)
    (hh : ∀ (x : Nx) (i : Nat) (V : World), KC X w V → Calls Tryz.prog hf (#[x.val, .int .i64 i] ++ hb) V (Gives (.bool (h x.nd i)) V)) :
    SeqB Fence.wide n Tryz.prog 66 #[.pointer (some ⟨B1, 0, none⟩), .pointer (some ⟨B2, 0, none⟩)] (fun x : Nx => #[x.val]) X (fun ys => ys.map Nx.nd = ordN h ⟨op, m, k⟩)
      (fun pre => (∃ rest, pre.map Nx.nd ++ rest = ordN h ⟨op, m, k⟩) ∧ ∀ x, pre.getLast? = some x → x.ok w L B) (ordN h ⟨op, m, k⟩).length w := by
  intro l J Jx W hbW hJ _ hY h0
  exact nodes1_in n h op m k A c L B B1 B2 hf hb X w l J Jx W hbW hJ hX hX1 hX2 hXf (c1.below hbW c1.size) ((hbW.cell (p := ⟨B2, 0, none⟩) (World.block_lt_of_cell? _ _ c2)).trans c2) hl hB hal hk1 hk2 hsz heg
    (fun x i V hV => hh x i V ((KC.of_below hbW).trans hV)) (fun pre x V a1 a2 a3 a4 => hY pre x V a1 a2 ⟨a3, fun y hy => by rw [List.getLast?_concat] at hy; injection hy with hy; rw [← hy]; exact a4⟩) h0

theorem nodes_seq (n : Nat) (h : Nd → Nat → Bool) (op m : Int) (k : Fo) (A : Option Addr) (c L B B1 B2 hf : Nat) (hb : Array Value) (X : Nat → Prop) (w : World)
    (hX : ∀ g, X g → g < w.heap.size) (hX1 : ¬ X B1) (hX2 : ¬ X B2) (hXf : ∀ g, L ≤ g → g < B → ¬ X g)
    (c1 : Row w B1 36 #[Value.int .i64 op, Value.int .i64 m, Value.slice A k.len c]) (c2 : w.cell? ⟨B2, 0, none⟩ = some (.func (.func hf) #[] hb))
    (hl : Lies w L B A 0 k) (hB : B ≤ w.heap.size) (hal : AllRows w L B) (hk1 : k.len ≤ c) (hk2 : c ≤ maxLen) (hsz : k.size ≤ 1048576)
    (heg : ∀ args w, (callFunc hf args).run Tryz.prog w = .ok (.enter hf args) w)
    (hh : ∀ (x : Nx) (i : Nat) (V : World), KC X w V → Calls Tryz.prog hf (#[x.val, .int .i64 i] ++ hb) V (Gives (.bool (h x.nd i)) V)) :
    SeqB Fence.wide n Tryz.prog 66 #[.pointer (some ⟨B1, 0, none⟩), .pointer (some ⟨B2, 0, none⟩)] (fun x : Nx => #[x.val]) X (fun ys => ys.map Nx.nd = ordN h ⟨op, m, k⟩)
      (fun pre => ∃ rest, pre.map Nx.nd ++ rest = ordN h ⟨op, m, k⟩) (ordN h ⟨op, m, k⟩).length w :=
  nodes_seqR n h op m k A c L B B1 B2 hf hb X w hX hX1 hX2 hXf c1 c2 hl hB (.of hl hal) hk1 hk2 hsz heg hh

set_option maxHeartbeats 1000000 in
theorem nodesOf_any (op m : Int) (k : Fo) (A : Option Addr) (c hf : Nat) (hb : Array Value) (w : World) :
    Calls Tryz.prog 52 #[.agg #[.int .i64 op, .int .i64 m, .slice A k.len c], .func (.func hf) #[] hb] w fun e w' =>
      e = .returned (.func (.func 66) #[] #[.pointer (some ⟨w.heap.size, 0, none⟩), .pointer (some ⟨w.heap.size + 1, 0, none⟩)]) ∧
      w' = (w.alloc (.cells #[.int .i64 op, .int .i64 m, .slice A k.len c] 36)).alloc (.cells #[.func (.func hf) #[] hb] 90) := by
  go_enter Tryz.func52, Tryz.ntmps52
  go_wp2
  go_ret
  exact ⟨rfl, rfl⟩
end Go.Proofs.YtpknegneogdmfaaGreat

namespace Go.Proofs.YtpknegneogdmfaaGreat
open Go.RowKit
set_option maxRecDepth 100000

theorem hideNone_any (op m : Int) (v : Value) (i : Int) (w : World) : Calls Tryz.prog 53 #[.agg #[.int .i64 op, .int .i64 m, v], .int .i64 i] w (Gives (.bool false) w) := by
  go_enter Tryz.func53, Tryz.ntmps53
  go_wp2
  go_ret
  exact ⟨rfl, (Below.refl _ _).alloc (Nat.le_refl _) _⟩
end Go.Proofs.YtpknegneogdmfaaGreat
