/-
  impl.takesAtom, impl.IsSteps.
-/
import Derived.Test.YtfkmlcpbijhahaaStpD
import Derived.Test.YtfkmlcpbijhahaaOpen
import Derived.Test.YtfkmlcpbijhahaaNodesI
namespace Go.Proofs.Ytfkmlcpbijhahaa
open Go.RowKit Go.Shelf
set_option maxRecDepth 100000

attribute [local go_sem] Oper.semAt_some

theorem kidsT_at {op : Int} : ∀ {f : Fo} (j : Nat) {i : Nat} {o n : Int} {k : Fo}, f.drop j = .cons o n k (f.drop (j + 1)) → kidsT op (i + j) (f.drop j) = ((!takesB op (i + j) || atomB o k) && kidsT op (i + (j + 1)) (f.drop (j + 1))) := fun j i o n k e => by rw [kidsT_cons e, Nat.add_assoc]

set_option maxHeartbeats 1000000 in
theorem takes_any (op n : Int) (k : Fo) (A : Option Addr) (c i : Nat) (w : World) :
    Calls Try.prog 16 #[.agg #[.int .i64 op, .int .i64 n, .slice A k.len c], .int .i64 i] w (Gives (.bool (takesB op i)) w) := by
  obtain ⟨hb0, hr0⟩ := one_box w 29 #[.int .i64 op, .int .i64 n, .slice A k.len c]
  have q0 := hr0.cell (i := 0) rfl
  have HB := Lib.hid hb0
  clear hb0 hr0
  by_cases h7 : op = 7
  · subst h7
    go_enter Try.func16, Try.ntmps16
    go_wp2
    go_ret
    exact ⟨rfl, HB.out⟩
  · have h7' : (op == 7) = false := by simpa using h7
    by_cases h8 : op = 8
    · subst h8
      go_enter Try.func16, Try.ntmps16
      go_wp2
      go_ret
      exact ⟨rfl, HB.out⟩
    · have h8' : (op == 8) = false := by simpa using h8
      by_cases h6 : op = 6
      · subst h6
        by_cases hi : i = 0
        · subst hi
          go_enter Try.func16, Try.ntmps16
          go_wp2
          go_ret
          exact ⟨rfl, HB.out⟩
        · have hi' : ((i : Int) == 0) = false := by simp; omega
          have HF := Lib.hid (show takesB 6 i = false by unfold takesB; rw [decide_eq_false hi]; rfl)
          clear hi
          go_enter Try.func16, Try.ntmps16
          go_wp2
          go_ret
          exact ⟨ret_bool (by rw [HF.out]), HB.out⟩
      · have h6' : (op == 6) = false := by simpa using h6
        have HF := Lib.hid (show takesB op i = true by unfold takesB; rw [decide_eq_false h7, decide_eq_false h8, decide_eq_false h6]; rfl)
        clear h6 h7 h8
        go_enter Try.func16, Try.ntmps16
        go_wp2
        go_ret
        exact ⟨ret_bool (by rw [HF.out]), HB.out⟩

def okL (l : List Nd) : Bool := l.all okS
theorem okL_snoc (l : List Nd) (x : Nd) : okL (l ++ [x]) = (okL l && kidsT x.op 0 x.k) := by simp [okL, okS]
theorem okL_prefix {l r : List Nd} (h : okL l = false) : okL (l ++ r) = false := by
  unfold okL at h ⊢
  rw [List.all_append, h, Bool.false_and]

set_option maxRecDepth 100000 in
set_option maxHeartbeats 4000000 in
theorem implSteps_r (op m : Int) (k : Fo) (A : Option Addr) (c L B : Nat) (w : World) (hl : Lies w L B A 0 k) (hB : B ≤ w.heap.size) (hal : RowsIf w B A k) (hk1 : k.len ≤ c) (hk2 : c ≤ maxLen) (hsz : k.size ≤ 1048576) :
    Calls Try.prog 7 #[.agg #[.int .i64 op, .int .i64 m, .slice A k.len c]] w (Gives (.bool (stepsB op m k)) w) := by
  have hb0 : Below w.heap.size w ((w.alloc (Obj.cells #[Value.int .i64 op, Value.int .i64 m, Value.slice A k.len c] 29)).alloc (Obj.cells #[Value.bool false] 4)) := ((Below.refl _ _).alloc (Nat.le_refl _) _).alloc (by simp) _
  have re0 := (Row.fresh w 29 #[Value.int .i64 op, Value.int .i64 m, Value.slice A k.len c]).alloc (Obj.cells #[Value.bool false] 4)
  have rr0 : Row ((w.alloc (Obj.cells #[Value.int .i64 op, Value.int .i64 m, Value.slice A k.len c] 29)).alloc (Obj.cells #[Value.bool false] 4)) (w.heap.size + 1) 4 #[Value.bool false] := by
    have := Row.fresh (w.alloc (Obj.cells #[Value.int .i64 op, Value.int .i64 m, Value.slice A k.len c] 29)) 4 #[Value.bool false]
    rw [World.size_alloc] at this
    exact this
  have hlen : k.len ≤ maxLen := Nat.le_trans hk1 hk2
  have HC := Lib.hid (validOpen_any op m k A c _ ((hl.below (hb0.mono hB)).mono_ (Nat.zero_le _) (Nat.le_trans hB hb0.size)) hlen)
  have HB0 := Lib.hid hb0
  have HE0 := Lib.hid re0
  have HR0 := Lib.hid rr0
  clear hb0 re0 rr0
  refine (callsIn_wide (n := 9)).1 ?_
  refine callsIn_of_wp_marks Try.func7 rfl trivial ?_ rfl
  simp only [Try.ntmps7, List.size_toArray, List.length_cons, List.length_nil, Nat.reduceAdd, Nat.reduceSub, Array.replicate_succ, Array.replicate_zero, List.push_toArray, List.append_toArray, List.nil_append, List.cons_append]
  cases hN : nodeIs op m k (firstS 8) with
  | false =>
    rw [hN] at HC
    have HU := Lib.hid (show stepsB op m k = false by unfold stepsB; rw [hN]; rfl)
    clear hN
    gi_wp2_with fail
    refine ⟨trivial, (callsIn_wide.2 HC.out).mono ?_⟩
    rintro e w1 ⟨rfl, hb1⟩
    have HB1 := Lib.hid (HB0.out.trans (hb1.mono HB0.out.size))
    have hr1 := HR0.out.below hb1 HR0.out.size
    have v0 := hr1.cell (i := 0) rfl
    have f0 := hr1.free 0
    clear hb1
    gi_wp2
    have hc5 := World.cell?_setCell_same' w1 ⟨w.heap.size + 1, 0, none⟩ (.bool false) (by rw [v0]; rfl)
    refine ⟨.bool false, ?_, by rw [HU.out], HB1.out.setCell (p := ⟨w.heap.size + 1, 0, none⟩) (by simp) _⟩
    simp [results, Try.f7, go_sem, hc5]
  | true =>
    rw [hN] at HC
    have HU := Lib.hid (show stepsB op m k = okL (ordN (fun _ _ => false) ⟨op, m, k⟩) by unfold stepsB okL; rw [hN, allst_ordN]; rfl)
    clear hN
    gi_wp2_with fail
    refine ⟨trivial, (callsIn_wide.2 HC.out).mono ?_⟩
    rintro e w1 ⟨rfl, hb1⟩
    have HB1 := Lib.hid (HB0.out.trans (hb1.mono HB0.out.size))
    have HR1 := Lib.hid (HR0.out.below hb1 HR0.out.size)
    have HE1 := Lib.hid (HE0.out.below hb1 HE0.out.size)
    clear hb1 HB0 HE0 HR0 HC
    have q0 := HE1.out.cell (i := 0) rfl
    have q1 := HE1.out.cell (i := 1) rfl
    have q2 := HE1.out.cell (i := 2) rfl
    gi_wp2_with fail
    refine ⟨trivial, (callsIn_wide.2 (nodesOf_any op m k A c 15 #[] _)).mono ?_⟩
    rintro e w2 ⟨rfl, rfl⟩
    clear q0 q1 q2
    gi_wp2_with fail
    obtain ⟨W0, hW0⟩ : ∃ W0, W0 = ((w1.alloc (Obj.cells #[Value.int .i64 op, Value.int .i64 m, Value.slice A k.len c] 29)).alloc (Obj.cells #[Value.func (.func 15) #[] #[]] 38)) := ⟨_, rfl⟩
    rw [← hW0]
    have hw1 : w.heap.size + 1 < w1.heap.size := HR1.out.size
    have hz0 : W0.heap.size = w1.heap.size + 1 + 1 := by rw [hW0]; simp
    have hb1 : Below w1.heap.size w1 W0 := by
      rw [hW0]
      exact ((Below.refl _ _).alloc (Nat.le_refl _) _).alloc (by simp) _
    have hbw : Below w.heap.size w W0 := HB1.out.trans (hb1.mono HB1.out.size)
    have r1 : Row W0 w1.heap.size 29 #[Value.int .i64 op, Value.int .i64 m, Value.slice A k.len c] := by
      rw [hW0]
      exact (Row.fresh w1 29 #[Value.int .i64 op, Value.int .i64 m, Value.slice A k.len c]).alloc _
    have r2 : Row W0 (w1.heap.size + 1) 38 #[Value.func (.func 15) #[] #[]] := by
      rw [hW0]
      have := Row.fresh (w1.alloc (Obj.cells #[Value.int .i64 op, Value.int .i64 m, Value.slice A k.len c] 29)) 38 #[Value.func (.func 15) #[] #[]]
      simp only [World.size_alloc] at this
      exact this
    have rr := HR1.out.below hb1 HR1.out.size
    clear hW0 hb1
    have HBW := Lib.hid hbw
    refine range_ownP (X := fun g => g = w.heap.size + 1) rfl (by omega) (gf := 23) (lb := #[.pointer (some ⟨w1.heap.size, 0, none⟩), .pointer (some ⟨w1.heap.size + 1, 0, none⟩)]) rfl trivial (enters_of Try.func23 (by kernel_rfl) rfl)
      (nodes_seqO 8 (fun _ _ => false) op m k A c L B w1.heap.size (w1.heap.size + 1) 15 #[] (fun g => g = w.heap.size + 1) W0 (fun g hg => by omega) (by omega) (by omega) (fun g _ h2 => by omega) r1 (r2.cell (i := 0) rfl)
        (hl.below (hbw.mono hB)) (Nat.le_trans hB hbw.size) (hal.below hbw hB) hk1 hk2 hsz (enters_of Try.func15 (by kernel_rfl) rfl) (fun x i V _ => hideNone_any x.op x.n _ i V))
      (Below.refl _ _) (fun _ => rfl)
      (fun pre W => (Row W (w.heap.size + 1) 4 #[Value.bool false] ∧ okL (pre.map Nx.nd) = true) ∧ Below w.heap.size W0 W)
      (fun c' pre W => (c' = .ret ∧ okL (pre.map Nx.nd) = false ∧ Row W (w.heap.size + 1) 4 #[Value.bool false]) ∧ Below w.heap.size W0 W)
      (fun s V V' ⟨⟨x1, x5⟩, x2⟩ hb => ⟨⟨x1.below hb (by omega), x5⟩, x2.trans (hb.mono (by omega))⟩)
      (fun _ s V V' ⟨⟨x1, x3, x4⟩, x2⟩ hb => ⟨⟨x1, x3, x4.below hb (by omega)⟩, x2.trans (hb.mono (by omega))⟩) ⟨⟨rr, rfl⟩, Below.refl _ _⟩
      (fun y a' V => ∃ Bx, W0.heap.size ≤ Bx ∧ Row V Bx 29 #[Value.int .i64 y.op, Value.int .i64 y.n, Value.slice y.A y.k.len y.c] ∧ a' = { tmps := #[.agg #[.int .i64 op, .int .i64 m, .slice A k.len c], .pointer (some ⟨w.heap.size, 0, none⟩), .pointer (some ⟨w.heap.size + 1, 0, none⟩), .pointer (some ⟨Bx, 0, none⟩), undef, undef, .agg #[.int .i64 op, .int .i64 m, .slice A k.len c], .bool true, .bool false, .agg #[.int .i64 op, .int .i64 m, .slice A k.len c], .func (.func 23) #[] #[.pointer (some ⟨w1.heap.size, 0, none⟩), .pointer (some ⟨w1.heap.size + 1, 0, none⟩)], y.val, undef, undef, undef, undef, undef, undef, undef, undef, undef, undef, undef, undef, undef, undef, undef, undef, undef], defers := [] })
      (fun y a' V V' ⟨Bx, h1, h2, h3⟩ hk => ⟨Bx, h1, hk.row h2 (by omega), h3⟩) ?assign ?body ?done ?stop
    case assign =>
      intro l pre y W K hsW hi hK
      unfold Nx.val
      gi_wp2
      exact hK _ _ ((Below.refl _ _).alloc (Nat.le_refl _) _) ⟨W.heap.size, by omega, Row.fresh _ _ _, rfl⟩
    case body =>
      rintro l pre y a' W _ ⟨⟨hr, hu⟩, hb⟩ ⟨Bx, hBx, hrx, rfl⟩ hlen2 hsp
      have hmap : okL ((pre ++ [y]).map Nx.nd) = kidsT y.op 0 y.k := by
        rw [List.map_append, List.map_singleton, okL_snoc, hu, Bool.true_and]
        rfl
      obtain ⟨hy1, hy2, hy3⟩ := hsp.2 y List.getLast?_concat
      have HLX := Lib.hid (hy1.below (hb.mono hB))
      have HMAP := Lib.hid hmap
      have HR := Lib.hid hr
      have HRX := Lib.hid hrx
      have HBB := Lib.hid hb
      have hBz : B ≤ W.heap.size := Nat.le_trans hB (Nat.le_trans HBW.out.size hb.size)
      have hrz : w.heap.size + 1 < W.heap.size := hr.size
      have hW0W : W0.heap.size ≤ W.heap.size := hb.size
      clear hz0
      have y2 := hrx.cell (i := 2) rfl
      clear hmap hu hsp hy1 hr hb hrx
      obtain ⟨yo, yn, yk, yA, yc⟩ := y
      dsimp only at HLX HMAP HRX y2 hy2 hy3
      have hyl : yk.len ≤ 9223372036854775807 := by unfold maxLen at hy3; omega
      gi_wp2_with fail
      clear y2
      gi_loopw [15] (fun i wr => ∃ (j : Nat), j ≤ yk.len ∧ i = .int .i64 (j : Int) ∧ Hid (kidsT yo 0 yk = kidsT yo j (yk.drop j)) ∧ Below W.heap.size W wr)
        (fun i _ => yk.len - (intOf i).toNat)
      case atStart => exact ⟨0, Nat.zero_le _, rfl, Lib.hid (by rw [Fo.drop_zero]), Below.refl _ _⟩
      case round =>
        obtain ⟨j, hj, rfl, HF, hb2⟩ := hrel
        have HR2 := Lib.hid (HR.out.below hb2 HR.out.size)
        have hrx2 := HRX.out.below hb2 HRX.out.size
        have HB2 := Lib.hid hb2
        by_cases hlt : j < yk.len
        · have hji : (j : Int) < (yk.len : Int) := by omega
          obtain ⟨o1, n1, k1, e1, s1, _⟩ := Fo.drop_of_lt yk j hlt
          have j1 := (HLX.out.below (hb2.mono hBz)).at_ j
          rw [Nat.zero_add, e1] at j1
          obtain ⟨⟨b, o, A1, c1, hA, _, hbb, _, _, g1, g2, g3, _, _, x1⟩, _⟩ := j1
          subst hA
          have a1 := kidsT_at (op := yo) (f := yk) j (i := 0) e1
          rw [Nat.zero_add, Nat.zero_add] at a1
          have HE := Lib.hid (HF.out.trans a1)
          have hbA := hb2.alloc hb2.size (Obj.cells #[Value.int .i64 o1, Value.int .i64 n1, Value.slice A1 k1.len c1] 29)
          have hrA := HR2.out.alloc (Obj.cells #[Value.int .i64 o1, Value.int .i64 n1, Value.slice A1 k1.len c1] 29)
          have hrxA := hrx2.alloc (Obj.cells #[Value.int .i64 o1, Value.int .i64 n1, Value.slice A1 k1.len c1] 29)
          have hkA := Row.fresh wr 29 #[Value.int .i64 o1, Value.int .i64 n1, Value.slice A1 k1.len c1]
          have q0 := hrxA.cell (i := 0) rfl
          have q1 := hrxA.cell (i := 1) rfl
          have q2 := hrxA.cell (i := 2) rfl
          have HBA := Lib.hid hbA
          have HRA := Lib.hid hrA
          have HKA := Lib.hid hkA
          have HT := Lib.hid (takes_any yo yn yk (some ⟨b, o, none⟩) yc j (wr.alloc (Obj.cells #[Value.int .i64 o1, Value.int .i64 n1, Value.slice A1 k1.len c1] 29)))
          clear e1 a1 x1 hb2 hrx2 hbA hrA hrxA hkA HF HB2 HR2 s1 hbb
          cases ht : takesB yo j with
          | false =>
            rw [ht] at HT HE
            simp only [Bool.not_false, Bool.true_or, Bool.true_and] at HE
            clear ht
            gi_wp2_with fail
            refine ⟨trivial, (CallsIn.inRound l (callsIn_wide.2 HT.out)).mono ?_⟩
            rintro e w3 ⟨rfl, hb3⟩
            have HB3 := Lib.hid (HBA.out.trans (hb3.mono HBA.out.size))
            clear hb3 q0 q1 q2 g1 g2 g3 HT
            gi_wp2_with fail
            refine ⟨trivial, ?_⟩
            gi_wp2_with fail
            go_roundw
            case rel => exact ⟨j + 1, hlt, by go_num, HE, HB3.out⟩
            case measure => simp [intOf]; omega
          | true =>
            rw [ht] at HT HE
            simp only [Bool.not_true, Bool.false_or] at HE
            clear ht
            gi_wp2_with fail
            refine ⟨trivial, (CallsIn.inRound l (callsIn_wide.2 HT.out)).mono ?_⟩
            rintro e w3 ⟨rfl, hb3⟩
            have HB3 := Lib.hid (HBA.out.trans (hb3.mono HBA.out.size))
            have HR3 := Lib.hid (HRA.out.below hb3 HRA.out.size)
            have hk3 := HKA.out.below hb3 HKA.out.size
            have HAT := Lib.hid (implAtom_any o1 n1 k1 A1 c1 w3)
            clear hb3 q0 q1 q2 g1 g2 g3 HT HBA HRA HKA
            have q0 := hk3.cell (i := 0) rfl
            have q1 := hk3.cell (i := 1) rfl
            have q2 := hk3.cell (i := 2) rfl
            clear hk3
            cases hf : atomB o1 k1 with
            | true =>
              rw [hf] at HAT HE
              rw [Bool.true_and] at HE
              clear hf
              gi_wp2_with fail
              refine ⟨trivial, (CallsIn.inRound l (callsIn_wide.2 HAT.out)).mono ?_⟩
              rintro e w4 ⟨rfl, hb4⟩
              have HB4 := Lib.hid (HB3.out.trans (hb4.mono HB3.out.size))
              clear hb4 q0 q1 q2 HAT HB3
              gi_wp2_with fail
              go_roundw
              case rel => exact ⟨j + 1, hlt, by go_num, HE, HB4.out⟩
              case measure => simp [intOf]; omega
            | false =>
              rw [hf] at HAT HE
              rw [Bool.false_and] at HE
              clear hf
              gi_wp2_with fail
              refine ⟨trivial, (CallsIn.inRound l (callsIn_wide.2 HAT.out)).mono ?_⟩
              rintro e w4 ⟨rfl, hb4⟩
              have HB4 := Lib.hid (HB3.out.trans (hb4.mono HB3.out.size))
              have HR4 := Lib.hid (HR3.out.below hb4 HR3.out.size)
              clear hb4 q0 q1 q2 HAT HB3 HR3
              have v0 := HR4.out.cell (i := 0) rfl
              have f0 := HR4.out.free 0
              have HF4 := Lib.hid (KeepsFrom.of_below (B := W0.heap.size) HB4.out (Nat.le_refl _))
              gi_wp2_with fail
              exact ⟨HF4.out.trans ((KeepsOthers.setCell _ _ _).from _), ⟨rfl, by rw [HMAP.out, HE.out], HR4.out.put 0 (.bool false)⟩, (HBB.out.trans (HB4.out.mono (by omega))).setCell (by simp) _⟩
        · have hje : j = yk.len := by omega
          have hji : ¬ (j : Int) < (yk.len : Int) := by omega
          have HZ := Lib.hid (show kidsT yo 0 yk = true by rw [HF.out, hje, Fo.drop_len]; rfl)
          clear HF hb2 hje hrx2
          have HF4 := Lib.hid (KeepsFrom.of_below (B := W0.heap.size) HB2.out (Nat.le_refl _))
          have HK4 := Lib.hid (KC.of_below (X := fun g => g = w.heap.size + 1) HB2.out)
          gi_wp2_with fail
          exact ⟨HF4.out, HK4.out, ⟨HR2.out, by rw [HMAP.out, HZ.out]⟩, HBB.out.trans (HB2.out.mono (by omega))⟩
    case done =>
      rintro D ys W hD hS ⟨⟨hrr, hu⟩, hb⟩ hK
      have HF := Lib.hid (show stepsB op m k = true by rw [HU.out, ← hS]; exact hu)
      have v0 := hrr.cell (i := 0) rfl
      have f0 := hrr.free 0
      have hb := HBW.out.trans (hb.mono (Nat.le_refl _))
      clear hu hS
      gi_wp2
      have hK' := (KeepsOthers.setCell W ⟨w.heap.size + 1, 0, none⟩ (.bool true)).same D _ hK rfl
      refine ⟨by simp, .inl ⟨_, _, rfl, run_takeDeferred hK', ?_⟩⟩
      have hc5 := cell_kept (World.cell?_setCell_same' W ⟨w.heap.size + 1, 0, none⟩ (.bool true) (by rw [v0]; rfl)) (grownBy_putObj' _ D (.deferred none)) (fun r e => by cases e; exact ⟨_, hK', rfl⟩)
      refine ⟨.bool true, ?_, by rw [HF.out], (hb.setCell (p := ⟨w.heap.size + 1, 0, none⟩) (by simp) _).trans (below_put _ hK' (by omega))⟩
      simp [results, Try.f7, go_sem, hc5]
    case stop =>
      rintro D c' pre W hD hpre ⟨⟨rfl, hu, hrr⟩, hb⟩ hK
      obtain ⟨⟨rest, hrest⟩, _⟩ := hpre
      have HF := Lib.hid (show stepsB op m k = false by rw [HU.out, ← hrest]; exact okL_prefix hu)
      have hb := HBW.out.trans hb
      gi_wp2
      refine ⟨by simp, .inl ⟨_, _, rfl, run_takeDeferred hK, ?_⟩⟩
      have hc5 := cell_kept (hrr.cell (i := 0) rfl) (grownBy_putObj' _ D (.deferred none)) (fun r e => by cases e; exact ⟨_, hK, rfl⟩)
      refine ⟨.bool false, ?_, by rw [HF.out], hb.trans (below_put _ hK (by omega))⟩
      simp [results, Try.f7, go_sem, hc5]
theorem implSteps_any (op m : Int) (k : Fo) (A : Option Addr) (c L B : Nat) (w : World) (hl : Lies w L B A 0 k) (hB : B ≤ w.heap.size) (hal : AllRows w L B) (hk1 : k.len ≤ c) (hk2 : c ≤ maxLen) (hsz : k.size ≤ 1048576) :
    Calls Try.prog 7 #[.agg #[.int .i64 op, .int .i64 m, .slice A k.len c]] w (Gives (.bool (stepsB op m k)) w) :=
  implSteps_r op m k A c L B w hl hB (.of hl hal) hk1 hk2 hsz
end Go.Proofs.Ytfkmlcpbijhahaa
