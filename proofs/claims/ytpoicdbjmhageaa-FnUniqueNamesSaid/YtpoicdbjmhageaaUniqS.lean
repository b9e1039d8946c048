/-
  spec.UniqueNames.
-/
import Derived.Test.YtpoicdbjmhageaaUniqL
import Derived.Test.YtpoicdbjmhageaaOpen
namespace Go.Proofs.Ytpoicdbjmhageaa
open Go.RowKit Go.Shelf
set_option maxRecDepth 100000

theorem madeN_run (w : World) : (Instr.makeSlice 27 (.int .i64 8) (.int .i64 8)).run Try.prog w = .ok (.slice (some ⟨w.heap.size, 0, Option.none⟩) 8 8) (w.alloc (.cells (cellsN fun _ => 0) 3)) := by kernel_rfl

set_option maxHeartbeats 2000000 in
theorem specUniq_any (op n : Int) (k : Fo) (A : Option Addr) (c : Nat) (w : World) (hl : Lies w 0 w.heap.size A 0 k) (hlen : k.len ≤ maxLen) :
    Calls Try.prog 15 #[.agg #[.int .i64 op, .int .i64 n, .slice A k.len c]] w (Gives (.bool (uniB op n k)) w) := by
  obtain ⟨hb0, hr0⟩ := one_box w 25 #[Value.int .i64 op, Value.int .i64 n, Value.slice A k.len c]
  have HC := Lib.hid (l1Any_any op n k A c _ (hl.up hb0) hlen)
  have HB0 := Lib.hid hb0
  have HR0 := Lib.hid hr0
  clear hb0 hr0
  cases hN : nodeIs op n k (firstS 8) with
  | false =>
    rw [hN] at HC
    have HU := Lib.hid (show uniB op n k = false by unfold uniB; rw [hN]; rfl)
    clear hN
    go_enter Try.func15, Try.ntmps15
    go_wp2_with fail
    refine HC.out.mono ?_
    rintro e w1 ⟨rfl, hb1⟩
    have HB1 := Lib.hid (HB0.out.trans (hb1.mono HB0.out.size))
    clear hb1
    go_wp2
    go_ret
    exact ⟨by rw [HU.out]; rfl, HB1.out⟩
  | true =>
    rw [hN] at HC
    have hsz := small_is hN
    have hbd := binds_is hN
    have HU := Lib.hid (show uniB op n k = uniUpto (fun v => cntN (v : Int) op n k) (fun v => letsN v op n k) 8 by unfold uniB; rw [hN]; rfl)
    clear hN
    go_enter Try.func15, Try.ntmps15
    go_wp2_with fail
    refine HC.out.mono ?_
    rintro e w1 ⟨rfl, hb1⟩
    have hb2 := HB0.out.trans (hb1.mono HB0.out.size)
    have hr1 := HR0.out.below hb1 HR0.out.size
    have q0 := hr1.cell (i := 0) rfl
    have q1 := hr1.cell (i := 1) rfl
    have q2 := hr1.cell (i := 2) rfl
    have p0 := (hr1.alloc (.cells (cellsN fun _ => 0) 3)).cell (i := 0) rfl
    have p1 := (hr1.alloc (.cells (cellsN fun _ => 0) 3)).cell (i := 1) rfl
    have p2 := (hr1.alloc (.cells (cellsN fun _ => 0) 3)).cell (i := 2) rfl
    have hb3 : Below w.heap.size w (w1.alloc (Obj.cells (cellsN fun _ => 0) 3)).drew := (hb2.alloc hb2.size _).drew
    have hr3 : Row (w1.alloc (Obj.cells (cellsN fun _ => 0) 3)).drew w.heap.size 25 #[Value.int .i64 op, Value.int .i64 n, Value.slice A k.len c] := (hr1.alloc _).drew
    have hrow3 : Row (w1.alloc (Obj.cells (cellsN fun _ => 0) 3)).drew w1.heap.size 3 (cellsN fun _ => 0) := (Row.fresh w1 3 (cellsN fun _ => 0)).drew
    have hC4 := l4Lets_any k.size w1.heap.size 0 w.heap.size op n k A c _ (fun _ => 0) rfl (hl.below hb3) hb3.size (.inr hb2.size) hrow3 hbd (fun i _ => by omega) (by omega)
    have hmk := madeN_run
    have HC4 := Lib.hid hC4
    have HB3 := Lib.hid hb3
    have HR3 := Lib.hid hr3
    have HZ := Lib.hid (And.intro hr1.size hb2.size)
    have HL := Lib.hid hl
    clear hb1 hb2 hr1 hb3 hr3 hrow3 hC4 HC HB0 HR0 hbd hl
    go_wp2_with fail
    go_region_with (first
      | (go_at_call 27
         refine HC4.out.mono ?_
         rintro e w5 ⟨rfl, hrow5, hon5⟩))
    all_goals
      have hb5 : Below w.heap.size w w5 := HB3.out.trans ((hon5.mono HB3.out.size).below HZ.out.2)
      have hr5 : Row w5 w.heap.size 25 #[Value.int .i64 op, Value.int .i64 n, Value.slice A k.len c] := HR3.out.only hon5 HR3.out.size (by have := HZ.out.1; omega)
      rw [cellsN_congr (T := fun i => letsN i op n k) (fun i _ => Nat.zero_add _)] at hrow5
      clear hon5 q0 q1 q2 p0 p1 p2 hmk HC4 HB3 HR3
      generalize w1.heap.size = g at *
      have hgz := HZ.out.1
      clear HZ
      go_wp2_with fail
      go_loopw [4] (fun i wr => ∃ (j : Nat), j ≤ 8 ∧ i = .int .i64 j ∧ uniUpto (fun v => cntN (v : Int) op n k) (fun v => letsN v op n k) j = true ∧ Row wr g 3 (cellsN fun i => letsN i op n k) ∧
          Row wr w.heap.size 25 #[Value.int .i64 op, Value.int .i64 n, Value.slice A k.len c] ∧ Below w.heap.size w wr)
        (fun i _ => 8 - (intOf i).toNat)
      case atStart => exact ⟨0, by omega, rfl, rfl, hrow5, hr5, hb5⟩
      case round =>
        clear hrow5 hr5 hb5
        obtain ⟨j, hj, rfl, hu, hrow, hr, hb⟩ := hrel
        by_cases hlt : j < 8
        · have q := hrow.cell (cellsN_at (fun i => letsN i op n k) hlt)
          have hle := letsN_le j op n k
          have HUP := Lib.hid hu
          have HBAD := Lib.hid (uniUpto_bad (C := fun v => cntN (v : Int) op n k) (D := fun v => letsN v op n k) hlt)
          have HROW := Lib.hid hrow
          have HR := Lib.hid hr
          have HB := Lib.hid hb
          obtain ⟨d, hd⟩ : ∃ d, d = letsN j op n k := ⟨_, rfl⟩
          have hgood : (d ≤ 1 ∧ (d = 0 ∨ cntN (j : Int) op n k = 0)) → uniUpto (fun v => cntN (v : Int) op n k) (fun v => letsN v op n k) (j + 1) = true := by
            intro h
            simp only [uniUpto, hu, Bool.true_and, decide_eq_true_iff]
            rw [← hd]
            exact h
          have HG := Lib.hid hgood
          have hbad : ¬ (d ≤ 1 ∧ (d = 0 ∨ cntN (j : Int) op n k = 0)) → uniUpto (fun v => cntN (v : Int) op n k) (fun v => letsN v op n k) 8 = false := by
            intro h
            refine HBAD.out ?_
            rw [← hd]
            exact h
          have HBD := Lib.hid hbad
          try dsimp only at q
          rw [← hd] at q hle
          have q0 := hr.cell (i := 0) rfl
          have q1 := hr.cell (i := 1) rfl
          have q2 := hr.cell (i := 2) rfl
          clear hgood hbad hu hrow hr hb HBAD hd
          rcases (show d = 0 ∨ d = 1 ∨ 2 ≤ d by omega) with rfl | rfl | h2
          · have HG2 := Lib.hid (HG.out ⟨by omega, .inl rfl⟩)
            clear HG HBD
            go_wp2_with fail
            go_roundw
            case rel => exact ⟨j + 1, hlt, by go_num, HG2.out, HROW.out, HR.out, HB.out⟩
            case measure => simp [intOf]; omega
          · go_wp2_with fail
            refine (specCount_any k.size (j : Int) op n k A c wr rfl (HL.out.up HB.out) (by omega)).mono ?_
            rintro e w2 ⟨rfl, hb2⟩
            have HB2 := Lib.hid (HB.out.trans (hb2.mono HB.out.size))
            have HR2 := Lib.hid (HR.out.below hb2 HR.out.size)
            have HROW2 := Lib.hid (HROW.out.below hb2 HROW.out.size)
            clear hb2 HB HR HROW q0 q1 q2 q
            by_cases hc : cntN (j : Int) op n k = 0
            · have HG2 := Lib.hid (HG.out ⟨by omega, .inr hc⟩)
              rw [hc]
              clear HG HBD hc
              go_wp2_with fail
              go_roundw
              case rel => exact ⟨j + 1, hlt, by go_num, HG2.out, HROW2.out, HR2.out, HB2.out⟩
              case measure => simp [intOf]; omega
            · have HG2 := Lib.hid (HU.out.trans (HBD.out (fun h => by rcases h.2 with h | h; exact absurd h (by decide); exact hc h)))
              have hpos : 0 < cntN (j : Int) op n k := Nat.pos_of_ne_zero hc
              generalize cntN (j : Int) op n k = cc at hpos ⊢
              clear HG HBD hc
              go_wp2_with fail
              go_ret
              exact ⟨by rw [HG2.out]; rfl, HB2.out⟩
          · have HG2 := Lib.hid (HU.out.trans (HBD.out (fun h => by omega)))
            clear HG HBD
            go_wp2_with fail
            go_ret
            exact ⟨by rw [HG2.out]; rfl, HB.out⟩
        · have e9 : j = 8 := by omega
          subst e9
          have HG2 := Lib.hid (HU.out.trans hu)
          clear hu
          go_wp2_with fail
          go_ret
          exact ⟨by rw [HG2.out]; rfl, hb⟩
end Go.Proofs.Ytpoicdbjmhageaa
