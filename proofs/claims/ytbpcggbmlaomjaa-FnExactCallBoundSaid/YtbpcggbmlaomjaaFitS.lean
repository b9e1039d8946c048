/-
  spec.l2Fit: all calls of an expression fit a list of functions.
-/
import Derived.Test.YtbpcggbmlaomjaaFit
import Derived.Test.YtbpcggbmlaomjaaRows
import Derived.WalkKit
import Derived.WalkSpells
import Derived.WalkSmall
import Derived.Lib.Hide
import Derived.BigQuiet
import Derived.Deep.QuietTactic
namespace Go.Proofs.Ytbpcggbmlaomjaa
open Go.RowKit
set_option maxRecDepth 100000

set_option maxHeartbeats 1000000 in
theorem l2Fit_any (m : Nat) (ds : List De) (DA : Option Addr) (DC : Nat) (hds : ds.length ≤ 1048576) : ∀ (op n : Int) (k : Fo) (A : Option Addr) (c : Nat) (w : World), k.size = m → LiesD w 0 w.heap.size DA ds → Lies w 0 w.heap.size A 0 k → k.size ≤ 1048576 →
    Calls Try.prog 62 #[.slice DA ds.length DC, .agg #[.int .i64 op, .int .i64 n, .slice A k.len c]] w (Gives (.bool (fitN (ariS ds) op n k)) w) := by
  induction m using Nat.strongRecOn with
  | _ m ih =>
    intro op n k A c w hm hd hl hsz
    have hlen := Fo.len_le_size k
    have hb0 : Below w.heap.size w (w.alloc (Obj.cells #[Value.int IntKind.i64 op, Value.int IntKind.i64 n, Value.slice A k.len c] 40)) := (Below.refl _ _).alloc (Nat.le_refl _) _
    have hr0 := Row.fresh w 40 #[Value.int IntKind.i64 op, Value.int IntKind.i64 n, Value.slice A k.len c]
    by_cases ho : op = 3
    · subst ho
      have hpl := place_any ds DA DC (w.alloc (Obj.cells #[Value.int IntKind.i64 3, Value.int IntKind.i64 n, Value.slice A k.len c] 40)) n (hd.up hb0) hds
      have hpf := plc_fnd n ds
      unfold plcI at hpl
      by_cases hp : plc n ds < ds.length
      · rw [if_pos hp] at hpl
        obtain ⟨d, e1, e2⟩ := hpf.1 hp
        have HPL := Lib.hid hpl
        clear hpl hpf
        go_enter Try.func62, Try.ntmps62
        go_wp2_with fail
        refine HPL.out.mono ?_
        rintro e w1 ⟨rfl, hb1'⟩
        have hb1 := hb0.trans (hb1'.mono hb0.size)
        have hr1 := hr0.below hb1' hr0.size
        obtain ⟨b, o, A', c', hA, _, hbb, hf, g1, g2, g3, g4, g5, g6, h7, h8, h9⟩ := hd.below hb1 _ d e1
        subst hA
        have q2 := hr1.cell (i := 2) rfl
        have t0 : decide (((plc n ds : Nat) : Int) < 0) = false := by simp
        generalize plc n ds = p at hp g2 t0 ⊢
        by_cases ha : d.ar = (k.len : Int)
        · have HFIN := Lib.hid (show fitN (ariS ds) 3 n k = fitF (ariS ds) k by simp [fitN, okCall, ariS, e2, ha])
          rw [ha] at g2
          have HQ1 := Lib.hid hr1
          have HQ2 := Lib.hid hb1
          clear hb0 hr0 hb1' hr1 hb1 HPL g1 g3 g4 g5 g6 h9 e1 e2 ha
          go_wp2
          go_quiet (fail)
          have HB1 := Lib.hid (below_drewN HQ2.out nq)
          have HR1 := Lib.hid (show Row (w1.drewN nq) w.heap.size 40 #[Value.int IntKind.i64 3, Value.int IntKind.i64 n, Value.slice A k.len c] from HQ1.out)
          clear HQ1 HQ2 q2 g2 t0
          generalize w1.drewN nq = w9 at *
          go_wp2_with fail
          go_loopw [6] (fun i wr => ∃ (j : Nat), j ≤ k.len ∧ i = .int .i64 j ∧ Hid (fitF (ariS ds) k = fitF (ariS ds) (k.drop j)) ∧ Row wr w.heap.size 40 #[Value.int IntKind.i64 3, Value.int IntKind.i64 n, Value.slice A k.len c] ∧ Below w.heap.size w wr)
            (fun i _ => k.len - (intOf i).toNat)
          case atStart => exact ⟨0, Nat.zero_le _, rfl, Lib.hid (by rw [Fo.drop_zero]), HR1.out, HB1.out⟩
          case round =>
            clear HR1 HB1
            obtain ⟨j, hj, rfl, HF, hrE, hb⟩ := hrel
            have q2 := hrE.cell (i := 2) rfl
            by_cases hlt : j < k.len
            · obtain ⟨op', n', k', e1, e2, e3⟩ := Fo.drop_of_lt k j hlt
              have hj' := (hl.below hb).at_ j
              rw [Nat.zero_add, e1] at hj'
              obtain ⟨⟨b, o, A', c', hA, _, hb2, i1, i2, g1, g2, g3, h1, h2, h3⟩, _⟩ := hj'
              subst hA
              have HE := Lib.hid (HF.out.trans (fitF_cons e1))
              have HC := Lib.hid (ih k'.size (by omega) op' n' k' A' c' wr rfl (hd.up hb) (h3.mono_ (Nat.le_refl _) hb.size) (by omega))
              have HRE := Lib.hid hrE
              have HB := Lib.hid hb
              clear hrE hb e1 h3 ih hl hd HF
              go_wp2_with fail
              refine HC.out.mono ?_
              rintro e w2 ⟨rfl, hb3⟩
              have HR2 := Lib.hid (HRE.out.below hb3 HRE.out.size)
              have HB2 := Lib.hid (HB.out.trans (hb3.mono HB.out.size))
              clear hb3 q2 g1 g2 g3 HC HRE HB
              cases hf : fitN (ariS ds) op' n' k' with
              | true =>
                rw [hf, Bool.true_and] at HE
                clear hf
                go_wp2
                go_roundw
                case rel => exact ⟨j + 1, hlt, by go_num, HE, HR2.out, HB2.out⟩
                case measure => simp [intOf]; omega
              | false =>
                rw [hf, Bool.false_and] at HE
                clear hf
                go_wp2
                go_ret
                exact ⟨ret_bool (by rw [HFIN.out, HE.out]), HB2.out⟩
            · have e9 : j = k.len := by omega
              have HZ := Lib.hid (show fitF (ariS ds) k = true by rw [HF.out, e9, Fo.drop_len]; rfl)
              clear HF
              go_wp2
              go_ret
              exact ⟨ret_bool (by rw [HFIN.out, HZ.out]), hb⟩
        · have HFIN := Lib.hid (show fitN (ariS ds) 3 n k = false by simp [fitN, okCall, ariS, e2, ha])
          have HQ2 := Lib.hid hb1
          have t1 : (d.ar == (k.len : Int)) = false := by simpa using ha
          have t2 : (d.ar != (k.len : Int)) = true := by simpa using ha
          clear hb0 hr0 hb1' hr1 hb1 HPL g1 g3 g4 g5 g6 h9 e1 e2
          go_wp2
          go_quiet (fail)
          have HB1 := Lib.hid (below_drewN HQ2.out nq)
          clear HQ2 q2 g2 t0
          go_wp2
          go_ret
          exact ⟨ret_bool (by rw [HFIN.out]), HB1.out⟩
      · rw [if_neg hp] at hpl
        have HFIN := Lib.hid (show fitN (ariS ds) 3 n k = false by simp [fitN, okCall, ariS, hpf.2 hp])
        have HPL := Lib.hid hpl
        clear hpl hpf
        go_enter Try.func62, Try.ntmps62
        go_wp2_with fail
        refine HPL.out.mono ?_
        rintro e w1 ⟨rfl, hb1'⟩
        have hb1 := hb0.trans (hb1'.mono hb0.size)
        have hr1 := hr0.below hb1' hr0.size
        have q2 := hr1.cell (i := 2) rfl
        have HQ2 := Lib.hid hb1
        clear hb0 hr0 hb1' hr1 hb1 HPL
        go_wp2
        go_quiet (fail)
        have HB1 := Lib.hid (below_drewN HQ2.out nq)
        clear HQ2 q2
        go_wp2
        go_ret
        exact ⟨ret_bool (by rw [HFIN.out]), HB1.out⟩
    · have HFIN := Lib.hid (show fitN (ariS ds) op n k = fitF (ariS ds) k by simp [fitN, okCall, ho])
      have h9 : (op == 3) = false := by simpa using ho
      have HR1 := Lib.hid hr0
      have HB1 := Lib.hid hb0
      clear hr0 hb0
      go_enter Try.func62, Try.ntmps62
      go_wp2_with fail
      go_loopw [6] (fun i wr => ∃ (j : Nat), j ≤ k.len ∧ i = .int .i64 j ∧ Hid (fitF (ariS ds) k = fitF (ariS ds) (k.drop j)) ∧ Row wr w.heap.size 40 #[Value.int IntKind.i64 op, Value.int IntKind.i64 n, Value.slice A k.len c] ∧ Below w.heap.size w wr)
        (fun i _ => k.len - (intOf i).toNat)
      case atStart => exact ⟨0, Nat.zero_le _, rfl, Lib.hid (by rw [Fo.drop_zero]), HR1.out, HB1.out⟩
      case round =>
        clear HR1 HB1
        obtain ⟨j, hj, rfl, HF, hrE, hb⟩ := hrel
        have q2 := hrE.cell (i := 2) rfl
        by_cases hlt : j < k.len
        · obtain ⟨op', n', k', e1, e2, e3⟩ := Fo.drop_of_lt k j hlt
          have hj' := (hl.below hb).at_ j
          rw [Nat.zero_add, e1] at hj'
          obtain ⟨⟨b, o, A', c', hA, _, hb2, i1, i2, g1, g2, g3, h1, h2, h3⟩, _⟩ := hj'
          subst hA
          have HE := Lib.hid (HF.out.trans (fitF_cons e1))
          have HC := Lib.hid (ih k'.size (by omega) op' n' k' A' c' wr rfl (hd.up hb) (h3.mono_ (Nat.le_refl _) hb.size) (by omega))
          have HRE := Lib.hid hrE
          have HB := Lib.hid hb
          clear hrE hb e1 h3 ih hl hd HF
          go_wp2_with fail
          refine HC.out.mono ?_
          rintro e w2 ⟨rfl, hb3⟩
          have HR2 := Lib.hid (HRE.out.below hb3 HRE.out.size)
          have HB2 := Lib.hid (HB.out.trans (hb3.mono HB.out.size))
          clear hb3 q2 g1 g2 g3 HC HRE HB
          cases hf : fitN (ariS ds) op' n' k' with
          | true =>
            rw [hf, Bool.true_and] at HE
            clear hf
            go_wp2
            go_roundw
            case rel => exact ⟨j + 1, hlt, by go_num, HE, HR2.out, HB2.out⟩
            case measure => simp [intOf]; omega
          | false =>
            rw [hf, Bool.false_and] at HE
            clear hf
            go_wp2
            go_ret
            exact ⟨ret_bool (by rw [HFIN.out, HE.out]), HB2.out⟩
        · have e9 : j = k.len := by omega
          have HZ := Lib.hid (show fitF (ariS ds) k = true by rw [HF.out, e9, Fo.drop_len]; rfl)
          clear HF
          go_wp2
          go_ret
          exact ⟨ret_bool (by rw [HFIN.out, HZ.out]), hb⟩
end Go.Proofs.Ytbpcggbmlaomjaa
