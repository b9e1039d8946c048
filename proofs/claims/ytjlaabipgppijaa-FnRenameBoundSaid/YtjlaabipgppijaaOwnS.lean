/-
  spec.l16OwnExpr: the model's copy.
-/
import Derived.Test.YtjlaabipgppijaaPutI
namespace Go.Proofs.Ytjlaabipgppijaa
open Go.RowKit Go.Shelf
set_option maxRecDepth 100000

def OwnPost (k : Fo) (w : World) (e : Ending) (w' : World) : Prop := ∃ A c bs, e = .returned (.slice A k.len c) ∧ Tree w' w.heap.size (.slice A k.len c) k bs ∧ Below w.heap.size w w'

set_option maxHeartbeats 1000000 in
theorem ownE (op n : Int) (k : Fo) (A : Option Addr) (c : Nat) (w : World) (hl : Lies w 0 w.heap.size A 0 k) (hL : ∀ w' : World, Lies w' 0 w'.heap.size A 0 k → Calls Try.prog 47 #[.slice A k.len c] w' (OwnPost k w')) :
    Calls Try.prog 28 #[.agg #[.int .i64 op, .int .i64 n, .slice A k.len c]] w (Makes op n k w) := by
  obtain ⟨hb, r1, r2⟩ := two_boxes w 25 25 #[Value.int IntKind.i64 op, Value.int IntKind.i64 n, Value.slice A k.len c] #[Value.int IntKind.i64 0, Value.int IntKind.i64 0, Value.slice none 0 0]
  have HC := Lib.hid (hL _ (hl.up hb))
  have HR1 := Lib.hid r1
  have HR2 := Lib.hid r2
  have HB := Lib.hid hb
  have hz : ((w.alloc (Obj.cells #[Value.int IntKind.i64 op, Value.int IntKind.i64 n, Value.slice A k.len c] 25)).alloc (Obj.cells #[Value.int IntKind.i64 0, Value.int IntKind.i64 0, Value.slice none 0 0] 25)).heap.size = w.heap.size + 1 + 1 := by simp
  have HZ := Lib.hid hz
  clear hL hl hb r1 r2 hz
  go_enter Try.func28, Try.ntmps28
  go_wp2_with fail
  refine HC.out.mono ?_
  rintro e w1 ⟨A1, c1, bs, rfl, ht, hb1⟩
  have HB1 := Lib.hid (HB.out.trans (hb1.mono HB.out.size))
  rw [HZ.out] at ht
  have hr1 := HR1.out.below hb1 HR1.out.size
  have hr2 := HR2.out.below hb1 HR2.out.size
  have q0 := hr1.cell (i := 0) rfl
  have q1 := hr1.cell (i := 1) rfl
  have f2 := hr1.free 2
  have d2 := hr1.cell (i := 2) rfl
  have f3 := hr2.free 0
  have f4 := hr2.free 1
  have f5 := hr2.free 2
  obtain ⟨w2, hw2⟩ : ∃ w2, w2 = w1.setCell ⟨w.heap.size, 2, none⟩ (.slice A1 k.len c1) := ⟨_, rfl⟩
  have hr1b := hr1.put 2 (.slice A1 k.len c1)
  have hr2b := hr2.apart (p := ⟨w.heap.size, 2, none⟩) (by dsimp only; omega) (.slice A1 k.len c1)
  have htb := ht.put (p := ⟨w.heap.size, 2, none⟩) (by dsimp only; omega) (.slice A1 k.len c1)
  have hbb := HB1.out.setCell (p := ⟨w.heap.size, 2, none⟩) (Nat.le_refl _) (.slice A1 k.len c1)
  rw [← hw2] at hr1b hr2b htb hbb
  have hr2c := ((hr2b.put 0 (.int .i64 op)).put 1 (.int .i64 n)).put 2 (.slice A1 k.len c1)
  have htc := ((htb.put (p := ⟨w.heap.size + 1, 0, none⟩) (by dsimp only; omega) (.int .i64 op)).put (p := ⟨w.heap.size + 1, 1, none⟩) (by dsimp only; omega) (.int .i64 n)).put (p := ⟨w.heap.size + 1, 2, none⟩) (by dsimp only; omega) (.slice A1 k.len c1)
  have hbc := ((hbb.setCell (p := ⟨w.heap.size + 1, 0, none⟩) (Nat.le_succ _) (.int .i64 op)).setCell (p := ⟨w.heap.size + 1, 1, none⟩) (Nat.le_succ _) (.int .i64 n)).setCell (p := ⟨w.heap.size + 1, 2, none⟩) (Nat.le_succ _) (.slice A1 k.len c1)
  have HTC := Lib.hid (htc.lower (base' := w.heap.size) (by omega))
  have HBC := Lib.hid hbc
  have HR1B := Lib.hid hr1b
  have HR2B := Lib.hid hr2b
  have r0 := hr2c.cell (i := 0) rfl
  have r1 := hr2c.cell (i := 1) rfl
  have r2 := hr2c.cell (i := 2) rfl
  clear hr1 hr2 hr1b hr2b htb hbb hr2c htc hbc ht hb1 HC
  go_upto_region 2 with fail
  rw [← hw2]
  clear hw2 q0 q1 d2 f2 f3 f4 f5
  have q0 := HR1B.out.cell (i := 0) rfl
  have q1 := HR1B.out.cell (i := 1) rfl
  have q2 := HR1B.out.cell (i := 2) rfl
  have f3 := HR2B.out.free 0
  have f4 := HR2B.out.free 1
  have f5 := HR2B.out.free 2
  have c3 := HR2B.out.cell (i := 0) rfl
  have c4 := HR2B.out.cell (i := 1) rfl
  have c5 := HR2B.out.cell (i := 2) rfl
  go_wp2_with fail
  refine bodyPost_ret (v := .agg #[.int .i64 op, .int .i64 n, .slice A1 k.len c1]) ?_ rfl ⟨A1, c1, bs, rfl, HTC.out, HBC.out⟩
  simp [results, Try.f28, go_sem, r0, r1, r2]

set_option maxHeartbeats 2000000 in
theorem ownL (m : Nat) : ∀ (k : Fo) (A : Option Addr) (c : Nat) (w : World), k.size = m → Lies w 0 w.heap.size A 0 k → k.size ≤ 1048576 → Calls Try.prog 47 #[.slice A k.len c] w (OwnPost k w) := by
  induction m using Nat.strongRecOn with
  | _ m ih =>
    intro k A c w hm hl hsz
    have hlen := Fo.len_le_size k
    have hr0 := Row.fresh w 25 #[]
    have hb0 : Below w.heap.size w (w.alloc (Obj.cells #[] 25)) := (Below.refl _ _).alloc (Nat.le_refl _) _
    have ht0 : Tree (w.alloc (Obj.cells #[] 25)) w.heap.size (.slice (some ⟨w.heap.size, 0, none⟩) 0 0) .nil [w.heap.size] :=
      ⟨[], [], ⟨rfl, .inr ⟨w.heap.size, 0, #[], rfl, Nat.le_refl _, hr0, Nat.le_refl _, by decide, rfl, rfl⟩⟩, ⟨rfl, rfl⟩, rfl, by simp⟩
    have HT0 := Lib.hid ht0
    have HB0 := Lib.hid hb0
    clear hr0 hb0 ht0
    go_enter Try.func47, Try.ntmps47
    go_wp2_with fail
    go_loopw [3, 9] (fun v i wr => ∃ (j : Nat) (pre : Fo) (A1 : Option Addr) (c1 : Nat) (bs : List Nat), j ≤ k.len ∧ i = .int .i64 (j : Int) ∧ v = .slice A1 pre.len c1 ∧ pre.len = j ∧ pre.app (k.drop j) = k ∧ Tree wr w.heap.size (.slice A1 pre.len c1) pre bs ∧ Below w.heap.size w wr)
      (fun _ i _ => k.len - (intOf i).toNat)
    case atStart => exact ⟨0, .nil, _, _, _, Nat.zero_le _, rfl, rfl, rfl, by rw [Fo.drop_zero]; rfl, HT0.out, HB0.out⟩
    case round =>
      clear HT0 HB0
      obtain ⟨j, pre, A1, c1', bs, hj, rfl, rfl, hpl, hpre, ht, hb⟩ := hrel
      by_cases hlt : j < k.len
      · obtain ⟨o1, m1, k1, e1, e2, e3⟩ := Fo.drop_of_lt k j hlt
        have hj' := (hl.below hb).at_ j
        rw [Nat.zero_add, e1] at hj'
        obtain ⟨⟨b, o, A', c', hA, _, hbb, i1, i2, g1, g2, g3, h1, h2, h3⟩, _⟩ := hj'
        subst hA
        obtain ⟨wa, hwa⟩ : ∃ wa, wa = wr.alloc (Obj.cells #[.int .i64 o1, .int .i64 m1, .slice A' k1.len c'] 25) := ⟨_, rfl⟩
        have hba : Below wr.heap.size wr wa := by rw [hwa]; exact (Below.refl _ _).alloc (Nat.le_refl _) _
        have hra : Row wa wr.heap.size 25 #[.int .i64 o1, .int .i64 m1, .slice A' k1.len c'] := by rw [hwa]; exact Row.fresh _ _ _
        have hla : Lies wa 0 wa.heap.size A' 0 k1 := (h3.below (hba.mono hb.size)).mono_ (Nat.le_refl _) (Nat.le_trans hb.size hba.size)
        have HC := Lib.hid (ownE o1 m1 k1 A' c' wa hla fun w' hw' => ih k1.size (by omega) k1 A' c' w' rfl hw' (by omega))
        have q0 := hra.cell (i := 0) rfl
        have q1 := hra.cell (i := 1) rfl
        have q2 := hra.cell (i := 2) rfl
        have HT := Lib.hid ht
        have HBA := Lib.hid hba
        have HB := Lib.hid hb
        have HPRE := Lib.hid hpre
        have HPL := Lib.hid hpl
        have HE := Lib.hid e1
        have HI := Lib.hid (And.intro i1 i2)
        have hpl2 : pre.len ≤ 1048576 := by omega
        clear hra ht hba hb hpre hla h3 hl ih i1 i2 e1 hpl
        go_upto_region 5 with fail
        rw [← hwa]
        clear hwa g1 g2 g3
        go_wp2_with fail
        refine HC.out.mono ?_
        rintro e w5 ⟨A5, c5, b5, rfl, ht5, hb5⟩
        have HT5 := Lib.hid (HT.out.over (HBA.out.trans (hb5.mono HBA.out.size)))
        have HK5 := Lib.hid (ht5.lower (base' := w.heap.size) (Nat.le_trans HB.out.size HBA.out.size))
        have HD5 := Lib.hid (show ∀ b, b ∈ bs → b ∈ b5 → False from fun q h1 h2 => by
          have e1 := (HT.out.lt q h1).2
          have e2 := (ht5.lt q h2).1
          have e3 := HBA.out.size
          omega)
        have HB5 := Lib.hid (HB.out.trans ((HBA.out.trans (hb5.mono HBA.out.size)).mono HB.out.size))
        clear ht5 hb5 q0 q1 q2 HC HT HBA HB
        go_wp2_with (at_builtin; refine wpList_push rfl _ _ rfl w.heap.size (.slice A1 pre.len c1') pre bs b5 o1 m1 k1 A5 c5 rfl rfl HT5.out HK5.out HI.out HD5.out hpl2 HB5.out.size ?_; intro v6 w6 bs6 ht6 hg6 hin6; obtain ⟨A6, c6, rfl, hc61, hc62⟩ := ht6.slice; have HT6 := Lib.hid ht6; have HG6 := Lib.hid hg6; clear ht6 hg6 hin6 hc61 hc62)
        go_roundw
        case rel =>
          refine ⟨j + 1, pre.snoc o1 m1 k1, A6, c6, bs6, hlt, by go_num, rfl, by rw [Fo.snoc_len, HPL.out], ?_, HT6.out, Below.grown HB5.out HG6.out HB5.out.size (fun g' hg' => ?_)⟩
          · have := HPRE.out
            rw [HE.out] at this
            rw [Fo.snoc_app]
            exact this
          · obtain ⟨st, b1, k1', k2', rfl, _⟩ := HT5.out
            exact (blk_lt k1' (by unfold blkV; rw [hg']; simp)).1
        case measure => simp [intOf]; omega
      · have e9 : j = k.len := by omega
        rw [e9, Fo.drop_len] at hpre
        have hpk : pre = k := (Fo.app_nil pre).symm.trans hpre
        subst hpk
        have HT := Lib.hid ht
        have HB := Lib.hid hb
        clear ht hb hpl hpre
        go_wp2_with fail
        go_ret
        exact ⟨_, _, _, rfl, HT.out, HB.out⟩

theorem ownExpr_any (op n : Int) (k : Fo) (A : Option Addr) (c : Nat) (w : World) (hl : Lies w 0 w.heap.size A 0 k) (hsz : k.size ≤ 1048576) :
    Calls Try.prog 28 #[.agg #[.int .i64 op, .int .i64 n, .slice A k.len c]] w (Makes op n k w) :=
  ownE op n k A c w hl fun w' hw' => ownL k.size k A c w' rfl hw' hsz
end Go.Proofs.Ytjlaabipgppijaa
