/-
  spec.l9Replace (made by gen_replS.py).
-/
import Derived.Test.YtdpiklnadhpjjaaReplI
import Derived.Test.YtdpiklnadhpjjaaCopyS
import Derived.Deep.RegionHeld3
namespace Go.Proofs.Ytdpiklnadhpjjaa
open Go.RowKit Go.Shelf
set_option maxRecDepth 100000

theorem setN_at (y y' : Int) (k' : Fo) : ∀ (i : Nat) (f : Fo), i < f.len → (setN i f y y' k').drop i = .cons y y' k' ((setN i f y y' k').drop (i + 1))
  | _, .nil, h => by simp [Fo.len] at h
  | 0, .cons _ _ _ r, _ => by simp only [setN, Fo.drop_zero, Fo.drop]
  | i + 1, .cons _ _ _ r, h => by
    have := setN_at y y' k' i r (by simpa [Fo.len] using h)
    simpa only [setN, Fo.drop] using this
theorem setN_ne (y y' : Int) (k' : Fo) : ∀ (i : Nat) (f : Fo) (j : Nat) {o m : Int} {k : Fo}, j ≠ i → f.drop j = .cons o m k (f.drop (j + 1)) → (setN i f y y' k').drop j = .cons o m k ((setN i f y y' k').drop (j + 1))
  | _, .nil, j, _, _, _, _, h => by rw [Fo.drop_nil] at h; cases h
  | 0, .cons _ _ _ _, 0, _, _, _, h, _ => absurd rfl h
  | 0, .cons _ _ _ _, j + 1, _, _, _, _, e => by simpa only [setN, Fo.drop] using e
  | i + 1, .cons a b c r, 0, _, _, _, _, e => by
    simp only [Fo.drop_zero, Fo.drop] at e
    injection e with e1 e2 e3
    subst e1 e2 e3
    simp only [setN, Fo.drop_zero, Fo.drop]
  | i + 1, .cons _ _ _ r, j + 1, _, _, _, h, e => by
    have := setN_ne y y' k' i r j (by omega) (by simpa only [Fo.drop] using e)
    simpa only [setN, Fo.drop] using this

set_option maxHeartbeats 4000000 in
theorem l9Repl_any (op' n' : Int) (k' : Fo) (A' : Option Addr) (c' : Nat) (hi' : I64 op' ∧ I64 n') (hsz' : k'.size ≤ 1048576) : ∀ (zs : List Int) (op n : Int) (k : Fo) (A : Option Addr) (c : Nat) (A2 : Option Addr) (c2 : Nat) (w : World), Lies w 0 w.heap.size A 0 k → k.size ≤ 1048576 → I64 op ∧ I64 n → Lies w 0 w.heap.size A' 0 k' → LiesI w 0 w.heap.size A2 zs → zs.length ≤ c2 → c2 ≤ maxLen → zs.length ≤ 1048576 → (partN ⟨op, n, k⟩ zs).isSome = true →
    Calls Try.prog 38 #[.agg #[.int .i64 op, .int .i64 n, .slice A k.len c], .slice A2 zs.length c2, .agg #[.int .i64 op', .int .i64 n', .slice A' k'.len c']] w (Makes (replN ⟨op, n, k⟩ zs ⟨op', n', k'⟩).op (replN ⟨op, n, k⟩ zs ⟨op', n', k'⟩).n (replN ⟨op, n, k⟩ zs ⟨op', n', k'⟩).k w) := by
  intro zs
  induction zs with
  | nil =>
    intro op n k A c A2 c2 w hl hsz hi hl' hz hzc hc2 hzl hp
    show Calls Try.prog 38 #[.agg #[.int .i64 op, .int .i64 n, .slice A k.len c], .slice A2 0 c2, .agg #[.int .i64 op', .int .i64 n', .slice A' k'.len c']] w (Makes op' n' k' w)
    obtain ⟨hb, r1, r2, r3⟩ := three_boxes w 25 #[Value.int IntKind.i64 op, Value.int IntKind.i64 n, Value.slice A k.len c] #[Value.int IntKind.i64 op', Value.int IntKind.i64 n', Value.slice A' k'.len c'] #[Value.int IntKind.i64 0, Value.int IntKind.i64 0, Value.slice none 0 0]
    obtain ⟨W, hW⟩ : ∃ W, W = ((w.alloc (Obj.cells #[Value.int IntKind.i64 op, Value.int IntKind.i64 n, Value.slice A k.len c] 25)).alloc (Obj.cells #[Value.int IntKind.i64 op', Value.int IntKind.i64 n', Value.slice A' k'.len c'] 25)).alloc (Obj.cells #[Value.int IntKind.i64 0, Value.int IntKind.i64 0, Value.slice none 0 0] 25) := ⟨_, rfl⟩
    rw [← hW] at hb r1 r2 r3
    have HB := Lib.hid hb
    have HRZ := Lib.hid r3
    have HC := Lib.hid (l1Copy_any k'.size op' n' k' A' c' W rfl (hl'.up hb) hsz' hi')
    have q0 := r2.cell (i := 0) rfl
    have q1 := r2.cell (i := 1) rfl
    have q2 := r2.cell (i := 2) rfl
    clear hb r1 r2 r3 hl hl' hz
    go_enter Try.func38, Try.ntmps38
    go_upto_region 1 with fail
    rw [← hW]
    clear hW
    go_wp2_with fail
    refine HC.out.mono ?_
    rintro e w3 ⟨A5, c5, b5, rfl, ht5, hb3⟩
    have hb11 := HB.out.trans (hb3.mono HB.out.size)
    have hres := HRZ.out.below hb3 HRZ.out.size
    have hnb : w.heap.size + 2 ∉ b5 := fun hz => by have h1 := (ht5.lt _ hz).1; have h3 := HRZ.out.size; omega
    obtain ⟨⟨d0, d1, d2⟩, ⟨f0, f1, f2⟩, ⟨r0, r1, r2⟩, hbz, htz⟩ := box3 hres hb11 (show w.heap.size ≤ w.heap.size + 2 by omega) op' n' A5 k'.len c5 (ht5.lower (base' := w.heap.size) HB.out.size) hnb
    have HBZ := Lib.hid hbz
    have HTZ := Lib.hid htz
    clear hb11 hres hnb hbz htz ht5 hb3 q0 q1 q2 HC
    go_wp2_with fail
    refine bodyPost_ret (v := .agg #[.int .i64 op', .int .i64 n', .slice A5 k'.len c5]) ?_ rfl ⟨A5, c5, b5, rfl, HTZ.out, HBZ.out⟩
    simp [results, Try.f38, go_sem, r0, r1, r2]
  | cons z0 zr ih =>
    intro op n k A c A2 c2 w hl hsz hi hl' hz hzc hc2 hzl hp
    have h0 : 0 ≤ z0 := by
      by_cases h : 0 ≤ z0
      · exact h
      · rw [partN_neg (by omega)] at hp; cases hp
    obtain ⟨i, rfl⟩ : ∃ i : Nat, z0 = (i : Int) := ⟨z0.toNat, by omega⟩
    have hik : i < k.len := by
      by_cases h : i < k.len
      · exact h
      · rw [partN_out (by simpa using Nat.le_of_not_lt h)] at hp; cases hp
    obtain ⟨o0, m0, k0, e0, _, _⟩ := Fo.drop_of_lt k i hik
    have e0' : k.drop (i : Int).toNat = .cons o0 m0 k0 (k.drop (i + 1)) := e0
    rw [partN_in h0 e0'] at hp
    rw [replN_in h0 e0']
    obtain ⟨q, hq⟩ : ∃ q, q = replN ⟨o0, m0, k0⟩ zr ⟨op', n', k'⟩ := ⟨_, rfl⟩
    rw [← hq]
    have HQ0 := Lib.hid hq
    clear hq
    obtain ⟨F, hF⟩ : ∃ F, F = setN i k q.op q.n q.k := ⟨_, rfl⟩
    show Calls Try.prog 38 _ w (Makes op n (setN i k q.op q.n q.k) w)
    rw [← hF]
    have hFl : F.len = k.len := by rw [hF]; exact setN_len _ _ _ _ _
    have HFA := Lib.hid (show F.drop i = .cons q.op q.n q.k (F.drop (i + 1)) by rw [hF]; exact setN_at _ _ _ i k hik)
    have HFN := Lib.hid (show ∀ j o m k1, j ≠ i → k.drop j = .cons o m k1 (k.drop (j + 1)) → F.drop j = .cons o m k1 (F.drop (j + 1)) from fun j o m k1 hj e => by rw [hF]; exact setN_ne _ _ _ i k j hj e)
    obtain ⟨xb, xo, hA2, _, _, _, _⟩ := hz 0 (i : Int) rfl
    subst hA2
    obtain ⟨ln, hln⟩ : ∃ ln, ln = ((i : Int) :: zr).length := ⟨_, rfl⟩
    rw [← hln] at hzc hzl ⊢
    have hlr : ln = zr.length + 1 := hln
    have HLR := Lib.hid hlr
    have hl1 : 1 ≤ ln := by omega
    have b1 : ((ln : Int) == 0) = false := beq_eq_false_iff_ne.2 (by omega)
    obtain ⟨hb, r1, r2, r3⟩ := three_boxes w 25 #[Value.int IntKind.i64 op, Value.int IntKind.i64 n, Value.slice A k.len c] #[Value.int IntKind.i64 op', Value.int IntKind.i64 n', Value.slice A' k'.len c'] #[Value.int IntKind.i64 0, Value.int IntKind.i64 0, Value.slice none 0 0]
    obtain ⟨W, hW⟩ : ∃ W, W = ((w.alloc (Obj.cells #[Value.int IntKind.i64 op, Value.int IntKind.i64 n, Value.slice A k.len c] 25)).alloc (Obj.cells #[Value.int IntKind.i64 op', Value.int IntKind.i64 n', Value.slice A' k'.len c'] 25)).alloc (Obj.cells #[Value.int IntKind.i64 0, Value.int IntKind.i64 0, Value.slice none 0 0] 25) := ⟨_, rfl⟩
    rw [← hW] at hb r1 r2 r3
    obtain ⟨V, hV⟩ : ∃ V, V = W.alloc (Obj.cells #[Value.int IntKind.i64 op, Value.int IntKind.i64 n, Value.slice none 0 0] 25) := ⟨_, rfl⟩
    have hbV : Below W.heap.size W V := by rw [hV]; exact (Below.refl _ _).alloc (Nat.le_refl _) _
    have hWs : W.heap.size = w.heap.size + 3 := by rw [hW]; simp
    have HRO := Lib.hid (show Row V (w.heap.size + 3) 25 #[Value.int IntKind.i64 op, Value.int IntKind.i64 n, Value.slice none 0 0] by rw [hV, ← hWs]; exact Row.fresh _ _ _)
    have HRE := Lib.hid (r1.below hbV r1.size)
    have HRX := Lib.hid (r2.below hbV r2.size)
    have HRZ := Lib.hid (r3.below hbV r3.size)
    have hbV' := hb.trans (hbV.mono hb.size)
    have HB := Lib.hid hbV'
    have HL := Lib.hid (hl.below (Below.refl _ w))
    have HL' := Lib.hid hl'
    have HLZ := Lib.hid hz
    have q0 := r1.cell (i := 0) rfl
    have q1 := r1.cell (i := 1) rfl
    have q2 := r1.cell (i := 2) rfl
    clear hb r1 r2 r3 hl hl' hz hbV hbV' hF hln hlr
    go_enter Try.func38, Try.ntmps38
    go_upto_region 1 with fail
    rw [← hW]
    go_upto_region 4 with fail
    rw [hW] at hV
    rw [← hV]
    clear hW hV q0 q1 q2 hWs
    go_wp2_with fail
    go_loopw [8] (fun v wr => Round F (fun f => f) op n (w.heap.size + 4) (w.heap.size + 3) w v wr ∧ Row wr (w.heap.size + 2) 25 #[.int .i64 0, .int .i64 0, .slice none 0 0] ∧ Row wr (w.heap.size + 1) 25 #[.int .i64 op', .int .i64 n', .slice A' k'.len c'] ∧ Row wr w.heap.size 25 #[.int .i64 op, .int .i64 n, .slice A k.len c])
      (fun v _ => k.len - (intOf v).toNat)
    case atStart => exact ⟨⟨0, .nil, none, 0, [], Nat.zero_le _, rfl, rfl, by rw [Fo.drop_zero]; rfl, HRO.out, Tree.none _ _, HB.out⟩, HRZ.out, HRX.out, HRE.out⟩
    case round =>
      clear HRO HRE HRX HRZ HB
      obtain ⟨⟨j, pre, A1, c1', bs, hj, rfl, hpl, hpre, hrow, ht, hb⟩, hres, hrx, hre⟩ := hrel
      rw [hFl] at hj
      have hwz := hrow.size
      by_cases hlt : j < k.len
      · obtain ⟨o1, m1, k1, e1, e2, e3⟩ := Fo.drop_of_lt k j hlt
        have hj' := (HL.out.below hb).at_ j
        rw [Nat.zero_add, e1] at hj'
        obtain ⟨⟨b, o, Ak, ck, hA, _, hbb, i1, i2, g1, g2, g3, h1, h2, h3⟩, _⟩ := hj'
        subst hA
        have hbb2 : b < wr.heap.size := Nat.lt_of_lt_of_le hbb hb.size
        have hla : Lies wr 0 wr.heap.size Ak 0 k1 := h3.mono_ (Nat.le_refl _) hb.size
        have hlen := Fo.len_le_size k
        have q2 : wr.cell? ⟨w.heap.size, 2, none⟩ = some (.slice (some ⟨b, o, none⟩) k.len c) := hre.cell (i := 2) rfl
        have HC := Lib.hid (l1Copy_any k1.size o1 m1 k1 Ak ck wr rfl hla (by omega) ⟨i1, i2⟩)
        have HT := Lib.hid ht
        have HB := Lib.hid hb
        have HROW := Lib.hid hrow
        have HRES := Lib.hid hres
        have HRX := Lib.hid hrx
        have HRE := Lib.hid hre
        have HPRE := Lib.hid hpre
        have HPL := Lib.hid hpl
        have HWR := Lib.hid (show w.heap.size + 3 + 1 ≤ wr.heap.size from hwz)
        have hbox : ∀ g, (Value.slice A1 pre.len c1').ownBlock = some g → w.heap.size + 4 ≤ g ∧ g < wr.heap.size := fun g hg => by
          obtain ⟨st, b1, k1', k2', rfl, _⟩ := ht
          exact blk_lt k1' (by unfold blkV; rw [hg]; simp)
        have HBOX := Lib.hid hbox
        have HE := Lib.hid e1
        have HI := Lib.hid (And.intro i1 i2)
        have HK := Lib.hid (And.intro g1 (And.intro g2 g3))
        have HH3 := Lib.hid h3
        have hpl2 : pre.len ≤ 1048576 := by omega
        clear hrow ht hb hres hrx hre hpre hla h3 i1 i2 e1 hpl hbox
        go_wp2_with fail
        refine HC.out.mono ?_
        rintro e w5 ⟨A5, c5, b5, rfl, ht5, hb5⟩
        clear q2 g1 g2 g3 HC
        obtain ⟨W5, hW5⟩ : ∃ V, V = w5.alloc (Obj.cells #[Value.int .i64 o1, Value.int .i64 m1, Value.slice A5 k1.len c5] 25) := ⟨_, rfl⟩
        have bW5 : Below w5.heap.size w5 W5 := by rw [hW5]; exact (Below.refl _ _).alloc (Nat.le_refl _) _
        have HKR := Lib.hid (show Row W5 w5.heap.size 25 #[.int .i64 o1, .int .i64 m1, .slice A5 k1.len c5] by rw [hW5]; exact Row.fresh _ _ _)
        have hbr := hb5.trans (bW5.mono hb5.size)
        have HBR := Lib.hid hbr
        have HT5 := Lib.hid (HT.out.over hbr)
        have HK5 := Lib.hid ((ht5.over bW5).lower (base' := w.heap.size + 4) HWR.out)
        have HD5 := Lib.hid (show ∀ b, b ∈ bs → b ∈ b5 → False from fun q h1 h2 => by
          have e1 := (HT.out.lt q h1).2
          have e2 := (ht5.lt q h2).1
          omega)
        have HZ5 := Lib.hid (Nat.le_trans HWR.out hbr.size)
        have HG5 := Lib.hid hb5.size
        have HROW5 := Lib.hid (HROW.out.below hbr HROW.out.size)
        have HRES5 := Lib.hid (HRES.out.below hbr HRES.out.size)
        have HRX5 := Lib.hid (HRX.out.below hbr HRX.out.size)
        have HRE5 := Lib.hid (HRE.out.below hbr HRE.out.size)
        have HB5 := Lib.hid (HB.out.trans (hbr.mono HB.out.size))
        clear ht5 hb5 bW5 hbr HROW HRES HRX HRE
        go_upto_region 8 with fail
        rw [← hW5]
        clear hW5
        obtain ⟨_, _, hA2, _, hxb, _, hpc⟩ := HLZ.out 0 (i : Int) rfl
        injection hA2 with hA2
        injection hA2 with hx1 hx2
        subst hx1
        subst hx2
        have pz : W5.cell? ⟨xb, xo, none⟩ = some (.int .i64 (i : Int)) := (HB5.out.cell (p := ⟨xb, xo, none⟩) hxb).trans hpc
        clear hpc
        by_cases hji : j = i
        rotate_left
        · have b2 : ((j : Int) == (i : Int)) = false := beq_eq_false_iff_ne.2 (by omega)
          have HFE := Lib.hid (HFN.out j o1 m1 k1 hji HE.out)
          have k0 := HKR.out.cell (i := 0) rfl
          have k1' := HKR.out.cell (i := 1) rfl
          have k2 := HKR.out.cell (i := 2) rfl
          have u2 : W5.cell? ⟨w.heap.size + 3, 2, none⟩ = some (.slice A1 pre.len c1') := HROW5.out.cell (i := 2) rfl
          clear hji
          go_wp2_with (at_builtin; refine wpList_push rfl _ _ rfl (w.heap.size + 4) (.slice A1 pre.len c1') pre bs b5 o1 m1 k1 A5 c5 rfl rfl HT5.out HK5.out HI.out HD5.out hpl2 HZ5.out ?_; intro v6 w6 bs6 ht6 hg6 hin6; obtain ⟨A6, c6, rfl, hc61, hc62⟩ := ht6.slice; have hne : ∀ g, (g < w.heap.size + 4 ∨ wr.heap.size ≤ g) → some g ≠ (Value.slice A1 pre.len c1').ownBlock := fun g hg e => by { have := HBOX.out g e.symm; omega }; have hr6 := row_grown HROW5.out hg6 (hne _ (.inl (by omega))); have hre6 := row_grown HRE5.out hg6 (hne _ (.inl (by omega))); have hrx6 := row_grown HRX5.out hg6 (hne _ (.inl (by omega))); have hrs6 := row_grown HRES5.out hg6 (hne _ (.inl (by omega))); have u3 : w6.cell? ⟨w.heap.size + 3, 2, none⟩ = some (.slice A1 pre.len c1') := hr6.cell (i := 2) rfl; have f3 := hr6.free 2; have HR6 := Lib.hid hr6; have HRES6 := Lib.hid hrs6; have HRX6 := Lib.hid hrx6; have HT6 := Lib.hid ht6; have HB6 := Lib.hid (Below.grown HB5.out hg6 HB5.out.size (fun g' hg' => by { have := HBOX.out g' hg'; omega })); have HRE6 := Lib.hid hre6; clear hr6 hre6 hrx6 hrs6 ht6 hg6 hin6 hne hc61 hc62)
          go_roundw
          case rel =>
            have hr7 := HR6.out.put 2 (.slice A6 (pre.snoc o1 m1 k1).len c6)
            have ht7 : Tree (w6.setCell ⟨w.heap.size + 3, 2, none⟩ (.slice A6 (pre.snoc o1 m1 k1).len c6)) (w.heap.size + 4) (.slice A6 (pre.snoc o1 m1 k1).len c6) (pre.snoc o1 m1 k1) bs6 :=
              HT6.out.keep fun q hq => Below.heap_setCell w6 _ _ q (by have := (HT6.out.lt q hq).1; dsimp only; omega)
            refine ⟨⟨j + 1, pre.snoc o1 m1 k1, A6, c6, bs6, by omega, by go_num, by rw [Fo.snoc_len, HPL.out], ?_, hr7, ht7, HB6.out.setCell (by dsimp only; omega) _⟩, HRES6.out.apart (by dsimp only; omega) _, HRX6.out.apart (by dsimp only; omega) _, HRE6.out.apart (by dsimp only; omega) _⟩
            have := HPRE.out
            rw [HFE.out] at this
            rw [Fo.snoc_app]
            exact this
          case measure => simp [intOf]; omega
        · subst hji
          have hsame : (Fo.cons o1 m1 k1 (k.drop (j + 1))) = .cons o0 m0 k0 (k.drop (j + 1)) := HE.out.symm.trans e0
          injection hsame with x1 x2 x3
          subst x1
          subst x2
          subst x3
          have HFE := Lib.hid (show F.drop j = .cons q.op q.n q.k (F.drop (j + 1)) from HFA.out)
          have hSC : ∀ w' : World, Below w5.heap.size W5 w' → w'.cell? ⟨w.heap.size, 2, none⟩ = some (.slice (some ⟨b, o, none⟩) k.len c) ∧ w'.cell? ⟨b, o + j * 3, none⟩ = some (.int .i64 o1) ∧ w'.cell? ⟨b, o + j * 3 + 1, none⟩ = some (.int .i64 m1) ∧ w'.cell? ⟨b, o + j * 3 + 2, none⟩ = some (.slice Ak k1.len ck) ∧ w'.cell? ⟨w.heap.size + 1, 0, none⟩ = some (.int .i64 op') ∧ w'.cell? ⟨w.heap.size + 1, 1, none⟩ = some (.int .i64 n') ∧ w'.cell? ⟨w.heap.size + 1, 2, none⟩ = some (.slice A' k'.len c') := fun w' hb' => by
            have hz := HG5.out
            have hzr := HRE5.out
            have l1 : w.heap.size < w5.heap.size := by have := HWR.out; omega
            have l2 : w.heap.size + 1 < w5.heap.size := by have := HWR.out; omega
            have l3 : b < w5.heap.size := by omega
            obtain ⟨y1, y2, y3⟩ := HK.out
            have hkk := HBR.out
            exact ⟨(hb'.cell (p := ⟨w.heap.size, 2, none⟩) l1).trans (HRE5.out.cell (i := 2) rfl), (hb'.cell (p := ⟨b, o + j * 3, none⟩) l3).trans ((hkk.cell (p := ⟨b, o + j * 3, none⟩) hbb2).trans y1), (hb'.cell (p := ⟨b, o + j * 3 + 1, none⟩) l3).trans ((hkk.cell (p := ⟨b, o + j * 3 + 1, none⟩) hbb2).trans y2), (hb'.cell (p := ⟨b, o + j * 3 + 2, none⟩) l3).trans ((hkk.cell (p := ⟨b, o + j * 3 + 2, none⟩) hbb2).trans y3), (hb'.cell (p := ⟨w.heap.size + 1, 0, none⟩) l2).trans (HRX5.out.cell (i := 0) rfl), (hb'.cell (p := ⟨w.heap.size + 1, 1, none⟩) l2).trans (HRX5.out.cell (i := 1) rfl), (hb'.cell (p := ⟨w.heap.size + 1, 2, none⟩) l2).trans (HRX5.out.cell (i := 2) rfl)⟩
          have HG9 := Lib.hid (show w5.heap.size < W5.heap.size from HKR.out.size)
          have hbd : Below wr.heap.size wr W5.drew := HBR.out.drew
          have hlk : Lies W5.drew 0 W5.drew.heap.size Ak 0 k1 := (HH3.out.below (hbd.mono HB.out.size)).mono_ (Nat.le_refl _) (Nat.le_trans HB.out.size hbd.size)
          have hlx : Lies W5.drew 0 W5.drew.heap.size A' 0 k' := (HL'.out.below HB5.out.drew).mono_ (Nat.le_refl _) HB5.out.drew.size
          have hqi : I64 q.op ∧ I64 q.n := by
            rw [HQ0.out]
            cases zr with
            | nil => exact hi'
            | cons a r => rw [(replN_top _ _ _ _).1, (replN_top _ _ _ _).2]; exact HI.out
          have s0 := hSC _ (Below.refl w5.heap.size W5).drew
          have HSC := Lib.hid hSC
          have HIH := Lib.hid ih
          have hz1 : (1 : Int) ≤ (ln : Int) := by omega
          have b2 : ((j : Int) == (j : Int)) = true := by simp
          clear hSC hbd
          by_cases hce : c2 = 1
          · subst hce
            have hz2 : (ln : Int) ≤ 1 := by omega
            have HCQ := Lib.hid (show Calls Try.prog 38 #[.agg #[.int .i64 o1, .int .i64 m1, .slice Ak k1.len ck], .slice (some ⟨xb, xo, none⟩) 0 0, .agg #[.int .i64 op', .int .i64 n', .slice A' k'.len c']] W5.drew (Makes q.op q.n q.k W5.drew) from by
              have hz9 : zr.length = 0 := by have := HLR.out; omega
              have h := ih o1 m1 k1 Ak ck (some ⟨xb, xo, none⟩) 0 W5.drew hlk (by omega) HI.out hlx (fun i x hx => by have h0 := (List.getElem?_eq_some_iff.1 hx).1; have := HLR.out; omega) (by have := HLR.out; omega) (by omega) (by have := HLR.out; omega) hp
              rw [← HQ0.out, hz9] at h
              exact h)
            go_upto_region 9 with fail
            go_region_held3 (fun w' => w'.cell? ⟨w.heap.size, 2, none⟩ = some (Value.slice (some ⟨b, o, none⟩) k.len c) ∧ w'.cell? ⟨b, o + j * 3, none⟩ = some (Value.int .i64 o1) ∧ w'.cell? ⟨b, o + j * 3 + 1, none⟩ = some (Value.int .i64 m1) ∧ w'.cell? ⟨b, o + j * 3 + 2, none⟩ = some (Value.slice Ak k1.len ck) ∧ w'.cell? ⟨w.heap.size + 1, 0, none⟩ = some (Value.int .i64 op') ∧ w'.cell? ⟨w.heap.size + 1, 1, none⟩ = some (Value.int .i64 n') ∧ w'.cell? ⟨w.heap.size + 1, 2, none⟩ = some (Value.slice A' k'.len c'))
              (first | with_reducible exact s0 | with_reducible exact s7 | with_reducible exact s7s | fail)
              (first
                | (go_at_call 38
                   with_reducible refine HCQ.out.mono ?_
                   rintro e w7 ⟨A8, c8, b8, rfl, ht8, hb8⟩
                   have hb7 : Below w5.heap.size W5 w7 := ((Below.refl _ _).drew.trans (hb8.mono (Nat.le_refl _))).mono (Nat.le_of_lt HG9.out)
                   have hr7 := HKR.out.below (((Below.refl _ _).drew.trans (hb8.mono (Nat.le_refl _))) : Below W5.heap.size W5 w7) HG9.out
                   have f0 := hr7.free 0
                   have f1 := hr7.free 1
                   have f2 := hr7.free 2
                   have d0 := hr7.cell (i := 0) rfl
                   have d1 := hr7.cell (i := 1) rfl
                   have d2 := hr7.cell (i := 2) rfl
                   have s7 := HSC.out _ hb7
                   have hbs : Below w5.heap.size W5 (((w7.setCell ⟨w5.heap.size, 0, none⟩ (.int .i64 q.op)).setCell ⟨w5.heap.size, 1, none⟩ (.int .i64 q.n)).setCell ⟨w5.heap.size, 2, none⟩ (.slice A8 q.k.len c8)) := ((hb7.setCell (p := ⟨w5.heap.size, 0, none⟩) (Nat.le_refl _) (.int .i64 q.op)).setCell (p := ⟨w5.heap.size, 1, none⟩) (Nat.le_refl _) (.int .i64 q.n)).setCell (p := ⟨w5.heap.size, 2, none⟩) (Nat.le_refl _) (.slice A8 q.k.len c8)
                   have s7s := HSC.out _ hbs
                   have BE := Lib.hid hbs
                   have RE := Lib.hid (((hr7.put 0 (.int .i64 q.op)).put 1 (.int .i64 q.n)).put 2 (.slice A8 q.k.len c8))
                   have TE := Lib.hid (show Tree (((w7.setCell ⟨w5.heap.size, 0, none⟩ (.int .i64 q.op)).setCell ⟨w5.heap.size, 1, none⟩ (.int .i64 q.n)).setCell ⟨w5.heap.size, 2, none⟩ (.slice A8 q.k.len c8)) W5.heap.size (.slice A8 q.k.len c8) q.k b8 from ht8.keep fun z hz => by
                     have hz1 : W5.heap.size ≤ z := (ht8.lt z hz).1
                     have hz2 : z ≠ w5.heap.size := by have := HG9.out; omega
                     rw [Below.heap_setCell _ _ _ z hz2, Below.heap_setCell _ _ _ z hz2, Below.heap_setCell _ _ _ z hz2])
                   clear hr7 hbs hb7 ht8 hb8)
                | fail)
            obtain ⟨E9, hE9⟩ : ∃ V, V = (((w7.setCell ⟨w5.heap.size, 0, none⟩ (.int .i64 q.op)).setCell ⟨w5.heap.size, 1, none⟩ (.int .i64 q.n)).setCell ⟨w5.heap.size, 2, none⟩ (.slice A8 q.k.len c8)) := ⟨_, rfl⟩
            rw [← hE9] at BE RE TE
            have HI7 := Lib.hid hqi
            have HT7 := Lib.hid (HT5.out.keep fun z hz => BE.out.block z (by have h1 := (HT.out.lt z hz).2; have := HG5.out; omega))
            have HK7 := Lib.hid (TE.out.lower (base' := w.heap.size + 4) HZ5.out)
            have HD7 := Lib.hid (show ∀ z, z ∈ bs → z ∈ b8 → False from fun z h1 h2 => by
              have e1 := (HT.out.lt z h1).2
              have e2 := (TE.out.lt z h2).1
              have := HG5.out
              have := HG9.out
              omega)
            have HZ7 := Lib.hid (show w.heap.size + 4 ≤ E9.heap.size from Nat.le_trans HZ5.out BE.out.size)
            have HROW7 := Lib.hid (HROW5.out.below BE.out (by have := HWR.out; have := HG5.out; omega))
            have HRES7 := Lib.hid (HRES5.out.below BE.out (by have := HWR.out; have := HG5.out; omega))
            have HRX7 := Lib.hid (HRX5.out.below BE.out (by have := HWR.out; have := HG5.out; omega))
            have HRE7 := Lib.hid (HRE5.out.below BE.out (by have := HWR.out; have := HG5.out; omega))
            have HB7 := Lib.hid (HB5.out.trans (BE.out.mono (by have := HWR.out; have := HG5.out; omega)))
            have k0 := RE.out.cell (i := 0) rfl
            have k1' := RE.out.cell (i := 1) rfl
            have k2 := RE.out.cell (i := 2) rfl
            have u2 : E9.cell? ⟨w.heap.size + 3, 2, none⟩ = some (.slice A1 pre.len c1') := HROW7.out.cell (i := 2) rfl
            go_upto_region 10 with fail
            rw [← hE9]
            clear hE9 s0 s7 s7s d0 d1 d2 f0 f1 f2
            go_wp2_with (at_builtin; refine wpList_push rfl _ _ rfl (w.heap.size + 4) (.slice A1 pre.len c1') pre bs b8 q.op q.n q.k A8 c8 rfl rfl HT7.out HK7.out HI7.out HD7.out hpl2 HZ7.out ?_; intro v6 w6 bs6 ht6 hg6 hin6; obtain ⟨A6, c6, rfl, hc61, hc62⟩ := ht6.slice; have hne : ∀ g, (g < w.heap.size + 4 ∨ wr.heap.size ≤ g) → some g ≠ (Value.slice A1 pre.len c1').ownBlock := fun g hg e => by { have := HBOX.out g e.symm; omega }; have hr6 := row_grown HROW7.out hg6 (hne _ (.inl (by omega))); have hre6 := row_grown HRE7.out hg6 (hne _ (.inl (by omega))); have hrx6 := row_grown HRX7.out hg6 (hne _ (.inl (by omega))); have hrs6 := row_grown HRES7.out hg6 (hne _ (.inl (by omega))); have u3 : w6.cell? ⟨w.heap.size + 3, 2, none⟩ = some (.slice A1 pre.len c1') := hr6.cell (i := 2) rfl; have f3 := hr6.free 2; have HR6 := Lib.hid hr6; have HRES6 := Lib.hid hrs6; have HRX6 := Lib.hid hrx6; have HT6 := Lib.hid ht6; have HB6 := Lib.hid (Below.grown HB7.out hg6 HB7.out.size (fun g' hg' => by { have := HBOX.out g' hg'; omega })); have HRE6 := Lib.hid hre6; clear hr6 hre6 hrx6 hrs6 ht6 hg6 hin6 hne hc61 hc62)
            go_roundw
            case rel =>
              have hr7 := HR6.out.put 2 (.slice A6 (pre.snoc q.op q.n q.k).len c6)
              have ht7 : Tree (w6.setCell ⟨w.heap.size + 3, 2, none⟩ (.slice A6 (pre.snoc q.op q.n q.k).len c6)) (w.heap.size + 4) (.slice A6 (pre.snoc q.op q.n q.k).len c6) (pre.snoc q.op q.n q.k) bs6 :=
                HT6.out.keep fun q hq => Below.heap_setCell w6 _ _ q (by have := (HT6.out.lt q hq).1; dsimp only; omega)
              refine ⟨⟨j + 1, pre.snoc q.op q.n q.k, A6, c6, bs6, by omega, by go_num, by rw [Fo.snoc_len, HPL.out], ?_, hr7, ht7, HB6.out.setCell (by dsimp only; omega) _⟩, HRES6.out.apart (by dsimp only; omega) _, HRX6.out.apart (by dsimp only; omega) _, HRE6.out.apart (by dsimp only; omega) _⟩
              have := HPRE.out
              rw [HFE.out] at this
              rw [Fo.snoc_app]
              exact this
            case measure => simp [intOf]; omega
          · have hcl : 1 < c2 := by omega
            have hz2 : (ln : Int) ≤ (c2 : Int) := by omega
            have hzr : LiesI W5.drew 0 W5.drew.heap.size (some ⟨xb, xo + 1, none⟩) zr := LiesI.up (w := w) (fun i x hx => by
              obtain ⟨b, o, hA, h1, h2, h3, h4⟩ := HLZ.out (i + 1) x (by simpa using hx)
              injection hA with hA
              injection hA with g1 g2
              subst g1
              subst g2
              exact ⟨xb, xo + 1, rfl, h1, h2, h3, by rw [show xo + 1 + i = xo + (i + 1) by omega]; exact h4⟩) HB5.out.drew
            have HCQ := Lib.hid (show Calls Try.prog 38 #[.agg #[.int .i64 o1, .int .i64 m1, .slice Ak k1.len ck], .slice (some ⟨xb, xo + 1, none⟩) (ln - 1) (c2 - 1), .agg #[.int .i64 op', .int .i64 n', .slice A' k'.len c']] W5.drew (Makes q.op q.n q.k W5.drew) from by
              rw [HQ0.out, show ln - 1 = zr.length by have := HLR.out; omega]
              exact ih o1 m1 k1 Ak ck (some ⟨xb, xo + 1, none⟩) (c2 - 1) W5.drew hlk (by omega) HI.out hlx hzr (by have := HLR.out; omega) (by omega) (by have := HLR.out; omega) hp)
            go_upto_region 9 with fail
            go_region_held3 (fun w' => w'.cell? ⟨w.heap.size, 2, none⟩ = some (Value.slice (some ⟨b, o, none⟩) k.len c) ∧ w'.cell? ⟨b, o + j * 3, none⟩ = some (Value.int .i64 o1) ∧ w'.cell? ⟨b, o + j * 3 + 1, none⟩ = some (Value.int .i64 m1) ∧ w'.cell? ⟨b, o + j * 3 + 2, none⟩ = some (Value.slice Ak k1.len ck) ∧ w'.cell? ⟨w.heap.size + 1, 0, none⟩ = some (Value.int .i64 op') ∧ w'.cell? ⟨w.heap.size + 1, 1, none⟩ = some (Value.int .i64 n') ∧ w'.cell? ⟨w.heap.size + 1, 2, none⟩ = some (Value.slice A' k'.len c'))
              (first | with_reducible exact s0 | with_reducible exact s7 | with_reducible exact s7s | fail)
              (first
                | (go_at_call 38
                   with_reducible refine HCQ.out.mono ?_
                   rintro e w7 ⟨A8, c8, b8, rfl, ht8, hb8⟩
                   have hb7 : Below w5.heap.size W5 w7 := ((Below.refl _ _).drew.trans (hb8.mono (Nat.le_refl _))).mono (Nat.le_of_lt HG9.out)
                   have hr7 := HKR.out.below (((Below.refl _ _).drew.trans (hb8.mono (Nat.le_refl _))) : Below W5.heap.size W5 w7) HG9.out
                   have f0 := hr7.free 0
                   have f1 := hr7.free 1
                   have f2 := hr7.free 2
                   have d0 := hr7.cell (i := 0) rfl
                   have d1 := hr7.cell (i := 1) rfl
                   have d2 := hr7.cell (i := 2) rfl
                   have s7 := HSC.out _ hb7
                   have hbs : Below w5.heap.size W5 (((w7.setCell ⟨w5.heap.size, 0, none⟩ (.int .i64 q.op)).setCell ⟨w5.heap.size, 1, none⟩ (.int .i64 q.n)).setCell ⟨w5.heap.size, 2, none⟩ (.slice A8 q.k.len c8)) := ((hb7.setCell (p := ⟨w5.heap.size, 0, none⟩) (Nat.le_refl _) (.int .i64 q.op)).setCell (p := ⟨w5.heap.size, 1, none⟩) (Nat.le_refl _) (.int .i64 q.n)).setCell (p := ⟨w5.heap.size, 2, none⟩) (Nat.le_refl _) (.slice A8 q.k.len c8)
                   have s7s := HSC.out _ hbs
                   have BE := Lib.hid hbs
                   have RE := Lib.hid (((hr7.put 0 (.int .i64 q.op)).put 1 (.int .i64 q.n)).put 2 (.slice A8 q.k.len c8))
                   have TE := Lib.hid (show Tree (((w7.setCell ⟨w5.heap.size, 0, none⟩ (.int .i64 q.op)).setCell ⟨w5.heap.size, 1, none⟩ (.int .i64 q.n)).setCell ⟨w5.heap.size, 2, none⟩ (.slice A8 q.k.len c8)) W5.heap.size (.slice A8 q.k.len c8) q.k b8 from ht8.keep fun z hz => by
                     have hz1 : W5.heap.size ≤ z := (ht8.lt z hz).1
                     have hz2 : z ≠ w5.heap.size := by have := HG9.out; omega
                     rw [Below.heap_setCell _ _ _ z hz2, Below.heap_setCell _ _ _ z hz2, Below.heap_setCell _ _ _ z hz2])
                   clear hr7 hbs hb7 ht8 hb8)
                | fail)
            obtain ⟨E9, hE9⟩ : ∃ V, V = (((w7.setCell ⟨w5.heap.size, 0, none⟩ (.int .i64 q.op)).setCell ⟨w5.heap.size, 1, none⟩ (.int .i64 q.n)).setCell ⟨w5.heap.size, 2, none⟩ (.slice A8 q.k.len c8)) := ⟨_, rfl⟩
            rw [← hE9] at BE RE TE
            have HI7 := Lib.hid hqi
            have HT7 := Lib.hid (HT5.out.keep fun z hz => BE.out.block z (by have h1 := (HT.out.lt z hz).2; have := HG5.out; omega))
            have HK7 := Lib.hid (TE.out.lower (base' := w.heap.size + 4) HZ5.out)
            have HD7 := Lib.hid (show ∀ z, z ∈ bs → z ∈ b8 → False from fun z h1 h2 => by
              have e1 := (HT.out.lt z h1).2
              have e2 := (TE.out.lt z h2).1
              have := HG5.out
              have := HG9.out
              omega)
            have HZ7 := Lib.hid (show w.heap.size + 4 ≤ E9.heap.size from Nat.le_trans HZ5.out BE.out.size)
            have HROW7 := Lib.hid (HROW5.out.below BE.out (by have := HWR.out; have := HG5.out; omega))
            have HRES7 := Lib.hid (HRES5.out.below BE.out (by have := HWR.out; have := HG5.out; omega))
            have HRX7 := Lib.hid (HRX5.out.below BE.out (by have := HWR.out; have := HG5.out; omega))
            have HRE7 := Lib.hid (HRE5.out.below BE.out (by have := HWR.out; have := HG5.out; omega))
            have HB7 := Lib.hid (HB5.out.trans (BE.out.mono (by have := HWR.out; have := HG5.out; omega)))
            have k0 := RE.out.cell (i := 0) rfl
            have k1' := RE.out.cell (i := 1) rfl
            have k2 := RE.out.cell (i := 2) rfl
            have u2 : E9.cell? ⟨w.heap.size + 3, 2, none⟩ = some (.slice A1 pre.len c1') := HROW7.out.cell (i := 2) rfl
            go_upto_region 10 with fail
            rw [← hE9]
            clear hE9 s0 s7 s7s d0 d1 d2 f0 f1 f2
            go_wp2_with (at_builtin; refine wpList_push rfl _ _ rfl (w.heap.size + 4) (.slice A1 pre.len c1') pre bs b8 q.op q.n q.k A8 c8 rfl rfl HT7.out HK7.out HI7.out HD7.out hpl2 HZ7.out ?_; intro v6 w6 bs6 ht6 hg6 hin6; obtain ⟨A6, c6, rfl, hc61, hc62⟩ := ht6.slice; have hne : ∀ g, (g < w.heap.size + 4 ∨ wr.heap.size ≤ g) → some g ≠ (Value.slice A1 pre.len c1').ownBlock := fun g hg e => by { have := HBOX.out g e.symm; omega }; have hr6 := row_grown HROW7.out hg6 (hne _ (.inl (by omega))); have hre6 := row_grown HRE7.out hg6 (hne _ (.inl (by omega))); have hrx6 := row_grown HRX7.out hg6 (hne _ (.inl (by omega))); have hrs6 := row_grown HRES7.out hg6 (hne _ (.inl (by omega))); have u3 : w6.cell? ⟨w.heap.size + 3, 2, none⟩ = some (.slice A1 pre.len c1') := hr6.cell (i := 2) rfl; have f3 := hr6.free 2; have HR6 := Lib.hid hr6; have HRES6 := Lib.hid hrs6; have HRX6 := Lib.hid hrx6; have HT6 := Lib.hid ht6; have HB6 := Lib.hid (Below.grown HB7.out hg6 HB7.out.size (fun g' hg' => by { have := HBOX.out g' hg'; omega })); have HRE6 := Lib.hid hre6; clear hr6 hre6 hrx6 hrs6 ht6 hg6 hin6 hne hc61 hc62)
            go_roundw
            case rel =>
              have hr7 := HR6.out.put 2 (.slice A6 (pre.snoc q.op q.n q.k).len c6)
              have ht7 : Tree (w6.setCell ⟨w.heap.size + 3, 2, none⟩ (.slice A6 (pre.snoc q.op q.n q.k).len c6)) (w.heap.size + 4) (.slice A6 (pre.snoc q.op q.n q.k).len c6) (pre.snoc q.op q.n q.k) bs6 :=
                HT6.out.keep fun q hq => Below.heap_setCell w6 _ _ q (by have := (HT6.out.lt q hq).1; dsimp only; omega)
              refine ⟨⟨j + 1, pre.snoc q.op q.n q.k, A6, c6, bs6, by omega, by go_num, by rw [Fo.snoc_len, HPL.out], ?_, hr7, ht7, HB6.out.setCell (by dsimp only; omega) _⟩, HRES6.out.apart (by dsimp only; omega) _, HRX6.out.apart (by dsimp only; omega) _, HRE6.out.apart (by dsimp only; omega) _⟩
              have := HPRE.out
              rw [HFE.out] at this
              rw [Fo.snoc_app]
              exact this
            case measure => simp [intOf]; omega
      · have e9 : j = F.len := by omega
        rw [e9, Fo.drop_len] at hpre
        have c0 := hres.cell (i := 0) rfl
        have c1 := hres.cell (i := 1) rfl
        have c2 := hres.cell (i := 2) rfl
        have s2 := hre.cell (i := 2) rfl
        have hpk : pre = F := (Fo.app_nil pre).symm.trans hpre
        rw [hpk, hFl] at hrow ht
        have hap : w.heap.size + 2 ∉ bs := fun hz => by have := (ht.lt _ hz).1; omega
        obtain ⟨⟨d0, d1, d2⟩, ⟨f0, f1, f2⟩, ⟨r0, r1, r2⟩, hbz, htz⟩ := box3 hres hb (show w.heap.size ≤ w.heap.size + 2 by omega) op n A1 k.len c1' (ht.lower (base' := w.heap.size) (by omega)) hap
        have HBZ := Lib.hid hbz
        have HTZ := Lib.hid htz
        have q0 := hrow.cell (i := 0) rfl
        have q1 := hrow.cell (i := 1) rfl
        have q2 := hrow.cell (i := 2) rfl
        clear c0 c1 c2 ht hb hrow hres hre hrx hpl hpre hap hbz htz hpk
        go_wp2_with fail
        refine bodyPost_ret (v := .agg #[.int .i64 op, .int .i64 n, .slice A1 k.len c1']) ?_ rfl ⟨A1, c1', bs, by rw [hFl], by rw [hFl]; exact HTZ.out, HBZ.out⟩
        simp [results, Try.f38, go_sem, r0, r1, r2]
end Go.Proofs.Ytdpiklnadhpjjaa
