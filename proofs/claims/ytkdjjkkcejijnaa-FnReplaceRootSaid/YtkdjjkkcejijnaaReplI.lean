/-
  impl.ReplaceAt (made by gen_repl.py).
-/
import Derived.Test.YtkdjjkkcejijnaaRepl
import Derived.Test.YtkdjjkkcejijnaaPartI
import Derived.Test.YtkdjjkkcejijnaaPathsI
namespace Go.Proofs.Ytkdjjkkcejijnaa
open Go.RowKit Go.Shelf
set_option maxRecDepth 100000

theorem three_boxes (w : World) (t : TypeId) (X Y Z : Array Value) : Below w.heap.size w (((w.alloc (.cells X t)).alloc (.cells Y t)).alloc (.cells Z t)) ∧ Row (((w.alloc (.cells X t)).alloc (.cells Y t)).alloc (.cells Z t)) w.heap.size t X ∧
    Row (((w.alloc (.cells X t)).alloc (.cells Y t)).alloc (.cells Z t)) (w.heap.size + 1) t Y ∧ Row (((w.alloc (.cells X t)).alloc (.cells Y t)).alloc (.cells Z t)) (w.heap.size + 2) t Z := by
  have h3 := Row.fresh ((w.alloc (.cells X t)).alloc (.cells Y t)) t Z
  have h2 := (Row.fresh (w.alloc (.cells X t)) t Y).alloc (.cells Z t)
  simp only [World.size_alloc] at h2 h3
  exact ⟨(((Below.refl _ _).alloc (Nat.le_refl _) _).alloc (by simp) _).alloc (by simp; omega) _, ((Row.fresh w t X).alloc _).alloc _, h2, h3⟩

theorem own_row {w : World} {base : Nat} {v : Value} {n : Nat} {xs : List Value} (h : w.ownsRow base 25 3 v n xs) : ∀ z, z ∈ blkV v → ∃ cs, Row w z 25 cs := fun z hz => by
  rcases h.2 with ⟨hv, _⟩ | ⟨g, cap, cur, hv, hq, hh, _⟩
  · rw [hv] at hz; cases hz
  · rw [hv] at hz
    have hz : z ∈ [g] := hz
    rw [List.mem_singleton] at hz
    rw [hz]
    exact ⟨cur, hh⟩
theorem OwnF.row {w : World} {base : Nat} : ∀ {f : Fo} {st : List Nx} {bs : List Nat}, OwnF w base f st bs → ∀ z, z ∈ bs → ∃ cs, Row w z 25 cs
  | .nil, _, _, ⟨_, h⟩, z, hz => by rw [h] at hz; cases hz
  | .cons _ _ _ _, _, _, ⟨A, c, stk, bk, st', b2, h1, h2, h3, h4, h5, h6⟩, z, hz => by
    subst h6
    rcases List.mem_append.1 hz with hz | hz
    · rcases List.mem_append.1 hz with hz | hz
      · exact own_row h2 z (by rw [blkV_slice]; exact hz)
      · exact h3.row z hz
    · exact h5.row z hz
theorem Tree.row {w : World} {base : Nat} {v : Value} {f : Fo} {bs : List Nat} (h : Tree w base v f bs) : ∀ z, z ∈ bs → ∃ cs, Row w z 25 cs := fun z hz => by
  obtain ⟨st, b1, h1, h2, rfl, h4⟩ := h
  rcases List.mem_append.1 hz with hz | hz
  · exact own_row h1 z hz
  · exact h2.row z hz
theorem Down.up {w w' : World} (hb : Below w.heap.size w w') : ∀ {zs : List Int} {a b : Addr}, Down w a zs b → Down w' a zs b
  | [], _, _, h => h
  | _ :: _, _, _, ⟨g, o, l, c, e1, e2, e3, e4⟩ => ⟨g, o, l, c, (hb.cell (World.block_lt_of_cell? _ _ e1)).trans e1, e2, e3, Down.up hb e4⟩

set_option maxHeartbeats 4000000 in
theorem implRepl_any (op n : Int) (k : Fo) (A : Option Addr) (c : Nat) (zs : List Int) (A2 : Option Addr) (c2 : Nat) (op' n' : Int) (k' : Fo) (A' : Option Addr) (c' : Nat) (w : World) (hl : Lies w 0 w.heap.size A 0 k) (hk : k.len ≤ maxLen) (hl' : Lies w 0 w.heap.size A' 0 k') (hk' : k'.len ≤ maxLen)
    (hz : LiesI w 0 w.heap.size A2 zs) (hzl : zs.length ≤ 1048576) (hi : I64 op ∧ I64 n) (hi' : I64 op' ∧ I64 n') :
    Calls Try.prog 20 #[.agg #[.int .i64 op, .int .i64 n, .slice A k.len c], .slice A2 zs.length c2, .agg #[.int .i64 op', .int .i64 n', .slice A' k'.len c']] w (GivesN ((resR ⟨op, n, k⟩ zs ⟨op', n', k'⟩).getD nd0) (resR ⟨op, n, k⟩ zs ⟨op', n', k'⟩).isSome w) := by
  obtain ⟨hb, r1, r2, r3⟩ := three_boxes w 25 #[Value.int IntKind.i64 op, Value.int IntKind.i64 n, Value.slice A k.len c] #[Value.int IntKind.i64 op', Value.int IntKind.i64 n', Value.slice A' k'.len c'] #[Value.int IntKind.i64 0, Value.int IntKind.i64 0, Value.slice none 0 0]
  obtain ⟨W, hW⟩ : ∃ W, W = ((w.alloc (Obj.cells #[Value.int IntKind.i64 op, Value.int IntKind.i64 n, Value.slice A k.len c] 25)).alloc (Obj.cells #[Value.int IntKind.i64 op', Value.int IntKind.i64 n', Value.slice A' k'.len c'] 25)).alloc (Obj.cells #[Value.int IntKind.i64 0, Value.int IntKind.i64 0, Value.slice none 0 0] 25) := ⟨_, rfl⟩
  rw [← hW] at hb r1 r2 r3
  have HB := Lib.hid hb
  have HRE := Lib.hid r1
  have HRX := Lib.hid r2
  have HRZ := Lib.hid r3
  have HLE := Lib.hid (hl.up hb)
  have HLX := Lib.hid (hl'.up hb)
  have HLZ := Lib.hid (hz.up hb)
  have HI := Lib.hid hi
  have HI' := Lib.hid hi'
  have HV := Lib.hid (validOpen_any op n k A c W (hl.up hb) hk)
  have q0 := r1.cell (i := 0) rfl
  have q1 := r1.cell (i := 1) rfl
  have q2 := r1.cell (i := 2) rfl
  clear hb r1 r2 r3 hl hl' hz hi hi'
  obtain ⟨res, hres⟩ : ∃ r, r = resR ⟨op, n, k⟩ zs ⟨op', n', k'⟩ := ⟨_, rfl⟩
  rw [← hres]
  have HRS := Lib.hid hres
  clear hres
  go_enter Try.func20, Try.ntmps20
  go_upto_region 1 with fail
  rw [← hW]
  clear hW
  go_wp2_with fail
  refine HV.out.mono ?_
  rintro e w1 ⟨rfl, hb1⟩
  have HB1 := Lib.hid hb1
  clear HV q0 q1 q2 hb1
  cases hv : nodeIs op n k (firstS 8) with
  | false =>
    have HZ := Lib.hid (show res = none by rw [HRS.out]; unfold resR ndIs; simp [hv])
    have hres := HRZ.out.below HB1.out HRZ.out.size
    have d0 := hres.cell (i := 0) rfl
    have d1 := hres.cell (i := 1) rfl
    have d2 := hres.cell (i := 2) rfl
    have f0 := hres.free 0
    have f1 := hres.free 1
    have f2 := hres.free 2
    have HEND := Lib.hid (zero_end (HB.out.trans (HB1.out.mono HB.out.size)) (show w.heap.size ≤ w.heap.size + 2 by omega))
    obtain ⟨r0, r1, r2⟩ := zero_cells hres
    clear hres
    go_wp2_with fail
    refine bodyPost_ret (v := .tuple #[.agg #[.int .i64 0, .int .i64 0, .slice none 0 0], .bool false]) ?_ rfl (by rw [HZ.out]; exact HEND.out)
    simp [results, Try.f20, go_sem, r0, r1, r2]
  | true =>
    have hsz := nd_small (p := ⟨op, n, k⟩) hv
    have hrx := HRX.out.below HB1.out HRX.out.size
    have q0 := hrx.cell (i := 0) rfl
    have q1 := hrx.cell (i := 1) rfl
    have q2 := hrx.cell (i := 2) rfl
    have HV2 := Lib.hid (validOpen_any op' n' k' A' c' w1 (HLX.out.up HB1.out) hk')
    clear hrx
    go_wp2_with fail
    refine HV2.out.mono ?_
    rintro e w2 ⟨rfl, hb2⟩
    have HB2 := Lib.hid (HB1.out.trans (hb2.mono HB1.out.size))
    clear HV2 q0 q1 q2 hb2 HB1
    cases hv' : nodeIs op' n' k' (firstS 8) with
    | false =>
      have HZ := Lib.hid (show res = none by rw [HRS.out]; unfold resR ndIs; simp [hv'])
      have hres := HRZ.out.below HB2.out HRZ.out.size
      have d0 := hres.cell (i := 0) rfl
      have d1 := hres.cell (i := 1) rfl
      have d2 := hres.cell (i := 2) rfl
      have f0 := hres.free 0
      have f1 := hres.free 1
      have f2 := hres.free 2
      have HEND := Lib.hid (zero_end (HB.out.trans (HB2.out.mono HB.out.size)) (show w.heap.size ≤ w.heap.size + 2 by omega))
      obtain ⟨r0, r1, r2⟩ := zero_cells hres
      clear hres
      go_wp2_with fail
      refine bodyPost_ret (v := .tuple #[.agg #[.int .i64 0, .int .i64 0, .slice none 0 0], .bool false]) ?_ rfl (by rw [HZ.out]; exact HEND.out)
      simp [results, Try.f20, go_sem, r0, r1, r2]
    | true =>
      have hsz' := nd_small (p := ⟨op', n', k'⟩) hv'
      have hre := HRE.out.below HB2.out HRE.out.size
      have q0 := hre.cell (i := 0) rfl
      have q1 := hre.cell (i := 1) rfl
      have q2 := hre.cell (i := 2) rfl
      have HCO := Lib.hid (copyOf_any k.size op n k A c w2 rfl (HLE.out.up HB2.out) (Nat.le_trans hsz (by decide)) HI.out)
      clear hre
      go_wp2_with fail
      refine HCO.out.mono ?_
      rintro e w3 ⟨A5, c5, bs5, rfl, ht5, hb3⟩
      obtain ⟨_, _, hX, k51, k52⟩ := ht5.slice
      injection hX with gX1 gX2 gX3
      subst gX3
      clear gX1 gX2 q0 q1 q2 HCO
      obtain ⟨W4, hW4⟩ : ∃ V, V = w3.alloc (Obj.cells #[Value.int .i64 op, Value.int .i64 n, Value.slice A5 k.len c5] 25) := ⟨_, rfl⟩
      have b4 : Below w3.heap.size w3 W4 := by rw [hW4]; exact (Below.refl _ _).alloc (Nat.le_refl _) _
      have hy4 : Row W4 w3.heap.size 25 #[Value.int .i64 op, Value.int .i64 n, Value.slice A5 k.len c5] := by rw [hW4]; exact Row.fresh _ _ _
      have HT4 := Lib.hid (show Tree W4 w2.heap.size (.slice A5 k.len c5) k bs5 from ht5.over b4)
      have HB4 := Lib.hid (HB2.out.trans ((hb3.trans (b4.mono hb3.size)).mono HB2.out.size))
      have HS4 := Lib.hid (show w2.heap.size ≤ w3.heap.size ∧ ∀ z, z ∈ bs5 → z < w3.heap.size from ⟨hb3.size, fun z hz => (ht5.lt z hz).2⟩)
      have hn4 : NodeIn W4 0 W4.heap.size ⟨w3.heap.size, 0, none⟩ ⟨op, n, k⟩ := ⟨rfl, HI.out, A5, c5, hy4.cell (i := 0) rfl, hy4.cell (i := 1) rfl, hy4.cell (i := 2) rfl, k51, k52, HT4.out.lies0⟩
      have HP := Lib.hid (partOf_any ⟨w3.heap.size, 0, none⟩ ⟨op, n, k⟩ zs A2 c2 0 W4.heap.size W4 hn4 (HLZ.out.up HB4.out) hzl)
      have HY4 := Lib.hid hy4
      clear b4 hy4 ht5 hb3 hn4
      go_upto_region 4 with fail
      rw [← hW4]
      clear hW4
      go_wp2_with fail
      refine HP.out.mono ?_
      rintro e w5 ⟨rfl, ⟨b, q, rfl, hq, hn, hdn⟩ | ⟨rfl, hq⟩⟩
      rotate_left
      · have HZ := Lib.hid (show res = none by rw [HRS.out]; unfold resR; simp [hq])
        clear HP hq
        have hres := HRZ.out.below HB4.out HRZ.out.size
        have d0 := hres.cell (i := 0) rfl
        have d1 := hres.cell (i := 1) rfl
        have d2 := hres.cell (i := 2) rfl
        have f0 := hres.free 0
        have f1 := hres.free 1
        have f2 := hres.free 2
        have HEND := Lib.hid (zero_end (HB.out.trans (HB4.out.mono HB.out.size)) (show w.heap.size ≤ w.heap.size + 2 by omega))
        obtain ⟨r0, r1, r2⟩ := zero_cells hres
        clear hres
        go_wp2_with fail
        refine bodyPost_ret (v := .tuple #[.agg #[.int .i64 0, .int .i64 0, .slice none 0 0], .bool false]) ?_ rfl (by rw [HZ.out]; exact HEND.out)
        simp [results, Try.f20, go_sem, r0, r1, r2]
      · obtain ⟨hsp, hiq, A7, c7, t0, t1, t2, k71, k72, _⟩ := hn
        obtain ⟨bb, bo, bsp⟩ := b
        simp only at hsp t0 t1 t2
        subst hsp
        have HCX := Lib.hid (copyOf_any k'.size op' n' k' A' c' W4 rfl (HLX.out.up HB4.out) (Nat.le_trans hsz' (by decide)) HI'.out)
        have hrx := HRX.out.below HB4.out HRX.out.size
        have q0 := hrx.cell (i := 0) rfl
        have q1 := hrx.cell (i := 1) rfl
        have q2 := hrx.cell (i := 2) rfl
        have hbs : bb < W4.heap.size := World.block_lt_of_cell? _ _ t0
        have HD := Lib.hid hdn
        have HQ := Lib.hid hq
        have T0 := Lib.hid t0
        have T1 := Lib.hid t1
        have T2 := Lib.hid t2
        clear hrx HP hdn hq t0 t1 t2
        go_wp2_with fail
        refine HCX.out.mono ?_
        rintro e w6 ⟨A6, c6, bs6, rfl, ht6, hb6⟩
        obtain ⟨_, _, hX, k61, k62⟩ := ht6.slice
        injection hX with gX1 gX2 gX3
        subst gX3
        clear gX1 gX2 q0 q1 q2 HCX
        have s0 : w6.cell? ⟨bb, bo, none⟩ = some (.int .i64 q.op) := (hb6.cell (p := ⟨bb, bo, none⟩) hbs).trans T0.out
        have s1 : w6.cell? ⟨bb, bo + 1, none⟩ = some (.int .i64 q.n) := (hb6.cell (p := ⟨bb, bo + 1, none⟩) hbs).trans T1.out
        have s2 : w6.cell? ⟨bb, bo + 2, none⟩ = some (.slice A7 q.k.len c7) := (hb6.cell (p := ⟨bb, bo + 2, none⟩) hbs).trans T2.out
        obtain ⟨r, hr⟩ : ∃ r, r = replN ⟨op, n, k⟩ zs ⟨op', n', k'⟩ := ⟨_, rfl⟩
        -- what stands behind the store
        have hafter : (∃ cs, Row w6 bb 25 cs) ∧ W.heap.size ≤ bb ∧ ∃ A9 c9 bs9, r.k.len ≤ c9 ∧ c9 ≤ maxLen ∧ (I64 r.op ∧ I64 r.n) ∧ Tree (put3 w6 ⟨bb, bo, none⟩ ⟨op', n', k', A6, c6⟩) w2.heap.size (.slice A9 r.k.len c9) r.k bs9 ∧ w3.heap.size ∉ bs9 ∧
            Row (put3 w6 ⟨bb, bo, none⟩ ⟨op', n', k', A6, c6⟩) w3.heap.size 25 #[Value.int .i64 r.op, Value.int .i64 r.n, Value.slice A9 r.k.len c9] := by
          have hw3 : w3.heap.size < W4.heap.size := HY4.out.size
          have hW2 := HB2.out.size
          cases zs with
          | nil =>
            have hd : (⟨w3.heap.size, 0, none⟩ : Addr) = ⟨bb, bo, none⟩ := HD.out
            injection hd with e1 e2
            subst e1
            subst e2
            have hrr : r = ⟨op', n', k'⟩ := hr
            subst hrr
            have hy6 := HY4.out.below hb6 HY4.out.size
            refine ⟨⟨_, hy6⟩, by have := HS4.out.1; omega, A6, c6, bs6, k61, k62, HI'.out, (ht6.keep fun z hz => put3_heap w6 ⟨w3.heap.size, 0, none⟩ _ (show z ≠ w3.heap.size by have := (ht6.lt z hz).1; omega)).lower (by have := HS4.out.1; omega), fun hz => by have := (ht6.lt _ hz).1; omega, ?_⟩
            exact ((hy6.put 0 (.int .i64 op')).put 1 (.int .i64 n')).put 2 (.slice A6 k'.len c6)
          | cons i r2 =>
            have ht5 := HT4.out.over hb6
            have hyc := (HY4.out.below hb6 HY4.out.size).cell (i := 2) rfl
            obtain ⟨stx, bx, hxo, hxf, hbx, hxn⟩ := ht6.lower (base' := w2.heap.size) (by have := HS4.out.1; omega)
            rw [blkV_slice] at hbx
            subst hbx
            have hlo : ∀ z, z ∈ blkOf A6 ++ bx → W4.heap.size ≤ z := fun z hz => (ht6.lt z hz).1
            obtain ⟨_, s2', bs9, s3', s4'⟩ := tree_put (y := ⟨op', n', k', A6, c6⟩) HI'.out hxo hxf hxn r2 i (o := op) (m := n) (a := ⟨w3.heap.size, 0, none⟩) (b := ⟨bb, bo, none⟩) ht5 hyc HQ.out (HD.out.up hb6) (fun z hz h => by have h1 := hlo z hz; have h2 := HS4.out.2 z h; omega)
            have hlen := replN_len ⟨op, n, k⟩ ⟨op', n', k'⟩ i r2
            obtain ⟨ho1, ho2⟩ := replN_top ⟨op, n, k⟩ ⟨op', n', k'⟩ i r2
            rw [← hr] at hlen ho1 ho2
            have s3' : Tree (put3 w6 ⟨bb, bo, none⟩ ⟨op', n', k', A6, c6⟩) w2.heap.size (.slice A5 k.len c5) r.k bs9 := by rw [hr]; exact s3'
            have hbb : w3.heap.size ≠ bb := fun e => by have := HS4.out.2 bb s2'; omega
            refine ⟨ht5.row bb s2', by have := (ht5.lt bb s2').1; omega, A5, c5, bs9, by rw [hlen]; exact k51, k52, by rw [ho1, ho2]; exact HI.out, by rw [hlen]; exact s3', fun hz => by rcases s4' _ hz with h | h; exact absurd (HS4.out.2 _ h) (Nat.lt_irrefl _); exact absurd (hlo _ h) (by omega), ?_⟩
            rw [ho1, ho2, hlen]
            exact (put3_heap w6 ⟨bb, bo, none⟩ _ hbb).trans (HY4.out.below hb6 HY4.out.size)
        obtain ⟨⟨csb, hrb⟩, hWb, A9, c9, bs9, k91, k92, hri, ht9, hn9, hy9⟩ := hafter
        have f0 := hrb.free bo
        have f1 := hrb.free (bo + 1)
        have f2 := hrb.free (bo + 2)
        obtain ⟨W9, hW9⟩ : ∃ V, V = ((w6.setCell ⟨bb, bo, none⟩ (.int .i64 op')).setCell ⟨bb, bo + 1, none⟩ (.int .i64 n')).setCell ⟨bb, bo + 2, none⟩ (.slice A6 k'.len c6) := ⟨_, rfl⟩
        have e9 : put3 w6 ⟨bb, bo, none⟩ ⟨op', n', k', A6, c6⟩ = W9 := hW9.symm
        rw [e9] at ht9 hy9
        have hb9 : Below W.heap.size W W9 := by
          rw [hW9]
          exact (((HB4.out.trans (hb6.mono HB4.out.size)).setCell (p := ⟨bb, bo, none⟩) hWb _).setCell (p := ⟨bb, bo + 1, none⟩) hWb _).setCell (p := ⟨bb, bo + 2, none⟩) hWb _
        have HB9 := Lib.hid hb9
        have HT9 := Lib.hid ht9
        have HY9 := Lib.hid hy9
        have HN9 := Lib.hid hn9
        have HQS := Lib.hid (show (partN ⟨op, n, k⟩ zs).isSome = true by rw [HQ.out]; rfl)
        have HV9 := Lib.hid (validOpen_any r.op r.n r.k A9 c9 W9 ht9.lies0 (Nat.le_trans k91 k92))
        have HR := Lib.hid hr
        clear e9 hb9 hr ht9 hy9 hn9 hri ht6 hb6 HT4 HY4 HD HQ T0 T1 T2 hWb hrb
        go_upto_region 8 with fail
        rw [← hW9]
        clear hW9 s0 s1 s2 f0 f1 f2
        have hyy := HY9.out
        have q0 := hyy.cell (i := 0) rfl
        have q1 := hyy.cell (i := 1) rfl
        have q2 := hyy.cell (i := 2) rfl
        clear hyy
        go_wp2_with fail
        refine HV9.out.mono ?_
        rintro e w10 ⟨rfl, hb10⟩
        have HB10 := Lib.hid (HB9.out.trans (hb10.mono HB9.out.size))
        have hyy := HY9.out.below hb10 HY9.out.size
        have HT10 := Lib.hid (HT9.out.over hb10)
        clear hb10 q0 q1 q2 HV9 HT9
        cases hv9 : nodeIs r.op r.n r.k (firstS 8) with
        | false =>
          have HZ := Lib.hid (show res = none by rw [HRS.out]; unfold resR; rw [← HR.out]; simp [ndIs, hv9])
          clear hyy
          have hres := HRZ.out.below HB10.out HRZ.out.size
          have d0 := hres.cell (i := 0) rfl
          have d1 := hres.cell (i := 1) rfl
          have d2 := hres.cell (i := 2) rfl
          have f0 := hres.free 0
          have f1 := hres.free 1
          have f2 := hres.free 2
          have HEND := Lib.hid (zero_end (HB.out.trans (HB10.out.mono HB.out.size)) (show w.heap.size ≤ w.heap.size + 2 by omega))
          obtain ⟨r0, r1, r2⟩ := zero_cells hres
          clear hres
          go_wp2_with fail
          refine bodyPost_ret (v := .tuple #[.agg #[.int .i64 0, .int .i64 0, .slice none 0 0], .bool false]) ?_ rfl (by rw [HZ.out]; exact HEND.out)
          simp [results, Try.f20, go_sem, r0, r1, r2]
        | true =>
          have HZ := Lib.hid (show res = some r by rw [HRS.out]; unfold resR; rw [← HR.out, HQS.out]; simp [ndIs, hv, hv', hv9])
          have hb11 := HB.out.trans (HB10.out.mono HB.out.size)
          have hres := HRZ.out.below HB10.out HRZ.out.size
          have hnb : w.heap.size + 2 ∉ bs9 := fun hz => by have h1 := (HT10.out.lt _ hz).1; have h2 := HB2.out.size; have h3 := HRZ.out.size; omega
          obtain ⟨⟨d0, d1, d2⟩, ⟨f0, f1, f2⟩, ⟨r0, r1, r2⟩, hbz, htz⟩ := box3 hres hb11 (show w.heap.size ≤ w.heap.size + 2 by omega) r.op r.n A9 r.k.len c9 (HT10.out.lower (base' := w.heap.size) (by have h2 := HB2.out.size; have h3 := HRZ.out.size; omega)) hnb
          have HBZ := Lib.hid hbz
          have HTZ := Lib.hid htz
          have q0 := hyy.cell (i := 0) rfl
          have q1 := hyy.cell (i := 1) rfl
          have q2 := hyy.cell (i := 2) rfl
          clear hyy hb11 hres hnb hbz htz
          go_wp2_with fail
          refine bodyPost_ret (v := .tuple #[.agg #[.int .i64 r.op, .int .i64 r.n, .slice A9 r.k.len c9], .bool true]) ?_ rfl (by rw [HZ.out]; exact ⟨A9, c9, bs9, rfl, HTZ.out, HBZ.out⟩)
          simp [results, Try.f20, go_sem, r0, r1, r2]
end Go.Proofs.Ytkdjjkkcejijnaa
