/-
  The paths at which two nodes differ, as data.
  impl.differences, impl.DiffPaths.
-/
import Derived.Test.YtdpiklnadhpjjaaPathsS
import Derived.Deep.RegionHeld3
namespace Go.Proofs.Ytdpiklnadhpjjaa
open Go.RowKit Go.Shelf
set_option maxRecDepth 100000

/-- append whose run is known, as one step of a region that draws its order. -/
theorem step_ran {P : Program} {ops : Array Oper} {o : Oper} {a : Act} {w w1 : World} {K : Act → World → Prop} {Q : Exit → Act → World → Prop} {E : Prop} (hgd : o.guard = none) (s x : Operand) (t : TypeId)
    (ho : o.op = .call { callee := .builtin .append, args := #[s, x], argTypes := #[t, t] }) (v u v1 : Value) (hs : a.eval s = v) (hx : a.eval x = u) (hrun : (Builtin.append_ #[t, t] o.type #[v, u]).run P w = .ok v1 w1)
    (h : K (a.put o.dst v1) w1) : if Region.wanted o (yielded ops a.tmps) = true then Oper.wp P o a w K Q else E := by
  have hw : Region.wanted o (yielded ops a.tmps) = true := by simp [Region.wanted, hgd]
  rw [if_pos hw]
  unfold Oper.wp execOp
  simp only [ho, resolve, invoke, builtin, Sem.run_bind, Sem.run_pure, Result.andThen_ok, List.map_toArray, List.map_cons, List.map_nil, hs, hx, hrun]
  exact h

/-- The paths at which the nodes of two lists of the same length differ. -/
def diffK : Fo → Fo → Nat → List (List Int)
  | .cons o m k r, .cons o' m' k' r', i => (if o = o' ∧ m = m' ∧ k.len = k'.len then diffK k k' 0 else [[]]).map (List.cons (i : Int)) ++ diffK r r' (i + 1)
  | .nil, _, _ => []
  | .cons _ _ _ _, .nil, _ => []
def diffP (p q : Nd) : List (List Int) := if p.op = q.op ∧ p.n = q.n ∧ p.k.len = q.k.len then diffK p.k q.k 0 else [[]]
theorem diffK_cons {o m o' m' : Int} {k k' r r' : Fo} {i : Nat} : diffK (.cons o m k r) (.cons o' m' k' r') i = (diffP ⟨o, m, k⟩ ⟨o', m', k'⟩).map (List.cons (i : Int)) ++ diffK r r' (i + 1) := by simp only [diffK, diffP]
theorem diffK_len : ∀ (f g : Fo) (i : Nat), (diffK f g i).length ≤ f.size
  | .nil, _, _ => by simp [diffK]
  | .cons _ _ _ _, .nil, _ => by simp [diffK]
  | .cons o m k r, .cons o' m' k' r', i => by
    have h1 := diffK_len k k' 0
    have h2 := diffK_len r r' (i + 1)
    simp only [diffK, List.length_append, List.length_map, Fo.size]
    split
    · omega
    · simp; omega
theorem diffP_len (p q : Nd) : (diffP p q).length ≤ p.k.size + 1 := by
  unfold diffP
  split
  · have := diffK_len p.k q.k 0; omega
  · simp
theorem diffK_short : ∀ (f g : Fo) (i : Nat) (zs : List Int), zs ∈ diffK f g i → zs.length ≤ f.size
  | .nil, _, _, zs, h => by simp [diffK] at h
  | .cons _ _ _ _, .nil, _, zs, h => by simp [diffK] at h
  | .cons o m k r, .cons o' m' k' r', i, zs, h => by
    simp only [diffK, List.mem_append, List.mem_map] at h
    simp only [Fo.size]
    rcases h with ⟨y, hy, rfl⟩ | h
    · split at hy
      · have := diffK_short k k' 0 y hy
        simp only [List.length_cons]; omega
      · simp at hy
        subst hy
        simp
    · have := diffK_short r r' (i + 1) zs h
      omega
theorem diffP_short {p q : Nd} {zs : List Int} (h : zs ∈ diffP p q) : zs.length ≤ p.k.size := by
  unfold diffP at h
  split at h
  · exact diffK_short _ _ _ zs h
  · simp at h; subst h; simp
theorem diffK_drop {f g : Fo} {j : Nat} {o m o' m' : Int} {k k' : Fo} (e : f.drop j = .cons o m k (f.drop (j + 1))) (e' : g.drop j = .cons o' m' k' (g.drop (j + 1))) :
    diffK (f.drop j) (g.drop j) j = (diffP ⟨o, m, k⟩ ⟨o', m', k'⟩).map (List.cons (j : Int)) ++ diffK (f.drop (j + 1)) (g.drop (j + 1)) (j + 1) := by rw [e, e', diffK_cons]
theorem diffP_same {p q : Nd} (h1 : p.op = q.op) (h2 : p.n = q.n) (h3 : p.k.len = q.k.len) : diffP p q = diffK p.k q.k 0 := by unfold diffP; rw [if_pos ⟨h1, h2, h3⟩]
theorem diffP_not {p q : Nd} (h : ¬ (p.op = q.op ∧ p.n = q.n ∧ p.k.len = q.k.len)) : diffP p q = [[]] := by unfold diffP; rw [if_neg h]

set_option maxHeartbeats 4000000 in
theorem differences_any (m : Nat) : ∀ (op n op' n' : Int) (k k' : Fo) (A A' : Option Addr) (c c' : Nat) (w : World), k.size = m → Lies w 0 w.heap.size A 0 k → Lies w 0 w.heap.size A' 0 k' → k.size ≤ 500 → k'.len ≤ maxLen →
    Calls Try.prog 14 #[.agg #[.int .i64 op, .int .i64 n, .slice A k.len c], .agg #[.int .i64 op', .int .i64 n', .slice A' k'.len c']] w (PathsPost (diffP ⟨op, n, k⟩ ⟨op', n', k'⟩) w) := by
  induction m using Nat.strongRecOn with
  | _ m ih =>
    intro op n op' n' k k' A A' c c' w hm hl hl' hsz hk'
    have hlen := Fo.len_le_size k
    obtain ⟨hb, r1, r2⟩ := two_boxes w 25 25 #[Value.int IntKind.i64 op, Value.int IntKind.i64 n, Value.slice A k.len c] #[Value.int IntKind.i64 op', Value.int IntKind.i64 n', Value.slice A' k'.len c']
    obtain ⟨W, hW⟩ : ∃ W, W = (w.alloc (Obj.cells #[Value.int IntKind.i64 op, Value.int IntKind.i64 n, Value.slice A k.len c] 25)).alloc (Obj.cells #[Value.int IntKind.i64 op', Value.int IntKind.i64 n', Value.slice A' k'.len c'] 25) := ⟨_, rfl⟩
    rw [← hW] at hb r1 r2
    have HB := Lib.hid hb
    have HR1 := Lib.hid r1
    have HR2 := Lib.hid r2
    have q0 := r1.cell (i := 0) rfl
    have q1 := r1.cell (i := 1) rfl
    have q2 := r1.cell (i := 2) rfl
    have t0 := r2.cell (i := 0) rfl
    have t1 := r2.cell (i := 1) rfl
    have t2 := r2.cell (i := 2) rfl
    have HL := Lib.hid hl
    have HL' := Lib.hid hl'
    have hkm : k.len ≤ 9223372036854775807 := by omega
    have hkm' : k'.len ≤ 9223372036854775807 := by unfold maxLen at hk'; omega
    clear hb r1 r2 hl hl'
    -- where the nodes themselves differ
    have hdif : ∀ (hne : ¬ (op = op' ∧ n = n' ∧ k.len = k'.len)), PathsPost (diffP ⟨op, n, k⟩ ⟨op', n', k'⟩) w (.returned (.slice (some ⟨W.heap.size + 1, 0, none⟩) 1 1)) ((W.alloc (Obj.cells #[] 3)).alloc (Obj.cells #[Value.slice (some ⟨W.heap.size, 0, none⟩) 0 0] 34)) := fun hne => by
      rw [diffP_not hne]
      have h1 : Row ((W.alloc (Obj.cells #[] 3)).alloc (Obj.cells #[Value.slice (some ⟨W.heap.size, 0, none⟩) 0 0] 34)) W.heap.size 3 #[] := (Row.fresh _ _ _).alloc _
      have h2 : Row ((W.alloc (Obj.cells #[] 3)).alloc (Obj.cells #[Value.slice (some ⟨W.heap.size, 0, none⟩) 0 0] 34)) (W.heap.size + 1) 34 #[Value.slice (some ⟨W.heap.size, 0, none⟩) 0 0] := by
        have := Row.fresh (W.alloc (Obj.cells #[] 3)) 34 #[Value.slice (some ⟨W.heap.size, 0, none⟩) 0 0]
        rw [World.size_alloc] at this
        exact this
      exact ⟨_, _, _, rfl, OwnSS.start h1 h2 HB.out.size (Nat.le_trans HB.out.size (Nat.le_succ _)) (by omega), (HB.out.alloc HB.out.size _).alloc (by have := HB.out.size; simp; omega) _⟩
    have HDIF := Lib.hid hdif
    clear hdif
    by_cases h1 : op = op'
    · by_cases h2 : n = n'
      · by_cases h3 : k.len = k'.len
        · have HD := Lib.hid (diffP_same (p := ⟨op, n, k⟩) (q := ⟨op', n', k'⟩) h1 h2 h3)
          rw [HD.out]
          dsimp only
          subst h1 h2
          have HLE := Lib.hid h3
          have b1 : (op != op) = false := by simp
          have b2 : (n != n) = false := by simp
          have b3 : (k.len != k'.len) = false := by rw [h3]; simp
          clear h3
          go_enter Try.func14, Try.ntmps14
          go_upto_region 1 with fail
          rw [← hW]
          clear hW
          go_wp2_with fail
          clear q0 q1 q2 t0 t1 t2 HDIF b1 b2 b3
          go_loopw [5, 33] (fun v i wr => ∃ (j : Nat) (acc : List (List Int)) (bs : List Nat), j ≤ k.len ∧ i = .int .i64 (j : Int) ∧ acc ++ diffK (k.drop j) (k'.drop j) j = diffK k k' 0 ∧ OwnSS wr W.heap.size v acc bs ∧ Below W.heap.size W wr)
            (fun _ i _ => k.len - (intOf i).toNat)
          case atStart => exact ⟨0, [], [], Nat.zero_le _, rfl, by rw [Fo.drop_zero, Fo.drop_zero]; rfl, OwnSS.nil _ _, Below.refl _ _⟩
          case round =>
            obtain ⟨j, acc, bs, hj, rfl, hacc, ho, hbW⟩ := hrel
            have hb := HB.out.trans (hbW.mono HB.out.size)
            have hrow1 := HR1.out.below hbW HR1.out.size
            have hrow2 := HR2.out.below hbW HR2.out.size
            obtain ⟨Av, cv, rfl, _, _⟩ := ho.slice
            by_cases hlt : j < k.len
            · obtain ⟨o1, m1, k1, e1, e2, e3⟩ := Fo.drop_of_lt k j hlt
              obtain ⟨o1', m1', k1', e1', _, _⟩ := Fo.drop_of_lt k' j (by have := HLE.out; omega)
              have hj' := (HL.out.below hb).at_ j
              rw [Nat.zero_add, e1] at hj'
              obtain ⟨⟨b, o, A5, c5, hA, _, hbb, i1, i2, g1, g2, g3, x1, x2, x3⟩, _⟩ := hj'
              subst hA
              have hj'' := (HL'.out.below hb).at_ j
              rw [Nat.zero_add, e1'] at hj''
              obtain ⟨⟨b', o', A5', c5', hA, _, hbb', i1', i2', g1', g2', g3', x1', x2', x3'⟩, _⟩ := hj''
              subst hA
              rw [diffK_drop e1 e1', ← List.append_assoc] at hacc
              have hal := congrArg List.length hacc
              have hdl := diffK_len k k' 0
              rw [List.length_append, List.length_append, List.length_map] at hal
              have hpl := diffP_len ⟨o1, m1, k1⟩ ⟨o1', m1', k1'⟩
              have hps : ∀ zs, zs ∈ diffP ⟨o1, m1, k1⟩ ⟨o1', m1', k1'⟩ → zs.length ≤ 1000 := fun zs hz => Nat.le_trans (diffP_short hz) (by dsimp only; omega)
              dsimp only at hpl
              have hih := fun (w' : World) (hb' : Below wr.heap.size wr w') => ih k1.size (by omega) o1 m1 o1' m1' k1 k1' A5 A5' c5 c5' w' rfl ((x3.below (hb'.mono hb.size)).mono_ (Nat.le_refl _) (Nat.le_trans hb.size hb'.size)) ((x3'.below (hb'.mono hb.size)).mono_ (Nat.le_refl _) (Nat.le_trans hb.size hb'.size)) (by omega) (Nat.le_trans x1' x2')
              obtain ⟨p1, hp1⟩ : ∃ p1, p1 = diffP ⟨o1, m1, k1⟩ ⟨o1', m1', k1'⟩ := ⟨_, rfl⟩
              rw [← hp1] at hacc hal hpl hps hih
              obtain ⟨nw, hnw⟩ : ∃ nw, nw = p1.map (List.cons (j : Int)) := ⟨_, rfl⟩
              have hnl : nw.length = p1.length := by rw [hnw, List.length_map]
              rw [← hnw] at hacc
              obtain ⟨tot, htot⟩ : ∃ tot, tot = acc ++ nw := ⟨_, rfl⟩
              rw [← htot] at hacc
              have hS : ∀ w' : World, wr.grownBy w' (Value.slice Av acc.length cv).ownBlock → w'.cell? ⟨w.heap.size, 2, none⟩ = some (Value.slice (some ⟨b, o, none⟩) k.len c) ∧ w'.cell? ⟨b, o + j * 3, none⟩ = some (Value.int .i64 o1) ∧ w'.cell? ⟨b, o + j * 3 + 1, none⟩ = some (Value.int .i64 m1) ∧ w'.cell? ⟨b, o + j * 3 + 2, none⟩ = some (Value.slice A5 k1.len c5) ∧ w'.cell? ⟨w.heap.size + 1, 2, none⟩ = some (Value.slice (some ⟨b', o', none⟩) k'.len c') ∧ w'.cell? ⟨b', o' + j * 3, none⟩ = some (Value.int .i64 o1') ∧ w'.cell? ⟨b', o' + j * 3 + 1, none⟩ = some (Value.int .i64 m1') ∧ w'.cell? ⟨b', o' + j * 3 + 2, none⟩ = some (Value.slice A5' k1'.len c5') := fun w' hg => by
                have hown := ho.own
                have hk : ∀ p : Addr, p.block < w.heap.size → w'.cell? p = wr.cell? p := fun p hp => World.cell?_of_block (w := wr) (hg.block p.block (Nat.lt_of_lt_of_le hp hb.size) (fun e => by have := (ho.lt _ (hown _ e.symm)).1; have := HB.out.size; omega))
                have hne : ∀ g cs, Row wr g 25 cs → some g ≠ (Value.slice Av acc.length cv).ownBlock := fun g cs hr => by
                  obtain ⟨st, b1, h0, h1, _⟩ := ho
                  exact own_other_row h1 hr (by decide)
                exact ⟨(row_grown' hrow1 hg (hne _ _ hrow1)).cell (i := 2) rfl, (hk ⟨b, o + j * 3, none⟩ hbb).trans g1, (hk ⟨b, o + j * 3 + 1, none⟩ hbb).trans g2, (hk ⟨b, o + j * 3 + 2, none⟩ hbb).trans g3,
                  (row_grown' hrow2 hg (hne _ _ hrow2)).cell (i := 2) rfl, (hk ⟨b', o' + j * 3, none⟩ hbb').trans g1', (hk ⟨b', o' + j * 3 + 1, none⟩ hbb').trans g2', (hk ⟨b', o' + j * 3 + 2, none⟩ hbb').trans g3'⟩
              have HS := Lib.hid hS
              have HIH := Lib.hid hih
              have HNW := Lib.hid hnw
              have HNL := Lib.hid hnl
              have HTOT := Lib.hid htot
              have HPL := Lib.hid (show p1.length ≤ 1000 by omega)
              have HAL := Lib.hid (show acc.length + p1.length ≤ 1048576 by omega)
              have HPS := Lib.hid hps
              have HACC := Lib.hid hacc
              have HO := Lib.hid ho
              have HBW := Lib.hid hbW
              have HBR := Lib.hid hbW.size
              have HLT := Lib.hid (show ∀ z, z ∈ bs → z < wr.heap.size from fun z hz => (ho.lt z hz).2)
              have hlt' : j < k'.len := by have := HLE.out; omega
              clear hS hih hnw hnl htot hps hacc ho hbW hb hal hdl hpl hrow1 hrow2 x3 x3' g1 g2 g3 g1' g2' g3' e1 e1' i1 i2 i1' i2' ih hp1
              go_wp2_with fail
              have b0 : Below wr.heap.size wr wr.drew := (Below.refl _ _).drew
              have s0 := HS.out _ (grown_below b0)
              have HC1 := Lib.hid (HIH.out _ b0)
              have B0 := Lib.hid b0
              clear b0
              go_region_held3 (fun w' => w'.cell? ⟨w.heap.size, 2, none⟩ = some (Value.slice (some ⟨b, o, none⟩) k.len c) ∧ w'.cell? ⟨b, o + j * 3, none⟩ = some (Value.int .i64 o1) ∧ w'.cell? ⟨b, o + j * 3 + 1, none⟩ = some (Value.int .i64 m1) ∧ w'.cell? ⟨b, o + j * 3 + 2, none⟩ = some (Value.slice A5 k1.len c5) ∧ w'.cell? ⟨w.heap.size + 1, 2, none⟩ = some (Value.slice (some ⟨b', o', none⟩) k'.len c') ∧ w'.cell? ⟨b', o' + j * 3, none⟩ = some (Value.int .i64 o1') ∧ w'.cell? ⟨b', o' + j * 3 + 1, none⟩ = some (Value.int .i64 m1') ∧ w'.cell? ⟨b', o' + j * 3 + 2, none⟩ = some (Value.slice A5' k1'.len c5'))
                (first | with_reducible exact s0 | with_reducible exact s1 | with_reducible exact s2 | with_reducible exact s3 | fail)
                (first
                | (refine step_ran rfl (.tmp 36) (.tmp 49) 28 rfl _ _ _ rfl rfl HRUN.out ?_)
                | (go_at_call 25
                   with_reducible refine HC2.out.mono ?_
                   rintro e w6 ⟨A6, c6, bs6, rfl, ho6, hb6⟩
                   have b2 := B1.out.trans (hb6.mono B1.out.size)
                   obtain ⟨A7, c7, w7, bs7, hrun, ho7, hg7, hin7, _⟩ := (HO.out.over b2).append_own (ho6.lower (Nat.le_trans HBR.out B1.out.size)) (fun z h1 h2 => by have := HLT.out z h1; have := (ho6.lt z h2).1; have := B1.out.size; omega) (by have := HNL.out; have := HAL.out; omega) (Nat.le_trans HBR.out b2.size)
                   rw [← HTOT.out] at hrun ho7
                   have HRUN := Lib.hid (hrun 28)
                   have HO7 := Lib.hid ho7
                   have hg := grown_trans (grown_below b2) hg7 (.inl rfl)
                   have HB7 := Lib.hid (Below.grown (HBW.out.trans (b2.mono HBW.out.size)) hg7 (Nat.le_trans HBW.out.size b2.size) (fun z hz => (HO.out.lt z (HO.out.own z hz)).1))
                   have s2 := HS.out _ (grown_below b2)
                   have s3 := HS.out _ hg
                   clear ho6 hb6 b2 hrun ho7 hg7 hin7 hg)
                | (go_at_call 14
                   with_reducible refine HC1.out.mono ?_
                   rintro e w5 ⟨A6, c6, bs5, rfl, ho5, hb5⟩
                   have b1 := B0.out.trans (hb5.mono B0.out.size)
                   have hc2 := behind_any (j : Int) p1 A6 c6 w5 (by unfold I64; omega) ho5.lies0 HPL.out HPS.out
                   rw [← HNW.out] at hc2
                   have HC2 := Lib.hid hc2
                   have B1 := Lib.hid b1
                   have s1 := HS.out _ (grown_below b1)
                   clear ho5 hb5 b1 hc2)
                | fail)
              all_goals
                go_wp2_with fail
                go_roundw
                case rel => exact ⟨j + 1, tot, bs7, hlt, by go_num, HACC.out, HO7.out, HB7.out⟩
                case measure => simp [intOf]; omega
            · have e9 : j = k.len := by omega
              rw [e9, Fo.drop_len] at hacc
              have hacc2 : acc = diffK k k' 0 := by rw [← hacc]; simp [diffK]
              have HA2 := Lib.hid hacc2
              have HO := Lib.hid (ho.lower HB.out.size)
              have HBZ := Lib.hid hb
              clear ho hb hbW hacc hacc2 hrow1 hrow2
              go_wp2_with fail
              go_ret
              rw [← HA2.out]
              exact ⟨Av, cv, bs, rfl, HO.out, HBZ.out⟩
        · have HDD := Lib.hid (HDIF.out (fun h => h3 h.2.2))
          subst h1 h2
          have b1 : (op != op) = false := by simp
          have b2 : (n != n) = false := by simp
          have b3 : (k.len != k'.len) = true := by simpa using h3
          go_enter Try.func14, Try.ntmps14
          go_upto_region 1 with fail
          rw [← hW]
          clear hW
          go_wp2_with fail
          go_ret
          exact HDD.out
      · have HDD := Lib.hid (HDIF.out (fun h => h2 h.2.1))
        subst h1
        have b1 : (op != op) = false := by simp
        have b2 : (n != n') = true := by simpa using h2
        go_enter Try.func14, Try.ntmps14
        go_upto_region 1 with fail
        rw [← hW]
        clear hW
        go_wp2_with fail
        go_ret
        exact HDD.out
    · have HDD := Lib.hid (HDIF.out (fun h => h1 h.1))
      have b1 : (op != op') = true := by simpa using h1
      go_enter Try.func14, Try.ntmps14
      go_upto_region 1 with fail
      rw [← hW]
      clear hW
      go_wp2_with fail
      go_ret
      exact HDD.out
end Go.Proofs.Ytdpiklnadhpjjaa
