/-
  spec.l9Diff, spec.DiffPaths; impl.DiffPaths.
-/
import Derived.Test.YtdpiklnadhpjjaaDiffs
namespace Go.Proofs.Ytdpiklnadhpjjaa
open Go.RowKit Go.Shelf
set_option maxRecDepth 100000

theorem diffs_push (pz : List Int) (k k' : Fo) (j : Nat) {o m o' m' : Int} {k1 k1' : Fo} (e : k.drop j = .cons o m k1 (k.drop (j + 1))) (e' : k'.drop j = .cons o' m' k1' (k'.drop (j + 1))) :
    (diffK (k.drop j) (k'.drop j) j).map (pz ++ ·) = (diffP ⟨o, m, k1⟩ ⟨o', m', k1'⟩).map ((pz ++ [(j : Int)]) ++ ·) ++ (diffK (k.drop (j + 1)) (k'.drop (j + 1)) (j + 1)).map (pz ++ ·) := by
  rw [diffK_drop e e', List.map_append, List.map_map]
  congr 1
  refine List.map_congr_left fun z _ => ?_
  simp

/-- The post of a function that adds lists to a list of lists. -/
def PathsX (tot : List (List Int)) (v : Value) (base : Nat) (bs : List Nat) (w : World) (e : Ending) (w' : World) : Prop :=
  ∃ A' c' bs', e = .returned (.slice A' tot.length c') ∧ OwnSS w' base (.slice A' tot.length c') tot bs' ∧ w.grownBy w' v.ownBlock ∧ (∀ b, b ∈ bs' → b ∈ bs ∨ w.heap.size ≤ b) ∧ (A'.map Addr.block = v.ownBlock ∨ ∀ a, A' = some a → w.heap.size ≤ a.block)

set_option maxHeartbeats 4000000 in
theorem l9Diff_any (m : Nat) : ∀ (pre : List (List Int)) (bs : List Nat) (v : Value) (base : Nat) (op n op' n' : Int) (k k' : Fo) (A A' : Option Addr) (c cb : Nat) (pz : List Int) (Ap : Option Addr) (cp : Nat) (w : World), k.size = m → OwnSS w base v pre bs → base ≤ w.heap.size → Lies w 0 base A 0 k → Lies w 0 base A' 0 k' → k'.len ≤ maxLen →
    w.ownsRow base 3 1 (.slice Ap pz.length cp) pz.length (pz.map (Value.int .i64)) → (∀ y ∈ pz, I64 y) → pz.length + k.size ≤ 1000 → pre.length + k.size ≤ 100000 →
    Calls Try.prog 16 #[v, .agg #[.int .i64 op, .int .i64 n, .slice A k.len c], .agg #[.int .i64 op', .int .i64 n', .slice A' k'.len cb], .slice Ap pz.length cp] w (PathsX (pre ++ (diffP ⟨op, n, k⟩ ⟨op', n', k'⟩).map (pz ++ ·)) v base bs w) := by
  induction m using Nat.strongRecOn with
  | _ m ih =>
    intro pre bs v base op n op' n' k k' A A' c cb pz Ap cp w hm ho hbw hl hl' hk' hop hiz hpl hprel
    have hlen := Fo.len_le_size k
    obtain ⟨hb, r1, r2⟩ := two_boxes w 25 25 #[Value.int IntKind.i64 op, Value.int IntKind.i64 n, Value.slice A k.len c] #[Value.int IntKind.i64 op', Value.int IntKind.i64 n', Value.slice A' k'.len cb]
    obtain ⟨W, hW⟩ : ∃ W, W = (w.alloc (Obj.cells #[Value.int IntKind.i64 op, Value.int IntKind.i64 n, Value.slice A k.len c] 25)).alloc (Obj.cells #[Value.int IntKind.i64 op', Value.int IntKind.i64 n', Value.slice A' k'.len cb] 25) := ⟨_, rfl⟩
    rw [← hW] at hb r1 r2
    have HB := Lib.hid hb
    have HR1 := Lib.hid r1
    have HR2 := Lib.hid r2
    have q0 := r1.cell (i := 0) rfl
    have q1 := r1.cell (i := 1) rfl
    have q2 := r1.cell (i := 2) rfl
    have t0 := r2.cell (i := 0) rfl
    have t1 := r2.cell (i := 1) rfl
    have t2 := r2.cell (i := 2) rfl
    have HL := Lib.hid hl
    have HL' := Lib.hid hl'
    have hkm : k.len ≤ 9223372036854775807 := by omega
    have hkm' : k'.len ≤ 9223372036854775807 := by unfold maxLen at hk'; omega
    have hvne : ∀ g, (∃ cs, Row w g 3 cs) → some g ≠ v.ownBlock := fun g ⟨cs, hr⟩ e => by
      obtain ⟨st, b1, h0, h1, _⟩ := ho
      exact own_other_row h1 hr (by decide) e
    have hpne : ∀ g, (Value.slice Ap pz.length cp).ownBlock = some g → some g ≠ v.ownBlock := fun g hg => by
      rcases hop.2 with ⟨hv, _⟩ | ⟨g2, cap, cur, hv, _, hh, _⟩
      · rw [hv] at hg; cases hg
      · rw [hv] at hg
        have : g2 = g := Option.some.inj hg
        subst this
        exact hvne g2 ⟨cur, hh⟩
    have hvb : ∀ g, v.ownBlock = some g → base ≤ g ∧ g < w.heap.size := fun g hg => ho.lt g (ho.own g hg)
    have HO0 := Lib.hid ho
    have HOP := Lib.hid hop
    have HIZ := Lib.hid hiz
    have HPNE := Lib.hid hpne
    have HVB := Lib.hid hvb
    have IH := Lib.hid ih
    clear hb r1 r2 hl hl' hvne hpne hvb ho hop hiz ih
    by_cases hsame : op = op' ∧ n = n' ∧ k.len = k'.len
    · obtain ⟨h1, h2, h3⟩ := hsame
      have HD := Lib.hid (diffP_same (p := ⟨op, n, k⟩) (q := ⟨op', n', k'⟩) h1 h2 h3)
      rw [HD.out]
      dsimp only
      subst h1 h2
      have HLE := Lib.hid h3
      have b1 : (op != op) = false := by simp
      have b2 : (n != n) = false := by simp
      have b3 : ((k.len : Int) != (k'.len : Int)) = false := by rw [h3]; simp
      clear h3 HD
      obtain ⟨goal, hgoal⟩ : ∃ z, z = pre ++ (diffK k k' 0).map (pz ++ ·) := ⟨_, rfl⟩
      have HST := Lib.hid (show pre ++ (diffK (k.drop 0) (k'.drop 0) 0).map (pz ++ ·) = goal by rw [hgoal, Fo.drop_zero, Fo.drop_zero])
      have hgl : goal.length ≤ pre.length + k.size := by rw [hgoal, List.length_append, List.length_map]; have := diffK_len k k' 0; omega
      unfold PathsX
      rw [← hgoal]
      have HGL := Lib.hid hgl
      obtain ⟨Av, cv, rfl, _, _⟩ := HO0.out.slice
      clear hgoal hgl
      go_enter Try.func16, Try.ntmps16
      go_upto_region 1 with fail
      rw [← hW]
      clear hW
      go_wp2_with fail
      clear q0 q1 q2 t0 t1 t2 b1 b2 b3
      go_loopw [0, 9] (fun x i wr => ∃ (j : Nat) (acc : List (List Int)) (bs' : List Nat) (Al : Option Addr) (cl : Nat), j ≤ k.len ∧ i = .int .i64 (j : Int) ∧ x = .slice Al acc.length cl ∧ OwnSS wr base (.slice Al acc.length cl) acc bs' ∧ acc ++ (diffK (k.drop j) (k'.drop j) j).map (pz ++ ·) = goal ∧ acc.length + (k.drop j).size ≤ pre.length + k.size ∧
          w.grownBy wr (Value.slice Av pre.length cv).ownBlock ∧ Row wr w.heap.size 25 #[Value.int IntKind.i64 op, Value.int IntKind.i64 n, Value.slice A k.len c] ∧ Row wr (w.heap.size + 1) 25 #[Value.int IntKind.i64 op, Value.int IntKind.i64 n, Value.slice A' k'.len cb] ∧ (∀ b, b ∈ bs' → b ∈ bs ∨ w.heap.size ≤ b) ∧ (Al.map Addr.block = (Value.slice Av pre.length cv).ownBlock ∨ ∀ a, Al = some a → w.heap.size ≤ a.block))
        (fun _ i _ => k.len - (intOf i).toNat)
      case atStart => exact ⟨0, pre, bs, Av, cv, Nat.zero_le _, rfl, rfl, HO0.out.over HB.out, HST.out, by rw [Fo.drop_zero]; exact Nat.le_refl _, grown_below HB.out, HR1.out, HR2.out, fun z hz => .inl hz, .inl (by cases Av <;> rfl)⟩
      case round =>
        obtain ⟨j, acc, bs', Al, cl, hj, rfl, rfl, ho, hst, hacl, hgr, hre, hre', hin, hv⟩ := hrel
        by_cases hlt : j < k.len
        · have hlt' : j < k'.len := by have := HLE.out; omega
          obtain ⟨o1, m1, k1, e1, e2, e3⟩ := Fo.drop_of_lt k j hlt
          obtain ⟨o1', m1', k1', e1', _, _⟩ := Fo.drop_of_lt k' j hlt'
          have hbc : ∀ p : Addr, p.block < base → wr.cell? p = w.cell? p := fun p hp => World.cell?_of_block (w := w) (hgr.block p.block (by omega) (fun e => by have := (HVB.out p.block e.symm).1; omega))
          have hlr : Lies wr 0 base A 0 k := HL.out.keep (Nat.le_refl _) (Nat.le_refl _) fun p _ hp => hbc p hp
          have hlr' : Lies wr 0 base A' 0 k' := HL'.out.keep (Nat.le_refl _) (Nat.le_refl _) fun p _ hp => hbc p hp
          have hj' := hlr.at_ j
          rw [Nat.zero_add, e1] at hj'
          obtain ⟨⟨b, o, A5, c5, hA, _, hbb, i1, i2, g1, g2, g3, x1, x2, h3⟩, _⟩ := hj'
          subst hA
          have hj'' := hlr'.at_ j
          rw [Nat.zero_add, e1'] at hj''
          obtain ⟨⟨b', o', A5', c5', hA, _, hbb', i1', i2', g1', g2', g3', x1', x2', h3'⟩, _⟩ := hj''
          subst hA
          have hopr : wr.ownsRow base 3 1 (.slice Ap pz.length cp) pz.length (pz.map (Value.int .i64)) := own_at HOP.out fun g hg => hgr.block g (HOP.out.lt g hg).2 (HPNE.out g hg)
          obtain ⟨pj, hpj⟩ : ∃ z, z = pz ++ [(j : Int)] := ⟨_, rfl⟩
          have hpjl : pj.length + k1.size ≤ 1000 := by rw [hpj]; simp; omega
          obtain ⟨acc2, hacc2⟩ : ∃ z, z = acc ++ (diffP ⟨o1, m1, k1⟩ ⟨o1', m1', k1'⟩).map (pj ++ ·) := ⟨_, rfl⟩
          have hst2 := hst
          rw [diffs_push pz k k' j e1 e1', ← List.append_assoc, ← hpj, ← hacc2] at hst2
          have hdl := diffP_len ⟨o1, m1, k1⟩ ⟨o1', m1', k1'⟩
          dsimp only at hdl
          have HAC2 := Lib.hid (show acc2.length + (k.drop (j + 1)).size ≤ pre.length + k.size by rw [hacc2, List.length_append, List.length_map]; omega)
          have hbr : base ≤ wr.heap.size := Nat.le_trans hbw hgr.size
          have hown := ho.own
          have hne0 : ∀ g cs, Row wr g 25 cs → some g ≠ (Value.slice Al acc.length cl).ownBlock := fun g cs hr => by
            obtain ⟨st, b1, h0, h1, _⟩ := ho
            exact own_other_row h1 hr (by decide)
          have hS : ∀ w' : World, wr.grownBy w' (Value.slice Al acc.length cl).ownBlock → w'.cell? ⟨w.heap.size, 2, none⟩ = some (Value.slice (some ⟨b, o, none⟩) k.len c) ∧ w'.cell? ⟨b, o + j * 3, none⟩ = some (Value.int .i64 o1) ∧ w'.cell? ⟨b, o + j * 3 + 1, none⟩ = some (Value.int .i64 m1) ∧ w'.cell? ⟨b, o + j * 3 + 2, none⟩ = some (Value.slice A5 k1.len c5) ∧ w'.cell? ⟨w.heap.size + 1, 2, none⟩ = some (Value.slice (some ⟨b', o', none⟩) k'.len cb) ∧ w'.cell? ⟨b', o' + j * 3, none⟩ = some (Value.int .i64 o1') ∧ w'.cell? ⟨b', o' + j * 3 + 1, none⟩ = some (Value.int .i64 m1') ∧ w'.cell? ⟨b', o' + j * 3 + 2, none⟩ = some (Value.slice A5' k1'.len c5') := fun w' hg => by
            have hk : ∀ p : Addr, p.block < base → w'.cell? p = wr.cell? p := fun p hp => World.cell?_of_block (w := wr) (hg.block p.block (by omega) (fun e => by have := (ho.lt _ (hown _ e.symm)).1; omega))
            exact ⟨(row_grown' hre hg (hne0 _ _ hre)).cell (i := 2) rfl, (hk ⟨b, o + j * 3, none⟩ hbb).trans g1, (hk ⟨b, o + j * 3 + 1, none⟩ hbb).trans g2, (hk ⟨b, o + j * 3 + 2, none⟩ hbb).trans g3,
              (row_grown' hre' hg (hne0 _ _ hre')).cell (i := 2) rfl, (hk ⟨b', o' + j * 3, none⟩ hbb').trans g1', (hk ⟨b', o' + j * 3 + 1, none⟩ hbb').trans g2', (hk ⟨b', o' + j * 3 + 2, none⟩ hbb').trans g3'⟩
          have hji : I64 (j : Int) := by unfold I64; omega
          have HS := Lib.hid hS
          have HJ := Lib.hid hji
          have HPJ := Lib.hid hpj
          have HPJL := Lib.hid hpjl
          have HIJ := Lib.hid (show ∀ y ∈ pj, I64 y from fun y hy => by
            rw [hpj] at hy
            rcases List.mem_append.1 hy with h | h
            · exact HIZ.out y h
            · simp at h; subst h; exact hji)
          have HACC2 := Lib.hid hacc2
          have HNE := Lib.hid hne0
          have HAL := Lib.hid (show acc.length + k1.size ≤ 100000 by omega)
          have HBR := Lib.hid hbr
          have HO := Lib.hid ho
          have HST2 := Lib.hid hst2
          have HGR := Lib.hid hgr
          have HRE := Lib.hid hre
          have HRE' := Lib.hid hre'
          have HIN := Lib.hid hin
          have HV := Lib.hid hv
          have HLK := Lib.hid h3
          have HLK' := Lib.hid h3'
          have HKM := Lib.hid (Nat.le_trans x1' x2')
          have HPZ := Lib.hid (show ∀ w' : World, Below wr.heap.size wr w' → LiesI w' 0 w'.heap.size Ap pz from fun w' hb => ((own_liesS hopr HIZ.out).mono_ (Nat.zero_le _) (Nat.le_refl _)).up hb)
          have q2 := hre.cell (i := 2) rfl
          clear hpj hpjl hacc2 hst2 hst hdl hacl hown hne0 hS hji ho hgr hre hre' hin hv h3 h3' hopr hlr hlr' hbc g1 g2 g3 g1' g2' g3' e1 e1' i1 i2 i1' i2'
          go_wp2_with fail
          clear q2
          have bz : Below wr.heap.size wr (wr.alloc (Obj.cells #[] 3)).drew := ((Below.refl _ _).alloc (Nat.le_refl _) _).drew
          have by_ : Below wr.heap.size wr (wr.alloc (Obj.cells #[Value.int .i64 (j : Int)] 3)).drew := ((Below.refl _ _).alloc (Nat.le_refl _) _).drew
          have byz : Below wr.heap.size wr ((wr.alloc (Obj.cells #[Value.int .i64 (j : Int)] 3)).alloc (Obj.cells #[] 3)).drew := (((Below.refl _ _).alloc (Nat.le_refl _) _).alloc (by simp) _).drew
          have bzy : Below wr.heap.size wr ((wr.alloc (Obj.cells #[] 3)).alloc (Obj.cells #[Value.int .i64 (j : Int)] 3)).drew := (((Below.refl _ _).alloc (Nat.le_refl _) _).alloc (by simp) _).drew
          have s0 := HS.out _ (grown_below ((Below.refl wr.heap.size wr).drew))
          have sz := HS.out _ (grown_below bz)
          have sy := HS.out _ (grown_below by_)
          have syz := HS.out _ (grown_below byz)
          have szy := HS.out _ (grown_below bzy)
          have RZ := Lib.hid (show Row (wr.alloc (Obj.cells #[] 3)).drew wr.heap.size 3 #[] from (Row.fresh _ _ _).drew)
          have RZ2 := Lib.hid (show Row ((wr.alloc (Obj.cells #[] 3)).alloc (Obj.cells #[Value.int .i64 (j : Int)] 3)).drew wr.heap.size 3 #[] from ((Row.fresh _ _ _).alloc _).drew)
          have RY2 := Lib.hid (show Row ((wr.alloc (Obj.cells #[Value.int .i64 (j : Int)] 3)).alloc (Obj.cells #[] 3)).drew wr.heap.size 3 #[Value.int .i64 (j : Int)] from ((Row.fresh _ _ _).alloc _).drew)
          have RZ3 := Lib.hid (show Row ((wr.alloc (Obj.cells #[Value.int .i64 (j : Int)] 3)).alloc (Obj.cells #[] 3)).drew (wr.heap.size + 1) 3 #[] from by
            have := Row.fresh (wr.alloc (Obj.cells #[Value.int .i64 (j : Int)] 3)) 3 #[]
            rw [World.size_alloc] at this
            exact this.drew)
          have RY3 := Lib.hid (show Row ((wr.alloc (Obj.cells #[] 3)).alloc (Obj.cells #[Value.int .i64 (j : Int)] 3)).drew (wr.heap.size + 1) 3 #[Value.int .i64 (j : Int)] from by
            have := Row.fresh (wr.alloc (Obj.cells #[] 3)) 3 #[Value.int .i64 (j : Int)]
            rw [World.size_alloc] at this
            exact this.drew)
          have BZ := Lib.hid bz
          have BYZ := Lib.hid byz
          have BZY := Lib.hid bzy
          clear bz by_ byz bzy
          go_region_held3 (fun w' => w'.cell? ⟨w.heap.size, 2, none⟩ = some (Value.slice (some ⟨b, o, none⟩) k.len c) ∧ w'.cell? ⟨b, o + j * 3, none⟩ = some (Value.int .i64 o1) ∧ w'.cell? ⟨b, o + j * 3 + 1, none⟩ = some (Value.int .i64 m1) ∧ w'.cell? ⟨b, o + j * 3 + 2, none⟩ = some (Value.slice A5 k1.len c5) ∧ w'.cell? ⟨w.heap.size + 1, 2, none⟩ = some (Value.slice (some ⟨b', o', none⟩) k'.len cb) ∧ w'.cell? ⟨b', o' + j * 3, none⟩ = some (Value.int .i64 o1') ∧ w'.cell? ⟨b', o' + j * 3 + 1, none⟩ = some (Value.int .i64 m1') ∧ w'.cell? ⟨b', o' + j * 3 + 2, none⟩ = some (Value.slice A5' k1'.len c5'))
            (first | with_reducible exact s0 | with_reducible exact sz | with_reducible exact sy | with_reducible exact syz | with_reducible exact szy | with_reducible exact s29 | with_reducible exact s29l | with_reducible exact s32 | with_reducible exact s33 | fail)
            (first
                | (go_at_call 16
                   with_reducible refine HC.out.mono ?_
                   rintro e w33 ⟨A6, c6, bs6, rfl, ho6, hg6, hin6, hv6⟩
                   have hg := grown_trans (grown_below B32.out) hg6 (.inl rfl)
                   have s33 := HS.out _ hg
                   have HEND := Lib.hid (show ∃ bs2 A2 c2, Value.slice A6 acc2.length c6 = Value.slice A2 acc2.length c2 ∧ OwnSS w33 base (.slice A2 acc2.length c2) acc2 bs2 ∧ wr.grownBy w33 (Value.slice Al acc.length cl).ownBlock ∧ (∀ z, z ∈ bs2 → z ∈ bs' ∨ wr.heap.size ≤ z) ∧ (A2.map Addr.block = (Value.slice Al acc.length cl).ownBlock ∨ ∀ a, A2 = some a → wr.heap.size ≤ a.block) from ⟨bs6, A6, c6, rfl, ho6, hg, fun z hz => (hin6 z hz).imp id (Nat.le_trans B32.out.size), hv6.imp id fun h a ha => Nat.le_trans B32.out.size (h a ha)⟩)
                   clear ho6 hg6 hin6 hv6 hg)
                | (refine step_lies rfl (.tmp 57) (.tmp 59) rfl rfl wr.heap.size v29 pz.length (pz.map (Value.int .i64)) rfl HO29.out [(j : Int)] (some ⟨wr.heap.size, 0, none⟩) 1 0 w29.heap.size rfl (lies_one RYa.out HJ.out) (by simp; omega) B29.out.size ?_
                   intro v32 w32 ho32 hg32 _
                   have b32 := Below.grown B29.out hg32 B29.out.size (fun g' hg' => (HO29.out.lt g' hg').1)
                   have h9 : w32.ownsRow wr.heap.size 3 1 v32 pj.length (pj.map (Value.int .i64)) := by rw [HPJ.out]; simpa using ho32
                   obtain ⟨A9, c9, rfl, _, _⟩ := own_slice h9
                   have hc := IH.out k1.size (by omega) acc bs' (.slice Al acc.length cl) base o1 m1 o1' m1' k1 k1' A5 A5' c5 c5' pj A9 c9 w32 rfl (HO.out.over b32) (Nat.le_trans HBR.out b32.size) (HLK.out.below (b32.mono HBR.out)) (HLK'.out.below (b32.mono HBR.out)) HKM.out (own_less h9 HBR.out) HIJ.out HPJL.out HAL.out
                   unfold PathsX at hc
                   rw [← HACC2.out] at hc
                   have HC := Lib.hid hc
                   have B32 := Lib.hid b32
                   have s32 := HS.out _ (grown_below b32)
                   clear ho32 hg32 b32 h9 hc)
                | (refine step_lies rfl (.tmp 57) (.tmp 59) rfl rfl wr.heap.size v29 pz.length (pz.map (Value.int .i64)) rfl HO29.out [(j : Int)] (some ⟨wr.heap.size + 1, 0, none⟩) 1 0 w29.heap.size rfl (lies_one RYb.out HJ.out) (by simp; omega) B29.out.size ?_
                   intro v32 w32 ho32 hg32 _
                   have b32 := Below.grown B29.out hg32 B29.out.size (fun g' hg' => (HO29.out.lt g' hg').1)
                   have h9 : w32.ownsRow wr.heap.size 3 1 v32 pj.length (pj.map (Value.int .i64)) := by rw [HPJ.out]; simpa using ho32
                   obtain ⟨A9, c9, rfl, _, _⟩ := own_slice h9
                   have hc := IH.out k1.size (by omega) acc bs' (.slice Al acc.length cl) base o1 m1 o1' m1' k1 k1' A5 A5' c5 c5' pj A9 c9 w32 rfl (HO.out.over b32) (Nat.le_trans HBR.out b32.size) (HLK.out.below (b32.mono HBR.out)) (HLK'.out.below (b32.mono HBR.out)) HKM.out (own_less h9 HBR.out) HIJ.out HPJL.out HAL.out
                   unfold PathsX at hc
                   rw [← HACC2.out] at hc
                   have HC := Lib.hid hc
                   have B32 := Lib.hid b32
                   have s32 := HS.out _ (grown_below b32)
                   clear ho32 hg32 b32 h9 hc)
                | (refine step_lies rfl (.tmp 57) (.tmp 59) rfl rfl wr.heap.size v29 pz.length (pz.map (Value.int .i64)) rfl (HO29.out.alloc _) [(j : Int)] (some ⟨w29.heap.size, 0, none⟩) 1 0 (w29.alloc (Obj.cells #[Value.int .i64 (j : Int)] 3)).heap.size rfl (lies_one (Row.fresh w29 3 #[Value.int .i64 (j : Int)]) HJ.out) (by simp; omega) B29L.out.size ?_
                   intro v32 w32 ho32 hg32 _
                   have b32 := Below.grown B29L.out hg32 B29L.out.size (fun g' hg' => (HO29.out.lt g' hg').1)
                   have h9 : w32.ownsRow wr.heap.size 3 1 v32 pj.length (pj.map (Value.int .i64)) := by rw [HPJ.out]; simpa using ho32
                   obtain ⟨A9, c9, rfl, _, _⟩ := own_slice h9
                   have hc := IH.out k1.size (by omega) acc bs' (.slice Al acc.length cl) base o1 m1 o1' m1' k1 k1' A5 A5' c5 c5' pj A9 c9 w32 rfl (HO.out.over b32) (Nat.le_trans HBR.out b32.size) (HLK.out.below (b32.mono HBR.out)) (HLK'.out.below (b32.mono HBR.out)) HKM.out (own_less h9 HBR.out) HIJ.out HPJL.out HAL.out
                   unfold PathsX at hc
                   rw [← HACC2.out] at hc
                   have HC := Lib.hid hc
                   have B32 := Lib.hid b32
                   have s32 := HS.out _ (grown_below b32)
                   clear ho32 hg32 b32 h9 hc)
                | (refine step_lies rfl (.tmp 55) (.tmp 56) rfl rfl wr.heap.size (.slice (some ⟨wr.heap.size + 1, 0, none⟩) 0 0) 0 [] rfl (own_empty RZ3.out (by first | exact Nat.le_refl _ | exact Nat.le_succ _)) pz Ap cp 0 ((wr.alloc (Obj.cells #[Value.int .i64 (j : Int)] 3)).alloc (Obj.cells #[] 3)).drew.heap.size rfl (HPZ.out _ BYZ.out) (by omega) (by first | (simp; done) | (simp; omega)) ?_
                   intro v29 w29 ho29 hg29 _
                   have b29 := Below.grown BYZ.out hg29 (BYZ.out).size (fun g' hg' => (own_empty RZ3.out (base := wr.heap.size) (by first | exact Nat.le_refl _ | exact Nat.le_succ _)).lt g' hg' |>.1)
                   have HO29 := Lib.hid (show w29.ownsRow wr.heap.size 3 1 v29 pz.length (pz.map (Value.int .i64)) from by simpa using ho29)
                   have RYa := Lib.hid (row_grown' RY2.out hg29 (fun e => by have e2 : wr.heap.size = wr.heap.size + 1 := Option.some.inj e; omega))
                   have B29 := Lib.hid b29
                   have B29L := Lib.hid (b29.alloc b29.size (Obj.cells #[Value.int .i64 (j : Int)] 3))
                   have s29 := HS.out _ (grown_below b29)
                   have s29l := HS.out _ (grown_below B29L.out)
                   clear ho29 hg29 b29)
                | (refine step_lies rfl (.tmp 55) (.tmp 56) rfl rfl wr.heap.size (.slice (some ⟨wr.heap.size, 0, none⟩) 0 0) 0 [] rfl (own_empty RZ2.out (by first | exact Nat.le_refl _ | exact Nat.le_succ _)) pz Ap cp 0 ((wr.alloc (Obj.cells #[] 3)).alloc (Obj.cells #[Value.int .i64 (j : Int)] 3)).drew.heap.size rfl (HPZ.out _ BZY.out) (by omega) (by first | (simp; done) | (simp; omega)) ?_
                   intro v29 w29 ho29 hg29 _
                   have b29 := Below.grown BZY.out hg29 (BZY.out).size (fun g' hg' => (own_empty RZ2.out (base := wr.heap.size) (by first | exact Nat.le_refl _ | exact Nat.le_succ _)).lt g' hg' |>.1)
                   have HO29 := Lib.hid (show w29.ownsRow wr.heap.size 3 1 v29 pz.length (pz.map (Value.int .i64)) from by simpa using ho29)
                   have RYb := Lib.hid (row_grown' RY3.out hg29 (fun e => by have e2 : wr.heap.size + 1 = wr.heap.size := Option.some.inj e; omega))
                   have B29 := Lib.hid b29
                   have B29L := Lib.hid (b29.alloc b29.size (Obj.cells #[Value.int .i64 (j : Int)] 3))
                   have s29 := HS.out _ (grown_below b29)
                   have s29l := HS.out _ (grown_below B29L.out)
                   clear ho29 hg29 b29)
                | (refine step_lies rfl (.tmp 55) (.tmp 56) rfl rfl wr.heap.size (.slice (some ⟨wr.heap.size, 0, none⟩) 0 0) 0 [] rfl (own_empty RZ.out (by first | exact Nat.le_refl _ | exact Nat.le_succ _)) pz Ap cp 0 (wr.alloc (Obj.cells #[] 3)).drew.heap.size rfl (HPZ.out _ BZ.out) (by omega) (by first | (simp; done) | (simp; omega)) ?_
                   intro v29 w29 ho29 hg29 _
                   have b29 := Below.grown BZ.out hg29 (BZ.out).size (fun g' hg' => (own_empty RZ.out (base := wr.heap.size) (by first | exact Nat.le_refl _ | exact Nat.le_succ _)).lt g' hg' |>.1)
                   have HO29 := Lib.hid (show w29.ownsRow wr.heap.size 3 1 v29 pz.length (pz.map (Value.int .i64)) from by simpa using ho29)

                   have B29 := Lib.hid b29
                   have B29L := Lib.hid (b29.alloc b29.size (Obj.cells #[Value.int .i64 (j : Int)] 3))
                   have s29 := HS.out _ (grown_below b29)
                   have s29l := HS.out _ (grown_below B29L.out)
                   clear ho29 hg29 b29)
                | fail)
          all_goals
            go_wp2_with fail
            go_roundw
            case rel =>
              obtain ⟨bs2, A2, c2, he, ho2, hg2, hin2, hv2⟩ := HEND.out
              injection he with he1 _ he3
              subst he1 he3
              refine ⟨j + 1, acc2, bs2, A6, c6, hlt, by go_num, rfl, ho2, HST2.out, HAC2.out, grown_trans HGR.out hg2 ?_, row_grown' HRE.out hg2 (HNE.out _ _ HRE.out), row_grown' HRE'.out hg2 (HNE.out _ _ HRE'.out), fun z hz => ?_, ?_⟩
              · rcases HV.out with h | h
                · exact .inl (by rw [← h]; cases Al <;> rfl)
                · refine .inr fun g hg => ?_
                  cases Al with
                  | none => cases hg
                  | some a => exact (Option.some.inj hg) ▸ h a rfl
              · rcases hin2 z hz with h | h
                · exact HIN.out z h
                · exact .inr (Nat.le_trans HGR.out.size h)
              · rcases hv2 with h | h
                · rcases HV.out with h1 | h1
                  · exact .inl (by rw [← h1, h]; cases Al <;> rfl)
                  · refine .inr fun a ha => ?_
                    subst ha
                    cases Al with
                    | none => cases h
                    | some a' =>
                      have h : some a.block = some a'.block := h
                      injection h with h
                      rw [h]
                      exact h1 a' rfl
                · exact .inr fun a ha => Nat.le_trans HGR.out.size (h a ha)
            case measure => simp [intOf]; omega
        · have e9 : j = k.len := by omega
          rw [e9, Fo.drop_len] at hst
          have hst2 : acc = goal := by rw [← hst]; simp [diffK]
          subst hst2
          have HO := Lib.hid ho
          have HGR := Lib.hid hgr
          have HIN := Lib.hid hin
          have HV := Lib.hid hv
          have q2 := hre.cell (i := 2) rfl
          clear ho hst hgr hre hre' hin hv
          go_wp2_with fail
          go_ret
          exact ⟨Al, cl, bs', rfl, HO.out, HGR.out, HIN.out, HV.out⟩
    · -- the nodes differ: the path itself
      have HD := Lib.hid (show (diffP ⟨op, n, k⟩ ⟨op', n', k'⟩).map (pz ++ ·) = [pz] by rw [diffP_not hsame]; simp)
      rw [HD.out]
      have hr3 : Row (W.alloc (Obj.cells #[] 3)) W.heap.size 3 #[] := Row.fresh _ _ _
      have hbW3 : Below W.heap.size W (W.alloc (Obj.cells #[] 3)) := (Below.refl _ _).alloc (Nat.le_refl _) _
      have hbw3 := HB.out.trans (hbW3.mono HB.out.size)
      have hlz : LiesI (W.alloc (Obj.cells #[] 3)) 0 (W.alloc (Obj.cells #[] 3)).heap.size Ap pz := (own_liesS (own_below HOP.out hbw3) HIZ.out).mono_ (Nat.zero_le _) (Nat.le_refl _)
      obtain ⟨v1, w1, hrun1, ho1, hg1, hb1⟩ := run_append_lies (c := cp) (own_empty hr3 HB.out.size) hlz (by omega) hbw3.size
      have hbw1 : Below w.heap.size w w1 := Below.grown hbw3 hg1 hbw3.size (fun g hg => by
        have : W.heap.size = g := Option.some.inj hg
        have := HB.out.size
        omega)
      obtain ⟨A1, c1, rfl, _, _⟩ := own_slice ho1
      have ho1' : w1.ownsRow w.heap.size 3 1 (.slice A1 pz.length c1) pz.length (pz.map (Value.int .i64)) := by simpa using ho1
      rw [Nat.zero_add] at hrun1
      have hdis : ∀ z, z ∈ bs → z ∈ blkOf A1 → False := fun z h1 h2 => by
        have := (HO0.out.lt z h1).2
        have := (blk_lt ho1' (by rw [blkV_slice]; exact h2)).1
        omega
      obtain ⟨A3, c3, w3, bs3, hrun3, ho3, hg3, hin3, hv3⟩ := (HO0.out.over hbw1).push_run (own_less ho1' hbw) HIZ.out hdis (by omega) (Nat.le_trans hbw hbw1.size)
      obtain ⟨Av, cv, rfl, _, _⟩ := HO0.out.slice
      obtain ⟨tot, htot⟩ : ∃ z, z = pre ++ [pz] := ⟨_, rfl⟩
      have htl : tot.length = pre.length + 1 := by rw [htot]; simp
      unfold PathsX
      rw [← htot]
      rw [← htot, ← htl] at ho3
      have hrun3' := hrun3 28
      rw [← htl] at hrun3'
      have HRUN1 := Lib.hid hrun1
      have HRUN3 := Lib.hid hrun3'
      have HEND := Lib.hid (show ∃ Ax cx bx, (Ending.returned (.slice A3 tot.length c3) : Ending) = .returned (.slice Ax tot.length cx) ∧ OwnSS w3 base (.slice Ax tot.length cx) tot bx ∧ w.grownBy w3 (Value.slice Av pre.length cv).ownBlock ∧ (∀ b, b ∈ bx → b ∈ bs ∨ w.heap.size ≤ b) ∧ (Ax.map Addr.block = (Value.slice Av pre.length cv).ownBlock ∨ ∀ a, Ax = some a → w.heap.size ≤ a.block) from
        ⟨A3, c3, bs3, rfl, ho3, grown_trans (grown_below hbw1) hg3 (.inl rfl), fun b hb => by
          rcases hin3 b hb with h | h | h
          · exact .inl h
          · exact .inr (blk_lt ho1' (by rw [blkV_slice]; exact h)).1
          · exact .inr (Nat.le_trans hbw1.size h), hv3.imp id fun h a ha => Nat.le_trans hbw1.size (h a ha)⟩)
      clear hr3 hbW3 hbw3 hlz hrun1 ho1 hg1 hb1 hbw1 ho1' hdis hrun3 ho3 hg3 hin3 hv3 htot htl hrun3' HD
      by_cases h1 : op = op'
      · by_cases h2 : n = n'
        · have h3 : ¬ k.len = k'.len := fun h => hsame ⟨h1, h2, h⟩
          subst h1 h2
          have b1 : (op != op) = false := by simp
          have b2 : (n != n) = false := by simp
          have b3 : (k.len != k'.len) = true := by simpa using h3
          clear hsame
          go_enter Try.func16, Try.ntmps16
          go_upto_region 1 with fail
          rw [← hW]
          clear hW
          go_wp2_with (first | (at_builtin; refine wpList_append_ran rfl _ _ 34 rfl _ _ _ rfl rfl HRUN1.out ?_) | (at_builtin; refine wpList_append_ran rfl _ _ 28 rfl _ _ _ rfl rfl HRUN3.out ?_))
          go_ret
          exact HEND.out
        · subst h1
          have b1 : (op != op) = false := by simp
          have b2 : (n != n') = true := by simpa using h2
          clear hsame
          go_enter Try.func16, Try.ntmps16
          go_upto_region 1 with fail
          rw [← hW]
          clear hW
          go_wp2_with (first | (at_builtin; refine wpList_append_ran rfl _ _ 34 rfl _ _ _ rfl rfl HRUN1.out ?_) | (at_builtin; refine wpList_append_ran rfl _ _ 28 rfl _ _ _ rfl rfl HRUN3.out ?_))
          go_ret
          exact HEND.out
      · have b1 : (op != op') = true := by simpa using h1
        clear hsame
        go_enter Try.func16, Try.ntmps16
        go_upto_region 1 with fail
        rw [← hW]
        clear hW
        go_wp2_with (first | (at_builtin; refine wpList_append_ran rfl _ _ 34 rfl _ _ _ rfl rfl HRUN1.out ?_) | (at_builtin; refine wpList_append_ran rfl _ _ 28 rfl _ _ _ rfl rfl HRUN3.out ?_))
        go_ret
        exact HEND.out

/-- What DiffPaths returns. -/
def diffB (p q : Nd) : List (List Int) := if ndIs p && ndIs q then diffP p q else []
theorem diffB_in {p q : Nd} {zs : List Int} (h : zs ∈ diffB p q) : zs.length ≤ 80 := by
  unfold diffB at h
  split at h
  · rename_i hv
    rw [Bool.and_eq_true] at hv
    exact Nat.le_trans (diffP_short h) (nd_small hv.1)
  · cases h
theorem diffB_len (p q : Nd) : (diffB p q).length ≤ 81 := by
  unfold diffB
  split
  · rename_i hv
    rw [Bool.and_eq_true] at hv
    have := nd_small hv.1
    have := diffP_len p q
    omega
  · simp
theorem diffB_flat (p q : Nd) : (diffB p q).flatten.length ≤ 1048576 := by
  have h := flat_bound (diffB p q) 80 fun zs hz => diffB_in hz
  have := diffB_len p q
  omega
/-- An empty list that was made. -/
theorem nil_end {w w1 : World} (h : Below w.heap.size w w1) : PathsPost [] w (.returned (.slice (some ⟨w1.heap.size, 0, none⟩) 0 0)) (w1.alloc (Obj.cells #[] 34)) :=
  ⟨some ⟨w1.heap.size, 0, none⟩, 0, [w1.heap.size], rfl, ⟨[], [], rfl, ⟨rfl, .inr ⟨w1.heap.size, 0, #[], rfl, h.size, Row.fresh _ _ _, Nat.le_refl _, by decide, rfl, rfl⟩⟩, rfl, rfl, by simp⟩, h.trans (((Below.refl w1.heap.size w1).alloc (Nat.le_refl _) _).mono h.size)⟩

set_option maxHeartbeats 2000000 in
theorem implDiffs_any (op n op' n' : Int) (k k' : Fo) (A A' : Option Addr) (c cb : Nat) (w : World) (hl : Lies w 0 w.heap.size A 0 k) (hl' : Lies w 0 w.heap.size A' 0 k') (hk : k.len ≤ maxLen) (hk' : k'.len ≤ maxLen) :
    Calls Try.prog 5 #[.agg #[.int .i64 op, .int .i64 n, .slice A k.len c], .agg #[.int .i64 op', .int .i64 n', .slice A' k'.len cb]] w (PathsPost (diffB ⟨op, n, k⟩ ⟨op', n', k'⟩) w) := by
  obtain ⟨hb, r1, r2⟩ := two_boxes w 25 25 #[Value.int IntKind.i64 op, Value.int IntKind.i64 n, Value.slice A k.len c] #[Value.int IntKind.i64 op', Value.int IntKind.i64 n', Value.slice A' k'.len cb]
  obtain ⟨W, hW⟩ : ∃ W, W = (w.alloc (Obj.cells #[Value.int IntKind.i64 op, Value.int IntKind.i64 n, Value.slice A k.len c] 25)).alloc (Obj.cells #[Value.int IntKind.i64 op', Value.int IntKind.i64 n', Value.slice A' k'.len cb] 25) := ⟨_, rfl⟩
  rw [← hW] at hb r1 r2
  have HB := Lib.hid hb
  have HR1 := Lib.hid r1
  have HR2 := Lib.hid r2
  have HV := Lib.hid (validOpen_any op n k A c W (hl.up hb) hk)
  have HL := Lib.hid hl
  have HL' := Lib.hid hl'
  have q0 := r1.cell (i := 0) rfl
  have q1 := r1.cell (i := 1) rfl
  have q2 := r1.cell (i := 2) rfl
  clear hb r1 r2 hl hl'
  cases hv : nodeIs op n k (firstS 8) with
  | false =>
    have HZ := Lib.hid (show diffB ⟨op, n, k⟩ ⟨op', n', k'⟩ = [] by unfold diffB ndIs; simp [hv])
    rw [hv] at HV
    rw [HZ.out]
    clear hv
    go_enter Try.func5, Try.ntmps5
    go_upto_region 1 with fail
    rw [← hW]
    clear hW
    go_wp2_with fail
    refine HV.out.mono ?_
    rintro e w1 ⟨rfl, hb1⟩
    have HB1 := Lib.hid (HB.out.trans (hb1.mono HB.out.size))
    clear HV hb1 q0 q1 q2
    go_wp2_with fail
    go_ret
    exact ⟨none, 0, [], rfl, OwnSS.nil _ _, HB1.out⟩
  | true =>
    rw [hv] at HV
    go_enter Try.func5, Try.ntmps5
    go_upto_region 1 with fail
    rw [← hW]
    clear hW
    go_wp2_with fail
    refine HV.out.mono ?_
    rintro e w1 ⟨rfl, hb1⟩
    have HB1 := Lib.hid (HB.out.trans (hb1.mono HB.out.size))
    have HS1 := Lib.hid (HR1.out.below hb1 HR1.out.size)
    have HS2 := Lib.hid (HR2.out.below hb1 HR2.out.size)
    have HV2 := Lib.hid (validOpen_any op' n' k' A' cb w1 (HL'.out.up HB1.out) hk')
    clear HV hb1 q0 q1 q2
    have t0 := HS2.out.cell (i := 0) rfl
    have t1 := HS2.out.cell (i := 1) rfl
    have t2 := HS2.out.cell (i := 2) rfl
    cases hv' : nodeIs op' n' k' (firstS 8) with
    | false =>
      have HZ := Lib.hid (show diffB ⟨op, n, k⟩ ⟨op', n', k'⟩ = [] by unfold diffB ndIs; simp [hv'])
      rw [hv'] at HV2
      clear hv hv'
      go_wp2_with fail
      refine HV2.out.mono ?_
      rintro e w2 ⟨rfl, hb2⟩
      have HB1 := Lib.hid (HB1.out.trans (hb2.mono HB1.out.size))
      clear HV2 hb2 t0 t1 t2
      go_wp2_with fail
      go_ret
      rw [HZ.out]
      exact ⟨none, 0, [], rfl, OwnSS.nil _ _, HB1.out⟩
    | true =>
      have HZ := Lib.hid (show diffB ⟨op, n, k⟩ ⟨op', n', k'⟩ = diffP ⟨op, n, k⟩ ⟨op', n', k'⟩ by unfold diffB ndIs; simp [hv, hv'])
      have hsz := nd_small (p := ⟨op, n, k⟩) hv
      have hlen := Fo.len_le_size k
      rw [hv'] at HV2
      clear hv hv'
      go_wp2_with fail
      refine HV2.out.mono ?_
      rintro e w2 ⟨rfl, hb2⟩
      have HB2 := Lib.hid (HB1.out.trans (hb2.mono HB1.out.size))
      have HT1 := Lib.hid (HS1.out.below hb2 HS1.out.size)
      have HT2 := Lib.hid (HS2.out.below hb2 HS2.out.size)
      clear HV2 hb2 t0 t1 t2
      have HC := Lib.hid (differences_any k.size op n op' n' k k' A A' c cb w2 rfl (HL.out.up HB2.out) (HL'.out.up HB2.out) (by omega) hk')
      have q0 := HT1.out.cell (i := 0) rfl
      have q1 := HT1.out.cell (i := 1) rfl
      have q2 := HT1.out.cell (i := 2) rfl
      have t0 := HT2.out.cell (i := 0) rfl
      have t1 := HT2.out.cell (i := 1) rfl
      have t2 := HT2.out.cell (i := 2) rfl
      go_wp2_with fail
      refine HC.out.mono ?_
      rintro e w5 ⟨A5, c5, bs5, rfl, ho5, hb5⟩
      have HO5 := Lib.hid (ho5.lower HB2.out.size)
      have HB5 := Lib.hid (HB2.out.trans (hb5.mono HB2.out.size))
      clear HC ho5 hb5 q0 q1 q2 t0 t1 t2
      go_wp2_with fail
      go_ret
      rw [HZ.out]
      exact ⟨A5, c5, bs5, rfl, HO5.out, HB5.out⟩

set_option maxHeartbeats 2000000 in
theorem specDiffs_any (op n op' n' : Int) (k k' : Fo) (A A' : Option Addr) (c cb : Nat) (w : World) (hl : Lies w 0 w.heap.size A 0 k) (hl' : Lies w 0 w.heap.size A' 0 k') (hk : k.len ≤ maxLen) (hk' : k'.len ≤ maxLen) :
    Calls Try.prog 7 #[.agg #[.int .i64 op, .int .i64 n, .slice A k.len c], .agg #[.int .i64 op', .int .i64 n', .slice A' k'.len cb]] w (PathsPost (diffB ⟨op, n, k⟩ ⟨op', n', k'⟩) w) := by
  obtain ⟨hb, r1, r2⟩ := two_boxes w 25 25 #[Value.int IntKind.i64 op, Value.int IntKind.i64 n, Value.slice A k.len c] #[Value.int IntKind.i64 op', Value.int IntKind.i64 n', Value.slice A' k'.len cb]
  obtain ⟨W, hW⟩ : ∃ W, W = (w.alloc (Obj.cells #[Value.int IntKind.i64 op, Value.int IntKind.i64 n, Value.slice A k.len c] 25)).alloc (Obj.cells #[Value.int IntKind.i64 op', Value.int IntKind.i64 n', Value.slice A' k'.len cb] 25) := ⟨_, rfl⟩
  rw [← hW] at hb r1 r2
  have HB := Lib.hid hb
  have HR1 := Lib.hid r1
  have HR2 := Lib.hid r2
  have HV := Lib.hid (l1Any_any op n k A c W (hl.up hb) hk)
  have HL := Lib.hid hl
  have HL' := Lib.hid hl'
  have q0 := r1.cell (i := 0) rfl
  have q1 := r1.cell (i := 1) rfl
  have q2 := r1.cell (i := 2) rfl
  clear hb r1 r2 hl hl'
  cases hv : nodeIs op n k (firstS 8) with
  | false =>
    have HZ := Lib.hid (show diffB ⟨op, n, k⟩ ⟨op', n', k'⟩ = [] by unfold diffB ndIs; simp [hv])
    rw [hv] at HV
    rw [HZ.out]
    clear hv
    go_enter Try.func7, Try.ntmps7
    go_upto_region 1 with fail
    rw [← hW]
    clear hW
    go_wp2_with fail
    refine HV.out.mono ?_
    rintro e w1 ⟨rfl, hb1⟩
    have HB1 := Lib.hid (HB.out.trans (hb1.mono HB.out.size))
    clear HV hb1 q0 q1 q2
    go_wp2_with fail
    go_ret
    exact nil_end HB1.out
  | true =>
    rw [hv] at HV
    go_enter Try.func7, Try.ntmps7
    go_upto_region 1 with fail
    rw [← hW]
    clear hW
    go_wp2_with fail
    refine HV.out.mono ?_
    rintro e w1 ⟨rfl, hb1⟩
    have HB1 := Lib.hid (HB.out.trans (hb1.mono HB.out.size))
    have HS1 := Lib.hid (HR1.out.below hb1 HR1.out.size)
    have HS2 := Lib.hid (HR2.out.below hb1 HR2.out.size)
    have HV2 := Lib.hid (l1Any_any op' n' k' A' cb w1 (HL'.out.up HB1.out) hk')
    clear HV hb1 q0 q1 q2
    have t0 := HS2.out.cell (i := 0) rfl
    have t1 := HS2.out.cell (i := 1) rfl
    have t2 := HS2.out.cell (i := 2) rfl
    cases hv' : nodeIs op' n' k' (firstS 8) with
    | false =>
      have HZ := Lib.hid (show diffB ⟨op, n, k⟩ ⟨op', n', k'⟩ = [] by unfold diffB ndIs; simp [hv'])
      rw [hv'] at HV2
      clear hv hv'
      go_wp2_with fail
      refine HV2.out.mono ?_
      rintro e w2 ⟨rfl, hb2⟩
      have HB1 := Lib.hid (HB1.out.trans (hb2.mono HB1.out.size))
      clear HV2 hb2 t0 t1 t2
      go_wp2_with fail
      go_ret
      rw [HZ.out]
      exact nil_end HB1.out
    | true =>
      have HZ := Lib.hid (show diffB ⟨op, n, k⟩ ⟨op', n', k'⟩ = diffP ⟨op, n, k⟩ ⟨op', n', k'⟩ by unfold diffB ndIs; simp [hv, hv'])
      have hsz := nd_small (p := ⟨op, n, k⟩) hv
      have hlen := Fo.len_le_size k
      rw [hv'] at HV2
      clear hv hv'
      go_wp2_with fail
      refine HV2.out.mono ?_
      rintro e w2 ⟨rfl, hb2⟩
      have HB2 := Lib.hid (HB1.out.trans (hb2.mono HB1.out.size))
      have HT1 := Lib.hid (HS1.out.below hb2 HS1.out.size)
      have HT2 := Lib.hid (HS2.out.below hb2 HS2.out.size)
      clear HV2 hb2 t0 t1 t2
      obtain ⟨w3, hw3⟩ : ∃ w3, w3 = (w2.alloc (Obj.cells #[] 34)).alloc (Obj.cells #[] 3) := ⟨_, rfl⟩
      have hb3 : Below w2.heap.size w2 w3 := by rw [hw3]; exact ((Below.refl _ _).alloc (Nat.le_refl _) _).alloc (by simp) _
      have hr3 : Row w3 w2.heap.size 34 #[] := by rw [hw3]; exact (Row.fresh _ _ _).alloc _
      have hr4 : Row w3 (w2.heap.size + 1) 3 #[] := by
        rw [hw3]
        have := Row.fresh (w2.alloc (Obj.cells #[] 34)) 3 #[]
        rw [World.size_alloc] at this
        exact this
      have ho3 : OwnSS w3 w.heap.size (.slice (some ⟨w2.heap.size, 0, none⟩) 0 0) [] [w2.heap.size] := ⟨[], [], rfl, ⟨rfl, .inr ⟨w2.heap.size, 0, #[], rfl, HB2.out.size, hr3, Nat.le_refl _, by decide, rfl, rfl⟩⟩, rfl, rfl, by simp⟩
      have hop : w3.ownsRow w.heap.size 3 1 (.slice (some ⟨w2.heap.size + 1, 0, none⟩) ([] : List Int).length 0) ([] : List Int).length (([] : List Int).map (Value.int .i64)) := own_empty hr4 (Nat.le_trans HB2.out.size (Nat.le_succ _))
      have hbw3 := HB2.out.trans (hb3.mono HB2.out.size)
      have hc := l9Diff_any k.size [] [w2.heap.size] (.slice (some ⟨w2.heap.size, 0, none⟩) 0 0) w.heap.size op n op' n' k k' A A' c cb [] (some ⟨w2.heap.size + 1, 0, none⟩) 0 w3 rfl ho3 hbw3.size (HL.out.below hbw3) (HL'.out.below hbw3) hk' hop (by simp) (by simp; omega) (by simp; omega)
      unfold PathsX at hc
      rw [paths_id, List.nil_append] at hc
      have HC := Lib.hid hc
      have HB3 := Lib.hid hbw3
      have q0 := (HT1.out.alloc (Obj.cells #[] 34)).cell (i := 0) rfl
      have q1 := (HT1.out.alloc (Obj.cells #[] 34)).cell (i := 1) rfl
      have q2 := (HT1.out.alloc (Obj.cells #[] 34)).cell (i := 2) rfl
      have t0 := (HT2.out.alloc (Obj.cells #[] 34)).cell (i := 0) rfl
      have t1 := (HT2.out.alloc (Obj.cells #[] 34)).cell (i := 1) rfl
      have t2 := (HT2.out.alloc (Obj.cells #[] 34)).cell (i := 2) rfl
      clear hc hop ho3 hr3 hr4 hb3 hbw3
      go_upto_region 3 with fail
      go_wp2_with fail
      rw [← hw3]
      refine HC.out.mono ?_
      rintro e w5 ⟨A5, c5, bs5, rfl, ho5, hg5, _, _⟩
      have HO5 := Lib.hid ho5
      have HB5 := Lib.hid (Below.grown HB3.out hg5 HB3.out.size (fun g hg => by
        have : w2.heap.size = g := Option.some.inj hg
        have := HB2.out.size
        omega))
      clear HC ho5 hg5 q0 q1 q2 t0 t1 t2 hw3
      go_wp2_with fail
      go_ret
      rw [HZ.out]
      exact ⟨A5, c5, bs5, rfl, HO5.out, HB5.out⟩
end Go.Proofs.Ytdpiklnadhpjjaa
