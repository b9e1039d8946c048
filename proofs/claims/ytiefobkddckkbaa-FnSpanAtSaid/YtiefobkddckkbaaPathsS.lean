/-
  spec.l9Paths, spec.PathsOf.
-/
import Derived.Test.YtiefobkddckkbaaPathsI
namespace Go.Proofs.Ytiefobkddckkbaa
open Go.RowKit Go.Shelf
set_option maxRecDepth 100000

theorem paths_push (pz : List Int) (k : Fo) (j : Nat) {o m : Int} {k1 : Fo} (e : k.drop j = .cons o m k1 (k.drop (j + 1))) :
    (pathsK (k.drop j) j).map (pz ++ ·) = (pathsP k1).map ((pz ++ [(j : Int)]) ++ ·) ++ (pathsK (k.drop (j + 1)) (j + 1)).map (pz ++ ·) := by
  rw [pathsK_drop e, List.map_append, List.map_map]
  congr 1
  refine List.map_congr_left fun z _ => ?_
  simp

/-- The world went on, and no block but the one of the list was turned. -/
theorem grown_trans {a b c : World} {r r2 : Option Nat} (h : a.grownBy b r) (k : b.grownBy c r2) (hr : r2 = r ∨ ∀ g, r2 = some g → a.heap.size ≤ g) : a.grownBy c r :=
  ⟨k.os.trans h.os, k.tape.trans h.tape, k.output.trans h.output, Nat.le_trans h.size k.size, fun q hq hn => (k.block q (Nat.lt_of_lt_of_le hq h.size) (fun e => by
    rcases hr with rfl | hr
    · exact hn e
    · have := hr q e.symm; omega)).trans (h.block q hq hn)⟩
theorem grown_below {a b : World} {r : Option Nat} (h : Below a.heap.size a b) : a.grownBy b r := ⟨h.os, h.tape, h.output, h.size, fun q hq _ => h.block q hq⟩

/-- The post of l9Paths. -/
def Paths9 (pre : List (List Int)) (k : Fo) (pz : List Int) (v : Value) (base : Nat) (bs : List Nat) (w : World) (e : Ending) (w' : World) : Prop :=
  ∃ A' c' bs', e = .returned (.slice A' (pre ++ (pathsP k).map (pz ++ ·)).length c') ∧ OwnSS w' base (.slice A' (pre ++ (pathsP k).map (pz ++ ·)).length c') (pre ++ (pathsP k).map (pz ++ ·)) bs' ∧ w.grownBy w' v.ownBlock ∧ (∀ b, b ∈ bs' → b ∈ bs ∨ w.heap.size ≤ b) ∧ (A'.map Addr.block = v.ownBlock ∨ ∀ a, A' = some a → w.heap.size ≤ a.block)

set_option maxHeartbeats 4000000 in
theorem l9Paths_any (m : Nat) : ∀ (pre : List (List Int)) (bs : List Nat) (v : Value) (base : Nat) (op n : Int) (k : Fo) (A : Option Addr) (c : Nat) (pz : List Int) (Ap : Option Addr) (cp : Nat) (w : World), k.size = m → OwnSS w base v pre bs → base ≤ w.heap.size → Lies w 0 base A 0 k →
    w.ownsRow base 3 1 (.slice Ap pz.length cp) pz.length (pz.map (Value.int .i64)) → (∀ y ∈ pz, I64 y) → pz.length + k.size ≤ 1000 → pre.length + k.size ≤ 100000 →
    Calls Try.prog 53 #[v, .agg #[.int .i64 op, .int .i64 n, .slice A k.len c], .slice Ap pz.length cp] w (Paths9 pre k pz v base bs w) := by
  induction m using Nat.strongRecOn with
  | _ m ih =>
    intro pre bs v base op n k A c pz Ap cp w hm ho hbw hl hop hiz hpl hprel
    have hlen := Fo.len_le_size k
    obtain ⟨W, hW⟩ : ∃ W, W = (w.alloc (Obj.cells #[.int .i64 op, .int .i64 n, .slice A k.len c] 33)).alloc (Obj.cells #[] 3) := ⟨_, rfl⟩
    have hr0 : Row W w.heap.size 33 #[.int .i64 op, .int .i64 n, .slice A k.len c] := by rw [hW]; exact (Row.fresh w _ _).alloc _
    have hr1 : Row W (w.heap.size + 1) 3 #[] := by
      rw [hW]
      have := Row.fresh (w.alloc (Obj.cells #[.int .i64 op, .int .i64 n, .slice A k.len c] 33)) 3 #[]
      rw [World.size_alloc] at this
      exact this
    have hbW : Below w.heap.size w W := by rw [hW]; exact ((Below.refl _ _).alloc (Nat.le_refl _) _).alloc (by simp) _
    have hopW := own_below hop hbW
    have hlz : LiesI W 0 W.heap.size Ap pz := (own_liesS hopW hiz).mono_ (Nat.zero_le _) (Nat.le_refl _)
    obtain ⟨v1, w1, hrun1, ho1, hg1, hb1⟩ := run_append_lies (c := cp) (own_empty hr1 (Nat.le_succ w.heap.size)) hlz (by omega) hbW.size
    have hbw1 : Below w.heap.size w w1 := Below.grown hbW hg1 hbW.size (fun g hg => by
      have : w.heap.size + 1 = g := Option.some.inj hg
      omega)
    obtain ⟨A1, c1, rfl, _, _⟩ := own_slice ho1
    have ho1' : w1.ownsRow w.heap.size 3 1 (.slice A1 pz.length c1) pz.length (pz.map (Value.int .i64)) := by simpa using ho1
    rw [Nat.zero_add] at hrun1
    have hdis : ∀ z, z ∈ bs → z ∈ blkOf A1 → False := fun z h1 h2 => by
      have := (ho.lt z h1).2
      have := (blk_lt ho1' (by rw [blkV_slice]; exact h2)).1
      omega
    have hr0' : Row w1 w.heap.size 33 #[.int .i64 op, .int .i64 n, .slice A k.len c] := row_grown' hr0 hg1 (fun e => by
      have : w.heap.size = w.heap.size + 1 := Option.some.inj e
      omega)
    obtain ⟨A3, c3, w3, bs3, hrun3, ho3, hg3, hin3, hv3⟩ := (ho.over hbw1).push_run (own_less ho1' hbw) hiz hdis (by omega) (Nat.le_trans hbw hbw1.size)
    have hvne : ∀ g, (∃ cs, Row w g 3 cs) → some g ≠ v.ownBlock := fun g ⟨cs, hr⟩ e => by
      obtain ⟨st, b1, h0, h1, _⟩ := ho
      exact own_other_row h1 hr (by decide) e
    have hpne : ∀ g, (Value.slice Ap pz.length cp).ownBlock = some g → some g ≠ v.ownBlock := fun g hg => by
      rcases hop.2 with ⟨hv, _⟩ | ⟨g2, cap, cur, hv, _, hh, _⟩
      · rw [hv] at hg; cases hg
      · rw [hv] at hg
        have : g2 = g := Option.some.inj hg
        subst this
        exact hvne g2 ⟨cur, hh⟩
    have hvb : ∀ g, v.ownBlock = some g → base ≤ g ∧ g < w.heap.size := fun g hg => ho.lt g (ho.own g hg)
    have hgr3 : w.grownBy w3 v.ownBlock := grown_trans (grown_below hbw1) hg3 (.inl rfl)
    have hr3 : Row w3 w.heap.size 33 #[.int .i64 op, .int .i64 n, .slice A k.len c] := row_grown' hr0' hg3 (fun e => by have := (hvb _ e.symm).2; omega)
    obtain ⟨acc0, hacc0⟩ : ∃ z, z = pre ++ [pz] := ⟨_, rfl⟩
    have hal0 : acc0.length = pre.length + 1 := by rw [hacc0]; simp
    rw [← hacc0, ← hal0] at ho3
    have hrun3' := hrun3 74
    rw [← hal0] at hrun3'
    have HRUN1 := Lib.hid hrun1
    have HRUN3 := Lib.hid hrun3'
    have HO3 := Lib.hid ho3
    have HG3 := Lib.hid hgr3
    have HR3 := Lib.hid hr3
    have HIN3 := Lib.hid (show ∀ b, b ∈ bs3 → b ∈ bs ∨ w.heap.size ≤ b from fun b hb => by
      rcases hin3 b hb with h | h | h
      · exact .inl h
      · exact .inr (blk_lt ho1' (by rw [blkV_slice]; exact h)).1
      · exact .inr (Nat.le_trans hbw1.size h))
    have HV3 := Lib.hid (show A3.map Addr.block = v.ownBlock ∨ ∀ a, A3 = some a → w.heap.size ≤ a.block from hv3.imp id fun h a ha => Nat.le_trans hbw1.size (h a ha))
    obtain ⟨goal, hgoal⟩ : ∃ z, z = pre ++ (pathsP k).map (pz ++ ·) := ⟨_, rfl⟩
    have HST := Lib.hid (show acc0 ++ (pathsK (k.drop 0) 0).map (pz ++ ·) = goal by rw [hacc0, hgoal, Fo.drop_zero]; simp [pathsP])
    have hgl : goal.length = pre.length + (k.size + 1) := by rw [hgoal, List.length_append, List.length_map, pathsP_len]
    unfold Paths9
    rw [← hgoal]
    have HL := Lib.hid hl
    have HOP := Lib.hid hop
    have HIZ := Lib.hid hiz
    have HPNE := Lib.hid hpne
    have HVB := Lib.hid hvb
    have HGL := Lib.hid hgl
    have IH := Lib.hid ih
    clear hr0 hr1 hbW hopW hlz hrun1 ho1 hg1 hb1 hbw1 ho1' hdis hr0' hrun3 ho3 hg3 hin3 hv3 hvne hpne hvb hgr3 hr3 hacc0 hal0 hrun3' hgoal hgl hl hop hiz ih ho
    go_enter Try.func53, Try.ntmps53
    go_upto_region 1 with fail
    go_wp2_with (first | (at_builtin; rw [← hW]; refine wpList_append_ran rfl _ _ 25 rfl _ _ _ rfl rfl HRUN1.out ?_) | (at_builtin; refine wpList_append_ran rfl _ _ 74 rfl _ _ _ rfl rfl HRUN3.out ?_))
    clear hW HRUN1 HRUN3
    go_loopw [0, 7] (fun x i wr => ∃ (j : Nat) (acc : List (List Int)) (bs' : List Nat) (A' : Option Addr) (c' : Nat), j ≤ k.len ∧ i = .int .i64 (j : Int) ∧ x = .slice A' acc.length c' ∧ OwnSS wr base (.slice A' acc.length c') acc bs' ∧ acc ++ (pathsK (k.drop j) j).map (pz ++ ·) = goal ∧
        w.grownBy wr v.ownBlock ∧ Row wr w.heap.size 33 #[.int .i64 op, .int .i64 n, .slice A k.len c] ∧ (∀ b, b ∈ bs' → b ∈ bs ∨ w.heap.size ≤ b) ∧ (A'.map Addr.block = v.ownBlock ∨ ∀ a, A' = some a → w.heap.size ≤ a.block))
      (fun _ i _ => k.len - (intOf i).toNat)
    case atStart => exact ⟨0, acc0, bs3, A3, c3, Nat.zero_le _, rfl, rfl, HO3.out, HST.out, HG3.out, HR3.out, HIN3.out, HV3.out⟩
    case round =>
      clear HO3 HST HG3 HR3 HIN3 HV3
      obtain ⟨j, acc, bs', A', c', hj, rfl, rfl, ho, hst, hgr, hre, hin, hv⟩ := hrel
      have hkm : k.len ≤ 9223372036854775807 := by omega
      by_cases hlt : j < k.len
      · obtain ⟨o1, m1, k1, e1, e2, e3⟩ := Fo.drop_of_lt k j hlt
        have hbc : ∀ p : Addr, p.block < base → wr.cell? p = w.cell? p := fun p hp => World.cell?_of_block (w := w) (hgr.block p.block (by omega) (fun e => by have := (HVB.out p.block e.symm).1; omega))
        have hlr : Lies wr 0 base A 0 k := HL.out.keep (Nat.le_refl _) (Nat.le_refl _) fun p _ hp => hbc p hp
        have hj' := hlr.at_ j
        rw [Nat.zero_add, e1] at hj'
        obtain ⟨⟨b, o, A5, c5, hA, _, hbb, i1, i2, g1, g2, g3, h1, h2, h3⟩, _⟩ := hj'
        subst hA
        have hopr : wr.ownsRow base 3 1 (.slice Ap pz.length cp) pz.length (pz.map (Value.int .i64)) := own_at HOP.out fun g hg => hgr.block g (HOP.out.lt g hg).2 (HPNE.out g hg)
        obtain ⟨pj, hpj⟩ : ∃ z, z = pz ++ [(j : Int)] := ⟨_, rfl⟩
        have hpjl : pj.length + k1.size ≤ 1000 := by rw [hpj]; simp; omega
        obtain ⟨acc2, hacc2⟩ : ∃ z, z = acc ++ (pathsP k1).map (pj ++ ·) := ⟨_, rfl⟩
        have hst2 := hst
        rw [paths_push pz k j e1, ← List.append_assoc, ← hpj, ← hacc2] at hst2
        have hall := congrArg List.length hst2
        rw [hacc2, List.length_append, List.length_append, List.length_map, pathsP_len, HGL.out] at hall
        have hbr : base ≤ wr.heap.size := Nat.le_trans hbw hgr.size
        have hown := ho.own
        have hne0 : some w.heap.size ≠ (Value.slice A' acc.length c').ownBlock := by
          obtain ⟨st, b1, h0, h1, _⟩ := ho
          exact own_other_row h1 hre (by decide)
        have hS : ∀ w' : World, wr.grownBy w' (Value.slice A' acc.length c').ownBlock → w'.cell? ⟨w.heap.size, 2, none⟩ = some (Value.slice (some ⟨b, o, none⟩) k.len c) ∧ w'.cell? ⟨b, o + j * 3, none⟩ = some (Value.int .i64 o1) ∧ w'.cell? ⟨b, o + j * 3 + 1, none⟩ = some (Value.int .i64 m1) ∧ w'.cell? ⟨b, o + j * 3 + 2, none⟩ = some (Value.slice A5 k1.len c5) := fun w' hg => by
          have hk : ∀ p : Addr, p.block < base → w'.cell? p = wr.cell? p := fun p hp => World.cell?_of_block (w := wr) (hg.block p.block (by omega) (fun e => by have := (ho.lt _ (hown _ e.symm)).1; omega))
          have hw : ∀ p : Addr, p.block = w.heap.size → w'.cell? p = wr.cell? p := fun p hp => World.cell?_of_block (w := wr) (hg.block p.block (by rw [hp]; exact hre.size) (by rw [hp]; exact hne0))
          exact ⟨(hw ⟨w.heap.size, 2, none⟩ rfl).trans (hre.cell (i := 2) rfl), (hk ⟨b, o + j * 3, none⟩ hbb).trans g1, (hk ⟨b, o + j * 3 + 1, none⟩ hbb).trans g2, (hk ⟨b, o + j * 3 + 2, none⟩ hbb).trans g3⟩
        have hji : I64 (j : Int) := by unfold I64; omega
        have HS := Lib.hid hS
        have HJ := Lib.hid hji
        have HPJ := Lib.hid hpj
        have HPJL := Lib.hid hpjl
        have HIJ := Lib.hid (show ∀ y ∈ pj, I64 y from fun y hy => by
          rw [hpj] at hy
          rcases List.mem_append.1 hy with h | h
          · exact HIZ.out y h
          · simp at h; subst h; exact hji)
        have HACC2 := Lib.hid hacc2
        have HNE := Lib.hid hne0
        have HAL := Lib.hid (show acc.length + k1.size ≤ 100000 by omega)
        have HBR := Lib.hid hbr
        have HO := Lib.hid ho
        have HST2 := Lib.hid hst2
        have HGR := Lib.hid hgr
        have HRE := Lib.hid hre
        have HIN := Lib.hid hin
        have HV := Lib.hid hv
        have HLK := Lib.hid h3
        have HPZ := Lib.hid (show ∀ w' : World, Below wr.heap.size wr w' → LiesI w' 0 w'.heap.size Ap pz from fun w' hb => ((own_liesS hopr HIZ.out).mono_ (Nat.zero_le _) (Nat.le_refl _)).up hb)
        have q2 := hre.cell (i := 2) rfl
        clear hpj hpjl hacc2 hst2 hst hall hown hne0 hS hji ho hgr hre hin hv h3 hopr hlr hbc g1 g2 g3 e1 i1 i2
        go_wp2_with fail
        clear q2
        have bz : Below wr.heap.size wr (wr.alloc (Obj.cells #[] 3)).drew := ((Below.refl _ _).alloc (Nat.le_refl _) _).drew
        have by_ : Below wr.heap.size wr (wr.alloc (Obj.cells #[Value.int .i64 (j : Int)] 3)).drew := ((Below.refl _ _).alloc (Nat.le_refl _) _).drew
        have byz : Below wr.heap.size wr ((wr.alloc (Obj.cells #[Value.int .i64 (j : Int)] 3)).alloc (Obj.cells #[] 3)).drew := (((Below.refl _ _).alloc (Nat.le_refl _) _).alloc (by simp) _).drew
        have bzy : Below wr.heap.size wr ((wr.alloc (Obj.cells #[] 3)).alloc (Obj.cells #[Value.int .i64 (j : Int)] 3)).drew := (((Below.refl _ _).alloc (Nat.le_refl _) _).alloc (by simp) _).drew
        have s0 := HS.out _ (grown_below ((Below.refl wr.heap.size wr).drew))
        have sz := HS.out _ (grown_below bz)
        have sy := HS.out _ (grown_below by_)
        have syz := HS.out _ (grown_below byz)
        have szy := HS.out _ (grown_below bzy)
        have RZ := Lib.hid (show Row (wr.alloc (Obj.cells #[] 3)).drew wr.heap.size 3 #[] from (Row.fresh _ _ _).drew)
        have RZ2 := Lib.hid (show Row ((wr.alloc (Obj.cells #[] 3)).alloc (Obj.cells #[Value.int .i64 (j : Int)] 3)).drew wr.heap.size 3 #[] from ((Row.fresh _ _ _).alloc _).drew)
        have RY2 := Lib.hid (show Row ((wr.alloc (Obj.cells #[Value.int .i64 (j : Int)] 3)).alloc (Obj.cells #[] 3)).drew wr.heap.size 3 #[Value.int .i64 (j : Int)] from ((Row.fresh _ _ _).alloc _).drew)
        have RZ3 := Lib.hid (show Row ((wr.alloc (Obj.cells #[Value.int .i64 (j : Int)] 3)).alloc (Obj.cells #[] 3)).drew (wr.heap.size + 1) 3 #[] from by
          have := Row.fresh (wr.alloc (Obj.cells #[Value.int .i64 (j : Int)] 3)) 3 #[]
          rw [World.size_alloc] at this
          exact this.drew)
        have RY3 := Lib.hid (show Row ((wr.alloc (Obj.cells #[] 3)).alloc (Obj.cells #[Value.int .i64 (j : Int)] 3)).drew (wr.heap.size + 1) 3 #[Value.int .i64 (j : Int)] from by
          have := Row.fresh (wr.alloc (Obj.cells #[] 3)) 3 #[Value.int .i64 (j : Int)]
          rw [World.size_alloc] at this
          exact this.drew)
        have BZ := Lib.hid bz
        have BYZ := Lib.hid byz
        have BZY := Lib.hid bzy
        clear bz by_ byz bzy
        go_region_held3 (fun w' => w'.cell? ⟨w.heap.size, 2, none⟩ = some (Value.slice (some ⟨b, o, none⟩) k.len c) ∧ w'.cell? ⟨b, o + j * 3, none⟩ = some (Value.int .i64 o1) ∧ w'.cell? ⟨b, o + j * 3 + 1, none⟩ = some (Value.int .i64 m1) ∧ w'.cell? ⟨b, o + j * 3 + 2, none⟩ = some (Value.slice A5 k1.len c5))
          (first | with_reducible exact s0 | with_reducible exact sz | with_reducible exact sy | with_reducible exact syz | with_reducible exact szy | with_reducible exact s29 | with_reducible exact s29l | with_reducible exact s32 | with_reducible exact s33 | fail)
          (first
          | (go_at_call 53
             with_reducible refine HC.out.mono ?_
             rintro e w33 ⟨A6, c6, bs6, rfl, ho6, hg6, hin6, hv6⟩
             have hg := grown_trans (grown_below B32.out) hg6 (.inl rfl)
             have s33 := HS.out _ hg
             have HEND := Lib.hid (show ∃ bs2 A2 c2, Value.slice A6 acc2.length c6 = Value.slice A2 acc2.length c2 ∧ OwnSS w33 base (.slice A2 acc2.length c2) acc2 bs2 ∧ wr.grownBy w33 (Value.slice A' acc.length c').ownBlock ∧ (∀ z, z ∈ bs2 → z ∈ bs' ∨ wr.heap.size ≤ z) ∧ (A2.map Addr.block = (Value.slice A' acc.length c').ownBlock ∨ ∀ a, A2 = some a → wr.heap.size ≤ a.block) from ⟨bs6, A6, c6, rfl, ho6, hg, fun z hz => (hin6 z hz).imp id (Nat.le_trans B32.out.size), hv6.imp id fun h a ha => Nat.le_trans B32.out.size (h a ha)⟩)
             clear ho6 hg6 hin6 hv6 hg)
          | (refine step_lies rfl (.tmp 29) (.tmp 31) rfl rfl wr.heap.size v29 pz.length (pz.map (Value.int .i64)) rfl HO29.out [(j : Int)] (some ⟨wr.heap.size, 0, none⟩) 1 0 w29.heap.size rfl (lies_one RYa.out HJ.out) (by simp; omega) B29.out.size ?_
             intro v32 w32 ho32 hg32 _
             have b32 := Below.grown B29.out hg32 B29.out.size (fun g' hg' => (HO29.out.lt g' hg').1)
             have h9 : w32.ownsRow wr.heap.size 3 1 v32 pj.length (pj.map (Value.int .i64)) := by rw [HPJ.out]; simpa using ho32
             obtain ⟨A9, c9, rfl, _, _⟩ := own_slice h9
             have hc := IH.out k1.size (by omega) acc bs' (.slice A' acc.length c') base o1 m1 k1 A5 c5 pj A9 c9 w32 rfl (HO.out.over b32) (Nat.le_trans HBR.out b32.size) (HLK.out.below (b32.mono HBR.out)) (own_less h9 HBR.out) HIJ.out HPJL.out HAL.out
             unfold Paths9 at hc
             rw [← HACC2.out] at hc
             have HC := Lib.hid hc
             have B32 := Lib.hid b32
             have s32 := HS.out _ (grown_below b32)
             clear ho32 hg32 b32 h9 hc)
          | (refine step_lies rfl (.tmp 29) (.tmp 31) rfl rfl wr.heap.size v29 pz.length (pz.map (Value.int .i64)) rfl HO29.out [(j : Int)] (some ⟨wr.heap.size + 1, 0, none⟩) 1 0 w29.heap.size rfl (lies_one RYb.out HJ.out) (by simp; omega) B29.out.size ?_
             intro v32 w32 ho32 hg32 _
             have b32 := Below.grown B29.out hg32 B29.out.size (fun g' hg' => (HO29.out.lt g' hg').1)
             have h9 : w32.ownsRow wr.heap.size 3 1 v32 pj.length (pj.map (Value.int .i64)) := by rw [HPJ.out]; simpa using ho32
             obtain ⟨A9, c9, rfl, _, _⟩ := own_slice h9
             have hc := IH.out k1.size (by omega) acc bs' (.slice A' acc.length c') base o1 m1 k1 A5 c5 pj A9 c9 w32 rfl (HO.out.over b32) (Nat.le_trans HBR.out b32.size) (HLK.out.below (b32.mono HBR.out)) (own_less h9 HBR.out) HIJ.out HPJL.out HAL.out
             unfold Paths9 at hc
             rw [← HACC2.out] at hc
             have HC := Lib.hid hc
             have B32 := Lib.hid b32
             have s32 := HS.out _ (grown_below b32)
             clear ho32 hg32 b32 h9 hc)
          | (refine step_lies rfl (.tmp 29) (.tmp 31) rfl rfl wr.heap.size v29 pz.length (pz.map (Value.int .i64)) rfl (HO29.out.alloc _) [(j : Int)] (some ⟨w29.heap.size, 0, none⟩) 1 0 (w29.alloc (Obj.cells #[Value.int .i64 (j : Int)] 3)).heap.size rfl (lies_one (Row.fresh w29 3 #[Value.int .i64 (j : Int)]) HJ.out) (by simp; omega) B29L.out.size ?_
             intro v32 w32 ho32 hg32 _
             have b32 := Below.grown B29L.out hg32 B29L.out.size (fun g' hg' => (HO29.out.lt g' hg').1)
             have h9 : w32.ownsRow wr.heap.size 3 1 v32 pj.length (pj.map (Value.int .i64)) := by rw [HPJ.out]; simpa using ho32
             obtain ⟨A9, c9, rfl, _, _⟩ := own_slice h9
             have hc := IH.out k1.size (by omega) acc bs' (.slice A' acc.length c') base o1 m1 k1 A5 c5 pj A9 c9 w32 rfl (HO.out.over b32) (Nat.le_trans HBR.out b32.size) (HLK.out.below (b32.mono HBR.out)) (own_less h9 HBR.out) HIJ.out HPJL.out HAL.out
             unfold Paths9 at hc
             rw [← HACC2.out] at hc
             have HC := Lib.hid hc
             have B32 := Lib.hid b32
             have s32 := HS.out _ (grown_below b32)
             clear ho32 hg32 b32 h9 hc)
          | (refine step_lies rfl (.tmp 27) (.tmp 28) rfl rfl wr.heap.size (.slice (some ⟨wr.heap.size + 1, 0, none⟩) 0 0) 0 [] rfl (own_empty RZ3.out (by first | exact Nat.le_refl _ | exact Nat.le_succ _)) pz Ap cp 0 ((wr.alloc (Obj.cells #[Value.int .i64 (j : Int)] 3)).alloc (Obj.cells #[] 3)).drew.heap.size rfl (HPZ.out _ BYZ.out) (by omega) (by first | (simp; done) | (simp; omega)) ?_
             intro v29 w29 ho29 hg29 _
             have b29 := Below.grown BYZ.out hg29 (BYZ.out).size (fun g' hg' => (own_empty RZ3.out (base := wr.heap.size) (by first | exact Nat.le_refl _ | exact Nat.le_succ _)).lt g' hg' |>.1)
             have HO29 := Lib.hid (show w29.ownsRow wr.heap.size 3 1 v29 pz.length (pz.map (Value.int .i64)) from by simpa using ho29)
             have RYa := Lib.hid (row_grown' RY2.out hg29 (fun e => by have e2 : wr.heap.size = wr.heap.size + 1 := Option.some.inj e; omega))
             have B29 := Lib.hid b29
             have B29L := Lib.hid (b29.alloc b29.size (Obj.cells #[Value.int .i64 (j : Int)] 3))
             have s29 := HS.out _ (grown_below b29)
             have s29l := HS.out _ (grown_below B29L.out)
             clear ho29 hg29 b29)
          | (refine step_lies rfl (.tmp 27) (.tmp 28) rfl rfl wr.heap.size (.slice (some ⟨wr.heap.size, 0, none⟩) 0 0) 0 [] rfl (own_empty RZ2.out (by first | exact Nat.le_refl _ | exact Nat.le_succ _)) pz Ap cp 0 ((wr.alloc (Obj.cells #[] 3)).alloc (Obj.cells #[Value.int .i64 (j : Int)] 3)).drew.heap.size rfl (HPZ.out _ BZY.out) (by omega) (by first | (simp; done) | (simp; omega)) ?_
             intro v29 w29 ho29 hg29 _
             have b29 := Below.grown BZY.out hg29 (BZY.out).size (fun g' hg' => (own_empty RZ2.out (base := wr.heap.size) (by first | exact Nat.le_refl _ | exact Nat.le_succ _)).lt g' hg' |>.1)
             have HO29 := Lib.hid (show w29.ownsRow wr.heap.size 3 1 v29 pz.length (pz.map (Value.int .i64)) from by simpa using ho29)
             have RYb := Lib.hid (row_grown' RY3.out hg29 (fun e => by have e2 : wr.heap.size + 1 = wr.heap.size := Option.some.inj e; omega))
             have B29 := Lib.hid b29
             have B29L := Lib.hid (b29.alloc b29.size (Obj.cells #[Value.int .i64 (j : Int)] 3))
             have s29 := HS.out _ (grown_below b29)
             have s29l := HS.out _ (grown_below B29L.out)
             clear ho29 hg29 b29)
          | (refine step_lies rfl (.tmp 27) (.tmp 28) rfl rfl wr.heap.size (.slice (some ⟨wr.heap.size, 0, none⟩) 0 0) 0 [] rfl (own_empty RZ.out (by first | exact Nat.le_refl _ | exact Nat.le_succ _)) pz Ap cp 0 (wr.alloc (Obj.cells #[] 3)).drew.heap.size rfl (HPZ.out _ BZ.out) (by omega) (by first | (simp; done) | (simp; omega)) ?_
             intro v29 w29 ho29 hg29 _
             have b29 := Below.grown BZ.out hg29 (BZ.out).size (fun g' hg' => (own_empty RZ.out (base := wr.heap.size) (by first | exact Nat.le_refl _ | exact Nat.le_succ _)).lt g' hg' |>.1)
             have HO29 := Lib.hid (show w29.ownsRow wr.heap.size 3 1 v29 pz.length (pz.map (Value.int .i64)) from by simpa using ho29)

             have B29 := Lib.hid b29
             have B29L := Lib.hid (b29.alloc b29.size (Obj.cells #[Value.int .i64 (j : Int)] 3))
             have s29 := HS.out _ (grown_below b29)
             have s29l := HS.out _ (grown_below B29L.out)
             clear ho29 hg29 b29)
          | fail)
        all_goals
          go_wp2_with fail
          go_roundw
          case rel =>
            obtain ⟨bs2, A2, c2, he, ho2, hg2, hin2, hv2⟩ := HEND.out
            injection he with he1 _ he3
            subst he1 he3
            refine ⟨j + 1, acc2, bs2, A6, c6, hlt, by go_num, rfl, ho2, HST2.out, grown_trans HGR.out hg2 ?_, row_grown' HRE.out hg2 HNE.out, fun z hz => ?_, ?_⟩
            · rcases HV.out with h | h
              · exact .inl (by rw [← h]; cases A' <;> rfl)
              · refine .inr fun g hg => ?_
                cases A' with
                | none => cases hg
                | some a => exact (Option.some.inj hg) ▸ h a rfl
            · rcases hin2 z hz with h | h
              · exact HIN.out z h
              · exact .inr (Nat.le_trans HGR.out.size h)
            · rcases hv2 with h | h
              · rcases HV.out with h1 | h1
                · exact .inl (by rw [← h1, h]; cases A' <;> rfl)
                · refine .inr fun a ha => ?_
                  subst ha
                  cases A' with
                  | none => cases h
                  | some a' =>
                    have h : some a.block = some a'.block := h
                    injection h with h
                    rw [h]
                    exact h1 a' rfl
              · exact .inr fun a ha => Nat.le_trans HGR.out.size (h a ha)
          case measure => simp [intOf]; omega
      · have e9 : j = k.len := by omega
        rw [e9, Fo.drop_len] at hst
        have hst2 : acc = goal := by rw [← hst]; simp [pathsK]
        subst hst2
        have HO := Lib.hid ho
        have HGR := Lib.hid hgr
        have HIN := Lib.hid hin
        have HV := Lib.hid hv
        have q2 := hre.cell (i := 2) rfl
        clear ho hst hgr hre hin hv
        go_wp2_with fail
        go_ret
        exact ⟨A', c', bs', rfl, HO.out, HGR.out, HIN.out, HV.out⟩

theorem paths_id (zss : List (List Int)) : zss.map (([] : List Int) ++ ·) = zss := by
  rw [show (fun x : List Int => ([] : List Int) ++ x) = id from funext fun x => List.nil_append x, List.map_id]

set_option maxHeartbeats 2000000 in
theorem specPaths_any (op n : Int) (k : Fo) (A : Option Addr) (c : Nat) (w : World) (hl : Lies w 0 w.heap.size A 0 k) (hk : k.len ≤ maxLen) :
    Calls Try.prog 40 #[.agg #[.int .i64 op, .int .i64 n, .slice A k.len c]] w (PathsPost (pathsB ⟨op, n, k⟩) w) := by
  obtain ⟨hb, r1⟩ := one_box w 33 #[Value.int IntKind.i64 op, Value.int IntKind.i64 n, Value.slice A k.len c]
  obtain ⟨W, hW⟩ : ∃ W, W = w.alloc (Obj.cells #[Value.int IntKind.i64 op, Value.int IntKind.i64 n, Value.slice A k.len c] 33) := ⟨_, rfl⟩
  rw [← hW] at hb r1
  have HB := Lib.hid hb
  have HR1 := Lib.hid r1
  have HV := Lib.hid (l1Any_any op n k A c W (hl.up hb) hk)
  have HL := Lib.hid hl
  have q0 := r1.cell (i := 0) rfl
  have q1 := r1.cell (i := 1) rfl
  have q2 := r1.cell (i := 2) rfl
  clear hb r1 hl
  cases hv : nodeIs op n k (firstS 8) with
  | false =>
    have HZ := Lib.hid (show pathsB ⟨op, n, k⟩ = [] by unfold pathsB ndIs; simp [hv])
    rw [hv] at HV
    rw [HZ.out]
    go_enter Try.func40, Try.ntmps40
    go_upto_region 1 with fail
    rw [← hW]
    clear hW
    go_wp2_with fail
    refine HV.out.mono ?_
    rintro e w1 ⟨rfl, hb1⟩
    have HB1 := Lib.hid (HB.out.trans (hb1.mono HB.out.size))
    clear HV hb1 q0 q1 q2
    go_wp2_with fail
    go_ret
    have hb2 := (Below.refl w1.heap.size w1).alloc (Nat.le_refl _) (Obj.cells #[] 25)
    exact ⟨some ⟨w1.heap.size, 0, none⟩, 0, [w1.heap.size], rfl, ⟨[], [], rfl, ⟨rfl, .inr ⟨w1.heap.size, 0, #[], rfl, HB1.out.size, Row.fresh _ _ _, Nat.le_refl _, by decide, rfl, rfl⟩⟩, rfl, rfl, by simp⟩, HB1.out.trans (hb2.mono HB1.out.size)⟩
  | true =>
    have HZ := Lib.hid (show pathsB ⟨op, n, k⟩ = pathsP k by unfold pathsB ndIs; simp [hv])
    have hsz := nd_small (p := ⟨op, n, k⟩) hv
    have hlen := Fo.len_le_size k
    rw [hv] at HV
    rw [HZ.out]
    go_enter Try.func40, Try.ntmps40
    go_upto_region 1 with fail
    rw [← hW]
    clear hW
    go_wp2_with fail
    refine HV.out.mono ?_
    rintro e w1 ⟨rfl, hb1⟩
    have HB1 := Lib.hid (HB.out.trans (hb1.mono HB.out.size))
    obtain ⟨w3, hw3⟩ : ∃ w3, w3 = (w1.alloc (Obj.cells #[] 25)).alloc (Obj.cells #[] 3) := ⟨_, rfl⟩
    have hb3 : Below w1.heap.size w1 w3 := by rw [hw3]; exact ((Below.refl _ _).alloc (Nat.le_refl _) _).alloc (by simp) _
    have hr3 : Row w3 w1.heap.size 25 #[] := by rw [hw3]; exact (Row.fresh _ _ _).alloc _
    have hr4 : Row w3 (w1.heap.size + 1) 3 #[] := by
      rw [hw3]
      have := Row.fresh (w1.alloc (Obj.cells #[] 25)) 3 #[]
      rw [World.size_alloc] at this
      exact this
    have ho3 : OwnSS w3 w.heap.size (.slice (some ⟨w1.heap.size, 0, none⟩) 0 0) [] [w1.heap.size] := ⟨[], [], rfl, ⟨rfl, .inr ⟨w1.heap.size, 0, #[], rfl, HB1.out.size, hr3, Nat.le_refl _, by decide, rfl, rfl⟩⟩, rfl, rfl, by simp⟩
    have hop : w3.ownsRow w.heap.size 3 1 (.slice (some ⟨w1.heap.size + 1, 0, none⟩) ([] : List Int).length 0) ([] : List Int).length (([] : List Int).map (Value.int .i64)) := own_empty hr4 (Nat.le_trans HB1.out.size (Nat.le_succ _))
    have hc := l9Paths_any k.size [] [w1.heap.size] (.slice (some ⟨w1.heap.size, 0, none⟩) 0 0) w.heap.size op n k A c [] (some ⟨w1.heap.size + 1, 0, none⟩) 0 w3 rfl ho3 (Nat.le_trans HB1.out.size hb3.size) (HL.out.below (HB1.out.trans (hb3.mono HB1.out.size))) hop (by simp) (by simp; omega) (by simp; omega)
    unfold Paths9 at hc
    rw [paths_id, List.nil_append] at hc
    have HC := Lib.hid hc
    have HB3 := Lib.hid (HB1.out.trans (hb3.mono HB1.out.size))
    have hr := HR1.out.below hb1 HR1.out.size
    clear HV q0 q1 q2 hc hop ho3 hr3 hr4 hb3 hb1
    have q0 := (hr.alloc (Obj.cells #[] 25)).cell (i := 0) rfl
    have q1 := (hr.alloc (Obj.cells #[] 25)).cell (i := 1) rfl
    have q2 := (hr.alloc (Obj.cells #[] 25)).cell (i := 2) rfl
    clear hr
    go_upto_region 3 with fail
    go_wp2_with fail
    rw [← hw3]
    refine HC.out.mono ?_
    rintro e w5 ⟨A5, c5, bs5, rfl, ho5, hg5, _, _⟩
    have HO5 := Lib.hid ho5
    have HB5 := Lib.hid (Below.grown HB3.out hg5 HB3.out.size (fun g hg => by
      have : w1.heap.size = g := Option.some.inj hg
      have := HB1.out.size
      omega))
    clear HC ho5 hg5 q0 q1 q2 hw3
    go_wp2_with fail
    go_ret
    exact ⟨A5, c5, bs5, rfl, HO5.out, HB5.out⟩
end Go.Proofs.Ytiefobkddckkbaa
