/-
  The paths of the calls of a function, as data; a list of lists from which some are picked.
  impl.CallPaths.
-/
import Derived.Test.YtbbieamgjbijlaaPathsS
namespace Go.Proofs.Ytbbieamgjbijlaa
open Go.RowKit Go.Shelf
set_option maxRecDepth 100000

/-- Is the part at a path a call of the function x? -/
def callsF (p : Nd) (x : Int) (zs : List Int) : Bool := decide (((partN p zs).getD nd0).op = 3) && decide (((partN p zs).getD nd0).n = x)
def callsB (p : Nd) (x : Int) : List (List Int) := (pathsB p).filter (callsF p x)
theorem callsB_len (p : Nd) (x : Int) : (callsB p x).length ≤ 81 := Nat.le_trans (List.length_filter_le _ _) (pathsB_len p)
theorem pathsB_short {p : Nd} {zs : List Int} (h : zs ∈ pathsB p) : zs.length ≤ 80 := by
  unfold pathsB at h
  split at h
  · rename_i hv
    exact Nat.le_trans (pathsP_short h) (nd_small hv)
  · cases h
theorem callsB_flat (p : Nd) (x : Int) : (callsB p x).flatten.length ≤ 1048576 := by
  have h := flat_bound (callsB p x) 80 fun zs hz => pathsB_short (List.mem_filter.1 hz).1
  have := callsB_len p x
  omega
theorem filter_step {zss : List (List Int)} {j : Nat} {zs : List Int} (f : List Int → Bool) (h : zss[j]? = some zs) : (zss.take (j + 1)).filter f = (zss.take j).filter f ++ (if f zs then [zs] else []) := by
  rw [List.take_add_one, h, List.filter_append]
  congr 1
  simp only [Option.toList_some]
  cases hf : f zs <;> simp [hf]

/-- A list of lists (st, in the slice at Al) of which the first j were looked at; some of them are now in the list acc, which is the call's own. -/
def Pk (w : World) (base : Nat) (Al : Option Addr) (cl : Nat) (st : List Hd) (j : Nat) (v : Value) (acc : List (List Int)) (bs : List Nat) : Prop :=
  ∃ q, OwnSS w base v acc bs ∧ InS w base (st.drop j) q ∧ q.Nodup ∧ (∀ b, b ∈ bs → b ∈ q → False) ∧ w.ownsRow base 32 1 (.slice Al st.length cl) st.length (st.map Hd.val) ∧ (∀ g, (Value.slice Al st.length cl).ownBlock = some g → g ∉ bs ∧ g ∉ q)

section
variable {w w' : World} {base : Nat} {Al : Option Addr} {cl : Nat} {st : List Hd} {j : Nat} {v : Value} {acc : List (List Int)} {bs : List Nat}

theorem Pk.start {zss : List (List Int)} {bl : List Nat} (h : OwnSS w base (.slice Al zss.length cl) zss bl) (ho : OwnSS w base v [] bs) (hd : ∀ b, b ∈ bs → b ∈ bl → False) : ∃ st, st.map Hd.zs = zss ∧ st.length = zss.length ∧ Pk w base Al cl st 0 v [] bs := by
  obtain ⟨st, b1, h0, h1, h2, h3, h4⟩ := h
  have hl : st.length = zss.length := by rw [← h0]; simp
  subst h3
  refine ⟨st, h0, hl, b1, ho, by simpa using h2, (List.nodup_append.1 h4).2.1, fun b h1 h2 => hd b h1 (by simp [h2]), by rw [hl]; exact h1, fun g hg => ?_⟩
  rw [hl] at hg
  have hv : g ∈ blkV (Value.slice Al zss.length cl) := by unfold blkV; rw [hg]; simp
  exact ⟨fun hb => hd g hb (by simp [hv]), fun hb => (List.nodup_append.1 h4).2.2 g hv g hb rfl⟩
theorem Pk.over (h : Pk w base Al cl st j v acc bs) (hb : Below w.heap.size w w') : Pk w' base Al cl st j v acc bs := by
  obtain ⟨q, h1, h2, h3, h4, h5, h6⟩ := h
  exact ⟨q, h1.over hb, h2.keep fun b hbm => hb.block b (h2.lt b hbm).2, h3, h4, own_below h5 hb, h6⟩
theorem Pk.head {h : Hd} (hp : Pk w base Al cl st j v acc bs) (e : st[j]? = some h) :
    ∃ g, Al = some ⟨g, 0, none⟩ ∧ w.cell? ⟨g, j, none⟩ = some h.val ∧ g < w.heap.size ∧ LiesI w 0 w.heap.size h.A h.zs := by
  obtain ⟨q, h1, h2, h3, h4, h5, h6⟩ := hp
  have hd : (st.drop j)[0]? = some h := by rw [List.getElem?_drop]; exact e
  obtain ⟨g1, g2, _⟩ := h2.at_ hd
  obtain ⟨A', c', hv, hl⟩ := own_ints g1 g2
  injection hv with e1 _ _
  have hcell : (st.map Hd.val)[j]? = some h.val := by rw [List.getElem?_map, e]; rfl
  have hj := (List.getElem?_eq_some_iff.1 e).1
  rcases h5.2 with ⟨_, hn⟩ | ⟨g, cap, cur, hv2, hq, hh, hr⟩
  · omega
  · injection hv2 with e4
    subst e4
    have hc := h5.cells (g := g) rfl j _ hcell
    rw [add_plainP, Nat.zero_add] at hc
    exact ⟨g, rfl, hc, (Array.getElem?_eq_some_iff.1 hh).1, by rw [e1]; exact hl.mono_ (Nat.zero_le _) (Nat.le_refl _)⟩
theorem Pk.skip {h : Hd} (hp : Pk w base Al cl st j v acc bs) (e : st[j]? = some h) : Pk w base Al cl st (j + 1) v acc bs := by
  obtain ⟨q, h1, h2, h3, h4, h5, h6⟩ := hp
  have hd : st.drop j = h :: st.drop (j + 1) := by
    obtain ⟨hj, e'⟩ := List.getElem?_eq_some_iff.1 e
    rw [← e']
    exact (List.getElem_cons_drop hj).symm
  rw [hd] at h2
  obtain ⟨q2, _, _, k3, rfl⟩ := h2
  exact ⟨q2, h1, k3, (List.nodup_append.1 h3).2.1, fun b hb hq => h4 b hb (by simp [hq]), h5, fun g hg => ⟨(h6 g hg).1, fun hq => (h6 g hg).2 (by simp [hq])⟩⟩
theorem Pk.take {h : Hd} (hp : Pk w base Al cl st j v acc bs) (e : st[j]? = some h) (hn : acc.length + 1 ≤ 1048576) (hb : base ≤ w.heap.size) :
    ∃ A' c' w' bs', (∀ ty, (Builtin.append_ #[27, 27] ty #[v, .slice (some ⟨w.heap.size, 0, none⟩) 1 1]).run Try.prog (w.alloc (.cells #[h.val] 32)) = .ok (.slice A' (acc.length + 1) c') w') ∧ Pk w' base Al cl st (j + 1) (.slice A' (acc.length + 1) c') (acc ++ [h.zs]) bs' ∧ w.grownBy w' v.ownBlock := by
  obtain ⟨q, h1, h2, h3, h4, h5, h6⟩ := hp
  have hd : st.drop j = h :: st.drop (j + 1) := by
    obtain ⟨hj, e'⟩ := List.getElem?_eq_some_iff.1 e
    rw [← e']
    exact (List.getElem_cons_drop hj).symm
  rw [hd] at h2
  obtain ⟨q2, k1, k2, k3, rfl⟩ := h2
  have hlt := k3.lt
  obtain ⟨A', c', w', bs', r1, r2, r3, r4, _⟩ := h1.push_run k1 k2 (fun b hb hq => h4 b hb (by simp [hq])) hn hb
  have hnv : ∀ b, b ∈ q2 → some b ≠ v.ownBlock := fun b hq e9 => h4 b (h1.own b e9.symm) (by simp [hq])
  refine ⟨A', c', w', bs', r1, ⟨q2, r2, k3.keep fun b hq => r3.block b (hlt b hq).2 (hnv b hq), (List.nodup_append.1 h3).2.1, fun b hb hq => ?_, own_at h5 fun g hg => r3.block g (h5.lt g hg).2 (fun e9 => (h6 g hg).1 (h1.own g e9.symm)), fun g hg => ⟨fun hb => ?_, fun hq => (h6 g hg).2 (by simp [hq])⟩⟩, r3⟩
  · rcases r4 b hb with hx | hx | hx
    · exact h4 b hx (by simp [hq])
    · exact (List.nodup_append.1 h3).2.2 b hx b hq rfl
    · have := (hlt b hq).2; omega
  · rcases r4 g hb with hx | hx | hx
    · exact (h6 g hg).1 hx
    · exact (h6 g hg).2 (by simp [hx])
    · have := (h5.lt g hg).2; omega
end

set_option maxHeartbeats 4000000 in
theorem implCallPaths_any (op n : Int) (k : Fo) (A : Option Addr) (c : Nat) (x : Int) (w : World) (hl : Lies w 0 w.heap.size A 0 k) (hk1 : k.len ≤ c) (hk2 : c ≤ maxLen) (hi : I64 op ∧ I64 n) :
    Calls Try.prog 17 #[.agg #[.int .i64 op, .int .i64 n, .slice A k.len c], .int .i64 x] w (PathsPost (callsB ⟨op, n, k⟩ x) w) := by
  obtain ⟨hb, r1⟩ := one_box w 25 #[Value.int IntKind.i64 op, Value.int IntKind.i64 n, Value.slice A k.len c]
  obtain ⟨W, hW⟩ : ∃ W, W = w.alloc (Obj.cells #[Value.int IntKind.i64 op, Value.int IntKind.i64 n, Value.slice A k.len c] 25) := ⟨_, rfl⟩
  rw [← hW] at hb r1
  have HB := Lib.hid hb
  have HR1 := Lib.hid r1
  have HP := Lib.hid (implPaths_any op n k A c W (hl.up hb) (Nat.le_trans hk1 hk2))
  have HL := Lib.hid hl
  have HI := Lib.hid hi
  have q0 := r1.cell (i := 0) rfl
  have q1 := r1.cell (i := 1) rfl
  have q2 := r1.cell (i := 2) rfl
  obtain ⟨zss, hzss⟩ : ∃ z, z = pathsB ⟨op, n, k⟩ := ⟨_, rfl⟩
  have hzl : zss.length ≤ 81 := by rw [hzss]; exact pathsB_len _
  have hzm : ∀ zs, zs ∈ zss → zs.length ≤ 80 := fun zs hz => by rw [hzss] at hz; exact pathsB_short hz
  obtain ⟨goal, hgoal⟩ : ∃ z, z = callsB ⟨op, n, k⟩ x := ⟨_, rfl⟩
  have hgz : goal = zss.filter (callsF ⟨op, n, k⟩ x) := by rw [hgoal, hzss]; rfl
  rw [← hgoal]
  rw [← hzss] at HP
  have HZM := Lib.hid hzm
  have HGZ := Lib.hid hgz
  clear hb r1 hl hi hzm hgz hgoal hzss
  go_enter Try.func17, Try.ntmps17
  go_upto_region 2 with fail
  rw [← hW]
  clear hW
  go_wp2_with fail
  refine HP.out.mono ?_
  rintro e w1 ⟨Al, cl, bl, rfl, hol, hb1⟩
  have hol' := hol.lower (base' := w.heap.size) HB.out.size
  obtain ⟨st, hst, hstl, hpk⟩ := Pk.start hol' (OwnSS.nil w1 w.heap.size) (fun b hb _ => by cases hb)
  have HPK := Lib.hid hpk
  have HST := Lib.hid hst
  have HB1 := Lib.hid (HB.out.trans (hb1.mono HB.out.size))
  have HR2 := Lib.hid (HR1.out.below hb1 HR1.out.size)
  rw [← hstl]
  have hsl : st.length ≤ 81 := by omega
  clear HP hol hol' hpk hst hb1 q0 q1 q2 hstl
  go_wp2_with fail
  go_loopw [5, 13] (fun v i wr => ∃ (j : Nat) (acc : List (List Int)) (bs : List Nat) (A5 : Option Addr) (c5 : Nat), j ≤ st.length ∧ i = .int .i64 (j : Int) ∧ v = .slice A5 acc.length c5 ∧ acc = (zss.take j).filter (callsF ⟨op, n, k⟩ x) ∧ Pk wr w.heap.size Al cl st j (.slice A5 acc.length c5) acc bs ∧ Row wr w.heap.size 25 #[Value.int IntKind.i64 op, Value.int IntKind.i64 n, Value.slice A k.len c] ∧ Below w.heap.size w wr)
    (fun _ i _ => st.length - (intOf i).toNat)
  case atStart => exact ⟨0, [], [], none, 0, Nat.zero_le _, rfl, rfl, by simp, HPK.out, HR2.out, HB1.out⟩
  case round =>
    clear HPK HB1 HR2 HR1 HB
    obtain ⟨j, acc, bs, A5, c5, hj, rfl, rfl, hacc, hpk, hre, hb⟩ := hrel
    have hal : acc.length ≤ 81 := by rw [hacc]; exact Nat.le_trans (List.length_filter_le _ _) (by rw [List.length_take]; omega)
    have HACC := Lib.hid hacc
    clear hacc
    by_cases hlt : j < st.length
    · have e1 := List.getElem?_eq_getElem hlt
      generalize st[j] = h at e1
      obtain ⟨g, hA, hc, hg, hli⟩ := hpk.head e1
      subst hA
      have ez : zss[j]? = some h.zs := by rw [← HST.out, List.getElem?_map, e1]; rfl
      have hzl2 := HZM.out h.zs (List.mem_of_getElem? ez)
      have hn : NodeIn wr 0 wr.heap.size ⟨w.heap.size, 0, none⟩ ⟨op, n, k⟩ := ⟨rfl, HI.out, A, c, hre.cell (i := 0) rfl, hre.cell (i := 1) rfl, hre.cell (i := 2) rfl, hk1, hk2, (HL.out.below hb).mono_ (Nat.le_refl _) hb.size⟩
      have HC := Lib.hid (partOf_any ⟨w.heap.size, 0, none⟩ ⟨op, n, k⟩ h.zs h.A h.c 0 wr.heap.size wr hn hli (by omega))
      obtain ⟨A7, c7, w7, bs7, hrun, hpk7, hg7⟩ := hpk.take e1 (by omega) hb.size
      have HRUN := Lib.hid (hrun 27)
      have HPK7 := Lib.hid hpk7
      have HB7 := Lib.hid (Below.grown hb hg7 hb.size (fun z hz => by obtain ⟨q, k1, _⟩ := hpk; exact (k1.lt z (k1.own z hz)).1))
      have HR7 := Lib.hid (row_grown' hre hg7 (fun e => by obtain ⟨q, k1, _⟩ := hpk; obtain ⟨st', b1', h0', h1', _⟩ := k1; exact own_other_row h1' hre (by decide) e))
      have HSK := Lib.hid (hpk.skip e1)
      have HFS := Lib.hid (filter_step (callsF ⟨op, n, k⟩ x) ez)
      have HRE := Lib.hid hre
      have HBR := Lib.hid hb
      unfold Hd.val at hc HRUN
      clear hpk hre hb hn hli hrun hpk7 hg7 e1 ez
      go_wp2_with fail
      refine HC.out.mono ?_
      rintro e w2 ⟨rfl, ⟨b, p, rfl, hp, hnb, _⟩ | ⟨rfl, hp⟩⟩
      · obtain ⟨hsp, hip, A', c', t0, t1, t2, k1, k2, hlq⟩ := hnb
        obtain ⟨bb, bo, bsp⟩ := b
        simp only at hsp t0 t1 t2
        subst hsp
        clear HC hlq
        by_cases h3 : p.op = 3
        · by_cases h4 : p.n = x
          · have HF := Lib.hid (show callsF ⟨op, n, k⟩ x h.zs = true by unfold callsF; rw [hp]; simp [h3, h4])
            have b1 : (p.op == 3) = true := by simpa using h3
            have b2 : (p.n == x) = true := by simpa using h4
            clear h3 h4 hp
            go_wp2_with (at_builtin; refine wpList_append_ran rfl _ _ 27 rfl _ _ _ rfl rfl HRUN.out ?_)
            go_roundw
            case rel => exact ⟨j + 1, acc ++ [h.zs], bs7, A7, c7, hlt, by go_num, by simp, by rw [HFS.out, HF.out, ← HACC.out]; rfl, by simpa using HPK7.out, HR7.out, HB7.out⟩
            case measure => simp [intOf]; omega
          · have HF := Lib.hid (show callsF ⟨op, n, k⟩ x h.zs = false by unfold callsF; rw [hp]; simp [h3, h4])
            have b1 : (p.op == 3) = true := by simpa using h3
            have b2 : (p.n == x) = false := by simpa using h4
            clear h3 h4 hp
            go_wp2_with fail
            go_roundw
            case rel => exact ⟨j + 1, acc, bs, A5, c5, hlt, by go_num, rfl, by rw [HFS.out, HF.out, ← HACC.out]; simp, HSK.out, HRE.out, HBR.out⟩
            case measure => simp [intOf]; omega
        · have HF := Lib.hid (show callsF ⟨op, n, k⟩ x h.zs = false by unfold callsF; rw [hp]; simp [h3])
          have b1 : (p.op == 3) = false := by simpa using h3
          clear h3 hp
          go_wp2_with fail
          go_roundw
          case rel => exact ⟨j + 1, acc, bs, A5, c5, hlt, by go_num, rfl, by rw [HFS.out, HF.out, ← HACC.out]; simp, HSK.out, HRE.out, HBR.out⟩
          case measure => simp [intOf]; omega
      · have HF := Lib.hid (show callsF ⟨op, n, k⟩ x h.zs = false by unfold callsF; rw [hp]; simp [nd0])
        clear HC hp
        go_wp2_with fail
        go_roundw
        case rel => exact ⟨j + 1, acc, bs, A5, c5, hlt, by go_num, rfl, by rw [HFS.out, HF.out, ← HACC.out]; simp, HSK.out, HRE.out, HBR.out⟩
        case measure => simp [intOf]; omega
    · have e9 : j = st.length := by omega
      have hall : acc = goal := by rw [HACC.out, HGZ.out, e9, show st.length = zss.length by rw [← HST.out]; simp, List.take_length]
      subst hall
      obtain ⟨q, ho, _⟩ := hpk
      have HO := Lib.hid ho
      have HBZ := Lib.hid hb
      clear ho hb hre
      go_wp2_with fail
      go_ret
      exact ⟨A5, c5, bs, rfl, HO.out, HBZ.out⟩
end Go.Proofs.Ytbbieamgjbijlaa
