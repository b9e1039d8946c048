/-
  spec.l1Mutate: an expression is copied, and sometimes made invalid. That it comes to an end hangs on the source: the threes of thirty that it gives are few (Ok).
-/
import Derived.Test.YtpknegneogdmfaaGreatSomeS
import Derived.Test.YtpknegneogdmfaaGreatCopyS
namespace Go.Proofs.YtpknegneogdmfaaGreat
open Go.RowKit Go.Shelf
set_option maxRecDepth 100000

/-- What a mutation leaves: a tree of its own, no greater than the picks that were made allow. -/
def MutPost (g : Nat) (A : Option Addr) (bc : Nat) (bs : List Nat) (Q p : Nat) (b : Int) (s : Nat) (w : World) (e : Ending) (w' : World) : Prop :=
  ∃ op n k X c bl p', e = .returned (.agg #[.int .i64 op, .int .i64 n, .slice X (Fo.len k) c]) ∧ (I64 op ∧ I64 n) ∧ Tree w' w.heap.size (.slice X k.len c) k bl ∧ (k.size + p ≤ s + p' ∧ p < p') ∧ Rd w' g A bc bs p' ∧ Ok bs Q p' b ∧ Only g w.heap.size w w'

/-- The head of a list of nodes is written anew, by a tree that lies apart. -/
theorem tree_head {w : World} {base gA l c : Nat} {o1 m1 o2 m2 : Int} {k1 r k2 : Fo} {A2 : Option Addr} {c2 : Nat} {bs b2 : List Nat} (ht : Tree w base (.slice (some ⟨gA, 0, none⟩) l c) (.cons o1 m1 k1 r) bs) (h2 : Tree w base (.slice A2 k2.len c2) k2 b2)
    (hd : ∀ z, z ∈ bs → z ∈ b2 → False) (hi : I64 o2 ∧ I64 m2) :
    ∃ bs', Tree (((w.setCell ⟨gA, 0, none⟩ (.int .i64 o2)).setCell ⟨gA, 1, none⟩ (.int .i64 m2)).setCell ⟨gA, 2, none⟩ (.slice A2 k2.len c2)) base (.slice (some ⟨gA, 0, none⟩) l c) (.cons o2 m2 k2 r) bs' := by
  obtain ⟨st, b1, h1, ⟨A1, c1, stk, bk, st', br, i1, j1, j2, rfl, j4, rfl⟩, rfl, hn⟩ := ht
  obtain ⟨st2, bk2, k1', k2', rfl, hn2⟩ := h2
  simp only [blkV_slice] at hn2 hd hn
  have hg : gA ∈ blkOf (some ⟨gA, 0, none⟩) := by simp [blkOf]
  have hnA := List.nodup_append.1 hn
  have hgr : ∀ z, z ∈ (blkOf A1 ++ bk) ++ br → z ≠ gA := fun z hz e => hnA.2.2 gA hg z hz e.symm
  have hg2 : ∀ z, z ∈ blkOf A2 ++ bk2 → z ≠ gA := fun z hz e => hd gA (List.mem_append_left _ hg) (e ▸ hz)
  obtain ⟨W, hW⟩ : ∃ W, W = ((w.setCell ⟨gA, 0, none⟩ (.int .i64 o2)).setCell ⟨gA, 1, none⟩ (.int .i64 m2)).setCell ⟨gA, 2, none⟩ (.slice A2 k2.len c2) := ⟨_, rfl⟩
  have hkeep : ∀ z, z ≠ gA → W.heap[z]? = w.heap[z]? := fun z hz => by
    rw [hW, Below.heap_setCell _ _ _ z hz, Below.heap_setCell _ _ _ z hz, Below.heap_setCell _ _ _ z hz]
  rw [← hW]
  refine ⟨blkOf (some ⟨gA, 0, none⟩) ++ ((blkOf A2 ++ bk2) ++ br), ⟨o2, m2, k2, A2, c2⟩ :: st', (blkOf A2 ++ bk2) ++ br, ?_, ⟨A2, c2, st2, bk2, st', br, hi, own_at k1' fun z hz => hkeep z (hg2 z ?_), k2'.keep fun z hz => hkeep z (hg2 z (List.mem_append_right _ hz)), rfl, j4.keep fun z hz => hkeep z (hgr z (List.mem_append_right _ hz)), rfl⟩, by rw [blkV_slice], ?_⟩
  · refine ⟨by have := h1.1; simp only [cells3, Nx.cells, List.length_append, List.length_cons, List.length_nil] at this ⊢; exact this, ?_⟩
    rcases h1.2 with ⟨h0, _⟩ | ⟨g', cap, cur, hv, hb, hh, hle, hm, hsz, htk⟩
    · cases h0
    · injection hv with hA hll hcc
      injection hA with hA
      injection hA with hA
      subst hA hcc
      subst hll
      have hr0 : Row w gA 36 cur := hh
      have hr := ((hr0.put 0 (.int .i64 o2)).put 1 (.int .i64 m2)).put 2 (.slice A2 k2.len c2)
      rw [← hW] at hr
      refine .inr ⟨gA, _, _, by rfl, hb, hr, hle, hm, by simpa using hsz, ?_⟩
      simp only [Array.toList_setIfInBounds, List.take_set]
      have htk2 : cur.toList.take ((Fo.cons o2 m2 k2 r).len * 3) = cells3 (⟨o1, m1, k1, A1, c1⟩ :: st') := htk
      rw [htk2]
      rfl
  · cases A2 with
    | none => cases hz
    | some a => cases hz; simp [blkOf]
  · have hn3 := List.nodup_append.1 hnA.2.1
    refine List.nodup_append.2 ⟨hnA.1, List.nodup_append.2 ⟨hn2, hn3.2.1, fun x hx y hy e => hd y (List.mem_append_right _ (List.mem_append_right _ hy)) (e ▸ hx)⟩, ?_⟩
    intro x hx y hy e
    rcases List.mem_append.1 hy with h | h
    · exact hd x (List.mem_append_left _ hx) (e ▸ h)
    · exact hnA.2.2 x hx y (List.mem_append_right _ h) e
/-- The end: the node in the box at c5 is handed back. -/
theorem mut_end {g : Nat} {A : Option Addr} {bc : Nat} {bs : List Nat} {Q p : Nat} {b : Int} {s : Nat} {w V : World} {op n : Int} {k : Fo} {X : Option Addr} {c : Nat} {bl : List Nat} {p' : Nat} (ht : Tree V (w.heap.size + 2) (.slice X k.len c) k bl) (hi : I64 op ∧ I64 n) (hsz : k.size + p ≤ s + p' ∧ p < p')
    (hrd : Rd V g A bc bs p') (hok : Ok bs Q p' b) (hon : Only g w.heap.size w V) (hg : g < w.heap.size) (u0 u1 u2 : Value) :
    MutPost g A bc bs Q p b s w (.returned (.agg #[.int .i64 op, .int .i64 n, .slice X k.len c])) (((V.setCell ⟨w.heap.size + 1, 0, none⟩ u0).setCell ⟨w.heap.size + 1, 1, none⟩ u1).setCell ⟨w.heap.size + 1, 2, none⟩ u2) := by
  refine ⟨op, n, k, X, c, bl, p', rfl, hi, (ht.keep fun z hz => ?_).lower (by omega), hsz, ((Row.apart hrd (by dsimp only; omega) _).apart (by dsimp only; omega) _).apart (by dsimp only; omega) _, hok, ((hon.set (.inr (by dsimp only; omega)) _).set (.inr (by dsimp only; omega)) _).set (.inr (by dsimp only; omega)) _⟩
  have hz1 := (ht.lt z hz).1
  have hz2 : z ≠ w.heap.size + 1 := by omega
  rw [Below.heap_setCell _ _ _ z hz2, Below.heap_setCell _ _ _ z hz2, Below.heap_setCell _ _ _ z hz2]

set_option maxHeartbeats 8000000 in
theorem mut_any (m : Nat) : ∀ (g base : Nat) (A : Option Addr) (bc : Nat) (bs : List Nat) (Q p : Nat) (b : Int) (op n : Int) (k : Fo) (X : Option Addr) (c : Nat) (w : World), Q - p = m →
    Rd w g A bc bs p → LiesY w 0 base A bs → base ≤ g → bs.length ≤ 2000 → Lim bs Q → Ok bs Q p b → b ≤ 3990 → Lies w 0 w.heap.size X 0 k → I64 op ∧ I64 n → k.size ≤ 40000 + p →
    Calls Tryz.prog 32 #[.pointer (some ⟨g, 0, none⟩), .agg #[.int .i64 op, .int .i64 n, .slice X k.len c]] w (MutPost g A bc bs Q p (b + 2) k.size w) := by
  induction m using Nat.strongRecOn with
  | _ m ih =>
    intro g base A bc bs Q p b op n k X c w hm hr hY hbg hl hQ hok hb9 hlk hi hks
    have hp := hok.pb hQ
    have hgz : g < w.heap.size := hr.size
    have HY0 := Lib.hid hY
    obtain ⟨Wa, hWa⟩ : ∃ Wa, Wa = (w.alloc (Obj.cells #[.int .i64 op, .int .i64 n, .slice X k.len c] 36)).alloc (Obj.cells #[.int .i64 0, .int .i64 0, .slice none 0 0] 36) := ⟨_, rfl⟩
    have hba : Below w.heap.size w Wa := by rw [hWa]; exact ((Below.refl _ _).alloc (Nat.le_refl _) _).alloc (by simp) _
    have hra : Row Wa w.heap.size 36 #[.int .i64 op, .int .i64 n, .slice X k.len c] := by rw [hWa]; exact (Row.fresh _ _ _).alloc _
    have hre : Row Wa (w.heap.size + 1) 36 #[.int .i64 0, .int .i64 0, .slice none 0 0] := by
      rw [hWa]
      have := Row.fresh (w.alloc (Obj.cells #[.int .i64 op, .int .i64 n, .slice X k.len c] 36)) 36 #[.int .i64 0, .int .i64 0, .slice none 0 0]
      rw [World.size_alloc] at this
      exact this
    have HCC := Lib.hid (l1Copy_any k.size op n k X c Wa rfl ((hlk.below hba).mono_ (Nat.le_refl _) hba.size) (by omega) hi)
    have a0 := hra.cell (i := 0) rfl
    have a1 := hra.cell (i := 1) rfl
    have a2 := hra.cell (i := 2) rfl
    have HRE := Lib.hid hre
    have HBA := Lib.hid hba
    have HRD := Lib.hid (show Rd Wa g A bc bs p from Row.below hr hba hr.size)
    have HOK := Lib.hid hok
    clear hra hre hba hr hY hlk hok
    go_enter Tryz.func32, Tryz.ntmps32
    go_upto_region 1 with fail
    rw [← hWa]
    clear hWa
    go_wp2_with fail
    refine HCC.out.mono ?_
    rintro e w2 ⟨A2, c2, b2, rfl, ht2, hb2⟩
    obtain ⟨c5, hc5⟩ : ∃ c, c = w2.heap.size := ⟨_, rfl⟩
    obtain ⟨W3, hW3⟩ : ∃ W3, W3 = w2.alloc (Obj.cells #[.int .i64 op, .int .i64 n, .slice A2 k.len c2] 36) := ⟨_, rfl⟩
    have hb3 : Below w2.heap.size w2 W3 := by rw [hW3]; exact (Below.refl _ _).alloc (Nat.le_refl _) _
    have HX5 := Lib.hid (show Row W3 c5 36 #[.int .i64 op, .int .i64 n, .slice A2 k.len c2] by rw [hW3, hc5]; exact Row.fresh _ _ _)
    have hwa2 : w.heap.size + 2 ≤ Wa.heap.size := HRE.out.size
    have HRE3 := Lib.hid ((HRE.out.below hb2 HRE.out.size).below hb3 (Nat.lt_of_lt_of_le HRE.out.size hb2.size))
    have hrd3 : Rd W3 g A bc bs p := Row.below (Row.below HRD.out hb2 (Row.size HRD.out)) hb3 (Nat.lt_of_lt_of_le (Row.size HRD.out) hb2.size)
    have hon3 : Only g w.heap.size w W3 := .of_below (HBA.out.trans ((hb2.trans (hb3.mono hb2.size)).mono HBA.out.size))
    have HT3 := Lib.hid ((ht2.over hb3).lower (base' := w.heap.size + 2) hwa2)
    have HBK := Lib.hid (show ∀ z, z ∈ b2 → w.heap.size + 2 ≤ z ∧ z < c5 from fun z hz => ⟨Nat.le_trans hwa2 (ht2.lt z hz).1, by rw [hc5]; exact (ht2.lt z hz).2⟩)
    have HG := Lib.hid (show base ≤ w.heap.size ∧ g < w.heap.size ∧ w.heap.size + 2 ≤ c5 ∧ c5 < W3.heap.size from ⟨by omega, hgz, by rw [hc5]; exact Nat.le_trans hwa2 hb2.size, HX5.out.size⟩)
    have HCP := Lib.hid (pick_v g base A bc bs p 30 W3 hrd3 (liesY_only HY0.out hon3 (by omega) hbg) hbg hl hp (by decide) (by decide))
    have HON3 := Lib.hid hon3
    clear HCC HRE HRD HBA a0 a1 a2 ht2 hb2 hb3 hwa2 hrd3 hon3
    go_upto_region 2 with fail
    rw [← hW3, ← hc5]
    clear hW3 hc5
    go_wp2_with fail
    refine HCP.out.mono ?_
    rintro e w4 ⟨rfl, hr4, hon4⟩
    have HX4 := Lib.hid (HX5.out.only hon4 HX5.out.size (by have := HG.out; omega))
    have HRE4 := Lib.hid (HRE3.out.only hon4 HRE3.out.size (by have := HG.out; omega))
    have HRD4 := Lib.hid (show Rd w4 g A bc bs (p + 1) from hr4)
    have HON4 := Lib.hid (HON3.out.trans (hon4.mono HON3.out.size))
    have HT4 := Lib.hid (HT3.out.keep fun z hz => hon4.block z (by have := HBK.out z hz; have := HG.out; omega) (by have := HBK.out z hz; have := HG.out; omega))
    have HG4 := Lib.hid (show base ≤ w.heap.size ∧ g < w.heap.size ∧ w.heap.size + 2 ≤ c5 ∧ c5 < w4.heap.size from ⟨HG.out.1, HG.out.2.1, HG.out.2.2.1, HX4.out.size⟩)
    clear hr4 hon4 HX5 HRE3 HON3 HT3 HCP HG
    have HOK1 := Lib.hid (HOK.out.next hQ (by omega))
    by_cases hx3 : pkL bs p 30 = 3
    · -- three: the first of the Kids, twice
      have HOK3 := Lib.hid (HOK.out.three hQ (by omega) hx3)
      rw [hx3, show ((3 : Nat) : Int) = 3 from rfl]
      have IH := Lib.hid ih
      cases k with
      | nil =>
        have HX4' := Lib.hid (show Row w4 c5 36 #[.int .i64 op, .int .i64 n, .slice A2 0 c2] from HX4.out)
        have s2' := HX4'.out.cell (i := 2) rfl
        clear hx3
        have s0 := HX4.out.cell (i := 0) rfl
        have s1 := HX4.out.cell (i := 1) rfl
        have f0 := HRE4.out.free 0
        have f1 := HRE4.out.free 1
        have f2 := HRE4.out.free 2
        have d0 := HRE4.out.cell (i := 0) rfl
        have d1 := HRE4.out.cell (i := 1) rfl
        have d2 := HRE4.out.cell (i := 2) rfl
        go_wp2_with fail
        have r7 := ((HRE4.out.put 0 (.int .i64 op)).put 1 (.int .i64 n)).put 2 (.slice A2 0 c2)
        have t0 := r7.cell (i := 0) rfl
        have t1 := r7.cell (i := 1) rfl
        have t2 := r7.cell (i := 2) rfl
        refine bodyPost_ret (v := .agg #[.int .i64 op, .int .i64 n, .slice A2 0 c2]) ?_ rfl (mut_end (k := .nil) HT4.out hi ⟨by omega, by omega⟩ HRD4.out (HOK1.out.mono (by omega)) HON4.out HG4.out.2.1 _ _ _)
        simp [results, Tryz.f32, go_sem, t0, t1, t2]
      | cons o1 m1 k1 r =>
        obtain ⟨gA, hA2, hgA, cur, hrA⟩ : ∃ gA, A2 = some ⟨gA, 0, none⟩ ∧ gA ∈ b2 ∧ ∃ cur, Row w4 gA 36 cur := by
          obtain ⟨st, b1', h1, h2, hbs, h4⟩ := HT4.out
          rcases h1.2 with ⟨_, h0⟩ | ⟨g', cap, cur, hv, hb, hh, _⟩
          · simp [Fo.len] at h0
          · injection hv with hA hll hcc
            exact ⟨g', hA, by rw [hbs, hA]; simp [blkV, Value.ownBlock], cur, hh⟩
        subst hA2
        have hgb := HBK.out gA hgA
        obtain ⟨⟨b8, o8, A1, c1, hA8, _, hb8, i1, i2, g0, g1, g2, e1, e2, hl1⟩, _⟩ := HT4.out.lies (B := w4.heap.size) (fun z hz => (HT4.out.lt z hz).2)
        injection hA8 with hA8
        injection hA8 with hA8 hA9
        subst hA8 hA9
        simp only [Nat.zero_mul, Nat.zero_add] at g0 g1 g2
        have HRA := Lib.hid (show ∃ cur, Row w4 gA 36 cur from ⟨cur, hrA⟩)
        have HL := Lib.hid (show (Fo.cons o1 m1 k1 r).len = r.len + 1 from rfl)
        have hks1 : k1.size + r.size + 1 ≤ 40000 + p := hks
        have HC1 := Lib.hid (ih (Q - (p + 1)) (by have := HOK.out.lt; omega) g base A bc bs Q (p + 1) (b - 2) o1 m1 k1 A1 c1 w4.drew rfl HRD4.out (liesY_only HY0.out HON4.out HG4.out.1 hbg).drew hbg hl hQ HOK3.out (by omega) ((hl1.below ((Below.refl w4.heap.size w4).drew)).mono_ (Nat.zero_le _) (Nat.le_refl _)) ⟨i1, i2⟩ (by omega))
        have q5 : w4.drew.cell? ⟨c5, 2, none⟩ = some (.slice (some ⟨gA, 0, none⟩) (Fo.cons o1 m1 k1 r).len c2) := HX4.out.cell (i := 2) rfl
        have q50 : w4.cell? ⟨c5, 2, none⟩ = some (.slice (some ⟨gA, 0, none⟩) (Fo.cons o1 m1 k1 r).len c2) := HX4.out.cell (i := 2) rfl
        have p0 : w4.drew.cell? ⟨gA, 0, none⟩ = some (.int .i64 o1) := g0
        have p1 : w4.drew.cell? ⟨gA, 1, none⟩ = some (.int .i64 m1) := g1
        have p2 : w4.drew.cell? ⟨gA, 2, none⟩ = some (.slice A1 k1.len c1) := g2
        clear ih hrA g0 g1 g2 e1 e2 hl1 hx3
        have hpos : decide (0 < (Fo.cons o1 m1 k1 r).len) = true := by simp [Fo.len]
        have hidx : 0 < (Fo.cons o1 m1 k1 r).len := by simp [Fo.len]
        go_wp2_with fail
        go_region_law (first
            | (refine step_call (f := 32) rfl (by kernel_rfl) HC2.out ?_
               rintro e w6 ⟨o4, m4, k4, A4, c4, b4, p4, rfl, hi4, ht4, hs4, hrd4, hok4, hon4⟩
               refine ⟨_, rfl, ?_⟩
               have z5 : w6.cell? ⟨c5, 2, none⟩ = some (.slice (some ⟨gA, 0, none⟩) (Fo.cons o1 m1 k1 r).len c2) := (hon4.cell (p := ⟨c5, 2, none⟩) (World.block_lt_of_cell? _ _ y5) (by have := HG4.out; dsimp only; omega)).trans y5
               obtain ⟨cur6, hcur6⟩ := HRA5.out
               have hrA6 := hcur6.only hon4 hcur6.size (by have := HG4.out; omega)
               have fa0 := hrA6.free 0
               have fa1 := hrA6.free 1
               have fa2 := hrA6.free 2
               have HX6 := Lib.hid (HX5.out.only hon4 HX5.out.size (by have := HG4.out; omega))
               have HRE6 := Lib.hid (HRE5.out.only hon4 HRE5.out.size (by have := HG4.out; omega))
               have HRD6 := Lib.hid hrd4
               have HON6 := Lib.hid (HON5.out.trans (hon4.mono HON5.out.size))
               have HT6 := Lib.hid (HT5.out.keep fun z hz => hon4.block z (HT5.out.lt z hz).2 (by have := HBK.out z hz; have := HG4.out; omega))
               have HK6 := Lib.hid (ht4.lower (base' := w.heap.size + 2) (by have := HX5.out.size; have := HG4.out; omega))
               have HD6 := Lib.hid (show ∀ z, z ∈ b2 → z ∈ b4 → False from fun z h1 h2 => by
                 have e1 := HBK.out z h1
                 have e2 := (ht4.lt z h2).1
                 have e3 := HX5.out.size
                 omega)
               have HI6 := Lib.hid hi4
               have HS6 := Lib.hid hs4
               have HOK6 := Lib.hid hok4
               have cell6 : ∀ i u, w5.cell? ⟨gA, i, none⟩ = some u → w6.cell? ⟨gA, i, none⟩ = some u := fun i u h => (hon4.cell (p := ⟨gA, i, none⟩) (World.block_lt_of_cell? _ _ h) (by have := HG4.out; dsimp only; omega)).trans h
               have ca0 := cell6 0 _ y0
               have ca1 := cell6 1 _ y1
               have ca2 := cell6 2 _ y2
               clear hi4 ht4 hs4 hrd4 hok4 hon4 hcur6 hrA6 cell6)
            | (refine step_call (f := 32) rfl (by kernel_rfl) HC1.out ?_
               rintro e w5 ⟨o3, m3, k3, A3, c3, b3, p3, rfl, hi3, ht3, hs3, hrd3, hok3, hon3⟩
               refine ⟨_, rfl, ?_⟩
               have hon3' : Only g w4.heap.size w4 w5 := ((Only.refl g w4.heap.size w4).drew).trans hon3
               have y5 : w5.cell? ⟨c5, 2, none⟩ = some (.slice (some ⟨gA, 0, none⟩) (Fo.cons o1 m1 k1 r).len c2) := (hon3'.cell (p := ⟨c5, 2, none⟩) HX4.out.size (by have := HG4.out; dsimp only; omega)).trans q50
               have y0 := (hon3.cell (p := ⟨gA, 0, none⟩) (World.block_lt_of_cell? _ _ p0) (by have := HG4.out; dsimp only; omega)).trans p0
               have y1 := (hon3.cell (p := ⟨gA, 1, none⟩) (World.block_lt_of_cell? _ _ p1) (by have := HG4.out; dsimp only; omega)).trans p1
               have y2 := (hon3.cell (p := ⟨gA, 2, none⟩) (World.block_lt_of_cell? _ _ p2) (by have := HG4.out; dsimp only; omega)).trans p2
               have HRA5 := Lib.hid (show ∃ cur, Row w5 gA 36 cur from by
                 obtain ⟨cur5, h5⟩ := HRA.out
                 exact ⟨cur5, h5.only hon3' h5.size (by have := HG4.out; omega)⟩)
               have HX5 := Lib.hid (HX4.out.only hon3' HX4.out.size (by have := HG4.out; omega))
               have HRE5 := Lib.hid (HRE4.out.only hon3' HRE4.out.size (by have := HG4.out; omega))
               have HON5 := Lib.hid (HON4.out.trans (hon3'.mono HON4.out.size))
               have HT5 := Lib.hid (HT4.out.keep fun z hz => hon3'.block z (HT4.out.lt z hz).2 (by have := HBK.out z hz; have := HG4.out; omega))
               have HS5 := Lib.hid hs3
               have HC2 := Lib.hid (IH.out (Q - p3) (by have := hok3.lt; have := HOK.out.lt; omega) g base A bc bs Q p3 b o3 m3 k3 A3 c3 w5 rfl hrd3 (liesY_only HY0.out HON5.out HG4.out.1 hbg) hbg hl hQ (hok3.mono (by omega)) (by omega) ((ht3.lies (B := w5.heap.size) fun z hz => (ht3.lt z hz).2).mono_ (Nat.zero_le _) (Nat.le_refl _)) hi3 (by have := hs3.1; omega))
               clear ht3 hi3 hs3 hrd3 hok3 hon3 hon3'))
        all_goals
          have HX8 := Lib.hid (((HX6.out.apart (p := ⟨gA, 0, none⟩) (by dsimp only; omega) (.int .i64 o4)).apart (p := ⟨gA, 1, none⟩) (by dsimp only; omega) (.int .i64 m4)).apart (p := ⟨gA, 2, none⟩) (by dsimp only; omega) (.slice A4 k4.len c4))
          have HRE8 := Lib.hid (((HRE6.out.apart (p := ⟨gA, 0, none⟩) (by dsimp only; omega) (.int .i64 o4)).apart (p := ⟨gA, 1, none⟩) (by dsimp only; omega) (.int .i64 m4)).apart (p := ⟨gA, 2, none⟩) (by dsimp only; omega) (.slice A4 k4.len c4))
          have HRD8 := Lib.hid (((Row.apart HRD6.out (p := ⟨gA, 0, none⟩) (by have := HG4.out; dsimp only; omega) (.int .i64 o4)).apart (p := ⟨gA, 1, none⟩) (by have := HG4.out; dsimp only; omega) (.int .i64 m4)).apart (p := ⟨gA, 2, none⟩) (by have := HG4.out; dsimp only; omega) (.slice A4 k4.len c4))
          have HON8 := Lib.hid (((HON6.out.set (p := ⟨gA, 0, none⟩) (.inr (by dsimp only; omega)) (.int .i64 o4)).set (p := ⟨gA, 1, none⟩) (.inr (by dsimp only; omega)) (.int .i64 m4)).set (p := ⟨gA, 2, none⟩) (.inr (by dsimp only; omega)) (.slice A4 k4.len c4))
          obtain ⟨b8, hT8⟩ := tree_head HT6.out HK6.out HD6.out HI6.out
          have HT8 := Lib.hid (show Tree _ (w.heap.size + 2) (.slice (some ⟨gA, 0, none⟩) (Fo.cons o4 m4 k4 r).len c2) (.cons o4 m4 k4 r) b8 from hT8)
          have HSZ8 := Lib.hid (show (Fo.cons o4 m4 k4 r).size + p ≤ (Fo.cons o1 m1 k1 r).size + p4 ∧ p < p4 by have h1 := HS5.out; have h2 := HS6.out; simp only [Fo.size]; omega)
          clear hT8 fa0 fa1 fa2 ca0 ca1 ca2 z5 y5 y0 y1 y2 q5 q50 p0 p1 p2
          have s0 := HX8.out.cell (i := 0) rfl
          have s1 := HX8.out.cell (i := 1) rfl
          have s2 := HX8.out.cell (i := 2) rfl
          have f0 := HRE8.out.free 0
          have f1 := HRE8.out.free 1
          have f2 := HRE8.out.free 2
          have d0 := HRE8.out.cell (i := 0) rfl
          have d1 := HRE8.out.cell (i := 1) rfl
          have d2 := HRE8.out.cell (i := 2) rfl
          go_wp2_with fail
          have r7 := ((HRE8.out.put 0 (.int .i64 op)).put 1 (.int .i64 n)).put 2 (.slice (some ⟨gA, 0, none⟩) (Fo.cons o1 m1 k1 r).len c2)
          have t0 := r7.cell (i := 0) rfl
          have t1 := r7.cell (i := 1) rfl
          have t2 := r7.cell (i := 2) rfl
          refine bodyPost_ret (v := .agg #[.int .i64 op, .int .i64 n, .slice (some ⟨gA, 0, none⟩) (Fo.cons o1 m1 k1 r).len c2]) ?_ rfl (mut_end (k := .cons o4 m4 k4 r) HT8.out hi HSZ8.out HRD8.out HOK6.out HON8.out HG4.out.2.1 _ _ _)
          simp [results, Tryz.f32, go_sem, t0, t1, t2]
    · obtain ⟨x, hx⟩ : ∃ x, x = pkL bs p 30 := ⟨_, rfl⟩
      rw [← hx] at hx3
      rw [← hx]
      clear hx
      rcases (show x = 0 ∨ x = 1 ∨ x = 2 ∨ (x ≠ 0 ∧ x ≠ 1 ∧ x ≠ 2) by omega) with rfl | rfl | rfl | ⟨h0, h1, h2⟩
      · rw [show ((0 : Nat) : Int) = 0 from rfl]
        go_wp2_with fail
        have ba := (Below.refl w4.heap.size w4).alloc (Nat.le_refl _) (Obj.cells #[.int .i64 0, .int .i64 10, .int .i64 1, .int .i64 2, .int .i64 4] 3)
        have HN := Lib.hid (num_v g base A bc bs (p + 1) (some ⟨w4.heap.size, 0, none⟩) 5 [0, 10, 1, 2, 4] _ (Row.below HRD4.out ba (Row.size HRD4.out)) ((liesY_only HY0.out HON4.out HG4.out.1 hbg).below (ba.mono (by have := HG4.out; omega))) hbg hl (HOK1.out.pb hQ) (lies_new w4 (g + 1) [0, 10, 1, 2, 4] (by intro x hx; simp at hx; unfold I64; omega) (by have := HG4.out; omega)) (by decide) (by decide))
        have HA := Lib.hid ba
        clear ba
        refine HN.out.mono ?_
        rintro e w8 ⟨y, -, hyi, rfl, hr8, hon8⟩
        have hon48 : Only g w4.heap.size w4 w8 := (Only.of_below HA.out).trans (hon8.mono HA.out.size)
        have hx8 := HX4.out.only hon48 HX4.out.size (by have := HG4.out; omega)
        have hre8 := HRE4.out.only hon48 HRE4.out.size (by have := HG4.out; omega)
        have HX8 := Lib.hid (hx8.put 0 (.int .i64 y))
        have HRE8 := Lib.hid (hre8.apart (p := ⟨c5, 0, none⟩) (by have := HG4.out; dsimp only; omega) (.int .i64 y))
        have HRD8 := Lib.hid (show Rd (w8.setCell ⟨c5, 0, none⟩ (.int .i64 y)) g A bc bs (p + 1 + 1) from Row.apart hr8 (by have := HG4.out; dsimp only; omega) _)
        have HON8 := Lib.hid ((HON4.out.trans (hon48.mono HON4.out.size)).set (p := ⟨c5, 0, none⟩) (.inr (by have := HG4.out; dsimp only; omega)) (.int .i64 y))
        have HT8 := Lib.hid (show Tree (w8.setCell ⟨c5, 0, none⟩ (.int .i64 y)) (w.heap.size + 2) (.slice A2 k.len c2) k b2 from (HT4.out.keep fun z hz => hon48.block z (HT4.out.lt z hz).2 (by have := HBK.out z hz; have := HG4.out; omega)).keep fun z hz => Below.heap_setCell _ _ _ z (by have := HBK.out z hz; dsimp only; omega))
        have HOK8 := Lib.hid (show Ok bs Q (p + 1 + 1) (b + 2) from (HOK1.out.next hQ (by omega)).mono (by omega))
        have HYI := Lib.hid hyi
        have fx := hx8.free 0
        have cx := hx8.cell (i := 0) rfl
        clear hon48 hx8 hre8 hr8 hon8 hyi HN HA HT4 HX4 HRE4 HRD4 HON4
        go_upto_region 12 with fail
        clear fx cx
        have s0 := HX8.out.cell (i := 0) rfl
        have s1 := HX8.out.cell (i := 1) rfl
        have s2 := HX8.out.cell (i := 2) rfl
        have f0 := HRE8.out.free 0
        have f1 := HRE8.out.free 1
        have f2 := HRE8.out.free 2
        have d0 := HRE8.out.cell (i := 0) rfl
        have d1 := HRE8.out.cell (i := 1) rfl
        have d2 := HRE8.out.cell (i := 2) rfl
        go_wp2_with fail
        have r7 := ((HRE8.out.put 0 (.int .i64 y)).put 1 (.int .i64 n)).put 2 (.slice A2 k.len c2)
        have t0 := r7.cell (i := 0) rfl
        have t1 := r7.cell (i := 1) rfl
        have t2 := r7.cell (i := 2) rfl
        refine bodyPost_ret (v := .agg #[.int .i64 y, .int .i64 n, .slice A2 k.len c2]) ?_ rfl (mut_end HT8.out ⟨HYI.out, hi.2⟩ ⟨by omega, by omega⟩ HRD8.out HOK8.out HON8.out HG4.out.2.1 _ _ _)
        simp [results, Tryz.f32, go_sem, t0, t1, t2]
      · rw [show ((1 : Nat) : Int) = 1 from rfl]
        go_wp2_with fail
        have ba := (Below.refl w4.heap.size w4).alloc (Nat.le_refl _) (Obj.cells #[.int .i64 100, .int .i64 (-1), .int .i64 8, .int .i64 3] 3)
        have HN := Lib.hid (num_v g base A bc bs (p + 1) (some ⟨w4.heap.size, 0, none⟩) 4 [100, -1, 8, 3] _ (Row.below HRD4.out ba (Row.size HRD4.out)) ((liesY_only HY0.out HON4.out HG4.out.1 hbg).below (ba.mono (by have := HG4.out; omega))) hbg hl (HOK1.out.pb hQ) (lies_new w4 (g + 1) [100, -1, 8, 3] (by intro x hx; simp at hx; unfold I64; omega) (by have := HG4.out; omega)) (by decide) (by decide))
        have HA := Lib.hid ba
        clear ba
        refine HN.out.mono ?_
        rintro e w8 ⟨y, -, hyi, rfl, hr8, hon8⟩
        have hon48 : Only g w4.heap.size w4 w8 := (Only.of_below HA.out).trans (hon8.mono HA.out.size)
        have hx8 := HX4.out.only hon48 HX4.out.size (by have := HG4.out; omega)
        have hre8 := HRE4.out.only hon48 HRE4.out.size (by have := HG4.out; omega)
        have HX8 := Lib.hid (hx8.put 1 (.int .i64 y))
        have HRE8 := Lib.hid (hre8.apart (p := ⟨c5, 1, none⟩) (by have := HG4.out; dsimp only; omega) (.int .i64 y))
        have HRD8 := Lib.hid (show Rd (w8.setCell ⟨c5, 1, none⟩ (.int .i64 y)) g A bc bs (p + 1 + 1) from Row.apart hr8 (by have := HG4.out; dsimp only; omega) _)
        have HON8 := Lib.hid ((HON4.out.trans (hon48.mono HON4.out.size)).set (p := ⟨c5, 1, none⟩) (.inr (by have := HG4.out; dsimp only; omega)) (.int .i64 y))
        have HT8 := Lib.hid (show Tree (w8.setCell ⟨c5, 1, none⟩ (.int .i64 y)) (w.heap.size + 2) (.slice A2 k.len c2) k b2 from (HT4.out.keep fun z hz => hon48.block z (HT4.out.lt z hz).2 (by have := HBK.out z hz; have := HG4.out; omega)).keep fun z hz => Below.heap_setCell _ _ _ z (by have := HBK.out z hz; dsimp only; omega))
        have HOK8 := Lib.hid (show Ok bs Q (p + 1 + 1) (b + 2) from (HOK1.out.next hQ (by omega)).mono (by omega))
        have HYI := Lib.hid hyi
        have fx := hx8.free 1
        have cx := hx8.cell (i := 1) rfl
        clear hon48 hx8 hre8 hr8 hon8 hyi HN HA HT4 HX4 HRE4 HRD4 HON4
        go_upto_region 12 with fail
        clear fx cx
        have s0 := HX8.out.cell (i := 0) rfl
        have s1 := HX8.out.cell (i := 1) rfl
        have s2 := HX8.out.cell (i := 2) rfl
        have f0 := HRE8.out.free 0
        have f1 := HRE8.out.free 1
        have f2 := HRE8.out.free 2
        have d0 := HRE8.out.cell (i := 0) rfl
        have d1 := HRE8.out.cell (i := 1) rfl
        have d2 := HRE8.out.cell (i := 2) rfl
        go_wp2_with fail
        have r7 := ((HRE8.out.put 0 (.int .i64 op)).put 1 (.int .i64 y)).put 2 (.slice A2 k.len c2)
        have t0 := r7.cell (i := 0) rfl
        have t1 := r7.cell (i := 1) rfl
        have t2 := r7.cell (i := 2) rfl
        refine bodyPost_ret (v := .agg #[.int .i64 op, .int .i64 y, .slice A2 k.len c2]) ?_ rfl (mut_end HT8.out ⟨hi.1, HYI.out⟩ ⟨by omega, by omega⟩ HRD8.out HOK8.out HON8.out HG4.out.2.1 _ _ _)
        simp [results, Tryz.f32, go_sem, t0, t1, t2]
      · rw [show ((2 : Nat) : Int) = 2 from rfl]
        have g2 := HX4.out.cell (i := 2) rfl
        have HNE := Lib.hid (show ∀ z, z < w.heap.size + 2 ∨ z = c5 → some z ≠ (Value.slice A2 k.len c2).ownBlock from fun z hz e => by
          have h9 : z ∈ b2 := by
            obtain ⟨st, b1', _, _, rfl, _⟩ := HT4.out
            exact List.mem_append_left _ (by unfold blkV; rw [← e]; simp)
          have := HBK.out z h9
          omega)
        go_upto_region 12 with (at_builtin; refine wpList_push rfl (.tmp 25) (.tmp 27) rfl (w.heap.size + 2) (.slice A2 k.len c2) k b2 [] 1 0 .nil none 0 rfl rfl HT4.out (Tree.none _ _) ⟨by unfold I64; omega, by unfold I64; omega⟩ (fun _ _ h => by cases h) (by have := Fo.len_le_size k; omega) (by have := HG4.out; omega) ?_; intro v6 w6 b6 ht6 hg6 hin6; obtain ⟨A6, c6, rfl, hc61, hc62⟩ := ht6.slice; have hx6 := row_grown HX4.out hg6 (HNE.out _ (.inr rfl)); have fx := hx6.free 2; have cx := hx6.cell (i := 2) rfl)
        have hre6 := row_grown HRE4.out hg6 (HNE.out _ (.inl (by omega)))
        have hrd6 : Rd w6 g A bc bs (p + 1) := row_grown HRD4.out hg6 (HNE.out _ (.inl (by have := HG4.out; omega)))
        have hon6 := HON4.out.grown hg6 fun z hz => by
          have h9 : z ∈ b2 := by
            obtain ⟨st, b1', _, _, rfl, _⟩ := HT4.out
            exact List.mem_append_left _ (by unfold blkV; rw [hz]; simp)
          have := HBK.out z h9
          omega
        have HX8 := Lib.hid (hx6.put 2 (.slice A6 (k.snoc 1 0 .nil).len c6))
        have HRE8 := Lib.hid (hre6.apart (p := ⟨c5, 2, none⟩) (by have := HG4.out; dsimp only; omega) (.slice A6 (k.snoc 1 0 .nil).len c6))
        have HRD8 := Lib.hid (show Rd (w6.setCell ⟨c5, 2, none⟩ (.slice A6 (k.snoc 1 0 .nil).len c6)) g A bc bs (p + 1) from Row.apart hrd6 (by have := HG4.out; dsimp only; omega) _)
        have HON8 := Lib.hid (hon6.set (p := ⟨c5, 2, none⟩) (.inr (by have := HG4.out; dsimp only; omega)) (.slice A6 (k.snoc 1 0 .nil).len c6))
        have hc5 : c5 ∉ b6 := fun h => by
          rcases hin6 c5 h with h | h | h
          · have := HBK.out _ h; omega
          · cases h
          · have := HG4.out; omega
        have HT8 := Lib.hid (show Tree (w6.setCell ⟨c5, 2, none⟩ (.slice A6 (k.snoc 1 0 .nil).len c6)) (w.heap.size + 2) (.slice A6 (k.snoc 1 0 .nil).len c6) (k.snoc 1 0 .nil) b6 from ht6.keep fun z hz => Below.heap_setCell _ _ _ z (fun e => hc5 (by have e1 : z = c5 := e; rw [← e1]; exact hz)))
        have HOK8 := Lib.hid (show Ok bs Q (p + 1) (b + 2) from HOK1.out.mono (by omega))
        have HSZ8 := Lib.hid (show (k.snoc 1 0 .nil).size = k.size + 1 by rw [snoc_size]; rfl)
        clear HNE hx6 hre6 hrd6 hon6 hc5 ht6 hg6 hin6 hc61 hc62 HT4 HX4 HRE4 HRD4 HON4 fx cx g2
        have s0 := HX8.out.cell (i := 0) rfl
        have s1 := HX8.out.cell (i := 1) rfl
        have s2 := HX8.out.cell (i := 2) rfl
        have f0 := HRE8.out.free 0
        have f1 := HRE8.out.free 1
        have f2 := HRE8.out.free 2
        have d0 := HRE8.out.cell (i := 0) rfl
        have d1 := HRE8.out.cell (i := 1) rfl
        have d2 := HRE8.out.cell (i := 2) rfl
        go_wp2_with fail
        have r7 := ((HRE8.out.put 0 (.int .i64 op)).put 1 (.int .i64 n)).put 2 (.slice A6 (k.snoc 1 0 .nil).len c6)
        have t0 := r7.cell (i := 0) rfl
        have t1 := r7.cell (i := 1) rfl
        have t2 := r7.cell (i := 2) rfl
        refine bodyPost_ret (v := .agg #[.int .i64 op, .int .i64 n, .slice A6 (k.snoc 1 0 .nil).len c6]) ?_ rfl (mut_end HT8.out hi ⟨by have := HSZ8.out; omega, by omega⟩ HRD8.out HOK8.out HON8.out HG4.out.2.1 _ _ _)
        simp [results, Tryz.f32, go_sem, t0, t1, t2]
      · have h0' : ((x : Int) == 0) = false := by simp; omega
        have h1' : ((x : Int) == 1) = false := by simp; omega
        have h2' : ((x : Int) == 2) = false := by simp; omega
        have h3' : ((x : Int) == 3) = false := by simp; omega
        clear h0 h1 h2 hx3
        have s0 := HX4.out.cell (i := 0) rfl
        have s1 := HX4.out.cell (i := 1) rfl
        have s2 := HX4.out.cell (i := 2) rfl
        have f0 := HRE4.out.free 0
        have f1 := HRE4.out.free 1
        have f2 := HRE4.out.free 2
        have d0 := HRE4.out.cell (i := 0) rfl
        have d1 := HRE4.out.cell (i := 1) rfl
        have d2 := HRE4.out.cell (i := 2) rfl
        go_wp2_with fail
        have r7 := ((HRE4.out.put 0 (.int .i64 op)).put 1 (.int .i64 n)).put 2 (.slice A2 k.len c2)
        have t0 := r7.cell (i := 0) rfl
        have t1 := r7.cell (i := 1) rfl
        have t2 := r7.cell (i := 2) rfl
        refine bodyPost_ret (v := .agg #[.int .i64 op, .int .i64 n, .slice A2 k.len c2]) ?_ rfl (mut_end HT4.out hi ⟨by omega, by omega⟩ HRD4.out (HOK1.out.mono (by omega)) HON4.out HG4.out.2.1 _ _ _)
        simp [results, Tryz.f32, go_sem, t0, t1, t2]
end Go.Proofs.YtpknegneogdmfaaGreat
